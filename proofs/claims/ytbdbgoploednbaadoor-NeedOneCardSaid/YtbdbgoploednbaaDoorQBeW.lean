/- Package beyond: Wants. -/
import Derived.RangeFuncNested
import Derived.RangeFuncBound
import Derived.RangeFuncCalls
import Derived.RangeFuncLeaves
import Derived.RangeFuncBox
import Derived.Shelf.Abstract
import Derived.Shelf.RegionOpen
import Derived.WalkKit
import Derived.OwnWalkIn
import Derived.TacticsInMore
import Derived.LoopNIn
import Derived.LoopIn
import Derived.WalkMore
import Derived.Test.YtbdbgoploednbaaDoorQBeF
import Derived.Test.YtbdbgoploednbaaDoorQBeN
namespace Go.Proofs.YtbdbgoploednbaaDoor
open Go.RowKit Go.Shelf
set_option linter.unusedVariables false
set_option linter.unusedSimpArgs false

attribute [local go_sem] Oper.semAt_some

/-- append at an operation inside a fence, by its run. -/
theorem listIn_append {F : Fence} {n : Nat} {P : Program} {ops : Array Oper} {rest : List Oper} {o : Oper} {a : Act} {w w' : World} {Q : Exit → Act → World → Prop} (hg : o.guard = none) (s x : Operand) (t : TypeId)
    (hop : o.op = .call { callee := .builtin .append, args := #[s, x], argTypes := #[t, t] }) {v' : Value} (hrun : (Builtin.append_ #[t, t] o.type #[a.eval s, a.eval x]).run P w = .ok v' w') (h : wpListIn F n P ops Q rest (a.put o.dst v') w') : wpListIn F n P ops Q (o :: rest) a w := by
  refine wpListIn_plain hg fun K hK' => ?_
  unfold Oper.wpIn
  refine ⟨?_, ?_⟩
  · simp [Oper.about, hop, resolve, Target.leads, Sem.run_pure]
  · rw [Oper.semAt_plain F _ _ (by rw [hop]; intro c hc'; cases hc')]
    simp [execOp, hop, resolve, invoke, builtin, hrun, Result.andThen]
    exact hK' _ _ h
theorem owns_stays {B : Nat} {U : Nat → Prop} {W W' : World} (h : Stays B U W W') {base e k n : Nat} {v : Value} {xs : List Value} (hown : W.ownsRow base e k v n xs) (hU : ∀ b, v.ownBlock = some b → b < B ∨ U b) : W'.ownsRow base e k v n xs := by
  refine ⟨hown.1, ?_⟩
  rcases hown.2 with h2 | ⟨g, cap, cur, rfl, h3, h4, r⟩
  · exact .inl h2
  · exact .inr ⟨g, cap, cur, rfl, h3, h.rest g _ h4 (hU g rfl), r⟩
theorem slice_of {w : World} {base e n : Nat} {v : Value} {xs : List Value} (h : w.ownsRow base e 3 v n xs) : ∃ A c, v = .slice A n c := by
  rcases h.2 with ⟨rfl, rfl⟩ | ⟨g, cap, cur, rfl, hg, _, hn, _⟩
  · exact ⟨none, 0, rfl⟩
  · exact ⟨_, cap, rfl⟩
/-- What a round of Wants knows. -/
structure WantI (w : World) (k : Int) (g : Nat) (us : Nat → List (Int × Int × Int)) (U : Nat → Prop) (j : Nat) (W : World) : Prop where
  below : Below w.heap.size w W
  size : g + 2 ≤ W.heap.size
  kbox : Whole W (w.heap.size + 1 + 1) 3 [.int .i64 k]
  row : ∃ v, Whole W (w.heap.size + 1 + 1 + 1) 33 [v] ∧ W.ownsRow (w.heap.size + 4) 46 3 v (us j).length ((us j).flatMap needCells) ∧ ∀ b, v.ownBlock = some b → b < g ∨ (g + 2 ≤ b ∧ U b)
theorem WantI.safe (w : World) (k : Int) (g : Nat) (us : Nat → List (Int × Int × Int)) (hg : w.heap.size + 4 ≤ g) : Safe (g + 2) (WantI w k g us) := by
  rintro U j W W' ⟨h1, h2, h3, v, h4, h5, h6⟩ ht
  exact ⟨Safe.below (β := Unit) (B := g + 2) (by omega) (Nat.le_refl _) U () W W' h1 ht, Nat.le_trans h2 ht.size, ht.whole h3 (.inl (by omega)), v, ht.whole h4 (.inl (by omega)), owns_stays ht h5 (fun b hb => by rcases h6 b hb with h | h; exact .inl (by omega); exact .inr h.2), h6⟩
theorem WantI.up {w W : World} {k : Int} {g : Nat} {us : Nat → List (Int × Int × Int)} {U U' : Nat → Prop} {j : Nat} (h : WantI w k g us U j W) (hU : ∀ k, U k → U' k) : WantI w k g us U' j W :=
  ⟨h.1, h.2, h.3, let ⟨v, h5, h6, h7⟩ := h.4; ⟨v, h5, h6, fun b hb => (h7 b hb).imp id (fun x => ⟨x.1, hU b x.2⟩)⟩⟩
/-- A need more is appended. -/
theorem WantI.append {w W : World} {k : Int} {g : Nat} {us : Nat → List (Int × Int × Int)} {U : Nat → Prop} {j : Nat} {m : Int × Int × Int} (hg : w.heap.size + 4 ≤ g) (h : WantI w k g us U j W) (hj : us (j + 1) = us j ++ [m]) (hn : (us j).length ≤ 1000) (hUl : ∀ k, U k → k < W.heap.size) :
    ∃ v, W.cell? ⟨w.heap.size + 1 + 1 + 1, 0, none⟩ = some v ∧ ∃ v' W3, (Builtin.append_ #[33, 33] 33 #[v, .slice (some ⟨W.heap.size, 0, none⟩) 1 1]).run Tryd.prog (W.alloc (.cells #[.int .i64 m.1, .int .i64 m.2.1, .int .i64 m.2.2] 46)) = .ok v' W3 ∧
      Whole W3 (w.heap.size + 1 + 1 + 1) 33 [v] ∧ (∃ A n c, v' = .slice A n c) ∧
      WantI w k g us (With U W (W3.setCell ⟨w.heap.size + 1 + 1 + 1, 0, none⟩ v')) (j + 1) (W3.setCell ⟨w.heap.size + 1 + 1 + 1, 0, none⟩ v') ∧
      W.heap.size ≤ (W3.setCell ⟨w.heap.size + 1 + 1 + 1, 0, none⟩ v').heap.size ∧ Kept (fun q => q < w.heap.size ∨ (q = g ∨ q = g + 1)) (g + 2) U W (W3.setCell ⟨w.heap.size + 1 + 1 + 1, 0, none⟩ v') := by
  obtain ⟨h1, h2, h3, v, h5, h6, h7⟩ := h
  refine ⟨v, h5.cell_at 0 rfl, ?_⟩
  have hb1 := below1 W (.cells #[.int .i64 m.1, .int .i64 m.2.1, .int .i64 m.2.2] 46)
  obtain ⟨v', W3, hrun, hown, hgr, hBl, hblk⟩ := append_need (w.heap.size + 4) (us j).length v ((us j).flatMap needCells) m (W.alloc (.cells #[.int .i64 m.1, .int .i64 m.2.1, .int .i64 m.2.2] 46)) W.heap.size (owns_keep h6 hb1) (Whole.new W _ (needCells m)) hn (by simp; omega)
  have hvb : ∀ b, v.ownBlock = some b → w.heap.size + 4 ≤ b := fun b hb => (h6.lt b hb).1
  have hs3 : W.heap.size + 1 ≤ W3.heap.size := by have := hgr.size; simpa using this
  have hkeep : ∀ k o, W.heap[k]? = some o → (∀ b, v.ownBlock = some b → k ≠ b) → W3.heap[k]? = some o := fun k o ho hne => by
    have hlt := (Array.getElem?_eq_some_iff.1 ho).1
    exact (hgr.block k (by simp; omega) (fun e => hne k e.symm rfl)).trans ((hb1.block k hlt).trans ho)
  have hset : ∀ k o, W3.heap[k]? = some o → k ≠ w.heap.size + 1 + 1 + 1 → (W3.setCell ⟨w.heap.size + 1 + 1 + 1, 0, none⟩ v').heap[k]? = some o := fun k o ho hne => (Below.heap_setCell W3 ⟨w.heap.size + 1 + 1 + 1, 0, none⟩ v' k hne).trans ho
  have hbox3 : Whole W3 (w.heap.size + 1 + 1 + 1) 33 [v] := hkeep _ _ h5 (fun b hb => by have := hvb b hb; omega)
  have hsz : (W3.setCell ⟨w.heap.size + 1 + 1 + 1, 0, none⟩ v').heap.size = W3.heap.size := by simp [World.setCell]
  refine ⟨v', W3, hrun, hbox3, (let ⟨A, c, e⟩ := slice_of hown; ⟨A, _, c, e⟩), ⟨?_, by rw [hsz]; omega, hset _ _ (hkeep _ _ h3 (fun b hb => by have := hvb b hb; omega)) (by omega), v', hbox3.set 0 v', ?_, ?_⟩, by rw [hsz]; omega, ⟨by rw [hsz]; omega, ?_⟩⟩
  · exact (h1.trans ((hb1.mono (by omega)).trans (hBl.mono (by omega)))).setCell (p := ⟨w.heap.size + 1 + 1 + 1, 0, none⟩) (by show w.heap.size ≤ w.heap.size + 1 + 1 + 1; omega) _
  · rw [hj, List.length_append, List.flatMap_append]
    have := hown.kept (grownBy_setCell' W3 (w.heap.size + 1 + 1 + 1) v') (.inr (fun e => by have := (hown.lt _ e).1; omega))
    simpa using this
  · intro b hb
    rcases hblk with e | e
    · exact (h7 b (e ▸ hb)).imp id (fun x => ⟨x.1, .inl x.2⟩)
    · rw [hb] at e
      have e' := Option.some.inj e
      simp at e'
      refine .inr ⟨by omega, .inr ⟨by omega, by rw [hsz]; exact (hown.lt b hb).2⟩⟩
  · intro k o ho hr
    refine hset _ _ (hkeep _ _ ho (fun b hb e => ?_)) (fun e => ?_)
    · have q1 := hvb b hb
      have q2 := h7 b hb
      rcases hr with hr | hr
      · omega
      · rcases q2 with q2 | q2
        · omega
        · exact hr.2 (e ▸ q2.2)
    · rcases hr with hr | hr <;> omega
/-- What is wanted, the step's flanks being given one by one. -/
def usV (l : Lay) (s i o k : Int) (j : Nat) : List (Int × Int × Int) := firstV l s i o k ++ ((flanksV l s i o).take j).map (fun f => (f.2.2.1, f.2.2.2, k))
theorem us_zero (l : Lay) (s i o k : Int) : usV l s i o k 0 = firstV l s i o k := by simp [usV]
theorem us_next {l : Lay} {s i o k : Int} {j : Nat} {f : Int × Int × Int × Int} (h : (flanksV l s i o)[j]? = some f) : usV l s i o k (j + 1) = usV l s i o k j ++ [(f.2.2.1, f.2.2.2, k)] := by
  unfold usV
  rw [List.take_add_one, h, Option.toList_some, List.map_append, List.append_assoc]
  rfl
theorem us_all (l : Lay) (s i o k : Int) : usV l s i o k (flanksV l s i o).length = wantsV l s i o k := by unfold usV wantsV; rw [List.take_length]
theorem us_le (l : Lay) (s i o k : Int) (j : Nat) : (usV l s i o k j).length ≤ j + 1 := by
  unfold usV
  have h1 := first_le l s i o k
  rw [List.length_append, List.length_map, List.length_take]
  omega
/-- What lies ahead of the range. -/
structure Start (l : Lay) (s i o k : Int) (w : World) (v : Value) (W : World) : Prop where
  below : Below w.heap.size w W
  size : w.heap.size + 4 ≤ W.heap.size
  box0 : Whole W w.heap.size 29 l.cells
  box1 : Whole W (w.heap.size + 1) 56 (stpCells (s, i, o))
  kbox : Whole W (w.heap.size + 1 + 1) 3 [.int .i64 k]
  row : Whole W (w.heap.size + 1 + 1 + 1) 33 [v]
  own : W.ownsRow (w.heap.size + 4) 46 3 v (usV l s i o k 0).length ((usV l s i o k 0).flatMap needCells)

set_option maxRecDepth 100000 in
set_option maxHeartbeats 8000000 in
theorem wants_any {l : Lay} {w : World} (hT : Shapes w) (hL : Lies l w) (hF : l.flanks.length ≤ 900) (s i o k : Int) {ns : List (Int × Int × Int)} (hs : wantsV l s i o k = ns) :
    Calls Tryd.prog 46 #[l.val, stpV s i o, .int .i64 k] w fun e w' => ∃ v, e = .returned v ∧ w'.ownsRow w.heap.size 46 3 v ns.length (ns.flatMap needCells) ∧ Below w.heap.size w w' := by
  subst hs
  have HTW : Hid (∀ W, Below w.heap.size w W → Shapes W ∧ Lies l W) := Lib.hid fun W hB => ⟨Shapes.closed _ _ hT hB, Lies.closed l _ _ hL hB⟩
  obtain ⟨⟨p, pos, ok⟩, hpv⟩ : ∃ r, pointV l s i o = r := ⟨_, rfl⟩
  have HFV : Hid (firstV l s i o k = if ok = true then [(p, pos, k)] else []) := Lib.hid (by unfold firstV; rw [hpv])
  have HXN : Hid (∀ j x, (flanksV l s i o)[j]? = some x → usV l s i o k (j + 1) = usV l s i o k j ++ [(x.2.2.1, x.2.2.2, k)]) := Lib.hid fun j x h => us_next h
  have HXL : Hid ((flanksV l s i o).length ≤ 900) := Lib.hid (Nat.le_trans (List.length_filter_le _ _) hF)
  have HXA := Lib.hid (us_all l s i o k)
  have HUL := Lib.hid (us_le l s i o k)
  have HUZ := Lib.hid (us_zero l s i o k)
  have KP : Hid (∀ W, Below w.heap.size w W → Calls Tryd.prog 69 #[l.val, stpV s i o] W fun e w' => e = .returned (.tuple #[.int .i64 p, .int .i64 pos, .bool ok]) ∧ Below W.heap.size W w') := Lib.hid (fun W hB => pointB_any (HTW.out W hB).1 (HTW.out W hB).2 s i o hpv)
  obtain ⟨W4, hW4⟩ : ∃ W4, (((w.alloc (.cells #[.slice l.As l.secs.length l.cs, .slice l.Ag l.sigs.length l.cg, .slice l.Ae l.exits.length l.ce, .slice l.Af l.flanks.length l.cf, .int .i64 l.t0, .int .i64 l.t1, .int .i64 l.t2, .int .i64 l.t3, .int .i64 l.t4, .int .i64 l.t5, .int .i64 l.t6] 29)).alloc (.cells #[.int .i64 s, .int .i64 i, .int .i64 o] 56)).alloc (.cells #[.int .i64 k] 3)).alloc (.cells #[.slice none 0 0] 33) = W4 := ⟨_, rfl⟩
  have HS4 : Hid (Below w.heap.size w W4 ∧ W4.heap.size = w.heap.size + 4 ∧ Whole W4 w.heap.size 29 l.cells ∧ Whole W4 (w.heap.size + 1) 56 (stpCells (s, i, o)) ∧ Whole W4 (w.heap.size + 1 + 1) 3 [.int .i64 k] ∧ Whole W4 (w.heap.size + 1 + 1 + 1) 33 [.slice none 0 0]) := Lib.hid (by
    rw [← hW4]
    exact ⟨((below3 w _ _ _).alloc (by simp; omega) _), by simp, (((Whole.new w _ l.cells).alloc _).alloc _).alloc _, ((Whole.new_at _ _ (stpCells (s, i, o)) _ (by simp)).alloc _).alloc _, (Whole.new_at _ _ [_] _ (by simp)).alloc _, Whole.new_at _ _ [_] _ (by simp)⟩)
  have HW4 := Lib.hid hW4
  clear hpv hW4
  refine (callsIn_wide (n := 5)).1 ?_
  refine callsIn_of_wp_marks Tryd.func46 rfl trivial ?_ rfl
  simp only [Tryd.ntmps46, List.size_toArray, List.length_cons, List.length_nil, Nat.reduceAdd, Nat.reduceSub, Array.replicate_succ, Array.replicate_zero, List.push_toArray, List.append_toArray, List.nil_append, List.cons_append]
  gi_wp2_with fail
  rw [HW4.out]
  refine ⟨trivial, (callsIn_wide.2 (KP.out _ HS4.out.1)).mono ?_⟩
  rintro e w1 ⟨rfl, hB1⟩
  have HS1 : Hid (Below w.heap.size w w1 ∧ w.heap.size + 4 ≤ w1.heap.size ∧ Whole w1 w.heap.size 29 l.cells ∧ Whole w1 (w.heap.size + 1) 56 (stpCells (s, i, o)) ∧ Whole w1 (w.heap.size + 1 + 1) 3 [.int .i64 k] ∧ Whole w1 (w.heap.size + 1 + 1 + 1) 33 [.slice none 0 0]) := Lib.hid (by
    obtain ⟨h1, h2, h3, h4, h5, h6⟩ := HS4.out
    have hs := hB1.size
    exact ⟨h1.trans (hB1.mono h1.size), by omega, h3.below hB1 h3.lt, h4.below hB1 h4.lt, h5.below hB1 h5.lt, h6.below hB1 h6.lt⟩)
  clear HS4 HW4 hB1
  cases ok
  · have HST : Hid (Start l s i o k w (.slice none 0 0) w1) := Lib.hid (by
      obtain ⟨h1, h2, h3, h4, h5, h6⟩ := HS1.out
      exact ⟨h1, h2, h3, h4, h5, h6, by rw [HUZ.out, HFV.out]; exact World.ownsRow_nil _ _ _ _⟩)
    obtain ⟨WB, rfl⟩ : ∃ W, W = w1 := ⟨w1, rfl⟩
    clear HS1
    have m0 := HST.out.box0
    have x0 := m0.cell_at 0 rfl
    have x1 := m0.cell_at 1 rfl
    have x2 := m0.cell_at 2 rfl
    have x3 := m0.cell_at 3 rfl
    have x4 := m0.cell_at 4 rfl
    have x5 := m0.cell_at 5 rfl
    have x6 := m0.cell_at 6 rfl
    have x7 := m0.cell_at 7 rfl
    have x8 := m0.cell_at 8 rfl
    have x9 := m0.cell_at 9 rfl
    have x10 := m0.cell_at 10 rfl
    clear m0
    have m0 := HST.out.box1
    have v0 := m0.cell_at 0 rfl
    have v1 := m0.cell_at 1 rfl
    have v2 := m0.cell_at 2 rfl
    clear m0
    gi_wp2_with fail
    refine ⟨trivial, (callsIn_wide.2 (flanks_any l s i o _)).mono ?_⟩
    clear x0 x1 x2 x3 x4 x5 x6 x7 x8 x9 x10 v0 v1 v2
    rintro e w2 ⟨rfl, rfl⟩
    gi_wp2_with fail
    obtain ⟨g, hg⟩ : ∃ g, WB.heap.size = g := ⟨_, rfl⟩
    obtain ⟨W0, hW0⟩ : ∃ W0, (WB.alloc (.cells #[.slice l.As l.secs.length l.cs, .slice l.Ag l.sigs.length l.cg, .slice l.Ae l.exits.length l.ce, .slice l.Af l.flanks.length l.cf, .int .i64 l.t0, .int .i64 l.t1, .int .i64 l.t2, .int .i64 l.t3, .int .i64 l.t4, .int .i64 l.t5, .int .i64 l.t6] 29)).alloc (.cells #[.int .i64 s, .int .i64 i, .int .i64 o] 56) = W0 := ⟨_, rfl⟩
    have hsz : W0.heap.size = g + 2 := by rw [← hW0]; simp; omega
    have hg4 : w.heap.size + 4 ≤ g := by have := HST.out.size; omega
    have b3 : Whole W0 g 29 l.cells := by rw [← hW0]; exact (Whole.new_at _ _ l.cells _ hg.symm).alloc _
    have b4 : Whole W0 (g + 1) 56 (stpCells (s, i, o)) := by rw [← hW0]; exact Whole.new_at _ _ (stpCells (s, i, o)) _ (by simp; omega)
    have hB2 : Below WB.heap.size WB W0 := by rw [← hW0]; exact below2 _ _ _
    have hB0 : Below w.heap.size w W0 := HST.out.below.trans (hB2.mono HST.out.below.size)
    have hI0 : WantI w k g (usV l s i o k) (fun _ => False) 0 W0 := ⟨hB0, by omega, HST.out.kbox.below hB2 HST.out.kbox.lt, _, HST.out.row.below hB2 HST.out.row.lt, owns_keep HST.out.own hB2, fun b hb => by have := (HST.out.own.lt b hb).2; exact .inl (by omega)⟩
    try rw [hW0]
    try rw [hg]
    clear hW0 hB2
    have hit := flanks_iter (w0 := W0) (wa := w) hT hL (fun k o hk ho => (hB0.block k hk).trans ho) hB0.size b3 b4
    obtain ⟨xs, hxs⟩ : ∃ xs, flanksV l s i o = xs := ⟨_, rfl⟩
    rw [hxs] at hit HXN HXL HXA
    have HSZ := Lib.hid hsz
    have HG4 := Lib.hid hg4
    clear hT hL hxs b3 b4 hg HST hF
    refine range_iterU (gf := 82) rfl (enters_of Tryd.func82 (by kernel_rfl) rfl) hit (Keeps.refl _ _) (fun k hk => by have := HSZ.out; have := HG4.out; rcases hk with h | h | h <;> omega) (fun _ => rfl) (by omega)
      (WantI w k g (usV l s i o k)) (fun _ _ _ => False) (by rw [hsz]; exact WantI.safe w k g _ hg4) (fun _ => by rw [hsz]; exact fun _ _ _ _ h _ => h.elim)
      hI0
      (fun U j x a' W => WantI w k g (usV l s i o k) U j W ∧ ∃ gp, Whole W gp 59 (flkCells x) ∧ U gp ∧ a' = { tmps := #[l.val, stpV s i o, .int .i64 k, .pointer (some ⟨w.heap.size, 0, none⟩), .pointer (some ⟨w.heap.size + 1, 0, none⟩), .pointer (some ⟨w.heap.size + 1 + 1, 0, none⟩), .slice none 0 0, .pointer (some ⟨w.heap.size + 1 + 1 + 1, 0, none⟩), .int .i64 p, .int .i64 pos, .bool false, .pointer (some ⟨gp, 0, none⟩), .tuple #[.int .i64 p, .int .i64 pos, .bool false], .agg #[.slice l.As l.secs.length l.cs, .slice l.Ag l.sigs.length l.cg, .slice l.Ae l.exits.length l.ce, .slice l.Af l.flanks.length l.cf, .int .i64 l.t0, .int .i64 l.t1, .int .i64 l.t2, .int .i64 l.t3, .int .i64 l.t4, .int .i64 l.t5, .int .i64 l.t6], stpV s i o, .tuple #[.int .i64 p, .int .i64 pos, .bool false], .int .i64 p, .int .i64 pos, .bool false, .bool false, undef, undef, undef, undef, undef, undef, undef, .agg #[.slice l.As l.secs.length l.cs, .slice l.Ag l.sigs.length l.cg, .slice l.Ae l.exits.length l.ce, .slice l.Af l.flanks.length l.cf, .int .i64 l.t0, .int .i64 l.t1, .int .i64 l.t2, .int .i64 l.t3, .int .i64 l.t4, .int .i64 l.t5, .int .i64 l.t6], stpV s i o, .func (.func 82) #[] #[.pointer (some ⟨g, 0, none⟩), .pointer (some ⟨g + 1, 0, none⟩)], flkV x.1 x.2.1 x.2.2.1 x.2.2.2, undef, undef, undef, undef, undef, undef, undef, undef, undef, undef], defers := [] })
      (fun j x a' => by
        rw [hsz]
        rintro U u W W' ⟨h1, gp, h2, h3, h4⟩ ht
        exact ⟨WantI.safe w k g _ hg4 _ _ _ _ h1 ht, gp, ht.whole h2 (.inr h3), h3, h4⟩)
      ?assign ?body ?done ?stop
    case assign =>
      rintro lr U j x W K hx hI hsW hU hK
      have hb := below1 W (.cells (flkCells x).toArray 59)
      gi_wp2_with fail
      exact hK _ _ (With U W (W.alloc (.cells (flkCells x).toArray 59))) (Grew.with hU hb.size) (Kept.below hb) ⟨(WantI.safe w k g _ HG4.out _ _ _ _ hI (Stays.below hb)).up (fun k h => .inl h), W.heap.size, Whole.new W _ (flkCells x), .inr ⟨Nat.le_refl _, by simp⟩, rfl⟩
    case body =>
      rintro lr U j x a' W hl hx ⟨hI, gp, hgp, hUg, rfl⟩ hU
      have HE := Lib.hid (HXN.out j x hx)
      have hjn : (usV l s i o k j).length ≤ 1000 := by have := HUL.out j; have := (List.getElem?_eq_some_iff.1 hx).1; have := HXL.out; omega
      have p2 := hgp.cell_at 2 rfl
      have p3 := hgp.cell_at 3 rfl
      have k0 := hI.kbox.cell_at 0 rfl
      obtain ⟨v, c0, v', W5, hrun, hbx5, ⟨A', n', c', rfl⟩, hI5, hs5, hk5⟩ := hI.append HG4.out HE.out hjn hU
      have f0 := hbx5.frozen 0
      have c5 := hbx5.cell_at 0 rfl
      have HK5 := Lib.hid hk5
      have HI5 := Lib.hid hI5
      clear hI hgp hk5 hI5 hbx5 HE hx
      gi_wp2_with (gi_at_builtin; refine listIn_append rfl (.tmp 31) (.tmp 38) 33 rfl hrun ?_)
      exact ⟨_, Grew.with hU hs5, by first | exact HK5.out | (rw [HSZ.out]; exact HK5.out), HI5.out⟩
    case stop =>
      rintro D c U W _ _ h _
      exact h.elim
    case done =>
      rintro D U W hD hUD ⟨hB, hsW, kb, v, b2, hown, hvU⟩ hK
      have c0 := b2.cell_at 0 rfl
      have hsz := HSZ.out
      have HO : Hid ((W.putObj D (.deferred none)).ownsRow w.heap.size 46 3 v (wantsV l s i o k).length ((wantsV l s i o k).flatMap needCells)) := Lib.hid (by
        rw [← HXA.out]
        refine ⟨hown.1, ?_⟩
        rcases hown.2 with h | ⟨g', cap, cur, rfl, h3, h4, r⟩
        · exact .inl h
        · refine .inr ⟨g', cap, cur, rfl, by omega, (World.putObj_heap_other (fun e => ?_)).trans h4, r⟩
          subst e
          rw [hK] at h4
          cases h4)
      have hg4 := HG4.out
      clear hown hvU
      gi_wp2_with fail
      refine ⟨by simp, .inl ⟨_, _, rfl, run_takeDeferred hK, ?_⟩⟩
      refine ⟨v, by simp [results, Tryd.f46, go_sem], ⟨v, rfl, HO.out, hB.trans (belowK_b (w := w) (Nat.le_refl _) _ D _ _ (by omega) hK rfl rfl)⟩⟩
  · have c0 := HS1.out.2.2.2.2.2.cell_at 0 rfl
    have kk := HS1.out.2.2.2.2.1.cell_at 0 rfl
    have hs1 := HS1.out.2.1
    obtain ⟨v', w3, hrun, hown', hgr, hB3, _⟩ := append_need (w.heap.size + 4) 0 (.slice none 0 0) [] (p, pos, k) (w1.alloc (.cells #[.int .i64 p, .int .i64 pos, .int .i64 k] 46)) w1.heap.size (World.ownsRow_nil _ _ _ _) (Whole.new w1 _ (needCells (p, pos, k))) (by omega) (by simp; omega)
    have hB4 : Below (w.heap.size + 4) w1 w3 := ((below1 w1 (.cells #[.int .i64 p, .int .i64 pos, .int .i64 k] 46)).mono hs1).trans hB3
    have hbx : Whole w3 (w.heap.size + 1 + 1 + 1) 33 [.slice none 0 0] := HS1.out.2.2.2.2.2.below hB4 (by omega)
    have f0 := hbx.frozen 0
    have c5 := hbx.cell_at 0 rfl
    obtain ⟨WB, hWB⟩ : ∃ WB, w3.setCell ⟨w.heap.size + 1 + 1 + 1, 0, none⟩ v' = WB := ⟨_, rfl⟩
    have HST : Hid (Start l s i o k w v' WB) := Lib.hid (by
      obtain ⟨h1, h2, h3, h4, h5, h6⟩ := HS1.out
      rw [← hWB]
      have hz : (w3.setCell ⟨w.heap.size + 1 + 1 + 1, 0, none⟩ v').heap.size = w3.heap.size := by simp [World.setCell]
      refine ⟨(h1.trans (hB4.mono (by omega))).setCell (p := ⟨w.heap.size + 1 + 1 + 1, 0, none⟩) (by show w.heap.size ≤ w.heap.size + 1 + 1 + 1; omega) _, by rw [hz]; have := hB4.size; omega, (h3.below hB4 (by omega)).far (p := ⟨w.heap.size + 1 + 1 + 1, 0, none⟩) (by show w.heap.size ≠ w.heap.size + 1 + 1 + 1; omega) _, (h4.below hB4 (by omega)).far (p := ⟨w.heap.size + 1 + 1 + 1, 0, none⟩) (by show w.heap.size + 1 ≠ w.heap.size + 1 + 1 + 1; omega) _, (h5.below hB4 (by omega)).far (p := ⟨w.heap.size + 1 + 1 + 1, 0, none⟩) (by show w.heap.size + 1 + 1 ≠ w.heap.size + 1 + 1 + 1; omega) _, hbx.set 0 v', ?_⟩
      rw [HUZ.out, HFV.out]
      have := hown'.kept (grownBy_setCell' w3 (w.heap.size + 1 + 1 + 1) v') (.inr (fun e => by have := (hown'.lt _ e).1; omega))
      simpa using this)
    have HWB := Lib.hid hWB
    obtain ⟨A', c', hv'⟩ := slice_of hown'
    subst hv'
    have m0 := HST.out.box0
    have x0 := m0.cell_at 0 rfl
    have x1 := m0.cell_at 1 rfl
    have x2 := m0.cell_at 2 rfl
    have x3 := m0.cell_at 3 rfl
    have x4 := m0.cell_at 4 rfl
    have x5 := m0.cell_at 5 rfl
    have x6 := m0.cell_at 6 rfl
    have x7 := m0.cell_at 7 rfl
    have x8 := m0.cell_at 8 rfl
    have x9 := m0.cell_at 9 rfl
    have x10 := m0.cell_at 10 rfl
    clear m0
    have m0 := HST.out.box1
    have v0 := m0.cell_at 0 rfl
    have v1 := m0.cell_at 1 rfl
    have v2 := m0.cell_at 2 rfl
    clear m0
    clear HS1 hs1 hown' hgr hB3 hB4 hbx
    gi_wp2_with (gi_at_builtin; refine listIn_append rfl (.tmp 20) (.tmp 25) 33 rfl hrun ?_)
    clear hrun c0 kk f0 c5
    try rw [HWB.out]
    clear HWB hWB
    refine ⟨trivial, (callsIn_wide.2 (flanks_any l s i o _)).mono ?_⟩
    clear x0 x1 x2 x3 x4 x5 x6 x7 x8 x9 x10 v0 v1 v2
    rintro e w2 ⟨rfl, rfl⟩
    gi_wp2_with fail
    obtain ⟨g, hg⟩ : ∃ g, WB.heap.size = g := ⟨_, rfl⟩
    obtain ⟨W0, hW0⟩ : ∃ W0, (WB.alloc (.cells #[.slice l.As l.secs.length l.cs, .slice l.Ag l.sigs.length l.cg, .slice l.Ae l.exits.length l.ce, .slice l.Af l.flanks.length l.cf, .int .i64 l.t0, .int .i64 l.t1, .int .i64 l.t2, .int .i64 l.t3, .int .i64 l.t4, .int .i64 l.t5, .int .i64 l.t6] 29)).alloc (.cells #[.int .i64 s, .int .i64 i, .int .i64 o] 56) = W0 := ⟨_, rfl⟩
    have hsz : W0.heap.size = g + 2 := by rw [← hW0]; simp; omega
    have hg4 : w.heap.size + 4 ≤ g := by have := HST.out.size; omega
    have b3 : Whole W0 g 29 l.cells := by rw [← hW0]; exact (Whole.new_at _ _ l.cells _ hg.symm).alloc _
    have b4 : Whole W0 (g + 1) 56 (stpCells (s, i, o)) := by rw [← hW0]; exact Whole.new_at _ _ (stpCells (s, i, o)) _ (by simp; omega)
    have hB2 : Below WB.heap.size WB W0 := by rw [← hW0]; exact below2 _ _ _
    have hB0 : Below w.heap.size w W0 := HST.out.below.trans (hB2.mono HST.out.below.size)
    have hI0 : WantI w k g (usV l s i o k) (fun _ => False) 0 W0 := ⟨hB0, by omega, HST.out.kbox.below hB2 HST.out.kbox.lt, _, HST.out.row.below hB2 HST.out.row.lt, owns_keep HST.out.own hB2, fun b hb => by have := (HST.out.own.lt b hb).2; exact .inl (by omega)⟩
    try rw [hW0]
    try rw [hg]
    clear hW0 hB2
    have hit := flanks_iter (w0 := W0) (wa := w) hT hL (fun k o hk ho => (hB0.block k hk).trans ho) hB0.size b3 b4
    obtain ⟨xs, hxs⟩ : ∃ xs, flanksV l s i o = xs := ⟨_, rfl⟩
    rw [hxs] at hit HXN HXL HXA
    have HSZ := Lib.hid hsz
    have HG4 := Lib.hid hg4
    clear hT hL hxs b3 b4 hg HST hF
    refine range_iterU (gf := 82) rfl (enters_of Tryd.func82 (by kernel_rfl) rfl) hit (Keeps.refl _ _) (fun k hk => by have := HSZ.out; have := HG4.out; rcases hk with h | h | h <;> omega) (fun _ => rfl) (by omega)
      (WantI w k g (usV l s i o k)) (fun _ _ _ => False) (by rw [hsz]; exact WantI.safe w k g _ hg4) (fun _ => by rw [hsz]; exact fun _ _ _ _ h _ => h.elim)
      hI0
      (fun U j x a' W => WantI w k g (usV l s i o k) U j W ∧ ∃ gp, Whole W gp 59 (flkCells x) ∧ U gp ∧ a' = { tmps := #[l.val, stpV s i o, .int .i64 k, .pointer (some ⟨w.heap.size, 0, none⟩), .pointer (some ⟨w.heap.size + 1, 0, none⟩), .pointer (some ⟨w.heap.size + 1 + 1, 0, none⟩), .slice none 0 0, .pointer (some ⟨w.heap.size + 1 + 1 + 1, 0, none⟩), .int .i64 p, .int .i64 pos, .bool true, .pointer (some ⟨gp, 0, none⟩), .tuple #[.int .i64 p, .int .i64 pos, .bool true], .agg #[.slice l.As l.secs.length l.cs, .slice l.Ag l.sigs.length l.cg, .slice l.Ae l.exits.length l.ce, .slice l.Af l.flanks.length l.cf, .int .i64 l.t0, .int .i64 l.t1, .int .i64 l.t2, .int .i64 l.t3, .int .i64 l.t4, .int .i64 l.t5, .int .i64 l.t6], stpV s i o, .tuple #[.int .i64 p, .int .i64 pos, .bool true], .int .i64 p, .int .i64 pos, .bool true, .bool true, .slice none 0 0, .int .i64 p, .int .i64 pos, .int .i64 k, .agg #[.int .i64 p, .int .i64 pos, .int .i64 k], .slice (some ⟨w1.heap.size, 0, none⟩) 1 1, .slice A' 1 c', .agg #[.slice l.As l.secs.length l.cs, .slice l.Ag l.sigs.length l.cg, .slice l.Ae l.exits.length l.ce, .slice l.Af l.flanks.length l.cf, .int .i64 l.t0, .int .i64 l.t1, .int .i64 l.t2, .int .i64 l.t3, .int .i64 l.t4, .int .i64 l.t5, .int .i64 l.t6], stpV s i o, .func (.func 82) #[] #[.pointer (some ⟨g, 0, none⟩), .pointer (some ⟨g + 1, 0, none⟩)], flkV x.1 x.2.1 x.2.2.1 x.2.2.2, undef, undef, undef, undef, undef, undef, undef, undef, undef, undef], defers := [] })
      (fun j x a' => by
        rw [hsz]
        rintro U u W W' ⟨h1, gp, h2, h3, h4⟩ ht
        exact ⟨WantI.safe w k g _ hg4 _ _ _ _ h1 ht, gp, ht.whole h2 (.inr h3), h3, h4⟩)
      ?assign ?body ?done ?stop
    case assign =>
      rintro lr U j x W K hx hI hsW hU hK
      have hb := below1 W (.cells (flkCells x).toArray 59)
      gi_wp2_with fail
      exact hK _ _ (With U W (W.alloc (.cells (flkCells x).toArray 59))) (Grew.with hU hb.size) (Kept.below hb) ⟨(WantI.safe w k g _ HG4.out _ _ _ _ hI (Stays.below hb)).up (fun k h => .inl h), W.heap.size, Whole.new W _ (flkCells x), .inr ⟨Nat.le_refl _, by simp⟩, rfl⟩
    case body =>
      rintro lr U j x a' W hl hx ⟨hI, gp, hgp, hUg, rfl⟩ hU
      have HE := Lib.hid (HXN.out j x hx)
      have hjn : (usV l s i o k j).length ≤ 1000 := by have := HUL.out j; have := (List.getElem?_eq_some_iff.1 hx).1; have := HXL.out; omega
      have p2 := hgp.cell_at 2 rfl
      have p3 := hgp.cell_at 3 rfl
      have k0 := hI.kbox.cell_at 0 rfl
      obtain ⟨v, c0, v', W5, hrun, hbx5, ⟨A', n', c', rfl⟩, hI5, hs5, hk5⟩ := hI.append HG4.out HE.out hjn hU
      have f0 := hbx5.frozen 0
      have c5 := hbx5.cell_at 0 rfl
      have HK5 := Lib.hid hk5
      have HI5 := Lib.hid hI5
      clear hI hgp hk5 hI5 hbx5 HE hx
      gi_wp2_with (gi_at_builtin; refine listIn_append rfl (.tmp 31) (.tmp 38) 33 rfl hrun ?_)
      exact ⟨_, Grew.with hU hs5, by first | exact HK5.out | (rw [HSZ.out]; exact HK5.out), HI5.out⟩
    case stop =>
      rintro D c U W _ _ h _
      exact h.elim
    case done =>
      rintro D U W hD hUD ⟨hB, hsW, kb, v, b2, hown, hvU⟩ hK
      have c0 := b2.cell_at 0 rfl
      have hsz := HSZ.out
      have HO : Hid ((W.putObj D (.deferred none)).ownsRow w.heap.size 46 3 v (wantsV l s i o k).length ((wantsV l s i o k).flatMap needCells)) := Lib.hid (by
        rw [← HXA.out]
        refine ⟨hown.1, ?_⟩
        rcases hown.2 with h | ⟨g', cap, cur, rfl, h3, h4, r⟩
        · exact .inl h
        · refine .inr ⟨g', cap, cur, rfl, by omega, (World.putObj_heap_other (fun e => ?_)).trans h4, r⟩
          subst e
          rw [hK] at h4
          cases h4)
      have hg4 := HG4.out
      clear hown hvU
      gi_wp2_with fail
      refine ⟨by simp, .inl ⟨_, _, rfl, run_takeDeferred hK, ?_⟩⟩
      refine ⟨v, by simp [results, Tryd.f46, go_sem], ⟨v, rfl, HO.out, hB.trans (belowK_b (w := w) (Nat.le_refl _) _ D _ _ (by omega) hK rfl rfl)⟩⟩
end Go.Proofs.YtbdbgoploednbaaDoor
