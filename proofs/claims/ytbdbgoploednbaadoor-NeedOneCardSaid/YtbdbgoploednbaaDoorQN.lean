/- Package need: Of. Package need: do needs that are given one by one clash? A row of needs that came in; a layout that came in, with its flanks' numbers. -/
import Derived.RangeFuncNested
import Derived.RangeFuncBound
import Derived.RangeFuncCalls
import Derived.RangeFuncLeaves
import Derived.RangeFuncBox
import Derived.Shelf.Abstract
import Derived.Shelf.RegionOpen
import Derived.WalkKit
import Derived.OwnWalkIn
import Derived.TacticsInMore
import Derived.LoopNIn
import Derived.LoopIn
import Derived.WalkMore
import Derived.Test.YtbdbgoploednbaaDoorQNeeC
import Derived.Maps.OwnSet
import Derived.Laws.EntriesVeiled
import Derived.Test.YtbdbgoploednbaaDoorQLayRowC
namespace Go.Proofs.YtbdbgoploednbaaDoor
open Go.RowKit Go.Shelf
set_option linter.unusedVariables false
set_option linter.unusedSimpArgs false

attribute [local go_sem] Oper.semAt_some

/-- append(v, x), v a row of needs of the call's own, with what is told of the block. -/
theorem append_need13 (base n : Nat) (v : Value) (xs : List Value) (x : Int × Int × Int) (w : World) (a : Nat) (hown : w.ownsRow base 46 3 v n xs) (hc : Whole w a 46 (needCells x)) (hn : n ≤ 1000000) (hbase : base ≤ w.heap.size) :
    ∃ v' w', (Builtin.append_ #[33, 33] 33 #[v, .slice (some ⟨a, 0, none⟩) 1 1]).run Tryd.prog w = .ok v' w' ∧ w'.ownsRow base 46 3 v' (n + 1) (xs ++ needCells x) ∧ w.grownBy w' v.ownBlock ∧ Below base w w' ∧ (v'.ownBlock = v.ownBlock ∨ v'.ownBlock = some w.heap.size) := by
  obtain ⟨i, i1, i2, i3, i4⟩ := info_parts infoNeed
  obtain ⟨v', w', r1, r2, r3, r4, r5⟩ := run_append_own_at (P := Tryd.prog) w base 33 33 46 i (.agg #[.int .i64 0, .int .i64 0, .int .i64 0]) 3 24 Tryd.underlying33 i1 i2 i3 i4 rfl (by omega) v n xs hown ⟨a, 0, none⟩ 1 1 (needCells x) rfl (row_add (hc.row hc.lt)) (oneNeed x) (by unfold maxLen; omega) (by omega) hbase
  exact ⟨v', w', r1, r2, r3, (Below.refl base w).grown r3 hbase (fun k e => (hown.lt k e).1), r5⟩
/-- What a round of Of knows. -/
structure OfI (w : World) (xs : List (Int × Int × Int)) (U : Nat → Prop) (j : Nat) (W : World) : Prop where
  below : Below w.heap.size w W
  size : w.heap.size + 5 ≤ W.heap.size
  row : ∃ v, Whole W (w.heap.size + 1 + 1) 33 [v] ∧ W.ownsRow (w.heap.size + 5) 46 3 v (xs.take j).length ((xs.take j).flatMap needCells) ∧ ∀ b, v.ownBlock = some b → U b
theorem OfI.safe (w : World) (xs : List (Int × Int × Int)) : Safe (w.heap.size + 5) (OfI w xs) := by
  rintro U j W W' ⟨h1, h2, v, h5, h6, h7⟩ ht
  exact ⟨Safe.below (β := Unit) (B := w.heap.size + 5) (by omega) (Nat.le_refl _) U () W W' h1 ht, Nat.le_trans h2 ht.size, v, ht.whole h5 (.inl (by omega)), owns_stays ht h6 (fun b hb => .inr (h7 b hb)), h7⟩
theorem OfI.up {w W : World} {xs : List (Int × Int × Int)} {U U' : Nat → Prop} {j : Nat} (h : OfI w xs U j W) (hU : ∀ k, U k → U' k) : OfI w xs U' j W :=
  ⟨h.1, h.2, let ⟨v, h5, h6, h7⟩ := h.3; ⟨v, h5, h6, fun b hb => hU b (h7 b hb)⟩⟩
/-- A need more is appended. -/
theorem OfI.append {w W : World} {xs : List (Int × Int × Int)} {U : Nat → Prop} {j : Nat} {m : Int × Int × Int} (h : OfI w xs U j W) (hj : xs[j]? = some m) (hUl : ∀ k, U k → k < W.heap.size) (hn : xs.length ≤ 1000000) :
    ∃ v, W.cell? ⟨w.heap.size + 1 + 1, 0, none⟩ = some v ∧ ∃ v' W3, (Builtin.append_ #[33, 33] 33 #[v, .slice (some ⟨W.heap.size, 0, none⟩) 1 1]).run Tryd.prog (W.alloc (.cells #[.int .i64 m.1, .int .i64 m.2.1, .int .i64 m.2.2] 46)) = .ok v' W3 ∧
      Whole W3 (w.heap.size + 1 + 1) 33 [v] ∧ (∃ A n c, v' = .slice A n c) ∧
      OfI w xs (With U W (W3.setCell ⟨w.heap.size + 1 + 1, 0, none⟩ v')) (j + 1) (W3.setCell ⟨w.heap.size + 1 + 1, 0, none⟩ v') ∧
      W.heap.size ≤ (W3.setCell ⟨w.heap.size + 1 + 1, 0, none⟩ v').heap.size ∧ Kept (fun k => k < w.heap.size ∨ (k = w.heap.size + 1 + 1 + 1 ∨ k = w.heap.size + 1 + 1 + 1 + 1)) (w.heap.size + 5) U W (W3.setCell ⟨w.heap.size + 1 + 1, 0, none⟩ v') := by
  obtain ⟨h1, h2, v, h5, h6, h7⟩ := h
  refine ⟨v, h5.cell_at 0 rfl, ?_⟩
  have hb1 := below1 W (.cells #[.int .i64 m.1, .int .i64 m.2.1, .int .i64 m.2.2] 46)
  have hnj : (xs.take j).length ≤ 1000000 := by rw [List.length_take]; omega
  obtain ⟨v', W3, hrun, hown, hgr, hBl, hblk⟩ := append_need13 (w.heap.size + 5) (xs.take j).length v ((xs.take j).flatMap needCells) m (W.alloc (.cells #[.int .i64 m.1, .int .i64 m.2.1, .int .i64 m.2.2] 46)) W.heap.size (owns_keep h6 hb1) (Whole.new W _ (needCells m)) hnj (by simp; omega)
  have hvb : ∀ b, v.ownBlock = some b → w.heap.size + 5 ≤ b := fun b hb => (h6.lt b hb).1
  have hs3 : W.heap.size + 1 ≤ W3.heap.size := by have := hgr.size; simpa using this
  have hkeep : ∀ k o, W.heap[k]? = some o → (∀ b, v.ownBlock = some b → k ≠ b) → W3.heap[k]? = some o := fun k o ho hne => by
    have hlt := (Array.getElem?_eq_some_iff.1 ho).1
    exact (hgr.block k (by simp; omega) (fun e => hne k e.symm rfl)).trans ((hb1.block k hlt).trans ho)
  have hset : ∀ k o, W3.heap[k]? = some o → k ≠ w.heap.size + 1 + 1 → (W3.setCell ⟨w.heap.size + 1 + 1, 0, none⟩ v').heap[k]? = some o := fun k o ho hne => (Below.heap_setCell W3 ⟨w.heap.size + 1 + 1, 0, none⟩ v' k hne).trans ho
  have hbox3 : Whole W3 (w.heap.size + 1 + 1) 33 [v] := hkeep _ _ h5 (fun b hb => by have := hvb b hb; omega)
  have hsz : (W3.setCell ⟨w.heap.size + 1 + 1, 0, none⟩ v').heap.size = W3.heap.size := by simp [World.setCell]
  refine ⟨v', W3, hrun, hbox3, (let ⟨A, c, e⟩ := slice_of hown; ⟨A, _, c, e⟩), ⟨?_, by rw [hsz]; omega, v', hbox3.set 0 v', ?_, ?_⟩, by rw [hsz]; omega, ⟨by rw [hsz]; omega, ?_⟩⟩
  · exact (h1.trans ((hb1.mono (by omega)).trans (hBl.mono (by omega)))).setCell (p := ⟨w.heap.size + 1 + 1, 0, none⟩) (by show w.heap.size ≤ w.heap.size + 1 + 1; omega) _
  · rw [List.take_add_one, hj, Option.toList_some, List.length_append, List.flatMap_append]
    have := hown.kept (grownBy_setCell' W3 (w.heap.size + 1 + 1) v') (.inr (fun e => by have := (hown.lt _ e).1; omega))
    simpa using this
  · intro b hb
    rcases hblk with e | e
    · exact .inl (h7 b (e ▸ hb))
    · rw [hb] at e
      have e' := Option.some.inj e
      refine .inr ⟨by rw [e']; simp, by rw [hsz]; exact (hown.lt b hb).2⟩
  · intro k o ho hr
    refine hset _ _ (hkeep _ _ ho (fun b hb e => ?_)) (fun e => ?_)
    · have := hvb b hb
      rcases hr with hr | hr
      · omega
      · exact hr.2 (e ▸ h7 b hb)
    · rcases hr with hr | hr <;> omega

set_option maxRecDepth 100000 in
set_option maxHeartbeats 32000000 in
theorem of13_any {l : Lay} {p : Pth} {w : World} (hT : Shapes w) (hL : Lies l w) (hp : PLies p w) (hO : ∀ x ∈ l.exits, x.over.length ≤ 1000) (hF : l.flanks.length ≤ 900) (hN : (ofV l p).length ≤ 1000000) {ns : List (Int × Int × Int)} (hns : ofV l p = ns) :
    Calls Tryd.prog 15 #[l.val, p.val] w fun e w' => ∃ v, e = .returned v ∧ w'.ownsRow w.heap.size 46 3 v ns.length (ns.flatMap needCells) ∧ Below w.heap.size w w' := by
  rw [hns] at hN
  have HNL := Lib.hid hN
  obtain ⟨W3, hW3⟩ : ∃ W3, ((w.alloc (.cells #[.slice l.As l.secs.length l.cs, .slice l.Ag l.sigs.length l.cg, .slice l.Ae l.exits.length l.ce, .slice l.Af l.flanks.length l.cf, .int .i64 l.t0, .int .i64 l.t1, .int .i64 l.t2, .int .i64 l.t3, .int .i64 l.t4, .int .i64 l.t5, .int .i64 l.t6] 29)).alloc (.cells #[.int .i64 p.s, .int .i64 p.x, .slice p.A p.ss.length p.c] 32)).alloc (.cells #[.slice none 0 0] 33) = W3 := ⟨_, rfl⟩
  have HS3 : Hid (Below w.heap.size w W3 ∧ W3.heap.size = w.heap.size + 3 ∧ Whole W3 w.heap.size 29 l.cells ∧ Whole W3 (w.heap.size + 1) 32 p.cells ∧ Whole W3 (w.heap.size + 1 + 1) 33 [.slice none 0 0]) := Lib.hid (by
    rw [← hW3]
    exact ⟨below3 w _ _ _, by simp, ((Whole.new w _ l.cells).alloc _).alloc _, (Whole.new_at _ _ p.cells _ (by simp)).alloc _, Whole.new_at _ _ [_] _ (by simp)⟩)
  rw [← hW3] at HS3
  have m0 := HS3.out.2.2.1
  have x0 := m0.cell_at 0 rfl
  have x1 := m0.cell_at 1 rfl
  have x2 := m0.cell_at 2 rfl
  have x3 := m0.cell_at 3 rfl
  have x4 := m0.cell_at 4 rfl
  have x5 := m0.cell_at 5 rfl
  have x6 := m0.cell_at 6 rfl
  have x7 := m0.cell_at 7 rfl
  have x8 := m0.cell_at 8 rfl
  have x9 := m0.cell_at 9 rfl
  have x10 := m0.cell_at 10 rfl
  clear m0
  have m0 := HS3.out.2.2.2.1
  have y0 := m0.cell_at 0 rfl
  have y1 := m0.cell_at 1 rfl
  have y2 := m0.cell_at 2 rfl
  clear m0
  rw [hW3] at HS3
  have HW3 := Lib.hid hW3
  clear hN hW3
  refine (callsIn_wide (n := 5)).1 ?_
  refine callsIn_of_wp_marks Tryd.func15 rfl trivial ?_ rfl
  simp only [Tryd.ntmps15, List.size_toArray, List.length_cons, List.length_nil, Nat.reduceAdd, Nat.reduceSub, Array.replicate_succ, Array.replicate_zero, List.push_toArray, List.append_toArray, List.nil_append, List.cons_append]
  gi_wp2_with fail
  try rw [HW3.out]
  refine ⟨trivial, (callsIn_wide.2 (needs13_any l p _)).mono ?_⟩
  clear x0 x1 x2 x3 x4 x5 x6 x7 x8 x9 x10 y0 y1 y2
  rintro e w2 ⟨rfl, rfl⟩
  gi_wp2_with fail
  obtain ⟨W0, hW0, hsz, hB0, b2, b3, b4⟩ : ∃ W0, ((W3.alloc (.cells #[.slice l.As l.secs.length l.cs, .slice l.Ag l.sigs.length l.cg, .slice l.Ae l.exits.length l.ce, .slice l.Af l.flanks.length l.cf, .int .i64 l.t0, .int .i64 l.t1, .int .i64 l.t2, .int .i64 l.t3, .int .i64 l.t4, .int .i64 l.t5, .int .i64 l.t6] 29)).alloc (.cells #[.int .i64 p.s, .int .i64 p.x, .slice p.A p.ss.length p.c] 32)) = W0 ∧ W0.heap.size = w.heap.size + 5 ∧ Below w.heap.size w W0 ∧ Whole W0 (w.heap.size + 1 + 1) 33 [.slice none 0 0] ∧ Whole W0 (w.heap.size + 1 + 1 + 1) 29 l.cells ∧ Whole W0 (w.heap.size + 1 + 1 + 1 + 1) 32 p.cells := by
    have h3 := HS3.out
    exact ⟨_, rfl, by simp; omega, (h3.1.trans ((below2 W3 _ _).mono (by omega))), (h3.2.2.2.2.alloc _).alloc _, (Whole.new_at _ _ l.cells _ (by omega)).alloc _, Whole.new_at _ _ p.cells _ (by simp; omega)⟩
  have hs3 : W3.heap.size = w.heap.size + 1 + 1 + 1 := by have := HS3.out.2.1; omega
  rw [hW0]
  try rw [hs3]
  clear hW0 hs3
  have hit := needs13_iter (w0 := W0) hT hL hp hO hF (fun k o hk ho => (hB0.block k hk).trans ho) hB0.size b3 b4
  rw [hns] at hit
  have HSZ := Lib.hid hsz
  clear hT hL hp hO hF hns b3 b4 HS3 HW3
  refine range_iterU (gf := 44) rfl (enters_of Tryd.func44 (by kernel_rfl) rfl) hit (Keeps.refl _ _) (fun k hk => by have := HSZ.out; rcases hk with h | h | h <;> omega) (fun _ => rfl) (by omega)
    (OfI w ns) (fun _ _ _ => False) (by rw [hsz]; exact OfI.safe w ns) (fun _ => by rw [hsz]; exact fun _ _ _ _ h _ => h.elim)
    ⟨hB0, by omega, _, b2, World.ownsRow_nil _ _ _ _, fun b hb => by cases hb⟩
    (fun U j x a' W => OfI w ns U j W ∧ ∃ gp, Whole W gp 46 (needCells x) ∧ U gp ∧ a' = { tmps := #[l.val, p.val, .pointer (some ⟨w.heap.size, 0, none⟩), .pointer (some ⟨w.heap.size + 1, 0, none⟩), .slice none 0 0, .pointer (some ⟨w.heap.size + 1 + 1, 0, none⟩), .pointer (some ⟨gp, 0, none⟩), .agg #[.slice l.As l.secs.length l.cs, .slice l.Ag l.sigs.length l.cg, .slice l.Ae l.exits.length l.ce, .slice l.Af l.flanks.length l.cf, .int .i64 l.t0, .int .i64 l.t1, .int .i64 l.t2, .int .i64 l.t3, .int .i64 l.t4, .int .i64 l.t5, .int .i64 l.t6], .agg #[.int .i64 p.s, .int .i64 p.x, .slice p.A p.ss.length p.c], .func (.func 44) #[] #[.pointer (some ⟨w.heap.size + 1 + 1 + 1, 0, none⟩), .pointer (some ⟨w.heap.size + 1 + 1 + 1 + 1, 0, none⟩)], stpV x.1 x.2.1 x.2.2, undef, undef, undef, undef, undef], defers := [] })
    (fun j x a' => by
      rw [hsz]
      rintro U u W W' ⟨h1, gp, h2, h3, h4⟩ ht
      exact ⟨OfI.safe w ns _ _ _ _ h1 ht, gp, ht.whole h2 (.inr h3), h3, h4⟩)
    ?assign ?body ?done ?stop
  case assign =>
    rintro lr U j x W K hx hI hsW hU hK
    have hb := below1 W (.cells (needCells x).toArray 46)
    gi_wp2_with fail
    exact hK _ _ (With U W (W.alloc (.cells (needCells x).toArray 46))) (Grew.with hU hb.size) (Kept.below hb) ⟨(OfI.safe w ns _ _ _ _ hI (Stays.below hb)).up (fun k h => .inl h), W.heap.size, Whole.new W _ (needCells x), .inr ⟨Nat.le_refl _, by simp⟩, rfl⟩
  case body =>
    rintro lr U j x a' W hl hx ⟨hI, gp, hgp, hUg, rfl⟩ hU
    have p0 := hgp.cell_at 0 rfl
    have p1 := hgp.cell_at 1 rfl
    have p2 := hgp.cell_at 2 rfl
    obtain ⟨v, c0, v', W5, hrun, hbx5, ⟨A', n', c', rfl⟩, hI5, hs5, hk5⟩ := hI.append hx hU HNL.out
    have f0 := hbx5.frozen 0
    have c5 := hbx5.cell_at 0 rfl
    have HK5 := Lib.hid hk5
    have HI5 := Lib.hid hI5
    clear hI hgp hk5 hI5 hbx5 hx
    gi_wp2_with (gi_at_builtin; refine listIn_append rfl (.tmp 11) (.tmp 13) 33 rfl hrun ?_)
    exact ⟨_, Grew.with hU hs5, by rw [HSZ.out]; exact HK5.out, HI5.out⟩
  case stop =>
    rintro D c U W _ _ h _
    exact h.elim
  case done =>
    rintro D U W hD hUD ⟨hB, hsW, v, b2, hown, hvU⟩ hK
    have c0 := b2.cell_at 0 rfl
    have hsz := HSZ.out
    rw [List.take_length] at hown
    have HO : Hid ((W.putObj D (.deferred none)).ownsRow w.heap.size 46 3 v ns.length (ns.flatMap needCells)) := Lib.hid (by
      refine ⟨hown.1, ?_⟩
      rcases hown.2 with h | ⟨g', cap, cur, rfl, h3, h4, r⟩
      · exact .inl h
      · refine .inr ⟨g', cap, cur, rfl, by omega, (World.putObj_heap_other (fun e => ?_)).trans h4, r⟩
        subst e
        rw [hK] at h4
        cases h4)
    clear hown hvU
    gi_wp2_with fail
    refine ⟨by simp, .inl ⟨_, _, rfl, run_takeDeferred hK, ?_⟩⟩
    refine ⟨v, by simp [results, Tryd.f15, go_sem], ⟨v, rfl, HO.out, hB.trans (belowK_b (w := w) (Nat.le_refl _) _ D _ _ (by omega) hK rfl rfl)⟩⟩
end Go.Proofs.YtbdbgoploednbaaDoor
namespace Go.Proofs.YtbdbgoploednbaaDoor
open Go.Maps Go.RowKit Go.Shelf
set_option linter.unusedVariables false
set_option linter.unusedSimpArgs false

attribute [local go_sem] Oper.semAt_some

/-- The numbers of a need are such as int holds. -/
def NWf (x : Int × Int × Int) : Prop := (Lit.int .i64 x.1).wf = true ∧ (Lit.int .i64 x.2.1).wf = true
theorem atN_snoc (ns : List (Int × Int × Int)) (x : Int × Int × Int) (p : Int) : atN (ns ++ [x]) p = (atN ns p).or (if x.1 == p then some x else none) := by
  unfold atN
  rw [List.find?_append]
  cases h : (x.1 == p) <;> simp [h]
theorem at13_snoc {ns : List (Int × Int × Int)} {x : Int × Int × Int} (h : (at13 ns x.1).2 = true) (p : Int) : at13 (ns ++ [x]) p = at13 ns p := by
  unfold at13 at *
  rw [atN_snoc]
  cases ha : atN ns p with
  | some a => rfl
  | none =>
    by_cases e : x.1 = p
    · subst e
      rw [ha] at h
      cases h
    · simp [e]
theorem at13_new {ns : List (Int × Int × Int)} {x : Int × Int × Int} (h : (at13 ns x.1).2 = false) : at13 (ns ++ [x]) x.1 = (x.2.1, true) := by
  unfold at13 at *
  rw [atN_snoc]
  cases ha : atN ns x.1 with
  | some a => rw [ha] at h; cases h
  | none => simp
theorem at13_other {ns : List (Int × Int × Int)} {x : Int × Int × Int} {p : Int} (h : p ≠ x.1) : at13 (ns ++ [x]) p = at13 ns p := by
  unfold at13
  rw [atN_snoc]
  have : (x.1 == p) = false := by simp; exact fun e => h e.symm
  rw [this]
  simp
theorem at13_yes {ns : List (Int × Int × Int)} {p : Int} (h : (at13 ns p).2 = true) : ∃ a ∈ ns, a.1 = p ∧ a.2.1 = (at13 ns p).1 := by
  unfold at13 at *
  cases ha : atN ns p with
  | some a => exact ⟨a, (at_some ha).1, (at_some ha).2, rfl⟩
  | none => rw [ha] at h; cases h
theorem at13_no {ns : List (Int × Int × Int)} {p : Int} (h : (at13 ns p).2 = false) : ∀ a ∈ ns, a.1 ≠ p := by
  unfold at13 at h
  cases ha : atN ns p with
  | some a => rw [ha] at h; cases h
  | none => exact at_none.1 ha
theorem at13_mem {ns : List (Int × Int × Int)} {a : Int × Int × Int} (h : a ∈ ns) : (at13 ns a.1).2 = true := by
  cases hb : (at13 ns a.1).2
  · exact absurd rfl (at13_no hb a h)
  · rfl
theorem clash_snoc (ns : List (Int × Int × Int)) (x : Int × Int × Int) : clashN (ns ++ [x]) = (clashN ns || ((at13 ns x.1).2 && ((at13 ns x.1).1 != x.2.1))) := by
  rw [Bool.eq_iff_iff, Bool.or_eq_true, Bool.and_eq_true, bne_iff_ne]
  constructor
  · intro h
    cases hc : clashN ns
    · right
      obtain ⟨a, ha, b, hb, h1, h2⟩ := clash_iff.1 h
      have key : ∀ a ∈ ns, a.1 = x.1 → a.2.1 ≠ x.2.1 → (at13 ns x.1).2 = true ∧ (at13 ns x.1).1 ≠ x.2.1 := fun a ha h1 h2 => by
        have h3 : (at13 ns x.1).2 = true := by rw [← h1]; exact at13_mem ha
        refine ⟨h3, fun e => ?_⟩
        obtain ⟨b, hb, hb1, hb2⟩ := at13_yes h3
        rw [clash_iff.2 ⟨a, ha, b, hb, by rw [h1, hb1], by rw [hb2, e]; exact h2⟩] at hc
        cases hc
      rw [List.mem_append] at ha hb
      rcases ha with ha | ha <;> rcases hb with hb | hb
      · rw [clash_iff.2 ⟨a, ha, b, hb, h1, h2⟩] at hc; cases hc
      · obtain rfl : b = x := by simpa using hb
        exact key a ha h1 h2
      · obtain rfl : a = x := by simpa using ha
        exact key b hb h1.symm (Ne.symm h2)
      · obtain rfl : a = x := by simpa using ha
        obtain rfl : b = a := by simpa using hb
        exact absurd rfl h2
    · exact .inl rfl
  · rintro (h | ⟨h1, h2⟩)
    · exact clash_sub (fun a ha => List.mem_append_left _ ha) h
    · obtain ⟨a, ha, ha1, ha2⟩ := at13_yes h1
      exact clash_iff.2 ⟨a, List.mem_append_left _ ha, x, List.mem_append_right _ (by simp), ha1, by rw [ha2]; exact h2⟩

theorem lawK13 : Keyed Tryd.prog 3 := int_keyed Tryd.underlying3
theorem zero13 (w : World) : (zeroValue 3).run Tryd.prog w = .ok (.int .i64 0) w := by kernel_rfl
/-- The map in block b tells where each point is first wanted. -/
def MapIs (W : World) (b : Nat) (ns : List (Int × Int × Int)) : Prop := ∃ D : DataW Unit, W.ownsMap Tryd.prog 3 (plainElem Tryd.prog 3) b ns.length D ∧ ∀ p, (Lit.int .i64 p).wf = true → Maps.has D (.int .i64 p) = (at13 ns p).2 ∧ D.atKey (.int .i64 p) (.lit (.int .i64 0)) = .lit (.int .i64 (at13 ns p).1)
theorem MapIs.made (w : World) : MapIs (w.alloc (.map #[] 0)) w.heap.size [] := ⟨_, World.ownsMap_made _ _ _ _, fun p _ => ⟨rfl, rfl⟩⟩
theorem MapIs.same {W W' : World} {b : Nat} {ns : List (Int × Int × Int)} (h : MapIs W b ns) (hb : ∀ o, W.heap[b]? = some o → W'.heap[b]? = some o) : MapIs W' b ns := by
  obtain ⟨D, ⟨es, clock, h1, h2⟩, h3⟩ := h
  exact ⟨D, ⟨es, clock, hb _ h1, h2⟩, h3⟩
theorem MapIs.lt {W : World} {b : Nat} {ns : List (Int × Int × Int)} (h : MapIs W b ns) : b < W.heap.size := let ⟨_, h1, _⟩ := h; h1.lt
theorem MapIs.look {W : World} {b : Nat} {ns : List (Int × Int × Int)} (h : MapIs W b ns) {p : Int} (hp : (Lit.int .i64 p).wf = true) {c : Int} {ok : Bool} (hat : at13 ns p = (c, ok)) : (Instr.lookup 90 (.map (some b)) (.int .i64 p) true).run Tryd.prog W = .ok (.tuple #[.int .i64 c, .bool ok]) W := by
  obtain ⟨D, h1, h2⟩ := h
  obtain ⟨v, ps, hrun, hv⟩ := h1.look_ok lawK13 Tryd.underlying90 (zero13 _) (plainElem_int Tryd.underlying3 (by decide)) (keyOf_int_mk Tryd.underlying3 hp)
  obtain ⟨h3, h4⟩ := h2 p hp
  rw [h4, hat] at hv
  rw [h3, hat] at hrun
  obtain ⟨c', rfl, hc, _⟩ := plainElem_int_inv Tryd.underlying3 hv
  have : (DataW.lit (Lit.int .i64 c) : DataW Unit) = .lit (.int .i64 c') := congrArg Prod.fst hc
  cases this
  exact hrun
theorem MapIs.put {W : World} {b : Nat} {ns : List (Int × Int × Int)} (h : MapIs W b ns) {x : Int × Int × Int} (hx : NWf x) (hno : (at13 ns x.1).2 = false) (hn : ns.length ≤ 1000000) : ∃ W', (Instr.mapUpdate 90 (.map (some b)) (.int .i64 x.1) (.int .i64 x.2.1)).run Tryd.prog W = .ok () W' ∧ MapIs W' b (ns ++ [x]) ∧ W.grownBy W' (some b) := by
  obtain ⟨D, h1, h2⟩ := h
  obtain ⟨W', hrun, hown, hg⟩ := h1.update lawK13 Tryd.underlying90 (by unfold maxLen; omega) (keyOf_int_mk Tryd.underlying3 hx.1) (plainElem_int Tryd.underlying3 hx.2)
  refine ⟨W', hrun, ⟨_, by rw [List.length_append]; exact hown, fun p hp => ?_⟩, hg⟩
  have hk : ∀ q : Int, WideAt.IsKeyLit (.int .i64 q) := fun q => trivial
  by_cases e : p = x.1
  · subst e
    rw [at13_new hno]
    exact ⟨has_put_same h1.isMap (hk _) _, atKey_put_same h1.isMap (hk _) _ _⟩
  · have hne : (Lit.int .i64 p) ≠ .int .i64 x.1 := fun h => e (by injection h)
    rw [at13_other e]
    exact ⟨(has_put_other hne _).trans (h2 p hp).1, (atKey_put_other hne _ _).trans (h2 p hp).2⟩

set_option maxRecDepth 100000 in
set_option maxHeartbeats 32000000 in
theorem other13_any {b g : Nat} {ns : List (Int × Int × Int)} {w : World} (x1 x2 x3 : Int) (hx : NWf (x1, x2, x3)) (hbox : Whole w g 90 [.map (some b)]) (hM : MapIs w b ns) (hn : ns.length ≤ 1000000) {r : Bool} (hr : ((at13 ns x1).2 && ((at13 ns x1).1 != x2)) = r) :
    Calls Tryd.prog 47 #[stpV x1 x2 x3, .pointer (some ⟨g, 0, none⟩)] w fun e w' => e = .returned (.bool r) ∧ MapIs w' b (ns ++ [(x1, x2, x3)]) ∧ w.grownBy w' (some b) := by
  obtain ⟨W1, hW1⟩ : ∃ W1, w.alloc (.cells #[.int .i64 x1, .int .i64 x2, .int .i64 x3] 46) = W1 := ⟨_, rfl⟩
  have hB1 : w.grownBy W1 none := by rw [← hW1]; exact World.grownBy_alloc w _ none
  have hM1 : MapIs W1 b ns := hM.same fun o ho => (hB1.block b hM.lt (by simp)).trans ho
  have hb1 : Whole W1 g 90 [.map (some b)] := hbox.kept hB1 (by simp)
  have hbw : Whole W1 w.heap.size 46 [.int .i64 x1, .int .i64 x2, .int .i64 x3] := by rw [← hW1]; exact Whole.new _ _ [_, _, _]
  obtain ⟨⟨c, ok⟩, hat⟩ : ∃ z, at13 ns x1 = z := ⟨_, rfl⟩
  have hlk := hM1.look (p := x1) hx.1 hat
  rw [hat] at hr
  cases ok
  · obtain ⟨W2, hput, hM2, hg2⟩ := hM1.put hx (by rw [hat]) hn
    have HE : Hid (MapIs W2 b (ns ++ [(x1, x2, x3)]) ∧ w.grownBy W2 (some b)) := Lib.hid ⟨hM2, (show w.grownBy W1 (some b) from ⟨hB1.os, hB1.tape, hB1.output, hB1.size, fun k hk _ => hB1.block k hk (by simp)⟩).trans hg2⟩
    have HF : Hid (false = r) := Lib.hid (by rw [← hr]; rfl)
    rw [← hW1] at hb1 hbw hlk hput
    have g0 := hb1.cell_at 0 rfl
    have x0 := hbw.cell_at 0 rfl
    have x1 := hbw.cell_at 1 rfl
    have x2 := hbw.cell_at 2 rfl
    clear hb1 hbw hM hM1 hM2 hg2 hB1 hW1 hbox hat hr
    go_enter Tryd.func47, Tryd.ntmps47
    go_wp2_with fail
    go_ret
    exact ⟨ret_bool HF.out, HE.out⟩
  · have HE : Hid (MapIs W1 b (ns ++ [(x1, x2, x3)]) ∧ w.grownBy W1 (some b)) := Lib.hid ⟨by
      obtain ⟨D, ⟨es, clock, h0, h1, h2, h3⟩, h4⟩ := hM1
      exact ⟨D, ⟨es, clock, h0, h1, by rw [List.length_append]; omega, h3⟩, fun p hp => by rw [at13_snoc (by rw [hat])]; exact h4 p hp⟩, ⟨hB1.os, hB1.tape, hB1.output, hB1.size, fun k hk _ => hB1.block k hk (by simp)⟩⟩
    have HF : Hid ((c != x2) = r) := Lib.hid (by rw [← hr]; rfl)
    rw [← hW1] at hb1 hbw hlk HE
    have g0 := hb1.cell_at 0 rfl
    have y0 := hbw.cell_at 0 rfl
    have y1 := hbw.cell_at 1 rfl
    have y2 := hbw.cell_at 2 rfl
    clear hb1 hbw hM hM1 hB1 hW1 hbox hat hr
    go_enter Tryd.func47, Tryd.ntmps47
    go_wp2_with fail
    go_ret
    exact ⟨ret_bool HF.out, HE.out⟩
/-- What a round of clash knows. -/
structure ClI (w : World) (ns : List (Int × Int × Int)) (j : Nat) (W : World) : Prop where
  below : Below w.heap.size w W
  size : w.heap.size + 4 ≤ W.heap.size
  rb : Whole W w.heap.size 4 [.bool false]
  mb : Whole W (w.heap.size + 1 + 1) 90 [.map (some (w.heap.size + 1))]
  fb : Whole W (w.heap.size + 1 + 1 + 1) 86 [.func (.func 47) #[] #[.pointer (some ⟨w.heap.size + 1 + 1, 0, none⟩)]]
  mp : MapIs W (w.heap.size + 1) (ns.take j)
  no : clashN (ns.take j) = false
theorem ClI.safe (w : World) (ns : List (Int × Int × Int)) : Safe (w.heap.size + 4) (fun (_ : Nat → Prop) => ClI w ns) := by
  rintro U j W W' ⟨h1, h2, h3, h4, h5, h6, h7⟩ ht
  exact ⟨Safe.below (β := Unit) (B := w.heap.size + 4) (by omega) (Nat.le_refl _) U () W W' h1 ht, Nat.le_trans h2 ht.size, ht.whole h3 (.inl (by omega)), ht.whole h4 (.inl (by omega)), ht.whole h5 (.inl (by omega)), h6.same (fun o ho => ht.rest _ o ho (.inl (by omega))), h7⟩
theorem ClI.next {w W W' : World} {ns : List (Int × Int × Int)} {j : Nat} {x : Int × Int × Int} (h : ClI w ns j W) (hx : ns[j]? = some x) (hm : MapIs W' (w.heap.size + 1) (ns.take j ++ [x])) (hg : W.grownBy W' (some (w.heap.size + 1))) (hr : ((at13 (ns.take j) x.1).2 && ((at13 (ns.take j) x.1).1 != x.2.1)) = false) : ClI w ns (j + 1) W' := by
  obtain ⟨h1, h2, h3, h4, h5, h6, h7⟩ := h
  have e : ns.take (j + 1) = ns.take j ++ [x] := by rw [List.take_add_one, hx]; rfl
  refine ⟨h1.grown hg (by omega) (fun b hb => by have := Option.some.inj hb; omega), Nat.le_trans h2 hg.size, h3.kept hg (fun e => by have := Option.some.inj e; omega), h4.kept hg (fun e => by have := Option.some.inj e; omega), h5.kept hg (fun e => by have := Option.some.inj e; omega), by rw [e]; exact hm, ?_⟩
  rw [e, clash_snoc, h7, hr]
  rfl

set_option maxRecDepth 100000 in
set_option maxHeartbeats 32000000 in
theorem clash13_any {w0 w : World} {gf : Nat} {lb : Array Value} {ns : List (Int × Int × Int)} {R : Nat → Prop} (hit : ∀ W, Below w.heap.size w W → IterU Tryd.prog gf lb (fun x : Int × Int × Int => #[stpV x.1 x.2.1 x.2.2]) ns R W) (eg : ∀ args w, (callFunc gf args).run Tryd.prog w = .ok (.enter gf args) w) (hRl : ∀ k, R k → k < w.heap.size) (hW : ∀ x ∈ ns, NWf x) (hn : ns.length ≤ 1000000) {r : Bool} (hr : clashN ns = r) :
    Calls Tryd.prog 31 #[.func (.func gf) #[] lb] w fun e w' => e = .returned (.bool r) ∧ Below w.heap.size w w' := by
  have HHR := Lib.hid hr
  have HEG := Lib.hid eg
  have HRl := Lib.hid hRl
  have HWF := Lib.hid hW
  have HNL := Lib.hid hn
  have hmm := @run_makeMap Tryd.prog
  clear hr eg hRl hW hn
  refine (callsIn_wide (n := 5)).1 ?_
  refine callsIn_of_wp_marks Tryd.func31 rfl trivial ?_ rfl
  simp only [Tryd.ntmps31, List.size_toArray, List.length_cons, List.length_nil, Nat.reduceAdd, Nat.reduceSub, Array.replicate_succ, Array.replicate_zero, List.push_toArray, List.append_toArray, List.nil_append, List.cons_append]
  gi_wp2_with fail
  obtain ⟨W0, hW0, hsz, hB0, b0, b1, b2, b3⟩ : ∃ W0, (((w.alloc (.cells #[.bool false] 4)).alloc (.map #[] 0)).alloc (.cells #[.map (some (w.heap.size + 1))] 90)).alloc (.cells #[.func (.func 47) #[] #[.pointer (some ⟨w.heap.size + 1 + 1, 0, none⟩)]] 86) = W0 ∧ W0.heap.size = w.heap.size + 4 ∧ Below w.heap.size w W0 ∧ Whole W0 w.heap.size 4 [.bool false] ∧ MapIs W0 (w.heap.size + 1) [] ∧ Whole W0 (w.heap.size + 1 + 1) 90 [.map (some (w.heap.size + 1))] ∧ Whole W0 (w.heap.size + 1 + 1 + 1) 86 [.func (.func 47) #[] #[.pointer (some ⟨w.heap.size + 1 + 1, 0, none⟩)]] :=
    ⟨_, rfl, by simp, (below3 w _ _ _).alloc (by simp; omega) _, (((Whole.new w _ [_]).alloc _).alloc _).alloc _, by
      have h := MapIs.made (w.alloc (.cells #[.bool false] 4))
      have e : (w.alloc (.cells #[.bool false] 4)).heap.size = w.heap.size + 1 := by simp
      rw [e] at h
      exact h.same (fun o ho => by
        have hl := (Array.getElem?_eq_some_iff.1 ho).1
        exact ((below2 ((w.alloc (.cells #[.bool false] 4)).alloc (.map #[] 0)) _ _).block _ hl).trans ho), (Whole.new_at _ _ [_] _ (by simp)).alloc _, Whole.new_at _ _ [_] _ (by simp)⟩
  rw [hW0]
  have hit0 := hit W0 hB0
  have HSZ := Lib.hid hsz
  clear hW0 hit hmm
  refine range_iterU (gf := gf) rfl HEG.out hit0 (Keeps.refl _ _) (fun k hk => by have := HRl.out k hk; have := HSZ.out; omega) (fun _ => rfl) (by omega)
    (fun _ => ClI w ns)
    (fun c _ W => c = .ret ∧ (Below w.heap.size w W ∧ Whole W w.heap.size 4 [.bool true] ∧ clashN ns = true))
    (by rw [hsz]; exact ClI.safe w ns)
    (fun c => by
      rw [hsz]
      rintro U u W W' ⟨h1, h2, h3, h4⟩ ht
      exact ⟨h1, Safe.below (β := Unit) (B := w.heap.size + 4) (by omega) (Nat.le_refl _) U () W W' h2 ht, ht.whole h3 (.inl (by omega)), h4⟩)
    ⟨hB0, by omega, b0, b2, b3, b1, rfl⟩
    (fun U j x a' W => ClI w ns j W ∧ ∃ gp, Whole W gp 46 (needCells x) ∧ U gp ∧ a' = { tmps := #[.func (.func gf) #[] lb, undef, .pointer (some ⟨w.heap.size, 0, none⟩), .pointer (some ⟨w.heap.size + 1 + 1, 0, none⟩), .pointer (some ⟨w.heap.size + 1 + 1 + 1, 0, none⟩), .pointer (some ⟨gp, 0, none⟩), .map (some (w.heap.size + 1)), .func (.func 47) #[] #[.pointer (some ⟨w.heap.size + 1 + 1, 0, none⟩)], .func (.func gf) #[] lb, stpV x.1 x.2.1 x.2.2, undef, undef, undef], defers := [] })
    (fun j x a' => by
      rw [hsz]
      rintro U u W W' ⟨h1, gp, h4, h5, h6⟩ ht
      exact ⟨ClI.safe w ns U _ _ _ h1 ht, gp, ht.whole h4 (.inr h5), h5, h6⟩)
    ?assign ?body ?done ?stop
  case assign =>
    rintro lr U j x W K hx hI hsW hU hK
    have hb := below1 W (.cells (needCells x).toArray 46)
    have hI' := ClI.safe w ns U _ _ _ hI (Stays.below hb)
    gi_wp2_with fail
    exact hK _ _ (With U W (W.alloc (.cells (needCells x).toArray 46))) (Grew.with hU hb.size) (Kept.below hb) ⟨hI', W.heap.size, Whole.new W _ (needCells x), .inr ⟨Nat.le_refl _, by simp⟩, rfl⟩
  case body =>
    rintro lr U j x a' W hl hx ⟨hI, gp, hgp, hUg, rfl⟩ hU
    obtain ⟨b, hb⟩ : ∃ b, ((at13 (ns.take j) x.1).2 && ((at13 (ns.take j) x.1).1 != x.2.1)) = b := ⟨_, rfl⟩
    have KO := Lib.hid (other13_any x.1 x.2.1 x.2.2 (HWF.out x (List.mem_of_getElem? hx)) hI.mb hI.mp (by rw [List.length_take]; have := HNL.out; omega) hb)
    have HX := Lib.hid hx
    have HBX := Lib.hid hb
    have p0 := hgp.cell_at 0 rfl
    have p1 := hgp.cell_at 1 rfl
    have p2 := hgp.cell_at 2 rfl
    have f0 := hI.fb.cell_at 0 rfl
    clear hx hb hgp
    gi_wp2_with fail
    refine ⟨trivial, (CallsIn.inRound _ (callsIn_wide.2 KO.out)).mono ?_⟩
    clear KO p0 p1 p2 f0
    rintro e w3 ⟨rfl, hm, hg⟩
    have HKept : Hid (Kept R W0.heap.size U W w3) := Lib.hid ⟨hg.size, fun k o ho hr => (hg.block k (Array.getElem?_eq_some_iff.1 ho).1 (fun e => by
      have e' := Option.some.inj e
      have := HSZ.out
      rcases hr with hr | hr
      · have := HRl.out k hr; omega
      · omega)).trans ho⟩
    have HS3 := Lib.hid hg.size
    cases b
    · have HN := Lib.hid (hI.next HX.out hm hg HBX.out)
      clear hm hg hI
      gi_wp2_with fail
      exact ⟨U, Grew.refl hU HS3.out, HKept.out, HN.out⟩
    · have HC : Hid (clashN ns = true) := Lib.hid (by
        refine clash_sub (ns := ns.take j ++ [x]) (fun a ha => ?_) (by rw [clash_snoc, HBX.out, Bool.or_true])
        rw [List.mem_append] at ha
        rcases ha with ha | ha
        · exact List.mem_of_mem_take ha
        · obtain rfl : a = x := by simpa using ha
          exact List.mem_of_getElem? HX.out)
      have b0 := hI.rb.kept hg (by simp)
      have hB3 := hI.below.grown hg (by have := hI.size; omega) (fun b hb => by have := Option.some.inj hb; omega)
      have f0 := b0.frozen 0
      have y0 := b0.cell_at 0 rfl
      clear hm hg hI
      gi_wp2_with fail
      exact ⟨U, Grew.refl hU (by simp [World.setCell]; exact HS3.out), HKept.out.trans (Grew.refl hU HS3.out) (Kept.set (p := ⟨w.heap.size, 0, none⟩) _ _ (fun hr => by have := HRl.out _ hr; simp at this) (.inl (by show w.heap.size < W0.heap.size; have := HSZ.out; omega))), rfl,
        hB3.setCell (p := ⟨w.heap.size, 0, none⟩) (Nat.le_refl _) _, b0.set 0 (.bool true), HC.out⟩
  case done =>
    rintro D U W hD hUD hI hK
    have HA : Hid (clashN ns = false) := Lib.hid (by have := hI.no; rwa [List.take_length] at this)
    have b1 := hI.rb
    have f1 := b1.frozen 0
    have y1 := b1.cell_at 0 rfl
    have HB := Lib.hid hI.below
    have hsz := HSZ.out
    clear hI
    gi_wp2_with fail
    have hK2 := (Below.heap_setCell W ⟨w.heap.size, 0, none⟩ (.bool false) D (by show D ≠ w.heap.size; omega)).trans hK
    have e1 := ((b1.set 0 (.bool false)).putDone (o' := .deferred none) hK2).cell_at 0 rfl
    have hB2 := HB.out.setCell (p := ⟨w.heap.size, 0, none⟩) (Nat.le_refl _) (.bool false)
    refine ⟨by simp, .inl ⟨_, _, rfl, run_takeDeferred hK2, ?_⟩⟩
    refine ⟨.bool false, by simp [results, Tryd.f31, go_sem, e1], ret_bool (by rw [← HHR.out, HA.out]), hB2.trans (belowK_b (w := w) (Nat.le_refl _) _ D _ _ (by omega) hK2 rfl rfl)⟩
  case stop =>
    rintro D c U W hD hUD ⟨rfl, hB, b1, hA⟩ hK
    have HA := Lib.hid hA
    have hsz := HSZ.out
    clear hA
    have e1 := (b1.putDone (o' := .deferred none) hK).cell_at 0 rfl
    gi_wp2_with fail
    refine ⟨by simp, .inl ⟨_, _, rfl, run_takeDeferred hK, ?_⟩⟩
    refine ⟨.bool true, by simp [results, Tryd.f31, go_sem, e1], ret_bool (by rw [← HHR.out, HA.out]), hB.trans (belowK_b (w := w) (Nat.le_refl _) _ D _ _ (by omega) hK rfl rfl)⟩
end Go.Proofs.YtbdbgoploednbaaDoor
namespace Go.Proofs.YtbdbgoploednbaaDoor
open Go.ChangeShapes Go.WideShapes Go.ChangeAt Go.RowKit Go.Deep
open Go.Joins Go.Shelf
set_option linter.unusedVariables false
set_option maxRecDepth 100000
/-- A flank's point and position are such as int holds. -/
def FlkW (f : Int × Int × Int × Int) : Prop := (Lit.int .i64 f.2.2.1).wf = true ∧ (Lit.int .i64 f.2.2.2).wf = true
def FWf (l : Lay) : Prop := ∀ f ∈ l.flanks, FlkW f
section
variable {H : Type} {enc : TypeId × Value → H} {w : World} {base : Nat} {spare : Nat → Bool} {held : Bool}
theorem flk_elW {n : Nat} {cs : List Value} {x : DataW H × List MemPlace} (h : DataW.trod enc Tryd.prog w base spare held n 59 cs = some x) : ∃ s : Int × Int × Int × Int, cs = flkCells s ∧ FlkW s := by
  have h := plain_el 8 (ls := [.num .i64, .num .i64, .num .i64, .num .i64]) (by kernel_rfl) h
  obtain ⟨a, cs, rfl, _, h⟩ := fits_num h
  obtain ⟨b, cs, rfl, _, h⟩ := fits_num h
  obtain ⟨c, cs, rfl, hc, h⟩ := fits_num h
  obtain ⟨d, cs, rfl, hd, h⟩ := fits_num h
  obtain rfl := fits_nil h
  exact ⟨(a, b, c, d), rfl, hc, hd⟩
theorem need_el {n : Nat} {cs : List Value} {x : DataW H × List MemPlace} (h : DataW.trod enc Tryd.prog w base spare held n 46 cs = some x) : ∃ s : Int × Int × Int, cs = needCells s ∧ NWf s := by
  have h := plain_el 8 (ls := [.num .i64, .num .i64, .num .i64]) (by kernel_rfl) h
  obtain ⟨a, cs, rfl, ha, h⟩ := fits_num h
  obtain ⟨b, cs, rfl, hb, h⟩ := fits_num h
  obtain ⟨c, cs, rfl, _, h⟩ := fits_num h
  obtain rfl := fits_nil h
  exact ⟨(a, b, c), rfl, ha, hb⟩
theorem needs_openC {r : Reach} {b0 : Nat} {v : Value} {d : DataW H} {p : List MemPlace} (hv : Value.okWide Tryd.prog w r b0 33 v) (h : DataW.Trod enc Tryd.prog w base spare held 33 v d p) :
    ∃ (A : Option Addr) (cap : Nat) (ss : List (Int × Int × Int)), v = .slice A ss.length cap ∧ Row w w.heap.size A (ss.flatMap needCells) ∧ (∀ x ∈ ss, NWf x) ∧ ((ss.length : Nat) : Int) ≤ 9223372036854775807 ∧ ss.length ≤ cap := by
  obtain ⟨a, l, c, rfl⟩ := okWide_slice Tryd.underlying33 hv
  obtain ⟨fuel, hf⟩ := h
  obtain ⟨A, cap, ss, e, hr, hw, hn, hc⟩ := row_openC (f := needCells) (G := NWf) (c := 3) (fun _ => rfl) (by omega) Tryd.underlying33 (by kernel_rfl) (fun n cs x h => need_el h) hf
  exact ⟨A, cap, ss, e, hr, hw, hn, hc⟩
theorem lay_openF {r : Reach} {b0 : Nat} {v : Value} {d : DataW H} {p : List MemPlace} (hv : Value.okWide Tryd.prog w r b0 29 v) (h : DataW.Trod enc Tryd.prog w base spare held 29 v d p) : ∃ l : Lay, v = l.val ∧ Lies l w ∧ Caps l ∧ FWf l := by
  obtain ⟨ca, rfl, _⟩ := okWide_struct Tryd.underlying29 hv
  obtain ⟨fuel, hf⟩ := h
  obtain ⟨xs, m, _, hx, hlen, hxs, hf⟩ := DataW.trod_struct Tryd.underlying29 hf
  have hcl : Tryd.prog.cellsOf 29 = 11 := by kernel_rfl
  rw [hcl] at hlen
  obtain ⟨f0, g0, t0, o0⟩ := field_of (P := Tryd.prog) (t := 29) (i := 0) (ty := 22) (off := 0) (by kernel_rfl)
  obtain ⟨f1, g1, t1, o1⟩ := field_of (P := Tryd.prog) (t := 29) (i := 1) (ty := 23) (off := 1) (by kernel_rfl)
  obtain ⟨f2, g2, t2, o2⟩ := field_of (P := Tryd.prog) (t := 29) (i := 2) (ty := 24) (off := 2) (by kernel_rfl)
  obtain ⟨f3, g3, t3, o3⟩ := field_of (P := Tryd.prog) (t := 29) (i := 3) (ty := 25) (off := 3) (by kernel_rfl)
  obtain ⟨f4, g4, t4, o4⟩ := field_of (P := Tryd.prog) (t := 29) (i := 4) (ty := 27) (off := 4) (by kernel_rfl)
  have hsz : xs.length = 5 := by rw [hxs]; kernel_rfl
  have hcc : (Value.agg ca).cells.toList = ca.toList := rfl
  rw [hcc] at hlen hf
  obtain ⟨cs, hcs⟩ : ∃ cs, ca.toList = cs := ⟨_, rfl⟩
  obtain rfl : ca = cs.toArray := by rw [← hcs]
  rw [hcs] at hlen hf
  match cs, hlen, xs, hsz with
  | [a0, a1, a2, a3, a4, a5, a6, a7, a8, a9, a10], _, [y0, y1, y2, y3, y4], _ =>
    have h0 := hf 0 f0 g0
    have h1 := hf 1 f1 g1
    have h2 := hf 2 f2 g2
    have h3 := hf 3 f3 g3
    have h4 := hf 4 f4 g4
    rw [t0, o0, show Tryd.prog.cellsOf 22 = 1 by kernel_rfl] at h0
    rw [t1, o1, show Tryd.prog.cellsOf 23 = 1 by kernel_rfl] at h1
    rw [t2, o2, show Tryd.prog.cellsOf 24 = 1 by kernel_rfl] at h2
    rw [t3, o3, show Tryd.prog.cellsOf 25 = 1 by kernel_rfl] at h3
    rw [t4, o4, show Tryd.prog.cellsOf 27 = 7 by kernel_rfl] at h4
    obtain ⟨As, cs, secs, rfl, hrS, hkS, hnS, qS⟩ := row_openC (f := Sec.cells) (G := fun s : Sec => 0 ≤ s.k ∧ s.k ≤ 255) (c := 11) Sec.len (by omega) Tryd.underlying22 (by kernel_rfl) (fun n cs x h => sec_el h) (v := a0) (y := y0) h0
    obtain ⟨Ag, cg, sigs, rfl, hrG, _, hnG, qG⟩ := row_openC (f := prtCells) (G := fun _ => True) (c := 2) (fun _ => rfl) (by omega) Tryd.underlying23 (by kernel_rfl) (fun n cs x h => sig_el h) (v := a1) (y := y1) h1
    obtain ⟨Ae, ce, exits, rfl, hrE, hkE, hnE, qE⟩ := row_openC (f := Exm.cells) (G := fun s : Exm => Row w w.heap.size s.A (s.over.flatMap stpCells) ∧ (s.over.length : Int) ≤ 9223372036854775807) (c := 3) (fun _ => rfl) (by omega) Tryd.underlying24 (by kernel_rfl) (fun n cs x h => ex_el h) (v := a2) (y := y2) h2
    obtain ⟨Af, cf, flanks, rfl, hrF, hwF, hnF, qF⟩ := row_openC (f := flkCells) (G := FlkW) (c := 4) (fun _ => rfl) (by omega) Tryd.underlying25 (by kernel_rfl) (fun n cs x h => flk_elW h) (v := a3) (y := y3) h3
    have h4 := plain_el 8 (ls := [.num .i64, .num .i64, .num .i64, .num .i64, .num .i64, .num .i64, .num .i64]) (by kernel_rfl) (x := y4) h4
    obtain ⟨u0, c0, e0, _, h4⟩ := fits_num h4
    obtain ⟨u1, c1, e1, _, h4⟩ := fits_num h4
    obtain ⟨u2, c2, e2, _, h4⟩ := fits_num h4
    obtain ⟨u3, c3, e3, _, h4⟩ := fits_num h4
    obtain ⟨u4, c4, e4, _, h4⟩ := fits_num h4
    obtain ⟨u5, c5, e5, _, h4⟩ := fits_num h4
    obtain ⟨u6, c6, e6, _, h4⟩ := fits_num h4
    obtain rfl := fits_nil h4
    subst e6 e5 e4 e3 e2 e1
    simp at e0
    obtain ⟨rfl, rfl, rfl, rfl, rfl, rfl, rfl⟩ := e0
    exact ⟨⟨secs, As, cs, sigs, Ag, cg, exits, Ae, ce, flanks, Af, cf, u0, u1, u2, u3, u4, u5, u6⟩, rfl, ⟨hrS, hrG, hrE, hrF, fun x hx => (hkE x hx).1, hkS, hnS, hnG, hnE, hnF, fun x hx => (hkE x hx).2⟩, ⟨qS, qG, qE, qF⟩, hwF⟩
end
end Go.Proofs.YtbdbgoploednbaaDoor
