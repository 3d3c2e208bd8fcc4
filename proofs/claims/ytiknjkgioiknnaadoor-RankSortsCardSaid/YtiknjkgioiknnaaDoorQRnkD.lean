/- Package rank: Row. -/
import Derived.RangeFuncNested
import Derived.RangeFuncBound
import Derived.RangeFuncCalls
import Derived.RangeFuncLeaves
import Derived.RangeFuncBox
import Derived.Shelf.Abstract
import Derived.Shelf.RegionOpen
import Derived.WalkKit
import Derived.OwnWalkIn
import Derived.TacticsInMore
import Derived.LoopNIn
import Derived.LoopIn
import Derived.WalkMore
import Derived.Test.YtiknjkgioiknnaaDoorQRnkC
import Derived.Test.YtiknjkgioiknnaaDoorQA
namespace Go.Proofs.YtiknjkgioiknnaaDoor
open Go.RowKit Go.Shelf
set_option linter.unusedVariables false
set_option linter.unusedSimpArgs false
set_option maxRecDepth 100000

attribute [local go_sem] Oper.semAt_some

/-- append at an operation inside a fence, by its run. -/
theorem listIn_append12 {F : Fence} {n : Nat} {P : Program} {ops : Array Oper} {rest : List Oper} {o : Oper} {a : Act} {w w' : World} {Q : Exit → Act → World → Prop} (hg : o.guard = none) (s x : Operand) (t : TypeId)
    (hop : o.op = .call { callee := .builtin .append, args := #[s, x], argTypes := #[t, t] }) {v' : Value} (hrun : (Builtin.append_ #[t, t] o.type #[a.eval s, a.eval x]).run P w = .ok v' w') (h : wpListIn F n P ops Q rest (a.put o.dst v') w') : wpListIn F n P ops Q (o :: rest) a w := by
  refine wpListIn_plain hg fun K hK' => ?_
  unfold Oper.wpIn
  refine ⟨?_, ?_⟩
  · simp [Oper.about, hop, resolve, Target.leads, Sem.run_pure]
  · rw [Oper.semAt_plain F _ _ (by rw [hop]; intro c hc'; cases hc')]
    simp [execOp, hop, resolve, invoke, builtin, hrun, Result.andThen]
    exact hK' _ _ h
theorem owns_stays12 {B : Nat} {U : Nat → Prop} {W W' : World} (h : Stays B U W W') {base e k n : Nat} {v : Value} {xs : List Value} (hown : W.ownsRow base e k v n xs) (hU : ∀ b, v.ownBlock = some b → b < B ∨ U b) : W'.ownsRow base e k v n xs := by
  refine ⟨hown.1, ?_⟩
  rcases hown.2 with h2 | ⟨g, cap, cur, rfl, h3, h4, r⟩
  · exact .inl h2
  · exact .inr ⟨g, cap, cur, rfl, h3, h.rest g _ h4 (hU g rfl), r⟩
/-- append(v, m), v a row of ints of the call's own, nil or not; where it lies. -/
theorem append_int12 (base n : Nat) (v : Value) (xs : List Value) (m : Int) (w : World) (a : Nat) (hown : w.ownsRow base 3 1 v n xs) (hc : w.cell? ⟨a, 0, none⟩ = some (.int .i64 m)) (hn : n ≤ 1099511627776) (hbase : base ≤ w.heap.size) :
    ∃ v' w', (Builtin.append_ #[58, 58] 58 #[v, .slice (some ⟨a, 0, none⟩) 1 1]).run Tryd.prog w = .ok v' w' ∧ w'.ownsRow base 3 1 v' (n + 1) (xs ++ [.int .i64 m]) ∧ w.grownBy w' v.ownBlock ∧ Below base w w' ∧ (v'.ownBlock = v.ownBlock ∨ v'.ownBlock = some w.heap.size) := by
  obtain ⟨i, i1, i2, i3, i4⟩ := info_parts ints_info
  obtain ⟨v', w', r1, r2, r3, r4, r5⟩ := run_append_own_at (P := Tryd.prog) w base 58 58 3 i (.int .i64 0) 1 8 Tryd.underlying58 i1 i2 i3 i4 rfl (by omega) v n xs hown ⟨a, 0, none⟩ 1 1 [.int .i64 m] rfl
    (by
      intro j u hu
      match j, hu with
      | 0, hu => simpa [Addr.add] using (by rw [hc]; exact hu)) (by simp [Value.oneCell']) (by unfold maxLen; omega) (by omega) hbase
  exact ⟨v', w', r1, r2, r3, (Below.refl base w).grown r3 hbase (fun k e => (hown.lt k e).1), r5⟩
/-- What a round of Row knows: j numbers have come. -/
structure RowI (w : World) (xs : List Int) (U : Nat → Prop) (j : Nat) (W : World) : Prop where
  below : Below w.heap.size w W
  size : w.heap.size + 5 ≤ W.heap.size
  row : ∃ v, Whole W (w.heap.size + 1 + 1) 58 [v] ∧ W.ownsRow (w.heap.size + 5) 3 1 v (xs.take j).length (nums .i64 (xs.take j)) ∧ ∀ b, v.ownBlock = some b → U b
theorem RowI.safe (w : World) (xs : List Int) : Safe (w.heap.size + 5) (RowI w xs) := by
  rintro U j W W' ⟨h1, h2, v, h4, h5, h6⟩ ht
  exact ⟨Safe.below (β := Unit) (B := w.heap.size + 5) (by omega) (Nat.le_refl _) U () W W' h1 ht, Nat.le_trans h2 ht.size, v, ht.whole h4 (.inl (by omega)), owns_stays12 ht h5 (fun b hb => .inr (h6 b hb)), h6⟩
theorem RowI.up {w W : World} {xs : List Int} {U U' : Nat → Prop} {j : Nat} (h : RowI w xs U j W) (hU : ∀ k, U k → U' k) : RowI w xs U' j W :=
  ⟨h.1, h.2, let ⟨v, h5, h6, h7⟩ := h.3; ⟨v, h5, h6, fun b hb => hU b (h7 b hb)⟩⟩
/-- A number more is appended. -/
theorem RowI.append {w W : World} {xs : List Int} {U : Nat → Prop} {j : Nat} {m : Int} (h : RowI w xs U j W) (hj : xs[j]? = some m) (hn : xs.length ≤ 1099511627776) (hUl : ∀ k, U k → k < W.heap.size) :
    ∃ v, W.cell? ⟨w.heap.size + 1 + 1, 0, none⟩ = some v ∧ ∃ v' W3, (Builtin.append_ #[58, 58] 58 #[v, .slice (some ⟨W.heap.size, 0, none⟩) 1 1]).run Tryd.prog (W.alloc (.cells #[.int .i64 m] 3)) = .ok v' W3 ∧
      Whole W3 (w.heap.size + 1 + 1) 58 [v] ∧ (∃ A n c, v' = .slice A n c) ∧
      RowI w xs (With U W (W3.setCell ⟨w.heap.size + 1 + 1, 0, none⟩ v')) (j + 1) (W3.setCell ⟨w.heap.size + 1 + 1, 0, none⟩ v') ∧
      W.heap.size ≤ (W3.setCell ⟨w.heap.size + 1 + 1, 0, none⟩ v').heap.size ∧ Kept (fun q => q < w.heap.size ∨ (q = w.heap.size + 1 + 1 + 1 ∨ q = w.heap.size + 1 + 1 + 1 + 1)) (w.heap.size + 5) U W (W3.setCell ⟨w.heap.size + 1 + 1, 0, none⟩ v') := by
  obtain ⟨h1, h2, v, h5, h6, h7⟩ := h
  refine ⟨v, h5.cell_at 0 rfl, ?_⟩
  have hl : (xs.take j).length ≤ 1099511627776 := by rw [List.length_take]; omega
  have hb1 := below1 W (.cells #[.int .i64 m] 3)
  obtain ⟨v', W3, hrun, hown, hgr, hBl, hblk⟩ := append_int12 (w.heap.size + 5) (xs.take j).length v (nums .i64 (xs.take j)) m (W.alloc (.cells #[.int .i64 m] 3)) W.heap.size (ownsV_keep h6 hb1) ((Whole.new W _ [.int .i64 m]).cell_at 0 rfl) hl (by simp; omega)
  have hvb : ∀ b, v.ownBlock = some b → w.heap.size + 5 ≤ b := fun b hb => (h6.lt b hb).1
  have hs3 : W.heap.size + 1 ≤ W3.heap.size := by have := hgr.size; simpa using this
  have hkeep : ∀ k o, W.heap[k]? = some o → (∀ b, v.ownBlock = some b → k ≠ b) → W3.heap[k]? = some o := fun k o ho hne => by
    have hlt := (Array.getElem?_eq_some_iff.1 ho).1
    exact (hgr.block k (by simp; omega) (fun e => hne k e.symm rfl)).trans ((hb1.block k hlt).trans ho)
  have hset : ∀ k o, W3.heap[k]? = some o → k ≠ w.heap.size + 1 + 1 → (W3.setCell ⟨w.heap.size + 1 + 1, 0, none⟩ v').heap[k]? = some o := fun k o ho hne => (Below.heap_setCell W3 ⟨w.heap.size + 1 + 1, 0, none⟩ v' k hne).trans ho
  have hbox3 : Whole W3 (w.heap.size + 1 + 1) 58 [v] := hkeep _ _ h5 (fun b hb => by have := hvb b hb; omega)
  have hsz : (W3.setCell ⟨w.heap.size + 1 + 1, 0, none⟩ v').heap.size = W3.heap.size := by simp [World.setCell]
  refine ⟨v', W3, hrun, hbox3, (let ⟨A, c, e, _⟩ := owns_slice hown; ⟨A, _, c, e⟩), ⟨?_, by rw [hsz]; omega, v', hbox3.set 0 v', ?_, ?_⟩, by rw [hsz]; omega, ⟨by rw [hsz]; omega, ?_⟩⟩
  · exact (h1.trans ((hb1.mono (by omega)).trans (hBl.mono (by omega)))).setCell (p := ⟨w.heap.size + 1 + 1, 0, none⟩) (by show w.heap.size ≤ w.heap.size + 1 + 1; omega) _
  · have e : xs.take (j + 1) = xs.take j ++ [m] := by rw [List.take_add_one, hj]; rfl
    rw [e, List.length_append]
    have := hown.kept (grownBy_setCell' W3 (w.heap.size + 1 + 1) v') (.inr (fun e => by have := (hown.lt _ e).1; omega))
    simpa [nums] using this
  · intro b hb
    rcases hblk with e | e
    · exact .inl (h7 b (e ▸ hb))
    · rw [hb] at e
      have e' := Option.some.inj e
      simp at e'
      exact .inr ⟨by omega, by rw [hsz]; exact (hown.lt b hb).2⟩
  · intro k o ho hr
    refine hset _ _ (hkeep _ _ ho (fun b hb e => ?_)) (fun e => ?_)
    · have q1 := hvb b hb
      rcases hr with hr | hr
      · omega
      · exact hr.2 (e ▸ h7 b hb)
    · rcases hr with hr | hr <;> omega
set_option maxRecDepth 100000 in
set_option maxHeartbeats 32000000 in
theorem row_any {l : Lay} {p : Pth} {w : World} (hT : Shapes w) (hL : Lies l w) (hp : PLies p w) (hn : p.ss.length ≤ 1000) {xs : List Int} (hx : rowV l p.ss = xs) :
    Calls Tryd.prog 20 #[l.val, p.val] w fun e w' => ∃ A c, e = .returned (.slice A xs.length c) ∧ w'.ownsRow w.heap.size 3 1 (.slice A xs.length c) xs.length (nums .i64 xs) ∧ Below w.heap.size w w' := by
  have hxl : xs.length ≤ 1099511627776 := by rw [← hx]; have := row_len l p.ss; omega
  obtain ⟨W3, hW3⟩ : ∃ W3, ((w.alloc (.cells #[.slice l.As l.secs.length l.cs, .slice l.Ag l.sigs.length l.cg, .slice l.Ae l.exits.length l.ce, .slice l.Af l.flanks.length l.cf, .int .i64 l.t0, .int .i64 l.t1, .int .i64 l.t2, .int .i64 l.t3, .int .i64 l.t4, .int .i64 l.t5, .int .i64 l.t6] 29)).alloc (.cells #[.int .i64 p.s, .int .i64 p.x, .slice p.A p.ss.length p.c] 34)).alloc (.cells #[.slice none 0 0] 58) = W3 := ⟨_, rfl⟩
  have HS3 : Hid (Below w.heap.size w W3 ∧ W3.heap.size = w.heap.size + 1 + 1 + 1 ∧ Whole W3 w.heap.size 29 l.cells ∧ Whole W3 (w.heap.size + 1) 34 p.cells ∧ Whole W3 (w.heap.size + 1 + 1) 58 [.slice none 0 0]) := Lib.hid (by
    rw [← hW3]
    exact ⟨below3 w _ _ _, by simp, ((Whole.new w _ l.cells).alloc _).alloc _, (Whole.new_at _ _ p.cells _ (by simp)).alloc _, Whole.new_at _ _ [_] _ (by simp)⟩)
  have HW3 := Lib.hid hW3
  clear hW3
  have m0 := HS3.out.2.2.1
  have x0 := m0.cell_at 0 rfl
  have x1 := m0.cell_at 1 rfl
  have x2 := m0.cell_at 2 rfl
  have x3 := m0.cell_at 3 rfl
  have x4 := m0.cell_at 4 rfl
  have x5 := m0.cell_at 5 rfl
  have x6 := m0.cell_at 6 rfl
  have x7 := m0.cell_at 7 rfl
  have x8 := m0.cell_at 8 rfl
  have x9 := m0.cell_at 9 rfl
  have x10 := m0.cell_at 10 rfl
  clear m0
  have m0 := HS3.out.2.2.2.1
  have y0 := m0.cell_at 0 rfl
  have y1 := m0.cell_at 1 rfl
  have y2 := m0.cell_at 2 rfl
  clear m0
  refine (callsIn_wide (n := 5)).1 ?_
  refine callsIn_of_wp_marks Tryd.func20 rfl trivial ?_ rfl
  simp only [Tryd.ntmps20, List.size_toArray, List.length_cons, List.length_nil, Nat.reduceAdd, Nat.reduceSub, Array.replicate_succ, Array.replicate_zero, List.push_toArray, List.append_toArray, List.nil_append, List.cons_append]
  gi_wp2_with fail
  try rw [HW3.out]
  try gi_wp2_with fail
  refine ⟨trivial, (callsIn_wide.2 (numbers_any l p.A p.ss.length p.c _)).mono ?_⟩
  clear x0 x1 x2 x3 x4 x5 x6 x7 x8 x9 x10 y0 y1 y2
  rintro e w2 ⟨rfl, rfl⟩
  gi_wp2_with fail
  obtain ⟨W0, hW0⟩ : ∃ W0, (W3.alloc (.cells #[.slice l.As l.secs.length l.cs, .slice l.Ag l.sigs.length l.cg, .slice l.Ae l.exits.length l.ce, .slice l.Af l.flanks.length l.cf, .int .i64 l.t0, .int .i64 l.t1, .int .i64 l.t2, .int .i64 l.t3, .int .i64 l.t4, .int .i64 l.t5, .int .i64 l.t6] 29)).alloc (.cells #[.slice p.A p.ss.length p.c] 32) = W0 := ⟨_, rfl⟩
  have hs3 := HS3.out.2.1
  have hsz : W0.heap.size = w.heap.size + 5 := by rw [← hW0]; simp; omega
  have b3 : Whole W0 (w.heap.size + 1 + 1 + 1) 29 l.cells := by rw [← hW0]; exact (Whole.new_at _ _ l.cells _ hs3.symm).alloc _
  have b4 : Whole W0 (w.heap.size + 1 + 1 + 1 + 1) 32 [.slice p.A p.ss.length p.c] := by rw [← hW0]; exact Whole.new_at _ _ [_] _ (by simp; omega)
  have hB2 : Below W3.heap.size W3 W0 := by rw [← hW0]; exact below2 _ _ _
  have hB0 : Below w.heap.size w W0 := HS3.out.1.trans (hB2.mono HS3.out.1.size)
  have hI0 : RowI w xs (fun _ => False) 0 W0 := ⟨hB0, by omega, _, HS3.out.2.2.2.2.below hB2 HS3.out.2.2.2.2.lt, World.ownsRow_nil _ _ _ _, fun b hb => by simp [Value.ownBlock] at hb⟩
  try rw [hW0]
  try rw [hs3]
  clear hW0 hB2
  have hit := numbers_iter (w0 := W0) (wa := w) hT hL hp.row (by omega) (fun k o hk ho => (hB0.block k hk).trans ho) hB0.size b3 b4
  rw [hx] at hit
  have HSZ := Lib.hid hsz
  have HXL := Lib.hid hxl
  clear hT hL hp hn hx b3 b4 hs3 hxl HS3 HW3
  refine range_iterU (gf := 51) rfl (enters_of Tryd.func51 (by kernel_rfl) rfl) hit (Keeps.refl _ _) (fun k hk => by have := HSZ.out; rcases hk with h | h | h <;> omega) (fun _ => rfl) (by omega)
    (RowI w xs) (fun _ _ _ => False) (by rw [hsz]; exact RowI.safe w xs) (fun _ => by rw [hsz]; exact fun _ _ _ _ h _ => h.elim)
    hI0
    (fun U j z a' W => RowI w xs U j W ∧ a' = { tmps := #[l.val, p.val, .pointer (some ⟨w.heap.size, 0, none⟩), .pointer (some ⟨w.heap.size + 1, 0, none⟩), .slice none 0 0, .pointer (some ⟨w.heap.size + 1 + 1, 0, none⟩), .int .i64 z, l.val, .pointer (some ⟨w.heap.size + 1, 2, none⟩), .slice p.A p.ss.length p.c, .func (.func 51) #[] #[.pointer (some ⟨w.heap.size + 1 + 1 + 1, 0, none⟩), .pointer (some ⟨w.heap.size + 1 + 1 + 1 + 1, 0, none⟩)], .int .i64 z, undef, undef, undef, undef, undef], defers := [] })
    (fun j z a' => by
      rw [hsz]
      rintro U u W W' ⟨h1, h2⟩ ht
      exact ⟨RowI.safe w xs _ _ _ _ h1 ht, h2⟩)
    ?assign ?body ?done ?stop
  case assign =>
    rintro lr U j z W K hz hI hsW hU hK
    gi_wp2_with fail
    exact hK _ _ U (Grew.refl hU (Nat.le_refl _)) ⟨Nat.le_refl _, fun _ _ h _ => h⟩ ⟨hI, rfl⟩
  case body =>
    rintro lr U j z a' W hl hz ⟨hI, rfl⟩ hU
    obtain ⟨v, c0, v', W5, hrun, hbx5, ⟨A', n', c', rfl⟩, hI5, hs5, hk5⟩ := hI.append hz HXL.out hU
    have f0 := hbx5.frozen 0
    have c5 := hbx5.cell_at 0 rfl
    have HK5 := Lib.hid hk5
    have HI5 := Lib.hid hI5
    clear hI hk5 hI5 hbx5 hz
    gi_wp2_with (gi_at_builtin; refine listIn_append12 rfl (.tmp 12) (.tmp 14) 58 rfl hrun ?_)
    exact ⟨_, Grew.with hU hs5, by first | exact HK5.out | (rw [HSZ.out]; exact HK5.out), HI5.out⟩
  case stop =>
    rintro D c U W _ _ h _
    exact h.elim
  case done =>
    rintro D U W hD hUD ⟨hB, hsW, v, b2, hown, hvU⟩ hK
    have c0 := b2.cell_at 0 rfl
    have hsz := HSZ.out
    rw [List.take_length] at hown
    obtain ⟨A, c, rfl, _, _⟩ := owns_slice hown
    have HO : Hid ((W.putObj D (.deferred none)).ownsRow w.heap.size 3 1 (.slice A xs.length c) xs.length (nums .i64 xs)) := Lib.hid (by
      refine ⟨hown.1, ?_⟩
      rcases hown.2 with h | ⟨g', cap, cur, e, h3, h4, r⟩
      · exact .inl h
      · refine .inr ⟨g', cap, cur, e, by omega, (World.putObj_heap_other (fun e => ?_)).trans h4, r⟩
        subst e
        rw [hK] at h4
        cases h4)
    clear hown hvU
    gi_wp2_with fail
    refine ⟨by simp, .inl ⟨_, _, rfl, run_takeDeferred hK, ?_⟩⟩
    refine ⟨.slice A xs.length c, by simp [results, Tryd.f20, go_sem], ⟨A, c, rfl, HO.out, hB.trans (belowK_b (w := w) (Nat.le_refl _) _ D _ _ (by omega) hK rfl rfl)⟩⟩
end Go.Proofs.YtiknjkgioiknnaaDoor
