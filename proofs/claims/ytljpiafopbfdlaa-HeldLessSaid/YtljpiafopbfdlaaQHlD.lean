/- slices.Collect of what is given one by one: numbers, needs. -/
import Derived.RangeFuncNested
import Derived.RangeFuncBound
import Derived.RangeFuncCalls
import Derived.RangeFuncLeaves
import Derived.RangeFuncBox
import Derived.Shelf.Abstract
import Derived.Shelf.RegionOpen
import Derived.WalkKit
import Derived.OwnWalkIn
import Derived.TacticsInMore
import Derived.LoopNIn
import Derived.LoopIn
import Derived.WalkMore
import Derived.Deep.CutRange
import Derived.Test.YtljpiafopbfdlaaQHlC
import Derived.Test.YtljpiafopbfdlaaQAa
import Derived.Test.YtljpiafopbfdlaaQAt
namespace Go.Proofs.Ytljpiafopbfdlaa
open Go.Maps Go.RowKit Go.Shelf
set_option linter.unusedVariables false
set_option linter.unusedSimpArgs false
attribute [local go_sem] Oper.semAt_some
abbrev oneC (x : Int) : List Value := [.int .i64 x]
theorem oneC_flat (xs : List Int) : xs.flatMap oneC = nums .i64 xs := by
  induction xs with
  | nil => rfl
  | cons x xs ih => rw [List.flatMap_cons, ih]; rfl
theorem slice_ofG {w : World} {base e k n : Nat} {v : Value} {xs : List Value} (h : w.ownsRow base e k v n xs) : ∃ A c, v = .slice A n c := by
  rcases h.2 with ⟨rfl, rfl⟩ | ⟨g, cap, cur, rfl, _⟩
  · exact ⟨none, 0, rfl⟩
  · exact ⟨_, cap, rfl⟩
theorem append_int17 (base n : Nat) (v : Value) (xs : List Value) (x : Int) (w : World) (a : Nat) (hown : w.ownsRow base 3 1 v n xs) (hc : Whole w a 3 (oneC x)) (hn : n ≤ 1000000) (hbase : base ≤ w.heap.size) :
    ∃ v' w', (Builtin.append_ #[32, 32] 32 #[v, .slice (some ⟨a, 0, none⟩) 1 1]).run Try.prog w = .ok v' w' ∧ w'.ownsRow base 3 1 v' (n + 1) (xs ++ oneC x) ∧ w.grownBy w' v.ownBlock ∧ Below base w w' ∧ (v'.ownBlock = v.ownBlock ∨ v'.ownBlock = some w.heap.size) := by
  obtain ⟨i, i1, i2, i3, i4⟩ := info_parts ints_info
  obtain ⟨v', w', r1, r2, r3, r4, r5⟩ := run_append_own_at (P := Try.prog) w base 32 32 3 i (.int .i64 0) 1 8 Try.underlying32 i1 i2 i3 i4 rfl (by omega) v n xs hown ⟨a, 0, none⟩ 1 1 (oneC x) rfl (row_add (hc.row hc.lt)) (by intro u hu; simp [oneC] at hu; subst hu; rfl) (by unfold maxLen; omega) (by omega) hbase
  exact ⟨v', w', r1, r2, r3, (Below.refl base w).grown r3 hbase (fun k e => (hown.lt k e).1), r5⟩
theorem wpList_callx {P : Program} {ops : Array Oper} {rest : List Oper} {o : Oper} {a : Act} {w : World} {Q : Exit → Act → World → Prop} {f : FuncId} {args : Array Value} {T : Ending → World → Prop} (hw : Region.wanted o (yielded ops a.tmps) = true) (hv : (execOp a.eval o).run P w = .ok (.enter f args) w)
    (hc : Calls P f args w T) (h : ∀ e w', T e w' → ∃ v, e = .returned v ∧ wpList P ops Q rest (a.put o.dst v) w') : wpList P ops Q (o :: rest) a w :=
  wpList_step fun K hK => by
    rw [if_pos hw]
    unfold Oper.wp
    rw [hv]
    refine hc.mono ?_
    intro e w' ht
    obtain ⟨v, rfl, h⟩ := h e w' ht
    exact hK _ _ h
/-- What a round of AppendSeq knows. -/
structure SqI (w : World) (xs : List (Int)) (U : Nat → Prop) (j : Nat) (W : World) : Prop where
  below : Below w.heap.size w W
  size : w.heap.size + 1 ≤ W.heap.size
  row : ∃ v, Whole W w.heap.size 32 [v] ∧ W.ownsRow (w.heap.size + 1) 3 1 v (xs.take j).length ((xs.take j).flatMap oneC) ∧ ∀ b, v.ownBlock = some b → U b
theorem SqI.safe (w : World) (xs : List (Int)) : Safe (w.heap.size + 1) (SqI w xs) := by
  rintro U j W W' ⟨h1, h2, v, h5, h6, h7⟩ ht
  exact ⟨Safe.below (β := Unit) (B := w.heap.size + 1) (by omega) (Nat.le_refl _) U () W W' h1 ht, Nat.le_trans h2 ht.size, v, ht.whole h5 (.inl (by omega)), owns_stays ht h6 (fun b hb => .inr (h7 b hb)), h7⟩
theorem SqI.up {w W : World} {xs : List (Int)} {U U' : Nat → Prop} {j : Nat} (h : SqI w xs U j W) (hU : ∀ k, U k → U' k) : SqI w xs U' j W :=
  ⟨h.1, h.2, let ⟨v, h5, h6, h7⟩ := h.3; ⟨v, h5, h6, fun b hb => hU b (h7 b hb)⟩⟩
theorem SqI.append {w W : World} {xs : List (Int)} {U R : Nat → Prop} {j : Nat} {m : Int} (h : SqI w xs U j W) (hj : xs[j]? = some m) (hUl : ∀ k, U k → k < W.heap.size) (hn : xs.length ≤ 1000000) (hR : ∀ k, R k → k < w.heap.size) :
    ∃ v, W.cell? ⟨w.heap.size, 0, none⟩ = some v ∧ ∃ v' W3, (Builtin.append_ #[32, 32] 32 #[v, .slice (some ⟨W.heap.size, 0, none⟩) 1 1]).run Try.prog (W.alloc (.cells #[.int .i64 m] 3)) = .ok v' W3 ∧
      Whole W3 w.heap.size 32 [v] ∧ (∃ A n c, v' = .slice A n c) ∧
      SqI w xs (With U W (W3.setCell ⟨w.heap.size, 0, none⟩ v')) (j + 1) (W3.setCell ⟨w.heap.size, 0, none⟩ v') ∧
      W.heap.size ≤ (W3.setCell ⟨w.heap.size, 0, none⟩ v').heap.size ∧ Kept R (w.heap.size + 1) U W (W3.setCell ⟨w.heap.size, 0, none⟩ v') := by
  obtain ⟨h1, h2, v, h5, h6, h7⟩ := h
  refine ⟨v, h5.cell_at 0 rfl, ?_⟩
  have hb1 := below1 W (.cells #[.int .i64 m] 3)
  have hnj : (xs.take j).length ≤ 1000000 := by rw [List.length_take]; omega
  obtain ⟨v', W3, hrun, hown, hgr, hBl, hblk⟩ := append_int17 (w.heap.size + 1) (xs.take j).length v ((xs.take j).flatMap oneC) m (W.alloc (.cells #[.int .i64 m] 3)) W.heap.size (owns_keep h6 hb1) (Whole.new W _ (oneC m)) hnj (by simp; omega)
  have hvb : ∀ b, v.ownBlock = some b → w.heap.size + 1 ≤ b := fun b hb => (h6.lt b hb).1
  have hs3 : W.heap.size + 1 ≤ W3.heap.size := by have := hgr.size; simpa using this
  have hkeep : ∀ k o, W.heap[k]? = some o → (∀ b, v.ownBlock = some b → k ≠ b) → W3.heap[k]? = some o := fun k o ho hne => by
    have hlt := (Array.getElem?_eq_some_iff.1 ho).1
    exact (hgr.block k (by simp; omega) (fun e => hne k e.symm rfl)).trans ((hb1.block k hlt).trans ho)
  have hset : ∀ k o, W3.heap[k]? = some o → k ≠ w.heap.size → (W3.setCell ⟨w.heap.size, 0, none⟩ v').heap[k]? = some o := fun k o ho hne => (Below.heap_setCell W3 ⟨w.heap.size, 0, none⟩ v' k hne).trans ho
  have hbox3 : Whole W3 w.heap.size 32 [v] := hkeep _ _ h5 (fun b hb => by have := hvb b hb; omega)
  have hsz : (W3.setCell ⟨w.heap.size, 0, none⟩ v').heap.size = W3.heap.size := by simp [World.setCell]
  refine ⟨v', W3, hrun, hbox3, (let ⟨A, c, e⟩ := slice_ofG hown; ⟨A, _, c, e⟩), ⟨?_, by rw [hsz]; omega, v', hbox3.set 0 v', ?_, ?_⟩, by rw [hsz]; omega, ⟨by rw [hsz]; omega, ?_⟩⟩
  · exact (h1.trans ((hb1.mono (by omega)).trans (hBl.mono (by omega)))).setCell (p := ⟨w.heap.size, 0, none⟩) (Nat.le_refl _) _
  · rw [List.take_add_one, hj, Option.toList_some, List.length_append, List.flatMap_append]
    have := hown.kept (grownBy_setCell' W3 w.heap.size v') (.inr (fun e => by have := (hown.lt _ e).1; omega))
    simpa using this
  · intro b hb
    rcases hblk with e | e
    · exact .inl (h7 b (e ▸ hb))
    · rw [hb] at e
      have e' := Option.some.inj e
      refine .inr ⟨by rw [e']; simp, by rw [hsz]; exact (hown.lt b hb).2⟩
  · intro k o ho hr
    refine hset _ _ (hkeep _ _ ho (fun b hb e => ?_)) (fun e => ?_)
    · have := hvb b hb
      rcases hr with hr | hr
      · have := hR k hr; omega
      · exact hr.2 (e ▸ h7 b hb)
    · rcases hr with hr | hr
      · have := hR k hr; omega
      · omega
set_option maxRecDepth 100000 in
set_option maxHeartbeats 32000000 in
theorem seqI_any {w : World} {gf : Nat} {lb : Array Value} {xs : List (Int)} {R : Nat → Prop} (hit : ∀ W, Below w.heap.size w W → IterU Try.prog gf lb (fun x : Int => #[.int .i64 x]) xs R W) (eg : ∀ args w, (callFunc gf args).run Try.prog w = .ok (.enter gf args) w) (hRl : ∀ k, R k → k < w.heap.size) (hn : xs.length ≤ 1000000) :
    Calls Try.prog 48 #[.slice none 0 0, .func (.func gf) #[] lb] w fun e w' => ∃ v, e = .returned v ∧ w'.ownsRow w.heap.size 3 1 v xs.length (xs.flatMap oneC) ∧ Below w.heap.size w w' := by
  have HEG := Lib.hid eg
  have HRl := Lib.hid hRl
  have HNL := Lib.hid hn
  clear eg hRl hn
  refine (callsIn_wide (n := 5)).1 ?_
  refine callsIn_of_wp_marks Try.func48 rfl trivial ?_ rfl
  simp only [Try.ntmps48, List.size_toArray, List.length_cons, List.length_nil, Nat.reduceAdd, Nat.reduceSub, Array.replicate_succ, Array.replicate_zero, List.push_toArray, List.append_toArray, List.nil_append, List.cons_append]
  gi_wp2_with fail
  obtain ⟨W0, hW0, hsz, hB0, b0⟩ : ∃ W0, w.alloc (.cells #[.slice none 0 0] 32) = W0 ∧ W0.heap.size = w.heap.size + 1 ∧ Below w.heap.size w W0 ∧ Whole W0 w.heap.size 32 [.slice none 0 0] :=
    ⟨_, rfl, by simp, below1 w _, Whole.new w _ [_]⟩
  rw [hW0]
  have hit0 := hit W0 hB0
  have HSZ := Lib.hid hsz
  clear hW0 hit
  refine range_iterU (gf := gf) rfl HEG.out hit0 (Keeps.refl _ _) (fun k hk => by have := HRl.out k hk; have := HSZ.out; omega) (fun _ => rfl) (by omega)
    (SqI w xs) (fun _ _ _ => False) (by rw [hsz]; exact SqI.safe w xs) (fun _ => by rw [hsz]; exact fun _ _ _ _ h _ => h.elim)
    ⟨hB0, by omega, _, b0, World.ownsRow_nil _ _ _ _, fun b hb => by cases hb⟩
    (fun U j x a' W => SqI w xs U j W ∧ a' = { tmps := #[.slice none 0 0, .func (.func gf) #[] lb, .pointer (some ⟨w.heap.size, 0, none⟩), undef, .slice none 0 0, .int .i64 x, .func (.func gf) #[] lb, .int .i64 x, undef, undef, undef, undef, undef], defers := [] })
    (fun j x a' => by
      rw [hsz]
      rintro U u W W' ⟨h1, h2⟩ ht
      exact ⟨SqI.safe w xs _ _ _ _ h1 ht, h2⟩)
    ?assign ?body ?done ?stop
  case assign =>
    rintro lr U j x W K hx hI hsW hU hK
    gi_wp2_with fail
    exact hK _ _ U (Grew.refl hU (Nat.le_refl _)) (Kept.below (Below.refl _ _)) ⟨hI, rfl⟩
  case body =>
    rintro lr U j x a' W hl hx ⟨hI, rfl⟩ hU
    obtain ⟨v, c0, v', W5, hrun, hbx5, ⟨A', n', c', rfl⟩, hI5, hs5, hk5⟩ := hI.append (R := R) hx hU HNL.out HRl.out
    have f0 := hbx5.frozen 0
    have c5 := hbx5.cell_at 0 rfl
    have HK5 := Lib.hid hk5
    have HI5 := Lib.hid hI5
    clear hI hk5 hI5 hbx5 hx hit0
    gi_wp2_with (gi_at_builtin; refine listIn_append rfl (.tmp 8) (.tmp 10) 32 rfl hrun ?_)
    exact ⟨_, Grew.with hU hs5, by rw [HSZ.out]; exact HK5.out, HI5.out⟩
  case stop =>
    rintro D c U W _ _ h _
    exact h.elim
  case done =>
    rintro D U W hD hUD ⟨hB, hsW, v, b2, hown, hvU⟩ hK
    have c0 := b2.cell_at 0 rfl
    have hsz := HSZ.out
    rw [List.take_length] at hown
    have HO : Hid ((W.putObj D (.deferred none)).ownsRow w.heap.size 3 1 v xs.length (xs.flatMap oneC)) := Lib.hid (by
      refine ⟨hown.1, ?_⟩
      rcases hown.2 with h | ⟨g', cap, cur, rfl, h3, h4, r⟩
      · exact .inl h
      · refine .inr ⟨g', cap, cur, rfl, by omega, (World.putObj_heap_other (fun e => ?_)).trans h4, r⟩
        subst e
        rw [hK] at h4
        cases h4)
    clear hown hvU hit0
    gi_wp2_with fail
    refine ⟨by simp, .inl ⟨_, _, rfl, run_takeDeferred hK, ?_⟩⟩
    refine ⟨v, by simp [results, Try.f48, go_sem], ⟨v, rfl, HO.out, hB.trans (belowK_b (w := w) (Nat.le_refl _) _ D _ _ (by omega) hK rfl rfl)⟩⟩
set_option maxRecDepth 100000 in
set_option maxHeartbeats 8000000 in
theorem collI_any {w : World} {gf : Nat} {lb : Array Value} {xs : List (Int)} {R : Nat → Prop} (hit : ∀ W, Below w.heap.size w W → IterU Try.prog gf lb (fun x : Int => #[.int .i64 x]) xs R W) (eg : ∀ args w, (callFunc gf args).run Try.prog w = .ok (.enter gf args) w) (hRl : ∀ k, R k → k < w.heap.size) (hn : xs.length ≤ 1000000) :
    Calls Try.prog 28 #[.func (.func gf) #[] lb] w fun e w' => ∃ v, e = .returned v ∧ w'.ownsRow w.heap.size 3 1 v xs.length (xs.flatMap oneC) ∧ Below w.heap.size w w' := by
  have K := Lib.hid (seqI_any hit eg hRl hn)
  clear hit eg hRl hn
  go_enter Try.func28, Try.ntmps28
  go_wp2_with fail
  refine K.out.mono ?_
  rintro e w1 ⟨v, rfl, hown, hB⟩
  have HO := Lib.hid hown
  have HB := Lib.hid hB
  clear hown hB K
  go_wp2_with fail
  go_ret
  exact ⟨v, rfl, HO.out, HB.out⟩
/-- What a round of AppendSeq knows. -/
structure SqN (w : World) (xs : List (Int × Int × Int)) (U : Nat → Prop) (j : Nat) (W : World) : Prop where
  below : Below w.heap.size w W
  size : w.heap.size + 1 ≤ W.heap.size
  row : ∃ v, Whole W w.heap.size 25 [v] ∧ W.ownsRow (w.heap.size + 1) 40 3 v (xs.take j).length ((xs.take j).flatMap needCells) ∧ ∀ b, v.ownBlock = some b → U b
theorem SqN.safe (w : World) (xs : List (Int × Int × Int)) : Safe (w.heap.size + 1) (SqN w xs) := by
  rintro U j W W' ⟨h1, h2, v, h5, h6, h7⟩ ht
  exact ⟨Safe.below (β := Unit) (B := w.heap.size + 1) (by omega) (Nat.le_refl _) U () W W' h1 ht, Nat.le_trans h2 ht.size, v, ht.whole h5 (.inl (by omega)), owns_stays ht h6 (fun b hb => .inr (h7 b hb)), h7⟩
theorem SqN.up {w W : World} {xs : List (Int × Int × Int)} {U U' : Nat → Prop} {j : Nat} (h : SqN w xs U j W) (hU : ∀ k, U k → U' k) : SqN w xs U' j W :=
  ⟨h.1, h.2, let ⟨v, h5, h6, h7⟩ := h.3; ⟨v, h5, h6, fun b hb => hU b (h7 b hb)⟩⟩
theorem SqN.append {w W : World} {xs : List (Int × Int × Int)} {U R : Nat → Prop} {j : Nat} {m : Int × Int × Int} (h : SqN w xs U j W) (hj : xs[j]? = some m) (hUl : ∀ k, U k → k < W.heap.size) (hn : xs.length ≤ 1000000) (hR : ∀ k, R k → k < w.heap.size) :
    ∃ v, W.cell? ⟨w.heap.size, 0, none⟩ = some v ∧ ∃ v' W3, (Builtin.append_ #[25, 25] 25 #[v, .slice (some ⟨W.heap.size, 0, none⟩) 1 1]).run Try.prog (W.alloc (.cells #[.int .i64 m.1, .int .i64 m.2.1, .int .i64 m.2.2] 40)) = .ok v' W3 ∧
      Whole W3 w.heap.size 25 [v] ∧ (∃ A n c, v' = .slice A n c) ∧
      SqN w xs (With U W (W3.setCell ⟨w.heap.size, 0, none⟩ v')) (j + 1) (W3.setCell ⟨w.heap.size, 0, none⟩ v') ∧
      W.heap.size ≤ (W3.setCell ⟨w.heap.size, 0, none⟩ v').heap.size ∧ Kept R (w.heap.size + 1) U W (W3.setCell ⟨w.heap.size, 0, none⟩ v') := by
  obtain ⟨h1, h2, v, h5, h6, h7⟩ := h
  refine ⟨v, h5.cell_at 0 rfl, ?_⟩
  have hb1 := below1 W (.cells #[.int .i64 m.1, .int .i64 m.2.1, .int .i64 m.2.2] 40)
  have hnj : (xs.take j).length ≤ 1000000 := by rw [List.length_take]; omega
  obtain ⟨v', W3, hrun, hown, hgr, hBl, hblk⟩ := append_need13 (w.heap.size + 1) (xs.take j).length v ((xs.take j).flatMap needCells) m (W.alloc (.cells #[.int .i64 m.1, .int .i64 m.2.1, .int .i64 m.2.2] 40)) W.heap.size (owns_keep h6 hb1) (Whole.new W _ (needCells m)) hnj (by simp; omega)
  have hvb : ∀ b, v.ownBlock = some b → w.heap.size + 1 ≤ b := fun b hb => (h6.lt b hb).1
  have hs3 : W.heap.size + 1 ≤ W3.heap.size := by have := hgr.size; simpa using this
  have hkeep : ∀ k o, W.heap[k]? = some o → (∀ b, v.ownBlock = some b → k ≠ b) → W3.heap[k]? = some o := fun k o ho hne => by
    have hlt := (Array.getElem?_eq_some_iff.1 ho).1
    exact (hgr.block k (by simp; omega) (fun e => hne k e.symm rfl)).trans ((hb1.block k hlt).trans ho)
  have hset : ∀ k o, W3.heap[k]? = some o → k ≠ w.heap.size → (W3.setCell ⟨w.heap.size, 0, none⟩ v').heap[k]? = some o := fun k o ho hne => (Below.heap_setCell W3 ⟨w.heap.size, 0, none⟩ v' k hne).trans ho
  have hbox3 : Whole W3 w.heap.size 25 [v] := hkeep _ _ h5 (fun b hb => by have := hvb b hb; omega)
  have hsz : (W3.setCell ⟨w.heap.size, 0, none⟩ v').heap.size = W3.heap.size := by simp [World.setCell]
  refine ⟨v', W3, hrun, hbox3, (let ⟨A, c, e⟩ := slice_ofG hown; ⟨A, _, c, e⟩), ⟨?_, by rw [hsz]; omega, v', hbox3.set 0 v', ?_, ?_⟩, by rw [hsz]; omega, ⟨by rw [hsz]; omega, ?_⟩⟩
  · exact (h1.trans ((hb1.mono (by omega)).trans (hBl.mono (by omega)))).setCell (p := ⟨w.heap.size, 0, none⟩) (Nat.le_refl _) _
  · rw [List.take_add_one, hj, Option.toList_some, List.length_append, List.flatMap_append]
    have := hown.kept (grownBy_setCell' W3 w.heap.size v') (.inr (fun e => by have := (hown.lt _ e).1; omega))
    simpa using this
  · intro b hb
    rcases hblk with e | e
    · exact .inl (h7 b (e ▸ hb))
    · rw [hb] at e
      have e' := Option.some.inj e
      refine .inr ⟨by rw [e']; simp, by rw [hsz]; exact (hown.lt b hb).2⟩
  · intro k o ho hr
    refine hset _ _ (hkeep _ _ ho (fun b hb e => ?_)) (fun e => ?_)
    · have := hvb b hb
      rcases hr with hr | hr
      · have := hR k hr; omega
      · exact hr.2 (e ▸ h7 b hb)
    · rcases hr with hr | hr
      · have := hR k hr; omega
      · omega
set_option maxRecDepth 100000 in
set_option maxHeartbeats 32000000 in
theorem seqN_any {w : World} {gf : Nat} {lb : Array Value} {xs : List (Int × Int × Int)} {R : Nat → Prop} (hit : ∀ W, Below w.heap.size w W → IterU Try.prog gf lb (fun x : Int × Int × Int => #[stpV x.1 x.2.1 x.2.2]) xs R W) (eg : ∀ args w, (callFunc gf args).run Try.prog w = .ok (.enter gf args) w) (hRl : ∀ k, R k → k < w.heap.size) (hn : xs.length ≤ 1000000) :
    Calls Try.prog 51 #[.slice none 0 0, .func (.func gf) #[] lb] w fun e w' => ∃ v, e = .returned v ∧ w'.ownsRow w.heap.size 40 3 v xs.length (xs.flatMap needCells) ∧ Below w.heap.size w w' := by
  have HEG := Lib.hid eg
  have HRl := Lib.hid hRl
  have HNL := Lib.hid hn
  clear eg hRl hn
  refine (callsIn_wide (n := 5)).1 ?_
  refine callsIn_of_wp_marks Try.func51 rfl trivial ?_ rfl
  simp only [Try.ntmps51, List.size_toArray, List.length_cons, List.length_nil, Nat.reduceAdd, Nat.reduceSub, Array.replicate_succ, Array.replicate_zero, List.push_toArray, List.append_toArray, List.nil_append, List.cons_append]
  gi_wp2_with fail
  obtain ⟨W0, hW0, hsz, hB0, b0⟩ : ∃ W0, w.alloc (.cells #[.slice none 0 0] 25) = W0 ∧ W0.heap.size = w.heap.size + 1 ∧ Below w.heap.size w W0 ∧ Whole W0 w.heap.size 25 [.slice none 0 0] :=
    ⟨_, rfl, by simp, below1 w _, Whole.new w _ [_]⟩
  rw [hW0]
  have hit0 := hit W0 hB0
  have HSZ := Lib.hid hsz
  clear hW0 hit
  refine range_iterU (gf := gf) rfl HEG.out hit0 (Keeps.refl _ _) (fun k hk => by have := HRl.out k hk; have := HSZ.out; omega) (fun _ => rfl) (by omega)
    (SqN w xs) (fun _ _ _ => False) (by rw [hsz]; exact SqN.safe w xs) (fun _ => by rw [hsz]; exact fun _ _ _ _ h _ => h.elim)
    ⟨hB0, by omega, _, b0, World.ownsRow_nil _ _ _ _, fun b hb => by cases hb⟩
    (fun U j x a' W => SqN w xs U j W ∧ ∃ gp, Whole W gp 40 (needCells x) ∧ U gp ∧ a' = { tmps := #[.slice none 0 0, .func (.func gf) #[] lb, .pointer (some ⟨w.heap.size, 0, none⟩), undef, .slice none 0 0, .pointer (some ⟨gp, 0, none⟩), .func (.func gf) #[] lb, stpV x.1 x.2.1 x.2.2, undef, undef, undef, undef, undef], defers := [] })
    (fun j x a' => by
      rw [hsz]
      rintro U u W W' ⟨h1, gp, h2, h3, h4⟩ ht
      exact ⟨SqN.safe w xs _ _ _ _ h1 ht, gp, ht.whole h2 (.inr h3), h3, h4⟩)
    ?assign ?body ?done ?stop
  case assign =>
    rintro lr U j x W K hx hI hsW hU hK
    have hb := below1 W (.cells (needCells x).toArray 40)
    gi_wp2_with fail
    exact hK _ _ (With U W (W.alloc (.cells (needCells x).toArray 40))) (Grew.with hU hb.size) (Kept.below hb) ⟨(SqN.safe w xs _ _ _ _ hI (by rw [← hsz]; exact Stays.below hb)).up (fun k h => .inl h), W.heap.size, Whole.new W _ (needCells x), .inr ⟨Nat.le_refl _, by simp⟩, rfl⟩
  case body =>
    rintro lr U j x a' W hl hx ⟨hI, gp, hgp, hUg, rfl⟩ hU
    have p0 := hgp.cell_at 0 rfl
    have p1 := hgp.cell_at 1 rfl
    have p2 := hgp.cell_at 2 rfl
    obtain ⟨v, c0, v', W5, hrun, hbx5, ⟨A', n', c', rfl⟩, hI5, hs5, hk5⟩ := hI.append (R := R) hx hU HNL.out HRl.out
    have f0 := hbx5.frozen 0
    have c5 := hbx5.cell_at 0 rfl
    have HK5 := Lib.hid hk5
    have HI5 := Lib.hid hI5
    clear hI hk5 hI5 hbx5 hx hit0
    gi_wp2_with (gi_at_builtin; refine listIn_append rfl (.tmp 8) (.tmp 10) 25 rfl hrun ?_)
    exact ⟨_, Grew.with hU hs5, by rw [HSZ.out]; exact HK5.out, HI5.out⟩
  case stop =>
    rintro D c U W _ _ h _
    exact h.elim
  case done =>
    rintro D U W hD hUD ⟨hB, hsW, v, b2, hown, hvU⟩ hK
    have c0 := b2.cell_at 0 rfl
    have hsz := HSZ.out
    rw [List.take_length] at hown
    have HO : Hid ((W.putObj D (.deferred none)).ownsRow w.heap.size 40 3 v xs.length (xs.flatMap needCells)) := Lib.hid (by
      refine ⟨hown.1, ?_⟩
      rcases hown.2 with h | ⟨g', cap, cur, rfl, h3, h4, r⟩
      · exact .inl h
      · refine .inr ⟨g', cap, cur, rfl, by omega, (World.putObj_heap_other (fun e => ?_)).trans h4, r⟩
        subst e
        rw [hK] at h4
        cases h4)
    clear hown hvU hit0
    gi_wp2_with fail
    refine ⟨by simp, .inl ⟨_, _, rfl, run_takeDeferred hK, ?_⟩⟩
    refine ⟨v, by simp [results, Try.f51, go_sem], ⟨v, rfl, HO.out, hB.trans (belowK_b (w := w) (Nat.le_refl _) _ D _ _ (by omega) hK rfl rfl)⟩⟩
set_option maxRecDepth 100000 in
set_option maxHeartbeats 8000000 in
theorem collN_any {w : World} {gf : Nat} {lb : Array Value} {xs : List (Int × Int × Int)} {R : Nat → Prop} (hit : ∀ W, Below w.heap.size w W → IterU Try.prog gf lb (fun x : Int × Int × Int => #[stpV x.1 x.2.1 x.2.2]) xs R W) (eg : ∀ args w, (callFunc gf args).run Try.prog w = .ok (.enter gf args) w) (hRl : ∀ k, R k → k < w.heap.size) (hn : xs.length ≤ 1000000) :
    Calls Try.prog 30 #[.func (.func gf) #[] lb] w fun e w' => ∃ v, e = .returned v ∧ w'.ownsRow w.heap.size 40 3 v xs.length (xs.flatMap needCells) ∧ Below w.heap.size w w' := by
  have K := Lib.hid (seqN_any hit eg hRl hn)
  clear hit eg hRl hn
  go_enter Try.func30, Try.ntmps30
  go_wp2_with fail
  refine K.out.mono ?_
  rintro e w1 ⟨v, rfl, hown, hB⟩
  have HO := Lib.hid hown
  have HB := Lib.hid hB
  clear hown hB K
  go_wp2_with fail
  go_ret
  exact ⟨v, rfl, HO.out, HB.out⟩

/-- What is owned, read as a row of numbers, of needs. -/
theorem owns_nums {w : World} {base n : Nat} {v : Value} {xs : List Int} (hn : xs.length = n) (h : w.ownsRow base 3 1 v n (xs.flatMap oneC)) : ∃ A c, v = .slice A n c ∧ Row w w.heap.size A (nums .i64 xs) ∧ n ≤ c := by
  rw [← oneC_flat]
  rcases h.2 with ⟨rfl, rfl⟩ | ⟨g, cap, cur, rfl, hg, _, hle, _⟩
  · obtain rfl : xs = [] := List.eq_nil_of_length_eq_zero hn
    exact ⟨none, 0, rfl, Row.nil _ _ _, Nat.le_refl _⟩
  · exact ⟨_, cap, rfl, owns_row h (owns_lt h).2, hle⟩
theorem owns_needs {w : World} {base n : Nat} {v : Value} {xs : List (Int × Int × Int)} (hn : xs.length = n) (h : w.ownsRow base 40 3 v n (xs.flatMap needCells)) : ∃ A c, v = .slice A n c ∧ Row w w.heap.size A (xs.flatMap needCells) ∧ n ≤ c := by
  rcases h.2 with ⟨rfl, rfl⟩ | ⟨g, cap, cur, rfl, hg, _, hle, _⟩
  · obtain rfl : xs = [] := List.eq_nil_of_length_eq_zero hn
    exact ⟨none, 0, rfl, Row.nil _ _ _, Nat.le_refl _⟩
  · exact ⟨_, cap, rfl, owns_row2 h, hle⟩
set_option maxRecDepth 100000 in
set_option maxHeartbeats 8000000 in
theorem Sections_any {h : Hld} {w : World} (hl : HLies h w) (hs : Small h) : Calls Try.prog 11 #[h.val] w fun e w' => ∃ x : Option Addr × Nat, e = .returned (.slice x.1 h.secs.length x.2) ∧ Row w' w'.heap.size x.1 (nums .i64 h.secs) ∧ Below w.heap.size w w' := by
  obtain ⟨Q, HQ, HQb, HQh, hq⟩ := keep_h (Closed.below w) (Below.refl _ w) h
  obtain ⟨W0, hW0⟩ : ∃ W0, w.alloc (.cells h.cells.toArray 28) = W0 := ⟨_, rfl⟩
  have hB0 : Below w.heap.size w W0 := by rw [← hW0]; exact below1 w _
  have hs0 : W0.heap.size = w.heap.size + 1 := by rw [← hW0]; simp
  rw [hW0] at hq
  have HW0 := Lib.hid hW0
  have hg := secs_le hs
  obtain ⟨W1, hW1⟩ : ∃ W1, W0.alloc (.cells h.cells.toArray 28) = W1 := ⟨_, rfl⟩
  have hB1 : Below W0.heap.size W0 W1 := by rw [← hW1]; exact below1 W0 _
  have hb1 : Whole W1 W0.heap.size 28 h.cells := by rw [← hW1]; exact Whole.new W0 _ h.cells
  have hs1 : W1.heap.size = W0.heap.size + 1 := by rw [← hW1]; simp
  have hB2 := hB0.trans (hB1.mono hB0.size)
  have KC := Lib.hid (collI_any (w := W1) (gf := 49) (lb := #[.pointer (some ⟨W0.heap.size, 0, none⟩)]) (xs := h.secs) (R := fun k => k < w.heap.size ∨ (W0.heap.size ≤ k ∧ k < W0.heap.size + 1))
    (fun W hW => secs_iter hl (fun k o hk ho => ((hB2.trans (hW.mono hB2.size)).block k hk).trans ho) ⟨Nat.le_refl _, by omega⟩ (hb1.below hW hb1.lt))
    (enters_of Try.func49 (by kernel_rfl) rfl) (fun k hk => by rcases hk with hk | hk <;> omega) (by omega))
  have HW1 := Lib.hid hW1
  have HB2 := Lib.hid hB2
  clear hW0 hW1 hl hs hB0 hs0 hg hB1 hb1 hs1 hB2
  go_enter Try.func11, Try.ntmps11
  go_upto_region 1 with (fail)
  rw [HW0.out]
  clear HW0
  apply wp_region_lit
  repeat (first | (refine wpList_skip (by rfl) ?_; simp only [Act.put, List.setIfInBounds_toArray, List.set_cons_zero, List.set_cons_succ]) | (refine wpList_read _ (by rfl) (exec_hld (by rfl) (by rfl) (HQh.out _ hq)) ?_; simp only [Act.put, List.setIfInBounds_toArray, List.set_cons_zero, List.set_cons_succ]) | (refine wpList_read _ (by rfl) (by (go_simp; first | done | with_reducible rfl)) ?_; simp only [Act.put, List.setIfInBounds_toArray, List.set_cons_zero, List.set_cons_succ]))
  refine wpList_callv (by rfl) (by (go_simp; first | done | rfl)) (sections_any _) (fun w1 hw1 => ?_)
  simp only [Act.put, List.setIfInBounds_toArray, List.set_cons_zero, List.set_cons_succ]
  rw [HW1.out] at hw1
  subst hw1
  refine wpList_calle (by rfl) (by (go_simp; first | done | rfl)) (KC.out) (fun v w2 hv => ?_)
  simp only [Act.put, List.setIfInBounds_toArray, List.set_cons_zero, List.set_cons_succ]
  obtain ⟨hown, hB3⟩ := hv
  obtain ⟨A, c, rfl, hrow, _⟩ := owns_nums rfl hown
  have HR := Lib.hid hrow
  have HB := Lib.hid (HB2.out.trans (hB3.mono HB2.out.size))
  clear hown hrow hB3 KC
  go_wp2_with fail
  go_ret
  exact ⟨(A, c), rfl, HR.out, HB.out⟩
set_option maxRecDepth 100000 in
set_option maxHeartbeats 8000000 in
theorem Needs_any {h : Hld} {w : World} (hl : HLies h w) (hs : Small h) : Calls Try.prog 14 #[h.val] w fun e w' => ∃ x : Option Addr × Nat, e = .returned (.slice x.1 h.needs.length x.2) ∧ Row w' w'.heap.size x.1 (h.needs.flatMap needCells) ∧ Below w.heap.size w w' := by
  obtain ⟨Q, HQ, HQb, HQh, hq⟩ := keep_h (Closed.below w) (Below.refl _ w) h
  obtain ⟨W0, hW0⟩ : ∃ W0, w.alloc (.cells h.cells.toArray 28) = W0 := ⟨_, rfl⟩
  have hB0 : Below w.heap.size w W0 := by rw [← hW0]; exact below1 w _
  rw [hW0] at hq
  have HW0 := Lib.hid hW0
  have hg := needs_le hs
  have HG := Lib.hid (And.intro hl (And.intro hB0 hg))
  clear hW0 hl hs hB0 hg
  go_enter Try.func14, Try.ntmps14
  go_upto_region 1 with (fail)
  rw [HW0.out]
  clear HW0
  apply wp_region_lit
  repeat (first | (refine wpList_skip (by rfl) ?_; simp only [Act.put, List.setIfInBounds_toArray, List.set_cons_zero, List.set_cons_succ]) | (refine wpList_read _ (by rfl) (exec_hld (by rfl) (by rfl) (HQh.out _ hq)) ?_; simp only [Act.put, List.setIfInBounds_toArray, List.set_cons_zero, List.set_cons_succ]) | (refine wpList_read _ (by rfl) (by (go_simp; first | done | with_reducible rfl)) ?_; simp only [Act.put, List.setIfInBounds_toArray, List.set_cons_zero, List.set_cons_succ]))
  refine wpList_callx (by rfl) (by (go_simp; first | done | rfl)) (needs_any _) (fun e w1 he => ?_)
  obtain ⟨g, gf, rfl, hn, hB1⟩ := he
  obtain ⟨hl, hB0, hg⟩ := HG.out
  have hB2 := hB0.trans (hB1.mono hB0.size)
  have hs1 := hB0.size
  have KC := Lib.hid (collN_any (w := w1) (gf := 53) (lb := #[.pointer (some ⟨g, 0, none⟩), .pointer (some ⟨gf, 0, none⟩)]) (xs := h.needs) (R := fun k => k < w.heap.size ∨ (W0.heap.size ≤ k ∧ k < w1.heap.size))
    (fun W hW => needs_iter hl (fun k o hk ho => ((hB2.trans (hW.mono hB2.size)).block k hk).trans ho) (hn.keeps (Keeps.below hW (R := fun _ => True)) (fun _ _ => trivial)))
    (enters_of Try.func53 (by kernel_rfl) rfl) (fun k hk => by have := hB2.size; rcases hk with hk | hk <;> omega) (by omega))
  have HB2 := Lib.hid hB2
  clear hl hB0 hg hn hB1 hB2 hs1 hq
  refine ⟨_, rfl, ?_⟩
  simp only [Act.put, List.setIfInBounds_toArray, List.set_cons_zero, List.set_cons_succ]
  refine wpList_calle (by rfl) (by (go_simp; first | done | rfl)) (KC.out) (fun v w2 hv => ?_)
  simp only [Act.put, List.setIfInBounds_toArray, List.set_cons_zero, List.set_cons_succ]
  obtain ⟨hown, hB3⟩ := hv
  obtain ⟨A, c, rfl, hrow, _⟩ := owns_needs rfl hown
  have HR := Lib.hid hrow
  have HB := Lib.hid (HB2.out.trans (hB3.mono HB2.out.size))
  clear hown hrow hB3 KC
  go_wp2_with fail
  go_ret
  exact ⟨(A, c), rfl, HR.out, HB.out⟩

end Go.Proofs.Ytljpiafopbfdlaa
