/- Package port: Ends. -/
import Derived.Test.YtmcnijkljofglaaDoorPortC
import Derived.Deep.RegionHeld3
namespace Go.Proofs.YtmcnijkljofglaaDoor
open Go.RowKit Go.Shelf
set_option linter.unusedVariables false
attribute [local go_sem] Oper.semAt_some

/-- A way's ends, looked up in a row of ways. -/
def endsW (y : Int) : List (Int × Int × Int) → Option (Int × Int)
  | [] => none
  | x :: r => if (x.1 == y) = true then some x.2 else endsW y r
theorem endsW_snoc {y : Int} : ∀ {l : List (Int × Int × Int)} {x : Int × Int × Int}, endsW y l = none → endsW y (l ++ [x]) = if (x.1 == y) = true then some x.2 else none
  | [], x, _ => rfl
  | z :: l, x, h => by
    unfold endsW at h
    rw [List.cons_append]
    unfold endsW
    split at h
    · cases h
    · rename_i hy
      rw [if_neg hy]
      exact endsW_snoc h
theorem endsW_take {y : Int} {v : Int × Int} : ∀ {l : List (Int × Int × Int)} {j : Nat}, endsW y (l.take j) = some v → endsW y l = some v
  | [], _, h => by simpa using h
  | x :: l, 0, h => by simp [endsW] at h
  | x :: l, j + 1, h => by
    rw [List.take_succ_cons] at h
    unfold endsW at h ⊢
    split
    · rename_i hx; rw [if_pos hx] at h; exact h
    · rename_i hx; rw [if_neg hx] at h; exact endsW_take h
/-- What Ends tells of a shape. -/
def hasV (n y : Int) : Bool := decide (0 ≤ y) && decide (y < n)
def endA (n a c y : Int) : Int := if hasV n y = true then (if y = 0 then a else c) else 0
theorem endsW_ways {n a b c d y : Int} (hn : n = 0 ∨ n = 1 ∨ n = 2) : endsW y (waysL n a b c d) = if hasV n y = true then some (endA n a c y, endA n b d y) else none := by
  have e0 : (0 == y) = decide (y = 0) := by rw [Bool.eq_iff_iff, beq_iff_eq, decide_eq_true_eq]; omega
  have e1 : (1 == y) = decide (y = 1) := by rw [Bool.eq_iff_iff, beq_iff_eq, decide_eq_true_eq]; omega
  rcases hn with rfl | rfl | rfl
  · have : hasV 0 y = false := by unfold hasV; simp; try omega
    rw [this]; rfl
  · show endsW y [(0, a, b)] = _
    by_cases h : y = 0
    · subst h; rfl
    · have : hasV 1 y = false := by unfold hasV; simp; try omega
      rw [this]
      simp [endsW, e0, h]
  · show endsW y [(0, a, b), (1, c, d)] = _
    by_cases h : y = 0
    · subst h; rfl
    · by_cases h' : y = 1
      · subst h'; rfl
      · have : hasV 2 y = false := by unfold hasV; simp; try omega
        rw [this]
        simp [endsW, e0, e1, h, h']

set_option maxRecDepth 100000 in
set_option maxHeartbeats 4000000 in
theorem ends_any (k y : Int) (h0 : 0 ≤ k) (h1 : k ≤ 255) {p n a b c d : Int} (hs : IsShape k p n a b c d) (w : World) (hT : Shapes w) :
    Calls Tryd.prog 8 #[.int .u8 k, .int .i64 y] w fun e w' => e = .returned (.tuple #[.int .i64 (endA n a c y), .int .i64 (endA n b d y), .bool (hasV n y)]) ∧ Below w.heap.size w w' := by
  refine (callsIn_wide (n := 4)).1 ?_
  refine callsIn_of_wp_marks Tryd.func8 rfl trivial ?_ rfl
  simp only [Tryd.ntmps8, List.size_toArray, List.length_cons, List.length_nil, Nat.reduceAdd, Nat.reduceSub, Array.replicate_succ, Array.replicate_zero, List.push_toArray, List.append_toArray, List.nil_append, List.cons_append]
  gi_wp2_with fail
  refine ⟨trivial, (ways_in 3 k _).mono ?_⟩
  rintro e w2 ⟨rfl, rfl⟩
  gi_wp2_with fail
  obtain ⟨W0, hW0, hsz, hB0, b0, b1, b2, b3, bk⟩ : ∃ W0, (((((w.alloc (.cells #[.int .i64 y] 3)).alloc (.cells #[.int .i64 0] 3)).alloc (.cells #[.int .i64 0] 3)).alloc (.cells #[.bool false] 4)).alloc (.cells #[.int .u8 k] 5)) = W0 ∧
      W0.heap.size = w.heap.size + 5 ∧ Below w.heap.size w W0 ∧ Whole W0 w.heap.size 3 [.int .i64 y] ∧ Whole W0 (w.heap.size + 1) 3 [.int .i64 0] ∧ Whole W0 (w.heap.size + 1 + 1) 3 [.int .i64 0] ∧ Whole W0 (w.heap.size + 1 + 1 + 1) 4 [.bool false] ∧ W0.cell? ⟨w.heap.size + 1 + 1 + 1 + 1, 0, none⟩ = some (.int .u8 k) :=
    ⟨_, rfl, by simp, ((below3 w _ _ _).alloc (by simp; omega) _).alloc (by simp; omega) _, ((((Whole.new w _ [_]).alloc _).alloc _).alloc _).alloc _, (((Whole.new_at _ _ [_] _ (by simp)).alloc _).alloc _).alloc _, ((Whole.new_at _ _ [_] _ (by simp)).alloc _).alloc _, (Whole.new_at _ _ [_] _ (by simp)).alloc _, (Whole.new_at _ _ [.int .u8 k] _ (by simp)).cell_at 0 rfl⟩
  rw [hW0]
  clear hW0
  have hseq := ways_stops 3 (by omega) (w.heap.size + 1 + 1 + 1 + 1) k h0 h1 hs W0 (Shapes.closed _ _ hT hB0) bk
  have HN := Lib.hid (isShape_n hs)
  have HSZ := Lib.hid hsz
  clear hs hsz bk
  refine wpIn_rangeFunc_ownH rfl (by omega) (gf := 33) rfl trivial (enters_of Tryd.func33 (by kernel_rfl) rfl) hseq CellsOn.trans CellsOn.put (Below.refl _ _) (fun _ => rfl)
    (fun pre W => (((Whole W w.heap.size 3 [.int .i64 y] ∧ Whole W (w.heap.size + 1) 3 [.int .i64 0]) ∧ (Whole W (w.heap.size + 1 + 1) 3 [.int .i64 0] ∧ Whole W (w.heap.size + 1 + 1 + 1) 4 [.bool false])) ∧ Below w.heap.size w W) ∧ endsW y pre = none)
    (fun c pre W => ((Whole W (w.heap.size + 1) 3 [.int .i64 ((endsW y pre).getD (0, 0)).1] ∧ (Whole W (w.heap.size + 1 + 1) 3 [.int .i64 ((endsW y pre).getD (0, 0)).2] ∧ Whole W (w.heap.size + 1 + 1 + 1) 4 [.bool true])) ∧ Below w.heap.size w W) ∧ (c = .ret ∧ (endsW y pre).isSome = true))
    (OwnFrom.and (OwnFrom.and (OwnFrom.and (OwnFrom.and (Own.from (fun s X Y row hs hg hr => hs.abides hg hr) _) (Own.from (fun s X Y row hs hg hr => hs.abides hg hr) _)) (OwnFrom.and (Own.from (fun s X Y row hs hg hr => hs.abides hg hr) _) (Own.from (fun s X Y row hs hg hr => hs.abides hg hr) _))) (ownFrom_below (Nat.le_refl _) (by have := HSZ.out; omega))) (ownFrom_pure _ _))
    (fun c => OwnFrom.and (OwnFrom.and (OwnFrom.and (Own.from (fun s X Y row hs hg hr => hs.abides hg hr) _) (OwnFrom.and (Own.from (fun s X Y row hs hg hr => hs.abides hg hr) _) (Own.from (fun s X Y row hs hg hr => hs.abides hg hr) _))) (ownFrom_below (Nat.le_refl _) (by have := HSZ.out; omega))) (ownFrom_pure _ _))
    ⟨⟨⟨⟨b0, b1⟩, b2, b3⟩, hB0⟩, rfl⟩
    (fun x a' W => ∃ Bx, w.heap.size + 1 + 1 + 1 < Bx ∧ Whole W Bx 52 [.int .i64 x.2.1, .int .i64 x.2.2] ∧ a' = { tmps := #[.int .u8 k, .int .i64 y, undef, .pointer (some ⟨w.heap.size, 0, none⟩), .pointer (some ⟨w.heap.size + 1, 0, none⟩), .pointer (some ⟨w.heap.size + 1 + 1, 0, none⟩), .pointer (some ⟨w.heap.size + 1 + 1 + 1, 0, none⟩), .int .i64 x.1, .pointer (some ⟨Bx, 0, none⟩), .int .u8 k, .func (.func 33) #[] #[.pointer (some ⟨w.heap.size + 1 + 1 + 1 + 1, 0, none⟩)], .int .i64 x.1, .agg #[.int .i64 x.2.1, .int .i64 x.2.2], undef, undef, undef, undef, undef, undef, undef], defers := [] })
    (fun x a' _ X Y row hs hg hr => by obtain ⟨Bx, h1, h2, h3⟩ := hs; exact ⟨Bx, h1, h2.abides hg (fun r e => (hr r e).2), h3⟩)
    ?assign ?body ?done ?stop
  case assign =>
    rintro l pre x W K ⟨⟨⟨⟨b0, b1⟩, b2, b3⟩, hB⟩, hf⟩ hK
    unfold encW
    gi_wp2_with fail
    exact hK _ _ ((KeepsOthers.alloc _ _).from _) (CellsOn.of_below (below1 _ _)) ⟨⟨⟨⟨b0.alloc _, b1.alloc _⟩, b2.alloc _, b3.alloc _⟩, hB.alloc hB.size _⟩, hf⟩ ⟨W.heap.size, b3.lt, Whole.new W _ [_, _], rfl⟩
  case body =>
    rintro l pre x a' W hl ⟨r, hr⟩ ⟨⟨⟨⟨b0, b1⟩, b2, b3⟩, hB⟩, hf⟩ ⟨Bx, hBx, bX, rfl⟩ hlt
    have c0 := b0.cell_at 0 rfl
    have x0 := bX.cell_at 0 rfl
    have x1 := bX.cell_at 1 rfl
    have hsn := endsW_snoc (x := x) hf
    cases hj : (x.1 == y)
    · rw [hj] at hsn
      have HSN := Lib.hid hsn
      clear hsn
      gi_wp2_with fail
      exact ⟨KeepsFrom.refl _ _, CellsOn.refl _, ⟨⟨⟨b0, b1⟩, b2, b3⟩, hB⟩, HSN.out⟩
    · rw [hj, if_pos rfl] at hsn
      have HSN := Lib.hid hsn
      clear hsn
      have f1 := b1.frozen 0
      have f2 := b2.frozen 0
      have f3 := b3.frozen 0
      have c1 := b1.cell_at 0 rfl
      have c2 := b2.cell_at 0 rfl
      have c3 := b3.cell_at 0 rfl
      gi_wp2_with fail
      refine wpIn_normal (wpIn_region_any (by kernel_rfl) (any_inRound l _ (by kernel_rfl) noLetsOut _ _ _ _ (wpAny_of_held (S := fun W' => W'.cell? ⟨Bx, 0, none⟩ = some (.int .i64 x.2.1) ∧ W'.cell? ⟨Bx, 1, none⟩ = some (.int .i64 x.2.2)) _ _ _ _ ?_)))
      refine wpAnyH_take (i := 0) (oi := ⟨some 16, _, _, _, _, _⟩) (v := .pointer (some ⟨Bx, 0, none⟩)) rfl (by kernel_rfl) (by kernel_rfl) (by kernel_rfl) (fun _ _ _ h => h) (Or.inl ⟨rfl, fun w hS => rfl⟩) ⟨x0, x1⟩ ?_
      simp only [Act.put, List.setIfInBounds_toArray, List.set_cons_zero, List.set_cons_succ]
      refine wpAnyH_take (i := 1) (oi := ⟨some 17, _, _, _, _, _⟩) (v := .int .i64 x.2.1) rfl (by kernel_rfl) (by kernel_rfl) (by kernel_rfl) (fun _ _ _ h => h) (Or.inl ⟨rfl, fun w hS => by obtain ⟨h0, h1⟩ := hS; go_simp⟩) ⟨x0, x1⟩ ?_
      simp only [Act.put, List.setIfInBounds_toArray, List.set_cons_zero, List.set_cons_succ]
      refine wpAnyH_take (i := 2) (oi := ⟨some 18, _, _, _, _, _⟩) (v := .pointer (some ⟨Bx, 1, none⟩)) rfl (by kernel_rfl) (by kernel_rfl) (by kernel_rfl) (fun _ _ _ h => h) (Or.inl ⟨rfl, fun w hS => rfl⟩) ⟨x0, x1⟩ ?_
      simp only [Act.put, List.setIfInBounds_toArray, List.set_cons_zero, List.set_cons_succ]
      refine wpAnyH_take (i := 3) (oi := ⟨some 19, _, _, _, _, _⟩) (v := .int .i64 x.2.2) rfl (by kernel_rfl) (by kernel_rfl) (by kernel_rfl) (fun _ _ _ h => h) (Or.inl ⟨rfl, fun w hS => by obtain ⟨h0, h1⟩ := hS; go_simp⟩) ⟨x0, x1⟩ ?_
      simp only [Act.put, List.setIfInBounds_toArray, List.set_cons_zero, List.set_cons_succ]
      have hS0 : W.drew.cell? ⟨Bx, 0, none⟩ = some (.int .i64 x.2.1) ∧ W.drew.cell? ⟨Bx, 1, none⟩ = some (.int .i64 x.2.2) := ⟨x0, x1⟩
      refine wpAnyH_ready (rs := [4]) (by kernel_rfl) (by simp) ?_
      refine AllReadyH.cons rfl (fun K hK => ?_) AllReadyH.nil
      go_simp
      refine hK.out _ _ ?_ (fun hS => ?_)
      · exact ⟨(World.cell?_of_block (a := ⟨Bx, 0, none⟩) (Below.heap_setCell _ ⟨w.heap.size + 1, 0, none⟩ _ Bx (by show Bx ≠ w.heap.size + 1; omega))).trans hS0.1, (World.cell?_of_block (a := ⟨Bx, 1, none⟩) (Below.heap_setCell _ ⟨w.heap.size + 1, 0, none⟩ _ Bx (by show Bx ≠ w.heap.size + 1; omega))).trans hS0.2⟩
      clear hK K hS0
      have hS0 := hS
      clear hS
      try simp only [Act.put, List.setIfInBounds_toArray, List.set_cons_zero, List.set_cons_succ]
      refine wpAnyH_ready (rs := [5]) (by kernel_rfl) (by simp) ?_
      refine AllReadyH.cons rfl (fun K hK => ?_) AllReadyH.nil
      go_simp
      refine hK.out _ _ ?_ (fun hS => ?_)
      · exact ⟨(World.cell?_of_block (a := ⟨Bx, 0, none⟩) (Below.heap_setCell _ ⟨w.heap.size + 1 + 1, 0, none⟩ _ Bx (by show Bx ≠ w.heap.size + 1 + 1; omega))).trans hS0.1, (World.cell?_of_block (a := ⟨Bx, 1, none⟩) (Below.heap_setCell _ ⟨w.heap.size + 1 + 1, 0, none⟩ _ Bx (by show Bx ≠ w.heap.size + 1 + 1; omega))).trans hS0.2⟩
      clear hK K hS0
      have hS0 := hS
      clear hS
      try simp only [Act.put, List.setIfInBounds_toArray, List.set_cons_zero, List.set_cons_succ]
      refine wpAnyH_ready (rs := [6]) (by kernel_rfl) (by simp) ?_
      refine AllReadyH.cons rfl (fun K hK => ?_) AllReadyH.nil
      go_simp
      refine hK.out _ _ ?_ (fun hS => ?_)
      · exact ⟨(World.cell?_of_block (a := ⟨Bx, 0, none⟩) (Below.heap_setCell _ ⟨w.heap.size + 1 + 1 + 1, 0, none⟩ _ Bx (by show Bx ≠ w.heap.size + 1 + 1 + 1; omega))).trans hS0.1, (World.cell?_of_block (a := ⟨Bx, 1, none⟩) (Below.heap_setCell _ ⟨w.heap.size + 1 + 1 + 1, 0, none⟩ _ Bx (by show Bx ≠ w.heap.size + 1 + 1 + 1; omega))).trans hS0.2⟩
      clear hK K hS0
      have hS0 := hS
      clear hS
      try simp only [Act.put, List.setIfInBounds_toArray, List.set_cons_zero, List.set_cons_succ]
      refine wpAnyH_done (by kernel_rfl) ?_ _
      clear hS0
      gi_wp2_with fail
      have d1 := ((b1.set 0 (.int .i64 x.2.1)).far (p := ⟨w.heap.size + 1 + 1, 0, none⟩) (by show w.heap.size + 1 ≠ w.heap.size + 1 + 1; omega) (.int .i64 x.2.2)).far (p := ⟨w.heap.size + 1 + 1 + 1, 0, none⟩) (by show w.heap.size + 1 ≠ w.heap.size + 1 + 1 + 1; omega) (.bool true)
      have d2 := ((b2.far (p := ⟨w.heap.size + 1, 0, none⟩) (by show w.heap.size + 1 + 1 ≠ w.heap.size + 1; omega) (.int .i64 x.2.1)).set 0 (.int .i64 x.2.2)).far (p := ⟨w.heap.size + 1 + 1 + 1, 0, none⟩) (by show w.heap.size + 1 + 1 ≠ w.heap.size + 1 + 1 + 1; omega) (.bool true)
      have d3 := ((b3.far (p := ⟨w.heap.size + 1, 0, none⟩) (by show w.heap.size + 1 + 1 + 1 ≠ w.heap.size + 1; omega) (.int .i64 x.2.1)).far (p := ⟨w.heap.size + 1 + 1, 0, none⟩) (by show w.heap.size + 1 + 1 + 1 ≠ w.heap.size + 1 + 1; omega) (.int .i64 x.2.2)).set 0 (.bool true)
      refine ⟨((((KeepsOthers.setCell _ _ _).trans (KeepsOthers.setCell _ _ _)).trans (KeepsOthers.setCell _ _ _)).trans (KeepsOthers.drew _)).from _, ⟨⟨?_, ?_, d3⟩, ((((hB.setCell (p := ⟨w.heap.size + 1, 0, none⟩) (by show w.heap.size ≤ w.heap.size + 1; omega) (.int .i64 x.2.1)).setCell (p := ⟨w.heap.size + 1 + 1, 0, none⟩) (by show w.heap.size ≤ w.heap.size + 1 + 1; omega) (.int .i64 x.2.2)).setCell (p := ⟨w.heap.size + 1 + 1 + 1, 0, none⟩) (by show w.heap.size ≤ w.heap.size + 1 + 1 + 1; omega) (.bool true))).drew⟩, rfl, ?_⟩
      · rw [HSN.out]; exact d1
      · rw [HSN.out]; exact d2
      · rw [HSN.out]; rfl
  case done =>
    rintro D ys W hD rfl ⟨⟨⟨⟨b0, b1⟩, b2, b3⟩, hB⟩, hf⟩ hK
    have f1 := b1.frozen 0
    have f2 := b2.frozen 0
    have f3 := b3.frozen 0
    have c1 := b1.cell_at 0 rfl
    have c2 := b2.cell_at 0 rfl
    have c3 := b3.cell_at 0 rfl
    rw [endsW_ways HN.out] at hf
    have hg : hasV n y = false := by cases h : hasV n y <;> simp [h] at hf ⊢
    have hv : endA n a c y = 0 := by unfold endA; rw [hg]; rfl
    have hv' : endA n b d y = 0 := by unfold endA; rw [hg]; rfl
    have HG := Lib.hid hg
    have HV := Lib.hid hv
    have HV' := Lib.hid hv'
    clear hf hg hv hv'
    gi_wp2_with fail
    have hs := HSZ.out
    have hK2 := (Below.heap_setCell _ ⟨w.heap.size + 1 + 1 + 1, 0, none⟩ (.bool false) D (by show D ≠ w.heap.size + 1 + 1 + 1; omega)).trans ((Below.heap_setCell _ ⟨w.heap.size + 1 + 1, 0, none⟩ (.int .i64 0) D (by show D ≠ w.heap.size + 1 + 1; omega)).trans ((Below.heap_setCell W ⟨w.heap.size + 1, 0, none⟩ (.int .i64 0) D (by show D ≠ w.heap.size + 1; omega)).trans hK))
    have d1 := ((b1.set 0 (.int .i64 0)).far (p := ⟨w.heap.size + 1 + 1, 0, none⟩) (by show w.heap.size + 1 ≠ w.heap.size + 1 + 1; omega) (.int .i64 0)).far (p := ⟨w.heap.size + 1 + 1 + 1, 0, none⟩) (by show w.heap.size + 1 ≠ w.heap.size + 1 + 1 + 1; omega) (.bool false)
    have d2 := ((b2.far (p := ⟨w.heap.size + 1, 0, none⟩) (by show w.heap.size + 1 + 1 ≠ w.heap.size + 1; omega) (.int .i64 0)).set 0 (.int .i64 0)).far (p := ⟨w.heap.size + 1 + 1 + 1, 0, none⟩) (by show w.heap.size + 1 + 1 ≠ w.heap.size + 1 + 1 + 1; omega) (.bool false)
    have d3 := ((b3.far (p := ⟨w.heap.size + 1, 0, none⟩) (by show w.heap.size + 1 + 1 + 1 ≠ w.heap.size + 1; omega) (.int .i64 0)).far (p := ⟨w.heap.size + 1 + 1, 0, none⟩) (by show w.heap.size + 1 + 1 + 1 ≠ w.heap.size + 1 + 1; omega) (.int .i64 0)).set 0 (.bool false)
    have hB2 := (((hB.setCell (p := ⟨w.heap.size + 1, 0, none⟩) (by show w.heap.size ≤ w.heap.size + 1; omega) (.int .i64 0)).setCell (p := ⟨w.heap.size + 1 + 1, 0, none⟩) (by show w.heap.size ≤ w.heap.size + 1 + 1; omega) (.int .i64 0)).setCell (p := ⟨w.heap.size + 1 + 1 + 1, 0, none⟩) (by show w.heap.size ≤ w.heap.size + 1 + 1 + 1; omega) (.bool false))
    have e1 := (d1.putDone (o' := .deferred none) hK2).cell_at 0 rfl
    have e2 := (d2.putDone (o' := .deferred none) hK2).cell_at 0 rfl
    have e3 := (d3.putDone (o' := .deferred none) hK2).cell_at 0 rfl
    refine ⟨by simp, .inl ⟨_, _, rfl, run_takeDeferred hK2, ?_⟩⟩
    refine ⟨.tuple #[.int .i64 0, .int .i64 0, .bool false], by simp [results, Tryd.f8, go_sem, e1, e2, e3], by rw [HV.out, HV'.out, HG.out], hB2.trans (belowK_b (w := w) (Nat.le_refl _) _ D _ _ (by omega) hK2 rfl rfl)⟩
  case stop =>
    rintro D c' pre W hD ⟨j, rfl⟩ ⟨⟨⟨b1, b2, b3⟩, hB⟩, rfl, hf⟩ hK
    obtain ⟨v, hv⟩ := Option.isSome_iff_exists.1 hf
    have hw := endsW_take hv
    rw [endsW_ways HN.out] at hw
    have hg : hasV n y = true := by cases h : hasV n y <;> simp [h] at hw ⊢
    rw [hg, if_pos rfl] at hw
    have hw' : v = (endA n a c y, endA n b d y) := (Option.some.inj hw).symm
    rw [hv, Option.getD_some, hw'] at b1 b2
    have HG := Lib.hid hg
    clear hf hv hw hg hw'
    have hs := HSZ.out
    have e1 := (b1.putDone (o' := .deferred none) hK).cell_at 0 rfl
    have e2 := (b2.putDone (o' := .deferred none) hK).cell_at 0 rfl
    have e3 := (b3.putDone (o' := .deferred none) hK).cell_at 0 rfl
    gi_wp2_with fail
    refine ⟨by simp, .inl ⟨_, _, rfl, run_takeDeferred hK, ?_⟩⟩
    refine ⟨.tuple #[.int .i64 (endA n a c y), .int .i64 (endA n b d y), .bool true], by simp [results, Tryd.f8, go_sem, e1, e2, e3], by rw [HG.out], hB.trans (belowK_b (w := w) (Nat.le_refl _) _ D _ _ (by omega) hK rfl rfl)⟩
end Go.Proofs.YtmcnijkljofglaaDoor
