/- Package port: Way. -/
import Derived.Test.YtbalcbnlpgekaaaDoorPortB
namespace Go.Proofs.YtbalcbnlpgekaaaDoor
open Go.RowKit Go.Shelf
set_option linter.unusedVariables false
attribute [local go_sem] Oper.semAt_some

set_option maxRecDepth 100000 in
set_option maxHeartbeats 4000000 in
theorem way_any (k i o : Int) (h0 : 0 ≤ k) (h1 : k ≤ 255) {p n a b c d : Int} (hs : IsShape k p n a b c d) (w : World) (hT : Shapes w) :
    Calls Tryd.prog 28 #[.int .u8 k, .int .i64 i, .int .i64 o] w fun e w' => e = .returned (.tuple #[.int .i64 (wayV n a b c d i o), .bool (goesV n a b c d i o)]) ∧ Below w.heap.size w w' := by
  refine (callsIn_wide (n := 4)).1 ?_
  refine callsIn_of_wp_marks Tryd.func28 rfl trivial ?_ rfl
  simp only [Tryd.ntmps28, List.size_toArray, List.length_cons, List.length_nil, Nat.reduceAdd, Nat.reduceSub, Array.replicate_succ, Array.replicate_zero, List.push_toArray, List.append_toArray, List.nil_append, List.cons_append]
  gi_wp2_with fail
  refine ⟨trivial, (ways_in 3 k _).mono ?_⟩
  rintro e w2 ⟨rfl, rfl⟩
  gi_wp2_with fail
  obtain ⟨W0, hW0, hsz, hB0, b0, b1, b2, b3, bk⟩ : ∃ W0, (((((w.alloc (.cells #[.int .i64 i] 3)).alloc (.cells #[.int .i64 o] 3)).alloc (.cells #[.int .i64 0] 3)).alloc (.cells #[.bool false] 4)).alloc (.cells #[.int .u8 k] 5)) = W0 ∧
      W0.heap.size = w.heap.size + 5 ∧ Below w.heap.size w W0 ∧ Whole W0 w.heap.size 3 [.int .i64 i] ∧ Whole W0 (w.heap.size + 1) 3 [.int .i64 o] ∧ Whole W0 (w.heap.size + 1 + 1) 3 [.int .i64 0] ∧ Whole W0 (w.heap.size + 1 + 1 + 1) 4 [.bool false] ∧ W0.cell? ⟨w.heap.size + 1 + 1 + 1 + 1, 0, none⟩ = some (.int .u8 k) :=
    ⟨_, rfl, by simp, ((below3 w _ _ _).alloc (by simp; omega) _).alloc (by simp; omega) _, ((((Whole.new w _ [_]).alloc _).alloc _).alloc _).alloc _, (((Whole.new_at _ _ [_] _ (by simp)).alloc _).alloc _).alloc _, ((Whole.new_at _ _ [_] _ (by simp)).alloc _).alloc _, (Whole.new_at _ _ [_] _ (by simp)).alloc _, (Whole.new_at _ _ [.int .u8 k] _ (by simp)).cell_at 0 rfl⟩
  rw [hW0]
  clear hW0
  have hseq := ways_stops 3 (by omega) (w.heap.size + 1 + 1 + 1 + 1) k h0 h1 hs W0 (Shapes.closed _ _ hT hB0) bk
  have HN := Lib.hid (isShape_n hs)
  have HSZ := Lib.hid hsz
  clear hs hsz bk
  refine wpIn_rangeFunc_ownH rfl (by omega) (gf := 87) rfl trivial (enters_of Tryd.func87 (by kernel_rfl) rfl) hseq CellsOn.trans CellsOn.put (Below.refl _ _) (fun _ => rfl)
    (fun pre W => (((Whole W w.heap.size 3 [.int .i64 i] ∧ Whole W (w.heap.size + 1) 3 [.int .i64 o]) ∧ (Whole W (w.heap.size + 1 + 1) 3 [.int .i64 0] ∧ Whole W (w.heap.size + 1 + 1 + 1) 4 [.bool false])) ∧ Below w.heap.size w W) ∧ findW i o pre = none)
    (fun c pre W => ((Whole W (w.heap.size + 1 + 1) 3 [.int .i64 ((findW i o pre).getD 0)] ∧ Whole W (w.heap.size + 1 + 1 + 1) 4 [.bool true]) ∧ Below w.heap.size w W) ∧ (c = .ret ∧ (findW i o pre).isSome = true))
    (OwnFrom.and (OwnFrom.and (OwnFrom.and (OwnFrom.and (Own.from (fun s X Y row hs hg hr => hs.abides hg hr) _) (Own.from (fun s X Y row hs hg hr => hs.abides hg hr) _)) (OwnFrom.and (Own.from (fun s X Y row hs hg hr => hs.abides hg hr) _) (Own.from (fun s X Y row hs hg hr => hs.abides hg hr) _))) (ownFrom_below (Nat.le_refl _) (by have := HSZ.out; omega))) (ownFrom_pure _ _))
    (fun c => OwnFrom.and (OwnFrom.and (OwnFrom.and (Own.from (fun s X Y row hs hg hr => hs.abides hg hr) _) (Own.from (fun s X Y row hs hg hr => hs.abides hg hr) _)) (ownFrom_below (Nat.le_refl _) (by have := HSZ.out; omega))) (ownFrom_pure _ _))
    ⟨⟨⟨⟨b0, b1⟩, b2, b3⟩, hB0⟩, rfl⟩
    (fun x a' W => ∃ Bx, w.heap.size + 1 + 1 + 1 < Bx ∧ Whole W Bx 110 [.int .i64 x.2.1, .int .i64 x.2.2] ∧ a' = { tmps := #[.int .u8 k, .int .i64 i, .int .i64 o, undef, .pointer (some ⟨w.heap.size, 0, none⟩), .pointer (some ⟨w.heap.size + 1, 0, none⟩), .pointer (some ⟨w.heap.size + 1 + 1, 0, none⟩), .pointer (some ⟨w.heap.size + 1 + 1 + 1, 0, none⟩), .int .i64 x.1, .pointer (some ⟨Bx, 0, none⟩), .int .u8 k, .func (.func 87) #[] #[.pointer (some ⟨w.heap.size + 1 + 1 + 1 + 1, 0, none⟩)], .int .i64 x.1, .agg #[.int .i64 x.2.1, .int .i64 x.2.2], undef, undef, undef, undef, undef], defers := [] })
    (fun x a' _ X Y row hs hg hr => by obtain ⟨Bx, h1, h2, h3⟩ := hs; exact ⟨Bx, h1, h2.abides hg (fun r e => (hr r e).2), h3⟩)
    ?assign ?body ?done ?stop
  case assign =>
    rintro l pre x W K ⟨⟨⟨⟨b0, b1⟩, b2, b3⟩, hB⟩, hf⟩ hK
    unfold encW
    gi_wp2_with fail
    exact hK _ _ ((KeepsOthers.alloc _ _).from _) (CellsOn.of_below (below1 _ _)) ⟨⟨⟨⟨b0.alloc _, b1.alloc _⟩, b2.alloc _, b3.alloc _⟩, hB.alloc hB.size _⟩, hf⟩ ⟨W.heap.size, b3.lt, Whole.new W _ [_, _], rfl⟩
  case body =>
    rintro l pre x a' W hl ⟨r, hr⟩ ⟨⟨⟨⟨b0, b1⟩, b2, b3⟩, hB⟩, hf⟩ ⟨Bx, hBx, bX, rfl⟩ hlt
    have c0 := b0.cell_at 0 rfl
    have c1 := b1.cell_at 0 rfl
    have x0 := bX.cell_at 0 rfl
    have x1 := bX.cell_at 1 rfl
    gi_wp2_with fail
    refine ⟨trivial, (CallsIn.inRound _ (callsIn_wide.2 (join_any x.2.1 x.2.2 i o _))).mono ?_⟩
    rintro e w3 ⟨rfl, hg3, hB3⟩
    have b2' := b2.below hB3 b2.lt
    have b3' := b3.below hB3 b3.lt
    have f2 := b2'.frozen 0
    have f3 := b3'.frozen 0
    have c2 := b2'.cell_at 0 rfl
    have c3 := b3'.cell_at 0 rfl
    have hko := KeepsOthers.of_grownBy hg3 (fun j o e => by cases e)
    have hsn := findW_snoc (x := x) hf
    cases hj : joinV x.2.1 x.2.2 i o
    · rw [hj] at hsn
      have HSN := Lib.hid hsn
      clear hsn hj
      gi_wp2_with fail
      exact ⟨hko.from _, CellsOn.of_below hB3, ⟨⟨⟨b0.below hB3 b0.lt, b1.below hB3 b1.lt⟩, b2', b3'⟩, hB.trans (hB3.mono hB.size)⟩, HSN.out⟩
    · rw [hj] at hsn
      have HSN := Lib.hid hsn
      clear hsn hj
      gi_wp2_with fail
      refine ⟨((hko.trans (KeepsOthers.setCell _ _ _)).trans (KeepsOthers.setCell _ _ _)).from _, ⟨⟨?_, ?_⟩, ?_⟩, rfl, ?_⟩
      · rw [HSN.out]
        exact (b2'.set 0 (.int .i64 x.1)).far (p := ⟨w.heap.size + 1 + 1 + 1, 0, none⟩) (by show w.heap.size + 1 + 1 ≠ w.heap.size + 1 + 1 + 1; omega) _
      · exact (b3'.far (p := ⟨w.heap.size + 1 + 1, 0, none⟩) (by show w.heap.size + 1 + 1 + 1 ≠ w.heap.size + 1 + 1; omega) _).set 0 (.bool true)
      · exact ((hB.trans (hB3.mono hB.size)).setCell (p := ⟨w.heap.size + 1 + 1, 0, none⟩) (by show w.heap.size ≤ w.heap.size + 1 + 1; omega) _).setCell (p := ⟨w.heap.size + 1 + 1 + 1, 0, none⟩) (by show w.heap.size ≤ w.heap.size + 1 + 1 + 1; omega) _
      · rw [HSN.out]; rfl
  case done =>
    rintro D ys W hD rfl ⟨⟨⟨⟨b0, b1⟩, b2, b3⟩, hB⟩, hf⟩ hK
    have f2 := b2.frozen 0
    have f3 := b3.frozen 0
    have c2 := b2.cell_at 0 rfl
    have c3 := b3.cell_at 0 rfl
    rw [findW_ways HN.out] at hf
    have hg : goesV n a b c d i o = false := by cases h : goesV n a b c d i o <;> simp [h] at hf ⊢
    have hv : wayV n a b c d i o = 0 := wayV_none hg
    have HG := Lib.hid hg
    have HV := Lib.hid hv
    clear hf hg hv
    gi_wp2_with fail
    have hs := HSZ.out
    have hK2 := (Below.heap_setCell (W.setCell ⟨w.heap.size + 1 + 1, 0, none⟩ (.int .i64 0)) ⟨w.heap.size + 1 + 1 + 1, 0, none⟩ (.bool false) D (by show D ≠ w.heap.size + 1 + 1 + 1; omega)).trans ((Below.heap_setCell W ⟨w.heap.size + 1 + 1, 0, none⟩ (.int .i64 0) D (by show D ≠ w.heap.size + 1 + 1; omega)).trans hK)
    have d2 := ((b2.set 0 (.int .i64 0)).far (p := ⟨w.heap.size + 1 + 1 + 1, 0, none⟩) (by show w.heap.size + 1 + 1 ≠ w.heap.size + 1 + 1 + 1; omega) (.bool false))
    have d3 := ((b3.far (p := ⟨w.heap.size + 1 + 1, 0, none⟩) (by show w.heap.size + 1 + 1 + 1 ≠ w.heap.size + 1 + 1; omega) (.int .i64 0)).set 0 (.bool false))
    have hB2 := (hB.setCell (p := ⟨w.heap.size + 1 + 1, 0, none⟩) (by show w.heap.size ≤ w.heap.size + 1 + 1; omega) (.int .i64 0)).setCell (p := ⟨w.heap.size + 1 + 1 + 1, 0, none⟩) (by show w.heap.size ≤ w.heap.size + 1 + 1 + 1; omega) (.bool false)
    have e2 := (d2.putDone (o' := .deferred none) hK2).cell_at 0 rfl
    have e3 := (d3.putDone (o' := .deferred none) hK2).cell_at 0 rfl
    refine ⟨by simp, .inl ⟨_, _, rfl, run_takeDeferred hK2, ?_⟩⟩
    refine ⟨.tuple #[.int .i64 0, .bool false], by simp [results, Tryd.f28, go_sem, e2, e3], by rw [HV.out, HG.out], hB2.trans (belowK_b (w := w) (Nat.le_refl _) _ D _ _ (by omega) hK2 rfl rfl)⟩
  case stop =>
    rintro D c pre W hD ⟨j, rfl⟩ ⟨⟨⟨b2, b3⟩, hB⟩, rfl, hf⟩ hK
    obtain ⟨v, hv⟩ := Option.isSome_iff_exists.1 hf
    have hw := findW_take hv
    rw [findW_ways HN.out] at hw
    have hg : goesV n a b c d i o = true := by cases h : goesV n a b c d i o <;> simp [h] at hw ⊢
    rw [hg, if_pos rfl] at hw
    have hw' : v = wayV n a b c d i o := (Option.some.inj hw).symm
    rw [hv, Option.getD_some, hw'] at b2
    have HG := Lib.hid hg
    clear hf hv hw hg hw'
    have hs := HSZ.out
    have e2 := (b2.putDone (o' := .deferred none) hK).cell_at 0 rfl
    have e3 := (b3.putDone (o' := .deferred none) hK).cell_at 0 rfl
    gi_wp2_with fail
    refine ⟨by simp, .inl ⟨_, _, rfl, run_takeDeferred hK, ?_⟩⟩
    refine ⟨.tuple #[.int .i64 (wayV n a b c d i o), .bool true], by simp [results, Tryd.f28, go_sem, e2, e3], by rw [HG.out], hB.trans (belowK_b (w := w) (Nat.le_refl _) _ D _ _ (by omega) hK rfl rfl)⟩
end Go.Proofs.YtbalcbnlpgekaaaDoor
