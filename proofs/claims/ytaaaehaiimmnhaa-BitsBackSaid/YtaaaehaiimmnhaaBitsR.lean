/- The document's own bits: Own, Of, with, bit. -/
import Derived.Test.YtaaaehaiimmnhaaBitsG
import Derived.Test.YtaaaehaiimmnhaaAppend
import Derived.RegionTactic
import Derived.BigRegion
namespace Go.Proofs.Ytaaaehaiimmnhaa
open Go.RowKit Go.Shelf
set_option linter.unusedVariables false

set_option maxHeartbeats 1000000 in
theorem own_any (A : Option Addr) (cap : Nat) (zs : List Int) (N : Int) (w : World) (hr : Row w w.heap.size A (u8s zs)) (hl : zs.length ≤ 1099511627776) :
    Calls Try.prog 21 #[.agg #[.slice A zs.length cap, .int .i64 N]] w fun e w' =>
      ∃ g, e = .returned (.agg #[.slice (some ⟨g, 0, none⟩) zs.length zs.length, .int .i64 N]) ∧ w.heap.size ≤ g ∧ Whole w' g 5 (u8s zs) ∧ Below w.heap.size w w' := by
  have hmk := make_u8 zs.length (by omega)
  go_enter Try.func21, Try.ntmps21
  go_wp2_with fail
  obtain ⟨W, hW, hsz, hbel, hbox, hres, hnew⟩ : ∃ W, (((w.alloc (.cells #[.slice A zs.length cap, .int .i64 N] 24)).alloc (.cells #[.slice none 0 0, .int .i64 0] 24)).alloc (.cells (Array.replicate zs.length (.int .u8 0)) 5)) = W ∧ W.heap.size = w.heap.size + 1 + 1 + 1 ∧ Below w.heap.size w W ∧
      Whole W w.heap.size 24 [.slice A zs.length cap, .int .i64 N] ∧ Whole W (w.heap.size + 1) 24 [.slice none 0 0, .int .i64 0] ∧ Whole W (w.heap.size + 1 + 1) 5 (List.replicate zs.length (.int .u8 0)) := by
    refine ⟨_, rfl, by simp, below3 _ _ _ _, ((Whole.new w _ [_, _]).alloc _).alloc _, (Whole.new_at _ _ [_, _] _ (by simp)).alloc _, ?_⟩
    rw [← List.toArray_replicate]
    exact Whole.new_at _ _ _ _ (by simp)
  rw [hW]
  clear hW
  obtain ⟨w2, hcopy, hW2, hG2⟩ := copy_run (P := Try.prog) 22 22 5 Try.underlying22 (by kernel_rfl) (w.heap.size + 1 + 1) _ _ A cap w.heap.size zs.length zs.length W hnew (by simp) (hr.below hbel) (by rw [u8s_length]; exact Nat.le_refl _) (u8s_one _)
  rw [u8s_length] at hcopy hW2
  have hbox2 := hbox.kept hG2 (by intro e; injection e with e; omega)
  have hres2 := hres.kept hG2 (by intro e; injection e with e; omega)
  have x1 := hbox2.cell_at 1 rfl
  have c0 := hres2.cell_at 0 rfl
  have c1 := hres2.cell_at 1 rfl
  have f0 := hres2.frozen 0
  have f1 := hres2.frozen 1
  simp only [hcopy, Result.andThen_ok]
  go_wp2
  refine bodyPost_ret (v := .agg #[.slice (some ⟨w.heap.size + 1 + 1, 0, none⟩) zs.length zs.length, .int .i64 N]) (by simp [results, Try.f21, go_sem, c0, c1]) rfl ⟨_, rfl, by omega, ?_, ?_⟩
  · rw [List.drop_eq_nil_of_le (by simp), List.append_nil] at hW2
    exact (hW2.far (p := ⟨w.heap.size + 1, 0, none⟩) (by show w.heap.size + 1 + 1 ≠ w.heap.size + 1; omega) _).far (p := ⟨w.heap.size + 1, 1, none⟩) (by show w.heap.size + 1 + 1 ≠ w.heap.size + 1; omega) _
  · exact ((hbel.grown hG2 (by omega) (fun k e => by cases e; omega)).setCell (p := ⟨w.heap.size + 1, 0, none⟩) (Nat.le_succ _) _).setCell (p := ⟨w.heap.size + 1, 1, none⟩) (Nat.le_succ _) _

set_option maxHeartbeats 1000000 in
theorem ownR_any (A : Option Addr) (cap : Nat) (zs : List Int) (N : Int) (w : World) (hr : Row w w.heap.size A (u8s zs)) (hl : zs.length ≤ 1099511627776) :
    Calls Try.prog 27 #[.agg #[.slice A zs.length cap, .int .i64 N]] w fun e w' =>
      ∃ g c, e = .returned (.agg #[.slice (some ⟨g, 0, none⟩) zs.length c, .int .i64 N]) ∧ w'.ownsRow w.heap.size 5 1 (.slice (some ⟨g, 0, none⟩) zs.length c) zs.length (u8s zs) ∧ Below w.heap.size w w' := by
  go_enter Try.func27, Try.ntmps27
  go_wp2_with fail
  obtain ⟨W, hW, hsz, hbel, hbox, hres, hnew⟩ : ∃ W, (((w.alloc (.cells #[.slice A zs.length cap, .int .i64 N] 24)).alloc (.cells #[.slice none 0 0, .int .i64 0] 24)).alloc (.cells #[] 5)).drew = W ∧ W.heap.size = w.heap.size + 1 + 1 + 1 ∧ Below w.heap.size w W ∧
      Whole W w.heap.size 24 [.slice A zs.length cap, .int .i64 N] ∧ Whole W (w.heap.size + 1) 24 [.slice none 0 0, .int .i64 0] ∧ W.ownsRow w.heap.size 5 1 (.slice (some ⟨w.heap.size + 1 + 1, 0, none⟩) 0 0) 0 [] :=
    ⟨_, rfl, by simp, (below3 _ _ _ _).drew, ((Whole.new w _ [_, _]).alloc _).alloc _, (Whole.new_at _ _ [_, _] _ (by simp)).alloc _,
      ⟨rfl, .inr ⟨_, 0, #[], rfl, by omega, Whole.new_at _ _ [] _ (by simp), Nat.le_refl _, Nat.zero_le _, rfl, rfl⟩⟩⟩
  obtain ⟨g', c', w2, happ, hown, hG2, hg'⟩ := append_run (P := Try.prog) 22 22 5 (.int .u8 0) 1 Try.underlying22 info_u8 rfl w.heap.size _ 0 0 [] (u8s zs) W hnew w.heap.size cap A (hr.below hbel) (u8s_one _) (by rw [u8s_length]; unfold maxLen; omega) (by rw [u8s_length]; omega) (by omega)
  rw [u8s_length, Nat.zero_add] at happ hown
  rw [List.nil_append] at hown
  rw [← hW] at happ
  clear hW
  have hbox2 := hbox.kept hG2 (by intro e; injection e with e; omega)
  have hres2 := hres.kept hG2 (by intro e; injection e with e; omega)
  have x1 := hbox2.cell_at 1 rfl
  have c0 := hres2.cell_at 0 rfl
  have c1 := hres2.cell_at 1 rfl
  have f0 := hres2.frozen 0
  have f1 := hres2.frozen 1
  have hgn : w.heap.size + 1 + 1 ≤ g' := by rcases hg' with h | h <;> omega
  go_region_law (refine step_append rfl (.tmp 3) (.tmp 5) 22 rfl happ ?_)
  all_goals
    go_wp2
    refine bodyPost_ret (v := .agg #[.slice (some ⟨g', 0, none⟩) zs.length c', .int .i64 N]) (by simp [results, Try.f27, go_sem, c0, c1]) rfl ⟨g', c', rfl, ?_, ?_⟩
    · exact owns_far (owns_far hown (p := ⟨w.heap.size + 1, 0, none⟩) (by show g' ≠ w.heap.size + 1; omega) _) (p := ⟨w.heap.size + 1, 1, none⟩) (by show g' ≠ w.heap.size + 1; omega) _
    · exact ((hbel.grown hG2 (by omega) (fun k e => by cases e; omega)).setCell (p := ⟨w.heap.size + 1, 0, none⟩) (Nat.le_succ _) _).setCell (p := ⟨w.heap.size + 1, 1, none⟩) (Nat.le_succ _) _

set_option maxHeartbeats 1000000 in
theorem of_any (A : Option Addr) (cap : Nat) (zs : List Int) (w : World) (hr : Row w w.heap.size A (u8s zs)) (hl : zs.length ≤ 1099511627776) :
    Calls Try.prog 22 #[.slice A zs.length cap] w fun e w' =>
      ∃ g, e = .returned (.agg #[.slice (some ⟨g, 0, none⟩) zs.length zs.length, .int .i64 (8 * (zs.length : Int))]) ∧ w.heap.size ≤ g ∧ Whole w' g 5 (u8s zs) ∧ Below w.heap.size w w' := by
  go_enter Try.func22, Try.ntmps22
  go_wp2_with fail
  refine (own_any A cap zs (8 * (zs.length : Int)) _ (by exact hr.on (below1 _ _)) hl).mono ?_
  rintro e w1 ⟨g, rfl, hg, hW, hB⟩
  have hres := (Whole.new w 24 [.slice none 0 0, .int .i64 0]).below hB (by simp)
  have c0 := hres.cell_at 0 rfl
  have c1 := hres.cell_at 1 rfl
  have f0 := hres.frozen 0
  have f1 := hres.frozen 1
  simp only [World.size_alloc] at hg
  go_wp2
  refine bodyPost_ret (v := .agg #[.slice (some ⟨g, 0, none⟩) zs.length zs.length, .int .i64 (8 * (zs.length : Int))]) (by simp [results, Try.f22, go_sem, c0, c1]) rfl ⟨g, rfl, by omega, ?_, ?_⟩
  · exact (hW.far (p := ⟨w.heap.size, 0, none⟩) (by show g ≠ w.heap.size; omega) _).far (p := ⟨w.heap.size, 1, none⟩) (by show g ≠ w.heap.size; omega) _
  · exact (((below1 w _).trans (hB.mono (by simp))).setCell (p := ⟨w.heap.size, 0, none⟩) (Nat.le_refl _) _).setCell (p := ⟨w.heap.size, 1, none⟩) (Nat.le_refl _) _

set_option maxHeartbeats 1000000 in
theorem ofR_any (A : Option Addr) (cap : Nat) (zs : List Int) (w : World) (hr : Row w w.heap.size A (u8s zs)) (hl : zs.length ≤ 1099511627776) :
    Calls Try.prog 23 #[.slice A zs.length cap] w fun e w' =>
      ∃ g c, e = .returned (.agg #[.slice (some ⟨g, 0, none⟩) zs.length c, .int .i64 (8 * (zs.length : Int))]) ∧ w'.ownsRow w.heap.size 5 1 (.slice (some ⟨g, 0, none⟩) zs.length c) zs.length (u8s zs) ∧ Below w.heap.size w w' := by
  obtain ⟨W, hW, hsz, hbel, hres, hnew⟩ : ∃ W, ((w.alloc (.cells #[.slice none 0 0, .int .i64 0] 24)).alloc (.cells #[] 5)) = W ∧ W.heap.size = w.heap.size + 1 + 1 ∧ Below w.heap.size w W ∧
      Whole W w.heap.size 24 [.slice none 0 0, .int .i64 0] ∧ W.ownsRow w.heap.size 5 1 (.slice (some ⟨w.heap.size + 1, 0, none⟩) 0 0) 0 [] :=
    ⟨_, rfl, by simp, below2 _ _ _, (Whole.new w _ [_, _]).alloc _,
      ⟨rfl, .inr ⟨_, 0, #[], rfl, by omega, Whole.new_at _ _ [] _ (by simp), Nat.le_refl _, Nat.zero_le _, rfl, rfl⟩⟩⟩
  obtain ⟨g', c', w2, happ, hown, hG2, hg'⟩ := append_run (P := Try.prog) 22 22 5 (.int .u8 0) 1 Try.underlying22 info_u8 rfl w.heap.size _ 0 0 [] (u8s zs) W hnew w.heap.size cap A (hr.below hbel) (u8s_one _) (by rw [u8s_length]; unfold maxLen; omega) (by rw [u8s_length]; omega) (by omega)
  rw [u8s_length, Nat.zero_add] at happ hown
  rw [List.nil_append] at hown
  rw [← hW] at happ
  clear hW
  have hres2 := hres.kept hG2 (by intro e; injection e with e; omega)
  have c0 := hres2.cell_at 0 rfl
  have c1 := hres2.cell_at 1 rfl
  have f0 := hres2.frozen 0
  have f1 := hres2.frozen 1
  have hgn : w.heap.size + 1 ≤ g' := by rcases hg' with h | h <;> omega
  go_enter Try.func23, Try.ntmps23
  go_wp2_with (at_builtin; refine list_append rfl (.tmp 3) (.tmp 4) 22 rfl happ ?_)
  refine bodyPost_ret (v := .agg #[.slice (some ⟨g', 0, none⟩) zs.length c', .int .i64 (8 * (zs.length : Int))]) (by simp [results, Try.f23, go_sem, c0, c1]) rfl ⟨g', c', rfl, ?_, ?_⟩
  · exact owns_far (owns_far hown (p := ⟨w.heap.size, 0, none⟩) (by show g' ≠ w.heap.size; omega) _) (p := ⟨w.heap.size, 1, none⟩) (by show g' ≠ w.heap.size; omega) _
  · exact ((hbel.grown hG2 (by omega) (fun k e => by cases e; omega)).setCell (p := ⟨w.heap.size, 0, none⟩) (Nat.le_refl _) _).setCell (p := ⟨w.heap.size, 1, none⟩) (Nat.le_refl _) _
end Go.Proofs.Ytaaaehaiimmnhaa
