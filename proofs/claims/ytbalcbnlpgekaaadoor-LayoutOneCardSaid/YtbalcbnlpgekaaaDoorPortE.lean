/- Package port: May. -/
import Derived.Test.YtbalcbnlpgekaaaDoorPortD0
import Derived.Deep.RegionHeld3
namespace Go.Proofs.YtbalcbnlpgekaaaDoor
open Go.RowKit Go.Shelf
set_option linter.unusedVariables false
set_option linter.unusedSimpArgs false

section
variable {P : World → Prop} {w : World}
theorem within_P (n t : Int) {r : Bool} (hr : withinV n t = r) (h : P w) : Calls Tryd.prog 92 #[.int .i64 n, .int .i64 t] w fun e w' => e = .returned (.bool r) ∧ P w' :=
  (within_any n t w).mono fun e w' ⟨he, hw⟩ => ⟨by rw [he, hr], by rw [hw]; exact h⟩
theorem way_P (hP : Closed P) (hT : ∀ w, P w → Shapes w) (k i o : Int) (h0 : 0 ≤ k) (h1 : k ≤ 255) {p n a b c d v : Int} {r : Bool} (hs : IsShape k p n a b c d) (hv : wayV n a b c d i o = v) (hr : goesV n a b c d i o = r) (h : P w) :
    Calls Tryd.prog 28 #[.int .u8 k, .int .i64 i, .int .i64 o] w fun e w' => e = .returned (.tuple #[.int .i64 v, .bool r]) ∧ P w' :=
  (way_any k i o h0 h1 hs w (hT w h)).mono fun e w' ⟨he, hw⟩ => ⟨by rw [he, hr, hv], hP _ _ h hw⟩
end

/-- May this port be? -/
def mayV (s p : Int) : Bool := (s == -1 && p == 0) || (withinV s 23 && withinV p 3)

set_option maxRecDepth 100000 in
set_option maxHeartbeats 4000000 in
theorem may_P {P : World → Prop} {w : World} (hP : Closed P) (s p : Int) (h : P w) : Calls Tryd.prog 90 #[.agg #[.int .i64 s, .int .i64 p]] w fun e w' => e = .returned (.bool (mayV s p)) ∧ P w' := by
  obtain ⟨cs, HCS⟩ : ∃ cs : List (Addr × Value), Hid (cs = [(⟨w.heap.size, 0, none⟩, .int .i64 s), (⟨w.heap.size, 1, none⟩, .int .i64 p)]) := ⟨_, Lib.hid rfl⟩
  have HC := Lib.hid (hP.has cs)
  have HS : Hid (Has P cs (w.alloc (.cells #[.int .i64 s, .int .i64 p] 31)).drew) := Lib.hid (by
    rw [HCS.out]
    have hw := (Whole.new w 31 [.int .i64 s, .int .i64 p])
    exact ((Has.nil (hP _ _ h (below1 w _).drew)).cons (hw.cell_at 1 rfl)).cons (hw.cell_at 0 rfl))
  by_cases h1 : s = -1 ∧ p = 0
  · obtain ⟨rfl, rfl⟩ := h1
    have HR := Lib.hid (show true = mayV (-1) 0 from rfl)
    go_enter Tryd.func90, Tryd.ntmps90
    go_wp2_with fail
    refine region_steady (Has P cs) 13 (by kernel_rfl) (by kernel_rfl) HS.out ?_
    simp only [List.take_succ_cons, List.take_zero, List.drop_succ_cons, List.drop_zero]
    repeat (first | (refine steady_skip (by rfl) ?_; simp only [Act.put, List.setIfInBounds_toArray, List.set_cons_zero, List.set_cons_succ]) | (refine steady_read _ (by rfl) (fun W hW => by (have c0 := hW.at HCS.out 0 rfl; have c1 := hW.at HCS.out 1 rfl; go_simp; first | done | with_reducible rfl)) ?_; simp only [Act.put, List.setIfInBounds_toArray, List.set_cons_zero, List.set_cons_succ]) | (refine steady_call _ _ _ (by rfl) (fun W hW => by (have c0 := hW.at HCS.out 0 rfl; have c1 := hW.at HCS.out 1 rfl; go_simp; first | done | rfl)) (fun W hW => trackEnd_P HC.out hW) ?_; simp only [Act.put, List.setIfInBounds_toArray, List.set_cons_zero, List.set_cons_succ]))
    refine steady_nil (fun W hW => ?_)
    go_wp2_with fail
    go_ret
    exact ⟨ret_bool HR.out, hW.1⟩
  · have hte : (s == -1 && p == 0) = false := by rw [Bool.and_eq_false_iff, beq_eq_false_iff_ne, beq_eq_false_iff_ne]; omega
    obtain ⟨r1, hr1⟩ : ∃ r, withinV s 23 = r := ⟨_, rfl⟩
    obtain ⟨r2, hr2⟩ : ∃ r, withinV p 3 = r := ⟨_, rfl⟩
    have HR : Hid ((r1 && r2) = mayV s p) := Lib.hid (by unfold mayV; rw [hte, hr1, hr2]; rfl)
    have H1 := Lib.hid hr1
    have H2 := Lib.hid hr2
    clear hte hr1 hr2
    have hs : ¬ s = -1 ∨ (s = -1 ∧ ¬ p = 0) := by omega
    rcases hs with hs | ⟨rfl, hp⟩
    all_goals
      clear h1
      cases r1
      · go_enter Tryd.func90, Tryd.ntmps90
        go_wp2_with fail
        refine region_steady (Has P cs) 13 (by kernel_rfl) (by kernel_rfl) HS.out ?_
        simp only [List.take_succ_cons, List.take_zero, List.drop_succ_cons, List.drop_zero]
        repeat (first | (refine steady_skip (by rfl) ?_; simp only [Act.put, List.setIfInBounds_toArray, List.set_cons_zero, List.set_cons_succ]) | (refine steady_read _ (by rfl) (fun W hW => by (have c0 := hW.at HCS.out 0 rfl; have c1 := hW.at HCS.out 1 rfl; go_simp; first | done | with_reducible rfl)) ?_; simp only [Act.put, List.setIfInBounds_toArray, List.set_cons_zero, List.set_cons_succ]) | (refine steady_call _ _ _ (by rfl) (fun W hW => by (have c0 := hW.at HCS.out 0 rfl; have c1 := hW.at HCS.out 1 rfl; go_simp; first | done | rfl)) (fun W hW => trackEnd_P HC.out hW) ?_; simp only [Act.put, List.setIfInBounds_toArray, List.set_cons_zero, List.set_cons_succ]) | (refine steady_call _ _ _ (by rfl) (fun W hW => by (have c0 := hW.at HCS.out 0 rfl; have c1 := hW.at HCS.out 1 rfl; go_simp; first | done | rfl)) (fun W hW => within_P _ _ H1.out hW) ?_; simp only [Act.put, List.setIfInBounds_toArray, List.set_cons_zero, List.set_cons_succ]))
        refine steady_nil (fun W hW => ?_)
        go_wp2_with fail
        go_ret
        exact ⟨ret_bool HR.out, hW.1⟩
      · go_enter Tryd.func90, Tryd.ntmps90
        go_wp2_with fail
        refine region_steady (Has P cs) 13 (by kernel_rfl) (by kernel_rfl) HS.out ?_
        simp only [List.take_succ_cons, List.take_zero, List.drop_succ_cons, List.drop_zero]
        repeat (first | (refine steady_skip (by rfl) ?_; simp only [Act.put, List.setIfInBounds_toArray, List.set_cons_zero, List.set_cons_succ]) | (refine steady_read _ (by rfl) (fun W hW => by (have c0 := hW.at HCS.out 0 rfl; have c1 := hW.at HCS.out 1 rfl; go_simp; first | done | with_reducible rfl)) ?_; simp only [Act.put, List.setIfInBounds_toArray, List.set_cons_zero, List.set_cons_succ]) | (refine steady_call _ _ _ (by rfl) (fun W hW => by (have c0 := hW.at HCS.out 0 rfl; have c1 := hW.at HCS.out 1 rfl; go_simp; first | done | rfl)) (fun W hW => trackEnd_P HC.out hW) ?_; simp only [Act.put, List.setIfInBounds_toArray, List.set_cons_zero, List.set_cons_succ]) | (refine steady_call _ _ _ (by rfl) (fun W hW => by (have c0 := hW.at HCS.out 0 rfl; have c1 := hW.at HCS.out 1 rfl; go_simp; first | done | rfl)) (fun W hW => within_P _ _ H1.out hW) ?_; simp only [Act.put, List.setIfInBounds_toArray, List.set_cons_zero, List.set_cons_succ]) | (refine steady_call _ _ _ (by rfl) (fun W hW => by (have c0 := hW.at HCS.out 0 rfl; have c1 := hW.at HCS.out 1 rfl; go_simp; first | done | rfl)) (fun W hW => within_P _ _ H2.out hW) ?_; simp only [Act.put, List.setIfInBounds_toArray, List.set_cons_zero, List.set_cons_succ]))
        refine steady_nil (fun W hW => ?_)
        go_wp2_with fail
        go_ret
        exact ⟨ret_bool HR.out, hW.1⟩
end Go.Proofs.YtbalcbnlpgekaaaDoor
