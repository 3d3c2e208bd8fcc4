/- Package layout: portThere, At, Step, stepThere, flankRight. -/
import Derived.Test.YtbalcbnlpgekaaaDoorLayA
namespace Go.Proofs.YtbalcbnlpgekaaaDoor
open Go.RowKit Go.Shelf
set_option linter.unusedVariables false
set_option linter.unusedSimpArgs false

section
variable {P : World → Prop} {w : World}
theorem wrapI_in (n : Int) (h : -9223372036854775808 ≤ n ∧ n ≤ 9223372036854775807) : IntKind.i64.wrap n = n := by rw [IntKind.wrap_i64]; omega
theorem pK_pred (k : Int) : IntKind.i64.wrap (pK k - 1) = pK k - 1 := by
  refine wrapI_in _ ?_
  unfold pK; split <;> (try split) <;> (try split) <;> omega
theorem nK_pred (k : Int) : IntKind.i64.wrap (nK k - 1) = nK k - 1 := by
  refine wrapI_in _ ?_
  unfold nK; split <;> (try split) <;> (try split) <;> omega

set_option maxRecDepth 100000 in
set_option maxHeartbeats 4000000 in
theorem portThere_P (hP : Closed P) (hT : ∀ w, P w → Shapes w) {l : Lay} (hL : ∀ w, P w → Lies l w) (s p : Int) {r : Bool} (hr : thereV l s p = r) (h : P w) :
    Calls Tryd.prog 27 #[l.val, prtV s p] w fun e w' => e = .returned (.bool r) ∧ P w' := by
  obtain ⟨Q, HQ, HQp, HQl, HQv, hq⟩ := keep_box2 hP h 29 31 l.cells (prtCells (s, p))
  obtain ⟨k, hk⟩ : ∃ k, kindV l s = k := ⟨_, rfl⟩
  have hkr := kindV_range (hL _ h) s
  rw [hk] at hkr
  have hr2 : withinA p 0 (IntKind.i64.wrap (pK k - 1)) = r := by rw [pK_pred, ← hk]; exact hr
  have HK := Lib.hid (fun W hW => kind_P (P := Q) (w := W) HQ.out (fun W hW => hL _ (HQp.out _ hW)) s hk hW)
  have HPo := Lib.hid (fun W hW => ports_P (P := Q) (w := W) HQ.out (fun W hW => hT _ (HQp.out _ hW)) hkr.1 hkr.2 (shapeK k) hW)
  have HWi := Lib.hid (fun W hW => withinL_P (P := Q) (w := W) p 0 (IntKind.i64.wrap (pK k - 1)) hr2 hW)
  clear hk hkr hr2 hr
  have HS := Lib.hid (HQ.out.drew hq)
  clear hq
  generalize pK k = pk at *
  go_enter Tryd.func27, Tryd.ntmps27
  go_wp2_with fail
  refine region_steady (Q) 9 (by kernel_rfl) (by kernel_rfl) HS.out ?_
  simp only [List.take_succ_cons, List.take_zero, List.drop_succ_cons, List.drop_zero]
  repeat (first | (refine steady_skip (by rfl) ?_; simp only [Act.put, List.setIfInBounds_toArray, List.set_cons_zero, List.set_cons_succ]) | (refine steady_read _ (by rfl) (fun W hW => by (have m0 := HQl.out _ hW; have x0 := m0.cell_at 0 rfl; have x1 := m0.cell_at 1 rfl; have x2 := m0.cell_at 2 rfl; have x3 := m0.cell_at 3 rfl; have x4 := m0.cell_at 4 rfl; have x5 := m0.cell_at 5 rfl; have x6 := m0.cell_at 6 rfl; have x7 := m0.cell_at 7 rfl; have x8 := m0.cell_at 8 rfl; have x9 := m0.cell_at 9 rfl; have x10 := m0.cell_at 10 rfl; clear m0; have m1 := HQv.out _ hW; have v0 := m1.cell_at 0 rfl; have v1 := m1.cell_at 1 rfl; clear m1; go_simp; first | done | with_reducible rfl)) ?_; simp only [Act.put, List.setIfInBounds_toArray, List.set_cons_zero, List.set_cons_succ]) | (refine steady_call _ _ _ (by rfl) (fun W hW => by (have m0 := HQl.out _ hW; have x0 := m0.cell_at 0 rfl; have x1 := m0.cell_at 1 rfl; have x2 := m0.cell_at 2 rfl; have x3 := m0.cell_at 3 rfl; have x4 := m0.cell_at 4 rfl; have x5 := m0.cell_at 5 rfl; have x6 := m0.cell_at 6 rfl; have x7 := m0.cell_at 7 rfl; have x8 := m0.cell_at 8 rfl; have x9 := m0.cell_at 9 rfl; have x10 := m0.cell_at 10 rfl; clear m0; have m1 := HQv.out _ hW; have v0 := m1.cell_at 0 rfl; have v1 := m1.cell_at 1 rfl; clear m1; go_simp; first | done | rfl)) (fun W hW => HK.out _ hW) ?_; simp only [Act.put, List.setIfInBounds_toArray, List.set_cons_zero, List.set_cons_succ]) | (refine steady_call _ _ _ (by rfl) (fun W hW => by (have m0 := HQl.out _ hW; have x0 := m0.cell_at 0 rfl; have x1 := m0.cell_at 1 rfl; have x2 := m0.cell_at 2 rfl; have x3 := m0.cell_at 3 rfl; have x4 := m0.cell_at 4 rfl; have x5 := m0.cell_at 5 rfl; have x6 := m0.cell_at 6 rfl; have x7 := m0.cell_at 7 rfl; have x8 := m0.cell_at 8 rfl; have x9 := m0.cell_at 9 rfl; have x10 := m0.cell_at 10 rfl; clear m0; have m1 := HQv.out _ hW; have v0 := m1.cell_at 0 rfl; have v1 := m1.cell_at 1 rfl; clear m1; go_simp; first | done | rfl)) (fun W hW => HPo.out _ hW) ?_; simp only [Act.put, List.setIfInBounds_toArray, List.set_cons_zero, List.set_cons_succ]) | (refine steady_call _ _ _ (by rfl) (fun W hW => by (have m0 := HQl.out _ hW; have x0 := m0.cell_at 0 rfl; have x1 := m0.cell_at 1 rfl; have x2 := m0.cell_at 2 rfl; have x3 := m0.cell_at 3 rfl; have x4 := m0.cell_at 4 rfl; have x5 := m0.cell_at 5 rfl; have x6 := m0.cell_at 6 rfl; have x7 := m0.cell_at 7 rfl; have x8 := m0.cell_at 8 rfl; have x9 := m0.cell_at 9 rfl; have x10 := m0.cell_at 10 rfl; clear m0; have m1 := HQv.out _ hW; have v0 := m1.cell_at 0 rfl; have v1 := m1.cell_at 1 rfl; clear m1; go_simp; first | done | rfl)) (fun W hW => HWi.out _ hW) ?_; simp only [Act.put, List.setIfInBounds_toArray, List.set_cons_zero, List.set_cons_succ]))
  refine steady_nil (fun W hW => ?_)
  go_wp2_with fail
  go_ret
  exact ⟨rfl, HQp.out _ hW⟩

set_option maxRecDepth 100000 in
set_option maxHeartbeats 4000000 in
theorem step_P (hP : Closed P) (hT : ∀ w, P w → Shapes w) {l : Lay} (hL : ∀ w, P w → Lies l w) (s i o : Int) {v : Int} {r : Bool} (hv : wayK (kindV l s) i o = v) (hr : stepV l s i o = r) (h : P w) :
    Calls Tryd.prog 12 #[l.val, stpV s i o] w fun e w' => e = .returned (.tuple #[.int .i64 v, .bool r]) ∧ P w' := by
  obtain ⟨Q, HQ, HQp, HQl, HQv, hq⟩ := keep_box2 hP h 29 33 l.cells (stpCells (s, i, o))
  obtain ⟨k, hk⟩ : ∃ k, kindV l s = k := ⟨_, rfl⟩
  have hkr := kindV_range (hL _ h) s
  unfold stepV at hr
  rw [hk] at hkr hv hr
  have HK := Lib.hid (fun W hW => kind_P (P := Q) (w := W) HQ.out (fun W hW => hL _ (HQp.out _ hW)) s hk hW)
  have HWa := Lib.hid (fun W hW => way_P (P := Q) (w := W) HQ.out (fun W hW => hT _ (HQp.out _ hW)) k i o hkr.1 hkr.2 (shapeK k) hv hr hW)
  clear hk hkr hv hr
  have HS := Lib.hid (HQ.out.drew hq)
  clear hq
  go_enter Tryd.func12, Tryd.ntmps12
  go_wp2_with fail
  refine region_steady (Q) 11 (by kernel_rfl) (by kernel_rfl) HS.out ?_
  simp only [List.take_succ_cons, List.take_zero, List.drop_succ_cons, List.drop_zero]
  repeat (first | (refine steady_skip (by rfl) ?_; simp only [Act.put, List.setIfInBounds_toArray, List.set_cons_zero, List.set_cons_succ]) | (refine steady_read _ (by rfl) (fun W hW => by (have m0 := HQl.out _ hW; have x0 := m0.cell_at 0 rfl; have x1 := m0.cell_at 1 rfl; have x2 := m0.cell_at 2 rfl; have x3 := m0.cell_at 3 rfl; have x4 := m0.cell_at 4 rfl; have x5 := m0.cell_at 5 rfl; have x6 := m0.cell_at 6 rfl; have x7 := m0.cell_at 7 rfl; have x8 := m0.cell_at 8 rfl; have x9 := m0.cell_at 9 rfl; have x10 := m0.cell_at 10 rfl; clear m0; have m1 := HQv.out _ hW; have v0 := m1.cell_at 0 rfl; have v1 := m1.cell_at 1 rfl; have v2 := m1.cell_at 2 rfl; clear m1; go_simp; first | done | with_reducible rfl)) ?_; simp only [Act.put, List.setIfInBounds_toArray, List.set_cons_zero, List.set_cons_succ]) | (refine steady_call _ _ _ (by rfl) (fun W hW => by (have m0 := HQl.out _ hW; have x0 := m0.cell_at 0 rfl; have x1 := m0.cell_at 1 rfl; have x2 := m0.cell_at 2 rfl; have x3 := m0.cell_at 3 rfl; have x4 := m0.cell_at 4 rfl; have x5 := m0.cell_at 5 rfl; have x6 := m0.cell_at 6 rfl; have x7 := m0.cell_at 7 rfl; have x8 := m0.cell_at 8 rfl; have x9 := m0.cell_at 9 rfl; have x10 := m0.cell_at 10 rfl; clear m0; have m1 := HQv.out _ hW; have v0 := m1.cell_at 0 rfl; have v1 := m1.cell_at 1 rfl; have v2 := m1.cell_at 2 rfl; clear m1; go_simp; first | done | rfl)) (fun W hW => HK.out _ hW) ?_; simp only [Act.put, List.setIfInBounds_toArray, List.set_cons_zero, List.set_cons_succ]) | (refine steady_call _ _ _ (by rfl) (fun W hW => by (have m0 := HQl.out _ hW; have x0 := m0.cell_at 0 rfl; have x1 := m0.cell_at 1 rfl; have x2 := m0.cell_at 2 rfl; have x3 := m0.cell_at 3 rfl; have x4 := m0.cell_at 4 rfl; have x5 := m0.cell_at 5 rfl; have x6 := m0.cell_at 6 rfl; have x7 := m0.cell_at 7 rfl; have x8 := m0.cell_at 8 rfl; have x9 := m0.cell_at 9 rfl; have x10 := m0.cell_at 10 rfl; clear m0; have m1 := HQv.out _ hW; have v0 := m1.cell_at 0 rfl; have v1 := m1.cell_at 1 rfl; have v2 := m1.cell_at 2 rfl; clear m1; go_simp; first | done | rfl)) (fun W hW => HWa.out _ hW) ?_; simp only [Act.put, List.setIfInBounds_toArray, List.set_cons_zero, List.set_cons_succ]))
  refine steady_nil (fun W hW => ?_)
  go_wp2_with fail
  go_ret2
  exact ⟨rfl, HQp.out _ hW⟩

set_option maxRecDepth 100000 in
set_option maxHeartbeats 4000000 in
theorem stepThere_P (hP : Closed P) (hT : ∀ w, P w → Shapes w) {l : Lay} (hL : ∀ w, P w → Lies l w) (s i o : Int) {r : Bool} (hr : stepV l s i o = r) (h : P w) :
    Calls Tryd.prog 38 #[l.val, stpV s i o] w fun e w' => e = .returned (.bool r) ∧ P w' := by
  obtain ⟨Q, HQ, HQp, HQl, HQv, hq⟩ := keep_box2 hP h 29 33 l.cells (stpCells (s, i, o))
  have HSt := Lib.hid (fun W hW => step_P (P := Q) (w := W) HQ.out (fun W hW => hT _ (HQp.out _ hW)) (fun W hW => hL _ (HQp.out _ hW)) s i o rfl hr hW)
  clear hr
  generalize wayK (kindV l s) i o = v at *
  have hW := hq
  have m0 := HQl.out _ hW
  have x0 := m0.cell_at 0 rfl
  have x1 := m0.cell_at 1 rfl
  have x2 := m0.cell_at 2 rfl
  have x3 := m0.cell_at 3 rfl
  have x4 := m0.cell_at 4 rfl
  have x5 := m0.cell_at 5 rfl
  have x6 := m0.cell_at 6 rfl
  have x7 := m0.cell_at 7 rfl
  have x8 := m0.cell_at 8 rfl
  have x9 := m0.cell_at 9 rfl
  have x10 := m0.cell_at 10 rfl
  clear m0
  have m1 := HQv.out _ hW
  have v0 := m1.cell_at 0 rfl
  have v1 := m1.cell_at 1 rfl
  have v2 := m1.cell_at 2 rfl
  clear m1
  clear hW
  go_enter Tryd.func38, Tryd.ntmps38
  go_wp2_with fail
  refine (HSt.out _ hq).mono ?_
  clear x0 x1 x2 x3 x4 x5 x6 x7 x8 x9 x10 v0 v1 v2
  rintro e w1 ⟨rfl, hq⟩
  go_wp2_with fail
  go_ret
  exact ⟨rfl, HQp.out _ hq⟩
end
end Go.Proofs.YtbalcbnlpgekaaaDoor
