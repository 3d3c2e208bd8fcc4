/- Package layout: flankRight. -/
import Derived.Test.YtbalcbnlpgekaaaDoorLayB
namespace Go.Proofs.YtbalcbnlpgekaaaDoor
open Go.RowKit Go.Shelf
set_option linter.unusedVariables false
set_option linter.unusedSimpArgs false

/-- May a flank's numbers be? -/
def flankV (l : Lay) (a b c d : Int) : Bool := withinA b 0 (nK (kindV l a) - 1) && ((kindV l c == 2) && (!(c == a) && withinA d 0 1))

section
variable {P : World → Prop} {w : World}
set_option maxRecDepth 100000 in
set_option maxHeartbeats 8000000 in
theorem flankRight_P (hP : Closed P) (hT : ∀ w, P w → Shapes w) {l : Lay} (hL : ∀ w, P w → Lies l w) (a b c d : Int) {r : Bool} (hr : flankV l a b c d = r) (h : P w) :
    Calls Tryd.prog 40 #[l.val, flkV a b c d] w fun e w' => e = .returned (.bool r) ∧ P w' := by
  obtain ⟨Q, HQ, HQp, HQl, HQv, hq⟩ := keep_box2 hP h 29 55 l.cells (flkCells (a, b, c, d))
  obtain ⟨k, hk⟩ : ∃ k, kindV l a = k := ⟨_, rfl⟩
  obtain ⟨m, hm⟩ : ∃ m, kindV l c = m := ⟨_, rfl⟩
  have hkr := kindV_range (hL _ h) a
  rw [hk] at hkr
  obtain ⟨u, hu⟩ : ∃ u, withinA b 0 (IntKind.i64.wrap (nK k - 1)) = u := ⟨_, rfl⟩
  obtain ⟨z, hz⟩ : ∃ z, withinA d 0 1 = z := ⟨_, rfl⟩
  have HR : Hid ((u && ((m == 2) && (!(c == a) && z))) = r) := Lib.hid (by rw [← hr, ← hu, ← hz, nK_pred, ← hk, ← hm]; rfl)
  have HK := Lib.hid (fun W hW => kind_P (P := Q) (w := W) HQ.out (fun W hW => hL _ (HQp.out _ hW)) a hk hW)
  have HM := Lib.hid (fun W hW => kind_P (P := Q) (w := W) HQ.out (fun W hW => hL _ (HQp.out _ hW)) c hm hW)
  have HN := Lib.hid (fun W hW => ways_P (P := Q) (w := W) HQ.out (fun W hW => hT _ (HQp.out _ hW)) hkr.1 hkr.2 (shapeK k) hW)
  have HU := Lib.hid (fun W hW => withinL_P (P := Q) (w := W) b 0 (IntKind.i64.wrap (nK k - 1)) hu hW)
  have HZ := Lib.hid (fun W hW => withinL_P (P := Q) (w := W) d 0 1 hz hW)
  clear hk hkr hm hu hz hr
  have HS := Lib.hid (HQ.out.drew hq)
  clear hq
  generalize nK k = nk at *
  go_enter Tryd.func40, Tryd.ntmps40
  go_wp2_with fail
  refine wp_scope_fwd (l := 0) rfl ?_
  go_wp2_with fail
  refine region_steady (Q) 9 (by kernel_rfl) (by kernel_rfl) HS.out ?_
  simp only [List.take_succ_cons, List.take_zero, List.drop_succ_cons, List.drop_zero]
  repeat (first | (refine steady_skip (by rfl) ?_; simp only [Act.put, List.setIfInBounds_toArray, List.set_cons_zero, List.set_cons_succ]) | (refine steady_read _ (by rfl) (fun W hW => by (have m0 := HQl.out _ hW; have x0 := m0.cell_at 0 rfl; have x1 := m0.cell_at 1 rfl; have x2 := m0.cell_at 2 rfl; have x3 := m0.cell_at 3 rfl; have x4 := m0.cell_at 4 rfl; have x5 := m0.cell_at 5 rfl; have x6 := m0.cell_at 6 rfl; have x7 := m0.cell_at 7 rfl; have x8 := m0.cell_at 8 rfl; have x9 := m0.cell_at 9 rfl; have x10 := m0.cell_at 10 rfl; clear m0; have m1 := HQv.out _ hW; have v0 := m1.cell_at 0 rfl; have v1 := m1.cell_at 1 rfl; have v2 := m1.cell_at 2 rfl; have v3 := m1.cell_at 3 rfl; clear m1; go_simp; first | done | with_reducible rfl)) ?_; simp only [Act.put, List.setIfInBounds_toArray, List.set_cons_zero, List.set_cons_succ]) | (refine steady_call _ _ _ (by rfl) (fun W hW => by (have m0 := HQl.out _ hW; have x0 := m0.cell_at 0 rfl; have x1 := m0.cell_at 1 rfl; have x2 := m0.cell_at 2 rfl; have x3 := m0.cell_at 3 rfl; have x4 := m0.cell_at 4 rfl; have x5 := m0.cell_at 5 rfl; have x6 := m0.cell_at 6 rfl; have x7 := m0.cell_at 7 rfl; have x8 := m0.cell_at 8 rfl; have x9 := m0.cell_at 9 rfl; have x10 := m0.cell_at 10 rfl; clear m0; have m1 := HQv.out _ hW; have v0 := m1.cell_at 0 rfl; have v1 := m1.cell_at 1 rfl; have v2 := m1.cell_at 2 rfl; have v3 := m1.cell_at 3 rfl; clear m1; go_simp; first | done | rfl)) (fun W hW => HK.out _ hW) ?_; simp only [Act.put, List.setIfInBounds_toArray, List.set_cons_zero, List.set_cons_succ]) | (refine steady_call _ _ _ (by rfl) (fun W hW => by (have m0 := HQl.out _ hW; have x0 := m0.cell_at 0 rfl; have x1 := m0.cell_at 1 rfl; have x2 := m0.cell_at 2 rfl; have x3 := m0.cell_at 3 rfl; have x4 := m0.cell_at 4 rfl; have x5 := m0.cell_at 5 rfl; have x6 := m0.cell_at 6 rfl; have x7 := m0.cell_at 7 rfl; have x8 := m0.cell_at 8 rfl; have x9 := m0.cell_at 9 rfl; have x10 := m0.cell_at 10 rfl; clear m0; have m1 := HQv.out _ hW; have v0 := m1.cell_at 0 rfl; have v1 := m1.cell_at 1 rfl; have v2 := m1.cell_at 2 rfl; have v3 := m1.cell_at 3 rfl; clear m1; go_simp; first | done | rfl)) (fun W hW => HN.out _ hW) ?_; simp only [Act.put, List.setIfInBounds_toArray, List.set_cons_zero, List.set_cons_succ]) | (refine steady_call _ _ _ (by rfl) (fun W hW => by (have m0 := HQl.out _ hW; have x0 := m0.cell_at 0 rfl; have x1 := m0.cell_at 1 rfl; have x2 := m0.cell_at 2 rfl; have x3 := m0.cell_at 3 rfl; have x4 := m0.cell_at 4 rfl; have x5 := m0.cell_at 5 rfl; have x6 := m0.cell_at 6 rfl; have x7 := m0.cell_at 7 rfl; have x8 := m0.cell_at 8 rfl; have x9 := m0.cell_at 9 rfl; have x10 := m0.cell_at 10 rfl; clear m0; have m1 := HQv.out _ hW; have v0 := m1.cell_at 0 rfl; have v1 := m1.cell_at 1 rfl; have v2 := m1.cell_at 2 rfl; have v3 := m1.cell_at 3 rfl; clear m1; go_simp; first | done | rfl)) (fun W hW => HU.out _ hW) ?_; simp only [Act.put, List.setIfInBounds_toArray, List.set_cons_zero, List.set_cons_succ]))
  refine steady_nil (fun W hW => ?_)
  clear HS HK HN HU
  have hq := hW
  clear hW
  cases u
  · have HF : Hid (false = r) := Lib.hid (by rw [← HR.out]; rfl)
    go_wp2_with fail
    go_step3
    simp +zetaDelta only [Exit.inBlock, Exit.then, fwd_goto]
    refine ⟨trivial, ?_⟩
    go_wp2_with fail
    rw [Exit.noGoto_ret]
    go_ret
    exact ⟨ret_bool HF.out, HQp.out _ hq⟩
  have hW := hq
  have m0 := HQl.out _ hW
  have x0 := m0.cell_at 0 rfl
  have x1 := m0.cell_at 1 rfl
  have x2 := m0.cell_at 2 rfl
  have x3 := m0.cell_at 3 rfl
  have x4 := m0.cell_at 4 rfl
  have x5 := m0.cell_at 5 rfl
  have x6 := m0.cell_at 6 rfl
  have x7 := m0.cell_at 7 rfl
  have x8 := m0.cell_at 8 rfl
  have x9 := m0.cell_at 9 rfl
  have x10 := m0.cell_at 10 rfl
  clear m0
  have m1 := HQv.out _ hW
  have v0 := m1.cell_at 0 rfl
  have v1 := m1.cell_at 1 rfl
  have v2 := m1.cell_at 2 rfl
  have v3 := m1.cell_at 3 rfl
  clear m1
  clear hW
  go_wp2_with fail
  refine (HM.out _ hq).mono ?_
  clear hq x0 x1 x2 x3 x4 x5 x6 x7 x8 x9 x10 v0 v1 v2 v3
  rintro e w1 ⟨rfl, hq⟩
  have hW := hq
  have m0 := HQl.out _ hW
  have x0 := m0.cell_at 0 rfl
  have x1 := m0.cell_at 1 rfl
  have x2 := m0.cell_at 2 rfl
  have x3 := m0.cell_at 3 rfl
  have x4 := m0.cell_at 4 rfl
  have x5 := m0.cell_at 5 rfl
  have x6 := m0.cell_at 6 rfl
  have x7 := m0.cell_at 7 rfl
  have x8 := m0.cell_at 8 rfl
  have x9 := m0.cell_at 9 rfl
  have x10 := m0.cell_at 10 rfl
  clear m0
  have m1 := HQv.out _ hW
  have v0 := m1.cell_at 0 rfl
  have v1 := m1.cell_at 1 rfl
  have v2 := m1.cell_at 2 rfl
  have v3 := m1.cell_at 3 rfl
  clear m1
  clear hW
  by_cases hm2 : m = 2
  · subst hm2
    cases hca : (c == a)
    · have hca' : decide (c = a) = false := by simpa using hca
      go_wp2_with fail
      refine (HZ.out _ hq).mono ?_
      clear hq x0 x1 x2 x3 x4 x5 x6 x7 x8 x9 x10 v0 v1 v2 v3
      rintro e w2 ⟨rfl, hq⟩
      go_wp2_with fail
      try rw [fwd_ret]
      go_ret
      exact ⟨ret_bool (by rw [← HR.out, hca]; rfl), HQp.out _ hq⟩
    · have HF : Hid (false = r) := Lib.hid (by rw [← HR.out, hca]; rfl)
      obtain rfl := eq_of_beq hca
      clear hca
      go_wp2_with fail
      go_step3
      simp +zetaDelta only [Exit.inBlock, Exit.then, fwd_goto]
      refine ⟨trivial, ?_⟩
      go_wp2_with fail
      rw [Exit.noGoto_ret]
      go_ret
      exact ⟨ret_bool HF.out, HQp.out _ hq⟩
  · have HF : Hid (false = r) := Lib.hid (by rw [← HR.out, beq_false_of_ne hm2]; rfl)
    have hm2' : (m != 2) = true := by simpa using hm2
    clear hm2
    go_wp2_with fail
    go_step3
    simp +zetaDelta only [Exit.inBlock, Exit.then, fwd_goto]
    refine ⟨trivial, ?_⟩
    go_wp2_with fail
    rw [Exit.noGoto_ret]
    go_ret
    exact ⟨ret_bool HF.out, HQp.out _ hq⟩
end
end Go.Proofs.YtbalcbnlpgekaaaDoor
