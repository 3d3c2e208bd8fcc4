/- The walk of TopoTells: the rules, as the document's own answer has them. -/
import Derived.Test.YtpppieffkklnhaaGreatDoorQTopoW
import Derived.Test.YtpppieffkklnhaaGreatDoorQTopoR
import Derived.Test.YtpppieffkklnhaaGreatDoorQGreatJ
namespace Go.Proofs.YtpppieffkklnhaaGreatDoor
open Go.RowKit Go.Shelf
set_option linter.unusedVariables false
set_option linter.unusedSimpArgs false

set_option maxRecDepth 100000 in
set_option maxHeartbeats 16000000 in
theorem topoTells_walk (l : Lay) (x : Int) (w : World) (hT : Shapes w) (hL : Lies l w) :
    Calls Tryz.prog 3 #[l.val, .int .i64 x] w fun e w' => e = .returned (.bool true) ∧ Below w.heap.size w w' := by
  obtain ⟨P, HP, HPT, HPL, HPB, hp⟩ := keep_lay hT hL
  obtain ⟨Q, HQ, HQp, HQl, hq⟩ := keep_box HP.out hp 29 l.cells
  have HQT : Hid (∀ W, Q W → Shapes W) := Lib.hid fun W h => HPT.out _ (HQp.out _ h)
  have HQL : Hid (∀ W, Q W → Lies l W) := Lib.hid fun W h => HPL.out _ (HQp.out _ h)
  have HQB : Hid (∀ W, Q W → Below w.heap.size w W) := Lib.hid fun W h => HPB.out _ (HQp.out _ h)
  obtain ⟨g, hg⟩ : ∃ g, greatJ l = g := ⟨_, rfl⟩
  have KG := Lib.hid (fun W hW => greatJ_P (P := Q) (w := W) HQ.out HQL.out hg hW)
  have KW := Lib.hid (fun W hW => wakesT_P (P := Q) (w := W) HQ.out HQT.out hW)
  obtain ⟨⟨r1, r2, r3⟩, hcv⟩ : ∃ r, checkV l = r := ⟨_, rfl⟩
  obtain ⟨rt, hrt⟩ : ∃ r, rightT l = r := ⟨_, rfl⟩
  obtain ⟨ot, hot⟩ : ∃ r, overT l x = r := ⟨_, rfl⟩
  have KC := Lib.hid (fun W hW => keepR HQ.out (check_any (w := W) (HQT.out W hW) (HQL.out W hW) hcv) hW)
  have KCR := Lib.hid (fun W hW => keepR HQ.out (checkR_any (w := W) (HQL.out W hW) hcv) hW)
  have K1 : Hid (∀ W, Q W → Calls Tryz.prog 8 #[l.val] W fun e w' => e = .returned (.bool rt) ∧ Below W.heap.size W w') := Lib.hid fun W hW => rightT_any (HQT.out W hW) (HQL.out W hW) hrt
  have K2 : Hid (∀ W, Q W → Calls Tryz.prog 9 #[l.val] W fun e w' => e = .returned (.bool rt) ∧ Below W.heap.size W w') := Lib.hid fun W hW => rightRT_any (HQL.out W hW) hrt
  have K3 : Hid (∀ W, Q W → Calls Tryz.prog 10 #[l.val, .int .i64 x] W fun e w' => e = .returned (.bool ot) ∧ Below W.heap.size W w') := Lib.hid fun W hW => overT_any x (HQT.out W hW) (HQL.out W hW) hot
  have K4 : Hid (∀ W, Q W → Calls Tryz.prog 11 #[l.val, .int .i64 x] W fun e w' => e = .returned (.bool ot) ∧ Below W.heap.size W w') := Lib.hid fun W hW => overR_any x (HQL.out W hW) hot
  have K5 : Hid (∀ W, Q W → Calls Tryz.prog 5 #[] W fun e w' => e = .returned (.bool true) ∧ Below W.heap.size W w') := Lib.hid fun W hW => wakesT_P (P := fun W' => Below W.heap.size W W') (Closed.below W) (fun W' h => Shapes.closed _ _ (HQT.out W hW) h) (Below.refl _ _)
  clear hT hL hp hg hcv hrt hot
  go_enter Tryz.func3, Tryz.ntmps3
  have m0 := HQl.out _ hq
  have x0 := m0.cell_at 0 rfl
  have x1 := m0.cell_at 1 rfl
  have x2 := m0.cell_at 2 rfl
  have x3 := m0.cell_at 3 rfl
  have x4 := m0.cell_at 4 rfl
  have x5 := m0.cell_at 5 rfl
  have x6 := m0.cell_at 6 rfl
  have x7 := m0.cell_at 7 rfl
  have x8 := m0.cell_at 8 rfl
  have x9 := m0.cell_at 9 rfl
  have x10 := m0.cell_at 10 rfl
  clear m0
  go_wp2_with fail
  refine (KG.out _ hq).mono ?_
  clear hq x0 x1 x2 x3 x4 x5 x6 x7 x8 x9 x10
  rintro e w1 ⟨rfl, hq⟩
  cases g
  rotate_left
  · go_wp2_with fail
    refine (KW.out _ hq).mono ?_
    clear hq
    rintro e w9 ⟨rfl, hq⟩
    go_wp2_with fail
    go_ret
    exact ⟨rfl, HQB.out _ hq⟩
  have m0 := HQl.out _ hq
  have x0 := m0.cell_at 0 rfl
  have x1 := m0.cell_at 1 rfl
  have x2 := m0.cell_at 2 rfl
  have x3 := m0.cell_at 3 rfl
  have x4 := m0.cell_at 4 rfl
  have x5 := m0.cell_at 5 rfl
  have x6 := m0.cell_at 6 rfl
  have x7 := m0.cell_at 7 rfl
  have x8 := m0.cell_at 8 rfl
  have x9 := m0.cell_at 9 rfl
  have x10 := m0.cell_at 10 rfl
  clear m0
  go_wp2_with fail
  refine (KC.out _ hq).mono ?_
  clear hq x0 x1 x2 x3 x4 x5 x6 x7 x8 x9 x10
  rintro e w2 ⟨rfl, hq⟩
  have m0 := HQl.out _ hq
  have x0 := m0.cell_at 0 rfl
  have x1 := m0.cell_at 1 rfl
  have x2 := m0.cell_at 2 rfl
  have x3 := m0.cell_at 3 rfl
  have x4 := m0.cell_at 4 rfl
  have x5 := m0.cell_at 5 rfl
  have x6 := m0.cell_at 6 rfl
  have x7 := m0.cell_at 7 rfl
  have x8 := m0.cell_at 8 rfl
  have x9 := m0.cell_at 9 rfl
  have x10 := m0.cell_at 10 rfl
  clear m0
  go_wp2_with fail
  refine (KCR.out _ hq).mono ?_
  clear hq x0 x1 x2 x3 x4 x5 x6 x7 x8 x9 x10
  rintro e w3 ⟨rfl, hq⟩
  go_upto_region 5 with (fail)
  have HBS : Hid (∀ W, Below w3.heap.size w3 W → Q W) := Lib.hid (fun W hB => HQ.out _ _ hq hB)
  clear hq
  refine region_mix (Below w3.heap.size w3) [(0, false), (1, false), (2, false), (3, false), (4, false), (5, false), (6, false), (7, false), (8, false), (9, false), (10, false), (11, false), (12, false), (13, false), (14, false), (15, false), (16, false), (17, false), (18, false), (19, false), (20, false), (21, false), (22, false), (23, false), (24, false), (25, false), (26, false), (27, false), (28, false), (29, false), (30, false), (31, false), (32, false)] (by kernel_rfl) (by kernel_rfl) (Below w3.heap.size w3) ⟨Closed.below w3, fun _ h => h⟩ (Below.refl _ _).drew ?_
  simp only [pickOps, List.getElem?_cons_zero, List.getElem?_cons_succ]
  repeat (first | (refine mix_skip (by rfl) ?_; simp only [Act.put, List.setIfInBounds_toArray, List.set_cons_zero, List.set_cons_succ]) | (refine mix_read _ (by rfl) (fun W hW => by (have hW := HBS.out W hW; have m0 := HQl.out _ hW; have x0 := m0.cell_at 0 rfl; have x1 := m0.cell_at 1 rfl; have x2 := m0.cell_at 2 rfl; have x3 := m0.cell_at 3 rfl; have x4 := m0.cell_at 4 rfl; have x5 := m0.cell_at 5 rfl; have x6 := m0.cell_at 6 rfl; have x7 := m0.cell_at 7 rfl; have x8 := m0.cell_at 8 rfl; have x9 := m0.cell_at 9 rfl; have x10 := m0.cell_at 10 rfl; clear m0; go_simp; first | done | with_reducible rfl)) ?_; simp only [Act.put, List.setIfInBounds_toArray, List.set_cons_zero, List.set_cons_succ]) | (refine mix_call _ _ _ (by rfl) (fun W hW => by (have hW := HBS.out W hW; have m0 := HQl.out _ hW; have x0 := m0.cell_at 0 rfl; have x1 := m0.cell_at 1 rfl; have x2 := m0.cell_at 2 rfl; have x3 := m0.cell_at 3 rfl; have x4 := m0.cell_at 4 rfl; have x5 := m0.cell_at 5 rfl; have x6 := m0.cell_at 6 rfl; have x7 := m0.cell_at 7 rfl; have x8 := m0.cell_at 8 rfl; have x9 := m0.cell_at 9 rfl; have x10 := m0.cell_at 10 rfl; clear m0; go_simp; first | done | rfl)) (fun W hW => K1.out W (HBS.out W hW)) ?_; simp only [Act.put, List.setIfInBounds_toArray, List.set_cons_zero, List.set_cons_succ]) | (refine mix_call _ _ _ (by rfl) (fun W hW => by (have hW := HBS.out W hW; have m0 := HQl.out _ hW; have x0 := m0.cell_at 0 rfl; have x1 := m0.cell_at 1 rfl; have x2 := m0.cell_at 2 rfl; have x3 := m0.cell_at 3 rfl; have x4 := m0.cell_at 4 rfl; have x5 := m0.cell_at 5 rfl; have x6 := m0.cell_at 6 rfl; have x7 := m0.cell_at 7 rfl; have x8 := m0.cell_at 8 rfl; have x9 := m0.cell_at 9 rfl; have x10 := m0.cell_at 10 rfl; clear m0; go_simp; first | done | rfl)) (fun W hW => K2.out W (HBS.out W hW)) ?_; simp only [Act.put, List.setIfInBounds_toArray, List.set_cons_zero, List.set_cons_succ]) | (refine mix_call _ _ _ (by rfl) (fun W hW => by (have hW := HBS.out W hW; have m0 := HQl.out _ hW; have x0 := m0.cell_at 0 rfl; have x1 := m0.cell_at 1 rfl; have x2 := m0.cell_at 2 rfl; have x3 := m0.cell_at 3 rfl; have x4 := m0.cell_at 4 rfl; have x5 := m0.cell_at 5 rfl; have x6 := m0.cell_at 6 rfl; have x7 := m0.cell_at 7 rfl; have x8 := m0.cell_at 8 rfl; have x9 := m0.cell_at 9 rfl; have x10 := m0.cell_at 10 rfl; clear m0; go_simp; first | done | rfl)) (fun W hW => K3.out W (HBS.out W hW)) ?_; simp only [Act.put, List.setIfInBounds_toArray, List.set_cons_zero, List.set_cons_succ]) | (refine mix_call _ _ _ (by rfl) (fun W hW => by (have hW := HBS.out W hW; have m0 := HQl.out _ hW; have x0 := m0.cell_at 0 rfl; have x1 := m0.cell_at 1 rfl; have x2 := m0.cell_at 2 rfl; have x3 := m0.cell_at 3 rfl; have x4 := m0.cell_at 4 rfl; have x5 := m0.cell_at 5 rfl; have x6 := m0.cell_at 6 rfl; have x7 := m0.cell_at 7 rfl; have x8 := m0.cell_at 8 rfl; have x9 := m0.cell_at 9 rfl; have x10 := m0.cell_at 10 rfl; clear m0; go_simp; first | done | rfl)) (fun W hW => K4.out W (HBS.out W hW)) ?_; simp only [Act.put, List.setIfInBounds_toArray, List.set_cons_zero, List.set_cons_succ]) | (refine mix_call _ _ _ (by rfl) (fun W hW => by (have hW := HBS.out W hW; have m0 := HQl.out _ hW; have x0 := m0.cell_at 0 rfl; have x1 := m0.cell_at 1 rfl; have x2 := m0.cell_at 2 rfl; have x3 := m0.cell_at 3 rfl; have x4 := m0.cell_at 4 rfl; have x5 := m0.cell_at 5 rfl; have x6 := m0.cell_at 6 rfl; have x7 := m0.cell_at 7 rfl; have x8 := m0.cell_at 8 rfl; have x9 := m0.cell_at 9 rfl; have x10 := m0.cell_at 10 rfl; clear m0; go_simp; first | done | rfl)) (fun W hW => K5.out W (HBS.out W hW)) ?_; simp only [Act.put, List.setIfInBounds_toArray, List.set_cons_zero, List.set_cons_succ]))
  refine mix_nil (fun W hW => ?_)
  have HB := Lib.hid (HQB.out _ (HBS.out W hW))
  clear hW
  go_wp2_with fail
  go_ret
  exact ⟨rfl, HB.out⟩
end Go.Proofs.YtpppieffkklnhaaGreatDoor
