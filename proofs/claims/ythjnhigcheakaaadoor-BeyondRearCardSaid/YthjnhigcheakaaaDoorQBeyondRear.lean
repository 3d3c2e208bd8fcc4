/- The walk of BeyondRear: what lies in rear of a signal, beyond a step; what lies beyond that. -/
import Derived.Deep.CutRange
import Derived.Test.YthjnhigcheakaaaDoorQBeK
import Derived.Test.YthjnhigcheakaaaDoorQBeR
import Derived.Test.YthjnhigcheakaaaDoorQTree
import Derived.Test.YthjnhigcheakaaaDoorQMixW
import Derived.Test.YthjnhigcheakaaaDoorQTopoR
import Derived.Test.YthjnhigcheakaaaDoorQBeB
namespace Go.Proofs.YthjnhigcheakaaaDoor
open Go.RowKit Go.Shelf
set_option linter.unusedVariables false
set_option linter.unusedSimpArgs false

set_option maxRecDepth 100000 in
set_option maxHeartbeats 8000000 in
theorem beyondRear_walk (l : Lay) (x s i o : Int) (w : World) (hT : Shapes w) (hL : Lies l w) :
    Calls Tryd.prog 7 #[l.val, .int .i64 x, stpV s i o] w fun e w' => e = .returned (.bool true) ∧ Below w.heap.size w w' := by
  obtain ⟨Q, HQ, HQb, HQl, HQv, hq⟩ := keep_box2 (Closed.below w) (Below.refl _ w) 29 31 l.cells (stpCells (s, i, o))
  have HTW : Hid (∀ W, Q W → Shapes W ∧ Lies l W) := Lib.hid fun W hW => ⟨Shapes.closed _ _ hT (HQb.out W hW), Lies.closed l _ _ hL (HQb.out W hW)⟩
  have KW := Lib.hid (fun W hW => wakes10_P (P := Q) (w := W) HQ.out (fun W hW => (HTW.out W hW).1) hW)
  obtain ⟨g, hg⟩ : ∃ g, greatV l = g := ⟨_, rfl⟩
  have KG := Lib.hid (fun W hW => great_P (P := Q) (w := W) HQ.out (fun W hW => (HTW.out W hW).2) hg hW)
  clear hT hL hg
  go_enter Tryd.func7, Tryd.ntmps7
  have m0 := HQl.out _ hq
  have x0 := m0.cell_at 0 rfl
  have x1 := m0.cell_at 1 rfl
  have x2 := m0.cell_at 2 rfl
  have x3 := m0.cell_at 3 rfl
  have x4 := m0.cell_at 4 rfl
  have x5 := m0.cell_at 5 rfl
  have x6 := m0.cell_at 6 rfl
  have x7 := m0.cell_at 7 rfl
  have x8 := m0.cell_at 8 rfl
  have x9 := m0.cell_at 9 rfl
  have x10 := m0.cell_at 10 rfl
  clear m0
  go_wp2_with fail
  refine (KG.out _ hq).mono ?_
  clear hq x0 x1 x2 x3 x4 x5 x6 x7 x8 x9 x10
  rintro e w1 ⟨rfl, hq⟩
  cases g
  rotate_left
  · go_wp2_with fail
    refine (KW.out _ hq).mono ?_
    clear hq
    rintro e w9 ⟨rfl, hq⟩
    go_wp2_with fail
    go_ret
    exact ⟨rfl, HQb.out _ hq⟩
  obtain ⟨⟨r1, r2⟩, hrv⟩ : ∃ r, rearV l x = r := ⟨_, rfl⟩
  obtain ⟨⟨n1, n2⟩, hnx⟩ : ∃ n, nextV l s i o = n := ⟨_, rfl⟩
  obtain ⟨rt, hrt⟩ : ∃ r, rightT l = r := ⟨_, rfl⟩
  have KR : Hid (∀ W, Q W → Calls Tryd.prog 22 #[l.val, .int .i64 x] W fun e w' => e = .returned (prtV r1 r2) ∧ Below W.heap.size W w') := Lib.hid fun W hW => rearB_any (HTW.out W hW).1 (HTW.out W hW).2 x hrv
  have KN : Hid (∀ W, Q W → Calls Tryd.prog 20 #[l.val, stpV s i o] W fun e w' => e = .returned (prtV n1 n2) ∧ Below W.heap.size W w') := Lib.hid fun W hW => nextB_any (HTW.out W hW).1 (HTW.out W hW).2 s i o hnx
  have HRV := Lib.hid hrv
  have HNX := Lib.hid hnx
  have HRT := Lib.hid hrt
  clear hrv hnx hrt
  go_upto_region 3 with (fail)
  go_cut [7, 8] from 15 to 20 (fun u v wx => ∃ ga gb, u = .pointer (some ⟨ga, 0, none⟩) ∧ v = .pointer (some ⟨gb, 0, none⟩) ∧ Hid (Below w1.heap.size w1 wx ∧ Whole wx ga 33 [.int .i64 r1, .int .i64 r2] ∧ Whole wx gb 33 [.int .i64 n1, .int .i64 n2]))
  case first =>
    have HBS : Hid (∀ W, Below w1.heap.size w1 W → Q W) := Lib.hid (fun W hB => HQ.out _ _ hq hB)
    clear hq
    refine region_tree (fun W => Below w1.heap.size w1 W) (.fork [(0, false), (1, false), (2, false), (3, false), (4, false), (5, false)] 6 7 (.last [(7, true), (8, true), (9, true)]) (.last [(6, true), (8, true), (9, true)])) (by kernel_rfl) (by kernel_rfl) (fun W => Below w1.heap.size w1 W) ⟨Closed.below w1, fun _ h => h⟩ (Below.refl _ _).drew ?_
    simp only [wpTree, pickOps, List.getElem?_cons_zero, List.getElem?_cons_succ]
    repeat (first | (refine mix_skip (by rfl) ?_; simp only [Act.put, List.setIfInBounds_toArray, List.set_cons_zero, List.set_cons_succ]) | (refine mix_read _ (by rfl) (fun W hW => by (have m0 := HQl.out W (HBS.out W hW); have x0 := m0.cell_at 0 rfl; have x1 := m0.cell_at 1 rfl; have x2 := m0.cell_at 2 rfl; have x3 := m0.cell_at 3 rfl; have x4 := m0.cell_at 4 rfl; have x5 := m0.cell_at 5 rfl; have x6 := m0.cell_at 6 rfl; have x7 := m0.cell_at 7 rfl; have x8 := m0.cell_at 8 rfl; have x9 := m0.cell_at 9 rfl; have x10 := m0.cell_at 10 rfl; clear m0; have m1 := HQv.out W (HBS.out W hW); have v0 := m1.cell_at 0 rfl; have v1 := m1.cell_at 1 rfl; have v2 := m1.cell_at 2 rfl; clear m1; go_simp; first | done | with_reducible rfl)) ?_; simp only [Act.put, List.setIfInBounds_toArray, List.set_cons_zero, List.set_cons_succ]) | (refine mix_call _ _ _ (by rfl) (fun W hW => by (have m0 := HQl.out W (HBS.out W hW); have x0 := m0.cell_at 0 rfl; have x1 := m0.cell_at 1 rfl; have x2 := m0.cell_at 2 rfl; have x3 := m0.cell_at 3 rfl; have x4 := m0.cell_at 4 rfl; have x5 := m0.cell_at 5 rfl; have x6 := m0.cell_at 6 rfl; have x7 := m0.cell_at 7 rfl; have x8 := m0.cell_at 8 rfl; have x9 := m0.cell_at 9 rfl; have x10 := m0.cell_at 10 rfl; clear m0; have m1 := HQv.out W (HBS.out W hW); have v0 := m1.cell_at 0 rfl; have v1 := m1.cell_at 1 rfl; have v2 := m1.cell_at 2 rfl; clear m1; go_simp; first | done | rfl)) (fun W hW => KR.out W (HBS.out W hW)) ?_; simp only [Act.put, List.setIfInBounds_toArray, List.set_cons_zero, List.set_cons_succ]) | (refine mix_call _ _ _ (by rfl) (fun W hW => by (have m0 := HQl.out W (HBS.out W hW); have x0 := m0.cell_at 0 rfl; have x1 := m0.cell_at 1 rfl; have x2 := m0.cell_at 2 rfl; have x3 := m0.cell_at 3 rfl; have x4 := m0.cell_at 4 rfl; have x5 := m0.cell_at 5 rfl; have x6 := m0.cell_at 6 rfl; have x7 := m0.cell_at 7 rfl; have x8 := m0.cell_at 8 rfl; have x9 := m0.cell_at 9 rfl; have x10 := m0.cell_at 10 rfl; clear m0; have m1 := HQv.out W (HBS.out W hW); have v0 := m1.cell_at 0 rfl; have v1 := m1.cell_at 1 rfl; have v2 := m1.cell_at 2 rfl; clear m1; go_simp; first | done | rfl)) (fun W hW => KN.out W (HBS.out W hW)) ?_; simp only [Act.put, List.setIfInBounds_toArray, List.set_cons_zero, List.set_cons_succ]))
    refine mix_nil (fun hF => ⟨?_, ?_⟩)
    · refine mix_alloc (w1.heap.size) 33 [.int .i64 0, .int .i64 0] ⟨Closed.below w1, fun _ h => h⟩ (fun _ h => h.size) (by rfl) (fun W hW => by (clear hW; go_simp; first | done | with_reducible rfl)) (fun ga hga => ?_)
      simp only [Act.put, List.setIfInBounds_toArray, List.set_cons_zero, List.set_cons_succ]
      refine mix_nil ?_
      refine mix_alloc (ga + 1) 33 [.int .i64 0, .int .i64 0] ⟨(Closed.below w1).and (Closed.whole _ _ _), fun _ h => h.1⟩ (fun _ h => h.2.lt) (by rfl) (fun W hW => by (clear hW; go_simp; first | done | with_reducible rfl)) (fun gb hgb => ?_)
      simp only [Act.put, List.setIfInBounds_toArray, List.set_cons_zero, List.set_cons_succ]
      refine mix_within 33 (.tmp 7) (.tmp 17) ga 0 [.int .i64 r1, .int .i64 r2] (fun W => (Below w1.heap.size w1 W ∧ Whole W ga 33 [.int .i64 r1, .int .i64 r2]) ∧ Whole W gb 33 [.int .i64 0, .int .i64 0]) ⟨((Closed.below w1).and (Closed.whole _ _ _)).and (Closed.whole _ _ _), fun _ h => h.1.1⟩ rfl (by rfl) (by rfl) (by kernel_rfl) (by rfl) (by rfl) (fun W hW => hW.1.2.there) (fun W hW => ⟨⟨(setCells_below _ _ hW.1.1 (by omega)), setCells_whole _ [] [.int .i64 0, .int .i64 0] rfl hW.1.2⟩, setCells_far _ _ (by omega) hW.2⟩) ?_
      simp only [Act.put, List.setIfInBounds_toArray, List.set_cons_zero, List.set_cons_succ]
      refine mix_within 33 (.tmp 8) (.tmp 20) gb 0 [.int .i64 n1, .int .i64 n2] (fun W => (Below w1.heap.size w1 W ∧ Whole W ga 33 [.int .i64 r1, .int .i64 r2]) ∧ Whole W gb 33 [.int .i64 n1, .int .i64 n2]) ⟨((Closed.below w1).and (Closed.whole _ _ _)).and (Closed.whole _ _ _), fun _ h => h.1.1⟩ rfl (by rfl) (by rfl) (by kernel_rfl) (by rfl) (by rfl) (fun W hW => hW.2.there) (fun W hW => ⟨⟨(setCells_below _ _ hW.1.1 (by omega)), setCells_far _ _ (by omega) hW.1.2⟩, setCells_whole _ [] [.int .i64 0, .int .i64 0] rfl hW.2⟩) ?_
      simp only [Act.put, List.setIfInBounds_toArray, List.set_cons_zero, List.set_cons_succ]
      refine mix_nil (fun W hW => ?_)
      have HW := Lib.hid hW
      clear hW
      go_wp2_with fail
      go_meet
      exact ⟨ga, gb, rfl, rfl, Lib.hid ⟨HW.out.1.1, HW.out.1.2, HW.out.2⟩⟩
    · refine mix_alloc (w1.heap.size) 33 [.int .i64 0, .int .i64 0] ⟨Closed.below w1, fun _ h => h⟩ (fun _ h => h.size) (by rfl) (fun W hW => by (clear hW; go_simp; first | done | with_reducible rfl)) (fun gb hgb => ?_)
      simp only [Act.put, List.setIfInBounds_toArray, List.set_cons_zero, List.set_cons_succ]
      refine mix_nil ?_
      refine mix_alloc (gb + 1) 33 [.int .i64 0, .int .i64 0] ⟨(Closed.below w1).and (Closed.whole _ _ _), fun _ h => h.1⟩ (fun _ h => h.2.lt) (by rfl) (fun W hW => by (clear hW; go_simp; first | done | with_reducible rfl)) (fun ga hga => ?_)
      simp only [Act.put, List.setIfInBounds_toArray, List.set_cons_zero, List.set_cons_succ]
      refine mix_within 33 (.tmp 7) (.tmp 17) ga 0 [.int .i64 r1, .int .i64 r2] (fun W => (Below w1.heap.size w1 W ∧ Whole W gb 33 [.int .i64 0, .int .i64 0]) ∧ Whole W ga 33 [.int .i64 r1, .int .i64 r2]) ⟨((Closed.below w1).and (Closed.whole _ _ _)).and (Closed.whole _ _ _), fun _ h => h.1.1⟩ rfl (by rfl) (by rfl) (by kernel_rfl) (by rfl) (by rfl) (fun W hW => hW.2.there) (fun W hW => ⟨⟨(setCells_below _ _ hW.1.1 (by omega)), setCells_far _ _ (by omega) hW.1.2⟩, setCells_whole _ [] [.int .i64 0, .int .i64 0] rfl hW.2⟩) ?_
      simp only [Act.put, List.setIfInBounds_toArray, List.set_cons_zero, List.set_cons_succ]
      refine mix_within 33 (.tmp 8) (.tmp 20) gb 0 [.int .i64 n1, .int .i64 n2] (fun W => (Below w1.heap.size w1 W ∧ Whole W gb 33 [.int .i64 n1, .int .i64 n2]) ∧ Whole W ga 33 [.int .i64 r1, .int .i64 r2]) ⟨((Closed.below w1).and (Closed.whole _ _ _)).and (Closed.whole _ _ _), fun _ h => h.1.1⟩ rfl (by rfl) (by rfl) (by kernel_rfl) (by rfl) (by rfl) (fun W hW => hW.1.2.there) (fun W hW => ⟨⟨(setCells_below _ _ hW.1.1 (by omega)), setCells_whole _ [] [.int .i64 0, .int .i64 0] rfl hW.1.2⟩, setCells_far _ _ (by omega) hW.2⟩) ?_
      simp only [Act.put, List.setIfInBounds_toArray, List.set_cons_zero, List.set_cons_succ]
      refine mix_nil (fun W hW => ?_)
      have HW := Lib.hid hW
      clear hW
      go_wp2_with fail
      go_meet
      exact ⟨ga, gb, rfl, rfl, Lib.hid ⟨HW.out.1.1, HW.out.2, HW.out.1.2⟩⟩
  case rest =>
  obtain ⟨ga, gb, rfl, rfl, HW⟩ := hcut
  obtain ⟨R, HRc, HRq, HRa, HRb, hr⟩ : ∃ R : World → Prop, Hid (Closed R) ∧ Hid (∀ W, R W → Q W) ∧ Hid (∀ W, R W → Whole W ga 33 [.int .i64 r1, .int .i64 r2]) ∧ Hid (∀ W, R W → Whole W gb 33 [.int .i64 n1, .int .i64 n2]) ∧ R wc :=
    ⟨fun W => (Q W ∧ Whole W ga 33 [.int .i64 r1, .int .i64 r2]) ∧ Whole W gb 33 [.int .i64 n1, .int .i64 n2], Lib.hid ((HQ.out.and (Closed.whole _ _ _)).and (Closed.whole _ _ _)), Lib.hid fun _ h => h.1.1, Lib.hid fun _ h => h.1.2, Lib.hid fun _ h => h.2, ⟨HQ.out _ _ hq HW.out.1, HW.out.2.1⟩, HW.out.2.2⟩
  obtain ⟨w3, rfl⟩ : ∃ W, W = wc := ⟨wc, rfl⟩
  have K2 : Hid (∀ W, R W → Calls Tryd.prog 28 #[l.val] W fun e w' => e = .returned (.bool rt) ∧ Below W.heap.size W w') := Lib.hid fun W hW => rightRT_any (HTW.out W (HRq.out W hW)).2 HRT.out
  clear HW hq KR KN
  have x1 := (HQl.out _ (HRq.out _ hr)).cell_at 1 rfl
  go_upto_region 4 with (fail)
  go_cut [29] from 21 to 29 (fun v wx => ∃ nb : Bool, v = .bool nb ∧ (wx = w3 ∧ Hid (nb = decide (x < 0 ∨ (l.sigs.length : Int) ≤ x))))
  case first =>
    rcases at_cases_n l.sigs x with h1 | ⟨h0, h1⟩ | ⟨j, ⟨y1, y2⟩, rfl, hy, hlt⟩
    · have d1 := decide_eq_true h1
      go_wp2_with fail
      go_meet
      exact ⟨true, rfl, rfl, Lib.hid (by rw [decide_eq_true]; exact .inl h1)⟩
    · have d1 : decide (x < 0) = false := decide_eq_false (by omega)
      have d2 : decide ((l.sigs.length : Int) ≤ x) = true := decide_eq_true h1
      go_wp2_with fail
      go_meet
      exact ⟨true, rfl, rfl, Lib.hid (by rw [decide_eq_true]; exact .inr h1)⟩
    · have d1 : decide ((j : Int) < 0) = false := decide_eq_false (by omega)
      have d2 : decide ((l.sigs.length : Int) ≤ (j : Int)) = false := decide_eq_false (by omega)
      have d3 : decide (l.sigs.length ≤ j) = false := decide_eq_false (by omega)
      go_wp2_with fail
      go_meet
      exact ⟨false, rfl, rfl, Lib.hid (by rw [decide_eq_false]; omega)⟩
  case rest =>
  obtain ⟨nb, rfl, hwc, HNB⟩ := hcut
  rw [hwc]
  clear hwc x1
  go_upto_if 29 with (fail)
  go_cut [] from 30 to 63 (fun wx => Hid (R wx))
  case first =>
    cases nb
    · have hin : ¬ (x < 0 ∨ (l.sigs.length : Int) ≤ x) := of_decide_eq_false HNB.out.symm
      obtain ⟨j, rfl⟩ : ∃ j : Nat, x = j := ⟨x.toNat, by omega⟩
      have hjl : j < l.sigs.length := by omega
      have hlt : (j : Int) < l.sigs.length := by omega
      obtain ⟨⟨y1, y2⟩, hy⟩ : ∃ y, l.sigs[j]? = some y := ⟨_, List.getElem?_eq_getElem hjl⟩
      have HBV : Hid (beyondV l y1 y2 = (r1, r2)) := Lib.hid (by rw [← HRV.out, rear_at hy])
      have HCC : Hid (∃ b off, l.Ag = some ⟨b, off, none⟩ ∧ ∀ W, Q W → W.cell? ⟨b, off + j * 2, none⟩ = some (.int .i64 y1) ∧ W.cell? ⟨b, off + j * 2 + 1, none⟩ = some (.int .i64 y2)) := Lib.hid (by
        obtain ⟨b, off, hA, _, hc0, hc⟩ := (HTW.out _ (HRq.out _ hr)).2.sigs.nth (n := 2) (fun _ => rfl) (by omega) hy
        refine ⟨b, off, hA, fun W hW => ?_⟩
        obtain ⟨b', off', hA', _, hc0, hc⟩ := (HTW.out _ hW).2.sigs.nth (n := 2) (fun _ => rfl) (by omega) hy
        rw [hA] at hA'
        cases hA'
        exact ⟨hc0 j _ _ hy rfl, hc j _ 1 _ hy rfl⟩)
      obtain ⟨b, off, hA, hC⟩ := HCC.out
      have HA := Lib.hid hA
      have HC := Lib.hid hC
      have K1 : Hid (∀ W, R W → Calls Tryd.prog 29 #[l.val, prtV y1 y2] W fun e w' => e = .returned (prtV r1 r2) ∧ Below W.heap.size W w') := Lib.hid fun W hW => beyondJ_B (w := W) (HTW.out W (HRq.out W hW)).2 y1 y2 HBV.out
      have hne : ∀ W : World, (binOp .neq 33 (prtV r1 r2) (prtV r1 r2)).run Tryd.prog W = .ok (.bool false) W := fun W => by rw [neq_prtD, decide_eq_true rfl]; rfl
      clear hin hy hA hC HCC HNB
      cases rt
      · go_wp2_with fail
        have HBS : Hid (∀ W, Below w3.heap.size w3 W → R W) := Lib.hid (fun W hB => HRc.out _ _ hr hB)
        clear hr
        refine region_mix (Below w3.heap.size w3) [(0, false), (1, false), (2, false), (3, false), (4, false), (5, false), (6, false), (7, false), (8, false), (9, false), (10, false), (11, false), (12, false), (13, false), (14, false), (15, false), (16, false), (17, false), (18, false), (19, false), (20, false), (21, false), (22, false), (23, false), (24, false), (25, false), (26, false), (27, false), (28, false), (29, false), (30, false)] (by kernel_rfl) (by kernel_rfl) (Below w3.heap.size w3) ⟨Closed.below w3, fun _ h => h⟩ (Below.refl _ _).drew ?_
        simp only [pickOps, List.getElem?_cons_zero, List.getElem?_cons_succ]
        repeat (first | (refine mix_skip (by rfl) ?_; simp only [Act.put, List.setIfInBounds_toArray, List.set_cons_zero, List.set_cons_succ]) | (refine mix_read _ (by rfl) (fun W hW => by (have hW := HBS.out W hW; have hQ5 := HRq.out W hW; have m0 := HQl.out W hQ5; have x0 := m0.cell_at 0 rfl; have x1 := m0.cell_at 1 rfl; have x2 := m0.cell_at 2 rfl; have x3 := m0.cell_at 3 rfl; have x4 := m0.cell_at 4 rfl; have x5 := m0.cell_at 5 rfl; have x6 := m0.cell_at 6 rfl; have x7 := m0.cell_at 7 rfl; have x8 := m0.cell_at 8 rfl; have x9 := m0.cell_at 9 rfl; have x10 := m0.cell_at 10 rfl; clear m0; have m2 := HRa.out W hW; have a0 := m2.cell_at 0 rfl; have a1 := m2.cell_at 1 rfl; clear m2; have m3 := HRb.out W hW; have b0 := m3.cell_at 0 rfl; have b1 := m3.cell_at 1 rfl; clear m3; obtain ⟨s0, s1⟩ := HC.out W hQ5; clear hQ5; go_simp; first | done | with_reducible rfl)) ?_; simp only [Act.put, List.setIfInBounds_toArray, List.set_cons_zero, List.set_cons_succ]) | (refine mix_read _ (by rfl) (fun W hW => by (have hW := HBS.out W hW; have hQ5 := HRq.out W hW; have m0 := HQl.out W hQ5; have x0 := m0.cell_at 0 rfl; have x1 := m0.cell_at 1 rfl; have x2 := m0.cell_at 2 rfl; have x3 := m0.cell_at 3 rfl; have x4 := m0.cell_at 4 rfl; have x5 := m0.cell_at 5 rfl; have x6 := m0.cell_at 6 rfl; have x7 := m0.cell_at 7 rfl; have x8 := m0.cell_at 8 rfl; have x9 := m0.cell_at 9 rfl; have x10 := m0.cell_at 10 rfl; clear m0; have m2 := HRa.out W hW; have a0 := m2.cell_at 0 rfl; have a1 := m2.cell_at 1 rfl; clear m2; have m3 := HRb.out W hW; have b0 := m3.cell_at 0 rfl; have b1 := m3.cell_at 1 rfl; clear m3; obtain ⟨s0, s1⟩ := HC.out W hQ5; clear hQ5; rw [HA.out]; go_simp; first | done | with_reducible rfl)) ?_; simp only [Act.put, List.setIfInBounds_toArray, List.set_cons_zero, List.set_cons_succ]) | (refine mix_call _ _ _ (by rfl) (fun W hW => by (have hW := HBS.out W hW; have hQ5 := HRq.out W hW; have m0 := HQl.out W hQ5; have x0 := m0.cell_at 0 rfl; have x1 := m0.cell_at 1 rfl; have x2 := m0.cell_at 2 rfl; have x3 := m0.cell_at 3 rfl; have x4 := m0.cell_at 4 rfl; have x5 := m0.cell_at 5 rfl; have x6 := m0.cell_at 6 rfl; have x7 := m0.cell_at 7 rfl; have x8 := m0.cell_at 8 rfl; have x9 := m0.cell_at 9 rfl; have x10 := m0.cell_at 10 rfl; clear m0; have m2 := HRa.out W hW; have a0 := m2.cell_at 0 rfl; have a1 := m2.cell_at 1 rfl; clear m2; have m3 := HRb.out W hW; have b0 := m3.cell_at 0 rfl; have b1 := m3.cell_at 1 rfl; clear m3; obtain ⟨s0, s1⟩ := HC.out W hQ5; clear hQ5; go_simp; first | done | rfl)) (fun W hW => K1.out W (HBS.out W hW)) ?_; simp only [Act.put, List.setIfInBounds_toArray, List.set_cons_zero, List.set_cons_succ]) | (refine mix_call _ _ _ (by rfl) (fun W hW => by (have hW := HBS.out W hW; have hQ5 := HRq.out W hW; have m0 := HQl.out W hQ5; have x0 := m0.cell_at 0 rfl; have x1 := m0.cell_at 1 rfl; have x2 := m0.cell_at 2 rfl; have x3 := m0.cell_at 3 rfl; have x4 := m0.cell_at 4 rfl; have x5 := m0.cell_at 5 rfl; have x6 := m0.cell_at 6 rfl; have x7 := m0.cell_at 7 rfl; have x8 := m0.cell_at 8 rfl; have x9 := m0.cell_at 9 rfl; have x10 := m0.cell_at 10 rfl; clear m0; have m2 := HRa.out W hW; have a0 := m2.cell_at 0 rfl; have a1 := m2.cell_at 1 rfl; clear m2; have m3 := HRb.out W hW; have b0 := m3.cell_at 0 rfl; have b1 := m3.cell_at 1 rfl; clear m3; obtain ⟨s0, s1⟩ := HC.out W hQ5; clear hQ5; go_simp; first | done | rfl)) (fun W hW => K2.out W (HBS.out W hW)) ?_; simp only [Act.put, List.setIfInBounds_toArray, List.set_cons_zero, List.set_cons_succ]))
        refine mix_nil (fun W hW => ?_)
        have HR2 := Lib.hid (HBS.out W hW)
        clear hW HBS
        go_wp2_with fail
        go_meet
        exact HR2
      by_cases h0 : 0 ≤ r1
      · have HB2 : Hid (beyondV l r1 r2 = (y1, y2)) := Lib.hid (right_back HRT.out HBV.out h0)
        have K3 : Hid (∀ W, R W → Calls Tryd.prog 29 #[l.val, prtV r1 r2] W fun e w' => e = .returned (prtV y1 y2) ∧ Below W.heap.size W w') := Lib.hid fun W hW => beyondJ_B (w := W) (HTW.out W (HRq.out W hW)).2 r1 r2 HB2.out
        have hne2 : ∀ W : World, (binOp .neq 33 (prtV y1 y2) (prtV y1 y2)).run Tryd.prog W = .ok (.bool false) W := fun W => by rw [neq_prtD, decide_eq_true rfl]; rfl
        have d0 := decide_eq_true h0
        go_wp2_with fail
        have HBS : Hid (∀ W, Below w3.heap.size w3 W → R W) := Lib.hid (fun W hB => HRc.out _ _ hr hB)
        clear hr
        refine region_mix (Below w3.heap.size w3) [(0, false), (1, false), (2, false), (3, false), (4, false), (5, false), (6, false), (7, false), (8, false), (9, false), (10, false), (11, false), (12, false), (13, false), (14, false), (15, false), (16, false), (17, false), (18, false), (19, false), (20, false), (21, false), (22, false), (23, false), (24, false), (25, false), (26, false), (27, false), (28, false), (29, false), (30, false)] (by kernel_rfl) (by kernel_rfl) (Below w3.heap.size w3) ⟨Closed.below w3, fun _ h => h⟩ (Below.refl _ _).drew ?_
        simp only [pickOps, List.getElem?_cons_zero, List.getElem?_cons_succ]
        repeat (first | (refine mix_skip (by rfl) ?_; simp only [Act.put, List.setIfInBounds_toArray, List.set_cons_zero, List.set_cons_succ]) | (refine mix_read _ (by rfl) (fun W hW => by (have hW := HBS.out W hW; have hQ5 := HRq.out W hW; have m0 := HQl.out W hQ5; have x0 := m0.cell_at 0 rfl; have x1 := m0.cell_at 1 rfl; have x2 := m0.cell_at 2 rfl; have x3 := m0.cell_at 3 rfl; have x4 := m0.cell_at 4 rfl; have x5 := m0.cell_at 5 rfl; have x6 := m0.cell_at 6 rfl; have x7 := m0.cell_at 7 rfl; have x8 := m0.cell_at 8 rfl; have x9 := m0.cell_at 9 rfl; have x10 := m0.cell_at 10 rfl; clear m0; have m2 := HRa.out W hW; have a0 := m2.cell_at 0 rfl; have a1 := m2.cell_at 1 rfl; clear m2; have m3 := HRb.out W hW; have b0 := m3.cell_at 0 rfl; have b1 := m3.cell_at 1 rfl; clear m3; obtain ⟨s0, s1⟩ := HC.out W hQ5; clear hQ5; go_simp; first | done | with_reducible rfl)) ?_; simp only [Act.put, List.setIfInBounds_toArray, List.set_cons_zero, List.set_cons_succ]) | (refine mix_read _ (by rfl) (fun W hW => by (have hW := HBS.out W hW; have hQ5 := HRq.out W hW; have m0 := HQl.out W hQ5; have x0 := m0.cell_at 0 rfl; have x1 := m0.cell_at 1 rfl; have x2 := m0.cell_at 2 rfl; have x3 := m0.cell_at 3 rfl; have x4 := m0.cell_at 4 rfl; have x5 := m0.cell_at 5 rfl; have x6 := m0.cell_at 6 rfl; have x7 := m0.cell_at 7 rfl; have x8 := m0.cell_at 8 rfl; have x9 := m0.cell_at 9 rfl; have x10 := m0.cell_at 10 rfl; clear m0; have m2 := HRa.out W hW; have a0 := m2.cell_at 0 rfl; have a1 := m2.cell_at 1 rfl; clear m2; have m3 := HRb.out W hW; have b0 := m3.cell_at 0 rfl; have b1 := m3.cell_at 1 rfl; clear m3; obtain ⟨s0, s1⟩ := HC.out W hQ5; clear hQ5; rw [HA.out]; go_simp; first | done | with_reducible rfl)) ?_; simp only [Act.put, List.setIfInBounds_toArray, List.set_cons_zero, List.set_cons_succ]) | (refine mix_call _ _ _ (by rfl) (fun W hW => by (have hW := HBS.out W hW; have hQ5 := HRq.out W hW; have m0 := HQl.out W hQ5; have x0 := m0.cell_at 0 rfl; have x1 := m0.cell_at 1 rfl; have x2 := m0.cell_at 2 rfl; have x3 := m0.cell_at 3 rfl; have x4 := m0.cell_at 4 rfl; have x5 := m0.cell_at 5 rfl; have x6 := m0.cell_at 6 rfl; have x7 := m0.cell_at 7 rfl; have x8 := m0.cell_at 8 rfl; have x9 := m0.cell_at 9 rfl; have x10 := m0.cell_at 10 rfl; clear m0; have m2 := HRa.out W hW; have a0 := m2.cell_at 0 rfl; have a1 := m2.cell_at 1 rfl; clear m2; have m3 := HRb.out W hW; have b0 := m3.cell_at 0 rfl; have b1 := m3.cell_at 1 rfl; clear m3; obtain ⟨s0, s1⟩ := HC.out W hQ5; clear hQ5; go_simp; first | done | rfl)) (fun W hW => K1.out W (HBS.out W hW)) ?_; simp only [Act.put, List.setIfInBounds_toArray, List.set_cons_zero, List.set_cons_succ]) | (refine mix_call _ _ _ (by rfl) (fun W hW => by (have hW := HBS.out W hW; have hQ5 := HRq.out W hW; have m0 := HQl.out W hQ5; have x0 := m0.cell_at 0 rfl; have x1 := m0.cell_at 1 rfl; have x2 := m0.cell_at 2 rfl; have x3 := m0.cell_at 3 rfl; have x4 := m0.cell_at 4 rfl; have x5 := m0.cell_at 5 rfl; have x6 := m0.cell_at 6 rfl; have x7 := m0.cell_at 7 rfl; have x8 := m0.cell_at 8 rfl; have x9 := m0.cell_at 9 rfl; have x10 := m0.cell_at 10 rfl; clear m0; have m2 := HRa.out W hW; have a0 := m2.cell_at 0 rfl; have a1 := m2.cell_at 1 rfl; clear m2; have m3 := HRb.out W hW; have b0 := m3.cell_at 0 rfl; have b1 := m3.cell_at 1 rfl; clear m3; obtain ⟨s0, s1⟩ := HC.out W hQ5; clear hQ5; go_simp; first | done | rfl)) (fun W hW => K2.out W (HBS.out W hW)) ?_; simp only [Act.put, List.setIfInBounds_toArray, List.set_cons_zero, List.set_cons_succ]) | (refine mix_call _ _ _ (by rfl) (fun W hW => by (have hW := HBS.out W hW; have hQ5 := HRq.out W hW; have m0 := HQl.out W hQ5; have x0 := m0.cell_at 0 rfl; have x1 := m0.cell_at 1 rfl; have x2 := m0.cell_at 2 rfl; have x3 := m0.cell_at 3 rfl; have x4 := m0.cell_at 4 rfl; have x5 := m0.cell_at 5 rfl; have x6 := m0.cell_at 6 rfl; have x7 := m0.cell_at 7 rfl; have x8 := m0.cell_at 8 rfl; have x9 := m0.cell_at 9 rfl; have x10 := m0.cell_at 10 rfl; clear m0; have m2 := HRa.out W hW; have a0 := m2.cell_at 0 rfl; have a1 := m2.cell_at 1 rfl; clear m2; have m3 := HRb.out W hW; have b0 := m3.cell_at 0 rfl; have b1 := m3.cell_at 1 rfl; clear m3; obtain ⟨s0, s1⟩ := HC.out W hQ5; clear hQ5; go_simp; first | done | rfl)) (fun W hW => K3.out W (HBS.out W hW)) ?_; simp only [Act.put, List.setIfInBounds_toArray, List.set_cons_zero, List.set_cons_succ]))
        refine mix_nil (fun W hW => ?_)
        have HR2 := Lib.hid (HBS.out W hW)
        clear hW HBS
        go_wp2_with fail
        go_meet
        exact HR2
      · have d0 : decide (0 ≤ r1) = false := decide_eq_false h0
        go_wp2_with fail
        have HBS : Hid (∀ W, Below w3.heap.size w3 W → R W) := Lib.hid (fun W hB => HRc.out _ _ hr hB)
        clear hr
        refine region_mix (Below w3.heap.size w3) [(0, false), (1, false), (2, false), (3, false), (4, false), (5, false), (6, false), (7, false), (8, false), (9, false), (10, false), (11, false), (12, false), (13, false), (14, false), (15, false), (16, false), (17, false), (18, false), (19, false), (20, false), (21, false), (22, false), (23, false), (24, false), (25, false), (26, false), (27, false), (28, false), (29, false), (30, false)] (by kernel_rfl) (by kernel_rfl) (Below w3.heap.size w3) ⟨Closed.below w3, fun _ h => h⟩ (Below.refl _ _).drew ?_
        simp only [pickOps, List.getElem?_cons_zero, List.getElem?_cons_succ]
        repeat (first | (refine mix_skip (by rfl) ?_; simp only [Act.put, List.setIfInBounds_toArray, List.set_cons_zero, List.set_cons_succ]) | (refine mix_read _ (by rfl) (fun W hW => by (have hW := HBS.out W hW; have hQ5 := HRq.out W hW; have m0 := HQl.out W hQ5; have x0 := m0.cell_at 0 rfl; have x1 := m0.cell_at 1 rfl; have x2 := m0.cell_at 2 rfl; have x3 := m0.cell_at 3 rfl; have x4 := m0.cell_at 4 rfl; have x5 := m0.cell_at 5 rfl; have x6 := m0.cell_at 6 rfl; have x7 := m0.cell_at 7 rfl; have x8 := m0.cell_at 8 rfl; have x9 := m0.cell_at 9 rfl; have x10 := m0.cell_at 10 rfl; clear m0; have m2 := HRa.out W hW; have a0 := m2.cell_at 0 rfl; have a1 := m2.cell_at 1 rfl; clear m2; have m3 := HRb.out W hW; have b0 := m3.cell_at 0 rfl; have b1 := m3.cell_at 1 rfl; clear m3; obtain ⟨s0, s1⟩ := HC.out W hQ5; clear hQ5; go_simp; first | done | with_reducible rfl)) ?_; simp only [Act.put, List.setIfInBounds_toArray, List.set_cons_zero, List.set_cons_succ]) | (refine mix_read _ (by rfl) (fun W hW => by (have hW := HBS.out W hW; have hQ5 := HRq.out W hW; have m0 := HQl.out W hQ5; have x0 := m0.cell_at 0 rfl; have x1 := m0.cell_at 1 rfl; have x2 := m0.cell_at 2 rfl; have x3 := m0.cell_at 3 rfl; have x4 := m0.cell_at 4 rfl; have x5 := m0.cell_at 5 rfl; have x6 := m0.cell_at 6 rfl; have x7 := m0.cell_at 7 rfl; have x8 := m0.cell_at 8 rfl; have x9 := m0.cell_at 9 rfl; have x10 := m0.cell_at 10 rfl; clear m0; have m2 := HRa.out W hW; have a0 := m2.cell_at 0 rfl; have a1 := m2.cell_at 1 rfl; clear m2; have m3 := HRb.out W hW; have b0 := m3.cell_at 0 rfl; have b1 := m3.cell_at 1 rfl; clear m3; obtain ⟨s0, s1⟩ := HC.out W hQ5; clear hQ5; rw [HA.out]; go_simp; first | done | with_reducible rfl)) ?_; simp only [Act.put, List.setIfInBounds_toArray, List.set_cons_zero, List.set_cons_succ]) | (refine mix_call _ _ _ (by rfl) (fun W hW => by (have hW := HBS.out W hW; have hQ5 := HRq.out W hW; have m0 := HQl.out W hQ5; have x0 := m0.cell_at 0 rfl; have x1 := m0.cell_at 1 rfl; have x2 := m0.cell_at 2 rfl; have x3 := m0.cell_at 3 rfl; have x4 := m0.cell_at 4 rfl; have x5 := m0.cell_at 5 rfl; have x6 := m0.cell_at 6 rfl; have x7 := m0.cell_at 7 rfl; have x8 := m0.cell_at 8 rfl; have x9 := m0.cell_at 9 rfl; have x10 := m0.cell_at 10 rfl; clear m0; have m2 := HRa.out W hW; have a0 := m2.cell_at 0 rfl; have a1 := m2.cell_at 1 rfl; clear m2; have m3 := HRb.out W hW; have b0 := m3.cell_at 0 rfl; have b1 := m3.cell_at 1 rfl; clear m3; obtain ⟨s0, s1⟩ := HC.out W hQ5; clear hQ5; go_simp; first | done | rfl)) (fun W hW => K1.out W (HBS.out W hW)) ?_; simp only [Act.put, List.setIfInBounds_toArray, List.set_cons_zero, List.set_cons_succ]) | (refine mix_call _ _ _ (by rfl) (fun W hW => by (have hW := HBS.out W hW; have hQ5 := HRq.out W hW; have m0 := HQl.out W hQ5; have x0 := m0.cell_at 0 rfl; have x1 := m0.cell_at 1 rfl; have x2 := m0.cell_at 2 rfl; have x3 := m0.cell_at 3 rfl; have x4 := m0.cell_at 4 rfl; have x5 := m0.cell_at 5 rfl; have x6 := m0.cell_at 6 rfl; have x7 := m0.cell_at 7 rfl; have x8 := m0.cell_at 8 rfl; have x9 := m0.cell_at 9 rfl; have x10 := m0.cell_at 10 rfl; clear m0; have m2 := HRa.out W hW; have a0 := m2.cell_at 0 rfl; have a1 := m2.cell_at 1 rfl; clear m2; have m3 := HRb.out W hW; have b0 := m3.cell_at 0 rfl; have b1 := m3.cell_at 1 rfl; clear m3; obtain ⟨s0, s1⟩ := HC.out W hQ5; clear hQ5; go_simp; first | done | rfl)) (fun W hW => K2.out W (HBS.out W hW)) ?_; simp only [Act.put, List.setIfInBounds_toArray, List.set_cons_zero, List.set_cons_succ]))
        refine mix_nil (fun W hW => ?_)
        have HR2 := Lib.hid (HBS.out W hW)
        clear hW HBS
        go_wp2_with fail
        go_meet
        exact HR2
    · have hout : x < 0 ∨ (l.sigs.length : Int) ≤ x := of_decide_eq_true HNB.out.symm
      have hrr : rearV l x = (-1, 0) := by
        rcases hout with h | h
        · exact rear_neg h
        · by_cases h0 : x < 0
          · exact rear_neg h0
          · exact rear_far (by omega) h
      have hrr2 := HRV.out.symm.trans hrr
      have e1 : r1 = -1 := congrArg Prod.fst hrr2
      have e2 : r2 = 0 := congrArg Prod.snd hrr2
      subst e1 e2
      have hne : ∀ W : World, (binOp .neq 33 (prtV (-1) 0) (prtV (-1) 0)).run Tryd.prog W = .ok (.bool false) W := fun W => by rw [neq_prtD, decide_eq_true rfl]; rfl
      have a0 := (HRa.out _ hr).cell_at 0 rfl
      have a1 := (HRa.out _ hr).cell_at 1 rfl
      have HR2 := Lib.hid hr
      clear hout hrr hrr2 hr
      go_wp2_with fail
      go_meet
      exact HR2
  case rest =>
  have hr := hcut.out
  obtain ⟨w4, rfl⟩ : ∃ W, W = wc := ⟨wc, rfl⟩
  clear hcut HNB
  obtain ⟨st, hst⟩ : ∃ st, stepV l s i o = st := ⟨_, rfl⟩
  obtain ⟨wy, hwy⟩ : ∃ wy, wayK (kindV l s) i o = wy := ⟨_, rfl⟩
  have KS : Hid (∀ W, R W → Calls Tryd.prog 30 #[l.val, stpV s i o] W fun e w' => e = .returned (.tuple #[.int .i64 wy, .bool st]) ∧ R w') := Lib.hid fun W hW => keepR HRc.out (stepR_B (HTW.out W (HRq.out W hW)).2 s i o hwy hst) hW
  have HST := Lib.hid hst
  clear hst hwy
  have m0 := HQl.out _ (HRq.out _ hr)
  have x0 := m0.cell_at 0 rfl
  have x1 := m0.cell_at 1 rfl
  have x2 := m0.cell_at 2 rfl
  have x3 := m0.cell_at 3 rfl
  have x4 := m0.cell_at 4 rfl
  have x5 := m0.cell_at 5 rfl
  have x6 := m0.cell_at 6 rfl
  have x7 := m0.cell_at 7 rfl
  have x8 := m0.cell_at 8 rfl
  have x9 := m0.cell_at 9 rfl
  have x10 := m0.cell_at 10 rfl
  clear m0
  have m0 := HQv.out _ (HRq.out _ hr)
  have v0 := m0.cell_at 0 rfl
  have v1 := m0.cell_at 1 rfl
  have v2 := m0.cell_at 2 rfl
  clear m0
  go_wp2_with fail
  refine (KS.out _ hr).mono ?_
  clear hr KS x0 x1 x2 x3 x4 x5 x6 x7 x8 x9 x10 v0 v1 v2
  rintro e w5 ⟨rfl, hr⟩
  have b0 := (HRb.out _ hr).cell_at 0 rfl
  have b1 := (HRb.out _ hr).cell_at 1 rfl
  cases st
  · have hnn : nextV l s i o = (-1, 0) := by unfold nextV; rw [HST.out]; rfl
    have hnn2 := HNX.out.symm.trans hnn
    have e1 : n1 = -1 := congrArg Prod.fst hnn2
    have e2 : n2 = 0 := congrArg Prod.snd hnn2
    subst e1 e2
    have hne : ∀ W : World, (binOp .eql 33 (prtV (-1) 0) (prtV (-1) 0)).run Tryd.prog W = .ok (.bool true) W := fun W => by rw [eql_prt]; simp
    have hq := HRq.out _ hr
    clear hnn hnn2 hr
    go_wp2_with fail
    refine (KW.out _ hq).mono ?_
    clear hq b0 b1
    rintro e w9 ⟨rfl, hq⟩
    go_wp2_with fail
    go_ret
    exact ⟨rfl, HQb.out _ hq⟩
  have HBV : Hid (beyondV l s o = (n1, n2)) := Lib.hid (by rw [← HNX.out]; unfold nextV; rw [HST.out]; rfl)
  obtain ⟨gc, hgc⟩ : ∃ gc, w5.heap.size = gc := ⟨_, rfl⟩
  obtain ⟨W6, hW6⟩ : ∃ W6, w5.alloc (.cells #[.int .i64 s, .int .i64 o] 33) = W6 := ⟨_, rfl⟩
  obtain ⟨U, HUc, HUr, HUc2, hu⟩ : ∃ U : World → Prop, Hid (Closed U) ∧ Hid (∀ W, U W → R W) ∧ Hid (∀ W, U W → Whole W gc 33 [.int .i64 s, .int .i64 o]) ∧ U W6 :=
    ⟨fun W => R W ∧ Whole W gc 33 [.int .i64 s, .int .i64 o], Lib.hid (HRc.out.and (Closed.whole _ _ _)), Lib.hid fun _ h => h.1, Lib.hid fun _ h => h.2, by rw [← hW6]; exact ⟨HRc.out _ _ hr (below1 _ _), Whole.new_at _ _ [_, _] _ hgc.symm⟩⟩
  have HH := Lib.hid (And.intro hgc hW6)
  have m0 := HQv.out _ (HRq.out _ hr)
  have v0 := m0.cell_at 0 rfl
  have v1 := m0.cell_at 1 rfl
  have v2 := m0.cell_at 2 rfl
  clear m0
  clear b0 b1 hr hgc hW6
  go_upto_region 13 with (fail)
  try rw [HH.out.2]
  try rw [HH.out.1]
  clear v0 v1 v2 HH
  have K1 : Hid (∀ W, U W → Calls Tryd.prog 29 #[l.val, prtV s o] W fun e w' => e = .returned (prtV n1 n2) ∧ Below W.heap.size W w') := Lib.hid fun W hW => beyondJ_B (w := W) (HTW.out W (HRq.out W (HUr.out W hW))).2 s o HBV.out
  have K22 : Hid (∀ W, U W → Calls Tryd.prog 28 #[l.val] W fun e w' => e = .returned (.bool rt) ∧ Below W.heap.size W w') := Lib.hid fun W hW => K2.out W (HUr.out W hW)
  have K4 : Hid (∀ W, U W → Calls Tryd.prog 9 #[] W fun e w' => e = .returned (.bool true) ∧ Below W.heap.size W w') := Lib.hid fun W hW => wakes10_P (P := fun W' => Below W.heap.size W W') (Closed.below W) (fun W' h => Shapes.closed _ _ (HTW.out W (HRq.out W (HUr.out W hW))).1 h) (Below.refl _ _)
  have hne : ∀ W : World, (binOp .eql 33 (prtV n1 n2) (prtV n1 n2)).run Tryd.prog W = .ok (.bool true) W := fun W => by rw [eql_prt]; simp
  cases rt
  · have HBS : Hid (∀ W, Below W6.heap.size W6 W → U W) := Lib.hid (fun W hB => HUc.out _ _ hu hB)
    clear hu
    refine region_mix (Below W6.heap.size W6) [(0, false), (1, false), (2, false), (3, false), (4, false), (5, false), (6, false), (7, false), (8, false), (9, false), (10, false), (11, false), (12, false), (13, false), (14, false), (15, false), (16, false), (17, false), (18, false), (19, false), (20, false), (21, false), (22, false), (23, false), (24, false), (25, false)] (by kernel_rfl) (by kernel_rfl) (Below W6.heap.size W6) ⟨Closed.below W6, fun _ h => h⟩ (Below.refl _ _).drew ?_
    simp only [pickOps, List.getElem?_cons_zero, List.getElem?_cons_succ]
    repeat (first | (refine mix_skip (by rfl) ?_; simp only [Act.put, List.setIfInBounds_toArray, List.set_cons_zero, List.set_cons_succ]) | (refine mix_read _ (by rfl) (fun W hW => by (have hW := HBS.out W hW; have hU5 := HUr.out W hW; have hQ5 := HRq.out W hU5; have m0 := HQl.out W hQ5; have x0 := m0.cell_at 0 rfl; have x1 := m0.cell_at 1 rfl; have x2 := m0.cell_at 2 rfl; have x3 := m0.cell_at 3 rfl; have x4 := m0.cell_at 4 rfl; have x5 := m0.cell_at 5 rfl; have x6 := m0.cell_at 6 rfl; have x7 := m0.cell_at 7 rfl; have x8 := m0.cell_at 8 rfl; have x9 := m0.cell_at 9 rfl; have x10 := m0.cell_at 10 rfl; clear m0; have m3 := HRb.out W hU5; have b0 := m3.cell_at 0 rfl; have b1 := m3.cell_at 1 rfl; clear m3; have m4 := HUc2.out W hW; have c0 := m4.cell_at 0 rfl; have c1 := m4.cell_at 1 rfl; clear m4 hU5 hQ5; go_simp; first | done | with_reducible rfl)) ?_; simp only [Act.put, List.setIfInBounds_toArray, List.set_cons_zero, List.set_cons_succ]) | (refine mix_call _ _ _ (by rfl) (fun W hW => by (have hW := HBS.out W hW; have hU5 := HUr.out W hW; have hQ5 := HRq.out W hU5; have m0 := HQl.out W hQ5; have x0 := m0.cell_at 0 rfl; have x1 := m0.cell_at 1 rfl; have x2 := m0.cell_at 2 rfl; have x3 := m0.cell_at 3 rfl; have x4 := m0.cell_at 4 rfl; have x5 := m0.cell_at 5 rfl; have x6 := m0.cell_at 6 rfl; have x7 := m0.cell_at 7 rfl; have x8 := m0.cell_at 8 rfl; have x9 := m0.cell_at 9 rfl; have x10 := m0.cell_at 10 rfl; clear m0; have m3 := HRb.out W hU5; have b0 := m3.cell_at 0 rfl; have b1 := m3.cell_at 1 rfl; clear m3; have m4 := HUc2.out W hW; have c0 := m4.cell_at 0 rfl; have c1 := m4.cell_at 1 rfl; clear m4 hU5 hQ5; go_simp; first | done | rfl)) (fun W hW => K1.out W (HBS.out W hW)) ?_; simp only [Act.put, List.setIfInBounds_toArray, List.set_cons_zero, List.set_cons_succ]) | (refine mix_call _ _ _ (by rfl) (fun W hW => by (have hW := HBS.out W hW; have hU5 := HUr.out W hW; have hQ5 := HRq.out W hU5; have m0 := HQl.out W hQ5; have x0 := m0.cell_at 0 rfl; have x1 := m0.cell_at 1 rfl; have x2 := m0.cell_at 2 rfl; have x3 := m0.cell_at 3 rfl; have x4 := m0.cell_at 4 rfl; have x5 := m0.cell_at 5 rfl; have x6 := m0.cell_at 6 rfl; have x7 := m0.cell_at 7 rfl; have x8 := m0.cell_at 8 rfl; have x9 := m0.cell_at 9 rfl; have x10 := m0.cell_at 10 rfl; clear m0; have m3 := HRb.out W hU5; have b0 := m3.cell_at 0 rfl; have b1 := m3.cell_at 1 rfl; clear m3; have m4 := HUc2.out W hW; have c0 := m4.cell_at 0 rfl; have c1 := m4.cell_at 1 rfl; clear m4 hU5 hQ5; go_simp; first | done | rfl)) (fun W hW => K22.out W (HBS.out W hW)) ?_; simp only [Act.put, List.setIfInBounds_toArray, List.set_cons_zero, List.set_cons_succ]) | (refine mix_call _ _ _ (by rfl) (fun W hW => by (have hW := HBS.out W hW; have hU5 := HUr.out W hW; have hQ5 := HRq.out W hU5; have m0 := HQl.out W hQ5; have x0 := m0.cell_at 0 rfl; have x1 := m0.cell_at 1 rfl; have x2 := m0.cell_at 2 rfl; have x3 := m0.cell_at 3 rfl; have x4 := m0.cell_at 4 rfl; have x5 := m0.cell_at 5 rfl; have x6 := m0.cell_at 6 rfl; have x7 := m0.cell_at 7 rfl; have x8 := m0.cell_at 8 rfl; have x9 := m0.cell_at 9 rfl; have x10 := m0.cell_at 10 rfl; clear m0; have m3 := HRb.out W hU5; have b0 := m3.cell_at 0 rfl; have b1 := m3.cell_at 1 rfl; clear m3; have m4 := HUc2.out W hW; have c0 := m4.cell_at 0 rfl; have c1 := m4.cell_at 1 rfl; clear m4 hU5 hQ5; go_simp; first | done | rfl)) (fun W hW => K4.out W (HBS.out W hW)) ?_; simp only [Act.put, List.setIfInBounds_toArray, List.set_cons_zero, List.set_cons_succ]))
    refine mix_nil (fun W hW => ?_)
    have hU := HBS.out W hW
    have HF := Lib.hid (HQb.out _ (HRq.out _ (HUr.out _ hU)))
    clear hW HBS hU
    go_wp2_with fail
    go_ret
    exact ⟨rfl, HF.out⟩
  by_cases h0 : n1 < 0
  · have d0 := decide_eq_true h0
    have HBS : Hid (∀ W, Below W6.heap.size W6 W → U W) := Lib.hid (fun W hB => HUc.out _ _ hu hB)
    clear hu
    refine region_mix (Below W6.heap.size W6) [(0, false), (1, false), (2, false), (3, false), (4, false), (5, false), (6, false), (7, false), (8, false), (9, false), (10, false), (11, false), (12, false), (13, false), (14, false), (15, false), (16, false), (17, false), (18, false), (19, false), (20, false), (21, false), (22, false), (23, false), (24, false), (25, false)] (by kernel_rfl) (by kernel_rfl) (Below W6.heap.size W6) ⟨Closed.below W6, fun _ h => h⟩ (Below.refl _ _).drew ?_
    simp only [pickOps, List.getElem?_cons_zero, List.getElem?_cons_succ]
    repeat (first | (refine mix_skip (by rfl) ?_; simp only [Act.put, List.setIfInBounds_toArray, List.set_cons_zero, List.set_cons_succ]) | (refine mix_read _ (by rfl) (fun W hW => by (have hW := HBS.out W hW; have hU5 := HUr.out W hW; have hQ5 := HRq.out W hU5; have m0 := HQl.out W hQ5; have x0 := m0.cell_at 0 rfl; have x1 := m0.cell_at 1 rfl; have x2 := m0.cell_at 2 rfl; have x3 := m0.cell_at 3 rfl; have x4 := m0.cell_at 4 rfl; have x5 := m0.cell_at 5 rfl; have x6 := m0.cell_at 6 rfl; have x7 := m0.cell_at 7 rfl; have x8 := m0.cell_at 8 rfl; have x9 := m0.cell_at 9 rfl; have x10 := m0.cell_at 10 rfl; clear m0; have m3 := HRb.out W hU5; have b0 := m3.cell_at 0 rfl; have b1 := m3.cell_at 1 rfl; clear m3; have m4 := HUc2.out W hW; have c0 := m4.cell_at 0 rfl; have c1 := m4.cell_at 1 rfl; clear m4 hU5 hQ5; go_simp; first | done | with_reducible rfl)) ?_; simp only [Act.put, List.setIfInBounds_toArray, List.set_cons_zero, List.set_cons_succ]) | (refine mix_call _ _ _ (by rfl) (fun W hW => by (have hW := HBS.out W hW; have hU5 := HUr.out W hW; have hQ5 := HRq.out W hU5; have m0 := HQl.out W hQ5; have x0 := m0.cell_at 0 rfl; have x1 := m0.cell_at 1 rfl; have x2 := m0.cell_at 2 rfl; have x3 := m0.cell_at 3 rfl; have x4 := m0.cell_at 4 rfl; have x5 := m0.cell_at 5 rfl; have x6 := m0.cell_at 6 rfl; have x7 := m0.cell_at 7 rfl; have x8 := m0.cell_at 8 rfl; have x9 := m0.cell_at 9 rfl; have x10 := m0.cell_at 10 rfl; clear m0; have m3 := HRb.out W hU5; have b0 := m3.cell_at 0 rfl; have b1 := m3.cell_at 1 rfl; clear m3; have m4 := HUc2.out W hW; have c0 := m4.cell_at 0 rfl; have c1 := m4.cell_at 1 rfl; clear m4 hU5 hQ5; go_simp; first | done | rfl)) (fun W hW => K1.out W (HBS.out W hW)) ?_; simp only [Act.put, List.setIfInBounds_toArray, List.set_cons_zero, List.set_cons_succ]) | (refine mix_call _ _ _ (by rfl) (fun W hW => by (have hW := HBS.out W hW; have hU5 := HUr.out W hW; have hQ5 := HRq.out W hU5; have m0 := HQl.out W hQ5; have x0 := m0.cell_at 0 rfl; have x1 := m0.cell_at 1 rfl; have x2 := m0.cell_at 2 rfl; have x3 := m0.cell_at 3 rfl; have x4 := m0.cell_at 4 rfl; have x5 := m0.cell_at 5 rfl; have x6 := m0.cell_at 6 rfl; have x7 := m0.cell_at 7 rfl; have x8 := m0.cell_at 8 rfl; have x9 := m0.cell_at 9 rfl; have x10 := m0.cell_at 10 rfl; clear m0; have m3 := HRb.out W hU5; have b0 := m3.cell_at 0 rfl; have b1 := m3.cell_at 1 rfl; clear m3; have m4 := HUc2.out W hW; have c0 := m4.cell_at 0 rfl; have c1 := m4.cell_at 1 rfl; clear m4 hU5 hQ5; go_simp; first | done | rfl)) (fun W hW => K22.out W (HBS.out W hW)) ?_; simp only [Act.put, List.setIfInBounds_toArray, List.set_cons_zero, List.set_cons_succ]) | (refine mix_call _ _ _ (by rfl) (fun W hW => by (have hW := HBS.out W hW; have hU5 := HUr.out W hW; have hQ5 := HRq.out W hU5; have m0 := HQl.out W hQ5; have x0 := m0.cell_at 0 rfl; have x1 := m0.cell_at 1 rfl; have x2 := m0.cell_at 2 rfl; have x3 := m0.cell_at 3 rfl; have x4 := m0.cell_at 4 rfl; have x5 := m0.cell_at 5 rfl; have x6 := m0.cell_at 6 rfl; have x7 := m0.cell_at 7 rfl; have x8 := m0.cell_at 8 rfl; have x9 := m0.cell_at 9 rfl; have x10 := m0.cell_at 10 rfl; clear m0; have m3 := HRb.out W hU5; have b0 := m3.cell_at 0 rfl; have b1 := m3.cell_at 1 rfl; clear m3; have m4 := HUc2.out W hW; have c0 := m4.cell_at 0 rfl; have c1 := m4.cell_at 1 rfl; clear m4 hU5 hQ5; go_simp; first | done | rfl)) (fun W hW => K4.out W (HBS.out W hW)) ?_; simp only [Act.put, List.setIfInBounds_toArray, List.set_cons_zero, List.set_cons_succ]))
    refine mix_nil (fun W hW => ?_)
    have hU := HBS.out W hW
    have HF := Lib.hid (HQb.out _ (HRq.out _ (HUr.out _ hU)))
    clear hW HBS hU
    go_wp2_with fail
    go_ret
    exact ⟨rfl, HF.out⟩
  · have d0 : decide (n1 < 0) = false := decide_eq_false h0
    have HB2 : Hid (beyondV l n1 n2 = (s, o)) := Lib.hid (right_back HRT.out HBV.out (by show 0 ≤ n1; omega))
    have K3 : Hid (∀ W, U W → Calls Tryd.prog 29 #[l.val, prtV n1 n2] W fun e w' => e = .returned (prtV s o) ∧ Below W.heap.size W w') := Lib.hid fun W hW => beyondJ_B (w := W) (HTW.out W (HRq.out W (HUr.out W hW))).2 n1 n2 HB2.out
    have hne2 : ∀ W : World, (binOp .eql 33 (prtV s o) (prtV s o)).run Tryd.prog W = .ok (.bool true) W := fun W => by rw [eql_prt]; simp
    have HBS : Hid (∀ W, Below W6.heap.size W6 W → U W) := Lib.hid (fun W hB => HUc.out _ _ hu hB)
    clear hu
    refine region_mix (Below W6.heap.size W6) [(0, false), (1, false), (2, false), (3, false), (4, false), (5, false), (6, false), (7, false), (8, false), (9, false), (10, false), (11, false), (12, false), (13, false), (14, false), (15, false), (16, false), (17, false), (18, false), (19, false), (20, false), (21, false), (22, false), (23, false), (24, false), (25, false)] (by kernel_rfl) (by kernel_rfl) (Below W6.heap.size W6) ⟨Closed.below W6, fun _ h => h⟩ (Below.refl _ _).drew ?_
    simp only [pickOps, List.getElem?_cons_zero, List.getElem?_cons_succ]
    repeat (first | (refine mix_skip (by rfl) ?_; simp only [Act.put, List.setIfInBounds_toArray, List.set_cons_zero, List.set_cons_succ]) | (refine mix_read _ (by rfl) (fun W hW => by (have hW := HBS.out W hW; have hU5 := HUr.out W hW; have hQ5 := HRq.out W hU5; have m0 := HQl.out W hQ5; have x0 := m0.cell_at 0 rfl; have x1 := m0.cell_at 1 rfl; have x2 := m0.cell_at 2 rfl; have x3 := m0.cell_at 3 rfl; have x4 := m0.cell_at 4 rfl; have x5 := m0.cell_at 5 rfl; have x6 := m0.cell_at 6 rfl; have x7 := m0.cell_at 7 rfl; have x8 := m0.cell_at 8 rfl; have x9 := m0.cell_at 9 rfl; have x10 := m0.cell_at 10 rfl; clear m0; have m3 := HRb.out W hU5; have b0 := m3.cell_at 0 rfl; have b1 := m3.cell_at 1 rfl; clear m3; have m4 := HUc2.out W hW; have c0 := m4.cell_at 0 rfl; have c1 := m4.cell_at 1 rfl; clear m4 hU5 hQ5; go_simp; first | done | with_reducible rfl)) ?_; simp only [Act.put, List.setIfInBounds_toArray, List.set_cons_zero, List.set_cons_succ]) | (refine mix_call _ _ _ (by rfl) (fun W hW => by (have hW := HBS.out W hW; have hU5 := HUr.out W hW; have hQ5 := HRq.out W hU5; have m0 := HQl.out W hQ5; have x0 := m0.cell_at 0 rfl; have x1 := m0.cell_at 1 rfl; have x2 := m0.cell_at 2 rfl; have x3 := m0.cell_at 3 rfl; have x4 := m0.cell_at 4 rfl; have x5 := m0.cell_at 5 rfl; have x6 := m0.cell_at 6 rfl; have x7 := m0.cell_at 7 rfl; have x8 := m0.cell_at 8 rfl; have x9 := m0.cell_at 9 rfl; have x10 := m0.cell_at 10 rfl; clear m0; have m3 := HRb.out W hU5; have b0 := m3.cell_at 0 rfl; have b1 := m3.cell_at 1 rfl; clear m3; have m4 := HUc2.out W hW; have c0 := m4.cell_at 0 rfl; have c1 := m4.cell_at 1 rfl; clear m4 hU5 hQ5; go_simp; first | done | rfl)) (fun W hW => K1.out W (HBS.out W hW)) ?_; simp only [Act.put, List.setIfInBounds_toArray, List.set_cons_zero, List.set_cons_succ]) | (refine mix_call _ _ _ (by rfl) (fun W hW => by (have hW := HBS.out W hW; have hU5 := HUr.out W hW; have hQ5 := HRq.out W hU5; have m0 := HQl.out W hQ5; have x0 := m0.cell_at 0 rfl; have x1 := m0.cell_at 1 rfl; have x2 := m0.cell_at 2 rfl; have x3 := m0.cell_at 3 rfl; have x4 := m0.cell_at 4 rfl; have x5 := m0.cell_at 5 rfl; have x6 := m0.cell_at 6 rfl; have x7 := m0.cell_at 7 rfl; have x8 := m0.cell_at 8 rfl; have x9 := m0.cell_at 9 rfl; have x10 := m0.cell_at 10 rfl; clear m0; have m3 := HRb.out W hU5; have b0 := m3.cell_at 0 rfl; have b1 := m3.cell_at 1 rfl; clear m3; have m4 := HUc2.out W hW; have c0 := m4.cell_at 0 rfl; have c1 := m4.cell_at 1 rfl; clear m4 hU5 hQ5; go_simp; first | done | rfl)) (fun W hW => K22.out W (HBS.out W hW)) ?_; simp only [Act.put, List.setIfInBounds_toArray, List.set_cons_zero, List.set_cons_succ]) | (refine mix_call _ _ _ (by rfl) (fun W hW => by (have hW := HBS.out W hW; have hU5 := HUr.out W hW; have hQ5 := HRq.out W hU5; have m0 := HQl.out W hQ5; have x0 := m0.cell_at 0 rfl; have x1 := m0.cell_at 1 rfl; have x2 := m0.cell_at 2 rfl; have x3 := m0.cell_at 3 rfl; have x4 := m0.cell_at 4 rfl; have x5 := m0.cell_at 5 rfl; have x6 := m0.cell_at 6 rfl; have x7 := m0.cell_at 7 rfl; have x8 := m0.cell_at 8 rfl; have x9 := m0.cell_at 9 rfl; have x10 := m0.cell_at 10 rfl; clear m0; have m3 := HRb.out W hU5; have b0 := m3.cell_at 0 rfl; have b1 := m3.cell_at 1 rfl; clear m3; have m4 := HUc2.out W hW; have c0 := m4.cell_at 0 rfl; have c1 := m4.cell_at 1 rfl; clear m4 hU5 hQ5; go_simp; first | done | rfl)) (fun W hW => K3.out W (HBS.out W hW)) ?_; simp only [Act.put, List.setIfInBounds_toArray, List.set_cons_zero, List.set_cons_succ]) | (refine mix_call _ _ _ (by rfl) (fun W hW => by (have hW := HBS.out W hW; have hU5 := HUr.out W hW; have hQ5 := HRq.out W hU5; have m0 := HQl.out W hQ5; have x0 := m0.cell_at 0 rfl; have x1 := m0.cell_at 1 rfl; have x2 := m0.cell_at 2 rfl; have x3 := m0.cell_at 3 rfl; have x4 := m0.cell_at 4 rfl; have x5 := m0.cell_at 5 rfl; have x6 := m0.cell_at 6 rfl; have x7 := m0.cell_at 7 rfl; have x8 := m0.cell_at 8 rfl; have x9 := m0.cell_at 9 rfl; have x10 := m0.cell_at 10 rfl; clear m0; have m3 := HRb.out W hU5; have b0 := m3.cell_at 0 rfl; have b1 := m3.cell_at 1 rfl; clear m3; have m4 := HUc2.out W hW; have c0 := m4.cell_at 0 rfl; have c1 := m4.cell_at 1 rfl; clear m4 hU5 hQ5; go_simp; first | done | rfl)) (fun W hW => K4.out W (HBS.out W hW)) ?_; simp only [Act.put, List.setIfInBounds_toArray, List.set_cons_zero, List.set_cons_succ]))
    refine mix_nil (fun W hW => ?_)
    have hU := HBS.out W hW
    have HF := Lib.hid (HQb.out _ (HRq.out _ (HUr.out _ hU)))
    clear hW HBS hU
    go_wp2_with fail
    go_ret
    exact ⟨rfl, HF.out⟩
end Go.Proofs.YthjnhigcheakaaaDoor
