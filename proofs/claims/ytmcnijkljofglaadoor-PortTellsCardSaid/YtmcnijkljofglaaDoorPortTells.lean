/- The walk of PortTells: the program's answers are the document's. -/
import Derived.Test.YtmcnijkljofglaaDoorPortT
import Derived.Test.YtmcnijkljofglaaDoorSteady2
import Derived.Deep.CutRange
namespace Go.Proofs.YtmcnijkljofglaaDoor
open Go.RowKit Go.Shelf
set_option linter.unusedVariables false
set_option linter.unusedSimpArgs false

set_option maxRecDepth 100000 in
set_option maxHeartbeats 16000000 in
theorem portTells_walk (k s0 q0 s1 q1 s2 q2 s3 q3 c0 c1 ts ti tz sp qp y : Int) (w : World) (h0 : 0 ≤ k ∧ k ≤ 255) (hT : Shapes w) :
    Calls Tryd.prog 3 #[secV k s0 q0 s1 q1 s2 q2 s3 q3 c0 c1, .agg #[.int .i64 ts, .int .i64 ti, .int .i64 tz], .agg #[.int .i64 sp, .int .i64 qp], .int .i64 y] w fun e w' => e = .returned (.bool true) ∧ Below w.heap.size w w' := by
  obtain ⟨p, n, a, b, c, d, hs⟩ := shape_of k
  obtain ⟨P, HP, HPs, HPb, hp⟩ := keep_first hT
  obtain ⟨hk0, hk1⟩ := h0
  obtain ⟨W0, hW0, hw1, hw2, hw3, hp0⟩ : ∃ W0, ((w.alloc (.cells #[.int .u8 k, .int .i64 s0, .int .i64 q0, .int .i64 s1, .int .i64 q1, .int .i64 s2, .int .i64 q2, .int .i64 s3, .int .i64 q3, .int .i64 c0, .int .i64 c1] 27)).alloc (.cells #[.int .i64 ts, .int .i64 ti, .int .i64 tz] 29)).alloc (.cells #[.int .i64 sp, .int .i64 qp] 23) = W0 ∧ Whole W0 w.heap.size 27 [.int .u8 k, .int .i64 s0, .int .i64 q0, .int .i64 s1, .int .i64 q1, .int .i64 s2, .int .i64 q2, .int .i64 s3, .int .i64 q3, .int .i64 c0, .int .i64 c1] ∧ Whole W0 (w.heap.size + 1) 29 [.int .i64 ts, .int .i64 ti, .int .i64 tz] ∧ Whole W0 (w.heap.size + 1 + 1) 23 [.int .i64 sp, .int .i64 qp] ∧ P W0 :=
    ⟨_, rfl, ((Whole.new w _ [_, _, _, _, _, _, _, _, _, _, _]).alloc _).alloc _, (Whole.new_at _ _ [_, _, _] _ (by simp)).alloc _, Whole.new_at _ _ [_, _] _ (by simp), HP.out _ _ hp (below3 w _ _ _)⟩
  obtain ⟨Q1, HQ1, HQ1p, HQ1w, hQ1⟩ := keep_whole HP.out hp0 hw1
  obtain ⟨Q2, HQ2, HQ2p, HQ2w, hQ2⟩ := keep_whole HQ1.out hQ1 hw2
  obtain ⟨Q, HQ, HQ3p, HQv, hq⟩ := keep_whole HQ2.out hQ2 hw3
  have HQs : Hid (∀ W, Q W → Whole W (w.heap.size + 1) 29 [.int .i64 ts, .int .i64 ti, .int .i64 tz]) := Lib.hid fun W h => HQ2w.out _ (HQ3p.out _ h)
  have HQw : Hid (∀ W, Q W → Whole W w.heap.size 27 [.int .u8 k, .int .i64 s0, .int .i64 q0, .int .i64 s1, .int .i64 q1, .int .i64 s2, .int .i64 q2, .int .i64 s3, .int .i64 q3, .int .i64 c0, .int .i64 c1]) := Lib.hid fun W h => HQ1w.out _ (HQ2p.out _ (HQ3p.out _ h))
  have HQb : Hid (∀ W, Q W → Below w.heap.size w W) := Lib.hid fun W h => HPb.out _ (HQ1p.out _ (HQ2p.out _ (HQ3p.out _ h)))
  have HT : Hid (∀ W, Q W → Shapes W) := Lib.hid fun W h => HPs.out _ (HQ1p.out _ (HQ2p.out _ (HQ3p.out _ h)))
  have HW0 := Lib.hid hW0
  clear hW0 hw1 hw2 hw3 hp0 hp hT hQ1 hQ2 HQ1 HQ2 HQ1p HQ2p HQ3p HQ1w HQ2w
  obtain ⟨ea, hea⟩ : ∃ v, endA n a c y = v := ⟨_, rfl⟩
  obtain ⟨eb, heb⟩ : ∃ v, endA n b d y = v := ⟨_, rfl⟩
  obtain ⟨eh, heh⟩ : ∃ v, hasV n y = v := ⟨_, rfl⟩
  obtain ⟨wv, hwv⟩ : ∃ v, wayV n a b c d ti tz = v := ⟨_, rfl⟩
  obtain ⟨wg, hwg⟩ : ∃ v, goesV n a b c d ti tz = v := ⟨_, rfl⟩
  obtain ⟨wp, hwp⟩ : ∃ v, posV k n a b c d ti tz = v := ⟨_, rfl⟩
  obtain ⟨l, hl⟩ : ∃ v, outsTo n a b c d ti p.toNat = v := ⟨_, rfl⟩
  obtain ⟨mv, hmv⟩ : ∃ v, mayV sp qp = v := ⟨_, rfl⟩
  obtain ⟨rv, hrv⟩ : ∃ v, rightV p n s0 q0 s1 q1 s2 q2 s3 q3 c0 c1 = v := ⟨_, rfl⟩
  have HL : Hid (l.length ≤ 1000) := Lib.hid (by have := outsTo_le n a b c d ti p.toNat; have := isShape_p hs; rw [← hl]; omega)
  have K1 := Lib.hid (fun W h => ends_P (P := Q) (w := W) HQ.out HT.out k y hk0 hk1 hs hea heb heh h)
  have K2 := Lib.hid (fun W h => endsR_P (P := Q) (w := W) y hs hea heb heh h)
  have K3 := Lib.hid (fun W h => way_P (P := Q) (w := W) HQ.out HT.out k ti tz hk0 hk1 hs hwv hwg h)
  have K4 := Lib.hid (fun W h => wayR_P (P := Q) (w := W) ti tz hs hwv hwg h)
  have K5 := Lib.hid (fun W h => ports_P (P := Q) (w := W) HQ.out HT.out hk0 hk1 hs h)
  have K6 := Lib.hid (fun W h => portsR_P (P := Q) (w := W) hs h)
  have K7 := Lib.hid (fun W h => ways_P (P := Q) (w := W) HQ.out HT.out hk0 hk1 hs h)
  have K8 := Lib.hid (fun W h => waysR_P (P := Q) (w := W) hs h)
  have K9 := Lib.hid (fun W h => pos_P (P := Q) (w := W) HQ.out HT.out k ti tz hk0 hk1 hs hwp hwg h)
  have K10 := Lib.hid (fun W h => posR_P (P := Q) (w := W) ti tz hs hwp hwg h)
  have K11 := Lib.hid (fun W h => outs_P (P := Q) (w := W) HQ.out HT.out k ti hk0 hk1 hs hl h)
  have K12 := Lib.hid (fun (R : World → Prop) hR W h => outsR_P (P := R) (w := W) (k := k) hR ti hs hl h)
  have K13 := Lib.hid (fun W h => may_Pr (P := Q) (w := W) HQ.out sp qp hmv h)
  have K14 := Lib.hid (fun W h => mayR_P (P := Q) (w := W) HQ.out sp qp hmv h)
  have K15 := Lib.hid (fun W h => right_Pr (P := Q) (w := W) HQ.out HT.out k s0 q0 s1 q1 s2 q2 s3 q3 c0 c1 hk0 hk1 hs hrv h)
  have K16 := Lib.hid (fun W h => rightR_P (P := Q) (w := W) HQ.out k s0 q0 s1 q1 s2 q2 s3 q3 c0 c1 hs hrv h)
  have K17 := Lib.hid (fun W h => wakes5_P (P := Q) (w := W) HQ.out HT.out h)
  clear hs hea heb heh hwv hwg hwp hl hmv hrv
  go_enter Tryd.func3, Tryd.ntmps3
  go_upto_region 1 with (fail)
  rw [HW0.out]
  have x0 := (HQw.out _ hq).cell_at 0 rfl
  have y1 := (HQs.out _ hq).cell_at 1 rfl
  have y2 := (HQs.out _ hq).cell_at 2 rfl
  go_wp2_with fail
  refine (K1.out _ hq).mono ?_
  clear x0 y1 y2 hq
  rintro e w1 ⟨rfl, hq⟩
  have x0 := (HQw.out _ hq).cell_at 0 rfl
  have y1 := (HQs.out _ hq).cell_at 1 rfl
  have y2 := (HQs.out _ hq).cell_at 2 rfl
  go_wp2_with fail
  refine (K2.out _ hq).mono ?_
  clear x0 y1 y2 hq
  rintro e w1 ⟨rfl, hq⟩
  have x0 := (HQw.out _ hq).cell_at 0 rfl
  have y1 := (HQs.out _ hq).cell_at 1 rfl
  have y2 := (HQs.out _ hq).cell_at 2 rfl
  go_wp2_with fail
  refine (K3.out _ hq).mono ?_
  clear x0 y1 y2 hq
  rintro e w1 ⟨rfl, hq⟩
  have x0 := (HQw.out _ hq).cell_at 0 rfl
  have y1 := (HQs.out _ hq).cell_at 1 rfl
  have y2 := (HQs.out _ hq).cell_at 2 rfl
  go_wp2_with fail
  refine (K4.out _ hq).mono ?_
  clear x0 y1 y2 hq
  rintro e w1 ⟨rfl, hq⟩
  have HS := Lib.hid (HQ.out.drew hq)
  clear hq
  go_wp2_with fail
  refine region_steady (Q) 40 (by kernel_rfl) (by kernel_rfl) HS.out ?_
  simp only [List.take_succ_cons, List.take_zero, List.drop_succ_cons, List.drop_zero]
  repeat (first | (refine steady_skip (by rfl) ?_; simp only [Act.put, List.setIfInBounds_toArray, List.set_cons_zero, List.set_cons_succ]) | (refine steady_read _ (by rfl) (fun W hW => by (have m1 := HQw.out _ hW; have x0 := m1.cell_at 0 rfl; clear m1; go_simp; first | done | with_reducible rfl)) ?_; simp only [Act.put, List.setIfInBounds_toArray, List.set_cons_zero, List.set_cons_succ]) | (refine steady_call _ _ _ (by rfl) (fun W hW => by (have m1 := HQw.out _ hW; have x0 := m1.cell_at 0 rfl; clear m1; go_simp; first | done | rfl)) (fun W hW => K5.out _ hW) ?_; simp only [Act.put, List.setIfInBounds_toArray, List.set_cons_zero, List.set_cons_succ]) | (refine steady_call _ _ _ (by rfl) (fun W hW => by (have m1 := HQw.out _ hW; have x0 := m1.cell_at 0 rfl; clear m1; go_simp; first | done | rfl)) (fun W hW => K6.out _ hW) ?_; simp only [Act.put, List.setIfInBounds_toArray, List.set_cons_zero, List.set_cons_succ]) | (refine steady_call _ _ _ (by rfl) (fun W hW => by (have m1 := HQw.out _ hW; have x0 := m1.cell_at 0 rfl; clear m1; go_simp; first | done | rfl)) (fun W hW => K7.out _ hW) ?_; simp only [Act.put, List.setIfInBounds_toArray, List.set_cons_zero, List.set_cons_succ]) | (refine steady_call _ _ _ (by rfl) (fun W hW => by (have m1 := HQw.out _ hW; have x0 := m1.cell_at 0 rfl; clear m1; go_simp; first | done | rfl)) (fun W hW => K8.out _ hW) ?_; simp only [Act.put, List.setIfInBounds_toArray, List.set_cons_zero, List.set_cons_succ]))
  refine steady_nil (fun W hW => ?_)
  clear HS
  have hq := hW
  have x0 := (HQw.out _ hq).cell_at 0 rfl
  have y1 := (HQs.out _ hq).cell_at 1 rfl
  have y2 := (HQs.out _ hq).cell_at 2 rfl
  go_wp2_with fail
  refine (K9.out _ hq).mono ?_
  clear x0 y1 y2 hq
  rintro e w1 ⟨rfl, hq⟩
  have x0 := (HQw.out _ hq).cell_at 0 rfl
  have y1 := (HQs.out _ hq).cell_at 1 rfl
  have y2 := (HQs.out _ hq).cell_at 2 rfl
  go_wp2_with fail
  refine (K10.out _ hq).mono ?_
  clear x0 y1 y2 hq
  rintro e w2 ⟨rfl, hq⟩
  have hHeld := HQ.out.drew hq
  clear hq hW
  go_wp2_with fail
  refine wp_region_held_drew (S := Q) (by kernel_rfl) hHeld (fun _ => ?_)
  refine wpAnyH_take (i := 0) (oi := ⟨some 116, _, _, _, _, _⟩) (v := .pointer (some ⟨w.heap.size, 0, none⟩)) rfl (by kernel_rfl) (by kernel_rfl) (by kernel_rfl) (fun _ _ _ h => h) (Or.inl ⟨rfl, fun w hS => rfl⟩) hHeld ?_
  simp only [Act.put, List.setIfInBounds_toArray, List.set_cons_zero, List.set_cons_succ]
  refine wpAnyH_take (i := 1) (oi := ⟨some 117, _, _, _, _, _⟩) (v := .int .u8 k) rfl (by kernel_rfl) (by kernel_rfl) (by kernel_rfl) (fun _ _ _ h => h) (Or.inl ⟨rfl, fun W hW => by have m1 := HQw.out _ hW; have x0 := m1.cell_at 0 rfl; clear m1; go_simp⟩) hHeld ?_
  simp only [Act.put, List.setIfInBounds_toArray, List.set_cons_zero, List.set_cons_succ]
  refine wpAnyH_take (i := 2) (oi := ⟨some 118, _, _, _, _, _⟩) (v := .pointer (some ⟨w.heap.size + 1, 1, none⟩)) rfl (by kernel_rfl) (by kernel_rfl) (by kernel_rfl) (fun _ _ _ h => h) (Or.inl ⟨rfl, fun w hS => rfl⟩) hHeld ?_
  simp only [Act.put, List.setIfInBounds_toArray, List.set_cons_zero, List.set_cons_succ]
  refine wpAnyH_take (i := 3) (oi := ⟨some 119, _, _, _, _, _⟩) (v := .int .i64 ti) rfl (by kernel_rfl) (by kernel_rfl) (by kernel_rfl) (fun _ _ _ h => h) (Or.inl ⟨rfl, fun W hW => by have m1 := HQs.out _ hW; have y1 := m1.cell_at 1 rfl; clear m1; go_simp⟩) hHeld ?_
  simp only [Act.put, List.setIfInBounds_toArray, List.set_cons_zero, List.set_cons_succ]
  refine wpAnyH_take (i := 5) (oi := ⟨some 121, _, _, _, _, _⟩) (v := .pointer (some ⟨w.heap.size, 0, none⟩)) rfl (by kernel_rfl) (by kernel_rfl) (by kernel_rfl) (fun _ _ _ h => h) (Or.inl ⟨rfl, fun w hS => rfl⟩) hHeld ?_
  simp only [Act.put, List.setIfInBounds_toArray, List.set_cons_zero, List.set_cons_succ]
  refine wpAnyH_take (i := 6) (oi := ⟨some 122, _, _, _, _, _⟩) (v := .int .u8 k) rfl (by kernel_rfl) (by kernel_rfl) (by kernel_rfl) (fun _ _ _ h => h) (Or.inl ⟨rfl, fun W hW => by have m1 := HQw.out _ hW; have x0 := m1.cell_at 0 rfl; clear m1; go_simp⟩) hHeld ?_
  simp only [Act.put, List.setIfInBounds_toArray, List.set_cons_zero, List.set_cons_succ]
  refine wpAnyH_take (i := 7) (oi := ⟨some 123, _, _, _, _, _⟩) (v := .pointer (some ⟨w.heap.size + 1, 1, none⟩)) rfl (by kernel_rfl) (by kernel_rfl) (by kernel_rfl) (fun _ _ _ h => h) (Or.inl ⟨rfl, fun w hS => rfl⟩) hHeld ?_
  simp only [Act.put, List.setIfInBounds_toArray, List.set_cons_zero, List.set_cons_succ]
  refine wpAnyH_take (i := 8) (oi := ⟨some 124, _, _, _, _, _⟩) (v := .int .i64 ti) rfl (by kernel_rfl) (by kernel_rfl) (by kernel_rfl) (fun _ _ _ h => h) (Or.inl ⟨rfl, fun W hW => by have m1 := HQs.out _ hW; have y1 := m1.cell_at 1 rfl; clear m1; go_simp⟩) hHeld ?_
  simp only [Act.put, List.setIfInBounds_toArray, List.set_cons_zero, List.set_cons_succ]
  refine wpAnyH_ready (rs := [4]) (by kernel_rfl) (by simp) ?_
  refine AllReadyH.cons rfl (fun K hK => ?_) AllReadyH.nil
  go_simp
  refine (K11.out _ hHeld).mono ?_
  rintro e w3 ⟨A, ca, rfl, hca, hrA, hq3⟩
  refine hK.out _ _ hq3 (fun _ => ?_)
  clear hK K hHeld
  try simp only [Act.put, List.setIfInBounds_toArray, List.set_cons_zero, List.set_cons_succ]
  refine wpAnyH_ready (rs := [9]) (by kernel_rfl) (by simp) ?_
  refine AllReadyH.cons rfl (fun K hK => ?_) AllReadyH.nil
  go_simp
  refine (K12.out (fun W => Q W ∧ Row W W.heap.size A (nums .i64 l)) (HQ.out.and (Closed.row A _)) _ ⟨hq3, hrA⟩).mono ?_
  clear hrA hq3
  rintro e w4 ⟨B, cb, rfl, hcb, hrB, hq4, hrA⟩
  refine hK.out _ _ hq4 (fun _ => ?_)
  clear hK K
  try simp only [Act.put, List.setIfInBounds_toArray, List.set_cons_zero, List.set_cons_succ]
  refine wpAnyH_ready (rs := [10]) (by kernel_rfl) (by simp) ?_
  refine AllReadyH.cons rfl (fun K hK => ?_) AllReadyH.nil
  go_simp
  refine (same5_P HQ.out A B ca cb l hrA hrB HL.out hq4).mono ?_
  clear hrA hrB hq4
  rintro e w5 ⟨rfl, hq5⟩
  refine hK.out _ _ hq5 (fun _ => ?_)
  clear hK K
  try simp only [Act.put, List.setIfInBounds_toArray, List.set_cons_zero, List.set_cons_succ]
  refine held_steady 11 (by kernel_rfl) (by rfl) (by kernel_rfl) hq5 ?_
  clear hq5
  simp only [List.drop_succ_cons, List.drop_zero]
  repeat (first | (refine steady_skip (by rfl) ?_; simp only [Act.put, List.setIfInBounds_toArray, List.set_cons_zero, List.set_cons_succ]) | (refine steady_read _ (by rfl) (fun W hW => by (have m1 := HQw.out _ hW; have m2 := HQs.out _ hW; have m3 := HQv.out _ hW; have x0 := m1.cell_at 0 rfl; have x1 := m1.cell_at 1 rfl; have x2 := m1.cell_at 2 rfl; have x3 := m1.cell_at 3 rfl; have x4 := m1.cell_at 4 rfl; have x5 := m1.cell_at 5 rfl; have x6 := m1.cell_at 6 rfl; have x7 := m1.cell_at 7 rfl; have x8 := m1.cell_at 8 rfl; have x9 := m1.cell_at 9 rfl; have x10 := m1.cell_at 10 rfl; have y0 := m2.cell_at 0 rfl; have y1 := m2.cell_at 1 rfl; have y2 := m2.cell_at 2 rfl; have z0 := m3.cell_at 0 rfl; have z1 := m3.cell_at 1 rfl; clear m1 m2 m3; go_simp; first | done | with_reducible rfl)) ?_; simp only [Act.put, List.setIfInBounds_toArray, List.set_cons_zero, List.set_cons_succ]) | (refine steady_call _ _ _ (by rfl) (fun W hW => by (have m1 := HQw.out _ hW; have m2 := HQs.out _ hW; have m3 := HQv.out _ hW; have x0 := m1.cell_at 0 rfl; have x1 := m1.cell_at 1 rfl; have x2 := m1.cell_at 2 rfl; have x3 := m1.cell_at 3 rfl; have x4 := m1.cell_at 4 rfl; have x5 := m1.cell_at 5 rfl; have x6 := m1.cell_at 6 rfl; have x7 := m1.cell_at 7 rfl; have x8 := m1.cell_at 8 rfl; have x9 := m1.cell_at 9 rfl; have x10 := m1.cell_at 10 rfl; have y0 := m2.cell_at 0 rfl; have y1 := m2.cell_at 1 rfl; have y2 := m2.cell_at 2 rfl; have z0 := m3.cell_at 0 rfl; have z1 := m3.cell_at 1 rfl; clear m1 m2 m3; go_simp; first | done | rfl)) (fun W hW => turned_P HQ.out ts ti tz hW) ?_; simp only [Act.put, List.setIfInBounds_toArray, List.set_cons_zero, List.set_cons_succ]) | (refine steady_call _ _ _ (by rfl) (fun W hW => by (have m1 := HQw.out _ hW; have m2 := HQs.out _ hW; have m3 := HQv.out _ hW; have x0 := m1.cell_at 0 rfl; have x1 := m1.cell_at 1 rfl; have x2 := m1.cell_at 2 rfl; have x3 := m1.cell_at 3 rfl; have x4 := m1.cell_at 4 rfl; have x5 := m1.cell_at 5 rfl; have x6 := m1.cell_at 6 rfl; have x7 := m1.cell_at 7 rfl; have x8 := m1.cell_at 8 rfl; have x9 := m1.cell_at 9 rfl; have x10 := m1.cell_at 10 rfl; have y0 := m2.cell_at 0 rfl; have y1 := m2.cell_at 1 rfl; have y2 := m2.cell_at 2 rfl; have z0 := m3.cell_at 0 rfl; have z1 := m3.cell_at 1 rfl; clear m1 m2 m3; go_simp; first | done | rfl)) (fun W hW => turnedR_P HQ.out ts ti tz hW) ?_; simp only [Act.put, List.setIfInBounds_toArray, List.set_cons_zero, List.set_cons_succ]) | (refine steady_call _ _ _ (by rfl) (fun W hW => by (have m1 := HQw.out _ hW; have m2 := HQs.out _ hW; have m3 := HQv.out _ hW; have x0 := m1.cell_at 0 rfl; have x1 := m1.cell_at 1 rfl; have x2 := m1.cell_at 2 rfl; have x3 := m1.cell_at 3 rfl; have x4 := m1.cell_at 4 rfl; have x5 := m1.cell_at 5 rfl; have x6 := m1.cell_at 6 rfl; have x7 := m1.cell_at 7 rfl; have x8 := m1.cell_at 8 rfl; have x9 := m1.cell_at 9 rfl; have x10 := m1.cell_at 10 rfl; have y0 := m2.cell_at 0 rfl; have y1 := m2.cell_at 1 rfl; have y2 := m2.cell_at 2 rfl; have z0 := m3.cell_at 0 rfl; have z1 := m3.cell_at 1 rfl; clear m1 m2 m3; go_simp; first | done | rfl)) (fun W hW => K13.out _ hW) ?_; simp only [Act.put, List.setIfInBounds_toArray, List.set_cons_zero, List.set_cons_succ]) | (refine steady_call _ _ _ (by rfl) (fun W hW => by (have m1 := HQw.out _ hW; have m2 := HQs.out _ hW; have m3 := HQv.out _ hW; have x0 := m1.cell_at 0 rfl; have x1 := m1.cell_at 1 rfl; have x2 := m1.cell_at 2 rfl; have x3 := m1.cell_at 3 rfl; have x4 := m1.cell_at 4 rfl; have x5 := m1.cell_at 5 rfl; have x6 := m1.cell_at 6 rfl; have x7 := m1.cell_at 7 rfl; have x8 := m1.cell_at 8 rfl; have x9 := m1.cell_at 9 rfl; have x10 := m1.cell_at 10 rfl; have y0 := m2.cell_at 0 rfl; have y1 := m2.cell_at 1 rfl; have y2 := m2.cell_at 2 rfl; have z0 := m3.cell_at 0 rfl; have z1 := m3.cell_at 1 rfl; clear m1 m2 m3; go_simp; first | done | rfl)) (fun W hW => K14.out _ hW) ?_; simp only [Act.put, List.setIfInBounds_toArray, List.set_cons_zero, List.set_cons_succ]) | (refine steady_call _ _ _ (by rfl) (fun W hW => by (have m1 := HQw.out _ hW; have m2 := HQs.out _ hW; have m3 := HQv.out _ hW; have x0 := m1.cell_at 0 rfl; have x1 := m1.cell_at 1 rfl; have x2 := m1.cell_at 2 rfl; have x3 := m1.cell_at 3 rfl; have x4 := m1.cell_at 4 rfl; have x5 := m1.cell_at 5 rfl; have x6 := m1.cell_at 6 rfl; have x7 := m1.cell_at 7 rfl; have x8 := m1.cell_at 8 rfl; have x9 := m1.cell_at 9 rfl; have x10 := m1.cell_at 10 rfl; have y0 := m2.cell_at 0 rfl; have y1 := m2.cell_at 1 rfl; have y2 := m2.cell_at 2 rfl; have z0 := m3.cell_at 0 rfl; have z1 := m3.cell_at 1 rfl; clear m1 m2 m3; go_simp; first | done | rfl)) (fun W hW => K15.out _ hW) ?_; simp only [Act.put, List.setIfInBounds_toArray, List.set_cons_zero, List.set_cons_succ]) | (refine steady_call _ _ _ (by rfl) (fun W hW => by (have m1 := HQw.out _ hW; have m2 := HQs.out _ hW; have m3 := HQv.out _ hW; have x0 := m1.cell_at 0 rfl; have x1 := m1.cell_at 1 rfl; have x2 := m1.cell_at 2 rfl; have x3 := m1.cell_at 3 rfl; have x4 := m1.cell_at 4 rfl; have x5 := m1.cell_at 5 rfl; have x6 := m1.cell_at 6 rfl; have x7 := m1.cell_at 7 rfl; have x8 := m1.cell_at 8 rfl; have x9 := m1.cell_at 9 rfl; have x10 := m1.cell_at 10 rfl; have y0 := m2.cell_at 0 rfl; have y1 := m2.cell_at 1 rfl; have y2 := m2.cell_at 2 rfl; have z0 := m3.cell_at 0 rfl; have z1 := m3.cell_at 1 rfl; clear m1 m2 m3; go_simp; first | done | rfl)) (fun W hW => K16.out _ hW) ?_; simp only [Act.put, List.setIfInBounds_toArray, List.set_cons_zero, List.set_cons_succ]) | (refine steady_call _ _ _ (by rfl) (fun W hW => by (have m1 := HQw.out _ hW; have m2 := HQs.out _ hW; have m3 := HQv.out _ hW; have x0 := m1.cell_at 0 rfl; have x1 := m1.cell_at 1 rfl; have x2 := m1.cell_at 2 rfl; have x3 := m1.cell_at 3 rfl; have x4 := m1.cell_at 4 rfl; have x5 := m1.cell_at 5 rfl; have x6 := m1.cell_at 6 rfl; have x7 := m1.cell_at 7 rfl; have x8 := m1.cell_at 8 rfl; have x9 := m1.cell_at 9 rfl; have x10 := m1.cell_at 10 rfl; have y0 := m2.cell_at 0 rfl; have y1 := m2.cell_at 1 rfl; have y2 := m2.cell_at 2 rfl; have z0 := m3.cell_at 0 rfl; have z1 := m3.cell_at 1 rfl; clear m1 m2 m3; go_simp; first | done | rfl)) (fun W hW => K17.out _ hW) ?_; simp only [Act.put, List.setIfInBounds_toArray, List.set_cons_zero, List.set_cons_succ]))
  refine steady_nil (fun W hW => ?_)
  go_wp2_with fail
  go_ret
  exact ⟨rfl, HQb.out _ hW⟩
end Go.Proofs.YtmcnijkljofglaaDoor
