/- The walk of PortPos: the position of a way, both ways about. -/
import Derived.Test.YtmcnijkljofglaaDoorPortK
namespace Go.Proofs.YtmcnijkljofglaaDoor
open Go.RowKit Go.Shelf
set_option linter.unusedVariables false
set_option linter.unusedSimpArgs false

set_option maxRecDepth 100000 in
set_option maxHeartbeats 8000000 in
theorem portPos_walk (k s i o : Int) (w : World) (h0 : 0 ≤ k ∧ k ≤ 255) (hT : Shapes w) :
    Calls Tryd.prog 6 #[.int .u8 k, .agg #[.int .i64 s, .int .i64 i, .int .i64 o]] w fun e w' => e = .returned (.bool true) ∧ Below w.heap.size w w' := by
  obtain ⟨p, n, a, b, c, d, hs⟩ := shape_of k
  obtain ⟨P, HP, HPs, HPb, hp⟩ := keep_first hT
  obtain ⟨hk0, hk1⟩ := h0
  obtain ⟨v, hv⟩ : ∃ v, wayV n a b c d i o = v := ⟨_, rfl⟩
  obtain ⟨q, hq⟩ : ∃ v, posV k n a b c d i o = v := ⟨_, rfl⟩
  obtain ⟨r, hr⟩ : ∃ v, goesV n a b c d i o = v := ⟨_, rfl⟩
  have hcase : (r = false ∧ q = 0) ∨ (r = true ∧ k = 2 ∧ q = v) ∨ (r = true ∧ ¬ k = 2 ∧ q = -1) := by
    subst hv hq hr
    unfold posV
    cases h : goesV n a b c d i o
    · exact .inl ⟨rfl, rfl⟩
    · by_cases h2 : k = 2
      · exact .inr (.inl ⟨rfl, h2, by rw [if_pos rfl, if_pos h2]⟩)
      · exact .inr (.inr ⟨rfl, h2, by rw [if_pos rfl, if_neg h2]⟩)
  obtain ⟨W0, hW0, hwh, hp0⟩ : ∃ W0, w.alloc (.cells #[.int .i64 s, .int .i64 i, .int .i64 o] 29) = W0 ∧ Whole W0 w.heap.size 29 [.int .i64 s, .int .i64 i, .int .i64 o] ∧ P W0 := ⟨_, rfl, Whole.new w _ [_, _, _], HP.out _ _ hp (below1 w _)⟩
  obtain ⟨Q, HQ, HQp, HQw, hQ0⟩ := keep_whole HP.out hp0 hwh
  have HT : Hid (∀ W, Q W → Shapes W) := Lib.hid fun W h => HPs.out _ (HQp.out _ h)
  have HW := Lib.hid (fun w' h => way_P (w := w') HQ.out HT.out k i o hk0 hk1 hs hv hr h)
  have HX := Lib.hid (fun w' h => pos_P (w := w') HQ.out HT.out k i o hk0 hk1 hs hq hr h)
  have HY := Lib.hid (fun (R : World → Prop) (hR : Closed R) (hRs : ∀ W, R W → Shapes W) w' h => pos_P (w := w') hR hRs k o i hk0 hk1 hs ((posV_comm k n a b c d o i).trans hq) ((goesV_comm n a b c d o i).trans hr) h)
  have HW0 := Lib.hid hW0
  clear hs hv hq hr hT hW0 hwh hp0 hp
  rcases hcase with ⟨rfl, rfl⟩ | ⟨rfl, rfl, rfl⟩ | ⟨rfl, hk2, rfl⟩
  rotate_left 2
  · have hk2' : (k == 2) = false := by simpa using hk2
    have hk2n : (k != 2) = true := by simpa using hk2
    have HK2 := Lib.hid hk2
    clear hk2
    go_enter Tryd.func6, Tryd.ntmps6
    go_wp2_with fail
    rw [HW0.out]
    have m1 := HQw.out _ hQ0
    have c1 := m1.cell_at 1 rfl
    have c2 := m1.cell_at 2 rfl
    clear m1
    go_wp2_with fail
    refine (HW.out _ hQ0).mono ?_
    clear c1 c2
    rintro e w1 ⟨rfl, hQ1⟩
    have m1 := HQw.out _ hQ1
    have c1 := m1.cell_at 1 rfl
    have c2 := m1.cell_at 2 rfl
    clear m1
    go_wp2_with fail
    refine (HX.out _ hQ1).mono ?_
    clear c1 c2
    rintro e w2 ⟨rfl, hQ2⟩
    have m1 := HQw.out _ hQ2
    have c0 := m1.cell_at 0 rfl
    have c1 := m1.cell_at 1 rfl
    have c2 := m1.cell_at 2 rfl
    clear m1
    go_wp2_with fail
    refine (turned_P HQ.out s i o hQ2).mono ?_
    clear c0 c1 c2
    rintro e w3 ⟨rfl, hQ3⟩
    go_wp2_with fail
    obtain ⟨W4, hW4, hwh4, hQ4⟩ : ∃ W4, w3.alloc (.cells #[.int .i64 s, .int .i64 o, .int .i64 i] 29) = W4 ∧ Whole W4 w3.heap.size 29 [.int .i64 s, .int .i64 o, .int .i64 i] ∧ Q W4 := ⟨_, rfl, Whole.new w3 _ [_, _, _], HQ.out _ _ hQ3 (below1 w3 _)⟩
    obtain ⟨R, HR, HRq, HRw, hR4⟩ := keep_whole HQ.out hQ4 hwh4
    rw [hW4]
    clear hW4 hQ4 hwh4
    refine (HY.out R HR.out (fun W h => HT.out _ (HRq.out _ h)) _ hR4).mono ?_
    rintro e w5 ⟨rfl, hR5⟩
    have HS := Lib.hid (HR.out.drew hR5)
    go_wp2_with fail
    refine region_steady (R) 25 (by kernel_rfl) (by kernel_rfl) HS.out ?_
    simp only [List.take_succ_cons, List.take_zero, List.drop_succ_cons, List.drop_zero]
    repeat (first | (refine steady_skip (by rfl) ?_; simp only [Act.put, List.setIfInBounds_toArray, List.set_cons_zero, List.set_cons_succ]) | (refine steady_read _ (by rfl) (fun W hW => by (have m1 := HQw.out _ (HRq.out _ hW); have m2 := HRw.out _ hW; have c0 := m1.cell_at 0 rfl; have c1 := m1.cell_at 1 rfl; have c2 := m1.cell_at 2 rfl; have d0 := m2.cell_at 0 rfl; have d1 := m2.cell_at 1 rfl; have d2 := m2.cell_at 2 rfl; clear m1 m2; go_simp; first | done | with_reducible rfl)) ?_; simp only [Act.put, List.setIfInBounds_toArray, List.set_cons_zero, List.set_cons_succ]) | (refine steady_call _ _ _ (by rfl) (fun W hW => by (have m1 := HQw.out _ (HRq.out _ hW); have m2 := HRw.out _ hW; have c0 := m1.cell_at 0 rfl; have c1 := m1.cell_at 1 rfl; have c2 := m1.cell_at 2 rfl; have d0 := m2.cell_at 0 rfl; have d1 := m2.cell_at 1 rfl; have d2 := m2.cell_at 2 rfl; clear m1 m2; go_simp; first | done | rfl)) (fun W hW => turned_P HR.out s o i hW) ?_; simp only [Act.put, List.setIfInBounds_toArray, List.set_cons_zero, List.set_cons_succ]))
    refine steady_nil (fun W hW => ?_)
    go_wp2_with fail
    refine (wakes5_P HR.out (fun W h => HT.out _ (HRq.out _ h)) hW).mono ?_
    rintro e w6 ⟨rfl, hR6⟩
    go_wp2_with fail
    go_ret
    exact ⟨rfl, HPb.out _ (HQp.out _ (HRq.out _ hR6))⟩
  all_goals
    go_enter Tryd.func6, Tryd.ntmps6
    go_wp2_with fail
    rw [HW0.out]
    have m1 := HQw.out _ hQ0
    have c1 := m1.cell_at 1 rfl
    have c2 := m1.cell_at 2 rfl
    clear m1
    go_wp2_with fail
    refine (HW.out _ hQ0).mono ?_
    clear c1 c2
    rintro e w1 ⟨rfl, hQ1⟩
    have m1 := HQw.out _ hQ1
    have c1 := m1.cell_at 1 rfl
    have c2 := m1.cell_at 2 rfl
    clear m1
    go_wp2_with fail
    refine (HX.out _ hQ1).mono ?_
    clear c1 c2
    rintro e w2 ⟨rfl, hQ2⟩
    have m1 := HQw.out _ hQ2
    have c0 := m1.cell_at 0 rfl
    have c1 := m1.cell_at 1 rfl
    have c2 := m1.cell_at 2 rfl
    clear m1
    go_wp2_with fail
    refine (turned_P HQ.out s i o hQ2).mono ?_
    clear c0 c1 c2
    rintro e w3 ⟨rfl, hQ3⟩
    go_wp2_with fail
    obtain ⟨W4, hW4, hwh4, hQ4⟩ : ∃ W4, w3.alloc (.cells #[.int .i64 s, .int .i64 o, .int .i64 i] 29) = W4 ∧ Whole W4 w3.heap.size 29 [.int .i64 s, .int .i64 o, .int .i64 i] ∧ Q W4 := ⟨_, rfl, Whole.new w3 _ [_, _, _], HQ.out _ _ hQ3 (below1 w3 _)⟩
    obtain ⟨R, HR, HRq, HRw, hR4⟩ := keep_whole HQ.out hQ4 hwh4
    rw [hW4]
    clear hW4 hQ4 hwh4
    refine (HY.out R HR.out (fun W h => HT.out _ (HRq.out _ h)) _ hR4).mono ?_
    rintro e w5 ⟨rfl, hR5⟩
    have HS := Lib.hid (HR.out.drew hR5)
    go_wp2_with fail
    refine region_steady (R) 25 (by kernel_rfl) (by kernel_rfl) HS.out ?_
    simp only [List.take_succ_cons, List.take_zero, List.drop_succ_cons, List.drop_zero]
    repeat (first | (refine steady_skip (by rfl) ?_; simp only [Act.put, List.setIfInBounds_toArray, List.set_cons_zero, List.set_cons_succ]) | (refine steady_read _ (by rfl) (fun W hW => by (have m1 := HQw.out _ (HRq.out _ hW); have m2 := HRw.out _ hW; have c0 := m1.cell_at 0 rfl; have c1 := m1.cell_at 1 rfl; have c2 := m1.cell_at 2 rfl; have d0 := m2.cell_at 0 rfl; have d1 := m2.cell_at 1 rfl; have d2 := m2.cell_at 2 rfl; clear m1 m2; go_simp; first | done | with_reducible rfl)) ?_; simp only [Act.put, List.setIfInBounds_toArray, List.set_cons_zero, List.set_cons_succ]) | (refine steady_call _ _ _ (by rfl) (fun W hW => by (have m1 := HQw.out _ (HRq.out _ hW); have m2 := HRw.out _ hW; have c0 := m1.cell_at 0 rfl; have c1 := m1.cell_at 1 rfl; have c2 := m1.cell_at 2 rfl; have d0 := m2.cell_at 0 rfl; have d1 := m2.cell_at 1 rfl; have d2 := m2.cell_at 2 rfl; clear m1 m2; go_simp; first | done | rfl)) (fun W hW => turned_P HR.out s o i hW) ?_; simp only [Act.put, List.setIfInBounds_toArray, List.set_cons_zero, List.set_cons_succ]))
    refine steady_nil (fun W hW => ?_)
    go_wp2_with fail
    refine (wakes5_P HR.out (fun W h => HT.out _ (HRq.out _ h)) hW).mono ?_
    rintro e w6 ⟨rfl, hR6⟩
    go_wp2_with fail
    go_ret
    exact ⟨rfl, HPb.out _ (HQp.out _ (HRq.out _ hR6))⟩
end Go.Proofs.YtmcnijkljofglaaDoor
