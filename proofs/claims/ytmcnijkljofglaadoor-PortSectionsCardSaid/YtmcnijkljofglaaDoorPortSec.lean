/- The walk of PortSections: which sections may be. -/
import Derived.Test.YtmcnijkljofglaaDoorPortSecE
import Derived.Deep.CutRange
namespace Go.Proofs.YtmcnijkljofglaaDoor
open Go.RowKit Go.Shelf
set_option linter.unusedVariables false
set_option linter.unusedSimpArgs false

theorem joinOk_eq (p : Int) (j : Nat) (s q : Int) : joinOk p j s q = ((s == -1 && q == 0) || (decide ((j : Int) < p) && withinV s 23 && withinV q 3)) := by
  unfold joinOk mayV
  by_cases h : (j : Int) < p
  · rw [if_pos h]; simp [h]
  · rw [if_neg h]; simp [h]
theorem and_mask (x : Int) (m : Nat) (hm : m ≤ 1000) : ∃ r : Nat, r ≤ m ∧ bits BinOp.and IntKind.i64 x (m : Int) = (r : Int) := by
  refine ⟨(BitVec.ofInt 64 x &&& BitVec.ofInt 64 (m : Int)).toNat, ?_, ?_⟩
  · rw [BitVec.toNat_and]
    refine Nat.le_trans Nat.and_le_right ?_
    rw [BitVec.ofInt_natCast, BitVec.toNat_ofNat]
    exact Nat.mod_le _ _
  · have h : (BitVec.ofInt 64 x &&& BitVec.ofInt 64 (m : Int)).toNat ≤ m := by
      rw [BitVec.toNat_and]
      refine Nat.le_trans Nat.and_le_right ?_
      rw [BitVec.ofInt_natCast, BitVec.toNat_ofNat]
      exact Nat.mod_le _ _
    show IntKind.i64.wrap ((BitVec.ofInt 64 x &&& BitVec.ofInt 64 (m : Int)).toNat : Int) = _
    rw [IntKind.wrap_i64]
    omega
theorem known_p {k p n a b c d : Int} (h : IsShape k p n a b c d) : (decide (1 ≤ k) && decide (k ≤ 3)) = (p != 0) := by
  unfold IsShape at h
  rw [Bool.eq_iff_iff]
  simp
  omega

set_option maxRecDepth 100000 in
set_option maxHeartbeats 8000000 in
theorem portSections_walk (k s0 q0 s1 q1 s2 q2 s3 q3 c0 c1 sp qp cc at' : Int) (w : World) (h0 : 0 ≤ k ∧ k ≤ 255) (hat : -9223372036854775808 ≤ at' ∧ at' ≤ 9223372036854775807) (hT : Shapes w) :
    Calls Tryd.prog 7 #[secV k s0 q0 s1 q1 s2 q2 s3 q3 c0 c1, .agg #[.int .i64 sp, .int .i64 qp], .int .i64 cc, .int .i64 at'] w fun e w' => e = .returned (.bool true) ∧ Below w.heap.size w w' := by
  obtain ⟨p, n, a, b, c, d, hs⟩ := shape_of k
  obtain ⟨P, HP, HPs, HPb, hp⟩ := keep_first hT
  obtain ⟨hk0, hk1⟩ := h0
  obtain ⟨W0, hW0, hwh, hwp, hp0⟩ : ∃ W0, (w.alloc (.cells #[.int .u8 k, .int .i64 s0, .int .i64 q0, .int .i64 s1, .int .i64 q1, .int .i64 s2, .int .i64 q2, .int .i64 s3, .int .i64 q3, .int .i64 c0, .int .i64 c1] 27)).alloc (.cells #[.int .i64 sp, .int .i64 qp] 23) = W0 ∧ Whole W0 w.heap.size 27 [.int .u8 k, .int .i64 s0, .int .i64 q0, .int .i64 s1, .int .i64 q1, .int .i64 s2, .int .i64 q2, .int .i64 s3, .int .i64 q3, .int .i64 c0, .int .i64 c1] ∧ Whole W0 (w.heap.size + 1) 23 [.int .i64 sp, .int .i64 qp] ∧ P W0 :=
    ⟨_, rfl, (Whole.new w _ [_, _, _, _, _, _, _, _, _, _, _]).alloc _, Whole.new_at _ _ [_, _] _ (by simp), HP.out _ _ hp (below2 w _ _)⟩
  obtain ⟨Q0, HQ0, HQ0p, HQw, hQ00⟩ := keep_whole HP.out hp0 hwh
  obtain ⟨Q, HQ, HQq, HQv, hQ0⟩ := keep_whole HQ0.out hQ00 hwp
  have HQw : Hid (∀ W, Q W → Whole W w.heap.size 27 [.int .u8 k, .int .i64 s0, .int .i64 q0, .int .i64 s1, .int .i64 q1, .int .i64 s2, .int .i64 q2, .int .i64 s3, .int .i64 q3, .int .i64 c0, .int .i64 c1]) := Lib.hid fun W h => HQw.out _ (HQq.out _ h)
  have HT : Hid (∀ W, Q W → Shapes W) := Lib.hid fun W h => HPs.out _ (HQ0p.out _ (HQq.out _ h))
  have HQp : Hid (∀ W, Q W → P W) := Lib.hid fun W h => HQ0p.out _ (HQq.out _ h)
  have HPo := Lib.hid (fun w' h => ports_P (w := w') HQ.out HT.out hk0 hk1 hs h)
  have HWa := Lib.hid (fun w' h => ways_P (w := w') HQ.out HT.out hk0 hk1 hs h)
  have HRi := Lib.hid (fun (r : Bool) hr w' h => right_Pr (w := w') (r := r) HQ.out HT.out k s0 q0 s1 q1 s2 q2 s3 q3 c0 c1 hk0 hk1 hs hr h)
  have HKn := Lib.hid (known_p hs)
  have HSh := Lib.hid hs
  have HW0 := Lib.hid hW0
  have HN2 := Lib.hid (isShape_n hs)
  obtain ⟨hp40, hp41⟩ := isShape_p hs
  clear hs hT hW0 hwh hwp hp0 hp hQ00 HQ0 HQ0p HQq
  obtain ⟨js, HJ⟩ : ∃ js : Nat → Int × Int, Hid (js 0 = (s0, q0) ∧ js 1 = (s1, q1) ∧ js 2 = (s2, q2) ∧ js 3 = (s3, q3)) := ⟨fun j => match j with | 0 => (s0, q0) | 1 => (s1, q1) | 2 => (s2, q2) | _ => (s3, q3), Lib.hid ⟨rfl, rfl, rfl, rfl⟩⟩
  obtain ⟨cl, HCl⟩ : ∃ cl : Nat → Int, Hid (cl 0 = c0 ∧ cl 1 = c1) := ⟨fun j => match j with | 0 => c0 | _ => c1, Lib.hid ⟨rfl, rfl⟩⟩
  have HR : Hid (rightV p n s0 q0 s1 q1 s2 q2 s3 q3 c0 c1 = ((p != 0) && allOk p js 4 && allCl n cl 2)) := Lib.hid (by
    obtain ⟨e0, e1, e2, e3⟩ := HJ.out
    obtain ⟨f0, f1⟩ := HCl.out
    simp only [rightV, allOk, allCl, e0, e1, e2, e3, f0, f1, Bool.true_and])
  obtain ⟨kn, hkn⟩ : ∃ kn, (decide (1 ≤ k) && decide (k ≤ 3)) = kn := ⟨_, rfl⟩
  have HKN : Hid ((p != 0) = kn) := Lib.hid (HKn.out.symm.trans hkn)
  have HS := Lib.hid (HQ.out.drew hQ0)
  have hk13 : (k < 1 ∧ kn = false) ∨ (1 ≤ k ∧ k ≤ 3 ∧ kn = true) ∨ (1 ≤ k ∧ 3 < k ∧ kn = false) := by
    by_cases h1 : 1 ≤ k
    · by_cases h3 : k ≤ 3
      · exact .inr (.inl ⟨h1, h3, by rw [← hkn]; simp [h1, h3]⟩)
      · exact .inr (.inr ⟨h1, by omega, by rw [← hkn]; simp [h3]⟩)
    · exact .inl ⟨by omega, by rw [← hkn]; simp [h1]⟩
  clear hkn HKn
  go_enter Tryd.func7, Tryd.ntmps7
  go_upto_region 1 with (fail)
  rw [HW0.out]
  have m1 := HQw.out _ hQ0
  have x0 := m1.cell_at 0 rfl
  clear m1
  go_cut [9] from 18 to 25 (fun v wx => v = .bool kn ∧ wx = W0)
  case first =>
    rcases hk13 with ⟨hk, rfl⟩ | ⟨hk, hk', rfl⟩ | ⟨hk, hk', rfl⟩
    all_goals
      go_wp2_with fail
      all_goals
        first
          | (exfalso; omega)
          | (go_meet
             case rel => exact ⟨by first | rfl | (refine congrArg Value.bool ?_; simp; omega), rfl⟩)
  case rest =>
    obtain ⟨rfl, rfl⟩ := hcut
    clear x0 hk13
    go_wp2_with fail
    refine region_steady (Q) 6 (by kernel_rfl) (by kernel_rfl) HS.out ?_
    simp only [List.take_succ_cons, List.take_zero, List.drop_succ_cons, List.drop_zero]
    repeat (first | (refine steady_skip (by rfl) ?_; simp only [Act.put, List.setIfInBounds_toArray, List.set_cons_zero, List.set_cons_succ]) | (refine steady_read _ (by rfl) (fun W hW => by (have m1 := HQw.out _ hW; have c0 := m1.cell_at 0 rfl; clear m1; go_simp; first | done | with_reducible rfl)) ?_; simp only [Act.put, List.setIfInBounds_toArray, List.set_cons_zero, List.set_cons_succ]) | (refine steady_call _ _ _ (by rfl) (fun W hW => by (have m1 := HQw.out _ hW; have c0 := m1.cell_at 0 rfl; clear m1; go_simp; first | done | rfl)) (fun W hW => HPo.out _ hW) ?_; simp only [Act.put, List.setIfInBounds_toArray, List.set_cons_zero, List.set_cons_succ]) | (refine steady_call _ _ _ (by rfl) (fun W hW => by (have m1 := HQw.out _ hW; have c0 := m1.cell_at 0 rfl; clear m1; go_simp; first | done | rfl)) (fun W hW => HWa.out _ hW) ?_; simp only [Act.put, List.setIfInBounds_toArray, List.set_cons_zero, List.set_cons_succ]))
    refine steady_nil (fun W hW => ?_)
    have hQ1 := hW
    clear hQ0
    go_wp2_with fail
    go_loopw [9, 12] (fun v i wr => ∃ j : Nat, j ≤ 4 ∧ i = .int .i64 j ∧ v = .bool (kn && allOk p js j) ∧ Q wr)
      (fun _ i _ => 4 - (intOf i).toNat)
    case atStart => exact ⟨0, by omega, rfl, by simp [allOk], hQ1⟩
    case round =>
      obtain ⟨j, hj, rfl, hv, hQ2⟩ := hrel
      obtain ⟨f, hf⟩ : ∃ f, (kn && allOk p js j) = f := ⟨_, rfl⟩
      rw [hf] at hv
      subst hv
      have HF := Lib.hid hf
      clear hf
      by_cases hlt : j < 4
      · have hlt' : (j : Int) < 4 := by omega
        have m1 := HQw.out _ hQ2
        obtain ⟨s, q, HSQ, e0, e1⟩ : ∃ s q : Int, Hid (js j = (s, q)) ∧ wr.cell? ⟨w.heap.size, 1 + j * 2, none⟩ = some (.int .i64 s) ∧ wr.cell? ⟨w.heap.size, 1 + j * 2 + 1, none⟩ = some (.int .i64 q) := by
          obtain ⟨e0, e1, e2, e3⟩ := HJ.out
          have : j = 0 ∨ j = 1 ∨ j = 2 ∨ j = 3 := by omega
          rcases this with rfl | rfl | rfl | rfl
          · exact ⟨s0, q0, Lib.hid e0, m1.cell_at 1 rfl, m1.cell_at 2 rfl⟩
          · exact ⟨s1, q1, Lib.hid e1, m1.cell_at 3 rfl, m1.cell_at 4 rfl⟩
          · exact ⟨s2, q2, Lib.hid e2, m1.cell_at 5 rfl, m1.cell_at 6 rfl⟩
          · exact ⟨s3, q3, Lib.hid e3, m1.cell_at 7 rfl, m1.cell_at 8 rfl⟩
        clear m1
        have HV : Hid ((kn && allOk p js (j + 1)) = (f && joinOk p j s q)) := Lib.hid (by unfold allOk; rw [HSQ.out, ← Bool.and_assoc, HF.out])
        have HQ3 := Lib.hid (fun o => HQ.out _ _ hQ2 (below1 wr o))
        clear hQ2
        have hte : ¬ s = -1 ∨ (s = -1 ∧ ¬ q = 0) ∨ (s = -1 ∧ q = 0) := by omega
        cases f
        · rcases hte with hs | ⟨rfl, hq⟩ | ⟨rfl, rfl⟩
          all_goals
            go_wp2_with fail
            go_roundw
            case rel => exact ⟨j + 1, hlt, by go_num, by rw [HV.out]; rfl, HQ3.out _⟩
            case measure => simp [intOf]; omega
        · rcases hte with hs | ⟨rfl, hq⟩ | ⟨rfl, rfl⟩
          all_goals
            go_wp2_with fail
            all_goals
              go_roundw
              case rel => exact ⟨j + 1, hlt, by go_num, by rw [HV.out, Bool.true_and]; refine congrArg Value.bool ?_; rw [Bool.eq_iff_iff, joinOk_eq]; simp [withinV]; try omega, HQ3.out _⟩
              case measure => simp [intOf]; omega
      · obtain rfl : j = 4 := by omega
        rw [show ((4 : Nat) : Int) = 4 from rfl]
        go_wp2_with fail
        go_loopw [9, 15] (fun v i wr => ∃ j : Nat, j ≤ 2 ∧ i = .int .i64 j ∧ v = .bool (kn && allOk p js 4 && allCl n cl j) ∧ Q wr)
          (fun _ i _ => 2 - (intOf i).toNat)
        case atStart => exact ⟨0, by omega, rfl, by rw [HF.out]; simp [allCl], hQ2⟩
        case round =>
          obtain ⟨j, hj2, rfl, hv, hQ4⟩ := hrel
          obtain ⟨f2, hf⟩ : ∃ f, (kn && allOk p js 4 && allCl n cl j) = f := ⟨_, rfl⟩
          rw [hf] at hv
          subst hv
          have HF2 := Lib.hid hf
          clear hf hQ2
          by_cases hlt2 : j < 2
          · have hlt' : (j : Int) < 2 := by omega
            have m1 := HQw.out _ hQ4
            obtain ⟨e, HSQ, e0, e1⟩ : ∃ e : Int, Hid (cl j = e) ∧ wr.cell? ⟨w.heap.size, 9 + j, none⟩ = some (.int .i64 e) ∧ wr.cell? ⟨w.heap.size, 9 + j * 1, none⟩ = some (.int .i64 e) := by
              obtain ⟨e0, e1⟩ := HCl.out
              have : j = 0 ∨ j = 1 := by omega
              rcases this with rfl | rfl
              · exact ⟨c0, Lib.hid e0, m1.cell_at 9 rfl, m1.cell_at 9 rfl⟩
              · exact ⟨c1, Lib.hid e1, m1.cell_at 10 rfl, m1.cell_at 10 rfl⟩
            clear m1
            have HV : Hid ((kn && allOk p js 4 && allCl n cl (j + 1)) = (f2 && classOk n j e)) := Lib.hid (by unfold allCl; rw [HSQ.out, ← Bool.and_assoc, HF2.out])
            cases f2
            · go_wp2_with fail
              go_roundw
              case rel => exact ⟨j + 1, hlt2, by go_num, by rw [HV.out]; rfl, hQ4⟩
              case measure => simp [intOf]; omega
            · go_wp2_with fail
              all_goals
                go_roundw
                case rel => exact ⟨j + 1, hlt2, by go_num, by rw [HV.out, Bool.true_and]; refine congrArg Value.bool ?_; rw [Bool.eq_iff_iff]; unfold classOk withinV; split <;> simp <;> omega, hQ4⟩
                case measure => simp [intOf]; omega
          · obtain rfl : j = 2 := by omega
            rw [show ((2 : Nat) : Int) = 2 from rfl]
            have m1 := HQw.out _ hQ4
            have x0 := m1.cell_at 0 rfl
            have x1 := m1.cell_at 1 rfl
            have x2 := m1.cell_at 2 rfl
            have x3 := m1.cell_at 3 rfl
            have x4 := m1.cell_at 4 rfl
            have x5 := m1.cell_at 5 rfl
            have x6 := m1.cell_at 6 rfl
            have x7 := m1.cell_at 7 rfl
            have x8 := m1.cell_at 8 rfl
            have x9 := m1.cell_at 9 rfl
            have x10 := m1.cell_at 10 rfl
            clear m1
            go_wp2_with fail
            have HRV := Lib.hid (show rightV p n s0 q0 s1 q1 s2 q2 s3 q3 c0 c1 = f2 by rw [HR.out, HKN.out, HF2.out])
            refine (HRi.out f2 HRV.out _ hQ4).mono ?_
            clear x0 x1 x2 x3 x4 x5 x6 x7 x8 x9 x10
            rintro e w5 ⟨rfl, hQ5⟩
            have m1 := HQw.out _ hQ5
            have x0 := m1.cell_at 0 rfl
            have x1 := m1.cell_at 1 rfl
            have x2 := m1.cell_at 2 rfl
            have x3 := m1.cell_at 3 rfl
            have x4 := m1.cell_at 4 rfl
            have x5 := m1.cell_at 5 rfl
            have x6 := m1.cell_at 6 rfl
            have x7 := m1.cell_at 7 rfl
            have x8 := m1.cell_at 8 rfl
            have x9 := m1.cell_at 9 rfl
            have x10 := m1.cell_at 10 rfl
            clear m1
            have HALL : Hid (f2 = true → (p != 0) = true ∧ joinOk p 0 s0 q0 = true ∧ joinOk p 1 s1 q1 = true ∧ joinOk p 2 s2 q2 = true ∧ joinOk p 3 s3 q3 = true ∧ classOk n 0 c0 = true ∧ classOk n 1 c1 = true) := Lib.hid (fun h => by
              have e := HRV.out
              rw [h] at e
              unfold rightV at e
              simp only [Bool.and_eq_true] at e
              obtain ⟨⟨e1, ⟨⟨e2, e3⟩, e4⟩, e5⟩, e6, e7⟩ := e
              exact ⟨e1, e2, e3, e4, e5, e6, e7⟩)
            obtain ⟨X, hX3, hX⟩ := and_mask at' 3 (by decide)
            obtain ⟨Y, hY1, hY⟩ := and_mask (at' / 4) 1 (by decide)
            go_upto_region 16 with (fail)
            go_cut [] from 113 to 117 (fun wx => ∃ t0 u0 t1 u1 t2 u2 t3 u3 : Int, Whole wx w5.heap.size 27 [.int .u8 k, .int .i64 t0, .int .i64 u0, .int .i64 t1, .int .i64 u1, .int .i64 t2, .int .i64 u2, .int .i64 t3, .int .i64 u3, .int .i64 c0, .int .i64 c1] ∧ Hid (f2 = true → ∀ d0 d1, rightV p n t0 u0 t1 u1 t2 u2 t3 u3 d0 d1 = (joinOk p X sp qp && (classOk n 0 d0 && classOk n 1 d1))) ∧ Below w5.heap.size w5 wx)
            case first =>
              have m2 := HQv.out _ (HQ.out _ _ hQ5 (below1 w5 (.cells #[.int .u8 k, .int .i64 s0, .int .i64 q0, .int .i64 s1, .int .i64 q1, .int .i64 s2, .int .i64 q2, .int .i64 s3, .int .i64 q3, .int .i64 c0, .int .i64 c1] 27)))
              have z0 := m2.cell_at 0 rfl
              have z1 := m2.cell_at 1 rfl
              clear m2
              have hX' : X = 0 ∨ X = 1 ∨ X = 2 ∨ X = 3 := by omega
              have hb1 := fun o => HQ.out _ _ hQ5 (below1 w5 o)
              have HB1 := Lib.hid hb1
              clear hb1
              rcases hX' with rfl | rfl | rfl | rfl
              · have hX0 : bits BinOp.and IntKind.i64 at' 3 = 0 := hX
                clear hX
                go_wp2_with fail
                go_meet
                case rel =>
                  refine ⟨_, _, _, _, _, _, _, _, Whole.new w5 _ [_, _, _, _, _, _, _, _, _, _, _], Lib.hid (fun h => ?_), below1 w5 _⟩
                  obtain ⟨e1, e2, e3, e4, e5, e6, e7⟩ := HALL.out h
                  intro d0 d1
                  unfold rightV
                  simp only [e1, e2, e3, e4, e5, Bool.true_and, Bool.and_true]
              · have hX0 : bits BinOp.and IntKind.i64 at' 3 = 1 := hX
                clear hX
                go_wp2_with fail
                go_meet
                case rel =>
                  refine ⟨_, _, _, _, _, _, _, _, Whole.new w5 _ [_, _, _, _, _, _, _, _, _, _, _], Lib.hid (fun h => ?_), below1 w5 _⟩
                  obtain ⟨e1, e2, e3, e4, e5, e6, e7⟩ := HALL.out h
                  intro d0 d1
                  unfold rightV
                  simp only [e1, e2, e3, e4, e5, Bool.true_and, Bool.and_true]
              · have hX0 : bits BinOp.and IntKind.i64 at' 3 = 2 := hX
                clear hX
                go_wp2_with fail
                go_meet
                case rel =>
                  refine ⟨_, _, _, _, _, _, _, _, Whole.new w5 _ [_, _, _, _, _, _, _, _, _, _, _], Lib.hid (fun h => ?_), below1 w5 _⟩
                  obtain ⟨e1, e2, e3, e4, e5, e6, e7⟩ := HALL.out h
                  intro d0 d1
                  unfold rightV
                  simp only [e1, e2, e3, e4, e5, Bool.true_and, Bool.and_true]
              · have hX0 : bits BinOp.and IntKind.i64 at' 3 = 3 := hX
                clear hX
                go_wp2_with fail
                go_meet
                case rel =>
                  refine ⟨_, _, _, _, _, _, _, _, Whole.new w5 _ [_, _, _, _, _, _, _, _, _, _, _], Lib.hid (fun h => ?_), below1 w5 _⟩
                  obtain ⟨e1, e2, e3, e4, e5, e6, e7⟩ := HALL.out h
                  intro d0 d1
                  unfold rightV
                  simp only [e1, e2, e3, e4, e5, Bool.true_and, Bool.and_true]
            case rest =>
              obtain ⟨t0, u0, t1, u1, t2, u2, t3, u3, hw6, HSP, hB6⟩ := hcut
              clear x0 x1 x2 x3 x4 x5 x6 x7 x8 x9 x10
              go_upto_region 17 with (fail)
              go_cut [] from 118 to 123 (fun wx => ∃ d0 d1 : Int, Whole wx w5.heap.size 27 [.int .u8 k, .int .i64 t0, .int .i64 u0, .int .i64 t1, .int .i64 u1, .int .i64 t2, .int .i64 u2, .int .i64 t3, .int .i64 u3, .int .i64 d0, .int .i64 d1] ∧ Hid (f2 = true → rightV p n t0 u0 t1 u1 t2 u2 t3 u3 d0 d1 = (joinOk p X sp qp && classOk n Y cc)) ∧ Below w5.heap.size w5 wx)
              case first =>
                have hY' : Y = 0 ∨ Y = 1 := by omega
                have z9 := hw6.cell_at 9 rfl
                have z10 := hw6.cell_at 10 rfl
                have y9 := hw6.frozen 9
                have y10 := hw6.frozen 10
                rcases hY' with rfl | rfl
                · have hY0 : bits BinOp.and IntKind.i64 (at' / 4) 1 = 0 := hY
                  clear hY
                  go_wp2_with fail
                  go_meet
                  case rel =>
                    refine ⟨_, _, hw6.set 9 (.int .i64 cc), Lib.hid (fun h => ?_), hB6.setCell (p := ⟨w5.heap.size, 9, none⟩) (Nat.le_refl _) _⟩
                    obtain ⟨e1, e2, e3, e4, e5, e6, e7⟩ := HALL.out h
                    rw [HSP.out h, e7, Bool.and_true]
                · have hY0 : bits BinOp.and IntKind.i64 (at' / 4) 1 = 1 := hY
                  clear hY
                  go_wp2_with fail
                  go_meet
                  case rel =>
                    refine ⟨_, _, hw6.set 10 (.int .i64 cc), Lib.hid (fun h => ?_), hB6.setCell (p := ⟨w5.heap.size, 10, none⟩) (Nat.le_refl _) _⟩
                    obtain ⟨e1, e2, e3, e4, e5, e6, e7⟩ := HALL.out h
                    rw [HSP.out h, e6, Bool.true_and]
              case rest =>
                obtain ⟨d0, d1, hw7, HSQ, hB7⟩ := hcut
                have hQ7 := HQ.out _ _ hQ5 hB7
                clear hw6 hB6
                obtain ⟨R, HRc, HRq, HRw, hR7⟩ := keep_whole HQ.out hQ7 hw7
                clear hB7 hw7 hQ7
                obtain ⟨m, hm⟩ : ∃ m, mayV sp qp = m := ⟨_, rfl⟩
                have HM := Lib.hid hm
                have m2 := HQv.out _ (HRq.out _ hR7)
                have z0 := m2.cell_at 0 rfl
                have z1 := m2.cell_at 1 rfl
                clear m2
                go_upto_region 18 with (fail)
                go_cut [17] from 124 to 151 (fun v wx => v = .bool m ∧ wx = wc)
                case first =>
                  have hte : ¬ sp = -1 ∨ (sp = -1 ∧ ¬ qp = 0) ∨ (sp = -1 ∧ qp = 0) := by omega
                  clear hm
                  rcases hte with hs | ⟨rfl, hq⟩ | ⟨rfl, rfl⟩
                  all_goals
                    go_wp2_with fail
                    all_goals
                      go_meet
                      case rel => exact ⟨by refine congrArg Value.bool ?_; rw [← HM.out]; unfold mayV withinV; rw [Bool.eq_iff_iff]; simp; try omega, rfl⟩
                case rest =>
                  obtain ⟨rfl, rfl⟩ := hcut
                  go_wp2_with fail
                  refine (may_Pr HRc.out sp qp HM.out hR7).mono ?_
                  clear z0 z1
                  rintro e w8 ⟨rfl, hR8⟩
                  clear hR7
                  have HS8 := Lib.hid (HRc.out.drew hR8)
                  have hX4 : bits BinOp.and IntKind.i64 at' 3 = (X : Int) := hX
                  have hY4 : bits BinOp.and IntKind.i64 (at' / 4) 1 = (Y : Int) := hY
                  clear hX hY
                  have HRs : Hid (∀ W, R W → Shapes W) := Lib.hid fun W h => HT.out _ (HRq.out _ h)
                  have HRv : Hid (∀ W, R W → Whole W (w.heap.size + 1) 23 [.int .i64 sp, .int .i64 qp]) := Lib.hid fun W h => HQv.out _ (HRq.out _ h)
                  have HEND := Lib.hid (fun W h => HPb.out W (HQp.out W (HRq.out W h)))
                  cases f2
                  · cases m
                    · skip
                      go_wp2_with fail
                      refine sec21_a (f2 := false) HRc HRs HRw HRv hk0 hk1 HSh hX4 hY4 ?_ hR8
                      intro y156 y157 y158 y159 y160 y161 y162 y163 y164 y165 y166 y167 y168 y169 y170 y171 y172 y173 y174 y175 y176 y177 y178 y179 y180 y181 y182 y183 y184 y185 y186 y187 y188 y189 y190 y191 y192 y193 y194 y195 y196 w9 hW9
                      go_wp2_with fail
                      go_ret
                      exact ⟨rfl, HEND.out _ hW9⟩
                    · skip
                      go_wp2_with fail
                      refine sec21_a (f2 := false) HRc HRs HRw HRv hk0 hk1 HSh hX4 hY4 ?_ hR8
                      intro y156 y157 y158 y159 y160 y161 y162 y163 y164 y165 y166 y167 y168 y169 y170 y171 y172 y173 y174 y175 y176 y177 y178 y179 y180 y181 y182 y183 y184 y185 y186 y187 y188 y189 y190 y191 y192 y193 y194 y195 y196 w9 hW9
                      go_wp2_with fail
                      go_ret
                      exact ⟨rfl, HEND.out _ hW9⟩
                  · have HSQ2 : Hid (rightV p n t0 u0 t1 u1 t2 u2 t3 u3 d0 d1 = (joinOk p X sp qp && classOk n Y cc)) := Lib.hid (HSQ.out rfl)
                    clear HSQ
                    have hte : ¬ (sp = -1 ∧ qp = 0) ∨ (sp = -1 ∧ qp = 0) := by omega
                    cases m
                    · have HRT : Hid (rightV p n t0 u0 t1 u1 t2 u2 t3 u3 d0 d1 = false) := Lib.hid (by
                        have e := HM.out
                        unfold mayV at e
                        rw [Bool.or_eq_false_iff] at e
                        have hj : joinOk p X sp qp = false := by rw [joinOk_eq, e.1, Bool.false_or, Bool.and_assoc, e.2, Bool.and_false]
                        rw [HSQ2.out, hj, Bool.false_and])
                      rcases hte with hte | ⟨rfl, rfl⟩
                      · skip
                        go_wp2_with fail
                        refine sec21_b (f2 := true) (m := false) HRc HRs HRw HRv hk0 hk1 HSh hX4 hY4 HRT hte ?_ hR8
                        intro y156 y157 y158 y159 y160 y161 y162 y163 y164 y165 y166 y167 y168 y169 y170 y171 y172 y173 y174 y175 y176 y177 y178 y179 y180 y181 y182 y183 y184 y185 y186 y187 y188 y189 y190 y191 y192 y193 y194 y195 y196 w9 hW9
                        go_wp2_with fail
                        go_ret
                        exact ⟨rfl, HEND.out _ hW9⟩
                      · exact absurd HM.out (by decide)
                    · rcases hte with hte | ⟨rfl, rfl⟩
                      rotate_left
                      · have HJO : Hid (joinOk p X (-1) 0 = true) := Lib.hid (by rw [joinOk_eq]; rfl)
                        go_wp2_with fail
                        refine sec21_c (f2 := true) (sp := 0) (qp := 0) HRc HRs HRw HRv hk0 hk1 HSh hX4 hY4 HSQ2 HJO ?_ hR8
                        intro y156 y157 y158 y159 y160 y161 y162 y163 y164 y165 y166 y167 y168 y169 y170 y171 y172 y173 y174 y175 y176 y177 y178 y179 y180 y181 y182 y183 y184 y185 y186 y187 y188 y189 y190 y191 y192 y193 y194 y195 y196 w9 hW9
                        go_wp2_with fail
                        go_ret
                        exact ⟨rfl, HEND.out _ hW9⟩
                      · have hs : ¬ sp = -1 := by
                          have e := HM.out
                          unfold mayV withinV at e
                          simp only [Bool.or_eq_true, Bool.and_eq_true, beq_iff_eq, decide_eq_true_eq] at e
                          omega
                        clear hte
                        by_cases hXp : (X : Int) < p
                        · have HJO : Hid (joinOk p X sp qp = true) := Lib.hid (by unfold joinOk; rw [if_pos hXp]; exact HM.out)
                          have hXp' : decide ((X : Int) < p) = true := by simpa using hXp
                          go_wp2_with fail
                          refine sec21_d (f2 := true) (m := true) HRc HRs HRw HRv hk0 hk1 HSh hX4 hY4 HSQ2 HJO hs hXp' ?_ hR8
                          intro y156 y157 y158 y159 y160 y161 y162 y163 y164 y165 y166 y167 y168 y169 y170 y171 y172 y173 y174 y175 y176 y177 y178 y179 y180 y181 y182 y183 y184 y185 y186 y187 y188 y189 y190 y191 y192 y193 y194 y195 y196 w9 hW9
                          go_wp2_with fail
                          go_ret
                          exact ⟨rfl, HEND.out _ hW9⟩
                        · have hXp' : decide ((X : Int) < p) = false := by simpa using hXp
                          have HRT : Hid (rightV p n t0 u0 t1 u1 t2 u2 t3 u3 d0 d1 = false) := Lib.hid (by
                            rw [HSQ2.out]
                            unfold joinOk
                            rw [if_neg hXp, Bool.and_eq_false_iff]
                            left
                            rw [Bool.and_eq_false_iff, beq_eq_false_iff_ne, beq_eq_false_iff_ne]
                            omega)
                          go_wp2_with fail
                          refine sec21_e (f2 := true) (m := true) HRc HRs HRw HRv hk0 hk1 HSh hX4 hY4 HRT hs hXp' ?_ hR8
                          intro y156 y157 y158 y159 y160 y161 y162 y163 y164 y165 y166 y167 y168 y169 y170 y171 y172 y173 y174 y175 y176 y177 y178 y179 y180 y181 y182 y183 y184 y185 y186 y187 y188 y189 y190 y191 y192 y193 y194 y195 y196 w9 hW9
                          go_wp2_with fail
                          go_ret
                          exact ⟨rfl, HEND.out _ hW9⟩
end Go.Proofs.YtmcnijkljofglaaDoor
