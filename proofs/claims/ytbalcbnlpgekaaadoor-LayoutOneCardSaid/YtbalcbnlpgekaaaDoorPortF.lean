/- Package port: Right. -/
import Derived.Test.YtbalcbnlpgekaaaDoorPortE
namespace Go.Proofs.YtbalcbnlpgekaaaDoor
open Go.RowKit Go.Shelf
set_option linter.unusedVariables false
set_option linter.unusedSimpArgs false

/-- Is this join, or this class, as it may be: of a port, a way, that the kind has, or has not? -/
def joinOk (p : Int) (j : Nat) (s q : Int) : Bool := if (j : Int) < p then mayV s q else (s == -1 && q == 0)
def classOk (n : Int) (j : Nat) (c : Int) : Bool := if (j : Int) < n then withinV c 3 else c == 0
/-- May this section be? -/
def rightV (p n s0 q0 s1 q1 s2 q2 s3 q3 c0 c1 : Int) : Bool :=
  (p != 0) && (joinOk p 0 s0 q0 && joinOk p 1 s1 q1 && joinOk p 2 s2 q2 && joinOk p 3 s3 q3) && (classOk n 0 c0 && classOk n 1 c1)
abbrev secV (k s0 q0 s1 q1 s2 q2 s3 q3 c0 c1 : Int) : Value :=
  .agg #[.int .u8 k, .int .i64 s0, .int .i64 q0, .int .i64 s1, .int .i64 q1, .int .i64 s2, .int .i64 q2, .int .i64 s3, .int .i64 q3, .int .i64 c0, .int .i64 c1]

theorem may_Pr {P : World → Prop} {w : World} (hP : Closed P) (s p : Int) {r : Bool} (hr : mayV s p = r) (h : P w) : Calls Tryd.prog 90 #[.agg #[.int .i64 s, .int .i64 p]] w fun e w' => e = .returned (.bool r) ∧ P w' := by
  rw [← hr]; exact may_P hP s p h

/-- Those of the first j joins, classes. -/
def allOk (p : Int) (js : Nat → Int × Int) : Nat → Bool
  | 0 => true
  | j + 1 => allOk p js j && joinOk p j (js j).1 (js j).2
def allCl (n : Int) (cl : Nat → Int) : Nat → Bool
  | 0 => true
  | j + 1 => allCl n cl j && classOk n j (cl j)
theorem allOk_no {p : Int} {js : Nat → Int × Int} {j : Nat} (h : joinOk p j (js j).1 (js j).2 = false) : ∀ m, j < m → allOk p js m = false
  | 0, hj => by omega
  | m + 1, hj => by
    unfold allOk
    by_cases e : j = m
    · subst e; rw [h, Bool.and_false]
    · rw [allOk_no h m (by omega)]; rfl
theorem allCl_no {n : Int} {cl : Nat → Int} {j : Nat} (h : classOk n j (cl j) = false) : ∀ m, j < m → allCl n cl m = false
  | 0, hj => by omega
  | m + 1, hj => by
    unfold allCl
    by_cases e : j = m
    · subst e; rw [h, Bool.and_false]
    · rw [allCl_no h m (by omega)]; rfl

set_option maxRecDepth 100000 in
set_option maxHeartbeats 4000000 in
theorem right_P {P : World → Prop} {w : World} (hP : Closed P) (hT : ∀ w, P w → Shapes w) (k s0 q0 s1 q1 s2 q2 s3 q3 c0 c1 : Int) (h0 : 0 ≤ k) (h1 : k ≤ 255) {p n a b c d : Int} (hs : IsShape k p n a b c d) (h : P w) :
    Calls Tryd.prog 79 #[secV k s0 q0 s1 q1 s2 q2 s3 q3 c0 c1] w fun e w' => e = .returned (.bool (rightV p n s0 q0 s1 q1 s2 q2 s3 q3 c0 c1)) ∧ P w' := by
  have HSh := Lib.hid (shapeOf_any k h0 h1 hs)
  clear hs
  obtain ⟨js, HJ⟩ : ∃ js : Nat → Int × Int, Hid (js 0 = (s0, q0) ∧ js 1 = (s1, q1) ∧ js 2 = (s2, q2) ∧ js 3 = (s3, q3)) := ⟨fun j => match j with | 0 => (s0, q0) | 1 => (s1, q1) | 2 => (s2, q2) | _ => (s3, q3), Lib.hid ⟨rfl, rfl, rfl, rfl⟩⟩
  obtain ⟨cl, HCl⟩ : ∃ cl : Nat → Int, Hid (cl 0 = c0 ∧ cl 1 = c1) := ⟨fun j => match j with | 0 => c0 | _ => c1, Lib.hid ⟨rfl, rfl⟩⟩
  have HR : Hid (rightV p n s0 q0 s1 q1 s2 q2 s3 q3 c0 c1 = ((p != 0) && allOk p js 4 && allCl n cl 2)) := Lib.hid (by
    obtain ⟨e0, e1, e2, e3⟩ := HJ.out
    obtain ⟨f0, f1⟩ := HCl.out
    simp only [rightV, allOk, allCl, e0, e1, e2, e3, f0, f1, Bool.true_and])
  go_enter Tryd.func79, Tryd.ntmps79
  go_wp2_with fail
  refine wp_scope_fwd (l := 0) rfl ?_
  go_wp2_with fail
  refine (HSh.out _ (hT _ (hP _ _ h (below1 w _)))).mono ?_
  rintro e w1 ⟨rfl, hg, hB⟩
  unfold shapeV
  have hB1 := (below1 w _).trans (hB.mono (by simp))
  have hx := (Whole.new w 39 [.int .u8 k, .int .i64 s0, .int .i64 q0, .int .i64 s1, .int .i64 q1, .int .i64 s2, .int .i64 q2, .int .i64 s3, .int .i64 q3, .int .i64 c0, .int .i64 c1]).below hB (by simp)
  clear hg hB
  have hp1 := hP _ _ h hB1
  obtain ⟨cs, HCS⟩ : ∃ cs : List (Addr × Value), Hid (cs = [(⟨w1.heap.size, 0, none⟩, .int .i64 p), (⟨w1.heap.size, 1, none⟩, .int .i64 n), (⟨w.heap.size, 9, none⟩, .int .i64 c0), (⟨w.heap.size, 10, none⟩, .int .i64 c1)]) := ⟨_, Lib.hid rfl⟩
  have HC := Lib.hid (hP.has cs)
  have HS0 : Hid (Has P cs (w1.alloc (.cells #[.int .i64 p, .int .i64 n, .int .i64 a, .int .i64 b, .int .i64 c, .int .i64 d] 120))) := Lib.hid (by
    rw [HCS.out]
    have hw := Whole.new w1 120 [.int .i64 p, .int .i64 n, .int .i64 a, .int .i64 b, .int .i64 c, .int .i64 d]
    exact ((((Has.nil (hP _ _ hp1 (below1 w1 _))).cons ((hx.alloc _).cell_at 10 rfl)).cons ((hx.alloc _).cell_at 9 rfl)).cons (hw.cell_at 1 rfl)).cons (hw.cell_at 0 rfl))
  cases hp0 : (p == 0)
  rotate_left
  · have HF : Hid (false = rightV p n s0 q0 s1 q1 s2 q2 s3 q3 c0 c1) := Lib.hid (by rw [HR.out, bne, hp0]; rfl)
    go_wp2_with fail
    go_step3
    simp +zetaDelta only [Exit.inBlock, Exit.then, fwd_goto]
    refine ⟨trivial, ?_⟩
    go_wp2_with fail
    rw [Exit.noGoto_ret]
    go_ret
    exact ⟨ret_bool HF.out, hP _ _ hp1 (below1 w1 _)⟩
  have HP0 : Hid ((p != 0) = true) := Lib.hid (by rw [bne, hp0]; rfl)
  have x1 := fun o => (hx.alloc o).cell_at 1 rfl
  have x2 := fun o => (hx.alloc o).cell_at 2 rfl
  have x3 := fun o => (hx.alloc o).cell_at 3 rfl
  have x4 := fun o => (hx.alloc o).cell_at 4 rfl
  have x5 := fun o => (hx.alloc o).cell_at 5 rfl
  have x6 := fun o => (hx.alloc o).cell_at 6 rfl
  have x7 := fun o => (hx.alloc o).cell_at 7 rfl
  have x8 := fun o => (hx.alloc o).cell_at 8 rfl
  go_wp2_with fail
  clear x1 x2 x3 x4 x5 x6 x7 x8
  go_loopw [16] (fun i wr => ∃ j : Nat, j ≤ 4 ∧ i = .int .i64 j ∧ Has P cs wr ∧ allOk p js j = true)
    (fun i _ => 4 - (intOf i).toNat)
  case atStart => exact ⟨0, by omega, rfl, HS0.out, rfl⟩
  case round =>
    obtain ⟨j, hj, rfl, hH, hok⟩ := hrel
    have HOK := Lib.hid hok
    clear hok
    by_cases hlt : j < 4
    · have hlt' : (j : Int) < 4 := by omega
      obtain ⟨s, q, HSQ, hix⟩ : ∃ s q : Int, Hid (js j = (s, q)) ∧ ∀ w : World, (Instr.index 36 (.agg #[.int .i64 s0, .int .i64 q0, .int .i64 s1, .int .i64 q1, .int .i64 s2, .int .i64 q2, .int .i64 s3, .int .i64 q3]) (.int .i64 (j : Int))).run Tryd.prog w = .ok (.agg #[.int .i64 s, .int .i64 q]) w := by
        obtain ⟨e0, e1, e2, e3⟩ := HJ.out
        have : j = 0 ∨ j = 1 ∨ j = 2 ∨ j = 3 := by omega
        rcases this with rfl | rfl | rfl | rfl
        · exact ⟨s0, q0, Lib.hid e0, fun _ => by kernel_rfl⟩
        · exact ⟨s1, q1, Lib.hid e1, fun _ => by kernel_rfl⟩
        · exact ⟨s2, q2, Lib.hid e2, fun _ => by kernel_rfl⟩
        · exact ⟨s3, q3, Lib.hid e3, fun _ => by kernel_rfl⟩
      obtain ⟨ds, HDS⟩ : ∃ ds : List (Addr × Value), Hid (ds = [(⟨wr.heap.size, 0, none⟩, .int .i64 s), (⟨wr.heap.size, 1, none⟩, .int .i64 q)]) := ⟨_, Lib.hid rfl⟩
      have HS : Hid (Has (Has P cs) ds (wr.alloc (.cells #[.int .i64 s, .int .i64 q] 31)).drew) := Lib.hid (by
        rw [HDS.out]
        have hw := Whole.new wr 31 [.int .i64 s, .int .i64 q]
        exact ((Has.nil (HC.out _ _ hH (below1 wr _).drew)).cons (hw.cell_at 1 rfl)).cons (hw.cell_at 0 rfl))
      have HN0 : Hid (∀ r, joinOk p j s q = r → joinOk p j (js j).1 (js j).2 = r) := Lib.hid (by rw [HSQ.out]; exact fun r h => h)
      clear hH
      by_cases hjp : (j : Int) < p
      · have hd2 : decide (p ≤ (j : Int)) = false := by simp; omega
        cases hm : mayV s q
        all_goals
          have HM := Lib.hid hm
          have HN := Lib.hid ((HN0.out (mayV s q) (by unfold joinOk; rw [if_pos hjp])).trans hm)
          clear hm
          go_wp2_with fail
          refine region_steady (Has (Has P cs) ds) 19 (by kernel_rfl) (by kernel_rfl) HS.out ?_
          simp only [List.take_succ_cons, List.take_zero, List.drop_succ_cons, List.drop_zero]
          repeat (first | (refine steady_skip (by rfl) ?_; simp only [Act.put, List.setIfInBounds_toArray, List.set_cons_zero, List.set_cons_succ]) | (refine steady_read _ (by rfl) (fun W hW => by (have e0 := hW.at HDS.out 0 rfl; have e1 := hW.at HDS.out 1 rfl; have cH := hW.1.at HCS.out 0 rfl; go_simp; first | done | with_reducible rfl)) ?_; simp only [Act.put, List.setIfInBounds_toArray, List.set_cons_zero, List.set_cons_succ]) | (refine steady_call _ _ _ (by rfl) (fun W hW => by (have e0 := hW.at HDS.out 0 rfl; have e1 := hW.at HDS.out 1 rfl; have cH := hW.1.at HCS.out 0 rfl; go_simp; first | done | rfl)) (fun W hW => may_Pr (HC.out.has ds) _ _ HM.out hW) ?_; simp only [Act.put, List.setIfInBounds_toArray, List.set_cons_zero, List.set_cons_succ]) | (refine steady_call _ _ _ (by rfl) (fun W hW => by (have e0 := hW.at HDS.out 0 rfl; have e1 := hW.at HDS.out 1 rfl; have cH := hW.1.at HCS.out 0 rfl; go_simp; first | done | rfl)) (fun W hW => trackEnd_P (HC.out.has ds) hW) ?_; simp only [Act.put, List.setIfInBounds_toArray, List.set_cons_zero, List.set_cons_succ]))
          refine steady_nil (fun W hW => ?_)
          go_wp2_with fail
        · have HF := Lib.hid (show false = rightV p n s0 q0 s1 q1 s2 q2 s3 q3 c0 c1 by rw [HR.out, allOk_no HN.out 4 hlt, Bool.and_false, Bool.false_and])
          go_step3
          simp +zetaDelta only [Exit.inBlock, Exit.then, fwd_goto]
          refine ⟨trivial, ?_⟩
          go_wp2_with fail
          rw [Exit.noGoto_ret]
          go_ret
          exact ⟨ret_bool HF.out, hW.1.1⟩
        · go_roundw
          case rel => exact ⟨j + 1, hlt, by go_num, hW.1, by unfold allOk; rw [HOK.out, HN.out]; rfl⟩
          case measure => simp [intOf]; omega
      · have hd1 : decide ((j : Int) < p) = false := by simp; omega
        have hd2 : decide (p ≤ (j : Int)) = true := by simp; omega
        by_cases hm : s = -1 ∧ q = 0
        · obtain ⟨rfl, rfl⟩ := hm
          have HN := Lib.hid (HN0.out true (by unfold joinOk; rw [if_neg hjp]; rfl))
          go_wp2_with fail
          refine region_steady (Has (Has P cs) ds) 19 (by kernel_rfl) (by kernel_rfl) HS.out ?_
          simp only [List.take_succ_cons, List.take_zero, List.drop_succ_cons, List.drop_zero]
          repeat (first | (refine steady_skip (by rfl) ?_; simp only [Act.put, List.setIfInBounds_toArray, List.set_cons_zero, List.set_cons_succ]) | (refine steady_read _ (by rfl) (fun W hW => by (have e0 := hW.at HDS.out 0 rfl; have e1 := hW.at HDS.out 1 rfl; have cH := hW.1.at HCS.out 0 rfl; go_simp; first | done | with_reducible rfl)) ?_; simp only [Act.put, List.setIfInBounds_toArray, List.set_cons_zero, List.set_cons_succ]) | (refine steady_call _ _ _ (by rfl) (fun W hW => by (have e0 := hW.at HDS.out 0 rfl; have e1 := hW.at HDS.out 1 rfl; have cH := hW.1.at HCS.out 0 rfl; go_simp; first | done | rfl)) (fun W hW => trackEnd_P (HC.out.has ds) hW) ?_; simp only [Act.put, List.setIfInBounds_toArray, List.set_cons_zero, List.set_cons_succ]))
          refine steady_nil (fun W hW => ?_)
          go_wp2_with fail
          go_roundw
          case rel => exact ⟨j + 1, hlt, by go_num, hW.1, by unfold allOk; rw [HOK.out, HN.out]; rfl⟩
          case measure => simp [intOf]; omega
        · have HN := Lib.hid (HN0.out false (by unfold joinOk; rw [if_neg hjp, Bool.and_eq_false_iff, beq_eq_false_iff_ne, beq_eq_false_iff_ne]; omega))
          have HF := Lib.hid (show false = rightV p n s0 q0 s1 q1 s2 q2 s3 q3 c0 c1 by rw [HR.out, allOk_no HN.out 4 hlt, Bool.and_false, Bool.false_and])
          have hs : ¬ s = -1 ∨ (s = -1 ∧ ¬ q = 0) := by omega
          clear hm
          rcases hs with hs | ⟨rfl, hq⟩
          all_goals
            go_wp2_with fail
            refine region_steady (Has (Has P cs) ds) 19 (by kernel_rfl) (by kernel_rfl) HS.out ?_
            simp only [List.take_succ_cons, List.take_zero, List.drop_succ_cons, List.drop_zero]
            repeat (first | (refine steady_skip (by rfl) ?_; simp only [Act.put, List.setIfInBounds_toArray, List.set_cons_zero, List.set_cons_succ]) | (refine steady_read _ (by rfl) (fun W hW => by (have e0 := hW.at HDS.out 0 rfl; have e1 := hW.at HDS.out 1 rfl; have cH := hW.1.at HCS.out 0 rfl; go_simp; first | done | with_reducible rfl)) ?_; simp only [Act.put, List.setIfInBounds_toArray, List.set_cons_zero, List.set_cons_succ]) | (refine steady_call _ _ _ (by rfl) (fun W hW => by (have e0 := hW.at HDS.out 0 rfl; have e1 := hW.at HDS.out 1 rfl; have cH := hW.1.at HCS.out 0 rfl; go_simp; first | done | rfl)) (fun W hW => trackEnd_P (HC.out.has ds) hW) ?_; simp only [Act.put, List.setIfInBounds_toArray, List.set_cons_zero, List.set_cons_succ]))
            refine steady_nil (fun W hW => ?_)
            go_wp2_with fail
            go_step3
            simp +zetaDelta only [Exit.inBlock, Exit.then, fwd_goto]
            refine ⟨trivial, ?_⟩
            go_wp2_with fail
            rw [Exit.noGoto_ret]
            go_ret
            exact ⟨ret_bool HF.out, hW.1.1⟩
    · obtain rfl : j = 4 := by omega
      rw [show ((4 : Nat) : Int) = 4 from rfl]
      have x9 := hH.at HCS.out 2 rfl
      have x10 := hH.at HCS.out 3 rfl
      go_wp2_with fail
      clear x9 x10
      go_loopw [43] (fun i wr => ∃ j : Nat, j ≤ 2 ∧ i = .int .i64 j ∧ Has P cs wr ∧ allCl n cl j = true)
        (fun i _ => 2 - (intOf i).toNat)
      case atStart => exact ⟨0, by omega, rfl, hH, rfl⟩
      case round =>
        obtain ⟨j, hj2, rfl, hH, hok⟩ := hrel
        have HOK2 := Lib.hid hok
        clear hok
        by_cases hlt2 : j < 2
        · have hlt' : (j : Int) < 2 := by omega
          have cN := hH.at HCS.out 1 rfl
          obtain ⟨cc, HCC, hix⟩ : ∃ cc : Int, Hid (cl j = cc) ∧ ∀ w : World, (Instr.index 37 (.agg #[.int .i64 c0, .int .i64 c1]) (.int .i64 (j : Int))).run Tryd.prog w = .ok (.int .i64 cc) w := by
            obtain ⟨e0, e1⟩ := HCl.out
            have : j = 0 ∨ j = 1 := by omega
            rcases this with rfl | rfl
            · exact ⟨c0, Lib.hid e0, fun _ => by kernel_rfl⟩
            · exact ⟨c1, Lib.hid e1, fun _ => by kernel_rfl⟩
          have HN0 : Hid (∀ r, classOk n j cc = r → classOk n j (cl j) = r) := Lib.hid (by rw [HCC.out]; exact fun r h => h)
          by_cases hjn : (j : Int) < n
          · have hd2 : decide (n ≤ (j : Int)) = false := by simp; omega
            cases hm : withinV cc 3
            all_goals
              have HM := Lib.hid hm
              have HN := Lib.hid ((HN0.out (withinV cc 3) (by unfold classOk; rw [if_pos hjn])).trans hm)
              clear hm
              go_wp2_with fail
              refine (within_P cc 3 HM.out hH).mono ?_
              rintro e w4 ⟨rfl, hH4⟩
              have cN4 := hH4.at HCS.out 1 rfl
              go_wp2_with fail
            · have HF := Lib.hid (show false = rightV p n s0 q0 s1 q1 s2 q2 s3 q3 c0 c1 by rw [HR.out, allCl_no HN.out 2 hlt2, Bool.and_false])
              go_step3
              simp +zetaDelta only [Exit.inBlock, Exit.then, fwd_goto]
              refine ⟨trivial, ?_⟩
              go_wp2_with fail
              rw [Exit.noGoto_ret]
              go_ret
              exact ⟨ret_bool HF.out, hH4.1⟩
            · go_roundw
              case rel => exact ⟨j + 1, hlt2, by go_num, hH4, by unfold allCl; rw [HOK2.out, HN.out]; rfl⟩
              case measure => simp [intOf]; omega
          · have hd1 : decide ((j : Int) < n) = false := by simp; omega
            have hd2 : decide (n ≤ (j : Int)) = true := by simp; omega
            cases hm : (cc == 0)
            all_goals
              have hm' : (cc != 0) = !(cc == 0) := rfl
              rw [hm] at hm'
              have HN := Lib.hid ((HN0.out (cc == 0) (by unfold classOk; rw [if_neg hjn])).trans hm)
              go_wp2_with fail
            · have HF := Lib.hid (show false = rightV p n s0 q0 s1 q1 s2 q2 s3 q3 c0 c1 by rw [HR.out, allCl_no HN.out 2 hlt2, Bool.and_false])
              go_step3
              simp +zetaDelta only [Exit.inBlock, Exit.then, fwd_goto]
              refine ⟨trivial, ?_⟩
              go_wp2_with fail
              rw [Exit.noGoto_ret]
              go_ret
              exact ⟨ret_bool HF.out, hH.1⟩
            · go_roundw
              case rel => exact ⟨j + 1, hlt2, by go_num, hH, by unfold allCl; rw [HOK2.out, HN.out]; rfl⟩
              case measure => simp [intOf]; omega
        · obtain rfl : j = 2 := by omega
          have HF := Lib.hid (show true = rightV p n s0 q0 s1 q1 s2 q2 s3 q3 c0 c1 by rw [HR.out, HP0.out, HOK.out, HOK2.out]; rfl)
          go_wp2_with fail
          try rw [fwd_ret]
          go_ret
          exact ⟨ret_bool HF.out, hH.1⟩

theorem sh0 : IsShape 0 0 0 0 0 0 0 := by unfold IsShape; decide
theorem sh1 : IsShape 1 2 1 0 1 0 0 := by unfold IsShape; decide
theorem sh2 : IsShape 2 3 2 0 1 0 2 := by unfold IsShape; decide
theorem sh3 : IsShape 3 4 2 0 1 2 3 := by unfold IsShape; decide
theorem sh9 : IsShape 9 0 0 0 0 0 0 := by unfold IsShape; decide

theorem isShape_p {k p n a b c d : Int} (h : IsShape k p n a b c d) : 0 ≤ p ∧ p ≤ 4 := by unfold IsShape at h; omega
section
variable {P : World → Prop} {w : World}
theorem right_Pr (hP : Closed P) (hT : ∀ w, P w → Shapes w) (k s0 q0 s1 q1 s2 q2 s3 q3 c0 c1 : Int) (h0 : 0 ≤ k) (h1 : k ≤ 255) {p n a b c d : Int} {r : Bool} (hs : IsShape k p n a b c d) (hr : rightV p n s0 q0 s1 q1 s2 q2 s3 q3 c0 c1 = r) (h : P w) :
    Calls Tryd.prog 79 #[secV k s0 q0 s1 q1 s2 q2 s3 q3 c0 c1] w fun e w' => e = .returned (.bool r) ∧ P w' := by
  rw [← hr]; exact right_P hP hT k s0 q0 s1 q1 s2 q2 s3 q3 c0 c1 h0 h1 hs h
end
end Go.Proofs.YtbalcbnlpgekaaaDoor
