/- The document's own Right of layer 5. -/
import Derived.Test.YtbalcbnlpgekaaaDoorPortS0
namespace Go.Proofs.YtbalcbnlpgekaaaDoor
open Go.RowKit Go.Shelf
set_option linter.unusedVariables false
set_option linter.unusedSimpArgs false

set_option maxRecDepth 100000 in
set_option maxHeartbeats 8000000 in
theorem rightR_P {P : World → Prop} {w : World} (hP : Closed P) (k s0 q0 s1 q1 s2 q2 s3 q3 c0 c1 : Int) {p n a b c d : Int} {r : Bool} (hs : IsShape k p n a b c d) (hr : rightV p n s0 q0 s1 q1 s2 q2 s3 q3 c0 c1 = r) (h : P w) :
    Calls Tryd.prog 84 #[secV k s0 q0 s1 q1 s2 q2 s3 q3 c0 c1] w fun e w' => e = .returned (.bool r) ∧ P w' := by
  obtain ⟨hp0, hp4⟩ := isShape_p hs
  obtain ⟨js, HJ⟩ : ∃ js : Nat → Int × Int, Hid (js 0 = (s0, q0) ∧ js 1 = (s1, q1) ∧ js 2 = (s2, q2) ∧ js 3 = (s3, q3)) := ⟨fun j => match j with | 0 => (s0, q0) | 1 => (s1, q1) | 2 => (s2, q2) | _ => (s3, q3), Lib.hid ⟨rfl, rfl, rfl, rfl⟩⟩
  obtain ⟨cl, HCl⟩ : ∃ cl : Nat → Int, Hid (cl 0 = c0 ∧ cl 1 = c1) := ⟨fun j => match j with | 0 => c0 | _ => c1, Lib.hid ⟨rfl, rfl⟩⟩
  have HR : Hid (r = ((p != 0) && allOk p js 4 && allCl n cl 2)) := Lib.hid (by
    obtain ⟨e0, e1, e2, e3⟩ := HJ.out
    obtain ⟨f0, f1⟩ := HCl.out
    rw [← hr]
    simp only [rightV, allOk, allCl, e0, e1, e2, e3, f0, f1, Bool.true_and])
  obtain ⟨Q, HQ, HQp, HQw, hq⟩ := keep_whole hP (hP _ _ h (below1 w _)) (Whole.new w 39 [.int .u8 k, .int .i64 s0, .int .i64 q0, .int .i64 s1, .int .i64 q1, .int .i64 s2, .int .i64 q2, .int .i64 s3, .int .i64 q3, .int .i64 c0, .int .i64 c1])
  have HPo := Lib.hid (fun wx hx => portsR_P (P := Q) (w := wx) hs hx)
  have HWa := Lib.hid (fun wx hx => waysR_P (P := Q) (w := wx) hs hx)
  have HJc : Hid (∀ j, j < 4 → ∀ W, Q W → W.cell? ⟨w.heap.size, 1 + j * 2, none⟩ = some (.int .i64 (js j).1) ∧ W.cell? ⟨w.heap.size, 1 + j * 2 + 1, none⟩ = some (.int .i64 (js j).2)) := Lib.hid (by
    intro j hj W hW
    have m1 := HQw.out _ hW
    obtain ⟨e0, e1, e2, e3⟩ := HJ.out
    have : j = 0 ∨ j = 1 ∨ j = 2 ∨ j = 3 := by omega
    rcases this with rfl | rfl | rfl | rfl
    · rw [e0]; exact ⟨m1.cell_at 1 rfl, m1.cell_at 2 rfl⟩
    · rw [e1]; exact ⟨m1.cell_at 3 rfl, m1.cell_at 4 rfl⟩
    · rw [e2]; exact ⟨m1.cell_at 5 rfl, m1.cell_at 6 rfl⟩
    · rw [e3]; exact ⟨m1.cell_at 7 rfl, m1.cell_at 8 rfl⟩)
  have HCc : Hid (∀ j, j < 2 → ∀ W, Q W → W.cell? ⟨w.heap.size, 9 + j, none⟩ = some (.int .i64 (cl j))) := Lib.hid (by
    intro j hj W hW
    have m1 := HQw.out _ hW
    obtain ⟨e0, e1⟩ := HCl.out
    have : j = 0 ∨ j = 1 := by omega
    rcases this with rfl | rfl
    · rw [e0]; exact m1.cell_at 9 rfl
    · rw [e1]; exact m1.cell_at 10 rfl)
  have HKd : Hid (∀ W, Q W → W.cell? ⟨w.heap.size, 0, none⟩ = some (.int .u8 k)) := Lib.hid fun W hW => (HQw.out _ hW).cell_at 0 rfl
  clear hs hr h
  go_enter Tryd.func84, Tryd.ntmps84
  go_wp2_with fail
  go_loopw [3] (fun i wr => ∃ j : Nat, j ≤ 4 ∧ i = .int .i64 j ∧ Q wr ∧ Hid (allOk p js j = true))
    (fun i _ => 4 - (intOf i).toNat)
  case atStart => exact ⟨0, by omega, rfl, hq, Lib.hid rfl⟩
  case round =>
    obtain ⟨j, hj, rfl, hq, HOK⟩ := hrel
    by_cases hlt : j < 4
    · have hlt' : (j : Int) < 4 := by omega
      have HLT := Lib.hid hlt
      obtain ⟨s, hs⟩ : ∃ s, (js j).1 = s := ⟨_, rfl⟩
      obtain ⟨q, hqq⟩ : ∃ s, (js j).2 = s := ⟨_, rfl⟩
      have HC : Hid (∀ W, Q W → W.cell? ⟨w.heap.size, 1 + j * 2, none⟩ = some (.int .i64 s) ∧ W.cell? ⟨w.heap.size, 1 + j * 2 + 1, none⟩ = some (.int .i64 q)) := Lib.hid (by rw [← hs, ← hqq]; exact HJc.out j hlt)
      have HN0 : Hid (∀ r, joinOk p j s q = r → joinOk p j (js j).1 (js j).2 = r) := Lib.hid (by rw [hs, hqq]; exact fun r h => h)
      clear hs hqq hlt
      have hk0 := HKd.out _ hq
      go_wp2_with fail
      refine (HPo.out _ hq).mono ?_
      clear hk0 hq
      rintro e w1 ⟨rfl, hq⟩
      by_cases hjp : (j : Int) < p
      · have hd2 : decide (p ≤ (j : Int)) = false := by simp; omega
        obtain ⟨e0, e1⟩ := HC.out _ hq
        go_wp2_with fail
        refine (mayR_P HQ.out s q rfl hq).mono ?_
        cases hm : mayV s q
        · have HF := Lib.hid (show false = r by rw [HR.out, allOk_no (HN0.out false (by unfold joinOk; rw [if_pos hjp]; exact hm)) 4 HLT.out, Bool.and_false, Bool.false_and])
          clear hm e0 e1 hq
          rintro e w2 ⟨rfl, hq⟩
          go_wp2_with fail
          go_ret
          exact ⟨ret_bool HF.out, HQp.out _ hq⟩
        · have HN := Lib.hid (HN0.out true (by unfold joinOk; rw [if_pos hjp]; exact hm))
          clear hm e0 e1 hq
          rintro e w2 ⟨rfl, hq⟩
          have hk0 := HKd.out _ hq
          go_wp2_with fail
          refine (HPo.out _ hq).mono ?_
          clear hk0 hq
          rintro e w3 ⟨rfl, hq⟩
          go_wp2_with fail
          go_roundw
          case rel => exact ⟨j + 1, HLT.out, by go_num, hq, Lib.hid (by unfold allOk; rw [HOK.out, HN.out]; rfl)⟩
          case measure => simp [intOf]; omega
      · have hd1 : decide ((j : Int) < p) = false := by simp; omega
        have hd2 : decide (p ≤ (j : Int)) = true := by simp; omega
        have hk0 := HKd.out _ hq
        go_wp2_with fail
        refine (HPo.out _ hq).mono ?_
        clear hk0 hq
        rintro e w2 ⟨rfl, hq⟩
        obtain ⟨e0, e1⟩ := HC.out _ hq
        by_cases hm : s = -1 ∧ q = 0
        · obtain ⟨rfl, rfl⟩ := hm
          have HN := Lib.hid (HN0.out true (by unfold joinOk; rw [if_neg (by omega)]; rfl))
          go_wp2_with fail
          go_roundw
          case rel => exact ⟨j + 1, HLT.out, by go_num, hq, Lib.hid (by unfold allOk; rw [HOK.out, HN.out]; rfl)⟩
          case measure => simp [intOf]; omega
        · have HF := Lib.hid (show false = r by rw [HR.out, allOk_no (HN0.out false (by unfold joinOk; rw [if_neg (by omega), Bool.and_eq_false_iff, beq_eq_false_iff_ne, beq_eq_false_iff_ne]; omega)) 4 HLT.out, Bool.and_false, Bool.false_and])
          have hs : ¬ s = -1 ∨ (s = -1 ∧ ¬ q = 0) := by omega
          clear hm
          rcases hs with hs | ⟨rfl, hqz⟩
          all_goals
            go_wp2_with fail
            go_ret
            exact ⟨ret_bool HF.out, HQp.out _ hq⟩
    · obtain rfl : j = 4 := by omega
      rw [show ((4 : Nat) : Int) = 4 from rfl]
      go_wp2_with fail
      go_loopw [4] (fun i wr => ∃ j : Nat, j ≤ 2 ∧ i = .int .i64 j ∧ Q wr ∧ Hid (allCl n cl j = true))
        (fun i _ => 2 - (intOf i).toNat)
      case atStart => exact ⟨0, by omega, rfl, hq, Lib.hid rfl⟩
      case round =>
        obtain ⟨j, hj2, rfl, hq, HOK2⟩ := hrel
        by_cases hlt2 : j < 2
        · have hlt' : (j : Int) < 2 := by omega
          have HLT := Lib.hid hlt2
          obtain ⟨e, he⟩ : ∃ s, cl j = s := ⟨_, rfl⟩
          have HC : Hid (∀ W, Q W → W.cell? ⟨w.heap.size, 9 + j, none⟩ = some (.int .i64 e)) := Lib.hid (by rw [← he]; exact HCc.out j hlt2)
          have HN0 : Hid (∀ r, classOk n j e = r → classOk n j (cl j) = r) := Lib.hid (by rw [he]; exact fun r h => h)
          clear he hlt2
          have hce := HC.out _ hq
          have hcl : e < 0 ∨ 3 < e ∨ (0 ≤ e ∧ e ≤ 3) := by omega
          rcases hcl with h1 | h1 | ⟨h1, h3⟩
          · have HF := Lib.hid (show false = r by rw [HR.out, allCl_no (HN0.out false (by unfold classOk withinV; split <;> simp <;> omega)) 2 HLT.out, Bool.and_false])
            go_wp2_with fail
            go_ret
            exact ⟨ret_bool HF.out, HQp.out _ hq⟩
          · have HF := Lib.hid (show false = r by rw [HR.out, allCl_no (HN0.out false (by unfold classOk withinV; split <;> simp <;> omega)) 2 HLT.out, Bool.and_false])
            go_wp2_with fail
            go_ret
            exact ⟨ret_bool HF.out, HQp.out _ hq⟩
          · have hk0 := HKd.out _ hq
            go_wp2_with fail
            refine (HWa.out _ hq).mono ?_
            clear hk0 hq hce
            rintro e w2 ⟨rfl, hq⟩
            have hce := HC.out _ hq
            by_cases hjn : (j : Int) < n
            · have hd2 : decide (n ≤ (j : Int)) = false := by simp; omega
              have HN := Lib.hid (HN0.out true (by unfold classOk withinV; rw [if_pos hjn]; simp; omega))
              go_wp2_with fail
              go_roundw
              case rel => exact ⟨j + 1, HLT.out, by go_num, hq, Lib.hid (by unfold allCl; rw [HOK2.out, HN.out]; rfl)⟩
              case measure => simp [intOf]; omega
            · have hd2 : decide (n ≤ (j : Int)) = true := by simp; omega
              by_cases hz : e = 0
              · subst hz
                have HN := Lib.hid (HN0.out true (by unfold classOk; rw [if_neg (by omega)]; rfl))
                go_wp2_with fail
                go_roundw
                case rel => exact ⟨j + 1, HLT.out, by go_num, hq, Lib.hid (by unfold allCl; rw [HOK2.out, HN.out]; rfl)⟩
                case measure => simp [intOf]; omega
              · have HF := Lib.hid (show false = r by rw [HR.out, allCl_no (HN0.out false (by unfold classOk; rw [if_neg (by omega)]; simpa using hz)) 2 HLT.out, Bool.and_false])
                have hz' : (e != 0) = true := by simpa using hz
                go_wp2_with fail
                go_ret
                exact ⟨ret_bool HF.out, HQp.out _ hq⟩
        · obtain rfl : j = 2 := by omega
          rw [show ((2 : Nat) : Int) = 2 from rfl]
          have HF := Lib.hid (show decide (0 < p) = r by rw [HR.out, HOK.out, HOK2.out, Bool.and_true, Bool.and_true, Bool.eq_iff_iff]; simp; omega)
          have hk0 := HKd.out _ hq
          go_wp2_with fail
          refine (HPo.out _ hq).mono ?_
          clear hk0 hq
          rintro e w3 ⟨rfl, hq⟩
          go_wp2_with fail
          go_ret
          exact ⟨ret_bool HF.out, HQp.out _ hq⟩
end Go.Proofs.YtbalcbnlpgekaaaDoor
