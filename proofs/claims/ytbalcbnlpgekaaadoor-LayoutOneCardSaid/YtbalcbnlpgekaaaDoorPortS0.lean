/- The document's own answer for layer 5: the way from port to port, whether a port may be. -/
import Derived.Test.YtbalcbnlpgekaaaDoorPortR
namespace Go.Proofs.YtbalcbnlpgekaaaDoor
open Go.RowKit Go.Shelf
set_option linter.unusedVariables false
set_option linter.unusedSimpArgs false

theorem waysL_succ {n a b c d : Int} {j : Nat} (hn : n = 0 ∨ n = 1 ∨ n = 2) (hj : (j : Int) < n) : (waysL n a b c d).take (j + 1) = (waysL n a b c d).take j ++ [((j : Int), endA n a c j, endA n b d j)] := by
  rcases hn with rfl | rfl | rfl
  · omega
  · obtain rfl : j = 0 := by omega
    rfl
  · have : j = 0 ∨ j = 1 := by omega
    rcases this with rfl | rfl <;> rfl
theorem hasV_yes {n : Int} {j : Nat} (hj : (j : Int) < n) : hasV n j = true := by unfold hasV; simp; omega

section
variable {P : World → Prop} {w : World} {k p n a b c d : Int}
set_option maxRecDepth 100000 in
set_option maxHeartbeats 4000000 in
theorem wayR_P (i o : Int) {v : Int} {r : Bool} (hk : IsShape k p n a b c d) (hv : wayV n a b c d i o = v) (hr : goesV n a b c d i o = r) (h : P w) :
    Calls Tryd.prog 25 #[.int .u8 k, .int .i64 i, .int .i64 o] w fun e w' => e = .returned (.tuple #[.int .i64 v, .bool r]) ∧ P w' := by
  have HW := Lib.hid (fun w' h' => waysR_P (P := P) (w := w') hk h')
  have HN := Lib.hid (isShape_n hk)
  have hn2 : n ≤ 2 := by have := HN.out; omega
  have HF : Hid (findW i o (waysL n a b c d) = if r = true then some v else none) := Lib.hid (by rw [findW_ways HN.out, hv, hr])
  have HZ : Hid (r = false → v = 0) := Lib.hid (by rw [← hv, ← hr]; exact wayV_none)
  have HE := Lib.hid (fun (y u v : Int) (r : Bool) hu hv hr w' h' => endsR_P (P := P) (w := w') y (u := u) (v := v) (r := r) hk hu hv hr h')
  clear hk hv hr
  go_enter Tryd.func25, Tryd.ntmps25
  go_wp2_with fail
  go_loopw [8] (fun x wr => ∃ j : Nat, (j : Int) ≤ max n 0 ∧ x = .int .i64 j ∧ Hid (findW i o ((waysL n a b c d).take j) = none) ∧ P wr)
    (fun x _ => n.toNat - (intOf x).toNat)
  case atStart => exact ⟨0, by omega, rfl, Lib.hid rfl, h⟩
  case round =>
    obtain ⟨j, hj, rfl, HNo, hp⟩ := hrel
    go_wp2_with fail
    refine (HW.out _ hp).mono ?_
    clear hp
    rintro e w1 ⟨rfl, hp⟩
    by_cases hlt : (j : Int) < n
    · obtain ⟨A, hA⟩ : ∃ A, endA n a c j = A := ⟨_, rfl⟩
      obtain ⟨B, hB⟩ : ∃ B, endA n b d j = B := ⟨_, rfl⟩
      have HSn : Hid (findW i o ((waysL n a b c d).take (j + 1)) = if joinV A B i o = true then some (j : Int) else none) := Lib.hid (by
        rw [waysL_succ HN.out hlt, hA, hB]
        exact findW_snoc HNo.out)
      have HA := Lib.hid hA
      have HB := Lib.hid hB
      clear hA hB
      go_wp2_with fail
      refine (HE.out j A B true HA.out HB.out (hasV_yes hlt) _ hp).mono ?_
      clear hp
      rintro e w2 ⟨rfl, hp⟩
      cases hjv : joinV A B i o
      · have HNx : Hid (findW i o ((waysL n a b c d).take (j + 1)) = none) := Lib.hid (by rw [HSn.out, hjv]; rfl)
        have hcase : (¬ i = A ∧ ¬ i = B) ∨ (¬ i = A ∧ i = B ∧ ¬ o = A) ∨ (i = A ∧ ¬ o = B ∧ ¬ i = B) ∨ (i = A ∧ ¬ o = B ∧ i = B ∧ ¬ o = A) := by
          unfold joinV at hjv
          rw [Bool.or_eq_false_iff, Bool.and_eq_false_iff, Bool.and_eq_false_iff] at hjv
          simp only [beq_eq_false_iff_ne] at hjv
          omega
        clear hjv HSn
        rcases hcase with ⟨h1, h2⟩ | ⟨h1, rfl, h3⟩ | ⟨rfl, h2, h3⟩ | ⟨rfl, h2, rfl, h4⟩
        all_goals
          go_wp2_with fail
          all_goals
            go_roundw
            case rel => exact ⟨j + 1, by omega, by go_num, HNx, hp⟩
            case measure => simp [intOf]; omega
      · have hfull : findW i o (waysL n a b c d) = some (j : Int) := findW_take (j := j + 1) (by rw [HSn.out, hjv]; rfl)
        rw [HF.out] at hfull
        have hrv : r = true ∧ v = j := by
          cases r
          · simp at hfull
          · exact ⟨rfl, by simpa using hfull⟩
        obtain ⟨rfl, hvj⟩ := hrv
        have HVJ := Lib.hid hvj
        have hcase : (i = A ∧ o = B) ∨ (i = B ∧ o = A ∧ ¬ i = A) ∨ (i = A ∧ ¬ o = B ∧ i = B ∧ o = A) := by
          unfold joinV at hjv
          rw [Bool.or_eq_true, Bool.and_eq_true, Bool.and_eq_true] at hjv
          simp only [beq_iff_eq] at hjv
          omega
        clear hjv HSn hfull hvj
        rcases hcase with ⟨rfl, rfl⟩ | ⟨rfl, rfl, h3⟩ | ⟨rfl, h2, h3, h4⟩
        · go_wp2_with fail
          go_ret2
          exact ⟨by rw [HVJ.out]; rfl, hp⟩
        · go_wp2_with fail
          go_ret2
          exact ⟨by rw [HVJ.out]; rfl, hp⟩
        · exact absurd (h4.trans h3) h2
    · obtain rfl : j = n.toNat := by omega
      have hall : (waysL n a b c d).take n.toNat = waysL n a b c d := List.take_of_length_le (by unfold waysL; rw [List.length_take]; omega)
      have hno := HNo.out
      rw [hall, HF.out] at hno
      have hr0 : r = false := by cases r <;> simp at hno ⊢
      subst hr0
      have HV0 := Lib.hid (HZ.out rfl)
      clear hall hno
      go_wp2_with fail
      go_ret2
      exact ⟨by rw [HV0.out]; rfl, hp⟩
end

set_option maxHeartbeats 4000000 in
theorem mayR_P {P : World → Prop} {w : World} (hP : Closed P) (s p : Int) {r : Bool} (hr : mayV s p = r) (h : P w) : Calls Tryd.prog 94 #[.agg #[.int .i64 s, .int .i64 p]] w fun e w' => e = .returned (.bool r) ∧ P w' := by
  have hte : ¬ s = -1 ∨ (s = -1 ∧ ¬ p = 0) ∨ (s = -1 ∧ p = 0) := by omega
  have HR : Hid (r = ((s == -1 && p == 0) || (withinV s 23 && withinV p 3))) := Lib.hid hr.symm
  clear hr
  rcases hte with hs | ⟨rfl, hq⟩ | ⟨rfl, rfl⟩
  all_goals
    go_enter Tryd.func94, Tryd.ntmps94
    go_wp2_with fail
    all_goals
      go_ret
      exact ⟨ret_bool (by rw [HR.out, Bool.eq_iff_iff]; simp [withinV]; try omega), hP _ _ h (below1 _ _)⟩
end Go.Proofs.YtbalcbnlpgekaaaDoor
