/- Small functions of package bits: sizes, widths, and what has room in a width. -/
import Derived.Test.YtaaaehaiimmnhaaChecked
import Derived.WalkKit
import Derived.BigQuiet
import Derived.Deep.QuietTactic
import Derived.Lib.Hide
namespace Go.Proofs.Ytaaaehaiimmnhaa
set_option linter.unusedVariables false
open Go.RowKit

/-- How many bytes so many bits want. -/
def sizeOf8 (n : Int) : Int := (n + 7) / 8

theorem ret_int {k : IntKind} {a b : Int} (h : a = b) : Ending.returned (.int k a) = .returned (.int k b) := by rw [h]
theorem ret_bool {a b : Bool} (h : a = b) : Ending.returned (.bool a) = .returned (.bool b) := by rw [h]

set_option maxHeartbeats 400000 in
theorem size_any (n : Int) (h0 : 0 ≤ n) (h1 : n ≤ 9223372036854775807) (w : World) :
    Calls Try.prog 33 #[.int .i64 n] w fun e w' => e = .returned (.int .i64 (sizeOf8 n)) ∧ w = w' := by
  by_cases hz : n % 8 = 0
  · have hm : (n % 8 != 0) = false := by rw [hz]; rfl
    go_enter Try.func33, Try.ntmps33
    go_wp2_with fail
    go_ret
    exact ⟨ret_int (by unfold sizeOf8; omega), rfl⟩
  · have hm : (n % 8 != 0) = true := by simp; omega
    go_enter Try.func33, Try.ntmps33
    go_wp2_with fail
    go_ret
    exact ⟨ret_int (by unfold sizeOf8; omega), rfl⟩

/-- May a number have this width? -/
def wideB (n : Int) : Bool := decide (0 ≤ n) && decide (n ≤ 32)

set_option maxHeartbeats 400000 in
theorem wide_any (n : Int) (w : World) :
    Calls Try.prog 30 #[.int .i64 n] w fun e w' => e = .returned (.bool (wideB n)) ∧ w = w' := by
  by_cases h0 : 0 ≤ n
  · by_cases h1 : n ≤ 32
    all_goals
      go_enter Try.func30, Try.ntmps30
      go_wp2_with fail
      go_ret
      exact ⟨ret_bool (by simp [wideB, h0, h1]), rfl⟩
  · go_enter Try.func30, Try.ntmps30
    go_wp2_with fail
    go_ret
    exact ⟨ret_bool (by simp [wideB]; omega), rfl⟩

/-- Has a number room in this width? -/
def fitsB (n width : Int) : Bool := wideB width && decide (0 ≤ n) && decide (n < 2 ^ width.toNat)

theorem div_zero_lt (n k : Int) (h0 : 0 ≤ n) : (n / 2 ^ k.toNat == 0) = decide (n < 2 ^ k.toNat) := by
  have hp : (0 : Int) < 2 ^ k.toNat := Int.pow_pos (by omega)
  by_cases h : n < 2 ^ k.toNat
  · rw [Int.ediv_eq_zero_of_lt h0 h]; simp [h]
  · have h1 : 1 ≤ n / 2 ^ k.toNat := Int.le_ediv_of_mul_le hp (by omega)
    simp only [h, decide_false, beq_eq_false_iff_ne]
    omega

set_option maxHeartbeats 400000 in
theorem fits_any (n k : Int) (hn : n ≤ 9223372036854775807) (w : World) :
    Calls Try.prog 24 #[.int .i64 n, .int .i64 k] w fun e w' => e = .returned (.bool (fitsB n k)) ∧ w = w' := by
  cases hw : wideB k with
  | false =>
    go_enter Try.func24, Try.ntmps24
    go_wp2_with (go_at_call 30; refine (wide_any _ _).mono ?_; rw [hw]; rintro e w' ⟨rfl, rfl⟩)
    go_ret
    exact ⟨ret_bool (by simp [fitsB, hw]), rfl⟩
  | true =>
    by_cases h0 : 0 ≤ n
    · have H : Hid (wideB k = true) := hw
      have hk : 0 ≤ k ∧ k ≤ 32 := by simpa [wideB] using hw
      obtain ⟨hk0, hk1⟩ := hk
      clear hw
      go_enter Try.func24, Try.ntmps24
      go_wp2_with (go_at_call 30; refine (wide_any _ _).mono ?_; rw [H.out]; rintro e w' ⟨rfl, rfl⟩)
      go_ret
      exact ⟨ret_bool (by rw [fitsB, H.out, div_zero_lt n k h0]; simp [h0]), rfl⟩
    · go_enter Try.func24, Try.ntmps24
      go_wp2_with (go_at_call 30; refine (wide_any _ _).mono ?_; rw [hw]; rintro e w' ⟨rfl, rfl⟩)
      go_ret
      exact ⟨ret_bool (by simp [fitsB, hw]; omega), rfl⟩
end Go.Proofs.Ytaaaehaiimmnhaa
