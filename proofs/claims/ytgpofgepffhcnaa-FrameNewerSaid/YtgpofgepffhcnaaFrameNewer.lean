/- Of two unlike numbers just one is newer. -/
import Derived.Test.YtgpofgepffhcnaaFrameW
namespace Go.Proofs.Ytgpofgepffhcnaa
open Go.RowKit Go.Shelf
set_option linter.unusedVariables false

theorem newer_val (v : Bool) (n was : Int) (w : World) (h0 : 0 ≤ n) (h1 : n ≤ 255) (g0 : 0 ≤ was) (g1 : was ≤ 255) (h : newerN n was = v) :
    Calls Try.prog 17 #[.int .u8 n, .int .u8 was] w fun e w' => e = .returned (.bool v) ∧ w = w' := by
  subst h; exact newer_any n was w h0 h1 g0 g1
theorem newerN_self (n : Int) : newerN n n = false := by unfold newerN; rw [decide_eq_false]; omega
theorem newerN_half (n m : Int) (h : (n - m) % 256 = 128) : newerN n m = false ∧ newerN m n = false := by
  unfold newerN; constructor <;> (rw [decide_eq_false]; omega)
theorem newerN_other (n m : Int) (h0 : 0 ≤ n) (h1 : n ≤ 255) (g0 : 0 ≤ m) (g1 : m ≤ 255) (h : (n - m) % 256 ≠ 128) (hne : n ≠ m) : newerN m n = !newerN n m := by
  unfold newerN
  by_cases c : 1 ≤ (n - m) % 256 ∧ (n - m) % 256 ≤ 127
  · rw [decide_eq_true c, decide_eq_false (by omega)]; rfl
  · rw [decide_eq_false c, decide_eq_true (by omega)]; rfl
theorem newerN_shift (n m b : Int) : newerN ((n + b) % 256) ((m + b) % 256) = newerN n m := by
  unfold newerN
  rw [show ((n + b) % 256 - (m + b) % 256) % 256 = (n - m) % 256 by omega]
theorem newerN_one (m : Int) : newerN ((m + 1) % 256) m = true := by
  unfold newerN; rw [decide_eq_true]; omega

set_option maxHeartbeats 2000000 in
theorem frameNewer_walk (n was b : Int) (w : World) (h0 : 0 ≤ n) (h1 : n ≤ 255) (g0 : 0 ≤ was) (g1 : was ≤ 255) (b0 : 0 ≤ b) (b1 : b ≤ 255) :
    Calls Try.prog 6 #[.int .u8 n, .int .u8 was, .int .u8 b] w fun e w' => e = .returned (.bool true) ∧ Below w.heap.size w w' := by
  by_cases hne : n = was
  · subst hne
    have HS := Lib.hid (newerN_self n)
    have hs : n - n = 0 := by omega
    go_enter Try.func6, Try.ntmps6
    go_wp2_with fail
    refine (newer_val false n n _ h0 h1 h0 h1 HS.out).mono ?_
    rintro e w' ⟨rfl, rfl⟩
    go_wp2_with fail
    refine (newer_val false n n _ h0 h1 h0 h1 HS.out).mono ?_
    rintro e w' ⟨rfl, rfl⟩
    go_wp2_with fail
    refine (wakes_any _).mono ?_
    rintro e w' ⟨rfl, hB⟩
    go_wp2_with fail
    go_ret
    exact ⟨rfl, hB⟩
  by_cases h128 : (n - was) % 256 = 128
  · have HA := Lib.hid (newerN_half n was h128).1
    have HB := Lib.hid (newerN_half n was h128).2
    have c1 : ((n - was) % 256 == 128) = true := by simpa using h128
    clear hne h128
    go_enter Try.func6, Try.ntmps6
    go_wp2_with fail
    refine (newer_val false n was _ h0 h1 g0 g1 HA.out).mono ?_
    rintro e w' ⟨rfl, rfl⟩
    go_wp2_with fail
    refine (newer_val false was n _ g0 g1 h0 h1 HB.out).mono ?_
    rintro e w' ⟨rfl, rfl⟩
    go_wp2_with fail
    refine (wakes_any _).mono ?_
    rintro e w' ⟨rfl, hB⟩
    go_wp2_with fail
    go_ret
    exact ⟨rfl, hB⟩
  have HO := newerN_other n was h0 h1 g0 g1 h128 hne
  have HS := newerN_shift n was b
  have H1 := Lib.hid (newerN_one was)
  have c1 : ((n - was) % 256 == 128) = false := by simpa using h128
  have c2 : (n == was) = false := by simpa using hne
  clear hne h128
  cases ha : newerN n was
  all_goals
    rw [ha] at HO HS
    have HO' := Lib.hid HO
    have HS' := Lib.hid HS
    have HA := Lib.hid ha
    clear HO HS ha
    go_enter Try.func6, Try.ntmps6
    go_wp2_with fail
    refine (newer_val _ n was _ h0 h1 g0 g1 HA.out).mono ?_
    rintro e w' ⟨rfl, rfl⟩
    go_wp2_with fail
    refine (newer_val _ was n _ g0 g1 h0 h1 HO'.out).mono ?_
    rintro e w' ⟨rfl, rfl⟩
    go_wp2_with fail
    refine (newer_val _ ((n + b) % 256) ((was + b) % 256) _ (by omega) (by omega) (by omega) (by omega) HS'.out).mono ?_
    rintro e w' ⟨rfl, rfl⟩
    go_wp2_with fail
    refine (newer_val true ((was + 1) % 256) was _ (by omega) (by omega) g0 g1 H1.out).mono ?_
    rintro e w' ⟨rfl, rfl⟩
    go_wp2_with fail
    refine (wakes_any _).mono ?_
    rintro e w' ⟨rfl, hB⟩
    go_wp2_with fail
    go_ret
    exact ⟨rfl, hB⟩
end Go.Proofs.Ytgpofgepffhcnaa
