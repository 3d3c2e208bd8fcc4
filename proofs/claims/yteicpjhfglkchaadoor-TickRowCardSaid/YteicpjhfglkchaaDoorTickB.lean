/- Package tick: what its functions answer; the document's own; what the document says of a few (wakes). -/
import Derived.Test.YteicpjhfglkchaaDoorTickA
namespace Go.Proofs.YteicpjhfglkchaaDoor
open Go.RowKit Go.Shelf
set_option linter.unusedVariables false

/-- The tops lie as they did, and so does all that lay when w0 was the world. -/
structure Now (w0 w : World) : Prop where
  tops : Tops w
  below : Below w0.heap.size w0 w
theorem Now.on {w0 w w' : World} (h : Now w0 w) (hb : Below w.heap.size w w') : Now w0 w' := ⟨h.tops.below hb, h.below.trans (hb.mono h.below.size)⟩
theorem Now.drew {w0 w : World} (h : Now w0 w) : Now w0 w.drew := h.on (Below.refl _ w).drew
theorem Now.drewN {w0 w : World} (h : Now w0 w) (n : Nat) : Now w0 (w.drewN n) := h.on (below_drawn (Below.refl _ w) n)

def clockV (n : Int) : Int := min (max n 0) 1073741824
def countV (n : Int) : Int := min (max n 0) 65535
def nextV (n : Int) : Int := min (clockV n + 1) 1073741824
def moreV (c b : Int) : Int := min (countV c + countV b) 65535
def downV (n : Int) : Int := max (n - 1) 0
def rowV (t : Bool) (n : Int) : Int := if t then moreV n 1 else 0

theorem clockV_eq (n : Int) : cutAt 1073741824 n = clockV n := rfl
theorem countV_eq (n : Int) : cutAt 65535 n = countV n := rfl
theorem nextV_eq (n : Int) : onV 1073741824 n 1 = nextV n := by unfold onV nextV clockV cutAt; omega
theorem moreV_eq (n b : Int) : onV 65535 n b = moreV n b := by unfold onV moreV countV cutAt; omega

section
variable {w0 w : World} {v : Int}

theorem clock_now (n : Int) (hv : clockV n = v) (h : Now w0 w) : Calls Tryd.prog 8 #[.int .i64 n] w fun e w' => e = .returned (.int .i64 v) ∧ Now w0 w' := by
  have hw := within_any 0 1073741824 n (.inl ⟨rfl, rfl⟩) w h.tops
  rw [clockV_eq, hv] at hw
  have HW := Lib.hid hw
  clear hw hv
  go_enter Tryd.func8, Tryd.ntmps8
  go_wp2_with fail
  refine HW.out.mono ?_
  rintro e w' ⟨rfl, rfl⟩
  go_wp2_with fail
  go_ret
  exact ⟨rfl, h⟩
theorem count_now (n : Int) (hv : countV n = v) (h : Now w0 w) : Calls Tryd.prog 12 #[.int .i64 n] w fun e w' => e = .returned (.int .i64 v) ∧ Now w0 w' := by
  have hw := within_any 1 65535 n (.inr ⟨rfl, rfl⟩) w h.tops
  rw [countV_eq, hv] at hw
  have HW := Lib.hid hw
  clear hw hv
  go_enter Tryd.func12, Tryd.ntmps12
  go_wp2_with fail
  refine HW.out.mono ?_
  rintro e w' ⟨rfl, rfl⟩
  go_wp2_with fail
  go_ret
  exact ⟨rfl, h⟩
theorem next_now (n : Int) (hv : nextV n = v) (h : Now w0 w) : Calls Tryd.prog 10 #[.int .i64 n] w fun e w' => e = .returned (.int .i64 v) ∧ Now w0 w' := by
  have hw := onBy_any 0 1073741824 n 1 (.inl ⟨rfl, rfl⟩) w h.tops
  rw [nextV_eq, hv] at hw
  have HW := Lib.hid hw
  clear hw hv
  go_enter Tryd.func10, Tryd.ntmps10
  go_wp2_with fail
  refine HW.out.mono ?_
  rintro e w' ⟨rfl, hB⟩
  go_wp2_with fail
  go_ret
  exact ⟨rfl, h.on hB⟩
theorem more_now (n b : Int) (hv : moreV n b = v) (h : Now w0 w) : Calls Tryd.prog 14 #[.int .i64 n, .int .i64 b] w fun e w' => e = .returned (.int .i64 v) ∧ Now w0 w' := by
  have hw := onBy_any 1 65535 n b (.inr ⟨rfl, rfl⟩) w h.tops
  rw [moreV_eq, hv] at hw
  have HW := Lib.hid hw
  clear hw hv
  go_enter Tryd.func14, Tryd.ntmps14
  go_wp2_with fail
  refine HW.out.mono ?_
  rintro e w' ⟨rfl, hB⟩
  go_wp2_with fail
  go_ret
  exact ⟨rfl, h.on hB⟩
theorem down_now (n : Int) (hn : -9223372036854775808 ≤ n ∧ n ≤ 9223372036854775807) (hv : downV n = v) (h : Now w0 w) : Calls Tryd.prog 16 #[.int .i64 n] w fun e w' => e = .returned (.int .i64 v) ∧ Now w0 w' := by
  unfold downV at hv
  have hm : max n 1 - 1 = v := by omega
  have hr : (-9223372036854775808 : Int) ≤ max n 1 - 1 ∧ max n 1 - 1 ≤ 9223372036854775807 := by omega
  have hw1 : IntKind.i64.wrap (max n 1 - 1) = v := (IntWalk.i64_in _ (by omega)).trans hm
  clear hm hr hv
  go_enter Tryd.func16, Tryd.ntmps16
  go_wp2_with fail
  go_ret
  exact ⟨rfl, h⟩
theorem late_now (a t : Int) (r : Bool) (hv : decide (t < a) = r) (h : Now w0 w) : Calls Tryd.prog 18 #[.int .i64 a, .int .i64 t] w fun e w' => e = .returned (.bool r) ∧ Now w0 w' := by
  subst hv
  go_enter Tryd.func18, Tryd.ntmps18
  go_wp2_with fail
  go_ret
  exact ⟨rfl, h⟩
theorem row_now (t : Bool) (n : Int) (hv : rowV t n = v) (h : Now w0 w) : Calls Tryd.prog 20 #[.bool t, .int .i64 n] w fun e w' => e = .returned (.int .i64 v) ∧ Now w0 w' := by
  cases t with
  | false =>
    obtain rfl : 0 = v := hv
    go_enter Tryd.func20, Tryd.ntmps20
    go_wp2_with fail
    go_ret
    exact ⟨rfl, h⟩
  | true =>
    have hw : moreV n 1 = v := hv
    have HW := Lib.hid (fun w' (h' : Now w0 w') => more_now n 1 hw h')
    clear hw hv
    go_enter Tryd.func20, Tryd.ntmps20
    go_wp2_with fail
    refine (HW.out _ h).mono ?_
    rintro e w' ⟨rfl, h'⟩
    go_wp2_with fail
    go_ret
    exact ⟨rfl, h'⟩

theorem withinR_any (n T : Int) (w : World) : Calls Tryd.prog 24 #[.int .i64 n, .int .i64 T] w fun e w' => e = .returned (.int .i64 (cutAt T n)) ∧ w' = w := by
  go_enter Tryd.func24, Tryd.ntmps24
  go_wp2_with fail
  go_ret
  exact ⟨rfl, rfl⟩
theorem clockR_any (n : Int) (w : World) : Calls Tryd.prog 9 #[.int .i64 n] w fun e w' => e = .returned (.int .i64 (clockV n)) ∧ w' = w := by
  go_enter Tryd.func9, Tryd.ntmps9
  go_wp2_with fail
  refine (withinR_any _ _ _).mono ?_
  rintro e w' ⟨rfl, rfl⟩
  go_wp2_with fail
  go_ret
  exact ⟨rfl, rfl⟩
theorem countR_any (n : Int) (w : World) : Calls Tryd.prog 13 #[.int .i64 n] w fun e w' => e = .returned (.int .i64 (countV n)) ∧ w' = w := by
  go_enter Tryd.func13, Tryd.ntmps13
  go_wp2_with fail
  refine (withinR_any _ _ _).mono ?_
  rintro e w' ⟨rfl, rfl⟩
  go_wp2_with fail
  go_ret
  exact ⟨rfl, rfl⟩
theorem clockR_now (n : Int) (hv : clockV n = v) (h : Now w0 w) : Calls Tryd.prog 9 #[.int .i64 n] w fun e w' => e = .returned (.int .i64 v) ∧ Now w0 w' :=
  (clockR_any n w).mono fun e w' ⟨he, hw⟩ => ⟨by rw [he, hv], by rw [hw]; exact h⟩
theorem countR_now (n : Int) (hv : countV n = v) (h : Now w0 w) : Calls Tryd.prog 13 #[.int .i64 n] w fun e w' => e = .returned (.int .i64 v) ∧ Now w0 w' :=
  (countR_any n w).mono fun e w' ⟨he, hw⟩ => ⟨by rw [he, hv], by rw [hw]; exact h⟩
theorem nextR_now (n : Int) (hv : nextV n = v) (h : Now w0 w) : Calls Tryd.prog 11 #[.int .i64 n] w fun e w' => e = .returned (.int .i64 v) ∧ Now w0 w' := by
  have hc0 : -9223372036854775808 ≤ clockV n + 1 := by unfold clockV; omega
  have hc1 : clockV n + 1 ≤ 9223372036854775807 := by unfold clockV; omega
  have hv' : min (clockV n + 1) 1073741824 = v := hv
  clear hv
  go_enter Tryd.func11, Tryd.ntmps11
  go_wp2_with fail
  refine (clockR_any _ _).mono ?_
  rintro e w' ⟨rfl, rfl⟩
  go_wp2_with fail
  go_ret
  exact ⟨rfl, h⟩
theorem moreR_now (n b : Int) (hv : moreV n b = v) (h : Now w0 w) : Calls Tryd.prog 15 #[.int .i64 n, .int .i64 b] w fun e w' => e = .returned (.int .i64 v) ∧ Now w0 w' := by
  have hc0 : -9223372036854775808 ≤ countV n + countV b := by unfold countV; omega
  have hc1 : countV n + countV b ≤ 9223372036854775807 := by unfold countV; omega
  have hv' : min (countV n + countV b) 65535 = v := hv
  clear hv
  go_enter Tryd.func15, Tryd.ntmps15
  go_wp2_with fail
  refine (countR_any _ _).mono ?_
  rintro e w' ⟨rfl, rfl⟩
  go_wp2_with fail
  refine (countR_any _ _).mono ?_
  rintro e w' ⟨rfl, rfl⟩
  go_wp2_with fail
  go_ret
  exact ⟨rfl, h⟩
theorem downR_now (n : Int) (hn : -9223372036854775808 ≤ n ∧ n ≤ 9223372036854775807) (hv : downV n = v) (h : Now w0 w) : Calls Tryd.prog 17 #[.int .i64 n] w fun e w' => e = .returned (.int .i64 v) ∧ Now w0 w' := by
  unfold downV at hv
  by_cases h0 : n ≤ 0
  · obtain rfl : v = 0 := by omega
    clear hv
    go_enter Tryd.func17, Tryd.ntmps17
    go_wp2_with fail
    go_ret
    exact ⟨rfl, h⟩
  · have hw1 : IntKind.i64.wrap (n - 1) = v := (IntWalk.i64_in _ (by omega)).trans (by omega)
    clear hv
    go_enter Tryd.func17, Tryd.ntmps17
    go_wp2_with fail
    go_ret
    exact ⟨rfl, h⟩
theorem lateR_now (a t : Int) (r : Bool) (hv : decide (t < a) = r) (h : Now w0 w) : Calls Tryd.prog 19 #[.int .i64 a, .int .i64 t] w fun e w' => e = .returned (.bool r) ∧ Now w0 w' := by
  subst hv
  go_enter Tryd.func19, Tryd.ntmps19
  go_wp2_with fail
  go_ret
  exact ⟨rfl, h⟩
theorem rowR_now (t : Bool) (n : Int) (hv : rowV t n = v) (h : Now w0 w) : Calls Tryd.prog 21 #[.bool t, .int .i64 n] w fun e w' => e = .returned (.int .i64 v) ∧ Now w0 w' := by
  cases t with
  | false =>
    obtain rfl : 0 = v := hv
    go_enter Tryd.func21, Tryd.ntmps21
    go_wp2_with fail
    go_ret
    exact ⟨rfl, h⟩
  | true =>
    have hw : moreV n 1 = v := hv
    have HW := Lib.hid (fun w' (h' : Now w0 w') => moreR_now n 1 hw h')
    clear hw hv
    go_enter Tryd.func21, Tryd.ntmps21
    go_wp2_with fail
    refine (HW.out _ h).mono ?_
    rintro e w' ⟨rfl, h'⟩
    go_wp2_with fail
    go_ret
    exact ⟨rfl, h'⟩

set_option maxRecDepth 100000 in
set_option maxHeartbeats 4000000 in
theorem wakes_now (h : Now w0 w) : Calls Tryd.prog 22 #[] w fun e w' => e = .returned (.bool true) ∧ Now w0 w' := by
  go_enter Tryd.func22, Tryd.ntmps22
  go_wp2_with fail
  refine (next_now (v := 1) _ (by decide) h).mono ?_
  clear h
  rintro e w' ⟨rfl, h⟩
  go_wp2_with fail
  refine (next_now (v := 1073741824) _ (by decide) h).mono ?_
  clear h
  rintro e w' ⟨rfl, h⟩
  go_wp2_with fail
  refine (more_now (v := 65535) _ _ (by decide) h).mono ?_
  clear h
  rintro e w' ⟨rfl, h⟩
  go_wp2_with fail
  refine (clock_now (v := 0) _ (by decide) h).mono ?_
  clear h
  rintro e w' ⟨rfl, h⟩
  go_wp2_with fail
  refine (count_now (v := 65535) _ (by decide) h).mono ?_
  clear h
  rintro e w' ⟨rfl, h⟩
  go_wp2_with fail
  refine (down_now (v := 2) _ (by decide) (by decide) h).mono ?_
  clear h
  rintro e w' ⟨rfl, h⟩
  go_wp2_with fail
  refine (down_now (v := 0) _ (by decide) (by decide) h).mono ?_
  clear h
  rintro e w' ⟨rfl, h⟩
  go_wp2_with fail
  refine (late_now _ _ true (by decide) h).mono ?_
  clear h
  rintro e w' ⟨rfl, h⟩
  go_wp2_with fail
  refine (late_now _ _ false (by decide) h).mono ?_
  clear h
  rintro e w' ⟨rfl, h⟩
  go_wp2_with fail
  refine (row_now (v := 7) _ _ (by decide) h).mono ?_
  clear h
  rintro e w' ⟨rfl, h⟩
  go_wp2_with fail
  refine (row_now (v := 0) _ _ (by decide) h).mono ?_
  clear h
  rintro e w' ⟨rfl, h⟩
  go_wp2_with fail
  go_ret
  exact ⟨rfl, h⟩
end
end Go.Proofs.YteicpjhfglkchaaDoor
