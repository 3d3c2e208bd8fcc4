/- The walk of TickParts: a counter that is counted on in parts is as counted on at once. -/
import Derived.Test.YteicpjhfglkchaaDoorTickB
namespace Go.Proofs.YteicpjhfglkchaaDoor
open Go.RowKit Go.Shelf
set_option linter.unusedVariables false

theorem more_parts (n a b : Int) (ha : 0 ≤ a) (hb : 0 ≤ b) : moreV (moreV n a) b = moreV n (a + b) := by unfold moreV countV; omega
theorem more_count (n a : Int) : countV (moreV n a) = moreV n a := by unfold moreV countV; omega
theorem more_zero (n : Int) : countV n = moreV n 0 := by unfold moreV countV; omega
/-- What the count is behind j ticks, one by one. -/
def onesV (n : Int) (j : Nat) : Int := if j = 0 then n else moreV n j
theorem onesV_next (n : Int) (j : Nat) : moreV (onesV n j) 1 = onesV n (j + 1) := by
  unfold onesV
  by_cases h : j = 0
  · subst h; rfl
  · rw [if_neg h, if_neg (Nat.succ_ne_zero j), more_parts n j 1 (Int.natCast_nonneg j) (by decide)]; rfl
theorem onesV_count (n : Int) (j : Nat) : countV (onesV n j) = moreV n j := by
  unfold onesV
  by_cases h : j = 0
  · subst h; exact more_zero n
  · rw [if_neg h]; exact more_count n j

set_option maxRecDepth 100000 in
set_option maxHeartbeats 4000000 in
theorem tickParts_walk (n a b : Int) (w : World) (hn : -9223372036854775808 ≤ n ∧ n ≤ 9223372036854775807) (hT : Tops w) :
    Calls Tryd.prog 5 #[.int .i64 n, .int .i64 a, .int .i64 b] w fun e w' => e = .returned (.bool true) ∧ Below w.heap.size w w' := by
  have h : Now w w := ⟨hT, Below.refl _ _⟩
  have HN := Lib.hid hn
  clear hn hT
  by_cases h1 : min a b < 0
  · go_enter Tryd.func5, Tryd.ntmps5
    go_wp2_with fail
    refine (wakes_now h).mono ?_
    clear h
    rintro e w' ⟨rfl, h⟩
    go_wp2_with fail
    go_ret
    exact ⟨rfl, h.below⟩
  by_cases h2 : 1099511627776 < max a b
  · go_enter Tryd.func5, Tryd.ntmps5
    go_wp2_with fail
    refine (wakes_now h).mono ?_
    clear h
    rintro e w' ⟨rfl, h⟩
    go_wp2_with fail
    go_ret
    exact ⟨rfl, h.below⟩
  have ha : 0 ≤ a := by omega
  have hb : 0 ≤ b := by omega
  have hab : a + b ≤ 9223372036854775807 := by omega
  have hab0 : -9223372036854775808 ≤ a + b := by omega
  have hp := more_parts n a b ha hb
  obtain ⟨x, hx⟩ : ∃ x, moreV n a = x := ⟨_, rfl⟩
  obtain ⟨y, hy⟩ : ∃ y, moreV n (a + b) = y := ⟨_, rfl⟩
  rw [hx, hy] at hp
  have HX := Lib.hid hx
  have HY := Lib.hid hy
  have HP := Lib.hid hp
  have HA := Lib.hid ha
  have HB := Lib.hid hb
  clear hx hy hp ha hb
  go_enter Tryd.func5, Tryd.ntmps5
  go_wp2_with fail
  refine (more_now _ _ HX.out h).mono ?_
  clear h
  rintro e w' ⟨rfl, h⟩
  go_wp2_with fail
  refine (more_now _ _ HP.out h).mono ?_
  clear h
  rintro e w' ⟨rfl, h⟩
  go_wp2_with fail
  refine (more_now _ _ HY.out h).mono ?_
  clear h
  rintro e w' ⟨rfl, h⟩
  go_wp2_with fail
  go_loopw [7, 8] (fun m i wr => ∃ j : Nat, (j : Int) ≤ min a 50 ∧ i = .int .i64 j ∧ m = .int .i64 (onesV n j) ∧ Now w wr) (fun _ i _ => 50 - (intOf i).toNat)
  case atStart => exact ⟨0, by have := HA.out; omega, rfl, rfl, h⟩
  case round =>
    obtain ⟨j, hj, rfl, rfl, h⟩ := hrel
    by_cases hlt : (j : Int) < min a 50
    · have l1 : (j : Int) < a := by omega
      have l2 : (j : Int) < 50 := by omega
      have hnx := onesV_next n j
      generalize hu : onesV n j = u at hnx
      generalize hv : onesV n (j + 1) = v at hnx
      have HU := Lib.hid hu
      have HV := Lib.hid hv
      have HNX := Lib.hid hnx
      have HL := Lib.hid hlt
      clear hu hv hnx hlt hj
      go_wp2_with fail
      refine (more_now _ _ HNX.out h).mono ?_
      clear h
      rintro e w' ⟨rfl, h⟩
      go_wp2_with fail
      go_round
      case rel => exact ⟨j + 1, by have := HL.out; omega, by go_num, by rw [HV.out], h⟩
      case measure => simp [intOf]; omega
    · have hje : (j : Int) = min a 50 := by omega
      have hor : ¬ ((j : Int) < a) ∨ ¬ ((j : Int) < 50) := by omega
      have hc := onesV_count n j
      rw [hje] at hc
      have hmn : (min a 50 : Int) = min a 50 := rfl
      generalize hu : onesV n j = u at hc
      generalize hv : moreV n (min a 50) = v at hc
      have HV := Lib.hid hv
      have HC := Lib.hid hc
      clear hu hv hc hje hlt hj
      by_cases l1 : (j : Int) < a
      · have l2 : ¬ (j : Int) < 50 := by omega
        clear hor
        go_wp2_with fail
        refine (more_now _ _ HV.out h).mono ?_
        clear h
        rintro e w' ⟨rfl, h⟩
        go_wp2_with fail
        refine (count_now _ HC.out h).mono ?_
        clear h
        rintro e w' ⟨rfl, h⟩
        go_wp2_with fail
        refine (wakes_now h).mono ?_
        clear h
        rintro e w' ⟨rfl, h⟩
        go_wp2_with fail
        go_ret
        exact ⟨rfl, h.below⟩
      · clear hor
        go_wp2_with fail
        refine (more_now _ _ HV.out h).mono ?_
        clear h
        rintro e w' ⟨rfl, h⟩
        go_wp2_with fail
        refine (count_now _ HC.out h).mono ?_
        clear h
        rintro e w' ⟨rfl, h⟩
        go_wp2_with fail
        refine (wakes_now h).mono ?_
        clear h
        rintro e w' ⟨rfl, h⟩
        go_wp2_with fail
        go_ret
        exact ⟨rfl, h.below⟩
end Go.Proofs.YteicpjhfglkchaaDoor
