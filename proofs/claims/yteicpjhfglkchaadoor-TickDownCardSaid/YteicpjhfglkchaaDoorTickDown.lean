/- The walk of TickDown: time left ends behind as many ticks as it is. -/
import Derived.Test.YteicpjhfglkchaaDoorTickB
namespace Go.Proofs.YteicpjhfglkchaaDoor
open Go.RowKit Go.Shelf
set_option linter.unusedVariables false

/-- What is left behind j ticks. -/
def leftV (n : Int) (j : Nat) : Int := if j = 0 then n else max (n - j) 0
theorem leftV_next (n : Int) (j : Nat) : downV (leftV n j) = leftV n (j + 1) := by
  unfold downV leftV
  by_cases h : j = 0
  · simp [h]
  · simp [h]; omega

set_option maxRecDepth 100000 in
set_option maxHeartbeats 4000000 in
theorem tickDown_walk (n t : Int) (w : World) (hn : -9223372036854775808 ≤ n ∧ n ≤ 9223372036854775807) (ht : -9223372036854775808 ≤ t ∧ t ≤ 9223372036854775807) (hT : Tops w) :
    Calls Tryd.prog 6 #[.int .i64 n, .int .i64 t] w fun e w' => e = .returned (.bool true) ∧ Below w.heap.size w w' := by
  have h : Now w w := ⟨hT, Below.refl _ _⟩
  have HN := Lib.hid hn
  have HT := Lib.hid ht
  clear hn ht hT
  go_enter Tryd.func6, Tryd.ntmps6
  go_wp2_with fail
  go_loopw [5, 6] (fun a i wr => ∃ j : Nat, j ≤ 50 ∧ i = .int .i64 j ∧ a = .int .i64 (leftV n j) ∧ Now w wr) (fun _ i _ => 50 - (intOf i).toNat)
  case atStart => exact ⟨0, Nat.zero_le _, rfl, rfl, h⟩
  case round =>
    obtain ⟨j, hj, rfl, rfl, h⟩ := hrel
    by_cases hlt : j < 50
    · have hlt' : (j : Int) < 50 := by omega
      have hr : -9223372036854775808 ≤ leftV n j ∧ leftV n j ≤ 9223372036854775807 := by have := HN.out; unfold leftV; split <;> omega
      have hnx := leftV_next n j
      generalize hx : leftV n j = x at hr hnx
      generalize hy : leftV n (j + 1) = y at hnx
      have HX := Lib.hid hx
      have HY := Lib.hid hy
      have HR := Lib.hid hr
      have HNX := Lib.hid hnx
      clear hx hy hr hnx
      go_wp2_with fail
      refine (down_now _ HR.out HNX.out h).mono ?_
      clear h
      rintro e w' ⟨rfl, h⟩
      have hnx := HNX.out
      have hr := HR.out
      unfold downV at hnx
      have y0 : ¬ y < 0 := by omega
      by_cases hp : 0 < x
      · have hp' : ¬ x ≤ 0 := by omega
        have hw : IntKind.i64.wrap (x - 1) = y := (IntWalk.i64_in _ (by omega)).trans (by omega)
        clear hnx hr
        go_wp2_with fail
        go_round
        case rel => exact ⟨j + 1, by omega, by go_num, by rw [HY.out], h⟩
        case measure => simp [intOf]; omega
      · have hp' : x ≤ 0 := by omega
        obtain rfl : y = 0 := by omega
        clear hnx hr
        go_wp2_with fail
        go_round
        case rel => exact ⟨j + 1, by omega, by go_num, by rw [HY.out], h⟩
        case measure => simp [intOf]; omega
    · obtain rfl : j = 50 := by omega
      have hl : leftV n 50 = max (n - 50) 0 := by simp [leftV]
      generalize leftV n 50 = x at hl
      have hn := HN.out
      have hd : decide (t < n) = !decide (n ≤ t) := by rw [Bool.eq_iff_iff]; simp
      have HD := Lib.hid hd
      clear hd
      rcases Int.lt_or_le n 0 with h0 | h0
      · have c0 : ¬ 0 ≤ n := by omega
        have c1 : ¬ 50 < n := by omega
        clear hl hn
        go_wp2_with fail
        refine (late_now _ _ _ HD.out h).mono ?_
        clear h
        rintro e w' ⟨rfl, h⟩
        go_wp2_with fail
        refine (wakes_now h).mono ?_
        clear h
        rintro e w' ⟨rfl, h⟩
        go_wp2_with fail
        go_ret
        exact ⟨rfl, h.below⟩
      · rcases Int.lt_or_le 50 n with h1 | h1
        · have c1 : ¬ n ≤ 50 := by omega
          have hw : IntKind.i64.wrap (n - 50) = x := (IntWalk.i64_in _ (by omega)).trans (by omega)
          clear hl hn
          go_wp2_with fail
          refine (late_now _ _ _ HD.out h).mono ?_
          clear h
          rintro e w' ⟨rfl, h⟩
          go_wp2_with fail
          refine (wakes_now h).mono ?_
          clear h
          rintro e w' ⟨rfl, h⟩
          go_wp2_with fail
          go_ret
          exact ⟨rfl, h.below⟩
        · obtain rfl : x = 0 := by omega
          have c1 : ¬ 50 < n := by omega
          clear hl hn
          go_wp2_with fail
          refine (late_now _ _ _ HD.out h).mono ?_
          clear h
          rintro e w' ⟨rfl, h⟩
          go_wp2_with fail
          refine (wakes_now h).mono ?_
          clear h
          rintro e w' ⟨rfl, h⟩
          go_wp2_with fail
          go_ret
          exact ⟨rfl, h.below⟩
end Go.Proofs.YteicpjhfglkchaaDoor
