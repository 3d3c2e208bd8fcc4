/- The walk of TickRow: a row counts the ticks behind the last one at which nothing was told. -/
import Derived.Test.YteicpjhfglkchaaDoorTickB
import Derived.Test.YteicpjhfglkchaaDoorIn
namespace Go.Proofs.YteicpjhfglkchaaDoor
open Go.RowKit Go.Shelf
set_option linter.unusedVariables false

/-- How many were told in a row, behind j ticks. -/
def runV (l : List Bool) : Nat → Nat
  | 0 => 0
  | j + 1 => if l[j]?.getD false then runV l j + 1 else 0
theorem runV_le (l : List Bool) (j : Nat) : runV l j ≤ j := by
  induction j with
  | zero => simp [runV]
  | succ j ih => simp only [runV]; split <;> omega
theorem runV_row (l : List Bool) (j : Nat) (hj : j < 65535) : rowV (l[j]?.getD false) (runV l j) = runV l (j + 1) := by
  have hle := runV_le l j
  show (if l[j]?.getD false then moreV (runV l j) 1 else 0) = ((if l[j]?.getD false then runV l j + 1 else 0 : Nat) : Int)
  cases l[j]?.getD false
  · rfl
  · show moreV (runV l j) 1 = ((runV l j + 1 : Nat) : Int)
    unfold moreV countV
    rw [Int.natCast_add]
    omega

set_option maxRecDepth 100000 in
set_option maxHeartbeats 4000000 in
theorem tickRow_walk (A : Option Addr) (cap : Nat) (l : List Bool) (w : World) (hr : Row w w.heap.size A (flags l)) (hl : l.length ≤ maxLen) (hT : Tops w) :
    Calls Tryd.prog 7 #[.slice A l.length cap] w fun e w' => e = .returned (.bool true) ∧ Below w.heap.size w w' := by
  have h : Now w w := ⟨hT, Below.refl _ _⟩
  unfold maxLen at hl
  clear hT
  by_cases h1 : 100 < l.length
  · have c1 : (100 : Int) < (l.length : Int) := by omega
    go_enter Tryd.func7, Tryd.ntmps7
    go_wp2_with fail
    refine (wakes_now h).mono ?_
    clear h
    rintro e w' ⟨rfl, h⟩
    go_wp2_with fail
    go_ret
    exact ⟨rfl, h.below⟩
  have c1 : ¬ (100 : Int) < (l.length : Int) := by omega
  have HL := Lib.hid (show l.length ≤ 100 by omega)
  clear hl h1
  go_enter Tryd.func7, Tryd.ntmps7
  go_wp2_with fail
  clear c1
  go_loopw [3, 4, 5] (fun n s i wr => ∃ j : Nat, j ≤ l.length ∧ i = .int .i64 j ∧ n = .int .i64 (runV l j) ∧ s = .int .i64 (runV l j) ∧ Now w wr) (fun _ _ i _ => l.length - (intOf i).toNat)
  case atStart => exact ⟨0, Nat.zero_le _, rfl, rfl, rfl, h⟩
  case round =>
    obtain ⟨j, hj, rfl, rfl, rfl, h⟩ := hrel
    by_cases hlt : j < l.length
    · obtain ⟨b, off, rfl, hb, hc⟩ := hr.flag hlt
      have hle := runV_le l j
      have h100 := HL.out
      have hrow := runV_row l j (by omega)
      have c2 : (j : Int) < l.length := by omega
      have c5 : (j : Int) + 1 ≤ 9223372036854775807 := by omega
      have c3 : (runV l j : Int) + 1 ≤ 9223372036854775807 := by omega
      have c4 : (0 : Int) ≤ (runV l j : Int) := by omega
      have hsucc : (runV l (j + 1) : Int) = if l[j]?.getD false then (runV l j : Int) + 1 else 0 := by simp only [runV]; split <;> simp
      generalize (runV l j : Int) = r at hrow c3 c4 hsucc
      generalize hz : (runV l (j + 1) : Int) = z at hrow hsucc
      have hcell := (h.below.cell (p := ⟨b, off + j, none⟩) hb).trans hc
      generalize l[j]?.getD false = t at hc hrow hsucc hcell
      have HROW := Lib.hid hrow
      have HZ := Lib.hid hz
      have HLT := Lib.hid hlt
      clear hle h100 hrow hz hlt hj
      go_wp2_with fail
      refine (row_now _ _ HROW.out h).mono ?_
      clear h hcell
      rintro e w' ⟨rfl, h⟩
      have hcell := (h.below.cell (p := ⟨b, off + j, none⟩) hb).trans hc
      cases t with
      | true =>
        simp only [if_true] at hsucc
        subst hsucc
        go_wp2_with fail
        go_round
        case rel => exact ⟨j + 1, HLT.out, by go_num, by rw [HZ.out], by rw [HZ.out], h⟩
        case measure => simp [intOf]; omega
      | false =>
        simp only [Bool.false_eq_true, if_false] at hsucc
        subst hsucc
        go_wp2_with fail
        go_round
        case rel => exact ⟨j + 1, HLT.out, by go_num, by rw [HZ.out], by rw [HZ.out], h⟩
        case measure => simp [intOf]; omega
    · obtain rfl : j = l.length := by omega
      have c2 : ¬ (l.length : Int) < l.length := by omega
      have c4 : (0 : Int) ≤ (runV l l.length : Int) := by omega
      go_wp2_with fail
      refine (wakes_now h).mono ?_
      clear h
      rintro e w' ⟨rfl, h⟩
      go_wp2_with fail
      go_ret
      exact ⟨rfl, h.below⟩
end Go.Proofs.YteicpjhfglkchaaDoor
