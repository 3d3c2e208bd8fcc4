/- Bits of numbers of 32, and masks: plain arithmetic, no program. -/
import Derived.RangeFuncNested
import Derived.RangeFuncBound
import Derived.RangeFuncCalls
import Derived.RangeFuncLeaves
import Derived.RangeFuncBox
import Derived.Shelf.Abstract
import Derived.Shelf.RegionOpen
import Derived.WalkKit
import Derived.OwnWalkIn
import Derived.TacticsInMore
import Derived.LoopNIn
import Derived.LoopIn
import Derived.WalkMore
import Derived.Test.YtaeooldpmlakhaaMixW
namespace Go.Proofs.Ytaeooldpmlakhaa
open Go.RowKit Go.Shelf
set_option linter.unusedVariables false
set_option linter.unusedSimpArgs false

/-- Bits of numbers of 32. -/
def bitU (x : Int) (k : Nat) : Bool := decide (x / 2 ^ k % 2 = 1)
theorem low_bit_u32 (x : Int) (h0 : 0 ≤ x) (h1 : x ≤ 4294967295) : bits BinOp.and IntKind.u32 x 1 = x % 2 := by
  obtain ⟨a, rfl⟩ := Int.eq_ofNat_of_zero_le h0
  have ha : (BitVec.ofInt 32 (a : Int)).toNat = a := by rw [BitVec.ofInt_natCast, BitVec.toNat_ofNat]; omega
  show IntKind.u32.wrap ((BitVec.ofInt 32 (a : Int) &&& 1#32).toNat : Int) = _
  rw [BitVec.toNat_and, ha, show (1#32 : BitVec 32).toNat = 1 from rfl, Nat.and_one_is_mod]
  show ((a % 2 : Nat) : Int) % 4294967296 = _
  omega
theorem shr_range {x : Int} (h : 0 ≤ x ∧ x ≤ 4294967295) (k : Nat) : 0 ≤ x / 2 ^ k ∧ x / 2 ^ k ≤ 4294967295 := by
  have hp : (0 : Int) < 2 ^ k := Int.pow_pos (by omega)
  refine ⟨Int.ediv_nonneg h.1 (Int.le_of_lt hp), ?_⟩
  have := Int.ediv_le_self (2 ^ k) h.1
  omega
theorem bit_yes {x : Int} (h : 0 ≤ x ∧ x ≤ 4294967295) {k : Nat} (hb : bitU x k = true) : bits BinOp.and IntKind.u32 (x / 2 ^ k) 1 = 1 := by
  obtain ⟨h0, h1⟩ := shr_range h k
  rw [low_bit_u32 _ h0 h1]
  unfold bitU at hb
  simpa using hb
theorem bit_no {x : Int} (h : 0 ≤ x ∧ x ≤ 4294967295) {k : Nat} (hb : bitU x k = false) : bits BinOp.and IntKind.u32 (x / 2 ^ k) 1 = 0 := by
  obtain ⟨h0, h1⟩ := shr_range h k
  rw [low_bit_u32 _ h0 h1]
  unfold bitU at hb
  have := of_decide_eq_false hb
  omega
theorem bit_not {x : Int} (h : 0 ≤ x ∧ x ≤ 4294967295) {k : Nat} (hk : k < 32) : bitU (4294967295 - x) k = !bitU x k := by
  unfold bitU
  rw [← decide_not, decide_eq_decide]
  obtain ⟨h0, h1⟩ := h
  have key : ∀ k : Nat, k < 32 → ∃ m : Nat, 2 ^ k * (2 * m) = 4294967296 := fun k hk => ⟨2 ^ (31 - k), by rw [← Nat.mul_assoc, Nat.mul_comm (2 ^ k) 2, Nat.mul_assoc, ← Nat.pow_add, show k + (31 - k) = 31 by omega]⟩
  obtain ⟨m, hm⟩ := key k hk
  have hp : 0 < 2 ^ k := Nat.pow_pos (by omega)
  have hm' : ((2 : Int) ^ k) * (2 * (m : Int)) = 4294967296 := by
    have h := congrArg (Nat.cast : Nat → Int) hm
    rw [Int.natCast_mul, Int.natCast_mul, Int.natCast_pow] at h
    exact h
  have hp' : (0 : Int) < 2 ^ k := Int.pow_pos (by omega)
  generalize (2 : Int) ^ k = z at *
  have e1 := Int.emod_add_mul_ediv x z
  have r0 := Int.emod_nonneg x (Int.ne_of_gt hp')
  have r1 := Int.emod_lt_of_pos x hp'
  generalize x / z = q at *
  generalize x % z = r at *
  have e2 : (4294967295 - x) / z = 2 * (m : Int) - 1 - q := by
    have : 4294967295 - x = (z - 1 - r) + z * (2 * (m : Int) - 1 - q) := by
      rw [Int.mul_sub, Int.mul_sub, Int.mul_one]
      omega
    rw [this, Int.add_mul_ediv_left _ _ (Int.ne_of_gt hp'), Int.ediv_eq_zero_of_lt (by omega) (by omega), Int.zero_add]
  rw [e2]
  omega
theorem not_range {x : Int} (h : 0 ≤ x ∧ x ≤ 4294967295) : 0 ≤ 4294967295 - x ∧ 4294967295 - x ≤ 4294967295 := by omega
theorem not_u32 {x : Int} (h : 0 ≤ x ∧ x ≤ 4294967295) : bits BinOp.xor IntKind.u32 4294967295 x = 4294967295 - x := by
  obtain ⟨a, rfl⟩ := Int.eq_ofNat_of_zero_le h.1
  have ha : a < 2 ^ 32 := by omega
  show IntKind.u32.wrap ((BitVec.ofInt 32 4294967295 ^^^ BitVec.ofInt 32 (a : Int)).toNat : Int) = _
  have e : BitVec.ofInt 32 4294967295 = BitVec.allOnes 32 := by decide
  rw [e, BitVec.allOnes_xor, BitVec.toNat_not, BitVec.ofInt_natCast, BitVec.toNat_ofNat, Nat.mod_eq_of_lt ha]
  show ((2 ^ 32 - 1 - a : Nat) : Int) % 4294967296 = _
  omega

theorem not_u32m {x : Int} (h : 0 ≤ x ∧ x ≤ 4294967295) : bits BinOp.xor IntKind.u32 IntKind.u32.max x = 4294967295 - x := by
  rw [show IntKind.u32.max = 4294967295 by decide]
  exact not_u32 h

def maskJ (f : Nat → Bool) : Nat → Nat
  | 0 => 0
  | j + 1 => maskJ f j + if f j then 2 ^ j else 0
theorem maskJ_lt (f : Nat → Bool) : ∀ j, maskJ f j < 2 ^ j
  | 0 => by simp [maskJ]
  | j + 1 => by
    have := maskJ_lt f j
    unfold maskJ
    rw [Nat.pow_succ]
    split <;> omega
theorem maskJ_lt32 (f : Nat → Bool) {j : Nat} (h : j ≤ 24) : maskJ f j < 2 ^ 24 := Nat.lt_of_lt_of_le (maskJ_lt f j) (Nat.pow_le_pow_right (by omega) h)
theorem maskJ_bit (f : Nat → Bool) : ∀ (j k : Nat), maskJ f j / 2 ^ k % 2 = if k < j ∧ f k = true then 1 else 0
  | 0, k => by simp [maskJ]
  | j + 1, k => by
    have ih := maskJ_bit f j k
    have hlt := maskJ_lt f j
    have hp : 0 < 2 ^ k := Nat.pow_pos (by omega)
    unfold maskJ
    by_cases hf : f j = true
    · rw [if_pos hf]
      rcases Nat.lt_trichotomy k j with h | h | h
      · obtain ⟨d, rfl⟩ : ∃ d, j = k + 1 + d := ⟨j - (k + 1), by omega⟩
        rw [show 2 ^ (k + 1 + d) = 2 ^ k * (2 * 2 ^ d) by rw [Nat.pow_add, Nat.pow_succ, Nat.mul_assoc], Nat.add_mul_div_left _ _ hp, Nat.add_mul_mod_self_left, ih]
        simp only [show k < k + 1 + d by omega, show k < k + 1 + d + 1 by omega, true_and]
      · subst h
        rw [Nat.add_div_right _ hp, Nat.div_eq_of_lt hlt]
        simp [hf]
      · have h2 : 2 ^ j * 2 ≤ 2 ^ k := by rw [← Nat.pow_succ]; exact Nat.pow_le_pow_right (by omega) (by omega)
        rw [Nat.div_eq_of_lt (by omega)]
        simp only [show ¬ k < j + 1 by omega, false_and, if_false]
        
    · rw [if_neg hf, Nat.add_zero, ih]
      rcases Nat.lt_trichotomy k j with h | h | h
      · simp only [h, show k < j + 1 by omega, true_and]
      · subst h; simp [hf]
      · simp only [show ¬ k < j by omega, show ¬ k < j + 1 by omega, false_and]
theorem maskJ_U (f : Nat → Bool) (j k : Nat) : bitU (maskJ f j : Nat) k = (decide (k < j) && f k) := by
  unfold bitU
  have := maskJ_bit f j k
  rw [show ((maskJ f j : Nat) : Int) / 2 ^ k % 2 = ((maskJ f j / 2 ^ k % 2 : Nat) : Int) by norm_cast, this]
  by_cases h1 : k < j <;> cases h2 : f k <;> simp [h1]
theorem or_mask {m j : Nat} (hm : m < 2 ^ j) (hj : j < 24) : bits BinOp.or IntKind.u32 (m : Int) ((2 : Int) ^ j % 4294967296) = ((m + 2 ^ j : Nat) : Int) := by
  have hp : 2 ^ j < 2 ^ 24 := Nat.pow_lt_pow_right (by omega) hj
  have hmn : m + 2 ^ j < 2 ^ 25 := by omega
  have e : (2 : Int) ^ j % 4294967296 = ((2 ^ j : Nat) : Int) := by
    rw [show ((2 : Int) ^ j) = ((2 ^ j : Nat) : Int) by simp]
    generalize (2 : Nat) ^ j = z at *
    omega
  rw [e]
  show IntKind.u32.wrap ((BitVec.ofInt 32 (m : Int) ||| BitVec.ofInt 32 ((2 ^ j : Nat) : Int)).toNat : Int) = _
  rw [BitVec.ofInt_natCast, BitVec.ofInt_natCast, BitVec.toNat_or, BitVec.toNat_ofNat, BitVec.toNat_ofNat, Nat.mod_eq_of_lt (by omega), Nat.mod_eq_of_lt (by omega), Nat.or_comm]
  have := Nat.two_pow_add_eq_or_of_lt hm 1
  rw [Nat.mul_one] at this
  rw [← this, Nat.add_comm]
  show ((m + 2 ^ j : Nat) : Int) % 4294967296 = _
  omega
theorem maskJ_test (f : Nat → Bool) (j k : Nat) : (maskJ f j).testBit k = (decide (k < j) && f k) := by
  rw [Nat.testBit_eq_decide_div_mod_eq, maskJ_bit]
  by_cases h1 : k < j <;> cases h2 : f k <;> simp [h1]
theorem mask_nat {n : Nat} (h : n < 2 ^ 24) : (BitVec.ofInt 32 (n : Int)).toNat = n := by
  rw [BitVec.ofInt_natCast, BitVec.toNat_ofNat]
  exact Nat.mod_eq_of_lt (Nat.lt_of_lt_of_le h (by decide))
/-- Masks of what is never both have no bit both. -/
theorem mask_and {f g : Nat → Bool} (h : ∀ k, f k = true → g k = false) : bits BinOp.and IntKind.u32 (maskJ f 24 : Nat) (maskJ g 24 : Nat) = 0 := by
  show IntKind.u32.wrap ((BitVec.ofInt 32 ((maskJ f 24 : Nat) : Int) &&& BitVec.ofInt 32 ((maskJ g 24 : Nat) : Int)).toNat : Int) = _
  rw [BitVec.toNat_and, mask_nat (maskJ_lt f 24), mask_nat (maskJ_lt g 24)]
  have e : maskJ f 24 &&& maskJ g 24 = 0 := by
    apply Nat.eq_of_testBit_eq
    intro k
    rw [Nat.testBit_and, maskJ_test, maskJ_test, Nat.zero_testBit]
    cases hf : f k
    · simp
    · rw [h k hf]; simp
  rw [e]
  rfl
theorem mask_or (f g : Nat → Bool) : ∃ n : Nat, n < 2 ^ 24 ∧ bits BinOp.or IntKind.u32 (maskJ f 24 : Nat) (maskJ g 24 : Nat) = (n : Nat) := by
  refine ⟨maskJ f 24 ||| maskJ g 24, Nat.or_lt_two_pow (maskJ_lt f 24) (maskJ_lt g 24), ?_⟩
  have hlt := Nat.or_lt_two_pow (maskJ_lt f 24) (maskJ_lt g 24)
  show IntKind.u32.wrap ((BitVec.ofInt 32 ((maskJ f 24 : Nat) : Int) ||| BitVec.ofInt 32 ((maskJ g 24 : Nat) : Int)).toNat : Int) = _
  rw [BitVec.toNat_or, mask_nat (maskJ_lt f 24), mask_nat (maskJ_lt g 24)]
  show (((maskJ f 24 ||| maskJ g 24 : Nat) : Int)) % 4294967296 = _
  omega
/-- A mask, place by place. -/
def maskL (xs : List Nat) : Nat := (xs.map (2 ^ ·)).sum
theorem maskL_range (p : Nat → Bool) : ∀ m, maskL ((List.range m).filter p) = maskJ p m
  | 0 => rfl
  | m + 1 => by
    have ih := maskL_range p m
    unfold maskL at ih ⊢
    rw [List.range_succ, List.filter_append, List.map_append, List.sum_append, ih]
    rw [show maskJ p (m + 1) = maskJ p m + if p m then 2 ^ m else 0 from rfl]
    cases hp : p m <;> simp [hp]
theorem take_range (p : Nat → Bool) : ∀ (m : Nat) {j x : Nat}, ((List.range m).filter p)[j]? = some x → ((List.range m).filter p).take j = (List.range x).filter p ∧ p x = true ∧ x < m
  | 0, j, x, h => by simp at h
  | m + 1, j, x, h => by
    rw [List.range_succ, List.filter_append] at h ⊢
    by_cases hj : j < ((List.range m).filter p).length
    · rw [List.getElem?_append_left hj] at h
      obtain ⟨h1, h2, h3⟩ := take_range p m h
      exact ⟨by rw [List.take_append_of_le_length (Nat.le_of_lt hj)]; exact h1, h2, by omega⟩
    · have hjl : ((List.range m).filter p).length ≤ j := by omega
      rw [List.getElem?_append_right hjl] at h
      cases hp : p m
      · rw [List.filter_cons_of_neg (by simp [hp])] at h
        simp at h
      · rw [List.filter_cons_of_pos hp] at h
        obtain ⟨hk, rfl⟩ : j - ((List.range m).filter p).length = 0 ∧ m = x := by
          cases hd : j - ((List.range m).filter p).length with
          | zero => rw [hd] at h; simp at h; exact ⟨rfl, h⟩
          | succ d => rw [hd] at h; simp at h
        have hje : j = ((List.range m).filter p).length := by omega
        exact ⟨by rw [hje, List.take_left'  rfl], hp, by omega⟩
theorem maskL_take {p : Nat → Bool} {m j x : Nat} (h : ((List.range m).filter p)[j]? = some x) : maskL (((List.range m).filter p).take j) = maskJ p x ∧ maskL (((List.range m).filter p).take (j + 1)) = maskJ p x + 2 ^ x ∧ x < m := by
  obtain ⟨h1, h2, h3⟩ := take_range p m h
  refine ⟨by rw [h1, maskL_range], ?_, h3⟩
  rw [List.take_add_one, h, h1]
  have := maskL_range p x
  unfold maskL at this ⊢
  rw [List.map_append, List.sum_append, this]
  simp

end Go.Proofs.Ytaeooldpmlakhaa
