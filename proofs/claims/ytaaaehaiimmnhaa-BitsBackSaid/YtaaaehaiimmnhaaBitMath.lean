/- Numbers of bits: two parts side by side, a digit and back, one bit. -/
import Derived.Test.YtaaaehaiimmnhaaSumsR
namespace Go.Proofs.Ytaaaehaiimmnhaa
open Go.RowKit
set_option linter.unusedVariables false

theorem numOf_append (b : List Bool) : ∀ a : List Bool, numOf (a ++ b) = numOf a * 2 ^ b.length + numOf b := by
  induction b with
  | nil => intro a; simp [numOf]
  | cons x b ih =>
    intro a
    have h1 := ih (a ++ [x])
    have h2 := ih [x]
    rw [List.append_assoc] at h1
    simp only [List.singleton_append] at h1 h2
    rw [h1, h2, numOf_snoc, List.length_cons, Int.pow_succ]
    have h3 : numOf [x] = if x then 1 else 0 := by simp [numOf]
    rw [h3, Int.add_mul]
    cases x
    · simp only [Bool.false_eq_true, if_false, Int.zero_mul, Int.zero_add]
      rw [Int.mul_comm 2 (numOf a), Int.mul_assoc, Int.mul_comm 2]; omega
    · simp only [if_true, Int.one_mul]
      rw [Int.mul_comm 2 (numOf a), Int.mul_assoc, Int.mul_comm 2]; omega
theorem first_add {α : Type} (f : Nat → α) (j : Nat) : ∀ k, first f (j + k) = first f j ++ first (fun i => f (j + i)) k := by
  intro k
  induction k with
  | zero => simp [first]
  | succ k ih => rw [← Nat.add_assoc, first_succ, ih, first_succ, List.append_assoc]
theorem bitsAt_add (l : List Bool) (a j k : Nat) : bitsAt l a (j + k) = bitsAt l a j ++ bitsAt l (a + j) k := by
  unfold bitsAt
  rw [first_add]
  simp only [Nat.add_assoc]
theorem numOf_parts (l : List Bool) (a j k : Nat) : numOf (bitsAt l a (j + k)) = numOf (bitsAt l a j) * 2 ^ k + numOf (bitsAt l (a + j) k) := by
  rw [bitsAt_add, numOf_append, bitsAt_length]
theorem numOf_lt (l : List Bool) (a k : Nat) : 0 ≤ numOf (bitsAt l a k) ∧ numOf (bitsAt l a k) < 2 ^ k := by
  have := numOf_bd (bitsAt l a k)
  rwa [bitsAt_length] at this

/-- One bit is taken. -/
theorem take_bit (A : Option Addr) (cap : Nat) (zs : List Int) (N : Int) (l : List Bool) (j : Nat) (w : World) (h : Hands w A zs) (hA : Are zs N l) (hl : l.length ≤ 16000000) (hj : j < l.length) :
    Calls Try.prog 16 #[.agg #[.slice A zs.length cap, .int .i64 N], .int .i64 (j : Int), .int .i64 1] w fun e w' =>
      e = .returned (.tuple #[.int .i64 (if l[j]?.getD false then 1 else 0), .int .i64 0]) ∧ Below w.heap.size w w' := by
  obtain ⟨rfl, rfl⟩ := hA
  have hlen : (pack (bytesFor l.length) l).length = bytesFor l.length := pack_length _ _
  have h1 := h.1
  rw [hlen]
  have h := take_ok A cap l j 1 w h1 (by omega) (by omega) (by omega) (right_pack l)
  rw [show numOf (bitsAt l j 1) = if l[j]?.getD false then 1 else 0 by simp [bitsAt, first, numOf]] at h
  exact h

/-- A number's digits tell it. -/
theorem numOf_digits (n : Int) : ∀ k : Nat, 0 ≤ n → n < 2 ^ k → numOf (first (digit n k) k) = n := by
  have gen : ∀ (k : Nat) (j : Nat), j ≤ k → 0 ≤ n → n < 2 ^ k → numOf (first (digit n k) j) = n / 2 ^ (k - j) := by
    intro k j
    induction j with
    | zero =>
      intro _ h0 h1
      simp only [first, List.range_zero, List.map_nil, Nat.sub_zero]
      exact (Int.ediv_eq_zero_of_lt h0 h1).symm
    | succ j ih =>
      intro hj h0 h1
      rw [first_succ, numOf_snoc, ih (by omega) h0 h1]
      have hk : k - j = (k - (j + 1)) + 1 := by omega
      have hd : n / 2 ^ (k - j) = n / 2 ^ (k - (j + 1)) / 2 := by
        rw [hk, Int.pow_succ, Int.ediv_ediv_of_nonneg (Int.le_of_lt (Int.pow_pos (by omega)))]
      rw [hd]
      unfold digit
      rw [show k - 1 - j = k - (j + 1) by omega]
      by_cases hb : n / 2 ^ (k - (j + 1)) % 2 = 1
      · simp [hb]; omega
      · simp [hb]; omega
  intro k h0 h1
  rw [gen k k (Nat.le_refl k) h0 h1]
  simp
theorem bitsAt_in (l m : List Bool) (a k : Nat) (h : a + k ≤ l.length) : bitsAt (l ++ m) a k = bitsAt l a k := by
  unfold bitsAt first
  apply List.map_congr_left
  intro i hi
  rw [List.mem_range] at hi
  rw [List.getElem?_append_left (by omega)]
theorem bitsAt_behind (l m : List Bool) : bitsAt (l ++ m) l.length m.length = m := by
  unfold bitsAt
  have : (fun j => (l ++ m)[l.length + j]?.getD false) = fun j => m[j]?.getD false := by
    funext j
    rw [List.getElem?_append_right (by omega)]
    simp
  rw [this]
  exact first_get m
end Go.Proofs.Ytaaaehaiimmnhaa
