/- Rows of bytes put together; a burst of bits. Plain algebra. -/
import Derived.Test.YtgpofgepffhcnaaCrcB
namespace Go.Proofs.Ytgpofgepffhcnaa
set_option linter.unusedVariables false

/-- Two bytes put together. -/
def xor8 (x y : Int) : Int := bits BinOp.xor IntKind.u8 x y
theorem xor8_nat (x y : Int) (hx : IsByte x) (hy : IsByte y) : xor8 x y = ((x.toNat ^^^ y.toNat : Nat) : Int) ∧ x.toNat ^^^ y.toNat < 256 := by
  obtain ⟨a, rfl⟩ := Int.eq_ofNat_of_zero_le hx.1
  obtain ⟨b, rfl⟩ := Int.eq_ofNat_of_zero_le hy.1
  have ha : a < 256 := by have := hx.2; omega
  have hb : b < 256 := by have := hy.2; omega
  have hl : a ^^^ b < 2 ^ 8 := Nat.xor_lt_two_pow (by omega) (by omega)
  refine ⟨?_, hl⟩
  show IntKind.u8.wrap ((BitVec.ofInt 8 (a : Int) ^^^ BitVec.ofInt 8 (b : Int)).toNat : Int) = _
  rw [BitVec.ofInt_natCast, BitVec.ofInt_natCast, BitVec.toNat_xor, BitVec.toNat_ofNat, BitVec.toNat_ofNat, Nat.mod_eq_of_lt (by omega), Nat.mod_eq_of_lt (by omega), IntKind.wrap_u8]
  simp only [Int.toNat_natCast]
  omega
theorem xor8_byte (x y : Int) (hx : IsByte x) (hy : IsByte y) : IsByte (xor8 x y) := by
  obtain ⟨h, hl⟩ := xor8_nat x y hx hy
  rw [h]; unfold IsByte; omega
theorem xor8_bit (x y : Int) (hx : IsByte x) (hy : IsByte y) (k : Nat) : (xor8 x y).toNat.testBit k = (x.toNat.testBit k != y.toNat.testBit k) := by
  rw [(xor8_nat x y hx hy).1, Int.toNat_natCast, Nat.testBit_xor]
theorem byteBits_xor (x y : Int) (hx : IsByte x) (hy : IsByte y) : byteBits (xor8 x y) = mix (byteBits x) (byteBits y) := by
  unfold byteBits mix
  rw [List.zipWith_map, List.zipWith_self]
  exact List.map_congr_left fun k _ => xor8_bit x y hx hy k
theorem mix_append (a b c d : List Bool) (h : a.length = c.length) : mix (a ++ b) (c ++ d) = mix a c ++ mix b d := List.zipWith_append h
theorem bitsOf_xor : ∀ (a b : List Int), a.length = b.length → (∀ z ∈ a, IsByte z) → (∀ z ∈ b, IsByte z) → bitsOf (List.zipWith xor8 a b) = mix (bitsOf a) (bitsOf b)
  | [], [], _, _, _ => rfl
  | x :: a, y :: b, h, ha, hb => by
    rw [List.zipWith_cons_cons, bitsOf_cons, bitsOf_cons, bitsOf_cons, mix_append _ _ _ _ (by rw [byteBits_length, byteBits_length]), byteBits_xor x y (ha x (by simp)) (hb y (by simp)),
      bitsOf_xor a b (by simpa using h) (fun z hz => ha z (by simp [hz])) (fun z hz => hb z (by simp [hz]))]
  | [], _ :: _, h, _, _ => by simp at h
  | _ :: _, [], h, _, _ => by simp at h
theorem goB_xor (s t : BitVec 16) (a b : List Int) (h : a.length = b.length) (ha : ∀ z ∈ a, IsByte z) (hb : ∀ z ∈ b, IsByte z) : goB (s ^^^ t) (List.zipWith xor8 a b) = goB s a ^^^ goB t b := by
  unfold goB
  rw [bitsOf_xor a b h ha hb]
  exact goS_mix _ _ _ _ (by rw [bitsOf_length, bitsOf_length, h])
theorem zip_byte (a b : List Int) (ha : ∀ z ∈ a, IsByte z) (hb : ∀ z ∈ b, IsByte z) : ∀ z ∈ List.zipWith xor8 a b, IsByte z := by
  intro z hz
  obtain ⟨i, hi, rfl⟩ := List.mem_iff_getElem.1 hz
  rw [List.getElem_zipWith]
  exact xor8_byte _ _ (ha _ (List.getElem_mem _)) (hb _ (List.getElem_mem _))

/-- A bit of these bytes: the bit r of byte q is put together with 1. -/
def flipAt (zs : List Int) (p : Nat) : List Int := zs.set (p / 8) (xor8 (zs[p / 8]?.getD 0) (2 ^ (p % 8)))
theorem pow_byte (r : Nat) (h : r < 8) : IsByte (2 ^ r) ∧ ((2 : Int) ^ r).toNat = 2 ^ r := by
  obtain rfl | rfl | rfl | rfl | rfl | rfl | rfl | rfl : r = 0 ∨ r = 1 ∨ r = 2 ∨ r = 3 ∨ r = 4 ∨ r = 5 ∨ r = 6 ∨ r = 7 := by omega
  all_goals exact ⟨⟨by decide, by decide⟩, by decide⟩
theorem flipAt_length (zs : List Int) (p : Nat) : (flipAt zs p).length = zs.length := by simp [flipAt]
theorem getD_byte {zs : List Int} (h : ∀ z ∈ zs, IsByte z) (q : Nat) : IsByte (zs[q]?.getD 0) := by
  rcases Nat.lt_or_ge q zs.length with h1 | h1
  · rw [List.getElem?_eq_getElem h1]; exact h _ (List.getElem_mem _)
  · rw [List.getElem?_eq_none h1]; exact ⟨by decide, by decide⟩
theorem flipAt_byte {zs : List Int} (h : ∀ z ∈ zs, IsByte z) (p : Nat) : ∀ z ∈ flipAt zs p, IsByte z := by
  intro z hz
  rcases List.mem_or_eq_of_mem_set hz with hz | rfl
  · exact h z hz
  · exact xor8_byte _ _ (getD_byte h _) (pow_byte _ (Nat.mod_lt _ (by omega))).1
theorem flipAt_bit {zs : List Int} (h : ∀ z ∈ zs, IsByte z) (p j : Nat) (hp : p < 8 * zs.length) (hj : j < 8 * zs.length) : (bitsOf (flipAt zs p))[j]?.getD false = ((bitsOf zs)[j]?.getD false != decide (p = j)) := by
  have ej : j = 8 * (j / 8) + j % 8 := by omega
  have hr : j % 8 < 8 := Nat.mod_lt _ (by omega)
  have hr' : p % 8 < 8 := Nat.mod_lt _ (by omega)
  have g1 := bitsOf_get zs (j / 8) (j % 8) hr (by omega)
  have g2 := bitsOf_get (flipAt zs p) (j / 8) (j % 8) hr (by rw [flipAt_length]; omega)
  rw [← ej] at g1 g2
  rw [g1, g2, Option.getD_some, Option.getD_some]
  unfold flipAt
  by_cases hq : p / 8 = j / 8
  · rw [hq, List.getElem?_set_self (by omega), Option.getD_some, xor8_bit _ _ (getD_byte h _) (pow_byte _ hr').1, (pow_byte _ hr').2, Nat.testBit_two_pow]
    congr 1
    rw [Bool.eq_iff_iff]; simp only [decide_eq_true_eq]; omega
  · rw [List.getElem?_set_ne (by omega)]
    have : decide (p = j) = false := by simp; omega
    rw [this]; simp

/-- Bytes behind i rounds of a burst. -/
def burstB (c : List Int) (p : Nat) (by_ : BitVec 16) : Nat → List Int
  | 0 => c
  | i + 1 => if by_.getLsbD i = true then flipAt (burstB c p by_ i) (p + i) else burstB c p by_ i
theorem burstB_length (c : List Int) (p : Nat) (by_ : BitVec 16) : ∀ i, (burstB c p by_ i).length = c.length
  | 0 => rfl
  | i + 1 => by unfold burstB; split <;> simp [flipAt_length, burstB_length c p by_ i]
theorem burstB_byte {c : List Int} (h : ∀ z ∈ c, IsByte z) (p : Nat) (by_ : BitVec 16) : ∀ i, ∀ z ∈ burstB c p by_ i, IsByte z
  | 0 => h
  | i + 1 => by
    unfold burstB; split
    · exact flipAt_byte (burstB_byte h p by_ i) _
    · exact burstB_byte h p by_ i
theorem burstB_bit {c : List Int} (h : ∀ z ∈ c, IsByte z) (p : Nat) (by_ : BitVec 16) (hp : p + 16 ≤ 8 * c.length) : ∀ i, i ≤ 16 → ∀ j, j < 8 * c.length →
    (bitsOf (burstB c p by_ i))[j]?.getD false = ((bitsOf c)[j]?.getD false != (decide (p ≤ j) && decide (j < p + i) && by_.getLsbD (j - p)))
  | 0, _, j, hj => by
    have : (decide (p ≤ j) && decide (j < p + 0)) = false := by rw [Bool.and_eq_false_iff]; simp only [decide_eq_false_iff_not]; omega
    rw [this]; simp [burstB]
  | i + 1, hi, j, hj => by
    have ih := burstB_bit h p by_ hp i (by omega) j hj
    unfold burstB
    split
    · next hb =>
      rw [flipAt_bit (burstB_byte h p by_ i) (p + i) j (by rw [burstB_length]; omega) (by rw [burstB_length]; exact hj), ih]
      by_cases e : p + i = j
      · subst e
        simp [hb]
      · have e1 : decide (j < p + (i + 1)) = decide (j < p + i) := by rw [Bool.eq_iff_iff]; simp only [decide_eq_true_eq]; omega
        rw [e1]; simp [e]
    · next hb =>
      rw [ih]
      by_cases e : p + i = j
      · subst e
        have hb' : by_.getLsbD i = false := by simpa using hb
        simp [hb']
      · have e1 : decide (j < p + (i + 1)) = decide (j < p + i) := by rw [Bool.eq_iff_iff]; simp only [decide_eq_true_eq]; omega
        rw [e1]

/-- The bits of a number, from the lowest one on. -/
def bits16 (x : BitVec 16) : List Bool := (List.range 16).map fun i => x.getLsbD i
theorem bits16_length (x : BitVec 16) : (bits16 x).length = 16 := by simp [bits16]
theorem val_bits16 (x : BitVec 16) : valB (bits16 x) = x := by
  apply BitVec.eq_of_getLsbD_eq
  intro i hi
  rw [valB_get _ _ hi]; simp [bits16, hi]
theorem mix_length (a b : List Bool) (h : a.length = b.length) : (mix a b).length = a.length := by simp [mix, h]
theorem mix_get (a b : List Bool) (h : a.length = b.length) (j : Nat) (hj : j < a.length) : (mix a b)[j]?.getD false = (a[j]?.getD false != b[j]?.getD false) := by
  have hj' : j < b.length := by omega
  simp [mix, List.getElem?_zipWith, hj, hj']
theorem list_ext (a b : List Bool) (h : a.length = b.length) (he : ∀ j, j < a.length → a[j]?.getD false = b[j]?.getD false) : a = b := by
  apply List.ext_getElem h
  intro i h1 h2
  have := he i h1
  simpa [h1, h2] using this
theorem burst_bits {c : List Int} (h : ∀ z ∈ c, IsByte z) (p : Nat) (by_ : BitVec 16) (hp : p + 16 ≤ 8 * c.length) :
    bitsOf (burstB c p by_ 16) = mix (bitsOf c) (zeros p ++ bits16 by_ ++ zeros (8 * c.length - p - 16)) := by
  have hl : (zeros p ++ bits16 by_ ++ zeros (8 * c.length - p - 16)).length = (bitsOf c).length := by
    rw [List.length_append, List.length_append, bits16_length, bitsOf_length, List.length_replicate, List.length_replicate]; omega
  refine list_ext _ _ ?_ fun j hj => ?_
  · rw [mix_length _ _ hl.symm, bitsOf_length, bitsOf_length, burstB_length]
  · rw [bitsOf_length, burstB_length] at hj
    rw [burstB_bit h p by_ hp 16 (Nat.le_refl _) j hj, mix_get _ _ hl.symm j (by rw [bitsOf_length]; exact hj)]
    congr 1
    rcases Nat.lt_or_ge j p with h1 | h1
    · rw [List.append_assoc, List.getElem?_append_left (by simpa using h1)]
      have : decide (p ≤ j) = false := by simp; omega
      rw [this]; simp [h1]
    · rw [List.append_assoc, List.getElem?_append_right (by simpa using h1), List.length_replicate]
      rcases Nat.lt_or_ge j (p + 16) with h2 | h2
      · rw [List.getElem?_append_left (by rw [bits16_length]; omega)]
        simp [bits16, h1, h2, show j - p < 16 by omega]
      · rw [List.getElem?_append_right (by rw [bits16_length]; omega), bits16_length]
        have : decide (j < p + 16) = false := by simp; omega
        rw [this, List.getElem?_replicate]
        split <;> simp
/-- Closed bytes with a burst are closed just if nothing was turned. -/
theorem burst_closed (l : List Int) (hz : ∀ z ∈ closeB l, IsByte z) (p : Nat) (by_ : BitVec 16) (hp : p + 16 ≤ 8 * (closeB l).length) : goB 0xffff#16 (burstB (closeB l) p by_ 16) = endS ↔ by_ = 0#16 := by
  have h := burst_end (bitsOf (closeB l)) (bitsOf (burstB (closeB l) p by_ 16)) p (8 * (closeB l).length - p - 16) (bits16 by_) (bits16_length _) (by rw [bitsOf_length]; omega) (burst_bits hz p by_ hp)
  rw [val_bits16] at h
  have hc := closeB_end l
  unfold goB at hc ⊢
  rw [hc] at h
  exact h

theorem u16_shift_bit (s : BitVec 16) (i : Nat) : (bits BinOp.and IntKind.u16 (numS s / 2 ^ i) 1 == 1) = s.getLsbD i := by
  have e : numS s / 2 ^ i = numS (s >>> i) := by
    unfold numS; rw [BitVec.toNat_ushiftRight, Nat.shiftRight_eq_div_pow]; simp
  rw [e, u16_low, BitVec.getLsbD_ushiftRight]; simp
theorem goB_take_drop (s : BitVec 16) (zs : List Int) (q : Nat) : goB (goB s (zs.take q)) (zs.drop q) = goB s zs := by rw [← goB_append, List.take_append_drop]
end Go.Proofs.Ytgpofgepffhcnaa
