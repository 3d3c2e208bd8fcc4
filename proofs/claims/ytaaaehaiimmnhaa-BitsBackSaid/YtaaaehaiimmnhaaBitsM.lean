/- Right bits are the packed ones, and no others. -/
import Derived.Test.YtaaaehaiimmnhaaBitsU
import Derived.Test.YtaaaehaiimmnhaaBitsL
namespace Go.Proofs.Ytaaaehaiimmnhaa
open Go.RowKit
set_option linter.unusedVariables false

theorem bv_first (f : Nat → Bool) (n i : Nat) (h : i < n) : bv (first f n) i = if f i then 1 else 0 := by
  unfold bv
  rw [show (first f n)[i]?.getD false = f i from first_at f n i false h]

set_option maxHeartbeats 2000000 in
theorem last_zero (l : List Bool) (h : l.length % 8 ≠ 0) : byteOf l (l.length / 8) * 2 ^ (l.length % 8) % 256 = 0 := by
  have ho : ∀ i, l.length ≤ i → bv l i = 0 := bv_over l
  have e : l.length = 8 * (l.length / 8) + l.length % 8 := by omega
  have hr : l.length % 8 < 8 := Nat.mod_lt _ (by omega)
  generalize l.length / 8 = j at *
  generalize l.length % 8 = r at *
  unfold byteOf
  obtain rfl | rfl | rfl | rfl | rfl | rfl | rfl : r = 1 ∨ r = 2 ∨ r = 3 ∨ r = 4 ∨ r = 5 ∨ r = 6 ∨ r = 7 := by omega
  · rw [ho (8 * j + 1) (by omega), ho (8 * j + 2) (by omega), ho (8 * j + 3) (by omega), ho (8 * j + 4) (by omega), ho (8 * j + 5) (by omega), ho (8 * j + 6) (by omega), ho (8 * j + 7) (by omega)]; omega
  · rw [ho (8 * j + 2) (by omega), ho (8 * j + 3) (by omega), ho (8 * j + 4) (by omega), ho (8 * j + 5) (by omega), ho (8 * j + 6) (by omega), ho (8 * j + 7) (by omega)]; omega
  · rw [ho (8 * j + 3) (by omega), ho (8 * j + 4) (by omega), ho (8 * j + 5) (by omega), ho (8 * j + 6) (by omega), ho (8 * j + 7) (by omega)]; omega
  · rw [ho (8 * j + 4) (by omega), ho (8 * j + 5) (by omega), ho (8 * j + 6) (by omega), ho (8 * j + 7) (by omega)]; omega
  · rw [ho (8 * j + 5) (by omega), ho (8 * j + 6) (by omega), ho (8 * j + 7) (by omega)]; omega
  · rw [ho (8 * j + 6) (by omega), ho (8 * j + 7) (by omega)]; omega
  · rw [ho (8 * j + 7) (by omega)]; omega

theorem right_pack (l : List Bool) : rightB (pack (bytesFor l.length) l) l.length = true := by
  unfold rightB
  rw [pack_length, sizeOf8_nat]
  simp only [Int.natCast_nonneg, decide_true, Bool.true_and, Bool.or_eq_true, decide_eq_true_eq]
  by_cases h : l.length % 8 = 0
  · left; omega
  · right
    have e : bytesFor l.length - 1 = l.length / 8 := by unfold bytesFor; omega
    rw [e, pack_at _ _ _ (by unfold bytesFor; omega), show ((l.length : Int) % 8).toNat = l.length % 8 by omega]
    exact last_zero l h

theorem whole_byte : ∀ z : Fin 256, 128 * ((z.val : Int) / 2 ^ 7 % 2) + 64 * ((z.val : Int) / 2 ^ 6 % 2) + 32 * ((z.val : Int) / 2 ^ 5 % 2) + 16 * ((z.val : Int) / 2 ^ 4 % 2) + 8 * ((z.val : Int) / 2 ^ 3 % 2) + 4 * ((z.val : Int) / 2 ^ 2 % 2) + 2 * ((z.val : Int) / 2 ^ 1 % 2) + (z.val : Int) / 2 ^ 0 % 2 = z.val := by decide +kernel
theorem part_byte : ∀ r : Fin 8, ∀ z : Fin 256, (z.val : Int) * 2 ^ r.val % 256 = 0 → ∀ i : Fin 8, r.val ≤ i.val → (z.val : Int) / 2 ^ (7 - i.val) % 2 = 0 := by decide +kernel

theorem byte_of_bits (l : List Bool) (j : Nat) (z : Int) (hz : IsByte z) (h : ∀ i, i < 8 → bv l (8 * j + i) = z / 2 ^ (7 - i) % 2) : byteOf l j = z := by
  obtain ⟨h0, h1⟩ := hz
  obtain ⟨m, rfl⟩ := Int.eq_ofNat_of_zero_le h0
  have hb := whole_byte ⟨m, by omega⟩
  unfold byteOf
  rw [show bv l (8 * j) = (m : Int) / 2 ^ 7 % 2 from h 0 (by omega), h 1 (by omega), h 2 (by omega), h 3 (by omega), h 4 (by omega), h 5 (by omega), h 6 (by omega), h 7 (by omega)]
  exact hb

theorem right_unpack (zs : List Int) (n : Int) (hb : ∀ z ∈ zs, IsByte z) (h : rightB zs n = true) : ∃ l : List Bool, n = (l.length : Int) ∧ zs = pack (bytesFor l.length) l := by
  unfold rightB at h
  simp only [Bool.and_eq_true, Bool.or_eq_true, decide_eq_true_eq] at h
  obtain ⟨⟨h0, h1⟩, h2⟩ := h
  obtain ⟨k, rfl⟩ := Int.eq_ofNat_of_zero_le h0
  rw [sizeOf8_nat] at h1
  have hlen : zs.length = bytesFor k := by omega
  have hl : (first (bitZ zs) k).length = k := first_length _ _
  refine ⟨first (bitZ zs) k, by rw [hl], ?_⟩
  rw [hl]
  apply List.ext_getElem
  · rw [pack_length]; exact hlen
  · intro j hj1 hj2
    have hby : IsByte (zs[j]) := hb _ (List.getElem_mem _)
    have hget : zs[j]?.getD 0 = zs[j] := by simp [hj1]
    have hp : (pack (bytesFor k) (first (bitZ zs) k))[j] = byteOf (first (bitZ zs) k) j := by simp [pack, first]
    rw [hp]
    refine (byte_of_bits _ _ _ hby fun i hi => ?_).symm
    by_cases hk : 8 * j + i < k
    · rw [bv_first _ _ _ hk, ← bitI_eq]
      unfold bitI
      rw [show (8 * j + i) / 8 = j by omega, show (8 * j + i) % 8 = i by omega, hget]
    · rw [bv_over _ _ (by rw [hl]; omega)]
      have hr : k % 8 ≠ 0 := by unfold bytesFor at hlen; omega
      have hj : j = k / 8 := by unfold bytesFor at hlen; omega
      have h3 : zs[zs.length - 1]?.getD 0 * 2 ^ ((k : Int) % 8).toNat % 256 = 0 := by
        rcases h2 with h2 | h2
        · omega
        · exact h2
      rw [show zs.length - 1 = j by unfold bytesFor at hlen; omega, hget, show ((k : Int) % 8).toNat = k % 8 by omega] at h3
      obtain ⟨b0, b1⟩ := hby
      obtain ⟨m, hm⟩ := Int.eq_ofNat_of_zero_le b0
      rw [hm] at h3 b1 ⊢
      exact (part_byte ⟨k % 8, by omega⟩ ⟨m, by omega⟩ h3 ⟨i, hi⟩ (by show k % 8 ≤ i; omega)).symm

theorem pack_inj (l m : List Bool) (hl : l.length = m.length) (h : pack (bytesFor l.length) l = pack (bytesFor m.length) m) : l = m := by
  apply List.ext_getElem hl
  intro i h1 h2
  have e1 := bit_of_pack (bytesFor l.length) l i (by unfold bytesFor; omega)
  have e2 := bit_of_pack (bytesFor m.length) m i (by unfold bytesFor; omega)
  rw [h, e2] at e1
  simpa [h1, h2] using e1.symm
theorem same_pack (l m : List Bool) : (decide ((l.length : Int) = m.length) && sameB (pack (bytesFor l.length) l) (pack (bytesFor m.length) m)) = decide (l = m) := by
  rw [Bool.eq_iff_iff]
  simp only [Bool.and_eq_true, sameB, decide_eq_true_eq]
  constructor
  · rintro ⟨h1, h2⟩; exact pack_inj l m (by omega) h2
  · rintro rfl; exact ⟨rfl, rfl⟩
end Go.Proofs.Ytaaaehaiimmnhaa
