/- Bits in bytes: plain arithmetic. No program here. -/
import Derived.Test.YtbalcbnlpgekaaaDoorNum
namespace Go.Proofs.YtbalcbnlpgekaaaDoor
set_option linter.unusedVariables false

/-- What has come when k rounds are over. -/
def first {α : Type} (f : Nat → α) (k : Nat) : List α := (List.range k).map f
theorem first_succ {α : Type} (f : Nat → α) (k : Nat) : first f (k + 1) = first f k ++ [f k] := by simp [first, List.range_succ]
theorem first_length {α : Type} (f : Nat → α) (k : Nat) : (first f k).length = k := by simp [first]
theorem first_at {α : Type} (f : Nat → α) (k i : Nat) (d : α) (h : i < k) : (first f k)[i]?.getD d = f i := by simp [first, h]
theorem first_none {α : Type} (f : Nat → α) (k i : Nat) (h : k ≤ i) : (first f k)[i]? = none := by simp [first, h]

/-- A byte. -/
def IsByte (z : Int) : Prop := 0 ≤ z ∧ z ≤ 255
/-- A bit as a number. -/
def bv (l : List Bool) (i : Nat) : Int := if l[i]?.getD false then 1 else 0
theorem bv_cases (l : List Bool) (i : Nat) : 0 ≤ bv l i ∧ bv l i ≤ 1 := by unfold bv; split <;> simp
theorem bv_over (l : List Bool) (i : Nat) (h : l.length ≤ i) : bv l i = 0 := by unfold bv; rw [List.getElem?_eq_none h]; rfl
/-- The byte j of these bits. -/
def byteOf (l : List Bool) (j : Nat) : Int := 128 * bv l (8 * j) + 64 * bv l (8 * j + 1) + 32 * bv l (8 * j + 2) + 16 * bv l (8 * j + 3) + 8 * bv l (8 * j + 4) + 4 * bv l (8 * j + 5) + 2 * bv l (8 * j + 6) + bv l (8 * j + 7)
theorem byteOf_byte (l : List Bool) (j : Nat) : IsByte (byteOf l j) := by
  unfold byteOf IsByte
  have h0 := bv_cases l (8 * j); have h1 := bv_cases l (8 * j + 1); have h2 := bv_cases l (8 * j + 2); have h3 := bv_cases l (8 * j + 3)
  have h4 := bv_cases l (8 * j + 4); have h5 := bv_cases l (8 * j + 5); have h6 := bv_cases l (8 * j + 6); have h7 := bv_cases l (8 * j + 7)
  omega
theorem byteOf_over (l : List Bool) (j : Nat) (h : l.length ≤ 8 * j) : byteOf l j = 0 := by
  unfold byteOf
  rw [bv_over l (8 * j) h, bv_over l (8 * j + 1) (by omega), bv_over l (8 * j + 2) (by omega), bv_over l (8 * j + 3) (by omega), bv_over l (8 * j + 4) (by omega), bv_over l (8 * j + 5) (by omega), bv_over l (8 * j + 6) (by omega), bv_over l (8 * j + 7) (by omega)]
  rfl

theorem bv_snoc_same (l : List Bool) (b : Bool) (i : Nat) (h : i ≠ l.length) : bv (l ++ [b]) i = bv l i := by
  unfold bv
  rcases Nat.lt_or_gt_of_ne h with h | h
  · rw [List.getElem?_append_left h]
  · rw [List.getElem?_eq_none (by simp; omega), List.getElem?_eq_none (by omega)]
theorem bv_snoc_last (l : List Bool) (b : Bool) : bv (l ++ [b]) l.length = if b then 1 else 0 := by simp [bv]
theorem bv_snoc_false (l : List Bool) (i : Nat) : bv (l ++ [false]) i = bv l i := by
  by_cases h : i = l.length
  · subst h; rw [bv_snoc_last, bv_over l _ (Nat.le_refl _)]; rfl
  · exact bv_snoc_same l _ i h

theorem byteOf_snoc_false (l : List Bool) (j : Nat) : byteOf (l ++ [false]) j = byteOf l j := by simp only [byteOf, bv_snoc_false]
theorem byteOf_snoc_other (l : List Bool) (b : Bool) (j : Nat) (h : j ≠ l.length / 8) : byteOf (l ++ [b]) j = byteOf l j := by
  unfold byteOf
  rw [bv_snoc_same _ _ _ (by omega), bv_snoc_same _ _ _ (by omega), bv_snoc_same _ _ _ (by omega), bv_snoc_same _ _ _ (by omega), bv_snoc_same _ _ _ (by omega), bv_snoc_same _ _ _ (by omega), bv_snoc_same _ _ _ (by omega), bv_snoc_same _ _ _ (by omega)]
theorem or_add (r : Nat) (hr : r < 8) (q : Nat) (hq : q < 2 ^ r) : bits BinOp.or IntKind.u8 ((q * 2 ^ (8 - r) : Nat) : Int) (128 / 2 ^ r) = ((q * 2 ^ (8 - r) : Nat) : Int) + 128 / 2 ^ r := by
  have key : ∀ r : Fin 8, ∀ q : Fin 128, q.val < 2 ^ r.val → bits BinOp.or IntKind.u8 ((q.val * 2 ^ (8 - r.val) : Nat) : Int) (128 / 2 ^ r.val) = ((q.val * 2 ^ (8 - r.val) : Nat) : Int) + 128 / 2 ^ r.val := by decide +kernel
  have h2 : 2 ^ r ≤ 2 ^ 7 := Nat.pow_le_pow_right (by omega) (by omega)
  exact key ⟨r, hr⟩ ⟨q, by omega⟩ hq

set_option maxHeartbeats 2000000 in
/-- One more bit, 1: its byte is put together with its place. -/
theorem byteOf_snoc_true (l : List Bool) : byteOf (l ++ [true]) (l.length / 8) = bits BinOp.or IntKind.u8 (byteOf l (l.length / 8)) (128 / 2 ^ (l.length % 8)) := by
  have hlast := bv_snoc_last l true
  have h : ∀ i, l.length ≤ i → bv l i = 0 := bv_over l
  have hs : ∀ i, i ≠ l.length → bv (l ++ [true]) i = bv l i := bv_snoc_same l true
  have hr : l.length % 8 < 8 := Nat.mod_lt _ (by omega)
  have e : l.length = 8 * (l.length / 8) + l.length % 8 := by omega
  generalize l.length / 8 = j at *
  generalize l.length % 8 = r at *
  have c0 := bv_cases l (8 * j); have c1 := bv_cases l (8 * j + 1); have c2 := bv_cases l (8 * j + 2); have c3 := bv_cases l (8 * j + 3)
  have c4 := bv_cases l (8 * j + 4); have c5 := bv_cases l (8 * j + 5); have c6 := bv_cases l (8 * j + 6)
  rw [e] at hlast
  have hq : ∃ q : Nat, q < 2 ^ r ∧ byteOf l j = ((q * 2 ^ (8 - r) : Nat) : Int) ∧ byteOf (l ++ [true]) j = ((q * 2 ^ (8 - r) : Nat) : Int) + 128 / 2 ^ r := by
    unfold byteOf
    obtain rfl | rfl | rfl | rfl | rfl | rfl | rfl | rfl : r = 0 ∨ r = 1 ∨ r = 2 ∨ r = 3 ∨ r = 4 ∨ r = 5 ∨ r = 6 ∨ r = 7 := by omega
    · refine ⟨0, by omega, ?_, ?_⟩
      · rw [h (8 * j) (by omega), h (8 * j + 1) (by omega), h (8 * j + 2) (by omega), h (8 * j + 3) (by omega), h (8 * j + 4) (by omega), h (8 * j + 5) (by omega), h (8 * j + 6) (by omega), h (8 * j + 7) (by omega)]; rfl
      · rw [show bv (l ++ [true]) (8 * j) = 1 from hlast, hs (8 * j + 1) (by omega), hs (8 * j + 2) (by omega), hs (8 * j + 3) (by omega), hs (8 * j + 4) (by omega), hs (8 * j + 5) (by omega), hs (8 * j + 6) (by omega), hs (8 * j + 7) (by omega)]
        rw [h (8 * j + 1) (by omega), h (8 * j + 2) (by omega), h (8 * j + 3) (by omega), h (8 * j + 4) (by omega), h (8 * j + 5) (by omega), h (8 * j + 6) (by omega), h (8 * j + 7) (by omega)]; rfl
    · refine ⟨(bv l (8 * j)).toNat, by omega, ?_, ?_⟩
      · rw [h (8 * j + 1) (by omega), h (8 * j + 2) (by omega), h (8 * j + 3) (by omega), h (8 * j + 4) (by omega), h (8 * j + 5) (by omega), h (8 * j + 6) (by omega), h (8 * j + 7) (by omega)]; omega
      · rw [hs (8 * j) (by omega), show bv (l ++ [true]) (8 * j + 1) = 1 from hlast, hs (8 * j + 2) (by omega), hs (8 * j + 3) (by omega), hs (8 * j + 4) (by omega), hs (8 * j + 5) (by omega), hs (8 * j + 6) (by omega), hs (8 * j + 7) (by omega)]
        rw [h (8 * j + 2) (by omega), h (8 * j + 3) (by omega), h (8 * j + 4) (by omega), h (8 * j + 5) (by omega), h (8 * j + 6) (by omega), h (8 * j + 7) (by omega)]; omega
    · refine ⟨(2 * bv l (8 * j) + bv l (8 * j + 1)).toNat, by omega, ?_, ?_⟩
      · rw [h (8 * j + 2) (by omega), h (8 * j + 3) (by omega), h (8 * j + 4) (by omega), h (8 * j + 5) (by omega), h (8 * j + 6) (by omega), h (8 * j + 7) (by omega)]; omega
      · rw [hs (8 * j) (by omega), hs (8 * j + 1) (by omega), show bv (l ++ [true]) (8 * j + 2) = 1 from hlast, hs (8 * j + 3) (by omega), hs (8 * j + 4) (by omega), hs (8 * j + 5) (by omega), hs (8 * j + 6) (by omega), hs (8 * j + 7) (by omega)]
        rw [h (8 * j + 3) (by omega), h (8 * j + 4) (by omega), h (8 * j + 5) (by omega), h (8 * j + 6) (by omega), h (8 * j + 7) (by omega)]; omega
    · refine ⟨(4 * bv l (8 * j) + 2 * bv l (8 * j + 1) + bv l (8 * j + 2)).toNat, by omega, ?_, ?_⟩
      · rw [h (8 * j + 3) (by omega), h (8 * j + 4) (by omega), h (8 * j + 5) (by omega), h (8 * j + 6) (by omega), h (8 * j + 7) (by omega)]; omega
      · rw [hs (8 * j) (by omega), hs (8 * j + 1) (by omega), hs (8 * j + 2) (by omega), show bv (l ++ [true]) (8 * j + 3) = 1 from hlast, hs (8 * j + 4) (by omega), hs (8 * j + 5) (by omega), hs (8 * j + 6) (by omega), hs (8 * j + 7) (by omega)]
        rw [h (8 * j + 4) (by omega), h (8 * j + 5) (by omega), h (8 * j + 6) (by omega), h (8 * j + 7) (by omega)]; omega
    · refine ⟨(8 * bv l (8 * j) + 4 * bv l (8 * j + 1) + 2 * bv l (8 * j + 2) + bv l (8 * j + 3)).toNat, by omega, ?_, ?_⟩
      · rw [h (8 * j + 4) (by omega), h (8 * j + 5) (by omega), h (8 * j + 6) (by omega), h (8 * j + 7) (by omega)]; omega
      · rw [hs (8 * j) (by omega), hs (8 * j + 1) (by omega), hs (8 * j + 2) (by omega), hs (8 * j + 3) (by omega), show bv (l ++ [true]) (8 * j + 4) = 1 from hlast, hs (8 * j + 5) (by omega), hs (8 * j + 6) (by omega), hs (8 * j + 7) (by omega)]
        rw [h (8 * j + 5) (by omega), h (8 * j + 6) (by omega), h (8 * j + 7) (by omega)]; omega
    · refine ⟨(16 * bv l (8 * j) + 8 * bv l (8 * j + 1) + 4 * bv l (8 * j + 2) + 2 * bv l (8 * j + 3) + bv l (8 * j + 4)).toNat, by omega, ?_, ?_⟩
      · rw [h (8 * j + 5) (by omega), h (8 * j + 6) (by omega), h (8 * j + 7) (by omega)]; omega
      · rw [hs (8 * j) (by omega), hs (8 * j + 1) (by omega), hs (8 * j + 2) (by omega), hs (8 * j + 3) (by omega), hs (8 * j + 4) (by omega), show bv (l ++ [true]) (8 * j + 5) = 1 from hlast, hs (8 * j + 6) (by omega), hs (8 * j + 7) (by omega)]
        rw [h (8 * j + 6) (by omega), h (8 * j + 7) (by omega)]; omega
    · refine ⟨(32 * bv l (8 * j) + 16 * bv l (8 * j + 1) + 8 * bv l (8 * j + 2) + 4 * bv l (8 * j + 3) + 2 * bv l (8 * j + 4) + bv l (8 * j + 5)).toNat, by omega, ?_, ?_⟩
      · rw [h (8 * j + 6) (by omega), h (8 * j + 7) (by omega)]; omega
      · rw [hs (8 * j) (by omega), hs (8 * j + 1) (by omega), hs (8 * j + 2) (by omega), hs (8 * j + 3) (by omega), hs (8 * j + 4) (by omega), hs (8 * j + 5) (by omega), show bv (l ++ [true]) (8 * j + 6) = 1 from hlast, hs (8 * j + 7) (by omega)]
        rw [h (8 * j + 7) (by omega)]; omega
    · refine ⟨(64 * bv l (8 * j) + 32 * bv l (8 * j + 1) + 16 * bv l (8 * j + 2) + 8 * bv l (8 * j + 3) + 4 * bv l (8 * j + 4) + 2 * bv l (8 * j + 5) + bv l (8 * j + 6)).toNat, by omega, ?_, ?_⟩
      · rw [h (8 * j + 7) (by omega)]; omega
      · rw [hs (8 * j) (by omega), hs (8 * j + 1) (by omega), hs (8 * j + 2) (by omega), hs (8 * j + 3) (by omega), hs (8 * j + 4) (by omega), hs (8 * j + 5) (by omega), hs (8 * j + 6) (by omega), show bv (l ++ [true]) (8 * j + 7) = 1 from hlast]; omega
  obtain ⟨q, hq, e1, e2⟩ := hq
  rw [e2, e1, or_add r hr q hq]

/-- These bits in n bytes. -/
def pack (n : Nat) (l : List Bool) : List Int := first (byteOf l) n
theorem pack_length (n : Nat) (l : List Bool) : (pack n l).length = n := first_length _ _
theorem pack_at (n : Nat) (l : List Bool) (j : Nat) (h : j < n) : (pack n l)[j]?.getD 0 = byteOf l j := first_at _ _ _ _ h
theorem pack_byte (n : Nat) (l : List Bool) : ∀ z ∈ pack n l, IsByte z := by
  intro z hz
  simp only [pack, first, List.mem_map, List.mem_range] at hz
  obtain ⟨j, _, rfl⟩ := hz
  exact byteOf_byte l j
theorem pack_false (n : Nat) (l : List Bool) : pack n (l ++ [false]) = pack n l := by
  unfold pack first
  exact List.map_congr_left fun j _ => byteOf_snoc_false l j
theorem pack_true (n : Nat) (l : List Bool) : pack n (l ++ [true]) = (pack n l).set (l.length / 8) (bits BinOp.or IntKind.u8 (byteOf l (l.length / 8)) (128 / 2 ^ (l.length % 8))) := by
  apply List.ext_getElem
  · simp [pack, first]
  · intro i h1 h2
    rw [List.getElem_set]
    by_cases h : l.length / 8 = i
    · subst h; rw [if_pos rfl, ← byteOf_snoc_true]; simp [pack, first]
    · rw [if_neg h]
      simp [pack, first, byteOf_snoc_other l true i (fun e => h e.symm)]
/-- More bytes than are wanted are 0. -/
theorem pack_more (n k : Nat) (l : List Bool) (h : l.length ≤ 8 * n) : pack (n + k) l = pack n l ++ List.replicate k 0 := by
  apply List.ext_getElem
  · simp [pack, first]
  · intro i h1 h2
    by_cases hi : i < n
    · rw [List.getElem_append_left (by simpa [pack, first] using hi)]; simp [pack, first]
    · rw [List.getElem_append_right (by simp [pack, first]; omega)]
      simp only [List.getElem_replicate]
      simpa [pack, first] using byteOf_over l i (by omega)

/-- The bit i of these bytes. -/
def bitZ (zs : List Int) (i : Nat) : Bool := zs[i / 8]?.getD 0 / 2 ^ (7 - i % 8) % 2 == 1
set_option maxHeartbeats 2000000 in
theorem bit_of_pack (n : Nat) (l : List Bool) (i : Nat) (h : i < 8 * n) : bitZ (pack n l) i = l[i]?.getD false := by
  unfold bitZ
  rw [pack_at n l _ (by omega)]
  have hb : l[i]?.getD false = (bv l i == 1) := by unfold bv; cases l[i]?.getD false <;> rfl
  rw [hb]
  have hr : i % 8 < 8 := Nat.mod_lt _ (by omega)
  have e : i = 8 * (i / 8) + i % 8 := by omega
  generalize i / 8 = j at *
  generalize i % 8 = r at *
  subst e
  unfold byteOf
  have c0 := bv_cases l (8 * j); have c1 := bv_cases l (8 * j + 1); have c2 := bv_cases l (8 * j + 2); have c3 := bv_cases l (8 * j + 3)
  have c4 := bv_cases l (8 * j + 4); have c5 := bv_cases l (8 * j + 5); have c6 := bv_cases l (8 * j + 6); have c7 := bv_cases l (8 * j + 7)
  rw [Bool.eq_iff_iff, beq_iff_eq, beq_iff_eq]
  obtain rfl | rfl | rfl | rfl | rfl | rfl | rfl | rfl : r = 0 ∨ r = 1 ∨ r = 2 ∨ r = 3 ∨ r = 4 ∨ r = 5 ∨ r = 6 ∨ r = 7 := by omega
  all_goals
    simp only [Nat.add_zero, Nat.reduceSub, Int.reducePow]
    omega
end Go.Proofs.YtbalcbnlpgekaaaDoor
