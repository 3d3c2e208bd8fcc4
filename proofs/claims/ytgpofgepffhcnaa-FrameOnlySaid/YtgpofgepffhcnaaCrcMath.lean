/- States of sums, and bits of bytes: plain algebra. No program here. -/
import Derived.Test.YtgpofgepffhcnaaNum
namespace Go.Proofs.Ytgpofgepffhcnaa
set_option linter.unusedVariables false

/-- A state behind a bit. -/
def stepS (s : BitVec 16) (b : Bool) : BitVec 16 := if (s.getLsbD 0 != b) = true then s >>> 1 ^^^ 0x8408#16 else s >>> 1
/-- A state behind bits. -/
def goS (s : BitVec 16) (l : List Bool) : BitVec 16 := l.foldl stepS s
theorem goS_nil (s : BitVec 16) : goS s [] = s := rfl
theorem goS_cons (s : BitVec 16) (b : Bool) (l : List Bool) : goS s (b :: l) = goS (stepS s b) l := rfl
theorem goS_append (s : BitVec 16) (l m : List Bool) : goS s (l ++ m) = goS (goS s l) m := List.foldl_append ..
theorem goS_snoc (s : BitVec 16) (l : List Bool) (b : Bool) : goS s (l ++ [b]) = stepS (goS s l) b := by rw [goS_append]; rfl

theorem stepS_xor (s t : BitVec 16) (a b : Bool) : stepS (s ^^^ t) (a != b) = stepS s a ^^^ stepS t b := by
  unfold stepS
  rw [BitVec.getLsbD_xor, BitVec.ushiftRight_xor_distrib]
  generalize s >>> 1 = x
  generalize t >>> 1 = y
  generalize s.getLsbD 0 = p
  generalize t.getLsbD 0 = q
  apply BitVec.eq_of_getLsbD_eq
  intro i hi
  cases p <;> cases q <;> cases a <;> cases b <;> simp <;> cases x.getLsbD i <;> cases y.getLsbD i <;> simp

theorem stepS_zero (x : BitVec 16) (h : stepS x false = 0#16) : x = 0#16 := by
  unfold stepS at h
  cases hl : x.getLsbD 0 with
  | true =>
    rw [hl, if_pos (by decide)] at h
    have h15 := congrArg (fun v => v.getLsbD 15) h
    simp only [BitVec.getLsbD_xor, BitVec.getLsbD_ushiftRight] at h15
    rw [BitVec.getLsbD_of_ge x (1 + 15) (by omega)] at h15
    exact absurd h15 (by decide)
  | false =>
    rw [hl, if_neg (by decide)] at h
    apply BitVec.eq_of_getLsbD_eq
    intro i hi
    cases i with
    | zero => rw [hl]; simp
    | succ j =>
      have hj := congrArg (fun v => v.getLsbD j) h
      simp only [BitVec.getLsbD_ushiftRight] at hj
      rw [show j + 1 = 1 + j by omega, hj]; simp

theorem xor_zero_iff (s t : BitVec 16) : s ^^^ t = 0#16 ↔ s = t := by
  constructor
  · intro h
    apply BitVec.eq_of_getLsbD_eq
    intro i hi
    have := congrArg (fun v => v.getLsbD i) h
    simp at this
    exact this
  · rintro rfl; exact BitVec.xor_self

theorem stepS_inj {s t : BitVec 16} {b : Bool} (h : stepS s b = stepS t b) : s = t := by
  have e := stepS_xor s t b b
  rw [h, BitVec.xor_self, bne_self_eq_false] at e
  exact (xor_zero_iff _ _).1 (stepS_zero _ e)
theorem stepS_eq_iff (s t : BitVec 16) (b : Bool) : stepS s b = stepS t b ↔ s = t := ⟨stepS_inj, fun h => by rw [h]⟩
theorem stepS_apart (s : BitVec 16) : stepS s true ≠ stepS s false := by
  intro h
  have e := stepS_xor s s true false
  rw [h, BitVec.xor_self, BitVec.xor_self] at e
  revert e; decide

theorem goS_inj {l : List Bool} : ∀ {s t : BitVec 16}, goS s l = goS t l → s = t := by
  induction l with
  | nil => intro s t h; exact h
  | cons b l ih => intro s t h; exact stepS_inj (ih h)
theorem goS_eq_iff (s t : BitVec 16) (l : List Bool) : goS s l = goS t l ↔ s = t := ⟨goS_inj, fun h => by rw [h]⟩

/-- Rows put together, bit by bit. -/
def mix (a b : List Bool) : List Bool := List.zipWith (fun x y => x != y) a b
theorem goS_mix : ∀ (a b : List Bool) (s t : BitVec 16), a.length = b.length → goS (s ^^^ t) (mix a b) = goS s a ^^^ goS t b
  | [], [], s, t, _ => rfl
  | x :: a, y :: b, s, t, h => by
    have e : mix (x :: a) (y :: b) = (x != y) :: mix a b := rfl
    rw [e, goS_cons, goS_cons, goS_cons, stepS_xor]
    exact goS_mix a b _ _ (by simpa using h)
  | [], _ :: _, _, _, h => by simp at h
  | _ :: _, [], _, _, h => by simp at h

/-- Bits as a state: the first is the lowest. -/
def valB : List Bool → BitVec 16
  | [] => 0#16
  | b :: l => valB l <<< 1 ^^^ (if b then 1#16 else 0#16)
theorem valB_get : ∀ (l : List Bool) (i : Nat), i < 16 → (valB l).getLsbD i = l[i]?.getD false
  | [], i, hi => by simp [valB]
  | b :: l, 0, hi => by cases b <;> simp [valB]
  | b :: l, i + 1, hi => by
    have h := valB_get l i (by omega)
    have e : ((if b then 1#16 else 0#16) : BitVec 16).getLsbD (i + 1) = false := by cases b <;> simp
    rw [valB, BitVec.getLsbD_xor, e, BitVec.getLsbD_shiftLeft]
    simp [h, hi]
theorem valB_top (l : List Bool) (h : l.length ≤ 15) : (valB l <<< 1) >>> 1 = valB l := by
  apply BitVec.eq_of_getLsbD_eq
  intro i hi
  rw [BitVec.getLsbD_ushiftRight, BitVec.getLsbD_shiftLeft]
  rcases Nat.lt_or_ge i 15 with h1 | h1
  · simp [show 1 + i < 16 by omega, show ¬ 1 + i < 1 by omega, Nat.add_sub_cancel_left]
  · obtain rfl : i = 15 := by omega
    rw [valB_get l 15 (by omega), List.getElem?_eq_none h]; simp

theorem stepS_bit (s : BitVec 16) (b : Bool) : stepS (s ^^^ (if b then 1#16 else 0#16)) false = stepS s b := by
  cases b with
  | false => simp
  | true =>
    have e : stepS 1#16 true = 0#16 := by decide
    have h := stepS_xor s 1#16 true true
    rw [e] at h
    simpa using h
theorem stepS_val (s : BitVec 16) (b : Bool) (l : List Bool) (h : l.length ≤ 15) : stepS (s ^^^ valB (b :: l)) false = stepS s b ^^^ valB l := by
  have e : stepS (valB l <<< 1) false = valB l := by
    unfold stepS
    rw [if_neg (by simp), valB_top l h]
  have h1 : s ^^^ valB (b :: l) = (s ^^^ (if b then 1#16 else 0#16)) ^^^ (valB l <<< 1) := by
    rw [valB, BitVec.xor_assoc]; congr 1; exact BitVec.xor_comm _ _
  have h2 := stepS_xor (s ^^^ (if b then 1#16 else 0#16)) (valB l <<< 1) false false
  rw [h1]
  rw [show (false != false) = false from rfl] at h2
  rw [h2, stepS_bit, e]

/-- So many bits 0. -/
abbrev zeros (n : Nat) : List Bool := List.replicate n false
theorem goS_val : ∀ (l : List Bool) (s : BitVec 16), l.length ≤ 16 → goS s l = goS (s ^^^ valB l) (zeros l.length)
  | [], s, _ => by simp [valB, goS]
  | b :: l, s, h => by
    have ih := goS_val l (stepS s b) (by simp at h; omega)
    rw [goS_cons, ih]
    show _ = goS (s ^^^ valB (b :: l)) (false :: zeros l.length)
    rw [goS_cons, stepS_val s b l (by simp at h; omega)]
theorem goS_zeros (n : Nat) : goS 0#16 (zeros n) = 0#16 := by
  induction n with
  | zero => rfl
  | succ n ih => rw [show zeros (n + 1) = false :: zeros n from rfl, goS_cons, show stepS 0#16 false = 0#16 by decide, ih]

/-- The bits of a byte, the lowest first. -/
def byteBits (z : Int) : List Bool := (List.range 8).map fun k => z.toNat.testBit k
theorem byteBits_length (z : Int) : (byteBits z).length = 8 := by simp [byteBits]
/-- The bits of bytes. -/
def bitsOf (zs : List Int) : List Bool := zs.flatMap byteBits
theorem bitsOf_nil : bitsOf [] = [] := rfl
theorem bitsOf_cons (z : Int) (zs : List Int) : bitsOf (z :: zs) = byteBits z ++ bitsOf zs := rfl
theorem bitsOf_append (a b : List Int) : bitsOf (a ++ b) = bitsOf a ++ bitsOf b := by simp [bitsOf]
theorem bitsOf_length : ∀ zs : List Int, (bitsOf zs).length = 8 * zs.length
  | [] => rfl
  | z :: zs => by rw [bitsOf_cons, List.length_append, byteBits_length, bitsOf_length zs, List.length_cons]; omega
theorem bitsOf_get : ∀ (zs : List Int) (q r : Nat), r < 8 → q < zs.length → (bitsOf zs)[8 * q + r]? = some ((zs[q]?.getD 0).toNat.testBit r)
  | [], _, _, _, h => by simp at h
  | z :: zs, 0, r, hr, _ => by rw [bitsOf_cons, List.getElem?_append_left (by rw [byteBits_length]; omega)]; simp [byteBits, hr]
  | z :: zs, q + 1, r, hr, h => by
    rw [bitsOf_cons, List.getElem?_append_right (by rw [byteBits_length]; omega), byteBits_length, show 8 * (q + 1) + r - 8 = 8 * q + r by omega, bitsOf_get zs q r hr (by simpa using h)]
    simp
/-- A state behind bytes. -/
def goB (s : BitVec 16) (zs : List Int) : BitVec 16 := goS s (bitsOf zs)
theorem goB_nil (s : BitVec 16) : goB s [] = s := rfl
theorem goB_append (s : BitVec 16) (a b : List Int) : goB s (a ++ b) = goB (goB s a) b := by rw [goB, bitsOf_append, goS_append]; rfl
/-- The sum of bytes. -/
def sumB (zs : List Int) : BitVec 16 := ~~~ goB 0xffff#16 zs
/-- The two bytes of a sum, the lower one first. -/
def lowB (s : BitVec 16) : Int := ((s.toNat % 256 : Nat) : Int)
def highB (s : BitVec 16) : Int := ((s.toNat / 256 : Nat) : Int)
/-- Bytes that were closed. -/
def closeB (zs : List Int) : List Int := zs ++ [lowB (sumB zs), highB (sumB zs)]

theorem testBit_low (n : Nat) (k : Nat) (hk : k < 8) : (n % 256).testBit k = n.testBit k := by
  rw [show 256 = 2 ^ 8 from rfl, Nat.testBit_mod_two_pow]; simp [hk]
theorem testBit_high (n : Nat) (k : Nat) : (n / 256).testBit k = n.testBit (k + 8) := by
  rw [show 256 = 2 ^ 8 from rfl, Nat.testBit_div_two_pow]
/-- The bits of a sum's two bytes are its own. -/
theorem bits_sum (s : BitVec 16) (i : Nat) (hi : i < 16) : (bitsOf [lowB s, highB s])[i]?.getD false = s.getLsbD i := by
  rcases Nat.lt_or_ge i 8 with h | h
  · have := bitsOf_get [lowB s, highB s] 0 i h (by simp)
    rw [Nat.mul_zero, Nat.zero_add] at this
    rw [this]
    simp [lowB]
    show (((s.toNat : Int) % 256).toNat).testBit i = _
    rw [show ((s.toNat : Int) % 256).toNat = s.toNat % 256 by omega, testBit_low _ _ h]; rfl
  · have := bitsOf_get [lowB s, highB s] 1 (i - 8) (by omega) (by simp)
    rw [show 8 * 1 + (i - 8) = i by omega] at this
    rw [this]
    simp [highB]
    show (((s.toNat : Int) / 256).toNat).testBit (i - 8) = _
    rw [show ((s.toNat : Int) / 256).toNat = s.toNat / 256 by omega, testBit_high, show i - 8 + 8 = i by omega]; rfl
theorem val_sum (s : BitVec 16) : valB (bitsOf [lowB s, highB s]) = s := by
  apply BitVec.eq_of_getLsbD_eq
  intro i hi
  rw [valB_get _ _ hi, bits_sum s i hi]

/-- What two bytes tell. -/
def toldB (zs : List Int) : BitVec 16 := valB (bitsOf (zs.take 2))
theorem not_eq_iff (s t : BitVec 16) : t = ~~~ s ↔ s ^^^ t = 0xffff#16 := by
  constructor
  · rintro rfl
    apply BitVec.eq_of_getLsbD_eq
    intro i hi
    have : (0xffff#16 : BitVec 16).getLsbD i = true := by
      have h : ∀ j : Fin 16, (0xffff#16 : BitVec 16).getLsbD j.val = true := by decide
      exact h ⟨i, hi⟩
    rw [this]; simp [hi]
  · intro h
    apply BitVec.eq_of_getLsbD_eq
    intro i hi
    have h1 := congrArg (fun v => v.getLsbD i) h
    have : (0xffff#16 : BitVec 16).getLsbD i = true := by
      have h : ∀ j : Fin 16, (0xffff#16 : BitVec 16).getLsbD j.val = true := by decide
      exact h ⟨i, hi⟩
    simp only [BitVec.getLsbD_xor, this] at h1
    rw [BitVec.getLsbD_not]
    revert h1
    cases s.getLsbD i <;> cases t.getLsbD i <;> simp [hi]
/-- The state behind all bytes that were closed is one and the same. -/
def endS : BitVec 16 := goS 0xffff#16 (zeros 16)
/-- Bytes are closed just if the state behind them is that one. -/
theorem closed_iff (l : List Int) (t : List Int) (ht : t.length = 2) : valB (bitsOf t) = sumB l ↔ goB 0xffff#16 (l ++ t) = endS := by
  have hl : (bitsOf t).length = 16 := by rw [bitsOf_length, ht]
  rw [goB_append, goB, goS_val (bitsOf t) _ (by omega), hl, endS, goS_eq_iff, sumB, not_eq_iff]
theorem closeB_end (l : List Int) : goB 0xffff#16 (closeB l) = endS := (closed_iff l _ rfl).1 (val_sum _)

/-- Bits of which up to 16, from one on, are others: closed no more. -/
theorem burst_end (c d : List Bool) (at_ rest : Nat) (by_ : List Bool) (h16 : by_.length = 16) (hc : c.length = at_ + 16 + rest) (hd : d = mix c (zeros at_ ++ by_ ++ zeros rest)) :
    goS 0xffff#16 d = goS 0xffff#16 c ↔ valB by_ = 0#16 := by
  have hm := goS_mix c (zeros at_ ++ by_ ++ zeros rest) 0xffff#16 0#16 (by simp; omega)
  rw [← hd, BitVec.xor_zero, goS_append, goS_append, goS_zeros] at hm
  rw [hm]
  constructor
  · intro h
    have h0 : goS (goS 0#16 by_) (zeros rest) = 0#16 := by
      have := (xor_zero_iff _ _).2 h
      rw [BitVec.xor_comm, ← BitVec.xor_assoc, BitVec.xor_self, BitVec.zero_xor] at this
      exact this
    have h1 : goS 0#16 by_ = 0#16 := goS_inj (h0.trans (goS_zeros rest).symm)
    rw [goS_val by_ _ (by omega), h16] at h1
    have h2 := goS_inj (h1.trans (goS_zeros 16).symm)
    rw [BitVec.zero_xor] at h2
    exact h2
  · intro h
    have h0 : goS 0#16 by_ = 0#16 := by rw [goS_val by_ _ (by omega), h, h16, BitVec.xor_zero, goS_zeros]
    rw [h0, goS_zeros, BitVec.xor_zero]
end Go.Proofs.Ytgpofgepffhcnaa
