/- Bits of numbers as quotients and remainders. Bits in bytes: plain arithmetic. No program here. What a slice that came in holds, cell by cell; kept by whatever leaves old blocks alone. append onto a row of the call's own, whatever is appended. Memory of the call's own: made with room behind it; copied onto; as an own row. What all packages' proofs share, whatever types they have: small words; cells that are kept. A region that draws its order, all of whose operations ahead of the last few yield the same whatever the order: one way. What goes on to hold wherever memory grows and nothing old turns. What is read of plain data by value (numbers and bools, arrays and structs of such, however they lie in one another): its cells, each of its kind. A region that draws its order within a round of a range over a function: by the plain walk, where nothing is deferred. What comes in of numbers of one kind, side by side, and of flags. The first of a list that is so; whether all, whether some are: up to a place. Plain. Iterators, one within another: what one gives, in order, whatever the rounds do to blocks that they name; a range over such a one. As XSteady, from wherever a region has come to, in the held form: the rest, all of it, steadily. A region that draws its order: the first n operations steadily; what follows in whatever order it may come. A region that draws its order, some of whose operations make or fill memory (a call that yields what lies anew, an alloc, a store): one way. As XMix; the last operations, each of which waits for all that come ahead, are left to the plain walk. -/
import Derived.WalkKit
import Derived.Lib.Hide
import Derived.Deep.QuietTactic
import Derived.Laws.CopyOwn
import Derived.Laws.MakeOwn
import Derived.BigQuiet
import Derived.RangeFuncBox
import Derived.Maps.AppendAt
import Derived.Deep.AppendLies
import Derived.Deep.RegionLaw
import Derived.Test.YtljpiafopbfdlaaChecked
import Derived.Lib.Strings
import Derived.Laws.BytesArg
import Derived.OpenShut
import Derived.DataShut
import Derived.ShutString
import Derived.ChangeOld
import Derived.ProofKit
import Derived.Lib.SmallJoins
import Derived.StillTail
import Derived.StillTailTactics
import Derived.OrdersHeld
import Derived.ChangeArms
import Derived.DataReads
import Derived.WideShapes
import Derived.OrdersIn
import Derived.RangeFuncCalls
import Derived.WalkMore
import Derived.ScopeJumps
import Derived.RangeFuncNested
import Derived.RangeFuncLeaves
import Derived.OwnWalkIn
import Derived.Deep.RegionHeld3
import Derived.Deep.MidRow
namespace Go.Proofs.Ytljpiafopbfdlaa
set_option linter.unusedVariables false

theorem low_bit_i64 (x : Int) (h0 : 0 ≤ x) (h1 : x ≤ 9223372036854775807) : bits BinOp.and IntKind.i64 x 1 = x % 2 := by
  obtain ⟨a, rfl⟩ := Int.eq_ofNat_of_zero_le h0
  have ha : (BitVec.ofInt 64 (a : Int)).toNat = a := by rw [BitVec.ofInt_natCast, BitVec.toNat_ofNat]; omega
  show IntKind.i64.wrap ((BitVec.ofInt 64 (a : Int) &&& 1#64).toNat : Int) = _
  rw [BitVec.toNat_and, ha, show (1#64 : BitVec 64).toNat = 1 from rfl, Nat.and_one_is_mod, IntKind.wrap_i64]
  omega

theorem low_bit_u8 (x : Int) (h0 : 0 ≤ x) (h1 : x ≤ 255) : bits BinOp.and IntKind.u8 x 1 = x % 2 := by
  obtain ⟨a, rfl⟩ := Int.eq_ofNat_of_zero_le h0
  have ha : (BitVec.ofInt 8 (a : Int)).toNat = a := by rw [BitVec.ofInt_natCast, BitVec.toNat_ofNat]; omega
  show IntKind.u8.wrap ((BitVec.ofInt 8 (a : Int) &&& 1#8).toNat : Int) = _
  rw [BitVec.toNat_and, ha, show (1#8 : BitVec 8).toNat = 1 from rfl, Nat.and_one_is_mod, IntKind.wrap_u8]
  omega
end Go.Proofs.Ytljpiafopbfdlaa
namespace Go.Proofs.Ytljpiafopbfdlaa
set_option linter.unusedVariables false

/-- What has come when k rounds are over. -/
def first {α : Type} (f : Nat → α) (k : Nat) : List α := (List.range k).map f
theorem first_succ {α : Type} (f : Nat → α) (k : Nat) : first f (k + 1) = first f k ++ [f k] := by simp [first, List.range_succ]
theorem first_length {α : Type} (f : Nat → α) (k : Nat) : (first f k).length = k := by simp [first]
theorem first_at {α : Type} (f : Nat → α) (k i : Nat) (d : α) (h : i < k) : (first f k)[i]?.getD d = f i := by simp [first, h]
theorem first_none {α : Type} (f : Nat → α) (k i : Nat) (h : k ≤ i) : (first f k)[i]? = none := by simp [first, h]

/-- A byte. -/
def IsByte (z : Int) : Prop := 0 ≤ z ∧ z ≤ 255
/-- A bit as a number. -/
def bv (l : List Bool) (i : Nat) : Int := if l[i]?.getD false then 1 else 0
theorem bv_cases (l : List Bool) (i : Nat) : 0 ≤ bv l i ∧ bv l i ≤ 1 := by unfold bv; split <;> simp
theorem bv_over (l : List Bool) (i : Nat) (h : l.length ≤ i) : bv l i = 0 := by unfold bv; rw [List.getElem?_eq_none h]; rfl
/-- The byte j of these bits. -/
def byteOf (l : List Bool) (j : Nat) : Int := 128 * bv l (8 * j) + 64 * bv l (8 * j + 1) + 32 * bv l (8 * j + 2) + 16 * bv l (8 * j + 3) + 8 * bv l (8 * j + 4) + 4 * bv l (8 * j + 5) + 2 * bv l (8 * j + 6) + bv l (8 * j + 7)
theorem byteOf_byte (l : List Bool) (j : Nat) : IsByte (byteOf l j) := by
  unfold byteOf IsByte
  have h0 := bv_cases l (8 * j); have h1 := bv_cases l (8 * j + 1); have h2 := bv_cases l (8 * j + 2); have h3 := bv_cases l (8 * j + 3)
  have h4 := bv_cases l (8 * j + 4); have h5 := bv_cases l (8 * j + 5); have h6 := bv_cases l (8 * j + 6); have h7 := bv_cases l (8 * j + 7)
  omega
theorem byteOf_over (l : List Bool) (j : Nat) (h : l.length ≤ 8 * j) : byteOf l j = 0 := by
  unfold byteOf
  rw [bv_over l (8 * j) h, bv_over l (8 * j + 1) (by omega), bv_over l (8 * j + 2) (by omega), bv_over l (8 * j + 3) (by omega), bv_over l (8 * j + 4) (by omega), bv_over l (8 * j + 5) (by omega), bv_over l (8 * j + 6) (by omega), bv_over l (8 * j + 7) (by omega)]
  rfl

theorem bv_snoc_same (l : List Bool) (b : Bool) (i : Nat) (h : i ≠ l.length) : bv (l ++ [b]) i = bv l i := by
  unfold bv
  rcases Nat.lt_or_gt_of_ne h with h | h
  · rw [List.getElem?_append_left h]
  · rw [List.getElem?_eq_none (by simp; omega), List.getElem?_eq_none (by omega)]
theorem bv_snoc_last (l : List Bool) (b : Bool) : bv (l ++ [b]) l.length = if b then 1 else 0 := by simp [bv]
theorem bv_snoc_false (l : List Bool) (i : Nat) : bv (l ++ [false]) i = bv l i := by
  by_cases h : i = l.length
  · subst h; rw [bv_snoc_last, bv_over l _ (Nat.le_refl _)]; rfl
  · exact bv_snoc_same l _ i h

theorem byteOf_snoc_false (l : List Bool) (j : Nat) : byteOf (l ++ [false]) j = byteOf l j := by simp only [byteOf, bv_snoc_false]
theorem byteOf_snoc_other (l : List Bool) (b : Bool) (j : Nat) (h : j ≠ l.length / 8) : byteOf (l ++ [b]) j = byteOf l j := by
  unfold byteOf
  rw [bv_snoc_same _ _ _ (by omega), bv_snoc_same _ _ _ (by omega), bv_snoc_same _ _ _ (by omega), bv_snoc_same _ _ _ (by omega), bv_snoc_same _ _ _ (by omega), bv_snoc_same _ _ _ (by omega), bv_snoc_same _ _ _ (by omega), bv_snoc_same _ _ _ (by omega)]
theorem or_add (r : Nat) (hr : r < 8) (q : Nat) (hq : q < 2 ^ r) : bits BinOp.or IntKind.u8 ((q * 2 ^ (8 - r) : Nat) : Int) (128 / 2 ^ r) = ((q * 2 ^ (8 - r) : Nat) : Int) + 128 / 2 ^ r := by
  have key : ∀ r : Fin 8, ∀ q : Fin 128, q.val < 2 ^ r.val → bits BinOp.or IntKind.u8 ((q.val * 2 ^ (8 - r.val) : Nat) : Int) (128 / 2 ^ r.val) = ((q.val * 2 ^ (8 - r.val) : Nat) : Int) + 128 / 2 ^ r.val := by decide +kernel
  have h2 : 2 ^ r ≤ 2 ^ 7 := Nat.pow_le_pow_right (by omega) (by omega)
  exact key ⟨r, hr⟩ ⟨q, by omega⟩ hq

set_option maxHeartbeats 2000000 in
/-- One more bit, 1: its byte is put together with its place. -/
theorem byteOf_snoc_true (l : List Bool) : byteOf (l ++ [true]) (l.length / 8) = bits BinOp.or IntKind.u8 (byteOf l (l.length / 8)) (128 / 2 ^ (l.length % 8)) := by
  have hlast := bv_snoc_last l true
  have h : ∀ i, l.length ≤ i → bv l i = 0 := bv_over l
  have hs : ∀ i, i ≠ l.length → bv (l ++ [true]) i = bv l i := bv_snoc_same l true
  have hr : l.length % 8 < 8 := Nat.mod_lt _ (by omega)
  have e : l.length = 8 * (l.length / 8) + l.length % 8 := by omega
  generalize l.length / 8 = j at *
  generalize l.length % 8 = r at *
  have c0 := bv_cases l (8 * j); have c1 := bv_cases l (8 * j + 1); have c2 := bv_cases l (8 * j + 2); have c3 := bv_cases l (8 * j + 3)
  have c4 := bv_cases l (8 * j + 4); have c5 := bv_cases l (8 * j + 5); have c6 := bv_cases l (8 * j + 6)
  rw [e] at hlast
  have hq : ∃ q : Nat, q < 2 ^ r ∧ byteOf l j = ((q * 2 ^ (8 - r) : Nat) : Int) ∧ byteOf (l ++ [true]) j = ((q * 2 ^ (8 - r) : Nat) : Int) + 128 / 2 ^ r := by
    unfold byteOf
    obtain rfl | rfl | rfl | rfl | rfl | rfl | rfl | rfl : r = 0 ∨ r = 1 ∨ r = 2 ∨ r = 3 ∨ r = 4 ∨ r = 5 ∨ r = 6 ∨ r = 7 := by omega
    · refine ⟨0, by omega, ?_, ?_⟩
      · rw [h (8 * j) (by omega), h (8 * j + 1) (by omega), h (8 * j + 2) (by omega), h (8 * j + 3) (by omega), h (8 * j + 4) (by omega), h (8 * j + 5) (by omega), h (8 * j + 6) (by omega), h (8 * j + 7) (by omega)]; rfl
      · rw [show bv (l ++ [true]) (8 * j) = 1 from hlast, hs (8 * j + 1) (by omega), hs (8 * j + 2) (by omega), hs (8 * j + 3) (by omega), hs (8 * j + 4) (by omega), hs (8 * j + 5) (by omega), hs (8 * j + 6) (by omega), hs (8 * j + 7) (by omega)]
        rw [h (8 * j + 1) (by omega), h (8 * j + 2) (by omega), h (8 * j + 3) (by omega), h (8 * j + 4) (by omega), h (8 * j + 5) (by omega), h (8 * j + 6) (by omega), h (8 * j + 7) (by omega)]; rfl
    · refine ⟨(bv l (8 * j)).toNat, by omega, ?_, ?_⟩
      · rw [h (8 * j + 1) (by omega), h (8 * j + 2) (by omega), h (8 * j + 3) (by omega), h (8 * j + 4) (by omega), h (8 * j + 5) (by omega), h (8 * j + 6) (by omega), h (8 * j + 7) (by omega)]; omega
      · rw [hs (8 * j) (by omega), show bv (l ++ [true]) (8 * j + 1) = 1 from hlast, hs (8 * j + 2) (by omega), hs (8 * j + 3) (by omega), hs (8 * j + 4) (by omega), hs (8 * j + 5) (by omega), hs (8 * j + 6) (by omega), hs (8 * j + 7) (by omega)]
        rw [h (8 * j + 2) (by omega), h (8 * j + 3) (by omega), h (8 * j + 4) (by omega), h (8 * j + 5) (by omega), h (8 * j + 6) (by omega), h (8 * j + 7) (by omega)]; omega
    · refine ⟨(2 * bv l (8 * j) + bv l (8 * j + 1)).toNat, by omega, ?_, ?_⟩
      · rw [h (8 * j + 2) (by omega), h (8 * j + 3) (by omega), h (8 * j + 4) (by omega), h (8 * j + 5) (by omega), h (8 * j + 6) (by omega), h (8 * j + 7) (by omega)]; omega
      · rw [hs (8 * j) (by omega), hs (8 * j + 1) (by omega), show bv (l ++ [true]) (8 * j + 2) = 1 from hlast, hs (8 * j + 3) (by omega), hs (8 * j + 4) (by omega), hs (8 * j + 5) (by omega), hs (8 * j + 6) (by omega), hs (8 * j + 7) (by omega)]
        rw [h (8 * j + 3) (by omega), h (8 * j + 4) (by omega), h (8 * j + 5) (by omega), h (8 * j + 6) (by omega), h (8 * j + 7) (by omega)]; omega
    · refine ⟨(4 * bv l (8 * j) + 2 * bv l (8 * j + 1) + bv l (8 * j + 2)).toNat, by omega, ?_, ?_⟩
      · rw [h (8 * j + 3) (by omega), h (8 * j + 4) (by omega), h (8 * j + 5) (by omega), h (8 * j + 6) (by omega), h (8 * j + 7) (by omega)]; omega
      · rw [hs (8 * j) (by omega), hs (8 * j + 1) (by omega), hs (8 * j + 2) (by omega), show bv (l ++ [true]) (8 * j + 3) = 1 from hlast, hs (8 * j + 4) (by omega), hs (8 * j + 5) (by omega), hs (8 * j + 6) (by omega), hs (8 * j + 7) (by omega)]
        rw [h (8 * j + 4) (by omega), h (8 * j + 5) (by omega), h (8 * j + 6) (by omega), h (8 * j + 7) (by omega)]; omega
    · refine ⟨(8 * bv l (8 * j) + 4 * bv l (8 * j + 1) + 2 * bv l (8 * j + 2) + bv l (8 * j + 3)).toNat, by omega, ?_, ?_⟩
      · rw [h (8 * j + 4) (by omega), h (8 * j + 5) (by omega), h (8 * j + 6) (by omega), h (8 * j + 7) (by omega)]; omega
      · rw [hs (8 * j) (by omega), hs (8 * j + 1) (by omega), hs (8 * j + 2) (by omega), hs (8 * j + 3) (by omega), show bv (l ++ [true]) (8 * j + 4) = 1 from hlast, hs (8 * j + 5) (by omega), hs (8 * j + 6) (by omega), hs (8 * j + 7) (by omega)]
        rw [h (8 * j + 5) (by omega), h (8 * j + 6) (by omega), h (8 * j + 7) (by omega)]; omega
    · refine ⟨(16 * bv l (8 * j) + 8 * bv l (8 * j + 1) + 4 * bv l (8 * j + 2) + 2 * bv l (8 * j + 3) + bv l (8 * j + 4)).toNat, by omega, ?_, ?_⟩
      · rw [h (8 * j + 5) (by omega), h (8 * j + 6) (by omega), h (8 * j + 7) (by omega)]; omega
      · rw [hs (8 * j) (by omega), hs (8 * j + 1) (by omega), hs (8 * j + 2) (by omega), hs (8 * j + 3) (by omega), hs (8 * j + 4) (by omega), show bv (l ++ [true]) (8 * j + 5) = 1 from hlast, hs (8 * j + 6) (by omega), hs (8 * j + 7) (by omega)]
        rw [h (8 * j + 6) (by omega), h (8 * j + 7) (by omega)]; omega
    · refine ⟨(32 * bv l (8 * j) + 16 * bv l (8 * j + 1) + 8 * bv l (8 * j + 2) + 4 * bv l (8 * j + 3) + 2 * bv l (8 * j + 4) + bv l (8 * j + 5)).toNat, by omega, ?_, ?_⟩
      · rw [h (8 * j + 6) (by omega), h (8 * j + 7) (by omega)]; omega
      · rw [hs (8 * j) (by omega), hs (8 * j + 1) (by omega), hs (8 * j + 2) (by omega), hs (8 * j + 3) (by omega), hs (8 * j + 4) (by omega), hs (8 * j + 5) (by omega), show bv (l ++ [true]) (8 * j + 6) = 1 from hlast, hs (8 * j + 7) (by omega)]
        rw [h (8 * j + 7) (by omega)]; omega
    · refine ⟨(64 * bv l (8 * j) + 32 * bv l (8 * j + 1) + 16 * bv l (8 * j + 2) + 8 * bv l (8 * j + 3) + 4 * bv l (8 * j + 4) + 2 * bv l (8 * j + 5) + bv l (8 * j + 6)).toNat, by omega, ?_, ?_⟩
      · rw [h (8 * j + 7) (by omega)]; omega
      · rw [hs (8 * j) (by omega), hs (8 * j + 1) (by omega), hs (8 * j + 2) (by omega), hs (8 * j + 3) (by omega), hs (8 * j + 4) (by omega), hs (8 * j + 5) (by omega), hs (8 * j + 6) (by omega), show bv (l ++ [true]) (8 * j + 7) = 1 from hlast]; omega
  obtain ⟨q, hq, e1, e2⟩ := hq
  rw [e2, e1, or_add r hr q hq]

/-- These bits in n bytes. -/
def pack (n : Nat) (l : List Bool) : List Int := first (byteOf l) n
theorem pack_length (n : Nat) (l : List Bool) : (pack n l).length = n := first_length _ _
theorem pack_at (n : Nat) (l : List Bool) (j : Nat) (h : j < n) : (pack n l)[j]?.getD 0 = byteOf l j := first_at _ _ _ _ h
theorem pack_byte (n : Nat) (l : List Bool) : ∀ z ∈ pack n l, IsByte z := by
  intro z hz
  simp only [pack, first, List.mem_map, List.mem_range] at hz
  obtain ⟨j, _, rfl⟩ := hz
  exact byteOf_byte l j
theorem pack_false (n : Nat) (l : List Bool) : pack n (l ++ [false]) = pack n l := by
  unfold pack first
  exact List.map_congr_left fun j _ => byteOf_snoc_false l j
theorem pack_true (n : Nat) (l : List Bool) : pack n (l ++ [true]) = (pack n l).set (l.length / 8) (bits BinOp.or IntKind.u8 (byteOf l (l.length / 8)) (128 / 2 ^ (l.length % 8))) := by
  apply List.ext_getElem
  · simp [pack, first]
  · intro i h1 h2
    rw [List.getElem_set]
    by_cases h : l.length / 8 = i
    · subst h; rw [if_pos rfl, ← byteOf_snoc_true]; simp [pack, first]
    · rw [if_neg h]
      simp [pack, first, byteOf_snoc_other l true i (fun e => h e.symm)]
/-- More bytes than are wanted are 0. -/
theorem pack_more (n k : Nat) (l : List Bool) (h : l.length ≤ 8 * n) : pack (n + k) l = pack n l ++ List.replicate k 0 := by
  apply List.ext_getElem
  · simp [pack, first]
  · intro i h1 h2
    by_cases hi : i < n
    · rw [List.getElem_append_left (by simpa [pack, first] using hi)]; simp [pack, first]
    · rw [List.getElem_append_right (by simp [pack, first]; omega)]
      simp only [List.getElem_replicate]
      simpa [pack, first] using byteOf_over l i (by omega)

/-- The bit i of these bytes. -/
def bitZ (zs : List Int) (i : Nat) : Bool := zs[i / 8]?.getD 0 / 2 ^ (7 - i % 8) % 2 == 1
set_option maxHeartbeats 2000000 in
theorem bit_of_pack (n : Nat) (l : List Bool) (i : Nat) (h : i < 8 * n) : bitZ (pack n l) i = l[i]?.getD false := by
  unfold bitZ
  rw [pack_at n l _ (by omega)]
  have hb : l[i]?.getD false = (bv l i == 1) := by unfold bv; cases l[i]?.getD false <;> rfl
  rw [hb]
  have hr : i % 8 < 8 := Nat.mod_lt _ (by omega)
  have e : i = 8 * (i / 8) + i % 8 := by omega
  generalize i / 8 = j at *
  generalize i % 8 = r at *
  subst e
  unfold byteOf
  have c0 := bv_cases l (8 * j); have c1 := bv_cases l (8 * j + 1); have c2 := bv_cases l (8 * j + 2); have c3 := bv_cases l (8 * j + 3)
  have c4 := bv_cases l (8 * j + 4); have c5 := bv_cases l (8 * j + 5); have c6 := bv_cases l (8 * j + 6); have c7 := bv_cases l (8 * j + 7)
  rw [Bool.eq_iff_iff, beq_iff_eq, beq_iff_eq]
  obtain rfl | rfl | rfl | rfl | rfl | rfl | rfl | rfl : r = 0 ∨ r = 1 ∨ r = 2 ∨ r = 3 ∨ r = 4 ∨ r = 5 ∨ r = 6 ∨ r = 7 := by omega
  all_goals
    simp only [Nat.add_zero, Nat.reduceSub, Int.reducePow]
    omega
end Go.Proofs.Ytljpiafopbfdlaa
namespace Go.Proofs.Ytljpiafopbfdlaa
open Go.RowKit
set_option linter.unusedVariables false

/-- The address A leads to the cells vs, side by side, in a block below B (nothing is said of A where there are none). -/
def Row (w : World) (B : Nat) (A : Option Addr) (vs : List Value) : Prop :=
  0 < vs.length → ∃ b off, A = some ⟨b, off, none⟩ ∧ b < B ∧ ∀ j u, vs[j]? = some u → w.cell? ⟨b, off + j, none⟩ = some u

theorem Row.nil (w : World) (B : Nat) (A : Option Addr) : Row w B A [] := fun h => absurd h (by simp)

theorem Row.keep {w w' : World} {B B' : Nat} {A : Option Addr} {vs : List Value} (h : Row w B A vs) (hB : B ≤ B') (hk : ∀ p : Addr, p.block < B → w'.cell? p = w.cell? p) : Row w' B' A vs := fun hp => by
  obtain ⟨b, off, e, hb, hc⟩ := h hp
  exact ⟨b, off, e, by omega, fun j u hu => (hk _ hb).trans (hc j u hu)⟩

theorem Row.below {w w' : World} {B : Nat} {A : Option Addr} {vs : List Value} (h : Row w B A vs) (hb : Below B w w') : Row w' B A vs :=
  h.keep (Nat.le_refl _) fun _ hp => hb.cell hp

theorem Row.mono {w : World} {B B' : Nat} {A : Option Addr} {vs : List Value} (h : Row w B A vs) (hB : B ≤ B') : Row w B' A vs :=
  h.keep hB fun _ _ => rfl

theorem Row.alloc {w : World} {B : Nat} {A : Option Addr} {vs : List Value} (h : Row w B A vs) (hB : B ≤ w.heap.size) (o : Obj) : Row (w.alloc o) B A vs :=
  h.below ((Below.refl B w).alloc hB o)

theorem Row.setCell {w : World} {B : Nat} {A : Option Addr} {vs : List Value} (h : Row w B A vs) {p : Addr} (hp : B ≤ p.block) (u : Value) : Row (w.setCell p u) B A vs :=
  h.below ((Below.refl B w).setCell hp u)

/-- What a caller had is there in whatever world has grown out of his. -/
theorem Row.on {w w' : World} {A : Option Addr} {vs : List Value} (h : Row w w.heap.size A vs) (hb : Below w.heap.size w w') : Row w' w'.heap.size A vs := (h.below hb).mono hb.size
theorem below2 (w : World) (o o' : Obj) : Below w.heap.size w ((w.alloc o).alloc o') := ((Below.refl _ w).alloc (Nat.le_refl _) o).alloc (by simp) o'
theorem below1 (w : World) (o : Obj) : Below w.heap.size w (w.alloc o) := (Below.refl _ w).alloc (Nat.le_refl _) o
theorem below3 (w : World) (o o' o'' : Obj) : Below w.heap.size w (((w.alloc o).alloc o').alloc o'') := (below2 w o o').alloc (by simp; omega) o''

/-- Bytes as the cells of a block. -/
def u8s (zs : List Int) : List Value := zs.map (.int .u8)
theorem u8s_length (zs : List Int) : (u8s zs).length = zs.length := by simp [u8s]

theorem Row.byte {w : World} {B : Nat} {A : Option Addr} {zs : List Int} (h : Row w B A (u8s zs)) {k : Nat} (hk : k < zs.length) :
    ∃ b off, A = some ⟨b, off, none⟩ ∧ b < B ∧ w.cell? ⟨b, off + k, none⟩ = some (.int .u8 (zs[k]?.getD 0)) := by
  obtain ⟨b, off, e, hb, hc⟩ := h (by rw [u8s_length]; omega)
  exact ⟨b, off, e, hb, hc k _ (by simp [u8s, hk])⟩
theorem Row.bytes {w : World} {B : Nat} {A : Option Addr} {zs : List Int} (h : Row w B A (u8s zs)) (hk : 0 < zs.length) :
    ∃ b off, A = some ⟨b, off, none⟩ ∧ b < B ∧ ∀ k, k < zs.length → w.cell? ⟨b, off + k, none⟩ = some (.int .u8 (zs[k]?.getD 0)) := by
  obtain ⟨b, off, e, hb, hc⟩ := h (by rw [u8s_length]; omega)
  exact ⟨b, off, e, hb, fun k hk => hc k _ (by simp [u8s, hk])⟩

/-- Block g is just these cells of type t, none frozen. -/
def Whole (w : World) (g : Nat) (t : TypeId) (cs : List Value) : Prop := w.heap[g]? = some (.cells cs.toArray t (0, 0))
theorem Whole.lt {w : World} {g : Nat} {t : TypeId} {cs : List Value} (h : Whole w g t cs) : g < w.heap.size := (Array.getElem?_eq_some_iff.1 h).1
theorem Whole.cell {w : World} {g : Nat} {t : TypeId} {cs : List Value} (h : Whole w g t cs) (i : Nat) : w.cell? ⟨g, i, none⟩ = cs[i]? := by
  simp [World.cell?, show w.heap[g]? = _ from h]
theorem Whole.cell_at {w : World} {g : Nat} {t : TypeId} {cs : List Value} (h : Whole w g t cs) (i : Nat) {v : Value} (hv : cs[i]? = some v) : w.cell? ⟨g, i, none⟩ = some v := (h.cell i).trans hv
theorem Whole.frozen {w : World} {g : Nat} {t : TypeId} {cs : List Value} (h : Whole w g t cs) (i : Nat) : w.frozen? ⟨g, i, none⟩ = false := by
  simp [World.frozen?, show w.heap[g]? = _ from h]
theorem Whole.new (w : World) (t : TypeId) (cs : List Value) : Whole (w.alloc (.cells cs.toArray t)) w.heap.size t cs := World.alloc_heap_new w _
theorem Whole.new_at (w : World) (t : TypeId) (cs : List Value) (n : Nat) (hn : n = w.heap.size) : Whole (w.alloc (.cells cs.toArray t)) n t cs := by subst hn; exact Whole.new w t cs
theorem Whole.kept {w w' : World} {g : Nat} {t : TypeId} {cs : List Value} (h : Whole w g t cs) {row : Option Nat} (hg : w.grownBy w' row) (hne : some g ≠ row) : Whole w' g t cs := (hg.block g h.lt hne).trans h
theorem Whole.below {w w' : World} {B g : Nat} {t : TypeId} {cs : List Value} (h : Whole w g t cs) (hb : Below B w w') (hg : g < B) : Whole w' g t cs := (hb.block g hg).trans h
theorem Whole.alloc {w : World} {g : Nat} {t : TypeId} {cs : List Value} (h : Whole w g t cs) (o : Obj) : Whole (w.alloc o) g t cs := (Below.heap_alloc w o g h.lt).trans h
theorem Whole.far {w : World} {g : Nat} {t : TypeId} {cs : List Value} (h : Whole w g t cs) {p : Addr} (hp : g ≠ p.block) (u : Value) : Whole (w.setCell p u) g t cs := (Below.heap_setCell w p u g hp).trans h
theorem Whole.set {w : World} {g : Nat} {t : TypeId} {cs : List Value} (h : Whole w g t cs) (i : Nat) (u : Value) : Whole (w.setCell ⟨g, i, none⟩ u) g t (cs.set i u) := by
  unfold Whole at h ⊢
  simp [World.setCell, Array.getElem?_modify, h]
theorem Whole.drawn {w : World} {g : Nat} {t : TypeId} {cs : List Value} (h : Whole w g t cs) (n : Nat) : Whole (w.drewN n) g t cs := h
theorem Whole.row {w : World} {g : Nat} {t : TypeId} {cs : List Value} (h : Whole w g t cs) {B : Nat} (hB : g < B) : Row w B (some ⟨g, 0, none⟩) cs :=
  fun _ => ⟨g, 0, rfl, hB, fun j u hu => by rw [Nat.zero_add]; exact h.cell_at j hu⟩
/-- That block g is so abides the turn of whatever is no cells. -/
theorem Whole.abides {w w' : World} {g : Nat} {t : TypeId} {cs : List Value} (h : Whole w g t cs) {row : Option Nat} (hg : w.grownBy w' row) (hr : ∀ r, row = some r → ∃ o : Obj, w.heap[r]? = some o ∧ o.isCells = false) : Whole w' g t cs :=
  (hg.block g h.lt (fun e => by
    obtain ⟨o, ho, hc⟩ := hr g e.symm
    rw [show w.heap[g]? = _ from h] at ho; cases ho; cases hc)).trans h

theorem replicate_cells (z : Value) (hz : z.cells = #[z]) (n : Nat) : madeCells z.cells n = (List.replicate n z).toArray := by
  rw [hz]
  apply Array.ext
  · simp [madeCells]
  · intro i h1 h2
    simp [madeCells, Nat.mod_one]

/-- make([]T, c), T of one cell. -/
theorem make_run {P : Program} (t e : TypeId) (z : Value) (bytes : Nat) (ht : P.underlying t = some (.slice e)) (hi : (P.info? e).map (fun i => (i.zero, i.size, i.bytes)) = some (some z, 1, bytes)) (hz : z.cells = #[z])
    (c : Nat) (hb : (bytes : Int) * c ≤ 281474976710656) (hc : c ≤ 9223372036854775807) (w : World) :
    (Instr.makeSlice t (.int .i64 (c : Int)) (.int .i64 (c : Int))).run P w = .ok (.slice (some ⟨w.heap.size, 0, none⟩) c c) (w.alloc (.cells (List.replicate c z).toArray e)) := by
  obtain ⟨i, h1, h2, h3, h4⟩ := info_parts hi
  have hr := run_make (P := P) w t e i z ht h1 h2 .i64 .i64 (c : Int) (c : Int) (by omega) (by omega) (by rw [h4]; exact hb) (by omega)
  rw [h3, Nat.mul_one, Int.toNat_natCast, replicate_cells z hz] at hr
  exact hr

/-- copy of a row onto the head of a block of the call's own, which has room for all of it. -/
theorem copy_run {P : Program} (t t' e : TypeId) (ht : P.underlying t = some (.slice e)) (hs : (P.info? e).map (·.size) = some 1) (g : Nat) (cur vs : List Value) (A : Option Addr) (cap B S C : Nat) (w : World)
    (hg : Whole w g e cur) (hS : cur.length = S) (hr : Row w B A vs) (hn : vs.length ≤ S) (h1 : ∀ v ∈ vs, v.oneCell' = true) :
    ∃ w', (∀ ty, (Builtin.copy_ #[t, t'] ty #[.slice (some ⟨g, 0, none⟩) S C, .slice A vs.length cap]).run P w = .ok (goInt vs.length) w') ∧ Whole w' g e (vs ++ cur.drop vs.length) ∧ w.grownBy w' (some g) := by
  by_cases h0 : vs.length = 0
  · obtain rfl : vs = [] := List.eq_nil_of_length_eq_zero h0
    exact ⟨w, fun ty => run_copy_none w t t' ty e _ A S C 0 cap ht hs (by simp), by simpa using hg, World.grownBy.refl _ _⟩
  · obtain ⟨b, off, rfl, hb, hc⟩ := hr (by omega)
    refine ⟨_, fun ty => run_copy_row P w t t' ty e g 0 S C ⟨b, off, none⟩ vs.length cap cur.toArray e vs ht hs hg (by simp only [Nat.min_def]; split <;> omega) (fun j v hv => ?_) (by simp; omega) h1, ?_, ⟨rfl, rfl, rfl, by simp [World.setRow], fun k hk hne => setRow_other w g k _ (fun e => hne (by rw [e]))⟩⟩
    · have := hc j v hv
      unfold Addr.add
      split
      · subst_vars; simpa using this
      · simpa using this
    · show _ = _
      simpa using setRow_heap w g _ _ e _ hg

theorem u8s_one (zs : List Int) : ∀ v ∈ u8s zs, v.oneCell' = true := by
  intro v hv
  simp only [u8s, List.mem_map] at hv
  obtain ⟨z, _, rfl⟩ := hv
  rfl
/-- Bits in k bytes, and 0s behind them, are these bits in more bytes. -/
theorem pack_pad (k S : Nat) (l : List Bool) (h : l.length ≤ 8 * k) (hk : k ≤ S) : u8s (pack k l) ++ (List.replicate S (.int .u8 0)).drop (u8s (pack k l)).length = u8s (pack S l) := by
  obtain ⟨d, rfl⟩ := Nat.exists_eq_add_of_le hk
  rw [pack_more k d l h, u8s_length, pack_length]
  simp [u8s]

/-- Two new blocks: a struct of a slice of S cells, each z, of the call's own, and of x beside it. -/
def Fresh2 (W : World) (n S : Nat) (tb te : TypeId) (z x o : Value) (X : World) : Prop :=
  ∃ Bo g, o = .pointer (some ⟨Bo, 0, none⟩) ∧ Bo ≠ g ∧ n ≤ Bo ∧ n ≤ g ∧ Whole X Bo tb [.slice (some ⟨g, 0, none⟩) S S, x] ∧ Whole X g te (List.replicate S z) ∧ Below n W X
theorem fresh2_row_first (W : World) (n S : Nat) (tb te : TypeId) (z x : Value) (hn : n = W.heap.size) :
    Fresh2 W n S tb te z x (.pointer (some ⟨n + 1, 0, none⟩)) ((W.alloc (.cells (Array.replicate S z) te)).alloc (.cells #[.slice (some ⟨n, 0, none⟩) S S, x] tb)).drew := by
  subst hn
  refine ⟨_, W.heap.size, rfl, by omega, by omega, Nat.le_refl _, Whole.new_at _ _ [_, _] _ (by simp), ?_, (((Below.refl _ _).alloc (Nat.le_refl _) _).alloc (by simp) _).drew⟩
  have h := (Whole.new W te (List.replicate S z)).alloc (.cells #[.slice (some ⟨W.heap.size, 0, none⟩) S S, x] tb)
  rw [List.toArray_replicate] at h
  exact h
theorem fresh2_row_last (W : World) (n S : Nat) (tb te : TypeId) (z x : Value) (hn : n = W.heap.size) :
    Fresh2 W n S tb te z x (.pointer (some ⟨n, 0, none⟩)) ((W.alloc (.cells #[.slice (some ⟨n + 1, 0, none⟩) S S, x] tb)).alloc (.cells (Array.replicate S z) te)).drew := by
  subst hn
  refine ⟨_, W.heap.size + 1, rfl, by omega, Nat.le_refl _, by omega, (Whole.new_at _ _ [_, _] _ rfl).alloc _, ?_, (((Below.refl _ _).alloc (Nat.le_refl _) _).alloc (by simp) _).drew⟩
  have h := Whole.new_at (W.alloc (.cells #[.slice (some ⟨W.heap.size + 1, 0, none⟩) S S, x] tb)) te (List.replicate S z) (W.heap.size + 1) (by simp)
  rw [List.toArray_replicate] at h
  exact h

theorem below_drawn {B : Nat} {a w : World} (h : Below B a w) (n : Nat) : Below B a (w.drewN n) := ⟨h.os, h.tape, h.output, h.size, h.block⟩
theorem Row.drewN {w : World} {B : Nat} {A : Option Addr} {vs : List Value} (h : Row w B A vs) (n : Nat) : Row (w.drewN n) B A vs := h
end Go.Proofs.Ytljpiafopbfdlaa
namespace Go.Proofs.Ytljpiafopbfdlaa
open Go.RowKit
set_option linter.unusedVariables false

theorem append_none {P : Program} (w : World) (t ty e : TypeId) (i : TypeInfo) (ht : P.underlying t = some (.slice e)) (hi : P.info? e = some i) (g n cap c : Nat) (h : n ≤ cap) :
    (Builtin.append_ #[t, t] ty #[.slice (some ⟨g, 0, none⟩) n cap, .slice none 0 c]).run P w = .ok (.slice (some ⟨g, 0, none⟩) n cap) w := by
  simp [Builtin.append_, run_underlying ht, sizeOf, typeInfo, hi, Builtin.lenOf, Builtin.firstCells, h, storeCells]

theorem row_add {w : World} {B : Nat} {A : Addr} {vs : List Value} (h : Row w B (some A) vs) : ∀ j u, vs[j]? = some u → w.cell? (A.add j) = some u := by
  intro j u hu
  have hp : 0 < vs.length := by
    rcases Nat.eq_zero_or_pos vs.length with h0 | h0
    · rw [List.eq_nil_of_length_eq_zero h0] at hu; simp at hu
    · exact h0
  obtain ⟨b, off, e, _, hc⟩ := h hp
  cases e
  have := hc j u hu
  unfold Addr.add
  split
  · subst_vars; simpa using this
  · simpa using this

/-- append(v, src..), v a slice that is not nil and lies in a block of the call's own. -/
theorem append_run {P : Program} (t ty e : TypeId) (z : Value) (bytes : Nat) (ht : P.underlying t = some (.slice e)) (hi : (P.info? e).map (fun i => (i.zero, i.size, i.bytes)) = some (some z, 1, bytes)) (hz : z.cells.size = 1)
    (base g n cap : Nat) (xs vs : List Value) (w : World) (hown : w.ownsRow base e 1 (.slice (some ⟨g, 0, none⟩) n cap) n xs) (B c : Nat) (A : Option Addr) (hr : Row w B A vs) (h1 : ∀ u ∈ vs, u.oneCell' = true) (h63 : n + vs.length ≤ maxLen) (hb : (n + vs.length) * bytes ≤ 140737488355328) (hbase : base ≤ w.heap.size) :
    ∃ g' cap' w', (Builtin.append_ #[t, t] ty #[.slice (some ⟨g, 0, none⟩) n cap, .slice A vs.length c]).run P w = .ok (.slice (some ⟨g', 0, none⟩) (n + vs.length) cap') w' ∧ w'.ownsRow base e 1 (.slice (some ⟨g', 0, none⟩) (n + vs.length) cap') (n + vs.length) (xs ++ vs) ∧
      w.grownBy w' (some g) ∧ (g' = g ∨ g' = w.heap.size) := by
  obtain ⟨i, i1, i2, i3, i4⟩ := info_parts hi
  have hnc : n ≤ cap := by
    rcases hown.2 with ⟨h, _⟩ | ⟨_, _, _, h, _, _, h', _⟩
    · cases h
    · cases h; exact h'
  cases A with
  | none =>
    have h0 : vs.length = 0 := by
      rcases Nat.eq_zero_or_pos vs.length with h0 | h0
      · exact h0
      · obtain ⟨_, _, e, _⟩ := hr h0; cases e
    obtain rfl : vs = [] := List.eq_nil_of_length_eq_zero h0
    exact ⟨g, cap, w, append_none w t ty e i ht i1 g n cap c hnc, by simpa using hown, World.grownBy.refl _ _, .inl rfl⟩
  | some A =>
    obtain ⟨v', w', r1, r2, r3, r4, r5⟩ := run_append_own_at (P := P) w base t ty e i z 1 bytes ht i1 i2 i3 i4 hz (by omega) _ n xs hown A vs.length c vs (by simp) (row_add hr) h1 h63 hb hbase
    have hv : ∃ g' cap', v' = .slice (some ⟨g', 0, none⟩) (n + vs.length) cap' := by
      rcases r2.2 with ⟨h, _⟩ | ⟨g', cap', _, h, _⟩
      · rw [r4] at h; cases h.1
      · exact ⟨g', cap', h⟩
    obtain ⟨g', cap', rfl⟩ := hv
    refine ⟨g', cap', w', r1, r2, r3, ?_⟩
    rcases r5 with h | h
    · exact .inl (by simpa [Value.ownBlock] using h)
    · exact .inr (by simpa [Value.ownBlock] using h)

/-- What a call owns it owns behind a store elsewhere, a draw, a new block. -/
theorem owns_far {w : World} {base e g n cap : Nat} {xs : List Value} (h : w.ownsRow base e 1 (.slice (some ⟨g, 0, none⟩) n cap) n xs) {p : Addr} (hp : g ≠ p.block) (u : Value) : (w.setCell p u).ownsRow base e 1 (.slice (some ⟨g, 0, none⟩) n cap) n xs :=
  h.kept (row := some p.block) ⟨rfl, rfl, rfl, by simp [World.setCell], fun k _ hk => Below.heap_setCell _ _ _ _ (fun e => hk (by rw [e]))⟩ (.inr (by simpa [Value.ownBlock] using hp))
theorem owns_drew {w : World} {base e g n cap : Nat} {xs : List Value} (h : w.ownsRow base e 1 (.slice (some ⟨g, 0, none⟩) n cap) n xs) : w.drew.ownsRow base e 1 (.slice (some ⟨g, 0, none⟩) n cap) n xs := h
theorem owns_below {w w' : World} {base e g n cap B : Nat} {xs : List Value} (h : w.ownsRow base e 1 (.slice (some ⟨g, 0, none⟩) n cap) n xs) (hb : Below B w w') (hg : g < B) : w'.ownsRow base e 1 (.slice (some ⟨g, 0, none⟩) n cap) n xs := by
  refine ⟨h.1, ?_⟩
  rcases h.2 with h2 | ⟨g', cap', cur, hv, h3, h4, r⟩
  · exact .inl h2
  · cases hv
    exact .inr ⟨g, cap, cur, rfl, h3, (hb.block g hg).trans h4, r⟩
theorem owns_mono {w : World} {base base' e g n cap : Nat} {xs : List Value} (h : w.ownsRow base e 1 (.slice (some ⟨g, 0, none⟩) n cap) n xs) (hb : base' ≤ g) : w.ownsRow base' e 1 (.slice (some ⟨g, 0, none⟩) n cap) n xs := by
  refine ⟨h.1, ?_⟩
  rcases h.2 with h2 | ⟨g', cap', cur, hv, h3, h4, r⟩
  · exact .inl h2
  · cases hv
    exact .inr ⟨g, cap, cur, rfl, hb, h4, r⟩
theorem owns_lt {w : World} {base e g n cap : Nat} {xs : List Value} (h : w.ownsRow base e 1 (.slice (some ⟨g, 0, none⟩) n cap) n xs) : base ≤ g ∧ g < w.heap.size := h.lt g rfl
theorem owns_row {w : World} {base e g n cap B : Nat} {xs : List Value} (h : w.ownsRow base e 1 (.slice (some ⟨g, 0, none⟩) n cap) n xs) (hB : g < B) : Row w B (some ⟨g, 0, none⟩) xs := by
  intro _
  refine ⟨g, 0, rfl, hB, fun j u hu => ?_⟩
  have hj : j < n * 1 := by
    have := h.1
    rcases Nat.lt_or_ge j xs.length with h' | h'
    · omega
    · rw [List.getElem?_eq_none h'] at hu; cases hu
  rw [Nat.zero_add, h.cellAt j hj]
  exact hu

/-- append at an operation, by its run. -/
theorem oper_append {P : Program} {o : Oper} {a : Act} {w w' : World} {K : Act → World → Prop} {Q : Exit → Act → World → Prop} (s x : Operand) (t : TypeId)
    (ho : o.op = .call { callee := .builtin .append, args := #[s, x], argTypes := #[t, t] }) {v' : Value} (hrun : (Builtin.append_ #[t, t] o.type #[a.eval s, a.eval x]).run P w = .ok v' w') (h : K (a.put o.dst v') w') : o.wp P a w K Q := by
  unfold Oper.wp execOp
  simp only [ho, resolve, invoke, builtin, Sem.run_bind, Sem.run_pure, Result.andThen_ok, List.map_toArray, List.map_cons, List.map_nil, hrun]
  exact h
theorem list_append {P : Program} {ops : Array Oper} {rest : List Oper} {o : Oper} {a : Act} {w w' : World} {Q : Exit → Act → World → Prop} (hgd : o.guard = none) (s x : Operand) (t : TypeId)
    (ho : o.op = .call { callee := .builtin .append, args := #[s, x], argTypes := #[t, t] }) {v' : Value} (hrun : (Builtin.append_ #[t, t] o.type #[a.eval s, a.eval x]).run P w = .ok v' w') (h : wpList P ops Q rest (a.put o.dst v') w') : wpList P ops Q (o :: rest) a w :=
  wpList_plain hgd fun _ hK => oper_append s x t ho hrun (hK _ _ h)
theorem step_append {P : Program} {ops : Array Oper} {o : Oper} {a : Act} {w w' : World} {K : Act → World → Prop} {Q : Exit → Act → World → Prop} {E : Prop} (hgd : o.guard = none) (s x : Operand) (t : TypeId)
    (ho : o.op = .call { callee := .builtin .append, args := #[s, x], argTypes := #[t, t] }) {v' : Value} (hrun : (Builtin.append_ #[t, t] o.type #[a.eval s, a.eval x]).run P w = .ok v' w') (h : K (a.put o.dst v') w') :
    if Region.wanted o (yielded ops a.tmps) = true then Oper.wp P o a w K Q else E := by
  rw [if_pos (by simp [Region.wanted, hgd])]
  exact oper_append s x t ho hrun h
end Go.Proofs.Ytljpiafopbfdlaa
namespace Go.Proofs.Ytljpiafopbfdlaa
open Go.RowKit
set_option linter.unusedVariables false

/-- make([]T, l, c), T of one cell. -/
theorem make_cap_run {P : Program} (t e : TypeId) (z : Value) (bytes : Nat) (ht : P.underlying t = some (.slice e)) (hi : (P.info? e).map (fun i => (i.zero, i.size, i.bytes)) = some (some z, 1, bytes)) (hz : z.cells = #[z])
    (l c : Nat) (hlc : l ≤ c) (hb : (bytes : Int) * c ≤ 281474976710656) (hc : c ≤ 9223372036854775807) (w : World) :
    (Instr.makeSlice t (.int .i64 (l : Int)) (.int .i64 (c : Int))).run P w = .ok (.slice (some ⟨w.heap.size, 0, none⟩) l c) (w.alloc (.cells (List.replicate c z).toArray e)) := by
  obtain ⟨i, h1, h2, h3, h4⟩ := info_parts hi
  have hr := run_make (P := P) w t e i z ht h1 h2 .i64 .i64 (l : Int) (c : Int) (by omega) (by omega) (by rw [h4]; exact hb) (by omega)
  rw [h3, Nat.mul_one, Int.toNat_natCast, Int.toNat_natCast, replicate_cells z hz] at hr
  exact hr

/-- copy of a row onto the head of a block of the call's own, which has room for all of it. -/
theorem copy_part_run {P : Program} (t t' e : TypeId) (ht : P.underlying t = some (.slice e)) (hs : (P.info? e).map (·.size) = some 1) (g : Nat) (cur vs : List Value) (A : Option Addr) (cap B S C : Nat) (w : World)
    (hg : Whole w g e cur) (hS : S ≤ cur.length) (hr : Row w B A vs) (hn : vs.length ≤ S) (h1 : ∀ v ∈ vs, v.oneCell' = true) :
    ∃ w', (∀ ty, (Builtin.copy_ #[t, t'] ty #[.slice (some ⟨g, 0, none⟩) S C, .slice A vs.length cap]).run P w = .ok (goInt vs.length) w') ∧ Whole w' g e (vs ++ cur.drop vs.length) ∧ w.grownBy w' (some g) := by
  by_cases h0 : vs.length = 0
  · obtain rfl : vs = [] := List.eq_nil_of_length_eq_zero h0
    exact ⟨w, fun ty => run_copy_none w t t' ty e _ A S C 0 cap ht hs (by simp), by simpa using hg, World.grownBy.refl _ _⟩
  · obtain ⟨b, off, rfl, hb, hc⟩ := hr (by omega)
    refine ⟨_, fun ty => run_copy_row P w t t' ty e g 0 S C ⟨b, off, none⟩ vs.length cap cur.toArray e vs ht hs hg (by simp only [Nat.min_def]; split <;> omega) (fun j v hv => ?_) (by simp; omega) h1, ?_, ⟨rfl, rfl, rfl, by simp [World.setRow], fun k hk hne => setRow_other w g k _ (fun e => hne (by rw [e]))⟩⟩
    · have := hc j v hv
      unfold Addr.add
      split
      · subst_vars; simpa using this
      · simpa using this
    · show _ = _
      simpa using setRow_heap w g _ _ e _ hg

/-- A whole block, its first n cells, as a row of the call's own. -/
theorem owns_of_whole {w : World} {base g n cap : Nat} {e : TypeId} {cur : List Value} (h : Whole w g e cur) (hb : base ≤ g) (hn : n ≤ cap) (hm : cap ≤ maxLen) (hl : cur.length = cap) :
    w.ownsRow base e 1 (.slice (some ⟨g, 0, none⟩) n cap) n (cur.take n) := by
  refine ⟨by rw [List.length_take]; omega, .inr ⟨g, cap, cur.toArray, rfl, hb, h, hn, hm, by simpa using hl, by simp⟩⟩
end Go.Proofs.Ytljpiafopbfdlaa
namespace Go.Proofs.Ytljpiafopbfdlaa
open Go.ChangeShapes Go.WideShapes Go.ChangeAt Go.RowKit Go.Deep
open Go.Joins
set_option linter.unusedVariables false

theorem ret_int {k : IntKind} {a b : Int} (h : a = b) : Ending.returned (.int k a) = .returned (.int k b) := by rw [h]
theorem ret_bool {a b : Bool} (h : a = b) : Ending.returned (.bool a) = .returned (.bool b) := by rw [h]

/-- The cells of these blocks read as they did. -/
def KeepCells (Pp : Nat → Prop) (W W' : World) : Prop := ∀ p : Addr, Pp p.block → W'.cell? p = W.cell? p
theorem KeepCells.refl (Pp : Nat → Prop) (W : World) : KeepCells Pp W W := fun _ _ => rfl
theorem KeepCells.trans {Pp : Nat → Prop} {A B C : World} (h : KeepCells Pp A B) (k : KeepCells Pp B C) : KeepCells Pp A C := fun p hp => (k p hp).trans (h p hp)

/-- A list of bits' encoding for a round of one variable. -/
def encB (x : Bool) : Array Value := #[.bool x]

/-- Below n₀ nothing has turned but block X. -/
structure BelowBut (n₀ X : Nat) (w w' : World) : Prop where
  size : w.heap.size ≤ w'.heap.size
  block : ∀ k, k < n₀ → k ≠ X → w'.heap[k]? = w.heap[k]?
theorem BelowBut.trans {n₀ X : Nat} {a b c : World} (h : BelowBut n₀ X a b) (k : BelowBut n₀ X b c) : BelowBut n₀ X a c := ⟨Nat.le_trans h.size k.size, fun i hi hx => (k.block i hi hx).trans (h.block i hi hx)⟩
theorem BelowBut.put {n₀ X : Nat} {w : World} (hn : n₀ ≤ w.heap.size) (W : World) (l : Nat) (o o' : Obj) (hl : w.heap.size ≤ l) (_ : W.heap[l]? = some o) (_ : o.isCells = false) (_ : o.isWalk = false) : BelowBut n₀ X W (W.putObj l o') :=
  ⟨(grownBy_putObj' W l o').size, fun k hk _ => World.putObj_heap_other (by omega)⟩
theorem BelowBut.keeps {n₀ X : Nat} {w w' : World} (h : BelowBut n₀ X w w') : KeepCells (fun b => b < n₀ ∧ b ≠ X) w w' := fun p hp => World.cell?_of_block (h.block p.block hp.1 hp.2)
theorem BelowBut.set {n₀ X : Nat} (w : World) (i : Nat) (u : Value) : BelowBut n₀ X w (w.setCell ⟨X, i, none⟩ u) := ⟨by simp [World.setCell], fun k _ hx => Below.heap_setCell _ _ _ _ hx⟩

theorem row_of_cells {w : World} {x : Addr} {vs : List Value} (h : ∀ i u, vs[i]? = some u → w.cell? (x.add i) = some u) : Row w w.heap.size (some x) vs := by
  intro hp
  obtain ⟨b, off, spot⟩ := x
  obtain ⟨u, hu⟩ : ∃ u, vs[0]? = some u := ⟨vs[0], List.getElem?_eq_getElem hp⟩
  have hc := h 0 u hu
  have hs : spot = none := by simpa [Addr.add] using World.cell?_spot hc
  subst hs
  refine ⟨b, off, rfl, ?_, fun j u' hu' => ?_⟩
  · exact World.block_lt_of_cell? w _ hc
  · have hj := h j u' hu'
    by_cases h0 : j = 0
    · subst h0; simpa [Addr.add] using hj
    · simpa [Addr.add, h0] using hj
end Go.Proofs.Ytljpiafopbfdlaa
namespace Go.Proofs.Ytljpiafopbfdlaa
set_option linter.unusedVariables false

section
variable {P : Program} {ops : Array Oper} {md : Region.Mode} {S : World → Prop}

/-- In state a, in every world that meets S, operation o leaves v in its temporary, and a world that meets S. -/
def SteadyAt (P : Program) (ops : Array Oper) (S : World → Prop) (o : Oper) (v : Value) (a : Act) : Prop :=
  (Region.wanted o (yielded ops a.tmps) = true ∧ ∀ w, S w → ∀ K : Act → World → Prop, (∀ w', S w' → K (a.put o.dst v) w') → o.wp P a w K (fun _ _ _ => False)) ∨
  (Region.wanted o (yielded ops a.tmps) = false ∧ v = undef)

theorem put_same {a b : Act} {d : Option Tmp} {u v : Value} (hs : b.tmps.size = a.tmps.size) (h : a.put d u = a.put d v) : b.put d u = b.put d v := by
  cases d with
  | none => rfl
  | some d =>
    have h0 : a.tmps.setIfInBounds d u = a.tmps.setIfInBounds d v := congrArg Act.tmps h
    by_cases hd : d < a.tmps.size
    · have h1 := congrArg (fun t => t[d]?) h0
      simp [hd] at h1
      rw [h1]
    · have hb : b.tmps.size ≤ d := by rw [hs]; exact Nat.le_of_not_lt hd
      simp only [Act.put, Array.setIfInBounds_eq_of_size_le hb]
theorem put_size (a : Act) (d : Option Tmp) (v : Value) : (a.put d v).tmps.size = a.tmps.size := by
  cases d with
  | none => rfl
  | some d => simp [Act.put]

theorem wp_final {o : Oper} {a : Act} {w : World} {v : Value} (h : ∀ K : Act → World → Prop, (∀ w', S w' → K (a.put o.dst v) w') → o.wp P a w K (fun _ _ _ => False)) :
    o.wp P a w (fun a' w' => a' = a.put o.dst v ∧ S w') (fun _ _ _ => False) := h _ fun w' hw => ⟨rfl, hw⟩

/-- Another state, which o does not tell from a. -/
theorem SteadyAt.of_same {o : Oper} {v : Value} {a a' : Act} (hy : SteadyAt P ops S o v a) (hs : a'.tmps.size = a.tmps.size) (he : execOp a'.eval o = execOp a.eval o)
    (hw : Region.wanted o (yielded ops a'.tmps) = Region.wanted o (yielded ops a.tmps)) : SteadyAt P ops S o v a' := by
  rcases hy with ⟨h1, h2⟩ | ⟨h1, h2⟩
  · refine .inl ⟨hw.trans h1, fun w hS K hK => ?_⟩
    have h := wp_final (h2 w hS)
    unfold Oper.wp at h ⊢
    rw [he]
    generalize (execOp a.eval o).run P w = r at h
    cases r with
    | ok n w' =>
      cases n <;> simp only [Oper.upon] at h ⊢
      case value u => rw [put_same hs h.1]; exact hK _ h.2
      case skip => rw [put_same hs h.1]; exact hK _ h.2
      case defer d =>
        have := congrArg (fun x => x.defers.length) h.1
        exfalso
        revert this
        cases o.dst <;> simp [Act.put]
      case enter f args =>
        refine Calls.mono h fun e w'' q => ?_
        cases e with
        | returned u => exact (by rw [put_same hs q.1]; exact hK _ q.2 : K (a'.put o.dst u) w'')
        | panicked c => exact q
        | outgrown => exact q
      case row row args => exact Rows.mono h fun u w'' q => by rw [put_same hs q.1]; exact hK _ q.2
    | halt x w' => cases x <;> simp only [Oper.upon] at h ⊢
  · exact .inr ⟨hw.trans h1, h2⟩

/-- Operation i, steadily. -/
def stOpS (P : Program) (ops : Array Oper) (S : World → Prop) (i : Nat) (K : Act → Prop) (a : Act) : Prop :=
  match ops[i]? with
  | none => K a
  | some o => ∃ v, SteadyAt P ops S o v a ∧ K (a.put o.dst v)
theorem stOpS_mono {i : Nat} {K K' : Act → Prop} {a : Act} (h : ∀ a, K a → K' a) (hh : stOpS P ops S i K a) : stOpS P ops S i K' a := by
  unfold stOpS at *
  split
  · rename_i ho; simp only [ho] at hh; exact h _ hh
  · rename_i o ho; simp only [ho] at hh; obtain ⟨v, h1, h2⟩ := hh; exact ⟨v, h1, h _ h2⟩
theorem wpOp_of_stOpS {Q : Exit → Act → World → Prop} {i : Nat} {K : Act → Prop} {K' : Act → World → Prop} {a : Act} {w : World} (hS : S w) (h : ∀ a w, K a → S w → K' a w) (hh : stOpS P ops S i K a) : wpOp P ops Q i K' a w := by
  unfold stOpS at hh
  unfold wpOp
  cases ho : ops[i]? with
  | none => simp only [ho] at hh ⊢; exact h _ _ hh hS
  | some o =>
    simp only [ho] at hh ⊢
    obtain ⟨v, hy, hK⟩ := hh
    rcases hy with ⟨h1, h2⟩ | ⟨h1, rfl⟩
    · simp only [h1, if_true]
      refine .inl ?_
      have h3 := h2 w hS K' (fun w' hw => h _ _ hK hw)
      unfold Oper.wp at h3 ⊢
      generalize (execOp a.eval o).run P w = r at h3
      cases r with
      | ok n w' =>
        cases n <;> simp only [Oper.upon] at h3 ⊢ <;>
          first
            | exact h3
            | exact h3.elim
            | (refine Calls.mono h3 fun e w'' q => ?_
               cases e with
               | returned u => exact q
               | panicked c => exact (q : False).elim
               | outgrown => exact (let ⟨_, _, hf⟩ := q; hf.elim))
      | halt x w' => cases x <;> simp only [Oper.upon] at h3 ⊢
    · simp only [h1, Bool.false_eq_true, if_false]
      exact h _ _ hK hS
theorem stOpS_put {j : Nat} {oi oj : Oper} {v : Value} {K : Act → Prop} {a : Act} (hj : ops[j]? = some oj) (hap : oi.apart ops oj = true)
    (hsi : ∀ cs b, oi.op ≠ .select cs b) (hsj : ∀ cs b, oj.op ≠ .select cs b) (hy : SteadyAt P ops S oi v a) (h : stOpS P ops S j K (a.put oi.dst v)) :
    stOpS P ops S j (fun a' => SteadyAt P ops S oi v a' ∧ K (a'.put oi.dst v)) a := by
  obtain ⟨h1, h2, h3⟩ := Oper.apart_spec hap
  unfold stOpS at *
  simp only [hj] at *
  obtain ⟨u, hu, hK⟩ := h
  refine ⟨u, hu.of_same (put_size _ _ _).symm (execOp_put oj hsj a oi.dst v h1).symm (wanted_put oj a oi.dst v h1).symm, hy.of_same (put_size _ _ _) (execOp_put oi hsi a oj.dst u h3) (wanted_put oi a oj.dst u h3), ?_⟩
  rw [← Act.put_comm a v u h2]
  exact hK

/-- Whatever order is picked, each steadily, till f have come up. -/
def allS (P : Program) (md : Region.Mode) (ops : Array Oper) (S : World → Prop) (n : Nat) (L : Array Bool → Act → Prop) : Nat → Array Bool → Act → Prop
  | 0, listed, a => L listed a
  | f + 1, listed, a => Region.ready md ops listed ≠ [] ∧ ∀ i ∈ Region.ready md ops listed, i < n ∧ stOpS P ops S i (allS P md ops S n L f (listed.setIfInBounds i true)) a

theorem any_of_allS {Q : Exit → Act → World → Prop} {n g : Nat} {L : Array Bool → Act → Prop} (hL : ∀ listed a, L listed a → ∀ w, S w → wpAny P md ops Q g listed a w) :
    ∀ (f : Nat) (listed : Array Bool) (a : Act), allS P md ops S n L f listed a → ∀ w, S w → wpAny P md ops Q (f + g) listed a w
  | 0, listed, a, h, w, hS => by rw [Nat.zero_add]; exact hL _ _ h w hS
  | f + 1, listed, a, h, w, hS => by
    rw [show f + 1 + g = (f + g) + 1 by omega]
    exact ⟨fun h0 => absurd h0 h.1, fun i hi => wpOp_of_stOpS hS (fun a' w' h' hS' => any_of_allS hL f _ a' h' w' hS') (h.2 i hi).2⟩

theorem allS_first {n i : Nat} {oi : Oper} {v : Value} {L : Array Bool → Act → Prop} (hi : ops[i]? = some oi) (hsel : ∀ (j : Nat) (o : Oper) cs b, ops[j]? = some o → o.op ≠ .select cs b)
    (hs : Region.sinkB md ops n = true) (hc : Region.chainB md ops n = true) (hn : n < ops.size) (hin : i < n)
    (hdone : ∀ listed a, L listed a → ∀ j ∈ Region.ready md ops listed, n ≤ j) :
    ∀ (f : Nat) (listed : Array Bool) (a : Act), HeadInv md ops n listed →
      (∀ j oj, ops[j]? = some oj → j ≠ i → listed.getD j true = false → (∀ e ∈ oj.after, Region.binds md e = true → e.on ≠ i) → oi.apart ops oj = true) →
      i ∈ Region.ready md ops listed → SteadyAt P ops S oi v a →
      allS P md ops S n L f (listed.setIfInBounds i true) (a.put oi.dst v) → allS P md ops S n L (f + 1) listed a := by
  intro f
  induction f with
  | zero =>
    intro listed a inv _ hr hy H
    have hun := (mem_ready.1 hr).1
    refine ⟨fun h => (by rw [h] at hr; cases hr), fun j hj => ?_⟩
    have hjn : j < n := Nat.lt_of_not_le fun h => tail_waits hs hc hn inv _ i rfl hin hun j h hj
    refine ⟨hjn, ?_⟩
    by_cases hji : j = i
    · subst hji; unfold stOpS; simp only [hi]; exact ⟨v, hy, H⟩
    · have := hdone _ _ H j (ready_mono hj hji)
      omega
  | succ f ih =>
    intro listed a inv hfree hr hy H
    have hun := (mem_ready.1 hr).1
    refine ⟨fun h => (by rw [h] at hr; cases hr), fun j hj => ?_⟩
    have hjn : j < n := Nat.lt_of_not_le fun h => tail_waits hs hc hn inv _ i rfl hin hun j h hj
    refine ⟨hjn, ?_⟩
    by_cases hji : j = i
    · subst hji; unfold stOpS; simp only [hi]; exact ⟨v, hy, H⟩
    · have h1 := (H.2 j (ready_mono hj hji)).2
      obtain ⟨hjun, oj, hoj, hall⟩ := mem_ready.1 hj
      have hnot : ∀ e ∈ oj.after, Region.binds md e = true → e.on ≠ i := fun e he hb heq => by
        have h1 := hall e he hb
        rw [heq, getD_both hun] at h1
        cases h1
      have h2 := stOpS_put hoj (hfree j oj hoj hji hjun hnot) (fun cs b => hsel i oi cs b hi) (fun cs b => hsel j oj cs b hoj) hy h1
      refine stOpS_mono (fun a' h3 => ih (listed.setIfInBounds j true) a' (inv.set hj hjn) (fun k ok hk hki hun' hno => hfree k ok hk hki ?_ hno) (ready_mono hr (Ne.symm hji)) h3.1 ?_) h2
      · by_cases hjk : j = k
        · subst hjk; exact hjun
        · rw [getD_set_ne true hjk] at hun'; exact hun'
      · rw [Array.setIfInBounds_comm _ _ hji]
        exact h3.2

/-- One operation behind the other, each steadily. -/
def wpSteady (P : Program) (ops : Array Oper) (S : World → Prop) (Lq : Act → Prop) : List Oper → Act → Prop
  | [], a => Lq a
  | o :: l, a => ∃ v, SteadyAt P ops S o v a ∧ wpSteady P ops S Lq l (a.put o.dst v)

theorem allS_lex {n g : Nat} {Lq : Act → Prop} (hsel : Region.noSelect ops = true) (hs : Region.sinkB md ops n = true) (hc : Region.chainB md ops n = true) (hn : n < ops.size) :
    ∀ (l : List Oper) (k : Nat) (listed : Array Bool) (a : Act), (∀ j, j < l.length → l[j]? = ops[k + j]?) → k + l.length = n → HeadInv md ops n listed →
    Region.lexHead md ops g l.length k listed = true → wpSteady P ops S Lq l a →
    allS P md ops S n (fun listed' a' => Region.seqB md ops g n listed' = true ∧ Lq a') l.length listed a
  | [], k, listed, a, _, hk, _, hB, h => by
    obtain rfl : k = n := by simpa using hk
    exact ⟨by simpa [Region.lexHead] using hB, h⟩
  | o :: l, k, listed, a, hl, hk, inv, hB, h => by
    have h0 : ops[k]? = some o := by simpa using (hl 0 (by simp)).symm
    simp only [List.length_cons, Region.lexHead, Bool.and_eq_true] at hB
    obtain ⟨⟨hr, hf⟩, hB'⟩ := hB
    have hkn : k < n := by simp only [List.length_cons] at hk; omega
    have hr' : k ∈ Region.ready md ops listed := by simpa using hr
    obtain ⟨v, hy, hK⟩ := h
    exact allS_first h0 (Region.noSelect_spec hsel) hs hc hn hkn (fun listed' a' hL => seqB_ready hL.1) l.length listed a inv (Region.free_spec h0 hf) hr' hy
      (allS_lex hsel hs hc hn l (k + 1) _ _ (fun j hj => by have := hl (j + 1) (by simp; omega); simpa [Nat.add_assoc, Nat.add_comm 1 j] using this) (by simp only [List.length_cons] at hk; omega) (inv.set hr' hkn) hB' hK)

/-- All orders at once: the first n operations steadily, one behind the other; the rest, each of which waits, in whatever world is then. -/
theorem any_steady {Q : Exit → Act → World → Prop} {a : Act} {w : World} {l : List Oper} (n : Nat) (hB : Region.lexTailB .any l.toArray n = true) (hS : S w)
    (h : wpSteady P l.toArray S (fun a' => ∀ w', S w' → wpList P l.toArray Q (l.drop n) a' w') (l.take n) a) : wpAny P .any l.toArray Q l.toArray.size (Array.replicate l.toArray.size false) a w := by
  simp only [Region.lexTailB, Bool.and_eq_true, decide_eq_true_eq] at hB
  obtain ⟨⟨⟨⟨hsel, hn⟩, hs⟩, hc⟩, hlex⟩ := hB
  have hn' : n < l.length := by simpa using hn
  have htl : (l.take n).length = n := by simp; omega
  have hdl : (l.drop n).length = l.toArray.size - n := by simp
  have inv0 : HeadInv .any l.toArray n (Array.replicate l.toArray.size false) :=
    ⟨by simp, fun j oj _ hl => (by rw [getD_replicate_false] at hl; cases hl), fun t _ ht => getD_in (by simpa using ht) (getD_replicate_false _ _)⟩
  have H := allS_lex (md := .any) (g := l.toArray.size - n) hsel hs hc hn (l.take n) 0 _ a (fun j hj => by
    have hj' : j < n := by rw [htl] at hj; exact hj
    simp [hj']) (by simpa using htl) inv0 (by rw [htl]; exact hlex) h
  have := any_of_allS (Q := Q) (g := l.toArray.size - n) (fun listed a' hL w' hw => by
    have := wpAny_of_seq (md := .any) (Q' := Q) (l.drop n) n listed a' w' (fun j => by simp [List.getElem?_drop]) (by rw [hdl]; exact hL.1) (hL.2 w' hw)
    rwa [hdl] at this) _ _ _ H w hS
  rw [htl, show n + (l.toArray.size - n) = l.toArray.size by omega] at this
  exact this

theorem region_steady {id : Nat} {Q : Exit → Act → World → Prop} {a : Act} {w : World} {l : List Oper} (S : World → Prop) (n : Nat) (hm : P.follows .mixedOrders = true) (hB : Region.lexTailB .any l.toArray n = true) (hS : S w.drew)
    (h : wpSteady P l.toArray S (fun a' => ∀ w', S w' → wpList P l.toArray Q (l.drop n) a' w') (l.take n) a) : (Code.region id l.toArray true).wp P Q a w :=
  wp_region_any hm (any_steady n hB hS h)

variable {Lq : Act → Prop} {o : Oper} {l : List Oper} {a : Act}
theorem steady_nil (h : Lq a) : wpSteady P ops S Lq [] a := h
/-- It is not carried out. -/
theorem steady_skip (hw : Region.wanted o (yielded ops a.tmps) = false) (h : wpSteady P ops S Lq l (a.put o.dst undef)) : wpSteady P ops S Lq (o :: l) a := ⟨undef, .inr ⟨hw, rfl⟩, h⟩
/-- It only reads. -/
theorem steady_read (v : Value) (hw : Region.wanted o (yielded ops a.tmps) = true) (hv : ∀ w, S w → (execOp a.eval o).run P w = .ok (.value v) w) (h : wpSteady P ops S Lq l (a.put o.dst v)) : wpSteady P ops S Lq (o :: l) a :=
  ⟨v, .inl ⟨hw, fun w hS K hK => by unfold Oper.wp; rw [hv w hS]; exact hK w hS⟩, h⟩
/-- It calls. -/
theorem steady_call (f : FuncId) (args : Array Value) (v : Value) (hw : Region.wanted o (yielded ops a.tmps) = true) (hv : ∀ w, S w → (execOp a.eval o).run P w = .ok (.enter f args) w)
    (hc : ∀ w, S w → Calls P f args w fun e w' => e = .returned v ∧ S w') (h : wpSteady P ops S Lq l (a.put o.dst v)) : wpSteady P ops S Lq (o :: l) a :=
  ⟨v, .inl ⟨hw, fun w hS K hK => by
    unfold Oper.wp
    rw [hv w hS]
    refine (hc w hS).mono ?_
    rintro e w' ⟨rfl, hS'⟩
    exact hK w' hS'⟩, h⟩
end
end Go.Proofs.Ytljpiafopbfdlaa
namespace Go.Proofs.Ytljpiafopbfdlaa
open Go.RowKit
set_option linter.unusedVariables false

/-- It goes on to hold in whatever grows out of a world. -/
def Closed (P : World → Prop) : Prop := ∀ w w', P w → Below w.heap.size w w' → P w'
theorem Closed.drew {P : World → Prop} (h : Closed P) {w : World} (hp : P w) : P w.drew := h w _ hp (Below.refl _ w).drew
theorem Closed.and {P Q : World → Prop} (h : Closed P) (k : Closed Q) : Closed fun w => P w ∧ Q w := fun w w' hp hb => ⟨h w w' hp.1 hb, k w w' hp.2 hb⟩
theorem Closed.below (w0 : World) : Closed fun w => Below w0.heap.size w0 w := fun w w' hp hb => hp.trans (hb.mono hp.size)
theorem Closed.cell (p : Addr) (v : Value) : Closed fun w => w.cell? p = some v := fun w w' hp hb => (hb.cell (World.block_lt_of_cell? w _ hp)).trans hp
theorem Closed.whole (g : Nat) (t : TypeId) (cs : List Value) : Closed fun w => Whole w g t cs := fun w w' hp hb => hp.below hb hp.lt
theorem Closed.row (A : Option Addr) (vs : List Value) : Closed fun w => Row w w.heap.size A vs := fun w w' hp hb => hp.on hb

/-- P, and these cells hold these values. -/
def Has (P : World → Prop) (cs : List (Addr × Value)) (w : World) : Prop := P w ∧ ∀ x ∈ cs, w.cell? x.1 = some x.2
theorem Closed.has {P : World → Prop} (h : Closed P) (cs : List (Addr × Value)) : Closed (Has P cs) := fun w w' hp hb =>
  ⟨h w w' hp.1 hb, fun x hx => (hb.cell (World.block_lt_of_cell? w _ (hp.2 x hx))).trans (hp.2 x hx)⟩
theorem Has.at {P : World → Prop} {cs l : List (Addr × Value)} {w : World} (h : Has P cs w) (e : cs = l) (i : Nat) {a : Addr} {v : Value} (hi : l[i]? = some (a, v)) : w.cell? a = some v := h.2 (a, v) (by rw [e]; exact List.mem_of_getElem? hi)
theorem Has.nil {P : World → Prop} {w : World} (h : P w) : Has P [] w := ⟨h, fun _ hx => by cases hx⟩
theorem Has.cons {P : World → Prop} {cs : List (Addr × Value)} {w : World} {a : Addr} {v : Value} (h : Has P cs w) (hc : w.cell? a = some v) : Has P ((a, v) :: cs) w := ⟨h.1, fun x hx => by
  rcases List.mem_cons.1 hx with rfl | hx
  · exact hc
  · exact h.2 x hx⟩

/-- All cells lie as they lay; what is no cells may have turned. -/
structure CellsOn (w w' : World) : Prop where
  size : w.heap.size ≤ w'.heap.size
  block : ∀ (k : Nat) (o : Obj), w.heap[k]? = some o → o.isCells = true → w'.heap[k]? = some o
theorem CellsOn.refl (w : World) : CellsOn w w := ⟨Nat.le_refl _, fun _ _ h _ => h⟩
theorem CellsOn.trans {a b c : World} (h : CellsOn a b) (k : CellsOn b c) : CellsOn a c := ⟨Nat.le_trans h.size k.size, fun i o hi ho => k.block i o (h.block i o hi ho) ho⟩
theorem CellsOn.put {w : World} (W : World) (l : Nat) (o o' : Obj) (_ : w.heap.size ≤ l) (h : W.heap[l]? = some o) (hc : o.isCells = false) (_ : o.isWalk = false) : CellsOn W (W.putObj l o') :=
  ⟨(grownBy_putObj' W l o').size, fun k x hk hx => by
    refine (World.putObj_heap_other (fun e => ?_)).trans hk
    subst e
    rw [hk] at h
    cases h
    rw [hx] at hc
    cases hc⟩
theorem CellsOn.of_below {w w' : World} (h : Below w.heap.size w w') : CellsOn w w' := ⟨h.size, fun k o hk _ => (h.block k (Array.getElem?_eq_some_iff.1 hk).1).trans hk⟩
theorem cells_of_cell {w : World} {p : Addr} {v : Value} (h : w.cell? p = some v) : ∃ o, w.heap[p.block]? = some o ∧ o.isCells = true := by
  unfold World.cell? at h
  cases ho : w.heap[p.block]? with
  | none => simp [ho] at h
  | some o => refine ⟨o, rfl, ?_⟩; cases o <;> simp [ho] at h ⊢ <;> rfl
theorem CellsOn.cell {w w' : World} (h : CellsOn w w') {p : Addr} {v : Value} (hv : w.cell? p = some v) : w'.cell? p = some v := by
  obtain ⟨o, h1, h2⟩ := cells_of_cell hv
  rw [← hv]
  exact World.cell?_of_block ((h.block _ o h1 h2).trans h1.symm)
theorem CellsOn.whole {w w' : World} (h : CellsOn w w') {g : Nat} {t : TypeId} {cs : List Value} (hw : Whole w g t cs) : Whole w' g t cs := h.block g _ hw rfl
theorem Whole.putDone {W : World} {g : Nat} {t : TypeId} {cs : List Value} (h : Whole W g t cs) {D : Nat} {ds : Option (List Deferred)} {o' : Obj} (hD : W.heap[D]? = some (.deferred ds)) : Whole (W.putObj D o') g t cs :=
  (World.putObj_heap_other (fun e => by subst e; rw [show W.heap[g]? = _ from h] at hD; cases hD)).trans h
end Go.Proofs.Ytljpiafopbfdlaa
namespace Go.Proofs.Ytljpiafopbfdlaa
open Go.ChangeShapes Go.WideShapes
set_option linter.unusedVariables false

/-- What one cell is: a number of a kind, or a bool. -/
inductive Leaf where
  | num (k : IntKind)
  | yes
def Leaf.is : Leaf → Value → Prop
  | .num k, v => ∃ n, v = .int k n ∧ (Lit.int k n).wf = true
  | .yes, v => ∃ b, v = .bool b

/-- Cells, each of its kind. -/
def Fits : List Leaf → List Value → Prop
  | [], [] => True
  | l :: ls, v :: vs => l.is v ∧ Fits ls vs
  | _, _ => False
theorem Fits.append : ∀ {a : List Leaf} {b : List Value} {c : List Leaf} {d : List Value}, Fits a b → Fits c d → Fits (a ++ c) (b ++ d)
  | [], [], _, _, _, h => h
  | _ :: _, _ :: _, _, _, ⟨h1, h2⟩, h => ⟨h1, Fits.append h2 h⟩
theorem Fits.length : ∀ {a : List Leaf} {b : List Value}, Fits a b → b.length = a.length
  | [], [], _ => rfl
  | _ :: _, _ :: _, ⟨_, h⟩ => by simp [Fits.length h]

mutual
/-- The cells of a datum that is plain. -/
def flat {H : Type} : DataW H → List Value
  | .lit (.int k n) => [.int k n]
  | .lit (.bool b) => [.bool b]
  | .agg ds => flatAll ds
  | _ => []
def flatAll {H : Type} : List (DataW H) → List Value
  | [] => []
  | d :: ds => flat d ++ flatAll ds
end

/-- Do the fields lie one behind the other, from cell o on? -/
def sideBySide (P : Program) : List Field → List (List Leaf) → Nat → Bool
  | [], [], _ => true
  | f :: fs, l :: ls, o => f.offset == o && P.cellsOf f.type == l.length && sideBySide P fs ls (o + l.length)
  | _, _, _ => false
/-- The kinds of a type's cells, where it is plain. -/
def leaves (P : Program) : Nat → TypeId → Option (List Leaf)
  | 0, _ => none
  | n + 1, t =>
    match P.underlying t with
    | some (.int k) => some [.num k]
    | some .bool => some [.yes]
    | some (.array m e) =>
      match leaves P n e with
      | some l => if P.cellsOf e == l.length && P.cellsOf t == m * l.length then some (List.replicate m l).flatten else none
      | none => none
    | some (.struct fs) =>
      match fs.toList.mapM (fun f => leaves P n f.type) with
      | some segs => if sideBySide P fs.toList segs 0 && P.cellsOf t == (segs.map List.length).sum then some segs.flatten else none
      | none => none
    | _ => none

theorem sideBySide_at {P : Program} : ∀ {fs : List Field} {segs : List (List Leaf)} {o : Nat}, sideBySide P fs segs o = true → fs.length = segs.length ∧
    ∀ (i : Nat) (f : Field) (l : List Leaf), fs[i]? = some f → segs[i]? = some l → f.offset = o + ((segs.take i).map List.length).sum ∧ P.cellsOf f.type = l.length
  | [], [], _, _ => ⟨rfl, fun i f l h _ => by simp at h⟩
  | f :: fs, l :: ls, o, h => by
    simp only [sideBySide, Bool.and_eq_true, beq_iff_eq] at h
    obtain ⟨⟨h1, h2⟩, h3⟩ := h
    obtain ⟨h4, h5⟩ := sideBySide_at h3
    refine ⟨by simp [h4], fun i g m hg hm => ?_⟩
    cases i with
    | zero => simp at hg hm; subst hg; subst hm; exact ⟨by simp [h1], h2⟩
    | succ i =>
      obtain ⟨h6, h7⟩ := h5 i g m (by simpa using hg) (by simpa using hm)
      exact ⟨by rw [List.take_succ_cons, List.map_cons, List.sum_cons]; omega, h7⟩

section
variable {H : Type} {enc : TypeId × Value → H} {P : Program} {w : World} {base : Nat} {spare : Nat → Bool} {held : Bool}

theorem open_parts : ∀ (segs : List (List Leaf)) (cs : List Value) (ys : List (DataW H × List MemPlace)) (off : Nat → Nat), cs.length = (segs.map List.length).sum → ys.length = segs.length →
    (∀ i, i < segs.length → off i = ((segs.take i).map List.length).sum) →
    (∀ i l y, segs[i]? = some l → ys[i]? = some y → Fits l ((cs.drop (off i)).take l.length) ∧ (cs.drop (off i)).take l.length = flat y.1) →
    Fits segs.flatten cs ∧ cs = flatAll (ys.map (·.1))
  | [], cs, ys, off, hl, hy, ho, h => by
    have h1 : cs = [] := List.eq_nil_of_length_eq_zero (by simpa using hl)
    have h2 : ys = [] := List.eq_nil_of_length_eq_zero (by simpa using hy)
    subst h1; subst h2
    exact ⟨trivial, rfl⟩
  | l :: segs, cs, y :: ys, off, hl, hy, ho, h => by
    have h0 := h 0 l y rfl rfl
    rw [ho 0 (by simp)] at h0
    simp only [List.take_zero, List.map_nil, List.sum_nil, List.drop_zero] at h0
    simp only [List.map_cons, List.sum_cons] at hl
    have hr := open_parts segs (cs.drop l.length) ys (fun i => off (i + 1) - l.length) (by simp; omega) (by simpa using hy) (fun i hi => by
      have := ho (i + 1) (by simpa using hi)
      rw [List.take_succ_cons, List.map_cons, List.sum_cons] at this
      show off (i + 1) - l.length = _
      omega) (fun i m z hm hz => by
      have := h (i + 1) m z (by simpa using hm) (by simpa using hz)
      have hi : i < segs.length := (List.getElem?_eq_some_iff.1 hm).1
      have ho' := ho (i + 1) (by simpa using hi)
      simp only [List.take_succ_cons, List.map_cons, List.sum_cons] at ho'
      rw [List.drop_drop]
      have e : l.length + (off (i + 1) - l.length) = off (i + 1) := by omega
      rw [e]
      exact this)
    refine ⟨?_, ?_⟩
    · have := h0.1.append hr.1
      rw [List.take_append_drop] at this
      exact this
    · simp only [List.map_cons, flatAll]
      rw [← h0.2, ← hr.2, List.take_append_drop]
  | l :: segs, cs, [], off, hl, hy, ho, h => by simp at hy

theorem plain_open : ∀ (n : Nat) (t : TypeId) (ls : List Leaf) (fuel : Nat) (cs : List Value) (x : DataW H × List MemPlace), leaves P n t = some ls → DataW.trod enc P w base spare held fuel t cs = some x → Fits ls cs ∧ cs = flat x.1
  | 0, _, _, _, _, _, h, _ => by simp [leaves] at h
  | n + 1, t, ls, fuel, cs, x, h, hx => by
    unfold leaves at h
    split at h
    · rename_i k ht
      obtain ⟨m, rfl, rfl, hw⟩ := DataW.trod_int ht hx
      cases h
      exact ⟨⟨⟨m, rfl, hw⟩, trivial⟩, rfl⟩
    · rename_i ht
      obtain ⟨b, rfl, rfl⟩ := DataW.trod_bool ht hx
      cases h
      exact ⟨⟨⟨b, rfl⟩, trivial⟩, rfl⟩
    · rename_i m e ht
      split at h
      · rename_i l hl
        split at h
        · rename_i hc
          simp only [Bool.and_eq_true, beq_iff_eq] at hc
          cases h
          obtain ⟨xs, fu, _, rfl, hlen, hxs, hel⟩ := DataW.trod_array ht hx
          refine open_parts (List.replicate m l) cs xs (fun i => i * l.length) ?_ (by simpa using hxs) (fun i hi => ?_) (fun i l' y hl' hy => ?_)
          · rw [hlen, hc.2]; simp
          · simp at hi
            simp [List.take_replicate, Nat.min_eq_left (Nat.le_of_lt hi)]
          · have hi : i < m := by have := (List.getElem?_eq_some_iff.1 hl').1; simpa using this
            simp [hi] at hl'
            subst hl'
            have := hel i hi
            rw [hc.1] at this
            exact plain_open n e l fu _ y hl (this.trans hy)
        · cases h
      · cases h
    · rename_i fs ht
      split at h
      · rename_i segs hsegs
        split at h
        · rename_i hc
          simp only [Bool.and_eq_true, beq_iff_eq] at hc
          cases h
          obtain ⟨xs, fu, _, rfl, hlen, hxs, hel⟩ := DataW.trod_struct ht hx
          obtain ⟨h1, h2⟩ := sideBySide_at hc.1
          have hsl : segs.length = fs.size := by rw [← h1]; simp
          refine open_parts segs cs xs (fun i => ((segs.take i).map List.length).sum) ?_ (by omega) (fun i hi => rfl) (fun i l y hl hy => ?_)
          · rw [hlen, hc.2]
          · have hi : i < fs.toList.length := by have := (List.getElem?_eq_some_iff.1 hl).1; omega
            have hf : fs.toList[i]? = some fs.toList[i] := List.getElem?_eq_getElem hi
            obtain ⟨h3, h4⟩ := h2 i _ l hf hl
            have hle := (mapM_some_get hsegs i _ hf).trans hl
            have := hel i _ (by rw [← Array.getElem?_toList]; exact hf)
            rw [h3, h4, Nat.zero_add] at this
            exact plain_open n _ l fu _ y hle (this.trans hy)
        · cases h
      · cases h
    · cases h

/-- A struct that came in, by value: its cells. -/
theorem open_plain {r : Reach} {b0 : Nat} {t : TypeId} {fs : Array Field} {v : Value} {d : DataW H} {p : List MemPlace} (n : Nat) (ls : List Leaf) (hs : P.underlying t = some (.struct fs)) (hl : leaves P n t = some ls)
    (hv : Value.okWide P w r b0 t v) (h : DataW.Trod enc P w base spare held t v d p) : ∃ cs : List Value, v = .agg cs.toArray ∧ Fits ls cs := by
  obtain ⟨cs, rfl, _⟩ := okWide_struct hs hv
  obtain ⟨fuel, hf⟩ := h
  exact ⟨cs.toList, by simp, (plain_open n t ls fuel _ _ hl hf).1⟩

/-- What a variable holds that lies as a plain datum: its cells. -/
theorem laid_plain {fuel n : Nat} {t : TypeId} {ls : List Leaf} {cs : List Value} {x : DataW H × List MemPlace} (hl : leaves P n t = some ls) (h : DataW.trod enc P w base spare held fuel t cs = some x) : cs = flat x.1 :=
  (plain_open n t ls fuel cs x hl h).2
end
end Go.Proofs.Ytljpiafopbfdlaa
namespace Go.Proofs.Ytljpiafopbfdlaa
set_option linter.unusedVariables false

theorem oper_inRound {P : Program} (l n : Nat) {o : Oper} (hd : ∀ c, o.op ≠ .defer c) {a : Act} {w : World} {K : Act → World → Prop} {Q : Exit → Act → World → Prop} (h : o.wp P a w K Q) : o.wpIn (Fence.wide.inRound l) n P a w K Q := by
  unfold Oper.wp at h
  unfold Oper.wpIn
  refine ⟨fun _ _ => trivial, ?_⟩
  rw [Fence.inRound_round, Oper.semAt_some l _ _ hd]
  generalize (execOp a.eval o).run P w = r at h
  cases r with
  | ok x w' =>
    cases x <;> simp only [Oper.upon, Oper.uponIn] at h ⊢ <;>
      first
        | exact h
        | exact h.elim
        | (refine ⟨fun e => by simp [Fence.wide] at e, CallsIn.inRound l (callsIn_wide.2 (h.mono ?_))⟩
           intro e w'' q
           cases e <;> exact q)
        | exact ⟨fun e => by simp [Fence.wide] at e, fun c cs _ => let ⟨v, w'', r, s⟩ := h c cs; ⟨v, w'', r, stepsIn_wide.2 s⟩⟩
  | halt x w' => cases x <;> simp only [Oper.upon, Oper.uponIn] at h ⊢ <;> exact h

/-- Nothing is deferred here. -/
def noDefer (ops : Array Oper) : Bool := ops.all fun o => match o.op with | .defer _ => false | _ => true
theorem noDefer_at {ops : Array Oper} (h : noDefer ops = true) {i : Nat} {o : Oper} (ho : ops[i]? = some o) : ∀ c, o.op ≠ .defer c := by
  intro c hc
  obtain ⟨hi, rfl⟩ := Array.getElem?_eq_some_iff.1 ho
  have := Array.all_eq_true.1 h i hi
  simp [hc] at this

theorem any_inRound {P : Program} (l n : Nat) {ops : Array Oper} (hd : noDefer ops = true) {Q : Exit → Act → World → Prop} (hq : ¬ LetsOut Q) :
    ∀ (fuel : Nat) (listed : Array Bool) (a : Act) (w : World), wpAny P .any ops Q fuel listed a w → wpAnyIn (Fence.wide.inRound l) n P .any ops Q fuel listed a w
  | 0, listed, a, w, h => h
  | fuel + 1, listed, a, w, h => by
    refine ⟨h.1, fun i hi => ?_⟩
    have hi' := h.2 i hi
    unfold wpOp at hi'
    unfold wpOpIn
    cases ho : ops[i]? with
    | none => simp only [ho] at hi'; exact any_inRound l n hd hq fuel _ _ _ hi'
    | some o =>
      simp only [ho] at hi' ⊢
      by_cases hw : Region.wanted o (yielded ops a.tmps) = true
      · rw [if_pos hw] at hi' ⊢
        rcases hi' with hi' | hi'
        · exact Oper.wpIn_mono (fun a w => any_inRound l n hd hq fuel _ a w) (oper_inRound l n (noDefer_at hd ho) hi')
        · exact absurd hi'.2 hq
      · rw [if_neg hw] at hi' ⊢
        exact ⟨fun _ _ => trivial, any_inRound l n hd hq fuel _ _ _ hi'⟩

/-- All operations ahead of the n-th only read; from there on each waits for the one ahead of it. -/
theorem region_inRound {P : Program} (l m id : Nat) {Q : Exit → Act → World → Prop} {a : Act} {w : World} {L : List Oper} (n : Nat) (hm : P.follows .mixedOrders = true) (hB : Region.lexTailB .any L.toArray n = true) (hd : noDefer L.toArray = true) (hq : ¬ LetsOut Q)
    (h : wpStill P L.toArray w.drew (fun a' => wpList P L.toArray Q (L.drop n) a' w.drew) (L.take n) a) : (Code.region id L.toArray true).wpIn (Fence.wide.inRound l) m P Q a w := by
  refine wpIn_region_any hm (any_inRound l m hd hq _ _ _ _ ?_)
  simp only [Region.lexTailB, Bool.and_eq_true, decide_eq_true_eq] at hB
  obtain ⟨⟨⟨⟨b1, b2⟩, b3⟩, b4⟩, b5⟩ := hB
  have hn : n < L.length := by simpa using b2
  have e1 : (L.take n).length = n := by rw [List.length_take]; omega
  have e2 : (L.drop n).length = L.toArray.size - n := by simp
  have start : HeadInv .any L.toArray n (Array.replicate L.toArray.size false) :=
    { size := by simp
      closed := fun j oj _ hl => by rw [getD_replicate_false] at hl; cases hl
      tail := fun t _ ht => getD_in (by simpa using ht) (getD_replicate_false _ _) }
  have lex := wpAnyL_lex (md := .any) (g := L.toArray.size - n) b1 b3 b4 b2 (L.take n) 0 _ a (fun j hj => by rw [e1] at hj; simp [hj]) (by rw [e1, Nat.zero_add]) start (by rw [e1]; exact b5) h
  have all := wpAny_of_head (Q' := Q) (g := L.toArray.size - n) (fun listed a' hL => by
    have s := wpAny_of_seq (md := .any) (Q' := Q) (L.drop n) n listed a' w.drew (fun j => by rw [List.getElem?_drop, List.getElem?_toArray]) (by rw [e2]; exact hL.1) hL.2
    rw [e2] at s
    exact s) _ _ _ lex
  rw [e1, Nat.add_sub_cancel' (Nat.le_of_lt b2)] at all
  exact all

/-- .. and outside a round, under the wide fence. -/
theorem region_wide {P : Program} (m id : Nat) {Q : Exit → Act → World → Prop} {a : Act} {w : World} {L : List Oper} (n : Nat) (hm : P.follows .mixedOrders = true) (hB : Region.lexTailB .any L.toArray n = true)
    (h : wpStill P L.toArray w.drew (fun a' => wpList P L.toArray Q (L.drop n) a' w.drew) (L.take n) a) : (Code.region id L.toArray true).wpIn Fence.wide m P Q a w :=
  wpIn_wide.2 (wp_region_still_tail n hm hB h)

/-- A piece of code that is left in no other way than by its end. -/
theorem wpIn_normal {F : Fence} {n : Nat} {P : Program} {c : Code} {K : Act → World → Prop} {Q' : Exit → Act → World → Prop} {a : Act} {w : World} (h : c.wpIn F n P (Exit.then K (fun _ _ _ => False)) a w) : c.wpIn F n P (Exit.then K Q') a w :=
  wpIn_mono h (by intro e a w q; cases e <;> first | exact q | exact q.elim)
theorem noLetsOut {K : Act → World → Prop} : ¬ LetsOut (Exit.then K (fun _ _ _ => False)) := by rintro ⟨a, w, h⟩; exact h

/-- As Q; but behind a goto to label l the rest is walked, which goes to no label any more. -/
def Exit.fwd (P : Program) (l : Nat) (rest : Code) (Q : Exit → Act → World → Prop) : Exit → Act → World → Prop
  | .goto l', a, w => l' = l ∧ rest.wp P (Exit.noGoto Q) a w
  | e, a, w => Q e a w
section
variable {P : Program} {l : Nat} {rest : Code} {Q : Exit → Act → World → Prop} {a : Act} {w : World}
theorem fwd_goto (l' : Nat) : Exit.fwd P l rest Q (.goto l') a w = (l' = l ∧ rest.wp P (Exit.noGoto Q) a w) := rfl
theorem fwd_ret : Exit.fwd P l rest Q .ret a w = Q .ret a w := rfl
theorem fwd_normal : Exit.fwd P l rest Q .normal a w = Q .normal a w := rfl
/-- A scope in which a run may jump ahead to one label. -/
theorem wp_scope_fwd {c : Code} (hf : findLabel c l = some rest) (h : c.wp P (Exit.fwd P l rest Q) a w) : (Code.scope c).wp P Q a w := by
  refine wp_scope_jumps l (fun a' w' => rest.wp P (Exit.noGoto Q) a' w') (fun _ _ => 0) hf (wp_mono h fun e a w q => ?_) (fun a' w' hJ => wp_mono hJ fun e a w q => ?_)
  · cases e <;> exact q
  · cases e <;> first | exact q | exact (q : False).elim
end
end Go.Proofs.Ytljpiafopbfdlaa
namespace Go.Proofs.Ytljpiafopbfdlaa
open Go.ChangeShapes Go.WideShapes Go.ChangeAt Go.RowKit Go.Deep
open Go.Joins
set_option linter.unusedVariables false
set_option maxRecDepth 100000

/-- Numbers as cells. -/
def nums (k : IntKind) (zs : List Int) : List Value := zs.map (.int k)
theorem nums_length (k : IntKind) (zs : List Int) : (nums k zs).length = zs.length := by simp [nums]
/-- Flags as cells. -/
def flags (l : List Bool) : List Value := l.map .bool
theorem flags_length (l : List Bool) : (flags l).length = l.length := by simp [flags]
theorem Row.num {w : World} {B : Nat} {A : Option Addr} {k : IntKind} {zs : List Int} (h : Row w B A (nums k zs)) {j : Nat} (hj : j < zs.length) :
    ∃ b off, A = some ⟨b, off, none⟩ ∧ b < B ∧ w.cell? ⟨b, off + j, none⟩ = some (.int k (zs[j]?.getD 0)) := by
  obtain ⟨b, off, e, hb, hc⟩ := h (by rw [nums_length]; omega)
  exact ⟨b, off, e, hb, hc j _ (by simp [nums, hj])⟩
theorem Row.flag {w : World} {B : Nat} {A : Option Addr} {l : List Bool} (h : Row w B A (flags l)) {j : Nat} (hj : j < l.length) :
    ∃ b off, A = some ⟨b, off, none⟩ ∧ b < B ∧ w.cell? ⟨b, off + j, none⟩ = some (.bool (l[j]?.getD false)) := by
  obtain ⟨b, off, e, hb, hc⟩ := h (by rw [flags_length]; omega)
  exact ⟨b, off, e, hb, hc j _ (by simp [flags, hj])⟩

section
variable {H : Type} {enc : TypeId × Value → H} {w : World} {base : Nat} {spare : Nat → Bool} {held : Bool}
theorem nums_open {t e : TypeId} {k : IntKind} (ht : Try.prog.underlying t = some (.slice e)) (he : Try.prog.underlying e = some (.int k)) (hc : Try.prog.cellsOf e = 1) {fuel : Nat} {v : Value} {y : DataW H × List MemPlace} (h : DataW.trod enc Try.prog w base spare held fuel t [v] = some y) :
    ∃ A cap zs, v = .slice A zs.length cap ∧ Row w w.heap.size A (nums k zs) ∧ (∀ z ∈ zs, (Lit.int k z).wf = true) ∧ zs.length ≤ cap ∧ cap ≤ maxLen ∧ (A = none → cap = 0) := by
  rcases open_ints ht he hc h with ⟨hcs, _⟩ | ⟨x, l, c, zs, hcs, _, hl, hm, hz, _, hcell, hwz⟩
  · simp at hcs
    subst hcs
    exact ⟨none, 0, [], rfl, Row.nil _ _ _, by simp, by simp, by simp, fun _ => rfl⟩
  · simp at hcs
    subst hcs
    have hlz : l ≤ zs.length := by rw [hz]; split <;> omega
    have hlen : (zs.take l).length = l := by simp; omega
    refine ⟨some x, c, zs.take l, by rw [hlen], row_of_cells ?_, ?_, by omega, hm, fun h => by cases h⟩
    · intro i u hu
      have hi : i < l := by
        have := (List.getElem?_eq_some_iff.1 hu).1
        rw [nums_length, hlen] at this; exact this
      rw [hcell i (by omega)]
      have : (nums k (zs.take l))[i]? = some (.int k (zs.getD i 0)) := by
        simp [nums, hi, show i < zs.length by omega]
      rw [this] at hu
      exact hu
    · intro z hz'
      exact hwz z (List.mem_of_mem_take hz')
theorem ints_open {t e : TypeId} {k : IntKind} (ht : Try.prog.underlying t = some (.slice e)) (he : Try.prog.underlying e = some (.int k)) (hc : Try.prog.cellsOf e = 1) {r : Reach} {b0 : Nat} {v : Value} {d : DataW H} {p : List MemPlace} (hv : Value.okWide Try.prog w r b0 t v) (h : DataW.Trod enc Try.prog w base spare held t v d p) :
    ∃ A cap zs, v = .slice A zs.length cap ∧ Row w w.heap.size A (nums k zs) ∧ (∀ z ∈ zs, (Lit.int k z).wf = true) ∧ zs.length ≤ cap ∧ cap ≤ maxLen ∧ (A = none → cap = 0) := by
  obtain ⟨a, l, c, rfl⟩ := okWide_slice ht hv
  obtain ⟨fuel, hf⟩ := h
  exact nums_open ht he hc hf
theorem bools_open {t e : TypeId} (ht : Try.prog.underlying t = some (.slice e)) (he : Try.prog.underlying e = some .bool) (hc : Try.prog.cellsOf e = 1) {v : Value} {d : DataW H} {p : List MemPlace} {r : Reach} {b0 : Nat} (hv : Value.okWide Try.prog w r b0 t v) (h : DataW.Trod enc Try.prog w base spare held t v d p) :
    ∃ A cap fl, v = .slice A fl.length cap ∧ Row w w.heap.size A (flags fl) ∧ fl.length ≤ cap ∧ cap ≤ maxLen ∧ (A = none → cap = 0) := by
  obtain ⟨a, len, cap, rfl⟩ := okWide_slice ht hv
  obtain ⟨fuel, hf⟩ := h
  rcases open_slice1 ht hc hf with ⟨hcs, _⟩ | ⟨x, l, c, m, n, V, D, Pl, hcs, _, hl, hm, hmm, _, hx⟩
  · simp [Value.cells] at hcs
    obtain ⟨rfl, rfl, rfl⟩ := hcs
    exact ⟨none, 0, [], rfl, Row.nil _ _ _, by simp, by simp, fun _ => rfl⟩
  · simp [Value.cells] at hcs
    obtain ⟨rfl, rfl, rfl⟩ := hcs
    have hlm : len ≤ m := by rw [hmm]; split <;> omega
    have each : ∀ i, i < m → ∃ b : Bool, V i = .bool b := fun i hi => by
      obtain ⟨b, hb, _⟩ := DataW.trod_bool he (hx i hi).2
      simp at hb
      exact ⟨b, hb⟩
    let f : Nat → Bool := fun i => match V i with | .bool b => b | _ => false
    have hf : ∀ i, i < m → V i = .bool (f i) := fun i hi => by
      obtain ⟨b, hb⟩ := each i hi
      simp [f, hb]
    refine ⟨some x, cap, first f len, by rw [first_length], row_of_cells ?_, by rw [first_length]; exact hl, hm, fun h => by cases h⟩
    intro i u hu
    have hi : i < len := by
      have := (List.getElem?_eq_some_iff.1 hu).1
      simpa [flags, first_length] using this
    rw [(hx i (by omega)).1, hf i (by omega)]
    have : (flags (first f len))[i]? = some (.bool (f i)) := by simp [flags, first, hi]
    rw [this] at hu
    exact hu
end
end Go.Proofs.Ytljpiafopbfdlaa
namespace Go.Proofs.Ytljpiafopbfdlaa
set_option linter.unusedVariables false

/-- The number of the first that is so, or -1. -/
def idxV {α : Type} (pr : α → Bool) (l : List α) : Int := match l.findIdx? pr with | some i => (i : Int) | none => -1
/-- None of the first j is so. -/
def NoneUp {α : Type} (pr : α → Bool) (l : List α) (j : Nat) : Prop := ∀ i x, i < j → l[i]? = some x → pr x = false
theorem NoneUp.zero {α : Type} (pr : α → Bool) (l : List α) : NoneUp pr l 0 := fun i x h => by omega
theorem NoneUp.succ {α : Type} {pr : α → Bool} {l : List α} {j : Nat} {x : α} (h : NoneUp pr l j) (hx : l[j]? = some x) (hp : pr x = false) : NoneUp pr l (j + 1) := fun i y hi hy => by
  by_cases e : i = j
  · subst e; rw [hx] at hy; cases hy; exact hp
  · exact h i y (by omega) hy
theorem NoneUp.idx {α : Type} {pr : α → Bool} {l : List α} {j : Nat} {x : α} (h : NoneUp pr l j) (hx : l[j]? = some x) (hp : pr x = true) : idxV pr l = j := by
  have hj := (List.getElem?_eq_some_iff.1 hx).1
  have : l.findIdx? pr = some j := by
    rw [List.findIdx?_eq_some_iff_getElem]
    refine ⟨hj, ?_, fun i hi => ?_⟩
    · rw [(List.getElem?_eq_some_iff.1 hx).2]; exact hp
    · have := h i (l[i]'(by omega)) hi (List.getElem?_eq_getElem (by omega))
      simpa using this
  unfold idxV
  rw [this]
theorem NoneUp.any {α : Type} {pr : α → Bool} {l : List α} (h : NoneUp pr l l.length) : l.any pr = false := by
  rw [List.any_eq_false]
  intro x hx
  obtain ⟨i, hi, e⟩ := List.getElem_of_mem hx
  have := h i x hi (by rw [List.getElem?_eq_getElem hi, e])
  simp [this]
theorem NoneUp.idx_no {α : Type} {pr : α → Bool} {l : List α} (h : NoneUp pr l l.length) : idxV pr l = -1 := by
  have : l.findIdx? pr = none := by
    rw [List.findIdx?_eq_none_iff]
    intro x hx
    have := h.any
    rw [List.any_eq_false] at this
    simpa using this x hx
  unfold idxV
  rw [this]
theorem any_hit {α : Type} {pr : α → Bool} {l : List α} {j : Nat} {x : α} (hx : l[j]? = some x) (hp : pr x = true) : l.any pr = true := List.any_eq_true.2 ⟨x, List.mem_of_getElem? hx, hp⟩
theorem idxV_any {α : Type} (pr : α → Bool) (l : List α) : decide (0 ≤ idxV pr l) = l.any pr := by
  unfold idxV
  cases h : l.findIdx? pr with
  | none =>
    rw [List.findIdx?_eq_none_iff] at h
    have : l.any pr = false := List.any_eq_false.2 (fun x hx => by simp [h x hx])
    rw [this]; rfl
  | some i =>
    rw [List.findIdx?_eq_some_iff_getElem] at h
    obtain ⟨h1, h2, _⟩ := h
    have : l.any pr = true := List.any_eq_true.2 ⟨_, List.getElem_mem h1, h2⟩
    rw [this]
    simp
theorem idxV_cases {α : Type} (pr : α → Bool) (l : List α) : (idxV pr l = -1 ∧ ∀ x ∈ l, pr x = false) ∨ ∃ j x, idxV pr l = (j : Nat) ∧ l[j]? = some x ∧ pr x = true ∧ NoneUp pr l j := by
  unfold idxV
  cases h : l.findIdx? pr with
  | none =>
    rw [List.findIdx?_eq_none_iff] at h
    exact .inl ⟨rfl, h⟩
  | some i =>
    rw [List.findIdx?_eq_some_iff_getElem] at h
    obtain ⟨h1, h2, h3⟩ := h
    refine .inr ⟨i, l[i], rfl, List.getElem?_eq_getElem h1, h2, fun k x hk hx => ?_⟩
    have := h3 k hk
    rw [(List.getElem?_eq_some_iff.1 hx).2] at this
    simpa using this
end Go.Proofs.Ytljpiafopbfdlaa
namespace Go.Proofs.Ytljpiafopbfdlaa
open Go.RowKit
set_option linter.unusedVariables false

/-- Nothing outside memory has turned. -/
def Same3 (W W' : World) : Prop := W'.os = W.os ∧ W'.tape = W.tape ∧ W'.output = W.output
theorem Same3.trans {A B C : World} (h : Same3 A B) (k : Same3 B C) : Same3 A C := ⟨k.1.trans h.1, k.2.1.trans h.2.1, k.2.2.trans h.2.2⟩
/-- The world has grown: all that is not of S lies as it lay. -/
structure Off (S : Nat → Prop) (W W' : World) : Prop where
  same : Same3 W W'
  size : W.heap.size ≤ W'.heap.size
  rest : ∀ (k : Nat) (o : Obj), W.heap[k]? = some o → ¬ S k → W'.heap[k]? = some o
theorem Off.refl (S : Nat → Prop) (W : World) : Off S W W := ⟨⟨rfl, rfl, rfl⟩, Nat.le_refl _, fun _ _ h _ => h⟩
theorem Off.trans {S : Nat → Prop} {A B C : World} (h : Off S A B) (k : Off S B C) : Off S A C :=
  ⟨h.same.trans k.same, Nat.le_trans h.size k.size, fun i o ho hn => k.rest i o (h.rest i o ho hn) hn⟩
theorem Off.mono {S S' : Nat → Prop} {A B : World} (h : Off S A B) (hs : ∀ k, S k → S' k) : Off S' A B := ⟨h.same, h.size, fun i o ho hn => h.rest i o ho (fun e => hn (hs i e))⟩
theorem Off.below {S : Nat → Prop} {A B : World} (h : Below A.heap.size A B) : Off S A B :=
  ⟨⟨h.os, h.tape, h.output⟩, h.size, fun k o ho _ => (h.block k (Array.getElem?_eq_some_iff.1 ho).1).trans ho⟩
theorem Off.put {S : Nat → Prop} (W : World) {l : Nat} (o' : Obj) (hl : S l) : Off S W (W.putObj l o') :=
  ⟨⟨rfl, rfl, rfl⟩, (grownBy_putObj' W l o').size, fun k x hk hn => (World.putObj_heap_other (fun e => hn (by subst e; exact hl))).trans hk⟩
theorem Off.set {S : Nat → Prop} (W : World) {p : Addr} (v : Value) (hl : S p.block) : Off S W (W.setCell p v) :=
  ⟨⟨rfl, rfl, rfl⟩, by simp [World.setCell], fun k x hk hn => (Below.heap_setCell W p v k (fun e => hn (by subst e; exact hl))).trans hk⟩
theorem Off.whole {S : Nat → Prop} {A B : World} (h : Off S A B) {g : Nat} {t : TypeId} {cs : List Value} (hw : Whole A g t cs) (hg : ¬ S g) : Whole B g t cs := h.rest g _ hw hg
/-- What lies in the blocks R lies as it lay. -/
def Keeps (R : Nat → Prop) (W W' : World) : Prop := ∀ (k : Nat) (o : Obj), R k → W.heap[k]? = some o → W'.heap[k]? = some o
theorem Keeps.refl (R : Nat → Prop) (W : World) : Keeps R W W := fun _ _ _ h => h
theorem Keeps.trans {R : Nat → Prop} {A B C : World} (h : Keeps R A B) (k : Keeps R B C) : Keeps R A C := fun i o hi ho => k i o hi (h i o hi ho)
theorem Keeps.below {R : Nat → Prop} {A B : World} (h : Below A.heap.size A B) : Keeps R A B := fun k o _ ho => (h.block k (Array.getElem?_eq_some_iff.1 ho).1).trans ho
theorem Off.keeps {S R : Nat → Prop} {A B : World} (h : Off S A B) (hd : ∀ k, S k → ¬ R k) : Keeps R A B := fun k o hk ho => h.rest k o ho (fun e => hd k e hk)
theorem Keeps.whole {R : Nat → Prop} {A B : World} (h : Keeps R A B) {g : Nat} {t : TypeId} {cs : List Value} (hg : R g) (hw : Whole A g t cs) : Whole B g t cs := h g _ hg hw
theorem Keeps.cell {R : Nat → Prop} {A B : World} (h : Keeps R A B) {p : Addr} {v : Value} (hp : R p.block) (hv : A.cell? p = some v) : B.cell? p = some v := by
  obtain ⟨o, h1, _⟩ := cells_of_cell hv
  rw [← hv]
  exact World.cell?_of_block ((h _ o hp h1).trans h1.symm)
theorem Row.keeps {R : Nat → Prop} {A B : World} (h : Keeps R A B) {n : Nat} (hR : ∀ k, k < n → R k) {X : Option Addr} {vs : List Value} (hr : Row A n X vs) : Row B n X vs := fun hp => by
  obtain ⟨b, off, e, hb, hc⟩ := hr hp
  exact ⟨b, off, e, hb, fun j u hu => h.cell (hR _ hb) (hc j u hu)⟩
theorem OwnFrom.up {β : Type} {B B' : Nat} {I : β → World → Prop} (h : OwnFrom B I) (hB : B ≤ B') : OwnFrom B' I := fun s W W' row hs hg hr => h s W W' row hs hg (fun r e => ⟨Nat.le_trans hB (hr r e).1, (hr r e).2⟩)
/-- That the blocks R lie as they lay abides the turn of others. -/
theorem Keeps.own {R : Nat → Prop} {w0 : World} {β : Type} {B : Nat} (hR : ∀ k, R k → k < B) : OwnFrom B fun (_ : β) W => Keeps R w0 W := fun s W W' row hs hg hr k o hk ho =>
  (hg.block k (Array.getElem?_eq_some_iff.1 (hs k o hk ho)).1 (fun e => by have := (hr k e.symm).1; have := hR k hk; omega)).trans (hs k o hk ho)
theorem block_own {β : Type} {B k : Nat} {o : Obj} (hk : k < B) : OwnFrom B fun (_ : β) (W : World) => W.heap[k]? = some o := fun s W W' row hs hg hr =>
  (hg.block k (Array.getElem?_eq_some_iff.1 hs).1 (fun e => by have := (hr k e.symm).1; omega)).trans hs

/-- It goes on to hold as long as cells, and what lies below n, lie as they lay. -/
def Firm (n : Nat) (P : World → Prop) : Prop := ∀ W W', P W → Same3 W W' → W.heap.size ≤ W'.heap.size → (∀ (k : Nat) (o : Obj), W.heap[k]? = some o → (k < n ∨ o.isCells = true) → W'.heap[k]? = some o) → P W'
theorem Firm.closed {n : Nat} {P : World → Prop} (h : Firm n P) : Closed P := fun w w' hp hb => h w w' hp ⟨hb.os, hb.tape, hb.output⟩ hb.size fun k o ho _ => (hb.block k (Array.getElem?_eq_some_iff.1 ho).1).trans ho
theorem Firm.and {n : Nat} {P Q : World → Prop} (h : Firm n P) (k : Firm n Q) : Firm n fun w => P w ∧ Q w := fun W W' hp h3 hs hk => ⟨h W W' hp.1 h3 hs hk, k W W' hp.2 h3 hs hk⟩
theorem Firm.cells {P : World → Prop} (h : ∀ W W', P W → CellsOn W W' → P W') (n : Nat) : Firm n P := fun W W' hp _ hs hk => h W W' hp ⟨hs, fun k o ho hc => hk k o ho (.inr hc)⟩
theorem Firm.below (w0 : World) : Firm w0.heap.size fun w => Below w0.heap.size w0 w := fun W W' hp h3 hs hk => ⟨h3.1.trans hp.os, h3.2.1.trans hp.tape, h3.2.2.trans hp.output, Nat.le_trans hp.size hs, fun k hlt => by
  have hb := hp.block k hlt
  obtain ⟨o, ho⟩ : ∃ o, w0.heap[k]? = some o := ⟨_, Array.getElem?_eq_getElem hlt⟩
  rw [ho] at hb ⊢
  exact hk k o hb (.inl hlt)⟩
theorem Firm.own {n : Nat} {P : World → Prop} (h : Firm n P) {β : Type} {B : Nat} (hB : n ≤ B) : OwnFrom B fun (_ : β) W => P W := fun s W W' row hs hg hr =>
  h W W' hs ⟨hg.os, hg.tape, hg.output⟩ hg.size fun k o hk hc => (hg.block k (Array.getElem?_eq_some_iff.1 hk).1 (fun e => by
    obtain ⟨h1, o', ho', hc'⟩ := hr k e.symm
    rw [hk] at ho'
    cases ho'
    rcases hc with hc | hc
    · omega
    · rw [hc] at hc'; cases hc')).trans hk

theorem RoundIn.wideAny {m m' l' : Nat} {P : Program} {l : Nat} {f : FuncId} {tmps : Array Value} {assign body : Code} {w : World} {R : Ending → World → Prop} (h : RoundIn Fence.wide m P l f tmps assign body w R) : RoundIn (Fence.wide.inRound l') m' P l f tmps assign body w R :=
  ⟨h.1, fun c cs _ => h.2 c cs (room_wide _)⟩
theorem RoundIn.wide {m m' : Nat} {P : Program} {l : Nat} {f : FuncId} {tmps : Array Value} {assign body : Code} {w : World} {R : Ending → World → Prop} (h : RoundIn Fence.wide m P l f tmps assign body w R) : RoundIn Fence.wide m' P l f tmps assign body w R :=
  ⟨h.1, fun c cs _ => h.2 c cs (room_wide _)⟩

section
variable {α : Type} {P : Program}
/-- The closure g, with what it has captured, gives the rows' elements one by one, in order, until a round says no. -/
def Iter (P : Program) (g : Nat) (lb : Array Value) (enc : α → Array Value) (xs : List α) (R : Nat → Prop) (w0 : World) : Prop :=
  ∀ (l : Nat) (S : Nat → Prop) (J : Nat → World → Prop) (Jx : World → Prop) (W : World), Keeps R w0 W → (∀ k, S k → ¬ R k ∧ k < W.heap.size) → OwnFrom W.heap.size J → OwnFrom W.heap.size (fun (_ : Unit) => Jx) →
    (∀ (j : Nat) (x : α) (W1 : World), xs[j]? = some x → J j W1 → YieldAt Fence.wide 3 P l (enc x) W1 fun e W' => (e = .returned (.bool true) ∧ J (j + 1) W' ∧ Off S W1 W') ∨ (e = .returned (.bool false) ∧ Jx W' ∧ Off S W1 W')) →
    J 0 W → Calls P g (#[.func (.yield l) #[] #[]] ++ lb) W fun e W' => (∃ v, e = .returned v) ∧ (J xs.length W' ∨ Jx W')

/-- How a round may end: it goes on; or it leaves by a jump. -/
def iterPost (S : Nat → Prop) (I : Nat → World → Prop) (Ix : Code → World → Prop) (j : Nat) (W : World) : Exit → Act → World → Prop
  | .normal, _, W' => Off S W W' ∧ I (j + 1) W'
  | .ret, _, W' => Off S W W' ∧ Ix .ret W'
  | .exit id, _, W' => Off S W W' ∧ Ix (.exit id) W'
  | .goto t, _, W' => Off S W W' ∧ Ix (.goto t) W'
  | .panic _, _, _ => False
  | .outgrown, _, _ => False

theorem range_iter {g : Operand} {ps : Array Tmp} {assign body : Code} {Q : Exit → Act → World → Prop} {a : Act} {w w0 : World} {n gf : Nat} {lb : Array Value} {enc : α → Array Value} {xs : List α} {R : Nat → Prop}
    (hg : a.eval g = .func (.func gf) #[] lb) (eg : ∀ args w, (callFunc gf args).run P w = .ok (.enter gf args) w) (hit : Iter P gf lb enc xs R w0) (hw0 : Keeps R w0 w) (hRl : ∀ k, R k → k < w.heap.size) (hps : ∀ x, (enc x).size = ps.size) (h1 : 1 ≤ n)
    (S : Nat → Prop) (hSR : ∀ k, S k → ¬ R k) (hS : ∀ k, S k → k < w.heap.size) (I : Nat → World → Prop) (Ix : Code → World → Prop) (hI : OwnFrom w.heap.size I) (hIx : ∀ c, OwnFrom w.heap.size (fun (_ : Unit) => Ix c)) (h0 : I 0 w)
    (Ax : Nat → α → Act → World → Prop) (hAx : ∀ j x a', OwnFrom w.heap.size (fun (_ : Unit) W => Ax j x a' W))
    (hassign : ∀ (l j : Nat) (x : α) (W : World) (K : Act → World → Prop), xs[j]? = some x → I j W → (∀ a' W', Off S W W' → I j W' → Ax j x a' W' → K a' W') →
      assign.wpIn (Fence.wide.inRound l) 3 P (Exit.then K (fun _ _ _ => False)) { tmps := (ps.zip (enc x)).foldl (fun t (p, v) => t.setIfInBounds p v) a.tmps, defers := [] } W)
    (hbody : ∀ (l j : Nat) (x : α) (a' : Act) (W : World), w.heap.size ≤ l → xs[j]? = some x → I j W → Ax j x a' W → body.wpIn (Fence.wide.inRound l) 3 P (iterPost S I Ix j W) a' W)
    (hdone : ∀ (D : Nat) (W : World), w.heap.size ≤ D → I xs.length W → W.heap[D]? = some (.deferred (some [])) → Q .normal { a with defers := { target := .collected D, args := #[] } :: a.defers } W)
    (hstop : ∀ (D : Nat) (c : Code) (W : World), w.heap.size ≤ D → Ix c W → W.heap[D]? = some (.deferred (some [])) → c.wpIn Fence.wide n P Q { a with defers := { target := .collected D, args := #[] } :: a.defers } W) :
    (Code.rangeFunc g ps assign body).wpIn Fence.wide n P Q a w := by
  refine wpIn_rangeFunc fun fn hfn => ?_
  obtain ⟨B, hB⟩ : ∃ B, w.heap.size = B := ⟨_, rfl⟩
  obtain ⟨rec, hrec⟩ : ∃ rec : LoopState → Option Code → Obj, ∀ st pe, rec st pe = .loop { state := st, pending := pe, fn := fn, tmps := a.tmps, params := ps, assign := assign, body := body, defers := B } := ⟨_, fun _ _ => rfl⟩
  -- the two blocks of the loop: its record in a state, the calls that its rounds put off
  obtain ⟨Own2, hOwn2⟩ : ∃ Own2 : LoopState → Option Code → World → Prop, ∀ st pe W, Own2 st pe W ↔ (W.heap[B + 1]? = some (rec st pe) ∧ W.heap[B]? = some (.deferred (some []))) := ⟨_, fun _ _ _ => Iff.rfl⟩
  have hnc : ∀ st pe, (rec st pe).isCells = false := fun st pe => by rw [hrec]; rfl
  have hfar : ∀ {st pe}, OwnFrom (B + 2) (fun (_ : Unit) W => Own2 st pe W) := fun {st pe} s W W' row hs hgr hr => by
    have hs' := (hOwn2 _ _ _).1 hs
    refine (hOwn2 _ _ _).2 ?_
    exact ⟨(hgr.block _ (Array.getElem?_eq_some_iff.1 hs'.1).1 (fun e => by have := (hr _ e.symm).1; omega)).trans hs'.1, (hgr.block _ (Array.getElem?_eq_some_iff.1 hs'.2).1 (fun e => by have := (hr _ e.symm).1; omega)).trans hs'.2⟩
  have hturn : ∀ {st pe W} (st' : LoopState) (pe' : Option Code), Own2 st pe W → Own2 st' pe' (W.putObj (B + 1) (rec st' pe')) ∧ Off (fun k => S k ∨ k = B + 1) W (W.putObj (B + 1) (rec st' pe')) := fun {st pe W} st' pe' h => by
    rw [hOwn2] at h ⊢
    exact ⟨⟨World.putObj_heap_same (Array.getElem?_eq_some_iff.1 h.1).1, (World.putObj_heap_other (by omega)).trans h.2⟩, Off.put _ _ (.inr rfl)⟩
  have hkeep : ∀ {st pe W W'}, Own2 st pe W → Off S W W' → Own2 st pe W' := fun {st pe W W'} h ho => by
    rw [hOwn2] at h ⊢
    exact ⟨ho.rest _ _ h.1 (fun e => by have := hS _ e; omega), ho.rest _ _ h.2 (fun e => by have := hS _ e; omega)⟩
  have hIput : ∀ {j st pe W} (st' : LoopState) (pe' : Option Code), Own2 st pe W → I j W → I j (W.putObj (B + 1) (rec st' pe')) := fun {j st pe W} st' pe' h hi =>
    hI.putObj _ hi (by omega) (((hOwn2 _ _ _).1 h).1) (hnc _ _)
  have hXput : ∀ {c st pe W} (st' : LoopState) (pe' : Option Code), Own2 st pe W → Ix c W → Ix c (W.putObj (B + 1) (rec st' pe')) := fun {c st pe W} st' pe' h hi =>
    (hIx c).putObj (s := ()) _ hi (by omega) (((hOwn2 _ _ _).1 h).1) (hnc _ _)
  obtain ⟨W1, hW1⟩ : ∃ W1, (w.alloc (.deferred (some []))).alloc (rec .ready none) = W1 := ⟨_, rfl⟩
  have hs1 : W1.heap.size = B + 2 := by rw [← hW1]; simp; omega
  have hO1 : Own2 .ready none W1 := by
    rw [hOwn2, ← hW1]
    refine ⟨?_, (Below.heap_alloc _ _ _ (by simp; omega)).trans (by rw [← hB]; exact World.alloc_heap_new w _)⟩
    have := World.alloc_heap_new (w.alloc (.deferred (some []))) (rec .ready none)
    rw [World.size_alloc, hB] at this
    exact this
  have hI1 : I 0 W1 := by rw [← hW1]; exact hI.alloc _ (hI.alloc _ h0)
  have hc1 : Keeps R w0 W1 := hw0.trans (Keeps.below (by rw [← hW1]; exact below2 w _ _))
  refine ⟨B + 1, [{ target := .collected B, args := #[] }], W1, { target := .fn (.func gf) lb, args := #[.func (.yield (B + 1)) #[] #[]] }, W1, gf, #[.func (.yield (B + 1)) #[] #[]] ++ lb, W1, ?_, ?_, fun _ _ => trivial, ?_, fun _ => h1, callsIn_wide.2 ?_⟩
  · rw [← hW1, hrec, ← hB]; exact run_enterLoop_outer _ _ _ _ _
  · simp only [resolve, hg]; simp [go_sem]
  · simp [invoke, go_sem, eg]
  · have hdown : ∀ {β : Type} {J : β → World → Prop}, OwnFrom B J → OwnFrom W1.heap.size J := fun {β J} h s W W' row hs hgr hr => h s W W' row hs hgr (fun r e => ⟨by have := (hr r e).1; omega, (hr r e).2⟩)
    rw [hB] at hI hIx hAx
    refine (hit (B + 1) (fun k => S k ∨ k = B + 1) (fun j W => I j W ∧ Own2 .ready none W) (fun W => ∃ c, Ix c W ∧ Own2 .done (some c) W) W1 hc1 (fun k hk => by
        rcases hk with hk | hk
        · exact ⟨hSR k hk, by have := hS k hk; omega⟩
        · exact ⟨fun e => by have := hRl k e; omega, by omega⟩)
      (OwnFrom.and (hdown hI) (fun s W W' row hs hgr hr => hfar (s := ()) W W' row hs hgr (by rwa [hs1] at hr)))
      (fun s W W' row hs hgr hr => by
        obtain ⟨c, hc, ho⟩ := hs
        exact ⟨c, hdown (hIx c) () W W' row hc hgr hr, hfar () W W' row ho hgr (by rwa [hs1] at hr)⟩) ?_ ⟨hI1, hO1⟩).mono ?_
    · rintro j x W hx ⟨hi, ho⟩
      have hy := run_yield (P := P) (args := enc x) (((hOwn2 _ _ _).1 ho).1.trans (by rw [hrec])) (hps x)
      refine ⟨fn, _, assign, body, hy, roundIn_of_wpIn hfn (hassign _ j x W _ hx hi ?_)⟩
      clear hy
      intro a' Wa hoa hia hax
      have ho := hkeep ho hoa
      refine ⟨_, run_beginRound (((hOwn2 _ _ _).1 ho).1.trans (by rw [hrec])) rfl, ?_⟩
      have e2 : (Obj.loop { state := .busy, pending := none, fn := fn, tmps := a.tmps, params := ps, assign := assign, body := body, defers := B }) = rec .busy none := (hrec _ _).symm
      simp only
      rw [e2]
      obtain ⟨ho2, hf2⟩ := hturn .busy none ho
      refine wpIn_mono (hbody (B + 1) j x a' _ (by omega) hx (hIput .busy none ho hia) ((hAx j x a').putObj (s := ()) _ hax (by omega) (((hOwn2 _ _ _).1 ho).1) (hnc _ _))) ?_
      have hend : ∀ (jump : Option Code) (W3 : World), Own2 .busy none W3 → (Instr.endRound (B + 1) jump).run P W3 = .ok (.bool jump.isNone) (W3.putObj (B + 1) (rec (if jump.isNone then .ready else .done) jump)) := fun jump W3 h3 => by
        have := run_endRound (P := P) jump (((hOwn2 _ _ _).1 h3).1.trans (by rw [hrec]))
        rw [hrec]
        exact this
      have hoff0 : ∀ {A C : World}, Off S A C → Off (fun k => S k ∨ k = B + 1) A C := fun h => h.mono (fun _ h => .inl h)
      rintro e a3 W3 hp
      cases e with
      | normal =>
        obtain ⟨hf3, hi3⟩ := hp
        have ho3 := hkeep ho2 hf3
        obtain ⟨ho4, hf4⟩ := hturn .ready none ho3
        exact ⟨_, _, hend none W3 ho3, .inl ⟨rfl, ⟨hIput .ready none ho3 hi3, ho4⟩, (hoff0 hoa).trans (hf2.trans ((hoff0 hf3).trans hf4))⟩⟩
      | ret =>
        obtain ⟨hf3, hi3⟩ := hp
        have ho3 := hkeep ho2 hf3
        exact ⟨_, _, hend (some .ret) W3 ho3, .inr ⟨rfl, ⟨.ret, hXput .done (some .ret) ho3 hi3, (hturn .done (some .ret) ho3).1⟩, (hoff0 hoa).trans (hf2.trans ((hoff0 hf3).trans (hturn .done (some .ret) ho3).2))⟩⟩
      | exit id =>
        obtain ⟨hf3, hi3⟩ := hp
        have ho3 := hkeep ho2 hf3
        exact ⟨_, _, hend (some (.exit id)) W3 ho3, .inr ⟨rfl, ⟨.exit id, hXput .done (some (.exit id)) ho3 hi3, (hturn .done (some (.exit id)) ho3).1⟩, (hoff0 hoa).trans (hf2.trans ((hoff0 hf3).trans (hturn .done (some (.exit id)) ho3).2))⟩⟩
      | goto t =>
        obtain ⟨hf3, hi3⟩ := hp
        have ho3 := hkeep ho2 hf3
        exact ⟨_, _, hend (some (.goto t)) W3 ho3, .inr ⟨rfl, ⟨.goto t, hXput .done (some (.goto t)) ho3 hi3, (hturn .done (some (.goto t)) ho3).1⟩, (hoff0 hoa).trans (hf2.trans ((hoff0 hf3).trans (hturn .done (some (.goto t)) ho3).2))⟩⟩
      | panic ch => exact hp.elim
      | outgrown => exact hp.elim
    · rintro e W2 ⟨⟨v, rfl⟩, h2⟩
      have hlast : ∀ {st pe W}, Own2 st pe W → st ≠ .busy → (Instr.endLoop (B + 1)).run P W = .ok pe (W.putObj (B + 1) (rec .exhausted pe)) ∧ (W.putObj (B + 1) (rec .exhausted pe)).heap[B]? = some (.deferred (some [])) := fun {st pe W} h hb => by
        have := run_endLoop (P := P) (((hOwn2 _ _ _).1 h).1.trans (by rw [hrec])) hb
        rw [hrec]
        exact ⟨this, (World.putObj_heap_other (by omega)).trans ((hOwn2 _ _ _).1 h).2⟩
      rcases h2 with ⟨hi, ho⟩ | ⟨c, hi, ho⟩
      · obtain ⟨h3, h4⟩ := hlast ho (by simp)
        exact ⟨none, _, h3, hdone B _ (by omega) (hIput .exhausted none ho hi) h4⟩
      · obtain ⟨h3, h4⟩ := hlast ho (by simp)
        exact ⟨some c, _, h3, hstop B c _ (by omega) (hXput .exhausted (some c) ho hi) h4⟩
end
end Go.Proofs.Ytljpiafopbfdlaa
namespace Go.Proofs.Ytljpiafopbfdlaa
set_option linter.unusedVariables false

section
variable {P : Program} {ops : Array Oper} {md : Region.Mode} {S : World → Prop}

/-- Whatever order is picked, each steadily, till none is left. -/
def fullS (P : Program) (md : Region.Mode) (ops : Array Oper) (S : World → Prop) (L : Act → Prop) : Nat → Array Bool → Act → Prop
  | 0, listed, a => Region.ready md ops listed = [] ∧ L a
  | f + 1, listed, a => (Region.ready md ops listed = [] → L a) ∧ ∀ i ∈ Region.ready md ops listed, stOpS P ops S i (fullS P md ops S L f (listed.setIfInBounds i true)) a

theorem held_of_full {Q : Exit → Act → World → Prop} {L : Act → Prop} (hL : ∀ a, L a → ∀ w, S w → Q .normal a w) :
    ∀ (f : Nat) (listed : Array Bool) (a : Act), fullS P md ops S L f listed a → ∀ w, S w → wpAnyH P md ops Q S f listed a w
  | 0, listed, a, h, w, hS => ⟨h.1, hL _ h.2 w hS⟩
  | f + 1, listed, a, h, w, hS => ⟨fun h0 => hL _ (h.1 h0) w hS, fun i hi => wpOp_of_stOpS hS (fun a' w' h' hS' => ⟨hS', held_of_full hL f _ a' h' w' hS'⟩) (h.2 i hi)⟩

theorem fullS_first {i : Nat} {oi : Oper} {v : Value} {L : Act → Prop} (hi : ops[i]? = some oi) (hsel : ∀ (j : Nat) (o : Oper) cs b, ops[j]? = some o → o.op ≠ .select cs b) :
    ∀ (f : Nat) (listed : Array Bool) (a : Act),
      (∀ j oj, ops[j]? = some oj → j ≠ i → listed.getD j true = false → (∀ e ∈ oj.after, Region.binds md e = true → e.on ≠ i) → oi.apart ops oj = true) →
      i ∈ Region.ready md ops listed → SteadyAt P ops S oi v a →
      fullS P md ops S L f (listed.setIfInBounds i true) (a.put oi.dst v) → fullS P md ops S L (f + 1) listed a := by
  intro f
  induction f with
  | zero =>
    intro listed a hfree hr hy H
    refine ⟨fun h => (by rw [h] at hr; cases hr), fun j hj => ?_⟩
    by_cases hji : j = i
    · subst hji; unfold stOpS; simp only [hi]; exact ⟨v, hy, H⟩
    · have := ready_mono hj hji
      rw [H.1] at this
      cases this
  | succ f ih =>
    intro listed a hfree hr hy H
    have hun := (mem_ready.1 hr).1
    refine ⟨fun h => (by rw [h] at hr; cases hr), fun j hj => ?_⟩
    by_cases hji : j = i
    · subst hji; unfold stOpS; simp only [hi]; exact ⟨v, hy, H⟩
    · have h1 := H.2 j (ready_mono hj hji)
      obtain ⟨hjun, oj, hoj, hall⟩ := mem_ready.1 hj
      have hnot : ∀ e ∈ oj.after, Region.binds md e = true → e.on ≠ i := fun e he hb heq => by
        have h1 := hall e he hb
        rw [heq, getD_both hun] at h1
        cases h1
      have h2 := stOpS_put hoj (hfree j oj hoj hji hjun hnot) (fun cs b => hsel i oi cs b hi) (fun cs b => hsel j oj cs b hoj) hy h1
      refine stOpS_mono (fun a' h3 => ih (listed.setIfInBounds j true) a' (fun k ok hk hki hun' hno => hfree k ok hk hki ?_ hno) (ready_mono hr (Ne.symm hji)) h3.1 ?_) h2
      · by_cases hjk : j = k
        · subst hjk; exact hjun
        · rw [getD_set_ne true hjk] at hun'; exact hun'
      · rw [Array.setIfInBounds_comm _ _ hji]
        exact h3.2

/-- From number k on, one behind the other; then none is left. -/
def lexAll (md : Region.Mode) (ops : Array Oper) : Nat → Nat → Array Bool → Bool
  | 0, _, listed => (Region.ready md ops listed).isEmpty
  | f + 1, k, listed => (Region.ready md ops listed).contains k && Region.free md ops listed k && lexAll md ops f (k + 1) (listed.setIfInBounds k true)

theorem fullS_lex {L : Act → Prop} (hsel : Region.noSelect ops = true) :
    ∀ (l : List Oper) (k : Nat) (listed : Array Bool) (a : Act), (∀ j, j < l.length → l[j]? = ops[k + j]?) → lexAll md ops l.length k listed = true → wpSteady P ops S L l a → fullS P md ops S L l.length listed a
  | [], k, listed, a, _, hB, h => ⟨by simpa [lexAll] using hB, h⟩
  | o :: l, k, listed, a, hl, hB, h => by
    have h0 : ops[k]? = some o := by simpa using (hl 0 (by simp)).symm
    simp only [List.length_cons, lexAll, Bool.and_eq_true] at hB
    obtain ⟨⟨hr, hf⟩, hB'⟩ := hB
    have hr' : k ∈ Region.ready md ops listed := by simpa using hr
    obtain ⟨v, hy, hK⟩ := h
    exact fullS_first h0 (Region.noSelect_spec hsel) l.length listed a (Region.free_spec h0 hf) hr' hy
      (fullS_lex hsel l (k + 1) _ _ (fun j hj => by have := hl (j + 1) (by simp; omega); simpa [Nat.add_assoc, Nat.add_comm 1 j] using this) hB' hK)

/-- What is left of a region, in the held form: from number k on, all of it, steadily. -/
theorem held_steady {Q : Exit → Act → World → Prop} {a : Act} {w : World} {listed : Array Bool} {l : List Oper} {fuel : Nat} (k : Nat) (hsel : Region.noSelect l.toArray = true) (hf : fuel = (l.drop k).length) (hB : lexAll md l.toArray (l.drop k).length k listed = true) (hS : S w)
    (h : wpSteady P l.toArray S (fun a' => ∀ w', S w' → Q .normal a' w') (l.drop k) a) : wpAnyH P md l.toArray Q S fuel listed a w := by
  subst hf
  exact held_of_full (fun a h w hS => h w hS) _ listed a (fullS_lex hsel (l.drop k) k listed a (fun j hj => by simp [List.getElem?_drop]) hB h) w hS
end
end Go.Proofs.Ytljpiafopbfdlaa
namespace Go.Proofs.Ytljpiafopbfdlaa
open Go.RowKit
set_option linter.unusedVariables false
section
variable {P : Program} {md : Region.Mode} {ops : Array Oper} {S : World → Prop}

/-- Each from n on waits for n - 1, or for one from n on. -/
def lateB (md : Region.Mode) (ops : Array Oper) (n : Nat) : Bool :=
  Region.sinkB md ops (n - 1) && (List.range ops.size).all fun t => decide (t < n) || (List.range t).any fun s => decide (n ≤ s + 1) && Region.waitsFor md ops t s
theorem late_waits {n : Nat} {listed : Array Bool} (h1 : 1 ≤ n) (hn : n < ops.size) (h : lateB md ops n = true) (inv : HeadInv md ops n listed) {i : Nat} (hi : i < n) (hun : listed.getD i true = false) : ∀ t, n ≤ t → t ∉ Region.ready md ops listed := by
  unfold lateB at h
  rw [Bool.and_eq_true] at h
  obtain ⟨hs, hc⟩ := h
  have hup : ∀ (d i : Nat), (n - 1) - i = d → i < n → listed.getD i true = false → listed.getD (n - 1) true = false := by
    intro d
    induction d using Nat.strongRecOn with
    | _ d ih =>
      intro i hd hi hun
      by_cases he : i = n - 1
      · rw [← he]; exact hun
      · have h1 := List.all_eq_true.1 hs i (List.mem_range.2 (by omega))
        obtain ⟨j, hj, hj2⟩ := List.any_eq_true.1 h1
        simp only [Bool.and_eq_true, decide_eq_true_eq] at hj2
        obtain ⟨oj, hoj, e, he, hb, hon⟩ := Region.waitsFor_spec hj2.2
        have hjle : j ≤ n - 1 := by have := List.mem_range.1 hj; omega
        cases hl : listed.getD j false with
        | true =>
          have h2 := inv.closed j oj hoj hl e he hb
          rw [hon, getD_both hun] at h2
          cases h2
        | false => exact ih ((n - 1) - j) (by omega) j rfl (by omega) (getD_in (by rw [inv.size]; omega) hl)
  have hlast := hup _ i rfl hi hun
  intro t ht hr
  obtain ⟨_, ot, hot, hall⟩ := mem_ready.1 hr
  have htlt : t < ops.size := (Array.getElem?_eq_some_iff.1 hot).1
  have h1 := List.all_eq_true.1 hc t (List.mem_range.2 htlt)
  simp only [Bool.or_eq_true, decide_eq_true_eq] at h1
  rcases h1 with h1 | h1
  · omega
  · obtain ⟨s, hs1, hs2⟩ := List.any_eq_true.1 h1
    simp only [Bool.and_eq_true, decide_eq_true_eq] at hs2
    obtain ⟨o', ho', e, he, hb, hon⟩ := Region.waitsFor_spec hs2.2
    have : o' = ot := Option.some.inj (ho'.symm.trans hot)
    subst this
    have h2 := hall e he hb
    rw [hon] at h2
    have hslt := List.mem_range.1 hs1
    by_cases hsn : s = n - 1
    · subst hsn
      rw [getD_both hlast] at h2
      cases h2
    · rw [getD_both (inv.tail s (by omega) (by omega))] at h2
      cases h2

theorem allS_first2 {n i : Nat} {oi : Oper} {v : Value} {L : Array Bool → Act → Prop} (hi : ops[i]? = some oi) (hsel : ∀ (j : Nat) (o : Oper) cs b, ops[j]? = some o → o.op ≠ .select cs b)
    (h1n : 1 ≤ n) (hn : n < ops.size) (hlate : lateB md ops n = true) (hin : i < n)
    (hdone : ∀ listed a, L listed a → ∀ j ∈ Region.ready md ops listed, n ≤ j) :
    ∀ (f : Nat) (listed : Array Bool) (a : Act), HeadInv md ops n listed →
      (∀ j oj, ops[j]? = some oj → j ≠ i → listed.getD j true = false → (∀ e ∈ oj.after, Region.binds md e = true → e.on ≠ i) → oi.apart ops oj = true) →
      i ∈ Region.ready md ops listed → SteadyAt P ops S oi v a →
      allS P md ops S n L f (listed.setIfInBounds i true) (a.put oi.dst v) → allS P md ops S n L (f + 1) listed a := by
  intro f
  induction f with
  | zero =>
    intro listed a inv _ hr hy H
    have hun := (mem_ready.1 hr).1
    refine ⟨fun h => (by rw [h] at hr; cases hr), fun j hj => ?_⟩
    have hjn : j < n := Nat.lt_of_not_le fun h => late_waits h1n hn hlate inv hin hun j h hj
    refine ⟨hjn, ?_⟩
    by_cases hji : j = i
    · subst hji; unfold stOpS; simp only [hi]; exact ⟨v, hy, H⟩
    · have := hdone _ _ H j (ready_mono hj hji)
      omega
  | succ f ih =>
    intro listed a inv hfree hr hy H
    have hun := (mem_ready.1 hr).1
    refine ⟨fun h => (by rw [h] at hr; cases hr), fun j hj => ?_⟩
    have hjn : j < n := Nat.lt_of_not_le fun h => late_waits h1n hn hlate inv hin hun j h hj
    refine ⟨hjn, ?_⟩
    by_cases hji : j = i
    · subst hji; unfold stOpS; simp only [hi]; exact ⟨v, hy, H⟩
    · have h1 := (H.2 j (ready_mono hj hji)).2
      obtain ⟨hjun, oj, hoj, hall⟩ := mem_ready.1 hj
      have hnot : ∀ e ∈ oj.after, Region.binds md e = true → e.on ≠ i := fun e he hb heq => by
        have h1 := hall e he hb
        rw [heq, getD_both hun] at h1
        cases h1
      have h2 := stOpS_put hoj (hfree j oj hoj hji hjun hnot) (fun cs b => hsel i oi cs b hi) (fun cs b => hsel j oj cs b hoj) hy h1
      refine stOpS_mono (fun a' h3 => ih (listed.setIfInBounds j true) a' (inv.set hj hjn) (fun k ok hk hki hun' hno => hfree k ok hk hki ?_ hno) (ready_mono hr (Ne.symm hji)) h3.1 ?_) h2
      · by_cases hjk : j = k
        · subst hjk; exact hjun
        · rw [getD_set_ne true hjk] at hun'; exact hun'
      · rw [Array.setIfInBounds_comm _ _ hji]
        exact h3.2

/-- From number k on f of them, one behind the other; then just X are listed. -/
def lexTo (md : Region.Mode) (ops : Array Oper) (X : Array Bool) : Nat → Nat → Array Bool → Bool
  | 0, _, listed => decide (listed = X)
  | f + 1, k, listed => (Region.ready md ops listed).contains k && Region.free md ops listed k && lexTo md ops X f (k + 1) (listed.setIfInBounds k true)
/-- The first n of m. -/
def firstN (m n : Nat) : Array Bool := ((List.range m).map fun i => decide (i < n)).toArray

theorem allS_lex2 {n : Nat} {X : Array Bool} {Lq : Act → Prop} (hsel : Region.noSelect ops = true) (h1n : 1 ≤ n) (hn : n < ops.size) (hlate : lateB md ops n = true) (hX : ∀ j ∈ Region.ready md ops X, n ≤ j) :
    ∀ (l : List Oper) (k : Nat) (listed : Array Bool) (a : Act), (∀ j, j < l.length → l[j]? = ops[k + j]?) → k + l.length = n → HeadInv md ops n listed →
    lexTo md ops X l.length k listed = true → wpSteady P ops S Lq l a → allS P md ops S n (fun listed' a' => listed' = X ∧ Lq a') l.length listed a
  | [], k, listed, a, _, hk, _, hB, h => ⟨by simpa [lexTo] using hB, h⟩
  | o :: l, k, listed, a, hl, hk, inv, hB, h => by
    have h0 : ops[k]? = some o := by simpa using (hl 0 (by simp)).symm
    simp only [List.length_cons, lexTo, Bool.and_eq_true] at hB
    obtain ⟨⟨hr, hf⟩, hB'⟩ := hB
    have hkn : k < n := by simp only [List.length_cons] at hk; omega
    have hr' : k ∈ Region.ready md ops listed := by simpa using hr
    obtain ⟨v, hy, hK⟩ := h
    exact allS_first2 h0 (Region.noSelect_spec hsel) h1n hn hlate hkn (fun listed' a' hL => by rw [hL.1]; exact hX) l.length listed a inv (Region.free_spec h0 hf) hr' hy
      (allS_lex2 hsel h1n hn hlate hX l (k + 1) _ _ (fun j hj => by have := hl (j + 1) (by simp; omega); simpa [Nat.add_assoc, Nat.add_comm 1 j] using this) (by simp only [List.length_cons] at hk; omega) (inv.set hr' hkn) hB' hK)

def partB (ops : Array Oper) (n : Nat) : Bool :=
  Region.noSelect ops && (decide (1 ≤ n) && (decide (n < ops.size) && (lateB .any ops n && (((Region.ready .any ops (firstN ops.size n)).all fun j => decide (n ≤ j)) && lexTo .any ops (firstN ops.size n) n 0 (Array.replicate ops.size false)))))

/-- The first n steadily; then g more, in the held form. -/
theorem region_part {id : Nat} {Q : Exit → Act → World → Prop} {a : Act} {w : World} {l : List Oper} (S T : World → Prop) (n g : Nat) (hm : P.follows .mixedOrders = true) (hg : n + g = l.length) (hB : partB l.toArray n = true) (hS : S w.drew)
    (h : wpSteady P l.toArray S (fun a' => ∀ w', S w' → wpAnyH P .any l.toArray Q T g (firstN l.toArray.size n) a' w') (l.take n) a) : (Code.region id l.toArray true).wp P Q a w := by
  unfold partB at hB
  simp only [Bool.and_eq_true, decide_eq_true_eq] at hB
  obtain ⟨hsel, h1, hn, hlate, hX, hlex⟩ := hB
  have hX' : ∀ j ∈ Region.ready .any l.toArray (firstN l.toArray.size n), n ≤ j := fun j hj => by simpa using List.all_eq_true.1 hX j hj
  have hn' : n < l.length := by simpa using hn
  have htl : (l.take n).length = n := by simp; omega
  have inv0 : HeadInv .any l.toArray n (Array.replicate l.toArray.size false) :=
    ⟨by simp, fun j oj _ hl => (by rw [getD_replicate_false] at hl; cases hl), fun t _ ht => getD_in (by simpa using ht) (getD_replicate_false _ _)⟩
  have H := allS_lex2 (md := .any) (X := firstN l.toArray.size n) hsel h1 hn hlate hX' (l.take n) 0 _ a (fun j hj => by
    have hj' : j < n := by rw [htl] at hj; exact hj
    simp [hj']) (by simpa using htl) inv0 (by rw [htl]; exact hlex) h
  refine wp_region_any hm ?_
  have := any_of_allS (Q := Q) (g := g) (fun listed a' hL w' hw => by
    obtain ⟨rfl, hL2⟩ := hL
    exact wpAny_of_held _ _ _ _ (hL2 w' hw)) _ _ _ H w.drew hS
  rw [htl, show n + g = l.toArray.size by simpa using hg] at this
  exact this
end
end Go.Proofs.Ytljpiafopbfdlaa
namespace Go.Proofs.Ytljpiafopbfdlaa
open Go.RowKit
set_option linter.unusedVariables false

section
variable {P : Program} {ops : Array Oper} {md : Region.Mode} {F : (World → Prop) → Prop}

/-- In every kind of world o leaves v. -/
def DetAt (P : Program) (ops : Array Oper) (F : (World → Prop) → Prop) (o : Oper) (v : Value) (a : Act) : Prop := ∀ S, F S → SteadyAt P ops S o v a
/-- o leaves a world of a kind from which K goes on. -/
def TurnAt (P : Program) (ops : Array Oper) (F : (World → Prop) → Prop) (o : Oper) (S : World → Prop) (K : (World → Prop) → Act → Prop) (a : Act) : Prop :=
  Region.wanted o (yielded ops a.tmps) = true ∧ ∀ w, S w → o.wp P a w (fun a' w' => ∃ u S', a' = a.put o.dst u ∧ F S' ∧ S' w' ∧ K S' (a.put o.dst u)) (fun _ _ _ => False)
theorem TurnAt.mono {o : Oper} {S : World → Prop} {K K' : (World → Prop) → Act → Prop} {a : Act} (h : ∀ S a, F S → K S a → K' S a) (hh : TurnAt P ops F o S K a) : TurnAt P ops F o S K' a :=
  ⟨hh.1, fun w hw => Oper.wp_mono (fun a' w' ⟨u, S', h1, h2, h3, h4⟩ => ⟨u, S', h1, h2, h3, h _ _ h2 h4⟩) (hh.2 w hw)⟩

theorem wp_quiet {o : Oper} {a : Act} {w : World} {K K' : Act → World → Prop} {Q : Exit → Act → World → Prop} (h : o.wp P a w K (fun _ _ _ => False)) (hK : ∀ a' w', K a' w' → K' a' w') : o.wp P a w K' Q := by
  unfold Oper.wp at h ⊢
  generalize (execOp a.eval o).run P w = r at h
  cases r with
  | ok n w' =>
    cases n <;> simp only [Oper.upon] at h ⊢ <;>
      first
        | exact hK _ _ h
        | exact h.elim
        | (refine Calls.mono h fun e w'' q => ?_
           cases e with
           | returned u => exact hK _ _ q
           | panicked c => exact (q : False).elim
           | outgrown => exact (let ⟨_, _, hf⟩ := q; hf.elim))
        | exact Rows.mono h fun u w'' q => hK _ _ q
  | halt x w' => cases x <;> simp only [Oper.upon] at h ⊢

def mixOp (P : Program) (ops : Array Oper) (F : (World → Prop) → Prop) (i : Nat) (K : (World → Prop) → Act → Prop) (S : World → Prop) (a : Act) : Prop :=
  match ops[i]? with
  | none => K S a
  | some o => (∃ v, DetAt P ops F o v a ∧ K S (a.put o.dst v)) ∨ TurnAt P ops F o S K a
theorem mixOp_mono {i : Nat} {K K' : (World → Prop) → Act → Prop} {S : World → Prop} {a : Act} (hF : F S) (h : ∀ S a, F S → K S a → K' S a) (hh : mixOp P ops F i K S a) : mixOp P ops F i K' S a := by
  unfold mixOp at *
  split
  · rename_i ho; simp only [ho] at hh; exact h _ _ hF hh
  · rename_i o ho
    simp only [ho] at hh
    rcases hh with ⟨v, h1, h2⟩ | h2
    · exact .inl ⟨v, h1, h _ _ hF h2⟩
    · exact .inr (h2.mono h)
theorem wpOp_of_mix {Q : Exit → Act → World → Prop} {i : Nat} {K : (World → Prop) → Act → Prop} {K' : Act → World → Prop} {S : World → Prop} {a : Act} {w : World} (hF : F S) (hS : S w) (h : ∀ S a w, F S → K S a → S w → K' a w) (hh : mixOp P ops F i K S a) : wpOp P ops Q i K' a w := by
  unfold mixOp at hh
  cases ho : ops[i]? with
  | none => unfold wpOp; simp only [ho] at hh ⊢; exact h _ _ _ hF hh hS
  | some o =>
    simp only [ho] at hh
    rcases hh with ⟨v, h1, h2⟩ | ⟨h1, h2⟩
    · exact wpOp_of_stOpS (S := S) (K := K S) hS (fun a w hk hs => h _ _ _ hF hk hs) (by unfold stOpS; simp only [ho]; exact ⟨v, h1 S hF, h2⟩)
    · unfold wpOp
      simp only [ho, h1, if_true]
      exact .inl (wp_quiet (h2 w hS) fun a' w' ⟨u, S', e, hF', hS', hK⟩ => by subst e; exact h _ _ _ hF' hK hS')

theorem mixOp_put {j : Nat} {oi oj : Oper} {v : Value} {K : (World → Prop) → Act → Prop} {S : World → Prop} {a : Act} (hj : ops[j]? = some oj) (hap : oi.apart ops oj = true)
    (hsi : ∀ cs b, oi.op ≠ .select cs b) (hsj : ∀ cs b, oj.op ≠ .select cs b) (hy : DetAt P ops F oi v a) (h : mixOp P ops F j K S (a.put oi.dst v)) :
    mixOp P ops F j (fun S' a' => DetAt P ops F oi v a' ∧ K S' (a'.put oi.dst v)) S a := by
  obtain ⟨h1, h2, h3⟩ := Oper.apart_spec hap
  have hyj : ∀ u, DetAt P ops F oi v (a.put oj.dst u) := fun u S' hS' => (hy S' hS').of_same (put_size _ _ _) (execOp_put oi hsi a oj.dst u h3) (wanted_put oi a oj.dst u h3)
  unfold mixOp at *
  simp only [hj] at *
  rcases h with ⟨u, hu, hK⟩ | ⟨hw, hK⟩
  · refine .inl ⟨u, fun S' hS' => (hu S' hS').of_same (put_size _ _ _).symm (execOp_put oj hsj a oi.dst v h1).symm (wanted_put oj a oi.dst v h1).symm, hyj u, ?_⟩
    rw [← Act.put_comm a v u h2]
    exact hK
  · refine .inr ⟨(wanted_put oj a oi.dst v h1).symm.trans hw, fun w hS => ?_⟩
    have hh := hK w hS
    have fin : ∀ (u : Value) (w' : World), (∃ u' S', (a.put oi.dst v).put oj.dst u = (a.put oi.dst v).put oj.dst u' ∧ F S' ∧ S' w' ∧ K S' ((a.put oi.dst v).put oj.dst u')) →
        ∃ u' S', a.put oj.dst u = a.put oj.dst u' ∧ F S' ∧ S' w' ∧ DetAt P ops F oi v (a.put oj.dst u') ∧ K S' ((a.put oj.dst u').put oi.dst v) := fun u w' ⟨u', S', e, hF', hS', hk⟩ =>
      ⟨u, S', rfl, hF', hS', hyj u, by rw [← Act.put_comm a v u h2, e]; exact hk⟩
    unfold Oper.wp at hh ⊢
    rw [execOp_put oj hsj a oi.dst v h1] at hh
    generalize (execOp a.eval oj).run P w = r at hh
    cases r with
    | ok n w' =>
      cases n <;> simp only [Oper.upon] at hh ⊢
      case value u => exact fin _ _ hh
      case skip => exact fin _ _ hh
      case defer d =>
        obtain ⟨u', S', e, _⟩ := hh
        have := congrArg (fun x => x.defers.length) e
        exfalso
        revert this
        cases oi.dst <;> cases oj.dst <;> simp [Act.put]
      case enter f args =>
        refine Calls.mono hh fun e w'' q => ?_
        cases e with
        | returned u => exact fin _ _ q
        | panicked c => exact q
        | outgrown => exact q
      case row row args => exact Rows.mono hh fun u w'' q => fin _ _ q
    | halt x w' => cases x <;> simp only [Oper.upon] at hh ⊢

/-- Whatever order is picked, till none is left. -/
def mixAll (P : Program) (md : Region.Mode) (ops : Array Oper) (F : (World → Prop) → Prop) (L : (World → Prop) → Act → Prop) : Nat → Array Bool → (World → Prop) → Act → Prop
  | 0, listed, S, a => Region.ready md ops listed = [] ∧ L S a
  | f + 1, listed, S, a => (Region.ready md ops listed = [] → L S a) ∧ ∀ i ∈ Region.ready md ops listed, mixOp P ops F i (mixAll P md ops F L f (listed.setIfInBounds i true)) S a

theorem any_of_mix {Q : Exit → Act → World → Prop} {L : (World → Prop) → Act → Prop} (hL : ∀ S a, L S a → ∀ w, S w → Q .normal a w) :
    ∀ (f : Nat) (listed : Array Bool) (S : World → Prop) (a : Act), F S → mixAll P md ops F L f listed S a → ∀ w, S w → wpAny P md ops Q f listed a w
  | 0, listed, S, a, _, h, w, hS => ⟨h.1, hL _ _ h.2 w hS⟩
  | f + 1, listed, S, a, hF, h, w, hS => ⟨fun h0 => hL _ _ (h.1 h0) w hS, fun i hi => wpOp_of_mix hF hS (fun S' a' w' hF' h' hS' => any_of_mix hL f _ S' a' hF' h' w' hS') (h.2 i hi)⟩

theorem mixAll_first {i : Nat} {oi : Oper} {v : Value} {L : (World → Prop) → Act → Prop} (hi : ops[i]? = some oi) (hsel : ∀ (j : Nat) (o : Oper) cs b, ops[j]? = some o → o.op ≠ .select cs b) :
    ∀ (f : Nat) (listed : Array Bool) (S : World → Prop) (a : Act), F S →
      (∀ j oj, ops[j]? = some oj → j ≠ i → listed.getD j true = false → (∀ e ∈ oj.after, Region.binds md e = true → e.on ≠ i) → oi.apart ops oj = true) →
      i ∈ Region.ready md ops listed → DetAt P ops F oi v a →
      mixAll P md ops F L f (listed.setIfInBounds i true) S (a.put oi.dst v) → mixAll P md ops F L (f + 1) listed S a := by
  intro f
  induction f with
  | zero =>
    intro listed S a hF hfree hr hy H
    refine ⟨fun h => (by rw [h] at hr; cases hr), fun j hj => ?_⟩
    by_cases hji : j = i
    · subst hji; unfold mixOp; simp only [hi]; exact .inl ⟨v, hy, H⟩
    · have := ready_mono hj hji
      rw [H.1] at this
      cases this
  | succ f ih =>
    intro listed S a hF hfree hr hy H
    have hun := (mem_ready.1 hr).1
    refine ⟨fun h => (by rw [h] at hr; cases hr), fun j hj => ?_⟩
    by_cases hji : j = i
    · subst hji; unfold mixOp; simp only [hi]; exact .inl ⟨v, hy, H⟩
    · have h1 := H.2 j (ready_mono hj hji)
      obtain ⟨hjun, oj, hoj, hall⟩ := mem_ready.1 hj
      have hnot : ∀ e ∈ oj.after, Region.binds md e = true → e.on ≠ i := fun e he hb heq => by
        have h1 := hall e he hb
        rw [heq, getD_both hun] at h1
        cases h1
      have h2 := mixOp_put hoj (hfree j oj hoj hji hjun hnot) (fun cs b => hsel i oi cs b hi) (fun cs b => hsel j oj cs b hoj) hy h1
      refine mixOp_mono hF (fun S' a' hF' h3 => ih (listed.setIfInBounds j true) S' a' hF' (fun k ok hk hki hun' hno => hfree k ok hk hki ?_ hno) (ready_mono hr (Ne.symm hji)) h3.1 ?_) h2
      · by_cases hjk : j = k
        · subst hjk; exact hjun
        · rw [getD_set_ne true hjk] at hun'; exact hun'
      · rw [Array.setIfInBounds_comm _ _ hji]
        exact h3.2

/-- The operations in another order; true: one that turns the kind of world. -/
def pickOps (l : List Oper) : List (Nat × Bool) → List (Oper × Bool)
  | [] => []
  | (i, b) :: is => match l[i]? with
    | some o => (o, b) :: pickOps l is
    | none => []
/-- One behind the other in that order; one that turns comes alone. -/
def lexMix (md : Region.Mode) (ops : Array Oper) : List (Nat × Bool) → Array Bool → Bool
  | [], listed => (Region.ready md ops listed).isEmpty
  | (k, b) :: is, listed => decide (k < ops.size) && (if b then decide (Region.ready md ops listed = [k]) else (Region.ready md ops listed).contains k && Region.free md ops listed k) && lexMix md ops is (listed.setIfInBounds k true)
def wpMix (P : Program) (ops : Array Oper) (F : (World → Prop) → Prop) (L : (World → Prop) → Act → Prop) : List (Oper × Bool) → (World → Prop) → Act → Prop
  | [], S, a => L S a
  | (o, false) :: l, S, a => ∃ v, DetAt P ops F o v a ∧ wpMix P ops F L l S (a.put o.dst v)
  | (o, true) :: l, S, a => TurnAt P ops F o S (wpMix P ops F L l) a

theorem mixAll_lex {L : (World → Prop) → Act → Prop} (hsel : Region.noSelect ops = true) :
    ∀ (is : List (Nat × Bool)) (listed : Array Bool) (S : World → Prop) (a : Act), F S → lexMix md ops is listed = true → wpMix P ops F L (pickOps ops.toList is) S a → mixAll P md ops F L is.length listed S a
  | [], listed, S, a, _, hB, h => ⟨by simpa [lexMix] using hB, h⟩
  | (k, b) :: is, listed, S, a, hF, hB, h => by
    simp only [lexMix, Bool.and_eq_true, decide_eq_true_eq] at hB
    obtain ⟨⟨hk, hB1⟩, hB2⟩ := hB
    have h0 : ops[k]? = some (ops[k]'hk) := Array.getElem?_eq_getElem hk
    generalize ops[k]'hk = o at h0
    have h0' : ops.toList[k]? = some o := by simpa using h0
    simp only [pickOps, h0'] at h
    cases b with
    | false =>
      simp only [Bool.false_eq_true, if_false, Bool.and_eq_true] at hB1
      obtain ⟨v, hy, hK⟩ := h
      exact mixAll_first h0 (Region.noSelect_spec hsel) is.length listed S a hF (Region.free_spec h0 hB1.2) (by simpa using hB1.1) hy (mixAll_lex hsel is _ S _ hF hB2 hK)
    | true =>
      simp only [if_true, decide_eq_true_eq] at hB1
      refine ⟨fun h => (by rw [h] at hB1; cases hB1), fun j hj => ?_⟩
      rw [hB1] at hj
      obtain rfl : j = k := by simpa using hj
      unfold mixOp
      simp only [h0]
      exact .inr (TurnAt.mono (fun S' a' hF' hk' => mixAll_lex hsel is _ S' a' hF' hB2 hk') h)

/-- The kinds of world: closed, and such as B says. -/
def Fam (B : World → Prop) (S : World → Prop) : Prop := Closed S ∧ ∀ w, S w → B w
def mixB (ops : Array Oper) (is : List (Nat × Bool)) : Bool := Region.noSelect ops && (decide (is.length = ops.size) && lexMix .any ops is (Array.replicate ops.size false))
theorem region_mix {id : Nat} {Q : Exit → Act → World → Prop} {a : Act} {w : World} {l : List Oper} (B : World → Prop) (is : List (Nat × Bool)) (hm : P.follows .mixedOrders = true) (hB : mixB l.toArray is = true)
    (S : World → Prop) (hF : Fam B S) (hS : S w.drew)
    (h : wpMix P l.toArray (Fam B) (fun S' a' => ∀ w', S' w' → Q .normal a' w') (pickOps l is) S a) : (Code.region id l.toArray true).wp P Q a w := by
  unfold mixB at hB
  simp only [Bool.and_eq_true, decide_eq_true_eq] at hB
  obtain ⟨hsel, hlen, hlex⟩ := hB
  refine wp_region_any hm ?_
  have := any_of_mix (Q := Q) (fun S' a' hL w' hw => hL w' hw) is.length _ S a hF (mixAll_lex (md := .any) hsel is _ S a hF hlex h) w.drew hS
  rw [hlen] at this
  exact this

variable {B S : World → Prop} {L : (World → Prop) → Act → Prop} {o : Oper} {l : List (Oper × Bool)} {a : Act}
theorem mix_nil (h : L S a) : wpMix P ops (Fam B) L [] S a := h
theorem mix_skip (hw : Region.wanted o (yielded ops a.tmps) = false) (h : wpMix P ops (Fam B) L l S (a.put o.dst undef)) : wpMix P ops (Fam B) L ((o, false) :: l) S a := ⟨undef, fun _ _ => .inr ⟨hw, rfl⟩, h⟩
theorem mix_read (v : Value) (hw : Region.wanted o (yielded ops a.tmps) = true) (hv : ∀ w, B w → (execOp a.eval o).run P w = .ok (.value v) w) (h : wpMix P ops (Fam B) L l S (a.put o.dst v)) : wpMix P ops (Fam B) L ((o, false) :: l) S a :=
  ⟨v, fun S' hS' => .inl ⟨hw, fun w hS K hK => by unfold Oper.wp; rw [hv w (hS'.2 w hS)]; exact hK w hS⟩, h⟩
theorem mix_call (f : FuncId) (args : Array Value) (v : Value) (hw : Region.wanted o (yielded ops a.tmps) = true) (hv : ∀ w, B w → (execOp a.eval o).run P w = .ok (.enter f args) w)
    (hc : ∀ w, B w → Calls P f args w fun e w' => e = .returned v ∧ Below w.heap.size w w') (h : wpMix P ops (Fam B) L l S (a.put o.dst v)) : wpMix P ops (Fam B) L ((o, false) :: l) S a :=
  ⟨v, fun S' hS' => .inl ⟨hw, fun w hS K hK => by
    unfold Oper.wp
    rw [hv w (hS'.2 w hS)]
    refine (hc w (hS'.2 w hS)).mono ?_
    rintro e w' ⟨rfl, hb⟩
    exact hK w' (hS'.1 _ _ hS hb)⟩, h⟩
/-- A read of what only this kind of world tells: it comes alone. -/
theorem mix_look (v : Value) (hF : Fam B S) (hw : Region.wanted o (yielded ops a.tmps) = true) (hv : ∀ w, S w → (execOp a.eval o).run P w = .ok (.value v) w) (h : wpMix P ops (Fam B) L l S (a.put o.dst v)) : wpMix P ops (Fam B) L ((o, true) :: l) S a :=
  ⟨hw, fun w hS => by unfold Oper.wp; rw [hv w hS]; exact ⟨v, S, rfl, hF, hS, h⟩⟩
/-- A call of what only this kind of world tells; what it yields lies somehow anew. -/
theorem mix_meet {X : Type} (val : X → Value) (T : X → World → Prop) (hF : Fam B S) (hT : ∀ x, Closed (T x)) (f : FuncId) (args : Array Value) (hw : Region.wanted o (yielded ops a.tmps) = true) (hv : ∀ w, S w → (execOp a.eval o).run P w = .ok (.enter f args) w)
    (hc : ∀ w, S w → Calls P f args w fun e w' => ∃ x, e = .returned (val x) ∧ T x w' ∧ Below w.heap.size w w') (h : ∀ x, wpMix P ops (Fam B) L l (fun w => S w ∧ T x w) (a.put o.dst (val x))) : wpMix P ops (Fam B) L ((o, true) :: l) S a :=
  ⟨hw, fun w hS => by
    unfold Oper.wp
    rw [hv w hS]
    refine (hc w hS).mono ?_
    rintro e w' ⟨x, rfl, ht, hb⟩
    exact ⟨val x, _, rfl, ⟨hF.1.and (hT x), fun w hw => hF.2 w hw.1⟩, ⟨hF.1 _ _ hS hb, ht⟩, h x⟩⟩
theorem mix_alloc (n : Nat) (t : TypeId) (zs : List Value) (hF : Fam B S) (hn : ∀ w, S w → n ≤ w.heap.size) (hw : Region.wanted o (yielded ops a.tmps) = true)
    (hv : ∀ w, S w → (execOp a.eval o).run P w = .ok (.value (.pointer (some ⟨w.heap.size, 0, none⟩))) (w.alloc (.cells zs.toArray t)))
    (h : ∀ g, n ≤ g → wpMix P ops (Fam B) L l (fun w => S w ∧ Whole w g t zs) (a.put o.dst (.pointer (some ⟨g, 0, none⟩)))) : wpMix P ops (Fam B) L ((o, true) :: l) S a :=
  ⟨hw, fun w hS => by
    unfold Oper.wp
    rw [hv w hS]
    exact ⟨_, _, rfl, ⟨hF.1.and (Closed.whole _ _ _), fun w hw => hF.2 w hw.1⟩, ⟨hF.1 _ _ hS (below1 w _), Whole.new w t zs⟩, h _ (hn w hS)⟩⟩
/-- A store: the kind of world behind it is told by the caller. -/
theorem mix_store (S' : World → Prop) (turn : World → World) (hF' : Fam B S') (hw : Region.wanted o (yielded ops a.tmps) = true) (hv : ∀ w, S w → (execOp a.eval o).run P w = .ok .skip (turn w)) (hS' : ∀ w, S w → S' (turn w))
    (h : wpMix P ops (Fam B) L l S' (a.put o.dst undef)) : wpMix P ops (Fam B) L ((o, true) :: l) S a :=
  ⟨hw, fun w hS => by
    unfold Oper.wp
    rw [hv w hS]
    exact ⟨undef, S', rfl, hF', hS' w hS, h⟩⟩

theorem setCells_below : ∀ (vs : List Value) (o : Nat) {n g : Nat} {w0 w : World}, Below n w0 w → n ≤ g → Below n w0 (w.setCells g o vs)
  | [], _, _, _, _, _, h, _ => h
  | v :: vs, o, n, g, w0, w, h, hg => setCells_below vs (o + 1) (h.setCell (p := ⟨g, o, none⟩) hg v) hg
theorem setCells_whole : ∀ (vs pre cs : List Value) {w : World} {g : Nat} {t : TypeId}, vs.length = cs.length → Whole w g t (pre ++ cs) → Whole (w.setCells g pre.length vs) g t (pre ++ vs)
  | [], pre, cs, w, g, t, hl, h => by
    obtain rfl : cs = [] := List.eq_nil_of_length_eq_zero hl.symm
    exact h
  | v :: vs, pre, [], w, g, t, hl, h => by simp at hl
  | v :: vs, pre, c :: cs, w, g, t, hl, h => by
    have h1 := h.set pre.length v
    have e : (pre ++ c :: cs).set pre.length v = (pre ++ [v]) ++ cs := by simp
    rw [e] at h1
    have h2 := setCells_whole vs (pre ++ [v]) cs (by simpa using hl) h1
    rw [List.length_append, List.length_singleton, List.append_assoc] at h2
    exact h2
theorem Whole.there {w : World} {g : Nat} {t : TypeId} {cs : List Value} (h : Whole w g t cs) : w.there g 0 cs.length := fun j hj => by
  rw [Nat.zero_add]
  exact ⟨by rw [h.cell j, List.getElem?_eq_getElem hj]; rfl, h.frozen j⟩
/-- A whole block of the region's own is filled: what is told of the block before it turns, all else stands. -/
theorem mix_fill (t : TypeId) (x y : Operand) (g n : Nat) (w0 : World) (cs vs : List Value) (hg : n ≤ g) (hBn : ∀ w, Below n w0 w → B w) (hn : n ≤ w0.heap.size)
    (hSS : ∀ w, S w → Below n w0 w ∧ Whole w g t cs) (ho : o.op = .store t x y) (hx : a.eval x = .pointer (some ⟨g, 0, none⟩)) (hy : a.eval y = .agg vs.toArray)
    (hi : (P.info? t).map (·.size) = some vs.length) (hl : vs.length = cs.length) (h1 : vs.all (·.oneCell') = true) (hw : Region.wanted o (yielded ops a.tmps) = true)
    (h : wpMix P ops (Fam B) L l (fun w => Below n w0 w ∧ Whole w g t vs) (a.put o.dst undef)) : wpMix P ops (Fam B) L ((o, true) :: l) S a := by
  refine mix_store (fun w => Below n w0 w ∧ Whole w g t vs) (fun w => w.setCells g 0 vs) ⟨?_, fun w hw => hBn w hw.1⟩ hw (fun w hS => ?_) (fun w hS => ⟨setCells_below vs 0 (hSS w hS).1 hg, setCells_whole vs [] cs hl (hSS w hS).2⟩) h
  · exact Closed.and (fun w w' hp hb => hp.trans (hb.mono (Nat.le_trans hn hp.size))) (Closed.whole _ _ _)
  · have ht := (hSS w hS).2.there
    rw [← hl] at ht
    have := run_storeAt_mid (P := P) w g 0 t vs.toArray (by simpa using ht) (by simpa using hi) (by simpa using h1)
    unfold execOp
    simp only [ho, hx, hy, Sem.run_bind, this, Result.andThen_ok, Sem.run_pure]
end
end Go.Proofs.Ytljpiafopbfdlaa
namespace Go.Proofs.Ytljpiafopbfdlaa
open Go.RowKit
set_option linter.unusedVariables false

section
variable {P : Program} {ops : Array Oper} {md : Region.Mode} {F : (World → Prop) → Prop}

def mixHead (P : Program) (md : Region.Mode) (ops : Array Oper) (F : (World → Prop) → Prop) (L : Array Bool → (World → Prop) → Act → Prop) : Nat → Array Bool → (World → Prop) → Act → Prop
  | 0, listed, S, a => L listed S a
  | f + 1, listed, S, a => Region.ready md ops listed ≠ [] ∧ ∀ i ∈ Region.ready md ops listed, mixOp P ops F i (mixHead P md ops F L f (listed.setIfInBounds i true)) S a
theorem any_of_head {Q : Exit → Act → World → Prop} {g : Nat} {L : Array Bool → (World → Prop) → Act → Prop} (hL : ∀ listed S a, L listed S a → ∀ w, S w → wpAny P md ops Q g listed a w) :
    ∀ (f : Nat) (listed : Array Bool) (S : World → Prop) (a : Act), F S → mixHead P md ops F L f listed S a → ∀ w, S w → wpAny P md ops Q (f + g) listed a w
  | 0, listed, S, a, _, h, w, hS => by rw [Nat.zero_add]; exact hL _ _ _ h w hS
  | f + 1, listed, S, a, hF, h, w, hS => by
    rw [show f + 1 + g = (f + g) + 1 by omega]
    exact ⟨fun h0 => absurd h0 h.1, fun i hi => wpOp_of_mix hF hS (fun S' a' w' hF' h' hS' => any_of_head hL f _ S' a' hF' h' w' hS') (h.2 i hi)⟩
/-- Each from n on waits for each of the first n. -/
def directB (md : Region.Mode) (ops : Array Oper) (n : Nat) : Bool := (List.range ops.size).all fun t => decide (t < n) || (List.range n).all fun k => Region.waitsFor md ops t k
theorem direct_waits {n i t : Nat} {listed : Array Bool} (hB : directB md ops n = true) (hi : i < n) (ht : n ≤ t) (hun : listed.getD i true = false) : t ∉ Region.ready md ops listed := by
  intro hr
  obtain ⟨_, ot, hot, hall⟩ := mem_ready.1 hr
  have htlt : t < ops.size := (Array.getElem?_eq_some_iff.1 hot).1
  have h1 := List.all_eq_true.1 hB t (List.mem_range.2 htlt)
  simp only [Bool.or_eq_true, decide_eq_true_eq] at h1
  rcases h1 with h1 | h1
  · omega
  · have h2 := List.all_eq_true.1 h1 i (List.mem_range.2 hi)
    obtain ⟨o', ho', e, he, hb, hon⟩ := Region.waitsFor_spec h2
    have : o' = ot := Option.some.inj (ho'.symm.trans hot)
    subst this
    have h3 := hall e he hb
    rw [hon, getD_both hun] at h3
    cases h3

theorem mixHead_first {n i : Nat} {oi : Oper} {v : Value} {L : Array Bool → (World → Prop) → Act → Prop} (hi : ops[i]? = some oi) (hsel : ∀ (j : Nat) (o : Oper) cs b, ops[j]? = some o → o.op ≠ .select cs b)
    (hdir : directB md ops n = true) (hin : i < n) (hdone : ∀ listed S a, L listed S a → ∀ j ∈ Region.ready md ops listed, n ≤ j) :
    ∀ (f : Nat) (listed : Array Bool) (S : World → Prop) (a : Act), F S →
      (∀ j oj, ops[j]? = some oj → j ≠ i → listed.getD j true = false → (∀ e ∈ oj.after, Region.binds md e = true → e.on ≠ i) → oi.apart ops oj = true) →
      i ∈ Region.ready md ops listed → DetAt P ops F oi v a →
      mixHead P md ops F L f (listed.setIfInBounds i true) S (a.put oi.dst v) → mixHead P md ops F L (f + 1) listed S a := by
  intro f
  induction f with
  | zero =>
    intro listed S a hF hfree hr hy H
    have hun := (mem_ready.1 hr).1
    refine ⟨fun h => (by rw [h] at hr; cases hr), fun j hj => ?_⟩
    by_cases hji : j = i
    · subst hji; unfold mixOp; simp only [hi]; exact .inl ⟨v, hy, H⟩
    · exact absurd hj (direct_waits hdir hin (hdone _ _ _ H j (ready_mono hj hji)) hun)
  | succ f ih =>
    intro listed S a hF hfree hr hy H
    have hun := (mem_ready.1 hr).1
    refine ⟨fun h => (by rw [h] at hr; cases hr), fun j hj => ?_⟩
    by_cases hji : j = i
    · subst hji; unfold mixOp; simp only [hi]; exact .inl ⟨v, hy, H⟩
    · have h1 := H.2 j (ready_mono hj hji)
      obtain ⟨hjun, oj, hoj, hall⟩ := mem_ready.1 hj
      have hnot : ∀ e ∈ oj.after, Region.binds md e = true → e.on ≠ i := fun e he hb heq => by
        have h1 := hall e he hb
        rw [heq, getD_both hun] at h1
        cases h1
      have h2 := mixOp_put hoj (hfree j oj hoj hji hjun hnot) (fun cs b => hsel i oi cs b hi) (fun cs b => hsel j oj cs b hoj) hy h1
      refine mixOp_mono hF (fun S' a' hF' h3 => ih (listed.setIfInBounds j true) S' a' hF' (fun k ok hk hki hun' hno => hfree k ok hk hki ?_ hno) (ready_mono hr (Ne.symm hji)) h3.1 ?_) h2
      · by_cases hjk : j = k
        · subst hjk; exact hjun
        · rw [getD_set_ne true hjk] at hun'; exact hun'
      · rw [Array.setIfInBounds_comm _ _ hji]
        exact h3.2

def lexMixT (md : Region.Mode) (ops : Array Oper) (n g : Nat) : List (Nat × Bool) → Array Bool → Bool
  | [], listed => Region.seqB md ops g n listed
  | (k, b) :: is, listed => decide (k < n) && (decide (k < ops.size) && (if b then decide (Region.ready md ops listed = [k]) else (Region.ready md ops listed).contains k && Region.free md ops listed k)) && lexMixT md ops n g is (listed.setIfInBounds k true)
theorem mixHead_lex {n g : Nat} {Lq : (World → Prop) → Act → Prop} (hsel : Region.noSelect ops = true) (hdir : directB md ops n = true) :
    ∀ (is : List (Nat × Bool)) (listed : Array Bool) (S : World → Prop) (a : Act), F S → lexMixT md ops n g is listed = true → wpMix P ops F Lq (pickOps ops.toList is) S a →
      mixHead P md ops F (fun listed' S' a' => Region.seqB md ops g n listed' = true ∧ Lq S' a') is.length listed S a
  | [], listed, S, a, _, hB, h => ⟨hB, h⟩
  | (k, b) :: is, listed, S, a, hF, hB, h => by
    simp only [lexMixT, Bool.and_eq_true, decide_eq_true_eq] at hB
    obtain ⟨⟨hkn, hk, hB1⟩, hB2⟩ := hB
    have h0 : ops[k]? = some (ops[k]'hk) := Array.getElem?_eq_getElem hk
    generalize ops[k]'hk = o at h0
    have h0' : ops.toList[k]? = some o := by simpa using h0
    simp only [pickOps, h0'] at h
    cases b with
    | false =>
      simp only [Bool.false_eq_true, if_false, Bool.and_eq_true] at hB1
      obtain ⟨v, hy, hK⟩ := h
      exact mixHead_first h0 (Region.noSelect_spec hsel) hdir hkn (fun listed' S' a' hL => seqB_ready hL.1) is.length listed S a hF (Region.free_spec h0 hB1.2) (by simpa using hB1.1) hy (mixHead_lex hsel hdir is _ S _ hF hB2 hK)
    | true =>
      simp only [if_true, decide_eq_true_eq] at hB1
      refine ⟨fun h => (by rw [h] at hB1; cases hB1), fun j hj => ?_⟩
      rw [hB1] at hj
      obtain rfl : j = k := by simpa using hj
      unfold mixOp
      simp only [h0]
      exact .inr (TurnAt.mono (fun S' a' hF' hk' => mixHead_lex hsel hdir is _ S' a' hF' hB2 hk') h)

def mixTB (ops : Array Oper) (is : List (Nat × Bool)) (g : Nat) : Bool := Region.noSelect ops && (decide (is.length + g = ops.size) && (directB .any ops is.length && lexMixT .any ops is.length g is (Array.replicate ops.size false)))
theorem region_mixt {id : Nat} {Q : Exit → Act → World → Prop} {a : Act} {w : World} {l : List Oper} (B : World → Prop) (is : List (Nat × Bool)) (g n : Nat) (hm : P.follows .mixedOrders = true) (hn : n = is.length) (hB : mixTB l.toArray is g = true)
    (S : World → Prop) (hF : Fam B S) (hS : S w.drew)
    (h : wpMix P l.toArray (Fam B) (fun S' a' => ∀ w', S' w' → wpList P l.toArray Q (l.drop n) a' w') (pickOps l is) S a) : (Code.region id l.toArray true).wp P Q a w := by
  subst hn
  unfold mixTB at hB
  simp only [Bool.and_eq_true, decide_eq_true_eq] at hB
  obtain ⟨hsel, hlen, hdir, hlex⟩ := hB
  have hdl : (l.drop is.length).length = g := by rw [List.length_drop]; have : l.toArray.size = l.length := by simp
                                                 omega
  refine wp_region_any hm ?_
  have := any_of_head (Q := Q) (g := g) (fun listed' S' a' hL w' hw => by
    have := wpAny_of_seq (md := .any) (Q' := Q) (l.drop is.length) is.length listed' a' w' (fun j => by simp [List.getElem?_drop]) (by rw [hdl]; exact hL.1) (hL.2 w' hw)
    rwa [hdl] at this) is.length _ S a hF (mixHead_lex (md := .any) hsel hdir is _ S a hF hlex h) w.drew hS
  rw [hlen] at this
  exact this
end
end Go.Proofs.Ytljpiafopbfdlaa
