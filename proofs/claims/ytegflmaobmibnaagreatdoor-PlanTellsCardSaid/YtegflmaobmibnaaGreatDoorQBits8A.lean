/- Small functions of package bits: sizes, widths, and what has room in a width. Which bits may be: package bits' Right. The three sequences of bits: the digits of a number, a span of bits, a list of flags. A span of bits; a list of flags. Bits with more bits behind them: package bits' behind. Package bits: Put. Package bits: Same, Own, Of; and the document's own of the same names. Package bits: Flags, Pad. Package bits: Take; and the document's own bit. The document's own bits: Own, Of, with, bit. The document's own bits: with one more behind. The document's own Put. The document's own Put, where the bits and the number may be. Package bits: Pad; and the document's own Pad and Flags. The document's own Flags and Pad. The document's own Flags, where the bits may be. Package bits: Take, where the bits are there. The document's own Take. Right bits are the packed ones, and no others. -/
import Derived.Test.YtegflmaobmibnaaGreatDoorQGen
import Derived.Test.YtegflmaobmibnaaGreatDoorQBase8
import Derived.Test.YtegflmaobmibnaaGreatDoorChecked
import Derived.WalkKit
import Derived.BigQuiet
import Derived.Deep.QuietTactic
import Derived.Lib.Hide
import Derived.RangeFuncNested
import Derived.RangeFuncBound
import Derived.RangeFuncCalls
import Derived.RangeFuncLeaves
import Derived.RangeFuncBox
import Derived.Shelf.Abstract
import Derived.Shelf.RegionOpen
import Derived.OwnWalkIn
import Derived.TacticsInMore
import Derived.LoopNIn
import Derived.LoopIn
import Derived.Sort.CutIn
import Derived.Stop.RegionWithIn
import Derived.Deep.RegionWith
import Derived.WalkMore
import Derived.Laws.BytesArg
import Derived.Lib.Strings
import Derived.RegionTactic
import Derived.BigRegion
import Derived.StillTailTactics
namespace Go.Proofs.YtegflmaobmibnaaGreatDoor
set_option maxRecDepth 100000
set_option linter.unusedVariables false
open Go.RowKit

/-- How many bytes so many bits want. -/
def sizeOf8 (n : Int) : Int := (n + 7) / 8

set_option maxHeartbeats 400000 in
theorem size_any (n : Int) (h0 : 0 ≤ n) (h1 : n ≤ 9223372036854775807) (w : World) :
    Calls Tryz.prog 100 #[.int .i64 n] w fun e w' => e = .returned (.int .i64 (sizeOf8 n)) ∧ w = w' := by
  by_cases hz : n % 8 = 0
  · have hm : (n % 8 != 0) = false := by rw [hz]; rfl
    go_enter Tryz.func100, Tryz.ntmps100
    go_wp2_with fail
    go_ret
    exact ⟨ret_int (by unfold sizeOf8; omega), rfl⟩
  · have hm : (n % 8 != 0) = true := by simp; omega
    go_enter Tryz.func100, Tryz.ntmps100
    go_wp2_with fail
    go_ret
    exact ⟨ret_int (by unfold sizeOf8; omega), rfl⟩

/-- May a number have this width? -/
def wideB (n : Int) : Bool := decide (0 ≤ n) && decide (n ≤ 32)

set_option maxHeartbeats 400000 in
theorem wide_any (n : Int) (w : World) :
    Calls Tryz.prog 101 #[.int .i64 n] w fun e w' => e = .returned (.bool (wideB n)) ∧ w = w' := by
  by_cases h0 : 0 ≤ n
  · by_cases h1 : n ≤ 32
    all_goals
      go_enter Tryz.func101, Tryz.ntmps101
      go_wp2_with fail
      go_ret
      exact ⟨ret_bool (by simp [wideB, h0, h1]), rfl⟩
  · go_enter Tryz.func101, Tryz.ntmps101
    go_wp2_with fail
    go_ret
    exact ⟨ret_bool (by simp [wideB]; omega), rfl⟩

/-- Has a number room in this width? -/
def fitsB (n width : Int) : Bool := wideB width && decide (0 ≤ n) && decide (n < 2 ^ width.toNat)

theorem div_zero_lt (n k : Int) (h0 : 0 ≤ n) : (n / 2 ^ k.toNat == 0) = decide (n < 2 ^ k.toNat) := by
  have hp : (0 : Int) < 2 ^ k.toNat := Int.pow_pos (by omega)
  by_cases h : n < 2 ^ k.toNat
  · rw [Int.ediv_eq_zero_of_lt h0 h]; simp [h]
  · have h1 : 1 ≤ n / 2 ^ k.toNat := Int.le_ediv_of_mul_le hp (by omega)
    simp only [h, decide_false, beq_eq_false_iff_ne]
    omega

set_option maxHeartbeats 400000 in
theorem fits_any (n k : Int) (hn : n ≤ 9223372036854775807) (w : World) :
    Calls Tryz.prog 60 #[.int .i64 n, .int .i64 k] w fun e w' => e = .returned (.bool (fitsB n k)) ∧ w = w' := by
  cases hw : wideB k with
  | false =>
    go_enter Tryz.func60, Tryz.ntmps60
    go_wp2_with (go_at_call 101; refine (wide_any _ _).mono ?_; rw [hw]; rintro e w' ⟨rfl, rfl⟩)
    go_ret
    exact ⟨ret_bool (by simp [fitsB, hw]), rfl⟩
  | true =>
    by_cases h0 : 0 ≤ n
    · have H : Hid (wideB k = true) := hw
      have hk : 0 ≤ k ∧ k ≤ 32 := by simpa [wideB] using hw
      obtain ⟨hk0, hk1⟩ := hk
      clear hw
      go_enter Tryz.func60, Tryz.ntmps60
      go_wp2_with (go_at_call 101; refine (wide_any _ _).mono ?_; rw [H.out]; rintro e w' ⟨rfl, rfl⟩)
      go_ret
      exact ⟨ret_bool (by rw [fitsB, H.out, div_zero_lt n k h0]; simp [h0]), rfl⟩
    · go_enter Tryz.func60, Tryz.ntmps60
      go_wp2_with (go_at_call 101; refine (wide_any _ _).mono ?_; rw [hw]; rintro e w' ⟨rfl, rfl⟩)
      go_ret
      exact ⟨ret_bool (by simp [fitsB, hw]; omega), rfl⟩
end Go.Proofs.YtegflmaobmibnaaGreatDoor

namespace Go.Proofs.YtegflmaobmibnaaGreatDoor
set_option maxRecDepth 100000
open Go.RowKit
set_option linter.unusedVariables false

/-- Which bits may be. -/
def rightB (zs : List Int) (n : Int) : Bool :=
  decide (0 ≤ n) && decide ((zs.length : Int) = sizeOf8 n) && (decide (n % 8 = 0) || decide ((zs[zs.length - 1]?.getD 0 * 2 ^ (n % 8).toNat) % 256 = 0))

set_option maxHeartbeats 1000000 in
theorem right_any (A : Option Addr) (cap : Nat) (zs : List Int) (n : Int) (w : World) (hr : Row w w.heap.size A (u8s zs)) (hb : ∀ z ∈ zs, IsByte z) (hl : zs.length ≤ maxLen)
    (hn1 : n ≤ 9223372036854775807) (hn0 : -9223372036854775808 ≤ n) :
    Calls Tryz.prog 59 #[.agg #[.slice A zs.length cap, .int .i64 n]] w fun e w' => e = .returned (.bool (rightB zs n)) ∧ Below w.heap.size w w' := by
  unfold maxLen at hl
  by_cases h0 : n < 0
  · go_enter Tryz.func59, Tryz.ntmps59
    go_wp2_with fail
    go_quiet (fail)
    go_wp2_with fail
    go_ret
    exact ⟨ret_bool (by simp [rightB]; omega), below_drawn ((Below.refl _ _).alloc (Nat.le_refl _) _) _⟩
  · by_cases hs : (zs.length : Int) = sizeOf8 n
    · have hs' : ((zs.length : Int) != sizeOf8 n) = false := by simp [hs]
      have hS : Hid ((zs.length : Int) = sizeOf8 n) := hs
      clear hs
      by_cases hm : n % 8 = 0
      · have hm' : (n % 8 == 0) = true := by simp [hm]
        have hM : Hid (n % 8 = 0) := hm
        clear hm
        go_enter Tryz.func59, Tryz.ntmps59
        go_wp2_with fail
        go_quiet ((go_at_call 100; refine Calls.quiet_of_same ((size_any _ (by omega) (by omega) _).mono fun e w' hh => ⟨hh.1, hh.2.symm⟩)))
        go_wp2_with fail
        go_ret
        exact ⟨ret_bool (by simp [rightB, hS.out, hM.out]; omega), below_drawn ((Below.refl _ _).alloc (Nat.le_refl _) _) _⟩
      · have hm' : (n % 8 == 0) = false := by simp; omega
        have hpos : 0 < zs.length := by have := hS.out; unfold sizeOf8 at this; omega
        obtain ⟨b, off, rfl, hbl, hc⟩ := hr.byte (k := zs.length - 1) (by omega)
        have hc1 : (w.alloc (Obj.cells #[Value.slice (some ⟨b, off, none⟩) zs.length cap, Value.int IntKind.i64 n] 24)).cell? ⟨b, off + (zs.length - 1), none⟩ = some (.int .u8 (zs[zs.length - 1]?.getD 0)) := by
          exact (Below.cell (p := ⟨b, off + (zs.length - 1), none⟩) ((Below.refl _ _).alloc (Nat.le_refl _) _) hbl).trans hc
        have hi : (0 : Int) ≤ (zs.length : Int) - 1 := by omega
        have hi2 : ((zs.length : Int) - 1).toNat = zs.length - 1 := by omega
        go_enter Tryz.func59, Tryz.ntmps59
        go_wp2_with fail
        go_quiet ((go_at_call 100; refine Calls.quiet_of_same ((size_any _ (by omega) (by omega) _).mono fun e w' hh => ⟨hh.1, hh.2.symm⟩)))
        go_wp2_with fail
        go_ret
        exact ⟨ret_bool (by simp [rightB, hS.out, hm, h0]; rfl), below_drawn ((Below.refl _ _).alloc (Nat.le_refl _) _) _⟩
    · have hs' : ((zs.length : Int) != sizeOf8 n) = true := by simp; omega
      go_enter Tryz.func59, Tryz.ntmps59
      go_wp2_with fail
      go_quiet ((go_at_call 100; refine Calls.quiet_of_same ((size_any _ (by omega) (by omega) _).mono fun e w' hh => ⟨hh.1, hh.2.symm⟩)))
      go_wp2_with fail
      go_ret
      exact ⟨ret_bool (by simp [rightB, hs]), below_drawn ((Below.refl _ _).alloc (Nat.le_refl _) _) _⟩

theorem pow_wrap (k : Nat) (hk : k ≤ 62) : wrap64 (2 ^ k) = 2 ^ k := by
  have h1 : (2 : Nat) ^ k ≤ 4611686018427387904 := Nat.le_trans (Nat.pow_le_pow_right (by omega) hk) (by decide)
  have h2 : (((2 : Nat) ^ k : Nat) : Int) = (2 : Int) ^ k := by simp
  have h3 : (0 : Int) < 2 ^ k := Int.pow_pos (by omega)
  have h4 : (2 : Int) ^ k ≤ 4611686018427387904 := by rw [← h2]; omega
  unfold wrap64
  omega

theorem last_over (z r : Int) (h1 : 1 ≤ r) (h7 : r ≤ 7) (h0 : 0 ≤ z) (h255 : z ≤ 255) : (z % 2 ^ (8 - r).toNat == 0) = decide (z * 2 ^ r.toNat % 256 = 0) := by
  obtain rfl | rfl | rfl | rfl | rfl | rfl | rfl : r = 1 ∨ r = 2 ∨ r = 3 ∨ r = 4 ∨ r = 5 ∨ r = 6 ∨ r = 7 := by omega
  all_goals
    simp only [Int.reduceSub, Int.reduceToNat, Int.reducePow]
    rw [Bool.eq_iff_iff]
    simp only [beq_iff_eq, decide_eq_true_eq]
    omega

set_option maxHeartbeats 2000000 in
theorem rightR_any (A : Option Addr) (cap : Nat) (zs : List Int) (n : Int) (w : World) (hr : Row w w.heap.size A (u8s zs)) (hb : ∀ z ∈ zs, IsByte z) (hl : zs.length ≤ maxLen)
    (hn1 : n ≤ 9223372036854775807) (hn0 : -9223372036854775808 ≤ n) :
    Calls Tryz.prog 73 #[.agg #[.slice A zs.length cap, .int .i64 n]] w fun e w' => e = .returned (.bool (rightB zs n)) ∧ Below w.heap.size w w' := by
  unfold maxLen at hl
  by_cases h0 : n < 0
  · go_enter Tryz.func73, Tryz.ntmps73
    go_wp2_with fail
    go_ret
    exact ⟨ret_bool (by simp [rightB]; omega), (Below.refl _ _).alloc (Nat.le_refl _) _⟩
  · by_cases hs : (zs.length : Int) = sizeOf8 n
    · by_cases hm : n % 8 = 0
      · have hd : (zs.length : Int) = n / 8 := by unfold sizeOf8 at hs; omega
        have hmm : (n % 8 == 0) = true := by simp [hm]
        go_enter Tryz.func73, Tryz.ntmps73
        go_wp2_with fail
        go_ret
        exact ⟨ret_bool (by simp [rightB, hs, hm, h0]), (Below.refl _ _).alloc (Nat.le_refl _) _⟩
      · have hS : Hid ((zs.length : Int) = sizeOf8 n) := hs
        have hmin : (if 1 < n % 8 then (1 : Int) else n % 8) = 1 := by split <;> omega
        have hpw : wrap64 (2 ^ (8 - n % 8).toNat) = 2 ^ (8 - n % 8).toNat := pow_wrap _ (by omega)
        have hpw0 : ((2 : Int) ^ (8 - n % 8).toNat = 0) = False := eq_false (Int.ne_of_gt (Int.pow_pos (by omega)))
        have htest : ((zs.length : Int) != n / 8 + 1) = false := by unfold sizeOf8 at hs; simp; omega
        have hm' : (n % 8 == 0) = false := by simp; omega
        have hpos : 0 < zs.length := by have := hS.out; unfold sizeOf8 at this; omega
        clear hs
        obtain ⟨b, off, rfl, hbl, hc⟩ := hr.byte (k := zs.length - 1) (by omega)
        have hc1 : (w.alloc (Obj.cells #[Value.slice (some ⟨b, off, none⟩) zs.length cap, Value.int IntKind.i64 n] 24)).cell? ⟨b, off + (zs.length - 1), none⟩ = some (.int .u8 (zs[zs.length - 1]?.getD 0)) := by
          exact (Below.cell (p := ⟨b, off + (zs.length - 1), none⟩) ((Below.refl _ _).alloc (Nat.le_refl _) _) hbl).trans hc
        have hbyte : IsByte (zs[zs.length - 1]?.getD 0) := hb _ (by rw [List.getElem?_eq_getElem (by omega)]; exact List.getElem_mem _)
        obtain ⟨hy0, hy1⟩ := hbyte
        have hi : (0 : Int) ≤ (zs.length : Int) - 1 := by omega
        have hi2 : ((zs.length : Int) - 1).toNat = zs.length - 1 := by omega
        have hr8 : 1 ≤ n % 8 ∧ n % 8 ≤ 7 := by omega
        obtain ⟨hr1, hr7⟩ := hr8
        go_enter Tryz.func73, Tryz.ntmps73
        go_wp2_with fail
        go_ret
        exact ⟨ret_bool (by rw [last_over _ _ hr1 hr7 hy0 hy1]; simp [rightB, hS.out, hm, h0]), (Below.refl _ _).alloc (Nat.le_refl _) _⟩
    · have htest : ((zs.length : Int) != n / 8 + (if 1 < n % 8 then (1 : Int) else n % 8)) = true := by unfold sizeOf8 at hs; simp; split <;> omega
      go_enter Tryz.func73, Tryz.ntmps73
      go_wp2_with fail
      all_goals
        go_ret
        exact ⟨ret_bool (by simp [rightB, hs]), (Below.refl _ _).alloc (Nat.le_refl _) _⟩
end Go.Proofs.YtegflmaobmibnaaGreatDoor

namespace Go.Proofs.YtegflmaobmibnaaGreatDoor
set_option maxRecDepth 100000
open Go.RowKit Go.Shelf
set_option linter.unusedVariables false
attribute [local go_sem] Oper.semAt_some

/-- The j-th of the k digits of n, the highest first. -/
def digit (n : Int) (k : Nat) (j : Nat) : Bool := n / 2 ^ (k - 1 - j) % 2 == 1

set_option maxRecDepth 100000 in
set_option maxHeartbeats 2000000 in
theorem digits1_in (F : Fence) (m : Nat) (hF : F.fn 102) (hro : F.round = none) (hm : 1 ≤ m) (l Bk Bn n₀ k : Nat) (n : Int) (hn : 0 ≤ n) (hn1 : n ≤ 9223372036854775807) (hk : k ≤ 32) (hBk : Bk < n₀) (hBn : Bn < n₀) (J Jx : List Bool → World → Prop)
    (hY : ∀ pre x W, J pre W → pre.length < k → YieldAt F (m - 1) Tryz.prog l #[.bool x] W fun e W' =>
      (e = .returned (.bool true) ∧ J (pre ++ [x]) W' ∧ Below n₀ W W') ∨ (e = .returned (.bool false) ∧ Jx (pre ++ [x]) W'))
    (W : World) (hck : W.cell? ⟨Bk, 0, none⟩ = some (.int .i64 k)) (hcn : W.cell? ⟨Bn, 0, none⟩ = some (.int .i64 n)) (h0 : J [] W) :
    CallsIn F m Tryz.prog 102 #[.func (.yield l) #[] #[], .pointer (some ⟨Bk, 0, none⟩), .pointer (some ⟨Bn, 0, none⟩)] W fun e W' => (∃ v, e = .returned v) ∧
      ((∃ ys, ys = first (digit n k) k ∧ J ys W') ∨ (∃ pre, (∃ j, j ≤ k ∧ pre = first (digit n k) j) ∧ Jx pre W')) := by
  refine callsIn_of_wp Tryz.func102 rfl hF ?_ hro
  simp only [Tryz.ntmps102, List.size_toArray, List.length_cons, List.length_nil, Nat.reduceAdd, Nat.reduceSub, Array.replicate_succ, Array.replicate_zero, List.push_toArray, List.append_toArray, List.nil_append, List.cons_append]
  gi_wp2
  gi_loopw [4] (fun i wr => ∃ j : Nat, j ≤ k ∧ i = .int .i64 ((k : Int) - 1 - j) ∧ J (first (digit n k) j) wr ∧ Below n₀ W wr)
    (fun i _ => (intOf i + 1).toNat)
  case atStart => exact ⟨0, Nat.zero_le _, by simp, h0, Below.refl _ _⟩
  case round =>
    obtain ⟨j, hj, rfl, hJs, hnx⟩ := hrel
    have hck' := (hnx.cell (p := ⟨Bk, 0, none⟩) hBk).trans hck
    have hcn' := (hnx.cell (p := ⟨Bn, 0, none⟩) hBn).trans hcn
    by_cases hlt : j < k
    · obtain ⟨fn, tmps, assign, body, hy, hR⟩ := hY _ (digit n k j) wr hJs (by rw [first_length]; exact hlt)
      have hge : (0 : Int) ≤ (k : Int) - 1 - j := by omega
      have hdig : (bits BinOp.and IntKind.i64 (n / 2 ^ (k - 1 - j)) 1 == 1) = digit n k j := by
        rw [low_bit_i64 _ (Int.ediv_nonneg hn (Int.le_of_lt (Int.pow_pos (by omega)))) (Int.le_trans (Int.ediv_le_self _ hn) hn1)]; rfl
      gi_wp2
      refine hR.mono ?_
      rintro e W3 (⟨rfl, hJ3, hk3⟩ | ⟨rfl, hJx3⟩)
      · gi_wp2
        go_roundw
        case rel => exact ⟨j + 1, by omega, by go_num, by rw [first_succ]; exact hJ3, hnx.trans hk3⟩
        case measure => simp [intOf]; omega
      · gi_wp2
        refine bodyPost_ret (results_none rfl _ _ _) rfl ?_
        exact ⟨⟨_, rfl⟩, .inr ⟨_, ⟨j + 1, by omega, (first_succ _ _).symm⟩, hJx3⟩⟩
    · obtain rfl : j = k := by omega
      gi_wp2
      go_end0
      exact ⟨⟨_, rfl⟩, .inl ⟨_, rfl, hJs⟩⟩

set_option maxHeartbeats 1000000 in
/-- digits(n, k): n and k are boxed; the function value captures both. -/
theorem digits_in (F : Fence) (m : Nat) (hF : F.fn 62) (hro : F.round = none) (n k : Int) (w : World) :
    CallsIn F m Tryz.prog 62 #[.int .i64 n, .int .i64 k] w fun e w' =>
      e = .returned (.func (.func 102) #[] #[.pointer (some ⟨w.heap.size + 1, 0, none⟩), .pointer (some ⟨w.heap.size, 0, none⟩)]) ∧ w' = (w.alloc (.cells #[.int .i64 n] 3)).alloc (.cells #[.int .i64 k] 3) := by
  refine callsIn_of_wp Tryz.func62 rfl hF ?_ hro
  simp only [Tryz.ntmps62, List.size_toArray, List.length_cons, List.length_nil, Nat.reduceAdd, Nat.reduceSub, Array.replicate_succ, Array.replicate_zero, List.push_toArray, List.append_toArray, List.nil_append, List.cons_append]
  gi_wp2
  go_ret
  exact ⟨rfl, rfl⟩

theorem digits_stops (F : Fence) (m : Nat) (hF : F.fn 102) (hro : F.round = none) (hm : 1 ≤ m) (Bk Bn n₀ k : Nat) (n : Int) (hn : 0 ≤ n) (hn1 : n ≤ 9223372036854775807) (hk : k ≤ 32) (w : World) (hBk : Bk < n₀) (hBn : Bn < n₀) (hn₀ : n₀ ≤ w.heap.size)
    (hck : w.cell? ⟨Bk, 0, none⟩ = some (.int .i64 k)) (hcn : w.cell? ⟨Bn, 0, none⟩ = some (.int .i64 n)) :
    SeqStopsK F m Tryz.prog 102 #[.pointer (some ⟨Bk, 0, none⟩), .pointer (some ⟨Bn, 0, none⟩)] encB (Below n₀) (fun ys => ys = first (digit n k) k)
      (fun pre => ∃ j, j ≤ k ∧ pre = first (digit n k) j) k w := fun l J Jx W hW _ _ hY h0 =>
  digits1_in F m hF hro hm l Bk Bn n₀ k n hn hn1 hk hBk hBn J Jx hY W ((hW.cell (p := ⟨Bk, 0, none⟩) (by show Bk < _; omega)).trans hck) ((hW.cell (p := ⟨Bn, 0, none⟩) (by show Bn < _; omega)).trans hcn) h0
end Go.Proofs.YtegflmaobmibnaaGreatDoor

namespace Go.Proofs.YtegflmaobmibnaaGreatDoor
set_option maxRecDepth 100000
open Go.RowKit Go.Shelf
set_option linter.unusedVariables false
attribute [local go_sem] Oper.semAt_some

set_option maxRecDepth 100000 in
set_option maxHeartbeats 4000000 in
theorem span1_in (F : Fence) (m : Nat) (hF : F.fn 132) (hro : F.round = none) (hm : 1 ≤ m) (l Ba Bk Bx n₀ at_ k cap : Nat) (A : Option Addr) (zs : List Int) (N : Int) (hN : ((at_ + k : Nat) : Int) ≤ 8 * zs.length) (hz : ∀ z ∈ zs, IsByte z) (hzl : zs.length ≤ 1152921504606846975) (Kp : World → World → Prop) (Pp : Nat → Prop) (hKp : ∀ X Y, Kp X Y → KeepCells Pp X Y) (hBa : Pp Ba) (hBk : Pp Bk) (hBx : Pp Bx) (hPn : ∀ b, b < n₀ → Pp b) (J Jx : List Bool → World → Prop)
    (hY : ∀ pre x W, J pre W → pre.length < k → YieldAt F (m - 1) Tryz.prog l #[.bool x] W fun e W' =>
      (e = .returned (.bool true) ∧ J (pre ++ [x]) W' ∧ Kp W W') ∨ (e = .returned (.bool false) ∧ Jx (pre ++ [x]) W'))
    (W : World) (hca : W.cell? ⟨Ba, 0, none⟩ = some (.int .i64 at_)) (hck : W.cell? ⟨Bk, 0, none⟩ = some (.int .i64 k)) (hx0 : W.cell? ⟨Bx, 0, none⟩ = some (.slice A zs.length cap)) (hx1 : W.cell? ⟨Bx, 1, none⟩ = some (.int .i64 N)) (hr : Row W n₀ A (u8s zs)) (h0 : J [] W) :
    CallsIn F m Tryz.prog 132 #[.func (.yield l) #[] #[], .pointer (some ⟨Ba, 0, none⟩), .pointer (some ⟨Bk, 0, none⟩), .pointer (some ⟨Bx, 0, none⟩)] W fun e W' => (∃ v, e = .returned v) ∧
      ((∃ ys, ys = first (fun j => bitZ zs (at_ + j)) k ∧ J ys W') ∨ (∃ pre, (∃ j, j ≤ k ∧ pre = first (fun j => bitZ zs (at_ + j)) j) ∧ Jx pre W')) := by
  refine callsIn_of_wp Tryz.func132 rfl hF ?_ hro
  simp only [Tryz.ntmps132, List.size_toArray, List.length_cons, List.length_nil, Nat.reduceAdd, Nat.reduceSub, Array.replicate_succ, Array.replicate_zero, List.push_toArray, List.append_toArray, List.nil_append, List.cons_append]
  gi_wp2
  gi_loopw [5] (fun i wr => ∃ j : Nat, j ≤ k ∧ i = .int .i64 ((at_ : Int) + j) ∧ J (first (fun j => bitZ zs (at_ + j)) j) wr ∧ KeepCells Pp W wr)
    (fun i _ => (at_ + k) - (intOf i).toNat)
  case atStart => exact ⟨0, Nat.zero_le _, by simp, h0, KeepCells.refl _ _⟩
  case round =>
    obtain ⟨j, hj, rfl, hJs, hnx⟩ := hrel
    have hca' := (hnx ⟨Ba, 0, none⟩ hBa).trans hca
    have hck' := (hnx ⟨Bk, 0, none⟩ hBk).trans hck
    have hx0' := (hnx ⟨Bx, 0, none⟩ hBx).trans hx0
    by_cases hlt : j < k
    · obtain ⟨fn, tmps, assign, body, hy, hR⟩ := hY _ (bitZ zs (at_ + j)) wr hJs (by rw [first_length]; exact hlt)
      obtain ⟨b, off, rfl, hbl, hc⟩ := (hr.keep (Nat.le_refl _) (fun p hp => hnx p (hPn _ hp))).byte (k := (at_ + j) / 8) (by omega)
      have hbz : IsByte (zs[(at_ + j) / 8]?.getD 0) := hz _ (by rw [List.getElem?_eq_getElem (by omega)]; exact List.getElem_mem _)
      obtain ⟨hz0, hz1⟩ := hbz
      have hq : ((at_ : Int) + j) / 8 < zs.length := by omega
      have hdig : (bits BinOp.and IntKind.u8 (zs[(at_ + j) / 8]?.getD 0 / 2 ^ (7 - (at_ + j) % 8)) 1 == 1) = bitZ zs (at_ + j) := by
        rw [low_bit_u8 _ (Int.ediv_nonneg hz0 (Int.le_of_lt (Int.pow_pos (by omega)))) (Int.le_trans (Int.ediv_le_self _ hz0) hz1)]; rfl
      have hlt' : (at_ : Int) + j < at_ + k := by omega
      gi_wp2
      refine hR.mono ?_
      rintro e W3 (⟨rfl, hJ3, hk3⟩ | ⟨rfl, hJx3⟩)
      · gi_wp2
        go_roundw
        case rel => exact ⟨j + 1, by omega, by go_num, by rw [first_succ]; exact hJ3, hnx.trans (hKp _ _ hk3)⟩
        case measure => simp [intOf]; omega
      · gi_wp2
        refine bodyPost_ret (results_none rfl _ _ _) rfl ?_
        exact ⟨⟨_, rfl⟩, .inr ⟨_, ⟨j + 1, by omega, (first_succ _ _).symm⟩, hJx3⟩⟩
    · obtain rfl : j = k := by omega
      gi_wp2
      go_end0
      exact ⟨⟨_, rfl⟩, .inl ⟨_, rfl, hJs⟩⟩

set_option maxHeartbeats 1000000 in
/-- span(x, at, k): the three are boxed, in order; the function value captures them. -/
theorem span_in (F : Fence) (m : Nat) (hF : F.fn 127) (hro : F.round = none) (A : Option Addr) (len cap : Nat) (N a k : Int) (w : World) :
    CallsIn F m Tryz.prog 127 #[.agg #[.slice A len cap, .int .i64 N], .int .i64 a, .int .i64 k] w fun e w' =>
      e = .returned (.func (.func 132) #[] #[.pointer (some ⟨w.heap.size + 1, 0, none⟩), .pointer (some ⟨w.heap.size + 1 + 1, 0, none⟩), .pointer (some ⟨w.heap.size, 0, none⟩)]) ∧ w' = ((w.alloc (.cells #[.slice A len cap, .int .i64 N] 54)).alloc (.cells #[.int .i64 a] 3)).alloc (.cells #[.int .i64 k] 3) := by
  refine callsIn_of_wp Tryz.func127 rfl hF ?_ hro
  simp only [Tryz.ntmps127, List.size_toArray, List.length_cons, List.length_nil, Nat.reduceAdd, Nat.reduceSub, Array.replicate_succ, Array.replicate_zero, List.push_toArray, List.append_toArray, List.nil_append, List.cons_append]
  gi_wp2
  go_ret
  exact ⟨rfl, rfl⟩

theorem span_stops (F : Fence) (m : Nat) (hF : F.fn 132) (hro : F.round = none) (hm : 1 ≤ m) (Ba Bk Bx n₀ at_ k cap : Nat) (A : Option Addr) (zs : List Int) (N : Int) (hN : ((at_ + k : Nat) : Int) ≤ 8 * zs.length) (hz : ∀ z ∈ zs, IsByte z) (hzl : zs.length ≤ 1152921504606846975) (w : World) (Kp : World → World → Prop) (Pp : Nat → Prop) (hKp : ∀ X Y, Kp X Y → KeepCells Pp X Y) (hBa : Pp Ba) (hBk : Pp Bk) (hBx : Pp Bx) (hPn : ∀ b, b < n₀ → Pp b) (hn₀ : n₀ ≤ w.heap.size) (hBa' : Ba < w.heap.size) (hBk' : Bk < w.heap.size) (hBx' : Bx < w.heap.size)
    (hca : w.cell? ⟨Ba, 0, none⟩ = some (.int .i64 at_)) (hck : w.cell? ⟨Bk, 0, none⟩ = some (.int .i64 k)) (hx0 : w.cell? ⟨Bx, 0, none⟩ = some (.slice A zs.length cap)) (hx1 : w.cell? ⟨Bx, 1, none⟩ = some (.int .i64 N)) (hr : Row w n₀ A (u8s zs)) :
    SeqStopsK F m Tryz.prog 132 #[.pointer (some ⟨Ba, 0, none⟩), .pointer (some ⟨Bk, 0, none⟩), .pointer (some ⟨Bx, 0, none⟩)] encB Kp (fun ys => ys = first (fun j => bitZ zs (at_ + j)) k)
      (fun pre => ∃ j, j ≤ k ∧ pre = first (fun j => bitZ zs (at_ + j)) j) k w := fun l J Jx W hW _ _ hY h0 =>
  span1_in F m hF hro hm l Ba Bk Bx n₀ at_ k cap A zs N hN hz hzl Kp Pp hKp hBa hBk hBx hPn J Jx hY W ((hW.cell (p := ⟨Ba, 0, none⟩) hBa').trans hca) ((hW.cell (p := ⟨Bk, 0, none⟩) hBk').trans hck)
    ((hW.cell (p := ⟨Bx, 0, none⟩) hBx').trans hx0) ((hW.cell (p := ⟨Bx, 1, none⟩) hBx').trans hx1) (hr.below (hW.mono hn₀)) h0

/-- Flags as cells. -/
def bools (l : List Bool) : List Value := l.map .bool

theorem first_get (fl : List Bool) : first (fun j => fl[j]?.getD false) fl.length = fl := by
  apply List.ext_getElem
  · simp [first]
  · intro i h1 h2
    simp [first, h2]

end Go.Proofs.YtegflmaobmibnaaGreatDoor

namespace Go.Proofs.YtegflmaobmibnaaGreatDoor
set_option maxRecDepth 100000
open Go.RowKit Go.Shelf
set_option linter.unusedVariables false
attribute [local go_sem] Oper.semAt_some

theorem make_u8 (c : Nat) (hc : c ≤ 281474976710656) (w : World) : (Instr.makeSlice 30 (.int .i64 (c : Int)) (.int .i64 (c : Int))).run Tryz.prog w = .ok (.slice (some ⟨w.heap.size, 0, none⟩) c c) (w.alloc (.cells (List.replicate c (.int .u8 0)).toArray 5)) :=
  make_run 30 5 _ 1 Tryz.underlying30 info_u8 rfl c (by omega) (by omega) w

/-- How many bytes. -/
def bytesFor (n : Nat) : Nat := (n + 7) / 8
theorem sizeOf8_nat (n : Nat) : sizeOf8 (n : Int) = (bytesFor n : Int) := by unfold sizeOf8 bytesFor; omega

set_option maxRecDepth 100000 in
set_option maxHeartbeats 4000000 in
theorem behind_in (A : Option Addr) (cap : Nat) (l m : List Bool) (hl : l.length + m.length ≤ 1099511627776) (gf : Nat) (lb : Array Value) (w : World) (hr : Row w w.heap.size A (u8s (pack (bytesFor l.length) l)))
    (eg : ∀ args w, (callFunc gf args).run Tryz.prog w = .ok (.enter gf args) w) (Sp : List Bool → Prop) (hseq : SeqStopsK Fence.wide 3 Tryz.prog gf lb encB (Below w.heap.size) (fun ys => ys = m) Sp m.length w) :
    CallsIn Fence.wide 4 Tryz.prog 61 #[.agg #[.slice A (bytesFor l.length) cap, .int .i64 l.length], .int .i64 m.length, .func (.func gf) #[] lb] w fun e w' =>
      ∃ g, e = .returned (.agg #[.slice (some ⟨g, 0, none⟩) (bytesFor (l.length + m.length)) (bytesFor (l.length + m.length)), .int .i64 ((l.length : Int) + m.length)]) ∧ w.heap.size ≤ g ∧ Whole w' g 5 (u8s (pack (bytesFor (l.length + m.length)) (l ++ m))) ∧ Below w.heap.size w w' := by
  obtain ⟨S, hS⟩ : ∃ S, bytesFor (l.length + m.length) = S := ⟨_, rfl⟩
  have hSl : S ≤ 281474976710656 := by unfold bytesFor at hS; omega
  have hsz : sizeOf8 ((l.length : Int) + m.length) = (S : Int) := by rw [← hS, ← sizeOf8_nat]; congr 1
  have HS := Lib.hid hsz
  clear hsz
  have hmk := make_u8 S hSl
  have HL0 := Lib.hid (show (0 : Int) ≤ (l.length : Int) + m.length by omega)
  have HL1 := Lib.hid (show (l.length : Int) + m.length ≤ 9223372036854775807 by omega)
  refine callsIn_of_wp_marks Tryz.func61 rfl trivial ?_ rfl
  simp only [Tryz.ntmps61, List.size_toArray, List.length_cons, List.length_nil, Nat.reduceAdd, Nat.reduceSub, Array.replicate_succ, Array.replicate_zero, List.push_toArray, List.append_toArray, List.nil_append, List.cons_append]
  rw [hS]
  have HS2 := Lib.hid hS
  clear hS
  gi_wp2
  obtain ⟨W0, hW0, hs0, hb00, hres, hx0, hx1⟩ : ∃ W0, ((w.alloc (.cells #[.slice A (bytesFor l.length) cap, .int .i64 l.length] 54)).alloc (.cells #[.slice none 0 0, .int .i64 0] 54)) = W0 ∧ W0.heap.size = w.heap.size + 1 + 1 ∧ Below w.heap.size w W0 ∧
      Whole W0 (w.heap.size + 1) 54 [.slice none 0 0, .int .i64 0] ∧ W0.cell? ⟨w.heap.size, 0, none⟩ = some (.slice A (bytesFor l.length) cap) ∧ W0.cell? ⟨w.heap.size, 1, none⟩ = some (.int .i64 l.length) := by
    refine ⟨_, rfl, by simp, ((Below.refl _ w).alloc (Nat.le_refl _) _).alloc (by simp) _, Whole.new_at _ _ [_, _] _ (by simp), ?_, ?_⟩
    · exact ((Whole.new w 54 [_, _]).alloc _).cell_at 0 rfl
    · exact ((Whole.new w 54 [_, _]).alloc _).cell_at 1 rfl
  rw [hW0]
  clear hW0
  have HS0 := Lib.hid hs0
  clear hs0
  gi_cut [7] from 9 (fun o w' => Fresh2 W0 W0.heap.size S 54 5 (.int .u8 0) (.int .i64 l.length) o w')
  case first =>
    have hw1 : IntKind.i64.wrap ((l.length : Int) + m.length) = (l.length : Int) + m.length := IntWalk.i64_in _ (by omega)
    have hlt0 : w.heap.size < W0.heap.size := by rw [HS0.out]; omega
    have hx1a : ∀ o, (W0.alloc o).cell? ⟨w.heap.size, 1, none⟩ = some (.int .i64 l.length) := fun o => (((Below.refl W0.heap.size W0).alloc (Nat.le_refl _) o).cell (p := ⟨w.heap.size, 1, none⟩) hlt0).trans hx1
    have hx1b : ∀ o o', ((W0.alloc o).alloc o').cell? ⟨w.heap.size, 1, none⟩ = some (.int .i64 l.length) := fun o o' => ((((Below.refl W0.heap.size W0).alloc (Nat.le_refl _) o).alloc (by simp) o').cell (p := ⟨w.heap.size, 1, none⟩) hlt0).trans hx1
    refine wpIn_normal ?_
    gi_region_with (refine ⟨trivial, ?_⟩; gi_at_call 100; refine (callsIn_wide.2 (size_any _ HL0.out HL1.out _)).mono ?_; rw [HS.out]; rintro e w' ⟨rfl, rfl⟩)
    all_goals
      gi_wp2
      go_meet
      case rel =>
        first
          | exact fresh2_row_first _ _ _ _ _ _ _ rfl
          | exact fresh2_row_last _ _ _ _ _ _ _ rfl
  case rest =>
    obtain ⟨Bo, g, rfl, hne, hBo, hg, hWo, hWg, hB⟩ := hcut
    rw [HS0.out] at hBo hg hB
    have hlen : (u8s (pack (bytesFor l.length) l)).length = bytesFor l.length := by rw [u8s_length, pack_length]
    have hk : bytesFor l.length ≤ S := by rw [← HS2.out]; unfold bytesFor; omega
    have h8 : l.length ≤ 8 * bytesFor l.length := by unfold bytesFor; omega
    have hB0 : Below w.heap.size w wc := hb00.trans (hB.mono (by omega))
    obtain ⟨w2, hcopy, hW2, hG2⟩ := copy_run (P := Tryz.prog) 30 30 5 Tryz.underlying30 (by kernel_rfl) g _ _ A cap w.heap.size S S wc hWg (by simp) (hr.below hB0) (by rw [hlen]; exact hk) (u8s_one _)
    rw [pack_pad _ S l h8 hk] at hW2
    rw [hlen] at hcopy
    have hx0 : wc.cell? ⟨w.heap.size, 0, none⟩ = some (.slice A (bytesFor l.length) cap) := (hB.cell (p := ⟨w.heap.size, 0, none⟩) (by show w.heap.size < w.heap.size + 1 + 1; omega)).trans hx0
    have ho0 := hWo.cell_at 0 rfl
    gi_wp2
    have hB2 : Below (w.heap.size + 1 + 1) W0 w2 := hB.grown hG2 (by have := hB.size; rw [HS0.out] at this; exact this) (fun k e => by cases e; exact hg)
    have hB2' : Below w.heap.size w w2 := hb00.trans (hB2.mono (by omega))
    have hWo2 := hWo.kept hG2 (fun e => hne (by injection e))
    have hbo : w.heap.size + 1 + 1 ≤ w2.heap.size := by have := hWo2.lt; omega
    clear hcopy hx0 ho0 hWo hWg hB hB0
    refine wpIn_rangeFunc_ownF rfl (by omega) (gf := gf) (lb := lb) rfl trivial eg hseq belowK_t (belowK_b (by omega)) hB2' (fun _ => rfl)
      (fun pre W => (∃ lp, lp = l ++ pre ∧ Whole W Bo 54 [.slice (some ⟨g, 0, none⟩) S S, .int .i64 (lp.length : Int)] ∧ Whole W g 5 (u8s (pack S lp))) ∧ Below (w.heap.size + 1 + 1) W0 W)
      (fun _ _ _ => False)
      (OwnFrom.and (Own.from (fun s X Y row hs hg hr => by
        obtain ⟨lp, h1, h2, h3⟩ := hs
        exact ⟨lp, h1, h2.abides hg hr, h3.abides hg hr⟩) _) (ownFrom_below (Nat.le_of_eq HS0.out.symm) (by omega)))
      (fun _ _ _ _ _ hs _ _ => hs)
      ⟨⟨l, by simp, hWo2, hW2⟩, hB2⟩
      (fun x => { tmps := #[.agg #[.slice A (bytesFor l.length) cap, .int .i64 l.length], .int .i64 m.length, .func (.func gf) #[] lb, .pointer (some ⟨w.heap.size, 0, none⟩), undef, undef, .pointer (some ⟨w.heap.size + 1, 0, none⟩), .pointer (some ⟨Bo, 0, none⟩),
        .bool x, u9, u10, u11, u12, u13, u14, u15, u16, u17, .pointer (some ⟨Bo, 0, none⟩), .slice (some ⟨g, 0, none⟩) S S, .pointer (some ⟨w.heap.size, 0, none⟩), .slice A (bytesFor l.length) cap, .int .i64 (bytesFor l.length : Int),
        .func (.func gf) #[] lb, .bool x, u25, u26, u27, u28, u29, u30, u31, u32, u33, u34, u35, u36, u37, u38, u39, u40, u41, u42, u43], defers := [] }) ?assign ?body ?done ?stop
    case assign =>
      intro lr x W K hK
      unfold encB
      gi_wp2
      exact hK
    case stop =>
      rintro D c pre W _ _ h _
      exact h.elim
    case body =>
      rintro lr pre x W ⟨⟨lp, hlp, hWo, hWg⟩, hB⟩ hlt
      have hN : lp.length + 1 ≤ l.length + m.length := by rw [hlp]; simp; omega
      have HLP := Lib.hid hlp
      clear hlp
      have hq : lp.length / 8 < S := by rw [← HS2.out]; unfold bytesFor; omega
      have ho0 := hWo.cell_at 0 rfl
      have ho1 := hWo.cell_at 1 rfl
      have hf1 := hWo.frozen 1
      cases x with
      | false =>
        gi_wp2
        refine ⟨KeepsOthers.setCell _ _ _, (Below.refl w.heap.size W).setCell (p := ⟨Bo, 1, none⟩) (by show w.heap.size ≤ Bo; omega) _, ⟨lp ++ [false], by rw [HLP.out, List.append_assoc], ?_, ?_⟩, hB.setCell (p := ⟨Bo, 1, none⟩) hBo _⟩
        · have h := hWo.set 1 (.int .i64 ((lp.length : Int) + 1))
          simpa using h
        · rw [pack_false]; exact hWg.far (p := ⟨Bo, 1, none⟩) (fun e => hne e.symm) _
      | true =>
        have hgq : W.cell? ⟨g, lp.length / 8, none⟩ = some (.int .u8 (byteOf lp (lp.length / 8))) := hWg.cell_at _ (by simp [u8s, pack, first, hq])
        have hgf := hWg.frozen (lp.length / 8)
        have hqi : (lp.length : Int) / 8 < S := by omega
        have hq0 : (0 : Int) ≤ (lp.length : Int) / 8 := by omega
        gi_wp2
        refine wpIn_normal (region_inRound lr _ _ 13 (by kernel_rfl) (by kernel_rfl) (by kernel_rfl) noLetsOut ?_)
        simp only [List.take_succ_cons, List.take_zero, List.drop_succ_cons, List.drop_zero]
        have hd : IntKind.i64.wrap ((lp.length : Int) / 8) = (lp.length : Int) / 8 := IntWalk.i64_in _ (by omega)
        have hm : IntKind.i64.wrap ((lp.length : Int) % 8) = (lp.length : Int) % 8 := IntWalk.i64_in _ (by omega)
        have htm : (lp.length : Int).tmod 8 = (lp.length : Int) % 8 := Int.tmod_eq_emod_of_nonneg (by omega)
        have hm0 : (0 : Int) ≤ (lp.length : Int) % 8 := by omega
        have hqn : ((lp.length : Int) / 8).toNat = lp.length / 8 := by omega
        repeat still_step
        refine wpStill_nil ?_
        go_wp2
        clear hd hm htm hqn
        gi_wp2
        refine ⟨((KeepsOthers.setCell _ _ _).trans (KeepsOthers.setCell _ _ _)).trans (KeepsOthers.drew _), (((Below.refl w.heap.size W).setCell (p := ⟨g, _, none⟩) (by show w.heap.size ≤ g; omega) _).setCell (p := ⟨Bo, 1, none⟩) (by show w.heap.size ≤ Bo; omega) _).drew,
          ⟨lp ++ [true], by rw [HLP.out, List.append_assoc], ?_, ?_⟩, ((hB.setCell (p := ⟨g, _, none⟩) hg _).setCell (p := ⟨Bo, 1, none⟩) hBo _).drew⟩
        · have h := (hWo.far (p := ⟨g, lp.length / 8, none⟩) hne (.int .u8 (bits BinOp.or IntKind.u8 (byteOf lp (lp.length / 8)) (128 / 2 ^ (lp.length % 8))))).set 1 (.int .i64 ((lp.length : Int) + 1))
          have e : (((lp ++ [true]).length : Nat) : Int) = (lp.length : Int) + 1 := by simp
          rw [e]
          exact h
        · rw [pack_true]
          have h := (hWg.set (lp.length / 8) (.int .u8 (bits BinOp.or IntKind.u8 (byteOf lp (lp.length / 8)) (128 / 2 ^ (lp.length % 8))))).far (p := ⟨Bo, 1, none⟩) (fun e => hne e.symm) (.int .i64 ((lp.length : Int) + 1))
          rw [show u8s ((pack S lp).set (lp.length / 8) _) = (u8s (pack S lp)).set (lp.length / 8) (.int .u8 _) from List.map_set ..]
          exact h
    case done =>
      rintro D ys W hD rfl ⟨⟨lp, hlp, hWo, hWg⟩, hB⟩ hK
      have HLP := Lib.hid hlp
      clear hlp
      have ho0 := hWo.cell_at 0 rfl
      have ho1 := hWo.cell_at 1 rfl
      have hres' := hres.below hB (by omega)
      have hr0 := hres'.cell_at 0 rfl
      have hr1 := hres'.cell_at 1 rfl
      have hrf0 := hres'.frozen 0
      have hrf1 := hres'.frozen 1
      gi_wp2
      have hK' := ((KeepsOthers.setCell W ⟨w.heap.size + 1, 0, none⟩ (.slice (some ⟨g, 0, none⟩) S S)).trans (KeepsOthers.setCell _ ⟨w.heap.size + 1, 1, none⟩ (.int .i64 lp.length))).same D _ hK rfl
      have hW3 := (hres'.set 0 (.slice (some ⟨g, 0, none⟩) S S)).set 1 (.int .i64 lp.length)
      have hW4 := hW3.abides (grownBy_putObj' _ D (.deferred none)) (fun r e => by cases e; exact ⟨_, hK', rfl⟩)
      have hG4 := ((hWg.far (p := ⟨w.heap.size + 1, 0, none⟩) (by show g ≠ w.heap.size + 1; omega) (.slice (some ⟨g, 0, none⟩) S S)).far (p := ⟨w.heap.size + 1, 1, none⟩) (by show g ≠ w.heap.size + 1; omega) (.int .i64 lp.length)).abides (grownBy_putObj' _ D (.deferred none)) (fun r e => by cases e; exact ⟨_, hK', rfl⟩)
      refine ⟨by simp, .inl ⟨_, _, rfl, run_takeDeferred hK', ?_⟩⟩
      have c0 := hW4.cell_at 0 rfl
      have c1 := hW4.cell_at 1 rfl
      refine ⟨.agg #[.slice (some ⟨g, 0, none⟩) S S, .int .i64 lp.length], ?_, g, ?_, by omega, ?_, ?_⟩
      · simp [results, Tryz.f61, go_sem, c0, c1]
      · rw [HLP.out]; simp
      · rw [← HLP.out]; exact hG4
      · refine (((hb00.trans (hB.mono (by omega))).setCell (p := ⟨w.heap.size + 1, 0, none⟩) (by show w.heap.size ≤ w.heap.size + 1; omega) _).setCell (p := ⟨w.heap.size + 1, 1, none⟩) (by show w.heap.size ≤ w.heap.size + 1; omega) _).trans (belowK_b (w := w) (Nat.le_refl _) _ D _ _ (by omega) hK' rfl rfl)
end Go.Proofs.YtegflmaobmibnaaGreatDoor

namespace Go.Proofs.YtegflmaobmibnaaGreatDoor
set_option maxRecDepth 100000
open Go.RowKit Go.Shelf
set_option linter.unusedVariables false

/-- What calls tell of bits with an error. -/
abbrev noBits : Value := .agg #[.slice none 0 0, .int .i64 0]

set_option maxRecDepth 100000 in
set_option maxHeartbeats 4000000 in
theorem put_bad1 (A : Option Addr) (cap : Nat) (zs : List Int) (N n k : Int) (w : World) (hr : Row w w.heap.size A (u8s zs)) (hb : ∀ z ∈ zs, IsByte z) (hl : zs.length ≤ maxLen)
    (hn1 : N ≤ 9223372036854775807) (hn0 : -9223372036854775808 ≤ N) (hbad : rightB zs N = false) :
    Calls Tryz.prog 24 #[.agg #[.slice A zs.length cap, .int .i64 N], .int .i64 n, .int .i64 k] w fun e w' =>
      e = .returned (.tuple #[noBits, .int .i64 2]) ∧ Below w.heap.size w w' := by
  go_enter Tryz.func24, Tryz.ntmps24
  go_wp2_with fail
  refine wp_scope_fwd (l := 0) rfl ?_
  go_wp2_with fail
  refine (right_any _ _ _ _ _ (by exact hr.on (below2 _ _ _)) hb hl hn1 hn0).mono ?_
  rw [hbad]
  rintro e w' ⟨rfl, hB⟩
  have hRes := (Whole.new_at (w.alloc _) 54 [.slice none 0 0, .int .i64 0] (w.heap.size + 1) (by simp)).below hB (by simp)
  have c0 := hRes.cell_at 0 rfl
  have c1 := hRes.cell_at 1 rfl
  have f0 := hRes.frozen 0
  have f1 := hRes.frozen 1
  go_wp2
  go_step3
  simp only [Exit.then, fwd_goto]
  refine ⟨trivial, ?_⟩
  go_wp2
  rw [Exit.noGoto_ret]
  refine bodyPost_ret (v := .tuple #[noBits, .int .i64 2]) (by simp [results, Tryz.f24, go_sem, c0, c1]) rfl ⟨rfl, ?_⟩
  exact (((below2 _ _ _).trans (hB.mono (by simp; omega))).setCell (p := ⟨w.heap.size + 1, 0, none⟩) (Nat.le_succ _) _).setCell (p := ⟨w.heap.size + 1, 1, none⟩) (Nat.le_succ _) _

theorem behind_digits (A : Option Addr) (cap : Nat) (l : List Bool) (n : Int) (k : Nat) (hl : l.length ≤ 549755813888) (hk : k ≤ 32) (hn : 0 ≤ n) (hn1 : n ≤ 9223372036854775807) (Bk Bn : Nat) (w : World) (hBk : Bk < w.heap.size) (hBn : Bn < w.heap.size)
    (hck : w.cell? ⟨Bk, 0, none⟩ = some (.int .i64 k)) (hcn : w.cell? ⟨Bn, 0, none⟩ = some (.int .i64 n)) (hr : Row w w.heap.size A (u8s (pack (bytesFor l.length) l))) :
    Calls Tryz.prog 61 #[.agg #[.slice A (bytesFor l.length) cap, .int .i64 l.length], .int .i64 (k : Int), .func (.func 102) #[] #[.pointer (some ⟨Bk, 0, none⟩), .pointer (some ⟨Bn, 0, none⟩)]] w fun e w' =>
      ∃ g, e = .returned (.agg #[.slice (some ⟨g, 0, none⟩) (bytesFor (l.length + k)) (bytesFor (l.length + k)), .int .i64 ((l.length : Int) + k)]) ∧ w.heap.size ≤ g ∧ Whole w' g 5 (u8s (pack (bytesFor (l.length + k)) (l ++ first (digit n k) k))) ∧ Below w.heap.size w w' := by
  have h := behind_in A cap l (first (digit n k) k) (by rw [first_length]; omega) 102 #[.pointer (some ⟨Bk, 0, none⟩), .pointer (some ⟨Bn, 0, none⟩)] w hr (enters_of Tryz.func102 (by kernel_rfl) rfl) (fun pre => ∃ j, j ≤ k ∧ pre = first (digit n k) j) (by
    rw [first_length]
    exact digits_stops Fence.wide 3 trivial rfl (by omega) Bk Bn w.heap.size k n hn hn1 hk w hBk hBn (Nat.le_refl _) hck hcn)
  rw [first_length] at h
  exact callsIn_wide.1 h

set_option maxRecDepth 100000 in
set_option maxHeartbeats 4000000 in
theorem put_ok (A : Option Addr) (cap : Nat) (l : List Bool) (n : Int) (k : Nat) (w : World) (hr : Row w w.heap.size A (u8s (pack (bytesFor l.length) l))) (hl : l.length ≤ 549755813888) (hk : k ≤ 32) (hn : 0 ≤ n) (hnk : n < 2 ^ k) (hok : rightB (pack (bytesFor l.length) l) l.length = true) :
    Calls Tryz.prog 24 #[.agg #[.slice A (bytesFor l.length) cap, .int .i64 l.length], .int .i64 n, .int .i64 (k : Int)] w fun e w' =>
      ∃ g, e = .returned (.tuple #[.agg #[.slice (some ⟨g, 0, none⟩) (bytesFor (l.length + k)) (bytesFor (l.length + k)), .int .i64 ((l.length : Int) + k)], .int .i64 0]) ∧ w.heap.size ≤ g ∧
        Whole w' g 5 (u8s (pack (bytesFor (l.length + k)) (l ++ first (digit n k) k))) ∧ Below w.heap.size w w' := by
  have hlen : (pack (bytesFor l.length) l).length = bytesFor l.length := pack_length _ _
  have hfit : fitsB n k = true := by simp [fitsB, wideB, hn, hnk]; omega
  have hp : (2 : Int) ^ k ≤ 4294967296 := by
    have h1 : (2 : Nat) ^ k ≤ 2 ^ 32 := Nat.pow_le_pow_right (by omega) hk
    have h2 : (((2 : Nat) ^ k : Nat) : Int) = (2 : Int) ^ k := by simp
    rw [← h2]; omega
  have hn1 : n ≤ 9223372036854775807 := by omega
  have hRight := fun W hr' => right_any A cap (pack (bytesFor l.length) l) l.length W hr' (pack_byte _ _) (by rw [hlen]; unfold maxLen bytesFor; omega) (by omega) (by omega)
  rw [hlen, hok] at hRight
  have HRight := Lib.hid hRight
  clear hRight
  have HF := Lib.hid hfit
  have HP := Lib.hid hp
  clear hfit hp hok hlen hnk
  go_enter Tryz.func24, Tryz.ntmps24
  go_wp2_with fail
  refine wp_scope_fwd (l := 0) rfl ?_
  go_wp2_with fail
  refine (HRight.out _ (by exact hr.on (below2 _ _ _))).mono ?_
  rintro e w1 ⟨rfl, hB⟩
  have hRes := (Whole.new_at (w.alloc _) 54 [.slice none 0 0, .int .i64 0] (w.heap.size + 1) (by simp)).below hB (by simp)
  have hBox := ((Whole.new w 54 [.slice A (bytesFor l.length) cap, .int .i64 l.length]).alloc _).below hB (by simp; omega)
  have hBw := (below2 _ _ _).trans (hB.mono (by simp; omega))
  have hs1 : w.heap.size + 1 < w1.heap.size := hRes.lt
  clear hB
  go_wp2_with fail
  refine (fits_any _ _ hn1 _).mono ?_
  rw [HF.out]
  rintro e w'' ⟨rfl, rfl⟩
  have x0 := hBox.cell_at 0 rfl
  have x1 := hBox.cell_at 1 rfl
  go_wp2_with fail
  have hb1 : ∀ o o', Below w1.heap.size w1 ((w1.alloc o).alloc o') := fun o o' => below2 w1 o o'
  have hx0a : ∀ o o', ((w1.alloc o).alloc o').cell? ⟨w.heap.size, 0, none⟩ = some (.slice A (bytesFor l.length) cap) := fun o o' => ((hb1 o o').cell (p := ⟨w.heap.size, 0, none⟩) (by show w.heap.size < _; omega)).trans x0
  have hx1a : ∀ o o', ((w1.alloc o).alloc o').cell? ⟨w.heap.size, 1, none⟩ = some (.int .i64 l.length) := fun o o' => ((hb1 o o').cell (p := ⟨w.heap.size, 1, none⟩) (by show w.heap.size < _; omega)).trans x1
  have hRow2 : ∀ o o', Row ((w1.alloc o).alloc o') ((w1.alloc o).alloc o').heap.size A (u8s (pack (bytesFor l.length) l)) := fun o o' => hr.on (hBw.trans ((hb1 o o').mono hBw.size))
  have hc2 := ((Whole.new w1 3 [.int .i64 n]).alloc (.cells #[.int .i64 k] 3)).cell_at 0 rfl
  have hc3 := (Whole.new_at (w1.alloc (.cells #[.int .i64 n] 3)) 3 [.int .i64 k] (w1.heap.size + 1) (by simp)).cell_at 0 rfl
  have HR2 := Lib.hid hRow2
  have HC2 := Lib.hid hc2
  have HC3 := Lib.hid hc3
  have hBb := Lib.hid hb1
  clear hRow2 hc2 hc3 hb1
  go_region_with (first
    | (go_at_call 62; refine (callsIn_wide.1 (digits_in Fence.wide 3 trivial rfl n k _)).mono ?_; rintro e w2 ⟨rfl, rfl⟩)
    | (go_at_call 61; (refine (behind_digits A cap l n k hl hk hn hn1 (w1.heap.size + 1) w1.heap.size _ (by first | (simp; omega) | simp) (by first | (simp; omega) | simp) (by exact HC3.out) (by exact HC2.out) (by exact HR2.out _ _)).mono ?_; rintro e w3 ⟨g, rfl, hg, hW, hB3⟩; have hB4 := (hBb.out _ _).drew.trans (hB3.mono (by first | (simp; omega) | simp)); clear hB3; have hRes3 := hRes.below hB4 hs1; have c0 := hRes3.cell_at 0 rfl; have c1 := hRes3.cell_at 1 rfl; have f0 := hRes3.frozen 0; have f1 := hRes3.frozen 1)))
  all_goals
    go_wp2
    try rw [fwd_ret]
    have hgw : w1.heap.size ≤ g := by first | (simp at hg; omega) | simp at hg
    refine bodyPost_ret (v := .tuple #[.agg #[.slice (some ⟨g, 0, none⟩) (bytesFor (l.length + k)) (bytesFor (l.length + k)), .int .i64 ((l.length : Int) + k)], .int .i64 0]) (by simp [results, Tryz.f24, go_sem, c0, c1]) rfl ⟨g, rfl, by omega, ?_, ?_⟩
    · exact (hW.far (p := ⟨w.heap.size + 1, 0, none⟩) (by show g ≠ w.heap.size + 1; omega) _).far (p := ⟨w.heap.size + 1, 1, none⟩) (by show g ≠ w.heap.size + 1; omega) _
    · exact ((hBw.trans (hB4.mono hBw.size)).setCell (p := ⟨w.heap.size + 1, 0, none⟩) (Nat.le_succ _) _).setCell (p := ⟨w.heap.size + 1, 1, none⟩) (Nat.le_succ _) _
end Go.Proofs.YtegflmaobmibnaaGreatDoor

namespace Go.Proofs.YtegflmaobmibnaaGreatDoor
set_option maxRecDepth 100000
open Go.RowKit Go.Shelf
set_option linter.unusedVariables false

end Go.Proofs.YtegflmaobmibnaaGreatDoor

namespace Go.Proofs.YtegflmaobmibnaaGreatDoor
set_option maxRecDepth 100000
open Go.RowKit Go.Shelf
set_option linter.unusedVariables false

end Go.Proofs.YtegflmaobmibnaaGreatDoor

namespace Go.Proofs.YtegflmaobmibnaaGreatDoor
set_option maxRecDepth 100000
open Go.RowKit Go.Shelf
set_option linter.unusedVariables false

set_option maxRecDepth 100000 in
set_option maxHeartbeats 4000000 in
theorem take_bad (A : Option Addr) (cap : Nat) (zs : List Int) (N a k : Int) (w : World) (hr : Row w w.heap.size A (u8s zs)) (hb : ∀ z ∈ zs, IsByte z) (hl : zs.length ≤ maxLen)
    (hn1 : N ≤ 9223372036854775807) (hn0 : -9223372036854775808 ≤ N) (hbad : (rightB zs N && wideB k && decide (0 ≤ a)) = false) :
    Calls Tryz.prog 111 #[.agg #[.slice A zs.length cap, .int .i64 N], .int .i64 a, .int .i64 k] w fun e w' =>
      e = .returned (.tuple #[.int .i64 0, .int .i64 2]) ∧ Below w.heap.size w w' := by
  cases hok : rightB zs N with
  | false =>
    go_enter Tryz.func111, Tryz.ntmps111
    go_wp2_with fail
    refine wp_scope_fwd (l := 0) rfl ?_
    go_wp2_with fail
    refine (right_any _ _ _ _ _ (by exact hr.on (below2 _ _ _)) hb hl hn1 hn0).mono ?_
    rw [hok]
    rintro e w' ⟨rfl, hB⟩
    go_wp2
    go_step3
    simp only [Exit.then, fwd_goto]
    refine ⟨trivial, ?_⟩
    go_wp2
    rw [Exit.noGoto_ret]
    go_ret2
    exact ⟨rfl, (below2 _ _ _).trans (hB.mono (by simp; omega))⟩
  | true =>
    rw [hok, Bool.true_and] at hbad
    cases hw : wideB k with
    | false =>
      go_enter Tryz.func111, Tryz.ntmps111
      go_wp2_with fail
      refine wp_scope_fwd (l := 0) rfl ?_
      go_wp2_with fail
      refine (right_any _ _ _ _ _ (by exact hr.on (below2 _ _ _)) hb hl hn1 hn0).mono ?_
      rw [hok]
      rintro e w' ⟨rfl, hB⟩
      go_wp2_with fail
      refine (wide_any _ _).mono ?_
      rw [hw]
      rintro e w'' ⟨rfl, rfl⟩
      go_wp2
      go_step3
      simp only [Exit.then, fwd_goto]
      refine ⟨trivial, ?_⟩
      go_wp2
      rw [Exit.noGoto_ret]
      go_ret2
      exact ⟨rfl, (below2 _ _ _).trans (hB.mono (by simp; omega))⟩
    | true =>
      rw [hw, Bool.true_and] at hbad
      have ha : a < 0 := by simpa using hbad
      clear hbad
      go_enter Tryz.func111, Tryz.ntmps111
      go_wp2_with fail
      refine wp_scope_fwd (l := 0) rfl ?_
      go_wp2_with fail
      refine (right_any _ _ _ _ _ (by exact hr.on (below2 _ _ _)) hb hl hn1 hn0).mono ?_
      rw [hok]
      rintro e w' ⟨rfl, hB⟩
      go_wp2_with fail
      refine (wide_any _ _).mono ?_
      rw [hw]
      rintro e w'' ⟨rfl, rfl⟩
      go_wp2
      go_step3
      simp only [Exit.then, fwd_goto]
      refine ⟨trivial, ?_⟩
      go_wp2
      rw [Exit.noGoto_ret]
      go_ret2
      exact ⟨rfl, (below2 _ _ _).trans (hB.mono (by simp; omega))⟩

set_option maxRecDepth 100000 in
set_option maxHeartbeats 4000000 in
theorem take_short (A : Option Addr) (cap : Nat) (zs : List Int) (N a k : Int) (w : World) (hr : Row w w.heap.size A (u8s zs)) (hb : ∀ z ∈ zs, IsByte z) (hl : zs.length ≤ maxLen)
    (hn1 : N ≤ 9223372036854775807) (hn0 : 0 ≤ N) (hok : rightB zs N = true) (hw : wideB k = true) (ha : 0 ≤ a) (hshort : N - k < a) :
    Calls Tryz.prog 111 #[.agg #[.slice A zs.length cap, .int .i64 N], .int .i64 a, .int .i64 k] w fun e w' =>
      e = .returned (.tuple #[.int .i64 0, .int .i64 40]) ∧ Below w.heap.size w w' := by
  have hk : 0 ≤ k ∧ k ≤ 32 := by simpa [wideB] using hw
  obtain ⟨hk0, hk1⟩ := hk
  have HW := Lib.hid hw
  clear hw
  go_enter Tryz.func111, Tryz.ntmps111
  go_wp2_with fail
  refine wp_scope_fwd (l := 0) rfl ?_
  go_wp2_with fail
  refine (right_any _ _ _ _ _ (by exact hr.on (below2 _ _ _)) hb hl hn1 (by omega)).mono ?_
  rw [hok]
  rintro e w' ⟨rfl, hB⟩
  have hbox := ((Whole.new w 54 [.slice A zs.length cap, .int .i64 N]).alloc _).below hB (by first | (simp; omega) | simp)
  have x1 := hbox.cell_at 1 rfl
  go_wp2_with fail
  refine (wide_any _ _).mono ?_
  rw [HW.out]
  rintro e w'' ⟨rfl, rfl⟩
  go_wp2
  go_step3
  simp only [Exit.then, fwd_goto]
  refine ⟨trivial, ?_⟩
  go_wp2
  rw [Exit.noGoto_ret]
  go_ret2
  exact ⟨rfl, (below2 _ _ _).trans (hB.mono (by simp; omega))⟩

/-- The number that these bits are. -/
def numOf (l : List Bool) : Int := l.foldl (fun n b => 2 * n + if b then 1 else 0) 0
theorem numOf_snoc (l : List Bool) (b : Bool) : numOf (l ++ [b]) = 2 * numOf l + if b then 1 else 0 := by simp [numOf]
theorem numFrom_bd (l : List Bool) : ∀ a : Int, a * 2 ^ l.length ≤ l.foldl (fun n b => 2 * n + if b then 1 else 0) a ∧ l.foldl (fun n b => 2 * n + if b then 1 else 0) a < (a + 1) * 2 ^ l.length := by
  induction l with
  | nil => intro a; simp; omega
  | cons b l ih =>
    intro a
    have hp : (0 : Int) < 2 ^ l.length := Int.pow_pos (by omega)
    rw [List.foldl_cons, List.length_cons, Int.pow_succ]
    obtain ⟨h0, h1⟩ := ih (2 * a + if b then 1 else 0)
    have e0 : a * (2 ^ l.length * 2) = (2 * a) * 2 ^ l.length := by rw [Int.mul_comm (2 ^ l.length) 2, ← Int.mul_assoc, Int.mul_comm a 2]
    have e1 : (a + 1) * (2 ^ l.length * 2) = (2 * a + 2) * 2 ^ l.length := by rw [Int.mul_comm (2 ^ l.length) 2, ← Int.mul_assoc]; congr 1; omega
    rw [e0, e1]
    have m1 : (2 * a) * 2 ^ l.length ≤ (2 * a + if b then 1 else 0) * 2 ^ l.length := Int.mul_le_mul_of_nonneg_right (by split <;> omega) (Int.le_of_lt hp)
    have m2 : ((2 * a + if b then 1 else 0) + 1) * 2 ^ l.length ≤ (2 * a + 2) * 2 ^ l.length := Int.mul_le_mul_of_nonneg_right (by split <;> omega) (Int.le_of_lt hp)
    exact ⟨Int.le_trans m1 h0, Int.lt_of_lt_of_le h1 m2⟩
theorem numOf_bd (l : List Bool) : 0 ≤ numOf l ∧ numOf l < 2 ^ l.length := by
  have h := numFrom_bd l 0
  simpa [numOf] using h

/-- The bit i as a number. -/
def bitI (zs : List Int) (i : Nat) : Int := zs[i / 8]?.getD 0 / 2 ^ (7 - i % 8) % 2
theorem bitI_eq (zs : List Int) (i : Nat) : bitI zs i = if bitZ zs i then 1 else 0 := by
  unfold bitI bitZ
  have h0 := Int.emod_nonneg (zs[i / 8]?.getD 0 / 2 ^ (7 - i % 8)) (show (2 : Int) ≠ 0 by omega)
  have h1 := Int.emod_lt_of_pos (zs[i / 8]?.getD 0 / 2 ^ (7 - i % 8)) (show (0 : Int) < 2 by omega)
  split
  · rename_i h; exact beq_iff_eq.1 h
  · rename_i h; rw [beq_iff_eq] at h; omega

set_option maxHeartbeats 1000000 in
theorem bitR_any (A : Option Addr) (cap : Nat) (zs : List Int) (N : Int) (i : Nat) (w : World) (hr : Row w w.heap.size A (u8s zs)) (hb : ∀ z ∈ zs, IsByte z) (hl : zs.length ≤ 1099511627776) (hi : i < 8 * zs.length) :
    Calls Tryz.prog 128 #[.agg #[.slice A zs.length cap, .int .i64 N], .int .i64 (i : Int)] w fun e w' =>
      e = .returned (.int .i64 (bitI zs i)) ∧ Below w.heap.size w w' := by
  obtain ⟨b, off, rfl, hbl, hc⟩ := hr.byte (k := i / 8) (by omega)
  have hbz : IsByte (zs[i / 8]?.getD 0) := hb _ (by rw [List.getElem?_eq_getElem (by omega)]; exact List.getElem_mem _)
  obtain ⟨hz0, hz1⟩ := hbz
  have hc1 : ∀ o, (w.alloc o).cell? ⟨b, off + i / 8, none⟩ = some (.int .u8 (zs[i / 8]?.getD 0)) := fun o => ((below1 w o).cell (p := ⟨b, off + i / 8, none⟩) hbl).trans hc
  have hq : (i : Int) / 8 < zs.length := by omega
  have hand : bits BinOp.and IntKind.i64 (zs[i / 8]?.getD 0 / 2 ^ (7 - i % 8)) 1 = zs[i / 8]?.getD 0 / 2 ^ (7 - i % 8) % 2 :=
    low_bit_i64 _ (Int.ediv_nonneg hz0 (Int.le_of_lt (Int.pow_pos (by omega)))) (Int.le_trans (Int.ediv_le_self _ hz0) (by omega))
  go_enter Tryz.func128, Tryz.ntmps128
  go_wp2
  go_ret
  exact ⟨rfl, below1 _ _⟩
end Go.Proofs.YtegflmaobmibnaaGreatDoor

namespace Go.Proofs.YtegflmaobmibnaaGreatDoor
set_option maxRecDepth 100000
open Go.RowKit Go.Shelf
set_option linter.unusedVariables false

set_option maxHeartbeats 1000000 in
theorem ownBits_any (A : Option Addr) (cap : Nat) (zs : List Int) (N : Int) (w : World) (hr : Row w w.heap.size A (u8s zs)) (hl : zs.length ≤ 1099511627776) :
    Calls Tryz.prog 126 #[.agg #[.slice A zs.length cap, .int .i64 N]] w fun e w' =>
      ∃ g, e = .returned (.agg #[.slice (some ⟨g, 0, none⟩) zs.length zs.length, .int .i64 N]) ∧ w.heap.size ≤ g ∧ Whole w' g 5 (u8s zs) ∧ Below w.heap.size w w' := by
  have hmk := make_u8 zs.length (by omega)
  go_enter Tryz.func126, Tryz.ntmps126
  go_wp2_with fail
  obtain ⟨W, hW, hsz, hbel, hbox, hres, hnew⟩ : ∃ W, (((w.alloc (.cells #[.slice A zs.length cap, .int .i64 N] 54)).alloc (.cells #[.slice none 0 0, .int .i64 0] 54)).alloc (.cells (Array.replicate zs.length (.int .u8 0)) 5)) = W ∧ W.heap.size = w.heap.size + 1 + 1 + 1 ∧ Below w.heap.size w W ∧
      Whole W w.heap.size 54 [.slice A zs.length cap, .int .i64 N] ∧ Whole W (w.heap.size + 1) 54 [.slice none 0 0, .int .i64 0] ∧ Whole W (w.heap.size + 1 + 1) 5 (List.replicate zs.length (.int .u8 0)) := by
    refine ⟨_, rfl, by simp, below3 _ _ _ _, ((Whole.new w _ [_, _]).alloc _).alloc _, (Whole.new_at _ _ [_, _] _ (by simp)).alloc _, ?_⟩
    rw [← List.toArray_replicate]
    exact Whole.new_at _ _ _ _ (by simp)
  rw [hW]
  clear hW
  obtain ⟨w2, hcopy, hW2, hG2⟩ := copy_run (P := Tryz.prog) 30 30 5 Tryz.underlying30 (by kernel_rfl) (w.heap.size + 1 + 1) _ _ A cap w.heap.size zs.length zs.length W hnew (by simp) (hr.below hbel) (by rw [u8s_length]; exact Nat.le_refl _) (u8s_one _)
  rw [u8s_length] at hcopy hW2
  have hbox2 := hbox.kept hG2 (by intro e; injection e with e; omega)
  have hres2 := hres.kept hG2 (by intro e; injection e with e; omega)
  have x1 := hbox2.cell_at 1 rfl
  have c0 := hres2.cell_at 0 rfl
  have c1 := hres2.cell_at 1 rfl
  have f0 := hres2.frozen 0
  have f1 := hres2.frozen 1
  simp only [hcopy, Result.andThen_ok]
  go_wp2
  refine bodyPost_ret (v := .agg #[.slice (some ⟨w.heap.size + 1 + 1, 0, none⟩) zs.length zs.length, .int .i64 N]) (by simp [results, Tryz.f126, go_sem, c0, c1]) rfl ⟨_, rfl, by omega, ?_, ?_⟩
  · rw [List.drop_eq_nil_of_le (by simp), List.append_nil] at hW2
    exact (hW2.far (p := ⟨w.heap.size + 1, 0, none⟩) (by show w.heap.size + 1 + 1 ≠ w.heap.size + 1; omega) _).far (p := ⟨w.heap.size + 1, 1, none⟩) (by show w.heap.size + 1 + 1 ≠ w.heap.size + 1; omega) _
  · exact ((hbel.grown hG2 (by omega) (fun k e => by cases e; omega)).setCell (p := ⟨w.heap.size + 1, 0, none⟩) (Nat.le_succ _) _).setCell (p := ⟨w.heap.size + 1, 1, none⟩) (Nat.le_succ _) _

set_option maxHeartbeats 1000000 in
theorem ownBitsR_any (A : Option Addr) (cap : Nat) (zs : List Int) (N : Int) (w : World) (hr : Row w w.heap.size A (u8s zs)) (hl : zs.length ≤ 1099511627776) :
    Calls Tryz.prog 74 #[.agg #[.slice A zs.length cap, .int .i64 N]] w fun e w' =>
      ∃ g c, e = .returned (.agg #[.slice (some ⟨g, 0, none⟩) zs.length c, .int .i64 N]) ∧ w'.ownsRow w.heap.size 5 1 (.slice (some ⟨g, 0, none⟩) zs.length c) zs.length (u8s zs) ∧ Below w.heap.size w w' := by
  go_enter Tryz.func74, Tryz.ntmps74
  go_wp2_with fail
  obtain ⟨W, hW, hsz, hbel, hbox, hres, hnew⟩ : ∃ W, (((w.alloc (.cells #[.slice A zs.length cap, .int .i64 N] 54)).alloc (.cells #[.slice none 0 0, .int .i64 0] 54)).alloc (.cells #[] 5)).drew = W ∧ W.heap.size = w.heap.size + 1 + 1 + 1 ∧ Below w.heap.size w W ∧
      Whole W w.heap.size 54 [.slice A zs.length cap, .int .i64 N] ∧ Whole W (w.heap.size + 1) 54 [.slice none 0 0, .int .i64 0] ∧ W.ownsRow w.heap.size 5 1 (.slice (some ⟨w.heap.size + 1 + 1, 0, none⟩) 0 0) 0 [] :=
    ⟨_, rfl, by simp, (below3 _ _ _ _).drew, ((Whole.new w _ [_, _]).alloc _).alloc _, (Whole.new_at _ _ [_, _] _ (by simp)).alloc _,
      ⟨rfl, .inr ⟨_, 0, #[], rfl, by omega, Whole.new_at _ _ [] _ (by simp), Nat.le_refl _, Nat.zero_le _, rfl, rfl⟩⟩⟩
  obtain ⟨g', c', w2, happ, hown, hG2, hg'⟩ := append_run (P := Tryz.prog) 30 30 5 (.int .u8 0) 1 Tryz.underlying30 info_u8 rfl w.heap.size _ 0 0 [] (u8s zs) W hnew w.heap.size cap A (hr.below hbel) (u8s_one _) (by rw [u8s_length]; unfold maxLen; omega) (by rw [u8s_length]; omega) (by omega)
  rw [u8s_length, Nat.zero_add] at happ hown
  rw [List.nil_append] at hown
  rw [← hW] at happ
  clear hW
  have hbox2 := hbox.kept hG2 (by intro e; injection e with e; omega)
  have hres2 := hres.kept hG2 (by intro e; injection e with e; omega)
  have x1 := hbox2.cell_at 1 rfl
  have c0 := hres2.cell_at 0 rfl
  have c1 := hres2.cell_at 1 rfl
  have f0 := hres2.frozen 0
  have f1 := hres2.frozen 1
  have hgn : w.heap.size + 1 + 1 ≤ g' := by rcases hg' with h | h <;> omega
  go_region_law (refine step_append rfl (.tmp 3) (.tmp 5) 30 rfl happ ?_)
  all_goals
    go_wp2
    refine bodyPost_ret (v := .agg #[.slice (some ⟨g', 0, none⟩) zs.length c', .int .i64 N]) (by simp [results, Tryz.f74, go_sem, c0, c1]) rfl ⟨g', c', rfl, ?_, ?_⟩
    · exact owns_far (owns_far hown (p := ⟨w.heap.size + 1, 0, none⟩) (by show g' ≠ w.heap.size + 1; omega) _) (p := ⟨w.heap.size + 1, 1, none⟩) (by show g' ≠ w.heap.size + 1; omega) _
    · exact ((hbel.grown hG2 (by omega) (fun k e => by cases e; omega)).setCell (p := ⟨w.heap.size + 1, 0, none⟩) (Nat.le_succ _) _).setCell (p := ⟨w.heap.size + 1, 1, none⟩) (Nat.le_succ _) _

set_option maxHeartbeats 1000000 in
theorem of_any (A : Option Addr) (cap : Nat) (zs : List Int) (w : World) (hr : Row w w.heap.size A (u8s zs)) (hl : zs.length ≤ 1099511627776) :
    Calls Tryz.prog 109 #[.slice A zs.length cap] w fun e w' =>
      ∃ g, e = .returned (.agg #[.slice (some ⟨g, 0, none⟩) zs.length zs.length, .int .i64 (8 * (zs.length : Int))]) ∧ w.heap.size ≤ g ∧ Whole w' g 5 (u8s zs) ∧ Below w.heap.size w w' := by
  go_enter Tryz.func109, Tryz.ntmps109
  go_wp2_with fail
  refine (ownBits_any A cap zs (8 * (zs.length : Int)) _ (by exact hr.on (below1 _ _)) hl).mono ?_
  rintro e w1 ⟨g, rfl, hg, hW, hB⟩
  have hres := (Whole.new w 54 [.slice none 0 0, .int .i64 0]).below hB (by simp)
  have c0 := hres.cell_at 0 rfl
  have c1 := hres.cell_at 1 rfl
  have f0 := hres.frozen 0
  have f1 := hres.frozen 1
  simp only [World.size_alloc] at hg
  go_wp2
  refine bodyPost_ret (v := .agg #[.slice (some ⟨g, 0, none⟩) zs.length zs.length, .int .i64 (8 * (zs.length : Int))]) (by simp [results, Tryz.f109, go_sem, c0, c1]) rfl ⟨g, rfl, by omega, ?_, ?_⟩
  · exact (hW.far (p := ⟨w.heap.size, 0, none⟩) (by show g ≠ w.heap.size; omega) _).far (p := ⟨w.heap.size, 1, none⟩) (by show g ≠ w.heap.size; omega) _
  · exact (((below1 w _).trans (hB.mono (by simp))).setCell (p := ⟨w.heap.size, 0, none⟩) (Nat.le_refl _) _).setCell (p := ⟨w.heap.size, 1, none⟩) (Nat.le_refl _) _

set_option maxHeartbeats 1000000 in
theorem ofR_any (A : Option Addr) (cap : Nat) (zs : List Int) (w : World) (hr : Row w w.heap.size A (u8s zs)) (hl : zs.length ≤ 1099511627776) :
    Calls Tryz.prog 33 #[.slice A zs.length cap] w fun e w' =>
      ∃ g c, e = .returned (.agg #[.slice (some ⟨g, 0, none⟩) zs.length c, .int .i64 (8 * (zs.length : Int))]) ∧ w'.ownsRow w.heap.size 5 1 (.slice (some ⟨g, 0, none⟩) zs.length c) zs.length (u8s zs) ∧ Below w.heap.size w w' := by
  obtain ⟨W, hW, hsz, hbel, hres, hnew⟩ : ∃ W, ((w.alloc (.cells #[.slice none 0 0, .int .i64 0] 54)).alloc (.cells #[] 5)) = W ∧ W.heap.size = w.heap.size + 1 + 1 ∧ Below w.heap.size w W ∧
      Whole W w.heap.size 54 [.slice none 0 0, .int .i64 0] ∧ W.ownsRow w.heap.size 5 1 (.slice (some ⟨w.heap.size + 1, 0, none⟩) 0 0) 0 [] :=
    ⟨_, rfl, by simp, below2 _ _ _, (Whole.new w _ [_, _]).alloc _,
      ⟨rfl, .inr ⟨_, 0, #[], rfl, by omega, Whole.new_at _ _ [] _ (by simp), Nat.le_refl _, Nat.zero_le _, rfl, rfl⟩⟩⟩
  obtain ⟨g', c', w2, happ, hown, hG2, hg'⟩ := append_run (P := Tryz.prog) 30 30 5 (.int .u8 0) 1 Tryz.underlying30 info_u8 rfl w.heap.size _ 0 0 [] (u8s zs) W hnew w.heap.size cap A (hr.below hbel) (u8s_one _) (by rw [u8s_length]; unfold maxLen; omega) (by rw [u8s_length]; omega) (by omega)
  rw [u8s_length, Nat.zero_add] at happ hown
  rw [List.nil_append] at hown
  rw [← hW] at happ
  clear hW
  have hres2 := hres.kept hG2 (by intro e; injection e with e; omega)
  have c0 := hres2.cell_at 0 rfl
  have c1 := hres2.cell_at 1 rfl
  have f0 := hres2.frozen 0
  have f1 := hres2.frozen 1
  have hgn : w.heap.size + 1 ≤ g' := by rcases hg' with h | h <;> omega
  go_enter Tryz.func33, Tryz.ntmps33
  go_wp2_with (at_builtin; refine list_append rfl (.tmp 3) (.tmp 4) 30 rfl happ ?_)
  refine bodyPost_ret (v := .agg #[.slice (some ⟨g', 0, none⟩) zs.length c', .int .i64 (8 * (zs.length : Int))]) (by simp [results, Tryz.f33, go_sem, c0, c1]) rfl ⟨g', c', rfl, ?_, ?_⟩
  · exact owns_far (owns_far hown (p := ⟨w.heap.size, 0, none⟩) (by show g' ≠ w.heap.size; omega) _) (p := ⟨w.heap.size, 1, none⟩) (by show g' ≠ w.heap.size; omega) _
  · exact ((hbel.grown hG2 (by omega) (fun k e => by cases e; omega)).setCell (p := ⟨w.heap.size, 0, none⟩) (Nat.le_refl _) _).setCell (p := ⟨w.heap.size, 1, none⟩) (Nat.le_refl _) _
end Go.Proofs.YtegflmaobmibnaaGreatDoor

namespace Go.Proofs.YtegflmaobmibnaaGreatDoor
set_option maxRecDepth 100000
open Go.RowKit Go.Shelf
set_option linter.unusedVariables false

/-- A region that draws its order, all but its last operations only reading: the world behind the draw under its name. -/
theorem region_plain {P : Program} (id : Nat) {Q : Exit → Act → World → Prop} {a : Act} {w : World} {L : List Oper} (n : Nat) (hm : P.follows .mixedOrders = true) (hB : Region.lexTailB .any L.toArray n = true)
    (h : wpStill P L.toArray w.drew (fun a' => wpList P L.toArray Q (L.drop n) a' w.drew) (L.take n) a) : (Code.region id L.toArray true).wp P Q a w := wp_region_still_tail n hm hB h

/-- v are bits of the call's own, which tell l. -/
def OwnBits (w : World) (base : Nat) (v : Value) (l : List Bool) : Prop :=
  ∃ g cap, v = .agg #[.slice (some ⟨g, 0, none⟩) (bytesFor l.length) cap, .int .i64 l.length] ∧ w.ownsRow base 5 1 (.slice (some ⟨g, 0, none⟩) (bytesFor l.length) cap) (bytesFor l.length) (u8s (pack (bytesFor l.length) l))

set_option maxRecDepth 100000 in
set_option maxHeartbeats 4000000 in
theorem with_room (base g cap : Nat) (l : List Bool) (b : Bool) (w : World) (hl : l.length ≤ 549755813888) (h8 : l.length % 8 ≠ 0) (hown : w.ownsRow base 5 1 (.slice (some ⟨g, 0, none⟩) (bytesFor l.length) cap) (bytesFor l.length) (u8s (pack (bytesFor l.length) l))) (hbase : base ≤ w.heap.size) :
    Calls Tryz.prog 75 #[.agg #[.slice (some ⟨g, 0, none⟩) (bytesFor l.length) cap, .int .i64 l.length], .bool b] w fun e w' =>
      ∃ v, e = .returned v ∧ OwnBits w' base v (l ++ [b]) ∧ Below base w w' := by
  have hb : bytesFor (l ++ [b]).length = bytesFor l.length := by rw [List.length_append, List.length_singleton]; unfold bytesFor; omega
  have hq : l.length / 8 < bytesFor l.length := by unfold bytesFor; omega
  have hm : ((l.length : Int) % 8 == 0) = false := by simp; omega
  obtain ⟨hgb, hglt⟩ := owns_lt hown
  have hqi : (l.length : Int) / 8 < (bytesFor l.length : Int) := by omega
  go_enter Tryz.func75, Tryz.ntmps75
  cases b with
  | false =>
    go_wp2_with fail
    refine bodyPost_ret (v := .agg #[.slice (some ⟨g, 0, none⟩) (bytesFor l.length) cap, .int .i64 ((l.length : Int) + 1)]) (by simp [results, Tryz.f75, go_sem]) rfl ⟨_, rfl, ⟨g, cap, ?_, ?_⟩, ?_⟩
    · rw [hb]; simp
    · rw [hb, pack_false]; exact owns_below hown (below2 _ _ _) hglt
    · exact ((Below.refl base w).alloc hbase _).alloc (by simp; omega) _
  | true =>
    have hcell : ∀ o o', ((w.alloc o).alloc o').cell? ⟨g, l.length / 8, none⟩ = some (.int .u8 (byteOf l (l.length / 8))) := fun o o' =>
      ((below2 w o o').cell (p := ⟨g, l.length / 8, none⟩) hglt).trans ((hown.cellAt _ (by omega)).trans (by simp [u8s, pack, first, hq]))
    have hfro : ∀ o o', ((w.alloc o).alloc o').frozen? ⟨g, l.length / 8, none⟩ = false := fun o o' =>
      ((below2 w o o').frozen (p := ⟨g, l.length / 8, none⟩) hglt).trans (hown.frozenAt _)
    have hq0 : (0 : Int) ≤ (l.length : Int) / 8 := by omega
    go_wp2_with fail
    have hd : IntKind.i64.wrap ((l.length : Int) / 8) = (l.length : Int) / 8 := IntWalk.i64_in _ (by omega)
    have hmw : IntKind.i64.wrap ((l.length : Int) % 8) = (l.length : Int) % 8 := IntWalk.i64_in _ (by omega)
    have htm : (l.length : Int).tmod 8 = (l.length : Int) % 8 := Int.tmod_eq_emod_of_nonneg (by omega)
    have hm0 : (0 : Int) ≤ (l.length : Int) % 8 := by omega
    have hqn : ((l.length : Int) / 8).toNat = l.length / 8 := by omega
    have hsh : (128 : Int) / 2 ^ min (IntKind.u64.wrap ((l.length : Int) % 8)).toNat 8 = 128 / 2 ^ (l.length % 8) := by
      have e : (IntKind.u64.wrap ((l.length : Int) % 8)).toNat = l.length % 8 := by
        have : IntKind.u64.wrap ((l.length : Int) % 8) = (l.length : Int) % 8 := by simp [IntKind.wrap, IntKind.bits, IntKind.signed]; omega
        rw [this]; omega
      rw [e, Nat.min_eq_left (by omega)]
    refine region_plain _ 19 (by kernel_rfl) (by kernel_rfl) ?_
    simp only [List.take_succ_cons, List.take_zero, List.drop_succ_cons, List.drop_zero]
    repeat still_step
    refine wpStill_nil ?_
    go_wp2_with fail
    refine bodyPost_ret (v := .agg #[.slice (some ⟨g, 0, none⟩) (bytesFor l.length) cap, .int .i64 ((l.length : Int) + 1)]) (by simp [results, Tryz.f75, go_sem]) rfl ⟨_, rfl, ⟨g, cap, ?_, ?_⟩, ?_⟩
    · rw [hb]; simp
    · rw [hb, pack_true, show u8s ((pack (bytesFor l.length) l).set (l.length / 8) _) = (u8s (pack (bytesFor l.length) l)).set (l.length / 8) (.int .u8 _) from List.map_set ..]
      exact (((hown.stored (l.length / 8) _).1.alloc _).alloc _)
    · exact ((((Below.refl base w).setCell (p := ⟨g, l.length / 8, none⟩) hgb _).alloc (by simpa [World.setCell] using hbase) _).alloc (by simp [World.setCell]; omega) _).drew

set_option maxRecDepth 100000 in
set_option maxHeartbeats 4000000 in
theorem with_more (base g cap : Nat) (l : List Bool) (b : Bool) (w : World) (hl : l.length ≤ 549755813888) (h8 : l.length % 8 = 0) (hown : w.ownsRow base 5 1 (.slice (some ⟨g, 0, none⟩) (bytesFor l.length) cap) (bytesFor l.length) (u8s (pack (bytesFor l.length) l))) (hbase : base ≤ w.heap.size) :
    Calls Tryz.prog 75 #[.agg #[.slice (some ⟨g, 0, none⟩) (bytesFor l.length) cap, .int .i64 l.length], .bool b] w fun e w' =>
      ∃ v, e = .returned v ∧ OwnBits w' base v (l ++ [b]) ∧ Below base w w' := by
  have hb : bytesFor (l ++ [b]).length = bytesFor l.length + 1 := by rw [List.length_append, List.length_singleton]; unfold bytesFor; omega
  have hk : bytesFor l.length = l.length / 8 := by unfold bytesFor; omega
  have hm : ((l.length : Int) % 8 == 0) = true := by simp; omega
  obtain ⟨hgb, hglt⟩ := owns_lt hown
  obtain ⟨W, hW, hsz, hbel, hbox, hres, hone⟩ : ∃ W, (((w.alloc (.cells #[.slice (some ⟨g, 0, none⟩) (bytesFor l.length) cap, .int .i64 l.length] 54)).alloc (.cells #[.slice none 0 0, .int .i64 0] 54)).alloc (.cells #[.int .u8 0] 5)) = W ∧ W.heap.size = w.heap.size + 1 + 1 + 1 ∧ Below w.heap.size w W ∧
      Whole W w.heap.size 54 [.slice (some ⟨g, 0, none⟩) (bytesFor l.length) cap, .int .i64 l.length] ∧ Whole W (w.heap.size + 1) 54 [.slice none 0 0, .int .i64 0] ∧ Whole W (w.heap.size + 1 + 1) 5 [.int .u8 0] :=
    ⟨_, rfl, by simp, below3 _ _ _ _, ((Whole.new w _ [_, _]).alloc _).alloc _, (Whole.new_at _ _ [_, _] _ (by simp)).alloc _, Whole.new_at _ _ [_] _ (by simp)⟩
  obtain ⟨g', c', w2, happ, hown2, hG2, hg'⟩ := append_run (P := Tryz.prog) 30 30 5 (.int .u8 0) 1 Tryz.underlying30 info_u8 rfl base g (bytesFor l.length) cap _ [.int .u8 0] W (owns_below hown hbel hglt) (W.heap.size + 1) 1 (some ⟨w.heap.size + 1 + 1, 0, none⟩) (hone.row (by omega)) (by simp [Value.oneCell']) (by simp [maxLen, bytesFor]; omega) (by simp [bytesFor]; omega) (by omega)
  rw [← hW] at happ
  clear hW
  have hpk : u8s (pack (bytesFor l.length) l) ++ [.int .u8 0] = u8s (pack (bytesFor l.length + 1) l) := by
    rw [pack_more _ 1 l (by omega)]; simp [u8s]
  rw [hpk, List.length_singleton] at hown2
  rw [List.length_singleton] at happ
  have hbox2 := hbox.kept hG2 (by intro e; injection e with e; omega)
  have hres2 := hres.kept hG2 (by intro e; injection e with e; omega)
  have hgb' : base ≤ g' ∧ g' < w2.heap.size := owns_lt hown2
  have hgx : g' ≠ w.heap.size := by rcases hg' with h | h <;> omega
  have hgx1 : g' ≠ w.heap.size + 1 := by rcases hg' with h | h <;> omega
  have hB2 : Below base w w2 := (hbel.mono (by omega)).grown hG2 (by omega) (fun k e => by cases e; exact hgb)
  have y0 := hbox2.cell_at 0 rfl
  have y1 := hbox2.cell_at 1 rfl
  have z0 := hres2.cell_at 0 rfl
  have z1 := hres2.cell_at 1 rfl
  have fy0 := hbox2.frozen 0
  have fy1 := hbox2.frozen 1
  have fz0 := hres2.frozen 0
  have fz1 := hres2.frozen 1
  have hqi : (l.length : Int) / 8 < (bytesFor l.length : Int) + 1 := by omega
  have hq0 : (0 : Int) ≤ (l.length : Int) / 8 := by omega
  have HK := Lib.hid hk
  clear hk hpk h8
  go_enter Tryz.func75, Tryz.ntmps75
  cases b with
  | false =>
    go_wp2_with (at_builtin; refine list_append rfl (.tmp 10) (.tmp 11) 30 rfl happ ?_)
    refine bodyPost_ret (v := .agg #[.slice (some ⟨g', 0, none⟩) (bytesFor l.length + 1) c', .int .i64 ((l.length : Int) + 1)]) (by simp [results, Tryz.f75, go_sem, z0, z1]) rfl ⟨_, rfl, ⟨g', c', ?_, ?_⟩, ?_⟩
    · rw [hb]; simp
    · rw [hb, pack_false]
      exact owns_far (owns_far (owns_far (owns_far hown2 (p := ⟨w.heap.size, 0, none⟩) hgx _) (p := ⟨w.heap.size, 1, none⟩) hgx _) (p := ⟨w.heap.size + 1, 0, none⟩) hgx1 _) (p := ⟨w.heap.size + 1, 1, none⟩) hgx1 _
    · exact (((hB2.setCell (p := ⟨w.heap.size, 0, none⟩) hbase _).setCell (p := ⟨w.heap.size, 1, none⟩) hbase _).setCell (p := ⟨w.heap.size + 1, 0, none⟩) (Nat.le_succ_of_le hbase) _).setCell (p := ⟨w.heap.size + 1, 1, none⟩) (Nat.le_succ_of_le hbase) _
  | true =>
    have hcell : w2.cell? ⟨g', l.length / 8, none⟩ = some (.int .u8 (byteOf l (l.length / 8))) := (hown2.cellAt _ (by rw [HK.out]; omega)).trans (by simp [u8s, pack, first, HK.out])
    have hfro : w2.frozen? ⟨g', l.length / 8, none⟩ = false := hown2.frozenAt _
    have hgx' : w.heap.size ≠ g' := fun e => hgx e.symm
    have hgx1' : w.heap.size + 1 ≠ g' := fun e => hgx1 e.symm
    go_wp2_with (at_builtin; refine list_append rfl (.tmp 10) (.tmp 11) 30 rfl happ ?_)
    have hd : IntKind.i64.wrap ((l.length : Int) / 8) = (l.length : Int) / 8 := IntWalk.i64_in _ (by omega)
    have hmw : IntKind.i64.wrap ((l.length : Int) % 8) = (l.length : Int) % 8 := IntWalk.i64_in _ (by omega)
    have htm : (l.length : Int).tmod 8 = (l.length : Int) % 8 := Int.tmod_eq_emod_of_nonneg (by omega)
    have hm0 : (0 : Int) ≤ (l.length : Int) % 8 := by omega
    have hqn : ((l.length : Int) / 8).toNat = l.length / 8 := by omega
    have hsh : (128 : Int) / 2 ^ min (IntKind.u64.wrap ((l.length : Int) % 8)).toNat 8 = 128 / 2 ^ (l.length % 8) := by
      have e : (IntKind.u64.wrap ((l.length : Int) % 8)).toNat = l.length % 8 := by
        have : IntKind.u64.wrap ((l.length : Int) % 8) = (l.length : Int) % 8 := by simp [IntKind.wrap, IntKind.bits, IntKind.signed]; omega
        rw [this]; omega
      rw [e, Nat.min_eq_left (by omega)]
    refine region_plain _ 19 (by kernel_rfl) (by kernel_rfl) ?_
    simp only [List.take_succ_cons, List.take_zero, List.drop_succ_cons, List.drop_zero]
    repeat still_step
    refine wpStill_nil ?_
    go_wp2_with fail
    refine bodyPost_ret (v := .agg #[.slice (some ⟨g', 0, none⟩) (bytesFor l.length + 1) c', .int .i64 ((l.length : Int) + 1)]) (by simp [results, Tryz.f75, go_sem, z0, z1]) rfl ⟨_, rfl, ⟨g', c', ?_, ?_⟩, ?_⟩
    · rw [hb]; simp
    · rw [hb, pack_true, show u8s ((pack (bytesFor l.length + 1) l).set (l.length / 8) _) = (u8s (pack (bytesFor l.length + 1) l)).set (l.length / 8) (.int .u8 _) from List.map_set ..]
      exact owns_far (owns_far (owns_far ((owns_far hown2 (p := ⟨w.heap.size, 0, none⟩) hgx _).stored (l.length / 8) _).1 (p := ⟨w.heap.size, 1, none⟩) hgx _) (p := ⟨w.heap.size + 1, 0, none⟩) hgx1 _) (p := ⟨w.heap.size + 1, 1, none⟩) hgx1 _
    · exact (((((hB2.setCell (p := ⟨w.heap.size, 0, none⟩) hbase _).setCell (p := ⟨g', l.length / 8, none⟩) hgb'.1 _).setCell (p := ⟨w.heap.size, 1, none⟩) hbase _).setCell (p := ⟨w.heap.size + 1, 0, none⟩) (Nat.le_succ_of_le hbase) _).setCell (p := ⟨w.heap.size + 1, 1, none⟩) (Nat.le_succ_of_le hbase) _).drew

theorem with_any (base : Nat) (v : Value) (l : List Bool) (b : Bool) (w : World) (hl : l.length ≤ 549755813888) (h : OwnBits w base v l) (hbase : base ≤ w.heap.size) :
    Calls Tryz.prog 75 #[v, .bool b] w fun e w' => ∃ v', e = .returned v' ∧ OwnBits w' base v' (l ++ [b]) ∧ Below base w w' := by
  obtain ⟨g, cap, rfl, hown⟩ := h
  by_cases h8 : l.length % 8 = 0
  · exact with_more base g cap l b w hl h8 hown hbase
  · exact with_room base g cap l b w hl h8 hown hbase
end Go.Proofs.YtegflmaobmibnaaGreatDoor

namespace Go.Proofs.YtegflmaobmibnaaGreatDoor
set_option maxRecDepth 100000
open Go.RowKit Go.Shelf
set_option linter.unusedVariables false

end Go.Proofs.YtegflmaobmibnaaGreatDoor

namespace Go.Proofs.YtegflmaobmibnaaGreatDoor
set_option maxRecDepth 100000
open Go.RowKit Go.Shelf
set_option linter.unusedVariables false

set_option maxRecDepth 100000 in
set_option maxHeartbeats 4000000 in
theorem putR_ok (A : Option Addr) (cap : Nat) (l : List Bool) (n : Int) (k : Nat) (w : World) (hr : Row w w.heap.size A (u8s (pack (bytesFor l.length) l))) (hl : l.length ≤ 274877906944) (hk : k ≤ 32) (hn : 0 ≤ n) (hnk : n < 2 ^ k) (hok : rightB (pack (bytesFor l.length) l) l.length = true) :
    Calls Tryz.prog 70 #[.agg #[.slice A (bytesFor l.length) cap, .int .i64 l.length], .int .i64 n, .int .i64 (k : Int)] w fun e w' =>
      ∃ v, e = .returned (.tuple #[v, .int .i64 0]) ∧ OwnBits w' w.heap.size v (l ++ first (digit n k) k) ∧ Below w.heap.size w w' := by
  have hlen : (pack (bytesFor l.length) l).length = bytesFor l.length := pack_length _ _
  have hp : (2 : Int) ^ k ≤ 4294967296 := by
    have h1 : (2 : Nat) ^ k ≤ 2 ^ 32 := Nat.pow_le_pow_right (by omega) hk
    have h2 : (((2 : Nat) ^ k : Nat) : Int) = (2 : Int) ^ k := by simp
    rw [← h2]; omega
  have hpw : wrap64 (2 ^ k) = 2 ^ k := pow_wrap _ (by omega)
  have hn1 : n ≤ 9223372036854775807 := by omega
  have hRight := fun W hr' => rightR_any A cap (pack (bytesFor l.length) l) l.length W hr' (pack_byte _ _) (by rw [hlen]; unfold maxLen bytesFor; omega) (by omega) (by omega)
  have hOwn := fun W hr' => ownBitsR_any A cap (pack (bytesFor l.length) l) l.length W hr' (by rw [hlen]; unfold bytesFor; omega)
  rw [hlen, hok] at hRight
  rw [hlen] at hOwn
  have HRight := Lib.hid hRight
  have HOwn := Lib.hid hOwn
  clear hRight hOwn hok hlen hp
  go_enter Tryz.func70, Tryz.ntmps70
  go_wp2_with fail
  refine (HRight.out _ (by exact hr.on (below2 _ _ _))).mono ?_
  rintro e w1 ⟨rfl, hB⟩
  have hres := (Whole.new_at (w.alloc _) 54 [.slice none 0 0, .int .i64 0] (w.heap.size + 1) (by simp)).below hB (by simp)
  have hbox := ((Whole.new w 54 [.slice A (bytesFor l.length) cap, .int .i64 l.length]).alloc _).below hB (by first | (simp; omega) | simp)
  have hBw := (below2 _ _ _).trans (hB.mono (by first | (simp; omega) | simp))
  have hs1 : w.heap.size + 1 < w1.heap.size := hres.lt
  clear hB
  have x0 := hbox.cell_at 0 rfl
  have x1 := hbox.cell_at 1 rfl
  go_wp2_with fail
  refine (HOwn.out _ (by exact hr.on hBw)).mono ?_
  rintro e w2 ⟨g, c, rfl, hown, hB⟩
  have hbox2 := hbox.below hB (by omega)
  have hres2 := hres.below hB hs1
  have hB2 := hBw.trans (hB.mono hBw.size)
  have hs2 : w1.heap.size ≤ w2.heap.size := hB.size
  have x0' := hbox2.cell_at 0 rfl
  have x1' := hbox2.cell_at 1 rfl
  have fx0 := hbox2.frozen 0
  have fx1 := hbox2.frozen 1
  clear x0 x1
  obtain ⟨hg1, hg2⟩ := owns_lt hown
  go_wp2_with fail
  go_loopw [8] (fun i wr => ∃ (j g c : Nat) (lp : List Bool), j ≤ k ∧ i = .int .i64 ((k : Int) - 1 - j) ∧ lp = l ++ first (digit n k) j ∧ Whole wr w.heap.size 54 [.slice (some ⟨g, 0, none⟩) (bytesFor lp.length) c, .int .i64 lp.length] ∧ wr.ownsRow w1.heap.size 5 1 (.slice (some ⟨g, 0, none⟩) (bytesFor lp.length) c) (bytesFor lp.length) (u8s (pack (bytesFor lp.length) lp)) ∧
      Below w.heap.size w wr ∧ Whole wr (w.heap.size + 1) 54 [.slice none 0 0, .int .i64 0] ∧ w1.heap.size ≤ wr.heap.size)
    (fun i _ => (intOf i + 1).toNat)
  case atStart =>
    refine ⟨0, g, c, l, Nat.zero_le _, by simp, by simp [first], (hbox2.set 0 _).set 1 _, ?_, ?_, ?_, ?_⟩
    · exact owns_far (owns_far hown (p := ⟨w.heap.size, 0, none⟩) (by show g ≠ w.heap.size; omega) _) (p := ⟨w.heap.size, 1, none⟩) (by show g ≠ w.heap.size; omega) _
    · exact (hB2.setCell (p := ⟨w.heap.size, 0, none⟩) (Nat.le_refl _) _).setCell (p := ⟨w.heap.size, 1, none⟩) (Nat.le_refl _) _
    · exact (hres2.far (p := ⟨w.heap.size, 0, none⟩) (by show w.heap.size + 1 ≠ w.heap.size; omega) _).far (p := ⟨w.heap.size, 1, none⟩) (by show w.heap.size + 1 ≠ w.heap.size; omega) _
    · simpa [World.setCell] using hs2
  case round =>
    obtain ⟨j, g, c, lp, hj, rfl, hlp, hbx, hown, hBr, hrs, hsr⟩ := hrel
    clear hbox2 hres2 x0' x1' fx0 fx1
    have HLP := Lib.hid hlp
    have hlpl : lp.length = l.length + j := by rw [hlp, List.length_append, first_length]
    have hlpl2 : lp.length ≤ 549755813888 := by omega
    have HLL := Lib.hid hlpl
    clear hlp hlpl
    have y0 := hbx.cell_at 0 rfl
    have y1 := hbx.cell_at 1 rfl
    by_cases hlt : j < k
    · have hge : (0 : Int) ≤ (k : Int) - 1 - j := by omega
      have hdig : (bits BinOp.and IntKind.i64 (n / 2 ^ (k - 1 - j)) 1 == 1) = digit n k j := by
        rw [low_bit_i64 _ (Int.ediv_nonneg hn (Int.le_of_lt (Int.pow_pos (by omega)))) (Int.le_trans (Int.ediv_le_self _ hn) hn1)]; rfl
      go_wp2_with fail
      refine (with_any w1.heap.size _ lp (digit n k j) _ hlpl2 ⟨g, c, rfl, hown⟩ hsr).mono ?_
      rintro e w3 ⟨v', rfl, ⟨g3, c3, rfl, hown3⟩, hB3⟩
      have hbx3 := hbx.below hB3 (by omega)
      have hrs3 := hrs.below hB3 (by omega)
      have hBr3 := hBr.trans (hB3.mono (by omega))
      have hs3 := hB3.size
      obtain ⟨hg3, hg3'⟩ := owns_lt hown3
      clear y0 y1 hdig
      have y0 := hbx3.cell_at 0 rfl
      have y1 := hbx3.cell_at 1 rfl
      have fy0 := hbx3.frozen 0
      have fy1 := hbx3.frozen 1
      obtain ⟨lq, hlq⟩ : ∃ lq, lp ++ [digit n k j] = lq := ⟨_, rfl⟩
      rw [hlq] at hown3 ⊢
      have HLQ := Lib.hid hlq
      clear hlq
      go_wp2_with fail
      go_roundw
      case rel =>
        refine ⟨j + 1, g3, c3, lq, by omega, by go_num, by rw [← HLQ.out, HLP.out, first_succ, List.append_assoc], (hbx3.set 0 _).set 1 _, ?_, ?_, ?_, ?_⟩
        · exact owns_far (owns_far hown3 (p := ⟨w.heap.size, 0, none⟩) (by show g3 ≠ w.heap.size; omega) _) (p := ⟨w.heap.size, 1, none⟩) (by show g3 ≠ w.heap.size; omega) _
        · exact (hBr3.setCell (p := ⟨w.heap.size, 0, none⟩) (Nat.le_refl _) _).setCell (p := ⟨w.heap.size, 1, none⟩) (Nat.le_refl _) _
        · exact (hrs3.far (p := ⟨w.heap.size, 0, none⟩) (by show w.heap.size + 1 ≠ w.heap.size; omega) _).far (p := ⟨w.heap.size, 1, none⟩) (by show w.heap.size + 1 ≠ w.heap.size; omega) _
        · simp only [World.setCell, Array.size_modify]; omega
      case measure => simp [intOf]; omega
    · obtain rfl : j = k := by omega
      have z0 := hrs.cell_at 0 rfl
      have z1 := hrs.cell_at 1 rfl
      have fz0 := hrs.frozen 0
      have fz1 := hrs.frozen 1
      go_wp2_with fail
      refine bodyPost_ret (v := .tuple #[.agg #[.slice (some ⟨g, 0, none⟩) (bytesFor lp.length) c, .int .i64 lp.length], .int .i64 0]) (by simp [results, Tryz.f70, go_sem, z0, z1]) rfl ⟨_, rfl, ?_, ?_⟩
      · obtain ⟨hg1, hg2⟩ := owns_lt hown
        rw [← HLP.out]
        exact ⟨g, c, rfl, owns_mono (owns_far (owns_far hown (p := ⟨w.heap.size + 1, 0, none⟩) (by show g ≠ w.heap.size + 1; omega) _) (p := ⟨w.heap.size + 1, 1, none⟩) (by show g ≠ w.heap.size + 1; omega) _) (by omega)⟩
      · exact (hBr.setCell (p := ⟨w.heap.size + 1, 0, none⟩) (Nat.le_succ _) _).setCell (p := ⟨w.heap.size + 1, 1, none⟩) (Nat.le_succ _) _
end Go.Proofs.YtegflmaobmibnaaGreatDoor

namespace Go.Proofs.YtegflmaobmibnaaGreatDoor
set_option maxRecDepth 100000
open Go.RowKit Go.Shelf
set_option linter.unusedVariables false

set_option maxRecDepth 100000 in
set_option maxHeartbeats 4000000 in
theorem pad_bad (A : Option Addr) (cap : Nat) (zs : List Int) (N : Int) (w : World) (hr : Row w w.heap.size A (u8s zs)) (hb : ∀ z ∈ zs, IsByte z) (hl : zs.length ≤ maxLen)
    (hn1 : N ≤ 9223372036854775807) (hn0 : -9223372036854775808 ≤ N) (hbad : rightB zs N = false) :
    Calls Tryz.prog 26 #[.agg #[.slice A zs.length cap, .int .i64 N]] w fun e w' =>
      e = .returned (.tuple #[noBits, .int .i64 2]) ∧ Below w.heap.size w w' := by
  go_enter Tryz.func26, Tryz.ntmps26
  go_wp2_with fail
  all_goals
    refine (put_bad1 A cap zs N _ _ _ (by exact hr.on (below2 _ _ _)) hb hl hn1 hn0 hbad).mono ?_
    rintro e w' ⟨rfl, hB⟩
    have hRes := (Whole.new_at (w.alloc _) 54 [.slice none 0 0, .int .i64 0] (w.heap.size + 1) (by simp)).below hB (by simp)
    have c0 := hRes.cell_at 0 rfl
    have c1 := hRes.cell_at 1 rfl
    have f0 := hRes.frozen 0
    have f1 := hRes.frozen 1
    go_wp2_with fail
    refine bodyPost_ret (v := .tuple #[noBits, .int .i64 2]) (by simp [results, Tryz.f26, go_sem, c0, c1]) rfl ⟨rfl, ?_⟩
    exact (((below2 _ _ _).trans (hB.mono (by simp; omega))).setCell (p := ⟨w.heap.size + 1, 0, none⟩) (Nat.le_succ _) _).setCell (p := ⟨w.heap.size + 1, 1, none⟩) (Nat.le_succ _) _

/-- How many bits are put behind so many. -/
def padN (n : Nat) : Nat := (8 - n % 8) % 8
theorem digits_zero (k : Nat) : first (digit 0 k) k = List.replicate k false := by
  apply List.ext_getElem
  · simp [first]
  · intro i h1 h2
    simp [first, digit]

set_option maxRecDepth 100000 in
set_option maxHeartbeats 4000000 in
theorem pad_ok (A : Option Addr) (cap : Nat) (l : List Bool) (w : World) (hr : Row w w.heap.size A (u8s (pack (bytesFor l.length) l))) (hl : l.length ≤ 549755813888) (hok : rightB (pack (bytesFor l.length) l) l.length = true) :
    Calls Tryz.prog 26 #[.agg #[.slice A (bytesFor l.length) cap, .int .i64 l.length]] w fun e w' =>
      ∃ g, e = .returned (.tuple #[.agg #[.slice (some ⟨g, 0, none⟩) (bytesFor (l.length + padN l.length)) (bytesFor (l.length + padN l.length)), .int .i64 ((l.length : Int) + padN l.length)], .int .i64 0]) ∧ w.heap.size ≤ g ∧
        Whole w' g 5 (u8s (pack (bytesFor (l.length + padN l.length)) (l ++ List.replicate (padN l.length) false))) ∧ Below w.heap.size w w' := by
  have hk : (8 - (l.length : Int) % 8) % 8 = (padN l.length : Int) := by unfold padN; omega
  have hp := put_ok A cap l 0 (padN l.length)
  rw [digits_zero] at hp
  have HP := Lib.hid hp
  clear hp
  have hk8 : padN l.length ≤ 7 := by unfold padN; omega
  go_enter Tryz.func26, Tryz.ntmps26
  go_wp2_with fail
  refine (HP.out _ (by exact hr.on (below2 _ _ _)) hl (by omega) (by omega) (Int.pow_pos (by omega)) hok).mono ?_
  rintro e w' ⟨g, rfl, hg, hW, hB⟩
  simp only [World.size_alloc] at hg
  have hRes := (Whole.new_at (w.alloc _) 54 [.slice none 0 0, .int .i64 0] (w.heap.size + 1) (by simp)).below hB (by simp)
  have c0 := hRes.cell_at 0 rfl
  have c1 := hRes.cell_at 1 rfl
  have f0 := hRes.frozen 0
  have f1 := hRes.frozen 1
  go_wp2_with fail
  refine bodyPost_ret (v := .tuple #[.agg #[.slice (some ⟨g, 0, none⟩) (bytesFor (l.length + padN l.length)) (bytesFor (l.length + padN l.length)), .int .i64 ((l.length : Int) + padN l.length)], .int .i64 0]) (by simp [results, Tryz.f26, go_sem, c0, c1]) rfl ⟨g, rfl, by omega, ?_, ?_⟩
  · exact (hW.far (p := ⟨w.heap.size + 1, 0, none⟩) (by show g ≠ w.heap.size + 1; omega) _).far (p := ⟨w.heap.size + 1, 1, none⟩) (by show g ≠ w.heap.size + 1; omega) _
  · exact (((below2 _ _ _).trans (hB.mono (by simp; omega))).setCell (p := ⟨w.heap.size + 1, 0, none⟩) (Nat.le_succ _) _).setCell (p := ⟨w.heap.size + 1, 1, none⟩) (Nat.le_succ _) _
end Go.Proofs.YtegflmaobmibnaaGreatDoor

namespace Go.Proofs.YtegflmaobmibnaaGreatDoor
set_option maxRecDepth 100000
open Go.RowKit Go.Shelf
set_option linter.unusedVariables false

set_option maxRecDepth 100000 in
set_option maxHeartbeats 4000000 in
theorem padR_bad (A : Option Addr) (cap : Nat) (zs : List Int) (N : Int) (w : World) (hr : Row w w.heap.size A (u8s zs)) (hb : ∀ z ∈ zs, IsByte z) (hl : zs.length ≤ maxLen)
    (hn1 : N ≤ 9223372036854775807) (hn0 : -9223372036854775808 ≤ N) (hbad : rightB zs N = false) :
    Calls Tryz.prog 30 #[.agg #[.slice A zs.length cap, .int .i64 N]] w fun e w' =>
      e = .returned (.tuple #[noBits, .int .i64 2]) ∧ Below w.heap.size w w' := by
  go_enter Tryz.func30, Tryz.ntmps30
  go_wp2_with fail
  refine (rightR_any _ _ _ _ _ (by exact hr.on (below2 _ _ _)) hb hl hn1 hn0).mono ?_
  rw [hbad]
  rintro e w' ⟨rfl, hB⟩
  have hRes := (Whole.new_at (w.alloc _) 54 [.slice none 0 0, .int .i64 0] (w.heap.size + 1) (by simp)).below hB (by simp)
  have c0 := hRes.cell_at 0 rfl
  have c1 := hRes.cell_at 1 rfl
  have f0 := hRes.frozen 0
  have f1 := hRes.frozen 1
  go_wp2_with fail
  refine bodyPost_ret (v := .tuple #[noBits, .int .i64 2]) (by simp [results, Tryz.f30, go_sem, c0, c1]) rfl ⟨rfl, ?_⟩
  exact (((below2 _ _ _).trans (hB.mono (by simp; omega))).setCell (p := ⟨w.heap.size + 1, 0, none⟩) (Nat.le_succ _) _).setCell (p := ⟨w.heap.size + 1, 1, none⟩) (Nat.le_succ _) _

set_option maxRecDepth 100000 in
set_option maxHeartbeats 4000000 in
theorem padR_ok (A : Option Addr) (cap : Nat) (l : List Bool) (w : World) (hr : Row w w.heap.size A (u8s (pack (bytesFor l.length) l))) (hl : l.length ≤ 274877906944) (hok : rightB (pack (bytesFor l.length) l) l.length = true) :
    Calls Tryz.prog 30 #[.agg #[.slice A (bytesFor l.length) cap, .int .i64 l.length]] w fun e w' =>
      ∃ v, e = .returned (.tuple #[v, .int .i64 0]) ∧ OwnBits w' w.heap.size v (l ++ List.replicate (padN l.length) false) ∧ Below w.heap.size w w' := by
  have hlen : (pack (bytesFor l.length) l).length = bytesFor l.length := pack_length _ _
  have hRight := fun W hr' => rightR_any A cap (pack (bytesFor l.length) l) l.length W hr' (pack_byte _ _) (by rw [hlen]; unfold maxLen bytesFor; omega) (by omega) (by omega)
  have hOwn := fun W hr' => ownBitsR_any A cap (pack (bytesFor l.length) l) l.length W hr' (by rw [hlen]; unfold bytesFor; omega)
  rw [hlen, hok] at hRight
  rw [hlen] at hOwn
  have HRight := Lib.hid hRight
  have HOwn := Lib.hid hOwn
  have hk8 : padN l.length ≤ 7 := by unfold padN; omega
  clear hRight hOwn hok hlen
  go_enter Tryz.func30, Tryz.ntmps30
  go_wp2_with fail
  refine (HRight.out _ (by exact hr.on (below2 _ _ _))).mono ?_
  rintro e w1 ⟨rfl, hB⟩
  have hres := (Whole.new_at (w.alloc _) 54 [.slice none 0 0, .int .i64 0] (w.heap.size + 1) (by simp)).below hB (by simp)
  have hbox := ((Whole.new w 54 [.slice A (bytesFor l.length) cap, .int .i64 l.length]).alloc _).below hB (by first | (simp; omega) | simp)
  have hBw := (below2 _ _ _).trans (hB.mono (by first | (simp; omega) | simp))
  have hs1 : w.heap.size + 1 < w1.heap.size := hres.lt
  clear hB
  have x0 := hbox.cell_at 0 rfl
  have x1 := hbox.cell_at 1 rfl
  go_wp2_with fail
  refine (HOwn.out _ (by exact hr.on hBw)).mono ?_
  rintro e w2 ⟨g, c, rfl, hown, hB⟩
  have hbox2 := hbox.below hB (by omega)
  have hres2 := hres.below hB hs1
  have hB2 := hBw.trans (hB.mono hBw.size)
  have hs2 : w1.heap.size ≤ w2.heap.size := hB.size
  have x0' := hbox2.cell_at 0 rfl
  have x1' := hbox2.cell_at 1 rfl
  have fx0 := hbox2.frozen 0
  have fx1 := hbox2.frozen 1
  clear x0 x1
  obtain ⟨hg1, hg2⟩ := owns_lt hown
  go_wp2_with fail
  go_loopw [] (fun wr => ∃ (j g c : Nat) (lp : List Bool), j ≤ padN l.length ∧ lp = l ++ List.replicate j false ∧ Whole wr w.heap.size 54 [.slice (some ⟨g, 0, none⟩) (bytesFor lp.length) c, .int .i64 lp.length] ∧ wr.ownsRow w1.heap.size 5 1 (.slice (some ⟨g, 0, none⟩) (bytesFor lp.length) c) (bytesFor lp.length) (u8s (pack (bytesFor lp.length) lp)) ∧
      Below w.heap.size w wr ∧ Whole wr (w.heap.size + 1) 54 [.slice none 0 0, .int .i64 0] ∧ w1.heap.size ≤ wr.heap.size)
    (fun wr => padN (intOf ((wr.cell? ⟨w.heap.size, 1, none⟩).getD undef)).toNat)
  case atStart =>
    refine ⟨0, g, c, l, Nat.zero_le _, by simp, (hbox2.set 0 _).set 1 _, ?_, ?_, ?_, ?_⟩
    · exact owns_far (owns_far hown (p := ⟨w.heap.size, 0, none⟩) (by show g ≠ w.heap.size; omega) _) (p := ⟨w.heap.size, 1, none⟩) (by show g ≠ w.heap.size; omega) _
    · exact (hB2.setCell (p := ⟨w.heap.size, 0, none⟩) (Nat.le_refl _) _).setCell (p := ⟨w.heap.size, 1, none⟩) (Nat.le_refl _) _
    · exact (hres2.far (p := ⟨w.heap.size, 0, none⟩) (by show w.heap.size + 1 ≠ w.heap.size; omega) _).far (p := ⟨w.heap.size, 1, none⟩) (by show w.heap.size + 1 ≠ w.heap.size; omega) _
    · simpa [World.setCell] using hs2
  case round =>
    obtain ⟨j, g, c, lp, hj, hlp, hbx, hown, hBr, hrs, hsr⟩ := hrel
    clear hbox2 hres2 x0' x1' fx0 fx1
    have HLP := Lib.hid hlp
    have hlpl : lp.length = l.length + j := by rw [hlp, List.length_append, List.length_replicate]
    have hlpl2 : lp.length ≤ 549755813888 := by omega
    have HLL := Lib.hid hlpl
    clear hlp hlpl
    have y0 := hbx.cell_at 0 rfl
    have y1 := hbx.cell_at 1 rfl
    by_cases hlt : j < padN l.length
    · have htest : ((lp.length : Int) % 8 != 0) = true := by have := HLL.out; unfold padN at hlt; simp; omega
      go_wp2_with fail
      refine (with_any w1.heap.size _ lp false _ hlpl2 ⟨g, c, rfl, hown⟩ hsr).mono ?_
      rintro e w3 ⟨v', rfl, ⟨g3, c3, rfl, hown3⟩, hB3⟩
      have hbx3 := hbx.below hB3 (by omega)
      have hrs3 := hrs.below hB3 (by omega)
      have hBr3 := hBr.trans (hB3.mono (by omega))
      have hs3 := hB3.size
      obtain ⟨hg3, hg3'⟩ := owns_lt hown3
      have Hm := Lib.hid y1
      clear y0 y1 htest
      have y0 := hbx3.cell_at 0 rfl
      have y1 := hbx3.cell_at 1 rfl
      have fy0 := hbx3.frozen 0
      have fy1 := hbx3.frozen 1
      obtain ⟨lq, hlq⟩ : ∃ lq, lp ++ [false] = lq := ⟨_, rfl⟩
      rw [hlq] at hown3 ⊢
      have HLQ := Lib.hid hlq
      clear hlq
      go_wp2_with fail
      have hfin := (hbx3.set 0 (.slice (some ⟨g3, 0, none⟩) (bytesFor lq.length) c3)).set 1 (.int .i64 lq.length)
      go_roundw
      case rel =>
        refine ⟨j + 1, g3, c3, lq, by omega, by rw [← HLQ.out, HLP.out, List.replicate_succ', List.append_assoc], hfin, ?_, ?_, ?_, ?_⟩
        · exact owns_far (owns_far hown3 (p := ⟨w.heap.size, 0, none⟩) (by show g3 ≠ w.heap.size; omega) _) (p := ⟨w.heap.size, 1, none⟩) (by show g3 ≠ w.heap.size; omega) _
        · exact (hBr3.setCell (p := ⟨w.heap.size, 0, none⟩) (Nat.le_refl _) _).setCell (p := ⟨w.heap.size, 1, none⟩) (Nat.le_refl _) _
        · exact (hrs3.far (p := ⟨w.heap.size, 0, none⟩) (by show w.heap.size + 1 ≠ w.heap.size; omega) _).far (p := ⟨w.heap.size, 1, none⟩) (by show w.heap.size + 1 ≠ w.heap.size; omega) _
        · simp only [World.setCell, Array.size_modify]; omega
      case measure =>
        rw [hfin.cell_at 1 rfl, Hm.out]
        have e1 := HLL.out
        have e2 : lq.length = lp.length + 1 := by rw [← HLQ.out]; simp
        simp only [intOf, Option.getD_some, Int.toNat_natCast]
        unfold padN at hlt ⊢
        omega
    · obtain rfl : j = padN l.length := by omega
      have htest : ((lp.length : Int) % 8 != 0) = false := by have := HLL.out; unfold padN at this; simp; omega
      have z0 := hrs.cell_at 0 rfl
      have z1 := hrs.cell_at 1 rfl
      have fz0 := hrs.frozen 0
      have fz1 := hrs.frozen 1
      go_wp2_with fail
      refine bodyPost_ret (v := .tuple #[.agg #[.slice (some ⟨g, 0, none⟩) (bytesFor lp.length) c, .int .i64 lp.length], .int .i64 0]) (by simp [results, Tryz.f30, go_sem, z0, z1]) rfl ⟨_, rfl, ?_, ?_⟩
      · obtain ⟨hg1, hg2⟩ := owns_lt hown
        rw [← HLP.out]
        exact ⟨g, c, rfl, owns_mono (owns_far (owns_far hown (p := ⟨w.heap.size + 1, 0, none⟩) (by show g ≠ w.heap.size + 1; omega) _) (p := ⟨w.heap.size + 1, 1, none⟩) (by show g ≠ w.heap.size + 1; omega) _) (by omega)⟩
      · exact (hBr.setCell (p := ⟨w.heap.size + 1, 0, none⟩) (Nat.le_succ _) _).setCell (p := ⟨w.heap.size + 1, 1, none⟩) (Nat.le_succ _) _
end Go.Proofs.YtegflmaobmibnaaGreatDoor

namespace Go.Proofs.YtegflmaobmibnaaGreatDoor
set_option maxRecDepth 100000
open Go.RowKit Go.Shelf
set_option linter.unusedVariables false

end Go.Proofs.YtegflmaobmibnaaGreatDoor

namespace Go.Proofs.YtegflmaobmibnaaGreatDoor
set_option maxRecDepth 100000
open Go.RowKit Go.Shelf
set_option linter.unusedVariables false
attribute [local go_sem] Oper.semAt_some

/-- The k bits from at on. -/
def bitsAt (l : List Bool) (at_ k : Nat) : List Bool := first (fun j => l[at_ + j]?.getD false) k
theorem wpIn_scope_fwd {n : Nat} {P : Program} {c rest : Code} {l : Nat} {Q : Exit → Act → World → Prop} {a : Act} {w : World} (hf : findLabel c l = some rest) (h : c.wpIn Fence.wide n P (Exit.fwd P l rest Q) a w) : (Code.scope c).wpIn Fence.wide n P Q a w :=
  wpIn_wide.2 (wp_scope_fwd hf (wpIn_wide.1 h))
theorem or_one (x : Int) (h0 : 0 ≤ x) (h1 : x ≤ 4611686018427387903) : bits BinOp.or IntKind.i64 (x * 2) 1 = x * 2 + 1 := by
  obtain ⟨a, rfl⟩ := Int.eq_ofNat_of_zero_le h0
  have ha : (BitVec.ofInt 64 ((a : Int) * 2)).toNat = a * 2 := by
    rw [show ((a : Int) * 2) = ((a * 2 : Nat) : Int) by simp, BitVec.ofInt_natCast, BitVec.toNat_ofNat]; omega
  show IntKind.i64.wrap ((BitVec.ofInt 64 ((a : Int) * 2) ||| 1#64).toNat : Int) = _
  have e : a * 2 ||| 1 = a * 2 + 1 := by
    have := Nat.two_pow_add_eq_or_of_lt (i := 1) (b := 1) (by omega) a
    rw [Nat.mul_comm a 2]
    simpa using this.symm
  rw [BitVec.toNat_or, ha, show (1#64 : BitVec 64).toNat = 1 from rfl, e, IntKind.wrap_i64]
  omega

theorem numOf_true (l : List Bool) : numOf (l ++ [true]) = numOf l * 2 + 1 := by rw [numOf_snoc]; simp; omega
theorem numOf_false (l : List Bool) : numOf (l ++ [false]) = numOf l * 2 := by rw [numOf_snoc]; simp; omega

set_option maxRecDepth 100000 in
set_option maxHeartbeats 4000000 in
theorem take_ok (A : Option Addr) (cap : Nat) (l : List Bool) (a k : Nat) (w : World) (hr : Row w w.heap.size A (u8s (pack (bytesFor l.length) l))) (hl : l.length ≤ 549755813888) (hk : k ≤ 32) (hak : a + k ≤ l.length) (hok : rightB (pack (bytesFor l.length) l) l.length = true) :
    Calls Tryz.prog 111 #[.agg #[.slice A (bytesFor l.length) cap, .int .i64 l.length], .int .i64 (a : Int), .int .i64 (k : Int)] w fun e w' =>
      e = .returned (.tuple #[.int .i64 (numOf (bitsAt l a k)), .int .i64 0]) ∧ Below w.heap.size w w' := by
  have hlen : (pack (bytesFor l.length) l).length = bytesFor l.length := pack_length _ _
  have hRight := fun W hr' => right_any A cap (pack (bytesFor l.length) l) l.length W hr' (pack_byte _ _) (by rw [hlen]; unfold maxLen bytesFor; omega) (by omega) (by omega)
  rw [hlen, hok] at hRight
  have HRight := Lib.hid hRight
  have HW := Lib.hid (show wideB (k : Int) = true by simp [wideB]; omega)
  clear hRight hok hlen
  refine (callsIn_wide (n := 4)).1 ?_
  refine callsIn_of_wp_marks Tryz.func111 rfl trivial ?_ rfl
  simp only [Tryz.ntmps111, List.size_toArray, List.length_cons, List.length_nil, Nat.reduceAdd, Nat.reduceSub, Array.replicate_succ, Array.replicate_zero, List.push_toArray, List.append_toArray, List.nil_append, List.cons_append]
  gi_wp2
  refine wpIn_scope_fwd (l := 0) rfl ?_
  gi_wp2_with fail
  refine ⟨trivial, (callsIn_wide.2 (HRight.out _ (by exact hr.on (below2 _ _ _)))).mono ?_⟩
  rintro e w1 ⟨rfl, hB⟩
  have hbox := ((Whole.new w 54 [.slice A (bytesFor l.length) cap, .int .i64 l.length]).alloc _).below hB (by first | (simp; omega) | simp)
  have hnum := (Whole.new_at (w.alloc _) 3 [.int .i64 0] (w.heap.size + 1) (by simp)).below hB (by simp)
  have hBw := (below2 _ _ _).trans (hB.mono (by first | (simp; omega) | simp))
  have hs1 : w.heap.size + 1 < w1.heap.size := hnum.lt
  clear hB
  have x0 := hbox.cell_at 0 rfl
  have x1 := hbox.cell_at 1 rfl
  gi_wp2_with fail
  refine ⟨trivial, (callsIn_wide.2 (wide_any _ _)).mono ?_⟩
  rw [HW.out]
  rintro e w'' ⟨rfl, rfl⟩
  have hle : (a : Int) ≤ (l.length : Int) - k := by omega
  gi_wp2_with fail
  refine ⟨trivial, (span_in Fence.wide 3 trivial rfl A (bytesFor l.length) cap l.length a k _).mono ?_⟩
  rintro e w2 ⟨rfl, rfl⟩
  gi_wp2_with fail
  obtain ⟨W0, hW0, hsz, hb0, hnum0, hxx, hxa, hxk⟩ : ∃ W0, (((w1.alloc (.cells #[.slice A (bytesFor l.length) cap, .int .i64 l.length] 54)).alloc (.cells #[.int .i64 a] 3)).alloc (.cells #[.int .i64 k] 3)) = W0 ∧ W0.heap.size = w1.heap.size + 1 + 1 + 1 ∧ Below w1.heap.size w1 W0 ∧ Whole W0 (w.heap.size + 1) 3 [.int .i64 0] ∧
      Whole W0 w1.heap.size 54 [.slice A (bytesFor l.length) cap, .int .i64 l.length] ∧ Whole W0 (w1.heap.size + 1) 3 [.int .i64 a] ∧ Whole W0 (w1.heap.size + 1 + 1) 3 [.int .i64 k] :=
    ⟨_, rfl, by simp, below3 _ _ _ _, ((hnum.alloc _).alloc _).alloc _, ((Whole.new w1 _ [_, _]).alloc _).alloc _, (Whole.new_at _ _ [_] _ (by simp)).alloc _, Whole.new_at _ _ [_] _ (by simp)⟩
  rw [hW0]
  clear hW0
  have hBW := hBw.trans (hb0.mono hBw.size)
  have hlen : (pack (bytesFor l.length) l).length = bytesFor l.length := pack_length _ _
  have hseq := span_stops Fence.wide 3 trivial rfl (by omega) (w1.heap.size + 1) (w1.heap.size + 1 + 1) w1.heap.size w.heap.size a k cap A (pack (bytesFor l.length) l) l.length (by rw [hlen]; unfold bytesFor; omega) (pack_byte _ _) (by rw [hlen]; unfold bytesFor; omega) W0
    (BelowBut W0.heap.size (w.heap.size + 1)) (fun b => b < W0.heap.size ∧ b ≠ w.heap.size + 1) (fun X Y h => h.keeps) (by omega) (by omega) (by omega) (fun b hb => by omega) hBW.size (by omega) (by omega) (by omega)
    (hxa.cell_at 0 rfl) (hxk.cell_at 0 rfl) (by rw [hlen]; exact hxx.cell_at 0 rfl) (hxx.cell_at 1 rfl) (hr.below hBW)
  have hl0 : w.heap.size + 1 < W0.heap.size := by omega
  have hseen : first (fun j => bitZ (pack (bytesFor l.length) l) (a + j)) k = bitsAt l a k := by
    unfold bitsAt first
    refine List.map_congr_left fun j hj => ?_
    have hj' : j < k := by simpa using hj
    exact bit_of_pack _ _ _ (by unfold bytesFor; omega)
  have HSN := Lib.hid hseen
  have HSZ := Lib.hid hsz
  clear hsz hseen
  clear hxx hxa hxk hnum hbox x0 x1
  refine wpIn_rangeFunc_ownF rfl (by omega) (gf := 132) rfl trivial (enters_of Tryz.func132 (by kernel_rfl) rfl) hseq BelowBut.trans (BelowBut.put (Nat.le_refl _)) (Below.refl _ _) (fun _ => rfl)
    (fun pre W => Whole W (w.heap.size + 1) 3 [.int .i64 (numOf pre)] ∧ Below w.heap.size w W)
    (fun _ _ _ => False)
    (OwnFrom.and (Own.from (fun s X Y row hs hg hr => hs.abides hg hr) _) (ownFrom_below (Nat.le_refl _) (by omega)))
    (fun _ _ _ _ _ hs _ _ => hs)
    ⟨hnum0, hBW⟩ ?a1 ?assign ?body ?done ?stop
  case stop =>
    rintro D c pre W _ _ h _
    exact h.elim
  case assign =>
    intro lr x W K hK
    unfold encB
    gi_wp2
    exact hK
  case body =>
    rintro lr pre x W ⟨hn, hB⟩ hlt
    have hp : (2 : Int) ^ pre.length ≤ 4294967296 := by
      have h1 : (2 : Nat) ^ pre.length ≤ 2 ^ 32 := Nat.pow_le_pow_right (by omega) (by omega)
      have h2 : (((2 : Nat) ^ pre.length : Nat) : Int) = (2 : Int) ^ pre.length := by simp
      rw [← h2]; omega
    obtain ⟨hn0, hn1⟩ := numOf_bd pre
    have hn2 : numOf pre ≤ 4294967296 := by omega
    have hor := or_one (numOf pre) hn0 (by omega)
    clear hn1 hp
    have c0 := hn.cell_at 0 rfl
    have f0 := hn.frozen 0
    cases x with
    | false =>
      gi_wp2
      refine ⟨KeepsOthers.setCell _ _ _, BelowBut.set _ _ _, ?_, hB.setCell (p := ⟨w.heap.size + 1, 0, none⟩) (Nat.le_succ _) _⟩
      have h := hn.set 0 (.int .i64 (numOf pre * 2))
      rw [numOf_false]
      exact h
    | true =>
      gi_wp2
      refine ⟨(KeepsOthers.setCell _ _ _).trans (KeepsOthers.setCell _ _ _), (BelowBut.set _ _ _).trans (BelowBut.set _ _ _), ?_, (hB.setCell (p := ⟨w.heap.size + 1, 0, none⟩) (Nat.le_succ _) _).setCell (p := ⟨w.heap.size + 1, 0, none⟩) (Nat.le_succ _) _⟩
      have h := (hn.set 0 (.int .i64 (numOf pre * 2))).set 0 (.int .i64 (numOf pre * 2 + 1))
      rw [numOf_true]
      exact h
  case done =>
    rintro D ys W hD rfl ⟨hn, hB⟩ hK
    have c0 := hn.cell_at 0 rfl
    gi_wp2
    rw [fwd_ret]
    refine ⟨by simp, .inl ⟨_, _, rfl, run_takeDeferred hK, ?_⟩⟩
    refine ⟨_, results_tmp2 rfl _ _ _, ?_, hB.trans (belowK_b (w := w) (Nat.le_refl _) W D _ _ (by have := HSZ.out; omega) hK rfl rfl)⟩
    rw [← HSN.out]
    rfl
end Go.Proofs.YtegflmaobmibnaaGreatDoor

namespace Go.Proofs.YtegflmaobmibnaaGreatDoor
set_option maxRecDepth 100000
open Go.RowKit Go.Shelf
set_option linter.unusedVariables false

set_option maxRecDepth 100000 in
set_option maxHeartbeats 4000000 in
theorem takeR_bad (A : Option Addr) (cap : Nat) (zs : List Int) (N a k : Int) (w : World) (hr : Row w w.heap.size A (u8s zs)) (hb : ∀ z ∈ zs, IsByte z) (hl : zs.length ≤ maxLen)
    (hn1 : N ≤ 9223372036854775807) (hn0 : -9223372036854775808 ≤ N) (hbad : (rightB zs N && wideB k && decide (0 ≤ a)) = false) :
    Calls Tryz.prog 112 #[.agg #[.slice A zs.length cap, .int .i64 N], .int .i64 a, .int .i64 k] w fun e w' =>
      e = .returned (.tuple #[.int .i64 0, .int .i64 2]) ∧ Below w.heap.size w w' := by
  cases hok : rightB zs N with
  | false =>
    clear hbad
    go_enter Tryz.func112, Tryz.ntmps112
    go_wp2_with fail
    refine (rightR_any _ _ _ _ _ (by exact hr.on (below1 _ _)) hb hl hn1 hn0).mono ?_
    rw [hok]
    rintro e w' ⟨rfl, hB⟩
    go_wp2
    go_ret2
    exact ⟨rfl, (below1 _ _).trans (hB.mono (by simp))⟩
  | true =>
    rw [hok, Bool.true_and] at hbad
    by_cases h1 : k < 0
    · clear hbad
      go_enter Tryz.func112, Tryz.ntmps112
      go_wp2_with fail
      refine (rightR_any _ _ _ _ _ (by exact hr.on (below1 _ _)) hb hl hn1 hn0).mono ?_
      rw [hok]
      rintro e w' ⟨rfl, hB⟩
      go_wp2
      go_ret2
      exact ⟨rfl, (below1 _ _).trans (hB.mono (by simp))⟩
    · by_cases h2 : 32 < k
      · clear hbad
        go_enter Tryz.func112, Tryz.ntmps112
        go_wp2_with fail
        refine (rightR_any _ _ _ _ _ (by exact hr.on (below1 _ _)) hb hl hn1 hn0).mono ?_
        rw [hok]
        rintro e w' ⟨rfl, hB⟩
        go_wp2
        go_ret2
        exact ⟨rfl, (below1 _ _).trans (hB.mono (by simp))⟩
      · have ha : a < 0 := by
          have hw : wideB k = true := by simp [wideB]; omega
          rw [hw] at hbad
          simpa using hbad
        clear hbad
        go_enter Tryz.func112, Tryz.ntmps112
        go_wp2_with fail
        refine (rightR_any _ _ _ _ _ (by exact hr.on (below1 _ _)) hb hl hn1 hn0).mono ?_
        rw [hok]
        rintro e w' ⟨rfl, hB⟩
        go_wp2
        go_ret2
        exact ⟨rfl, (below1 _ _).trans (hB.mono (by simp))⟩

set_option maxRecDepth 100000 in
set_option maxHeartbeats 4000000 in
theorem takeR_short (A : Option Addr) (cap : Nat) (zs : List Int) (N a k : Int) (w : World) (hr : Row w w.heap.size A (u8s zs)) (hb : ∀ z ∈ zs, IsByte z) (hl : zs.length ≤ maxLen)
    (hn1 : N ≤ 9223372036854775807) (hn0 : 0 ≤ N) (hok : rightB zs N = true) (hw : wideB k = true) (ha : 0 ≤ a) (ha1 : a ≤ 9223372036854775807) (hshort : N - k < a) :
    Calls Tryz.prog 112 #[.agg #[.slice A zs.length cap, .int .i64 N], .int .i64 a, .int .i64 k] w fun e w' =>
      e = .returned (.tuple #[.int .i64 0, .int .i64 40]) ∧ Below w.heap.size w w' := by
  have hk : 0 ≤ k ∧ k ≤ 32 := by simpa [wideB] using hw
  obtain ⟨hk0, hk1⟩ := hk
  clear hw
  by_cases hN : N < a
  · go_enter Tryz.func112, Tryz.ntmps112
    go_wp2_with fail
    refine (rightR_any _ _ _ _ _ (by exact hr.on (below1 _ _)) hb hl hn1 (by omega)).mono ?_
    rw [hok]
    rintro e w' ⟨rfl, hB⟩
    have hbox := (Whole.new w 54 [.slice A zs.length cap, .int .i64 N]).below hB (by simp)
    have x1 := hbox.cell_at 1 rfl
    go_wp2
    go_ret2
    exact ⟨rfl, (below1 _ _).trans (hB.mono (by simp))⟩
  · have hs : N - a < k := by omega
    go_enter Tryz.func112, Tryz.ntmps112
    go_wp2_with fail
    refine (rightR_any _ _ _ _ _ (by exact hr.on (below1 _ _)) hb hl hn1 (by omega)).mono ?_
    rw [hok]
    rintro e w' ⟨rfl, hB⟩
    have hbox := (Whole.new w 54 [.slice A zs.length cap, .int .i64 N]).below hB (by simp)
    have x1 := hbox.cell_at 1 rfl
    go_wp2
    go_ret2
    exact ⟨rfl, (below1 _ _).trans (hB.mono (by simp))⟩

theorem bitsAt_succ (l : List Bool) (a k : Nat) : bitsAt l a (k + 1) = bitsAt l a k ++ [l[a + k]?.getD false] := first_succ _ _
theorem bitsAt_length (l : List Bool) (a k : Nat) : (bitsAt l a k).length = k := first_length _ _

set_option maxRecDepth 100000 in
set_option maxHeartbeats 4000000 in
theorem takeR_ok (A : Option Addr) (cap : Nat) (l : List Bool) (a k : Nat) (w : World) (hr : Row w w.heap.size A (u8s (pack (bytesFor l.length) l))) (hl : l.length ≤ 549755813888) (hk : k ≤ 32) (hak : a + k ≤ l.length) (hok : rightB (pack (bytesFor l.length) l) l.length = true) :
    Calls Tryz.prog 112 #[.agg #[.slice A (bytesFor l.length) cap, .int .i64 l.length], .int .i64 (a : Int), .int .i64 (k : Int)] w fun e w' =>
      e = .returned (.tuple #[.int .i64 (numOf (bitsAt l a k)), .int .i64 0]) ∧ Below w.heap.size w w' := by
  have hlen : (pack (bytesFor l.length) l).length = bytesFor l.length := pack_length _ _
  have hRight := fun W hr' => rightR_any A cap (pack (bytesFor l.length) l) l.length W hr' (pack_byte _ _) (by rw [hlen]; unfold maxLen bytesFor; omega) (by omega) (by omega)
  have hBit := fun i W hr' hi => bitR_any A cap (pack (bytesFor l.length) l) l.length i W hr' (pack_byte _ _) (by rw [hlen]; unfold bytesFor; omega) hi
  rw [hlen, hok] at hRight
  rw [hlen] at hBit
  have HRight := Lib.hid hRight
  have HBit := Lib.hid hBit
  clear hRight hBit hok hlen
  have hal : (a : Int) ≤ l.length := by omega
  have hkl : (k : Int) ≤ (l.length : Int) - a := by omega
  have d1 : decide ((k : Int) < 0) = false := by simp
  have d2 : decide ((32 : Int) < k) = false := by simp; omega
  have d3 : decide ((a : Int) < 0) = false := by simp
  have d4 : decide ((l.length : Int) < a) = false := by simp; omega
  have d5 : decide ((l.length : Int) - a < k) = false := by simp; omega
  have d6 : decide (l.length < a) = false := by simp; omega
  go_enter Tryz.func112, Tryz.ntmps112
  go_wp2_with fail
  refine (HRight.out _ (by exact hr.on (below1 _ _))).mono ?_
  rintro e w1 ⟨rfl, hB⟩
  have hbox := (Whole.new w 54 [.slice A (bytesFor l.length) cap, .int .i64 l.length]).below hB (by simp)
  have hBw := (below1 _ _).trans (hB.mono (by simp))
  clear hB
  have x0 := hbox.cell_at 0 rfl
  have x1 := hbox.cell_at 1 rfl
  go_wp2_with fail
  go_loopw [8, 9] (fun n i wr => ∃ j : Nat, j ≤ k ∧ i = .int .i64 j ∧ n = .int .i64 (numOf (bitsAt l a j)) ∧ Whole wr w.heap.size 54 [.slice A (bytesFor l.length) cap, .int .i64 l.length] ∧ Below w.heap.size w wr)
    (fun _ i _ => k - (intOf i).toNat)
  case atStart => exact ⟨0, Nat.zero_le _, rfl, rfl, hbox, hBw⟩
  case round =>
    obtain ⟨j, hj, rfl, rfl, hbx, hBr⟩ := hrel
    clear x0 x1 hbox
    have y0 := hbx.cell_at 0 rfl
    have y1 := hbx.cell_at 1 rfl
    by_cases hlt : j < k
    · have hp : (2 : Int) ^ j ≤ 4294967296 := by
        have h1 : (2 : Nat) ^ j ≤ 2 ^ 32 := Nat.pow_le_pow_right (by omega) (by omega)
        have h2 : (((2 : Nat) ^ j : Nat) : Int) = (2 : Int) ^ j := by simp
        rw [← h2]; omega
      obtain ⟨hn0, hn1⟩ := numOf_bd (bitsAt l a j)
      rw [bitsAt_length] at hn1
      have hn2 : numOf (bitsAt l a j) ≤ 4294967296 := by omega
      clear hn1 hp
      go_wp2_with fail
      rw [show (a : Int) + j = ((a + j : Nat) : Int) by omega]
      refine (HBit.out (a + j) _ (by exact hr.on hBr) (by unfold bytesFor; omega)).mono ?_
      rintro e w2 ⟨rfl, hB2⟩
      obtain ⟨z, hz⟩ : ∃ z, bitI (pack (bytesFor l.length) l) (a + j) = z := ⟨_, rfl⟩
      have hz' : z = if l[a + j]?.getD false then 1 else 0 := by
        rw [← hz, bitI_eq, bit_of_pack _ _ _ (by unfold bytesFor; omega)]
      have hz0 : 0 ≤ z := by rw [hz']; split <;> omega
      have hz1 : z ≤ 1 := by rw [hz']; split <;> omega
      rw [hz]
      have HZ := Lib.hid hz'
      clear hz hz' y0 y1
      have hbx2 := hbx.below hB2 (by have := hbx.lt; omega)
      have hBr2 := hBr.trans (hB2.mono hBr.size)
      go_wp2
      go_roundw
      case rel => exact ⟨j + 1, by omega, by go_num, by rw [bitsAt_succ, numOf_snoc, ← HZ.out], hbx2, hBr2⟩
      case measure => simp [intOf]; omega
    · obtain rfl : j = k := by omega
      go_wp2
      go_ret2
      exact ⟨rfl, hBr⟩
end Go.Proofs.YtegflmaobmibnaaGreatDoor

namespace Go.Proofs.YtegflmaobmibnaaGreatDoor
set_option maxRecDepth 100000
open Go.RowKit
set_option linter.unusedVariables false

theorem bv_first (f : Nat → Bool) (n i : Nat) (h : i < n) : bv (first f n) i = if f i then 1 else 0 := by
  unfold bv
  rw [show (first f n)[i]?.getD false = f i from first_at f n i false h]

set_option maxHeartbeats 2000000 in
theorem last_zero (l : List Bool) (h : l.length % 8 ≠ 0) : byteOf l (l.length / 8) * 2 ^ (l.length % 8) % 256 = 0 := by
  have ho : ∀ i, l.length ≤ i → bv l i = 0 := bv_over l
  have e : l.length = 8 * (l.length / 8) + l.length % 8 := by omega
  have hr : l.length % 8 < 8 := Nat.mod_lt _ (by omega)
  generalize l.length / 8 = j at *
  generalize l.length % 8 = r at *
  unfold byteOf
  obtain rfl | rfl | rfl | rfl | rfl | rfl | rfl : r = 1 ∨ r = 2 ∨ r = 3 ∨ r = 4 ∨ r = 5 ∨ r = 6 ∨ r = 7 := by omega
  · rw [ho (8 * j + 1) (by omega), ho (8 * j + 2) (by omega), ho (8 * j + 3) (by omega), ho (8 * j + 4) (by omega), ho (8 * j + 5) (by omega), ho (8 * j + 6) (by omega), ho (8 * j + 7) (by omega)]; omega
  · rw [ho (8 * j + 2) (by omega), ho (8 * j + 3) (by omega), ho (8 * j + 4) (by omega), ho (8 * j + 5) (by omega), ho (8 * j + 6) (by omega), ho (8 * j + 7) (by omega)]; omega
  · rw [ho (8 * j + 3) (by omega), ho (8 * j + 4) (by omega), ho (8 * j + 5) (by omega), ho (8 * j + 6) (by omega), ho (8 * j + 7) (by omega)]; omega
  · rw [ho (8 * j + 4) (by omega), ho (8 * j + 5) (by omega), ho (8 * j + 6) (by omega), ho (8 * j + 7) (by omega)]; omega
  · rw [ho (8 * j + 5) (by omega), ho (8 * j + 6) (by omega), ho (8 * j + 7) (by omega)]; omega
  · rw [ho (8 * j + 6) (by omega), ho (8 * j + 7) (by omega)]; omega
  · rw [ho (8 * j + 7) (by omega)]; omega

theorem right_pack (l : List Bool) : rightB (pack (bytesFor l.length) l) l.length = true := by
  unfold rightB
  rw [pack_length, sizeOf8_nat]
  simp only [Int.natCast_nonneg, decide_true, Bool.true_and, Bool.or_eq_true, decide_eq_true_eq]
  by_cases h : l.length % 8 = 0
  · left; omega
  · right
    have e : bytesFor l.length - 1 = l.length / 8 := by unfold bytesFor; omega
    rw [e, pack_at _ _ _ (by unfold bytesFor; omega), show ((l.length : Int) % 8).toNat = l.length % 8 by omega]
    exact last_zero l h

theorem whole_byte : ∀ z : Fin 256, 128 * ((z.val : Int) / 2 ^ 7 % 2) + 64 * ((z.val : Int) / 2 ^ 6 % 2) + 32 * ((z.val : Int) / 2 ^ 5 % 2) + 16 * ((z.val : Int) / 2 ^ 4 % 2) + 8 * ((z.val : Int) / 2 ^ 3 % 2) + 4 * ((z.val : Int) / 2 ^ 2 % 2) + 2 * ((z.val : Int) / 2 ^ 1 % 2) + (z.val : Int) / 2 ^ 0 % 2 = z.val := by decide +kernel
theorem part_byte : ∀ r : Fin 8, ∀ z : Fin 256, (z.val : Int) * 2 ^ r.val % 256 = 0 → ∀ i : Fin 8, r.val ≤ i.val → (z.val : Int) / 2 ^ (7 - i.val) % 2 = 0 := by decide +kernel

theorem byte_of_bits (l : List Bool) (j : Nat) (z : Int) (hz : IsByte z) (h : ∀ i, i < 8 → bv l (8 * j + i) = z / 2 ^ (7 - i) % 2) : byteOf l j = z := by
  obtain ⟨h0, h1⟩ := hz
  obtain ⟨m, rfl⟩ := Int.eq_ofNat_of_zero_le h0
  have hb := whole_byte ⟨m, by omega⟩
  unfold byteOf
  rw [show bv l (8 * j) = (m : Int) / 2 ^ 7 % 2 from h 0 (by omega), h 1 (by omega), h 2 (by omega), h 3 (by omega), h 4 (by omega), h 5 (by omega), h 6 (by omega), h 7 (by omega)]
  exact hb

theorem right_unpack (zs : List Int) (n : Int) (hb : ∀ z ∈ zs, IsByte z) (h : rightB zs n = true) : ∃ l : List Bool, n = (l.length : Int) ∧ zs = pack (bytesFor l.length) l := by
  unfold rightB at h
  simp only [Bool.and_eq_true, Bool.or_eq_true, decide_eq_true_eq] at h
  obtain ⟨⟨h0, h1⟩, h2⟩ := h
  obtain ⟨k, rfl⟩ := Int.eq_ofNat_of_zero_le h0
  rw [sizeOf8_nat] at h1
  have hlen : zs.length = bytesFor k := by omega
  have hl : (first (bitZ zs) k).length = k := first_length _ _
  refine ⟨first (bitZ zs) k, by rw [hl], ?_⟩
  rw [hl]
  apply List.ext_getElem
  · rw [pack_length]; exact hlen
  · intro j hj1 hj2
    have hby : IsByte (zs[j]) := hb _ (List.getElem_mem _)
    have hget : zs[j]?.getD 0 = zs[j] := by simp [hj1]
    have hp : (pack (bytesFor k) (first (bitZ zs) k))[j] = byteOf (first (bitZ zs) k) j := by simp [pack, first]
    rw [hp]
    refine (byte_of_bits _ _ _ hby fun i hi => ?_).symm
    by_cases hk : 8 * j + i < k
    · rw [bv_first _ _ _ hk, ← bitI_eq]
      unfold bitI
      rw [show (8 * j + i) / 8 = j by omega, show (8 * j + i) % 8 = i by omega, hget]
    · rw [bv_over _ _ (by rw [hl]; omega)]
      have hr : k % 8 ≠ 0 := by unfold bytesFor at hlen; omega
      have hj : j = k / 8 := by unfold bytesFor at hlen; omega
      have h3 : zs[zs.length - 1]?.getD 0 * 2 ^ ((k : Int) % 8).toNat % 256 = 0 := by
        rcases h2 with h2 | h2
        · omega
        · exact h2
      rw [show zs.length - 1 = j by unfold bytesFor at hlen; omega, hget, show ((k : Int) % 8).toNat = k % 8 by omega] at h3
      obtain ⟨b0, b1⟩ := hby
      obtain ⟨m, hm⟩ := Int.eq_ofNat_of_zero_le b0
      rw [hm] at h3 b1 ⊢
      exact (part_byte ⟨k % 8, by omega⟩ ⟨m, by omega⟩ h3 ⟨i, hi⟩ (by show k % 8 ≤ i; omega)).symm

theorem pack_inj (l m : List Bool) (hl : l.length = m.length) (h : pack (bytesFor l.length) l = pack (bytesFor m.length) m) : l = m := by
  apply List.ext_getElem hl
  intro i h1 h2
  have e1 := bit_of_pack (bytesFor l.length) l i (by unfold bytesFor; omega)
  have e2 := bit_of_pack (bytesFor m.length) m i (by unfold bytesFor; omega)
  rw [h, e2] at e1
  simpa [h1, h2] using e1.symm
end Go.Proofs.YtegflmaobmibnaaGreatDoor
