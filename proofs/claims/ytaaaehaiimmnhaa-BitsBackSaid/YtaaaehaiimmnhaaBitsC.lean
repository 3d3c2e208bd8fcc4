/- The three sequences of bits: the digits of a number, a span of bits, a list of flags. -/
import Derived.RangeFuncNested
import Derived.RangeFuncBound
import Derived.RangeFuncCalls
import Derived.RangeFuncLeaves
import Derived.RangeFuncBox
import Derived.Shelf.Abstract
import Derived.Shelf.RegionOpen
import Derived.WalkKit
import Derived.OwnWalkIn
import Derived.TacticsInMore
import Derived.LoopNIn
import Derived.LoopIn
import Derived.Test.YtaaaehaiimmnhaaBitsB
import Derived.Test.YtaaaehaiimmnhaaPack
namespace Go.Proofs.Ytaaaehaiimmnhaa
open Go.RowKit Go.Shelf
set_option linter.unusedVariables false
attribute [local go_sem] Oper.semAt_some

/-- The j-th of the k digits of n, the highest first. -/
def digit (n : Int) (k : Nat) (j : Nat) : Bool := n / 2 ^ (k - 1 - j) % 2 == 1

set_option maxRecDepth 100000 in
set_option maxHeartbeats 2000000 in
theorem digits1_in (F : Fence) (m : Nat) (hF : F.fn 35) (hro : F.round = none) (hm : 1 ≤ m) (l Bk Bn n₀ k : Nat) (n : Int) (hn : 0 ≤ n) (hn1 : n ≤ 9223372036854775807) (hk : k ≤ 32) (hBk : Bk < n₀) (hBn : Bn < n₀) (J Jx : List Bool → World → Prop)
    (hY : ∀ pre x W, J pre W → pre.length < k → YieldAt F (m - 1) Try.prog l #[.bool x] W fun e W' =>
      (e = .returned (.bool true) ∧ J (pre ++ [x]) W' ∧ Below n₀ W W') ∨ (e = .returned (.bool false) ∧ Jx (pre ++ [x]) W'))
    (W : World) (hck : W.cell? ⟨Bk, 0, none⟩ = some (.int .i64 k)) (hcn : W.cell? ⟨Bn, 0, none⟩ = some (.int .i64 n)) (h0 : J [] W) :
    CallsIn F m Try.prog 35 #[.func (.yield l) #[] #[], .pointer (some ⟨Bk, 0, none⟩), .pointer (some ⟨Bn, 0, none⟩)] W fun e W' => (∃ v, e = .returned v) ∧
      ((∃ ys, ys = first (digit n k) k ∧ J ys W') ∨ (∃ pre, (∃ j, j ≤ k ∧ pre = first (digit n k) j) ∧ Jx pre W')) := by
  refine callsIn_of_wp Try.func35 rfl hF ?_ hro
  simp only [Try.ntmps35, List.size_toArray, List.length_cons, List.length_nil, Nat.reduceAdd, Nat.reduceSub, Array.replicate_succ, Array.replicate_zero, List.push_toArray, List.append_toArray, List.nil_append, List.cons_append]
  gi_wp2
  gi_loopw [4] (fun i wr => ∃ j : Nat, j ≤ k ∧ i = .int .i64 ((k : Int) - 1 - j) ∧ J (first (digit n k) j) wr ∧ Below n₀ W wr)
    (fun i _ => (intOf i + 1).toNat)
  case atStart => exact ⟨0, Nat.zero_le _, by simp, h0, Below.refl _ _⟩
  case round =>
    obtain ⟨j, hj, rfl, hJs, hnx⟩ := hrel
    have hck' := (hnx.cell (p := ⟨Bk, 0, none⟩) hBk).trans hck
    have hcn' := (hnx.cell (p := ⟨Bn, 0, none⟩) hBn).trans hcn
    by_cases hlt : j < k
    · obtain ⟨fn, tmps, assign, body, hy, hR⟩ := hY _ (digit n k j) wr hJs (by rw [first_length]; exact hlt)
      have hge : (0 : Int) ≤ (k : Int) - 1 - j := by omega
      have hdig : (bits BinOp.and IntKind.i64 (n / 2 ^ (k - 1 - j)) 1 == 1) = digit n k j := by
        rw [low_bit_i64 _ (Int.ediv_nonneg hn (Int.le_of_lt (Int.pow_pos (by omega)))) (Int.le_trans (Int.ediv_le_self _ hn) hn1)]; rfl
      gi_wp2
      refine hR.mono ?_
      rintro e W3 (⟨rfl, hJ3, hk3⟩ | ⟨rfl, hJx3⟩)
      · gi_wp2
        go_roundw
        case rel => exact ⟨j + 1, by omega, by go_num, by rw [first_succ]; exact hJ3, hnx.trans hk3⟩
        case measure => simp [intOf]; omega
      · gi_wp2
        refine bodyPost_ret (results_none rfl _ _ _) rfl ?_
        exact ⟨⟨_, rfl⟩, .inr ⟨_, ⟨j + 1, by omega, (first_succ _ _).symm⟩, hJx3⟩⟩
    · obtain rfl : j = k := by omega
      gi_wp2
      go_end0
      exact ⟨⟨_, rfl⟩, .inl ⟨_, rfl, hJs⟩⟩

set_option maxHeartbeats 1000000 in
/-- digits(n, k): n and k are boxed; the function value captures both. -/
theorem digits_in (F : Fence) (m : Nat) (hF : F.fn 26) (hro : F.round = none) (n k : Int) (w : World) :
    CallsIn F m Try.prog 26 #[.int .i64 n, .int .i64 k] w fun e w' =>
      e = .returned (.func (.func 35) #[] #[.pointer (some ⟨w.heap.size + 1, 0, none⟩), .pointer (some ⟨w.heap.size, 0, none⟩)]) ∧ w' = (w.alloc (.cells #[.int .i64 n] 3)).alloc (.cells #[.int .i64 k] 3) := by
  refine callsIn_of_wp Try.func26 rfl hF ?_ hro
  simp only [Try.ntmps26, List.size_toArray, List.length_cons, List.length_nil, Nat.reduceAdd, Nat.reduceSub, Array.replicate_succ, Array.replicate_zero, List.push_toArray, List.append_toArray, List.nil_append, List.cons_append]
  gi_wp2
  go_ret
  exact ⟨rfl, rfl⟩

/-- A list of bits' encoding for a round of one variable. -/
def encB (x : Bool) : Array Value := #[.bool x]

theorem digits_stops (F : Fence) (m : Nat) (hF : F.fn 35) (hro : F.round = none) (hm : 1 ≤ m) (Bk Bn n₀ k : Nat) (n : Int) (hn : 0 ≤ n) (hn1 : n ≤ 9223372036854775807) (hk : k ≤ 32) (w : World) (hBk : Bk < n₀) (hBn : Bn < n₀) (hn₀ : n₀ ≤ w.heap.size)
    (hck : w.cell? ⟨Bk, 0, none⟩ = some (.int .i64 k)) (hcn : w.cell? ⟨Bn, 0, none⟩ = some (.int .i64 n)) :
    SeqStopsK F m Try.prog 35 #[.pointer (some ⟨Bk, 0, none⟩), .pointer (some ⟨Bn, 0, none⟩)] encB (Below n₀) (fun ys => ys = first (digit n k) k)
      (fun pre => ∃ j, j ≤ k ∧ pre = first (digit n k) j) k w := fun l J Jx W hW _ _ hY h0 =>
  digits1_in F m hF hro hm l Bk Bn n₀ k n hn hn1 hk hBk hBn J Jx hY W ((hW.cell (p := ⟨Bk, 0, none⟩) (by show Bk < _; omega)).trans hck) ((hW.cell (p := ⟨Bn, 0, none⟩) (by show Bn < _; omega)).trans hcn) h0
end Go.Proofs.Ytaaaehaiimmnhaa
