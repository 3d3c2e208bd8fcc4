/- The bits of bytes, one by one: package crc's lowestFirst; and the states behind them: Go. -/
import Derived.RangeFuncNested
import Derived.RangeFuncBound
import Derived.RangeFuncCalls
import Derived.RangeFuncLeaves
import Derived.RangeFuncBox
import Derived.Shelf.Abstract
import Derived.Shelf.RegionOpen
import Derived.WalkKit
import Derived.OwnWalkIn
import Derived.TacticsInMore
import Derived.LoopNIn
import Derived.LoopIn
import Derived.Test.YtgpofgepffhcnaaCrcA
import Derived.Test.YtgpofgepffhcnaaRound
namespace Go.Proofs.Ytgpofgepffhcnaa
open Go.RowKit Go.Shelf
set_option linter.unusedVariables false
attribute [local go_sem] Oper.semAt_some

theorem shift_bit (z : Int) (k : Nat) (h0 : 0 ≤ z) (h1 : z ≤ 255) : (bits BinOp.and IntKind.u8 (z / 2 ^ k) 1 == 1) = z.toNat.testBit k := by
  rw [low_bit_u8 _ (Int.ediv_nonneg h0 (Int.le_of_lt (Int.pow_pos (by omega)))) (Int.le_trans (Int.ediv_le_self _ h0) h1)]
  obtain ⟨n, rfl⟩ := Int.eq_ofNat_of_zero_le h0
  rw [Nat.testBit_eq_decide_div_mod_eq, Int.toNat_natCast, Bool.eq_iff_iff]
  simp only [beq_iff_eq, decide_eq_true_eq]
  have e : ((n : Int) / 2 ^ k) % 2 = ((n / 2 ^ k % 2 : Nat) : Int) := by simp
  rw [e]; omega

/-- What has come behind i bytes and k bits. -/
def cameB (zs : List Int) (i k : Nat) : List Bool := bitsOf (zs.take i) ++ (byteBits (zs[i]?.getD 0)).take k
theorem cameB_zero (zs : List Int) (i : Nat) : cameB zs i 0 = bitsOf (zs.take i) := by simp [cameB]
theorem cameB_snoc (zs : List Int) (i k : Nat) (hk : k < 8) : cameB zs i (k + 1) = cameB zs i k ++ [(zs[i]?.getD 0).toNat.testBit k] := by
  unfold cameB byteBits
  rw [List.append_assoc, List.take_add_one]
  congr 2
  simp [hk]
theorem cameB_next (zs : List Int) (i : Nat) (hi : i < zs.length) : cameB zs i 8 = bitsOf (zs.take (i + 1)) := by
  unfold cameB
  have h8 : (byteBits (zs[i]?.getD 0)).take 8 = byteBits (zs[i]?.getD 0) := List.take_of_length_le (by rw [byteBits_length]; exact Nat.le_refl _)
  rw [h8, List.take_succ_eq_append_getElem hi, bitsOf_append]
  simp [hi, bitsOf]
theorem cameB_length (zs : List Int) (i k : Nat) (hi : i < zs.length) (hk : k < 8) : (cameB zs i k).length < 8 * zs.length := by
  unfold cameB
  rw [List.length_append, bitsOf_length, List.length_take, List.length_take, byteBits_length]
  omega

set_option maxRecDepth 100000 in
set_option maxHeartbeats 4000000 in
theorem lowest1_in (F : Fence) (m : Nat) (hF : F.fn 40) (hro : F.round = none) (hm : 1 ≤ m) (l Bx n₀ cap : Nat) (A : Option Addr) (zs : List Int) (hz : ∀ z ∈ zs, IsByte z) (hzl : zs.length ≤ maxLen) (Kp : World → World → Prop) (Pp : Nat → Prop) (hKp : ∀ X Y, Kp X Y → KeepCells Pp X Y) (hBx : Pp Bx) (hPn : ∀ b, b < n₀ → Pp b) (J Jx : List Bool → World → Prop)
    (hY : ∀ pre x W, J pre W → pre.length < 8 * zs.length → YieldAt F (m - 1) Try.prog l #[.bool x] W fun e W' =>
      (e = .returned (.bool true) ∧ J (pre ++ [x]) W' ∧ Kp W W') ∨ (e = .returned (.bool false) ∧ Jx (pre ++ [x]) W'))
    (W : World) (hx0 : W.cell? ⟨Bx, 0, none⟩ = some (.slice A zs.length cap)) (hr : Row W n₀ A (u8s zs)) (h0 : J [] W) :
    CallsIn F m Try.prog 40 #[.func (.yield l) #[] #[], .pointer (some ⟨Bx, 0, none⟩)] W fun e W' => (∃ v, e = .returned v) ∧
      ((∃ ys, ys = bitsOf zs ∧ J ys W') ∨ (∃ pre, True ∧ Jx pre W')) := by
  unfold maxLen at hzl
  refine callsIn_of_wp Try.func40 rfl hF ?_ hro
  simp only [Try.ntmps40, List.size_toArray, List.length_cons, List.length_nil, Nat.reduceAdd, Nat.reduceSub, Array.replicate_succ, Array.replicate_zero, List.push_toArray, List.append_toArray, List.nil_append, List.cons_append]
  gi_wp2
  gi_loopw [8] (fun i wr => ∃ j : Nat, j ≤ zs.length ∧ i = .int .i64 j ∧ J (bitsOf (zs.take j)) wr ∧ KeepCells Pp W wr)
    (fun i _ => zs.length - (intOf i).toNat)
  case atStart => exact ⟨0, Nat.zero_le _, by simp, by rw [List.take_zero]; exact h0, KeepCells.refl _ _⟩
  case round =>
    obtain ⟨j, hj, rfl, hJs, hnx⟩ := hrel
    by_cases hlt : j < zs.length
    · obtain ⟨b, off, rfl, hbl, hc⟩ := (hr.keep (Nat.le_refl _) (fun p hp => hnx p (hPn _ hp))).byte (k := j) hlt
      have hbz : IsByte (zs[j]?.getD 0) := hz _ (by rw [List.getElem?_eq_getElem hlt]; exact List.getElem_mem _)
      obtain ⟨hz0, hz1⟩ := hbz
      have hJ0 : J (cameB zs j 0) wr := by rw [cameB_zero]; exact hJs
      have HLT := Lib.hid hlt
      clear hJs
      have hlt' : (j : Int) < zs.length := by omega
      generalize hzv : zs[j]?.getD 0 = zv at hz0 hz1 hc
      have HZV := Lib.hid hzv
      clear hzv
      gi_wp2
      gi_loopw [12] (fun i wr => ∃ k : Nat, k ≤ 8 ∧ i = .int .i64 k ∧ J (cameB zs j k) wr ∧ KeepCells Pp W wr)
        (fun i _ => 8 - (intOf i).toNat)
      case atStart => exact ⟨0, Nat.zero_le _, rfl, hJ0, hnx⟩
      case round =>
        obtain ⟨k, hk, rfl, hJk, hnk⟩ := hrel
        by_cases hk8 : k < 8
        · obtain ⟨fn, tmps, assign, body, hy, hR⟩ := hY _ (zv.toNat.testBit k) _ hJk (cameB_length zs j k HLT.out hk8)
          have hdig := shift_bit zv k hz0 hz1
          have hk8' : (k : Int) < 8 := by omega
          gi_wp2
          refine hR.mono ?_
          rintro e W3 (⟨rfl, hJ3, hk3⟩ | ⟨rfl, hJx3⟩)
          · gi_wp2
            go_roundw
            case rel => exact ⟨k + 1, by omega, by go_num, by rw [cameB_snoc zs j k hk8, HZV.out]; exact hJ3, hnk.trans (hKp _ _ hk3)⟩
            case measure => simp [intOf]; omega
          · gi_wp2
            refine bodyPost_ret (results_none rfl _ _ _) rfl ?_
            exact ⟨⟨_, rfl⟩, .inr ⟨_, trivial, hJx3⟩⟩
        · obtain rfl : k = 8 := by omega
          rw [cameB_next zs j HLT.out] at hJk
          gi_wp2
          go_roundw
          case rel => exact ⟨j + 1, HLT.out, by go_num, hJk, hnk⟩
          case measure => simp [intOf]; omega
    · obtain rfl : j = zs.length := by omega
      rw [List.take_length] at hJs
      gi_wp2
      go_end0
      exact ⟨⟨_, rfl⟩, .inl ⟨_, rfl, hJs⟩⟩

set_option maxHeartbeats 1000000 in
theorem lowest_in (F : Fence) (m : Nat) (hF : F.fn 38) (hro : F.round = none) (A : Option Addr) (len cap : Nat) (w : World) :
    CallsIn F m Try.prog 38 #[.slice A len cap] w fun e w' =>
      e = .returned (.func (.func 40) #[] #[.pointer (some ⟨w.heap.size, 0, none⟩)]) ∧ w' = w.alloc (.cells #[.slice A len cap] 22) := by
  refine callsIn_of_wp Try.func38 rfl hF ?_ hro
  simp only [Try.ntmps38, List.size_toArray, List.length_cons, List.length_nil, Nat.reduceAdd, Nat.reduceSub, Array.replicate_succ, Array.replicate_zero, List.push_toArray, List.append_toArray, List.nil_append, List.cons_append]
  gi_wp2
  go_ret
  exact ⟨rfl, rfl⟩

theorem lowest_stops (F : Fence) (m : Nat) (hF : F.fn 40) (hro : F.round = none) (hm : 1 ≤ m) (Bx n₀ cap : Nat) (A : Option Addr) (zs : List Int) (hz : ∀ z ∈ zs, IsByte z) (hzl : zs.length ≤ maxLen) (w : World) (Kp : World → World → Prop) (Pp : Nat → Prop) (hKp : ∀ X Y, Kp X Y → KeepCells Pp X Y) (hBx : Pp Bx) (hPn : ∀ b, b < n₀ → Pp b) (hn₀ : n₀ ≤ w.heap.size) (hBx' : Bx < w.heap.size)
    (hx0 : w.cell? ⟨Bx, 0, none⟩ = some (.slice A zs.length cap)) (hr : Row w n₀ A (u8s zs)) :
    SeqStopsK F m Try.prog 40 #[.pointer (some ⟨Bx, 0, none⟩)] encB Kp (fun ys => ys = bitsOf zs) (fun _ => True) (8 * zs.length) w := fun l J Jx W hW _ _ hY h0 =>
  lowest1_in F m hF hro hm l Bx n₀ cap A zs hz hzl Kp Pp hKp hBx hPn J Jx hY W ((hW.cell (p := ⟨Bx, 0, none⟩) hBx').trans hx0) (hr.below (hW.mono hn₀)) h0

set_option maxRecDepth 100000 in
set_option maxHeartbeats 4000000 in
theorem go_any (s : BitVec 16) (A : Option Addr) (cap : Nat) (zs : List Int) (w : World) (hr : Row w w.heap.size A (u8s zs)) (hz : ∀ z ∈ zs, IsByte z) (hzl : zs.length ≤ maxLen) :
    Calls Try.prog 36 #[.int .u16 (numS s), .slice A zs.length cap] w fun e w' => e = .returned (.int .u16 (numS (goB s zs))) ∧ Below w.heap.size w w' := by
  refine (callsIn_wide (n := 4)).1 ?_
  refine callsIn_of_wp_marks Try.func36 rfl trivial ?_ rfl
  simp only [Try.ntmps36, List.size_toArray, List.length_cons, List.length_nil, Nat.reduceAdd, Nat.reduceSub, Array.replicate_succ, Array.replicate_zero, List.push_toArray, List.append_toArray, List.nil_append, List.cons_append]
  gi_wp2_with fail
  refine ⟨trivial, (lowest_in Fence.wide 3 trivial rfl A zs.length cap _).mono ?_⟩
  rintro e w2 ⟨rfl, rfl⟩
  gi_wp2_with fail
  obtain ⟨W0, hW0, hsz, hb0, hst, hxx⟩ : ∃ W0, ((w.alloc (.cells #[.int .u16 (numS s)] 38)).alloc (.cells #[.slice A zs.length cap] 22)) = W0 ∧ W0.heap.size = w.heap.size + 1 + 1 ∧ Below w.heap.size w W0 ∧ Whole W0 w.heap.size 38 [.int .u16 (numS s)] ∧
      Whole W0 (w.heap.size + 1) 22 [.slice A zs.length cap] :=
    ⟨_, rfl, by simp, below2 _ _ _, (Whole.new w _ [_]).alloc _, Whole.new_at _ _ [_] _ (by simp)⟩
  rw [hW0]
  clear hW0
  have hseq := lowest_stops Fence.wide 3 trivial rfl (by omega) (w.heap.size + 1) w.heap.size cap A zs hz hzl W0
    (BelowBut W0.heap.size w.heap.size) (fun b => b < W0.heap.size ∧ b ≠ w.heap.size) (fun X Y h => h.keeps) (by omega) (fun b hb => by omega) (by omega) (by omega) (hxx.cell_at 0 rfl) (hr.below hb0)
  have hl0 : w.heap.size < W0.heap.size := by omega
  have HSZ := Lib.hid hsz
  clear hsz hxx
  refine wpIn_rangeFunc_ownF rfl (by omega) (gf := 40) rfl trivial (enters_of Try.func40 (by kernel_rfl) rfl) hseq BelowBut.trans (BelowBut.put (Nat.le_refl _)) (Below.refl _ _) (fun _ => rfl)
    (fun pre W => Whole W w.heap.size 38 [.int .u16 (numS (goS s pre))] ∧ Below w.heap.size w W)
    (fun _ _ _ => False)
    (OwnFrom.and (Own.from (fun s X Y row hs hg hr => hs.abides hg hr) _) (ownFrom_below (Nat.le_refl _) (by omega)))
    (fun _ _ _ _ _ hs _ _ => hs)
    ⟨hst, hb0⟩ ?a1 ?assign ?body ?done ?stop
  case stop =>
    rintro D c pre W _ _ h _
    exact h.elim
  case assign =>
    intro lr x W K hK
    unfold encB
    gi_wp2
    exact hK
  case body =>
    rintro lr pre x W ⟨hn, hB⟩ hlt
    have c0 := hn.cell_at 0 rfl
    have f0 := hn.frozen 0
    gi_wp2_with fail
    refine ⟨trivial, (CallsIn.inRound _ (callsIn_wide.2 (bit_any _ _ _))).mono ?_⟩
    rintro e w3 ⟨rfl, rfl⟩
    gi_wp2
    refine ⟨KeepsOthers.setCell _ _ _, BelowBut.set _ _ _, ?_, hB.setCell (p := ⟨w.heap.size, 0, none⟩) (Nat.le_refl _) _⟩
    have h := hn.set 0 (.int .u16 (numS (stepS (goS s pre) x)))
    rw [goS_snoc]
    exact h
  case done =>
    rintro D ys W hD rfl ⟨hn, hB⟩ hK
    have c0 := hn.cell_at 0 rfl
    gi_wp2
    refine ⟨by simp, .inl ⟨_, _, rfl, run_takeDeferred hK, ?_⟩⟩
    refine ⟨_, results_tmp rfl _ _ _, rfl, hB.trans (belowK_b (w := w) (Nat.le_refl _) W D _ _ (by have := HSZ.out; omega) hK rfl rfl)⟩
end Go.Proofs.Ytgpofgepffhcnaa
