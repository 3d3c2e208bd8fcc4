/- The document's own Take. -/
import Derived.Test.YtaaaehaiimmnhaaBitsT
namespace Go.Proofs.Ytaaaehaiimmnhaa
open Go.RowKit Go.Shelf
set_option linter.unusedVariables false

set_option maxRecDepth 100000 in
set_option maxHeartbeats 4000000 in
theorem takeR_bad (A : Option Addr) (cap : Nat) (zs : List Int) (N a k : Int) (w : World) (hr : Row w w.heap.size A (u8s zs)) (hb : ∀ z ∈ zs, IsByte z) (hl : zs.length ≤ maxLen)
    (hn1 : N ≤ 9223372036854775807) (hn0 : -9223372036854775808 ≤ N) (hbad : (rightB zs N && wideB k && decide (0 ≤ a)) = false) :
    Calls Try.prog 17 #[.agg #[.slice A zs.length cap, .int .i64 N], .int .i64 a, .int .i64 k] w fun e w' =>
      e = .returned (.tuple #[.int .i64 0, .int .i64 2]) ∧ Below w.heap.size w w' := by
  cases hok : rightB zs N with
  | false =>
    clear hbad
    go_enter Try.func17, Try.ntmps17
    go_wp2_with fail
    refine (rightR_any _ _ _ _ _ (by exact hr.on (below1 _ _)) hb hl hn1 hn0).mono ?_
    rw [hok]
    rintro e w' ⟨rfl, hB⟩
    go_wp2
    go_ret2
    exact ⟨rfl, (below1 _ _).trans (hB.mono (by simp))⟩
  | true =>
    rw [hok, Bool.true_and] at hbad
    by_cases h1 : k < 0
    · clear hbad
      go_enter Try.func17, Try.ntmps17
      go_wp2_with fail
      refine (rightR_any _ _ _ _ _ (by exact hr.on (below1 _ _)) hb hl hn1 hn0).mono ?_
      rw [hok]
      rintro e w' ⟨rfl, hB⟩
      go_wp2
      go_ret2
      exact ⟨rfl, (below1 _ _).trans (hB.mono (by simp))⟩
    · by_cases h2 : 32 < k
      · clear hbad
        go_enter Try.func17, Try.ntmps17
        go_wp2_with fail
        refine (rightR_any _ _ _ _ _ (by exact hr.on (below1 _ _)) hb hl hn1 hn0).mono ?_
        rw [hok]
        rintro e w' ⟨rfl, hB⟩
        go_wp2
        go_ret2
        exact ⟨rfl, (below1 _ _).trans (hB.mono (by simp))⟩
      · have ha : a < 0 := by
          have hw : wideB k = true := by simp [wideB]; omega
          rw [hw] at hbad
          simpa using hbad
        clear hbad
        go_enter Try.func17, Try.ntmps17
        go_wp2_with fail
        refine (rightR_any _ _ _ _ _ (by exact hr.on (below1 _ _)) hb hl hn1 hn0).mono ?_
        rw [hok]
        rintro e w' ⟨rfl, hB⟩
        go_wp2
        go_ret2
        exact ⟨rfl, (below1 _ _).trans (hB.mono (by simp))⟩

set_option maxRecDepth 100000 in
set_option maxHeartbeats 4000000 in
theorem takeR_short (A : Option Addr) (cap : Nat) (zs : List Int) (N a k : Int) (w : World) (hr : Row w w.heap.size A (u8s zs)) (hb : ∀ z ∈ zs, IsByte z) (hl : zs.length ≤ maxLen)
    (hn1 : N ≤ 9223372036854775807) (hn0 : 0 ≤ N) (hok : rightB zs N = true) (hw : wideB k = true) (ha : 0 ≤ a) (ha1 : a ≤ 9223372036854775807) (hshort : N - k < a) :
    Calls Try.prog 17 #[.agg #[.slice A zs.length cap, .int .i64 N], .int .i64 a, .int .i64 k] w fun e w' =>
      e = .returned (.tuple #[.int .i64 0, .int .i64 40]) ∧ Below w.heap.size w w' := by
  have hk : 0 ≤ k ∧ k ≤ 32 := by simpa [wideB] using hw
  obtain ⟨hk0, hk1⟩ := hk
  clear hw
  by_cases hN : N < a
  · go_enter Try.func17, Try.ntmps17
    go_wp2_with fail
    refine (rightR_any _ _ _ _ _ (by exact hr.on (below1 _ _)) hb hl hn1 (by omega)).mono ?_
    rw [hok]
    rintro e w' ⟨rfl, hB⟩
    have hbox := (Whole.new w 24 [.slice A zs.length cap, .int .i64 N]).below hB (by simp)
    have x1 := hbox.cell_at 1 rfl
    go_wp2
    go_ret2
    exact ⟨rfl, (below1 _ _).trans (hB.mono (by simp))⟩
  · have hs : N - a < k := by omega
    go_enter Try.func17, Try.ntmps17
    go_wp2_with fail
    refine (rightR_any _ _ _ _ _ (by exact hr.on (below1 _ _)) hb hl hn1 (by omega)).mono ?_
    rw [hok]
    rintro e w' ⟨rfl, hB⟩
    have hbox := (Whole.new w 24 [.slice A zs.length cap, .int .i64 N]).below hB (by simp)
    have x1 := hbox.cell_at 1 rfl
    go_wp2
    go_ret2
    exact ⟨rfl, (below1 _ _).trans (hB.mono (by simp))⟩

theorem bitsAt_succ (l : List Bool) (a k : Nat) : bitsAt l a (k + 1) = bitsAt l a k ++ [l[a + k]?.getD false] := first_succ _ _
theorem bitsAt_length (l : List Bool) (a k : Nat) : (bitsAt l a k).length = k := first_length _ _

set_option maxRecDepth 100000 in
set_option maxHeartbeats 4000000 in
theorem takeR_ok (A : Option Addr) (cap : Nat) (l : List Bool) (a k : Nat) (w : World) (hr : Row w w.heap.size A (u8s (pack (bytesFor l.length) l))) (hl : l.length ≤ 549755813888) (hk : k ≤ 32) (hak : a + k ≤ l.length) (hok : rightB (pack (bytesFor l.length) l) l.length = true) :
    Calls Try.prog 17 #[.agg #[.slice A (bytesFor l.length) cap, .int .i64 l.length], .int .i64 (a : Int), .int .i64 (k : Int)] w fun e w' =>
      e = .returned (.tuple #[.int .i64 (numOf (bitsAt l a k)), .int .i64 0]) ∧ Below w.heap.size w w' := by
  have hlen : (pack (bytesFor l.length) l).length = bytesFor l.length := pack_length _ _
  have hRight := fun W hr' => rightR_any A cap (pack (bytesFor l.length) l) l.length W hr' (pack_byte _ _) (by rw [hlen]; unfold maxLen bytesFor; omega) (by omega) (by omega)
  have hBit := fun i W hr' hi => bitR_any A cap (pack (bytesFor l.length) l) l.length i W hr' (pack_byte _ _) (by rw [hlen]; unfold bytesFor; omega) hi
  rw [hlen, hok] at hRight
  rw [hlen] at hBit
  have HRight := Lib.hid hRight
  have HBit := Lib.hid hBit
  clear hRight hBit hok hlen
  have hal : (a : Int) ≤ l.length := by omega
  have hkl : (k : Int) ≤ (l.length : Int) - a := by omega
  have d1 : decide ((k : Int) < 0) = false := by simp
  have d2 : decide ((32 : Int) < k) = false := by simp; omega
  have d3 : decide ((a : Int) < 0) = false := by simp
  have d4 : decide ((l.length : Int) < a) = false := by simp; omega
  have d5 : decide ((l.length : Int) - a < k) = false := by simp; omega
  have d6 : decide (l.length < a) = false := by simp; omega
  go_enter Try.func17, Try.ntmps17
  go_wp2_with fail
  refine (HRight.out _ (by exact hr.on (below1 _ _))).mono ?_
  rintro e w1 ⟨rfl, hB⟩
  have hbox := (Whole.new w 24 [.slice A (bytesFor l.length) cap, .int .i64 l.length]).below hB (by simp)
  have hBw := (below1 _ _).trans (hB.mono (by simp))
  clear hB
  have x0 := hbox.cell_at 0 rfl
  have x1 := hbox.cell_at 1 rfl
  go_wp2_with fail
  go_loopw [8, 9] (fun n i wr => ∃ j : Nat, j ≤ k ∧ i = .int .i64 j ∧ n = .int .i64 (numOf (bitsAt l a j)) ∧ Whole wr w.heap.size 24 [.slice A (bytesFor l.length) cap, .int .i64 l.length] ∧ Below w.heap.size w wr)
    (fun _ i _ => k - (intOf i).toNat)
  case atStart => exact ⟨0, Nat.zero_le _, rfl, rfl, hbox, hBw⟩
  case round =>
    obtain ⟨j, hj, rfl, rfl, hbx, hBr⟩ := hrel
    clear x0 x1 hbox
    have y0 := hbx.cell_at 0 rfl
    have y1 := hbx.cell_at 1 rfl
    by_cases hlt : j < k
    · have hp : (2 : Int) ^ j ≤ 4294967296 := by
        have h1 : (2 : Nat) ^ j ≤ 2 ^ 32 := Nat.pow_le_pow_right (by omega) (by omega)
        have h2 : (((2 : Nat) ^ j : Nat) : Int) = (2 : Int) ^ j := by simp
        rw [← h2]; omega
      obtain ⟨hn0, hn1⟩ := numOf_bd (bitsAt l a j)
      rw [bitsAt_length] at hn1
      have hn2 : numOf (bitsAt l a j) ≤ 4294967296 := by omega
      clear hn1 hp
      go_wp2_with fail
      rw [show (a : Int) + j = ((a + j : Nat) : Int) by omega]
      refine (HBit.out (a + j) _ (by exact hr.on hBr) (by unfold bytesFor; omega)).mono ?_
      rintro e w2 ⟨rfl, hB2⟩
      obtain ⟨z, hz⟩ : ∃ z, bitI (pack (bytesFor l.length) l) (a + j) = z := ⟨_, rfl⟩
      have hz' : z = if l[a + j]?.getD false then 1 else 0 := by
        rw [← hz, bitI_eq, bit_of_pack _ _ _ (by unfold bytesFor; omega)]
      have hz0 : 0 ≤ z := by rw [hz']; split <;> omega
      have hz1 : z ≤ 1 := by rw [hz']; split <;> omega
      rw [hz]
      have HZ := Lib.hid hz'
      clear hz hz' y0 y1
      have hbx2 := hbx.below hB2 (by have := hbx.lt; omega)
      have hBr2 := hBr.trans (hB2.mono hBr.size)
      go_wp2
      go_roundw
      case rel => exact ⟨j + 1, by omega, by go_num, by rw [bitsAt_succ, numOf_snoc, ← HZ.out], hbx2, hBr2⟩
      case measure => simp [intOf]; omega
    · obtain rfl : j = k := by omega
      go_wp2
      go_ret2
      exact ⟨rfl, hBr⟩
end Go.Proofs.Ytaaaehaiimmnhaa
