/- The document's own Go, Sum, Close, Open. -/
import Derived.Test.YtgpofgepffhcnaaCrcC
namespace Go.Proofs.Ytgpofgepffhcnaa
open Go.RowKit Go.Shelf
set_option linter.unusedVariables false

theorem cameB_le (s : BitVec 16) (zs : List Int) (i k : Nat) : goS (goB s (zs.take i)) ((byteBits (zs[i]?.getD 0)).take k) = goS s (cameB zs i k) := by
  unfold cameB goB
  rw [goS_append]

set_option maxRecDepth 100000 in
set_option maxHeartbeats 2000000 in
theorem goR_any (s : BitVec 16) (A : Option Addr) (cap : Nat) (zs : List Int) (w : World) (hr : Row w w.heap.size A (u8s zs)) (hz : ∀ z ∈ zs, IsByte z) (hzl : zs.length ≤ maxLen) :
    Calls Try.prog 35 #[.int .u16 (numS s), .slice A zs.length cap] w fun e w' => e = .returned (.int .u16 (numS (goB s zs))) ∧ w = w' := by
  unfold maxLen at hzl
  go_enter Try.func35, Try.ntmps35
  go_wp2_with fail
  go_loop [0, 5] (fun t i => ∃ j : Nat, j ≤ zs.length ∧ i = .int .i64 j ∧ t = .int .u16 (numS (goS s (bitsOf (zs.take j))))) (fun _ i => zs.length - (intOf i).toNat)
  case atStart => exact ⟨0, Nat.zero_le _, rfl, rfl⟩
  case round =>
    obtain ⟨j, hj, rfl, rfl⟩ := hrel
    by_cases hlt : j < zs.length
    · obtain ⟨b, off, rfl, hbl, hc⟩ := hr.byte (k := j) hlt
      have hbz : IsByte (zs[j]?.getD 0) := hz _ (by rw [List.getElem?_eq_getElem hlt]; exact List.getElem_mem _)
      obtain ⟨hz0, hz1⟩ := hbz
      have HLT := Lib.hid hlt
      have hlt' : (j : Int) < zs.length := by omega
      generalize hzv : zs[j]?.getD 0 = zv at hz0 hz1 hc
      have HZV := Lib.hid hzv
      clear hzv
      rw [← cameB_zero]
      go_wp2_with fail
      go_loop [0, 6] (fun t i => ∃ k : Nat, k ≤ 8 ∧ i = .int .i64 k ∧ t = .int .u16 (numS (goS s (cameB zs j k)))) (fun _ i => 8 - (intOf i).toNat)
      case atStart => exact ⟨0, Nat.zero_le _, rfl, rfl⟩
      case round =>
        obtain ⟨k, hk, rfl, rfl⟩ := hrel
        by_cases hk8 : k < 8
        · have hdig := shift_bit zv k hz0 hz1
          have hk8' : (k : Int) < 8 := by omega
          go_wp2_with fail
          refine (bitR_any _ _ _).mono ?_
          rintro e w' ⟨rfl, rfl⟩
          go_wp2_with fail
          go_round
          case rel => exact ⟨k + 1, by omega, by go_num, by rw [cameB_snoc zs j k hk8, HZV.out, goS_snoc]⟩
          case measure => simp [intOf]; omega
        · obtain rfl : k = 8 := by omega
          rw [cameB_next zs j HLT.out]
          go_wp2_with fail
          go_round
          case rel => exact ⟨j + 1, HLT.out, by go_num, rfl⟩
          case measure => simp [intOf]; omega
    · obtain rfl : j = zs.length := by omega
      rw [List.take_length]
      go_wp2_with fail
      go_ret
      exact ⟨rfl, rfl⟩

theorem goR_ffff (A : Option Addr) (cap : Nat) (zs : List Int) (w : World) (hr : Row w w.heap.size A (u8s zs)) (hz : ∀ z ∈ zs, IsByte z) (hzl : zs.length ≤ maxLen) :
    Calls Try.prog 35 #[.int .u16 65535, .slice A zs.length cap] w fun e w' => e = .returned (.int .u16 (numS (goB 0xffff#16 zs))) ∧ w = w' :=
  goR_any 0xffff#16 A cap zs w hr hz hzl

set_option maxHeartbeats 1000000 in
theorem sumR_any (A : Option Addr) (cap : Nat) (zs : List Int) (w : World) (hr : Row w w.heap.size A (u8s zs)) (hz : ∀ z ∈ zs, IsByte z) (hzl : zs.length ≤ maxLen) :
    Calls Try.prog 31 #[.slice A zs.length cap] w fun e w' => e = .returned (.int .u16 (numS (sumB zs))) ∧ w = w' := by
  go_enter Try.func31, Try.ntmps31
  go_wp2_with fail
  refine (goR_ffff A cap zs _ hr hz hzl).mono ?_
  rintro e w' ⟨rfl, rfl⟩
  go_wp2_with fail
  go_ret
  exact ⟨ret_int (u16_flip _), rfl⟩

set_option maxHeartbeats 2000000 in
theorem closeR_any (A : Option Addr) (cap : Nat) (zs : List Int) (w : World) (hr : Row w w.heap.size A (u8s zs)) (hz : ∀ z ∈ zs, IsByte z) (hzl : zs.length ≤ 549755813888) :
    Calls Try.prog 23 #[.slice A zs.length cap] w fun e w' => ∃ A' c', e = .returned (.slice A' (zs.length + 2) c') ∧ Row w' w'.heap.size A' (u8s (closeB zs)) ∧ zs.length + 2 ≤ c' ∧ Below w.heap.size w w' := by
  obtain ⟨g2, c2, w2, happ2, hown2, hB2⟩ := append_empty A cap zs w hr (by omega)
  have hg2 := owns_lt hown2
  obtain ⟨w4, hw4, hB4, hown4, hrow4⟩ : ∃ w4, w2.alloc (.cells #[.int .u8 (numS (sumB zs) % 256), .int .u8 (numS (sumB zs) / 256 % 256)] 5) = w4 ∧ Below w.heap.size w w4 ∧ w4.ownsRow w.heap.size 5 1 (.slice (some ⟨g2, 0, none⟩) zs.length c2) zs.length (u8s zs) ∧
      Row w4 w4.heap.size (some ⟨w2.heap.size, 0, none⟩) (u8s [lowB (sumB zs), highB (sumB zs)]) := by
    refine ⟨_, rfl, hB2.alloc hB2.size _, owns_below hown2 (below1 w2 _) (by omega), ?_⟩
    have h := (Whole.new w2 5 [.int .u8 (numS (sumB zs) % 256), .int .u8 (numS (sumB zs) / 256 % 256)]).row (B := w2.heap.size + 1) (by omega)
    rw [sum_low, sum_high] at h ⊢
    simpa [u8s] using h
  obtain ⟨g', c', w5, happ, hown5, hG5, hg'⟩ := append_run (P := Try.prog) 22 22 5 (.int .u8 0) 1 Try.underlying22 info_u8 rfl w.heap.size _ _ _ (u8s zs) (u8s [lowB (sumB zs), highB (sumB zs)]) w4 hown4 w4.heap.size 2 _ hrow4 (u8s_one _) (by simp [u8s]; unfold maxLen; omega) (by simp [u8s]; omega) hB4.size
  have hB5 : Below w.heap.size w w5 := hB4.grown hG5 hB4.size (fun k e => by cases e; exact hg2.1)
  have hrow5 := owns_row hown5 (owns_lt hown5).2
  rw [show (u8s [lowB (sumB zs), highB (sumB zs)]).length = 2 from rfl] at happ
  rw [← hw4] at happ
  have HA := Lib.hid happ
  have HA2 := Lib.hid happ2
  clear happ hw4 happ2
  go_enter Try.func23, Try.ntmps23
  go_wp2_with fail
  refine (sumR_any A cap zs _ hr hz (by unfold maxLen; omega)).mono ?_
  rintro e w' ⟨rfl, rfl⟩
  go_wp2_with (first
    | (at_builtin; refine list_append rfl (.tmp 6) (.tmp 7) 22 rfl HA2.out ?_)
    | (at_builtin; refine list_append rfl (.tmp 8) (.tmp 14) 22 rfl HA.out ?_))
  go_ret
  refine ⟨_, _, rfl, ?_, owns_cap hown5, hB5⟩
  have e : closeB zs = zs ++ [lowB (sumB zs), highB (sumB zs)] := rfl
  rw [e, u8s_append]
  exact hrow5
end Go.Proofs.Ytgpofgepffhcnaa

