/- Package crc: Sum, Close, Open. -/
import Derived.Test.YtgpofgepffhcnaaCrcB
import Derived.Test.YtgpofgepffhcnaaOwn
import Derived.StillTailTactics
namespace Go.Proofs.Ytgpofgepffhcnaa
open Go.RowKit Go.Shelf
set_option linter.unusedVariables false

theorem u16_flip (s : BitVec 16) : bits BinOp.xor IntKind.u16 IntKind.u16.max (numS s) = numS (~~~ s) := by
  rw [show IntKind.u16.max = numS (BitVec.allOnes 16) from rfl, u16_xor, BitVec.allOnes_xor]
theorem goB_ffff (A : Option Addr) (cap : Nat) (zs : List Int) (w : World) (hr : Row w w.heap.size A (u8s zs)) (hz : ∀ z ∈ zs, IsByte z) (hzl : zs.length ≤ maxLen) :
    Calls Try.prog 36 #[.int .u16 65535, .slice A zs.length cap] w fun e w' => e = .returned (.int .u16 (numS (goB 0xffff#16 zs))) ∧ Below w.heap.size w w' :=
  go_any 0xffff#16 A cap zs w hr hz hzl

set_option maxHeartbeats 1000000 in
theorem sum_any (A : Option Addr) (cap : Nat) (zs : List Int) (w : World) (hr : Row w w.heap.size A (u8s zs)) (hz : ∀ z ∈ zs, IsByte z) (hzl : zs.length ≤ maxLen) :
    Calls Try.prog 33 #[.slice A zs.length cap] w fun e w' => e = .returned (.int .u16 (numS (sumB zs))) ∧ Below w.heap.size w w' := by
  go_enter Try.func33, Try.ntmps33
  go_wp2_with fail
  refine (goB_ffff A cap zs _ hr hz hzl).mono ?_
  rintro e w' ⟨rfl, hB⟩
  go_wp2_with fail
  go_ret
  exact ⟨ret_int (u16_flip _), hB⟩

theorem sum_low (s : BitVec 16) : numS s % 256 = lowB s := by unfold numS lowB; omega
theorem sum_high (s : BitVec 16) : numS s / 256 % 256 = highB s := by unfold numS highB; have := s.isLt; omega
theorem cut_low (s : BitVec 16) : IntKind.u8.wrap (numS s) = lowB s := by unfold numS lowB; rw [IntKind.wrap_u8]; omega
theorem cut_high (s : BitVec 16) : IntKind.u8.wrap (numS s / 256) = highB s := by unfold numS highB; rw [IntKind.wrap_u8]; have := s.isLt; omega

set_option maxHeartbeats 2000000 in
theorem close_any (A : Option Addr) (cap : Nat) (zs : List Int) (w : World) (hr : Row w w.heap.size A (u8s zs)) (hz : ∀ z ∈ zs, IsByte z) (hzl : zs.length ≤ 1099511627776) :
    Calls Try.prog 25 #[.slice A zs.length cap] w fun e w' => ∃ A' c', e = .returned (.slice A' (zs.length + 2) c') ∧ Row w' w'.heap.size A' (u8s (closeB zs)) ∧ zs.length + 2 ≤ c' ∧ Below w.heap.size w w' := by
  have hmk := make_cap_run (P := Try.prog) 22 5 _ 1 Try.underlying22 info_u8 rfl zs.length (zs.length + 2) (by omega) (by omega) (by omega) w
  have e2 : ((zs.length + 2 : Nat) : Int) = (zs.length : Int) + 2 := by simp
  rw [e2] at hmk
  clear e2
  go_enter Try.func25, Try.ntmps25
  go_wp2_with fail
  have hW0 := Whole.new w 5 (List.replicate (zs.length + 2) (.int .u8 0))
  rw [List.toArray_replicate] at hW0
  obtain ⟨w2, hcopy, hW2, hG2⟩ := copy_part_run (P := Try.prog) 22 22 5 Try.underlying22 (by kernel_rfl) w.heap.size _ _ A cap w.heap.size zs.length (zs.length + 2) _ hW0 (by simp) (hr.below (below1 w _)) (by rw [u8s_length]; exact Nat.le_refl _) (u8s_one zs)
  rw [u8s_length] at hcopy
  have hown2 := owns_of_whole hW2 (Nat.le_refl _) (n := zs.length) (cap := zs.length + 2) (by omega) (by unfold maxLen; omega) (by simp [u8s_length])
  rw [List.take_left' (u8s_length zs)] at hown2
  have hB2 : Below w.heap.size w w2 := (below1 w _).grown hG2 (by simp) (fun k e => by cases e; exact Nat.le_refl _)
  clear hW0 hW2
  have hs2 : w.heap.size < w2.heap.size := by have := hG2.size; simp at this; omega
  simp only [hcopy, Result.andThen_ok]
  clear hcopy hmk
  go_wp2_with fail
  refine (sum_any A cap zs _ (hr.on hB2) hz (by unfold maxLen; omega)).mono ?_
  rintro e w3 ⟨rfl, hB3⟩
  have hown3 := owns_below hown2 hB3 hs2
  have hs3 : w2.heap.size ≤ w3.heap.size := hB3.size
  have hB3' := hB2.trans (hB3.mono hB2.size)
  clear hown2 hG2
  obtain ⟨w4, hw4, hB4, hown4, hrow4⟩ : ∃ w4, w3.alloc (.cells #[.int .u8 (numS (sumB zs) % 256), .int .u8 (numS (sumB zs) / 256 % 256)] 5) = w4 ∧ Below w.heap.size w w4 ∧ w4.ownsRow w.heap.size 5 1 (.slice (some ⟨w.heap.size, 0, none⟩) zs.length (zs.length + 2)) zs.length (u8s zs) ∧
      Row w4 w4.heap.size (some ⟨w3.heap.size, 0, none⟩) (u8s [lowB (sumB zs), highB (sumB zs)]) := by
    refine ⟨_, rfl, hB3'.alloc hB3'.size _, owns_below hown3 (below1 w3 _) (by omega), ?_⟩
    have h := (Whole.new w3 5 [.int .u8 (numS (sumB zs) % 256), .int .u8 (numS (sumB zs) / 256 % 256)]).row (B := w3.heap.size + 1) (by omega)
    rw [sum_low, sum_high] at h ⊢
    simpa [u8s] using h
  obtain ⟨g', c', w5, happ, hown5, hG5, hg'⟩ := append_run (P := Try.prog) 22 22 5 (.int .u8 0) 1 Try.underlying22 info_u8 rfl w.heap.size _ _ _ (u8s zs) (u8s [lowB (sumB zs), highB (sumB zs)]) w4 hown4 w4.heap.size 2 _ hrow4 (u8s_one _) (by simp [u8s]; unfold maxLen; omega) (by simp [u8s]; omega) hB4.size
  have hB5 : Below w.heap.size w w5 := hB4.grown hG5 hB4.size (fun k e => by cases e; exact Nat.le_refl _)
  have hlt5 := owns_lt hown5
  have hrow5 := owns_row hown5 hlt5.2
  rw [show (u8s [lowB (sumB zs), highB (sumB zs)]).length = 2 from rfl] at happ
  rw [← hw4] at happ
  have HA := Lib.hid happ
  clear happ hw4
  go_wp2_with (at_builtin; refine list_append rfl (.tmp 16) (.tmp 22) 22 rfl HA.out ?_)
  go_ret
  refine ⟨_, _, rfl, ?_, owns_cap hown5, hB5⟩
  have e : closeB zs = zs ++ [lowB (sumB zs), highB (sumB zs)] := rfl
  rw [e, u8s_append]
  exact hrow5
end Go.Proofs.Ytgpofgepffhcnaa
