/- Package frame: Take at whatever bytes; the document's own Put. -/
import Derived.Test.YtgpofgepffhcnaaFrameE
namespace Go.Proofs.Ytgpofgepffhcnaa
open Go.RowKit Go.Shelf
set_option linter.unusedVariables false

theorem opened_three (bs : List Int) (hl : 5 ≤ bs.length) (he : openE bs = 0) : ∃ k q v zs, openL bs = k :: q :: v :: zs := by
  have hlen : 3 ≤ (openL bs).length := by
    unfold openL
    rw [if_pos he, List.length_take]; omega
  match h : openL bs, hlen with
  | k :: q :: v :: zs, _ => exact ⟨k, q, v, zs, rfl⟩

theorem take_any (A : Option Addr) (cap : Nat) (bs : List Int) (w : World) (hr : Row w w.heap.size A (u8s bs)) (hz : ∀ z ∈ bs, IsByte z) (hzl : bs.length ≤ 549755813888) (hcap : bs.length ≤ cap) :
    Calls Try.prog 11 #[.slice A bs.length cap] w (TakeGives w bs) := by
  rcases Nat.lt_or_ge bs.length 5 with hl | hl
  · exact take_short A cap bs w hl
  · by_cases he : openE bs = 0
    · obtain ⟨k, q, v, zs, h⟩ := opened_three bs hl he
      exact take_good A cap bs w k q v zs hr hz hzl hcap hl he h
    · exact take_crc A cap bs w hr hz hzl hcap hl he

theorem closeR_n (A : Option Addr) (cap n : Nat) (zs : List Int) (w : World) (hn : n = zs.length) (hr : Row w w.heap.size A (u8s zs)) (hz : ∀ z ∈ zs, IsByte z) (hzl : zs.length ≤ 549755813888) :
    Calls Try.prog 23 #[.slice A n cap] w fun e w' => ∃ A' c', e = .returned (.slice A' (n + 2) c') ∧ Row w' w'.heap.size A' (u8s (closeB zs)) ∧ n + 2 ≤ c' ∧ Below w.heap.size w w' := by
  subst hn; exact closeR_any A cap zs w hr hz hzl

set_option maxHeartbeats 2000000 in
theorem putR_no (k q : Int) (A : Option Addr) (cap n : Nat) (w : World) (hk : IsByte k) (hl : n ≤ maxLen) (h : rightF k n = false) :
    Calls Try.prog 10 #[frV k q A n cap] w fun e w' => e = .returned (.tuple #[.slice none 0 0, .int .i64 2]) ∧ Below w.heap.size w w' := by
  have H := Lib.hid h
  have HL := Lib.hid hl
  clear h hl
  go_enter Try.func10, Try.ntmps10
  go_wp2_with fail
  refine (rightR_no k q A n cap _ hk.1 hk.2 HL.out H.out).mono ?_
  rintro e w1 ⟨rfl, hB1⟩
  go_wp2_with fail
  go_ret2
  exact ⟨rfl, (below1 w _).trans (hB1.mono (by simp))⟩

set_option maxRecDepth 100000 in
set_option maxHeartbeats 4000000 in
theorem putR_yes (k q : Int) (A : Option Addr) (cap : Nat) (zs : List Int) (w : World) (hr : Row w w.heap.size A (u8s zs)) (hz : ∀ z ∈ zs, IsByte z) (hk : IsByte k) (hq : IsByte q) (h : rightF k zs.length = true) :
    Calls Try.prog 10 #[frV k q A zs.length cap] w fun e w' => ∃ A' c', e = .returned (.tuple #[.slice A' (zs.length + 5) c', .int .i64 0]) ∧ Row w' w'.heap.size A' (u8s (closeB (bytesF k q zs))) ∧ zs.length + 5 ≤ c' ∧ Below w.heap.size w w' := by
  have hl59 := rightF_le h
  have H := Lib.hid h
  have HM := Lib.hid (show zs.length ≤ maxLen by unfold maxLen; omega)
  have HBY := Lib.hid (bytesF_byte hk hq hl59 hz)
  have HBL := Lib.hid (bytesF_length k q zs)
  have HK := Lib.hid hk.1
  have HK' := Lib.hid hk.2
  have hl256 : (zs.length : Int) ≤ 59 := by omega
  clear h
  go_enter Try.func10, Try.ntmps10
  go_wp2_with fail
  refine (rightR_yes k q A zs.length cap _ HK.out HK'.out HM.out H.out).mono ?_
  rintro e w1 ⟨rfl, hB1⟩
  have hx := ((Whole.new w 24 [.int .u8 k, .int .u8 q, .slice A zs.length cap])).below hB1 (by simp)
  have hBw1 := (below1 w _).trans (hB1.mono (by simp))
  have x0 := hx.cell_at 0 rfl
  have x1 := hx.cell_at 1 rfl
  have x2 := hx.cell_at 2 rfl
  have hx' := fun o => hx.alloc o
  have x0' := fun o => (hx' o).cell_at 0 rfl
  have x1' := fun o => (hx' o).cell_at 1 rfl
  have x2' := fun o => (hx' o).cell_at 2 rfl
  obtain ⟨W, hW, hBW, hown, hsW⟩ : ∃ W, w1.alloc (.cells #[.int .u8 k, .int .u8 q, .int .u8 (zs.length : Int)] 5) = W ∧ Below w.heap.size w W ∧ W.ownsRow w.heap.size 5 1 (.slice (some ⟨w1.heap.size, 0, none⟩) 3 3) 3 (u8s [k, q, (zs.length : Int)]) ∧ w.heap.size ≤ W.heap.size := by
    refine ⟨_, rfl, hBw1.trans ((below1 w1 _).mono hBw1.size), ?_, by have := hBw1.size; simp; omega⟩
    have h := owns_of_whole (Whole.new w1 5 [.int .u8 k, .int .u8 q, .int .u8 (zs.length : Int)]) hBw1.size (n := 3) (cap := 3) (by omega) (by decide) rfl
    exact h
  obtain ⟨g', c', w5, happ, hown5, hG5, hg'⟩ := append_run (P := Try.prog) 22 22 5 (.int .u8 0) 1 Try.underlying22 info_u8 rfl w.heap.size _ _ _ (u8s [k, q, (zs.length : Int)]) (u8s zs) W hown w.heap.size cap A (hr.below hBW) (u8s_one _) (by rw [u8s_length]; unfold maxLen; omega) (by rw [u8s_length]; omega) hsW
  have hB5 : Below w.heap.size w w5 := hBW.grown hG5 hsW (fun k e => by cases e; exact hBw1.size)
  have hrow5 := owns_row hown5 (owns_lt hown5).2
  rw [u8s_length] at happ hown5
  rw [← u8s_append] at hrow5
  rw [← hW] at happ
  have HA := Lib.hid happ
  clear happ hW hown
  go_wp2_with (at_builtin; refine list_append rfl (.tmp 15) (.tmp 17) 22 rfl HA.out ?_)
  refine (closeR_n _ _ _ (bytesF k q zs) _ (by rw [HBL.out]; omega) (by exact hrow5) HBY.out (by rw [HBL.out]; omega)).mono ?_
  rintro e w6 ⟨A', c6, rfl, hr6, hc6, hB6⟩
  go_wp2_with fail
  go_ret2
  have e5 : 3 + zs.length + 2 = zs.length + 5 := by omega
  rw [e5] at hc6 ⊢
  exact ⟨_, _, rfl, hr6, hc6, hB5.trans (hB6.mono hB5.size)⟩

theorem putR_any (k q : Int) (A : Option Addr) (cap : Nat) (zs : List Int) (w : World) (hr : Row w w.heap.size A (u8s zs)) (hz : ∀ z ∈ zs, IsByte z) (hk : IsByte k) (hq : IsByte q) (hl : zs.length ≤ maxLen) :
    Calls Try.prog 10 #[frV k q A zs.length cap] w (PutGives w k q zs) := by
  cases h : rightF k zs.length
  · refine (putR_no k q A cap zs.length w hk hl h).mono ?_
    rintro e w' ⟨rfl, hB⟩
    refine ⟨none, 0, ?_, ?_, ?_, hB⟩
    · unfold putL putE; rw [h]; rfl
    · unfold putL; rw [h]; exact Row.nil _ _ _
    · unfold putL; rw [h]; exact Nat.le_refl _
  · refine (putR_yes k q A cap zs w hr hz hk hq h).mono ?_
    rintro e w' ⟨A', c', rfl, hr', hc', hB⟩
    have hl : putL k q zs = closeB (bytesF k q zs) := by unfold putL; rw [h]; rfl
    have hn : (putL k q zs).length = zs.length + 5 := by rw [hl, closeB_length, bytesF_length]
    refine ⟨A', c', ?_, by rw [hl]; exact hr', by rw [hn]; exact hc', hB⟩
    rw [hn]; unfold putE; rw [h]; rfl
end Go.Proofs.Ytgpofgepffhcnaa
