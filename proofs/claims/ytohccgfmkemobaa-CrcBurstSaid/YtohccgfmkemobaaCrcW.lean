/- What the document says of the nine digits. -/
import Derived.Test.YtohccgfmkemobaaCrcS
import Derived.Deep.RegionHeld3
import Derived.Lib.SlBytesConst
namespace Go.Proofs.Ytohccgfmkemobaa
open Go.RowKit Go.Shelf
set_option linter.unusedVariables false

def digits9 : List Int := [49, 50, 51, 52, 53, 54, 55, 56, 57]
theorem digits9_byte : ∀ z ∈ digits9, IsByte z := by
  have h : ∀ i : Fin 9, 0 ≤ digits9[i.val]! ∧ digits9[i.val]! ≤ 255 := by decide
  intro z hz
  obtain ⟨i, hi, rfl⟩ := List.mem_iff_getElem.1 hz
  have := h ⟨i, hi⟩
  simpa [IsByte, getElem!_pos digits9 i hi] using this
theorem sum9 : sumB digits9 = 0x906e#16 := by decide +kernel
theorem close9 : closeB digits9 = [49, 50, 51, 52, 53, 54, 55, 56, 57, 110, 144] := by unfold closeB; rw [sum9]; decide +kernel
theorem openE9 : openE (closeB digits9) = 0 := by
  unfold openE; rw [if_neg (by rw [closeB_length]; decide), if_pos (closeB_end digits9)]
theorem openL_close (l : List Int) (h : openE (closeB l) = 0) : openL (closeB l) = l := openL_good l _ _ h
theorem openE1 : openE [1] = 40 := rfl
theorem openE3 : openE [0, 0, 0] = 42 := by decide +kernel

theorem new_row (w : World) (t : TypeId) (cs : List Value) : Row (w.alloc (.cells cs.toArray t)) (w.alloc (.cells cs.toArray t)).heap.size (some ⟨w.heap.size, 0, none⟩) cs := (Whole.new w t cs).row (by simp)
theorem new_row_at (w : World) (t : TypeId) (cs : List Value) (n : Nat) (hn : n = w.heap.size) : Row (w.alloc (.cells cs.toArray t)) (w.alloc (.cells cs.toArray t)).heap.size (some ⟨n, 0, none⟩) cs := by subst hn; exact new_row w t cs
theorem on2 {w w' : World} {o o' : Obj} (h : Below ((w.alloc o).alloc o').heap.size ((w.alloc o).alloc o') w') : Below w.heap.size w w' := (below2 w o o').trans (h.mono (by simp; omega))
theorem marked_row_at (w : World) (t : TypeId) (cs : List Value) (fr : Nat × Nat) (n : Nat) (hn : n = w.heap.size) : Row (w.alloc (.cells cs.toArray t fr)) (w.alloc (.cells cs.toArray t fr)).heap.size (some ⟨n, 0, none⟩) cs :=
  fun _ => ⟨n, 0, rfl, by simp; omega, fun j u hu => by rw [Nat.zero_add, Joins.cell_alloc_mark_at w cs.toArray t fr n j hn]; simpa using hu⟩
theorem marked_row (w : World) (t : TypeId) (cs : List Value) (fr : Nat × Nat) : Row (w.alloc (.cells cs.toArray t fr)) (w.alloc (.cells cs.toArray t fr)).heap.size (some ⟨w.heap.size, 0, none⟩) cs := marked_row_at w t cs fr _ rfl
theorem on1 {w w' : World} {o : Obj} (h : Below (w.alloc o).heap.size (w.alloc o) w') : Below w.heap.size w w' := (below1 w o).trans (h.mono (by simp))

theorem wk_close (g c : Nat) (w : World) (h : Row w w.heap.size (some ⟨g, 0, none⟩) (u8s digits9)) :
    Calls Try.prog 17 #[.slice (some ⟨g, 0, none⟩) 9 c] w fun e w' => ∃ b off c', e = .returned (.slice (some ⟨b, off, none⟩) 11 c') ∧ 11 ≤ c' ∧ Row w' w'.heap.size (some ⟨b, off, none⟩) (u8s (closeB digits9)) ∧ Below w.heap.size w w' := by
  refine (close_any (some ⟨g, 0, none⟩) c digits9 w h digits9_byte (by decide)).mono ?_
  rintro e w' ⟨A', c', rfl, hr, hc, hB⟩
  obtain ⟨b, off, rfl, _⟩ := hr (by rw [u8s_length, closeB_length]; decide)
  exact ⟨b, off, c', rfl, hc, hr, hB⟩

theorem wk_open9 (b off c n : Nat) (w : World) (hn : n = 11) (h : Row w w.heap.size (some ⟨b, off, none⟩) (u8s (closeB digits9))) (hc : 11 ≤ c) :
    Calls Try.prog 8 #[.slice (some ⟨b, off, none⟩) n c] w fun e w' => ∃ b' off' c', e = .returned (.tuple #[.slice (some ⟨b', off', none⟩) 9 c', .int .i64 0]) ∧ Row w' w'.heap.size (some ⟨b', off', none⟩) (u8s digits9) ∧ Below w.heap.size w w' := by
  subst hn
  have hl : (closeB digits9).length = 11 := by rw [closeB_length]; rfl
  have h1 := open_any (some ⟨b, off, none⟩) c (closeB digits9) w h (closeB_byte digits9_byte) (by rw [hl]; decide) (by rw [hl]; exact hc)
  rw [hl] at h1
  refine h1.mono ?_
  rintro e w' ⟨A', c', rfl, hr, hB⟩
  rw [openL_close _ openE9] at hr
  rw [openL_close _ openE9, openE9]
  obtain ⟨b', off', rfl, _⟩ := hr (by rw [u8s_length]; decide)
  exact ⟨b', off', c', rfl, hr, hB⟩
theorem wk_open1 (g : Nat) (w : World) (h : Row w w.heap.size (some ⟨g, 0, none⟩) (u8s [1])) :
    Calls Try.prog 8 #[.slice (some ⟨g, 0, none⟩) 1 1] w fun e w' => e = .returned (.tuple #[.slice none 0 0, .int .i64 40]) ∧ w = w' := open_short _ _ [1] w (by decide)
theorem wk_open3 (g : Nat) (w : World) (h : Row w w.heap.size (some ⟨g, 0, none⟩) (u8s [0, 0, 0])) :
    Calls Try.prog 8 #[.slice (some ⟨g, 0, none⟩) 3 3] w fun e w' => e = .returned (.tuple #[.slice none 0 0, .int .i64 42]) ∧ Below w.heap.size w w' :=
  open_wrong g 0 3 3 [0] 0 0 w h (by intro z hz; simp at hz; subst hz; exact ⟨by omega, by omega⟩) (by decide) rfl (by decide) (by decide +kernel)

theorem wk_sum (g c : Nat) (w : World) (h : Row w w.heap.size (some ⟨g, 0, none⟩) (u8s digits9)) :
    Calls Try.prog 14 #[.slice (some ⟨g, 0, none⟩) 9 c] w fun e w' => e = .returned (.int .u16 36974) ∧ Below w.heap.size w w' := by
  have h1 := sum_any (some ⟨g, 0, none⟩) c digits9 w h digits9_byte (by decide)
  rw [sum9] at h1
  exact h1
theorem wk_same (b off c g c' : Nat) (w : World) (h : Row w w.heap.size (some ⟨b, off, none⟩) (u8s digits9)) (h' : Row w w.heap.size (some ⟨g, 0, none⟩) (u8s digits9)) :
    Calls Try.prog 16 #[.slice (some ⟨b, off, none⟩) 9 c, .slice (some ⟨g, 0, none⟩) 9 c'] w fun e w' => e = .returned (.bool true) ∧ w = w' := by
  have h1 := same_any (some ⟨b, off, none⟩) (some ⟨g, 0, none⟩) c c' digits9 digits9 w h h' digits9_byte digits9_byte
  rw [show sameB digits9 digits9 = true by simp [sameB]] at h1
  exact h1
theorem wk_bit1 (w : World) : Calls Try.prog 10 #[.int .u16 1, .bool false] w fun e w' => e = .returned (.int .u16 33800) ∧ w = w' := bit_any 1#16 false w
theorem wk_bit2 (w : World) : Calls Try.prog 10 #[.int .u16 1, .bool true] w fun e w' => e = .returned (.int .u16 0) ∧ w = w' := bit_any 1#16 true w
theorem wk_bit3 (w : World) : Calls Try.prog 10 #[.int .u16 0, .bool true] w fun e w' => e = .returned (.int .u16 33800) ∧ w = w' := bit_any 0#16 true w
theorem wk_go (w : World) : Calls Try.prog 12 #[.int .u16 5, .slice none 0 0] w fun e w' => e = .returned (.int .u16 5) ∧ Below w.heap.size w w' := go_any 5#16 none 0 [] w (Row.nil _ _ _) (by simp) (by decide)

set_option maxRecDepth 100000 in
set_option maxHeartbeats 8000000 in
theorem wakes_any (w : World) : Calls Try.prog 7 #[] w fun e w' => e = .returned (.bool true) ∧ Below w.heap.size w w' := by
  have hcv := fun (w : World) (C : Array Value) => Lib.run_convert_bytes_const (P := Try.prog) w 23 5 C 9 9 Try.underlying23 Try.underlying5
  go_enter Try.func7, Try.ntmps7
  go_wp2_with fail
  refine (wk_close _ _ _ (by exact marked_row w 5 (u8s digits9) _)).mono ?_
  rintro e w1 ⟨b, off, c1, rfl, hc1, hr1, hB1⟩
  have S1 := on1 hB1
  clear hB1
  go_wp2_with fail
  refine (wk_open9 b off c1 _ _ rfl hr1 hc1).mono ?_
  rintro e w2 ⟨b2, off2, c2, rfl, hr2, hB2⟩
  have hr1' := hr1.on hB2
  have S2 := S1.trans (hB2.mono S1.size)
  clear hB2 S1 hr1
  go_wp2_with fail
  refine (wk_open1 _ _ (by exact new_row w2 5 [.int .u8 1])).mono ?_
  rintro e w3 ⟨rfl, rfl⟩
  go_wp2_with fail
  refine (wk_open3 _ _ (by exact new_row_at _ 5 [.int .u8 0, .int .u8 0, .int .u8 0] _ (by simp))).mono ?_
  rintro e w4 ⟨rfl, hB4⟩
  have hr1 := hr1'.on (on2 hB4)
  have hr2' := hr2.on (on2 hB4)
  have S4 := S2.trans ((on2 hB4).mono S2.size)
  clear hB4 S2 hr1' hr2
  go_wp2_with fail
  refine (wk_sum _ _ _ (by exact marked_row w4 5 (u8s digits9) _)).mono ?_
  rintro e w5 ⟨rfl, hB5⟩
  have hr1' := hr1.on (on1 hB5)
  have hr2 := hr2'.on (on1 hB5)
  have S5 := S4.trans ((on1 hB5).mono S4.size)
  clear hB5 S4 hr1 hr2'
  rw [close9] at hr1'
  obtain ⟨b', off', eb, _, hc⟩ := hr1' (by decide)
  cases eb
  have x9 := hc 9 _ rfl
  have x10 := hc 10 _ rfl
  clear hc
  go_wp2_with fail
  refine (wk_same _ _ _ _ _ _ (by exact hr2.on (below1 _ _)) (by exact marked_row w5 5 (u8s digits9) _)).mono ?_
  rintro e w6 ⟨rfl, rfl⟩
  go_wp2_with (first
    | (go_at_call 10; (with_reducible refine (wk_bit1 _).mono ?_); rintro e w6 ⟨rfl, rfl⟩)
    | (go_at_call 10; (with_reducible refine (wk_bit2 _).mono ?_); rintro e w6 ⟨rfl, rfl⟩)
    | (go_at_call 10; (with_reducible refine (wk_bit3 _).mono ?_); rintro e w6 ⟨rfl, rfl⟩))
  refine (wk_go _).mono ?_
  rintro e w7 ⟨rfl, hB7⟩
  go_wp2_with fail
  go_ret
  exact ⟨rfl, S5.trans ((on1 hB7).mono S5.size)⟩
end Go.Proofs.Ytohccgfmkemobaa
