/- What the document says of a frame without payload. -/
import Derived.Test.YtgpofgepffhcnaaFrameG
import Derived.Deep.RegionHeld3
namespace Go.Proofs.Ytgpofgepffhcnaa
open Go.RowKit Go.Shelf
set_option linter.unusedVariables false

theorem takeR_any (A : Option Addr) (cap : Nat) (bs : List Int) (w : World) (hr : Row w w.heap.size A (u8s bs)) (hz : ∀ z ∈ bs, IsByte z) (hzl : bs.length ≤ 549755813888) (hcap : bs.length ≤ cap) :
    Calls Try.prog 12 #[.slice A bs.length cap] w (TakeGives w bs) := by
  rcases Nat.lt_or_ge bs.length 5 with hl | hl
  · exact takeR_short A cap bs w hl
  · by_cases he : openE bs = 0
    · obtain ⟨k, q, v, zs, h⟩ := opened_three bs hl he
      exact takeR_good A cap bs w k q v zs hr hz hzl hcap hl he h
    · exact takeR_crc A cap bs w hr hz hzl hcap hl he

theorem new_row (w : World) (t : TypeId) (cs : List Value) : Row (w.alloc (.cells cs.toArray t)) (w.alloc (.cells cs.toArray t)).heap.size (some ⟨w.heap.size, 0, none⟩) cs := (Whole.new w t cs).row (by simp)
theorem new_row_at (w : World) (t : TypeId) (cs : List Value) (n : Nat) (hn : n = w.heap.size) : Row (w.alloc (.cells cs.toArray t)) (w.alloc (.cells cs.toArray t)).heap.size (some ⟨n, 0, none⟩) cs := by subst hn; exact new_row w t cs
theorem on1 {w w' : World} {o : Obj} (h : Below (w.alloc o).heap.size (w.alloc o) w') : Below w.heap.size w w' := (below1 w o).trans (h.mono (by simp))
theorem on2 {w w' : World} {o o' : Obj} (h : Below ((w.alloc o).alloc o').heap.size ((w.alloc o).alloc o') w') : Below w.heap.size w w' := (below2 w o o').trans (h.mono (by simp; omega))

theorem bytes_of (l : List Int) (h : l.all (fun z => decide (0 ≤ z ∧ z ≤ 255)) = true) : ∀ z ∈ l, IsByte z := by
  intro z hz
  have := List.all_eq_true.1 h z hz
  rw [decide_eq_true_eq] at this
  exact this

def five : List Int := [1, 7, 0, 24, 209]
def nine : List Int := [9, 0, 0]
theorem five_byte : ∀ z ∈ five, IsByte z := bytes_of _ (by decide)
theorem nine_byte : ∀ z ∈ nine, IsByte z := bytes_of _ (by decide)
theorem put5 : putL 1 7 [] = five := by decide +kernel
theorem take5 : takeE five = 0 := by decide +kernel
theorem take5k : takeK five = 1 := by decide +kernel
theorem take5q : takeQ five = 7 := by decide +kernel
theorem take5l : takeL five = [] := by decide +kernel
theorem take4 : takeE [1, 7, 0, 0] = 40 := by decide +kernel
theorem take0 : takeE [1, 7, 0, 0, 0] = 42 := by decide +kernel
theorem take9 : takeE (closeB nine) = 41 := by decide +kernel
theorem takeK_none {bs : List Int} (h : takeE bs ≠ 0) : takeK bs = 0 := by unfold takeK; rw [if_neg h]
theorem takeQ_none {bs : List Int} (h : takeE bs ≠ 0) : takeQ bs = 0 := by unfold takeQ; rw [if_neg h]
theorem takeL_none {bs : List Int} (h : takeE bs ≠ 0) : takeL bs = [] := by unfold takeL; rw [if_neg h]

theorem wk_put (w : World) : Calls Try.prog 9 #[.agg #[.int .u8 1, .int .u8 7, .slice none 0 0]] w fun e w' =>
    ∃ b off c, e = .returned (.tuple #[.slice (some ⟨b, off, none⟩) 5 c, .int .i64 0]) ∧ 5 ≤ c ∧ Row w' w'.heap.size (some ⟨b, off, none⟩) (u8s five) ∧ Below w.heap.size w w' := by
  refine (put_any 1 7 none 0 [] w (Row.nil _ _ _) (by simp) ⟨by omega, by omega⟩ ⟨by omega, by omega⟩ (by decide)).mono ?_
  rintro e w' ⟨A', c', rfl, hr, hc, hB⟩
  rw [put5] at hr hc ⊢
  obtain ⟨b, off, rfl, _⟩ := hr (by decide)
  exact ⟨b, off, c', rfl, hc, hr, hB⟩
theorem wk_take5 (b off c : Nat) (w : World) (hr : Row w w.heap.size (some ⟨b, off, none⟩) (u8s five)) (hc : 5 ≤ c) : Calls Try.prog 11 #[.slice (some ⟨b, off, none⟩) 5 c] w fun e w' =>
    ∃ A' c', e = .returned (.tuple #[.agg #[.int .u8 1, .int .u8 7, .slice A' 0 c'], .int .i64 0]) ∧ Below w.heap.size w w' := by
  refine (take_any (some ⟨b, off, none⟩) c five w hr five_byte (by decide) hc).mono ?_
  rintro e w' ⟨A', c', rfl, _, hB⟩
  rw [take5, take5k, take5q, take5l]
  exact ⟨A', c', rfl, hB⟩
theorem wk_takeN (A : Option Addr) (n c : Nat) (bs : List Int) (x : Int) (w : World) (hn : n = bs.length) (hx : takeE bs = x) (h0 : x ≠ 0) (hr : Row w w.heap.size A (u8s bs)) (hb : ∀ z ∈ bs, IsByte z) (hl : bs.length ≤ 549755813888) (hc : n ≤ c) : Calls Try.prog 11 #[.slice A n c] w fun e w' =>
    ∃ A' c', e = .returned (.tuple #[.agg #[.int .u8 0, .int .u8 0, .slice A' 0 c'], .int .i64 x]) ∧ Below w.heap.size w w' := by
  subst hn
  refine (take_any A c bs w hr hb hl hc).mono ?_
  rintro e w' ⟨A', c', rfl, _, hB⟩
  rw [takeK_none (by rw [hx]; exact h0), takeQ_none (by rw [hx]; exact h0), takeL_none (by rw [hx]; exact h0), hx]
  exact ⟨A', c', rfl, hB⟩
theorem wk_take4 (g : Nat) (w : World) (hr : Row w w.heap.size (some ⟨g, 0, none⟩) (u8s [1, 7, 0, 0])) : Calls Try.prog 11 #[.slice (some ⟨g, 0, none⟩) 4 4] w fun e w' =>
    ∃ A' c', e = .returned (.tuple #[.agg #[.int .u8 0, .int .u8 0, .slice A' 0 c'], .int .i64 40]) ∧ Below w.heap.size w w' :=
  wk_takeN _ 4 4 [1, 7, 0, 0] 40 w rfl take4 (by decide) hr (bytes_of _ (by decide)) (by decide) (by decide)
theorem wk_take0 (g : Nat) (w : World) (hr : Row w w.heap.size (some ⟨g, 0, none⟩) (u8s [1, 7, 0, 0, 0])) : Calls Try.prog 11 #[.slice (some ⟨g, 0, none⟩) 5 5] w fun e w' =>
    ∃ A' c', e = .returned (.tuple #[.agg #[.int .u8 0, .int .u8 0, .slice A' 0 c'], .int .i64 42]) ∧ Below w.heap.size w w' :=
  wk_takeN _ 5 5 [1, 7, 0, 0, 0] 42 w rfl take0 (by decide) hr (bytes_of _ (by decide)) (by decide) (by decide)
theorem wk_close9 (g : Nat) (w : World) (hr : Row w w.heap.size (some ⟨g, 0, none⟩) (u8s nine)) : Calls Try.prog 23 #[.slice (some ⟨g, 0, none⟩) 3 3] w fun e w' =>
    ∃ A' c', e = .returned (.slice A' 5 c') ∧ Row w' w'.heap.size A' (u8s (closeB nine)) ∧ 5 ≤ c' ∧ Below w.heap.size w w' :=
  closeR_n (some ⟨g, 0, none⟩) 3 3 nine w rfl hr nine_byte (by decide)
theorem wk_take9 (A : Option Addr) (c : Nat) (w : World) (hr : Row w w.heap.size A (u8s (closeB nine))) (hc : 5 ≤ c) : Calls Try.prog 11 #[.slice A 5 c] w fun e w' =>
    ∃ A' c', e = .returned (.tuple #[.agg #[.int .u8 0, .int .u8 0, .slice A' 0 c'], .int .i64 41]) ∧ Below w.heap.size w w' :=
  wk_takeN _ 5 c (closeB nine) 41 w (by rw [closeB_length]; rfl) take9 (by decide) hr (closeB_byte nine_byte) (by rw [closeB_length]; decide) hc
theorem wk_putbad (g : Nat) (w : World) : Calls Try.prog 9 #[.agg #[.int .u8 1, .int .u8 0, .slice (some ⟨g, 0, none⟩) 60 60]] w fun e w' =>
    e = .returned (.tuple #[.slice none 0 0, .int .i64 2]) ∧ Below w.heap.size w w' :=
  put_no 1 0 _ 60 60 w ⟨by omega, by omega⟩ (by decide) (by decide +kernel)
theorem wk_newer1 (w : World) : Calls Try.prog 17 #[.int .u8 3, .int .u8 250] w fun e w' => e = .returned (.bool true) ∧ w = w' := newer_any 3 250 w (by omega) (by omega) (by omega) (by omega)
theorem wk_newer2 (w : World) : Calls Try.prog 17 #[.int .u8 250, .int .u8 3] w fun e w' => e = .returned (.bool false) ∧ w = w' := newer_any 250 3 w (by omega) (by omega) (by omega) (by omega)
theorem wk_newer3 (w : World) : Calls Try.prog 17 #[.int .u8 130, .int .u8 2] w fun e w' => e = .returned (.bool false) ∧ w = w' := newer_any 130 2 w (by omega) (by omega) (by omega) (by omega)
theorem wk_size1 (A : Option Addr) (c : Nat) (w : World) : Calls Try.prog 19 #[.agg #[.int .u8 1, .int .u8 7, .slice A 0 c]] w fun e w' => e = .returned (.int .i64 5) ∧ Below w.heap.size w w' := size_any 1 7 A 0 c w (by omega) (by omega) (by decide)
theorem wk_size0 (w : World) : Calls Try.prog 19 #[.agg #[.int .u8 0, .int .u8 0, .slice none 0 0]] w fun e w' => e = .returned (.int .i64 0) ∧ Below w.heap.size w w' := size_any 0 0 none 0 0 w (by omega) (by omega) (by decide)
theorem wk_right (A : Option Addr) (c : Nat) (w : World) : Calls Try.prog 15 #[.agg #[.int .u8 1, .int .u8 7, .slice A 0 c]] w fun e w' => e = .returned (.bool true) ∧ Below w.heap.size w w' := right_any 1 7 A 0 c w (by omega) (by omega) (by decide)
theorem wk_own (A : Option Addr) (c : Nat) (w : World) : Calls Try.prog 22 #[.agg #[.int .u8 1, .int .u8 7, .slice A 0 c]] w fun e w' => ∃ A' c', e = .returned (.agg #[.int .u8 1, .int .u8 7, .slice A' 0 c']) ∧ Below w.heap.size w w' := by
  refine (own_any 1 7 A c [] w (Row.nil _ _ _) (by decide)).mono ?_
  rintro e w' ⟨A', c', rfl, _, hB⟩
  exact ⟨A', c', rfl, hB⟩
theorem wk_same (A A' : Option Addr) (c c' : Nat) (w : World) : Calls Try.prog 21 #[.agg #[.int .u8 1, .int .u8 7, .slice A 0 c], .agg #[.int .u8 1, .int .u8 7, .slice A' 0 c']] w fun e w' => e = .returned (.bool true) ∧ Below w.heap.size w w' :=
  sameF_any 1 7 1 7 A A' c c' [] [] w (Row.nil _ _ _) (Row.nil _ _ _) (by simp) (by simp)

/-- What the last statement reads. -/
structure WInv (w : World) (b off Bf : Nat) (A : Option Addr) (c : Nat) (W : World) : Prop where
  S : Below w.heap.size w W
  B : Row W W.heap.size (some ⟨b, off, none⟩) (u8s five)
  F : Whole W Bf 24 [.int .u8 1, .int .u8 7, .slice A 0 c]
theorem WInv.on {w : World} {b off Bf : Nat} {A : Option Addr} {c : Nat} {W W' : World} (h : WInv w b off Bf A c W) (hB : Below W.heap.size W W') : WInv w b off Bf A c W' := ⟨h.S.trans (hB.mono h.S.size), h.B.on hB, h.F.below hB h.F.lt⟩
theorem WInv.drew {w : World} {b off Bf : Nat} {A : Option Addr} {c : Nat} {W : World} (h : WInv w b off Bf A c W) : WInv w b off Bf A c W.drew := h.on (below_drawn (Below.refl _ W) 1)
theorem WInv.all {w : World} {b off Bf : Nat} {A : Option Addr} {c : Nat} {W : World} (h : WInv w b off Bf A c W) : WInv w b off Bf A c W ∧ W.cell? ⟨b, off, none⟩ = some (.int .u8 1) ∧ W.cell? ⟨b, off + 1, none⟩ = some (.int .u8 7) ∧ W.cell? ⟨b, off + 2, none⟩ = some (.int .u8 0) ∧
    W.cell? ⟨Bf, 0, none⟩ = some (.int .u8 1) ∧ W.cell? ⟨Bf, 1, none⟩ = some (.int .u8 7) ∧ W.cell? ⟨Bf, 2, none⟩ = some (.slice A 0 c) := by
  obtain ⟨b', o', e, _, hc⟩ := h.B (by decide)
  cases e
  exact ⟨h, hc 0 _ rfl, hc 1 _ rfl, hc 2 _ rfl, h.F.cell_at 0 rfl, h.F.cell_at 1 rfl, h.F.cell_at 2 rfl⟩

theorem make60 (W : World) : (Instr.makeSlice 22 (.int .i64 60) (.int .i64 60)).run Try.prog W = .ok (.slice (some ⟨W.heap.size, 0, none⟩) 60 60) (W.alloc (.cells (List.replicate 60 (.int .u8 0)).toArray 5)) :=
  make_cap_run (P := Try.prog) 22 5 _ 1 Try.underlying22 info_u8 rfl 60 60 (by omega) (by omega) (by omega) W

set_option maxRecDepth 100000 in
set_option maxHeartbeats 8000000 in
theorem wakes_any (w : World) : Calls Try.prog 8 #[] w fun e w' => e = .returned (.bool true) ∧ Below w.heap.size w w' := by
  go_enter Try.func8, Try.ntmps8
  go_wp2_with fail
  refine (wk_put _).mono ?_
  rintro e w1 ⟨b, off, c, rfl, hc, R1, hB⟩
  have S1 := hB
  clear hB
  go_wp2_with fail
  refine (wk_take5 _ _ _ _ R1 hc).mono ?_
  rintro e w2 ⟨A, cf, rfl, hB⟩
  have R2 := R1.on hB
  have S2 := S1.trans (hB.mono S1.size)
  clear hB S1 R1
  go_wp2_with fail
  have I3 : WInv w b off w2.heap.size A cf (w2.alloc (.cells #[.int .u8 1, .int .u8 7, .slice A 0 cf] 24)) := ⟨S2.alloc S2.size _, R2.on (below1 _ _), Whole.new w2 _ [_, _, _]⟩
  clear R2 S2
  refine (wk_take4 _ _ (by exact new_row_at (w2.alloc _) _ [_, _, _, _] _ (by simp))).mono ?_
  rintro e w3 ⟨A3, c3, rfl, hB⟩
  have I4 := I3.on (on1 hB)
  clear hB I3
  go_wp2_with fail
  refine (wk_take0 _ _ (by exact new_row_at (w3.alloc _) _ [_, _, _, _, _] _ (by simp))).mono ?_
  rintro e w4 ⟨A4, c4, rfl, hB⟩
  have I5 := I4.on (on2 hB)
  clear hB I4
  go_wp2_with fail
  refine (wk_close9 _ _ (by exact new_row_at (w4.alloc _) _ [_, _, _] _ (by simp))).mono ?_
  rintro e w5 ⟨A5, c5, rfl, R5, hc5, hB⟩
  have I6 := I5.on (on2 hB)
  clear hB I5
  go_wp2_with fail
  refine (wk_take9 _ _ _ R5 hc5).mono ?_
  rintro e w6 ⟨A6, c6, rfl, hB⟩
  have I7 := I6.on hB
  clear hB I6 R5
  have hmk := make60
  go_wp2_with fail
  clear hmk
  refine (wk_putbad _ _).mono ?_
  rintro e w7 ⟨rfl, hB⟩
  have I8 := I7.on (on2 hB)
  clear hB I7
  go_wp2_with fail
  simp only [List.append_eq, List.cons_append, List.nil_append]
  go_region_held3 (fun W => WInv w b off w2.heap.size A cf W ∧ W.cell? ⟨b, off, none⟩ = some (.int .u8 1) ∧ W.cell? ⟨b, off + 1, none⟩ = some (.int .u8 7) ∧ W.cell? ⟨b, off + 2, none⟩ = some (.int .u8 0) ∧
      W.cell? ⟨w2.heap.size, 0, none⟩ = some (.int .u8 1) ∧ W.cell? ⟨w2.heap.size, 1, none⟩ = some (.int .u8 7) ∧ W.cell? ⟨w2.heap.size, 2, none⟩ = some (.slice A 0 cf))
    (first
      | exact I8.drew.all
      | exact (‹WInv _ _ _ _ _ _ _ ∧ _›.1.on hB).all)
    (first
      | (go_at_call 17; (with_reducible refine (wk_newer1 _).mono ?_); rintro e w' ⟨rfl, rfl⟩)
      | (go_at_call 17; (with_reducible refine (wk_newer2 _).mono ?_); rintro e w' ⟨rfl, rfl⟩)
      | (go_at_call 17; (with_reducible refine (wk_newer3 _).mono ?_); rintro e w' ⟨rfl, rfl⟩)
      | (go_at_call 19; (with_reducible refine (wk_size1 _ _ _).mono ?_); rintro e w' ⟨rfl, hB⟩)
      | (go_at_call 19; (with_reducible refine (wk_size0 _).mono ?_); rintro e w' ⟨rfl, hB⟩)
      | (go_at_call 15; (with_reducible refine (wk_right _ _ _).mono ?_); rintro e w' ⟨rfl, hB⟩)
      | (go_at_call 22; (with_reducible refine (wk_own _ _ _).mono ?_); rintro e w' ⟨A', c', rfl, hB⟩)
      | (go_at_call 21; (with_reducible refine (wk_same _ _ _ _ _).mono ?_); rintro e w' ⟨rfl, hB⟩; have hS := (‹WInv _ _ _ _ _ _ _ ∧ _›.1.on hB).S))
  all_goals (go_wp2_with fail; first | (go_ret; exact ⟨rfl, hS⟩) | exact ⟨rfl, hS⟩)
end Go.Proofs.Ytgpofgepffhcnaa
