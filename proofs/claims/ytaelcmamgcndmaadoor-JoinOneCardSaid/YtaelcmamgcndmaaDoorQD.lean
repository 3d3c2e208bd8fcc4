/- Package port: Ends. Package port: a step turned about, by the program and by the document. Package port: Pos, Outs. What the document says of a few (wakes), of layer 5. What the walks of layer 5's laws share. The document's own answer for layer 5: positions, outs. -/
import Derived.Test.YtaelcmamgcndmaaDoorQA
import Derived.Deep.RegionHeld3
import Derived.Test.YtaelcmamgcndmaaDoorQB
namespace Go.Proofs.YtaelcmamgcndmaaDoor
open Go.RowKit Go.Shelf
set_option linter.unusedVariables false
attribute [local go_sem] Oper.semAt_some

section
variable {P : World → Prop} {w : World}
end
end Go.Proofs.YtaelcmamgcndmaaDoor
namespace Go.Proofs.YtaelcmamgcndmaaDoor
open Go.RowKit Go.Shelf
set_option linter.unusedVariables false
set_option linter.unusedSimpArgs false

attribute [local go_sem] Oper.semAt_some
section
variable {P : World → Prop} {w : World}
end
end Go.Proofs.YtaelcmamgcndmaaDoor
namespace Go.Proofs.YtaelcmamgcndmaaDoor
open Go.RowKit Go.Shelf
set_option linter.unusedVariables false
set_option linter.unusedSimpArgs false

/-- A way's position. -/
def posV (k n a b c d i o : Int) : Int := if goesV n a b c d i o = true then (if k = 2 then wayV n a b c d i o else -1) else 0
/-- The ports below j to which a way goes. -/
def outsTo (n a b c d i : Int) : Nat → List Int
  | 0 => []
  | j + 1 => outsTo n a b c d i j ++ (if goesV n a b c d i j = true then [(j : Int)] else [])
theorem outsTo_le (n a b c d i : Int) : ∀ j, (outsTo n a b c d i j).length ≤ j
  | 0 => by simp [outsTo]
  | j + 1 => by
    have := outsTo_le n a b c d i j
    unfold outsTo
    rw [List.length_append]
    split <;> simp <;> omega

set_option maxRecDepth 100000 in
set_option maxHeartbeats 4000000 in
theorem outs_P {P : World → Prop} {w : World} (hP : Closed P) (hT : ∀ w, P w → Shapes w) (k i : Int) (h0 : 0 ≤ k) (h1 : k ≤ 255) {p n a b c d : Int} {l : List Int} (hs : IsShape k p n a b c d) (hl : outsTo n a b c d i p.toNat = l) (h : P w) :
    Calls Tryd.prog 27 #[.int .u8 k, .int .i64 i] w fun e w' => ∃ A cap, e = .returned (.slice A l.length cap) ∧ l.length ≤ cap ∧ Row w' w'.heap.size A (nums .i64 l) ∧ P w' := by
  subst hl
  have HWy := Lib.hid (fun (o : Int) (wx : World) (hx : P wx) => way_any k i o h0 h1 hs wx (hT wx hx))
  have HPt := Lib.hid (ports_P (P := fun w' => P w' ∧ Below w.heap.size w w') (w := w) (hP.and (Closed.below w)) (fun w hw => hT w hw.1) h0 h1 hs ⟨h, Below.refl _ _⟩)
  obtain ⟨hp0, hp4⟩ := isShape_p hs
  clear hs
  go_enter Tryd.func27, Tryd.ntmps27
  go_wp2_with fail
  refine HPt.out.mono ?_
  rintro e w1 ⟨rfl, hp1, hB1⟩
  go_wp2_with fail
  go_loopw [5, 11] (fun v i' wr => ∃ j : Nat, (j : Int) ≤ p ∧ i' = .int .i64 j ∧ wr.ownsRow w.heap.size 3 1 v (outsTo n a b c d i j).length (nums .i64 (outsTo n a b c d i j)) ∧ P wr ∧ Below w.heap.size w wr)
    (fun _ i' _ => p.toNat - (intOf i').toNat)
  case atStart => exact ⟨0, by omega, rfl, World.ownsRow_nil _ _ _ _, hp1, hB1⟩
  case round =>
    obtain ⟨j, hj, rfl, hown, hp, hB⟩ := hrel
    by_cases hlt : (j : Int) < p
    · go_wp2_with fail
      refine (HWy.out (j : Int) _ hp).mono ?_
      have hle := outsTo_le n a b c d i j
      generalize wayV n a b c d i j = wv
      cases hg : goesV n a b c d i j
      · have HG : Hid (outsTo n a b c d i (j + 1) = outsTo n a b c d i j) := Lib.hid (by rw [outsTo, hg]; simp)
        clear hg
        rintro e w2 ⟨rfl, hB2⟩
        go_wp2_with fail
        go_roundw
        case rel => exact ⟨j + 1, by omega, by go_num, by rw [HG.out]; exact ownsV_keep hown hB2, hP _ _ hp hB2, hB.trans (hB2.mono hB.size)⟩
        case measure => simp [intOf]; omega
      · have HG : Hid (outsTo n a b c d i (j + 1) = outsTo n a b c d i j ++ [(j : Int)]) := Lib.hid (by rw [outsTo, hg]; simp)
        clear hg
        rintro e w2 ⟨rfl, hB2⟩
        have hs2 := hB2.size
        have hsw := hB.size
        obtain ⟨v', w3, hrun, hown', hgr, hB3⟩ := append_int w.heap.size _ _ _ (j : Int) (w2.alloc (.cells #[.int .i64 j] 3)) w2.heap.size (ownsV_keep (ownsV_keep hown hB2) (below1 _ _)) ((Whole.new w2 _ [_]).cell_at 0 rfl) (by omega) (by simp; omega)
        have HO := Lib.hid hown'
        clear hown' hown
        go_wp2_with (at_builtin; refine list_append rfl (.tmp 22) (.tmp 24) 41 rfl hrun ?_)
        have hB4 := (hB.trans (hB2.mono hB.size)).trans (((below1 w2 _).mono (by omega)).trans hB3)
        go_roundw
        case rel => exact ⟨j + 1, by omega, by go_num, by rw [HG.out, List.length_append]; simpa [nums] using HO.out, hP _ _ h hB4, hB4⟩
        case measure => simp [intOf]; omega
    · obtain rfl : j = p.toNat := by omega
      obtain ⟨A, cap, rfl, hr, hc⟩ := owns_slice hown
      have hc' : (outsTo n a b c d i p.toNat).length ≤ cap := hc
      clear hown hc
      go_wp2_with fail
      go_ret
      exact ⟨A, cap, rfl, hc', hr, hp⟩
end Go.Proofs.YtaelcmamgcndmaaDoor
namespace Go.Proofs.YtaelcmamgcndmaaDoor
open Go.RowKit Go.Shelf
set_option linter.unusedVariables false
set_option linter.unusedSimpArgs false

section
variable {P : World → Prop} {w : World}
theorem outs_Pm (hP : Closed P) (hT : ∀ w, P w → Shapes w) (k i : Int) (h0 : 0 ≤ k) (h1 : k ≤ 255) {p n a b c d : Int} {l : List Int} {m : Nat} (hs : IsShape k p n a b c d) (hl : outsTo n a b c d i p.toNat = l) (hm : l.length = m) (h : P w) :
    Calls Tryd.prog 27 #[.int .u8 k, .int .i64 i] w fun e w' => ∃ A cap, e = .returned (.slice A m cap) ∧ m ≤ cap ∧ Row w' w'.heap.size A (nums .i64 l) ∧ P w' := by
  subst hm; exact outs_P hP hT k i h0 h1 hs hl h

end
end Go.Proofs.YtaelcmamgcndmaaDoor
namespace Go.Proofs.YtaelcmamgcndmaaDoor
open Go.RowKit Go.Shelf
set_option linter.unusedVariables false
set_option linter.unusedSimpArgs false

theorem posV_comm (k n a b c d i o : Int) : posV k n a b c d i o = posV k n a b c d o i := by unfold posV; rw [goesV_comm, wayV_comm]
end Go.Proofs.YtaelcmamgcndmaaDoor
namespace Go.Proofs.YtaelcmamgcndmaaDoor
open Go.RowKit Go.Shelf
set_option linter.unusedVariables false
set_option linter.unusedSimpArgs false

section
variable {P : World → Prop} {w : World} {k p n a b c d : Int}
end

theorem outsTo_4 {k p n a b c d : Int} (i : Int) (hk : IsShape k p n a b c d) : outsTo n a b c d i 4 = outsTo n a b c d i p.toNat := by
  unfold IsShape at hk
  rcases hk with ⟨_, rfl, rfl, rfl, rfl, rfl, rfl⟩ | ⟨_, rfl, rfl, rfl, rfl, rfl, rfl⟩ | ⟨_, rfl, rfl, rfl, rfl, rfl, rfl⟩ | ⟨_, rfl, rfl, rfl, rfl, rfl, rfl⟩
  all_goals
    simp [outsTo, goesV, joinV]

set_option maxRecDepth 100000 in
set_option maxHeartbeats 4000000 in
theorem outsR_P {P : World → Prop} {w : World} {k p n a b c d : Int} (hP : Closed P) (i : Int) {l : List Int} (hs : IsShape k p n a b c d) (hl : outsTo n a b c d i p.toNat = l) (h : P w) :
    Calls Tryd.prog 23 #[.int .u8 k, .int .i64 i] w fun e w' => ∃ A cap, e = .returned (.slice A l.length cap) ∧ l.length ≤ cap ∧ Row w' w'.heap.size A (nums .i64 l) ∧ P w' := by
  subst hl
  rw [← outsTo_4 i hs]
  have HWy := Lib.hid (fun (o : Int) (wx : World) => wayR_P (P := fun w' => w' = wx) (w := wx) (v := wayV n a b c d i o) (r := goesV n a b c d i o) i o hs rfl rfl rfl)
  clear hs
  go_enter Tryd.func23, Tryd.ntmps23
  go_wp2_with fail
  go_loopw [5, 6] (fun v i' wr => ∃ j : Nat, j ≤ 4 ∧ i' = .int .i64 j ∧ wr.ownsRow w.heap.size 3 1 v (outsTo n a b c d i j).length (nums .i64 (outsTo n a b c d i j)) ∧ Below w.heap.size w wr)
    (fun _ i' _ => 4 - (intOf i').toNat)
  case atStart => exact ⟨0, by omega, rfl, World.ownsRow_nil _ _ _ _, Below.refl _ _⟩
  case round =>
    obtain ⟨j, hj, rfl, hown, hB⟩ := hrel
    by_cases hlt : j < 4
    · have hlt' : (j : Int) < 4 := by omega
      go_wp2_with fail
      refine (HWy.out (j : Int) _).mono ?_
      have hle := outsTo_le n a b c d i j
      generalize wayV n a b c d i j = wv
      cases hg : goesV n a b c d i j
      · have HG : Hid (outsTo n a b c d i (j + 1) = outsTo n a b c d i j) := Lib.hid (by rw [outsTo, hg]; simp)
        clear hg
        rintro e w2 ⟨rfl, rfl⟩
        go_wp2_with fail
        go_roundw
        case rel => exact ⟨j + 1, hlt, by go_num, by rw [HG.out]; exact hown, hB⟩
        case measure => simp [intOf]; omega
      · have HG : Hid (outsTo n a b c d i (j + 1) = outsTo n a b c d i j ++ [(j : Int)]) := Lib.hid (by rw [outsTo, hg]; simp)
        clear hg
        rintro e w2 ⟨rfl, rfl⟩
        have hsw := hB.size
        obtain ⟨v', w3, hrun, hown', hgr, hB3⟩ := append_int w.heap.size _ _ _ (j : Int) (w2.alloc (.cells #[.int .i64 j] 3)) w2.heap.size (ownsV_keep hown (below1 _ _)) ((Whole.new w2 _ [_]).cell_at 0 rfl) (by omega) (by simp; omega)
        have HO := Lib.hid hown'
        clear hown' hown
        go_wp2_with (at_builtin; refine list_append rfl (.tmp 21) (.tmp 23) 41 rfl hrun ?_)
        have hB4 := hB.trans (((below1 w2 _).mono (by omega)).trans hB3)
        go_roundw
        case rel => exact ⟨j + 1, hlt, by go_num, by rw [HG.out, List.length_append]; simpa [nums] using HO.out, hB4⟩
        case measure => simp [intOf]; omega
    · obtain rfl : j = 4 := by omega
      obtain ⟨A, cap, rfl, hr, hc⟩ := owns_slice hown
      have hc' : (outsTo n a b c d i 4).length ≤ cap := hc
      clear hown hc
      go_wp2_with fail
      go_ret
      exact ⟨A, cap, rfl, hc', hr, hP _ _ h hB⟩

end Go.Proofs.YtaelcmamgcndmaaDoor
