/- Package port: Ends. Package port: a step turned about, by the program and by the document. Package port: Pos, Outs. What the document says of a few (wakes), of layer 5. What the walks of layer 5's laws share. The document's own answer for layer 5: positions, outs. -/
import Derived.Test.YtbdbgoploednbaaDoorQA
import Derived.Deep.RegionHeld3
import Derived.Test.YtbdbgoploednbaaDoorQB
namespace Go.Proofs.YtbdbgoploednbaaDoor
open Go.RowKit Go.Shelf
set_option linter.unusedVariables false
attribute [local go_sem] Oper.semAt_some

section
variable {P : World → Prop} {w : World}
end
end Go.Proofs.YtbdbgoploednbaaDoor
namespace Go.Proofs.YtbdbgoploednbaaDoor
open Go.RowKit Go.Shelf
set_option linter.unusedVariables false
set_option linter.unusedSimpArgs false

attribute [local go_sem] Oper.semAt_some
section
variable {P : World → Prop} {w : World}
end
end Go.Proofs.YtbdbgoploednbaaDoor
namespace Go.Proofs.YtbdbgoploednbaaDoor
open Go.RowKit Go.Shelf
set_option linter.unusedVariables false
set_option linter.unusedSimpArgs false

/-- A way's position. -/
def posV (k n a b c d i o : Int) : Int := if goesV n a b c d i o = true then (if k = 2 then wayV n a b c d i o else -1) else 0
set_option maxHeartbeats 1000000 in
theorem pos_P {P : World → Prop} {w : World} (hP : Closed P) (hT : ∀ w, P w → Shapes w) (k i o : Int) (h0 : 0 ≤ k) (h1 : k ≤ 255) {p n a b c d v : Int} {r : Bool} (hs : IsShape k p n a b c d) (hv : posV k n a b c d i o = v) (hr : goesV n a b c d i o = r) (h : P w) :
    Calls Tryd.prog 81 #[.int .u8 k, .int .i64 i, .int .i64 o] w fun e w' => e = .returned (.tuple #[.int .i64 v, .bool r]) ∧ P w' := by
  have HW := Lib.hid (way_P hP hT k i o h0 h1 hs rfl hr h)
  have hv' : v = if r = true then (if k = 2 then wayV n a b c d i o else -1) else 0 := by rw [← hv, posV, hr]
  have HV := Lib.hid hv'
  clear hs hv hr hv' h
  cases r
  · go_enter Tryd.func81, Tryd.ntmps81
    go_wp2_with fail
    refine wp_scope_fwd (l := 0) rfl ?_
    go_wp2_with fail
    refine HW.out.mono ?_
    rintro e w' ⟨rfl, h⟩
    go_wp2_with fail
    go_step3
    simp +zetaDelta only [Exit.inBlock, Exit.then, fwd_goto]
    refine ⟨trivial, ?_⟩
    go_wp2_with fail
    rw [Exit.noGoto_ret]
    go_ret2
    exact ⟨by rw [HV.out]; rfl, h⟩
  · by_cases hk : k = 2
    · subst hk
      go_enter Tryd.func81, Tryd.ntmps81
      go_wp2_with fail
      refine wp_scope_fwd (l := 0) rfl ?_
      go_wp2_with fail
      refine HW.out.mono ?_
      rintro e w' ⟨rfl, h⟩
      go_wp2_with fail
      rw [fwd_ret]
      go_ret2
      exact ⟨by rw [HV.out]; rfl, h⟩
    · have hk' : (k != 2) = true := by simpa using hk
      have HE : Hid (v = -1) := Lib.hid (by have e := HV.out; simpa [hk] using e)
      clear hk HV
      go_enter Tryd.func81, Tryd.ntmps81
      go_wp2_with fail
      refine wp_scope_fwd (l := 0) rfl ?_
      go_wp2_with fail
      refine HW.out.mono ?_
      rintro e w' ⟨rfl, h⟩
      go_wp2_with fail
      rw [fwd_ret]
      go_ret2
      exact ⟨by rw [HE.out]; rfl, h⟩

/-- The ports below j to which a way goes. -/
def outsTo (n a b c d i : Int) : Nat → List Int
  | 0 => []
  | j + 1 => outsTo n a b c d i j ++ (if goesV n a b c d i j = true then [(j : Int)] else [])
theorem outsTo_le (n a b c d i : Int) : ∀ j, (outsTo n a b c d i j).length ≤ j
  | 0 => by simp [outsTo]
  | j + 1 => by
    have := outsTo_le n a b c d i j
    unfold outsTo
    rw [List.length_append]
    split <;> simp <;> omega

end Go.Proofs.YtbdbgoploednbaaDoor
namespace Go.Proofs.YtbdbgoploednbaaDoor
open Go.RowKit Go.Shelf
set_option linter.unusedVariables false
set_option linter.unusedSimpArgs false

section
variable {P : World → Prop} {w : World}
end
end Go.Proofs.YtbdbgoploednbaaDoor
namespace Go.Proofs.YtbdbgoploednbaaDoor
open Go.RowKit Go.Shelf
set_option linter.unusedVariables false
set_option linter.unusedSimpArgs false

theorem posV_comm (k n a b c d i o : Int) : posV k n a b c d i o = posV k n a b c d o i := by unfold posV; rw [goesV_comm, wayV_comm]
end Go.Proofs.YtbdbgoploednbaaDoor
namespace Go.Proofs.YtbdbgoploednbaaDoor
open Go.RowKit Go.Shelf
set_option linter.unusedVariables false
set_option linter.unusedSimpArgs false

section
variable {P : World → Prop} {w : World} {k p n a b c d : Int}
set_option maxHeartbeats 1000000 in
theorem posR_P (i o : Int) {v : Int} {r : Bool} (hk : IsShape k p n a b c d) (hv : posV k n a b c d i o = v) (hr : goesV n a b c d i o = r) (h : P w) :
    Calls Tryd.prog 55 #[.int .u8 k, .int .i64 i, .int .i64 o] w fun e w' => e = .returned (.tuple #[.int .i64 v, .bool r]) ∧ P w' := by
  have HW := Lib.hid (wayR_P (P := P) (w := w) i o hk rfl hr h)
  have hcase : (r = false ∧ v = 0 ∧ wayV n a b c d i o = 0) ∨ (r = true ∧ k = 2 ∧ v = wayV n a b c d i o) ∨ (r = true ∧ ¬ k = 2 ∧ v = -1) := by
    subst hv hr
    unfold posV
    cases h : goesV n a b c d i o
    · exact .inl ⟨rfl, rfl, wayV_none h⟩
    · by_cases h2 : k = 2
      · exact .inr (.inl ⟨rfl, h2, by rw [if_pos rfl, if_pos h2]⟩)
      · exact .inr (.inr ⟨rfl, h2, by rw [if_pos rfl, if_neg h2]⟩)
  clear hk hv hr h
  rcases hcase with ⟨rfl, rfl, hw⟩ | ⟨rfl, rfl, rfl⟩ | ⟨rfl, hk, rfl⟩
  · rw [hw] at HW
    clear hw
    go_enter Tryd.func55, Tryd.ntmps55
    go_wp2_with fail
    refine HW.out.mono ?_
    rintro e w' ⟨rfl, h⟩
    go_wp2_with fail
    go_ret2
    exact ⟨rfl, h⟩
  · go_enter Tryd.func55, Tryd.ntmps55
    go_wp2_with fail
    refine HW.out.mono ?_
    rintro e w' ⟨rfl, h⟩
    go_wp2_with fail
    go_ret2
    exact ⟨rfl, h⟩
  · have hk' : (k != 2) = true := by simpa using hk
    clear hk
    go_enter Tryd.func55, Tryd.ntmps55
    go_wp2_with fail
    refine HW.out.mono ?_
    rintro e w' ⟨rfl, h⟩
    go_wp2_with fail
    go_ret2
    exact ⟨rfl, h⟩
end

theorem outsTo_4 {k p n a b c d : Int} (i : Int) (hk : IsShape k p n a b c d) : outsTo n a b c d i 4 = outsTo n a b c d i p.toNat := by
  unfold IsShape at hk
  rcases hk with ⟨_, rfl, rfl, rfl, rfl, rfl, rfl⟩ | ⟨_, rfl, rfl, rfl, rfl, rfl, rfl⟩ | ⟨_, rfl, rfl, rfl, rfl, rfl, rfl⟩ | ⟨_, rfl, rfl, rfl, rfl, rfl, rfl⟩
  all_goals
    simp [outsTo, goesV, joinV]

end Go.Proofs.YtbdbgoploednbaaDoor
