/- Package port: Ends. Package port: a step turned about, by the program and by the document. Package port: Pos, Outs. -/
import Derived.Test.YtlfpkileblmhoaaGreatDoorQA
import Derived.Deep.RegionHeld3
namespace Go.Proofs.YtlfpkileblmhoaaGreatDoor
open Go.RowKit Go.Shelf
set_option linter.unusedVariables false
attribute [local go_sem] Oper.semAt_some

section
variable {P : World → Prop} {w : World}
end
end Go.Proofs.YtlfpkileblmhoaaGreatDoor
namespace Go.Proofs.YtlfpkileblmhoaaGreatDoor
open Go.RowKit Go.Shelf
set_option linter.unusedVariables false
set_option linter.unusedSimpArgs false

attribute [local go_sem] Oper.semAt_some
section
variable {P : World → Prop} {w : World}
theorem turnedR_P (hP : Closed P) (s i o : Int) (h : P w) : Calls Tryz.prog 25 #[.agg #[.int .i64 s, .int .i64 i, .int .i64 o]] w fun e w' => e = .returned (.agg #[.int .i64 s, .int .i64 o, .int .i64 i]) ∧ P w' := by
  go_enter Tryz.func25, Tryz.ntmps25
  go_wp2_with fail
  exact bodyPost_ret (v := .agg #[.int .i64 s, .int .i64 o, .int .i64 i]) (by simp [results, Tryz.f25, go_sem]) rfl ⟨rfl, hP _ _ h (below2 _ _ _)⟩
end
end Go.Proofs.YtlfpkileblmhoaaGreatDoor
namespace Go.Proofs.YtlfpkileblmhoaaGreatDoor
open Go.RowKit Go.Shelf
set_option linter.unusedVariables false
set_option linter.unusedSimpArgs false

/-- A way's position. -/
def posV (k n a b c d i o : Int) : Int := if goesV n a b c d i o = true then (if k = 2 then wayV n a b c d i o else -1) else 0
/-- The ports below j to which a way goes. -/
def outsTo (n a b c d i : Int) : Nat → List Int
  | 0 => []
  | j + 1 => outsTo n a b c d i j ++ (if goesV n a b c d i j = true then [(j : Int)] else [])
theorem outsTo_le (n a b c d i : Int) : ∀ j, (outsTo n a b c d i j).length ≤ j
  | 0 => by simp [outsTo]
  | j + 1 => by
    have := outsTo_le n a b c d i j
    unfold outsTo
    rw [List.length_append]
    split <;> simp <;> omega

end Go.Proofs.YtlfpkileblmhoaaGreatDoor
