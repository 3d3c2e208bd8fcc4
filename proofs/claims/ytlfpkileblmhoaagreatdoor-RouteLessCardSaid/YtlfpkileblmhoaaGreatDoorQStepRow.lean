/- A row of steps that came in: where it lies, its room. -/
import Derived.Test.YtlfpkileblmhoaaGreatDoorQLayRowC
namespace Go.Proofs.YtlfpkileblmhoaaGreatDoor
open Go.ChangeShapes Go.WideShapes Go.ChangeAt Go.RowKit Go.Deep
open Go.Joins Go.Shelf
set_option linter.unusedVariables false
set_option maxRecDepth 100000
section
variable {H : Type} {enc : TypeId × Value → H} {w : World} {base : Nat} {spare : Nat → Bool} {held : Bool}
theorem steps_openC {r : Reach} {b0 : Nat} {v : Value} {d : DataW H} {p : List MemPlace} (hv : Value.okWide Tryz.prog w r b0 30 v) (h : DataW.Trod enc Tryz.prog w base spare held 30 v d p) :
    ∃ (A : Option Addr) (cap : Nat) (ss : List (Int × Int × Int)), v = .slice A ss.length cap ∧ Row w w.heap.size A (ss.flatMap stpCells) ∧ ((ss.length : Nat) : Int) ≤ 9223372036854775807 ∧ ss.length ≤ cap := by
  obtain ⟨a, l, c, rfl⟩ := okWide_slice Tryz.underlying30 hv
  obtain ⟨fuel, hf⟩ := h
  obtain ⟨A, cap, ss, e, hr, _, hn, hc⟩ := row_openC (f := stpCells) (G := fun _ => True) (c := 3) (fun _ => rfl) (by omega) Tryz.underlying30 (by kernel_rfl) (fun n cs x h => stp_el h) hf
  exact ⟨A, cap, ss, e, hr, hn, hc⟩
end
end Go.Proofs.YtlfpkileblmhoaaGreatDoor
