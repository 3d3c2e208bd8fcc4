/- What is put is taken; one byte fewer; one more. -/
import Derived.Test.YtegflmaobmibnaaGreatDoorQPlanC
import Derived.Test.YtegflmaobmibnaaGreatDoorQPlanWk
namespace Go.Proofs.YtegflmaobmibnaaGreatDoor
set_option maxRecDepth 100000
open Go.RowKit Go.Shelf
set_option linter.unusedVariables false
set_option linter.unusedSimpArgs false

theorem great_B {w : World} {l : Lay} (hL : Lies l w) {r : Bool} (hr : greatV l = r) : Calls Tryz.prog 7 #[l.val] w fun e w' => e = .returned (.bool r) ∧ Below w.heap.size w w' :=
  great_P (P := fun W => Below w.heap.size w W) (Closed.below w) (fun W h => Lies.closed l _ _ hL h) hr (Below.refl _ _)
/-- What a law of layer 8 knows on its way. -/
structure On8 (w0 w : World) : Prop where
  below : Below w0.heap.size w0 w
theorem Hands.take {w : World} {A : Option Addr} {zs : List Int} (h : Hands w A zs) (k : Nat) : Hands w A (zs.take k) := by
  have e : u8s (zs.take k) = (u8s zs).take k := by simp [u8s]
  refine ⟨fun hp => ?_, fun z hz => h.2 z (List.mem_of_mem_take hz)⟩
  rw [e] at hp
  obtain ⟨b, off, e1, hb, hc⟩ := h.1 (by rw [List.length_take] at hp; omega)
  refine ⟨b, off, e1, hb, fun j u hu => hc j u ?_⟩
  rw [e, List.getElem?_take] at hu
  split at hu
  · exact hu
  · cases hu
theorem On8.on {w0 w w' : World} (h : On8 w0 w) (hb : Below w.heap.size w w') : On8 w0 w' := ⟨h.below.trans (hb.mono h.below.size)⟩

end Go.Proofs.YtegflmaobmibnaaGreatDoor
