/- The table of shapes: what it holds when a call begins; the door's own heap meets it. -/
import Derived.Test.YtbalcbnlpgekaaaDoorRows
import Derived.Test.YtbalcbnlpgekaaaDoorClosed
import Derived.Test.YtbalcbnlpgekaaaDoorPlain
import Derived.ProofKit
import Derived.LaidMore
import Derived.OpenShut
import Derived.Stop.Joined
namespace Go.Proofs.YtbalcbnlpgekaaaDoor
open Go.ChangeShapes Go.WideShapes Go.ChangeAt Go.WideMaps Go.WideElems Go.RowKit
set_option linter.unusedVariables false

/-- The table's cells: of each kind its ports, its ways, their ends. -/
def shapeCells : List Value :=
  [.int .i64 0, .int .i64 0, .int .i64 0, .int .i64 0, .int .i64 0, .int .i64 0,
   .int .i64 2, .int .i64 1, .int .i64 0, .int .i64 1, .int .i64 0, .int .i64 0,
   .int .i64 3, .int .i64 2, .int .i64 0, .int .i64 1, .int .i64 0, .int .i64 2,
   .int .i64 4, .int .i64 2, .int .i64 0, .int .i64 1, .int .i64 2, .int .i64 3]
/-- The table lies as it was laid. -/
def Shapes (w : World) : Prop := ∀ i v, shapeCells[i]? = some v → w.cell? ⟨0, i, none⟩ = some v
theorem Shapes.closed : Closed Shapes := fun w w' h hb i v hv => (hb.cell (World.block_lt_of_cell? w _ (h i v hv))).trans (h i v hv)

abbrev laidS : List (String × DataW Unit) := [("lockbar/port.shapes", Rows.laid_lockbar_port_shapes)]
theorem gShapes : Tryd.prog.globalNamed "lockbar/port.shapes" = some 0 := by kernel_rfl
theorem tShapes : (Tryd.prog.globals[0]?).map (·.type) = some 125 := by kernel_rfl

theorem doorS_met (os : Os) (args : Array Value) : laidMetH Tryd.prog laidS ((World.doorLaid Tryd.prog 400 os).forCall (fun _ _ => 0) ⟨#[], args, []⟩).memory :=
  laidMetH_of_parts3 (fuel := 8) (laidMet_of_run' 8 (by kernel_rfl) (by kernel_rfl)) (by kernel_rfl) (by kernel_rfl)

theorem ofS_laid {W : World} (h : laidMetH Tryd.prog laidS W) : Shapes W := by
  rw [MakeChecks.laidMetH_plain _ _ _ (by kernel_rfl)] at h
  obtain ⟨ps, ⟨g0, t0, cs0, f0, p0, q0, hg0, ht0, hv0, hd0, _⟩, _, _⟩ := h
  obtain rfl := Option.some.inj (gShapes.symm.trans hg0)
  obtain rfl := Option.some.inj (tShapes.symm.trans ht0)
  obtain ⟨ls, hls⟩ : ∃ ls, leaves Tryd.prog 8 125 = some ls := Option.isSome_iff_exists.1 (by kernel_rfl)
  have hc := laid_plain hls hd0
  have hf : flat (Rows.laid_lockbar_port_shapes (H := Unit)) = shapeCells := by kernel_rfl
  intro i v hv
  have h1 := World.var?_cell hg0 hv0 i
  rw [← hf] at hv
  have h2 : cs0.toList[i]? = some v := by rw [hc]; exact hv
  rw [Array.getElem?_toList] at h2
  exact h1.trans h2
end Go.Proofs.YtbalcbnlpgekaaaDoor
