/- Package join: its iterator of ports, made; blocks that are new count as its own. -/
import Derived.RangeFuncNested
import Derived.RangeFuncBound
import Derived.RangeFuncCalls
import Derived.RangeFuncLeaves
import Derived.RangeFuncBox
import Derived.Shelf.Abstract
import Derived.Shelf.RegionOpen
import Derived.WalkKit
import Derived.OwnWalkIn
import Derived.TacticsInMore
import Derived.LoopNIn
import Derived.LoopIn
import Derived.WalkMore
import Derived.Test.YthjnhigcheakaaaDoorQJoinD
namespace Go.Proofs.YthjnhigcheakaaaDoor
open Go.RowKit Go.Shelf
set_option linter.unusedVariables false
set_option linter.unusedSimpArgs false

attribute [local go_sem] Oper.semAt_some

/-- The blocks that are new count as its own. -/
def With (U : Nat → Prop) (W W' : World) : Nat → Prop := fun k => U k ∨ (W.heap.size ≤ k ∧ k < W'.heap.size)
theorem Grew.with {U : Nat → Prop} {W W' : World} (h : ∀ k, U k → k < W.heap.size) (hs : W.heap.size ≤ W'.heap.size) : Grew U (With U W W') W W' :=
  ⟨fun k hk => hk.imp id (fun h => h.1), fun k hk => hk.elim (fun hu => Nat.lt_of_lt_of_le (h k hu) hs) (fun h => h.2)⟩
end Go.Proofs.YthjnhigcheakaaaDoor
