/- Package join: Joined. -/
import Derived.RangeFuncNested
import Derived.RangeFuncBound
import Derived.RangeFuncCalls
import Derived.RangeFuncLeaves
import Derived.RangeFuncBox
import Derived.Shelf.Abstract
import Derived.Shelf.RegionOpen
import Derived.WalkKit
import Derived.OwnWalkIn
import Derived.TacticsInMore
import Derived.LoopNIn
import Derived.LoopIn
import Derived.WalkMore
import Derived.Test.YtiknjkgioiknnaaDoorQJoinE
import Derived.Test.YtiknjkgioiknnaaDoorQJoinC
namespace Go.Proofs.YtiknjkgioiknnaaDoor
open Go.RowKit Go.Shelf
set_option linter.unusedVariables false
set_option linter.unusedSimpArgs false

attribute [local go_sem] Oper.semAt_some
section
variable {P : World → Prop} {w : World}
end
/-- Are the sections joined? -/
def joinedL (l : Lay) : Bool := decide ((l.secs.length : Int) ≤ 24) && (!(l.secs.any fun x => !rightK x) && !((portsAll l).any fun x => !joinedP l x.1 x.2))
/-- What a round of Joined knows. -/
structure JoI (l : Lay) (w : World) (j : Nat) (W : World) : Prop where
  below : Below w.heap.size w W
  box0 : Whole W w.heap.size 29 l.cells
  box1 : Whole W (w.heap.size + 1) 4 [.bool false]
  none : NoneUp (fun x : Int × Int => !joinedP l x.1 x.2) (portsAll l) j
theorem JoI.safe (l : Lay) (w : World) {B : Nat} (hB : w.heap.size + 2 ≤ B) : Safe B (fun (_ : Nat → Prop) => JoI l w) := by
  rintro U j W W' ⟨h1, h2, h3, h4⟩ ht
  exact ⟨Safe.below (β := Unit) (B := B) (by omega) (Nat.le_refl _) U () W W' h1 ht, ht.whole h2 (.inl (by omega)), ht.whole h3 (.inl (by omega)), h4⟩

end Go.Proofs.YtiknjkgioiknnaaDoor
