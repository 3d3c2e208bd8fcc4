/- Package join: the end of a track, which ports there are, what lies beyond. -/
import Derived.Test.YtbdbgoploednbaaDoorQJoinA
import Derived.Test.YtbdbgoploednbaaDoorQB
import Derived.Test.YtbdbgoploednbaaDoorQD
namespace Go.Proofs.YtbdbgoploednbaaDoor
open Go.RowKit Go.Shelf
set_option linter.unusedVariables false
set_option linter.unusedSimpArgs false

theorem keep_boxV {P : World → Prop} (hP : Closed P) {w : World} (h : P w) (t : TypeId) (vs : List Value) :
    ∃ Q : World → Prop, Hid (Closed Q) ∧ Hid (∀ W, Q W → P W) ∧ Hid (∀ W, Q W → Whole W w.heap.size t vs) ∧ Q (w.alloc (.cells vs.toArray t)) :=
  ⟨fun W => P W ∧ Whole W w.heap.size t vs, Lib.hid (hP.and (Closed.whole _ t vs)), Lib.hid (fun _ h => h.1), Lib.hid (fun _ h => h.2), hP _ _ h (below1 w _), Whole.new w t vs⟩
/-- Is it a section's number? -/
def hasSec (l : Lay) (s : Int) : Bool := decide (0 ≤ s) && decide (s < (l.secs.length : Int))
/-- Does the track end there, or is that joined? -/
def joinedP (l : Lay) (s p : Int) : Bool := (((beyondV l s p).1 == -1) && ((beyondV l s p).2 == 0)) || (!((beyondV l s p).1 == s) && (((beyondV l (beyondV l s p).1 (beyondV l s p).2).1 == s) && ((beyondV l (beyondV l s p).1 (beyondV l s p).2).2 == p)))

section
variable {P : World → Prop} {w : World}
end
end Go.Proofs.YtbdbgoploednbaaDoor
