/- A region in the order of its text does not look at its edges: they may be struck ahead of a walk (a walk reckons on a goal that is a tenth as long). -/
import Derived.Test.YtljpiafopbfdlaaGen
namespace Go.Proofs.Ytljpiafopbfdlaa
open Go.RowKit
set_option linter.unusedVariables false
def bareOp (o : Oper) : Oper := { o with pos := "", after := #[] }
section
variable {P : Program} {ops : Array Oper} {Q : Exit → Act → World → Prop}
theorem yielded_bare (ops : Array Oper) (t : Array Value) : yielded (ops.map bareOp) t = yielded ops t := by
  funext j
  unfold yielded
  rw [Array.getElem?_map]
  cases ops[j]? with
  | none => rfl
  | some o => rfl
theorem wpList_bare (l : List Oper) : wpList P (ops.map bareOp) Q (l.map bareOp) = wpList P ops Q l := by
  induction l with
  | nil => funext a w; simp only [List.map_nil, wpList]
  | cons o l ih =>
    funext a w
    simp only [List.map_cons, wpList, ih, yielded_bare]
    cases o
    rfl
theorem wp_region_bare {id : Nat} {l : List Oper} {a : Act} {w : World} (h : wpList P (l.map bareOp).toArray Q (l.map bareOp) a w) : (Code.region id l.toArray false).wp P Q a w := by
  refine wp_region_lit ?_
  rw [← wpList_bare]
  rw [List.map_toArray]
  exact h
end

end Go.Proofs.Ytljpiafopbfdlaa
