/- Package topo: pairs of numbers, one by one; the first of two alike. -/
import Derived.RangeFuncNested
import Derived.RangeFuncBound
import Derived.RangeFuncCalls
import Derived.RangeFuncLeaves
import Derived.RangeFuncBox
import Derived.Shelf.Abstract
import Derived.Shelf.RegionOpen
import Derived.WalkKit
import Derived.OwnWalkIn
import Derived.TacticsInMore
import Derived.LoopNIn
import Derived.LoopIn
import Derived.WalkMore
import Derived.Test.YtiknjkgioiknnaaDoorQH
import Derived.Test.YtiknjkgioiknnaaDoorQC
namespace Go.Proofs.YtiknjkgioiknnaaDoor
open Go.RowKit Go.Shelf
set_option linter.unusedVariables false
set_option linter.unusedSimpArgs false

attribute [local go_sem] Oper.semAt_some

theorem range_at {n j : Nat} (h : j < n) : (List.range n)[j]? = some j := by rw [List.getElem?_range h]
theorem NoneUp.find {α : Type} {pr : α → Bool} {l : List α} (h : NoneUp pr l l.length) : l.find? pr = none := by
  rw [List.find?_eq_none]
  intro x hx
  obtain ⟨i, hi, rfl⟩ := List.getElem_of_mem hx
  have := h.any
  rw [List.any_eq_false] at this
  exact this _ hx
theorem NoneUp.hit {α : Type} {pr : α → Bool} {l : List α} {j : Nat} {x : α} (h : NoneUp pr l j) (hx : l[j]? = some x) (hp : pr x = true) : l.find? pr = some x := by
  obtain ⟨hj, hx'⟩ := List.getElem?_eq_some_iff.1 hx
  rw [List.find?_eq_some_iff_getElem]
  refine ⟨hp, j, hj, hx', fun i hi => ?_⟩
  have := h i (l[i]'(by omega)) hi (List.getElem?_eq_getElem (by omega))
  rw [this]
  rfl

end Go.Proofs.YtiknjkgioiknnaaDoor
