/- What lies beyond is joined back (pure). -/
import Derived.Test.YtbdbgoploednbaaDoorQE
import Derived.Test.YtbdbgoploednbaaDoorQH
namespace Go.Proofs.YtbdbgoploednbaaDoor
open Go.RowKit Go.Shelf
set_option linter.unusedVariables false
set_option linter.unusedSimpArgs false

/-- In a layout that hangs together beyond what lies beyond a port is that port. -/
theorem right_back {l : Lay} {s p : Int} (h : rightT l = true) {q : Int × Int} (hq : beyondV l s p = q) (h0 : 0 ≤ q.1) : beyondV l q.1 q.2 = (s, p) := by
  rcases joined_back (hangs_iff.1 h).joined hq with e | ⟨_, _, _, _, e⟩
  · rw [e] at h0; simp at h0
  · exact e
end Go.Proofs.YtbdbgoploednbaaDoor
