/- The document's own layer 7: which ports there are, what lies beyond, who is near. -/
import Derived.Test.YtbdbgoploednbaaDoorQC
namespace Go.Proofs.YtbdbgoploednbaaDoor
open Go.RowKit Go.Shelf
set_option linter.unusedVariables false
set_option linter.unusedSimpArgs false

/-- What lies beyond a port. -/
def beyondV (l : Lay) (s p : Int) : Int × Int := if thereV l s p = true then ((atV l s p).ports4[p.toNat]?).getD (-1, 0) else (-1, 0)
theorem beyondV_no {l : Lay} {s p : Int} (h : thereV l s p = false) : beyondV l s p = (-1, 0) := by unfold beyondV; rw [h]; rfl
theorem pK_le4 (k : Int) : pK k ≤ 4 := by
  unfold pK
  split
  · omega
  · split
    · omega
    · split <;> omega
/-- Is b beyond a port of a? -/
def nearV (l : Lay) (a b : Int) : Bool := [0, 1, 2, 3].any fun p => (beyondV l a p).1 == b

section
variable {P : World → Prop} {w : World}
end
section
variable {P : World → Prop} {w : World}
end
section
variable {P : World → Prop} {w : World}
end
end Go.Proofs.YtbdbgoploednbaaDoor
