/- Of this seat: LwD. -/
import Derived.Test.YtifnlhfinjfajaaGreatDoorK33
namespace Go.Proofs.YtifnlhfinjfajaaGreatDoor
set_option linter.unusedVariables false
set_option linter.unusedSimpArgs false
set_option maxRecDepth 100000
set_option maxHeartbeats 32000000
section
open Go.RowKit Go.Shelf
attribute [local go_sem] Oper.semAt_some
theorem sameP_of {p q:Pth} (h1:p.s=q.s) (h2:p.x=q.x) (h3:p.ss=q.ss):sameP p q=true:=by
 unfold sameP;simp[h1,h2,h3]
end
end Go.Proofs.YtifnlhfinjfajaaGreatDoor
