/- Of this seat: LwD_1. -/
import Derived.Test.YtifnlhfinjfajaaGreatDoorK33
namespace Go.Proofs.YtifnlhfinjfajaaGreatDoor
set_option linter.unusedVariables false
set_option linter.unusedSimpArgs false
set_option maxRecDepth 100000
set_option maxHeartbeats 32000000
section
open Go.RowKit Go.Shelf
attribute [local go_sem] Oper.semAt_some
theorem from_M {Q:World→Prop} {l:Lay} (hT:Hid (∀W,Q W→Shapes W∧Lies l W)) (hm:Sml14 l) (s:Int):
 Hid (∀W,Q W→Calls Tryz.prog 16 #[l.val,.int .i64 s] W fun e w'=>∃x:Option Addr×Nat×List Pth,e= .returned (.slice x.1 x.2.2.length x.2.1)∧(Zr x.2.2 x.1 w'∧x.2.2.map (fun q=>(q.x,q.ss))=toldF l s l.exits.length∧∀q ∈ x.2.2,q.s=s)∧Below W.heap.size W w'):=Zz fun W hW=>by
 refine(from14_any (s:=s) (hT.out W hW).1 (hT.out W hW).2 hm).mono ?_
 rintro e w' ⟨A',c',qs,h1,h2,h3,h4,h5⟩
 exact⟨(A',c',qs),h1,⟨h2.lies,h3,h4⟩,h5⟩
theorem exits_M {Q:World→Prop} {l:Lay} (hT:Hid (∀W,Q W→Shapes W∧Lies l W)) (hm:Sml14 l) (s:Int):
 Hid (∀W,Q W→Calls Tryz.prog 13 #[l.val,.int .i64 s] W fun e w'=>∃x:Option Addr×Nat,e= .returned (.slice x.1 (exitsN l s l.exits.length).length x.2)∧Row w' w'.heap.size x.1 (nums .i64 (exitsN l s l.exits.length))∧Below W.heap.size W w'):=Zz fun W hW=>by
 refine(exits14_any (s:=s) (hT.out W hW).1 (hT.out W hW).2 hm).mono ?_
 rintro e w' ⟨A',c',h1,h2,h3⟩
 exact⟨(A',c'),h1,owns_row2 h2,h3⟩
end
end Go.Proofs.YtifnlhfinjfajaaGreatDoor
