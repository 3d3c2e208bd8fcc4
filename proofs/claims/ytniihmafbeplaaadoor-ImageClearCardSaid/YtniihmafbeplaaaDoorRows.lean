/-
  NARROWER THAN 'FOR EVERY INPUT', by the rows' own cells (each row's printed sentence says how): ImageTells: laid · ImageWorst: laid · ImageClear: laid · ImageTicks: laid · ImageOnly: laid.
  DERIVED. THE GIVEN ROWS OF THIS SEAT. 5 by the template 'for every input the law returns true; each argument reads behind the call as it read before'; 0 by the template 'total and deterministic' (their statements: YtniihmafbeplaaaDoorTotals.lean).
  GIVEN WITH THE SEED: the statements are not yours to turn. If you find one false, say at which input.
  Laid BY PROGRAM, IN A SANDBOX (cutbox-rows.mjs): the forced cells as the released guide's own fill.sh prints them over the translation 85f474bc8f019e09… (all of the seat's roots in one cut). By AI agents, Wed Nov 11 2026. No macro, syntax, notation, axiom, sorry.
-/
import Derived.Test.YtniihmafbeplaaaDoorChecked
import GoSem.Claim
import GoSem.ClaimJoined
import GoSem.ClaimMapViews
import Derived.JoinedTies
import Derived.KernelRfl
namespace Go.Proofs.YtniihmafbeplaaaDoor
/- THE CELL 'sum', in the pinned program and in every row, IS THE sha256 OF THE DUMP (.gsa) THAT YtniihmafbeplaaaDoorProg.lean LOADS. Nothing in Lean hashes anything: it is a label: what it is worth is what the hold of that sum in a sandbox is worth. -/
noncomputable def Tryd.pinned : Pinned := { name := "ytniihmafbeplaaadoor", sum := "85f474bc8f019e09946f6d978d1d8c7ba2b397913fb8f311a5dab0ee08a860bb", checked := Tryd.checked }
namespace Rows
def none {H : Type} : Left H := { results := [], args := [] }

/- WHAT THE LISTED PACKAGE-LEVEL VARIABLES READ AS WHEN THE CALL BEGINS. Each datum BY PROGRAM (the guide's laid-datum.mjs) off the statement by which the dump's own 'gosem.cut.vars' lays the variable. In a bare row this is a premise. The card (YtniihmafbeplaaaDoorCards.lean) ties it to the program's text. -/
def laid_lockbar_tick_tops {H : Type} : DataW H := .agg [.lit (.int .i64 1073741824), .lit (.int .i64 65535)]

/-- 'lockbarlaw15.ImageTells': WHATEVER THE INPUT: true; the input reads as it did. -/
def imageTellsSpec : ChangeSpec := { name := "imageTells", fn := fun _ => fun
  | [d1, d2, d3, d4] => { results := [.lit (.bool true)], args := [d1, d2, d3, d4] }
  | _ => none }
def imageTellsRow : OpenClaim := { program := "ytniihmafbeplaaadoor", sum := "85f474bc8f019e09946f6d978d1d8c7ba2b397913fb8f311a5dab0ee08a860bb", func := "lockbar/lockbarlaw15.ImageTells", spec := "imageTells", unfollowed := true, recurses := true, named := ["lockbar/tick.tops"], apart := false, laid := [("lockbar/tick.tops", laid_lockbar_tick_tops)] }
def ImageTellsSaid : Prop := imageTellsRow.holds Tryd.pinned (OpenSpec.ofChange imageTellsSpec)

/-- ITS FALSE NEIGHBOUR: 'it returns false'. Refute it at one input. -/
def imageTellsWrong : ChangeSpec := { name := "imageTells", fn := fun _ => fun
  | [d1, d2, d3, d4] => { results := [.lit (.bool false)], args := [d1, d2, d3, d4] }
  | _ => none }
def ImageTellsWrongFalsely : Prop := imageTellsRow.holds Tryd.pinned (OpenSpec.ofChange imageTellsWrong)

/-- 'lockbarlaw15.ImageWorst': WHATEVER THE INPUT: true; the input reads as it did. -/
def imageWorstSpec : ChangeSpec := { name := "imageWorst", fn := fun _ => fun
  | [d1, d2, d3] => { results := [.lit (.bool true)], args := [d1, d2, d3] }
  | _ => none }
def imageWorstRow : OpenClaim := { program := "ytniihmafbeplaaadoor", sum := "85f474bc8f019e09946f6d978d1d8c7ba2b397913fb8f311a5dab0ee08a860bb", func := "lockbar/lockbarlaw15.ImageWorst", spec := "imageWorst", unfollowed := true, recurses := true, named := ["lockbar/tick.tops"], apart := false, laid := [("lockbar/tick.tops", laid_lockbar_tick_tops)] }
def ImageWorstSaid : Prop := imageWorstRow.holds Tryd.pinned (OpenSpec.ofChange imageWorstSpec)

/-- ITS FALSE NEIGHBOUR: 'it returns false'. Refute it at one input. -/
def imageWorstWrong : ChangeSpec := { name := "imageWorst", fn := fun _ => fun
  | [d1, d2, d3] => { results := [.lit (.bool false)], args := [d1, d2, d3] }
  | _ => none }
def ImageWorstWrongFalsely : Prop := imageWorstRow.holds Tryd.pinned (OpenSpec.ofChange imageWorstWrong)

/-- 'lockbarlaw15.ImageClear': WHATEVER THE INPUT: true; the input reads as it did. -/
def imageClearSpec : ChangeSpec := { name := "imageClear", fn := fun _ => fun
  | [d1, d2, d3, d4] => { results := [.lit (.bool true)], args := [d1, d2, d3, d4] }
  | _ => none }
def imageClearRow : OpenClaim := { program := "ytniihmafbeplaaadoor", sum := "85f474bc8f019e09946f6d978d1d8c7ba2b397913fb8f311a5dab0ee08a860bb", func := "lockbar/lockbarlaw15.ImageClear", spec := "imageClear", unfollowed := true, recurses := true, named := ["lockbar/tick.tops"], apart := false, laid := [("lockbar/tick.tops", laid_lockbar_tick_tops)] }
def ImageClearSaid : Prop := imageClearRow.holds Tryd.pinned (OpenSpec.ofChange imageClearSpec)

/-- ITS FALSE NEIGHBOUR: 'it returns false'. Refute it at one input. -/
def imageClearWrong : ChangeSpec := { name := "imageClear", fn := fun _ => fun
  | [d1, d2, d3, d4] => { results := [.lit (.bool false)], args := [d1, d2, d3, d4] }
  | _ => none }
def ImageClearWrongFalsely : Prop := imageClearRow.holds Tryd.pinned (OpenSpec.ofChange imageClearWrong)

/-- 'lockbarlaw15.ImageTicks': WHATEVER THE INPUT: true; the input reads as it did. -/
def imageTicksSpec : ChangeSpec := { name := "imageTicks", fn := fun _ => fun
  | [d1, d2, d3] => { results := [.lit (.bool true)], args := [d1, d2, d3] }
  | _ => none }
def imageTicksRow : OpenClaim := { program := "ytniihmafbeplaaadoor", sum := "85f474bc8f019e09946f6d978d1d8c7ba2b397913fb8f311a5dab0ee08a860bb", func := "lockbar/lockbarlaw15.ImageTicks", spec := "imageTicks", unfollowed := true, recurses := true, named := ["lockbar/tick.tops"], apart := false, laid := [("lockbar/tick.tops", laid_lockbar_tick_tops)] }
def ImageTicksSaid : Prop := imageTicksRow.holds Tryd.pinned (OpenSpec.ofChange imageTicksSpec)

/-- ITS FALSE NEIGHBOUR: 'it returns false'. Refute it at one input. -/
def imageTicksWrong : ChangeSpec := { name := "imageTicks", fn := fun _ => fun
  | [d1, d2, d3] => { results := [.lit (.bool false)], args := [d1, d2, d3] }
  | _ => none }
def ImageTicksWrongFalsely : Prop := imageTicksRow.holds Tryd.pinned (OpenSpec.ofChange imageTicksWrong)

/-- 'lockbarlaw15.ImageOnly': WHATEVER THE INPUT: true; the input reads as it did. -/
def imageOnlySpec : ChangeSpec := { name := "imageOnly", fn := fun _ => fun
  | [d1, d2, d3, d4] => { results := [.lit (.bool true)], args := [d1, d2, d3, d4] }
  | _ => none }
def imageOnlyRow : OpenClaim := { program := "ytniihmafbeplaaadoor", sum := "85f474bc8f019e09946f6d978d1d8c7ba2b397913fb8f311a5dab0ee08a860bb", func := "lockbar/lockbarlaw15.ImageOnly", spec := "imageOnly", unfollowed := true, recurses := true, named := ["lockbar/tick.tops"], apart := false, laid := [("lockbar/tick.tops", laid_lockbar_tick_tops)] }
def ImageOnlySaid : Prop := imageOnlyRow.holds Tryd.pinned (OpenSpec.ofChange imageOnlySpec)

/-- ITS FALSE NEIGHBOUR: 'it returns false'. Refute it at one input. -/
def imageOnlyWrong : ChangeSpec := { name := "imageOnly", fn := fun _ => fun
  | [d1, d2, d3, d4] => { results := [.lit (.bool false)], args := [d1, d2, d3, d4] }
  | _ => none }
def ImageOnlyWrongFalsely : Prop := imageOnlyRow.holds Tryd.pinned (OpenSpec.ofChange imageOnlyWrong)

/- THE SECOND FORM. 'bulk': how many values and letters a reading holds, each counted each time it is reached (what is shared counts as often as it is met; a slice's spare places count too). A statement '..UptoSaid' is the law's where the arguments, and the package variables that the reading takes, are together of bulk at most 1048576: NARROWER than '..Said'. Prove '..Said' where nothing that the law and all that it calls make is longer than what came in: it says more and counts as full. Else prove '..UptoSaid'. A law counts once. -/
mutual
def uptoBulk {H : Type} : DataW H → Nat
  | .lit (.string bytes) => bytes.length + 1
  | .lit _ => 1
  | .nil => 1
  | .ptr d => uptoBulk d + 1
  | .slice elems spare => uptoBulkAll elems + uptoBulkAll spare + 1
  | .agg parts => uptoBulkAll parts + 1
  | .iface _ d => uptoBulk d + 1
  | .map entries => uptoBulkEntries entries + 1
  | .held _ => 1
def uptoBulkAll {H : Type} : List (DataW H) → Nat
  | [] => 0
  | d :: r => uptoBulk d + uptoBulkAll r
def uptoBulkEntries {H : Type} : List (Lit × DataW H) → Nat
  | [] => 0
  | x :: r => uptoBulkEntry x + uptoBulkEntries r
def uptoBulkEntry {H : Type} : Lit × DataW H → Nat
  | (.string bytes, d) => bytes.length + uptoBulk d + 1
  | (_, d) => uptoBulk d + 1
 end
def uptoSmall : (H : Type) → List (DataW H) → Bool := fun _ ds => decide (uptoBulkAll ds ≤ 1048576)
def OpenSpec.upto (s : _root_.Go.ChangeSpec) : _root_.Go.OpenSpec := { _root_.Go.OpenSpec.ofChange s with cond := some uptoSmall }

/-- 'lockbarlaw15.ImageTells', WHERE WHAT IT READS IS OF BULK AT MOST 1048576: true; the input reads as it did. -/
def imageTellsUptoRow : OpenClaim := { program := "ytniihmafbeplaaadoor", sum := "85f474bc8f019e09946f6d978d1d8c7ba2b397913fb8f311a5dab0ee08a860bb", func := "lockbar/lockbarlaw15.ImageTells", spec := "imageTells", unfollowed := true, recurses := true, named := ["lockbar/tick.tops"], apart := false, laid := [("lockbar/tick.tops", laid_lockbar_tick_tops)], narrowed := true }
def ImageTellsUptoSaid : Prop := imageTellsUptoRow.holds Tryd.pinned (OpenSpec.upto imageTellsSpec)

/-- 'lockbarlaw15.ImageWorst', WHERE WHAT IT READS IS OF BULK AT MOST 1048576: true; the input reads as it did. -/
def imageWorstUptoRow : OpenClaim := { program := "ytniihmafbeplaaadoor", sum := "85f474bc8f019e09946f6d978d1d8c7ba2b397913fb8f311a5dab0ee08a860bb", func := "lockbar/lockbarlaw15.ImageWorst", spec := "imageWorst", unfollowed := true, recurses := true, named := ["lockbar/tick.tops"], apart := false, laid := [("lockbar/tick.tops", laid_lockbar_tick_tops)], narrowed := true }
def ImageWorstUptoSaid : Prop := imageWorstUptoRow.holds Tryd.pinned (OpenSpec.upto imageWorstSpec)

/-- 'lockbarlaw15.ImageClear', WHERE WHAT IT READS IS OF BULK AT MOST 1048576: true; the input reads as it did. -/
def imageClearUptoRow : OpenClaim := { program := "ytniihmafbeplaaadoor", sum := "85f474bc8f019e09946f6d978d1d8c7ba2b397913fb8f311a5dab0ee08a860bb", func := "lockbar/lockbarlaw15.ImageClear", spec := "imageClear", unfollowed := true, recurses := true, named := ["lockbar/tick.tops"], apart := false, laid := [("lockbar/tick.tops", laid_lockbar_tick_tops)], narrowed := true }
def ImageClearUptoSaid : Prop := imageClearUptoRow.holds Tryd.pinned (OpenSpec.upto imageClearSpec)

/-- 'lockbarlaw15.ImageTicks', WHERE WHAT IT READS IS OF BULK AT MOST 1048576: true; the input reads as it did. -/
def imageTicksUptoRow : OpenClaim := { program := "ytniihmafbeplaaadoor", sum := "85f474bc8f019e09946f6d978d1d8c7ba2b397913fb8f311a5dab0ee08a860bb", func := "lockbar/lockbarlaw15.ImageTicks", spec := "imageTicks", unfollowed := true, recurses := true, named := ["lockbar/tick.tops"], apart := false, laid := [("lockbar/tick.tops", laid_lockbar_tick_tops)], narrowed := true }
def ImageTicksUptoSaid : Prop := imageTicksUptoRow.holds Tryd.pinned (OpenSpec.upto imageTicksSpec)

/-- 'lockbarlaw15.ImageOnly', WHERE WHAT IT READS IS OF BULK AT MOST 1048576: true; the input reads as it did. -/
def imageOnlyUptoRow : OpenClaim := { program := "ytniihmafbeplaaadoor", sum := "85f474bc8f019e09946f6d978d1d8c7ba2b397913fb8f311a5dab0ee08a860bb", func := "lockbar/lockbarlaw15.ImageOnly", spec := "imageOnly", unfollowed := true, recurses := true, named := ["lockbar/tick.tops"], apart := false, laid := [("lockbar/tick.tops", laid_lockbar_tick_tops)], narrowed := true }
def ImageOnlyUptoSaid : Prop := imageOnlyUptoRow.holds Tryd.pinned (OpenSpec.upto imageOnlySpec)

end Rows
end Go.Proofs.YtniihmafbeplaaaDoor
