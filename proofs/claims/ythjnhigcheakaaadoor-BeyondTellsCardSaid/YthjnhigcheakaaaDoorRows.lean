/-
  NARROWER THAN 'FOR EVERY INPUT', by the rows' own cells (each row's printed sentence says how): BeyondTells: laid · BeyondGoes: laid · BeyondWants: laid · BeyondMask: laid · BeyondRear: laid.
  DERIVED. THE GIVEN ROWS OF THIS SEAT. 5 by the template 'for every input the law returns true; each argument reads behind the call as it read before'; 0 by the template 'total and deterministic' (their statements: YthjnhigcheakaaaDoorTotals.lean).
  GIVEN WITH THE SEED: the statements are not yours to turn. If you find one false, say at which input.
  Laid BY PROGRAM, IN A SANDBOX (cutbox-rows.mjs): the forced cells as the released guide's own fill.sh prints them over the translation 3f5f19f9c741e22c… (all of the seat's roots in one cut). By AI agents, Wed Nov 11 2026. No macro, syntax, notation, axiom, sorry.
-/
import Derived.Test.YthjnhigcheakaaaDoorChecked
import GoSem.Claim
import GoSem.ClaimJoined
import GoSem.ClaimMapViews
import Derived.JoinedTies
import Derived.KernelRfl
namespace Go.Proofs.YthjnhigcheakaaaDoor
/- THE CELL 'sum', in the pinned program and in every row, IS THE sha256 OF THE DUMP (.gsa) THAT YthjnhigcheakaaaDoorProg.lean LOADS. Nothing in Lean hashes anything: it is a label: what it is worth is what the hold of that sum in a sandbox is worth. -/
noncomputable def Tryd.pinned : Pinned := { name := "ythjnhigcheakaaadoor", sum := "3f5f19f9c741e22cdba65d19c53e995484508c3c301d6555e191ea507e6691b8", checked := Tryd.checked }
namespace Rows
def none {H : Type} : Left H := { results := [], args := [] }

/- WHAT THE LISTED PACKAGE-LEVEL VARIABLES READ AS WHEN THE CALL BEGINS. Each datum BY PROGRAM (the guide's laid-datum.mjs) off the statement by which the dump's own 'gosem.cut.vars' lays the variable. In a bare row this is a premise. The card (YthjnhigcheakaaaDoorCards.lean) ties it to the program's text. -/
def laid_lockbar_port_shapes {H : Type} : DataW H := .agg [.agg [.lit (.int .i64 0), .lit (.int .i64 0), .agg [.agg [.lit (.int .i64 0), .lit (.int .i64 0)], .agg [.lit (.int .i64 0), .lit (.int .i64 0)]]], .agg [.lit (.int .i64 2), .lit (.int .i64 1), .agg [.agg [.lit (.int .i64 0), .lit (.int .i64 1)], .agg [.lit (.int .i64 0), .lit (.int .i64 0)]]], .agg [.lit (.int .i64 3), .lit (.int .i64 2), .agg [.agg [.lit (.int .i64 0), .lit (.int .i64 1)], .agg [.lit (.int .i64 0), .lit (.int .i64 2)]]], .agg [.lit (.int .i64 4), .lit (.int .i64 2), .agg [.agg [.lit (.int .i64 0), .lit (.int .i64 1)], .agg [.lit (.int .i64 2), .lit (.int .i64 3)]]]]

/-- 'lockbarlaw10.BeyondTells': WHATEVER THE INPUT: true; the input reads as it did. -/
def beyondTellsSpec : ChangeSpec := { name := "beyondTells", fn := fun _ => fun
  | [d1, d2, d3, d4, d5, d6] => { results := [.lit (.bool true)], args := [d1, d2, d3, d4, d5, d6] }
  | _ => none }
def beyondTellsRow : OpenClaim := { program := "ythjnhigcheakaaadoor", sum := "3f5f19f9c741e22cdba65d19c53e995484508c3c301d6555e191ea507e6691b8", func := "lockbar/lockbarlaw10.BeyondTells", spec := "beyondTells", unfollowed := true, recurses := true, named := ["lockbar/port.shapes"], apart := false, laid := [("lockbar/port.shapes", laid_lockbar_port_shapes)] }
def BeyondTellsSaid : Prop := beyondTellsRow.holds Tryd.pinned (OpenSpec.ofChange beyondTellsSpec)

/-- ITS FALSE NEIGHBOUR: 'it returns false'. Refute it at one input. -/
def beyondTellsWrong : ChangeSpec := { name := "beyondTells", fn := fun _ => fun
  | [d1, d2, d3, d4, d5, d6] => { results := [.lit (.bool false)], args := [d1, d2, d3, d4, d5, d6] }
  | _ => none }
def BeyondTellsWrongFalsely : Prop := beyondTellsRow.holds Tryd.pinned (OpenSpec.ofChange beyondTellsWrong)

/-- 'lockbarlaw10.BeyondGoes': WHATEVER THE INPUT: true; the input reads as it did. -/
def beyondGoesSpec : ChangeSpec := { name := "beyondGoes", fn := fun _ => fun
  | [d1, d2, d3, d4] => { results := [.lit (.bool true)], args := [d1, d2, d3, d4] }
  | _ => none }
def beyondGoesRow : OpenClaim := { program := "ythjnhigcheakaaadoor", sum := "3f5f19f9c741e22cdba65d19c53e995484508c3c301d6555e191ea507e6691b8", func := "lockbar/lockbarlaw10.BeyondGoes", spec := "beyondGoes", unfollowed := true, recurses := true, named := ["lockbar/port.shapes"], apart := false, laid := [("lockbar/port.shapes", laid_lockbar_port_shapes)] }
def BeyondGoesSaid : Prop := beyondGoesRow.holds Tryd.pinned (OpenSpec.ofChange beyondGoesSpec)

/-- ITS FALSE NEIGHBOUR: 'it returns false'. Refute it at one input. -/
def beyondGoesWrong : ChangeSpec := { name := "beyondGoes", fn := fun _ => fun
  | [d1, d2, d3, d4] => { results := [.lit (.bool false)], args := [d1, d2, d3, d4] }
  | _ => none }
def BeyondGoesWrongFalsely : Prop := beyondGoesRow.holds Tryd.pinned (OpenSpec.ofChange beyondGoesWrong)

/-- 'lockbarlaw10.BeyondWants': WHATEVER THE INPUT: true; the input reads as it did. -/
def beyondWantsSpec : ChangeSpec := { name := "beyondWants", fn := fun _ => fun
  | [d1, d2, d3] => { results := [.lit (.bool true)], args := [d1, d2, d3] }
  | _ => none }
def beyondWantsRow : OpenClaim := { program := "ythjnhigcheakaaadoor", sum := "3f5f19f9c741e22cdba65d19c53e995484508c3c301d6555e191ea507e6691b8", func := "lockbar/lockbarlaw10.BeyondWants", spec := "beyondWants", unfollowed := true, recurses := true, named := ["lockbar/port.shapes"], apart := false, laid := [("lockbar/port.shapes", laid_lockbar_port_shapes)] }
def BeyondWantsSaid : Prop := beyondWantsRow.holds Tryd.pinned (OpenSpec.ofChange beyondWantsSpec)

/-- ITS FALSE NEIGHBOUR: 'it returns false'. Refute it at one input. -/
def beyondWantsWrong : ChangeSpec := { name := "beyondWants", fn := fun _ => fun
  | [d1, d2, d3] => { results := [.lit (.bool false)], args := [d1, d2, d3] }
  | _ => none }
def BeyondWantsWrongFalsely : Prop := beyondWantsRow.holds Tryd.pinned (OpenSpec.ofChange beyondWantsWrong)

/-- 'lockbarlaw10.BeyondMask': WHATEVER THE INPUT: true; the input reads as it did. -/
def beyondMaskSpec : ChangeSpec := { name := "beyondMask", fn := fun _ => fun
  | [d1, d2, d3] => { results := [.lit (.bool true)], args := [d1, d2, d3] }
  | _ => none }
def beyondMaskRow : OpenClaim := { program := "ythjnhigcheakaaadoor", sum := "3f5f19f9c741e22cdba65d19c53e995484508c3c301d6555e191ea507e6691b8", func := "lockbar/lockbarlaw10.BeyondMask", spec := "beyondMask", unfollowed := true, recurses := true, named := ["lockbar/port.shapes"], apart := false, laid := [("lockbar/port.shapes", laid_lockbar_port_shapes)] }
def BeyondMaskSaid : Prop := beyondMaskRow.holds Tryd.pinned (OpenSpec.ofChange beyondMaskSpec)

/-- ITS FALSE NEIGHBOUR: 'it returns false'. Refute it at one input. -/
def beyondMaskWrong : ChangeSpec := { name := "beyondMask", fn := fun _ => fun
  | [d1, d2, d3] => { results := [.lit (.bool false)], args := [d1, d2, d3] }
  | _ => none }
def BeyondMaskWrongFalsely : Prop := beyondMaskRow.holds Tryd.pinned (OpenSpec.ofChange beyondMaskWrong)

/-- 'lockbarlaw10.BeyondRear': WHATEVER THE INPUT: true; the input reads as it did. -/
def beyondRearSpec : ChangeSpec := { name := "beyondRear", fn := fun _ => fun
  | [d1, d2, d3] => { results := [.lit (.bool true)], args := [d1, d2, d3] }
  | _ => none }
def beyondRearRow : OpenClaim := { program := "ythjnhigcheakaaadoor", sum := "3f5f19f9c741e22cdba65d19c53e995484508c3c301d6555e191ea507e6691b8", func := "lockbar/lockbarlaw10.BeyondRear", spec := "beyondRear", unfollowed := true, recurses := true, named := ["lockbar/port.shapes"], apart := false, laid := [("lockbar/port.shapes", laid_lockbar_port_shapes)] }
def BeyondRearSaid : Prop := beyondRearRow.holds Tryd.pinned (OpenSpec.ofChange beyondRearSpec)

/-- ITS FALSE NEIGHBOUR: 'it returns false'. Refute it at one input. -/
def beyondRearWrong : ChangeSpec := { name := "beyondRear", fn := fun _ => fun
  | [d1, d2, d3] => { results := [.lit (.bool false)], args := [d1, d2, d3] }
  | _ => none }
def BeyondRearWrongFalsely : Prop := beyondRearRow.holds Tryd.pinned (OpenSpec.ofChange beyondRearWrong)

/- THE SECOND FORM. 'bulk': how many values and letters a reading holds, each counted each time it is reached (what is shared counts as often as it is met; a slice's spare places count too). A statement '..UptoSaid' is the law's where the arguments, and the package variables that the reading takes, are together of bulk at most 1048576: NARROWER than '..Said'. Prove '..Said' where nothing that the law and all that it calls make is longer than what came in: it says more and counts as full. Else prove '..UptoSaid'. A law counts once. -/
mutual
def uptoBulk {H : Type} : DataW H → Nat
  | .lit (.string bytes) => bytes.length + 1
  | .lit _ => 1
  | .nil => 1
  | .ptr d => uptoBulk d + 1
  | .slice elems spare => uptoBulkAll elems + uptoBulkAll spare + 1
  | .agg parts => uptoBulkAll parts + 1
  | .iface _ d => uptoBulk d + 1
  | .map entries => uptoBulkEntries entries + 1
  | .held _ => 1
def uptoBulkAll {H : Type} : List (DataW H) → Nat
  | [] => 0
  | d :: r => uptoBulk d + uptoBulkAll r
def uptoBulkEntries {H : Type} : List (Lit × DataW H) → Nat
  | [] => 0
  | x :: r => uptoBulkEntry x + uptoBulkEntries r
def uptoBulkEntry {H : Type} : Lit × DataW H → Nat
  | (.string bytes, d) => bytes.length + uptoBulk d + 1
  | (_, d) => uptoBulk d + 1
 end
def uptoSmall : (H : Type) → List (DataW H) → Bool := fun _ ds => decide (uptoBulkAll ds ≤ 1048576)
def OpenSpec.upto (s : _root_.Go.ChangeSpec) : _root_.Go.OpenSpec := { _root_.Go.OpenSpec.ofChange s with cond := some uptoSmall }

/-- 'lockbarlaw10.BeyondTells', WHERE WHAT IT READS IS OF BULK AT MOST 1048576: true; the input reads as it did. -/
def beyondTellsUptoRow : OpenClaim := { program := "ythjnhigcheakaaadoor", sum := "3f5f19f9c741e22cdba65d19c53e995484508c3c301d6555e191ea507e6691b8", func := "lockbar/lockbarlaw10.BeyondTells", spec := "beyondTells", unfollowed := true, recurses := true, named := ["lockbar/port.shapes"], apart := false, laid := [("lockbar/port.shapes", laid_lockbar_port_shapes)], narrowed := true }
def BeyondTellsUptoSaid : Prop := beyondTellsUptoRow.holds Tryd.pinned (OpenSpec.upto beyondTellsSpec)

/-- 'lockbarlaw10.BeyondGoes', WHERE WHAT IT READS IS OF BULK AT MOST 1048576: true; the input reads as it did. -/
def beyondGoesUptoRow : OpenClaim := { program := "ythjnhigcheakaaadoor", sum := "3f5f19f9c741e22cdba65d19c53e995484508c3c301d6555e191ea507e6691b8", func := "lockbar/lockbarlaw10.BeyondGoes", spec := "beyondGoes", unfollowed := true, recurses := true, named := ["lockbar/port.shapes"], apart := false, laid := [("lockbar/port.shapes", laid_lockbar_port_shapes)], narrowed := true }
def BeyondGoesUptoSaid : Prop := beyondGoesUptoRow.holds Tryd.pinned (OpenSpec.upto beyondGoesSpec)

/-- 'lockbarlaw10.BeyondWants', WHERE WHAT IT READS IS OF BULK AT MOST 1048576: true; the input reads as it did. -/
def beyondWantsUptoRow : OpenClaim := { program := "ythjnhigcheakaaadoor", sum := "3f5f19f9c741e22cdba65d19c53e995484508c3c301d6555e191ea507e6691b8", func := "lockbar/lockbarlaw10.BeyondWants", spec := "beyondWants", unfollowed := true, recurses := true, named := ["lockbar/port.shapes"], apart := false, laid := [("lockbar/port.shapes", laid_lockbar_port_shapes)], narrowed := true }
def BeyondWantsUptoSaid : Prop := beyondWantsUptoRow.holds Tryd.pinned (OpenSpec.upto beyondWantsSpec)

/-- 'lockbarlaw10.BeyondMask', WHERE WHAT IT READS IS OF BULK AT MOST 1048576: true; the input reads as it did. -/
def beyondMaskUptoRow : OpenClaim := { program := "ythjnhigcheakaaadoor", sum := "3f5f19f9c741e22cdba65d19c53e995484508c3c301d6555e191ea507e6691b8", func := "lockbar/lockbarlaw10.BeyondMask", spec := "beyondMask", unfollowed := true, recurses := true, named := ["lockbar/port.shapes"], apart := false, laid := [("lockbar/port.shapes", laid_lockbar_port_shapes)], narrowed := true }
def BeyondMaskUptoSaid : Prop := beyondMaskUptoRow.holds Tryd.pinned (OpenSpec.upto beyondMaskSpec)

/-- 'lockbarlaw10.BeyondRear', WHERE WHAT IT READS IS OF BULK AT MOST 1048576: true; the input reads as it did. -/
def beyondRearUptoRow : OpenClaim := { program := "ythjnhigcheakaaadoor", sum := "3f5f19f9c741e22cdba65d19c53e995484508c3c301d6555e191ea507e6691b8", func := "lockbar/lockbarlaw10.BeyondRear", spec := "beyondRear", unfollowed := true, recurses := true, named := ["lockbar/port.shapes"], apart := false, laid := [("lockbar/port.shapes", laid_lockbar_port_shapes)], narrowed := true }
def BeyondRearUptoSaid : Prop := beyondRearUptoRow.holds Tryd.pinned (OpenSpec.upto beyondRearSpec)

end Rows
end Go.Proofs.YthjnhigcheakaaaDoor
