/-
  NARROWER THAN 'FOR EVERY INPUT', by the rows' own cells (each row's printed sentence says how): TopoOver: laid · TopoOnce: laid · TopoFirst: laid · TopoLess: laid.
  DERIVED. THE GIVEN ROWS OF THIS SEAT. 4 by the template 'for every input the law returns true; each argument reads behind the call as it read before'; 0 by the template 'total and deterministic' (their statements: YtpppieffkklnhaaDoorTotals.lean).
  GIVEN WITH THE SEED: the statements are not yours to turn. If you find one false, say at which input.
  Laid BY PROGRAM, IN A SANDBOX (cutbox-rows.mjs): the forced cells as the released guide's own fill.sh prints them over the translation c7b37c625955a99b… (all of the seat's roots in one cut). By AI agents, Wed Nov 11 2026. No macro, syntax, notation, axiom, sorry.
-/
import Derived.Test.YtpppieffkklnhaaDoorChecked
import GoSem.Claim
import GoSem.ClaimJoined
import GoSem.ClaimMapViews
import Derived.JoinedTies
import Derived.KernelRfl
namespace Go.Proofs.YtpppieffkklnhaaDoor
/- THE CELL 'sum', in the pinned program and in every row, IS THE sha256 OF THE DUMP (.gsa) THAT YtpppieffkklnhaaDoorProg.lean LOADS. Nothing in Lean hashes anything: it is a label: what it is worth is what the hold of that sum in a sandbox is worth. -/
noncomputable def Tryd.pinned : Pinned := { name := "ytpppieffkklnhaadoor", sum := "c7b37c625955a99bcdeac18deed0e38f1008b3436979ab20acf306941d053e20", checked := Tryd.checked }
namespace Rows
def none {H : Type} : Left H := { results := [], args := [] }

/- WHAT THE LISTED PACKAGE-LEVEL VARIABLES READ AS WHEN THE CALL BEGINS. Each datum BY PROGRAM (the guide's laid-datum.mjs) off the statement by which the dump's own 'gosem.cut.vars' lays the variable. In a bare row this is a premise. The card (YtpppieffkklnhaaDoorCards.lean) ties it to the program's text. -/
def laid_lockbar_port_shapes {H : Type} : DataW H := .agg [.agg [.lit (.int .i64 0), .lit (.int .i64 0), .agg [.agg [.lit (.int .i64 0), .lit (.int .i64 0)], .agg [.lit (.int .i64 0), .lit (.int .i64 0)]]], .agg [.lit (.int .i64 2), .lit (.int .i64 1), .agg [.agg [.lit (.int .i64 0), .lit (.int .i64 1)], .agg [.lit (.int .i64 0), .lit (.int .i64 0)]]], .agg [.lit (.int .i64 3), .lit (.int .i64 2), .agg [.agg [.lit (.int .i64 0), .lit (.int .i64 1)], .agg [.lit (.int .i64 0), .lit (.int .i64 2)]]], .agg [.lit (.int .i64 4), .lit (.int .i64 2), .agg [.agg [.lit (.int .i64 0), .lit (.int .i64 1)], .agg [.lit (.int .i64 2), .lit (.int .i64 3)]]]]

/-- 'lockbarlaw09.TopoOver': WHATEVER THE INPUT: true; the input reads as it did. -/
def topoOverSpec : ChangeSpec := { name := "topoOver", fn := fun _ => fun
  | [d1, d2] => { results := [.lit (.bool true)], args := [d1, d2] }
  | _ => none }
def topoOverRow : OpenClaim := { program := "ytpppieffkklnhaadoor", sum := "c7b37c625955a99bcdeac18deed0e38f1008b3436979ab20acf306941d053e20", func := "lockbar/lockbarlaw09.TopoOver", spec := "topoOver", unfollowed := true, recurses := true, named := ["lockbar/port.shapes"], apart := false, laid := [("lockbar/port.shapes", laid_lockbar_port_shapes)] }
def TopoOverSaid : Prop := topoOverRow.holds Tryd.pinned (OpenSpec.ofChange topoOverSpec)

/-- ITS FALSE NEIGHBOUR: 'it returns false'. Refute it at one input. -/
def topoOverWrong : ChangeSpec := { name := "topoOver", fn := fun _ => fun
  | [d1, d2] => { results := [.lit (.bool false)], args := [d1, d2] }
  | _ => none }
def TopoOverWrongFalsely : Prop := topoOverRow.holds Tryd.pinned (OpenSpec.ofChange topoOverWrong)

/-- 'lockbarlaw09.TopoOnce': WHATEVER THE INPUT: true; the input reads as it did. -/
def topoOnceSpec : ChangeSpec := { name := "topoOnce", fn := fun _ => fun
  | [d1, d2] => { results := [.lit (.bool true)], args := [d1, d2] }
  | _ => none }
def topoOnceRow : OpenClaim := { program := "ytpppieffkklnhaadoor", sum := "c7b37c625955a99bcdeac18deed0e38f1008b3436979ab20acf306941d053e20", func := "lockbar/lockbarlaw09.TopoOnce", spec := "topoOnce", unfollowed := true, recurses := true, named := ["lockbar/port.shapes"], apart := false, laid := [("lockbar/port.shapes", laid_lockbar_port_shapes)] }
def TopoOnceSaid : Prop := topoOnceRow.holds Tryd.pinned (OpenSpec.ofChange topoOnceSpec)

/-- ITS FALSE NEIGHBOUR: 'it returns false'. Refute it at one input. -/
def topoOnceWrong : ChangeSpec := { name := "topoOnce", fn := fun _ => fun
  | [d1, d2] => { results := [.lit (.bool false)], args := [d1, d2] }
  | _ => none }
def TopoOnceWrongFalsely : Prop := topoOnceRow.holds Tryd.pinned (OpenSpec.ofChange topoOnceWrong)

/-- 'lockbarlaw09.TopoFirst': WHATEVER THE INPUT: true; the input reads as it did. -/
def topoFirstSpec : ChangeSpec := { name := "topoFirst", fn := fun _ => fun
  | [d] => { results := [.lit (.bool true)], args := [d] }
  | _ => none }
def topoFirstRow : OpenClaim := { program := "ytpppieffkklnhaadoor", sum := "c7b37c625955a99bcdeac18deed0e38f1008b3436979ab20acf306941d053e20", func := "lockbar/lockbarlaw09.TopoFirst", spec := "topoFirst", unfollowed := true, recurses := true, named := ["lockbar/port.shapes"], apart := false, laid := [("lockbar/port.shapes", laid_lockbar_port_shapes)] }
def TopoFirstSaid : Prop := topoFirstRow.holds Tryd.pinned (OpenSpec.ofChange topoFirstSpec)

/-- ITS FALSE NEIGHBOUR: 'it returns false'. Refute it at one input. -/
def topoFirstWrong : ChangeSpec := { name := "topoFirst", fn := fun _ => fun
  | [d] => { results := [.lit (.bool false)], args := [d] }
  | _ => none }
def TopoFirstWrongFalsely : Prop := topoFirstRow.holds Tryd.pinned (OpenSpec.ofChange topoFirstWrong)

/-- 'lockbarlaw09.TopoLess': WHATEVER THE INPUT: true; the input reads as it did. -/
def topoLessSpec : ChangeSpec := { name := "topoLess", fn := fun _ => fun
  | [d1, d2, d3, d4] => { results := [.lit (.bool true)], args := [d1, d2, d3, d4] }
  | _ => none }
def topoLessRow : OpenClaim := { program := "ytpppieffkklnhaadoor", sum := "c7b37c625955a99bcdeac18deed0e38f1008b3436979ab20acf306941d053e20", func := "lockbar/lockbarlaw09.TopoLess", spec := "topoLess", unfollowed := true, recurses := true, named := ["lockbar/port.shapes"], apart := false, laid := [("lockbar/port.shapes", laid_lockbar_port_shapes)] }
def TopoLessSaid : Prop := topoLessRow.holds Tryd.pinned (OpenSpec.ofChange topoLessSpec)

/-- ITS FALSE NEIGHBOUR: 'it returns false'. Refute it at one input. -/
def topoLessWrong : ChangeSpec := { name := "topoLess", fn := fun _ => fun
  | [d1, d2, d3, d4] => { results := [.lit (.bool false)], args := [d1, d2, d3, d4] }
  | _ => none }
def TopoLessWrongFalsely : Prop := topoLessRow.holds Tryd.pinned (OpenSpec.ofChange topoLessWrong)

/- THE SECOND FORM. 'bulk': how many values and letters a reading holds, each counted each time it is reached (what is shared counts as often as it is met; a slice's spare places count too). A statement '..UptoSaid' is the law's where the arguments, and the package variables that the reading takes, are together of bulk at most 1048576: NARROWER than '..Said'. Prove '..Said' where nothing that the law and all that it calls make is longer than what came in: it says more and counts as full. Else prove '..UptoSaid'. A law counts once. -/
mutual
def uptoBulk {H : Type} : DataW H → Nat
  | .lit (.string bytes) => bytes.length + 1
  | .lit _ => 1
  | .nil => 1
  | .ptr d => uptoBulk d + 1
  | .slice elems spare => uptoBulkAll elems + uptoBulkAll spare + 1
  | .agg parts => uptoBulkAll parts + 1
  | .iface _ d => uptoBulk d + 1
  | .map entries => uptoBulkEntries entries + 1
  | .held _ => 1
def uptoBulkAll {H : Type} : List (DataW H) → Nat
  | [] => 0
  | d :: r => uptoBulk d + uptoBulkAll r
def uptoBulkEntries {H : Type} : List (Lit × DataW H) → Nat
  | [] => 0
  | x :: r => uptoBulkEntry x + uptoBulkEntries r
def uptoBulkEntry {H : Type} : Lit × DataW H → Nat
  | (.string bytes, d) => bytes.length + uptoBulk d + 1
  | (_, d) => uptoBulk d + 1
 end
def uptoSmall : (H : Type) → List (DataW H) → Bool := fun _ ds => decide (uptoBulkAll ds ≤ 1048576)
def OpenSpec.upto (s : _root_.Go.ChangeSpec) : _root_.Go.OpenSpec := { _root_.Go.OpenSpec.ofChange s with cond := some uptoSmall }

/-- 'lockbarlaw09.TopoOver', WHERE WHAT IT READS IS OF BULK AT MOST 1048576: true; the input reads as it did. -/
def topoOverUptoRow : OpenClaim := { program := "ytpppieffkklnhaadoor", sum := "c7b37c625955a99bcdeac18deed0e38f1008b3436979ab20acf306941d053e20", func := "lockbar/lockbarlaw09.TopoOver", spec := "topoOver", unfollowed := true, recurses := true, named := ["lockbar/port.shapes"], apart := false, laid := [("lockbar/port.shapes", laid_lockbar_port_shapes)], narrowed := true }
def TopoOverUptoSaid : Prop := topoOverUptoRow.holds Tryd.pinned (OpenSpec.upto topoOverSpec)

/-- 'lockbarlaw09.TopoOnce', WHERE WHAT IT READS IS OF BULK AT MOST 1048576: true; the input reads as it did. -/
def topoOnceUptoRow : OpenClaim := { program := "ytpppieffkklnhaadoor", sum := "c7b37c625955a99bcdeac18deed0e38f1008b3436979ab20acf306941d053e20", func := "lockbar/lockbarlaw09.TopoOnce", spec := "topoOnce", unfollowed := true, recurses := true, named := ["lockbar/port.shapes"], apart := false, laid := [("lockbar/port.shapes", laid_lockbar_port_shapes)], narrowed := true }
def TopoOnceUptoSaid : Prop := topoOnceUptoRow.holds Tryd.pinned (OpenSpec.upto topoOnceSpec)

/-- 'lockbarlaw09.TopoFirst', WHERE WHAT IT READS IS OF BULK AT MOST 1048576: true; the input reads as it did. -/
def topoFirstUptoRow : OpenClaim := { program := "ytpppieffkklnhaadoor", sum := "c7b37c625955a99bcdeac18deed0e38f1008b3436979ab20acf306941d053e20", func := "lockbar/lockbarlaw09.TopoFirst", spec := "topoFirst", unfollowed := true, recurses := true, named := ["lockbar/port.shapes"], apart := false, laid := [("lockbar/port.shapes", laid_lockbar_port_shapes)], narrowed := true }
def TopoFirstUptoSaid : Prop := topoFirstUptoRow.holds Tryd.pinned (OpenSpec.upto topoFirstSpec)

/-- 'lockbarlaw09.TopoLess', WHERE WHAT IT READS IS OF BULK AT MOST 1048576: true; the input reads as it did. -/
def topoLessUptoRow : OpenClaim := { program := "ytpppieffkklnhaadoor", sum := "c7b37c625955a99bcdeac18deed0e38f1008b3436979ab20acf306941d053e20", func := "lockbar/lockbarlaw09.TopoLess", spec := "topoLess", unfollowed := true, recurses := true, named := ["lockbar/port.shapes"], apart := false, laid := [("lockbar/port.shapes", laid_lockbar_port_shapes)], narrowed := true }
def TopoLessUptoSaid : Prop := topoLessUptoRow.holds Tryd.pinned (OpenSpec.upto topoLessSpec)

end Rows
end Go.Proofs.YtpppieffkklnhaaDoor
