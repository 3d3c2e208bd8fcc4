/-
  NARROWER THAN 'FOR EVERY INPUT', by the rows' own cells (each row's printed sentence says how): NeedTells: laid · NeedOne: laid · NeedParts: laid · NeedClash: laid · NeedPoints: laid.
  DERIVED. THE GIVEN ROWS OF THIS SEAT. 5 by the template 'for every input the law returns true; each argument reads behind the call as it read before'; 0 by the template 'total and deterministic' (their statements: YtbdbgoploednbaaDoorTotals.lean).
  GIVEN WITH THE SEED: the statements are not yours to turn. If you find one false, say at which input.
  Laid BY PROGRAM, IN A SANDBOX (cutbox-rows.mjs): the forced cells as the released guide's own fill.sh prints them over the translation 666f83d22a03e668… (all of the seat's roots in one cut). By AI agents, Wed Nov 11 2026. No macro, syntax, notation, axiom, sorry.
-/
import Derived.Test.YtbdbgoploednbaaDoorChecked
import GoSem.Claim
import GoSem.ClaimJoined
import GoSem.ClaimMapViews
import Derived.JoinedTies
import Derived.KernelRfl
namespace Go.Proofs.YtbdbgoploednbaaDoor
/- THE CELL 'sum', in the pinned program and in every row, IS THE sha256 OF THE DUMP (.gsa) THAT YtbdbgoploednbaaDoorProg.lean LOADS. Nothing in Lean hashes anything: it is a label: what it is worth is what the hold of that sum in a sandbox is worth. -/
noncomputable def Tryd.pinned : Pinned := { name := "ytbdbgoploednbaadoor", sum := "666f83d22a03e66878083cecbcf4cd6dc79670e26013a4f264483dc53858cccd", checked := Tryd.checked }
namespace Rows
def none {H : Type} : Left H := { results := [], args := [] }

/- WHAT THE LISTED PACKAGE-LEVEL VARIABLES READ AS WHEN THE CALL BEGINS. Each datum BY PROGRAM (the guide's laid-datum.mjs) off the statement by which the dump's own 'gosem.cut.vars' lays the variable. In a bare row this is a premise. The card (YtbdbgoploednbaaDoorCards.lean) ties it to the program's text. -/
def laid_lockbar_port_shapes {H : Type} : DataW H := .agg [.agg [.lit (.int .i64 0), .lit (.int .i64 0), .agg [.agg [.lit (.int .i64 0), .lit (.int .i64 0)], .agg [.lit (.int .i64 0), .lit (.int .i64 0)]]], .agg [.lit (.int .i64 2), .lit (.int .i64 1), .agg [.agg [.lit (.int .i64 0), .lit (.int .i64 1)], .agg [.lit (.int .i64 0), .lit (.int .i64 0)]]], .agg [.lit (.int .i64 3), .lit (.int .i64 2), .agg [.agg [.lit (.int .i64 0), .lit (.int .i64 1)], .agg [.lit (.int .i64 0), .lit (.int .i64 2)]]], .agg [.lit (.int .i64 4), .lit (.int .i64 2), .agg [.agg [.lit (.int .i64 0), .lit (.int .i64 1)], .agg [.lit (.int .i64 2), .lit (.int .i64 3)]]]]

/-- 'lockbarlaw13.NeedTells': WHATEVER THE INPUT: true; the input reads as it did. -/
def needTellsSpec : ChangeSpec := { name := "needTells", fn := fun _ => fun
  | [d1, d2, d3, d4, d5] => { results := [.lit (.bool true)], args := [d1, d2, d3, d4, d5] }
  | _ => none }
def needTellsRow : OpenClaim := { program := "ytbdbgoploednbaadoor", sum := "666f83d22a03e66878083cecbcf4cd6dc79670e26013a4f264483dc53858cccd", func := "lockbar/lockbarlaw13.NeedTells", spec := "needTells", unfollowed := true, recurses := true, named := ["lockbar/port.shapes"], apart := false, laid := [("lockbar/port.shapes", laid_lockbar_port_shapes)] }
def NeedTellsSaid : Prop := needTellsRow.holds Tryd.pinned (OpenSpec.ofChange needTellsSpec)

/-- ITS FALSE NEIGHBOUR: 'it returns false'. Refute it at one input. -/
def needTellsWrong : ChangeSpec := { name := "needTells", fn := fun _ => fun
  | [d1, d2, d3, d4, d5] => { results := [.lit (.bool false)], args := [d1, d2, d3, d4, d5] }
  | _ => none }
def NeedTellsWrongFalsely : Prop := needTellsRow.holds Tryd.pinned (OpenSpec.ofChange needTellsWrong)

/-- 'lockbarlaw13.NeedOne': WHATEVER THE INPUT: true; the input reads as it did. -/
def needOneSpec : ChangeSpec := { name := "needOne", fn := fun _ => fun
  | [d1, d2] => { results := [.lit (.bool true)], args := [d1, d2] }
  | _ => none }
def needOneRow : OpenClaim := { program := "ytbdbgoploednbaadoor", sum := "666f83d22a03e66878083cecbcf4cd6dc79670e26013a4f264483dc53858cccd", func := "lockbar/lockbarlaw13.NeedOne", spec := "needOne", unfollowed := true, recurses := true, named := ["lockbar/port.shapes"], apart := false, laid := [("lockbar/port.shapes", laid_lockbar_port_shapes)] }
def NeedOneSaid : Prop := needOneRow.holds Tryd.pinned (OpenSpec.ofChange needOneSpec)

/-- ITS FALSE NEIGHBOUR: 'it returns false'. Refute it at one input. -/
def needOneWrong : ChangeSpec := { name := "needOne", fn := fun _ => fun
  | [d1, d2] => { results := [.lit (.bool false)], args := [d1, d2] }
  | _ => none }
def NeedOneWrongFalsely : Prop := needOneRow.holds Tryd.pinned (OpenSpec.ofChange needOneWrong)

/-- 'lockbarlaw13.NeedParts': WHATEVER THE INPUT: true; the input reads as it did. -/
def needPartsSpec : ChangeSpec := { name := "needParts", fn := fun _ => fun
  | [d1, d2, d3] => { results := [.lit (.bool true)], args := [d1, d2, d3] }
  | _ => none }
def needPartsRow : OpenClaim := { program := "ytbdbgoploednbaadoor", sum := "666f83d22a03e66878083cecbcf4cd6dc79670e26013a4f264483dc53858cccd", func := "lockbar/lockbarlaw13.NeedParts", spec := "needParts", unfollowed := true, recurses := true, named := ["lockbar/port.shapes"], apart := false, laid := [("lockbar/port.shapes", laid_lockbar_port_shapes)] }
def NeedPartsSaid : Prop := needPartsRow.holds Tryd.pinned (OpenSpec.ofChange needPartsSpec)

/-- ITS FALSE NEIGHBOUR: 'it returns false'. Refute it at one input. -/
def needPartsWrong : ChangeSpec := { name := "needParts", fn := fun _ => fun
  | [d1, d2, d3] => { results := [.lit (.bool false)], args := [d1, d2, d3] }
  | _ => none }
def NeedPartsWrongFalsely : Prop := needPartsRow.holds Tryd.pinned (OpenSpec.ofChange needPartsWrong)

/-- 'lockbarlaw13.NeedClash': WHATEVER THE INPUT: true; the input reads as it did. -/
def needClashSpec : ChangeSpec := { name := "needClash", fn := fun _ => fun
  | [d1, d2] => { results := [.lit (.bool true)], args := [d1, d2] }
  | _ => none }
def needClashRow : OpenClaim := { program := "ytbdbgoploednbaadoor", sum := "666f83d22a03e66878083cecbcf4cd6dc79670e26013a4f264483dc53858cccd", func := "lockbar/lockbarlaw13.NeedClash", spec := "needClash", unfollowed := true, recurses := true, named := ["lockbar/port.shapes"], apart := false, laid := [("lockbar/port.shapes", laid_lockbar_port_shapes)] }
def NeedClashSaid : Prop := needClashRow.holds Tryd.pinned (OpenSpec.ofChange needClashSpec)

/-- ITS FALSE NEIGHBOUR: 'it returns false'. Refute it at one input. -/
def needClashWrong : ChangeSpec := { name := "needClash", fn := fun _ => fun
  | [d1, d2] => { results := [.lit (.bool false)], args := [d1, d2] }
  | _ => none }
def NeedClashWrongFalsely : Prop := needClashRow.holds Tryd.pinned (OpenSpec.ofChange needClashWrong)

/-- 'lockbarlaw13.NeedPoints': WHATEVER THE INPUT: true; the input reads as it did. -/
def needPointsSpec : ChangeSpec := { name := "needPoints", fn := fun _ => fun
  | [d1, d2] => { results := [.lit (.bool true)], args := [d1, d2] }
  | _ => none }
def needPointsRow : OpenClaim := { program := "ytbdbgoploednbaadoor", sum := "666f83d22a03e66878083cecbcf4cd6dc79670e26013a4f264483dc53858cccd", func := "lockbar/lockbarlaw13.NeedPoints", spec := "needPoints", unfollowed := true, recurses := true, named := ["lockbar/port.shapes"], apart := false, laid := [("lockbar/port.shapes", laid_lockbar_port_shapes)] }
def NeedPointsSaid : Prop := needPointsRow.holds Tryd.pinned (OpenSpec.ofChange needPointsSpec)

/-- ITS FALSE NEIGHBOUR: 'it returns false'. Refute it at one input. -/
def needPointsWrong : ChangeSpec := { name := "needPoints", fn := fun _ => fun
  | [d1, d2] => { results := [.lit (.bool false)], args := [d1, d2] }
  | _ => none }
def NeedPointsWrongFalsely : Prop := needPointsRow.holds Tryd.pinned (OpenSpec.ofChange needPointsWrong)

/- THE SECOND FORM. 'bulk': how many values and letters a reading holds, each counted each time it is reached (what is shared counts as often as it is met; a slice's spare places count too). A statement '..UptoSaid' is the law's where the arguments, and the package variables that the reading takes, are together of bulk at most 1048576: NARROWER than '..Said'. Prove '..Said' where nothing that the law and all that it calls make is longer than what came in: it says more and counts as full. Else prove '..UptoSaid'. A law counts once. -/
mutual
def uptoBulk {H : Type} : DataW H → Nat
  | .lit (.string bytes) => bytes.length + 1
  | .lit _ => 1
  | .nil => 1
  | .ptr d => uptoBulk d + 1
  | .slice elems spare => uptoBulkAll elems + uptoBulkAll spare + 1
  | .agg parts => uptoBulkAll parts + 1
  | .iface _ d => uptoBulk d + 1
  | .map entries => uptoBulkEntries entries + 1
  | .held _ => 1
def uptoBulkAll {H : Type} : List (DataW H) → Nat
  | [] => 0
  | d :: r => uptoBulk d + uptoBulkAll r
def uptoBulkEntries {H : Type} : List (Lit × DataW H) → Nat
  | [] => 0
  | x :: r => uptoBulkEntry x + uptoBulkEntries r
def uptoBulkEntry {H : Type} : Lit × DataW H → Nat
  | (.string bytes, d) => bytes.length + uptoBulk d + 1
  | (_, d) => uptoBulk d + 1
 end
def uptoSmall : (H : Type) → List (DataW H) → Bool := fun _ ds => decide (uptoBulkAll ds ≤ 1048576)
def OpenSpec.upto (s : _root_.Go.ChangeSpec) : _root_.Go.OpenSpec := { _root_.Go.OpenSpec.ofChange s with cond := some uptoSmall }

/-- 'lockbarlaw13.NeedTells', WHERE WHAT IT READS IS OF BULK AT MOST 1048576: true; the input reads as it did. -/
def needTellsUptoRow : OpenClaim := { program := "ytbdbgoploednbaadoor", sum := "666f83d22a03e66878083cecbcf4cd6dc79670e26013a4f264483dc53858cccd", func := "lockbar/lockbarlaw13.NeedTells", spec := "needTells", unfollowed := true, recurses := true, named := ["lockbar/port.shapes"], apart := false, laid := [("lockbar/port.shapes", laid_lockbar_port_shapes)], narrowed := true }
def NeedTellsUptoSaid : Prop := needTellsUptoRow.holds Tryd.pinned (OpenSpec.upto needTellsSpec)

/-- 'lockbarlaw13.NeedOne', WHERE WHAT IT READS IS OF BULK AT MOST 1048576: true; the input reads as it did. -/
def needOneUptoRow : OpenClaim := { program := "ytbdbgoploednbaadoor", sum := "666f83d22a03e66878083cecbcf4cd6dc79670e26013a4f264483dc53858cccd", func := "lockbar/lockbarlaw13.NeedOne", spec := "needOne", unfollowed := true, recurses := true, named := ["lockbar/port.shapes"], apart := false, laid := [("lockbar/port.shapes", laid_lockbar_port_shapes)], narrowed := true }
def NeedOneUptoSaid : Prop := needOneUptoRow.holds Tryd.pinned (OpenSpec.upto needOneSpec)

/-- 'lockbarlaw13.NeedParts', WHERE WHAT IT READS IS OF BULK AT MOST 1048576: true; the input reads as it did. -/
def needPartsUptoRow : OpenClaim := { program := "ytbdbgoploednbaadoor", sum := "666f83d22a03e66878083cecbcf4cd6dc79670e26013a4f264483dc53858cccd", func := "lockbar/lockbarlaw13.NeedParts", spec := "needParts", unfollowed := true, recurses := true, named := ["lockbar/port.shapes"], apart := false, laid := [("lockbar/port.shapes", laid_lockbar_port_shapes)], narrowed := true }
def NeedPartsUptoSaid : Prop := needPartsUptoRow.holds Tryd.pinned (OpenSpec.upto needPartsSpec)

/-- 'lockbarlaw13.NeedClash', WHERE WHAT IT READS IS OF BULK AT MOST 1048576: true; the input reads as it did. -/
def needClashUptoRow : OpenClaim := { program := "ytbdbgoploednbaadoor", sum := "666f83d22a03e66878083cecbcf4cd6dc79670e26013a4f264483dc53858cccd", func := "lockbar/lockbarlaw13.NeedClash", spec := "needClash", unfollowed := true, recurses := true, named := ["lockbar/port.shapes"], apart := false, laid := [("lockbar/port.shapes", laid_lockbar_port_shapes)], narrowed := true }
def NeedClashUptoSaid : Prop := needClashUptoRow.holds Tryd.pinned (OpenSpec.upto needClashSpec)

/-- 'lockbarlaw13.NeedPoints', WHERE WHAT IT READS IS OF BULK AT MOST 1048576: true; the input reads as it did. -/
def needPointsUptoRow : OpenClaim := { program := "ytbdbgoploednbaadoor", sum := "666f83d22a03e66878083cecbcf4cd6dc79670e26013a4f264483dc53858cccd", func := "lockbar/lockbarlaw13.NeedPoints", spec := "needPoints", unfollowed := true, recurses := true, named := ["lockbar/port.shapes"], apart := false, laid := [("lockbar/port.shapes", laid_lockbar_port_shapes)], narrowed := true }
def NeedPointsUptoSaid : Prop := needPointsUptoRow.holds Tryd.pinned (OpenSpec.upto needPointsSpec)

end Rows
end Go.Proofs.YtbdbgoploednbaaDoor
