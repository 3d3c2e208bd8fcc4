/-
  NARROWER THAN 'FOR EVERY INPUT', by the rows' own cells (each row's printed sentence says how): SearchTells: laid · SearchWhole: laid · SearchTurns: laid · SearchVias: laid · SearchExits: laid.
  DERIVED. THE GIVEN ROWS OF THIS SEAT. 5 by the template 'for every input the law returns true; each argument reads behind the call as it read before'; 0 by the template 'total and deterministic' (their statements: YtifnlhfinjfajaaGreatDoorTotals.lean).
  GIVEN WITH THE SEED: the statements are not yours to turn. If you find one false, say at which input.
  Laid BY PROGRAM, IN A SANDBOX (cutbox-rows.mjs): the forced cells as the released guide's own fill.sh prints them over the translation 2a25188385f2e904… (all of the seat's roots in one cut). By AI agents, Wed Nov 11 2026. No macro, syntax, notation, axiom, sorry.
-/
import Derived.Test.YtifnlhfinjfajaaGreatDoorChecked
import GoSem.Claim
import GoSem.ClaimJoined
import GoSem.ClaimMapViews
import Derived.JoinedTies
import Derived.KernelRfl
namespace Go.Proofs.YtifnlhfinjfajaaGreatDoor
/- THE CELL 'sum', in the pinned program and in every row, IS THE sha256 OF THE DUMP (.gsa) THAT YtifnlhfinjfajaaGreatDoorProg.lean LOADS. Nothing in Lean hashes anything: it is a label: what it is worth is what the hold of that sum in a sandbox is worth. -/
noncomputable def Tryz.pinned : Pinned := { name := "ytifnlhfinjfajaagreatdoor", sum := "2a25188385f2e9043cd1a0ac360c1042c91b32018c5edf58adb3b5582c4dccc9", checked := Tryz.checked }
namespace Rows
def none {H : Type} : Left H := { results := [], args := [] }

/- WHAT THE LISTED PACKAGE-LEVEL VARIABLES READ AS WHEN THE CALL BEGINS. Each datum BY PROGRAM (the guide's laid-datum.mjs) off the statement by which the dump's own 'gosem.cut.vars' lays the variable. In a bare row this is a premise. The card (YtifnlhfinjfajaaGreatDoorCards.lean) ties it to the program's text. -/
def laid_lockbar_port_shapes {H : Type} : DataW H := .agg [.agg [.lit (.int .i64 0), .lit (.int .i64 0), .agg [.agg [.lit (.int .i64 0), .lit (.int .i64 0)], .agg [.lit (.int .i64 0), .lit (.int .i64 0)]]], .agg [.lit (.int .i64 2), .lit (.int .i64 1), .agg [.agg [.lit (.int .i64 0), .lit (.int .i64 1)], .agg [.lit (.int .i64 0), .lit (.int .i64 0)]]], .agg [.lit (.int .i64 3), .lit (.int .i64 2), .agg [.agg [.lit (.int .i64 0), .lit (.int .i64 1)], .agg [.lit (.int .i64 0), .lit (.int .i64 2)]]], .agg [.lit (.int .i64 4), .lit (.int .i64 2), .agg [.agg [.lit (.int .i64 0), .lit (.int .i64 1)], .agg [.lit (.int .i64 2), .lit (.int .i64 3)]]]]

/-- 'lockbarlaw14.SearchTells': WHATEVER THE INPUT: true; the input reads as it did. -/
def searchTellsSpec : ChangeSpec := { name := "searchTells", fn := fun _ => fun
  | [d1, d2, d3, d4] => { results := [.lit (.bool true)], args := [d1, d2, d3, d4] }
  | _ => none }
def searchTellsRow : OpenClaim := { program := "ytifnlhfinjfajaagreatdoor", sum := "2a25188385f2e9043cd1a0ac360c1042c91b32018c5edf58adb3b5582c4dccc9", func := "lockbar/lockbarlaw14.SearchTells", spec := "searchTells", unfollowed := true, recurses := true, named := ["lockbar/port.shapes"], apart := false, laid := [("lockbar/port.shapes", laid_lockbar_port_shapes)] }
def SearchTellsSaid : Prop := searchTellsRow.holds Tryz.pinned (OpenSpec.ofChange searchTellsSpec)

/-- ITS FALSE NEIGHBOUR: 'it returns false'. Refute it at one input. -/
def searchTellsWrong : ChangeSpec := { name := "searchTells", fn := fun _ => fun
  | [d1, d2, d3, d4] => { results := [.lit (.bool false)], args := [d1, d2, d3, d4] }
  | _ => none }
def SearchTellsWrongFalsely : Prop := searchTellsRow.holds Tryz.pinned (OpenSpec.ofChange searchTellsWrong)

/-- 'lockbarlaw14.SearchWhole': WHATEVER THE INPUT: true; the input reads as it did. -/
def searchWholeSpec : ChangeSpec := { name := "searchWhole", fn := fun _ => fun
  | [d1, d2, d3, d4, d5] => { results := [.lit (.bool true)], args := [d1, d2, d3, d4, d5] }
  | _ => none }
def searchWholeRow : OpenClaim := { program := "ytifnlhfinjfajaagreatdoor", sum := "2a25188385f2e9043cd1a0ac360c1042c91b32018c5edf58adb3b5582c4dccc9", func := "lockbar/lockbarlaw14.SearchWhole", spec := "searchWhole", unfollowed := true, recurses := true, named := ["lockbar/port.shapes"], apart := false, laid := [("lockbar/port.shapes", laid_lockbar_port_shapes)] }
def SearchWholeSaid : Prop := searchWholeRow.holds Tryz.pinned (OpenSpec.ofChange searchWholeSpec)

/-- ITS FALSE NEIGHBOUR: 'it returns false'. Refute it at one input. -/
def searchWholeWrong : ChangeSpec := { name := "searchWhole", fn := fun _ => fun
  | [d1, d2, d3, d4, d5] => { results := [.lit (.bool false)], args := [d1, d2, d3, d4, d5] }
  | _ => none }
def SearchWholeWrongFalsely : Prop := searchWholeRow.holds Tryz.pinned (OpenSpec.ofChange searchWholeWrong)

/-- 'lockbarlaw14.SearchTurns': WHATEVER THE INPUT: true; the input reads as it did. -/
def searchTurnsSpec : ChangeSpec := { name := "searchTurns", fn := fun _ => fun
  | [d1, d2, d3, d4] => { results := [.lit (.bool true)], args := [d1, d2, d3, d4] }
  | _ => none }
def searchTurnsRow : OpenClaim := { program := "ytifnlhfinjfajaagreatdoor", sum := "2a25188385f2e9043cd1a0ac360c1042c91b32018c5edf58adb3b5582c4dccc9", func := "lockbar/lockbarlaw14.SearchTurns", spec := "searchTurns", unfollowed := true, recurses := true, named := ["lockbar/port.shapes"], apart := false, laid := [("lockbar/port.shapes", laid_lockbar_port_shapes)] }
def SearchTurnsSaid : Prop := searchTurnsRow.holds Tryz.pinned (OpenSpec.ofChange searchTurnsSpec)

/-- ITS FALSE NEIGHBOUR: 'it returns false'. Refute it at one input. -/
def searchTurnsWrong : ChangeSpec := { name := "searchTurns", fn := fun _ => fun
  | [d1, d2, d3, d4] => { results := [.lit (.bool false)], args := [d1, d2, d3, d4] }
  | _ => none }
def SearchTurnsWrongFalsely : Prop := searchTurnsRow.holds Tryz.pinned (OpenSpec.ofChange searchTurnsWrong)

/-- 'lockbarlaw14.SearchVias': WHATEVER THE INPUT: true; the input reads as it did. -/
def searchViasSpec : ChangeSpec := { name := "searchVias", fn := fun _ => fun
  | [d1, d2, d3, d4] => { results := [.lit (.bool true)], args := [d1, d2, d3, d4] }
  | _ => none }
def searchViasRow : OpenClaim := { program := "ytifnlhfinjfajaagreatdoor", sum := "2a25188385f2e9043cd1a0ac360c1042c91b32018c5edf58adb3b5582c4dccc9", func := "lockbar/lockbarlaw14.SearchVias", spec := "searchVias", unfollowed := true, recurses := true, named := ["lockbar/port.shapes"], apart := false, laid := [("lockbar/port.shapes", laid_lockbar_port_shapes)] }
def SearchViasSaid : Prop := searchViasRow.holds Tryz.pinned (OpenSpec.ofChange searchViasSpec)

/-- ITS FALSE NEIGHBOUR: 'it returns false'. Refute it at one input. -/
def searchViasWrong : ChangeSpec := { name := "searchVias", fn := fun _ => fun
  | [d1, d2, d3, d4] => { results := [.lit (.bool false)], args := [d1, d2, d3, d4] }
  | _ => none }
def SearchViasWrongFalsely : Prop := searchViasRow.holds Tryz.pinned (OpenSpec.ofChange searchViasWrong)

/-- 'lockbarlaw14.SearchExits': WHATEVER THE INPUT: true; the input reads as it did. -/
def searchExitsSpec : ChangeSpec := { name := "searchExits", fn := fun _ => fun
  | [d1, d2] => { results := [.lit (.bool true)], args := [d1, d2] }
  | _ => none }
def searchExitsRow : OpenClaim := { program := "ytifnlhfinjfajaagreatdoor", sum := "2a25188385f2e9043cd1a0ac360c1042c91b32018c5edf58adb3b5582c4dccc9", func := "lockbar/lockbarlaw14.SearchExits", spec := "searchExits", unfollowed := true, recurses := true, named := ["lockbar/port.shapes"], apart := false, laid := [("lockbar/port.shapes", laid_lockbar_port_shapes)] }
def SearchExitsSaid : Prop := searchExitsRow.holds Tryz.pinned (OpenSpec.ofChange searchExitsSpec)

/-- ITS FALSE NEIGHBOUR: 'it returns false'. Refute it at one input. -/
def searchExitsWrong : ChangeSpec := { name := "searchExits", fn := fun _ => fun
  | [d1, d2] => { results := [.lit (.bool false)], args := [d1, d2] }
  | _ => none }
def SearchExitsWrongFalsely : Prop := searchExitsRow.holds Tryz.pinned (OpenSpec.ofChange searchExitsWrong)

/- THE SECOND FORM. 'bulk': how many values and letters a reading holds, each counted each time it is reached (what is shared counts as often as it is met; a slice's spare places count too). A statement '..UptoSaid' is the law's where the arguments, and the package variables that the reading takes, are together of bulk at most 1048576: NARROWER than '..Said'. Prove '..Said' where nothing that the law and all that it calls make is longer than what came in: it says more and counts as full. Else prove '..UptoSaid'. A law counts once. -/
mutual
def uptoBulk {H : Type} : DataW H → Nat
  | .lit (.string bytes) => bytes.length + 1
  | .lit _ => 1
  | .nil => 1
  | .ptr d => uptoBulk d + 1
  | .slice elems spare => uptoBulkAll elems + uptoBulkAll spare + 1
  | .agg parts => uptoBulkAll parts + 1
  | .iface _ d => uptoBulk d + 1
  | .map entries => uptoBulkEntries entries + 1
  | .held _ => 1
def uptoBulkAll {H : Type} : List (DataW H) → Nat
  | [] => 0
  | d :: r => uptoBulk d + uptoBulkAll r
def uptoBulkEntries {H : Type} : List (Lit × DataW H) → Nat
  | [] => 0
  | x :: r => uptoBulkEntry x + uptoBulkEntries r
def uptoBulkEntry {H : Type} : Lit × DataW H → Nat
  | (.string bytes, d) => bytes.length + uptoBulk d + 1
  | (_, d) => uptoBulk d + 1
 end
def uptoSmall : (H : Type) → List (DataW H) → Bool := fun _ ds => decide (uptoBulkAll ds ≤ 1048576)
def OpenSpec.upto (s : _root_.Go.ChangeSpec) : _root_.Go.OpenSpec := { _root_.Go.OpenSpec.ofChange s with cond := some uptoSmall }

/-- 'lockbarlaw14.SearchTells', WHERE WHAT IT READS IS OF BULK AT MOST 1048576: true; the input reads as it did. -/
def searchTellsUptoRow : OpenClaim := { program := "ytifnlhfinjfajaagreatdoor", sum := "2a25188385f2e9043cd1a0ac360c1042c91b32018c5edf58adb3b5582c4dccc9", func := "lockbar/lockbarlaw14.SearchTells", spec := "searchTells", unfollowed := true, recurses := true, named := ["lockbar/port.shapes"], apart := false, laid := [("lockbar/port.shapes", laid_lockbar_port_shapes)], narrowed := true }
def SearchTellsUptoSaid : Prop := searchTellsUptoRow.holds Tryz.pinned (OpenSpec.upto searchTellsSpec)

/-- 'lockbarlaw14.SearchWhole', WHERE WHAT IT READS IS OF BULK AT MOST 1048576: true; the input reads as it did. -/
def searchWholeUptoRow : OpenClaim := { program := "ytifnlhfinjfajaagreatdoor", sum := "2a25188385f2e9043cd1a0ac360c1042c91b32018c5edf58adb3b5582c4dccc9", func := "lockbar/lockbarlaw14.SearchWhole", spec := "searchWhole", unfollowed := true, recurses := true, named := ["lockbar/port.shapes"], apart := false, laid := [("lockbar/port.shapes", laid_lockbar_port_shapes)], narrowed := true }
def SearchWholeUptoSaid : Prop := searchWholeUptoRow.holds Tryz.pinned (OpenSpec.upto searchWholeSpec)

/-- 'lockbarlaw14.SearchTurns', WHERE WHAT IT READS IS OF BULK AT MOST 1048576: true; the input reads as it did. -/
def searchTurnsUptoRow : OpenClaim := { program := "ytifnlhfinjfajaagreatdoor", sum := "2a25188385f2e9043cd1a0ac360c1042c91b32018c5edf58adb3b5582c4dccc9", func := "lockbar/lockbarlaw14.SearchTurns", spec := "searchTurns", unfollowed := true, recurses := true, named := ["lockbar/port.shapes"], apart := false, laid := [("lockbar/port.shapes", laid_lockbar_port_shapes)], narrowed := true }
def SearchTurnsUptoSaid : Prop := searchTurnsUptoRow.holds Tryz.pinned (OpenSpec.upto searchTurnsSpec)

/-- 'lockbarlaw14.SearchVias', WHERE WHAT IT READS IS OF BULK AT MOST 1048576: true; the input reads as it did. -/
def searchViasUptoRow : OpenClaim := { program := "ytifnlhfinjfajaagreatdoor", sum := "2a25188385f2e9043cd1a0ac360c1042c91b32018c5edf58adb3b5582c4dccc9", func := "lockbar/lockbarlaw14.SearchVias", spec := "searchVias", unfollowed := true, recurses := true, named := ["lockbar/port.shapes"], apart := false, laid := [("lockbar/port.shapes", laid_lockbar_port_shapes)], narrowed := true }
def SearchViasUptoSaid : Prop := searchViasUptoRow.holds Tryz.pinned (OpenSpec.upto searchViasSpec)

/-- 'lockbarlaw14.SearchExits', WHERE WHAT IT READS IS OF BULK AT MOST 1048576: true; the input reads as it did. -/
def searchExitsUptoRow : OpenClaim := { program := "ytifnlhfinjfajaagreatdoor", sum := "2a25188385f2e9043cd1a0ac360c1042c91b32018c5edf58adb3b5582c4dccc9", func := "lockbar/lockbarlaw14.SearchExits", spec := "searchExits", unfollowed := true, recurses := true, named := ["lockbar/port.shapes"], apart := false, laid := [("lockbar/port.shapes", laid_lockbar_port_shapes)], narrowed := true }
def SearchExitsUptoSaid : Prop := searchExitsUptoRow.holds Tryz.pinned (OpenSpec.upto searchExitsSpec)

end Rows
end Go.Proofs.YtifnlhfinjfajaaGreatDoor
