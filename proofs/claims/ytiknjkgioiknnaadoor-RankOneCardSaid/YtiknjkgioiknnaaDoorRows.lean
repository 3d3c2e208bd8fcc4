/-
  NARROWER THAN 'FOR EVERY INPUT', by the rows' own cells (each row's printed sentence says how): RankOne: laid · RankSorts: laid.
  DERIVED. THE GIVEN ROWS OF THIS SEAT. 2 by the template 'for every input the law returns true; each argument reads behind the call as it read before'; 0 by the template 'total and deterministic' (their statements: YtiknjkgioiknnaaDoorTotals.lean).
  GIVEN WITH THE SEED: the statements are not yours to turn. If you find one false, say at which input.
  Laid BY PROGRAM, IN A SANDBOX (cutbox-rows.mjs): the forced cells as the released guide's own fill.sh prints them over the translation f58fd23e4ae84cc7… (all of the seat's roots in one cut). By AI agents, Wed Nov 11 2026. No macro, syntax, notation, axiom, sorry.
-/
import Derived.Test.YtiknjkgioiknnaaDoorChecked
import GoSem.Claim
import GoSem.ClaimJoined
import GoSem.ClaimMapViews
import Derived.JoinedTies
import Derived.KernelRfl
namespace Go.Proofs.YtiknjkgioiknnaaDoor
/- THE CELL 'sum', in the pinned program and in every row, IS THE sha256 OF THE DUMP (.gsa) THAT YtiknjkgioiknnaaDoorProg.lean LOADS. Nothing in Lean hashes anything: it is a label: what it is worth is what the hold of that sum in a sandbox is worth. -/
noncomputable def Tryd.pinned : Pinned := { name := "ytiknjkgioiknnaadoor", sum := "f58fd23e4ae84cc76850dde5bf7cc0b6ceba4e034acf3269fbe4dbef19efdd28", checked := Tryd.checked }
namespace Rows
def none {H : Type} : Left H := { results := [], args := [] }

/- WHAT THE LISTED PACKAGE-LEVEL VARIABLES READ AS WHEN THE CALL BEGINS. Each datum BY PROGRAM (the guide's laid-datum.mjs) off the statement by which the dump's own 'gosem.cut.vars' lays the variable. In a bare row this is a premise. The card (YtiknjkgioiknnaaDoorCards.lean) ties it to the program's text. -/
def laid_lockbar_port_shapes {H : Type} : DataW H := .agg [.agg [.lit (.int .i64 0), .lit (.int .i64 0), .agg [.agg [.lit (.int .i64 0), .lit (.int .i64 0)], .agg [.lit (.int .i64 0), .lit (.int .i64 0)]]], .agg [.lit (.int .i64 2), .lit (.int .i64 1), .agg [.agg [.lit (.int .i64 0), .lit (.int .i64 1)], .agg [.lit (.int .i64 0), .lit (.int .i64 0)]]], .agg [.lit (.int .i64 3), .lit (.int .i64 2), .agg [.agg [.lit (.int .i64 0), .lit (.int .i64 1)], .agg [.lit (.int .i64 0), .lit (.int .i64 2)]]], .agg [.lit (.int .i64 4), .lit (.int .i64 2), .agg [.agg [.lit (.int .i64 0), .lit (.int .i64 1)], .agg [.lit (.int .i64 2), .lit (.int .i64 3)]]]]

/-- 'lockbarlaw12.RankOne': WHATEVER THE INPUT: true; the input reads as it did. -/
def rankOneSpec : ChangeSpec := { name := "rankOne", fn := fun _ => fun
  | [d1, d2, d3, d4] => { results := [.lit (.bool true)], args := [d1, d2, d3, d4] }
  | _ => none }
def rankOneRow : OpenClaim := { program := "ytiknjkgioiknnaadoor", sum := "f58fd23e4ae84cc76850dde5bf7cc0b6ceba4e034acf3269fbe4dbef19efdd28", func := "lockbar/lockbarlaw12.RankOne", spec := "rankOne", unfollowed := true, recurses := true, named := ["lockbar/port.shapes"], apart := false, laid := [("lockbar/port.shapes", laid_lockbar_port_shapes)] }
def RankOneSaid : Prop := rankOneRow.holds Tryd.pinned (OpenSpec.ofChange rankOneSpec)

/-- ITS FALSE NEIGHBOUR: 'it returns false'. Refute it at one input. -/
def rankOneWrong : ChangeSpec := { name := "rankOne", fn := fun _ => fun
  | [d1, d2, d3, d4] => { results := [.lit (.bool false)], args := [d1, d2, d3, d4] }
  | _ => none }
def RankOneWrongFalsely : Prop := rankOneRow.holds Tryd.pinned (OpenSpec.ofChange rankOneWrong)

/-- 'lockbarlaw12.RankSorts': WHATEVER THE INPUT: true; the input reads as it did. -/
def rankSortsSpec : ChangeSpec := { name := "rankSorts", fn := fun _ => fun
  | [d1, d2] => { results := [.lit (.bool true)], args := [d1, d2] }
  | _ => none }
def rankSortsRow : OpenClaim := { program := "ytiknjkgioiknnaadoor", sum := "f58fd23e4ae84cc76850dde5bf7cc0b6ceba4e034acf3269fbe4dbef19efdd28", func := "lockbar/lockbarlaw12.RankSorts", spec := "rankSorts", unfollowed := true, recurses := true, named := ["lockbar/port.shapes"], apart := false, laid := [("lockbar/port.shapes", laid_lockbar_port_shapes)] }
def RankSortsSaid : Prop := rankSortsRow.holds Tryd.pinned (OpenSpec.ofChange rankSortsSpec)

/-- ITS FALSE NEIGHBOUR: 'it returns false'. Refute it at one input. -/
def rankSortsWrong : ChangeSpec := { name := "rankSorts", fn := fun _ => fun
  | [d1, d2] => { results := [.lit (.bool false)], args := [d1, d2] }
  | _ => none }
def RankSortsWrongFalsely : Prop := rankSortsRow.holds Tryd.pinned (OpenSpec.ofChange rankSortsWrong)

/- THE SECOND FORM. 'bulk': how many values and letters a reading holds, each counted each time it is reached (what is shared counts as often as it is met; a slice's spare places count too). A statement '..UptoSaid' is the law's where the arguments, and the package variables that the reading takes, are together of bulk at most 1048576: NARROWER than '..Said'. Prove '..Said' where nothing that the law and all that it calls make is longer than what came in: it says more and counts as full. Else prove '..UptoSaid'. A law counts once. -/
mutual
def uptoBulk {H : Type} : DataW H → Nat
  | .lit (.string bytes) => bytes.length + 1
  | .lit _ => 1
  | .nil => 1
  | .ptr d => uptoBulk d + 1
  | .slice elems spare => uptoBulkAll elems + uptoBulkAll spare + 1
  | .agg parts => uptoBulkAll parts + 1
  | .iface _ d => uptoBulk d + 1
  | .map entries => uptoBulkEntries entries + 1
  | .held _ => 1
def uptoBulkAll {H : Type} : List (DataW H) → Nat
  | [] => 0
  | d :: r => uptoBulk d + uptoBulkAll r
def uptoBulkEntries {H : Type} : List (Lit × DataW H) → Nat
  | [] => 0
  | x :: r => uptoBulkEntry x + uptoBulkEntries r
def uptoBulkEntry {H : Type} : Lit × DataW H → Nat
  | (.string bytes, d) => bytes.length + uptoBulk d + 1
  | (_, d) => uptoBulk d + 1
 end
def uptoSmall : (H : Type) → List (DataW H) → Bool := fun _ ds => decide (uptoBulkAll ds ≤ 1048576)
def OpenSpec.upto (s : _root_.Go.ChangeSpec) : _root_.Go.OpenSpec := { _root_.Go.OpenSpec.ofChange s with cond := some uptoSmall }

/-- 'lockbarlaw12.RankOne', WHERE WHAT IT READS IS OF BULK AT MOST 1048576: true; the input reads as it did. -/
def rankOneUptoRow : OpenClaim := { program := "ytiknjkgioiknnaadoor", sum := "f58fd23e4ae84cc76850dde5bf7cc0b6ceba4e034acf3269fbe4dbef19efdd28", func := "lockbar/lockbarlaw12.RankOne", spec := "rankOne", unfollowed := true, recurses := true, named := ["lockbar/port.shapes"], apart := false, laid := [("lockbar/port.shapes", laid_lockbar_port_shapes)], narrowed := true }
def RankOneUptoSaid : Prop := rankOneUptoRow.holds Tryd.pinned (OpenSpec.upto rankOneSpec)

/-- 'lockbarlaw12.RankSorts', WHERE WHAT IT READS IS OF BULK AT MOST 1048576: true; the input reads as it did. -/
def rankSortsUptoRow : OpenClaim := { program := "ytiknjkgioiknnaadoor", sum := "f58fd23e4ae84cc76850dde5bf7cc0b6ceba4e034acf3269fbe4dbef19efdd28", func := "lockbar/lockbarlaw12.RankSorts", spec := "rankSorts", unfollowed := true, recurses := true, named := ["lockbar/port.shapes"], apart := false, laid := [("lockbar/port.shapes", laid_lockbar_port_shapes)], narrowed := true }
def RankSortsUptoSaid : Prop := rankSortsUptoRow.holds Tryd.pinned (OpenSpec.upto rankSortsSpec)

end Rows
end Go.Proofs.YtiknjkgioiknnaaDoor
