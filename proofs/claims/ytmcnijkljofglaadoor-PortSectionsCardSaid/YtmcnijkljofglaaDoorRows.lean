/-
  NARROWER THAN 'FOR EVERY INPUT', by the rows' own cells (each row's printed sentence says how): PortTells: laid · PortWays: laid · PortKinds: laid · PortPos: laid · PortSections: laid.
  DERIVED. THE GIVEN ROWS OF THIS SEAT. 5 by the template 'for every input the law returns true; each argument reads behind the call as it read before'; 0 by the template 'total and deterministic' (their statements: YtmcnijkljofglaaDoorTotals.lean).
  GIVEN WITH THE SEED: the statements are not yours to turn. If you find one false, say at which input.
  Laid BY PROGRAM, IN A SANDBOX (cutbox-rows.mjs): the forced cells as the released guide's own fill.sh prints them over the translation 06c51ca8a91e77d5… (all of the seat's roots in one cut). By AI agents, Wed Nov 11 2026. No macro, syntax, notation, axiom, sorry.
-/
import Derived.Test.YtmcnijkljofglaaDoorChecked
import GoSem.Claim
import GoSem.ClaimJoined
import GoSem.ClaimMapViews
import Derived.JoinedTies
import Derived.KernelRfl
namespace Go.Proofs.YtmcnijkljofglaaDoor
/- THE CELL 'sum', in the pinned program and in every row, IS THE sha256 OF THE DUMP (.gsa) THAT YtmcnijkljofglaaDoorProg.lean LOADS. Nothing in Lean hashes anything: it is a label: what it is worth is what the hold of that sum in a sandbox is worth. -/
noncomputable def Tryd.pinned : Pinned := { name := "ytmcnijkljofglaadoor", sum := "06c51ca8a91e77d58e7fbab73975fd99775a787618cbf6163d6c120bc6dd5d19", checked := Tryd.checked }
namespace Rows
def none {H : Type} : Left H := { results := [], args := [] }

/- WHAT THE LISTED PACKAGE-LEVEL VARIABLES READ AS WHEN THE CALL BEGINS. Each datum BY PROGRAM (the guide's laid-datum.mjs) off the statement by which the dump's own 'gosem.cut.vars' lays the variable. In a bare row this is a premise. The card (YtmcnijkljofglaaDoorCards.lean) ties it to the program's text. -/
def laid_lockbar_port_shapes {H : Type} : DataW H := .agg [.agg [.lit (.int .i64 0), .lit (.int .i64 0), .agg [.agg [.lit (.int .i64 0), .lit (.int .i64 0)], .agg [.lit (.int .i64 0), .lit (.int .i64 0)]]], .agg [.lit (.int .i64 2), .lit (.int .i64 1), .agg [.agg [.lit (.int .i64 0), .lit (.int .i64 1)], .agg [.lit (.int .i64 0), .lit (.int .i64 0)]]], .agg [.lit (.int .i64 3), .lit (.int .i64 2), .agg [.agg [.lit (.int .i64 0), .lit (.int .i64 1)], .agg [.lit (.int .i64 0), .lit (.int .i64 2)]]], .agg [.lit (.int .i64 4), .lit (.int .i64 2), .agg [.agg [.lit (.int .i64 0), .lit (.int .i64 1)], .agg [.lit (.int .i64 2), .lit (.int .i64 3)]]]]

/-- 'lockbarlaw05.PortTells': WHATEVER THE INPUT: true; the input reads as it did. -/
def portTellsSpec : ChangeSpec := { name := "portTells", fn := fun _ => fun
  | [d1, d2, d3, d4] => { results := [.lit (.bool true)], args := [d1, d2, d3, d4] }
  | _ => none }
def portTellsRow : OpenClaim := { program := "ytmcnijkljofglaadoor", sum := "06c51ca8a91e77d58e7fbab73975fd99775a787618cbf6163d6c120bc6dd5d19", func := "lockbar/lockbarlaw05.PortTells", spec := "portTells", unfollowed := true, recurses := true, named := ["lockbar/port.shapes"], apart := false, laid := [("lockbar/port.shapes", laid_lockbar_port_shapes)] }
def PortTellsSaid : Prop := portTellsRow.holds Tryd.pinned (OpenSpec.ofChange portTellsSpec)

/-- ITS FALSE NEIGHBOUR: 'it returns false'. Refute it at one input. -/
def portTellsWrong : ChangeSpec := { name := "portTells", fn := fun _ => fun
  | [d1, d2, d3, d4] => { results := [.lit (.bool false)], args := [d1, d2, d3, d4] }
  | _ => none }
def PortTellsWrongFalsely : Prop := portTellsRow.holds Tryd.pinned (OpenSpec.ofChange portTellsWrong)

/-- 'lockbarlaw05.PortWays': WHATEVER THE INPUT: true; the input reads as it did. -/
def portWaysSpec : ChangeSpec := { name := "portWays", fn := fun _ => fun
  | [d1, d2, d3] => { results := [.lit (.bool true)], args := [d1, d2, d3] }
  | _ => none }
def portWaysRow : OpenClaim := { program := "ytmcnijkljofglaadoor", sum := "06c51ca8a91e77d58e7fbab73975fd99775a787618cbf6163d6c120bc6dd5d19", func := "lockbar/lockbarlaw05.PortWays", spec := "portWays", unfollowed := true, recurses := true, named := ["lockbar/port.shapes"], apart := false, laid := [("lockbar/port.shapes", laid_lockbar_port_shapes)] }
def PortWaysSaid : Prop := portWaysRow.holds Tryd.pinned (OpenSpec.ofChange portWaysSpec)

/-- ITS FALSE NEIGHBOUR: 'it returns false'. Refute it at one input. -/
def portWaysWrong : ChangeSpec := { name := "portWays", fn := fun _ => fun
  | [d1, d2, d3] => { results := [.lit (.bool false)], args := [d1, d2, d3] }
  | _ => none }
def PortWaysWrongFalsely : Prop := portWaysRow.holds Tryd.pinned (OpenSpec.ofChange portWaysWrong)

/-- 'lockbarlaw05.PortKinds': WHATEVER THE INPUT: true; the input reads as it did. -/
def portKindsSpec : ChangeSpec := { name := "portKinds", fn := fun _ => fun
  | [d1, d2] => { results := [.lit (.bool true)], args := [d1, d2] }
  | _ => none }
def portKindsRow : OpenClaim := { program := "ytmcnijkljofglaadoor", sum := "06c51ca8a91e77d58e7fbab73975fd99775a787618cbf6163d6c120bc6dd5d19", func := "lockbar/lockbarlaw05.PortKinds", spec := "portKinds", unfollowed := true, recurses := true, named := ["lockbar/port.shapes"], apart := false, laid := [("lockbar/port.shapes", laid_lockbar_port_shapes)] }
def PortKindsSaid : Prop := portKindsRow.holds Tryd.pinned (OpenSpec.ofChange portKindsSpec)

/-- ITS FALSE NEIGHBOUR: 'it returns false'. Refute it at one input. -/
def portKindsWrong : ChangeSpec := { name := "portKinds", fn := fun _ => fun
  | [d1, d2] => { results := [.lit (.bool false)], args := [d1, d2] }
  | _ => none }
def PortKindsWrongFalsely : Prop := portKindsRow.holds Tryd.pinned (OpenSpec.ofChange portKindsWrong)

/-- 'lockbarlaw05.PortPos': WHATEVER THE INPUT: true; the input reads as it did. -/
def portPosSpec : ChangeSpec := { name := "portPos", fn := fun _ => fun
  | [d1, d2] => { results := [.lit (.bool true)], args := [d1, d2] }
  | _ => none }
def portPosRow : OpenClaim := { program := "ytmcnijkljofglaadoor", sum := "06c51ca8a91e77d58e7fbab73975fd99775a787618cbf6163d6c120bc6dd5d19", func := "lockbar/lockbarlaw05.PortPos", spec := "portPos", unfollowed := true, recurses := true, named := ["lockbar/port.shapes"], apart := false, laid := [("lockbar/port.shapes", laid_lockbar_port_shapes)] }
def PortPosSaid : Prop := portPosRow.holds Tryd.pinned (OpenSpec.ofChange portPosSpec)

/-- ITS FALSE NEIGHBOUR: 'it returns false'. Refute it at one input. -/
def portPosWrong : ChangeSpec := { name := "portPos", fn := fun _ => fun
  | [d1, d2] => { results := [.lit (.bool false)], args := [d1, d2] }
  | _ => none }
def PortPosWrongFalsely : Prop := portPosRow.holds Tryd.pinned (OpenSpec.ofChange portPosWrong)

/-- 'lockbarlaw05.PortSections': WHATEVER THE INPUT: true; the input reads as it did. -/
def portSectionsSpec : ChangeSpec := { name := "portSections", fn := fun _ => fun
  | [d1, d2, d3, d4] => { results := [.lit (.bool true)], args := [d1, d2, d3, d4] }
  | _ => none }
def portSectionsRow : OpenClaim := { program := "ytmcnijkljofglaadoor", sum := "06c51ca8a91e77d58e7fbab73975fd99775a787618cbf6163d6c120bc6dd5d19", func := "lockbar/lockbarlaw05.PortSections", spec := "portSections", unfollowed := true, recurses := true, named := ["lockbar/port.shapes"], apart := false, laid := [("lockbar/port.shapes", laid_lockbar_port_shapes)] }
def PortSectionsSaid : Prop := portSectionsRow.holds Tryd.pinned (OpenSpec.ofChange portSectionsSpec)

/-- ITS FALSE NEIGHBOUR: 'it returns false'. Refute it at one input. -/
def portSectionsWrong : ChangeSpec := { name := "portSections", fn := fun _ => fun
  | [d1, d2, d3, d4] => { results := [.lit (.bool false)], args := [d1, d2, d3, d4] }
  | _ => none }
def PortSectionsWrongFalsely : Prop := portSectionsRow.holds Tryd.pinned (OpenSpec.ofChange portSectionsWrong)

/- THE SECOND FORM. 'bulk': how many values and letters a reading holds, each counted each time it is reached (what is shared counts as often as it is met; a slice's spare places count too). A statement '..UptoSaid' is the law's where the arguments, and the package variables that the reading takes, are together of bulk at most 1048576: NARROWER than '..Said'. Prove '..Said' where nothing that the law and all that it calls make is longer than what came in: it says more and counts as full. Else prove '..UptoSaid'. A law counts once. -/
mutual
def uptoBulk {H : Type} : DataW H → Nat
  | .lit (.string bytes) => bytes.length + 1
  | .lit _ => 1
  | .nil => 1
  | .ptr d => uptoBulk d + 1
  | .slice elems spare => uptoBulkAll elems + uptoBulkAll spare + 1
  | .agg parts => uptoBulkAll parts + 1
  | .iface _ d => uptoBulk d + 1
  | .map entries => uptoBulkEntries entries + 1
  | .held _ => 1
def uptoBulkAll {H : Type} : List (DataW H) → Nat
  | [] => 0
  | d :: r => uptoBulk d + uptoBulkAll r
def uptoBulkEntries {H : Type} : List (Lit × DataW H) → Nat
  | [] => 0
  | x :: r => uptoBulkEntry x + uptoBulkEntries r
def uptoBulkEntry {H : Type} : Lit × DataW H → Nat
  | (.string bytes, d) => bytes.length + uptoBulk d + 1
  | (_, d) => uptoBulk d + 1
 end
def uptoSmall : (H : Type) → List (DataW H) → Bool := fun _ ds => decide (uptoBulkAll ds ≤ 1048576)
def OpenSpec.upto (s : _root_.Go.ChangeSpec) : _root_.Go.OpenSpec := { _root_.Go.OpenSpec.ofChange s with cond := some uptoSmall }

/-- 'lockbarlaw05.PortTells', WHERE WHAT IT READS IS OF BULK AT MOST 1048576: true; the input reads as it did. -/
def portTellsUptoRow : OpenClaim := { program := "ytmcnijkljofglaadoor", sum := "06c51ca8a91e77d58e7fbab73975fd99775a787618cbf6163d6c120bc6dd5d19", func := "lockbar/lockbarlaw05.PortTells", spec := "portTells", unfollowed := true, recurses := true, named := ["lockbar/port.shapes"], apart := false, laid := [("lockbar/port.shapes", laid_lockbar_port_shapes)], narrowed := true }
def PortTellsUptoSaid : Prop := portTellsUptoRow.holds Tryd.pinned (OpenSpec.upto portTellsSpec)

/-- 'lockbarlaw05.PortWays', WHERE WHAT IT READS IS OF BULK AT MOST 1048576: true; the input reads as it did. -/
def portWaysUptoRow : OpenClaim := { program := "ytmcnijkljofglaadoor", sum := "06c51ca8a91e77d58e7fbab73975fd99775a787618cbf6163d6c120bc6dd5d19", func := "lockbar/lockbarlaw05.PortWays", spec := "portWays", unfollowed := true, recurses := true, named := ["lockbar/port.shapes"], apart := false, laid := [("lockbar/port.shapes", laid_lockbar_port_shapes)], narrowed := true }
def PortWaysUptoSaid : Prop := portWaysUptoRow.holds Tryd.pinned (OpenSpec.upto portWaysSpec)

/-- 'lockbarlaw05.PortKinds', WHERE WHAT IT READS IS OF BULK AT MOST 1048576: true; the input reads as it did. -/
def portKindsUptoRow : OpenClaim := { program := "ytmcnijkljofglaadoor", sum := "06c51ca8a91e77d58e7fbab73975fd99775a787618cbf6163d6c120bc6dd5d19", func := "lockbar/lockbarlaw05.PortKinds", spec := "portKinds", unfollowed := true, recurses := true, named := ["lockbar/port.shapes"], apart := false, laid := [("lockbar/port.shapes", laid_lockbar_port_shapes)], narrowed := true }
def PortKindsUptoSaid : Prop := portKindsUptoRow.holds Tryd.pinned (OpenSpec.upto portKindsSpec)

/-- 'lockbarlaw05.PortPos', WHERE WHAT IT READS IS OF BULK AT MOST 1048576: true; the input reads as it did. -/
def portPosUptoRow : OpenClaim := { program := "ytmcnijkljofglaadoor", sum := "06c51ca8a91e77d58e7fbab73975fd99775a787618cbf6163d6c120bc6dd5d19", func := "lockbar/lockbarlaw05.PortPos", spec := "portPos", unfollowed := true, recurses := true, named := ["lockbar/port.shapes"], apart := false, laid := [("lockbar/port.shapes", laid_lockbar_port_shapes)], narrowed := true }
def PortPosUptoSaid : Prop := portPosUptoRow.holds Tryd.pinned (OpenSpec.upto portPosSpec)

/-- 'lockbarlaw05.PortSections', WHERE WHAT IT READS IS OF BULK AT MOST 1048576: true; the input reads as it did. -/
def portSectionsUptoRow : OpenClaim := { program := "ytmcnijkljofglaadoor", sum := "06c51ca8a91e77d58e7fbab73975fd99775a787618cbf6163d6c120bc6dd5d19", func := "lockbar/lockbarlaw05.PortSections", spec := "portSections", unfollowed := true, recurses := true, named := ["lockbar/port.shapes"], apart := false, laid := [("lockbar/port.shapes", laid_lockbar_port_shapes)], narrowed := true }
def PortSectionsUptoSaid : Prop := portSectionsUptoRow.holds Tryd.pinned (OpenSpec.upto portSectionsSpec)

end Rows
end Go.Proofs.YtmcnijkljofglaaDoor
