/-
  NARROWER THAN 'FOR EVERY INPUT', by the rows' own cells (each row's printed sentence says how): TickTells: laid · TickStays: laid · TickParts: laid · TickDown: laid · TickRow: laid.
  DERIVED. THE GIVEN ROWS OF THIS SEAT. 5 by the template 'for every input the law returns true; each argument reads behind the call as it read before'; 0 by the template 'total and deterministic' (their statements: YteicpjhfglkchaaDoorTotals.lean).
  GIVEN WITH THE SEED: the statements are not yours to turn. If you find one false, say at which input.
  Laid BY PROGRAM, IN A SANDBOX (cutbox-rows.mjs): the forced cells as the released guide's own fill.sh prints them over the translation f930a3c00f278d6f… (all of the seat's roots in one cut). By AI agents, Wed Nov 11 2026. No macro, syntax, notation, axiom, sorry.
-/
import Derived.Test.YteicpjhfglkchaaDoorChecked
import GoSem.Claim
import GoSem.ClaimJoined
import GoSem.ClaimMapViews
import Derived.JoinedTies
import Derived.KernelRfl
namespace Go.Proofs.YteicpjhfglkchaaDoor
/- THE CELL 'sum', in the pinned program and in every row, IS THE sha256 OF THE DUMP (.gsa) THAT YteicpjhfglkchaaDoorProg.lean LOADS. Nothing in Lean hashes anything: it is a label: what it is worth is what the hold of that sum in a sandbox is worth. -/
noncomputable def Tryd.pinned : Pinned := { name := "yteicpjhfglkchaadoor", sum := "f930a3c00f278d6f6f16526130241290fbeb96425c9606e90799afe71d79eaeb", checked := Tryd.checked }
namespace Rows
def none {H : Type} : Left H := { results := [], args := [] }

/- WHAT THE LISTED PACKAGE-LEVEL VARIABLES READ AS WHEN THE CALL BEGINS. Each datum BY PROGRAM (the guide's laid-datum.mjs) off the statement by which the dump's own 'gosem.cut.vars' lays the variable. In a bare row this is a premise. The card (YteicpjhfglkchaaDoorCards.lean) ties it to the program's text. -/
def laid_lockbar_tick_tops {H : Type} : DataW H := .agg [.lit (.int .i64 1073741824), .lit (.int .i64 65535)]

/-- 'lockbarlaw03.TickTells': WHATEVER THE INPUT: true; the input reads as it did. -/
def tickTellsSpec : ChangeSpec := { name := "tickTells", fn := fun _ => fun
  | [d1, d2, d3] => { results := [.lit (.bool true)], args := [d1, d2, d3] }
  | _ => none }
def tickTellsRow : OpenClaim := { program := "yteicpjhfglkchaadoor", sum := "f930a3c00f278d6f6f16526130241290fbeb96425c9606e90799afe71d79eaeb", func := "lockbar/lockbarlaw03.TickTells", spec := "tickTells", unfollowed := true, recurses := true, named := ["lockbar/tick.tops"], apart := false, laid := [("lockbar/tick.tops", laid_lockbar_tick_tops)] }
def TickTellsSaid : Prop := tickTellsRow.holds Tryd.pinned (OpenSpec.ofChange tickTellsSpec)

/-- ITS FALSE NEIGHBOUR: 'it returns false'. Refute it at one input. -/
def tickTellsWrong : ChangeSpec := { name := "tickTells", fn := fun _ => fun
  | [d1, d2, d3] => { results := [.lit (.bool false)], args := [d1, d2, d3] }
  | _ => none }
def TickTellsWrongFalsely : Prop := tickTellsRow.holds Tryd.pinned (OpenSpec.ofChange tickTellsWrong)

/-- 'lockbarlaw03.TickStays': WHATEVER THE INPUT: true; the input reads as it did. -/
def tickStaysSpec : ChangeSpec := { name := "tickStays", fn := fun _ => fun
  | [d1, d2, d3] => { results := [.lit (.bool true)], args := [d1, d2, d3] }
  | _ => none }
def tickStaysRow : OpenClaim := { program := "yteicpjhfglkchaadoor", sum := "f930a3c00f278d6f6f16526130241290fbeb96425c9606e90799afe71d79eaeb", func := "lockbar/lockbarlaw03.TickStays", spec := "tickStays", unfollowed := true, recurses := true, named := ["lockbar/tick.tops"], apart := false, laid := [("lockbar/tick.tops", laid_lockbar_tick_tops)] }
def TickStaysSaid : Prop := tickStaysRow.holds Tryd.pinned (OpenSpec.ofChange tickStaysSpec)

/-- ITS FALSE NEIGHBOUR: 'it returns false'. Refute it at one input. -/
def tickStaysWrong : ChangeSpec := { name := "tickStays", fn := fun _ => fun
  | [d1, d2, d3] => { results := [.lit (.bool false)], args := [d1, d2, d3] }
  | _ => none }
def TickStaysWrongFalsely : Prop := tickStaysRow.holds Tryd.pinned (OpenSpec.ofChange tickStaysWrong)

/-- 'lockbarlaw03.TickParts': WHATEVER THE INPUT: true; the input reads as it did. -/
def tickPartsSpec : ChangeSpec := { name := "tickParts", fn := fun _ => fun
  | [d1, d2, d3] => { results := [.lit (.bool true)], args := [d1, d2, d3] }
  | _ => none }
def tickPartsRow : OpenClaim := { program := "yteicpjhfglkchaadoor", sum := "f930a3c00f278d6f6f16526130241290fbeb96425c9606e90799afe71d79eaeb", func := "lockbar/lockbarlaw03.TickParts", spec := "tickParts", unfollowed := true, recurses := true, named := ["lockbar/tick.tops"], apart := false, laid := [("lockbar/tick.tops", laid_lockbar_tick_tops)] }
def TickPartsSaid : Prop := tickPartsRow.holds Tryd.pinned (OpenSpec.ofChange tickPartsSpec)

/-- ITS FALSE NEIGHBOUR: 'it returns false'. Refute it at one input. -/
def tickPartsWrong : ChangeSpec := { name := "tickParts", fn := fun _ => fun
  | [d1, d2, d3] => { results := [.lit (.bool false)], args := [d1, d2, d3] }
  | _ => none }
def TickPartsWrongFalsely : Prop := tickPartsRow.holds Tryd.pinned (OpenSpec.ofChange tickPartsWrong)

/-- 'lockbarlaw03.TickDown': WHATEVER THE INPUT: true; the input reads as it did. -/
def tickDownSpec : ChangeSpec := { name := "tickDown", fn := fun _ => fun
  | [d1, d2] => { results := [.lit (.bool true)], args := [d1, d2] }
  | _ => none }
def tickDownRow : OpenClaim := { program := "yteicpjhfglkchaadoor", sum := "f930a3c00f278d6f6f16526130241290fbeb96425c9606e90799afe71d79eaeb", func := "lockbar/lockbarlaw03.TickDown", spec := "tickDown", unfollowed := true, recurses := true, named := ["lockbar/tick.tops"], apart := false, laid := [("lockbar/tick.tops", laid_lockbar_tick_tops)] }
def TickDownSaid : Prop := tickDownRow.holds Tryd.pinned (OpenSpec.ofChange tickDownSpec)

/-- ITS FALSE NEIGHBOUR: 'it returns false'. Refute it at one input. -/
def tickDownWrong : ChangeSpec := { name := "tickDown", fn := fun _ => fun
  | [d1, d2] => { results := [.lit (.bool false)], args := [d1, d2] }
  | _ => none }
def TickDownWrongFalsely : Prop := tickDownRow.holds Tryd.pinned (OpenSpec.ofChange tickDownWrong)

/-- 'lockbarlaw03.TickRow': WHATEVER THE INPUT: true; the input reads as it did. -/
def tickRowSpec : ChangeSpec := { name := "tickRow", fn := fun _ => fun
  | [d] => { results := [.lit (.bool true)], args := [d] }
  | _ => none }
def tickRowRow : OpenClaim := { program := "yteicpjhfglkchaadoor", sum := "f930a3c00f278d6f6f16526130241290fbeb96425c9606e90799afe71d79eaeb", func := "lockbar/lockbarlaw03.TickRow", spec := "tickRow", unfollowed := true, recurses := true, named := ["lockbar/tick.tops"], apart := false, laid := [("lockbar/tick.tops", laid_lockbar_tick_tops)] }
def TickRowSaid : Prop := tickRowRow.holds Tryd.pinned (OpenSpec.ofChange tickRowSpec)

/-- ITS FALSE NEIGHBOUR: 'it returns false'. Refute it at one input. -/
def tickRowWrong : ChangeSpec := { name := "tickRow", fn := fun _ => fun
  | [d] => { results := [.lit (.bool false)], args := [d] }
  | _ => none }
def TickRowWrongFalsely : Prop := tickRowRow.holds Tryd.pinned (OpenSpec.ofChange tickRowWrong)

/- THE SECOND FORM. 'bulk': how many values and letters a reading holds, each counted each time it is reached (what is shared counts as often as it is met; a slice's spare places count too). A statement '..UptoSaid' is the law's where the arguments, and the package variables that the reading takes, are together of bulk at most 1048576: NARROWER than '..Said'. Prove '..Said' where nothing that the law and all that it calls make is longer than what came in: it says more and counts as full. Else prove '..UptoSaid'. A law counts once. -/
mutual
def uptoBulk {H : Type} : DataW H → Nat
  | .lit (.string bytes) => bytes.length + 1
  | .lit _ => 1
  | .nil => 1
  | .ptr d => uptoBulk d + 1
  | .slice elems spare => uptoBulkAll elems + uptoBulkAll spare + 1
  | .agg parts => uptoBulkAll parts + 1
  | .iface _ d => uptoBulk d + 1
  | .map entries => uptoBulkEntries entries + 1
  | .held _ => 1
def uptoBulkAll {H : Type} : List (DataW H) → Nat
  | [] => 0
  | d :: r => uptoBulk d + uptoBulkAll r
def uptoBulkEntries {H : Type} : List (Lit × DataW H) → Nat
  | [] => 0
  | x :: r => uptoBulkEntry x + uptoBulkEntries r
def uptoBulkEntry {H : Type} : Lit × DataW H → Nat
  | (.string bytes, d) => bytes.length + uptoBulk d + 1
  | (_, d) => uptoBulk d + 1
 end
def uptoSmall : (H : Type) → List (DataW H) → Bool := fun _ ds => decide (uptoBulkAll ds ≤ 1048576)
def OpenSpec.upto (s : _root_.Go.ChangeSpec) : _root_.Go.OpenSpec := { _root_.Go.OpenSpec.ofChange s with cond := some uptoSmall }

/-- 'lockbarlaw03.TickTells', WHERE WHAT IT READS IS OF BULK AT MOST 1048576: true; the input reads as it did. -/
def tickTellsUptoRow : OpenClaim := { program := "yteicpjhfglkchaadoor", sum := "f930a3c00f278d6f6f16526130241290fbeb96425c9606e90799afe71d79eaeb", func := "lockbar/lockbarlaw03.TickTells", spec := "tickTells", unfollowed := true, recurses := true, named := ["lockbar/tick.tops"], apart := false, laid := [("lockbar/tick.tops", laid_lockbar_tick_tops)], narrowed := true }
def TickTellsUptoSaid : Prop := tickTellsUptoRow.holds Tryd.pinned (OpenSpec.upto tickTellsSpec)

/-- 'lockbarlaw03.TickStays', WHERE WHAT IT READS IS OF BULK AT MOST 1048576: true; the input reads as it did. -/
def tickStaysUptoRow : OpenClaim := { program := "yteicpjhfglkchaadoor", sum := "f930a3c00f278d6f6f16526130241290fbeb96425c9606e90799afe71d79eaeb", func := "lockbar/lockbarlaw03.TickStays", spec := "tickStays", unfollowed := true, recurses := true, named := ["lockbar/tick.tops"], apart := false, laid := [("lockbar/tick.tops", laid_lockbar_tick_tops)], narrowed := true }
def TickStaysUptoSaid : Prop := tickStaysUptoRow.holds Tryd.pinned (OpenSpec.upto tickStaysSpec)

/-- 'lockbarlaw03.TickParts', WHERE WHAT IT READS IS OF BULK AT MOST 1048576: true; the input reads as it did. -/
def tickPartsUptoRow : OpenClaim := { program := "yteicpjhfglkchaadoor", sum := "f930a3c00f278d6f6f16526130241290fbeb96425c9606e90799afe71d79eaeb", func := "lockbar/lockbarlaw03.TickParts", spec := "tickParts", unfollowed := true, recurses := true, named := ["lockbar/tick.tops"], apart := false, laid := [("lockbar/tick.tops", laid_lockbar_tick_tops)], narrowed := true }
def TickPartsUptoSaid : Prop := tickPartsUptoRow.holds Tryd.pinned (OpenSpec.upto tickPartsSpec)

/-- 'lockbarlaw03.TickDown', WHERE WHAT IT READS IS OF BULK AT MOST 1048576: true; the input reads as it did. -/
def tickDownUptoRow : OpenClaim := { program := "yteicpjhfglkchaadoor", sum := "f930a3c00f278d6f6f16526130241290fbeb96425c9606e90799afe71d79eaeb", func := "lockbar/lockbarlaw03.TickDown", spec := "tickDown", unfollowed := true, recurses := true, named := ["lockbar/tick.tops"], apart := false, laid := [("lockbar/tick.tops", laid_lockbar_tick_tops)], narrowed := true }
def TickDownUptoSaid : Prop := tickDownUptoRow.holds Tryd.pinned (OpenSpec.upto tickDownSpec)

/-- 'lockbarlaw03.TickRow', WHERE WHAT IT READS IS OF BULK AT MOST 1048576: true; the input reads as it did. -/
def tickRowUptoRow : OpenClaim := { program := "yteicpjhfglkchaadoor", sum := "f930a3c00f278d6f6f16526130241290fbeb96425c9606e90799afe71d79eaeb", func := "lockbar/lockbarlaw03.TickRow", spec := "tickRow", unfollowed := true, recurses := true, named := ["lockbar/tick.tops"], apart := false, laid := [("lockbar/tick.tops", laid_lockbar_tick_tops)], narrowed := true }
def TickRowUptoSaid : Prop := tickRowUptoRow.holds Tryd.pinned (OpenSpec.upto tickRowSpec)

end Rows
end Go.Proofs.YteicpjhfglkchaaDoor
