/-
  NARROWER THAN 'FOR EVERY INPUT', by the rows' own cells (each row's printed sentence says how): JoinTells: laid · JoinBack: laid · JoinSteps: laid · JoinAll: laid · JoinOne: laid.
  DERIVED. THE GIVEN ROWS OF THIS SEAT. 5 by the template 'for every input the law returns true; each argument reads behind the call as it read before'; 0 by the template 'total and deterministic' (their statements: YtaelcmamgcndmaaDoorTotals.lean).
  GIVEN WITH THE SEED: the statements are not yours to turn. If you find one false, say at which input.
  Laid BY PROGRAM, IN A SANDBOX (cutbox-rows.mjs): the forced cells as the released guide's own fill.sh prints them over the translation 5d339f11b214e344… (all of the seat's roots in one cut). By AI agents, Wed Nov 11 2026. No macro, syntax, notation, axiom, sorry.
-/
import Derived.Test.YtaelcmamgcndmaaDoorChecked
import GoSem.Claim
import GoSem.ClaimJoined
import GoSem.ClaimMapViews
import Derived.JoinedTies
import Derived.KernelRfl
namespace Go.Proofs.YtaelcmamgcndmaaDoor
/- THE CELL 'sum', in the pinned program and in every row, IS THE sha256 OF THE DUMP (.gsa) THAT YtaelcmamgcndmaaDoorProg.lean LOADS. Nothing in Lean hashes anything: it is a label: what it is worth is what the hold of that sum in a sandbox is worth. -/
noncomputable def Tryd.pinned : Pinned := { name := "ytaelcmamgcndmaadoor", sum := "5d339f11b214e344b5945fa403776505234f5a86cf3785271ceee77e1f3f1cda", checked := Tryd.checked }
namespace Rows
def none {H : Type} : Left H := { results := [], args := [] }

/- WHAT THE LISTED PACKAGE-LEVEL VARIABLES READ AS WHEN THE CALL BEGINS. Each datum BY PROGRAM (the guide's laid-datum.mjs) off the statement by which the dump's own 'gosem.cut.vars' lays the variable. In a bare row this is a premise. The card (YtaelcmamgcndmaaDoorCards.lean) ties it to the program's text. -/
def laid_lockbar_port_shapes {H : Type} : DataW H := .agg [.agg [.lit (.int .i64 0), .lit (.int .i64 0), .agg [.agg [.lit (.int .i64 0), .lit (.int .i64 0)], .agg [.lit (.int .i64 0), .lit (.int .i64 0)]]], .agg [.lit (.int .i64 2), .lit (.int .i64 1), .agg [.agg [.lit (.int .i64 0), .lit (.int .i64 1)], .agg [.lit (.int .i64 0), .lit (.int .i64 0)]]], .agg [.lit (.int .i64 3), .lit (.int .i64 2), .agg [.agg [.lit (.int .i64 0), .lit (.int .i64 1)], .agg [.lit (.int .i64 0), .lit (.int .i64 2)]]], .agg [.lit (.int .i64 4), .lit (.int .i64 2), .agg [.agg [.lit (.int .i64 0), .lit (.int .i64 1)], .agg [.lit (.int .i64 2), .lit (.int .i64 3)]]]]

/-- 'lockbarlaw07.JoinTells': WHATEVER THE INPUT: true; the input reads as it did. -/
def joinTellsSpec : ChangeSpec := { name := "joinTells", fn := fun _ => fun
  | [d1, d2, d3] => { results := [.lit (.bool true)], args := [d1, d2, d3] }
  | _ => none }
def joinTellsRow : OpenClaim := { program := "ytaelcmamgcndmaadoor", sum := "5d339f11b214e344b5945fa403776505234f5a86cf3785271ceee77e1f3f1cda", func := "lockbar/lockbarlaw07.JoinTells", spec := "joinTells", unfollowed := true, recurses := true, named := ["lockbar/port.shapes"], apart := false, laid := [("lockbar/port.shapes", laid_lockbar_port_shapes)] }
def JoinTellsSaid : Prop := joinTellsRow.holds Tryd.pinned (OpenSpec.ofChange joinTellsSpec)

/-- ITS FALSE NEIGHBOUR: 'it returns false'. Refute it at one input. -/
def joinTellsWrong : ChangeSpec := { name := "joinTells", fn := fun _ => fun
  | [d1, d2, d3] => { results := [.lit (.bool false)], args := [d1, d2, d3] }
  | _ => none }
def JoinTellsWrongFalsely : Prop := joinTellsRow.holds Tryd.pinned (OpenSpec.ofChange joinTellsWrong)

/-- 'lockbarlaw07.JoinBack': WHATEVER THE INPUT: true; the input reads as it did. -/
def joinBackSpec : ChangeSpec := { name := "joinBack", fn := fun _ => fun
  | [d1, d2] => { results := [.lit (.bool true)], args := [d1, d2] }
  | _ => none }
def joinBackRow : OpenClaim := { program := "ytaelcmamgcndmaadoor", sum := "5d339f11b214e344b5945fa403776505234f5a86cf3785271ceee77e1f3f1cda", func := "lockbar/lockbarlaw07.JoinBack", spec := "joinBack", unfollowed := true, recurses := true, named := ["lockbar/port.shapes"], apart := false, laid := [("lockbar/port.shapes", laid_lockbar_port_shapes)] }
def JoinBackSaid : Prop := joinBackRow.holds Tryd.pinned (OpenSpec.ofChange joinBackSpec)

/-- ITS FALSE NEIGHBOUR: 'it returns false'. Refute it at one input. -/
def joinBackWrong : ChangeSpec := { name := "joinBack", fn := fun _ => fun
  | [d1, d2] => { results := [.lit (.bool false)], args := [d1, d2] }
  | _ => none }
def JoinBackWrongFalsely : Prop := joinBackRow.holds Tryd.pinned (OpenSpec.ofChange joinBackWrong)

/-- 'lockbarlaw07.JoinSteps': WHATEVER THE INPUT: true; the input reads as it did. -/
def joinStepsSpec : ChangeSpec := { name := "joinSteps", fn := fun _ => fun
  | [d1, d2] => { results := [.lit (.bool true)], args := [d1, d2] }
  | _ => none }
def joinStepsRow : OpenClaim := { program := "ytaelcmamgcndmaadoor", sum := "5d339f11b214e344b5945fa403776505234f5a86cf3785271ceee77e1f3f1cda", func := "lockbar/lockbarlaw07.JoinSteps", spec := "joinSteps", unfollowed := true, recurses := true, named := ["lockbar/port.shapes"], apart := false, laid := [("lockbar/port.shapes", laid_lockbar_port_shapes)] }
def JoinStepsSaid : Prop := joinStepsRow.holds Tryd.pinned (OpenSpec.ofChange joinStepsSpec)

/-- ITS FALSE NEIGHBOUR: 'it returns false'. Refute it at one input. -/
def joinStepsWrong : ChangeSpec := { name := "joinSteps", fn := fun _ => fun
  | [d1, d2] => { results := [.lit (.bool false)], args := [d1, d2] }
  | _ => none }
def JoinStepsWrongFalsely : Prop := joinStepsRow.holds Tryd.pinned (OpenSpec.ofChange joinStepsWrong)

/-- 'lockbarlaw07.JoinAll': WHATEVER THE INPUT: true; the input reads as it did. -/
def joinAllSpec : ChangeSpec := { name := "joinAll", fn := fun _ => fun
  | [d1, d2] => { results := [.lit (.bool true)], args := [d1, d2] }
  | _ => none }
def joinAllRow : OpenClaim := { program := "ytaelcmamgcndmaadoor", sum := "5d339f11b214e344b5945fa403776505234f5a86cf3785271ceee77e1f3f1cda", func := "lockbar/lockbarlaw07.JoinAll", spec := "joinAll", unfollowed := true, recurses := true, named := ["lockbar/port.shapes"], apart := false, laid := [("lockbar/port.shapes", laid_lockbar_port_shapes)] }
def JoinAllSaid : Prop := joinAllRow.holds Tryd.pinned (OpenSpec.ofChange joinAllSpec)

/-- ITS FALSE NEIGHBOUR: 'it returns false'. Refute it at one input. -/
def joinAllWrong : ChangeSpec := { name := "joinAll", fn := fun _ => fun
  | [d1, d2] => { results := [.lit (.bool false)], args := [d1, d2] }
  | _ => none }
def JoinAllWrongFalsely : Prop := joinAllRow.holds Tryd.pinned (OpenSpec.ofChange joinAllWrong)

/-- 'lockbarlaw07.JoinOne': WHATEVER THE INPUT: true; the input reads as it did. -/
def joinOneSpec : ChangeSpec := { name := "joinOne", fn := fun _ => fun
  | [d1, d2, d3] => { results := [.lit (.bool true)], args := [d1, d2, d3] }
  | _ => none }
def joinOneRow : OpenClaim := { program := "ytaelcmamgcndmaadoor", sum := "5d339f11b214e344b5945fa403776505234f5a86cf3785271ceee77e1f3f1cda", func := "lockbar/lockbarlaw07.JoinOne", spec := "joinOne", unfollowed := true, recurses := true, named := ["lockbar/port.shapes"], apart := false, laid := [("lockbar/port.shapes", laid_lockbar_port_shapes)] }
def JoinOneSaid : Prop := joinOneRow.holds Tryd.pinned (OpenSpec.ofChange joinOneSpec)

/-- ITS FALSE NEIGHBOUR: 'it returns false'. Refute it at one input. -/
def joinOneWrong : ChangeSpec := { name := "joinOne", fn := fun _ => fun
  | [d1, d2, d3] => { results := [.lit (.bool false)], args := [d1, d2, d3] }
  | _ => none }
def JoinOneWrongFalsely : Prop := joinOneRow.holds Tryd.pinned (OpenSpec.ofChange joinOneWrong)

/- THE SECOND FORM. 'bulk': how many values and letters a reading holds, each counted each time it is reached (what is shared counts as often as it is met; a slice's spare places count too). A statement '..UptoSaid' is the law's where the arguments, and the package variables that the reading takes, are together of bulk at most 1048576: NARROWER than '..Said'. Prove '..Said' where nothing that the law and all that it calls make is longer than what came in: it says more and counts as full. Else prove '..UptoSaid'. A law counts once. -/
mutual
def uptoBulk {H : Type} : DataW H → Nat
  | .lit (.string bytes) => bytes.length + 1
  | .lit _ => 1
  | .nil => 1
  | .ptr d => uptoBulk d + 1
  | .slice elems spare => uptoBulkAll elems + uptoBulkAll spare + 1
  | .agg parts => uptoBulkAll parts + 1
  | .iface _ d => uptoBulk d + 1
  | .map entries => uptoBulkEntries entries + 1
  | .held _ => 1
def uptoBulkAll {H : Type} : List (DataW H) → Nat
  | [] => 0
  | d :: r => uptoBulk d + uptoBulkAll r
def uptoBulkEntries {H : Type} : List (Lit × DataW H) → Nat
  | [] => 0
  | x :: r => uptoBulkEntry x + uptoBulkEntries r
def uptoBulkEntry {H : Type} : Lit × DataW H → Nat
  | (.string bytes, d) => bytes.length + uptoBulk d + 1
  | (_, d) => uptoBulk d + 1
 end
def uptoSmall : (H : Type) → List (DataW H) → Bool := fun _ ds => decide (uptoBulkAll ds ≤ 1048576)
def OpenSpec.upto (s : _root_.Go.ChangeSpec) : _root_.Go.OpenSpec := { _root_.Go.OpenSpec.ofChange s with cond := some uptoSmall }

/-- 'lockbarlaw07.JoinTells', WHERE WHAT IT READS IS OF BULK AT MOST 1048576: true; the input reads as it did. -/
def joinTellsUptoRow : OpenClaim := { program := "ytaelcmamgcndmaadoor", sum := "5d339f11b214e344b5945fa403776505234f5a86cf3785271ceee77e1f3f1cda", func := "lockbar/lockbarlaw07.JoinTells", spec := "joinTells", unfollowed := true, recurses := true, named := ["lockbar/port.shapes"], apart := false, laid := [("lockbar/port.shapes", laid_lockbar_port_shapes)], narrowed := true }
def JoinTellsUptoSaid : Prop := joinTellsUptoRow.holds Tryd.pinned (OpenSpec.upto joinTellsSpec)

/-- 'lockbarlaw07.JoinBack', WHERE WHAT IT READS IS OF BULK AT MOST 1048576: true; the input reads as it did. -/
def joinBackUptoRow : OpenClaim := { program := "ytaelcmamgcndmaadoor", sum := "5d339f11b214e344b5945fa403776505234f5a86cf3785271ceee77e1f3f1cda", func := "lockbar/lockbarlaw07.JoinBack", spec := "joinBack", unfollowed := true, recurses := true, named := ["lockbar/port.shapes"], apart := false, laid := [("lockbar/port.shapes", laid_lockbar_port_shapes)], narrowed := true }
def JoinBackUptoSaid : Prop := joinBackUptoRow.holds Tryd.pinned (OpenSpec.upto joinBackSpec)

/-- 'lockbarlaw07.JoinSteps', WHERE WHAT IT READS IS OF BULK AT MOST 1048576: true; the input reads as it did. -/
def joinStepsUptoRow : OpenClaim := { program := "ytaelcmamgcndmaadoor", sum := "5d339f11b214e344b5945fa403776505234f5a86cf3785271ceee77e1f3f1cda", func := "lockbar/lockbarlaw07.JoinSteps", spec := "joinSteps", unfollowed := true, recurses := true, named := ["lockbar/port.shapes"], apart := false, laid := [("lockbar/port.shapes", laid_lockbar_port_shapes)], narrowed := true }
def JoinStepsUptoSaid : Prop := joinStepsUptoRow.holds Tryd.pinned (OpenSpec.upto joinStepsSpec)

/-- 'lockbarlaw07.JoinAll', WHERE WHAT IT READS IS OF BULK AT MOST 1048576: true; the input reads as it did. -/
def joinAllUptoRow : OpenClaim := { program := "ytaelcmamgcndmaadoor", sum := "5d339f11b214e344b5945fa403776505234f5a86cf3785271ceee77e1f3f1cda", func := "lockbar/lockbarlaw07.JoinAll", spec := "joinAll", unfollowed := true, recurses := true, named := ["lockbar/port.shapes"], apart := false, laid := [("lockbar/port.shapes", laid_lockbar_port_shapes)], narrowed := true }
def JoinAllUptoSaid : Prop := joinAllUptoRow.holds Tryd.pinned (OpenSpec.upto joinAllSpec)

/-- 'lockbarlaw07.JoinOne', WHERE WHAT IT READS IS OF BULK AT MOST 1048576: true; the input reads as it did. -/
def joinOneUptoRow : OpenClaim := { program := "ytaelcmamgcndmaadoor", sum := "5d339f11b214e344b5945fa403776505234f5a86cf3785271ceee77e1f3f1cda", func := "lockbar/lockbarlaw07.JoinOne", spec := "joinOne", unfollowed := true, recurses := true, named := ["lockbar/port.shapes"], apart := false, laid := [("lockbar/port.shapes", laid_lockbar_port_shapes)], narrowed := true }
def JoinOneUptoSaid : Prop := joinOneUptoRow.holds Tryd.pinned (OpenSpec.upto joinOneSpec)

end Rows
end Go.Proofs.YtaelcmamgcndmaaDoor
