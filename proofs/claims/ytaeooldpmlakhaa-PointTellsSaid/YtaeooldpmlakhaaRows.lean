/-
  No cell of these rows narrows 'for every input' (looked for: loops, veiled, ifaces, maps, wideKeys, modest, calm, conditions, laid).
  DERIVED. THE GIVEN ROWS OF THIS SEAT. 5 by the template 'for every input the law returns true; each argument reads behind the call as it read before'; 0 by the template 'total and deterministic' (their statements: YtaeooldpmlakhaaTotals.lean).
  GIVEN WITH THE SEED: the statements are not yours to turn. If you find one false, say at which input.
  Laid BY PROGRAM, IN A SANDBOX (cutbox-rows.mjs): the forced cells as the released guide's own fill.sh prints them over the translation 20cdbc2d7ed25209… (all of the seat's roots in one cut). By AI agents, Wed Nov 11 2026. No macro, syntax, notation, axiom, sorry.
-/
import Derived.Test.YtaeooldpmlakhaaChecked
import GoSem.Claim
import GoSem.ClaimJoined
import GoSem.ClaimMapViews
import Derived.JoinedTies
import Derived.KernelRfl
namespace Go.Proofs.Ytaeooldpmlakhaa
/- THE CELL 'sum', in the pinned program and in every row, IS THE sha256 OF THE DUMP (.gsa) THAT YtaeooldpmlakhaaProg.lean LOADS. Nothing in Lean hashes anything: it is a label: what it is worth is what the hold of that sum in a sandbox is worth. -/
noncomputable def Try.pinned : Pinned := { name := "ytaeooldpmlakhaa", sum := "20cdbc2d7ed252097cae2f6d22b8e0c85cf7f172861a9b675ffbbed1e9ce3f51", checked := Try.checked }
namespace Rows
def none {H : Type} : Left H := { results := [], args := [] }

/-- 'lockbarlaw16.PointTells': WHATEVER THE INPUT: true; the input reads as it did. -/
def pointTellsSpec : ChangeSpec := { name := "pointTells", fn := fun _ => fun
  | [d1, d2, d3, d4, d5, d6, d7] => { results := [.lit (.bool true)], args := [d1, d2, d3, d4, d5, d6, d7] }
  | _ => none }
def pointTellsRow : OpenClaim := { program := "ytaeooldpmlakhaa", sum := "20cdbc2d7ed252097cae2f6d22b8e0c85cf7f172861a9b675ffbbed1e9ce3f51", func := "lockbar/lockbarlaw16.PointTells", spec := "pointTells", unfollowed := true, recurses := true, apart := false }
def PointTellsSaid : Prop := pointTellsRow.holds Try.pinned (OpenSpec.ofChange pointTellsSpec)

/-- ITS FALSE NEIGHBOUR: 'it returns false'. Refute it at one input. -/
def pointTellsWrong : ChangeSpec := { name := "pointTells", fn := fun _ => fun
  | [d1, d2, d3, d4, d5, d6, d7] => { results := [.lit (.bool false)], args := [d1, d2, d3, d4, d5, d6, d7] }
  | _ => none }
def PointTellsWrongFalsely : Prop := pointTellsRow.holds Try.pinned (OpenSpec.ofChange pointTellsWrong)

/-- 'lockbarlaw16.PointEnds': WHATEVER THE INPUT: true; the input reads as it did. -/
def pointEndsSpec : ChangeSpec := { name := "pointEnds", fn := fun _ => fun
  | [d1, d2, d3] => { results := [.lit (.bool true)], args := [d1, d2, d3] }
  | _ => none }
def pointEndsRow : OpenClaim := { program := "ytaeooldpmlakhaa", sum := "20cdbc2d7ed252097cae2f6d22b8e0c85cf7f172861a9b675ffbbed1e9ce3f51", func := "lockbar/lockbarlaw16.PointEnds", spec := "pointEnds", unfollowed := true, recurses := true, apart := false }
def PointEndsSaid : Prop := pointEndsRow.holds Try.pinned (OpenSpec.ofChange pointEndsSpec)

/-- ITS FALSE NEIGHBOUR: 'it returns false'. Refute it at one input. -/
def pointEndsWrong : ChangeSpec := { name := "pointEnds", fn := fun _ => fun
  | [d1, d2, d3] => { results := [.lit (.bool false)], args := [d1, d2, d3] }
  | _ => none }
def PointEndsWrongFalsely : Prop := pointEndsRow.holds Try.pinned (OpenSpec.ofChange pointEndsWrong)

/-- 'lockbarlaw16.PointCalls': WHATEVER THE INPUT: true; the input reads as it did. -/
def pointCallsSpec : ChangeSpec := { name := "pointCalls", fn := fun _ => fun
  | [d1, d2] => { results := [.lit (.bool true)], args := [d1, d2] }
  | _ => none }
def pointCallsRow : OpenClaim := { program := "ytaeooldpmlakhaa", sum := "20cdbc2d7ed252097cae2f6d22b8e0c85cf7f172861a9b675ffbbed1e9ce3f51", func := "lockbar/lockbarlaw16.PointCalls", spec := "pointCalls", unfollowed := true, recurses := true, apart := false }
def PointCallsSaid : Prop := pointCallsRow.holds Try.pinned (OpenSpec.ofChange pointCallsSpec)

/-- ITS FALSE NEIGHBOUR: 'it returns false'. Refute it at one input. -/
def pointCallsWrong : ChangeSpec := { name := "pointCalls", fn := fun _ => fun
  | [d1, d2] => { results := [.lit (.bool false)], args := [d1, d2] }
  | _ => none }
def PointCallsWrongFalsely : Prop := pointCallsRow.holds Try.pinned (OpenSpec.ofChange pointCallsWrong)

/-- 'lockbarlaw16.PointStill': WHATEVER THE INPUT: true; the input reads as it did. -/
def pointStillSpec : ChangeSpec := { name := "pointStill", fn := fun _ => fun
  | [d1, d2, d3, d4, d5] => { results := [.lit (.bool true)], args := [d1, d2, d3, d4, d5] }
  | _ => none }
def pointStillRow : OpenClaim := { program := "ytaeooldpmlakhaa", sum := "20cdbc2d7ed252097cae2f6d22b8e0c85cf7f172861a9b675ffbbed1e9ce3f51", func := "lockbar/lockbarlaw16.PointStill", spec := "pointStill", unfollowed := true, recurses := true, apart := false }
def PointStillSaid : Prop := pointStillRow.holds Try.pinned (OpenSpec.ofChange pointStillSpec)

/-- ITS FALSE NEIGHBOUR: 'it returns false'. Refute it at one input. -/
def pointStillWrong : ChangeSpec := { name := "pointStill", fn := fun _ => fun
  | [d1, d2, d3, d4, d5] => { results := [.lit (.bool false)], args := [d1, d2, d3, d4, d5] }
  | _ => none }
def PointStillWrongFalsely : Prop := pointStillRow.holds Try.pinned (OpenSpec.ofChange pointStillWrong)

/-- 'lockbarlaw16.PointBits': WHATEVER THE INPUT: true; the input reads as it did. -/
def pointBitsSpec : ChangeSpec := { name := "pointBits", fn := fun _ => fun
  | [d1, d2] => { results := [.lit (.bool true)], args := [d1, d2] }
  | _ => none }
def pointBitsRow : OpenClaim := { program := "ytaeooldpmlakhaa", sum := "20cdbc2d7ed252097cae2f6d22b8e0c85cf7f172861a9b675ffbbed1e9ce3f51", func := "lockbar/lockbarlaw16.PointBits", spec := "pointBits", unfollowed := true, recurses := true, apart := false }
def PointBitsSaid : Prop := pointBitsRow.holds Try.pinned (OpenSpec.ofChange pointBitsSpec)

/-- ITS FALSE NEIGHBOUR: 'it returns false'. Refute it at one input. -/
def pointBitsWrong : ChangeSpec := { name := "pointBits", fn := fun _ => fun
  | [d1, d2] => { results := [.lit (.bool false)], args := [d1, d2] }
  | _ => none }
def PointBitsWrongFalsely : Prop := pointBitsRow.holds Try.pinned (OpenSpec.ofChange pointBitsWrong)

/- THE SECOND FORM. 'bulk': how many values and letters a reading holds, each counted each time it is reached (what is shared counts as often as it is met; a slice's spare places count too). A statement '..UptoSaid' is the law's where the arguments, and the package variables that the reading takes, are together of bulk at most 1048576: NARROWER than '..Said'. Prove '..Said' where nothing that the law and all that it calls make is longer than what came in: it says more and counts as full. Else prove '..UptoSaid'. A law counts once. -/
mutual
def uptoBulk {H : Type} : DataW H → Nat
  | .lit (.string bytes) => bytes.length + 1
  | .lit _ => 1
  | .nil => 1
  | .ptr d => uptoBulk d + 1
  | .slice elems spare => uptoBulkAll elems + uptoBulkAll spare + 1
  | .agg parts => uptoBulkAll parts + 1
  | .iface _ d => uptoBulk d + 1
  | .map entries => uptoBulkEntries entries + 1
  | .held _ => 1
def uptoBulkAll {H : Type} : List (DataW H) → Nat
  | [] => 0
  | d :: r => uptoBulk d + uptoBulkAll r
def uptoBulkEntries {H : Type} : List (Lit × DataW H) → Nat
  | [] => 0
  | x :: r => uptoBulkEntry x + uptoBulkEntries r
def uptoBulkEntry {H : Type} : Lit × DataW H → Nat
  | (.string bytes, d) => bytes.length + uptoBulk d + 1
  | (_, d) => uptoBulk d + 1
 end
def uptoSmall : (H : Type) → List (DataW H) → Bool := fun _ ds => decide (uptoBulkAll ds ≤ 1048576)
def OpenSpec.upto (s : _root_.Go.ChangeSpec) : _root_.Go.OpenSpec := { _root_.Go.OpenSpec.ofChange s with cond := some uptoSmall }

/-- 'lockbarlaw16.PointTells', WHERE WHAT IT READS IS OF BULK AT MOST 1048576: true; the input reads as it did. -/
def pointTellsUptoRow : OpenClaim := { program := "ytaeooldpmlakhaa", sum := "20cdbc2d7ed252097cae2f6d22b8e0c85cf7f172861a9b675ffbbed1e9ce3f51", func := "lockbar/lockbarlaw16.PointTells", spec := "pointTells", unfollowed := true, recurses := true, apart := false, narrowed := true }
def PointTellsUptoSaid : Prop := pointTellsUptoRow.holds Try.pinned (OpenSpec.upto pointTellsSpec)

/-- 'lockbarlaw16.PointEnds', WHERE WHAT IT READS IS OF BULK AT MOST 1048576: true; the input reads as it did. -/
def pointEndsUptoRow : OpenClaim := { program := "ytaeooldpmlakhaa", sum := "20cdbc2d7ed252097cae2f6d22b8e0c85cf7f172861a9b675ffbbed1e9ce3f51", func := "lockbar/lockbarlaw16.PointEnds", spec := "pointEnds", unfollowed := true, recurses := true, apart := false, narrowed := true }
def PointEndsUptoSaid : Prop := pointEndsUptoRow.holds Try.pinned (OpenSpec.upto pointEndsSpec)

/-- 'lockbarlaw16.PointCalls', WHERE WHAT IT READS IS OF BULK AT MOST 1048576: true; the input reads as it did. -/
def pointCallsUptoRow : OpenClaim := { program := "ytaeooldpmlakhaa", sum := "20cdbc2d7ed252097cae2f6d22b8e0c85cf7f172861a9b675ffbbed1e9ce3f51", func := "lockbar/lockbarlaw16.PointCalls", spec := "pointCalls", unfollowed := true, recurses := true, apart := false, narrowed := true }
def PointCallsUptoSaid : Prop := pointCallsUptoRow.holds Try.pinned (OpenSpec.upto pointCallsSpec)

/-- 'lockbarlaw16.PointStill', WHERE WHAT IT READS IS OF BULK AT MOST 1048576: true; the input reads as it did. -/
def pointStillUptoRow : OpenClaim := { program := "ytaeooldpmlakhaa", sum := "20cdbc2d7ed252097cae2f6d22b8e0c85cf7f172861a9b675ffbbed1e9ce3f51", func := "lockbar/lockbarlaw16.PointStill", spec := "pointStill", unfollowed := true, recurses := true, apart := false, narrowed := true }
def PointStillUptoSaid : Prop := pointStillUptoRow.holds Try.pinned (OpenSpec.upto pointStillSpec)

/-- 'lockbarlaw16.PointBits', WHERE WHAT IT READS IS OF BULK AT MOST 1048576: true; the input reads as it did. -/
def pointBitsUptoRow : OpenClaim := { program := "ytaeooldpmlakhaa", sum := "20cdbc2d7ed252097cae2f6d22b8e0c85cf7f172861a9b675ffbbed1e9ce3f51", func := "lockbar/lockbarlaw16.PointBits", spec := "pointBits", unfollowed := true, recurses := true, apart := false, narrowed := true }
def PointBitsUptoSaid : Prop := pointBitsUptoRow.holds Try.pinned (OpenSpec.upto pointBitsSpec)

end Rows
end Go.Proofs.Ytaeooldpmlakhaa
