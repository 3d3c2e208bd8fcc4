/-
  No cell of these rows narrows 'for every input' (looked for: loops, veiled, ifaces, maps, wideKeys, modest, calm, conditions, laid).
  DERIVED. THE GIVEN ROWS OF THIS SEAT. 4 by the template 'for every input the law returns true; each argument reads behind the call as it read before'; 0 by the template 'total and deterministic' (their statements: YtljpiafopbfdlaaTotals.lean).
  GIVEN WITH THE SEED: the statements are not yours to turn. If you find one false, say at which input.
  Laid BY PROGRAM, IN A SANDBOX (cutbox-rows.mjs): the forced cells as the released guide's own fill.sh prints them over the translation f25c630efd2f1469… (all of the seat's roots in one cut). By AI agents, Wed Nov 11 2026. No macro, syntax, notation, axiom, sorry.
-/
import Derived.Test.YtljpiafopbfdlaaChecked
import GoSem.Claim
import GoSem.ClaimJoined
import GoSem.ClaimMapViews
import Derived.JoinedTies
import Derived.KernelRfl
namespace Go.Proofs.Ytljpiafopbfdlaa
/- THE CELL 'sum', in the pinned program and in every row, IS THE sha256 OF THE DUMP (.gsa) THAT YtljpiafopbfdlaaProg.lean LOADS. Nothing in Lean hashes anything: it is a label: what it is worth is what the hold of that sum in a sandbox is worth. -/
noncomputable def Try.pinned : Pinned := { name := "ytljpiafopbfdlaa", sum := "f25c630efd2f14693e734eca66b90f596f5314170b8e284846cba0dc4b3a67e9", checked := Try.checked }
namespace Rows
def none {H : Type} : Left H := { results := [], args := [] }

/-- 'lockbarlaw17.HeldLess': WHATEVER THE INPUT: true; the input reads as it did. -/
def heldLessSpec : ChangeSpec := { name := "heldLess", fn := fun _ => fun
  | [d1, d2, d3, d4] => { results := [.lit (.bool true)], args := [d1, d2, d3, d4] }
  | _ => none }
def heldLessRow : OpenClaim := { program := "ytljpiafopbfdlaa", sum := "f25c630efd2f14693e734eca66b90f596f5314170b8e284846cba0dc4b3a67e9", func := "lockbar/lockbarlaw17.HeldLess", spec := "heldLess", unfollowed := true, recurses := true, apart := false }
def HeldLessSaid : Prop := heldLessRow.holds Try.pinned (OpenSpec.ofChange heldLessSpec)

/-- ITS FALSE NEIGHBOUR: 'it returns false'. Refute it at one input. -/
def heldLessWrong : ChangeSpec := { name := "heldLess", fn := fun _ => fun
  | [d1, d2, d3, d4] => { results := [.lit (.bool false)], args := [d1, d2, d3, d4] }
  | _ => none }
def HeldLessWrongFalsely : Prop := heldLessRow.holds Try.pinned (OpenSpec.ofChange heldLessWrong)

/-- 'lockbarlaw17.HeldApart': WHATEVER THE INPUT: true; the input reads as it did. -/
def heldApartSpec : ChangeSpec := { name := "heldApart", fn := fun _ => fun
  | [d1, d2] => { results := [.lit (.bool true)], args := [d1, d2] }
  | _ => none }
def heldApartRow : OpenClaim := { program := "ytljpiafopbfdlaa", sum := "f25c630efd2f14693e734eca66b90f596f5314170b8e284846cba0dc4b3a67e9", func := "lockbar/lockbarlaw17.HeldApart", spec := "heldApart", unfollowed := true, recurses := true, apart := false }
def HeldApartSaid : Prop := heldApartRow.holds Try.pinned (OpenSpec.ofChange heldApartSpec)

/-- ITS FALSE NEIGHBOUR: 'it returns false'. Refute it at one input. -/
def heldApartWrong : ChangeSpec := { name := "heldApart", fn := fun _ => fun
  | [d1, d2] => { results := [.lit (.bool false)], args := [d1, d2] }
  | _ => none }
def HeldApartWrongFalsely : Prop := heldApartRow.holds Try.pinned (OpenSpec.ofChange heldApartWrong)

/-- 'lockbarlaw17.HeldOrder': WHATEVER THE INPUT: true; the input reads as it did. -/
def heldOrderSpec : ChangeSpec := { name := "heldOrder", fn := fun _ => fun
  | [d] => { results := [.lit (.bool true)], args := [d] }
  | _ => none }
def heldOrderRow : OpenClaim := { program := "ytljpiafopbfdlaa", sum := "f25c630efd2f14693e734eca66b90f596f5314170b8e284846cba0dc4b3a67e9", func := "lockbar/lockbarlaw17.HeldOrder", spec := "heldOrder", unfollowed := true, recurses := true, apart := false }
def HeldOrderSaid : Prop := heldOrderRow.holds Try.pinned (OpenSpec.ofChange heldOrderSpec)

/-- ITS FALSE NEIGHBOUR: 'it returns false'. Refute it at one input. -/
def heldOrderWrong : ChangeSpec := { name := "heldOrder", fn := fun _ => fun
  | [d] => { results := [.lit (.bool false)], args := [d] }
  | _ => none }
def HeldOrderWrongFalsely : Prop := heldOrderRow.holds Try.pinned (OpenSpec.ofChange heldOrderWrong)

/-- 'lockbarlaw17.HeldOwn': WHATEVER THE INPUT: true; the input reads as it did. -/
def heldOwnSpec : ChangeSpec := { name := "heldOwn", fn := fun _ => fun
  | [d1, d2] => { results := [.lit (.bool true)], args := [d1, d2] }
  | _ => none }
def heldOwnRow : OpenClaim := { program := "ytljpiafopbfdlaa", sum := "f25c630efd2f14693e734eca66b90f596f5314170b8e284846cba0dc4b3a67e9", func := "lockbar/lockbarlaw17.HeldOwn", spec := "heldOwn", unfollowed := true, recurses := true, apart := false }
def HeldOwnSaid : Prop := heldOwnRow.holds Try.pinned (OpenSpec.ofChange heldOwnSpec)

/-- ITS FALSE NEIGHBOUR: 'it returns false'. Refute it at one input. -/
def heldOwnWrong : ChangeSpec := { name := "heldOwn", fn := fun _ => fun
  | [d1, d2] => { results := [.lit (.bool false)], args := [d1, d2] }
  | _ => none }
def HeldOwnWrongFalsely : Prop := heldOwnRow.holds Try.pinned (OpenSpec.ofChange heldOwnWrong)

/- THE SECOND FORM. 'bulk': how many values and letters a reading holds, each counted each time it is reached (what is shared counts as often as it is met; a slice's spare places count too). A statement '..UptoSaid' is the law's where the arguments, and the package variables that the reading takes, are together of bulk at most 1048576: NARROWER than '..Said'. Prove '..Said' where nothing that the law and all that it calls make is longer than what came in: it says more and counts as full. Else prove '..UptoSaid'. A law counts once. -/
mutual
def uptoBulk {H : Type} : DataW H → Nat
  | .lit (.string bytes) => bytes.length + 1
  | .lit _ => 1
  | .nil => 1
  | .ptr d => uptoBulk d + 1
  | .slice elems spare => uptoBulkAll elems + uptoBulkAll spare + 1
  | .agg parts => uptoBulkAll parts + 1
  | .iface _ d => uptoBulk d + 1
  | .map entries => uptoBulkEntries entries + 1
  | .held _ => 1
def uptoBulkAll {H : Type} : List (DataW H) → Nat
  | [] => 0
  | d :: r => uptoBulk d + uptoBulkAll r
def uptoBulkEntries {H : Type} : List (Lit × DataW H) → Nat
  | [] => 0
  | x :: r => uptoBulkEntry x + uptoBulkEntries r
def uptoBulkEntry {H : Type} : Lit × DataW H → Nat
  | (.string bytes, d) => bytes.length + uptoBulk d + 1
  | (_, d) => uptoBulk d + 1
 end
def uptoSmall : (H : Type) → List (DataW H) → Bool := fun _ ds => decide (uptoBulkAll ds ≤ 1048576)
def OpenSpec.upto (s : _root_.Go.ChangeSpec) : _root_.Go.OpenSpec := { _root_.Go.OpenSpec.ofChange s with cond := some uptoSmall }

/-- 'lockbarlaw17.HeldLess', WHERE WHAT IT READS IS OF BULK AT MOST 1048576: true; the input reads as it did. -/
def heldLessUptoRow : OpenClaim := { program := "ytljpiafopbfdlaa", sum := "f25c630efd2f14693e734eca66b90f596f5314170b8e284846cba0dc4b3a67e9", func := "lockbar/lockbarlaw17.HeldLess", spec := "heldLess", unfollowed := true, recurses := true, apart := false, narrowed := true }
def HeldLessUptoSaid : Prop := heldLessUptoRow.holds Try.pinned (OpenSpec.upto heldLessSpec)

/-- 'lockbarlaw17.HeldApart', WHERE WHAT IT READS IS OF BULK AT MOST 1048576: true; the input reads as it did. -/
def heldApartUptoRow : OpenClaim := { program := "ytljpiafopbfdlaa", sum := "f25c630efd2f14693e734eca66b90f596f5314170b8e284846cba0dc4b3a67e9", func := "lockbar/lockbarlaw17.HeldApart", spec := "heldApart", unfollowed := true, recurses := true, apart := false, narrowed := true }
def HeldApartUptoSaid : Prop := heldApartUptoRow.holds Try.pinned (OpenSpec.upto heldApartSpec)

/-- 'lockbarlaw17.HeldOrder', WHERE WHAT IT READS IS OF BULK AT MOST 1048576: true; the input reads as it did. -/
def heldOrderUptoRow : OpenClaim := { program := "ytljpiafopbfdlaa", sum := "f25c630efd2f14693e734eca66b90f596f5314170b8e284846cba0dc4b3a67e9", func := "lockbar/lockbarlaw17.HeldOrder", spec := "heldOrder", unfollowed := true, recurses := true, apart := false, narrowed := true }
def HeldOrderUptoSaid : Prop := heldOrderUptoRow.holds Try.pinned (OpenSpec.upto heldOrderSpec)

/-- 'lockbarlaw17.HeldOwn', WHERE WHAT IT READS IS OF BULK AT MOST 1048576: true; the input reads as it did. -/
def heldOwnUptoRow : OpenClaim := { program := "ytljpiafopbfdlaa", sum := "f25c630efd2f14693e734eca66b90f596f5314170b8e284846cba0dc4b3a67e9", func := "lockbar/lockbarlaw17.HeldOwn", spec := "heldOwn", unfollowed := true, recurses := true, apart := false, narrowed := true }
def HeldOwnUptoSaid : Prop := heldOwnUptoRow.holds Try.pinned (OpenSpec.upto heldOwnSpec)

end Rows
end Go.Proofs.Ytljpiafopbfdlaa
