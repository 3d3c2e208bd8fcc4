/- Package join: the ports of a section, one by one. Package join: its iterator of ports, made; blocks that are new count as its own. -/
import Derived.RangeFuncNested
import Derived.RangeFuncBound
import Derived.RangeFuncCalls
import Derived.RangeFuncLeaves
import Derived.RangeFuncBox
import Derived.Shelf.Abstract
import Derived.Shelf.RegionOpen
import Derived.WalkKit
import Derived.OwnWalkIn
import Derived.TacticsInMore
import Derived.LoopNIn
import Derived.LoopIn
import Derived.WalkMore
import Derived.Test.YtbdbgoploednbaaDoorQJoinB
import Derived.Test.YtbdbgoploednbaaDoorQL
namespace Go.Proofs.YtbdbgoploednbaaDoor
open Go.RowKit Go.Shelf
set_option linter.unusedVariables false
set_option linter.unusedSimpArgs false

attribute [local go_sem] Oper.semAt_some

theorem Shapes.keeps {w W : World} {R : Nat → Prop} (h : Shapes w) (hk : Keeps R w W) (hR : ∀ k, k < w.heap.size → R k) : Shapes W := fun i v hv => hk.cell (hR _ (World.block_lt_of_cell? w _ (h i v hv))) (h i v hv)
theorem Lies.keeps {l : Lay} {w W : World} {R : Nat → Prop} (h : Lies l w) (hk : Keeps R w W) (hR : ∀ k, k < w.heap.size → R k) (hs : w.heap.size ≤ W.heap.size) : Lies l W :=
  ⟨(h.secs.keeps hk hR).mono hs, (h.sigs.keeps hk hR).mono hs, (h.exits.keeps hk hR).mono hs, (h.flanks.keeps hk hR).mono hs, fun x hx => ((h.overs x hx).keeps hk hR).mono hs, h.kinds, h.nS, h.nG, h.nE, h.nF, h.nO⟩
theorem Keeps.sub {R S : Nat → Prop} {A B : World} (h : Keeps R A B) (hs : ∀ k, S k → R k) : Keeps S A B := fun k o hk ho => h k o (hs k hk) ho
/-- The ports of section s, rising. -/
def portsS (l : Lay) (s : Int) : List (Int × Int) := (List.range (pK (kindV l s)).toNat).map fun p : Nat => (s, (p : Int))
theorem pK_nn (k : Int) : 0 ≤ pK k := by
  unfold pK
  split
  · omega
  · split
    · omega
    · split <;> omega
theorem portsS_len (l : Lay) (s : Int) : (portsS l s).length = (pK (kindV l s)).toNat := by simp [portsS]
theorem portsS_at {l : Lay} {s : Int} {j : Nat} (h : j < (pK (kindV l s)).toNat) : (portsS l s)[j]? = some (s, (j : Int)) := by simp [portsS, h]
theorem there_at (l : Lay) (s : Int) (j : Nat) : thereV l s j = decide (j < (pK (kindV l s)).toNat) := by
  have := pK_nn (kindV l s)
  rw [Bool.eq_iff_iff, decide_eq_true_iff]
  unfold thereV
  rw [withinA_iff]
  omega
/-- The number in the second cell of where it points to. -/
def secondOf (i : Value) (w : World) : Nat := match i with
  | .pointer (some a) => match w.cell? ⟨a.block, 1, none⟩ with
    | some (.int _ q) => q.toNat
    | _ => 0
  | _ => 0

theorem secondOf_whole {w : World} {g : Nat} {t : TypeId} {a : Value} {q : Int} (h : Whole w g t [a, .int .i64 q]) : secondOf (.pointer (some ⟨g, 0, none⟩)) w = q.toNat := by
  have := h.cell_at 1 rfl
  simp [secondOf, this]

end Go.Proofs.YtbdbgoploednbaaDoor
namespace Go.Proofs.YtbdbgoploednbaaDoor
open Go.RowKit Go.Shelf
set_option linter.unusedVariables false
set_option linter.unusedSimpArgs false

attribute [local go_sem] Oper.semAt_some

/-- The blocks that are new count as its own. -/
def With (U : Nat → Prop) (W W' : World) : Nat → Prop := fun k => U k ∨ (W.heap.size ≤ k ∧ k < W'.heap.size)
theorem Grew.with {U : Nat → Prop} {W W' : World} (h : ∀ k, U k → k < W.heap.size) (hs : W.heap.size ≤ W'.heap.size) : Grew U (With U W W') W W' :=
  ⟨fun k hk => hk.imp id (fun h => h.1), fun k hk => hk.elim (fun hu => Nat.lt_of_lt_of_le (h k hu) hs) (fun h => h.2)⟩
end Go.Proofs.YtbdbgoploednbaaDoor
