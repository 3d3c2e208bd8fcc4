/- What all packages' proofs share, whatever types they have: small words; cells that are kept. -/
import Derived.Test.YtbalcbnlpgekaaaDoorChecked
import Derived.WalkKit
import Derived.BigQuiet
import Derived.Deep.QuietTactic
import Derived.Lib.Hide
import Derived.Lib.Strings
import Derived.Laws.BytesArg
import Derived.OpenShut
import Derived.DataShut
import Derived.ShutString
import Derived.ChangeOld
import Derived.ProofKit
import Derived.Lib.SmallJoins
import Derived.RangeFuncBox
import Derived.Test.YtbalcbnlpgekaaaDoorOwn
namespace Go.Proofs.YtbalcbnlpgekaaaDoor
open Go.ChangeShapes Go.WideShapes Go.ChangeAt Go.RowKit Go.Deep
open Go.Joins
set_option linter.unusedVariables false

theorem ret_int {k : IntKind} {a b : Int} (h : a = b) : Ending.returned (.int k a) = .returned (.int k b) := by rw [h]
theorem ret_bool {a b : Bool} (h : a = b) : Ending.returned (.bool a) = .returned (.bool b) := by rw [h]

/-- The cells of these blocks read as they did. -/
def KeepCells (Pp : Nat → Prop) (W W' : World) : Prop := ∀ p : Addr, Pp p.block → W'.cell? p = W.cell? p
theorem KeepCells.refl (Pp : Nat → Prop) (W : World) : KeepCells Pp W W := fun _ _ => rfl
theorem KeepCells.trans {Pp : Nat → Prop} {A B C : World} (h : KeepCells Pp A B) (k : KeepCells Pp B C) : KeepCells Pp A C := fun p hp => (k p hp).trans (h p hp)

/-- A list of bits' encoding for a round of one variable. -/
def encB (x : Bool) : Array Value := #[.bool x]

/-- Below n₀ nothing has turned but block X. -/
structure BelowBut (n₀ X : Nat) (w w' : World) : Prop where
  size : w.heap.size ≤ w'.heap.size
  block : ∀ k, k < n₀ → k ≠ X → w'.heap[k]? = w.heap[k]?
theorem BelowBut.trans {n₀ X : Nat} {a b c : World} (h : BelowBut n₀ X a b) (k : BelowBut n₀ X b c) : BelowBut n₀ X a c := ⟨Nat.le_trans h.size k.size, fun i hi hx => (k.block i hi hx).trans (h.block i hi hx)⟩
theorem BelowBut.put {n₀ X : Nat} {w : World} (hn : n₀ ≤ w.heap.size) (W : World) (l : Nat) (o o' : Obj) (hl : w.heap.size ≤ l) (_ : W.heap[l]? = some o) (_ : o.isCells = false) (_ : o.isWalk = false) : BelowBut n₀ X W (W.putObj l o') :=
  ⟨(grownBy_putObj' W l o').size, fun k hk _ => World.putObj_heap_other (by omega)⟩
theorem BelowBut.keeps {n₀ X : Nat} {w w' : World} (h : BelowBut n₀ X w w') : KeepCells (fun b => b < n₀ ∧ b ≠ X) w w' := fun p hp => World.cell?_of_block (h.block p.block hp.1 hp.2)
theorem BelowBut.set {n₀ X : Nat} (w : World) (i : Nat) (u : Value) : BelowBut n₀ X w (w.setCell ⟨X, i, none⟩ u) := ⟨by simp [World.setCell], fun k _ hx => Below.heap_setCell _ _ _ _ hx⟩

theorem row_of_cells {w : World} {x : Addr} {vs : List Value} (h : ∀ i u, vs[i]? = some u → w.cell? (x.add i) = some u) : Row w w.heap.size (some x) vs := by
  intro hp
  obtain ⟨b, off, spot⟩ := x
  obtain ⟨u, hu⟩ : ∃ u, vs[0]? = some u := ⟨vs[0], List.getElem?_eq_getElem hp⟩
  have hc := h 0 u hu
  have hs : spot = none := by simpa [Addr.add] using World.cell?_spot hc
  subst hs
  refine ⟨b, off, rfl, ?_, fun j u' hu' => ?_⟩
  · exact World.block_lt_of_cell? w _ hc
  · have hj := h j u' hu'
    by_cases h0 : j = 0
    · subst h0; simpa [Addr.add] using hj
    · simpa [Addr.add, h0] using hj
end Go.Proofs.YtbalcbnlpgekaaaDoor
