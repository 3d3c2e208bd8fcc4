/- The document's own Put: what it finds on its way. -/
import Derived.Test.YtegflmaobmibnaaGreatDoorQPlanRt
import Derived.Test.YtegflmaobmibnaaGreatDoorQLayTellsM
namespace Go.Proofs.YtegflmaobmibnaaGreatDoor
set_option maxRecDepth 100000
open Go.RowKit Go.Shelf
set_option linter.unusedVariables false
set_option linter.unusedSimpArgs false

/-- Within Put: the layout's box n, the bits so far in their box X. -/
structure PutQ (w : World) (n X : Nat) (m : Lay) (l : List Bool) (W : World) : Prop where
  below : Below w.heap.size w W
  sx : Whole W n 29 m.cells
  b : ∃ A c zs N, Whole W X 54 [.slice A zs.length c, .int .i64 N] ∧ Hands W A zs ∧ Are zs N l ∧ ∀ q, A = some q → X + 1 ≤ q.block ∧ q.block < W.heap.size
theorem PutQ.keep {w : World} {n X : Nat} {m : Lay} {l : List Bool} {W W' : World} (h : PutQ w n X m l W) (hb : Below W.heap.size W W') : PutQ w n X m l W' := by
  obtain ⟨h1, h2, A, c, zs, N, k1, k2, k3, k4⟩ := h
  exact ⟨h1.trans (hb.mono h1.size), h2.below hb h2.lt, A, c, zs, N, k1.below hb k1.lt, k2.on hb, k3, fun q hq => ⟨(k4 q hq).1, Nat.lt_of_lt_of_le (k4 q hq).2 hb.size⟩⟩
theorem PutQ.put {w : World} {n X : Nat} {m : Lay} {l l' : List Bool} {W W' : World} (h : PutQ w n X m l W) (hn : w.heap.size ≤ X) (hX : n ≠ X) {A : Option Addr} {c : Nat} {ys : List Int} {M : Int} (hb : Below W.heap.size W W') (hh : Hands W' A ys) (ha : Are ys M l') (hf : ∀ q, A = some q → W.heap.size ≤ q.block ∧ q.block < W'.heap.size) :
    PutQ w n X m l' ((W'.setCell ⟨X, 0, none⟩ (.slice A ys.length c)).setCell ⟨X, 1, none⟩ (.int .i64 M)) := by
  have hl : X < W.heap.size := by obtain ⟨A, c, zs, N, k1, _⟩ := h.b; exact k1.lt
  obtain ⟨h1, h2, A0, c0, zs0, N0, k1, _, _, _⟩ := h.keep hb
  refine ⟨(h1.setCell (p := ⟨X, 0, none⟩) hn _).setCell (p := ⟨X, 1, none⟩) hn _, (h2.far (p := ⟨X, 0, none⟩) hX _).far (p := ⟨X, 1, none⟩) hX _, A, c, ys, M, (k1.set 0 _).set 1 _, (hh.far (p := ⟨X, 0, none⟩) (fun q hq => by have := (hf q hq).1; show q.block ≠ X; omega) _).far (p := ⟨X, 1, none⟩) (fun q hq => by have := (hf q hq).1; show q.block ≠ X; omega) _, ha, fun q hq => ?_⟩
  have h5 := hf q hq
  exact ⟨by omega, by simp [World.setCell]; exact h5.2⟩
end Go.Proofs.YtegflmaobmibnaaGreatDoor
