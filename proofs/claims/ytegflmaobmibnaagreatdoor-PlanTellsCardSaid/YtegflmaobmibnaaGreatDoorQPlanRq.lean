/- The document's own section's bits: what its rounds find. -/
import Derived.Test.YtegflmaobmibnaaGreatDoorQPlanRp
namespace Go.Proofs.YtegflmaobmibnaaGreatDoor
set_option maxRecDepth 100000
open Go.RowKit Go.Shelf
set_option linter.unusedVariables false
set_option linter.unusedSimpArgs false

/-- Within section: the bits so far in their box n, the section's box, the result's. -/
structure SecP (w : World) (n lo : Nat) (sc : Sec) (l : List Bool) (W : World) : Prop where
  below : Below w.heap.size w W
  sx : Whole W (n + 1) 70 sc.cells
  rx : Whole W (n + 2) 54 [.slice none 0 0, .int .i64 0]
  b : ∃ A c zs N, Whole W n 54 [.slice A zs.length c, .int .i64 N] ∧ Hands W A zs ∧ Are zs N l ∧ ∀ q, A = some q → (lo ≤ q.block ∧ q.block < W.heap.size) ∧ q.block ≠ n ∧ q.block ≠ n + 1 ∧ q.block ≠ n + 2
theorem SecP.keep {w : World} {n lo : Nat} {sc : Sec} {l : List Bool} {W W' : World} (h : SecP w n lo sc l W) (hb : Below W.heap.size W W') : SecP w n lo sc l W' := by
  obtain ⟨h1, h2, h3, A, c, zs, N, k1, k2, k3, k4⟩ := h
  exact ⟨h1.trans (hb.mono h1.size), h2.below hb h2.lt, h3.below hb h3.lt, A, c, zs, N, k1.below hb k1.lt, k2.on hb, k3, fun q hq => ⟨⟨(k4 q hq).1.1, Nat.lt_of_lt_of_le (k4 q hq).1.2 hb.size⟩, (k4 q hq).2⟩⟩
theorem SecP.put {w : World} {n lo : Nat} {sc : Sec} {l l' : List Bool} {W W' : World} (h : SecP w n lo sc l W) (hn : n = w.heap.size) {A : Option Addr} {c : Nat} {ys : List Int} {M : Int} (hb : Below W.heap.size W W') (hh : Hands W' A ys) (ha : Are ys M l') (hf : ∀ q, A = some q → W.heap.size ≤ q.block ∧ q.block < W'.heap.size) :
    SecP w n (n + 3) sc l' ((W'.setCell ⟨n, 0, none⟩ (.slice A ys.length c)).setCell ⟨n, 1, none⟩ (.int .i64 M)) := by
  obtain ⟨h1, h2, h3, A0, c0, zs0, N0, k1, _, _, _⟩ := h.keep hb
  have hl := h.rx.lt
  refine ⟨(h1.setCell (p := ⟨n, 0, none⟩) (by show w.heap.size ≤ n; omega) _).setCell (p := ⟨n, 1, none⟩) (by show w.heap.size ≤ n; omega) _, (h2.far (p := ⟨n, 0, none⟩) (by show n + 1 ≠ n; omega) _).far (p := ⟨n, 1, none⟩) (by show n + 1 ≠ n; omega) _, (h3.far (p := ⟨n, 0, none⟩) (by show n + 2 ≠ n; omega) _).far (p := ⟨n, 1, none⟩) (by show n + 2 ≠ n; omega) _, A, c, ys, M, (k1.set 0 _).set 1 _, (hh.far (p := ⟨n, 0, none⟩) (fun q hq => by have := (hf q hq).1; show q.block ≠ n; omega) _).far (p := ⟨n, 1, none⟩) (fun q hq => by have := (hf q hq).1; show q.block ≠ n; omega) _, ha, fun q hq => ?_⟩
  have h5 := hf q hq
  refine ⟨⟨by omega, by simp [World.setCell]; exact h5.2⟩, by omega, by omega, by omega⟩
/-- A section's classes. -/
theorem class8_at {W : World} {g : Nat} {x : Sec} (h : Whole W g 70 x.cells) {e : Nat} {v : Int} (hv : [x.c0, x.c1][e]? = some v) : W.cell? ⟨g, 9 + e, none⟩ = some (.int .i64 v) := by
  match e, hv with
  | 0, hv => cases hv; exact h.cell_at 9 rfl
  | 1, hv => cases hv; exact h.cell_at 10 rfl
end Go.Proofs.YtegflmaobmibnaaGreatDoor
