/- append(append([]T{}, row..), one), whichever of its blocks comes first: what each append gives. -/
import Derived.Test.YtlfpkileblmhoaaGreatDoorQLayOneM
import Derived.Test.YtlfpkileblmhoaaGreatDoorQTopoN
import Derived.Test.YtlfpkileblmhoaaGreatDoorQA
namespace Go.Proofs.YtlfpkileblmhoaaGreatDoor
open Go.RowKit Go.Shelf
set_option linter.unusedVariables false
set_option linter.unusedSimpArgs false

section
variable {α : Type} {f : α → List Value} {size : Nat}
theorem first11 (hf : ∀ x, (f x).length = size) (one : ∀ x, ∀ u ∈ f x, u.oneCell' = true) (t e : TypeId) (z : Value) (bytes : Nat) (ht : Tryz.prog.underlying t = some (.slice e)) (hi : (Tryz.prog.info? e).map (fun i => (i.zero, i.size, i.bytes)) = some (some z, size, bytes)) (hz : z.cells.size = size) (hsz : 0 < size) (hby : bytes ≤ 100)
    {w0 W : World} {g0 : Nat} (hB : Below w0.heap.size w0 W) (h0 : Whole W g0 e []) (hg0 : w0.heap.size ≤ g0) (l : List α) (A : Option Addr) (c : Nat) (hr : Row W W.heap.size A (l.flatMap f)) (hl : l.length ≤ 1000) :
    ∃ A' c' w', (Builtin.append_ #[t, t] t #[.slice (some ⟨g0, 0, none⟩) 0 0, .slice A l.length c]).run Tryz.prog W = .ok (.slice A' l.length c') w' ∧ Below w0.heap.size w0 w' ∧ w'.ownsRow w0.heap.size e size (.slice A' l.length c') l.length (l.flatMap f) ∧ ∀ g1 t1 us, g1 ≠ g0 → Whole W g1 t1 us → Whole w' g1 t1 us := by
  obtain ⟨v', w', h1, h2, h3⟩ := appendG hf one t e z bytes ht hi hz hsz hby w0.heap.size 0 _ [] l A c W.heap.size W (owns_empty W e w0.heap.size g0 hg0 h0) (.inl (by simp)) hr (by omega) hl (by have := h0.lt; omega)
  rw [Nat.zero_add, List.nil_append] at h2
  obtain ⟨A', c', rfl, _⟩ := owns_read h2
  exact ⟨A', c', w', h1, hB.grown h3 hB.size (fun k e => by cases e; exact hg0), h2, fun g1 t1 us hn hw => hw.kept h3 (by intro e; cases e; exact hn rfl)⟩
theorem next11 (hf : ∀ x, (f x).length = size) (one : ∀ x, ∀ u ∈ f x, u.oneCell' = true) (t e : TypeId) (z : Value) (bytes : Nat) (ht : Tryz.prog.underlying t = some (.slice e)) (hi : (Tryz.prog.info? e).map (fun i => (i.zero, i.size, i.bytes)) = some (some z, size, bytes)) (hz : z.cells.size = size) (hsz : 0 < size) (hby : bytes ≤ 100)
    {w0 W : World} {g1 : Nat} (hB : Below w0.heap.size w0 W) {l : List α} {A : Option Addr} {c : Nat} (hown : W.ownsRow w0.heap.size e size (.slice A l.length c) l.length (l.flatMap f)) {y : α} (h1 : Whole W g1 e (f y)) (hl : l.length ≤ 1000) :
    ∃ A' c' w', (Builtin.append_ #[t, t] t #[.slice A l.length c, .slice (some ⟨g1, 0, none⟩) 1 1]).run Tryz.prog W = .ok (.slice A' (l.length + 1) c') w' ∧ Below w0.heap.size w0 w' ∧ Row w' w'.heap.size A' ((l ++ [y]).flatMap f) ∧ l.length + 1 ≤ c' := by
  obtain ⟨v', w', h2, h3, h4⟩ := appendG hf one t e z bytes ht hi hz hsz hby w0.heap.size l.length _ (l.flatMap f) [y] (some ⟨g1, 0, none⟩) 1 (g1 + 1) W hown (.inr (by simp)) (by simpa using h1.row (Nat.lt_succ_self g1)) hl (by simp) hB.size
  have e2 : (l ++ [y]).flatMap f = l.flatMap f ++ [y].flatMap f := List.flatMap_append
  rw [← e2] at h3
  obtain ⟨A', c', rfl, hr⟩ := owns_read h3
  refine ⟨A', c', w', h2, hB.grown h4 hB.size (fun k e => (hown.lt k e).1), hr, ?_⟩
  rcases h3.2 with ⟨_, e⟩ | ⟨g, cap, cur, e, _, _, h5, _⟩
  · simp at e
  · injection e with _ _ e3
    rw [e3]
    exact h5
end
abbrev intCells (v : Int) : List Value := [.int .i64 v]
theorem nums_flat (vs : List Int) : vs.flatMap intCells = nums .i64 vs := by
  unfold nums
  induction vs with
  | nil => rfl
  | cons v vs ih => rw [List.flatMap_cons, ih]; rfl
theorem oneInt (v : Int) : ∀ u ∈ intCells v, u.oneCell' = true := by intro u hu; simp at hu; subst hu; rfl
theorem infoInt : (Tryz.prog.info? 3).map (fun i => (i.zero, i.size, i.bytes)) = some (some (.int .i64 0), 1, 8) := by kernel_rfl
end Go.Proofs.YtlfpkileblmhoaaGreatDoor
