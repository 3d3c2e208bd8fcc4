/- The first of a list that is so; whether all, whether some are: up to a place. Plain. -/
import Derived.Test.YtbalcbnlpgekaaaDoorNum
namespace Go.Proofs.YtbalcbnlpgekaaaDoor
set_option linter.unusedVariables false

/-- The number of the first that is so, or -1. -/
def idxV {α : Type} (pr : α → Bool) (l : List α) : Int := match l.findIdx? pr with | some i => (i : Int) | none => -1
/-- None of the first j is so. -/
def NoneUp {α : Type} (pr : α → Bool) (l : List α) (j : Nat) : Prop := ∀ i x, i < j → l[i]? = some x → pr x = false
theorem NoneUp.zero {α : Type} (pr : α → Bool) (l : List α) : NoneUp pr l 0 := fun i x h => by omega
theorem NoneUp.succ {α : Type} {pr : α → Bool} {l : List α} {j : Nat} {x : α} (h : NoneUp pr l j) (hx : l[j]? = some x) (hp : pr x = false) : NoneUp pr l (j + 1) := fun i y hi hy => by
  by_cases e : i = j
  · subst e; rw [hx] at hy; cases hy; exact hp
  · exact h i y (by omega) hy
theorem NoneUp.idx {α : Type} {pr : α → Bool} {l : List α} {j : Nat} {x : α} (h : NoneUp pr l j) (hx : l[j]? = some x) (hp : pr x = true) : idxV pr l = j := by
  have hj := (List.getElem?_eq_some_iff.1 hx).1
  have : l.findIdx? pr = some j := by
    rw [List.findIdx?_eq_some_iff_getElem]
    refine ⟨hj, ?_, fun i hi => ?_⟩
    · rw [(List.getElem?_eq_some_iff.1 hx).2]; exact hp
    · have := h i (l[i]'(by omega)) hi (List.getElem?_eq_getElem (by omega))
      simpa using this
  unfold idxV
  rw [this]
theorem NoneUp.any {α : Type} {pr : α → Bool} {l : List α} (h : NoneUp pr l l.length) : l.any pr = false := by
  rw [List.any_eq_false]
  intro x hx
  obtain ⟨i, hi, e⟩ := List.getElem_of_mem hx
  have := h i x hi (by rw [List.getElem?_eq_getElem hi, e])
  simp [this]
theorem NoneUp.idx_no {α : Type} {pr : α → Bool} {l : List α} (h : NoneUp pr l l.length) : idxV pr l = -1 := by
  have : l.findIdx? pr = none := by
    rw [List.findIdx?_eq_none_iff]
    intro x hx
    have := h.any
    rw [List.any_eq_false] at this
    simpa using this x hx
  unfold idxV
  rw [this]
theorem any_hit {α : Type} {pr : α → Bool} {l : List α} {j : Nat} {x : α} (hx : l[j]? = some x) (hp : pr x = true) : l.any pr = true := List.any_eq_true.2 ⟨x, List.mem_of_getElem? hx, hp⟩
theorem idxV_any {α : Type} (pr : α → Bool) (l : List α) : decide (0 ≤ idxV pr l) = l.any pr := by
  unfold idxV
  cases h : l.findIdx? pr with
  | none =>
    rw [List.findIdx?_eq_none_iff] at h
    have : l.any pr = false := List.any_eq_false.2 (fun x hx => by simp [h x hx])
    rw [this]; rfl
  | some i =>
    rw [List.findIdx?_eq_some_iff_getElem] at h
    obtain ⟨h1, h2, _⟩ := h
    have : l.any pr = true := List.any_eq_true.2 ⟨_, List.getElem_mem h1, h2⟩
    rw [this]
    simp
theorem idxV_cases {α : Type} (pr : α → Bool) (l : List α) : (idxV pr l = -1 ∧ ∀ x ∈ l, pr x = false) ∨ ∃ j x, idxV pr l = (j : Nat) ∧ l[j]? = some x ∧ pr x = true ∧ NoneUp pr l j := by
  unfold idxV
  cases h : l.findIdx? pr with
  | none =>
    rw [List.findIdx?_eq_none_iff] at h
    exact .inl ⟨rfl, h⟩
  | some i =>
    rw [List.findIdx?_eq_some_iff_getElem] at h
    obtain ⟨h1, h2, h3⟩ := h
    refine .inr ⟨i, l[i], rfl, List.getElem?_eq_getElem h1, h2, fun k x hk hx => ?_⟩
    have := h3 k hk
    rw [(List.getElem?_eq_some_iff.1 hx).2] at this
    simpa using this
end Go.Proofs.YtbalcbnlpgekaaaDoor
