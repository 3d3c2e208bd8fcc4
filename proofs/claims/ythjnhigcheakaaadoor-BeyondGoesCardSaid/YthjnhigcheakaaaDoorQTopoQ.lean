/- The value side of layer 9: the first of two alike. -/
import Derived.Test.YthjnhigcheakaaaDoorQB
namespace Go.Proofs.YthjnhigcheakaaaDoor
open Go.RowKit Go.Shelf
set_option linter.unusedVariables false
set_option linter.unusedSimpArgs false

/-- Pairs of two numbers below n, the lower one first, by their second. -/
def rowP (b : Nat) : List (Nat × Nat) := (List.range b).map fun a => (a, b)
def pairsL (n : Nat) : List (Nat × Nat) := (List.range n).flatMap rowP
theorem pairsL_next (n : Nat) : pairsL (n + 1) = pairsL n ++ rowP n := by
  unfold pairsL
  rw [List.range_succ, List.flatMap_append]
  simp
theorem mem_rowP {b : Nat} {x : Nat × Nat} : x ∈ rowP b ↔ x.1 < b ∧ x.2 = b := by
  unfold rowP
  rw [List.mem_map]
  constructor
  · rintro ⟨a, ha, rfl⟩
    exact ⟨List.mem_range.1 ha, rfl⟩
  · rintro ⟨h1, h2⟩
    exact ⟨x.1, List.mem_range.2 h1, Prod.ext rfl h2.symm⟩
theorem mem_pairsL {n : Nat} {x : Nat × Nat} : x ∈ pairsL n ↔ x.1 < x.2 ∧ x.2 < n := by
  unfold pairsL
  rw [List.mem_flatMap]
  constructor
  · rintro ⟨b, hb, hx⟩
    have := List.mem_range.1 hb
    have := mem_rowP.1 hx
    omega
  · rintro ⟨h1, h2⟩
    exact ⟨x.2, List.mem_range.2 h2, mem_rowP.2 ⟨h1, rfl⟩⟩
theorem pairs_some {p : Nat × Nat → Bool} : ∀ {n : Nat} {x : Nat × Nat}, (pairsL n).find? p = some x → x.1 < x.2 ∧ x.2 < n ∧ p x = true ∧ ∀ y : Nat × Nat, y.1 < y.2 → y.2 < x.2 → p y = false
  | 0, x, h => by simp [pairsL] at h
  | n + 1, x, h => by
    rw [pairsL_next, List.find?_append] at h
    cases e : (pairsL n).find? p with
    | some z =>
      rw [e, Option.some_or, Option.some.injEq] at h
      subst h
      obtain ⟨h1, h2, h3, h4⟩ := pairs_some e
      exact ⟨h1, by omega, h3, h4⟩
    | none =>
      rw [e, Option.none_or] at h
      have hm := mem_rowP.1 (List.mem_of_find?_eq_some h)
      refine ⟨by omega, by omega, List.find?_some h, fun y hy hb => ?_⟩
      have := List.find?_eq_none.1 e y (mem_pairsL.2 ⟨hy, by omega⟩)
      simpa using this

section
variable {α : Type}
/-- Are the two of those numbers alike? -/
def dupP (same : α → α → Bool) (l : List α) (x : Nat × Nat) : Bool := match l[x.1]?, l[x.2]? with | some a, some b => same a b | _, _ => false
theorem dupP_at {same : α → α → Bool} {l : List α} {i j : Nat} {a b : α} (ha : l[i]? = some a) (hb : l[j]? = some b) : dupP same l (i, j) = same a b := by unfold dupP; simp only [ha, hb]
/-- The least number of one that has the same ahead of it, and yes; 0, no, if no two are the same. -/
def secondV (same : α → α → Bool) (l : List α) : Int × Bool := match (pairsL l.length).find? (dupP same l) with | some x => ((x.2 : Int), true) | none => (0, false)
/-- No two are alike. -/
def NoTwo (same : α → α → Bool) (l : List α) : Prop := ∀ (i j : Nat) (a b : α), i < j → l[i]? = some a → l[j]? = some b → same a b = false
theorem dupP_no {same : α → α → Bool} {l : List α} {x : Nat × Nat} : dupP same l x = false ↔ ∀ a b, l[x.1]? = some a → l[x.2]? = some b → same a b = false := by
  unfold dupP
  cases h1 : l[x.1]? with
  | none => simp
  | some a =>
    cases h2 : l[x.2]? with
    | none => simp
    | some b => simp
theorem dupP_yes {same : α → α → Bool} {l : List α} {x : Nat × Nat} : dupP same l x = true ↔ ∃ a b, l[x.1]? = some a ∧ l[x.2]? = some b ∧ same a b = true := by
  unfold dupP
  cases h1 : l[x.1]? with
  | none => simp
  | some a =>
    cases h2 : l[x.2]? with
    | none => simp
    | some b => simp
theorem second_no {same : α → α → Bool} {l : List α} : secondV same l = (0, false) ↔ NoTwo same l := by
  unfold secondV NoTwo
  cases e : (pairsL l.length).find? (dupP same l) with
  | none =>
    simp only [true_iff]
    intro i j a b hij hi hj
    have := List.find?_eq_none.1 e (i, j) (mem_pairsL.2 ⟨hij, (List.getElem?_eq_some_iff.1 hj).1⟩)
    rw [Bool.not_eq_true, dupP_at hi hj] at this
    exact this
  | some x =>
    simp only [Prod.mk.injEq, Bool.true_eq_false, and_false, false_iff]
    intro h
    obtain ⟨h1, h2, h3, _⟩ := pairs_some e
    obtain ⟨a, b, ha, hb, hs⟩ := dupP_yes.1 h3
    rw [h x.1 x.2 a b h1 ha hb] at hs
    cases hs
theorem second_yes {same : α → α → Bool} {l : List α} {r : Int × Bool} (hr : secondV same l = r) (h : r.2 = true) : ∃ b : Nat, r = ((b : Int), true) ∧ 0 < b ∧ b < l.length ∧ NoTwo same (l.take b) ∧ ∃ (i : Nat) (x y : α), i < b ∧ l[i]? = some x ∧ l[b]? = some y ∧ same x y = true := by
  subst hr
  unfold secondV at h ⊢
  cases e : (pairsL l.length).find? (dupP same l) with
  | none => rw [e] at h; cases h
  | some x =>
    obtain ⟨h1, h2, h3, h4⟩ := pairs_some e
    obtain ⟨a, b, ha, hb, hs⟩ := dupP_yes.1 h3
    refine ⟨x.2, rfl, by omega, h2, fun i j u v hij hi hj => ?_, x.1, a, b, h1, ha, hb, hs⟩
    rw [List.getElem?_take] at hi hj
    split at hj
    · rw [if_pos (by omega)] at hi
      have := h4 (i, j) hij (by assumption)
      exact dupP_no.1 this u v hi hj
    · cases hj
/-- Two alike for the first time at the end. -/
theorem second_last {same : α → α → Bool} {l : List α} {y : α} (h : NoTwo same l) {i : Nat} {x : α} (hx : l[i]? = some x) (hs : same x y = true) : secondV same (l ++ [y]) = ((l.length : Int), true) := by
  have hi := (List.getElem?_eq_some_iff.1 hx).1
  cases e : (secondV same (l ++ [y])).2 with
  | false =>
    have h0 : secondV same (l ++ [y]) = (0, false) := by
      unfold secondV at e ⊢
      cases f : (pairsL (l ++ [y]).length).find? (dupP same (l ++ [y])) with
      | none => rfl
      | some z => rw [f] at e; cases e
    have := second_no.1 h0 i l.length x y hi (by rw [List.getElem?_append_left hi]; exact hx) (by rw [List.getElem?_append_right (Nat.le_refl _), Nat.sub_self]; rfl)
    rw [hs] at this
    cases this
  | true =>
    obtain ⟨b, hb, h1, h2, _, j, u, v, hj, hu, hv, hs'⟩ := second_yes rfl e
    rw [hb]
    rw [List.length_append, List.length_singleton] at h2
    by_cases hbl : b < l.length
    · rw [List.getElem?_append_left (by omega)] at hu
      rw [List.getElem?_append_left hbl] at hv
      rw [h j b u v hj hu hv] at hs'
      cases hs'
    · obtain rfl : b = l.length := by omega
      rfl
theorem NoTwo.take {same : α → α → Bool} {l : List α} (h : NoTwo same l) (n : Nat) : NoTwo same (l.take n) := fun i j a b hij hi hj => by
  rw [List.getElem?_take] at hi hj
  split at hj
  · rw [if_pos (by omega)] at hi
    exact h i j a b hij hi hj
  · cases hj
theorem NoTwo.nil (same : α → α → Bool) : NoTwo same [] := fun i j a b _ h _ => by simp at h
end

/-- Alike: two signals, exits, flanks. -/
def sameG (a b : Int × Int) : Bool := a.1 == b.1 && a.2 == b.2
def sameE (a b : Exm) : Bool := a.s == b.s && a.q == b.q
def sameF (a b : Int × Int × Int × Int) : Bool := decide (a.1 = b.1) && (decide (a.2.1 = b.2.1) && decide (a.2.2.1 = b.2.2.1))
end Go.Proofs.YthjnhigcheakaaaDoor
