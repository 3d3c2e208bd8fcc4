/- The value side of layer 9: the first of two alike. The value side of layer 9: overlaps, rules. -/
import Derived.Test.YtbdbgoploednbaaDoorQB
import Derived.Test.YtbdbgoploednbaaDoorQM
namespace Go.Proofs.YtbdbgoploednbaaDoor
open Go.RowKit Go.Shelf
set_option linter.unusedVariables false
set_option linter.unusedSimpArgs false

/-- Pairs of two numbers below n, the lower one first, by their second. -/
def rowP (b : Nat) : List (Nat × Nat) := (List.range b).map fun a => (a, b)
def pairsL (n : Nat) : List (Nat × Nat) := (List.range n).flatMap rowP
theorem pairsL_next (n : Nat) : pairsL (n + 1) = pairsL n ++ rowP n := by
  unfold pairsL
  rw [List.range_succ, List.flatMap_append]
  simp
theorem mem_rowP {b : Nat} {x : Nat × Nat} : x ∈ rowP b ↔ x.1 < b ∧ x.2 = b := by
  unfold rowP
  rw [List.mem_map]
  constructor
  · rintro ⟨a, ha, rfl⟩
    exact ⟨List.mem_range.1 ha, rfl⟩
  · rintro ⟨h1, h2⟩
    exact ⟨x.1, List.mem_range.2 h1, Prod.ext rfl h2.symm⟩
theorem mem_pairsL {n : Nat} {x : Nat × Nat} : x ∈ pairsL n ↔ x.1 < x.2 ∧ x.2 < n := by
  unfold pairsL
  rw [List.mem_flatMap]
  constructor
  · rintro ⟨b, hb, hx⟩
    have := List.mem_range.1 hb
    have := mem_rowP.1 hx
    omega
  · rintro ⟨h1, h2⟩
    exact ⟨x.2, List.mem_range.2 h2, mem_rowP.2 ⟨h1, rfl⟩⟩
theorem pairs_some {p : Nat × Nat → Bool} : ∀ {n : Nat} {x : Nat × Nat}, (pairsL n).find? p = some x → x.1 < x.2 ∧ x.2 < n ∧ p x = true ∧ ∀ y : Nat × Nat, y.1 < y.2 → y.2 < x.2 → p y = false
  | 0, x, h => by simp [pairsL] at h
  | n + 1, x, h => by
    rw [pairsL_next, List.find?_append] at h
    cases e : (pairsL n).find? p with
    | some z =>
      rw [e, Option.some_or, Option.some.injEq] at h
      subst h
      obtain ⟨h1, h2, h3, h4⟩ := pairs_some e
      exact ⟨h1, by omega, h3, h4⟩
    | none =>
      rw [e, Option.none_or] at h
      have hm := mem_rowP.1 (List.mem_of_find?_eq_some h)
      refine ⟨by omega, by omega, List.find?_some h, fun y hy hb => ?_⟩
      have := List.find?_eq_none.1 e y (mem_pairsL.2 ⟨hy, by omega⟩)
      simpa using this

section
variable {α : Type}
/-- Are the two of those numbers alike? -/
def dupP (same : α → α → Bool) (l : List α) (x : Nat × Nat) : Bool := match l[x.1]?, l[x.2]? with | some a, some b => same a b | _, _ => false
theorem dupP_at {same : α → α → Bool} {l : List α} {i j : Nat} {a b : α} (ha : l[i]? = some a) (hb : l[j]? = some b) : dupP same l (i, j) = same a b := by unfold dupP; simp only [ha, hb]
/-- The least number of one that has the same ahead of it, and yes; 0, no, if no two are the same. -/
def secondV (same : α → α → Bool) (l : List α) : Int × Bool := match (pairsL l.length).find? (dupP same l) with | some x => ((x.2 : Int), true) | none => (0, false)
/-- No two are alike. -/
def NoTwo (same : α → α → Bool) (l : List α) : Prop := ∀ (i j : Nat) (a b : α), i < j → l[i]? = some a → l[j]? = some b → same a b = false
theorem dupP_no {same : α → α → Bool} {l : List α} {x : Nat × Nat} : dupP same l x = false ↔ ∀ a b, l[x.1]? = some a → l[x.2]? = some b → same a b = false := by
  unfold dupP
  cases h1 : l[x.1]? with
  | none => simp
  | some a =>
    cases h2 : l[x.2]? with
    | none => simp
    | some b => simp
theorem dupP_yes {same : α → α → Bool} {l : List α} {x : Nat × Nat} : dupP same l x = true ↔ ∃ a b, l[x.1]? = some a ∧ l[x.2]? = some b ∧ same a b = true := by
  unfold dupP
  cases h1 : l[x.1]? with
  | none => simp
  | some a =>
    cases h2 : l[x.2]? with
    | none => simp
    | some b => simp
theorem second_no {same : α → α → Bool} {l : List α} : secondV same l = (0, false) ↔ NoTwo same l := by
  unfold secondV NoTwo
  cases e : (pairsL l.length).find? (dupP same l) with
  | none =>
    simp only [true_iff]
    intro i j a b hij hi hj
    have := List.find?_eq_none.1 e (i, j) (mem_pairsL.2 ⟨hij, (List.getElem?_eq_some_iff.1 hj).1⟩)
    rw [Bool.not_eq_true, dupP_at hi hj] at this
    exact this
  | some x =>
    simp only [Prod.mk.injEq, Bool.true_eq_false, and_false, false_iff]
    intro h
    obtain ⟨h1, h2, h3, _⟩ := pairs_some e
    obtain ⟨a, b, ha, hb, hs⟩ := dupP_yes.1 h3
    rw [h x.1 x.2 a b h1 ha hb] at hs
    cases hs
theorem second_yes {same : α → α → Bool} {l : List α} {r : Int × Bool} (hr : secondV same l = r) (h : r.2 = true) : ∃ b : Nat, r = ((b : Int), true) ∧ 0 < b ∧ b < l.length ∧ NoTwo same (l.take b) ∧ ∃ (i : Nat) (x y : α), i < b ∧ l[i]? = some x ∧ l[b]? = some y ∧ same x y = true := by
  subst hr
  unfold secondV at h ⊢
  cases e : (pairsL l.length).find? (dupP same l) with
  | none => rw [e] at h; cases h
  | some x =>
    obtain ⟨h1, h2, h3, h4⟩ := pairs_some e
    obtain ⟨a, b, ha, hb, hs⟩ := dupP_yes.1 h3
    refine ⟨x.2, rfl, by omega, h2, fun i j u v hij hi hj => ?_, x.1, a, b, h1, ha, hb, hs⟩
    rw [List.getElem?_take] at hi hj
    split at hj
    · rw [if_pos (by omega)] at hi
      have := h4 (i, j) hij (by assumption)
      exact dupP_no.1 this u v hi hj
    · cases hj
/-- Two alike for the first time at the end. -/
theorem second_last {same : α → α → Bool} {l : List α} {y : α} (h : NoTwo same l) {i : Nat} {x : α} (hx : l[i]? = some x) (hs : same x y = true) : secondV same (l ++ [y]) = ((l.length : Int), true) := by
  have hi := (List.getElem?_eq_some_iff.1 hx).1
  cases e : (secondV same (l ++ [y])).2 with
  | false =>
    have h0 : secondV same (l ++ [y]) = (0, false) := by
      unfold secondV at e ⊢
      cases f : (pairsL (l ++ [y]).length).find? (dupP same (l ++ [y])) with
      | none => rfl
      | some z => rw [f] at e; cases e
    have := second_no.1 h0 i l.length x y hi (by rw [List.getElem?_append_left hi]; exact hx) (by rw [List.getElem?_append_right (Nat.le_refl _), Nat.sub_self]; rfl)
    rw [hs] at this
    cases this
  | true =>
    obtain ⟨b, hb, h1, h2, _, j, u, v, hj, hu, hv, hs'⟩ := second_yes rfl e
    rw [hb]
    rw [List.length_append, List.length_singleton] at h2
    by_cases hbl : b < l.length
    · rw [List.getElem?_append_left (by omega)] at hu
      rw [List.getElem?_append_left hbl] at hv
      rw [h j b u v hj hu hv] at hs'
      cases hs'
    · obtain rfl : b = l.length := by omega
      rfl
theorem NoTwo.take {same : α → α → Bool} {l : List α} (h : NoTwo same l) (n : Nat) : NoTwo same (l.take n) := fun i j a b hij hi hj => by
  rw [List.getElem?_take] at hi hj
  split at hj
  · rw [if_pos (by omega)] at hi
    exact h i j a b hij hi hj
  · cases hj
theorem NoTwo.nil (same : α → α → Bool) : NoTwo same [] := fun i j a b _ h _ => by simp at h
end

/-- Alike: two signals, exits, flanks. -/
def sameG (a b : Int × Int) : Bool := a.1 == b.1 && a.2 == b.2
def sameE (a b : Exm) : Bool := a.s == b.s && a.q == b.q
def sameF (a b : Int × Int × Int × Int) : Bool := decide (a.1 = b.1) && (decide (a.2.1 = b.2.1) && decide (a.2.2.1 = b.2.2.1))
end Go.Proofs.YtbdbgoploednbaaDoor
namespace Go.Proofs.YtbdbgoploednbaaDoor
open Go.RowKit Go.Shelf
set_option linter.unusedVariables false
set_option linter.unusedSimpArgs false

/-- An exit's overlap is one: from p on, the sections seen behind. -/
def overGo (l : Lay) : Int × Int → List Int → List (Int × Int × Int) → Bool
  | _, _, [] => true
  | p, seen, s :: r => decide (beyondV l p.1 p.2 = (s.1, s.2.1)) && (!(seen.contains s.1) && overGo l (s.1, s.2.2) (seen ++ [s.1]) r)
def overV (l : Lay) (x : Exm) : Bool := overGo l (x.s, x.q) [x.s] x.over
/-- The first exit whose overlap is none. -/
def wrongV (l : Lay) : Int × Bool := match l.exits.findIdx? (fun x => !overV l x) with | some n => ((n : Int), true) | none => (0, false)
theorem wrong_no {l : Lay} : wrongV l = (0, false) ↔ ∀ x ∈ l.exits, overV l x = true := by
  unfold wrongV
  cases e : l.exits.findIdx? (fun x => !overV l x) with
  | none =>
    simp only [true_iff]
    intro x hx
    have := List.findIdx?_eq_none_iff.1 e x hx
    simpa using this
  | some n =>
    simp only [Prod.mk.injEq, Bool.true_eq_false, and_false, false_iff]
    intro h
    obtain ⟨hn, hp, _⟩ := List.findIdx?_eq_some_iff_getElem.1 e
    rw [h _ (List.getElem_mem hn)] at hp
    cases hp
theorem wrong_yes {l : Lay} {r : Int × Bool} (hr : wrongV l = r) (h : r.2 = true) : ∃ n : Nat, r = ((n : Int), true) ∧ n < l.exits.length ∧ (∀ x ∈ l.exits.take n, overV l x = true) ∧ ∃ x, l.exits[n]? = some x ∧ overV l x = false := by
  subst hr
  unfold wrongV at h ⊢
  cases e : l.exits.findIdx? (fun x => !overV l x) with
  | none => rw [e] at h; cases h
  | some n =>
    obtain ⟨hn, hp, hb⟩ := List.findIdx?_eq_some_iff_getElem.1 e
    refine ⟨n, rfl, hn, fun x hx => ?_, _, List.getElem?_eq_getElem hn, by simpa using hp⟩
    obtain ⟨i, hi, rfl⟩ := List.getElem_of_mem hx
    rw [List.length_take] at hi
    rw [List.getElem_take]
    have := hb i (by omega)
    simpa using this

/-- The rules, in their order: of what, and whether it is broken. -/
def ruleV (l : Lay) (k : Nat) : Int × Bool :=
  if k = 0 then (0, !joinedL l) else if k = 1 then secondV sameG l.sigs else if k = 2 then secondV sameE l.exits else if k = 3 then wrongV l else secondV sameF l.flanks
/-- What Check tells. -/
def checkV (l : Lay) : Int × Int × Int :=
  if rightL l = true then (match (List.range 5).find? (fun k => (ruleV l k).2) with | some k => (((k : Int) + 1), (ruleV l k).1, 90) | none => (0, 0, 0)) else (0, 0, 60)
def rightT (l : Lay) : Bool := decide ((checkV l).2.2 = 0)
def overT (l : Lay) (x : Int) : Bool := rightL l && (decide (0 ≤ x) && match l.exits[x.toNat]? with | some e => overV l e | none => false)
/-- It hangs together. -/
structure Hangs (l : Lay) : Prop where
  right : rightL l = true
  joined : joinedL l = true
  sigs : NoTwo sameG l.sigs
  exits : NoTwo sameE l.exits
  overs : ∀ x ∈ l.exits, overV l x = true
  flanks : NoTwo sameF l.flanks
theorem second_fst {α : Type} {same : α → α → Bool} {l : List α} (h : (secondV same l).2 = false) : secondV same l = (0, false) := by
  unfold secondV at h ⊢
  cases e : (pairsL l.length).find? (dupP same l) with
  | none => rfl
  | some z => rw [e] at h; cases h
theorem wrong_fst {l : Lay} (h : (wrongV l).2 = false) : wrongV l = (0, false) := by
  unfold wrongV at h ⊢
  cases e : l.exits.findIdx? (fun x => !overV l x) with
  | none => rfl
  | some n => rw [e] at h; cases h
/-- Which rule is told: those ahead are kept. -/
theorem check_at {l : Lay} (hr : rightL l = true) {k : Nat} (hk : k < 5) (h : (ruleV l k).2 = true) (ha : ∀ i, i < k → (ruleV l i).2 = false) : checkV l = (((k : Int) + 1), (ruleV l k).1, 90) := by
  unfold checkV
  rw [if_pos hr]
  have : (List.range 5).find? (fun k => (ruleV l k).2) = some k := by
    rw [List.find?_range_eq_some]
    refine ⟨h, List.mem_range.2 hk, fun j hj => ?_⟩
    rw [ha j hj]
    rfl
  rw [this]
theorem check_no {l : Lay} (hr : rightL l = true) (ha : ∀ i, i < 5 → (ruleV l i).2 = false) : checkV l = (0, 0, 0) := by
  unfold checkV
  rw [if_pos hr]
  have : (List.range 5).find? (fun k => (ruleV l k).2) = none := by
    rw [List.find?_eq_none]
    intro k hk
    rw [ha k (List.mem_range.1 hk)]
    simp
  rw [this]
theorem check_wrong {l : Lay} (hr : rightL l = false) : checkV l = (0, 0, 60) := by
  unfold checkV
  rw [if_neg (by rw [hr]; simp)]
/-- The three ways of Check. -/
theorem check_ways (l : Lay) : (rightL l = false ∧ checkV l = (0, 0, 60)) ∨ (rightL l = true ∧ ((∃ k, k < 5 ∧ (ruleV l k).2 = true ∧ (∀ i, i < k → (ruleV l i).2 = false) ∧ checkV l = (((k : Int) + 1), (ruleV l k).1, 90)) ∨ ((∀ i, i < 5 → (ruleV l i).2 = false) ∧ checkV l = (0, 0, 0)))) := by
  cases hr : rightL l
  · exact .inl ⟨rfl, check_wrong hr⟩
  · right
    refine ⟨rfl, ?_⟩
    cases e : (List.range 5).find? (fun k => (ruleV l k).2) with
    | none =>
      right
      have : ∀ i, i < 5 → (ruleV l i).2 = false := fun i hi => by simpa using List.find?_eq_none.1 e i (List.mem_range.2 hi)
      exact ⟨this, check_no hr this⟩
    | some k =>
      left
      rw [List.find?_range_eq_some] at e
      obtain ⟨h1, h2, h3⟩ := e
      have ha : ∀ i, i < k → (ruleV l i).2 = false := fun i hi => by simpa using h3 i hi
      exact ⟨k, List.mem_range.1 h2, h1, ha, check_at hr (List.mem_range.1 h2) h1 ha⟩
theorem Hangs.kept {l : Lay} (h : Hangs l) : ∀ i, i < 5 → (ruleV l i).2 = false := by
  intro i hi
  rcases (show i = 0 ∨ i = 1 ∨ i = 2 ∨ i = 3 ∨ i = 4 by omega) with rfl | rfl | rfl | rfl | rfl
  · show (!joinedL l) = false
    rw [h.joined]; rfl
  · show (secondV sameG l.sigs).2 = false
    rw [second_no.2 h.sigs]
  · show (secondV sameE l.exits).2 = false
    rw [second_no.2 h.exits]
  · show (wrongV l).2 = false
    rw [wrong_no.2 h.overs]
  · show (secondV sameF l.flanks).2 = false
    rw [second_no.2 h.flanks]
theorem rule0 {l : Lay} (h : (ruleV l 0).2 = false) : joinedL l = true := by
  have : (!joinedL l) = false := h
  simpa using this
theorem rule1 {l : Lay} (h : (ruleV l 1).2 = false) : NoTwo sameG l.sigs := second_no.1 (second_fst h)
theorem rule2 {l : Lay} (h : (ruleV l 2).2 = false) : NoTwo sameE l.exits := second_no.1 (second_fst h)
theorem rule3 {l : Lay} (h : (ruleV l 3).2 = false) : ∀ x ∈ l.exits, overV l x = true := wrong_no.1 (wrong_fst h)
theorem rule4 {l : Lay} (h : (ruleV l 4).2 = false) : NoTwo sameF l.flanks := second_no.1 (second_fst h)
theorem hangs_iff {l : Lay} : rightT l = true ↔ Hangs l := by
  unfold rightT
  rw [decide_eq_true_eq]
  constructor
  · intro h
    rcases check_ways l with ⟨_, e⟩ | ⟨hr, ⟨k, _, _, _, e⟩ | ⟨ha, _⟩⟩
    · rw [e] at h; simp at h
    · rw [e] at h; simp at h
    · exact ⟨hr, rule0 (ha 0 (by omega)), rule1 (ha 1 (by omega)), rule2 (ha 2 (by omega)), rule3 (ha 3 (by omega)), rule4 (ha 4 (by omega))⟩
  · intro h
    rw [check_no h.right h.kept]
theorem rightT_ok {l : Lay} (h : rightT l = true) : checkV l = (0, 0, 0) := check_no (hangs_iff.1 h).right (hangs_iff.1 h).kept
end Go.Proofs.YtbdbgoploednbaaDoor
