/- The value side of layer 9: overlaps, rules. What lies beyond is joined back (pure). -/
import Derived.Test.YtljpiafopbfdlaaQAg
import Derived.Test.YtljpiafopbfdlaaQAe
namespace Go.Proofs.Ytljpiafopbfdlaa
open Go.RowKit Go.Shelf
set_option linter.unusedVariables false
set_option linter.unusedSimpArgs false

/-- An exit's overlap is one: from p on, the sections seen behind. -/
def overGo (l : Lay) : Int × Int → List Int → List (Int × Int × Int) → Bool
  | _, _, [] => true
  | p, seen, s :: r => decide (beyondV l p.1 p.2 = (s.1, s.2.1)) && (!(seen.contains s.1) && overGo l (s.1, s.2.2) (seen ++ [s.1]) r)
def overV (l : Lay) (x : Exm) : Bool := overGo l (x.s, x.q) [x.s] x.over
/-- The first exit whose overlap is none. -/
def wrongV (l : Lay) : Int × Bool := match l.exits.findIdx? (fun x => !overV l x) with | some n => ((n : Int), true) | none => (0, false)
theorem wrong_no {l : Lay} : wrongV l = (0, false) ↔ ∀ x ∈ l.exits, overV l x = true := by
  unfold wrongV
  cases e : l.exits.findIdx? (fun x => !overV l x) with
  | none =>
    simp only [true_iff]
    intro x hx
    have := List.findIdx?_eq_none_iff.1 e x hx
    simpa using this
  | some n =>
    simp only [Prod.mk.injEq, Bool.true_eq_false, and_false, false_iff]
    intro h
    obtain ⟨hn, hp, _⟩ := List.findIdx?_eq_some_iff_getElem.1 e
    rw [h _ (List.getElem_mem hn)] at hp
    cases hp
theorem wrong_yes {l : Lay} {r : Int × Bool} (hr : wrongV l = r) (h : r.2 = true) : ∃ n : Nat, r = ((n : Int), true) ∧ n < l.exits.length ∧ (∀ x ∈ l.exits.take n, overV l x = true) ∧ ∃ x, l.exits[n]? = some x ∧ overV l x = false := by
  subst hr
  unfold wrongV at h ⊢
  cases e : l.exits.findIdx? (fun x => !overV l x) with
  | none => rw [e] at h; cases h
  | some n =>
    obtain ⟨hn, hp, hb⟩ := List.findIdx?_eq_some_iff_getElem.1 e
    refine ⟨n, rfl, hn, fun x hx => ?_, _, List.getElem?_eq_getElem hn, by simpa using hp⟩
    obtain ⟨i, hi, rfl⟩ := List.getElem_of_mem hx
    rw [List.length_take] at hi
    rw [List.getElem_take]
    have := hb i (by omega)
    simpa using this

/-- The rules, in their order: of what, and whether it is broken. -/
def ruleV (l : Lay) (k : Nat) : Int × Bool :=
  if k = 0 then (0, !joinedL l) else if k = 1 then secondV sameG l.sigs else if k = 2 then secondV sameE l.exits else if k = 3 then wrongV l else secondV sameF l.flanks
/-- What Check tells. -/
def checkV (l : Lay) : Int × Int × Int :=
  if rightL l = true then (match (List.range 5).find? (fun k => (ruleV l k).2) with | some k => (((k : Int) + 1), (ruleV l k).1, 90) | none => (0, 0, 0)) else (0, 0, 60)
def rightT (l : Lay) : Bool := decide ((checkV l).2.2 = 0)
def overT (l : Lay) (x : Int) : Bool := rightL l && (decide (0 ≤ x) && match l.exits[x.toNat]? with | some e => overV l e | none => false)
/-- It hangs together. -/
structure Hangs (l : Lay) : Prop where
  right : rightL l = true
  joined : joinedL l = true
  sigs : NoTwo sameG l.sigs
  exits : NoTwo sameE l.exits
  overs : ∀ x ∈ l.exits, overV l x = true
  flanks : NoTwo sameF l.flanks
theorem second_fst {α : Type} {same : α → α → Bool} {l : List α} (h : (secondV same l).2 = false) : secondV same l = (0, false) := by
  unfold secondV at h ⊢
  cases e : (pairsL l.length).find? (dupP same l) with
  | none => rfl
  | some z => rw [e] at h; cases h
theorem wrong_fst {l : Lay} (h : (wrongV l).2 = false) : wrongV l = (0, false) := by
  unfold wrongV at h ⊢
  cases e : l.exits.findIdx? (fun x => !overV l x) with
  | none => rfl
  | some n => rw [e] at h; cases h
/-- Which rule is told: those ahead are kept. -/
theorem check_at {l : Lay} (hr : rightL l = true) {k : Nat} (hk : k < 5) (h : (ruleV l k).2 = true) (ha : ∀ i, i < k → (ruleV l i).2 = false) : checkV l = (((k : Int) + 1), (ruleV l k).1, 90) := by
  unfold checkV
  rw [if_pos hr]
  have : (List.range 5).find? (fun k => (ruleV l k).2) = some k := by
    rw [List.find?_range_eq_some]
    refine ⟨h, List.mem_range.2 hk, fun j hj => ?_⟩
    rw [ha j hj]
    rfl
  rw [this]
theorem check_no {l : Lay} (hr : rightL l = true) (ha : ∀ i, i < 5 → (ruleV l i).2 = false) : checkV l = (0, 0, 0) := by
  unfold checkV
  rw [if_pos hr]
  have : (List.range 5).find? (fun k => (ruleV l k).2) = none := by
    rw [List.find?_eq_none]
    intro k hk
    rw [ha k (List.mem_range.1 hk)]
    simp
  rw [this]
theorem check_wrong {l : Lay} (hr : rightL l = false) : checkV l = (0, 0, 60) := by
  unfold checkV
  rw [if_neg (by rw [hr]; simp)]
/-- The three ways of Check. -/
theorem check_ways (l : Lay) : (rightL l = false ∧ checkV l = (0, 0, 60)) ∨ (rightL l = true ∧ ((∃ k, k < 5 ∧ (ruleV l k).2 = true ∧ (∀ i, i < k → (ruleV l i).2 = false) ∧ checkV l = (((k : Int) + 1), (ruleV l k).1, 90)) ∨ ((∀ i, i < 5 → (ruleV l i).2 = false) ∧ checkV l = (0, 0, 0)))) := by
  cases hr : rightL l
  · exact .inl ⟨rfl, check_wrong hr⟩
  · right
    refine ⟨rfl, ?_⟩
    cases e : (List.range 5).find? (fun k => (ruleV l k).2) with
    | none =>
      right
      have : ∀ i, i < 5 → (ruleV l i).2 = false := fun i hi => by simpa using List.find?_eq_none.1 e i (List.mem_range.2 hi)
      exact ⟨this, check_no hr this⟩
    | some k =>
      left
      rw [List.find?_range_eq_some] at e
      obtain ⟨h1, h2, h3⟩ := e
      have ha : ∀ i, i < k → (ruleV l i).2 = false := fun i hi => by simpa using h3 i hi
      exact ⟨k, List.mem_range.1 h2, h1, ha, check_at hr (List.mem_range.1 h2) h1 ha⟩
theorem Hangs.kept {l : Lay} (h : Hangs l) : ∀ i, i < 5 → (ruleV l i).2 = false := by
  intro i hi
  rcases (show i = 0 ∨ i = 1 ∨ i = 2 ∨ i = 3 ∨ i = 4 by omega) with rfl | rfl | rfl | rfl | rfl
  · show (!joinedL l) = false
    rw [h.joined]; rfl
  · show (secondV sameG l.sigs).2 = false
    rw [second_no.2 h.sigs]
  · show (secondV sameE l.exits).2 = false
    rw [second_no.2 h.exits]
  · show (wrongV l).2 = false
    rw [wrong_no.2 h.overs]
  · show (secondV sameF l.flanks).2 = false
    rw [second_no.2 h.flanks]
theorem rule0 {l : Lay} (h : (ruleV l 0).2 = false) : joinedL l = true := by
  have : (!joinedL l) = false := h
  simpa using this
theorem rule1 {l : Lay} (h : (ruleV l 1).2 = false) : NoTwo sameG l.sigs := second_no.1 (second_fst h)
theorem rule2 {l : Lay} (h : (ruleV l 2).2 = false) : NoTwo sameE l.exits := second_no.1 (second_fst h)
theorem rule3 {l : Lay} (h : (ruleV l 3).2 = false) : ∀ x ∈ l.exits, overV l x = true := wrong_no.1 (wrong_fst h)
theorem rule4 {l : Lay} (h : (ruleV l 4).2 = false) : NoTwo sameF l.flanks := second_no.1 (second_fst h)
theorem hangs_iff {l : Lay} : rightT l = true ↔ Hangs l := by
  unfold rightT
  rw [decide_eq_true_eq]
  constructor
  · intro h
    rcases check_ways l with ⟨_, e⟩ | ⟨hr, ⟨k, _, _, _, e⟩ | ⟨ha, _⟩⟩
    · rw [e] at h; simp at h
    · rw [e] at h; simp at h
    · exact ⟨hr, rule0 (ha 0 (by omega)), rule1 (ha 1 (by omega)), rule2 (ha 2 (by omega)), rule3 (ha 3 (by omega)), rule4 (ha 4 (by omega))⟩
  · intro h
    rw [check_no h.right h.kept]
theorem rightT_ok {l : Lay} (h : rightT l = true) : checkV l = (0, 0, 0) := check_no (hangs_iff.1 h).right (hangs_iff.1 h).kept
end Go.Proofs.Ytljpiafopbfdlaa
namespace Go.Proofs.Ytljpiafopbfdlaa
open Go.RowKit Go.Shelf
set_option linter.unusedVariables false
set_option linter.unusedSimpArgs false

/-- In a layout that hangs together beyond what lies beyond a port is that port. -/
theorem right_back {l : Lay} {s p : Int} (h : rightT l = true) {q : Int × Int} (hq : beyondV l s p = q) (h0 : 0 ≤ q.1) : beyondV l q.1 q.2 = (s, p) := by
  rcases joined_back (hangs_iff.1 h).joined hq with e | ⟨_, _, _, _, e⟩
  · rw [e] at h0; simp at h0
  · exact e
end Go.Proofs.Ytljpiafopbfdlaa
