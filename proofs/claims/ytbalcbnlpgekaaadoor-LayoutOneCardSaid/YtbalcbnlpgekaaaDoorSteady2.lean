/- As XSteady, from wherever a region has come to, in the held form: the rest, all of it, steadily. -/
import Derived.Test.YtbalcbnlpgekaaaDoorSteady
import Derived.Deep.RegionHeld3
namespace Go.Proofs.YtbalcbnlpgekaaaDoor
set_option linter.unusedVariables false

section
variable {P : Program} {ops : Array Oper} {md : Region.Mode} {S : World → Prop}

/-- Whatever order is picked, each steadily, till none is left. -/
def fullS (P : Program) (md : Region.Mode) (ops : Array Oper) (S : World → Prop) (L : Act → Prop) : Nat → Array Bool → Act → Prop
  | 0, listed, a => Region.ready md ops listed = [] ∧ L a
  | f + 1, listed, a => (Region.ready md ops listed = [] → L a) ∧ ∀ i ∈ Region.ready md ops listed, stOpS P ops S i (fullS P md ops S L f (listed.setIfInBounds i true)) a

theorem held_of_full {Q : Exit → Act → World → Prop} {L : Act → Prop} (hL : ∀ a, L a → ∀ w, S w → Q .normal a w) :
    ∀ (f : Nat) (listed : Array Bool) (a : Act), fullS P md ops S L f listed a → ∀ w, S w → wpAnyH P md ops Q S f listed a w
  | 0, listed, a, h, w, hS => ⟨h.1, hL _ h.2 w hS⟩
  | f + 1, listed, a, h, w, hS => ⟨fun h0 => hL _ (h.1 h0) w hS, fun i hi => wpOp_of_stOpS hS (fun a' w' h' hS' => ⟨hS', held_of_full hL f _ a' h' w' hS'⟩) (h.2 i hi)⟩

theorem fullS_first {i : Nat} {oi : Oper} {v : Value} {L : Act → Prop} (hi : ops[i]? = some oi) (hsel : ∀ (j : Nat) (o : Oper) cs b, ops[j]? = some o → o.op ≠ .select cs b) :
    ∀ (f : Nat) (listed : Array Bool) (a : Act),
      (∀ j oj, ops[j]? = some oj → j ≠ i → listed.getD j true = false → (∀ e ∈ oj.after, Region.binds md e = true → e.on ≠ i) → oi.apart ops oj = true) →
      i ∈ Region.ready md ops listed → SteadyAt P ops S oi v a →
      fullS P md ops S L f (listed.setIfInBounds i true) (a.put oi.dst v) → fullS P md ops S L (f + 1) listed a := by
  intro f
  induction f with
  | zero =>
    intro listed a hfree hr hy H
    refine ⟨fun h => (by rw [h] at hr; cases hr), fun j hj => ?_⟩
    by_cases hji : j = i
    · subst hji; unfold stOpS; simp only [hi]; exact ⟨v, hy, H⟩
    · have := ready_mono hj hji
      rw [H.1] at this
      cases this
  | succ f ih =>
    intro listed a hfree hr hy H
    have hun := (mem_ready.1 hr).1
    refine ⟨fun h => (by rw [h] at hr; cases hr), fun j hj => ?_⟩
    by_cases hji : j = i
    · subst hji; unfold stOpS; simp only [hi]; exact ⟨v, hy, H⟩
    · have h1 := H.2 j (ready_mono hj hji)
      obtain ⟨hjun, oj, hoj, hall⟩ := mem_ready.1 hj
      have hnot : ∀ e ∈ oj.after, Region.binds md e = true → e.on ≠ i := fun e he hb heq => by
        have h1 := hall e he hb
        rw [heq, getD_both hun] at h1
        cases h1
      have h2 := stOpS_put hoj (hfree j oj hoj hji hjun hnot) (fun cs b => hsel i oi cs b hi) (fun cs b => hsel j oj cs b hoj) hy h1
      refine stOpS_mono (fun a' h3 => ih (listed.setIfInBounds j true) a' (fun k ok hk hki hun' hno => hfree k ok hk hki ?_ hno) (ready_mono hr (Ne.symm hji)) h3.1 ?_) h2
      · by_cases hjk : j = k
        · subst hjk; exact hjun
        · rw [getD_set_ne true hjk] at hun'; exact hun'
      · rw [Array.setIfInBounds_comm _ _ hji]
        exact h3.2

/-- From number k on, one behind the other; then none is left. -/
def lexAll (md : Region.Mode) (ops : Array Oper) : Nat → Nat → Array Bool → Bool
  | 0, _, listed => (Region.ready md ops listed).isEmpty
  | f + 1, k, listed => (Region.ready md ops listed).contains k && Region.free md ops listed k && lexAll md ops f (k + 1) (listed.setIfInBounds k true)

theorem fullS_lex {L : Act → Prop} (hsel : Region.noSelect ops = true) :
    ∀ (l : List Oper) (k : Nat) (listed : Array Bool) (a : Act), (∀ j, j < l.length → l[j]? = ops[k + j]?) → lexAll md ops l.length k listed = true → wpSteady P ops S L l a → fullS P md ops S L l.length listed a
  | [], k, listed, a, _, hB, h => ⟨by simpa [lexAll] using hB, h⟩
  | o :: l, k, listed, a, hl, hB, h => by
    have h0 : ops[k]? = some o := by simpa using (hl 0 (by simp)).symm
    simp only [List.length_cons, lexAll, Bool.and_eq_true] at hB
    obtain ⟨⟨hr, hf⟩, hB'⟩ := hB
    have hr' : k ∈ Region.ready md ops listed := by simpa using hr
    obtain ⟨v, hy, hK⟩ := h
    exact fullS_first h0 (Region.noSelect_spec hsel) l.length listed a (Region.free_spec h0 hf) hr' hy
      (fullS_lex hsel l (k + 1) _ _ (fun j hj => by have := hl (j + 1) (by simp; omega); simpa [Nat.add_assoc, Nat.add_comm 1 j] using this) hB' hK)

/-- What is left of a region, in the held form: from number k on, all of it, steadily. -/
theorem held_steady {Q : Exit → Act → World → Prop} {a : Act} {w : World} {listed : Array Bool} {l : List Oper} {fuel : Nat} (k : Nat) (hsel : Region.noSelect l.toArray = true) (hf : fuel = (l.drop k).length) (hB : lexAll md l.toArray (l.drop k).length k listed = true) (hS : S w)
    (h : wpSteady P l.toArray S (fun a' => ∀ w', S w' → Q .normal a' w') (l.drop k) a) : wpAnyH P md l.toArray Q S fuel listed a w := by
  subst hf
  exact held_of_full (fun a h w hS => h w hS) _ listed a (fullS_lex hsel (l.drop k) k listed a (fun j hj => by simp [List.getElem?_drop]) hB h) w hS
end
end Go.Proofs.YtbalcbnlpgekaaaDoor
