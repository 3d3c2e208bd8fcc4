/- As XMixT: the last operations are left to the plain walk; a call may leave by a panic. -/
import Derived.Test.YtegflmaobmibnaaGreatDoorQMixP
namespace Go.Proofs.YtegflmaobmibnaaGreatDoor
open Go.RowKit
set_option linter.unusedVariables false

section
variable {PZ : List PanicEntry → List Deferred → World → Prop} {P : Program} {ops : Array Oper} {md : Region.Mode} {F : (World → Prop) → Prop}

def mixHeadZ (PZ : List PanicEntry → List Deferred → World → Prop) (P : Program) (md : Region.Mode) (ops : Array Oper) (F : (World → Prop) → Prop) (L : Array Bool → (World → Prop) → Act → Prop) : Nat → Array Bool → (World → Prop) → Act → Prop
  | 0, listed, S, a => L listed S a
  | f + 1, listed, S, a => Region.ready md ops listed ≠ [] ∧ ∀ i ∈ Region.ready md ops listed, mixOpZ PZ P ops F i (mixHeadZ PZ P md ops F L f (listed.setIfInBounds i true)) S a
theorem any_of_headZ {Q : Exit → Act → World → Prop} (hQ : ∀ c a' w', PZ c a'.defers w' → Q (.panic c) a' w') {g : Nat} {L : Array Bool → (World → Prop) → Act → Prop} (hL : ∀ listed S a, L listed S a → ∀ w, S w → wpAny P md ops Q g listed a w) :
    ∀ (f : Nat) (listed : Array Bool) (S : World → Prop) (a : Act), F S → mixHeadZ PZ P md ops F L f listed S a → ∀ w, S w → wpAny P md ops Q (f + g) listed a w
  | 0, listed, S, a, _, h, w, hS => by rw [Nat.zero_add]; exact hL _ _ _ h w hS
  | f + 1, listed, S, a, hF, h, w, hS => by
    rw [show f + 1 + g = (f + g) + 1 by omega]
    exact ⟨fun h0 => absurd h0 h.1, fun i hi => wpOp_of_mixZ hQ hF hS (fun S' a' w' hF' h' hS' => any_of_headZ hQ hL f _ S' a' hF' h' w' hS') (h.2 i hi)⟩
theorem mixHead_firstZ {n i : Nat} {oi : Oper} {v : Value} {L : Array Bool → (World → Prop) → Act → Prop} (hi : ops[i]? = some oi) (hsel : ∀ (j : Nat) (o : Oper) cs b, ops[j]? = some o → o.op ≠ .select cs b)
    (hdir : directB md ops n = true) (hin : i < n) (hdone : ∀ listed S a, L listed S a → ∀ j ∈ Region.ready md ops listed, n ≤ j) :
    ∀ (f : Nat) (listed : Array Bool) (S : World → Prop) (a : Act), F S →
      (∀ j oj, ops[j]? = some oj → j ≠ i → listed.getD j true = false → (∀ e ∈ oj.after, Region.binds md e = true → e.on ≠ i) → oi.apart ops oj = true) →
      i ∈ Region.ready md ops listed → DetAt P ops F oi v a →
      mixHeadZ PZ P md ops F L f (listed.setIfInBounds i true) S (a.put oi.dst v) → mixHeadZ PZ P md ops F L (f + 1) listed S a := by
  intro f
  induction f with
  | zero =>
    intro listed S a hF hfree hr hy H
    have hun := (mem_ready.1 hr).1
    refine ⟨fun h => (by rw [h] at hr; cases hr), fun j hj => ?_⟩
    by_cases hji : j = i
    · subst hji; unfold mixOpZ; simp only [hi]; exact .inl ⟨v, hy, H⟩
    · exact absurd hj (direct_waits hdir hin (hdone _ _ _ H j (ready_mono hj hji)) hun)
  | succ f ih =>
    intro listed S a hF hfree hr hy H
    have hun := (mem_ready.1 hr).1
    refine ⟨fun h => (by rw [h] at hr; cases hr), fun j hj => ?_⟩
    by_cases hji : j = i
    · subst hji; unfold mixOpZ; simp only [hi]; exact .inl ⟨v, hy, H⟩
    · have h1 := H.2 j (ready_mono hj hji)
      obtain ⟨hjun, oj, hoj, hall⟩ := mem_ready.1 hj
      have hnot : ∀ e ∈ oj.after, Region.binds md e = true → e.on ≠ i := fun e he hb heq => by
        have h1 := hall e he hb
        rw [heq, getD_both hun] at h1
        cases h1
      have h2 := mixOp_putZ hoj (hfree j oj hoj hji hjun hnot) (fun cs b => hsel i oi cs b hi) (fun cs b => hsel j oj cs b hoj) hy h1
      refine mixOp_monoZ hF (fun S' a' hF' h3 => ih (listed.setIfInBounds j true) S' a' hF' (fun k ok hk hki hun' hno => hfree k ok hk hki ?_ hno) (ready_mono hr (Ne.symm hji)) h3.1 ?_) h2
      · by_cases hjk : j = k
        · subst hjk; exact hjun
        · rw [getD_set_ne true hjk] at hun'; exact hun'
      · rw [Array.setIfInBounds_comm _ _ hji]
        exact h3.2

theorem mixHead_lexZ {n g : Nat} {Lq : (World → Prop) → Act → Prop} (hsel : Region.noSelect ops = true) (hdir : directB md ops n = true) :
    ∀ (is : List (Nat × Bool)) (listed : Array Bool) (S : World → Prop) (a : Act), F S → lexMixT md ops n g is listed = true → wpMixZ PZ P ops F Lq (pickOps ops.toList is) S a →
      mixHeadZ PZ P md ops F (fun listed' S' a' => Region.seqB md ops g n listed' = true ∧ Lq S' a') is.length listed S a
  | [], listed, S, a, _, hB, h => ⟨hB, h⟩
  | (k, b) :: is, listed, S, a, hF, hB, h => by
    simp only [lexMixT, Bool.and_eq_true, decide_eq_true_eq] at hB
    obtain ⟨⟨hkn, hk, hB1⟩, hB2⟩ := hB
    have h0 : ops[k]? = some (ops[k]'hk) := Array.getElem?_eq_getElem hk
    generalize ops[k]'hk = o at h0
    have h0' : ops.toList[k]? = some o := by simpa using h0
    simp only [pickOps, h0'] at h
    cases b with
    | false =>
      simp only [Bool.false_eq_true, if_false, Bool.and_eq_true] at hB1
      obtain ⟨v, hy, hK⟩ := h
      exact mixHead_firstZ h0 (Region.noSelect_spec hsel) hdir hkn (fun listed' S' a' hL => seqB_ready hL.1) is.length listed S a hF (Region.free_spec h0 hB1.2) (by simpa using hB1.1) hy (mixHead_lexZ hsel hdir is _ S _ hF hB2 hK)
    | true =>
      simp only [if_true, decide_eq_true_eq] at hB1
      refine ⟨fun h => (by rw [h] at hB1; cases hB1), fun j hj => ?_⟩
      rw [hB1] at hj
      obtain rfl : j = k := by simpa using hj
      unfold mixOpZ
      simp only [h0]
      exact .inr (TurnAtZ.mono (fun S' a' hF' hk' => mixHead_lexZ hsel hdir is _ S' a' hF' hB2 hk') h)

theorem region_mixtZ {id : Nat} (PZ : List PanicEntry → List Deferred → World → Prop) {Q : Exit → Act → World → Prop} (hQ : ∀ c a' w', PZ c a'.defers w' → Q (.panic c) a' w') {a : Act} {w : World} {l : List Oper} (B : World → Prop) (is : List (Nat × Bool)) (g n : Nat) (hm : P.follows .mixedOrders = true) (hn : n = is.length) (hB : mixTB l.toArray is g = true)
    (S : World → Prop) (hF : Fam B S) (hS : S w.drew)
    (h : wpMixZ PZ P l.toArray (Fam B) (fun S' a' => ∀ w', S' w' → wpList P l.toArray Q (l.drop n) a' w') (pickOps l is) S a) : (Code.region id l.toArray true).wp P Q a w := by
  subst hn
  unfold mixTB at hB
  simp only [Bool.and_eq_true, decide_eq_true_eq] at hB
  obtain ⟨hsel, hlen, hdir, hlex⟩ := hB
  have hdl : (l.drop is.length).length = g := by rw [List.length_drop]; have : l.toArray.size = l.length := by simp
                                                 omega
  refine wp_region_any hm ?_
  have := any_of_headZ (PZ := PZ) (Q := Q) (g := g) hQ (fun listed' S' a' hL w' hw => by
    have := wpAny_of_seq (md := .any) (Q' := Q) (l.drop is.length) is.length listed' a' w' (fun j => by simp [List.getElem?_drop]) (by rw [hdl]; exact hL.1) (hL.2 w' hw)
    rwa [hdl] at this) is.length _ S a hF (mixHead_lexZ (md := .any) hsel hdir is _ S a hF hlex h) w.drew hS
  rw [hlen] at this
  exact this
end
end Go.Proofs.YtegflmaobmibnaaGreatDoor
