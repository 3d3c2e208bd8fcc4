/- As XMix, where at one place two operations may come, either first: two ways. -/
import Derived.Test.YtaeooldpmlakhaaGen
namespace Go.Proofs.Ytaeooldpmlakhaa
open Go.RowKit
set_option linter.unusedVariables false

section
variable {P : Program} {ops : Array Oper} {md : Region.Mode} {F : (World → Prop) → Prop}
def markAll : List (Nat × Bool) → Array Bool → Array Bool
  | [], listed => listed
  | (k, _) :: is, listed => markAll is (listed.setIfInBounds k true)
def lexMixK (md : Region.Mode) (ops : Array Oper) : List (Nat × Bool) → Array Bool → Bool
  | [], _ => true
  | (k, b) :: is, listed => decide (k < ops.size) && (if b then decide (Region.ready md ops listed = [k]) else (Region.ready md ops listed).contains k && Region.free md ops listed k) && lexMixK md ops is (listed.setIfInBounds k true)
theorem mixAll_lexK {L : (World → Prop) → Act → Prop} {f : Nat} (hsel : Region.noSelect ops = true) :
    ∀ (is : List (Nat × Bool)) (listed : Array Bool) (S : World → Prop) (a : Act), F S → lexMixK md ops is listed = true → wpMix P ops F (mixAll P md ops F L f (markAll is listed)) (pickOps ops.toList is) S a → mixAll P md ops F L (is.length + f) listed S a
  | [], listed, S, a, _, hB, h => by rw [List.length_nil, Nat.zero_add]; exact h
  | (k, b) :: is, listed, S, a, hF, hB, h => by
    simp only [lexMixK, Bool.and_eq_true, decide_eq_true_eq] at hB
    obtain ⟨⟨hk, hB1⟩, hB2⟩ := hB
    have h0 : ops[k]? = some (ops[k]'hk) := Array.getElem?_eq_getElem hk
    generalize ops[k]'hk = o at h0
    have h0' : ops.toList[k]? = some o := by simpa using h0
    simp only [pickOps, h0'] at h
    rw [show ((k, b) :: is).length + f = (is.length + f) + 1 by simp; omega]
    cases b with
    | false =>
      simp only [Bool.false_eq_true, if_false, Bool.and_eq_true] at hB1
      obtain ⟨v, hy, hK⟩ := h
      exact mixAll_first h0 (Region.noSelect_spec hsel) (is.length + f) listed S a hF (Region.free_spec h0 hB1.2) (by simpa using hB1.1) hy (mixAll_lexK hsel is _ S _ hF hB2 hK)
    | true =>
      simp only [if_true, decide_eq_true_eq] at hB1
      refine ⟨fun h => (by rw [h] at hB1; cases hB1), fun j hj => ?_⟩
      rw [hB1] at hj
      obtain rfl : j = k := by simpa using hj
      unfold mixOp
      simp only [h0]
      exact .inr (TurnAt.mono (fun S' a' hF' hk' => mixAll_lexK hsel is _ S' a' hF' hB2 hk') h)
/-- The operations, the places of the fork, the two ways behind it. -/
def forkB (ops : Array Oper) (is : List (Nat × Bool)) (i j : Nat) (ra rb : List (Nat × Bool)) : Bool :=
  Region.noSelect ops && (decide (is.length + (ra.length + 1) = ops.size) && (decide (ra.length = rb.length) && (lexMixK .any ops is (Array.replicate ops.size false) && (decide (Region.ready .any ops (markAll is (Array.replicate ops.size false)) = [i, j]) && (decide (i < ops.size) && (decide (j < ops.size) &&
    (lexMix .any ops ra ((markAll is (Array.replicate ops.size false)).setIfInBounds i true) && lexMix .any ops rb ((markAll is (Array.replicate ops.size false)).setIfInBounds j true))))))))
theorem region_fork {id : Nat} {Q : Exit → Act → World → Prop} {a : Act} {w : World} {l : List Oper} (B : World → Prop) (is : List (Nat × Bool)) (i j : Nat) (ra rb : List (Nat × Bool)) (hm : P.follows .mixedOrders = true) (hB : forkB l.toArray is i j ra rb = true)
    (S : World → Prop) (hF : Fam B S) (hS : S w.drew)
    (h : wpMix P l.toArray (Fam B) (fun S' a' => Fam B S' → wpMix P l.toArray (Fam B) (fun S' a' => ∀ w', S' w' → Q .normal a' w') (pickOps l ((i, true) :: ra)) S' a' ∧ wpMix P l.toArray (Fam B) (fun S' a' => ∀ w', S' w' → Q .normal a' w') (pickOps l ((j, true) :: rb)) S' a') (pickOps l is) S a) :
    (Code.region id l.toArray true).wp P Q a w := by
  unfold forkB at hB
  simp only [Bool.and_eq_true, decide_eq_true_eq] at hB
  obtain ⟨hsel, hlen, hlen2, hlex, hready, hi, hj, hra, hrb⟩ := hB
  refine wp_region_any hm ?_
  have key : mixAll P .any l.toArray (Fam B) (fun S' a' => ∀ w', S' w' → Q .normal a' w') (is.length + (ra.length + 1)) (Array.replicate l.toArray.size false) S a := by
    refine mixAll_lexK hsel is _ S a hF hlex ?_
    have up : ∀ (os : List (Oper × Bool)) (S : World → Prop) (a : Act), Fam B S → wpMix P l.toArray (Fam B) (fun S' a' => Fam B S' → wpMix P l.toArray (Fam B) (fun S' a' => ∀ w', S' w' → Q .normal a' w') (pickOps l ((i, true) :: ra)) S' a' ∧ wpMix P l.toArray (Fam B) (fun S' a' => ∀ w', S' w' → Q .normal a' w') (pickOps l ((j, true) :: rb)) S' a') os S a →
        wpMix P l.toArray (Fam B) (mixAll P .any l.toArray (Fam B) (fun S' a' => ∀ w', S' w' → Q .normal a' w') (ra.length + 1) (markAll is (Array.replicate l.toArray.size false))) os S a := by
      intro os
      induction os with
      | nil =>
        intro S a hF hh
        obtain ⟨h1, h2⟩ := hh hF
        refine ⟨fun h0 => (by rw [hready] at h0; cases h0), fun k hk => ?_⟩
        rw [hready] at hk
        have hi0 : l[i]? = some (l[i]'(by simpa using hi)) := List.getElem?_eq_getElem _
        have hj0 : l[j]? = some (l[j]'(by simpa using hj)) := List.getElem?_eq_getElem _
        simp only [pickOps, hi0] at h1
        simp only [pickOps, hj0] at h2
        unfold mixOp
        simp only [List.mem_cons, List.not_mem_nil, or_false] at hk
        rcases hk with rfl | rfl
        · simp only [List.getElem?_toArray, hi0]
          exact .inr (TurnAt.mono (fun S' a' hF' hk' => mixAll_lex (md := .any) hsel ra _ S' a' hF' hra hk') h1)
        · simp only [List.getElem?_toArray, hj0]
          rw [hlen2]
          exact .inr (TurnAt.mono (fun S' a' hF' hk' => mixAll_lex (md := .any) hsel rb _ S' a' hF' hrb hk') h2)
      | cons o os ih =>
        intro S a hF hh
        obtain ⟨o, b⟩ := o
        cases b with
        | false => obtain ⟨v, hy, hK⟩ := hh; exact ⟨v, hy, ih _ _ hF hK⟩
        | true => exact TurnAt.mono (fun S' a' hF' hk' => ih _ _ hF' hk') hh
    exact up _ _ _ hF h
  have := any_of_mix (Q := Q) (fun S' a' hL w' hw => hL w' hw) (is.length + (ra.length + 1)) _ S a hF key w.drew hS
  rw [hlen] at this
  exact this
end
end Go.Proofs.Ytaeooldpmlakhaa
