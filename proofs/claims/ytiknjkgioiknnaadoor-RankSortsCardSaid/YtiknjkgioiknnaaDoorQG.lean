/- As XMix, where at one place two operations may come, either first: two ways. As XMix, where at several places two operations may come, either first: a tree of orders. -/
import Derived.Test.YtiknjkgioiknnaaDoorGen
namespace Go.Proofs.YtiknjkgioiknnaaDoor
open Go.RowKit
set_option linter.unusedVariables false

section
variable {P : Program} {ops : Array Oper} {md : Region.Mode} {F : (World → Prop) → Prop}
def markAll : List (Nat × Bool) → Array Bool → Array Bool
  | [], listed => listed
  | (k, _) :: is, listed => markAll is (listed.setIfInBounds k true)
def lexMixK (md : Region.Mode) (ops : Array Oper) : List (Nat × Bool) → Array Bool → Bool
  | [], _ => true
  | (k, b) :: is, listed => decide (k < ops.size) && (if b then decide (Region.ready md ops listed = [k]) else (Region.ready md ops listed).contains k && Region.free md ops listed k) && lexMixK md ops is (listed.setIfInBounds k true)
theorem mixAll_lexK {L : (World → Prop) → Act → Prop} {f : Nat} (hsel : Region.noSelect ops = true) :
    ∀ (is : List (Nat × Bool)) (listed : Array Bool) (S : World → Prop) (a : Act), F S → lexMixK md ops is listed = true → wpMix P ops F (mixAll P md ops F L f (markAll is listed)) (pickOps ops.toList is) S a → mixAll P md ops F L (is.length + f) listed S a
  | [], listed, S, a, _, hB, h => by rw [List.length_nil, Nat.zero_add]; exact h
  | (k, b) :: is, listed, S, a, hF, hB, h => by
    simp only [lexMixK, Bool.and_eq_true, decide_eq_true_eq] at hB
    obtain ⟨⟨hk, hB1⟩, hB2⟩ := hB
    have h0 : ops[k]? = some (ops[k]'hk) := Array.getElem?_eq_getElem hk
    generalize ops[k]'hk = o at h0
    have h0' : ops.toList[k]? = some o := by simpa using h0
    simp only [pickOps, h0'] at h
    rw [show ((k, b) :: is).length + f = (is.length + f) + 1 by simp; omega]
    cases b with
    | false =>
      simp only [Bool.false_eq_true, if_false, Bool.and_eq_true] at hB1
      obtain ⟨v, hy, hK⟩ := h
      exact mixAll_first h0 (Region.noSelect_spec hsel) (is.length + f) listed S a hF (Region.free_spec h0 hB1.2) (by simpa using hB1.1) hy (mixAll_lexK hsel is _ S _ hF hB2 hK)
    | true =>
      simp only [if_true, decide_eq_true_eq] at hB1
      refine ⟨fun h => (by rw [h] at hB1; cases hB1), fun j hj => ?_⟩
      rw [hB1] at hj
      obtain rfl : j = k := by simpa using hj
      unfold mixOp
      simp only [h0]
      exact .inr (TurnAt.mono (fun S' a' hF' hk' => mixAll_lexK hsel is _ S' a' hF' hB2 hk') h)
/-- The operations, the places of the fork, the two ways behind it. -/
def forkB (ops : Array Oper) (is : List (Nat × Bool)) (i j : Nat) (ra rb : List (Nat × Bool)) : Bool :=
  Region.noSelect ops && (decide (is.length + (ra.length + 1) = ops.size) && (decide (ra.length = rb.length) && (lexMixK .any ops is (Array.replicate ops.size false) && (decide (Region.ready .any ops (markAll is (Array.replicate ops.size false)) = [i, j]) && (decide (i < ops.size) && (decide (j < ops.size) &&
    (lexMix .any ops ra ((markAll is (Array.replicate ops.size false)).setIfInBounds i true) && lexMix .any ops rb ((markAll is (Array.replicate ops.size false)).setIfInBounds j true))))))))
theorem region_fork {id : Nat} {Q : Exit → Act → World → Prop} {a : Act} {w : World} {l : List Oper} (B : World → Prop) (is : List (Nat × Bool)) (i j : Nat) (ra rb : List (Nat × Bool)) (hm : P.follows .mixedOrders = true) (hB : forkB l.toArray is i j ra rb = true)
    (S : World → Prop) (hF : Fam B S) (hS : S w.drew)
    (h : wpMix P l.toArray (Fam B) (fun S' a' => Fam B S' → wpMix P l.toArray (Fam B) (fun S' a' => ∀ w', S' w' → Q .normal a' w') (pickOps l ((i, true) :: ra)) S' a' ∧ wpMix P l.toArray (Fam B) (fun S' a' => ∀ w', S' w' → Q .normal a' w') (pickOps l ((j, true) :: rb)) S' a') (pickOps l is) S a) :
    (Code.region id l.toArray true).wp P Q a w := by
  unfold forkB at hB
  simp only [Bool.and_eq_true, decide_eq_true_eq] at hB
  obtain ⟨hsel, hlen, hlen2, hlex, hready, hi, hj, hra, hrb⟩ := hB
  refine wp_region_any hm ?_
  have key : mixAll P .any l.toArray (Fam B) (fun S' a' => ∀ w', S' w' → Q .normal a' w') (is.length + (ra.length + 1)) (Array.replicate l.toArray.size false) S a := by
    refine mixAll_lexK hsel is _ S a hF hlex ?_
    have up : ∀ (os : List (Oper × Bool)) (S : World → Prop) (a : Act), Fam B S → wpMix P l.toArray (Fam B) (fun S' a' => Fam B S' → wpMix P l.toArray (Fam B) (fun S' a' => ∀ w', S' w' → Q .normal a' w') (pickOps l ((i, true) :: ra)) S' a' ∧ wpMix P l.toArray (Fam B) (fun S' a' => ∀ w', S' w' → Q .normal a' w') (pickOps l ((j, true) :: rb)) S' a') os S a →
        wpMix P l.toArray (Fam B) (mixAll P .any l.toArray (Fam B) (fun S' a' => ∀ w', S' w' → Q .normal a' w') (ra.length + 1) (markAll is (Array.replicate l.toArray.size false))) os S a := by
      intro os
      induction os with
      | nil =>
        intro S a hF hh
        obtain ⟨h1, h2⟩ := hh hF
        refine ⟨fun h0 => (by rw [hready] at h0; cases h0), fun k hk => ?_⟩
        rw [hready] at hk
        have hi0 : l[i]? = some (l[i]'(by simpa using hi)) := List.getElem?_eq_getElem _
        have hj0 : l[j]? = some (l[j]'(by simpa using hj)) := List.getElem?_eq_getElem _
        simp only [pickOps, hi0] at h1
        simp only [pickOps, hj0] at h2
        unfold mixOp
        simp only [List.mem_cons, List.not_mem_nil, or_false] at hk
        rcases hk with rfl | rfl
        · simp only [List.getElem?_toArray, hi0]
          exact .inr (TurnAt.mono (fun S' a' hF' hk' => mixAll_lex (md := .any) hsel ra _ S' a' hF' hra hk') h1)
        · simp only [List.getElem?_toArray, hj0]
          rw [hlen2]
          exact .inr (TurnAt.mono (fun S' a' hF' hk' => mixAll_lex (md := .any) hsel rb _ S' a' hF' hrb hk') h2)
      | cons o os ih =>
        intro S a hF hh
        obtain ⟨o, b⟩ := o
        cases b with
        | false => obtain ⟨v, hy, hK⟩ := hh; exact ⟨v, hy, ih _ _ hF hK⟩
        | true => exact TurnAt.mono (fun S' a' hF' hk' => ih _ _ hF' hk') hh
    exact up _ _ _ hF h
  have := any_of_mix (Q := Q) (fun S' a' hL w' hw => hL w' hw) (is.length + (ra.length + 1)) _ S a hF key w.drew hS
  rw [hlen] at this
  exact this
end
end Go.Proofs.YtiknjkgioiknnaaDoor
namespace Go.Proofs.YtiknjkgioiknnaaDoor
open Go.RowKit
set_option linter.unusedVariables false

section
variable {P : Program} {ops : Array Oper} {md : Region.Mode} {F : (World → Prop) → Prop}
/-- One behind the other to the end; or so far, and then either of two. -/
inductive OTree where
  | last (is : List (Nat × Bool)) : OTree
  | fork (is : List (Nat × Bool)) (i j : Nat) (ti tj : OTree) : OTree
def OTree.steps : OTree → Nat
  | .last is => is.length
  | .fork is _ _ ti _ => is.length + (ti.steps + 1)
def treeB (md : Region.Mode) (ops : Array Oper) : OTree → Array Bool → Bool
  | .last is, listed => lexMix md ops is listed
  | .fork is i j ti tj, listed => lexMixK md ops is listed && (decide (Region.ready md ops (markAll is listed) = [i, j]) && (decide (i < ops.size) && (decide (j < ops.size) && (decide (ti.steps = tj.steps) &&
      (treeB md ops ti ((markAll is listed).setIfInBounds i true) && treeB md ops tj ((markAll is listed).setIfInBounds j true))))))
def wpTree (P : Program) (ops : Array Oper) (F : (World → Prop) → Prop) (L : (World → Prop) → Act → Prop) : OTree → (World → Prop) → Act → Prop
  | .last is, S, a => wpMix P ops F L (pickOps ops.toList is) S a
  | .fork is i j ti tj, S, a => wpMix P ops F (fun S a => F S → wpMix P ops F (wpTree P ops F L ti) (pickOps ops.toList [(i, true)]) S a ∧ wpMix P ops F (wpTree P ops F L tj) (pickOps ops.toList [(j, true)]) S a) (pickOps ops.toList is) S a
theorem wpMix_mono {L L' : (World → Prop) → Act → Prop} (hL : ∀ S a, F S → L S a → L' S a) : ∀ (os : List (Oper × Bool)) (S : World → Prop) (a : Act), F S → wpMix P ops F L os S a → wpMix P ops F L' os S a
  | [], S, a, hF, h => hL S a hF h
  | (o, false) :: os, S, a, hF, h => by
    obtain ⟨v, hy, hK⟩ := h
    exact ⟨v, hy, wpMix_mono hL os _ _ hF hK⟩
  | (o, true) :: os, S, a, hF, h => TurnAt.mono (fun S' a' hF' hk' => wpMix_mono hL os _ _ hF' hk') h
theorem mixAll_tree {L : (World → Prop) → Act → Prop} (hsel : Region.noSelect ops = true) : ∀ (t : OTree) (listed : Array Bool) (S : World → Prop) (a : Act), F S → treeB md ops t listed = true → wpTree P ops F L t S a → mixAll P md ops F L t.steps listed S a
  | .last is, listed, S, a, hF, hB, h => mixAll_lex hsel is listed S a hF hB h
  | .fork is i j ti tj, listed, S, a, hF, hB, h => by
    simp only [treeB, Bool.and_eq_true, decide_eq_true_eq] at hB
    obtain ⟨hlex, hready, hi, hj, hst, hti, htj⟩ := hB
    refine mixAll_lexK hsel is listed S a hF hlex (wpMix_mono (fun S a hF hh => ?_) _ S a hF h)
    obtain ⟨h1, h2⟩ := hh hF
    have hi0 : ops[i]? = some (ops[i]'hi) := Array.getElem?_eq_getElem hi
    have hj0 : ops[j]? = some (ops[j]'hj) := Array.getElem?_eq_getElem hj
    refine ⟨fun h0 => (by rw [hready] at h0; cases h0), fun k hk => ?_⟩
    rw [hready] at hk
    simp only [List.mem_cons, List.not_mem_nil, or_false] at hk
    rcases hk with rfl | rfl
    · generalize ops[k]'hi = o at hi0
      have hi1 : ops.toList[k]? = some o := by simpa using hi0
      simp only [pickOps, hi1] at h1
      unfold mixOp
      simp only [hi0]
      exact .inr (TurnAt.mono (fun S' a' hF' hk' => mixAll_tree hsel ti _ S' a' hF' hti hk') h1)
    · generalize ops[k]'hj = o at hj0
      have hj1 : ops.toList[k]? = some o := by simpa using hj0
      simp only [pickOps, hj1] at h2
      unfold mixOp
      simp only [hj0]
      rw [hst]
      exact .inr (TurnAt.mono (fun S' a' hF' hk' => mixAll_tree hsel tj _ S' a' hF' htj hk') h2)
def treeOk (ops : Array Oper) (t : OTree) : Bool := Region.noSelect ops && (decide (t.steps = ops.size) && treeB .any ops t (Array.replicate ops.size false))
theorem region_tree {id : Nat} {Q : Exit → Act → World → Prop} {a : Act} {w : World} {l : List Oper} (B : World → Prop) (t : OTree) (hm : P.follows .mixedOrders = true) (hB : treeOk l.toArray t = true)
    (S : World → Prop) (hF : Fam B S) (hS : S w.drew)
    (h : wpTree P l.toArray (Fam B) (fun S' a' => ∀ w', S' w' → Q .normal a' w') t S a) : (Code.region id l.toArray true).wp P Q a w := by
  unfold treeOk at hB
  simp only [Bool.and_eq_true, decide_eq_true_eq] at hB
  obtain ⟨hsel, hlen, ht⟩ := hB
  refine wp_region_any hm ?_
  have := any_of_mix (Q := Q) (fun S' a' hL w' hw => hL w' hw) t.steps _ S a hF (mixAll_tree (md := .any) hsel t _ S a hF ht h) w.drew hS
  rw [hlen] at this
  exact this
end
end Go.Proofs.YtiknjkgioiknnaaDoor
