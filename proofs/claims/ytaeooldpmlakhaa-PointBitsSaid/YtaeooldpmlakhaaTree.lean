/- As XMix, where at several places two operations may come, either first: a tree of orders. -/
import Derived.Test.YtaeooldpmlakhaaFork
namespace Go.Proofs.Ytaeooldpmlakhaa
open Go.RowKit
set_option linter.unusedVariables false

section
variable {P : Program} {ops : Array Oper} {md : Region.Mode} {F : (World → Prop) → Prop}
/-- One behind the other to the end; or so far, and then either of two. -/
inductive OTree where
  | last (is : List (Nat × Bool)) : OTree
  | fork (is : List (Nat × Bool)) (i j : Nat) (ti tj : OTree) : OTree
def OTree.steps : OTree → Nat
  | .last is => is.length
  | .fork is _ _ ti _ => is.length + (ti.steps + 1)
def treeB (md : Region.Mode) (ops : Array Oper) : OTree → Array Bool → Bool
  | .last is, listed => lexMix md ops is listed
  | .fork is i j ti tj, listed => lexMixK md ops is listed && (decide (Region.ready md ops (markAll is listed) = [i, j]) && (decide (i < ops.size) && (decide (j < ops.size) && (decide (ti.steps = tj.steps) &&
      (treeB md ops ti ((markAll is listed).setIfInBounds i true) && treeB md ops tj ((markAll is listed).setIfInBounds j true))))))
def wpTree (P : Program) (ops : Array Oper) (F : (World → Prop) → Prop) (L : (World → Prop) → Act → Prop) : OTree → (World → Prop) → Act → Prop
  | .last is, S, a => wpMix P ops F L (pickOps ops.toList is) S a
  | .fork is i j ti tj, S, a => wpMix P ops F (fun S a => F S → wpMix P ops F (wpTree P ops F L ti) (pickOps ops.toList [(i, true)]) S a ∧ wpMix P ops F (wpTree P ops F L tj) (pickOps ops.toList [(j, true)]) S a) (pickOps ops.toList is) S a
theorem wpMix_mono {L L' : (World → Prop) → Act → Prop} (hL : ∀ S a, F S → L S a → L' S a) : ∀ (os : List (Oper × Bool)) (S : World → Prop) (a : Act), F S → wpMix P ops F L os S a → wpMix P ops F L' os S a
  | [], S, a, hF, h => hL S a hF h
  | (o, false) :: os, S, a, hF, h => by
    obtain ⟨v, hy, hK⟩ := h
    exact ⟨v, hy, wpMix_mono hL os _ _ hF hK⟩
  | (o, true) :: os, S, a, hF, h => TurnAt.mono (fun S' a' hF' hk' => wpMix_mono hL os _ _ hF' hk') h
theorem mixAll_tree {L : (World → Prop) → Act → Prop} (hsel : Region.noSelect ops = true) : ∀ (t : OTree) (listed : Array Bool) (S : World → Prop) (a : Act), F S → treeB md ops t listed = true → wpTree P ops F L t S a → mixAll P md ops F L t.steps listed S a
  | .last is, listed, S, a, hF, hB, h => mixAll_lex hsel is listed S a hF hB h
  | .fork is i j ti tj, listed, S, a, hF, hB, h => by
    simp only [treeB, Bool.and_eq_true, decide_eq_true_eq] at hB
    obtain ⟨hlex, hready, hi, hj, hst, hti, htj⟩ := hB
    refine mixAll_lexK hsel is listed S a hF hlex (wpMix_mono (fun S a hF hh => ?_) _ S a hF h)
    obtain ⟨h1, h2⟩ := hh hF
    have hi0 : ops[i]? = some (ops[i]'hi) := Array.getElem?_eq_getElem hi
    have hj0 : ops[j]? = some (ops[j]'hj) := Array.getElem?_eq_getElem hj
    refine ⟨fun h0 => (by rw [hready] at h0; cases h0), fun k hk => ?_⟩
    rw [hready] at hk
    simp only [List.mem_cons, List.not_mem_nil, or_false] at hk
    rcases hk with rfl | rfl
    · generalize ops[k]'hi = o at hi0
      have hi1 : ops.toList[k]? = some o := by simpa using hi0
      simp only [pickOps, hi1] at h1
      unfold mixOp
      simp only [hi0]
      exact .inr (TurnAt.mono (fun S' a' hF' hk' => mixAll_tree hsel ti _ S' a' hF' hti hk') h1)
    · generalize ops[k]'hj = o at hj0
      have hj1 : ops.toList[k]? = some o := by simpa using hj0
      simp only [pickOps, hj1] at h2
      unfold mixOp
      simp only [hj0]
      rw [hst]
      exact .inr (TurnAt.mono (fun S' a' hF' hk' => mixAll_tree hsel tj _ S' a' hF' htj hk') h2)
def treeOk (ops : Array Oper) (t : OTree) : Bool := Region.noSelect ops && (decide (t.steps = ops.size) && treeB .any ops t (Array.replicate ops.size false))
theorem region_tree {id : Nat} {Q : Exit → Act → World → Prop} {a : Act} {w : World} {l : List Oper} (B : World → Prop) (t : OTree) (hm : P.follows .mixedOrders = true) (hB : treeOk l.toArray t = true)
    (S : World → Prop) (hF : Fam B S) (hS : S w.drew)
    (h : wpTree P l.toArray (Fam B) (fun S' a' => ∀ w', S' w' → Q .normal a' w') t S a) : (Code.region id l.toArray true).wp P Q a w := by
  unfold treeOk at hB
  simp only [Bool.and_eq_true, decide_eq_true_eq] at hB
  obtain ⟨hsel, hlen, ht⟩ := hB
  refine wp_region_any hm ?_
  have := any_of_mix (Q := Q) (fun S' a' hL w' hw => hL w' hw) t.steps _ S a hF (mixAll_tree (md := .any) hsel t _ S a hF ht h) w.drew hS
  rw [hlen] at this
  exact this
end
end Go.Proofs.Ytaeooldpmlakhaa
