/- As XMix, where at several places two operations may come, either first: a tree of orders. A region that draws its order, inside the wide fence and inside a round: reads ahead, then one behind the other; or one way of taking its operations. -/
import Derived.Test.YtljpiafopbfdlaaQAr
import Derived.OrdersIn
import Derived.StillTail
import Derived.Test.YtljpiafopbfdlaaGen
namespace Go.Proofs.Ytljpiafopbfdlaa
open Go.RowKit
set_option linter.unusedVariables false

section
variable {P : Program} {ops : Array Oper} {md : Region.Mode} {F : (World → Prop) → Prop}
/-- One behind the other to the end; or so far, and then either of two. -/
inductive OTree where
  | last (is : List (Nat × Bool)) : OTree
  | fork (is : List (Nat × Bool)) (i j : Nat) (ti tj : OTree) : OTree
def OTree.steps : OTree → Nat
  | .last is => is.length
  | .fork is _ _ ti _ => is.length + (ti.steps + 1)
def treeB (md : Region.Mode) (ops : Array Oper) : OTree → Array Bool → Bool
  | .last is, listed => lexMix md ops is listed
  | .fork is i j ti tj, listed => lexMixK md ops is listed && (decide (Region.ready md ops (markAll is listed) = [i, j]) && (decide (i < ops.size) && (decide (j < ops.size) && (decide (ti.steps = tj.steps) &&
      (treeB md ops ti ((markAll is listed).setIfInBounds i true) && treeB md ops tj ((markAll is listed).setIfInBounds j true))))))
def wpTree (P : Program) (ops : Array Oper) (F : (World → Prop) → Prop) (L : (World → Prop) → Act → Prop) : OTree → (World → Prop) → Act → Prop
  | .last is, S, a => wpMix P ops F L (pickOps ops.toList is) S a
  | .fork is i j ti tj, S, a => wpMix P ops F (fun S a => F S → wpMix P ops F (wpTree P ops F L ti) (pickOps ops.toList [(i, true)]) S a ∧ wpMix P ops F (wpTree P ops F L tj) (pickOps ops.toList [(j, true)]) S a) (pickOps ops.toList is) S a
theorem wpMix_mono {L L' : (World → Prop) → Act → Prop} (hL : ∀ S a, F S → L S a → L' S a) : ∀ (os : List (Oper × Bool)) (S : World → Prop) (a : Act), F S → wpMix P ops F L os S a → wpMix P ops F L' os S a
  | [], S, a, hF, h => hL S a hF h
  | (o, false) :: os, S, a, hF, h => by
    obtain ⟨v, hy, hK⟩ := h
    exact ⟨v, hy, wpMix_mono hL os _ _ hF hK⟩
  | (o, true) :: os, S, a, hF, h => TurnAt.mono (fun S' a' hF' hk' => wpMix_mono hL os _ _ hF' hk') h
theorem mixAll_tree {L : (World → Prop) → Act → Prop} (hsel : Region.noSelect ops = true) : ∀ (t : OTree) (listed : Array Bool) (S : World → Prop) (a : Act), F S → treeB md ops t listed = true → wpTree P ops F L t S a → mixAll P md ops F L t.steps listed S a
  | .last is, listed, S, a, hF, hB, h => mixAll_lex hsel is listed S a hF hB h
  | .fork is i j ti tj, listed, S, a, hF, hB, h => by
    simp only [treeB, Bool.and_eq_true, decide_eq_true_eq] at hB
    obtain ⟨hlex, hready, hi, hj, hst, hti, htj⟩ := hB
    refine mixAll_lexK hsel is listed S a hF hlex (wpMix_mono (fun S a hF hh => ?_) _ S a hF h)
    obtain ⟨h1, h2⟩ := hh hF
    have hi0 : ops[i]? = some (ops[i]'hi) := Array.getElem?_eq_getElem hi
    have hj0 : ops[j]? = some (ops[j]'hj) := Array.getElem?_eq_getElem hj
    refine ⟨fun h0 => (by rw [hready] at h0; cases h0), fun k hk => ?_⟩
    rw [hready] at hk
    simp only [List.mem_cons, List.not_mem_nil, or_false] at hk
    rcases hk with rfl | rfl
    · generalize ops[k]'hi = o at hi0
      have hi1 : ops.toList[k]? = some o := by simpa using hi0
      simp only [pickOps, hi1] at h1
      unfold mixOp
      simp only [hi0]
      exact .inr (TurnAt.mono (fun S' a' hF' hk' => mixAll_tree hsel ti _ S' a' hF' hti hk') h1)
    · generalize ops[k]'hj = o at hj0
      have hj1 : ops.toList[k]? = some o := by simpa using hj0
      simp only [pickOps, hj1] at h2
      unfold mixOp
      simp only [hj0]
      rw [hst]
      exact .inr (TurnAt.mono (fun S' a' hF' hk' => mixAll_tree hsel tj _ S' a' hF' htj hk') h2)
def treeOk (ops : Array Oper) (t : OTree) : Bool := Region.noSelect ops && (decide (t.steps = ops.size) && treeB .any ops t (Array.replicate ops.size false))
theorem region_tree {id : Nat} {Q : Exit → Act → World → Prop} {a : Act} {w : World} {l : List Oper} (B : World → Prop) (t : OTree) (hm : P.follows .mixedOrders = true) (hB : treeOk l.toArray t = true)
    (S : World → Prop) (hF : Fam B S) (hS : S w.drew)
    (h : wpTree P l.toArray (Fam B) (fun S' a' => ∀ w', S' w' → Q .normal a' w') t S a) : (Code.region id l.toArray true).wp P Q a w := by
  unfold treeOk at hB
  simp only [Bool.and_eq_true, decide_eq_true_eq] at hB
  obtain ⟨hsel, hlen, ht⟩ := hB
  refine wp_region_any hm ?_
  have := any_of_mix (Q := Q) (fun S' a' hL w' hw => hL w' hw) t.steps _ S a hF (mixAll_tree (md := .any) hsel t _ S a hF ht h) w.drew hS
  rw [hlen] at this
  exact this
end
end Go.Proofs.Ytljpiafopbfdlaa
namespace Go.Proofs.Ytljpiafopbfdlaa

set_option linter.unusedVariables false

theorem oper_wide {P : Program} (n : Nat) {o : Oper} {a : Act} {w : World} {K : Act → World → Prop} {Q : Exit → Act → World → Prop} (h : o.wp P a w K Q) : o.wpIn Fence.wide n P a w K Q := by
  unfold Oper.wp at h
  unfold Oper.wpIn
  refine ⟨fun _ _ => trivial, ?_⟩
  rw [show (Fence.wide.round) = none from rfl, Oper.semAt_none]
  generalize (execOp a.eval o).run P w = r at h
  cases r with
  | ok x w' =>
    cases x <;> simp only [Oper.upon, Oper.uponIn] at h ⊢ <;>
      first
        | exact h
        | exact h.elim
        | (refine ⟨fun e => by simp [Fence.wide] at e, callsIn_wide.2 (h.mono ?_)⟩
           intro e w'' q
           cases e <;> exact q)
        | exact ⟨fun e => by simp [Fence.wide] at e, fun c cs _ => let ⟨v, w'', r, s⟩ := h c cs; ⟨v, w'', r, stepsIn_wide.2 s⟩⟩
  | halt x w' => cases x <;> simp only [Oper.upon, Oper.uponIn] at h ⊢ <;> exact h

section
variable {P : Program} {ops : Array Oper} {md : Region.Mode} {w : World} {m : Nat}
theorem wpOpIn_of_stOp {i : Nat} {a : Act} {K : Act → Prop} {K' : Act → World → Prop} {Q' : Exit → Act → World → Prop} (h : ∀ a, K a → K' a w) (hh : stOp P ops w i K a) : wpOpIn Fence.wide m P ops Q' i K' a w := by
  unfold stOp at hh
  unfold wpOpIn
  split
  · rename_i ho; simp only [ho] at hh; exact h _ hh
  · rename_i o ho
    simp only [ho] at hh
    split
    · rename_i hw; simp only [hw, if_true] at hh; exact oper_wide m (Oper.wp_of_still h hh)
    · rename_i hw; simp only [hw] at hh; exact ⟨fun _ _ => trivial, h _ hh⟩
theorem anyIn_of_head {n g : Nat} {L : Array Bool → Act → Prop} {Q' : Exit → Act → World → Prop} (hL : ∀ listed a, L listed a → wpAnyIn Fence.wide m P md ops Q' g listed a w) :
    ∀ (f : Nat) (listed : Array Bool) (a : Act), wpAnyL P md ops w n L f listed a → wpAnyIn Fence.wide m P md ops Q' (f + g) listed a w
  | 0, listed, a, h => by rw [Nat.zero_add]; exact hL _ _ h
  | f + 1, listed, a, h => by
    rw [show f + 1 + g = (f + g) + 1 by omega]
    exact ⟨fun h0 => absurd h0 h.1, fun i hi => wpOpIn_of_stOp (fun a' h' => anyIn_of_head hL f _ a' h') (h.2 i hi).2⟩
theorem anyIn_of_seq {Q' : Exit → Act → World → Prop} : ∀ (l : List Oper) (k : Nat) (listed : Array Bool) (a : Act) (w : World), (∀ j, l[j]? = ops[k + j]?) →
    Region.seqB md ops l.length k listed = true → wpListIn Fence.wide m P ops Q' l a w → wpAnyIn Fence.wide m P md ops Q' l.length listed a w
  | [], _, _, _, _, _, hB, h => ⟨by simpa [Region.seqB] using hB, h⟩
  | o :: l, k, listed, a, w, hl, hB, h => by
    have h0 : ops[k]? = some o := by simpa using (hl 0).symm
    simp only [List.length_cons, Region.seqB, Bool.and_eq_true, decide_eq_true_eq] at hB
    refine ⟨fun h1 => (by rw [hB.1] at h1; cases h1), fun i hi => ?_⟩
    rw [hB.1] at hi
    have hik : i = k := by simpa using hi
    subst hik
    have hw : wpOpIn Fence.wide m P ops Q' i (wpListIn Fence.wide m P ops Q' l) a w := by unfold wpOpIn; simp only [h0]; exact h
    exact wpOpIn_mono (fun a' w' h' => anyIn_of_seq l (i + 1) _ a' w' (fun j => by have := hl (j + 1); simpa [Nat.add_assoc, Nat.add_comm 1 j] using this) hB.2 h') hw
end
/-- All operations ahead of the n-th only read; from there on each waits for the one ahead of it, and is walked inside the fence. -/
theorem region_wideIn {P : Program} (m id : Nat) {Q : Exit → Act → World → Prop} {a : Act} {w : World} {L : List Oper} (n : Nat) (hm : P.follows .mixedOrders = true) (hB : Region.lexTailB .any L.toArray n = true)
    (h : wpStill P L.toArray w.drew (fun a' => wpListIn Fence.wide m P L.toArray Q (L.drop n) a' w.drew) (L.take n) a) : (Code.region id L.toArray true).wpIn Fence.wide m P Q a w := by
  refine wpIn_region_any hm ?_
  simp only [Region.lexTailB, Bool.and_eq_true, decide_eq_true_eq] at hB
  obtain ⟨⟨⟨⟨b1, b2⟩, b3⟩, b4⟩, b5⟩ := hB
  have hn : n < L.length := by simpa using b2
  have e1 : (L.take n).length = n := by rw [List.length_take]; omega
  have e2 : (L.drop n).length = L.toArray.size - n := by simp
  have start : HeadInv .any L.toArray n (Array.replicate L.toArray.size false) :=
    { size := by simp
      closed := fun j oj _ hl => by rw [getD_replicate_false] at hl; cases hl
      tail := fun t _ ht => getD_in (by simpa using ht) (getD_replicate_false _ _) }
  have lex := wpAnyL_lex (md := .any) (g := L.toArray.size - n) b1 b3 b4 b2 (L.take n) 0 _ a (fun j hj => by rw [e1] at hj; simp [hj]) (by rw [e1, Nat.zero_add]) start (by rw [e1]; exact b5) h
  have all := anyIn_of_head (m := m) (Q' := Q) (g := L.toArray.size - n) (fun listed a' hL => by
    have s := anyIn_of_seq (m := m) (md := .any) (Q' := Q) (L.drop n) n listed a' w.drew (fun j => by rw [List.getElem?_drop, List.getElem?_toArray]) (by rw [e2]; exact hL.1) hL.2
    rw [e2] at s
    exact s) _ _ _ lex
  rw [e1, Nat.add_sub_cancel' (Nat.le_of_lt b2)] at all
  exact all
/-- One way of taking the operations (region_mix), inside a round. -/
theorem region_mixR {P : Program} (l' m : Nat) {id : Nat} {Q : Exit → Act → World → Prop} {a : Act} {w : World} {l : List Oper} (B : World → Prop) (is : List (Nat × Bool)) (hm : P.follows .mixedOrders = true) (hB : mixB l.toArray is = true) (hd : noDefer l.toArray = true) (hq : ¬ LetsOut Q)
    (S : World → Prop) (hF : Fam B S) (hS : S w.drew)
    (h : wpMix P l.toArray (Fam B) (fun S' a' => ∀ w', S' w' → Q .normal a' w') (pickOps l is) S a) : (Code.region id l.toArray true).wpIn (Fence.wide.inRound l') m P Q a w := by
  unfold mixB at hB
  simp only [Bool.and_eq_true, decide_eq_true_eq] at hB
  obtain ⟨hsel, hlen, hlex⟩ := hB
  refine wpIn_region_any hm (any_inRound l' m hd hq _ _ _ _ ?_)
  have := any_of_mix (Q := Q) (fun S' a' hL w' hw => hL w' hw) is.length _ S a hF (mixAll_lex (md := .any) hsel is _ S a hF hlex h) w.drew hS
  rw [hlen] at this
  exact this
end Go.Proofs.Ytljpiafopbfdlaa
