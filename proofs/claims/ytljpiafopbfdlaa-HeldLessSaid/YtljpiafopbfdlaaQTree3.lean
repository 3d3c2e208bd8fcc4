/- As Tree, where at several places two or three operations may come first. -/
import Derived.Test.YtljpiafopbfdlaaQAs
namespace Go.Proofs.Ytljpiafopbfdlaa
open Go.RowKit
set_option linter.unusedVariables false
section
variable {P : Program} {ops : Array Oper} {md : Region.Mode} {F : (World → Prop) → Prop}
/-- One behind the other to the end; or so far, and then either of two, of three. -/
inductive OTree3 where
  | last (is : List (Nat × Bool)) : OTree3
  | fork (is : List (Nat × Bool)) (i j : Nat) (ti tj : OTree3) : OTree3
  | fork3 (is : List (Nat × Bool)) (i j k : Nat) (ti tj tk : OTree3) : OTree3
def OTree3.steps : OTree3 → Nat
  | .last is => is.length
  | .fork is _ _ ti _ => is.length + (ti.steps + 1)
  | .fork3 is _ _ _ ti _ _ => is.length + (ti.steps + 1)
def tree3B (md : Region.Mode) (ops : Array Oper) : OTree3 → Array Bool → Bool
  | .last is, listed => lexMix md ops is listed
  | .fork is i j ti tj, listed => lexMixK md ops is listed && (decide (Region.ready md ops (markAll is listed) = [i, j]) && (decide (i < ops.size) && (decide (j < ops.size) && (decide (ti.steps = tj.steps) &&
      (tree3B md ops ti ((markAll is listed).setIfInBounds i true) && tree3B md ops tj ((markAll is listed).setIfInBounds j true))))))
  | .fork3 is i j k ti tj tk, listed => lexMixK md ops is listed && (decide (Region.ready md ops (markAll is listed) = [i, j, k]) && (decide (i < ops.size) && (decide (j < ops.size) && (decide (k < ops.size) && (decide (ti.steps = tj.steps) && (decide (ti.steps = tk.steps) &&
      (tree3B md ops ti ((markAll is listed).setIfInBounds i true) && (tree3B md ops tj ((markAll is listed).setIfInBounds j true) && tree3B md ops tk ((markAll is listed).setIfInBounds k true)))))))))
def wpTree3 (P : Program) (ops : Array Oper) (F : (World → Prop) → Prop) (L : (World → Prop) → Act → Prop) : OTree3 → (World → Prop) → Act → Prop
  | .last is, S, a => wpMix P ops F L (pickOps ops.toList is) S a
  | .fork is i j ti tj, S, a => wpMix P ops F (fun S a => F S → wpMix P ops F (wpTree3 P ops F L ti) (pickOps ops.toList [(i, true)]) S a ∧ wpMix P ops F (wpTree3 P ops F L tj) (pickOps ops.toList [(j, true)]) S a) (pickOps ops.toList is) S a
  | .fork3 is i j k ti tj tk, S, a => wpMix P ops F (fun S a => F S → wpMix P ops F (wpTree3 P ops F L ti) (pickOps ops.toList [(i, true)]) S a ∧ wpMix P ops F (wpTree3 P ops F L tj) (pickOps ops.toList [(j, true)]) S a ∧ wpMix P ops F (wpTree3 P ops F L tk) (pickOps ops.toList [(k, true)]) S a) (pickOps ops.toList is) S a
theorem mixOp_turn {L : (World → Prop) → Act → Prop} {is : Nat} {S : World → Prop} {a : Act} {k : Nat} (hk : k < ops.size) (h : wpMix P ops F L (pickOps ops.toList [(k, true)]) S a) : mixOp P ops F k L S a := by
  have hi0 : ops[k]? = some (ops[k]'hk) := Array.getElem?_eq_getElem hk
  generalize ops[k]'hk = o at hi0
  have hi1 : ops.toList[k]? = some o := by simpa using hi0
  simp only [pickOps, hi1] at h
  unfold mixOp
  simp only [hi0]
  exact .inr h
theorem mixAll_tree3 {L : (World → Prop) → Act → Prop} (hsel : Region.noSelect ops = true) : ∀ (t : OTree3) (listed : Array Bool) (S : World → Prop) (a : Act), F S → tree3B md ops t listed = true → wpTree3 P ops F L t S a → mixAll P md ops F L t.steps listed S a
  | .last is, listed, S, a, hF, hB, h => mixAll_lex hsel is listed S a hF hB h
  | .fork is i j ti tj, listed, S, a, hF, hB, h => by
    simp only [tree3B, Bool.and_eq_true, decide_eq_true_eq] at hB
    obtain ⟨hlex, hready, hi, hj, hst, hti, htj⟩ := hB
    refine mixAll_lexK hsel is listed S a hF hlex (wpMix_mono (fun S a hF hh => ?_) _ S a hF h)
    obtain ⟨h1, h2⟩ := hh hF
    refine ⟨fun h0 => (by rw [hready] at h0; cases h0), fun k hk => ?_⟩
    rw [hready] at hk
    simp only [List.mem_cons, List.not_mem_nil, or_false] at hk
    rcases hk with rfl | rfl
    · exact mixOp_mono hF (fun S' a' hF' hk' => mixAll_tree3 hsel ti _ S' a' hF' hti hk') (mixOp_turn (is := 0) hi h1)
    · rw [hst]
      exact mixOp_mono hF (fun S' a' hF' hk' => mixAll_tree3 hsel tj _ S' a' hF' htj hk') (mixOp_turn (is := 0) hj h2)
  | .fork3 is i j k ti tj tk, listed, S, a, hF, hB, h => by
    simp only [tree3B, Bool.and_eq_true, decide_eq_true_eq] at hB
    obtain ⟨hlex, hready, hi, hj, hk, hst, hst2, hti, htj, htk⟩ := hB
    refine mixAll_lexK hsel is listed S a hF hlex (wpMix_mono (fun S a hF hh => ?_) _ S a hF h)
    obtain ⟨h1, h2, h3⟩ := hh hF
    refine ⟨fun h0 => (by rw [hready] at h0; cases h0), fun m hm => ?_⟩
    rw [hready] at hm
    simp only [List.mem_cons, List.not_mem_nil, or_false] at hm
    rcases hm with rfl | rfl | rfl
    · exact mixOp_mono hF (fun S' a' hF' hk' => mixAll_tree3 hsel ti _ S' a' hF' hti hk') (mixOp_turn (is := 0) hi h1)
    · rw [hst]
      exact mixOp_mono hF (fun S' a' hF' hk' => mixAll_tree3 hsel tj _ S' a' hF' htj hk') (mixOp_turn (is := 0) hj h2)
    · rw [hst2]
      exact mixOp_mono hF (fun S' a' hF' hk' => mixAll_tree3 hsel tk _ S' a' hF' htk hk') (mixOp_turn (is := 0) hk h3)
def tree3Ok (ops : Array Oper) (t : OTree3) : Bool := Region.noSelect ops && (decide (t.steps = ops.size) && tree3B .any ops t (Array.replicate ops.size false))
theorem region_tree3 {id : Nat} {Q : Exit → Act → World → Prop} {a : Act} {w : World} {l : List Oper} (B : World → Prop) (t : OTree3) (hm : P.follows .mixedOrders = true) (hB : tree3Ok l.toArray t = true)
    (S : World → Prop) (hF : Fam B S) (hS : S w.drew)
    (h : wpTree3 P l.toArray (Fam B) (fun S' a' => ∀ w', S' w' → Q .normal a' w') t S a) : (Code.region id l.toArray true).wp P Q a w := by
  unfold tree3Ok at hB
  simp only [Bool.and_eq_true, decide_eq_true_eq] at hB
  obtain ⟨hsel, hlen, ht⟩ := hB
  refine wp_region_any hm ?_
  have := any_of_mix (Q := Q) (fun S' a' hL w' hw => hL w' hw) t.steps _ S a hF (mixAll_tree3 (md := .any) hsel t _ S a hF ht h) w.drew hS
  rw [hlen] at this
  exact this
end

end Go.Proofs.Ytljpiafopbfdlaa
