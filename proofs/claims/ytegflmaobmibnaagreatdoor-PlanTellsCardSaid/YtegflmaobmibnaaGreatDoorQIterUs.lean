/- A range over an iterator with cells of its own, whose head leaves the world; a region that draws its order within a round: as region_mixt. -/
import Derived.Test.YtegflmaobmibnaaGreatDoorQIterU
namespace Go.Proofs.YtegflmaobmibnaaGreatDoor
open Go.RowKit
set_option linter.unusedVariables false

section
variable {P : Program} {ops : Array Oper} {md : Region.Mode} {F : (World → Prop) → Prop}
theorem region_mixtR {id : Nat} (l0 m : Nat) {Q : Exit → Act → World → Prop} {a : Act} {w : World} {l : List Oper} (B : World → Prop) (is : List (Nat × Bool)) (g n : Nat) (hm : P.follows .mixedOrders = true) (hd : noDefer l.toArray = true) (hq : ¬ LetsOut Q) (hn : n = is.length) (hB : mixTB l.toArray is g = true)
    (S : World → Prop) (hF : Fam B S) (hS : S w.drew)
    (h : wpMix P l.toArray (Fam B) (fun S' a' => ∀ w', S' w' → wpList P l.toArray Q (l.drop n) a' w') (pickOps l is) S a) : (Code.region id l.toArray true).wpIn (Fence.wide.inRound l0) m P Q a w := by
  subst hn
  unfold mixTB at hB
  simp only [Bool.and_eq_true, decide_eq_true_eq] at hB
  obtain ⟨hsel, hlen, hdir, hlex⟩ := hB
  have hdl : (l.drop is.length).length = g := by rw [List.length_drop]; have : l.toArray.size = l.length := by simp
                                                 omega
  refine wpIn_region_any hm (any_inRound l0 m hd hq _ _ _ _ ?_)
  have := any_of_head (Q := Q) (g := g) (fun listed' S' a' hL w' hw => by
    have := wpAny_of_seq (md := .any) (Q' := Q) (l.drop is.length) is.length listed' a' w' (fun j => by simp [List.getElem?_drop]) (by rw [hdl]; exact hL.1) (hL.2 w' hw)
    rwa [hdl] at this) is.length _ S a hF (mixHead_lex (md := .any) hsel hdir is _ S a hF hlex h) w.drew hS
  rw [hlen] at this
  exact this
end
section
variable {α : Type} {P : Program}
theorem range_iterUs {g : Operand} {ps : Array Tmp} {assign body : Code} {Q : Exit → Act → World → Prop} {a : Act} {w w0 : World} {n gf : Nat} {lb : Array Value} {enc : α → Array Value} {xs : List α} {R : Nat → Prop} (asg : α → Act)
    (hg : a.eval g = .func (.func gf) #[] lb) (eg : ∀ args w, (callFunc gf args).run P w = .ok (.enter gf args) w) (hit : IterU P gf lb enc xs R w0) (hw0 : Keeps R w0 w) (hRl : ∀ k, R k → k < w.heap.size) (hps : ∀ x, (enc x).size = ps.size) (h1 : 1 ≤ n)
    (I : (Nat → Prop) → Nat → World → Prop) (Ix : Code → (Nat → Prop) → World → Prop) (hI : Safe w.heap.size I) (hIx : ∀ c, Safe w.heap.size (fun U (_ : Unit) => Ix c U)) (h0 : I (fun _ => False) 0 w)
    (hassign : ∀ (l : Nat) (j : Nat) (x : α) (W : World) (K : Act → World → Prop), K (asg x) W → assign.wpIn (Fence.wide.inRound l) 3 P (Exit.then K (fun _ _ _ => False)) { tmps := (ps.zip (enc x)).foldl (fun t (p, v) => t.setIfInBounds p v) a.tmps, defers := [] } W)
    (hbody : ∀ (l : Nat) (U : Nat → Prop) (j : Nat) (x : α) (W : World), w.heap.size ≤ l → xs[j]? = some x → I U j W → (∀ k, U k → k < W.heap.size) → body.wpIn (Fence.wide.inRound l) 3 P (iterPostU R w.heap.size I Ix U j W) (asg x) W)
    (hdone : ∀ (D : Nat) (U : Nat → Prop) (W : World), w.heap.size ≤ D → ¬ U D → I U xs.length W → W.heap[D]? = some (.deferred (some [])) → Q .normal { a with defers := { target := .collected D, args := #[] } :: a.defers } W)
    (hstop : ∀ (D : Nat) (c : Code) (U : Nat → Prop) (W : World), w.heap.size ≤ D → ¬ U D → Ix c U W → W.heap[D]? = some (.deferred (some [])) → c.wpIn Fence.wide n P Q { a with defers := { target := .collected D, args := #[] } :: a.defers } W) :
    (Code.rangeFunc g ps assign body).wpIn Fence.wide n P Q a w :=
  range_iterU hg eg hit hw0 hRl hps h1 I Ix hI hIx h0 (fun U j x a' W => a' = asg x ∧ I U j W) (fun j x a' U s W W' hs ht => ⟨hs.1, hI _ _ _ _ hs.2 ht⟩)
    (fun l U j x W K hx hi hs hu hK => hassign l j x W K (hK _ _ U (Grew.refl hu (Nat.le_refl _)) (Kept.below (Below.refl _ _)) ⟨rfl, hi⟩)) (fun l U j x a' W hl hx hi hu => by obtain ⟨rfl, hi⟩ := hi; exact hbody l U j x W hl hx hi hu) hdone hstop
end
end Go.Proofs.YtegflmaobmibnaaGreatDoor
