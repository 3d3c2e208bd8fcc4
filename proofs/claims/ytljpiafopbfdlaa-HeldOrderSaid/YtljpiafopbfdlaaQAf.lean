/- A range over a function whose iterator keeps a state of its own in cells: what the loop knows is told with the blocks that are its own. Package join: the ports of a section, one by one. -/
import Derived.Test.YtljpiafopbfdlaaGen
import Derived.RangeFuncNested
import Derived.RangeFuncBound
import Derived.RangeFuncCalls
import Derived.RangeFuncLeaves
import Derived.RangeFuncBox
import Derived.Shelf.Abstract
import Derived.Shelf.RegionOpen
import Derived.WalkKit
import Derived.OwnWalkIn
import Derived.TacticsInMore
import Derived.LoopNIn
import Derived.LoopIn
import Derived.WalkMore
import Derived.Test.YtljpiafopbfdlaaQAe
namespace Go.Proofs.Ytljpiafopbfdlaa
open Go.RowKit
set_option linter.unusedVariables false

/-- What lies below B, and in the blocks U, lies as it lay. -/
structure Stays (B : Nat) (U : Nat → Prop) (W W' : World) : Prop where
  same : Same3 W W'
  size : W.heap.size ≤ W'.heap.size
  rest : ∀ (k : Nat) (o : Obj), W.heap[k]? = some o → (k < B ∨ U k) → W'.heap[k]? = some o
theorem Stays.mono {B C : Nat} {U : Nat → Prop} {W W' : World} (h : Stays C U W W') (hB : B ≤ C) : Stays B U W W' :=
  ⟨h.same, h.size, fun k o ho hk => h.rest k o ho (hk.imp (fun h => Nat.lt_of_lt_of_le h hB) id)⟩
theorem Stays.trans {B : Nat} {U : Nat → Prop} {W1 W2 W3 : World} (h : Stays B U W1 W2) (k : Stays B U W2 W3) : Stays B U W1 W3 :=
  ⟨h.same.trans k.same, Nat.le_trans h.size k.size, fun i o ho hi => k.rest i o (h.rest i o ho hi) hi⟩
theorem Stays.below {B : Nat} {U : Nat → Prop} {W W' : World} (h : Below W.heap.size W W') : Stays B U W W' :=
  ⟨⟨h.os, h.tape, h.output⟩, h.size, fun k o ho _ => (h.block k (Array.getElem?_eq_some_iff.1 ho).1).trans ho⟩
theorem Stays.put {B : Nat} {U : Nat → Prop} (W : World) {l : Nat} (o' : Obj) (hB : B ≤ l) (hU : ¬ U l) : Stays B U W (W.putObj l o') :=
  ⟨⟨rfl, rfl, rfl⟩, (grownBy_putObj' W l o').size, fun k x hk hn => (World.putObj_heap_other (fun e => by subst e; rcases hn with h | h; exact absurd h (by omega); exact hU h)).trans hk⟩
theorem Stays.set {B : Nat} {U : Nat → Prop} (W : World) {p : Addr} (v : Value) (hB : B ≤ p.block) (hU : ¬ U p.block) : Stays B U W (W.setCell p v) :=
  ⟨⟨rfl, rfl, rfl⟩, by simp [World.setCell], fun k x hk hn => (Below.heap_setCell W p v k (fun e => by subst e; rcases hn with h | h; exact absurd h (by omega); exact hU h)).trans hk⟩
theorem Stays.whole {B : Nat} {U : Nat → Prop} {W W' : World} (h : Stays B U W W') {g : Nat} {t : TypeId} {cs : List Value} (hw : Whole W g t cs) (hg : g < B ∨ U g) : Whole W' g t cs := h.rest g _ hw hg
/-- It goes on to hold as long as what lies below B, and in its own blocks, lies as it lay. -/
def Safe {β : Type} (B : Nat) (J : (Nat → Prop) → β → World → Prop) : Prop := ∀ U s W W', J U s W → Stays B U W W' → J U s W'
theorem Safe.and {β : Type} {B : Nat} {J K : (Nat → Prop) → β → World → Prop} (h : Safe B J) (k : Safe B K) : Safe B (fun U s W => J U s W ∧ K U s W) := fun U s W W' hp ht => ⟨h U s W W' hp.1 ht, k U s W W' hp.2 ht⟩
theorem Safe.pure {β : Type} {B : Nat} {F : (Nat → Prop) → β → Prop} : Safe B (fun U s (_ : World) => F U s) := fun _ _ _ _ h _ => h
theorem Safe.below {β : Type} {B n : Nat} {w : World} (hn : n ≤ B) (hw : n ≤ w.heap.size) : Safe B (fun _ (_ : β) W => Below n w W) := fun U s W W' h k =>
  ⟨k.same.1.trans h.os, k.same.2.1.trans h.tape, k.same.2.2.trans h.output, Nat.le_trans h.size k.size, fun i hi => by
    have hb := h.block i hi
    obtain ⟨o, ho⟩ : ∃ o, w.heap[i]? = some o := ⟨_, Array.getElem?_eq_getElem (by omega)⟩
    rw [ho] at hb ⊢
    exact k.rest i o hb (.inl (by omega))⟩
/-- What is not of the loop lies as it lay: the blocks R, and from B on all that are not its own. -/
structure Kept (R : Nat → Prop) (B : Nat) (U : Nat → Prop) (W W' : World) : Prop where
  size : W.heap.size ≤ W'.heap.size
  rest : ∀ (k : Nat) (o : Obj), W.heap[k]? = some o → (R k ∨ (B ≤ k ∧ ¬ U k)) → W'.heap[k]? = some o
theorem Kept.below {R : Nat → Prop} {B : Nat} {U : Nat → Prop} {W W' : World} (h : Below W.heap.size W W') : Kept R B U W W' :=
  ⟨h.size, fun k o ho _ => (h.block k (Array.getElem?_eq_some_iff.1 ho).1).trans ho⟩
theorem Kept.keeps {R : Nat → Prop} {B : Nat} {U : Nat → Prop} {W W' : World} (h : Kept R B U W W') : Keeps R W W' := fun k o hk ho => h.rest k o ho (.inl hk)
theorem Kept.whole {R : Nat → Prop} {B : Nat} {U : Nat → Prop} {W W' : World} (h : Kept R B U W W') {g : Nat} {t : TypeId} {cs : List Value} (hw : Whole W g t cs) (hB : B ≤ g) (hU : ¬ U g) : Whole W' g t cs := h.rest g _ hw (.inr ⟨hB, hU⟩)
theorem Kept.set {R : Nat → Prop} {B : Nat} {U : Nat → Prop} (W : World) {p : Addr} (v : Value) (hR : ¬ R p.block) (hp : p.block < B ∨ U p.block) : Kept R B U W (W.setCell p v) :=
  ⟨by simp [World.setCell], fun k x hk hn => (Below.heap_setCell W p v k (fun e => by subst e; rcases hn with h | h; exact hR h; rcases hp with q | q; exact absurd h.1 (by omega); exact h.2 q)).trans hk⟩
/-- A loop's own blocks have grown by new ones alone. -/
structure Grew (U U' : Nat → Prop) (W W' : World) : Prop where
  new : ∀ k, U' k → U k ∨ W.heap.size ≤ k
  lt : ∀ k, U' k → k < W'.heap.size
theorem Grew.refl {U : Nat → Prop} {W W' : World} (h : ∀ k, U k → k < W.heap.size) (hs : W.heap.size ≤ W'.heap.size) : Grew U U W W' := ⟨fun _ h => .inl h, fun k hk => Nat.lt_of_lt_of_le (h k hk) hs⟩
theorem Kept.trans {R : Nat → Prop} {B : Nat} {U U' : Nat → Prop} {W1 W2 W3 : World} (h : Kept R B U W1 W2) (g : Grew U U' W1 W2) (k : Kept R B U' W2 W3) : Kept R B U W1 W3 :=
  ⟨Nat.le_trans h.size k.size, fun i o ho hi => k.rest i o (h.rest i o ho hi) (hi.imp id fun hh => ⟨hh.1, fun hu => (g.new i hu).elim hh.2 fun hs => by have := (Array.getElem?_eq_some_iff.1 ho).1; omega⟩)⟩
theorem Grew.trans {U U' U'' : Nat → Prop} {W1 W2 W3 : World} (h : Grew U U' W1 W2) (hs : W1.heap.size ≤ W2.heap.size) (k : Grew U' U'' W2 W3) : Grew U U'' W1 W3 :=
  ⟨fun i hi => (k.new i hi).elim (h.new i) fun hh => .inr (by omega), k.lt⟩

section
variable {α : Type} {P : Program}
/-- The closure g, with what it has captured, gives the rows' elements one by one, in order, until a round says no; what it lays it may turn. -/
def IterU (P : Program) (g : Nat) (lb : Array Value) (enc : α → Array Value) (xs : List α) (R : Nat → Prop) (w0 : World) : Prop :=
  ∀ (l : Nat) (J : (Nat → Prop) → Nat → World → Prop) (Jx : (Nat → Prop) → World → Prop) (W : World), Keeps R w0 W → (∀ k, R k → k < W.heap.size) → Safe W.heap.size J → Safe W.heap.size (fun U (_ : Unit) => Jx U) →
    (∀ (U : Nat → Prop) (j : Nat) (x : α) (W1 : World), xs[j]? = some x → J U j W1 → (∀ k, U k → k < W1.heap.size) → YieldAt Fence.wide 3 P l (enc x) W1 fun e W' =>
      ∃ U', Grew U U' W1 W' ∧ Kept R W.heap.size U W1 W' ∧ ((e = .returned (.bool true) ∧ J U' (j + 1) W') ∨ (e = .returned (.bool false) ∧ Jx U' W'))) →
    J (fun _ => False) 0 W → Calls P g (#[.func (.yield l) #[] #[]] ++ lb) W fun e W' => (∃ v, e = .returned v) ∧ ∃ U, (∀ k, U k → k < W'.heap.size) ∧ (J U xs.length W' ∨ Jx U W')

/-- How a round may end: it goes on; or it leaves by a jump. -/
def iterPostU (R : Nat → Prop) (B : Nat) (I : (Nat → Prop) → Nat → World → Prop) (Ix : Code → (Nat → Prop) → World → Prop) (U : Nat → Prop) (j : Nat) (W : World) : Exit → Act → World → Prop
  | .normal, _, W' => ∃ U', Grew U U' W W' ∧ Kept R B U W W' ∧ I U' (j + 1) W'
  | .ret, _, W' => ∃ U', Grew U U' W W' ∧ Kept R B U W W' ∧ Ix .ret U' W'
  | .exit id, _, W' => ∃ U', Grew U U' W W' ∧ Kept R B U W W' ∧ Ix (.exit id) U' W'
  | .goto t, _, W' => ∃ U', Grew U U' W W' ∧ Kept R B U W W' ∧ Ix (.goto t) U' W'
  | .panic _, _, _ => False
  | .outgrown, _, _ => False

theorem range_iterU {g : Operand} {ps : Array Tmp} {assign body : Code} {Q : Exit → Act → World → Prop} {a : Act} {w w0 : World} {n gf : Nat} {lb : Array Value} {enc : α → Array Value} {xs : List α} {R : Nat → Prop}
    (hg : a.eval g = .func (.func gf) #[] lb) (eg : ∀ args w, (callFunc gf args).run P w = .ok (.enter gf args) w) (hit : IterU P gf lb enc xs R w0) (hw0 : Keeps R w0 w) (hRl : ∀ k, R k → k < w.heap.size) (hps : ∀ x, (enc x).size = ps.size) (h1 : 1 ≤ n)
    (I : (Nat → Prop) → Nat → World → Prop) (Ix : Code → (Nat → Prop) → World → Prop) (hI : Safe w.heap.size I) (hIx : ∀ c, Safe w.heap.size (fun U (_ : Unit) => Ix c U)) (h0 : I (fun _ => False) 0 w)
    (Ax : (Nat → Prop) → Nat → α → Act → World → Prop) (hAx : ∀ j x a', Safe w.heap.size (fun U (_ : Unit) W => Ax U j x a' W))
    (hassign : ∀ (l : Nat) (U : Nat → Prop) (j : Nat) (x : α) (W : World) (K : Act → World → Prop), xs[j]? = some x → I U j W → w.heap.size + 2 ≤ W.heap.size → (∀ k, U k → k < W.heap.size) → (∀ a' W' U', Grew U U' W W' → Kept R w.heap.size U W W' → Ax U' j x a' W' → K a' W') →
      assign.wpIn (Fence.wide.inRound l) 3 P (Exit.then K (fun _ _ _ => False)) { tmps := (ps.zip (enc x)).foldl (fun t (p, v) => t.setIfInBounds p v) a.tmps, defers := [] } W)
    (hbody : ∀ (l : Nat) (U : Nat → Prop) (j : Nat) (x : α) (a' : Act) (W : World), w.heap.size ≤ l → xs[j]? = some x → Ax U j x a' W → (∀ k, U k → k < W.heap.size) → body.wpIn (Fence.wide.inRound l) 3 P (iterPostU R w.heap.size I Ix U j W) a' W)
    (hdone : ∀ (D : Nat) (U : Nat → Prop) (W : World), w.heap.size ≤ D → ¬ U D → I U xs.length W → W.heap[D]? = some (.deferred (some [])) → Q .normal { a with defers := { target := .collected D, args := #[] } :: a.defers } W)
    (hstop : ∀ (D : Nat) (c : Code) (U : Nat → Prop) (W : World), w.heap.size ≤ D → ¬ U D → Ix c U W → W.heap[D]? = some (.deferred (some [])) → c.wpIn Fence.wide n P Q { a with defers := { target := .collected D, args := #[] } :: a.defers } W) :
    (Code.rangeFunc g ps assign body).wpIn Fence.wide n P Q a w := by
  refine wpIn_rangeFunc fun fn hfn => ?_
  obtain ⟨B, hB⟩ : ∃ B, w.heap.size = B := ⟨_, rfl⟩
  obtain ⟨rec, hrec⟩ : ∃ rec : LoopState → Option Code → Obj, ∀ st pe, rec st pe = .loop { state := st, pending := pe, fn := fn, tmps := a.tmps, params := ps, assign := assign, body := body, defers := B } := ⟨_, fun _ _ => rfl⟩
  obtain ⟨Own2, hOwn2⟩ : ∃ Own2 : LoopState → Option Code → World → Prop, ∀ st pe W, Own2 st pe W ↔ (W.heap[B + 1]? = some (rec st pe) ∧ W.heap[B]? = some (.deferred (some []))) := ⟨_, fun _ _ _ => Iff.rfl⟩
  have hturn : ∀ {st pe W} (st' : LoopState) (pe' : Option Code), Own2 st pe W → Own2 st' pe' (W.putObj (B + 1) (rec st' pe')) := fun {st pe W} st' pe' h => by
    rw [hOwn2] at h ⊢
    exact ⟨World.putObj_heap_same (Array.getElem?_eq_some_iff.1 h.1).1, (World.putObj_heap_other (by omega)).trans h.2⟩
  have hlt2 : ∀ {st pe W}, Own2 st pe W → B + 1 < W.heap.size := fun {st pe W} h => (Array.getElem?_eq_some_iff.1 ((hOwn2 _ _ _).1 h).1).1
  have hkeep : ∀ {st pe W W'} {U : Nat → Prop}, Own2 st pe W → Kept R B U W W' → ¬ U B → ¬ U (B + 1) → Own2 st pe W' := fun {st pe W W' U} h ho u0 u1 => by
    rw [hOwn2] at h ⊢
    exact ⟨ho.rest _ _ h.1 (.inr ⟨by omega, u1⟩), ho.rest _ _ h.2 (.inr ⟨by omega, u0⟩)⟩
  rw [hB] at hI hIx hAx hassign hbody hRl hdone hstop
  have hput : ∀ {β : Type} {J : (Nat → Prop) → β → World → Prop} {U : Nat → Prop} {s : β} {W : World} (o : Obj), Safe B J → J U s W → ¬ U (B + 1) → J U s (W.putObj (B + 1) o) := fun {β J U s W} o hs hj hu => hs _ _ _ _ hj (Stays.put _ _ (by omega) hu)
  obtain ⟨W1, hW1⟩ : ∃ W1, (w.alloc (.deferred (some []))).alloc (rec .ready none) = W1 := ⟨_, rfl⟩
  have hs1 : W1.heap.size = B + 2 := by rw [← hW1]; simp; omega
  have hO1 : Own2 .ready none W1 := by
    rw [hOwn2, ← hW1]
    refine ⟨?_, (Below.heap_alloc _ _ _ (by simp; omega)).trans (by rw [← hB]; exact World.alloc_heap_new w _)⟩
    have := World.alloc_heap_new (w.alloc (.deferred (some []))) (rec .ready none)
    rw [World.size_alloc, hB] at this
    exact this
  have hB1 : Below w.heap.size w W1 := by rw [← hW1]; exact below2 w _ _
  have hI1 : I (fun _ => False) 0 W1 := hI _ _ _ _ h0 (Stays.below hB1)
  have hc1 : Keeps R w0 W1 := hw0.trans (Keeps.below hB1)
  refine ⟨B + 1, [{ target := .collected B, args := #[] }], W1, { target := .fn (.func gf) lb, args := #[.func (.yield (B + 1)) #[] #[]] }, W1, gf, #[.func (.yield (B + 1)) #[] #[]] ++ lb, W1, ?_, ?_, fun _ _ => trivial, ?_, fun _ => h1, callsIn_wide.2 ?_⟩
  · rw [← hW1, hrec, ← hB]; exact run_enterLoop_outer _ _ _ _ _
  · simp only [resolve, hg]; simp [go_sem]
  · simp [invoke, go_sem, eg]
  · refine (hit (B + 1) (fun U j W => I U j W ∧ (Own2 .ready none W ∧ (¬ U B ∧ ¬ U (B + 1)))) (fun U W => ∃ c, Ix c U W ∧ (Own2 .done (some c) W ∧ (¬ U B ∧ ¬ U (B + 1)))) W1 hc1 (fun k hk => by have := hRl k hk; omega)
      (by
        rw [hs1]
        rintro U j W W' ⟨h1, h2, h3⟩ ht
        refine ⟨hI _ _ _ _ h1 (ht.mono (by omega)), ?_, h3⟩
        rw [hOwn2] at h2 ⊢
        exact ⟨ht.rest _ _ h2.1 (.inl (by omega)), ht.rest _ _ h2.2 (.inl (by omega))⟩)
      (by
        rw [hs1]
        rintro U j W W' ⟨c, h1, h2, h3⟩ ht
        refine ⟨c, hIx c _ () _ _ h1 (ht.mono (by omega)), ?_, h3⟩
        rw [hOwn2] at h2 ⊢
        exact ⟨ht.rest _ _ h2.1 (.inl (by omega)), ht.rest _ _ h2.2 (.inl (by omega))⟩) ?_ ⟨hI1, hO1, fun h => h, fun h => h⟩).mono ?_
    · rintro U j x W hx ⟨hi, ho, u0, u1⟩ hu
      have hy := run_yield (P := P) (args := enc x) (((hOwn2 _ _ _).1 ho).1.trans (by rw [hrec])) (hps x)
      refine ⟨fn, _, assign, body, hy, roundIn_of_wpIn hfn (hassign _ U j x W _ hx hi (by have := hlt2 ho; omega) hu ?_)⟩
      clear hy
      intro a' Wa U1 g1 k1 hax
      have lt1 := hlt2 ho
      have u0' : ¬ U1 B := fun h => (g1.new _ h).elim u0 fun h => by omega
      have u1' : ¬ U1 (B + 1) := fun h => (g1.new _ h).elim u1 fun h => by omega
      have ho := hkeep ho k1 u0 u1
      refine ⟨_, run_beginRound (((hOwn2 _ _ _).1 ho).1.trans (by rw [hrec])) rfl, ?_⟩
      have e2 : (Obj.loop { state := .busy, pending := none, fn := fn, tmps := a.tmps, params := ps, assign := assign, body := body, defers := B }) = rec .busy none := (hrec _ _).symm
      simp only
      rw [e2]
      have ho2 := hturn .busy none ho
      have hsz2 : (Wa.putObj (B + 1) (rec .busy none)).heap.size = Wa.heap.size := (by simp [World.putObj])
      refine wpIn_mono (hbody (B + 1) U1 j x a' _ (by omega) hx (hput (β := Unit) (s := ()) _ (hAx j x a') hax u1') (fun k hk => by rw [hsz2]; exact g1.lt k hk)) ?_
      have hend : ∀ (jump : Option Code) (W3 : World), Own2 .busy none W3 → (Instr.endRound (B + 1) jump).run P W3 = .ok (.bool jump.isNone) (W3.putObj (B + 1) (rec (if jump.isNone then .ready else .done) jump)) := fun jump W3 h3 => by
        have := run_endRound (P := P) jump (((hOwn2 _ _ _).1 h3).1.trans (by rw [hrec]))
        rw [hrec]
        exact this
      -- the whole round, from the yield to the end
      have hall : ∀ {W3 : World} {U2 : Nat → Prop} (o : Obj), Grew U1 U2 (Wa.putObj (B + 1) (rec .busy none)) W3 → Kept R B U1 (Wa.putObj (B + 1) (rec .busy none)) W3 →
          ¬ U2 B ∧ ¬ U2 (B + 1) ∧ Own2 .busy none W3 ∧ Grew U U2 W (W3.putObj (B + 1) o) ∧ Kept R W1.heap.size U W (W3.putObj (B + 1) o) := fun {W3 U2} o g2 k2 => by
        have hw2 := hlt2 ho2
        have v0 : ¬ U2 B := fun h => (g2.new _ h).elim u0' fun h => by omega
        have v1 : ¬ U2 (B + 1) := fun h => (g2.new _ h).elim u1' fun h => by omega
        refine ⟨v0, v1, hkeep ho2 k2 u0' u1', ⟨fun k hk => ?_, fun k hk => ?_⟩, ?_, ?_⟩
        · rcases g2.new k hk with h | h
          · exact g1.new k h
          · right; have := k1.size; omega
        · rw [show (W3.putObj (B + 1) o).heap.size = W3.heap.size by simp [World.putObj]]; exact g2.lt k hk
        · rw [show (W3.putObj (B + 1) o).heap.size = W3.heap.size by simp [World.putObj]]; exact Nat.le_trans k1.size (by have := k2.size; omega)
        · intro k o' hk hr
          rw [hs1] at hr
          have hlt := (Array.getElem?_eq_some_iff.1 hk).1
          have hne : k ≠ B + 1 := fun e => by subst e; rcases hr with hr | hr; (have := hRl _ hr; omega); (have := hr.1; omega)
          have hr' : R k ∨ (B ≤ k ∧ ¬ U k) := hr.imp id fun h => ⟨by omega, h.2⟩
          have h1 := k1.rest k o' hk hr'
          have h2 : (Wa.putObj (B + 1) (rec .busy none)).heap[k]? = some o' := (World.putObj_heap_other hne).trans h1
          have h3 := k2.rest k o' h2 (hr'.imp id fun h => ⟨h.1, fun hu1 => (g1.new k hu1).elim h.2 fun h => by omega⟩)
          exact (World.putObj_heap_other hne).trans h3
      rintro e a3 W3 hp
      cases e with
      | normal =>
        obtain ⟨U2, g2, k2, hi3⟩ := hp
        obtain ⟨v0, v1, ho3, hg, hk⟩ := hall (rec .ready none) g2 k2
        exact ⟨_, _, hend none W3 ho3, U2, hg, hk, .inl ⟨rfl, hput _ hI hi3 v1, hturn .ready none ho3, v0, v1⟩⟩
      | ret =>
        obtain ⟨U2, g2, k2, hi3⟩ := hp
        obtain ⟨v0, v1, ho3, hg, hk⟩ := hall (rec .done (some .ret)) g2 k2
        exact ⟨_, _, hend (some .ret) W3 ho3, U2, hg, hk, .inr ⟨rfl, .ret, hput (β := Unit) (s := ()) _ (hIx .ret) hi3 v1, hturn .done (some .ret) ho3, v0, v1⟩⟩
      | exit id =>
        obtain ⟨U2, g2, k2, hi3⟩ := hp
        obtain ⟨v0, v1, ho3, hg, hk⟩ := hall (rec .done (some (.exit id))) g2 k2
        exact ⟨_, _, hend (some (.exit id)) W3 ho3, U2, hg, hk, .inr ⟨rfl, .exit id, hput (β := Unit) (s := ()) _ (hIx (.exit id)) hi3 v1, hturn .done (some (.exit id)) ho3, v0, v1⟩⟩
      | goto t =>
        obtain ⟨U2, g2, k2, hi3⟩ := hp
        obtain ⟨v0, v1, ho3, hg, hk⟩ := hall (rec .done (some (.goto t))) g2 k2
        exact ⟨_, _, hend (some (.goto t)) W3 ho3, U2, hg, hk, .inr ⟨rfl, .goto t, hput (β := Unit) (s := ()) _ (hIx (.goto t)) hi3 v1, hturn .done (some (.goto t)) ho3, v0, v1⟩⟩
      | panic ch => exact hp.elim
      | outgrown => exact hp.elim
    · rintro e W2 ⟨⟨v, rfl⟩, U, hu, h2⟩
      have hlast : ∀ {st pe W}, Own2 st pe W → st ≠ .busy → (Instr.endLoop (B + 1)).run P W = .ok pe (W.putObj (B + 1) (rec .exhausted pe)) ∧ (W.putObj (B + 1) (rec .exhausted pe)).heap[B]? = some (.deferred (some [])) := fun {st pe W} h hb => by
        have := run_endLoop (P := P) (((hOwn2 _ _ _).1 h).1.trans (by rw [hrec])) hb
        rw [hrec]
        exact ⟨this, (World.putObj_heap_other (by omega)).trans ((hOwn2 _ _ _).1 h).2⟩
      rcases h2 with ⟨hi, ho, u0, u1⟩ | ⟨c, hi, ho, u0, u1⟩
      · obtain ⟨h3, h4⟩ := hlast ho (by simp)
        exact ⟨none, _, h3, hdone B U _ (by omega) u0 (hput _ hI hi u1) h4⟩
      · obtain ⟨h3, h4⟩ := hlast ho (by simp)
        exact ⟨some c, _, h3, hstop B c U _ (by omega) u0 (hput (β := Unit) (s := ()) _ (hIx c) hi u1) h4⟩
end
end Go.Proofs.Ytljpiafopbfdlaa
namespace Go.Proofs.Ytljpiafopbfdlaa
open Go.RowKit Go.Shelf
set_option linter.unusedVariables false
set_option linter.unusedSimpArgs false

attribute [local go_sem] Oper.semAt_some

theorem Lies.keeps {l : Lay} {w W : World} {R : Nat → Prop} (h : Lies l w) (hk : Keeps R w W) (hR : ∀ k, k < w.heap.size → R k) (hs : w.heap.size ≤ W.heap.size) : Lies l W :=
  ⟨(h.secs.keeps hk hR).mono hs, (h.sigs.keeps hk hR).mono hs, (h.exits.keeps hk hR).mono hs, (h.flanks.keeps hk hR).mono hs, fun x hx => ((h.overs x hx).keeps hk hR).mono hs, h.kinds, h.nS, h.nG, h.nE, h.nF, h.nO⟩
theorem Keeps.sub {R S : Nat → Prop} {A B : World} (h : Keeps R A B) (hs : ∀ k, S k → R k) : Keeps S A B := fun k o hk ho => h k o (hs k hk) ho
/-- The ports of section s, rising. -/
def portsS (l : Lay) (s : Int) : List (Int × Int) := (List.range (pK (kindV l s)).toNat).map fun p : Nat => (s, (p : Int))
theorem pK_nn (k : Int) : 0 ≤ pK k := by
  unfold pK
  split
  · omega
  · split
    · omega
    · split <;> omega
theorem portsS_len (l : Lay) (s : Int) : (portsS l s).length = (pK (kindV l s)).toNat := by simp [portsS]
theorem portsS_at {l : Lay} {s : Int} {j : Nat} (h : j < (pK (kindV l s)).toNat) : (portsS l s)[j]? = some (s, (j : Int)) := by simp [portsS, h]
theorem there_at (l : Lay) (s : Int) (j : Nat) : thereV l s j = decide (j < (pK (kindV l s)).toNat) := by
  have := pK_nn (kindV l s)
  rw [Bool.eq_iff_iff, decide_eq_true_iff]
  unfold thereV
  rw [withinA_iff]
  omega
/-- The number in the second cell of where it points to. -/
def secondOf (i : Value) (w : World) : Nat := match i with
  | .pointer (some a) => match w.cell? ⟨a.block, 1, none⟩ with
    | some (.int _ q) => q.toNat
    | _ => 0
  | _ => 0

theorem secondOf_whole {w : World} {g : Nat} {t : TypeId} {a : Value} {q : Int} (h : Whole w g t [a, .int .i64 q]) : secondOf (.pointer (some ⟨g, 0, none⟩)) w = q.toNat := by
  have := h.cell_at 1 rfl
  simp [secondOf, this]

end Go.Proofs.Ytljpiafopbfdlaa
