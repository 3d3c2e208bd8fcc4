/- A range over an iterator that hands on what it has laid anew. -/
import Derived.Test.YtegflmaobmibnaaGreatDoorQGen
namespace Go.Proofs.YtegflmaobmibnaaGreatDoor
open Go.RowKit
set_option linter.unusedVariables false

section
variable {α : Type} {P : Program}
/-- As Iter; of what is handed on a relation is told. -/
def IterV (P : Program) (g : Nat) (lb : Array Value) (Enc : α → Array Value → World → Prop) (xs : List α) (R : Nat → Prop) (w0 : World) : Prop :=
  ∀ (l : Nat) (S : Nat → Prop) (J : Nat → World → Prop) (Jx : World → Prop) (W : World), Keeps R w0 W → w0.heap.size ≤ W.heap.size → (∀ k, S k → ¬ R k ∧ k < W.heap.size) → OwnFrom W.heap.size J → OwnFrom W.heap.size (fun (_ : Unit) => Jx) →
    (∀ (j : Nat) (x : α) (vs : Array Value) (W1 : World), xs[j]? = some x → Enc x vs W1 → J j W1 → YieldAt Fence.wide 3 P l vs W1 fun e W' => (e = .returned (.bool true) ∧ J (j + 1) W' ∧ Off S W1 W') ∨ (e = .returned (.bool false) ∧ Jx W' ∧ Off S W1 W')) →
    J 0 W → Calls P g (#[.func (.yield l) #[] #[]] ++ lb) W fun e W' => (∃ v, e = .returned v) ∧ (J xs.length W' ∨ Jx W')

theorem range_iterV {g : Operand} {ps : Array Tmp} {assign body : Code} {Q : Exit → Act → World → Prop} {a : Act} {w w0 : World} {n gf : Nat} {lb : Array Value} {Enc : α → Array Value → World → Prop} {xs : List α} {R : Nat → Prop}
    (hg : a.eval g = .func (.func gf) #[] lb) (eg : ∀ args w, (callFunc gf args).run P w = .ok (.enter gf args) w) (hit : IterV P gf lb Enc xs R w0) (hw0 : Keeps R w0 w) (hz0 : w0.heap.size ≤ w.heap.size) (hRl : ∀ k, R k → k < w.heap.size) (hps : ∀ x vs W, Enc x vs W → vs.size = ps.size) (hEnc : ∀ x vs W W', Enc x vs W → CellsOn W W' → Enc x vs W') (h1 : 1 ≤ n)
    (S : Nat → Prop) (hSR : ∀ k, S k → ¬ R k) (hS : ∀ k, S k → k < w.heap.size) (I : Nat → World → Prop) (Ix : Code → World → Prop) (hI : OwnFrom w.heap.size I) (hIx : ∀ c, OwnFrom w.heap.size (fun (_ : Unit) => Ix c)) (h0 : I 0 w)
    (asg : Array Value → Act)
    (hassign : ∀ (l : Nat) (vs : Array Value) (W : World) (K : Act → World → Prop), vs.size = ps.size → K (asg vs) W → assign.wpIn (Fence.wide.inRound l) 3 P (Exit.then K (fun _ _ _ => False)) { tmps := (ps.zip vs).foldl (fun t (p, v) => t.setIfInBounds p v) a.tmps, defers := [] } W)
    (hbody : ∀ (l j : Nat) (x : α) (vs : Array Value) (W : World), w.heap.size ≤ l → xs[j]? = some x → Enc x vs W → I j W → body.wpIn (Fence.wide.inRound l) 3 P (iterPost S I Ix j W) (asg vs) W)
    (hdone : ∀ (D : Nat) (W : World), w.heap.size ≤ D → I xs.length W → W.heap[D]? = some (.deferred (some [])) → Q .normal { a with defers := { target := .collected D, args := #[] } :: a.defers } W)
    (hstop : ∀ (D : Nat) (c : Code) (W : World), w.heap.size ≤ D → Ix c W → W.heap[D]? = some (.deferred (some [])) → c.wpIn Fence.wide n P Q { a with defers := { target := .collected D, args := #[] } :: a.defers } W) :
    (Code.rangeFunc g ps assign body).wpIn Fence.wide n P Q a w := by
  refine wpIn_rangeFunc fun fn hfn => ?_
  obtain ⟨B, hB⟩ : ∃ B, w.heap.size = B := ⟨_, rfl⟩
  obtain ⟨rec, hrec⟩ : ∃ rec : LoopState → Option Code → Obj, ∀ st pe, rec st pe = .loop { state := st, pending := pe, fn := fn, tmps := a.tmps, params := ps, assign := assign, body := body, defers := B } := ⟨_, fun _ _ => rfl⟩
  -- the two blocks of the loop: its record in a state, the calls that its rounds put off
  obtain ⟨Own2, hOwn2⟩ : ∃ Own2 : LoopState → Option Code → World → Prop, ∀ st pe W, Own2 st pe W ↔ (W.heap[B + 1]? = some (rec st pe) ∧ W.heap[B]? = some (.deferred (some []))) := ⟨_, fun _ _ _ => Iff.rfl⟩
  have hnc : ∀ st pe, (rec st pe).isCells = false := fun st pe => by rw [hrec]; rfl
  have hfar : ∀ {st pe}, OwnFrom (B + 2) (fun (_ : Unit) W => Own2 st pe W) := fun {st pe} s W W' row hs hgr hr => by
    have hs' := (hOwn2 _ _ _).1 hs
    refine (hOwn2 _ _ _).2 ?_
    exact ⟨(hgr.block _ (Array.getElem?_eq_some_iff.1 hs'.1).1 (fun e => by have := (hr _ e.symm).1; omega)).trans hs'.1, (hgr.block _ (Array.getElem?_eq_some_iff.1 hs'.2).1 (fun e => by have := (hr _ e.symm).1; omega)).trans hs'.2⟩
  have hturn : ∀ {st pe W} (st' : LoopState) (pe' : Option Code), Own2 st pe W → Own2 st' pe' (W.putObj (B + 1) (rec st' pe')) ∧ Off (fun k => S k ∨ k = B + 1) W (W.putObj (B + 1) (rec st' pe')) := fun {st pe W} st' pe' h => by
    rw [hOwn2] at h ⊢
    exact ⟨⟨World.putObj_heap_same (Array.getElem?_eq_some_iff.1 h.1).1, (World.putObj_heap_other (by omega)).trans h.2⟩, Off.put _ _ (.inr rfl)⟩
  have hkeep : ∀ {st pe W W'}, Own2 st pe W → Off S W W' → Own2 st pe W' := fun {st pe W W'} h ho => by
    rw [hOwn2] at h ⊢
    exact ⟨ho.rest _ _ h.1 (fun e => by have := hS _ e; omega), ho.rest _ _ h.2 (fun e => by have := hS _ e; omega)⟩
  have hIput : ∀ {j st pe W} (st' : LoopState) (pe' : Option Code), Own2 st pe W → I j W → I j (W.putObj (B + 1) (rec st' pe')) := fun {j st pe W} st' pe' h hi =>
    hI.putObj _ hi (by omega) (((hOwn2 _ _ _).1 h).1) (hnc _ _)
  have hXput : ∀ {c st pe W} (st' : LoopState) (pe' : Option Code), Own2 st pe W → Ix c W → Ix c (W.putObj (B + 1) (rec st' pe')) := fun {c st pe W} st' pe' h hi =>
    (hIx c).putObj (s := ()) _ hi (by omega) (((hOwn2 _ _ _).1 h).1) (hnc _ _)
  obtain ⟨W1, hW1⟩ : ∃ W1, (w.alloc (.deferred (some []))).alloc (rec .ready none) = W1 := ⟨_, rfl⟩
  have hs1 : W1.heap.size = B + 2 := by rw [← hW1]; simp; omega
  have hO1 : Own2 .ready none W1 := by
    rw [hOwn2, ← hW1]
    refine ⟨?_, (Below.heap_alloc _ _ _ (by simp; omega)).trans (by rw [← hB]; exact World.alloc_heap_new w _)⟩
    have := World.alloc_heap_new (w.alloc (.deferred (some []))) (rec .ready none)
    rw [World.size_alloc, hB] at this
    exact this
  have hI1 : I 0 W1 := by rw [← hW1]; exact hI.alloc _ (hI.alloc _ h0)
  have hc1 : Keeps R w0 W1 := hw0.trans (Keeps.below (by rw [← hW1]; exact below2 w _ _))
  refine ⟨B + 1, [{ target := .collected B, args := #[] }], W1, { target := .fn (.func gf) lb, args := #[.func (.yield (B + 1)) #[] #[]] }, W1, gf, #[.func (.yield (B + 1)) #[] #[]] ++ lb, W1, ?_, ?_, fun _ _ => trivial, ?_, fun _ => h1, callsIn_wide.2 ?_⟩
  · rw [← hW1, hrec, ← hB]; exact run_enterLoop_outer _ _ _ _ _
  · simp only [resolve, hg]; simp [go_sem]
  · simp [invoke, go_sem, eg]
  · have hdown : ∀ {β : Type} {J : β → World → Prop}, OwnFrom B J → OwnFrom W1.heap.size J := fun {β J} h s W W' row hs hgr hr => h s W W' row hs hgr (fun r e => ⟨by have := (hr r e).1; omega, (hr r e).2⟩)
    rw [hB] at hI hIx
    refine (hit (B + 1) (fun k => S k ∨ k = B + 1) (fun j W => I j W ∧ Own2 .ready none W) (fun W => ∃ c, Ix c W ∧ Own2 .done (some c) W) W1 hc1 (by omega) (fun k hk => by
        rcases hk with hk | hk
        · exact ⟨hSR k hk, by have := hS k hk; omega⟩
        · exact ⟨fun e => by have := hRl k e; omega, by omega⟩)
      (OwnFrom.and (hdown hI) (fun s W W' row hs hgr hr => hfar (s := ()) W W' row hs hgr (by rwa [hs1] at hr)))
      (fun s W W' row hs hgr hr => by
        obtain ⟨c, hc, ho⟩ := hs
        exact ⟨c, hdown (hIx c) () W W' row hc hgr hr, hfar () W W' row ho hgr (by rwa [hs1] at hr)⟩) ?_ ⟨hI1, hO1⟩).mono ?_
    · rintro j x vs W hx hen ⟨hi, ho⟩
      have hy := run_yield (P := P) (args := vs) (((hOwn2 _ _ _).1 ho).1.trans (by rw [hrec])) (hps x vs W hen)
      refine ⟨fn, _, assign, body, hy, roundIn_of_wpIn hfn (hassign _ vs W _ (hps x vs W hen) ?_)⟩
      clear hy
      refine ⟨_, run_beginRound (((hOwn2 _ _ _).1 ho).1.trans (by rw [hrec])) rfl, ?_⟩
      have e2 : (Obj.loop { state := .busy, pending := none, fn := fn, tmps := a.tmps, params := ps, assign := assign, body := body, defers := B }) = rec .busy none := (hrec _ _).symm
      simp only
      rw [e2]
      obtain ⟨ho2, hf2⟩ := hturn .busy none ho
      refine wpIn_mono (hbody (B + 1) j x vs _ (by omega) hx (hEnc x vs _ _ hen (CellsOn.put (w := w) _ (B + 1) _ _ (by omega) ((hOwn2 _ _ _).1 ho).1 (hnc _ _) (by rw [hrec]; rfl))) (hIput .busy none ho hi)) ?_
      have hend : ∀ (jump : Option Code) (W3 : World), Own2 .busy none W3 → (Instr.endRound (B + 1) jump).run P W3 = .ok (.bool jump.isNone) (W3.putObj (B + 1) (rec (if jump.isNone then .ready else .done) jump)) := fun jump W3 h3 => by
        have := run_endRound (P := P) jump (((hOwn2 _ _ _).1 h3).1.trans (by rw [hrec]))
        rw [hrec]
        exact this
      have hoff0 : ∀ {A C : World}, Off S A C → Off (fun k => S k ∨ k = B + 1) A C := fun h => h.mono (fun _ h => .inl h)
      rintro e a3 W3 hp
      cases e with
      | normal =>
        obtain ⟨hf3, hi3⟩ := hp
        have ho3 := hkeep ho2 hf3
        obtain ⟨ho4, hf4⟩ := hturn .ready none ho3
        exact ⟨_, _, hend none W3 ho3, .inl ⟨rfl, ⟨hIput .ready none ho3 hi3, ho4⟩, (hf2.trans ((hoff0 hf3).trans hf4))⟩⟩
      | ret =>
        obtain ⟨hf3, hi3⟩ := hp
        have ho3 := hkeep ho2 hf3
        exact ⟨_, _, hend (some .ret) W3 ho3, .inr ⟨rfl, ⟨.ret, hXput .done (some .ret) ho3 hi3, (hturn .done (some .ret) ho3).1⟩, (hf2.trans ((hoff0 hf3).trans (hturn .done (some .ret) ho3).2))⟩⟩
      | exit id =>
        obtain ⟨hf3, hi3⟩ := hp
        have ho3 := hkeep ho2 hf3
        exact ⟨_, _, hend (some (.exit id)) W3 ho3, .inr ⟨rfl, ⟨.exit id, hXput .done (some (.exit id)) ho3 hi3, (hturn .done (some (.exit id)) ho3).1⟩, (hf2.trans ((hoff0 hf3).trans (hturn .done (some (.exit id)) ho3).2))⟩⟩
      | goto t =>
        obtain ⟨hf3, hi3⟩ := hp
        have ho3 := hkeep ho2 hf3
        exact ⟨_, _, hend (some (.goto t)) W3 ho3, .inr ⟨rfl, ⟨.goto t, hXput .done (some (.goto t)) ho3 hi3, (hturn .done (some (.goto t)) ho3).1⟩, (hf2.trans ((hoff0 hf3).trans (hturn .done (some (.goto t)) ho3).2))⟩⟩
      | panic ch => exact hp.elim
      | outgrown => exact hp.elim
    · rintro e W2 ⟨⟨v, rfl⟩, h2⟩
      have hlast : ∀ {st pe W}, Own2 st pe W → st ≠ .busy → (Instr.endLoop (B + 1)).run P W = .ok pe (W.putObj (B + 1) (rec .exhausted pe)) ∧ (W.putObj (B + 1) (rec .exhausted pe)).heap[B]? = some (.deferred (some [])) := fun {st pe W} h hb => by
        have := run_endLoop (P := P) (((hOwn2 _ _ _).1 h).1.trans (by rw [hrec])) hb
        rw [hrec]
        exact ⟨this, (World.putObj_heap_other (by omega)).trans ((hOwn2 _ _ _).1 h).2⟩
      rcases h2 with ⟨hi, ho⟩ | ⟨c, hi, ho⟩
      · obtain ⟨h3, h4⟩ := hlast ho (by simp)
        exact ⟨none, _, h3, hdone B _ (by omega) (hIput .exhausted none ho hi) h4⟩
      · obtain ⟨h3, h4⟩ := hlast ho (by simp)
        exact ⟨some c, _, h3, hstop B c _ (by omega) (hXput .exhausted (some c) ho hi) h4⟩
end
end Go.Proofs.YtegflmaobmibnaaGreatDoor
