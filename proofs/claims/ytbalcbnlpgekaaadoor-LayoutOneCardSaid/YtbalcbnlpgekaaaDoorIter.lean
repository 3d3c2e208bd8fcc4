/- Iterators, one within another: what one gives, in order, whatever the rounds do to blocks that they name; a range over such a one. -/
import Derived.RangeFuncNested
import Derived.RangeFuncCalls
import Derived.RangeFuncLeaves
import Derived.WalkKit
import Derived.OwnWalkIn
import Derived.Test.YtbalcbnlpgekaaaDoorClosed
namespace Go.Proofs.YtbalcbnlpgekaaaDoor
open Go.RowKit
set_option linter.unusedVariables false

/-- Nothing outside memory has turned. -/
def Same3 (W W' : World) : Prop := W'.os = W.os ∧ W'.tape = W.tape ∧ W'.output = W.output
theorem Same3.trans {A B C : World} (h : Same3 A B) (k : Same3 B C) : Same3 A C := ⟨k.1.trans h.1, k.2.1.trans h.2.1, k.2.2.trans h.2.2⟩
/-- The world has grown: all that is not of S lies as it lay. -/
structure Off (S : Nat → Prop) (W W' : World) : Prop where
  same : Same3 W W'
  size : W.heap.size ≤ W'.heap.size
  rest : ∀ (k : Nat) (o : Obj), W.heap[k]? = some o → ¬ S k → W'.heap[k]? = some o
theorem Off.refl (S : Nat → Prop) (W : World) : Off S W W := ⟨⟨rfl, rfl, rfl⟩, Nat.le_refl _, fun _ _ h _ => h⟩
theorem Off.trans {S : Nat → Prop} {A B C : World} (h : Off S A B) (k : Off S B C) : Off S A C :=
  ⟨h.same.trans k.same, Nat.le_trans h.size k.size, fun i o ho hn => k.rest i o (h.rest i o ho hn) hn⟩
theorem Off.mono {S S' : Nat → Prop} {A B : World} (h : Off S A B) (hs : ∀ k, S k → S' k) : Off S' A B := ⟨h.same, h.size, fun i o ho hn => h.rest i o ho (fun e => hn (hs i e))⟩
theorem Off.below {S : Nat → Prop} {A B : World} (h : Below A.heap.size A B) : Off S A B :=
  ⟨⟨h.os, h.tape, h.output⟩, h.size, fun k o ho _ => (h.block k (Array.getElem?_eq_some_iff.1 ho).1).trans ho⟩
theorem Off.put {S : Nat → Prop} (W : World) {l : Nat} (o' : Obj) (hl : S l) : Off S W (W.putObj l o') :=
  ⟨⟨rfl, rfl, rfl⟩, (grownBy_putObj' W l o').size, fun k x hk hn => (World.putObj_heap_other (fun e => hn (by subst e; exact hl))).trans hk⟩
theorem Off.set {S : Nat → Prop} (W : World) {p : Addr} (v : Value) (hl : S p.block) : Off S W (W.setCell p v) :=
  ⟨⟨rfl, rfl, rfl⟩, by simp [World.setCell], fun k x hk hn => (Below.heap_setCell W p v k (fun e => hn (by subst e; exact hl))).trans hk⟩
theorem Off.whole {S : Nat → Prop} {A B : World} (h : Off S A B) {g : Nat} {t : TypeId} {cs : List Value} (hw : Whole A g t cs) (hg : ¬ S g) : Whole B g t cs := h.rest g _ hw hg
/-- What lies in the blocks R lies as it lay. -/
def Keeps (R : Nat → Prop) (W W' : World) : Prop := ∀ (k : Nat) (o : Obj), R k → W.heap[k]? = some o → W'.heap[k]? = some o
theorem Keeps.refl (R : Nat → Prop) (W : World) : Keeps R W W := fun _ _ _ h => h
theorem Keeps.trans {R : Nat → Prop} {A B C : World} (h : Keeps R A B) (k : Keeps R B C) : Keeps R A C := fun i o hi ho => k i o hi (h i o hi ho)
theorem Keeps.below {R : Nat → Prop} {A B : World} (h : Below A.heap.size A B) : Keeps R A B := fun k o _ ho => (h.block k (Array.getElem?_eq_some_iff.1 ho).1).trans ho
theorem Off.keeps {S R : Nat → Prop} {A B : World} (h : Off S A B) (hd : ∀ k, S k → ¬ R k) : Keeps R A B := fun k o hk ho => h.rest k o ho (fun e => hd k e hk)
theorem Keeps.whole {R : Nat → Prop} {A B : World} (h : Keeps R A B) {g : Nat} {t : TypeId} {cs : List Value} (hg : R g) (hw : Whole A g t cs) : Whole B g t cs := h g _ hg hw
theorem Keeps.cell {R : Nat → Prop} {A B : World} (h : Keeps R A B) {p : Addr} {v : Value} (hp : R p.block) (hv : A.cell? p = some v) : B.cell? p = some v := by
  obtain ⟨o, h1, _⟩ := cells_of_cell hv
  rw [← hv]
  exact World.cell?_of_block ((h _ o hp h1).trans h1.symm)
theorem Row.keeps {R : Nat → Prop} {A B : World} (h : Keeps R A B) {n : Nat} (hR : ∀ k, k < n → R k) {X : Option Addr} {vs : List Value} (hr : Row A n X vs) : Row B n X vs := fun hp => by
  obtain ⟨b, off, e, hb, hc⟩ := hr hp
  exact ⟨b, off, e, hb, fun j u hu => h.cell (hR _ hb) (hc j u hu)⟩
theorem OwnFrom.up {β : Type} {B B' : Nat} {I : β → World → Prop} (h : OwnFrom B I) (hB : B ≤ B') : OwnFrom B' I := fun s W W' row hs hg hr => h s W W' row hs hg (fun r e => ⟨Nat.le_trans hB (hr r e).1, (hr r e).2⟩)
/-- That the blocks R lie as they lay abides the turn of others. -/
theorem Keeps.own {R : Nat → Prop} {w0 : World} {β : Type} {B : Nat} (hR : ∀ k, R k → k < B) : OwnFrom B fun (_ : β) W => Keeps R w0 W := fun s W W' row hs hg hr k o hk ho =>
  (hg.block k (Array.getElem?_eq_some_iff.1 (hs k o hk ho)).1 (fun e => by have := (hr k e.symm).1; have := hR k hk; omega)).trans (hs k o hk ho)
theorem block_own {β : Type} {B k : Nat} {o : Obj} (hk : k < B) : OwnFrom B fun (_ : β) (W : World) => W.heap[k]? = some o := fun s W W' row hs hg hr =>
  (hg.block k (Array.getElem?_eq_some_iff.1 hs).1 (fun e => by have := (hr k e.symm).1; omega)).trans hs

/-- It goes on to hold as long as cells, and what lies below n, lie as they lay. -/
def Firm (n : Nat) (P : World → Prop) : Prop := ∀ W W', P W → Same3 W W' → W.heap.size ≤ W'.heap.size → (∀ (k : Nat) (o : Obj), W.heap[k]? = some o → (k < n ∨ o.isCells = true) → W'.heap[k]? = some o) → P W'
theorem Firm.closed {n : Nat} {P : World → Prop} (h : Firm n P) : Closed P := fun w w' hp hb => h w w' hp ⟨hb.os, hb.tape, hb.output⟩ hb.size fun k o ho _ => (hb.block k (Array.getElem?_eq_some_iff.1 ho).1).trans ho
theorem Firm.and {n : Nat} {P Q : World → Prop} (h : Firm n P) (k : Firm n Q) : Firm n fun w => P w ∧ Q w := fun W W' hp h3 hs hk => ⟨h W W' hp.1 h3 hs hk, k W W' hp.2 h3 hs hk⟩
theorem Firm.cells {P : World → Prop} (h : ∀ W W', P W → CellsOn W W' → P W') (n : Nat) : Firm n P := fun W W' hp _ hs hk => h W W' hp ⟨hs, fun k o ho hc => hk k o ho (.inr hc)⟩
theorem Firm.below (w0 : World) : Firm w0.heap.size fun w => Below w0.heap.size w0 w := fun W W' hp h3 hs hk => ⟨h3.1.trans hp.os, h3.2.1.trans hp.tape, h3.2.2.trans hp.output, Nat.le_trans hp.size hs, fun k hlt => by
  have hb := hp.block k hlt
  obtain ⟨o, ho⟩ : ∃ o, w0.heap[k]? = some o := ⟨_, Array.getElem?_eq_getElem hlt⟩
  rw [ho] at hb ⊢
  exact hk k o hb (.inl hlt)⟩
theorem Firm.own {n : Nat} {P : World → Prop} (h : Firm n P) {β : Type} {B : Nat} (hB : n ≤ B) : OwnFrom B fun (_ : β) W => P W := fun s W W' row hs hg hr =>
  h W W' hs ⟨hg.os, hg.tape, hg.output⟩ hg.size fun k o hk hc => (hg.block k (Array.getElem?_eq_some_iff.1 hk).1 (fun e => by
    obtain ⟨h1, o', ho', hc'⟩ := hr k e.symm
    rw [hk] at ho'
    cases ho'
    rcases hc with hc | hc
    · omega
    · rw [hc] at hc'; cases hc')).trans hk

theorem RoundIn.wideAny {m m' l' : Nat} {P : Program} {l : Nat} {f : FuncId} {tmps : Array Value} {assign body : Code} {w : World} {R : Ending → World → Prop} (h : RoundIn Fence.wide m P l f tmps assign body w R) : RoundIn (Fence.wide.inRound l') m' P l f tmps assign body w R :=
  ⟨h.1, fun c cs _ => h.2 c cs (room_wide _)⟩
theorem RoundIn.wide {m m' : Nat} {P : Program} {l : Nat} {f : FuncId} {tmps : Array Value} {assign body : Code} {w : World} {R : Ending → World → Prop} (h : RoundIn Fence.wide m P l f tmps assign body w R) : RoundIn Fence.wide m' P l f tmps assign body w R :=
  ⟨h.1, fun c cs _ => h.2 c cs (room_wide _)⟩

section
variable {α : Type} {P : Program}
/-- The closure g, with what it has captured, gives the rows' elements one by one, in order, until a round says no. -/
def Iter (P : Program) (g : Nat) (lb : Array Value) (enc : α → Array Value) (xs : List α) (R : Nat → Prop) (w0 : World) : Prop :=
  ∀ (l : Nat) (S : Nat → Prop) (J : Nat → World → Prop) (Jx : World → Prop) (W : World), Keeps R w0 W → (∀ k, S k → ¬ R k ∧ k < W.heap.size) → OwnFrom W.heap.size J → OwnFrom W.heap.size (fun (_ : Unit) => Jx) →
    (∀ (j : Nat) (x : α) (W1 : World), xs[j]? = some x → J j W1 → YieldAt Fence.wide 3 P l (enc x) W1 fun e W' => (e = .returned (.bool true) ∧ J (j + 1) W' ∧ Off S W1 W') ∨ (e = .returned (.bool false) ∧ Jx W' ∧ Off S W1 W')) →
    J 0 W → Calls P g (#[.func (.yield l) #[] #[]] ++ lb) W fun e W' => (∃ v, e = .returned v) ∧ (J xs.length W' ∨ Jx W')

/-- How a round may end: it goes on; or it leaves by a jump. -/
def iterPost (S : Nat → Prop) (I : Nat → World → Prop) (Ix : Code → World → Prop) (j : Nat) (W : World) : Exit → Act → World → Prop
  | .normal, _, W' => Off S W W' ∧ I (j + 1) W'
  | .ret, _, W' => Off S W W' ∧ Ix .ret W'
  | .exit id, _, W' => Off S W W' ∧ Ix (.exit id) W'
  | .goto t, _, W' => Off S W W' ∧ Ix (.goto t) W'
  | .panic _, _, _ => False
  | .outgrown, _, _ => False

theorem range_iter {g : Operand} {ps : Array Tmp} {assign body : Code} {Q : Exit → Act → World → Prop} {a : Act} {w w0 : World} {n gf : Nat} {lb : Array Value} {enc : α → Array Value} {xs : List α} {R : Nat → Prop}
    (hg : a.eval g = .func (.func gf) #[] lb) (eg : ∀ args w, (callFunc gf args).run P w = .ok (.enter gf args) w) (hit : Iter P gf lb enc xs R w0) (hw0 : Keeps R w0 w) (hRl : ∀ k, R k → k < w.heap.size) (hps : ∀ x, (enc x).size = ps.size) (h1 : 1 ≤ n)
    (S : Nat → Prop) (hSR : ∀ k, S k → ¬ R k) (hS : ∀ k, S k → k < w.heap.size) (I : Nat → World → Prop) (Ix : Code → World → Prop) (hI : OwnFrom w.heap.size I) (hIx : ∀ c, OwnFrom w.heap.size (fun (_ : Unit) => Ix c)) (h0 : I 0 w)
    (Ax : Nat → α → Act → World → Prop) (hAx : ∀ j x a', OwnFrom w.heap.size (fun (_ : Unit) W => Ax j x a' W))
    (hassign : ∀ (l j : Nat) (x : α) (W : World) (K : Act → World → Prop), xs[j]? = some x → I j W → (∀ a' W', Off S W W' → I j W' → Ax j x a' W' → K a' W') →
      assign.wpIn (Fence.wide.inRound l) 3 P (Exit.then K (fun _ _ _ => False)) { tmps := (ps.zip (enc x)).foldl (fun t (p, v) => t.setIfInBounds p v) a.tmps, defers := [] } W)
    (hbody : ∀ (l j : Nat) (x : α) (a' : Act) (W : World), w.heap.size ≤ l → xs[j]? = some x → I j W → Ax j x a' W → body.wpIn (Fence.wide.inRound l) 3 P (iterPost S I Ix j W) a' W)
    (hdone : ∀ (D : Nat) (W : World), w.heap.size ≤ D → I xs.length W → W.heap[D]? = some (.deferred (some [])) → Q .normal { a with defers := { target := .collected D, args := #[] } :: a.defers } W)
    (hstop : ∀ (D : Nat) (c : Code) (W : World), w.heap.size ≤ D → Ix c W → W.heap[D]? = some (.deferred (some [])) → c.wpIn Fence.wide n P Q { a with defers := { target := .collected D, args := #[] } :: a.defers } W) :
    (Code.rangeFunc g ps assign body).wpIn Fence.wide n P Q a w := by
  refine wpIn_rangeFunc fun fn hfn => ?_
  obtain ⟨B, hB⟩ : ∃ B, w.heap.size = B := ⟨_, rfl⟩
  obtain ⟨rec, hrec⟩ : ∃ rec : LoopState → Option Code → Obj, ∀ st pe, rec st pe = .loop { state := st, pending := pe, fn := fn, tmps := a.tmps, params := ps, assign := assign, body := body, defers := B } := ⟨_, fun _ _ => rfl⟩
  -- the two blocks of the loop: its record in a state, the calls that its rounds put off
  obtain ⟨Own2, hOwn2⟩ : ∃ Own2 : LoopState → Option Code → World → Prop, ∀ st pe W, Own2 st pe W ↔ (W.heap[B + 1]? = some (rec st pe) ∧ W.heap[B]? = some (.deferred (some []))) := ⟨_, fun _ _ _ => Iff.rfl⟩
  have hnc : ∀ st pe, (rec st pe).isCells = false := fun st pe => by rw [hrec]; rfl
  have hfar : ∀ {st pe}, OwnFrom (B + 2) (fun (_ : Unit) W => Own2 st pe W) := fun {st pe} s W W' row hs hgr hr => by
    have hs' := (hOwn2 _ _ _).1 hs
    refine (hOwn2 _ _ _).2 ?_
    exact ⟨(hgr.block _ (Array.getElem?_eq_some_iff.1 hs'.1).1 (fun e => by have := (hr _ e.symm).1; omega)).trans hs'.1, (hgr.block _ (Array.getElem?_eq_some_iff.1 hs'.2).1 (fun e => by have := (hr _ e.symm).1; omega)).trans hs'.2⟩
  have hturn : ∀ {st pe W} (st' : LoopState) (pe' : Option Code), Own2 st pe W → Own2 st' pe' (W.putObj (B + 1) (rec st' pe')) ∧ Off (fun k => S k ∨ k = B + 1) W (W.putObj (B + 1) (rec st' pe')) := fun {st pe W} st' pe' h => by
    rw [hOwn2] at h ⊢
    exact ⟨⟨World.putObj_heap_same (Array.getElem?_eq_some_iff.1 h.1).1, (World.putObj_heap_other (by omega)).trans h.2⟩, Off.put _ _ (.inr rfl)⟩
  have hkeep : ∀ {st pe W W'}, Own2 st pe W → Off S W W' → Own2 st pe W' := fun {st pe W W'} h ho => by
    rw [hOwn2] at h ⊢
    exact ⟨ho.rest _ _ h.1 (fun e => by have := hS _ e; omega), ho.rest _ _ h.2 (fun e => by have := hS _ e; omega)⟩
  have hIput : ∀ {j st pe W} (st' : LoopState) (pe' : Option Code), Own2 st pe W → I j W → I j (W.putObj (B + 1) (rec st' pe')) := fun {j st pe W} st' pe' h hi =>
    hI.putObj _ hi (by omega) (((hOwn2 _ _ _).1 h).1) (hnc _ _)
  have hXput : ∀ {c st pe W} (st' : LoopState) (pe' : Option Code), Own2 st pe W → Ix c W → Ix c (W.putObj (B + 1) (rec st' pe')) := fun {c st pe W} st' pe' h hi =>
    (hIx c).putObj (s := ()) _ hi (by omega) (((hOwn2 _ _ _).1 h).1) (hnc _ _)
  obtain ⟨W1, hW1⟩ : ∃ W1, (w.alloc (.deferred (some []))).alloc (rec .ready none) = W1 := ⟨_, rfl⟩
  have hs1 : W1.heap.size = B + 2 := by rw [← hW1]; simp; omega
  have hO1 : Own2 .ready none W1 := by
    rw [hOwn2, ← hW1]
    refine ⟨?_, (Below.heap_alloc _ _ _ (by simp; omega)).trans (by rw [← hB]; exact World.alloc_heap_new w _)⟩
    have := World.alloc_heap_new (w.alloc (.deferred (some []))) (rec .ready none)
    rw [World.size_alloc, hB] at this
    exact this
  have hI1 : I 0 W1 := by rw [← hW1]; exact hI.alloc _ (hI.alloc _ h0)
  have hc1 : Keeps R w0 W1 := hw0.trans (Keeps.below (by rw [← hW1]; exact below2 w _ _))
  refine ⟨B + 1, [{ target := .collected B, args := #[] }], W1, { target := .fn (.func gf) lb, args := #[.func (.yield (B + 1)) #[] #[]] }, W1, gf, #[.func (.yield (B + 1)) #[] #[]] ++ lb, W1, ?_, ?_, fun _ _ => trivial, ?_, fun _ => h1, callsIn_wide.2 ?_⟩
  · rw [← hW1, hrec, ← hB]; exact run_enterLoop_outer _ _ _ _ _
  · simp only [resolve, hg]; simp [go_sem]
  · simp [invoke, go_sem, eg]
  · have hdown : ∀ {β : Type} {J : β → World → Prop}, OwnFrom B J → OwnFrom W1.heap.size J := fun {β J} h s W W' row hs hgr hr => h s W W' row hs hgr (fun r e => ⟨by have := (hr r e).1; omega, (hr r e).2⟩)
    rw [hB] at hI hIx hAx
    refine (hit (B + 1) (fun k => S k ∨ k = B + 1) (fun j W => I j W ∧ Own2 .ready none W) (fun W => ∃ c, Ix c W ∧ Own2 .done (some c) W) W1 hc1 (fun k hk => by
        rcases hk with hk | hk
        · exact ⟨hSR k hk, by have := hS k hk; omega⟩
        · exact ⟨fun e => by have := hRl k e; omega, by omega⟩)
      (OwnFrom.and (hdown hI) (fun s W W' row hs hgr hr => hfar (s := ()) W W' row hs hgr (by rwa [hs1] at hr)))
      (fun s W W' row hs hgr hr => by
        obtain ⟨c, hc, ho⟩ := hs
        exact ⟨c, hdown (hIx c) () W W' row hc hgr hr, hfar () W W' row ho hgr (by rwa [hs1] at hr)⟩) ?_ ⟨hI1, hO1⟩).mono ?_
    · rintro j x W hx ⟨hi, ho⟩
      have hy := run_yield (P := P) (args := enc x) (((hOwn2 _ _ _).1 ho).1.trans (by rw [hrec])) (hps x)
      refine ⟨fn, _, assign, body, hy, roundIn_of_wpIn hfn (hassign _ j x W _ hx hi ?_)⟩
      clear hy
      intro a' Wa hoa hia hax
      have ho := hkeep ho hoa
      refine ⟨_, run_beginRound (((hOwn2 _ _ _).1 ho).1.trans (by rw [hrec])) rfl, ?_⟩
      have e2 : (Obj.loop { state := .busy, pending := none, fn := fn, tmps := a.tmps, params := ps, assign := assign, body := body, defers := B }) = rec .busy none := (hrec _ _).symm
      simp only
      rw [e2]
      obtain ⟨ho2, hf2⟩ := hturn .busy none ho
      refine wpIn_mono (hbody (B + 1) j x a' _ (by omega) hx (hIput .busy none ho hia) ((hAx j x a').putObj (s := ()) _ hax (by omega) (((hOwn2 _ _ _).1 ho).1) (hnc _ _))) ?_
      have hend : ∀ (jump : Option Code) (W3 : World), Own2 .busy none W3 → (Instr.endRound (B + 1) jump).run P W3 = .ok (.bool jump.isNone) (W3.putObj (B + 1) (rec (if jump.isNone then .ready else .done) jump)) := fun jump W3 h3 => by
        have := run_endRound (P := P) jump (((hOwn2 _ _ _).1 h3).1.trans (by rw [hrec]))
        rw [hrec]
        exact this
      have hoff0 : ∀ {A C : World}, Off S A C → Off (fun k => S k ∨ k = B + 1) A C := fun h => h.mono (fun _ h => .inl h)
      rintro e a3 W3 hp
      cases e with
      | normal =>
        obtain ⟨hf3, hi3⟩ := hp
        have ho3 := hkeep ho2 hf3
        obtain ⟨ho4, hf4⟩ := hturn .ready none ho3
        exact ⟨_, _, hend none W3 ho3, .inl ⟨rfl, ⟨hIput .ready none ho3 hi3, ho4⟩, (hoff0 hoa).trans (hf2.trans ((hoff0 hf3).trans hf4))⟩⟩
      | ret =>
        obtain ⟨hf3, hi3⟩ := hp
        have ho3 := hkeep ho2 hf3
        exact ⟨_, _, hend (some .ret) W3 ho3, .inr ⟨rfl, ⟨.ret, hXput .done (some .ret) ho3 hi3, (hturn .done (some .ret) ho3).1⟩, (hoff0 hoa).trans (hf2.trans ((hoff0 hf3).trans (hturn .done (some .ret) ho3).2))⟩⟩
      | exit id =>
        obtain ⟨hf3, hi3⟩ := hp
        have ho3 := hkeep ho2 hf3
        exact ⟨_, _, hend (some (.exit id)) W3 ho3, .inr ⟨rfl, ⟨.exit id, hXput .done (some (.exit id)) ho3 hi3, (hturn .done (some (.exit id)) ho3).1⟩, (hoff0 hoa).trans (hf2.trans ((hoff0 hf3).trans (hturn .done (some (.exit id)) ho3).2))⟩⟩
      | goto t =>
        obtain ⟨hf3, hi3⟩ := hp
        have ho3 := hkeep ho2 hf3
        exact ⟨_, _, hend (some (.goto t)) W3 ho3, .inr ⟨rfl, ⟨.goto t, hXput .done (some (.goto t)) ho3 hi3, (hturn .done (some (.goto t)) ho3).1⟩, (hoff0 hoa).trans (hf2.trans ((hoff0 hf3).trans (hturn .done (some (.goto t)) ho3).2))⟩⟩
      | panic ch => exact hp.elim
      | outgrown => exact hp.elim
    · rintro e W2 ⟨⟨v, rfl⟩, h2⟩
      have hlast : ∀ {st pe W}, Own2 st pe W → st ≠ .busy → (Instr.endLoop (B + 1)).run P W = .ok pe (W.putObj (B + 1) (rec .exhausted pe)) ∧ (W.putObj (B + 1) (rec .exhausted pe)).heap[B]? = some (.deferred (some [])) := fun {st pe W} h hb => by
        have := run_endLoop (P := P) (((hOwn2 _ _ _).1 h).1.trans (by rw [hrec])) hb
        rw [hrec]
        exact ⟨this, (World.putObj_heap_other (by omega)).trans ((hOwn2 _ _ _).1 h).2⟩
      rcases h2 with ⟨hi, ho⟩ | ⟨c, hi, ho⟩
      · obtain ⟨h3, h4⟩ := hlast ho (by simp)
        exact ⟨none, _, h3, hdone B _ (by omega) (hIput .exhausted none ho hi) h4⟩
      · obtain ⟨h3, h4⟩ := hlast ho (by simp)
        exact ⟨some c, _, h3, hstop B c _ (by omega) (hXput .exhausted (some c) ho hi) h4⟩
end
end Go.Proofs.YtbalcbnlpgekaaaDoor
