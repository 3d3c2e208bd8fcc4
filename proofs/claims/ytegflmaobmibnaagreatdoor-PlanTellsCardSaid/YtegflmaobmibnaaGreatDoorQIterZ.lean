/- A range over a function whose rounds may be left by a panic, which goes through the iterator and on. -/
import Derived.Test.YtegflmaobmibnaaGreatDoorQGen
namespace Go.Proofs.YtegflmaobmibnaaGreatDoor
open Go.RowKit
set_option linter.unusedVariables false

section
variable {P : Program} {f : FuncId} {Q : Exit → Act → World → Prop} {a : Act} {w : World}
/-- As the walk, of frames of this one function. -/
def wpF (P : Program) (f : FuncId) (c : Code) (Q : Exit → Act → World → Prop) (a : Act) (w : World) : Prop :=
  ∀ (b : Frame) (k : List Item) (cs : List Frame), b.roundOf = none → b.fn = f → ∃ e a' w', Q e a' w' ∧ ArrivesIn (Machine.fenced P Fence.wide) P (lone (b.atR a (.code c :: k)) cs w) b k cs e a' w'
theorem wpF_of {c : Code} (h : c.wpIn Fence.wide 9 P Q a w) : wpF P f c Q a w := fun b k cs hro _ => h b k cs hro trivial (room_wide _)
theorem wpF_seq {x y : Code} (h : wpF P f x (Exit.then (fun a w => wpF P f y Q a w) Q) a w) : wpF P f (.seq x y) Q a w := by
  intro b k cs hro hb
  have h0 : (lone (b.atR a (.code (.seq x y) :: k)) cs w).fenced P Fence.wide := fenced_wide _ _
  obtain ⟨e, a₁, w₁, hq, harr⟩ := h b (.code y :: k) cs hro hb
  cases e with
  | normal =>
    obtain ⟨e₂, a₂, w₂, hq₂, harr₂⟩ := hq b k cs hro hb
    exact ⟨e₂, a₂, w₂, hq₂, .of_steps (.head h0 stepR_seq harr) harr₂⟩
  | exit id => exact ⟨_, a₁, w₁, hq, .of_steps (.one h0 stepR_seq) (.pass (x := .code y) rfl (fun _ _ => .inl (by simp)) harr)⟩
  | goto l => exact ⟨_, a₁, w₁, hq, .of_steps (.one h0 stepR_seq) (.pass (x := .code y) rfl (fun _ _ => .inl (by simp)) harr)⟩
  | ret => exact ⟨_, a₁, w₁, hq, .of_steps (.one h0 stepR_seq) (.pass (x := .code y) rfl (fun _ _ => .inl (by simp)) harr)⟩
  | panic ch => exact ⟨_, a₁, w₁, hq, .of_steps (.one h0 stepR_seq) (.pass (x := .code y) rfl (fun _ _ => .inl (by simp)) harr)⟩
  | outgrown => exact ⟨_, a₁, w₁, hq, .of_steps (.one h0 stepR_seq) (.pass (x := .code y) rfl (fun _ _ => .inl (by simp)) harr)⟩
theorem wpF_seq_k {x y : Code} (h : ∀ K : Act → World → Prop, (∀ a w, wpF P f y Q a w → K a w) → (x.wp P (Exit.then K Q) a w)) : wpF P f (.seq x y) Q a w := wpF_seq (wpF_of (wpIn_wide.2 (h _ fun _ _ h => h)))
theorem wpF_block {id : Nat} {c : Code} (h : wpF P f c (Exit.inBlock id Q) a w) : wpF P f (.block id c) Q a w := by
  intro b k cs hro hb
  have h0 : (lone (b.atR a (.code (.block id c) :: k)) cs w).fenced P Fence.wide := fenced_wide _ _
  obtain ⟨e, a₁, w₁, hq, harr⟩ := h b (.inBlock id :: k) cs hro hb
  cases e with
  | normal => exact ⟨.normal, a₁, w₁, hq, .head h0 stepR_block (StepsIn.trans harr (.one (fenced_wide _ _) stepR_inBlock))⟩
  | exit id' =>
    by_cases hid : id' = id
    · simp only [Exit.inBlock, hid, if_true] at hq
      exact ⟨.normal, a₁, w₁, hq, .head h0 stepR_block (harr.1 k (by simp [exitTo, hid]))⟩
    · simp only [Exit.inBlock, hid, if_false] at hq
      have this : (id == id') = false := by simp; exact fun h => hid h.symm
      have hx : exitTo id' (.inBlock id :: k) = exitTo id' k := by simp [exitTo, this]
      exact ⟨.exit id', a₁, w₁, hq, fun k' hk => .head h0 stepR_block (harr.1 k' (by rw [hx]; exact hk)),
        fun hr' hk => let ⟨k₁, h1, h2⟩ := harr.2 hr' (by rw [hx]; exact hk); ⟨k₁, h1, .head h0 stepR_block h2⟩⟩
  | goto l =>
    have hx : gotoIn l (.inBlock id :: k) = gotoIn l k := by simp [gotoIn]
    exact ⟨_, a₁, w₁, hq, fun k' hk => .head h0 stepR_block (harr.1 k' (by rw [hx]; exact hk)),
      fun hr' hk => let ⟨k₁, h1, h2⟩ := harr.2 hr' (by rw [hx]; exact hk); ⟨k₁, h1, .head h0 stepR_block h2⟩⟩
  | ret => exact ⟨_, a₁, w₁, hq, .of_steps (.one h0 stepR_block) harr⟩
  | panic ch => exact ⟨_, a₁, w₁, hq, .of_steps (.one h0 stepR_block) harr⟩
  | outgrown => exact ⟨_, a₁, w₁, hq, .of_steps (.one h0 stepR_block) harr⟩
theorem calls_of_wpF {fn : Func} {c : Code} {args : Array Value} {R : Ending → World → Prop} (hf : P.funcs[f]? = some fn) (hb : fn.body = some c)
    (h : wpF P f c (bodyPostM Fence.wide 9 P fn R) { tmps := args ++ Array.replicate (fn.ntmps - args.size) undef, defers := [] } w) : Calls P f args w R := by
  refine (callsIn_wide (n := 9)).1 ⟨trivial, fun cs hr => ?_⟩
  let b : Frame := { (default : Frame) with fn := f, kind := .normal, roundOf := none }
  have henter : Frame.enter P f args .normal = b.atR { tmps := args ++ Array.replicate (fn.ntmps - args.size) undef, defers := [] } [.code c] := by
    simp [Frame.enter, Frame.atR, hf, hb, b]
  obtain ⟨e, a', w', hq, harr⟩ := h b [] cs rfl rfl
  rw [← henter] at harr
  cases e with
  | normal =>
    obtain ⟨e', w'', fr', hR, hs, hfn, hl⟩ := leaves_stepsInM a'.defers .returning w' { b.atR a' [] with mode := .returning } cs rfl rfl rfl hf rfl trivial hr hq
    exact ⟨e', w'', fr', hR, ComesIn.of_steps (StepsIn.trans harr (.one (fenced_wide _ _) (stepR_end rfl))) hs, hfn, hl⟩
  | ret =>
    obtain ⟨todo, hs₀⟩ := harr.1 rfl
    obtain ⟨e', w'', fr', hR, hs, hfn, hl⟩ := leaves_stepsInM a'.defers .returning w' { b.atR a' todo with mode := .returning } cs rfl rfl rfl hf rfl trivial hr hq
    exact ⟨e', w'', fr', hR, ComesIn.of_steps hs₀ hs, hfn, hl⟩
  | panic chain =>
    obtain ⟨todo, hs₀⟩ := harr
    obtain ⟨e', w'', fr', hR, hs, hfn, hl⟩ := leaves_stepsInM a'.defers (.panicking chain) w' { b.atR a' todo with mode := .panicking chain } cs rfl rfl rfl hf rfl trivial hr hq
    exact ⟨e', w'', fr', hR, ComesIn.of_steps hs₀ hs, hfn, hl⟩
  | exit id => exact hq.elim
  | goto l => exact hq.elim
  | outgrown => exact ⟨.outgrown, w', b, hq, harr.resolve_left (by simp [b]), rfl, trivial⟩

/-- How a round is left; a panic goes on. -/
def roundPostZ (P : Program) (l : Nat) (R : Ending → World → Prop) : Exit → Act → World → Prop
  | .panic chain, a, w => a.defers = [] ∧ R (.panicked chain) w
  | e, a, w => roundPost P l R e a w
theorem roundIn_of_wpInZ {n l : Nat} {fn : Func} {tmps : Array Value} {assign body : Code} {R : Ending → World → Prop} (hf : P.funcs[f]? = some fn)
    (h : assign.wpIn (Fence.wide.inRound l) n P (Exit.then (fun a₁ w₁ => ∃ w₂, (Instr.beginRound l).run P w₁ = .ok () w₂ ∧ body.wpIn (Fence.wide.inRound l) n P (roundPostZ P l R) a₁ w₂) (fun _ _ _ => False)) { tmps := tmps, defers := [] } w) :
    RoundIn Fence.wide n P l f tmps assign body w R := by
  refine ⟨trivial, fun c cs hr => ?_⟩
  let b : Frame := { (default : Frame) with fn := f, kind := .normal, roundOf := some l }
  have hb0 : Frame.round l f tmps assign body .normal = b.atR { tmps := tmps, defers := [] } [.code assign, .beginRound, .code body] := by
    simp [Frame.round, Frame.atR, b]
  have hr' : (Fence.wide.inRound l).room ((c :: cs).length + 1 + n) := hr
  obtain ⟨e, a₁, w₁, hq, harr⟩ := h b [.beginRound, .code body] (c :: cs) rfl trivial hr'
  rw [← hb0] at harr
  cases e with
  | normal =>
    obtain ⟨w₂, hbr, hbody⟩ := hq
    have s1 : StepsIn (Machine.fenced P (Fence.wide.inRound l)) P (lone (b.atR a₁ [.beginRound, .code body]) (c :: cs) w₁) (lone (b.atR a₁ [.code body]) (c :: cs) w₂) :=
      .one (fenced_calm (fr := b.atR a₁ [.beginRound, .code body]) trivial hr' rfl) (stepR_beginRound rfl hbr)
    obtain ⟨e₂, a₂, w₃, hq₂, harr₂⟩ := hbody b [] (c :: cs) rfl trivial hr'
    cases e₂ with
    | normal =>
      obtain ⟨v, w₄, hend, hR⟩ := hq₂
      exact ⟨.returned v, w₄, hR, (StepsIn.trans harr s1).trans (StepsIn.trans harr₂ (.one (fenced_calm (fr := b.atR a₂ []) trivial hr' rfl) (stepR_round_end rfl rfl hend)))⟩
    | ret =>
      obtain ⟨v, w₄, hend, hR⟩ := hq₂
      obtain ⟨k₁, hs⟩ := harr₂.2 rfl
      exact ⟨.returned v, w₄, hR, (StepsIn.trans harr s1).trans (StepsIn.trans hs (.one (fenced_calm (fr := b.atR a₂ (.code .ret :: k₁)) trivial hr' rfl) (stepR_round_ret rfl rfl hend)))⟩
    | exit id =>
      obtain ⟨v, w₄, hend, hR⟩ := hq₂
      obtain ⟨k₁, hk, hs⟩ := harr₂.2 rfl rfl
      exact ⟨.returned v, w₄, hR, (StepsIn.trans harr s1).trans (StepsIn.trans hs (.one (fenced_calm (fr := b.atR a₂ (.code (.exit id) :: k₁)) trivial hr' rfl) (stepR_round_exit rfl rfl hk hend)))⟩
    | goto t =>
      obtain ⟨v, w₄, hend, hR⟩ := hq₂
      obtain ⟨k₁, hk, hs⟩ := harr₂.2 rfl rfl
      exact ⟨.returned v, w₄, hR, (StepsIn.trans harr s1).trans (StepsIn.trans hs (.one (fenced_calm (fr := b.atR a₂ (.code (.goto t) :: k₁)) trivial hr' rfl) (stepR_round_goto rfl rfl hk hend)))⟩
    | panic chain =>
      obtain ⟨hd, hR⟩ := hq₂
      obtain ⟨todo, hs⟩ := harr₂
      refine ⟨.panicked chain, w₃, hR, (StepsIn.trans harr s1).trans (StepsIn.trans hs (.one (fenced_wide _ _) ?_))⟩
      exact step_leave_panicked ⟨rfl, hd, fn, hf⟩
    | outgrown => exact hq₂.elim
  | exit id => exact hq.elim
  | goto t => exact hq.elim
  | ret => exact hq.elim
  | panic chain => exact hq.elim
  | outgrown => exact hq.elim

theorem wpF_rangeFunc {g : Operand} {ps : Array Tmp} {assign body : Code}
    (h : ∃ (l : Nat) (mark : List Deferred) (w₁ : World) (d : Deferred) (w₁' : World) (gf : FuncId) (args : Array Value) (w₂ : World),
      (Instr.enterLoop f a.tmps ps assign body none).run P w = .ok (l, mark) w₁ ∧ (resolve a.eval (rangeCall g l) 0).run P w₁ = .ok d w₁' ∧ (invoke d.target d.args).run P w₁' = .ok (.enter gf args) w₂ ∧
      Calls P gf args w₂ (rangePost Fence.wide 9 P l Q { a with defers := mark ++ a.defers })) :
    wpF P f (Code.rangeFunc g ps assign body) Q a w := by
  intro b k cs hro hb
  obtain ⟨l, mark, w₁, d, w₁', gf, args, w₂, he, hres, hinv, hcall⟩ := h
  rw [← hb, ← hro] at he
  have henter := stepR_rangeFunc (P := P) (b := b) (a := a) (k := k) (cs := cs) (w := w) he hres hinv
  obtain ⟨e, w₃, fr, hR, hsteps, hfn, hleave⟩ := ((callsIn_wide (n := 9)).2 hcall).2 (b.atR { a with defers := mark ++ a.defers } (.inRangeFunc l :: k) :: cs) (room_wide _)
  cases e with
  | outgrown =>
    obtain ⟨a₀, w₀, hq⟩ := hR
    exact ⟨.outgrown, a₀, w₀, hq, .inr (Outgrown.of_steps (.one henter) hsteps)⟩
  | returned v =>
    obtain ⟨jump, w₄, hend, hj⟩ := hR
    have sback : StepsIn (Machine.fenced P Fence.wide) P (lone (b.atR a (.code (.rangeFunc g ps assign body) :: k)) cs w) (lone (b.atR { a with defers := mark ++ a.defers } ((jump.map Item.code).toList ++ k)) cs w₄) := by
      refine .head (fenced_wide _ _) henter (StepsIn.trans hsteps (.head (fenced_wide _ _) ?_ (.one (fenced_wide _ _) (stepR_endRangeFunc hend))))
      rw [← finish_atR_inRangeFunc l v]; exact step_leave_returned hleave
    cases jump with
    | none => exact ⟨.normal, _, w₄, hj, sback⟩
    | some c =>
      obtain ⟨e', a'', w₅, hq, harr⟩ := hj b k cs hro trivial (room_wide _)
      exact ⟨e', a'', w₅, hq, .of_steps sback harr⟩
  | panicked chain =>
    refine ⟨.panic chain, _, w₃, hR, .inRangeFunc l :: k, .head (fenced_wide _ _) henter (StepsIn.trans hsteps (.one (fenced_wide _ _) ?_))⟩
    rw [← Frame.raise_atR]; exact step_leave_panicked hleave
end

section
variable {α : Type} {P : Program}
/-- As Iter; a round may be left by a panic, which goes on. -/
def IterZ (P : Program) (g : Nat) (lb : Array Value) (enc : α → Array Value) (xs : List α) (R : Nat → Prop) (w0 : World) : Prop :=
  ∀ (l : Nat) (S : Nat → Prop) (J : Nat → World → Prop) (Jx : World → Prop) (Jp : List PanicEntry → World → Prop) (W : World), Keeps R w0 W → (∀ k, S k → ¬ R k ∧ k < W.heap.size) → OwnFrom W.heap.size J → OwnFrom W.heap.size (fun (_ : Unit) => Jx) →
    (∀ (j : Nat) (x : α) (W1 : World), xs[j]? = some x → J j W1 → YieldAt Fence.wide 3 P l (enc x) W1 fun e W' => (e = .returned (.bool true) ∧ J (j + 1) W' ∧ Off S W1 W') ∨ (e = .returned (.bool false) ∧ Jx W' ∧ Off S W1 W') ∨ (∃ c, e = .panicked c ∧ Jp c W')) →
    J 0 W → Calls P g (#[.func (.yield l) #[] #[]] ++ lb) W fun e W' => ((∃ v, e = .returned v) ∧ (J xs.length W' ∨ Jx W')) ∨ (∃ c, e = .panicked c ∧ Jp c W')
/-- How a round may end; by a panic too. -/
def iterPostZ (S : Nat → Prop) (I : Nat → World → Prop) (Ix : Code → World → Prop) (Jp : List PanicEntry → World → Prop) (j : Nat) (W : World) : Exit → Act → World → Prop
  | .panic c, a, W' => a.defers = [] ∧ Off S W W' ∧ Jp c W'
  | e, a, W' => iterPost S I Ix j W e a W'

theorem range_iterZ {f : FuncId} {fn : Func} {g : Operand} {ps : Array Tmp} {assign body : Code} {Q : Exit → Act → World → Prop} {a : Act} {w w0 : World} {gf : Nat} {lb : Array Value} {enc : α → Array Value} {xs : List α} {R : Nat → Prop}
    (hf : P.funcs[f]? = some fn) (hg : a.eval g = .func (.func gf) #[] lb) (eg : ∀ args w, (callFunc gf args).run P w = .ok (.enter gf args) w) (hit : IterZ P gf lb enc xs R w0) (hw0 : Keeps R w0 w) (hRl : ∀ k, R k → k < w.heap.size) (hps : ∀ x, (enc x).size = ps.size)
    (S : Nat → Prop) (hSR : ∀ k, S k → ¬ R k) (hS : ∀ k, S k → k < w.heap.size) (I : Nat → World → Prop) (Ix : Code → World → Prop) (hI : OwnFrom w.heap.size I) (hIx : ∀ c, OwnFrom w.heap.size (fun (_ : Unit) => Ix c)) (h0 : I 0 w) (Jp : List PanicEntry → World → Prop)
    (Ax : Nat → α → Act → World → Prop) (hAx : ∀ j x a', OwnFrom w.heap.size (fun (_ : Unit) W => Ax j x a' W))
    (hassign : ∀ (l j : Nat) (x : α) (W : World) (K : Act → World → Prop), xs[j]? = some x → I j W → (∀ a' W', Off S W W' → I j W' → Ax j x a' W' → K a' W') →
      assign.wpIn (Fence.wide.inRound l) 3 P (Exit.then K (fun _ _ _ => False)) { tmps := (ps.zip (enc x)).foldl (fun t (p, v) => t.setIfInBounds p v) a.tmps, defers := [] } W)
    (hbody : ∀ (l j : Nat) (x : α) (a' : Act) (W : World), w.heap.size ≤ l → xs[j]? = some x → I j W → Ax j x a' W → body.wpIn (Fence.wide.inRound l) 3 P (iterPostZ S I Ix Jp j W) a' W)
    (hdone : ∀ (D : Nat) (W : World), w.heap.size ≤ D → I xs.length W → W.heap[D]? = some (.deferred (some [])) → Q .normal { a with defers := { target := .collected D, args := #[] } :: a.defers } W)
    (hstop : ∀ (D : Nat) (c : Code) (W : World), w.heap.size ≤ D → Ix c W → W.heap[D]? = some (.deferred (some [])) → c.wpIn Fence.wide 9 P Q { a with defers := { target := .collected D, args := #[] } :: a.defers } W) 
    (hpanic : ∀ (D : Nat) (c : List PanicEntry) (W : World), w.heap.size ≤ D → Jp c W → W.heap[D]? = some (.deferred (some [])) → Q (.panic c) { a with defers := { target := .collected D, args := #[] } :: a.defers } W) :
    wpF P f (Code.rangeFunc g ps assign body) Q a w := by
  refine wpF_rangeFunc ?_
  obtain ⟨B, hB⟩ : ∃ B, w.heap.size = B := ⟨_, rfl⟩
  obtain ⟨rec, hrec⟩ : ∃ rec : LoopState → Option Code → Obj, ∀ st pe, rec st pe = .loop { state := st, pending := pe, fn := f, tmps := a.tmps, params := ps, assign := assign, body := body, defers := B } := ⟨_, fun _ _ => rfl⟩
  -- the two blocks of the loop: its record in a state, the calls that its rounds put off
  obtain ⟨Own2, hOwn2⟩ : ∃ Own2 : LoopState → Option Code → World → Prop, ∀ st pe W, Own2 st pe W ↔ (W.heap[B + 1]? = some (rec st pe) ∧ W.heap[B]? = some (.deferred (some []))) := ⟨_, fun _ _ _ => Iff.rfl⟩
  have hnc : ∀ st pe, (rec st pe).isCells = false := fun st pe => by rw [hrec]; rfl
  have hfar : ∀ {st pe}, OwnFrom (B + 2) (fun (_ : Unit) W => Own2 st pe W) := fun {st pe} s W W' row hs hgr hr => by
    have hs' := (hOwn2 _ _ _).1 hs
    refine (hOwn2 _ _ _).2 ?_
    exact ⟨(hgr.block _ (Array.getElem?_eq_some_iff.1 hs'.1).1 (fun e => by have := (hr _ e.symm).1; omega)).trans hs'.1, (hgr.block _ (Array.getElem?_eq_some_iff.1 hs'.2).1 (fun e => by have := (hr _ e.symm).1; omega)).trans hs'.2⟩
  have hturn : ∀ {st pe W} (st' : LoopState) (pe' : Option Code), Own2 st pe W → Own2 st' pe' (W.putObj (B + 1) (rec st' pe')) ∧ Off (fun k => S k ∨ k = B + 1) W (W.putObj (B + 1) (rec st' pe')) := fun {st pe W} st' pe' h => by
    rw [hOwn2] at h ⊢
    exact ⟨⟨World.putObj_heap_same (Array.getElem?_eq_some_iff.1 h.1).1, (World.putObj_heap_other (by omega)).trans h.2⟩, Off.put _ _ (.inr rfl)⟩
  have hkeep : ∀ {st pe W W'}, Own2 st pe W → Off S W W' → Own2 st pe W' := fun {st pe W W'} h ho => by
    rw [hOwn2] at h ⊢
    exact ⟨ho.rest _ _ h.1 (fun e => by have := hS _ e; omega), ho.rest _ _ h.2 (fun e => by have := hS _ e; omega)⟩
  have hIput : ∀ {j st pe W} (st' : LoopState) (pe' : Option Code), Own2 st pe W → I j W → I j (W.putObj (B + 1) (rec st' pe')) := fun {j st pe W} st' pe' h hi =>
    hI.putObj _ hi (by omega) (((hOwn2 _ _ _).1 h).1) (hnc _ _)
  have hXput : ∀ {c st pe W} (st' : LoopState) (pe' : Option Code), Own2 st pe W → Ix c W → Ix c (W.putObj (B + 1) (rec st' pe')) := fun {c st pe W} st' pe' h hi =>
    (hIx c).putObj (s := ()) _ hi (by omega) (((hOwn2 _ _ _).1 h).1) (hnc _ _)
  obtain ⟨W1, hW1⟩ : ∃ W1, (w.alloc (.deferred (some []))).alloc (rec .ready none) = W1 := ⟨_, rfl⟩
  have hs1 : W1.heap.size = B + 2 := by rw [← hW1]; simp; omega
  have hO1 : Own2 .ready none W1 := by
    rw [hOwn2, ← hW1]
    refine ⟨?_, (Below.heap_alloc _ _ _ (by simp; omega)).trans (by rw [← hB]; exact World.alloc_heap_new w _)⟩
    have := World.alloc_heap_new (w.alloc (.deferred (some []))) (rec .ready none)
    rw [World.size_alloc, hB] at this
    exact this
  have hI1 : I 0 W1 := by rw [← hW1]; exact hI.alloc _ (hI.alloc _ h0)
  have hc1 : Keeps R w0 W1 := hw0.trans (Keeps.below (by rw [← hW1]; exact below2 w _ _))
  refine ⟨B + 1, [{ target := .collected B, args := #[] }], W1, { target := .fn (.func gf) lb, args := #[.func (.yield (B + 1)) #[] #[]] }, W1, gf, #[.func (.yield (B + 1)) #[] #[]] ++ lb, W1, ?_, ?_, ?_, ?_⟩
  · rw [← hW1, hrec, ← hB]; exact run_enterLoop_outer _ _ _ _ _
  · simp only [resolve, hg]; simp [go_sem]
  · simp [invoke, go_sem, eg]
  · have hdown : ∀ {β : Type} {J : β → World → Prop}, OwnFrom B J → OwnFrom W1.heap.size J := fun {β J} h s W W' row hs hgr hr => h s W W' row hs hgr (fun r e => ⟨by have := (hr r e).1; omega, (hr r e).2⟩)
    rw [hB] at hI hIx hAx
    refine (hit (B + 1) (fun k => S k ∨ k = B + 1) (fun j W => I j W ∧ Own2 .ready none W) (fun W => ∃ c, Ix c W ∧ Own2 .done (some c) W) (fun c W => Jp c W ∧ W.heap[B]? = some (.deferred (some []))) W1 hc1 (fun k hk => by
        rcases hk with hk | hk
        · exact ⟨hSR k hk, by have := hS k hk; omega⟩
        · exact ⟨fun e => by have := hRl k e; omega, by omega⟩)
      (OwnFrom.and (hdown hI) (fun s W W' row hs hgr hr => hfar (s := ()) W W' row hs hgr (by rwa [hs1] at hr)))
      (fun s W W' row hs hgr hr => by
        obtain ⟨c, hc, ho⟩ := hs
        exact ⟨c, hdown (hIx c) () W W' row hc hgr hr, hfar () W W' row ho hgr (by rwa [hs1] at hr)⟩) ?_ ⟨hI1, hO1⟩).mono ?_
    · rintro j x W hx ⟨hi, ho⟩
      have hy := run_yield (P := P) (args := enc x) (((hOwn2 _ _ _).1 ho).1.trans (by rw [hrec])) (hps x)
      refine ⟨f, _, assign, body, hy, roundIn_of_wpInZ hf (hassign _ j x W _ hx hi ?_)⟩
      clear hy
      intro a' Wa hoa hia hax
      have ho := hkeep ho hoa
      refine ⟨_, run_beginRound (((hOwn2 _ _ _).1 ho).1.trans (by rw [hrec])) rfl, ?_⟩
      have e2 : (Obj.loop { state := .busy, pending := none, fn := f, tmps := a.tmps, params := ps, assign := assign, body := body, defers := B }) = rec .busy none := (hrec _ _).symm
      simp only
      rw [e2]
      obtain ⟨ho2, hf2⟩ := hturn .busy none ho
      refine wpIn_mono (hbody (B + 1) j x a' _ (by omega) hx (hIput .busy none ho hia) ((hAx j x a').putObj (s := ()) _ hax (by omega) (((hOwn2 _ _ _).1 ho).1) (hnc _ _))) ?_
      have hend : ∀ (jump : Option Code) (W3 : World), Own2 .busy none W3 → (Instr.endRound (B + 1) jump).run P W3 = .ok (.bool jump.isNone) (W3.putObj (B + 1) (rec (if jump.isNone then .ready else .done) jump)) := fun jump W3 h3 => by
        have := run_endRound (P := P) jump (((hOwn2 _ _ _).1 h3).1.trans (by rw [hrec]))
        rw [hrec]
        exact this
      have hoff0 : ∀ {A C : World}, Off S A C → Off (fun k => S k ∨ k = B + 1) A C := fun h => h.mono (fun _ h => .inl h)
      rintro e a3 W3 hp
      cases e with
      | normal =>
        obtain ⟨hf3, hi3⟩ := hp
        have ho3 := hkeep ho2 hf3
        obtain ⟨ho4, hf4⟩ := hturn .ready none ho3
        exact ⟨_, _, hend none W3 ho3, .inl ⟨rfl, ⟨hIput .ready none ho3 hi3, ho4⟩, (hoff0 hoa).trans (hf2.trans ((hoff0 hf3).trans hf4))⟩⟩
      | ret =>
        obtain ⟨hf3, hi3⟩ := hp
        have ho3 := hkeep ho2 hf3
        exact ⟨_, _, hend (some .ret) W3 ho3, .inr (.inl ⟨rfl, ⟨.ret, hXput .done (some .ret) ho3 hi3, (hturn .done (some .ret) ho3).1⟩, (hoff0 hoa).trans (hf2.trans ((hoff0 hf3).trans (hturn .done (some .ret) ho3).2))⟩)⟩
      | exit id =>
        obtain ⟨hf3, hi3⟩ := hp
        have ho3 := hkeep ho2 hf3
        exact ⟨_, _, hend (some (.exit id)) W3 ho3, .inr (.inl ⟨rfl, ⟨.exit id, hXput .done (some (.exit id)) ho3 hi3, (hturn .done (some (.exit id)) ho3).1⟩, (hoff0 hoa).trans (hf2.trans ((hoff0 hf3).trans (hturn .done (some (.exit id)) ho3).2))⟩)⟩
      | goto t =>
        obtain ⟨hf3, hi3⟩ := hp
        have ho3 := hkeep ho2 hf3
        exact ⟨_, _, hend (some (.goto t)) W3 ho3, .inr (.inl ⟨rfl, ⟨.goto t, hXput .done (some (.goto t)) ho3 hi3, (hturn .done (some (.goto t)) ho3).1⟩, (hoff0 hoa).trans (hf2.trans ((hoff0 hf3).trans (hturn .done (some (.goto t)) ho3).2))⟩)⟩
      | panic ch =>
        obtain ⟨hd3, hf3, hj3⟩ := hp
        exact ⟨hd3, .inr (.inr ⟨ch, rfl, hj3, ((hOwn2 _ _ _).1 (hkeep ho2 hf3)).2⟩)⟩
      | outgrown => exact hp.elim
    · rintro e W2 (⟨⟨v, rfl⟩, h2⟩ | ⟨c, rfl, hj, hb⟩)
      rotate_left
      · exact hpanic B c W2 (by omega) hj hb
      have hlast : ∀ {st pe W}, Own2 st pe W → st ≠ .busy → (Instr.endLoop (B + 1)).run P W = .ok pe (W.putObj (B + 1) (rec .exhausted pe)) ∧ (W.putObj (B + 1) (rec .exhausted pe)).heap[B]? = some (.deferred (some [])) := fun {st pe W} h hb => by
        have := run_endLoop (P := P) (((hOwn2 _ _ _).1 h).1.trans (by rw [hrec])) hb
        rw [hrec]
        exact ⟨this, (World.putObj_heap_other (by omega)).trans ((hOwn2 _ _ _).1 h).2⟩
      rcases h2 with ⟨hi, ho⟩ | ⟨c, hi, ho⟩
      · obtain ⟨h3, h4⟩ := hlast ho (by simp)
        exact ⟨none, _, h3, hdone B _ (by omega) (hIput .exhausted none ho hi) h4⟩
      · obtain ⟨h3, h4⟩ := hlast ho (by simp)
        exact ⟨some c, _, h3, hstop B c _ (by omega) (hXput .exhausted (some c) ho hi) h4⟩
/-- As range_iterZ, where a round's head leaves the world as it is: what it makes of the frame is known. -/
theorem range_iterZs {f : FuncId} {fn : Func} {g : Operand} {ps : Array Tmp} {assign body : Code} {Q : Exit → Act → World → Prop} {a : Act} {w w0 : World} {gf : Nat} {lb : Array Value} {enc : α → Array Value} {xs : List α} {R : Nat → Prop} (asg : α → Act)
    (hf : P.funcs[f]? = some fn) (hg : a.eval g = .func (.func gf) #[] lb) (eg : ∀ args w, (callFunc gf args).run P w = .ok (.enter gf args) w) (hit : IterZ P gf lb enc xs R w0) (hw0 : Keeps R w0 w) (hRl : ∀ k, R k → k < w.heap.size) (hps : ∀ x, (enc x).size = ps.size)
    (S : Nat → Prop) (hSR : ∀ k, S k → ¬ R k) (hS : ∀ k, S k → k < w.heap.size) (I : Nat → World → Prop) (Ix : Code → World → Prop) (hI : OwnFrom w.heap.size I) (hIx : ∀ c, OwnFrom w.heap.size (fun (_ : Unit) => Ix c)) (h0 : I 0 w) (Jp : List PanicEntry → World → Prop)
    (hassign : ∀ (l j : Nat) (x : α) (W : World) (K : Act → World → Prop), K (asg x) W → assign.wpIn (Fence.wide.inRound l) 3 P (Exit.then K (fun _ _ _ => False)) { tmps := (ps.zip (enc x)).foldl (fun t (p, v) => t.setIfInBounds p v) a.tmps, defers := [] } W)
    (hbody : ∀ (l j : Nat) (x : α) (W : World), w.heap.size ≤ l → xs[j]? = some x → I j W → body.wpIn (Fence.wide.inRound l) 3 P (iterPostZ S I Ix Jp j W) (asg x) W)
    (hdone : ∀ (D : Nat) (W : World), w.heap.size ≤ D → I xs.length W → W.heap[D]? = some (.deferred (some [])) → Q .normal { a with defers := { target := .collected D, args := #[] } :: a.defers } W)
    (hstop : ∀ (D : Nat) (c : Code) (W : World), w.heap.size ≤ D → Ix c W → W.heap[D]? = some (.deferred (some [])) → c.wpIn Fence.wide 9 P Q { a with defers := { target := .collected D, args := #[] } :: a.defers } W)
    (hpanic : ∀ (D : Nat) (c : List PanicEntry) (W : World), w.heap.size ≤ D → Jp c W → W.heap[D]? = some (.deferred (some [])) → Q (.panic c) { a with defers := { target := .collected D, args := #[] } :: a.defers } W) :
    wpF P f (Code.rangeFunc g ps assign body) Q a w :=
  range_iterZ hf hg eg hit hw0 hRl hps S hSR hS I Ix hI hIx h0 Jp (fun _ x a' _ => a' = asg x) (fun _ _ _ _ _ _ _ hs _ _ => hs) (fun l j x W K hx hi hK => hassign l j x W K (hK _ _ (Off.refl _ _) hi rfl)) (fun l j x a' W hl hx hi e => by subst e; exact hbody l j x W hl hx hi) hdone hstop hpanic
end
end Go.Proofs.YtegflmaobmibnaaGreatDoor
