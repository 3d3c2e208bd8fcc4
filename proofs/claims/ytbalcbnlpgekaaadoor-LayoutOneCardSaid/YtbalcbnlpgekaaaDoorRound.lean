/- A region that draws its order within a round of a range over a function: by the plain walk, where nothing is deferred. -/
import Derived.WalkKit
import Derived.OrdersIn
import Derived.StillTailTactics
import Derived.RangeFuncCalls
import Derived.WalkMore
import Derived.ScopeJumps
import Derived.RangeFuncBox
namespace Go.Proofs.YtbalcbnlpgekaaaDoor
set_option linter.unusedVariables false

theorem oper_inRound {P : Program} (l n : Nat) {o : Oper} (hd : ∀ c, o.op ≠ .defer c) {a : Act} {w : World} {K : Act → World → Prop} {Q : Exit → Act → World → Prop} (h : o.wp P a w K Q) : o.wpIn (Fence.wide.inRound l) n P a w K Q := by
  unfold Oper.wp at h
  unfold Oper.wpIn
  refine ⟨fun _ _ => trivial, ?_⟩
  rw [Fence.inRound_round, Oper.semAt_some l _ _ hd]
  generalize (execOp a.eval o).run P w = r at h
  cases r with
  | ok x w' =>
    cases x <;> simp only [Oper.upon, Oper.uponIn] at h ⊢ <;>
      first
        | exact h
        | exact h.elim
        | (refine ⟨fun e => by simp [Fence.wide] at e, CallsIn.inRound l (callsIn_wide.2 (h.mono ?_))⟩
           intro e w'' q
           cases e <;> exact q)
        | exact ⟨fun e => by simp [Fence.wide] at e, fun c cs _ => let ⟨v, w'', r, s⟩ := h c cs; ⟨v, w'', r, stepsIn_wide.2 s⟩⟩
  | halt x w' => cases x <;> simp only [Oper.upon, Oper.uponIn] at h ⊢ <;> exact h

/-- Nothing is deferred here. -/
def noDefer (ops : Array Oper) : Bool := ops.all fun o => match o.op with | .defer _ => false | _ => true
theorem noDefer_at {ops : Array Oper} (h : noDefer ops = true) {i : Nat} {o : Oper} (ho : ops[i]? = some o) : ∀ c, o.op ≠ .defer c := by
  intro c hc
  obtain ⟨hi, rfl⟩ := Array.getElem?_eq_some_iff.1 ho
  have := Array.all_eq_true.1 h i hi
  simp [hc] at this

theorem any_inRound {P : Program} (l n : Nat) {ops : Array Oper} (hd : noDefer ops = true) {Q : Exit → Act → World → Prop} (hq : ¬ LetsOut Q) :
    ∀ (fuel : Nat) (listed : Array Bool) (a : Act) (w : World), wpAny P .any ops Q fuel listed a w → wpAnyIn (Fence.wide.inRound l) n P .any ops Q fuel listed a w
  | 0, listed, a, w, h => h
  | fuel + 1, listed, a, w, h => by
    refine ⟨h.1, fun i hi => ?_⟩
    have hi' := h.2 i hi
    unfold wpOp at hi'
    unfold wpOpIn
    cases ho : ops[i]? with
    | none => simp only [ho] at hi'; exact any_inRound l n hd hq fuel _ _ _ hi'
    | some o =>
      simp only [ho] at hi' ⊢
      by_cases hw : Region.wanted o (yielded ops a.tmps) = true
      · rw [if_pos hw] at hi' ⊢
        rcases hi' with hi' | hi'
        · exact Oper.wpIn_mono (fun a w => any_inRound l n hd hq fuel _ a w) (oper_inRound l n (noDefer_at hd ho) hi')
        · exact absurd hi'.2 hq
      · rw [if_neg hw] at hi' ⊢
        exact ⟨fun _ _ => trivial, any_inRound l n hd hq fuel _ _ _ hi'⟩

/-- All operations ahead of the n-th only read; from there on each waits for the one ahead of it. -/
theorem region_inRound {P : Program} (l m id : Nat) {Q : Exit → Act → World → Prop} {a : Act} {w : World} {L : List Oper} (n : Nat) (hm : P.follows .mixedOrders = true) (hB : Region.lexTailB .any L.toArray n = true) (hd : noDefer L.toArray = true) (hq : ¬ LetsOut Q)
    (h : wpStill P L.toArray w.drew (fun a' => wpList P L.toArray Q (L.drop n) a' w.drew) (L.take n) a) : (Code.region id L.toArray true).wpIn (Fence.wide.inRound l) m P Q a w := by
  refine wpIn_region_any hm (any_inRound l m hd hq _ _ _ _ ?_)
  simp only [Region.lexTailB, Bool.and_eq_true, decide_eq_true_eq] at hB
  obtain ⟨⟨⟨⟨b1, b2⟩, b3⟩, b4⟩, b5⟩ := hB
  have hn : n < L.length := by simpa using b2
  have e1 : (L.take n).length = n := by rw [List.length_take]; omega
  have e2 : (L.drop n).length = L.toArray.size - n := by simp
  have start : HeadInv .any L.toArray n (Array.replicate L.toArray.size false) :=
    { size := by simp
      closed := fun j oj _ hl => by rw [getD_replicate_false] at hl; cases hl
      tail := fun t _ ht => getD_in (by simpa using ht) (getD_replicate_false _ _) }
  have lex := wpAnyL_lex (md := .any) (g := L.toArray.size - n) b1 b3 b4 b2 (L.take n) 0 _ a (fun j hj => by rw [e1] at hj; simp [hj]) (by rw [e1, Nat.zero_add]) start (by rw [e1]; exact b5) h
  have all := wpAny_of_head (Q' := Q) (g := L.toArray.size - n) (fun listed a' hL => by
    have s := wpAny_of_seq (md := .any) (Q' := Q) (L.drop n) n listed a' w.drew (fun j => by rw [List.getElem?_drop, List.getElem?_toArray]) (by rw [e2]; exact hL.1) hL.2
    rw [e2] at s
    exact s) _ _ _ lex
  rw [e1, Nat.add_sub_cancel' (Nat.le_of_lt b2)] at all
  exact all

/-- .. and outside a round, under the wide fence. -/
theorem region_wide {P : Program} (m id : Nat) {Q : Exit → Act → World → Prop} {a : Act} {w : World} {L : List Oper} (n : Nat) (hm : P.follows .mixedOrders = true) (hB : Region.lexTailB .any L.toArray n = true)
    (h : wpStill P L.toArray w.drew (fun a' => wpList P L.toArray Q (L.drop n) a' w.drew) (L.take n) a) : (Code.region id L.toArray true).wpIn Fence.wide m P Q a w :=
  wpIn_wide.2 (wp_region_still_tail n hm hB h)

/-- A piece of code that is left in no other way than by its end. -/
theorem wpIn_normal {F : Fence} {n : Nat} {P : Program} {c : Code} {K : Act → World → Prop} {Q' : Exit → Act → World → Prop} {a : Act} {w : World} (h : c.wpIn F n P (Exit.then K (fun _ _ _ => False)) a w) : c.wpIn F n P (Exit.then K Q') a w :=
  wpIn_mono h (by intro e a w q; cases e <;> first | exact q | exact q.elim)
theorem noLetsOut {K : Act → World → Prop} : ¬ LetsOut (Exit.then K (fun _ _ _ => False)) := by rintro ⟨a, w, h⟩; exact h

/-- As Q; but behind a goto to label l the rest is walked, which goes to no label any more. -/
def Exit.fwd (P : Program) (l : Nat) (rest : Code) (Q : Exit → Act → World → Prop) : Exit → Act → World → Prop
  | .goto l', a, w => l' = l ∧ rest.wp P (Exit.noGoto Q) a w
  | e, a, w => Q e a w
section
variable {P : Program} {l : Nat} {rest : Code} {Q : Exit → Act → World → Prop} {a : Act} {w : World}
theorem fwd_goto (l' : Nat) : Exit.fwd P l rest Q (.goto l') a w = (l' = l ∧ rest.wp P (Exit.noGoto Q) a w) := rfl
theorem fwd_ret : Exit.fwd P l rest Q .ret a w = Q .ret a w := rfl
theorem fwd_normal : Exit.fwd P l rest Q .normal a w = Q .normal a w := rfl
/-- A scope in which a run may jump ahead to one label. -/
theorem wp_scope_fwd {c : Code} (hf : findLabel c l = some rest) (h : c.wp P (Exit.fwd P l rest Q) a w) : (Code.scope c).wp P Q a w := by
  refine wp_scope_jumps l (fun a' w' => rest.wp P (Exit.noGoto Q) a' w') (fun _ _ => 0) hf (wp_mono h fun e a w q => ?_) (fun a' w' hJ => wp_mono hJ fun e a w q => ?_)
  · cases e <;> exact q
  · cases e <;> first | exact q | exact (q : False).elim
end
end Go.Proofs.YtbalcbnlpgekaaaDoor
