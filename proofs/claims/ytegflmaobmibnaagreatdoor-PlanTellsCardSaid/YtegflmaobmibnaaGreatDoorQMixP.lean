/- As XMix: a region that draws its order, some of whose calls may leave by a panic: of that is told what PZ says, which looks at no frame. -/
import Derived.Test.YtegflmaobmibnaaGreatDoorQLayOneM
namespace Go.Proofs.YtegflmaobmibnaaGreatDoor
open Go.RowKit
set_option linter.unusedVariables false

/-- Left by a panic, of which PZ holds. -/
def outZ (PZ : List PanicEntry → List Deferred → World → Prop) : Exit → Act → World → Prop := fun e a w => ∃ c, e = .panic c ∧ PZ c a.defers w
theorem put_defers (a : Act) (d : Option Tmp) (v : Value) : (a.put d v).defers = a.defers := by cases d <;> rfl
theorem outZ_put {PZ : List PanicEntry → List Deferred → World → Prop} {e : Exit} {a : Act} {d : Option Tmp} {v : Value} {w : World} (h : outZ PZ e (a.put d v) w) : outZ PZ e a w := by
  obtain ⟨c, he, hz⟩ := h
  rw [put_defers] at hz
  exact ⟨c, he, hz⟩
section
variable {PZ : List PanicEntry → List Deferred → World → Prop} {P : Program} {ops : Array Oper} {md : Region.Mode} {F : (World → Prop) → Prop}

/-- o leaves a world of a kind from which K goes on. -/
def TurnAtZ (PZ : List PanicEntry → List Deferred → World → Prop) (P : Program) (ops : Array Oper) (F : (World → Prop) → Prop) (o : Oper) (S : World → Prop) (K : (World → Prop) → Act → Prop) (a : Act) : Prop :=
  Region.wanted o (yielded ops a.tmps) = true ∧ ∀ w, S w → o.wp P a w (fun a' w' => ∃ u S', a' = a.put o.dst u ∧ F S' ∧ S' w' ∧ K S' (a.put o.dst u)) (outZ PZ)
theorem TurnAtZ.mono {o : Oper} {S : World → Prop} {K K' : (World → Prop) → Act → Prop} {a : Act} (h : ∀ S a, F S → K S a → K' S a) (hh : TurnAtZ PZ P ops F o S K a) : TurnAtZ PZ P ops F o S K' a :=
  ⟨hh.1, fun w hw => Oper.wp_mono (fun a' w' ⟨u, S', h1, h2, h3, h4⟩ => ⟨u, S', h1, h2, h3, h _ _ h2 h4⟩) (hh.2 w hw)⟩

theorem wp_quietZ {o : Oper} {a : Act} {w : World} {K K' : Act → World → Prop} {Q : Exit → Act → World → Prop} (hQ : ∀ c a' w', PZ c a'.defers w' → Q (.panic c) a' w') (h : o.wp P a w K (outZ PZ)) (hK : ∀ a' w', K a' w' → K' a' w') : o.wp P a w K' Q := by
  unfold Oper.wp at h ⊢
  generalize (execOp a.eval o).run P w = r at h
  cases r with
  | ok n w' =>
    cases n <;> simp only [Oper.upon] at h ⊢ <;>
      first
        | exact hK _ _ h
        | exact h.elim
        | (refine Calls.mono h fun e w'' q => ?_
           cases e with
           | returned u => exact hK _ _ q
           | panicked c => exact (let ⟨c', e', hz⟩ := q; by cases e'; exact hQ _ _ _ hz)
           | outgrown => exact (let ⟨_, _, _, hf, _⟩ := q; by cases hf))
        | exact Rows.mono h fun u w'' q => hK _ _ q
  | halt x w' =>
    cases x <;> simp only [Oper.upon] at h ⊢
    obtain ⟨c, e, hz⟩ := h
    cases e
    exact hQ _ _ _ hz

def mixOpZ (PZ : List PanicEntry → List Deferred → World → Prop) (P : Program) (ops : Array Oper) (F : (World → Prop) → Prop) (i : Nat) (K : (World → Prop) → Act → Prop) (S : World → Prop) (a : Act) : Prop :=
  match ops[i]? with
  | none => K S a
  | some o => (∃ v, DetAt P ops F o v a ∧ K S (a.put o.dst v)) ∨ TurnAtZ PZ P ops F o S K a
theorem mixOp_monoZ {i : Nat} {K K' : (World → Prop) → Act → Prop} {S : World → Prop} {a : Act} (hF : F S) (h : ∀ S a, F S → K S a → K' S a) (hh : mixOpZ PZ P ops F i K S a) : mixOpZ PZ P ops F i K' S a := by
  unfold mixOpZ at *
  split
  · rename_i ho; simp only [ho] at hh; exact h _ _ hF hh
  · rename_i o ho
    simp only [ho] at hh
    rcases hh with ⟨v, h1, h2⟩ | h2
    · exact .inl ⟨v, h1, h _ _ hF h2⟩
    · exact .inr (h2.mono h)
theorem wpOp_of_mixZ {Q : Exit → Act → World → Prop} (hQ : ∀ c a' w', PZ c a'.defers w' → Q (.panic c) a' w') {i : Nat} {K : (World → Prop) → Act → Prop} {K' : Act → World → Prop} {S : World → Prop} {a : Act} {w : World} (hF : F S) (hS : S w) (h : ∀ S a w, F S → K S a → S w → K' a w) (hh : mixOpZ PZ P ops F i K S a) : wpOp P ops Q i K' a w := by
  unfold mixOpZ at hh
  cases ho : ops[i]? with
  | none => unfold wpOp; simp only [ho] at hh ⊢; exact h _ _ _ hF hh hS
  | some o =>
    simp only [ho] at hh
    rcases hh with ⟨v, h1, h2⟩ | ⟨h1, h2⟩
    · exact wpOp_of_stOpS (S := S) (K := K S) hS (fun a w hk hs => h _ _ _ hF hk hs) (by unfold stOpS; simp only [ho]; exact ⟨v, h1 S hF, h2⟩)
    · unfold wpOp
      simp only [ho, h1, if_true]
      exact .inl (wp_quietZ hQ (h2 w hS) fun a' w' ⟨u, S', e, hF', hS', hK⟩ => by subst e; exact h _ _ _ hF' hK hS')

theorem mixOp_putZ {j : Nat} {oi oj : Oper} {v : Value} {K : (World → Prop) → Act → Prop} {S : World → Prop} {a : Act} (hj : ops[j]? = some oj) (hap : oi.apart ops oj = true)
    (hsi : ∀ cs b, oi.op ≠ .select cs b) (hsj : ∀ cs b, oj.op ≠ .select cs b) (hy : DetAt P ops F oi v a) (h : mixOpZ PZ P ops F j K S (a.put oi.dst v)) :
    mixOpZ PZ P ops F j (fun S' a' => DetAt P ops F oi v a' ∧ K S' (a'.put oi.dst v)) S a := by
  obtain ⟨h1, h2, h3⟩ := Oper.apart_spec hap
  have hyj : ∀ u, DetAt P ops F oi v (a.put oj.dst u) := fun u S' hS' => (hy S' hS').of_same (put_size _ _ _) (execOp_put oi hsi a oj.dst u h3) (wanted_put oi a oj.dst u h3)
  unfold mixOpZ at *
  simp only [hj] at *
  rcases h with ⟨u, hu, hK⟩ | ⟨hw, hK⟩
  · refine .inl ⟨u, fun S' hS' => (hu S' hS').of_same (put_size _ _ _).symm (execOp_put oj hsj a oi.dst v h1).symm (wanted_put oj a oi.dst v h1).symm, hyj u, ?_⟩
    rw [← Act.put_comm a v u h2]
    exact hK
  · refine .inr ⟨(wanted_put oj a oi.dst v h1).symm.trans hw, fun w hS => ?_⟩
    have hh := hK w hS
    have fin : ∀ (u : Value) (w' : World), (∃ u' S', (a.put oi.dst v).put oj.dst u = (a.put oi.dst v).put oj.dst u' ∧ F S' ∧ S' w' ∧ K S' ((a.put oi.dst v).put oj.dst u')) →
        ∃ u' S', a.put oj.dst u = a.put oj.dst u' ∧ F S' ∧ S' w' ∧ DetAt P ops F oi v (a.put oj.dst u') ∧ K S' ((a.put oj.dst u').put oi.dst v) := fun u w' ⟨u', S', e, hF', hS', hk⟩ =>
      ⟨u, S', rfl, hF', hS', hyj u, by rw [← Act.put_comm a v u h2, e]; exact hk⟩
    unfold Oper.wp at hh ⊢
    rw [execOp_put oj hsj a oi.dst v h1] at hh
    generalize (execOp a.eval oj).run P w = r at hh
    cases r with
    | ok n w' =>
      cases n <;> simp only [Oper.upon] at hh ⊢
      case value u => exact fin _ _ hh
      case skip => exact fin _ _ hh
      case defer d =>
        obtain ⟨u', S', e, _⟩ := hh
        have := congrArg (fun x => x.defers.length) e
        exfalso
        revert this
        cases oi.dst <;> cases oj.dst <;> simp [Act.put]
      case enter f args =>
        refine Calls.mono hh fun e w'' q => ?_
        cases e with
        | returned u => exact fin _ _ q
        | panicked c => exact outZ_put q
        | outgrown => exact q
      case row row args => exact Rows.mono hh fun u w'' q => fin _ _ q
    | halt x w' => cases x <;> simp only [Oper.upon] at hh ⊢ <;> exact outZ_put hh

/-- Whatever order is picked, till none is left. -/
def mixAllZ (PZ : List PanicEntry → List Deferred → World → Prop) (P : Program) (md : Region.Mode) (ops : Array Oper) (F : (World → Prop) → Prop) (L : (World → Prop) → Act → Prop) : Nat → Array Bool → (World → Prop) → Act → Prop
  | 0, listed, S, a => Region.ready md ops listed = [] ∧ L S a
  | f + 1, listed, S, a => (Region.ready md ops listed = [] → L S a) ∧ ∀ i ∈ Region.ready md ops listed, mixOpZ PZ P ops F i (mixAllZ PZ P md ops F L f (listed.setIfInBounds i true)) S a

theorem any_of_mixZ {Q : Exit → Act → World → Prop} (hQ : ∀ c a' w', PZ c a'.defers w' → Q (.panic c) a' w') {L : (World → Prop) → Act → Prop} (hL : ∀ S a, L S a → ∀ w, S w → Q .normal a w) :
    ∀ (f : Nat) (listed : Array Bool) (S : World → Prop) (a : Act), F S → mixAllZ PZ P md ops F L f listed S a → ∀ w, S w → wpAny P md ops Q f listed a w
  | 0, listed, S, a, _, h, w, hS => ⟨h.1, hL _ _ h.2 w hS⟩
  | f + 1, listed, S, a, hF, h, w, hS => ⟨fun h0 => hL _ _ (h.1 h0) w hS, fun i hi => wpOp_of_mixZ hQ hF hS (fun S' a' w' hF' h' hS' => any_of_mixZ hQ hL f _ S' a' hF' h' w' hS') (h.2 i hi)⟩

theorem mixAll_firstZ {i : Nat} {oi : Oper} {v : Value} {L : (World → Prop) → Act → Prop} (hi : ops[i]? = some oi) (hsel : ∀ (j : Nat) (o : Oper) cs b, ops[j]? = some o → o.op ≠ .select cs b) :
    ∀ (f : Nat) (listed : Array Bool) (S : World → Prop) (a : Act), F S →
      (∀ j oj, ops[j]? = some oj → j ≠ i → listed.getD j true = false → (∀ e ∈ oj.after, Region.binds md e = true → e.on ≠ i) → oi.apart ops oj = true) →
      i ∈ Region.ready md ops listed → DetAt P ops F oi v a →
      mixAllZ PZ P md ops F L f (listed.setIfInBounds i true) S (a.put oi.dst v) → mixAllZ PZ P md ops F L (f + 1) listed S a := by
  intro f
  induction f with
  | zero =>
    intro listed S a hF hfree hr hy H
    refine ⟨fun h => (by rw [h] at hr; cases hr), fun j hj => ?_⟩
    by_cases hji : j = i
    · subst hji; unfold mixOpZ; simp only [hi]; exact .inl ⟨v, hy, H⟩
    · have := ready_mono hj hji
      rw [H.1] at this
      cases this
  | succ f ih =>
    intro listed S a hF hfree hr hy H
    have hun := (mem_ready.1 hr).1
    refine ⟨fun h => (by rw [h] at hr; cases hr), fun j hj => ?_⟩
    by_cases hji : j = i
    · subst hji; unfold mixOpZ; simp only [hi]; exact .inl ⟨v, hy, H⟩
    · have h1 := H.2 j (ready_mono hj hji)
      obtain ⟨hjun, oj, hoj, hall⟩ := mem_ready.1 hj
      have hnot : ∀ e ∈ oj.after, Region.binds md e = true → e.on ≠ i := fun e he hb heq => by
        have h1 := hall e he hb
        rw [heq, getD_both hun] at h1
        cases h1
      have h2 := mixOp_putZ hoj (hfree j oj hoj hji hjun hnot) (fun cs b => hsel i oi cs b hi) (fun cs b => hsel j oj cs b hoj) hy h1
      refine mixOp_monoZ hF (fun S' a' hF' h3 => ih (listed.setIfInBounds j true) S' a' hF' (fun k ok hk hki hun' hno => hfree k ok hk hki ?_ hno) (ready_mono hr (Ne.symm hji)) h3.1 ?_) h2
      · by_cases hjk : j = k
        · subst hjk; exact hjun
        · rw [getD_set_ne true hjk] at hun'; exact hun'
      · rw [Array.setIfInBounds_comm _ _ hji]
        exact h3.2

def wpMixZ (PZ : List PanicEntry → List Deferred → World → Prop) (P : Program) (ops : Array Oper) (F : (World → Prop) → Prop) (L : (World → Prop) → Act → Prop) : List (Oper × Bool) → (World → Prop) → Act → Prop
  | [], S, a => L S a
  | (o, false) :: l, S, a => ∃ v, DetAt P ops F o v a ∧ wpMixZ PZ P ops F L l S (a.put o.dst v)
  | (o, true) :: l, S, a => TurnAtZ PZ P ops F o S (wpMixZ PZ P ops F L l) a

theorem mixAll_lexZ {L : (World → Prop) → Act → Prop} (hsel : Region.noSelect ops = true) :
    ∀ (is : List (Nat × Bool)) (listed : Array Bool) (S : World → Prop) (a : Act), F S → lexMix md ops is listed = true → wpMixZ PZ P ops F L (pickOps ops.toList is) S a → mixAllZ PZ P md ops F L is.length listed S a
  | [], listed, S, a, _, hB, h => ⟨by simpa [lexMix] using hB, h⟩
  | (k, b) :: is, listed, S, a, hF, hB, h => by
    simp only [lexMix, Bool.and_eq_true, decide_eq_true_eq] at hB
    obtain ⟨⟨hk, hB1⟩, hB2⟩ := hB
    have h0 : ops[k]? = some (ops[k]'hk) := Array.getElem?_eq_getElem hk
    generalize ops[k]'hk = o at h0
    have h0' : ops.toList[k]? = some o := by simpa using h0
    simp only [pickOps, h0'] at h
    cases b with
    | false =>
      simp only [Bool.false_eq_true, if_false, Bool.and_eq_true] at hB1
      obtain ⟨v, hy, hK⟩ := h
      exact mixAll_firstZ h0 (Region.noSelect_spec hsel) is.length listed S a hF (Region.free_spec h0 hB1.2) (by simpa using hB1.1) hy (mixAll_lexZ hsel is _ S _ hF hB2 hK)
    | true =>
      simp only [if_true, decide_eq_true_eq] at hB1
      refine ⟨fun h => (by rw [h] at hB1; cases hB1), fun j hj => ?_⟩
      rw [hB1] at hj
      obtain rfl : j = k := by simpa using hj
      unfold mixOpZ
      simp only [h0]
      exact .inr (TurnAtZ.mono (fun S' a' hF' hk' => mixAll_lexZ hsel is _ S' a' hF' hB2 hk') h)

theorem region_mixZ {id : Nat} (PZ : List PanicEntry → List Deferred → World → Prop) {Q : Exit → Act → World → Prop} (hQ : ∀ c a' w', PZ c a'.defers w' → Q (.panic c) a' w') {a : Act} {w : World} {l : List Oper} (B : World → Prop) (is : List (Nat × Bool)) (hm : P.follows .mixedOrders = true) (hB : mixB l.toArray is = true)
    (S : World → Prop) (hF : Fam B S) (hS : S w.drew)
    (h : wpMixZ PZ P l.toArray (Fam B) (fun S' a' => ∀ w', S' w' → Q .normal a' w') (pickOps l is) S a) : (Code.region id l.toArray true).wp P Q a w := by
  unfold mixB at hB
  simp only [Bool.and_eq_true, decide_eq_true_eq] at hB
  obtain ⟨hsel, hlen, hlex⟩ := hB
  refine wp_region_any hm ?_
  have := any_of_mixZ (PZ := PZ) (Q := Q) hQ (fun S' a' hL w' hw => hL w' hw) is.length _ S a hF (mixAll_lexZ (md := .any) hsel is _ S a hF hlex h) w.drew hS
  rw [hlen] at this
  exact this

variable {B S : World → Prop} {L : (World → Prop) → Act → Prop} {o : Oper} {l : List (Oper × Bool)} {a : Act}
theorem mix_nilZ (h : L S a) : wpMixZ PZ P ops (Fam B) L [] S a := h
theorem mix_skipZ (hw : Region.wanted o (yielded ops a.tmps) = false) (h : wpMixZ PZ P ops (Fam B) L l S (a.put o.dst undef)) : wpMixZ PZ P ops (Fam B) L ((o, false) :: l) S a := ⟨undef, fun _ _ => .inr ⟨hw, rfl⟩, h⟩
theorem mix_readZ (v : Value) (hw : Region.wanted o (yielded ops a.tmps) = true) (hv : ∀ w, B w → (execOp a.eval o).run P w = .ok (.value v) w) (h : wpMixZ PZ P ops (Fam B) L l S (a.put o.dst v)) : wpMixZ PZ P ops (Fam B) L ((o, false) :: l) S a :=
  ⟨v, fun S' hS' => .inl ⟨hw, fun w hS K hK => by unfold Oper.wp; rw [hv w (hS'.2 w hS)]; exact hK w hS⟩, h⟩
theorem mix_yieldZ {X : Type} (val : X → Value) (S' : X → World → Prop) (hF' : ∀ x, Fam B (S' x)) (hw : Region.wanted o (yielded ops a.tmps) = true) (hv : ∀ w, S w → ∃ x w', (execOp a.eval o).run P w = .ok (.value (val x)) w' ∧ S' x w')
    (h : ∀ x, wpMixZ PZ P ops (Fam B) L l (S' x) (a.put o.dst (val x))) : wpMixZ PZ P ops (Fam B) L ((o, true) :: l) S a :=
  ⟨hw, fun w hS => by
    obtain ⟨x, w', hr, hs⟩ := hv w hS
    unfold Oper.wp
    rw [hr]
    exact ⟨val x, S' x, rfl, hF' x, hs, h x⟩⟩
theorem mix_makeZ (val : Nat → Value) (n : Nat) (t : TypeId) (zs : List Value) (hF : Fam B S) (hn : ∀ w, S w → n ≤ w.heap.size) (hw : Region.wanted o (yielded ops a.tmps) = true)
    (hv : ∀ w, S w → (execOp a.eval o).run P w = .ok (.value (val w.heap.size)) (w.alloc (.cells zs.toArray t)))
    (h : ∀ g, n ≤ g → wpMixZ PZ P ops (Fam B) L l (fun w => S w ∧ Whole w g t zs) (a.put o.dst (val g))) : wpMixZ PZ P ops (Fam B) L ((o, true) :: l) S a :=
  ⟨hw, fun w hS => by
    unfold Oper.wp
    rw [hv w hS]
    exact ⟨_, _, rfl, ⟨hF.1.and (Closed.whole _ _ _), fun w hw => hF.2 w hw.1⟩, ⟨hF.1 _ _ hS (below1 w _), Whole.new w t zs⟩, h _ (hn w hS)⟩⟩

/-- A call that yields, or leaves by a panic. -/
theorem mix_tryZ {X : Type} (val : X → Value) (S' : X → World → Prop) (hF' : ∀ x, Fam B (S' x)) (f : FuncId) (args : Array Value) (hw : Region.wanted o (yielded ops a.tmps) = true) (hv : ∀ w, S w → (execOp a.eval o).run P w = .ok (.enter f args) w)
    (hc : ∀ w, S w → Calls P f args w fun e w' => (∃ x, e = .returned (val x) ∧ S' x w') ∨ (∃ c, e = .panicked c ∧ PZ c a.defers w')) (h : ∀ x, wpMixZ PZ P ops (Fam B) L l (S' x) (a.put o.dst (val x))) : wpMixZ PZ P ops (Fam B) L ((o, true) :: l) S a :=
  ⟨hw, fun w hS => by
    unfold Oper.wp
    rw [hv w hS]
    refine (hc w hS).mono ?_
    rintro e w' (⟨x, rfl, ht⟩ | ⟨c, rfl, hz⟩)
    · exact ⟨val x, _, rfl, hF' x, ht, h x⟩
    · exact ⟨c, rfl, hz⟩⟩
end
end Go.Proofs.YtegflmaobmibnaaGreatDoor
