/- A region that draws its order, some of whose operations make or fill memory (a call that yields what lies anew, an alloc, a store): one way. The document's own layer 6: the section of a port, the way of a step; the first signal, exit. The document's own layer 6: whose numbers may be: a section, an exit, a flank, the times. The document's own layer 6: Right. -/
import Derived.Test.YtbalcbnlpgekaaaDoorClosed
import Derived.Test.YtbalcbnlpgekaaaDoorSteady3
import Derived.Deep.MidRow
import Derived.Test.YtbalcbnlpgekaaaDoorLayP
import Derived.Test.YtbalcbnlpgekaaaDoorLayFinds
import Derived.Test.YtbalcbnlpgekaaaDoorLayK
namespace Go.Proofs.YtbalcbnlpgekaaaDoor
open Go.RowKit
set_option linter.unusedVariables false

section
variable {P : Program} {ops : Array Oper} {md : Region.Mode} {F : (World → Prop) → Prop}

/-- In every kind of world o leaves v. -/
def DetAt (P : Program) (ops : Array Oper) (F : (World → Prop) → Prop) (o : Oper) (v : Value) (a : Act) : Prop := ∀ S, F S → SteadyAt P ops S o v a
/-- o leaves a world of a kind from which K goes on. -/
def TurnAt (P : Program) (ops : Array Oper) (F : (World → Prop) → Prop) (o : Oper) (S : World → Prop) (K : (World → Prop) → Act → Prop) (a : Act) : Prop :=
  Region.wanted o (yielded ops a.tmps) = true ∧ ∀ w, S w → o.wp P a w (fun a' w' => ∃ u S', a' = a.put o.dst u ∧ F S' ∧ S' w' ∧ K S' (a.put o.dst u)) (fun _ _ _ => False)
theorem TurnAt.mono {o : Oper} {S : World → Prop} {K K' : (World → Prop) → Act → Prop} {a : Act} (h : ∀ S a, F S → K S a → K' S a) (hh : TurnAt P ops F o S K a) : TurnAt P ops F o S K' a :=
  ⟨hh.1, fun w hw => Oper.wp_mono (fun a' w' ⟨u, S', h1, h2, h3, h4⟩ => ⟨u, S', h1, h2, h3, h _ _ h2 h4⟩) (hh.2 w hw)⟩

theorem wp_quiet {o : Oper} {a : Act} {w : World} {K K' : Act → World → Prop} {Q : Exit → Act → World → Prop} (h : o.wp P a w K (fun _ _ _ => False)) (hK : ∀ a' w', K a' w' → K' a' w') : o.wp P a w K' Q := by
  unfold Oper.wp at h ⊢
  generalize (execOp a.eval o).run P w = r at h
  cases r with
  | ok n w' =>
    cases n <;> simp only [Oper.upon] at h ⊢ <;>
      first
        | exact hK _ _ h
        | exact h.elim
        | (refine Calls.mono h fun e w'' q => ?_
           cases e with
           | returned u => exact hK _ _ q
           | panicked c => exact (q : False).elim
           | outgrown => exact (let ⟨_, _, hf⟩ := q; hf.elim))
        | exact Rows.mono h fun u w'' q => hK _ _ q
  | halt x w' => cases x <;> simp only [Oper.upon] at h ⊢

def mixOp (P : Program) (ops : Array Oper) (F : (World → Prop) → Prop) (i : Nat) (K : (World → Prop) → Act → Prop) (S : World → Prop) (a : Act) : Prop :=
  match ops[i]? with
  | none => K S a
  | some o => (∃ v, DetAt P ops F o v a ∧ K S (a.put o.dst v)) ∨ TurnAt P ops F o S K a
theorem mixOp_mono {i : Nat} {K K' : (World → Prop) → Act → Prop} {S : World → Prop} {a : Act} (hF : F S) (h : ∀ S a, F S → K S a → K' S a) (hh : mixOp P ops F i K S a) : mixOp P ops F i K' S a := by
  unfold mixOp at *
  split
  · rename_i ho; simp only [ho] at hh; exact h _ _ hF hh
  · rename_i o ho
    simp only [ho] at hh
    rcases hh with ⟨v, h1, h2⟩ | h2
    · exact .inl ⟨v, h1, h _ _ hF h2⟩
    · exact .inr (h2.mono h)
theorem wpOp_of_mix {Q : Exit → Act → World → Prop} {i : Nat} {K : (World → Prop) → Act → Prop} {K' : Act → World → Prop} {S : World → Prop} {a : Act} {w : World} (hF : F S) (hS : S w) (h : ∀ S a w, F S → K S a → S w → K' a w) (hh : mixOp P ops F i K S a) : wpOp P ops Q i K' a w := by
  unfold mixOp at hh
  cases ho : ops[i]? with
  | none => unfold wpOp; simp only [ho] at hh ⊢; exact h _ _ _ hF hh hS
  | some o =>
    simp only [ho] at hh
    rcases hh with ⟨v, h1, h2⟩ | ⟨h1, h2⟩
    · exact wpOp_of_stOpS (S := S) (K := K S) hS (fun a w hk hs => h _ _ _ hF hk hs) (by unfold stOpS; simp only [ho]; exact ⟨v, h1 S hF, h2⟩)
    · unfold wpOp
      simp only [ho, h1, if_true]
      exact .inl (wp_quiet (h2 w hS) fun a' w' ⟨u, S', e, hF', hS', hK⟩ => by subst e; exact h _ _ _ hF' hK hS')

theorem mixOp_put {j : Nat} {oi oj : Oper} {v : Value} {K : (World → Prop) → Act → Prop} {S : World → Prop} {a : Act} (hj : ops[j]? = some oj) (hap : oi.apart ops oj = true)
    (hsi : ∀ cs b, oi.op ≠ .select cs b) (hsj : ∀ cs b, oj.op ≠ .select cs b) (hy : DetAt P ops F oi v a) (h : mixOp P ops F j K S (a.put oi.dst v)) :
    mixOp P ops F j (fun S' a' => DetAt P ops F oi v a' ∧ K S' (a'.put oi.dst v)) S a := by
  obtain ⟨h1, h2, h3⟩ := Oper.apart_spec hap
  have hyj : ∀ u, DetAt P ops F oi v (a.put oj.dst u) := fun u S' hS' => (hy S' hS').of_same (put_size _ _ _) (execOp_put oi hsi a oj.dst u h3) (wanted_put oi a oj.dst u h3)
  unfold mixOp at *
  simp only [hj] at *
  rcases h with ⟨u, hu, hK⟩ | ⟨hw, hK⟩
  · refine .inl ⟨u, fun S' hS' => (hu S' hS').of_same (put_size _ _ _).symm (execOp_put oj hsj a oi.dst v h1).symm (wanted_put oj a oi.dst v h1).symm, hyj u, ?_⟩
    rw [← Act.put_comm a v u h2]
    exact hK
  · refine .inr ⟨(wanted_put oj a oi.dst v h1).symm.trans hw, fun w hS => ?_⟩
    have hh := hK w hS
    have fin : ∀ (u : Value) (w' : World), (∃ u' S', (a.put oi.dst v).put oj.dst u = (a.put oi.dst v).put oj.dst u' ∧ F S' ∧ S' w' ∧ K S' ((a.put oi.dst v).put oj.dst u')) →
        ∃ u' S', a.put oj.dst u = a.put oj.dst u' ∧ F S' ∧ S' w' ∧ DetAt P ops F oi v (a.put oj.dst u') ∧ K S' ((a.put oj.dst u').put oi.dst v) := fun u w' ⟨u', S', e, hF', hS', hk⟩ =>
      ⟨u, S', rfl, hF', hS', hyj u, by rw [← Act.put_comm a v u h2, e]; exact hk⟩
    unfold Oper.wp at hh ⊢
    rw [execOp_put oj hsj a oi.dst v h1] at hh
    generalize (execOp a.eval oj).run P w = r at hh
    cases r with
    | ok n w' =>
      cases n <;> simp only [Oper.upon] at hh ⊢
      case value u => exact fin _ _ hh
      case skip => exact fin _ _ hh
      case defer d =>
        obtain ⟨u', S', e, _⟩ := hh
        have := congrArg (fun x => x.defers.length) e
        exfalso
        revert this
        cases oi.dst <;> cases oj.dst <;> simp [Act.put]
      case enter f args =>
        refine Calls.mono hh fun e w'' q => ?_
        cases e with
        | returned u => exact fin _ _ q
        | panicked c => exact q
        | outgrown => exact q
      case row row args => exact Rows.mono hh fun u w'' q => fin _ _ q
    | halt x w' => cases x <;> simp only [Oper.upon] at hh ⊢

/-- Whatever order is picked, till none is left. -/
def mixAll (P : Program) (md : Region.Mode) (ops : Array Oper) (F : (World → Prop) → Prop) (L : (World → Prop) → Act → Prop) : Nat → Array Bool → (World → Prop) → Act → Prop
  | 0, listed, S, a => Region.ready md ops listed = [] ∧ L S a
  | f + 1, listed, S, a => (Region.ready md ops listed = [] → L S a) ∧ ∀ i ∈ Region.ready md ops listed, mixOp P ops F i (mixAll P md ops F L f (listed.setIfInBounds i true)) S a

theorem any_of_mix {Q : Exit → Act → World → Prop} {L : (World → Prop) → Act → Prop} (hL : ∀ S a, L S a → ∀ w, S w → Q .normal a w) :
    ∀ (f : Nat) (listed : Array Bool) (S : World → Prop) (a : Act), F S → mixAll P md ops F L f listed S a → ∀ w, S w → wpAny P md ops Q f listed a w
  | 0, listed, S, a, _, h, w, hS => ⟨h.1, hL _ _ h.2 w hS⟩
  | f + 1, listed, S, a, hF, h, w, hS => ⟨fun h0 => hL _ _ (h.1 h0) w hS, fun i hi => wpOp_of_mix hF hS (fun S' a' w' hF' h' hS' => any_of_mix hL f _ S' a' hF' h' w' hS') (h.2 i hi)⟩

theorem mixAll_first {i : Nat} {oi : Oper} {v : Value} {L : (World → Prop) → Act → Prop} (hi : ops[i]? = some oi) (hsel : ∀ (j : Nat) (o : Oper) cs b, ops[j]? = some o → o.op ≠ .select cs b) :
    ∀ (f : Nat) (listed : Array Bool) (S : World → Prop) (a : Act), F S →
      (∀ j oj, ops[j]? = some oj → j ≠ i → listed.getD j true = false → (∀ e ∈ oj.after, Region.binds md e = true → e.on ≠ i) → oi.apart ops oj = true) →
      i ∈ Region.ready md ops listed → DetAt P ops F oi v a →
      mixAll P md ops F L f (listed.setIfInBounds i true) S (a.put oi.dst v) → mixAll P md ops F L (f + 1) listed S a := by
  intro f
  induction f with
  | zero =>
    intro listed S a hF hfree hr hy H
    refine ⟨fun h => (by rw [h] at hr; cases hr), fun j hj => ?_⟩
    by_cases hji : j = i
    · subst hji; unfold mixOp; simp only [hi]; exact .inl ⟨v, hy, H⟩
    · have := ready_mono hj hji
      rw [H.1] at this
      cases this
  | succ f ih =>
    intro listed S a hF hfree hr hy H
    have hun := (mem_ready.1 hr).1
    refine ⟨fun h => (by rw [h] at hr; cases hr), fun j hj => ?_⟩
    by_cases hji : j = i
    · subst hji; unfold mixOp; simp only [hi]; exact .inl ⟨v, hy, H⟩
    · have h1 := H.2 j (ready_mono hj hji)
      obtain ⟨hjun, oj, hoj, hall⟩ := mem_ready.1 hj
      have hnot : ∀ e ∈ oj.after, Region.binds md e = true → e.on ≠ i := fun e he hb heq => by
        have h1 := hall e he hb
        rw [heq, getD_both hun] at h1
        cases h1
      have h2 := mixOp_put hoj (hfree j oj hoj hji hjun hnot) (fun cs b => hsel i oi cs b hi) (fun cs b => hsel j oj cs b hoj) hy h1
      refine mixOp_mono hF (fun S' a' hF' h3 => ih (listed.setIfInBounds j true) S' a' hF' (fun k ok hk hki hun' hno => hfree k ok hk hki ?_ hno) (ready_mono hr (Ne.symm hji)) h3.1 ?_) h2
      · by_cases hjk : j = k
        · subst hjk; exact hjun
        · rw [getD_set_ne true hjk] at hun'; exact hun'
      · rw [Array.setIfInBounds_comm _ _ hji]
        exact h3.2

/-- The operations in another order; true: one that turns the kind of world. -/
def pickOps (l : List Oper) : List (Nat × Bool) → List (Oper × Bool)
  | [] => []
  | (i, b) :: is => match l[i]? with
    | some o => (o, b) :: pickOps l is
    | none => []
/-- One behind the other in that order; one that turns comes alone. -/
def lexMix (md : Region.Mode) (ops : Array Oper) : List (Nat × Bool) → Array Bool → Bool
  | [], listed => (Region.ready md ops listed).isEmpty
  | (k, b) :: is, listed => decide (k < ops.size) && (if b then decide (Region.ready md ops listed = [k]) else (Region.ready md ops listed).contains k && Region.free md ops listed k) && lexMix md ops is (listed.setIfInBounds k true)
def wpMix (P : Program) (ops : Array Oper) (F : (World → Prop) → Prop) (L : (World → Prop) → Act → Prop) : List (Oper × Bool) → (World → Prop) → Act → Prop
  | [], S, a => L S a
  | (o, false) :: l, S, a => ∃ v, DetAt P ops F o v a ∧ wpMix P ops F L l S (a.put o.dst v)
  | (o, true) :: l, S, a => TurnAt P ops F o S (wpMix P ops F L l) a

theorem mixAll_lex {L : (World → Prop) → Act → Prop} (hsel : Region.noSelect ops = true) :
    ∀ (is : List (Nat × Bool)) (listed : Array Bool) (S : World → Prop) (a : Act), F S → lexMix md ops is listed = true → wpMix P ops F L (pickOps ops.toList is) S a → mixAll P md ops F L is.length listed S a
  | [], listed, S, a, _, hB, h => ⟨by simpa [lexMix] using hB, h⟩
  | (k, b) :: is, listed, S, a, hF, hB, h => by
    simp only [lexMix, Bool.and_eq_true, decide_eq_true_eq] at hB
    obtain ⟨⟨hk, hB1⟩, hB2⟩ := hB
    have h0 : ops[k]? = some (ops[k]'hk) := Array.getElem?_eq_getElem hk
    generalize ops[k]'hk = o at h0
    have h0' : ops.toList[k]? = some o := by simpa using h0
    simp only [pickOps, h0'] at h
    cases b with
    | false =>
      simp only [Bool.false_eq_true, if_false, Bool.and_eq_true] at hB1
      obtain ⟨v, hy, hK⟩ := h
      exact mixAll_first h0 (Region.noSelect_spec hsel) is.length listed S a hF (Region.free_spec h0 hB1.2) (by simpa using hB1.1) hy (mixAll_lex hsel is _ S _ hF hB2 hK)
    | true =>
      simp only [if_true, decide_eq_true_eq] at hB1
      refine ⟨fun h => (by rw [h] at hB1; cases hB1), fun j hj => ?_⟩
      rw [hB1] at hj
      obtain rfl : j = k := by simpa using hj
      unfold mixOp
      simp only [h0]
      exact .inr (TurnAt.mono (fun S' a' hF' hk' => mixAll_lex hsel is _ S' a' hF' hB2 hk') h)

/-- The kinds of world: closed, and such as B says. -/
def Fam (B : World → Prop) (S : World → Prop) : Prop := Closed S ∧ ∀ w, S w → B w
def mixB (ops : Array Oper) (is : List (Nat × Bool)) : Bool := Region.noSelect ops && (decide (is.length = ops.size) && lexMix .any ops is (Array.replicate ops.size false))
theorem region_mix {id : Nat} {Q : Exit → Act → World → Prop} {a : Act} {w : World} {l : List Oper} (B : World → Prop) (is : List (Nat × Bool)) (hm : P.follows .mixedOrders = true) (hB : mixB l.toArray is = true)
    (S : World → Prop) (hF : Fam B S) (hS : S w.drew)
    (h : wpMix P l.toArray (Fam B) (fun S' a' => ∀ w', S' w' → Q .normal a' w') (pickOps l is) S a) : (Code.region id l.toArray true).wp P Q a w := by
  unfold mixB at hB
  simp only [Bool.and_eq_true, decide_eq_true_eq] at hB
  obtain ⟨hsel, hlen, hlex⟩ := hB
  refine wp_region_any hm ?_
  have := any_of_mix (Q := Q) (fun S' a' hL w' hw => hL w' hw) is.length _ S a hF (mixAll_lex (md := .any) hsel is _ S a hF hlex h) w.drew hS
  rw [hlen] at this
  exact this

variable {B S : World → Prop} {L : (World → Prop) → Act → Prop} {o : Oper} {l : List (Oper × Bool)} {a : Act}
theorem mix_nil (h : L S a) : wpMix P ops (Fam B) L [] S a := h
theorem mix_skip (hw : Region.wanted o (yielded ops a.tmps) = false) (h : wpMix P ops (Fam B) L l S (a.put o.dst undef)) : wpMix P ops (Fam B) L ((o, false) :: l) S a := ⟨undef, fun _ _ => .inr ⟨hw, rfl⟩, h⟩
theorem mix_read (v : Value) (hw : Region.wanted o (yielded ops a.tmps) = true) (hv : ∀ w, B w → (execOp a.eval o).run P w = .ok (.value v) w) (h : wpMix P ops (Fam B) L l S (a.put o.dst v)) : wpMix P ops (Fam B) L ((o, false) :: l) S a :=
  ⟨v, fun S' hS' => .inl ⟨hw, fun w hS K hK => by unfold Oper.wp; rw [hv w (hS'.2 w hS)]; exact hK w hS⟩, h⟩
theorem mix_call (f : FuncId) (args : Array Value) (v : Value) (hw : Region.wanted o (yielded ops a.tmps) = true) (hv : ∀ w, B w → (execOp a.eval o).run P w = .ok (.enter f args) w)
    (hc : ∀ w, B w → Calls P f args w fun e w' => e = .returned v ∧ Below w.heap.size w w') (h : wpMix P ops (Fam B) L l S (a.put o.dst v)) : wpMix P ops (Fam B) L ((o, false) :: l) S a :=
  ⟨v, fun S' hS' => .inl ⟨hw, fun w hS K hK => by
    unfold Oper.wp
    rw [hv w (hS'.2 w hS)]
    refine (hc w (hS'.2 w hS)).mono ?_
    rintro e w' ⟨rfl, hb⟩
    exact hK w' (hS'.1 _ _ hS hb)⟩, h⟩
/-- A read of what only this kind of world tells: it comes alone. -/
theorem mix_look (v : Value) (hF : Fam B S) (hw : Region.wanted o (yielded ops a.tmps) = true) (hv : ∀ w, S w → (execOp a.eval o).run P w = .ok (.value v) w) (h : wpMix P ops (Fam B) L l S (a.put o.dst v)) : wpMix P ops (Fam B) L ((o, true) :: l) S a :=
  ⟨hw, fun w hS => by unfold Oper.wp; rw [hv w hS]; exact ⟨v, S, rfl, hF, hS, h⟩⟩
/-- A call of what only this kind of world tells; what it yields lies somehow anew. -/
theorem mix_meet {X : Type} (val : X → Value) (T : X → World → Prop) (hF : Fam B S) (hT : ∀ x, Closed (T x)) (f : FuncId) (args : Array Value) (hw : Region.wanted o (yielded ops a.tmps) = true) (hv : ∀ w, S w → (execOp a.eval o).run P w = .ok (.enter f args) w)
    (hc : ∀ w, S w → Calls P f args w fun e w' => ∃ x, e = .returned (val x) ∧ T x w' ∧ Below w.heap.size w w') (h : ∀ x, wpMix P ops (Fam B) L l (fun w => S w ∧ T x w) (a.put o.dst (val x))) : wpMix P ops (Fam B) L ((o, true) :: l) S a :=
  ⟨hw, fun w hS => by
    unfold Oper.wp
    rw [hv w hS]
    refine (hc w hS).mono ?_
    rintro e w' ⟨x, rfl, ht, hb⟩
    exact ⟨val x, _, rfl, ⟨hF.1.and (hT x), fun w hw => hF.2 w hw.1⟩, ⟨hF.1 _ _ hS hb, ht⟩, h x⟩⟩
theorem mix_alloc (n : Nat) (t : TypeId) (zs : List Value) (hF : Fam B S) (hn : ∀ w, S w → n ≤ w.heap.size) (hw : Region.wanted o (yielded ops a.tmps) = true)
    (hv : ∀ w, S w → (execOp a.eval o).run P w = .ok (.value (.pointer (some ⟨w.heap.size, 0, none⟩))) (w.alloc (.cells zs.toArray t)))
    (h : ∀ g, n ≤ g → wpMix P ops (Fam B) L l (fun w => S w ∧ Whole w g t zs) (a.put o.dst (.pointer (some ⟨g, 0, none⟩)))) : wpMix P ops (Fam B) L ((o, true) :: l) S a :=
  ⟨hw, fun w hS => by
    unfold Oper.wp
    rw [hv w hS]
    exact ⟨_, _, rfl, ⟨hF.1.and (Closed.whole _ _ _), fun w hw => hF.2 w hw.1⟩, ⟨hF.1 _ _ hS (below1 w _), Whole.new w t zs⟩, h _ (hn w hS)⟩⟩
/-- A store: the kind of world behind it is told by the caller. -/
theorem mix_store (S' : World → Prop) (turn : World → World) (hF' : Fam B S') (hw : Region.wanted o (yielded ops a.tmps) = true) (hv : ∀ w, S w → (execOp a.eval o).run P w = .ok .skip (turn w)) (hS' : ∀ w, S w → S' (turn w))
    (h : wpMix P ops (Fam B) L l S' (a.put o.dst undef)) : wpMix P ops (Fam B) L ((o, true) :: l) S a :=
  ⟨hw, fun w hS => by
    unfold Oper.wp
    rw [hv w hS]
    exact ⟨undef, S', rfl, hF', hS' w hS, h⟩⟩

theorem setCells_below : ∀ (vs : List Value) (o : Nat) {n g : Nat} {w0 w : World}, Below n w0 w → n ≤ g → Below n w0 (w.setCells g o vs)
  | [], _, _, _, _, _, h, _ => h
  | v :: vs, o, n, g, w0, w, h, hg => setCells_below vs (o + 1) (h.setCell (p := ⟨g, o, none⟩) hg v) hg
theorem setCells_whole : ∀ (vs pre cs : List Value) {w : World} {g : Nat} {t : TypeId}, vs.length = cs.length → Whole w g t (pre ++ cs) → Whole (w.setCells g pre.length vs) g t (pre ++ vs)
  | [], pre, cs, w, g, t, hl, h => by
    obtain rfl : cs = [] := List.eq_nil_of_length_eq_zero hl.symm
    exact h
  | v :: vs, pre, [], w, g, t, hl, h => by simp at hl
  | v :: vs, pre, c :: cs, w, g, t, hl, h => by
    have h1 := h.set pre.length v
    have e : (pre ++ c :: cs).set pre.length v = (pre ++ [v]) ++ cs := by simp
    rw [e] at h1
    have h2 := setCells_whole vs (pre ++ [v]) cs (by simpa using hl) h1
    rw [List.length_append, List.length_singleton, List.append_assoc] at h2
    exact h2
theorem Whole.there {w : World} {g : Nat} {t : TypeId} {cs : List Value} (h : Whole w g t cs) : w.there g 0 cs.length := fun j hj => by
  rw [Nat.zero_add]
  exact ⟨by rw [h.cell j, List.getElem?_eq_getElem hj]; rfl, h.frozen j⟩
/-- A whole block of the region's own is filled: what is told of the block before it turns, all else stands. -/
theorem mix_fill (t : TypeId) (x y : Operand) (g n : Nat) (w0 : World) (cs vs : List Value) (hg : n ≤ g) (hBn : ∀ w, Below n w0 w → B w) (hn : n ≤ w0.heap.size)
    (hSS : ∀ w, S w → Below n w0 w ∧ Whole w g t cs) (ho : o.op = .store t x y) (hx : a.eval x = .pointer (some ⟨g, 0, none⟩)) (hy : a.eval y = .agg vs.toArray)
    (hi : (P.info? t).map (·.size) = some vs.length) (hl : vs.length = cs.length) (h1 : vs.all (·.oneCell') = true) (hw : Region.wanted o (yielded ops a.tmps) = true)
    (h : wpMix P ops (Fam B) L l (fun w => Below n w0 w ∧ Whole w g t vs) (a.put o.dst undef)) : wpMix P ops (Fam B) L ((o, true) :: l) S a := by
  refine mix_store (fun w => Below n w0 w ∧ Whole w g t vs) (fun w => w.setCells g 0 vs) ⟨?_, fun w hw => hBn w hw.1⟩ hw (fun w hS => ?_) (fun w hS => ⟨setCells_below vs 0 (hSS w hS).1 hg, setCells_whole vs [] cs hl (hSS w hS).2⟩) h
  · exact Closed.and (fun w w' hp hb => hp.trans (hb.mono (Nat.le_trans hn hp.size))) (Closed.whole _ _ _)
  · have ht := (hSS w hS).2.there
    rw [← hl] at ht
    have := run_storeAt_mid (P := P) w g 0 t vs.toArray (by simpa using ht) (by simpa using hi) (by simpa using h1)
    unfold execOp
    simp only [ho, hx, hy, Sem.run_bind, this, Result.andThen_ok, Sem.run_pure]
end
end Go.Proofs.YtbalcbnlpgekaaaDoor
namespace Go.Proofs.YtbalcbnlpgekaaaDoor
open Go.RowKit Go.Shelf
set_option linter.unusedVariables false
set_option linter.unusedSimpArgs false

theorem at_cases (l : Lay) (s p : Int) : (thereV l s p = false ∧ s < 0) ∨ (thereV l s p = false ∧ 0 ≤ s ∧ (l.secs.length : Int) ≤ s) ∨ ∃ (j : Nat) (y : Sec), s = j ∧ l.secs[j]? = some y ∧ (j : Int) < l.secs.length ∧
    ((thereV l s p = false ∧ p < 0) ∨ (thereV l s p = false ∧ 0 ≤ p ∧ pK y.k ≤ p) ∨ (thereV l s p = true ∧ atV l s p = y ∧ 0 ≤ p ∧ p < pK y.k)) := by
  have hz : ∀ q, kindV l s = 0 → thereV l s q = false := fun q h => by
    cases hh : thereV l s q
    · rfl
    · unfold thereV at hh
      rw [h, withinA_iff] at hh
      have : pK 0 = 0 := rfl
      omega
  by_cases h0 : s < 0
  · exact .inl ⟨hz _ (kindV_no (by omega)), h0⟩
  by_cases h1 : (l.secs.length : Int) ≤ s
  · exact .inr (.inl ⟨hz _ (kindV_no (by omega)), by omega, h1⟩)
  obtain ⟨j, rfl⟩ : ∃ j : Nat, s = j := ⟨s.toNat, by omega⟩
  have hy : l.secs[j]? = some (l.secs[j]'(by omega)) := List.getElem?_eq_getElem (by omega)
  refine .inr (.inr ⟨j, _, rfl, hy, by omega, ?_⟩)
  generalize l.secs[j]'(by omega) = y at hy
  have hk := kindV_at hy
  by_cases h2 : 0 ≤ p ∧ p < pK y.k
  · have ht : thereV l j p = true := by unfold thereV; rw [hk, withinA_iff]; omega
    refine .inr (.inr ⟨ht, ?_, h2.1, h2.2⟩)
    unfold atV
    rw [if_pos ht, Int.toNat_natCast, hy]
    rfl
  · have ht : thereV l j p = false := by
      cases hh : thereV l j p
      · rfl
      · unfold thereV at hh
        rw [hk, withinA_iff] at hh
        omega
    by_cases h3 : p < 0
    · exact .inl ⟨ht, h3⟩
    · exact .inr (.inl ⟨ht, by omega, by omega⟩)

section
variable {P : World → Prop} {w : World}
set_option maxRecDepth 100000 in
set_option maxHeartbeats 8000000 in
theorem atR_P (hP : Closed P) {l : Lay} (hL : ∀ w, P w → Lies l w) (s p : Int) {x : Sec} {r : Bool} (hx : atV l s p = x) (hr : thereV l s p = r) (h : P w) :
    Calls Tryd.prog 11 #[l.val, prtV s p] w fun e w' => e = .returned (.tuple #[x.val, .bool r]) ∧ P w' := by
  obtain ⟨Q, HQ, HQp, HQl, HQv, HQr, HQb, hq⟩ := keep_box3 hP h 29 31 39 l.cells (prtCells (s, p)) [.int .u8 0, .int .i64 0, .int .i64 0, .int .i64 0, .int .i64 0, .int .i64 0, .int .i64 0, .int .i64 0, .int .i64 0, .int .i64 0, .int .i64 0]
  have HQL : Hid (∀ W, Q W → Lies l W) := Lib.hid fun W hW => hL _ (HQp.out _ hW)
  have HPP := Lib.hid (fun W (hB : Below w.heap.size w W) => hP _ _ h hB)
  clear h
  have hcase := at_cases l s p
  have hzz := fun h => atV_no (l := l) (s := s) (p := p) h
  rw [hx, hr] at hcase
  rw [hx, hr] at hzz
  clear hx hr hL hP
  rcases hcase with ⟨rfl, h1⟩ | ⟨rfl, h1, h2⟩ | ⟨j, y, rfl, hy, hlt, ⟨rfl, h1⟩ | ⟨rfl, h1, h2⟩ | ⟨rfl, exy, h1, h2⟩⟩
  · obtain rfl := hzz rfl
    clear hzz
    have d1 := decide_eq_true h1
    clear h1
    have HS := Lib.hid (HQ.out.drew hq)
    clear hq
    go_enter Tryd.func11, Tryd.ntmps11
    go_wp2_with fail
    refine region_steady (Q) 28 (by kernel_rfl) (by kernel_rfl) HS.out ?_
    simp only [List.take_succ_cons, List.take_zero, List.drop_succ_cons, List.drop_zero]
    repeat (first | (refine steady_skip (by rfl) ?_; simp only [Act.put, List.setIfInBounds_toArray, List.set_cons_zero, List.set_cons_succ]) | (refine steady_read _ (by rfl) (fun W hW => by (have m0 := HQl.out _ hW; have x0 := m0.cell_at 0 rfl; have x1 := m0.cell_at 1 rfl; have x2 := m0.cell_at 2 rfl; have x3 := m0.cell_at 3 rfl; have x4 := m0.cell_at 4 rfl; have x5 := m0.cell_at 5 rfl; have x6 := m0.cell_at 6 rfl; have x7 := m0.cell_at 7 rfl; have x8 := m0.cell_at 8 rfl; have x9 := m0.cell_at 9 rfl; have x10 := m0.cell_at 10 rfl; clear m0; have m1 := HQv.out _ hW; have v0 := m1.cell_at 0 rfl; have v1 := m1.cell_at 1 rfl; clear m1; go_simp; first | done | with_reducible rfl)) ?_; simp only [Act.put, List.setIfInBounds_toArray, List.set_cons_zero, List.set_cons_succ]))
    refine steady_nil (fun W hW => ?_)
    have hq := hW
    clear hW
    have hW := HQr.out _ hq
    have f0 := hW.frozen 0
    have f1 := hW.frozen 1
    have f2 := hW.frozen 2
    have f3 := hW.frozen 3
    have f4 := hW.frozen 4
    have f5 := hW.frozen 5
    have f6 := hW.frozen 6
    have f7 := hW.frozen 7
    have f8 := hW.frozen 8
    have f9 := hW.frozen 9
    have f10 := hW.frozen 10
    have z0 := hW.cell_at 0 rfl
    have z1 := hW.cell_at 1 rfl
    have z2 := hW.cell_at 2 rfl
    have z3 := hW.cell_at 3 rfl
    have z4 := hW.cell_at 4 rfl
    have z5 := hW.cell_at 5 rfl
    have z6 := hW.cell_at 6 rfl
    have z7 := hW.cell_at 7 rfl
    have z8 := hW.cell_at 8 rfl
    have z9 := hW.cell_at 9 rfl
    have z10 := hW.cell_at 10 rfl
    go_wp2_with fail
    have hWo := whole_over (a := Sec.zero) (b := Sec.zero) hW
    have hBo := below_over (b := Sec.zero) (HQb.out _ hq) (show w.heap.size ≤ w.heap.size + 1 + 1 by omega)
    have e0 := hWo.cell_at 0 rfl
    have e1 := hWo.cell_at 1 rfl
    have e2 := hWo.cell_at 2 rfl
    have e3 := hWo.cell_at 3 rfl
    have e4 := hWo.cell_at 4 rfl
    have e5 := hWo.cell_at 5 rfl
    have e6 := hWo.cell_at 6 rfl
    have e7 := hWo.cell_at 7 rfl
    have e8 := hWo.cell_at 8 rfl
    have e9 := hWo.cell_at 9 rfl
    have e10 := hWo.cell_at 10 rfl
    refine bodyPost_ret (v := .tuple #[Sec.zero.val, .bool false]) ?_ rfl ⟨rfl, HPP.out _ hBo⟩
    unfold Sec.zero at *
    simp [results, Tryd.f11, go_sem, e0, e1, e2, e3, e4, e5, e6, e7, e8, e9, e10]
  · obtain rfl := hzz rfl
    clear hzz
    have d1 : decide (s < 0) = false := decide_eq_false (by omega)
    have d2 := decide_eq_true h2
    clear h1 h2
    have HS := Lib.hid (HQ.out.drew hq)
    clear hq
    go_enter Tryd.func11, Tryd.ntmps11
    go_wp2_with fail
    refine region_steady (Q) 28 (by kernel_rfl) (by kernel_rfl) HS.out ?_
    simp only [List.take_succ_cons, List.take_zero, List.drop_succ_cons, List.drop_zero]
    repeat (first | (refine steady_skip (by rfl) ?_; simp only [Act.put, List.setIfInBounds_toArray, List.set_cons_zero, List.set_cons_succ]) | (refine steady_read _ (by rfl) (fun W hW => by (have m0 := HQl.out _ hW; have x0 := m0.cell_at 0 rfl; have x1 := m0.cell_at 1 rfl; have x2 := m0.cell_at 2 rfl; have x3 := m0.cell_at 3 rfl; have x4 := m0.cell_at 4 rfl; have x5 := m0.cell_at 5 rfl; have x6 := m0.cell_at 6 rfl; have x7 := m0.cell_at 7 rfl; have x8 := m0.cell_at 8 rfl; have x9 := m0.cell_at 9 rfl; have x10 := m0.cell_at 10 rfl; clear m0; have m1 := HQv.out _ hW; have v0 := m1.cell_at 0 rfl; have v1 := m1.cell_at 1 rfl; clear m1; go_simp; first | done | with_reducible rfl)) ?_; simp only [Act.put, List.setIfInBounds_toArray, List.set_cons_zero, List.set_cons_succ]))
    refine steady_nil (fun W hW => ?_)
    have hq := hW
    clear hW
    have hW := HQr.out _ hq
    have f0 := hW.frozen 0
    have f1 := hW.frozen 1
    have f2 := hW.frozen 2
    have f3 := hW.frozen 3
    have f4 := hW.frozen 4
    have f5 := hW.frozen 5
    have f6 := hW.frozen 6
    have f7 := hW.frozen 7
    have f8 := hW.frozen 8
    have f9 := hW.frozen 9
    have f10 := hW.frozen 10
    have z0 := hW.cell_at 0 rfl
    have z1 := hW.cell_at 1 rfl
    have z2 := hW.cell_at 2 rfl
    have z3 := hW.cell_at 3 rfl
    have z4 := hW.cell_at 4 rfl
    have z5 := hW.cell_at 5 rfl
    have z6 := hW.cell_at 6 rfl
    have z7 := hW.cell_at 7 rfl
    have z8 := hW.cell_at 8 rfl
    have z9 := hW.cell_at 9 rfl
    have z10 := hW.cell_at 10 rfl
    go_wp2_with fail
    have hWo := whole_over (a := Sec.zero) (b := Sec.zero) hW
    have hBo := below_over (b := Sec.zero) (HQb.out _ hq) (show w.heap.size ≤ w.heap.size + 1 + 1 by omega)
    have e0 := hWo.cell_at 0 rfl
    have e1 := hWo.cell_at 1 rfl
    have e2 := hWo.cell_at 2 rfl
    have e3 := hWo.cell_at 3 rfl
    have e4 := hWo.cell_at 4 rfl
    have e5 := hWo.cell_at 5 rfl
    have e6 := hWo.cell_at 6 rfl
    have e7 := hWo.cell_at 7 rfl
    have e8 := hWo.cell_at 8 rfl
    have e9 := hWo.cell_at 9 rfl
    have e10 := hWo.cell_at 10 rfl
    refine bodyPost_ret (v := .tuple #[Sec.zero.val, .bool false]) ?_ rfl ⟨rfl, HPP.out _ hBo⟩
    unfold Sec.zero at *
    simp [results, Tryd.f11, go_sem, e0, e1, e2, e3, e4, e5, e6, e7, e8, e9, e10]
  · obtain rfl := hzz rfl
    clear hzz
    have d1 : decide ((j : Int) < 0) = false := decide_eq_false (by omega)
    have d2 : decide ((l.secs.length : Int) ≤ j) = false := decide_eq_false (by omega)
    have d2n : decide (l.secs.length ≤ j) = false := decide_eq_false (by omega)
    have d3 := decide_eq_true h1
    clear h1 hy
    have HS := Lib.hid (HQ.out.drew hq)
    clear hq
    go_enter Tryd.func11, Tryd.ntmps11
    go_wp2_with fail
    refine region_steady (Q) 28 (by kernel_rfl) (by kernel_rfl) HS.out ?_
    simp only [List.take_succ_cons, List.take_zero, List.drop_succ_cons, List.drop_zero]
    repeat (first | (refine steady_skip (by rfl) ?_; simp only [Act.put, List.setIfInBounds_toArray, List.set_cons_zero, List.set_cons_succ]) | (refine steady_read _ (by rfl) (fun W hW => by (have m0 := HQl.out _ hW; have x0 := m0.cell_at 0 rfl; have x1 := m0.cell_at 1 rfl; have x2 := m0.cell_at 2 rfl; have x3 := m0.cell_at 3 rfl; have x4 := m0.cell_at 4 rfl; have x5 := m0.cell_at 5 rfl; have x6 := m0.cell_at 6 rfl; have x7 := m0.cell_at 7 rfl; have x8 := m0.cell_at 8 rfl; have x9 := m0.cell_at 9 rfl; have x10 := m0.cell_at 10 rfl; clear m0; have m1 := HQv.out _ hW; have v0 := m1.cell_at 0 rfl; have v1 := m1.cell_at 1 rfl; clear m1; go_simp; first | done | with_reducible rfl)) ?_; simp only [Act.put, List.setIfInBounds_toArray, List.set_cons_zero, List.set_cons_succ]))
    refine steady_nil (fun W hW => ?_)
    have hq := hW
    clear hW
    have hW := HQr.out _ hq
    have f0 := hW.frozen 0
    have f1 := hW.frozen 1
    have f2 := hW.frozen 2
    have f3 := hW.frozen 3
    have f4 := hW.frozen 4
    have f5 := hW.frozen 5
    have f6 := hW.frozen 6
    have f7 := hW.frozen 7
    have f8 := hW.frozen 8
    have f9 := hW.frozen 9
    have f10 := hW.frozen 10
    have z0 := hW.cell_at 0 rfl
    have z1 := hW.cell_at 1 rfl
    have z2 := hW.cell_at 2 rfl
    have z3 := hW.cell_at 3 rfl
    have z4 := hW.cell_at 4 rfl
    have z5 := hW.cell_at 5 rfl
    have z6 := hW.cell_at 6 rfl
    have z7 := hW.cell_at 7 rfl
    have z8 := hW.cell_at 8 rfl
    have z9 := hW.cell_at 9 rfl
    have z10 := hW.cell_at 10 rfl
    go_wp2_with fail
    have hWo := whole_over (a := Sec.zero) (b := Sec.zero) hW
    have hBo := below_over (b := Sec.zero) (HQb.out _ hq) (show w.heap.size ≤ w.heap.size + 1 + 1 by omega)
    have e0 := hWo.cell_at 0 rfl
    have e1 := hWo.cell_at 1 rfl
    have e2 := hWo.cell_at 2 rfl
    have e3 := hWo.cell_at 3 rfl
    have e4 := hWo.cell_at 4 rfl
    have e5 := hWo.cell_at 5 rfl
    have e6 := hWo.cell_at 6 rfl
    have e7 := hWo.cell_at 7 rfl
    have e8 := hWo.cell_at 8 rfl
    have e9 := hWo.cell_at 9 rfl
    have e10 := hWo.cell_at 10 rfl
    refine bodyPost_ret (v := .tuple #[Sec.zero.val, .bool false]) ?_ rfl ⟨rfl, HPP.out _ hBo⟩
    unfold Sec.zero at *
    simp [results, Tryd.f11, go_sem, e0, e1, e2, e3, e4, e5, e6, e7, e8, e9, e10]
  · obtain rfl := hzz rfl
    clear hzz
    have d1 : decide ((j : Int) < 0) = false := decide_eq_false (by omega)
    have d2 : decide ((l.secs.length : Int) ≤ j) = false := decide_eq_false (by omega)
    have d2n : decide (l.secs.length ≤ j) = false := decide_eq_false (by omega)
    obtain ⟨b, off, hA, hb, hc0, hc⟩ := (HQL.out _ hq).secs.nth Sec.len (by omega) hy
    have HAl := Lib.hid hA
    have HC0 : Hid (∀ W, Q W → W.cell? ⟨b, off + j * 11, none⟩ = some (.int .u8 y.k)) := Lib.hid fun W hW => by
      obtain ⟨b', off', hA', hb', hc0', hc'⟩ := (HQL.out _ hW).secs.nth Sec.len (by omega) hy
      rw [hA] at hA'
      cases hA'
      exact hc0' j y _ hy rfl
    clear hA hb hc0 hc
    have KP := Lib.hid (fun W hW => portsR_P (P := Q) (w := W) (shapeK y.k) hW)
    have d3 : decide (p < 0) = false := decide_eq_false (by omega)
    have d4 := decide_eq_true h2
    clear h1 h2 hy
    generalize pK y.k = pk at *
    have HS := Lib.hid (HQ.out.drew hq)
    clear hq
    go_enter Tryd.func11, Tryd.ntmps11
    go_wp2_with fail
    refine region_steady (Q) 28 (by kernel_rfl) (by kernel_rfl) HS.out ?_
    simp only [List.take_succ_cons, List.take_zero, List.drop_succ_cons, List.drop_zero]
    repeat (first | (refine steady_skip (by rfl) ?_; simp only [Act.put, List.setIfInBounds_toArray, List.set_cons_zero, List.set_cons_succ]) | (refine steady_read _ (by rfl) (fun W hW => by (have m0 := HQl.out _ hW; have x0 := m0.cell_at 0 rfl; have x1 := m0.cell_at 1 rfl; have x2 := m0.cell_at 2 rfl; have x3 := m0.cell_at 3 rfl; have x4 := m0.cell_at 4 rfl; have x5 := m0.cell_at 5 rfl; have x6 := m0.cell_at 6 rfl; have x7 := m0.cell_at 7 rfl; have x8 := m0.cell_at 8 rfl; have x9 := m0.cell_at 9 rfl; have x10 := m0.cell_at 10 rfl; clear m0; have m1 := HQv.out _ hW; have v0 := m1.cell_at 0 rfl; have v1 := m1.cell_at 1 rfl; clear m1; rw [HAl.out] at x0; have c0 := HC0.out _ hW; go_simp; first | done | with_reducible rfl)) ?_; simp only [Act.put, List.setIfInBounds_toArray, List.set_cons_zero, List.set_cons_succ]) | (refine steady_call _ _ _ (by rfl) (fun W hW => by (have m0 := HQl.out _ hW; have x0 := m0.cell_at 0 rfl; have x1 := m0.cell_at 1 rfl; have x2 := m0.cell_at 2 rfl; have x3 := m0.cell_at 3 rfl; have x4 := m0.cell_at 4 rfl; have x5 := m0.cell_at 5 rfl; have x6 := m0.cell_at 6 rfl; have x7 := m0.cell_at 7 rfl; have x8 := m0.cell_at 8 rfl; have x9 := m0.cell_at 9 rfl; have x10 := m0.cell_at 10 rfl; clear m0; have m1 := HQv.out _ hW; have v0 := m1.cell_at 0 rfl; have v1 := m1.cell_at 1 rfl; clear m1; rw [HAl.out] at x0; have c0 := HC0.out _ hW; go_simp; first | done | rfl)) (fun W hW => KP.out _ hW) ?_; simp only [Act.put, List.setIfInBounds_toArray, List.set_cons_zero, List.set_cons_succ]))
    refine steady_nil (fun W hW => ?_)
    have hq := hW
    clear hW
    have hW := HQr.out _ hq
    have f0 := hW.frozen 0
    have f1 := hW.frozen 1
    have f2 := hW.frozen 2
    have f3 := hW.frozen 3
    have f4 := hW.frozen 4
    have f5 := hW.frozen 5
    have f6 := hW.frozen 6
    have f7 := hW.frozen 7
    have f8 := hW.frozen 8
    have f9 := hW.frozen 9
    have f10 := hW.frozen 10
    have z0 := hW.cell_at 0 rfl
    have z1 := hW.cell_at 1 rfl
    have z2 := hW.cell_at 2 rfl
    have z3 := hW.cell_at 3 rfl
    have z4 := hW.cell_at 4 rfl
    have z5 := hW.cell_at 5 rfl
    have z6 := hW.cell_at 6 rfl
    have z7 := hW.cell_at 7 rfl
    have z8 := hW.cell_at 8 rfl
    have z9 := hW.cell_at 9 rfl
    have z10 := hW.cell_at 10 rfl
    go_wp2_with fail
    have hWo := whole_over (a := Sec.zero) (b := Sec.zero) hW
    have hBo := below_over (b := Sec.zero) (HQb.out _ hq) (show w.heap.size ≤ w.heap.size + 1 + 1 by omega)
    have e0 := hWo.cell_at 0 rfl
    have e1 := hWo.cell_at 1 rfl
    have e2 := hWo.cell_at 2 rfl
    have e3 := hWo.cell_at 3 rfl
    have e4 := hWo.cell_at 4 rfl
    have e5 := hWo.cell_at 5 rfl
    have e6 := hWo.cell_at 6 rfl
    have e7 := hWo.cell_at 7 rfl
    have e8 := hWo.cell_at 8 rfl
    have e9 := hWo.cell_at 9 rfl
    have e10 := hWo.cell_at 10 rfl
    refine bodyPost_ret (v := .tuple #[Sec.zero.val, .bool false]) ?_ rfl ⟨rfl, HPP.out _ hBo⟩
    unfold Sec.zero at *
    simp [results, Tryd.f11, go_sem, e0, e1, e2, e3, e4, e5, e6, e7, e8, e9, e10]
  · clear hzz
    have exy := exy.symm
    subst exy
    have d1 : decide ((j : Int) < 0) = false := decide_eq_false (by omega)
    have d2 : decide ((l.secs.length : Int) ≤ j) = false := decide_eq_false (by omega)
    have d2n : decide (l.secs.length ≤ j) = false := decide_eq_false (by omega)
    obtain ⟨b, off, hA, hb, hc0, hc⟩ := (HQL.out _ hq).secs.nth Sec.len (by omega) hy
    have HAl := Lib.hid hA
    have HC0 : Hid (∀ W, Q W → W.cell? ⟨b, off + j * 11, none⟩ = some (.int .u8 y.k)) := Lib.hid fun W hW => by
      obtain ⟨b', off', hA', hb', hc0', hc'⟩ := (HQL.out _ hW).secs.nth Sec.len (by omega) hy
      rw [hA] at hA'
      cases hA'
      exact hc0' j y _ hy rfl
    clear hA hb hc0 hc
    have KP := Lib.hid (fun W hW => portsR_P (P := Q) (w := W) (shapeK y.k) hW)
    have d3 : decide (p < 0) = false := decide_eq_false (by omega)
    have d4 : decide (pK y.k ≤ p) = false := decide_eq_false (by omega)
    have HX := Lib.hid hy
    clear h1 h2 hy
    generalize pK y.k = pk at *
    have HS := Lib.hid (HQ.out.drew hq)
    clear hq
    go_enter Tryd.func11, Tryd.ntmps11
    go_wp2_with fail
    refine region_steady (Q) 28 (by kernel_rfl) (by kernel_rfl) HS.out ?_
    simp only [List.take_succ_cons, List.take_zero, List.drop_succ_cons, List.drop_zero]
    repeat (first | (refine steady_skip (by rfl) ?_; simp only [Act.put, List.setIfInBounds_toArray, List.set_cons_zero, List.set_cons_succ]) | (refine steady_read _ (by rfl) (fun W hW => by (have m0 := HQl.out _ hW; have x0 := m0.cell_at 0 rfl; have x1 := m0.cell_at 1 rfl; have x2 := m0.cell_at 2 rfl; have x3 := m0.cell_at 3 rfl; have x4 := m0.cell_at 4 rfl; have x5 := m0.cell_at 5 rfl; have x6 := m0.cell_at 6 rfl; have x7 := m0.cell_at 7 rfl; have x8 := m0.cell_at 8 rfl; have x9 := m0.cell_at 9 rfl; have x10 := m0.cell_at 10 rfl; clear m0; have m1 := HQv.out _ hW; have v0 := m1.cell_at 0 rfl; have v1 := m1.cell_at 1 rfl; clear m1; rw [HAl.out] at x0; have c0 := HC0.out _ hW; go_simp; first | done | with_reducible rfl)) ?_; simp only [Act.put, List.setIfInBounds_toArray, List.set_cons_zero, List.set_cons_succ]) | (refine steady_call _ _ _ (by rfl) (fun W hW => by (have m0 := HQl.out _ hW; have x0 := m0.cell_at 0 rfl; have x1 := m0.cell_at 1 rfl; have x2 := m0.cell_at 2 rfl; have x3 := m0.cell_at 3 rfl; have x4 := m0.cell_at 4 rfl; have x5 := m0.cell_at 5 rfl; have x6 := m0.cell_at 6 rfl; have x7 := m0.cell_at 7 rfl; have x8 := m0.cell_at 8 rfl; have x9 := m0.cell_at 9 rfl; have x10 := m0.cell_at 10 rfl; clear m0; have m1 := HQv.out _ hW; have v0 := m1.cell_at 0 rfl; have v1 := m1.cell_at 1 rfl; clear m1; rw [HAl.out] at x0; have c0 := HC0.out _ hW; go_simp; first | done | rfl)) (fun W hW => KP.out _ hW) ?_; simp only [Act.put, List.setIfInBounds_toArray, List.set_cons_zero, List.set_cons_succ]))
    refine steady_nil (fun W hW => ?_)
    have hq := hW
    clear hW
    have hW := HQr.out _ hq
    have x0 := (HQl.out _ hq).cell_at 0 rfl
    have v0 := (HQv.out _ hq).cell_at 0 rfl
    clear HAl HC0
    obtain ⟨b, off, hA, hb, hc0, hc⟩ := (HQL.out _ hq).secs.nth Sec.len (by omega) HX.out
    have c0 := hc0 j y _ HX.out rfl
    have c1 := hc j y 1 _ HX.out rfl
    have c2 := hc j y 2 _ HX.out rfl
    have c3 := hc j y 3 _ HX.out rfl
    have c4 := hc j y 4 _ HX.out rfl
    have c5 := hc j y 5 _ HX.out rfl
    have c6 := hc j y 6 _ HX.out rfl
    have c7 := hc j y 7 _ HX.out rfl
    have c8 := hc j y 8 _ HX.out rfl
    have c9 := hc j y 9 _ HX.out rfl
    have c10 := hc j y 10 _ HX.out rfl
    clear hc0 hc
    have f0 := hW.frozen 0
    have f1 := hW.frozen 1
    have f2 := hW.frozen 2
    have f3 := hW.frozen 3
    have f4 := hW.frozen 4
    have f5 := hW.frozen 5
    have f6 := hW.frozen 6
    have f7 := hW.frozen 7
    have f8 := hW.frozen 8
    have f9 := hW.frozen 9
    have f10 := hW.frozen 10
    have z0 := hW.cell_at 0 rfl
    have z1 := hW.cell_at 1 rfl
    have z2 := hW.cell_at 2 rfl
    have z3 := hW.cell_at 3 rfl
    have z4 := hW.cell_at 4 rfl
    have z5 := hW.cell_at 5 rfl
    have z6 := hW.cell_at 6 rfl
    have z7 := hW.cell_at 7 rfl
    have z8 := hW.cell_at 8 rfl
    have z9 := hW.cell_at 9 rfl
    have z10 := hW.cell_at 10 rfl
    go_wp2_with fail
    have hWo := whole_over (a := Sec.zero) (b := y) hW
    have hBo := below_over (b := y) (HQb.out _ hq) (show w.heap.size ≤ w.heap.size + 1 + 1 by omega)
    clear c0 c1 c2 c3 c4 c5 c6 c7 c8 c9 c10 z0 z1 z2 z3 z4 z5 z6 z7 z8 z9 z10
    have e0 := hWo.cell_at 0 rfl
    have e1 := hWo.cell_at 1 rfl
    have e2 := hWo.cell_at 2 rfl
    have e3 := hWo.cell_at 3 rfl
    have e4 := hWo.cell_at 4 rfl
    have e5 := hWo.cell_at 5 rfl
    have e6 := hWo.cell_at 6 rfl
    have e7 := hWo.cell_at 7 rfl
    have e8 := hWo.cell_at 8 rfl
    have e9 := hWo.cell_at 9 rfl
    have e10 := hWo.cell_at 10 rfl
    refine bodyPost_ret (v := .tuple #[y.val, .bool true]) ?_ rfl ⟨rfl, HPP.out _ hBo⟩
    simp [results, Tryd.f11, go_sem, e0, e1, e2, e3, e4, e5, e6, e7, e8, e9, e10]

set_option maxRecDepth 100000 in
set_option maxHeartbeats 4000000 in
theorem thereR_P (hP : Closed P) {l : Lay} (hL : ∀ w, P w → Lies l w) (s p : Int) {r : Bool} (hr : thereV l s p = r) (h : P w) :
    Calls Tryd.prog 52 #[l.val, prtV s p] w fun e w' => e = .returned (.bool r) ∧ P w' := by
  obtain ⟨Q, HQ, HQp, HQl, HQv, hq⟩ := keep_box2 hP h 29 31 l.cells (prtCells (s, p))
  obtain ⟨x, hx⟩ : ∃ x, atV l s p = x := ⟨_, rfl⟩
  have KA := Lib.hid (fun W hW => atR_P (P := Q) (w := W) HQ.out (fun W hW => hL _ (HQp.out _ hW)) s p hx hr hW)
  clear hx hr h
  have hW := hq
  have m0 := HQl.out _ hW
  have x0 := m0.cell_at 0 rfl
  have x1 := m0.cell_at 1 rfl
  have x2 := m0.cell_at 2 rfl
  have x3 := m0.cell_at 3 rfl
  have x4 := m0.cell_at 4 rfl
  have x5 := m0.cell_at 5 rfl
  have x6 := m0.cell_at 6 rfl
  have x7 := m0.cell_at 7 rfl
  have x8 := m0.cell_at 8 rfl
  have x9 := m0.cell_at 9 rfl
  have x10 := m0.cell_at 10 rfl
  clear m0
  have m1 := HQv.out _ hW
  have v0 := m1.cell_at 0 rfl
  have v1 := m1.cell_at 1 rfl
  clear m1
  clear hW
  go_enter Tryd.func52, Tryd.ntmps52
  go_wp2_with fail
  refine (KA.out _ hq).mono ?_
  clear x0 x1 x2 x3 x4 x5 x6 x7 x8 x9 x10 v0 v1 hq
  rintro e w1 ⟨rfl, hq⟩
  have hq := HQ.out _ _ hq (below1 w1 (.cells x.cells.toArray 39))
  go_wp2_with fail
  go_ret
  exact ⟨rfl, HQp.out _ hq⟩

set_option maxRecDepth 100000 in
set_option maxHeartbeats 4000000 in
theorem stepR_P (hP : Closed P) {l : Lay} (hL : ∀ w, P w → Lies l w) (s i o : Int) {v : Int} {r : Bool} (hv : wayK (kindV l s) i o = v) (hr : stepV l s i o = r) (h : P w) :
    Calls Tryd.prog 13 #[l.val, stpV s i o] w fun e w' => e = .returned (.tuple #[.int .i64 v, .bool r]) ∧ P w' := by
  obtain ⟨Q, HQ, HQp, HQl, HQv, hq⟩ := keep_box2 hP h 29 33 l.cells (stpCells (s, i, o))
  have HQL : Hid (∀ W, Q W → Lies l W) := Lib.hid fun W hW => hL _ (HQp.out _ hW)
  unfold stepV at hr
  clear h
  by_cases hs : 0 ≤ s ∧ s < l.secs.length
  · obtain ⟨j, rfl⟩ : ∃ j : Nat, s = j := ⟨s.toNat, by omega⟩
    have hlt : (j : Int) < l.secs.length := hs.2
    obtain ⟨y, hy⟩ : ∃ y, l.secs[j]? = some y := ⟨_, List.getElem?_eq_getElem (by omega)⟩
    rw [kindV_at hy] at hv hr
    have KW := Lib.hid (fun W hW => wayR_P (P := Q) (w := W) i o (shapeK y.k) hv hr hW)
    clear hv hr hs
    have d1 : decide ((j : Int) < 0) = false := decide_eq_false (by omega)
    have d2 : decide ((l.secs.length : Int) ≤ j) = false := decide_eq_false (by omega)
    have d2n : decide (l.secs.length ≤ j) = false := decide_eq_false (by omega)
    obtain ⟨b, off, hA, hb, hc0, hc⟩ := (HQL.out _ hq).secs.nth Sec.len (by omega) hy
    have HAl := Lib.hid hA
    have HC0 : Hid (∀ W, Q W → W.cell? ⟨b, off + j * 11, none⟩ = some (.int .u8 y.k)) := Lib.hid fun W hW => by
      obtain ⟨b', off', hA', hb', hc0', hc'⟩ := (HQL.out _ hW).secs.nth Sec.len (by omega) hy
      rw [hA] at hA'
      cases hA'
      exact hc0' j y _ hy rfl
    clear hA hb hc0 hc
    have hW := hq
    have m0 := HQl.out _ hW
    have x0 := m0.cell_at 0 rfl
    have x1 := m0.cell_at 1 rfl
    have x2 := m0.cell_at 2 rfl
    have x3 := m0.cell_at 3 rfl
    have x4 := m0.cell_at 4 rfl
    have x5 := m0.cell_at 5 rfl
    have x6 := m0.cell_at 6 rfl
    have x7 := m0.cell_at 7 rfl
    have x8 := m0.cell_at 8 rfl
    have x9 := m0.cell_at 9 rfl
    have x10 := m0.cell_at 10 rfl
    clear m0
    have m1 := HQv.out _ hW
    have v0 := m1.cell_at 0 rfl
    have v1 := m1.cell_at 1 rfl
    have v2 := m1.cell_at 2 rfl
    clear m1
    clear hW
    clear hy
    go_enter Tryd.func13, Tryd.ntmps13
    go_wp2_with fail
    have HS := Lib.hid (HQ.out.drew hq)
    clear x0 x1 x2 x3 x4 x5 x6 x7 x8 x9 x10 v0 v1 v2 hq
    refine region_steady (Q) 14 (by kernel_rfl) (by kernel_rfl) HS.out ?_
    simp only [List.take_succ_cons, List.take_zero, List.drop_succ_cons, List.drop_zero]
    repeat (first | (refine steady_skip (by rfl) ?_; simp only [Act.put, List.setIfInBounds_toArray, List.set_cons_zero, List.set_cons_succ]) | (refine steady_read _ (by rfl) (fun W hW => by (have m0 := HQl.out _ hW; have x0 := m0.cell_at 0 rfl; have x1 := m0.cell_at 1 rfl; have x2 := m0.cell_at 2 rfl; have x3 := m0.cell_at 3 rfl; have x4 := m0.cell_at 4 rfl; have x5 := m0.cell_at 5 rfl; have x6 := m0.cell_at 6 rfl; have x7 := m0.cell_at 7 rfl; have x8 := m0.cell_at 8 rfl; have x9 := m0.cell_at 9 rfl; have x10 := m0.cell_at 10 rfl; clear m0; have m1 := HQv.out _ hW; have v0 := m1.cell_at 0 rfl; have v1 := m1.cell_at 1 rfl; have v2 := m1.cell_at 2 rfl; clear m1; rw [HAl.out] at x0; have c0 := HC0.out _ hW; go_simp; first | done | with_reducible rfl)) ?_; simp only [Act.put, List.setIfInBounds_toArray, List.set_cons_zero, List.set_cons_succ]) | (refine steady_call _ _ _ (by rfl) (fun W hW => by (have m0 := HQl.out _ hW; have x0 := m0.cell_at 0 rfl; have x1 := m0.cell_at 1 rfl; have x2 := m0.cell_at 2 rfl; have x3 := m0.cell_at 3 rfl; have x4 := m0.cell_at 4 rfl; have x5 := m0.cell_at 5 rfl; have x6 := m0.cell_at 6 rfl; have x7 := m0.cell_at 7 rfl; have x8 := m0.cell_at 8 rfl; have x9 := m0.cell_at 9 rfl; have x10 := m0.cell_at 10 rfl; clear m0; have m1 := HQv.out _ hW; have v0 := m1.cell_at 0 rfl; have v1 := m1.cell_at 1 rfl; have v2 := m1.cell_at 2 rfl; clear m1; rw [HAl.out] at x0; have c0 := HC0.out _ hW; go_simp; first | done | rfl)) (fun W hW => KW.out _ hW) ?_; simp only [Act.put, List.setIfInBounds_toArray, List.set_cons_zero, List.set_cons_succ]))
    refine steady_nil (fun W hW => ?_)
    go_wp2_with fail
    go_ret2
    exact ⟨rfl, HQp.out _ hW⟩
  · rw [kindV_no hs] at hv hr
    have hv0 : wayK 0 i o = 0 := rfl
    have hr0 : goesK 0 i o = false := rfl
    obtain rfl := hv0.symm.trans hv
    obtain rfl := hr0.symm.trans hr
    clear hv hr hv0 hr0
    have hW := hq
    have m0 := HQl.out _ hW
    have x0 := m0.cell_at 0 rfl
    have x1 := m0.cell_at 1 rfl
    have x2 := m0.cell_at 2 rfl
    have x3 := m0.cell_at 3 rfl
    have x4 := m0.cell_at 4 rfl
    have x5 := m0.cell_at 5 rfl
    have x6 := m0.cell_at 6 rfl
    have x7 := m0.cell_at 7 rfl
    have x8 := m0.cell_at 8 rfl
    have x9 := m0.cell_at 9 rfl
    have x10 := m0.cell_at 10 rfl
    clear m0
    have m1 := HQv.out _ hW
    have v0 := m1.cell_at 0 rfl
    have v1 := m1.cell_at 1 rfl
    have v2 := m1.cell_at 2 rfl
    clear m1
    clear hW
    by_cases h1 : s < 0
    · have d1 := decide_eq_true h1
      clear h1 hs
      go_enter Tryd.func13, Tryd.ntmps13
      go_wp2_with fail
      go_ret2
      exact ⟨rfl, HQp.out _ hq⟩
    · have d2 : decide ((l.secs.length : Int) ≤ s) = true := decide_eq_true (by omega)
      have d1 := decide_eq_false h1
      clear h1 hs
      go_enter Tryd.func13, Tryd.ntmps13
      go_wp2_with fail
      go_ret2
      exact ⟨rfl, HQp.out _ hq⟩

set_option maxRecDepth 100000 in
set_option maxHeartbeats 4000000 in
theorem signalR_P (hP : Closed P) {l : Lay} (hL : ∀ w, P w → Lies l w) (s p : Int) {r : Int} (hr : signalV l s p = r) (h : P w) :
    Calls Tryd.prog 15 #[l.val, prtV s p] w fun e w' => e = .returned (.int .i64 r) ∧ P w' := by
  obtain ⟨Q, HQ, HQp, HQl, HQv, hq⟩ := keep_box2 hP h 29 31 l.cells (prtCells (s, p))
  have HQL : Hid (∀ W, Q W → Lies l W) := Lib.hid fun W hW => hL _ (HQp.out _ hW)
  have hn := (hL _ h).nG
  have HR : Hid (idxV (isP s p) l.sigs = r) := Lib.hid hr
  clear h hr
  go_enter Tryd.func15, Tryd.ntmps15
  go_wp2_with fail
  go_loopw [5] (fun i wr => ∃ j : Nat, j ≤ l.sigs.length ∧ i = .int .i64 j ∧ Q wr ∧ Hid (NoneUp (isP s p) l.sigs j)) (fun i _ => l.sigs.length - (intOf i).toNat)
  case atStart => exact ⟨0, by omega, rfl, hq, Lib.hid (NoneUp.zero _ _)⟩
  case round =>
    clear hq
    obtain ⟨j, hj, rfl, hq, HNo⟩ := hrel
    by_cases hlt : j < l.sigs.length
    · have hlt' : (j : Int) < l.sigs.length := by omega
      obtain ⟨xx, hx⟩ : ∃ x, l.sigs[j]? = some x := ⟨_, List.getElem?_eq_getElem hlt⟩
      obtain ⟨o1, o2, HAl, HC0, HC1⟩ := sig_cells HQL.out hq hx
      have HX := Lib.hid hx
      clear hx
      obtain ⟨px, hpx⟩ : ∃ z, xx.1 = z := ⟨_, rfl⟩
      obtain ⟨py, hpy⟩ : ∃ z, xx.2 = z := ⟨_, rfl⟩
      rw [hpx] at HC0
      rw [hpy] at HC1
      cases hpr : isP s p xx
      · have heq : ∀ W : World, (binOp .eql 31 (prtV px py) (prtV s p)).run Tryd.prog W = .ok (.bool false) W := fun W => by
          rw [eql_prt, ← hpx, ← hpy]
          exact congrArg (fun b => Result.ok (Value.bool b) W) hpr
        have HN := Lib.hid (HNo.out.succ HX.out hpr)
        clear hpr hpx hpy HX xx
        have x1 := (HQl.out _ hq).cell_at 1 rfl
        go_wp2_with fail
        have HS := Lib.hid (HQ.out.drew hq)
        clear x1 hq
        refine region_steady (Q) 7 (by kernel_rfl) (by kernel_rfl) HS.out ?_
        simp only [List.take_succ_cons, List.take_zero, List.drop_succ_cons, List.drop_zero]
        repeat (first | (refine steady_skip (by rfl) ?_; simp only [Act.put, List.setIfInBounds_toArray, List.set_cons_zero, List.set_cons_succ]) | (refine steady_read _ (by rfl) (fun W hW => by (have m0 := HQl.out _ hW; have x1 := m0.cell_at 1 rfl; clear m0; rw [HAl.out] at x1; have m1 := HQv.out _ hW; have v0 := m1.cell_at 0 rfl; have v1 := m1.cell_at 1 rfl; clear m1; have c0 := HC0.out _ hW; have c1 := HC1.out _ hW; go_simp; first | done | with_reducible rfl)) ?_; simp only [Act.put, List.setIfInBounds_toArray, List.set_cons_zero, List.set_cons_succ]))
        refine steady_nil (fun W hW => ?_)
        go_wp2_with fail
        go_roundw
        case rel => exact ⟨j + 1, hlt, by go_num, hW, HN⟩
        case measure => simp [intOf]; omega
      · have heq : ∀ W : World, (binOp .eql 31 (prtV px py) (prtV s p)).run Tryd.prog W = .ok (.bool true) W := fun W => by
          rw [eql_prt, ← hpx, ← hpy]
          exact congrArg (fun b => Result.ok (Value.bool b) W) hpr
        have HV := Lib.hid ((HNo.out.idx HX.out hpr).symm.trans HR.out)
        clear hpr hpx hpy HX xx
        have x1 := (HQl.out _ hq).cell_at 1 rfl
        go_wp2_with fail
        have HS := Lib.hid (HQ.out.drew hq)
        clear x1 hq
        refine region_steady (Q) 7 (by kernel_rfl) (by kernel_rfl) HS.out ?_
        simp only [List.take_succ_cons, List.take_zero, List.drop_succ_cons, List.drop_zero]
        repeat (first | (refine steady_skip (by rfl) ?_; simp only [Act.put, List.setIfInBounds_toArray, List.set_cons_zero, List.set_cons_succ]) | (refine steady_read _ (by rfl) (fun W hW => by (have m0 := HQl.out _ hW; have x1 := m0.cell_at 1 rfl; clear m0; rw [HAl.out] at x1; have m1 := HQv.out _ hW; have v0 := m1.cell_at 0 rfl; have v1 := m1.cell_at 1 rfl; clear m1; have c0 := HC0.out _ hW; have c1 := HC1.out _ hW; go_simp; first | done | with_reducible rfl)) ?_; simp only [Act.put, List.setIfInBounds_toArray, List.set_cons_zero, List.set_cons_succ]))
        refine steady_nil (fun W hW => ?_)
        go_wp2_with fail
        go_ret
        obtain rfl := HV.out
        exact ⟨rfl, HQp.out _ hW⟩
    · obtain rfl : j = l.sigs.length := by omega
      have HV := Lib.hid ((HNo.out.idx_no).symm.trans HR.out)
      clear hj hlt HNo
      have x1 := (HQl.out _ hq).cell_at 1 rfl
      go_wp2_with fail
      go_ret
      obtain rfl := HV.out
      exact ⟨rfl, HQp.out _ hq⟩

set_option maxRecDepth 100000 in
set_option maxHeartbeats 4000000 in
theorem exitR_P (hP : Closed P) {l : Lay} (hL : ∀ w, P w → Lies l w) (s p : Int) {r : Int} (hr : exitV l s p = r) (h : P w) :
    Calls Tryd.prog 17 #[l.val, prtV s p] w fun e w' => e = .returned (.int .i64 r) ∧ P w' := by
  obtain ⟨Q, HQ, HQp, HQl, HQv, hq⟩ := keep_box2 hP h 29 31 l.cells (prtCells (s, p))
  have HQL : Hid (∀ W, Q W → Lies l W) := Lib.hid fun W hW => hL _ (HQp.out _ hW)
  have hn := (hL _ h).nE
  have HR : Hid (idxV (fun x : Exm => isP s p (x.s, x.q)) l.exits = r) := Lib.hid hr
  clear h hr
  go_enter Tryd.func17, Tryd.ntmps17
  go_wp2_with fail
  go_loopw [5] (fun i wr => ∃ j : Nat, j ≤ l.exits.length ∧ i = .int .i64 j ∧ Q wr ∧ Hid (NoneUp (fun x : Exm => isP s p (x.s, x.q)) l.exits j)) (fun i _ => l.exits.length - (intOf i).toNat)
  case atStart => exact ⟨0, by omega, rfl, hq, Lib.hid (NoneUp.zero _ _)⟩
  case round =>
    clear hq
    obtain ⟨j, hj, rfl, hq, HNo⟩ := hrel
    by_cases hlt : j < l.exits.length
    · have hlt' : (j : Int) < l.exits.length := by omega
      obtain ⟨xx, hx⟩ : ∃ x, l.exits[j]? = some x := ⟨_, List.getElem?_eq_getElem hlt⟩
      obtain ⟨o1, o2, HAl, HC0, HC1⟩ := exit_cells HQL.out hq hx
      have HX := Lib.hid hx
      clear hx
      obtain ⟨px, hpx⟩ : ∃ z, xx.s = z := ⟨_, rfl⟩
      obtain ⟨py, hpy⟩ : ∃ z, xx.q = z := ⟨_, rfl⟩
      rw [hpx] at HC0
      rw [hpy] at HC1
      cases hpr : isP s p (xx.s, xx.q)
      · have heq : ∀ W : World, (binOp .eql 31 (prtV px py) (prtV s p)).run Tryd.prog W = .ok (.bool false) W := fun W => by
          rw [eql_prt, ← hpx, ← hpy]
          exact congrArg (fun b => Result.ok (Value.bool b) W) hpr
        have HN := Lib.hid (HNo.out.succ HX.out hpr)
        clear hpr hpx hpy HX xx
        have x2 := (HQl.out _ hq).cell_at 2 rfl
        go_wp2_with fail
        have HS := Lib.hid (HQ.out.drew hq)
        clear x2 hq
        refine region_steady (Q) 7 (by kernel_rfl) (by kernel_rfl) HS.out ?_
        simp only [List.take_succ_cons, List.take_zero, List.drop_succ_cons, List.drop_zero]
        repeat (first | (refine steady_skip (by rfl) ?_; simp only [Act.put, List.setIfInBounds_toArray, List.set_cons_zero, List.set_cons_succ]) | (refine steady_read _ (by rfl) (fun W hW => by (have m0 := HQl.out _ hW; have x2 := m0.cell_at 2 rfl; clear m0; rw [HAl.out] at x2; have m1 := HQv.out _ hW; have v0 := m1.cell_at 0 rfl; have v1 := m1.cell_at 1 rfl; clear m1; have c0 := HC0.out _ hW; have c1 := HC1.out _ hW; go_simp; first | done | with_reducible rfl)) ?_; simp only [Act.put, List.setIfInBounds_toArray, List.set_cons_zero, List.set_cons_succ]))
        refine steady_nil (fun W hW => ?_)
        go_wp2_with fail
        go_roundw
        case rel => exact ⟨j + 1, hlt, by go_num, hW, HN⟩
        case measure => simp [intOf]; omega
      · have heq : ∀ W : World, (binOp .eql 31 (prtV px py) (prtV s p)).run Tryd.prog W = .ok (.bool true) W := fun W => by
          rw [eql_prt, ← hpx, ← hpy]
          exact congrArg (fun b => Result.ok (Value.bool b) W) hpr
        have HV := Lib.hid ((HNo.out.idx HX.out hpr).symm.trans HR.out)
        clear hpr hpx hpy HX xx
        have x2 := (HQl.out _ hq).cell_at 2 rfl
        go_wp2_with fail
        have HS := Lib.hid (HQ.out.drew hq)
        clear x2 hq
        refine region_steady (Q) 7 (by kernel_rfl) (by kernel_rfl) HS.out ?_
        simp only [List.take_succ_cons, List.take_zero, List.drop_succ_cons, List.drop_zero]
        repeat (first | (refine steady_skip (by rfl) ?_; simp only [Act.put, List.setIfInBounds_toArray, List.set_cons_zero, List.set_cons_succ]) | (refine steady_read _ (by rfl) (fun W hW => by (have m0 := HQl.out _ hW; have x2 := m0.cell_at 2 rfl; clear m0; rw [HAl.out] at x2; have m1 := HQv.out _ hW; have v0 := m1.cell_at 0 rfl; have v1 := m1.cell_at 1 rfl; clear m1; have c0 := HC0.out _ hW; have c1 := HC1.out _ hW; go_simp; first | done | with_reducible rfl)) ?_; simp only [Act.put, List.setIfInBounds_toArray, List.set_cons_zero, List.set_cons_succ]))
        refine steady_nil (fun W hW => ?_)
        go_wp2_with fail
        go_ret
        obtain rfl := HV.out
        exact ⟨rfl, HQp.out _ hW⟩
    · obtain rfl : j = l.exits.length := by omega
      have HV := Lib.hid ((HNo.out.idx_no).symm.trans HR.out)
      clear hj hlt HNo
      have x2 := (HQl.out _ hq).cell_at 2 rfl
      go_wp2_with fail
      go_ret
      obtain rfl := HV.out
      exact ⟨rfl, HQp.out _ hq⟩
end
end Go.Proofs.YtbalcbnlpgekaaaDoor
namespace Go.Proofs.YtbalcbnlpgekaaaDoor
open Go.RowKit Go.Shelf
set_option linter.unusedVariables false
set_option linter.unusedSimpArgs false

theorem row_at {Q : World → Prop} {α : Type} {f : α → List Value} {n : Nat} (hf : ∀ x, (f x).length = n) (hn : 0 < n) {A : Option Addr} {l : List α} (hQ : ∀ W, Q W → Row W W.heap.size A (l.flatMap f)) {W0 : World} (h0 : Q W0) {j : Nat} {x : α} (hx : l[j]? = some x) :
    ∃ o1 o2, Hid (A = some ⟨o1, o2, none⟩) ∧ Hid (∀ W, Q W → ∀ (j : Nat) (y : α) (v : Value), l[j]? = some y → (f y)[0]? = some v → W.cell? ⟨o1, o2 + j * n, none⟩ = some v) ∧
      Hid (∀ W, Q W → ∀ (j : Nat) (y : α) (k : Nat) (v : Value), l[j]? = some y → (f y)[k]? = some v → W.cell? ⟨o1, o2 + j * n + k, none⟩ = some v) := by
  obtain ⟨o1, o2, hA, _, _, _⟩ := (hQ _ h0).nth hf hn hx
  refine ⟨o1, o2, Lib.hid hA, Lib.hid fun W hW => ?_, Lib.hid fun W hW => ?_⟩
  all_goals
    obtain ⟨p1, p2, hA', _, hc0, hc⟩ := (hQ _ hW).nth hf hn hx
    rw [hA] at hA'
    cases hA'
  · exact hc0
  · exact hc
theorem join_at {W : World} {g : Nat} {x : Sec} (h : Whole W g 39 x.cells) {e : Nat} {p : Int × Int} (hp : x.ports4[e]? = some p) : W.cell? ⟨g, 1 + e * 2, none⟩ = some (.int .i64 p.1) ∧ W.cell? ⟨g, 1 + e * 2 + 1, none⟩ = some (.int .i64 p.2) := by
  match e, hp with
  | 0, hp => cases hp; exact ⟨h.cell_at 1 rfl, h.cell_at 2 rfl⟩
  | 1, hp => cases hp; exact ⟨h.cell_at 3 rfl, h.cell_at 4 rfl⟩
  | 2, hp => cases hp; exact ⟨h.cell_at 5 rfl, h.cell_at 6 rfl⟩
  | 3, hp => cases hp; exact ⟨h.cell_at 7 rfl, h.cell_at 8 rfl⟩
  | n + 4, hp => cases hp
theorem thereR_B {l : Lay} {w : World} (hL : Lies l w) (s p : Int) {r : Bool} (hr : thereV l s p = r) : Calls Tryd.prog 52 #[l.val, prtV s p] w fun e w' => e = .returned (.bool r) ∧ Below w.heap.size w w' :=
  thereR_P (P := fun W => Below w.heap.size w W) (Closed.below w) (fun W h => Lies.closed l _ _ hL h) s p hr (Below.refl _ _)
theorem stepR_B {l : Lay} {w : World} (hL : Lies l w) (s i o : Int) {v : Int} {r : Bool} (hv : wayK (kindV l s) i o = v) (hr : stepV l s i o = r) : Calls Tryd.prog 13 #[l.val, stpV s i o] w fun e w' => e = .returned (.tuple #[.int .i64 v, .bool r]) ∧ Below w.heap.size w w' :=
  stepR_P (P := fun W => Below w.heap.size w W) (Closed.below w) (fun W h => Lies.closed l _ _ hL h) s i o hv hr (Below.refl _ _)
theorem waysR_B {w : World} {k p n a b c d : Int} (hk : IsShape k p n a b c d) : Calls Tryd.prog 68 #[.int .u8 k] w fun e w' => e = .returned (.int .i64 n) ∧ Below w.heap.size w w' :=
  waysR_P (P := fun W => Below w.heap.size w W) hk (Below.refl _ _)

/-- A port to which is joined, and that is not there; may a section be, an exit? -/
def noJ (l : Lay) (p : Int × Int) : Bool := decide (0 ≤ p.1) && !thereV l p.1 p.2
def secOk (l : Lay) (x : Sec) : Bool := !(x.ports4.any (noJ l)) && rightK x
def noS (l : Lay) (s : Int × Int × Int) : Bool := !stepV l s.1 s.2.1 s.2.2
def exitOk (l : Lay) (x : Exm) : Bool := !(x.over.any (noS l)) && (thereV l x.s x.q && decide ((x.over.length : Int) ≤ 2))
theorem flank_cases (l : Lay) (a b c d : Int) : (flankV l a b c d = false ∧ a < 0) ∨ (flankV l a b c d = false ∧ 0 ≤ a ∧ (l.secs.length : Int) ≤ a) ∨ ∃ (i : Nat) (x : Sec), a = i ∧ l.secs[i]? = some x ∧ (i : Int) < l.secs.length ∧
    ((flankV l a b c d = false ∧ c < 0) ∨ (flankV l a b c d = false ∧ 0 ≤ c ∧ (l.secs.length : Int) ≤ c) ∨ ∃ (j : Nat) (y : Sec), c = j ∧ l.secs[j]? = some y ∧ (j : Int) < l.secs.length ∧
      ((flankV l a b c d = false ∧ i = j) ∨ (i ≠ j ∧ ((flankV l a b c d = false ∧ d < 0) ∨ (flankV l a b c d = false ∧ 0 ≤ d ∧ 1 < d) ∨ (0 ≤ d ∧ d ≤ 1 ∧
        ((flankV l a b c d = false ∧ b < 0) ∨ (0 ≤ b ∧ ((flankV l a b c d = false ∧ nK x.k ≤ b) ∨ (b < nK x.k ∧ flankV l a b c d = (y.k == 2)))))))))) := by
  have hz : ∀ s, kindV l s = 0 → nK (kindV l s) = 0 := fun s h => by rw [h]; rfl
  unfold flankV
  by_cases h0 : a < 0
  · refine .inl ⟨?_, h0⟩
    have := hz a (kindV_no (by omega))
    rw [this]
    unfold withinA
    by_cases hb : 0 ≤ b
    · rw [decide_eq_false (show ¬ b ≤ 0 - 1 by omega)]; simp
    · rw [decide_eq_false hb]; simp
  by_cases h1 : (l.secs.length : Int) ≤ a
  · refine .inr (.inl ⟨?_, by omega, h1⟩)
    have := hz a (kindV_no (by omega))
    rw [this]
    unfold withinA
    by_cases hb : 0 ≤ b
    · rw [decide_eq_false (show ¬ b ≤ 0 - 1 by omega)]; simp
    · rw [decide_eq_false hb]; simp
  obtain ⟨i, rfl⟩ : ∃ i : Nat, a = i := ⟨a.toNat, by omega⟩
  have hx : l.secs[i]? = some (l.secs[i]'(by omega)) := List.getElem?_eq_getElem (by omega)
  refine .inr (.inr ⟨i, _, rfl, hx, by omega, ?_⟩)
  generalize l.secs[i]'(by omega) = x at hx
  rw [kindV_at hx]
  have hk2 : ∀ s, kindV l s = 0 → (kindV l s == 2) = false := fun s h => by rw [h]; rfl
  by_cases h2 : c < 0
  · exact .inl ⟨by rw [hk2 c (kindV_no (by omega))]; simp, h2⟩
  by_cases h3 : (l.secs.length : Int) ≤ c
  · exact .inr (.inl ⟨by rw [hk2 c (kindV_no (by omega))]; simp, by omega, h3⟩)
  obtain ⟨j, rfl⟩ : ∃ j : Nat, c = j := ⟨c.toNat, by omega⟩
  have hy : l.secs[j]? = some (l.secs[j]'(by omega)) := List.getElem?_eq_getElem (by omega)
  refine .inr (.inr ⟨j, _, rfl, hy, by omega, ?_⟩)
  generalize l.secs[j]'(by omega) = y at hy
  rw [kindV_at hy]
  by_cases h4 : i = j
  · subst h4; exact .inl ⟨by simp, rfl⟩
  refine .inr ⟨h4, ?_⟩
  have e4 : (((j : Nat) : Int) == ((i : Nat) : Int)) = false := by rw [beq_eq_false_iff_ne]; omega
  rw [e4]
  unfold withinA
  by_cases h5 : d < 0
  · exact .inl ⟨by rw [decide_eq_false (show ¬ 0 ≤ d by omega)]; simp, h5⟩
  by_cases h6 : 1 < d
  · exact .inr (.inl ⟨by rw [decide_eq_false (show ¬ d ≤ 1 by omega)]; simp, by omega, h6⟩)
  refine .inr (.inr ⟨by omega, by omega, ?_⟩)
  rw [decide_eq_true (show 0 ≤ d by omega), decide_eq_true (show d ≤ 1 by omega)]
  by_cases h7 : b < 0
  · exact .inl ⟨by rw [decide_eq_false (show ¬ 0 ≤ b by omega)]; simp, h7⟩
  refine .inr ⟨by omega, ?_⟩
  by_cases h8 : nK x.k ≤ b
  · exact .inl ⟨by rw [decide_eq_false (show ¬ b ≤ nK x.k - 1 by omega)]; simp, h8⟩
  · exact .inr ⟨by omega, by rw [decide_eq_true (show 0 ≤ b by omega), decide_eq_true (show b ≤ nK x.k - 1 by omega)]; simp⟩

section
variable {P : World → Prop} {w : World}
set_option maxRecDepth 100000 in
set_option maxHeartbeats 8000000 in
theorem sectionR_P (hP : Closed P) {l : Lay} (hL : ∀ w, P w → Lies l w) (x : Sec) {r : Bool} (hr : secOk l x = r) (h : P w) :
    Calls Tryd.prog 51 #[l.val, x.val] w fun e w' => e = .returned (.bool r) ∧ P w' := by
  obtain ⟨Q, HQ, HQp, HQl, HQx, hq⟩ := keep_box2 hP h 29 39 l.cells x.cells
  have HQL : Hid (∀ W, Q W → Lies l W) := Lib.hid fun W hW => hL _ (HQp.out _ hW)
  obtain ⟨rk, hrk⟩ : ∃ z, rightK x = z := ⟨_, rfl⟩
  have KR := Lib.hid (fun W hW => rightR_P (P := Q) (w := W) HQ.out x.k x.s0 x.q0 x.s1 x.q1 x.s2 x.q2 x.s3 x.q3 x.c0 x.c1 (shapeK x.k) hrk hW)
  have HR : Hid (secOk l x = r) := Lib.hid hr
  have HRK : Hid (rightK x = rk) := Lib.hid hrk
  clear h hr hL hP hrk
  go_enter Tryd.func51, Tryd.ntmps51
  go_wp2_with fail
  go_loopw [5] (fun i wr => ∃ e : Nat, e ≤ 4 ∧ i = .int .i64 e ∧ Q wr ∧ Hid (NoneUp (noJ l) x.ports4 e)) (fun i _ => 4 - (intOf i).toNat)
  case atStart => exact ⟨0, by omega, rfl, hq, Lib.hid (NoneUp.zero _ _)⟩
  case round =>
    clear hq
    obtain ⟨e, he, rfl, hq, HNo⟩ := hrel
    by_cases hel : e < 4
    · have hel' : (e : Int) < 4 := by omega
      obtain ⟨⟨ps, pq⟩, hp⟩ : ∃ p, x.ports4[e]? = some p := ⟨_, List.getElem?_eq_getElem (by show e < 4; exact hel)⟩
      have HJ := Lib.hid (fun W hW => (join_at (HQx.out W hW) hp).1)
      have HJ1 := Lib.hid (fun W hW => (join_at (HQx.out W hW) hp).2)
      have HX := Lib.hid hp
      simp only at HJ HJ1
      clear hp
      by_cases hd : 0 ≤ ps
      · have d0 := decide_eq_true hd
        obtain ⟨b, ht⟩ : ∃ b, thereV l ps pq = b := ⟨_, rfl⟩
        have KT := Lib.hid (fun W hW => thereR_B (HQL.out W hW) ps pq ht)
        have HB : Hid (noJ l (ps, pq) = !b) := Lib.hid (by unfold noJ; simp only [d0, ht, Bool.true_and])
        clear hd ht
        cases b
        · have HF : Hid (false = r) := Lib.hid (by rw [← HR.out]; unfold secOk; rw [any_hit HX.out HB.out]; rfl)
          clear HX HB
          go_wp2_with fail
          have HBS : Hid (∀ W, Below wr.heap.size wr W → Q W) := Lib.hid (fun W hB => HQ.out _ _ hq hB)
          clear hq
          refine region_mix (Below wr.heap.size wr) [(0, false), (1, false), (2, false), (3, false), (4, false), (5, false), (6, false), (7, false), (8, false), (9, false), (10, false), (11, false), (12, false), (13, false), (14, false)] (by kernel_rfl) (by kernel_rfl) (Below wr.heap.size wr) ⟨Closed.below wr, fun _ h => h⟩ (Below.refl _ _).drew ?_
          simp only [pickOps, List.getElem?_cons_zero, List.getElem?_cons_succ]
          repeat (first | (refine mix_skip (by rfl) ?_; simp only [Act.put, List.setIfInBounds_toArray, List.set_cons_zero, List.set_cons_succ]) | (refine mix_read _ (by rfl) (fun W hW => by (have hW := HBS.out W hW; have m0 := HQl.out _ hW; have x0 := m0.cell_at 0 rfl; have x1 := m0.cell_at 1 rfl; have x2 := m0.cell_at 2 rfl; have x3 := m0.cell_at 3 rfl; have x4 := m0.cell_at 4 rfl; have x5 := m0.cell_at 5 rfl; have x6 := m0.cell_at 6 rfl; have x7 := m0.cell_at 7 rfl; have x8 := m0.cell_at 8 rfl; have x9 := m0.cell_at 9 rfl; have x10 := m0.cell_at 10 rfl; clear m0; have c0 := HJ.out _ hW; have c1 := HJ1.out _ hW; go_simp; first | done | with_reducible rfl)) ?_; simp only [Act.put, List.setIfInBounds_toArray, List.set_cons_zero, List.set_cons_succ]) | (refine mix_call _ _ _ (by rfl) (fun W hW => by (have hW := HBS.out W hW; have m0 := HQl.out _ hW; have x0 := m0.cell_at 0 rfl; have x1 := m0.cell_at 1 rfl; have x2 := m0.cell_at 2 rfl; have x3 := m0.cell_at 3 rfl; have x4 := m0.cell_at 4 rfl; have x5 := m0.cell_at 5 rfl; have x6 := m0.cell_at 6 rfl; have x7 := m0.cell_at 7 rfl; have x8 := m0.cell_at 8 rfl; have x9 := m0.cell_at 9 rfl; have x10 := m0.cell_at 10 rfl; clear m0; have c0 := HJ.out _ hW; have c1 := HJ1.out _ hW; go_simp; first | done | rfl)) (fun W hW => KT.out W (HBS.out W hW)) ?_; simp only [Act.put, List.setIfInBounds_toArray, List.set_cons_zero, List.set_cons_succ]))
          refine mix_nil (fun W hW => ?_)
          have hq := HBS.out W hW
          clear hW HBS
          go_wp2_with fail
          go_ret
          exact ⟨ret_bool HF.out, HQp.out _ hq⟩
        · have HN := Lib.hid (HNo.out.succ HX.out HB.out)
          clear HX HB
          go_wp2_with fail
          have HBS : Hid (∀ W, Below wr.heap.size wr W → Q W) := Lib.hid (fun W hB => HQ.out _ _ hq hB)
          clear hq
          refine region_mix (Below wr.heap.size wr) [(0, false), (1, false), (2, false), (3, false), (4, false), (5, false), (6, false), (7, false), (8, false), (9, false), (10, false), (11, false), (12, false), (13, false), (14, false)] (by kernel_rfl) (by kernel_rfl) (Below wr.heap.size wr) ⟨Closed.below wr, fun _ h => h⟩ (Below.refl _ _).drew ?_
          simp only [pickOps, List.getElem?_cons_zero, List.getElem?_cons_succ]
          repeat (first | (refine mix_skip (by rfl) ?_; simp only [Act.put, List.setIfInBounds_toArray, List.set_cons_zero, List.set_cons_succ]) | (refine mix_read _ (by rfl) (fun W hW => by (have hW := HBS.out W hW; have m0 := HQl.out _ hW; have x0 := m0.cell_at 0 rfl; have x1 := m0.cell_at 1 rfl; have x2 := m0.cell_at 2 rfl; have x3 := m0.cell_at 3 rfl; have x4 := m0.cell_at 4 rfl; have x5 := m0.cell_at 5 rfl; have x6 := m0.cell_at 6 rfl; have x7 := m0.cell_at 7 rfl; have x8 := m0.cell_at 8 rfl; have x9 := m0.cell_at 9 rfl; have x10 := m0.cell_at 10 rfl; clear m0; have c0 := HJ.out _ hW; have c1 := HJ1.out _ hW; go_simp; first | done | with_reducible rfl)) ?_; simp only [Act.put, List.setIfInBounds_toArray, List.set_cons_zero, List.set_cons_succ]) | (refine mix_call _ _ _ (by rfl) (fun W hW => by (have hW := HBS.out W hW; have m0 := HQl.out _ hW; have x0 := m0.cell_at 0 rfl; have x1 := m0.cell_at 1 rfl; have x2 := m0.cell_at 2 rfl; have x3 := m0.cell_at 3 rfl; have x4 := m0.cell_at 4 rfl; have x5 := m0.cell_at 5 rfl; have x6 := m0.cell_at 6 rfl; have x7 := m0.cell_at 7 rfl; have x8 := m0.cell_at 8 rfl; have x9 := m0.cell_at 9 rfl; have x10 := m0.cell_at 10 rfl; clear m0; have c0 := HJ.out _ hW; have c1 := HJ1.out _ hW; go_simp; first | done | rfl)) (fun W hW => KT.out W (HBS.out W hW)) ?_; simp only [Act.put, List.setIfInBounds_toArray, List.set_cons_zero, List.set_cons_succ]))
          refine mix_nil (fun W hW => ?_)
          have hq := HBS.out W hW
          clear hW HBS
          go_wp2_with fail
          go_roundw
          case rel => exact ⟨e + 1, hel, by go_num, hq, HN⟩
          case measure => simp [intOf]; omega
      · have d0 := decide_eq_false hd
        have HN := Lib.hid (HNo.out.succ HX.out (by unfold noJ; simp only [d0, Bool.false_and]))
        clear hd HX
        go_wp2_with fail
        have HBS : Hid (∀ W, Below wr.heap.size wr W → Q W) := Lib.hid (fun W hB => HQ.out _ _ hq hB)
        clear hq
        refine region_mix (Below wr.heap.size wr) [(0, false), (1, false), (2, false), (3, false), (4, false), (5, false), (6, false), (7, false), (8, false), (9, false), (10, false), (11, false), (12, false), (13, false), (14, false)] (by kernel_rfl) (by kernel_rfl) (Below wr.heap.size wr) ⟨Closed.below wr, fun _ h => h⟩ (Below.refl _ _).drew ?_
        simp only [pickOps, List.getElem?_cons_zero, List.getElem?_cons_succ]
        repeat (first | (refine mix_skip (by rfl) ?_; simp only [Act.put, List.setIfInBounds_toArray, List.set_cons_zero, List.set_cons_succ]) | (refine mix_read _ (by rfl) (fun W hW => by (have hW := HBS.out W hW; have m0 := HQl.out _ hW; have x0 := m0.cell_at 0 rfl; have x1 := m0.cell_at 1 rfl; have x2 := m0.cell_at 2 rfl; have x3 := m0.cell_at 3 rfl; have x4 := m0.cell_at 4 rfl; have x5 := m0.cell_at 5 rfl; have x6 := m0.cell_at 6 rfl; have x7 := m0.cell_at 7 rfl; have x8 := m0.cell_at 8 rfl; have x9 := m0.cell_at 9 rfl; have x10 := m0.cell_at 10 rfl; clear m0; have c0 := HJ.out _ hW; have c1 := HJ1.out _ hW; go_simp; first | done | with_reducible rfl)) ?_; simp only [Act.put, List.setIfInBounds_toArray, List.set_cons_zero, List.set_cons_succ]))
        refine mix_nil (fun W hW => ?_)
        have hq := HBS.out W hW
        clear hW HBS
        go_wp2_with fail
        go_roundw
        case rel => exact ⟨e + 1, hel, by go_num, hq, HN⟩
        case measure => simp [intOf]; omega
    · obtain rfl : e = 4 := by omega
      have HF : Hid (rk = r) := Lib.hid (by rw [← HR.out, ← HRK.out]; unfold secOk; rw [NoneUp.any (l := x.ports4) HNo.out]; rfl)
      have m := HQx.out _ hq
      have y0 := m.cell_at 0 rfl
      have y1 := m.cell_at 1 rfl
      have y2 := m.cell_at 2 rfl
      have y3 := m.cell_at 3 rfl
      have y4 := m.cell_at 4 rfl
      have y5 := m.cell_at 5 rfl
      have y6 := m.cell_at 6 rfl
      have y7 := m.cell_at 7 rfl
      have y8 := m.cell_at 8 rfl
      have y9 := m.cell_at 9 rfl
      have y10 := m.cell_at 10 rfl
      clear m
      go_wp2_with fail
      refine (KR.out _ hq).mono ?_
      clear y0 y1 y2 y3 y4 y5 y6 y7 y8 y9 y10 hq
      rintro e w1 ⟨rfl, hq⟩
      go_wp2_with fail
      go_ret
      exact ⟨ret_bool HF.out, HQp.out _ hq⟩

set_option maxRecDepth 100000 in
set_option maxHeartbeats 8000000 in
theorem exitR1_P (hP : Closed P) {l : Lay} (hL : ∀ w, P w → Lies l w) (x : Exm) (hO : ∀ w, P w → Row w w.heap.size x.A (x.over.flatMap stpCells)) (hn : (x.over.length : Int) ≤ 9223372036854775807) {r : Bool} (hr : exitOk l x = r) (h : P w) :
    Calls Tryd.prog 53 #[l.val, x.val] w fun e w' => e = .returned (.bool r) ∧ P w' := by
  obtain ⟨Q, HQ, HQp, HQl, HQx, hq⟩ := keep_box2 hP h 29 53 l.cells x.cells
  have HQL : Hid (∀ W, Q W → Lies l W) := Lib.hid fun W hW => hL _ (HQp.out _ hW)
  have HQO : Hid (∀ W, Q W → Row W W.heap.size x.A (x.over.flatMap stpCells)) := Lib.hid fun W hW => hO _ (HQp.out _ hW)
  obtain ⟨tb, htb⟩ : ∃ z, thereV l x.s x.q = z := ⟨_, rfl⟩
  have KT := Lib.hid (fun W hW => thereR_P (P := Q) (w := W) HQ.out HQL.out x.s x.q htb hW)
  have HR : Hid (exitOk l x = r) := Lib.hid hr
  have HTB : Hid (thereV l x.s x.q = tb) := Lib.hid htb
  clear h hr hL hP htb hO
  go_enter Tryd.func53, Tryd.ntmps53
  go_wp2_with fail
  go_loopw [5] (fun i wr => ∃ j : Nat, j ≤ x.over.length ∧ i = .int .i64 j ∧ Q wr ∧ Hid (NoneUp (noS l) x.over j)) (fun i _ => x.over.length - (intOf i).toNat)
  case atStart => exact ⟨0, by omega, rfl, hq, Lib.hid (NoneUp.zero _ _)⟩
  case round =>
    clear hq
    obtain ⟨j, hj, rfl, hq, HNo⟩ := hrel
    have v2 := (HQx.out _ hq).cell_at 2 rfl
    by_cases hlt : j < x.over.length
    · have hlt' : (j : Int) < x.over.length := by omega
      obtain ⟨⟨ys, yi, yo⟩, hy⟩ : ∃ y, x.over[j]? = some y := ⟨_, List.getElem?_eq_getElem hlt⟩
      obtain ⟨o1, o2, HA, HC0, HC⟩ := row_at (n := 3) (fun _ => rfl) (by omega) HQO.out hq hy
      have HX := Lib.hid hy
      clear hy
      obtain ⟨v, hv⟩ : ∃ v, wayK (kindV l ys) yi yo = v := ⟨_, rfl⟩
      obtain ⟨b, hb⟩ : ∃ b, stepV l ys yi yo = b := ⟨_, rfl⟩
      have KS := Lib.hid (fun W hW => stepR_B (HQL.out W hW) ys yi yo hv hb)
      have HB : Hid (noS l (ys, yi, yo) = !b) := Lib.hid (by unfold noS; simp only [hb])
      clear hv hb
      cases b
      · have HF : Hid (false = r) := Lib.hid (by rw [← HR.out]; unfold exitOk; rw [any_hit HX.out HB.out]; rfl)
        go_wp2_with fail
        clear v2
        have HBS : Hid (∀ W, Below wr.heap.size wr W → Q W) := Lib.hid (fun W hB => HQ.out _ _ hq hB)
        clear hq
        refine region_mix (Below wr.heap.size wr) [(0, false), (1, false), (2, false), (3, false), (4, false), (5, false), (6, false), (7, false), (8, false), (9, false), (10, false), (11, false)] (by kernel_rfl) (by kernel_rfl) (Below wr.heap.size wr) ⟨Closed.below wr, fun _ h => h⟩ (Below.refl _ _).drew ?_
        simp only [pickOps, List.getElem?_cons_zero, List.getElem?_cons_succ]
        repeat (first | (refine mix_skip (by rfl) ?_; simp only [Act.put, List.setIfInBounds_toArray, List.set_cons_zero, List.set_cons_succ]) | (refine mix_read _ (by rfl) (fun W hW => by (have hW := HBS.out W hW; have m0 := HQl.out _ hW; have x0 := m0.cell_at 0 rfl; have x1 := m0.cell_at 1 rfl; have x2 := m0.cell_at 2 rfl; have x3 := m0.cell_at 3 rfl; have x4 := m0.cell_at 4 rfl; have x5 := m0.cell_at 5 rfl; have x6 := m0.cell_at 6 rfl; have x7 := m0.cell_at 7 rfl; have x8 := m0.cell_at 8 rfl; have x9 := m0.cell_at 9 rfl; have x10 := m0.cell_at 10 rfl; clear m0; have m1 := HQx.out _ hW; have v0 := m1.cell_at 0 rfl; have v1 := m1.cell_at 1 rfl; have v2 := m1.cell_at 2 rfl; clear m1; rw [HA.out] at v2; have c0 := HC0.out _ hW j _ _ HX.out rfl; have c1 := HC.out _ hW j _ 1 _ HX.out rfl; have c2 := HC.out _ hW j _ 2 _ HX.out rfl; go_simp; first | done | with_reducible rfl)) ?_; simp only [Act.put, List.setIfInBounds_toArray, List.set_cons_zero, List.set_cons_succ]) | (refine mix_call _ _ _ (by rfl) (fun W hW => by (have hW := HBS.out W hW; have m0 := HQl.out _ hW; have x0 := m0.cell_at 0 rfl; have x1 := m0.cell_at 1 rfl; have x2 := m0.cell_at 2 rfl; have x3 := m0.cell_at 3 rfl; have x4 := m0.cell_at 4 rfl; have x5 := m0.cell_at 5 rfl; have x6 := m0.cell_at 6 rfl; have x7 := m0.cell_at 7 rfl; have x8 := m0.cell_at 8 rfl; have x9 := m0.cell_at 9 rfl; have x10 := m0.cell_at 10 rfl; clear m0; have m1 := HQx.out _ hW; have v0 := m1.cell_at 0 rfl; have v1 := m1.cell_at 1 rfl; have v2 := m1.cell_at 2 rfl; clear m1; rw [HA.out] at v2; have c0 := HC0.out _ hW j _ _ HX.out rfl; have c1 := HC.out _ hW j _ 1 _ HX.out rfl; have c2 := HC.out _ hW j _ 2 _ HX.out rfl; go_simp; first | done | rfl)) (fun W hW => KS.out W (HBS.out W hW)) ?_; simp only [Act.put, List.setIfInBounds_toArray, List.set_cons_zero, List.set_cons_succ]))
        refine mix_nil (fun W hW => ?_)
        have hq := HBS.out W hW
        clear hW HBS
        go_wp2_with fail
        go_ret
        exact ⟨ret_bool HF.out, HQp.out _ hq⟩
      · have HN := Lib.hid (HNo.out.succ HX.out HB.out)
        go_wp2_with fail
        clear v2
        have HBS : Hid (∀ W, Below wr.heap.size wr W → Q W) := Lib.hid (fun W hB => HQ.out _ _ hq hB)
        clear hq
        refine region_mix (Below wr.heap.size wr) [(0, false), (1, false), (2, false), (3, false), (4, false), (5, false), (6, false), (7, false), (8, false), (9, false), (10, false), (11, false)] (by kernel_rfl) (by kernel_rfl) (Below wr.heap.size wr) ⟨Closed.below wr, fun _ h => h⟩ (Below.refl _ _).drew ?_
        simp only [pickOps, List.getElem?_cons_zero, List.getElem?_cons_succ]
        repeat (first | (refine mix_skip (by rfl) ?_; simp only [Act.put, List.setIfInBounds_toArray, List.set_cons_zero, List.set_cons_succ]) | (refine mix_read _ (by rfl) (fun W hW => by (have hW := HBS.out W hW; have m0 := HQl.out _ hW; have x0 := m0.cell_at 0 rfl; have x1 := m0.cell_at 1 rfl; have x2 := m0.cell_at 2 rfl; have x3 := m0.cell_at 3 rfl; have x4 := m0.cell_at 4 rfl; have x5 := m0.cell_at 5 rfl; have x6 := m0.cell_at 6 rfl; have x7 := m0.cell_at 7 rfl; have x8 := m0.cell_at 8 rfl; have x9 := m0.cell_at 9 rfl; have x10 := m0.cell_at 10 rfl; clear m0; have m1 := HQx.out _ hW; have v0 := m1.cell_at 0 rfl; have v1 := m1.cell_at 1 rfl; have v2 := m1.cell_at 2 rfl; clear m1; rw [HA.out] at v2; have c0 := HC0.out _ hW j _ _ HX.out rfl; have c1 := HC.out _ hW j _ 1 _ HX.out rfl; have c2 := HC.out _ hW j _ 2 _ HX.out rfl; go_simp; first | done | with_reducible rfl)) ?_; simp only [Act.put, List.setIfInBounds_toArray, List.set_cons_zero, List.set_cons_succ]) | (refine mix_call _ _ _ (by rfl) (fun W hW => by (have hW := HBS.out W hW; have m0 := HQl.out _ hW; have x0 := m0.cell_at 0 rfl; have x1 := m0.cell_at 1 rfl; have x2 := m0.cell_at 2 rfl; have x3 := m0.cell_at 3 rfl; have x4 := m0.cell_at 4 rfl; have x5 := m0.cell_at 5 rfl; have x6 := m0.cell_at 6 rfl; have x7 := m0.cell_at 7 rfl; have x8 := m0.cell_at 8 rfl; have x9 := m0.cell_at 9 rfl; have x10 := m0.cell_at 10 rfl; clear m0; have m1 := HQx.out _ hW; have v0 := m1.cell_at 0 rfl; have v1 := m1.cell_at 1 rfl; have v2 := m1.cell_at 2 rfl; clear m1; rw [HA.out] at v2; have c0 := HC0.out _ hW j _ _ HX.out rfl; have c1 := HC.out _ hW j _ 1 _ HX.out rfl; have c2 := HC.out _ hW j _ 2 _ HX.out rfl; go_simp; first | done | rfl)) (fun W hW => KS.out W (HBS.out W hW)) ?_; simp only [Act.put, List.setIfInBounds_toArray, List.set_cons_zero, List.set_cons_succ]))
        refine mix_nil (fun W hW => ?_)
        have hq := HBS.out W hW
        clear hW HBS
        go_wp2_with fail
        go_roundw
        case rel => exact ⟨j + 1, hlt, by go_num, hq, HN⟩
        case measure => simp [intOf]; omega
    · obtain rfl : j = x.over.length := by omega
      have HF : Hid ((tb && decide ((x.over.length : Int) ≤ 2)) = r) := Lib.hid (by rw [← HR.out, ← HTB.out]; unfold exitOk; rw [NoneUp.any HNo.out]; rfl)
      clear hj hlt HNo v2
      have hW := hq
      have m0 := HQl.out _ hW
      have x0 := m0.cell_at 0 rfl
      have x1 := m0.cell_at 1 rfl
      have x2 := m0.cell_at 2 rfl
      have x3 := m0.cell_at 3 rfl
      have x4 := m0.cell_at 4 rfl
      have x5 := m0.cell_at 5 rfl
      have x6 := m0.cell_at 6 rfl
      have x7 := m0.cell_at 7 rfl
      have x8 := m0.cell_at 8 rfl
      have x9 := m0.cell_at 9 rfl
      have x10 := m0.cell_at 10 rfl
      clear m0
      have m1 := HQx.out _ hW
      have v0 := m1.cell_at 0 rfl
      have v1 := m1.cell_at 1 rfl
      have v2 := m1.cell_at 2 rfl
      clear m1
      clear hW
      go_wp2_with fail
      refine (KT.out _ hq).mono ?_
      clear x0 x1 x2 x3 x4 x5 x6 x7 x8 x9 x10 v0 v1 v2 hq
      rintro e w1 ⟨rfl, hq⟩
      have v2 := (HQx.out _ hq).cell_at 2 rfl
      cases tb
      · go_wp2_with fail
        go_ret
        exact ⟨ret_bool HF.out, HQp.out _ hq⟩
      · by_cases h2 : (x.over.length : Int) ≤ 2
        · have d2 := decide_eq_true h2
          rw [d2] at HF
          clear h2
          go_wp2_with fail
          go_ret
          exact ⟨ret_bool HF.out, HQp.out _ hq⟩
        · have d2 := decide_eq_false h2
          rw [d2] at HF
          clear h2
          go_wp2_with fail
          go_ret
          exact ⟨ret_bool HF.out, HQp.out _ hq⟩

set_option maxRecDepth 100000 in
set_option maxHeartbeats 8000000 in
theorem flankR_P (hP : Closed P) {l : Lay} (hL : ∀ w, P w → Lies l w) (a b c d : Int) {r : Bool} (hr : flankV l a b c d = r) (h : P w) :
    Calls Tryd.prog 54 #[l.val, flkV a b c d] w fun e w' => e = .returned (.bool r) ∧ P w' := by
  obtain ⟨Q, HQ, HQp, HQl, HQv, hq⟩ := keep_box2 hP h 29 55 l.cells (flkCells (a, b, c, d))
  have HQL : Hid (∀ W, Q W → Row W W.heap.size l.As (l.secs.flatMap Sec.cells)) := Lib.hid fun W hW => (hL _ (HQp.out _ hW)).secs
  have hcase := flank_cases l a b c d
  rw [hr] at hcase
  clear h hr hL hP
  rcases hcase with ⟨rfl, h1⟩ | ⟨rfl, h1, h2⟩ | ⟨i, x, rfl, hx, hi, ⟨rfl, h3⟩ | ⟨rfl, h3, h4⟩ | ⟨j, y, rfl, hy, hj, ⟨rfl, h5⟩ | ⟨hne, ⟨rfl, h6⟩ | ⟨rfl, h6, h7⟩ | ⟨h6, h7, ⟨rfl, h8⟩ | ⟨h8, ⟨rfl, h9⟩ | ⟨h9, h10⟩⟩⟩⟩⟩⟩
  · go_enter Tryd.func54, Tryd.ntmps54
    have e1 := decide_eq_true h1
    clear h1
    have hW := hq
    have m0 := HQl.out _ hW
    have x0 := m0.cell_at 0 rfl
    have x1 := m0.cell_at 1 rfl
    have x2 := m0.cell_at 2 rfl
    have x3 := m0.cell_at 3 rfl
    have x4 := m0.cell_at 4 rfl
    have x5 := m0.cell_at 5 rfl
    have x6 := m0.cell_at 6 rfl
    have x7 := m0.cell_at 7 rfl
    have x8 := m0.cell_at 8 rfl
    have x9 := m0.cell_at 9 rfl
    have x10 := m0.cell_at 10 rfl
    clear m0
    have m1 := HQv.out _ hW
    have v0 := m1.cell_at 0 rfl
    have v1 := m1.cell_at 1 rfl
    have v2 := m1.cell_at 2 rfl
    have v3 := m1.cell_at 3 rfl
    clear m1
    clear hW
    go_wp2_with fail
    go_ret
    exact ⟨rfl, HQp.out _ hq⟩
  · go_enter Tryd.func54, Tryd.ntmps54
    have e1 : decide (a < 0) = false := decide_eq_false (by omega)
    have e2 := decide_eq_true h2
    clear h1 h2
    have hW := hq
    have m0 := HQl.out _ hW
    have x0 := m0.cell_at 0 rfl
    have x1 := m0.cell_at 1 rfl
    have x2 := m0.cell_at 2 rfl
    have x3 := m0.cell_at 3 rfl
    have x4 := m0.cell_at 4 rfl
    have x5 := m0.cell_at 5 rfl
    have x6 := m0.cell_at 6 rfl
    have x7 := m0.cell_at 7 rfl
    have x8 := m0.cell_at 8 rfl
    have x9 := m0.cell_at 9 rfl
    have x10 := m0.cell_at 10 rfl
    clear m0
    have m1 := HQv.out _ hW
    have v0 := m1.cell_at 0 rfl
    have v1 := m1.cell_at 1 rfl
    have v2 := m1.cell_at 2 rfl
    have v3 := m1.cell_at 3 rfl
    clear m1
    clear hW
    go_wp2_with fail
    go_ret
    exact ⟨rfl, HQp.out _ hq⟩
  · go_enter Tryd.func54, Tryd.ntmps54
    have e1 : decide ((i : Int) < 0) = false := decide_eq_false (by omega)
    have e2 : decide ((l.secs.length : Int) ≤ i) = false := decide_eq_false (by omega)
    have e2n : decide (l.secs.length ≤ i) = false := decide_eq_false (by omega)
    have e3 := decide_eq_true h3
    clear h3
    have hW := hq
    have m0 := HQl.out _ hW
    have x0 := m0.cell_at 0 rfl
    have x1 := m0.cell_at 1 rfl
    have x2 := m0.cell_at 2 rfl
    have x3 := m0.cell_at 3 rfl
    have x4 := m0.cell_at 4 rfl
    have x5 := m0.cell_at 5 rfl
    have x6 := m0.cell_at 6 rfl
    have x7 := m0.cell_at 7 rfl
    have x8 := m0.cell_at 8 rfl
    have x9 := m0.cell_at 9 rfl
    have x10 := m0.cell_at 10 rfl
    clear m0
    have m1 := HQv.out _ hW
    have v0 := m1.cell_at 0 rfl
    have v1 := m1.cell_at 1 rfl
    have v2 := m1.cell_at 2 rfl
    have v3 := m1.cell_at 3 rfl
    clear m1
    clear hW
    go_wp2_with fail
    go_ret
    exact ⟨rfl, HQp.out _ hq⟩
  · go_enter Tryd.func54, Tryd.ntmps54
    have e1 : decide ((i : Int) < 0) = false := decide_eq_false (by omega)
    have e2 : decide ((l.secs.length : Int) ≤ i) = false := decide_eq_false (by omega)
    have e2n : decide (l.secs.length ≤ i) = false := decide_eq_false (by omega)
    have e3 : decide (c < 0) = false := decide_eq_false (by omega)
    have e4 := decide_eq_true h4
    clear h3 h4
    have hW := hq
    have m0 := HQl.out _ hW
    have x0 := m0.cell_at 0 rfl
    have x1 := m0.cell_at 1 rfl
    have x2 := m0.cell_at 2 rfl
    have x3 := m0.cell_at 3 rfl
    have x4 := m0.cell_at 4 rfl
    have x5 := m0.cell_at 5 rfl
    have x6 := m0.cell_at 6 rfl
    have x7 := m0.cell_at 7 rfl
    have x8 := m0.cell_at 8 rfl
    have x9 := m0.cell_at 9 rfl
    have x10 := m0.cell_at 10 rfl
    clear m0
    have m1 := HQv.out _ hW
    have v0 := m1.cell_at 0 rfl
    have v1 := m1.cell_at 1 rfl
    have v2 := m1.cell_at 2 rfl
    have v3 := m1.cell_at 3 rfl
    clear m1
    clear hW
    go_wp2_with fail
    go_ret
    exact ⟨rfl, HQp.out _ hq⟩
  · subst h5
    go_enter Tryd.func54, Tryd.ntmps54
    have e1 : decide ((i : Int) < 0) = false := decide_eq_false (by omega)
    have e2 : decide ((l.secs.length : Int) ≤ i) = false := decide_eq_false (by omega)
    have e2n : decide (l.secs.length ≤ i) = false := decide_eq_false (by omega)
    have hW := hq
    have m0 := HQl.out _ hW
    have x0 := m0.cell_at 0 rfl
    have x1 := m0.cell_at 1 rfl
    have x2 := m0.cell_at 2 rfl
    have x3 := m0.cell_at 3 rfl
    have x4 := m0.cell_at 4 rfl
    have x5 := m0.cell_at 5 rfl
    have x6 := m0.cell_at 6 rfl
    have x7 := m0.cell_at 7 rfl
    have x8 := m0.cell_at 8 rfl
    have x9 := m0.cell_at 9 rfl
    have x10 := m0.cell_at 10 rfl
    clear m0
    have m1 := HQv.out _ hW
    have v0 := m1.cell_at 0 rfl
    have v1 := m1.cell_at 1 rfl
    have v2 := m1.cell_at 2 rfl
    have v3 := m1.cell_at 3 rfl
    clear m1
    clear hW
    go_wp2_with fail
    go_ret
    exact ⟨rfl, HQp.out _ hq⟩
  · go_enter Tryd.func54, Tryd.ntmps54
    have e1 : decide ((i : Int) < 0) = false := decide_eq_false (by omega)
    have e2 : decide ((l.secs.length : Int) ≤ i) = false := decide_eq_false (by omega)
    have e2n : decide (l.secs.length ≤ i) = false := decide_eq_false (by omega)
    have e3 : decide ((j : Int) < 0) = false := decide_eq_false (by omega)
    have e4 : decide ((l.secs.length : Int) ≤ j) = false := decide_eq_false (by omega)
    have e4n : decide (l.secs.length ≤ j) = false := decide_eq_false (by omega)
    have e5 : ((i : Int) == (j : Int)) = false := by rw [beq_eq_false_iff_ne]; omega
    have e5n : (i == j) = false := by rw [beq_eq_false_iff_ne]; exact hne
    have e6 := decide_eq_true h6
    clear h6
    have hW := hq
    have m0 := HQl.out _ hW
    have x0 := m0.cell_at 0 rfl
    have x1 := m0.cell_at 1 rfl
    have x2 := m0.cell_at 2 rfl
    have x3 := m0.cell_at 3 rfl
    have x4 := m0.cell_at 4 rfl
    have x5 := m0.cell_at 5 rfl
    have x6 := m0.cell_at 6 rfl
    have x7 := m0.cell_at 7 rfl
    have x8 := m0.cell_at 8 rfl
    have x9 := m0.cell_at 9 rfl
    have x10 := m0.cell_at 10 rfl
    clear m0
    have m1 := HQv.out _ hW
    have v0 := m1.cell_at 0 rfl
    have v1 := m1.cell_at 1 rfl
    have v2 := m1.cell_at 2 rfl
    have v3 := m1.cell_at 3 rfl
    clear m1
    clear hW
    go_wp2_with fail
    go_ret
    exact ⟨rfl, HQp.out _ hq⟩
  · go_enter Tryd.func54, Tryd.ntmps54
    have e1 : decide ((i : Int) < 0) = false := decide_eq_false (by omega)
    have e2 : decide ((l.secs.length : Int) ≤ i) = false := decide_eq_false (by omega)
    have e2n : decide (l.secs.length ≤ i) = false := decide_eq_false (by omega)
    have e3 : decide ((j : Int) < 0) = false := decide_eq_false (by omega)
    have e4 : decide ((l.secs.length : Int) ≤ j) = false := decide_eq_false (by omega)
    have e4n : decide (l.secs.length ≤ j) = false := decide_eq_false (by omega)
    have e5 : ((i : Int) == (j : Int)) = false := by rw [beq_eq_false_iff_ne]; omega
    have e5n : (i == j) = false := by rw [beq_eq_false_iff_ne]; exact hne
    have e6 : decide (d < 0) = false := decide_eq_false (by omega)
    have e7 := decide_eq_true h7
    clear h6 h7
    have hW := hq
    have m0 := HQl.out _ hW
    have x0 := m0.cell_at 0 rfl
    have x1 := m0.cell_at 1 rfl
    have x2 := m0.cell_at 2 rfl
    have x3 := m0.cell_at 3 rfl
    have x4 := m0.cell_at 4 rfl
    have x5 := m0.cell_at 5 rfl
    have x6 := m0.cell_at 6 rfl
    have x7 := m0.cell_at 7 rfl
    have x8 := m0.cell_at 8 rfl
    have x9 := m0.cell_at 9 rfl
    have x10 := m0.cell_at 10 rfl
    clear m0
    have m1 := HQv.out _ hW
    have v0 := m1.cell_at 0 rfl
    have v1 := m1.cell_at 1 rfl
    have v2 := m1.cell_at 2 rfl
    have v3 := m1.cell_at 3 rfl
    clear m1
    clear hW
    go_wp2_with fail
    go_ret
    exact ⟨rfl, HQp.out _ hq⟩
  · go_enter Tryd.func54, Tryd.ntmps54
    obtain ⟨o1, o2, HA, HC0, HC⟩ := row_at (n := 11) Sec.len (by omega) HQL.out hq hx
    have HX := Lib.hid hx
    have HY := Lib.hid hy
    clear hx hy
    have e1 : decide ((i : Int) < 0) = false := decide_eq_false (by omega)
    have e2 : decide ((l.secs.length : Int) ≤ i) = false := decide_eq_false (by omega)
    have e2n : decide (l.secs.length ≤ i) = false := decide_eq_false (by omega)
    have e3 : decide ((j : Int) < 0) = false := decide_eq_false (by omega)
    have e4 : decide ((l.secs.length : Int) ≤ j) = false := decide_eq_false (by omega)
    have e4n : decide (l.secs.length ≤ j) = false := decide_eq_false (by omega)
    have e5 : ((i : Int) == (j : Int)) = false := by rw [beq_eq_false_iff_ne]; omega
    have e5n : (i == j) = false := by rw [beq_eq_false_iff_ne]; exact hne
    have e6 : decide (d < 0) = false := decide_eq_false (by omega)
    have e7 : decide (1 < d) = false := decide_eq_false (by omega)
    have e8 : decide (0 ≤ b) = false := decide_eq_false (by omega)
    clear h6 h7 h8
    have hW := hq
    have m0 := HQl.out _ hW
    have x0 := m0.cell_at 0 rfl
    have x1 := m0.cell_at 1 rfl
    have x2 := m0.cell_at 2 rfl
    have x3 := m0.cell_at 3 rfl
    have x4 := m0.cell_at 4 rfl
    have x5 := m0.cell_at 5 rfl
    have x6 := m0.cell_at 6 rfl
    have x7 := m0.cell_at 7 rfl
    have x8 := m0.cell_at 8 rfl
    have x9 := m0.cell_at 9 rfl
    have x10 := m0.cell_at 10 rfl
    clear m0
    have m1 := HQv.out _ hW
    have v0 := m1.cell_at 0 rfl
    have v1 := m1.cell_at 1 rfl
    have v2 := m1.cell_at 2 rfl
    have v3 := m1.cell_at 3 rfl
    clear m1
    clear hW
    go_wp2_with fail
    clear x0 x1 x2 x3 x4 x5 x6 x7 x8 x9 x10 v0 v1 v2 v3
    have HBS : Hid (∀ W, Below ((w.alloc (.cells l.cells.toArray 29)).alloc (.cells (flkCells ((i : Int), b, (j : Int), d)).toArray 55)).heap.size ((w.alloc (.cells l.cells.toArray 29)).alloc (.cells (flkCells ((i : Int), b, (j : Int), d)).toArray 55)) W → Q W) := Lib.hid (fun W hB => HQ.out _ _ hq hB)
    clear hq
    refine region_mix (Below ((w.alloc (.cells l.cells.toArray 29)).alloc (.cells (flkCells ((i : Int), b, (j : Int), d)).toArray 55)).heap.size ((w.alloc (.cells l.cells.toArray 29)).alloc (.cells (flkCells ((i : Int), b, (j : Int), d)).toArray 55))) [(0, false), (1, false), (2, false), (3, false), (4, false), (5, false), (6, false), (7, false), (8, false), (9, false), (10, false), (11, false), (12, false), (13, false), (14, false), (15, false), (16, false), (17, false), (18, false), (19, false), (20, false), (21, false), (22, false), (23, false), (24, false), (25, false), (26, false)] (by kernel_rfl) (by kernel_rfl) (Below ((w.alloc (.cells l.cells.toArray 29)).alloc (.cells (flkCells ((i : Int), b, (j : Int), d)).toArray 55)).heap.size ((w.alloc (.cells l.cells.toArray 29)).alloc (.cells (flkCells ((i : Int), b, (j : Int), d)).toArray 55))) ⟨Closed.below ((w.alloc (.cells l.cells.toArray 29)).alloc (.cells (flkCells ((i : Int), b, (j : Int), d)).toArray 55)), fun _ h => h⟩ (Below.refl _ _).drew ?_
    simp only [pickOps, List.getElem?_cons_zero, List.getElem?_cons_succ]
    repeat (first | (refine mix_skip (by rfl) ?_; simp only [Act.put, List.setIfInBounds_toArray, List.set_cons_zero, List.set_cons_succ]) | (refine mix_read _ (by rfl) (fun W hW => by (have hW := HBS.out W hW; have m0 := HQl.out _ hW; have x0 := m0.cell_at 0 rfl; have x1 := m0.cell_at 1 rfl; have x2 := m0.cell_at 2 rfl; have x3 := m0.cell_at 3 rfl; have x4 := m0.cell_at 4 rfl; have x5 := m0.cell_at 5 rfl; have x6 := m0.cell_at 6 rfl; have x7 := m0.cell_at 7 rfl; have x8 := m0.cell_at 8 rfl; have x9 := m0.cell_at 9 rfl; have x10 := m0.cell_at 10 rfl; clear m0; have m1 := HQv.out _ hW; have v0 := m1.cell_at 0 rfl; have v1 := m1.cell_at 1 rfl; have v2 := m1.cell_at 2 rfl; have v3 := m1.cell_at 3 rfl; clear m1; rw [HA.out] at x0; have c0 := HC0.out _ hW i _ _ HX.out rfl; have c1 := HC0.out _ hW j _ _ HY.out rfl; go_simp; first | done | with_reducible rfl)) ?_; simp only [Act.put, List.setIfInBounds_toArray, List.set_cons_zero, List.set_cons_succ]))
    refine mix_nil (fun W hW => ?_)
    have hq := HBS.out W hW
    clear hW HBS
    go_wp2_with fail
    go_ret
    exact ⟨ret_bool rfl, HQp.out _ hq⟩
  · go_enter Tryd.func54, Tryd.ntmps54
    obtain ⟨o1, o2, HA, HC0, HC⟩ := row_at (n := 11) Sec.len (by omega) HQL.out hq hx
    have HX := Lib.hid hx
    have HY := Lib.hid hy
    clear hx hy
    have KW := Lib.hid (fun (W : World) (hW : Q W) => waysR_B (w := W) (shapeK x.k))
    generalize nK x.k = nk at *
    have e1 : decide ((i : Int) < 0) = false := decide_eq_false (by omega)
    have e2 : decide ((l.secs.length : Int) ≤ i) = false := decide_eq_false (by omega)
    have e2n : decide (l.secs.length ≤ i) = false := decide_eq_false (by omega)
    have e3 : decide ((j : Int) < 0) = false := decide_eq_false (by omega)
    have e4 : decide ((l.secs.length : Int) ≤ j) = false := decide_eq_false (by omega)
    have e4n : decide (l.secs.length ≤ j) = false := decide_eq_false (by omega)
    have e5 : ((i : Int) == (j : Int)) = false := by rw [beq_eq_false_iff_ne]; omega
    have e5n : (i == j) = false := by rw [beq_eq_false_iff_ne]; exact hne
    have e6 : decide (d < 0) = false := decide_eq_false (by omega)
    have e7 : decide (1 < d) = false := decide_eq_false (by omega)
    have e8 : decide (0 ≤ b) = true := decide_eq_true h8
    have e9 : decide (b < nk) = false := decide_eq_false (by omega)
    clear h6 h7 h8 h9
    have hW := hq
    have m0 := HQl.out _ hW
    have x0 := m0.cell_at 0 rfl
    have x1 := m0.cell_at 1 rfl
    have x2 := m0.cell_at 2 rfl
    have x3 := m0.cell_at 3 rfl
    have x4 := m0.cell_at 4 rfl
    have x5 := m0.cell_at 5 rfl
    have x6 := m0.cell_at 6 rfl
    have x7 := m0.cell_at 7 rfl
    have x8 := m0.cell_at 8 rfl
    have x9 := m0.cell_at 9 rfl
    have x10 := m0.cell_at 10 rfl
    clear m0
    have m1 := HQv.out _ hW
    have v0 := m1.cell_at 0 rfl
    have v1 := m1.cell_at 1 rfl
    have v2 := m1.cell_at 2 rfl
    have v3 := m1.cell_at 3 rfl
    clear m1
    clear hW
    go_wp2_with fail
    clear x0 x1 x2 x3 x4 x5 x6 x7 x8 x9 x10 v0 v1 v2 v3
    have HBS : Hid (∀ W, Below ((w.alloc (.cells l.cells.toArray 29)).alloc (.cells (flkCells ((i : Int), b, (j : Int), d)).toArray 55)).heap.size ((w.alloc (.cells l.cells.toArray 29)).alloc (.cells (flkCells ((i : Int), b, (j : Int), d)).toArray 55)) W → Q W) := Lib.hid (fun W hB => HQ.out _ _ hq hB)
    clear hq
    refine region_mix (Below ((w.alloc (.cells l.cells.toArray 29)).alloc (.cells (flkCells ((i : Int), b, (j : Int), d)).toArray 55)).heap.size ((w.alloc (.cells l.cells.toArray 29)).alloc (.cells (flkCells ((i : Int), b, (j : Int), d)).toArray 55))) [(0, false), (1, false), (2, false), (3, false), (4, false), (5, false), (6, false), (7, false), (8, false), (9, false), (10, false), (11, false), (12, false), (13, false), (14, false), (15, false), (16, false), (17, false), (18, false), (19, false), (20, false), (21, false), (22, false), (23, false), (24, false), (25, false), (26, false)] (by kernel_rfl) (by kernel_rfl) (Below ((w.alloc (.cells l.cells.toArray 29)).alloc (.cells (flkCells ((i : Int), b, (j : Int), d)).toArray 55)).heap.size ((w.alloc (.cells l.cells.toArray 29)).alloc (.cells (flkCells ((i : Int), b, (j : Int), d)).toArray 55))) ⟨Closed.below ((w.alloc (.cells l.cells.toArray 29)).alloc (.cells (flkCells ((i : Int), b, (j : Int), d)).toArray 55)), fun _ h => h⟩ (Below.refl _ _).drew ?_
    simp only [pickOps, List.getElem?_cons_zero, List.getElem?_cons_succ]
    repeat (first | (refine mix_skip (by rfl) ?_; simp only [Act.put, List.setIfInBounds_toArray, List.set_cons_zero, List.set_cons_succ]) | (refine mix_read _ (by rfl) (fun W hW => by (have hW := HBS.out W hW; have m0 := HQl.out _ hW; have x0 := m0.cell_at 0 rfl; have x1 := m0.cell_at 1 rfl; have x2 := m0.cell_at 2 rfl; have x3 := m0.cell_at 3 rfl; have x4 := m0.cell_at 4 rfl; have x5 := m0.cell_at 5 rfl; have x6 := m0.cell_at 6 rfl; have x7 := m0.cell_at 7 rfl; have x8 := m0.cell_at 8 rfl; have x9 := m0.cell_at 9 rfl; have x10 := m0.cell_at 10 rfl; clear m0; have m1 := HQv.out _ hW; have v0 := m1.cell_at 0 rfl; have v1 := m1.cell_at 1 rfl; have v2 := m1.cell_at 2 rfl; have v3 := m1.cell_at 3 rfl; clear m1; rw [HA.out] at x0; have c0 := HC0.out _ hW i _ _ HX.out rfl; have c1 := HC0.out _ hW j _ _ HY.out rfl; go_simp; first | done | with_reducible rfl)) ?_; simp only [Act.put, List.setIfInBounds_toArray, List.set_cons_zero, List.set_cons_succ]) | (refine mix_call _ _ _ (by rfl) (fun W hW => by (have hW := HBS.out W hW; have m0 := HQl.out _ hW; have x0 := m0.cell_at 0 rfl; have x1 := m0.cell_at 1 rfl; have x2 := m0.cell_at 2 rfl; have x3 := m0.cell_at 3 rfl; have x4 := m0.cell_at 4 rfl; have x5 := m0.cell_at 5 rfl; have x6 := m0.cell_at 6 rfl; have x7 := m0.cell_at 7 rfl; have x8 := m0.cell_at 8 rfl; have x9 := m0.cell_at 9 rfl; have x10 := m0.cell_at 10 rfl; clear m0; have m1 := HQv.out _ hW; have v0 := m1.cell_at 0 rfl; have v1 := m1.cell_at 1 rfl; have v2 := m1.cell_at 2 rfl; have v3 := m1.cell_at 3 rfl; clear m1; rw [HA.out] at x0; have c0 := HC0.out _ hW i _ _ HX.out rfl; have c1 := HC0.out _ hW j _ _ HY.out rfl; go_simp; first | done | rfl)) (fun W hW => KW.out W (HBS.out W hW)) ?_; simp only [Act.put, List.setIfInBounds_toArray, List.set_cons_zero, List.set_cons_succ]))
    refine mix_nil (fun W hW => ?_)
    have hq := HBS.out W hW
    clear hW HBS
    go_wp2_with fail
    go_ret
    exact ⟨ret_bool rfl, HQp.out _ hq⟩
  · go_enter Tryd.func54, Tryd.ntmps54
    obtain ⟨o1, o2, HA, HC0, HC⟩ := row_at (n := 11) Sec.len (by omega) HQL.out hq hx
    have HX := Lib.hid hx
    have HY := Lib.hid hy
    clear hx hy
    have KW := Lib.hid (fun (W : World) (hW : Q W) => waysR_B (w := W) (shapeK x.k))
    generalize nK x.k = nk at *
    have e1 : decide ((i : Int) < 0) = false := decide_eq_false (by omega)
    have e2 : decide ((l.secs.length : Int) ≤ i) = false := decide_eq_false (by omega)
    have e2n : decide (l.secs.length ≤ i) = false := decide_eq_false (by omega)
    have e3 : decide ((j : Int) < 0) = false := decide_eq_false (by omega)
    have e4 : decide ((l.secs.length : Int) ≤ j) = false := decide_eq_false (by omega)
    have e4n : decide (l.secs.length ≤ j) = false := decide_eq_false (by omega)
    have e5 : ((i : Int) == (j : Int)) = false := by rw [beq_eq_false_iff_ne]; omega
    have e5n : (i == j) = false := by rw [beq_eq_false_iff_ne]; exact hne
    have e6 : decide (d < 0) = false := decide_eq_false (by omega)
    have e7 : decide (1 < d) = false := decide_eq_false (by omega)
    have e8 : decide (0 ≤ b) = true := decide_eq_true h8
    have e9 : decide (b < nk) = true := decide_eq_true h9
    have H10 := Lib.hid h10.symm
    clear h6 h7 h8 h9 h10
    obtain ⟨yb, hyb⟩ : ∃ z, (y.k == 2) = z := ⟨_, rfl⟩
    rw [hyb] at H10
    have hW := hq
    have m0 := HQl.out _ hW
    have x0 := m0.cell_at 0 rfl
    have x1 := m0.cell_at 1 rfl
    have x2 := m0.cell_at 2 rfl
    have x3 := m0.cell_at 3 rfl
    have x4 := m0.cell_at 4 rfl
    have x5 := m0.cell_at 5 rfl
    have x6 := m0.cell_at 6 rfl
    have x7 := m0.cell_at 7 rfl
    have x8 := m0.cell_at 8 rfl
    have x9 := m0.cell_at 9 rfl
    have x10 := m0.cell_at 10 rfl
    clear m0
    have m1 := HQv.out _ hW
    have v0 := m1.cell_at 0 rfl
    have v1 := m1.cell_at 1 rfl
    have v2 := m1.cell_at 2 rfl
    have v3 := m1.cell_at 3 rfl
    clear m1
    clear hW
    go_wp2_with fail
    clear x0 x1 x2 x3 x4 x5 x6 x7 x8 x9 x10 v0 v1 v2 v3
    have HBS : Hid (∀ W, Below ((w.alloc (.cells l.cells.toArray 29)).alloc (.cells (flkCells ((i : Int), b, (j : Int), d)).toArray 55)).heap.size ((w.alloc (.cells l.cells.toArray 29)).alloc (.cells (flkCells ((i : Int), b, (j : Int), d)).toArray 55)) W → Q W) := Lib.hid (fun W hB => HQ.out _ _ hq hB)
    clear hq
    refine region_mix (Below ((w.alloc (.cells l.cells.toArray 29)).alloc (.cells (flkCells ((i : Int), b, (j : Int), d)).toArray 55)).heap.size ((w.alloc (.cells l.cells.toArray 29)).alloc (.cells (flkCells ((i : Int), b, (j : Int), d)).toArray 55))) [(0, false), (1, false), (2, false), (3, false), (4, false), (5, false), (6, false), (7, false), (8, false), (9, false), (10, false), (11, false), (12, false), (13, false), (14, false), (15, false), (16, false), (17, false), (18, false), (19, false), (20, false), (21, false), (22, false), (23, false), (24, false), (25, false), (26, false)] (by kernel_rfl) (by kernel_rfl) (Below ((w.alloc (.cells l.cells.toArray 29)).alloc (.cells (flkCells ((i : Int), b, (j : Int), d)).toArray 55)).heap.size ((w.alloc (.cells l.cells.toArray 29)).alloc (.cells (flkCells ((i : Int), b, (j : Int), d)).toArray 55))) ⟨Closed.below ((w.alloc (.cells l.cells.toArray 29)).alloc (.cells (flkCells ((i : Int), b, (j : Int), d)).toArray 55)), fun _ h => h⟩ (Below.refl _ _).drew ?_
    simp only [pickOps, List.getElem?_cons_zero, List.getElem?_cons_succ]
    repeat (first | (refine mix_skip (by rfl) ?_; simp only [Act.put, List.setIfInBounds_toArray, List.set_cons_zero, List.set_cons_succ]) | (refine mix_read _ (by rfl) (fun W hW => by (have hW := HBS.out W hW; have m0 := HQl.out _ hW; have x0 := m0.cell_at 0 rfl; have x1 := m0.cell_at 1 rfl; have x2 := m0.cell_at 2 rfl; have x3 := m0.cell_at 3 rfl; have x4 := m0.cell_at 4 rfl; have x5 := m0.cell_at 5 rfl; have x6 := m0.cell_at 6 rfl; have x7 := m0.cell_at 7 rfl; have x8 := m0.cell_at 8 rfl; have x9 := m0.cell_at 9 rfl; have x10 := m0.cell_at 10 rfl; clear m0; have m1 := HQv.out _ hW; have v0 := m1.cell_at 0 rfl; have v1 := m1.cell_at 1 rfl; have v2 := m1.cell_at 2 rfl; have v3 := m1.cell_at 3 rfl; clear m1; rw [HA.out] at x0; have c0 := HC0.out _ hW i _ _ HX.out rfl; have c1 := HC0.out _ hW j _ _ HY.out rfl; go_simp; first | done | with_reducible rfl)) ?_; simp only [Act.put, List.setIfInBounds_toArray, List.set_cons_zero, List.set_cons_succ]) | (refine mix_call _ _ _ (by rfl) (fun W hW => by (have hW := HBS.out W hW; have m0 := HQl.out _ hW; have x0 := m0.cell_at 0 rfl; have x1 := m0.cell_at 1 rfl; have x2 := m0.cell_at 2 rfl; have x3 := m0.cell_at 3 rfl; have x4 := m0.cell_at 4 rfl; have x5 := m0.cell_at 5 rfl; have x6 := m0.cell_at 6 rfl; have x7 := m0.cell_at 7 rfl; have x8 := m0.cell_at 8 rfl; have x9 := m0.cell_at 9 rfl; have x10 := m0.cell_at 10 rfl; clear m0; have m1 := HQv.out _ hW; have v0 := m1.cell_at 0 rfl; have v1 := m1.cell_at 1 rfl; have v2 := m1.cell_at 2 rfl; have v3 := m1.cell_at 3 rfl; clear m1; rw [HA.out] at x0; have c0 := HC0.out _ hW i _ _ HX.out rfl; have c1 := HC0.out _ hW j _ _ HY.out rfl; go_simp; first | done | rfl)) (fun W hW => KW.out W (HBS.out W hW)) ?_; simp only [Act.put, List.setIfInBounds_toArray, List.set_cons_zero, List.set_cons_succ]))
    refine mix_nil (fun W hW => ?_)
    have hq := HBS.out W hW
    clear hW HBS
    go_wp2_with fail
    go_ret
    exact ⟨ret_bool H10.out, HQp.out _ hq⟩

set_option maxRecDepth 100000 in
set_option maxHeartbeats 8000000 in
theorem timesR_P (hP : Closed P) (l : Lay) {r : Bool} (hr : (!((timesL l).any fun n => !withinA n 1 1000)) = r) (h : P w) :
    Calls Tryd.prog 55 #[l.tval] w fun e w' => e = .returned (.bool r) ∧ P w' := by
  have HPP := Lib.hid (fun W (hB : Below w.heap.size w W) => hP _ _ h hB)
  have HR := Lib.hid hr
  clear hP hr h
  obtain ⟨t, ht⟩ : ∃ t, timesL l = t := ⟨_, rfl⟩
  have hb := Whole.new w 27 [.int .i64 l.t0, .int .i64 l.t1, .int .i64 l.t2, .int .i64 l.t3, .int .i64 l.t4, .int .i64 l.t5, .int .i64 l.t6]
  have b0 := hb.cell_at 0 rfl
  have b1 := hb.cell_at 1 rfl
  have b2 := hb.cell_at 2 rfl
  have b3 := hb.cell_at 3 rfl
  have b4 := hb.cell_at 4 rfl
  have b5 := hb.cell_at 5 rfl
  have b6 := hb.cell_at 6 rfl
  have hB1 := below1 w (.cells #[.int .i64 l.t0, .int .i64 l.t1, .int .i64 l.t2, .int .i64 l.t3, .int .i64 l.t4, .int .i64 l.t5, .int .i64 l.t6] 27)
  clear hb
  obtain ⟨w1, hw1⟩ : ∃ w1, w.alloc (.cells #[.int .i64 l.t0, .int .i64 l.t1, .int .i64 l.t2, .int .i64 l.t3, .int .i64 l.t4, .int .i64 l.t5, .int .i64 l.t6] 27) = w1 := ⟨_, rfl⟩
  have h2 := Whole.new w1 117 [.int .i64 l.t0, .int .i64 l.t1, .int .i64 l.t2, .int .i64 l.t3, .int .i64 l.t4, .int .i64 l.t5, .int .i64 l.t6]
  have hB2 := below1 w1 (.cells #[.int .i64 l.t0, .int .i64 l.t1, .int .i64 l.t2, .int .i64 l.t3, .int .i64 l.t4, .int .i64 l.t5, .int .i64 l.t6] 117)
  rw [hw1] at b0 b1 b2 b3 b4 b5 b6 hB1
  go_enter Tryd.func55, Tryd.ntmps55
  try rw [hw1]
  go_upto_region 2 with (fail)
  clear b0 b1 b2 b3 b4 b5 b6
  obtain ⟨w2, hw2⟩ : ∃ w2, (w1.alloc (.cells #[.int .i64 l.t0, .int .i64 l.t1, .int .i64 l.t2, .int .i64 l.t3, .int .i64 l.t4, .int .i64 l.t5, .int .i64 l.t6] 117)) = w2 := ⟨_, rfl⟩
  have hw2' : (w1.alloc (.cells [.int .i64 l.t0, .int .i64 l.t1, .int .i64 l.t2, .int .i64 l.t3, .int .i64 l.t4, .int .i64 l.t5, .int .i64 l.t6].toArray 117)) = w2 := hw2
  rw [hw2'] at h2
  rw [hw2] at hB2 ⊢
  have HC : Hid (∀ (j : Nat) v, t[j]? = some v → w2.cell? ⟨w1.heap.size, j, none⟩ = some (.int .i64 v)) := Lib.hid (fun j v hv => by
    rw [h2.cell j]
    have e : [Value.int .i64 l.t0, .int .i64 l.t1, .int .i64 l.t2, .int .i64 l.t3, .int .i64 l.t4, .int .i64 l.t5, .int .i64 l.t6] = t.map (fun v => Value.int .i64 v) := by rw [← ht]; rfl
    rw [e, List.getElem?_map, hv]
    rfl)
  have HP2 : Hid (P w2) := Lib.hid (HPP.out _ (hB1.trans (hB2.mono hB1.size)))
  have ht7 : t.length = 7 := by rw [← ht]; rfl
  rw [ht] at HR
  clear ht hw1 hw2 hw2' h2 hB1 hB2 HPP
  generalize w1.heap.size = g at *
  generalize w.heap.size = g0 at *
  go_wp2_with fail
  go_loopw [4] (fun i wr => ∃ j : Nat, j ≤ 7 ∧ i = .int .i64 j ∧ wr = w2 ∧ Hid (NoneUp (fun n => !withinA n 1 1000) t j)) (fun i _ => 7 - (intOf i).toNat)
  case atStart => exact ⟨0, by omega, rfl, rfl, Lib.hid (NoneUp.zero _ _)⟩
  case round =>
    obtain ⟨j, hj, rfl, rfl, HNo⟩ := hrel
    by_cases hlt : j < 7
    · have hlt' : (j : Int) < 7 := by omega
      obtain ⟨v, hv⟩ : ∃ v, t[j]? = some v := ⟨_, List.getElem?_eq_getElem (by omega)⟩
      have c0 := HC.out _ _ hv
      have HX := Lib.hid hv
      clear hv
      by_cases h1 : v < 1
      · have HF : Hid (false = r) := Lib.hid (by
          rw [← HR.out, any_hit HX.out (by unfold withinA; rw [decide_eq_false (show ¬ 1 ≤ v by omega)]; rfl)]
          rfl)
        have d1 := decide_eq_true h1
        clear h1 HX
        go_wp2_with fail
        go_ret
        exact ⟨ret_bool HF.out, HP2.out⟩
      · by_cases h2 : 1000 < v
        · have HF : Hid (false = r) := Lib.hid (by
            rw [← HR.out, any_hit HX.out (by unfold withinA; rw [decide_eq_false (show ¬ v ≤ 1000 by omega), Bool.and_false]; rfl)]
            rfl)
          have d1 := decide_eq_false h1
          have d2 := decide_eq_true h2
          clear h1 h2 HX
          go_wp2_with fail
          go_ret
          exact ⟨ret_bool HF.out, HP2.out⟩
        · have HN := Lib.hid (HNo.out.succ HX.out (by unfold withinA; rw [decide_eq_true (show 1 ≤ v by omega), decide_eq_true (show v ≤ 1000 by omega)]; rfl))
          have d1 := decide_eq_false h1
          have d2 := decide_eq_false h2
          clear h1 h2 HX
          go_wp2_with fail
          go_roundw
          case rel => exact ⟨j + 1, hlt, by go_num, by trivial, HN⟩
          case measure => simp [intOf]; omega
    · obtain rfl : j = 7 := by omega
      have HF : Hid (true = r) := Lib.hid (by
        have hn := HNo.out
        rw [← ht7] at hn
        rw [← HR.out, hn.any]
        rfl)
      go_wp2_with fail
      go_ret
      exact ⟨ret_bool HF.out, HP2.out⟩
end
end Go.Proofs.YtbalcbnlpgekaaaDoor
namespace Go.Proofs.YtbalcbnlpgekaaaDoor
open Go.RowKit Go.Shelf
set_option linter.unusedVariables false
set_option linter.unusedSimpArgs false

theorem not_any {α : Type} {f : α → Bool} {l : List α} : (!(l.any fun x => !f x)) = true ↔ ∀ x ∈ l, f x = true := by simp
theorem secOk_iff {l : Lay} {x : Sec} : secOk l x = true ↔ (∀ p ∈ x.ports4, 0 ≤ p.1 → thereV l p.1 p.2 = true) ∧ rightK x = true := by
  unfold secOk noJ
  rw [Bool.and_eq_true, Bool.not_eq_true', List.any_eq_false]
  refine and_congr_left fun _ => ⟨fun h p hp h0 => ?_, fun h p hp => ?_⟩
  · have := h p hp
    rw [decide_eq_true h0] at this
    simpa using this
  · intro hh
    rw [Bool.and_eq_true, decide_eq_true_eq] at hh
    rw [h p hp hh.1] at hh
    simp at hh
theorem exitOk_iff {l : Lay} {x : Exm} : exitOk l x = true ↔ (∀ s ∈ x.over, stepV l s.1 s.2.1 s.2.2 = true) ∧ thereV l x.s x.q = true ∧ (x.over.length : Int) ≤ 2 := by
  unfold exitOk noS
  rw [Bool.and_eq_true, not_any, Bool.and_eq_true, decide_eq_true_eq]
/-- As the document asks it. -/
def rightR (l : Lay) : Bool := !(l.secs.any fun x => !secOk l x) && (!(l.sigs.any fun p => !thereV l p.1 p.2) && (!(l.exits.any fun x => !exitOk l x) && (!(l.flanks.any fun f => !flankV l f.1 f.2.1 f.2.2.1 f.2.2.2) &&
  (decide ((l.secs.length : Int) ≤ 24) && (decide ((l.sigs.length : Int) ≤ 12) && (decide ((l.exits.length : Int) ≤ 12) && (decide ((l.flanks.length : Int) ≤ 16) && !((timesL l).any fun n => !withinA n 1 1000))))))))
theorem rightR_iff {l : Lay} : rightR l = true ↔ (∀ x ∈ l.secs, secOk l x = true) ∧ (∀ p ∈ l.sigs, thereV l p.1 p.2 = true) ∧ (∀ x ∈ l.exits, exitOk l x = true) ∧ (∀ f ∈ l.flanks, flankV l f.1 f.2.1 f.2.2.1 f.2.2.2 = true) ∧
    (l.secs.length : Int) ≤ 24 ∧ (l.sigs.length : Int) ≤ 12 ∧ (l.exits.length : Int) ≤ 12 ∧ (l.flanks.length : Int) ≤ 16 ∧ (∀ n ∈ timesL l, withinA n 1 1000 = true) := by
  unfold rightR
  simp only [Bool.and_eq_true, not_any, decide_eq_true_eq]
theorem too_iff {l : Lay} : (!tooV l) = true ↔ (l.secs.length : Int) ≤ 24 ∧ (l.sigs.length : Int) ≤ 12 ∧ (l.exits.length : Int) ≤ 12 ∧ (l.flanks.length : Int) ≤ 16 ∧ (∀ x ∈ l.exits, (x.over.length : Int) ≤ 2) := by
  unfold tooV
  simp only [Bool.not_eq_true', Bool.or_eq_false_iff, decide_eq_false_iff_not, Int.not_lt, List.any_eq_false, decide_eq_true_eq]
theorem rightL_iff {l : Lay} : rightL l = true ↔ ((l.secs.length : Int) ≤ 24 ∧ (l.sigs.length : Int) ≤ 12 ∧ (l.exits.length : Int) ≤ 12 ∧ (l.flanks.length : Int) ≤ 16 ∧ (∀ x ∈ l.exits, (x.over.length : Int) ≤ 2)) ∧
    (∀ n ∈ timesL l, withinA n 1 1000 = true) ∧ (∀ x ∈ l.secs, rightK x = true) ∧ (∀ p ∈ portsL l, thereV l p.1 p.2 = true) ∧ (∀ s ∈ stepsL l, stepV l s.1 s.2.1 s.2.2 = true) ∧ (∀ f ∈ l.flanks, flankV l f.1 f.2.1 f.2.2.1 f.2.2.2 = true) := by
  unfold rightL
  rw [Bool.and_eq_true, too_iff]
  simp only [Bool.and_eq_true, not_any]
theorem rightR_eq (l : Lay) : rightR l = rightL l := by
  rw [Bool.eq_iff_iff, rightR_iff, rightL_iff]
  constructor
  · rintro ⟨h1, h2, h3, h4, h5, h6, h7, h8, h9⟩
    refine ⟨⟨h5, h6, h7, h8, fun x hx => (exitOk_iff.1 (h3 x hx)).2.2⟩, h9, fun x hx => (secOk_iff.1 (h1 x hx)).2, fun p hp => ?_, fun s hs => ?_, h4⟩
    · unfold portsL joinsL at hp
      rcases List.mem_append.1 hp with hp | hp
      · obtain ⟨x, hx, hp⟩ := List.mem_flatMap.1 hp
        obtain ⟨hp, h0⟩ := List.mem_filter.1 hp
        exact (secOk_iff.1 (h1 x hx)).1 p hp (by simpa using h0)
      · rcases List.mem_append.1 hp with hp | hp
        · exact h2 p hp
        · obtain ⟨x, hx, rfl⟩ := List.mem_map.1 hp
          exact (exitOk_iff.1 (h3 x hx)).2.1
    · obtain ⟨x, hx, hs⟩ := List.mem_flatMap.1 hs
      exact (exitOk_iff.1 (h3 x hx)).1 s hs
  · rintro ⟨⟨h1, h2, h3, h4, h5⟩, h6, h7, h8, h9, h10⟩
    refine ⟨fun x hx => secOk_iff.2 ⟨fun p hp h0 => h8 p ?_, h7 x hx⟩, fun p hp => h8 p ?_, fun x hx => exitOk_iff.2 ⟨fun s hs => h9 s (List.mem_flatMap.2 ⟨x, hx, hs⟩), h8 (x.s, x.q) ?_, h5 x hx⟩, h10, h1, h2, h3, h4, h6⟩
    · exact List.mem_append_left _ (List.mem_flatMap.2 ⟨x, hx, List.mem_filter.2 ⟨hp, by simpa using h0⟩⟩)
    · exact List.mem_append_right _ (List.mem_append_left _ hp)
    · exact List.mem_append_right _ (List.mem_append_right _ (List.mem_map.2 ⟨x, hx, rfl⟩))

section
variable {l : Lay} {w : World}
theorem section_B (hL : Lies l w) (x : Sec) {r : Bool} (hr : secOk l x = r) : Calls Tryd.prog 51 #[l.val, x.val] w fun e w' => e = .returned (.bool r) ∧ Below w.heap.size w w' :=
  sectionR_P (P := fun W => Below w.heap.size w W) (Closed.below w) (fun W h => Lies.closed l _ _ hL h) x hr (Below.refl _ _)
theorem exit1_B (hL : Lies l w) (x : Exm) (hm : x ∈ l.exits) {r : Bool} (hr : exitOk l x = r) : Calls Tryd.prog 53 #[l.val, x.val] w fun e w' => e = .returned (.bool r) ∧ Below w.heap.size w w' :=
  exitR1_P (P := fun W => Below w.heap.size w W) (Closed.below w) (fun W h => Lies.closed l _ _ hL h) x (fun W h => (Lies.closed l _ _ hL h).overs x hm) (hL.nO x hm) hr (Below.refl _ _)
theorem flank_B (hL : Lies l w) (f : Int × Int × Int × Int) {r : Bool} (hr : flankV l f.1 f.2.1 f.2.2.1 f.2.2.2 = r) : Calls Tryd.prog 54 #[l.val, flkV f.1 f.2.1 f.2.2.1 f.2.2.2] w fun e w' => e = .returned (.bool r) ∧ Below w.heap.size w w' :=
  flankR_P (P := fun W => Below w.heap.size w W) (Closed.below w) (fun W h => Lies.closed l _ _ hL h) f.1 f.2.1 f.2.2.1 f.2.2.2 hr (Below.refl _ _)
end

section
variable {P : World → Prop} {w : World}
set_option maxRecDepth 100000 in
set_option maxHeartbeats 8000000 in
theorem rightR1_P (hP : Closed P) {l : Lay} (hL : ∀ w, P w → Lies l w) {r : Bool} (hr : rightR l = r) (h : P w) :
    Calls Tryd.prog 19 #[l.val] w fun e w' => e = .returned (.bool r) ∧ P w' := by
  obtain ⟨Q, HQ, HQp, HQl, hq⟩ := keep_box hP h 29 l.cells
  have HQL : Hid (∀ W, Q W → Lies l W) := Lib.hid fun W hW => hL _ (HQp.out _ hW)
  have hnS := (hL _ h).nS
  have hnG := (hL _ h).nG
  have hnE := (hL _ h).nE
  have hnF := (hL _ h).nF
  obtain ⟨tb, htb⟩ : ∃ z, (!((timesL l).any fun n => !withinA n 1 1000)) = z := ⟨_, rfl⟩
  have KT := Lib.hid (fun W hW => timesR_P (P := Q) (w := W) HQ.out l htb hW)
  have HR : Hid (rightR l = r) := Lib.hid hr
  have HTB := Lib.hid htb
  clear h hr hL hP htb
  go_enter Tryd.func19, Tryd.ntmps19
  go_wp2_with fail
  go_loopw [3] (fun i wr => ∃ j : Nat, j ≤ l.secs.length ∧ i = .int .i64 j ∧ Q wr ∧ Hid (NoneUp (fun x => !secOk l x) l.secs j)) (fun i _ => l.secs.length - (intOf i).toNat)
  case atStart => exact ⟨0, by omega, rfl, hq, Lib.hid (NoneUp.zero _ _)⟩
  case round =>
    clear hq
    obtain ⟨j, hj, rfl, hq, HNo⟩ := hrel
    have x0 := (HQl.out _ hq).cell_at 0 rfl
    by_cases hlt : j < l.secs.length
    · have hlt' : (j : Int) < l.secs.length := by omega
      obtain ⟨x, hx⟩ : ∃ x, l.secs[j]? = some x := ⟨_, List.getElem?_eq_getElem hlt⟩
      obtain ⟨o1, o2, HA, HC0, HC⟩ := row_at (n := 11) Sec.len (by omega) (fun W hW => (HQL.out W hW).secs) hq hx
      have HX := Lib.hid hx
      have HM := Lib.hid (List.mem_of_getElem? hx)
      clear hx
      obtain ⟨b, hb⟩ : ∃ b, secOk l x = b := ⟨_, rfl⟩
      have KS : Hid (∀ W, Q W → Calls Tryd.prog 51 #[.agg #[.slice (some ⟨o1, o2, none⟩) l.secs.length l.cs, .slice l.Ag l.sigs.length l.cg, .slice l.Ae l.exits.length l.ce, .slice l.Af l.flanks.length l.cf, .int .i64 l.t0, .int .i64 l.t1, .int .i64 l.t2, .int .i64 l.t3, .int .i64 l.t4, .int .i64 l.t5, .int .i64 l.t6], x.val] W fun e w' => e = .returned (.bool b) ∧ Below W.heap.size W w') := Lib.hid (by rw [← HA.out]; exact fun W hW => section_B (HQL.out W hW) x hb)
      have HB : Hid ((!secOk l x) = !b) := Lib.hid (by rw [hb])
      clear hb
      go_wp2_with fail
      clear x0
      cases b
      · have HF : Hid (false = r) := Lib.hid (by rw [← HR.out]; unfold rightR; rw [any_hit (l := l.secs) HX.out HB.out]; simp)
        have HBS : Hid (∀ W, Below wr.heap.size wr W → Q W) := Lib.hid (fun W hB => HQ.out _ _ hq hB)
        clear hq
        refine region_mix (Below wr.heap.size wr) [(0, false), (1, false), (2, false), (3, false), (4, false), (5, false), (6, false), (7, false)] (by kernel_rfl) (by kernel_rfl) (Below wr.heap.size wr) ⟨Closed.below wr, fun _ h => h⟩ (Below.refl _ _).drew ?_
        simp only [pickOps, List.getElem?_cons_zero, List.getElem?_cons_succ]
        repeat (first | (refine mix_skip (by rfl) ?_; simp only [Act.put, List.setIfInBounds_toArray, List.set_cons_zero, List.set_cons_succ]) | (refine mix_read _ (by rfl) (fun W hW => by (have hW := HBS.out W hW; have m0 := HQl.out _ hW; have x0 := m0.cell_at 0 rfl; have x1 := m0.cell_at 1 rfl; have x2 := m0.cell_at 2 rfl; have x3 := m0.cell_at 3 rfl; have x4 := m0.cell_at 4 rfl; have x5 := m0.cell_at 5 rfl; have x6 := m0.cell_at 6 rfl; have x7 := m0.cell_at 7 rfl; have x8 := m0.cell_at 8 rfl; have x9 := m0.cell_at 9 rfl; have x10 := m0.cell_at 10 rfl; clear m0; rw [HA.out] at x0; have c0 := HC0.out _ hW j _ _ HX.out rfl; have c1 := HC.out _ hW j _ 1 _ HX.out rfl; have c2 := HC.out _ hW j _ 2 _ HX.out rfl; have c3 := HC.out _ hW j _ 3 _ HX.out rfl; have c4 := HC.out _ hW j _ 4 _ HX.out rfl; have c5 := HC.out _ hW j _ 5 _ HX.out rfl; have c6 := HC.out _ hW j _ 6 _ HX.out rfl; have c7 := HC.out _ hW j _ 7 _ HX.out rfl; have c8 := HC.out _ hW j _ 8 _ HX.out rfl; have c9 := HC.out _ hW j _ 9 _ HX.out rfl; have c10 := HC.out _ hW j _ 10 _ HX.out rfl; go_simp; first | done | with_reducible rfl)) ?_; simp only [Act.put, List.setIfInBounds_toArray, List.set_cons_zero, List.set_cons_succ]) | (refine mix_call _ _ _ (by rfl) (fun W hW => by (have hW := HBS.out W hW; have m0 := HQl.out _ hW; have x0 := m0.cell_at 0 rfl; have x1 := m0.cell_at 1 rfl; have x2 := m0.cell_at 2 rfl; have x3 := m0.cell_at 3 rfl; have x4 := m0.cell_at 4 rfl; have x5 := m0.cell_at 5 rfl; have x6 := m0.cell_at 6 rfl; have x7 := m0.cell_at 7 rfl; have x8 := m0.cell_at 8 rfl; have x9 := m0.cell_at 9 rfl; have x10 := m0.cell_at 10 rfl; clear m0; rw [HA.out] at x0; have c0 := HC0.out _ hW j _ _ HX.out rfl; have c1 := HC.out _ hW j _ 1 _ HX.out rfl; have c2 := HC.out _ hW j _ 2 _ HX.out rfl; have c3 := HC.out _ hW j _ 3 _ HX.out rfl; have c4 := HC.out _ hW j _ 4 _ HX.out rfl; have c5 := HC.out _ hW j _ 5 _ HX.out rfl; have c6 := HC.out _ hW j _ 6 _ HX.out rfl; have c7 := HC.out _ hW j _ 7 _ HX.out rfl; have c8 := HC.out _ hW j _ 8 _ HX.out rfl; have c9 := HC.out _ hW j _ 9 _ HX.out rfl; have c10 := HC.out _ hW j _ 10 _ HX.out rfl; go_simp; first | done | rfl)) (fun W hW => KS.out W (HBS.out W hW)) ?_; simp only [Act.put, List.setIfInBounds_toArray, List.set_cons_zero, List.set_cons_succ]))
        refine mix_nil (fun W hW => ?_)
        have hq := HBS.out W hW
        clear hW HBS
        go_wp2_with fail
        go_ret
        exact ⟨ret_bool HF.out, HQp.out _ hq⟩
      · have HN := Lib.hid (HNo.out.succ HX.out HB.out)
        have HBS : Hid (∀ W, Below wr.heap.size wr W → Q W) := Lib.hid (fun W hB => HQ.out _ _ hq hB)
        clear hq
        refine region_mix (Below wr.heap.size wr) [(0, false), (1, false), (2, false), (3, false), (4, false), (5, false), (6, false), (7, false)] (by kernel_rfl) (by kernel_rfl) (Below wr.heap.size wr) ⟨Closed.below wr, fun _ h => h⟩ (Below.refl _ _).drew ?_
        simp only [pickOps, List.getElem?_cons_zero, List.getElem?_cons_succ]
        repeat (first | (refine mix_skip (by rfl) ?_; simp only [Act.put, List.setIfInBounds_toArray, List.set_cons_zero, List.set_cons_succ]) | (refine mix_read _ (by rfl) (fun W hW => by (have hW := HBS.out W hW; have m0 := HQl.out _ hW; have x0 := m0.cell_at 0 rfl; have x1 := m0.cell_at 1 rfl; have x2 := m0.cell_at 2 rfl; have x3 := m0.cell_at 3 rfl; have x4 := m0.cell_at 4 rfl; have x5 := m0.cell_at 5 rfl; have x6 := m0.cell_at 6 rfl; have x7 := m0.cell_at 7 rfl; have x8 := m0.cell_at 8 rfl; have x9 := m0.cell_at 9 rfl; have x10 := m0.cell_at 10 rfl; clear m0; rw [HA.out] at x0; have c0 := HC0.out _ hW j _ _ HX.out rfl; have c1 := HC.out _ hW j _ 1 _ HX.out rfl; have c2 := HC.out _ hW j _ 2 _ HX.out rfl; have c3 := HC.out _ hW j _ 3 _ HX.out rfl; have c4 := HC.out _ hW j _ 4 _ HX.out rfl; have c5 := HC.out _ hW j _ 5 _ HX.out rfl; have c6 := HC.out _ hW j _ 6 _ HX.out rfl; have c7 := HC.out _ hW j _ 7 _ HX.out rfl; have c8 := HC.out _ hW j _ 8 _ HX.out rfl; have c9 := HC.out _ hW j _ 9 _ HX.out rfl; have c10 := HC.out _ hW j _ 10 _ HX.out rfl; go_simp; first | done | with_reducible rfl)) ?_; simp only [Act.put, List.setIfInBounds_toArray, List.set_cons_zero, List.set_cons_succ]) | (refine mix_call _ _ _ (by rfl) (fun W hW => by (have hW := HBS.out W hW; have m0 := HQl.out _ hW; have x0 := m0.cell_at 0 rfl; have x1 := m0.cell_at 1 rfl; have x2 := m0.cell_at 2 rfl; have x3 := m0.cell_at 3 rfl; have x4 := m0.cell_at 4 rfl; have x5 := m0.cell_at 5 rfl; have x6 := m0.cell_at 6 rfl; have x7 := m0.cell_at 7 rfl; have x8 := m0.cell_at 8 rfl; have x9 := m0.cell_at 9 rfl; have x10 := m0.cell_at 10 rfl; clear m0; rw [HA.out] at x0; have c0 := HC0.out _ hW j _ _ HX.out rfl; have c1 := HC.out _ hW j _ 1 _ HX.out rfl; have c2 := HC.out _ hW j _ 2 _ HX.out rfl; have c3 := HC.out _ hW j _ 3 _ HX.out rfl; have c4 := HC.out _ hW j _ 4 _ HX.out rfl; have c5 := HC.out _ hW j _ 5 _ HX.out rfl; have c6 := HC.out _ hW j _ 6 _ HX.out rfl; have c7 := HC.out _ hW j _ 7 _ HX.out rfl; have c8 := HC.out _ hW j _ 8 _ HX.out rfl; have c9 := HC.out _ hW j _ 9 _ HX.out rfl; have c10 := HC.out _ hW j _ 10 _ HX.out rfl; go_simp; first | done | rfl)) (fun W hW => KS.out W (HBS.out W hW)) ?_; simp only [Act.put, List.setIfInBounds_toArray, List.set_cons_zero, List.set_cons_succ]))
        refine mix_nil (fun W hW => ?_)
        have hq := HBS.out W hW
        clear hW HBS
        go_wp2_with fail
        go_roundw
        case rel => exact ⟨j + 1, hlt, by go_num, hq, HN⟩
        case measure => simp [intOf]; omega
    · obtain rfl : j = l.secs.length := by omega
      have HH1 := Lib.hid (NoneUp.any HNo.out)
      clear HNo hj hlt
      go_wp2_with fail
      clear x0
      go_loopw [4] (fun i wr => ∃ j : Nat, j ≤ l.sigs.length ∧ i = .int .i64 j ∧ Q wr ∧ Hid (NoneUp (fun x => !thereV l x.1 x.2) l.sigs j)) (fun i _ => l.sigs.length - (intOf i).toNat)
      case atStart => exact ⟨0, by omega, rfl, hq, Lib.hid (NoneUp.zero _ _)⟩
      case round =>
        clear hq
        obtain ⟨j, hj, rfl, hq, HNo⟩ := hrel
        have x1 := (HQl.out _ hq).cell_at 1 rfl
        by_cases hlt : j < l.sigs.length
        · have hlt' : (j : Int) < l.sigs.length := by omega
          obtain ⟨x, hx⟩ : ∃ x, l.sigs[j]? = some x := ⟨_, List.getElem?_eq_getElem hlt⟩
          obtain ⟨o1, o2, HA, HC0, HC⟩ := row_at (n := 2) (fun _ => rfl) (by omega) (fun W hW => (HQL.out W hW).sigs) hq hx
          have HX := Lib.hid hx
          have HM := Lib.hid (List.mem_of_getElem? hx)
          clear hx
          obtain ⟨b, hb⟩ : ∃ b, thereV l x.1 x.2 = b := ⟨_, rfl⟩
          have KS : Hid (∀ W, Q W → Calls Tryd.prog 52 #[.agg #[.slice l.As l.secs.length l.cs, .slice (some ⟨o1, o2, none⟩) l.sigs.length l.cg, .slice l.Ae l.exits.length l.ce, .slice l.Af l.flanks.length l.cf, .int .i64 l.t0, .int .i64 l.t1, .int .i64 l.t2, .int .i64 l.t3, .int .i64 l.t4, .int .i64 l.t5, .int .i64 l.t6], prtV x.1 x.2] W fun e w' => e = .returned (.bool b) ∧ Below W.heap.size W w') := Lib.hid (by rw [← HA.out]; exact fun W hW => thereR_B (HQL.out W hW) x.1 x.2 hb)
          have HB : Hid ((!thereV l x.1 x.2) = !b) := Lib.hid (by rw [hb])
          clear hb
          go_wp2_with fail
          clear x1
          cases b
          · have HF : Hid (false = r) := Lib.hid (by rw [← HR.out]; unfold rightR; rw [any_hit (l := l.sigs) HX.out HB.out]; simp)
            have HBS : Hid (∀ W, Below wr.heap.size wr W → Q W) := Lib.hid (fun W hB => HQ.out _ _ hq hB)
            clear hq
            refine region_mix (Below wr.heap.size wr) [(0, false), (1, false), (2, false), (3, false), (4, false), (5, false), (6, false), (7, false), (8, false)] (by kernel_rfl) (by kernel_rfl) (Below wr.heap.size wr) ⟨Closed.below wr, fun _ h => h⟩ (Below.refl _ _).drew ?_
            simp only [pickOps, List.getElem?_cons_zero, List.getElem?_cons_succ]
            repeat (first | (refine mix_skip (by rfl) ?_; simp only [Act.put, List.setIfInBounds_toArray, List.set_cons_zero, List.set_cons_succ]) | (refine mix_read _ (by rfl) (fun W hW => by (have hW := HBS.out W hW; have m0 := HQl.out _ hW; have x0 := m0.cell_at 0 rfl; have x1 := m0.cell_at 1 rfl; have x2 := m0.cell_at 2 rfl; have x3 := m0.cell_at 3 rfl; have x4 := m0.cell_at 4 rfl; have x5 := m0.cell_at 5 rfl; have x6 := m0.cell_at 6 rfl; have x7 := m0.cell_at 7 rfl; have x8 := m0.cell_at 8 rfl; have x9 := m0.cell_at 9 rfl; have x10 := m0.cell_at 10 rfl; clear m0; rw [HA.out] at x1; have c0 := HC0.out _ hW j _ _ HX.out rfl; have c1 := HC.out _ hW j _ 1 _ HX.out rfl; go_simp; first | done | with_reducible rfl)) ?_; simp only [Act.put, List.setIfInBounds_toArray, List.set_cons_zero, List.set_cons_succ]) | (refine mix_call _ _ _ (by rfl) (fun W hW => by (have hW := HBS.out W hW; have m0 := HQl.out _ hW; have x0 := m0.cell_at 0 rfl; have x1 := m0.cell_at 1 rfl; have x2 := m0.cell_at 2 rfl; have x3 := m0.cell_at 3 rfl; have x4 := m0.cell_at 4 rfl; have x5 := m0.cell_at 5 rfl; have x6 := m0.cell_at 6 rfl; have x7 := m0.cell_at 7 rfl; have x8 := m0.cell_at 8 rfl; have x9 := m0.cell_at 9 rfl; have x10 := m0.cell_at 10 rfl; clear m0; rw [HA.out] at x1; have c0 := HC0.out _ hW j _ _ HX.out rfl; have c1 := HC.out _ hW j _ 1 _ HX.out rfl; go_simp; first | done | rfl)) (fun W hW => KS.out W (HBS.out W hW)) ?_; simp only [Act.put, List.setIfInBounds_toArray, List.set_cons_zero, List.set_cons_succ]))
            refine mix_nil (fun W hW => ?_)
            have hq := HBS.out W hW
            clear hW HBS
            go_wp2_with fail
            go_ret
            exact ⟨ret_bool HF.out, HQp.out _ hq⟩
          · have HN := Lib.hid (HNo.out.succ HX.out HB.out)
            have HBS : Hid (∀ W, Below wr.heap.size wr W → Q W) := Lib.hid (fun W hB => HQ.out _ _ hq hB)
            clear hq
            refine region_mix (Below wr.heap.size wr) [(0, false), (1, false), (2, false), (3, false), (4, false), (5, false), (6, false), (7, false), (8, false)] (by kernel_rfl) (by kernel_rfl) (Below wr.heap.size wr) ⟨Closed.below wr, fun _ h => h⟩ (Below.refl _ _).drew ?_
            simp only [pickOps, List.getElem?_cons_zero, List.getElem?_cons_succ]
            repeat (first | (refine mix_skip (by rfl) ?_; simp only [Act.put, List.setIfInBounds_toArray, List.set_cons_zero, List.set_cons_succ]) | (refine mix_read _ (by rfl) (fun W hW => by (have hW := HBS.out W hW; have m0 := HQl.out _ hW; have x0 := m0.cell_at 0 rfl; have x1 := m0.cell_at 1 rfl; have x2 := m0.cell_at 2 rfl; have x3 := m0.cell_at 3 rfl; have x4 := m0.cell_at 4 rfl; have x5 := m0.cell_at 5 rfl; have x6 := m0.cell_at 6 rfl; have x7 := m0.cell_at 7 rfl; have x8 := m0.cell_at 8 rfl; have x9 := m0.cell_at 9 rfl; have x10 := m0.cell_at 10 rfl; clear m0; rw [HA.out] at x1; have c0 := HC0.out _ hW j _ _ HX.out rfl; have c1 := HC.out _ hW j _ 1 _ HX.out rfl; go_simp; first | done | with_reducible rfl)) ?_; simp only [Act.put, List.setIfInBounds_toArray, List.set_cons_zero, List.set_cons_succ]) | (refine mix_call _ _ _ (by rfl) (fun W hW => by (have hW := HBS.out W hW; have m0 := HQl.out _ hW; have x0 := m0.cell_at 0 rfl; have x1 := m0.cell_at 1 rfl; have x2 := m0.cell_at 2 rfl; have x3 := m0.cell_at 3 rfl; have x4 := m0.cell_at 4 rfl; have x5 := m0.cell_at 5 rfl; have x6 := m0.cell_at 6 rfl; have x7 := m0.cell_at 7 rfl; have x8 := m0.cell_at 8 rfl; have x9 := m0.cell_at 9 rfl; have x10 := m0.cell_at 10 rfl; clear m0; rw [HA.out] at x1; have c0 := HC0.out _ hW j _ _ HX.out rfl; have c1 := HC.out _ hW j _ 1 _ HX.out rfl; go_simp; first | done | rfl)) (fun W hW => KS.out W (HBS.out W hW)) ?_; simp only [Act.put, List.setIfInBounds_toArray, List.set_cons_zero, List.set_cons_succ]))
            refine mix_nil (fun W hW => ?_)
            have hq := HBS.out W hW
            clear hW HBS
            go_wp2_with fail
            go_roundw
            case rel => exact ⟨j + 1, hlt, by go_num, hq, HN⟩
            case measure => simp [intOf]; omega
        · obtain rfl : j = l.sigs.length := by omega
          have HH2 := Lib.hid (NoneUp.any HNo.out)
          clear HNo hj hlt
          go_wp2_with fail
          clear x1
          go_loopw [5] (fun i wr => ∃ j : Nat, j ≤ l.exits.length ∧ i = .int .i64 j ∧ Q wr ∧ Hid (NoneUp (fun x => !exitOk l x) l.exits j)) (fun i _ => l.exits.length - (intOf i).toNat)
          case atStart => exact ⟨0, by omega, rfl, hq, Lib.hid (NoneUp.zero _ _)⟩
          case round =>
            clear hq
            obtain ⟨j, hj, rfl, hq, HNo⟩ := hrel
            have x2 := (HQl.out _ hq).cell_at 2 rfl
            by_cases hlt : j < l.exits.length
            · have hlt' : (j : Int) < l.exits.length := by omega
              obtain ⟨x, hx⟩ : ∃ x, l.exits[j]? = some x := ⟨_, List.getElem?_eq_getElem hlt⟩
              obtain ⟨o1, o2, HA, HC0, HC⟩ := row_at (n := 3) (fun _ => rfl) (by omega) (fun W hW => (HQL.out W hW).exits) hq hx
              have HX := Lib.hid hx
              have HM := Lib.hid (List.mem_of_getElem? hx)
              clear hx
              obtain ⟨b, hb⟩ : ∃ b, exitOk l x = b := ⟨_, rfl⟩
              have KS : Hid (∀ W, Q W → Calls Tryd.prog 53 #[.agg #[.slice l.As l.secs.length l.cs, .slice l.Ag l.sigs.length l.cg, .slice (some ⟨o1, o2, none⟩) l.exits.length l.ce, .slice l.Af l.flanks.length l.cf, .int .i64 l.t0, .int .i64 l.t1, .int .i64 l.t2, .int .i64 l.t3, .int .i64 l.t4, .int .i64 l.t5, .int .i64 l.t6], x.val] W fun e w' => e = .returned (.bool b) ∧ Below W.heap.size W w') := Lib.hid (by rw [← HA.out]; exact fun W hW => exit1_B (HQL.out W hW) x HM.out hb)
              have HB : Hid ((!exitOk l x) = !b) := Lib.hid (by rw [hb])
              clear hb
              go_wp2_with fail
              clear x2
              cases b
              · have HF : Hid (false = r) := Lib.hid (by rw [← HR.out]; unfold rightR; rw [any_hit (l := l.exits) HX.out HB.out]; simp)
                have HBS : Hid (∀ W, Below wr.heap.size wr W → Q W) := Lib.hid (fun W hB => HQ.out _ _ hq hB)
                clear hq
                refine region_mix (Below wr.heap.size wr) [(0, false), (1, false), (2, false), (3, false), (4, false), (5, false), (6, false), (7, false)] (by kernel_rfl) (by kernel_rfl) (Below wr.heap.size wr) ⟨Closed.below wr, fun _ h => h⟩ (Below.refl _ _).drew ?_
                simp only [pickOps, List.getElem?_cons_zero, List.getElem?_cons_succ]
                repeat (first | (refine mix_skip (by rfl) ?_; simp only [Act.put, List.setIfInBounds_toArray, List.set_cons_zero, List.set_cons_succ]) | (refine mix_read _ (by rfl) (fun W hW => by (have hW := HBS.out W hW; have m0 := HQl.out _ hW; have x0 := m0.cell_at 0 rfl; have x1 := m0.cell_at 1 rfl; have x2 := m0.cell_at 2 rfl; have x3 := m0.cell_at 3 rfl; have x4 := m0.cell_at 4 rfl; have x5 := m0.cell_at 5 rfl; have x6 := m0.cell_at 6 rfl; have x7 := m0.cell_at 7 rfl; have x8 := m0.cell_at 8 rfl; have x9 := m0.cell_at 9 rfl; have x10 := m0.cell_at 10 rfl; clear m0; rw [HA.out] at x2; have c0 := HC0.out _ hW j _ _ HX.out rfl; have c1 := HC.out _ hW j _ 1 _ HX.out rfl; have c2 := HC.out _ hW j _ 2 _ HX.out rfl; go_simp; first | done | with_reducible rfl)) ?_; simp only [Act.put, List.setIfInBounds_toArray, List.set_cons_zero, List.set_cons_succ]) | (refine mix_call _ _ _ (by rfl) (fun W hW => by (have hW := HBS.out W hW; have m0 := HQl.out _ hW; have x0 := m0.cell_at 0 rfl; have x1 := m0.cell_at 1 rfl; have x2 := m0.cell_at 2 rfl; have x3 := m0.cell_at 3 rfl; have x4 := m0.cell_at 4 rfl; have x5 := m0.cell_at 5 rfl; have x6 := m0.cell_at 6 rfl; have x7 := m0.cell_at 7 rfl; have x8 := m0.cell_at 8 rfl; have x9 := m0.cell_at 9 rfl; have x10 := m0.cell_at 10 rfl; clear m0; rw [HA.out] at x2; have c0 := HC0.out _ hW j _ _ HX.out rfl; have c1 := HC.out _ hW j _ 1 _ HX.out rfl; have c2 := HC.out _ hW j _ 2 _ HX.out rfl; go_simp; first | done | rfl)) (fun W hW => KS.out W (HBS.out W hW)) ?_; simp only [Act.put, List.setIfInBounds_toArray, List.set_cons_zero, List.set_cons_succ]))
                refine mix_nil (fun W hW => ?_)
                have hq := HBS.out W hW
                clear hW HBS
                go_wp2_with fail
                go_ret
                exact ⟨ret_bool HF.out, HQp.out _ hq⟩
              · have HN := Lib.hid (HNo.out.succ HX.out HB.out)
                have HBS : Hid (∀ W, Below wr.heap.size wr W → Q W) := Lib.hid (fun W hB => HQ.out _ _ hq hB)
                clear hq
                refine region_mix (Below wr.heap.size wr) [(0, false), (1, false), (2, false), (3, false), (4, false), (5, false), (6, false), (7, false)] (by kernel_rfl) (by kernel_rfl) (Below wr.heap.size wr) ⟨Closed.below wr, fun _ h => h⟩ (Below.refl _ _).drew ?_
                simp only [pickOps, List.getElem?_cons_zero, List.getElem?_cons_succ]
                repeat (first | (refine mix_skip (by rfl) ?_; simp only [Act.put, List.setIfInBounds_toArray, List.set_cons_zero, List.set_cons_succ]) | (refine mix_read _ (by rfl) (fun W hW => by (have hW := HBS.out W hW; have m0 := HQl.out _ hW; have x0 := m0.cell_at 0 rfl; have x1 := m0.cell_at 1 rfl; have x2 := m0.cell_at 2 rfl; have x3 := m0.cell_at 3 rfl; have x4 := m0.cell_at 4 rfl; have x5 := m0.cell_at 5 rfl; have x6 := m0.cell_at 6 rfl; have x7 := m0.cell_at 7 rfl; have x8 := m0.cell_at 8 rfl; have x9 := m0.cell_at 9 rfl; have x10 := m0.cell_at 10 rfl; clear m0; rw [HA.out] at x2; have c0 := HC0.out _ hW j _ _ HX.out rfl; have c1 := HC.out _ hW j _ 1 _ HX.out rfl; have c2 := HC.out _ hW j _ 2 _ HX.out rfl; go_simp; first | done | with_reducible rfl)) ?_; simp only [Act.put, List.setIfInBounds_toArray, List.set_cons_zero, List.set_cons_succ]) | (refine mix_call _ _ _ (by rfl) (fun W hW => by (have hW := HBS.out W hW; have m0 := HQl.out _ hW; have x0 := m0.cell_at 0 rfl; have x1 := m0.cell_at 1 rfl; have x2 := m0.cell_at 2 rfl; have x3 := m0.cell_at 3 rfl; have x4 := m0.cell_at 4 rfl; have x5 := m0.cell_at 5 rfl; have x6 := m0.cell_at 6 rfl; have x7 := m0.cell_at 7 rfl; have x8 := m0.cell_at 8 rfl; have x9 := m0.cell_at 9 rfl; have x10 := m0.cell_at 10 rfl; clear m0; rw [HA.out] at x2; have c0 := HC0.out _ hW j _ _ HX.out rfl; have c1 := HC.out _ hW j _ 1 _ HX.out rfl; have c2 := HC.out _ hW j _ 2 _ HX.out rfl; go_simp; first | done | rfl)) (fun W hW => KS.out W (HBS.out W hW)) ?_; simp only [Act.put, List.setIfInBounds_toArray, List.set_cons_zero, List.set_cons_succ]))
                refine mix_nil (fun W hW => ?_)
                have hq := HBS.out W hW
                clear hW HBS
                go_wp2_with fail
                go_roundw
                case rel => exact ⟨j + 1, hlt, by go_num, hq, HN⟩
                case measure => simp [intOf]; omega
            · obtain rfl : j = l.exits.length := by omega
              have HH3 := Lib.hid (NoneUp.any HNo.out)
              clear HNo hj hlt
              go_wp2_with fail
              clear x2
              go_loopw [6] (fun i wr => ∃ j : Nat, j ≤ l.flanks.length ∧ i = .int .i64 j ∧ Q wr ∧ Hid (NoneUp (fun x => !flankV l x.1 x.2.1 x.2.2.1 x.2.2.2) l.flanks j)) (fun i _ => l.flanks.length - (intOf i).toNat)
              case atStart => exact ⟨0, by omega, rfl, hq, Lib.hid (NoneUp.zero _ _)⟩
              case round =>
                clear hq
                obtain ⟨j, hj, rfl, hq, HNo⟩ := hrel
                have x3 := (HQl.out _ hq).cell_at 3 rfl
                by_cases hlt : j < l.flanks.length
                · have hlt' : (j : Int) < l.flanks.length := by omega
                  obtain ⟨x, hx⟩ : ∃ x, l.flanks[j]? = some x := ⟨_, List.getElem?_eq_getElem hlt⟩
                  obtain ⟨o1, o2, HA, HC0, HC⟩ := row_at (n := 4) (fun _ => rfl) (by omega) (fun W hW => (HQL.out W hW).flanks) hq hx
                  have HX := Lib.hid hx
                  have HM := Lib.hid (List.mem_of_getElem? hx)
                  clear hx
                  obtain ⟨b, hb⟩ : ∃ b, flankV l x.1 x.2.1 x.2.2.1 x.2.2.2 = b := ⟨_, rfl⟩
                  have KS : Hid (∀ W, Q W → Calls Tryd.prog 54 #[.agg #[.slice l.As l.secs.length l.cs, .slice l.Ag l.sigs.length l.cg, .slice l.Ae l.exits.length l.ce, .slice (some ⟨o1, o2, none⟩) l.flanks.length l.cf, .int .i64 l.t0, .int .i64 l.t1, .int .i64 l.t2, .int .i64 l.t3, .int .i64 l.t4, .int .i64 l.t5, .int .i64 l.t6], flkV x.1 x.2.1 x.2.2.1 x.2.2.2] W fun e w' => e = .returned (.bool b) ∧ Below W.heap.size W w') := Lib.hid (by rw [← HA.out]; exact fun W hW => flank_B (HQL.out W hW) x hb)
                  have HB : Hid ((!flankV l x.1 x.2.1 x.2.2.1 x.2.2.2) = !b) := Lib.hid (by rw [hb])
                  clear hb
                  go_wp2_with fail
                  clear x3
                  cases b
                  · have HF : Hid (false = r) := Lib.hid (by rw [← HR.out]; unfold rightR; rw [any_hit (l := l.flanks) HX.out HB.out]; simp)
                    have HBS : Hid (∀ W, Below wr.heap.size wr W → Q W) := Lib.hid (fun W hB => HQ.out _ _ hq hB)
                    clear hq
                    refine region_mix (Below wr.heap.size wr) [(0, false), (1, false), (2, false), (3, false), (4, false), (5, false), (6, false), (7, false)] (by kernel_rfl) (by kernel_rfl) (Below wr.heap.size wr) ⟨Closed.below wr, fun _ h => h⟩ (Below.refl _ _).drew ?_
                    simp only [pickOps, List.getElem?_cons_zero, List.getElem?_cons_succ]
                    repeat (first | (refine mix_skip (by rfl) ?_; simp only [Act.put, List.setIfInBounds_toArray, List.set_cons_zero, List.set_cons_succ]) | (refine mix_read _ (by rfl) (fun W hW => by (have hW := HBS.out W hW; have m0 := HQl.out _ hW; have x0 := m0.cell_at 0 rfl; have x1 := m0.cell_at 1 rfl; have x2 := m0.cell_at 2 rfl; have x3 := m0.cell_at 3 rfl; have x4 := m0.cell_at 4 rfl; have x5 := m0.cell_at 5 rfl; have x6 := m0.cell_at 6 rfl; have x7 := m0.cell_at 7 rfl; have x8 := m0.cell_at 8 rfl; have x9 := m0.cell_at 9 rfl; have x10 := m0.cell_at 10 rfl; clear m0; rw [HA.out] at x3; have c0 := HC0.out _ hW j _ _ HX.out rfl; have c1 := HC.out _ hW j _ 1 _ HX.out rfl; have c2 := HC.out _ hW j _ 2 _ HX.out rfl; have c3 := HC.out _ hW j _ 3 _ HX.out rfl; go_simp; first | done | with_reducible rfl)) ?_; simp only [Act.put, List.setIfInBounds_toArray, List.set_cons_zero, List.set_cons_succ]) | (refine mix_call _ _ _ (by rfl) (fun W hW => by (have hW := HBS.out W hW; have m0 := HQl.out _ hW; have x0 := m0.cell_at 0 rfl; have x1 := m0.cell_at 1 rfl; have x2 := m0.cell_at 2 rfl; have x3 := m0.cell_at 3 rfl; have x4 := m0.cell_at 4 rfl; have x5 := m0.cell_at 5 rfl; have x6 := m0.cell_at 6 rfl; have x7 := m0.cell_at 7 rfl; have x8 := m0.cell_at 8 rfl; have x9 := m0.cell_at 9 rfl; have x10 := m0.cell_at 10 rfl; clear m0; rw [HA.out] at x3; have c0 := HC0.out _ hW j _ _ HX.out rfl; have c1 := HC.out _ hW j _ 1 _ HX.out rfl; have c2 := HC.out _ hW j _ 2 _ HX.out rfl; have c3 := HC.out _ hW j _ 3 _ HX.out rfl; go_simp; first | done | rfl)) (fun W hW => KS.out W (HBS.out W hW)) ?_; simp only [Act.put, List.setIfInBounds_toArray, List.set_cons_zero, List.set_cons_succ]))
                    refine mix_nil (fun W hW => ?_)
                    have hq := HBS.out W hW
                    clear hW HBS
                    go_wp2_with fail
                    go_ret
                    exact ⟨ret_bool HF.out, HQp.out _ hq⟩
                  · have HN := Lib.hid (HNo.out.succ HX.out HB.out)
                    have HBS : Hid (∀ W, Below wr.heap.size wr W → Q W) := Lib.hid (fun W hB => HQ.out _ _ hq hB)
                    clear hq
                    refine region_mix (Below wr.heap.size wr) [(0, false), (1, false), (2, false), (3, false), (4, false), (5, false), (6, false), (7, false)] (by kernel_rfl) (by kernel_rfl) (Below wr.heap.size wr) ⟨Closed.below wr, fun _ h => h⟩ (Below.refl _ _).drew ?_
                    simp only [pickOps, List.getElem?_cons_zero, List.getElem?_cons_succ]
                    repeat (first | (refine mix_skip (by rfl) ?_; simp only [Act.put, List.setIfInBounds_toArray, List.set_cons_zero, List.set_cons_succ]) | (refine mix_read _ (by rfl) (fun W hW => by (have hW := HBS.out W hW; have m0 := HQl.out _ hW; have x0 := m0.cell_at 0 rfl; have x1 := m0.cell_at 1 rfl; have x2 := m0.cell_at 2 rfl; have x3 := m0.cell_at 3 rfl; have x4 := m0.cell_at 4 rfl; have x5 := m0.cell_at 5 rfl; have x6 := m0.cell_at 6 rfl; have x7 := m0.cell_at 7 rfl; have x8 := m0.cell_at 8 rfl; have x9 := m0.cell_at 9 rfl; have x10 := m0.cell_at 10 rfl; clear m0; rw [HA.out] at x3; have c0 := HC0.out _ hW j _ _ HX.out rfl; have c1 := HC.out _ hW j _ 1 _ HX.out rfl; have c2 := HC.out _ hW j _ 2 _ HX.out rfl; have c3 := HC.out _ hW j _ 3 _ HX.out rfl; go_simp; first | done | with_reducible rfl)) ?_; simp only [Act.put, List.setIfInBounds_toArray, List.set_cons_zero, List.set_cons_succ]) | (refine mix_call _ _ _ (by rfl) (fun W hW => by (have hW := HBS.out W hW; have m0 := HQl.out _ hW; have x0 := m0.cell_at 0 rfl; have x1 := m0.cell_at 1 rfl; have x2 := m0.cell_at 2 rfl; have x3 := m0.cell_at 3 rfl; have x4 := m0.cell_at 4 rfl; have x5 := m0.cell_at 5 rfl; have x6 := m0.cell_at 6 rfl; have x7 := m0.cell_at 7 rfl; have x8 := m0.cell_at 8 rfl; have x9 := m0.cell_at 9 rfl; have x10 := m0.cell_at 10 rfl; clear m0; rw [HA.out] at x3; have c0 := HC0.out _ hW j _ _ HX.out rfl; have c1 := HC.out _ hW j _ 1 _ HX.out rfl; have c2 := HC.out _ hW j _ 2 _ HX.out rfl; have c3 := HC.out _ hW j _ 3 _ HX.out rfl; go_simp; first | done | rfl)) (fun W hW => KS.out W (HBS.out W hW)) ?_; simp only [Act.put, List.setIfInBounds_toArray, List.set_cons_zero, List.set_cons_succ]))
                    refine mix_nil (fun W hW => ?_)
                    have hq := HBS.out W hW
                    clear hW HBS
                    go_wp2_with fail
                    go_roundw
                    case rel => exact ⟨j + 1, hlt, by go_num, hq, HN⟩
                    case measure => simp [intOf]; omega
                · obtain rfl : j = l.flanks.length := by omega
                  have HH4 := Lib.hid (NoneUp.any HNo.out)
                  clear HNo hj hlt
                  clear x3
                  by_cases h0 : (l.secs.length : Int) ≤ 24
                  · have d0 := decide_eq_true h0
                    clear h0
                    by_cases h1 : (l.sigs.length : Int) ≤ 12
                    · have d1 := decide_eq_true h1
                      clear h1
                      by_cases h2 : (l.exits.length : Int) ≤ 12
                      · have d2 := decide_eq_true h2
                        clear h2
                        by_cases h3 : (l.flanks.length : Int) ≤ 16
                        · have d3 := decide_eq_true h3
                          clear h3
                          have HF : Hid (tb = r) := Lib.hid (by
                            have e1 := HH1.out
                            have e2 := HH2.out
                            have e3 := HH3.out
                            have e4 := HH4.out
                            rw [← HR.out, ← HTB.out]
                            unfold rightR
                            rw [e1, e2, e3, e4, d0, d1, d2, d3]
                            rfl)
                          have hW := hq
                          have m0 := HQl.out _ hW
                          have x0 := m0.cell_at 0 rfl
                          have x1 := m0.cell_at 1 rfl
                          have x2 := m0.cell_at 2 rfl
                          have x3 := m0.cell_at 3 rfl
                          have x4 := m0.cell_at 4 rfl
                          have x5 := m0.cell_at 5 rfl
                          have x6 := m0.cell_at 6 rfl
                          have x7 := m0.cell_at 7 rfl
                          have x8 := m0.cell_at 8 rfl
                          have x9 := m0.cell_at 9 rfl
                          have x10 := m0.cell_at 10 rfl
                          clear m0
                          clear hW
                          go_wp2_with fail
                          refine (KT.out _ hq).mono ?_
                          clear x0 x1 x2 x3 x4 x5 x6 x7 x8 x9 x10 hq
                          rintro e w1 ⟨rfl, hq⟩
                          go_wp2_with fail
                          go_ret
                          exact ⟨ret_bool HF.out, HQp.out _ hq⟩
                        · have d3 := decide_eq_false h3
                          clear h3
                          have HF : Hid (false = r) := Lib.hid (by rw [← HR.out]; unfold rightR; rw [d3]; simp)
                          have hW := hq
                          have m0 := HQl.out _ hW
                          have x0 := m0.cell_at 0 rfl
                          have x1 := m0.cell_at 1 rfl
                          have x2 := m0.cell_at 2 rfl
                          have x3 := m0.cell_at 3 rfl
                          have x4 := m0.cell_at 4 rfl
                          have x5 := m0.cell_at 5 rfl
                          have x6 := m0.cell_at 6 rfl
                          have x7 := m0.cell_at 7 rfl
                          have x8 := m0.cell_at 8 rfl
                          have x9 := m0.cell_at 9 rfl
                          have x10 := m0.cell_at 10 rfl
                          clear m0
                          clear hW
                          go_wp2_with fail
                          go_ret
                          exact ⟨ret_bool HF.out, HQp.out _ hq⟩
                      · have d2 := decide_eq_false h2
                        clear h2
                        have HF : Hid (false = r) := Lib.hid (by rw [← HR.out]; unfold rightR; rw [d2]; simp)
                        have hW := hq
                        have m0 := HQl.out _ hW
                        have x0 := m0.cell_at 0 rfl
                        have x1 := m0.cell_at 1 rfl
                        have x2 := m0.cell_at 2 rfl
                        have x3 := m0.cell_at 3 rfl
                        have x4 := m0.cell_at 4 rfl
                        have x5 := m0.cell_at 5 rfl
                        have x6 := m0.cell_at 6 rfl
                        have x7 := m0.cell_at 7 rfl
                        have x8 := m0.cell_at 8 rfl
                        have x9 := m0.cell_at 9 rfl
                        have x10 := m0.cell_at 10 rfl
                        clear m0
                        clear hW
                        go_wp2_with fail
                        go_ret
                        exact ⟨ret_bool HF.out, HQp.out _ hq⟩
                    · have d1 := decide_eq_false h1
                      clear h1
                      have HF : Hid (false = r) := Lib.hid (by rw [← HR.out]; unfold rightR; rw [d1]; simp)
                      have hW := hq
                      have m0 := HQl.out _ hW
                      have x0 := m0.cell_at 0 rfl
                      have x1 := m0.cell_at 1 rfl
                      have x2 := m0.cell_at 2 rfl
                      have x3 := m0.cell_at 3 rfl
                      have x4 := m0.cell_at 4 rfl
                      have x5 := m0.cell_at 5 rfl
                      have x6 := m0.cell_at 6 rfl
                      have x7 := m0.cell_at 7 rfl
                      have x8 := m0.cell_at 8 rfl
                      have x9 := m0.cell_at 9 rfl
                      have x10 := m0.cell_at 10 rfl
                      clear m0
                      clear hW
                      go_wp2_with fail
                      go_ret
                      exact ⟨ret_bool HF.out, HQp.out _ hq⟩
                  · have d0 := decide_eq_false h0
                    clear h0
                    have HF : Hid (false = r) := Lib.hid (by rw [← HR.out]; unfold rightR; rw [d0]; simp)
                    have hW := hq
                    have m0 := HQl.out _ hW
                    have x0 := m0.cell_at 0 rfl
                    have x1 := m0.cell_at 1 rfl
                    have x2 := m0.cell_at 2 rfl
                    have x3 := m0.cell_at 3 rfl
                    have x4 := m0.cell_at 4 rfl
                    have x5 := m0.cell_at 5 rfl
                    have x6 := m0.cell_at 6 rfl
                    have x7 := m0.cell_at 7 rfl
                    have x8 := m0.cell_at 8 rfl
                    have x9 := m0.cell_at 9 rfl
                    have x10 := m0.cell_at 10 rfl
                    clear m0
                    clear hW
                    go_wp2_with fail
                    go_ret
                    exact ⟨ret_bool HF.out, HQp.out _ hq⟩
end
end Go.Proofs.YtbalcbnlpgekaaaDoor
