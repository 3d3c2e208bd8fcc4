/- A layout's copy whose rows are all of the call's own. The document's own layer 6: Own. One number out of its bounds: whose numbers may not be; a copy's cells that are filled anew. A copy that is turned at one place: its rows are of the call's own still. The walk of LayoutOne: a layout with one number out of its bounds may not be. -/
import Derived.Test.YtljpiafopbfdlaaGen
import Derived.Test.YtljpiafopbfdlaaQAd
import Derived.Test.YtljpiafopbfdlaaQAc
import Derived.Deep.CutRange
import Derived.Deep.CutBlock
namespace Go.Proofs.Ytljpiafopbfdlaa
open Go.RowKit Go.Shelf
set_option linter.unusedVariables false
set_option linter.unusedSimpArgs false

section
variable {P : Program} {α : Type} {f : α → List Value} {size : Nat}
theorem flat_none (hf : ∀ x, (f x).length = size) (hsz : 0 < size) {w : World} {B : Nat} {l : List α} (hr : Row w B none (l.flatMap f)) : l = [] := by
  cases l with
  | nil => rfl
  | cons x l =>
    obtain ⟨b, off, e, _⟩ := hr (by rw [List.flatMap_cons, List.length_append, hf]; omega)
    cases e
theorem appendG (hf : ∀ x, (f x).length = size) (one : ∀ x, ∀ u ∈ f x, u.oneCell' = true) (t e : TypeId) (z : Value) (bytes : Nat) (ht : P.underlying t = some (.slice e)) (hi : (P.info? e).map (fun i => (i.zero, i.size, i.bytes)) = some (some z, size, bytes)) (hz : z.cells.size = size) (hsz : 0 < size) (hby : bytes ≤ 100)
    (base n : Nat) (v : Value) (xs : List Value) (l : List α) (A : Option Addr) (c B : Nat) (w : World) (hown : w.ownsRow base e size v n xs) (hv : v ≠ .slice none 0 0 ∨ A ≠ none) (hr : Row w B A (l.flatMap f)) (hn : n ≤ 1000) (hl : l.length ≤ 1000) (hbase : base ≤ w.heap.size) :
    ∃ v' w', (Builtin.append_ #[t, t] t #[v, .slice A l.length c]).run P w = .ok v' w' ∧ w'.ownsRow base e size v' (n + l.length) (xs ++ l.flatMap f) ∧ w.grownBy w' v.ownBlock := by
  obtain ⟨i, i1, i2, i3, i4⟩ := info_parts hi
  cases A with
  | none =>
    obtain rfl := flat_none hf hsz hr
    rcases hown.2 with ⟨h, _⟩ | ⟨g, cap, cur, rfl, h3, h4, h5, h6, h7, h8⟩
    · rcases hv with hv | hv
      · exact absurd h hv
      · exact absurd rfl hv
    · exact ⟨_, w, append_none w t t e i ht i1 g n cap c h5, by simpa using hown, World.grownBy.refl _ _⟩
  | some a =>
    have hb : (n + l.length) * bytes ≤ 2000 * 100 := Nat.mul_le_mul (by omega) hby
    obtain ⟨v', w', r1, r2, r3, r4, r5⟩ := run_append_own_at (P := P) w base t t e i z size bytes ht i1 i2 i3 i4 hz hsz v n xs hown a l.length c (l.flatMap f) (flat_length hf l) (row_add hr) (fun u hu => by
      obtain ⟨x, _, hx⟩ := List.mem_flatMap.1 hu
      exact one x u hx) (by unfold maxLen; omega) (by omega) hbase
    exact ⟨v', w', r1, r2, r3⟩
theorem owns_empty (W : World) (e : TypeId) (base g : Nat) (hb : base ≤ g) (h : W.heap[g]? = some (.cells #[] e (0, 0))) : W.ownsRow base e size (.slice (some ⟨g, 0, none⟩) 0 0) 0 [] :=
  ⟨by simp, .inr ⟨g, 0, #[], rfl, hb, h, Nat.le_refl _, by simp, by simp, by simp⟩⟩
/-- append([]T{}, a..). -/
theorem appendN (hf : ∀ x, (f x).length = size) (one : ∀ x, ∀ u ∈ f x, u.oneCell' = true) (t e : TypeId) (z : Value) (bytes : Nat) (ht : P.underlying t = some (.slice e)) (hi : (P.info? e).map (fun i => (i.zero, i.size, i.bytes)) = some (some z, size, bytes)) (hz : z.cells.size = size) (hsz : 0 < size) (hby : bytes ≤ 100)
    (l : List α) (A : Option Addr) (c : Nat) (W : World) (hr : Row W W.heap.size A (l.flatMap f)) (hl : l.length ≤ 1000) :
    ∃ A' c' w1, (Builtin.append_ #[t, t] t #[.slice (some ⟨W.heap.size, 0, none⟩) 0 0, .slice A l.length c]).run P (W.alloc (.cells #[] e)) = .ok (.slice A' l.length c') w1 ∧ w1.ownsRow W.heap.size e size (.slice A' l.length c') l.length (l.flatMap f) ∧ Below W.heap.size W w1 := by
  have hown : (W.alloc (.cells #[] e)).ownsRow W.heap.size e size (.slice (some ⟨W.heap.size, 0, none⟩) 0 0) 0 [] := owns_empty _ e _ _ (Nat.le_refl _) (World.alloc_heap_new W _)
  obtain ⟨v', w1, h1, h2, h3⟩ := appendG hf one t e z bytes ht hi hz hsz hby W.heap.size 0 _ [] l A c W.heap.size _ hown (.inl (by simp)) (hr.below (below1 W _)) (by omega) hl (by simp)
  rw [Nat.zero_add, List.nil_append] at h2
  obtain ⟨A', c', rfl, _⟩ := owns_read h2
  exact ⟨A', c', w1, h1, h2, (below1 W _).grown h3 (by simp) (fun k e => by cases e; exact Nat.le_refl _)⟩
end
theorem exec_append {P : Program} {o : Oper} {a : Act} {w w' : World} (s x : Operand) (t : TypeId) (ho : o.op = .call { callee := .builtin .append, args := #[s, x], argTypes := #[t, t] }) {v' : Value}
    (hrun : (Builtin.append_ #[t, t] o.type #[a.eval s, a.eval x]).run P w = .ok v' w') : (execOp a.eval o).run P w = .ok (.value v') w' := by
  unfold execOp
  simp only [ho, resolve, invoke, builtin, Sem.run_bind, Sem.run_pure, Result.andThen_ok, List.map_toArray, List.map_cons, List.map_nil, hrun]
theorem owns_apart {W : World} {b e s n b' e' s' n' : Nat} {v v' : Value} {xs xs' : List Value} (h : W.ownsRow b e s v n xs) (k : W.ownsRow b' e' s' v' n' xs') (he : e ≠ e') : v.ownBlock = none ∨ v.ownBlock ≠ v'.ownBlock := by
  rcases h.2 with ⟨rfl, _⟩ | ⟨g, cap, cur, rfl, h3, h4, _⟩
  · exact .inl rfl
  · refine .inr ?_
    rcases k.2 with ⟨rfl, _⟩ | ⟨g', cap', cur', rfl, k3, k4, _⟩
    · intro e; cases e
    · intro e
      have : g = g' := by simpa [Value.ownBlock] using e
      subst this
      rw [h4] at k4
      cases k4
      exact he rfl
/-- What is owned is owned behind a store below. -/
theorem owns_set {w : World} {base e size n B : Nat} {v : Value} {xs : List Value} (h : w.ownsRow base e size v n xs) {p : Addr} (hp : p.block < base) (u : Value) : (w.setCell p u).ownsRow base e size v n xs :=
  h.kept (row := some p.block) ⟨rfl, rfl, rfl, by simp [World.setCell], fun k _ hk => Below.heap_setCell _ _ _ _ (fun e => hk (by rw [e]))⟩ (by
    rcases h.2 with ⟨rfl, _⟩ | ⟨g, cap, cur, rfl, h3, _⟩
    · exact .inl rfl
    · refine .inr (fun e => ?_)
      have : g = p.block := by simpa [Value.ownBlock] using e
      omega)

section
variable {P : Program} {ops : Array Oper} {B S : World → Prop} {L : (World → Prop) → Act → Prop} {o : Oper} {l : List (Oper × Bool)} {a : Act}
theorem mix_yield {X : Type} (val : X → Value) (S' : X → World → Prop) (hF' : ∀ x, Fam B (S' x)) (hw : Region.wanted o (yielded ops a.tmps) = true) (hv : ∀ w, S w → ∃ x w', (execOp a.eval o).run P w = .ok (.value (val x)) w' ∧ S' x w')
    (h : ∀ x, wpMix P ops (Fam B) L l (S' x) (a.put o.dst (val x))) : wpMix P ops (Fam B) L ((o, true) :: l) S a :=
  ⟨hw, fun w hS => by
    obtain ⟨x, w', hr, hs⟩ := hv w hS
    unfold Oper.wp
    rw [hr]
    exact ⟨val x, S' x, rfl, hF' x, hs, h x⟩⟩
theorem mix_make (val : Nat → Value) (n : Nat) (t : TypeId) (zs : List Value) (hF : Fam B S) (hn : ∀ w, S w → n ≤ w.heap.size) (hw : Region.wanted o (yielded ops a.tmps) = true)
    (hv : ∀ w, S w → (execOp a.eval o).run P w = .ok (.value (val w.heap.size)) (w.alloc (.cells zs.toArray t)))
    (h : ∀ g, n ≤ g → wpMix P ops (Fam B) L l (fun w => S w ∧ Whole w g t zs) (a.put o.dst (val g))) : wpMix P ops (Fam B) L ((o, true) :: l) S a :=
  ⟨hw, fun w hS => by
    unfold Oper.wp
    rw [hv w hS]
    exact ⟨_, _, rfl, ⟨hF.1.and (Closed.whole _ _ _), fun w hw => hF.2 w hw.1⟩, ⟨hF.1 _ _ hS (below1 w _), Whole.new w t zs⟩, h _ (hn w hS)⟩⟩
end
end Go.Proofs.Ytljpiafopbfdlaa
namespace Go.Proofs.Ytljpiafopbfdlaa
open Go.RowKit Go.Shelf
set_option linter.unusedVariables false
set_option linter.unusedSimpArgs false

abbrev mkO (l : Lay) (AS : Option Addr) (kS : Nat) (AG : Option Addr) (kG : Nat) (AF : Option Addr) (kF : Nat) (ex : List Exm) (AE : Option Addr) (kE : Nat) : Lay := ⟨l.secs, AS, kS, l.sigs, AG, kG, ex, AE, kE, l.flanks, AF, kF, l.t0, l.t1, l.t2, l.t3, l.t4, l.t5, l.t6⟩

end Go.Proofs.Ytljpiafopbfdlaa
namespace Go.Proofs.Ytljpiafopbfdlaa
open Go.RowKit Go.Shelf
set_option linter.unusedVariables false
set_option linter.unusedSimpArgs false

theorem sameT_eq {l m : Lay} (h : sameT l m = true) : timesL l = timesL m := by
  unfold sameT at h
  simp only [Bool.and_eq_true, beq_iff_eq] at h
  obtain ⟨h0, h1, h2, h3, h4, h5, h6⟩ := h
  unfold timesL
  rw [h0, h1, h2, h3, h4, h5, h6]
/-- Layouts that are the same may be, or may not. -/
theorem right_same {l m : Lay} (h : sameV l m = true) : rightL l = rightL m := by
  unfold sameV at h
  simp only [Bool.and_eq_true, decide_eq_true_eq] at h
  obtain ⟨ht, hs, hg, he, hf⟩ := h
  have hs : l.secs = m.secs := by simpa using hs
  have ht := sameT_eq ht
  have kv : kindV l = kindV m := by funext s; unfold kindV; rw [hs]
  have tv : thereV l = thereV m := by funext s p; unfold thereV; rw [kv]
  have sv : stepV l = stepV m := by funext s i o; unfold stepV; rw [kv]
  have fv : flankV l = flankV m := by funext a b c d; unfold flankV; rw [kv]
  have hel : l.exits.length = m.exits.length := by have := congrArg List.length he; simpa using this
  have ho : ∀ k : Lay, (k.exits.any fun x => decide (2 < (x.over.length : Int))) = (k.exits.map Exm.pure).any fun q => decide (2 < (q.2.2.length : Int)) := fun k => by rw [List.any_map]; rfl
  have e1 : tooV l = tooV m := by unfold tooV; rw [ho l, ho m, he, hs, hg, hel, hf]
  have hp : ∀ k : Lay, (k.exits.map fun x => (x.s, x.q)) = (k.exits.map Exm.pure).map fun q => (q.1, q.2.1) := fun k => by rw [List.map_map]; rfl
  have e2 : portsL l = portsL m := by unfold portsL joinsL; rw [hp l, hp m, he, hs, hg]
  have hst : ∀ k : Lay, k.exits.flatMap Exm.over = (k.exits.map Exm.pure).flatMap fun q => q.2.2 := fun k => by rw [List.flatMap_map]; rfl
  have e3 : stepsL l = stepsL m := by unfold stepsL; rw [hst l, hst m, he]
  unfold rightL
  rw [e1, e2, e3, ht, hs, hf, tv, sv, fv]
theorem same_not {l m : Lay} (hl : rightL l = true) (hm : rightL m = false) : sameV l m = false := by
  cases h : sameV l m
  · rfl
  · rw [right_same h, hm] at hl; cases hl
theorem no_of {m : Lay} (h : rightR m ≠ true) : rightL m = false := by rw [← rightR_eq]; simpa using h
theorem right_no1 {m : Lay} {x : Sec} (hx : x ∈ m.secs) (h : secOk m x = false) : rightL m = false := no_of fun hh => by have := (rightR_iff.1 hh).1 x hx; rw [h] at this; cases this
theorem right_no2 {m : Lay} {p : Int × Int} (hx : p ∈ m.sigs) (h : thereV m p.1 p.2 = false) : rightL m = false := no_of fun hh => by have := (rightR_iff.1 hh).2.1 p hx; rw [h] at this; cases this
theorem right_no3 {m : Lay} {x : Exm} (hx : x ∈ m.exits) (h : exitOk m x = false) : rightL m = false := no_of fun hh => by have := (rightR_iff.1 hh).2.2.1 x hx; rw [h] at this; cases this
theorem right_no4 {m : Lay} {f : Int × Int × Int × Int} (hx : f ∈ m.flanks) (h : flankV m f.1 f.2.1 f.2.2.1 f.2.2.2 = false) : rightL m = false := no_of fun hh => by have := (rightR_iff.1 hh).2.2.2.1 f hx; rw [h] at this; cases this
theorem right_no5 {m : Lay} {n : Int} (hx : n ∈ timesL m) (h : withinA n 1 1000 = false) : rightL m = false := no_of fun hh => by have := (rightR_iff.1 hh).2.2.2.2.2.2.2.2 n hx; rw [h] at this; cases this
theorem sec_noK {m : Lay} {x : Sec} (h : rightK x = false) : secOk m x = false := by unfold secOk; rw [h, Bool.and_false]
theorem sec_noJ {m : Lay} {x : Sec} {p : Int × Int} (hp : p ∈ x.ports4) (h : noJ m p = true) : secOk m x = false := by
  unfold secOk
  rw [List.any_eq_true.2 ⟨p, hp, h⟩]
  rfl
theorem there_far {m : Lay} {s p : Int} (h : (m.secs.length : Int) ≤ s) : thereV m s p = false := by
  unfold thereV
  rw [kindV_no (by omega)]
  unfold withinA
  have : pK 0 = 0 := rfl
  rw [this]
  by_cases hp : 0 ≤ p
  · rw [decide_eq_false (show ¬ p ≤ 0 - 1 by omega), Bool.and_false]
  · rw [decide_eq_false hp]; rfl
theorem there_low {m : Lay} {s p : Int} (h : s < 0) : thereV m s p = false := by
  unfold thereV
  rw [kindV_no (by omega)]
  unfold withinA
  have : pK 0 = 0 := rfl
  rw [this]
  by_cases hp : 0 ≤ p
  · rw [decide_eq_false (show ¬ p ≤ 0 - 1 by omega), Bool.and_false]
  · rw [decide_eq_false hp]; rfl
theorem pK_le (k : Int) : pK k ≤ 4 := by
  unfold pK
  split
  · omega
  · split
    · omega
    · split <;> omega
theorem there_high {m : Lay} {s p : Int} (h : 4 ≤ p) : thereV m s p = false := by
  unfold thereV withinA
  have := pK_le (kindV m s)
  rw [decide_eq_false (show ¬ p ≤ pK (kindV m s) - 1 by omega), Bool.and_false]
theorem goes_no (k : Int) : goesK k 0 0 = false := by
  unfold goesK nK bK cK dK
  by_cases h1 : k = 1
  · subst h1; decide
  · by_cases h2 : k = 2
    · subst h2; decide
    · by_cases h3 : k = 3
      · subst h3; decide
      · simp [h1, h2, h3, goesV]
theorem join_no1 (p : Int) (j : Nat) {n : Int} (h : 1 ≤ n) : joinOk p j (-1) n = false := by
  have e : (n == 0) = false := by rw [beq_eq_false_iff_ne]; omega
  unfold joinOk mayV withinV
  rw [e]
  split <;> simp
theorem join_no2 (p : Int) (j : Nat) {n : Int} (h : n < -1) : joinOk p j n 0 = false := by
  have e : (n == -1) = false := by rw [beq_eq_false_iff_ne]; omega
  unfold joinOk mayV withinV
  rw [e, decide_eq_false (show ¬ 0 ≤ n by omega)]
  split <;> simp
theorem class_no1 (n : Int) (j : Nat) {c : Int} (h : 3 < c) : classOk n j c = false := by
  have e : (c == 0) = false := by rw [beq_eq_false_iff_ne]; omega
  unfold classOk withinV
  rw [e, decide_eq_false (show ¬ c ≤ 3 by omega)]
  split <;> simp
theorem class_no2 (n : Int) (j : Nat) {c : Int} (h : c < 0) : classOk n j c = false := by
  have e : (c == 0) = false := by rw [beq_eq_false_iff_ne]; omega
  unfold classOk withinV
  rw [e, decide_eq_false (show ¬ 0 ≤ c by omega)]
  split <;> simp
theorem kind_four (x : Sec) (h : x.k = 4) : rightK x = false := by unfold rightK rightV; rw [h]; rfl

theorem flat_setG {α : Type} {f : α → List Value} {n : Nat} (hf : ∀ x, (f x).length = n) {v : Value} {y : α} {k : Nat} (hk : k < n) : ∀ (l : List α) (j : Nat) (x : α), l[j]? = some x → f y = (f x).set k v → (l.flatMap f).set (j * n + k) v = (l.set j y).flatMap f
  | [], j, x, h, _ => by simp at h
  | z :: l, 0, x, h, hy => by
    simp only [List.getElem?_cons_zero, Option.some.injEq] at h
    subst h
    rw [List.set_cons_zero, List.flatMap_cons, List.flatMap_cons, hy, Nat.zero_mul, Nat.zero_add, List.set_append_left _ _ (by rw [hf]; exact hk)]
  | z :: l, j + 1, x, h, hy => by
    rw [List.set_cons_succ, List.flatMap_cons, List.flatMap_cons, ← flat_setG hf hk l j x (by simpa using h) hy]
    have e : (j + 1) * n + k = (f z).length + (j * n + k) := by rw [hf, Nat.add_mul, Nat.one_mul]; omega
    rw [e, List.set_append_right _ _ (Nat.le_add_right _ _), Nat.add_sub_cancel_left]
theorem owns_setIn {α : Type} {f : α → List Value} {size : Nat} (hf : ∀ x, (f x).length = size) {W : World} {base e g c : Nat} {l : List α} (h : W.ownsRow base e size (.slice (some ⟨g, 0, none⟩) l.length c) l.length (l.flatMap f)) {j k : Nat} {x y : α} {v : Value} (hx : l[j]? = some x) (hy : f y = (f x).set k v) (hk : k < size) :
    (W.setCell ⟨g, j * size + k, none⟩ v).ownsRow base e size (.slice (some ⟨g, 0, none⟩) (l.set j y).length c) (l.set j y).length ((l.set j y).flatMap f) := by
  refine ⟨flat_length hf _, ?_⟩
  rw [List.length_set]
  rcases h.2 with ⟨h2, _⟩ | ⟨g', cap, cur, hv, h3, h4, h5, h6, h7, h8⟩
  · cases h2
  · cases hv
    refine .inr ⟨g, c, cur.setIfInBounds (j * size + k) v, rfl, h3, heap_setCell_same W g _ cur e v h4, h5, h6, by simpa using h7, ?_⟩
    rw [Array.toList_setIfInBounds, List.take_set, h8]
    exact flat_setG hf hk l j x hx hy
theorem owns_frozen {W : World} {base e size g n c : Nat} {xs : List Value} (h : W.ownsRow base e size (.slice (some ⟨g, 0, none⟩) n c) n xs) (i : Nat) : W.frozen? ⟨g, i, none⟩ = false := by
  rcases h.2 with ⟨h2, _⟩ | ⟨g', cap, cur, hv, h3, h4, h5, h6, h7, h8⟩
  · cases h2
  · cases hv
    exact frozen_of_row W g i cur e h4
theorem owns_cellG {α : Type} {f : α → List Value} {size : Nat} (hf : ∀ x, (f x).length = size) (hs : 0 < size) {W : World} {base e g c : Nat} {l : List α} (h : W.ownsRow base e size (.slice (some ⟨g, 0, none⟩) l.length c) l.length (l.flatMap f)) {j : Nat} {x : α} (hx : l[j]? = some x) :
    ∀ (k : Nat) v, (f x)[k]? = some v → W.cell? ⟨g, j * size + k, none⟩ = some v := fun k v hv => by
  obtain ⟨b, off, hA, _, _, hc⟩ := (owns_row2 h).nth hf hs hx
  cases hA
  have := hc j x k v hx hv
  rwa [Nat.zero_add] at this
end Go.Proofs.Ytljpiafopbfdlaa
namespace Go.Proofs.Ytljpiafopbfdlaa
open Go.RowKit Go.Shelf
set_option linter.unusedVariables false
set_option linter.unusedSimpArgs false

theorem owns_box {W : World} {base e size n : Nat} {v : Value} {xs : List Value} (h : W.ownsRow base e size v n xs) {gm t : Nat} {cs : List Value} (hm : Whole W gm t cs) (he : e ≠ t) : v.ownBlock = none ∨ v.ownBlock ≠ some gm := by
  rcases h.2 with ⟨rfl, _⟩ | ⟨g, cap, cur, rfl, h3, h4, _⟩
  · exact .inl rfl
  · refine .inr (fun e => ?_)
    have : g = gm := by simpa [Value.ownBlock] using e
    subst this
    rw [show W.heap[g]? = _ from hm] at h4
    cases h4
    exact he rfl
theorem grown_set (W : World) (p : Addr) (u : Value) : W.grownBy (W.setCell p u) (some p.block) := ⟨rfl, rfl, rfl, by simp [World.setCell], fun k _ hk => Below.heap_setCell _ _ _ _ (fun e => hk (by rw [e]))⟩
theorem mem_set_self {α : Type} {l : List α} {j : Nat} {x y : α} (hx : l[j]? = some x) : y ∈ l.set j y := by
  have hj := (List.getElem?_eq_some_iff.1 hx).1
  exact List.mem_iff_getElem.2 ⟨j, by simpa using hj, by simp⟩
theorem own_lens {l : Lay} (h : rightL l = true) : l.secs.length ≤ 24 ∧ l.sigs.length ≤ 12 ∧ l.exits.length ≤ 12 ∧ l.flanks.length ≤ 16 ∧ ∀ x ∈ l.exits, x.over.length ≤ 2 := by
  obtain ⟨⟨h1, h2, h3, h4, h5⟩, _⟩ := rightL_iff.1 h
  exact ⟨by omega, by omega, by omega, by omega, fun x hx => by have := h5 x hx; omega⟩
theorem at_num (a : Int) {L : Nat} (h0 : 0 < L) (h1 : L ≤ 24) : ∃ p : Nat, p < L ∧ Int.tmod (IntKind.i64.wrap (Int.tmod a L + L)) L = p := by
  have hlt := Int.tmod_lt_of_pos a (show (0 : Int) < L by omega)
  have hgt := Int.lt_tmod_of_pos a (show (0 : Int) < L by omega)
  have hw : IntKind.i64.wrap (Int.tmod a L + L) = Int.tmod a L + L := by
    rw [IntKind.wrap_i64]
    omega
  rw [hw]
  have h2 := Int.tmod_lt_of_pos (Int.tmod a L + L) (show (0 : Int) < L by omega)
  have h3 : 0 ≤ Int.tmod (Int.tmod a L + L) L := Int.tmod_nonneg _ (by omega)
  exact ⟨(Int.tmod (Int.tmod a L + L) L).toNat, by omega, by omega⟩

end Go.Proofs.Ytljpiafopbfdlaa
namespace Go.Proofs.Ytljpiafopbfdlaa
open Go.RowKit Go.Shelf
set_option linter.unusedVariables false
set_option linter.unusedSimpArgs false

end Go.Proofs.Ytljpiafopbfdlaa
