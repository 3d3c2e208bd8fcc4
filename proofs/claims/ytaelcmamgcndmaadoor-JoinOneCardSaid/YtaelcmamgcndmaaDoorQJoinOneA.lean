/- A layout with one join turned elsewhere; append onto a row of the call's own. -/
import Derived.Test.YtaelcmamgcndmaaDoorQJoinBack
import Derived.Test.YtaelcmamgcndmaaDoorQC
namespace Go.Proofs.YtaelcmamgcndmaaDoor
open Go.Shelf Go.RowKit Go.Shelf
set_option linter.unusedVariables false
set_option linter.unusedSimpArgs false

section
variable {P : Program} {α : Type} {f : α → List Value} {size : Nat}
theorem flat_none (hf : ∀ x, (f x).length = size) (hsz : 0 < size) {w : World} {B : Nat} {l : List α} (hr : Row w B none (l.flatMap f)) : l = [] := by
  cases l with
  | nil => rfl
  | cons x l =>
    obtain ⟨b, off, e, _⟩ := hr (by rw [List.flatMap_cons, List.length_append, hf]; omega)
    cases e
theorem appendG (hf : ∀ x, (f x).length = size) (one : ∀ x, ∀ u ∈ f x, u.oneCell' = true) (t e : TypeId) (z : Value) (bytes : Nat) (ht : P.underlying t = some (.slice e)) (hi : (P.info? e).map (fun i => (i.zero, i.size, i.bytes)) = some (some z, size, bytes)) (hz : z.cells.size = size) (hsz : 0 < size) (hby : bytes ≤ 100)
    (base n : Nat) (v : Value) (xs : List Value) (l : List α) (A : Option Addr) (c B : Nat) (w : World) (hown : w.ownsRow base e size v n xs) (hv : v ≠ .slice none 0 0 ∨ A ≠ none) (hr : Row w B A (l.flatMap f)) (hn : n ≤ 1000) (hl : l.length ≤ 1000) (hbase : base ≤ w.heap.size) :
    ∃ v' w', (Builtin.append_ #[t, t] t #[v, .slice A l.length c]).run P w = .ok v' w' ∧ w'.ownsRow base e size v' (n + l.length) (xs ++ l.flatMap f) ∧ w.grownBy w' v.ownBlock := by
  obtain ⟨i, i1, i2, i3, i4⟩ := info_parts hi
  cases A with
  | none =>
    obtain rfl := flat_none hf hsz hr
    rcases hown.2 with ⟨h, _⟩ | ⟨g, cap, cur, rfl, h3, h4, h5, h6, h7, h8⟩
    · rcases hv with hv | hv
      · exact absurd h hv
      · exact absurd rfl hv
    · exact ⟨_, w, append_none w t t e i ht i1 g n cap c h5, by simpa using hown, World.grownBy.refl _ _⟩
  | some a =>
    have hb : (n + l.length) * bytes ≤ 2000 * 100 := Nat.mul_le_mul (by omega) hby
    obtain ⟨v', w', r1, r2, r3, r4, r5⟩ := run_append_own_at (P := P) w base t t e i z size bytes ht i1 i2 i3 i4 hz hsz v n xs hown a l.length c (l.flatMap f) (flat_length hf l) (row_add hr) (fun u hu => by
      obtain ⟨x, _, hx⟩ := List.mem_flatMap.1 hu
      exact one x u hx) (by unfold maxLen; omega) (by omega) hbase
    exact ⟨v', w', r1, r2, r3⟩
theorem owns_empty (W : World) (e : TypeId) (base g : Nat) (hb : base ≤ g) (h : W.heap[g]? = some (.cells #[] e (0, 0))) : W.ownsRow base e size (.slice (some ⟨g, 0, none⟩) 0 0) 0 [] :=
  ⟨by simp, .inr ⟨g, 0, #[], rfl, hb, h, Nat.le_refl _, by simp, by simp, by simp⟩⟩
/-- append([]T{}, a..). -/
theorem appendN (hf : ∀ x, (f x).length = size) (one : ∀ x, ∀ u ∈ f x, u.oneCell' = true) (t e : TypeId) (z : Value) (bytes : Nat) (ht : P.underlying t = some (.slice e)) (hi : (P.info? e).map (fun i => (i.zero, i.size, i.bytes)) = some (some z, size, bytes)) (hz : z.cells.size = size) (hsz : 0 < size) (hby : bytes ≤ 100)
    (l : List α) (A : Option Addr) (c : Nat) (W : World) (hr : Row W W.heap.size A (l.flatMap f)) (hl : l.length ≤ 1000) :
    ∃ A' c' w1, (Builtin.append_ #[t, t] t #[.slice (some ⟨W.heap.size, 0, none⟩) 0 0, .slice A l.length c]).run P (W.alloc (.cells #[] e)) = .ok (.slice A' l.length c') w1 ∧ w1.ownsRow W.heap.size e size (.slice A' l.length c') l.length (l.flatMap f) ∧ Below W.heap.size W w1 := by
  have hown : (W.alloc (.cells #[] e)).ownsRow W.heap.size e size (.slice (some ⟨W.heap.size, 0, none⟩) 0 0) 0 [] := owns_empty _ e _ _ (Nat.le_refl _) (World.alloc_heap_new W _)
  obtain ⟨v', w1, h1, h2, h3⟩ := appendG hf one t e z bytes ht hi hz hsz hby W.heap.size 0 _ [] l A c W.heap.size _ hown (.inl (by simp)) (hr.below (below1 W _)) (by omega) hl (by simp)
  rw [Nat.zero_add, List.nil_append] at h2
  obtain ⟨A', c', rfl, _⟩ := owns_read h2
  exact ⟨A', c', w1, h1, h2, (below1 W _).grown h3 (by simp) (fun k e => by cases e; exact Nat.le_refl _)⟩
end
theorem exec_append {P : Program} {o : Oper} {a : Act} {w w' : World} (s x : Operand) (t : TypeId) (ho : o.op = .call { callee := .builtin .append, args := #[s, x], argTypes := #[t, t] }) {v' : Value}
    (hrun : (Builtin.append_ #[t, t] o.type #[a.eval s, a.eval x]).run P w = .ok v' w') : (execOp a.eval o).run P w = .ok (.value v') w' := by
  unfold execOp
  simp only [ho, resolve, invoke, builtin, Sem.run_bind, Sem.run_pure, Result.andThen_ok, List.map_toArray, List.map_cons, List.map_nil, hrun]
/-- What is owned is owned behind a store below. -/
theorem owns_set {w : World} {base e size n B : Nat} {v : Value} {xs : List Value} (h : w.ownsRow base e size v n xs) {p : Addr} (hp : p.block < base) (u : Value) : (w.setCell p u).ownsRow base e size v n xs :=
  h.kept (row := some p.block) ⟨rfl, rfl, rfl, by simp [World.setCell], fun k _ hk => Below.heap_setCell _ _ _ _ (fun e => hk (by rw [e]))⟩ (by
    rcases h.2 with ⟨rfl, _⟩ | ⟨g, cap, cur, rfl, h3, _⟩
    · exact .inl rfl
    · refine .inr (fun e => ?_)
      have : g = p.block := by simpa [Value.ownBlock] using e
      omega)

theorem flat_setG {α : Type} {f : α → List Value} {n : Nat} (hf : ∀ x, (f x).length = n) {v : Value} {y : α} {k : Nat} (hk : k < n) : ∀ (l : List α) (j : Nat) (x : α), l[j]? = some x → f y = (f x).set k v → (l.flatMap f).set (j * n + k) v = (l.set j y).flatMap f
  | [], j, x, h, _ => by simp at h
  | z :: l, 0, x, h, hy => by
    simp only [List.getElem?_cons_zero, Option.some.injEq] at h
    subst h
    rw [List.set_cons_zero, List.flatMap_cons, List.flatMap_cons, hy, Nat.zero_mul, Nat.zero_add, List.set_append_left _ _ (by rw [hf]; exact hk)]
  | z :: l, j + 1, x, h, hy => by
    rw [List.set_cons_succ, List.flatMap_cons, List.flatMap_cons, ← flat_setG hf hk l j x (by simpa using h) hy]
    have e : (j + 1) * n + k = (f z).length + (j * n + k) := by rw [hf, Nat.add_mul, Nat.one_mul]; omega
    rw [e, List.set_append_right _ _ (Nat.le_add_right _ _), Nat.add_sub_cancel_left]
theorem owns_setIn {α : Type} {f : α → List Value} {size : Nat} (hf : ∀ x, (f x).length = size) {W : World} {base e g c : Nat} {l : List α} (h : W.ownsRow base e size (.slice (some ⟨g, 0, none⟩) l.length c) l.length (l.flatMap f)) {j k : Nat} {x y : α} {v : Value} (hx : l[j]? = some x) (hy : f y = (f x).set k v) (hk : k < size) :
    (W.setCell ⟨g, j * size + k, none⟩ v).ownsRow base e size (.slice (some ⟨g, 0, none⟩) (l.set j y).length c) (l.set j y).length ((l.set j y).flatMap f) := by
  refine ⟨flat_length hf _, ?_⟩
  rw [List.length_set]
  rcases h.2 with ⟨h2, _⟩ | ⟨g', cap, cur, hv, h3, h4, h5, h6, h7, h8⟩
  · cases h2
  · cases hv
    refine .inr ⟨g, c, cur.setIfInBounds (j * size + k) v, rfl, h3, heap_setCell_same W g _ cur e v h4, h5, h6, by simpa using h7, ?_⟩
    rw [Array.toList_setIfInBounds, List.take_set, h8]
    exact flat_setG hf hk l j x hx hy
theorem owns_frozen {W : World} {base e size g n c : Nat} {xs : List Value} (h : W.ownsRow base e size (.slice (some ⟨g, 0, none⟩) n c) n xs) (i : Nat) : W.frozen? ⟨g, i, none⟩ = false := by
  rcases h.2 with ⟨h2, _⟩ | ⟨g', cap, cur, hv, h3, h4, h5, h6, h7, h8⟩
  · cases h2
  · cases hv
    exact frozen_of_row W g i cur e h4

/-- A section with one of its joins turned. -/
def setS (x : Sec) (k : Nat) (a : Int) : Sec := if k = 0 then { x with s0 := a } else if k = 1 then { x with s1 := a } else if k = 2 then { x with s2 := a } else { x with s3 := a }
def setQ (x : Sec) (k : Nat) (a : Int) : Sec := if k = 0 then { x with q0 := a } else if k = 1 then { x with q1 := a } else if k = 2 then { x with q2 := a } else { x with q3 := a }
def setP (x : Sec) (k : Nat) (q : Int × Int) : Sec := setQ (setS x k q.1) k q.2
theorem four {k : Nat} (h : k < 4) : k = 0 ∨ k = 1 ∨ k = 2 ∨ k = 3 := by omega
theorem setS_cells (x : Sec) {k : Nat} (h : k < 4) (a : Int) : (setS x k a).cells = x.cells.set (1 + k * 2) (.int .i64 a) := by rcases four h with rfl | rfl | rfl | rfl <;> rfl
theorem setQ_cells (x : Sec) {k : Nat} (h : k < 4) (a : Int) : (setQ x k a).cells = x.cells.set (1 + k * 2 + 1) (.int .i64 a) := by rcases four h with rfl | rfl | rfl | rfl <;> rfl
theorem setP_k (x : Sec) {k : Nat} (h : k < 4) (q : Int × Int) : (setP x k q).k = x.k := by rcases four h with rfl | rfl | rfl | rfl <;> rfl
theorem setP_ports (x : Sec) {k : Nat} (h : k < 4) (q : Int × Int) : (setP x k q).ports4[k]? = some q := by rcases four h with rfl | rfl | rfl | rfl <;> rfl
theorem setP_else (x : Sec) {k u : Nat} (h : k < 4) (hu : u ≠ k) (q : Int × Int) : (setP x k q).ports4[u]? = x.ports4[u]? := by
  by_cases h4 : u < 4
  · rcases four h with rfl | rfl | rfl | rfl <;> rcases four h4 with rfl | rfl | rfl | rfl <;> first | rfl | exact absurd rfl hu
  · rw [List.getElem?_eq_none (by show 4 ≤ u; omega), List.getElem?_eq_none (by show 4 ≤ u; omega)]
theorem setP_same {x : Sec} {k : Nat} (h : k < 4) {q : Int × Int} (hq : x.ports4[k]? = some q) : setP x k q = x := by
  obtain ⟨a, b⟩ := q
  rcases four h with rfl | rfl | rfl | rfl <;> (cases hq; rfl)
theorem set_same {α : Type} {l : List α} {j : Nat} {x : α} (h : l[j]? = some x) : l.set j x = l := by
  apply List.ext_getElem?
  intro i
  rw [List.getElem?_set]
  split
  · rename_i e
    subst e
    rw [if_pos (List.getElem?_eq_some_iff.1 h).1, h]
  · rfl
theorem kindV_secs {l m : Lay} (h : m.secs = l.secs) (s : Int) : kindV m s = kindV l s := by unfold kindV; rw [h]
theorem thereV_kind {l m : Lay} (h : ∀ s, kindV m s = kindV l s) (s p : Int) : thereV m s p = thereV l s p := by unfold thereV; rw [h]
theorem beyondV_at {l m : Lay} (h : ∀ s, kindV m s = kindV l s) {s : Int} (hs : m.secs[s.toNat]? = l.secs[s.toNat]?) (p : Int) : beyondV m s p = beyondV l s p := by
  unfold beyondV atV
  rw [thereV_kind h, hs]
theorem joinedP_secs {l m : Lay} (h : m.secs = l.secs) (s p : Int) : joinedP m s p = joinedP l s p := by
  have hb : ∀ s p, beyondV m s p = beyondV l s p := fun s p => beyondV_at (kindV_secs h) (by rw [h]) p
  unfold joinedP
  rw [hb, hb]
theorem joinedL_secs {l m : Lay} (h : m.secs = l.secs) : joinedL m = joinedL l := by
  rw [Bool.eq_iff_iff, joinedL_iff, joinedL_iff, h]
  constructor
  · rintro ⟨h1, h2⟩
    exact ⟨h1, fun s x hx => ⟨(h2 s x hx).1, fun p hp => by rw [← joinedP_secs h]; exact (h2 s x hx).2 p hp⟩⟩
  · rintro ⟨h1, h2⟩
    exact ⟨h1, fun s x hx => ⟨(h2 s x hx).1, fun p hp => by rw [joinedP_secs h]; exact (h2 s x hx).2 p hp⟩⟩
/-- Where sections are joined, one join turned elsewhere is joined no more. -/
theorem one_joined {l m : Lay} (hj : joinedL l = true) {j k : Nat} {x : Sec} {was q : Int × Int} (hx : l.secs[j]? = some x) (hk : k < (pK x.k).toNat) (hw : x.ports4[k]? = some was) (hm : m.secs = l.secs.set j (setP x k q)) : joinedL m = decide (q = was) := by
  have h4 : k < 4 := by have := pK_le4 x.k; omega
  by_cases e : q = was
  · rw [decide_eq_true e]
    have hs : m.secs = l.secs := by rw [hm, setP_same h4 (by rw [hw, e]), set_same hx]
    rw [joinedL_secs hs]
    exact hj
  · rw [decide_eq_false e]
    cases hjm : joinedL m
    · rfl
    · exfalso
      apply e
      have hjl := (List.getElem?_eq_some_iff.1 hx).1
      have hmj : m.secs[j]? = some (setP x k q) := by rw [hm, List.getElem?_set, if_pos rfl, if_pos hjl]
      have hkd : ∀ s, kindV m s = kindV l s := fun s => by
        unfold kindV
        split
        · rw [hm, List.getElem?_set]
          split
          · rename_i e1
            rw [← e1, hx]
            show (setP x k q).k = x.k
            exact setP_k x h4 q
          · rfl
        · rfl
      have hfar : ∀ (t u : Int), 0 ≤ t → t ≠ (j : Int) → beyondV m t u = beyondV l t u := fun t u h0 ht => beyondV_at hkd (by rw [hm, List.getElem?_set, if_neg (fun e1 => ht (by omega))]) u
      have hbl : beyondV l j k = was := by
        obtain ⟨q', h1, h2⟩ := beyond_at hx hk
        rw [hw] at h1
        rw [h2]
        exact (Option.some.inj h1).symm
      have hbm : beyondV m j k = q := by
        obtain ⟨q', h1, h2⟩ := beyond_at hmj (p := k) (by rw [setP_k x h4]; exact hk)
        rw [setP_ports x h4] at h1
        rw [h2]
        exact (Option.some.inj h1).symm
      have hend : ¬ (((j : Int), (k : Int)) = (-1, 0)) := fun e1 => by have := congrArg Prod.fst e1; simp at this
      have hpos : ∀ {l : Lay} {t u : Int}, thereV l t u = true → 0 ≤ t := fun h => by obtain ⟨i, x, e, _⟩ := thereV_some h; omega
      rcases joined_back hjm hbm with he | ⟨h1, h2, h3, h5, h6⟩
      · rcases joined_back hj hbl with he' | ⟨g1, g2, g3, g5, g6⟩
        · rw [he, he']
        · rw [← hfar _ _ (hpos g3) g5] at g6
          rcases joined_back hjm g6 with he2 | ⟨_, _, _, _, g7⟩
          · exact absurd he2 hend
          · simp only at g7
            rw [hbm] at g7
            exact g7
      · rw [hfar _ _ (hpos h3) h5] at h6
        rcases joined_back hj h6 with he2 | ⟨_, _, _, _, g7⟩
        · exact absurd he2 hend
        · simp only at g7
          rw [hbl] at g7
          exact g7.symm
section
variable {P : Program} {ops : Array Oper} {B S : World → Prop} {L : (World → Prop) → Act → Prop} {o : Oper} {l : List (Oper × Bool)} {a : Act}
/-- A store within a block. -/
theorem mix_within (t : TypeId) (x y : Operand) (g off : Nat) (vs : List Value) (S' : World → Prop) (hF' : Fam B S') (ho : o.op = .store t x y) (hx : a.eval x = .pointer (some ⟨g, off, none⟩)) (hy : a.eval y = .agg vs.toArray)
    (hi : (P.info? t).map (·.size) = some vs.length) (h1 : vs.all (·.oneCell') = true) (hw : Region.wanted o (yielded ops a.tmps) = true) (hth : ∀ w, S w → w.there g off vs.length) (hS' : ∀ w, S w → S' (w.setCells g off vs))
    (h : wpMix P ops (Fam B) L l S' (a.put o.dst undef)) : wpMix P ops (Fam B) L ((o, true) :: l) S a := by
  refine mix_store S' (fun w => w.setCells g off vs) hF' hw (fun w hS => ?_) hS' h
  have := run_storeAt_mid (P := P) w g off t vs.toArray (by simpa using hth w hS) (by simpa using hi) (by simpa using h1)
  unfold execOp
  simp only [ho, hx, hy, Sem.run_bind, this, Result.andThen_ok, Sem.run_pure]
end
end Go.Proofs.YtaelcmamgcndmaaDoor
