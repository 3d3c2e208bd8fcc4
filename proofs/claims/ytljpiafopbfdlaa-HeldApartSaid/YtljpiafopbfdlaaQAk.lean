/- What goes does so in parts, and back; an overlap goes from beyond its exit; how many bits its mask has. Paths in numbers: which steps go, which vias are gone through, what a Route path is; what follows (pure; made ahead of stage 11). -/
import Derived.Test.YtljpiafopbfdlaaQAe
import Derived.Test.YtljpiafopbfdlaaQAh
import Derived.Test.YtljpiafopbfdlaaQAj
namespace Go.Proofs.Ytljpiafopbfdlaa
open Go.RowKit Go.Shelf
set_option linter.unusedVariables false
set_option linter.unusedSimpArgs false

/-- Where one stands behind steps. -/
def endL (l : Lay) : Int × Int → List (Int × Int × Int) → Int × Int
  | p, [] => p
  | _, x :: r => endL l (nextV l x.1 x.2.1 x.2.2) r
theorem goes_append (l : Lay) : ∀ (a b : List (Int × Int × Int)) (p : Int × Int), goesL l p (a ++ b) = (goesL l p a && goesL l (endL l p a) b)
  | [], b, p => by simp [goesL, endL]
  | x :: a, b, p => by
    show (stepV l x.1 x.2.1 x.2.2 && (decide (p = (x.1, x.2.1)) && goesL l (nextV l x.1 x.2.1 x.2.2) (a ++ b))) = ((stepV l x.1 x.2.1 x.2.2 && (decide (p = (x.1, x.2.1)) && goesL l (nextV l x.1 x.2.1 x.2.2) a)) && goesL l (endL l (nextV l x.1 x.2.1 x.2.2) a) b)
    rw [goes_append l a b, Bool.and_assoc, Bool.and_assoc]
theorem end_append (l : Lay) : ∀ (a : List (Int × Int × Int)) (x : Int × Int × Int) (p : Int × Int), endL l p (a ++ [x]) = nextV l x.1 x.2.1 x.2.2
  | [], x, p => rfl
  | y :: a, x, p => end_append l a x _
/-- Where the second part begins. -/
def midV (l : Lay) (p : Int × Int) (ss : List (Int × Int × Int)) : Nat → Int × Int
  | 0 => p
  | a + 1 => ((ss[a]?).map (fun x => nextV l x.1 x.2.1 x.2.2)).getD p
theorem mid_end {l : Lay} {p : Int × Int} {ss : List (Int × Int × Int)} {a : Nat} (ha : a ≤ ss.length) : endL l p (ss.take a) = midV l p ss a := by
  cases a with
  | zero => rfl
  | succ a =>
    obtain ⟨x, hx⟩ : ∃ x, ss[a]? = some x := ⟨_, List.getElem?_eq_getElem (by omega)⟩
    rw [List.take_add_one, hx, Option.toList_some, end_append]
    show _ = ((ss[a]?).map (fun x => nextV l x.1 x.2.1 x.2.2)).getD p
    rw [hx]
    rfl
theorem goes_parts {l : Lay} {p : Int × Int} {ss : List (Int × Int × Int)} {a : Nat} (ha : a ≤ ss.length) (h : goesL l p ss = true) : goesL l p (ss.take a) = true ∧ goesL l (midV l p ss a) (ss.drop a) = true := by
  rw [← List.take_append_drop a ss, goes_append, Bool.and_eq_true, mid_end ha] at h
  exact h
/-- A step turned about. -/
def turn (x : Int × Int × Int) : Int × Int × Int := (x.1, x.2.2, x.2.1)
theorem goes_back {l : Lay} (hr : rightT l = true) : ∀ (ss : List (Int × Int × Int)) (p : Int × Int) (x : Int × Int × Int), goesL l p (x :: ss) = true →
    ∃ z, (x :: ss).getLast? = some z ∧ goesL l (z.1, z.2.2) ((x :: ss).reverse.map turn) = true ∧ endL l (z.1, z.2.2) ((x :: ss).reverse.map turn) = beyondV l x.1 x.2.1
  | [], p, x, h => by
    refine ⟨x, rfl, ?_, ?_⟩
    · have h1 : stepV l x.1 x.2.1 x.2.2 = true := by
        unfold goesL at h
        rw [Bool.and_eq_true] at h
        exact h.1
      show (stepV l x.1 x.2.2 x.2.1 && (decide ((x.1, x.2.2) = (x.1, x.2.2)) && true)) = true
      rw [← stepV_turned, h1]
      simp
    · have h1 : stepV l x.1 x.2.1 x.2.2 = true := by
        unfold goesL at h
        rw [Bool.and_eq_true] at h
        exact h.1
      show nextV l x.1 x.2.2 x.2.1 = _
      unfold nextV
      rw [← stepV_turned, h1]
      rfl
  | y :: r, p, x, h => by
    have h1 : stepV l x.1 x.2.1 x.2.2 = true ∧ goesL l (nextV l x.1 x.2.1 x.2.2) (y :: r) = true := by
      rw [show goesL l p (x :: y :: r) = (stepV l x.1 x.2.1 x.2.2 && (decide (p = (x.1, x.2.1)) && goesL l (nextV l x.1 x.2.1 x.2.2) (y :: r))) from rfl] at h
      simp only [Bool.and_eq_true] at h
      exact ⟨h.1, h.2.2⟩
    obtain ⟨z, hz, hg, he⟩ := goes_back hr r _ y h1.2
    have h2 : stepV l y.1 y.2.1 y.2.2 = true ∧ nextV l x.1 x.2.1 x.2.2 = (y.1, y.2.1) := by
      have := h1.2
      rw [show goesL l (nextV l x.1 x.2.1 x.2.2) (y :: r) = (stepV l y.1 y.2.1 y.2.2 && (decide (nextV l x.1 x.2.1 x.2.2 = (y.1, y.2.1)) && goesL l (nextV l y.1 y.2.1 y.2.2) r)) from rfl] at this
      simp only [Bool.and_eq_true, decide_eq_true_eq] at this
      exact ⟨this.1, this.2.1⟩
    have hn : beyondV l x.1 x.2.2 = (y.1, y.2.1) := by
      have := h2.2
      unfold nextV at this
      rwa [h1.1, if_pos rfl] at this
    have hb : beyondV l y.1 y.2.1 = (x.1, x.2.2) := right_back hr hn (by
      obtain ⟨j, _, e, _⟩ := step_some h2.1
      show 0 ≤ y.1
      omega)
    refine ⟨z, by rw [List.getLast?_cons_cons]; exact hz, ?_, ?_⟩
    · rw [List.reverse_cons, List.map_append, goes_append, hg, he, hb]
      show (true && (stepV l x.1 x.2.2 x.2.1 && (decide ((x.1, x.2.2) = (x.1, x.2.2)) && true))) = true
      rw [← stepV_turned, h1.1]
      simp
    · rw [List.reverse_cons, List.map_append]
      show endL l _ (_ ++ [turn x]) = _
      rw [end_append]
      show nextV l x.1 x.2.2 x.2.1 = _
      unfold nextV
      rw [← stepV_turned, h1.1]
      rfl
/-- An overlap goes from what lies beyond its exit. -/
theorem goes_way {l : Lay} : ∀ (r : List (Int × Int × Int)) (p : Int × Int), (∀ (k : Nat) (s : Int × Int × Int), r[k]? = some s → stepV l s.1 s.2.1 s.2.2 = true ∧ beyondV l (wayAt p r k).1 (wayAt p r k).2 = (s.1, s.2.1)) → goesL l (beyondV l p.1 p.2) r = true
  | [], p, h => rfl
  | x :: r, p, h => by
    have h0 := h 0 x rfl
    have hw : wayAt p (x :: r) 0 = p := rfl
    rw [hw] at h0
    have ih := goes_way r (x.1, x.2.2) (fun k s hk => h (k + 1) s hk)
    show (stepV l x.1 x.2.1 x.2.2 && (decide (beyondV l p.1 p.2 = (x.1, x.2.1)) && goesL l (nextV l x.1 x.2.1 x.2.2) r)) = true
    have hn : nextV l x.1 x.2.1 x.2.2 = beyondV l x.1 x.2.2 := by unfold nextV; rw [h0.1]; rfl
    rw [h0.1, h0.2, hn, ih]
    simp
/-- How many numbers below n a test holds of. -/
def cntP (p : Nat → Bool) : Nat → Nat
  | 0 => 0
  | n + 1 => cntP p n + (if p n = true then 1 else 0)
theorem cnt_one {p : Nat → Bool} {a : Nat} (hp : p a = false) : ∀ n, cntP (fun j => p j || decide (j = a)) n = cntP p n + (if a < n then 1 else 0)
  | 0 => rfl
  | n + 1 => by
    show cntP _ n + _ = cntP p n + _ + _
    rw [cnt_one hp n]
    by_cases e : n = a
    · subst e
      simp [hp]
    · have e2 : (if (fun j => p j || decide (j = a)) n = true then 1 else 0) = (if p n = true then 1 else 0) := by show (if (p n || decide (n = a)) = true then 1 else 0) = _; rw [decide_eq_false e, Bool.or_false]
      rw [e2]
      by_cases h : a < n
      · have h2 : a < n + 1 := by omega
        rw [if_pos h, if_pos h2]; omega
      · have h2 : ¬ a < n + 1 := by omega
        rw [if_neg h, if_neg h2]; omega
theorem cnt_congr {p q : Nat → Bool} : ∀ n, (∀ j, j < n → p j = q j) → cntP p n = cntP q n
  | 0, _ => rfl
  | n + 1, h => by
    show cntP p n + _ = cntP q n + _
    rw [cnt_congr n (fun j hj => h j (by omega)), h n (by omega)]
theorem cnt_none : ∀ n, cntP (fun _ => false) n = 0
  | 0 => rfl
  | n + 1 => by show cntP _ n + _ = 0; rw [cnt_none n]; rfl
/-- As many as there are steps, if each goes through another section of the layout's. -/
theorem cnt_steps {N : Nat} : ∀ (r : List (Int × Int × Int)), (∀ (k : Nat) (s : Int × Int × Int), r[k]? = some s → (0 ≤ s.1 ∧ s.1 < (N : Int)) ∧ ∀ (i : Nat) (t : Int × Int × Int), i < k → r[i]? = some t → t.1 ≠ s.1) → cntP (fun j => r.any (fun x => x.1 == (j : Int))) N = r.length
  | [], _ => by show cntP (fun _ => false) N = 0; exact cnt_none N
  | x :: r, h => by
    have h0 := (h 0 x rfl).1
    obtain ⟨a, ha⟩ : ∃ a : Nat, x.1 = a := ⟨x.1.toNat, by omega⟩
    have hn : r.any (fun y => y.1 == (a : Int)) = false := by
      rw [List.any_eq_false]
      intro y hy e
      obtain ⟨k, hk, rfl⟩ := List.getElem_of_mem hy
      have := (h (k + 1) r[k] (by simp [hk])).2 0 x (by omega) rfl
      apply this
      rw [ha]
      exact (beq_iff_eq.1 e).symm
    rw [cnt_congr (q := fun j => r.any (fun y => y.1 == (j : Int)) || decide (j = a)) N (fun j _ => ?_), cnt_one (p := fun j => r.any (fun y => y.1 == (j : Int))) hn, if_pos (by omega), cnt_steps r (fun k s hk => ?_)]
    · rfl
    · have hk' := h (k + 1) s hk
      exact ⟨hk'.1, fun i t hi ht => hk'.2 (i + 1) t (by omega) ht⟩
    · rw [List.any_cons, Bool.or_comm]
      congr 1
      rw [ha, Bool.eq_iff_iff]
      simp
      omega
/-- What is told of an overlap of a layout that hangs together. -/
theorem over_goes {l : Lay} (h : rightT l = true) {e : Exm} (he : e ∈ l.exits) : goesL l (beyondV l e.s e.q) e.over = true ∧ cntP (fun j => (maskN e.over).testBit j) l.secs.length = e.over.length := by
  have HG := hangs_iff.1 h
  have hov := HG.overs e he
  have hst : ∀ s ∈ e.over, stepV l s.1 s.2.1 s.2.2 = true := fun s hs => (rightL_iff.1 HG.right).2.2.2.2.1 s (List.mem_flatMap.2 ⟨e, he, hs⟩)
  have hs0 : ∀ s ∈ e.over, 0 ≤ s.1 ∧ s.1 < (l.secs.length : Int) := fun s hs => by
    obtain ⟨j, y, e1, hy, _⟩ := step_some (hst s hs)
    have := (List.getElem?_eq_some_iff.1 hy).1
    omega
  have hp := over_path HG.joined e.over (e.s, e.q) [e.s] (fun s hs => (hs0 s hs).1) hov
  have hl24 := (own_lens HG.right).1
  refine ⟨goes_way e.over (e.s, e.q) (fun k s hk => ⟨hst s (List.mem_of_getElem? hk), (hp k s hk).1.1⟩), ?_⟩
  rw [cnt_congr (q := fun j => e.over.any (fun x => x.1 == (j : Int))) _ (fun j hj => maskN_test (by omega))]
  exact cnt_steps e.over (fun k s hk => ⟨hs0 s (List.mem_of_getElem? hk), (hp k s hk).2.2⟩)
theorem cnt_le (p : Nat → Bool) : ∀ n, cntP p n ≤ n
  | 0 => Nat.le_refl _
  | n + 1 => by have := cnt_le p n; show cntP p n + _ ≤ n + 1; split <;> omega
end Go.Proofs.Ytljpiafopbfdlaa
namespace Go.Proofs.Ytljpiafopbfdlaa
open Go.RowKit Go.Shelf
set_option linter.unusedVariables false
set_option linter.unusedSimpArgs false

/-- Each step is there, each but the first one enters by what lies beyond the one ahead. -/
def goesS (l : Lay) : List (Int × Int × Int) → Bool
  | [] => true
  | x :: r => goesL l (x.1, x.2.1) (x :: r)
theorem goesS_cons {l : Lay} {x : Int × Int × Int} {r : List (Int × Int × Int)} : goesS l (x :: r) = (stepV l x.1 x.2.1 x.2.2 && goesL l (nextV l x.1 x.2.1 x.2.2) r) := by
  show (stepV l x.1 x.2.1 x.2.2 && (decide ((x.1, x.2.1) = (x.1, x.2.1)) && goesL l (nextV l x.1 x.2.1 x.2.2) r)) = _
  rw [decide_eq_true rfl, Bool.true_and]
theorem goesL_S {l : Lay} : ∀ (ss : List (Int × Int × Int)) (p : Int × Int), goesL l p ss = true → goesS l ss = true
  | [], _, _ => rfl
  | x :: r, p, h => by
    have h' : (stepV l x.1 x.2.1 x.2.2 && (decide (p = (x.1, x.2.1)) && goesL l (nextV l x.1 x.2.1 x.2.2) r)) = true := h
    simp only [Bool.and_eq_true, decide_eq_true_eq] at h'
    rw [goesS_cons, h'.1, h'.2.2]
    rfl
theorem goesS_take {l : Lay} {ss : List (Int × Int × Int)} (h : goesS l ss = true) (n : Nat) : goesS l (ss.take n) = true := by
  cases ss with
  | nil => simp [goesS]
  | cons x r =>
    have h' : goesL l (x.1, x.2.1) (x :: r) = true := h
    rw [← List.take_append_drop n (x :: r), goes_append, Bool.and_eq_true] at h'
    exact goesL_S _ _ h'.1
theorem goesS_drop {l : Lay} {ss : List (Int × Int × Int)} (h : goesS l ss = true) (n : Nat) : goesS l (ss.drop n) = true := by
  cases ss with
  | nil => simp [goesS]
  | cons x r =>
    have h' : goesL l (x.1, x.2.1) (x :: r) = true := h
    rw [← List.take_append_drop n (x :: r), goes_append, Bool.and_eq_true] at h'
    exact goesL_S _ _ h'.2
theorem goesS_back {l : Lay} (hr : rightT l = true) {ss : List (Int × Int × Int)} (h : goesS l ss = true) : goesS l (ss.reverse.map turn) = true := by
  cases ss with
  | nil => rfl
  | cons x r =>
    obtain ⟨z, _, hg, _⟩ := goes_back hr r (x.1, x.2.1) x h
    exact goesL_S _ _ hg
/-- One step more. -/
theorem goesS_snoc {l : Lay} (ss : List (Int × Int × Int)) (s : Int × Int × Int) : goesS l (ss ++ [s]) = (goesS l ss && (stepV l s.1 s.2.1 s.2.2 && (match ss.getLast? with | none => true | some z => decide (nextV l z.1 z.2.1 z.2.2 = (s.1, s.2.1))))) := by
  cases ss with
  | nil =>
    show goesS l [s] = _
    rw [goesS_cons]
    simp [goesS, goesL]
  | cons x r =>
    show goesL l (x.1, x.2.1) ((x :: r) ++ [s]) = (goesL l (x.1, x.2.1) (x :: r) && _)
    rw [goes_append]
    obtain ⟨a, z, e⟩ : ∃ a z, x :: r = a ++ [z] := ⟨(x :: r).dropLast, (x :: r).getLast (by simp), (List.dropLast_concat_getLast (by simp)).symm⟩
    rw [e, end_append, List.getLast?_concat]
    show _ = (_ && (stepV l s.1 s.2.1 s.2.2 && decide (nextV l z.1 z.2.1 z.2.2 = (s.1, s.2.1))))
    congr 1
    show (stepV l s.1 s.2.1 s.2.2 && (decide (nextV l z.1 z.2.1 z.2.2 = (s.1, s.2.1)) && true)) = _
    rw [Bool.and_true]

/-- Are the vias gone through, in this order, each by a step of its own? -/
def throughV : List Int → List Int → Bool
  | _, [] => true
  | [], _ :: _ => false
  | s :: r, v :: vs => if s = v then throughV r vs else throughV r (v :: vs)
theorem through_nil (r : List Int) : throughV r [] = true := by cases r <;> rfl
theorem through_cons (s : Int) (r : List Int) (v : Int) (vs : List Int) : throughV (s :: r) (v :: vs) = if s = v then throughV r vs else throughV r (v :: vs) := rfl
/-- With a step more ahead; with the first via left out. -/
theorem through_both : ∀ (r : List Int), (∀ (vs : List Int) (s : Int), throughV r vs = true → throughV (s :: r) vs = true) ∧ ∀ (v : Int) (vs : List Int), throughV r (v :: vs) = true → throughV r vs = true
  | [] => by
    refine ⟨fun vs s h => ?_, fun v vs h => by cases h⟩
    cases vs with
    | nil => rfl
    | cons v vs => cases h
  | x :: r => by
    obtain ⟨h1, h2⟩ := through_both r
    have h3 : ∀ (v : Int) (vs : List Int), throughV (x :: r) (v :: vs) = true → throughV (x :: r) vs = true := fun v vs h => by
      rw [through_cons] at h
      split at h
      · exact h1 vs x h
      · exact h1 vs x (h2 v vs h)
    refine ⟨fun vs s h => ?_, h3⟩
    cases vs with
    | nil => rfl
    | cons v vs =>
      rw [through_cons]
      split
      · exact h3 v vs h
      · exact h
/-- Vias are left out. -/
theorem through_sub {us vs : List Int} (hs : us.Sublist vs) : ∀ (r : List Int), throughV r vs = true → throughV r us = true := by
  induction hs with
  | slnil => exact fun r h => h
  | cons v _ ih => exact fun r h => ih r ((through_both r).2 v _ h)
  | cons_cons u hs' ih =>
    intro r
    induction r with
    | nil => intro h; cases h
    | cons x r ihr =>
      intro h
      rw [through_cons] at h ⊢
      split
      · rename_i hx
        rw [if_pos hx] at h
        exact ih r h
      · rename_i hx
        rw [if_neg hx] at h
        exact ihr h
/-- A longer path. -/
theorem through_append : ∀ (r t vs : List Int), throughV r vs = true → throughV (r ++ t) vs = true
  | r, t, [], _ => through_nil _
  | [], t, v :: vs, h => by cases h
  | x :: r, t, v :: vs, h => by
    have h' : (if x = v then throughV r vs else throughV r (v :: vs)) = true := h
    show (if x = v then throughV (r ++ t) vs else throughV (r ++ t) (v :: vs)) = true
    split
    · rename_i hx
      rw [if_pos hx] at h'
      exact through_append r t vs h'
    · rename_i hx
      rw [if_neg hx] at h'
      exact through_append r t (v :: vs) h'
theorem through_snoc : ∀ (r vs : List Int) (s : Int), throughV (r ++ [s]) (vs ++ [s]) = throughV r vs
  | [], [], s => by show (if s = s then throughV [] [] else _) = true; rw [if_pos rfl]; rfl
  | [], v :: vs, s => by
    show (if s = v then throughV [] (vs ++ [s]) else throughV [] (v :: (vs ++ [s]))) = false
    split
    · cases vs <;> rfl
    · rfl
  | x :: r, [], s => by
    show (if x = s then throughV (r ++ [s]) [] else throughV (r ++ [s]) ([] ++ [s])) = true
    split
    · exact through_nil _
    · rw [through_snoc r [] s]; exact through_nil _
  | x :: r, v :: vs, s => by
    show (if x = v then throughV (r ++ [s]) (vs ++ [s]) else throughV (r ++ [s]) (v :: vs ++ [s])) = (if x = v then throughV r vs else throughV r (v :: vs))
    rw [through_snoc r vs s, through_snoc r (v :: vs) s]

/-- Two ways from one port: that is a point's toe. -/
theorem two_ways {k i a b : Int} (ha : goesK k i a = true) (hb : goesK k i b = true) (hab : a ≠ b) : k = 2 ∧ i = 0 := by
  have hs := shapeK k
  unfold goesK goesV joinV at ha hb
  simp only [Bool.or_eq_true, Bool.and_eq_true, decide_eq_true_eq, beq_iff_eq] at ha hb
  rcases hs with ⟨e, h1, h2, h3, h4, h5, h6⟩ | ⟨e, h1, h2, h3, h4, h5, h6⟩ | ⟨e, h1, h2, h3, h4, h5, h6⟩ | ⟨e, h1, h2, h3, h4, h5, h6⟩ <;> rw [h2, h4, h5, h6] at ha hb <;> omega
end Go.Proofs.Ytljpiafopbfdlaa
