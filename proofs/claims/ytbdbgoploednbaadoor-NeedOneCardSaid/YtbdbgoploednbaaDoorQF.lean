/- Paths in numbers: which steps go, which vias are gone through, what a Route path is; what follows (pure; made ahead of stage 11). Paths in numbers: as they lie; which one is a Route path; sections that come again (pure). A path that came in: its numbers, where its steps lie, their room. -/
import Derived.Test.YtbdbgoploednbaaDoorQBeGoP
import Derived.Test.YtbdbgoploednbaaDoorQC
import Derived.Test.YtbdbgoploednbaaDoorQLayRowC
namespace Go.Proofs.YtbdbgoploednbaaDoor
open Go.RowKit Go.Shelf
set_option linter.unusedVariables false
set_option linter.unusedSimpArgs false

/-- Each step is there, each but the first one enters by what lies beyond the one ahead. -/
def goesS (l : Lay) : List (Int × Int × Int) → Bool
  | [] => true
  | x :: r => goesL l (x.1, x.2.1) (x :: r)
theorem goesS_cons {l : Lay} {x : Int × Int × Int} {r : List (Int × Int × Int)} : goesS l (x :: r) = (stepV l x.1 x.2.1 x.2.2 && goesL l (nextV l x.1 x.2.1 x.2.2) r) := by
  show (stepV l x.1 x.2.1 x.2.2 && (decide ((x.1, x.2.1) = (x.1, x.2.1)) && goesL l (nextV l x.1 x.2.1 x.2.2) r)) = _
  rw [decide_eq_true rfl, Bool.true_and]
theorem goesL_S {l : Lay} : ∀ (ss : List (Int × Int × Int)) (p : Int × Int), goesL l p ss = true → goesS l ss = true
  | [], _, _ => rfl
  | x :: r, p, h => by
    have h' : (stepV l x.1 x.2.1 x.2.2 && (decide (p = (x.1, x.2.1)) && goesL l (nextV l x.1 x.2.1 x.2.2) r)) = true := h
    simp only [Bool.and_eq_true, decide_eq_true_eq] at h'
    rw [goesS_cons, h'.1, h'.2.2]
    rfl
theorem goesS_take {l : Lay} {ss : List (Int × Int × Int)} (h : goesS l ss = true) (n : Nat) : goesS l (ss.take n) = true := by
  cases ss with
  | nil => simp [goesS]
  | cons x r =>
    have h' : goesL l (x.1, x.2.1) (x :: r) = true := h
    rw [← List.take_append_drop n (x :: r), goes_append, Bool.and_eq_true] at h'
    exact goesL_S _ _ h'.1
theorem goesS_drop {l : Lay} {ss : List (Int × Int × Int)} (h : goesS l ss = true) (n : Nat) : goesS l (ss.drop n) = true := by
  cases ss with
  | nil => simp [goesS]
  | cons x r =>
    have h' : goesL l (x.1, x.2.1) (x :: r) = true := h
    rw [← List.take_append_drop n (x :: r), goes_append, Bool.and_eq_true] at h'
    exact goesL_S _ _ h'.2
theorem goesS_back {l : Lay} (hr : rightT l = true) {ss : List (Int × Int × Int)} (h : goesS l ss = true) : goesS l (ss.reverse.map turn) = true := by
  cases ss with
  | nil => rfl
  | cons x r =>
    obtain ⟨z, _, hg, _⟩ := goes_back hr r (x.1, x.2.1) x h
    exact goesL_S _ _ hg
/-- One step more. -/
theorem goesS_snoc {l : Lay} (ss : List (Int × Int × Int)) (s : Int × Int × Int) : goesS l (ss ++ [s]) = (goesS l ss && (stepV l s.1 s.2.1 s.2.2 && (match ss.getLast? with | none => true | some z => decide (nextV l z.1 z.2.1 z.2.2 = (s.1, s.2.1))))) := by
  cases ss with
  | nil =>
    show goesS l [s] = _
    rw [goesS_cons]
    simp [goesS, goesL]
  | cons x r =>
    show goesL l (x.1, x.2.1) ((x :: r) ++ [s]) = (goesL l (x.1, x.2.1) (x :: r) && _)
    rw [goes_append]
    obtain ⟨a, z, e⟩ : ∃ a z, x :: r = a ++ [z] := ⟨(x :: r).dropLast, (x :: r).getLast (by simp), (List.dropLast_concat_getLast (by simp)).symm⟩
    rw [e, end_append, List.getLast?_concat]
    show _ = (_ && (stepV l s.1 s.2.1 s.2.2 && decide (nextV l z.1 z.2.1 z.2.2 = (s.1, s.2.1))))
    congr 1
    show (stepV l s.1 s.2.1 s.2.2 && (decide (nextV l z.1 z.2.1 z.2.2 = (s.1, s.2.1)) && true)) = _
    rw [Bool.and_true]

/-- Are the vias gone through, in this order, each by a step of its own? -/
def throughV : List Int → List Int → Bool
  | _, [] => true
  | [], _ :: _ => false
  | s :: r, v :: vs => if s = v then throughV r vs else throughV r (v :: vs)
theorem through_nil (r : List Int) : throughV r [] = true := by cases r <;> rfl
theorem through_cons (s : Int) (r : List Int) (v : Int) (vs : List Int) : throughV (s :: r) (v :: vs) = if s = v then throughV r vs else throughV r (v :: vs) := rfl
/-- With a step more ahead; with the first via left out. -/
theorem through_both : ∀ (r : List Int), (∀ (vs : List Int) (s : Int), throughV r vs = true → throughV (s :: r) vs = true) ∧ ∀ (v : Int) (vs : List Int), throughV r (v :: vs) = true → throughV r vs = true
  | [] => by
    refine ⟨fun vs s h => ?_, fun v vs h => by cases h⟩
    cases vs with
    | nil => rfl
    | cons v vs => cases h
  | x :: r => by
    obtain ⟨h1, h2⟩ := through_both r
    have h3 : ∀ (v : Int) (vs : List Int), throughV (x :: r) (v :: vs) = true → throughV (x :: r) vs = true := fun v vs h => by
      rw [through_cons] at h
      split at h
      · exact h1 vs x h
      · exact h1 vs x (h2 v vs h)
    refine ⟨fun vs s h => ?_, h3⟩
    cases vs with
    | nil => rfl
    | cons v vs =>
      rw [through_cons]
      split
      · exact h3 v vs h
      · exact h
/-- Vias are left out. -/
theorem through_sub {us vs : List Int} (hs : us.Sublist vs) : ∀ (r : List Int), throughV r vs = true → throughV r us = true := by
  induction hs with
  | slnil => exact fun r h => h
  | cons v _ ih => exact fun r h => ih r ((through_both r).2 v _ h)
  | cons_cons u hs' ih =>
    intro r
    induction r with
    | nil => intro h; cases h
    | cons x r ihr =>
      intro h
      rw [through_cons] at h ⊢
      split
      · rename_i hx
        rw [if_pos hx] at h
        exact ih r h
      · rename_i hx
        rw [if_neg hx] at h
        exact ihr h
/-- A longer path. -/
theorem through_append : ∀ (r t vs : List Int), throughV r vs = true → throughV (r ++ t) vs = true
  | r, t, [], _ => through_nil _
  | [], t, v :: vs, h => by cases h
  | x :: r, t, v :: vs, h => by
    have h' : (if x = v then throughV r vs else throughV r (v :: vs)) = true := h
    show (if x = v then throughV (r ++ t) vs else throughV (r ++ t) (v :: vs)) = true
    split
    · rename_i hx
      rw [if_pos hx] at h'
      exact through_append r t vs h'
    · rename_i hx
      rw [if_neg hx] at h'
      exact through_append r t (v :: vs) h'
theorem through_snoc : ∀ (r vs : List Int) (s : Int), throughV (r ++ [s]) (vs ++ [s]) = throughV r vs
  | [], [], s => by show (if s = s then throughV [] [] else _) = true; rw [if_pos rfl]; rfl
  | [], v :: vs, s => by
    show (if s = v then throughV [] (vs ++ [s]) else throughV [] (v :: (vs ++ [s]))) = false
    split
    · cases vs <;> rfl
    · rfl
  | x :: r, [], s => by
    show (if x = s then throughV (r ++ [s]) [] else throughV (r ++ [s]) ([] ++ [s])) = true
    split
    · exact through_nil _
    · rw [through_snoc r [] s]; exact through_nil _
  | x :: r, v :: vs, s => by
    show (if x = v then throughV (r ++ [s]) (vs ++ [s]) else throughV (r ++ [s]) (v :: vs ++ [s])) = (if x = v then throughV r vs else throughV r (v :: vs))
    rw [through_snoc r vs s, through_snoc r (v :: vs) s]

/-- Two ways from one port: that is a point's toe. -/
theorem two_ways {k i a b : Int} (ha : goesK k i a = true) (hb : goesK k i b = true) (hab : a ≠ b) : k = 2 ∧ i = 0 := by
  have hs := shapeK k
  unfold goesK goesV joinV at ha hb
  simp only [Bool.or_eq_true, Bool.and_eq_true, decide_eq_true_eq, beq_iff_eq] at ha hb
  rcases hs with ⟨e, h1, h2, h3, h4, h5, h6⟩ | ⟨e, h1, h2, h3, h4, h5, h6⟩ | ⟨e, h1, h2, h3, h4, h5, h6⟩ | ⟨e, h1, h2, h3, h4, h5, h6⟩ <;> rw [h2, h4, h5, h6] at ha hb <;> omega
end Go.Proofs.YtbdbgoploednbaaDoor
namespace Go.Proofs.YtbdbgoploednbaaDoor
open Go.RowKit Go.Shelf
set_option linter.unusedVariables false
set_option linter.unusedSimpArgs false

/-- A path: its signal, its exit, its steps (where they lie, their room). -/
structure Pth where
  s : Int
  x : Int
  A : Option Addr
  c : Nat
  ss : List (Int × Int × Int)
abbrev Pth.cells (p : Pth) : List Value := [.int .i64 p.s, .int .i64 p.x, .slice p.A p.ss.length p.c]
abbrev Pth.val (p : Pth) : Value := .agg #[.int .i64 p.s, .int .i64 p.x, .slice p.A p.ss.length p.c]
structure PLies (p : Pth) (w : World) : Prop where
  row : Row w w.heap.size p.A (p.ss.flatMap stpCells)
  len : (p.ss.length : Int) ≤ 9223372036854775807
theorem PLies.closed (p : Pth) : Closed (PLies p) := fun w w' h hb => ⟨h.row.on hb, h.len⟩
abbrev secsS (ss : List (Int × Int × Int)) : List Int := ss.map (fun x => x.1)

/-- Does the j-th step go through a section that one ahead of it went through? -/
def dupAt (ss : List (Int × Int × Int)) (j : Nat) : Bool := ((ss[j]?).map fun x => (ss.take j).any fun a => a.1 == x.1).getD false
def twiceB (ss : List (Int × Int × Int)) : Bool := (List.range ss.length).any (dupAt ss)
def inOver (ss os : List (Int × Int × Int)) (j : Nat) : Bool := ((ss[j]?).map fun x => os.any fun a => a.1 == x.1).getD false
def simpleB (ss os : List (Int × Int × Int)) : Bool := !((List.range ss.length).any fun k => dupAt ss k || inOver ss os k)
theorem dupAt_at {ss : List (Int × Int × Int)} {j : Nat} {x : Int × Int × Int} (h : ss[j]? = some x) : dupAt ss j = (ss.take j).any fun a => a.1 == x.1 := by unfold dupAt; rw [h]; rfl
theorem inOver_at {ss os : List (Int × Int × Int)} {j : Nat} {x : Int × Int × Int} (h : ss[j]? = some x) : inOver ss os j = os.any fun a => a.1 == x.1 := by unfold inOver; rw [h]; rfl
theorem dup_iff {ss : List (Int × Int × Int)} {j : Nat} : dupAt ss j = true ↔ ∃ (i : Nat) (x y : Int × Int × Int), i < j ∧ ss[i]? = some y ∧ ss[j]? = some x ∧ y.1 = x.1 := by
  constructor
  · intro h
    cases hx : ss[j]? with
    | none => unfold dupAt at h; rw [hx] at h; cases h
    | some x =>
      rw [dupAt_at hx, List.any_eq_true] at h
      obtain ⟨y, hy, he⟩ := h
      obtain ⟨i, hi⟩ := List.getElem?_of_mem hy
      rw [List.getElem?_take] at hi
      split at hi
      · exact ⟨i, x, y, by assumption, hi, rfl, beq_iff_eq.1 he⟩
      · cases hi
  · rintro ⟨i, x, y, hij, hi, hj, he⟩
    rw [dupAt_at hj, List.any_eq_true]
    exact ⟨y, List.mem_of_getElem? (by rw [List.getElem?_take, if_pos hij]; exact hi), beq_iff_eq.2 he⟩
theorem in_iff {ss os : List (Int × Int × Int)} {j : Nat} : inOver ss os j = true ↔ ∃ x y, ss[j]? = some x ∧ y ∈ os ∧ y.1 = x.1 := by
  constructor
  · intro h
    cases hx : ss[j]? with
    | none => unfold inOver at h; rw [hx] at h; cases h
    | some x =>
      rw [inOver_at hx, List.any_eq_true] at h
      obtain ⟨y, hy, he⟩ := h
      exact ⟨x, y, rfl, hy, beq_iff_eq.1 he⟩
  · rintro ⟨x, y, hj, hy, he⟩
    rw [inOver_at hj, List.any_eq_true]
    exact ⟨y, hy, beq_iff_eq.2 he⟩
/-- No section comes again. -/
def Once (ss : List (Int × Int × Int)) : Prop := ∀ (i j : Nat) (x y : Int × Int × Int), i < j → ss[i]? = some y → ss[j]? = some x → y.1 ≠ x.1
theorem twice_no {ss : List (Int × Int × Int)} : twiceB ss = false ↔ Once ss := by
  unfold twiceB
  rw [List.any_eq_false]
  constructor
  · intro h i j x y hij hi hj he
    exact h j (List.mem_range.2 (List.getElem?_eq_some_iff.1 hj).1) (dup_iff.2 ⟨i, x, y, hij, hi, hj, he⟩)
  · intro h j _ hd
    obtain ⟨i, x, y, hij, hi, hj, he⟩ := dup_iff.1 hd
    exact h i j x y hij hi hj he
theorem simple_iff {ss os : List (Int × Int × Int)} : simpleB ss os = true ↔ Once ss ∧ ∀ x ∈ ss, ∀ y ∈ os, y.1 ≠ x.1 := by
  unfold simpleB
  rw [Bool.not_eq_true', List.any_eq_false]
  constructor
  · intro h
    refine ⟨fun i j x y hij hi hj he => h j (List.mem_range.2 (List.getElem?_eq_some_iff.1 hj).1) (by rw [dup_iff.2 ⟨i, x, y, hij, hi, hj, he⟩, Bool.true_or]), fun x hx y hy he => ?_⟩
    obtain ⟨j, hj⟩ := List.getElem?_of_mem hx
    exact h j (List.mem_range.2 (List.getElem?_eq_some_iff.1 hj).1) (by rw [in_iff.2 ⟨x, y, hj, hy, he⟩, Bool.or_true])
  · rintro ⟨h1, h2⟩ j _ hd
    rw [Bool.or_eq_true] at hd
    rcases hd with hd | hd
    · obtain ⟨i, x, y, hij, hi, hj, he⟩ := dup_iff.1 hd
      exact h1 i j x y hij hi hj he
    · obtain ⟨x, y, hj, hy, he⟩ := in_iff.1 hd
      exact h2 x (List.mem_of_getElem? hj) y hy he
/-- An overlap goes through no section twice: so what comes again among both is the path's. -/
theorem twice_append {ss os : List (Int × Int × Int)} (ho : Once os) : twiceB (ss ++ os) = !simpleB ss os := by
  have key : twiceB (ss ++ os) = false ↔ simpleB ss os = true := by
    rw [twice_no, simple_iff]
    constructor
    · intro h
      refine ⟨fun i j x y hij hi hj => h i j x y hij (by rw [List.getElem?_append_left (List.getElem?_eq_some_iff.1 hi).1]; exact hi) (by rw [List.getElem?_append_left (List.getElem?_eq_some_iff.1 hj).1]; exact hj), fun x hx y hy he => ?_⟩
      obtain ⟨i, hi⟩ := List.getElem?_of_mem hx
      obtain ⟨j, hj⟩ := List.getElem?_of_mem hy
      have hil := (List.getElem?_eq_some_iff.1 hi).1
      exact h i (ss.length + j) y x (by omega) (by rw [List.getElem?_append_left hil]; exact hi) (by rw [List.getElem?_append_right (by omega), Nat.add_sub_cancel_left]; exact hj) he.symm
    · rintro ⟨h1, h2⟩ i j x y hij hi hj he
      by_cases hjl : j < ss.length
      · rw [List.getElem?_append_left (by omega)] at hi
        rw [List.getElem?_append_left hjl] at hj
        exact h1 i j x y hij hi hj he
      · rw [List.getElem?_append_right (by omega)] at hj
        by_cases hil : i < ss.length
        · rw [List.getElem?_append_left hil] at hi
          exact h2 y (List.mem_of_getElem? hi) x (List.mem_of_getElem? hj) he.symm
        · rw [List.getElem?_append_right (by omega)] at hi
          exact ho (i - ss.length) (j - ss.length) x y (by omega) hi hj he
  cases h : simpleB ss os with
  | true => exact key.2 h
  | false =>
    cases h2 : twiceB (ss ++ os) with
    | true => rfl
    | false => rw [key.1 h2] at h; cases h

/-- Does a signal stand where a step enters? Does a path begin at its signal, end at its exit? -/
def sigAt (l : Lay) (x : Int × Int × Int) : Bool := decide (0 ≤ signalV l x.1 x.2.1)
def passV (l : Lay) (ss : List (Int × Int × Int)) : Bool := (ss.drop 1).any (sigAt l)
def beginV (l : Lay) (p : Pth) : Bool := match p.ss.head?, l.sigs[p.s.toNat]? with
  | some x, some y => x.1 == y.1 && x.2.1 == y.2
  | _, _ => false
def endV (l : Lay) (p : Pth) : Bool := match p.ss.getLast?, l.exits[p.x.toNat]? with
  | some x, some y => x.1 == y.s && x.2.2 == y.q
  | _, _ => false
def sizeP (ss : List (Int × Int × Int)) : Bool := decide (1 ≤ ss.length) && decide (ss.length ≤ 12)
def isPathV (l : Lay) (p : Pth) : Bool := sizeP p.ss && (goesS l p.ss && (beginV l p && (endV l p && (simpleB p.ss (overL10 l p.x) && !passV l p.ss))))
def knownV (l : Lay) (p : Pth) : Bool := (decide (0 ≤ p.s) && decide (p.s < l.sigs.length)) && (decide (0 ≤ p.x) && decide (p.x < l.exits.length))
def noVia (l : Lay) (v : Int) : Bool := !(decide (0 ≤ v) && decide (v < l.secs.length))
def viasV (l : Lay) (vs : List Int) : Bool := decide (vs.length ≤ 2) && !(vs.any (noVia l))
def check11 (l : Lay) (p : Pth) (vs : List Int) : Int := if (rightT l && (knownV l p && viasV l vs)) = true then (if (isPathV l p && throughV (secsS p.ss) vs) = true then 0 else 110) else 2
theorem check11_ok {l : Lay} {p : Pth} {vs : List Int} : check11 l p vs = 0 ↔ (rightT l = true ∧ knownV l p = true ∧ viasV l vs = true) ∧ isPathV l p = true ∧ throughV (secsS p.ss) vs = true := by
  unfold check11
  constructor
  · intro h
    split at h
    · rename_i h1
      split at h
      · rename_i h2
        simp only [Bool.and_eq_true] at h1 h2
        exact ⟨h1, h2⟩
      · cases h
    · cases h
  · rintro ⟨⟨h1, h2, h3⟩, h4, h5⟩
    rw [h1, h2, h3, h4, h5]
    rfl
def sameP (p q : Pth) : Bool := p.s == q.s && (p.x == q.x && decide (p.ss = q.ss))
/-- Each step but the first one, with the one ahead of it. -/
def neighL (ss : List (Int × Int × Int)) : List ((Int × Int × Int) × (Int × Int × Int)) := ss.zip (ss.drop 1)
theorem neigh_at {ss : List (Int × Int × Int)} {j : Nat} {a b : Int × Int × Int} (ha : ss[j]? = some a) (hb : ss[j + 1]? = some b) : (neighL ss)[j]? = some (a, b) := by
  unfold neighL
  rw [List.getElem?_zip_eq_some]
  exact ⟨ha, by rw [List.getElem?_drop, Nat.add_comm]; exact hb⟩
theorem neigh_len (ss : List (Int × Int × Int)) : (neighL ss).length = ss.length - 1 := by unfold neighL; rw [List.length_zip, List.length_drop]; omega
/-- Do two steps side by side hang together? -/
def hangS (l : Lay) (x : (Int × Int × Int) × (Int × Int × Int)) : Bool := decide (beyondV l x.1.1 x.1.2.2 = (x.2.1, x.2.2.1))
theorem goesS_parts (l : Lay) : ∀ ss : List (Int × Int × Int), goesS l ss = (ss.all (fun x => stepV l x.1 x.2.1 x.2.2) && (neighL ss).all (hangS l))
  | [] => rfl
  | [x] => by rw [goesS_cons]; simp [goesL, neighL]
  | x :: y :: r => by
    have ih := goesS_parts l (y :: r)
    rw [goesS_cons] at ih ⊢
    show (stepV l x.1 x.2.1 x.2.2 && (stepV l y.1 y.2.1 y.2.2 && (decide (nextV l x.1 x.2.1 x.2.2 = (y.1, y.2.1)) && goesL l (nextV l y.1 y.2.1 y.2.2) r))) = ((stepV l x.1 x.2.1 x.2.2 && (y :: r).all fun x => stepV l x.1 x.2.1 x.2.2) && (hangS l (x, y) && (neighL (y :: r)).all (hangS l)))
    cases hx : stepV l x.1 x.2.1 x.2.2
    · rfl
    · have hn : nextV l x.1 x.2.1 x.2.2 = beyondV l x.1 x.2.2 := by unfold nextV; rw [hx]; rfl
      have hh : hangS l (x, y) = decide (beyondV l x.1 x.2.2 = (y.1, y.2.1)) := rfl
      rw [hn, hh]
      generalize decide (beyondV l x.1 x.2.2 = (y.1, y.2.1)) = d
      cases d
      · simp
      · simp only [Bool.true_and]
        exact ih
end Go.Proofs.YtbdbgoploednbaaDoor
namespace Go.Proofs.YtbdbgoploednbaaDoor
open Go.ChangeShapes Go.WideShapes Go.ChangeAt Go.RowKit Go.Deep
open Go.Joins Go.Shelf
set_option linter.unusedVariables false
set_option maxRecDepth 100000
section
variable {H : Type} {enc : TypeId × Value → H} {w : World} {base : Nat} {spare : Nat → Bool} {held : Bool}
theorem path_openC {r : Reach} {b0 : Nat} {v : Value} {d : DataW H} {p : List MemPlace} (hv : Value.okWide Tryd.prog w r b0 32 v) (h : DataW.Trod enc Tryd.prog w base spare held 32 v d p) : ∃ t : Pth, v = t.val ∧ PLies t w ∧ t.ss.length ≤ t.c := by
  obtain ⟨ca, rfl, _⟩ := okWide_struct Tryd.underlying32 hv
  obtain ⟨fuel, hf⟩ := h
  obtain ⟨xs, m, _, hx, hlen, hxs, hf⟩ := DataW.trod_struct Tryd.underlying32 hf
  have hcl : Tryd.prog.cellsOf 32 = 3 := by kernel_rfl
  rw [hcl] at hlen
  obtain ⟨f0, g0, t0, o0⟩ := field_of (P := Tryd.prog) (t := 32) (i := 0) (ty := 3) (off := 0) (by kernel_rfl)
  obtain ⟨f1, g1, t1, o1⟩ := field_of (P := Tryd.prog) (t := 32) (i := 1) (ty := 3) (off := 1) (by kernel_rfl)
  obtain ⟨f2, g2, t2, o2⟩ := field_of (P := Tryd.prog) (t := 32) (i := 2) (ty := 30) (off := 2) (by kernel_rfl)
  have hsz : xs.length = 3 := by rw [hxs]; kernel_rfl
  have hcc : (Value.agg ca).cells.toList = ca.toList := rfl
  rw [hcc] at hlen hf
  obtain ⟨cs, hcs⟩ : ∃ cs, ca.toList = cs := ⟨_, rfl⟩
  obtain rfl : ca = cs.toArray := by rw [← hcs]
  rw [hcs] at hlen hf
  match cs, hlen, xs, hsz with
  | [a0, a1, a2], _, [y0, y1, y2], _ =>
    have h0 := hf 0 f0 g0
    have h1 := hf 1 f1 g1
    have h2 := hf 2 f2 g2
    rw [t0, o0, show Tryd.prog.cellsOf 3 = 1 by kernel_rfl] at h0
    rw [t1, o1, show Tryd.prog.cellsOf 3 = 1 by kernel_rfl] at h1
    rw [t2, o2, show Tryd.prog.cellsOf 30 = 1 by kernel_rfl] at h2
    obtain ⟨A, cap, ss, rfl, hr, _, hn, hc⟩ := row_openC (f := stpCells) (G := fun _ => True) (c := 3) (fun _ => rfl) (by omega) Tryd.underlying30 (by kernel_rfl) (fun n cs x h => stp_el h) (v := a2) (y := y2) h2
    have h0 := plain_el 8 (ls := [.num .i64]) (by kernel_rfl) (x := y0) h0
    have h1 := plain_el 8 (ls := [.num .i64]) (by kernel_rfl) (x := y1) h1
    obtain ⟨u0, c0, e0, _, h0⟩ := fits_num h0
    obtain ⟨u1, c1, e1, _, h1⟩ := fits_num h1
    obtain rfl := fits_nil h0
    obtain rfl := fits_nil h1
    simp at e0 e1
    obtain rfl := e0
    obtain rfl := e1
    exact ⟨⟨u0, u1, A, cap, ss⟩, rfl, ⟨hr, hn⟩, hc⟩
end
end Go.Proofs.YtbdbgoploednbaaDoor
