/- Paths in numbers: as they lie; which one is a Route path; sections that come again (pure). What a path needs, in numbers; what clashes; where points are wanted (pure; made ahead of stage 13). What the document says of a few (wakes), of layer 5. What the walks of layer 5's laws share. The document's own answer for layer 5: positions, outs. The document's own layer 10: there, Point, Class, Next, Rear. -/
import Derived.Test.YtljpiafopbfdlaaQAk
import Derived.Test.YtljpiafopbfdlaaQAd
import Derived.Test.YtljpiafopbfdlaaQAe
import Derived.Test.YtljpiafopbfdlaaQAa
import Derived.Test.YtljpiafopbfdlaaQAb
namespace Go.Proofs.Ytljpiafopbfdlaa
open Go.RowKit Go.Shelf
set_option linter.unusedVariables false
set_option linter.unusedSimpArgs false

/-- A path: its signal, its exit, its steps (where they lie, their room). -/
structure Pth where
  s : Int
  x : Int
  A : Option Addr
  c : Nat
  ss : List (Int × Int × Int)
abbrev Pth.cells (p : Pth) : List Value := [.int .i64 p.s, .int .i64 p.x, .slice p.A p.ss.length p.c]
abbrev Pth.val (p : Pth) : Value := .agg #[.int .i64 p.s, .int .i64 p.x, .slice p.A p.ss.length p.c]
structure PLies (p : Pth) (w : World) : Prop where
  row : Row w w.heap.size p.A (p.ss.flatMap stpCells)
  len : (p.ss.length : Int) ≤ 9223372036854775807
theorem PLies.closed (p : Pth) : Closed (PLies p) := fun w w' h hb => ⟨h.row.on hb, h.len⟩
abbrev secsS (ss : List (Int × Int × Int)) : List Int := ss.map (fun x => x.1)

/-- Does the j-th step go through a section that one ahead of it went through? -/
def dupAt (ss : List (Int × Int × Int)) (j : Nat) : Bool := ((ss[j]?).map fun x => (ss.take j).any fun a => a.1 == x.1).getD false
def twiceB (ss : List (Int × Int × Int)) : Bool := (List.range ss.length).any (dupAt ss)
def inOver (ss os : List (Int × Int × Int)) (j : Nat) : Bool := ((ss[j]?).map fun x => os.any fun a => a.1 == x.1).getD false
def simpleB (ss os : List (Int × Int × Int)) : Bool := !((List.range ss.length).any fun k => dupAt ss k || inOver ss os k)
theorem dupAt_at {ss : List (Int × Int × Int)} {j : Nat} {x : Int × Int × Int} (h : ss[j]? = some x) : dupAt ss j = (ss.take j).any fun a => a.1 == x.1 := by unfold dupAt; rw [h]; rfl
theorem inOver_at {ss os : List (Int × Int × Int)} {j : Nat} {x : Int × Int × Int} (h : ss[j]? = some x) : inOver ss os j = os.any fun a => a.1 == x.1 := by unfold inOver; rw [h]; rfl
theorem dup_iff {ss : List (Int × Int × Int)} {j : Nat} : dupAt ss j = true ↔ ∃ (i : Nat) (x y : Int × Int × Int), i < j ∧ ss[i]? = some y ∧ ss[j]? = some x ∧ y.1 = x.1 := by
  constructor
  · intro h
    cases hx : ss[j]? with
    | none => unfold dupAt at h; rw [hx] at h; cases h
    | some x =>
      rw [dupAt_at hx, List.any_eq_true] at h
      obtain ⟨y, hy, he⟩ := h
      obtain ⟨i, hi⟩ := List.getElem?_of_mem hy
      rw [List.getElem?_take] at hi
      split at hi
      · exact ⟨i, x, y, by assumption, hi, rfl, beq_iff_eq.1 he⟩
      · cases hi
  · rintro ⟨i, x, y, hij, hi, hj, he⟩
    rw [dupAt_at hj, List.any_eq_true]
    exact ⟨y, List.mem_of_getElem? (by rw [List.getElem?_take, if_pos hij]; exact hi), beq_iff_eq.2 he⟩
theorem in_iff {ss os : List (Int × Int × Int)} {j : Nat} : inOver ss os j = true ↔ ∃ x y, ss[j]? = some x ∧ y ∈ os ∧ y.1 = x.1 := by
  constructor
  · intro h
    cases hx : ss[j]? with
    | none => unfold inOver at h; rw [hx] at h; cases h
    | some x =>
      rw [inOver_at hx, List.any_eq_true] at h
      obtain ⟨y, hy, he⟩ := h
      exact ⟨x, y, rfl, hy, beq_iff_eq.1 he⟩
  · rintro ⟨x, y, hj, hy, he⟩
    rw [inOver_at hj, List.any_eq_true]
    exact ⟨y, hy, beq_iff_eq.2 he⟩
/-- No section comes again. -/
def Once (ss : List (Int × Int × Int)) : Prop := ∀ (i j : Nat) (x y : Int × Int × Int), i < j → ss[i]? = some y → ss[j]? = some x → y.1 ≠ x.1
theorem twice_no {ss : List (Int × Int × Int)} : twiceB ss = false ↔ Once ss := by
  unfold twiceB
  rw [List.any_eq_false]
  constructor
  · intro h i j x y hij hi hj he
    exact h j (List.mem_range.2 (List.getElem?_eq_some_iff.1 hj).1) (dup_iff.2 ⟨i, x, y, hij, hi, hj, he⟩)
  · intro h j _ hd
    obtain ⟨i, x, y, hij, hi, hj, he⟩ := dup_iff.1 hd
    exact h i j x y hij hi hj he
theorem simple_iff {ss os : List (Int × Int × Int)} : simpleB ss os = true ↔ Once ss ∧ ∀ x ∈ ss, ∀ y ∈ os, y.1 ≠ x.1 := by
  unfold simpleB
  rw [Bool.not_eq_true', List.any_eq_false]
  constructor
  · intro h
    refine ⟨fun i j x y hij hi hj he => h j (List.mem_range.2 (List.getElem?_eq_some_iff.1 hj).1) (by rw [dup_iff.2 ⟨i, x, y, hij, hi, hj, he⟩, Bool.true_or]), fun x hx y hy he => ?_⟩
    obtain ⟨j, hj⟩ := List.getElem?_of_mem hx
    exact h j (List.mem_range.2 (List.getElem?_eq_some_iff.1 hj).1) (by rw [in_iff.2 ⟨x, y, hj, hy, he⟩, Bool.or_true])
  · rintro ⟨h1, h2⟩ j _ hd
    rw [Bool.or_eq_true] at hd
    rcases hd with hd | hd
    · obtain ⟨i, x, y, hij, hi, hj, he⟩ := dup_iff.1 hd
      exact h1 i j x y hij hi hj he
    · obtain ⟨x, y, hj, hy, he⟩ := in_iff.1 hd
      exact h2 x (List.mem_of_getElem? hj) y hy he
/-- An overlap goes through no section twice: so what comes again among both is the path's. -/
theorem twice_append {ss os : List (Int × Int × Int)} (ho : Once os) : twiceB (ss ++ os) = !simpleB ss os := by
  have key : twiceB (ss ++ os) = false ↔ simpleB ss os = true := by
    rw [twice_no, simple_iff]
    constructor
    · intro h
      refine ⟨fun i j x y hij hi hj => h i j x y hij (by rw [List.getElem?_append_left (List.getElem?_eq_some_iff.1 hi).1]; exact hi) (by rw [List.getElem?_append_left (List.getElem?_eq_some_iff.1 hj).1]; exact hj), fun x hx y hy he => ?_⟩
      obtain ⟨i, hi⟩ := List.getElem?_of_mem hx
      obtain ⟨j, hj⟩ := List.getElem?_of_mem hy
      have hil := (List.getElem?_eq_some_iff.1 hi).1
      exact h i (ss.length + j) y x (by omega) (by rw [List.getElem?_append_left hil]; exact hi) (by rw [List.getElem?_append_right (by omega), Nat.add_sub_cancel_left]; exact hj) he.symm
    · rintro ⟨h1, h2⟩ i j x y hij hi hj he
      by_cases hjl : j < ss.length
      · rw [List.getElem?_append_left (by omega)] at hi
        rw [List.getElem?_append_left hjl] at hj
        exact h1 i j x y hij hi hj he
      · rw [List.getElem?_append_right (by omega)] at hj
        by_cases hil : i < ss.length
        · rw [List.getElem?_append_left hil] at hi
          exact h2 y (List.mem_of_getElem? hi) x (List.mem_of_getElem? hj) he.symm
        · rw [List.getElem?_append_right (by omega)] at hi
          exact ho (i - ss.length) (j - ss.length) x y (by omega) hi hj he
  cases h : simpleB ss os with
  | true => exact key.2 h
  | false =>
    cases h2 : twiceB (ss ++ os) with
    | true => rfl
    | false => rw [key.1 h2] at h; cases h

/-- Does a signal stand where a step enters? Does a path begin at its signal, end at its exit? -/
def sigAt (l : Lay) (x : Int × Int × Int) : Bool := decide (0 ≤ signalV l x.1 x.2.1)
def passV (l : Lay) (ss : List (Int × Int × Int)) : Bool := (ss.drop 1).any (sigAt l)
def beginV (l : Lay) (p : Pth) : Bool := match p.ss.head?, l.sigs[p.s.toNat]? with
  | some x, some y => x.1 == y.1 && x.2.1 == y.2
  | _, _ => false
def endV (l : Lay) (p : Pth) : Bool := match p.ss.getLast?, l.exits[p.x.toNat]? with
  | some x, some y => x.1 == y.s && x.2.2 == y.q
  | _, _ => false
def sizeP (ss : List (Int × Int × Int)) : Bool := decide (1 ≤ ss.length) && decide (ss.length ≤ 12)
def isPathV (l : Lay) (p : Pth) : Bool := sizeP p.ss && (goesS l p.ss && (beginV l p && (endV l p && (simpleB p.ss (overL10 l p.x) && !passV l p.ss))))
def knownV (l : Lay) (p : Pth) : Bool := (decide (0 ≤ p.s) && decide (p.s < l.sigs.length)) && (decide (0 ≤ p.x) && decide (p.x < l.exits.length))
def noVia (l : Lay) (v : Int) : Bool := !(decide (0 ≤ v) && decide (v < l.secs.length))
def viasV (l : Lay) (vs : List Int) : Bool := decide (vs.length ≤ 2) && !(vs.any (noVia l))
def check11 (l : Lay) (p : Pth) (vs : List Int) : Int := if (rightT l && (knownV l p && viasV l vs)) = true then (if (isPathV l p && throughV (secsS p.ss) vs) = true then 0 else 110) else 2
theorem check11_ok {l : Lay} {p : Pth} {vs : List Int} : check11 l p vs = 0 ↔ (rightT l = true ∧ knownV l p = true ∧ viasV l vs = true) ∧ isPathV l p = true ∧ throughV (secsS p.ss) vs = true := by
  unfold check11
  constructor
  · intro h
    split at h
    · rename_i h1
      split at h
      · rename_i h2
        simp only [Bool.and_eq_true] at h1 h2
        exact ⟨h1, h2⟩
      · cases h
    · cases h
  · rintro ⟨⟨h1, h2, h3⟩, h4, h5⟩
    rw [h1, h2, h3, h4, h5]
    rfl
def sameP (p q : Pth) : Bool := p.s == q.s && (p.x == q.x && decide (p.ss = q.ss))
/-- Each step but the first one, with the one ahead of it. -/
def neighL (ss : List (Int × Int × Int)) : List ((Int × Int × Int) × (Int × Int × Int)) := ss.zip (ss.drop 1)
theorem neigh_at {ss : List (Int × Int × Int)} {j : Nat} {a b : Int × Int × Int} (ha : ss[j]? = some a) (hb : ss[j + 1]? = some b) : (neighL ss)[j]? = some (a, b) := by
  unfold neighL
  rw [List.getElem?_zip_eq_some]
  exact ⟨ha, by rw [List.getElem?_drop, Nat.add_comm]; exact hb⟩
theorem neigh_len (ss : List (Int × Int × Int)) : (neighL ss).length = ss.length - 1 := by unfold neighL; rw [List.length_zip, List.length_drop]; omega
/-- Do two steps side by side hang together? -/
def hangS (l : Lay) (x : (Int × Int × Int) × (Int × Int × Int)) : Bool := decide (beyondV l x.1.1 x.1.2.2 = (x.2.1, x.2.2.1))
theorem goesS_parts (l : Lay) : ∀ ss : List (Int × Int × Int), goesS l ss = (ss.all (fun x => stepV l x.1 x.2.1 x.2.2) && (neighL ss).all (hangS l))
  | [] => rfl
  | [x] => by rw [goesS_cons]; simp [goesL, neighL]
  | x :: y :: r => by
    have ih := goesS_parts l (y :: r)
    rw [goesS_cons] at ih ⊢
    show (stepV l x.1 x.2.1 x.2.2 && (stepV l y.1 y.2.1 y.2.2 && (decide (nextV l x.1 x.2.1 x.2.2 = (y.1, y.2.1)) && goesL l (nextV l y.1 y.2.1 y.2.2) r))) = ((stepV l x.1 x.2.1 x.2.2 && (y :: r).all fun x => stepV l x.1 x.2.1 x.2.2) && (hangS l (x, y) && (neighL (y :: r)).all (hangS l)))
    cases hx : stepV l x.1 x.2.1 x.2.2
    · rfl
    · have hn : nextV l x.1 x.2.1 x.2.2 = beyondV l x.1 x.2.2 := by unfold nextV; rw [hx]; rfl
      have hh : hangS l (x, y) = decide (beyondV l x.1 x.2.2 = (y.1, y.2.1)) := rfl
      rw [hn, hh]
      generalize decide (beyondV l x.1 x.2.2 = (y.1, y.2.1)) = d
      cases d
      · simp
      · simp only [Bool.true_and]
        exact ih
end Go.Proofs.Ytljpiafopbfdlaa
namespace Go.Proofs.Ytljpiafopbfdlaa
open Go.RowKit Go.Shelf
set_option linter.unusedVariables false
set_option linter.unusedSimpArgs false

/-- What steps want, one behind the other, numbered from k on. -/
def ofS (l : Lay) : List (Int × Int × Int) → Int → List (Int × Int × Int)
  | [], _ => []
  | s :: r, k => wantsV l s.1 s.2.1 s.2.2 k ++ ofS l r (k + 1)
/-- What an overlap's steps want, all with one number. -/
def ofO (l : Lay) (os : List (Int × Int × Int)) (k : Int) : List (Int × Int × Int) := os.flatMap (fun s => wantsV l s.1 s.2.1 s.2.2 k)
/-- What a path needs. -/
def ofV (l : Lay) (p : Pth) : List (Int × Int × Int) := ofS l p.ss 0 ++ ofO l (overL10 l p.x) p.ss.length
theorem ofS_append (l : Lay) : ∀ (xs ys : List (Int × Int × Int)) (k : Int), ofS l (xs ++ ys) k = ofS l xs k ++ ofS l ys (k + xs.length)
  | [], ys, k => by simp [ofS]
  | x :: xs, ys, k => by
    show wantsV l x.1 x.2.1 x.2.2 k ++ ofS l (xs ++ ys) (k + 1) = (wantsV l x.1 x.2.1 x.2.2 k ++ ofS l xs (k + 1)) ++ ofS l ys (k + ((x :: xs).length : Nat))
    rw [ofS_append l xs ys (k + 1), List.append_assoc, show k + 1 + (xs.length : Int) = k + ((x :: xs).length : Nat) by simp; omega]
theorem ofS_next {l : Lay} {ss : List (Int × Int × Int)} {j : Nat} {s : Int × Int × Int} (h : ss[j]? = some s) : ofS l (ss.take (j + 1)) 0 = ofS l (ss.take j) 0 ++ wantsV l s.1 s.2.1 s.2.2 j := by
  have hj := (List.getElem?_eq_some_iff.1 h).1
  rw [List.take_add_one, h, Option.toList_some, ofS_append, List.length_take, Nat.min_eq_left (Nat.le_of_lt hj)]
  simp [ofS]
theorem ofO_next {l : Lay} {os : List (Int × Int × Int)} {k : Int} {j : Nat} {s : Int × Int × Int} (h : os[j]? = some s) : ofO l (os.take (j + 1)) k = ofO l (os.take j) k ++ wantsV l s.1 s.2.1 s.2.2 k := by
  unfold ofO
  rw [List.take_add_one, h, Option.toList_some, List.flatMap_append]
  simp
theorem wants_k {l : Lay} {s i o k : Int} {n : Int × Int × Int} (h : n ∈ wantsV l s i o k) : n.2.2 = k := by
  unfold wantsV firstV at h
  rcases List.mem_append.1 h with h | h
  · split at h
    · obtain rfl : n = ((pointV l s i o).1, (pointV l s i o).2.1, k) := by simpa using h
      rfl
    · cases h
  · obtain ⟨f, _, rfl⟩ := List.mem_map.1 h
    rfl
theorem ofS_mem {l : Lay} {n : Int × Int × Int} : ∀ {ss : List (Int × Int × Int)} {k : Int}, n ∈ ofS l ss k ↔ ∃ (j : Nat) (s : Int × Int × Int), ss[j]? = some s ∧ n ∈ wantsV l s.1 s.2.1 s.2.2 (k + j)
  | [], k => by simp [ofS]
  | x :: r, k => by
    show n ∈ wantsV l x.1 x.2.1 x.2.2 k ++ ofS l r (k + 1) ↔ _
    rw [List.mem_append, ofS_mem (ss := r)]
    constructor
    · rintro (h | ⟨j, s, hs, h⟩)
      · exact ⟨0, x, rfl, by simpa using h⟩
      · exact ⟨j + 1, s, by simpa using hs, by rw [show k + ((j + 1 : Nat) : Int) = k + 1 + j by omega]; exact h⟩
    · rintro ⟨j, s, hs, h⟩
      cases j with
      | zero => obtain rfl : x = s := by simpa using hs
                exact .inl (by simpa using h)
      | succ j => exact .inr ⟨j, s, by simpa using hs, by rw [show k + 1 + (j : Int) = k + ((j + 1 : Nat) : Int) by omega]; exact h⟩
/-- The numbers of what is needed rise, and lie from 0 to how many steps there are. -/
theorem ofS_rise {l : Lay} : ∀ {ss : List (Int × Int × Int)} {k : Int}, (ofS l ss k).Pairwise (fun a b => a.2.2 ≤ b.2.2)
  | [], _ => List.Pairwise.nil
  | x :: r, k => by
    show (wantsV l x.1 x.2.1 x.2.2 k ++ ofS l r (k + 1)).Pairwise _
    refine List.pairwise_append.2 ⟨?_, ofS_rise, fun a ha b hb => ?_⟩
    · exact List.pairwise_iff_forall_sublist.2 fun {a b} hab => by
        have h1 := wants_k (hab.subset (by simp : a ∈ [a, b]))
        have h2 := wants_k (hab.subset (by simp : b ∈ [a, b]))
        omega
    · obtain ⟨j, s, _, h⟩ := ofS_mem.1 hb
      have h1 := wants_k ha
      have h2 := wants_k h
      omega
theorem of_rise (l : Lay) (p : Pth) : (ofV l p).Pairwise (fun a b => a.2.2 ≤ b.2.2) := by
  unfold ofV
  refine List.pairwise_append.2 ⟨ofS_rise, ?_, fun a ha b hb => ?_⟩
  · exact List.pairwise_iff_forall_sublist.2 fun {a b} hab => by
      have h1 := hab.subset (by simp : a ∈ [a, b])
      have h2 := hab.subset (by simp : b ∈ [a, b])
      unfold ofO at h1 h2
      obtain ⟨s1, _, h1⟩ := List.mem_flatMap.1 h1
      obtain ⟨s2, _, h2⟩ := List.mem_flatMap.1 h2
      rw [wants_k h1, wants_k h2]
      exact Int.le_refl _
  · obtain ⟨j, s, hs, h⟩ := ofS_mem.1 ha
    unfold ofO at hb
    obtain ⟨s2, _, h2⟩ := List.mem_flatMap.1 hb
    have := (List.getElem?_eq_some_iff.1 hs).1
    rw [wants_k h, wants_k h2]
    omega

/-- Is some point wanted both ways? -/
def clashN (ns : List (Int × Int × Int)) : Bool := ns.any (fun a => ns.any (fun b => a.1 == b.1 && a.2.1 != b.2.1))
theorem clash_iff {ns : List (Int × Int × Int)} : clashN ns = true ↔ ∃ a ∈ ns, ∃ b ∈ ns, a.1 = b.1 ∧ a.2.1 ≠ b.2.1 := by
  unfold clashN
  simp only [List.any_eq_true, Bool.and_eq_true, beq_iff_eq, bne_iff_ne]
theorem clash_sub {ns ms : List (Int × Int × Int)} (h : ∀ a ∈ ns, a ∈ ms) (hc : clashN ns = true) : clashN ms = true := by
  obtain ⟨a, ha, b, hb, h1, h2⟩ := clash_iff.1 hc
  exact clash_iff.2 ⟨a, h a ha, b, h b hb, h1, h2⟩
theorem clash_comm (ns ms : List (Int × Int × Int)) : clashN (ns ++ ms) = clashN (ms ++ ns) := by
  rw [Bool.eq_iff_iff]
  exact ⟨clash_sub fun a ha => by rw [List.mem_append] at *; exact ha.symm, clash_sub fun a ha => by rw [List.mem_append] at *; exact ha.symm⟩
/-- The first need of a point. -/
def atN (ns : List (Int × Int × Int)) (p : Int) : Option (Int × Int × Int) := ns.find? (fun a => a.1 == p)
theorem at_some {ns : List (Int × Int × Int)} {p : Int} {a : Int × Int × Int} (h : atN ns p = some a) : a ∈ ns ∧ a.1 = p := ⟨List.mem_of_find?_eq_some h, by have := List.find?_some h; simpa using this⟩
theorem at_is {ns : List (Int × Int × Int)} {a : Int × Int × Int} (h : a ∈ ns) : ∃ b, atN ns a.1 = some b := by
  cases hf : atN ns a.1 with
  | some b => exact ⟨b, rfl⟩
  | none =>
    have := List.find?_eq_none.1 hf a h
    simp at this
theorem at_none {ns : List (Int × Int × Int)} {p : Int} : atN ns p = none ↔ ∀ a ∈ ns, a.1 ≠ p := by
  unfold atN
  rw [List.find?_eq_none]
  simp
/-- Where nothing clashes each need tells of its point the one position. -/
theorem at_fine {ns : List (Int × Int × Int)} (hc : clashN ns = false) {a : Int × Int × Int} (h : a ∈ ns) : ∃ b, atN ns a.1 = some b ∧ b.2.1 = a.2.1 := by
  obtain ⟨b, hb⟩ := at_is h
  obtain ⟨h1, h2⟩ := at_some hb
  refine ⟨b, hb, Classical.byContradiction fun hne => ?_⟩
  rw [clash_iff.2 ⟨b, h1, a, h, h2, hne⟩] at hc
  cases hc
/-- What a step through a point wants; what its flanks want. -/
theorem wants_point {l : Lay} {s i o k : Int} (h : (pointV l s i o).2.2 = true) : ((pointV l s i o).1, (pointV l s i o).2.1, k) ∈ wantsV l s i o k := by
  unfold wantsV firstV
  rw [if_pos h]
  simp
theorem wants_flank {l : Lay} {s i o k : Int} {f : Int × Int × Int × Int} (hf : f ∈ l.flanks) (h : isFlk l s i o f = true) : (f.2.2.1, f.2.2.2, k) ∈ wantsV l s i o k := by
  unfold wantsV flanksV
  exact List.mem_append.2 (.inr (List.mem_map.2 ⟨f, List.mem_filter.2 ⟨hf, h⟩, rfl⟩))
theorem of_step {l : Lay} {p : Pth} {s n : Int × Int × Int} {k : Nat} (hs : p.ss[k]? = some s) (h : n ∈ wantsV l s.1 s.2.1 s.2.2 k) : n ∈ ofV l p := by
  unfold ofV
  exact List.mem_append.2 (.inl (ofS_mem.2 ⟨k, s, hs, by rw [Int.zero_add]; exact h⟩))
theorem of_over {l : Lay} {p : Pth} {s n : Int × Int × Int} (hs : s ∈ overL10 l p.x) (h : n ∈ wantsV l s.1 s.2.1 s.2.2 p.ss.length) : n ∈ ofV l p := by
  unfold ofV ofO
  exact List.mem_append.2 (.inr (List.mem_flatMap.2 ⟨s, hs, h⟩))
/-- A beginning's needs are the first ones. -/
theorem of_begin {l : Lay} {p q : Pth} {n : Nat} (hs : q.ss = p.ss.take n) (ho : overL10 l q.x = []) : ∃ r, ofV l p = ofV l q ++ r := by
  refine ⟨ofS l (p.ss.drop n) (0 + (p.ss.take n).length) ++ ofO l (overL10 l p.x) p.ss.length, ?_⟩
  unfold ofV
  rw [ho, hs]
  simp only [ofO, List.flatMap_nil, List.append_nil]
  rw [← List.append_assoc, ← ofS_append, List.take_append_drop]
/-- The points that are wanted: what rises and has just these. -/
def IsPoints (ns : List (Int × Int × Int)) (ps : List Int) : Prop := ps.Pairwise (· < ·) ∧ ∀ x, x ∈ ps ↔ ∃ a ∈ ns, a.1 = x
end Go.Proofs.Ytljpiafopbfdlaa
namespace Go.Proofs.Ytljpiafopbfdlaa
open Go.RowKit Go.Shelf
set_option linter.unusedVariables false
set_option linter.unusedSimpArgs false

section
variable {P : World → Prop} {w : World}
end
end Go.Proofs.Ytljpiafopbfdlaa
namespace Go.Proofs.Ytljpiafopbfdlaa
open Go.RowKit Go.Shelf
set_option linter.unusedVariables false
set_option linter.unusedSimpArgs false

theorem posV_comm (k n a b c d i o : Int) : posV k n a b c d i o = posV k n a b c d o i := by unfold posV; rw [goesV_comm, wayV_comm]
end Go.Proofs.Ytljpiafopbfdlaa
namespace Go.Proofs.Ytljpiafopbfdlaa
open Go.RowKit Go.Shelf
set_option linter.unusedVariables false
set_option linter.unusedSimpArgs false

section
variable {P : World → Prop} {w : World} {k p n a b c d : Int}
end

theorem outsTo_4 {k p n a b c d : Int} (i : Int) (hk : IsShape k p n a b c d) : outsTo n a b c d i 4 = outsTo n a b c d i p.toNat := by
  unfold IsShape at hk
  rcases hk with ⟨_, rfl, rfl, rfl, rfl, rfl, rfl⟩ | ⟨_, rfl, rfl, rfl, rfl, rfl, rfl⟩ | ⟨_, rfl, rfl, rfl, rfl, rfl, rfl⟩ | ⟨_, rfl, rfl, rfl, rfl, rfl, rfl⟩
  all_goals
    simp [outsTo, goesV, joinV]

end Go.Proofs.Ytljpiafopbfdlaa
namespace Go.Proofs.Ytljpiafopbfdlaa
open Go.RowKit Go.Shelf
set_option linter.unusedVariables false
set_option linter.unusedSimpArgs false

end Go.Proofs.Ytljpiafopbfdlaa
