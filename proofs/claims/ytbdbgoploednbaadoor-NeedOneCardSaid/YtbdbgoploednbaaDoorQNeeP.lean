/- What a path needs, in numbers; what clashes; where points are wanted (pure; made ahead of stage 13). -/
import Derived.Test.YtbdbgoploednbaaDoorQF
import Derived.Test.YtbdbgoploednbaaDoorQE
namespace Go.Proofs.YtbdbgoploednbaaDoor
open Go.RowKit Go.Shelf
set_option linter.unusedVariables false
set_option linter.unusedSimpArgs false

/-- What steps want, one behind the other, numbered from k on. -/
def ofS (l : Lay) : List (Int × Int × Int) → Int → List (Int × Int × Int)
  | [], _ => []
  | s :: r, k => wantsV l s.1 s.2.1 s.2.2 k ++ ofS l r (k + 1)
/-- What an overlap's steps want, all with one number. -/
def ofO (l : Lay) (os : List (Int × Int × Int)) (k : Int) : List (Int × Int × Int) := os.flatMap (fun s => wantsV l s.1 s.2.1 s.2.2 k)
/-- What a path needs. -/
def ofV (l : Lay) (p : Pth) : List (Int × Int × Int) := ofS l p.ss 0 ++ ofO l (overL10 l p.x) p.ss.length
theorem ofS_append (l : Lay) : ∀ (xs ys : List (Int × Int × Int)) (k : Int), ofS l (xs ++ ys) k = ofS l xs k ++ ofS l ys (k + xs.length)
  | [], ys, k => by simp [ofS]
  | x :: xs, ys, k => by
    show wantsV l x.1 x.2.1 x.2.2 k ++ ofS l (xs ++ ys) (k + 1) = (wantsV l x.1 x.2.1 x.2.2 k ++ ofS l xs (k + 1)) ++ ofS l ys (k + ((x :: xs).length : Nat))
    rw [ofS_append l xs ys (k + 1), List.append_assoc, show k + 1 + (xs.length : Int) = k + ((x :: xs).length : Nat) by simp; omega]
theorem ofS_next {l : Lay} {ss : List (Int × Int × Int)} {j : Nat} {s : Int × Int × Int} (h : ss[j]? = some s) : ofS l (ss.take (j + 1)) 0 = ofS l (ss.take j) 0 ++ wantsV l s.1 s.2.1 s.2.2 j := by
  have hj := (List.getElem?_eq_some_iff.1 h).1
  rw [List.take_add_one, h, Option.toList_some, ofS_append, List.length_take, Nat.min_eq_left (Nat.le_of_lt hj)]
  simp [ofS]
theorem ofO_next {l : Lay} {os : List (Int × Int × Int)} {k : Int} {j : Nat} {s : Int × Int × Int} (h : os[j]? = some s) : ofO l (os.take (j + 1)) k = ofO l (os.take j) k ++ wantsV l s.1 s.2.1 s.2.2 k := by
  unfold ofO
  rw [List.take_add_one, h, Option.toList_some, List.flatMap_append]
  simp
theorem wants_k {l : Lay} {s i o k : Int} {n : Int × Int × Int} (h : n ∈ wantsV l s i o k) : n.2.2 = k := by
  unfold wantsV firstV at h
  rcases List.mem_append.1 h with h | h
  · split at h
    · obtain rfl : n = ((pointV l s i o).1, (pointV l s i o).2.1, k) := by simpa using h
      rfl
    · cases h
  · obtain ⟨f, _, rfl⟩ := List.mem_map.1 h
    rfl
theorem ofS_mem {l : Lay} {n : Int × Int × Int} : ∀ {ss : List (Int × Int × Int)} {k : Int}, n ∈ ofS l ss k ↔ ∃ (j : Nat) (s : Int × Int × Int), ss[j]? = some s ∧ n ∈ wantsV l s.1 s.2.1 s.2.2 (k + j)
  | [], k => by simp [ofS]
  | x :: r, k => by
    show n ∈ wantsV l x.1 x.2.1 x.2.2 k ++ ofS l r (k + 1) ↔ _
    rw [List.mem_append, ofS_mem (ss := r)]
    constructor
    · rintro (h | ⟨j, s, hs, h⟩)
      · exact ⟨0, x, rfl, by simpa using h⟩
      · exact ⟨j + 1, s, by simpa using hs, by rw [show k + ((j + 1 : Nat) : Int) = k + 1 + j by omega]; exact h⟩
    · rintro ⟨j, s, hs, h⟩
      cases j with
      | zero => obtain rfl : x = s := by simpa using hs
                exact .inl (by simpa using h)
      | succ j => exact .inr ⟨j, s, by simpa using hs, by rw [show k + 1 + (j : Int) = k + ((j + 1 : Nat) : Int) by omega]; exact h⟩
/-- The numbers of what is needed rise, and lie from 0 to how many steps there are. -/
theorem ofS_rise {l : Lay} : ∀ {ss : List (Int × Int × Int)} {k : Int}, (ofS l ss k).Pairwise (fun a b => a.2.2 ≤ b.2.2)
  | [], _ => List.Pairwise.nil
  | x :: r, k => by
    show (wantsV l x.1 x.2.1 x.2.2 k ++ ofS l r (k + 1)).Pairwise _
    refine List.pairwise_append.2 ⟨?_, ofS_rise, fun a ha b hb => ?_⟩
    · exact List.pairwise_iff_forall_sublist.2 fun {a b} hab => by
        have h1 := wants_k (hab.subset (by simp : a ∈ [a, b]))
        have h2 := wants_k (hab.subset (by simp : b ∈ [a, b]))
        omega
    · obtain ⟨j, s, _, h⟩ := ofS_mem.1 hb
      have h1 := wants_k ha
      have h2 := wants_k h
      omega
theorem of_rise (l : Lay) (p : Pth) : (ofV l p).Pairwise (fun a b => a.2.2 ≤ b.2.2) := by
  unfold ofV
  refine List.pairwise_append.2 ⟨ofS_rise, ?_, fun a ha b hb => ?_⟩
  · exact List.pairwise_iff_forall_sublist.2 fun {a b} hab => by
      have h1 := hab.subset (by simp : a ∈ [a, b])
      have h2 := hab.subset (by simp : b ∈ [a, b])
      unfold ofO at h1 h2
      obtain ⟨s1, _, h1⟩ := List.mem_flatMap.1 h1
      obtain ⟨s2, _, h2⟩ := List.mem_flatMap.1 h2
      rw [wants_k h1, wants_k h2]
      exact Int.le_refl _
  · obtain ⟨j, s, hs, h⟩ := ofS_mem.1 ha
    unfold ofO at hb
    obtain ⟨s2, _, h2⟩ := List.mem_flatMap.1 hb
    have := (List.getElem?_eq_some_iff.1 hs).1
    rw [wants_k h, wants_k h2]
    omega

/-- Is some point wanted both ways? -/
def clashN (ns : List (Int × Int × Int)) : Bool := ns.any (fun a => ns.any (fun b => a.1 == b.1 && a.2.1 != b.2.1))
theorem clash_iff {ns : List (Int × Int × Int)} : clashN ns = true ↔ ∃ a ∈ ns, ∃ b ∈ ns, a.1 = b.1 ∧ a.2.1 ≠ b.2.1 := by
  unfold clashN
  simp only [List.any_eq_true, Bool.and_eq_true, beq_iff_eq, bne_iff_ne]
theorem clash_sub {ns ms : List (Int × Int × Int)} (h : ∀ a ∈ ns, a ∈ ms) (hc : clashN ns = true) : clashN ms = true := by
  obtain ⟨a, ha, b, hb, h1, h2⟩ := clash_iff.1 hc
  exact clash_iff.2 ⟨a, h a ha, b, h b hb, h1, h2⟩
theorem clash_comm (ns ms : List (Int × Int × Int)) : clashN (ns ++ ms) = clashN (ms ++ ns) := by
  rw [Bool.eq_iff_iff]
  exact ⟨clash_sub fun a ha => by rw [List.mem_append] at *; exact ha.symm, clash_sub fun a ha => by rw [List.mem_append] at *; exact ha.symm⟩
/-- The first need of a point. -/
def atN (ns : List (Int × Int × Int)) (p : Int) : Option (Int × Int × Int) := ns.find? (fun a => a.1 == p)
theorem at_some {ns : List (Int × Int × Int)} {p : Int} {a : Int × Int × Int} (h : atN ns p = some a) : a ∈ ns ∧ a.1 = p := ⟨List.mem_of_find?_eq_some h, by have := List.find?_some h; simpa using this⟩
theorem at_is {ns : List (Int × Int × Int)} {a : Int × Int × Int} (h : a ∈ ns) : ∃ b, atN ns a.1 = some b := by
  cases hf : atN ns a.1 with
  | some b => exact ⟨b, rfl⟩
  | none =>
    have := List.find?_eq_none.1 hf a h
    simp at this
theorem at_none {ns : List (Int × Int × Int)} {p : Int} : atN ns p = none ↔ ∀ a ∈ ns, a.1 ≠ p := by
  unfold atN
  rw [List.find?_eq_none]
  simp
/-- Where nothing clashes each need tells of its point the one position. -/
theorem at_fine {ns : List (Int × Int × Int)} (hc : clashN ns = false) {a : Int × Int × Int} (h : a ∈ ns) : ∃ b, atN ns a.1 = some b ∧ b.2.1 = a.2.1 := by
  obtain ⟨b, hb⟩ := at_is h
  obtain ⟨h1, h2⟩ := at_some hb
  refine ⟨b, hb, Classical.byContradiction fun hne => ?_⟩
  rw [clash_iff.2 ⟨b, h1, a, h, h2, hne⟩] at hc
  cases hc
/-- What a step through a point wants; what its flanks want. -/
theorem wants_point {l : Lay} {s i o k : Int} (h : (pointV l s i o).2.2 = true) : ((pointV l s i o).1, (pointV l s i o).2.1, k) ∈ wantsV l s i o k := by
  unfold wantsV firstV
  rw [if_pos h]
  simp
theorem wants_flank {l : Lay} {s i o k : Int} {f : Int × Int × Int × Int} (hf : f ∈ l.flanks) (h : isFlk l s i o f = true) : (f.2.2.1, f.2.2.2, k) ∈ wantsV l s i o k := by
  unfold wantsV flanksV
  exact List.mem_append.2 (.inr (List.mem_map.2 ⟨f, List.mem_filter.2 ⟨hf, h⟩, rfl⟩))
theorem of_step {l : Lay} {p : Pth} {s n : Int × Int × Int} {k : Nat} (hs : p.ss[k]? = some s) (h : n ∈ wantsV l s.1 s.2.1 s.2.2 k) : n ∈ ofV l p := by
  unfold ofV
  exact List.mem_append.2 (.inl (ofS_mem.2 ⟨k, s, hs, by rw [Int.zero_add]; exact h⟩))
theorem of_over {l : Lay} {p : Pth} {s n : Int × Int × Int} (hs : s ∈ overL10 l p.x) (h : n ∈ wantsV l s.1 s.2.1 s.2.2 p.ss.length) : n ∈ ofV l p := by
  unfold ofV ofO
  exact List.mem_append.2 (.inr (List.mem_flatMap.2 ⟨s, hs, h⟩))
/-- A beginning's needs are the first ones. -/
theorem of_begin {l : Lay} {p q : Pth} {n : Nat} (hs : q.ss = p.ss.take n) (ho : overL10 l q.x = []) : ∃ r, ofV l p = ofV l q ++ r := by
  refine ⟨ofS l (p.ss.drop n) (0 + (p.ss.take n).length) ++ ofO l (overL10 l p.x) p.ss.length, ?_⟩
  unfold ofV
  rw [ho, hs]
  simp only [ofO, List.flatMap_nil, List.append_nil]
  rw [← List.append_assoc, ← ofS_append, List.take_append_drop]
/-- The points that are wanted: what rises and has just these. -/
def IsPoints (ns : List (Int × Int × Int)) (ps : List Int) : Prop := ps.Pairwise (· < ·) ∧ ∀ x, x ∈ ps ↔ ∃ a ∈ ns, a.1 = x
end Go.Proofs.YtbdbgoploednbaaDoor
