/- Package join: its iterator of ports, made; blocks that are new count as its own. Package join: all ports of all sections, one by one. Package join: joined; rows of steps; Steps; the document's own Steps. Package join: Joined. The document's own layer 7: Joined. Joins as a matching: what lies beyond what lies beyond; joins speak of the sections alone. The value side of layer 9: the first of two alike. -/
import Derived.RangeFuncNested
import Derived.RangeFuncBound
import Derived.RangeFuncCalls
import Derived.RangeFuncLeaves
import Derived.RangeFuncBox
import Derived.Shelf.Abstract
import Derived.Shelf.RegionOpen
import Derived.WalkKit
import Derived.OwnWalkIn
import Derived.TacticsInMore
import Derived.LoopNIn
import Derived.LoopIn
import Derived.WalkMore
import Derived.Test.YtljpiafopbfdlaaQAf
import Derived.Test.YtljpiafopbfdlaaQAe
import Derived.Test.YtljpiafopbfdlaaQAc
import Derived.Test.YtljpiafopbfdlaaQAb
import Derived.Test.YtljpiafopbfdlaaQAd
namespace Go.Proofs.Ytljpiafopbfdlaa
open Go.RowKit Go.Shelf
set_option linter.unusedVariables false
set_option linter.unusedSimpArgs false

attribute [local go_sem] Oper.semAt_some

/-- The blocks that are new count as its own. -/
def With (U : Nat → Prop) (W W' : World) : Nat → Prop := fun k => U k ∨ (W.heap.size ≤ k ∧ k < W'.heap.size)
theorem Grew.with {U : Nat → Prop} {W W' : World} (h : ∀ k, U k → k < W.heap.size) (hs : W.heap.size ≤ W'.heap.size) : Grew U (With U W W') W W' :=
  ⟨fun k hk => hk.imp id (fun h => h.1), fun k hk => hk.elim (fun hu => Nat.lt_of_lt_of_le (h k hu) hs) (fun h => h.2)⟩
end Go.Proofs.Ytljpiafopbfdlaa
namespace Go.Proofs.Ytljpiafopbfdlaa
open Go.RowKit Go.Shelf
set_option linter.unusedVariables false
set_option linter.unusedSimpArgs false

attribute [local go_sem] Oper.semAt_some

/-- The ports of all sections, in order. -/
def portsTo (l : Lay) (n : Nat) : List (Int × Int) := (List.range n).flatMap fun s : Nat => portsS l s
def portsAll (l : Lay) : List (Int × Int) := portsTo l l.secs.length
theorem portsTo_next (l : Lay) (n : Nat) : portsTo l (n + 1) = portsTo l n ++ portsS l n := by
  unfold portsTo
  rw [List.range_succ, List.flatMap_append]
  simp
theorem portsTo_split (l : Lay) : ∀ (n m : Nat), n ≤ m → ∃ r, portsTo l m = portsTo l n ++ r
  | n, 0, h => ⟨[], by have : n = 0 := by omega
                       subst this; simp⟩
  | n, m + 1, h => by
    by_cases e : n = m + 1
    · subst e; exact ⟨[], by simp⟩
    · obtain ⟨r, hr⟩ := portsTo_split l n m (by omega)
      exact ⟨r ++ portsS l m, by rw [portsTo_next, hr, List.append_assoc]⟩
theorem portsAll_at {l : Lay} {s j : Nat} {x : Int × Int} (hs : s < l.secs.length) (hx : (portsS l s)[j]? = some x) : (portsAll l)[(portsTo l s).length + j]? = some x := by
  obtain ⟨r, hr⟩ := portsTo_split l (s + 1) l.secs.length (by omega)
  unfold portsAll
  have hlt := (List.getElem?_eq_some_iff.1 hx).1
  rw [hr, portsTo_next, List.append_assoc, List.getElem?_append_right (by omega), Nat.add_sub_cancel_left, List.getElem?_append_left hlt]
  exact hx

/-- The marks that ranges over a function have left. -/
def marks (Ds : List Nat) : List Deferred := Ds.map fun D => { target := .collected D, args := #[] }
/-- They lie beyond B, each once, and are none of the loop's own. -/
structure Marks (B : Nat) (U : Nat → Prop) (Ds : List Nat) (W : World) : Prop where
  once : Ds.Nodup
  all : ∀ D ∈ Ds, W.heap[D]? = some (.deferred (some [])) ∧ B ≤ D ∧ ¬ U D
theorem leaves_marks {P : Program} {fn : Func} {tmps : Array Value} {R : Ending → World → Prop} {v : Value} {B : Nat} {U : Nat → Prop} (hres : ∀ w, (results fn tmps).run P w = .ok v w) : ∀ (Ds : List Nat) (W : World), Marks B U Ds W → (∀ W', Stays B U W W' → R (.returned v) W') → LeavesInM Fence.wide 3 P fn tmps R (marks Ds) .returning W
  | [], W, _, h => ⟨v, hres W, h W ⟨⟨rfl, rfl, rfl⟩, Nat.le_refl _, fun _ _ h _ => h⟩⟩
  | D :: Ds, W, hm, h => by
    obtain ⟨h1, h2, h3⟩ := hm.all D (by simp)
    have hn := List.nodup_cons.1 hm.once
    refine ⟨by simp, .inl ⟨D, _, rfl, run_takeDeferred h1, leaves_marks hres Ds _ ⟨hn.2, fun E hE => ?_⟩ fun W' hW' => h W' ((Stays.put W _ h2 h3).trans hW')⟩⟩
    obtain ⟨k1, k2, k3⟩ := hm.all E (by simp [hE])
    exact ⟨(World.putObj_heap_other (fun e => by subst e; exact hn.1 hE)).trans k1, k2, k3⟩
theorem Marks.stays {B : Nat} {U : Nat → Prop} {Ds : List Nat} {W W' : World} (h : Marks B U Ds W) {C : Nat} {V : Nat → Prop} (hs : Stays C V W W') (hC : ∀ D ∈ Ds, D < C) : Marks B U Ds W' :=
  ⟨h.once, fun D hD => let ⟨h1, h2, h3⟩ := h.all D hD; ⟨hs.rest D _ h1 (.inl (hC D hD)), h2, h3⟩⟩
theorem Marks.kept {B : Nat} {U U' : Nat → Prop} {Ds : List Nat} {W W' : World} (h : Marks B U Ds W) {R : Nat → Prop} (hg : Grew U U' W W') (hs : Kept R B U W W') : Marks B U' Ds W' :=
  ⟨h.once, fun D hD => let ⟨h1, h2, h3⟩ := h.all D hD; ⟨hs.rest D _ h1 (.inr ⟨h2, h3⟩), h2, fun hu => (hg.new D hu).elim h3 fun hl => by have := (Array.getElem?_eq_some_iff.1 h1).1; omega⟩⟩

end Go.Proofs.Ytljpiafopbfdlaa
namespace Go.Proofs.Ytljpiafopbfdlaa
open Go.RowKit Go.Shelf
set_option linter.unusedVariables false
set_option linter.unusedSimpArgs false

/-- append(v, x), v a row of steps of the call's own, nil or not. -/
theorem append_step (base n : Nat) (v : Value) (xs : List Value) (x : Int × Int × Int) (w : World) (a : Nat) (hown : w.ownsRow base 44 3 v n xs) (hc : Whole w a 44 (stpCells x)) (hn : n ≤ 1000) (hbase : base ≤ w.heap.size) :
    ∃ v' w', (Builtin.append_ #[22, 22] 22 #[v, .slice (some ⟨a, 0, none⟩) 1 1]).run Try.prog w = .ok v' w' ∧ w'.ownsRow base 44 3 v' (n + 1) (xs ++ stpCells x) ∧ Below base w w' := by
  obtain ⟨i, i1, i2, i3, i4⟩ := info_parts infoStep
  obtain ⟨v', w', r1, r2, r3, r4, r5⟩ := run_append_own_at (P := Try.prog) w base 22 22 44 i (.agg #[.int .i64 0, .int .i64 0, .int .i64 0]) 3 24 Try.underlying22 i1 i2 i3 i4 rfl (by omega) v n xs hown ⟨a, 0, none⟩ 1 1 (stpCells x) rfl (row_add (hc.row hc.lt)) (oneStep x) (by unfold maxLen; omega) (by omega) hbase
  exact ⟨v', w', r1, r2, (Below.refl base w).grown r3 hbase (fun k e => (hown.lt k e).1)⟩
/-- What is owned, of elements of k cells, is owned in whatever grows out of the world; read as a slice. -/
theorem ownsS_keep {w w' : World} {base e n k : Nat} {v : Value} {xs : List Value} (h : w.ownsRow base e k v n xs) (hb : Below w.heap.size w w') : w'.ownsRow base e k v n xs := by
  refine ⟨h.1, ?_⟩
  rcases h.2 with h2 | ⟨g', cap', cur, hv, h3, h4, r⟩
  · exact .inl h2
  · exact .inr ⟨g', cap', cur, hv, h3, (hb.block g' (Array.getElem?_eq_some_iff.1 h4).1).trans h4, r⟩
theorem ownsS_slice {w : World} {base e n : Nat} {v : Value} {xs : List Value} (h : w.ownsRow base e 3 v n xs) : ∃ A c, v = .slice A n c ∧ Row w w.heap.size A xs ∧ n ≤ c := by
  rcases h.2 with ⟨rfl, rfl⟩ | ⟨g, cap, cur, rfl, hg, _, hn, _⟩
  · have : xs = [] := List.eq_nil_of_length_eq_zero (by have := h.1; omega)
    subst this
    exact ⟨none, 0, rfl, Row.nil _ _ _, Nat.le_refl _⟩
  · exact ⟨_, cap, rfl, owns_row2 h, hn⟩
/-- To which ports ways go from i in a section of kind k; the steps on. -/
def outsK (k i : Int) : List Int := outsTo (nK k) 0 (bK k) (cK k) (dK k) i (pK k).toNat
theorem outsK_no (i : Int) : outsK 0 i = [] := rfl
theorem outsK_le (k i : Int) : (outsK k i).length ≤ 4 := Nat.le_trans (outsTo_le _ _ _ _ _ _ _) (by have := pK_le4 k; omega)
def onward (q : Int × Int) (o : Int) : Int × Int × Int := (q.1, q.2, o)
def stepsV (l : Lay) (s p : Int) : List (Int × Int × Int) := (outsK (atV l (beyondV l s p).1 (beyondV l s p).2).k (beyondV l s p).2).map (onward (beyondV l s p))
theorem steps_cells {q : Int × Int} {os : List Int} {j : Nat} {o : Int} (h : os[j]? = some o) : ((os.take (j + 1)).map (onward q)).flatMap stpCells = ((os.take j).map (onward q)).flatMap stpCells ++ stpCells (onward q o) := by
  rw [List.take_add_one, h, List.map_append, List.flatMap_append]
  simp
theorem steps_len {q : Int × Int} {os : List Int} {j : Nat} (h : j ≤ os.length) : ((os.take j).map (onward q)).length = j := by rw [List.length_map, List.length_take]; omega
theorem atV_range {l : Lay} {w : World} (hl : Lies l w) (s p : Int) : 0 ≤ (atV l s p).k ∧ (atV l s p).k ≤ 255 := by
  cases h : thereV l s p
  · rw [atV_no h]; exact ⟨Int.le_refl _, by show (0 : Int) ≤ 255; omega⟩
  · rw [atV_kind h]; exact kindV_range hl s

section
variable {P : World → Prop} {w : World}
end
end Go.Proofs.Ytljpiafopbfdlaa
namespace Go.Proofs.Ytljpiafopbfdlaa
open Go.RowKit Go.Shelf
set_option linter.unusedVariables false
set_option linter.unusedSimpArgs false

attribute [local go_sem] Oper.semAt_some
section
variable {P : World → Prop} {w : World}
end
/-- Are the sections joined? -/
def joinedL (l : Lay) : Bool := decide ((l.secs.length : Int) ≤ 24) && (!(l.secs.any fun x => !rightK x) && !((portsAll l).any fun x => !joinedP l x.1 x.2))
end Go.Proofs.Ytljpiafopbfdlaa
namespace Go.Proofs.Ytljpiafopbfdlaa
open Go.RowKit Go.Shelf
set_option linter.unusedVariables false
set_option linter.unusedSimpArgs false

theorem portsTo_mem {l : Lay} {n : Nat} {x : Int × Int} : x ∈ portsTo l n ↔ ∃ s : Nat, s < n ∧ x ∈ portsS l s := by
  unfold portsTo
  rw [List.mem_flatMap]
  simp
theorem joinedL_iff {l : Lay} : joinedL l = true ↔ l.secs.length ≤ 24 ∧ ∀ (s : Nat) (x : Sec), l.secs[s]? = some x → rightK x = true ∧ ∀ p : Nat, p < (pK x.k).toNat → joinedP l s p = true := by
  unfold joinedL
  rw [Bool.and_eq_true, Bool.and_eq_true, Bool.not_eq_true', Bool.not_eq_true', List.any_eq_false, List.any_eq_false, decide_eq_true_iff]
  constructor
  · rintro ⟨h1, h2, h3⟩
    refine ⟨by omega, fun s x hx => ⟨?_, fun p hp => ?_⟩⟩
    · have := h2 x (List.mem_of_getElem? hx)
      simpa using this
    · have hs := (List.getElem?_eq_some_iff.1 hx).1
      have hk := kindV_at hx
      have hm : ((s : Int), (p : Int)) ∈ portsS l s := by
        unfold portsS
        rw [hk]
        exact List.mem_map.2 ⟨p, List.mem_range.2 hp, rfl⟩
      have := h3 _ (portsTo_mem.2 ⟨s, hs, hm⟩)
      simpa using this
  · rintro ⟨h1, h2⟩
    refine ⟨by omega, fun x hx => ?_, fun x hx => ?_⟩
    · obtain ⟨s, hs, e⟩ := List.mem_iff_getElem.1 hx
      have := (h2 s x (by rw [List.getElem?_eq_getElem hs, e])).1
      simp [this]
    · obtain ⟨s, hs, hm⟩ := portsTo_mem.1 hx
      unfold portsS at hm
      obtain ⟨p, hp, rfl⟩ := List.mem_map.1 hm
      have hx' : l.secs[s]? = some l.secs[s] := List.getElem?_eq_getElem hs
      rw [kindV_at hx'] at hp
      have := (h2 s _ hx').2 p (List.mem_range.1 hp)
      simp [this]
/-- What a port of section i joins to, by its section. -/
theorem beyond_at {l : Lay} {i p : Nat} {y : Sec} (hy : l.secs[i]? = some y) (hp : p < (pK y.k).toNat) : ∃ q, y.ports4[p]? = some q ∧ beyondV l i p = q := by
  have h4 := pK_le4 y.k
  have hk := kindV_at hy
  have ht : thereV l i p = true := by rw [there_at, hk]; exact decide_eq_true hp
  have hlt : p < y.ports4.length := by show p < 4; omega
  refine ⟨y.ports4[p], List.getElem?_eq_getElem hlt, ?_⟩
  unfold beyondV
  rw [if_pos ht, Int.toNat_natCast]
  obtain ⟨j, e, hj⟩ := atV_yes ht
  have : i = j := by omega
  subst this
  rw [hy] at hj
  rw [← Option.some.inj hj, List.getElem?_eq_getElem hlt]
  rfl

end Go.Proofs.Ytljpiafopbfdlaa
namespace Go.Proofs.Ytljpiafopbfdlaa
open Go.RowKit Go.Shelf
set_option linter.unusedVariables false
set_option linter.unusedSimpArgs false

theorem joined_back {l : Lay} {s p : Int} (h : joinedL l = true) {q : Int × Int} (hq : beyondV l s p = q) : q = (-1, 0) ∨ (q.1 ≠ -1 ∧ thereV l s p = true ∧ thereV l q.1 q.2 = true ∧ q.1 ≠ s ∧ beyondV l q.1 q.2 = (s, p)) := by
  cases ht : thereV l s p
  · exact .inl (by rw [← hq, beyondV_no ht])
  · obtain ⟨j, rfl, hx⟩ := atV_yes ht
    obtain ⟨k, rfl⟩ : ∃ k : Nat, p = k := by
      unfold thereV at ht
      rw [withinA_iff] at ht
      exact ⟨p.toNat, by omega⟩
    have hk : k < (pK (atV l j k).k).toNat := by
      rw [there_at, kindV_at hx] at ht
      exact of_decide_eq_true ht
    have hj := ((joinedL_iff.1 h).2 j _ hx).2 k hk
    unfold joinedP at hj
    rw [hq] at hj
    simp only [Bool.or_eq_true, Bool.and_eq_true, beq_iff_eq, Bool.not_eq_true', beq_eq_false_iff_ne] at hj
    rcases hj with ⟨h1, h2⟩ | ⟨h1, h2, h3⟩
    · exact .inl (Prod.ext h1 h2)
    · right
      have hb : beyondV l q.1 q.2 = ((j : Int), (k : Int)) := Prod.ext h2 h3
      have htq : thereV l q.1 q.2 = true := by
        cases e : thereV l q.1 q.2
        · rw [beyondV_no e] at hb
          have := congrArg Prod.fst hb
          simp at this
        · rfl
      obtain ⟨i, x, e, _⟩ := thereV_some htq
      exact ⟨by omega, rfl, htq, h1, hb⟩
theorem kindV_secs {l m : Lay} (h : m.secs = l.secs) (s : Int) : kindV m s = kindV l s := by unfold kindV; rw [h]
theorem thereV_kind {l m : Lay} (h : ∀ s, kindV m s = kindV l s) (s p : Int) : thereV m s p = thereV l s p := by unfold thereV; rw [h]
theorem beyondV_at {l m : Lay} (h : ∀ s, kindV m s = kindV l s) {s : Int} (hs : m.secs[s.toNat]? = l.secs[s.toNat]?) (p : Int) : beyondV m s p = beyondV l s p := by
  unfold beyondV atV
  rw [thereV_kind h, hs]
theorem joinedP_secs {l m : Lay} (h : m.secs = l.secs) (s p : Int) : joinedP m s p = joinedP l s p := by
  have hb : ∀ s p, beyondV m s p = beyondV l s p := fun s p => beyondV_at (kindV_secs h) (by rw [h]) p
  unfold joinedP
  rw [hb, hb]
theorem joinedL_secs {l m : Lay} (h : m.secs = l.secs) : joinedL m = joinedL l := by
  rw [Bool.eq_iff_iff, joinedL_iff, joinedL_iff, h]
  constructor
  · rintro ⟨h1, h2⟩
    exact ⟨h1, fun s x hx => ⟨(h2 s x hx).1, fun p hp => by rw [← joinedP_secs h]; exact (h2 s x hx).2 p hp⟩⟩
  · rintro ⟨h1, h2⟩
    exact ⟨h1, fun s x hx => ⟨(h2 s x hx).1, fun p hp => by rw [joinedP_secs h]; exact (h2 s x hx).2 p hp⟩⟩
end Go.Proofs.Ytljpiafopbfdlaa
namespace Go.Proofs.Ytljpiafopbfdlaa
open Go.RowKit Go.Shelf
set_option linter.unusedVariables false
set_option linter.unusedSimpArgs false

/-- Pairs of two numbers below n, the lower one first, by their second. -/
def rowP (b : Nat) : List (Nat × Nat) := (List.range b).map fun a => (a, b)
def pairsL (n : Nat) : List (Nat × Nat) := (List.range n).flatMap rowP
theorem pairsL_next (n : Nat) : pairsL (n + 1) = pairsL n ++ rowP n := by
  unfold pairsL
  rw [List.range_succ, List.flatMap_append]
  simp
theorem mem_rowP {b : Nat} {x : Nat × Nat} : x ∈ rowP b ↔ x.1 < b ∧ x.2 = b := by
  unfold rowP
  rw [List.mem_map]
  constructor
  · rintro ⟨a, ha, rfl⟩
    exact ⟨List.mem_range.1 ha, rfl⟩
  · rintro ⟨h1, h2⟩
    exact ⟨x.1, List.mem_range.2 h1, Prod.ext rfl h2.symm⟩
theorem mem_pairsL {n : Nat} {x : Nat × Nat} : x ∈ pairsL n ↔ x.1 < x.2 ∧ x.2 < n := by
  unfold pairsL
  rw [List.mem_flatMap]
  constructor
  · rintro ⟨b, hb, hx⟩
    have := List.mem_range.1 hb
    have := mem_rowP.1 hx
    omega
  · rintro ⟨h1, h2⟩
    exact ⟨x.2, List.mem_range.2 h2, mem_rowP.2 ⟨h1, rfl⟩⟩
theorem pairs_some {p : Nat × Nat → Bool} : ∀ {n : Nat} {x : Nat × Nat}, (pairsL n).find? p = some x → x.1 < x.2 ∧ x.2 < n ∧ p x = true ∧ ∀ y : Nat × Nat, y.1 < y.2 → y.2 < x.2 → p y = false
  | 0, x, h => by simp [pairsL] at h
  | n + 1, x, h => by
    rw [pairsL_next, List.find?_append] at h
    cases e : (pairsL n).find? p with
    | some z =>
      rw [e, Option.some_or, Option.some.injEq] at h
      subst h
      obtain ⟨h1, h2, h3, h4⟩ := pairs_some e
      exact ⟨h1, by omega, h3, h4⟩
    | none =>
      rw [e, Option.none_or] at h
      have hm := mem_rowP.1 (List.mem_of_find?_eq_some h)
      refine ⟨by omega, by omega, List.find?_some h, fun y hy hb => ?_⟩
      have := List.find?_eq_none.1 e y (mem_pairsL.2 ⟨hy, by omega⟩)
      simpa using this

section
variable {α : Type}
/-- Are the two of those numbers alike? -/
def dupP (same : α → α → Bool) (l : List α) (x : Nat × Nat) : Bool := match l[x.1]?, l[x.2]? with | some a, some b => same a b | _, _ => false
theorem dupP_at {same : α → α → Bool} {l : List α} {i j : Nat} {a b : α} (ha : l[i]? = some a) (hb : l[j]? = some b) : dupP same l (i, j) = same a b := by unfold dupP; simp only [ha, hb]
/-- The least number of one that has the same ahead of it, and yes; 0, no, if no two are the same. -/
def secondV (same : α → α → Bool) (l : List α) : Int × Bool := match (pairsL l.length).find? (dupP same l) with | some x => ((x.2 : Int), true) | none => (0, false)
/-- No two are alike. -/
def NoTwo (same : α → α → Bool) (l : List α) : Prop := ∀ (i j : Nat) (a b : α), i < j → l[i]? = some a → l[j]? = some b → same a b = false
theorem dupP_no {same : α → α → Bool} {l : List α} {x : Nat × Nat} : dupP same l x = false ↔ ∀ a b, l[x.1]? = some a → l[x.2]? = some b → same a b = false := by
  unfold dupP
  cases h1 : l[x.1]? with
  | none => simp
  | some a =>
    cases h2 : l[x.2]? with
    | none => simp
    | some b => simp
theorem dupP_yes {same : α → α → Bool} {l : List α} {x : Nat × Nat} : dupP same l x = true ↔ ∃ a b, l[x.1]? = some a ∧ l[x.2]? = some b ∧ same a b = true := by
  unfold dupP
  cases h1 : l[x.1]? with
  | none => simp
  | some a =>
    cases h2 : l[x.2]? with
    | none => simp
    | some b => simp
theorem second_no {same : α → α → Bool} {l : List α} : secondV same l = (0, false) ↔ NoTwo same l := by
  unfold secondV NoTwo
  cases e : (pairsL l.length).find? (dupP same l) with
  | none =>
    simp only [true_iff]
    intro i j a b hij hi hj
    have := List.find?_eq_none.1 e (i, j) (mem_pairsL.2 ⟨hij, (List.getElem?_eq_some_iff.1 hj).1⟩)
    rw [Bool.not_eq_true, dupP_at hi hj] at this
    exact this
  | some x =>
    simp only [Prod.mk.injEq, Bool.true_eq_false, and_false, false_iff]
    intro h
    obtain ⟨h1, h2, h3, _⟩ := pairs_some e
    obtain ⟨a, b, ha, hb, hs⟩ := dupP_yes.1 h3
    rw [h x.1 x.2 a b h1 ha hb] at hs
    cases hs
theorem second_yes {same : α → α → Bool} {l : List α} {r : Int × Bool} (hr : secondV same l = r) (h : r.2 = true) : ∃ b : Nat, r = ((b : Int), true) ∧ 0 < b ∧ b < l.length ∧ NoTwo same (l.take b) ∧ ∃ (i : Nat) (x y : α), i < b ∧ l[i]? = some x ∧ l[b]? = some y ∧ same x y = true := by
  subst hr
  unfold secondV at h ⊢
  cases e : (pairsL l.length).find? (dupP same l) with
  | none => rw [e] at h; cases h
  | some x =>
    obtain ⟨h1, h2, h3, h4⟩ := pairs_some e
    obtain ⟨a, b, ha, hb, hs⟩ := dupP_yes.1 h3
    refine ⟨x.2, rfl, by omega, h2, fun i j u v hij hi hj => ?_, x.1, a, b, h1, ha, hb, hs⟩
    rw [List.getElem?_take] at hi hj
    split at hj
    · rw [if_pos (by omega)] at hi
      have := h4 (i, j) hij (by assumption)
      exact dupP_no.1 this u v hi hj
    · cases hj
/-- Two alike for the first time at the end. -/
theorem second_last {same : α → α → Bool} {l : List α} {y : α} (h : NoTwo same l) {i : Nat} {x : α} (hx : l[i]? = some x) (hs : same x y = true) : secondV same (l ++ [y]) = ((l.length : Int), true) := by
  have hi := (List.getElem?_eq_some_iff.1 hx).1
  cases e : (secondV same (l ++ [y])).2 with
  | false =>
    have h0 : secondV same (l ++ [y]) = (0, false) := by
      unfold secondV at e ⊢
      cases f : (pairsL (l ++ [y]).length).find? (dupP same (l ++ [y])) with
      | none => rfl
      | some z => rw [f] at e; cases e
    have := second_no.1 h0 i l.length x y hi (by rw [List.getElem?_append_left hi]; exact hx) (by rw [List.getElem?_append_right (Nat.le_refl _), Nat.sub_self]; rfl)
    rw [hs] at this
    cases this
  | true =>
    obtain ⟨b, hb, h1, h2, _, j, u, v, hj, hu, hv, hs'⟩ := second_yes rfl e
    rw [hb]
    rw [List.length_append, List.length_singleton] at h2
    by_cases hbl : b < l.length
    · rw [List.getElem?_append_left (by omega)] at hu
      rw [List.getElem?_append_left hbl] at hv
      rw [h j b u v hj hu hv] at hs'
      cases hs'
    · obtain rfl : b = l.length := by omega
      rfl
theorem NoTwo.take {same : α → α → Bool} {l : List α} (h : NoTwo same l) (n : Nat) : NoTwo same (l.take n) := fun i j a b hij hi hj => by
  rw [List.getElem?_take] at hi hj
  split at hj
  · rw [if_pos (by omega)] at hi
    exact h i j a b hij hi hj
  · cases hj
theorem NoTwo.nil (same : α → α → Bool) : NoTwo same [] := fun i j a b _ h _ => by simp at h
end

/-- Alike: two signals, exits, flanks. -/
def sameG (a b : Int × Int) : Bool := a.1 == b.1 && a.2 == b.2
def sameE (a b : Exm) : Bool := a.s == b.s && a.q == b.q
def sameF (a b : Int × Int × Int × Int) : Bool := decide (a.1 = b.1) && (decide (a.2.1 = b.2.1) && decide (a.2.2.1 = b.2.2.1))
end Go.Proofs.Ytljpiafopbfdlaa
