/- Package join: all ports of all sections, one by one. Package join: joined; rows of steps; Steps; the document's own Steps. Package join: Joined. The document's own layer 7: Joined. Joins as a matching: what lies beyond what lies beyond; joins speak of the sections alone. -/
import Derived.RangeFuncNested
import Derived.RangeFuncBound
import Derived.RangeFuncCalls
import Derived.RangeFuncLeaves
import Derived.RangeFuncBox
import Derived.Shelf.Abstract
import Derived.Shelf.RegionOpen
import Derived.WalkKit
import Derived.OwnWalkIn
import Derived.TacticsInMore
import Derived.LoopNIn
import Derived.LoopIn
import Derived.WalkMore
import Derived.Test.YtbdbgoploednbaaDoorQI
import Derived.Test.YtbdbgoploednbaaDoorQJoinB
import Derived.Test.YtbdbgoploednbaaDoorQC
import Derived.Test.YtbdbgoploednbaaDoorQB
namespace Go.Proofs.YtbdbgoploednbaaDoor
open Go.RowKit Go.Shelf
set_option linter.unusedVariables false
set_option linter.unusedSimpArgs false

attribute [local go_sem] Oper.semAt_some

/-- The ports of all sections, in order. -/
def portsTo (l : Lay) (n : Nat) : List (Int × Int) := (List.range n).flatMap fun s : Nat => portsS l s
def portsAll (l : Lay) : List (Int × Int) := portsTo l l.secs.length
theorem portsTo_next (l : Lay) (n : Nat) : portsTo l (n + 1) = portsTo l n ++ portsS l n := by
  unfold portsTo
  rw [List.range_succ, List.flatMap_append]
  simp
theorem portsTo_split (l : Lay) : ∀ (n m : Nat), n ≤ m → ∃ r, portsTo l m = portsTo l n ++ r
  | n, 0, h => ⟨[], by have : n = 0 := by omega
                       subst this; simp⟩
  | n, m + 1, h => by
    by_cases e : n = m + 1
    · subst e; exact ⟨[], by simp⟩
    · obtain ⟨r, hr⟩ := portsTo_split l n m (by omega)
      exact ⟨r ++ portsS l m, by rw [portsTo_next, hr, List.append_assoc]⟩
theorem portsAll_at {l : Lay} {s j : Nat} {x : Int × Int} (hs : s < l.secs.length) (hx : (portsS l s)[j]? = some x) : (portsAll l)[(portsTo l s).length + j]? = some x := by
  obtain ⟨r, hr⟩ := portsTo_split l (s + 1) l.secs.length (by omega)
  unfold portsAll
  have hlt := (List.getElem?_eq_some_iff.1 hx).1
  rw [hr, portsTo_next, List.append_assoc, List.getElem?_append_right (by omega), Nat.add_sub_cancel_left, List.getElem?_append_left hlt]
  exact hx

/-- The marks that ranges over a function have left. -/
def marks (Ds : List Nat) : List Deferred := Ds.map fun D => { target := .collected D, args := #[] }
/-- They lie beyond B, each once, and are none of the loop's own. -/
structure Marks (B : Nat) (U : Nat → Prop) (Ds : List Nat) (W : World) : Prop where
  once : Ds.Nodup
  all : ∀ D ∈ Ds, W.heap[D]? = some (.deferred (some [])) ∧ B ≤ D ∧ ¬ U D
theorem leaves_marks {P : Program} {fn : Func} {tmps : Array Value} {R : Ending → World → Prop} {v : Value} {B : Nat} {U : Nat → Prop} (hres : ∀ w, (results fn tmps).run P w = .ok v w) : ∀ (Ds : List Nat) (W : World), Marks B U Ds W → (∀ W', Stays B U W W' → R (.returned v) W') → LeavesInM Fence.wide 3 P fn tmps R (marks Ds) .returning W
  | [], W, _, h => ⟨v, hres W, h W ⟨⟨rfl, rfl, rfl⟩, Nat.le_refl _, fun _ _ h _ => h⟩⟩
  | D :: Ds, W, hm, h => by
    obtain ⟨h1, h2, h3⟩ := hm.all D (by simp)
    have hn := List.nodup_cons.1 hm.once
    refine ⟨by simp, .inl ⟨D, _, rfl, run_takeDeferred h1, leaves_marks hres Ds _ ⟨hn.2, fun E hE => ?_⟩ fun W' hW' => h W' ((Stays.put W _ h2 h3).trans hW')⟩⟩
    obtain ⟨k1, k2, k3⟩ := hm.all E (by simp [hE])
    exact ⟨(World.putObj_heap_other (fun e => by subst e; exact hn.1 hE)).trans k1, k2, k3⟩
theorem Marks.stays {B : Nat} {U : Nat → Prop} {Ds : List Nat} {W W' : World} (h : Marks B U Ds W) {C : Nat} {V : Nat → Prop} (hs : Stays C V W W') (hC : ∀ D ∈ Ds, D < C) : Marks B U Ds W' :=
  ⟨h.once, fun D hD => let ⟨h1, h2, h3⟩ := h.all D hD; ⟨hs.rest D _ h1 (.inl (hC D hD)), h2, h3⟩⟩
theorem Marks.kept {B : Nat} {U U' : Nat → Prop} {Ds : List Nat} {W W' : World} (h : Marks B U Ds W) {R : Nat → Prop} (hg : Grew U U' W W') (hs : Kept R B U W W') : Marks B U' Ds W' :=
  ⟨h.once, fun D hD => let ⟨h1, h2, h3⟩ := h.all D hD; ⟨hs.rest D _ h1 (.inr ⟨h2, h3⟩), h2, fun hu => (hg.new D hu).elim h3 fun hl => by have := (Array.getElem?_eq_some_iff.1 h1).1; omega⟩⟩

/-- What the walk over all sections knows, having given i ports. -/
structure AllI (J : (Nat → Prop) → Nat → World → Prop) (R : Nat → Prop) (w0 : World) (B : Nat) (yv : Value) (Ds : List Nat) (U : Nat → Prop) (i : Nat) (W : World) : Prop where
  j : J U i W
  lt : ∀ k, U k → k < W.heap.size
  keeps : Keeps R w0 W
  box : Whole W B 116 [yv]
  boxU : ¬ U B
  marks : Marks B U Ds W
theorem AllI.stays {J : (Nat → Prop) → Nat → World → Prop} {R : Nat → Prop} {w0 : World} {B : Nat} {yv : Value} {Ds : List Nat} {U : Nat → Prop} {i : Nat} {W W' : World} (h : AllI J R w0 B yv Ds U i W) (hJ : Safe B J) (hR : ∀ k, R k → k < B) {C : Nat} {V : Nat → Prop} (hs : Stays C V W W') (hBC : B < C) (hU : ∀ k, U k → k < C ∨ V k) (hD : ∀ D ∈ Ds, D < C) : AllI J R w0 B yv Ds U i W' :=
  ⟨hJ _ _ _ _ h.j ⟨hs.same, hs.size, fun k o ho hk => hs.rest k o ho (hk.elim (fun h => .inl (by omega)) (hU k))⟩, fun k hk => Nat.lt_of_lt_of_le (h.lt k hk) hs.size, fun k o hk ho => hs.rest k o (h.keeps k o hk ho) (.inl (by have := hR k hk; omega)), hs.whole h.box (.inl hBC), h.boxU, h.marks.stays hs hD⟩

end Go.Proofs.YtbdbgoploednbaaDoor
namespace Go.Proofs.YtbdbgoploednbaaDoor
open Go.RowKit Go.Shelf
set_option linter.unusedVariables false
set_option linter.unusedSimpArgs false

/-- append(v, x), v a row of steps of the call's own, nil or not. -/
theorem append_step (base n : Nat) (v : Value) (xs : List Value) (x : Int × Int × Int) (w : World) (a : Nat) (hown : w.ownsRow base 56 3 v n xs) (hc : Whole w a 56 (stpCells x)) (hn : n ≤ 1000) (hbase : base ≤ w.heap.size) :
    ∃ v' w', (Builtin.append_ #[30, 30] 30 #[v, .slice (some ⟨a, 0, none⟩) 1 1]).run Tryd.prog w = .ok v' w' ∧ w'.ownsRow base 56 3 v' (n + 1) (xs ++ stpCells x) ∧ Below base w w' := by
  obtain ⟨i, i1, i2, i3, i4⟩ := info_parts infoStep
  obtain ⟨v', w', r1, r2, r3, r4, r5⟩ := run_append_own_at (P := Tryd.prog) w base 30 30 56 i (.agg #[.int .i64 0, .int .i64 0, .int .i64 0]) 3 24 Tryd.underlying30 i1 i2 i3 i4 rfl (by omega) v n xs hown ⟨a, 0, none⟩ 1 1 (stpCells x) rfl (row_add (hc.row hc.lt)) (oneStep x) (by unfold maxLen; omega) (by omega) hbase
  exact ⟨v', w', r1, r2, (Below.refl base w).grown r3 hbase (fun k e => (hown.lt k e).1)⟩
/-- What is owned, of elements of k cells, is owned in whatever grows out of the world; read as a slice. -/
theorem ownsS_keep {w w' : World} {base e n k : Nat} {v : Value} {xs : List Value} (h : w.ownsRow base e k v n xs) (hb : Below w.heap.size w w') : w'.ownsRow base e k v n xs := by
  refine ⟨h.1, ?_⟩
  rcases h.2 with h2 | ⟨g', cap', cur, hv, h3, h4, r⟩
  · exact .inl h2
  · exact .inr ⟨g', cap', cur, hv, h3, (hb.block g' (Array.getElem?_eq_some_iff.1 h4).1).trans h4, r⟩
theorem ownsS_slice {w : World} {base e n : Nat} {v : Value} {xs : List Value} (h : w.ownsRow base e 3 v n xs) : ∃ A c, v = .slice A n c ∧ Row w w.heap.size A xs ∧ n ≤ c := by
  rcases h.2 with ⟨rfl, rfl⟩ | ⟨g, cap, cur, rfl, hg, _, hn, _⟩
  · have : xs = [] := List.eq_nil_of_length_eq_zero (by have := h.1; omega)
    subst this
    exact ⟨none, 0, rfl, Row.nil _ _ _, Nat.le_refl _⟩
  · exact ⟨_, cap, rfl, owns_row2 h, hn⟩
/-- To which ports ways go from i in a section of kind k; the steps on. -/
def outsK (k i : Int) : List Int := outsTo (nK k) 0 (bK k) (cK k) (dK k) i (pK k).toNat
theorem outsK_no (i : Int) : outsK 0 i = [] := rfl
theorem outsK_le (k i : Int) : (outsK k i).length ≤ 4 := Nat.le_trans (outsTo_le _ _ _ _ _ _ _) (by have := pK_le4 k; omega)
def onward (q : Int × Int) (o : Int) : Int × Int × Int := (q.1, q.2, o)
def stepsV (l : Lay) (s p : Int) : List (Int × Int × Int) := (outsK (atV l (beyondV l s p).1 (beyondV l s p).2).k (beyondV l s p).2).map (onward (beyondV l s p))
theorem steps_cells {q : Int × Int} {os : List Int} {j : Nat} {o : Int} (h : os[j]? = some o) : ((os.take (j + 1)).map (onward q)).flatMap stpCells = ((os.take j).map (onward q)).flatMap stpCells ++ stpCells (onward q o) := by
  rw [List.take_add_one, h, List.map_append, List.flatMap_append]
  simp
theorem steps_len {q : Int × Int} {os : List Int} {j : Nat} (h : j ≤ os.length) : ((os.take j).map (onward q)).length = j := by rw [List.length_map, List.length_take]; omega
theorem atV_range {l : Lay} {w : World} (hl : Lies l w) (s p : Int) : 0 ≤ (atV l s p).k ∧ (atV l s p).k ≤ 255 := by
  cases h : thereV l s p
  · rw [atV_no h]; exact ⟨Int.le_refl _, by show (0 : Int) ≤ 255; omega⟩
  · rw [atV_kind h]; exact kindV_range hl s

section
variable {P : World → Prop} {w : World}
end
end Go.Proofs.YtbdbgoploednbaaDoor
namespace Go.Proofs.YtbdbgoploednbaaDoor
open Go.RowKit Go.Shelf
set_option linter.unusedVariables false
set_option linter.unusedSimpArgs false

attribute [local go_sem] Oper.semAt_some
section
variable {P : World → Prop} {w : World}
end
/-- Are the sections joined? -/
def joinedL (l : Lay) : Bool := decide ((l.secs.length : Int) ≤ 24) && (!(l.secs.any fun x => !rightK x) && !((portsAll l).any fun x => !joinedP l x.1 x.2))
/-- What a round of Joined knows. -/
structure JoI (l : Lay) (w : World) (j : Nat) (W : World) : Prop where
  below : Below w.heap.size w W
  box0 : Whole W w.heap.size 29 l.cells
  box1 : Whole W (w.heap.size + 1) 4 [.bool false]
  none : NoneUp (fun x : Int × Int => !joinedP l x.1 x.2) (portsAll l) j
theorem JoI.safe (l : Lay) (w : World) {B : Nat} (hB : w.heap.size + 2 ≤ B) : Safe B (fun (_ : Nat → Prop) => JoI l w) := by
  rintro U j W W' ⟨h1, h2, h3, h4⟩ ht
  exact ⟨Safe.below (β := Unit) (B := B) (by omega) (Nat.le_refl _) U () W W' h1 ht, ht.whole h2 (.inl (by omega)), ht.whole h3 (.inl (by omega)), h4⟩

end Go.Proofs.YtbdbgoploednbaaDoor
namespace Go.Proofs.YtbdbgoploednbaaDoor
open Go.RowKit Go.Shelf
set_option linter.unusedVariables false
set_option linter.unusedSimpArgs false

theorem portsTo_mem {l : Lay} {n : Nat} {x : Int × Int} : x ∈ portsTo l n ↔ ∃ s : Nat, s < n ∧ x ∈ portsS l s := by
  unfold portsTo
  rw [List.mem_flatMap]
  simp
theorem joinedL_iff {l : Lay} : joinedL l = true ↔ l.secs.length ≤ 24 ∧ ∀ (s : Nat) (x : Sec), l.secs[s]? = some x → rightK x = true ∧ ∀ p : Nat, p < (pK x.k).toNat → joinedP l s p = true := by
  unfold joinedL
  rw [Bool.and_eq_true, Bool.and_eq_true, Bool.not_eq_true', Bool.not_eq_true', List.any_eq_false, List.any_eq_false, decide_eq_true_iff]
  constructor
  · rintro ⟨h1, h2, h3⟩
    refine ⟨by omega, fun s x hx => ⟨?_, fun p hp => ?_⟩⟩
    · have := h2 x (List.mem_of_getElem? hx)
      simpa using this
    · have hs := (List.getElem?_eq_some_iff.1 hx).1
      have hk := kindV_at hx
      have hm : ((s : Int), (p : Int)) ∈ portsS l s := by
        unfold portsS
        rw [hk]
        exact List.mem_map.2 ⟨p, List.mem_range.2 hp, rfl⟩
      have := h3 _ (portsTo_mem.2 ⟨s, hs, hm⟩)
      simpa using this
  · rintro ⟨h1, h2⟩
    refine ⟨by omega, fun x hx => ?_, fun x hx => ?_⟩
    · obtain ⟨s, hs, e⟩ := List.mem_iff_getElem.1 hx
      have := (h2 s x (by rw [List.getElem?_eq_getElem hs, e])).1
      simp [this]
    · obtain ⟨s, hs, hm⟩ := portsTo_mem.1 hx
      unfold portsS at hm
      obtain ⟨p, hp, rfl⟩ := List.mem_map.1 hm
      have hx' : l.secs[s]? = some l.secs[s] := List.getElem?_eq_getElem hs
      rw [kindV_at hx'] at hp
      have := (h2 s _ hx').2 p (List.mem_range.1 hp)
      simp [this]
/-- What a port of section i joins to, by its section. -/
theorem beyond_at {l : Lay} {i p : Nat} {y : Sec} (hy : l.secs[i]? = some y) (hp : p < (pK y.k).toNat) : ∃ q, y.ports4[p]? = some q ∧ beyondV l i p = q := by
  have h4 := pK_le4 y.k
  have hk := kindV_at hy
  have ht : thereV l i p = true := by rw [there_at, hk]; exact decide_eq_true hp
  have hlt : p < y.ports4.length := by show p < 4; omega
  refine ⟨y.ports4[p], List.getElem?_eq_getElem hlt, ?_⟩
  unfold beyondV
  rw [if_pos ht, Int.toNat_natCast]
  obtain ⟨j, e, hj⟩ := atV_yes ht
  have : i = j := by omega
  subst this
  rw [hy] at hj
  rw [← Option.some.inj hj, List.getElem?_eq_getElem hlt]
  rfl

end Go.Proofs.YtbdbgoploednbaaDoor
namespace Go.Proofs.YtbdbgoploednbaaDoor
open Go.RowKit Go.Shelf
set_option linter.unusedVariables false
set_option linter.unusedSimpArgs false

theorem joined_back {l : Lay} {s p : Int} (h : joinedL l = true) {q : Int × Int} (hq : beyondV l s p = q) : q = (-1, 0) ∨ (q.1 ≠ -1 ∧ thereV l s p = true ∧ thereV l q.1 q.2 = true ∧ q.1 ≠ s ∧ beyondV l q.1 q.2 = (s, p)) := by
  cases ht : thereV l s p
  · exact .inl (by rw [← hq, beyondV_no ht])
  · obtain ⟨j, rfl, hx⟩ := atV_yes ht
    obtain ⟨k, rfl⟩ : ∃ k : Nat, p = k := by
      unfold thereV at ht
      rw [withinA_iff] at ht
      exact ⟨p.toNat, by omega⟩
    have hk : k < (pK (atV l j k).k).toNat := by
      rw [there_at, kindV_at hx] at ht
      exact of_decide_eq_true ht
    have hj := ((joinedL_iff.1 h).2 j _ hx).2 k hk
    unfold joinedP at hj
    rw [hq] at hj
    simp only [Bool.or_eq_true, Bool.and_eq_true, beq_iff_eq, Bool.not_eq_true', beq_eq_false_iff_ne] at hj
    rcases hj with ⟨h1, h2⟩ | ⟨h1, h2, h3⟩
    · exact .inl (Prod.ext h1 h2)
    · right
      have hb : beyondV l q.1 q.2 = ((j : Int), (k : Int)) := Prod.ext h2 h3
      have htq : thereV l q.1 q.2 = true := by
        cases e : thereV l q.1 q.2
        · rw [beyondV_no e] at hb
          have := congrArg Prod.fst hb
          simp at this
        · rfl
      obtain ⟨i, x, e, _⟩ := thereV_some htq
      exact ⟨by omega, rfl, htq, h1, hb⟩
theorem kindV_secs {l m : Lay} (h : m.secs = l.secs) (s : Int) : kindV m s = kindV l s := by unfold kindV; rw [h]
theorem thereV_kind {l m : Lay} (h : ∀ s, kindV m s = kindV l s) (s p : Int) : thereV m s p = thereV l s p := by unfold thereV; rw [h]
theorem beyondV_at {l m : Lay} (h : ∀ s, kindV m s = kindV l s) {s : Int} (hs : m.secs[s.toNat]? = l.secs[s.toNat]?) (p : Int) : beyondV m s p = beyondV l s p := by
  unfold beyondV atV
  rw [thereV_kind h, hs]
theorem joinedP_secs {l m : Lay} (h : m.secs = l.secs) (s p : Int) : joinedP m s p = joinedP l s p := by
  have hb : ∀ s p, beyondV m s p = beyondV l s p := fun s p => beyondV_at (kindV_secs h) (by rw [h]) p
  unfold joinedP
  rw [hb, hb]
theorem joinedL_secs {l m : Lay} (h : m.secs = l.secs) : joinedL m = joinedL l := by
  rw [Bool.eq_iff_iff, joinedL_iff, joinedL_iff, h]
  constructor
  · rintro ⟨h1, h2⟩
    exact ⟨h1, fun s x hx => ⟨(h2 s x hx).1, fun p hp => by rw [← joinedP_secs h]; exact (h2 s x hx).2 p hp⟩⟩
  · rintro ⟨h1, h2⟩
    exact ⟨h1, fun s x hx => ⟨(h2 s x hx).1, fun p hp => by rw [joinedP_secs h]; exact (h2 s x hx).2 p hp⟩⟩
end Go.Proofs.YtbdbgoploednbaaDoor
