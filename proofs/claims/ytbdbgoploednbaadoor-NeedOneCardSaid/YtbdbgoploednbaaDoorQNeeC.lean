/- Package need: what a path needs, one by one. -/
import Derived.RangeFuncNested
import Derived.RangeFuncBound
import Derived.RangeFuncCalls
import Derived.RangeFuncLeaves
import Derived.RangeFuncBox
import Derived.Shelf.Abstract
import Derived.Shelf.RegionOpen
import Derived.WalkKit
import Derived.OwnWalkIn
import Derived.TacticsInMore
import Derived.LoopNIn
import Derived.LoopIn
import Derived.WalkMore
import Derived.Test.YtbdbgoploednbaaDoorQNeeB
import Derived.Test.YtbdbgoploednbaaDoorQM
namespace Go.Proofs.YtbdbgoploednbaaDoor
open Go.RowKit Go.Shelf
set_option linter.unusedVariables false
set_option linter.unusedSimpArgs false

attribute [local go_sem] Oper.semAt_some

/-- What one step wants; what the first n of them do. -/
def wantN (l : Lay) (x : Int × Int × Int × Int) : List (Int × Int × Int) := wantsV l x.2.1 x.2.2.1 x.2.2.2 x.1
def needTo (l : Lay) (xs : List (Int × Int × Int × Int)) (n : Nat) : List (Int × Int × Int) := (xs.take n).flatMap (wantN l)
theorem numF_flat (l : Lay) : ∀ (ss : List (Int × Int × Int)) (k : Int), (numF ss k).flatMap (wantN l) = ofS l ss k
  | [], _ => rfl
  | s :: r, k => by
    show ((k, s) :: numF r (k + 1)).flatMap (wantN l) = wantsV l s.1 s.2.1 s.2.2 k ++ ofS l r (k + 1)
    rw [List.flatMap_cons, numF_flat l r (k + 1)]
    rfl
theorem of_flat (l : Lay) (p : Pth) : (stepsN l p).flatMap (wantN l) = ofV l p := by
  unfold stepsN ofV ofO
  rw [List.flatMap_append, numF_flat, List.flatMap_map]
  rfl
theorem needTo_next {l : Lay} {xs : List (Int × Int × Int × Int)} {j : Nat} {x : Int × Int × Int × Int} (h : xs[j]? = some x) : needTo l xs (j + 1) = needTo l xs j ++ wantN l x := by
  unfold needTo
  rw [List.take_add_one, h, Option.toList_some, List.flatMap_append]
  simp
theorem needTo_at {l : Lay} {xs : List (Int × Int × Int × Int)} {j k : Nat} {x : Int × Int × Int × Int} {y : Int × Int × Int} (hx : xs[j]? = some x) (hy : (wantN l x)[k]? = some y) : (xs.flatMap (wantN l))[(needTo l xs j).length + k]? = some y := by
  have hk := (List.getElem?_eq_some_iff.1 hy).1
  have e : xs.flatMap (wantN l) = needTo l xs j ++ (wantN l x ++ (xs.drop (j + 1)).flatMap (wantN l)) := by
    unfold needTo
    have := List.take_append_drop j xs
    rw [drop_at hx] at this
    conv => lhs; rw [← this]
    rw [List.flatMap_append, List.flatMap_cons]
  rw [e, List.getElem?_append_right (by omega), Nat.add_sub_cancel_left, List.getElem?_append_left hk]
  exact hy
theorem want_len {l : Lay} {F : Nat} (hF : l.flanks.length ≤ F) (x : Int × Int × Int × Int) : (wantN l x).length ≤ F + 1 := by
  unfold wantN wantsV flanksV
  have h1 := first_le l x.2.1 x.2.2.1 x.2.2.2 x.1
  have h2 := List.length_filter_le (isFlk l x.2.1 x.2.2.1 x.2.2.2) l.flanks
  rw [List.length_append, List.length_map]
  omega
theorem of_len {l : Lay} {p : Pth} {F S : Nat} (hF : l.flanks.length ≤ F) (hS : p.ss.length + (overL10 l p.x).length ≤ S) : (ofV l p).length ≤ S * (F + 1) := by
  rw [← of_flat]
  have hs := stepsN_len l p
  generalize stepsN l p = xs at hs
  have : ∀ xs : List (Int × Int × Int × Int), (xs.flatMap (wantN l)).length ≤ xs.length * (F + 1) := fun xs => by
    induction xs with
    | nil => simp
    | cons x r ih =>
      rw [List.flatMap_cons, List.length_append, List.length_cons, Nat.add_mul, Nat.one_mul]
      have := want_len hF x
      omega
  exact Nat.le_trans (this xs) (Nat.mul_le_mul_right _ (by omega))

/-- What the walk over all steps knows, having given i needs. -/
structure NeeI (J : (Nat → Prop) → Nat → World → Prop) (R : Nat → Prop) (w0 : World) (B : Nat) (yv : Value) (U : Nat → Prop) (i : Nat) (W : World) : Prop where
  j : J U i W
  lt : ∀ k, U k → k < W.heap.size
  keeps : Keeps R w0 W
  box : Whole W B 86 [yv]
  boxU : ¬ U B
theorem NeeI.stays {J : (Nat → Prop) → Nat → World → Prop} {R : Nat → Prop} {w0 : World} {B : Nat} {yv : Value} {U : Nat → Prop} {i : Nat} {W W' : World} (h : NeeI J R w0 B yv U i W) (hJ : Safe B J) (hR : ∀ k, R k → k < B) {C : Nat} {V : Nat → Prop} (hs : Stays C V W W') (hBC : B < C) (hU : ∀ k, U k → k < C ∨ V k) : NeeI J R w0 B yv U i W' :=
  ⟨hJ _ _ _ _ h.j ⟨hs.same, hs.size, fun k o ho hk => hs.rest k o ho (hk.elim (fun h => .inl (by omega)) (hU k))⟩, fun k hk => Nat.lt_of_lt_of_le (h.lt k hk) hs.size, fun k o hk ho => hs.rest k o (h.keeps k o hk ho) (.inl (by have := hR k hk; omega)), hs.whole h.box (.inl hBC), h.boxU⟩
/-- What a round over one step's wants knows: W0: as the round began; v: the row of what it wants. -/
structure NeeR (J : (Nat → Prop) → Nat → World → Prop) (R : Nat → Prop) (w0 : World) (B h n : Nat) (yv : Value) (U0 : Nat → Prop) (W0 : World) (v : Value) (m : Nat) (xs : List Value) (V : Nat → Prop) (i : Nat) (W : World) : Prop where
  nee : NeeI J R w0 B yv V i W
  sub : ∀ k, V k → k < h + 2 ∨ With U0 W0 W k
  noh : ¬ V h ∧ ¬ V (h + 1)
  kept : Kept (fun k => k < n ∨ (k = h + 1 ∨ k = h)) (h + 2) U0 W0 W
  own : ∃ base, W.ownsRow base 46 3 v m xs
  ownV : ∀ b, v.ownBlock = some b → B ≤ b ∧ ¬ V b
theorem NeeR.below {J : (Nat → Prop) → Nat → World → Prop} {R : Nat → Prop} {w0 : World} {B h n : Nat} {yv : Value} {U0 : Nat → Prop} {W0 : World} {v : Value} {m : Nat} {xs : List Value} {V : Nat → Prop} {i : Nat} {W W' : World} (hh : NeeR J R w0 B h n yv U0 W0 v m xs V i W) (hJ : Safe B J) (hR : ∀ k, R k → k < B) (hb : Below W.heap.size W W') : NeeR J R w0 B h n yv U0 W0 v m xs V i W' := by
  obtain ⟨h1, h2, h3, h4, ⟨base, h5⟩, h6⟩ := hh
  have hB := h1.box.lt
  refine ⟨h1.stays hJ hR (C := W.heap.size) (V := fun _ => False) (Stays.below hb) hB (fun k hk => .inl (h1.lt k hk)), fun k hk => (h2 k hk).imp id (fun hw => hw.imp id (fun x => ⟨x.1, Nat.lt_of_lt_of_le x.2 hb.size⟩)), h3, ⟨Nat.le_trans h4.size hb.size, fun k o ho hr => ?_⟩, ⟨base, owns_keep h5 hb⟩, h6⟩
  have := h4.rest k o ho hr
  exact (hb.block k (Array.getElem?_eq_some_iff.1 this).1).trans this
theorem NeeR.next {J : (Nat → Prop) → Nat → World → Prop} {R : Nat → Prop} {w0 : World} {B h n : Nat} {yv : Value} {U0 : Nat → Prop} {W0 : World} {v : Value} {m : Nat} {xs : List Value} {V V' : Nat → Prop} {i i' : Nat} {W W' : World} (hh : NeeR J R w0 B h n yv U0 W0 v m xs V i W) (hRn : ∀ k, k < n → R k) (hBh : B < h) (hW0 : h + 2 ≤ W0.heap.size) (hg : Grew V V' W W') (hk : Kept R B V W W') (hj : J V' i' W') : NeeR J R w0 B h n yv U0 W0 v m xs V' i' W' := by
  obtain ⟨h1, h2, h3, h4, ⟨base, h5⟩, h6⟩ := hh
  have hs := h4.size
  refine ⟨⟨hj, hg.lt, h1.keeps.trans hk.keeps, hk.whole h1.box (Nat.le_refl _) h1.boxU, fun hv => (hg.new B hv).elim h1.boxU (fun hh => by have := h1.box.lt; omega)⟩, fun k hv => ?_, ⟨fun hv => (hg.new _ hv).elim h3.1 (fun hh => by omega), fun hv => (hg.new _ hv).elim h3.2 (fun hh => by omega)⟩, ⟨Nat.le_trans hs hk.size, fun k o ho hr => hk.rest k o (h4.rest k o ho hr) ?_⟩, ⟨base, owns_kept13 hk h5 h6⟩, fun b hb => ⟨(h6 b hb).1, fun hv => (hg.new b hv).elim (h6 b hb).2 (fun hh => by have := (h5.lt b hb).2; omega)⟩⟩
  · rcases hg.new k hv with hv' | hv'
    · exact (h2 k hv').imp id (fun hw => hw.imp id (fun x => ⟨x.1, Nat.lt_of_lt_of_le x.2 hk.size⟩))
    · exact .inr (.inr ⟨by omega, hg.lt k hv⟩)
  · have hlt := (Array.getElem?_eq_some_iff.1 ho).1
    rcases hr with (hr | rfl | rfl) | hr
    · exact .inl (hRn k hr)
    · exact .inr ⟨by omega, h3.2⟩
    · exact .inr ⟨by omega, h3.1⟩
    · exact .inr ⟨by omega, fun hv => (h2 k hv).elim (fun hh => by omega) (fun hw => hw.elim hr.2 (fun x => by omega))⟩
theorem needs13_any (l : Lay) (p : Pth) (w : World) : Calls Tryd.prog 29 #[l.val, p.val] w fun e w' => e = .returned (.func (.func 44) #[] #[.pointer (some ⟨w.heap.size, 0, none⟩), .pointer (some ⟨w.heap.size + 1, 0, none⟩)]) ∧
    w' = (w.alloc (.cells #[.slice l.As l.secs.length l.cs, .slice l.Ag l.sigs.length l.cg, .slice l.Ae l.exits.length l.ce, .slice l.Af l.flanks.length l.cf, .int .i64 l.t0, .int .i64 l.t1, .int .i64 l.t2, .int .i64 l.t3, .int .i64 l.t4, .int .i64 l.t5, .int .i64 l.t6] 29)).alloc (.cells #[.int .i64 p.s, .int .i64 p.x, .slice p.A p.ss.length p.c] 32) := by
  go_enter Tryd.func29, Tryd.ntmps29
  go_wp2_with fail
  go_ret
  exact ⟨rfl, rfl⟩

set_option maxRecDepth 100000 in
set_option maxHeartbeats 32000000 in
theorem needs13_iter {wa w0 : World} {g1 g2 : Nat} {l : Lay} {p : Pth} (hT : Shapes wa) (hL : Lies l wa) (hp : PLies p wa) (hO : ∀ x ∈ l.exits, x.over.length ≤ 1000) (hF : l.flanks.length ≤ 900) (hka : Keeps (· < wa.heap.size) wa w0) (hsa : wa.heap.size ≤ w0.heap.size) (hb1 : Whole w0 g1 29 l.cells) (hb2 : Whole w0 g2 32 p.cells) :
    IterU Tryd.prog 44 #[.pointer (some ⟨g1, 0, none⟩), .pointer (some ⟨g2, 0, none⟩)] (fun x : Int × Int × Int => #[stpV x.1 x.2.1 x.2.2]) (ofV l p) (fun k => k < wa.heap.size ∨ (k = g1 ∨ k = g2)) w0 := by
  intro L J Jx W hk0 hRl hJ hJx hY h0
  have hnW : wa.heap.size ≤ W.heap.size := Nat.le_of_not_lt fun hlt => absurd (hRl _ (.inl hlt)) (Nat.lt_irrefl _)
  have HB1 : Hid (∀ W', Keeps (fun k => k < wa.heap.size ∨ (k = g1 ∨ k = g2)) w0 W' → Whole W' g1 29 l.cells) := Lib.hid fun W' hk => hk.whole (.inr (.inl rfl)) hb1
  have HB2 : Hid (∀ W', Keeps (fun k => k < wa.heap.size ∨ (k = g1 ∨ k = g2)) w0 W' → Whole W' g2 32 p.cells) := Lib.hid fun W' hk => hk.whole (.inr (.inr rfl)) hb2
  have HKA : Hid (∀ W', Keeps (fun k => k < wa.heap.size ∨ (k = g1 ∨ k = g2)) w0 W' → Keeps (· < wa.heap.size) wa W') := Lib.hid fun W' hk => hka.trans (hk.sub fun k h => .inl h)
  have HRl := Lib.hid hRl
  have HIT := Lib.hid (fun (w1 : World) (a1 a2 : Nat) (h1 : Keeps (· < wa.heap.size) wa w1) (h2 : wa.heap.size ≤ w1.heap.size) (h3 : Whole w1 a1 32 p.cells) (h4 : Whole w1 a2 29 l.cells) => steps13_iter hT hL hp hO h1 h2 h3 h4)
  have KWA : Hid (∀ (W' : World) (x : Int × Int × Int × Int), Keeps (fun k => k < wa.heap.size ∨ (k = g1 ∨ k = g2)) w0 W' → wa.heap.size ≤ W'.heap.size → Calls Tryd.prog 46 #[l.val, stpV x.2.1 x.2.2.1 x.2.2.2, .int .i64 x.1] W' fun e w' => ∃ v, e = .returned v ∧ w'.ownsRow W'.heap.size 46 3 v (wantN l x).length ((wantN l x).flatMap needCells) ∧ Below W'.heap.size W' w') := Lib.hid fun W' x hk hs =>
    have hk' := hka.trans (hk.sub fun k h => .inl h)
    wants_any (hT.keeps hk' (fun _ h => h)) (hL.keeps hk' (fun _ h => h) hs) hF _ _ _ _ rfl
  have hwl : ∀ x, (wantN l x).length ≤ 901 := fun x => want_len hF x
  have HWL := Lib.hid hwl
  have HAT : Hid (∀ (j k : Nat) x y, (stepsN l p)[j]? = some x → (wantN l x)[k]? = some y → (ofV l p)[(needTo l (stepsN l p) j).length + k]? = some y) := Lib.hid fun j k x y hx hy => by rw [← of_flat]; exact needTo_at hx hy
  have HNX : Hid (∀ j x, (stepsN l p)[j]? = some x → (needTo l (stepsN l p) (j + 1)).length = (needTo l (stepsN l p) j).length + (wantN l x).length) := Lib.hid fun j x hx => by rw [needTo_next hx, List.length_append]
  have HAL : Hid ((needTo l (stepsN l p) (stepsN l p).length).length = (ofV l p).length) := Lib.hid (by unfold needTo; rw [List.take_length, of_flat])
  have HNW := Lib.hid hnW
  obtain ⟨xs, hxs⟩ : ∃ xs, stepsN l p = xs := ⟨_, rfl⟩
  obtain ⟨ys, hys⟩ : ∃ ys, ofV l p = ys := ⟨_, rfl⟩
  rw [hxs] at HIT HAT HNX HAL
  rw [hys] at HAT HAL hY ⊢
  obtain ⟨B, hB⟩ : ∃ B, W.heap.size = B := ⟨_, rfl⟩
  rw [hB] at hJ hJx hY HRl HNW
  obtain ⟨W1, hW1⟩ : ∃ W1, W.alloc (.cells #[.func (.yield L) #[] #[]] 86) = W1 := ⟨_, rfl⟩
  have HW1 : Hid (NeeI J (fun k => k < wa.heap.size ∨ (k = g1 ∨ k = g2)) w0 B (.func (.yield L) #[] #[]) (fun _ => False) 0 W1 ∧ W1.heap.size = B + 1) := Lib.hid (by
    rw [← hW1]
    exact ⟨⟨hJ _ _ _ _ h0 (Stays.below (below1 W _)), fun k h => h.elim, hk0.trans (Keeps.below (below1 W _)), Whole.new_at W _ [_] _ hB.symm, fun h => h⟩, by simp; omega⟩)
  have hk1 : Keeps (fun k => k < wa.heap.size ∨ (k = g1 ∨ k = g2)) w0 (W.alloc (.cells #[.func (.yield L) #[] #[]] 86)) := hk0.trans (Keeps.below (below1 W _))
  have m0 := HB1.out _ hk1
  have x0 := m0.cell_at 0 rfl
  have x1 := m0.cell_at 1 rfl
  have x2 := m0.cell_at 2 rfl
  have x3 := m0.cell_at 3 rfl
  have x4 := m0.cell_at 4 rfl
  have x5 := m0.cell_at 5 rfl
  have x6 := m0.cell_at 6 rfl
  have x7 := m0.cell_at 7 rfl
  have x8 := m0.cell_at 8 rfl
  have x9 := m0.cell_at 9 rfl
  have x10 := m0.cell_at 10 rfl
  clear m0
  have m0 := HB2.out _ hk1
  have y0 := m0.cell_at 0 rfl
  have y1 := m0.cell_at 1 rfl
  have y2 := m0.cell_at 2 rfl
  clear m0
  have HBe := Lib.hid hB
  have HWe := Lib.hid hW1
  clear hT hL hp hO hF hka hsa hb1 hb2 hRl hxs hys hnW hB hk0 h0 hk1 hwl hW1
  refine (callsIn_wide (n := 3)).1 ?_
  refine callsIn_of_wp_marks Tryd.func44 rfl trivial ?_ rfl
  simp only [Tryd.ntmps44, List.size_toArray, List.length_cons, List.length_nil, Nat.reduceAdd, Nat.reduceSub, Array.replicate_succ, Array.replicate_zero, List.push_toArray, List.append_toArray, List.nil_append, List.cons_append]
  gi_wp2_with fail
  try rw [HWe.out]
  try rw [HBe.out]
  refine ⟨trivial, (callsIn_wide.2 (steps13_any l p _)).mono ?_⟩
  clear x0 x1 x2 x3 x4 x5 x6 x7 x8 x9 x10 y0 y1 y2
  rintro e w2 ⟨rfl, rfl⟩
  gi_wp2_with fail
  obtain ⟨h, hh⟩ : ∃ h, W1.heap.size = h := ⟨_, rfl⟩
  obtain ⟨W2, hW2, hsz2, hB2, b1, b2⟩ : ∃ W2, ((W1.alloc (.cells #[.slice l.As l.secs.length l.cs, .slice l.Ag l.sigs.length l.cg, .slice l.Ae l.exits.length l.ce, .slice l.Af l.flanks.length l.cf, .int .i64 l.t0, .int .i64 l.t1, .int .i64 l.t2, .int .i64 l.t3, .int .i64 l.t4, .int .i64 l.t5, .int .i64 l.t6] 29)).alloc (.cells #[.int .i64 p.s, .int .i64 p.x, .slice p.A p.ss.length p.c] 32)) = W2 ∧ W2.heap.size = h + 2 ∧ Below W1.heap.size W1 W2 ∧ Whole W2 h 29 l.cells ∧ Whole W2 (h + 1) 32 p.cells :=
    ⟨_, rfl, by simp; omega, below2 _ _ _, (Whole.new_at _ _ l.cells _ hh.symm).alloc _, Whole.new_at _ _ p.cells _ (by simp; omega)⟩
  rw [hW2, hh]
  have hRB : ∀ k, (k < wa.heap.size ∨ (k = g1 ∨ k = g2)) → k < B := fun k hk => HRl.out k hk
  have hBh : B < h := by have := HW1.out.2; omega
  have hI2 := HW1.out.1.stays hJ hRB (C := W1.heap.size) (V := fun _ => False) (Stays.below hB2) (by omega) (fun k hk => hk.elim)
  have hit := HIT.out W2 (h + 1) h (HKA.out _ hI2.keeps) (by have := HNW.out; omega) b2 b1
  have HS2 := Lib.hid hsz2
  have hstep : ∀ (U' : Nat → Prop) (i : Nat) (V : Nat → Prop) (W' W'' : World), NeeI J (fun k => k < wa.heap.size ∨ (k = g1 ∨ k = g2)) w0 B (.func (.yield L) #[] #[]) V i W' → Stays (h + 2) U' W' W'' → (∀ k, V k → k < h + 2 ∨ U' k) → NeeI J (fun k => k < wa.heap.size ∨ (k = g1 ∨ k = g2)) w0 B (.func (.yield L) #[] #[]) V i W'' := fun U' i V W' W'' hi ht hv => hi.stays hJ hRB ht (by omega) hv
  have HST := Lib.hid hstep
  have HHW := Lib.hid hh
  clear hW2 HW1 hB2 b1 b2 hh hstep HWe HBe
  refine range_iterU (gf := 67) rfl (enters_of Tryd.func67 (by kernel_rfl) rfl) hit (Keeps.refl _ _) (fun k hk => by have := HS2.out; rcases hk with hk | hk | hk; (have := HRl.out k (.inl hk); omega); omega; omega) (fun _ => rfl) (by omega)
    (fun U' j W' => ∃ V, NeeI J (fun k => k < wa.heap.size ∨ (k = g1 ∨ k = g2)) w0 B (.func (.yield L) #[] #[]) V (needTo l xs j).length W' ∧ (∀ k, V k → k < h + 2 ∨ U' k) ∧ (¬ V h ∧ ¬ V (h + 1) ∧ h + 2 ≤ W'.heap.size))
    (fun c U' W' => c = .ret ∧ ∃ V, (Jx V W' ∧ (∀ k, V k → k < W'.heap.size)) ∧ (∀ k, V k → k < h + 2 ∨ U' k))
    (by
      rw [hsz2]
      rintro U' j W' W'' ⟨V, h1, h2, h3⟩ ht
      exact ⟨V, HST.out _ _ _ _ _ h1 ht h2, h2, h3.1, h3.2.1, Nat.le_trans h3.2.2 ht.size⟩)
    (fun c => by
      rw [hsz2]
      rintro U' u W' W'' ⟨h0, V, ⟨h1, h2⟩, h4⟩ ht
      refine ⟨h0, V, ⟨hJx V () _ _ h1 ⟨ht.same, ht.size, fun k o ho hk => ht.rest k o ho (hk.elim (fun h => .inl (by omega)) (h4 k))⟩, fun k hk => Nat.lt_of_lt_of_le (h2 k hk) ht.size⟩, h4⟩)
    ⟨fun _ => False, hI2, fun k hk => hk.elim, fun hk => hk, fun hk => hk, by omega⟩
    (fun U' j x a' W' => (∃ V, NeeI J (fun k => k < wa.heap.size ∨ (k = g1 ∨ k = g2)) w0 B (.func (.yield L) #[] #[]) V (needTo l xs j).length W' ∧ (∀ k, V k → k < h + 2 ∨ U' k) ∧ (¬ V h ∧ ¬ V (h + 1) ∧ h + 2 ≤ W'.heap.size)) ∧ ∃ gp, Whole W' gp 56 (stpCells x.2) ∧ U' gp ∧ a' = { tmps := #[.func (.yield L) #[] #[], .pointer (some ⟨g1, 0, none⟩), .pointer (some ⟨g2, 0, none⟩), .pointer (some ⟨B, 0, none⟩), .int .i64 x.1, .pointer (some ⟨gp, 0, none⟩), undef, undef, .agg #[.slice l.As l.secs.length l.cs, .slice l.Ag l.sigs.length l.cg, .slice l.Ae l.exits.length l.ce, .slice l.Af l.flanks.length l.cf, .int .i64 l.t0, .int .i64 l.t1, .int .i64 l.t2, .int .i64 l.t3, .int .i64 l.t4, .int .i64 l.t5, .int .i64 l.t6], .agg #[.int .i64 p.s, .int .i64 p.x, .slice p.A p.ss.length p.c], .func (.func 67) #[] #[.pointer (some ⟨h + 1, 0, none⟩), .pointer (some ⟨h, 0, none⟩)], .int .i64 x.1, stpV x.2.1 x.2.2.1 x.2.2.2, undef, undef, undef, undef, undef, undef, undef, undef, undef, undef, undef, undef, undef, undef], defers := [] })
    (fun j x a' => by
      rw [hsz2]
      rintro U' u W' W'' ⟨⟨V, h1, h2, h3⟩, gp, h4, h5, h6⟩ ht
      exact ⟨⟨V, HST.out _ _ _ _ _ h1 ht h2, h2, h3.1, h3.2.1, Nat.le_trans h3.2.2 ht.size⟩, gp, ht.whole h4 (.inr h5), h5, h6⟩)
    ?assign ?body ?done ?stop
  case assign =>
    rintro lr U' j x W' K hx ⟨V, h1, h2, h3⟩ hsW hU' hK
    have hb := below1 W' (.cells (stpCells x.2).toArray 56)
    have h1' := HST.out _ _ _ _ _ h1 (Stays.below hb) h2
    gi_wp2_with fail
    exact hK _ _ (With U' W' (W'.alloc (.cells (stpCells x.2).toArray 56))) (Grew.with hU' hb.size) (Kept.below hb) ⟨⟨V, h1', fun k hk => (h2 k hk).imp id .inl, h3.1, h3.2.1, Nat.le_trans h3.2.2 hb.size⟩, W'.heap.size, Whole.new W' _ (stpCells x.2), .inr ⟨Nat.le_refl _, by simp⟩, rfl⟩
  case body =>
    rintro lr U' j x a' W0 hl hx ⟨⟨V, h1, h2, h3⟩, gp, hgp, hUg, rfl⟩ hU'
    have hnW0 : wa.heap.size ≤ W0.heap.size := by have := HNW.out; omega
    have KW := Lib.hid (KWA.out W0 x h1.keeps hnW0)
    obtain ⟨ws, hws⟩ : ∃ ws, wantN l x = ws := ⟨_, rfl⟩
    have HWS : Hid (∀ k y, ws[k]? = some y → ys[(needTo l xs j).length + k]? = some y) := Lib.hid fun k y hy => HAT.out j k x y hx (by rw [hws]; exact hy)
    have HNJ : Hid ((needTo l xs (j + 1)).length = (needTo l xs j).length + ws.length) := Lib.hid (by rw [HNX.out j x hx, hws])
    have hwl : ws.length ≤ 901 := by rw [← hws]; exact HWL.out x
    rw [hws] at KW
    have m0 := HB1.out _ h1.keeps
    have x0 := m0.cell_at 0 rfl
    have x1 := m0.cell_at 1 rfl
    have x2 := m0.cell_at 2 rfl
    have x3 := m0.cell_at 3 rfl
    have x4 := m0.cell_at 4 rfl
    have x5 := m0.cell_at 5 rfl
    have x6 := m0.cell_at 6 rfl
    have x7 := m0.cell_at 7 rfl
    have x8 := m0.cell_at 8 rfl
    have x9 := m0.cell_at 9 rfl
    have x10 := m0.cell_at 10 rfl
    clear m0
    have m0 := hgp
    have s0 := m0.cell_at 0 rfl
    have s1 := m0.cell_at 1 rfl
    have s2 := m0.cell_at 2 rfl
    clear m0
    clear hws hx hgp hUg
    gi_wp2_with fail
    refine ⟨trivial, (CallsIn.inRound _ (callsIn_wide.2 KW.out)).mono ?_⟩
    clear KW s0 s1 s2 x0 x1 x2 x3 x4 x5 x6 x7 x8 x9 x10
    rintro e w4 ⟨v, rfl, hown, hB4⟩
    obtain ⟨A, c, rfl, _, _⟩ := ownsS_slice hown
    have hR0 : NeeR J (fun k => k < wa.heap.size ∨ (k = g1 ∨ k = g2)) w0 B h wa.heap.size (.func (.yield L) #[] #[]) U' W0 (.slice A ws.length c) ws.length (ws.flatMap needCells) V (needTo l xs j).length w4 :=
      ⟨h1.stays hJ hRB (C := W0.heap.size) (V := fun _ => False) (Stays.below hB4) (by omega) (fun k hk => .inl (h1.lt k hk)), fun k hk => (h2 k hk).imp id .inl, ⟨h3.1, h3.2.1⟩, Kept.below hB4, ⟨_, hown⟩, fun b hb => ⟨by have := (hown.lt b hb).1; omega, fun hv => by have := h1.lt b hv; have := (hown.lt b hb).1; omega⟩⟩
    have HR0 := Lib.hid hR0
    have hW0 : h + 2 ≤ W0.heap.size := h3.2.2
    clear hR0 h1 h2 h3 hown hB4
    gi_wp2_with fail
    gi_loopw [18] (fun i wr => ∃ (q : Nat) (V : Nat → Prop), q ≤ ws.length ∧ i = .int .i64 q ∧ Hid (NeeR J (fun k => k < wa.heap.size ∨ (k = g1 ∨ k = g2)) w0 B h wa.heap.size (.func (.yield L) #[] #[]) U' W0 (.slice A ws.length c) ws.length (ws.flatMap needCells) V ((needTo l xs j).length + q) wr)) (fun i _ => ws.length - (intOf i).toNat)
    case atStart => exact ⟨0, V, by omega, rfl, HR0⟩
    case round =>
      clear HR0
      obtain ⟨q, V, hq, rfl, HR⟩ := hrel
      by_cases hlt : q < ws.length
      · have hlt' : (q : Int) < (ws.length : Int) := by omega
        obtain ⟨⟨y1, y2, y3⟩, hy0⟩ : ∃ y, ws[q]? = some y := ⟨_, List.getElem?_eq_getElem hlt⟩
        have hrow : Row wr wr.heap.size A (ws.flatMap needCells) := by
          obtain ⟨base, ho⟩ := HR.out.own
          obtain ⟨A', c', e, hr, _⟩ := ownsS_slice ho
          cases e
          exact hr
        obtain ⟨b2, off2, hA, _, hc0, hc⟩ := hrow.nth (n := 3) (fun _ => rfl) (by omega) hy0
        have d0 := hc0 q _ _ hy0 rfl
        have d1 := hc q _ 1 _ hy0 rfl
        have d2 := hc q _ 2 _ hy0 rfl
        have HR2 := Lib.hid (HR.out.below hJ hRB (below1 wr (.cells #[.int .i64 y1, .int .i64 y2, .int .i64 y3] 46)))
        have hxj := HWS.out q _ hy0
        obtain ⟨fn, tmps, assign, body, hy, hRd⟩ := hY V _ _ _ hxj HR2.out.nee.j HR2.out.nee.lt
        have HRd := Lib.hid hRd
        have f0 := HR2.out.nee.box.cell_at 0 rfl
        rw [hA]
        have HA := Lib.hid hA
        clear hrow hc0 hc hy0 HR hxj hRd hA
        gi_wp2_with fail
        refine RoundIn.mono (RoundIn.wideAny HRd.out) ?_
        clear HRd hy d0 d1 d2 f0
        rintro e W3 ⟨V', hg', hk', (⟨rfl, hJ3⟩ | ⟨rfl, hJx3⟩)⟩
        · have HR3 := Lib.hid (HR2.out.next (fun k hk => .inl hk) hBh hW0 hg' hk' hJ3)
          clear hg' hk' hJ3 HR2
          gi_wp2_with fail
          go_roundw
          case rel => exact ⟨q + 1, V', hlt, by go_num, by rw [← HA.out]; exact HR3⟩
          case measure => simp [intOf]; omega
        · have hV' : ∀ k, V' k → k < h + 2 ∨ With U' W0 W3 k := fun k hv => by
            rcases hg'.new k hv with hv' | hv'
            · exact (HR2.out.sub k hv').imp id (fun hw => hw.imp id (fun x => ⟨x.1, Nat.lt_of_lt_of_le x.2 hk'.size⟩))
            · exact .inr (.inr ⟨Nat.le_trans HR2.out.kept.size hv', hg'.lt k hv⟩)
          have hkept : Kept (fun k => k < wa.heap.size ∨ (k = h + 1 ∨ k = h)) (h + 2) U' W0 W3 := ⟨Nat.le_trans HR2.out.kept.size hk'.size, fun k o ho hr => hk'.rest k o (HR2.out.kept.rest k o ho hr) (by
            have hlt0 := (Array.getElem?_eq_some_iff.1 ho).1
            rcases hr with (hr | rfl | rfl) | hr
            · exact .inl (.inl hr)
            · exact .inr ⟨by omega, HR2.out.noh.2⟩
            · exact .inr ⟨by omega, HR2.out.noh.1⟩
            · exact .inr ⟨by omega, fun hv => (HR2.out.sub k hv).elim (fun hh => by omega) (fun hw => hw.elim hr.2 (fun x => by omega))⟩)⟩
          have HE := Lib.hid (And.intro hV' (And.intro hkept (And.intro hg'.lt hJx3)))
          clear hV' hkept hg' hk' HR2 hJx3
          gi_wp2_with fail
          rw [HS2.out]
          exact ⟨With U' W0 W3, Grew.with hU' HE.out.2.1.size, HE.out.2.1, rfl, V', ⟨HE.out.2.2.2, HE.out.2.2.1⟩, HE.out.1⟩
      · obtain rfl : q = ws.length := by omega
        have HE : Hid (Kept (fun k => k < wa.heap.size ∨ (k = h + 1 ∨ k = h)) (h + 2) U' W0 wr ∧ ∃ V, NeeI J (fun k => k < wa.heap.size ∨ (k = g1 ∨ k = g2)) w0 B (.func (.yield L) #[] #[]) V (needTo l xs (j + 1)).length wr ∧ (∀ k, V k → k < h + 2 ∨ With U' W0 wr k) ∧ (¬ V h ∧ ¬ V (h + 1) ∧ h + 2 ≤ wr.heap.size)) := Lib.hid ⟨HR.out.kept, V, by rw [HNJ.out]; exact HR.out.nee, HR.out.sub, HR.out.noh.1, HR.out.noh.2, Nat.le_trans hW0 HR.out.kept.size⟩
        clear HR
        gi_wp2_with fail
        rw [HS2.out]
        exact ⟨With U' W0 wr, Grew.with hU' HE.out.1.size, HE.out.1, HE.out.2⟩
  case done =>
    rintro D U' W' hD hUD ⟨V, h1, h2, h3⟩ hK
    rw [hsz2] at hD
    rw [HAL.out] at h1
    have hVD : ¬ V D := fun hv => (h2 D hv).elim (fun hh => by omega) hUD
    have hM : Marks B V [D] W' := ⟨by simp, fun E hE => by
      obtain rfl : E = D := by simpa using hE
      exact ⟨hK, by omega, hVD⟩⟩
    have HM := Lib.hid hM
    have HI1 := Lib.hid h1
    clear hM h1 hK
    gi_wp2_with fail
    exact leaves_marks (v := .tuple #[]) (B := B) (U := V) (fun w => results_none rfl _ _ _) [D] W' HM.out fun W'' hW' => ⟨⟨_, rfl⟩, V, fun k hk => Nat.lt_of_lt_of_le (HI1.out.lt k hk) hW'.size, .inl (hJ _ _ _ _ HI1.out.j hW')⟩
  case stop =>
    rintro D c U' W' hD hUD ⟨rfl, V, ⟨h1, h2⟩, h4⟩ hK
    rw [hsz2] at hD
    have hVD : ¬ V D := fun hv => (h4 D hv).elim (fun hh => by omega) hUD
    have hM : Marks B V [D] W' := ⟨by simp, fun E hE => by
      obtain rfl : E = D := by simpa using hE
      exact ⟨hK, by omega, hVD⟩⟩
    have HM := Lib.hid hM
    have H1 := Lib.hid h1
    clear hM h1 hK
    gi_wp2_with fail
    exact leaves_marks (v := .tuple #[]) (B := B) (U := V) (fun w => results_none rfl _ _ _) [D] W' HM.out fun W'' hW' => ⟨⟨_, rfl⟩, V, fun k hk => Nat.lt_of_lt_of_le (h2 k hk) hW'.size, .inr (hJx V () _ _ H1.out hW')⟩
end Go.Proofs.YtbdbgoploednbaaDoor
