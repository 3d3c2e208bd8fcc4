/- The document's own layer 6: Steps, Same. The walk of LayoutTells: package layout says what the document says. Rows of needs: the same?, one more; what a step wants, by the document's own answer. Rows of needs: where a point is wanted; the same needs? By package need, and by the document's own answer. Package beyond: Point, Class, Next, Rear. Package beyond: the flanks of a step, one by one. -/
import Derived.Test.YtljpiafopbfdlaaQAd
import Derived.Test.YtljpiafopbfdlaaQAc
import Derived.Test.YtljpiafopbfdlaaQAl
import Derived.Test.YtljpiafopbfdlaaQAi
import Derived.BigQuiet
import Derived.Test.YtljpiafopbfdlaaQAb
import Derived.Test.YtljpiafopbfdlaaQAe
import Derived.RangeFuncNested
import Derived.RangeFuncBound
import Derived.RangeFuncCalls
import Derived.RangeFuncLeaves
import Derived.RangeFuncBox
import Derived.Shelf.Abstract
import Derived.Shelf.RegionOpen
import Derived.WalkKit
import Derived.OwnWalkIn
import Derived.TacticsInMore
import Derived.LoopNIn
import Derived.LoopIn
import Derived.WalkMore
import Derived.Test.YtljpiafopbfdlaaQAg
namespace Go.Proofs.Ytljpiafopbfdlaa
open Go.RowKit Go.Shelf
set_option linter.unusedVariables false
set_option linter.unusedSimpArgs false

theorem ne_of_at {α : Type} {l m : List α} {j : Nat} {x y : α} (hx : l[j]? = some x) (hy : m[j]? = some y) (hne : x ≠ y) : l ≠ m := fun e => by
  subst e
  rw [hx] at hy
  exact hne (Option.some.inj hy)
theorem take_next {α : Type} {l m : List α} {j : Nat} {x : α} (h : l.take j = m.take j) (hx : l[j]? = some x) (hy : m[j]? = some x) : l.take (j + 1) = m.take (j + 1) := by
  rw [List.take_add_one, List.take_add_one, h, hx, hy]
theorem take_done {α : Type} {l m : List α} (hl : l.length = m.length) (h : l.take l.length = m.take l.length) : l = m := by
  rw [List.take_length, hl, List.take_length] at h
  exact h
theorem neq_stpD (w : World) (a b c a' b' c' : Int) : (binOp .neq 44 (stpV a b c) (stpV a' b' c')).run Try.prog w = .ok (.bool (!decide ((a, b, c) = (a', b', c')))) w := by
  rw [run_neq_struct, eq_stp]
  have : (a == a' && (b == b' && c == c')) = decide ((a, b, c) = (a', b', c')) := by rw [Bool.eq_iff_iff]; simp
  rw [this]
  rfl
theorem same_no1 {l m : Lay} (h : l.secs ≠ m.secs) : sameV l m = false := by unfold sameV; rw [decide_eq_false (by simpa using h)]; simp
theorem same_no2 {l m : Lay} (h : l.sigs ≠ m.sigs) : sameV l m = false := by unfold sameV; rw [decide_eq_false h]; simp
theorem same_no3 {l m : Lay} (h : l.exits.map Exm.pure ≠ m.exits.map Exm.pure) : sameV l m = false := by unfold sameV; rw [decide_eq_false h]; simp
theorem same_no4 {l m : Lay} (h : l.flanks ≠ m.flanks) : sameV l m = false := by unfold sameV; rw [decide_eq_false h]; simp
theorem same_no5 {l m : Lay} (h : sameT l m = false) : sameV l m = false := by unfold sameV; rw [h]; rfl
theorem same_yes {l m : Lay} (h0 : sameT l m = true) (h1 : l.secs = m.secs) (h2 : l.sigs = m.sigs) (h3 : l.exits.map Exm.pure = m.exits.map Exm.pure) (h4 : l.flanks = m.flanks) : sameV l m = true := by
  unfold sameV; rw [h0, h1, h2, h3, h4]; simp

section
variable {P : World → Prop} {w : World}
end
section
variable {P : World → Prop} {w : World}
end
end Go.Proofs.Ytljpiafopbfdlaa
namespace Go.Proofs.Ytljpiafopbfdlaa
open Go.RowKit Go.Shelf
set_option linter.unusedVariables false
set_option linter.unusedSimpArgs false

theorem keep_box4 {P : World → Prop} (hP : Closed P) {w : World} (h : P w) (t0 t1 t2 t3 : TypeId) (v0 v1 v2 v3 : List Value) :
    ∃ Q : World → Prop, Hid (Closed Q) ∧ Hid (∀ W, Q W → P W) ∧ Hid (∀ W, Q W → Whole W w.heap.size t0 v0) ∧ Hid (∀ W, Q W → Whole W (w.heap.size + 1) t1 v1) ∧ Hid (∀ W, Q W → Whole W (w.heap.size + 1 + 1) t2 v2) ∧ Hid (∀ W, Q W → Whole W (w.heap.size + 1 + 1 + 1) t3 v3) ∧
      Q ((((w.alloc (.cells v0.toArray t0)).alloc (.cells v1.toArray t1)).alloc (.cells v2.toArray t2)).alloc (.cells v3.toArray t3)) :=
  ⟨fun W => (((P W ∧ Whole W w.heap.size t0 v0) ∧ Whole W (w.heap.size + 1) t1 v1) ∧ Whole W (w.heap.size + 1 + 1) t2 v2) ∧ Whole W (w.heap.size + 1 + 1 + 1) t3 v3,
   Lib.hid ((((hP.and (Closed.whole _ t0 v0)).and (Closed.whole _ t1 v1)).and (Closed.whole _ t2 v2)).and (Closed.whole _ t3 v3)), Lib.hid (fun _ h => h.1.1.1.1), Lib.hid (fun _ h => h.1.1.1.2), Lib.hid (fun _ h => h.1.1.2), Lib.hid (fun _ h => h.1.2), Lib.hid (fun _ h => h.2),
   ⟨⟨⟨hP _ _ h ((below3 w _ _ _).alloc (by simp; omega) _), (((Whole.new w t0 v0).alloc _).alloc _).alloc _⟩, ((Whole.new_at _ t1 v1 _ (by simp)).alloc _).alloc _⟩, (Whole.new_at _ t2 v2 _ (by simp)).alloc _⟩, Whole.new_at _ t3 v3 _ (by simp)⟩
section
variable {l : Lay} {w : World}
end
section
variable {P : Program} {ops : Array Oper} {B S : World → Prop} {L : (World → Prop) → Act → Prop} {o : Oper} {l : List (Oper × Bool)} {a : Act}
/-- A call of what only this kind of world tells: it comes alone. -/
theorem mix_ask (f : FuncId) (args : Array Value) (v : Value) (hF : Fam B S) (hw : Region.wanted o (yielded ops a.tmps) = true) (hv : ∀ w, S w → (execOp a.eval o).run P w = .ok (.enter f args) w)
    (hc : ∀ w, S w → Calls P f args w fun e w' => e = .returned v ∧ Below w.heap.size w w') (h : wpMix P ops (Fam B) L l S (a.put o.dst v)) : wpMix P ops (Fam B) L ((o, true) :: l) S a :=
  ⟨hw, fun w hS => by
    unfold Oper.wp
    rw [hv w hS]
    refine (hc w hS).mono ?_
    rintro e w' ⟨rfl, hb⟩
    exact ⟨v, S, rfl, hF, hF.1 _ _ hS hb, h⟩⟩
end
end Go.Proofs.Ytljpiafopbfdlaa
namespace Go.Proofs.Ytljpiafopbfdlaa
open Go.RowKit Go.Shelf
set_option linter.unusedVariables false
set_option linter.unusedSimpArgs false

set_option maxHeartbeats 1000000 in
theorem eq_need (w : World) (a b c a' b' c' : Int) : (Op.equalIn 10000 40 (stpV a b c) (stpV a' b' c')).run Try.prog w = .ok (a == a' && (b == b' && c == c')) w := by
  cases h1 : (a == a') <;> cases h2 : (b == b') <;> cases h3 : (c == c') <;> go_simp
theorem neq_needD (w : World) (a b c a' b' c' : Int) : (binOp .neq 40 (stpV a b c) (stpV a' b' c')).run Try.prog w = .ok (.bool (!decide ((a, b, c) = (a', b', c')))) w := by
  rw [run_neq_struct, eq_need]
  have : (a == a' && (b == b' && c == c')) = decide ((a, b, c) = (a', b', c')) := by rw [Bool.eq_iff_iff]; simp
  rw [this]
  rfl
section
variable {P : World → Prop} {w : World}
end
theorem infoNeed : (Try.prog.info? 40).map (fun i => (i.zero, i.size, i.bytes)) = some (some (.agg #[.int .i64 0, .int .i64 0, .int .i64 0]), 3, 24) := by kernel_rfl
theorem oneNeed (x : Int × Int × Int) : ∀ u ∈ needCells x, u.oneCell' = true := by intro u hu; simp at hu; rcases hu with rfl | rfl | rfl <;> rfl
/-- append(v, x), v a row of needs of the call's own, with what is told of the block. -/
theorem append_need (base n : Nat) (v : Value) (xs : List Value) (x : Int × Int × Int) (w : World) (a : Nat) (hown : w.ownsRow base 40 3 v n xs) (hc : Whole w a 40 (needCells x)) (hn : n ≤ 1000) (hbase : base ≤ w.heap.size) :
    ∃ v' w', (Builtin.append_ #[25, 25] 25 #[v, .slice (some ⟨a, 0, none⟩) 1 1]).run Try.prog w = .ok v' w' ∧ w'.ownsRow base 40 3 v' (n + 1) (xs ++ needCells x) ∧ w.grownBy w' v.ownBlock ∧ Below base w w' ∧ (v'.ownBlock = v.ownBlock ∨ v'.ownBlock = some w.heap.size) := by
  obtain ⟨i, i1, i2, i3, i4⟩ := info_parts infoNeed
  obtain ⟨v', w', r1, r2, r3, r4, r5⟩ := run_append_own_at (P := Try.prog) w base 25 25 40 i (.agg #[.int .i64 0, .int .i64 0, .int .i64 0]) 3 24 Try.underlying25 i1 i2 i3 i4 rfl (by omega) v n xs hown ⟨a, 0, none⟩ 1 1 (needCells x) rfl (row_add (hc.row hc.lt)) (oneNeed x) (by unfold maxLen; omega) (by omega) hbase
  exact ⟨v', w', r1, r2, r3, (Below.refl base w).grown r3 hbase (fun k e => (hown.lt k e).1), r5⟩
/-- What is wanted when j flanks have been looked at. -/
def upTo (l : Lay) (s i o k : Int) (j : Nat) : List (Int × Int × Int) := firstV l s i o k ++ ((l.flanks.take j).filter (isFlk l s i o)).map (fun f => (f.2.2.1, f.2.2.2, k))
theorem upTo_zero (l : Lay) (s i o k : Int) : upTo l s i o k 0 = firstV l s i o k := by simp [upTo]
theorem upTo_yes {l : Lay} {s i o k : Int} {j : Nat} {f : Int × Int × Int × Int} (h : l.flanks[j]? = some f) (hp : isFlk l s i o f = true) : upTo l s i o k (j + 1) = upTo l s i o k j ++ [(f.2.2.1, f.2.2.2, k)] := by
  unfold upTo
  rw [List.take_add_one, h, Option.toList_some, List.filter_append, List.filter_cons_of_pos hp, List.filter_nil, List.map_append, List.append_assoc]
  rfl
theorem upTo_no {l : Lay} {s i o k : Int} {j : Nat} {f : Int × Int × Int × Int} (h : l.flanks[j]? = some f) (hp : isFlk l s i o f = false) : upTo l s i o k (j + 1) = upTo l s i o k j := by
  unfold upTo
  rw [List.take_add_one, h, Option.toList_some, List.filter_append, List.filter_cons_of_neg (by simp [hp]), List.filter_nil, List.append_nil]
theorem upTo_all (l : Lay) (s i o k : Int) : upTo l s i o k l.flanks.length = wantsV l s i o k := by unfold upTo wantsV flanksV; rw [List.take_length]
theorem first_le (l : Lay) (s i o k : Int) : (firstV l s i o k).length ≤ 1 := by unfold firstV; split <;> simp
theorem upTo_le (l : Lay) (s i o k : Int) (j : Nat) : (upTo l s i o k j).length ≤ j + 1 := by
  unfold upTo
  have h1 := first_le l s i o k
  have h2 := List.length_filter_le (isFlk l s i o) (l.flanks.take j)
  have h3 : (l.flanks.take j).length ≤ j := by rw [List.length_take]; omega
  rw [List.length_append, List.length_map]
  omega
theorem wants_none {l : Lay} {s i o k : Int} (h : stepV l s i o = false) : wantsV l s i o k = [] := by
  unfold wantsV firstV pointV flanksV
  have : (fun f => isFlk l s i o f) = fun _ => false := funext fun f => by unfold isFlk; rw [h]; rfl
  rw [show isFlk l s i o = fun _ => false from this, h]
  simp
theorem upTo_none {l : Lay} {s i o k : Int} {j : Nat} (h : stepV l s i o = false) : upTo l s i o k j = wantsV l s i o k := by
  unfold wantsV upTo flanksV
  rw [show isFlk l s i o = fun _ => false from funext fun f => by unfold isFlk; rw [h]; rfl, List.filter_eq_nil_iff.2 (by simp), List.filter_eq_nil_iff.2 (by simp)]
/-- Two boxes that lie on wherever what is turned lies behind them. -/
theorem keep_two {w : World} (t t' : TypeId) (vs us : List Value) :
    ∃ Q : World → Prop, Hid (Closed Q) ∧ Hid (∀ W, Q W → Below w.heap.size w W) ∧ Hid (∀ W, Q W → Whole W w.heap.size t vs) ∧ Hid (∀ W, Q W → Whole W (w.heap.size + 1) t' us) ∧ Hid (∀ W W', Q W → Below (w.heap.size + 2) W W' → Q W') ∧ Q ((w.alloc (.cells vs.toArray t)).alloc (.cells us.toArray t')) :=
  ⟨fun W => (Below w.heap.size w W ∧ Whole W w.heap.size t vs) ∧ Whole W (w.heap.size + 1) t' us, Lib.hid (((Closed.below w).and (Closed.whole _ t vs)).and (Closed.whole _ t' us)), Lib.hid (fun _ h => h.1.1), Lib.hid (fun _ h => h.1.2), Lib.hid (fun _ h => h.2),
    Lib.hid (fun W W' h hb => ⟨⟨h.1.1.trans (hb.mono (by omega)), h.1.2.below hb (by omega)⟩, h.2.below hb (by omega)⟩), ⟨below2 w _ _, (Whole.new w t vs).alloc _⟩, Whole.new_at _ t' us _ (by simp)⟩
end Go.Proofs.Ytljpiafopbfdlaa
namespace Go.Proofs.Ytljpiafopbfdlaa
open Go.RowKit Go.Shelf
set_option linter.unusedVariables false
set_option linter.unusedSimpArgs false
set_option maxRecDepth 100000

/-- Where a point is wanted, and whether. -/
def at13 (ns : List (Int × Int × Int)) (p : Int) : Int × Bool := ((atN ns p).map fun a => (a.2.1, true)).getD (0, false)
theorem at13_hit {ns : List (Int × Int × Int)} {p : Int} {j : Nat} {x : Int × Int × Int} (h : NoneUp (fun a => a.1 == p) ns j) (hx : ns[j]? = some x) (hp : (x.1 == p) = true) : at13 ns p = (x.2.1, true) := by
  obtain ⟨hj, rfl⟩ := List.getElem?_eq_some_iff.1 hx
  have : atN ns p = some ns[j] := by
    unfold atN
    rw [List.find?_eq_some_iff_getElem]
    refine ⟨hp, j, hj, rfl, fun i hi => ?_⟩
    have := h i ns[i] hi (List.getElem?_eq_getElem (by omega))
    simp at this
    simpa using this
  unfold at13
  rw [this]
  rfl
theorem at13_miss {ns : List (Int × Int × Int)} {p : Int} (h : NoneUp (fun a => a.1 == p) ns ns.length) : at13 ns p = (0, false) := by
  have : atN ns p = none := by
    rw [at_none]
    intro a ha e
    obtain ⟨j, hj⟩ := List.getElem?_of_mem ha
    have := h j a (List.getElem?_eq_some_iff.1 hj).1 hj
    simp [e] at this
  unfold at13
  rw [this]
  rfl
section
variable {P : World → Prop} {w : World}
set_option maxRecDepth 100000 in
set_option maxHeartbeats 32000000 in
theorem equalNeed_P (hP : Closed P) {l m : List (Int × Int × Int)} {A B : Option Addr} (ca cb : Nat) (hA : ∀ w, P w → Row w w.heap.size A (l.flatMap needCells)) (hB : ∀ w, P w → Row w w.heap.size B (m.flatMap needCells)) (hn : (l.length : Int) ≤ 9223372036854775807) {r : Bool} (hr : decide (l = m) = r) (h : P w) :
    Calls Try.prog 40 #[.slice A l.length ca, .slice B m.length cb] w fun e w' => e = .returned (.bool r) ∧ P w' := by
  have HR := Lib.hid hr
  clear hr
  by_cases hlen : l.length = m.length
  · have HLe := Lib.hid hlen
    rw [← hlen]
    have hm : ∀ j, j < l.length → j < m.length := fun j hj => hlen ▸ hj
    clear hlen
    go_enter Try.func40, Try.ntmps40
    go_wp2_with fail
    go_loopw [13] (fun i wr => ∃ j : Nat, j ≤ l.length ∧ i = .int .i64 j ∧ P wr ∧ Hid (l.take j = m.take j))
      (fun i _ => l.length - (intOf i).toNat)
    case atStart => exact ⟨0, by omega, rfl, h, Lib.hid rfl⟩
    case round =>
      obtain ⟨j, hj, rfl, hp, HNo⟩ := hrel
      by_cases hlt : j < l.length
      · have hlt' : (j : Int) < l.length := by omega
        obtain ⟨x, hx⟩ : ∃ x, l[j]? = some x := ⟨_, List.getElem?_eq_getElem hlt⟩
        obtain ⟨y, hy⟩ : ∃ y, m[j]? = some y := ⟨_, List.getElem?_eq_getElem (hm j hlt)⟩
        have HX := Lib.hid hx
        have HY := Lib.hid hy
        clear hx hy
        obtain ⟨b1, o1, rfl, _, hc0, hc⟩ := (hA _ hp).nth (n := 3) (fun _ => rfl) (by omega) HX.out
        have c0 := hc0 j x _ HX.out rfl
        have c1 := hc j x 1 _ HX.out rfl
        have c2 := hc j x 2 _ HX.out rfl
        clear hc0 hc
        obtain ⟨b2, o2, rfl, _, hc0, hc⟩ := (hB _ hp).nth (n := 3) (fun _ => rfl) (by omega) HY.out
        have d0 := hc0 j y _ HY.out rfl
        have d1 := hc j y 1 _ HY.out rfl
        have d2 := hc j y 2 _ HY.out rfl
        clear hc0 hc
        obtain ⟨b, HB⟩ : ∃ b, Hid ((fun x y : Int × Int × Int => x.1 == y.1 && (x.2.1 == y.2.1 && x.2.2 == y.2.2)) x y = b) := ⟨_, Lib.hid rfl⟩
        have hne : ∀ w : World, (binOp .neq 40 (stpV x.1 x.2.1 x.2.2) (stpV y.1 y.2.1 y.2.2)).run Try.prog w = .ok (.bool (!b)) w := fun w => by rw [run_neq_struct, eq_need w x.1 x.2.1 x.2.2 y.1 y.2.1 y.2.2, ← HB.out]; rfl
        have HPd := Lib.hid (fun n => hP _ _ hp (below_drawn (Below.refl _ wr) n))
        cases b
        · have HF : Hid (false = r) := Lib.hid (by
            rw [← HR.out, eq_comm, decide_eq_false_iff_not]
            intro e
            subst e
            have := HX.out.symm.trans HY.out
            cases this
            have := HB.out
            simp at this)
          go_wp2_with fail
          go_quiet (fail)
          go_wp2_with fail
          go_ret
          exact ⟨ret_bool HF.out, HPd.out _⟩
        · have HN : Hid (l.take (j + 1) = m.take (j + 1)) := Lib.hid (by
            rw [take_at HX.out, take_at HY.out, HNo.out]
            have hxy : x = y := by
              have := HB.out
              simp only [Bool.and_eq_true, beq_iff_eq] at this
              exact Prod.ext this.1 (Prod.ext this.2.1 this.2.2)
            rw [hxy])
          go_wp2_with fail
          go_quiet (fail)
          go_wp2_with fail
          go_roundw
          case rel => exact ⟨j + 1, hlt, by go_num, HPd.out _, HN⟩
          case measure => simp [intOf]; omega
      · obtain rfl : j = l.length := by omega
        have HF : Hid (true = r) := Lib.hid (by
          rw [← HR.out, eq_comm, decide_eq_true_eq]
          have := HNo.out
          rw [List.take_length, HLe.out, List.take_length] at this
          exact this)
        go_wp2_with fail
        go_ret
        exact ⟨ret_bool HF.out, hp⟩
  · have HF : Hid (false = r) := Lib.hid (by
      rw [← HR.out, eq_comm, decide_eq_false_iff_not]
      exact fun e => hlen (by rw [e]))
    have hlen' : ((l.length : Int) != (m.length : Int)) = true := by rw [bne_iff_ne]; omega
    clear hlen
    go_enter Try.func40, Try.ntmps40
    go_wp2_with fail
    go_ret
    exact ⟨ret_bool HF.out, h⟩
end
section
variable {P : World → Prop} {w : World}
end
end Go.Proofs.Ytljpiafopbfdlaa
namespace Go.Proofs.Ytljpiafopbfdlaa
open Go.RowKit Go.Shelf
set_option linter.unusedVariables false
set_option linter.unusedSimpArgs false

end Go.Proofs.Ytljpiafopbfdlaa
namespace Go.Proofs.Ytljpiafopbfdlaa
open Go.RowKit Go.Shelf
set_option linter.unusedVariables false
set_option linter.unusedSimpArgs false

attribute [local go_sem] Oper.semAt_some

theorem filter_hit {α : Type} {p : α → Bool} {l : List α} {j : Nat} {x : α} (h : l[j]? = some x) (hp : p x = true) : (l.drop j).filter p = x :: (l.drop (j + 1)).filter p := by rw [drop_at h, List.filter_cons_of_pos hp]
theorem filter_miss {α : Type} {p : α → Bool} {l : List α} {j : Nat} {x : α} (h : l[j]? = some x) (hp : p x = false) : (l.drop j).filter p = (l.drop (j + 1)).filter p := by rw [drop_at h, List.filter_cons_of_neg (by simp [hp])]

end Go.Proofs.Ytljpiafopbfdlaa
