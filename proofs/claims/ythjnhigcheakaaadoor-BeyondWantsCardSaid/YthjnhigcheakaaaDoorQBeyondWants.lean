/- The walk of BeyondWants: what a step wants, in order; the same turned about. -/
import Derived.Test.YthjnhigcheakaaaDoorQBeK
import Derived.Test.YthjnhigcheakaaaDoorQBeT
namespace Go.Proofs.YthjnhigcheakaaaDoor
open Go.RowKit Go.Shelf
set_option linter.unusedVariables false
set_option linter.unusedSimpArgs false

theorem upTo_pre (l : Lay) (s i o k : Int) (j : Nat) : ∃ r, wantsV l s i o k = upTo l s i o k j ++ r := by
  refine ⟨((l.flanks.drop j).filter (isFlk l s i o)).map (fun f => (f.2.2.1, f.2.2.2, k)), ?_⟩
  unfold wantsV upTo flanksV
  rw [List.append_assoc, ← List.map_append, ← List.filter_append, List.take_append_drop]
theorem upTo_hit {l : Lay} {s i o k : Int} {j : Nat} {f : Int × Int × Int × Int} (h : l.flanks[j]? = some f) (hp : isFlk l s i o f = true) : (wantsV l s i o k)[(upTo l s i o k j).length]? = some (f.2.2.1, f.2.2.2, k) := by
  obtain ⟨r, hr⟩ := upTo_pre l s i o k (j + 1)
  rw [hr, upTo_yes h hp, List.append_assoc, List.getElem?_append_right (Nat.le_refl _), Nat.sub_self]
  rfl
theorem point_yes {l : Lay} {s i o p pos : Int} {ok : Bool} (h : pointV l s i o = (p, pos, ok)) (hok : ok = true) (k : Int) : (wantsV l s i o k)[0]? = some (p, pos, k) ∧ p = s ∧ pos = wayK (kindV l s) i o ∧ ∃ (j : Nat) (y : Sec), s = j ∧ l.secs[j]? = some y ∧ y.k = 2 := by
  rcases point_cases l s i o with ⟨h1, h2⟩ | ⟨j, y, rfl, hy, h1, hk, h2⟩ | ⟨j, y, rfl, hy, h1, hk, hg, h2⟩
  · rw [h2] at h; cases h; cases hok
  · rw [h2] at h; cases h; cases hok
  · rw [h2] at h
    cases h
    refine ⟨?_, rfl, by rw [kindV_at hy, hk], j, y, rfl, hy, hk⟩
    unfold wantsV firstV
    rw [h2]
    rfl

set_option maxRecDepth 100000 in
set_option maxHeartbeats 8000000 in
theorem beyondWants_walk (l : Lay) (s i o k : Int) (w : World) (hT : Shapes w) (hL : Lies l w) :
    Calls Tryd.prog 5 #[l.val, stpV s i o, .int .i64 k] w fun e w' => e = .returned (.bool true) ∧ Below w.heap.size w w' := by
  obtain ⟨Q, HQ, HQb, HQl, HQv, hq⟩ := keep_box2 (Closed.below w) (Below.refl _ w) 29 31 l.cells (stpCells (s, i, o))
  have HTW : Hid (∀ W, Q W → Shapes W ∧ Lies l W) := Lib.hid fun W hW => ⟨Shapes.closed _ _ hT (HQb.out W hW), Lies.closed l _ _ hL (HQb.out W hW)⟩
  have KW := Lib.hid (fun W hW => wakes10_P (P := Q) (w := W) HQ.out (fun W hW => (HTW.out W hW).1) hW)
  obtain ⟨g, hg⟩ : ∃ g, greatV l = g := ⟨_, rfl⟩
  have KG := Lib.hid (fun W hW => great_P (P := Q) (w := W) HQ.out (fun W hW => (HTW.out W hW).2) hg hW)
  have HG := Lib.hid hg
  clear hT hL hg
  go_enter Tryd.func5, Tryd.ntmps5
  have m0 := HQl.out _ hq
  have x0 := m0.cell_at 0 rfl
  have x1 := m0.cell_at 1 rfl
  have x2 := m0.cell_at 2 rfl
  have x3 := m0.cell_at 3 rfl
  have x4 := m0.cell_at 4 rfl
  have x5 := m0.cell_at 5 rfl
  have x6 := m0.cell_at 6 rfl
  have x7 := m0.cell_at 7 rfl
  have x8 := m0.cell_at 8 rfl
  have x9 := m0.cell_at 9 rfl
  have x10 := m0.cell_at 10 rfl
  clear m0
  go_wp2_with fail
  refine (KG.out _ hq).mono ?_
  clear hq x0 x1 x2 x3 x4 x5 x6 x7 x8 x9 x10
  rintro e w1 ⟨rfl, hq⟩
  cases g
  rotate_left
  · go_wp2_with fail
    refine (KW.out _ hq).mono ?_
    clear hq
    rintro e w9 ⟨rfl, hq⟩
    go_wp2_with fail
    go_ret
    exact ⟨rfl, HQb.out _ hq⟩
  have hnF : l.flanks.length ≤ 900 := by have := (great_no HG.out).2.2.2.1; omega
  obtain ⟨ns, HNS⟩ : ∃ ns, Hid (wantsV l s i o k = ns) := ⟨_, Lib.hid rfl⟩
  obtain ⟨⟨p, pos, ok⟩, hpv⟩ : ∃ r, pointV l s i o = r := ⟨_, rfl⟩
  obtain ⟨cl, hcl⟩ : ∃ r, classV l s i o = r := ⟨_, rfl⟩
  obtain ⟨st, hst⟩ : ∃ st, stepV l s i o = st := ⟨_, rfl⟩
  obtain ⟨wy, hwy⟩ : ∃ wy, wayK (kindV l s) i o = wy := ⟨_, rfl⟩
  have HNL : Hid ((ns.length : Int) ≤ 9223372036854775807) := Lib.hid (by rw [← HNS.out, ← upTo_all]; have := upTo_le l s i o k l.flanks.length; omega)
  have HNL2 : Hid (ns.length ≤ 1000) := Lib.hid (by rw [← HNS.out, ← upTo_all]; have := upTo_le l s i o k l.flanks.length; omega)
  have KW1 : Hid (∀ W, Q W → Calls Tryd.prog 13 #[l.val, stpV s i o, .int .i64 k] W fun e w' => ∃ A c, e = .returned (.slice A ns.length c) ∧ Row w' w'.heap.size A (ns.flatMap needCells) ∧ Q w') := Lib.hid fun W hW =>
    (wants_any (HTW.out W hW).1 (HTW.out W hW).2 hnF s i o k HNS.out).mono fun e w' ⟨v, he, hown, hB⟩ => by
      obtain ⟨A, c, rfl, hr⟩ := owns_read hown
      exact ⟨A, c, he, hr, HQ.out _ _ hW hB⟩
  have HPV := Lib.hid hpv
  have HST := Lib.hid hst
  have HWY := Lib.hid hwy
  have HCL := Lib.hid hcl
  clear hpv hcl hst hwy
  have m0 := HQv.out _ hq
  have v0 := m0.cell_at 0 rfl
  have v1 := m0.cell_at 1 rfl
  have v2 := m0.cell_at 2 rfl
  clear m0
  go_upto_region 4 with (fail)
  obtain ⟨gt, hgt⟩ : ∃ gt, w1.heap.size = gt := ⟨_, rfl⟩
  obtain ⟨W2, hW2⟩ : ∃ W2, w1.alloc (.cells #[.int .i64 s, .int .i64 o, .int .i64 i] 31) = W2 := ⟨_, rfl⟩
  have hgl : w.heap.size + 2 ≤ gt := by have := (HQv.out _ hq).lt; omega
  have HGT := Lib.hid hgl
  have HH := Lib.hid (And.intro hgt hW2)
  have ht : Whole W2 gt 31 (stpCells (s, o, i)) := by rw [← hW2]; exact Whole.new_at _ _ (stpCells (s, o, i)) _ hgt.symm
  have HTB := Lib.hid ht
  have hq := HQ.out _ _ hq (below1 w1 (.cells #[.int .i64 s, .int .i64 o, .int .i64 i] 31))
  rw [hW2] at hq
  clear v0 v1 v2 hgt hW2 hgl ht
  try rw [HH.out.2]
  try rw [HH.out.1]
  have m0 := HQl.out _ hq
  have x0 := m0.cell_at 0 rfl
  have x1 := m0.cell_at 1 rfl
  have x2 := m0.cell_at 2 rfl
  have x3 := m0.cell_at 3 rfl
  have x4 := m0.cell_at 4 rfl
  have x5 := m0.cell_at 5 rfl
  have x6 := m0.cell_at 6 rfl
  have x7 := m0.cell_at 7 rfl
  have x8 := m0.cell_at 8 rfl
  have x9 := m0.cell_at 9 rfl
  have x10 := m0.cell_at 10 rfl
  clear m0
  have m0 := HQv.out _ hq
  have v0 := m0.cell_at 0 rfl
  have v1 := m0.cell_at 1 rfl
  have v2 := m0.cell_at 2 rfl
  clear m0
  go_wp2_with fail
  obtain ⟨P1, HP1, HP1q, HP1t, hp⟩ : ∃ P1 : World → Prop, Hid (Closed P1) ∧ Hid (∀ W, P1 W → Q W) ∧ Hid (∀ W, P1 W → Whole W gt 31 (stpCells (s, o, i))) ∧ P1 W2 :=
    ⟨fun W => Q W ∧ Whole W gt 31 (stpCells (s, o, i)), Lib.hid (HQ.out.and (Closed.whole _ _ _)), Lib.hid fun _ h => h.1, Lib.hid fun _ h => h.2, hq, HTB.out⟩
  have KW1' : Hid (∀ W, P1 W → Calls Tryd.prog 13 #[l.val, stpV s i o, .int .i64 k] W fun e w' => ∃ A c, e = .returned (.slice A ns.length c) ∧ Row w' w'.heap.size A (ns.flatMap needCells) ∧ P1 w') := Lib.hid fun W hW =>
    (wants_any (HTW.out W (HP1q.out W hW)).1 (HTW.out W (HP1q.out W hW)).2 hnF s i o k HNS.out).mono fun e w' ⟨v, he, hown, hB⟩ => by
      obtain ⟨A, c, rfl, hr⟩ := owns_read hown
      exact ⟨A, c, he, hr, HP1.out _ _ hW hB⟩
  refine (KW1'.out _ hp).mono ?_
  clear x0 x1 x2 x3 x4 x5 x6 x7 x8 x9 x10 v0 v1 v2 hq hp KW1 KW1'
  rintro e w4 ⟨A1, c1, rfl, hrow, hp⟩
  obtain ⟨R, HRc, HRq, HRt, HRr, hr⟩ : ∃ R : World → Prop, Hid (Closed R) ∧ Hid (∀ W, R W → Q W) ∧ Hid (∀ W, R W → Whole W gt 31 (stpCells (s, o, i))) ∧ Hid (∀ W, R W → Row W W.heap.size A1 (ns.flatMap needCells)) ∧ R w4 :=
    ⟨fun W => P1 W ∧ Row W W.heap.size A1 (ns.flatMap needCells), Lib.hid (HP1.out.and (fun _ _ h hB => h.on hB)), Lib.hid fun W h => HP1q.out W h.1, Lib.hid fun W h => HP1t.out W h.1, Lib.hid fun _ h => h.2, hp, hrow⟩
  have KW2 : Hid (∀ W, R W → Calls Tryd.prog 13 #[l.val, stpV s o i, .int .i64 k] W fun e w' => ∃ x : Option Addr × Nat, e = .returned (.slice x.1 ns.length x.2) ∧ Row w' w'.heap.size x.1 (ns.flatMap needCells) ∧ Below W.heap.size W w') := Lib.hid fun W hW =>
    (wants_any (HTW.out W (HRq.out W hW)).1 (HTW.out W (HRq.out W hW)).2 hnF s o i k (ns := ns) (by rw [← HNS.out, wants_turned])).mono fun e w' ⟨v, he, hown, hB⟩ => by
      obtain ⟨A, c, rfl, hr⟩ := owns_read hown
      exact ⟨(A, c), he, hr, hB⟩
  have KC1 : Hid (∀ W, R W → Calls Tryd.prog 15 #[l.val, stpV s i o] W fun e w' => e = .returned (.int .i64 cl) ∧ Below W.heap.size W w') := Lib.hid fun W hW => classB_any (HTW.out W (HRq.out W hW)).1 (HTW.out W (HRq.out W hW)).2 s i o HCL.out
  have KC2 : Hid (∀ W, R W → Calls Tryd.prog 15 #[l.val, stpV s o i] W fun e w' => e = .returned (.int .i64 cl) ∧ Below W.heap.size W w') := Lib.hid fun W hW => classB_any (HTW.out W (HRq.out W hW)).1 (HTW.out W (HRq.out W hW)).2 s o i (by rw [← HCL.out, class_turned])
  clear hrow hp HTB HH
  go_upto_region 5 with (fail)
  have HBS : Hid (∀ W, Below w4.heap.size w4 W → R W) := Lib.hid (fun W hB => HRc.out _ _ hr hB)
  clear hr
  refine region_mix (Below w4.heap.size w4) [(0, false), (1, false), (2, false), (3, false), (4, true), (5, true), (6, false), (7, false), (8, false), (9, false), (10, false), (11, false), (12, false), (13, false), (14, false), (15, false)] (by kernel_rfl) (by kernel_rfl) (Below w4.heap.size w4) ⟨Closed.below w4, fun _ h => h⟩ (Below.refl _ _).drew ?_
  simp only [pickOps, List.getElem?_cons_zero, List.getElem?_cons_succ]
  repeat (first | (refine mix_skip (by rfl) ?_; simp only [Act.put, List.setIfInBounds_toArray, List.set_cons_zero, List.set_cons_succ]) | (refine mix_read _ (by rfl) (fun W hW => by (have hW := HBS.out W hW; have hQ5 := HRq.out W hW; have m0 := HQl.out _ hQ5; have x0 := m0.cell_at 0 rfl; have x1 := m0.cell_at 1 rfl; have x2 := m0.cell_at 2 rfl; have x3 := m0.cell_at 3 rfl; have x4 := m0.cell_at 4 rfl; have x5 := m0.cell_at 5 rfl; have x6 := m0.cell_at 6 rfl; have x7 := m0.cell_at 7 rfl; have x8 := m0.cell_at 8 rfl; have x9 := m0.cell_at 9 rfl; have x10 := m0.cell_at 10 rfl; clear m0; have m1 := HQv.out _ hQ5; have v0 := m1.cell_at 0 rfl; have v1 := m1.cell_at 1 rfl; have v2 := m1.cell_at 2 rfl; clear m1; have m2 := HRt.out _ hW; have y0 := m2.cell_at 0 rfl; have y1 := m2.cell_at 1 rfl; have y2 := m2.cell_at 2 rfl; clear m2 hQ5; go_simp; first | done | with_reducible rfl)) ?_; simp only [Act.put, List.setIfInBounds_toArray, List.set_cons_zero, List.set_cons_succ]) | (refine mix_call _ _ _ (by rfl) (fun W hW => by (have hW := HBS.out W hW; have hQ5 := HRq.out W hW; have m0 := HQl.out _ hQ5; have x0 := m0.cell_at 0 rfl; have x1 := m0.cell_at 1 rfl; have x2 := m0.cell_at 2 rfl; have x3 := m0.cell_at 3 rfl; have x4 := m0.cell_at 4 rfl; have x5 := m0.cell_at 5 rfl; have x6 := m0.cell_at 6 rfl; have x7 := m0.cell_at 7 rfl; have x8 := m0.cell_at 8 rfl; have x9 := m0.cell_at 9 rfl; have x10 := m0.cell_at 10 rfl; clear m0; have m1 := HQv.out _ hQ5; have v0 := m1.cell_at 0 rfl; have v1 := m1.cell_at 1 rfl; have v2 := m1.cell_at 2 rfl; clear m1; have m2 := HRt.out _ hW; have y0 := m2.cell_at 0 rfl; have y1 := m2.cell_at 1 rfl; have y2 := m2.cell_at 2 rfl; clear m2 hQ5; go_simp; first | done | rfl)) (fun W hW => KC1.out W (HBS.out W hW)) ?_; simp only [Act.put, List.setIfInBounds_toArray, List.set_cons_zero, List.set_cons_succ]) | (refine mix_call _ _ _ (by rfl) (fun W hW => by (have hW := HBS.out W hW; have hQ5 := HRq.out W hW; have m0 := HQl.out _ hQ5; have x0 := m0.cell_at 0 rfl; have x1 := m0.cell_at 1 rfl; have x2 := m0.cell_at 2 rfl; have x3 := m0.cell_at 3 rfl; have x4 := m0.cell_at 4 rfl; have x5 := m0.cell_at 5 rfl; have x6 := m0.cell_at 6 rfl; have x7 := m0.cell_at 7 rfl; have x8 := m0.cell_at 8 rfl; have x9 := m0.cell_at 9 rfl; have x10 := m0.cell_at 10 rfl; clear m0; have m1 := HQv.out _ hQ5; have v0 := m1.cell_at 0 rfl; have v1 := m1.cell_at 1 rfl; have v2 := m1.cell_at 2 rfl; clear m1; have m2 := HRt.out _ hW; have y0 := m2.cell_at 0 rfl; have y1 := m2.cell_at 1 rfl; have y2 := m2.cell_at 2 rfl; clear m2 hQ5; go_simp; first | done | rfl)) (fun W hW => KC2.out W (HBS.out W hW)) ?_; simp only [Act.put, List.setIfInBounds_toArray, List.set_cons_zero, List.set_cons_succ]))
  refine mix_meet (fun x : Option Addr × Nat => .slice x.1 ns.length x.2) (fun x W => Row W W.heap.size x.1 (ns.flatMap needCells)) ⟨Closed.below w4, fun _ h => h⟩ (fun x W W' h hB => h.on hB) _ _ (by rfl) (fun W hW => by (have hW := HBS.out W hW; have hQ5 := HRq.out W hW; have m0 := HQl.out _ hQ5; have x0 := m0.cell_at 0 rfl; have x1 := m0.cell_at 1 rfl; have x2 := m0.cell_at 2 rfl; have x3 := m0.cell_at 3 rfl; have x4 := m0.cell_at 4 rfl; have x5 := m0.cell_at 5 rfl; have x6 := m0.cell_at 6 rfl; have x7 := m0.cell_at 7 rfl; have x8 := m0.cell_at 8 rfl; have x9 := m0.cell_at 9 rfl; have x10 := m0.cell_at 10 rfl; clear m0; have m1 := HQv.out _ hQ5; have v0 := m1.cell_at 0 rfl; have v1 := m1.cell_at 1 rfl; have v2 := m1.cell_at 2 rfl; clear m1; have m2 := HRt.out _ hW; have y0 := m2.cell_at 0 rfl; have y1 := m2.cell_at 1 rfl; have y2 := m2.cell_at 2 rfl; clear m2 hQ5; go_simp; first | done | rfl)) (fun W hW => KW2.out W (HBS.out W hW)) (fun xq => ?_)
  simp only [Act.put, List.setIfInBounds_toArray, List.set_cons_zero, List.set_cons_succ]
  refine mix_ask _ _ (.bool true) ⟨(Closed.below w4).and (fun _ _ h hB => h.on hB), fun _ h => h.1⟩ (by rfl) (fun W hW => by (have hW := HBS.out W hW.1; have hQ5 := HRq.out W hW; have m0 := HQl.out _ hQ5; have x0 := m0.cell_at 0 rfl; have x1 := m0.cell_at 1 rfl; have x2 := m0.cell_at 2 rfl; have x3 := m0.cell_at 3 rfl; have x4 := m0.cell_at 4 rfl; have x5 := m0.cell_at 5 rfl; have x6 := m0.cell_at 6 rfl; have x7 := m0.cell_at 7 rfl; have x8 := m0.cell_at 8 rfl; have x9 := m0.cell_at 9 rfl; have x10 := m0.cell_at 10 rfl; clear m0; have m1 := HQv.out _ hQ5; have v0 := m1.cell_at 0 rfl; have v1 := m1.cell_at 1 rfl; have v2 := m1.cell_at 2 rfl; clear m1; have m2 := HRt.out _ hW; have y0 := m2.cell_at 0 rfl; have y1 := m2.cell_at 1 rfl; have y2 := m2.cell_at 2 rfl; clear m2 hQ5; go_simp; first | done | rfl)) (fun W hW => needsR_B c1 xq.2 (HRr.out W (HBS.out W hW.1)) hW.2 HNL.out (decide_eq_true rfl)) ?_
  simp only [Act.put, List.setIfInBounds_toArray, List.set_cons_zero, List.set_cons_succ]
  repeat (first | (refine mix_skip (by rfl) ?_; simp only [Act.put, List.setIfInBounds_toArray, List.set_cons_zero, List.set_cons_succ]) | (refine mix_read _ (by rfl) (fun W hW => by (have hW := HBS.out W hW; have hQ5 := HRq.out W hW; have m0 := HQl.out _ hQ5; have x0 := m0.cell_at 0 rfl; have x1 := m0.cell_at 1 rfl; have x2 := m0.cell_at 2 rfl; have x3 := m0.cell_at 3 rfl; have x4 := m0.cell_at 4 rfl; have x5 := m0.cell_at 5 rfl; have x6 := m0.cell_at 6 rfl; have x7 := m0.cell_at 7 rfl; have x8 := m0.cell_at 8 rfl; have x9 := m0.cell_at 9 rfl; have x10 := m0.cell_at 10 rfl; clear m0; have m1 := HQv.out _ hQ5; have v0 := m1.cell_at 0 rfl; have v1 := m1.cell_at 1 rfl; have v2 := m1.cell_at 2 rfl; clear m1; have m2 := HRt.out _ hW; have y0 := m2.cell_at 0 rfl; have y1 := m2.cell_at 1 rfl; have y2 := m2.cell_at 2 rfl; clear m2 hQ5; go_simp; first | done | with_reducible rfl)) ?_; simp only [Act.put, List.setIfInBounds_toArray, List.set_cons_zero, List.set_cons_succ]) | (refine mix_call _ _ _ (by rfl) (fun W hW => by (have hW := HBS.out W hW; have hQ5 := HRq.out W hW; have m0 := HQl.out _ hQ5; have x0 := m0.cell_at 0 rfl; have x1 := m0.cell_at 1 rfl; have x2 := m0.cell_at 2 rfl; have x3 := m0.cell_at 3 rfl; have x4 := m0.cell_at 4 rfl; have x5 := m0.cell_at 5 rfl; have x6 := m0.cell_at 6 rfl; have x7 := m0.cell_at 7 rfl; have x8 := m0.cell_at 8 rfl; have x9 := m0.cell_at 9 rfl; have x10 := m0.cell_at 10 rfl; clear m0; have m1 := HQv.out _ hQ5; have v0 := m1.cell_at 0 rfl; have v1 := m1.cell_at 1 rfl; have v2 := m1.cell_at 2 rfl; clear m1; have m2 := HRt.out _ hW; have y0 := m2.cell_at 0 rfl; have y1 := m2.cell_at 1 rfl; have y2 := m2.cell_at 2 rfl; clear m2 hQ5; go_simp; first | done | rfl)) (fun W hW => KC1.out W (HBS.out W hW)) ?_; simp only [Act.put, List.setIfInBounds_toArray, List.set_cons_zero, List.set_cons_succ]) | (refine mix_call _ _ _ (by rfl) (fun W hW => by (have hW := HBS.out W hW; have hQ5 := HRq.out W hW; have m0 := HQl.out _ hQ5; have x0 := m0.cell_at 0 rfl; have x1 := m0.cell_at 1 rfl; have x2 := m0.cell_at 2 rfl; have x3 := m0.cell_at 3 rfl; have x4 := m0.cell_at 4 rfl; have x5 := m0.cell_at 5 rfl; have x6 := m0.cell_at 6 rfl; have x7 := m0.cell_at 7 rfl; have x8 := m0.cell_at 8 rfl; have x9 := m0.cell_at 9 rfl; have x10 := m0.cell_at 10 rfl; clear m0; have m1 := HQv.out _ hQ5; have v0 := m1.cell_at 0 rfl; have v1 := m1.cell_at 1 rfl; have v2 := m1.cell_at 2 rfl; clear m1; have m2 := HRt.out _ hW; have y0 := m2.cell_at 0 rfl; have y1 := m2.cell_at 1 rfl; have y2 := m2.cell_at 2 rfl; clear m2 hQ5; go_simp; first | done | rfl)) (fun W hW => KC2.out W (HBS.out W hW)) ?_; simp only [Act.put, List.setIfInBounds_toArray, List.set_cons_zero, List.set_cons_succ]))
  refine mix_nil (fun W hW => ?_)
  have hr := HBS.out W hW.1
  clear hW HBS KW2 KC1 KC2
  obtain ⟨w5, rfl⟩ : ∃ W', W' = W := ⟨W, rfl⟩
  have KP : Hid (∀ W, R W → Calls Tryd.prog 10 #[l.val, stpV s i o] W fun e w' => e = .returned (.tuple #[.int .i64 p, .int .i64 pos, .bool ok]) ∧ R w') := Lib.hid fun W hW => keepR HRc.out (pointB_any (HTW.out W (HRq.out W hW)).1 (HTW.out W (HRq.out W hW)).2 s i o HPV.out) hW
  have KS : Hid (∀ W, R W → Calls Tryd.prog 30 #[l.val, stpV s i o] W fun e w' => e = .returned (.tuple #[.int .i64 wy, .bool st]) ∧ R w') := Lib.hid fun W hW => keepR HRc.out (stepR_B (HTW.out W (HRq.out W hW)).2 s i o HWY.out HST.out) hW
  have m0 := HQl.out _ (HRq.out _ hr)
  have x0 := m0.cell_at 0 rfl
  have x1 := m0.cell_at 1 rfl
  have x2 := m0.cell_at 2 rfl
  have x3 := m0.cell_at 3 rfl
  have x4 := m0.cell_at 4 rfl
  have x5 := m0.cell_at 5 rfl
  have x6 := m0.cell_at 6 rfl
  have x7 := m0.cell_at 7 rfl
  have x8 := m0.cell_at 8 rfl
  have x9 := m0.cell_at 9 rfl
  have x10 := m0.cell_at 10 rfl
  clear m0
  have m0 := HQv.out _ (HRq.out _ hr)
  have v0 := m0.cell_at 0 rfl
  have v1 := m0.cell_at 1 rfl
  have v2 := m0.cell_at 2 rfl
  clear m0
  go_wp2_with fail
  refine (KP.out _ hr).mono ?_
  clear x0 x1 x2 x3 x4 x5 x6 x7 x8 x9 x10 v0 v1 v2 hr KP
  rintro e w6 ⟨rfl, hr⟩
  have m0 := HQl.out _ (HRq.out _ hr)
  have x0 := m0.cell_at 0 rfl
  have x1 := m0.cell_at 1 rfl
  have x2 := m0.cell_at 2 rfl
  have x3 := m0.cell_at 3 rfl
  have x4 := m0.cell_at 4 rfl
  have x5 := m0.cell_at 5 rfl
  have x6 := m0.cell_at 6 rfl
  have x7 := m0.cell_at 7 rfl
  have x8 := m0.cell_at 8 rfl
  have x9 := m0.cell_at 9 rfl
  have x10 := m0.cell_at 10 rfl
  clear m0
  have m0 := HQv.out _ (HRq.out _ hr)
  have v0 := m0.cell_at 0 rfl
  have v1 := m0.cell_at 1 rfl
  have v2 := m0.cell_at 2 rfl
  clear m0
  go_wp2_with fail
  refine (KS.out _ hr).mono ?_
  clear x0 x1 x2 x3 x4 x5 x6 x7 x8 x9 x10 v0 v1 v2 hr KS
  rintro e w7 ⟨rfl, hr⟩
  have HKO : Hid (ok = true → ns[0]? = some (p, pos, k) ∧ p = s ∧ pos = wy ∧ ∃ (j : Nat) (y : Sec), s = j ∧ l.secs[j]? = some y ∧ y.k = 2) := Lib.hid (fun h => by rw [← HNS.out, ← HWY.out]; exact point_yes HPV.out h k)
  have HON : Hid (st = false → ok = false) := Lib.hid (fun h => by
    have : pointV l s i o = (0, 0, false) := by unfold pointV; rw [HST.out, h]; simp
    have h2 := HPV.out
    rw [this] at h2
    cases h2
    rfl)
  have HFV : Hid (firstV l s i o k = if ok = true then [(p, pos, k)] else []) := Lib.hid (by unfold firstV; rw [HPV.out])
  have HIF : Hid (∀ f, isFlk l s i o f = (st && (decide (f.1 = s) && decide (f.2.1 = wy)))) := Lib.hid (fun f => by unfold isFlk; rw [HST.out, HWY.out])
  cases ok
  · have HZ : Hid ((upTo l s i o k 0).length = 0) := Lib.hid (by rw [upTo_zero, HFV.out]; rfl)
    go_wp2_with fail
    obtain ⟨q0, hq0⟩ : ∃ q0, (upTo l s i o k 0).length = q0 := ⟨_, rfl⟩
    go_loopw [14, 15] (fun v i' wr => ∃ j : Nat, j ≤ l.flanks.length ∧ i' = .int .i64 j ∧ v = .int .i64 ((upTo l s i o k j).length : Nat) ∧ Hid (R wr)) (fun _ i' _ => l.flanks.length - (intOf i').toNat)
    case atStart => exact ⟨0, by omega, rfl, by rw [HZ.out]; rfl, Lib.hid hr⟩
    case round =>
      clear hr
      obtain ⟨j, hj, rfl, rfl, HM⟩ := hrel
      obtain ⟨wa, rfl⟩ : ∃ W, W = wr := ⟨wr, rfl⟩
      have hr := HM.out
      have x3 := (HQl.out _ (HRq.out _ hr)).cell_at 3 rfl
      by_cases hlt : j < l.flanks.length
      · have hlt' : (j : Int) < l.flanks.length := by omega
        obtain ⟨⟨f1, f2, f3, f4⟩, hx⟩ : ∃ x, l.flanks[j]? = some x := ⟨_, List.getElem?_eq_getElem hlt⟩
        obtain ⟨b, off, hA, _, hc0, hc⟩ := (HTW.out _ (HRq.out _ hr)).2.flanks.nth (n := 4) (fun _ => rfl) (by omega) hx
        have HX := Lib.hid hx
        have c0 := hc0 j _ _ hx rfl
        have c1 := hc j _ 1 _ hx rfl
        have c2 := hc j _ 2 _ hx rfl
        have c3 := hc j _ 3 _ hx rfl
        have hwi : IntKind.i64.wrap ((j : Int) + 1) = (j : Int) + 1 := IntWalk.i64_in _ (by omega)
        rw [hA] at x3
        obtain ⟨gf, hgf⟩ : ∃ gf, wa.heap.size = gf := ⟨_, rfl⟩
        obtain ⟨W1, hW1⟩ : ∃ W1, wa.alloc (.cells #[.int .i64 f1, .int .i64 f2, .int .i64 f3, .int .i64 f4] 65) = W1 := ⟨_, rfl⟩
        have HF : Hid (Whole W1 gf 65 [.int .i64 f1, .int .i64 f2, .int .i64 f3, .int .i64 f4]) := Lib.hid (by rw [← hW1]; exact Whole.new_at wa _ [.int .i64 f1, .int .i64 f2, .int .i64 f3, .int .i64 f4] gf hgf.symm)
        have HR1 : Hid (R W1) := Lib.hid (by rw [← hW1]; exact HRc.out _ _ hr (below1 _ _))
        have HHG := Lib.hid (And.intro hgf hW1)
        clear hx hc0 hc hA hr hgf hW1 HM
        go_upto_region 18 with (fail)
        try rw [HHG.out.2]
        try rw [HHG.out.1]
        clear x3 c0 c1 c2 c3
        have v0 := (HQv.out _ (HRq.out _ HR1.out)).cell_at 0 rfl
        have d0 := HF.out.cell_at 0 rfl
        have d1 := HF.out.cell_at 1 rfl
        cases st
        · have HE := Lib.hid (upTo_no (k := k) HX.out (by rw [HIF.out]; rfl))
          go_wp2_with fail
          go_roundw
          case rel => exact ⟨j + 1, hlt, by go_num, by rw [HE.out], HR1⟩
          case measure => simp [intOf]; omega
        by_cases e1 : f1 = s
        · by_cases e2 : f2 = wy
          · have hhit := upTo_hit (k := k) HX.out (by rw [HIF.out]; simp [e1, e2])
            have HE := Lib.hid (upTo_yes (k := k) HX.out (by rw [HIF.out]; simp [e1, e2]))
            rw [HNS.out] at hhit
            simp only at hhit HE
            obtain ⟨q, hq⟩ : ∃ q, (upTo l s i o k j).length = q := ⟨_, rfl⟩
            have HQQ : Hid ((upTo l s i o k (j + 1)).length = q + 1) := Lib.hid (by rw [HE.out, List.length_append, hq]; rfl)
            rw [hq] at hhit ⊢
            have hql : q < ns.length := (List.getElem?_eq_some_iff.1 hhit).1
            have hql' : (q : Int) < (ns.length : Int) := by omega
            have hqd : decide ((ns.length : Int) ≤ (q : Int)) = false := decide_eq_false (by omega)
            have hqn : decide (ns.length ≤ q) = false := decide_eq_false (by omega)
            have HQL := Lib.hid (show q ≤ 1000 by have := HNL2.out; omega)
            obtain ⟨U, HU, HUR, HUF, hu⟩ : ∃ U : World → Prop, Hid (Closed U) ∧ Hid (∀ W, U W → R W) ∧ Hid (∀ W, U W → Whole W gf 65 [.int .i64 f1, .int .i64 f2, .int .i64 f3, .int .i64 f4]) ∧ U W1 :=
              ⟨fun W => R W ∧ Whole W gf 65 [.int .i64 f1, .int .i64 f2, .int .i64 f3, .int .i64 f4], Lib.hid (HRc.out.and (Closed.whole _ _ _)), Lib.hid fun _ h => h.1, Lib.hid fun _ h => h.2, HR1.out, HF.out⟩
            obtain ⟨nb, noff, HAA, HD0, HD⟩ := row_at (n := 3) (fun _ => rfl) (by omega) HRr.out HR1.out hhit
            have HHI := Lib.hid hhit
            have HS : Hid (∀ W, U W → W.cell? ⟨nb, noff + q * 3, none⟩ = some (.int .i64 f3) ∧ W.cell? ⟨nb, noff + q * 3 + 1, none⟩ = some (.int .i64 f4) ∧ W.cell? ⟨nb, noff + q * 3 + 2, none⟩ = some (.int .i64 k) ∧ W.cell? ⟨gf, 2, none⟩ = some (.int .i64 f3) ∧ W.cell? ⟨gf, 3, none⟩ = some (.int .i64 f4)) := Lib.hid fun W hW =>
              ⟨HD0.out W (HUR.out W hW) q _ _ HHI.out rfl, HD.out W (HUR.out W hW) q _ 1 _ HHI.out rfl, HD.out W (HUR.out W hW) q _ 2 _ HHI.out rfl, (HUF.out W hW).cell_at 2 rfl, (HUF.out W hW).cell_at 3 rfl⟩
            obtain rfl := HAA.out
            clear HAA
            have hne : ∀ W : World, (binOp .neq 59 (stpV f3 f4 k) (stpV f3 f4 k)).run Tryd.prog W = .ok (.bool false) W := fun W => by rw [neq_needD, decide_eq_true rfl]; rfl
            have q1 : (f1 != s) = false := by simp [e1]
            have q2 : (f2 != wy) = false := by simp [e2]
            clear e1 e2 hhit hq HE
            go_upto_region 19 with (fail)
            clear v0 d0 d1 q1 q2
            have HBS : Hid (∀ W, Below W1.heap.size W1 W → U W) := Lib.hid (fun W hB => HU.out _ _ hu hB)
            clear hu
            refine region_mix (Below W1.heap.size W1) [(0, false), (1, false), (2, false), (3, false), (4, false), (5, false), (6, false), (7, false), (8, false), (9, false), (10, false), (11, false), (12, false), (13, false), (14, false), (15, false), (16, false)] (by kernel_rfl) (by kernel_rfl) (Below W1.heap.size W1) ⟨Closed.below W1, fun _ h => h⟩ (Below.refl _ _).drew ?_
            simp only [pickOps, List.getElem?_cons_zero, List.getElem?_cons_succ]
            repeat (first | (refine mix_skip (by rfl) ?_; simp only [Act.put, List.setIfInBounds_toArray, List.set_cons_zero, List.set_cons_succ]) | (refine mix_read _ (by rfl) (fun W hW => by (have hW := HBS.out W hW; have m0 := HS.out W hW; have n0 := m0.1; have n1 := m0.2.1; have n2 := m0.2.2.1; have f2 := m0.2.2.2.1; have f3 := m0.2.2.2.2; clear m0; go_simp; first | done | with_reducible rfl)) ?_; simp only [Act.put, List.setIfInBounds_toArray, List.set_cons_zero, List.set_cons_succ]))
            refine mix_nil (fun W hW => ?_)
            have hu := HBS.out W hW
            clear hW HBS hne
            have hwq : IntKind.i64.wrap ((q : Int) + 1) = (q : Int) + 1 := IntWalk.i64_in _ (by have := HQL.out; omega)
            have HR2 := Lib.hid (HUR.out _ hu)
            clear hu
            go_wp2_with fail
            go_roundw
            case rel => exact ⟨j + 1, hlt, by go_num, by rw [HQQ.out]; go_num, HR2⟩
            case measure => simp [intOf]; omega
          · have HE := Lib.hid (upTo_no (k := k) HX.out (by rw [HIF.out]; simp [e2]))
            have q1 : (f1 != s) = false := by simp [e1]
            have q2 : (f2 != wy) = true := by simp [e2]
            clear e1 e2
            go_wp2_with fail
            go_roundw
            case rel => exact ⟨j + 1, hlt, by go_num, by rw [HE.out], HR1⟩
            case measure => simp [intOf]; omega
        · have HE := Lib.hid (upTo_no (k := k) HX.out (by rw [HIF.out]; simp [e1]))
          have q1 : (f1 != s) = true := by simp [e1]
          clear e1
          go_wp2_with fail
          go_roundw
          case rel => exact ⟨j + 1, hlt, by go_num, by rw [HE.out], HR1⟩
          case measure => simp [intOf]; omega
      · obtain rfl : j = l.flanks.length := by omega
        have HE : Hid ((upTo l s i o k l.flanks.length).length = ns.length) := Lib.hid (by rw [upTo_all, HNS.out])
        rw [HE.out]
        have hq := HRq.out _ hr
        clear hr HM
        cases st
        · go_wp2_with fail
          refine (KW.out _ hq).mono ?_
          clear hq x3
          rintro e w9 ⟨rfl, hq⟩
          go_wp2_with fail
          go_ret
          exact ⟨rfl, HQb.out _ hq⟩
        · go_wp2_with fail
          refine (KW.out _ hq).mono ?_
          clear hq x3
          rintro e w9 ⟨rfl, hq⟩
          go_wp2_with fail
          go_ret
          exact ⟨rfl, HQb.out _ hq⟩
  · obtain ⟨hn0, hp1, hp2, j0, y, hj0, hy, hyk⟩ := HKO.out rfl
    subst hj0
    subst hp1
    have hp3 := hp2.symm
    subst hp3
    have HZ : Hid ((upTo l (j0 : Int) i o k 0).length = 1) := Lib.hid (by rw [upTo_zero, HFV.out]; rfl)
    have hnn : ¬ ns.length = 0 := by
      intro e
      rw [List.getElem?_eq_none (by omega)] at hn0
      cases hn0
    have hnz : ((ns.length : Int) == 0) = false := by rw [beq_eq_false_iff_ne]; omega
    have hnp : 0 < ns.length := by omega
    have hnp' : (0 : Int) < (ns.length : Int) := by omega
    obtain ⟨b, off, hA, _, hc0, hc⟩ := (HTW.out _ (HRq.out _ hr)).2.secs.nth (n := 11) Sec.len (by omega) hy
    have c0 := hc0 j0 y _ hy rfl
    rw [hyk] at c0
    obtain ⟨nb, noff, rfl, _, hd0, hd⟩ := (HRr.out _ hr).nth (n := 3) (fun _ => rfl) (by omega) hn0
    have n0 := hd0 0 _ _ hn0 rfl
    have n1 := hd 0 _ 1 _ hn0 rfl
    have n2 := hd 0 _ 2 _ hn0 rfl
    simp only [Nat.zero_mul, Nat.add_zero] at n0 n1 n2
    have x0 := (HQl.out _ (HRq.out _ hr)).cell_at 0 rfl
    rw [hA] at x0
    have v0 := (HQv.out _ (HRq.out _ hr)).cell_at 0 rfl
    have hjl : (j0 : Int) < l.secs.length := by have := (List.getElem?_eq_some_iff.1 hy).1; omega
    have hne : ∀ W : World, (binOp .neq 59 (stpV (j0 : Int) wy k) (stpV (j0 : Int) wy k)).run Tryd.prog W = .ok (.bool false) W := fun W => by rw [neq_needD, decide_eq_true rfl]; rfl
    have HA0 := Lib.hid hA
    clear hn0 hy hyk hc0 hc hd0 hd hnn hA
    go_wp2_with fail
    clear n0 n1 n2 x0 v0 c0 hne
    obtain ⟨q0, hq0⟩ : ∃ q0, (upTo l (j0 : Int) i o k 0).length = q0 := ⟨_, rfl⟩
    go_loopw [14, 15] (fun v i' wr => ∃ j : Nat, j ≤ l.flanks.length ∧ i' = .int .i64 j ∧ v = .int .i64 ((upTo l (j0 : Int) i o k j).length : Nat) ∧ Hid (R wr)) (fun _ i' _ => l.flanks.length - (intOf i').toNat)
    case atStart => exact ⟨0, by omega, rfl, by rw [HZ.out]; rfl, Lib.hid hr⟩
    case round =>
      clear hr
      obtain ⟨j, hj, rfl, rfl, HM⟩ := hrel
      obtain ⟨wa, rfl⟩ : ∃ W, W = wr := ⟨wr, rfl⟩
      have hr := HM.out
      have x3 := (HQl.out _ (HRq.out _ hr)).cell_at 3 rfl
      by_cases hlt : j < l.flanks.length
      · have hlt' : (j : Int) < l.flanks.length := by omega
        obtain ⟨⟨f1, f2, f3, f4⟩, hx⟩ : ∃ x, l.flanks[j]? = some x := ⟨_, List.getElem?_eq_getElem hlt⟩
        obtain ⟨b, off, hA, _, hc0, hc⟩ := (HTW.out _ (HRq.out _ hr)).2.flanks.nth (n := 4) (fun _ => rfl) (by omega) hx
        have HX := Lib.hid hx
        have c0 := hc0 j _ _ hx rfl
        have c1 := hc j _ 1 _ hx rfl
        have c2 := hc j _ 2 _ hx rfl
        have c3 := hc j _ 3 _ hx rfl
        have hwi : IntKind.i64.wrap ((j : Int) + 1) = (j : Int) + 1 := IntWalk.i64_in _ (by omega)
        rw [hA] at x3
        obtain ⟨gf, hgf⟩ : ∃ gf, wa.heap.size = gf := ⟨_, rfl⟩
        obtain ⟨W1, hW1⟩ : ∃ W1, wa.alloc (.cells #[.int .i64 f1, .int .i64 f2, .int .i64 f3, .int .i64 f4] 65) = W1 := ⟨_, rfl⟩
        have HF : Hid (Whole W1 gf 65 [.int .i64 f1, .int .i64 f2, .int .i64 f3, .int .i64 f4]) := Lib.hid (by rw [← hW1]; exact Whole.new_at wa _ [.int .i64 f1, .int .i64 f2, .int .i64 f3, .int .i64 f4] gf hgf.symm)
        have HR1 : Hid (R W1) := Lib.hid (by rw [← hW1]; exact HRc.out _ _ hr (below1 _ _))
        have HHG := Lib.hid (And.intro hgf hW1)
        clear hx hc0 hc hA hr hgf hW1 HM
        go_upto_region 18 with (fail)
        try rw [HHG.out.2]
        try rw [HHG.out.1]
        clear x3 c0 c1 c2 c3
        have v0 := (HQv.out _ (HRq.out _ HR1.out)).cell_at 0 rfl
        have d0 := HF.out.cell_at 0 rfl
        have d1 := HF.out.cell_at 1 rfl
        cases st
        · have HE := Lib.hid (upTo_no (k := k) HX.out (by rw [HIF.out]; rfl))
          go_wp2_with fail
          go_roundw
          case rel => exact ⟨j + 1, hlt, by go_num, by rw [HE.out], HR1⟩
          case measure => simp [intOf]; omega
        by_cases e1 : f1 = (j0 : Int)
        · by_cases e2 : f2 = wy
          · have hhit := upTo_hit (k := k) HX.out (by rw [HIF.out]; simp [e1, e2])
            have HE := Lib.hid (upTo_yes (k := k) HX.out (by rw [HIF.out]; simp [e1, e2]))
            rw [HNS.out] at hhit
            simp only at hhit HE
            obtain ⟨q, hq⟩ : ∃ q, (upTo l (j0 : Int) i o k j).length = q := ⟨_, rfl⟩
            have HQQ : Hid ((upTo l (j0 : Int) i o k (j + 1)).length = q + 1) := Lib.hid (by rw [HE.out, List.length_append, hq]; rfl)
            rw [hq] at hhit ⊢
            have hql : q < ns.length := (List.getElem?_eq_some_iff.1 hhit).1
            have hql' : (q : Int) < (ns.length : Int) := by omega
            have hqd : decide ((ns.length : Int) ≤ (q : Int)) = false := decide_eq_false (by omega)
            have hqn : decide (ns.length ≤ q) = false := decide_eq_false (by omega)
            have HQL := Lib.hid (show q ≤ 1000 by have := HNL2.out; omega)
            obtain ⟨U, HU, HUR, HUF, hu⟩ : ∃ U : World → Prop, Hid (Closed U) ∧ Hid (∀ W, U W → R W) ∧ Hid (∀ W, U W → Whole W gf 65 [.int .i64 f1, .int .i64 f2, .int .i64 f3, .int .i64 f4]) ∧ U W1 :=
              ⟨fun W => R W ∧ Whole W gf 65 [.int .i64 f1, .int .i64 f2, .int .i64 f3, .int .i64 f4], Lib.hid (HRc.out.and (Closed.whole _ _ _)), Lib.hid fun _ h => h.1, Lib.hid fun _ h => h.2, HR1.out, HF.out⟩
            obtain ⟨nb, noff, HAA, HD0, HD⟩ := row_at (n := 3) (fun _ => rfl) (by omega) HRr.out HR1.out hhit
            have HHI := Lib.hid hhit
            have HS : Hid (∀ W, U W → W.cell? ⟨nb, noff + q * 3, none⟩ = some (.int .i64 f3) ∧ W.cell? ⟨nb, noff + q * 3 + 1, none⟩ = some (.int .i64 f4) ∧ W.cell? ⟨nb, noff + q * 3 + 2, none⟩ = some (.int .i64 k) ∧ W.cell? ⟨gf, 2, none⟩ = some (.int .i64 f3) ∧ W.cell? ⟨gf, 3, none⟩ = some (.int .i64 f4)) := Lib.hid fun W hW =>
              ⟨HD0.out W (HUR.out W hW) q _ _ HHI.out rfl, HD.out W (HUR.out W hW) q _ 1 _ HHI.out rfl, HD.out W (HUR.out W hW) q _ 2 _ HHI.out rfl, (HUF.out W hW).cell_at 2 rfl, (HUF.out W hW).cell_at 3 rfl⟩
            cases HAA.out
            clear HAA
            have hne : ∀ W : World, (binOp .neq 59 (stpV f3 f4 k) (stpV f3 f4 k)).run Tryd.prog W = .ok (.bool false) W := fun W => by rw [neq_needD, decide_eq_true rfl]; rfl
            have q1 : (f1 != (j0 : Int)) = false := by simp [e1]
            have q2 : (f2 != wy) = false := by simp [e2]
            clear e1 e2 hhit hq HE
            go_upto_region 19 with (fail)
            clear v0 d0 d1 q1 q2
            have HBS : Hid (∀ W, Below W1.heap.size W1 W → U W) := Lib.hid (fun W hB => HU.out _ _ hu hB)
            clear hu
            refine region_mix (Below W1.heap.size W1) [(0, false), (1, false), (2, false), (3, false), (4, false), (5, false), (6, false), (7, false), (8, false), (9, false), (10, false), (11, false), (12, false), (13, false), (14, false), (15, false), (16, false)] (by kernel_rfl) (by kernel_rfl) (Below W1.heap.size W1) ⟨Closed.below W1, fun _ h => h⟩ (Below.refl _ _).drew ?_
            simp only [pickOps, List.getElem?_cons_zero, List.getElem?_cons_succ]
            repeat (first | (refine mix_skip (by rfl) ?_; simp only [Act.put, List.setIfInBounds_toArray, List.set_cons_zero, List.set_cons_succ]) | (refine mix_read _ (by rfl) (fun W hW => by (have hW := HBS.out W hW; have m0 := HS.out W hW; have n0 := m0.1; have n1 := m0.2.1; have n2 := m0.2.2.1; have f2 := m0.2.2.2.1; have f3 := m0.2.2.2.2; clear m0; go_simp; first | done | with_reducible rfl)) ?_; simp only [Act.put, List.setIfInBounds_toArray, List.set_cons_zero, List.set_cons_succ]))
            refine mix_nil (fun W hW => ?_)
            have hu := HBS.out W hW
            clear hW HBS hne
            have hwq : IntKind.i64.wrap ((q : Int) + 1) = (q : Int) + 1 := IntWalk.i64_in _ (by have := HQL.out; omega)
            have HR2 := Lib.hid (HUR.out _ hu)
            clear hu
            go_wp2_with fail
            go_roundw
            case rel => exact ⟨j + 1, hlt, by go_num, by rw [HQQ.out]; go_num, HR2⟩
            case measure => simp [intOf]; omega
          · have HE := Lib.hid (upTo_no (k := k) HX.out (by rw [HIF.out]; simp [e2]))
            have q1 : (f1 != (j0 : Int)) = false := by simp [e1]
            have q2 : (f2 != wy) = true := by simp [e2]
            clear e1 e2
            go_wp2_with fail
            go_roundw
            case rel => exact ⟨j + 1, hlt, by go_num, by rw [HE.out], HR1⟩
            case measure => simp [intOf]; omega
        · have HE := Lib.hid (upTo_no (k := k) HX.out (by rw [HIF.out]; simp [e1]))
          have q1 : (f1 != (j0 : Int)) = true := by simp [e1]
          clear e1
          go_wp2_with fail
          go_roundw
          case rel => exact ⟨j + 1, hlt, by go_num, by rw [HE.out], HR1⟩
          case measure => simp [intOf]; omega
      · obtain rfl : j = l.flanks.length := by omega
        have HE : Hid ((upTo l (j0 : Int) i o k l.flanks.length).length = ns.length) := Lib.hid (by rw [upTo_all, HNS.out])
        rw [HE.out]
        have hq := HRq.out _ hr
        clear hr HM
        cases st
        · exact absurd (HON.out rfl) (by decide)
        go_wp2_with fail
        refine (KW.out _ hq).mono ?_
        clear hq x3
        rintro e w9 ⟨rfl, hq⟩
        go_wp2_with fail
        go_ret
        exact ⟨rfl, HQb.out _ hq⟩
end Go.Proofs.YthjnhigcheakaaaDoor
