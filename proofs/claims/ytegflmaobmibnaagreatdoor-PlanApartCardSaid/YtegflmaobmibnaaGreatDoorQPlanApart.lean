/- Two layouts have the same bytes just if they are the same. -/
import Derived.Test.YtegflmaobmibnaaGreatDoorQPlanBack
namespace Go.Proofs.YtegflmaobmibnaaGreatDoor
set_option maxRecDepth 100000
open Go.RowKit Go.Shelf
set_option linter.unusedVariables false
set_option linter.unusedSimpArgs false

theorem bits_times (ts : List Int) : (bitsOf (ts.flatMap numsTime)).length = 10 * ts.length := by
  induction ts with
  | nil => rfl
  | cons a l ih =>
    rw [List.flatMap_cons, bitsOf_append, List.length_append, ih, List.length_cons]
    show (bitsOf [(a - 1, 10)]).length + _ = _
    rw [bitsOf_one, first_length]
    omega
theorem right_link (n : Lay) (t : Int) (h : rightL n = true) (h1 : 1 ≤ t) (h2 : t ≤ 1000) : rightL { n with t6 := t } = true := by
  have e : rightL { n with t6 := t } = (!tooV n && (!((timesL { n with t6 := t }).any fun n => !withinA n 1 1000) && (!(n.secs.any fun s => !rightK s) && (!((portsL n).any fun p => !thereV n p.1 p.2) && (!((stepsL n).any fun s => !stepV n s.1 s.2.1 s.2.2) && !(n.flanks.any fun f => !flankV n f.1 f.2.1 f.2.2.1 f.2.2.2)))))) := rfl
  rw [e]
  unfold rightL at h
  rw [Bool.and_eq_true] at h ⊢
  refine ⟨h.1, ?_⟩
  have h3 := h.2
  rw [Bool.and_eq_true] at h3 ⊢
  refine ⟨?_, h3.2⟩
  have h4 := h3.1
  have ht : withinA t 1 1000 = true := withinA_iff.2 ⟨h1, h2⟩
  simp only [timesL, List.any_cons, List.any_nil, Bool.or_false, Bool.not_eq_true', Bool.or_eq_false_iff, ht, Bool.not_true] at h4 ⊢
  simp only [h4, and_self, true_and]
  first | done | trivial
theorem link_pl {n l : Lay} (h : Alike n l) (t : Int) : ({ n with t6 := t } : Lay).pl = { l.pl with ts := [l.t0, l.t1, l.t2, l.t3, l.t4, l.t5, t] } := by
  unfold Lay.pl timesL
  simp only [h.secs, h.sigs, h.exits, h.flanks, h.t0, h.t1, h.t2, h.t3, h.t4, h.t5]
theorem link_len {n l : Lay} (h : Alike n l) (t : Int) : (bytesL ({ n with t6 := t } : Lay).pl).length = (bytesL l.pl).length := by
  have e : (bitsOf (numsL ({ n with t6 := t } : Lay).pl)).length = (bitsOf (numsL l.pl)).length := by
    rw [link_pl h t, numsL_eq, numsL_eq]
    simp only [bitsOf_append, List.length_append, bits_times]
    rfl
  have h1 := bitsL_len ({ n with t6 := t } : Lay).pl
  have h2 := bitsL_len l.pl
  omega
theorem same_bytes {l m : Lay} (hl : rightL l = true) (hm : rightL m = true) : sameB (bytesL l.pl) (bytesL m.pl) = sameV l m := by
  rw [Bool.eq_iff_iff, sameV_pl]
  unfold sameB
  rw [decide_eq_true_eq]
  exact ⟨fun h => bytes_inj (fine_of_right hl) (fine_of_right hm) h, fun h => by rw [h]⟩
theorem same_link {n l : Lay} (hl : rightL l = true) (h : Alike n l) (t : Int) (h1 : 1 ≤ t) (h2 : t ≤ 1000) : sameB (bytesL l.pl) (bytesL ({ n with t6 := t } : Lay).pl) = (l.t6 == t) := by
  have hn : rightL n = true := (right_pl (pl_alike h)).trans hl
  rw [Bool.eq_iff_iff]
  unfold sameB
  rw [decide_eq_true_eq, beq_iff_eq]
  constructor
  · intro e
    have e2 := bytes_inj (fine_of_right hl) (fine_of_right (right_link n t hn h1 h2)) e
    rw [link_pl h t] at e2
    have e3 := congrArg PL.ts e2
    simp only [Lay.pl, timesL, List.cons.injEq, and_true] at e3
    exact e3.2.2.2.2.2.2
  · intro e
    rw [link_pl h t, ← e]
    rfl

set_option maxHeartbeats 32000000 in
theorem planApart_walk (l m : Lay) (t : Int) (w : World) (hT : Shapes w) (hL : Lies l w) (hM : Lies m w) :
    Calls Tryz.prog 6 #[l.val, m.val, .int .i64 t] w fun e w' => e = .returned (.bool true) ∧ Below w.heap.size w w' := by
  have hSw : Shapes w := hT
  have HTW : Hid (∀ W, On8 w W → Shapes W) := Lib.hid (fun W h => hSw.on h.below)
  have HLW : Hid (∀ W, On8 w W → Lies l W) := Lib.hid (fun W h => Lies.closed l _ _ hL h.below)
  have HMW : Hid (∀ W, On8 w W → Lies m W) := Lib.hid (fun W h => Lies.closed m _ _ hM h.below)
  obtain ⟨W0, hW0⟩ : ∃ W, (w.alloc (.cells l.cells.toArray 29)).alloc (.cells m.cells.toArray 29) = W := ⟨_, rfl⟩
  have HS0 : Hid (W0.heap.size = w.heap.size + 2) := Lib.hid (by rw [← hW0]; simp)
  have HBX : Hid (∀ W, Below (w.heap.size + 2) W0 W → Whole W w.heap.size 29 l.cells ∧ Whole W (w.heap.size + 1) 29 m.cells ∧ On8 w W) := Lib.hid (fun W h => by
    rw [← hW0] at h
    exact ⟨((Whole.new w 29 l.cells).alloc _).below h (by omega), (Whole.new_at (w.alloc (.cells l.cells.toArray 29)) 29 m.cells (n := w.heap.size + 1) (by simp)).below h (by omega), ⟨(below2 w _ _).trans (h.mono (by omega))⟩⟩)
  have HW0 := Lib.hid hW0
  have HB_W0 : Hid (Below (w.heap.size + 2) W0 W0) := Lib.hid (Below.refl _ _)
  obtain ⟨gl, hgl⟩ : ∃ g, greatV l = g := ⟨_, rfl⟩
  obtain ⟨gm, hgm⟩ : ∃ g, greatV m = g := ⟨_, rfl⟩
  obtain ⟨rl, hrl⟩ : ∃ r, rightL l = r := ⟨_, rfl⟩
  obtain ⟨rm, hrm⟩ : ∃ r, rightL m = r := ⟨_, rfl⟩
  have HGL := Lib.hid hgl
  have HGM := Lib.hid hgm
  have HRL := Lib.hid hrl
  have HRM := Lib.hid hrm
  clear hgl hgm hrl hrm hT hL hM hSw hW0
  go_enter Tryz.func6, Tryz.ntmps6
  go_wp2_with fail
  rw [HW0.out]
  clear HW0
  refine (great_B (HLW.out _ (HBX.out _ HB_W0.out).2.2) HGL.out).mono ?_
  rintro e w1 ⟨rfl, hb⟩
  have HB_w1 : Hid (Below (w.heap.size + 2) W0 w1) := Lib.hid (HB_W0.out.trans (hb.mono (by have := HB_W0.out.size; have := HS0.out; omega)))
  clear hb
  cases gl
  rotate_left
  · go_wp2_with fail
    refine (wakes8_any _ (HTW.out _ (HBX.out _ HB_w1.out).2.2)).mono ?_
    rintro e wq ⟨rfl, hbq⟩
    have HF := Lib.hid ((HBX.out _ HB_w1.out).2.2.on hbq).below
    clear hbq
    go_wp2_with fail
    go_ret
    exact ⟨rfl, HF.out⟩
  · have hx := (HBX.out _ HB_w1.out).2.1
    have y0 := hx.cell_at 0 rfl
    have y1 := hx.cell_at 1 rfl
    have y2 := hx.cell_at 2 rfl
    have y3 := hx.cell_at 3 rfl
    have y4 := hx.cell_at 4 rfl
    have y5 := hx.cell_at 5 rfl
    have y6 := hx.cell_at 6 rfl
    have y7 := hx.cell_at 7 rfl
    have y8 := hx.cell_at 8 rfl
    have y9 := hx.cell_at 9 rfl
    have y10 := hx.cell_at 10 rfl
    clear hx
    go_wp2_with fail
    refine (great_B (HMW.out _ (HBX.out _ HB_w1.out).2.2) HGM.out).mono ?_
    rintro e w2 ⟨rfl, hb⟩
    have HB_w2 : Hid (Below (w.heap.size + 2) W0 w2) := Lib.hid (HB_w1.out.trans (hb.mono (by have := HB_w1.out.size; have := HS0.out; omega)))
    clear hb
    cases gm
    rotate_left
    · clear y0 y1 y2 y3 y4 y5 y6 y7 y8 y9 y10
      go_wp2_with fail
      refine (wakes8_any _ (HTW.out _ (HBX.out _ HB_w2.out).2.2)).mono ?_
      rintro e wq ⟨rfl, hbq⟩
      have HF := Lib.hid ((HBX.out _ HB_w2.out).2.2.on hbq).below
      clear hbq
      go_wp2_with fail
      go_ret
      exact ⟨rfl, HF.out⟩
    · clear y0 y1 y2 y3 y4 y5 y6 y7 y8 y9 y10
      have hx := (HBX.out _ HB_w2.out).1
      have x0 := hx.cell_at 0 rfl
      have x1 := hx.cell_at 1 rfl
      have x2 := hx.cell_at 2 rfl
      have x3 := hx.cell_at 3 rfl
      have x4 := hx.cell_at 4 rfl
      have x5 := hx.cell_at 5 rfl
      have x6 := hx.cell_at 6 rfl
      have x7 := hx.cell_at 7 rfl
      have x8 := hx.cell_at 8 rfl
      have x9 := hx.cell_at 9 rfl
      have x10 := hx.cell_at 10 rfl
      clear hx
      go_wp2_with fail
      refine (rightR_B (HLW.out _ (HBX.out _ HB_w2.out).2.2) HRL.out).mono ?_
      rintro e w3 ⟨rfl, hb⟩
      have HB_w3 : Hid (Below (w.heap.size + 2) W0 w3) := Lib.hid (HB_w2.out.trans (hb.mono (by have := HB_w2.out.size; have := HS0.out; omega)))
      clear hb
      clear x0 x1 x2 x3 x4 x5 x6 x7 x8 x9 x10
      cases rl
      · go_wp2_with fail
        refine (wakes8_any _ (HTW.out _ (HBX.out _ HB_w3.out).2.2)).mono ?_
        rintro e wq ⟨rfl, hbq⟩
        have HF := Lib.hid ((HBX.out _ HB_w3.out).2.2.on hbq).below
        clear hbq
        go_wp2_with fail
        go_ret
        exact ⟨rfl, HF.out⟩
      · have hx := (HBX.out _ HB_w3.out).2.1
        have y0 := hx.cell_at 0 rfl
        have y1 := hx.cell_at 1 rfl
        have y2 := hx.cell_at 2 rfl
        have y3 := hx.cell_at 3 rfl
        have y4 := hx.cell_at 4 rfl
        have y5 := hx.cell_at 5 rfl
        have y6 := hx.cell_at 6 rfl
        have y7 := hx.cell_at 7 rfl
        have y8 := hx.cell_at 8 rfl
        have y9 := hx.cell_at 9 rfl
        have y10 := hx.cell_at 10 rfl
        clear hx
        go_wp2_with fail
        refine (rightR_B (HMW.out _ (HBX.out _ HB_w3.out).2.2) HRM.out).mono ?_
        rintro e w4 ⟨rfl, hb⟩
        have HB_w4 : Hid (Below (w.heap.size + 2) W0 w4) := Lib.hid (HB_w3.out.trans (hb.mono (by have := HB_w3.out.size; have := HS0.out; omega)))
        clear hb
        clear y0 y1 y2 y3 y4 y5 y6 y7 y8 y9 y10
        cases rm
        · go_wp2_with fail
          refine (wakes8_any _ (HTW.out _ (HBX.out _ HB_w4.out).2.2)).mono ?_
          rintro e wq ⟨rfl, hbq⟩
          have HF := Lib.hid ((HBX.out _ HB_w4.out).2.2.on hbq).below
          clear hbq
          go_wp2_with fail
          go_ret
          exact ⟨rfl, HF.out⟩
        · have hx := (HBX.out _ HB_w4.out).1
          have x0 := hx.cell_at 0 rfl
          have x1 := hx.cell_at 1 rfl
          have x2 := hx.cell_at 2 rfl
          have x3 := hx.cell_at 3 rfl
          have x4 := hx.cell_at 4 rfl
          have x5 := hx.cell_at 5 rfl
          have x6 := hx.cell_at 6 rfl
          have x7 := hx.cell_at 7 rfl
          have x8 := hx.cell_at 8 rfl
          have x9 := hx.cell_at 9 rfl
          have x10 := hx.cell_at 10 rfl
          clear hx
          go_wp2_with fail
          refine (putL_any l w4 (HTW.out _ (HBX.out _ HB_w4.out).2.2) (HTW.out _ (HBX.out _ HB_w4.out).2.2).lt (HLW.out _ (HBX.out _ HB_w4.out).2.2) true HRL.out).mono ?_
          clear x0 x1 x2 x3 x4 x5 x6 x7 x8 x9 x10
          rintro e w5 ⟨hb, (⟨h, _⟩ | ⟨_, A, c, rfl, hh⟩)⟩
          · cases h
          have HB_w5 : Hid (Below (w.heap.size + 2) W0 w5) := Lib.hid (HB_w4.out.trans (hb.mono (by have := HB_w4.out.size; have := HS0.out; omega)))
          have HHA := Lib.hid hh
          clear hb hh
          have hx := (HBX.out _ HB_w5.out).2.1
          have y0 := hx.cell_at 0 rfl
          have y1 := hx.cell_at 1 rfl
          have y2 := hx.cell_at 2 rfl
          have y3 := hx.cell_at 3 rfl
          have y4 := hx.cell_at 4 rfl
          have y5 := hx.cell_at 5 rfl
          have y6 := hx.cell_at 6 rfl
          have y7 := hx.cell_at 7 rfl
          have y8 := hx.cell_at 8 rfl
          have y9 := hx.cell_at 9 rfl
          have y10 := hx.cell_at 10 rfl
          clear hx
          go_wp2_with fail
          refine (putL_any m w5 (HTW.out _ (HBX.out _ HB_w5.out).2.2) (HTW.out _ (HBX.out _ HB_w5.out).2.2).lt (HMW.out _ (HBX.out _ HB_w5.out).2.2) true HRM.out).mono ?_
          clear y0 y1 y2 y3 y4 y5 y6 y7 y8 y9 y10
          rintro e w6 ⟨hb, (⟨h, _⟩ | ⟨_, A', c', rfl, hh⟩)⟩
          · cases h
          have HB_w6 : Hid (Below (w.heap.size + 2) W0 w6) := Lib.hid (HB_w5.out.trans (hb.mono (by have := HB_w5.out.size; have := HS0.out; omega)))
          have HHA6 : Hid (Hands w6 A (bytesL l.pl)) := Lib.hid (HHA.out.on hb)
          have HHB := Lib.hid hh
          clear hb hh
          go_wp2_with fail
          have HD5 : Hid (∀ W, Below w6.heap.size w6 W → Below (w.heap.size + 2) W0 W) := Lib.hid (fun W h => HB_w6.out.trans (h.mono (by have := HB_w6.out.size; have := HS0.out; omega)))
          obtain ⟨q, hq⟩ : ∃ q, sameV l m = q := ⟨_, rfl⟩
          have KS : Hid (∀ W, Below w6.heap.size w6 W → Calls Tryz.prog 13 #[.slice A (bytesL l.pl).length c, .slice A' (bytesL m.pl).length c'] W fun e w' => e = .returned (.bool q) ∧ Below W.heap.size W w') := Lib.hid (fun W h => by
            have hk := same8_any A A' c c' (bytesL l.pl) (bytesL m.pl) W (HHA6.out.on h) (HHB.out.on h)
            rw [same_bytes HRL.out HRM.out, hq] at hk
            exact hk)
          have KV : Hid (∀ W, Below w6.heap.size w6 W → Calls Tryz.prog 14 #[l.val, m.val] W fun e w' => e = .returned (.bool q) ∧ Below W.heap.size W w') := Lib.hid (fun W h => sameR_B (HLW.out _ (HBX.out _ (HD5.out W h)).2.2) (HMW.out _ (HBX.out _ (HD5.out W h)).2.2) hq)
          clear hq
          refine region_mix (Below w6.heap.size w6) [(0, false), (1, false), (2, false), (3, false), (4, false), (5, false), (6, false), (7, false), (8, false), (9, false), (10, false), (11, false), (12, false), (13, false), (14, false)] (by kernel_rfl) (by kernel_rfl) (Below w6.heap.size w6) ⟨Closed.below w6, fun _ h => h⟩ (Below.refl _ _).drew ?_
          simp only [pickOps, List.getElem?_cons_zero, List.getElem?_cons_succ]
          repeat (first | (refine mix_skip (by rfl) ?_; simp only [Act.put, List.setIfInBounds_toArray, List.set_cons_zero, List.set_cons_succ]) | (refine mix_read _ (by rfl) (fun W hW => by (have hq := HBX.out W (HD5.out W hW); have hx := hq.1; have hy := hq.2.1; have x0 := hx.cell_at 0 rfl; have y0 := hy.cell_at 0 rfl; have x1 := hx.cell_at 1 rfl; have y1 := hy.cell_at 1 rfl; have x2 := hx.cell_at 2 rfl; have y2 := hy.cell_at 2 rfl; have x3 := hx.cell_at 3 rfl; have y3 := hy.cell_at 3 rfl; have x4 := hx.cell_at 4 rfl; have y4 := hy.cell_at 4 rfl; have x5 := hx.cell_at 5 rfl; have y5 := hy.cell_at 5 rfl; have x6 := hx.cell_at 6 rfl; have y6 := hy.cell_at 6 rfl; have x7 := hx.cell_at 7 rfl; have y7 := hy.cell_at 7 rfl; have x8 := hx.cell_at 8 rfl; have y8 := hy.cell_at 8 rfl; have x9 := hx.cell_at 9 rfl; have y9 := hy.cell_at 9 rfl; have x10 := hx.cell_at 10 rfl; have y10 := hy.cell_at 10 rfl; clear hx hy hq hW; go_simp; first | done | with_reducible rfl)) ?_; simp only [Act.put, List.setIfInBounds_toArray, List.set_cons_zero, List.set_cons_succ]) | (refine mix_call _ _ _ (by rfl) (fun W hW => by (have hq := HBX.out W (HD5.out W hW); have hx := hq.1; have hy := hq.2.1; have x0 := hx.cell_at 0 rfl; have y0 := hy.cell_at 0 rfl; have x1 := hx.cell_at 1 rfl; have y1 := hy.cell_at 1 rfl; have x2 := hx.cell_at 2 rfl; have y2 := hy.cell_at 2 rfl; have x3 := hx.cell_at 3 rfl; have y3 := hy.cell_at 3 rfl; have x4 := hx.cell_at 4 rfl; have y4 := hy.cell_at 4 rfl; have x5 := hx.cell_at 5 rfl; have y5 := hy.cell_at 5 rfl; have x6 := hx.cell_at 6 rfl; have y6 := hy.cell_at 6 rfl; have x7 := hx.cell_at 7 rfl; have y7 := hy.cell_at 7 rfl; have x8 := hx.cell_at 8 rfl; have y8 := hy.cell_at 8 rfl; have x9 := hx.cell_at 9 rfl; have y9 := hy.cell_at 9 rfl; have x10 := hx.cell_at 10 rfl; have y10 := hy.cell_at 10 rfl; clear hx hy hq hW; go_simp; first | done | rfl)) (fun W hW => KS.out W hW) ?_; simp only [Act.put, List.setIfInBounds_toArray, List.set_cons_zero, List.set_cons_succ]) | (refine mix_call _ _ _ (by rfl) (fun W hW => by (have hq := HBX.out W (HD5.out W hW); have hx := hq.1; have hy := hq.2.1; have x0 := hx.cell_at 0 rfl; have y0 := hy.cell_at 0 rfl; have x1 := hx.cell_at 1 rfl; have y1 := hy.cell_at 1 rfl; have x2 := hx.cell_at 2 rfl; have y2 := hy.cell_at 2 rfl; have x3 := hx.cell_at 3 rfl; have y3 := hy.cell_at 3 rfl; have x4 := hx.cell_at 4 rfl; have y4 := hy.cell_at 4 rfl; have x5 := hx.cell_at 5 rfl; have y5 := hy.cell_at 5 rfl; have x6 := hx.cell_at 6 rfl; have y6 := hy.cell_at 6 rfl; have x7 := hx.cell_at 7 rfl; have y7 := hy.cell_at 7 rfl; have x8 := hx.cell_at 8 rfl; have y8 := hy.cell_at 8 rfl; have x9 := hx.cell_at 9 rfl; have y9 := hy.cell_at 9 rfl; have x10 := hx.cell_at 10 rfl; have y10 := hy.cell_at 10 rfl; clear hx hy hq hW; go_simp; first | done | rfl)) (fun W hW => KV.out W hW) ?_; simp only [Act.put, List.setIfInBounds_toArray, List.set_cons_zero, List.set_cons_succ]))
          refine mix_nil (fun W hW => ?_)
          have HB_W : Hid (Below (w.heap.size + 2) W0 W) := Lib.hid (HD5.out W hW)
          have HHAW : Hid (Hands W A (bytesL l.pl)) := Lib.hid (HHA6.out.on hW)
          clear hW
          have hqq : (q != q) = false := by simp
          by_cases h1 : t < 1
          · go_wp2_with fail
            refine (wakes8_any _ (HTW.out _ (HBX.out _ HB_W.out).2.2)).mono ?_
            rintro e wq ⟨rfl, hbq⟩
            have HF := Lib.hid ((HBX.out _ HB_W.out).2.2.on hbq).below
            clear hbq
            go_wp2_with fail
            go_ret
            exact ⟨rfl, HF.out⟩
          · by_cases h2 : 1000 < t
            · go_wp2_with fail
              refine (wakes8_any _ (HTW.out _ (HBX.out _ HB_W.out).2.2)).mono ?_
              rintro e wq ⟨rfl, hbq⟩
              have HF := Lib.hid ((HBX.out _ HB_W.out).2.2.on hbq).below
              clear hbq
              go_wp2_with fail
              go_ret
              exact ⟨rfl, HF.out⟩
            · have hx := (HBX.out _ HB_W.out).1
              have x0 := hx.cell_at 0 rfl
              have x1 := hx.cell_at 1 rfl
              have x2 := hx.cell_at 2 rfl
              have x3 := hx.cell_at 3 rfl
              have x4 := hx.cell_at 4 rfl
              have x5 := hx.cell_at 5 rfl
              have x6 := hx.cell_at 6 rfl
              have x7 := hx.cell_at 7 rfl
              have x8 := hx.cell_at 8 rfl
              have x9 := hx.cell_at 9 rfl
              have x10 := hx.cell_at 10 rfl
              clear hx
              go_wp2_with fail
              refine (ownR_any W (HLW.out _ (HBX.out _ HB_W.out).2.2) (by have := great_no HGL.out; omega) (by have := great_no HGL.out; omega) (by have := great_no HGL.out; omega) (by have := great_no HGL.out; omega) (fun x hx => by have := (great_no HGL.out).2.2.2.2 x hx; omega)).mono ?_
              clear x0 x1 x2 x3 x4 x5 x6 x7 x8 x9 x10
              rintro e w8 ⟨n, rfl, ho, hal, hb⟩
              have HB_w8 : Hid (Below (w.heap.size + 2) W0 w8) := Lib.hid (HB_W.out.trans (hb.mono (by have := HB_W.out.size; have := HS0.out; omega)))
              have HHA8 : Hid (Hands w8 A (bytesL l.pl)) := Lib.hid (HHAW.out.on hb)
              have HAL := Lib.hid hal
              have HO := Lib.hid ho
              have HT12 : Hid (1 ≤ t ∧ t ≤ 1000) := Lib.hid ⟨by omega, by omega⟩
              clear hb hal ho h1 h2
              go_wp2_with fail
              have HRN : Hid (rightL ({ n with t6 := t } : Lay) = true) := Lib.hid (right_link n t ((right_pl (pl_alike HAL.out)).trans HRL.out) HT12.out.1 HT12.out.2)
              have hB9 : ∀ o, Below (w.heap.size + 2) W0 (w8.alloc o) := fun o => HB_w8.out.trans ((below1 w8 o).mono (by have := HB_w8.out.size; have := HS0.out; omega))
              have hLn : Lies n w8 := HO.out.lies (fun s hs => (HLW.out _ (HBX.out _ HB_w8.out).2.2).kinds s (by rw [← HAL.out.secs]; exact hs)) (by rw [HAL.out.secs]; have := great_no HGL.out; omega) (by rw [HAL.out.sigs]; have := great_no HGL.out; omega) (by have h6 := congrArg List.length HAL.out.exits; simp only [List.length_map] at h6; have := great_no HGL.out; omega) (by rw [HAL.out.flanks]; have := great_no HGL.out; omega) (fun x hx => by
                have h7 : x.pure ∈ l.exits.map Exm.pure := by rw [← HAL.out.exits]; exact List.mem_map.2 ⟨x, hx, rfl⟩
                obtain ⟨x', hx', e⟩ := List.mem_map.1 h7
                have h8 := (great_no HGL.out).2.2.2.2 x' hx'
                have h9 : x'.over = x.over := congrArg (fun q => q.2.2) e
                rw [h9] at h8
                omega)
              have hLn2 : Lies ({ n with t6 := t } : Lay) w8 := ⟨hLn.secs, hLn.sigs, hLn.exits, hLn.flanks, hLn.overs, hLn.kinds, hLn.nS, hLn.nG, hLn.nE, hLn.nF, hLn.nO⟩
              refine (putL_any ({ n with t6 := t } : Lay) (w8.alloc (.cells ({ n with t6 := t } : Lay).cells.toArray 29)) (HTW.out _ (HBX.out _ (hB9 _)).2.2) (HTW.out _ (HBX.out _ (hB9 _)).2.2).lt (Lies.closed _ _ _ hLn2 (below1 w8 _)) true HRN.out).mono ?_
              clear hLn hLn2
              rintro e wb ⟨hb, (⟨h, _⟩ | ⟨_, A3, c3, rfl, hh⟩)⟩
              · cases h
              have HB_wb : Hid (Below (w.heap.size + 2) W0 wb) := Lib.hid ((hB9 _).trans (hb.mono (by have := (hB9 (.cells ({ n with t6 := t } : Lay).cells.toArray 29)).size; have := HS0.out; omega)))
              have HHAb : Hid (Hands wb A (bytesL l.pl)) := Lib.hid ((HHA8.out.on (below1 w8 _)).on hb)
              have HHC := Lib.hid hh
              rw [link_len HAL.out t]
              clear hb hh hB9
              obtain ⟨b, hbq⟩ : ∃ b, (l.t6 == t) = b := ⟨_, rfl⟩
              have HBQ := Lib.hid hbq
              clear hbq
              go_wp2_with fail
              have HD12 : Hid (∀ W, Below wb.heap.size wb W → Below (w.heap.size + 2) W0 W) := Lib.hid (fun W h => HB_wb.out.trans (h.mono (by have := HB_wb.out.size; have := HS0.out; omega)))
              have KC : Hid (∀ W, Below wb.heap.size wb W → Calls Tryz.prog 13 #[.slice A (bytesL l.pl).length c, .slice A3 (bytesL l.pl).length c3] W fun e w' => e = .returned (.bool b) ∧ Below W.heap.size W w') := Lib.hid (fun W h => by
                have hk := same8_any A A3 c c3 (bytesL l.pl) (bytesL ({ n with t6 := t } : Lay).pl) W (HHAb.out.on h) (HHC.out.on h)
                rw [same_link HRL.out HAL.out t HT12.out.1 HT12.out.2, HBQ.out, link_len HAL.out t] at hk
                exact hk)
              have KW : Hid (∀ W, Below wb.heap.size wb W → Calls Tryz.prog 8 #[] W fun e w' => e = .returned (.bool true) ∧ Below W.heap.size W w') := Lib.hid (fun W h => wakes8_any W (HTW.out _ (HBX.out _ (HD12.out W h)).2.2))
              refine region_mix (Below wb.heap.size wb) [(0, false), (1, false), (2, false), (3, false), (4, false), (5, false), (6, false), (7, false), (8, false), (9, false), (10, false), (11, false), (12, false), (13, false), (14, false), (15, false), (16, false), (17, false), (18, false), (19, false), (20, false), (21, false), (22, false), (23, false)] (by kernel_rfl) (by kernel_rfl) (Below wb.heap.size wb) ⟨Closed.below wb, fun _ h => h⟩ (Below.refl _ _).drew ?_
              simp only [pickOps, List.getElem?_cons_zero, List.getElem?_cons_succ]
              repeat (first | (refine mix_skip (by rfl) ?_; simp only [Act.put, List.setIfInBounds_toArray, List.set_cons_zero, List.set_cons_succ]) | (refine mix_read _ (by rfl) (fun W hW => by (have hbq := HBQ.out; have hq := HBX.out W (HD12.out W hW); have hx := hq.1; have x10 := hx.cell_at 10 rfl; clear hx hq hW; go_simp; first | done | with_reducible rfl)) ?_; simp only [Act.put, List.setIfInBounds_toArray, List.set_cons_zero, List.set_cons_succ]) | (refine mix_call _ _ _ (by rfl) (fun W hW => by (have hbq := HBQ.out; have hq := HBX.out W (HD12.out W hW); have hx := hq.1; have x10 := hx.cell_at 10 rfl; clear hx hq hW; go_simp; first | done | rfl)) (fun W hW => KC.out W hW) ?_; simp only [Act.put, List.setIfInBounds_toArray, List.set_cons_zero, List.set_cons_succ]) | (refine mix_call _ _ _ (by rfl) (fun W hW => by (have hbq := HBQ.out; have hq := HBX.out W (HD12.out W hW); have hx := hq.1; have x10 := hx.cell_at 10 rfl; clear hx hq hW; go_simp; first | done | rfl)) (fun W hW => KW.out W hW) ?_; simp only [Act.put, List.setIfInBounds_toArray, List.set_cons_zero, List.set_cons_succ]))
              refine mix_nil (fun W9 hW9 => ?_)
              have HF := Lib.hid (HBX.out _ (HD12.out W9 hW9)).2.2.below
              clear hW9
              go_wp2_with fail
              go_ret
              exact ⟨rfl, HF.out⟩
end Go.Proofs.YtegflmaobmibnaaGreatDoor
