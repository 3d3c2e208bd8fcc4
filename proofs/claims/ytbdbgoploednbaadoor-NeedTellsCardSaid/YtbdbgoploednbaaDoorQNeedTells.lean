/- The walk of NeedTells. -/
import Derived.Test.YtbdbgoploednbaaDoorQNeeL
namespace Go.Proofs.YtbdbgoploednbaaDoor
open Go.RowKit Go.Shelf
set_option linter.unusedVariables false
set_option linter.unusedSimpArgs false
set_option maxRecDepth 100000

set_option maxRecDepth 100000 in
set_option maxHeartbeats 32000000 in
theorem needTells_walk {l : Lay} {p : Pth} {us vs : List (Int × Int × Int)} {A Bv : Option Addr} (ca cb : Nat) (pt : Int) {w : World} (hT : Shapes w) (hL : Lies l w) (hF : FWf l) (hp : PLies p w) (hA : Row w w.heap.size A (us.flatMap needCells)) (hB : Row w w.heap.size Bv (vs.flatMap needCells)) (hu : (us.length : Int) ≤ 9223372036854775807) (hv : (vs.length : Int) ≤ 9223372036854775807) (hU : ∀ x ∈ us, NWf x) (hV : ∀ x ∈ vs, NWf x) :
    Calls Tryd.prog 3 #[l.val, p.val, .slice A us.length ca, .slice Bv vs.length cb, .int .i64 pt] w fun e w' => e = .returned (.bool true) ∧ Below w.heap.size w w' := by
  obtain ⟨Q, HQ, HQb, HQl, HQv, hq⟩ := keep_box2 (Closed.below w) (Below.refl _ w) 29 32 l.cells p.cells
  have HTW : Hid (∀ W, Q W → Shapes W ∧ Lies l W ∧ PLies p W) := Lib.hid fun W hW => ⟨Shapes.closed _ _ hT (HQb.out W hW), Lies.closed l _ _ hL (HQb.out W hW), PLies.closed p _ _ hp (HQb.out W hW)⟩
  have KW := Lib.hid (fun W hW => wakes13_P (P := Q) (w := W) HQ.out (fun W hW => (HTW.out W hW).1) hW)
  obtain ⟨g, hg⟩ : ∃ g, great13 l p = g := ⟨_, rfl⟩
  have KG := Lib.hid (fun W hW => keepR HQ.out (great13_any (w := W) (HTW.out W hW).2.1 (HTW.out W hW).2.2 hg) hW)
  have hnP := hp.len
  have HG := Lib.hid hg
  have HRA : Hid (∀ W, Q W → Row W W.heap.size A (us.flatMap needCells)) := Lib.hid fun W hW => hA.on (HQb.out W hW)
  have HRB : Hid (∀ W, Q W → Row W W.heap.size Bv (vs.flatMap needCells)) := Lib.hid fun W hW => hB.on (HQb.out W hW)
  clear hT hL hp hA hB hg
  go_enter Tryd.func3, Tryd.ntmps3
  have m0 := HQl.out _ hq
  have x0 := m0.cell_at 0 rfl
  have x1 := m0.cell_at 1 rfl
  have x2 := m0.cell_at 2 rfl
  have x3 := m0.cell_at 3 rfl
  have x4 := m0.cell_at 4 rfl
  have x5 := m0.cell_at 5 rfl
  have x6 := m0.cell_at 6 rfl
  have x7 := m0.cell_at 7 rfl
  have x8 := m0.cell_at 8 rfl
  have x9 := m0.cell_at 9 rfl
  have x10 := m0.cell_at 10 rfl
  clear m0
  have m0 := HQv.out _ hq
  have y0 := m0.cell_at 0 rfl
  have y1 := m0.cell_at 1 rfl
  have y2 := m0.cell_at 2 rfl
  clear m0
  go_wp2_with fail
  refine (KG.out _ hq).mono ?_
  clear hq x0 x1 x2 x3 x4 x5 x6 x7 x8 x9 x10 y0 y1 y2
  rintro e w1 ⟨rfl, hq⟩
  cases g
  rotate_left
  · go_wp2_with fail
    refine (KW.out _ hq).mono ?_
    clear hq
    rintro e wz ⟨rfl, hq⟩
    go_wp2_with fail
    go_ret
    exact ⟨rfl, HQb.out _ hq⟩
  by_cases hus : us.length ≤ 60
  rotate_left
  · have hus1 : decide (60 < (us.length : Int)) = true := decide_eq_true (by omega)
    have hus2 : 60 < us.length := by omega
    have hus3 : 60 < (us.length : Int) := by omega
    go_wp2_with fail
    refine (KW.out _ hq).mono ?_
    clear hq
    rintro e wz ⟨rfl, hq⟩
    go_wp2_with fail
    go_ret
    exact ⟨rfl, HQb.out _ hq⟩
  have hus1 : decide (60 < (us.length : Int)) = false := decide_eq_false (by omega)
  have hus2 : ¬ 60 < us.length := by omega
  have hus3 : ¬ 60 < (us.length : Int) := by omega
  by_cases hvs : vs.length ≤ 60
  rotate_left
  · have hvs1 : decide (60 < (vs.length : Int)) = true := decide_eq_true (by omega)
    have hvs2 : 60 < vs.length := by omega
    have hvs3 : 60 < (vs.length : Int) := by omega
    go_wp2_with fail
    refine (KW.out _ hq).mono ?_
    clear hq
    rintro e wz ⟨rfl, hq⟩
    go_wp2_with fail
    go_ret
    exact ⟨rfl, HQb.out _ hq⟩
  have hvs1 : decide (60 < (vs.length : Int)) = false := decide_eq_false (by omega)
  have hvs2 : ¬ 60 < vs.length := by omega
  have hvs3 : ¬ 60 < (vs.length : Int) := by omega
  have hgn := great13_no HG.out
  have hgj := greatJ_no hgn.1
  have hnF : l.flanks.length ≤ 900 := by omega
  have hnO : ∀ x ∈ l.exits, x.over.length ≤ 1000 := fun x hx => by have := hgj.2.2.2.2 x hx; omega
  have hnS : p.ss.length ≤ 100 := by omega
  have hol : (overL10 l p.x).length ≤ 20 := over_most hgj.2.2.2.2 p.x
  have hnN : (ofV l p).length ≤ 1550 := of_len (F := 30) (S := 50) (by omega) (by omega)
  have hWN : ∀ x ∈ ofV l p, NWf x := ofV_wf hF (by omega)
  obtain ⟨⟨px, ok⟩, hat⟩ : ∃ z, at13 us pt = z := ⟨_, rfl⟩
  obtain ⟨nn, hnn⟩ : ∃ z, ofV l p = z := ⟨_, rfl⟩
  obtain ⟨fi, hfi⟩ : ∃ z, (!clashN (ofV l p)) = z := ⟨_, rfl⟩
  obtain ⟨cl, hcl⟩ : ∃ z, clashN (us ++ vs) = z := ⟨_, rfl⟩
  obtain ⟨d, hd⟩ : ∃ z, decide (us = vs) = z := ⟨_, rfl⟩
  obtain ⟨rs, hrs⟩ : ∃ z, pointsN us = z := ⟨_, rfl⟩
  have KA1 := Lib.hid (fun W hW => atB_P (P := Q) (w := W) HQ.out ca HRA.out hu pt hat hW)
  have KA2 := Lib.hid (fun W hW => atR_P13 (P := Q) (w := W) HQ.out ca HRA.out hu pt hat hW)
  have KP1 : Hid (∀ W, Q W → Calls Tryd.prog 12 #[.slice A us.length ca] W fun e w' => ∃ A1 c1, e = .returned (.slice A1 rs.length c1) ∧ Row w' w'.heap.size A1 (nums .i64 rs) ∧ Q w') := Lib.hid fun W hW => (points13_any (w := W) ca (HRA.out W hW) (by omega)).mono (by
    rintro e w' ⟨v, rfl, hown, hB⟩
    rw [hrs] at hown
    obtain ⟨A1, c1, rfl, hr, _⟩ := owns_slice hown
    exact ⟨A1, c1, rfl, hr, HQ.out _ _ hW hB⟩)
  have KP2 : Hid (∀ W, Q W → Calls Tryd.prog 13 #[.slice A us.length ca] W fun e w' => ∃ A1 c1, e = .returned (.slice A1 rs.length c1) ∧ Row w' w'.heap.size A1 (nums .i64 rs) ∧ Below W.heap.size W w') := Lib.hid fun W hW => (pointsR_any (w := W) ca (HRA.out W hW) (by omega)).mono (by
    rintro e w' ⟨v, rfl, hown, hB⟩
    rw [hrs] at hown
    obtain ⟨A1, c1, rfl, hr, _⟩ := owns_slice hown
    exact ⟨A1, c1, rfl, hr, hB⟩)
  have hrl : rs.length ≤ 60 := by rw [← hrs]; exact Nat.le_trans (points_len us) hus
  have HNL : Hid ((nn.length : Int) ≤ 9223372036854775807) := Lib.hid (by rw [← hnn]; omega)
  have KO1 : Hid (∀ W, Q W → Calls Tryd.prog 15 #[l.val, p.val] W fun e w' => ∃ x : Option Addr × Nat, e = .returned (.slice x.1 nn.length x.2) ∧ Row w' w'.heap.size x.1 (nn.flatMap needCells) ∧ Below W.heap.size W w') := Lib.hid fun W hW =>
    (of13_any (HTW.out W hW).1 (HTW.out W hW).2.1 (HTW.out W hW).2.2 hnO hnF (by omega) hnn).mono fun e w' ⟨v, he, hown, hB⟩ => by
      obtain ⟨A, c, rfl, hr⟩ := owns_read hown
      exact ⟨(A, c), he, hr, hB⟩
  have KO2 : Hid (∀ W, Q W → Calls Tryd.prog 16 #[l.val, p.val] W fun e w' => ∃ x : Option Addr × Nat, e = .returned (.slice x.1 nn.length x.2) ∧ Row w' w'.heap.size x.1 (nn.flatMap needCells) ∧ Below W.heap.size W w') := Lib.hid fun W hW =>
    (of13R_any (HTW.out W hW).2.1 (HTW.out W hW).2.2 hnO hnF hnS hnn).mono fun e w' ⟨v, he, hown, hB⟩ => by
      obtain ⟨A, c, rfl, hr⟩ := owns_read hown
      exact ⟨(A, c), he, hr, hB⟩
  have KF1 : Hid (∀ W, Q W → Calls Tryd.prog 17 #[l.val, p.val] W fun e w' => e = .returned (.bool fi) ∧ Below W.heap.size W w') := Lib.hid fun W hW => fineB_any (HTW.out W hW).1 (HTW.out W hW).2.1 (HTW.out W hW).2.2 hnO hnF (by omega) hWN hfi
  have KF2 : Hid (∀ W, Q W → Calls Tryd.prog 18 #[l.val, p.val] W fun e w' => e = .returned (.bool fi) ∧ Below W.heap.size W w') := Lib.hid fun W hW => fineR_any (HTW.out W hW).2.1 (HTW.out W hW).2.2 hnO hnF hnS (by omega) hfi
  have KC1 : Hid (∀ W, Q W → Calls Tryd.prog 19 #[.slice A us.length ca, .slice Bv vs.length cb] W fun e w' => e = .returned (.bool cl) ∧ Below W.heap.size W w') := Lib.hid fun W hW => clashB_any ca cb (HRA.out W hW) (HRB.out W hW) hU hV (by omega) hcl
  have KC2 : Hid (∀ W, Q W → Calls Tryd.prog 20 #[.slice A us.length ca, .slice Bv vs.length cb] W fun e w' => e = .returned (.bool cl) ∧ Below W.heap.size W w') := Lib.hid fun W hW => clashR_any ca cb (HRA.out W hW) (HRB.out W hW) (by omega) (by omega) hcl
  have KS1 : Hid (∀ W, Q W → Calls Tryd.prog 21 #[.slice A us.length ca, .slice Bv vs.length cb] W fun e w' => e = .returned (.bool d) ∧ Below W.heap.size W w') := Lib.hid fun W hW => sameB_P (P := fun W' => Below W.heap.size W W') (Closed.below W) ca cb (fun W' h => (HRA.out W hW).on h) (fun W' h => (HRB.out W hW).on h) hu hd (Below.refl _ _)
  have KS2 : Hid (∀ W, Q W → Calls Tryd.prog 14 #[.slice A us.length ca, .slice Bv vs.length cb] W fun e w' => e = .returned (.bool d) ∧ Below W.heap.size W w') := Lib.hid fun W hW => same13R_B ca cb (HRA.out W hW) (HRB.out W hW) hu hd
  have KWB : Hid (∀ W, Q W → Calls Tryd.prog 9 #[] W fun e w' => e = .returned (.bool true) ∧ Below W.heap.size W w') := Lib.hid fun W hW => wakes13_P (P := fun W' => Below W.heap.size W W') (Closed.below W) (fun W' h => Shapes.closed _ _ (HTW.out W hW).1 h) (Below.refl _ _)
  clear hat hnn hfi hcl hd hrs hgn hgj hnF hnO hnS hol hnN hWN hF hU hV
  have m0 := HQl.out _ hq
  have x0 := m0.cell_at 0 rfl
  have x1 := m0.cell_at 1 rfl
  have x2 := m0.cell_at 2 rfl
  have x3 := m0.cell_at 3 rfl
  have x4 := m0.cell_at 4 rfl
  have x5 := m0.cell_at 5 rfl
  have x6 := m0.cell_at 6 rfl
  have x7 := m0.cell_at 7 rfl
  have x8 := m0.cell_at 8 rfl
  have x9 := m0.cell_at 9 rfl
  have x10 := m0.cell_at 10 rfl
  clear m0
  have m0 := HQv.out _ hq
  have y0 := m0.cell_at 0 rfl
  have y1 := m0.cell_at 1 rfl
  have y2 := m0.cell_at 2 rfl
  clear m0
  go_wp2_with fail
  refine (KA1.out _ hq).mono ?_
  clear hq x0 x1 x2 x3 x4 x5 x6 x7 x8 x9 x10 y0 y1 y2
  rintro e w2 ⟨rfl, hq⟩
  have m0 := HQl.out _ hq
  have x0 := m0.cell_at 0 rfl
  have x1 := m0.cell_at 1 rfl
  have x2 := m0.cell_at 2 rfl
  have x3 := m0.cell_at 3 rfl
  have x4 := m0.cell_at 4 rfl
  have x5 := m0.cell_at 5 rfl
  have x6 := m0.cell_at 6 rfl
  have x7 := m0.cell_at 7 rfl
  have x8 := m0.cell_at 8 rfl
  have x9 := m0.cell_at 9 rfl
  have x10 := m0.cell_at 10 rfl
  clear m0
  have m0 := HQv.out _ hq
  have y0 := m0.cell_at 0 rfl
  have y1 := m0.cell_at 1 rfl
  have y2 := m0.cell_at 2 rfl
  clear m0
  go_wp2_with fail
  refine (KA2.out _ hq).mono ?_
  clear hq x0 x1 x2 x3 x4 x5 x6 x7 x8 x9 x10 y0 y1 y2
  rintro e w3 ⟨rfl, hq⟩
  have m0 := HQl.out _ hq
  have x0 := m0.cell_at 0 rfl
  have x1 := m0.cell_at 1 rfl
  have x2 := m0.cell_at 2 rfl
  have x3 := m0.cell_at 3 rfl
  have x4 := m0.cell_at 4 rfl
  have x5 := m0.cell_at 5 rfl
  have x6 := m0.cell_at 6 rfl
  have x7 := m0.cell_at 7 rfl
  have x8 := m0.cell_at 8 rfl
  have x9 := m0.cell_at 9 rfl
  have x10 := m0.cell_at 10 rfl
  clear m0
  have m0 := HQv.out _ hq
  have y0 := m0.cell_at 0 rfl
  have y1 := m0.cell_at 1 rfl
  have y2 := m0.cell_at 2 rfl
  clear m0
  go_wp2_with fail
  refine (KP1.out _ hq).mono ?_
  clear hq x0 x1 x2 x3 x4 x5 x6 x7 x8 x9 x10 y0 y1 y2
  rintro e w4 ⟨A1, k1, rfl, hr1, hq⟩
  have HR1 := Lib.hid hr1
  clear hr1
  have m0 := HQl.out _ hq
  have x0 := m0.cell_at 0 rfl
  have x1 := m0.cell_at 1 rfl
  have x2 := m0.cell_at 2 rfl
  have x3 := m0.cell_at 3 rfl
  have x4 := m0.cell_at 4 rfl
  have x5 := m0.cell_at 5 rfl
  have x6 := m0.cell_at 6 rfl
  have x7 := m0.cell_at 7 rfl
  have x8 := m0.cell_at 8 rfl
  have x9 := m0.cell_at 9 rfl
  have x10 := m0.cell_at 10 rfl
  clear m0
  have m0 := HQv.out _ hq
  have y0 := m0.cell_at 0 rfl
  have y1 := m0.cell_at 1 rfl
  have y2 := m0.cell_at 2 rfl
  clear m0
  go_wp2_with fail
  refine (KP2.out _ hq).mono ?_
  clear x0 x1 x2 x3 x4 x5 x6 x7 x8 x9 x10 y0 y1 y2
  rintro e w5 ⟨A2, k2, rfl, hr2, hB5⟩
  obtain ⟨Q2, HQ2, HQ2q, HQr1, HQr2, hq2⟩ : ∃ Q2 : World → Prop, Hid (Closed Q2) ∧ Hid (∀ W, Q2 W → Q W) ∧ Hid (∀ W, Q2 W → Row W W.heap.size A1 (nums .i64 rs)) ∧ Hid (∀ W, Q2 W → Row W W.heap.size A2 (nums .i64 rs)) ∧ Q2 w5 :=
    ⟨fun W => Q W ∧ (Row W W.heap.size A1 (nums .i64 rs) ∧ Row W W.heap.size A2 (nums .i64 rs)), Lib.hid (HQ.out.and (fun _ _ h hB => ⟨h.1.on hB, h.2.on hB⟩)), Lib.hid fun _ h => h.1, Lib.hid fun _ h => h.2.1, Lib.hid fun _ h => h.2.2, HQ.out _ _ hq hB5, HR1.out.on hB5, hr2⟩
  clear HR1 hr2 hB5 hq KA1 KA2 KP1 KP2 KG KW
  go_wp2_with fail
  go_loopw [17] (fun i wr => ∃ j : Nat, j ≤ rs.length ∧ i = .int .i64 j ∧ Q2 wr) (fun i _ => rs.length - (intOf i).toNat)
  case atStart => exact ⟨0, by omega, rfl, hq2⟩
  case round =>
    clear hq2
    obtain ⟨j, hj, rfl, hq⟩ := hrel
    by_cases hlt : j < rs.length
    · have hlt' : (j : Int) < (rs.length : Int) := by omega
      obtain ⟨x, hx⟩ : ∃ x, rs[j]? = some x := ⟨_, List.getElem?_eq_getElem hlt⟩
      have HX := Lib.hid hx
      obtain ⟨b1, o1, HA1, HD1⟩ := row_num13 HQr1.out hq hlt
      obtain ⟨b2, o2, HA2, HD2⟩ := row_num13 HQr2.out hq hlt
      obtain rfl := HA1.out
      obtain rfl := HA2.out
      clear hx HA1 HA2
      go_wp2_with fail
      refine region_mix Q2 [(0, false), (1, false), (2, false), (3, false), (4, false), (5, false), (6, false), (7, false), (8, false)] (by kernel_rfl) (by kernel_rfl) Q2 ⟨HQ2.out, fun _ h => h⟩ (HQ2.out.drew hq) ?_
      simp only [pickOps, List.getElem?_cons_zero, List.getElem?_cons_succ]
      repeat (first | (refine mix_skip (by rfl) ?_; simp only [Act.put, List.setIfInBounds_toArray, List.set_cons_zero, List.set_cons_succ]) | (refine mix_read _ (by rfl) (fun W hW => by (have d0 := HD1.out W hW j _ HX.out; have e0 := HD2.out W hW j _ HX.out; clear hW; go_simp; first | done | with_reducible rfl)) ?_; simp only [Act.put, List.setIfInBounds_toArray, List.set_cons_zero, List.set_cons_succ]))
      refine mix_nil (fun W hW => ?_)
      have hq := hW
      clear hW
      go_wp2_with fail
      go_roundw
      case rel => exact ⟨j + 1, hlt, by go_num, hq⟩
      case measure => simp [intOf]; omega
    · obtain rfl : j = rs.length := by omega
      have hq := HQ2q.out _ hq
      clear HQr1 HQr2 HQ2 HQ2q
      go_upto_region 13 with (fail)
      have HBS : Hid (∀ W, Below wr.heap.size wr W → Q W) := Lib.hid (fun W hB => HQ.out _ _ hq hB)
      clear hq
      refine region_mix (Below wr.heap.size wr) [(0, false), (1, false), (3, false), (4, false), (2, true), (5, true), (6, true), (7, false), (8, false), (9, false), (10, false), (11, false), (12, false), (13, false), (14, false), (15, false), (16, false), (17, false), (18, false), (19, false), (20, false), (21, false), (22, false), (23, false), (24, false), (25, false), (26, false), (27, false), (28, false), (29, false), (30, false), (31, false), (32, false), (33, false), (34, false), (35, false), (36, false), (37, false), (38, false), (39, false), (40, false), (41, false), (42, false), (43, false), (44, false), (45, false), (46, false), (47, false)] (by kernel_rfl) (by kernel_rfl) (Below wr.heap.size wr) ⟨Closed.below wr, fun _ h => h⟩ (Below.refl _ _).drew ?_
      simp only [pickOps, List.getElem?_cons_zero, List.getElem?_cons_succ]
      repeat (first | (refine mix_skip (by rfl) ?_; simp only [Act.put, List.setIfInBounds_toArray, List.set_cons_zero, List.set_cons_succ]) | (refine mix_read _ (by rfl) (fun W hW => by (have hW := HBS.out W hW; have m0 := HQl.out W hW; have x0 := m0.cell_at 0 rfl; have x1 := m0.cell_at 1 rfl; have x2 := m0.cell_at 2 rfl; have x3 := m0.cell_at 3 rfl; have x4 := m0.cell_at 4 rfl; have x5 := m0.cell_at 5 rfl; have x6 := m0.cell_at 6 rfl; have x7 := m0.cell_at 7 rfl; have x8 := m0.cell_at 8 rfl; have x9 := m0.cell_at 9 rfl; have x10 := m0.cell_at 10 rfl; clear m0; have m0 := HQv.out W hW; have y0 := m0.cell_at 0 rfl; have y1 := m0.cell_at 1 rfl; have y2 := m0.cell_at 2 rfl; clear m0; go_simp; first | done | with_reducible rfl)) ?_; simp only [Act.put, List.setIfInBounds_toArray, List.set_cons_zero, List.set_cons_succ]) | (refine mix_call _ _ _ (by rfl) (fun W hW => by (have hW := HBS.out W hW; have m0 := HQl.out W hW; have x0 := m0.cell_at 0 rfl; have x1 := m0.cell_at 1 rfl; have x2 := m0.cell_at 2 rfl; have x3 := m0.cell_at 3 rfl; have x4 := m0.cell_at 4 rfl; have x5 := m0.cell_at 5 rfl; have x6 := m0.cell_at 6 rfl; have x7 := m0.cell_at 7 rfl; have x8 := m0.cell_at 8 rfl; have x9 := m0.cell_at 9 rfl; have x10 := m0.cell_at 10 rfl; clear m0; have m0 := HQv.out W hW; have y0 := m0.cell_at 0 rfl; have y1 := m0.cell_at 1 rfl; have y2 := m0.cell_at 2 rfl; clear m0; go_simp; first | done | rfl)) (fun W hW => KF1.out W (HBS.out W hW)) ?_; simp only [Act.put, List.setIfInBounds_toArray, List.set_cons_zero, List.set_cons_succ]) | (refine mix_call _ _ _ (by rfl) (fun W hW => by (have hW := HBS.out W hW; have m0 := HQl.out W hW; have x0 := m0.cell_at 0 rfl; have x1 := m0.cell_at 1 rfl; have x2 := m0.cell_at 2 rfl; have x3 := m0.cell_at 3 rfl; have x4 := m0.cell_at 4 rfl; have x5 := m0.cell_at 5 rfl; have x6 := m0.cell_at 6 rfl; have x7 := m0.cell_at 7 rfl; have x8 := m0.cell_at 8 rfl; have x9 := m0.cell_at 9 rfl; have x10 := m0.cell_at 10 rfl; clear m0; have m0 := HQv.out W hW; have y0 := m0.cell_at 0 rfl; have y1 := m0.cell_at 1 rfl; have y2 := m0.cell_at 2 rfl; clear m0; go_simp; first | done | rfl)) (fun W hW => KF2.out W (HBS.out W hW)) ?_; simp only [Act.put, List.setIfInBounds_toArray, List.set_cons_zero, List.set_cons_succ]) | (refine mix_call _ _ _ (by rfl) (fun W hW => by (have hW := HBS.out W hW; have m0 := HQl.out W hW; have x0 := m0.cell_at 0 rfl; have x1 := m0.cell_at 1 rfl; have x2 := m0.cell_at 2 rfl; have x3 := m0.cell_at 3 rfl; have x4 := m0.cell_at 4 rfl; have x5 := m0.cell_at 5 rfl; have x6 := m0.cell_at 6 rfl; have x7 := m0.cell_at 7 rfl; have x8 := m0.cell_at 8 rfl; have x9 := m0.cell_at 9 rfl; have x10 := m0.cell_at 10 rfl; clear m0; have m0 := HQv.out W hW; have y0 := m0.cell_at 0 rfl; have y1 := m0.cell_at 1 rfl; have y2 := m0.cell_at 2 rfl; clear m0; go_simp; first | done | rfl)) (fun W hW => KC1.out W (HBS.out W hW)) ?_; simp only [Act.put, List.setIfInBounds_toArray, List.set_cons_zero, List.set_cons_succ]) | (refine mix_call _ _ _ (by rfl) (fun W hW => by (have hW := HBS.out W hW; have m0 := HQl.out W hW; have x0 := m0.cell_at 0 rfl; have x1 := m0.cell_at 1 rfl; have x2 := m0.cell_at 2 rfl; have x3 := m0.cell_at 3 rfl; have x4 := m0.cell_at 4 rfl; have x5 := m0.cell_at 5 rfl; have x6 := m0.cell_at 6 rfl; have x7 := m0.cell_at 7 rfl; have x8 := m0.cell_at 8 rfl; have x9 := m0.cell_at 9 rfl; have x10 := m0.cell_at 10 rfl; clear m0; have m0 := HQv.out W hW; have y0 := m0.cell_at 0 rfl; have y1 := m0.cell_at 1 rfl; have y2 := m0.cell_at 2 rfl; clear m0; go_simp; first | done | rfl)) (fun W hW => KC2.out W (HBS.out W hW)) ?_; simp only [Act.put, List.setIfInBounds_toArray, List.set_cons_zero, List.set_cons_succ]) | (refine mix_call _ _ _ (by rfl) (fun W hW => by (have hW := HBS.out W hW; have m0 := HQl.out W hW; have x0 := m0.cell_at 0 rfl; have x1 := m0.cell_at 1 rfl; have x2 := m0.cell_at 2 rfl; have x3 := m0.cell_at 3 rfl; have x4 := m0.cell_at 4 rfl; have x5 := m0.cell_at 5 rfl; have x6 := m0.cell_at 6 rfl; have x7 := m0.cell_at 7 rfl; have x8 := m0.cell_at 8 rfl; have x9 := m0.cell_at 9 rfl; have x10 := m0.cell_at 10 rfl; clear m0; have m0 := HQv.out W hW; have y0 := m0.cell_at 0 rfl; have y1 := m0.cell_at 1 rfl; have y2 := m0.cell_at 2 rfl; clear m0; go_simp; first | done | rfl)) (fun W hW => KS1.out W (HBS.out W hW)) ?_; simp only [Act.put, List.setIfInBounds_toArray, List.set_cons_zero, List.set_cons_succ]) | (refine mix_call _ _ _ (by rfl) (fun W hW => by (have hW := HBS.out W hW; have m0 := HQl.out W hW; have x0 := m0.cell_at 0 rfl; have x1 := m0.cell_at 1 rfl; have x2 := m0.cell_at 2 rfl; have x3 := m0.cell_at 3 rfl; have x4 := m0.cell_at 4 rfl; have x5 := m0.cell_at 5 rfl; have x6 := m0.cell_at 6 rfl; have x7 := m0.cell_at 7 rfl; have x8 := m0.cell_at 8 rfl; have x9 := m0.cell_at 9 rfl; have x10 := m0.cell_at 10 rfl; clear m0; have m0 := HQv.out W hW; have y0 := m0.cell_at 0 rfl; have y1 := m0.cell_at 1 rfl; have y2 := m0.cell_at 2 rfl; clear m0; go_simp; first | done | rfl)) (fun W hW => KS2.out W (HBS.out W hW)) ?_; simp only [Act.put, List.setIfInBounds_toArray, List.set_cons_zero, List.set_cons_succ]) | (refine mix_call _ _ _ (by rfl) (fun W hW => by (have hW := HBS.out W hW; have m0 := HQl.out W hW; have x0 := m0.cell_at 0 rfl; have x1 := m0.cell_at 1 rfl; have x2 := m0.cell_at 2 rfl; have x3 := m0.cell_at 3 rfl; have x4 := m0.cell_at 4 rfl; have x5 := m0.cell_at 5 rfl; have x6 := m0.cell_at 6 rfl; have x7 := m0.cell_at 7 rfl; have x8 := m0.cell_at 8 rfl; have x9 := m0.cell_at 9 rfl; have x10 := m0.cell_at 10 rfl; clear m0; have m0 := HQv.out W hW; have y0 := m0.cell_at 0 rfl; have y1 := m0.cell_at 1 rfl; have y2 := m0.cell_at 2 rfl; clear m0; go_simp; first | done | rfl)) (fun W hW => KWB.out W (HBS.out W hW)) ?_; simp only [Act.put, List.setIfInBounds_toArray, List.set_cons_zero, List.set_cons_succ]))
      refine mix_meet (fun x : Option Addr × Nat => .slice x.1 nn.length x.2) (fun x W => Row W W.heap.size x.1 (nn.flatMap needCells)) ⟨Closed.below wr, fun _ h => h⟩ (fun x W W' h hB => h.on hB) _ _ (by rfl) (fun W hW => by (have hW := HBS.out W hW; have m0 := HQl.out W hW; have x0 := m0.cell_at 0 rfl; have x1 := m0.cell_at 1 rfl; have x2 := m0.cell_at 2 rfl; have x3 := m0.cell_at 3 rfl; have x4 := m0.cell_at 4 rfl; have x5 := m0.cell_at 5 rfl; have x6 := m0.cell_at 6 rfl; have x7 := m0.cell_at 7 rfl; have x8 := m0.cell_at 8 rfl; have x9 := m0.cell_at 9 rfl; have x10 := m0.cell_at 10 rfl; clear m0; have m0 := HQv.out W hW; have y0 := m0.cell_at 0 rfl; have y1 := m0.cell_at 1 rfl; have y2 := m0.cell_at 2 rfl; clear m0; go_simp; first | done | rfl)) (fun W hW => KO1.out W (HBS.out W hW)) (fun xa => ?_)
      simp only [Act.put, List.setIfInBounds_toArray, List.set_cons_zero, List.set_cons_succ]
      refine mix_meet (fun x : Option Addr × Nat => .slice x.1 nn.length x.2) (fun x W => Row W W.heap.size x.1 (nn.flatMap needCells)) ⟨Closed.and (Closed.below wr) (fun _ _ h hB => h.on hB), fun _ h => h.1⟩ (fun x W W' h hB => h.on hB) _ _ (by rfl) (fun W hW => by (have hW := HBS.out W hW.1; have m0 := HQl.out W hW; have x0 := m0.cell_at 0 rfl; have x1 := m0.cell_at 1 rfl; have x2 := m0.cell_at 2 rfl; have x3 := m0.cell_at 3 rfl; have x4 := m0.cell_at 4 rfl; have x5 := m0.cell_at 5 rfl; have x6 := m0.cell_at 6 rfl; have x7 := m0.cell_at 7 rfl; have x8 := m0.cell_at 8 rfl; have x9 := m0.cell_at 9 rfl; have x10 := m0.cell_at 10 rfl; clear m0; have m0 := HQv.out W hW; have y0 := m0.cell_at 0 rfl; have y1 := m0.cell_at 1 rfl; have y2 := m0.cell_at 2 rfl; clear m0; go_simp; first | done | rfl)) (fun W hW => KO2.out W (HBS.out W hW.1)) (fun xb => ?_)
      simp only [Act.put, List.setIfInBounds_toArray, List.set_cons_zero, List.set_cons_succ]
      refine mix_ask _ _ (.bool true) ⟨Closed.and (Closed.and (Closed.below wr) (fun _ _ h hB => h.on hB)) (fun _ _ h hB => h.on hB), fun _ h => h.1.1⟩ (by rfl) (fun W hW => by (have hW := HBS.out W hW.1.1; have m0 := HQl.out W hW; have x0 := m0.cell_at 0 rfl; have x1 := m0.cell_at 1 rfl; have x2 := m0.cell_at 2 rfl; have x3 := m0.cell_at 3 rfl; have x4 := m0.cell_at 4 rfl; have x5 := m0.cell_at 5 rfl; have x6 := m0.cell_at 6 rfl; have x7 := m0.cell_at 7 rfl; have x8 := m0.cell_at 8 rfl; have x9 := m0.cell_at 9 rfl; have x10 := m0.cell_at 10 rfl; clear m0; have m0 := HQv.out W hW; have y0 := m0.cell_at 0 rfl; have y1 := m0.cell_at 1 rfl; have y2 := m0.cell_at 2 rfl; clear m0; go_simp; first | done | rfl)) (fun W hW => same13R_B xa.2 xb.2 hW.1.2 hW.2 HNL.out (decide_eq_true rfl)) ?_
      simp only [Act.put, List.setIfInBounds_toArray, List.set_cons_zero, List.set_cons_succ]
      repeat (first | (refine mix_skip (by rfl) ?_; simp only [Act.put, List.setIfInBounds_toArray, List.set_cons_zero, List.set_cons_succ]) | (refine mix_read _ (by rfl) (fun W hW => by (have hW := HBS.out W hW; have m0 := HQl.out W hW; have x0 := m0.cell_at 0 rfl; have x1 := m0.cell_at 1 rfl; have x2 := m0.cell_at 2 rfl; have x3 := m0.cell_at 3 rfl; have x4 := m0.cell_at 4 rfl; have x5 := m0.cell_at 5 rfl; have x6 := m0.cell_at 6 rfl; have x7 := m0.cell_at 7 rfl; have x8 := m0.cell_at 8 rfl; have x9 := m0.cell_at 9 rfl; have x10 := m0.cell_at 10 rfl; clear m0; have m0 := HQv.out W hW; have y0 := m0.cell_at 0 rfl; have y1 := m0.cell_at 1 rfl; have y2 := m0.cell_at 2 rfl; clear m0; go_simp; first | done | with_reducible rfl)) ?_; simp only [Act.put, List.setIfInBounds_toArray, List.set_cons_zero, List.set_cons_succ]) | (refine mix_call _ _ _ (by rfl) (fun W hW => by (have hW := HBS.out W hW; have m0 := HQl.out W hW; have x0 := m0.cell_at 0 rfl; have x1 := m0.cell_at 1 rfl; have x2 := m0.cell_at 2 rfl; have x3 := m0.cell_at 3 rfl; have x4 := m0.cell_at 4 rfl; have x5 := m0.cell_at 5 rfl; have x6 := m0.cell_at 6 rfl; have x7 := m0.cell_at 7 rfl; have x8 := m0.cell_at 8 rfl; have x9 := m0.cell_at 9 rfl; have x10 := m0.cell_at 10 rfl; clear m0; have m0 := HQv.out W hW; have y0 := m0.cell_at 0 rfl; have y1 := m0.cell_at 1 rfl; have y2 := m0.cell_at 2 rfl; clear m0; go_simp; first | done | rfl)) (fun W hW => KF1.out W (HBS.out W hW)) ?_; simp only [Act.put, List.setIfInBounds_toArray, List.set_cons_zero, List.set_cons_succ]) | (refine mix_call _ _ _ (by rfl) (fun W hW => by (have hW := HBS.out W hW; have m0 := HQl.out W hW; have x0 := m0.cell_at 0 rfl; have x1 := m0.cell_at 1 rfl; have x2 := m0.cell_at 2 rfl; have x3 := m0.cell_at 3 rfl; have x4 := m0.cell_at 4 rfl; have x5 := m0.cell_at 5 rfl; have x6 := m0.cell_at 6 rfl; have x7 := m0.cell_at 7 rfl; have x8 := m0.cell_at 8 rfl; have x9 := m0.cell_at 9 rfl; have x10 := m0.cell_at 10 rfl; clear m0; have m0 := HQv.out W hW; have y0 := m0.cell_at 0 rfl; have y1 := m0.cell_at 1 rfl; have y2 := m0.cell_at 2 rfl; clear m0; go_simp; first | done | rfl)) (fun W hW => KF2.out W (HBS.out W hW)) ?_; simp only [Act.put, List.setIfInBounds_toArray, List.set_cons_zero, List.set_cons_succ]) | (refine mix_call _ _ _ (by rfl) (fun W hW => by (have hW := HBS.out W hW; have m0 := HQl.out W hW; have x0 := m0.cell_at 0 rfl; have x1 := m0.cell_at 1 rfl; have x2 := m0.cell_at 2 rfl; have x3 := m0.cell_at 3 rfl; have x4 := m0.cell_at 4 rfl; have x5 := m0.cell_at 5 rfl; have x6 := m0.cell_at 6 rfl; have x7 := m0.cell_at 7 rfl; have x8 := m0.cell_at 8 rfl; have x9 := m0.cell_at 9 rfl; have x10 := m0.cell_at 10 rfl; clear m0; have m0 := HQv.out W hW; have y0 := m0.cell_at 0 rfl; have y1 := m0.cell_at 1 rfl; have y2 := m0.cell_at 2 rfl; clear m0; go_simp; first | done | rfl)) (fun W hW => KC1.out W (HBS.out W hW)) ?_; simp only [Act.put, List.setIfInBounds_toArray, List.set_cons_zero, List.set_cons_succ]) | (refine mix_call _ _ _ (by rfl) (fun W hW => by (have hW := HBS.out W hW; have m0 := HQl.out W hW; have x0 := m0.cell_at 0 rfl; have x1 := m0.cell_at 1 rfl; have x2 := m0.cell_at 2 rfl; have x3 := m0.cell_at 3 rfl; have x4 := m0.cell_at 4 rfl; have x5 := m0.cell_at 5 rfl; have x6 := m0.cell_at 6 rfl; have x7 := m0.cell_at 7 rfl; have x8 := m0.cell_at 8 rfl; have x9 := m0.cell_at 9 rfl; have x10 := m0.cell_at 10 rfl; clear m0; have m0 := HQv.out W hW; have y0 := m0.cell_at 0 rfl; have y1 := m0.cell_at 1 rfl; have y2 := m0.cell_at 2 rfl; clear m0; go_simp; first | done | rfl)) (fun W hW => KC2.out W (HBS.out W hW)) ?_; simp only [Act.put, List.setIfInBounds_toArray, List.set_cons_zero, List.set_cons_succ]) | (refine mix_call _ _ _ (by rfl) (fun W hW => by (have hW := HBS.out W hW; have m0 := HQl.out W hW; have x0 := m0.cell_at 0 rfl; have x1 := m0.cell_at 1 rfl; have x2 := m0.cell_at 2 rfl; have x3 := m0.cell_at 3 rfl; have x4 := m0.cell_at 4 rfl; have x5 := m0.cell_at 5 rfl; have x6 := m0.cell_at 6 rfl; have x7 := m0.cell_at 7 rfl; have x8 := m0.cell_at 8 rfl; have x9 := m0.cell_at 9 rfl; have x10 := m0.cell_at 10 rfl; clear m0; have m0 := HQv.out W hW; have y0 := m0.cell_at 0 rfl; have y1 := m0.cell_at 1 rfl; have y2 := m0.cell_at 2 rfl; clear m0; go_simp; first | done | rfl)) (fun W hW => KS1.out W (HBS.out W hW)) ?_; simp only [Act.put, List.setIfInBounds_toArray, List.set_cons_zero, List.set_cons_succ]) | (refine mix_call _ _ _ (by rfl) (fun W hW => by (have hW := HBS.out W hW; have m0 := HQl.out W hW; have x0 := m0.cell_at 0 rfl; have x1 := m0.cell_at 1 rfl; have x2 := m0.cell_at 2 rfl; have x3 := m0.cell_at 3 rfl; have x4 := m0.cell_at 4 rfl; have x5 := m0.cell_at 5 rfl; have x6 := m0.cell_at 6 rfl; have x7 := m0.cell_at 7 rfl; have x8 := m0.cell_at 8 rfl; have x9 := m0.cell_at 9 rfl; have x10 := m0.cell_at 10 rfl; clear m0; have m0 := HQv.out W hW; have y0 := m0.cell_at 0 rfl; have y1 := m0.cell_at 1 rfl; have y2 := m0.cell_at 2 rfl; clear m0; go_simp; first | done | rfl)) (fun W hW => KS2.out W (HBS.out W hW)) ?_; simp only [Act.put, List.setIfInBounds_toArray, List.set_cons_zero, List.set_cons_succ]) | (refine mix_call _ _ _ (by rfl) (fun W hW => by (have hW := HBS.out W hW; have m0 := HQl.out W hW; have x0 := m0.cell_at 0 rfl; have x1 := m0.cell_at 1 rfl; have x2 := m0.cell_at 2 rfl; have x3 := m0.cell_at 3 rfl; have x4 := m0.cell_at 4 rfl; have x5 := m0.cell_at 5 rfl; have x6 := m0.cell_at 6 rfl; have x7 := m0.cell_at 7 rfl; have x8 := m0.cell_at 8 rfl; have x9 := m0.cell_at 9 rfl; have x10 := m0.cell_at 10 rfl; clear m0; have m0 := HQv.out W hW; have y0 := m0.cell_at 0 rfl; have y1 := m0.cell_at 1 rfl; have y2 := m0.cell_at 2 rfl; clear m0; go_simp; first | done | rfl)) (fun W hW => KWB.out W (HBS.out W hW)) ?_; simp only [Act.put, List.setIfInBounds_toArray, List.set_cons_zero, List.set_cons_succ]))
      refine mix_nil (fun W hW => ?_)
      have HF := Lib.hid (HQb.out _ (HBS.out W hW.1.1))
      clear hW HBS
      go_wp2_with fail
      go_ret
      exact ⟨rfl, HF.out⟩
end Go.Proofs.YtbdbgoploednbaaDoor
