/- The walk of BeyondTells: what goes with a step, as the document's own answer has it. -/
import Derived.Test.YthjnhigcheakaaaDoorQBeK
import Derived.Test.YthjnhigcheakaaaDoorQBeH
namespace Go.Proofs.YthjnhigcheakaaaDoor
open Go.RowKit Go.Shelf
set_option linter.unusedVariables false
set_option linter.unusedSimpArgs false

set_option maxRecDepth 100000 in
set_option maxHeartbeats 8000000 in
theorem beyondTells_walk (l : Lay) (s i o k x f1 f2 : Int) (ss : List (Int × Int × Int)) (A : Option Addr) (c : Nat) (w : World) (hT : Shapes w) (hL : Lies l w) (hA : Row w w.heap.size A (ss.flatMap stpCells)) (hn : (ss.length : Int) ≤ 9223372036854775807) :
    Calls Tryd.prog 3 #[l.val, stpV s i o, .int .i64 k, .int .i64 x, prtV f1 f2, .slice A ss.length c] w fun e w' => e = .returned (.bool true) ∧ Below w.heap.size w w' := by
  obtain ⟨Q, HQ, HQb0, HQl, HQv, HQr, HQb, hq⟩ := keep_box3 (Closed.below w) (Below.refl _ w) 29 31 33 l.cells (stpCells (s, i, o)) (prtCells (f1, f2))
  have HTW : Hid (∀ W, Q W → Shapes W ∧ Lies l W) := Lib.hid fun W hW => ⟨Shapes.closed _ _ hT (HQb.out W hW), Lies.closed l _ _ hL (HQb.out W hW)⟩
  have HRA : Hid (∀ W, Q W → Row W W.heap.size A (ss.flatMap stpCells)) := Lib.hid fun W hW => hA.on (HQb.out W hW)
  have KW := Lib.hid (fun W hW => wakes10_P (P := Q) (w := W) HQ.out (fun W hW => (HTW.out W hW).1) hW)
  obtain ⟨g, hg⟩ : ∃ g, greatV l = g := ⟨_, rfl⟩
  have KG := Lib.hid (fun W hW => great_P (P := Q) (w := W) HQ.out (fun W hW => (HTW.out W hW).2) hg hW)
  have HG := Lib.hid hg
  clear hT hL hg hA HQb0
  go_enter Tryd.func3, Tryd.ntmps3
  have m0 := HQl.out _ hq
  have x0 := m0.cell_at 0 rfl
  have x1 := m0.cell_at 1 rfl
  have x2 := m0.cell_at 2 rfl
  have x3 := m0.cell_at 3 rfl
  have x4 := m0.cell_at 4 rfl
  have x5 := m0.cell_at 5 rfl
  have x6 := m0.cell_at 6 rfl
  have x7 := m0.cell_at 7 rfl
  have x8 := m0.cell_at 8 rfl
  have x9 := m0.cell_at 9 rfl
  have x10 := m0.cell_at 10 rfl
  clear m0
  go_wp2_with fail
  refine (KG.out _ hq).mono ?_
  clear hq x0 x1 x2 x3 x4 x5 x6 x7 x8 x9 x10
  rintro e w1 ⟨rfl, hq⟩
  cases g
  rotate_left
  · go_wp2_with fail
    refine (KW.out _ hq).mono ?_
    clear hq
    rintro e w9 ⟨rfl, hq⟩
    go_wp2_with fail
    go_ret
    exact ⟨rfl, HQb.out _ hq⟩
  by_cases hl : ss.length ≤ 20
  rotate_left
  · have hl' : ¬ (ss.length : Int) ≤ 20 := by omega
    have hl2 : (20 : Int) < (ss.length : Int) := by omega
    go_wp2_with fail
    refine (KW.out _ hq).mono ?_
    clear hq
    rintro e w9 ⟨rfl, hq⟩
    go_wp2_with fail
    go_ret
    exact ⟨rfl, HQb.out _ hq⟩
  have hl' : (ss.length : Int) ≤ 20 := by omega
  have hnF : l.flanks.length ≤ 900 := by have := (great_no HG.out).2.2.2.1; omega
  have hnO : ∀ y ∈ l.exits, y.over.length ≤ 1000 := fun y hy => by have := (great_no HG.out).2.2.2.2 y hy; omega
  obtain ⟨ns, hns⟩ : ∃ ns, wantsV l s i o k = ns := ⟨_, rfl⟩
  obtain ⟨os, hos⟩ : ∃ os, overL10 l x = os := ⟨_, rfl⟩
  obtain ⟨⟨p, pos, ok⟩, hpv⟩ : ∃ r, pointV l s i o = r := ⟨_, rfl⟩
  obtain ⟨cl, hcl⟩ : ∃ r, classV l s i o = r := ⟨_, rfl⟩
  obtain ⟨⟨n1, n2⟩, hnx⟩ : ∃ r, nextV l s i o = r := ⟨_, rfl⟩
  obtain ⟨⟨q1, q2⟩, hrv⟩ : ∃ r, rearV l x = r := ⟨_, rfl⟩
  obtain ⟨m, hm⟩ : ∃ m, maskN ss = m := ⟨_, rfl⟩
  obtain ⟨gr, hgr⟩ : ∃ r, goesL l (f1, f2) ss = r := ⟨_, rfl⟩
  have HNL : Hid ((ns.length : Int) ≤ 9223372036854775807) := Lib.hid (by rw [← hns, ← upTo_all]; have := upTo_le l s i o k l.flanks.length; omega)
  have HOL : Hid ((os.length : Int) ≤ 9223372036854775807) := Lib.hid (by
    rw [← hos]
    rcases at_cases_n l.exits x with h1 | ⟨h0, h1⟩ | ⟨j, y, rfl, hy, hlt⟩
    · rw [over_neg h1]; simp
    · rw [over_far h0 h1]; simp
    · rw [over_at hy]; have := hnO y (List.mem_of_getElem? hy); omega)
  have KP1 : Hid (∀ W, Q W → Calls Tryd.prog 10 #[l.val, stpV s i o] W fun e w' => e = .returned (.tuple #[.int .i64 p, .int .i64 pos, .bool ok]) ∧ Q w') := Lib.hid fun W hW => keepR HQ.out (pointB_any (HTW.out W hW).1 (HTW.out W hW).2 s i o hpv) hW
  have KP2 : Hid (∀ W, Q W → Calls Tryd.prog 11 #[l.val, stpV s i o] W fun e w' => e = .returned (.tuple #[.int .i64 p, .int .i64 pos, .bool ok]) ∧ Q w') := Lib.hid fun W hW => keepR HQ.out (pointR_any (HTW.out W hW).2 s i o hpv) hW
  have KW1 : Hid (∀ W, Q W → Calls Tryd.prog 13 #[l.val, stpV s i o, .int .i64 k] W fun e w' => ∃ x : Option Addr × Nat, e = .returned (.slice x.1 ns.length x.2) ∧ Row w' w'.heap.size x.1 (ns.flatMap needCells) ∧ Below W.heap.size W w') := Lib.hid fun W hW =>
    (wants_any (HTW.out W hW).1 (HTW.out W hW).2 hnF s i o k hns).mono fun e w' ⟨v, he, hown, hB⟩ => by
      obtain ⟨A, c, rfl, hr⟩ := owns_read hown
      exact ⟨(A, c), he, hr, hB⟩
  have KW2 : Hid (∀ W, Q W → Calls Tryd.prog 14 #[l.val, stpV s i o, .int .i64 k] W fun e w' => ∃ x : Option Addr × Nat, e = .returned (.slice x.1 ns.length x.2) ∧ Row w' w'.heap.size x.1 (ns.flatMap needCells) ∧ Below W.heap.size W w') := Lib.hid fun W hW =>
    (wantsR_any (HTW.out W hW).2 hnF s i o k hns).mono fun e w' ⟨v, he, hown, hB⟩ => by
      obtain ⟨A, c, rfl, hr⟩ := owns_read hown
      exact ⟨(A, c), he, hr, hB⟩
  have KC1 : Hid (∀ W, Q W → Calls Tryd.prog 15 #[l.val, stpV s i o] W fun e w' => e = .returned (.int .i64 cl) ∧ Below W.heap.size W w') := Lib.hid fun W hW => classB_any (HTW.out W hW).1 (HTW.out W hW).2 s i o hcl
  have KC2 : Hid (∀ W, Q W → Calls Tryd.prog 16 #[l.val, stpV s i o] W fun e w' => e = .returned (.int .i64 cl) ∧ Below W.heap.size W w') := Lib.hid fun W hW => classR_any (HTW.out W hW).2 s i o hcl
  have KO1 : Hid (∀ W, Q W → Calls Tryd.prog 18 #[l.val, .int .i64 x] W fun e w' => ∃ x : Option Addr × Nat, e = .returned (.slice x.1 os.length x.2) ∧ Row w' w'.heap.size x.1 (os.flatMap stpCells) ∧ Below W.heap.size W w') := Lib.hid fun W hW =>
    (overB10_any (HTW.out W hW).1 (HTW.out W hW).2 hnO x hos).mono fun e w' ⟨v, he, hown, hB⟩ => by
      obtain ⟨A, c, rfl, hr⟩ := owns_read hown
      exact ⟨(A, c), he, hr, hB⟩
  have KO2 : Hid (∀ W, Q W → Calls Tryd.prog 19 #[l.val, .int .i64 x] W fun e w' => ∃ x : Option Addr × Nat, e = .returned (.slice x.1 os.length x.2) ∧ Row w' w'.heap.size x.1 (os.flatMap stpCells) ∧ Below W.heap.size W w') := Lib.hid fun W hW =>
    (overR10_any (HTW.out W hW).2 hnO x hos).mono fun e w' ⟨v, he, hown, hB⟩ => by
      obtain ⟨A, c, rfl, hr⟩ := owns_read hown
      exact ⟨(A, c), he, hr, hB⟩
  have KN1 : Hid (∀ W, Q W → Calls Tryd.prog 20 #[l.val, stpV s i o] W fun e w' => e = .returned (prtV n1 n2) ∧ Below W.heap.size W w') := Lib.hid fun W hW => nextB_any (HTW.out W hW).1 (HTW.out W hW).2 s i o hnx
  have KN2 : Hid (∀ W, Q W → Calls Tryd.prog 21 #[l.val, stpV s i o] W fun e w' => e = .returned (prtV n1 n2) ∧ Below W.heap.size W w') := Lib.hid fun W hW => nextR_any (HTW.out W hW).2 s i o hnx
  have KR1 : Hid (∀ W, Q W → Calls Tryd.prog 22 #[l.val, .int .i64 x] W fun e w' => e = .returned (prtV q1 q2) ∧ Below W.heap.size W w') := Lib.hid fun W hW => rearB_any (HTW.out W hW).1 (HTW.out W hW).2 x hrv
  have KR2 : Hid (∀ W, Q W → Calls Tryd.prog 23 #[l.val, .int .i64 x] W fun e w' => e = .returned (prtV q1 q2) ∧ Below W.heap.size W w') := Lib.hid fun W hW => rearR_any (HTW.out W hW).2 x hrv
  have KM1 : Hid (∀ W, Q W → Calls Tryd.prog 24 #[.slice A ss.length c] W fun e w' => e = .returned (.int .u32 (m : Nat)) ∧ Below W.heap.size W w') := Lib.hid fun W hW => maskB_any c (HRA.out W hW) hn hm
  have KM2 : Hid (∀ W, Q W → Calls Tryd.prog 25 #[.slice A ss.length c] W fun e w' => e = .returned (.int .u32 (m : Nat)) ∧ Below W.heap.size W w') := Lib.hid fun W hW => maskR_any c (HRA.out W hW) hn hm
  have KG1 : Hid (∀ W, Q W → Calls Tryd.prog 26 #[l.val, prtV f1 f2, .slice A ss.length c] W fun e w' => e = .returned (.bool gr) ∧ Below W.heap.size W w') := Lib.hid fun W hW => goesB_any (HTW.out W hW).1 (HTW.out W hW).2 f1 f2 c (HRA.out W hW) hn hgr
  have KG2 : Hid (∀ W, Q W → Calls Tryd.prog 27 #[l.val, prtV f1 f2, .slice A ss.length c] W fun e w' => e = .returned (.bool gr) ∧ Below W.heap.size W w') := Lib.hid fun W hW => goesR_any (HTW.out W hW).2 f1 f2 c (HRA.out W hW) hn hgr
  have KWB : Hid (∀ W, Q W → Calls Tryd.prog 9 #[] W fun e w' => e = .returned (.bool true) ∧ Below W.heap.size W w') := Lib.hid fun W hW => wakes10_P (P := fun W' => Below W.heap.size W W') (Closed.below W) (fun W' h => Shapes.closed _ _ (HTW.out W hW).1 h) (Below.refl _ _)
  have hn0 : ∀ W : World, (binOp .eql 33 (prtV n1 n2) (prtV n1 n2)).run Tryd.prog W = .ok (.bool true) W := fun W => by rw [eql_prt]; simp
  have hr0 : ∀ W : World, (binOp .eql 33 (prtV q1 q2) (prtV q1 q2)).run Tryd.prog W = .ok (.bool true) W := fun W => by rw [eql_prt]; simp
  clear hns hos hpv hcl hnx hrv hm hgr hnF hnO
  have m0 := HQl.out _ hq
  have x0 := m0.cell_at 0 rfl
  have x1 := m0.cell_at 1 rfl
  have x2 := m0.cell_at 2 rfl
  have x3 := m0.cell_at 3 rfl
  have x4 := m0.cell_at 4 rfl
  have x5 := m0.cell_at 5 rfl
  have x6 := m0.cell_at 6 rfl
  have x7 := m0.cell_at 7 rfl
  have x8 := m0.cell_at 8 rfl
  have x9 := m0.cell_at 9 rfl
  have x10 := m0.cell_at 10 rfl
  clear m0
  have m0 := HQv.out _ hq
  have v0 := m0.cell_at 0 rfl
  have v1 := m0.cell_at 1 rfl
  have v2 := m0.cell_at 2 rfl
  clear m0
  go_wp2_with fail
  refine (KP1.out _ hq).mono ?_
  clear hq x0 x1 x2 x3 x4 x5 x6 x7 x8 x9 x10 v0 v1 v2
  rintro e w2 ⟨rfl, hq⟩
  have m0 := HQl.out _ hq
  have x0 := m0.cell_at 0 rfl
  have x1 := m0.cell_at 1 rfl
  have x2 := m0.cell_at 2 rfl
  have x3 := m0.cell_at 3 rfl
  have x4 := m0.cell_at 4 rfl
  have x5 := m0.cell_at 5 rfl
  have x6 := m0.cell_at 6 rfl
  have x7 := m0.cell_at 7 rfl
  have x8 := m0.cell_at 8 rfl
  have x9 := m0.cell_at 9 rfl
  have x10 := m0.cell_at 10 rfl
  clear m0
  have m0 := HQv.out _ hq
  have v0 := m0.cell_at 0 rfl
  have v1 := m0.cell_at 1 rfl
  have v2 := m0.cell_at 2 rfl
  clear m0
  go_wp2_with fail
  refine (KP2.out _ hq).mono ?_
  clear hq x0 x1 x2 x3 x4 x5 x6 x7 x8 x9 x10 v0 v1 v2
  rintro e w3 ⟨rfl, hq⟩
  go_upto_region 5 with (fail)
  have HBS : Hid (∀ W, Below w3.heap.size w3 W → Q W) := Lib.hid (fun W hB => HQ.out _ _ hq hB)
  clear hq
  refine region_mix (Below w3.heap.size w3) [(0, false), (1, false), (2, false), (3, false), (4, false), (5, false), (6, false), (7, false), (8, false), (9, false), (10, false), (11, false), (12, false), (13, false), (14, false), (15, false), (16, false), (18, false), (19, false), (20, false), (17, true), (21, true), (22, true), (23, false), (24, false), (25, false), (26, false), (27, false), (28, false), (29, false), (30, false), (31, false), (32, false), (33, false), (34, false), (35, false), (36, false), (38, false), (39, false), (37, true), (40, true), (41, true), (42, false), (43, false)] (by kernel_rfl) (by kernel_rfl) (Below w3.heap.size w3) ⟨Closed.below w3, fun _ h => h⟩ (Below.refl _ _).drew ?_
  simp only [pickOps, List.getElem?_cons_zero, List.getElem?_cons_succ]
  repeat (first | (refine mix_skip (by rfl) ?_; simp only [Act.put, List.setIfInBounds_toArray, List.set_cons_zero, List.set_cons_succ]) | (refine mix_read _ (by rfl) (fun W hW => by (have hW := HBS.out W hW; have m0 := HQl.out W hW; have x0 := m0.cell_at 0 rfl; have x1 := m0.cell_at 1 rfl; have x2 := m0.cell_at 2 rfl; have x3 := m0.cell_at 3 rfl; have x4 := m0.cell_at 4 rfl; have x5 := m0.cell_at 5 rfl; have x6 := m0.cell_at 6 rfl; have x7 := m0.cell_at 7 rfl; have x8 := m0.cell_at 8 rfl; have x9 := m0.cell_at 9 rfl; have x10 := m0.cell_at 10 rfl; clear m0; have m1 := HQv.out W hW; have v0 := m1.cell_at 0 rfl; have v1 := m1.cell_at 1 rfl; have v2 := m1.cell_at 2 rfl; clear m1; have m2 := HQr.out W hW; have r0 := m2.cell_at 0 rfl; have r1 := m2.cell_at 1 rfl; clear m2; go_simp; first | done | with_reducible rfl)) ?_; simp only [Act.put, List.setIfInBounds_toArray, List.set_cons_zero, List.set_cons_succ]) | (refine mix_call _ _ _ (by rfl) (fun W hW => by (have hW := HBS.out W hW; have m0 := HQl.out W hW; have x0 := m0.cell_at 0 rfl; have x1 := m0.cell_at 1 rfl; have x2 := m0.cell_at 2 rfl; have x3 := m0.cell_at 3 rfl; have x4 := m0.cell_at 4 rfl; have x5 := m0.cell_at 5 rfl; have x6 := m0.cell_at 6 rfl; have x7 := m0.cell_at 7 rfl; have x8 := m0.cell_at 8 rfl; have x9 := m0.cell_at 9 rfl; have x10 := m0.cell_at 10 rfl; clear m0; have m1 := HQv.out W hW; have v0 := m1.cell_at 0 rfl; have v1 := m1.cell_at 1 rfl; have v2 := m1.cell_at 2 rfl; clear m1; have m2 := HQr.out W hW; have r0 := m2.cell_at 0 rfl; have r1 := m2.cell_at 1 rfl; clear m2; go_simp; first | done | rfl)) (fun W hW => KC1.out W (HBS.out W hW)) ?_; simp only [Act.put, List.setIfInBounds_toArray, List.set_cons_zero, List.set_cons_succ]) | (refine mix_call _ _ _ (by rfl) (fun W hW => by (have hW := HBS.out W hW; have m0 := HQl.out W hW; have x0 := m0.cell_at 0 rfl; have x1 := m0.cell_at 1 rfl; have x2 := m0.cell_at 2 rfl; have x3 := m0.cell_at 3 rfl; have x4 := m0.cell_at 4 rfl; have x5 := m0.cell_at 5 rfl; have x6 := m0.cell_at 6 rfl; have x7 := m0.cell_at 7 rfl; have x8 := m0.cell_at 8 rfl; have x9 := m0.cell_at 9 rfl; have x10 := m0.cell_at 10 rfl; clear m0; have m1 := HQv.out W hW; have v0 := m1.cell_at 0 rfl; have v1 := m1.cell_at 1 rfl; have v2 := m1.cell_at 2 rfl; clear m1; have m2 := HQr.out W hW; have r0 := m2.cell_at 0 rfl; have r1 := m2.cell_at 1 rfl; clear m2; go_simp; first | done | rfl)) (fun W hW => KC2.out W (HBS.out W hW)) ?_; simp only [Act.put, List.setIfInBounds_toArray, List.set_cons_zero, List.set_cons_succ]))
  refine mix_meet (fun x : Option Addr × Nat => .slice x.1 ns.length x.2) (fun x W => Row W W.heap.size x.1 (ns.flatMap needCells)) ⟨Closed.below w3, fun _ h => h⟩ (fun x W W' h hB => h.on hB) _ _ (by rfl) (fun W hW => by (have hW := HBS.out W hW; have m0 := HQl.out W hW; have x0 := m0.cell_at 0 rfl; have x1 := m0.cell_at 1 rfl; have x2 := m0.cell_at 2 rfl; have x3 := m0.cell_at 3 rfl; have x4 := m0.cell_at 4 rfl; have x5 := m0.cell_at 5 rfl; have x6 := m0.cell_at 6 rfl; have x7 := m0.cell_at 7 rfl; have x8 := m0.cell_at 8 rfl; have x9 := m0.cell_at 9 rfl; have x10 := m0.cell_at 10 rfl; clear m0; have m1 := HQv.out W hW; have v0 := m1.cell_at 0 rfl; have v1 := m1.cell_at 1 rfl; have v2 := m1.cell_at 2 rfl; clear m1; have m2 := HQr.out W hW; have r0 := m2.cell_at 0 rfl; have r1 := m2.cell_at 1 rfl; clear m2; go_simp; first | done | rfl)) (fun W hW => KW1.out W (HBS.out W hW)) (fun xa => ?_)
  simp only [Act.put, List.setIfInBounds_toArray, List.set_cons_zero, List.set_cons_succ]
  refine mix_meet (fun x : Option Addr × Nat => .slice x.1 ns.length x.2) (fun x W => Row W W.heap.size x.1 (ns.flatMap needCells)) ⟨Closed.and (Closed.below w3) (fun _ _ h hB => h.on hB), fun _ h => h.1⟩ (fun x W W' h hB => h.on hB) _ _ (by rfl) (fun W hW => by (have hW := HBS.out W hW.1; have m0 := HQl.out W hW; have x0 := m0.cell_at 0 rfl; have x1 := m0.cell_at 1 rfl; have x2 := m0.cell_at 2 rfl; have x3 := m0.cell_at 3 rfl; have x4 := m0.cell_at 4 rfl; have x5 := m0.cell_at 5 rfl; have x6 := m0.cell_at 6 rfl; have x7 := m0.cell_at 7 rfl; have x8 := m0.cell_at 8 rfl; have x9 := m0.cell_at 9 rfl; have x10 := m0.cell_at 10 rfl; clear m0; have m1 := HQv.out W hW; have v0 := m1.cell_at 0 rfl; have v1 := m1.cell_at 1 rfl; have v2 := m1.cell_at 2 rfl; clear m1; have m2 := HQr.out W hW; have r0 := m2.cell_at 0 rfl; have r1 := m2.cell_at 1 rfl; clear m2; go_simp; first | done | rfl)) (fun W hW => KW2.out W (HBS.out W hW.1)) (fun xb => ?_)
  simp only [Act.put, List.setIfInBounds_toArray, List.set_cons_zero, List.set_cons_succ]
  refine mix_ask _ _ (.bool true) ⟨Closed.and (Closed.and (Closed.below w3) (fun _ _ h hB => h.on hB)) (fun _ _ h hB => h.on hB), fun _ h => h.1.1⟩ (by rfl) (fun W hW => by (have hW := HBS.out W hW.1.1; have m0 := HQl.out W hW; have x0 := m0.cell_at 0 rfl; have x1 := m0.cell_at 1 rfl; have x2 := m0.cell_at 2 rfl; have x3 := m0.cell_at 3 rfl; have x4 := m0.cell_at 4 rfl; have x5 := m0.cell_at 5 rfl; have x6 := m0.cell_at 6 rfl; have x7 := m0.cell_at 7 rfl; have x8 := m0.cell_at 8 rfl; have x9 := m0.cell_at 9 rfl; have x10 := m0.cell_at 10 rfl; clear m0; have m1 := HQv.out W hW; have v0 := m1.cell_at 0 rfl; have v1 := m1.cell_at 1 rfl; have v2 := m1.cell_at 2 rfl; clear m1; have m2 := HQr.out W hW; have r0 := m2.cell_at 0 rfl; have r1 := m2.cell_at 1 rfl; clear m2; go_simp; first | done | rfl)) (fun W hW => needsR_B xa.2 xb.2 hW.1.2 hW.2 HNL.out (decide_eq_true rfl)) ?_
  simp only [Act.put, List.setIfInBounds_toArray, List.set_cons_zero, List.set_cons_succ]
  repeat (first | (refine mix_skip (by rfl) ?_; simp only [Act.put, List.setIfInBounds_toArray, List.set_cons_zero, List.set_cons_succ]) | (refine mix_read _ (by rfl) (fun W hW => by (have hW := HBS.out W hW; have m0 := HQl.out W hW; have x0 := m0.cell_at 0 rfl; have x1 := m0.cell_at 1 rfl; have x2 := m0.cell_at 2 rfl; have x3 := m0.cell_at 3 rfl; have x4 := m0.cell_at 4 rfl; have x5 := m0.cell_at 5 rfl; have x6 := m0.cell_at 6 rfl; have x7 := m0.cell_at 7 rfl; have x8 := m0.cell_at 8 rfl; have x9 := m0.cell_at 9 rfl; have x10 := m0.cell_at 10 rfl; clear m0; have m1 := HQv.out W hW; have v0 := m1.cell_at 0 rfl; have v1 := m1.cell_at 1 rfl; have v2 := m1.cell_at 2 rfl; clear m1; have m2 := HQr.out W hW; have r0 := m2.cell_at 0 rfl; have r1 := m2.cell_at 1 rfl; clear m2; go_simp; first | done | with_reducible rfl)) ?_; simp only [Act.put, List.setIfInBounds_toArray, List.set_cons_zero, List.set_cons_succ]) | (refine mix_call _ _ _ (by rfl) (fun W hW => by (have hW := HBS.out W hW; have m0 := HQl.out W hW; have x0 := m0.cell_at 0 rfl; have x1 := m0.cell_at 1 rfl; have x2 := m0.cell_at 2 rfl; have x3 := m0.cell_at 3 rfl; have x4 := m0.cell_at 4 rfl; have x5 := m0.cell_at 5 rfl; have x6 := m0.cell_at 6 rfl; have x7 := m0.cell_at 7 rfl; have x8 := m0.cell_at 8 rfl; have x9 := m0.cell_at 9 rfl; have x10 := m0.cell_at 10 rfl; clear m0; have m1 := HQv.out W hW; have v0 := m1.cell_at 0 rfl; have v1 := m1.cell_at 1 rfl; have v2 := m1.cell_at 2 rfl; clear m1; have m2 := HQr.out W hW; have r0 := m2.cell_at 0 rfl; have r1 := m2.cell_at 1 rfl; clear m2; go_simp; first | done | rfl)) (fun W hW => KC1.out W (HBS.out W hW)) ?_; simp only [Act.put, List.setIfInBounds_toArray, List.set_cons_zero, List.set_cons_succ]) | (refine mix_call _ _ _ (by rfl) (fun W hW => by (have hW := HBS.out W hW; have m0 := HQl.out W hW; have x0 := m0.cell_at 0 rfl; have x1 := m0.cell_at 1 rfl; have x2 := m0.cell_at 2 rfl; have x3 := m0.cell_at 3 rfl; have x4 := m0.cell_at 4 rfl; have x5 := m0.cell_at 5 rfl; have x6 := m0.cell_at 6 rfl; have x7 := m0.cell_at 7 rfl; have x8 := m0.cell_at 8 rfl; have x9 := m0.cell_at 9 rfl; have x10 := m0.cell_at 10 rfl; clear m0; have m1 := HQv.out W hW; have v0 := m1.cell_at 0 rfl; have v1 := m1.cell_at 1 rfl; have v2 := m1.cell_at 2 rfl; clear m1; have m2 := HQr.out W hW; have r0 := m2.cell_at 0 rfl; have r1 := m2.cell_at 1 rfl; clear m2; go_simp; first | done | rfl)) (fun W hW => KC2.out W (HBS.out W hW)) ?_; simp only [Act.put, List.setIfInBounds_toArray, List.set_cons_zero, List.set_cons_succ]))
  refine mix_meet (fun x : Option Addr × Nat => .slice x.1 os.length x.2) (fun x W => Row W W.heap.size x.1 (os.flatMap stpCells)) ⟨Closed.and (Closed.and (Closed.below w3) (fun _ _ h hB => h.on hB)) (fun _ _ h hB => h.on hB), fun _ h => h.1.1⟩ (fun x W W' h hB => h.on hB) _ _ (by rfl) (fun W hW => by (have hW := HBS.out W hW.1.1; have m0 := HQl.out W hW; have x0 := m0.cell_at 0 rfl; have x1 := m0.cell_at 1 rfl; have x2 := m0.cell_at 2 rfl; have x3 := m0.cell_at 3 rfl; have x4 := m0.cell_at 4 rfl; have x5 := m0.cell_at 5 rfl; have x6 := m0.cell_at 6 rfl; have x7 := m0.cell_at 7 rfl; have x8 := m0.cell_at 8 rfl; have x9 := m0.cell_at 9 rfl; have x10 := m0.cell_at 10 rfl; clear m0; have m1 := HQv.out W hW; have v0 := m1.cell_at 0 rfl; have v1 := m1.cell_at 1 rfl; have v2 := m1.cell_at 2 rfl; clear m1; have m2 := HQr.out W hW; have r0 := m2.cell_at 0 rfl; have r1 := m2.cell_at 1 rfl; clear m2; go_simp; first | done | rfl)) (fun W hW => KO1.out W (HBS.out W hW.1.1)) (fun xc => ?_)
  simp only [Act.put, List.setIfInBounds_toArray, List.set_cons_zero, List.set_cons_succ]
  refine mix_meet (fun x : Option Addr × Nat => .slice x.1 os.length x.2) (fun x W => Row W W.heap.size x.1 (os.flatMap stpCells)) ⟨Closed.and (Closed.and (Closed.and (Closed.below w3) (fun _ _ h hB => h.on hB)) (fun _ _ h hB => h.on hB)) (fun _ _ h hB => h.on hB), fun _ h => h.1.1.1⟩ (fun x W W' h hB => h.on hB) _ _ (by rfl) (fun W hW => by (have hW := HBS.out W hW.1.1.1; have m0 := HQl.out W hW; have x0 := m0.cell_at 0 rfl; have x1 := m0.cell_at 1 rfl; have x2 := m0.cell_at 2 rfl; have x3 := m0.cell_at 3 rfl; have x4 := m0.cell_at 4 rfl; have x5 := m0.cell_at 5 rfl; have x6 := m0.cell_at 6 rfl; have x7 := m0.cell_at 7 rfl; have x8 := m0.cell_at 8 rfl; have x9 := m0.cell_at 9 rfl; have x10 := m0.cell_at 10 rfl; clear m0; have m1 := HQv.out W hW; have v0 := m1.cell_at 0 rfl; have v1 := m1.cell_at 1 rfl; have v2 := m1.cell_at 2 rfl; clear m1; have m2 := HQr.out W hW; have r0 := m2.cell_at 0 rfl; have r1 := m2.cell_at 1 rfl; clear m2; go_simp; first | done | rfl)) (fun W hW => KO2.out W (HBS.out W hW.1.1.1)) (fun xd => ?_)
  simp only [Act.put, List.setIfInBounds_toArray, List.set_cons_zero, List.set_cons_succ]
  refine mix_ask _ _ (.bool true) ⟨Closed.and (Closed.and (Closed.and (Closed.and (Closed.below w3) (fun _ _ h hB => h.on hB)) (fun _ _ h hB => h.on hB)) (fun _ _ h hB => h.on hB)) (fun _ _ h hB => h.on hB), fun _ h => h.1.1.1.1⟩ (by rfl) (fun W hW => by (have hW := HBS.out W hW.1.1.1.1; have m0 := HQl.out W hW; have x0 := m0.cell_at 0 rfl; have x1 := m0.cell_at 1 rfl; have x2 := m0.cell_at 2 rfl; have x3 := m0.cell_at 3 rfl; have x4 := m0.cell_at 4 rfl; have x5 := m0.cell_at 5 rfl; have x6 := m0.cell_at 6 rfl; have x7 := m0.cell_at 7 rfl; have x8 := m0.cell_at 8 rfl; have x9 := m0.cell_at 9 rfl; have x10 := m0.cell_at 10 rfl; clear m0; have m1 := HQv.out W hW; have v0 := m1.cell_at 0 rfl; have v1 := m1.cell_at 1 rfl; have v2 := m1.cell_at 2 rfl; clear m1; have m2 := HQr.out W hW; have r0 := m2.cell_at 0 rfl; have r1 := m2.cell_at 1 rfl; clear m2; go_simp; first | done | rfl)) (fun W hW => stepsR_B xc.2 xd.2 hW.1.2 hW.2 HOL.out (decide_eq_true rfl)) ?_
  simp only [Act.put, List.setIfInBounds_toArray, List.set_cons_zero, List.set_cons_succ]
  repeat (first | (refine mix_skip (by rfl) ?_; simp only [Act.put, List.setIfInBounds_toArray, List.set_cons_zero, List.set_cons_succ]) | (refine mix_read _ (by rfl) (fun W hW => by (have hW := HBS.out W hW; have m0 := HQl.out W hW; have x0 := m0.cell_at 0 rfl; have x1 := m0.cell_at 1 rfl; have x2 := m0.cell_at 2 rfl; have x3 := m0.cell_at 3 rfl; have x4 := m0.cell_at 4 rfl; have x5 := m0.cell_at 5 rfl; have x6 := m0.cell_at 6 rfl; have x7 := m0.cell_at 7 rfl; have x8 := m0.cell_at 8 rfl; have x9 := m0.cell_at 9 rfl; have x10 := m0.cell_at 10 rfl; clear m0; have m1 := HQv.out W hW; have v0 := m1.cell_at 0 rfl; have v1 := m1.cell_at 1 rfl; have v2 := m1.cell_at 2 rfl; clear m1; have m2 := HQr.out W hW; have r0 := m2.cell_at 0 rfl; have r1 := m2.cell_at 1 rfl; clear m2; go_simp; first | done | with_reducible rfl)) ?_; simp only [Act.put, List.setIfInBounds_toArray, List.set_cons_zero, List.set_cons_succ]) | (refine mix_call _ _ _ (by rfl) (fun W hW => by (have hW := HBS.out W hW; have m0 := HQl.out W hW; have x0 := m0.cell_at 0 rfl; have x1 := m0.cell_at 1 rfl; have x2 := m0.cell_at 2 rfl; have x3 := m0.cell_at 3 rfl; have x4 := m0.cell_at 4 rfl; have x5 := m0.cell_at 5 rfl; have x6 := m0.cell_at 6 rfl; have x7 := m0.cell_at 7 rfl; have x8 := m0.cell_at 8 rfl; have x9 := m0.cell_at 9 rfl; have x10 := m0.cell_at 10 rfl; clear m0; have m1 := HQv.out W hW; have v0 := m1.cell_at 0 rfl; have v1 := m1.cell_at 1 rfl; have v2 := m1.cell_at 2 rfl; clear m1; have m2 := HQr.out W hW; have r0 := m2.cell_at 0 rfl; have r1 := m2.cell_at 1 rfl; clear m2; go_simp; first | done | rfl)) (fun W hW => KC1.out W (HBS.out W hW)) ?_; simp only [Act.put, List.setIfInBounds_toArray, List.set_cons_zero, List.set_cons_succ]) | (refine mix_call _ _ _ (by rfl) (fun W hW => by (have hW := HBS.out W hW; have m0 := HQl.out W hW; have x0 := m0.cell_at 0 rfl; have x1 := m0.cell_at 1 rfl; have x2 := m0.cell_at 2 rfl; have x3 := m0.cell_at 3 rfl; have x4 := m0.cell_at 4 rfl; have x5 := m0.cell_at 5 rfl; have x6 := m0.cell_at 6 rfl; have x7 := m0.cell_at 7 rfl; have x8 := m0.cell_at 8 rfl; have x9 := m0.cell_at 9 rfl; have x10 := m0.cell_at 10 rfl; clear m0; have m1 := HQv.out W hW; have v0 := m1.cell_at 0 rfl; have v1 := m1.cell_at 1 rfl; have v2 := m1.cell_at 2 rfl; clear m1; have m2 := HQr.out W hW; have r0 := m2.cell_at 0 rfl; have r1 := m2.cell_at 1 rfl; clear m2; go_simp; first | done | rfl)) (fun W hW => KC2.out W (HBS.out W hW)) ?_; simp only [Act.put, List.setIfInBounds_toArray, List.set_cons_zero, List.set_cons_succ]))
  refine mix_nil (fun W hW => ?_)
  have hq := HBS.out W hW.1.1.1.1
  clear hW HBS
  obtain ⟨w4, rfl⟩ : ∃ W', W' = W := ⟨W, rfl⟩
  go_upto_region 7 with (fail)
  have HBS : Hid (∀ W, Below w4.heap.size w4 W → Q W) := Lib.hid (fun W hB => HQ.out _ _ hq hB)
  clear hq
  refine region_mix (Below w4.heap.size w4) [(0, false), (1, false), (2, false), (3, false), (4, false), (5, false), (6, false), (7, false), (8, false), (9, false), (10, false), (11, false), (12, false), (13, false), (14, false), (15, false), (16, false), (17, false), (18, false), (19, false), (20, false), (21, false), (22, false), (23, false), (24, false), (25, false), (26, false), (27, false), (28, false), (29, false), (30, false), (31, false), (32, false), (33, false), (34, false), (35, false), (36, false), (37, false)] (by kernel_rfl) (by kernel_rfl) (Below w4.heap.size w4) ⟨Closed.below w4, fun _ h => h⟩ (Below.refl _ _).drew ?_
  simp only [pickOps, List.getElem?_cons_zero, List.getElem?_cons_succ]
  repeat (first | (refine mix_skip (by rfl) ?_; simp only [Act.put, List.setIfInBounds_toArray, List.set_cons_zero, List.set_cons_succ]) | (refine mix_read _ (by rfl) (fun W hW => by (have hW := HBS.out W hW; have m0 := HQl.out W hW; have x0 := m0.cell_at 0 rfl; have x1 := m0.cell_at 1 rfl; have x2 := m0.cell_at 2 rfl; have x3 := m0.cell_at 3 rfl; have x4 := m0.cell_at 4 rfl; have x5 := m0.cell_at 5 rfl; have x6 := m0.cell_at 6 rfl; have x7 := m0.cell_at 7 rfl; have x8 := m0.cell_at 8 rfl; have x9 := m0.cell_at 9 rfl; have x10 := m0.cell_at 10 rfl; clear m0; have m1 := HQv.out W hW; have v0 := m1.cell_at 0 rfl; have v1 := m1.cell_at 1 rfl; have v2 := m1.cell_at 2 rfl; clear m1; have m2 := HQr.out W hW; have r0 := m2.cell_at 0 rfl; have r1 := m2.cell_at 1 rfl; clear m2; go_simp; first | done | with_reducible rfl)) ?_; simp only [Act.put, List.setIfInBounds_toArray, List.set_cons_zero, List.set_cons_succ]) | (refine mix_call _ _ _ (by rfl) (fun W hW => by (have hW := HBS.out W hW; have m0 := HQl.out W hW; have x0 := m0.cell_at 0 rfl; have x1 := m0.cell_at 1 rfl; have x2 := m0.cell_at 2 rfl; have x3 := m0.cell_at 3 rfl; have x4 := m0.cell_at 4 rfl; have x5 := m0.cell_at 5 rfl; have x6 := m0.cell_at 6 rfl; have x7 := m0.cell_at 7 rfl; have x8 := m0.cell_at 8 rfl; have x9 := m0.cell_at 9 rfl; have x10 := m0.cell_at 10 rfl; clear m0; have m1 := HQv.out W hW; have v0 := m1.cell_at 0 rfl; have v1 := m1.cell_at 1 rfl; have v2 := m1.cell_at 2 rfl; clear m1; have m2 := HQr.out W hW; have r0 := m2.cell_at 0 rfl; have r1 := m2.cell_at 1 rfl; clear m2; go_simp; first | done | rfl)) (fun W hW => KN1.out W (HBS.out W hW)) ?_; simp only [Act.put, List.setIfInBounds_toArray, List.set_cons_zero, List.set_cons_succ]) | (refine mix_call _ _ _ (by rfl) (fun W hW => by (have hW := HBS.out W hW; have m0 := HQl.out W hW; have x0 := m0.cell_at 0 rfl; have x1 := m0.cell_at 1 rfl; have x2 := m0.cell_at 2 rfl; have x3 := m0.cell_at 3 rfl; have x4 := m0.cell_at 4 rfl; have x5 := m0.cell_at 5 rfl; have x6 := m0.cell_at 6 rfl; have x7 := m0.cell_at 7 rfl; have x8 := m0.cell_at 8 rfl; have x9 := m0.cell_at 9 rfl; have x10 := m0.cell_at 10 rfl; clear m0; have m1 := HQv.out W hW; have v0 := m1.cell_at 0 rfl; have v1 := m1.cell_at 1 rfl; have v2 := m1.cell_at 2 rfl; clear m1; have m2 := HQr.out W hW; have r0 := m2.cell_at 0 rfl; have r1 := m2.cell_at 1 rfl; clear m2; go_simp; first | done | rfl)) (fun W hW => KN2.out W (HBS.out W hW)) ?_; simp only [Act.put, List.setIfInBounds_toArray, List.set_cons_zero, List.set_cons_succ]) | (refine mix_call _ _ _ (by rfl) (fun W hW => by (have hW := HBS.out W hW; have m0 := HQl.out W hW; have x0 := m0.cell_at 0 rfl; have x1 := m0.cell_at 1 rfl; have x2 := m0.cell_at 2 rfl; have x3 := m0.cell_at 3 rfl; have x4 := m0.cell_at 4 rfl; have x5 := m0.cell_at 5 rfl; have x6 := m0.cell_at 6 rfl; have x7 := m0.cell_at 7 rfl; have x8 := m0.cell_at 8 rfl; have x9 := m0.cell_at 9 rfl; have x10 := m0.cell_at 10 rfl; clear m0; have m1 := HQv.out W hW; have v0 := m1.cell_at 0 rfl; have v1 := m1.cell_at 1 rfl; have v2 := m1.cell_at 2 rfl; clear m1; have m2 := HQr.out W hW; have r0 := m2.cell_at 0 rfl; have r1 := m2.cell_at 1 rfl; clear m2; go_simp; first | done | rfl)) (fun W hW => KR1.out W (HBS.out W hW)) ?_; simp only [Act.put, List.setIfInBounds_toArray, List.set_cons_zero, List.set_cons_succ]) | (refine mix_call _ _ _ (by rfl) (fun W hW => by (have hW := HBS.out W hW; have m0 := HQl.out W hW; have x0 := m0.cell_at 0 rfl; have x1 := m0.cell_at 1 rfl; have x2 := m0.cell_at 2 rfl; have x3 := m0.cell_at 3 rfl; have x4 := m0.cell_at 4 rfl; have x5 := m0.cell_at 5 rfl; have x6 := m0.cell_at 6 rfl; have x7 := m0.cell_at 7 rfl; have x8 := m0.cell_at 8 rfl; have x9 := m0.cell_at 9 rfl; have x10 := m0.cell_at 10 rfl; clear m0; have m1 := HQv.out W hW; have v0 := m1.cell_at 0 rfl; have v1 := m1.cell_at 1 rfl; have v2 := m1.cell_at 2 rfl; clear m1; have m2 := HQr.out W hW; have r0 := m2.cell_at 0 rfl; have r1 := m2.cell_at 1 rfl; clear m2; go_simp; first | done | rfl)) (fun W hW => KR2.out W (HBS.out W hW)) ?_; simp only [Act.put, List.setIfInBounds_toArray, List.set_cons_zero, List.set_cons_succ]) | (refine mix_call _ _ _ (by rfl) (fun W hW => by (have hW := HBS.out W hW; have m0 := HQl.out W hW; have x0 := m0.cell_at 0 rfl; have x1 := m0.cell_at 1 rfl; have x2 := m0.cell_at 2 rfl; have x3 := m0.cell_at 3 rfl; have x4 := m0.cell_at 4 rfl; have x5 := m0.cell_at 5 rfl; have x6 := m0.cell_at 6 rfl; have x7 := m0.cell_at 7 rfl; have x8 := m0.cell_at 8 rfl; have x9 := m0.cell_at 9 rfl; have x10 := m0.cell_at 10 rfl; clear m0; have m1 := HQv.out W hW; have v0 := m1.cell_at 0 rfl; have v1 := m1.cell_at 1 rfl; have v2 := m1.cell_at 2 rfl; clear m1; have m2 := HQr.out W hW; have r0 := m2.cell_at 0 rfl; have r1 := m2.cell_at 1 rfl; clear m2; go_simp; first | done | rfl)) (fun W hW => KM1.out W (HBS.out W hW)) ?_; simp only [Act.put, List.setIfInBounds_toArray, List.set_cons_zero, List.set_cons_succ]) | (refine mix_call _ _ _ (by rfl) (fun W hW => by (have hW := HBS.out W hW; have m0 := HQl.out W hW; have x0 := m0.cell_at 0 rfl; have x1 := m0.cell_at 1 rfl; have x2 := m0.cell_at 2 rfl; have x3 := m0.cell_at 3 rfl; have x4 := m0.cell_at 4 rfl; have x5 := m0.cell_at 5 rfl; have x6 := m0.cell_at 6 rfl; have x7 := m0.cell_at 7 rfl; have x8 := m0.cell_at 8 rfl; have x9 := m0.cell_at 9 rfl; have x10 := m0.cell_at 10 rfl; clear m0; have m1 := HQv.out W hW; have v0 := m1.cell_at 0 rfl; have v1 := m1.cell_at 1 rfl; have v2 := m1.cell_at 2 rfl; clear m1; have m2 := HQr.out W hW; have r0 := m2.cell_at 0 rfl; have r1 := m2.cell_at 1 rfl; clear m2; go_simp; first | done | rfl)) (fun W hW => KM2.out W (HBS.out W hW)) ?_; simp only [Act.put, List.setIfInBounds_toArray, List.set_cons_zero, List.set_cons_succ]) | (refine mix_call _ _ _ (by rfl) (fun W hW => by (have hW := HBS.out W hW; have m0 := HQl.out W hW; have x0 := m0.cell_at 0 rfl; have x1 := m0.cell_at 1 rfl; have x2 := m0.cell_at 2 rfl; have x3 := m0.cell_at 3 rfl; have x4 := m0.cell_at 4 rfl; have x5 := m0.cell_at 5 rfl; have x6 := m0.cell_at 6 rfl; have x7 := m0.cell_at 7 rfl; have x8 := m0.cell_at 8 rfl; have x9 := m0.cell_at 9 rfl; have x10 := m0.cell_at 10 rfl; clear m0; have m1 := HQv.out W hW; have v0 := m1.cell_at 0 rfl; have v1 := m1.cell_at 1 rfl; have v2 := m1.cell_at 2 rfl; clear m1; have m2 := HQr.out W hW; have r0 := m2.cell_at 0 rfl; have r1 := m2.cell_at 1 rfl; clear m2; go_simp; first | done | rfl)) (fun W hW => KG1.out W (HBS.out W hW)) ?_; simp only [Act.put, List.setIfInBounds_toArray, List.set_cons_zero, List.set_cons_succ]) | (refine mix_call _ _ _ (by rfl) (fun W hW => by (have hW := HBS.out W hW; have m0 := HQl.out W hW; have x0 := m0.cell_at 0 rfl; have x1 := m0.cell_at 1 rfl; have x2 := m0.cell_at 2 rfl; have x3 := m0.cell_at 3 rfl; have x4 := m0.cell_at 4 rfl; have x5 := m0.cell_at 5 rfl; have x6 := m0.cell_at 6 rfl; have x7 := m0.cell_at 7 rfl; have x8 := m0.cell_at 8 rfl; have x9 := m0.cell_at 9 rfl; have x10 := m0.cell_at 10 rfl; clear m0; have m1 := HQv.out W hW; have v0 := m1.cell_at 0 rfl; have v1 := m1.cell_at 1 rfl; have v2 := m1.cell_at 2 rfl; clear m1; have m2 := HQr.out W hW; have r0 := m2.cell_at 0 rfl; have r1 := m2.cell_at 1 rfl; clear m2; go_simp; first | done | rfl)) (fun W hW => KG2.out W (HBS.out W hW)) ?_; simp only [Act.put, List.setIfInBounds_toArray, List.set_cons_zero, List.set_cons_succ]) | (refine mix_call _ _ _ (by rfl) (fun W hW => by (have hW := HBS.out W hW; have m0 := HQl.out W hW; have x0 := m0.cell_at 0 rfl; have x1 := m0.cell_at 1 rfl; have x2 := m0.cell_at 2 rfl; have x3 := m0.cell_at 3 rfl; have x4 := m0.cell_at 4 rfl; have x5 := m0.cell_at 5 rfl; have x6 := m0.cell_at 6 rfl; have x7 := m0.cell_at 7 rfl; have x8 := m0.cell_at 8 rfl; have x9 := m0.cell_at 9 rfl; have x10 := m0.cell_at 10 rfl; clear m0; have m1 := HQv.out W hW; have v0 := m1.cell_at 0 rfl; have v1 := m1.cell_at 1 rfl; have v2 := m1.cell_at 2 rfl; clear m1; have m2 := HQr.out W hW; have r0 := m2.cell_at 0 rfl; have r1 := m2.cell_at 1 rfl; clear m2; go_simp; first | done | rfl)) (fun W hW => KWB.out W (HBS.out W hW)) ?_; simp only [Act.put, List.setIfInBounds_toArray, List.set_cons_zero, List.set_cons_succ]))
  refine mix_nil (fun W hW => ?_)
  have HF := Lib.hid (HQb.out _ (HBS.out W hW))
  clear hW HBS
  go_wp2_with fail
  go_ret
  exact ⟨rfl, HF.out⟩
end Go.Proofs.YthjnhigcheakaaaDoor
