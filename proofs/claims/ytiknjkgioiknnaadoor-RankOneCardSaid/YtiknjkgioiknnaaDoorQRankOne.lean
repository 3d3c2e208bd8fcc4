/- The walk of RankOne: of two unlike paths from one port just one is ahead. -/
import Derived.Test.YtiknjkgioiknnaaDoorQRnkW
import Derived.Test.YtiknjkgioiknnaaDoorQTopoR
import Derived.Test.YtiknjkgioiknnaaDoorQBeH
namespace Go.Proofs.YtiknjkgioiknnaaDoor
open Go.RowKit Go.Shelf
set_option linter.unusedVariables false
set_option linter.unusedSimpArgs false
set_option maxRecDepth 100000

theorem cmpR_bounds : ∀ xs ys, -1 ≤ cmpR xs ys ∧ cmpR xs ys ≤ 1
  | [], [] => by simp [cmpR]
  | [], _ :: _ => by simp [cmpR]
  | _ :: _, [] => by simp [cmpR]
  | x :: xs, y :: ys => by
    unfold cmpR
    split
    · omega
    · split
      · omega
      · exact cmpR_bounds xs ys
set_option maxRecDepth 100000 in
set_option maxHeartbeats 32000000 in
theorem rankOne_walk (l : Lay) (f1 f2 : Int) (p q : Pth) (w : World) (hT : Shapes w) (hL : Lies l w) (hp : PLies p w) (hq' : PLies q w) :
    Calls Tryd.prog 3 #[l.val, prtV f1 f2, p.val, q.val] w fun e w' => e = .returned (.bool true) ∧ Below w.heap.size w w' := by
  obtain ⟨Q, HQ, HQb, HQl, HQf, HQa, HQc, hq⟩ : ∃ Q : World → Prop, Hid (Closed Q) ∧ Hid (∀ W, Q W → Below w.heap.size w W) ∧ Hid (∀ W, Q W → Whole W w.heap.size 29 l.cells) ∧ Hid (∀ W, Q W → Whole W (w.heap.size + 1) 31 (prtCells (f1, f2))) ∧ Hid (∀ W, Q W → Whole W (w.heap.size + 1 + 1) 34 p.cells) ∧ Hid (∀ W, Q W → Whole W (w.heap.size + 1 + 1 + 1) 34 q.cells) ∧ Q ((((w.alloc (.cells l.cells.toArray 29)).alloc (.cells (prtCells (f1, f2)).toArray 31)).alloc (.cells p.cells.toArray 34)).alloc (.cells q.cells.toArray 34)) :=
    ⟨fun W => Below w.heap.size w W ∧ Whole W w.heap.size 29 l.cells ∧ Whole W (w.heap.size + 1) 31 (prtCells (f1, f2)) ∧ Whole W (w.heap.size + 1 + 1) 34 p.cells ∧ Whole W (w.heap.size + 1 + 1 + 1) 34 q.cells, Lib.hid ((Closed.below w).and ((Closed.whole _ _ _).and ((Closed.whole _ _ _).and ((Closed.whole _ _ _).and (Closed.whole _ _ _))))), Lib.hid fun _ h => h.1, Lib.hid fun _ h => h.2.1, Lib.hid fun _ h => h.2.2.1, Lib.hid fun _ h => h.2.2.2.1, Lib.hid fun _ h => h.2.2.2.2, (below3 w _ _ _).alloc (by simp; omega) _, ((Whole.new w _ l.cells).alloc _).alloc _ |>.alloc _, ((Whole.new_at _ _ (prtCells (f1, f2)) _ (by simp)).alloc _).alloc _, (Whole.new_at _ _ p.cells _ (by simp)).alloc _, Whole.new_at _ _ q.cells _ (by simp)⟩
  have HTW : Hid (∀ W, Q W → Shapes W ∧ Lies l W) := Lib.hid fun W hW => ⟨Shapes.closed _ _ hT (HQb.out W hW), Lies.closed l _ _ hL (HQb.out W hW)⟩
  have HPW : Hid (∀ W, Q W → PLies p W ∧ PLies q W) := Lib.hid fun W hW => ⟨PLies.closed _ _ _ hp (HQb.out W hW), PLies.closed _ _ _ hq' (HQb.out W hW)⟩
  have KW := Lib.hid (fun W hW => wakes12_P (P := Q) (w := W) HQ.out (fun W hW => (HTW.out W hW).1) hW)
  obtain ⟨g, hg⟩ : ∃ g, greatV l = g := ⟨_, rfl⟩
  obtain ⟨rt, hrt⟩ : ∃ r, rightT l = r := ⟨_, rfl⟩
  obtain ⟨gp, hgp⟩ : ∃ r, great12 [p, q] = r := ⟨_, rfl⟩
  obtain ⟨ga, hga⟩ : ∃ r, goesL l (f1, f2) p.ss = r := ⟨_, rfl⟩
  obtain ⟨gb, hgb⟩ : ∃ r, goesL l (f1, f2) q.ss = r := ⟨_, rfl⟩
  have KG := Lib.hid (fun W hW => great_P (P := Q) (w := W) HQ.out (fun W hW => (HTW.out W hW).2) hg hW)
  have KR := Lib.hid (fun W hW => keepR HQ.out (rightRT_any (w := W) (HTW.out W hW).2 hrt) hW)
  have KA := Lib.hid (fun W hW => keepR HQ.out (goesR_any (w := W) (HTW.out W hW).2 f1 f2 p.c (HPW.out W hW).1.row (HPW.out W hW).1.len hga) hW)
  have KB := Lib.hid (fun W hW => keepR HQ.out (goesR_any (w := W) (HTW.out W hW).2 f1 f2 q.c (HPW.out W hW).2.row (HPW.out W hW).2.len hgb) hW)
  have KGP : Hid (∀ W, Q W → ∀ g', Whole W g' 34 (Pth.cells p ++ Pth.cells q) → Calls Tryd.prog 7 #[.slice (some ⟨g', 0, none⟩) 2 2] W fun e w' => e = .returned (.bool gp) ∧ Q w') := Lib.hid fun W hW g' hg' => keepR HQ.out (great12_any (ps := [p, q]) 2 ⟨by simpa using hg'.row hg'.lt, fun x hx => by
      simp only [List.mem_cons, List.not_mem_nil, or_false] at hx
      rcases hx with rfl | rfl
      · exact (HPW.out W hW).1
      · exact (HPW.out W hW).2⟩ (by simp) hgp) hW
  have HGP := Lib.hid hgp
  have HGA := Lib.hid hga
  have HGB := Lib.hid hgb
  clear hT hL hp hq' hg hrt hgp hga hgb
  go_enter Tryd.func3, Tryd.ntmps3
  have m0 := HQl.out _ hq
  have x0 := m0.cell_at 0 rfl
  have x1 := m0.cell_at 1 rfl
  have x2 := m0.cell_at 2 rfl
  have x3 := m0.cell_at 3 rfl
  have x4 := m0.cell_at 4 rfl
  have x5 := m0.cell_at 5 rfl
  have x6 := m0.cell_at 6 rfl
  have x7 := m0.cell_at 7 rfl
  have x8 := m0.cell_at 8 rfl
  have x9 := m0.cell_at 9 rfl
  have x10 := m0.cell_at 10 rfl
  clear m0
  have m0 := HQf.out _ hq
  have f0 := m0.cell_at 0 rfl
  have f1 := m0.cell_at 1 rfl
  clear m0
  have m0 := HQa.out _ hq
  have y0 := m0.cell_at 0 rfl
  have y1 := m0.cell_at 1 rfl
  have y2 := m0.cell_at 2 rfl
  clear m0
  have m0 := HQc.out _ hq
  have z0 := m0.cell_at 0 rfl
  have z1 := m0.cell_at 1 rfl
  have z2 := m0.cell_at 2 rfl
  clear m0
  go_wp2_with fail
  refine (KG.out _ hq).mono ?_
  clear hq x0 x1 x2 x3 x4 x5 x6 x7 x8 x9 x10 f0 f1 y0 y1 y2 z0 z1 z2
  rintro e w1 ⟨rfl, hq⟩
  cases g
  rotate_left
  · go_wp2_with fail
    refine (KW.out _ hq).mono ?_
    clear hq
    rintro e wz ⟨rfl, hq⟩
    go_wp2_with fail
    go_ret
    exact ⟨rfl, HQb.out _ hq⟩
  have m0 := HQl.out _ hq
  have x0 := m0.cell_at 0 rfl
  have x1 := m0.cell_at 1 rfl
  have x2 := m0.cell_at 2 rfl
  have x3 := m0.cell_at 3 rfl
  have x4 := m0.cell_at 4 rfl
  have x5 := m0.cell_at 5 rfl
  have x6 := m0.cell_at 6 rfl
  have x7 := m0.cell_at 7 rfl
  have x8 := m0.cell_at 8 rfl
  have x9 := m0.cell_at 9 rfl
  have x10 := m0.cell_at 10 rfl
  clear m0
  have m0 := HQf.out _ hq
  have f0 := m0.cell_at 0 rfl
  have f1 := m0.cell_at 1 rfl
  clear m0
  have m0 := HQa.out _ hq
  have y0 := m0.cell_at 0 rfl
  have y1 := m0.cell_at 1 rfl
  have y2 := m0.cell_at 2 rfl
  clear m0
  have m0 := HQc.out _ hq
  have z0 := m0.cell_at 0 rfl
  have z1 := m0.cell_at 1 rfl
  have z2 := m0.cell_at 2 rfl
  clear m0
  go_wp2_with fail
  refine (KR.out _ hq).mono ?_
  clear hq x0 x1 x2 x3 x4 x5 x6 x7 x8 x9 x10 f0 f1 y0 y1 y2 z0 z1 z2
  rintro e w2 ⟨rfl, hq⟩
  cases rt
  · go_wp2_with fail
    refine (KW.out _ hq).mono ?_
    clear hq
    rintro e wz ⟨rfl, hq⟩
    go_wp2_with fail
    go_ret
    exact ⟨rfl, HQb.out _ hq⟩
  have m0 := HQl.out _ hq
  have x0 := m0.cell_at 0 rfl
  have x1 := m0.cell_at 1 rfl
  have x2 := m0.cell_at 2 rfl
  have x3 := m0.cell_at 3 rfl
  have x4 := m0.cell_at 4 rfl
  have x5 := m0.cell_at 5 rfl
  have x6 := m0.cell_at 6 rfl
  have x7 := m0.cell_at 7 rfl
  have x8 := m0.cell_at 8 rfl
  have x9 := m0.cell_at 9 rfl
  have x10 := m0.cell_at 10 rfl
  clear m0
  have m0 := HQf.out _ hq
  have f0 := m0.cell_at 0 rfl
  have f1 := m0.cell_at 1 rfl
  clear m0
  have m0 := HQa.out _ hq
  have y0 := m0.cell_at 0 rfl
  have y1 := m0.cell_at 1 rfl
  have y2 := m0.cell_at 2 rfl
  clear m0
  have m0 := HQc.out _ hq
  have z0 := m0.cell_at 0 rfl
  have z1 := m0.cell_at 1 rfl
  have z2 := m0.cell_at 2 rfl
  clear m0
  obtain ⟨W3, hW3⟩ : ∃ W3, w2.alloc (.cells #[.int .i64 p.s, .int .i64 p.x, .slice p.A p.ss.length p.c, .int .i64 q.s, .int .i64 q.x, .slice q.A q.ss.length q.c] 34) = W3 := ⟨_, rfl⟩
  have hq3 : Q W3 := by rw [← hW3]; exact HQ.out _ _ hq (below1 _ _)
  have hg3 : Whole W3 w2.heap.size 34 (Pth.cells p ++ Pth.cells q) := by rw [← hW3]; exact Whole.new _ _ [_, _, _, _, _, _]
  have K3 := Lib.hid (KGP.out W3 hq3 _ hg3)
  clear hq3 hg3 hq KGP
  go_wp2_with fail
  try rw [hW3]
  refine K3.out.mono ?_
  clear K3 hW3 x0 x1 x2 x3 x4 x5 x6 x7 x8 x9 x10 f0 f1 y0 y1 y2 z0 z1 z2
  rintro e w3 ⟨rfl, hq⟩
  cases gp
  rotate_left
  · go_wp2_with fail
    refine (KW.out _ hq).mono ?_
    clear hq
    rintro e wz ⟨rfl, hq⟩
    go_wp2_with fail
    go_ret
    exact ⟨rfl, HQb.out _ hq⟩
  have HLS := Lib.hid (great12_no.1 HGP.out)
  have m0 := HQl.out _ hq
  have x0 := m0.cell_at 0 rfl
  have x1 := m0.cell_at 1 rfl
  have x2 := m0.cell_at 2 rfl
  have x3 := m0.cell_at 3 rfl
  have x4 := m0.cell_at 4 rfl
  have x5 := m0.cell_at 5 rfl
  have x6 := m0.cell_at 6 rfl
  have x7 := m0.cell_at 7 rfl
  have x8 := m0.cell_at 8 rfl
  have x9 := m0.cell_at 9 rfl
  have x10 := m0.cell_at 10 rfl
  clear m0
  have m0 := HQf.out _ hq
  have f0 := m0.cell_at 0 rfl
  have f1 := m0.cell_at 1 rfl
  clear m0
  have m0 := HQa.out _ hq
  have y0 := m0.cell_at 0 rfl
  have y1 := m0.cell_at 1 rfl
  have y2 := m0.cell_at 2 rfl
  clear m0
  have m0 := HQc.out _ hq
  have z0 := m0.cell_at 0 rfl
  have z1 := m0.cell_at 1 rfl
  have z2 := m0.cell_at 2 rfl
  clear m0
  go_wp2_with fail
  refine (KA.out _ hq).mono ?_
  clear hq x0 x1 x2 x3 x4 x5 x6 x7 x8 x9 x10 f0 f1 y0 y1 y2 z0 z1 z2
  rintro e w4 ⟨rfl, hq⟩
  cases ga
  · go_wp2_with fail
    refine (KW.out _ hq).mono ?_
    clear hq
    rintro e wz ⟨rfl, hq⟩
    go_wp2_with fail
    go_ret
    exact ⟨rfl, HQb.out _ hq⟩
  have m0 := HQl.out _ hq
  have x0 := m0.cell_at 0 rfl
  have x1 := m0.cell_at 1 rfl
  have x2 := m0.cell_at 2 rfl
  have x3 := m0.cell_at 3 rfl
  have x4 := m0.cell_at 4 rfl
  have x5 := m0.cell_at 5 rfl
  have x6 := m0.cell_at 6 rfl
  have x7 := m0.cell_at 7 rfl
  have x8 := m0.cell_at 8 rfl
  have x9 := m0.cell_at 9 rfl
  have x10 := m0.cell_at 10 rfl
  clear m0
  have m0 := HQf.out _ hq
  have f0 := m0.cell_at 0 rfl
  have f1 := m0.cell_at 1 rfl
  clear m0
  have m0 := HQa.out _ hq
  have y0 := m0.cell_at 0 rfl
  have y1 := m0.cell_at 1 rfl
  have y2 := m0.cell_at 2 rfl
  clear m0
  have m0 := HQc.out _ hq
  have z0 := m0.cell_at 0 rfl
  have z1 := m0.cell_at 1 rfl
  have z2 := m0.cell_at 2 rfl
  clear m0
  go_wp2_with fail
  refine (KB.out _ hq).mono ?_
  clear hq x0 x1 x2 x3 x4 x5 x6 x7 x8 x9 x10 f0 f1 y0 y1 y2 z0 z1 z2
  rintro e w5 ⟨rfl, hq⟩
  cases gb
  · go_wp2_with fail
    refine (KW.out _ hq).mono ?_
    clear hq
    rintro e wz ⟨rfl, hq⟩
    go_wp2_with fail
    go_ret
    exact ⟨rfl, HQb.out _ hq⟩
  obtain ⟨v, hv⟩ : ∃ v, cmpR (rowV l p.ss) (rowV l q.ss) = v := ⟨_, rfl⟩
  obtain ⟨d, hd⟩ : ∃ d, decide (p.ss = q.ss) = d := ⟨_, rfl⟩
  have hpl : p.ss.length ≤ 1000 := Nat.le_trans (HLS.out.2 p (by simp)) (by omega)
  have hql : q.ss.length ≤ 1000 := Nat.le_trans (HLS.out.2 q (by simp)) (by omega)
  have KC := Lib.hid (fun W hW => keepR HQ.out (cmp_any (w := W) (HTW.out W hW).1 (HTW.out W hW).2 (HPW.out W hW).1 (HPW.out W hW).2 hpl hql hv) hW)
  have KD := Lib.hid (fun W hW => keepR HQ.out (cmp_any (w := W) (r := -v) (HTW.out W hW).1 (HTW.out W hW).2 (HPW.out W hW).2 (HPW.out W hW).1 hql hpl (by rw [cmpR_neg, hv])) hW)
  have KE := Lib.hid (fun W hW => keepR HQ.out (cmp_any (w := W) (r := 0) (HTW.out W hW).1 (HTW.out W hW).2 (HPW.out W hW).1 (HPW.out W hW).1 hpl hpl (cmpR_self _)) hW)
  have KS := Lib.hid (fun W hW => keepR HQ.out (stepsR_B (w := W) p.c q.c (HPW.out W hW).1.row (HPW.out W hW).2.row (HPW.out W hW).1.len hd) hW)
  have hv0 : (v == 0) = d := by
    rw [← hd, Bool.eq_iff_iff, beq_iff_eq, decide_eq_true_eq, ← hv]
    exact row_inj HGA.out HGB.out
  have hvb : -1 ≤ v ∧ v ≤ 1 := by rw [← hv]; exact cmpR_bounds _ _
  have rn : IntKind.i64.wrap (-v) = -v := by rw [IntKind.wrap_i64]; omega
  have HV0 := Lib.hid hv0
  clear hv hd hpl hql hvb hv0
  have m0 := HQl.out _ hq
  have x0 := m0.cell_at 0 rfl
  have x1 := m0.cell_at 1 rfl
  have x2 := m0.cell_at 2 rfl
  have x3 := m0.cell_at 3 rfl
  have x4 := m0.cell_at 4 rfl
  have x5 := m0.cell_at 5 rfl
  have x6 := m0.cell_at 6 rfl
  have x7 := m0.cell_at 7 rfl
  have x8 := m0.cell_at 8 rfl
  have x9 := m0.cell_at 9 rfl
  have x10 := m0.cell_at 10 rfl
  clear m0
  have m0 := HQf.out _ hq
  have f0 := m0.cell_at 0 rfl
  have f1 := m0.cell_at 1 rfl
  clear m0
  have m0 := HQa.out _ hq
  have y0 := m0.cell_at 0 rfl
  have y1 := m0.cell_at 1 rfl
  have y2 := m0.cell_at 2 rfl
  clear m0
  have m0 := HQc.out _ hq
  have z0 := m0.cell_at 0 rfl
  have z1 := m0.cell_at 1 rfl
  have z2 := m0.cell_at 2 rfl
  clear m0
  go_wp2_with fail
  refine (KC.out _ hq).mono ?_
  clear hq x0 x1 x2 x3 x4 x5 x6 x7 x8 x9 x10 f0 f1 y0 y1 y2 z0 z1 z2
  rintro e w6 ⟨rfl, hq⟩
  have hv0 := HV0.out
  have m0 := HQl.out _ hq
  have x0 := m0.cell_at 0 rfl
  have x1 := m0.cell_at 1 rfl
  have x2 := m0.cell_at 2 rfl
  have x3 := m0.cell_at 3 rfl
  have x4 := m0.cell_at 4 rfl
  have x5 := m0.cell_at 5 rfl
  have x6 := m0.cell_at 6 rfl
  have x7 := m0.cell_at 7 rfl
  have x8 := m0.cell_at 8 rfl
  have x9 := m0.cell_at 9 rfl
  have x10 := m0.cell_at 10 rfl
  clear m0
  have m0 := HQf.out _ hq
  have f0 := m0.cell_at 0 rfl
  have f1 := m0.cell_at 1 rfl
  clear m0
  have m0 := HQa.out _ hq
  have y0 := m0.cell_at 0 rfl
  have y1 := m0.cell_at 1 rfl
  have y2 := m0.cell_at 2 rfl
  clear m0
  have m0 := HQc.out _ hq
  have z0 := m0.cell_at 0 rfl
  have z1 := m0.cell_at 1 rfl
  have z2 := m0.cell_at 2 rfl
  clear m0
  go_wp2_with fail
  refine (KS.out _ hq).mono ?_
  clear hq x0 x1 x2 x3 x4 x5 x6 x7 x8 x9 x10 f0 f1 y0 y1 y2 z0 z1 z2
  rintro e w7 ⟨rfl, hq⟩
  clear hv0
  have m0 := HQl.out _ hq
  have x0 := m0.cell_at 0 rfl
  have x1 := m0.cell_at 1 rfl
  have x2 := m0.cell_at 2 rfl
  have x3 := m0.cell_at 3 rfl
  have x4 := m0.cell_at 4 rfl
  have x5 := m0.cell_at 5 rfl
  have x6 := m0.cell_at 6 rfl
  have x7 := m0.cell_at 7 rfl
  have x8 := m0.cell_at 8 rfl
  have x9 := m0.cell_at 9 rfl
  have x10 := m0.cell_at 10 rfl
  clear m0
  have m0 := HQf.out _ hq
  have f0 := m0.cell_at 0 rfl
  have f1 := m0.cell_at 1 rfl
  clear m0
  have m0 := HQa.out _ hq
  have y0 := m0.cell_at 0 rfl
  have y1 := m0.cell_at 1 rfl
  have y2 := m0.cell_at 2 rfl
  clear m0
  have m0 := HQc.out _ hq
  have z0 := m0.cell_at 0 rfl
  have z1 := m0.cell_at 1 rfl
  have z2 := m0.cell_at 2 rfl
  clear m0
  go_wp2_with fail
  refine (KD.out _ hq).mono ?_
  clear hq x0 x1 x2 x3 x4 x5 x6 x7 x8 x9 x10 f0 f1 y0 y1 y2 z0 z1 z2
  rintro e w8 ⟨rfl, hq⟩
  have m0 := HQl.out _ hq
  have x0 := m0.cell_at 0 rfl
  have x1 := m0.cell_at 1 rfl
  have x2 := m0.cell_at 2 rfl
  have x3 := m0.cell_at 3 rfl
  have x4 := m0.cell_at 4 rfl
  have x5 := m0.cell_at 5 rfl
  have x6 := m0.cell_at 6 rfl
  have x7 := m0.cell_at 7 rfl
  have x8 := m0.cell_at 8 rfl
  have x9 := m0.cell_at 9 rfl
  have x10 := m0.cell_at 10 rfl
  clear m0
  have m0 := HQf.out _ hq
  have f0 := m0.cell_at 0 rfl
  have f1 := m0.cell_at 1 rfl
  clear m0
  have m0 := HQa.out _ hq
  have y0 := m0.cell_at 0 rfl
  have y1 := m0.cell_at 1 rfl
  have y2 := m0.cell_at 2 rfl
  clear m0
  have m0 := HQc.out _ hq
  have z0 := m0.cell_at 0 rfl
  have z1 := m0.cell_at 1 rfl
  have z2 := m0.cell_at 2 rfl
  clear m0
  go_wp2_with fail
  refine (KE.out _ hq).mono ?_
  clear hq x0 x1 x2 x3 x4 x5 x6 x7 x8 x9 x10 f0 f1 y0 y1 y2 z0 z1 z2
  rintro e w9 ⟨rfl, hq⟩
  go_wp2_with fail
  refine (KW.out _ hq).mono ?_
  clear hq
  rintro e wz ⟨rfl, hq⟩
  go_wp2_with fail
  go_ret
  exact ⟨rfl, HQb.out _ hq⟩
end Go.Proofs.YtiknjkgioiknnaaDoor
