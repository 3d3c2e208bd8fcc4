/- Package route: Goes. -/
import Derived.RangeFuncNested
import Derived.RangeFuncBound
import Derived.RangeFuncCalls
import Derived.RangeFuncLeaves
import Derived.RangeFuncBox
import Derived.Shelf.Abstract
import Derived.Shelf.RegionOpen
import Derived.WalkKit
import Derived.OwnWalkIn
import Derived.TacticsInMore
import Derived.LoopNIn
import Derived.LoopIn
import Derived.WalkMore
import Derived.Test.YtlfpkileblmhoaaGreatDoorQRouA
import Derived.Test.YtlfpkileblmhoaaGreatDoorQRouB
import Derived.Test.YtlfpkileblmhoaaGreatDoorQC
import Derived.Test.YtlfpkileblmhoaaGreatDoorQLayTellsM
namespace Go.Proofs.YtlfpkileblmhoaaGreatDoor
open Go.RowKit Go.Shelf
set_option linter.unusedVariables false
set_option linter.unusedSimpArgs false

attribute [local go_sem] Oper.semAt_some

theorem wpIn_scope_fwd11 {n : Nat} {P : Program} {c rest : Code} {l : Nat} {Q : Exit → Act → World → Prop} {a : Act} {w : World} (hf : findLabel c l = some rest) (h : c.wpIn Fence.wide n P (Exit.fwd P l rest Q) a w) : (Code.scope c).wpIn Fence.wide n P Q a w :=
  wpIn_wide.2 (wp_scope_fwd hf (wpIn_wide.1 h))
set_option maxRecDepth 100000 in
set_option maxHeartbeats 8000000 in
theorem goes11_any {l : Lay} {w : World} (hT : Shapes w) (hL : Lies l w) {ss : List (Int × Int × Int)} {A : Option Addr} (c : Nat) (hR : Row w w.heap.size A (ss.flatMap stpCells)) (hn : (ss.length : Int) ≤ 9223372036854775807) {r : Bool} (hr : goesS l ss = r) :
    Calls Tryz.prog 14 #[l.val, .slice A ss.length c] w fun e w' => e = .returned (.bool r) ∧ Below w.heap.size w w' := by
  obtain ⟨Q, HQ, HQb, HQl, HQ0, hq⟩ : ∃ Q : World → Prop, Hid (Closed Q) ∧ Hid (∀ W, Q W → Below w.heap.size w W) ∧ Hid (∀ W, Q W → Whole W w.heap.size 29 l.cells) ∧ Hid (∀ W, Below w.heap.size w W ∧ Whole W w.heap.size 29 l.cells → Q W) ∧ Q (w.alloc (.cells l.cells.toArray 29)) :=
    ⟨fun W => Below w.heap.size w W ∧ Whole W w.heap.size 29 l.cells, Lib.hid ((Closed.below w).and (Closed.whole _ _ _)), Lib.hid fun _ h => h.1, Lib.hid fun _ h => h.2, Lib.hid fun _ h => h, below1 w _, Whole.new w _ l.cells⟩
  have HTW : Hid (∀ W, Q W → Shapes W ∧ Lies l W) := Lib.hid fun W hW => ⟨Shapes.closed _ _ hT (HQb.out W hW), Lies.closed l _ _ hL (HQb.out W hW)⟩
  have HRW : Hid (∀ W, Q W → Row W W.heap.size A (ss.flatMap stpCells)) := Lib.hid fun W hW => (hR.on (HQb.out W hW))
  have HR0 := Lib.hid hR
  have HRr : Hid ((ss.all (fun x => stepV l x.1 x.2.1 x.2.2) && (neighL ss).all (hangS l)) = r) := Lib.hid (by rw [← hr, goesS_parts])
  clear hr hR hT hL
  refine (callsIn_wide (n := 5)).1 ?_
  refine callsIn_of_wp_marks Tryz.func14 rfl trivial ?_ rfl
  simp only [Tryz.ntmps14, List.size_toArray, List.length_cons, List.length_nil, Nat.reduceAdd, Nat.reduceSub, Array.replicate_succ, Array.replicate_zero, List.push_toArray, List.append_toArray, List.nil_append, List.cons_append]
  gi_wp2_with fail
  refine wpIn_scope_fwd11 (l := 0) rfl ?_
  gi_wp2_with fail
  gi_loopw [13] (fun i wr => ∃ j : Nat, j ≤ ss.length ∧ i = .int .i64 j ∧ Q wr ∧ Hid (NoneUp (fun x => !stepV l x.1 x.2.1 x.2.2) ss j)) (fun i _ => ss.length - (intOf i).toNat)
  case atStart => exact ⟨0, by omega, rfl, hq, Lib.hid (NoneUp.zero _ _)⟩
  case round =>
    clear hq
    obtain ⟨j, hj, rfl, hq, HNo⟩ := hrel
    obtain ⟨wa, rfl⟩ : ∃ W, W = wr := ⟨wr, rfl⟩
    by_cases hlt : j < ss.length
    · have hlt' : (j : Int) < ss.length := by omega
      obtain ⟨⟨x1, x2, x3⟩, hx⟩ : ∃ x, ss[j]? = some x := ⟨_, List.getElem?_eq_getElem hlt⟩
      have HX := Lib.hid hx
      obtain ⟨b, off, rfl, _, hc0, hc⟩ := (HRW.out _ hq).nth (n := 3) (fun _ => rfl) (by omega) hx
      have c0 := hc0 j _ _ hx rfl
      have c1 := hc j _ 1 _ hx rfl
      have c2 := hc j _ 2 _ hx rfl
      obtain ⟨gs, hgs⟩ : ∃ gs, wa.heap.size = gs := ⟨_, rfl⟩
      obtain ⟨W1, hW1⟩ : ∃ W1, wa.alloc (.cells #[.int .i64 x1, .int .i64 x2, .int .i64 x3] 50) = W1 := ⟨_, rfl⟩
      have hq1 : Q W1 := by rw [← hW1]; exact HQ.out _ _ hq (below1 _ _)
      have hb1 : Whole W1 gs 50 (stpCells (x1, x2, x3)) := by rw [← hW1]; exact Whole.new_at _ _ (stpCells (x1, x2, x3)) _ hgs.symm
      obtain ⟨st, hst⟩ : ∃ st, stepV l x1 x2 x3 = st := ⟨_, rfl⟩
      have HST := Lib.hid hst
      have KS := Lib.hid (keepR HQ.out (step_B (HTW.out _ hq1).1 (HTW.out _ hq1).2 x1 x2 x3 rfl hst) hq1)
      generalize wayK (kindV l x1) x2 x3 = wy at *
      have m0 := HQl.out _ hq1
      have z0 := m0.cell_at 0 rfl
      have z1 := m0.cell_at 1 rfl
      have z2 := m0.cell_at 2 rfl
      have z3 := m0.cell_at 3 rfl
      have z4 := m0.cell_at 4 rfl
      have z5 := m0.cell_at 5 rfl
      have z6 := m0.cell_at 6 rfl
      have z7 := m0.cell_at 7 rfl
      have z8 := m0.cell_at 8 rfl
      have z9 := m0.cell_at 9 rfl
      have z10 := m0.cell_at 10 rfl
      clear m0
      have m0 := hb1
      have v0 := m0.cell_at 0 rfl
      have v1 := m0.cell_at 1 rfl
      have v2 := m0.cell_at 2 rfl
      clear m0
      clear hc0 hc hx hst hq hq1 hb1
      gi_wp2_with fail
      refine ⟨trivial, (callsIn_wide.2 KS.out).mono ?_⟩
      clear KS v0 v1 v2 c0 c1 c2 z0 z1 z2 z3 z4 z5 z6 z7 z8 z9 z10
      rintro e w2 ⟨rfl, hq⟩
      cases st
      · have HF : Hid (false = r) := Lib.hid (by
          rw [← HRr.out, show ss.all (fun x => stepV l x.1 x.2.1 x.2.2) = false from List.all_eq_false.2 ⟨(x1, x2, x3), List.mem_of_getElem? HX.out, by simp [HST.out]⟩]
          rfl)
        gi_wp2_with fail
        refine wpIn_wide.2 ?_
        go_step3
        simp +zetaDelta only [Exit.inBlock, Exit.then, fwd_goto]
        refine ⟨trivial, ?_⟩
        go_wp2_with fail
        rw [Exit.noGoto_ret]
        exact ⟨_, results_tmp rfl _ _ _, by rw [← HF.out]; rfl, HQb.out _ hq⟩
      · have HN := Lib.hid (HNo.out.succ HX.out (by simp [HST.out]))
        gi_wp2_with fail
        go_roundw
        case rel => exact ⟨j + 1, hlt, by go_num, hq, HN⟩
        case measure => simp [intOf]; omega
    · obtain rfl : j = ss.length := by omega
      have HALL : Hid (ss.all (fun x => stepV l x.1 x.2.1 x.2.2) = true) := Lib.hid (by
        have := HNo.out.any
        rw [List.all_eq_true]
        intro x hx
        rw [List.any_eq_false] at this
        have := this x hx
        simpa using this)
      have HHR : Hid ((neighL ss).all (hangS l) = r) := Lib.hid (by rw [← HRr.out, HALL.out, Bool.true_and])
      gi_wp2_with fail
      refine ⟨trivial, (callsIn_wide.2 (neighbours_any _ _ _ _)).mono ?_⟩
      rintro e w2 ⟨rfl, rfl⟩
      gi_wp2_with fail
      obtain ⟨h, hh⟩ : ∃ h, wa.heap.size = h := ⟨_, rfl⟩
      obtain ⟨W0, hW0⟩ : ∃ W0, wa.alloc (.cells #[.slice A ss.length c] 30) = W0 := ⟨_, rfl⟩
      have hsz : W0.heap.size = h + 1 := by rw [← hW0]; simp; omega
      have hwh : w.heap.size < h := by have := (HQl.out _ hq).lt; omega
      have hq0 : Q W0 := by rw [← hW0]; exact HQ.out _ _ hq (below1 _ _)
      have hbx : Whole W0 h 30 [.slice A ss.length c] := by rw [← hW0]; exact Whole.new_at _ _ [_] _ hh.symm
      rw [hW0, hh]
      have hit := neigh_iter (n0 := w.heap.size) hbx (HR0.out.below (HQb.out _ hq0)) hn
      clear hW0 hbx HNo HALL hq
      refine range_iter (gf := 56) rfl (enters_of Tryz.func56 (by kernel_rfl) rfl) hit (Keeps.refl _ _) (fun k hk => by rcases hk with hk | hk <;> omega) (fun _ => rfl) (by omega)
        (fun _ => False) (fun k hk => hk.elim) (fun k hk => hk.elim)
        (fun j W => Whole W w.heap.size 29 l.cells ∧ (Below w.heap.size w W ∧ Hid (NoneUp (fun x => !hangS l x) (neighL ss) j)))
        (fun cd W => Below w.heap.size w W ∧ (Hid (false = r) ∧ cd = .goto 0))
        (OwnFrom.and (Own.from (fun s X Y row hs hg hr => hs.abides hg hr) _) (OwnFrom.and (ownFrom_below (Nat.le_refl _) (by omega)) (ownFrom_pure _ _)))
        (fun cd => OwnFrom.and (ownFrom_below (Nat.le_refl _) (by omega)) (ownFrom_pure _ _))
        ⟨HQl.out _ hq0, HQb.out _ hq0, Lib.hid (NoneUp.zero _ _)⟩
        (fun _ x a' W => ∃ g1 g2, Whole W g1 50 (stpCells x.1) ∧ (Whole W g2 50 (stpCells x.2) ∧ a' = { tmps := #[l.val, .slice A ss.length c, .pointer (some ⟨w.heap.size, 0, none⟩), undef, .bool false, undef, u6, u7, u8, .pointer (some ⟨g1, 0, none⟩), .pointer (some ⟨g2, 0, none⟩), .slice A ss.length c, .int .i64 ss.length, .int .i64 ss.length, .bool false, u15, u16, u17, u18, u19, u20, u21, u22, u23, u24, u25, .slice A ss.length c, .func (.func 56) #[] #[.pointer (some ⟨h, 0, none⟩)], stpV x.1.1 x.1.2.1 x.1.2.2, stpV x.2.1 x.2.2.1 x.2.2.2, undef, undef, undef, undef, undef, undef, undef], defers := [] }))
        (fun _ x a' => Own.from (fun s X Y row hs hg hr => by obtain ⟨g1, g2, h1, h2, h3⟩ := hs; exact ⟨g1, g2, h1.abides hg hr, h2.abides hg hr, h3⟩) _)
        ?assign ?body ?done ?stop
      case assign =>
        rintro lr j x W K hx ⟨hI1, hI2, hI3⟩ hK
        have hb := below2 W (.cells (stpCells x.1).toArray 50) (.cells (stpCells x.2).toArray 50)
        have HI3 := Lib.hid hI3
        clear hx hI3
        gi_wp2_with fail
        refine hK _ _ ⟨⟨rfl, rfl, rfl⟩, hb.size, fun i o ho _ => (hb.block i (Array.getElem?_eq_some_iff.1 ho).1).trans ho⟩ ⟨hI1.below hb hI1.lt, hI2.trans (hb.mono hI2.size), HI3⟩ ⟨W.heap.size, W.heap.size + 1, (Whole.new W _ (stpCells x.1)).alloc _, Whole.new_at _ _ (stpCells x.2) _ (by simp), rfl⟩
      case body =>
        rintro lr j x a' Wb hl hx ⟨hI1, hI2, hI3⟩ ⟨g1, g2, hg1, hg2, rfl⟩
        have HX := Lib.hid hx
        have HI3 := Lib.hid hI3
        obtain ⟨⟨a1, a2, a3⟩, b1, b2, b3⟩ := x
        simp only at hg1 hg2
        obtain ⟨R, HRc, HRq, HRg, hR⟩ : ∃ R : World → Prop, Hid (Closed R) ∧ Hid (∀ W, R W → Q W) ∧ Hid (∀ W, R W → Whole W g1 50 (stpCells (a1, a2, a3)) ∧ Whole W g2 50 (stpCells (b1, b2, b3))) ∧ R Wb :=
          ⟨fun W => Q W ∧ (Whole W g1 50 (stpCells (a1, a2, a3)) ∧ Whole W g2 50 (stpCells (b1, b2, b3))), Lib.hid (HQ.out.and ((Closed.whole _ _ _).and (Closed.whole _ _ _))), Lib.hid fun _ h => h.1, Lib.hid fun _ h => h.2, ⟨HQ0.out _ ⟨hI2, hI1⟩, hg1, hg2⟩⟩
        obtain ⟨⟨q1, q2⟩, hbv⟩ : ∃ q, beyondV l a1 a3 = q := ⟨_, rfl⟩
        obtain ⟨d, hd⟩ : ∃ d, decide ((q1, q2) = (b1, b2)) = d := ⟨_, rfl⟩
        have HD : Hid (hangS l ((a1, a2, a3), (b1, b2, b3)) = d) := Lib.hid (by rw [← hd, ← hbv]; rfl)
        have HNQ : Hid (∀ W, (binOp .neq 46 (prtV q1 q2) (prtV b1 b2)).run Tryz.prog W = .ok (.bool (!d)) W) := Lib.hid fun W => by rw [neq_prtD, hd]
        have KB : Hid (∀ W, R W → Calls Tryz.prog 36 #[l.val, prtV a1 a3] W fun e w' => e = .returned (prtV q1 q2) ∧ Below W.heap.size W w') := Lib.hid fun W hW => beyond_B (HTW.out _ (HRq.out _ hW)).1 (HTW.out _ (HRq.out _ hW)).2 a1 a3 hbv
        have HS := Lib.hid (And.intro hI1 hI2)
        clear hx hI1 hI2 hI3 hg1 hg2 hbv hd hit
        gi_wp2_with fail
        have HBS : Hid (∀ W, Below Wb.heap.size Wb W → R W) := Lib.hid (fun W hB => HRc.out _ _ hR hB)
        clear hR
        refine wpIn_normal (region_mixR lr _ (Below Wb.heap.size Wb) [(0, false), (1, false), (2, false), (3, false), (4, false), (5, false), (6, false)] (by kernel_rfl) (by kernel_rfl) (by kernel_rfl) noLetsOut (Below Wb.heap.size Wb) ⟨Closed.below Wb, fun _ h => h⟩ (Below.refl _ _).drew ?_)
        simp only [pickOps, List.getElem?_cons_zero, List.getElem?_cons_succ]
        repeat (first | (refine mix_skip (by rfl) ?_; simp only [Act.put, List.setIfInBounds_toArray, List.set_cons_zero, List.set_cons_succ]) | (refine mix_read _ (by rfl) (fun W hW => by (have hW := HBS.out W hW; obtain ⟨m1, m2⟩ := HRg.out W hW; have m0 := HQl.out _ (HRq.out _ hW); have x0 := m0.cell_at 0 rfl; have x1 := m0.cell_at 1 rfl; have x2 := m0.cell_at 2 rfl; have x3 := m0.cell_at 3 rfl; have x4 := m0.cell_at 4 rfl; have x5 := m0.cell_at 5 rfl; have x6 := m0.cell_at 6 rfl; have x7 := m0.cell_at 7 rfl; have x8 := m0.cell_at 8 rfl; have x9 := m0.cell_at 9 rfl; have x10 := m0.cell_at 10 rfl; have y0 := m1.cell_at 0 rfl; have z0 := m2.cell_at 0 rfl; have y1 := m1.cell_at 1 rfl; have z1 := m2.cell_at 1 rfl; have y2 := m1.cell_at 2 rfl; have z2 := m2.cell_at 2 rfl; have hnq := HNQ.out; clear m0 m1 m2; go_simp; first | done | with_reducible rfl)) ?_; simp only [Act.put, List.setIfInBounds_toArray, List.set_cons_zero, List.set_cons_succ]) | (refine mix_call _ _ _ (by rfl) (fun W hW => by (have hW := HBS.out W hW; obtain ⟨m1, m2⟩ := HRg.out W hW; have m0 := HQl.out _ (HRq.out _ hW); have x0 := m0.cell_at 0 rfl; have x1 := m0.cell_at 1 rfl; have x2 := m0.cell_at 2 rfl; have x3 := m0.cell_at 3 rfl; have x4 := m0.cell_at 4 rfl; have x5 := m0.cell_at 5 rfl; have x6 := m0.cell_at 6 rfl; have x7 := m0.cell_at 7 rfl; have x8 := m0.cell_at 8 rfl; have x9 := m0.cell_at 9 rfl; have x10 := m0.cell_at 10 rfl; have y0 := m1.cell_at 0 rfl; have z0 := m2.cell_at 0 rfl; have y1 := m1.cell_at 1 rfl; have z1 := m2.cell_at 1 rfl; have y2 := m1.cell_at 2 rfl; have z2 := m2.cell_at 2 rfl; have hnq := HNQ.out; clear m0 m1 m2; go_simp; first | done | rfl)) (fun W hW => KB.out W (HBS.out W hW)) ?_; simp only [Act.put, List.setIfInBounds_toArray, List.set_cons_zero, List.set_cons_succ]) | (refine mix_call _ _ _ (by rfl) (fun W hW => by (have hW := HBS.out W hW; obtain ⟨m1, m2⟩ := HRg.out W hW; have m0 := HQl.out _ (HRq.out _ hW); have x0 := m0.cell_at 0 rfl; have x1 := m0.cell_at 1 rfl; have x2 := m0.cell_at 2 rfl; have x3 := m0.cell_at 3 rfl; have x4 := m0.cell_at 4 rfl; have x5 := m0.cell_at 5 rfl; have x6 := m0.cell_at 6 rfl; have x7 := m0.cell_at 7 rfl; have x8 := m0.cell_at 8 rfl; have x9 := m0.cell_at 9 rfl; have x10 := m0.cell_at 10 rfl; have y0 := m1.cell_at 0 rfl; have z0 := m2.cell_at 0 rfl; have y1 := m1.cell_at 1 rfl; have z1 := m2.cell_at 1 rfl; have y2 := m1.cell_at 2 rfl; have z2 := m2.cell_at 2 rfl; have hnq := HNQ.out; clear m0 m1 m2; go_simp; first | done | rfl)) (fun W hW => leaves11_any a1 a2 a3 W) ?_; simp only [Act.put, List.setIfInBounds_toArray, List.set_cons_zero, List.set_cons_succ]) | (refine mix_call _ _ _ (by rfl) (fun W hW => by (have hW := HBS.out W hW; obtain ⟨m1, m2⟩ := HRg.out W hW; have m0 := HQl.out _ (HRq.out _ hW); have x0 := m0.cell_at 0 rfl; have x1 := m0.cell_at 1 rfl; have x2 := m0.cell_at 2 rfl; have x3 := m0.cell_at 3 rfl; have x4 := m0.cell_at 4 rfl; have x5 := m0.cell_at 5 rfl; have x6 := m0.cell_at 6 rfl; have x7 := m0.cell_at 7 rfl; have x8 := m0.cell_at 8 rfl; have x9 := m0.cell_at 9 rfl; have x10 := m0.cell_at 10 rfl; have y0 := m1.cell_at 0 rfl; have z0 := m2.cell_at 0 rfl; have y1 := m1.cell_at 1 rfl; have z1 := m2.cell_at 1 rfl; have y2 := m1.cell_at 2 rfl; have z2 := m2.cell_at 2 rfl; have hnq := HNQ.out; clear m0 m1 m2; go_simp; first | done | rfl)) (fun W hW => enters11_any b1 b2 b3 W) ?_; simp only [Act.put, List.setIfInBounds_toArray, List.set_cons_zero, List.set_cons_succ]))
        refine mix_nil (fun W' hW' => ?_)
        have hBd : Below Wb.heap.size Wb W' := hW'
        obtain ⟨hI1, hI2⟩ := HS.out
        clear hW' HBS
        cases d
        · have HF : Hid (false = r) := Lib.hid (by rw [← HHR.out]; exact (List.all_eq_false.2 ⟨_, List.mem_of_getElem? HX.out, by simp [HD.out]⟩).symm)
          gi_wp2_with fail
          refine wpIn_goto ?_
          simp +zetaDelta only [Exit.inBlock, Exit.then]
          exact ⟨Off.below hBd, hI2.trans (hBd.mono hI2.size), HF, rfl⟩
        · have HN := Lib.hid (HI3.out.succ HX.out (by simp [HD.out]))
          gi_wp2_with fail
          exact ⟨Off.below hBd, hI1.below hBd hI1.lt, hI2.trans (hBd.mono hI2.size), HN⟩
      case done =>
        rintro D W hD ⟨hI1, hI2, hI3⟩ hK
        have HF : Hid (true = r) := Lib.hid (by
          rw [← HHR.out, eq_comm, List.all_eq_true]
          intro x hx
          have := hI3.out.any
          rw [List.any_eq_false] at this
          simpa using this x hx)
        clear hI3 hit
        gi_wp2_with fail
        rw [fwd_ret]
        refine ⟨by simp, .inl ⟨_, _, rfl, run_takeDeferred hK, ?_⟩⟩
        exact ⟨_, results_tmp rfl _ _ _, by rw [← HF.out]; rfl, hI2.trans (belowK_b (w := w) (Nat.le_refl _) W D _ _ (by omega) hK rfl rfl)⟩
      case stop =>
        rintro D cc W hD ⟨hI2, HF, rfl⟩ hK
        clear hit
        gi_wp2_with fail
        refine wpIn_wide.2 ?_
        go_step3
        simp +zetaDelta only [Exit.inBlock, Exit.then, fwd_goto]
        refine ⟨trivial, ?_⟩
        go_wp2_with fail
        rw [Exit.noGoto_ret]
        refine ⟨by simp, .inl ⟨_, _, rfl, run_takeDeferred hK, ?_⟩⟩
        exact ⟨_, results_tmp rfl _ _ _, by rw [← HF.out]; rfl, hI2.trans (belowK_b (w := w) (Nat.le_refl _) W D _ _ (by omega) hK rfl rfl)⟩
end Go.Proofs.YtlfpkileblmhoaaGreatDoor
