/- Package beyond: Goes, Over. -/
import Derived.Test.YthjnhigcheakaaaDoorQBeA
import Derived.Test.YthjnhigcheakaaaDoorQC
import Derived.Test.YthjnhigcheakaaaDoorQLayTellsM
namespace Go.Proofs.YthjnhigcheakaaaDoor
open Go.RowKit Go.Shelf
set_option linter.unusedVariables false
set_option linter.unusedSimpArgs false

set_option maxRecDepth 100000 in
set_option maxHeartbeats 8000000 in
theorem goesB_any {l : Lay} {w : World} (hT : Shapes w) (hL : Lies l w) (p1 p2 : Int) {ss : List (Int × Int × Int)} {A : Option Addr} (c : Nat) (hR : Row w w.heap.size A (ss.flatMap stpCells)) (hn : (ss.length : Int) ≤ 9223372036854775807) {r : Bool} (hr : goesL l (p1, p2) ss = r) : Calls Tryd.prog 26 #[l.val, prtV p1 p2, .slice A ss.length c] w fun e w' => e = .returned (.bool r) ∧ Below w.heap.size w w' := by
  obtain ⟨Q, HQ, HQb, HQl, HQ0, hq⟩ : ∃ Q : World → Prop, Hid (Closed Q) ∧ Hid (∀ W, Q W → Below w.heap.size w W) ∧ Hid (∀ W, Q W → Whole W w.heap.size 29 l.cells) ∧ Hid (∀ W, Below w.heap.size w W ∧ Whole W w.heap.size 29 l.cells → Q W) ∧ Q (w.alloc (.cells l.cells.toArray 29)) :=
    ⟨fun W => Below w.heap.size w W ∧ Whole W w.heap.size 29 l.cells, Lib.hid ((Closed.below w).and (Closed.whole _ _ _)), Lib.hid fun _ h => h.1, Lib.hid fun _ h => h.2, Lib.hid fun _ h => h, below1 w _, Whole.new w _ l.cells⟩
  have HTW : Hid (∀ W, Q W → Shapes W ∧ Lies l W) := Lib.hid fun W hW => ⟨Shapes.closed _ _ hT (HQb.out W hW), Lies.closed l _ _ hL (HQb.out W hW)⟩
  have HRW : Hid (∀ W, Q W → Row W W.heap.size A (ss.flatMap stpCells)) := Lib.hid fun W hW => (hR.on (HQb.out W hW))
  have hq0 := HQ.out _ _ hq (below1 _ (.cells #[.int .i64 p1, .int .i64 p2] 33))
  have hb0 : Whole ((w.alloc (.cells l.cells.toArray 29)).alloc (.cells #[.int .i64 p1, .int .i64 p2] 33)) (w.heap.size + 1) 33 (prtCells (p1, p2)) := Whole.new_at _ _ (prtCells (p1, p2)) _ (by simp)
  have HQS : Hid (∀ (W : World) (a b : Value), Q W → Q ((W.setCell ⟨w.heap.size + 1, 0, none⟩ a).setCell ⟨w.heap.size + 1, 1, none⟩ b)) := Lib.hid fun W a b hW => HQ0.out _ ⟨((HQb.out _ hW).setCell (p := ⟨w.heap.size + 1, 0, none⟩) (by show w.heap.size ≤ w.heap.size + 1; omega) a).setCell (p := ⟨w.heap.size + 1, 1, none⟩) (by show w.heap.size ≤ w.heap.size + 1; omega) b, ((HQl.out _ hW).far (p := ⟨w.heap.size + 1, 0, none⟩) (by show w.heap.size ≠ w.heap.size + 1; omega) a).far (p := ⟨w.heap.size + 1, 1, none⟩) (by show w.heap.size ≠ w.heap.size + 1; omega) b⟩
  have HI0 : Hid (Q _ ∧ Whole _ (w.heap.size + 1) 33 (prtCells (p1, p2)) ∧ goesL l (p1, p2) ss = r) := Lib.hid ⟨hq0, hb0, hr⟩
  obtain ⟨g, hg⟩ : ∃ g, w.heap.size + 1 = g := ⟨_, rfl⟩
  have HG : Hid (w.heap.size ≤ g) := Lib.hid (by omega)
  rw [hg] at HI0 HQS
  clear hT hL hR hr hq hq0 hb0
  go_enter Tryd.func26, Tryd.ntmps26
  go_wp2_with fail
  refine wp_scope_fwd (l := 0) rfl ?_
  go_wp2_with fail
  try rw [hg]
  clear hg
  go_loopw [13] (fun i wr => ∃ (j : Nat) (q1 q2 : Int), j ≤ ss.length ∧ i = .int .i64 j ∧ Hid (Q wr ∧ Whole wr g 33 (prtCells (q1, q2)) ∧ goesL l (q1, q2) (ss.drop j) = r)) (fun i _ => ss.length - (intOf i).toNat)
  case atStart => exact ⟨0, p1, p2, by omega, rfl, HI0⟩
  case round =>
    clear HI0
    obtain ⟨j, q1, q2, hj, rfl, HI⟩ := hrel
    obtain ⟨wa, rfl⟩ : ∃ W, W = wr := ⟨wr, rfl⟩
    by_cases hlt : j < ss.length
    · have hlt' : (j : Int) < ss.length := by omega
      obtain ⟨⟨x1, x2, x3⟩, hx⟩ : ∃ x, ss[j]? = some x := ⟨_, List.getElem?_eq_getElem hlt⟩
      have HF : Hid ((stepV l x1 x2 x3 && (decide ((q1, q2) = (x1, x2)) && goesL l (nextV l x1 x2 x3) (ss.drop (j + 1)))) = r) := Lib.hid (by rw [← HI.out.2.2, drop_at hx]; rfl)
      obtain ⟨b, off, rfl, _, hc0, hc⟩ := (HRW.out _ HI.out.1).nth (n := 3) (fun _ => rfl) (by omega) hx
      have c0 := hc0 j _ _ hx rfl
      have c1 := hc j _ 1 _ hx rfl
      have c2 := hc j _ 2 _ hx rfl
      obtain ⟨gs, hgs⟩ : ∃ gs, wa.heap.size = gs := ⟨_, rfl⟩
      obtain ⟨W1, hW1⟩ : ∃ W1, wa.alloc (.cells #[.int .i64 x1, .int .i64 x2, .int .i64 x3] 31) = W1 := ⟨_, rfl⟩
      obtain ⟨R, HRc, HRq, HRb, hR⟩ : ∃ R : World → Prop, Hid (Closed R) ∧ Hid (∀ W, R W → Q W) ∧ Hid (∀ W, R W → Whole W g 33 (prtCells (q1, q2)) ∧ Whole W gs 31 (stpCells (x1, x2, x3))) ∧ R W1 :=
        ⟨fun W => Q W ∧ Whole W g 33 (prtCells (q1, q2)) ∧ Whole W gs 31 (stpCells (x1, x2, x3)), Lib.hid (HQ.out.and ((Closed.whole _ _ _).and (Closed.whole _ _ _))), Lib.hid fun _ h => h.1, Lib.hid fun _ h => h.2, by rw [← hW1]; exact ⟨HQ.out _ _ HI.out.1 (below1 _ _), HI.out.2.1.alloc _, Whole.new_at _ _ (stpCells (x1, x2, x3)) _ hgs.symm⟩⟩
      obtain ⟨st, hst⟩ : ∃ st, stepV l x1 x2 x3 = st := ⟨_, rfl⟩
      obtain ⟨⟨n1, n2⟩, hnx⟩ : ∃ n, nextV l x1 x2 x3 = n := ⟨_, rfl⟩
      have KS := Lib.hid (fun W hW => keepR HRc.out (step_B (HTW.out W (HRq.out W hW)).1 (HTW.out W (HRq.out W hW)).2 x1 x2 x3 rfl hst) hW)
      have KN := Lib.hid (fun W hW => keepR HRc.out (nextB_any (w := W) (HTW.out W (HRq.out W hW)).1 (HTW.out W (HRq.out W hW)).2 x1 x2 x3 hnx) hW)
      rw [hst, hnx] at HF
      clear hc0 hc hx hst hnx
      generalize wayK (kindV l x1) x2 x3 = wy at *
      go_upto_region 4 with (fail)
      try rw [hW1]
      try rw [hgs]
      clear hW1 hgs c0 c1 c2 HI
      have m0 := HQl.out _ (HRq.out _ hR)
      have z0 := m0.cell_at 0 rfl
      have z1 := m0.cell_at 1 rfl
      have z2 := m0.cell_at 2 rfl
      have z3 := m0.cell_at 3 rfl
      have z4 := m0.cell_at 4 rfl
      have z5 := m0.cell_at 5 rfl
      have z6 := m0.cell_at 6 rfl
      have z7 := m0.cell_at 7 rfl
      have z8 := m0.cell_at 8 rfl
      have z9 := m0.cell_at 9 rfl
      have z10 := m0.cell_at 10 rfl
      clear m0
      have m1 := (HRb.out _ hR).2
      have v0 := m1.cell_at 0 rfl
      have v1 := m1.cell_at 1 rfl
      have v2 := m1.cell_at 2 rfl
      clear m1
      go_wp2_with fail
      refine (KS.out _ hR).mono ?_
      clear hR z0 z1 z2 z3 z4 z5 z6 z7 z8 z9 z10 v0 v1 v2
      rintro e w2 ⟨rfl, hR⟩
      cases st
      · have HF' : Hid (false = r) := HF
        go_wp2_with fail
        go_step3
        simp +zetaDelta only [Exit.inBlock, Exit.then, fwd_goto]
        refine ⟨trivial, ?_⟩
        go_wp2_with fail
        rw [Exit.noGoto_ret]
        go_ret
        exact ⟨ret_bool HF'.out, HQb.out _ (HRq.out _ hR)⟩
      · obtain ⟨bb, hbb⟩ : ∃ z, decide ((q1, q2) = (x1, x2)) = z := ⟨_, rfl⟩
        have hneq := fun W => neq_prtD W q1 q2 x1 x2
        rw [hbb] at hneq HF
        have m0 := (HRb.out _ hR).1
        have y0 := m0.cell_at 0 rfl
        have y1 := m0.cell_at 1 rfl
        have m1 := (HRb.out _ hR).2
        have v0 := m1.cell_at 0 rfl
        have v1 := m1.cell_at 1 rfl
        have v2 := m1.cell_at 2 rfl
        clear hbb m0 m1
        cases bb
        · have HF' : Hid (false = r) := HF
          go_wp2_with fail
          go_step3
          simp +zetaDelta only [Exit.inBlock, Exit.then, fwd_goto]
          refine ⟨trivial, ?_⟩
          go_wp2_with fail
          rw [Exit.noGoto_ret]
          go_ret
          exact ⟨ret_bool HF'.out, HQb.out _ (HRq.out _ hR)⟩
        · have HF' : Hid (goesL l (n1, n2) (ss.drop (j + 1)) = r) := HF
          clear HF
          have m0 := HQl.out _ (HRq.out _ hR)
          have z0 := m0.cell_at 0 rfl
          have z1 := m0.cell_at 1 rfl
          have z2 := m0.cell_at 2 rfl
          have z3 := m0.cell_at 3 rfl
          have z4 := m0.cell_at 4 rfl
          have z5 := m0.cell_at 5 rfl
          have z6 := m0.cell_at 6 rfl
          have z7 := m0.cell_at 7 rfl
          have z8 := m0.cell_at 8 rfl
          have z9 := m0.cell_at 9 rfl
          have z10 := m0.cell_at 10 rfl
          clear m0
          go_wp2_with fail
          refine (KN.out _ hR).mono ?_
          clear hR z0 z1 z2 z3 z4 z5 z6 z7 z8 z9 z10 v0 v1 v2 y0 y1
          rintro e w3 ⟨rfl, hR⟩
          have hr := (HRb.out _ hR).1
          have f0 := hr.frozen 0
          have f1 := hr.frozen 1
          have y0 := hr.cell_at 0 rfl
          have y1 := hr.cell_at 1 rfl
          have HE : Hid (Q ((w3.setCell ⟨g, 0, none⟩ (.int .i64 n1)).setCell ⟨g, 1, none⟩ (.int .i64 n2)) ∧ Whole ((w3.setCell ⟨g, 0, none⟩ (.int .i64 n1)).setCell ⟨g, 1, none⟩ (.int .i64 n2)) g 33 (prtCells (n1, n2)) ∧ goesL l (n1, n2) (ss.drop (j + 1)) = r) := Lib.hid ⟨HQS.out _ _ _ (HRq.out _ hR), (hr.set 0 _).set 1 _, HF'.out⟩
          clear hr hR HF'
          go_wp2_with fail
          go_roundw
          case rel => exact ⟨j + 1, n1, n2, hlt, by go_num, HE⟩
          case measure => simp [intOf]; omega
    · obtain rfl : j = ss.length := by omega
      have HF' : Hid (true = r) := Lib.hid (by rw [← HI.out.2.2, List.drop_length]; rfl)
      have hB := HQb.out _ HI.out.1
      clear HI
      go_wp2_with fail
      try rw [fwd_ret]
      go_ret
      exact ⟨ret_bool HF'.out, hB⟩

set_option maxRecDepth 100000 in
set_option maxHeartbeats 8000000 in
theorem overB10_any {l : Lay} {w : World} (hT : Shapes w) (hL : Lies l w) (hO : ∀ x ∈ l.exits, x.over.length ≤ 1000) (x : Int) {ss : List (Int × Int × Int)} (hs : overL10 l x = ss) : Calls Tryd.prog 18 #[l.val, .int .i64 x] w fun e w' => ∃ v, e = .returned v ∧ w'.ownsRow w.heap.size 31 3 v ss.length (ss.flatMap stpCells) ∧ Below w.heap.size w w' := by
  subst hs
  obtain ⟨Q, HQ, HQb, HQl, hq⟩ := keep_box (Closed.below w) (Below.refl _ w) 29 l.cells
  have HTW : Hid (∀ W, Q W → Shapes W ∧ Lies l W) := Lib.hid fun W hW => ⟨Shapes.closed _ _ hT (HQb.out W hW), Lies.closed l _ _ hL (HQb.out W hW)⟩
  rcases at_cases_n l.exits x with h1 | ⟨h0, h1⟩ | ⟨j, y, rfl, hy, hlt⟩
  · rw [over_neg h1]
    have d1 := decide_eq_true h1
    clear hT hL hO
    have hW := hq
    have m0 := HQl.out _ hW
    have x0 := m0.cell_at 0 rfl
    have x1 := m0.cell_at 1 rfl
    have x2 := m0.cell_at 2 rfl
    have x3 := m0.cell_at 3 rfl
    have x4 := m0.cell_at 4 rfl
    have x5 := m0.cell_at 5 rfl
    have x6 := m0.cell_at 6 rfl
    have x7 := m0.cell_at 7 rfl
    have x8 := m0.cell_at 8 rfl
    have x9 := m0.cell_at 9 rfl
    have x10 := m0.cell_at 10 rfl
    clear m0
    clear hW
    go_enter Tryd.func18, Tryd.ntmps18
    go_wp2_with fail
    go_ret
    exact ⟨_, rfl, World.ownsRow_nil _ _ _ _, HQb.out _ hq⟩
  · rw [over_far h0 h1]
    have d1 : decide (x < 0) = false := decide_eq_false (by omega)
    have d2 : decide ((l.exits.length : Int) ≤ x) = true := decide_eq_true h1
    clear hT hL hO
    have hW := hq
    have m0 := HQl.out _ hW
    have x0 := m0.cell_at 0 rfl
    have x1 := m0.cell_at 1 rfl
    have x2 := m0.cell_at 2 rfl
    have x3 := m0.cell_at 3 rfl
    have x4 := m0.cell_at 4 rfl
    have x5 := m0.cell_at 5 rfl
    have x6 := m0.cell_at 6 rfl
    have x7 := m0.cell_at 7 rfl
    have x8 := m0.cell_at 8 rfl
    have x9 := m0.cell_at 9 rfl
    have x10 := m0.cell_at 10 rfl
    clear m0
    clear hW
    go_enter Tryd.func18, Tryd.ntmps18
    go_wp2_with fail
    go_ret
    exact ⟨_, rfl, World.ownsRow_nil _ _ _ _, HQb.out _ hq⟩
  · rw [over_at hy]
    have HC : Hid (∃ b off, l.Ae = some ⟨b, off, none⟩ ∧ ∀ W, Q W → W.cell? ⟨b, off + j * 3, none⟩ = some (.int .i64 y.s) ∧ W.cell? ⟨b, off + j * 3 + 1, none⟩ = some (.int .i64 y.q) ∧ W.cell? ⟨b, off + j * 3 + 2, none⟩ = some (.slice y.A y.over.length y.c)) := Lib.hid (by
      obtain ⟨b, off, hA, _, hc0, hc⟩ := (HTW.out _ hq).2.exits.nth (n := 3) (fun _ => rfl) (by omega) hy
      refine ⟨b, off, hA, fun W hW => ?_⟩
      obtain ⟨b', off', hA', _, hc0, hc⟩ := (HTW.out _ hW).2.exits.nth (n := 3) (fun _ => rfl) (by omega) hy
      rw [hA] at hA'
      cases hA'
      exact ⟨hc0 j _ _ hy rfl, hc j _ 1 _ hy rfl, hc j _ 2 _ hy rfl⟩)
    obtain ⟨b, off, hA, hC⟩ := HC.out
    have KC := Lib.hid (cloneStep_any y.A y.c _ ((HTW.out _ hq).2.overs y (List.mem_of_getElem? hy)) (hO y (List.mem_of_getElem? hy)))
    obtain ⟨c0, c1, c2⟩ := hC _ hq
    have x2 := (HQl.out _ hq).cell_at 2 rfl
    rw [hA] at x2
    have HB := Lib.hid (HQb.out _ hq)
    have hlt' : j < l.exits.length := by omega
    clear hT hL hO hC hA HC hy hq
    go_enter Tryd.func18, Tryd.ntmps18
    go_wp2_with fail
    refine KC.out.mono ?_
    clear KC c0 c1 c2 x2
    rintro e w1 ⟨v, rfl, hown, hB⟩
    have HO := Lib.hid (owns_base hown (base' := w.heap.size) (by simp))
    have HB1 := Lib.hid (HB.out.trans (hB.mono HB.out.size))
    clear hown hB
    go_wp2_with fail
    go_ret
    exact ⟨_, rfl, HO.out, HB1.out⟩
end Go.Proofs.YthjnhigcheakaaaDoor
