/- The document's own layer 10: Goes, Over. -/
import Derived.Test.YtiknjkgioiknnaaDoorQBeR
import Derived.Test.YtiknjkgioiknnaaDoorQC
import Derived.Test.YtiknjkgioiknnaaDoorQLayOneM
import Derived.Test.YtiknjkgioiknnaaDoorQLayTellsM
namespace Go.Proofs.YtiknjkgioiknnaaDoor
open Go.RowKit Go.Shelf
set_option linter.unusedVariables false
set_option linter.unusedSimpArgs false

set_option maxRecDepth 100000 in
set_option maxHeartbeats 8000000 in
theorem goesR_any {l : Lay} {w : World} (hL : Lies l w) (p1 p2 : Int) {ss : List (Int × Int × Int)} {A : Option Addr} (c : Nat) (hR : Row w w.heap.size A (ss.flatMap stpCells)) (hn : (ss.length : Int) ≤ 9223372036854775807) {r : Bool} (hr : goesL l (p1, p2) ss = r) : Calls Tryd.prog 8 #[l.val, prtV p1 p2, .slice A ss.length c] w fun e w' => e = .returned (.bool r) ∧ Below w.heap.size w w' := by
  obtain ⟨Q, HQ, HQb, HQl, HQ0, hq⟩ : ∃ Q : World → Prop, Hid (Closed Q) ∧ Hid (∀ W, Q W → Below w.heap.size w W) ∧ Hid (∀ W, Q W → Whole W w.heap.size 29 l.cells) ∧ Hid (∀ W, Below w.heap.size w W ∧ Whole W w.heap.size 29 l.cells → Q W) ∧ Q (w.alloc (.cells l.cells.toArray 29)) :=
    ⟨fun W => Below w.heap.size w W ∧ Whole W w.heap.size 29 l.cells, Lib.hid ((Closed.below w).and (Closed.whole _ _ _)), Lib.hid fun _ h => h.1, Lib.hid fun _ h => h.2, Lib.hid fun _ h => h, below1 w _, Whole.new w _ l.cells⟩
  have HTW : Hid (∀ W, Q W → Lies l W) := Lib.hid fun W hW => Lies.closed l _ _ hL (HQb.out W hW)
  have HRW : Hid (∀ W, Q W → Row W W.heap.size A (ss.flatMap stpCells)) := Lib.hid fun W hW => (hR.on (HQb.out W hW))
  have hq0 := HQ.out _ _ hq (below1 _ (.cells #[.int .i64 p1, .int .i64 p2] 31))
  have hb0 : Whole ((w.alloc (.cells l.cells.toArray 29)).alloc (.cells #[.int .i64 p1, .int .i64 p2] 31)) (w.heap.size + 1) 31 (prtCells (p1, p2)) := Whole.new_at _ _ (prtCells (p1, p2)) _ (by simp)
  have HQS : Hid (∀ (W : World) (a b : Value), Q W → Q ((W.setCell ⟨w.heap.size + 1, 0, none⟩ a).setCell ⟨w.heap.size + 1, 1, none⟩ b)) := Lib.hid fun W a b hW => HQ0.out _ ⟨((HQb.out _ hW).setCell (p := ⟨w.heap.size + 1, 0, none⟩) (by show w.heap.size ≤ w.heap.size + 1; omega) a).setCell (p := ⟨w.heap.size + 1, 1, none⟩) (by show w.heap.size ≤ w.heap.size + 1; omega) b, ((HQl.out _ hW).far (p := ⟨w.heap.size + 1, 0, none⟩) (by show w.heap.size ≠ w.heap.size + 1; omega) a).far (p := ⟨w.heap.size + 1, 1, none⟩) (by show w.heap.size ≠ w.heap.size + 1; omega) b⟩
  have HI0 : Hid (Q _ ∧ Whole _ (w.heap.size + 1) 31 (prtCells (p1, p2)) ∧ goesL l (p1, p2) ss = r) := Lib.hid ⟨hq0, hb0, hr⟩
  obtain ⟨g, hg⟩ : ∃ g, w.heap.size + 1 = g := ⟨_, rfl⟩
  have HG : Hid (w.heap.size ≤ g) := Lib.hid (by omega)
  rw [hg] at HI0 HQS
  clear hL hR hr hq hq0 hb0
  go_enter Tryd.func8, Tryd.ntmps8
  go_wp2_with fail
  try rw [hg]
  clear hg
  go_loopw [7] (fun i wr => ∃ (j : Nat) (q1 q2 : Int), j ≤ ss.length ∧ i = .int .i64 j ∧ Hid (Q wr ∧ Whole wr g 31 (prtCells (q1, q2)) ∧ goesL l (q1, q2) (ss.drop j) = r)) (fun i _ => ss.length - (intOf i).toNat)
  case atStart => exact ⟨0, p1, p2, by omega, rfl, HI0⟩
  case round =>
    clear HI0
    obtain ⟨j, q1, q2, hj, rfl, HI⟩ := hrel
    obtain ⟨wa, rfl⟩ : ∃ W, W = wr := ⟨wr, rfl⟩
    by_cases hlt : j < ss.length
    · have hlt' : (j : Int) < ss.length := by omega
      obtain ⟨⟨x1, x2, x3⟩, hx⟩ : ∃ x, ss[j]? = some x := ⟨_, List.getElem?_eq_getElem hlt⟩
      have HF : Hid ((stepV l x1 x2 x3 && (decide ((q1, q2) = (x1, x2)) && goesL l (nextV l x1 x2 x3) (ss.drop (j + 1)))) = r) := Lib.hid (by rw [← HI.out.2.2, drop_at hx]; rfl)
      obtain ⟨b, off, rfl, _, hc0, hc⟩ := (HRW.out _ HI.out.1).nth (n := 3) (fun _ => rfl) (by omega) hx
      have c0 := hc0 j _ _ hx rfl
      have c1 := hc j _ 1 _ hx rfl
      have c2 := hc j _ 2 _ hx rfl
      obtain ⟨gs, hgs⟩ : ∃ gs, wa.heap.size = gs := ⟨_, rfl⟩
      obtain ⟨W1, hW1⟩ : ∃ W1, wa.alloc (.cells #[.int .i64 x1, .int .i64 x2, .int .i64 x3] 53) = W1 := ⟨_, rfl⟩
      obtain ⟨R, HRc, HRq, HRb, hR⟩ : ∃ R : World → Prop, Hid (Closed R) ∧ Hid (∀ W, R W → Q W) ∧ Hid (∀ W, R W → Whole W g 31 (prtCells (q1, q2)) ∧ Whole W gs 53 (stpCells (x1, x2, x3))) ∧ R W1 :=
        ⟨fun W => Q W ∧ Whole W g 31 (prtCells (q1, q2)) ∧ Whole W gs 53 (stpCells (x1, x2, x3)), Lib.hid (HQ.out.and ((Closed.whole _ _ _).and (Closed.whole _ _ _))), Lib.hid fun _ h => h.1, Lib.hid fun _ h => h.2, by rw [← hW1]; exact ⟨HQ.out _ _ HI.out.1 (below1 _ _), HI.out.2.1.alloc _, Whole.new_at _ _ (stpCells (x1, x2, x3)) _ hgs.symm⟩⟩
      obtain ⟨st, hst⟩ : ∃ st, stepV l x1 x2 x3 = st := ⟨_, rfl⟩
      obtain ⟨⟨n1, n2⟩, hnx⟩ : ∃ n, nextV l x1 x2 x3 = n := ⟨_, rfl⟩
      have KS := Lib.hid (fun W hW => keepR HRc.out (there10_any (w := W) (HTW.out W (HRq.out W hW)) x1 x2 x3 hst) hW)
      have KN := Lib.hid (fun W hW => keepR HRc.out (nextR_any (w := W) (HTW.out W (HRq.out W hW)) x1 x2 x3 hnx) hW)
      rw [hst, hnx] at HF
      clear hc0 hc hx hst hnx
      go_upto_region 5 with (fail)
      try rw [hW1]
      try rw [hgs]
      clear hW1 hgs c0 c1 c2 HI
      have m0 := HQl.out _ (HRq.out _ hR)
      have z0 := m0.cell_at 0 rfl
      have z1 := m0.cell_at 1 rfl
      have z2 := m0.cell_at 2 rfl
      have z3 := m0.cell_at 3 rfl
      have z4 := m0.cell_at 4 rfl
      have z5 := m0.cell_at 5 rfl
      have z6 := m0.cell_at 6 rfl
      have z7 := m0.cell_at 7 rfl
      have z8 := m0.cell_at 8 rfl
      have z9 := m0.cell_at 9 rfl
      have z10 := m0.cell_at 10 rfl
      clear m0
      have m1 := (HRb.out _ hR).2
      have v0 := m1.cell_at 0 rfl
      have v1 := m1.cell_at 1 rfl
      have v2 := m1.cell_at 2 rfl
      clear m1
      go_wp2_with fail
      refine (KS.out _ hR).mono ?_
      clear hR z0 z1 z2 z3 z4 z5 z6 z7 z8 z9 z10 v0 v1 v2
      rintro e w2 ⟨rfl, hR⟩
      cases st
      · have HF' : Hid (false = r) := HF
        go_wp2_with fail
        go_ret
        exact ⟨ret_bool HF'.out, HQb.out _ (HRq.out _ hR)⟩
      · obtain ⟨bb, hbb⟩ : ∃ z, decide ((q1, q2) = (x1, x2)) = z := ⟨_, rfl⟩
        have hneq := fun W => neq_prtD W q1 q2 x1 x2
        rw [hbb] at hneq HF
        have m0 := (HRb.out _ hR).1
        have y0 := m0.cell_at 0 rfl
        have y1 := m0.cell_at 1 rfl
        have m1 := (HRb.out _ hR).2
        have v0 := m1.cell_at 0 rfl
        have v1 := m1.cell_at 1 rfl
        have v2 := m1.cell_at 2 rfl
        clear hbb m0 m1
        cases bb
        · have HF' : Hid (false = r) := HF
          go_wp2_with fail
          go_ret
          exact ⟨ret_bool HF'.out, HQb.out _ (HRq.out _ hR)⟩
        · have HF' : Hid (goesL l (n1, n2) (ss.drop (j + 1)) = r) := HF
          clear HF
          have m0 := HQl.out _ (HRq.out _ hR)
          have z0 := m0.cell_at 0 rfl
          have z1 := m0.cell_at 1 rfl
          have z2 := m0.cell_at 2 rfl
          have z3 := m0.cell_at 3 rfl
          have z4 := m0.cell_at 4 rfl
          have z5 := m0.cell_at 5 rfl
          have z6 := m0.cell_at 6 rfl
          have z7 := m0.cell_at 7 rfl
          have z8 := m0.cell_at 8 rfl
          have z9 := m0.cell_at 9 rfl
          have z10 := m0.cell_at 10 rfl
          clear m0
          go_wp2_with fail
          refine (KN.out _ hR).mono ?_
          clear hR z0 z1 z2 z3 z4 z5 z6 z7 z8 z9 z10 v0 v1 v2 y0 y1
          rintro e w3 ⟨rfl, hR⟩
          have hr := (HRb.out _ hR).1
          have f0 := hr.frozen 0
          have f1 := hr.frozen 1
          have y0 := hr.cell_at 0 rfl
          have y1 := hr.cell_at 1 rfl
          have HE : Hid (Q ((w3.setCell ⟨g, 0, none⟩ (.int .i64 n1)).setCell ⟨g, 1, none⟩ (.int .i64 n2)) ∧ Whole ((w3.setCell ⟨g, 0, none⟩ (.int .i64 n1)).setCell ⟨g, 1, none⟩ (.int .i64 n2)) g 31 (prtCells (n1, n2)) ∧ goesL l (n1, n2) (ss.drop (j + 1)) = r) := Lib.hid ⟨HQS.out _ _ _ (HRq.out _ hR), (hr.set 0 _).set 1 _, HF'.out⟩
          clear hr hR HF'
          go_wp2_with fail
          go_roundw
          case rel => exact ⟨j + 1, n1, n2, hlt, by go_num, HE⟩
          case measure => simp [intOf]; omega
    · obtain rfl : j = ss.length := by omega
      have HF' : Hid (true = r) := Lib.hid (by rw [← HI.out.2.2, List.drop_length]; rfl)
      have hB := HQb.out _ HI.out.1
      clear HI
      go_wp2_with fail
      go_ret
      exact ⟨ret_bool HF'.out, hB⟩

end Go.Proofs.YtiknjkgioiknnaaDoor
