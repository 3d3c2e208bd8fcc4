/- The document's own layer 10: there, Point, Class, Next, Rear. -/
import Derived.Test.YtiknjkgioiknnaaDoorQE
import Derived.Test.YtiknjkgioiknnaaDoorQC
import Derived.Test.YtiknjkgioiknnaaDoorQJoinA
import Derived.Test.YtiknjkgioiknnaaDoorQD
namespace Go.Proofs.YtiknjkgioiknnaaDoor
open Go.RowKit Go.Shelf
set_option linter.unusedVariables false
set_option linter.unusedSimpArgs false

set_option maxRecDepth 100000 in
set_option maxHeartbeats 8000000 in
theorem endR_any (w : World) : Calls Tryd.prog 32 #[] w fun e w' => e = .returned (prtV (-1) 0) ∧ Below w.heap.size w w' := by
  have hp := below1 w (.cells #[.int .i64 (-1), .int .i64 0] 31)
  have hW := Whole.new w 31 [.int .i64 (-1), .int .i64 0]
  have e0 := hW.cell_at 0 rfl
  have e1 := hW.cell_at 1 rfl
  clear hW
  go_enter Tryd.func32, Tryd.ntmps32
  go_wp2_with fail
  refine bodyPost_ret (v := prtV (-1) 0) ?_ rfl ⟨rfl, hp⟩
  simp [results, Tryd.f32, go_sem, e0, e1]

set_option maxRecDepth 100000 in
set_option maxHeartbeats 8000000 in
theorem there10_any {l : Lay} {w : World} (hL : Lies l w) (s i o : Int) {r : Bool} (hr : stepV l s i o = r) : Calls Tryd.prog 16 #[l.val, stpV s i o] w fun e w' => e = .returned (.bool r) ∧ Below w.heap.size w w' := by
  obtain ⟨Q, HQ, HQb, HQl, HQv, hq⟩ := keep_box2 (Closed.below w) (Below.refl _ w) 29 53 l.cells (stpCells (s, i, o))
  have KS := Lib.hid (fun W hW => keepR HQ.out (stepR_B (w := W) (Lies.closed l _ _ hL (HQb.out W hW)) s i o rfl hr) hW)
  generalize wayK (kindV l s) i o = v at *
  clear hL hr
  have hW := hq
  have m0 := HQl.out _ hW
  have x0 := m0.cell_at 0 rfl
  have x1 := m0.cell_at 1 rfl
  have x2 := m0.cell_at 2 rfl
  have x3 := m0.cell_at 3 rfl
  have x4 := m0.cell_at 4 rfl
  have x5 := m0.cell_at 5 rfl
  have x6 := m0.cell_at 6 rfl
  have x7 := m0.cell_at 7 rfl
  have x8 := m0.cell_at 8 rfl
  have x9 := m0.cell_at 9 rfl
  have x10 := m0.cell_at 10 rfl
  clear m0
  have m1 := HQv.out _ hW
  have v0 := m1.cell_at 0 rfl
  have v1 := m1.cell_at 1 rfl
  have v2 := m1.cell_at 2 rfl
  clear m1
  clear hW
  go_enter Tryd.func16, Tryd.ntmps16
  go_wp2_with fail
  refine (KS.out _ hq).mono ?_
  clear x0 x1 x2 x3 x4 x5 x6 x7 x8 x9 x10 v0 v1 v2 hq
  rintro e w1 ⟨rfl, hq⟩
  go_wp2_with fail
  go_ret
  exact ⟨rfl, HQb.out _ hq⟩

set_option maxRecDepth 100000 in
set_option maxHeartbeats 8000000 in
theorem nextR_any {l : Lay} {w : World} (hL : Lies l w) (s i o : Int) {r : Int × Int} (hr : nextV l s i o = r) : Calls Tryd.prog 17 #[l.val, stpV s i o] w fun e w' => e = .returned (prtV r.1 r.2) ∧ Below w.heap.size w w' := by
  subst hr
  obtain ⟨Q, HQ, HQb0, HQl, HQv, HQr, HQb, hq⟩ := keep_box3 (Closed.below w) (Below.refl _ w) 29 53 31 l.cells (stpCells (s, i, o)) [.int .i64 0, .int .i64 0]
  have HTW : Hid (∀ W, Q W → Lies l W) := Lib.hid fun W hW => Lies.closed l _ _ hL (HQb.out W hW)
  have KN := Lib.hid (fun W hW => keepR HQ.out (endR_any W) hW)
  obtain ⟨r, h1⟩ : ∃ r, stepV l s i o = r := ⟨_, rfl⟩
  obtain ⟨⟨qs, qq⟩, hbv⟩ : ∃ q, beyondV l s o = q := ⟨_, rfl⟩
  have KB := Lib.hid (fun W hW => keepR HQ.out (beyondJ_B (w := W) (HTW.out W hW) s o hbv) hW)
  have KS := Lib.hid (fun W hW => keepR HQ.out (there10_any (w := W) (HTW.out W hW) s i o h1) hW)
  have HN : Hid (nextV l s i o = if r = true then (qs, qq) else (-1, 0)) := Lib.hid (by unfold nextV; rw [h1, hbv])
  generalize nextV l s i o = nx at *
  clear hL h1 hbv
  have hW := hq
  have m0 := HQl.out _ hW
  have x0 := m0.cell_at 0 rfl
  have x1 := m0.cell_at 1 rfl
  have x2 := m0.cell_at 2 rfl
  have x3 := m0.cell_at 3 rfl
  have x4 := m0.cell_at 4 rfl
  have x5 := m0.cell_at 5 rfl
  have x6 := m0.cell_at 6 rfl
  have x7 := m0.cell_at 7 rfl
  have x8 := m0.cell_at 8 rfl
  have x9 := m0.cell_at 9 rfl
  have x10 := m0.cell_at 10 rfl
  clear m0
  have m1 := HQv.out _ hW
  have v0 := m1.cell_at 0 rfl
  have v1 := m1.cell_at 1 rfl
  have v2 := m1.cell_at 2 rfl
  clear m1
  clear hW
  go_enter Tryd.func17, Tryd.ntmps17
  go_wp2_with fail
  refine (KS.out _ hq).mono ?_
  clear x0 x1 x2 x3 x4 x5 x6 x7 x8 x9 x10 v0 v1 v2 hq
  rintro e w1 ⟨rfl, hq⟩
  cases r
  · have HN' : Hid (nx = (-1, 0)) := HN
    obtain rfl := HN'.out
    clear HN HN'
    go_wp2_with fail
    refine (KN.out _ hq).mono ?_
    clear KN hq
    rintro e w2 ⟨rfl, hq⟩
    have hr := HQr.out _ hq
    have f0 := hr.frozen 0
    have f1 := hr.frozen 1
    have z0 := hr.cell_at 0 rfl
    have z1 := hr.cell_at 1 rfl
    have hWo := (hr.set 0 (.int .i64 (-1))).set 1 (.int .i64 0)
    have hBo := ((HQb.out _ hq).setCell (p := ⟨w.heap.size + 1 + 1, 0, none⟩) (by show w.heap.size ≤ w.heap.size + 1 + 1; omega) (.int .i64 (-1))).setCell (p := ⟨w.heap.size + 1 + 1, 1, none⟩) (by show w.heap.size ≤ w.heap.size + 1 + 1; omega) (.int .i64 0)
    clear hr
    go_wp2_with fail
    have e0 := hWo.cell_at 0 rfl
    have e1 := hWo.cell_at 1 rfl
    refine bodyPost_ret (v := prtV (-1) 0) ?_ rfl ⟨rfl, hBo⟩
    simp [results, Tryd.f17, go_sem, e0, e1]
  · have HN' : Hid (nx = (qs, qq)) := HN
    obtain rfl := HN'.out
    clear HN HN'
    have hW := hq
    have m0 := HQl.out _ hW
    have x0 := m0.cell_at 0 rfl
    have x1 := m0.cell_at 1 rfl
    have x2 := m0.cell_at 2 rfl
    have x3 := m0.cell_at 3 rfl
    have x4 := m0.cell_at 4 rfl
    have x5 := m0.cell_at 5 rfl
    have x6 := m0.cell_at 6 rfl
    have x7 := m0.cell_at 7 rfl
    have x8 := m0.cell_at 8 rfl
    have x9 := m0.cell_at 9 rfl
    have x10 := m0.cell_at 10 rfl
    clear m0
    have m1 := HQv.out _ hW
    have v0 := m1.cell_at 0 rfl
    have v1 := m1.cell_at 1 rfl
    have v2 := m1.cell_at 2 rfl
    clear m1
    clear hW
    go_wp2_with fail
    refine (KB.out _ hq).mono ?_
    clear x0 x1 x2 x3 x4 x5 x6 x7 x8 x9 x10 v0 v1 v2 hq
    rintro e w2 ⟨rfl, hq⟩
    have hr := HQr.out _ hq
    have f0 := hr.frozen 0
    have f1 := hr.frozen 1
    have z0 := hr.cell_at 0 rfl
    have z1 := hr.cell_at 1 rfl
    have hWo := (hr.set 0 (.int .i64 qs)).set 1 (.int .i64 qq)
    have hBo := ((HQb.out _ hq).setCell (p := ⟨w.heap.size + 1 + 1, 0, none⟩) (by show w.heap.size ≤ w.heap.size + 1 + 1; omega) (.int .i64 qs)).setCell (p := ⟨w.heap.size + 1 + 1, 1, none⟩) (by show w.heap.size ≤ w.heap.size + 1 + 1; omega) (.int .i64 qq)
    clear hr
    go_wp2_with fail
    have e0 := hWo.cell_at 0 rfl
    have e1 := hWo.cell_at 1 rfl
    refine bodyPost_ret (v := prtV qs qq) ?_ rfl ⟨rfl, hBo⟩
    simp [results, Tryd.f17, go_sem, e0, e1]

end Go.Proofs.YtiknjkgioiknnaaDoor
