/- The document's own layer 7: which ports there are, what lies beyond, who is near. -/
import Derived.Test.YtiknjkgioiknnaaDoorQC
namespace Go.Proofs.YtiknjkgioiknnaaDoor
open Go.RowKit Go.Shelf
set_option linter.unusedVariables false
set_option linter.unusedSimpArgs false

/-- What lies beyond a port. -/
def beyondV (l : Lay) (s p : Int) : Int × Int := if thereV l s p = true then ((atV l s p).ports4[p.toNat]?).getD (-1, 0) else (-1, 0)
theorem beyondV_no {l : Lay} {s p : Int} (h : thereV l s p = false) : beyondV l s p = (-1, 0) := by unfold beyondV; rw [h]; rfl
theorem pK_le4 (k : Int) : pK k ≤ 4 := by
  unfold pK
  split
  · omega
  · split
    · omega
    · split <;> omega
/-- Is b beyond a port of a? -/
def nearV (l : Lay) (a b : Int) : Bool := [0, 1, 2, 3].any fun p => (beyondV l a p).1 == b

section
variable {P : World → Prop} {w : World}
set_option maxRecDepth 100000 in
set_option maxHeartbeats 8000000 in
theorem noneJ_P (hP : Closed P) (h : P w) : Calls Tryd.prog 47 #[] w fun e w' => e = .returned (prtV (-1) 0) ∧ P w' := by
  have hp := hP _ _ h (below1 w (.cells #[.int .i64 (-1), .int .i64 0] 31))
  have hW := Whole.new w 31 [.int .i64 (-1), .int .i64 0]
  have e0 := hW.cell_at 0 rfl
  have e1 := hW.cell_at 1 rfl
  clear hW
  go_enter Tryd.func47, Tryd.ntmps47
  go_wp2_with fail
  refine bodyPost_ret (v := prtV (-1) 0) ?_ rfl ⟨rfl, hp⟩
  simp [results, Tryd.f47, go_sem, e0, e1]

set_option maxRecDepth 100000 in
set_option maxHeartbeats 8000000 in
theorem hasJ_P (hP : Closed P) {l : Lay} (hL : ∀ w, P w → Lies l w) (s p : Int) {r : Bool} (hr : thereV l s p = r) (h : P w) :
    Calls Tryd.prog 48 #[l.val, prtV s p] w fun e w' => e = .returned (.bool r) ∧ P w' := by
  obtain ⟨Q, HQ, HQp, HQl, HQv, hq⟩ := keep_box2 hP h 29 31 l.cells (prtCells (s, p))
  have HQL : Hid (∀ W, Q W → Lies l W) := Lib.hid fun W hW => hL _ (HQp.out _ hW)
  have hcase := at_cases l s p
  rw [hr] at hcase
  clear h hr hL hP
  rcases hcase with ⟨rfl, h1⟩ | ⟨rfl, h1, h2⟩ | ⟨j, y, rfl, hy, hlt, ⟨rfl, h1⟩ | ⟨rfl, h1, h2⟩ | ⟨rfl, exy, h1, h2⟩⟩
  · have d1 : decide (0 ≤ s) = false := decide_eq_false (by omega)
    clear h1
    go_enter Tryd.func48, Tryd.ntmps48
    go_wp2_with fail
    have HBS : Hid (∀ W, Below ((w.alloc (.cells l.cells.toArray 29)).alloc (.cells (prtCells (s, p)).toArray 31)).heap.size ((w.alloc (.cells l.cells.toArray 29)).alloc (.cells (prtCells (s, p)).toArray 31)) W → Q W) := Lib.hid (fun W hB => HQ.out _ _ hq hB)
    clear hq
    refine region_mix (Below ((w.alloc (.cells l.cells.toArray 29)).alloc (.cells (prtCells (s, p)).toArray 31)).heap.size ((w.alloc (.cells l.cells.toArray 29)).alloc (.cells (prtCells (s, p)).toArray 31))) [(0, false), (1, false), (2, false), (3, false), (4, false), (5, false), (6, false), (7, false), (8, false), (9, false), (10, false), (11, false), (12, false), (13, false), (14, false), (15, false), (16, false), (17, false), (18, false), (19, false), (20, false), (21, false), (22, false), (23, false), (24, false), (25, false), (26, false), (27, false), (28, false), (29, false)] (by kernel_rfl) (by kernel_rfl) (Below ((w.alloc (.cells l.cells.toArray 29)).alloc (.cells (prtCells (s, p)).toArray 31)).heap.size ((w.alloc (.cells l.cells.toArray 29)).alloc (.cells (prtCells (s, p)).toArray 31))) ⟨Closed.below ((w.alloc (.cells l.cells.toArray 29)).alloc (.cells (prtCells (s, p)).toArray 31)), fun _ h => h⟩ (Below.refl _ _).drew ?_
    simp only [pickOps, List.getElem?_cons_zero, List.getElem?_cons_succ]
    repeat (first | (refine mix_skip (by rfl) ?_; simp only [Act.put, List.setIfInBounds_toArray, List.set_cons_zero, List.set_cons_succ]) | (refine mix_read _ (by rfl) (fun W hW => by (have hW := HBS.out W hW; have m0 := HQl.out _ hW; have x0 := m0.cell_at 0 rfl; have x1 := m0.cell_at 1 rfl; have x2 := m0.cell_at 2 rfl; have x3 := m0.cell_at 3 rfl; have x4 := m0.cell_at 4 rfl; have x5 := m0.cell_at 5 rfl; have x6 := m0.cell_at 6 rfl; have x7 := m0.cell_at 7 rfl; have x8 := m0.cell_at 8 rfl; have x9 := m0.cell_at 9 rfl; have x10 := m0.cell_at 10 rfl; clear m0; have m1 := HQv.out _ hW; have v0 := m1.cell_at 0 rfl; have v1 := m1.cell_at 1 rfl; clear m1; go_simp; first | done | with_reducible rfl)) ?_; simp only [Act.put, List.setIfInBounds_toArray, List.set_cons_zero, List.set_cons_succ]))
    refine mix_nil (fun W hW => ?_)
    have hq := HBS.out W hW
    clear hW HBS
    go_wp2_with fail
    go_ret
    exact ⟨rfl, HQp.out _ hq⟩
  · have d1 := decide_eq_true h1
    have d2 : decide (s < l.secs.length) = false := decide_eq_false (by omega)
    clear h1 h2
    go_enter Tryd.func48, Tryd.ntmps48
    go_wp2_with fail
    have HBS : Hid (∀ W, Below ((w.alloc (.cells l.cells.toArray 29)).alloc (.cells (prtCells (s, p)).toArray 31)).heap.size ((w.alloc (.cells l.cells.toArray 29)).alloc (.cells (prtCells (s, p)).toArray 31)) W → Q W) := Lib.hid (fun W hB => HQ.out _ _ hq hB)
    clear hq
    refine region_mix (Below ((w.alloc (.cells l.cells.toArray 29)).alloc (.cells (prtCells (s, p)).toArray 31)).heap.size ((w.alloc (.cells l.cells.toArray 29)).alloc (.cells (prtCells (s, p)).toArray 31))) [(0, false), (1, false), (2, false), (3, false), (4, false), (5, false), (6, false), (7, false), (8, false), (9, false), (10, false), (11, false), (12, false), (13, false), (14, false), (15, false), (16, false), (17, false), (18, false), (19, false), (20, false), (21, false), (22, false), (23, false), (24, false), (25, false), (26, false), (27, false), (28, false), (29, false)] (by kernel_rfl) (by kernel_rfl) (Below ((w.alloc (.cells l.cells.toArray 29)).alloc (.cells (prtCells (s, p)).toArray 31)).heap.size ((w.alloc (.cells l.cells.toArray 29)).alloc (.cells (prtCells (s, p)).toArray 31))) ⟨Closed.below ((w.alloc (.cells l.cells.toArray 29)).alloc (.cells (prtCells (s, p)).toArray 31)), fun _ h => h⟩ (Below.refl _ _).drew ?_
    simp only [pickOps, List.getElem?_cons_zero, List.getElem?_cons_succ]
    repeat (first | (refine mix_skip (by rfl) ?_; simp only [Act.put, List.setIfInBounds_toArray, List.set_cons_zero, List.set_cons_succ]) | (refine mix_read _ (by rfl) (fun W hW => by (have hW := HBS.out W hW; have m0 := HQl.out _ hW; have x0 := m0.cell_at 0 rfl; have x1 := m0.cell_at 1 rfl; have x2 := m0.cell_at 2 rfl; have x3 := m0.cell_at 3 rfl; have x4 := m0.cell_at 4 rfl; have x5 := m0.cell_at 5 rfl; have x6 := m0.cell_at 6 rfl; have x7 := m0.cell_at 7 rfl; have x8 := m0.cell_at 8 rfl; have x9 := m0.cell_at 9 rfl; have x10 := m0.cell_at 10 rfl; clear m0; have m1 := HQv.out _ hW; have v0 := m1.cell_at 0 rfl; have v1 := m1.cell_at 1 rfl; clear m1; go_simp; first | done | with_reducible rfl)) ?_; simp only [Act.put, List.setIfInBounds_toArray, List.set_cons_zero, List.set_cons_succ]))
    refine mix_nil (fun W hW => ?_)
    have hq := HBS.out W hW
    clear hW HBS
    go_wp2_with fail
    go_ret
    exact ⟨rfl, HQp.out _ hq⟩
  · have d1 : decide (0 ≤ (j : Int)) = true := decide_eq_true (by omega)
    have d2 : decide ((j : Int) < l.secs.length) = true := decide_eq_true hlt
    have d2n : decide (j < l.secs.length) = true := decide_eq_true (by omega)
    have d3 : decide (0 ≤ p) = false := decide_eq_false (by omega)
    clear h1 hy
    go_enter Tryd.func48, Tryd.ntmps48
    go_wp2_with fail
    have HBS : Hid (∀ W, Below ((w.alloc (.cells l.cells.toArray 29)).alloc (.cells (prtCells ((j : Int), p)).toArray 31)).heap.size ((w.alloc (.cells l.cells.toArray 29)).alloc (.cells (prtCells ((j : Int), p)).toArray 31)) W → Q W) := Lib.hid (fun W hB => HQ.out _ _ hq hB)
    clear hq
    refine region_mix (Below ((w.alloc (.cells l.cells.toArray 29)).alloc (.cells (prtCells ((j : Int), p)).toArray 31)).heap.size ((w.alloc (.cells l.cells.toArray 29)).alloc (.cells (prtCells ((j : Int), p)).toArray 31))) [(0, false), (1, false), (2, false), (3, false), (4, false), (5, false), (6, false), (7, false), (8, false), (9, false), (10, false), (11, false), (12, false), (13, false), (14, false), (15, false), (16, false), (17, false), (18, false), (19, false), (20, false), (21, false), (22, false), (23, false), (24, false), (25, false), (26, false), (27, false), (28, false), (29, false)] (by kernel_rfl) (by kernel_rfl) (Below ((w.alloc (.cells l.cells.toArray 29)).alloc (.cells (prtCells ((j : Int), p)).toArray 31)).heap.size ((w.alloc (.cells l.cells.toArray 29)).alloc (.cells (prtCells ((j : Int), p)).toArray 31))) ⟨Closed.below ((w.alloc (.cells l.cells.toArray 29)).alloc (.cells (prtCells ((j : Int), p)).toArray 31)), fun _ h => h⟩ (Below.refl _ _).drew ?_
    simp only [pickOps, List.getElem?_cons_zero, List.getElem?_cons_succ]
    repeat (first | (refine mix_skip (by rfl) ?_; simp only [Act.put, List.setIfInBounds_toArray, List.set_cons_zero, List.set_cons_succ]) | (refine mix_read _ (by rfl) (fun W hW => by (have hW := HBS.out W hW; have m0 := HQl.out _ hW; have x0 := m0.cell_at 0 rfl; have x1 := m0.cell_at 1 rfl; have x2 := m0.cell_at 2 rfl; have x3 := m0.cell_at 3 rfl; have x4 := m0.cell_at 4 rfl; have x5 := m0.cell_at 5 rfl; have x6 := m0.cell_at 6 rfl; have x7 := m0.cell_at 7 rfl; have x8 := m0.cell_at 8 rfl; have x9 := m0.cell_at 9 rfl; have x10 := m0.cell_at 10 rfl; clear m0; have m1 := HQv.out _ hW; have v0 := m1.cell_at 0 rfl; have v1 := m1.cell_at 1 rfl; clear m1; go_simp; first | done | with_reducible rfl)) ?_; simp only [Act.put, List.setIfInBounds_toArray, List.set_cons_zero, List.set_cons_succ]))
    refine mix_nil (fun W hW => ?_)
    have hq := HBS.out W hW
    clear hW HBS
    go_wp2_with fail
    go_ret
    exact ⟨rfl, HQp.out _ hq⟩
  · have d1 : decide (0 ≤ (j : Int)) = true := decide_eq_true (by omega)
    have d2 : decide ((j : Int) < l.secs.length) = true := decide_eq_true hlt
    have d2n : decide (j < l.secs.length) = true := decide_eq_true (by omega)
    obtain ⟨o1, o2, HA, HC0, HC⟩ := row_at (n := 11) Sec.len (by omega) (fun W hW => (HQL.out W hW).secs) hq hy
    have HX := Lib.hid hy
    have KP := Lib.hid (fun (W : World) (hW : Q W) => portsR_P (P := fun W' => Below W.heap.size W W') (w := W) (shapeK y.k) (Below.refl _ _))
    clear hy
    generalize pK y.k = pk at *
    have d3 := decide_eq_true h1
    have d4 : decide (p < pk) = false := decide_eq_false (by omega)
    clear h1 h2
    go_enter Tryd.func48, Tryd.ntmps48
    go_wp2_with fail
    have HBS : Hid (∀ W, Below ((w.alloc (.cells l.cells.toArray 29)).alloc (.cells (prtCells ((j : Int), p)).toArray 31)).heap.size ((w.alloc (.cells l.cells.toArray 29)).alloc (.cells (prtCells ((j : Int), p)).toArray 31)) W → Q W) := Lib.hid (fun W hB => HQ.out _ _ hq hB)
    clear hq
    refine region_mix (Below ((w.alloc (.cells l.cells.toArray 29)).alloc (.cells (prtCells ((j : Int), p)).toArray 31)).heap.size ((w.alloc (.cells l.cells.toArray 29)).alloc (.cells (prtCells ((j : Int), p)).toArray 31))) [(0, false), (1, false), (2, false), (3, false), (4, false), (5, false), (6, false), (7, false), (8, false), (9, false), (10, false), (11, false), (12, false), (13, false), (14, false), (15, false), (16, false), (17, false), (18, false), (19, false), (20, false), (21, false), (22, false), (23, false), (24, false), (25, false), (26, false), (27, false), (28, false), (29, false)] (by kernel_rfl) (by kernel_rfl) (Below ((w.alloc (.cells l.cells.toArray 29)).alloc (.cells (prtCells ((j : Int), p)).toArray 31)).heap.size ((w.alloc (.cells l.cells.toArray 29)).alloc (.cells (prtCells ((j : Int), p)).toArray 31))) ⟨Closed.below ((w.alloc (.cells l.cells.toArray 29)).alloc (.cells (prtCells ((j : Int), p)).toArray 31)), fun _ h => h⟩ (Below.refl _ _).drew ?_
    simp only [pickOps, List.getElem?_cons_zero, List.getElem?_cons_succ]
    repeat (first | (refine mix_skip (by rfl) ?_; simp only [Act.put, List.setIfInBounds_toArray, List.set_cons_zero, List.set_cons_succ]) | (refine mix_read _ (by rfl) (fun W hW => by (have hW := HBS.out W hW; have m0 := HQl.out _ hW; have x0 := m0.cell_at 0 rfl; have x1 := m0.cell_at 1 rfl; have x2 := m0.cell_at 2 rfl; have x3 := m0.cell_at 3 rfl; have x4 := m0.cell_at 4 rfl; have x5 := m0.cell_at 5 rfl; have x6 := m0.cell_at 6 rfl; have x7 := m0.cell_at 7 rfl; have x8 := m0.cell_at 8 rfl; have x9 := m0.cell_at 9 rfl; have x10 := m0.cell_at 10 rfl; clear m0; have m1 := HQv.out _ hW; have v0 := m1.cell_at 0 rfl; have v1 := m1.cell_at 1 rfl; clear m1; rw [HA.out] at x0; have c0 := HC0.out _ hW j _ _ HX.out rfl; go_simp; first | done | with_reducible rfl)) ?_; simp only [Act.put, List.setIfInBounds_toArray, List.set_cons_zero, List.set_cons_succ]) | (refine mix_call _ _ _ (by rfl) (fun W hW => by (have hW := HBS.out W hW; have m0 := HQl.out _ hW; have x0 := m0.cell_at 0 rfl; have x1 := m0.cell_at 1 rfl; have x2 := m0.cell_at 2 rfl; have x3 := m0.cell_at 3 rfl; have x4 := m0.cell_at 4 rfl; have x5 := m0.cell_at 5 rfl; have x6 := m0.cell_at 6 rfl; have x7 := m0.cell_at 7 rfl; have x8 := m0.cell_at 8 rfl; have x9 := m0.cell_at 9 rfl; have x10 := m0.cell_at 10 rfl; clear m0; have m1 := HQv.out _ hW; have v0 := m1.cell_at 0 rfl; have v1 := m1.cell_at 1 rfl; clear m1; rw [HA.out] at x0; have c0 := HC0.out _ hW j _ _ HX.out rfl; go_simp; first | done | rfl)) (fun W hW => KP.out W (HBS.out W hW)) ?_; simp only [Act.put, List.setIfInBounds_toArray, List.set_cons_zero, List.set_cons_succ]))
    refine mix_nil (fun W hW => ?_)
    have hq := HBS.out W hW
    clear hW HBS
    go_wp2_with fail
    go_ret
    exact ⟨rfl, HQp.out _ hq⟩
  · clear exy
    have d1 : decide (0 ≤ (j : Int)) = true := decide_eq_true (by omega)
    have d2 : decide ((j : Int) < l.secs.length) = true := decide_eq_true hlt
    have d2n : decide (j < l.secs.length) = true := decide_eq_true (by omega)
    obtain ⟨o1, o2, HA, HC0, HC⟩ := row_at (n := 11) Sec.len (by omega) (fun W hW => (HQL.out W hW).secs) hq hy
    have HX := Lib.hid hy
    have KP := Lib.hid (fun (W : World) (hW : Q W) => portsR_P (P := fun W' => Below W.heap.size W W') (w := W) (shapeK y.k) (Below.refl _ _))
    clear hy
    generalize pK y.k = pk at *
    have d3 := decide_eq_true h1
    have d4 := decide_eq_true h2
    clear h1 h2
    go_enter Tryd.func48, Tryd.ntmps48
    go_wp2_with fail
    have HBS : Hid (∀ W, Below ((w.alloc (.cells l.cells.toArray 29)).alloc (.cells (prtCells ((j : Int), p)).toArray 31)).heap.size ((w.alloc (.cells l.cells.toArray 29)).alloc (.cells (prtCells ((j : Int), p)).toArray 31)) W → Q W) := Lib.hid (fun W hB => HQ.out _ _ hq hB)
    clear hq
    refine region_mix (Below ((w.alloc (.cells l.cells.toArray 29)).alloc (.cells (prtCells ((j : Int), p)).toArray 31)).heap.size ((w.alloc (.cells l.cells.toArray 29)).alloc (.cells (prtCells ((j : Int), p)).toArray 31))) [(0, false), (1, false), (2, false), (3, false), (4, false), (5, false), (6, false), (7, false), (8, false), (9, false), (10, false), (11, false), (12, false), (13, false), (14, false), (15, false), (16, false), (17, false), (18, false), (19, false), (20, false), (21, false), (22, false), (23, false), (24, false), (25, false), (26, false), (27, false), (28, false), (29, false)] (by kernel_rfl) (by kernel_rfl) (Below ((w.alloc (.cells l.cells.toArray 29)).alloc (.cells (prtCells ((j : Int), p)).toArray 31)).heap.size ((w.alloc (.cells l.cells.toArray 29)).alloc (.cells (prtCells ((j : Int), p)).toArray 31))) ⟨Closed.below ((w.alloc (.cells l.cells.toArray 29)).alloc (.cells (prtCells ((j : Int), p)).toArray 31)), fun _ h => h⟩ (Below.refl _ _).drew ?_
    simp only [pickOps, List.getElem?_cons_zero, List.getElem?_cons_succ]
    repeat (first | (refine mix_skip (by rfl) ?_; simp only [Act.put, List.setIfInBounds_toArray, List.set_cons_zero, List.set_cons_succ]) | (refine mix_read _ (by rfl) (fun W hW => by (have hW := HBS.out W hW; have m0 := HQl.out _ hW; have x0 := m0.cell_at 0 rfl; have x1 := m0.cell_at 1 rfl; have x2 := m0.cell_at 2 rfl; have x3 := m0.cell_at 3 rfl; have x4 := m0.cell_at 4 rfl; have x5 := m0.cell_at 5 rfl; have x6 := m0.cell_at 6 rfl; have x7 := m0.cell_at 7 rfl; have x8 := m0.cell_at 8 rfl; have x9 := m0.cell_at 9 rfl; have x10 := m0.cell_at 10 rfl; clear m0; have m1 := HQv.out _ hW; have v0 := m1.cell_at 0 rfl; have v1 := m1.cell_at 1 rfl; clear m1; rw [HA.out] at x0; have c0 := HC0.out _ hW j _ _ HX.out rfl; go_simp; first | done | with_reducible rfl)) ?_; simp only [Act.put, List.setIfInBounds_toArray, List.set_cons_zero, List.set_cons_succ]) | (refine mix_call _ _ _ (by rfl) (fun W hW => by (have hW := HBS.out W hW; have m0 := HQl.out _ hW; have x0 := m0.cell_at 0 rfl; have x1 := m0.cell_at 1 rfl; have x2 := m0.cell_at 2 rfl; have x3 := m0.cell_at 3 rfl; have x4 := m0.cell_at 4 rfl; have x5 := m0.cell_at 5 rfl; have x6 := m0.cell_at 6 rfl; have x7 := m0.cell_at 7 rfl; have x8 := m0.cell_at 8 rfl; have x9 := m0.cell_at 9 rfl; have x10 := m0.cell_at 10 rfl; clear m0; have m1 := HQv.out _ hW; have v0 := m1.cell_at 0 rfl; have v1 := m1.cell_at 1 rfl; clear m1; rw [HA.out] at x0; have c0 := HC0.out _ hW j _ _ HX.out rfl; go_simp; first | done | rfl)) (fun W hW => KP.out W (HBS.out W hW)) ?_; simp only [Act.put, List.setIfInBounds_toArray, List.set_cons_zero, List.set_cons_succ]))
    refine mix_nil (fun W hW => ?_)
    have hq := HBS.out W hW
    clear hW HBS
    go_wp2_with fail
    go_ret
    exact ⟨rfl, HQp.out _ hq⟩
end
theorem hasJ_B {l : Lay} {w : World} (hL : Lies l w) (s p : Int) {r : Bool} (hr : thereV l s p = r) : Calls Tryd.prog 48 #[l.val, prtV s p] w fun e w' => e = .returned (.bool r) ∧ Below w.heap.size w w' :=
  hasJ_P (P := fun W => Below w.heap.size w W) (Closed.below w) (fun W h => Lies.closed l _ _ hL h) s p hr (Below.refl _ _)

section
variable {P : World → Prop} {w : World}
set_option maxRecDepth 100000 in
set_option maxHeartbeats 8000000 in
theorem beyondJ_P (hP : Closed P) {l : Lay} (hL : ∀ w, P w → Lies l w) (s p : Int) {q : Int × Int} (hq1 : beyondV l s p = q) (h : P w) :
    Calls Tryd.prog 33 #[l.val, prtV s p] w fun e w' => e = .returned (prtV q.1 q.2) ∧ P w' := by
  obtain ⟨Q, HQ, HQp, HQl, HQv, HQr, HQb, hq⟩ := keep_box3 hP h 29 31 31 l.cells (prtCells (s, p)) [.int .i64 0, .int .i64 0]
  have HQL : Hid (∀ W, Q W → Lies l W) := Lib.hid fun W hW => hL _ (HQp.out _ hW)
  have HPP := Lib.hid (fun W (hB : Below w.heap.size w W) => hP _ _ h hB)
  obtain ⟨r, hr⟩ : ∃ r, thereV l s p = r := ⟨_, rfl⟩
  have KH := Lib.hid (fun W hW => hasJ_P (P := Q) (w := W) HQ.out HQL.out s p hr hW)
  have KN := Lib.hid (fun W hW => noneJ_P (P := Q) (w := W) HQ.out hW)
  clear h hL hP
  have hW := hq
  have m0 := HQl.out _ hW
  have x0 := m0.cell_at 0 rfl
  have x1 := m0.cell_at 1 rfl
  have x2 := m0.cell_at 2 rfl
  have x3 := m0.cell_at 3 rfl
  have x4 := m0.cell_at 4 rfl
  have x5 := m0.cell_at 5 rfl
  have x6 := m0.cell_at 6 rfl
  have x7 := m0.cell_at 7 rfl
  have x8 := m0.cell_at 8 rfl
  have x9 := m0.cell_at 9 rfl
  have x10 := m0.cell_at 10 rfl
  clear m0
  have m1 := HQv.out _ hW
  have v0 := m1.cell_at 0 rfl
  have v1 := m1.cell_at 1 rfl
  clear m1
  clear hW
  go_enter Tryd.func33, Tryd.ntmps33
  go_wp2_with fail
  refine (KH.out _ hq).mono ?_
  clear x0 x1 x2 x3 x4 x5 x6 x7 x8 x9 x10 v0 v1 hq
  rintro e w1 ⟨rfl, hq⟩
  cases r
  · obtain rfl := hq1.symm.trans (beyondV_no hr)
    go_wp2_with fail
    refine (KN.out _ hq).mono ?_
    clear hq hr hq1
    rintro e w2 ⟨rfl, hq⟩
    have hr := HQr.out _ hq
    have f0 := hr.frozen 0
    have f1 := hr.frozen 1
    have z0 := hr.cell_at 0 rfl
    have z1 := hr.cell_at 1 rfl
    have hWo := (hr.set 0 (.int .i64 (-1))).set 1 (.int .i64 0)
    have hBo := ((HQb.out _ hq).setCell (p := ⟨w.heap.size + 1 + 1, 0, none⟩) (by show w.heap.size ≤ w.heap.size + 1 + 1; omega) (.int .i64 (-1))).setCell (p := ⟨w.heap.size + 1 + 1, 1, none⟩) (by show w.heap.size ≤ w.heap.size + 1 + 1; omega) (.int .i64 0)
    clear hr
    go_wp2_with fail
    have e0 := hWo.cell_at 0 rfl
    have e1 := hWo.cell_at 1 rfl
    refine bodyPost_ret (v := prtV (-1) 0) ?_ rfl ⟨rfl, HPP.out _ hBo⟩
    simp [results, Tryd.f33, go_sem, e0, e1]
  · obtain ⟨j, rfl, hy⟩ := atV_yes hr
    have hb := hq1
    unfold beyondV at hb
    rw [if_pos hr] at hb
    obtain ⟨y, hyy⟩ : ∃ y, atV l j p = y := ⟨_, rfl⟩
    rw [hyy] at hy hb
    have hlt : (j : Int) < l.secs.length := by have := (List.getElem?_eq_some_iff.1 hy).1; omega
    have hp : 0 ≤ p ∧ p < 4 := by
      unfold thereV at hr
      rw [withinA_iff] at hr
      have := pK_le4 (kindV l j)
      omega
    obtain ⟨i, rfl⟩ : ∃ i : Nat, p = i := ⟨p.toNat, by omega⟩
    have hi : (i : Int) < 4 := hp.2
    have hqi : y.ports4[i]? = some q := by
      rw [Int.toNat_natCast] at hb
      have : i < y.ports4.length := by show i < 4; omega
      rw [List.getElem?_eq_getElem this] at hb ⊢
      rw [← hb]
      rfl
    obtain ⟨o1, o2, HA, HC0, HC⟩ := row_at (n := 11) Sec.len (by omega) (fun W hW => (HQL.out W hW).secs) hq hy
    have HJ : Hid (∀ W, Q W → W.cell? ⟨o1, o2 + j * 11 + 1 + i * 2, none⟩ = some (.int .i64 q.1) ∧ W.cell? ⟨o1, o2 + j * 11 + 1 + i * 2 + 1, none⟩ = some (.int .i64 q.2)) := Lib.hid (fun W hW => by
      have h := HC.out W hW j y
      have : i = 0 ∨ i = 1 ∨ i = 2 ∨ i = 3 := by omega
      rcases this with rfl | rfl | rfl | rfl <;> cases hqi
      · exact ⟨h 1 _ hy rfl, h 2 _ hy rfl⟩
      · exact ⟨h 3 _ hy rfl, h 4 _ hy rfl⟩
      · exact ⟨h 5 _ hy rfl, h 6 _ hy rfl⟩
      · exact ⟨h 7 _ hy rfl, h 8 _ hy rfl⟩)
    clear hb hqi hyy hy hr hq1 hp
    obtain ⟨qs, qq⟩ := q
    simp only at HJ ⊢
    go_wp2_with fail
    refine region_mixt Q [(0, false), (1, false), (2, false), (3, false), (4, false), (5, false), (6, false), (7, false), (8, false), (9, false)] 1 10 (by kernel_rfl) rfl (by kernel_rfl) Q ⟨HQ.out, fun _ h => h⟩ (HQ.out.drew hq) ?_
    clear hq
    simp only [pickOps, List.getElem?_cons_zero, List.getElem?_cons_succ]
    repeat (first | (refine mix_read _ (by rfl) (fun W hW => by (have m0 := HQl.out _ hW; have x0 := m0.cell_at 0 rfl; have x1 := m0.cell_at 1 rfl; have x2 := m0.cell_at 2 rfl; have x3 := m0.cell_at 3 rfl; have x4 := m0.cell_at 4 rfl; have x5 := m0.cell_at 5 rfl; have x6 := m0.cell_at 6 rfl; have x7 := m0.cell_at 7 rfl; have x8 := m0.cell_at 8 rfl; have x9 := m0.cell_at 9 rfl; have x10 := m0.cell_at 10 rfl; clear m0; have m1 := HQv.out _ hW; have v0 := m1.cell_at 0 rfl; have v1 := m1.cell_at 1 rfl; clear m1; rw [HA.out] at x0; have c0 := (HJ.out _ hW).1; have c1 := (HJ.out _ hW).2; go_simp; first | done | with_reducible rfl)) ?_; simp only [Act.put, List.setIfInBounds_toArray, List.set_cons_zero, List.set_cons_succ]))
    refine mix_nil (fun W hW => ?_)
    simp only [List.drop_succ_cons, List.drop_zero]
    have hr := HQr.out _ hW
    have f0 := hr.frozen 0
    have f1 := hr.frozen 1
    have z0 := hr.cell_at 0 rfl
    have z1 := hr.cell_at 1 rfl
    have hWo := (hr.set 0 (.int .i64 qs)).set 1 (.int .i64 qq)
    have hBo := ((HQb.out _ hW).setCell (p := ⟨w.heap.size + 1 + 1, 0, none⟩) (by show w.heap.size ≤ w.heap.size + 1 + 1; omega) (.int .i64 qs)).setCell (p := ⟨w.heap.size + 1 + 1, 1, none⟩) (by show w.heap.size ≤ w.heap.size + 1 + 1; omega) (.int .i64 qq)
    clear hr hW
    go_wp2_with fail
    have e0 := hWo.cell_at 0 rfl
    have e1 := hWo.cell_at 1 rfl
    refine bodyPost_ret (v := prtV qs qq) ?_ rfl ⟨rfl, HPP.out _ hBo⟩
    simp [results, Tryd.f33, go_sem, e0, e1]
end
theorem beyondJ_B {l : Lay} {w : World} (hL : Lies l w) (s p : Int) {q : Int × Int} (hq : beyondV l s p = q) : Calls Tryd.prog 33 #[l.val, prtV s p] w fun e w' => e = .returned (prtV q.1 q.2) ∧ Below w.heap.size w w' :=
  beyondJ_P (P := fun W => Below w.heap.size w W) (Closed.below w) (fun W h => Lies.closed l _ _ hL h) s p hq (Below.refl _ _)

section
variable {P : World → Prop} {w : World}
end
end Go.Proofs.YtiknjkgioiknnaaDoor
