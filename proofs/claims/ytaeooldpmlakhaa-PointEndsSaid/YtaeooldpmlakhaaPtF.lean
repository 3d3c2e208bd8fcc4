/- What wakes the laws of stage 16: the chapter's example. -/
import Derived.Deep.CutRange
import Derived.Test.YtaeooldpmlakhaaPtE
namespace Go.Proofs.Ytaeooldpmlakhaa
open Go.RowKit Go.Shelf
set_option linter.unusedVariables false
set_option linter.unusedSimpArgs false

theorem slice4_row (w : World) : Row (w.alloc (.cells #[.int .i64 0, .int .i64 1, .int .i64 (-1), .int .i64 1] 3)) (w.alloc (.cells #[.int .i64 0, .int .i64 1, .int .i64 (-1), .int .i64 1] 3)).heap.size (some ⟨w.heap.size, 0, none⟩) (nums .i64 [0, 1, -1, 1]) := fun _ =>
  ⟨w.heap.size, 0, rfl, by simp, fun j u hu => by rw [Nat.zero_add]; exact (Whole.new w 3 [.int .i64 0, .int .i64 1, .int .i64 (-1), .int .i64 1]).cell_at j hu⟩
set_option maxRecDepth 100000 in
set_option maxHeartbeats 32000000 in
theorem wakes16_B (w : World) : Calls Try.prog 8 #[] w fun e w' => e = .returned (.bool true) ∧ Below w.heap.size w w' := by
  go_enter Try.func8, Try.ntmps8
  go_wp2_with fail
  refine (rest_B _).mono ?_
  rintro e w1 ⟨rfl, hB1⟩
  go_wp2_with fail
  refine (call_B (-1) 0 false 1 _ (x := (1, 0, false)) rfl).mono ?_
  rintro e w2 ⟨rfl, hB2⟩
  have HB2 := Lib.hid (hB1.trans (hB2.mono hB1.size))
  clear hB1 hB2
  go_wp2_with fail
  obtain ⟨Q1, HQ1, HQ1b, HQ1m, hq1⟩ := keep_mc (Closed.below w) HB2.out 23 (mcC 1 0 false)
  obtain ⟨W3, hW3⟩ : ∃ W3, w2.alloc (.cells #[.int .i64 1, .int .i64 0, .bool false] 23) = W3 := ⟨_, rfl⟩
  obtain ⟨g1, hg1⟩ : ∃ k, w2.heap.size = k := ⟨_, rfl⟩
  replace hq1 : Q1 W3 := by rw [← hW3]; exact hq1
  rw [hW3]
  rw [hg1] at HQ1m ⊢
  clear hW3 hg1 HB2
  refine (pass_B 1 0 false 0 false false 1 _ (x := (1, 1, true)) rfl).mono ?_
  rintro e w4 ⟨rfl, hB4⟩
  replace hq1 := HQ1.out _ _ hq1 hB4
  clear hB4
  go_wp2_with fail
  obtain ⟨Q, HQ, HQb, HQm, hq⟩ := keep_mc HQ1.out hq1 23 (mcC 1 1 true)
  obtain ⟨W5, hW5⟩ : ∃ W5, w4.alloc (.cells #[.int .i64 1, .int .i64 1, .bool true] 23) = W5 := ⟨_, rfl⟩
  obtain ⟨g2, hg2⟩ : ∃ k, w4.heap.size = k := ⟨_, rfl⟩
  replace hq : Q W5 := by rw [← hW5]; exact hq
  have hs5 : W5.heap.size = g2 + 1 := by rw [← hW5, ← hg2]; simp
  try rw [hW5]
  try rw [hg2] at HQm ⊢
  clear hW5 hg2 hq1
  have hR := slice4_row W5
  rw [hs5] at hR
  have hz := HQ.out _ _ hq (below1 W5 (.cells #[.int .i64 0, .int .i64 1, .int .i64 (-1), .int .i64 1] 3))
  generalize W5.alloc (.cells #[.int .i64 0, .int .i64 1, .int .i64 (-1), .int .i64 1] 3) = W6 at *
  clear hs5 hq
  refine (Bits_any (zs := [0, 1, -1, 1]) (by simpa using hR.mono (Nat.le_refl _)) (by simp) (by simp)).mono ?_
  rw [show bitsN [0, 1, -1, 1] 0 = 1 from rfl, show bitsN [0, 1, -1, 1] 1 = 10 from rfl]
  rintro e W ⟨rfl, hB⟩
  replace hq := HQ.out _ _ hz hB
  have hs : ∀ W : World, (binOp .eql 23 (mcV (-1) 0 false) (mcV (-1) 0 false)).run Try.prog W = .ok (.bool true) W := fun W => by rw [eql_mc]; rfl
  have h1 : ∀ W : World, (binOp .eql 23 (mcV 1 0 false) (mcV 1 0 false)).run Try.prog W = .ok (.bool true) W := fun W => by rw [eql_mc]; rfl
  have h2 : ∀ W : World, (binOp .eql 23 (mcV 1 1 true) (mcV 1 1 true)).run Try.prog W = .ok (.bool true) W := fun W => by rw [eql_mc]; rfl
  have HM1 := Lib.hid fun W (hW : Q W) => HQ1m.out W (HQb.out W hW)
  clear hB hz hR
  go_wp2_with fail
  generalize W = W7 at *
  go_wp2_with fail
  have HBS : Hid (∀ W, Below W7.heap.size W7 W → Q W) := Lib.hid (fun W hB => HQ.out _ _ hq hB)
  clear hq
  refine region_mix (Below W7.heap.size W7) [(0, false), (1, false), (2, false), (3, false), (4, false), (5, false), (6, false), (7, false), (8, false), (9, false), (10, false), (11, false), (12, false), (13, false), (14, false), (15, false), (16, false), (17, false), (18, false), (19, false), (20, false), (21, false), (22, false), (23, false), (24, false), (25, false), (26, false), (27, false), (28, false), (29, false), (30, false), (31, false), (32, false), (33, false), (34, false), (35, false), (36, false), (37, false), (38, false), (39, false), (40, false), (41, false), (42, false), (43, false), (44, false), (45, false), (46, false), (47, false), (48, false), (49, false), (50, false), (51, false), (52, false), (53, false), (54, false), (55, false), (56, false), (57, false), (58, false), (59, false), (60, false), (61, false), (62, false)] (by kernel_rfl) (by kernel_rfl) (Below W7.heap.size W7) ⟨Closed.below W7, fun _ h => h⟩ (Below.refl _ _).drew ?_
  simp only [pickOps, List.getElem?_cons_zero, List.getElem?_cons_succ]
  repeat (first | (refine mix_skip (by rfl) ?_; simp only [Act.put, List.setIfInBounds_toArray, List.set_cons_zero, List.set_cons_succ]) | (refine mix_read _ (by rfl) (fun W hW => by (have hW := HBS.out W hW; have m0 := HQm.out W hW; have y0 := m0.cell_at 0 rfl; have y1 := m0.cell_at 1 rfl; have y2 := m0.cell_at 2 rfl; clear m0; have m0 := HM1.out W hW; have x0 := m0.cell_at 0 rfl; have x1 := m0.cell_at 1 rfl; have x2 := m0.cell_at 2 rfl; clear m0;  go_simp; first | done | with_reducible rfl)) ?_; simp only [Act.put, List.setIfInBounds_toArray, List.set_cons_zero, List.set_cons_succ]) | (refine mix_call _ _ _ (by rfl) (fun W hW => by (have hW := HBS.out W hW; have m0 := HQm.out W hW; have y0 := m0.cell_at 0 rfl; have y1 := m0.cell_at 1 rfl; have y2 := m0.cell_at 2 rfl; clear m0; have m0 := HM1.out W hW; have x0 := m0.cell_at 0 rfl; have x1 := m0.cell_at 1 rfl; have x2 := m0.cell_at 2 rfl; clear m0;  go_simp; first | done | rfl)) (fun W hW => rest_B _) ?_; simp only [Act.put, List.setIfInBounds_toArray, List.set_cons_zero, List.set_cons_succ]) | (refine mix_call _ _ _ (by rfl) (fun W hW => by (have hW := HBS.out W hW; have m0 := HQm.out W hW; have y0 := m0.cell_at 0 rfl; have y1 := m0.cell_at 1 rfl; have y2 := m0.cell_at 2 rfl; clear m0; have m0 := HM1.out W hW; have x0 := m0.cell_at 0 rfl; have x1 := m0.cell_at 1 rfl; have x2 := m0.cell_at 2 rfl; clear m0;  go_simp; first | done | rfl)) (fun W hW => pass_B 1 0 false 1 false false 1 _ (x := (-1, 0, false)) rfl) ?_; simp only [Act.put, List.setIfInBounds_toArray, List.set_cons_zero, List.set_cons_succ]) | (refine mix_call _ _ _ (by rfl) (fun W hW => by (have hW := HBS.out W hW; have m0 := HQm.out W hW; have y0 := m0.cell_at 0 rfl; have y1 := m0.cell_at 1 rfl; have y2 := m0.cell_at 2 rfl; clear m0; have m0 := HM1.out W hW; have x0 := m0.cell_at 0 rfl; have x1 := m0.cell_at 1 rfl; have x2 := m0.cell_at 2 rfl; clear m0;  go_simp; first | done | rfl)) (fun W hW => drives_B 1 0 false 0 false false _ (x := 1) rfl) ?_; simp only [Act.put, List.setIfInBounds_toArray, List.set_cons_zero, List.set_cons_succ]) | (refine mix_call _ _ _ (by rfl) (fun W hW => by (have hW := HBS.out W hW; have m0 := HQm.out W hW; have y0 := m0.cell_at 0 rfl; have y1 := m0.cell_at 1 rfl; have y2 := m0.cell_at 2 rfl; clear m0; have m0 := HM1.out W hW; have x0 := m0.cell_at 0 rfl; have x1 := m0.cell_at 1 rfl; have x2 := m0.cell_at 2 rfl; clear m0;  go_simp; first | done | rfl)) (fun W hW => drives_B 1 0 false 0 true false _ (x := -1) rfl) ?_; simp only [Act.put, List.setIfInBounds_toArray, List.set_cons_zero, List.set_cons_succ]) | (refine mix_call _ _ _ (by rfl) (fun W hW => by (have hW := HBS.out W hW; have m0 := HQm.out W hW; have y0 := m0.cell_at 0 rfl; have y1 := m0.cell_at 1 rfl; have y2 := m0.cell_at 2 rfl; clear m0; have m0 := HM1.out W hW; have x0 := m0.cell_at 0 rfl; have x1 := m0.cell_at 1 rfl; have x2 := m0.cell_at 2 rfl; clear m0;  go_simp; first | done | rfl)) (fun W hW => drives_B 1 0 false 0 false true _ (x := -1) rfl) ?_; simp only [Act.put, List.setIfInBounds_toArray, List.set_cons_zero, List.set_cons_succ]) | (refine mix_call _ _ _ (by rfl) (fun W hW => by (have hW := HBS.out W hW; have m0 := HQm.out W hW; have y0 := m0.cell_at 0 rfl; have y1 := m0.cell_at 1 rfl; have y2 := m0.cell_at 2 rfl; clear m0; have m0 := HM1.out W hW; have x0 := m0.cell_at 0 rfl; have x1 := m0.cell_at 1 rfl; have x2 := m0.cell_at 2 rfl; clear m0;  go_simp; first | done | rfl)) (fun W hW => drives_B 1 1 true 0 false false _ (x := -1) rfl) ?_; simp only [Act.put, List.setIfInBounds_toArray, List.set_cons_zero, List.set_cons_succ]) | (refine mix_call _ _ _ (by rfl) (fun W hW => by (have hW := HBS.out W hW; have m0 := HQm.out W hW; have y0 := m0.cell_at 0 rfl; have y1 := m0.cell_at 1 rfl; have y2 := m0.cell_at 2 rfl; clear m0; have m0 := HM1.out W hW; have x0 := m0.cell_at 0 rfl; have x1 := m0.cell_at 1 rfl; have x2 := m0.cell_at 2 rfl; clear m0;  go_simp; first | done | rfl)) (fun W hW => call_B 1 1 true 1 _ (x := (1, 0, false)) rfl) ?_; simp only [Act.put, List.setIfInBounds_toArray, List.set_cons_zero, List.set_cons_succ]) | (refine mix_call _ _ _ (by rfl) (fun W hW => by (have hW := HBS.out W hW; have m0 := HQm.out W hW; have y0 := m0.cell_at 0 rfl; have y1 := m0.cell_at 1 rfl; have y2 := m0.cell_at 2 rfl; clear m0; have m0 := HM1.out W hW; have x0 := m0.cell_at 0 rfl; have x1 := m0.cell_at 1 rfl; have x2 := m0.cell_at 2 rfl; clear m0;  go_simp; first | done | rfl)) (fun W hW => right_B 1 1 true _ (r := true) rfl) ?_; simp only [Act.put, List.setIfInBounds_toArray, List.set_cons_zero, List.set_cons_succ]) | (refine mix_call _ _ _ (by rfl) (fun W hW => by (have hW := HBS.out W hW; have m0 := HQm.out W hW; have y0 := m0.cell_at 0 rfl; have y1 := m0.cell_at 1 rfl; have y2 := m0.cell_at 2 rfl; clear m0; have m0 := HM1.out W hW; have x0 := m0.cell_at 0 rfl; have x1 := m0.cell_at 1 rfl; have x2 := m0.cell_at 2 rfl; clear m0;  go_simp; first | done | rfl)) (fun W hW => right_B 2 0 false _ (r := false) rfl) ?_; simp only [Act.put, List.setIfInBounds_toArray, List.set_cons_zero, List.set_cons_succ]))
  refine mix_nil (fun W hW => ?_)
  have hq := HBS.out W hW
  have HBW := Lib.hid hW
  clear hW HBS
  go_wp2_with fail
  go_ret
  exact ⟨rfl, HQ1b.out _ (HQb.out _ hq)⟩

end Go.Proofs.Ytaeooldpmlakhaa
