/- Package held: nothing may not be; the laws' example: two sections, an overlap. -/
import Derived.Deep.CutRange
import Derived.ScopeJumps
import Derived.RangeFuncNested
import Derived.RangeFuncBound
import Derived.RangeFuncCalls
import Derived.RangeFuncLeaves
import Derived.RangeFuncBox
import Derived.Shelf.Abstract
import Derived.Shelf.RegionOpen
import Derived.WalkKit
import Derived.OwnWalkIn
import Derived.TacticsInMore
import Derived.LoopNIn
import Derived.LoopIn
import Derived.WalkMore
import Derived.Test.YtljpiafopbfdlaaQHlT
namespace Go.Proofs.Ytljpiafopbfdlaa
open Go.RowKit Go.Shelf
set_option linter.unusedVariables false
set_option linter.unusedSimpArgs false

set_option maxRecDepth 100000 in
set_option maxHeartbeats 32000000 in
theorem right17z_any (w : World) : Calls Try.prog 26 #[hld0.val] w fun e w' => e = .returned (.bool false) ∧ Below w.heap.size w w' := by
  obtain ⟨Q, HQ, HQb, HQh, hq⟩ := keep_h (Closed.below w) (Below.refl _ w) hld0
  obtain ⟨W0, hW0⟩ : ∃ W0, w.alloc (.cells hld0.cells.toArray 28) = W0 := ⟨_, rfl⟩
  rw [hW0] at hq
  have HW0 := Lib.hid hW0
  have m0 := HQh.out _ hq
  have x0 : W0.cell? ⟨w.heap.size, 0, none⟩ = some (.int .i64 0) := m0.cell_at 0 rfl
  have x3 : W0.cell? ⟨w.heap.size, 3, none⟩ = some (.slice none 0 0) := m0.cell_at 3 rfl
  have HB := Lib.hid (HQb.out _ hq)
  have K1 := Lib.hid fun W => from17_any 0 1 1073741824 (r := false) rfl W
  clear hW0 m0 hq HQ HQb HQh
  go_enter Try.func26, Try.ntmps26
  go_wp2
  refine wp_scope_jumps17 0 (fun a' W => ∃ (u0 u1 u2 u3 u4 u5 u6 u7 u8 u9 u10 u11 u12 u13 u14 u15 u16 u17 u18 u19 u20 u21 u22 u23 u24 u25 u26 u27 u28 u29 u30 u31 u32 u33 u34 u35 u36 u37 u38 u39 u40 u41 u42 u43 u44 u45 u46 u47 u48 u49 u50 u51 u52 u53 u54 u55 u56 u57 u58 u59 u60 u61 u62 u63 : Value), a' = { tmps := #[u0, u1, u2, u3, u4, u5, u6, u7, u8, u9, u10, u11, u12, u13, u14, u15, u16, u17, u18, u19, u20, u21, u22, u23, u24, u25, u26, u27, u28, u29, u30, u31, u32, u33, u34, u35, u36, u37, u38, u39, u40, u41, u42, u43, u44, u45, u46, u47, u48, u49, u50, u51, u52, u53, u54, u55, u56, u57, u58, u59, u60, u61, u62, u63], defers := [] } ∧ Below w.heap.size w W) rfl ?pass ?first
  case pass =>
    rintro a' W ⟨u0, u1, u2, u3, u4, u5, u6, u7, u8, u9, u10, u11, u12, u13, u14, u15, u16, u17, u18, u19, u20, u21, u22, u23, u24, u25, u26, u27, u28, u29, u30, u31, u32, u33, u34, u35, u36, u37, u38, u39, u40, u41, u42, u43, u44, u45, u46, u47, u48, u49, u50, u51, u52, u53, u54, u55, u56, u57, u58, u59, u60, u61, u62, u63, rfl, hB⟩
    have HB2 := Lib.hid hB
    clear hB
    go_wp2_with fail
    (try simp only [Exit.jump])
    go_ret
    exact ⟨rfl, HB2.out⟩
  case first =>
    go_upto_region 1 with (fail)
    rw [HW0.out]
    clear HW0
    go_wp2_with fail
    refine (K1.out _).mono ?_
    rintro e w1 ⟨rfl, rfl⟩
    go_wp2_with fail
    refine wp_goto ?_
    exact ⟨rfl, _, _, _, _, _, _, _, _, _, _, _, _, _, _, _, _, _, _, _, _, _, _, _, _, _, _, _, _, _, _, _, _, _, _, _, _, _, _, _, _, _, _, _, _, _, _, _, _, _, _, _, _, _, _, _, _, _, _, _, _, _, _, _, _, rfl, HB.out⟩
/-- The example. -/
def twoH (x : Rm) : Hld := ⟨1, ⟨0, 0, x.A1, x.c1, [(3, 0, 1), (5, 0, 1)]⟩, x.A2, x.c2, [(7, 0, 1)], x.A3, x.c3, [(9, 1, 0), (8, 0, 2)], 3, 1, false, false, false, false, false, false, false, false, false, false, false, false, false, 0, false⟩
abbrev twoR (g : Nat) : Rm := ⟨some ⟨g + 1, 0, none⟩, 2, some ⟨g + 1 + 1, 0, none⟩, 1, some ⟨g + 1 + 1 + 1, 0, none⟩, 2⟩
set_option maxRecDepth 100000 in
set_option maxHeartbeats 32000000 in
theorem two_any (w : World) : Calls Try.prog 25 #[] w fun e w' => e = .returned (twoH (twoR w.heap.size)).val ∧ Below w.heap.size w w' ∧ w.heap.size + 1 + 1 + 1 + 1 ≤ w'.heap.size ∧ Whole w' (w.heap.size + 1) 44 [.int .i64 3, .int .i64 0, .int .i64 1, .int .i64 5, .int .i64 0, .int .i64 1] ∧ Whole w' (w.heap.size + 1 + 1) 44 [.int .i64 7, .int .i64 0, .int .i64 1] ∧ Whole w' (w.heap.size + 1 + 1 + 1) 40 [.int .i64 9, .int .i64 1, .int .i64 0, .int .i64 8, .int .i64 0, .int .i64 2] := by
  obtain ⟨W0, hW0⟩ : ∃ W0, w.alloc (.cells #[.int .i64 0, .int .i64 0, .int .i64 0, .slice none 0 0, .slice none 0 0, .slice none 0 0, .int .u8 0, .int .i64 0, .bool false, .bool false, .bool false, .bool false, .bool false, .bool false, .bool false, .bool false, .bool false, .bool false, .bool false, .bool false, .bool false, .int .i64 0, .bool false] 28) = W0 := ⟨_, rfl⟩
  obtain ⟨g, hg⟩ : ∃ g, w.heap.size = g := ⟨_, rfl⟩
  have hs0 : W0.heap.size = g + 1 := by rw [← hW0]; simp; omega
  have hb0 : Whole W0 g 28 hld0.cells := by rw [← hW0, ← hg]; exact Whole.new w _ hld0.cells
  have hB0 : Below w.heap.size w W0 := by rw [← hW0]; exact below1 w _
  have HW0 := Lib.hid hW0
  have HS0 := Lib.hid hs0
  have HG := Lib.hid hg
  clear hW0 hs0 hg
  go_enter Try.func25, Try.ntmps25
  go_upto_region 1 with (fail)
  rw [HW0.out]
  (try rw [HG.out])
  clear HW0
  apply wp_region_lit
  repeat (first | (refine wpList_skip (by rfl) ?_; simp only [Act.put, List.setIfInBounds_toArray, List.set_cons_zero, List.set_cons_succ]) | (refine wpList_read _ (by rfl) (exec_hld (by rfl) (by rfl) (show Whole W0 g 28 hld0.cells from by assumption)) ?_; simp only [Act.put, List.setIfInBounds_toArray, List.set_cons_zero, List.set_cons_succ]) | (refine wpList_read _ (by rfl) (by (go_simp; first | done | with_reducible rfl)) ?_; simp only [Act.put, List.setIfInBounds_toArray, List.set_cons_zero, List.set_cons_succ]))
  refine wpList_turn _ _ (by rfl) (by (go_simp; first | done | rfl | exact ⟨rfl, rfl⟩)) ?_
  simp only [Act.put, List.setIfInBounds_toArray, List.set_cons_zero, List.set_cons_succ]
  obtain ⟨W1, hW1⟩ : ∃ W1, W0.alloc (.cells #[.int .i64 3, .int .i64 0, .int .i64 1, .int .i64 5, .int .i64 0, .int .i64 1] 44) = W1 := ⟨_, rfl⟩
  have hB1 : Below W0.heap.size W0 W1 := by rw [← hW1]; exact below1 _ _
  have hb1 : Whole W1 (g + 1) 44 [.int .i64 3, .int .i64 0, .int .i64 1, .int .i64 5, .int .i64 0, .int .i64 1] := by rw [← hW1]; exact Whole.new_at _ _ [_, _, _, _, _, _] _ HS0.out.symm
  have hs1 : W1.heap.size = g + 1 + 1 := by rw [← hW1]; simp; exact HS0.out
  rw [hW1, HS0.out]
  replace hb0 := hb0.below hB1 hb0.lt
  replace hB0 := hB0.trans (hB1.mono hB0.size)
  have HS1 := Lib.hid hs1
  clear hW1 hB1 hs1
  repeat (first | (refine wpList_skip (by rfl) ?_; simp only [Act.put, List.setIfInBounds_toArray, List.set_cons_zero, List.set_cons_succ]) | (refine wpList_read _ (by rfl) (exec_hld (by rfl) (by rfl) (show Whole W0 g 28 hld0.cells from by assumption)) ?_; simp only [Act.put, List.setIfInBounds_toArray, List.set_cons_zero, List.set_cons_succ]) | (refine wpList_read _ (by rfl) (by (go_simp; first | done | with_reducible rfl)) ?_; simp only [Act.put, List.setIfInBounds_toArray, List.set_cons_zero, List.set_cons_succ]))
  refine wpList_turn _ _ (by rfl) (by (go_simp; first | done | rfl | exact ⟨rfl, rfl⟩)) ?_
  simp only [Act.put, List.setIfInBounds_toArray, List.set_cons_zero, List.set_cons_succ]
  obtain ⟨W2, hW2⟩ : ∃ W2, W1.alloc (.cells #[.int .i64 7, .int .i64 0, .int .i64 1] 44) = W2 := ⟨_, rfl⟩
  have hB2 : Below W1.heap.size W1 W2 := by rw [← hW2]; exact below1 _ _
  have hb2 : Whole W2 (g + 1 + 1) 44 [.int .i64 7, .int .i64 0, .int .i64 1] := by rw [← hW2]; exact Whole.new_at _ _ [_, _, _] _ HS1.out.symm
  have hs2 : W2.heap.size = g + 1 + 1 + 1 := by rw [← hW2]; simp; exact HS1.out
  rw [hW2, HS1.out]
  replace hb0 := hb0.below hB2 hb0.lt
  replace hb1 := hb1.below hB2 hb1.lt
  replace hB0 := hB0.trans (hB2.mono hB0.size)
  have HS2 := Lib.hid hs2
  clear hW2 hB2 hs2
  repeat (first | (refine wpList_skip (by rfl) ?_; simp only [Act.put, List.setIfInBounds_toArray, List.set_cons_zero, List.set_cons_succ]) | (refine wpList_read _ (by rfl) (exec_hld (by rfl) (by rfl) (show Whole W0 g 28 hld0.cells from by assumption)) ?_; simp only [Act.put, List.setIfInBounds_toArray, List.set_cons_zero, List.set_cons_succ]) | (refine wpList_read _ (by rfl) (by (go_simp; first | done | with_reducible rfl)) ?_; simp only [Act.put, List.setIfInBounds_toArray, List.set_cons_zero, List.set_cons_succ]))
  refine wpList_turn _ _ (by rfl) (by (go_simp; first | done | rfl | exact ⟨rfl, rfl⟩)) ?_
  simp only [Act.put, List.setIfInBounds_toArray, List.set_cons_zero, List.set_cons_succ]
  obtain ⟨W3, hW3⟩ : ∃ W3, W2.alloc (.cells #[.int .i64 9, .int .i64 1, .int .i64 0, .int .i64 8, .int .i64 0, .int .i64 2] 40) = W3 := ⟨_, rfl⟩
  have hB3 : Below W2.heap.size W2 W3 := by rw [← hW3]; exact below1 _ _
  have hb3 : Whole W3 (g + 1 + 1 + 1) 40 [.int .i64 9, .int .i64 1, .int .i64 0, .int .i64 8, .int .i64 0, .int .i64 2] := by rw [← hW3]; exact Whole.new_at _ _ [_, _, _, _, _, _] _ HS2.out.symm
  have hs3 : W3.heap.size = g + 1 + 1 + 1 + 1 := by rw [← hW3]; simp; exact HS2.out
  rw [hW3, HS2.out]
  replace hb0 := hb0.below hB3 hb0.lt
  replace hb1 := hb1.below hB3 hb1.lt
  replace hb2 := hb2.below hB3 hb2.lt
  replace hB0 := hB0.trans (hB3.mono hB0.size)
  have HS3 := Lib.hid hs3
  clear hW3 hB3 hs3
  repeat (first | (refine wpList_skip (by rfl) ?_; simp only [Act.put, List.setIfInBounds_toArray, List.set_cons_zero, List.set_cons_succ]) | (refine wpList_read _ (by rfl) (exec_hld (by rfl) (by rfl) (show Whole W0 g 28 hld0.cells from by assumption)) ?_; simp only [Act.put, List.setIfInBounds_toArray, List.set_cons_zero, List.set_cons_succ]) | (refine wpList_read _ (by rfl) (by (go_simp; first | done | with_reducible rfl)) ?_; simp only [Act.put, List.setIfInBounds_toArray, List.set_cons_zero, List.set_cons_succ]))
  refine wpList_fill 28 (.tmp 0) (.tmp 10) rfl rfl (vs := (twoH (twoR g)).cells) (by rfl) (by rfl) hb0 (by rfl) hld_info (hld_one _) (fun W5 hR5 hB5 hO5 => ?_)
  simp only [Act.put, List.setIfInBounds_toArray, List.set_cons_zero, List.set_cons_succ]
  have HE : Hid (Below w.heap.size w W5 ∧ g + 1 + 1 + 1 + 1 ≤ W5.heap.size ∧ Whole W5 (g + 1) 44 [.int .i64 3, .int .i64 0, .int .i64 1, .int .i64 5, .int .i64 0, .int .i64 1] ∧ Whole W5 (g + 1 + 1) 44 [.int .i64 7, .int .i64 0, .int .i64 1] ∧ Whole W5 (g + 1 + 1 + 1) 40 [.int .i64 9, .int .i64 1, .int .i64 0, .int .i64 8, .int .i64 0, .int .i64 2]) := Lib.hid ⟨hB0.trans (hB5 _ (by rw [HG.out]; exact Nat.le_refl _)), by have := (hB5 g (Nat.le_refl _)).size; have := HS3.out; omega, (hO5 _ (by omega)).trans hb1, (hO5 _ (by omega)).trans hb2, (hO5 _ (by omega)).trans hb3⟩
  clear hB5 hO5 hb0 hb1 hb2 hb3 hB0
  go_wp2_with fail
  (try simp only [Exit.inBlock, Exit.then])
  rw [HG.out]
  exact bodyPost_ret (res_hld rfl _ rfl hR5) rfl ⟨rfl, by rw [← HG.out]; exact HE.out.1, HE.out.2⟩

end Go.Proofs.Ytljpiafopbfdlaa
