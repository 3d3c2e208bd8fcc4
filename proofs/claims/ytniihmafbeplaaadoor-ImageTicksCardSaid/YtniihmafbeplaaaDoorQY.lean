/- The document's own image: Occupied, Told, Lit, At. The document's own image: At. -/
import Derived.Deep.CutRange
import Derived.Test.YtniihmafbeplaaaDoorQX
namespace Go.Proofs.YtniihmafbeplaaaDoor
open Go.RowKit Go.Shelf
set_option linter.unusedVariables false
set_option linter.unusedSimpArgs false

theorem occ_in {l : Lay} {im : Img} (hi : im.Wf) {k : Nat} (h1 : k < l.secs.length) (h2 : k < 24) {x : Int} (hx : im.free[k]? = some x) {st b : Bool} (hst : staleI l im = st) (hb : bitU im.o k = b) : occI l im (k : Int) = ((st || b) || decide (x < l.t0)) := by
  unfold occI
  rw [within_yes (by unfold cntI; omega), Int.toNat_natCast, told_clear hi (by omega), hx]
  unfold clearI
  rw [hst, hb]
  cases st <;> cases b <;> rfl
theorem occ_out {l : Lay} {im : Img} {s : Int} (h : ¬ (0 ≤ s ∧ s < l.secs.length ∧ s < 24)) : occI l im s = true := by
  unfold occI
  rw [within_no (by unfold cntI; omega)]
  rfl
set_option maxRecDepth 100000 in
set_option maxHeartbeats 8000000 in
theorem OccR_B {l : Lay} {im : Img} (hi : im.Wf) {w : World} (h : Fld l w) (s : Int) {r : Bool} (hr : occI l im s = r) : Calls Tryd.prog 21 #[l.val, im.val, .int .i64 s] w fun e w' => e = .returned (.bool r) ∧ Below w.heap.size w w' := by
  obtain ⟨Q, HQ, HQf, HQb, HQl, HQi, hq⟩ := keep_li h l.cells im.cells 29 35
  have hc30 := h.nS
  clear h
  by_cases hin : 0 ≤ s ∧ s < l.secs.length ∧ s < 24
  · obtain ⟨k, rfl⟩ : ∃ k : Nat, s = k := ⟨s.toNat, by omega⟩
    obtain ⟨x, hx⟩ : ∃ x, im.free[k]? = some x := ⟨_, List.getElem?_eq_getElem (by rw [hi.len]; omega)⟩
    obtain ⟨st, hst⟩ : ∃ b, staleI l im = b := ⟨_, rfl⟩
    obtain ⟨b, hb⟩ : ∃ b, bitU im.o k = b := ⟨_, rfl⟩
    have HR : Hid (((st || b) || decide (x < l.t0)) = r) := Lib.hid (by rw [← hr, occ_in hi (by omega) (by omega) hx hst hb])
    have KS : Hid (∀ W, Q W → Calls Tryd.prog 19 #[l.val, im.val] W fun e w' => e = .returned (.bool st) ∧ Below W.heap.size W w') := Lib.hid fun W hW => staleR_B hst (HQf.out W hW)
    have KB : Hid (∀ W, Q W → Calls Tryd.prog 40 #[.int .u32 im.o, .int .i64 (k : Nat)] W fun e w' => e = .returned (.bool b) ∧ Below W.heap.size W w') := Lib.hid fun W hW => bitR_any hi.o (by omega) hb W
    have HX := Lib.hid (im.c_free hx)
    have d0 : (0 : Int) ≤ (k : Int) := by omega
    have d1 : (k : Int) < (l.secs.length : Nat) := by omega
    have d2 : (k : Int) < 24 := by omega
    have D0 := Lib.hid d0
    have D2 := Lib.hid d2
    clear hx hst hb hr hin hc30
    have x0 := (HQl.out _ hq).cell_at 0 rfl
    go_enter Tryd.func21, Tryd.ntmps21
    go_upto_region 3 with (fail)
    clear x0 d0 d1 d2
    generalize (w.alloc (.cells #[.slice l.As l.secs.length l.cs, .slice l.Ag l.sigs.length l.cg, .slice l.Ae l.exits.length l.ce, .slice l.Af l.flanks.length l.cf, .int .i64 l.t0, .int .i64 l.t1, .int .i64 l.t2, .int .i64 l.t3, .int .i64 l.t4, .int .i64 l.t5, .int .i64 l.t6] 29)).alloc (.cells im.cells.toArray 35) = W0 at *
    cases st
    · cases b
      · skip
        go_wp2_with fail
        have HBS : Hid (∀ W, Below W0.heap.size W0 W → Q W) := Lib.hid (fun W hB => HQ.out _ _ hq hB)
        clear hq
        refine region_mix (Below W0.heap.size W0) [(0, false), (1, false), (2, false), (3, false), (4, false), (5, false), (6, false), (7, false), (8, false), (9, false), (10, false), (11, false), (12, false), (13, false), (14, false), (15, false), (16, false), (17, false), (18, false), (19, false), (20, false)] (by kernel_rfl) (by kernel_rfl) (Below W0.heap.size W0) ⟨Closed.below W0, fun _ h => h⟩ (Below.refl _ _).drew ?_
        simp only [pickOps, List.getElem?_cons_zero, List.getElem?_cons_succ]
        repeat (first | (refine mix_skip (by rfl) ?_; simp only [Act.put, List.setIfInBounds_toArray, List.set_cons_zero, List.set_cons_succ]) | (refine mix_read _ (by rfl) (fun W hW => exec_img hi.len (by rfl) (by rfl) (HQi.out W (HBS.out W hW))) ?_; simp only [Act.put, List.setIfInBounds_toArray, List.set_cons_zero, List.set_cons_succ]) | (refine mix_read _ (by rfl) (fun W hW => by (have hW := HBS.out W hW; have m0 := (HQl.out W hW); have x0 := m0.cell_at 0 rfl; have x1 := m0.cell_at 1 rfl; have x2 := m0.cell_at 2 rfl; have x3 := m0.cell_at 3 rfl; have x4 := m0.cell_at 4 rfl; have x5 := m0.cell_at 5 rfl; have x6 := m0.cell_at 6 rfl; have x7 := m0.cell_at 7 rfl; have x8 := m0.cell_at 8 rfl; have x9 := m0.cell_at 9 rfl; have x10 := m0.cell_at 10 rfl; clear m0; have y25 := (HQi.out W hW).cell_at 25 (im.c_in hi.len 0); have y := (HQi.out W hW).cell_at _ HX.out; have d0 := D0.out; have d2 := D2.out; go_simp; first | done | with_reducible rfl)) ?_; simp only [Act.put, List.setIfInBounds_toArray, List.set_cons_zero, List.set_cons_succ]) | (refine mix_call _ _ _ (by rfl) (fun W hW => by (have hW := HBS.out W hW; have m0 := (HQl.out W hW); have x0 := m0.cell_at 0 rfl; have x1 := m0.cell_at 1 rfl; have x2 := m0.cell_at 2 rfl; have x3 := m0.cell_at 3 rfl; have x4 := m0.cell_at 4 rfl; have x5 := m0.cell_at 5 rfl; have x6 := m0.cell_at 6 rfl; have x7 := m0.cell_at 7 rfl; have x8 := m0.cell_at 8 rfl; have x9 := m0.cell_at 9 rfl; have x10 := m0.cell_at 10 rfl; clear m0; have y25 := (HQi.out W hW).cell_at 25 (im.c_in hi.len 0); have y := (HQi.out W hW).cell_at _ HX.out; have d0 := D0.out; have d2 := D2.out; go_simp; first | done | rfl)) (fun W hW => KS.out W (HBS.out W hW)) ?_; simp only [Act.put, List.setIfInBounds_toArray, List.set_cons_zero, List.set_cons_succ]) | (refine mix_call _ _ _ (by rfl) (fun W hW => by (have hW := HBS.out W hW; have m0 := (HQl.out W hW); have x0 := m0.cell_at 0 rfl; have x1 := m0.cell_at 1 rfl; have x2 := m0.cell_at 2 rfl; have x3 := m0.cell_at 3 rfl; have x4 := m0.cell_at 4 rfl; have x5 := m0.cell_at 5 rfl; have x6 := m0.cell_at 6 rfl; have x7 := m0.cell_at 7 rfl; have x8 := m0.cell_at 8 rfl; have x9 := m0.cell_at 9 rfl; have x10 := m0.cell_at 10 rfl; clear m0; have y25 := (HQi.out W hW).cell_at 25 (im.c_in hi.len 0); have y := (HQi.out W hW).cell_at _ HX.out; have d0 := D0.out; have d2 := D2.out; go_simp; first | done | rfl)) (fun W hW => KB.out W (HBS.out W hW)) ?_; simp only [Act.put, List.setIfInBounds_toArray, List.set_cons_zero, List.set_cons_succ]))
        refine mix_nil (fun W hW => ?_)
        have hq := HBS.out W hW
        have HBW := Lib.hid hW
        clear hW HBS
        have HB := Lib.hid (HQb.out _ hq)
        clear hq HBW
        go_wp2_with fail
        go_ret
        exact ⟨ret_bool (by rw [← HR.out]; rfl), HB.out⟩
      · skip
        go_wp2_with fail
        have HBS : Hid (∀ W, Below W0.heap.size W0 W → Q W) := Lib.hid (fun W hB => HQ.out _ _ hq hB)
        clear hq
        refine region_mix (Below W0.heap.size W0) [(0, false), (1, false), (2, false), (3, false), (4, false), (5, false), (6, false), (7, false), (8, false), (9, false), (10, false), (11, false), (12, false), (13, false), (14, false), (15, false), (16, false), (17, false), (18, false), (19, false), (20, false)] (by kernel_rfl) (by kernel_rfl) (Below W0.heap.size W0) ⟨Closed.below W0, fun _ h => h⟩ (Below.refl _ _).drew ?_
        simp only [pickOps, List.getElem?_cons_zero, List.getElem?_cons_succ]
        repeat (first | (refine mix_skip (by rfl) ?_; simp only [Act.put, List.setIfInBounds_toArray, List.set_cons_zero, List.set_cons_succ]) | (refine mix_read _ (by rfl) (fun W hW => exec_img hi.len (by rfl) (by rfl) (HQi.out W (HBS.out W hW))) ?_; simp only [Act.put, List.setIfInBounds_toArray, List.set_cons_zero, List.set_cons_succ]) | (refine mix_read _ (by rfl) (fun W hW => by (have hW := HBS.out W hW; have m0 := (HQl.out W hW); have x0 := m0.cell_at 0 rfl; have x1 := m0.cell_at 1 rfl; have x2 := m0.cell_at 2 rfl; have x3 := m0.cell_at 3 rfl; have x4 := m0.cell_at 4 rfl; have x5 := m0.cell_at 5 rfl; have x6 := m0.cell_at 6 rfl; have x7 := m0.cell_at 7 rfl; have x8 := m0.cell_at 8 rfl; have x9 := m0.cell_at 9 rfl; have x10 := m0.cell_at 10 rfl; clear m0; have y25 := (HQi.out W hW).cell_at 25 (im.c_in hi.len 0); have y := (HQi.out W hW).cell_at _ HX.out; have d0 := D0.out; have d2 := D2.out; go_simp; first | done | with_reducible rfl)) ?_; simp only [Act.put, List.setIfInBounds_toArray, List.set_cons_zero, List.set_cons_succ]) | (refine mix_call _ _ _ (by rfl) (fun W hW => by (have hW := HBS.out W hW; have m0 := (HQl.out W hW); have x0 := m0.cell_at 0 rfl; have x1 := m0.cell_at 1 rfl; have x2 := m0.cell_at 2 rfl; have x3 := m0.cell_at 3 rfl; have x4 := m0.cell_at 4 rfl; have x5 := m0.cell_at 5 rfl; have x6 := m0.cell_at 6 rfl; have x7 := m0.cell_at 7 rfl; have x8 := m0.cell_at 8 rfl; have x9 := m0.cell_at 9 rfl; have x10 := m0.cell_at 10 rfl; clear m0; have y25 := (HQi.out W hW).cell_at 25 (im.c_in hi.len 0); have y := (HQi.out W hW).cell_at _ HX.out; have d0 := D0.out; have d2 := D2.out; go_simp; first | done | rfl)) (fun W hW => KS.out W (HBS.out W hW)) ?_; simp only [Act.put, List.setIfInBounds_toArray, List.set_cons_zero, List.set_cons_succ]) | (refine mix_call _ _ _ (by rfl) (fun W hW => by (have hW := HBS.out W hW; have m0 := (HQl.out W hW); have x0 := m0.cell_at 0 rfl; have x1 := m0.cell_at 1 rfl; have x2 := m0.cell_at 2 rfl; have x3 := m0.cell_at 3 rfl; have x4 := m0.cell_at 4 rfl; have x5 := m0.cell_at 5 rfl; have x6 := m0.cell_at 6 rfl; have x7 := m0.cell_at 7 rfl; have x8 := m0.cell_at 8 rfl; have x9 := m0.cell_at 9 rfl; have x10 := m0.cell_at 10 rfl; clear m0; have y25 := (HQi.out W hW).cell_at 25 (im.c_in hi.len 0); have y := (HQi.out W hW).cell_at _ HX.out; have d0 := D0.out; have d2 := D2.out; go_simp; first | done | rfl)) (fun W hW => KB.out W (HBS.out W hW)) ?_; simp only [Act.put, List.setIfInBounds_toArray, List.set_cons_zero, List.set_cons_succ]))
        refine mix_nil (fun W hW => ?_)
        have hq := HBS.out W hW
        have HBW := Lib.hid hW
        clear hW HBS
        have HB := Lib.hid (HQb.out _ hq)
        clear hq HBW
        go_wp2_with fail
        go_ret
        exact ⟨ret_bool (by rw [← HR.out]; rfl), HB.out⟩
    · skip
      go_wp2_with fail
      have HBS : Hid (∀ W, Below W0.heap.size W0 W → Q W) := Lib.hid (fun W hB => HQ.out _ _ hq hB)
      clear hq
      refine region_mix (Below W0.heap.size W0) [(0, false), (1, false), (2, false), (3, false), (4, false), (5, false), (6, false), (7, false), (8, false), (9, false), (10, false), (11, false), (12, false), (13, false), (14, false), (15, false), (16, false), (17, false), (18, false), (19, false), (20, false)] (by kernel_rfl) (by kernel_rfl) (Below W0.heap.size W0) ⟨Closed.below W0, fun _ h => h⟩ (Below.refl _ _).drew ?_
      simp only [pickOps, List.getElem?_cons_zero, List.getElem?_cons_succ]
      repeat (first | (refine mix_skip (by rfl) ?_; simp only [Act.put, List.setIfInBounds_toArray, List.set_cons_zero, List.set_cons_succ]) | (refine mix_read _ (by rfl) (fun W hW => exec_img hi.len (by rfl) (by rfl) (HQi.out W (HBS.out W hW))) ?_; simp only [Act.put, List.setIfInBounds_toArray, List.set_cons_zero, List.set_cons_succ]) | (refine mix_read _ (by rfl) (fun W hW => by (have hW := HBS.out W hW; have m0 := (HQl.out W hW); have x0 := m0.cell_at 0 rfl; have x1 := m0.cell_at 1 rfl; have x2 := m0.cell_at 2 rfl; have x3 := m0.cell_at 3 rfl; have x4 := m0.cell_at 4 rfl; have x5 := m0.cell_at 5 rfl; have x6 := m0.cell_at 6 rfl; have x7 := m0.cell_at 7 rfl; have x8 := m0.cell_at 8 rfl; have x9 := m0.cell_at 9 rfl; have x10 := m0.cell_at 10 rfl; clear m0; have y := (HQi.out W hW).cell_at _ HX.out; go_simp; first | done | with_reducible rfl)) ?_; simp only [Act.put, List.setIfInBounds_toArray, List.set_cons_zero, List.set_cons_succ]) | (refine mix_call _ _ _ (by rfl) (fun W hW => by (have hW := HBS.out W hW; have m0 := (HQl.out W hW); have x0 := m0.cell_at 0 rfl; have x1 := m0.cell_at 1 rfl; have x2 := m0.cell_at 2 rfl; have x3 := m0.cell_at 3 rfl; have x4 := m0.cell_at 4 rfl; have x5 := m0.cell_at 5 rfl; have x6 := m0.cell_at 6 rfl; have x7 := m0.cell_at 7 rfl; have x8 := m0.cell_at 8 rfl; have x9 := m0.cell_at 9 rfl; have x10 := m0.cell_at 10 rfl; clear m0; have y := (HQi.out W hW).cell_at _ HX.out; go_simp; first | done | rfl)) (fun W hW => KS.out W (HBS.out W hW)) ?_; simp only [Act.put, List.setIfInBounds_toArray, List.set_cons_zero, List.set_cons_succ]))
      refine mix_nil (fun W hW => ?_)
      have hq := HBS.out W hW
      have HBW := Lib.hid hW
      clear hW HBS
      have HB := Lib.hid (HQb.out _ hq)
      clear hq HBW
      go_wp2_with fail
      go_ret
      exact ⟨ret_bool (by rw [← HR.out]; rfl), HB.out⟩
  · have HR : Hid (true = r) := Lib.hid (by rw [← hr, occ_out hin])
    have x0 := (HQl.out _ hq).cell_at 0 rfl
    clear hr hi
    by_cases h0 : s < 0
    · clear hin hc30
      go_enter Tryd.func21, Tryd.ntmps21
      go_wp2_with fail
      go_ret
      exact ⟨ret_bool HR.out, HQb.out _ hq⟩
    · have h0' : 0 ≤ s := by omega
      by_cases h1 : s < (l.secs.length : Nat)
      · have h2 : 24 ≤ s := by omega
        clear hin hc30
        go_enter Tryd.func21, Tryd.ntmps21
        go_wp2_with fail
        go_ret
        exact ⟨ret_bool HR.out, HQb.out _ hq⟩
      · have h1' : ((l.secs.length : Nat) : Int) ≤ s := by omega
        clear hin hc30
        go_enter Tryd.func21, Tryd.ntmps21
        go_wp2_with fail
        go_ret
        exact ⟨ret_bool HR.out, HQb.out _ hq⟩
set_option maxRecDepth 100000 in
set_option maxHeartbeats 8000000 in
theorem ToldR_B {l : Lay} {im : Img} (hi : im.Wf) {w : World} (h : Fld l w) (n : Int) {r : Bool} (hr : told15 l im n (cntI l) im.o = r) : Calls Tryd.prog 25 #[l.val, im.val, .int .i64 n] w fun e w' => e = .returned (.bool r) ∧ Below w.heap.size w w' := by
  obtain ⟨Q, HQ, HQf, HQb, HQl, HQi, hq⟩ := keep_li h l.cells im.cells 29 35
  have hc30 := h.nS
  clear h
  by_cases hin : 0 ≤ n ∧ n < l.secs.length ∧ n < 24
  · obtain ⟨k, rfl⟩ : ∃ k : Nat, n = k := ⟨n.toNat, by omega⟩
    obtain ⟨st, hst⟩ : ∃ b, staleI l im = b := ⟨_, rfl⟩
    obtain ⟨b, hb⟩ : ∃ b, bitU im.o k = b := ⟨_, rfl⟩
    have HR : Hid ((!st && b) = r) := Lib.hid (by rw [← hr]; unfold told15; rw [within_yes (by unfold cntI; omega), Int.toNat_natCast]; unfold toldI; rw [hst, hb]; rfl)
    have KS : Hid (∀ W, Q W → Calls Tryd.prog 19 #[l.val, im.val] W fun e w' => e = .returned (.bool st) ∧ Below W.heap.size W w') := Lib.hid fun W hW => staleR_B hst (HQf.out W hW)
    have KB : Hid (∀ W, Q W → Calls Tryd.prog 40 #[.int .u32 im.o, .int .i64 (k : Nat)] W fun e w' => e = .returned (.bool b) ∧ Below W.heap.size W w') := Lib.hid fun W hW => bitR_any hi.o (by omega) hb W
    have d0 : (0 : Int) ≤ (k : Int) := by omega
    have d1 : (k : Int) < (l.secs.length : Nat) := by omega
    have d2 : (k : Int) < 24 := by omega
    clear hst hb hr hin hc30
    have m0 := HQl.out _ hq
    have x0 := m0.cell_at 0 rfl
    have x1 := m0.cell_at 1 rfl
    have x2 := m0.cell_at 2 rfl
    have x3 := m0.cell_at 3 rfl
    have x4 := m0.cell_at 4 rfl
    have x5 := m0.cell_at 5 rfl
    have x6 := m0.cell_at 6 rfl
    have x7 := m0.cell_at 7 rfl
    have x8 := m0.cell_at 8 rfl
    have x9 := m0.cell_at 9 rfl
    have x10 := m0.cell_at 10 rfl
    clear m0
    go_enter Tryd.func25, Tryd.ntmps25
    go_upto_region 1 with (fail)
    apply wp_region_lit
    repeat (first | (refine wpList_skip (by rfl) ?_; simp only [Act.put, List.setIfInBounds_toArray, List.set_cons_zero, List.set_cons_succ]) | (refine wpList_read _ (by rfl) (exec_img hi.len (by rfl) (by rfl) (HQi.out _ hq)) ?_; simp only [Act.put, List.setIfInBounds_toArray, List.set_cons_zero, List.set_cons_succ]) | (refine wpList_read _ (by rfl) (by (go_simp; first | done | with_reducible rfl)) ?_; simp only [Act.put, List.setIfInBounds_toArray, List.set_cons_zero, List.set_cons_succ]))
    refine wpList_callv (by rfl) (by (go_simp; first | done | rfl)) (KS.out _ hq) (fun w1 hB => ?_)
    simp only [Act.put, List.setIfInBounds_toArray, List.set_cons_zero, List.set_cons_succ]
    have hq := HQ.out _ _ hq hB
    clear x0 x1 x2 x3 x4 x5 x6 x7 x8 x9 x10 hB
    have y25 := (HQi.out _ hq).cell_at 25 (im.c_in hi.len 0)
    cases st
    · skip
      repeat (first | (refine wpList_skip (by rfl) ?_; simp only [Act.put, List.setIfInBounds_toArray, List.set_cons_zero, List.set_cons_succ]) | (refine wpList_read _ (by rfl) (by (go_simp; first | done | with_reducible rfl)) ?_; simp only [Act.put, List.setIfInBounds_toArray, List.set_cons_zero, List.set_cons_succ]))
      refine wpList_callv (by rfl) (by (go_simp; first | done | rfl)) (KB.out _ hq) (fun w2 hB => ?_)
      simp only [Act.put, List.setIfInBounds_toArray, List.set_cons_zero, List.set_cons_succ]
      have HB := Lib.hid (HQb.out _ (HQ.out _ _ hq hB))
      clear hB hq y25
      go_wp2_with fail
      go_ret
      exact ⟨ret_bool (by rw [← HR.out]; rfl), HB.out⟩
    · have HB := Lib.hid (HQb.out _ hq)
      clear hq y25
      go_wp2_with fail
      go_ret
      exact ⟨ret_bool (by rw [← HR.out]; rfl), HB.out⟩
  · have HR : Hid (false = r) := Lib.hid (by rw [← hr]; unfold told15; rw [within_no (by unfold cntI; omega)]; rfl)
    have x0 := (HQl.out _ hq).cell_at 0 rfl
    clear hr hi
    by_cases h0 : 0 ≤ n
    · by_cases h1 : n < (l.secs.length : Nat)
      · have h2 : ¬ n < 24 := by omega
        clear hin hc30
        go_enter Tryd.func25, Tryd.ntmps25
        go_wp2_with fail
        go_ret
        exact ⟨ret_bool HR.out, HQb.out _ hq⟩
      · clear hin hc30
        go_enter Tryd.func25, Tryd.ntmps25
        go_wp2_with fail
        go_ret
        exact ⟨ret_bool HR.out, HQb.out _ hq⟩
    · clear hin hc30
      go_enter Tryd.func25, Tryd.ntmps25
      go_wp2_with fail
      go_ret
      exact ⟨ret_bool HR.out, HQb.out _ hq⟩
set_option maxRecDepth 100000 in
set_option maxHeartbeats 8000000 in
theorem LitR_B {l : Lay} {im : Img} (hi : im.Wf) {w : World} (h : Fld l w) (n : Int) {r : Bool} (hr : told15 l im n l.sigs.length im.p = r) : Calls Tryd.prog 27 #[l.val, im.val, .int .i64 n] w fun e w' => e = .returned (.bool r) ∧ Below w.heap.size w w' := by
  obtain ⟨Q, HQ, HQf, HQb, HQl, HQi, hq⟩ := keep_li h l.cells im.cells 29 35
  have hc30 := h.nG
  clear h
  by_cases hin : 0 ≤ n ∧ n < l.sigs.length
  · obtain ⟨k, rfl⟩ : ∃ k : Nat, n = k := ⟨n.toNat, by omega⟩
    obtain ⟨st, hst⟩ : ∃ b, staleI l im = b := ⟨_, rfl⟩
    obtain ⟨b, hb⟩ : ∃ b, bitU im.p k = b := ⟨_, rfl⟩
    have HR : Hid ((!st && b) = r) := Lib.hid (by rw [← hr]; unfold told15; rw [within_yes (by omega), Int.toNat_natCast]; unfold toldI; rw [hst, hb]; rfl)
    have KS : Hid (∀ W, Q W → Calls Tryd.prog 19 #[l.val, im.val] W fun e w' => e = .returned (.bool st) ∧ Below W.heap.size W w') := Lib.hid fun W hW => staleR_B hst (HQf.out W hW)
    have KB : Hid (∀ W, Q W → Calls Tryd.prog 40 #[.int .u32 im.p, .int .i64 (k : Nat)] W fun e w' => e = .returned (.bool b) ∧ Below W.heap.size W w') := Lib.hid fun W hW => bitR_any hi.p (by omega) hb W
    have d0 : (0 : Int) ≤ (k : Int) := by omega
    have d1 : (k : Int) < (l.sigs.length : Nat) := by omega
    clear hst hb hr hin hc30
    have m0 := HQl.out _ hq
    have x0 := m0.cell_at 0 rfl
    have x1 := m0.cell_at 1 rfl
    have x2 := m0.cell_at 2 rfl
    have x3 := m0.cell_at 3 rfl
    have x4 := m0.cell_at 4 rfl
    have x5 := m0.cell_at 5 rfl
    have x6 := m0.cell_at 6 rfl
    have x7 := m0.cell_at 7 rfl
    have x8 := m0.cell_at 8 rfl
    have x9 := m0.cell_at 9 rfl
    have x10 := m0.cell_at 10 rfl
    clear m0
    go_enter Tryd.func27, Tryd.ntmps27
    go_upto_region 1 with (fail)
    apply wp_region_lit
    repeat (first | (refine wpList_skip (by rfl) ?_; simp only [Act.put, List.setIfInBounds_toArray, List.set_cons_zero, List.set_cons_succ]) | (refine wpList_read _ (by rfl) (exec_img hi.len (by rfl) (by rfl) (HQi.out _ hq)) ?_; simp only [Act.put, List.setIfInBounds_toArray, List.set_cons_zero, List.set_cons_succ]) | (refine wpList_read _ (by rfl) (by (go_simp; first | done | with_reducible rfl)) ?_; simp only [Act.put, List.setIfInBounds_toArray, List.set_cons_zero, List.set_cons_succ]))
    refine wpList_callv (by rfl) (by (go_simp; first | done | rfl)) (KS.out _ hq) (fun w1 hB => ?_)
    simp only [Act.put, List.setIfInBounds_toArray, List.set_cons_zero, List.set_cons_succ]
    have hq := HQ.out _ _ hq hB
    clear x0 x1 x2 x3 x4 x5 x6 x7 x8 x9 x10 hB
    have y28 := (HQi.out _ hq).cell_at 28 (im.c_in hi.len 3)
    cases st
    · skip
      repeat (first | (refine wpList_skip (by rfl) ?_; simp only [Act.put, List.setIfInBounds_toArray, List.set_cons_zero, List.set_cons_succ]) | (refine wpList_read _ (by rfl) (by (go_simp; first | done | with_reducible rfl)) ?_; simp only [Act.put, List.setIfInBounds_toArray, List.set_cons_zero, List.set_cons_succ]))
      refine wpList_callv (by rfl) (by (go_simp; first | done | rfl)) (KB.out _ hq) (fun w2 hB => ?_)
      simp only [Act.put, List.setIfInBounds_toArray, List.set_cons_zero, List.set_cons_succ]
      have HB := Lib.hid (HQb.out _ (HQ.out _ _ hq hB))
      clear hB hq y28
      go_wp2_with fail
      go_ret
      exact ⟨ret_bool (by rw [← HR.out]; rfl), HB.out⟩
    · have HB := Lib.hid (HQb.out _ hq)
      clear hq y28
      go_wp2_with fail
      go_ret
      exact ⟨ret_bool (by rw [← HR.out]; rfl), HB.out⟩
  · have HR : Hid (false = r) := Lib.hid (by rw [← hr]; unfold told15; rw [within_no hin]; rfl)
    have x1 := (HQl.out _ hq).cell_at 1 rfl
    clear hr hi
    by_cases h0 : 0 ≤ n
    · have h1 : ¬ n < (l.sigs.length : Nat) := by omega
      clear hin hc30
      go_enter Tryd.func27, Tryd.ntmps27
      go_wp2_with fail
      go_ret
      exact ⟨ret_bool HR.out, HQb.out _ hq⟩
    · clear hin hc30
      go_enter Tryd.func27, Tryd.ntmps27
      go_wp2_with fail
      go_ret
      exact ⟨ret_bool HR.out, HQb.out _ hq⟩

end Go.Proofs.YtniihmafbeplaaaDoor
namespace Go.Proofs.YtniihmafbeplaaaDoor
open Go.RowKit Go.Shelf
set_option linter.unusedVariables false
set_option linter.unusedSimpArgs false

set_option maxRecDepth 100000 in
set_option maxHeartbeats 8000000 in
theorem AtR_B {l : Lay} {im : Img} (hi : im.Wf) {w : World} (h : Fld l w) (p : Int) {r : Int} (hr : atI l im p = r) : Calls Tryd.prog 23 #[l.val, im.val, .int .i64 p] w fun e w' => e = .returned (.int .i64 r) ∧ Below w.heap.size w w' := by
  obtain ⟨Q, HQ, HQf, HQb, HQl, HQi, hq⟩ := keep_li h l.cells im.cells 29 35
  have hc30 := h.nS
  by_cases hin : 0 ≤ p ∧ p < l.secs.length
  · obtain ⟨k, rfl⟩ : ∃ k : Nat, p = k := ⟨p.toNat, by omega⟩
    have hlt : k < l.secs.length := by omega
    have hlt' : (k : Int) < (l.secs.length : Nat) := by omega
    have h0' : (0 : Int) ≤ (k : Int) := by omega
    obtain ⟨sc, hx⟩ : ∃ x, l.secs[k]? = some x := ⟨_, List.getElem?_eq_getElem hlt⟩
    have hkv : kindV l k = sc.k := by unfold kindV; simp [hx]
    obtain ⟨b, off, hA, _, hc0, _⟩ := (HQf.out _ hq).lies.secs.nth (n := 11) (fun _ => rfl) (by omega) hx
    have c0 := hc0 k _ _ hx rfl
    obtain ⟨st, hst⟩ : ∃ b, staleI l im = b := ⟨_, rfl⟩
    obtain ⟨bn, hbn⟩ : ∃ b, bitU im.n k = b := ⟨_, rfl⟩
    obtain ⟨br, hbr⟩ : ∃ b, bitU im.r k = b := ⟨_, rfl⟩
    have HR : Hid ((if decide (sc.k = 2) then standI (!st && bn) (!st && br) else -1) = r) := Lib.hid (by
      rw [← hr]
      unfold atI toldI
      rw [within_yes hlt, Int.toNat_natCast, hst, hbn, hbr, hkv]
      rfl)
    have KS : Hid (∀ W, Q W → Calls Tryd.prog 19 #[l.val, im.val] W fun e w' => e = .returned (.bool st) ∧ Below W.heap.size W w') := Lib.hid fun W hW => staleR_B hst (HQf.out W hW)
    have KN : Hid (∀ W, Q W → Calls Tryd.prog 40 #[.int .u32 im.n, .int .i64 (k : Nat)] W fun e w' => e = .returned (.bool bn) ∧ Below W.heap.size W w') := Lib.hid fun W hW => bitR_any hi.n (by omega) hbn W
    have KR : Hid (∀ W, Q W → Calls Tryd.prog 40 #[.int .u32 im.r, .int .i64 (k : Nat)] W fun e w' => e = .returned (.bool br) ∧ Below W.heap.size W w') := Lib.hid fun W hW => bitR_any hi.r (by omega) hbr W
    have HA := Lib.hid hA
    have m0 := HQl.out _ hq
    have x0 := m0.cell_at 0 rfl
    have x1 := m0.cell_at 1 rfl
    have x2 := m0.cell_at 2 rfl
    have x3 := m0.cell_at 3 rfl
    have x4 := m0.cell_at 4 rfl
    have x5 := m0.cell_at 5 rfl
    have x6 := m0.cell_at 6 rfl
    have x7 := m0.cell_at 7 rfl
    have x8 := m0.cell_at 8 rfl
    have x9 := m0.cell_at 9 rfl
    have x10 := m0.cell_at 10 rfl
    clear m0
    rw [hA] at x0
    clear hr hin hc30 hst hbn hbr hx hkv hc0 hA h
    have e1 : decide ((l.secs.length : Nat) ≤ k) = false := decide_eq_false (by omega)
    have e2 : decide (((l.secs.length : Nat) : Int) ≤ (k : Int)) = false := decide_eq_false (by omega)
    have e3 : decide ((k : Int) < 0) = false := decide_eq_false (by omega)
    by_cases h2 : sc.k = 2
    · have HR2 : Hid (standI (!st && bn) (!st && br) = r) := Lib.hid (by rw [← HR.out, decide_eq_true h2]; rfl)
      rw [h2] at c0
      clear HR
      go_enter Tryd.func23, Tryd.ntmps23
      go_upto_region 1 with (fail)
      apply wp_region_lit
      repeat (first | (refine wpList_skip (by rfl) ?_; simp only [Act.put, List.setIfInBounds_toArray, List.set_cons_zero, List.set_cons_succ]) | (refine wpList_read _ (by rfl) (exec_img hi.len (by rfl) (by rfl) (HQi.out _ hq)) ?_; simp only [Act.put, List.setIfInBounds_toArray, List.set_cons_zero, List.set_cons_succ]) | (refine wpList_read _ (by rfl) (by (go_simp; first | done | with_reducible rfl)) ?_; simp only [Act.put, List.setIfInBounds_toArray, List.set_cons_zero, List.set_cons_succ]))
      rw [← HA.out] at x0
      refine wpList_callv (by rfl) (by (rw [← HA.out]; go_simp; first | done | rfl)) (KS.out _ hq) (fun w1 hB => ?_)
      simp only [Act.put, List.setIfInBounds_toArray, List.set_cons_zero, List.set_cons_succ]
      have hq := HQ.out _ _ hq hB
      clear x0 x1 x2 x3 x4 x5 x6 x7 x8 x9 x10 hB c0
      cases st
      · go_upto_region 3 with (fail)
        go_wp2_with fail
        have HBS : Hid (∀ W, Below w1.heap.size w1 W → Q W) := Lib.hid (fun W hB => HQ.out _ _ hq hB)
        clear hq
        refine region_mix (Below w1.heap.size w1) [(0, false), (1, false), (2, false), (3, false), (4, false), (5, false), (6, false), (7, false), (8, false), (9, false), (10, false), (11, false)] (by kernel_rfl) (by kernel_rfl) (Below w1.heap.size w1) ⟨Closed.below w1, fun _ h => h⟩ (Below.refl _ _).drew ?_
        simp only [pickOps, List.getElem?_cons_zero, List.getElem?_cons_succ]
        repeat (first | (refine mix_skip (by rfl) ?_; simp only [Act.put, List.setIfInBounds_toArray, List.set_cons_zero, List.set_cons_succ]) | (refine mix_read _ (by rfl) (fun W hW => by (have hW := HBS.out W hW; have y26 := (HQi.out W hW).cell_at 26 (im.c_in hi.len 1); have y27 := (HQi.out W hW).cell_at 27 (im.c_in hi.len 2); go_simp; first | done | with_reducible rfl)) ?_; simp only [Act.put, List.setIfInBounds_toArray, List.set_cons_zero, List.set_cons_succ]) | (refine mix_call _ _ _ (by rfl) (fun W hW => by (have hW := HBS.out W hW; have y26 := (HQi.out W hW).cell_at 26 (im.c_in hi.len 1); have y27 := (HQi.out W hW).cell_at 27 (im.c_in hi.len 2); go_simp; first | done | rfl)) (fun W hW => KN.out W (HBS.out W hW)) ?_; simp only [Act.put, List.setIfInBounds_toArray, List.set_cons_zero, List.set_cons_succ]) | (refine mix_call _ _ _ (by rfl) (fun W hW => by (have hW := HBS.out W hW; have y26 := (HQi.out W hW).cell_at 26 (im.c_in hi.len 1); have y27 := (HQi.out W hW).cell_at 27 (im.c_in hi.len 2); go_simp; first | done | rfl)) (fun W hW => KR.out W (HBS.out W hW)) ?_; simp only [Act.put, List.setIfInBounds_toArray, List.set_cons_zero, List.set_cons_succ]))
        refine mix_nil (fun W hW => ?_)
        have hq := HBS.out W hW
        have HBW := Lib.hid hW
        clear hW HBS
        have HB := Lib.hid (HQb.out _ hq)
        clear hq HBW
        cases bn <;> cases br <;> (go_wp2_with fail; go_ret; exact ⟨ret_int HR2.out, HB.out⟩)
      · have HB := Lib.hid (HQb.out _ hq)
        clear hq
        go_wp2_with fail
        go_ret
        exact ⟨ret_int HR2.out, HB.out⟩
    · have HR2 : Hid ((-1 : Int) = r) := Lib.hid (by rw [← HR.out, decide_eq_false h2]; rfl)
      have HB := Lib.hid (HQb.out _ hq)
      clear HR hq
      go_enter Tryd.func23, Tryd.ntmps23
      go_wp2_with fail
      go_ret
      exact ⟨ret_int HR2.out, HB.out⟩
  · have HR : Hid ((-1 : Int) = r) := Lib.hid (by
      rw [← hr]
      unfold atI
      rw [within_no hin]
      rfl)
    have x0 := (HQl.out _ hq).cell_at 0 rfl
    have HB := Lib.hid (HQb.out _ hq)
    clear hr hq h
    by_cases h0 : p < 0
    · clear hin hc30
      go_enter Tryd.func23, Tryd.ntmps23
      go_wp2_with fail
      go_ret
      exact ⟨ret_int HR.out, HB.out⟩
    · have h1 : ((l.secs.length : Nat) : Int) ≤ p := by omega
      clear hin hc30
      go_enter Tryd.func23, Tryd.ntmps23
      go_wp2_with fail
      go_ret
      exact ⟨ret_int HR.out, HB.out⟩

end Go.Proofs.YtniihmafbeplaaaDoor
