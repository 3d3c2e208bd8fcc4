/- Package image: Told, Lit, At. -/
import Derived.Deep.CutRange
import Derived.Test.YtniihmafbeplaaaDoorQImD
namespace Go.Proofs.YtniihmafbeplaaaDoor
open Go.RowKit Go.Shelf
set_option linter.unusedVariables false
set_option linter.unusedSimpArgs false

def told15 (l : Lay) (im : Img) (n : Int) (m : Nat) (b : Int) : Bool := withinI n (m : Int) && toldI (staleI l im) b n.toNat
set_option maxRecDepth 100000 in
set_option maxHeartbeats 8000000 in
theorem Told_B {l : Lay} {im : Img} (hi : im.Wf) {w : World} (h : Fld l w) (n : Int) {r : Bool} (hr : told15 l im n (cntI l) im.o = r) : Calls Tryd.prog 24 #[l.val, im.val, .int .i64 n] w fun e w' => e = .returned (.bool r) ∧ Below w.heap.size w w' := by
  obtain ⟨Q, HQ, HQf, HQb, HQl, HQi, hq⟩ := keep_li h l.cells im.cells 29 35
  have KC : Hid (∀ W, Q W → Calls Tryd.prog 43 #[l.val] W fun e w' => e = .returned (.int .i64 (cntI l : Nat)) ∧ Below W.heap.size W w') := Lib.hid fun W _ => counts_B
  have KT := Lib.hid fun W (hW : Q W) => told_B hi im.o (HQf.out W hW)
  have hc24 := cnt_le l
  by_cases hin : 0 ≤ n ∧ n < cntI l
  · obtain ⟨k, rfl⟩ : ∃ k : Nat, n = k := ⟨n.toNat, by omega⟩
    have KW : Hid (∀ W, Q W → Calls Tryd.prog 41 #[.int .i64 (k : Nat), .int .i64 (cntI l : Nat)] W fun e w' => e = .returned (.bool true) ∧ Below W.heap.size W w') := Lib.hid fun W _ => (withinI_any _ _ W).mono fun e w' h => ⟨by rw [h.1, within_yes (by omega)], by rw [h.2]; exact Below.refl _ _⟩
    have HR : Hid (toldI (staleI l im) im.o k = r) := Lib.hid (by
      rw [← hr]
      unfold told15
      rw [within_yes (by omega), Int.toNat_natCast]
      rfl)
    have K1 : Hid (∀ (g j : Nat) (W : World), Whole W g 4 [.bool (staleI l im)] → Whole W j 31 [.int .u32 im.o] → Calls Tryd.prog 52 #[.int .i64 (k : Nat), .pointer (some ⟨g, 0, none⟩), .pointer (some ⟨j, 0, none⟩)] W fun e w' => e = .returned (.bool r) ∧ w' = W) := Lib.hid fun g j W h1 h2 => told1_any h1 h2 hi.o k (by omega) HR.out
    clear hr hin hc24 HR
    have m0 := HQl.out _ hq
    have x0 := m0.cell_at 0 rfl
    have x1 := m0.cell_at 1 rfl
    have x2 := m0.cell_at 2 rfl
    have x3 := m0.cell_at 3 rfl
    have x4 := m0.cell_at 4 rfl
    have x5 := m0.cell_at 5 rfl
    have x6 := m0.cell_at 6 rfl
    have x7 := m0.cell_at 7 rfl
    have x8 := m0.cell_at 8 rfl
    have x9 := m0.cell_at 9 rfl
    have x10 := m0.cell_at 10 rfl
    clear m0
    go_enter Tryd.func24, Tryd.ntmps24
    go_upto_region 1 with (fail)
    apply wp_region_lit
    repeat (first | (refine wpList_skip (by rfl) ?_; simp only [Act.put, List.setIfInBounds_toArray, List.set_cons_zero, List.set_cons_succ]) | (refine wpList_read _ (by rfl) (exec_img hi.len (by rfl) (by rfl) (HQi.out _ hq)) ?_; simp only [Act.put, List.setIfInBounds_toArray, List.set_cons_zero, List.set_cons_succ]) | (refine wpList_read _ (by rfl) (by (go_simp; first | done | with_reducible rfl)) ?_; simp only [Act.put, List.setIfInBounds_toArray, List.set_cons_zero, List.set_cons_succ]))
    refine wpList_callv (by rfl) (by (go_simp; first | done | rfl)) (KC.out _ hq) (fun w1 hB => ?_)
    simp only [Act.put, List.setIfInBounds_toArray, List.set_cons_zero, List.set_cons_succ]
    have hq := HQ.out _ _ hq hB
    clear x0 x1 x2 x3 x4 x5 x6 x7 x8 x9 x10 hB
    refine wpList_callv (by rfl) (by (go_simp; first | done | rfl)) (KW.out _ hq) (fun w2 hB => ?_)
    simp only [Act.put, List.setIfInBounds_toArray, List.set_cons_zero, List.set_cons_succ]
    have hq := HQ.out _ _ hq hB
    clear hB
    have m0 := HQl.out _ hq
    have x0 := m0.cell_at 0 rfl
    have x1 := m0.cell_at 1 rfl
    have x2 := m0.cell_at 2 rfl
    have x3 := m0.cell_at 3 rfl
    have x4 := m0.cell_at 4 rfl
    have x5 := m0.cell_at 5 rfl
    have x6 := m0.cell_at 6 rfl
    have x7 := m0.cell_at 7 rfl
    have x8 := m0.cell_at 8 rfl
    have x9 := m0.cell_at 9 rfl
    have x10 := m0.cell_at 10 rfl
    clear m0
    have y25 := (HQi.out _ hq).cell_at 25 (im.c_in hi.len 0)
    repeat (first | (refine wpList_skip (by rfl) ?_; simp only [Act.put, List.setIfInBounds_toArray, List.set_cons_zero, List.set_cons_succ]) | (refine wpList_read _ (by rfl) (exec_img hi.len (by rfl) (by rfl) (HQi.out _ hq)) ?_; simp only [Act.put, List.setIfInBounds_toArray, List.set_cons_zero, List.set_cons_succ]) | (refine wpList_read _ (by rfl) (by (go_simp; first | done | with_reducible rfl)) ?_; simp only [Act.put, List.setIfInBounds_toArray, List.set_cons_zero, List.set_cons_succ]))
    refine wpList_calle (by rfl) (by (go_simp; first | done | rfl)) (KT.out _ hq) (fun v w3 ⟨⟨⟨g, j, hv, h1, h2⟩⟩, hB⟩ => ?_)
    simp only [Act.put, List.setIfInBounds_toArray, List.set_cons_zero, List.set_cons_succ]
    subst hv
    have hq := HQ.out _ _ hq hB
    clear x0 x1 x2 x3 x4 x5 x6 x7 x8 x9 x10 y25 hB
    repeat (first | (refine wpList_skip (by rfl) ?_; simp only [Act.put, List.setIfInBounds_toArray, List.set_cons_zero, List.set_cons_succ]) | (refine wpList_read _ (by rfl) (exec_img hi.len (by rfl) (by rfl) (HQi.out _ hq)) ?_; simp only [Act.put, List.setIfInBounds_toArray, List.set_cons_zero, List.set_cons_succ]) | (refine wpList_read _ (by rfl) (by (go_simp; first | done | with_reducible rfl)) ?_; simp only [Act.put, List.setIfInBounds_toArray, List.set_cons_zero, List.set_cons_succ]))
    refine wpList_callv (by rfl) (by (go_simp; first | done | rfl)) (K1.out g j w3 h1 h2) (fun w4 h => ?_)
    simp only [Act.put, List.setIfInBounds_toArray, List.set_cons_zero, List.set_cons_succ]
    subst h
    have HB := Lib.hid (HQb.out _ hq)
    clear h1 h2 hq
    go_wp2_with fail
    go_ret
    exact ⟨rfl, HB.out⟩
  · have KW : Hid (∀ W, Q W → Calls Tryd.prog 41 #[.int .i64 n, .int .i64 (cntI l : Nat)] W fun e w' => e = .returned (.bool false) ∧ Below W.heap.size W w') := Lib.hid fun W _ => (withinI_any _ _ W).mono fun e w' h => ⟨by rw [h.1, within_no hin], by rw [h.2]; exact Below.refl _ _⟩
    have HR : Hid (false = r) := Lib.hid (by
      rw [← hr]
      unfold told15
      rw [within_no hin]
      rfl)
    clear hr hin hc24
    have m0 := HQl.out _ hq
    have x0 := m0.cell_at 0 rfl
    have x1 := m0.cell_at 1 rfl
    have x2 := m0.cell_at 2 rfl
    have x3 := m0.cell_at 3 rfl
    have x4 := m0.cell_at 4 rfl
    have x5 := m0.cell_at 5 rfl
    have x6 := m0.cell_at 6 rfl
    have x7 := m0.cell_at 7 rfl
    have x8 := m0.cell_at 8 rfl
    have x9 := m0.cell_at 9 rfl
    have x10 := m0.cell_at 10 rfl
    clear m0
    go_enter Tryd.func24, Tryd.ntmps24
    go_upto_region 1 with (fail)
    apply wp_region_lit
    repeat (first | (refine wpList_skip (by rfl) ?_; simp only [Act.put, List.setIfInBounds_toArray, List.set_cons_zero, List.set_cons_succ]) | (refine wpList_read _ (by rfl) (exec_img hi.len (by rfl) (by rfl) (HQi.out _ hq)) ?_; simp only [Act.put, List.setIfInBounds_toArray, List.set_cons_zero, List.set_cons_succ]) | (refine wpList_read _ (by rfl) (by (go_simp; first | done | with_reducible rfl)) ?_; simp only [Act.put, List.setIfInBounds_toArray, List.set_cons_zero, List.set_cons_succ]))
    refine wpList_callv (by rfl) (by (go_simp; first | done | rfl)) (KC.out _ hq) (fun w1 hB => ?_)
    simp only [Act.put, List.setIfInBounds_toArray, List.set_cons_zero, List.set_cons_succ]
    have hq := HQ.out _ _ hq hB
    clear x0 x1 x2 x3 x4 x5 x6 x7 x8 x9 x10 hB
    refine wpList_callv (by rfl) (by (go_simp; first | done | rfl)) (KW.out _ hq) (fun w2 hB => ?_)
    simp only [Act.put, List.setIfInBounds_toArray, List.set_cons_zero, List.set_cons_succ]
    have HB := Lib.hid (HQb.out _ (HQ.out _ _ hq hB))
    clear hB hq
    go_wp2_with fail
    go_ret
    exact ⟨ret_bool HR.out, HB.out⟩
set_option maxRecDepth 100000 in
set_option maxHeartbeats 8000000 in
theorem Lit_B {l : Lay} {im : Img} (hi : im.Wf) {w : World} (h : Fld l w) (n : Int) {r : Bool} (hr : told15 l im n l.sigs.length im.p = r) : Calls Tryd.prog 26 #[l.val, im.val, .int .i64 n] w fun e w' => e = .returned (.bool r) ∧ Below w.heap.size w w' := by
  obtain ⟨Q, HQ, HQf, HQb, HQl, HQi, hq⟩ := keep_li h l.cells im.cells 29 35
  have KT := Lib.hid fun W (hW : Q W) => told_B hi im.p (HQf.out W hW)
  have hc30 := h.nG
  by_cases hin : 0 ≤ n ∧ n < l.sigs.length
  · obtain ⟨k, rfl⟩ : ∃ k : Nat, n = k := ⟨n.toNat, by omega⟩
    have KW : Hid (∀ W, Q W → Calls Tryd.prog 41 #[.int .i64 (k : Nat), .int .i64 (l.sigs.length : Nat)] W fun e w' => e = .returned (.bool true) ∧ Below W.heap.size W w') := Lib.hid fun W _ => (withinI_any _ _ W).mono fun e w' h => ⟨by rw [h.1, within_yes (by omega)], by rw [h.2]; exact Below.refl _ _⟩
    have HR : Hid (toldI (staleI l im) im.p k = r) := Lib.hid (by
      rw [← hr]
      unfold told15
      rw [within_yes (by omega), Int.toNat_natCast]
      rfl)
    have K1 : Hid (∀ (g j : Nat) (W : World), Whole W g 4 [.bool (staleI l im)] → Whole W j 31 [.int .u32 im.p] → Calls Tryd.prog 52 #[.int .i64 (k : Nat), .pointer (some ⟨g, 0, none⟩), .pointer (some ⟨j, 0, none⟩)] W fun e w' => e = .returned (.bool r) ∧ w' = W) := Lib.hid fun g j W h1 h2 => told1_any h1 h2 hi.p k (by omega) HR.out
    clear hr hin hc30 HR
    have m0 := HQl.out _ hq
    have x0 := m0.cell_at 0 rfl
    have x1 := m0.cell_at 1 rfl
    have x2 := m0.cell_at 2 rfl
    have x3 := m0.cell_at 3 rfl
    have x4 := m0.cell_at 4 rfl
    have x5 := m0.cell_at 5 rfl
    have x6 := m0.cell_at 6 rfl
    have x7 := m0.cell_at 7 rfl
    have x8 := m0.cell_at 8 rfl
    have x9 := m0.cell_at 9 rfl
    have x10 := m0.cell_at 10 rfl
    clear m0
    go_enter Tryd.func26, Tryd.ntmps26
    go_upto_region 1 with (fail)
    apply wp_region_lit
    repeat (first | (refine wpList_skip (by rfl) ?_; simp only [Act.put, List.setIfInBounds_toArray, List.set_cons_zero, List.set_cons_succ]) | (refine wpList_read _ (by rfl) (exec_img hi.len (by rfl) (by rfl) (HQi.out _ hq)) ?_; simp only [Act.put, List.setIfInBounds_toArray, List.set_cons_zero, List.set_cons_succ]) | (refine wpList_read _ (by rfl) (by (go_simp; first | done | with_reducible rfl)) ?_; simp only [Act.put, List.setIfInBounds_toArray, List.set_cons_zero, List.set_cons_succ]))
    refine wpList_callv (by rfl) (by (go_simp; first | done | rfl)) (KW.out _ hq) (fun w2 hB => ?_)
    simp only [Act.put, List.setIfInBounds_toArray, List.set_cons_zero, List.set_cons_succ]
    have hq := HQ.out _ _ hq hB
    clear x0 x1 x2 x3 x4 x5 x6 x7 x8 x9 x10 hB
    have m0 := HQl.out _ hq
    have x0 := m0.cell_at 0 rfl
    have x1 := m0.cell_at 1 rfl
    have x2 := m0.cell_at 2 rfl
    have x3 := m0.cell_at 3 rfl
    have x4 := m0.cell_at 4 rfl
    have x5 := m0.cell_at 5 rfl
    have x6 := m0.cell_at 6 rfl
    have x7 := m0.cell_at 7 rfl
    have x8 := m0.cell_at 8 rfl
    have x9 := m0.cell_at 9 rfl
    have x10 := m0.cell_at 10 rfl
    clear m0
    have y28 := (HQi.out _ hq).cell_at 28 (im.c_in hi.len 3)
    repeat (first | (refine wpList_skip (by rfl) ?_; simp only [Act.put, List.setIfInBounds_toArray, List.set_cons_zero, List.set_cons_succ]) | (refine wpList_read _ (by rfl) (exec_img hi.len (by rfl) (by rfl) (HQi.out _ hq)) ?_; simp only [Act.put, List.setIfInBounds_toArray, List.set_cons_zero, List.set_cons_succ]) | (refine wpList_read _ (by rfl) (by (go_simp; first | done | with_reducible rfl)) ?_; simp only [Act.put, List.setIfInBounds_toArray, List.set_cons_zero, List.set_cons_succ]))
    refine wpList_calle (by rfl) (by (go_simp; first | done | rfl)) (KT.out _ hq) (fun v w3 ⟨⟨⟨g, j, hv, h1, h2⟩⟩, hB⟩ => ?_)
    simp only [Act.put, List.setIfInBounds_toArray, List.set_cons_zero, List.set_cons_succ]
    subst hv
    have hq := HQ.out _ _ hq hB
    clear x0 x1 x2 x3 x4 x5 x6 x7 x8 x9 x10 y28 hB
    repeat (first | (refine wpList_skip (by rfl) ?_; simp only [Act.put, List.setIfInBounds_toArray, List.set_cons_zero, List.set_cons_succ]) | (refine wpList_read _ (by rfl) (exec_img hi.len (by rfl) (by rfl) (HQi.out _ hq)) ?_; simp only [Act.put, List.setIfInBounds_toArray, List.set_cons_zero, List.set_cons_succ]) | (refine wpList_read _ (by rfl) (by (go_simp; first | done | with_reducible rfl)) ?_; simp only [Act.put, List.setIfInBounds_toArray, List.set_cons_zero, List.set_cons_succ]))
    refine wpList_callv (by rfl) (by (go_simp; first | done | rfl)) (K1.out g j w3 h1 h2) (fun w4 h => ?_)
    simp only [Act.put, List.setIfInBounds_toArray, List.set_cons_zero, List.set_cons_succ]
    subst h
    have HB := Lib.hid (HQb.out _ hq)
    clear h1 h2 hq
    go_wp2_with fail
    go_ret
    exact ⟨rfl, HB.out⟩
  · have KW : Hid (∀ W, Q W → Calls Tryd.prog 41 #[.int .i64 n, .int .i64 (l.sigs.length : Nat)] W fun e w' => e = .returned (.bool false) ∧ Below W.heap.size W w') := Lib.hid fun W _ => (withinI_any _ _ W).mono fun e w' h => ⟨by rw [h.1, within_no hin], by rw [h.2]; exact Below.refl _ _⟩
    have HR : Hid (false = r) := Lib.hid (by
      rw [← hr]
      unfold told15
      rw [within_no hin]
      rfl)
    clear hr hin hc30
    have m0 := HQl.out _ hq
    have x0 := m0.cell_at 0 rfl
    have x1 := m0.cell_at 1 rfl
    have x2 := m0.cell_at 2 rfl
    have x3 := m0.cell_at 3 rfl
    have x4 := m0.cell_at 4 rfl
    have x5 := m0.cell_at 5 rfl
    have x6 := m0.cell_at 6 rfl
    have x7 := m0.cell_at 7 rfl
    have x8 := m0.cell_at 8 rfl
    have x9 := m0.cell_at 9 rfl
    have x10 := m0.cell_at 10 rfl
    clear m0
    go_enter Tryd.func26, Tryd.ntmps26
    go_upto_region 1 with (fail)
    apply wp_region_lit
    repeat (first | (refine wpList_skip (by rfl) ?_; simp only [Act.put, List.setIfInBounds_toArray, List.set_cons_zero, List.set_cons_succ]) | (refine wpList_read _ (by rfl) (exec_img hi.len (by rfl) (by rfl) (HQi.out _ hq)) ?_; simp only [Act.put, List.setIfInBounds_toArray, List.set_cons_zero, List.set_cons_succ]) | (refine wpList_read _ (by rfl) (by (go_simp; first | done | with_reducible rfl)) ?_; simp only [Act.put, List.setIfInBounds_toArray, List.set_cons_zero, List.set_cons_succ]))
    refine wpList_callv (by rfl) (by (go_simp; first | done | rfl)) (KW.out _ hq) (fun w2 hB => ?_)
    simp only [Act.put, List.setIfInBounds_toArray, List.set_cons_zero, List.set_cons_succ]
    have HB := Lib.hid (HQb.out _ (HQ.out _ _ hq hB))
    clear hB hq
    go_wp2_with fail
    go_ret
    exact ⟨ret_bool HR.out, HB.out⟩

end Go.Proofs.YtniihmafbeplaaaDoor
