/- Package image: occupied's closure; Occupied. -/
import Derived.Deep.CutRange
import Derived.Test.YtniihmafbeplaaaDoorQU
namespace Go.Proofs.YtniihmafbeplaaaDoor
open Go.RowKit Go.Shelf
set_option linter.unusedVariables false
set_option linter.unusedSimpArgs false

def occI (l : Lay) (im : Img) (s : Int) : Bool := !withinI s (cntI l) || (!toldI (staleI l im) (4294967295 - im.o) s.toNat || decide (im.free[s.toNat]?.getD 0 < l.t0))
theorem cnt_le (l : Lay) : cntI l ≤ 24 := by unfold cntI; omega
theorem within_yes {k n : Nat} (h : k < n) : withinI (k : Int) (n : Int) = true := by simp [withinI]; omega
theorem within_no {s : Int} {n : Nat} (h : ¬ (0 ≤ s ∧ s < n)) : withinI s (n : Int) = false := by
  unfold withinI
  by_cases h0 : 0 ≤ s
  · simp [h0]; omega
  · simp [h0]
set_option maxRecDepth 100000 in
set_option maxHeartbeats 8000000 in
theorem occ1_any {l : Lay} {im : Img} (hi : im.Wf) {a f i : Nat} {vt : Value} {w : World} (hL : Whole w a 29 l.cells) (hF : Whole w f 69 [vt]) (hI : Whole w i 35 im.cells) (hT : ToldAt vt (staleI l im) (4294967295 - im.o) w) (s : Int) {r : Bool} (hr : occI l im s = r) :
    Calls Tryd.prog 51 #[.int .i64 s, .pointer (some ⟨a, 0, none⟩), .pointer (some ⟨f, 0, none⟩), .pointer (some ⟨i, 0, none⟩)] w fun e w' => e = .returned (.bool r) ∧ Below w.heap.size w w' := by
  obtain ⟨⟨g, j, rfl, h1, h2⟩⟩ := hT
  obtain ⟨Q, HQ, HQb, HQl, HQf, HQi, HQg, HQj, hq⟩ : ∃ Q : World → Prop, Hid (Closed Q) ∧ Hid (∀ W, Q W → Below w.heap.size w W) ∧ Hid (∀ W, Q W → Whole W a 29 l.cells) ∧ Hid (∀ W, Q W → Whole W f 69 [.func (.func 52) #[] #[.pointer (some ⟨g, 0, none⟩), .pointer (some ⟨j, 0, none⟩)]]) ∧
      Hid (∀ W, Q W → Whole W i 35 im.cells) ∧ Hid (∀ W, Q W → Whole W g 4 [.bool (staleI l im)]) ∧ Hid (∀ W, Q W → Whole W j 31 [.int .u32 (4294967295 - im.o)]) ∧ Q w :=
    ⟨fun W => Below w.heap.size w W, Lib.hid (Closed.below w), Lib.hid fun W h => h, Lib.hid fun W h => hL.below h hL.lt, Lib.hid fun W h => hF.below h hF.lt, Lib.hid fun W h => hI.below h hI.lt, Lib.hid fun W h => h1.below h h1.lt, Lib.hid fun W h => h2.below h h2.lt, Below.refl _ _⟩
  have KC : Hid (∀ W, Q W → Calls Tryd.prog 43 #[l.val] W fun e w' => e = .returned (.int .i64 (cntI l : Nat)) ∧ Below W.heap.size W w') := Lib.hid fun W _ => counts_B
  have hc24 := cnt_le l
  clear hL hF hI h1 h2
  by_cases hin : 0 ≤ s ∧ s < cntI l
  · obtain ⟨k, rfl⟩ : ∃ k : Nat, s = k := ⟨s.toNat, by omega⟩
    obtain ⟨x, hx⟩ : ∃ x, im.free[k]? = some x := ⟨_, List.getElem?_eq_getElem (by rw [hi.len]; omega)⟩
    obtain ⟨b, hb⟩ : ∃ b, toldI (staleI l im) (4294967295 - im.o) k = b := ⟨_, rfl⟩
    have HR : Hid ((!b || decide (x < l.t0)) = r) := Lib.hid (by
      rw [← hr]
      unfold occI
      rw [within_yes (by omega), Int.toNat_natCast, hb, hx]
      rfl)
    have KW : Hid (∀ W, Q W → Calls Tryd.prog 41 #[.int .i64 (k : Nat), .int .i64 (cntI l : Nat)] W fun e w' => e = .returned (.bool true) ∧ Below W.heap.size W w') := Lib.hid fun W _ => (withinI_any _ _ W).mono fun e w' h => ⟨by rw [h.1, within_yes (by omega)], by rw [h.2]; exact Below.refl _ _⟩
    have KT : Hid (∀ W, Q W → Calls Tryd.prog 52 #[.int .i64 (k : Nat), .pointer (some ⟨g, 0, none⟩), .pointer (some ⟨j, 0, none⟩)] W fun e w' => e = .returned (.bool b) ∧ Below W.heap.size W w') := Lib.hid fun W hW => (told1_any (HQg.out W hW) (HQj.out W hW) (not_range hi.o) k (by omega) hb).mono fun e w' h => ⟨h.1, by rw [h.2]; exact Below.refl _ _⟩
    have HX := Lib.hid (im.c_free hx)
    have H0 : Hid ((0 : Int) ≤ (k : Int)) := Lib.hid (by omega)
    have H1 : Hid ((k : Int) < 24) := Lib.hid (by omega)
    clear hx hb hr hc24 hin
    cases b
    · go_enter Tryd.func51, Tryd.ntmps51
      go_wp2_with fail
      have HBS : Hid (∀ W, Below w.heap.size w W → Q W) := Lib.hid (fun W hB => HQ.out _ _ hq hB)
      clear hq
      refine region_mix (Below w.heap.size w) [(0, false), (1, false), (2, false), (3, false), (4, false), (5, false), (6, false), (7, false), (8, false), (9, false), (10, false), (11, false), (12, false), (13, false), (14, false), (15, false), (16, false), (17, false), (18, false), (19, false), (20, false), (21, false)] (by kernel_rfl) (by kernel_rfl) (Below w.heap.size w) ⟨Closed.below w, fun _ h => h⟩ (Below.refl _ _).drew ?_
      simp only [pickOps, List.getElem?_cons_zero, List.getElem?_cons_succ]
      repeat (first | (refine mix_skip (by rfl) ?_; simp only [Act.put, List.setIfInBounds_toArray, List.set_cons_zero, List.set_cons_succ]) | (refine mix_read _ (by rfl) (fun W hW => by (have hW := HBS.out W hW; have m0 := (HQl.out W hW); have x0 := m0.cell_at 0 rfl; have x1 := m0.cell_at 1 rfl; have x2 := m0.cell_at 2 rfl; have x3 := m0.cell_at 3 rfl; have x4 := m0.cell_at 4 rfl; have x5 := m0.cell_at 5 rfl; have x6 := m0.cell_at 6 rfl; have x7 := m0.cell_at 7 rfl; have x8 := m0.cell_at 8 rfl; have x9 := m0.cell_at 9 rfl; have x10 := m0.cell_at 10 rfl; clear m0; have cf := (HQf.out W hW).cell_at 0 rfl; have y := (HQi.out W hW).cell_at _ HX.out; have d0 := H0.out; have d1 := H1.out; go_simp; first | done | with_reducible rfl)) ?_; simp only [Act.put, List.setIfInBounds_toArray, List.set_cons_zero, List.set_cons_succ]) | (refine mix_call _ _ _ (by rfl) (fun W hW => by (have hW := HBS.out W hW; have m0 := (HQl.out W hW); have x0 := m0.cell_at 0 rfl; have x1 := m0.cell_at 1 rfl; have x2 := m0.cell_at 2 rfl; have x3 := m0.cell_at 3 rfl; have x4 := m0.cell_at 4 rfl; have x5 := m0.cell_at 5 rfl; have x6 := m0.cell_at 6 rfl; have x7 := m0.cell_at 7 rfl; have x8 := m0.cell_at 8 rfl; have x9 := m0.cell_at 9 rfl; have x10 := m0.cell_at 10 rfl; clear m0; have cf := (HQf.out W hW).cell_at 0 rfl; have y := (HQi.out W hW).cell_at _ HX.out; have d0 := H0.out; have d1 := H1.out; go_simp; first | done | rfl)) (fun W hW => KC.out W (HBS.out W hW)) ?_; simp only [Act.put, List.setIfInBounds_toArray, List.set_cons_zero, List.set_cons_succ]) | (refine mix_call _ _ _ (by rfl) (fun W hW => by (have hW := HBS.out W hW; have m0 := (HQl.out W hW); have x0 := m0.cell_at 0 rfl; have x1 := m0.cell_at 1 rfl; have x2 := m0.cell_at 2 rfl; have x3 := m0.cell_at 3 rfl; have x4 := m0.cell_at 4 rfl; have x5 := m0.cell_at 5 rfl; have x6 := m0.cell_at 6 rfl; have x7 := m0.cell_at 7 rfl; have x8 := m0.cell_at 8 rfl; have x9 := m0.cell_at 9 rfl; have x10 := m0.cell_at 10 rfl; clear m0; have cf := (HQf.out W hW).cell_at 0 rfl; have y := (HQi.out W hW).cell_at _ HX.out; have d0 := H0.out; have d1 := H1.out; go_simp; first | done | rfl)) (fun W hW => KW.out W (HBS.out W hW)) ?_; simp only [Act.put, List.setIfInBounds_toArray, List.set_cons_zero, List.set_cons_succ]) | (refine mix_call _ _ _ (by rfl) (fun W hW => by (have hW := HBS.out W hW; have m0 := (HQl.out W hW); have x0 := m0.cell_at 0 rfl; have x1 := m0.cell_at 1 rfl; have x2 := m0.cell_at 2 rfl; have x3 := m0.cell_at 3 rfl; have x4 := m0.cell_at 4 rfl; have x5 := m0.cell_at 5 rfl; have x6 := m0.cell_at 6 rfl; have x7 := m0.cell_at 7 rfl; have x8 := m0.cell_at 8 rfl; have x9 := m0.cell_at 9 rfl; have x10 := m0.cell_at 10 rfl; clear m0; have cf := (HQf.out W hW).cell_at 0 rfl; have y := (HQi.out W hW).cell_at _ HX.out; have d0 := H0.out; have d1 := H1.out; go_simp; first | done | rfl)) (fun W hW => KT.out W (HBS.out W hW)) ?_; simp only [Act.put, List.setIfInBounds_toArray, List.set_cons_zero, List.set_cons_succ]))
      refine mix_nil (fun W hW => ?_)
      have hq := HBS.out W hW
      have HBW := Lib.hid hW
      clear hW HBS
      go_wp2_with fail
      go_ret
      exact ⟨ret_bool (by rw [← HR.out]; rfl), HQb.out _ hq⟩
    · go_enter Tryd.func51, Tryd.ntmps51
      go_wp2_with fail
      have HBS : Hid (∀ W, Below w.heap.size w W → Q W) := Lib.hid (fun W hB => HQ.out _ _ hq hB)
      clear hq
      refine region_mix (Below w.heap.size w) [(0, false), (1, false), (2, false), (3, false), (4, false), (5, false), (6, false), (7, false), (8, false), (9, false), (10, false), (11, false), (12, false), (13, false), (14, false), (15, false), (16, false), (17, false), (18, false), (19, false), (20, false), (21, false)] (by kernel_rfl) (by kernel_rfl) (Below w.heap.size w) ⟨Closed.below w, fun _ h => h⟩ (Below.refl _ _).drew ?_
      simp only [pickOps, List.getElem?_cons_zero, List.getElem?_cons_succ]
      repeat (first | (refine mix_skip (by rfl) ?_; simp only [Act.put, List.setIfInBounds_toArray, List.set_cons_zero, List.set_cons_succ]) | (refine mix_read _ (by rfl) (fun W hW => by (have hW := HBS.out W hW; have m0 := (HQl.out W hW); have x0 := m0.cell_at 0 rfl; have x1 := m0.cell_at 1 rfl; have x2 := m0.cell_at 2 rfl; have x3 := m0.cell_at 3 rfl; have x4 := m0.cell_at 4 rfl; have x5 := m0.cell_at 5 rfl; have x6 := m0.cell_at 6 rfl; have x7 := m0.cell_at 7 rfl; have x8 := m0.cell_at 8 rfl; have x9 := m0.cell_at 9 rfl; have x10 := m0.cell_at 10 rfl; clear m0; have cf := (HQf.out W hW).cell_at 0 rfl; have y := (HQi.out W hW).cell_at _ HX.out; have d0 := H0.out; have d1 := H1.out; go_simp; first | done | with_reducible rfl)) ?_; simp only [Act.put, List.setIfInBounds_toArray, List.set_cons_zero, List.set_cons_succ]) | (refine mix_call _ _ _ (by rfl) (fun W hW => by (have hW := HBS.out W hW; have m0 := (HQl.out W hW); have x0 := m0.cell_at 0 rfl; have x1 := m0.cell_at 1 rfl; have x2 := m0.cell_at 2 rfl; have x3 := m0.cell_at 3 rfl; have x4 := m0.cell_at 4 rfl; have x5 := m0.cell_at 5 rfl; have x6 := m0.cell_at 6 rfl; have x7 := m0.cell_at 7 rfl; have x8 := m0.cell_at 8 rfl; have x9 := m0.cell_at 9 rfl; have x10 := m0.cell_at 10 rfl; clear m0; have cf := (HQf.out W hW).cell_at 0 rfl; have y := (HQi.out W hW).cell_at _ HX.out; have d0 := H0.out; have d1 := H1.out; go_simp; first | done | rfl)) (fun W hW => KC.out W (HBS.out W hW)) ?_; simp only [Act.put, List.setIfInBounds_toArray, List.set_cons_zero, List.set_cons_succ]) | (refine mix_call _ _ _ (by rfl) (fun W hW => by (have hW := HBS.out W hW; have m0 := (HQl.out W hW); have x0 := m0.cell_at 0 rfl; have x1 := m0.cell_at 1 rfl; have x2 := m0.cell_at 2 rfl; have x3 := m0.cell_at 3 rfl; have x4 := m0.cell_at 4 rfl; have x5 := m0.cell_at 5 rfl; have x6 := m0.cell_at 6 rfl; have x7 := m0.cell_at 7 rfl; have x8 := m0.cell_at 8 rfl; have x9 := m0.cell_at 9 rfl; have x10 := m0.cell_at 10 rfl; clear m0; have cf := (HQf.out W hW).cell_at 0 rfl; have y := (HQi.out W hW).cell_at _ HX.out; have d0 := H0.out; have d1 := H1.out; go_simp; first | done | rfl)) (fun W hW => KW.out W (HBS.out W hW)) ?_; simp only [Act.put, List.setIfInBounds_toArray, List.set_cons_zero, List.set_cons_succ]) | (refine mix_call _ _ _ (by rfl) (fun W hW => by (have hW := HBS.out W hW; have m0 := (HQl.out W hW); have x0 := m0.cell_at 0 rfl; have x1 := m0.cell_at 1 rfl; have x2 := m0.cell_at 2 rfl; have x3 := m0.cell_at 3 rfl; have x4 := m0.cell_at 4 rfl; have x5 := m0.cell_at 5 rfl; have x6 := m0.cell_at 6 rfl; have x7 := m0.cell_at 7 rfl; have x8 := m0.cell_at 8 rfl; have x9 := m0.cell_at 9 rfl; have x10 := m0.cell_at 10 rfl; clear m0; have cf := (HQf.out W hW).cell_at 0 rfl; have y := (HQi.out W hW).cell_at _ HX.out; have d0 := H0.out; have d1 := H1.out; go_simp; first | done | rfl)) (fun W hW => KT.out W (HBS.out W hW)) ?_; simp only [Act.put, List.setIfInBounds_toArray, List.set_cons_zero, List.set_cons_succ]))
      refine mix_nil (fun W hW => ?_)
      have hq := HBS.out W hW
      have HBW := Lib.hid hW
      clear hW HBS
      go_wp2_with fail
      go_ret
      exact ⟨ret_bool (by rw [← HR.out]; rfl), HQb.out _ hq⟩
  · have HR : Hid (true = r) := Lib.hid (by
      rw [← hr]
      unfold occI
      rw [within_no hin]
      rfl)
    have KW : Hid (∀ W, Q W → Calls Tryd.prog 41 #[.int .i64 s, .int .i64 (cntI l : Nat)] W fun e w' => e = .returned (.bool false) ∧ Below W.heap.size W w') := Lib.hid fun W _ => (withinI_any _ _ W).mono fun e w' h => ⟨by rw [h.1, within_no hin], by rw [h.2]; exact Below.refl _ _⟩
    clear hr hc24 hin
    go_enter Tryd.func51, Tryd.ntmps51
    go_wp2_with fail
    have HBS : Hid (∀ W, Below w.heap.size w W → Q W) := Lib.hid (fun W hB => HQ.out _ _ hq hB)
    clear hq
    refine region_mix (Below w.heap.size w) [(0, false), (1, false), (2, false), (3, false), (4, false), (5, false), (6, false), (7, false), (8, false), (9, false), (10, false), (11, false), (12, false), (13, false), (14, false), (15, false), (16, false), (17, false), (18, false), (19, false), (20, false), (21, false)] (by kernel_rfl) (by kernel_rfl) (Below w.heap.size w) ⟨Closed.below w, fun _ h => h⟩ (Below.refl _ _).drew ?_
    simp only [pickOps, List.getElem?_cons_zero, List.getElem?_cons_succ]
    repeat (first | (refine mix_skip (by rfl) ?_; simp only [Act.put, List.setIfInBounds_toArray, List.set_cons_zero, List.set_cons_succ]) | (refine mix_read _ (by rfl) (fun W hW => by (have hW := HBS.out W hW; have m0 := (HQl.out W hW); have x0 := m0.cell_at 0 rfl; have x1 := m0.cell_at 1 rfl; have x2 := m0.cell_at 2 rfl; have x3 := m0.cell_at 3 rfl; have x4 := m0.cell_at 4 rfl; have x5 := m0.cell_at 5 rfl; have x6 := m0.cell_at 6 rfl; have x7 := m0.cell_at 7 rfl; have x8 := m0.cell_at 8 rfl; have x9 := m0.cell_at 9 rfl; have x10 := m0.cell_at 10 rfl; clear m0;  go_simp; first | done | with_reducible rfl)) ?_; simp only [Act.put, List.setIfInBounds_toArray, List.set_cons_zero, List.set_cons_succ]) | (refine mix_call _ _ _ (by rfl) (fun W hW => by (have hW := HBS.out W hW; have m0 := (HQl.out W hW); have x0 := m0.cell_at 0 rfl; have x1 := m0.cell_at 1 rfl; have x2 := m0.cell_at 2 rfl; have x3 := m0.cell_at 3 rfl; have x4 := m0.cell_at 4 rfl; have x5 := m0.cell_at 5 rfl; have x6 := m0.cell_at 6 rfl; have x7 := m0.cell_at 7 rfl; have x8 := m0.cell_at 8 rfl; have x9 := m0.cell_at 9 rfl; have x10 := m0.cell_at 10 rfl; clear m0;  go_simp; first | done | rfl)) (fun W hW => KC.out W (HBS.out W hW)) ?_; simp only [Act.put, List.setIfInBounds_toArray, List.set_cons_zero, List.set_cons_succ]) | (refine mix_call _ _ _ (by rfl) (fun W hW => by (have hW := HBS.out W hW; have m0 := (HQl.out W hW); have x0 := m0.cell_at 0 rfl; have x1 := m0.cell_at 1 rfl; have x2 := m0.cell_at 2 rfl; have x3 := m0.cell_at 3 rfl; have x4 := m0.cell_at 4 rfl; have x5 := m0.cell_at 5 rfl; have x6 := m0.cell_at 6 rfl; have x7 := m0.cell_at 7 rfl; have x8 := m0.cell_at 8 rfl; have x9 := m0.cell_at 9 rfl; have x10 := m0.cell_at 10 rfl; clear m0;  go_simp; first | done | rfl)) (fun W hW => KW.out W (HBS.out W hW)) ?_; simp only [Act.put, List.setIfInBounds_toArray, List.set_cons_zero, List.set_cons_succ]))
    refine mix_nil (fun W hW => ?_)
    have hq := HBS.out W hW
    have HBW := Lib.hid hW
    clear hW HBS
    go_wp2_with fail
    go_ret
    exact ⟨ret_bool HR.out, HQb.out _ hq⟩
set_option maxRecDepth 100000 in
set_option maxHeartbeats 8000000 in
theorem Occupied_B {l : Lay} {im : Img} (hi : im.Wf) {w : World} (h : Fld l w) (s : Int) {r : Bool} (hr : occI l im s = r) : Calls Tryd.prog 20 #[l.val, im.val, .int .i64 s] w fun e w' => e = .returned (.bool r) ∧ Below w.heap.size w w' := by
  obtain ⟨Q, HQ, HQf, HQb, HQl, HQi, hq⟩ := keep_li h l.cells im.cells 29 35
  have KO := Lib.hid fun W (hW : Q W) => occupied_B hi (HQf.out W hW)
  have K1 : Hid (∀ (a f i : Nat) (vt : Value) (W : World), Whole W a 29 l.cells → Whole W f 69 [vt] → Whole W i 35 im.cells → ToldAt vt (staleI l im) (4294967295 - im.o) W → Calls Tryd.prog 51 #[.int .i64 s, .pointer (some ⟨a, 0, none⟩), .pointer (some ⟨f, 0, none⟩), .pointer (some ⟨i, 0, none⟩)] W fun e w' => e = .returned (.bool r) ∧ Below W.heap.size W w') := Lib.hid fun a f i vt W h1 h2 h3 h4 => occ1_any hi h1 h2 h3 h4 s hr
  clear hr
  have m0 := HQl.out _ hq
  have x0 := m0.cell_at 0 rfl
  have x1 := m0.cell_at 1 rfl
  have x2 := m0.cell_at 2 rfl
  have x3 := m0.cell_at 3 rfl
  have x4 := m0.cell_at 4 rfl
  have x5 := m0.cell_at 5 rfl
  have x6 := m0.cell_at 6 rfl
  have x7 := m0.cell_at 7 rfl
  have x8 := m0.cell_at 8 rfl
  have x9 := m0.cell_at 9 rfl
  have x10 := m0.cell_at 10 rfl
  clear m0
  go_enter Tryd.func20, Tryd.ntmps20
  go_upto_region 1 with (fail)
  apply wp_region_lit
  repeat (first | (refine wpList_skip (by rfl) ?_; simp only [Act.put, List.setIfInBounds_toArray, List.set_cons_zero, List.set_cons_succ]) | (refine wpList_read _ (by rfl) (exec_img hi.len (by rfl) (by rfl) (HQi.out _ hq)) ?_; simp only [Act.put, List.setIfInBounds_toArray, List.set_cons_zero, List.set_cons_succ]) | (refine wpList_read _ (by rfl) (by (go_simp; first | done | with_reducible rfl)) ?_; simp only [Act.put, List.setIfInBounds_toArray, List.set_cons_zero, List.set_cons_succ]))
  go_wp2_with fail
  refine (KO.out _ hq).mono ?_
  clear x0 x1 x2 x3 x4 x5 x6 x7 x8 x9 x10
  rintro e w1 ⟨v, rfl, ⟨a, f, i, vt, rfl, ⟨h1, h2, h3⟩, h4⟩, hB⟩
  have HB := Lib.hid (HQ.out _ _ hq hB)
  have KK := Lib.hid (K1.out a f i vt w1 h1 h2 h3 h4)
  clear h1 h2 h3 h4 hB hq
  go_wp2_with fail
  refine KK.out.mono ?_
  rintro e w2 ⟨rfl, hB⟩
  have HB2 := Lib.hid (HQb.out _ (HQ.out _ _ HB.out hB))
  go_wp2_with fail
  go_ret
  exact ⟨rfl, HB2.out⟩

end Go.Proofs.YtniihmafbeplaaaDoor
