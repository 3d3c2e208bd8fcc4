/- The walk of TopoFirst: a rule is told just where all ahead of it are kept. -/
import Derived.Lib.MinMax
import Derived.Test.YtpppieffkklnhaaDoorQTopoLess
import Derived.Test.YtpppieffkklnhaaDoorQLayTellsM
namespace Go.Proofs.YtpppieffkklnhaaDoor
open Go.RowKit Go.Shelf
set_option linter.unusedVariables false
set_option linter.unusedSimpArgs false

theorem bare3_part {l : Lay} (hr : rightL l = true) {A : Option Addr} {c : Nat} : Part ⟨l.secs, l.As, l.cs, l.sigs, l.Ag, l.cg, l.exits, l.Ae, l.ce, [], A, c, l.t0, l.t1, l.t2, l.t3, l.t4, l.t5, l.t6⟩ l :=
  part_take hr rfl rfl (a := l.sigs.length) (b := l.exits.length) (c := 0) (by simp) (by simp) (by simp)
theorem takeE_part {l : Lay} (hr : rightL l = true) (n : Nat) {A B : Option Addr} {c d : Nat} : Part ⟨l.secs, l.As, l.cs, l.sigs, l.Ag, l.cg, l.exits.take n, B, d, [], A, c, l.t0, l.t1, l.t2, l.t3, l.t4, l.t5, l.t6⟩ l :=
  part_take hr rfl rfl (a := l.sigs.length) (b := n) (c := 0) (by simp) rfl (by simp)
theorem bare2_part {l : Lay} (hr : rightL l = true) {A B : Option Addr} {c d : Nat} : Part ⟨l.secs, l.As, l.cs, l.sigs, l.Ag, l.cg, [], B, d, [], A, c, l.t0, l.t1, l.t2, l.t3, l.t4, l.t5, l.t6⟩ l :=
  part_take hr rfl rfl (a := l.sigs.length) (b := 0) (c := 0) (by simp) (by simp) (by simp)
theorem bare1_part {l : Lay} (hr : rightL l = true) {A B C : Option Addr} {c d e : Nat} : Part ⟨l.secs, l.As, l.cs, [], C, e, [], B, d, [], A, c, l.t0, l.t1, l.t2, l.t3, l.t4, l.t5, l.t6⟩ l :=
  part_take hr rfl rfl (a := 0) (b := 0) (c := 0) (by simp) (by simp) (by simp)
theorem Lies.bare3 {l : Lay} {w : World} (h : Lies l w) : Lies ⟨l.secs, l.As, l.cs, l.sigs, l.Ag, l.cg, l.exits, l.Ae, l.ce, [], none, 0, l.t0, l.t1, l.t2, l.t3, l.t4, l.t5, l.t6⟩ w :=
  ⟨h.secs, h.sigs, h.exits, Row.nil _ _ _, h.overs, h.kinds, h.nS, h.nG, h.nE, by simp, h.nO⟩
theorem Lies.bare2 {l : Lay} {w : World} (h : Lies l w) : Lies ⟨l.secs, l.As, l.cs, l.sigs, l.Ag, l.cg, [], none, 0, [], none, 0, l.t0, l.t1, l.t2, l.t3, l.t4, l.t5, l.t6⟩ w :=
  ⟨h.secs, h.sigs, Row.nil _ _ _, Row.nil _ _ _, (fun x hx => by cases hx), h.kinds, h.nS, h.nG, by simp, by simp, (fun x hx => by cases hx)⟩
theorem Lies.bare1 {l : Lay} {w : World} (h : Lies l w) : Lies ⟨l.secs, l.As, l.cs, [], none, 0, [], none, 0, [], none, 0, l.t0, l.t1, l.t2, l.t3, l.t4, l.t5, l.t6⟩ w :=
  ⟨h.secs, Row.nil _ _ _, Row.nil _ _ _, Row.nil _ _ _, (fun x hx => by cases hx), h.kinds, h.nS, by simp, by simp, by simp, (fun x hx => by cases hx)⟩

set_option maxRecDepth 100000 in
set_option maxHeartbeats 16000000 in
theorem topoFirst_walk (l : Lay) (w : World) (hT : Shapes w) (hL : Lies l w) (hC : Caps l) :
    Calls Tryd.prog 5 #[l.val] w fun e w' => e = .returned (.bool true) ∧ Below w.heap.size w w' := by
  obtain ⟨P, HP, HPT, HPL, HPB, hp⟩ := keep_lay hT hL
  obtain ⟨Q, HQ, HQp, HQl, hq⟩ := keep_box HP.out hp 29 l.cells
  have HQT : Hid (∀ W, Q W → Shapes W) := Lib.hid fun W h => HPT.out _ (HQp.out _ h)
  have HQL : Hid (∀ W, Q W → Lies l W) := Lib.hid fun W h => HPL.out _ (HQp.out _ h)
  have HQB : Hid (∀ W, Q W → Below w.heap.size w W) := Lib.hid fun W h => HPB.out _ (HQp.out _ h)
  obtain ⟨g, hg⟩ : ∃ g, greatJ l = g := ⟨_, rfl⟩
  have KG := Lib.hid (fun W hW => greatJ_P (P := Q) (w := W) HQ.out HQL.out hg hW)
  have KW := Lib.hid (fun W hW => wakesT_P (P := Q) (w := W) HQ.out HQT.out hW)
  obtain ⟨⟨rr, aa, ee⟩, hcv⟩ : ∃ v, checkV l = v := ⟨_, rfl⟩
  have KC := Lib.hid (fun W hW => keepR HQ.out (check_any (w := W) (HQT.out W hW) (HQL.out W hW) hcv) hW)
  obtain ⟨rv, hrv⟩ : ∃ rv, rightL l = rv := ⟨_, rfl⟩
  have KR := Lib.hid (fun W hW => keepR HQ.out (rightR_B (w := W) (HQL.out W hW) hrv) hW)
  obtain ⟨jv, hjv⟩ : ∃ jv, joinedL l = jv := ⟨_, rfl⟩
  have KJ := Lib.hid (fun W hW => keepR HQ.out (joinedR_any (w := W) (HQL.out W hW) hjv) hW)
  have KT := Lib.hid (fun W hW => keepR HQ.out (rightT_any (w := W) (HQT.out W hW) (HQL.out W hW) rfl) hW)
  have HC := Lib.hid hC
  have HCV := Lib.hid hcv
  have HRV := Lib.hid hrv
  have HJV := Lib.hid hjv
  clear hT hL hp hcv hrv hjv hC hg
  go_enter Tryd.func5, Tryd.ntmps5
  have m0 := HQl.out _ hq
  have x0 := m0.cell_at 0 rfl
  have x1 := m0.cell_at 1 rfl
  have x2 := m0.cell_at 2 rfl
  have x3 := m0.cell_at 3 rfl
  have x4 := m0.cell_at 4 rfl
  have x5 := m0.cell_at 5 rfl
  have x6 := m0.cell_at 6 rfl
  have x7 := m0.cell_at 7 rfl
  have x8 := m0.cell_at 8 rfl
  have x9 := m0.cell_at 9 rfl
  have x10 := m0.cell_at 10 rfl
  clear m0
  go_wp2_with fail
  refine (KG.out _ hq).mono ?_
  clear hq x0 x1 x2 x3 x4 x5 x6 x7 x8 x9 x10
  rintro e w1 ⟨rfl, hq⟩
  cases g
  rotate_left
  · go_wp2_with fail
    refine (KW.out _ hq).mono ?_
    clear hq
    rintro e w9 ⟨rfl, hq⟩
    go_wp2_with fail
    go_ret
    exact ⟨rfl, HQB.out _ hq⟩
  have m0 := HQl.out _ hq
  have x0 := m0.cell_at 0 rfl
  have x1 := m0.cell_at 1 rfl
  have x2 := m0.cell_at 2 rfl
  have x3 := m0.cell_at 3 rfl
  have x4 := m0.cell_at 4 rfl
  have x5 := m0.cell_at 5 rfl
  have x6 := m0.cell_at 6 rfl
  have x7 := m0.cell_at 7 rfl
  have x8 := m0.cell_at 8 rfl
  have x9 := m0.cell_at 9 rfl
  have x10 := m0.cell_at 10 rfl
  clear m0
  go_wp2_with fail
  refine (KC.out _ hq).mono ?_
  clear hq x0 x1 x2 x3 x4 x5 x6 x7 x8 x9 x10
  rintro e w2 ⟨rfl, hq⟩
  have m0 := HQl.out _ hq
  have x0 := m0.cell_at 0 rfl
  have x1 := m0.cell_at 1 rfl
  have x2 := m0.cell_at 2 rfl
  have x3 := m0.cell_at 3 rfl
  have x4 := m0.cell_at 4 rfl
  have x5 := m0.cell_at 5 rfl
  have x6 := m0.cell_at 6 rfl
  have x7 := m0.cell_at 7 rfl
  have x8 := m0.cell_at 8 rfl
  have x9 := m0.cell_at 9 rfl
  have x10 := m0.cell_at 10 rfl
  clear m0
  go_wp2_with fail
  refine (KR.out _ hq).mono ?_
  clear hq x0 x1 x2 x3 x4 x5 x6 x7 x8 x9 x10
  rintro e w3 ⟨rfl, hq⟩
  cases rv
  · have hv := (check_wrong HRV.out).symm.trans HCV.out
    simp only [Prod.mk.injEq] at hv
    obtain ⟨rfl, rfl, rfl⟩ := hv
    have HF : Hid (rightT l = false) := Lib.hid (by unfold rightT; rw [HCV.out]; rfl)
    rw [HF.out] at KT
    have m0 := HQl.out _ hq
    have x0 := m0.cell_at 0 rfl
    have x1 := m0.cell_at 1 rfl
    have x2 := m0.cell_at 2 rfl
    have x3 := m0.cell_at 3 rfl
    have x4 := m0.cell_at 4 rfl
    have x5 := m0.cell_at 5 rfl
    have x6 := m0.cell_at 6 rfl
    have x7 := m0.cell_at 7 rfl
    have x8 := m0.cell_at 8 rfl
    have x9 := m0.cell_at 9 rfl
    have x10 := m0.cell_at 10 rfl
    clear m0
    go_wp2_with fail
    refine (KT.out _ hq).mono ?_
    clear hq x0 x1 x2 x3 x4 x5 x6 x7 x8 x9 x10
    rintro e w4 ⟨rfl, hq⟩
    go_wp2_with fail
    refine (KW.out _ hq).mono ?_
    clear hq
    rintro e w9 ⟨rfl, hq⟩
    go_wp2_with fail
    go_ret
    exact ⟨rfl, HQB.out _ hq⟩
  rcases first_ways HRV.out with ⟨hv, HH⟩ | ⟨hv, HJ⟩ | ⟨n, hv, HJ, n0, n1⟩ | ⟨n, hv, HJ, HS, n0, n1⟩ | ⟨n, hv, HJ, HS, HE, n1, HO⟩ | ⟨n, hv, HJ, HS, HE, HO, n1⟩
  · have hv := hv.symm.trans HCV.out
    simp only [Prod.mk.injEq] at hv
    obtain ⟨rfl, rfl, rfl⟩ := hv
    obtain rfl : jv = true := HJV.out.symm.trans HH.joined
    have m0 := HQl.out _ hq
    have x0 := m0.cell_at 0 rfl
    have x1 := m0.cell_at 1 rfl
    have x2 := m0.cell_at 2 rfl
    have x3 := m0.cell_at 3 rfl
    have x4 := m0.cell_at 4 rfl
    have x5 := m0.cell_at 5 rfl
    have x6 := m0.cell_at 6 rfl
    have x7 := m0.cell_at 7 rfl
    have x8 := m0.cell_at 8 rfl
    have x9 := m0.cell_at 9 rfl
    have x10 := m0.cell_at 10 rfl
    clear m0
    go_wp2_with fail
    refine (KJ.out _ hq).mono ?_
    clear hq x0 x1 x2 x3 x4 x5 x6 x7 x8 x9 x10
    rintro e w4 ⟨rfl, hq⟩
    have m0 := HQl.out _ hq
    have x0 := m0.cell_at 0 rfl
    have x1 := m0.cell_at 1 rfl
    have x2 := m0.cell_at 2 rfl
    have x3 := m0.cell_at 3 rfl
    have x4 := m0.cell_at 4 rfl
    have x5 := m0.cell_at 5 rfl
    have x6 := m0.cell_at 6 rfl
    have x7 := m0.cell_at 7 rfl
    have x8 := m0.cell_at 8 rfl
    have x9 := m0.cell_at 9 rfl
    have x10 := m0.cell_at 10 rfl
    clear m0
    go_upto_region 9 with (fail)
    clear x0 x1 x2 x3 x4 x5 x6 x7 x8 x9 x10
    obtain ⟨gm, hgm⟩ : ∃ gm, w4.heap.size = gm := ⟨_, rfl⟩
    obtain ⟨W3, hW3⟩ : ∃ W3, w4.alloc (.cells #[.slice l.As l.secs.length l.cs, .slice l.Ag l.sigs.length l.cg, .slice l.Ae l.exits.length l.ce, .slice l.Af l.flanks.length l.cf, .int .i64 l.t0, .int .i64 l.t1, .int .i64 l.t2, .int .i64 l.t3, .int .i64 l.t4, .int .i64 l.t5, .int .i64 l.t6] 29) = W3 := ⟨_, rfl⟩
    have HM3 : Hid (Below gm w4 W3 ∧ Whole W3 gm 29 l.cells) := Lib.hid (by rw [← hW3, ← hgm]; exact ⟨below1 w4 _, Whole.new _ _ l.cells⟩)
    have HQ2 := Lib.hid hq
    have HGM := Lib.hid hgm
    have HK : Hid (∀ W, Below gm w4 W → Q W) := Lib.hid (fun W hW => HQ.out _ _ HQ2.out (by rw [HGM.out]; exact hW))
    rw [hW3, hgm]
    clear hW3 hgm hq
    have y1 := HM3.out.2.cell_at 3 rfl
    have f1 := HM3.out.2.frozen 3
    go_upto_region 10 with (fail)
    obtain ⟨W4, hW⟩ : ∃ W4, W3.setCell ⟨gm, 3, none⟩ (.slice none 0 0) = W4 := ⟨_, rfl⟩
    have HM4 : Hid (Below gm w4 W4 ∧ Whole W4 gm 29 [.slice l.As l.secs.length l.cs, .slice l.Ag l.sigs.length l.cg, .slice l.Ae l.exits.length l.ce, .slice none 0 0, .int .i64 l.t0, .int .i64 l.t1, .int .i64 l.t2, .int .i64 l.t3, .int .i64 l.t4, .int .i64 l.t5, .int .i64 l.t6]) := Lib.hid (by rw [← hW]; exact ⟨HM3.out.1.setCell (p := ⟨gm, 3, none⟩) (Nat.le_refl _) _, HM3.out.2.set 3 _⟩)
    rw [hW]
    clear hW y1 f1
    go_upto_region 15 with (fail)
    have y1 := HM4.out.2.cell_at 2 rfl
    have f1 := HM4.out.2.frozen 2
    go_upto_region 16 with (fail)
    obtain ⟨W5, hW⟩ : ∃ W5, W4.setCell ⟨gm, 2, none⟩ (.slice none 0 0) = W5 := ⟨_, rfl⟩
    have HM5 : Hid (Below gm w4 W5 ∧ Whole W5 gm 29 [.slice l.As l.secs.length l.cs, .slice l.Ag l.sigs.length l.cg, .slice none 0 0, .slice none 0 0, .int .i64 l.t0, .int .i64 l.t1, .int .i64 l.t2, .int .i64 l.t3, .int .i64 l.t4, .int .i64 l.t5, .int .i64 l.t6]) := Lib.hid (by rw [← hW]; exact ⟨HM4.out.1.setCell (p := ⟨gm, 2, none⟩) (Nat.le_refl _) _, HM4.out.2.set 2 _⟩)
    rw [hW]
    clear hW y1 f1
    go_upto_region 18 with (fail)
    have y1 := HM5.out.2.cell_at 1 rfl
    have f1 := HM5.out.2.frozen 1
    go_upto_region 19 with (fail)
    obtain ⟨W6, hW⟩ : ∃ W6, W5.setCell ⟨gm, 1, none⟩ (.slice none 0 0) = W6 := ⟨_, rfl⟩
    have HM6 : Hid (Below gm w4 W6 ∧ Whole W6 gm 29 [.slice l.As l.secs.length l.cs, .slice none 0 0, .slice none 0 0, .slice none 0 0, .int .i64 l.t0, .int .i64 l.t1, .int .i64 l.t2, .int .i64 l.t3, .int .i64 l.t4, .int .i64 l.t5, .int .i64 l.t6]) := Lib.hid (by rw [← hW]; exact ⟨HM5.out.1.setCell (p := ⟨gm, 1, none⟩) (Nat.le_refl _) _, HM5.out.2.set 1 _⟩)
    rw [hW]
    clear hW y1 f1
    have hq := HK.out _ HM6.out.1
    go_wp2_with fail
    refine (KW.out _ hq).mono ?_
    clear hq
    rintro e w9 ⟨rfl, hq⟩
    go_wp2_with fail
    go_ret
    exact ⟨rfl, HQB.out _ hq⟩
  · have hv := hv.symm.trans HCV.out
    simp only [Prod.mk.injEq] at hv
    obtain ⟨rfl, rfl, rfl⟩ := hv
    obtain rfl : jv = false := HJV.out.symm.trans HJ
    have m0 := HQl.out _ hq
    have x0 := m0.cell_at 0 rfl
    have x1 := m0.cell_at 1 rfl
    have x2 := m0.cell_at 2 rfl
    have x3 := m0.cell_at 3 rfl
    have x4 := m0.cell_at 4 rfl
    have x5 := m0.cell_at 5 rfl
    have x6 := m0.cell_at 6 rfl
    have x7 := m0.cell_at 7 rfl
    have x8 := m0.cell_at 8 rfl
    have x9 := m0.cell_at 9 rfl
    have x10 := m0.cell_at 10 rfl
    clear m0
    go_wp2_with fail
    refine (KJ.out _ hq).mono ?_
    clear hq x0 x1 x2 x3 x4 x5 x6 x7 x8 x9 x10
    rintro e w4 ⟨rfl, hq⟩
    have m0 := HQl.out _ hq
    have x0 := m0.cell_at 0 rfl
    have x1 := m0.cell_at 1 rfl
    have x2 := m0.cell_at 2 rfl
    have x3 := m0.cell_at 3 rfl
    have x4 := m0.cell_at 4 rfl
    have x5 := m0.cell_at 5 rfl
    have x6 := m0.cell_at 6 rfl
    have x7 := m0.cell_at 7 rfl
    have x8 := m0.cell_at 8 rfl
    have x9 := m0.cell_at 9 rfl
    have x10 := m0.cell_at 10 rfl
    clear m0
    go_upto_region 9 with (fail)
    clear x0 x1 x2 x3 x4 x5 x6 x7 x8 x9 x10
    obtain ⟨gm, hgm⟩ : ∃ gm, w4.heap.size = gm := ⟨_, rfl⟩
    obtain ⟨W3, hW3⟩ : ∃ W3, w4.alloc (.cells #[.slice l.As l.secs.length l.cs, .slice l.Ag l.sigs.length l.cg, .slice l.Ae l.exits.length l.ce, .slice l.Af l.flanks.length l.cf, .int .i64 l.t0, .int .i64 l.t1, .int .i64 l.t2, .int .i64 l.t3, .int .i64 l.t4, .int .i64 l.t5, .int .i64 l.t6] 29) = W3 := ⟨_, rfl⟩
    have HM3 : Hid (Below gm w4 W3 ∧ Whole W3 gm 29 l.cells) := Lib.hid (by rw [← hW3, ← hgm]; exact ⟨below1 w4 _, Whole.new _ _ l.cells⟩)
    have HQ2 := Lib.hid hq
    have HGM := Lib.hid hgm
    have HK : Hid (∀ W, Below gm w4 W → Q W) := Lib.hid (fun W hW => HQ.out _ _ HQ2.out (by rw [HGM.out]; exact hW))
    rw [hW3, hgm]
    clear hW3 hgm hq
    have y1 := HM3.out.2.cell_at 3 rfl
    have f1 := HM3.out.2.frozen 3
    go_upto_region 10 with (fail)
    obtain ⟨W4, hW⟩ : ∃ W4, W3.setCell ⟨gm, 3, none⟩ (.slice none 0 0) = W4 := ⟨_, rfl⟩
    have HM4 : Hid (Below gm w4 W4 ∧ Whole W4 gm 29 [.slice l.As l.secs.length l.cs, .slice l.Ag l.sigs.length l.cg, .slice l.Ae l.exits.length l.ce, .slice none 0 0, .int .i64 l.t0, .int .i64 l.t1, .int .i64 l.t2, .int .i64 l.t3, .int .i64 l.t4, .int .i64 l.t5, .int .i64 l.t6]) := Lib.hid (by rw [← hW]; exact ⟨HM3.out.1.setCell (p := ⟨gm, 3, none⟩) (Nat.le_refl _) _, HM3.out.2.set 3 _⟩)
    rw [hW]
    clear hW y1 f1
    go_upto_region 15 with (fail)
    have y1 := HM4.out.2.cell_at 2 rfl
    have f1 := HM4.out.2.frozen 2
    go_upto_region 16 with (fail)
    obtain ⟨W5, hW⟩ : ∃ W5, W4.setCell ⟨gm, 2, none⟩ (.slice none 0 0) = W5 := ⟨_, rfl⟩
    have HM5 : Hid (Below gm w4 W5 ∧ Whole W5 gm 29 [.slice l.As l.secs.length l.cs, .slice l.Ag l.sigs.length l.cg, .slice none 0 0, .slice none 0 0, .int .i64 l.t0, .int .i64 l.t1, .int .i64 l.t2, .int .i64 l.t3, .int .i64 l.t4, .int .i64 l.t5, .int .i64 l.t6]) := Lib.hid (by rw [← hW]; exact ⟨HM4.out.1.setCell (p := ⟨gm, 2, none⟩) (Nat.le_refl _) _, HM4.out.2.set 2 _⟩)
    rw [hW]
    clear hW y1 f1
    go_upto_region 18 with (fail)
    have y1 := HM5.out.2.cell_at 1 rfl
    have f1 := HM5.out.2.frozen 1
    go_upto_region 19 with (fail)
    obtain ⟨W6, hW⟩ : ∃ W6, W5.setCell ⟨gm, 1, none⟩ (.slice none 0 0) = W6 := ⟨_, rfl⟩
    have HM6 : Hid (Below gm w4 W6 ∧ Whole W6 gm 29 [.slice l.As l.secs.length l.cs, .slice none 0 0, .slice none 0 0, .slice none 0 0, .int .i64 l.t0, .int .i64 l.t1, .int .i64 l.t2, .int .i64 l.t3, .int .i64 l.t4, .int .i64 l.t5, .int .i64 l.t6]) := Lib.hid (by rw [← hW]; exact ⟨HM5.out.1.setCell (p := ⟨gm, 1, none⟩) (Nat.le_refl _) _, HM5.out.2.set 1 _⟩)
    rw [hW]
    clear hW y1 f1
    have hq := HK.out _ HM6.out.1
    go_wp2_with fail
    refine (KW.out _ hq).mono ?_
    clear hq
    rintro e w9 ⟨rfl, hq⟩
    go_wp2_with fail
    go_ret
    exact ⟨rfl, HQB.out _ hq⟩
  · have hv := hv.symm.trans HCV.out
    simp only [Prod.mk.injEq] at hv
    obtain ⟨rfl, rfl, rfl⟩ := hv
    obtain rfl : jv = true := HJV.out.symm.trans HJ
    have m0 := HQl.out _ hq
    have x0 := m0.cell_at 0 rfl
    have x1 := m0.cell_at 1 rfl
    have x2 := m0.cell_at 2 rfl
    have x3 := m0.cell_at 3 rfl
    have x4 := m0.cell_at 4 rfl
    have x5 := m0.cell_at 5 rfl
    have x6 := m0.cell_at 6 rfl
    have x7 := m0.cell_at 7 rfl
    have x8 := m0.cell_at 8 rfl
    have x9 := m0.cell_at 9 rfl
    have x10 := m0.cell_at 10 rfl
    clear m0
    go_wp2_with fail
    refine (KJ.out _ hq).mono ?_
    clear hq x0 x1 x2 x3 x4 x5 x6 x7 x8 x9 x10
    rintro e w4 ⟨rfl, hq⟩
    have m0 := HQl.out _ hq
    have x0 := m0.cell_at 0 rfl
    have x1 := m0.cell_at 1 rfl
    have x2 := m0.cell_at 2 rfl
    have x3 := m0.cell_at 3 rfl
    have x4 := m0.cell_at 4 rfl
    have x5 := m0.cell_at 5 rfl
    have x6 := m0.cell_at 6 rfl
    have x7 := m0.cell_at 7 rfl
    have x8 := m0.cell_at 8 rfl
    have x9 := m0.cell_at 9 rfl
    have x10 := m0.cell_at 10 rfl
    clear m0
    go_upto_region 9 with (fail)
    clear x0 x1 x2 x3 x4 x5 x6 x7 x8 x9 x10
    obtain ⟨gm, hgm⟩ : ∃ gm, w4.heap.size = gm := ⟨_, rfl⟩
    obtain ⟨W3, hW3⟩ : ∃ W3, w4.alloc (.cells #[.slice l.As l.secs.length l.cs, .slice l.Ag l.sigs.length l.cg, .slice l.Ae l.exits.length l.ce, .slice l.Af l.flanks.length l.cf, .int .i64 l.t0, .int .i64 l.t1, .int .i64 l.t2, .int .i64 l.t3, .int .i64 l.t4, .int .i64 l.t5, .int .i64 l.t6] 29) = W3 := ⟨_, rfl⟩
    have HM3 : Hid (Below gm w4 W3 ∧ Whole W3 gm 29 l.cells) := Lib.hid (by rw [← hW3, ← hgm]; exact ⟨below1 w4 _, Whole.new _ _ l.cells⟩)
    have HQ2 := Lib.hid hq
    have HGM := Lib.hid hgm
    have HK : Hid (∀ W, Below gm w4 W → Q W) := Lib.hid (fun W hW => HQ.out _ _ HQ2.out (by rw [HGM.out]; exact hW))
    rw [hW3, hgm]
    clear hW3 hgm hq
    have y1 := HM3.out.2.cell_at 3 rfl
    have f1 := HM3.out.2.frozen 3
    go_upto_region 10 with (fail)
    obtain ⟨W4, hW⟩ : ∃ W4, W3.setCell ⟨gm, 3, none⟩ (.slice none 0 0) = W4 := ⟨_, rfl⟩
    have HM4 : Hid (Below gm w4 W4 ∧ Whole W4 gm 29 [.slice l.As l.secs.length l.cs, .slice l.Ag l.sigs.length l.cg, .slice l.Ae l.exits.length l.ce, .slice none 0 0, .int .i64 l.t0, .int .i64 l.t1, .int .i64 l.t2, .int .i64 l.t3, .int .i64 l.t4, .int .i64 l.t5, .int .i64 l.t6]) := Lib.hid (by rw [← hW]; exact ⟨HM3.out.1.setCell (p := ⟨gm, 3, none⟩) (Nat.le_refl _) _, HM3.out.2.set 3 _⟩)
    rw [hW]
    clear hW y1 f1
    go_upto_region 15 with (fail)
    have y1 := HM4.out.2.cell_at 2 rfl
    have f1 := HM4.out.2.frozen 2
    go_upto_region 16 with (fail)
    obtain ⟨W5, hW⟩ : ∃ W5, W4.setCell ⟨gm, 2, none⟩ (.slice none 0 0) = W5 := ⟨_, rfl⟩
    have HM5 : Hid (Below gm w4 W5 ∧ Whole W5 gm 29 [.slice l.As l.secs.length l.cs, .slice l.Ag l.sigs.length l.cg, .slice none 0 0, .slice none 0 0, .int .i64 l.t0, .int .i64 l.t1, .int .i64 l.t2, .int .i64 l.t3, .int .i64 l.t4, .int .i64 l.t5, .int .i64 l.t6]) := Lib.hid (by rw [← hW]; exact ⟨HM4.out.1.setCell (p := ⟨gm, 2, none⟩) (Nat.le_refl _) _, HM4.out.2.set 2 _⟩)
    rw [hW]
    clear hW y1 f1
    go_upto_region 18 with (fail)
    have y1 := HM5.out.2.cell_at 1 rfl
    have f1 := HM5.out.2.frozen 1
    go_upto_region 19 with (fail)
    obtain ⟨W6, hW⟩ : ∃ W6, W5.setCell ⟨gm, 1, none⟩ (.slice none 0 0) = W6 := ⟨_, rfl⟩
    have HM6 : Hid (Below gm w4 W6 ∧ Whole W6 gm 29 [.slice l.As l.secs.length l.cs, .slice none 0 0, .slice none 0 0, .slice none 0 0, .int .i64 l.t0, .int .i64 l.t1, .int .i64 l.t2, .int .i64 l.t3, .int .i64 l.t4, .int .i64 l.t5, .int .i64 l.t6]) := Lib.hid (by rw [← hW]; exact ⟨HM5.out.1.setCell (p := ⟨gm, 1, none⟩) (Nat.le_refl _) _, HM5.out.2.set 1 _⟩)
    rw [hW]
    clear hW y1 f1
    obtain ⟨m, hm⟩ : ∃ m : Lay, (⟨l.secs, l.As, l.cs, [], none, 0, [], none, 0, [], none, 0, l.t0, l.t1, l.t2, l.t3, l.t4, l.t5, l.t6⟩ : Lay) = m := ⟨_, rfl⟩
    have hcm : [.slice l.As l.secs.length l.cs, .slice none 0 0, .slice none 0 0, .slice none 0 0, .int .i64 l.t0, .int .i64 l.t1, .int .i64 l.t2, .int .i64 l.t3, .int .i64 l.t4, .int .i64 l.t5, .int .i64 l.t6] = m.cells := by rw [← hm]; rfl
    have HLm : Hid (∀ W, Q W → Lies m W) := Lib.hid (fun W hW => by rw [← hm]; exact (HQL.out W hW).bare1)
    have hrm : rightT m = true := by rw [← hm]; exact (bare1_part HRV.out).hangs HRV.out HJ (NoTwo.nil _) (NoTwo.nil _) (fun x hx => by cases hx) (NoTwo.nil _)
    obtain ⟨R, HR, HRq, HRm, hq⟩ : ∃ R : World → Prop, Hid (Closed R) ∧ Hid (∀ W, R W → Q W) ∧ Hid (∀ W, R W → Whole W gm 29 m.cells) ∧ R W6 :=
      ⟨fun W => Q W ∧ Whole W gm 29 m.cells, Lib.hid (HQ.out.and (Closed.whole _ _ _)), Lib.hid fun _ h => h.1, Lib.hid fun _ h => h.2, HK.out _ HM6.out.1, by rw [← hcm]; exact HM6.out.2⟩
    have KM := Lib.hid (fun W hW => keepR HR.out (rightT_any (w := W) (HQT.out W (HRq.out W hW)) (HLm.out W (HRq.out W hW)) hrm) hW)
    have HRB := Lib.hid (fun W hW => HQB.out W (HRq.out W hW))
    have KV := Lib.hid (fun W hW => wakesT_P (P := R) (w := W) HR.out (fun W hW => HQT.out W (HRq.out W hW)) hW)
    clear hm hcm hrm HQ2 HK HGM
    have m0 := HRm.out _ hq
    have x0 := m0.cell_at 0 rfl
    have x1 := m0.cell_at 1 rfl
    have x2 := m0.cell_at 2 rfl
    have x3 := m0.cell_at 3 rfl
    have x4 := m0.cell_at 4 rfl
    have x5 := m0.cell_at 5 rfl
    have x6 := m0.cell_at 6 rfl
    have x7 := m0.cell_at 7 rfl
    have x8 := m0.cell_at 8 rfl
    have x9 := m0.cell_at 9 rfl
    have x10 := m0.cell_at 10 rfl
    clear m0
    go_wp2_with fail
    refine (KM.out _ hq).mono ?_
    clear hq x0 x1 x2 x3 x4 x5 x6 x7 x8 x9 x10
    rintro e w7 ⟨rfl, hq⟩
    have z := (HQl.out _ (HRq.out _ hq)).cell_at 1 rfl
    have z0 : (n : Int) < (l.sigs.length : Int) := by omega
    have z1 : (0 : Int) ≤ (n : Int) := by omega
    go_wp2_with fail
    refine (KV.out _ hq).mono ?_
    clear hq z
    rintro e w9 ⟨rfl, hq⟩
    go_wp2_with fail
    go_ret
    exact ⟨rfl, HRB.out _ hq⟩
  · have hv := hv.symm.trans HCV.out
    simp only [Prod.mk.injEq] at hv
    obtain ⟨rfl, rfl, rfl⟩ := hv
    obtain rfl : jv = true := HJV.out.symm.trans HJ
    have m0 := HQl.out _ hq
    have x0 := m0.cell_at 0 rfl
    have x1 := m0.cell_at 1 rfl
    have x2 := m0.cell_at 2 rfl
    have x3 := m0.cell_at 3 rfl
    have x4 := m0.cell_at 4 rfl
    have x5 := m0.cell_at 5 rfl
    have x6 := m0.cell_at 6 rfl
    have x7 := m0.cell_at 7 rfl
    have x8 := m0.cell_at 8 rfl
    have x9 := m0.cell_at 9 rfl
    have x10 := m0.cell_at 10 rfl
    clear m0
    go_wp2_with fail
    refine (KJ.out _ hq).mono ?_
    clear hq x0 x1 x2 x3 x4 x5 x6 x7 x8 x9 x10
    rintro e w4 ⟨rfl, hq⟩
    have m0 := HQl.out _ hq
    have x0 := m0.cell_at 0 rfl
    have x1 := m0.cell_at 1 rfl
    have x2 := m0.cell_at 2 rfl
    have x3 := m0.cell_at 3 rfl
    have x4 := m0.cell_at 4 rfl
    have x5 := m0.cell_at 5 rfl
    have x6 := m0.cell_at 6 rfl
    have x7 := m0.cell_at 7 rfl
    have x8 := m0.cell_at 8 rfl
    have x9 := m0.cell_at 9 rfl
    have x10 := m0.cell_at 10 rfl
    clear m0
    go_upto_region 9 with (fail)
    clear x0 x1 x2 x3 x4 x5 x6 x7 x8 x9 x10
    obtain ⟨gm, hgm⟩ : ∃ gm, w4.heap.size = gm := ⟨_, rfl⟩
    obtain ⟨W3, hW3⟩ : ∃ W3, w4.alloc (.cells #[.slice l.As l.secs.length l.cs, .slice l.Ag l.sigs.length l.cg, .slice l.Ae l.exits.length l.ce, .slice l.Af l.flanks.length l.cf, .int .i64 l.t0, .int .i64 l.t1, .int .i64 l.t2, .int .i64 l.t3, .int .i64 l.t4, .int .i64 l.t5, .int .i64 l.t6] 29) = W3 := ⟨_, rfl⟩
    have HM3 : Hid (Below gm w4 W3 ∧ Whole W3 gm 29 l.cells) := Lib.hid (by rw [← hW3, ← hgm]; exact ⟨below1 w4 _, Whole.new _ _ l.cells⟩)
    have HQ2 := Lib.hid hq
    have HGM := Lib.hid hgm
    have HK : Hid (∀ W, Below gm w4 W → Q W) := Lib.hid (fun W hW => HQ.out _ _ HQ2.out (by rw [HGM.out]; exact hW))
    rw [hW3, hgm]
    clear hW3 hgm hq
    have y1 := HM3.out.2.cell_at 3 rfl
    have f1 := HM3.out.2.frozen 3
    go_upto_region 10 with (fail)
    obtain ⟨W4, hW⟩ : ∃ W4, W3.setCell ⟨gm, 3, none⟩ (.slice none 0 0) = W4 := ⟨_, rfl⟩
    have HM4 : Hid (Below gm w4 W4 ∧ Whole W4 gm 29 [.slice l.As l.secs.length l.cs, .slice l.Ag l.sigs.length l.cg, .slice l.Ae l.exits.length l.ce, .slice none 0 0, .int .i64 l.t0, .int .i64 l.t1, .int .i64 l.t2, .int .i64 l.t3, .int .i64 l.t4, .int .i64 l.t5, .int .i64 l.t6]) := Lib.hid (by rw [← hW]; exact ⟨HM3.out.1.setCell (p := ⟨gm, 3, none⟩) (Nat.le_refl _) _, HM3.out.2.set 3 _⟩)
    rw [hW]
    clear hW y1 f1
    go_upto_region 15 with (fail)
    have y1 := HM4.out.2.cell_at 2 rfl
    have f1 := HM4.out.2.frozen 2
    go_upto_region 16 with (fail)
    obtain ⟨W5, hW⟩ : ∃ W5, W4.setCell ⟨gm, 2, none⟩ (.slice none 0 0) = W5 := ⟨_, rfl⟩
    have HM5 : Hid (Below gm w4 W5 ∧ Whole W5 gm 29 [.slice l.As l.secs.length l.cs, .slice l.Ag l.sigs.length l.cg, .slice none 0 0, .slice none 0 0, .int .i64 l.t0, .int .i64 l.t1, .int .i64 l.t2, .int .i64 l.t3, .int .i64 l.t4, .int .i64 l.t5, .int .i64 l.t6]) := Lib.hid (by rw [← hW]; exact ⟨HM4.out.1.setCell (p := ⟨gm, 2, none⟩) (Nat.le_refl _) _, HM4.out.2.set 2 _⟩)
    rw [hW]
    clear hW y1 f1
    obtain ⟨m, hm⟩ : ∃ m : Lay, (⟨l.secs, l.As, l.cs, l.sigs, l.Ag, l.cg, [], none, 0, [], none, 0, l.t0, l.t1, l.t2, l.t3, l.t4, l.t5, l.t6⟩ : Lay) = m := ⟨_, rfl⟩
    have hcm : [.slice l.As l.secs.length l.cs, .slice l.Ag l.sigs.length l.cg, .slice none 0 0, .slice none 0 0, .int .i64 l.t0, .int .i64 l.t1, .int .i64 l.t2, .int .i64 l.t3, .int .i64 l.t4, .int .i64 l.t5, .int .i64 l.t6] = m.cells := by rw [← hm]; rfl
    have HLm : Hid (∀ W, Q W → Lies m W) := Lib.hid (fun W hW => by rw [← hm]; exact (HQL.out W hW).bare2)
    have hrm : rightT m = true := by rw [← hm]; exact (bare2_part HRV.out).hangs HRV.out HJ HS (NoTwo.nil _) (fun x hx => by cases hx) (NoTwo.nil _)
    obtain ⟨R, HR, HRq, HRm, hq⟩ : ∃ R : World → Prop, Hid (Closed R) ∧ Hid (∀ W, R W → Q W) ∧ Hid (∀ W, R W → Whole W gm 29 m.cells) ∧ R W5 :=
      ⟨fun W => Q W ∧ Whole W gm 29 m.cells, Lib.hid (HQ.out.and (Closed.whole _ _ _)), Lib.hid fun _ h => h.1, Lib.hid fun _ h => h.2, HK.out _ HM5.out.1, by rw [← hcm]; exact HM5.out.2⟩
    have KM := Lib.hid (fun W hW => keepR HR.out (rightT_any (w := W) (HQT.out W (HRq.out W hW)) (HLm.out W (HRq.out W hW)) hrm) hW)
    have HRB := Lib.hid (fun W hW => HQB.out W (HRq.out W hW))
    have KV := Lib.hid (fun W hW => wakesT_P (P := R) (w := W) HR.out (fun W hW => HQT.out W (HRq.out W hW)) hW)
    clear hm hcm hrm HQ2 HK HGM
    have m0 := HRm.out _ hq
    have x0 := m0.cell_at 0 rfl
    have x1 := m0.cell_at 1 rfl
    have x2 := m0.cell_at 2 rfl
    have x3 := m0.cell_at 3 rfl
    have x4 := m0.cell_at 4 rfl
    have x5 := m0.cell_at 5 rfl
    have x6 := m0.cell_at 6 rfl
    have x7 := m0.cell_at 7 rfl
    have x8 := m0.cell_at 8 rfl
    have x9 := m0.cell_at 9 rfl
    have x10 := m0.cell_at 10 rfl
    clear m0
    go_wp2_with fail
    refine (KM.out _ hq).mono ?_
    clear hq x0 x1 x2 x3 x4 x5 x6 x7 x8 x9 x10
    rintro e w7 ⟨rfl, hq⟩
    have z := (HQl.out _ (HRq.out _ hq)).cell_at 2 rfl
    have z0 : (n : Int) < (l.exits.length : Int) := by omega
    have z1 : (0 : Int) ≤ (n : Int) := by omega
    go_wp2_with fail
    refine (KV.out _ hq).mono ?_
    clear hq z
    rintro e w9 ⟨rfl, hq⟩
    go_wp2_with fail
    go_ret
    exact ⟨rfl, HRB.out _ hq⟩
  · have hv := hv.symm.trans HCV.out
    simp only [Prod.mk.injEq] at hv
    obtain ⟨rfl, rfl, rfl⟩ := hv
    obtain rfl : jv = true := HJV.out.symm.trans HJ
    have m0 := HQl.out _ hq
    have x0 := m0.cell_at 0 rfl
    have x1 := m0.cell_at 1 rfl
    have x2 := m0.cell_at 2 rfl
    have x3 := m0.cell_at 3 rfl
    have x4 := m0.cell_at 4 rfl
    have x5 := m0.cell_at 5 rfl
    have x6 := m0.cell_at 6 rfl
    have x7 := m0.cell_at 7 rfl
    have x8 := m0.cell_at 8 rfl
    have x9 := m0.cell_at 9 rfl
    have x10 := m0.cell_at 10 rfl
    clear m0
    go_wp2_with fail
    refine (KJ.out _ hq).mono ?_
    clear hq x0 x1 x2 x3 x4 x5 x6 x7 x8 x9 x10
    rintro e w4 ⟨rfl, hq⟩
    have m0 := HQl.out _ hq
    have x0 := m0.cell_at 0 rfl
    have x1 := m0.cell_at 1 rfl
    have x2 := m0.cell_at 2 rfl
    have x3 := m0.cell_at 3 rfl
    have x4 := m0.cell_at 4 rfl
    have x5 := m0.cell_at 5 rfl
    have x6 := m0.cell_at 6 rfl
    have x7 := m0.cell_at 7 rfl
    have x8 := m0.cell_at 8 rfl
    have x9 := m0.cell_at 9 rfl
    have x10 := m0.cell_at 10 rfl
    clear m0
    go_upto_region 9 with (fail)
    clear x0 x1 x2 x3 x4 x5 x6 x7 x8 x9 x10
    obtain ⟨gm, hgm⟩ : ∃ gm, w4.heap.size = gm := ⟨_, rfl⟩
    obtain ⟨W3, hW3⟩ : ∃ W3, w4.alloc (.cells #[.slice l.As l.secs.length l.cs, .slice l.Ag l.sigs.length l.cg, .slice l.Ae l.exits.length l.ce, .slice l.Af l.flanks.length l.cf, .int .i64 l.t0, .int .i64 l.t1, .int .i64 l.t2, .int .i64 l.t3, .int .i64 l.t4, .int .i64 l.t5, .int .i64 l.t6] 29) = W3 := ⟨_, rfl⟩
    have HM3 : Hid (Below gm w4 W3 ∧ Whole W3 gm 29 l.cells) := Lib.hid (by rw [← hW3, ← hgm]; exact ⟨below1 w4 _, Whole.new _ _ l.cells⟩)
    have HQ2 := Lib.hid hq
    have HGM := Lib.hid hgm
    have HK : Hid (∀ W, Below gm w4 W → Q W) := Lib.hid (fun W hW => HQ.out _ _ HQ2.out (by rw [HGM.out]; exact hW))
    rw [hW3, hgm]
    clear hW3 hgm hq
    have y1 := HM3.out.2.cell_at 3 rfl
    have f1 := HM3.out.2.frozen 3
    go_upto_region 10 with (fail)
    obtain ⟨W4, hW⟩ : ∃ W4, W3.setCell ⟨gm, 3, none⟩ (.slice none 0 0) = W4 := ⟨_, rfl⟩
    have HM4 : Hid (Below gm w4 W4 ∧ Whole W4 gm 29 [.slice l.As l.secs.length l.cs, .slice l.Ag l.sigs.length l.cg, .slice l.Ae l.exits.length l.ce, .slice none 0 0, .int .i64 l.t0, .int .i64 l.t1, .int .i64 l.t2, .int .i64 l.t3, .int .i64 l.t4, .int .i64 l.t5, .int .i64 l.t6]) := Lib.hid (by rw [← hW]; exact ⟨HM3.out.1.setCell (p := ⟨gm, 3, none⟩) (Nat.le_refl _) _, HM3.out.2.set 3 _⟩)
    rw [hW]
    clear hW y1 f1
    go_upto_region 13 with (fail)
    have hq4 := HK.out _ HM4.out.1
    have hgs : gm < W4.heap.size := HM4.out.2.lt
    have hln : (l.exits.take n).length = n := by rw [List.length_take]; omega
    have hnl : n ≤ 12 := by have := (own_lens HRV.out).2.2.1; omega
    obtain ⟨AE, kE, w5, hrun, own, hB⟩ := appendN (P := Tryd.prog) (f := Exm.cells) (size := 3) (fun _ => rfl) oneExit 24 37 (.agg #[.int .i64 0, .int .i64 0, .slice none 0 0]) 40 Tryd.underlying24 infoExit rfl (by omega) (by omega) (l.exits.take n) l.Ae l.ce W4 ((HQL.out _ hq4).exits.take n) (by rw [hln]; omega)
    rw [hln] at hrun own
    have HOW := Lib.hid own
    have HB5 := Lib.hid hB
    have x2 : (W4.alloc (.cells #[] 37)).cell? ⟨w.heap.size, 2, none⟩ = some (.slice l.Ae l.exits.length l.ce) := (HQl.out _ (HQ.out _ _ hq4 (below1 W4 _))).cell_at 2 rfl
    have hm5 := HM4.out.2.below hB hgs
    have y1 := hm5.cell_at 2 rfl
    have f1 := hm5.frozen 2
    have q1 := HC.out.exits
    have e1 : max (n : Int) 0 = n := by omega
    have e2 : min (n : Int) (l.exits.length : Int) = n := by omega
    have ha : n ≤ l.exits.length := by omega
    have HM5 : Hid (Below gm w4 w5 ∧ Whole w5 gm 29 [.slice l.As l.secs.length l.cs, .slice l.Ag l.sigs.length l.cg, .slice l.Ae l.exits.length l.ce, .slice none 0 0, .int .i64 l.t0, .int .i64 l.t1, .int .i64 l.t2, .int .i64 l.t3, .int .i64 l.t4, .int .i64 l.t5, .int .i64 l.t6]) := Lib.hid ⟨HM4.out.1.trans (hB.mono (by omega)), hm5⟩
    have HLE := Lib.hid (And.intro hgs (And.intro hln hnl))
    clear own hB hm5 hq4 hgs hln hnl
    go_upto_region 14 with (at_builtin; refine list_append rfl (.tmp 79) (.tmp 88) 24 rfl hrun ?_)
    clear x2 y1 f1 q1 e1 e2 ha hrun
    obtain ⟨W6, hW⟩ : ∃ W6, w5.setCell ⟨gm, 2, none⟩ (.slice AE n kE) = W6 := ⟨_, rfl⟩
    have HM6 : Hid (Below gm w4 W6 ∧ Whole W6 gm 29 [.slice l.As l.secs.length l.cs, .slice l.Ag l.sigs.length l.cg, .slice AE n kE, .slice none 0 0, .int .i64 l.t0, .int .i64 l.t1, .int .i64 l.t2, .int .i64 l.t3, .int .i64 l.t4, .int .i64 l.t5, .int .i64 l.t6]) := Lib.hid (by rw [← hW]; exact ⟨HM5.out.1.setCell (p := ⟨gm, 2, none⟩) (Nat.le_refl _) _, HM5.out.2.set 2 _⟩)
    have hro : Row W6 W6.heap.size AE ((l.exits.take n).flatMap Exm.cells) := by
      rw [← hW]
      obtain ⟨A', c', e, hr⟩ := owns_read (owns_set (B := 0) (p := ⟨gm, 2, none⟩) HOW.out HLE.out.1 (.slice AE n kE))
      cases e
      exact hr
    rw [hW]
    clear hW
    obtain ⟨m, hm⟩ : ∃ m : Lay, (⟨l.secs, l.As, l.cs, l.sigs, l.Ag, l.cg, l.exits.take n, AE, kE, [], none, 0, l.t0, l.t1, l.t2, l.t3, l.t4, l.t5, l.t6⟩ : Lay) = m := ⟨_, rfl⟩
    have hcm : [.slice l.As l.secs.length l.cs, .slice l.Ag l.sigs.length l.cg, .slice AE n kE, .slice none 0 0, .int .i64 l.t0, .int .i64 l.t1, .int .i64 l.t2, .int .i64 l.t3, .int .i64 l.t4, .int .i64 l.t5, .int .i64 l.t6] = m.cells := by rw [← hm]; simp only [Lay.cells, HLE.out.2.1, List.length_nil]
    have hrm : rightT m = true := by
      rw [← hm]
      exact (takeE_part HRV.out n).hangs HRV.out HJ HS (HE.take n) HO (NoTwo.nil _)
    obtain ⟨R, HR, HRq, HRm, HLm, hq⟩ : ∃ R : World → Prop, Hid (Closed R) ∧ Hid (∀ W, R W → Q W) ∧ Hid (∀ W, R W → Whole W gm 29 m.cells) ∧ Hid (∀ W, R W → Lies m W) ∧ R W6 :=
      ⟨fun W => (Q W ∧ Whole W gm 29 m.cells) ∧ Row W W.heap.size AE ((l.exits.take n).flatMap Exm.cells), Lib.hid ((HQ.out.and (Closed.whole _ _ _)).and (fun _ _ h hb => h.on hb)), Lib.hid fun _ h => h.1.1, Lib.hid fun _ h => h.1.2, Lib.hid (fun W h => by
        have hL := HQL.out _ h.1.1
        rw [← hm]
        exact ⟨hL.secs, hL.sigs, h.2, Row.nil _ _ _, fun x hx => hL.overs x (List.mem_of_mem_take hx), hL.kinds, hL.nS, hL.nG, by simp only [HLE.out.2.1]; have := HLE.out.2.2; omega, by simp, fun x hx => hL.nO x (List.mem_of_mem_take hx)⟩), ⟨HK.out _ HM6.out.1, by rw [← hcm]; exact HM6.out.2⟩, hro⟩
    have KM := Lib.hid (fun W hW => keepR HR.out (rightT_any (w := W) (HQT.out W (HRq.out W hW)) (HLm.out W hW) hrm) hW)
    clear hro
    have HRB := Lib.hid (fun W hW => HQB.out W (HRq.out W hW))
    have KV := Lib.hid (fun W hW => wakesT_P (P := R) (w := W) HR.out (fun W hW => HQT.out W (HRq.out W hW)) hW)
    clear hm hcm hrm HQ2 HK HGM
    have m0 := HRm.out _ hq
    have x0 := m0.cell_at 0 rfl
    have x1 := m0.cell_at 1 rfl
    have x2 := m0.cell_at 2 rfl
    have x3 := m0.cell_at 3 rfl
    have x4 := m0.cell_at 4 rfl
    have x5 := m0.cell_at 5 rfl
    have x6 := m0.cell_at 6 rfl
    have x7 := m0.cell_at 7 rfl
    have x8 := m0.cell_at 8 rfl
    have x9 := m0.cell_at 9 rfl
    have x10 := m0.cell_at 10 rfl
    clear m0
    go_wp2_with fail
    refine (KM.out _ hq).mono ?_
    clear hq x0 x1 x2 x3 x4 x5 x6 x7 x8 x9 x10
    rintro e w7 ⟨rfl, hq⟩
    have z := (HQl.out _ (HRq.out _ hq)).cell_at 2 rfl
    have z0 : (n : Int) < (l.exits.length : Int) := by omega
    have z1 : (0 : Int) ≤ (n : Int) := by omega
    go_wp2_with fail
    refine (KV.out _ hq).mono ?_
    clear hq z
    rintro e w9 ⟨rfl, hq⟩
    go_wp2_with fail
    go_ret
    exact ⟨rfl, HRB.out _ hq⟩
  · have hv := hv.symm.trans HCV.out
    simp only [Prod.mk.injEq] at hv
    obtain ⟨rfl, rfl, rfl⟩ := hv
    obtain rfl : jv = true := HJV.out.symm.trans HJ
    have m0 := HQl.out _ hq
    have x0 := m0.cell_at 0 rfl
    have x1 := m0.cell_at 1 rfl
    have x2 := m0.cell_at 2 rfl
    have x3 := m0.cell_at 3 rfl
    have x4 := m0.cell_at 4 rfl
    have x5 := m0.cell_at 5 rfl
    have x6 := m0.cell_at 6 rfl
    have x7 := m0.cell_at 7 rfl
    have x8 := m0.cell_at 8 rfl
    have x9 := m0.cell_at 9 rfl
    have x10 := m0.cell_at 10 rfl
    clear m0
    go_wp2_with fail
    refine (KJ.out _ hq).mono ?_
    clear hq x0 x1 x2 x3 x4 x5 x6 x7 x8 x9 x10
    rintro e w4 ⟨rfl, hq⟩
    have m0 := HQl.out _ hq
    have x0 := m0.cell_at 0 rfl
    have x1 := m0.cell_at 1 rfl
    have x2 := m0.cell_at 2 rfl
    have x3 := m0.cell_at 3 rfl
    have x4 := m0.cell_at 4 rfl
    have x5 := m0.cell_at 5 rfl
    have x6 := m0.cell_at 6 rfl
    have x7 := m0.cell_at 7 rfl
    have x8 := m0.cell_at 8 rfl
    have x9 := m0.cell_at 9 rfl
    have x10 := m0.cell_at 10 rfl
    clear m0
    go_upto_region 9 with (fail)
    clear x0 x1 x2 x3 x4 x5 x6 x7 x8 x9 x10
    obtain ⟨gm, hgm⟩ : ∃ gm, w4.heap.size = gm := ⟨_, rfl⟩
    obtain ⟨W3, hW3⟩ : ∃ W3, w4.alloc (.cells #[.slice l.As l.secs.length l.cs, .slice l.Ag l.sigs.length l.cg, .slice l.Ae l.exits.length l.ce, .slice l.Af l.flanks.length l.cf, .int .i64 l.t0, .int .i64 l.t1, .int .i64 l.t2, .int .i64 l.t3, .int .i64 l.t4, .int .i64 l.t5, .int .i64 l.t6] 29) = W3 := ⟨_, rfl⟩
    have HM3 : Hid (Below gm w4 W3 ∧ Whole W3 gm 29 l.cells) := Lib.hid (by rw [← hW3, ← hgm]; exact ⟨below1 w4 _, Whole.new _ _ l.cells⟩)
    have HQ2 := Lib.hid hq
    have HGM := Lib.hid hgm
    have HK : Hid (∀ W, Below gm w4 W → Q W) := Lib.hid (fun W hW => HQ.out _ _ HQ2.out (by rw [HGM.out]; exact hW))
    rw [hW3, hgm]
    clear hW3 hgm hq
    have y1 := HM3.out.2.cell_at 3 rfl
    have f1 := HM3.out.2.frozen 3
    go_upto_region 10 with (fail)
    obtain ⟨W4, hW⟩ : ∃ W4, W3.setCell ⟨gm, 3, none⟩ (.slice none 0 0) = W4 := ⟨_, rfl⟩
    have HM4 : Hid (Below gm w4 W4 ∧ Whole W4 gm 29 [.slice l.As l.secs.length l.cs, .slice l.Ag l.sigs.length l.cg, .slice l.Ae l.exits.length l.ce, .slice none 0 0, .int .i64 l.t0, .int .i64 l.t1, .int .i64 l.t2, .int .i64 l.t3, .int .i64 l.t4, .int .i64 l.t5, .int .i64 l.t6]) := Lib.hid (by rw [← hW]; exact ⟨HM3.out.1.setCell (p := ⟨gm, 3, none⟩) (Nat.le_refl _) _, HM3.out.2.set 3 _⟩)
    rw [hW]
    clear hW y1 f1
    obtain ⟨m, hm⟩ : ∃ m : Lay, (⟨l.secs, l.As, l.cs, l.sigs, l.Ag, l.cg, l.exits, l.Ae, l.ce, [], none, 0, l.t0, l.t1, l.t2, l.t3, l.t4, l.t5, l.t6⟩ : Lay) = m := ⟨_, rfl⟩
    have hcm : [.slice l.As l.secs.length l.cs, .slice l.Ag l.sigs.length l.cg, .slice l.Ae l.exits.length l.ce, .slice none 0 0, .int .i64 l.t0, .int .i64 l.t1, .int .i64 l.t2, .int .i64 l.t3, .int .i64 l.t4, .int .i64 l.t5, .int .i64 l.t6] = m.cells := by rw [← hm]; rfl
    have HLm : Hid (∀ W, Q W → Lies m W) := Lib.hid (fun W hW => by rw [← hm]; exact (HQL.out W hW).bare3)
    have hrm : rightT m = true := by rw [← hm]; exact (bare3_part HRV.out).hangs HRV.out HJ HS HE HO (NoTwo.nil _)
    obtain ⟨R, HR, HRq, HRm, hq⟩ : ∃ R : World → Prop, Hid (Closed R) ∧ Hid (∀ W, R W → Q W) ∧ Hid (∀ W, R W → Whole W gm 29 m.cells) ∧ R W4 :=
      ⟨fun W => Q W ∧ Whole W gm 29 m.cells, Lib.hid (HQ.out.and (Closed.whole _ _ _)), Lib.hid fun _ h => h.1, Lib.hid fun _ h => h.2, HK.out _ HM4.out.1, by rw [← hcm]; exact HM4.out.2⟩
    have KM := Lib.hid (fun W hW => keepR HR.out (rightT_any (w := W) (HQT.out W (HRq.out W hW)) (HLm.out W (HRq.out W hW)) hrm) hW)
    have HRB := Lib.hid (fun W hW => HQB.out W (HRq.out W hW))
    have KV := Lib.hid (fun W hW => wakesT_P (P := R) (w := W) HR.out (fun W hW => HQT.out W (HRq.out W hW)) hW)
    clear hm hcm hrm HQ2 HK HGM
    have m0 := HRm.out _ hq
    have x0 := m0.cell_at 0 rfl
    have x1 := m0.cell_at 1 rfl
    have x2 := m0.cell_at 2 rfl
    have x3 := m0.cell_at 3 rfl
    have x4 := m0.cell_at 4 rfl
    have x5 := m0.cell_at 5 rfl
    have x6 := m0.cell_at 6 rfl
    have x7 := m0.cell_at 7 rfl
    have x8 := m0.cell_at 8 rfl
    have x9 := m0.cell_at 9 rfl
    have x10 := m0.cell_at 10 rfl
    clear m0
    go_wp2_with fail
    refine (KM.out _ hq).mono ?_
    clear hq x0 x1 x2 x3 x4 x5 x6 x7 x8 x9 x10
    rintro e w7 ⟨rfl, hq⟩
    have z := (HQl.out _ (HRq.out _ hq)).cell_at 3 rfl
    have z0 : (n : Int) < (l.flanks.length : Int) := by omega
    have z1 : (0 : Int) ≤ (n : Int) := by omega
    go_wp2_with fail
    refine (KV.out _ hq).mono ?_
    clear hq z
    rintro e w9 ⟨rfl, hq⟩
    go_wp2_with fail
    go_ret
    exact ⟨rfl, HRB.out _ hq⟩
end Go.Proofs.YtpppieffkklnhaaDoor
