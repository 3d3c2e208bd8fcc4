/- ImageOnly: a section, a point, a signal hangs on its own bits alone. -/
import Derived.Deep.CutRange
import Derived.Test.YtniihmafbeplaaaDoorQLiO0
namespace Go.Proofs.YtniihmafbeplaaaDoor
open Go.RowKit Go.Shelf
set_option linter.unusedVariables false
set_option linter.unusedSimpArgs false

set_option maxRecDepth 100000 in
set_option maxHeartbeats 32000000 in
theorem imageOnly_walk (l : Lay) (im : Img) (n : Int) (x : Inn) (w : World) (hT : Tops w) (hL : Lies l w) (hi : im.Wf) (hx : x.Wf) :
    Calls Tryd.prog 7 #[l.val, im.val, .int .i64 n, x.val] w fun e w' => e = .returned (.bool true) ∧ Below w.heap.size w w' := by
  obtain ⟨Q, HQ, HQb, HQl, HQi, HQx, hq⟩ := keep3 (w := w) l.cells im.cells x.cells 29 35 33
  obtain ⟨g, hg⟩ : ∃ g, greatJ l = g := ⟨_, rfl⟩
  have KG : Hid (∀ W, Q W → Calls Tryd.prog 8 #[l.val] W fun e w' => e = .returned (.bool g) ∧ Below W.heap.size W w') := Lib.hid fun W hW => great15_B (Lies.closed l _ _ hL (HQb.out W hW)) hg
  have KW : Hid (∀ W, Q W → Calls Tryd.prog 9 #[] W fun e w' => e = .returned (.bool true) ∧ Below W.heap.size W w') := Lib.hid fun W hW => wakes15_B (hT.below (HQb.out W hW))
  have hcase : g = true ∨ (g = false ∧ n < 0) ∨ (g = false ∧ 0 ≤ n ∧ 24 ≤ n) ∨ (g = false ∧ 0 ≤ n ∧ n < 24) := by cases g <;> simp <;> omega
  have m0 := HQl.out _ hq
  have x0 := m0.cell_at 0 rfl
  have x1 := m0.cell_at 1 rfl
  have x2 := m0.cell_at 2 rfl
  have x3 := m0.cell_at 3 rfl
  have x4 := m0.cell_at 4 rfl
  have x5 := m0.cell_at 5 rfl
  have x6 := m0.cell_at 6 rfl
  have x7 := m0.cell_at 7 rfl
  have x8 := m0.cell_at 8 rfl
  have x9 := m0.cell_at 9 rfl
  have x10 := m0.cell_at 10 rfl
  clear m0
  go_enter Tryd.func7, Tryd.ntmps7
  go_upto_region 1 with (fail)
  generalize ((w.alloc (.cells #[.slice l.As l.secs.length l.cs, .slice l.Ag l.sigs.length l.cg, .slice l.Ae l.exits.length l.ce, .slice l.Af l.flanks.length l.cf, .int .i64 l.t0, .int .i64 l.t1, .int .i64 l.t2, .int .i64 l.t3, .int .i64 l.t4, .int .i64 l.t5, .int .i64 l.t6] 29)).alloc (.cells im.cells.toArray 35)).alloc (.cells #[.int .u32 x.o, .int .u32 x.n, .int .u32 x.r, .int .u32 x.p] 33) = W1 at *
  go_wp2_with fail
  refine (KG.out _ hq).mono ?_
  clear x0 x1 x2 x3 x4 x5 x6 x7 x8 x9 x10
  rintro e W0 ⟨rfl, hB⟩
  have hq := HQ.out _ _ hq hB
  clear hB
  rcases hcase with rfl | ⟨rfl, h1⟩ | ⟨rfl, h1, h2⟩ | ⟨rfl, h1, h2⟩
  · clear hT hL hg
    go_wp2_with fail
    refine (KW.out _ hq).mono ?_
    rintro e W2 ⟨rfl, hB⟩
    have HB := Lib.hid (HQb.out _ (HQ.out _ _ hq hB))
    clear hB hq
    go_wp2_with fail
    go_ret
    exact ⟨rfl, HB.out⟩
  · clear hT hL hg
    go_wp2_with fail
    refine (KW.out _ hq).mono ?_
    rintro e W2 ⟨rfl, hB⟩
    have HB := Lib.hid (HQb.out _ (HQ.out _ _ hq hB))
    clear hB hq
    go_wp2_with fail
    go_ret
    exact ⟨rfl, HB.out⟩
  · clear hT hL hg
    go_wp2_with fail
    refine (KW.out _ hq).mono ?_
    rintro e W2 ⟨rfl, hB⟩
    have HB := Lib.hid (HQb.out _ (HQ.out _ _ hq hB))
    clear hB hq
    go_wp2_with fail
    go_ret
    exact ⟨rfl, HB.out⟩
  · have HQf : Hid (∀ W, Q W → Fld l W) := Lib.hid fun W hW => (fld_of hL hT hg).on (HQb.out W hW)
    obtain ⟨k, rfl⟩ : ∃ k : Nat, n = k := ⟨n.toNat, by omega⟩
    have hk : k < 24 := by omega
    have h3 : (k : Int) ≤ 32 := by omega
    have hw64 : IntKind.u64.wrap (k : Int) = (k : Int) := by rw [IntKind.wrap_u64]; omega
    have ho1 := one_eq hk
    have ho2 : IntKind.u32.wrap ((2 : Int) ^ k) = oneU k := ho1
    obtain ⟨one, hone⟩ : ∃ y, oneU k = y := ⟨_, rfl⟩
    obtain ⟨ao, hao⟩ : ∃ y, bits BinOp.and IntKind.u32 im.o one = y := ⟨_, rfl⟩
    obtain ⟨bo, hbo⟩ : ∃ y, bits BinOp.andNot IntKind.u32 x.o one = y := ⟨_, rfl⟩
    obtain ⟨yo, hyo⟩ : ∃ y, bits BinOp.or IntKind.u32 ao bo = y := ⟨_, rfl⟩
    obtain ⟨an, han⟩ : ∃ y, bits BinOp.and IntKind.u32 im.n one = y := ⟨_, rfl⟩
    obtain ⟨bn, hbn⟩ : ∃ y, bits BinOp.andNot IntKind.u32 x.n one = y := ⟨_, rfl⟩
    obtain ⟨yn, hyn⟩ : ∃ y, bits BinOp.or IntKind.u32 an bn = y := ⟨_, rfl⟩
    obtain ⟨ar, har⟩ : ∃ y, bits BinOp.and IntKind.u32 im.r one = y := ⟨_, rfl⟩
    obtain ⟨br, hbr⟩ : ∃ y, bits BinOp.andNot IntKind.u32 x.r one = y := ⟨_, rfl⟩
    obtain ⟨yr, hyr⟩ : ∃ y, bits BinOp.or IntKind.u32 ar br = y := ⟨_, rfl⟩
    obtain ⟨ap, hap⟩ : ∃ y, bits BinOp.and IntKind.u32 im.p one = y := ⟨_, rfl⟩
    obtain ⟨bp, hbp⟩ : ∃ y, bits BinOp.andNot IntKind.u32 x.p one = y := ⟨_, rfl⟩
    obtain ⟨yp, hyp⟩ : ∃ y, bits BinOp.or IntKind.u32 ap bp = y := ⟨_, rfl⟩
    obtain ⟨xo, hxo⟩ : ∃ y, otherI im x k = y := ⟨_, rfl⟩
    have hxe : xo = ⟨yo, yn, yr, yp⟩ := by rw [← hxo, ← hyo, ← hyn, ← hyr, ← hyp, ← hao, ← han, ← har, ← hap, ← hbo, ← hbn, ← hbr, ← hbp, ← hone]; rfl
    have hxw : xo.Wf := by rw [← hxo]; exact other_wf hi hx hk
    obtain ⟨io, hio⟩ : ∃ y, im.told xo = y := ⟨_, rfl⟩
    have how : io.Wf := by rw [← hio]; exact Img.told_wf hi hxw
    obtain ⟨ro, hro⟩ : ∃ y, occI l im k = y := ⟨_, rfl⟩
    have gro : occI l io k = ro := by rw [← hro, ← hio, ← hxo]; exact other_occ hi hx hk
    obtain ⟨rt, hrt⟩ : ∃ y, told15 l im k (cntI l) im.o = y := ⟨_, rfl⟩
    have grt : told15 l io k (cntI l) io.o = rt := by rw [← hrt, ← hio, ← hxo]; exact other_told hi hx hk _
    obtain ⟨ra, hra⟩ : ∃ y, atI l im k = y := ⟨_, rfl⟩
    have gra : atI l io k = ra := by rw [← hra, ← hio, ← hxo]; exact other_at hi hx hk
    obtain ⟨rl, hrl⟩ : ∃ y, told15 l im k l.sigs.length im.p = y := ⟨_, rfl⟩
    have grl : told15 l io k l.sigs.length io.p = rl := by rw [← hrl, ← hio, ← hxo]; exact other_lit hi hx hk _
    obtain ⟨rm, hrm⟩ : ∃ y, maskI l im = y := ⟨_, rfl⟩
    obtain ⟨rm2, hrm2⟩ : ∃ y, maskI l io = y := ⟨_, rfl⟩
    obtain ⟨q, hq1⟩ : ∃ y, bits BinOp.and IntKind.u32 (rm : Int) one = y := ⟨_, rfl⟩
    have hq2 : bits BinOp.and IntKind.u32 (rm2 : Int) one = q := by rw [← hq1, ← hrm, ← hrm2, ← hio, ← hxo, ← hone]; exact other_mask hi hx hk
    rw [hone] at ho1 ho2
    have HQ1 := Lib.hid hq1
    have HQ2 := Lib.hid hq2
    have HIO := Lib.hid hio
    have HXE := Lib.hid hxe
    have HTW : Hid (∀ W, Below w.heap.size w W → Tops W) := Lib.hid fun W hW => hT.below hW
    have HFL : Hid (∀ W, Below w.heap.size w W → Fld l W) := Lib.hid fun W hW => (fld_of hL hT hg).on hW
    clear hT hL hg hone hxo hq1 hq2 hio hxe
    go_upto_region 3 with (fail)
    apply wp_region_lit
    refine wpList_read _ (by rfl) (by (go_simp; first | done | with_reducible rfl)) ?_
    simp only [Act.put, List.setIfInBounds_toArray, List.set_cons_zero, List.set_cons_succ]
    refine wpList_read (.int .u64 (k : Nat)) (by rfl) (by (go_simp; first | done | with_reducible rfl)) ?_
    simp only [Act.put, List.setIfInBounds_toArray, List.set_cons_zero, List.set_cons_succ]
    refine wpList_read (.int .u32 one) (by rfl) (by (go_simp; first | done | with_reducible rfl)) ?_
    simp only [Act.put, List.setIfInBounds_toArray, List.set_cons_zero, List.set_cons_succ]
    refine wpList_read _ (by rfl) (by (go_simp; first | done | with_reducible rfl)) ?_
    simp only [Act.put, List.setIfInBounds_toArray, List.set_cons_zero, List.set_cons_succ]
    have Hao := Lib.hid hao
    have Hbo := Lib.hid hbo
    have Hyo := Lib.hid hyo
    have Han := Lib.hid han
    have Hbn := Lib.hid hbn
    have Hyn := Lib.hid hyn
    have Har := Lib.hid har
    have Hbr := Lib.hid hbr
    have Hyr := Lib.hid hyr
    have Hap := Lib.hid hap
    have Hbp := Lib.hid hbp
    have Hyp := Lib.hid hyp
    clear hao hbo hyo han hbn hyn har hbr hyr hap hbp hyp ho1 ho2
    have HGLE : Hid (w.heap.size ≤ W0.heap.size ∧ W0.heap.size ≠ w.heap.size ∧ W0.heap.size ≠ w.heap.size + 1 ∧ W0.heap.size ≠ w.heap.size + 1 + 1) := Lib.hid (by have h1 := (HQx.out _ hq).lt; omega)
    go_upto_region 4 with (fail)
    apply wp_region_lit
    refine wpList_read _ (by rfl) (exec_img hi.len (by rfl) (by rfl) (HQi.out _ hq)) ?_
    simp only [Act.put, List.setIfInBounds_toArray, List.set_cons_zero, List.set_cons_succ]
    refine wpList_var 35 _ _ _ im.cells rfl rfl rfl rfl rfl img_zero (by rfl) (by rfl) (by rw [im.size hi.len]; rfl) (by rw [im.size hi.len]; exact img_info) im.one (fun w7 hO hB => ?_)
    simp only [Act.put, List.setIfInBounds_toArray, List.set_cons_zero, List.set_cons_succ]
    have hq := HQ.out _ _ hq hB
    clear hB
    obtain ⟨gO, hgO⟩ : ∃ g, W0.heap.size = g := ⟨_, rfl⟩
    rw [hgO] at hO
    rw [hgO]
    have hgl : w.heap.size ≤ gO ∧ gO ≠ w.heap.size ∧ gO ≠ w.heap.size + 1 ∧ gO ≠ w.heap.size + 1 + 1 := by rw [← hgO]; exact HGLE.out
    clear hgO
    go_upto_region 5 with (fail)
    apply wp_region_lit
    refine wpList_read _ (by rfl) (by (go_simp; first | done | with_reducible rfl)) ?_
    simp only [Act.put, List.setIfInBounds_toArray, List.set_cons_zero, List.set_cons_succ]
    refine wpList_read _ (by rfl) (by (go_simp; first | done | with_reducible rfl)) ?_
    simp only [Act.put, List.setIfInBounds_toArray, List.set_cons_zero, List.set_cons_succ]
    refine wpList_read _ (by rfl) (by (have c := (HQi.out _ hq).cell_at 25 (im.c_in hi.len 0); go_simp; first | done | with_reducible rfl)) ?_
    simp only [Act.put, List.setIfInBounds_toArray, List.set_cons_zero, List.set_cons_succ]
    refine wpList_read _ (by rfl) (by (go_simp; first | done | with_reducible rfl)) ?_
    simp only [Act.put, List.setIfInBounds_toArray, List.set_cons_zero, List.set_cons_succ]
    refine wpList_read _ (by rfl) (by (have c := Hao.out; go_simp; first | done | with_reducible rfl)) ?_
    simp only [Act.put, List.setIfInBounds_toArray, List.set_cons_zero, List.set_cons_succ]
    refine wpList_read _ (by rfl) (by (go_simp; first | done | with_reducible rfl)) ?_
    simp only [Act.put, List.setIfInBounds_toArray, List.set_cons_zero, List.set_cons_succ]
    refine wpList_read _ (by rfl) (by (have c := (HQx.out _ hq).cell_at 0 rfl; go_simp; first | done | with_reducible rfl)) ?_
    simp only [Act.put, List.setIfInBounds_toArray, List.set_cons_zero, List.set_cons_succ]
    refine wpList_read _ (by rfl) (by (go_simp; first | done | with_reducible rfl)) ?_
    simp only [Act.put, List.setIfInBounds_toArray, List.set_cons_zero, List.set_cons_succ]
    refine wpList_read _ (by rfl) (by (have c := Hbo.out; go_simp; first | done | with_reducible rfl)) ?_
    simp only [Act.put, List.setIfInBounds_toArray, List.set_cons_zero, List.set_cons_succ]
    refine wpList_read _ (by rfl) (by (have c := Hyo.out; go_simp; first | done | with_reducible rfl)) ?_
    simp only [Act.put, List.setIfInBounds_toArray, List.set_cons_zero, List.set_cons_succ]
    refine wpList_read _ (by rfl) (by (go_simp; first | done | with_reducible rfl)) ?_
    simp only [Act.put, List.setIfInBounds_toArray, List.set_cons_zero, List.set_cons_succ]
    refine wpList_read _ (by rfl) (by (go_simp; first | done | with_reducible rfl)) ?_
    simp only [Act.put, List.setIfInBounds_toArray, List.set_cons_zero, List.set_cons_succ]
    refine wpList_read _ (by rfl) (by (have c := (HQi.out _ hq).cell_at 26 (im.c_in hi.len 1); go_simp; first | done | with_reducible rfl)) ?_
    simp only [Act.put, List.setIfInBounds_toArray, List.set_cons_zero, List.set_cons_succ]
    refine wpList_read _ (by rfl) (by (go_simp; first | done | with_reducible rfl)) ?_
    simp only [Act.put, List.setIfInBounds_toArray, List.set_cons_zero, List.set_cons_succ]
    refine wpList_read _ (by rfl) (by (have c := Han.out; go_simp; first | done | with_reducible rfl)) ?_
    simp only [Act.put, List.setIfInBounds_toArray, List.set_cons_zero, List.set_cons_succ]
    refine wpList_read _ (by rfl) (by (go_simp; first | done | with_reducible rfl)) ?_
    simp only [Act.put, List.setIfInBounds_toArray, List.set_cons_zero, List.set_cons_succ]
    refine wpList_read _ (by rfl) (by (have c := (HQx.out _ hq).cell_at 1 rfl; go_simp; first | done | with_reducible rfl)) ?_
    simp only [Act.put, List.setIfInBounds_toArray, List.set_cons_zero, List.set_cons_succ]
    refine wpList_read _ (by rfl) (by (go_simp; first | done | with_reducible rfl)) ?_
    simp only [Act.put, List.setIfInBounds_toArray, List.set_cons_zero, List.set_cons_succ]
    refine wpList_read _ (by rfl) (by (have c := Hbn.out; go_simp; first | done | with_reducible rfl)) ?_
    simp only [Act.put, List.setIfInBounds_toArray, List.set_cons_zero, List.set_cons_succ]
    refine wpList_read _ (by rfl) (by (have c := Hyn.out; go_simp; first | done | with_reducible rfl)) ?_
    simp only [Act.put, List.setIfInBounds_toArray, List.set_cons_zero, List.set_cons_succ]
    refine wpList_read _ (by rfl) (by (go_simp; first | done | with_reducible rfl)) ?_
    simp only [Act.put, List.setIfInBounds_toArray, List.set_cons_zero, List.set_cons_succ]
    refine wpList_read _ (by rfl) (by (go_simp; first | done | with_reducible rfl)) ?_
    simp only [Act.put, List.setIfInBounds_toArray, List.set_cons_zero, List.set_cons_succ]
    refine wpList_read _ (by rfl) (by (have c := (HQi.out _ hq).cell_at 27 (im.c_in hi.len 2); go_simp; first | done | with_reducible rfl)) ?_
    simp only [Act.put, List.setIfInBounds_toArray, List.set_cons_zero, List.set_cons_succ]
    refine wpList_read _ (by rfl) (by (go_simp; first | done | with_reducible rfl)) ?_
    simp only [Act.put, List.setIfInBounds_toArray, List.set_cons_zero, List.set_cons_succ]
    refine wpList_read _ (by rfl) (by (have c := Har.out; go_simp; first | done | with_reducible rfl)) ?_
    simp only [Act.put, List.setIfInBounds_toArray, List.set_cons_zero, List.set_cons_succ]
    refine wpList_read _ (by rfl) (by (go_simp; first | done | with_reducible rfl)) ?_
    simp only [Act.put, List.setIfInBounds_toArray, List.set_cons_zero, List.set_cons_succ]
    refine wpList_read _ (by rfl) (by (have c := (HQx.out _ hq).cell_at 2 rfl; go_simp; first | done | with_reducible rfl)) ?_
    simp only [Act.put, List.setIfInBounds_toArray, List.set_cons_zero, List.set_cons_succ]
    refine wpList_read _ (by rfl) (by (go_simp; first | done | with_reducible rfl)) ?_
    simp only [Act.put, List.setIfInBounds_toArray, List.set_cons_zero, List.set_cons_succ]
    refine wpList_read _ (by rfl) (by (have c := Hbr.out; go_simp; first | done | with_reducible rfl)) ?_
    simp only [Act.put, List.setIfInBounds_toArray, List.set_cons_zero, List.set_cons_succ]
    refine wpList_read _ (by rfl) (by (have c := Hyr.out; go_simp; first | done | with_reducible rfl)) ?_
    simp only [Act.put, List.setIfInBounds_toArray, List.set_cons_zero, List.set_cons_succ]
    refine wpList_read _ (by rfl) (by (go_simp; first | done | with_reducible rfl)) ?_
    simp only [Act.put, List.setIfInBounds_toArray, List.set_cons_zero, List.set_cons_succ]
    refine wpList_read _ (by rfl) (by (go_simp; first | done | with_reducible rfl)) ?_
    simp only [Act.put, List.setIfInBounds_toArray, List.set_cons_zero, List.set_cons_succ]
    refine wpList_read _ (by rfl) (by (have c := (HQi.out _ hq).cell_at 28 (im.c_in hi.len 3); go_simp; first | done | with_reducible rfl)) ?_
    simp only [Act.put, List.setIfInBounds_toArray, List.set_cons_zero, List.set_cons_succ]
    refine wpList_read _ (by rfl) (by (go_simp; first | done | with_reducible rfl)) ?_
    simp only [Act.put, List.setIfInBounds_toArray, List.set_cons_zero, List.set_cons_succ]
    refine wpList_read _ (by rfl) (by (have c := Hap.out; go_simp; first | done | with_reducible rfl)) ?_
    simp only [Act.put, List.setIfInBounds_toArray, List.set_cons_zero, List.set_cons_succ]
    refine wpList_read _ (by rfl) (by (go_simp; first | done | with_reducible rfl)) ?_
    simp only [Act.put, List.setIfInBounds_toArray, List.set_cons_zero, List.set_cons_succ]
    refine wpList_read _ (by rfl) (by (have c := (HQx.out _ hq).cell_at 3 rfl; go_simp; first | done | with_reducible rfl)) ?_
    simp only [Act.put, List.setIfInBounds_toArray, List.set_cons_zero, List.set_cons_succ]
    refine wpList_read _ (by rfl) (by (go_simp; first | done | with_reducible rfl)) ?_
    simp only [Act.put, List.setIfInBounds_toArray, List.set_cons_zero, List.set_cons_succ]
    refine wpList_read _ (by rfl) (by (have c := Hbp.out; go_simp; first | done | with_reducible rfl)) ?_
    simp only [Act.put, List.setIfInBounds_toArray, List.set_cons_zero, List.set_cons_succ]
    refine wpList_read _ (by rfl) (by (have c := Hyp.out; go_simp; first | done | with_reducible rfl)) ?_
    simp only [Act.put, List.setIfInBounds_toArray, List.set_cons_zero, List.set_cons_succ]
    refine wpList_read xo.val (by rfl) (by rw [HXE.out]; exact exec_build (cells := #[.int .u32 yo, .int .u32 yn, .int .u32 yr, .int .u32 yp]) _ _ rfl (by kernel_rfl) _) ?_
    simp only [Act.put, List.setIfInBounds_toArray, List.set_cons_zero, List.set_cons_succ]
    refine wpList_read _ (by rfl) (by (go_simp; first | done | with_reducible rfl)) ?_
    simp only [Act.put, List.setIfInBounds_toArray, List.set_cons_zero, List.set_cons_succ]
    refine wpList_store_mid rfl 33 _ _ rfl gO 25 xo.cells.toArray (by rfl) (by rfl) (Img.there_in hi.len hO) (by exact in_info) (all_oneCell_toArray xo.one) ?_
    simp only [Act.put, List.setIfInBounds_toArray, List.set_cons_zero, List.set_cons_succ]
    have hO2 := Img.store_in hi.len hO xo
    rw [HIO.out] at hO2
    have hL2 := (HQl.out _ hq).farC (g' := gO) (fun e => hgl.2.1 e.symm) 25 xo.cells
    have hI2 := (HQi.out _ hq).farC (g' := gO) (fun e => hgl.2.2.1 e.symm) 25 xo.cells
    have hF2 := HQf.out _ hq
    have hB2 := setCells_below xo.cells 25 (HQb.out _ hq) hgl.1
    have hT2 : Tops (w7.setCells gO 25 xo.cells) := HTW.out _ hB2
    have HFW : Hid (∀ W, Below w.heap.size w W → Fld l W) := Lib.hid fun W hW => HFL.out W hW
    clear hO hF2 hq
    generalize w7.setCells gO 25 xo.cells.toArray.toList = w8 at *
    obtain ⟨R, HR, HRb, HRl, HRi, HRo, hr⟩ : ∃ R : World → Prop, Hid (Closed R) ∧ Hid (∀ W, R W → Below w.heap.size w W) ∧ Hid (∀ W, R W → Whole W w.heap.size 29 l.cells) ∧ Hid (∀ W, R W → Whole W (w.heap.size + 1) 35 im.cells) ∧ Hid (∀ W, R W → Whole W gO 35 io.cells) ∧ R w8 :=
      ⟨fun W => Below w8.heap.size w8 W, Lib.hid (Closed.below w8), Lib.hid fun W h => hB2.trans (h.mono hB2.size), Lib.hid fun W h => Whole.below (t := 29) (cs := l.cells) hL2 h (Whole.lt hL2), Lib.hid fun W h => Whole.below (t := 35) (cs := im.cells) hI2 h (Whole.lt hI2), Lib.hid fun W h => Whole.below (t := 35) (cs := io.cells) hO2 h (Whole.lt hO2), Below.refl _ _⟩
    have KO1 : Hid (∀ W, R W → Calls Tryd.prog 20 #[l.val, im.val, .int .i64 (k : Nat)] W fun e w' => e = .returned (.bool ro) ∧ Below W.heap.size W w') := Lib.hid fun W hW => Occupied_B hi (HFL.out W (HRb.out W hW)) k hro
    have KO2 : Hid (∀ W, R W → Calls Tryd.prog 20 #[l.val, io.val, .int .i64 (k : Nat)] W fun e w' => e = .returned (.bool ro) ∧ Below W.heap.size W w') := Lib.hid fun W hW => Occupied_B how (HFL.out W (HRb.out W hW)) k gro
    have KT1 : Hid (∀ W, R W → Calls Tryd.prog 24 #[l.val, im.val, .int .i64 (k : Nat)] W fun e w' => e = .returned (.bool rt) ∧ Below W.heap.size W w') := Lib.hid fun W hW => Told_B hi (HFL.out W (HRb.out W hW)) k hrt
    have KT2 : Hid (∀ W, R W → Calls Tryd.prog 24 #[l.val, io.val, .int .i64 (k : Nat)] W fun e w' => e = .returned (.bool rt) ∧ Below W.heap.size W w') := Lib.hid fun W hW => Told_B how (HFL.out W (HRb.out W hW)) k grt
    have KA1 : Hid (∀ W, R W → Calls Tryd.prog 22 #[l.val, im.val, .int .i64 (k : Nat)] W fun e w' => e = .returned (.int .i64 ra) ∧ Below W.heap.size W w') := Lib.hid fun W hW => At_B hi (HFL.out W (HRb.out W hW)) k hra
    have KA2 : Hid (∀ W, R W → Calls Tryd.prog 22 #[l.val, io.val, .int .i64 (k : Nat)] W fun e w' => e = .returned (.int .i64 ra) ∧ Below W.heap.size W w') := Lib.hid fun W hW => At_B how (HFL.out W (HRb.out W hW)) k gra
    have KL1 : Hid (∀ W, R W → Calls Tryd.prog 26 #[l.val, im.val, .int .i64 (k : Nat)] W fun e w' => e = .returned (.bool rl) ∧ Below W.heap.size W w') := Lib.hid fun W hW => Lit_B hi (HFL.out W (HRb.out W hW)) k hrl
    have KL2 : Hid (∀ W, R W → Calls Tryd.prog 26 #[l.val, io.val, .int .i64 (k : Nat)] W fun e w' => e = .returned (.bool rl) ∧ Below W.heap.size W w') := Lib.hid fun W hW => Lit_B how (HFL.out W (HRb.out W hW)) k grl
    have KM1 : Hid (∀ W, R W → Calls Tryd.prog 28 #[l.val, im.val] W fun e w' => e = .returned (.int .u32 (rm : Nat)) ∧ Below W.heap.size W w') := Lib.hid fun W hW => Mask_B hi (HFL.out W (HRb.out W hW)) hrm
    have KM2 : Hid (∀ W, R W → Calls Tryd.prog 28 #[l.val, io.val] W fun e w' => e = .returned (.int .u32 (rm2 : Nat)) ∧ Below W.heap.size W w') := Lib.hid fun W hW => Mask_B how (HFL.out W (HRb.out W hW)) hrm2
    have KW2 : Hid (∀ W, R W → Calls Tryd.prog 9 #[] W fun e w' => e = .returned (.bool true) ∧ Below W.heap.size W w') := Lib.hid fun W hW => wakes15_B (HTW.out W (HRb.out W hW))
    clear hro gro hrt grt hra gra hrl grl hrm hrm2 hL2 hI2 hO2 hB2 hT2
    go_upto_region 6 with (fail)
    try simp only [List.append_eq, List.cons_append, List.nil_append]
    have HBS : Hid (∀ W, Below w8.heap.size w8 W → R W) := Lib.hid (fun W hB => HR.out _ _ hr hB)
    clear hr
    refine region_mix (Below w8.heap.size w8) [(0, false), (1, false), (2, false), (3, false), (4, false), (5, false), (6, false), (7, false), (8, false), (9, false), (10, false), (11, false), (12, false), (13, false), (14, false), (15, false), (16, false), (17, false), (18, false), (19, false), (20, false), (21, false), (22, false), (23, false), (24, false), (25, false), (26, false), (27, false), (28, false), (29, false), (30, false), (31, false), (32, false), (33, false), (34, false), (35, false), (36, false), (37, false), (38, false), (39, false), (40, false), (41, false), (42, false), (43, false), (44, false), (45, false), (46, false), (47, false), (48, false), (49, false), (50, false), (51, false), (52, false), (53, false), (54, false), (55, false), (56, false), (57, false), (58, false)] (by kernel_rfl) (by kernel_rfl) (Below w8.heap.size w8) ⟨Closed.below w8, fun _ h => h⟩ (Below.refl _ _).drew ?_
    simp only [pickOps, List.getElem?_cons_zero, List.getElem?_cons_succ]
    refine mix_read _ (by rfl) (fun W hW => exec_lay (by rfl) (by rfl) (HRl.out _ (HBS.out W hW))) ?_
    simp only [Act.put, List.setIfInBounds_toArray, List.set_cons_zero, List.set_cons_succ]
    refine mix_read _ (by rfl) (fun W hW => exec_img hi.len (by rfl) (by rfl) (HRi.out _ (HBS.out W hW))) ?_
    simp only [Act.put, List.setIfInBounds_toArray, List.set_cons_zero, List.set_cons_succ]
    refine mix_read _ (by rfl) (fun W hW => by (go_simp; first | done | with_reducible rfl)) ?_
    simp only [Act.put, List.setIfInBounds_toArray, List.set_cons_zero, List.set_cons_succ]
    refine mix_call _ _ _ (by rfl) (fun W hW => by (go_simp; first | done | with_reducible rfl)) (fun W hW => KO1.out _ (HBS.out W hW)) ?_
    simp only [Act.put, List.setIfInBounds_toArray, List.set_cons_zero, List.set_cons_succ]
    refine mix_read _ (by rfl) (fun W hW => exec_lay (by rfl) (by rfl) (HRl.out _ (HBS.out W hW))) ?_
    simp only [Act.put, List.setIfInBounds_toArray, List.set_cons_zero, List.set_cons_succ]
    refine mix_read _ (by rfl) (fun W hW => exec_img how.len (by rfl) (by rfl) (HRo.out _ (HBS.out W hW))) ?_
    simp only [Act.put, List.setIfInBounds_toArray, List.set_cons_zero, List.set_cons_succ]
    refine mix_read _ (by rfl) (fun W hW => by (go_simp; first | done | with_reducible rfl)) ?_
    simp only [Act.put, List.setIfInBounds_toArray, List.set_cons_zero, List.set_cons_succ]
    refine mix_call _ _ _ (by rfl) (fun W hW => by (go_simp; first | done | with_reducible rfl)) (fun W hW => KO2.out _ (HBS.out W hW)) ?_
    simp only [Act.put, List.setIfInBounds_toArray, List.set_cons_zero, List.set_cons_succ]
    refine mix_read _ (by rfl) (fun W hW => by (go_simp; first | done | with_reducible rfl)) ?_
    simp only [Act.put, List.setIfInBounds_toArray, List.set_cons_zero, List.set_cons_succ]
    refine mix_read _ (by rfl) (fun W hW => by (go_simp; first | done | with_reducible rfl)) ?_
    simp only [Act.put, List.setIfInBounds_toArray, List.set_cons_zero, List.set_cons_succ]
    refine mix_read _ (by rfl) (fun W hW => exec_lay (by rfl) (by rfl) (HRl.out _ (HBS.out W hW))) ?_
    simp only [Act.put, List.setIfInBounds_toArray, List.set_cons_zero, List.set_cons_succ]
    refine mix_read _ (by rfl) (fun W hW => exec_img hi.len (by rfl) (by rfl) (HRi.out _ (HBS.out W hW))) ?_
    simp only [Act.put, List.setIfInBounds_toArray, List.set_cons_zero, List.set_cons_succ]
    refine mix_read _ (by rfl) (fun W hW => by (go_simp; first | done | with_reducible rfl)) ?_
    simp only [Act.put, List.setIfInBounds_toArray, List.set_cons_zero, List.set_cons_succ]
    refine mix_call _ _ _ (by rfl) (fun W hW => by (go_simp; first | done | with_reducible rfl)) (fun W hW => KT1.out _ (HBS.out W hW)) ?_
    simp only [Act.put, List.setIfInBounds_toArray, List.set_cons_zero, List.set_cons_succ]
    refine mix_read _ (by rfl) (fun W hW => exec_lay (by rfl) (by rfl) (HRl.out _ (HBS.out W hW))) ?_
    simp only [Act.put, List.setIfInBounds_toArray, List.set_cons_zero, List.set_cons_succ]
    refine mix_read _ (by rfl) (fun W hW => exec_img how.len (by rfl) (by rfl) (HRo.out _ (HBS.out W hW))) ?_
    simp only [Act.put, List.setIfInBounds_toArray, List.set_cons_zero, List.set_cons_succ]
    refine mix_read _ (by rfl) (fun W hW => by (go_simp; first | done | with_reducible rfl)) ?_
    simp only [Act.put, List.setIfInBounds_toArray, List.set_cons_zero, List.set_cons_succ]
    refine mix_call _ _ _ (by rfl) (fun W hW => by (go_simp; first | done | with_reducible rfl)) (fun W hW => KT2.out _ (HBS.out W hW)) ?_
    simp only [Act.put, List.setIfInBounds_toArray, List.set_cons_zero, List.set_cons_succ]
    refine mix_read _ (by rfl) (fun W hW => by (go_simp; first | done | with_reducible rfl)) ?_
    simp only [Act.put, List.setIfInBounds_toArray, List.set_cons_zero, List.set_cons_succ]
    refine mix_read _ (by rfl) (fun W hW => by (go_simp; first | done | with_reducible rfl)) ?_
    simp only [Act.put, List.setIfInBounds_toArray, List.set_cons_zero, List.set_cons_succ]
    refine mix_read _ (by rfl) (fun W hW => by (go_simp; first | done | with_reducible rfl)) ?_
    simp only [Act.put, List.setIfInBounds_toArray, List.set_cons_zero, List.set_cons_succ]
    refine mix_read _ (by rfl) (fun W hW => exec_lay (by rfl) (by rfl) (HRl.out _ (HBS.out W hW))) ?_
    simp only [Act.put, List.setIfInBounds_toArray, List.set_cons_zero, List.set_cons_succ]
    refine mix_read _ (by rfl) (fun W hW => exec_img hi.len (by rfl) (by rfl) (HRi.out _ (HBS.out W hW))) ?_
    simp only [Act.put, List.setIfInBounds_toArray, List.set_cons_zero, List.set_cons_succ]
    refine mix_read _ (by rfl) (fun W hW => by (go_simp; first | done | with_reducible rfl)) ?_
    simp only [Act.put, List.setIfInBounds_toArray, List.set_cons_zero, List.set_cons_succ]
    refine mix_call _ _ _ (by rfl) (fun W hW => by (go_simp; first | done | with_reducible rfl)) (fun W hW => KA1.out _ (HBS.out W hW)) ?_
    simp only [Act.put, List.setIfInBounds_toArray, List.set_cons_zero, List.set_cons_succ]
    refine mix_read _ (by rfl) (fun W hW => exec_lay (by rfl) (by rfl) (HRl.out _ (HBS.out W hW))) ?_
    simp only [Act.put, List.setIfInBounds_toArray, List.set_cons_zero, List.set_cons_succ]
    refine mix_read _ (by rfl) (fun W hW => exec_img how.len (by rfl) (by rfl) (HRo.out _ (HBS.out W hW))) ?_
    simp only [Act.put, List.setIfInBounds_toArray, List.set_cons_zero, List.set_cons_succ]
    refine mix_read _ (by rfl) (fun W hW => by (go_simp; first | done | with_reducible rfl)) ?_
    simp only [Act.put, List.setIfInBounds_toArray, List.set_cons_zero, List.set_cons_succ]
    refine mix_call _ _ _ (by rfl) (fun W hW => by (go_simp; first | done | with_reducible rfl)) (fun W hW => KA2.out _ (HBS.out W hW)) ?_
    simp only [Act.put, List.setIfInBounds_toArray, List.set_cons_zero, List.set_cons_succ]
    refine mix_read _ (by rfl) (fun W hW => by (go_simp; first | done | with_reducible rfl)) ?_
    simp only [Act.put, List.setIfInBounds_toArray, List.set_cons_zero, List.set_cons_succ]
    refine mix_read _ (by rfl) (fun W hW => by (go_simp; first | done | with_reducible rfl)) ?_
    simp only [Act.put, List.setIfInBounds_toArray, List.set_cons_zero, List.set_cons_succ]
    refine mix_read _ (by rfl) (fun W hW => by (go_simp; first | done | with_reducible rfl)) ?_
    simp only [Act.put, List.setIfInBounds_toArray, List.set_cons_zero, List.set_cons_succ]
    refine mix_read _ (by rfl) (fun W hW => exec_lay (by rfl) (by rfl) (HRl.out _ (HBS.out W hW))) ?_
    simp only [Act.put, List.setIfInBounds_toArray, List.set_cons_zero, List.set_cons_succ]
    refine mix_read _ (by rfl) (fun W hW => exec_img hi.len (by rfl) (by rfl) (HRi.out _ (HBS.out W hW))) ?_
    simp only [Act.put, List.setIfInBounds_toArray, List.set_cons_zero, List.set_cons_succ]
    refine mix_read _ (by rfl) (fun W hW => by (go_simp; first | done | with_reducible rfl)) ?_
    simp only [Act.put, List.setIfInBounds_toArray, List.set_cons_zero, List.set_cons_succ]
    refine mix_call _ _ _ (by rfl) (fun W hW => by (go_simp; first | done | with_reducible rfl)) (fun W hW => KL1.out _ (HBS.out W hW)) ?_
    simp only [Act.put, List.setIfInBounds_toArray, List.set_cons_zero, List.set_cons_succ]
    refine mix_read _ (by rfl) (fun W hW => exec_lay (by rfl) (by rfl) (HRl.out _ (HBS.out W hW))) ?_
    simp only [Act.put, List.setIfInBounds_toArray, List.set_cons_zero, List.set_cons_succ]
    refine mix_read _ (by rfl) (fun W hW => exec_img how.len (by rfl) (by rfl) (HRo.out _ (HBS.out W hW))) ?_
    simp only [Act.put, List.setIfInBounds_toArray, List.set_cons_zero, List.set_cons_succ]
    refine mix_read _ (by rfl) (fun W hW => by (go_simp; first | done | with_reducible rfl)) ?_
    simp only [Act.put, List.setIfInBounds_toArray, List.set_cons_zero, List.set_cons_succ]
    refine mix_call _ _ _ (by rfl) (fun W hW => by (go_simp; first | done | with_reducible rfl)) (fun W hW => KL2.out _ (HBS.out W hW)) ?_
    simp only [Act.put, List.setIfInBounds_toArray, List.set_cons_zero, List.set_cons_succ]
    refine mix_read _ (by rfl) (fun W hW => by (go_simp; first | done | with_reducible rfl)) ?_
    simp only [Act.put, List.setIfInBounds_toArray, List.set_cons_zero, List.set_cons_succ]
    refine mix_read _ (by rfl) (fun W hW => by (go_simp; first | done | with_reducible rfl)) ?_
    simp only [Act.put, List.setIfInBounds_toArray, List.set_cons_zero, List.set_cons_succ]
    refine mix_read _ (by rfl) (fun W hW => by (go_simp; first | done | with_reducible rfl)) ?_
    simp only [Act.put, List.setIfInBounds_toArray, List.set_cons_zero, List.set_cons_succ]
    refine mix_read _ (by rfl) (fun W hW => exec_lay (by rfl) (by rfl) (HRl.out _ (HBS.out W hW))) ?_
    simp only [Act.put, List.setIfInBounds_toArray, List.set_cons_zero, List.set_cons_succ]
    refine mix_read _ (by rfl) (fun W hW => exec_img hi.len (by rfl) (by rfl) (HRi.out _ (HBS.out W hW))) ?_
    simp only [Act.put, List.setIfInBounds_toArray, List.set_cons_zero, List.set_cons_succ]
    refine mix_call _ _ _ (by rfl) (fun W hW => by (go_simp; first | done | with_reducible rfl)) (fun W hW => KM1.out _ (HBS.out W hW)) ?_
    simp only [Act.put, List.setIfInBounds_toArray, List.set_cons_zero, List.set_cons_succ]
    refine mix_read _ (by rfl) (fun W hW => by (go_simp; first | done | with_reducible rfl)) ?_
    simp only [Act.put, List.setIfInBounds_toArray, List.set_cons_zero, List.set_cons_succ]
    refine mix_read _ (by rfl) (fun W hW => by (have hW := HBS.out W hW; have c := HQ1.out; go_simp; first | done | with_reducible rfl)) ?_
    simp only [Act.put, List.setIfInBounds_toArray, List.set_cons_zero, List.set_cons_succ]
    refine mix_read _ (by rfl) (fun W hW => exec_lay (by rfl) (by rfl) (HRl.out _ (HBS.out W hW))) ?_
    simp only [Act.put, List.setIfInBounds_toArray, List.set_cons_zero, List.set_cons_succ]
    refine mix_read _ (by rfl) (fun W hW => exec_img how.len (by rfl) (by rfl) (HRo.out _ (HBS.out W hW))) ?_
    simp only [Act.put, List.setIfInBounds_toArray, List.set_cons_zero, List.set_cons_succ]
    refine mix_call _ _ _ (by rfl) (fun W hW => by (go_simp; first | done | with_reducible rfl)) (fun W hW => KM2.out _ (HBS.out W hW)) ?_
    simp only [Act.put, List.setIfInBounds_toArray, List.set_cons_zero, List.set_cons_succ]
    refine mix_read _ (by rfl) (fun W hW => by (go_simp; first | done | with_reducible rfl)) ?_
    simp only [Act.put, List.setIfInBounds_toArray, List.set_cons_zero, List.set_cons_succ]
    refine mix_read _ (by rfl) (fun W hW => by (have hW := HBS.out W hW; have c := HQ2.out; go_simp; first | done | with_reducible rfl)) ?_
    simp only [Act.put, List.setIfInBounds_toArray, List.set_cons_zero, List.set_cons_succ]
    refine mix_read _ (by rfl) (fun W hW => by (go_simp; first | done | with_reducible rfl)) ?_
    simp only [Act.put, List.setIfInBounds_toArray, List.set_cons_zero, List.set_cons_succ]
    refine mix_read _ (by rfl) (fun W hW => by (go_simp; first | done | with_reducible rfl)) ?_
    simp only [Act.put, List.setIfInBounds_toArray, List.set_cons_zero, List.set_cons_succ]
    refine mix_read _ (by rfl) (fun W hW => by (go_simp; first | done | with_reducible rfl)) ?_
    simp only [Act.put, List.setIfInBounds_toArray, List.set_cons_zero, List.set_cons_succ]
    refine mix_call _ _ _ (by rfl) (fun W hW => by (go_simp; first | done | with_reducible rfl)) (fun W hW => KW2.out _ (HBS.out W hW)) ?_
    simp only [Act.put, List.setIfInBounds_toArray, List.set_cons_zero, List.set_cons_succ]
    refine mix_read _ (by rfl) (fun W hW => by (go_simp; first | done | with_reducible rfl)) ?_
    simp only [Act.put, List.setIfInBounds_toArray, List.set_cons_zero, List.set_cons_succ]
    refine mix_read _ (by rfl) (fun W hW => by (go_simp; first | done | with_reducible rfl)) ?_
    simp only [Act.put, List.setIfInBounds_toArray, List.set_cons_zero, List.set_cons_succ]
    refine mix_nil (fun W hW => ?_)
    have HB := Lib.hid (HRb.out _ (HBS.out W hW))
    clear hW HBS
    go_wp2_with fail
    go_ret
    exact ⟨rfl, HB.out⟩

end Go.Proofs.YtniihmafbeplaaaDoor
