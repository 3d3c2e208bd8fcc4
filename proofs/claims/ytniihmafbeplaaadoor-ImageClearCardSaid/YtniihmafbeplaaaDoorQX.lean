/- The document's own image: Stale, bit, rows, Take, Pass, Right. The document's own image: Take, Pass. -/
import Derived.Deep.CutRange
import Derived.Test.YtniihmafbeplaaaDoorQW
namespace Go.Proofs.YtniihmafbeplaaaDoor
open Go.RowKit Go.Shelf
set_option linter.unusedVariables false
set_option linter.unusedSimpArgs false

set_option maxRecDepth 100000 in
set_option maxHeartbeats 8000000 in
theorem staleR_B {l : Lay} {im : Img} {w : World} {r : Bool} (hr : staleI l im = r) (h : Fld l w) : Calls Tryd.prog 19 #[l.val, im.val] w fun e w' => e = .returned (.bool r) ∧ Below w.heap.size w w' := by
  obtain ⟨Q, HQ, HQf, HQb, HQl, HQi, hq⟩ := keep_li h l.cells im.cells 29 35
  have KL : Hid (∀ W, Q W → Calls Tryd.prog 38 #[.int .i64 im.age, .int .i64 l.t2] W fun e w' => e = .returned (.bool r) ∧ Below W.heap.size W w') := Lib.hid fun W hW => lateR_B _ _ r hr (HQf.out W hW).tops
  clear hr
  go_enter Tryd.func19, Tryd.ntmps19
  have x6 := (HQl.out _ hq).cell_at 6 rfl
  have y0 := (HQi.out _ hq).cell_at 0 im.c_age
  go_wp2_with fail
  refine (KL.out _ hq).mono ?_
  rintro e w1 ⟨rfl, hB⟩
  have HB := Lib.hid (HQb.out _ (HQ.out _ _ hq hB))
  go_wp2_with fail
  go_ret
  exact ⟨rfl, HB.out⟩
set_option maxRecDepth 100000 in
set_option maxHeartbeats 8000000 in
theorem bitR_any {x : Int} (hx : 0 ≤ x ∧ x ≤ 4294967295) {k : Nat} (hk : k ≤ 31) {b : Bool} (hb : bitU x k = b) (w : World) : Calls Tryd.prog 40 #[.int .u32 x, .int .i64 (k : Nat)] w fun e w' => e = .returned (.bool b) ∧ Below w.heap.size w w' := by
  have h0 : (0 : Int) ≤ (k : Int) := by omega
  have h1 : (k : Int) < 32 := by omega
  have h2 : (k : Int) ≤ 32 := by omega
  have hw : IntKind.u64.wrap (k : Int) = (k : Int) := by rw [IntKind.wrap_u64]; omega
  cases b with
  | true =>
    have hy := bit_yes hx hb
    clear hx hb hk
    go_enter Tryd.func40, Tryd.ntmps40
    go_wp2_with fail
    go_ret
    exact ⟨rfl, Below.refl _ _⟩
  | false =>
    have hy := bit_no hx hb
    clear hx hb hk
    go_enter Tryd.func40, Tryd.ntmps40
    go_wp2_with fail
    go_ret
    exact ⟨rfl, Below.refl _ _⟩
/-- Rows under way. -/
structure RSt (l : Lay) (im : Img) (w : World) (j : Nat) (W : World) : Prop where
  below : Below w.heap.size w W
  lay : Whole W w.heap.size 29 l.cells
  img : Whole W (w.heap.size + 1) 35 (im.mid (clearI l im) j).cells
  res : Whole W (w.heap.size + 1 + 1) 35 [.int .i64 0, .int .i64 0, .int .i64 0, .int .i64 0, .int .i64 0, .int .i64 0, .int .i64 0, .int .i64 0, .int .i64 0, .int .i64 0, .int .i64 0, .int .i64 0, .int .i64 0, .int .i64 0, .int .i64 0, .int .i64 0, .int .i64 0, .int .i64 0, .int .i64 0, .int .i64 0, .int .i64 0, .int .i64 0, .int .i64 0, .int .i64 0, .int .i64 0, .int .u32 0, .int .u32 0, .int .u32 0, .int .u32 0]
theorem RSt.on {l : Lay} {im : Img} {w W W' : World} {j : Nat} (h : RSt l im w j W) (hb : Below W.heap.size W W') : RSt l im w j W' := ⟨h.below.trans (hb.mono h.below.size), h.lay.below hb h.lay.lt, h.img.below hb h.img.lt, h.res.below hb h.res.lt⟩
theorem RSt.next {l : Lay} {im : Img} (hi : im.free.length = 24) {w W : World} {j : Nat} (h : RSt l im w j W) {y v : Int} (hy : im.free[j]? = some y) (hv : rowTk (clearI l im j) y = v) : RSt l im w (j + 1) (W.setCell ⟨w.heap.size + 1, 1 + j, none⟩ (.int .i64 v)) := by
  have hj : j < 24 := by rw [← hi]; exact (List.getElem?_eq_some_iff.1 hy).1
  refine ⟨h.below.setCell (by show w.heap.size ≤ w.heap.size + 1; omega) _, h.lay.far (by show w.heap.size ≠ w.heap.size + 1; omega) _, ?_, h.res.far (by show w.heap.size + 1 + 1 ≠ w.heap.size + 1; omega) _⟩
  have := h.img.set (1 + j) (.int .i64 v)
  rw [Img.put_cells _ _ _ (Img.mid_len hi _ (by omega)) hj, ← hv, Img.mid_next hi _ hy, hv] at this
  exact this
set_option maxRecDepth 100000 in
set_option maxHeartbeats 32000000 in
theorem rowsR_B {l : Lay} {im : Img} (hi : im.Wf) {w : World} (h : Fld l w) : Calls Tryd.prog 34 #[l.val, im.val] w fun e w' => e = .returned (im.cnt (clearI l im)).val ∧ Below w.heap.size w w' := by
  obtain ⟨W0, hW0⟩ : ∃ W0, ((w.alloc (.cells #[.slice l.As l.secs.length l.cs, .slice l.Ag l.sigs.length l.cg, .slice l.Ae l.exits.length l.ce, .slice l.Af l.flanks.length l.cf, .int .i64 l.t0, .int .i64 l.t1, .int .i64 l.t2, .int .i64 l.t3, .int .i64 l.t4, .int .i64 l.t5, .int .i64 l.t6] 29)).alloc (.cells im.cells.toArray 35)).alloc (.cells #[.int .i64 0, .int .i64 0, .int .i64 0, .int .i64 0, .int .i64 0, .int .i64 0, .int .i64 0, .int .i64 0, .int .i64 0, .int .i64 0, .int .i64 0, .int .i64 0, .int .i64 0, .int .i64 0, .int .i64 0, .int .i64 0, .int .i64 0, .int .i64 0, .int .i64 0, .int .i64 0, .int .i64 0, .int .i64 0, .int .i64 0, .int .i64 0, .int .i64 0, .int .u32 0, .int .u32 0, .int .u32 0, .int .u32 0] 35) = W0 := ⟨_, rfl⟩
  have HS0 : Hid (RSt l im w 0 W0) := Lib.hid (by
    rw [← hW0]
    exact ⟨below3 w _ _ _, ((Whole.new w _ l.cells).alloc _).alloc _, by rw [Img.mid_zero]; exact (Whole.new_at _ _ im.cells _ (by simp)).alloc _, Whole.new_at _ _ _ _ (by simp)⟩)
  have HFL := Lib.hid h
  clear h
  go_enter Tryd.func34, Tryd.ntmps34
  go_wp2_with fail
  clear hW0
  go_loopw [5] (fun i wr => ∃ j : Nat, j ≤ 24 ∧ i = .int .i64 j ∧ Hid (RSt l im w j wr)) (fun i _ => 24 - (intOf i).toNat)
  case atStart => exact ⟨0, by omega, rfl, HS0⟩
  case round =>
    clear HS0
    obtain ⟨j, hj, rfl, HS⟩ := hrel
    obtain ⟨Wb, rfl⟩ : ∃ W, W = wr := ⟨wr, rfl⟩
    by_cases hlt : j < 24
    · have hlt' : (j : Int) < 24 := by omega
      have hj0 : (0 : Int) ≤ (j : Int) := by omega
      obtain ⟨y, hy⟩ : ∃ y, im.free[j]? = some y := ⟨_, List.getElem?_eq_getElem (by rw [hi.len]; exact hlt)⟩
      obtain ⟨st, hst⟩ : ∃ b, staleI l im = b := ⟨_, rfl⟩
      obtain ⟨b, hb⟩ : ∃ b, bitU im.o j = b := ⟨_, rfl⟩
      obtain ⟨v, hv⟩ : ∃ v, rowTk (!st && !b) y = v := ⟨_, rfl⟩
      have HV : Hid (rowTk (clearI l im j) y = v) := Lib.hid (by unfold clearI; rw [hst, hb]; exact hv)
      have HYY := Lib.hid hy
      have HML := Lib.hid (Img.mid_len hi.len (clearI l im) hj)
      have HY := Lib.hid ((im.mid (clearI l im) j).c_free (Img.mid_at hi.len _ hy))
      have HO : Hid ((im.mid (clearI l im) j).cells[25]? = some (.int .u32 im.o)) := Lib.hid ((im.mid (clearI l im) j).c_in HML.out 0)
      have HF : Hid (∀ W, Below Wb.heap.size Wb W → RSt l im w j W) := Lib.hid fun W hW => HS.out.on hW
      have KS : Hid (∀ W, Below Wb.heap.size Wb W → Calls Tryd.prog 19 #[l.val, (im.mid (clearI l im) j).val] W fun e w' => e = .returned (.bool st) ∧ Below W.heap.size W w') := Lib.hid fun W hW => staleR_B (im := im.mid (clearI l im) j) hst (HFL.out.on (HF.out W hW).below)
      have KB : Hid (∀ W, Below Wb.heap.size Wb W → Calls Tryd.prog 40 #[.int .u32 im.o, .int .i64 (j : Nat)] W fun e w' => e = .returned (.bool b) ∧ Below W.heap.size W w') := Lib.hid fun W hW => bitR_any hi.o (by omega) hb W
      have KR : Hid (∀ W, Below Wb.heap.size Wb W → Calls Tryd.prog 48 #[.bool (!st && !b), .int .i64 y] W fun e w' => e = .returned (.int .i64 v) ∧ Below W.heap.size W w') := Lib.hid fun W hW => rowR_B _ y hv (HFL.out.on (HF.out W hW).below).tops
      have H0 := Lib.hid hj0
      have H1 := Lib.hid hlt'
      clear hy hst hb hv HS
      cases st
      · go_wp2_with fail
        refine region_steady (Below Wb.heap.size Wb) 20 (by kernel_rfl) (by kernel_rfl) (Below.refl _ _).drew ?_
        simp only [List.take_succ_cons, List.take_zero, List.drop_succ_cons, List.drop_zero]
        repeat (first | (refine steady_skip (by rfl) ?_; simp only [Act.put, List.setIfInBounds_toArray, List.set_cons_zero, List.set_cons_succ]) | (refine steady_read _ (by rfl) (fun W hW => exec_img HML.out (by rfl) (by rfl) (HF.out W hW).img) ?_; simp only [Act.put, List.setIfInBounds_toArray, List.set_cons_zero, List.set_cons_succ]) | (refine steady_read _ (by rfl) (fun W hW => by (have m0 := (HF.out W hW).lay; have x0 := m0.cell_at 0 rfl; have x1 := m0.cell_at 1 rfl; have x2 := m0.cell_at 2 rfl; have x3 := m0.cell_at 3 rfl; have x4 := m0.cell_at 4 rfl; have x5 := m0.cell_at 5 rfl; have x6 := m0.cell_at 6 rfl; have x7 := m0.cell_at 7 rfl; have x8 := m0.cell_at 8 rfl; have x9 := m0.cell_at 9 rfl; have x10 := m0.cell_at 10 rfl; clear m0; have c1 := (HF.out W hW).img.cell_at _ HY.out; have c2 := (HF.out W hW).img.cell_at 25 HO.out; have d0 := H0.out; have d1 := H1.out; clear hW; go_simp; first | done | with_reducible rfl)) ?_; simp only [Act.put, List.setIfInBounds_toArray, List.set_cons_zero, List.set_cons_succ]) | (refine steady_call _ _ _ (by rfl) (fun W hW => by (have m0 := (HF.out W hW).lay; clear hW m0; have d0 := H0.out; have d1 := H1.out; go_simp; first | done | rfl)) (fun W hW => (KS.out W hW).mono fun e w' h => ⟨h.1, hW.trans (h.2.mono hW.size)⟩) ?_; simp only [Act.put, List.setIfInBounds_toArray, List.set_cons_zero, List.set_cons_succ]) | (refine steady_call _ _ _ (by rfl) (fun W hW => by (have m0 := (HF.out W hW).lay; clear hW m0; have d0 := H0.out; have d1 := H1.out; go_simp; first | done | rfl)) (fun W hW => (KB.out W hW).mono fun e w' h => ⟨h.1, hW.trans (h.2.mono hW.size)⟩) ?_; simp only [Act.put, List.setIfInBounds_toArray, List.set_cons_zero, List.set_cons_succ]) | (refine steady_call _ _ _ (by rfl) (fun W hW => by (have m0 := (HF.out W hW).lay; clear hW m0; have d0 := H0.out; have d1 := H1.out; go_simp; first | done | rfl)) (fun W hW => (KR.out W hW).mono fun e w' h => ⟨h.1, hW.trans (h.2.mono hW.size)⟩) ?_; simp only [Act.put, List.setIfInBounds_toArray, List.set_cons_zero, List.set_cons_succ]))
        refine steady_nil (fun X hX => ?_)
        have c1 := (HF.out X hX).img.cell_at _ HY.out
        have f1 := (HF.out X hX).img.frozen (1 + j)
        have HN := Lib.hid ((HF.out X hX).next hi.len HYY.out HV.out)
        have d0 := H0.out
        have d1 := H1.out
        clear hX
        go_wp2_with fail
        go_roundw
        case rel => exact ⟨j + 1, hlt, by go_num, HN⟩
        case measure => simp [intOf]; omega
      · go_wp2_with fail
        refine region_steady (Below Wb.heap.size Wb) 20 (by kernel_rfl) (by kernel_rfl) (Below.refl _ _).drew ?_
        simp only [List.take_succ_cons, List.take_zero, List.drop_succ_cons, List.drop_zero]
        repeat (first | (refine steady_skip (by rfl) ?_; simp only [Act.put, List.setIfInBounds_toArray, List.set_cons_zero, List.set_cons_succ]) | (refine steady_read _ (by rfl) (fun W hW => exec_img HML.out (by rfl) (by rfl) (HF.out W hW).img) ?_; simp only [Act.put, List.setIfInBounds_toArray, List.set_cons_zero, List.set_cons_succ]) | (refine steady_read _ (by rfl) (fun W hW => by (have m0 := (HF.out W hW).lay; have x0 := m0.cell_at 0 rfl; have x1 := m0.cell_at 1 rfl; have x2 := m0.cell_at 2 rfl; have x3 := m0.cell_at 3 rfl; have x4 := m0.cell_at 4 rfl; have x5 := m0.cell_at 5 rfl; have x6 := m0.cell_at 6 rfl; have x7 := m0.cell_at 7 rfl; have x8 := m0.cell_at 8 rfl; have x9 := m0.cell_at 9 rfl; have x10 := m0.cell_at 10 rfl; clear m0; have c1 := (HF.out W hW).img.cell_at _ HY.out; have c2 := (HF.out W hW).img.cell_at 25 HO.out; have d0 := H0.out; have d1 := H1.out; clear hW; go_simp; first | done | with_reducible rfl)) ?_; simp only [Act.put, List.setIfInBounds_toArray, List.set_cons_zero, List.set_cons_succ]) | (refine steady_call _ _ _ (by rfl) (fun W hW => by (have m0 := (HF.out W hW).lay; clear hW m0; have d0 := H0.out; have d1 := H1.out; go_simp; first | done | rfl)) (fun W hW => (KS.out W hW).mono fun e w' h => ⟨h.1, hW.trans (h.2.mono hW.size)⟩) ?_; simp only [Act.put, List.setIfInBounds_toArray, List.set_cons_zero, List.set_cons_succ]) | (refine steady_call _ _ _ (by rfl) (fun W hW => by (have m0 := (HF.out W hW).lay; clear hW m0; have d0 := H0.out; have d1 := H1.out; go_simp; first | done | rfl)) (fun W hW => (KR.out W hW).mono fun e w' h => ⟨h.1, hW.trans (h.2.mono hW.size)⟩) ?_; simp only [Act.put, List.setIfInBounds_toArray, List.set_cons_zero, List.set_cons_succ]))
        refine steady_nil (fun X hX => ?_)
        have c1 := (HF.out X hX).img.cell_at _ HY.out
        have f1 := (HF.out X hX).img.frozen (1 + j)
        have HN := Lib.hid ((HF.out X hX).next hi.len HYY.out HV.out)
        have d0 := H0.out
        have d1 := H1.out
        clear hX
        go_wp2_with fail
        go_roundw
        case rel => exact ⟨j + 1, hlt, by go_num, HN⟩
        case measure => simp [intOf]; omega
    · obtain rfl : j = 24 := by omega
      have hI1 := HS.out.img
      have hR1 := HS.out.res
      have HB1 := Lib.hid HS.out.below
      rw [Img.mid_all hi.len] at hI1
      have hcl := (Img.cnt_wf hi (clearI l im)).len
      clear HS HFL
      go_upto_region 5 with (fail)
      apply wp_region_lit
      repeat (first | (refine wpList_skip (by rfl) ?_; simp only [Act.put, List.setIfInBounds_toArray, List.set_cons_zero, List.set_cons_succ]) | (refine wpList_read _ (by rfl) (exec_img hcl (by rfl) (by rfl) hI1) ?_; simp only [Act.put, List.setIfInBounds_toArray, List.set_cons_zero, List.set_cons_succ]) | (refine wpList_read _ (by rfl) (by (go_simp; first | done | with_reducible rfl)) ?_; simp only [Act.put, List.setIfInBounds_toArray, List.set_cons_zero, List.set_cons_succ]))
      refine wpList_fill _ _ _ rfl rfl (by rfl) (by rfl) hR1 (by rw [Img.size _ hcl]; rfl) (by rw [Img.size _ hcl]; exact img_info) (Img.one _) (fun W2 hR2 hB2 hO2 => ?_)
      simp only [Act.put, List.setIfInBounds_toArray, List.set_cons_zero, List.set_cons_succ]
      have HB := Lib.hid (HB1.out.trans (hB2 _ (by omega)))
      clear hB2 hO2 hI1 hR1
      go_wp2_with fail
      (try simp only [Exit.inBlock, Exit.then])
      exact bodyPost_ret (res_img rfl _ hcl rfl hR2) rfl ⟨rfl, HB.out⟩

end Go.Proofs.YtniihmafbeplaaaDoor
namespace Go.Proofs.YtniihmafbeplaaaDoor
open Go.RowKit Go.Shelf
set_option linter.unusedVariables false
set_option linter.unusedSimpArgs false

theorem Inn.one (x : Inn) : ∀ v ∈ x.cells, v.oneCell' = true := by
  intro v hv
  simp only [List.mem_cons, List.not_mem_nil, or_false] at hv
  rcases hv with rfl | rfl | rfl | rfl <;> rfl
set_option maxRecDepth 100000 in
set_option maxHeartbeats 8000000 in
theorem TakeR_B {l : Lay} {im : Img} (hi : im.Wf) {x : Inn} (hx : x.Wf) {w : World} (h : Fld l w) : Calls Tryd.prog 15 #[l.val, im.val, x.val] w fun e w' => e = .returned (takeI l im x).val ∧ Below w.heap.size w w' := by
  obtain ⟨W0, hW0⟩ : ∃ W0, (((w.alloc (.cells #[.slice l.As l.secs.length l.cs, .slice l.Ag l.sigs.length l.cg, .slice l.Ae l.exits.length l.ce, .slice l.Af l.flanks.length l.cf, .int .i64 l.t0, .int .i64 l.t1, .int .i64 l.t2, .int .i64 l.t3, .int .i64 l.t4, .int .i64 l.t5, .int .i64 l.t6] 29)).alloc (.cells im.cells.toArray 35)).alloc (.cells #[.int .u32 x.o, .int .u32 x.n, .int .u32 x.r, .int .u32 x.p] 33)).alloc (.cells #[.int .i64 0, .int .i64 0, .int .i64 0, .int .i64 0, .int .i64 0, .int .i64 0, .int .i64 0, .int .i64 0, .int .i64 0, .int .i64 0, .int .i64 0, .int .i64 0, .int .i64 0, .int .i64 0, .int .i64 0, .int .i64 0, .int .i64 0, .int .i64 0, .int .i64 0, .int .i64 0, .int .i64 0, .int .i64 0, .int .i64 0, .int .i64 0, .int .i64 0, .int .u32 0, .int .u32 0, .int .u32 0, .int .u32 0] 35) = W0 := ⟨_, rfl⟩
  have ST : TSt l im x w W0 := by rw [← hW0]; exact TSt.begin
  have KK : Hid (∀ W, TSt l ((im.aged 0).told x) x w W → Calls Tryd.prog 34 #[l.val, ((im.aged 0).told x).val] W fun e w' => e = .returned (takeI l im x).val ∧ Below W.heap.size W w') := Lib.hid fun W hW => rowsR_B (Img.told_wf (Img.aged_wf hi 0) hx) (h.on hW.below)
  have hil : ((im.aged 0).told x).free.length = 24 := hi.len
  have hol := (takeI_wf (l := l) hi hx).len
  go_enter Tryd.func15, Tryd.ntmps15
  go_upto_region 1 with (fail)
  clear hW0 h
  have y0 := ST.inn.cell_at 0 rfl
  have y1 := ST.inn.cell_at 1 rfl
  have y2 := ST.inn.cell_at 2 rfl
  have y3 := ST.inn.cell_at 3 rfl
  apply wp_region_lit
  repeat (first | (refine wpList_skip (by rfl) ?_; simp only [Act.put, List.setIfInBounds_toArray, List.set_cons_zero, List.set_cons_succ]) | (refine wpList_read _ (by rfl) (by (go_simp; first | done | with_reducible rfl)) ?_; simp only [Act.put, List.setIfInBounds_toArray, List.set_cons_zero, List.set_cons_succ]))
  refine wpList_store_mid rfl 33 _ _ rfl (w.heap.size + 1) 25 x.cells.toArray (by rfl) (by rfl) (Img.there_in hi.len ST.img) (by exact in_info) (all_oneCell_toArray x.one) ?_
  simp only [Act.put, List.setIfInBounds_toArray, List.set_cons_zero, List.set_cons_succ]
  have ST2 := TSt.told hi.len ST
  clear y0 y1 y2 y3 ST
  generalize W0.setCells (w.heap.size + 1) 25 x.cells.toArray.toList = W1 at *
  have ST2 : TSt l (im.told x) x w W1 := ST2
  have c0 := ST2.img.cell_at 0 (im.told x).c_age
  have f0 := ST2.img.frozen 0
  have ST : TSt l ((im.aged 0).told x) x w (W1.setCell ⟨w.heap.size + 1, 0, none⟩ (.int .i64 0)) := TSt.age (im := im.told x) ST2 0
  have HST := Lib.hid ST
  clear hi ST ST2
  go_upto_region 3 with (fail)
  clear c0 f0
  generalize W1.setCell ⟨w.heap.size + 1, 0, none⟩ (.int .i64 0) = W2 at *
  have ST := HST.out
  clear HST
  have m0 := ST.lay
  have x0 := m0.cell_at 0 rfl
  have x1 := m0.cell_at 1 rfl
  have x2 := m0.cell_at 2 rfl
  have x3 := m0.cell_at 3 rfl
  have x4 := m0.cell_at 4 rfl
  have x5 := m0.cell_at 5 rfl
  have x6 := m0.cell_at 6 rfl
  have x7 := m0.cell_at 7 rfl
  have x8 := m0.cell_at 8 rfl
  have x9 := m0.cell_at 9 rfl
  have x10 := m0.cell_at 10 rfl
  clear m0
  apply wp_region_lit
  repeat (first | (refine wpList_skip (by rfl) ?_; simp only [Act.put, List.setIfInBounds_toArray, List.set_cons_zero, List.set_cons_succ]) | (refine wpList_read _ (by rfl) (exec_img hil (by rfl) (by rfl) ST.img) ?_; simp only [Act.put, List.setIfInBounds_toArray, List.set_cons_zero, List.set_cons_succ]) | (refine wpList_read _ (by rfl) (by (go_simp; first | done | with_reducible rfl)) ?_; simp only [Act.put, List.setIfInBounds_toArray, List.set_cons_zero, List.set_cons_succ]))
  refine wpList_callv (by rfl) (by (go_simp; first | done | rfl)) (KK.out W2 ST) (fun w3 hB => ?_)
  simp only [Act.put, List.setIfInBounds_toArray, List.set_cons_zero, List.set_cons_succ]
  clear x0 x1 x2 x3 x4 x5 x6 x7 x8 x9 x10
  have ST3 := TSt.closed _ _ _ _ _ _ ST hB
  clear ST hB
  refine wpList_fill _ _ _ rfl rfl (by rfl) (by rfl) ST3.res (by rw [Img.size _ hol]; rfl) (by rw [Img.size _ hol]; exact img_info) (Img.one _) (fun W3 hR2 hB2 hO2 => ?_)
  simp only [Act.put, List.setIfInBounds_toArray, List.set_cons_zero, List.set_cons_succ]
  have HB := Lib.hid (ST3.below.trans (hB2 _ (by omega)))
  clear hB2 hO2 ST3
  go_wp2_with fail
  (try simp only [Exit.inBlock, Exit.then])
  exact bodyPost_ret (res_img rfl _ hol rfl hR2) rfl ⟨rfl, HB.out⟩
set_option maxRecDepth 100000 in
set_option maxHeartbeats 8000000 in
theorem PassR_B {l : Lay} {im : Img} (hi : im.Wf) {w : World} (h : Fld l w) : Calls Tryd.prog 17 #[l.val, im.val] w fun e w' => e = .returned (passI l im).val ∧ Below w.heap.size w w' := by
  obtain ⟨Q, HQ, HQf, HQb, HQl, HQi, HQz, hq⟩ := keep_lib h l.cells im.cells [.int .i64 0, .int .i64 0, .int .i64 0, .int .i64 0, .int .i64 0, .int .i64 0, .int .i64 0, .int .i64 0, .int .i64 0, .int .i64 0, .int .i64 0, .int .i64 0, .int .i64 0, .int .i64 0, .int .i64 0, .int .i64 0, .int .i64 0, .int .i64 0, .int .i64 0, .int .i64 0, .int .i64 0, .int .i64 0, .int .i64 0, .int .i64 0, .int .i64 0, .int .u32 0, .int .u32 0, .int .u32 0, .int .u32 0] 29 35 35
  obtain ⟨v, hv⟩ : ∃ v, moreTk im.age 1 = v := ⟨_, rfl⟩
  have KM : Hid (∀ W, Q W → Calls Tryd.prog 36 #[.int .i64 im.age, .int .i64 1] W fun e w' => e = .returned (.int .i64 v) ∧ Below W.heap.size W w') := Lib.hid fun W hW => moreR_B _ _ hv (HQf.out W hW).tops
  have HV : Hid (passI l im = (im.aged v).cnt (clearI l (im.aged v))) := Lib.hid (by rw [← hv]; rfl)
  have KK : Hid (∀ W, Fld l W → Calls Tryd.prog 34 #[l.val, (im.aged v).val] W fun e w' => e = .returned ((im.aged v).cnt (clearI l (im.aged v))).val ∧ Below W.heap.size W w') := Lib.hid fun W hW => rowsR_B (Img.aged_wf hi v) hW
  have hil : (im.aged v).free.length = 24 := hi.len
  have hol : ((im.aged v).cnt (clearI l (im.aged v))).free.length = 24 := (Img.cnt_wf (Img.aged_wf hi v) _).len
  rw [HV.out]
  clear hv HV
  have y0 := (HQi.out _ hq).cell_at 0 im.c_age
  go_enter Tryd.func17, Tryd.ntmps17
  go_wp2_with fail
  refine (KM.out _ hq).mono ?_
  clear y0
  rintro e W1 ⟨rfl, hB⟩
  have hq := HQ.out _ _ hq hB
  have c0 := (HQi.out _ hq).cell_at 0 im.c_age
  have f0 := (HQi.out _ hq).frozen 0
  have HFL := Lib.hid (h.on ((HQb.out _ hq).setCell (p := ⟨w.heap.size + 1, 0, none⟩) (by show w.heap.size ≤ w.heap.size + 1; omega) (.int .i64 v)))
  have HB2 := Lib.hid ((HQb.out _ hq).setCell (p := ⟨w.heap.size + 1, 0, none⟩) (by show w.heap.size ≤ w.heap.size + 1; omega) (.int .i64 v))
  have HL2 := Lib.hid ((HQl.out _ hq).far (p := ⟨w.heap.size + 1, 0, none⟩) (by show w.heap.size ≠ w.heap.size + 1; omega) (.int .i64 v))
  have HI2 := Lib.hid (Img.store_age (HQi.out _ hq) v)
  have HZ2 := Lib.hid ((HQz.out _ hq).far (p := ⟨w.heap.size + 1, 0, none⟩) (by show w.heap.size + 1 + 1 ≠ w.heap.size + 1; omega) (.int .i64 v))
  clear h hi hB hq
  go_upto_region 2 with (fail)
  clear c0 f0
  generalize W1.setCell ⟨w.heap.size + 1, 0, none⟩ (.int .i64 v) = X at *
  have m0 := HL2.out
  have x0 := m0.cell_at 0 rfl
  have x1 := m0.cell_at 1 rfl
  have x2 := m0.cell_at 2 rfl
  have x3 := m0.cell_at 3 rfl
  have x4 := m0.cell_at 4 rfl
  have x5 := m0.cell_at 5 rfl
  have x6 := m0.cell_at 6 rfl
  have x7 := m0.cell_at 7 rfl
  have x8 := m0.cell_at 8 rfl
  have x9 := m0.cell_at 9 rfl
  have x10 := m0.cell_at 10 rfl
  clear m0
  apply wp_region_lit
  repeat (first | (refine wpList_skip (by rfl) ?_; simp only [Act.put, List.setIfInBounds_toArray, List.set_cons_zero, List.set_cons_succ]) | (refine wpList_read _ (by rfl) (exec_img hil (by rfl) (by rfl) HI2.out) ?_; simp only [Act.put, List.setIfInBounds_toArray, List.set_cons_zero, List.set_cons_succ]) | (refine wpList_read _ (by rfl) (by (go_simp; first | done | with_reducible rfl)) ?_; simp only [Act.put, List.setIfInBounds_toArray, List.set_cons_zero, List.set_cons_succ]))
  refine wpList_callv (by rfl) (by (go_simp; first | done | rfl)) (KK.out _ HFL.out) (fun w3 hB => ?_)
  simp only [Act.put, List.setIfInBounds_toArray, List.set_cons_zero, List.set_cons_succ]
  clear x0 x1 x2 x3 x4 x5 x6 x7 x8 x9 x10
  refine wpList_fill _ _ _ rfl rfl (by rfl) (by rfl) (HZ2.out.below hB HZ2.out.lt) (by rw [Img.size _ hol]; rfl) (by rw [Img.size _ hol]; exact img_info) (Img.one _) (fun W2 hR2 hB2 hO2 => ?_)
  simp only [Act.put, List.setIfInBounds_toArray, List.set_cons_zero, List.set_cons_succ]
  have HB := Lib.hid ((HB2.out.trans (hB.mono HB2.out.size)).trans (hB2 _ (by omega)))
  clear hB2 hO2 hB HB2
  go_wp2_with fail
  (try simp only [Exit.inBlock, Exit.then])
  exact bodyPost_ret (res_img rfl _ hol rfl hR2) rfl ⟨rfl, HB.out⟩

end Go.Proofs.YtniihmafbeplaaaDoor
