/- ImageTicks: behind a tick an image that may be may be. -/
import Derived.Deep.CutRange
import Derived.Test.YtniihmafbeplaaaDoorQLiK0
namespace Go.Proofs.YtniihmafbeplaaaDoor
open Go.RowKit Go.Shelf
set_option linter.unusedVariables false
set_option linter.unusedSimpArgs false

set_option maxRecDepth 100000 in
set_option maxHeartbeats 32000000 in
theorem imageTicks_walk (l : Lay) (im : Img) (x : Inn) (w : World) (hT : Tops w) (hL : Lies l w) (hi : im.Wf) (hx : x.Wf) :
    Calls Tryd.prog 6 #[l.val, im.val, x.val] w fun e w' => e = .returned (.bool true) ∧ Below w.heap.size w w' := by
  obtain ⟨Q, HQ, HQb, HQl, HQi, HQx, hq⟩ := keep3 (w := w) l.cells im.cells x.cells 29 35 33
  obtain ⟨g, hg⟩ : ∃ g, greatJ l = g := ⟨_, rfl⟩
  obtain ⟨rr, hrr⟩ : ∃ g, rightI im = g := ⟨_, rfl⟩
  have KG : Hid (∀ W, Q W → Calls Tryd.prog 8 #[l.val] W fun e w' => e = .returned (.bool g) ∧ Below W.heap.size W w') := Lib.hid fun W hW => great15_B (Lies.closed l _ _ hL (HQb.out W hW)) hg
  have KR : Hid (∀ W, Q W → Calls Tryd.prog 13 #[im.val] W fun e w' => e = .returned (.bool rr) ∧ Below W.heap.size W w') := Lib.hid fun W hW => RightR_B hi hrr
  have KW : Hid (∀ W, Q W → Calls Tryd.prog 9 #[] W fun e w' => e = .returned (.bool true) ∧ Below W.heap.size W w') := Lib.hid fun W hW => wakes15_B (hT.below (HQb.out W hW))
  go_enter Tryd.func6, Tryd.ntmps6
  go_upto_region 1 with (fail)
  generalize ((w.alloc (.cells #[.slice l.As l.secs.length l.cs, .slice l.Ag l.sigs.length l.cg, .slice l.Ae l.exits.length l.ce, .slice l.Af l.flanks.length l.cf, .int .i64 l.t0, .int .i64 l.t1, .int .i64 l.t2, .int .i64 l.t3, .int .i64 l.t4, .int .i64 l.t5, .int .i64 l.t6] 29)).alloc (.cells im.cells.toArray 35)).alloc (.cells #[.int .u32 x.o, .int .u32 x.n, .int .u32 x.r, .int .u32 x.p] 33) = W1 at *
  apply wp_region_lit
  refine wpList_read _ (by rfl) (exec_lay (by rfl) (by rfl) (HQl.out _ hq)) ?_
  simp only [Act.put, List.setIfInBounds_toArray, List.set_cons_zero, List.set_cons_succ]
  refine wpList_callv (by rfl) (by (go_simp; first | done | rfl)) (KG.out _ hq) (fun W0 hB => ?_)
  simp only [Act.put, List.setIfInBounds_toArray, List.set_cons_zero, List.set_cons_succ]
  have hq := HQ.out _ _ hq hB
  clear hB
  cases g
  · refine wpList_read _ (by rfl) (by (go_simp; first | done | with_reducible rfl)) ?_
    simp only [Act.put, List.setIfInBounds_toArray, List.set_cons_zero, List.set_cons_succ]
    refine wpList_read _ (by rfl) (exec_img hi.len (by rfl) (by rfl) (HQi.out _ hq)) ?_
    simp only [Act.put, List.setIfInBounds_toArray, List.set_cons_zero, List.set_cons_succ]
    refine wpList_callv (by rfl) (by (go_simp; first | done | rfl)) (KR.out _ hq) (fun W2 hB => ?_)
    simp only [Act.put, List.setIfInBounds_toArray, List.set_cons_zero, List.set_cons_succ]
    have hq := HQ.out _ _ hq hB
    clear hB
    cases rr
    · clear hT hL hg
      go_wp2_with fail
      refine (KW.out _ hq).mono ?_
      rintro e W2 ⟨rfl, hB⟩
      have HB := Lib.hid (HQb.out _ (HQ.out _ _ hq hB))
      clear hB hq
      go_wp2_with fail
      go_ret
      exact ⟨rfl, HB.out⟩
    · have HQf : Hid (∀ W, Q W → Fld l W) := Lib.hid fun W hW => (fld_of hL hT hg).on (HQb.out W hW)
      clear hT hL hg
      obtain ⟨hka, hkf⟩ : okC im.age = true ∧ im.free.all okC = true := by unfold rightI at hrr; rwa [Bool.and_eq_true] at hrr
      obtain ⟨ia, hia⟩ : ∃ y, takeI l im x = y := ⟨_, rfl⟩
      obtain ⟨ib, hib⟩ : ∃ y, passI l im = y := ⟨_, rfl⟩
      have haw : ia.Wf := by rw [← hia]; exact takeI_wf hi hx
      have hbw : ib.Wf := by rw [← hib]; exact passI_wf hi
      have har : rightI ia = true := by rw [← hia]; exact take_right _ _ _
      have hbr : rightI ib = true := by rw [← hib]; exact pass_right _ _
      have haa : ia.age = 0 := by rw [← hia]; rfl
      have hba : ib.age = moreTk im.age 1 := by rw [← hib]; rfl
      have hb0 : ib.age = min (im.age + 1) 65535 := by rw [hba]; exact age_is hka
      have hw1 : IntKind.i64.wrap (im.age + 1) = im.age + 1 := by
        unfold okC at hka
        rw [decide_eq_true_eq] at hka
        exact IntWalk.i64_in _ (by omega)
      have HN1 : Hid (∀ W, (binOp .neq 33 (.agg #[.int .u32 ia.o, .int .u32 ia.n, .int .u32 ia.r, .int .u32 ia.p]) x.val).run Tryd.prog W = .ok (.bool false) W) := Lib.hid fun W => by rw [neq_in, ← hia]; simp [takeI, Img.cnt, Img.told]
      have HN2 : Hid (∀ W, (binOp .neq 33 (.agg #[.int .u32 ib.o, .int .u32 ib.n, .int .u32 ib.r, .int .u32 ib.p]) (.agg #[.int .u32 im.o, .int .u32 im.n, .int .u32 im.r, .int .u32 im.p])).run Tryd.prog W = .ok (.bool false) W) := Lib.hid fun W => by rw [neq_in, ← hib]; simp [passI, Img.cnt, Img.aged]
      have KA : Hid (∀ W, Q W → Calls Tryd.prog 14 #[l.val, im.val, x.val] W fun e w' => e = .returned (ia.val) ∧ Below W.heap.size W w') := Lib.hid fun W hW => by rw [← hia]; exact Take_B hi hx (HQf.out W hW)
      have KB : Hid (∀ W, Q W → Calls Tryd.prog 16 #[l.val, im.val] W fun e w' => e = .returned (ib.val) ∧ Below W.heap.size W w') := Lib.hid fun W hW => by rw [← hib]; exact Pass_B hi (HQf.out W hW)
      have KRA : Hid (∀ W, Q W → Calls Tryd.prog 12 #[ia.val] W fun e w' => e = .returned (.bool true) ∧ Below W.heap.size W w') := Lib.hid fun W hW => RightI_B haw (HQf.out W hW).tops har
      have KRB : Hid (∀ W, Q W → Calls Tryd.prog 12 #[ib.val] W fun e w' => e = .returned (.bool true) ∧ Below W.heap.size W w') := Lib.hid fun W hW => RightI_B hbw (HQf.out W hW).tops hbr
      have HROW : Hid (∀ (k : Nat) (y : Int), im.free[k]? = some y → okC y = true ∧ ia.free[k]? = some (rowTk (clearI l ((im.aged 0).told x) k) y) ∧ ib.free[k]? = some (rowTk (clearI l (im.aged (moreTk im.age 1)) k) y)) := Lib.hid fun k y hy => ⟨List.all_eq_true.1 hkf y (List.mem_of_getElem? hy), by rw [← hia]; exact took_at hy, by rw [← hib]; exact passed_at hy⟩
      have HBA := Lib.hid hba
      have HAA := Lib.hid haa
      have HB0 := Lib.hid hb0
      have HW1 := Lib.hid hw1
      clear hia hib har hbr haa hba hb0 hw1 hka hkf hrr
      go_upto_region 3 with (fail)
      go_cut [7, 8] from 18 to 24 (fun u v wx => ∃ ga gb, u = .pointer (some ⟨ga, 0, none⟩) ∧ v = .pointer (some ⟨gb, 0, none⟩) ∧ Hid (Below W2.heap.size W2 wx ∧ Whole wx ga 35 ia.cells ∧ Whole wx gb 35 ib.cells))
      case first =>
        have HBS : Hid (∀ W, Below W2.heap.size W2 W → Q W) := Lib.hid (fun W hB => HQ.out _ _ hq hB)
        clear hq
        refine region_tree (fun W => Below W2.heap.size W2 W) (.fork [(0, false), (1, false), (2, false), (3, false), (4, false), (5, false), (6, false)] 7 8 (.last [(8, true), (9, true), (10, true)]) (.last [(7, true), (9, true), (10, true)])) (by kernel_rfl) (by kernel_rfl) (fun W => Below W2.heap.size W2 W) ⟨Closed.below W2, fun _ h => h⟩ (Below.refl _ _).drew ?_
        simp only [wpTree, pickOps, List.getElem?_cons_zero, List.getElem?_cons_succ]
        iterate 7 (first | (refine mix_read _ (by rfl) (fun W hW => exec_lay (by rfl) (by rfl) (HQl.out _ (HBS.out W hW))) ?_; simp only [Act.put, List.setIfInBounds_toArray, List.set_cons_zero, List.set_cons_succ]) | (refine mix_read _ (by rfl) (fun W hW => exec_img hi.len (by rfl) (by rfl) (HQi.out _ (HBS.out W hW))) ?_; simp only [Act.put, List.setIfInBounds_toArray, List.set_cons_zero, List.set_cons_succ]) | (refine mix_read _ (by rfl) (fun W hW => exec_inn (by rfl) (by rfl) (HQx.out _ (HBS.out W hW))) ?_; simp only [Act.put, List.setIfInBounds_toArray, List.set_cons_zero, List.set_cons_succ]) | (refine mix_call _ _ _ (by rfl) (fun W hW => by (go_simp; first | done | with_reducible rfl)) (fun W hW => KA.out W (HBS.out W hW)) ?_; simp only [Act.put, List.setIfInBounds_toArray, List.set_cons_zero, List.set_cons_succ]) | (refine mix_call _ _ _ (by rfl) (fun W hW => by (go_simp; first | done | with_reducible rfl)) (fun W hW => KB.out W (HBS.out W hW)) ?_; simp only [Act.put, List.setIfInBounds_toArray, List.set_cons_zero, List.set_cons_succ]))
        refine mix_nil (fun hF => ⟨?_, ?_⟩)
        · refine mix_alloc (W2.heap.size) 35 [.int .i64 0, .int .i64 0, .int .i64 0, .int .i64 0, .int .i64 0, .int .i64 0, .int .i64 0, .int .i64 0, .int .i64 0, .int .i64 0, .int .i64 0, .int .i64 0, .int .i64 0, .int .i64 0, .int .i64 0, .int .i64 0, .int .i64 0, .int .i64 0, .int .i64 0, .int .i64 0, .int .i64 0, .int .i64 0, .int .i64 0, .int .i64 0, .int .i64 0, .int .u32 0, .int .u32 0, .int .u32 0, .int .u32 0] ⟨Closed.below W2, fun _ h => h⟩ (fun _ h => h.size) (by rfl) (fun W hW => by (clear hW; go_simp; first | done | with_reducible rfl)) (fun ga hga => ?_)
          simp only [Act.put, List.setIfInBounds_toArray, List.set_cons_zero, List.set_cons_succ]
          refine mix_nil ?_
          refine mix_alloc (ga + 1) 35 [.int .i64 0, .int .i64 0, .int .i64 0, .int .i64 0, .int .i64 0, .int .i64 0, .int .i64 0, .int .i64 0, .int .i64 0, .int .i64 0, .int .i64 0, .int .i64 0, .int .i64 0, .int .i64 0, .int .i64 0, .int .i64 0, .int .i64 0, .int .i64 0, .int .i64 0, .int .i64 0, .int .i64 0, .int .i64 0, .int .i64 0, .int .i64 0, .int .i64 0, .int .u32 0, .int .u32 0, .int .u32 0, .int .u32 0] ⟨(Closed.below W2).and (Closed.whole _ _ _), fun _ h => h.1⟩ (fun _ h => h.2.lt) (by rfl) (fun W hW => by (clear hW; go_simp; first | done | with_reducible rfl)) (fun gb hgb => ?_)
          simp only [Act.put, List.setIfInBounds_toArray, List.set_cons_zero, List.set_cons_succ]
          refine mix_within 35 (.tmp 7) (.tmp 21) ga 0 ia.cells (fun W => (Below W2.heap.size W2 W ∧ Whole W ga 35 ia.cells) ∧ Whole W gb 35 ([.int .i64 0, .int .i64 0, .int .i64 0, .int .i64 0, .int .i64 0, .int .i64 0, .int .i64 0, .int .i64 0, .int .i64 0, .int .i64 0, .int .i64 0, .int .i64 0, .int .i64 0, .int .i64 0, .int .i64 0, .int .i64 0, .int .i64 0, .int .i64 0, .int .i64 0, .int .i64 0, .int .i64 0, .int .i64 0, .int .i64 0, .int .i64 0, .int .i64 0, .int .u32 0, .int .u32 0, .int .u32 0, .int .u32 0] : List Value)) ⟨((Closed.below W2).and (Closed.whole _ _ _)).and (Closed.whole _ _ _), fun _ h => h.1.1⟩ rfl (by rfl) (by rfl) (by rw [ia.size haw.len]; exact img_info) (by exact List.all_eq_true.2 ia.one) (by rfl) (fun W hW => (by have := hW.1.2.there; rwa [show ([.int .i64 0, .int .i64 0, .int .i64 0, .int .i64 0, .int .i64 0, .int .i64 0, .int .i64 0, .int .i64 0, .int .i64 0, .int .i64 0, .int .i64 0, .int .i64 0, .int .i64 0, .int .i64 0, .int .i64 0, .int .i64 0, .int .i64 0, .int .i64 0, .int .i64 0, .int .i64 0, .int .i64 0, .int .i64 0, .int .i64 0, .int .i64 0, .int .i64 0, .int .u32 0, .int .u32 0, .int .u32 0, .int .u32 0] : List Value).length = ia.cells.length by rw [ia.size haw.len]; rfl] at this)) (fun W hW => ⟨⟨(setCells_below _ _ hW.1.1 (by omega)), (setCells_whole ia.cells [] [.int .i64 0, .int .i64 0, .int .i64 0, .int .i64 0, .int .i64 0, .int .i64 0, .int .i64 0, .int .i64 0, .int .i64 0, .int .i64 0, .int .i64 0, .int .i64 0, .int .i64 0, .int .i64 0, .int .i64 0, .int .i64 0, .int .i64 0, .int .i64 0, .int .i64 0, .int .i64 0, .int .i64 0, .int .i64 0, .int .i64 0, .int .i64 0, .int .i64 0, .int .u32 0, .int .u32 0, .int .u32 0, .int .u32 0] (by rw [ia.size haw.len]; rfl) hW.1.2)⟩, (hW.2.farC (by omega) _ _)⟩) ?_
          simp only [Act.put, List.setIfInBounds_toArray, List.set_cons_zero, List.set_cons_succ]
          refine mix_within 35 (.tmp 8) (.tmp 24) gb 0 ib.cells (fun W => (Below W2.heap.size W2 W ∧ Whole W ga 35 ia.cells) ∧ Whole W gb 35 ib.cells) ⟨((Closed.below W2).and (Closed.whole _ _ _)).and (Closed.whole _ _ _), fun _ h => h.1.1⟩ rfl (by rfl) (by rfl) (by rw [ib.size hbw.len]; exact img_info) (by exact List.all_eq_true.2 ib.one) (by rfl) (fun W hW => (by have := hW.2.there; rwa [show ([.int .i64 0, .int .i64 0, .int .i64 0, .int .i64 0, .int .i64 0, .int .i64 0, .int .i64 0, .int .i64 0, .int .i64 0, .int .i64 0, .int .i64 0, .int .i64 0, .int .i64 0, .int .i64 0, .int .i64 0, .int .i64 0, .int .i64 0, .int .i64 0, .int .i64 0, .int .i64 0, .int .i64 0, .int .i64 0, .int .i64 0, .int .i64 0, .int .i64 0, .int .u32 0, .int .u32 0, .int .u32 0, .int .u32 0] : List Value).length = ib.cells.length by rw [ib.size hbw.len]; rfl] at this)) (fun W hW => ⟨⟨(setCells_below _ _ hW.1.1 (by omega)), (hW.1.2.farC (by omega) _ _)⟩, (setCells_whole ib.cells [] [.int .i64 0, .int .i64 0, .int .i64 0, .int .i64 0, .int .i64 0, .int .i64 0, .int .i64 0, .int .i64 0, .int .i64 0, .int .i64 0, .int .i64 0, .int .i64 0, .int .i64 0, .int .i64 0, .int .i64 0, .int .i64 0, .int .i64 0, .int .i64 0, .int .i64 0, .int .i64 0, .int .i64 0, .int .i64 0, .int .i64 0, .int .i64 0, .int .i64 0, .int .u32 0, .int .u32 0, .int .u32 0, .int .u32 0] (by rw [ib.size hbw.len]; rfl) hW.2)⟩) ?_
          simp only [Act.put, List.setIfInBounds_toArray, List.set_cons_zero, List.set_cons_succ]
          refine mix_nil (fun W hW => ?_)
          have HW := Lib.hid hW
          clear hW
          go_wp2_with fail
          go_meet
          exact ⟨ga, gb, rfl, rfl, Lib.hid ⟨HW.out.1.1, HW.out.1.2, HW.out.2⟩⟩
        · refine mix_alloc (W2.heap.size) 35 [.int .i64 0, .int .i64 0, .int .i64 0, .int .i64 0, .int .i64 0, .int .i64 0, .int .i64 0, .int .i64 0, .int .i64 0, .int .i64 0, .int .i64 0, .int .i64 0, .int .i64 0, .int .i64 0, .int .i64 0, .int .i64 0, .int .i64 0, .int .i64 0, .int .i64 0, .int .i64 0, .int .i64 0, .int .i64 0, .int .i64 0, .int .i64 0, .int .i64 0, .int .u32 0, .int .u32 0, .int .u32 0, .int .u32 0] ⟨Closed.below W2, fun _ h => h⟩ (fun _ h => h.size) (by rfl) (fun W hW => by (clear hW; go_simp; first | done | with_reducible rfl)) (fun gb hgb => ?_)
          simp only [Act.put, List.setIfInBounds_toArray, List.set_cons_zero, List.set_cons_succ]
          refine mix_nil ?_
          refine mix_alloc (gb + 1) 35 [.int .i64 0, .int .i64 0, .int .i64 0, .int .i64 0, .int .i64 0, .int .i64 0, .int .i64 0, .int .i64 0, .int .i64 0, .int .i64 0, .int .i64 0, .int .i64 0, .int .i64 0, .int .i64 0, .int .i64 0, .int .i64 0, .int .i64 0, .int .i64 0, .int .i64 0, .int .i64 0, .int .i64 0, .int .i64 0, .int .i64 0, .int .i64 0, .int .i64 0, .int .u32 0, .int .u32 0, .int .u32 0, .int .u32 0] ⟨(Closed.below W2).and (Closed.whole _ _ _), fun _ h => h.1⟩ (fun _ h => h.2.lt) (by rfl) (fun W hW => by (clear hW; go_simp; first | done | with_reducible rfl)) (fun ga hga => ?_)
          simp only [Act.put, List.setIfInBounds_toArray, List.set_cons_zero, List.set_cons_succ]
          refine mix_within 35 (.tmp 7) (.tmp 21) ga 0 ia.cells (fun W => (Below W2.heap.size W2 W ∧ Whole W gb 35 ([.int .i64 0, .int .i64 0, .int .i64 0, .int .i64 0, .int .i64 0, .int .i64 0, .int .i64 0, .int .i64 0, .int .i64 0, .int .i64 0, .int .i64 0, .int .i64 0, .int .i64 0, .int .i64 0, .int .i64 0, .int .i64 0, .int .i64 0, .int .i64 0, .int .i64 0, .int .i64 0, .int .i64 0, .int .i64 0, .int .i64 0, .int .i64 0, .int .i64 0, .int .u32 0, .int .u32 0, .int .u32 0, .int .u32 0] : List Value)) ∧ Whole W ga 35 ia.cells) ⟨((Closed.below W2).and (Closed.whole _ _ _)).and (Closed.whole _ _ _), fun _ h => h.1.1⟩ rfl (by rfl) (by rfl) (by rw [ia.size haw.len]; exact img_info) (by exact List.all_eq_true.2 ia.one) (by rfl) (fun W hW => (by have := hW.2.there; rwa [show ([.int .i64 0, .int .i64 0, .int .i64 0, .int .i64 0, .int .i64 0, .int .i64 0, .int .i64 0, .int .i64 0, .int .i64 0, .int .i64 0, .int .i64 0, .int .i64 0, .int .i64 0, .int .i64 0, .int .i64 0, .int .i64 0, .int .i64 0, .int .i64 0, .int .i64 0, .int .i64 0, .int .i64 0, .int .i64 0, .int .i64 0, .int .i64 0, .int .i64 0, .int .u32 0, .int .u32 0, .int .u32 0, .int .u32 0] : List Value).length = ia.cells.length by rw [ia.size haw.len]; rfl] at this)) (fun W hW => ⟨⟨(setCells_below _ _ hW.1.1 (by omega)), (hW.1.2.farC (by omega) _ _)⟩, (setCells_whole ia.cells [] [.int .i64 0, .int .i64 0, .int .i64 0, .int .i64 0, .int .i64 0, .int .i64 0, .int .i64 0, .int .i64 0, .int .i64 0, .int .i64 0, .int .i64 0, .int .i64 0, .int .i64 0, .int .i64 0, .int .i64 0, .int .i64 0, .int .i64 0, .int .i64 0, .int .i64 0, .int .i64 0, .int .i64 0, .int .i64 0, .int .i64 0, .int .i64 0, .int .i64 0, .int .u32 0, .int .u32 0, .int .u32 0, .int .u32 0] (by rw [ia.size haw.len]; rfl) hW.2)⟩) ?_
          simp only [Act.put, List.setIfInBounds_toArray, List.set_cons_zero, List.set_cons_succ]
          refine mix_within 35 (.tmp 8) (.tmp 24) gb 0 ib.cells (fun W => (Below W2.heap.size W2 W ∧ Whole W gb 35 ib.cells) ∧ Whole W ga 35 ia.cells) ⟨((Closed.below W2).and (Closed.whole _ _ _)).and (Closed.whole _ _ _), fun _ h => h.1.1⟩ rfl (by rfl) (by rfl) (by rw [ib.size hbw.len]; exact img_info) (by exact List.all_eq_true.2 ib.one) (by rfl) (fun W hW => (by have := hW.1.2.there; rwa [show ([.int .i64 0, .int .i64 0, .int .i64 0, .int .i64 0, .int .i64 0, .int .i64 0, .int .i64 0, .int .i64 0, .int .i64 0, .int .i64 0, .int .i64 0, .int .i64 0, .int .i64 0, .int .i64 0, .int .i64 0, .int .i64 0, .int .i64 0, .int .i64 0, .int .i64 0, .int .i64 0, .int .i64 0, .int .i64 0, .int .i64 0, .int .i64 0, .int .i64 0, .int .u32 0, .int .u32 0, .int .u32 0, .int .u32 0] : List Value).length = ib.cells.length by rw [ib.size hbw.len]; rfl] at this)) (fun W hW => ⟨⟨(setCells_below _ _ hW.1.1 (by omega)), (setCells_whole ib.cells [] [.int .i64 0, .int .i64 0, .int .i64 0, .int .i64 0, .int .i64 0, .int .i64 0, .int .i64 0, .int .i64 0, .int .i64 0, .int .i64 0, .int .i64 0, .int .i64 0, .int .i64 0, .int .i64 0, .int .i64 0, .int .i64 0, .int .i64 0, .int .i64 0, .int .i64 0, .int .i64 0, .int .i64 0, .int .i64 0, .int .i64 0, .int .i64 0, .int .i64 0, .int .u32 0, .int .u32 0, .int .u32 0, .int .u32 0] (by rw [ib.size hbw.len]; rfl) hW.1.2)⟩, (hW.2.farC (by omega) _ _)⟩) ?_
          simp only [Act.put, List.setIfInBounds_toArray, List.set_cons_zero, List.set_cons_succ]
          refine mix_nil (fun W hW => ?_)
          have HW := Lib.hid hW
          clear hW
          go_wp2_with fail
          go_meet
          exact ⟨ga, gb, rfl, rfl, Lib.hid ⟨HW.out.1.1, HW.out.2, HW.out.1.2⟩⟩
      case rest =>
      obtain ⟨ga, gb, rfl, rfl, HW⟩ := hcut
      obtain ⟨R, HR, HRq, HRa, HRb, hr⟩ : ∃ R : World → Prop, Hid (Closed R) ∧ Hid (∀ W, R W → Q W) ∧ Hid (∀ W, R W → Whole W ga 35 ia.cells) ∧ Hid (∀ W, R W → Whole W gb 35 ib.cells) ∧ R wc :=
        ⟨fun W => Q W ∧ (Whole W ga 35 ia.cells ∧ Whole W gb 35 ib.cells), Lib.hid (HQ.out.and ((Closed.whole _ _ _).and (Closed.whole _ _ _))), Lib.hid fun _ h => h.1, Lib.hid fun _ h => h.2.1, Lib.hid fun _ h => h.2.2, ⟨HQ.out _ _ hq HW.out.1, HW.out.2⟩⟩
      clear hq HW KA KB KG KR
      go_upto_region 4 with (fail)
      apply wp_region_lit
      have hq := hr
      clear hr
      refine wpList_read _ (by rfl) (exec_img haw.len (by rfl) (by rfl) (HRa.out _ hq)) ?_
      simp only [Act.put, List.setIfInBounds_toArray, List.set_cons_zero, List.set_cons_succ]
      refine wpList_callv (by rfl) (by (go_simp; first | done | with_reducible rfl)) (KRA.out _ (HRq.out _ hq)) (fun W hB => ?_)
      simp only [Act.put, List.setIfInBounds_toArray, List.set_cons_zero, List.set_cons_succ]
      have hq := HR.out _ _ hq hB
      clear hB
      refine wpList_read _ (by rfl) (by (go_simp; first | done | with_reducible rfl)) ?_
      simp only [Act.put, List.setIfInBounds_toArray, List.set_cons_zero, List.set_cons_succ]
      refine wpList_read _ (by rfl) (by (go_simp; first | done | with_reducible rfl)) ?_
      simp only [Act.put, List.setIfInBounds_toArray, List.set_cons_zero, List.set_cons_succ]
      first | (refine wpList_skip (by rfl) ?_; simp only [Act.put, List.setIfInBounds_toArray, List.set_cons_zero, List.set_cons_succ]) | (refine wpList_read _ (by rfl) (exec_img hbw.len (by rfl) (by rfl) (HRb.out _ hq)) ?_; simp only [Act.put, List.setIfInBounds_toArray, List.set_cons_zero, List.set_cons_succ])
      first | (refine wpList_skip (by rfl) ?_; simp only [Act.put, List.setIfInBounds_toArray, List.set_cons_zero, List.set_cons_succ]) | (refine wpList_callv (by rfl) (by (go_simp; first | done | with_reducible rfl)) (KRB.out _ (HRq.out _ hq)) (fun W hB => ?_); simp only [Act.put, List.setIfInBounds_toArray, List.set_cons_zero, List.set_cons_succ]; have hq := HR.out _ _ hq hB; clear hB)
      first | (refine wpList_skip (by rfl) ?_; simp only [Act.put, List.setIfInBounds_toArray, List.set_cons_zero, List.set_cons_succ]) | (refine wpList_read _ (by rfl) (by (go_simp; first | done | with_reducible rfl)) ?_; simp only [Act.put, List.setIfInBounds_toArray, List.set_cons_zero, List.set_cons_succ])
      refine wpList_read _ (by rfl) (by (go_simp; first | done | with_reducible rfl)) ?_
      simp only [Act.put, List.setIfInBounds_toArray, List.set_cons_zero, List.set_cons_succ]
      refine wpList_read _ (by rfl) (by (go_simp; first | done | with_reducible rfl)) ?_
      simp only [Act.put, List.setIfInBounds_toArray, List.set_cons_zero, List.set_cons_succ]
      first | (refine wpList_skip (by rfl) ?_; simp only [Act.put, List.setIfInBounds_toArray, List.set_cons_zero, List.set_cons_succ]) | (refine wpList_read _ (by rfl) (by (go_simp; first | done | with_reducible rfl)) ?_; simp only [Act.put, List.setIfInBounds_toArray, List.set_cons_zero, List.set_cons_succ])
      first | (refine wpList_skip (by rfl) ?_; simp only [Act.put, List.setIfInBounds_toArray, List.set_cons_zero, List.set_cons_succ]) | (refine wpList_read _ (by rfl) (by (have c := (HRa.out _ hq).cell_at 0 ia.c_age; go_simp; first | done | with_reducible rfl)) ?_; simp only [Act.put, List.setIfInBounds_toArray, List.set_cons_zero, List.set_cons_succ])
      first | (refine wpList_skip (by rfl) ?_; simp only [Act.put, List.setIfInBounds_toArray, List.set_cons_zero, List.set_cons_succ]) | (refine wpList_read _ (by rfl) (by (have c := HAA.out; have d := HB0.out; go_simp; first | done | with_reducible rfl)) ?_; simp only [Act.put, List.setIfInBounds_toArray, List.set_cons_zero, List.set_cons_succ])
      refine wpList_read _ (by rfl) (by (go_simp; first | done | with_reducible rfl)) ?_
      simp only [Act.put, List.setIfInBounds_toArray, List.set_cons_zero, List.set_cons_succ]
      refine wpList_read _ (by rfl) (by (go_simp; first | done | with_reducible rfl)) ?_
      simp only [Act.put, List.setIfInBounds_toArray, List.set_cons_zero, List.set_cons_succ]
      first | (refine wpList_skip (by rfl) ?_; simp only [Act.put, List.setIfInBounds_toArray, List.set_cons_zero, List.set_cons_succ]) | (refine wpList_read _ (by rfl) (by (go_simp; first | done | with_reducible rfl)) ?_; simp only [Act.put, List.setIfInBounds_toArray, List.set_cons_zero, List.set_cons_succ])
      first | (refine wpList_skip (by rfl) ?_; simp only [Act.put, List.setIfInBounds_toArray, List.set_cons_zero, List.set_cons_succ]) | (refine wpList_read _ (by rfl) (exec_in haw.len (by rfl) (by rfl) (HRa.out _ hq)) ?_; simp only [Act.put, List.setIfInBounds_toArray, List.set_cons_zero, List.set_cons_succ])
      first | (refine wpList_skip (by rfl) ?_; simp only [Act.put, List.setIfInBounds_toArray, List.set_cons_zero, List.set_cons_succ]) | (refine wpList_read _ (by rfl) (exec_inn (by rfl) (by rfl) (HQx.out _ (HRq.out _ hq))) ?_; simp only [Act.put, List.setIfInBounds_toArray, List.set_cons_zero, List.set_cons_succ])
      first | (refine wpList_skip (by rfl) ?_; simp only [Act.put, List.setIfInBounds_toArray, List.set_cons_zero, List.set_cons_succ]) | (refine wpList_read _ (by rfl) (by (have c := HN1.out; go_simp; first | done | with_reducible rfl)) ?_; simp only [Act.put, List.setIfInBounds_toArray, List.set_cons_zero, List.set_cons_succ])
      refine wpList_read _ (by rfl) (by (go_simp; first | done | with_reducible rfl)) ?_
      simp only [Act.put, List.setIfInBounds_toArray, List.set_cons_zero, List.set_cons_succ]
      refine wpList_read _ (by rfl) (by (go_simp; first | done | with_reducible rfl)) ?_
      simp only [Act.put, List.setIfInBounds_toArray, List.set_cons_zero, List.set_cons_succ]
      first | (refine wpList_skip (by rfl) ?_; simp only [Act.put, List.setIfInBounds_toArray, List.set_cons_zero, List.set_cons_succ]) | (refine wpList_read _ (by rfl) (by (go_simp; first | done | with_reducible rfl)) ?_; simp only [Act.put, List.setIfInBounds_toArray, List.set_cons_zero, List.set_cons_succ])
      first | (refine wpList_skip (by rfl) ?_; simp only [Act.put, List.setIfInBounds_toArray, List.set_cons_zero, List.set_cons_succ]) | (refine wpList_read _ (by rfl) (exec_in hbw.len (by rfl) (by rfl) (HRb.out _ hq)) ?_; simp only [Act.put, List.setIfInBounds_toArray, List.set_cons_zero, List.set_cons_succ])
      first | (refine wpList_skip (by rfl) ?_; simp only [Act.put, List.setIfInBounds_toArray, List.set_cons_zero, List.set_cons_succ]) | (refine wpList_read _ (by rfl) (by (go_simp; first | done | with_reducible rfl)) ?_; simp only [Act.put, List.setIfInBounds_toArray, List.set_cons_zero, List.set_cons_succ])
      first | (refine wpList_skip (by rfl) ?_; simp only [Act.put, List.setIfInBounds_toArray, List.set_cons_zero, List.set_cons_succ]) | (refine wpList_read _ (by rfl) (exec_in hi.len (by rfl) (by rfl) (HQi.out _ (HRq.out _ hq))) ?_; simp only [Act.put, List.setIfInBounds_toArray, List.set_cons_zero, List.set_cons_succ])
      first | (refine wpList_skip (by rfl) ?_; simp only [Act.put, List.setIfInBounds_toArray, List.set_cons_zero, List.set_cons_succ]) | (refine wpList_read _ (by rfl) (by (have c := HN2.out; go_simp; first | done | with_reducible rfl)) ?_; simp only [Act.put, List.setIfInBounds_toArray, List.set_cons_zero, List.set_cons_succ])
      refine wpList_read _ (by rfl) (by (go_simp; first | done | with_reducible rfl)) ?_
      simp only [Act.put, List.setIfInBounds_toArray, List.set_cons_zero, List.set_cons_succ]
      refine wpList_read _ (by rfl) (by (go_simp; first | done | with_reducible rfl)) ?_
      simp only [Act.put, List.setIfInBounds_toArray, List.set_cons_zero, List.set_cons_succ]
      first | (refine wpList_skip (by rfl) ?_; simp only [Act.put, List.setIfInBounds_toArray, List.set_cons_zero, List.set_cons_succ]) | (refine wpList_read _ (by rfl) (by (go_simp; first | done | with_reducible rfl)) ?_; simp only [Act.put, List.setIfInBounds_toArray, List.set_cons_zero, List.set_cons_succ])
      first | (refine wpList_skip (by rfl) ?_; simp only [Act.put, List.setIfInBounds_toArray, List.set_cons_zero, List.set_cons_succ]) | (refine wpList_read _ (by rfl) (by (have c := (HRb.out _ hq).cell_at 0 ib.c_age; go_simp; first | done | with_reducible rfl)) ?_; simp only [Act.put, List.setIfInBounds_toArray, List.set_cons_zero, List.set_cons_succ])
      first | (refine wpList_skip (by rfl) ?_; simp only [Act.put, List.setIfInBounds_toArray, List.set_cons_zero, List.set_cons_succ]) | (refine wpList_read _ (by rfl) (by (go_simp; first | done | with_reducible rfl)) ?_; simp only [Act.put, List.setIfInBounds_toArray, List.set_cons_zero, List.set_cons_succ])
      first | (refine wpList_skip (by rfl) ?_; simp only [Act.put, List.setIfInBounds_toArray, List.set_cons_zero, List.set_cons_succ]) | (refine wpList_read _ (by rfl) (by (have c := (HQi.out _ (HRq.out _ hq)).cell_at 0 im.c_age; go_simp; first | done | with_reducible rfl)) ?_; simp only [Act.put, List.setIfInBounds_toArray, List.set_cons_zero, List.set_cons_succ])
      first | (refine wpList_skip (by rfl) ?_; simp only [Act.put, List.setIfInBounds_toArray, List.set_cons_zero, List.set_cons_succ]) | (refine wpList_read _ (by rfl) (by (have c := HW1.out; go_simp; first | done | with_reducible rfl)) ?_; simp only [Act.put, List.setIfInBounds_toArray, List.set_cons_zero, List.set_cons_succ])
      first | (refine wpList_skip (by rfl) ?_; simp only [Act.put, List.setIfInBounds_toArray, List.set_cons_zero, List.set_cons_succ]) | (refine wpList_read _ (by rfl) (by (go_simp; first | done | with_reducible rfl)) ?_; simp only [Act.put, List.setIfInBounds_toArray, List.set_cons_zero, List.set_cons_succ])
      first | (refine wpList_skip (by rfl) ?_; simp only [Act.put, List.setIfInBounds_toArray, List.set_cons_zero, List.set_cons_succ]) | (refine wpList_read _ (by rfl) (by (have c := HAA.out; have d := HB0.out; go_simp; first | done | with_reducible rfl)) ?_; simp only [Act.put, List.setIfInBounds_toArray, List.set_cons_zero, List.set_cons_succ])
      refine wpList_read _ (by rfl) (by (go_simp; first | done | with_reducible rfl)) ?_
      simp only [Act.put, List.setIfInBounds_toArray, List.set_cons_zero, List.set_cons_succ]
      go_wp2_with fail
      go_loopw [9] (fun i wr => ∃ j : Nat, j ≤ 24 ∧ i = .int .i64 j ∧ R wr) (fun i _ => 24 - (intOf i).toNat)
      case atStart => exact ⟨0, by omega, rfl, hq⟩
      case round =>
        clear hq
        obtain ⟨j, hj, rfl, hq⟩ := hrel
        obtain ⟨Wb, rfl⟩ : ∃ W, W = wr := ⟨wr, rfl⟩
        by_cases hlt : j < 24
        · have hlt' : (j : Int) < 24 := by omega
          have h0' : (0 : Int) ≤ (j : Int) := by omega
          have h32 : (j : Int) ≤ 32 := by omega
          have hw64 : IntKind.u64.wrap (j : Int) = (j : Int) := by rw [IntKind.wrap_u64]; omega
          obtain ⟨y, va, vb, mn, b, st, z, HCA, HCB, HCI, HBIT, HST, HZ, HWY, HMN, HM0, HLT, HVA, HVB⟩ : ∃ y va vb mn : Int, ∃ b st : Bool, ∃ z : Int, Hid (ia.cells[1 + j]? = some (.int .i64 va)) ∧ Hid (ib.cells[1 + j]? = some (.int .i64 vb)) ∧ Hid (im.cells[1 + j]? = some (.int .i64 y)) ∧ Hid ((b = false → bits BinOp.and IntKind.u32 z 1 = 0) ∧ (b = true → bits BinOp.and IntKind.u32 z 1 = 1)) ∧ Hid ((st = false → ¬ l.t2 < ib.age) ∧ (st = true → l.t2 < ib.age)) ∧ Hid (x.o / 2 ^ j = z) ∧ Hid (IntKind.i64.wrap (y + 1) = y + 1) ∧ Hid (min (y + 1) 65535 = mn) ∧ Hid (¬ mn = 0) ∧ Hid (j < 24) ∧ Hid (va = 0 ∨ (va = mn ∧ b = false)) ∧ Hid (vb = 0 ∨ (vb = mn ∧ st = false)) := by
            obtain ⟨y, hy⟩ : ∃ y, im.free[j]? = some y := ⟨_, List.getElem?_eq_getElem (by rw [hi.len]; exact hlt)⟩
            obtain ⟨hok, hva, hvb⟩ := HROW.out j y hy
            obtain ⟨mn, hmn⟩ : ∃ m, min (y + 1) 65535 = m := ⟨_, rfl⟩
            have hwy : IntKind.i64.wrap (y + 1) = y + 1 := by
              unfold okC at hok
              rw [decide_eq_true_eq] at hok
              exact IntWalk.i64_in _ (by omega)
            have hmn0 : ¬ mn = 0 := by
              unfold okC at hok
              rw [decide_eq_true_eq] at hok
              omega
            obtain ⟨b, hb⟩ : ∃ b, bitU x.o j = b := ⟨_, rfl⟩
            obtain ⟨st, hst⟩ : ∃ b, decide (l.t2 < ib.age) = b := ⟨_, rfl⟩
            obtain ⟨va, hvae⟩ : ∃ v, rowTk (clearI l ((im.aged 0).told x) j) y = v := ⟨_, rfl⟩
            obtain ⟨vb, hvbe⟩ : ∃ v, rowTk (clearI l (im.aged (moreTk im.age 1)) j) y = v := ⟨_, rfl⟩
            have ha3 : (va = 0) ∨ (va = mn ∧ b = false) := by
              rcases row_is hok (clearI l ((im.aged 0).told x) j) with h | h
              · exact .inl (hvae.symm.trans h)
              · refine .inr ⟨(hvae.symm.trans h).trans hmn, ?_⟩
                cases b
                · rfl
                · have := take_bit (l := l) (im := im) (y := y) hb
                  rw [this] at h
                  omega
            have hb3 : (vb = 0) ∨ (vb = mn ∧ st = false) := by
              rcases row_is hok (clearI l (im.aged (moreTk im.age 1)) j) with h | h
              · exact .inl (hvbe.symm.trans h)
              · refine .inr ⟨(hvbe.symm.trans h).trans hmn, ?_⟩
                cases st
                · rfl
                · have hlt2 : l.t2 < moreTk im.age 1 := by rw [← HBA.out]; exact of_decide_eq_true hst
                  have := pass_stale (k := j) (y := y) hlt2
                  rw [this] at h
                  omega
            rw [hvae] at hva
            rw [hvbe] at hvb
            have HCA := Lib.hid (ia.c_free hva)
            have HCB := Lib.hid (ib.c_free hvb)
            have HCI := Lib.hid (im.c_free hy)
            obtain ⟨z, hz⟩ : ∃ z, x.o / 2 ^ j = z := ⟨_, rfl⟩
            have HZ := Lib.hid hz
            have HBIT : Hid ((b = false → bits BinOp.and IntKind.u32 z 1 = 0) ∧ (b = true → bits BinOp.and IntKind.u32 z 1 = 1)) := Lib.hid (by rw [← hz]; exact ⟨fun e => bit_no hx.o (hb.trans e), fun e => bit_yes hx.o (hb.trans e)⟩)
            have HST : Hid ((st = false → ¬ l.t2 < ib.age) ∧ (st = true → l.t2 < ib.age)) := Lib.hid ⟨fun e => of_decide_eq_false (hst.trans e), fun e => of_decide_eq_true (hst.trans e)⟩
            have HWY := Lib.hid hwy
            have HMN := Lib.hid hmn
            have HM0 := Lib.hid hmn0
            have HLT := Lib.hid hlt
            have HVA := Lib.hid ha3
            have HVB := Lib.hid hb3
            exact ⟨y, va, vb, mn, b, st, z, HCA, HCB, HCI, HBIT, HST, HZ, HWY, HMN, HM0, HLT, HVA, HVB⟩
          clear hlt hj
          go_upto_region 9 with (fail)
          go_cut [101] from 64 to 101 (fun v wx => v = .bool false ∧ Hid (R wx))
          case first =>
            have ha3 := HVA.out
            have hb3 := HVB.out
            clear HVA HVB
            rcases ha3 with rfl | ⟨rfl, rfl⟩ <;> rcases hb3 with rfl | ⟨rfl, rfl⟩
            · have HBS : Hid (∀ W, Below Wb.heap.size Wb W → R W) := Lib.hid (fun W hB => HR.out _ _ hq hB)
              clear hq
              refine region_mix (Below Wb.heap.size Wb) [(0, false), (1, false), (2, false), (3, false), (4, false), (5, false), (6, false), (7, false), (8, false), (9, false), (10, false), (11, false), (12, false), (13, false), (14, false), (15, false), (16, false), (17, false), (18, false), (19, false), (20, false), (21, false), (22, false), (23, false), (24, false), (25, false), (26, false), (27, false), (28, false), (29, false), (30, false), (31, false), (32, false), (33, false), (34, false), (35, false), (36, false), (37, false)] (by kernel_rfl) (by kernel_rfl) (Below Wb.heap.size Wb) ⟨Closed.below Wb, fun _ h => h⟩ (Below.refl _ _).drew ?_
              simp only [pickOps, List.getElem?_cons_zero, List.getElem?_cons_succ]
              refine mix_read _ (by rfl) (fun W hW => by (go_simp; first | done | with_reducible rfl)) ?_
              simp only [Act.put, List.setIfInBounds_toArray, List.set_cons_zero, List.set_cons_succ]
              refine mix_read _ (by rfl) (fun W hW => by (go_simp; first | done | with_reducible rfl)) ?_
              simp only [Act.put, List.setIfInBounds_toArray, List.set_cons_zero, List.set_cons_succ]
              refine mix_read _ (by rfl) (fun W hW => by (have hW := HBS.out W hW; have d0 := h0'; have d1 := hlt'; go_simp; first | done | with_reducible rfl)) ?_
              simp only [Act.put, List.setIfInBounds_toArray, List.set_cons_zero, List.set_cons_succ]
              refine mix_read _ (by rfl) (fun W hW => by (have hW := HBS.out W hW; have cA := (HRa.out _ hW).cell_at _ HCA.out; have cB := (HRb.out _ hW).cell_at _ HCB.out; have cI := (HQi.out _ (HRq.out _ hW)).cell_at _ HCI.out; go_simp; first | done | with_reducible rfl)) ?_
              simp only [Act.put, List.setIfInBounds_toArray, List.set_cons_zero, List.set_cons_succ]
              refine mix_read _ (by rfl) (fun W hW => by (have hW := HBS.out W hW; have e3 := HM0.out; have e6 := beq_eq_false_iff_ne.2 HM0.out; have e7 := bne_iff_ne.2 HM0.out; have e8 := decide_eq_true HM0.out; go_simp; first | done | with_reducible rfl)) ?_
              simp only [Act.put, List.setIfInBounds_toArray, List.set_cons_zero, List.set_cons_succ]
              refine mix_read _ (by rfl) (fun W hW => by (go_simp; first | done | with_reducible rfl)) ?_
              simp only [Act.put, List.setIfInBounds_toArray, List.set_cons_zero, List.set_cons_succ]
              refine mix_skip (by rfl) ?_
              simp only [Act.put, List.setIfInBounds_toArray, List.set_cons_zero, List.set_cons_succ]
              refine mix_skip (by rfl) ?_
              simp only [Act.put, List.setIfInBounds_toArray, List.set_cons_zero, List.set_cons_succ]
              refine mix_skip (by rfl) ?_
              simp only [Act.put, List.setIfInBounds_toArray, List.set_cons_zero, List.set_cons_succ]
              refine mix_skip (by rfl) ?_
              simp only [Act.put, List.setIfInBounds_toArray, List.set_cons_zero, List.set_cons_succ]
              refine mix_skip (by rfl) ?_
              simp only [Act.put, List.setIfInBounds_toArray, List.set_cons_zero, List.set_cons_succ]
              refine mix_skip (by rfl) ?_
              simp only [Act.put, List.setIfInBounds_toArray, List.set_cons_zero, List.set_cons_succ]
              refine mix_skip (by rfl) ?_
              simp only [Act.put, List.setIfInBounds_toArray, List.set_cons_zero, List.set_cons_succ]
              refine mix_skip (by rfl) ?_
              simp only [Act.put, List.setIfInBounds_toArray, List.set_cons_zero, List.set_cons_succ]
              refine mix_skip (by rfl) ?_
              simp only [Act.put, List.setIfInBounds_toArray, List.set_cons_zero, List.set_cons_succ]
              refine mix_skip (by rfl) ?_
              simp only [Act.put, List.setIfInBounds_toArray, List.set_cons_zero, List.set_cons_succ]
              refine mix_skip (by rfl) ?_
              simp only [Act.put, List.setIfInBounds_toArray, List.set_cons_zero, List.set_cons_succ]
              refine mix_read _ (by rfl) (fun W hW => by (go_simp; first | done | with_reducible rfl)) ?_
              simp only [Act.put, List.setIfInBounds_toArray, List.set_cons_zero, List.set_cons_succ]
              refine mix_read _ (by rfl) (fun W hW => by (go_simp; first | done | with_reducible rfl)) ?_
              simp only [Act.put, List.setIfInBounds_toArray, List.set_cons_zero, List.set_cons_succ]
              refine mix_read _ (by rfl) (fun W hW => by (go_simp; first | done | with_reducible rfl)) ?_
              simp only [Act.put, List.setIfInBounds_toArray, List.set_cons_zero, List.set_cons_succ]
              refine mix_read _ (by rfl) (fun W hW => by (go_simp; first | done | with_reducible rfl)) ?_
              simp only [Act.put, List.setIfInBounds_toArray, List.set_cons_zero, List.set_cons_succ]
              refine mix_read _ (by rfl) (fun W hW => by (have hW := HBS.out W hW; have d0 := h0'; have d1 := hlt'; go_simp; first | done | with_reducible rfl)) ?_
              simp only [Act.put, List.setIfInBounds_toArray, List.set_cons_zero, List.set_cons_succ]
              refine mix_read _ (by rfl) (fun W hW => by (have hW := HBS.out W hW; have cA := (HRa.out _ hW).cell_at _ HCA.out; have cB := (HRb.out _ hW).cell_at _ HCB.out; have cI := (HQi.out _ (HRq.out _ hW)).cell_at _ HCI.out; go_simp; first | done | with_reducible rfl)) ?_
              simp only [Act.put, List.setIfInBounds_toArray, List.set_cons_zero, List.set_cons_succ]
              refine mix_read _ (by rfl) (fun W hW => by (have hW := HBS.out W hW; have e3 := HM0.out; have e6 := beq_eq_false_iff_ne.2 HM0.out; have e7 := bne_iff_ne.2 HM0.out; have e8 := decide_eq_true HM0.out; go_simp; first | done | with_reducible rfl)) ?_
              simp only [Act.put, List.setIfInBounds_toArray, List.set_cons_zero, List.set_cons_succ]
              refine mix_read _ (by rfl) (fun W hW => by (go_simp; first | done | with_reducible rfl)) ?_
              simp only [Act.put, List.setIfInBounds_toArray, List.set_cons_zero, List.set_cons_succ]
              refine mix_skip (by rfl) ?_
              simp only [Act.put, List.setIfInBounds_toArray, List.set_cons_zero, List.set_cons_succ]
              refine mix_skip (by rfl) ?_
              simp only [Act.put, List.setIfInBounds_toArray, List.set_cons_zero, List.set_cons_succ]
              refine mix_skip (by rfl) ?_
              simp only [Act.put, List.setIfInBounds_toArray, List.set_cons_zero, List.set_cons_succ]
              refine mix_skip (by rfl) ?_
              simp only [Act.put, List.setIfInBounds_toArray, List.set_cons_zero, List.set_cons_succ]
              refine mix_skip (by rfl) ?_
              simp only [Act.put, List.setIfInBounds_toArray, List.set_cons_zero, List.set_cons_succ]
              refine mix_skip (by rfl) ?_
              simp only [Act.put, List.setIfInBounds_toArray, List.set_cons_zero, List.set_cons_succ]
              refine mix_skip (by rfl) ?_
              simp only [Act.put, List.setIfInBounds_toArray, List.set_cons_zero, List.set_cons_succ]
              refine mix_skip (by rfl) ?_
              simp only [Act.put, List.setIfInBounds_toArray, List.set_cons_zero, List.set_cons_succ]
              refine mix_skip (by rfl) ?_
              simp only [Act.put, List.setIfInBounds_toArray, List.set_cons_zero, List.set_cons_succ]
              refine mix_skip (by rfl) ?_
              simp only [Act.put, List.setIfInBounds_toArray, List.set_cons_zero, List.set_cons_succ]
              refine mix_skip (by rfl) ?_
              simp only [Act.put, List.setIfInBounds_toArray, List.set_cons_zero, List.set_cons_succ]
              refine mix_read _ (by rfl) (fun W hW => by (go_simp; first | done | with_reducible rfl)) ?_
              simp only [Act.put, List.setIfInBounds_toArray, List.set_cons_zero, List.set_cons_succ]
              refine mix_read _ (by rfl) (fun W hW => by (go_simp; first | done | with_reducible rfl)) ?_
              simp only [Act.put, List.setIfInBounds_toArray, List.set_cons_zero, List.set_cons_succ]
              refine mix_nil (fun W hW => ?_)
              have HQ1 := Lib.hid (HBS.out W hW)
              clear hW HBS
              go_wp2_with fail
              go_meet
              exact ⟨rfl, HQ1⟩
            · have HBS : Hid (∀ W, Below Wb.heap.size Wb W → R W) := Lib.hid (fun W hB => HR.out _ _ hq hB)
              clear hq
              refine region_mix (Below Wb.heap.size Wb) [(0, false), (1, false), (2, false), (3, false), (4, false), (5, false), (6, false), (7, false), (8, false), (9, false), (10, false), (11, false), (12, false), (13, false), (14, false), (15, false), (16, false), (17, false), (18, false), (19, false), (20, false), (21, false), (22, false), (23, false), (24, false), (25, false), (26, false), (27, false), (28, false), (29, false), (30, false), (31, false), (32, false), (33, false), (34, false), (35, false), (36, false), (37, false)] (by kernel_rfl) (by kernel_rfl) (Below Wb.heap.size Wb) ⟨Closed.below Wb, fun _ h => h⟩ (Below.refl _ _).drew ?_
              simp only [pickOps, List.getElem?_cons_zero, List.getElem?_cons_succ]
              refine mix_read _ (by rfl) (fun W hW => by (go_simp; first | done | with_reducible rfl)) ?_
              simp only [Act.put, List.setIfInBounds_toArray, List.set_cons_zero, List.set_cons_succ]
              refine mix_read _ (by rfl) (fun W hW => by (go_simp; first | done | with_reducible rfl)) ?_
              simp only [Act.put, List.setIfInBounds_toArray, List.set_cons_zero, List.set_cons_succ]
              refine mix_read _ (by rfl) (fun W hW => by (have hW := HBS.out W hW; have d0 := h0'; have d1 := hlt'; go_simp; first | done | with_reducible rfl)) ?_
              simp only [Act.put, List.setIfInBounds_toArray, List.set_cons_zero, List.set_cons_succ]
              refine mix_read _ (by rfl) (fun W hW => by (have hW := HBS.out W hW; have cA := (HRa.out _ hW).cell_at _ HCA.out; have cB := (HRb.out _ hW).cell_at _ HCB.out; have cI := (HQi.out _ (HRq.out _ hW)).cell_at _ HCI.out; go_simp; first | done | with_reducible rfl)) ?_
              simp only [Act.put, List.setIfInBounds_toArray, List.set_cons_zero, List.set_cons_succ]
              refine mix_read _ (by rfl) (fun W hW => by (have hW := HBS.out W hW; have e3 := HM0.out; have e6 := beq_eq_false_iff_ne.2 HM0.out; have e7 := bne_iff_ne.2 HM0.out; have e8 := decide_eq_true HM0.out; go_simp; first | done | with_reducible rfl)) ?_
              simp only [Act.put, List.setIfInBounds_toArray, List.set_cons_zero, List.set_cons_succ]
              refine mix_read _ (by rfl) (fun W hW => by (go_simp; first | done | with_reducible rfl)) ?_
              simp only [Act.put, List.setIfInBounds_toArray, List.set_cons_zero, List.set_cons_succ]
              refine mix_skip (by rfl) ?_
              simp only [Act.put, List.setIfInBounds_toArray, List.set_cons_zero, List.set_cons_succ]
              refine mix_skip (by rfl) ?_
              simp only [Act.put, List.setIfInBounds_toArray, List.set_cons_zero, List.set_cons_succ]
              refine mix_skip (by rfl) ?_
              simp only [Act.put, List.setIfInBounds_toArray, List.set_cons_zero, List.set_cons_succ]
              refine mix_skip (by rfl) ?_
              simp only [Act.put, List.setIfInBounds_toArray, List.set_cons_zero, List.set_cons_succ]
              refine mix_skip (by rfl) ?_
              simp only [Act.put, List.setIfInBounds_toArray, List.set_cons_zero, List.set_cons_succ]
              refine mix_skip (by rfl) ?_
              simp only [Act.put, List.setIfInBounds_toArray, List.set_cons_zero, List.set_cons_succ]
              refine mix_skip (by rfl) ?_
              simp only [Act.put, List.setIfInBounds_toArray, List.set_cons_zero, List.set_cons_succ]
              refine mix_skip (by rfl) ?_
              simp only [Act.put, List.setIfInBounds_toArray, List.set_cons_zero, List.set_cons_succ]
              refine mix_skip (by rfl) ?_
              simp only [Act.put, List.setIfInBounds_toArray, List.set_cons_zero, List.set_cons_succ]
              refine mix_skip (by rfl) ?_
              simp only [Act.put, List.setIfInBounds_toArray, List.set_cons_zero, List.set_cons_succ]
              refine mix_skip (by rfl) ?_
              simp only [Act.put, List.setIfInBounds_toArray, List.set_cons_zero, List.set_cons_succ]
              refine mix_read _ (by rfl) (fun W hW => by (go_simp; first | done | with_reducible rfl)) ?_
              simp only [Act.put, List.setIfInBounds_toArray, List.set_cons_zero, List.set_cons_succ]
              refine mix_read _ (by rfl) (fun W hW => by (go_simp; first | done | with_reducible rfl)) ?_
              simp only [Act.put, List.setIfInBounds_toArray, List.set_cons_zero, List.set_cons_succ]
              refine mix_read _ (by rfl) (fun W hW => by (go_simp; first | done | with_reducible rfl)) ?_
              simp only [Act.put, List.setIfInBounds_toArray, List.set_cons_zero, List.set_cons_succ]
              refine mix_read _ (by rfl) (fun W hW => by (go_simp; first | done | with_reducible rfl)) ?_
              simp only [Act.put, List.setIfInBounds_toArray, List.set_cons_zero, List.set_cons_succ]
              refine mix_read _ (by rfl) (fun W hW => by (have hW := HBS.out W hW; have d0 := h0'; have d1 := hlt'; go_simp; first | done | with_reducible rfl)) ?_
              simp only [Act.put, List.setIfInBounds_toArray, List.set_cons_zero, List.set_cons_succ]
              refine mix_read _ (by rfl) (fun W hW => by (have hW := HBS.out W hW; have cA := (HRa.out _ hW).cell_at _ HCA.out; have cB := (HRb.out _ hW).cell_at _ HCB.out; have cI := (HQi.out _ (HRq.out _ hW)).cell_at _ HCI.out; go_simp; first | done | with_reducible rfl)) ?_
              simp only [Act.put, List.setIfInBounds_toArray, List.set_cons_zero, List.set_cons_succ]
              refine mix_read _ (by rfl) (fun W hW => by (have hW := HBS.out W hW; have e3 := HM0.out; have e6 := beq_eq_false_iff_ne.2 HM0.out; have e7 := bne_iff_ne.2 HM0.out; have e8 := decide_eq_true HM0.out; go_simp; first | done | with_reducible rfl)) ?_
              simp only [Act.put, List.setIfInBounds_toArray, List.set_cons_zero, List.set_cons_succ]
              refine mix_read _ (by rfl) (fun W hW => by (go_simp; first | done | with_reducible rfl)) ?_
              simp only [Act.put, List.setIfInBounds_toArray, List.set_cons_zero, List.set_cons_succ]
              refine mix_read _ (by rfl) (fun W hW => by (go_simp; first | done | with_reducible rfl)) ?_
              simp only [Act.put, List.setIfInBounds_toArray, List.set_cons_zero, List.set_cons_succ]
              refine mix_read _ (by rfl) (fun W hW => by (go_simp; first | done | with_reducible rfl)) ?_
              simp only [Act.put, List.setIfInBounds_toArray, List.set_cons_zero, List.set_cons_succ]
              refine mix_read _ (by rfl) (fun W hW => by (have hW := HBS.out W hW; have d0 := h0'; have d1 := hlt'; go_simp; first | done | with_reducible rfl)) ?_
              simp only [Act.put, List.setIfInBounds_toArray, List.set_cons_zero, List.set_cons_succ]
              refine mix_read _ (by rfl) (fun W hW => by (have hW := HBS.out W hW; have cA := (HRa.out _ hW).cell_at _ HCA.out; have cB := (HRb.out _ hW).cell_at _ HCB.out; have cI := (HQi.out _ (HRq.out _ hW)).cell_at _ HCI.out; go_simp; first | done | with_reducible rfl)) ?_
              simp only [Act.put, List.setIfInBounds_toArray, List.set_cons_zero, List.set_cons_succ]
              refine mix_read _ (by rfl) (fun W hW => by (go_simp; first | done | with_reducible rfl)) ?_
              simp only [Act.put, List.setIfInBounds_toArray, List.set_cons_zero, List.set_cons_succ]
              refine mix_read _ (by rfl) (fun W hW => by (go_simp; first | done | with_reducible rfl)) ?_
              simp only [Act.put, List.setIfInBounds_toArray, List.set_cons_zero, List.set_cons_succ]
              refine mix_read _ (by rfl) (fun W hW => by (have hW := HBS.out W hW; have d0 := h0'; have d1 := hlt'; go_simp; first | done | with_reducible rfl)) ?_
              simp only [Act.put, List.setIfInBounds_toArray, List.set_cons_zero, List.set_cons_succ]
              refine mix_read _ (by rfl) (fun W hW => by (have hW := HBS.out W hW; have cA := (HRa.out _ hW).cell_at _ HCA.out; have cB := (HRb.out _ hW).cell_at _ HCB.out; have cI := (HQi.out _ (HRq.out _ hW)).cell_at _ HCI.out; go_simp; first | done | with_reducible rfl)) ?_
              simp only [Act.put, List.setIfInBounds_toArray, List.set_cons_zero, List.set_cons_succ]
              refine mix_read _ (by rfl) (fun W hW => by (have hW := HBS.out W hW; have e1 := HWY.out; go_simp; first | done | with_reducible rfl)) ?_
              simp only [Act.put, List.setIfInBounds_toArray, List.set_cons_zero, List.set_cons_succ]
              refine mix_read _ (by rfl) (fun W hW => by (have hW := HBS.out W hW; have e2 := HMN.out; go_simp; first | done | with_reducible rfl)) ?_
              simp only [Act.put, List.setIfInBounds_toArray, List.set_cons_zero, List.set_cons_succ]
              refine mix_read _ (by rfl) (fun W hW => by (have hW := HBS.out W hW; have e3 := HM0.out; have e6 := beq_eq_false_iff_ne.2 HM0.out; have e7 := bne_iff_ne.2 HM0.out; have e8 := decide_eq_true HM0.out; go_simp; first | done | with_reducible rfl)) ?_
              simp only [Act.put, List.setIfInBounds_toArray, List.set_cons_zero, List.set_cons_succ]
              refine mix_read _ (by rfl) (fun W hW => by (go_simp; first | done | with_reducible rfl)) ?_
              simp only [Act.put, List.setIfInBounds_toArray, List.set_cons_zero, List.set_cons_succ]
              refine mix_read _ (by rfl) (fun W hW => by (go_simp; first | done | with_reducible rfl)) ?_
              simp only [Act.put, List.setIfInBounds_toArray, List.set_cons_zero, List.set_cons_succ]
              refine mix_nil (fun W hW => ?_)
              have HQ1 := Lib.hid (HBS.out W hW)
              clear hW HBS
              go_wp2_with fail
              go_meet
              exact ⟨rfl, HQ1⟩
            · have HBS : Hid (∀ W, Below Wb.heap.size Wb W → R W) := Lib.hid (fun W hB => HR.out _ _ hq hB)
              clear hq
              refine region_mix (Below Wb.heap.size Wb) [(0, false), (1, false), (2, false), (3, false), (4, false), (5, false), (6, false), (7, false), (8, false), (9, false), (10, false), (11, false), (12, false), (13, false), (14, false), (15, false), (16, false), (17, false), (18, false), (19, false), (20, false), (21, false), (22, false), (23, false), (24, false), (25, false), (26, false), (27, false), (28, false), (29, false), (30, false), (31, false), (32, false), (33, false), (34, false), (35, false), (36, false), (37, false)] (by kernel_rfl) (by kernel_rfl) (Below Wb.heap.size Wb) ⟨Closed.below Wb, fun _ h => h⟩ (Below.refl _ _).drew ?_
              simp only [pickOps, List.getElem?_cons_zero, List.getElem?_cons_succ]
              refine mix_read _ (by rfl) (fun W hW => by (go_simp; first | done | with_reducible rfl)) ?_
              simp only [Act.put, List.setIfInBounds_toArray, List.set_cons_zero, List.set_cons_succ]
              refine mix_read _ (by rfl) (fun W hW => by (go_simp; first | done | with_reducible rfl)) ?_
              simp only [Act.put, List.setIfInBounds_toArray, List.set_cons_zero, List.set_cons_succ]
              refine mix_read _ (by rfl) (fun W hW => by (have hW := HBS.out W hW; have d0 := h0'; have d1 := hlt'; go_simp; first | done | with_reducible rfl)) ?_
              simp only [Act.put, List.setIfInBounds_toArray, List.set_cons_zero, List.set_cons_succ]
              refine mix_read _ (by rfl) (fun W hW => by (have hW := HBS.out W hW; have cA := (HRa.out _ hW).cell_at _ HCA.out; have cB := (HRb.out _ hW).cell_at _ HCB.out; have cI := (HQi.out _ (HRq.out _ hW)).cell_at _ HCI.out; go_simp; first | done | with_reducible rfl)) ?_
              simp only [Act.put, List.setIfInBounds_toArray, List.set_cons_zero, List.set_cons_succ]
              refine mix_read _ (by rfl) (fun W hW => by (have hW := HBS.out W hW; have e3 := HM0.out; have e6 := beq_eq_false_iff_ne.2 HM0.out; have e7 := bne_iff_ne.2 HM0.out; have e8 := decide_eq_true HM0.out; go_simp; first | done | with_reducible rfl)) ?_
              simp only [Act.put, List.setIfInBounds_toArray, List.set_cons_zero, List.set_cons_succ]
              refine mix_read _ (by rfl) (fun W hW => by (go_simp; first | done | with_reducible rfl)) ?_
              simp only [Act.put, List.setIfInBounds_toArray, List.set_cons_zero, List.set_cons_succ]
              refine mix_read _ (by rfl) (fun W hW => by (go_simp; first | done | with_reducible rfl)) ?_
              simp only [Act.put, List.setIfInBounds_toArray, List.set_cons_zero, List.set_cons_succ]
              refine mix_read _ (by rfl) (fun W hW => by (go_simp; first | done | with_reducible rfl)) ?_
              simp only [Act.put, List.setIfInBounds_toArray, List.set_cons_zero, List.set_cons_succ]
              refine mix_read _ (by rfl) (fun W hW => by (have hW := HBS.out W hW; have d0 := h0'; have d1 := hlt'; go_simp; first | done | with_reducible rfl)) ?_
              simp only [Act.put, List.setIfInBounds_toArray, List.set_cons_zero, List.set_cons_succ]
              refine mix_read _ (by rfl) (fun W hW => by (have hW := HBS.out W hW; have cA := (HRa.out _ hW).cell_at _ HCA.out; have cB := (HRb.out _ hW).cell_at _ HCB.out; have cI := (HQi.out _ (HRq.out _ hW)).cell_at _ HCI.out; go_simp; first | done | with_reducible rfl)) ?_
              simp only [Act.put, List.setIfInBounds_toArray, List.set_cons_zero, List.set_cons_succ]
              refine mix_read _ (by rfl) (fun W hW => by (go_simp; first | done | with_reducible rfl)) ?_
              simp only [Act.put, List.setIfInBounds_toArray, List.set_cons_zero, List.set_cons_succ]
              refine mix_read _ (by rfl) (fun W hW => by (go_simp; first | done | with_reducible rfl)) ?_
              simp only [Act.put, List.setIfInBounds_toArray, List.set_cons_zero, List.set_cons_succ]
              refine mix_read _ (by rfl) (fun W hW => by (have hW := HBS.out W hW; have d0 := h0'; have d1 := hlt'; go_simp; first | done | with_reducible rfl)) ?_
              simp only [Act.put, List.setIfInBounds_toArray, List.set_cons_zero, List.set_cons_succ]
              refine mix_read _ (by rfl) (fun W hW => by (have hW := HBS.out W hW; have cA := (HRa.out _ hW).cell_at _ HCA.out; have cB := (HRb.out _ hW).cell_at _ HCB.out; have cI := (HQi.out _ (HRq.out _ hW)).cell_at _ HCI.out; go_simp; first | done | with_reducible rfl)) ?_
              simp only [Act.put, List.setIfInBounds_toArray, List.set_cons_zero, List.set_cons_succ]
              refine mix_read _ (by rfl) (fun W hW => by (have hW := HBS.out W hW; have e1 := HWY.out; go_simp; first | done | with_reducible rfl)) ?_
              simp only [Act.put, List.setIfInBounds_toArray, List.set_cons_zero, List.set_cons_succ]
              refine mix_read _ (by rfl) (fun W hW => by (have hW := HBS.out W hW; have e2 := HMN.out; go_simp; first | done | with_reducible rfl)) ?_
              simp only [Act.put, List.setIfInBounds_toArray, List.set_cons_zero, List.set_cons_succ]
              refine mix_read _ (by rfl) (fun W hW => by (have hW := HBS.out W hW; have e3 := HM0.out; have e6 := beq_eq_false_iff_ne.2 HM0.out; have e7 := bne_iff_ne.2 HM0.out; have e8 := decide_eq_true HM0.out; go_simp; first | done | with_reducible rfl)) ?_
              simp only [Act.put, List.setIfInBounds_toArray, List.set_cons_zero, List.set_cons_succ]
              refine mix_read _ (by rfl) (fun W hW => by (go_simp; first | done | with_reducible rfl)) ?_
              simp only [Act.put, List.setIfInBounds_toArray, List.set_cons_zero, List.set_cons_succ]
              refine mix_read _ (by rfl) (fun W hW => by (go_simp; first | done | with_reducible rfl)) ?_
              simp only [Act.put, List.setIfInBounds_toArray, List.set_cons_zero, List.set_cons_succ]
              refine mix_read _ (by rfl) (fun W hW => by (go_simp; first | done | with_reducible rfl)) ?_
              simp only [Act.put, List.setIfInBounds_toArray, List.set_cons_zero, List.set_cons_succ]
              refine mix_read _ (by rfl) (fun W hW => by (go_simp; first | done | with_reducible rfl)) ?_
              simp only [Act.put, List.setIfInBounds_toArray, List.set_cons_zero, List.set_cons_succ]
              refine mix_read _ (by rfl) (fun W hW => by (have hW := HBS.out W hW; have d0 := h0'; have d1 := hlt'; go_simp; first | done | with_reducible rfl)) ?_
              simp only [Act.put, List.setIfInBounds_toArray, List.set_cons_zero, List.set_cons_succ]
              refine mix_read _ (by rfl) (fun W hW => by (have hW := HBS.out W hW; have cA := (HRa.out _ hW).cell_at _ HCA.out; have cB := (HRb.out _ hW).cell_at _ HCB.out; have cI := (HQi.out _ (HRq.out _ hW)).cell_at _ HCI.out; go_simp; first | done | with_reducible rfl)) ?_
              simp only [Act.put, List.setIfInBounds_toArray, List.set_cons_zero, List.set_cons_succ]
              refine mix_read _ (by rfl) (fun W hW => by (have hW := HBS.out W hW; have e3 := HM0.out; have e6 := beq_eq_false_iff_ne.2 HM0.out; have e7 := bne_iff_ne.2 HM0.out; have e8 := decide_eq_true HM0.out; go_simp; first | done | with_reducible rfl)) ?_
              simp only [Act.put, List.setIfInBounds_toArray, List.set_cons_zero, List.set_cons_succ]
              refine mix_read _ (by rfl) (fun W hW => by (go_simp; first | done | with_reducible rfl)) ?_
              simp only [Act.put, List.setIfInBounds_toArray, List.set_cons_zero, List.set_cons_succ]
              refine mix_skip (by rfl) ?_
              simp only [Act.put, List.setIfInBounds_toArray, List.set_cons_zero, List.set_cons_succ]
              refine mix_skip (by rfl) ?_
              simp only [Act.put, List.setIfInBounds_toArray, List.set_cons_zero, List.set_cons_succ]
              refine mix_skip (by rfl) ?_
              simp only [Act.put, List.setIfInBounds_toArray, List.set_cons_zero, List.set_cons_succ]
              refine mix_skip (by rfl) ?_
              simp only [Act.put, List.setIfInBounds_toArray, List.set_cons_zero, List.set_cons_succ]
              refine mix_skip (by rfl) ?_
              simp only [Act.put, List.setIfInBounds_toArray, List.set_cons_zero, List.set_cons_succ]
              refine mix_skip (by rfl) ?_
              simp only [Act.put, List.setIfInBounds_toArray, List.set_cons_zero, List.set_cons_succ]
              refine mix_skip (by rfl) ?_
              simp only [Act.put, List.setIfInBounds_toArray, List.set_cons_zero, List.set_cons_succ]
              refine mix_skip (by rfl) ?_
              simp only [Act.put, List.setIfInBounds_toArray, List.set_cons_zero, List.set_cons_succ]
              refine mix_skip (by rfl) ?_
              simp only [Act.put, List.setIfInBounds_toArray, List.set_cons_zero, List.set_cons_succ]
              refine mix_skip (by rfl) ?_
              simp only [Act.put, List.setIfInBounds_toArray, List.set_cons_zero, List.set_cons_succ]
              refine mix_skip (by rfl) ?_
              simp only [Act.put, List.setIfInBounds_toArray, List.set_cons_zero, List.set_cons_succ]
              refine mix_read _ (by rfl) (fun W hW => by (go_simp; first | done | with_reducible rfl)) ?_
              simp only [Act.put, List.setIfInBounds_toArray, List.set_cons_zero, List.set_cons_succ]
              refine mix_read _ (by rfl) (fun W hW => by (go_simp; first | done | with_reducible rfl)) ?_
              simp only [Act.put, List.setIfInBounds_toArray, List.set_cons_zero, List.set_cons_succ]
              refine mix_nil (fun W hW => ?_)
              have HQ1 := Lib.hid (HBS.out W hW)
              clear hW HBS
              go_wp2_with fail
              go_meet
              exact ⟨rfl, HQ1⟩
            · have HBS : Hid (∀ W, Below Wb.heap.size Wb W → R W) := Lib.hid (fun W hB => HR.out _ _ hq hB)
              clear hq
              refine region_mix (Below Wb.heap.size Wb) [(0, false), (1, false), (2, false), (3, false), (4, false), (5, false), (6, false), (7, false), (8, false), (9, false), (10, false), (11, false), (12, false), (13, false), (14, false), (15, false), (16, false), (17, false), (18, false), (19, false), (20, false), (21, false), (22, false), (23, false), (24, false), (25, false), (26, false), (27, false), (28, false), (29, false), (30, false), (31, false), (32, false), (33, false), (34, false), (35, false), (36, false), (37, false)] (by kernel_rfl) (by kernel_rfl) (Below Wb.heap.size Wb) ⟨Closed.below Wb, fun _ h => h⟩ (Below.refl _ _).drew ?_
              simp only [pickOps, List.getElem?_cons_zero, List.getElem?_cons_succ]
              refine mix_read _ (by rfl) (fun W hW => by (go_simp; first | done | with_reducible rfl)) ?_
              simp only [Act.put, List.setIfInBounds_toArray, List.set_cons_zero, List.set_cons_succ]
              refine mix_read _ (by rfl) (fun W hW => by (go_simp; first | done | with_reducible rfl)) ?_
              simp only [Act.put, List.setIfInBounds_toArray, List.set_cons_zero, List.set_cons_succ]
              refine mix_read _ (by rfl) (fun W hW => by (have hW := HBS.out W hW; have d0 := h0'; have d1 := hlt'; go_simp; first | done | with_reducible rfl)) ?_
              simp only [Act.put, List.setIfInBounds_toArray, List.set_cons_zero, List.set_cons_succ]
              refine mix_read _ (by rfl) (fun W hW => by (have hW := HBS.out W hW; have cA := (HRa.out _ hW).cell_at _ HCA.out; have cB := (HRb.out _ hW).cell_at _ HCB.out; have cI := (HQi.out _ (HRq.out _ hW)).cell_at _ HCI.out; go_simp; first | done | with_reducible rfl)) ?_
              simp only [Act.put, List.setIfInBounds_toArray, List.set_cons_zero, List.set_cons_succ]
              refine mix_read _ (by rfl) (fun W hW => by (have hW := HBS.out W hW; have e3 := HM0.out; have e6 := beq_eq_false_iff_ne.2 HM0.out; have e7 := bne_iff_ne.2 HM0.out; have e8 := decide_eq_true HM0.out; go_simp; first | done | with_reducible rfl)) ?_
              simp only [Act.put, List.setIfInBounds_toArray, List.set_cons_zero, List.set_cons_succ]
              refine mix_read _ (by rfl) (fun W hW => by (go_simp; first | done | with_reducible rfl)) ?_
              simp only [Act.put, List.setIfInBounds_toArray, List.set_cons_zero, List.set_cons_succ]
              refine mix_read _ (by rfl) (fun W hW => by (go_simp; first | done | with_reducible rfl)) ?_
              simp only [Act.put, List.setIfInBounds_toArray, List.set_cons_zero, List.set_cons_succ]
              refine mix_read _ (by rfl) (fun W hW => by (go_simp; first | done | with_reducible rfl)) ?_
              simp only [Act.put, List.setIfInBounds_toArray, List.set_cons_zero, List.set_cons_succ]
              refine mix_read _ (by rfl) (fun W hW => by (have hW := HBS.out W hW; have d0 := h0'; have d1 := hlt'; go_simp; first | done | with_reducible rfl)) ?_
              simp only [Act.put, List.setIfInBounds_toArray, List.set_cons_zero, List.set_cons_succ]
              refine mix_read _ (by rfl) (fun W hW => by (have hW := HBS.out W hW; have cA := (HRa.out _ hW).cell_at _ HCA.out; have cB := (HRb.out _ hW).cell_at _ HCB.out; have cI := (HQi.out _ (HRq.out _ hW)).cell_at _ HCI.out; go_simp; first | done | with_reducible rfl)) ?_
              simp only [Act.put, List.setIfInBounds_toArray, List.set_cons_zero, List.set_cons_succ]
              refine mix_read _ (by rfl) (fun W hW => by (go_simp; first | done | with_reducible rfl)) ?_
              simp only [Act.put, List.setIfInBounds_toArray, List.set_cons_zero, List.set_cons_succ]
              refine mix_read _ (by rfl) (fun W hW => by (go_simp; first | done | with_reducible rfl)) ?_
              simp only [Act.put, List.setIfInBounds_toArray, List.set_cons_zero, List.set_cons_succ]
              refine mix_read _ (by rfl) (fun W hW => by (have hW := HBS.out W hW; have d0 := h0'; have d1 := hlt'; go_simp; first | done | with_reducible rfl)) ?_
              simp only [Act.put, List.setIfInBounds_toArray, List.set_cons_zero, List.set_cons_succ]
              refine mix_read _ (by rfl) (fun W hW => by (have hW := HBS.out W hW; have cA := (HRa.out _ hW).cell_at _ HCA.out; have cB := (HRb.out _ hW).cell_at _ HCB.out; have cI := (HQi.out _ (HRq.out _ hW)).cell_at _ HCI.out; go_simp; first | done | with_reducible rfl)) ?_
              simp only [Act.put, List.setIfInBounds_toArray, List.set_cons_zero, List.set_cons_succ]
              refine mix_read _ (by rfl) (fun W hW => by (have hW := HBS.out W hW; have e1 := HWY.out; go_simp; first | done | with_reducible rfl)) ?_
              simp only [Act.put, List.setIfInBounds_toArray, List.set_cons_zero, List.set_cons_succ]
              refine mix_read _ (by rfl) (fun W hW => by (have hW := HBS.out W hW; have e2 := HMN.out; go_simp; first | done | with_reducible rfl)) ?_
              simp only [Act.put, List.setIfInBounds_toArray, List.set_cons_zero, List.set_cons_succ]
              refine mix_read _ (by rfl) (fun W hW => by (have hW := HBS.out W hW; have e3 := HM0.out; have e6 := beq_eq_false_iff_ne.2 HM0.out; have e7 := bne_iff_ne.2 HM0.out; have e8 := decide_eq_true HM0.out; go_simp; first | done | with_reducible rfl)) ?_
              simp only [Act.put, List.setIfInBounds_toArray, List.set_cons_zero, List.set_cons_succ]
              refine mix_read _ (by rfl) (fun W hW => by (go_simp; first | done | with_reducible rfl)) ?_
              simp only [Act.put, List.setIfInBounds_toArray, List.set_cons_zero, List.set_cons_succ]
              refine mix_read _ (by rfl) (fun W hW => by (go_simp; first | done | with_reducible rfl)) ?_
              simp only [Act.put, List.setIfInBounds_toArray, List.set_cons_zero, List.set_cons_succ]
              refine mix_read _ (by rfl) (fun W hW => by (go_simp; first | done | with_reducible rfl)) ?_
              simp only [Act.put, List.setIfInBounds_toArray, List.set_cons_zero, List.set_cons_succ]
              refine mix_read _ (by rfl) (fun W hW => by (go_simp; first | done | with_reducible rfl)) ?_
              simp only [Act.put, List.setIfInBounds_toArray, List.set_cons_zero, List.set_cons_succ]
              refine mix_read _ (by rfl) (fun W hW => by (have hW := HBS.out W hW; have d0 := h0'; have d1 := hlt'; go_simp; first | done | with_reducible rfl)) ?_
              simp only [Act.put, List.setIfInBounds_toArray, List.set_cons_zero, List.set_cons_succ]
              refine mix_read _ (by rfl) (fun W hW => by (have hW := HBS.out W hW; have cA := (HRa.out _ hW).cell_at _ HCA.out; have cB := (HRb.out _ hW).cell_at _ HCB.out; have cI := (HQi.out _ (HRq.out _ hW)).cell_at _ HCI.out; go_simp; first | done | with_reducible rfl)) ?_
              simp only [Act.put, List.setIfInBounds_toArray, List.set_cons_zero, List.set_cons_succ]
              refine mix_read _ (by rfl) (fun W hW => by (have hW := HBS.out W hW; have e3 := HM0.out; have e6 := beq_eq_false_iff_ne.2 HM0.out; have e7 := bne_iff_ne.2 HM0.out; have e8 := decide_eq_true HM0.out; go_simp; first | done | with_reducible rfl)) ?_
              simp only [Act.put, List.setIfInBounds_toArray, List.set_cons_zero, List.set_cons_succ]
              refine mix_read _ (by rfl) (fun W hW => by (go_simp; first | done | with_reducible rfl)) ?_
              simp only [Act.put, List.setIfInBounds_toArray, List.set_cons_zero, List.set_cons_succ]
              refine mix_read _ (by rfl) (fun W hW => by (go_simp; first | done | with_reducible rfl)) ?_
              simp only [Act.put, List.setIfInBounds_toArray, List.set_cons_zero, List.set_cons_succ]
              refine mix_read _ (by rfl) (fun W hW => by (go_simp; first | done | with_reducible rfl)) ?_
              simp only [Act.put, List.setIfInBounds_toArray, List.set_cons_zero, List.set_cons_succ]
              refine mix_read _ (by rfl) (fun W hW => by (have hW := HBS.out W hW; have d0 := h0'; have d1 := hlt'; go_simp; first | done | with_reducible rfl)) ?_
              simp only [Act.put, List.setIfInBounds_toArray, List.set_cons_zero, List.set_cons_succ]
              refine mix_read _ (by rfl) (fun W hW => by (have hW := HBS.out W hW; have cA := (HRa.out _ hW).cell_at _ HCA.out; have cB := (HRb.out _ hW).cell_at _ HCB.out; have cI := (HQi.out _ (HRq.out _ hW)).cell_at _ HCI.out; go_simp; first | done | with_reducible rfl)) ?_
              simp only [Act.put, List.setIfInBounds_toArray, List.set_cons_zero, List.set_cons_succ]
              refine mix_read _ (by rfl) (fun W hW => by (go_simp; first | done | with_reducible rfl)) ?_
              simp only [Act.put, List.setIfInBounds_toArray, List.set_cons_zero, List.set_cons_succ]
              refine mix_read _ (by rfl) (fun W hW => by (go_simp; first | done | with_reducible rfl)) ?_
              simp only [Act.put, List.setIfInBounds_toArray, List.set_cons_zero, List.set_cons_succ]
              refine mix_read _ (by rfl) (fun W hW => by (have hW := HBS.out W hW; have d0 := h0'; have d1 := hlt'; go_simp; first | done | with_reducible rfl)) ?_
              simp only [Act.put, List.setIfInBounds_toArray, List.set_cons_zero, List.set_cons_succ]
              refine mix_read _ (by rfl) (fun W hW => by (have hW := HBS.out W hW; have cA := (HRa.out _ hW).cell_at _ HCA.out; have cB := (HRb.out _ hW).cell_at _ HCB.out; have cI := (HQi.out _ (HRq.out _ hW)).cell_at _ HCI.out; go_simp; first | done | with_reducible rfl)) ?_
              simp only [Act.put, List.setIfInBounds_toArray, List.set_cons_zero, List.set_cons_succ]
              refine mix_read _ (by rfl) (fun W hW => by (have hW := HBS.out W hW; have e1 := HWY.out; go_simp; first | done | with_reducible rfl)) ?_
              simp only [Act.put, List.setIfInBounds_toArray, List.set_cons_zero, List.set_cons_succ]
              refine mix_read _ (by rfl) (fun W hW => by (have hW := HBS.out W hW; have e2 := HMN.out; go_simp; first | done | with_reducible rfl)) ?_
              simp only [Act.put, List.setIfInBounds_toArray, List.set_cons_zero, List.set_cons_succ]
              refine mix_read _ (by rfl) (fun W hW => by (have hW := HBS.out W hW; have e3 := HM0.out; have e6 := beq_eq_false_iff_ne.2 HM0.out; have e7 := bne_iff_ne.2 HM0.out; have e8 := decide_eq_true HM0.out; go_simp; first | done | with_reducible rfl)) ?_
              simp only [Act.put, List.setIfInBounds_toArray, List.set_cons_zero, List.set_cons_succ]
              refine mix_read _ (by rfl) (fun W hW => by (go_simp; first | done | with_reducible rfl)) ?_
              simp only [Act.put, List.setIfInBounds_toArray, List.set_cons_zero, List.set_cons_succ]
              refine mix_read _ (by rfl) (fun W hW => by (go_simp; first | done | with_reducible rfl)) ?_
              simp only [Act.put, List.setIfInBounds_toArray, List.set_cons_zero, List.set_cons_succ]
              refine mix_nil (fun W hW => ?_)
              have HQ1 := Lib.hid (HBS.out W hW)
              clear hW HBS
              go_wp2_with fail
              go_meet
              exact ⟨rfl, HQ1⟩
          case rest =>
            obtain ⟨rfl, HQ1⟩ := hcut
            have hq := HQ1.out
            clear HQ1
            go_upto_region 11 with (fail)
            go_cut [130] from 102 to 130 (fun v wx => v = .bool false ∧ Hid (R wx))
            case first =>
              have HQ1 := Lib.hid hq
              cases b <;> cases st
              · skip
                have cB0 := (HRb.out _ hq).cell_at 0 ib.c_age
                have c6 := (HQl.out _ (HRq.out _ hq)).cell_at 6 rfl
                have cx := (HQx.out _ (HRq.out _ hq)).cell_at 0 rfl
                have d0 := h0'
                have d1 := hlt'
                have e4 := HBIT.out.1 rfl
                have e5 := HST.out.1 rfl
                have e6 := hw64
                have e7 := h32
                have e8 := HZ.out
                clear hq
                go_wp2_with fail
                go_meet
                exact ⟨rfl, HQ1⟩
              · skip
                obtain rfl : vb = 0 := by rcases HVB.out with h | ⟨_, h⟩; exact h; cases h
                have cB := (HRb.out _ hq).cell_at _ HCB.out
                have cB0 := (HRb.out _ hq).cell_at 0 ib.c_age
                have c6 := (HQl.out _ (HRq.out _ hq)).cell_at 6 rfl
                have cx := (HQx.out _ (HRq.out _ hq)).cell_at 0 rfl
                have d0 := h0'
                have d1 := hlt'
                have e4 := HBIT.out.1 rfl
                have e5 := HST.out.2 rfl
                have e6 := hw64
                have e7 := h32
                have e8 := HZ.out
                clear hq
                go_wp2_with fail
                go_meet
                exact ⟨rfl, HQ1⟩
              · skip
                obtain rfl : va = 0 := by rcases HVA.out with h | ⟨_, h⟩; exact h; cases h
                have cA := (HRa.out _ hq).cell_at _ HCA.out
                have cB0 := (HRb.out _ hq).cell_at 0 ib.c_age
                have c6 := (HQl.out _ (HRq.out _ hq)).cell_at 6 rfl
                have cx := (HQx.out _ (HRq.out _ hq)).cell_at 0 rfl
                have d0 := h0'
                have d1 := hlt'
                have e4 := HBIT.out.2 rfl
                have e5 := HST.out.1 rfl
                have e6 := hw64
                have e7 := h32
                have e8 := HZ.out
                clear hq
                go_wp2_with fail
                go_meet
                exact ⟨rfl, HQ1⟩
              · skip
                obtain rfl : va = 0 := by rcases HVA.out with h | ⟨_, h⟩; exact h; cases h
                obtain rfl : vb = 0 := by rcases HVB.out with h | ⟨_, h⟩; exact h; cases h
                have cA := (HRa.out _ hq).cell_at _ HCA.out
                have cB := (HRb.out _ hq).cell_at _ HCB.out
                have cB0 := (HRb.out _ hq).cell_at 0 ib.c_age
                have c6 := (HQl.out _ (HRq.out _ hq)).cell_at 6 rfl
                have cx := (HQx.out _ (HRq.out _ hq)).cell_at 0 rfl
                have d0 := h0'
                have d1 := hlt'
                have e4 := HBIT.out.2 rfl
                have e5 := HST.out.2 rfl
                have e6 := hw64
                have e7 := h32
                have e8 := HZ.out
                clear hq
                go_wp2_with fail
                go_meet
                exact ⟨rfl, HQ1⟩
            case rest =>
              obtain ⟨rfl, HQ1⟩ := hcut
              have hq := HQ1.out
              clear HQ1
              go_wp2_with fail
              go_roundw
              case rel => exact ⟨j + 1, HLT.out, by go_num, hq⟩
              case measure => simp [intOf]; have := HLT.out; omega
        · obtain rfl : j = 24 := by omega
          have hq := HRq.out _ hq
          go_wp2_with fail
          refine (KW.out _ hq).mono ?_
          rintro e W2 ⟨rfl, hB⟩
          have HB := Lib.hid (HQb.out _ (HQ.out _ _ hq hB))
          clear hB hq
          go_wp2_with fail
          go_ret
          exact ⟨rfl, HB.out⟩
  · clear hT hL hg
    go_wp2_with fail
    refine (KW.out _ hq).mono ?_
    rintro e W2 ⟨rfl, hB⟩
    have HB := Lib.hid (HQb.out _ (HQ.out _ _ hq hB))
    clear hB hq
    go_wp2_with fail
    go_ret
    exact ⟨rfl, HB.out⟩

end Go.Proofs.YtniihmafbeplaaaDoor
