/- ImageTells: whatever the layout, the image, what the field tells, the number. -/
import Derived.Deep.CutRange
import Derived.Test.YtniihmafbeplaaaDoorQLiU
namespace Go.Proofs.YtniihmafbeplaaaDoor
open Go.RowKit Go.Shelf
set_option linter.unusedVariables false
set_option linter.unusedSimpArgs false

set_option maxRecDepth 100000 in
set_option maxHeartbeats 32000000 in
theorem imageTells_walk (l : Lay) (im : Img) (x : Inn) (n : Int) (w : World) (hT : Tops w) (hL : Lies l w) (hi : im.Wf) (hx : x.Wf) :
    Calls Tryd.prog 3 #[l.val, im.val, x.val, .int .i64 n] w fun e w' => e = .returned (.bool true) ∧ Below w.heap.size w w' := by
  obtain ⟨Q, HQ, HQb, HQl, HQi, HQx, hq⟩ := keep3 (w := w) l.cells im.cells x.cells 29 35 33
  obtain ⟨g, hg⟩ : ∃ g, greatJ l = g := ⟨_, rfl⟩
  have KG : Hid (∀ W, Q W → Calls Tryd.prog 8 #[l.val] W fun e w' => e = .returned (.bool g) ∧ Below W.heap.size W w') := Lib.hid fun W hW => great15_B (Lies.closed l _ _ hL (HQb.out W hW)) hg
  have KW : Hid (∀ W, Q W → Calls Tryd.prog 9 #[] W fun e w' => e = .returned (.bool true) ∧ Below W.heap.size W w') := Lib.hid fun W hW => wakes15_B (hT.below (HQb.out W hW))
  cases g
  · have HQf : Hid (∀ W, Q W → Fld l W) := Lib.hid fun W hW => (fld_of hL hT hg).on (HQb.out W hW)
    clear hT hL hg
    have HEN := Lib.hid (eql_self newI_wf.len)
    obtain ⟨ia, hia⟩ : ∃ y, takeI l im x = y := ⟨_, rfl⟩
    obtain ⟨ib, hib⟩ : ∃ y, passI l im = y := ⟨_, rfl⟩
    have HEA := Lib.hid (eql_self (im := ia) (by rw [← hia]; exact (takeI_wf hi hx).len))
    have HEB := Lib.hid (eql_self (im := ib) (by rw [← hib]; exact (passI_wf hi).len))
    obtain ⟨rr, hrr⟩ : ∃ y, rightI im = y := ⟨_, rfl⟩
    obtain ⟨rs, hrs⟩ : ∃ y, staleI l im = y := ⟨_, rfl⟩
    obtain ⟨ro, hro⟩ : ∃ y, occI l im n = y := ⟨_, rfl⟩
    obtain ⟨ra, hra⟩ : ∃ y, atI l im n = y := ⟨_, rfl⟩
    obtain ⟨rt, hrt⟩ : ∃ y, told15 l im n (cntI l) im.o = y := ⟨_, rfl⟩
    obtain ⟨rl, hrl⟩ : ∃ y, told15 l im n l.sigs.length im.p = y := ⟨_, rfl⟩
    obtain ⟨rm, hrm⟩ : ∃ y, maskI l im = y := ⟨_, rfl⟩
    have KN1 : Hid (∀ W, Q W → Calls Tryd.prog 10 #[] W fun e w' => e = .returned (newI.val) ∧ Below W.heap.size W w') := Lib.hid fun W hW => New_B
    have KN2 : Hid (∀ W, Q W → Calls Tryd.prog 11 #[] W fun e w' => e = .returned (newI.val) ∧ Below W.heap.size W w') := Lib.hid fun W hW => NewR_B
    have KR1 : Hid (∀ W, Q W → Calls Tryd.prog 12 #[im.val] W fun e w' => e = .returned (.bool rr) ∧ Below W.heap.size W w') := Lib.hid fun W hW => RightI_B hi (HQf.out W hW).tops hrr
    have KR2 : Hid (∀ W, Q W → Calls Tryd.prog 13 #[im.val] W fun e w' => e = .returned (.bool rr) ∧ Below W.heap.size W w') := Lib.hid fun W hW => RightR_B hi hrr
    have KT1 : Hid (∀ W, Q W → Calls Tryd.prog 14 #[l.val, im.val, x.val] W fun e w' => e = .returned (ia.val) ∧ Below W.heap.size W w') := Lib.hid fun W hW => by rw [← hia]; exact Take_B hi hx (HQf.out W hW)
    have KT2 : Hid (∀ W, Q W → Calls Tryd.prog 15 #[l.val, im.val, x.val] W fun e w' => e = .returned (ia.val) ∧ Below W.heap.size W w') := Lib.hid fun W hW => by rw [← hia]; exact TakeR_B hi hx (HQf.out W hW)
    have KP1 : Hid (∀ W, Q W → Calls Tryd.prog 16 #[l.val, im.val] W fun e w' => e = .returned (ib.val) ∧ Below W.heap.size W w') := Lib.hid fun W hW => by rw [← hib]; exact Pass_B hi (HQf.out W hW)
    have KP2 : Hid (∀ W, Q W → Calls Tryd.prog 17 #[l.val, im.val] W fun e w' => e = .returned (ib.val) ∧ Below W.heap.size W w') := Lib.hid fun W hW => by rw [← hib]; exact PassR_B hi (HQf.out W hW)
    have KS1 : Hid (∀ W, Q W → Calls Tryd.prog 18 #[l.val, im.val] W fun e w' => e = .returned (.bool rs) ∧ Below W.heap.size W w') := Lib.hid fun W hW => staleI_B hrs (HQf.out W hW)
    have KS2 : Hid (∀ W, Q W → Calls Tryd.prog 19 #[l.val, im.val] W fun e w' => e = .returned (.bool rs) ∧ Below W.heap.size W w') := Lib.hid fun W hW => staleR_B hrs (HQf.out W hW)
    have KO1 : Hid (∀ W, Q W → Calls Tryd.prog 20 #[l.val, im.val, .int .i64 n] W fun e w' => e = .returned (.bool ro) ∧ Below W.heap.size W w') := Lib.hid fun W hW => Occupied_B hi (HQf.out W hW) n hro
    have KO2 : Hid (∀ W, Q W → Calls Tryd.prog 21 #[l.val, im.val, .int .i64 n] W fun e w' => e = .returned (.bool ro) ∧ Below W.heap.size W w') := Lib.hid fun W hW => OccR_B hi (HQf.out W hW) n hro
    have KA1 : Hid (∀ W, Q W → Calls Tryd.prog 22 #[l.val, im.val, .int .i64 n] W fun e w' => e = .returned (.int .i64 ra) ∧ Below W.heap.size W w') := Lib.hid fun W hW => At_B hi (HQf.out W hW) n hra
    have KA2 : Hid (∀ W, Q W → Calls Tryd.prog 23 #[l.val, im.val, .int .i64 n] W fun e w' => e = .returned (.int .i64 ra) ∧ Below W.heap.size W w') := Lib.hid fun W hW => AtR_B hi (HQf.out W hW) n hra
    have KD1 : Hid (∀ W, Q W → Calls Tryd.prog 24 #[l.val, im.val, .int .i64 n] W fun e w' => e = .returned (.bool rt) ∧ Below W.heap.size W w') := Lib.hid fun W hW => Told_B hi (HQf.out W hW) n hrt
    have KD2 : Hid (∀ W, Q W → Calls Tryd.prog 25 #[l.val, im.val, .int .i64 n] W fun e w' => e = .returned (.bool rt) ∧ Below W.heap.size W w') := Lib.hid fun W hW => ToldR_B hi (HQf.out W hW) n hrt
    have KL1 : Hid (∀ W, Q W → Calls Tryd.prog 26 #[l.val, im.val, .int .i64 n] W fun e w' => e = .returned (.bool rl) ∧ Below W.heap.size W w') := Lib.hid fun W hW => Lit_B hi (HQf.out W hW) n hrl
    have KL2 : Hid (∀ W, Q W → Calls Tryd.prog 27 #[l.val, im.val, .int .i64 n] W fun e w' => e = .returned (.bool rl) ∧ Below W.heap.size W w') := Lib.hid fun W hW => LitR_B hi (HQf.out W hW) n hrl
    have KM1 : Hid (∀ W, Q W → Calls Tryd.prog 28 #[l.val, im.val] W fun e w' => e = .returned (.int .u32 (rm : Nat)) ∧ Below W.heap.size W w') := Lib.hid fun W hW => Mask_B hi (HQf.out W hW) hrm
    have KM2 : Hid (∀ W, Q W → Calls Tryd.prog 29 #[l.val, im.val] W fun e w' => e = .returned (.int .u32 (rm : Nat)) ∧ Below W.heap.size W w') := Lib.hid fun W hW => MaskR_B hi (HQf.out W hW) hrm
    clear hia hib hrr hrs hro hra hrt hrl hrm
    go_enter Tryd.func3, Tryd.ntmps3
    go_upto_region 1 with (fail)
    generalize ((w.alloc (.cells #[.slice l.As l.secs.length l.cs, .slice l.Ag l.sigs.length l.cg, .slice l.Ae l.exits.length l.ce, .slice l.Af l.flanks.length l.cf, .int .i64 l.t0, .int .i64 l.t1, .int .i64 l.t2, .int .i64 l.t3, .int .i64 l.t4, .int .i64 l.t5, .int .i64 l.t6] 29)).alloc (.cells im.cells.toArray 35)).alloc (.cells #[.int .u32 x.o, .int .u32 x.n, .int .u32 x.r, .int .u32 x.p] 33) = W1 at *
    have m0 := HQl.out _ hq
    have x0 := m0.cell_at 0 rfl
    have x1 := m0.cell_at 1 rfl
    have x2 := m0.cell_at 2 rfl
    have x3 := m0.cell_at 3 rfl
    have x4 := m0.cell_at 4 rfl
    have x5 := m0.cell_at 5 rfl
    have x6 := m0.cell_at 6 rfl
    have x7 := m0.cell_at 7 rfl
    have x8 := m0.cell_at 8 rfl
    have x9 := m0.cell_at 9 rfl
    have x10 := m0.cell_at 10 rfl
    clear m0
    go_wp2_with fail
    refine (KG.out _ hq).mono ?_
    clear x0 x1 x2 x3 x4 x5 x6 x7 x8 x9 x10
    rintro e W0 ⟨rfl, hB⟩
    have hq := HQ.out _ _ hq hB
    clear hB
    go_upto_region 3 with (fail)
    try simp only [List.append_eq, List.cons_append, List.nil_append]
    have HBS : Hid (∀ W, Below W0.heap.size W0 W → Q W) := Lib.hid (fun W hB => HQ.out _ _ hq hB)
    clear hq
    refine region_mix (Below W0.heap.size W0) [(0, false), (1, false), (2, false), (3, false), (4, false), (5, false), (6, false), (7, false), (8, false), (9, false), (10, false), (11, false), (12, false), (13, false), (14, false), (15, false), (16, false), (17, false), (18, false), (19, false), (20, false), (21, false), (22, false), (23, false), (24, false), (25, false), (26, false), (27, false), (28, false), (29, false), (30, false), (31, false), (32, false), (33, false), (34, false), (35, false), (36, false), (37, false), (38, false), (39, false), (40, false), (41, false), (42, false), (43, false), (44, false), (45, false), (46, false), (47, false), (48, false), (49, false), (50, false), (51, false), (52, false), (53, false), (54, false), (55, false), (56, false), (57, false), (58, false), (59, false), (60, false), (61, false), (62, false), (63, false), (64, false), (65, false), (66, false), (67, false), (68, false), (69, false), (70, false), (71, false), (72, false), (73, false), (74, false), (75, false), (76, false), (77, false), (78, false), (79, false), (80, false), (81, false), (82, false), (83, false), (84, false), (85, false), (86, false), (87, false), (88, false), (89, false), (90, false), (91, false), (92, false), (93, false), (94, false), (95, false)] (by kernel_rfl) (mixB_of tells_sel tells_len tells_lex (by kernel_rfl)) (Below W0.heap.size W0) ⟨Closed.below W0, fun _ h => h⟩ (Below.refl _ _).drew ?_
    simp only [pickOps, List.getElem?_cons_zero, List.getElem?_cons_succ]
    refine mix_call _ _ _ (by rfl) (fun W hW => by (go_simp; first | done | with_reducible rfl)) (fun W hW => KN1.out _ (HBS.out W hW)) ?_
    simp only [Act.put, List.setIfInBounds_toArray, List.set_cons_zero, List.set_cons_succ]
    refine mix_call _ _ _ (by rfl) (fun W hW => by (go_simp; first | done | with_reducible rfl)) (fun W hW => KN2.out _ (HBS.out W hW)) ?_
    simp only [Act.put, List.setIfInBounds_toArray, List.set_cons_zero, List.set_cons_succ]
    refine mix_read _ (by rfl) (fun W hW => by (have hW := HBS.out W hW; have hE := HEN.out; go_simp; first | done | with_reducible rfl)) ?_
    simp only [Act.put, List.setIfInBounds_toArray, List.set_cons_zero, List.set_cons_succ]
    refine mix_read _ (by rfl) (fun W hW => by (go_simp; first | done | with_reducible rfl)) ?_
    simp only [Act.put, List.setIfInBounds_toArray, List.set_cons_zero, List.set_cons_succ]
    refine mix_read _ (by rfl) (fun W hW => exec_img hi.len (by rfl) (by rfl) (HQi.out _ (HBS.out W hW))) ?_
    simp only [Act.put, List.setIfInBounds_toArray, List.set_cons_zero, List.set_cons_succ]
    refine mix_call _ _ _ (by rfl) (fun W hW => by (go_simp; first | done | with_reducible rfl)) (fun W hW => KR1.out _ (HBS.out W hW)) ?_
    simp only [Act.put, List.setIfInBounds_toArray, List.set_cons_zero, List.set_cons_succ]
    refine mix_read _ (by rfl) (fun W hW => exec_img hi.len (by rfl) (by rfl) (HQi.out _ (HBS.out W hW))) ?_
    simp only [Act.put, List.setIfInBounds_toArray, List.set_cons_zero, List.set_cons_succ]
    refine mix_call _ _ _ (by rfl) (fun W hW => by (go_simp; first | done | with_reducible rfl)) (fun W hW => KR2.out _ (HBS.out W hW)) ?_
    simp only [Act.put, List.setIfInBounds_toArray, List.set_cons_zero, List.set_cons_succ]
    refine mix_read _ (by rfl) (fun W hW => by (go_simp; first | done | with_reducible rfl)) ?_
    simp only [Act.put, List.setIfInBounds_toArray, List.set_cons_zero, List.set_cons_succ]
    refine mix_read _ (by rfl) (fun W hW => by (go_simp; first | done | with_reducible rfl)) ?_
    simp only [Act.put, List.setIfInBounds_toArray, List.set_cons_zero, List.set_cons_succ]
    refine mix_read _ (by rfl) (fun W hW => by (go_simp; first | done | with_reducible rfl)) ?_
    simp only [Act.put, List.setIfInBounds_toArray, List.set_cons_zero, List.set_cons_succ]
    refine mix_read _ (by rfl) (fun W hW => exec_lay (by rfl) (by rfl) (HQl.out _ (HBS.out W hW))) ?_
    simp only [Act.put, List.setIfInBounds_toArray, List.set_cons_zero, List.set_cons_succ]
    refine mix_read _ (by rfl) (fun W hW => exec_img hi.len (by rfl) (by rfl) (HQi.out _ (HBS.out W hW))) ?_
    simp only [Act.put, List.setIfInBounds_toArray, List.set_cons_zero, List.set_cons_succ]
    refine mix_read _ (by rfl) (fun W hW => exec_inn (by rfl) (by rfl) (HQx.out _ (HBS.out W hW))) ?_
    simp only [Act.put, List.setIfInBounds_toArray, List.set_cons_zero, List.set_cons_succ]
    refine mix_call _ _ _ (by rfl) (fun W hW => by (go_simp; first | done | with_reducible rfl)) (fun W hW => KT1.out _ (HBS.out W hW)) ?_
    simp only [Act.put, List.setIfInBounds_toArray, List.set_cons_zero, List.set_cons_succ]
    refine mix_read _ (by rfl) (fun W hW => exec_lay (by rfl) (by rfl) (HQl.out _ (HBS.out W hW))) ?_
    simp only [Act.put, List.setIfInBounds_toArray, List.set_cons_zero, List.set_cons_succ]
    refine mix_read _ (by rfl) (fun W hW => exec_img hi.len (by rfl) (by rfl) (HQi.out _ (HBS.out W hW))) ?_
    simp only [Act.put, List.setIfInBounds_toArray, List.set_cons_zero, List.set_cons_succ]
    refine mix_read _ (by rfl) (fun W hW => exec_inn (by rfl) (by rfl) (HQx.out _ (HBS.out W hW))) ?_
    simp only [Act.put, List.setIfInBounds_toArray, List.set_cons_zero, List.set_cons_succ]
    refine mix_call _ _ _ (by rfl) (fun W hW => by (go_simp; first | done | with_reducible rfl)) (fun W hW => KT2.out _ (HBS.out W hW)) ?_
    simp only [Act.put, List.setIfInBounds_toArray, List.set_cons_zero, List.set_cons_succ]
    refine mix_read _ (by rfl) (fun W hW => by (have hW := HBS.out W hW; have hE := HEA.out; go_simp; first | done | with_reducible rfl)) ?_
    simp only [Act.put, List.setIfInBounds_toArray, List.set_cons_zero, List.set_cons_succ]
    refine mix_read _ (by rfl) (fun W hW => by (go_simp; first | done | with_reducible rfl)) ?_
    simp only [Act.put, List.setIfInBounds_toArray, List.set_cons_zero, List.set_cons_succ]
    refine mix_read _ (by rfl) (fun W hW => by (go_simp; first | done | with_reducible rfl)) ?_
    simp only [Act.put, List.setIfInBounds_toArray, List.set_cons_zero, List.set_cons_succ]
    refine mix_read _ (by rfl) (fun W hW => exec_lay (by rfl) (by rfl) (HQl.out _ (HBS.out W hW))) ?_
    simp only [Act.put, List.setIfInBounds_toArray, List.set_cons_zero, List.set_cons_succ]
    refine mix_read _ (by rfl) (fun W hW => exec_img hi.len (by rfl) (by rfl) (HQi.out _ (HBS.out W hW))) ?_
    simp only [Act.put, List.setIfInBounds_toArray, List.set_cons_zero, List.set_cons_succ]
    refine mix_call _ _ _ (by rfl) (fun W hW => by (go_simp; first | done | with_reducible rfl)) (fun W hW => KP1.out _ (HBS.out W hW)) ?_
    simp only [Act.put, List.setIfInBounds_toArray, List.set_cons_zero, List.set_cons_succ]
    refine mix_read _ (by rfl) (fun W hW => exec_lay (by rfl) (by rfl) (HQl.out _ (HBS.out W hW))) ?_
    simp only [Act.put, List.setIfInBounds_toArray, List.set_cons_zero, List.set_cons_succ]
    refine mix_read _ (by rfl) (fun W hW => exec_img hi.len (by rfl) (by rfl) (HQi.out _ (HBS.out W hW))) ?_
    simp only [Act.put, List.setIfInBounds_toArray, List.set_cons_zero, List.set_cons_succ]
    refine mix_call _ _ _ (by rfl) (fun W hW => by (go_simp; first | done | with_reducible rfl)) (fun W hW => KP2.out _ (HBS.out W hW)) ?_
    simp only [Act.put, List.setIfInBounds_toArray, List.set_cons_zero, List.set_cons_succ]
    refine mix_read _ (by rfl) (fun W hW => by (have hW := HBS.out W hW; have hE := HEB.out; go_simp; first | done | with_reducible rfl)) ?_
    simp only [Act.put, List.setIfInBounds_toArray, List.set_cons_zero, List.set_cons_succ]
    refine mix_read _ (by rfl) (fun W hW => by (go_simp; first | done | with_reducible rfl)) ?_
    simp only [Act.put, List.setIfInBounds_toArray, List.set_cons_zero, List.set_cons_succ]
    refine mix_read _ (by rfl) (fun W hW => by (go_simp; first | done | with_reducible rfl)) ?_
    simp only [Act.put, List.setIfInBounds_toArray, List.set_cons_zero, List.set_cons_succ]
    refine mix_read _ (by rfl) (fun W hW => exec_lay (by rfl) (by rfl) (HQl.out _ (HBS.out W hW))) ?_
    simp only [Act.put, List.setIfInBounds_toArray, List.set_cons_zero, List.set_cons_succ]
    refine mix_read _ (by rfl) (fun W hW => exec_img hi.len (by rfl) (by rfl) (HQi.out _ (HBS.out W hW))) ?_
    simp only [Act.put, List.setIfInBounds_toArray, List.set_cons_zero, List.set_cons_succ]
    refine mix_call _ _ _ (by rfl) (fun W hW => by (go_simp; first | done | with_reducible rfl)) (fun W hW => KS1.out _ (HBS.out W hW)) ?_
    simp only [Act.put, List.setIfInBounds_toArray, List.set_cons_zero, List.set_cons_succ]
    refine mix_read _ (by rfl) (fun W hW => exec_lay (by rfl) (by rfl) (HQl.out _ (HBS.out W hW))) ?_
    simp only [Act.put, List.setIfInBounds_toArray, List.set_cons_zero, List.set_cons_succ]
    refine mix_read _ (by rfl) (fun W hW => exec_img hi.len (by rfl) (by rfl) (HQi.out _ (HBS.out W hW))) ?_
    simp only [Act.put, List.setIfInBounds_toArray, List.set_cons_zero, List.set_cons_succ]
    refine mix_call _ _ _ (by rfl) (fun W hW => by (go_simp; first | done | with_reducible rfl)) (fun W hW => KS2.out _ (HBS.out W hW)) ?_
    simp only [Act.put, List.setIfInBounds_toArray, List.set_cons_zero, List.set_cons_succ]
    refine mix_read _ (by rfl) (fun W hW => by (go_simp; first | done | with_reducible rfl)) ?_
    simp only [Act.put, List.setIfInBounds_toArray, List.set_cons_zero, List.set_cons_succ]
    refine mix_read _ (by rfl) (fun W hW => by (go_simp; first | done | with_reducible rfl)) ?_
    simp only [Act.put, List.setIfInBounds_toArray, List.set_cons_zero, List.set_cons_succ]
    refine mix_read _ (by rfl) (fun W hW => by (go_simp; first | done | with_reducible rfl)) ?_
    simp only [Act.put, List.setIfInBounds_toArray, List.set_cons_zero, List.set_cons_succ]
    refine mix_read _ (by rfl) (fun W hW => exec_lay (by rfl) (by rfl) (HQl.out _ (HBS.out W hW))) ?_
    simp only [Act.put, List.setIfInBounds_toArray, List.set_cons_zero, List.set_cons_succ]
    refine mix_read _ (by rfl) (fun W hW => exec_img hi.len (by rfl) (by rfl) (HQi.out _ (HBS.out W hW))) ?_
    simp only [Act.put, List.setIfInBounds_toArray, List.set_cons_zero, List.set_cons_succ]
    refine mix_read _ (by rfl) (fun W hW => by (go_simp; first | done | with_reducible rfl)) ?_
    simp only [Act.put, List.setIfInBounds_toArray, List.set_cons_zero, List.set_cons_succ]
    refine mix_call _ _ _ (by rfl) (fun W hW => by (go_simp; first | done | with_reducible rfl)) (fun W hW => KO1.out _ (HBS.out W hW)) ?_
    simp only [Act.put, List.setIfInBounds_toArray, List.set_cons_zero, List.set_cons_succ]
    refine mix_read _ (by rfl) (fun W hW => exec_lay (by rfl) (by rfl) (HQl.out _ (HBS.out W hW))) ?_
    simp only [Act.put, List.setIfInBounds_toArray, List.set_cons_zero, List.set_cons_succ]
    refine mix_read _ (by rfl) (fun W hW => exec_img hi.len (by rfl) (by rfl) (HQi.out _ (HBS.out W hW))) ?_
    simp only [Act.put, List.setIfInBounds_toArray, List.set_cons_zero, List.set_cons_succ]
    refine mix_read _ (by rfl) (fun W hW => by (go_simp; first | done | with_reducible rfl)) ?_
    simp only [Act.put, List.setIfInBounds_toArray, List.set_cons_zero, List.set_cons_succ]
    refine mix_call _ _ _ (by rfl) (fun W hW => by (go_simp; first | done | with_reducible rfl)) (fun W hW => KO2.out _ (HBS.out W hW)) ?_
    simp only [Act.put, List.setIfInBounds_toArray, List.set_cons_zero, List.set_cons_succ]
    refine mix_read _ (by rfl) (fun W hW => by (go_simp; first | done | with_reducible rfl)) ?_
    simp only [Act.put, List.setIfInBounds_toArray, List.set_cons_zero, List.set_cons_succ]
    refine mix_read _ (by rfl) (fun W hW => by (go_simp; first | done | with_reducible rfl)) ?_
    simp only [Act.put, List.setIfInBounds_toArray, List.set_cons_zero, List.set_cons_succ]
    refine mix_read _ (by rfl) (fun W hW => by (go_simp; first | done | with_reducible rfl)) ?_
    simp only [Act.put, List.setIfInBounds_toArray, List.set_cons_zero, List.set_cons_succ]
    refine mix_read _ (by rfl) (fun W hW => exec_lay (by rfl) (by rfl) (HQl.out _ (HBS.out W hW))) ?_
    simp only [Act.put, List.setIfInBounds_toArray, List.set_cons_zero, List.set_cons_succ]
    refine mix_read _ (by rfl) (fun W hW => exec_img hi.len (by rfl) (by rfl) (HQi.out _ (HBS.out W hW))) ?_
    simp only [Act.put, List.setIfInBounds_toArray, List.set_cons_zero, List.set_cons_succ]
    refine mix_read _ (by rfl) (fun W hW => by (go_simp; first | done | with_reducible rfl)) ?_
    simp only [Act.put, List.setIfInBounds_toArray, List.set_cons_zero, List.set_cons_succ]
    refine mix_call _ _ _ (by rfl) (fun W hW => by (go_simp; first | done | with_reducible rfl)) (fun W hW => KA1.out _ (HBS.out W hW)) ?_
    simp only [Act.put, List.setIfInBounds_toArray, List.set_cons_zero, List.set_cons_succ]
    refine mix_read _ (by rfl) (fun W hW => exec_lay (by rfl) (by rfl) (HQl.out _ (HBS.out W hW))) ?_
    simp only [Act.put, List.setIfInBounds_toArray, List.set_cons_zero, List.set_cons_succ]
    refine mix_read _ (by rfl) (fun W hW => exec_img hi.len (by rfl) (by rfl) (HQi.out _ (HBS.out W hW))) ?_
    simp only [Act.put, List.setIfInBounds_toArray, List.set_cons_zero, List.set_cons_succ]
    refine mix_read _ (by rfl) (fun W hW => by (go_simp; first | done | with_reducible rfl)) ?_
    simp only [Act.put, List.setIfInBounds_toArray, List.set_cons_zero, List.set_cons_succ]
    refine mix_call _ _ _ (by rfl) (fun W hW => by (go_simp; first | done | with_reducible rfl)) (fun W hW => KA2.out _ (HBS.out W hW)) ?_
    simp only [Act.put, List.setIfInBounds_toArray, List.set_cons_zero, List.set_cons_succ]
    refine mix_read _ (by rfl) (fun W hW => by (go_simp; first | done | with_reducible rfl)) ?_
    simp only [Act.put, List.setIfInBounds_toArray, List.set_cons_zero, List.set_cons_succ]
    refine mix_read _ (by rfl) (fun W hW => by (go_simp; first | done | with_reducible rfl)) ?_
    simp only [Act.put, List.setIfInBounds_toArray, List.set_cons_zero, List.set_cons_succ]
    refine mix_read _ (by rfl) (fun W hW => by (go_simp; first | done | with_reducible rfl)) ?_
    simp only [Act.put, List.setIfInBounds_toArray, List.set_cons_zero, List.set_cons_succ]
    refine mix_read _ (by rfl) (fun W hW => exec_lay (by rfl) (by rfl) (HQl.out _ (HBS.out W hW))) ?_
    simp only [Act.put, List.setIfInBounds_toArray, List.set_cons_zero, List.set_cons_succ]
    refine mix_read _ (by rfl) (fun W hW => exec_img hi.len (by rfl) (by rfl) (HQi.out _ (HBS.out W hW))) ?_
    simp only [Act.put, List.setIfInBounds_toArray, List.set_cons_zero, List.set_cons_succ]
    refine mix_read _ (by rfl) (fun W hW => by (go_simp; first | done | with_reducible rfl)) ?_
    simp only [Act.put, List.setIfInBounds_toArray, List.set_cons_zero, List.set_cons_succ]
    refine mix_call _ _ _ (by rfl) (fun W hW => by (go_simp; first | done | with_reducible rfl)) (fun W hW => KD1.out _ (HBS.out W hW)) ?_
    simp only [Act.put, List.setIfInBounds_toArray, List.set_cons_zero, List.set_cons_succ]
    refine mix_read _ (by rfl) (fun W hW => exec_lay (by rfl) (by rfl) (HQl.out _ (HBS.out W hW))) ?_
    simp only [Act.put, List.setIfInBounds_toArray, List.set_cons_zero, List.set_cons_succ]
    refine mix_read _ (by rfl) (fun W hW => exec_img hi.len (by rfl) (by rfl) (HQi.out _ (HBS.out W hW))) ?_
    simp only [Act.put, List.setIfInBounds_toArray, List.set_cons_zero, List.set_cons_succ]
    refine mix_read _ (by rfl) (fun W hW => by (go_simp; first | done | with_reducible rfl)) ?_
    simp only [Act.put, List.setIfInBounds_toArray, List.set_cons_zero, List.set_cons_succ]
    refine mix_call _ _ _ (by rfl) (fun W hW => by (go_simp; first | done | with_reducible rfl)) (fun W hW => KD2.out _ (HBS.out W hW)) ?_
    simp only [Act.put, List.setIfInBounds_toArray, List.set_cons_zero, List.set_cons_succ]
    refine mix_read _ (by rfl) (fun W hW => by (go_simp; first | done | with_reducible rfl)) ?_
    simp only [Act.put, List.setIfInBounds_toArray, List.set_cons_zero, List.set_cons_succ]
    refine mix_read _ (by rfl) (fun W hW => by (go_simp; first | done | with_reducible rfl)) ?_
    simp only [Act.put, List.setIfInBounds_toArray, List.set_cons_zero, List.set_cons_succ]
    refine mix_read _ (by rfl) (fun W hW => by (go_simp; first | done | with_reducible rfl)) ?_
    simp only [Act.put, List.setIfInBounds_toArray, List.set_cons_zero, List.set_cons_succ]
    refine mix_read _ (by rfl) (fun W hW => exec_lay (by rfl) (by rfl) (HQl.out _ (HBS.out W hW))) ?_
    simp only [Act.put, List.setIfInBounds_toArray, List.set_cons_zero, List.set_cons_succ]
    refine mix_read _ (by rfl) (fun W hW => exec_img hi.len (by rfl) (by rfl) (HQi.out _ (HBS.out W hW))) ?_
    simp only [Act.put, List.setIfInBounds_toArray, List.set_cons_zero, List.set_cons_succ]
    refine mix_read _ (by rfl) (fun W hW => by (go_simp; first | done | with_reducible rfl)) ?_
    simp only [Act.put, List.setIfInBounds_toArray, List.set_cons_zero, List.set_cons_succ]
    refine mix_call _ _ _ (by rfl) (fun W hW => by (go_simp; first | done | with_reducible rfl)) (fun W hW => KL1.out _ (HBS.out W hW)) ?_
    simp only [Act.put, List.setIfInBounds_toArray, List.set_cons_zero, List.set_cons_succ]
    refine mix_read _ (by rfl) (fun W hW => exec_lay (by rfl) (by rfl) (HQl.out _ (HBS.out W hW))) ?_
    simp only [Act.put, List.setIfInBounds_toArray, List.set_cons_zero, List.set_cons_succ]
    refine mix_read _ (by rfl) (fun W hW => exec_img hi.len (by rfl) (by rfl) (HQi.out _ (HBS.out W hW))) ?_
    simp only [Act.put, List.setIfInBounds_toArray, List.set_cons_zero, List.set_cons_succ]
    refine mix_read _ (by rfl) (fun W hW => by (go_simp; first | done | with_reducible rfl)) ?_
    simp only [Act.put, List.setIfInBounds_toArray, List.set_cons_zero, List.set_cons_succ]
    refine mix_call _ _ _ (by rfl) (fun W hW => by (go_simp; first | done | with_reducible rfl)) (fun W hW => KL2.out _ (HBS.out W hW)) ?_
    simp only [Act.put, List.setIfInBounds_toArray, List.set_cons_zero, List.set_cons_succ]
    refine mix_read _ (by rfl) (fun W hW => by (go_simp; first | done | with_reducible rfl)) ?_
    simp only [Act.put, List.setIfInBounds_toArray, List.set_cons_zero, List.set_cons_succ]
    refine mix_read _ (by rfl) (fun W hW => by (go_simp; first | done | with_reducible rfl)) ?_
    simp only [Act.put, List.setIfInBounds_toArray, List.set_cons_zero, List.set_cons_succ]
    refine mix_read _ (by rfl) (fun W hW => by (go_simp; first | done | with_reducible rfl)) ?_
    simp only [Act.put, List.setIfInBounds_toArray, List.set_cons_zero, List.set_cons_succ]
    refine mix_read _ (by rfl) (fun W hW => exec_lay (by rfl) (by rfl) (HQl.out _ (HBS.out W hW))) ?_
    simp only [Act.put, List.setIfInBounds_toArray, List.set_cons_zero, List.set_cons_succ]
    refine mix_read _ (by rfl) (fun W hW => exec_img hi.len (by rfl) (by rfl) (HQi.out _ (HBS.out W hW))) ?_
    simp only [Act.put, List.setIfInBounds_toArray, List.set_cons_zero, List.set_cons_succ]
    refine mix_call _ _ _ (by rfl) (fun W hW => by (go_simp; first | done | with_reducible rfl)) (fun W hW => KM1.out _ (HBS.out W hW)) ?_
    simp only [Act.put, List.setIfInBounds_toArray, List.set_cons_zero, List.set_cons_succ]
    refine mix_read _ (by rfl) (fun W hW => exec_lay (by rfl) (by rfl) (HQl.out _ (HBS.out W hW))) ?_
    simp only [Act.put, List.setIfInBounds_toArray, List.set_cons_zero, List.set_cons_succ]
    refine mix_read _ (by rfl) (fun W hW => exec_img hi.len (by rfl) (by rfl) (HQi.out _ (HBS.out W hW))) ?_
    simp only [Act.put, List.setIfInBounds_toArray, List.set_cons_zero, List.set_cons_succ]
    refine mix_call _ _ _ (by rfl) (fun W hW => by (go_simp; first | done | with_reducible rfl)) (fun W hW => KM2.out _ (HBS.out W hW)) ?_
    simp only [Act.put, List.setIfInBounds_toArray, List.set_cons_zero, List.set_cons_succ]
    refine mix_read _ (by rfl) (fun W hW => by (go_simp; first | done | with_reducible rfl)) ?_
    simp only [Act.put, List.setIfInBounds_toArray, List.set_cons_zero, List.set_cons_succ]
    refine mix_read _ (by rfl) (fun W hW => by (go_simp; first | done | with_reducible rfl)) ?_
    simp only [Act.put, List.setIfInBounds_toArray, List.set_cons_zero, List.set_cons_succ]
    refine mix_read _ (by rfl) (fun W hW => by (go_simp; first | done | with_reducible rfl)) ?_
    simp only [Act.put, List.setIfInBounds_toArray, List.set_cons_zero, List.set_cons_succ]
    refine mix_call _ _ _ (by rfl) (fun W hW => by (go_simp; first | done | with_reducible rfl)) (fun W hW => KW.out _ (HBS.out W hW)) ?_
    simp only [Act.put, List.setIfInBounds_toArray, List.set_cons_zero, List.set_cons_succ]
    refine mix_read _ (by rfl) (fun W hW => by (go_simp; first | done | with_reducible rfl)) ?_
    simp only [Act.put, List.setIfInBounds_toArray, List.set_cons_zero, List.set_cons_succ]
    refine mix_read _ (by rfl) (fun W hW => by (go_simp; first | done | with_reducible rfl)) ?_
    simp only [Act.put, List.setIfInBounds_toArray, List.set_cons_zero, List.set_cons_succ]
    refine mix_nil (fun W hW => ?_)
    have HB := Lib.hid (HQb.out _ (HBS.out W hW))
    clear hW HBS
    go_wp2_with fail
    go_ret
    exact ⟨rfl, HB.out⟩
  · clear hT hL hg
    have m0 := HQl.out _ hq
    have x0 := m0.cell_at 0 rfl
    have x1 := m0.cell_at 1 rfl
    have x2 := m0.cell_at 2 rfl
    have x3 := m0.cell_at 3 rfl
    have x4 := m0.cell_at 4 rfl
    have x5 := m0.cell_at 5 rfl
    have x6 := m0.cell_at 6 rfl
    have x7 := m0.cell_at 7 rfl
    have x8 := m0.cell_at 8 rfl
    have x9 := m0.cell_at 9 rfl
    have x10 := m0.cell_at 10 rfl
    clear m0
    go_enter Tryd.func3, Tryd.ntmps3
    go_wp2_with fail
    refine (KG.out _ hq).mono ?_
    clear x0 x1 x2 x3 x4 x5 x6 x7 x8 x9 x10
    rintro e W0 ⟨rfl, hB⟩
    have hq := HQ.out _ _ hq hB
    clear hB
    go_wp2_with fail
    refine (KW.out _ hq).mono ?_
    rintro e W2 ⟨rfl, hB⟩
    have HB := Lib.hid (HQb.out _ (HQ.out _ _ hq hB))
    clear hB hq
    go_wp2_with fail
    go_ret
    exact ⟨rfl, HB.out⟩

end Go.Proofs.YtniihmafbeplaaaDoor
