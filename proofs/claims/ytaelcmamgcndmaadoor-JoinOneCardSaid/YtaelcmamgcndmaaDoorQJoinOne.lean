/- The walk of JoinOne: one join turned elsewhere. -/
import Derived.Test.YtaelcmamgcndmaaDoorQJoinOneA
namespace Go.Proofs.YtaelcmamgcndmaaDoor
open Go.RowKit Go.Shelf
set_option linter.unusedVariables false
set_option linter.unusedSimpArgs false

theorem owns_setP {W : World} {base gs c : Nat} {secs : List Sec} (h : W.ownsRow base 48 11 (.slice (some ⟨gs, 0, none⟩) secs.length c) secs.length (secs.flatMap Sec.cells)) {j k : Nat} {x : Sec} (hx : secs[j]? = some x) (hk : k < 4) (a b : Int) :
    (W.setCells gs (0 + j * 11 + 1 + k * 2) [.int .i64 a, .int .i64 b]).ownsRow base 48 11 (.slice (some ⟨gs, 0, none⟩) secs.length c) secs.length ((secs.set j (setP x k (a, b))).flatMap Sec.cells) := by
  have hjl := (List.getElem?_eq_some_iff.1 hx).1
  have h1 := owns_setIn (k := 1 + k * 2) (y := setS x k a) Sec.len h hx (setS_cells x hk a) (by omega)
  have h2 := owns_setIn (k := 1 + k * 2 + 1) (x := setS x k a) (y := setP x k (a, b)) Sec.len h1 (by rw [List.getElem?_set, if_pos rfl, if_pos hjl]) (setQ_cells _ hk b) (by omega)
  rw [List.set_set] at h2
  simp only [List.length_set] at h2
  show ((W.setCell ⟨gs, 0 + j * 11 + 1 + k * 2, none⟩ _).setCell ⟨gs, 0 + j * 11 + 1 + k * 2 + 1, none⟩ _).ownsRow _ _ _ _ _ _
  rw [show 0 + j * 11 + 1 + k * 2 = j * 11 + (1 + k * 2) by omega, show j * 11 + (1 + k * 2) + 1 = j * 11 + (1 + k * 2 + 1) by omega]
  exact h2
set_option maxRecDepth 100000 in
set_option maxHeartbeats 8000000 in
theorem joinOne_walk (l : Lay) (s p a b : Int) (w : World) (hT : Shapes w) (hL : Lies l w) :
    Calls Tryd.prog 7 #[l.val, prtV s p, prtV a b] w fun e w' => e = .returned (.bool true) ∧ Below w.heap.size w w' := by
  obtain ⟨P, HP, HPT, HPL, HPB, hp⟩ := keep_lay hT hL
  obtain ⟨Q, HQ, HQp, HQl, HQv, HQr, _, hq⟩ := keep_box3 HP.out hp 29 31 31 l.cells (prtCells (s, p)) (prtCells (a, b))
  have HQT : Hid (∀ W, Q W → Shapes W) := Lib.hid fun W h => HPT.out _ (HQp.out _ h)
  have HQL : Hid (∀ W, Q W → Lies l W) := Lib.hid fun W h => HPL.out _ (HQp.out _ h)
  have HQB : Hid (∀ W, Q W → Below w.heap.size w W) := Lib.hid fun W h => HPB.out _ (HQp.out _ h)
  obtain ⟨g0, hg⟩ : ∃ g, greatJ l = g := ⟨_, rfl⟩
  obtain ⟨jd, hjd⟩ : ∃ jd, joinedL l = jd := ⟨_, rfl⟩
  obtain ⟨tr, htr⟩ : ∃ tr, thereV l s p = tr := ⟨_, rfl⟩
  have KG := Lib.hid (fun W hW => greatJ_P (P := Q) (w := W) HQ.out HQL.out hg hW)
  have KW := Lib.hid (fun W hW => wakesJ_P (P := Q) (w := W) HQ.out HQT.out hW)
  have KJ := Lib.hid (fun W hW => keepR HQ.out (joinedL_any (w := W) (HQT.out W hW) (HQL.out W hW) hjd) hW)
  have KH := Lib.hid (fun W hW => has_P (P := Q) (w := W) HQ.out HQT.out HQL.out s p htr hW)
  clear hT hL hp
  go_enter Tryd.func7, Tryd.ntmps7
  have m0 := HQl.out _ hq
  have x0 := m0.cell_at 0 rfl
  have x1 := m0.cell_at 1 rfl
  have x2 := m0.cell_at 2 rfl
  have x3 := m0.cell_at 3 rfl
  have x4 := m0.cell_at 4 rfl
  have x5 := m0.cell_at 5 rfl
  have x6 := m0.cell_at 6 rfl
  have x7 := m0.cell_at 7 rfl
  have x8 := m0.cell_at 8 rfl
  have x9 := m0.cell_at 9 rfl
  have x10 := m0.cell_at 10 rfl
  clear m0
  have m1 := HQv.out _ hq
  have v0 := m1.cell_at 0 rfl
  have v1 := m1.cell_at 1 rfl
  clear m1
  have m2 := HQr.out _ hq
  have r0 := m2.cell_at 0 rfl
  have r1 := m2.cell_at 1 rfl
  clear m2
  go_wp2_with fail
  refine (KG.out _ hq).mono ?_
  clear x0 x1 x2 x3 x4 x5 x6 x7 x8 x9 x10 v0 v1 r0 r1 hq KG
  rintro e w1 ⟨rfl, hq⟩
  cases g0
  rotate_left
  · go_wp2_with fail
    refine (KW.out _ hq).mono ?_
    clear hq
    rintro e w9 ⟨rfl, hq⟩
    go_wp2_with fail
    go_ret
    exact ⟨rfl, HQB.out _ hq⟩
  have m0 := HQl.out _ hq
  have x0 := m0.cell_at 0 rfl
  have x1 := m0.cell_at 1 rfl
  have x2 := m0.cell_at 2 rfl
  have x3 := m0.cell_at 3 rfl
  have x4 := m0.cell_at 4 rfl
  have x5 := m0.cell_at 5 rfl
  have x6 := m0.cell_at 6 rfl
  have x7 := m0.cell_at 7 rfl
  have x8 := m0.cell_at 8 rfl
  have x9 := m0.cell_at 9 rfl
  have x10 := m0.cell_at 10 rfl
  clear m0
  have m1 := HQv.out _ hq
  have v0 := m1.cell_at 0 rfl
  have v1 := m1.cell_at 1 rfl
  clear m1
  have m2 := HQr.out _ hq
  have r0 := m2.cell_at 0 rfl
  have r1 := m2.cell_at 1 rfl
  clear m2
  go_wp2_with fail
  refine (KJ.out _ hq).mono ?_
  clear x0 x1 x2 x3 x4 x5 x6 x7 x8 x9 x10 v0 v1 r0 r1 hq KJ
  rintro e w2 ⟨rfl, hq⟩
  cases jd
  · go_wp2_with fail
    refine (KW.out _ hq).mono ?_
    clear hq
    rintro e w9 ⟨rfl, hq⟩
    go_wp2_with fail
    go_ret
    exact ⟨rfl, HQB.out _ hq⟩
  have m0 := HQl.out _ hq
  have x0 := m0.cell_at 0 rfl
  have x1 := m0.cell_at 1 rfl
  have x2 := m0.cell_at 2 rfl
  have x3 := m0.cell_at 3 rfl
  have x4 := m0.cell_at 4 rfl
  have x5 := m0.cell_at 5 rfl
  have x6 := m0.cell_at 6 rfl
  have x7 := m0.cell_at 7 rfl
  have x8 := m0.cell_at 8 rfl
  have x9 := m0.cell_at 9 rfl
  have x10 := m0.cell_at 10 rfl
  clear m0
  have m1 := HQv.out _ hq
  have v0 := m1.cell_at 0 rfl
  have v1 := m1.cell_at 1 rfl
  clear m1
  have m2 := HQr.out _ hq
  have r0 := m2.cell_at 0 rfl
  have r1 := m2.cell_at 1 rfl
  clear m2
  go_wp2_with fail
  refine (KH.out _ hq).mono ?_
  clear x0 x1 x2 x3 x4 x5 x6 x7 x8 x9 x10 v0 v1 r0 r1 hq KH
  rintro e w3 ⟨rfl, hq⟩
  cases tr
  · go_wp2_with fail
    refine (KW.out _ hq).mono ?_
    clear hq
    rintro e w9 ⟨rfl, hq⟩
    go_wp2_with fail
    go_ret
    exact ⟨rfl, HQB.out _ hq⟩
  have hlen : l.secs.length ≤ 30 := (greatJ_no hg).1
  obtain ⟨j, rfl, hx⟩ := atV_yes htr
  obtain ⟨x, hxx⟩ : ∃ x, atV l j p = x := ⟨_, rfl⟩
  rw [hxx] at hx
  obtain ⟨k, rfl⟩ : ∃ k : Nat, p = k := by
    unfold thereV at htr
    rw [withinA_iff] at htr
    exact ⟨p.toNat, by omega⟩
  have hk : k < (pK x.k).toNat := by rw [there_at, kindV_at hx] at htr; exact of_decide_eq_true htr
  have hk4 : k < 4 := by have := pK_le4 x.k; omega
  obtain ⟨was, hw⟩ : ∃ was, x.ports4[k]? = some was := ⟨_, List.getElem?_eq_getElem (by show k < 4; exact hk4)⟩
  obtain ⟨ws, wq⟩ := was
  have hjl := (List.getElem?_eq_some_iff.1 hx).1
  have HONE : Hid (∀ m : Lay, m.secs = l.secs.set j (setP x k (a, b)) → joinedL m = decide ((a, b) = (ws, wq))) := Lib.hid fun m hm => one_joined hjd hx hk hw hm
  have hs0 : ¬ ((j : Int) < 0) := by omega
  have hs1 : ¬ ((l.secs.length : Int) ≤ j) := by omega
  have hs2 : (j : Int) < l.secs.length := by omega
  have hk0 : ¬ ((k : Int) < 0) := by omega
  have hk1 : ¬ ((3 : Int) < k) := by omega
  have hk2 : (k : Int) < 4 := by omega
  clear hg hjd htr hxx hk
  have m0 := HQl.out _ hq
  have x0 := m0.cell_at 0 rfl
  have x1 := m0.cell_at 1 rfl
  have x2 := m0.cell_at 2 rfl
  have x3 := m0.cell_at 3 rfl
  have x4 := m0.cell_at 4 rfl
  have x5 := m0.cell_at 5 rfl
  have x6 := m0.cell_at 6 rfl
  have x7 := m0.cell_at 7 rfl
  have x8 := m0.cell_at 8 rfl
  have x9 := m0.cell_at 9 rfl
  have x10 := m0.cell_at 10 rfl
  clear m0
  have m1 := HQv.out _ hq
  have v0 := m1.cell_at 0 rfl
  have v1 := m1.cell_at 1 rfl
  clear m1
  have m2 := HQr.out _ hq
  have r0 := m2.cell_at 0 rfl
  have r1 := m2.cell_at 1 rfl
  clear m2
  go_upto_region 4 with (fail)
  clear x0 x1 x2 x3 x4 x5 x6 x7 x8 x9 x10 v0 v1 r0 r1 hs0 hs1 hk0 hk1
  obtain ⟨W0, hW0⟩ : ∃ W0, w3.alloc (.cells l.cells.toArray 29) = W0 := ⟨_, rfl⟩
  have hB0 : Below w3.heap.size w3 W0 := by rw [← hW0]; exact below1 _ _
  have hm0 : Whole W0 w3.heap.size 29 l.cells := by rw [← hW0]; exact Whole.new _ _ _
  have hsz0 : W0.heap.size = w3.heap.size + 1 := by rw [← hW0]; simp
  simp only [Lay.cells] at hW0
  rw [hW0]
  clear hW0
  have HQW : Hid (∀ W, Below w3.heap.size w3 W → Q W) := Lib.hid fun W h => HQ.out _ _ hq h
  have hq0 := HQW.out _ hB0
  obtain ⟨AS, kS, w4, hrun, own, hB⟩ := appendN (P := Tryd.prog) (f := Sec.cells) (size := 11) Sec.len oneSection 22 48 (.agg #[.int .u8 0, .int .i64 0, .int .i64 0, .int .i64 0, .int .i64 0, .int .i64 0, .int .i64 0, .int .i64 0, .int .i64 0, .int .i64 0, .int .i64 0]) 88 Tryd.underlying22 infoSection rfl (by omega) (by omega) l.secs l.As l.cs W0 (HQL.out _ hq0).secs (by omega)
  have hm4 := hm0.below hB hm0.lt
  have x0 : (W0.alloc (.cells #[] 48)).cell? ⟨w.heap.size, 0, none⟩ = some (.slice l.As l.secs.length l.cs) := (HQl.out _ (HQ.out _ _ hq0 (below1 W0 _))).cell_at 0 rfl
  have f0 := hm4.frozen 0
  have y0 : w4.cell? ⟨w3.heap.size, 0, none⟩ = some (.slice l.As l.secs.length l.cs) := hm4.cell_at 0 rfl
  have HSZ := Lib.hid hsz0
  clear hsz0
  go_upto_region 5 with (at_builtin; refine list_append rfl (.tmp 48) (.tmp 50) 22 rfl hrun ?_)
  clear x0 f0 y0 hrun
  have hsz0 := HSZ.out
  have hB5 : Below w3.heap.size w3 (w4.setCell ⟨w3.heap.size, 0, none⟩ (.slice AS l.secs.length kS)) := (hB0.trans (hB.mono (by omega))).setCell (p := ⟨w3.heap.size, 0, none⟩) (Nat.le_refl _) _
  have hm5 : Whole (w4.setCell ⟨w3.heap.size, 0, none⟩ (.slice AS l.secs.length kS)) w3.heap.size 29 [.slice AS l.secs.length kS, .slice l.Ag l.sigs.length l.cg, .slice l.Ae l.exits.length l.ce, .slice l.Af l.flanks.length l.cf, .int .i64 l.t0, .int .i64 l.t1, .int .i64 l.t2, .int .i64 l.t3, .int .i64 l.t4, .int .i64 l.t5, .int .i64 l.t6] := hm4.set 0 (.slice AS l.secs.length kS)
  have own5 := owns_set (B := 0) (p := ⟨w3.heap.size, 0, none⟩) own (by show w3.heap.size < W0.heap.size; omega) (.slice AS l.secs.length kS)
  obtain ⟨W5, hW5⟩ : ∃ W5, w4.setCell ⟨w3.heap.size, 0, none⟩ (.slice AS l.secs.length kS) = W5 := ⟨_, rfl⟩
  rw [hW5] at hB5 hm5 own5 ⊢
  clear hW5 own hm4 hB hm0 hB0 hq0 hq
  obtain ⟨gs, o2, rfl, HO, hgs⟩ : ∃ gs o2, AS = some ⟨gs, o2, none⟩ ∧ Hid (o2 = 0) ∧ W0.heap.size ≤ gs := by
    rcases own5.2 with ⟨e, _⟩ | ⟨g, cap, cur, e, p1, _⟩
    · injection e with _ e2 _
      omega
    · injection e with e1 _ _
      exact ⟨g, 0, e1, Lib.hid rfl, p1⟩
  have HCELL : Hid (∀ W : World, W.ownsRow W0.heap.size 48 11 (.slice (some ⟨gs, o2, none⟩) l.secs.length kS) l.secs.length (l.secs.flatMap Sec.cells) → W.cell? ⟨gs, o2 + j * 11 + 1 + k * 2, none⟩ = some (.int .i64 ws) ∧ W.cell? ⟨gs, o2 + j * 11 + 1 + k * 2 + 1, none⟩ = some (.int .i64 wq)) := Lib.hid fun W ho => by
    obtain ⟨b', off, e, _, _, hc⟩ := (owns_row2 ho).nth (n := 11) Sec.len (by omega) hx
    cases e
    have h := hc j x
    rcases four hk4 with rfl | rfl | rfl | rfl <;> cases hw
    · exact ⟨h 1 _ hx rfl, h 2 _ hx rfl⟩
    · exact ⟨h 3 _ hx rfl, h 4 _ hx rfl⟩
    · exact ⟨h 5 _ hx rfl, h 6 _ hx rfl⟩
    · exact ⟨h 7 _ hx rfl, h 8 _ hx rfl⟩
  obtain ⟨gm, hgm⟩ : ∃ gm, w3.heap.size = gm := ⟨_, rfl⟩
  obtain ⟨E, HE, HEq, HEb, HEm, HEo, hE⟩ : ∃ E : World → Prop, Hid (Closed E) ∧ Hid (∀ W, E W → Q W) ∧ Hid (∀ W, E W → Below w3.heap.size w3 W) ∧ Hid (∀ W, E W → Whole W gm 29 [.slice (some ⟨gs, o2, none⟩) l.secs.length kS, .slice l.Ag l.sigs.length l.cg, .slice l.Ae l.exits.length l.ce, .slice l.Af l.flanks.length l.cf, .int .i64 l.t0, .int .i64 l.t1, .int .i64 l.t2, .int .i64 l.t3, .int .i64 l.t4, .int .i64 l.t5, .int .i64 l.t6]) ∧ Hid (∀ W, E W → W.ownsRow W0.heap.size 48 11 (.slice (some ⟨gs, o2, none⟩) l.secs.length kS) l.secs.length (l.secs.flatMap Sec.cells)) ∧ E W5 :=
    ⟨fun W => (Below w3.heap.size w3 W ∧ Whole W gm 29 [.slice (some ⟨gs, o2, none⟩) l.secs.length kS, .slice l.Ag l.sigs.length l.cg, .slice l.Ae l.exits.length l.ce, .slice l.Af l.flanks.length l.cf, .int .i64 l.t0, .int .i64 l.t1, .int .i64 l.t2, .int .i64 l.t3, .int .i64 l.t4, .int .i64 l.t5, .int .i64 l.t6]) ∧ W.ownsRow W0.heap.size 48 11 (.slice (some ⟨gs, o2, none⟩) l.secs.length kS) l.secs.length (l.secs.flatMap Sec.cells), Lib.hid (((Closed.below w3).and (Closed.whole _ _ _)).and (fun _ _ h hB => owns_keep h hB)), Lib.hid fun W h => HQW.out W h.1.1, Lib.hid fun _ h => h.1.1, Lib.hid fun _ h => h.1.2, Lib.hid fun _ h => h.2, ⟨⟨hB5, by rw [← hgm]; exact hm5⟩, own5⟩⟩
  have HSC := Lib.hid (fun W hW => HCELL.out W (HEo.out W hW))
  have HCELL2 := HCELL
  have hlt5 : gs < W5.heap.size := by
    obtain ⟨c, hc⟩ : ∃ c, W5.cell? ⟨gs, o2 + j * 11 + 1 + k * 2, none⟩ = some c := ⟨_, (HSC.out _ hE).1⟩
    have := (owns_row2 own5).nth (n := 11) Sec.len (by omega) hx
    obtain ⟨b', off, e', h5, _, _⟩ := this
    cases e'
    exact h5
  rw [hgm]
  clear hB5 hm5 own5 HCELL
  go_wp2_with fail
  have HBS : Hid (∀ W, Below W5.heap.size W5 W → E W) := Lib.hid (fun W hB => HE.out _ _ hE hB)
  clear hE
  refine region_mix (Below W5.heap.size W5) [(0, false), (1, false), (2, false), (3, false), (4, false), (5, false), (6, false), (7, false), (8, false), (9, false), (10, true), (11, true)] (by kernel_rfl) (by kernel_rfl) (Below W5.heap.size W5) ⟨Closed.below W5, fun _ h => h⟩ (Below.refl _ _).drew ?_
  simp only [pickOps, List.getElem?_cons_zero, List.getElem?_cons_succ]
  repeat (first | (refine mix_skip (by rfl) ?_; simp only [Act.put, List.setIfInBounds_toArray, List.set_cons_zero, List.set_cons_succ]) | (refine mix_read _ (by rfl) (fun W hW => by (have hW := HBS.out W hW; have c0 := (HSC.out _ hW).1; have c1 := (HSC.out _ hW).2; have mm := HEm.out _ hW; have m00 := mm.cell_at 0 rfl; clear mm; have hW2 := HEq.out _ hW; have m0 := HQv.out _ hW2; have v0 := m0.cell_at 0 rfl; have v1 := m0.cell_at 1 rfl; clear m0; clear hW2; go_simp; first | done | with_reducible rfl)) ?_; simp only [Act.put, List.setIfInBounds_toArray, List.set_cons_zero, List.set_cons_succ]))
  refine mix_alloc W5.heap.size 31 [.int .i64 0, .int .i64 0] ⟨Closed.below W5, fun _ h => h⟩ (fun _ h => h.size) (by rfl) (fun W hW => by (go_simp; first | done | with_reducible rfl)) (fun g hg => ?_)
  simp only [Act.put, List.setIfInBounds_toArray, List.set_cons_zero, List.set_cons_succ]
  refine mix_fill 31 (.tmp 8) (.tmp 62) g W5.heap.size W5 [.int .i64 0, .int .i64 0] [.int .i64 ws, .int .i64 wq] hg (fun _ h => h) (Nat.le_refl _) (fun _ h => h) rfl (by rfl) (by rfl) (by kernel_rfl) rfl (by kernel_rfl) (by rfl) ?_
  simp only [Act.put, List.setIfInBounds_toArray, List.set_cons_zero, List.set_cons_succ]
  refine mix_nil (fun W hW => ?_)
  obtain ⟨w6, hw6⟩ : ∃ w6, W = w6 := ⟨_, rfl⟩
  rw [hw6] at hW ⊢
  obtain ⟨hBw, hww⟩ := hW
  have hE6 := HBS.out w6 hBw
  clear HBS hw6 hBw
  obtain ⟨B6, HB6c, HB6b, HB6m, HB6i⟩ : ∃ B6 : World → Prop, Hid (Closed B6) ∧ Hid (∀ W, B6 W → Below w3.heap.size w3 W) ∧ Hid (∀ W, B6 W → Whole W gm 29 [.slice (some ⟨gs, o2, none⟩) l.secs.length kS, .slice l.Ag l.sigs.length l.cg, .slice l.Ae l.exits.length l.ce, .slice l.Af l.flanks.length l.cf, .int .i64 l.t0, .int .i64 l.t1, .int .i64 l.t2, .int .i64 l.t3, .int .i64 l.t4, .int .i64 l.t5, .int .i64 l.t6]) ∧ Hid (∀ W, Below w3.heap.size w3 W → Whole W gm 29 [.slice (some ⟨gs, o2, none⟩) l.secs.length kS, .slice l.Ag l.sigs.length l.cg, .slice l.Ae l.exits.length l.ce, .slice l.Af l.flanks.length l.cf, .int .i64 l.t0, .int .i64 l.t1, .int .i64 l.t2, .int .i64 l.t3, .int .i64 l.t4, .int .i64 l.t5, .int .i64 l.t6] → B6 W) :=
    ⟨fun W => Below w3.heap.size w3 W ∧ Whole W gm 29 [.slice (some ⟨gs, o2, none⟩) l.secs.length kS, .slice l.Ag l.sigs.length l.cg, .slice l.Ae l.exits.length l.ce, .slice l.Af l.flanks.length l.cf, .int .i64 l.t0, .int .i64 l.t1, .int .i64 l.t2, .int .i64 l.t3, .int .i64 l.t4, .int .i64 l.t5, .int .i64 l.t6], Lib.hid ((Closed.below w3).and (Closed.whole _ _ _)), Lib.hid fun _ h => h.1, Lib.hid fun _ h => h.2, Lib.hid fun _ h1 h2 => ⟨h1, h2⟩⟩
  obtain ⟨S6, HS6, HS6b, HS6o, HS6w, hS6⟩ : ∃ S6 : World → Prop, Hid (Closed S6) ∧ Hid (∀ W, S6 W → B6 W) ∧ Hid (∀ W, S6 W → W.ownsRow W0.heap.size 48 11 (.slice (some ⟨gs, o2, none⟩) l.secs.length kS) l.secs.length (l.secs.flatMap Sec.cells)) ∧ Hid (∀ W, S6 W → Whole W g 31 [.int .i64 ws, .int .i64 wq]) ∧ S6 w6 :=
    ⟨fun W => (B6 W ∧ W.ownsRow W0.heap.size 48 11 (.slice (some ⟨gs, o2, none⟩) l.secs.length kS) l.secs.length (l.secs.flatMap Sec.cells)) ∧ Whole W g 31 [.int .i64 ws, .int .i64 wq], Lib.hid ((HB6c.out.and (fun _ _ h hB => owns_keep h hB)).and (Closed.whole _ _ _)), Lib.hid fun _ h => h.1.1, Lib.hid fun _ h => h.1.2, Lib.hid fun _ h => h.2, ⟨⟨HB6i.out _ (HEb.out _ hE6) (HEm.out _ hE6), HEo.out _ hE6⟩, hww⟩⟩
  obtain ⟨S7, HS7, HS7b, HS7o, HS7w, HS7i⟩ : ∃ S7 : World → Prop, Hid (Closed S7) ∧ Hid (∀ W, S7 W → B6 W) ∧ Hid (∀ W, S7 W → W.ownsRow W0.heap.size 48 11 (.slice (some ⟨gs, o2, none⟩) l.secs.length kS) l.secs.length ((l.secs.set j (setP x k (a, b))).flatMap Sec.cells)) ∧ Hid (∀ W, S7 W → Whole W g 31 [.int .i64 ws, .int .i64 wq]) ∧ Hid (∀ W, B6 W → W.ownsRow W0.heap.size 48 11 (.slice (some ⟨gs, o2, none⟩) l.secs.length kS) l.secs.length ((l.secs.set j (setP x k (a, b))).flatMap Sec.cells) → Whole W g 31 [.int .i64 ws, .int .i64 wq] → S7 W) :=
    ⟨fun W => (B6 W ∧ W.ownsRow W0.heap.size 48 11 (.slice (some ⟨gs, o2, none⟩) l.secs.length kS) l.secs.length ((l.secs.set j (setP x k (a, b))).flatMap Sec.cells)) ∧ Whole W g 31 [.int .i64 ws, .int .i64 wq], Lib.hid ((HB6c.out.and (fun _ _ h hB => owns_keep h hB)).and (Closed.whole _ _ _)), Lib.hid fun _ h => h.1.1, Lib.hid fun _ h => h.1.2, Lib.hid fun _ h => h.2, Lib.hid fun _ h1 h2 h3 => ⟨⟨h1, h2⟩, h3⟩⟩
  have HTH : Hid (∀ W, S6 W → W.there gs (o2 + j * 11 + 1 + k * 2) [Value.int .i64 a, .int .i64 b].length) := Lib.hid fun W hW i hi => by
    have ho := HS6o.out W hW
    have hc := HCELL2.out W ho
    obtain rfl : o2 = 0 := HO.out
    refine ⟨?_, owns_frozen ho _⟩
    have : i = 0 ∨ i = 1 := by simp at hi; omega
    rcases this with rfl | rfl
    · rw [Nat.add_zero, hc.1]; rfl
    · rw [hc.2]; rfl
  have HST : Hid (∀ W, S6 W → S7 (W.setCells gs (o2 + j * 11 + 1 + k * 2) [.int .i64 a, .int .i64 b])) := Lib.hid fun W hW => by
    have ho := HS6o.out W hW
    have hb := HS6b.out W hW
    obtain rfl : o2 = 0 := HO.out
    refine HS7i.out _ (HB6i.out _ (setCells_below _ _ (HB6b.out W hb) (by omega)) ?_) (owns_setP ho hx hk4 a b) ?_
    · exact ((HB6m.out W hb).far (p := ⟨gs, 0 + j * 11 + 1 + k * 2, none⟩) (by show gm ≠ gs; omega) _).far (p := ⟨gs, 0 + j * 11 + 1 + k * 2 + 1, none⟩) (by show gm ≠ gs; omega) _
    · exact ((HS6w.out W hW).far (p := ⟨gs, 0 + j * 11 + 1 + k * 2, none⟩) (by show g ≠ gs; omega) _).far (p := ⟨gs, 0 + j * 11 + 1 + k * 2 + 1, none⟩) (by show g ≠ gs; omega) _
  have hkn : (setP x k (a, b)).k = x.k := setP_k x hk4 (a, b)
  have HLN : Hid (∀ W, S7 W → Lies { l with secs := l.secs.set j (setP x k (a, b)), As := some ⟨gs, o2, none⟩, cs := kS } W) := Lib.hid fun W hW => by
    have hl := HQL.out W (HQW.out W (HB6b.out W (HS7b.out W hW)))
    refine ⟨owns_row2 (HS7o.out W hW), hl.2, hl.3, hl.4, hl.5, fun y hy => ?_, by show ((l.secs.set j _).length : Int) ≤ _; rw [List.length_set]; exact hl.7, hl.8, hl.9, hl.10, hl.11⟩
    rcases List.mem_or_eq_of_mem_set hy with h | rfl
    · exact hl.6 y h
    · rw [hkn]; exact hl.6 x (List.mem_of_getElem? hx)
  clear HEo HEm HEb HEq HE hE6 hww HSC
  go_wp2_with fail
  refine region_mix B6 [(0, false), (1, false), (2, false), (3, false), (4, false), (5, false), (6, false), (7, false), (8, false), (9, false), (10, true)] (by kernel_rfl) (by kernel_rfl) S6 ⟨HS6.out, fun W h => HS6b.out W h⟩ (HS6.out.drew hS6) ?_
  clear hS6
  simp only [pickOps, List.getElem?_cons_zero, List.getElem?_cons_succ]
  repeat (first | (refine mix_skip (by rfl) ?_; simp only [Act.put, List.setIfInBounds_toArray, List.set_cons_zero, List.set_cons_succ]) | (refine mix_read _ (by rfl) (fun W hW => by (have mm := HB6m.out _ hW; have m00 := mm.cell_at 0 rfl; clear mm; have hW2 := HQW.out _ (HB6b.out _ hW); have m0 := HQv.out _ hW2; have v0 := m0.cell_at 0 rfl; have v1 := m0.cell_at 1 rfl; clear m0; have m1 := HQr.out _ hW2; have r0 := m1.cell_at 0 rfl; have r1 := m1.cell_at 1 rfl; clear m1; clear hW2; go_simp; first | done | with_reducible rfl)) ?_; simp only [Act.put, List.setIfInBounds_toArray, List.set_cons_zero, List.set_cons_succ]))
  refine mix_within 31 (.tmp 72) (.tmp 69) gs (o2 + j * 11 + 1 + k * 2) [.int .i64 a, .int .i64 b] S7 ⟨HS7.out, fun W h => HS7b.out W h⟩ rfl (by rfl) (by rfl) (by kernel_rfl) (by rfl) (by rfl) (fun W hW => HTH.out W hW) (fun W hW => HST.out W hW) ?_
  simp only [Act.put, List.setIfInBounds_toArray, List.set_cons_zero, List.set_cons_succ]
  refine mix_nil (fun W hW => ?_)
  obtain ⟨w7, hw7⟩ : ∃ w7, W = w7 := ⟨_, rfl⟩
  rw [hw7] at hW ⊢
  clear hw7 HTH HST
  go_wp2_with fail
  obtain ⟨F2, HF2, HF2p, HFe, hf⟩ := keep_boxV HS7.out hW 31 (prtCells (-1, 0))
  have HFb : Hid (∀ W, S7 W → Below w3.heap.size w3 W) := Lib.hid fun W h => HB6b.out W (HS7b.out W h)
  have HFm := Lib.hid (fun W hW => HB6m.out W (HS7b.out W (HF2p.out W hW)))
  have HFw := Lib.hid (fun W hW => HS7w.out W (HF2p.out W hW))
  have HFr := Lib.hid (fun W hW => HQr.out W (HQW.out W (HFb.out W (HF2p.out W hW))))
  have HFT := Lib.hid (fun W hW => HQT.out W (HQW.out W (HFb.out W (HF2p.out W hW))))
  have KWk := Lib.hid (fun W hW => wakesJ_P (P := fun W' => Below W.heap.size W W') (w := W) (Closed.below W) (fun W' h => Shapes.closed _ _ (HFT.out W hW) h) (Below.refl _ _))
  have KJm : Hid (∀ (r : Bool), decide ((a, b) = (ws, wq)) = r → ∀ W, F2 W → Calls Tryd.prog 16 #[.agg #[.slice (some ⟨gs, o2, none⟩) l.secs.length kS, .slice l.Ag l.sigs.length l.cg, .slice l.Ae l.exits.length l.ce, .slice l.Af l.flanks.length l.cf, .int .i64 l.t0, .int .i64 l.t1, .int .i64 l.t2, .int .i64 l.t3, .int .i64 l.t4, .int .i64 l.t5, .int .i64 l.t6]] W fun e w' => e = .returned (.bool r) ∧ Below W.heap.size W w') := Lib.hid fun r hr W hW => by
    have := joinedL_any (l := { l with secs := l.secs.set j (setP x k (a, b)), As := some ⟨gs, o2, none⟩, cs := kS }) (r := r) (HFT.out W hW) (HLN.out W (HF2p.out W hW)) (by rw [HONE.out _ rfl]; exact hr)
    simp only [Lay.val, List.length_set] at this
    exact this
  clear hW HONE HLN HB6i HS7i hx hw hkn
  by_cases e : (a, b) = (ws, wq)
  · have KJ2 := Lib.hid (KJm.out true (decide_eq_true e))
    obtain ⟨rfl, rfl⟩ := Prod.mk.inj e
    clear e KJm
    have hd : (a == a) = true ∧ (b == b) = true := ⟨by simp, by simp⟩
    by_cases e2 : a = -1 ∧ b = 0
    · obtain ⟨rfl, rfl⟩ := e2
      have HBS : Hid (∀ W, Below (w7.alloc (.cells #[.int .i64 (-1), .int .i64 0] 31)).heap.size (w7.alloc (.cells #[.int .i64 (-1), .int .i64 0] 31)) W → F2 W) := Lib.hid (fun W hB => HF2.out _ _ hf hB)
      clear hf
      refine region_mix (Below (w7.alloc (.cells #[.int .i64 (-1), .int .i64 0] 31)).heap.size (w7.alloc (.cells #[.int .i64 (-1), .int .i64 0] 31))) [(0, false), (1, false), (2, false), (3, false), (4, false), (5, false), (6, false), (7, false), (8, false), (9, false), (10, false), (11, false), (12, false), (13, false), (14, false), (15, false), (16, false), (17, false), (18, false), (19, false), (20, false), (21, false), (22, false), (23, false)] (by kernel_rfl) (by kernel_rfl) (Below (w7.alloc (.cells #[.int .i64 (-1), .int .i64 0] 31)).heap.size (w7.alloc (.cells #[.int .i64 (-1), .int .i64 0] 31))) ⟨Closed.below (w7.alloc (.cells #[.int .i64 (-1), .int .i64 0] 31)), fun _ h => h⟩ (Below.refl _ _).drew ?_
      simp only [pickOps, List.getElem?_cons_zero, List.getElem?_cons_succ]
      repeat (first | (refine mix_skip (by rfl) ?_; simp only [Act.put, List.setIfInBounds_toArray, List.set_cons_zero, List.set_cons_succ]) | (refine mix_read _ (by rfl) (fun W hW => by (have hW := HBS.out W hW; have m0 := HFm.out _ hW; have x0 := m0.cell_at 0 rfl; have x1 := m0.cell_at 1 rfl; have x2 := m0.cell_at 2 rfl; have x3 := m0.cell_at 3 rfl; have x4 := m0.cell_at 4 rfl; have x5 := m0.cell_at 5 rfl; have x6 := m0.cell_at 6 rfl; have x7 := m0.cell_at 7 rfl; have x8 := m0.cell_at 8 rfl; have x9 := m0.cell_at 9 rfl; have x10 := m0.cell_at 10 rfl; clear m0; have m1 := HFr.out _ hW; have r0 := m1.cell_at 0 rfl; have r1 := m1.cell_at 1 rfl; clear m1; have m2 := HFw.out _ hW; have u0 := m2.cell_at 0 rfl; have u1 := m2.cell_at 1 rfl; clear m2; have m3 := HFe.out _ hW; have e0 := m3.cell_at 0 rfl; have e1 := m3.cell_at 1 rfl; clear m3; go_simp; first | done | with_reducible rfl)) ?_; simp only [Act.put, List.setIfInBounds_toArray, List.set_cons_zero, List.set_cons_succ]) | (refine mix_call _ _ _ (by rfl) (fun W hW => by (have hW := HBS.out W hW; have m0 := HFm.out _ hW; have x0 := m0.cell_at 0 rfl; have x1 := m0.cell_at 1 rfl; have x2 := m0.cell_at 2 rfl; have x3 := m0.cell_at 3 rfl; have x4 := m0.cell_at 4 rfl; have x5 := m0.cell_at 5 rfl; have x6 := m0.cell_at 6 rfl; have x7 := m0.cell_at 7 rfl; have x8 := m0.cell_at 8 rfl; have x9 := m0.cell_at 9 rfl; have x10 := m0.cell_at 10 rfl; clear m0; have m1 := HFr.out _ hW; have r0 := m1.cell_at 0 rfl; have r1 := m1.cell_at 1 rfl; clear m1; have m2 := HFw.out _ hW; have u0 := m2.cell_at 0 rfl; have u1 := m2.cell_at 1 rfl; clear m2; have m3 := HFe.out _ hW; have e0 := m3.cell_at 0 rfl; have e1 := m3.cell_at 1 rfl; clear m3; go_simp; first | done | rfl)) (fun W hW => KJ2.out W (HBS.out W hW)) ?_; simp only [Act.put, List.setIfInBounds_toArray, List.set_cons_zero, List.set_cons_succ]) | (refine mix_call _ _ _ (by rfl) (fun W hW => by (have hW := HBS.out W hW; have m0 := HFm.out _ hW; have x0 := m0.cell_at 0 rfl; have x1 := m0.cell_at 1 rfl; have x2 := m0.cell_at 2 rfl; have x3 := m0.cell_at 3 rfl; have x4 := m0.cell_at 4 rfl; have x5 := m0.cell_at 5 rfl; have x6 := m0.cell_at 6 rfl; have x7 := m0.cell_at 7 rfl; have x8 := m0.cell_at 8 rfl; have x9 := m0.cell_at 9 rfl; have x10 := m0.cell_at 10 rfl; clear m0; have m1 := HFr.out _ hW; have r0 := m1.cell_at 0 rfl; have r1 := m1.cell_at 1 rfl; clear m1; have m2 := HFw.out _ hW; have u0 := m2.cell_at 0 rfl; have u1 := m2.cell_at 1 rfl; clear m2; have m3 := HFe.out _ hW; have e0 := m3.cell_at 0 rfl; have e1 := m3.cell_at 1 rfl; clear m3; go_simp; first | done | rfl)) (fun W hW => KWk.out W (HBS.out W hW)) ?_; simp only [Act.put, List.setIfInBounds_toArray, List.set_cons_zero, List.set_cons_succ]))
      refine mix_nil (fun W hW => ?_)
      have hf := HF2p.out _ (HBS.out W hW)
      clear hW HBS
      go_wp2_with fail
      go_ret
      exact ⟨rfl, HQB.out _ (HQW.out _ (HFb.out _ hf))⟩
    · have H1 : Hid (a = -1 → ¬ b = 0) := Lib.hid fun h1 h2 => e2 ⟨h1, h2⟩
      clear e2
      have HBS : Hid (∀ W, Below (w7.alloc (.cells #[.int .i64 (-1), .int .i64 0] 31)).heap.size (w7.alloc (.cells #[.int .i64 (-1), .int .i64 0] 31)) W → F2 W) := Lib.hid (fun W hB => HF2.out _ _ hf hB)
      clear hf
      refine region_mix (Below (w7.alloc (.cells #[.int .i64 (-1), .int .i64 0] 31)).heap.size (w7.alloc (.cells #[.int .i64 (-1), .int .i64 0] 31))) [(0, false), (1, false), (2, false), (3, false), (4, false), (5, false), (6, false), (7, false), (8, false), (9, false), (10, false), (11, false), (12, false), (13, false), (14, false), (15, false), (16, false), (17, false), (18, false), (19, false), (20, false), (21, false), (22, false), (23, false)] (by kernel_rfl) (by kernel_rfl) (Below (w7.alloc (.cells #[.int .i64 (-1), .int .i64 0] 31)).heap.size (w7.alloc (.cells #[.int .i64 (-1), .int .i64 0] 31))) ⟨Closed.below (w7.alloc (.cells #[.int .i64 (-1), .int .i64 0] 31)), fun _ h => h⟩ (Below.refl _ _).drew ?_
      simp only [pickOps, List.getElem?_cons_zero, List.getElem?_cons_succ]
      repeat (first | (refine mix_read (.bool true) (by rfl) (fun W hW => by (have hW := HBS.out W hW; have m0 := HFm.out _ hW; have x0 := m0.cell_at 0 rfl; have x1 := m0.cell_at 1 rfl; have x2 := m0.cell_at 2 rfl; have x3 := m0.cell_at 3 rfl; have x4 := m0.cell_at 4 rfl; have x5 := m0.cell_at 5 rfl; have x6 := m0.cell_at 6 rfl; have x7 := m0.cell_at 7 rfl; have x8 := m0.cell_at 8 rfl; have x9 := m0.cell_at 9 rfl; have x10 := m0.cell_at 10 rfl; clear m0; have m1 := HFr.out _ hW; have r0 := m1.cell_at 0 rfl; have r1 := m1.cell_at 1 rfl; clear m1; have m2 := HFw.out _ hW; have u0 := m2.cell_at 0 rfl; have u1 := m2.cell_at 1 rfl; clear m2; have m3 := HFe.out _ hW; have e0 := m3.cell_at 0 rfl; have e1 := m3.cell_at 1 rfl; clear m3; have d1 := H1.out; go_simp; first | done | exact d1)) ?_; simp only [Act.put, List.setIfInBounds_toArray, List.set_cons_zero, List.set_cons_succ]) | (refine mix_skip (by rfl) ?_; simp only [Act.put, List.setIfInBounds_toArray, List.set_cons_zero, List.set_cons_succ]) | (refine mix_read _ (by rfl) (fun W hW => by (have hW := HBS.out W hW; have m0 := HFm.out _ hW; have x0 := m0.cell_at 0 rfl; have x1 := m0.cell_at 1 rfl; have x2 := m0.cell_at 2 rfl; have x3 := m0.cell_at 3 rfl; have x4 := m0.cell_at 4 rfl; have x5 := m0.cell_at 5 rfl; have x6 := m0.cell_at 6 rfl; have x7 := m0.cell_at 7 rfl; have x8 := m0.cell_at 8 rfl; have x9 := m0.cell_at 9 rfl; have x10 := m0.cell_at 10 rfl; clear m0; have m1 := HFr.out _ hW; have r0 := m1.cell_at 0 rfl; have r1 := m1.cell_at 1 rfl; clear m1; have m2 := HFw.out _ hW; have u0 := m2.cell_at 0 rfl; have u1 := m2.cell_at 1 rfl; clear m2; have m3 := HFe.out _ hW; have e0 := m3.cell_at 0 rfl; have e1 := m3.cell_at 1 rfl; clear m3; have d1 := H1.out; go_simp; first | done | with_reducible rfl)) ?_; simp only [Act.put, List.setIfInBounds_toArray, List.set_cons_zero, List.set_cons_succ]) | (refine mix_call _ _ _ (by rfl) (fun W hW => by (have hW := HBS.out W hW; have m0 := HFm.out _ hW; have x0 := m0.cell_at 0 rfl; have x1 := m0.cell_at 1 rfl; have x2 := m0.cell_at 2 rfl; have x3 := m0.cell_at 3 rfl; have x4 := m0.cell_at 4 rfl; have x5 := m0.cell_at 5 rfl; have x6 := m0.cell_at 6 rfl; have x7 := m0.cell_at 7 rfl; have x8 := m0.cell_at 8 rfl; have x9 := m0.cell_at 9 rfl; have x10 := m0.cell_at 10 rfl; clear m0; have m1 := HFr.out _ hW; have r0 := m1.cell_at 0 rfl; have r1 := m1.cell_at 1 rfl; clear m1; have m2 := HFw.out _ hW; have u0 := m2.cell_at 0 rfl; have u1 := m2.cell_at 1 rfl; clear m2; have m3 := HFe.out _ hW; have e0 := m3.cell_at 0 rfl; have e1 := m3.cell_at 1 rfl; clear m3; have d1 := H1.out; go_simp; first | done | rfl)) (fun W hW => KJ2.out W (HBS.out W hW)) ?_; simp only [Act.put, List.setIfInBounds_toArray, List.set_cons_zero, List.set_cons_succ]) | (refine mix_call _ _ _ (by rfl) (fun W hW => by (have hW := HBS.out W hW; have m0 := HFm.out _ hW; have x0 := m0.cell_at 0 rfl; have x1 := m0.cell_at 1 rfl; have x2 := m0.cell_at 2 rfl; have x3 := m0.cell_at 3 rfl; have x4 := m0.cell_at 4 rfl; have x5 := m0.cell_at 5 rfl; have x6 := m0.cell_at 6 rfl; have x7 := m0.cell_at 7 rfl; have x8 := m0.cell_at 8 rfl; have x9 := m0.cell_at 9 rfl; have x10 := m0.cell_at 10 rfl; clear m0; have m1 := HFr.out _ hW; have r0 := m1.cell_at 0 rfl; have r1 := m1.cell_at 1 rfl; clear m1; have m2 := HFw.out _ hW; have u0 := m2.cell_at 0 rfl; have u1 := m2.cell_at 1 rfl; clear m2; have m3 := HFe.out _ hW; have e0 := m3.cell_at 0 rfl; have e1 := m3.cell_at 1 rfl; clear m3; have d1 := H1.out; go_simp; first | done | rfl)) (fun W hW => KWk.out W (HBS.out W hW)) ?_; simp only [Act.put, List.setIfInBounds_toArray, List.set_cons_zero, List.set_cons_succ]))
      refine mix_nil (fun W hW => ?_)
      have hf := HF2p.out _ (HBS.out W hW)
      clear hW HBS
      go_wp2_with fail
      go_ret
      exact ⟨rfl, HQB.out _ (HQW.out _ (HFb.out _ hf))⟩
  · have KJ2 := Lib.hid (KJm.out false (decide_eq_false e))
    have H0 : Hid (a = ws → ¬ b = wq) := Lib.hid fun h1 h2 => e (by rw [h1, h2])
    clear e KJm
    by_cases e2 : a = -1 ∧ b = 0
    · obtain ⟨rfl, rfl⟩ := e2
      have H2 : Hid (ws = -1 → ¬ wq = 0) := Lib.hid fun h1 h2 => H0.out h1.symm h2.symm
      have HBS : Hid (∀ W, Below (w7.alloc (.cells #[.int .i64 (-1), .int .i64 0] 31)).heap.size (w7.alloc (.cells #[.int .i64 (-1), .int .i64 0] 31)) W → F2 W) := Lib.hid (fun W hB => HF2.out _ _ hf hB)
      clear hf
      refine region_mix (Below (w7.alloc (.cells #[.int .i64 (-1), .int .i64 0] 31)).heap.size (w7.alloc (.cells #[.int .i64 (-1), .int .i64 0] 31))) [(0, false), (1, false), (2, false), (3, false), (4, false), (5, false), (6, false), (7, false), (8, false), (9, false), (10, false), (11, false), (12, false), (13, false), (14, false), (15, false), (16, false), (17, false), (18, false), (19, false), (20, false), (21, false), (22, false), (23, false)] (by kernel_rfl) (by kernel_rfl) (Below (w7.alloc (.cells #[.int .i64 (-1), .int .i64 0] 31)).heap.size (w7.alloc (.cells #[.int .i64 (-1), .int .i64 0] 31))) ⟨Closed.below (w7.alloc (.cells #[.int .i64 (-1), .int .i64 0] 31)), fun _ h => h⟩ (Below.refl _ _).drew ?_
      simp only [pickOps, List.getElem?_cons_zero, List.getElem?_cons_succ]
      repeat (first | (refine mix_read (.bool false) (by rfl) (fun W hW => by (have hW := HBS.out W hW; have m0 := HFm.out _ hW; have x0 := m0.cell_at 0 rfl; have x1 := m0.cell_at 1 rfl; have x2 := m0.cell_at 2 rfl; have x3 := m0.cell_at 3 rfl; have x4 := m0.cell_at 4 rfl; have x5 := m0.cell_at 5 rfl; have x6 := m0.cell_at 6 rfl; have x7 := m0.cell_at 7 rfl; have x8 := m0.cell_at 8 rfl; have x9 := m0.cell_at 9 rfl; have x10 := m0.cell_at 10 rfl; clear m0; have m1 := HFr.out _ hW; have r0 := m1.cell_at 0 rfl; have r1 := m1.cell_at 1 rfl; clear m1; have m2 := HFw.out _ hW; have u0 := m2.cell_at 0 rfl; have u1 := m2.cell_at 1 rfl; clear m2; have m3 := HFe.out _ hW; have e0 := m3.cell_at 0 rfl; have e1 := m3.cell_at 1 rfl; clear m3; have d0 := H0.out; have d2 := H2.out; go_simp; first | done | exact d0)) ?_; simp only [Act.put, List.setIfInBounds_toArray, List.set_cons_zero, List.set_cons_succ]) | (refine mix_read (.bool true) (by rfl) (fun W hW => by (have hW := HBS.out W hW; have m0 := HFm.out _ hW; have x0 := m0.cell_at 0 rfl; have x1 := m0.cell_at 1 rfl; have x2 := m0.cell_at 2 rfl; have x3 := m0.cell_at 3 rfl; have x4 := m0.cell_at 4 rfl; have x5 := m0.cell_at 5 rfl; have x6 := m0.cell_at 6 rfl; have x7 := m0.cell_at 7 rfl; have x8 := m0.cell_at 8 rfl; have x9 := m0.cell_at 9 rfl; have x10 := m0.cell_at 10 rfl; clear m0; have m1 := HFr.out _ hW; have r0 := m1.cell_at 0 rfl; have r1 := m1.cell_at 1 rfl; clear m1; have m2 := HFw.out _ hW; have u0 := m2.cell_at 0 rfl; have u1 := m2.cell_at 1 rfl; clear m2; have m3 := HFe.out _ hW; have e0 := m3.cell_at 0 rfl; have e1 := m3.cell_at 1 rfl; clear m3; have d0 := H0.out; have d2 := H2.out; go_simp; first | done | exact d2)) ?_; simp only [Act.put, List.setIfInBounds_toArray, List.set_cons_zero, List.set_cons_succ]) | (refine mix_skip (by rfl) ?_; simp only [Act.put, List.setIfInBounds_toArray, List.set_cons_zero, List.set_cons_succ]) | (refine mix_read _ (by rfl) (fun W hW => by (have hW := HBS.out W hW; have m0 := HFm.out _ hW; have x0 := m0.cell_at 0 rfl; have x1 := m0.cell_at 1 rfl; have x2 := m0.cell_at 2 rfl; have x3 := m0.cell_at 3 rfl; have x4 := m0.cell_at 4 rfl; have x5 := m0.cell_at 5 rfl; have x6 := m0.cell_at 6 rfl; have x7 := m0.cell_at 7 rfl; have x8 := m0.cell_at 8 rfl; have x9 := m0.cell_at 9 rfl; have x10 := m0.cell_at 10 rfl; clear m0; have m1 := HFr.out _ hW; have r0 := m1.cell_at 0 rfl; have r1 := m1.cell_at 1 rfl; clear m1; have m2 := HFw.out _ hW; have u0 := m2.cell_at 0 rfl; have u1 := m2.cell_at 1 rfl; clear m2; have m3 := HFe.out _ hW; have e0 := m3.cell_at 0 rfl; have e1 := m3.cell_at 1 rfl; clear m3; have d0 := H0.out; have d2 := H2.out; go_simp; first | done | with_reducible rfl)) ?_; simp only [Act.put, List.setIfInBounds_toArray, List.set_cons_zero, List.set_cons_succ]) | (refine mix_call _ _ _ (by rfl) (fun W hW => by (have hW := HBS.out W hW; have m0 := HFm.out _ hW; have x0 := m0.cell_at 0 rfl; have x1 := m0.cell_at 1 rfl; have x2 := m0.cell_at 2 rfl; have x3 := m0.cell_at 3 rfl; have x4 := m0.cell_at 4 rfl; have x5 := m0.cell_at 5 rfl; have x6 := m0.cell_at 6 rfl; have x7 := m0.cell_at 7 rfl; have x8 := m0.cell_at 8 rfl; have x9 := m0.cell_at 9 rfl; have x10 := m0.cell_at 10 rfl; clear m0; have m1 := HFr.out _ hW; have r0 := m1.cell_at 0 rfl; have r1 := m1.cell_at 1 rfl; clear m1; have m2 := HFw.out _ hW; have u0 := m2.cell_at 0 rfl; have u1 := m2.cell_at 1 rfl; clear m2; have m3 := HFe.out _ hW; have e0 := m3.cell_at 0 rfl; have e1 := m3.cell_at 1 rfl; clear m3; have d0 := H0.out; have d2 := H2.out; go_simp; first | done | rfl)) (fun W hW => KJ2.out W (HBS.out W hW)) ?_; simp only [Act.put, List.setIfInBounds_toArray, List.set_cons_zero, List.set_cons_succ]) | (refine mix_call _ _ _ (by rfl) (fun W hW => by (have hW := HBS.out W hW; have m0 := HFm.out _ hW; have x0 := m0.cell_at 0 rfl; have x1 := m0.cell_at 1 rfl; have x2 := m0.cell_at 2 rfl; have x3 := m0.cell_at 3 rfl; have x4 := m0.cell_at 4 rfl; have x5 := m0.cell_at 5 rfl; have x6 := m0.cell_at 6 rfl; have x7 := m0.cell_at 7 rfl; have x8 := m0.cell_at 8 rfl; have x9 := m0.cell_at 9 rfl; have x10 := m0.cell_at 10 rfl; clear m0; have m1 := HFr.out _ hW; have r0 := m1.cell_at 0 rfl; have r1 := m1.cell_at 1 rfl; clear m1; have m2 := HFw.out _ hW; have u0 := m2.cell_at 0 rfl; have u1 := m2.cell_at 1 rfl; clear m2; have m3 := HFe.out _ hW; have e0 := m3.cell_at 0 rfl; have e1 := m3.cell_at 1 rfl; clear m3; have d0 := H0.out; have d2 := H2.out; go_simp; first | done | rfl)) (fun W hW => KWk.out W (HBS.out W hW)) ?_; simp only [Act.put, List.setIfInBounds_toArray, List.set_cons_zero, List.set_cons_succ]))
      refine mix_nil (fun W hW => ?_)
      have hf := HF2p.out _ (HBS.out W hW)
      clear hW HBS
      go_wp2_with fail
      go_ret
      exact ⟨rfl, HQB.out _ (HQW.out _ (HFb.out _ hf))⟩
    · have H1 : Hid (a = -1 → ¬ b = 0) := Lib.hid fun h1 h2 => e2 ⟨h1, h2⟩
      clear e2
      have HBS : Hid (∀ W, Below (w7.alloc (.cells #[.int .i64 (-1), .int .i64 0] 31)).heap.size (w7.alloc (.cells #[.int .i64 (-1), .int .i64 0] 31)) W → F2 W) := Lib.hid (fun W hB => HF2.out _ _ hf hB)
      clear hf
      refine region_mix (Below (w7.alloc (.cells #[.int .i64 (-1), .int .i64 0] 31)).heap.size (w7.alloc (.cells #[.int .i64 (-1), .int .i64 0] 31))) [(0, false), (1, false), (2, false), (3, false), (4, false), (5, false), (6, false), (7, false), (8, false), (9, false), (10, false), (11, false), (12, false), (13, false), (14, false), (15, false), (16, false), (17, false), (18, false), (19, false), (20, false), (21, false), (22, false), (23, false)] (by kernel_rfl) (by kernel_rfl) (Below (w7.alloc (.cells #[.int .i64 (-1), .int .i64 0] 31)).heap.size (w7.alloc (.cells #[.int .i64 (-1), .int .i64 0] 31))) ⟨Closed.below (w7.alloc (.cells #[.int .i64 (-1), .int .i64 0] 31)), fun _ h => h⟩ (Below.refl _ _).drew ?_
      simp only [pickOps, List.getElem?_cons_zero, List.getElem?_cons_succ]
      repeat (first | (refine mix_read (.bool false) (by rfl) (fun W hW => by (have hW := HBS.out W hW; have m0 := HFm.out _ hW; have x0 := m0.cell_at 0 rfl; have x1 := m0.cell_at 1 rfl; have x2 := m0.cell_at 2 rfl; have x3 := m0.cell_at 3 rfl; have x4 := m0.cell_at 4 rfl; have x5 := m0.cell_at 5 rfl; have x6 := m0.cell_at 6 rfl; have x7 := m0.cell_at 7 rfl; have x8 := m0.cell_at 8 rfl; have x9 := m0.cell_at 9 rfl; have x10 := m0.cell_at 10 rfl; clear m0; have m1 := HFr.out _ hW; have r0 := m1.cell_at 0 rfl; have r1 := m1.cell_at 1 rfl; clear m1; have m2 := HFw.out _ hW; have u0 := m2.cell_at 0 rfl; have u1 := m2.cell_at 1 rfl; clear m2; have m3 := HFe.out _ hW; have e0 := m3.cell_at 0 rfl; have e1 := m3.cell_at 1 rfl; clear m3; have d0 := H0.out; have d1 := H1.out; go_simp; first | done | exact d0)) ?_; simp only [Act.put, List.setIfInBounds_toArray, List.set_cons_zero, List.set_cons_succ]) | (refine mix_read (.bool true) (by rfl) (fun W hW => by (have hW := HBS.out W hW; have m0 := HFm.out _ hW; have x0 := m0.cell_at 0 rfl; have x1 := m0.cell_at 1 rfl; have x2 := m0.cell_at 2 rfl; have x3 := m0.cell_at 3 rfl; have x4 := m0.cell_at 4 rfl; have x5 := m0.cell_at 5 rfl; have x6 := m0.cell_at 6 rfl; have x7 := m0.cell_at 7 rfl; have x8 := m0.cell_at 8 rfl; have x9 := m0.cell_at 9 rfl; have x10 := m0.cell_at 10 rfl; clear m0; have m1 := HFr.out _ hW; have r0 := m1.cell_at 0 rfl; have r1 := m1.cell_at 1 rfl; clear m1; have m2 := HFw.out _ hW; have u0 := m2.cell_at 0 rfl; have u1 := m2.cell_at 1 rfl; clear m2; have m3 := HFe.out _ hW; have e0 := m3.cell_at 0 rfl; have e1 := m3.cell_at 1 rfl; clear m3; have d0 := H0.out; have d1 := H1.out; go_simp; first | done | exact d1)) ?_; simp only [Act.put, List.setIfInBounds_toArray, List.set_cons_zero, List.set_cons_succ]) | (refine mix_skip (by rfl) ?_; simp only [Act.put, List.setIfInBounds_toArray, List.set_cons_zero, List.set_cons_succ]) | (refine mix_read _ (by rfl) (fun W hW => by (have hW := HBS.out W hW; have m0 := HFm.out _ hW; have x0 := m0.cell_at 0 rfl; have x1 := m0.cell_at 1 rfl; have x2 := m0.cell_at 2 rfl; have x3 := m0.cell_at 3 rfl; have x4 := m0.cell_at 4 rfl; have x5 := m0.cell_at 5 rfl; have x6 := m0.cell_at 6 rfl; have x7 := m0.cell_at 7 rfl; have x8 := m0.cell_at 8 rfl; have x9 := m0.cell_at 9 rfl; have x10 := m0.cell_at 10 rfl; clear m0; have m1 := HFr.out _ hW; have r0 := m1.cell_at 0 rfl; have r1 := m1.cell_at 1 rfl; clear m1; have m2 := HFw.out _ hW; have u0 := m2.cell_at 0 rfl; have u1 := m2.cell_at 1 rfl; clear m2; have m3 := HFe.out _ hW; have e0 := m3.cell_at 0 rfl; have e1 := m3.cell_at 1 rfl; clear m3; have d0 := H0.out; have d1 := H1.out; go_simp; first | done | with_reducible rfl)) ?_; simp only [Act.put, List.setIfInBounds_toArray, List.set_cons_zero, List.set_cons_succ]) | (refine mix_call _ _ _ (by rfl) (fun W hW => by (have hW := HBS.out W hW; have m0 := HFm.out _ hW; have x0 := m0.cell_at 0 rfl; have x1 := m0.cell_at 1 rfl; have x2 := m0.cell_at 2 rfl; have x3 := m0.cell_at 3 rfl; have x4 := m0.cell_at 4 rfl; have x5 := m0.cell_at 5 rfl; have x6 := m0.cell_at 6 rfl; have x7 := m0.cell_at 7 rfl; have x8 := m0.cell_at 8 rfl; have x9 := m0.cell_at 9 rfl; have x10 := m0.cell_at 10 rfl; clear m0; have m1 := HFr.out _ hW; have r0 := m1.cell_at 0 rfl; have r1 := m1.cell_at 1 rfl; clear m1; have m2 := HFw.out _ hW; have u0 := m2.cell_at 0 rfl; have u1 := m2.cell_at 1 rfl; clear m2; have m3 := HFe.out _ hW; have e0 := m3.cell_at 0 rfl; have e1 := m3.cell_at 1 rfl; clear m3; have d0 := H0.out; have d1 := H1.out; go_simp; first | done | rfl)) (fun W hW => KJ2.out W (HBS.out W hW)) ?_; simp only [Act.put, List.setIfInBounds_toArray, List.set_cons_zero, List.set_cons_succ]) | (refine mix_call _ _ _ (by rfl) (fun W hW => by (have hW := HBS.out W hW; have m0 := HFm.out _ hW; have x0 := m0.cell_at 0 rfl; have x1 := m0.cell_at 1 rfl; have x2 := m0.cell_at 2 rfl; have x3 := m0.cell_at 3 rfl; have x4 := m0.cell_at 4 rfl; have x5 := m0.cell_at 5 rfl; have x6 := m0.cell_at 6 rfl; have x7 := m0.cell_at 7 rfl; have x8 := m0.cell_at 8 rfl; have x9 := m0.cell_at 9 rfl; have x10 := m0.cell_at 10 rfl; clear m0; have m1 := HFr.out _ hW; have r0 := m1.cell_at 0 rfl; have r1 := m1.cell_at 1 rfl; clear m1; have m2 := HFw.out _ hW; have u0 := m2.cell_at 0 rfl; have u1 := m2.cell_at 1 rfl; clear m2; have m3 := HFe.out _ hW; have e0 := m3.cell_at 0 rfl; have e1 := m3.cell_at 1 rfl; clear m3; have d0 := H0.out; have d1 := H1.out; go_simp; first | done | rfl)) (fun W hW => KWk.out W (HBS.out W hW)) ?_; simp only [Act.put, List.setIfInBounds_toArray, List.set_cons_zero, List.set_cons_succ]))
      refine mix_nil (fun W hW => ?_)
      have hf := HF2p.out _ (HBS.out W hW)
      clear hW HBS
      go_wp2_with fail
      go_ret
      exact ⟨rfl, HQB.out _ (HQW.out _ (HFb.out _ hf))⟩
end Go.Proofs.YtaelcmamgcndmaaDoor
