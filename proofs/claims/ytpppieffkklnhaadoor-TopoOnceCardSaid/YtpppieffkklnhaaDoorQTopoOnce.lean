/- The walk of TopoOnce: with one more that is there already the rule of it is broken. -/
import Derived.Deep.CutRange
import Derived.Deep.CutBlock
import Derived.Test.YtpppieffkklnhaaDoorQTopoW
import Derived.Test.YtpppieffkklnhaaDoorQTopoN
import Derived.Test.YtpppieffkklnhaaDoorQGreatJ
namespace Go.Proofs.YtpppieffkklnhaaDoor
open Go.RowKit Go.Shelf
set_option linter.unusedVariables false
set_option linter.unusedSimpArgs false

set_option maxRecDepth 100000 in
set_option maxHeartbeats 16000000 in
theorem topoOnce_walk (l : Lay) (a : Int) (w : World) (hT : Shapes w) (hL : Lies l w) :
    Calls Tryd.prog 4 #[l.val, .int .i64 a] w fun e w' => e = .returned (.bool true) ∧ Below w.heap.size w w' := by
  obtain ⟨P, HP, HPT, HPL, HPB, hp⟩ := keep_lay hT hL
  obtain ⟨Q, HQ, HQp, HQl, hq⟩ := keep_box HP.out hp 29 l.cells
  have HQT : Hid (∀ W, Q W → Shapes W) := Lib.hid fun W h => HPT.out _ (HQp.out _ h)
  have HQL : Hid (∀ W, Q W → Lies l W) := Lib.hid fun W h => HPL.out _ (HQp.out _ h)
  have HQB : Hid (∀ W, Q W → Below w.heap.size w W) := Lib.hid fun W h => HPB.out _ (HQp.out _ h)
  obtain ⟨g, hg⟩ : ∃ g, greatJ l = g := ⟨_, rfl⟩
  have KG := Lib.hid (fun W hW => greatJ_P (P := Q) (w := W) HQ.out HQL.out hg hW)
  have KW := Lib.hid (fun W hW => wakesT_P (P := Q) (w := W) HQ.out HQT.out hW)
  obtain ⟨r, hr⟩ : ∃ r, rightT l = r := ⟨_, rfl⟩
  have KR := Lib.hid (fun W hW => keepR HQ.out (rightT_any (w := W) (HQT.out W hW) (HQL.out W hW) hr) hW)
  have HRT := Lib.hid hr
  clear hT hL hp hr hg
  go_enter Tryd.func4, Tryd.ntmps4
  have m0 := HQl.out _ hq
  have x0 := m0.cell_at 0 rfl
  have x1 := m0.cell_at 1 rfl
  have x2 := m0.cell_at 2 rfl
  have x3 := m0.cell_at 3 rfl
  have x4 := m0.cell_at 4 rfl
  have x5 := m0.cell_at 5 rfl
  have x6 := m0.cell_at 6 rfl
  have x7 := m0.cell_at 7 rfl
  have x8 := m0.cell_at 8 rfl
  have x9 := m0.cell_at 9 rfl
  have x10 := m0.cell_at 10 rfl
  clear m0
  go_wp2_with fail
  refine (KG.out _ hq).mono ?_
  clear hq x0 x1 x2 x3 x4 x5 x6 x7 x8 x9 x10
  rintro e w1 ⟨rfl, hq⟩
  cases g
  rotate_left
  · go_wp2_with fail
    refine (KW.out _ hq).mono ?_
    clear hq
    rintro e w9 ⟨rfl, hq⟩
    go_wp2_with fail
    go_ret
    exact ⟨rfl, HQB.out _ hq⟩
  have m0 := HQl.out _ hq
  have x0 := m0.cell_at 0 rfl
  have x1 := m0.cell_at 1 rfl
  have x2 := m0.cell_at 2 rfl
  have x3 := m0.cell_at 3 rfl
  have x4 := m0.cell_at 4 rfl
  have x5 := m0.cell_at 5 rfl
  have x6 := m0.cell_at 6 rfl
  have x7 := m0.cell_at 7 rfl
  have x8 := m0.cell_at 8 rfl
  have x9 := m0.cell_at 9 rfl
  have x10 := m0.cell_at 10 rfl
  clear m0
  go_wp2_with fail
  refine (KR.out _ hq).mono ?_
  clear hq x0 x1 x2 x3 x4 x5 x6 x7 x8 x9 x10
  rintro e w2 ⟨rfl, hq⟩
  cases r
  · go_wp2_with fail
    refine (KW.out _ hq).mono ?_
    clear hq
    rintro e w9 ⟨rfl, hq⟩
    go_wp2_with fail
    go_ret
    exact ⟨rfl, HQB.out _ hq⟩
  have HG := Lib.hid (hangs_iff.1 HRT.out)
  have HLn := Lib.hid (own_lens HG.out.right)
  clear KG KR HRT
  have x1 := (HQl.out _ hq).cell_at 1 rfl
  go_upto_region 4 with (fail)
  clear x1
  go_cut [37] from 32 to 37 (fun v wx => ∃ nb : Bool, v = .bool nb ∧ (wx = w2 ∧ Hid (nb = true → 0 < l.sigs.length ∧ l.sigs.length < 12)))
  case first =>
    by_cases h0 : 0 < l.sigs.length
    · go_wp2_with fail
      go_meet
      exact ⟨_, rfl, rfl, Lib.hid fun e => ⟨h0, by have := of_decide_eq_true e; omega⟩⟩
    · go_wp2_with fail
      go_meet
      exact ⟨false, rfl, rfl, Lib.hid fun e => by cases e⟩
  case rest =>
  obtain ⟨nb, rfl, hwc, HNB⟩ := hcut
  rw [hwc]
  clear hwc
  go_upto_if 37 with (fail)
  go_cut [] from 6 to 73 (fun wx => Hid (Q wx))
  case first =>
    cases nb
    · go_wp2_with fail
      go_meet
      exact Lib.hid hq
    obtain ⟨hn0, hn1⟩ := HNB.out rfl
    obtain ⟨p, hpl, hpe⟩ := at_num a hn0 (by omega)
    obtain ⟨y, hy⟩ : ∃ y, l.sigs[p]? = some y := ⟨_, List.getElem?_eq_getElem hpl⟩
    have m0 := HQl.out _ hq
    have x0 := m0.cell_at 0 rfl
    have x1 := m0.cell_at 1 rfl
    have x2 := m0.cell_at 2 rfl
    have x3 := m0.cell_at 3 rfl
    have x4 := m0.cell_at 4 rfl
    have x5 := m0.cell_at 5 rfl
    have x6 := m0.cell_at 6 rfl
    have x7 := m0.cell_at 7 rfl
    have x8 := m0.cell_at 8 rfl
    have x9 := m0.cell_at 9 rfl
    have x10 := m0.cell_at 10 rfl
    clear m0
    go_upto_region 6 with (fail)
    clear x0 x1 x2 x3 x4 x5 x6 x7 x8 x9 x10
    obtain ⟨gm, hgm⟩ : ∃ gm, w2.heap.size = gm := ⟨_, rfl⟩
    obtain ⟨W3, hW3⟩ : ∃ W3, w2.alloc (.cells #[.slice l.As l.secs.length l.cs, .slice l.Ag l.sigs.length l.cg, .slice l.Ae l.exits.length l.ce, .slice l.Af l.flanks.length l.cf, .int .i64 l.t0, .int .i64 l.t1, .int .i64 l.t2, .int .i64 l.t3, .int .i64 l.t4, .int .i64 l.t5, .int .i64 l.t6] 29) = W3 := ⟨_, rfl⟩
    have HM3 : Hid (At9 w2 gm l.cells (fun _ => True) W3) := Lib.hid (by rw [← hW3, ← hgm]; exact ⟨below1 w2 _, Whole.new _ _ l.cells, trivial⟩)
    have HQ2 := Lib.hid hq
    have HGM := Lib.hid hgm
    have HK : Hid (∀ W, Below gm w2 W → Q W) := Lib.hid (fun W hW => HQ.out _ _ HQ2.out (by rw [HGM.out]; exact hW))
    have HY := Lib.hid hy
    have HN := Lib.hid (And.intro hn0 (And.intro hn1 hpl))
    have HPE := Lib.hid hpe
    rw [hW3, hgm]
    clear hW3 hgm hq hy hn0 hn1 hpl hpe
    go_cut [] from 39 to 56 (fun wx => ∃ m : Lay, Hid (At9 w2 gm m.cells (fun _ => True) wx ∧ Lies m wx ∧ checkV m = (2, (l.sigs.length : Int), 90)))
    case first =>
      have hn0 := HN.out.1
      have dl : ((l.sigs.length : Int) == 0) = false := by rw [beq_eq_false_iff_ne]; omega
      have dln : (l.sigs.length == 0) = false := by rw [beq_eq_false_iff_ne]; omega
      have hnil : l.sigs ≠ [] := fun e => by rw [e] at hn0; exact absurd hn0 (by simp)
      obtain ⟨b, off, hA, hC⟩ : ∃ b off, l.Ag = some ⟨b, off, none⟩ ∧ ∀ W, Q W → W.cell? ⟨b, off + p * 2, none⟩ = some (.int .i64 y.1) ∧ W.cell? ⟨b, off + p * 2 + 1, none⟩ = some (.int .i64 y.2) := by
        obtain ⟨b, off, hA, _, hc0, hc⟩ := (HQL.out _ HQ2.out).sigs.nth (n := 2) (fun _ => rfl) (by omega) HY.out
        refine ⟨b, off, hA, fun W hW => ?_⟩
        obtain ⟨b', off', hA', _, hc0, hc⟩ := (HQL.out _ hW).sigs.nth (n := 2) (fun _ => rfl) (by omega) HY.out
        rw [hA] at hA'
        cases hA'
        exact ⟨hc0 p _ _ HY.out rfl, hc p _ 1 _ HY.out rfl⟩
      have HA := Lib.hid hA
      have HC := Lib.hid hC
      have HF : Fam (fun W => Below gm w2 W) (At9 w2 gm l.cells (fun _ => True)) := ⟨At9.closed _ _ _ (fun _ _ _ _ => trivial), fun _ h => h.below⟩
      have HG1 : ∀ W, At9 w2 gm l.cells (fun _ => True) W → gm + 1 ≤ W.heap.size := fun W h => h.box.lt
      have HS9 : Stays9 (gm + 1) (fun _ => True) := fun _ _ _ _ _ _ => trivial
      have HEND : Hid (∀ (W : World) (A' : Option Addr) (c' : Nat), At9 w2 gm (l.cells.set 1 (.slice A' (l.sigs ++ [y]).length c')) (fun _ => True) W → W.ownsRow (gm + 1) 48 2 (.slice A' (l.sigs ++ [y]).length c') (l.sigs ++ [y]).length ((l.sigs ++ [y]).flatMap prtCells) → ∃ m : Lay, Hid (At9 w2 gm m.cells (fun _ => True) W ∧ Lies m W ∧ checkV m = (2, (l.sigs.length : Int), 90))) := Lib.hid (fun W A' c' h1 h2 => by
        obtain ⟨A2, c2, e, hr⟩ := owns_read h2
        cases e
        have hL := HQL.out _ (HK.out _ h1.below)
        exact ⟨⟨l.secs, l.As, l.cs, l.sigs ++ [y], A', c', l.exits, l.Ae, l.ce, l.flanks, l.Af, l.cf, l.t0, l.t1, l.t2, l.t3, l.t4, l.t5, l.t6⟩, Lib.hid ⟨h1, ⟨hL.secs, hr, hL.exits, hL.flanks, hL.overs, hL.kinds, hL.nS, by have := HN.out.2.1; simp only [List.length_append, List.length_singleton]; omega, hL.nE, hL.nF, hL.nO⟩, once_sig HG.out rfl rfl HY.out HN.out.2.1 rfl rfl rfl⟩⟩)
      have hlen : l.sigs.length ≤ 1000 := by have := HN.out.2.1; omega
      clear hA hC
      have HB9 : Hid (∀ W, (fun W => Below gm w2 W) W → Below gm w2 W) := Lib.hid (fun W h => h)
      refine region_tree (fun W => Below gm w2 W) (.fork [(1, false), (2, false), (4, false), (5, false), (6, false), (7, false), (8, false), (9, false), (10, false), (11, false), (12, false), (13, false), (14, false)] 0 15 (.fork [] 3 15 (.last [(15, true), (16, true), (17, false), (18, true)]) (.last [(3, true), (16, true), (17, false), (18, true)])) (.last [(0, true), (3, true), (16, true), (17, false), (18, true)])) (by kernel_rfl) (by kernel_rfl) (At9 w2 gm l.cells (fun _ => True)) HF ⟨HM3.out.below.drew, HM3.out.box, trivial⟩ ?_
      simp only [wpTree, pickOps, List.getElem?_cons_zero, List.getElem?_cons_succ]
      repeat (first | (refine mix_skip (by rfl) ?_; simp only [Act.put, List.setIfInBounds_toArray, List.set_cons_zero, List.set_cons_succ]) | (refine mix_read _ (by rfl) (fun W hW => by (have hq' := HK.out W (HB9.out W hW); have x1 := (HQl.out W hq').cell_at 1 rfl; clear hq'; go_simp; first | done | with_reducible rfl)) ?_; simp only [Act.put, List.setIfInBounds_toArray, List.set_cons_zero, List.set_cons_succ]))
      rw [HPE.out]
      have hpl := HN.out.2.2
      have hpl2 : (p : Int) < (l.sigs.length : Int) := by omega
      repeat (first | (refine mix_skip (by rfl) ?_; simp only [Act.put, List.setIfInBounds_toArray, List.set_cons_zero, List.set_cons_succ]) | (refine mix_read _ (by rfl) (fun W hW => by (have hq' := HK.out W (HB9.out W hW); have x1 := (HQl.out W hq').cell_at 1 rfl; obtain ⟨cc0, cc1⟩ := HC.out W hq'; clear hq'; go_simp; first | done | with_reducible rfl)) ?_; simp only [Act.put, List.setIfInBounds_toArray, List.set_cons_zero, List.set_cons_succ]) | (refine mix_read _ (by rfl) (fun W hW => by (have hq' := HK.out W (HB9.out W hW); have x1 := (HQl.out W hq').cell_at 1 rfl; obtain ⟨cc0, cc1⟩ := HC.out W hq'; clear hq'; rw [HA.out]; go_simp; first | done | with_reducible rfl)) ?_; simp only [Act.put, List.setIfInBounds_toArray, List.set_cons_zero, List.set_cons_succ]))
      refine mix_nil (fun hF => ⟨?_, ?_⟩)
      · refine mix_make (fun g => .slice (some ⟨g, 0, none⟩) 0 0) (gm + 1) 48 [] HF (fun W hW => HG1 W hW) (by rfl) (fun W hW => by (clear hW; go_simp; first | done | with_reducible rfl)) (fun g0 hg0 => ?_)
        simp only [Act.put, List.setIfInBounds_toArray, List.set_cons_zero, List.set_cons_succ]
        refine mix_nil ?_
        refine mix_nil (fun hF => ⟨?_, ?_⟩)
        · refine mix_yield (X := Option Addr × Nat) (fun B => .slice B.1 l.sigs.length B.2) (fun B W => At9 w2 gm l.cells (fun _ => True) W ∧ W.ownsRow (gm + 1) 48 2 (.slice B.1 l.sigs.length B.2) l.sigs.length (l.sigs.flatMap prtCells)) (fun B => ⟨HF.1.and (Closed.owns _ _ _ _ _ _), fun W h => HF.2 W h.1⟩) (by rfl) (fun W hW => ?_) (fun C => ?_)
          · obtain ⟨A2, c2, w6, h1, h2, h3, _⟩ := app_first (f := prtCells) (size := 2) (fun _ => rfl) (oneSignal) 23 48 (.agg #[.int .i64 0, .int .i64 0]) 16 Tryd.underlying23 infoSignal rfl (by omega) (by omega) HS9 (Nat.lt_succ_self gm) hW.1 hW.2 hg0 l.sigs l.Ag l.cg (HQL.out _ (HK.out _ (HB9.out W (HF.2 W hW.1)))).sigs hlen
            exact ⟨(A2, c2), w6, exec_append (.tmp 39) (.tmp 41) 23 rfl h1, h2, h3⟩
          simp only [Act.put, List.setIfInBounds_toArray, List.set_cons_zero, List.set_cons_succ]
          refine mix_nil ?_
          refine mix_make (fun g => .slice (some ⟨g, 0, none⟩) 1 1) (gm + 1) 48 (prtCells y) ⟨HF.1.and (Closed.owns _ _ _ _ _ _), fun W h => HF.2 W h.1⟩ (fun W hW => HG1 W hW.1) (by rfl) (fun W hW => by (clear hW; go_simp; first | done | with_reducible rfl)) (fun g1 hg1 => ?_)
          simp only [Act.put, List.setIfInBounds_toArray, List.set_cons_zero, List.set_cons_succ]
          refine mix_yield (X := Option Addr × Nat) (fun B => .slice B.1 (l.sigs ++ [y]).length B.2) (fun B W => At9 w2 gm l.cells (fun _ => True) W ∧ W.ownsRow (gm + 1) 48 2 (.slice B.1 (l.sigs ++ [y]).length B.2) (l.sigs ++ [y]).length ((l.sigs ++ [y]).flatMap prtCells)) (fun B => ⟨HF.1.and (Closed.owns _ _ _ _ _ _), fun W h => HF.2 W h.1⟩) (by rfl) (fun W hW => ?_) (fun D => ?_)
          · obtain ⟨A2, c2, w6, h1, h2, h3⟩ := app_next (f := prtCells) (size := 2) (fun _ => rfl) (oneSignal) 23 48 (.agg #[.int .i64 0, .int .i64 0]) 16 Tryd.underlying23 infoSignal rfl (by omega) (by omega) HS9 (Nat.lt_succ_self gm) hW.1.1 hW.1.2 hnil hW.2 hg1 hlen
            exact ⟨(A2, c2), w6, exec_append (.tmp 42) (.tmp 54) 23 rfl h1, h2, h3⟩
          simp only [Act.put, List.setIfInBounds_toArray, List.set_cons_zero, List.set_cons_succ]
          repeat (first | (refine mix_skip (by rfl) ?_; simp only [Act.put, List.setIfInBounds_toArray, List.set_cons_zero, List.set_cons_succ]) | (refine mix_read _ (by rfl) (fun W hW => by (clear hW; go_simp; first | done | with_reducible rfl)) ?_; simp only [Act.put, List.setIfInBounds_toArray, List.set_cons_zero, List.set_cons_succ]))
          refine mix_store (fun W => At9 w2 gm (l.cells.set 1 (.slice D.1 (l.sigs ++ [y]).length D.2)) (fun _ => True) W ∧ W.ownsRow (gm + 1) 48 2 (.slice D.1 (l.sigs ++ [y]).length D.2) (l.sigs ++ [y]).length ((l.sigs ++ [y]).flatMap prtCells)) (fun W => W.setCell ⟨gm, 1, none⟩ (.slice D.1 (l.sigs ++ [y]).length D.2)) ⟨(At9.closed _ _ _ (fun _ _ _ _ => trivial)).and (Closed.owns _ _ _ _ _ _), fun W h => h.1.below⟩ (by rfl) (fun W hW => by (have yy := hW.1.box.cell_at 1 rfl; have ff := hW.1.box.frozen 1; clear hW; go_simp; first | done | rfl)) (fun W hW => At9.store (fun _ _ _ => trivial) (Nat.lt_succ_self gm) hW.1 hW.2 _) ?_
          simp only [Act.put, List.setIfInBounds_toArray, List.set_cons_zero, List.set_cons_succ]
          refine mix_nil (fun W hW => ?_)
          have he := HEND.out W D.1 D.2 hW.1 hW.2
          clear hW
          go_wp2_with fail
          go_meet
          exact he
        · refine mix_make (fun g => .slice (some ⟨g, 0, none⟩) 1 1) (gm + 1) 48 (prtCells y) ⟨HF.1.and (Closed.whole _ _ _), fun W h => HF.2 W h.1⟩ (fun W hW => HG1 W hW.1) (by rfl) (fun W hW => by (clear hW; go_simp; first | done | with_reducible rfl)) (fun g1 hg1 => ?_)
          simp only [Act.put, List.setIfInBounds_toArray, List.set_cons_zero, List.set_cons_succ]
          refine mix_nil ?_
          refine mix_yield (X := Option Addr × Nat) (fun B => .slice B.1 l.sigs.length B.2) (fun B W => (At9 w2 gm l.cells (fun _ => True) W ∧ W.ownsRow (gm + 1) 48 2 (.slice B.1 l.sigs.length B.2) l.sigs.length (l.sigs.flatMap prtCells)) ∧ Whole W g1 48 (prtCells y)) (fun B => ⟨(HF.1.and (Closed.owns _ _ _ _ _ _)).and (Closed.whole _ _ _), fun W h => HF.2 W h.1.1⟩) (by rfl) (fun W hW => ?_) (fun C => ?_)
          · obtain ⟨A2, c2, w6, h1, h2, h3, h4⟩ := app_first (f := prtCells) (size := 2) (fun _ => rfl) (oneSignal) 23 48 (.agg #[.int .i64 0, .int .i64 0]) 16 Tryd.underlying23 infoSignal rfl (by omega) (by omega) HS9 (Nat.lt_succ_self gm) hW.1.1 hW.1.2 hg0 l.sigs l.Ag l.cg (HQL.out _ (HK.out _ (HB9.out W (HF.2 W hW.1.1)))).sigs hlen
            exact ⟨(A2, c2), w6, exec_append (.tmp 39) (.tmp 41) 23 rfl h1, ⟨h2, h3⟩, h4 _ _ _ (fun e => whole_diff hW.1.2 hW.2 (by simp) e.symm) hW.2⟩
          simp only [Act.put, List.setIfInBounds_toArray, List.set_cons_zero, List.set_cons_succ]
          refine mix_yield (X := Option Addr × Nat) (fun B => .slice B.1 (l.sigs ++ [y]).length B.2) (fun B W => At9 w2 gm l.cells (fun _ => True) W ∧ W.ownsRow (gm + 1) 48 2 (.slice B.1 (l.sigs ++ [y]).length B.2) (l.sigs ++ [y]).length ((l.sigs ++ [y]).flatMap prtCells)) (fun B => ⟨HF.1.and (Closed.owns _ _ _ _ _ _), fun W h => HF.2 W h.1⟩) (by rfl) (fun W hW => ?_) (fun D => ?_)
          · obtain ⟨A2, c2, w6, h1, h2, h3⟩ := app_next (f := prtCells) (size := 2) (fun _ => rfl) (oneSignal) 23 48 (.agg #[.int .i64 0, .int .i64 0]) 16 Tryd.underlying23 infoSignal rfl (by omega) (by omega) HS9 (Nat.lt_succ_self gm) hW.1.1 hW.1.2 hnil hW.2 hg1 hlen
            exact ⟨(A2, c2), w6, exec_append (.tmp 42) (.tmp 54) 23 rfl h1, h2, h3⟩
          simp only [Act.put, List.setIfInBounds_toArray, List.set_cons_zero, List.set_cons_succ]
          repeat (first | (refine mix_skip (by rfl) ?_; simp only [Act.put, List.setIfInBounds_toArray, List.set_cons_zero, List.set_cons_succ]) | (refine mix_read _ (by rfl) (fun W hW => by (clear hW; go_simp; first | done | with_reducible rfl)) ?_; simp only [Act.put, List.setIfInBounds_toArray, List.set_cons_zero, List.set_cons_succ]))
          refine mix_store (fun W => At9 w2 gm (l.cells.set 1 (.slice D.1 (l.sigs ++ [y]).length D.2)) (fun _ => True) W ∧ W.ownsRow (gm + 1) 48 2 (.slice D.1 (l.sigs ++ [y]).length D.2) (l.sigs ++ [y]).length ((l.sigs ++ [y]).flatMap prtCells)) (fun W => W.setCell ⟨gm, 1, none⟩ (.slice D.1 (l.sigs ++ [y]).length D.2)) ⟨(At9.closed _ _ _ (fun _ _ _ _ => trivial)).and (Closed.owns _ _ _ _ _ _), fun W h => h.1.below⟩ (by rfl) (fun W hW => by (have yy := hW.1.box.cell_at 1 rfl; have ff := hW.1.box.frozen 1; clear hW; go_simp; first | done | rfl)) (fun W hW => At9.store (fun _ _ _ => trivial) (Nat.lt_succ_self gm) hW.1 hW.2 _) ?_
          simp only [Act.put, List.setIfInBounds_toArray, List.set_cons_zero, List.set_cons_succ]
          refine mix_nil (fun W hW => ?_)
          have he := HEND.out W D.1 D.2 hW.1 hW.2
          clear hW
          go_wp2_with fail
          go_meet
          exact he
      · refine mix_make (fun g => .slice (some ⟨g, 0, none⟩) 1 1) (gm + 1) 48 (prtCells y) HF (fun W hW => HG1 W hW) (by rfl) (fun W hW => by (clear hW; go_simp; first | done | with_reducible rfl)) (fun g1 hg1 => ?_)
        simp only [Act.put, List.setIfInBounds_toArray, List.set_cons_zero, List.set_cons_succ]
        refine mix_nil ?_
        refine mix_make (fun g => .slice (some ⟨g, 0, none⟩) 0 0) (gm + 1) 48 [] ⟨HF.1.and (Closed.whole _ _ _), fun W h => HF.2 W h.1⟩ (fun W hW => HG1 W hW.1) (by rfl) (fun W hW => by (clear hW; go_simp; first | done | with_reducible rfl)) (fun g0 hg0 => ?_)
        simp only [Act.put, List.setIfInBounds_toArray, List.set_cons_zero, List.set_cons_succ]
        refine mix_yield (X := Option Addr × Nat) (fun B => .slice B.1 l.sigs.length B.2) (fun B W => (At9 w2 gm l.cells (fun _ => True) W ∧ W.ownsRow (gm + 1) 48 2 (.slice B.1 l.sigs.length B.2) l.sigs.length (l.sigs.flatMap prtCells)) ∧ Whole W g1 48 (prtCells y)) (fun B => ⟨(HF.1.and (Closed.owns _ _ _ _ _ _)).and (Closed.whole _ _ _), fun W h => HF.2 W h.1.1⟩) (by rfl) (fun W hW => ?_) (fun C => ?_)
        · obtain ⟨A2, c2, w6, h1, h2, h3, h4⟩ := app_first (f := prtCells) (size := 2) (fun _ => rfl) (oneSignal) 23 48 (.agg #[.int .i64 0, .int .i64 0]) 16 Tryd.underlying23 infoSignal rfl (by omega) (by omega) HS9 (Nat.lt_succ_self gm) hW.1.1 hW.2 hg0 l.sigs l.Ag l.cg (HQL.out _ (HK.out _ (HB9.out W (HF.2 W hW.1.1)))).sigs hlen
          exact ⟨(A2, c2), w6, exec_append (.tmp 39) (.tmp 41) 23 rfl h1, ⟨h2, h3⟩, h4 _ _ _ (fun e => whole_diff hW.2 hW.1.2 (by simp) e.symm) hW.1.2⟩
        simp only [Act.put, List.setIfInBounds_toArray, List.set_cons_zero, List.set_cons_succ]
        refine mix_yield (X := Option Addr × Nat) (fun B => .slice B.1 (l.sigs ++ [y]).length B.2) (fun B W => At9 w2 gm l.cells (fun _ => True) W ∧ W.ownsRow (gm + 1) 48 2 (.slice B.1 (l.sigs ++ [y]).length B.2) (l.sigs ++ [y]).length ((l.sigs ++ [y]).flatMap prtCells)) (fun B => ⟨HF.1.and (Closed.owns _ _ _ _ _ _), fun W h => HF.2 W h.1⟩) (by rfl) (fun W hW => ?_) (fun D => ?_)
        · obtain ⟨A2, c2, w6, h1, h2, h3⟩ := app_next (f := prtCells) (size := 2) (fun _ => rfl) (oneSignal) 23 48 (.agg #[.int .i64 0, .int .i64 0]) 16 Tryd.underlying23 infoSignal rfl (by omega) (by omega) HS9 (Nat.lt_succ_self gm) hW.1.1 hW.1.2 hnil hW.2 hg1 hlen
          exact ⟨(A2, c2), w6, exec_append (.tmp 42) (.tmp 54) 23 rfl h1, h2, h3⟩
        simp only [Act.put, List.setIfInBounds_toArray, List.set_cons_zero, List.set_cons_succ]
        repeat (first | (refine mix_skip (by rfl) ?_; simp only [Act.put, List.setIfInBounds_toArray, List.set_cons_zero, List.set_cons_succ]) | (refine mix_read _ (by rfl) (fun W hW => by (clear hW; go_simp; first | done | with_reducible rfl)) ?_; simp only [Act.put, List.setIfInBounds_toArray, List.set_cons_zero, List.set_cons_succ]))
        refine mix_store (fun W => At9 w2 gm (l.cells.set 1 (.slice D.1 (l.sigs ++ [y]).length D.2)) (fun _ => True) W ∧ W.ownsRow (gm + 1) 48 2 (.slice D.1 (l.sigs ++ [y]).length D.2) (l.sigs ++ [y]).length ((l.sigs ++ [y]).flatMap prtCells)) (fun W => W.setCell ⟨gm, 1, none⟩ (.slice D.1 (l.sigs ++ [y]).length D.2)) ⟨(At9.closed _ _ _ (fun _ _ _ _ => trivial)).and (Closed.owns _ _ _ _ _ _), fun W h => h.1.below⟩ (by rfl) (fun W hW => by (have yy := hW.1.box.cell_at 1 rfl; have ff := hW.1.box.frozen 1; clear hW; go_simp; first | done | rfl)) (fun W hW => At9.store (fun _ _ _ => trivial) (Nat.lt_succ_self gm) hW.1 hW.2 _) ?_
        simp only [Act.put, List.setIfInBounds_toArray, List.set_cons_zero, List.set_cons_succ]
        refine mix_nil (fun W hW => ?_)
        have he := HEND.out W D.1 D.2 hW.1 hW.2
        clear hW
        go_wp2_with fail
        go_meet
        exact he
    case rest =>
      obtain ⟨m, HM⟩ := hcut
      obtain ⟨R, HR, HRq, HRm, HRl, hq⟩ : ∃ R : World → Prop, Hid (Closed R) ∧ Hid (∀ W, R W → Q W) ∧ Hid (∀ W, R W → Whole W gm 29 m.cells) ∧ Hid (∀ W, R W → Lies m W) ∧ R wc :=
        ⟨fun W => (Q W ∧ Whole W gm 29 m.cells) ∧ Lies m W, Lib.hid ((HQ.out.and (Closed.whole _ _ _)).and (Lies.closed m)), Lib.hid fun _ h => h.1.1, Lib.hid fun _ h => h.1.2, Lib.hid fun _ h => h.2, ⟨HK.out _ HM.out.1.below, HM.out.1.box⟩, HM.out.2.1⟩
      have KC := Lib.hid (fun W hW => keepR HR.out (check_any (w := W) (HQT.out W (HRq.out W hW)) (HRl.out W hW) HM.out.2.2) hW)
      clear HM
      have m0 := HRm.out _ hq
      have x0 := m0.cell_at 0 rfl
      have x1 := m0.cell_at 1 rfl
      have x2 := m0.cell_at 2 rfl
      have x3 := m0.cell_at 3 rfl
      have x4 := m0.cell_at 4 rfl
      have x5 := m0.cell_at 5 rfl
      have x6 := m0.cell_at 6 rfl
      have x7 := m0.cell_at 7 rfl
      have x8 := m0.cell_at 8 rfl
      have x9 := m0.cell_at 9 rfl
      have x10 := m0.cell_at 10 rfl
      clear m0
      go_wp2_with fail
      refine (KC.out _ hq).mono ?_
      clear x0 x1 x2 x3 x4 x5 x6 x7 x8 x9 x10 KC
      rintro e w5 ⟨rfl, hq⟩
      have hqq := HRq.out _ hq
      clear hq
      go_wp2_with fail
      go_meet
      exact Lib.hid hqq
  case rest =>
  obtain ⟨wa, rfl⟩ : ∃ W, W = wc := ⟨wc, rfl⟩
  have hq := hcut.out
  clear hcut HNB
  have x1 := (HQl.out _ hq).cell_at 2 rfl
  go_upto_region 11 with (fail)
  clear x1
  go_cut [82] from 77 to 82 (fun v wx => ∃ nb : Bool, v = .bool nb ∧ (wx = wa ∧ Hid (nb = true → 0 < l.exits.length ∧ l.exits.length < 12)))
  case first =>
    by_cases h0 : 0 < l.exits.length
    · go_wp2_with fail
      go_meet
      exact ⟨_, rfl, rfl, Lib.hid fun e => ⟨h0, by have := of_decide_eq_true e; omega⟩⟩
    · go_wp2_with fail
      go_meet
      exact ⟨false, rfl, rfl, Lib.hid fun e => by cases e⟩
  case rest =>
  obtain ⟨nb, rfl, hwc, HNB⟩ := hcut
  rw [hwc]
  clear hwc
  go_upto_if 82 with (fail)
  go_cut [] from 11 to 118 (fun wx => Hid (Q wx))
  case first =>
    cases nb
    · go_wp2_with fail
      go_meet
      exact Lib.hid hq
    obtain ⟨hn0, hn1⟩ := HNB.out rfl
    obtain ⟨p, hpl, hpe⟩ := at_num a hn0 (by omega)
    obtain ⟨y, hy⟩ : ∃ y, l.exits[p]? = some y := ⟨_, List.getElem?_eq_getElem hpl⟩
    have m0 := HQl.out _ hq
    have x0 := m0.cell_at 0 rfl
    have x1 := m0.cell_at 1 rfl
    have x2 := m0.cell_at 2 rfl
    have x3 := m0.cell_at 3 rfl
    have x4 := m0.cell_at 4 rfl
    have x5 := m0.cell_at 5 rfl
    have x6 := m0.cell_at 6 rfl
    have x7 := m0.cell_at 7 rfl
    have x8 := m0.cell_at 8 rfl
    have x9 := m0.cell_at 9 rfl
    have x10 := m0.cell_at 10 rfl
    clear m0
    go_upto_region 13 with (fail)
    clear x0 x1 x2 x3 x4 x5 x6 x7 x8 x9 x10
    obtain ⟨gm, hgm⟩ : ∃ gm, wa.heap.size = gm := ⟨_, rfl⟩
    obtain ⟨W3, hW3⟩ : ∃ W3, wa.alloc (.cells #[.slice l.As l.secs.length l.cs, .slice l.Ag l.sigs.length l.cg, .slice l.Ae l.exits.length l.ce, .slice l.Af l.flanks.length l.cf, .int .i64 l.t0, .int .i64 l.t1, .int .i64 l.t2, .int .i64 l.t3, .int .i64 l.t4, .int .i64 l.t5, .int .i64 l.t6] 29) = W3 := ⟨_, rfl⟩
    have HM3 : Hid (At9 wa gm l.cells (fun _ => True) W3) := Lib.hid (by rw [← hW3, ← hgm]; exact ⟨below1 wa _, Whole.new _ _ l.cells, trivial⟩)
    have HQ2 := Lib.hid hq
    have HGM := Lib.hid hgm
    have HK : Hid (∀ W, Below gm wa W → Q W) := Lib.hid (fun W hW => HQ.out _ _ HQ2.out (by rw [HGM.out]; exact hW))
    have HY := Lib.hid hy
    have HN := Lib.hid (And.intro hn0 (And.intro hn1 hpl))
    have HPE := Lib.hid hpe
    rw [hW3, hgm]
    clear hW3 hgm hq hy hn0 hn1 hpl hpe
    go_cut [] from 84 to 101 (fun wx => ∃ m : Lay, Hid (At9 wa gm m.cells (fun _ => True) wx ∧ Lies m wx ∧ checkV m = (3, (l.exits.length : Int), 90)))
    case first =>
      have hn0 := HN.out.1
      have dl : ((l.exits.length : Int) == 0) = false := by rw [beq_eq_false_iff_ne]; omega
      have dln : (l.exits.length == 0) = false := by rw [beq_eq_false_iff_ne]; omega
      have hnil : l.exits ≠ [] := fun e => by rw [e] at hn0; exact absurd hn0 (by simp)
      obtain ⟨b, off, hA, hC⟩ : ∃ b off, l.Ae = some ⟨b, off, none⟩ ∧ ∀ W, Q W → W.cell? ⟨b, off + p * 3, none⟩ = some (.int .i64 y.s) ∧ W.cell? ⟨b, off + p * 3 + 1, none⟩ = some (.int .i64 y.q) ∧ W.cell? ⟨b, off + p * 3 + 2, none⟩ = some (.slice y.A y.over.length y.c) := by
        obtain ⟨b, off, hA, _, hc0, hc⟩ := (HQL.out _ HQ2.out).exits.nth (n := 3) (fun _ => rfl) (by omega) HY.out
        refine ⟨b, off, hA, fun W hW => ?_⟩
        obtain ⟨b', off', hA', _, hc0, hc⟩ := (HQL.out _ hW).exits.nth (n := 3) (fun _ => rfl) (by omega) HY.out
        rw [hA] at hA'
        cases hA'
        exact ⟨hc0 p _ _ HY.out rfl, hc p _ 1 _ HY.out rfl, hc p _ 2 _ HY.out rfl⟩
      have HA := Lib.hid hA
      have HC := Lib.hid hC
      have HF : Fam (fun W => Below gm wa W) (At9 wa gm l.cells (fun _ => True)) := ⟨At9.closed _ _ _ (fun _ _ _ _ => trivial), fun _ h => h.below⟩
      have HG1 : ∀ W, At9 wa gm l.cells (fun _ => True) W → gm + 1 ≤ W.heap.size := fun W h => h.box.lt
      have HS9 : Stays9 (gm + 1) (fun _ => True) := fun _ _ _ _ _ _ => trivial
      have HEND : Hid (∀ (W : World) (A' : Option Addr) (c' : Nat), At9 wa gm (l.cells.set 2 (.slice A' (l.exits ++ [y]).length c')) (fun _ => True) W → W.ownsRow (gm + 1) 37 3 (.slice A' (l.exits ++ [y]).length c') (l.exits ++ [y]).length ((l.exits ++ [y]).flatMap Exm.cells) → ∃ m : Lay, Hid (At9 wa gm m.cells (fun _ => True) W ∧ Lies m W ∧ checkV m = (3, (l.exits.length : Int), 90))) := Lib.hid (fun W A' c' h1 h2 => by
        obtain ⟨A2, c2, e, hr⟩ := owns_read h2
        cases e
        have hL := HQL.out _ (HK.out _ h1.below)
        exact ⟨⟨l.secs, l.As, l.cs, l.sigs, l.Ag, l.cg, l.exits ++ [y], A', c', l.flanks, l.Af, l.cf, l.t0, l.t1, l.t2, l.t3, l.t4, l.t5, l.t6⟩, Lib.hid ⟨h1, ⟨hL.secs, hL.sigs, hr, hL.flanks, fun x hx => by rcases List.mem_append.1 hx with hx | hx; exact hL.overs x hx; rw [List.mem_singleton.1 hx]; exact hL.overs y (List.mem_of_getElem? HY.out), hL.kinds, hL.nS, hL.nG, by have := HN.out.2.1; simp only [List.length_append, List.length_singleton]; omega, hL.nF, fun x hx => by rcases List.mem_append.1 hx with hx | hx; exact hL.nO x hx; rw [List.mem_singleton.1 hx]; exact hL.nO y (List.mem_of_getElem? HY.out)⟩, once_exit HG.out rfl rfl HY.out HN.out.2.1 rfl rfl rfl⟩⟩)
      have hlen : l.exits.length ≤ 1000 := by have := HN.out.2.1; omega
      clear hA hC
      have HB9 : Hid (∀ W, (fun W => Below gm wa W) W → Below gm wa W) := Lib.hid (fun W h => h)
      refine region_tree (fun W => Below gm wa W) (.fork [(1, false), (2, false), (4, false), (5, false), (6, false), (7, false), (8, false), (9, false), (10, false), (11, false), (12, false), (13, false), (14, false)] 0 15 (.fork [] 3 15 (.last [(15, true), (16, true), (17, false), (18, true)]) (.last [(3, true), (16, true), (17, false), (18, true)])) (.last [(0, true), (3, true), (16, true), (17, false), (18, true)])) (by kernel_rfl) (by kernel_rfl) (At9 wa gm l.cells (fun _ => True)) HF ⟨HM3.out.below.drew, HM3.out.box, trivial⟩ ?_
      simp only [wpTree, pickOps, List.getElem?_cons_zero, List.getElem?_cons_succ]
      repeat (first | (refine mix_skip (by rfl) ?_; simp only [Act.put, List.setIfInBounds_toArray, List.set_cons_zero, List.set_cons_succ]) | (refine mix_read _ (by rfl) (fun W hW => by (have hq' := HK.out W (HB9.out W hW); have x1 := (HQl.out W hq').cell_at 2 rfl; clear hq'; go_simp; first | done | with_reducible rfl)) ?_; simp only [Act.put, List.setIfInBounds_toArray, List.set_cons_zero, List.set_cons_succ]))
      rw [HPE.out]
      have hpl := HN.out.2.2
      have hpl2 : (p : Int) < (l.exits.length : Int) := by omega
      repeat (first | (refine mix_skip (by rfl) ?_; simp only [Act.put, List.setIfInBounds_toArray, List.set_cons_zero, List.set_cons_succ]) | (refine mix_read _ (by rfl) (fun W hW => by (have hq' := HK.out W (HB9.out W hW); have x1 := (HQl.out W hq').cell_at 2 rfl; obtain ⟨cc0, cc1, cc2⟩ := HC.out W hq'; clear hq'; go_simp; first | done | with_reducible rfl)) ?_; simp only [Act.put, List.setIfInBounds_toArray, List.set_cons_zero, List.set_cons_succ]) | (refine mix_read _ (by rfl) (fun W hW => by (have hq' := HK.out W (HB9.out W hW); have x1 := (HQl.out W hq').cell_at 2 rfl; obtain ⟨cc0, cc1, cc2⟩ := HC.out W hq'; clear hq'; rw [HA.out]; go_simp; first | done | with_reducible rfl)) ?_; simp only [Act.put, List.setIfInBounds_toArray, List.set_cons_zero, List.set_cons_succ]))
      refine mix_nil (fun hF => ⟨?_, ?_⟩)
      · refine mix_make (fun g => .slice (some ⟨g, 0, none⟩) 0 0) (gm + 1) 37 [] HF (fun W hW => HG1 W hW) (by rfl) (fun W hW => by (clear hW; go_simp; first | done | with_reducible rfl)) (fun g0 hg0 => ?_)
        simp only [Act.put, List.setIfInBounds_toArray, List.set_cons_zero, List.set_cons_succ]
        refine mix_nil ?_
        refine mix_nil (fun hF => ⟨?_, ?_⟩)
        · refine mix_yield (X := Option Addr × Nat) (fun B => .slice B.1 l.exits.length B.2) (fun B W => At9 wa gm l.cells (fun _ => True) W ∧ W.ownsRow (gm + 1) 37 3 (.slice B.1 l.exits.length B.2) l.exits.length (l.exits.flatMap Exm.cells)) (fun B => ⟨HF.1.and (Closed.owns _ _ _ _ _ _), fun W h => HF.2 W h.1⟩) (by rfl) (fun W hW => ?_) (fun C => ?_)
          · obtain ⟨A2, c2, w6, h1, h2, h3, _⟩ := app_first (f := Exm.cells) (size := 3) (fun _ => rfl) (oneExit) 24 37 (.agg #[.int .i64 0, .int .i64 0, .slice none 0 0]) 40 Tryd.underlying24 infoExit rfl (by omega) (by omega) HS9 (Nat.lt_succ_self gm) hW.1 hW.2 hg0 l.exits l.Ae l.ce (HQL.out _ (HK.out _ (HB9.out W (HF.2 W hW.1)))).exits hlen
            exact ⟨(A2, c2), w6, exec_append (.tmp 84) (.tmp 86) 24 rfl h1, h2, h3⟩
          simp only [Act.put, List.setIfInBounds_toArray, List.set_cons_zero, List.set_cons_succ]
          refine mix_nil ?_
          refine mix_make (fun g => .slice (some ⟨g, 0, none⟩) 1 1) (gm + 1) 37 (Exm.cells y) ⟨HF.1.and (Closed.owns _ _ _ _ _ _), fun W h => HF.2 W h.1⟩ (fun W hW => HG1 W hW.1) (by rfl) (fun W hW => by (clear hW; go_simp; first | done | with_reducible rfl)) (fun g1 hg1 => ?_)
          simp only [Act.put, List.setIfInBounds_toArray, List.set_cons_zero, List.set_cons_succ]
          refine mix_yield (X := Option Addr × Nat) (fun B => .slice B.1 (l.exits ++ [y]).length B.2) (fun B W => At9 wa gm l.cells (fun _ => True) W ∧ W.ownsRow (gm + 1) 37 3 (.slice B.1 (l.exits ++ [y]).length B.2) (l.exits ++ [y]).length ((l.exits ++ [y]).flatMap Exm.cells)) (fun B => ⟨HF.1.and (Closed.owns _ _ _ _ _ _), fun W h => HF.2 W h.1⟩) (by rfl) (fun W hW => ?_) (fun D => ?_)
          · obtain ⟨A2, c2, w6, h1, h2, h3⟩ := app_next (f := Exm.cells) (size := 3) (fun _ => rfl) (oneExit) 24 37 (.agg #[.int .i64 0, .int .i64 0, .slice none 0 0]) 40 Tryd.underlying24 infoExit rfl (by omega) (by omega) HS9 (Nat.lt_succ_self gm) hW.1.1 hW.1.2 hnil hW.2 hg1 hlen
            exact ⟨(A2, c2), w6, exec_append (.tmp 87) (.tmp 99) 24 rfl h1, h2, h3⟩
          simp only [Act.put, List.setIfInBounds_toArray, List.set_cons_zero, List.set_cons_succ]
          repeat (first | (refine mix_skip (by rfl) ?_; simp only [Act.put, List.setIfInBounds_toArray, List.set_cons_zero, List.set_cons_succ]) | (refine mix_read _ (by rfl) (fun W hW => by (clear hW; go_simp; first | done | with_reducible rfl)) ?_; simp only [Act.put, List.setIfInBounds_toArray, List.set_cons_zero, List.set_cons_succ]))
          refine mix_store (fun W => At9 wa gm (l.cells.set 2 (.slice D.1 (l.exits ++ [y]).length D.2)) (fun _ => True) W ∧ W.ownsRow (gm + 1) 37 3 (.slice D.1 (l.exits ++ [y]).length D.2) (l.exits ++ [y]).length ((l.exits ++ [y]).flatMap Exm.cells)) (fun W => W.setCell ⟨gm, 2, none⟩ (.slice D.1 (l.exits ++ [y]).length D.2)) ⟨(At9.closed _ _ _ (fun _ _ _ _ => trivial)).and (Closed.owns _ _ _ _ _ _), fun W h => h.1.below⟩ (by rfl) (fun W hW => by (have yy := hW.1.box.cell_at 2 rfl; have ff := hW.1.box.frozen 2; clear hW; go_simp; first | done | rfl)) (fun W hW => At9.store (fun _ _ _ => trivial) (Nat.lt_succ_self gm) hW.1 hW.2 _) ?_
          simp only [Act.put, List.setIfInBounds_toArray, List.set_cons_zero, List.set_cons_succ]
          refine mix_nil (fun W hW => ?_)
          have he := HEND.out W D.1 D.2 hW.1 hW.2
          clear hW
          go_wp2_with fail
          go_meet
          exact he
        · refine mix_make (fun g => .slice (some ⟨g, 0, none⟩) 1 1) (gm + 1) 37 (Exm.cells y) ⟨HF.1.and (Closed.whole _ _ _), fun W h => HF.2 W h.1⟩ (fun W hW => HG1 W hW.1) (by rfl) (fun W hW => by (clear hW; go_simp; first | done | with_reducible rfl)) (fun g1 hg1 => ?_)
          simp only [Act.put, List.setIfInBounds_toArray, List.set_cons_zero, List.set_cons_succ]
          refine mix_nil ?_
          refine mix_yield (X := Option Addr × Nat) (fun B => .slice B.1 l.exits.length B.2) (fun B W => (At9 wa gm l.cells (fun _ => True) W ∧ W.ownsRow (gm + 1) 37 3 (.slice B.1 l.exits.length B.2) l.exits.length (l.exits.flatMap Exm.cells)) ∧ Whole W g1 37 (Exm.cells y)) (fun B => ⟨(HF.1.and (Closed.owns _ _ _ _ _ _)).and (Closed.whole _ _ _), fun W h => HF.2 W h.1.1⟩) (by rfl) (fun W hW => ?_) (fun C => ?_)
          · obtain ⟨A2, c2, w6, h1, h2, h3, h4⟩ := app_first (f := Exm.cells) (size := 3) (fun _ => rfl) (oneExit) 24 37 (.agg #[.int .i64 0, .int .i64 0, .slice none 0 0]) 40 Tryd.underlying24 infoExit rfl (by omega) (by omega) HS9 (Nat.lt_succ_self gm) hW.1.1 hW.1.2 hg0 l.exits l.Ae l.ce (HQL.out _ (HK.out _ (HB9.out W (HF.2 W hW.1.1)))).exits hlen
            exact ⟨(A2, c2), w6, exec_append (.tmp 84) (.tmp 86) 24 rfl h1, ⟨h2, h3⟩, h4 _ _ _ (fun e => whole_diff hW.1.2 hW.2 (by simp) e.symm) hW.2⟩
          simp only [Act.put, List.setIfInBounds_toArray, List.set_cons_zero, List.set_cons_succ]
          refine mix_yield (X := Option Addr × Nat) (fun B => .slice B.1 (l.exits ++ [y]).length B.2) (fun B W => At9 wa gm l.cells (fun _ => True) W ∧ W.ownsRow (gm + 1) 37 3 (.slice B.1 (l.exits ++ [y]).length B.2) (l.exits ++ [y]).length ((l.exits ++ [y]).flatMap Exm.cells)) (fun B => ⟨HF.1.and (Closed.owns _ _ _ _ _ _), fun W h => HF.2 W h.1⟩) (by rfl) (fun W hW => ?_) (fun D => ?_)
          · obtain ⟨A2, c2, w6, h1, h2, h3⟩ := app_next (f := Exm.cells) (size := 3) (fun _ => rfl) (oneExit) 24 37 (.agg #[.int .i64 0, .int .i64 0, .slice none 0 0]) 40 Tryd.underlying24 infoExit rfl (by omega) (by omega) HS9 (Nat.lt_succ_self gm) hW.1.1 hW.1.2 hnil hW.2 hg1 hlen
            exact ⟨(A2, c2), w6, exec_append (.tmp 87) (.tmp 99) 24 rfl h1, h2, h3⟩
          simp only [Act.put, List.setIfInBounds_toArray, List.set_cons_zero, List.set_cons_succ]
          repeat (first | (refine mix_skip (by rfl) ?_; simp only [Act.put, List.setIfInBounds_toArray, List.set_cons_zero, List.set_cons_succ]) | (refine mix_read _ (by rfl) (fun W hW => by (clear hW; go_simp; first | done | with_reducible rfl)) ?_; simp only [Act.put, List.setIfInBounds_toArray, List.set_cons_zero, List.set_cons_succ]))
          refine mix_store (fun W => At9 wa gm (l.cells.set 2 (.slice D.1 (l.exits ++ [y]).length D.2)) (fun _ => True) W ∧ W.ownsRow (gm + 1) 37 3 (.slice D.1 (l.exits ++ [y]).length D.2) (l.exits ++ [y]).length ((l.exits ++ [y]).flatMap Exm.cells)) (fun W => W.setCell ⟨gm, 2, none⟩ (.slice D.1 (l.exits ++ [y]).length D.2)) ⟨(At9.closed _ _ _ (fun _ _ _ _ => trivial)).and (Closed.owns _ _ _ _ _ _), fun W h => h.1.below⟩ (by rfl) (fun W hW => by (have yy := hW.1.box.cell_at 2 rfl; have ff := hW.1.box.frozen 2; clear hW; go_simp; first | done | rfl)) (fun W hW => At9.store (fun _ _ _ => trivial) (Nat.lt_succ_self gm) hW.1 hW.2 _) ?_
          simp only [Act.put, List.setIfInBounds_toArray, List.set_cons_zero, List.set_cons_succ]
          refine mix_nil (fun W hW => ?_)
          have he := HEND.out W D.1 D.2 hW.1 hW.2
          clear hW
          go_wp2_with fail
          go_meet
          exact he
      · refine mix_make (fun g => .slice (some ⟨g, 0, none⟩) 1 1) (gm + 1) 37 (Exm.cells y) HF (fun W hW => HG1 W hW) (by rfl) (fun W hW => by (clear hW; go_simp; first | done | with_reducible rfl)) (fun g1 hg1 => ?_)
        simp only [Act.put, List.setIfInBounds_toArray, List.set_cons_zero, List.set_cons_succ]
        refine mix_nil ?_
        refine mix_make (fun g => .slice (some ⟨g, 0, none⟩) 0 0) (gm + 1) 37 [] ⟨HF.1.and (Closed.whole _ _ _), fun W h => HF.2 W h.1⟩ (fun W hW => HG1 W hW.1) (by rfl) (fun W hW => by (clear hW; go_simp; first | done | with_reducible rfl)) (fun g0 hg0 => ?_)
        simp only [Act.put, List.setIfInBounds_toArray, List.set_cons_zero, List.set_cons_succ]
        refine mix_yield (X := Option Addr × Nat) (fun B => .slice B.1 l.exits.length B.2) (fun B W => (At9 wa gm l.cells (fun _ => True) W ∧ W.ownsRow (gm + 1) 37 3 (.slice B.1 l.exits.length B.2) l.exits.length (l.exits.flatMap Exm.cells)) ∧ Whole W g1 37 (Exm.cells y)) (fun B => ⟨(HF.1.and (Closed.owns _ _ _ _ _ _)).and (Closed.whole _ _ _), fun W h => HF.2 W h.1.1⟩) (by rfl) (fun W hW => ?_) (fun C => ?_)
        · obtain ⟨A2, c2, w6, h1, h2, h3, h4⟩ := app_first (f := Exm.cells) (size := 3) (fun _ => rfl) (oneExit) 24 37 (.agg #[.int .i64 0, .int .i64 0, .slice none 0 0]) 40 Tryd.underlying24 infoExit rfl (by omega) (by omega) HS9 (Nat.lt_succ_self gm) hW.1.1 hW.2 hg0 l.exits l.Ae l.ce (HQL.out _ (HK.out _ (HB9.out W (HF.2 W hW.1.1)))).exits hlen
          exact ⟨(A2, c2), w6, exec_append (.tmp 84) (.tmp 86) 24 rfl h1, ⟨h2, h3⟩, h4 _ _ _ (fun e => whole_diff hW.2 hW.1.2 (by simp) e.symm) hW.1.2⟩
        simp only [Act.put, List.setIfInBounds_toArray, List.set_cons_zero, List.set_cons_succ]
        refine mix_yield (X := Option Addr × Nat) (fun B => .slice B.1 (l.exits ++ [y]).length B.2) (fun B W => At9 wa gm l.cells (fun _ => True) W ∧ W.ownsRow (gm + 1) 37 3 (.slice B.1 (l.exits ++ [y]).length B.2) (l.exits ++ [y]).length ((l.exits ++ [y]).flatMap Exm.cells)) (fun B => ⟨HF.1.and (Closed.owns _ _ _ _ _ _), fun W h => HF.2 W h.1⟩) (by rfl) (fun W hW => ?_) (fun D => ?_)
        · obtain ⟨A2, c2, w6, h1, h2, h3⟩ := app_next (f := Exm.cells) (size := 3) (fun _ => rfl) (oneExit) 24 37 (.agg #[.int .i64 0, .int .i64 0, .slice none 0 0]) 40 Tryd.underlying24 infoExit rfl (by omega) (by omega) HS9 (Nat.lt_succ_self gm) hW.1.1 hW.1.2 hnil hW.2 hg1 hlen
          exact ⟨(A2, c2), w6, exec_append (.tmp 87) (.tmp 99) 24 rfl h1, h2, h3⟩
        simp only [Act.put, List.setIfInBounds_toArray, List.set_cons_zero, List.set_cons_succ]
        repeat (first | (refine mix_skip (by rfl) ?_; simp only [Act.put, List.setIfInBounds_toArray, List.set_cons_zero, List.set_cons_succ]) | (refine mix_read _ (by rfl) (fun W hW => by (clear hW; go_simp; first | done | with_reducible rfl)) ?_; simp only [Act.put, List.setIfInBounds_toArray, List.set_cons_zero, List.set_cons_succ]))
        refine mix_store (fun W => At9 wa gm (l.cells.set 2 (.slice D.1 (l.exits ++ [y]).length D.2)) (fun _ => True) W ∧ W.ownsRow (gm + 1) 37 3 (.slice D.1 (l.exits ++ [y]).length D.2) (l.exits ++ [y]).length ((l.exits ++ [y]).flatMap Exm.cells)) (fun W => W.setCell ⟨gm, 2, none⟩ (.slice D.1 (l.exits ++ [y]).length D.2)) ⟨(At9.closed _ _ _ (fun _ _ _ _ => trivial)).and (Closed.owns _ _ _ _ _ _), fun W h => h.1.below⟩ (by rfl) (fun W hW => by (have yy := hW.1.box.cell_at 2 rfl; have ff := hW.1.box.frozen 2; clear hW; go_simp; first | done | rfl)) (fun W hW => At9.store (fun _ _ _ => trivial) (Nat.lt_succ_self gm) hW.1 hW.2 _) ?_
        simp only [Act.put, List.setIfInBounds_toArray, List.set_cons_zero, List.set_cons_succ]
        refine mix_nil (fun W hW => ?_)
        have he := HEND.out W D.1 D.2 hW.1 hW.2
        clear hW
        go_wp2_with fail
        go_meet
        exact he
    case rest =>
      obtain ⟨m, HM⟩ := hcut
      obtain ⟨R, HR, HRq, HRm, HRl, hq⟩ : ∃ R : World → Prop, Hid (Closed R) ∧ Hid (∀ W, R W → Q W) ∧ Hid (∀ W, R W → Whole W gm 29 m.cells) ∧ Hid (∀ W, R W → Lies m W) ∧ R wc :=
        ⟨fun W => (Q W ∧ Whole W gm 29 m.cells) ∧ Lies m W, Lib.hid ((HQ.out.and (Closed.whole _ _ _)).and (Lies.closed m)), Lib.hid fun _ h => h.1.1, Lib.hid fun _ h => h.1.2, Lib.hid fun _ h => h.2, ⟨HK.out _ HM.out.1.below, HM.out.1.box⟩, HM.out.2.1⟩
      have KC := Lib.hid (fun W hW => keepR HR.out (check_any (w := W) (HQT.out W (HRq.out W hW)) (HRl.out W hW) HM.out.2.2) hW)
      clear HM
      have m0 := HRm.out _ hq
      have x0 := m0.cell_at 0 rfl
      have x1 := m0.cell_at 1 rfl
      have x2 := m0.cell_at 2 rfl
      have x3 := m0.cell_at 3 rfl
      have x4 := m0.cell_at 4 rfl
      have x5 := m0.cell_at 5 rfl
      have x6 := m0.cell_at 6 rfl
      have x7 := m0.cell_at 7 rfl
      have x8 := m0.cell_at 8 rfl
      have x9 := m0.cell_at 9 rfl
      have x10 := m0.cell_at 10 rfl
      clear m0
      go_wp2_with fail
      refine (KC.out _ hq).mono ?_
      clear x0 x1 x2 x3 x4 x5 x6 x7 x8 x9 x10 KC
      rintro e w5 ⟨rfl, hq⟩
      have hqq := HRq.out _ hq
      clear hq
      go_wp2_with fail
      go_meet
      exact Lib.hid hqq
  case rest =>
  obtain ⟨wb, rfl⟩ : ∃ W, W = wc := ⟨wc, rfl⟩
  have hq := hcut.out
  clear hcut HNB
  have x1 := (HQl.out _ hq).cell_at 3 rfl
  go_upto_region 18 with (fail)
  clear x1
  go_cut [127] from 122 to 127 (fun v wx => ∃ nb : Bool, v = .bool nb ∧ (wx = wb ∧ Hid (nb = true → 0 < l.flanks.length ∧ l.flanks.length < 16)))
  case first =>
    by_cases h0 : 0 < l.flanks.length
    · go_wp2_with fail
      go_meet
      exact ⟨_, rfl, rfl, Lib.hid fun e => ⟨h0, by have := of_decide_eq_true e; omega⟩⟩
    · go_wp2_with fail
      go_meet
      exact ⟨false, rfl, rfl, Lib.hid fun e => by cases e⟩
  case rest =>
  obtain ⟨nb, rfl, hwc, HNB⟩ := hcut
  rw [hwc]
  clear hwc
  go_upto_if 127 with (fail)
  go_cut [] from 16 to 168 (fun wx => Hid (Q wx))
  case first =>
    cases nb
    · go_wp2_with fail
      go_meet
      exact Lib.hid hq
    obtain ⟨hn0, hn1⟩ := HNB.out rfl
    obtain ⟨p, hpl, hpe⟩ := at_num a hn0 (by omega)
    obtain ⟨⟨ya, yb, yc, yd⟩, hy⟩ : ∃ y, l.flanks[p]? = some y := ⟨_, List.getElem?_eq_getElem hpl⟩
    have m0 := HQl.out _ hq
    have x0 := m0.cell_at 0 rfl
    have x1 := m0.cell_at 1 rfl
    have x2 := m0.cell_at 2 rfl
    have x3 := m0.cell_at 3 rfl
    have x4 := m0.cell_at 4 rfl
    have x5 := m0.cell_at 5 rfl
    have x6 := m0.cell_at 6 rfl
    have x7 := m0.cell_at 7 rfl
    have x8 := m0.cell_at 8 rfl
    have x9 := m0.cell_at 9 rfl
    have x10 := m0.cell_at 10 rfl
    clear m0
    go_upto_region 20 with (fail)
    clear x0 x1 x2 x3 x4 x5 x6 x7 x8 x9 x10
    obtain ⟨gm, hgm⟩ : ∃ gm, wb.heap.size = gm := ⟨_, rfl⟩
    obtain ⟨W3, hW3⟩ : ∃ W3, wb.alloc (.cells #[.slice l.As l.secs.length l.cs, .slice l.Ag l.sigs.length l.cg, .slice l.Ae l.exits.length l.ce, .slice l.Af l.flanks.length l.cf, .int .i64 l.t0, .int .i64 l.t1, .int .i64 l.t2, .int .i64 l.t3, .int .i64 l.t4, .int .i64 l.t5, .int .i64 l.t6] 29) = W3 := ⟨_, rfl⟩
    have HM3 : Hid (Below gm wb W3 ∧ Whole W3 gm 29 l.cells) := Lib.hid (by rw [← hW3, ← hgm]; exact ⟨below1 wb _, Whole.new _ _ l.cells⟩)
    have HQ2 := Lib.hid hq
    have HGM := Lib.hid hgm
    have HK : Hid (∀ W, Below gm wb W → Q W) := Lib.hid (fun W hW => HQ.out _ _ HQ2.out (by rw [HGM.out]; exact hW))
    have HY := Lib.hid hy
    have HYD : Hid (0 ≤ yd ∧ yd ≤ 1) := Lib.hid (by
      have := (rightL_iff.1 HG.out.right).2.2.2.2.2 _ (List.mem_of_getElem? hy)
      unfold flankV at this
      simp only [Bool.and_eq_true] at this
      exact withinA_iff.1 this.2.2.2)
    have HN := Lib.hid (And.intro hn0 (And.intro hn1 hpl))
    have HPE := Lib.hid hpe
    rw [hW3, hgm]
    clear hW3 hgm hq hy hn1 hpl hpe
    have dl : ((l.flanks.length : Int) == 0) = false := by rw [beq_eq_false_iff_ne]; omega
    have dln : (l.flanks.length == 0) = false := by rw [beq_eq_false_iff_ne]; omega
    have hnil : l.flanks ≠ [] := fun e => by rw [e] at hn0; exact absurd hn0 (by simp)
    obtain ⟨b, off, hA, hC⟩ : ∃ b off, l.Af = some ⟨b, off, none⟩ ∧ ∀ W, Q W → W.cell? ⟨b, off + p * 4, none⟩ = some (.int .i64 ya) ∧ W.cell? ⟨b, off + p * 4 + 1, none⟩ = some (.int .i64 yb) ∧ W.cell? ⟨b, off + p * 4 + 2, none⟩ = some (.int .i64 yc) ∧ W.cell? ⟨b, off + p * 4 + 3, none⟩ = some (.int .i64 yd) := by
      obtain ⟨b, off, hA, _, hc0, hc⟩ := (HQL.out _ HQ2.out).flanks.nth (n := 4) (fun _ => rfl) (by omega) HY.out
      refine ⟨b, off, hA, fun W hW => ?_⟩
      obtain ⟨b', off', hA', _, hc0, hc⟩ := (HQL.out _ hW).flanks.nth (n := 4) (fun _ => rfl) (by omega) HY.out
      rw [hA] at hA'
      cases hA'
      exact ⟨hc0 p _ _ HY.out rfl, hc p _ 1 _ HY.out rfl, hc p _ 2 _ HY.out rfl, hc p _ 3 _ HY.out rfl⟩
    have HA := Lib.hid hA
    have HC := Lib.hid hC
    clear hA hC
    have HK3 : Hid (∀ W, Below W3.heap.size W3 W → Q W) := Lib.hid (fun W hW => HQ.out _ _ (HK.out _ HM3.out.1) hW)
    refine region_mix (Below W3.heap.size W3) [(0, false), (1, false), (2, false), (3, false), (4, false), (5, false), (6, false), (7, false), (8, false), (9, false), (10, false), (11, true), (12, true)] (by kernel_rfl) (by kernel_rfl) (Below W3.heap.size W3) ⟨Closed.below W3, fun _ h => h⟩ (Below.refl _ _).drew ?_
    simp only [pickOps, List.getElem?_cons_zero, List.getElem?_cons_succ]
    repeat (first | (refine mix_skip (by rfl) ?_; simp only [Act.put, List.setIfInBounds_toArray, List.set_cons_zero, List.set_cons_succ]) | (refine mix_read _ (by rfl) (fun W hW => by (have hq' := HK3.out W hW; have x1 := (HQl.out W hq').cell_at 3 rfl; clear hq'; go_simp; first | done | with_reducible rfl)) ?_; simp only [Act.put, List.setIfInBounds_toArray, List.set_cons_zero, List.set_cons_succ]))
    rw [HPE.out]
    have hpl := HN.out.2.2
    have hpl2 : (p : Int) < (l.flanks.length : Int) := by omega
    repeat (first | (refine mix_skip (by rfl) ?_; simp only [Act.put, List.setIfInBounds_toArray, List.set_cons_zero, List.set_cons_succ]) | (refine mix_read _ (by rfl) (fun W hW => by (have hq' := HK3.out W hW; have x1 := (HQl.out W hq').cell_at 3 rfl; obtain ⟨cc0, cc1, cc2, cc3⟩ := HC.out W hq'; clear hq'; go_simp; first | done | with_reducible rfl)) ?_; simp only [Act.put, List.setIfInBounds_toArray, List.set_cons_zero, List.set_cons_succ]) | (refine mix_read _ (by rfl) (fun W hW => by (have hq' := HK3.out W hW; have x1 := (HQl.out W hq').cell_at 3 rfl; obtain ⟨cc0, cc1, cc2, cc3⟩ := HC.out W hq'; clear hq'; rw [HA.out]; go_simp; first | done | with_reducible rfl)) ?_; simp only [Act.put, List.setIfInBounds_toArray, List.set_cons_zero, List.set_cons_succ]))
    refine mix_alloc W3.heap.size 53 [.int .i64 0, .int .i64 0, .int .i64 0, .int .i64 0] ⟨Closed.below W3, fun _ h => h⟩ (fun _ h => h.size) (by rfl) (fun W hW => by (go_simp; first | done | with_reducible rfl)) (fun g hg => ?_)
    simp only [Act.put, List.setIfInBounds_toArray, List.set_cons_zero, List.set_cons_succ]
    refine mix_fill 53 (.tmp 17) (.tmp 139) g W3.heap.size W3 [.int .i64 0, .int .i64 0, .int .i64 0, .int .i64 0] [.int .i64 ya, .int .i64 yb, .int .i64 yc, .int .i64 yd] hg (fun _ h => h) (Nat.le_refl _) (fun _ h => h) rfl (by rfl) (by rfl) (by kernel_rfl) rfl (by kernel_rfl) (by rfl) ?_
    simp only [Act.put, List.setIfInBounds_toArray, List.set_cons_zero, List.set_cons_succ]
    refine mix_nil (fun W hW => ?_)
    have c3 := hW.2.cell_at 3 rfl
    have f3 := hW.2.frozen 3
    have hwd : IntKind.i64.wrap (1 - yd) = 1 - yd := IntWalk.i64_in _ (by have := HYD.out; omega)
    have HW4 := Lib.hid hW
    clear hW dl dln hpl hpl2
    go_upto_region 22 with (fail)
    obtain ⟨gf, hgf⟩ : ∃ gf, g = gf := ⟨_, rfl⟩
    obtain ⟨W4, hW4⟩ : ∃ W4, W.setCell ⟨g, 3, none⟩ (.int .i64 (1 - yd)) = W4 := ⟨_, rfl⟩
    have hgg : gm < gf := by have := HM3.out.2.lt; omega
    have HM4 : Hid (At9 wb gm l.cells (fun W => Whole W gf 53 [.int .i64 ya, .int .i64 yb, .int .i64 yc, .int .i64 (1 - yd)]) W4) := Lib.hid (by
      rw [← hW4, ← hgf]
      have h1 : Below gm wb W := HM3.out.1.trans (HW4.out.1.mono (Nat.le_of_lt HM3.out.2.lt))
      have h2 := HM3.out.2.below HW4.out.1 HM3.out.2.lt
      exact ⟨h1.setCell (p := ⟨g, 3, none⟩) (by show gm ≤ g; omega) _, h2.far (p := ⟨g, 3, none⟩) (by show gm ≠ g; omega) _, HW4.out.2.set 3 _⟩)
    rw [hW4, hgf]
    have HGG := Lib.hid hgg
    clear hW4 hgf c3 f3 hwd hgg HW4
    go_cut [] from 144 to 151 (fun wx => ∃ m : Lay, Hid (At9 wb gm m.cells (fun W => Whole W gf 53 [.int .i64 ya, .int .i64 yb, .int .i64 yc, .int .i64 (1 - yd)]) wx ∧ Lies m wx ∧ checkV m = (5, (l.flanks.length : Int), 90)))
    case first =>
      have hgg := HGG.out
      have HEC : Closed (fun W => Whole W gf 53 [.int .i64 ya, .int .i64 yb, .int .i64 yc, .int .i64 (1 - yd)]) := fun _ _ h hb => h.below hb h.lt
      have HES : ∀ W v, (fun W => Whole W gf 53 [.int .i64 ya, .int .i64 yb, .int .i64 yc, .int .i64 (1 - yd)]) W → (fun W => Whole W gf 53 [.int .i64 ya, .int .i64 yb, .int .i64 yc, .int .i64 (1 - yd)]) (W.setCell ⟨gm, 3, none⟩ v) := fun W v h => h.far (p := ⟨gm, 3, none⟩) (by show gf ≠ gm; omega) v
      have HF : Fam (fun W => Below gm wb W ∧ (fun W => Whole W gf 53 [.int .i64 ya, .int .i64 yb, .int .i64 yc, .int .i64 (1 - yd)]) W) (At9 wb gm l.cells (fun W => Whole W gf 53 [.int .i64 ya, .int .i64 yb, .int .i64 yc, .int .i64 (1 - yd)])) := ⟨At9.closed _ _ _ HEC, fun _ h => ⟨h.below, h.ext⟩⟩
      have HG1 : ∀ W, At9 wb gm l.cells (fun W => Whole W gf 53 [.int .i64 ya, .int .i64 yb, .int .i64 yc, .int .i64 (1 - yd)]) W → gf + 1 ≤ W.heap.size := fun W h => h.ext.lt
      have HS9 : Stays9 (gf + 1) (fun W => Whole W gf 53 [.int .i64 ya, .int .i64 yb, .int .i64 yc, .int .i64 (1 - yd)]) := fun W W' k h hgr hk => Whole.kept h hgr (by intro e; cases e; omega)
      have HEND : Hid (∀ (W : World) (A' : Option Addr) (c' : Nat), At9 wb gm (l.cells.set 3 (.slice A' (l.flanks ++ [(ya, yb, yc, 1 - yd)]).length c')) (fun W => Whole W gf 53 [.int .i64 ya, .int .i64 yb, .int .i64 yc, .int .i64 (1 - yd)]) W → W.ownsRow (gf + 1) 53 4 (.slice A' (l.flanks ++ [(ya, yb, yc, 1 - yd)]).length c') (l.flanks ++ [(ya, yb, yc, 1 - yd)]).length ((l.flanks ++ [(ya, yb, yc, 1 - yd)]).flatMap flkCells) → ∃ m : Lay, Hid (At9 wb gm m.cells (fun W => Whole W gf 53 [.int .i64 ya, .int .i64 yb, .int .i64 yc, .int .i64 (1 - yd)]) W ∧ Lies m W ∧ checkV m = (5, (l.flanks.length : Int), 90))) := Lib.hid (fun W A' c' h1 h2 => by
        obtain ⟨A2, c2, e, hr⟩ := owns_read h2
        cases e
        have hL := HQL.out _ (HK.out _ h1.below)
        exact ⟨⟨l.secs, l.As, l.cs, l.sigs, l.Ag, l.cg, l.exits, l.Ae, l.ce, l.flanks ++ [(ya, yb, yc, 1 - yd)], A', c', l.t0, l.t1, l.t2, l.t3, l.t4, l.t5, l.t6⟩, Lib.hid ⟨h1, ⟨hL.secs, hL.sigs, hL.exits, hr, hL.overs, hL.kinds, hL.nS, hL.nG, hL.nE, by have := HN.out.2.1; simp only [List.length_append, List.length_singleton]; omega, hL.nO⟩, once_flank HG.out rfl rfl HY.out HN.out.2.1 rfl rfl rfl⟩⟩)
      have hlen : l.flanks.length ≤ 1000 := by have := HN.out.2.1; omega
      have HB9 : Hid (∀ W, (fun W => Below gm wb W ∧ (fun W => Whole W gf 53 [.int .i64 ya, .int .i64 yb, .int .i64 yc, .int .i64 (1 - yd)]) W) W → Below gm wb W) := Lib.hid (fun W h => h.1)
      refine region_tree (fun W => Below gm wb W ∧ (fun W => Whole W gf 53 [.int .i64 ya, .int .i64 yb, .int .i64 yc, .int .i64 (1 - yd)]) W) (.fork [(1, false), (2, false), (4, false)] 0 5 (.fork [] 3 5 (.last [(5, true), (6, true), (7, false), (8, true)]) (.last [(3, true), (6, true), (7, false), (8, true)])) (.last [(0, true), (3, true), (6, true), (7, false), (8, true)])) (by kernel_rfl) (by kernel_rfl) (At9 wb gm l.cells (fun W => Whole W gf 53 [.int .i64 ya, .int .i64 yb, .int .i64 yc, .int .i64 (1 - yd)])) HF ⟨HM4.out.below.drew, HM4.out.box, HM4.out.ext⟩ ?_
      simp only [wpTree, pickOps, List.getElem?_cons_zero, List.getElem?_cons_succ]
      repeat (first | (refine mix_skip (by rfl) ?_; simp only [Act.put, List.setIfInBounds_toArray, List.set_cons_zero, List.set_cons_succ]) | (refine mix_read _ (by rfl) (fun W hW => by (have hq' := HK.out W (HB9.out W hW); have x1 := (HQl.out W hq').cell_at 3 rfl; have ee := hW.2; have g0 := ee.cell_at 0 rfl; have g1 := ee.cell_at 1 rfl; have g2 := ee.cell_at 2 rfl; have g3 := ee.cell_at 3 rfl; clear ee; clear hq'; go_simp; first | done | with_reducible rfl)) ?_; simp only [Act.put, List.setIfInBounds_toArray, List.set_cons_zero, List.set_cons_succ]))
      refine mix_nil (fun hF => ⟨?_, ?_⟩)
      · refine mix_make (fun g => .slice (some ⟨g, 0, none⟩) 0 0) (gf + 1) 53 [] HF (fun W hW => HG1 W hW) (by rfl) (fun W hW => by (clear hW; go_simp; first | done | with_reducible rfl)) (fun g0 hg0 => ?_)
        simp only [Act.put, List.setIfInBounds_toArray, List.set_cons_zero, List.set_cons_succ]
        refine mix_nil ?_
        refine mix_nil (fun hF => ⟨?_, ?_⟩)
        · refine mix_yield (X := Option Addr × Nat) (fun B => .slice B.1 l.flanks.length B.2) (fun B W => At9 wb gm l.cells (fun W => Whole W gf 53 [.int .i64 ya, .int .i64 yb, .int .i64 yc, .int .i64 (1 - yd)]) W ∧ W.ownsRow (gf + 1) 53 4 (.slice B.1 l.flanks.length B.2) l.flanks.length (l.flanks.flatMap flkCells)) (fun B => ⟨HF.1.and (Closed.owns _ _ _ _ _ _), fun W h => HF.2 W h.1⟩) (by rfl) (fun W hW => ?_) (fun C => ?_)
          · obtain ⟨A2, c2, w6, h1, h2, h3, _⟩ := app_first (f := flkCells) (size := 4) (fun _ => rfl) (oneFlank) 25 53 (.agg #[.int .i64 0, .int .i64 0, .int .i64 0, .int .i64 0]) 32 Tryd.underlying25 infoFlank rfl (by omega) (by omega) HS9 (Nat.lt_succ_of_lt hgg) hW.1 hW.2 hg0 l.flanks l.Af l.cf (HQL.out _ (HK.out _ (HB9.out W (HF.2 W hW.1)))).flanks hlen
            exact ⟨(A2, c2), w6, exec_append (.tmp 144) (.tmp 146) 25 rfl h1, h2, h3⟩
          simp only [Act.put, List.setIfInBounds_toArray, List.set_cons_zero, List.set_cons_succ]
          refine mix_nil ?_
          refine mix_make (fun g => .slice (some ⟨g, 0, none⟩) 1 1) (gf + 1) 53 (flkCells (ya, yb, yc, 1 - yd)) ⟨HF.1.and (Closed.owns _ _ _ _ _ _), fun W h => HF.2 W h.1⟩ (fun W hW => HG1 W hW.1) (by rfl) (fun W hW => by (clear hW; go_simp; first | done | with_reducible rfl)) (fun g1 hg1 => ?_)
          simp only [Act.put, List.setIfInBounds_toArray, List.set_cons_zero, List.set_cons_succ]
          refine mix_yield (X := Option Addr × Nat) (fun B => .slice B.1 (l.flanks ++ [(ya, yb, yc, 1 - yd)]).length B.2) (fun B W => At9 wb gm l.cells (fun W => Whole W gf 53 [.int .i64 ya, .int .i64 yb, .int .i64 yc, .int .i64 (1 - yd)]) W ∧ W.ownsRow (gf + 1) 53 4 (.slice B.1 (l.flanks ++ [(ya, yb, yc, 1 - yd)]).length B.2) (l.flanks ++ [(ya, yb, yc, 1 - yd)]).length ((l.flanks ++ [(ya, yb, yc, 1 - yd)]).flatMap flkCells)) (fun B => ⟨HF.1.and (Closed.owns _ _ _ _ _ _), fun W h => HF.2 W h.1⟩) (by rfl) (fun W hW => ?_) (fun D => ?_)
          · obtain ⟨A2, c2, w6, h1, h2, h3⟩ := app_next (f := flkCells) (size := 4) (fun _ => rfl) (oneFlank) 25 53 (.agg #[.int .i64 0, .int .i64 0, .int .i64 0, .int .i64 0]) 32 Tryd.underlying25 infoFlank rfl (by omega) (by omega) HS9 (Nat.lt_succ_of_lt hgg) hW.1.1 hW.1.2 hnil hW.2 hg1 hlen
            exact ⟨(A2, c2), w6, exec_append (.tmp 147) (.tmp 149) 25 rfl h1, h2, h3⟩
          simp only [Act.put, List.setIfInBounds_toArray, List.set_cons_zero, List.set_cons_succ]
          repeat (first | (refine mix_skip (by rfl) ?_; simp only [Act.put, List.setIfInBounds_toArray, List.set_cons_zero, List.set_cons_succ]) | (refine mix_read _ (by rfl) (fun W hW => by (clear hW; go_simp; first | done | with_reducible rfl)) ?_; simp only [Act.put, List.setIfInBounds_toArray, List.set_cons_zero, List.set_cons_succ]))
          refine mix_store (fun W => At9 wb gm (l.cells.set 3 (.slice D.1 (l.flanks ++ [(ya, yb, yc, 1 - yd)]).length D.2)) (fun W => Whole W gf 53 [.int .i64 ya, .int .i64 yb, .int .i64 yc, .int .i64 (1 - yd)]) W ∧ W.ownsRow (gf + 1) 53 4 (.slice D.1 (l.flanks ++ [(ya, yb, yc, 1 - yd)]).length D.2) (l.flanks ++ [(ya, yb, yc, 1 - yd)]).length ((l.flanks ++ [(ya, yb, yc, 1 - yd)]).flatMap flkCells)) (fun W => W.setCell ⟨gm, 3, none⟩ (.slice D.1 (l.flanks ++ [(ya, yb, yc, 1 - yd)]).length D.2)) ⟨(At9.closed _ _ _ HEC).and (Closed.owns _ _ _ _ _ _), fun W h => ⟨h.1.below, h.1.ext⟩⟩ (by rfl) (fun W hW => by (have yy := hW.1.box.cell_at 3 rfl; have ff := hW.1.box.frozen 3; clear hW; go_simp; first | done | rfl)) (fun W hW => At9.store HES (Nat.lt_succ_of_lt hgg) hW.1 hW.2 _) ?_
          simp only [Act.put, List.setIfInBounds_toArray, List.set_cons_zero, List.set_cons_succ]
          refine mix_nil (fun W hW => ?_)
          have he := HEND.out W D.1 D.2 hW.1 hW.2
          clear hW
          go_wp2_with fail
          go_meet
          exact he
        · refine mix_make (fun g => .slice (some ⟨g, 0, none⟩) 1 1) (gf + 1) 53 (flkCells (ya, yb, yc, 1 - yd)) ⟨HF.1.and (Closed.whole _ _ _), fun W h => HF.2 W h.1⟩ (fun W hW => HG1 W hW.1) (by rfl) (fun W hW => by (clear hW; go_simp; first | done | with_reducible rfl)) (fun g1 hg1 => ?_)
          simp only [Act.put, List.setIfInBounds_toArray, List.set_cons_zero, List.set_cons_succ]
          refine mix_nil ?_
          refine mix_yield (X := Option Addr × Nat) (fun B => .slice B.1 l.flanks.length B.2) (fun B W => (At9 wb gm l.cells (fun W => Whole W gf 53 [.int .i64 ya, .int .i64 yb, .int .i64 yc, .int .i64 (1 - yd)]) W ∧ W.ownsRow (gf + 1) 53 4 (.slice B.1 l.flanks.length B.2) l.flanks.length (l.flanks.flatMap flkCells)) ∧ Whole W g1 53 (flkCells (ya, yb, yc, 1 - yd))) (fun B => ⟨(HF.1.and (Closed.owns _ _ _ _ _ _)).and (Closed.whole _ _ _), fun W h => HF.2 W h.1.1⟩) (by rfl) (fun W hW => ?_) (fun C => ?_)
          · obtain ⟨A2, c2, w6, h1, h2, h3, h4⟩ := app_first (f := flkCells) (size := 4) (fun _ => rfl) (oneFlank) 25 53 (.agg #[.int .i64 0, .int .i64 0, .int .i64 0, .int .i64 0]) 32 Tryd.underlying25 infoFlank rfl (by omega) (by omega) HS9 (Nat.lt_succ_of_lt hgg) hW.1.1 hW.1.2 hg0 l.flanks l.Af l.cf (HQL.out _ (HK.out _ (HB9.out W (HF.2 W hW.1.1)))).flanks hlen
            exact ⟨(A2, c2), w6, exec_append (.tmp 144) (.tmp 146) 25 rfl h1, ⟨h2, h3⟩, h4 _ _ _ (fun e => whole_diff hW.1.2 hW.2 (by simp) e.symm) hW.2⟩
          simp only [Act.put, List.setIfInBounds_toArray, List.set_cons_zero, List.set_cons_succ]
          refine mix_yield (X := Option Addr × Nat) (fun B => .slice B.1 (l.flanks ++ [(ya, yb, yc, 1 - yd)]).length B.2) (fun B W => At9 wb gm l.cells (fun W => Whole W gf 53 [.int .i64 ya, .int .i64 yb, .int .i64 yc, .int .i64 (1 - yd)]) W ∧ W.ownsRow (gf + 1) 53 4 (.slice B.1 (l.flanks ++ [(ya, yb, yc, 1 - yd)]).length B.2) (l.flanks ++ [(ya, yb, yc, 1 - yd)]).length ((l.flanks ++ [(ya, yb, yc, 1 - yd)]).flatMap flkCells)) (fun B => ⟨HF.1.and (Closed.owns _ _ _ _ _ _), fun W h => HF.2 W h.1⟩) (by rfl) (fun W hW => ?_) (fun D => ?_)
          · obtain ⟨A2, c2, w6, h1, h2, h3⟩ := app_next (f := flkCells) (size := 4) (fun _ => rfl) (oneFlank) 25 53 (.agg #[.int .i64 0, .int .i64 0, .int .i64 0, .int .i64 0]) 32 Tryd.underlying25 infoFlank rfl (by omega) (by omega) HS9 (Nat.lt_succ_of_lt hgg) hW.1.1 hW.1.2 hnil hW.2 hg1 hlen
            exact ⟨(A2, c2), w6, exec_append (.tmp 147) (.tmp 149) 25 rfl h1, h2, h3⟩
          simp only [Act.put, List.setIfInBounds_toArray, List.set_cons_zero, List.set_cons_succ]
          repeat (first | (refine mix_skip (by rfl) ?_; simp only [Act.put, List.setIfInBounds_toArray, List.set_cons_zero, List.set_cons_succ]) | (refine mix_read _ (by rfl) (fun W hW => by (clear hW; go_simp; first | done | with_reducible rfl)) ?_; simp only [Act.put, List.setIfInBounds_toArray, List.set_cons_zero, List.set_cons_succ]))
          refine mix_store (fun W => At9 wb gm (l.cells.set 3 (.slice D.1 (l.flanks ++ [(ya, yb, yc, 1 - yd)]).length D.2)) (fun W => Whole W gf 53 [.int .i64 ya, .int .i64 yb, .int .i64 yc, .int .i64 (1 - yd)]) W ∧ W.ownsRow (gf + 1) 53 4 (.slice D.1 (l.flanks ++ [(ya, yb, yc, 1 - yd)]).length D.2) (l.flanks ++ [(ya, yb, yc, 1 - yd)]).length ((l.flanks ++ [(ya, yb, yc, 1 - yd)]).flatMap flkCells)) (fun W => W.setCell ⟨gm, 3, none⟩ (.slice D.1 (l.flanks ++ [(ya, yb, yc, 1 - yd)]).length D.2)) ⟨(At9.closed _ _ _ HEC).and (Closed.owns _ _ _ _ _ _), fun W h => ⟨h.1.below, h.1.ext⟩⟩ (by rfl) (fun W hW => by (have yy := hW.1.box.cell_at 3 rfl; have ff := hW.1.box.frozen 3; clear hW; go_simp; first | done | rfl)) (fun W hW => At9.store HES (Nat.lt_succ_of_lt hgg) hW.1 hW.2 _) ?_
          simp only [Act.put, List.setIfInBounds_toArray, List.set_cons_zero, List.set_cons_succ]
          refine mix_nil (fun W hW => ?_)
          have he := HEND.out W D.1 D.2 hW.1 hW.2
          clear hW
          go_wp2_with fail
          go_meet
          exact he
      · refine mix_make (fun g => .slice (some ⟨g, 0, none⟩) 1 1) (gf + 1) 53 (flkCells (ya, yb, yc, 1 - yd)) HF (fun W hW => HG1 W hW) (by rfl) (fun W hW => by (clear hW; go_simp; first | done | with_reducible rfl)) (fun g1 hg1 => ?_)
        simp only [Act.put, List.setIfInBounds_toArray, List.set_cons_zero, List.set_cons_succ]
        refine mix_nil ?_
        refine mix_make (fun g => .slice (some ⟨g, 0, none⟩) 0 0) (gf + 1) 53 [] ⟨HF.1.and (Closed.whole _ _ _), fun W h => HF.2 W h.1⟩ (fun W hW => HG1 W hW.1) (by rfl) (fun W hW => by (clear hW; go_simp; first | done | with_reducible rfl)) (fun g0 hg0 => ?_)
        simp only [Act.put, List.setIfInBounds_toArray, List.set_cons_zero, List.set_cons_succ]
        refine mix_yield (X := Option Addr × Nat) (fun B => .slice B.1 l.flanks.length B.2) (fun B W => (At9 wb gm l.cells (fun W => Whole W gf 53 [.int .i64 ya, .int .i64 yb, .int .i64 yc, .int .i64 (1 - yd)]) W ∧ W.ownsRow (gf + 1) 53 4 (.slice B.1 l.flanks.length B.2) l.flanks.length (l.flanks.flatMap flkCells)) ∧ Whole W g1 53 (flkCells (ya, yb, yc, 1 - yd))) (fun B => ⟨(HF.1.and (Closed.owns _ _ _ _ _ _)).and (Closed.whole _ _ _), fun W h => HF.2 W h.1.1⟩) (by rfl) (fun W hW => ?_) (fun C => ?_)
        · obtain ⟨A2, c2, w6, h1, h2, h3, h4⟩ := app_first (f := flkCells) (size := 4) (fun _ => rfl) (oneFlank) 25 53 (.agg #[.int .i64 0, .int .i64 0, .int .i64 0, .int .i64 0]) 32 Tryd.underlying25 infoFlank rfl (by omega) (by omega) HS9 (Nat.lt_succ_of_lt hgg) hW.1.1 hW.2 hg0 l.flanks l.Af l.cf (HQL.out _ (HK.out _ (HB9.out W (HF.2 W hW.1.1)))).flanks hlen
          exact ⟨(A2, c2), w6, exec_append (.tmp 144) (.tmp 146) 25 rfl h1, ⟨h2, h3⟩, h4 _ _ _ (fun e => whole_diff hW.2 hW.1.2 (by simp) e.symm) hW.1.2⟩
        simp only [Act.put, List.setIfInBounds_toArray, List.set_cons_zero, List.set_cons_succ]
        refine mix_yield (X := Option Addr × Nat) (fun B => .slice B.1 (l.flanks ++ [(ya, yb, yc, 1 - yd)]).length B.2) (fun B W => At9 wb gm l.cells (fun W => Whole W gf 53 [.int .i64 ya, .int .i64 yb, .int .i64 yc, .int .i64 (1 - yd)]) W ∧ W.ownsRow (gf + 1) 53 4 (.slice B.1 (l.flanks ++ [(ya, yb, yc, 1 - yd)]).length B.2) (l.flanks ++ [(ya, yb, yc, 1 - yd)]).length ((l.flanks ++ [(ya, yb, yc, 1 - yd)]).flatMap flkCells)) (fun B => ⟨HF.1.and (Closed.owns _ _ _ _ _ _), fun W h => HF.2 W h.1⟩) (by rfl) (fun W hW => ?_) (fun D => ?_)
        · obtain ⟨A2, c2, w6, h1, h2, h3⟩ := app_next (f := flkCells) (size := 4) (fun _ => rfl) (oneFlank) 25 53 (.agg #[.int .i64 0, .int .i64 0, .int .i64 0, .int .i64 0]) 32 Tryd.underlying25 infoFlank rfl (by omega) (by omega) HS9 (Nat.lt_succ_of_lt hgg) hW.1.1 hW.1.2 hnil hW.2 hg1 hlen
          exact ⟨(A2, c2), w6, exec_append (.tmp 147) (.tmp 149) 25 rfl h1, h2, h3⟩
        simp only [Act.put, List.setIfInBounds_toArray, List.set_cons_zero, List.set_cons_succ]
        repeat (first | (refine mix_skip (by rfl) ?_; simp only [Act.put, List.setIfInBounds_toArray, List.set_cons_zero, List.set_cons_succ]) | (refine mix_read _ (by rfl) (fun W hW => by (clear hW; go_simp; first | done | with_reducible rfl)) ?_; simp only [Act.put, List.setIfInBounds_toArray, List.set_cons_zero, List.set_cons_succ]))
        refine mix_store (fun W => At9 wb gm (l.cells.set 3 (.slice D.1 (l.flanks ++ [(ya, yb, yc, 1 - yd)]).length D.2)) (fun W => Whole W gf 53 [.int .i64 ya, .int .i64 yb, .int .i64 yc, .int .i64 (1 - yd)]) W ∧ W.ownsRow (gf + 1) 53 4 (.slice D.1 (l.flanks ++ [(ya, yb, yc, 1 - yd)]).length D.2) (l.flanks ++ [(ya, yb, yc, 1 - yd)]).length ((l.flanks ++ [(ya, yb, yc, 1 - yd)]).flatMap flkCells)) (fun W => W.setCell ⟨gm, 3, none⟩ (.slice D.1 (l.flanks ++ [(ya, yb, yc, 1 - yd)]).length D.2)) ⟨(At9.closed _ _ _ HEC).and (Closed.owns _ _ _ _ _ _), fun W h => ⟨h.1.below, h.1.ext⟩⟩ (by rfl) (fun W hW => by (have yy := hW.1.box.cell_at 3 rfl; have ff := hW.1.box.frozen 3; clear hW; go_simp; first | done | rfl)) (fun W hW => At9.store HES (Nat.lt_succ_of_lt hgg) hW.1 hW.2 _) ?_
        simp only [Act.put, List.setIfInBounds_toArray, List.set_cons_zero, List.set_cons_succ]
        refine mix_nil (fun W hW => ?_)
        have he := HEND.out W D.1 D.2 hW.1 hW.2
        clear hW
        go_wp2_with fail
        go_meet
        exact he
    case rest =>
      obtain ⟨m, HM⟩ := hcut
      obtain ⟨R, HR, HRq, HRm, HRl, hq⟩ : ∃ R : World → Prop, Hid (Closed R) ∧ Hid (∀ W, R W → Q W) ∧ Hid (∀ W, R W → Whole W gm 29 m.cells) ∧ Hid (∀ W, R W → Lies m W) ∧ R wc :=
        ⟨fun W => (Q W ∧ Whole W gm 29 m.cells) ∧ Lies m W, Lib.hid ((HQ.out.and (Closed.whole _ _ _)).and (Lies.closed m)), Lib.hid fun _ h => h.1.1, Lib.hid fun _ h => h.1.2, Lib.hid fun _ h => h.2, ⟨HK.out _ HM.out.1.below, HM.out.1.box⟩, HM.out.2.1⟩
      have KC := Lib.hid (fun W hW => keepR HR.out (check_any (w := W) (HQT.out W (HRq.out W hW)) (HRl.out W hW) HM.out.2.2) hW)
      clear HM
      have m0 := HRm.out _ hq
      have x0 := m0.cell_at 0 rfl
      have x1 := m0.cell_at 1 rfl
      have x2 := m0.cell_at 2 rfl
      have x3 := m0.cell_at 3 rfl
      have x4 := m0.cell_at 4 rfl
      have x5 := m0.cell_at 5 rfl
      have x6 := m0.cell_at 6 rfl
      have x7 := m0.cell_at 7 rfl
      have x8 := m0.cell_at 8 rfl
      have x9 := m0.cell_at 9 rfl
      have x10 := m0.cell_at 10 rfl
      clear m0
      go_wp2_with fail
      refine (KC.out _ hq).mono ?_
      clear x0 x1 x2 x3 x4 x5 x6 x7 x8 x9 x10 KC
      rintro e w5 ⟨rfl, hq⟩
      have hqq := HRq.out _ hq
      clear hq
      go_wp2_with fail
      go_meet
      exact Lib.hid hqq
  case rest =>
  obtain ⟨wd, rfl⟩ : ∃ W, W = wc := ⟨wc, rfl⟩
  have hq := hcut.out
  clear hcut HNB
  go_wp2_with fail
  refine (KW.out _ hq).mono ?_
  clear hq
  rintro e w9 ⟨rfl, hq⟩
  go_wp2_with fail
  go_ret
  exact ⟨rfl, HQB.out _ hq⟩
end Go.Proofs.YtpppieffkklnhaaDoor
