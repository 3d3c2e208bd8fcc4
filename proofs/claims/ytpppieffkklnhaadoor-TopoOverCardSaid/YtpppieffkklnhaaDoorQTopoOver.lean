/- The walk of TopoOver: an overlap is a path of its own. -/
import Derived.Test.YtpppieffkklnhaaDoorQTopoW
import Derived.Test.YtpppieffkklnhaaDoorQTopoG
import Derived.Test.YtpppieffkklnhaaDoorQGreatJ
namespace Go.Proofs.YtpppieffkklnhaaDoor
open Go.RowKit Go.Shelf
set_option linter.unusedVariables false
set_option linter.unusedSimpArgs false

theorem wayAt_zero (p : Int × Int) (r : List (Int × Int × Int)) : wayAt p r 0 = p := by cases r <;> rfl
theorem step_way {l : Lay} {ss si so : Int} (h : stepV l ss si so = true) : ∃ (j : Nat) (y : Sec), ss = j ∧ l.secs[j]? = some y ∧ goesK y.k si so = true := by
  unfold stepV at h
  by_cases h0 : kindV l ss = 0
  · rw [h0, goesK_no] at h; cases h
  · obtain ⟨j, y, e, hy, hk⟩ := kindV_some h0
    exact ⟨j, y, e, hy, by rw [← hk]; exact h⟩
set_option maxRecDepth 100000 in
set_option maxHeartbeats 16000000 in
theorem topoOver_walk (l : Lay) (x : Int) (w : World) (hT : Shapes w) (hL : Lies l w) :
    Calls Tryd.prog 3 #[l.val, .int .i64 x] w fun e w' => e = .returned (.bool true) ∧ Below w.heap.size w w' := by
  obtain ⟨P, HP, HPT, HPL, HPB, hp⟩ := keep_lay hT hL
  obtain ⟨Q, HQ, HQp, HQl, hq⟩ := keep_box HP.out hp 29 l.cells
  have HQT : Hid (∀ W, Q W → Shapes W) := Lib.hid fun W h => HPT.out _ (HQp.out _ h)
  have HQL : Hid (∀ W, Q W → Lies l W) := Lib.hid fun W h => HPL.out _ (HQp.out _ h)
  have HQB : Hid (∀ W, Q W → Below w.heap.size w W) := Lib.hid fun W h => HPB.out _ (HQp.out _ h)
  obtain ⟨g, hg⟩ : ∃ g, greatJ l = g := ⟨_, rfl⟩
  have KG := Lib.hid (fun W hW => greatJ_P (P := Q) (w := W) HQ.out HQL.out hg hW)
  have KW := Lib.hid (fun W hW => wakesT_P (P := Q) (w := W) HQ.out HQT.out hW)
  obtain ⟨r, hr⟩ : ∃ r, rightT l = r := ⟨_, rfl⟩
  have KR := Lib.hid (fun W hW => keepR HQ.out (rightT_any (w := W) (HQT.out W hW) (HQL.out W hW) hr) hW)
  have KO := Lib.hid (fun W hW => keepR HQ.out (overT_any (w := W) x (HQT.out W hW) (HQL.out W hW) rfl) hW)
  have HRT := Lib.hid hr
  clear hT hL hp hr hg
  go_enter Tryd.func3, Tryd.ntmps3
  have m0 := HQl.out _ hq
  have x0 := m0.cell_at 0 rfl
  have x1 := m0.cell_at 1 rfl
  have x2 := m0.cell_at 2 rfl
  have x3 := m0.cell_at 3 rfl
  have x4 := m0.cell_at 4 rfl
  have x5 := m0.cell_at 5 rfl
  have x6 := m0.cell_at 6 rfl
  have x7 := m0.cell_at 7 rfl
  have x8 := m0.cell_at 8 rfl
  have x9 := m0.cell_at 9 rfl
  have x10 := m0.cell_at 10 rfl
  clear m0
  go_wp2_with fail
  refine (KG.out _ hq).mono ?_
  clear hq x0 x1 x2 x3 x4 x5 x6 x7 x8 x9 x10
  rintro e w1 ⟨rfl, hq⟩
  cases g
  rotate_left
  · go_wp2_with fail
    refine (KW.out _ hq).mono ?_
    clear hq
    rintro e w9 ⟨rfl, hq⟩
    go_wp2_with fail
    go_ret
    exact ⟨rfl, HQB.out _ hq⟩
  by_cases h0 : x < 0
  · have m0 := HQl.out _ hq
    have x0 := m0.cell_at 0 rfl
    have x1 := m0.cell_at 1 rfl
    have x2 := m0.cell_at 2 rfl
    have x3 := m0.cell_at 3 rfl
    have x4 := m0.cell_at 4 rfl
    have x5 := m0.cell_at 5 rfl
    have x6 := m0.cell_at 6 rfl
    have x7 := m0.cell_at 7 rfl
    have x8 := m0.cell_at 8 rfl
    have x9 := m0.cell_at 9 rfl
    have x10 := m0.cell_at 10 rfl
    clear m0
    go_wp2_with fail
    refine (KW.out _ hq).mono ?_
    clear hq x0 x1 x2 x3 x4 x5 x6 x7 x8 x9 x10
    rintro e w9 ⟨rfl, hq⟩
    go_wp2_with fail
    go_ret
    exact ⟨rfl, HQB.out _ hq⟩
  obtain ⟨j, rfl⟩ : ∃ j : Nat, x = j := ⟨x.toNat, by omega⟩
  by_cases hlt : j < l.exits.length
  rotate_left
  · have hge : l.exits.length ≤ j := by omega
    have m0 := HQl.out _ hq
    have x0 := m0.cell_at 0 rfl
    have x1 := m0.cell_at 1 rfl
    have x2 := m0.cell_at 2 rfl
    have x3 := m0.cell_at 3 rfl
    have x4 := m0.cell_at 4 rfl
    have x5 := m0.cell_at 5 rfl
    have x6 := m0.cell_at 6 rfl
    have x7 := m0.cell_at 7 rfl
    have x8 := m0.cell_at 8 rfl
    have x9 := m0.cell_at 9 rfl
    have x10 := m0.cell_at 10 rfl
    clear m0
    go_wp2_with fail
    refine (KW.out _ hq).mono ?_
    clear hq x0 x1 x2 x3 x4 x5 x6 x7 x8 x9 x10
    rintro e w9 ⟨rfl, hq⟩
    go_wp2_with fail
    go_ret
    exact ⟨rfl, HQB.out _ hq⟩
  have hlt' : (j : Int) < (l.exits.length : Int) := by omega
  clear h0
  have m0 := HQl.out _ hq
  have x0 := m0.cell_at 0 rfl
  have x1 := m0.cell_at 1 rfl
  have x2 := m0.cell_at 2 rfl
  have x3 := m0.cell_at 3 rfl
  have x4 := m0.cell_at 4 rfl
  have x5 := m0.cell_at 5 rfl
  have x6 := m0.cell_at 6 rfl
  have x7 := m0.cell_at 7 rfl
  have x8 := m0.cell_at 8 rfl
  have x9 := m0.cell_at 9 rfl
  have x10 := m0.cell_at 10 rfl
  clear m0
  go_wp2_with fail
  refine (KR.out _ hq).mono ?_
  clear hq x0 x1 x2 x3 x4 x5 x6 x7 x8 x9 x10
  rintro e w2 ⟨rfl, hq⟩
  cases r
  · go_wp2_with fail
    refine (KW.out _ hq).mono ?_
    clear hq
    rintro e w9 ⟨rfl, hq⟩
    go_wp2_with fail
    go_ret
    exact ⟨rfl, HQB.out _ hq⟩
  obtain ⟨e, he⟩ : ∃ e, l.exits[j]? = some e := ⟨_, List.getElem?_eq_getElem hlt⟩
  have HG := Lib.hid (hangs_iff.1 HRT.out)
  have hMem := List.mem_of_getElem? he
  have hov : overV l e = true := HG.out.overs e hMem
  have HOT : Hid (overT l j = true) := Lib.hid (by unfold overT; rw [HG.out.right, decide_eq_true (by omega), Int.toNat_natCast, he]; exact hov)
  rw [HOT.out] at KO
  have HST : Hid (∀ s ∈ e.over, stepV l s.1 s.2.1 s.2.2 = true) := Lib.hid (fun s hs => (rightL_iff.1 HG.out.right).2.2.2.2.1 s (List.mem_flatMap.2 ⟨e, hMem, hs⟩))
  have HS0 : Hid (∀ s ∈ e.over, 0 ≤ s.1) := Lib.hid (fun s hs => by obtain ⟨i, y, e, _⟩ := step_way (HST.out s hs); omega)
  have HPA := Lib.hid (over_path HG.out.joined e.over (e.s, e.q) [e.s] HS0.out hov)
  have HOL : Hid (e.over.length ≤ 2) := Lib.hid ((own_lens HG.out.right).2.2.2.2 e hMem)
  have HOR : Hid (∀ W, Q W → Row W W.heap.size e.A (e.over.flatMap stpCells)) := Lib.hid (fun W hW => (HQL.out W hW).overs e hMem)
  have HSL : Hid (l.secs.length ≤ 24) := Lib.hid (own_lens HG.out.right).1
  have HC : Hid (∃ b off, l.Ae = some ⟨b, off, none⟩ ∧ ∀ W, Q W → W.cell? ⟨b, off + j * 3, none⟩ = some (.int .i64 e.s) ∧ W.cell? ⟨b, off + j * 3 + 1, none⟩ = some (.int .i64 e.q) ∧ W.cell? ⟨b, off + j * 3 + 2, none⟩ = some (.slice e.A e.over.length e.c)) := Lib.hid (by
    obtain ⟨b, off, hA, _, hc0, hc⟩ := (HQL.out _ hq).exits.nth (n := 3) (fun _ => rfl) (by omega) he
    refine ⟨b, off, hA, fun W hW => ?_⟩
    obtain ⟨b', off', hA', _, hc0, hc⟩ := (HQL.out _ hW).exits.nth (n := 3) (fun _ => rfl) (by omega) he
    rw [hA] at hA'
    cases hA'
    exact ⟨hc0 j _ _ he rfl, hc j _ 1 _ he rfl, hc j _ 2 _ he rfl⟩)
  clear he hMem hov
  have m0 := HQl.out _ hq
  have x0 := m0.cell_at 0 rfl
  have x1 := m0.cell_at 1 rfl
  have x2 := m0.cell_at 2 rfl
  have x3 := m0.cell_at 3 rfl
  have x4 := m0.cell_at 4 rfl
  have x5 := m0.cell_at 5 rfl
  have x6 := m0.cell_at 6 rfl
  have x7 := m0.cell_at 7 rfl
  have x8 := m0.cell_at 8 rfl
  have x9 := m0.cell_at 9 rfl
  have x10 := m0.cell_at 10 rfl
  clear m0
  go_wp2_with fail
  refine (KO.out _ hq).mono ?_
  clear hq x0 x1 x2 x3 x4 x5 x6 x7 x8 x9 x10
  rintro e w3 ⟨rfl, hq⟩
  obtain ⟨b, off, hA, hC⟩ := HC.out
  have HA := Lib.hid hA
  have HCC := Lib.hid hC
  clear hA hC HC
  go_upto_region 5 with (fail)
  have HBS : Hid (∀ W, Below w3.heap.size w3 W → Q W) := Lib.hid (fun W hB => HQ.out _ _ hq hB)
  clear hq
  refine region_mix (Below w3.heap.size w3) [(0, false), (1, false), (2, false), (3, false), (4, false), (5, false), (6, false), (7, false), (8, false), (9, false), (10, false), (11, false), (12, true), (13, true), (14, false)] (by kernel_rfl) (by kernel_rfl) (Below w3.heap.size w3) ⟨Closed.below w3, fun _ h => h⟩ (Below.refl _ _).drew ?_
  simp only [pickOps, List.getElem?_cons_zero, List.getElem?_cons_succ]
  repeat (first | (refine mix_skip (by rfl) ?_; simp only [Act.put, List.setIfInBounds_toArray, List.set_cons_zero, List.set_cons_succ]) | (refine mix_read _ (by rfl) (fun W hW => by (have hW := HBS.out W hW; have m0 := HQl.out _ hW; have x0 := m0.cell_at 0 rfl; have x1 := m0.cell_at 1 rfl; have x2 := m0.cell_at 2 rfl; have x3 := m0.cell_at 3 rfl; have x4 := m0.cell_at 4 rfl; have x5 := m0.cell_at 5 rfl; have x6 := m0.cell_at 6 rfl; have x7 := m0.cell_at 7 rfl; have x8 := m0.cell_at 8 rfl; have x9 := m0.cell_at 9 rfl; have x10 := m0.cell_at 10 rfl; clear m0; obtain ⟨c0, c1, c2⟩ := HCC.out _ hW; go_simp; first | done | with_reducible rfl)) ?_; simp only [Act.put, List.setIfInBounds_toArray, List.set_cons_zero, List.set_cons_succ]) | (refine mix_read _ (by rfl) (fun W hW => by (have hW := HBS.out W hW; have m0 := HQl.out _ hW; have x0 := m0.cell_at 0 rfl; have x1 := m0.cell_at 1 rfl; have x2 := m0.cell_at 2 rfl; have x3 := m0.cell_at 3 rfl; have x4 := m0.cell_at 4 rfl; have x5 := m0.cell_at 5 rfl; have x6 := m0.cell_at 6 rfl; have x7 := m0.cell_at 7 rfl; have x8 := m0.cell_at 8 rfl; have x9 := m0.cell_at 9 rfl; have x10 := m0.cell_at 10 rfl; clear m0; obtain ⟨c0, c1, c2⟩ := HCC.out _ hW; rw [HA.out]; go_simp; first | done | with_reducible rfl)) ?_; simp only [Act.put, List.setIfInBounds_toArray, List.set_cons_zero, List.set_cons_succ]))
  refine mix_alloc w3.heap.size 34 [.int .i64 0, .int .i64 0] ⟨Closed.below w3, fun _ h => h⟩ (fun _ h => h.size) (by rfl) (fun W hW => by (go_simp; first | done | with_reducible rfl)) (fun g hg => ?_)
  simp only [Act.put, List.setIfInBounds_toArray, List.set_cons_zero, List.set_cons_succ]
  refine mix_fill 34 (.tmp 5) (.tmp 41) g w3.heap.size w3 [.int .i64 0, .int .i64 0] [.int .i64 e.s, .int .i64 e.q] hg (fun _ h => h) (Nat.le_refl _) (fun _ h => h) rfl (by rfl) (by rfl) (by kernel_rfl) rfl (by kernel_rfl) (by rfl) ?_
  simp only [Act.put, List.setIfInBounds_toArray, List.set_cons_zero, List.set_cons_succ]
  repeat (first | (refine mix_skip (by rfl) ?_; simp only [Act.put, List.setIfInBounds_toArray, List.set_cons_zero, List.set_cons_succ]) | (refine mix_read _ (by rfl) (fun W hW => by (have hW := HBS.out W hW; have m0 := HQl.out _ hW; have x0 := m0.cell_at 0 rfl; have x1 := m0.cell_at 1 rfl; have x2 := m0.cell_at 2 rfl; have x3 := m0.cell_at 3 rfl; have x4 := m0.cell_at 4 rfl; have x5 := m0.cell_at 5 rfl; have x6 := m0.cell_at 6 rfl; have x7 := m0.cell_at 7 rfl; have x8 := m0.cell_at 8 rfl; have x9 := m0.cell_at 9 rfl; have x10 := m0.cell_at 10 rfl; clear m0; obtain ⟨c0, c1, c2⟩ := HCC.out _ hW; go_simp; first | done | with_reducible rfl)) ?_; simp only [Act.put, List.setIfInBounds_toArray, List.set_cons_zero, List.set_cons_succ]))
  refine mix_nil (fun W hW => ?_)
  have HW4 := Lib.hid hW
  clear hW
  go_wp2_with fail
  go_loopw [7] (fun i wr => ∃ k : Nat, k ≤ e.over.length ∧ i = .int .i64 k ∧ Hid (Below w3.heap.size w3 wr ∧ Whole wr g 34 (prtCells (wayAt (e.s, e.q) e.over k)))) (fun i _ => e.over.length - (intOf i).toNat)
  case atStart => exact ⟨0, by omega, rfl, by rw [wayAt_zero]; exact HW4⟩
  case round =>
    clear HW4
    obtain ⟨k, hk, rfl, HM⟩ := hrel
    obtain ⟨wa, rfl⟩ : ∃ W, W = wr := ⟨wr, rfl⟩
    by_cases hlk : k < e.over.length
    · have hlk' : (k : Int) < (e.over.length : Int) := by omega
      obtain ⟨⟨ss, si, so⟩, hs⟩ : ∃ s, e.over[k]? = some s := ⟨_, List.getElem?_eq_getElem hlk⟩
      obtain ⟨sj, y, hsj, hy, hgo⟩ := step_way (HST.out _ (List.mem_of_getElem? hs))
      simp only at hsj
      subst hsj
      obtain ⟨⟨ps, pq⟩, hp⟩ : ∃ p, wayAt (e.s, e.q) e.over k = p := ⟨_, rfl⟩
      have HNX : Hid (wayAt (e.s, e.q) e.over (k + 1) = ((sj : Int), so)) := Lib.hid (wayAt_next e.over _ k _ hs)
      have hpa := HPA.out k _ hs
      rw [hp] at hpa
      have HMp : Hid (Whole wa g 34 (prtCells (ps, pq))) := Lib.hid (by rw [← hp]; exact HM.out.2)
      have HNE : Hid (¬ ((sj : Int) = e.s)) := Lib.hid (fun h => hpa.2.1 (by rw [h]; simp))
      have HAP := Lib.hid hpa.2.2
      have HB1 : Hid (beyondV l ps pq = ((sj : Int), si)) := Lib.hid hpa.1.1
      have HB2 : Hid (beyondV l (sj : Int) si = (ps, pq)) := Lib.hid hpa.1.2
      have HS := Lib.hid hs
      have hsl : sj < l.secs.length := (List.getElem?_eq_some_iff.1 hy).1
      have hqa := HBS.out _ HM.out.1
      obtain ⟨b2, off2, hA2, _, hc0, hc⟩ := (HOR.out _ hqa).nth (n := 3) (fun _ => rfl) (by omega) hs
      have c0 := hc0 k _ _ hs rfl
      have c1 := hc k _ 1 _ hs rfl
      have c2 := hc k _ 2 _ hs rfl
      have HT : Hid (∀ W, Q W → ∀ (i : Nat) (t : Int × Int × Int), e.over[i]? = some t → W.cell? ⟨b2, off2 + i * 3, none⟩ = some (.int .i64 t.1)) := Lib.hid (fun W hW i t ht => by
        obtain ⟨b', off', hA', _, hc0, hc⟩ := (HOR.out _ hW).nth (n := 3) (fun _ => rfl) (by omega) ht
        rw [hA2] at hA'
        cases hA'
        exact hc0 i _ _ ht rfl)
      have HSC : Hid (∃ bs os, l.As = some ⟨bs, os, none⟩ ∧ ∀ W, Q W → W.cell? ⟨bs, os + sj * 11, none⟩ = some (.int .u8 y.k)) := Lib.hid (by
        obtain ⟨b, off, hA, _, hc0, hc⟩ := (HQL.out _ hqa).secs.nth (n := 11) Sec.len (by omega) hy
        refine ⟨b, off, hA, fun W hW => ?_⟩
        obtain ⟨b', off', hA', _, hc0, hc⟩ := (HQL.out _ hW).secs.nth (n := 11) Sec.len (by omega) hy
        rw [hA] at hA'
        cases hA'
        exact hc0 sj _ _ hy rfl)
      obtain ⟨bs, os, hAS, hSK⟩ := HSC.out
      have HAS := Lib.hid hAS
      have HSK := Lib.hid hSK
      obtain ⟨v, hv⟩ : ∃ v, wayK y.k si so = v := ⟨_, rfl⟩
      have KWY : Hid (∀ W, Q W → Calls Tryd.prog 11 #[.int .u8 y.k, .int .i64 si, .int .i64 so] W fun e w' => e = .returned (.tuple #[.int .i64 v, .bool true]) ∧ Below W.heap.size W w') := Lib.hid (fun W hW =>
        wayR_P (P := fun W' => Below W.heap.size W W') (w := W) si so (shapeK y.k) hv hgo (Below.refl _ _))
      have KB1 : Hid (∀ W, Q W → Calls Tryd.prog 12 #[l.val, prtV ps pq] W fun e w' => e = .returned (prtV (sj : Int) si) ∧ Below W.heap.size W w') := Lib.hid (fun W hW => beyondJ_B (w := W) (HQL.out W hW) ps pq HB1.out)
      have KB2 : Hid (∀ W, Q W → Calls Tryd.prog 12 #[l.val, prtV (sj : Int) si] W fun e w' => e = .returned (prtV ps pq) ∧ Below W.heap.size W w') := Lib.hid (fun W hW => beyondJ_B (w := W) (HQL.out W hW) (sj : Int) si HB2.out)
      clear hs hc0 hc hy hgo hp hpa hAS hSK hv HSC
      rw [hA2]
      have HA2 := Lib.hid hA2
      clear hA2
      go_upto_region 10 with (fail)
      obtain ⟨gs, hgs⟩ : ∃ gs, wa.heap.size = gs := ⟨_, rfl⟩
      obtain ⟨W1, hW1⟩ : ∃ W1, wa.alloc (.cells #[.int .i64 (sj : Int), .int .i64 si, .int .i64 so] 39) = W1 := ⟨_, rfl⟩
      have HW1 : Hid (Below w3.heap.size w3 W1 ∧ Whole W1 g 34 (prtCells (ps, pq)) ∧ Whole W1 gs 39 (stpCells ((sj : Int), si, so))) := Lib.hid (by rw [← hW1]; exact ⟨HM.out.1.alloc HM.out.1.size _, HMp.out.alloc _, Whole.new_at _ _ (stpCells ((sj : Int), si, so)) _ hgs.symm⟩)
      rw [hW1, hgs]
      clear hW1 hgs c0 c1 c2 hqa HMp HM
      have hq1 := HBS.out _ HW1.out.1
      have x0 := (HQl.out _ hq1).cell_at 0 rfl
      have s0 := HW1.out.2.2.cell_at 0 rfl
      have hsl' : (sj : Int) < (l.secs.length : Int) := by omega
      go_upto_region 12 with (fail)
      clear x0 s0
      obtain ⟨T, HT1, HTx, ht⟩ : ∃ T : World → Prop, Hid (Closed T) ∧ Hid (∀ W, T W → (Below w3.heap.size w3 W ∧ Whole W g 34 (prtCells (ps, pq))) ∧ Whole W gs 39 (stpCells ((sj : Int), si, so))) ∧ T W1 :=
        ⟨fun W => (Below w3.heap.size w3 W ∧ Whole W g 34 (prtCells (ps, pq))) ∧ Whole W gs 39 (stpCells ((sj : Int), si, so)), Lib.hid (((Closed.below w3).and (Closed.whole _ _ _)).and (Closed.whole _ _ _)), Lib.hid fun _ h => h, ⟨HW1.out.1, HW1.out.2.1⟩, HW1.out.2.2⟩
      clear HW1 hq1
      have HBS2 : Hid (∀ W, Below W1.heap.size W1 W → T W) := Lib.hid (fun W hB => HT1.out _ _ ht hB)
      clear ht
      refine region_mix (Below W1.heap.size W1) [(0, false), (1, false), (2, false), (3, false), (4, false), (5, false), (6, false), (7, false), (8, false), (9, false), (10, false), (11, false), (12, false), (13, false), (14, false), (15, false), (16, false)] (by kernel_rfl) (by kernel_rfl) (Below W1.heap.size W1) ⟨Closed.below W1, fun _ h => h⟩ (Below.refl _ _).drew ?_
      simp only [pickOps, List.getElem?_cons_zero, List.getElem?_cons_succ]
      repeat (first | (refine mix_skip (by rfl) ?_; simp only [Act.put, List.setIfInBounds_toArray, List.set_cons_zero, List.set_cons_succ]) | (refine mix_read _ (by rfl) (fun W hW => by (have hW := HBS2.out W hW; have hh := HTx.out W hW; have hqq := HBS.out W hh.1.1; have x0 := (HQl.out W hqq).cell_at 0 rfl; have k0 := HSK.out W hqq; have s0 := hh.2.cell_at 0 rfl; have s1 := hh.2.cell_at 1 rfl; have s2 := hh.2.cell_at 2 rfl; clear hh hqq; go_simp; first | done | with_reducible rfl)) ?_; simp only [Act.put, List.setIfInBounds_toArray, List.set_cons_zero, List.set_cons_succ]) | (refine mix_read _ (by rfl) (fun W hW => by (have hW := HBS2.out W hW; have hh := HTx.out W hW; have hqq := HBS.out W hh.1.1; have x0 := (HQl.out W hqq).cell_at 0 rfl; have k0 := HSK.out W hqq; have s0 := hh.2.cell_at 0 rfl; have s1 := hh.2.cell_at 1 rfl; have s2 := hh.2.cell_at 2 rfl; clear hh hqq; rw [HAS.out]; go_simp; first | done | with_reducible rfl)) ?_; simp only [Act.put, List.setIfInBounds_toArray, List.set_cons_zero, List.set_cons_succ]) | (refine mix_call _ _ _ (by rfl) (fun W hW => by (have hW := HBS2.out W hW; have hh := HTx.out W hW; have hqq := HBS.out W hh.1.1; have x0 := (HQl.out W hqq).cell_at 0 rfl; have k0 := HSK.out W hqq; have s0 := hh.2.cell_at 0 rfl; have s1 := hh.2.cell_at 1 rfl; have s2 := hh.2.cell_at 2 rfl; clear hh hqq; go_simp; first | done | rfl)) (fun W hW => KWY.out W (HBS.out W (HTx.out W (HBS2.out W hW)).1.1)) ?_; simp only [Act.put, List.setIfInBounds_toArray, List.set_cons_zero, List.set_cons_succ]))
      refine mix_nil (fun W hW => ?_)
      have ht := HBS2.out W hW
      clear hW HBS2
      clear KWY
      have hh := HTx.out W ht
      have s0 := hh.2.cell_at 0 rfl
      have s1 := hh.2.cell_at 1 rfl
      go_upto_region 14 with (fail)
      obtain ⟨gi, hgi⟩ : ∃ gi, W.heap.size = gi := ⟨_, rfl⟩
      obtain ⟨W2, hW2⟩ : ∃ W2, W.alloc (.cells #[.int .i64 (sj : Int), .int .i64 si] 34) = W2 := ⟨_, rfl⟩
      obtain ⟨U, HU1, HUx, hu⟩ : ∃ U : World → Prop, Hid (Closed U) ∧ Hid (∀ W, U W → ((Below w3.heap.size w3 W ∧ Whole W g 34 (prtCells (ps, pq))) ∧ Whole W gs 39 (stpCells ((sj : Int), si, so))) ∧ Whole W gi 34 (prtCells ((sj : Int), si))) ∧ U W2 :=
        ⟨fun W => ((Below w3.heap.size w3 W ∧ Whole W g 34 (prtCells (ps, pq))) ∧ Whole W gs 39 (stpCells ((sj : Int), si, so))) ∧ Whole W gi 34 (prtCells ((sj : Int), si)), Lib.hid ((((Closed.below w3).and (Closed.whole _ _ _)).and (Closed.whole _ _ _)).and (Closed.whole _ _ _)), Lib.hid fun _ h => h, by
          rw [← hW2]
          exact ⟨⟨⟨hh.1.1.alloc hh.1.1.size _, hh.1.2.alloc _⟩, hh.2.alloc _⟩, Whole.new_at _ _ (prtCells ((sj : Int), si)) _ hgi.symm⟩⟩
      rw [hW2, hgi]
      clear hW2 hgi hh s0 s1 ht
      have HBS3 : Hid (∀ W, Below W2.heap.size W2 W → U W) := Lib.hid (fun W hB => HU1.out _ _ hu hB)
      clear hu
      refine region_mix (Below W2.heap.size W2) [(0, false), (1, false), (2, false), (3, false), (4, false), (5, false), (6, false), (7, false), (8, false), (9, false), (10, false), (11, false), (12, false), (13, false), (14, false), (15, false), (16, false), (17, false), (18, false), (19, false), (20, false), (21, false), (22, false), (23, false), (24, false), (25, false), (26, false), (27, false)] (by kernel_rfl) (by kernel_rfl) (Below W2.heap.size W2) ⟨Closed.below W2, fun _ h => h⟩ (Below.refl _ _).drew ?_
      simp only [pickOps, List.getElem?_cons_zero, List.getElem?_cons_succ]
      repeat (first | (refine mix_skip (by rfl) ?_; simp only [Act.put, List.setIfInBounds_toArray, List.set_cons_zero, List.set_cons_succ]) | (refine mix_read _ (by rfl) (fun W hW => by (have hW := HBS3.out W hW; have hh := HUx.out W hW; have hqq := HBS.out W hh.1.1.1; have m0 := HQl.out W hqq; have x0 := m0.cell_at 0 rfl; have x1 := m0.cell_at 1 rfl; have x2 := m0.cell_at 2 rfl; have x3 := m0.cell_at 3 rfl; have x4 := m0.cell_at 4 rfl; have x5 := m0.cell_at 5 rfl; have x6 := m0.cell_at 6 rfl; have x7 := m0.cell_at 7 rfl; have x8 := m0.cell_at 8 rfl; have x9 := m0.cell_at 9 rfl; have x10 := m0.cell_at 10 rfl; clear m0; obtain ⟨c0, c1, c2⟩ := HCC.out W hqq; have p0 := hh.1.1.2.cell_at 0 rfl; have p1 := hh.1.1.2.cell_at 1 rfl; have s0 := hh.1.2.cell_at 0 rfl; have q0 := hh.2.cell_at 0 rfl; have q1 := hh.2.cell_at 1 rfl; have hne := HNE.out; clear hh hqq; go_simp; first | done | with_reducible rfl)) ?_; simp only [Act.put, List.setIfInBounds_toArray, List.set_cons_zero, List.set_cons_succ]) | (refine mix_read _ (by rfl) (fun W hW => by (have hW := HBS3.out W hW; have hh := HUx.out W hW; have hqq := HBS.out W hh.1.1.1; have m0 := HQl.out W hqq; have x0 := m0.cell_at 0 rfl; have x1 := m0.cell_at 1 rfl; have x2 := m0.cell_at 2 rfl; have x3 := m0.cell_at 3 rfl; have x4 := m0.cell_at 4 rfl; have x5 := m0.cell_at 5 rfl; have x6 := m0.cell_at 6 rfl; have x7 := m0.cell_at 7 rfl; have x8 := m0.cell_at 8 rfl; have x9 := m0.cell_at 9 rfl; have x10 := m0.cell_at 10 rfl; clear m0; obtain ⟨c0, c1, c2⟩ := HCC.out W hqq; have p0 := hh.1.1.2.cell_at 0 rfl; have p1 := hh.1.1.2.cell_at 1 rfl; have s0 := hh.1.2.cell_at 0 rfl; have q0 := hh.2.cell_at 0 rfl; have q1 := hh.2.cell_at 1 rfl; have hne := HNE.out; clear hh hqq; rw [HA.out]; go_simp; first | done | with_reducible rfl)) ?_; simp only [Act.put, List.setIfInBounds_toArray, List.set_cons_zero, List.set_cons_succ]) | (refine mix_call _ _ _ (by rfl) (fun W hW => by (have hW := HBS3.out W hW; have hh := HUx.out W hW; have hqq := HBS.out W hh.1.1.1; have m0 := HQl.out W hqq; have x0 := m0.cell_at 0 rfl; have x1 := m0.cell_at 1 rfl; have x2 := m0.cell_at 2 rfl; have x3 := m0.cell_at 3 rfl; have x4 := m0.cell_at 4 rfl; have x5 := m0.cell_at 5 rfl; have x6 := m0.cell_at 6 rfl; have x7 := m0.cell_at 7 rfl; have x8 := m0.cell_at 8 rfl; have x9 := m0.cell_at 9 rfl; have x10 := m0.cell_at 10 rfl; clear m0; obtain ⟨c0, c1, c2⟩ := HCC.out W hqq; have p0 := hh.1.1.2.cell_at 0 rfl; have p1 := hh.1.1.2.cell_at 1 rfl; have s0 := hh.1.2.cell_at 0 rfl; have q0 := hh.2.cell_at 0 rfl; have q1 := hh.2.cell_at 1 rfl; have hne := HNE.out; clear hh hqq; go_simp; first | done | rfl)) (fun W hW => KB1.out W (HBS.out W (HUx.out W (HBS3.out W hW)).1.1.1)) ?_; simp only [Act.put, List.setIfInBounds_toArray, List.set_cons_zero, List.set_cons_succ]) | (refine mix_call _ _ _ (by rfl) (fun W hW => by (have hW := HBS3.out W hW; have hh := HUx.out W hW; have hqq := HBS.out W hh.1.1.1; have m0 := HQl.out W hqq; have x0 := m0.cell_at 0 rfl; have x1 := m0.cell_at 1 rfl; have x2 := m0.cell_at 2 rfl; have x3 := m0.cell_at 3 rfl; have x4 := m0.cell_at 4 rfl; have x5 := m0.cell_at 5 rfl; have x6 := m0.cell_at 6 rfl; have x7 := m0.cell_at 7 rfl; have x8 := m0.cell_at 8 rfl; have x9 := m0.cell_at 9 rfl; have x10 := m0.cell_at 10 rfl; clear m0; obtain ⟨c0, c1, c2⟩ := HCC.out W hqq; have p0 := hh.1.1.2.cell_at 0 rfl; have p1 := hh.1.1.2.cell_at 1 rfl; have s0 := hh.1.2.cell_at 0 rfl; have q0 := hh.2.cell_at 0 rfl; have q1 := hh.2.cell_at 1 rfl; have hne := HNE.out; clear hh hqq; go_simp; first | done | rfl)) (fun W hW => KB2.out W (HBS.out W (HUx.out W (HBS3.out W hW)).1.1.1)) ?_; simp only [Act.put, List.setIfInBounds_toArray, List.set_cons_zero, List.set_cons_succ]))
      refine mix_nil (fun W hW => ?_)
      have hu := HBS3.out W hW
      clear hW HBS3
      clear KB1 KB2
      have HU := Lib.hid (HUx.out W hu).1
      have hne2 : ((sj : Int) == e.s) = false := beq_false_of_ne HNE.out
      clear hu
      go_wp2_with fail
      clear hne2
      go_loopw [12] (fun v wr => ∃ i : Nat, i ≤ k ∧ v = .int .i64 i ∧ Hid ((Below w3.heap.size w3 wr ∧ Whole wr g 34 (prtCells (ps, pq))) ∧ Whole wr gs 39 (stpCells ((sj : Int), si, so)))) (fun v _ => k - (intOf v).toNat)
      case atStart => exact ⟨0, by omega, rfl, HU⟩
      case round =>
        clear HU
        obtain ⟨i, hi, rfl, HU⟩ := hrel
        by_cases hik : i < k
        · have hik' : (i : Int) < (k : Int) := by omega
          obtain ⟨⟨ts, ti, to'⟩, hti⟩ : ∃ t, e.over[i]? = some t := ⟨_, List.getElem?_eq_getElem (by omega)⟩
          have HTS : Hid (¬ (ts = (sj : Int))) := Lib.hid (HAP.out i _ hik hti)
          have HTI : Hid (∀ W, Q W → W.cell? ⟨b2, off2 + i * 3, none⟩ = some (.int .i64 ts)) := Lib.hid (fun W hW => HT.out W hW i _ hti)
          have hil : i < e.over.length := by omega
          have hil' : (i : Int) < (e.over.length : Int) := by omega
          clear hti
          obtain ⟨V, HV1, HVx, hv⟩ : ∃ V : World → Prop, Hid (Closed V) ∧ Hid (∀ W, V W → (Below w3.heap.size w3 W ∧ Whole W g 34 (prtCells (ps, pq))) ∧ Whole W gs 39 (stpCells ((sj : Int), si, so))) ∧ V wr :=
            ⟨fun W => (Below w3.heap.size w3 W ∧ Whole W g 34 (prtCells (ps, pq))) ∧ Whole W gs 39 (stpCells ((sj : Int), si, so)), Lib.hid (((Closed.below w3).and (Closed.whole _ _ _)).and (Closed.whole _ _ _)), Lib.hid fun _ h => h, HU.out⟩
          clear HU
          go_upto_region 19 with (fail)
          have HBS4 : Hid (∀ W, Below wr.heap.size wr W → V W) := Lib.hid (fun W hB => HV1.out _ _ hv hB)
          clear hv
          refine region_mix (Below wr.heap.size wr) [(0, false), (1, false), (2, false), (3, false), (4, false), (5, false), (6, false), (7, false)] (by kernel_rfl) (by kernel_rfl) (Below wr.heap.size wr) ⟨Closed.below wr, fun _ h => h⟩ (Below.refl _ _).drew ?_
          simp only [pickOps, List.getElem?_cons_zero, List.getElem?_cons_succ]
          repeat (first | (refine mix_skip (by rfl) ?_; simp only [Act.put, List.setIfInBounds_toArray, List.set_cons_zero, List.set_cons_succ]) | (refine mix_read _ (by rfl) (fun W hW => by (have hW := HBS4.out W hW; have hh := HVx.out W hW; have t0 := HTI.out W (HBS.out W hh.1.1); have s0 := hh.2.cell_at 0 rfl; clear hh; go_simp; first | done | with_reducible rfl)) ?_; simp only [Act.put, List.setIfInBounds_toArray, List.set_cons_zero, List.set_cons_succ]))
          refine mix_nil (fun W' hW => ?_)
          have hv := HBS4.out W' hW
          clear hW HBS4
          have HU := Lib.hid (HVx.out W' hv)
          have hts : (ts == (sj : Int)) = false := beq_false_of_ne HTS.out
          have hwi : IntKind.i64.wrap ((i : Int) + 1) = (i : Int) + 1 := IntWalk.i64_in _ (by have := HOL.out; omega)
          clear hv HV1 HVx
          go_wp2_with fail
          go_roundw
          case rel => exact ⟨i + 1, by omega, by go_num, HU⟩
          case measure => simp [intOf]; omega
        · obtain rfl : i = k := by omega
          have hh := HU.out
          have s0 := hh.2.cell_at 0 rfl
          have s2 := hh.2.cell_at 2 rfl
          have p0 := hh.1.2.cell_at 0 rfl
          have f0 := hh.1.2.frozen 0
          have p1 := (hh.1.2.set 0 (.int .i64 (sj : Int))).cell_at 1 rfl
          have f1 := (hh.1.2.set 0 (.int .i64 (sj : Int))).frozen 1
          have HE : Hid (Below w3.heap.size w3 ((wr.setCell ⟨g, 0, none⟩ (.int .i64 (sj : Int))).setCell ⟨g, 1, none⟩ (.int .i64 so)) ∧ Whole ((wr.setCell ⟨g, 0, none⟩ (.int .i64 (sj : Int))).setCell ⟨g, 1, none⟩ (.int .i64 so)) g 34 (prtCells (wayAt (e.s, e.q) e.over (i + 1)))) := Lib.hid (by
            rw [HNX.out]
            exact ⟨(hh.1.1.setCell (p := ⟨g, 0, none⟩) hg _).setCell (p := ⟨g, 1, none⟩) hg _, (hh.1.2.set 0 _).set 1 _⟩)
          have hwi : IntKind.i64.wrap ((i : Int) + 1) = (i : Int) + 1 := IntWalk.i64_in _ (by have := HOL.out; omega)
          clear hh HU
          go_wp2_with fail
          go_roundw
          case rel => exact ⟨i + 1, hlk, by go_num, HE⟩
          case measure => simp [intOf]; omega
    · obtain rfl : k = e.over.length := by omega
      have hq := HBS.out _ HM.out.1
      clear HM
      go_wp2_with fail
      refine (KW.out _ hq).mono ?_
      clear hq
      rintro e w9 ⟨rfl, hq⟩
      go_wp2_with fail
      go_ret
      exact ⟨rfl, HQB.out _ hq⟩
end Go.Proofs.YtpppieffkklnhaaDoor
