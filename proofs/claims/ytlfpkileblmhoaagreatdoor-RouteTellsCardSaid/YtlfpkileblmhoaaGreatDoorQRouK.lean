/- The document's own layer 11: Check, Is. -/
import Derived.Test.YtlfpkileblmhoaaGreatDoorQRouH
import Derived.Test.YtlfpkileblmhoaaGreatDoorQRouG
import Derived.Test.YtlfpkileblmhoaaGreatDoorQTopoR
namespace Go.Proofs.YtlfpkileblmhoaaGreatDoor
open Go.RowKit Go.Shelf
set_option linter.unusedVariables false
set_option linter.unusedSimpArgs false

set_option maxRecDepth 100000 in
set_option maxHeartbeats 16000000 in
theorem checkR11_any {l : Lay} {p : Pth} {vs : List Int} {A : Option Addr} {c : Nat} {w : World} (hL : Lies l w) (hp : PLies p w) (hR : Row w w.heap.size A (nums .i64 vs)) (hn : (vs.length : Int) ≤ 9223372036854775807) {r : Int} (hr : check11 l p vs = r) : Calls Tryz.prog 11 #[l.val, p.val, .slice A vs.length c] w fun e w' => e = .returned (.int .i64 r) ∧ Below w.heap.size w w' := by
  obtain ⟨ps, px, Ap, cp, ss⟩ := p
  obtain ⟨Q, HQ, HQb, HQl, HQp, hq⟩ := keep_lp l ⟨ps, px, Ap, cp, ss⟩ w
  have HTW : Hid (∀ W, Q W → Lies l W) := Lib.hid fun W hW => Lies.closed l _ _ hL (HQb.out W hW)
  have HPW : Hid (∀ W, Q W → PLies ⟨ps, px, Ap, cp, ss⟩ W ∧ Row W W.heap.size A (nums .i64 vs)) := Lib.hid fun W hW => ⟨PLies.closed _ _ _ hp (HQb.out W hW), hR.on (HQb.out W hW)⟩
  have hln := hp.len
  simp only at hln
  obtain ⟨rt, hrt⟩ : ∃ b, rightT l = b := ⟨_, rfl⟩
  have KR := Lib.hid (fun W hW => keepR HQ.out (rightRT_any (w := W) (HTW.out W hW) hrt) hW)
  have HRT := Lib.hid hrt
  have HR : Hid (check11 l ⟨ps, px, Ap, cp, ss⟩ vs = r) := Lib.hid hr
  have HRW : Hid (∀ W, Q W → Row W W.heap.size Ap (ss.flatMap stpCells)) := Lib.hid fun W hW => (HPW.out W hW).1.row
  clear hL hp hR hr hrt
  go_enter Tryz.func11, Tryz.ntmps11
  have m0 := HQl.out _ hq
  have x0 := m0.cell_at 0 rfl
  have x1 := m0.cell_at 1 rfl
  have x2 := m0.cell_at 2 rfl
  have x3 := m0.cell_at 3 rfl
  have x4 := m0.cell_at 4 rfl
  have x5 := m0.cell_at 5 rfl
  have x6 := m0.cell_at 6 rfl
  have x7 := m0.cell_at 7 rfl
  have x8 := m0.cell_at 8 rfl
  have x9 := m0.cell_at 9 rfl
  have x10 := m0.cell_at 10 rfl
  clear m0
  have m0 := HQp.out _ hq
  have y0 := m0.cell_at 0 rfl
  have y1 := m0.cell_at 1 rfl
  have y2 := m0.cell_at 2 rfl
  clear m0
  go_wp2_with fail
  refine (KR.out _ hq).mono ?_
  clear hq x0 x1 x2 x3 x4 x5 x6 x7 x8 x9 x10 y0 y1 y2
  rintro e w1 ⟨rfl, hq⟩
  cases rt
  · have H2 : Hid (2 = r) := Lib.hid (by rw [← HR.out]; unfold check11; rw [HRT.out]; rfl)
    go_wp2_with fail
    go_ret
    exact ⟨ret_int H2.out, HQb.out _ hq⟩
  have m0 := HQl.out _ hq
  have x0 := m0.cell_at 0 rfl
  have x1 := m0.cell_at 1 rfl
  have x2 := m0.cell_at 2 rfl
  have x3 := m0.cell_at 3 rfl
  have x4 := m0.cell_at 4 rfl
  have x5 := m0.cell_at 5 rfl
  have x6 := m0.cell_at 6 rfl
  have x7 := m0.cell_at 7 rfl
  have x8 := m0.cell_at 8 rfl
  have x9 := m0.cell_at 9 rfl
  have x10 := m0.cell_at 10 rfl
  clear m0
  have m0 := HQp.out _ hq
  have y0 := m0.cell_at 0 rfl
  have y1 := m0.cell_at 1 rfl
  have y2 := m0.cell_at 2 rfl
  clear m0
  by_cases hc : ps < 0
  · have H2 : Hid (2 = r) := Lib.hid (by rw [← HR.out]; unfold check11; rw [show knownV l ⟨ps, px, Ap, cp, ss⟩ = false from (by unfold knownV; simp only; rw [decide_eq_false (p := (0 ≤ ps)) (by omega)]; rfl)]; simp)
    have d1 : decide (ps < 0) = true := decide_eq_true hc
    go_wp2_with fail
    go_ret
    exact ⟨ret_int H2.out, HQb.out _ hq⟩
  have d1 : decide (ps < 0) = false := decide_eq_false hc
  have hs0 : 0 ≤ ps := by omega
  clear hc
  by_cases hc : (l.sigs.length : Int) ≤ ps
  · have H2 : Hid (2 = r) := Lib.hid (by rw [← HR.out]; unfold check11; rw [show knownV l ⟨ps, px, Ap, cp, ss⟩ = false from (by unfold knownV; simp only; rw [decide_eq_false (p := (ps < (l.sigs.length : Int))) (by omega), Bool.and_false]; rfl)]; simp)
    have d2 : decide ((l.sigs.length : Int) ≤ ps) = true := decide_eq_true hc
    go_wp2_with fail
    go_ret
    exact ⟨ret_int H2.out, HQb.out _ hq⟩
  have d2 : decide ((l.sigs.length : Int) ≤ ps) = false := decide_eq_false hc
  have hs1 : ps < l.sigs.length := by omega
  clear hc
  by_cases hc : px < 0
  · have H2 : Hid (2 = r) := Lib.hid (by rw [← HR.out]; unfold check11; rw [show knownV l ⟨ps, px, Ap, cp, ss⟩ = false from (by unfold knownV; simp only; rw [decide_eq_false (p := (0 ≤ px)) (by omega), Bool.false_and, Bool.and_false])]; simp)
    have d3 : decide (px < 0) = true := decide_eq_true hc
    go_wp2_with fail
    go_ret
    exact ⟨ret_int H2.out, HQb.out _ hq⟩
  have d3 : decide (px < 0) = false := decide_eq_false hc
  have ht0 : 0 ≤ px := by omega
  clear hc
  by_cases hc : (l.exits.length : Int) ≤ px
  · have H2 : Hid (2 = r) := Lib.hid (by rw [← HR.out]; unfold check11; rw [show knownV l ⟨ps, px, Ap, cp, ss⟩ = false from (by unfold knownV; simp only; rw [decide_eq_false (p := (px < (l.exits.length : Int))) (by omega), Bool.and_false, Bool.and_false])]; simp)
    have d4 : decide ((l.exits.length : Int) ≤ px) = true := decide_eq_true hc
    go_wp2_with fail
    go_ret
    exact ⟨ret_int H2.out, HQb.out _ hq⟩
  have d4 : decide ((l.exits.length : Int) ≤ px) = false := decide_eq_false hc
  have ht1 : px < l.exits.length := by omega
  clear hc
  by_cases hc : (2 : Int) < vs.length
  · have H2 : Hid (2 = r) := Lib.hid (by rw [← HR.out]; unfold check11; rw [show viasV l vs = false from (by unfold viasV; rw [decide_eq_false (p := (vs.length ≤ 2)) (by omega)]; rfl)]; simp)
    have d5 : decide ((2 : Int) < vs.length) = true := decide_eq_true hc
    go_wp2_with fail
    go_ret
    exact ⟨ret_int H2.out, HQb.out _ hq⟩
  have d5 : decide ((2 : Int) < vs.length) = false := decide_eq_false hc
  have hv2 : vs.length ≤ 2 := by omega
  clear hc
  have HKN : Hid (knownV l ⟨ps, px, Ap, cp, ss⟩ = true) := Lib.hid (by unfold knownV; simp only; rw [decide_eq_true hs0, decide_eq_true hs1, decide_eq_true ht0, decide_eq_true ht1]; rfl)
  have HV2 := Lib.hid hv2
  go_wp2_with fail
  clear d1 d2 d3 d4 d5 x0 x1 x2 x3 x4 x5 x6 x7 x8 x9 x10 y0 y1 y2
  go_loopw [7] (fun i wr => ∃ j : Nat, j ≤ vs.length ∧ i = .int .i64 j ∧ Q wr ∧ Hid (NoneUp (noVia l) vs j)) (fun i _ => vs.length - (intOf i).toNat)
  case atStart => exact ⟨0, by omega, rfl, hq, Lib.hid (NoneUp.zero _ _)⟩
  case round =>
    clear hq
    obtain ⟨j, hj, rfl, hq, HNo⟩ := hrel
    obtain ⟨wa, rfl⟩ : ∃ W, W = wr := ⟨wr, rfl⟩
    by_cases hlt : j < vs.length
    · have hlt' : (j : Int) < vs.length := by omega
      obtain ⟨v, hv⟩ : ∃ v, vs[j]? = some v := ⟨_, List.getElem?_eq_getElem hlt⟩
      obtain ⟨b2, o2, hA, _, _⟩ := (HPW.out _ hq).2.num hlt
      have HD0 : Hid (∀ W, Q W → W.cell? ⟨b2, o2 + j, none⟩ = some (.int .i64 v)) := Lib.hid fun W hW => by
        obtain ⟨b', o', e, _, h⟩ := (HPW.out _ hW).2.num hlt
        rw [hA] at e
        cases e
        rw [hv] at h
        exact h
      obtain rfl := hA
      have HN : Hid (noVia l v = false → NoneUp (noVia l) vs (j + 1)) := Lib.hid fun e => HNo.out.succ hv e
      have HB2 : Hid (noVia l v = true → 2 = r) := Lib.hid fun e => by
        rw [← HR.out]
        unfold check11
        rw [show viasV l vs = false from by unfold viasV; rw [any_hit hv e]; simp]
        simp
      clear hv
      by_cases h1 : v < 0
      · have H2 : Hid (2 = r) := Lib.hid (HB2.out (by unfold noVia; rw [decide_eq_false (p := (0 ≤ v)) (by omega)]; rfl))
        have d1 : decide (v < 0) = true := decide_eq_true h1
        clear HN HB2
        go_wp2_with fail
        have HBS : Hid (∀ W, Below wa.heap.size wa W → Q W) := Lib.hid (fun W hB => HQ.out _ _ hq hB)
        clear hq
        refine region_mix (Below wa.heap.size wa) [(0, false), (1, false), (2, false), (3, false), (4, false), (5, false), (6, false), (7, false), (8, false), (9, false), (10, false), (11, false), (12, false), (13, false), (14, false)] (by kernel_rfl) (by kernel_rfl) (Below wa.heap.size wa) ⟨Closed.below wa, fun _ h => h⟩ (Below.refl _ _).drew ?_
        simp only [pickOps, List.getElem?_cons_zero, List.getElem?_cons_succ]
        repeat (first | (refine mix_skip (by rfl) ?_; simp only [Act.put, List.setIfInBounds_toArray, List.set_cons_zero, List.set_cons_succ]) | (refine mix_read _ (by rfl) (fun W hW => by (have hW := HBS.out W hW; have m0 := HQl.out W hW; have x0 := m0.cell_at 0 rfl; have x1 := m0.cell_at 1 rfl; have x2 := m0.cell_at 2 rfl; have x3 := m0.cell_at 3 rfl; have x4 := m0.cell_at 4 rfl; have x5 := m0.cell_at 5 rfl; have x6 := m0.cell_at 6 rfl; have x7 := m0.cell_at 7 rfl; have x8 := m0.cell_at 8 rfl; have x9 := m0.cell_at 9 rfl; have x10 := m0.cell_at 10 rfl; have m1 := HQp.out W hW; have y0 := m1.cell_at 0 rfl; have y1 := m1.cell_at 1 rfl; have y2 := m1.cell_at 2 rfl; clear m0 m1; have e0 := HD0.out W hW; go_simp; first | done | with_reducible rfl)) ?_; simp only [Act.put, List.setIfInBounds_toArray, List.set_cons_zero, List.set_cons_succ]))
        refine mix_nil (fun W hW => ?_)
        have hq := HBS.out W hW
        clear hW HBS
        go_wp2_with fail
        go_ret
        exact ⟨ret_int H2.out, HQb.out _ hq⟩
      have d1 : decide (v < 0) = false := decide_eq_false h1
      by_cases h2 : (l.secs.length : Int) ≤ v
      · have H2 : Hid (2 = r) := Lib.hid (HB2.out (by unfold noVia; rw [decide_eq_false (p := (v < (l.secs.length : Int))) (by omega), Bool.and_false]; rfl))
        have d2 : decide ((l.secs.length : Int) ≤ v) = true := decide_eq_true h2
        clear HN HB2
        go_wp2_with fail
        have HBS : Hid (∀ W, Below wa.heap.size wa W → Q W) := Lib.hid (fun W hB => HQ.out _ _ hq hB)
        clear hq
        refine region_mix (Below wa.heap.size wa) [(0, false), (1, false), (2, false), (3, false), (4, false), (5, false), (6, false), (7, false), (8, false), (9, false), (10, false), (11, false), (12, false), (13, false), (14, false)] (by kernel_rfl) (by kernel_rfl) (Below wa.heap.size wa) ⟨Closed.below wa, fun _ h => h⟩ (Below.refl _ _).drew ?_
        simp only [pickOps, List.getElem?_cons_zero, List.getElem?_cons_succ]
        repeat (first | (refine mix_skip (by rfl) ?_; simp only [Act.put, List.setIfInBounds_toArray, List.set_cons_zero, List.set_cons_succ]) | (refine mix_read _ (by rfl) (fun W hW => by (have hW := HBS.out W hW; have m0 := HQl.out W hW; have x0 := m0.cell_at 0 rfl; have x1 := m0.cell_at 1 rfl; have x2 := m0.cell_at 2 rfl; have x3 := m0.cell_at 3 rfl; have x4 := m0.cell_at 4 rfl; have x5 := m0.cell_at 5 rfl; have x6 := m0.cell_at 6 rfl; have x7 := m0.cell_at 7 rfl; have x8 := m0.cell_at 8 rfl; have x9 := m0.cell_at 9 rfl; have x10 := m0.cell_at 10 rfl; have m1 := HQp.out W hW; have y0 := m1.cell_at 0 rfl; have y1 := m1.cell_at 1 rfl; have y2 := m1.cell_at 2 rfl; clear m0 m1; have e0 := HD0.out W hW; go_simp; first | done | with_reducible rfl)) ?_; simp only [Act.put, List.setIfInBounds_toArray, List.set_cons_zero, List.set_cons_succ]))
        refine mix_nil (fun W hW => ?_)
        have hq := HBS.out W hW
        clear hW HBS
        go_wp2_with fail
        go_ret
        exact ⟨ret_int H2.out, HQb.out _ hq⟩
      have d2 : decide ((l.secs.length : Int) ≤ v) = false := decide_eq_false h2
      have HN' := Lib.hid (HN.out (by unfold noVia; rw [decide_eq_true (p := (0 ≤ v)) (by omega), decide_eq_true (p := (v < (l.secs.length : Int))) (by omega)]; rfl))
      clear HN HB2
      go_wp2_with fail
      have HBS : Hid (∀ W, Below wa.heap.size wa W → Q W) := Lib.hid (fun W hB => HQ.out _ _ hq hB)
      clear hq
      refine region_mix (Below wa.heap.size wa) [(0, false), (1, false), (2, false), (3, false), (4, false), (5, false), (6, false), (7, false), (8, false), (9, false), (10, false), (11, false), (12, false), (13, false), (14, false)] (by kernel_rfl) (by kernel_rfl) (Below wa.heap.size wa) ⟨Closed.below wa, fun _ h => h⟩ (Below.refl _ _).drew ?_
      simp only [pickOps, List.getElem?_cons_zero, List.getElem?_cons_succ]
      repeat (first | (refine mix_skip (by rfl) ?_; simp only [Act.put, List.setIfInBounds_toArray, List.set_cons_zero, List.set_cons_succ]) | (refine mix_read _ (by rfl) (fun W hW => by (have hW := HBS.out W hW; have m0 := HQl.out W hW; have x0 := m0.cell_at 0 rfl; have x1 := m0.cell_at 1 rfl; have x2 := m0.cell_at 2 rfl; have x3 := m0.cell_at 3 rfl; have x4 := m0.cell_at 4 rfl; have x5 := m0.cell_at 5 rfl; have x6 := m0.cell_at 6 rfl; have x7 := m0.cell_at 7 rfl; have x8 := m0.cell_at 8 rfl; have x9 := m0.cell_at 9 rfl; have x10 := m0.cell_at 10 rfl; have m1 := HQp.out W hW; have y0 := m1.cell_at 0 rfl; have y1 := m1.cell_at 1 rfl; have y2 := m1.cell_at 2 rfl; clear m0 m1; have e0 := HD0.out W hW; go_simp; first | done | with_reducible rfl)) ?_; simp only [Act.put, List.setIfInBounds_toArray, List.set_cons_zero, List.set_cons_succ]))
      refine mix_nil (fun W hW => ?_)
      have hq := HBS.out W hW
      clear hW HBS
      go_wp2_with fail
      go_roundw
      case rel => exact ⟨j + 1, hlt, by go_num, hq, HN'⟩
      case measure => simp [intOf]; omega
    · obtain rfl : j = vs.length := by omega
      have HVI : Hid (viasV l vs = true) := Lib.hid (by unfold viasV; rw [HNo.out.any, decide_eq_true HV2.out]; rfl)
      have HRR : Hid ((if (isPathV l ⟨ps, px, Ap, cp, ss⟩ && throughV (secsS ss) vs) = true then (0 : Int) else 110) = r) := Lib.hid (by rw [← HR.out]; unfold check11; rw [HRT.out, HKN.out, HVI.out]; rfl)
      clear HNo HV2 HVI
      obtain ⟨js, rfl⟩ : ∃ n : Nat, ps = n := ⟨ps.toNat, by omega⟩
      obtain ⟨jx, rfl⟩ : ∃ n : Nat, px = n := ⟨px.toNat, by omega⟩
      obtain ⟨⟨g1, g2⟩, hsg⟩ : ∃ y, l.sigs[js]? = some y := ⟨_, List.getElem?_eq_getElem (by omega)⟩
      obtain ⟨ex, hex⟩ : ∃ y, l.exits[jx]? = some y := ⟨_, List.getElem?_eq_getElem (by omega)⟩
      have HSG := Lib.hid hsg
      have HEX := Lib.hid hex
      obtain ⟨bg, og, HAG, HG, HG'⟩ := row_at (f := prtCells) (n := 2) (fun _ => rfl) (by omega) (fun W hW => (HTW.out W hW).sigs) hq hsg
      have HSC : Hid (∀ W, Q W → W.cell? ⟨bg, og + js * 2, none⟩ = some (.int .i64 g1) ∧ W.cell? ⟨bg, og + js * 2 + 1, none⟩ = some (.int .i64 g2)) := Lib.hid fun W hW => ⟨HG.out W hW js _ _ HSG.out rfl, HG'.out W hW js _ 1 _ HSG.out rfl⟩
      obtain ⟨be, oe, HAE, HE, HE'⟩ := row_at (f := Exm.cells) (n := 3) (fun _ => rfl) (by omega) (fun W hW => (HTW.out W hW).exits) hq hex
      have HEC : Hid (∀ W, Q W → W.cell? ⟨be, oe + jx * 3, none⟩ = some (.int .i64 ex.s) ∧ W.cell? ⟨be, oe + jx * 3 + 1, none⟩ = some (.int .i64 ex.q) ∧ W.cell? ⟨be, oe + jx * 3 + 2, none⟩ = some (.slice ex.A ex.over.length ex.c)) := Lib.hid fun W hW => ⟨HE.out W hW jx _ _ HEX.out rfl, HE'.out W hW jx _ 1 _ HEX.out rfl, HE'.out W hW jx _ 2 _ HEX.out rfl⟩
      obtain ⟨gs, hgs⟩ : ∃ b, goesS l ss = b := ⟨_, rfl⟩
      obtain ⟨si, hsi⟩ : ∃ b, simpleB ss ex.over = b := ⟨_, rfl⟩
      obtain ⟨th, hth⟩ : ∃ b, throughV (secsS ss) vs = b := ⟨_, rfl⟩
      have hol := (HTW.out _ hq).nO ex (List.mem_of_getElem? hex)
      have KG : Hid (∀ W, Q W → Calls Tryz.prog 15 #[l.val, .slice Ap ss.length cp] W fun e w' => e = .returned (.bool gs) ∧ Below W.heap.size W w') := Lib.hid fun W hW => goesR11_any (HTW.out W hW) cp (HRW.out W hW) hln hgs
      have KS : Hid (∀ W, Q W → Calls Tryz.prog 33 #[.slice Ap ss.length cp, .slice ex.A ex.over.length ex.c] W fun e w' => e = .returned (.bool si) ∧ Below W.heap.size W w') := Lib.hid fun W hW => simpleR_any cp ex.c (HRW.out W hW) ((HTW.out W hW).overs ex (List.mem_of_getElem? HEX.out)) hln hol hsi
      have KT : Hid (∀ W, Q W → Calls Tryz.prog 17 #[Pth.val ⟨js, jx, Ap, cp, ss⟩, .slice A vs.length c] W fun e w' => e = .returned (.bool th) ∧ Below W.heap.size W w') := Lib.hid fun W hW => throughR_any (HPW.out W hW).1 (HPW.out W hW).2 hn hth
      have HGS := Lib.hid hgs
      have HSI := Lib.hid hsi
      have HTH := Lib.hid hth
      have hjs : (js : Int) < l.sigs.length := hs1
      have hjx : (jx : Int) < l.exits.length := ht1
      clear hs0 hs1 ht0 ht1 hsg hex hgs hsi hth hol HG HG' HE HE' HKN
      have y2 := (HQp.out _ hq).cell_at 2 rfl
      go_wp2_with fail
      clear y2
      by_cases h1 : (ss.length : Int) < 1
      · have HF : Hid (110 = r) := Lib.hid (by rw [← HRR.out]; unfold isPathV sizeP; rw [decide_eq_false (by simp only; omega)]; rfl)
        go_wp2_with fail
        have HBS : Hid (∀ W, Below wa.heap.size wa W → Q W) := Lib.hid (fun W hB => HQ.out _ _ hq hB)
        clear hq
        refine region_mix (Below wa.heap.size wa) [(0, false), (1, false), (2, false), (3, false), (4, false), (5, false), (6, false), (7, false), (8, false), (9, false), (10, false), (11, false), (12, false), (13, false), (14, false), (15, false), (16, false), (17, false), (18, false), (19, false), (20, false), (21, false), (22, false), (23, false), (24, false), (25, false), (26, false), (27, false), (28, false), (29, false), (30, false), (31, false)] (by kernel_rfl) (by kernel_rfl) (Below wa.heap.size wa) ⟨Closed.below wa, fun _ h => h⟩ (Below.refl _ _).drew ?_
        simp only [pickOps, List.getElem?_cons_zero, List.getElem?_cons_succ]
        repeat (first | (refine mix_skip (by rfl) ?_; simp only [Act.put, List.setIfInBounds_toArray, List.set_cons_zero, List.set_cons_succ]) | (refine mix_read _ (by rfl) (fun W hW => by (have hW := HBS.out W hW; have m0 := HQl.out W hW; have x0 := m0.cell_at 0 rfl; have x1 := m0.cell_at 1 rfl; have x2 := m0.cell_at 2 rfl; have x3 := m0.cell_at 3 rfl; have x4 := m0.cell_at 4 rfl; have x5 := m0.cell_at 5 rfl; have x6 := m0.cell_at 6 rfl; have x7 := m0.cell_at 7 rfl; have x8 := m0.cell_at 8 rfl; have x9 := m0.cell_at 9 rfl; have x10 := m0.cell_at 10 rfl; have m1 := HQp.out W hW; have y0 := m1.cell_at 0 rfl; have y1 := m1.cell_at 1 rfl; have y2 := m1.cell_at 2 rfl; clear m0 m1; go_simp; first | done | with_reducible rfl)) ?_; simp only [Act.put, List.setIfInBounds_toArray, List.set_cons_zero, List.set_cons_succ]))
        refine mix_nil (fun W hW => ?_)
        have hq := HBS.out W hW
        clear hW HBS
        go_wp2_with fail
        go_ret
        exact ⟨ret_int HF.out, HQb.out _ hq⟩
      have h0n : 0 < ss.length := by omega
      have hne : ss ≠ [] := by intro e; rw [e] at h0n; simp at h0n
      have hnl : ¬ ss.length = 0 := by omega
      have q1 : decide (ss = []) = false := decide_eq_false hne
      have q2 : decide ((ss.length : Int) < 1) = false := decide_eq_false h1
      have q3 : decide (ss.length = 0) = false := decide_eq_false hnl
      have q4 : decide (ss.length < 1) = false := decide_eq_false (by omega)
      by_cases h12 : (12 : Int) < ss.length
      · have HF : Hid (110 = r) := Lib.hid (by rw [← HRR.out]; unfold isPathV sizeP; rw [decide_eq_false (p := (ss.length ≤ 12)) (by omega), Bool.and_false]; rfl)
        go_wp2_with fail
        have HBS : Hid (∀ W, Below wa.heap.size wa W → Q W) := Lib.hid (fun W hB => HQ.out _ _ hq hB)
        clear hq
        refine region_mix (Below wa.heap.size wa) [(0, false), (1, false), (2, false), (3, false), (4, false), (5, false), (6, false), (7, false), (8, false), (9, false), (10, false), (11, false), (12, false), (13, false), (14, false), (15, false), (16, false), (17, false), (18, false), (19, false), (20, false), (21, false), (22, false), (23, false), (24, false), (25, false), (26, false), (27, false), (28, false), (29, false), (30, false), (31, false)] (by kernel_rfl) (by kernel_rfl) (Below wa.heap.size wa) ⟨Closed.below wa, fun _ h => h⟩ (Below.refl _ _).drew ?_
        simp only [pickOps, List.getElem?_cons_zero, List.getElem?_cons_succ]
        repeat (first | (refine mix_skip (by rfl) ?_; simp only [Act.put, List.setIfInBounds_toArray, List.set_cons_zero, List.set_cons_succ]) | (refine mix_read _ (by rfl) (fun W hW => by (have hW := HBS.out W hW; have m0 := HQl.out W hW; have x0 := m0.cell_at 0 rfl; have x1 := m0.cell_at 1 rfl; have x2 := m0.cell_at 2 rfl; have x3 := m0.cell_at 3 rfl; have x4 := m0.cell_at 4 rfl; have x5 := m0.cell_at 5 rfl; have x6 := m0.cell_at 6 rfl; have x7 := m0.cell_at 7 rfl; have x8 := m0.cell_at 8 rfl; have x9 := m0.cell_at 9 rfl; have x10 := m0.cell_at 10 rfl; have m1 := HQp.out W hW; have y0 := m1.cell_at 0 rfl; have y1 := m1.cell_at 1 rfl; have y2 := m1.cell_at 2 rfl; clear m0 m1; go_simp; first | done | with_reducible rfl)) ?_; simp only [Act.put, List.setIfInBounds_toArray, List.set_cons_zero, List.set_cons_succ]))
        refine mix_nil (fun W hW => ?_)
        have hq := HBS.out W hW
        clear hW HBS
        go_wp2_with fail
        go_ret
        exact ⟨ret_int HF.out, HQb.out _ hq⟩
      have p1 : decide ((12 : Int) < ss.length) = false := decide_eq_false h12
      have p2 : ¬ 12 < ss.length := by omega
      have p3 : decide (12 < ss.length) = false := decide_eq_false p2
      have HSZ : Hid (sizeP ss = true) := Lib.hid (by unfold sizeP; rw [decide_eq_true (p := (1 ≤ ss.length)) (by omega), decide_eq_true (p := (ss.length ≤ 12)) (by omega)]; rfl)
      obtain ⟨m, hm⟩ : ∃ m, ss.length = m + 1 := ⟨ss.length - 1, by omega⟩
      obtain ⟨⟨x1, x2, x3⟩, hx⟩ : ∃ x, ss[0]? = some x := ⟨_, List.getElem?_eq_getElem (by omega)⟩
      obtain ⟨⟨z1, z2, z3⟩, hz⟩ : ∃ x, ss[m]? = some x := ⟨_, List.getElem?_eq_getElem (by omega)⟩
      obtain ⟨d1, hd1⟩ : ∃ d, decide ((g1, g2) = (x1, x2)) = d := ⟨_, rfl⟩
      obtain ⟨d2, hd2⟩ : ∃ d, decide ((ex.s, ex.q) = (z1, z3)) = d := ⟨_, rfl⟩
      obtain ⟨d4, hd4⟩ : ∃ d, passV l ss = d := ⟨_, rfl⟩
      have HRS : Hid ((if ((gs && (d1 && (d2 && (si && !d4)))) && th) = true then (0 : Int) else 110) = r) := Lib.hid (by
        rw [← HRR.out]
        unfold isPathV
        simp only
        rw [HSZ.out, HGS.out, over_at HEX.out, HSI.out, hd4, HTH.out, beginV_at (p := ⟨js, jx, Ap, cp, ss⟩) hx HSG.out, endV_at (p := ⟨js, jx, Ap, cp, ss⟩) (show ss[ss.length - 1]? = _ by rw [hm]; exact hz) HEX.out, ← hd1, ← hd2, decide_eq_decide.2 (show ((x1, x2) = (g1, g2)) ↔ ((g1, g2) = (x1, x2)) from ⟨Eq.symm, Eq.symm⟩), decide_eq_decide.2 (show ((z1, z3) = (ex.s, ex.q)) ↔ ((ex.s, ex.q) = (z1, z3)) from ⟨Eq.symm, Eq.symm⟩)]
        rfl)
      have HN1 : Hid (∀ W, (binOp .neq 46 (prtV g1 g2) (prtV x1 x2)).run Tryz.prog W = .ok (.bool (!d1)) W) := Lib.hid fun W => by rw [neq_prtD, hd1]
      have HN2 : Hid (∀ W, (binOp .neq 46 (prtV ex.s ex.q) (prtV z1 z3)).run Tryz.prog W = .ok (.bool (!d2)) W) := Lib.hid fun W => by rw [neq_prtD, hd2]
      obtain ⟨b, off, HA, HC, HC'⟩ := row_at (f := stpCells) (n := 3) (fun _ => rfl) (by omega) HRW.out hq hx
      obtain rfl := HA.out
      have HX0 : Hid (∀ W, Q W → W.cell? ⟨b, off, none⟩ = some (.int .i64 x1) ∧ W.cell? ⟨b, off + 1, none⟩ = some (.int .i64 x2) ∧ W.cell? ⟨b, off + 2, none⟩ = some (.int .i64 x3)) := Lib.hid fun W hW => by
        have a0 := HC.out W hW 0 _ _ hx rfl
        have a1 := HC'.out W hW 0 _ 1 _ hx rfl
        have a2 := HC'.out W hW 0 _ 2 _ hx rfl
        simp only [Nat.zero_mul, Nat.add_zero] at a0 a1 a2
        exact ⟨a0, a1, a2⟩
      have HXM : Hid (∀ W, Q W → W.cell? ⟨b, off + m * 3, none⟩ = some (.int .i64 z1) ∧ W.cell? ⟨b, off + m * 3 + 1, none⟩ = some (.int .i64 z2) ∧ W.cell? ⟨b, off + m * 3 + 2, none⟩ = some (.int .i64 z3)) := Lib.hid fun W hW => ⟨HC.out W hW m _ _ hz rfl, HC'.out W hW m _ 1 _ hz rfl, HC'.out W hW m _ 2 _ hz rfl⟩
      have hwm : IntKind.i64.wrap ((ss.length : Int) - 1) = (m : Int) := by rw [IntWalk.i64_in _ (by omega)]; omega
      have hml : (m : Int) < ss.length := by omega
      have h0l : (0 : Int) < ss.length := by omega
      have HM := Lib.hid hm
      have HD4 := Lib.hid hd4
      clear hx hz hd1 hd2 hd4 hm HRR HSZ HA
      cases gs
      · have HF : Hid (110 = r) := Lib.hid (by rw [← HRS.out]; simp)
        go_wp2_with fail
        have HBS : Hid (∀ W, Below wa.heap.size wa W → Q W) := Lib.hid (fun W hB => HQ.out _ _ hq hB)
        clear hq
        refine region_mix (Below wa.heap.size wa) [(0, false), (1, false), (2, false), (3, false), (4, false), (5, false), (6, false), (7, false), (8, false), (9, false), (10, false), (11, false), (12, false), (13, false), (14, false), (15, false), (16, false), (17, false), (18, false), (19, false), (20, false), (21, false), (22, false), (23, false), (24, false), (25, false), (26, false), (27, false), (28, false), (29, false), (30, false), (31, false)] (by kernel_rfl) (by kernel_rfl) (Below wa.heap.size wa) ⟨Closed.below wa, fun _ h => h⟩ (Below.refl _ _).drew ?_
        simp only [pickOps, List.getElem?_cons_zero, List.getElem?_cons_succ]
        repeat (first | (refine mix_skip (by rfl) ?_; simp only [Act.put, List.setIfInBounds_toArray, List.set_cons_zero, List.set_cons_succ]) | (refine mix_read _ (by rfl) (fun W hW => by (have hW := HBS.out W hW; have m0 := HQl.out W hW; have x0 := m0.cell_at 0 rfl; have x1 := m0.cell_at 1 rfl; have x2 := m0.cell_at 2 rfl; have x3 := m0.cell_at 3 rfl; have x4 := m0.cell_at 4 rfl; have x5 := m0.cell_at 5 rfl; have x6 := m0.cell_at 6 rfl; have x7 := m0.cell_at 7 rfl; have x8 := m0.cell_at 8 rfl; have x9 := m0.cell_at 9 rfl; have x10 := m0.cell_at 10 rfl; have m1 := HQp.out W hW; have y0 := m1.cell_at 0 rfl; have y1 := m1.cell_at 1 rfl; have y2 := m1.cell_at 2 rfl; clear m0 m1; obtain ⟨s0, s1, s2⟩ := HEC.out W hW; go_simp; first | done | with_reducible rfl)) ?_; simp only [Act.put, List.setIfInBounds_toArray, List.set_cons_zero, List.set_cons_succ]) | (refine mix_read _ (by rfl) (fun W hW => by (have hW := HBS.out W hW; have m0 := HQl.out W hW; have x0 := m0.cell_at 0 rfl; have x1 := m0.cell_at 1 rfl; have x2 := m0.cell_at 2 rfl; have x3 := m0.cell_at 3 rfl; have x4 := m0.cell_at 4 rfl; have x5 := m0.cell_at 5 rfl; have x6 := m0.cell_at 6 rfl; have x7 := m0.cell_at 7 rfl; have x8 := m0.cell_at 8 rfl; have x9 := m0.cell_at 9 rfl; have x10 := m0.cell_at 10 rfl; have m1 := HQp.out W hW; have y0 := m1.cell_at 0 rfl; have y1 := m1.cell_at 1 rfl; have y2 := m1.cell_at 2 rfl; clear m0 m1; obtain ⟨s0, s1, s2⟩ := HEC.out W hW; rw [HAE.out]; go_simp; first | done | with_reducible rfl)) ?_; simp only [Act.put, List.setIfInBounds_toArray, List.set_cons_zero, List.set_cons_succ]) | (refine mix_call _ _ _ (by rfl) (fun W hW => by (have hW := HBS.out W hW; have m0 := HQl.out W hW; have x0 := m0.cell_at 0 rfl; have x1 := m0.cell_at 1 rfl; have x2 := m0.cell_at 2 rfl; have x3 := m0.cell_at 3 rfl; have x4 := m0.cell_at 4 rfl; have x5 := m0.cell_at 5 rfl; have x6 := m0.cell_at 6 rfl; have x7 := m0.cell_at 7 rfl; have x8 := m0.cell_at 8 rfl; have x9 := m0.cell_at 9 rfl; have x10 := m0.cell_at 10 rfl; have m1 := HQp.out W hW; have y0 := m1.cell_at 0 rfl; have y1 := m1.cell_at 1 rfl; have y2 := m1.cell_at 2 rfl; clear m0 m1; obtain ⟨s0, s1, s2⟩ := HEC.out W hW; go_simp; first | done | rfl)) (fun W hW => KG.out W (HBS.out W hW)) ?_; simp only [Act.put, List.setIfInBounds_toArray, List.set_cons_zero, List.set_cons_succ]))
        refine mix_nil (fun W hW => ?_)
        have hq := HBS.out W hW
        clear hW HBS
        go_wp2_with fail
        go_ret
        exact ⟨ret_int HF.out, HQb.out _ hq⟩
      cases si
      · have HF : Hid (110 = r) := Lib.hid (by rw [← HRS.out]; simp)
        go_wp2_with fail
        have HBS : Hid (∀ W, Below wa.heap.size wa W → Q W) := Lib.hid (fun W hB => HQ.out _ _ hq hB)
        clear hq
        refine region_mix (Below wa.heap.size wa) [(0, false), (1, false), (2, false), (3, false), (4, false), (5, false), (6, false), (7, false), (8, false), (9, false), (10, false), (11, false), (12, false), (13, false), (14, false), (15, false), (16, false), (17, false), (18, false), (19, false), (20, false), (21, false), (22, false), (23, false), (24, false), (25, false), (26, false), (27, false), (28, false), (29, false), (30, false), (31, false)] (by kernel_rfl) (by kernel_rfl) (Below wa.heap.size wa) ⟨Closed.below wa, fun _ h => h⟩ (Below.refl _ _).drew ?_
        simp only [pickOps, List.getElem?_cons_zero, List.getElem?_cons_succ]
        repeat (first | (refine mix_skip (by rfl) ?_; simp only [Act.put, List.setIfInBounds_toArray, List.set_cons_zero, List.set_cons_succ]) | (refine mix_read _ (by rfl) (fun W hW => by (have hW := HBS.out W hW; have m0 := HQl.out W hW; have x0 := m0.cell_at 0 rfl; have x1 := m0.cell_at 1 rfl; have x2 := m0.cell_at 2 rfl; have x3 := m0.cell_at 3 rfl; have x4 := m0.cell_at 4 rfl; have x5 := m0.cell_at 5 rfl; have x6 := m0.cell_at 6 rfl; have x7 := m0.cell_at 7 rfl; have x8 := m0.cell_at 8 rfl; have x9 := m0.cell_at 9 rfl; have x10 := m0.cell_at 10 rfl; have m1 := HQp.out W hW; have y0 := m1.cell_at 0 rfl; have y1 := m1.cell_at 1 rfl; have y2 := m1.cell_at 2 rfl; clear m0 m1; obtain ⟨s0, s1, s2⟩ := HEC.out W hW; go_simp; first | done | with_reducible rfl)) ?_; simp only [Act.put, List.setIfInBounds_toArray, List.set_cons_zero, List.set_cons_succ]) | (refine mix_read _ (by rfl) (fun W hW => by (have hW := HBS.out W hW; have m0 := HQl.out W hW; have x0 := m0.cell_at 0 rfl; have x1 := m0.cell_at 1 rfl; have x2 := m0.cell_at 2 rfl; have x3 := m0.cell_at 3 rfl; have x4 := m0.cell_at 4 rfl; have x5 := m0.cell_at 5 rfl; have x6 := m0.cell_at 6 rfl; have x7 := m0.cell_at 7 rfl; have x8 := m0.cell_at 8 rfl; have x9 := m0.cell_at 9 rfl; have x10 := m0.cell_at 10 rfl; have m1 := HQp.out W hW; have y0 := m1.cell_at 0 rfl; have y1 := m1.cell_at 1 rfl; have y2 := m1.cell_at 2 rfl; clear m0 m1; obtain ⟨s0, s1, s2⟩ := HEC.out W hW; rw [HAE.out]; go_simp; first | done | with_reducible rfl)) ?_; simp only [Act.put, List.setIfInBounds_toArray, List.set_cons_zero, List.set_cons_succ]) | (refine mix_call _ _ _ (by rfl) (fun W hW => by (have hW := HBS.out W hW; have m0 := HQl.out W hW; have x0 := m0.cell_at 0 rfl; have x1 := m0.cell_at 1 rfl; have x2 := m0.cell_at 2 rfl; have x3 := m0.cell_at 3 rfl; have x4 := m0.cell_at 4 rfl; have x5 := m0.cell_at 5 rfl; have x6 := m0.cell_at 6 rfl; have x7 := m0.cell_at 7 rfl; have x8 := m0.cell_at 8 rfl; have x9 := m0.cell_at 9 rfl; have x10 := m0.cell_at 10 rfl; have m1 := HQp.out W hW; have y0 := m1.cell_at 0 rfl; have y1 := m1.cell_at 1 rfl; have y2 := m1.cell_at 2 rfl; clear m0 m1; obtain ⟨s0, s1, s2⟩ := HEC.out W hW; go_simp; first | done | rfl)) (fun W hW => KG.out W (HBS.out W hW)) ?_; simp only [Act.put, List.setIfInBounds_toArray, List.set_cons_zero, List.set_cons_succ]) | (refine mix_call _ _ _ (by rfl) (fun W hW => by (have hW := HBS.out W hW; have m0 := HQl.out W hW; have x0 := m0.cell_at 0 rfl; have x1 := m0.cell_at 1 rfl; have x2 := m0.cell_at 2 rfl; have x3 := m0.cell_at 3 rfl; have x4 := m0.cell_at 4 rfl; have x5 := m0.cell_at 5 rfl; have x6 := m0.cell_at 6 rfl; have x7 := m0.cell_at 7 rfl; have x8 := m0.cell_at 8 rfl; have x9 := m0.cell_at 9 rfl; have x10 := m0.cell_at 10 rfl; have m1 := HQp.out W hW; have y0 := m1.cell_at 0 rfl; have y1 := m1.cell_at 1 rfl; have y2 := m1.cell_at 2 rfl; clear m0 m1; obtain ⟨s0, s1, s2⟩ := HEC.out W hW; go_simp; first | done | rfl)) (fun W hW => KS.out W (HBS.out W hW)) ?_; simp only [Act.put, List.setIfInBounds_toArray, List.set_cons_zero, List.set_cons_succ]))
        refine mix_nil (fun W hW => ?_)
        have hq := HBS.out W hW
        clear hW HBS
        go_wp2_with fail
        go_ret
        exact ⟨ret_int HF.out, HQb.out _ hq⟩
      cases th
      · have HF : Hid (110 = r) := Lib.hid (by rw [← HRS.out]; simp)
        go_wp2_with fail
        have HBS : Hid (∀ W, Below wa.heap.size wa W → Q W) := Lib.hid (fun W hB => HQ.out _ _ hq hB)
        clear hq
        refine region_mix (Below wa.heap.size wa) [(0, false), (1, false), (2, false), (3, false), (4, false), (5, false), (6, false), (7, false), (8, false), (9, false), (10, false), (11, false), (12, false), (13, false), (14, false), (15, false), (16, false), (17, false), (18, false), (19, false), (20, false), (21, false), (22, false), (23, false), (24, false), (25, false), (26, false), (27, false), (28, false), (29, false), (30, false), (31, false)] (by kernel_rfl) (by kernel_rfl) (Below wa.heap.size wa) ⟨Closed.below wa, fun _ h => h⟩ (Below.refl _ _).drew ?_
        simp only [pickOps, List.getElem?_cons_zero, List.getElem?_cons_succ]
        repeat (first | (refine mix_skip (by rfl) ?_; simp only [Act.put, List.setIfInBounds_toArray, List.set_cons_zero, List.set_cons_succ]) | (refine mix_read _ (by rfl) (fun W hW => by (have hW := HBS.out W hW; have m0 := HQl.out W hW; have x0 := m0.cell_at 0 rfl; have x1 := m0.cell_at 1 rfl; have x2 := m0.cell_at 2 rfl; have x3 := m0.cell_at 3 rfl; have x4 := m0.cell_at 4 rfl; have x5 := m0.cell_at 5 rfl; have x6 := m0.cell_at 6 rfl; have x7 := m0.cell_at 7 rfl; have x8 := m0.cell_at 8 rfl; have x9 := m0.cell_at 9 rfl; have x10 := m0.cell_at 10 rfl; have m1 := HQp.out W hW; have y0 := m1.cell_at 0 rfl; have y1 := m1.cell_at 1 rfl; have y2 := m1.cell_at 2 rfl; clear m0 m1; obtain ⟨s0, s1, s2⟩ := HEC.out W hW; go_simp; first | done | with_reducible rfl)) ?_; simp only [Act.put, List.setIfInBounds_toArray, List.set_cons_zero, List.set_cons_succ]) | (refine mix_read _ (by rfl) (fun W hW => by (have hW := HBS.out W hW; have m0 := HQl.out W hW; have x0 := m0.cell_at 0 rfl; have x1 := m0.cell_at 1 rfl; have x2 := m0.cell_at 2 rfl; have x3 := m0.cell_at 3 rfl; have x4 := m0.cell_at 4 rfl; have x5 := m0.cell_at 5 rfl; have x6 := m0.cell_at 6 rfl; have x7 := m0.cell_at 7 rfl; have x8 := m0.cell_at 8 rfl; have x9 := m0.cell_at 9 rfl; have x10 := m0.cell_at 10 rfl; have m1 := HQp.out W hW; have y0 := m1.cell_at 0 rfl; have y1 := m1.cell_at 1 rfl; have y2 := m1.cell_at 2 rfl; clear m0 m1; obtain ⟨s0, s1, s2⟩ := HEC.out W hW; rw [HAE.out]; go_simp; first | done | with_reducible rfl)) ?_; simp only [Act.put, List.setIfInBounds_toArray, List.set_cons_zero, List.set_cons_succ]) | (refine mix_call _ _ _ (by rfl) (fun W hW => by (have hW := HBS.out W hW; have m0 := HQl.out W hW; have x0 := m0.cell_at 0 rfl; have x1 := m0.cell_at 1 rfl; have x2 := m0.cell_at 2 rfl; have x3 := m0.cell_at 3 rfl; have x4 := m0.cell_at 4 rfl; have x5 := m0.cell_at 5 rfl; have x6 := m0.cell_at 6 rfl; have x7 := m0.cell_at 7 rfl; have x8 := m0.cell_at 8 rfl; have x9 := m0.cell_at 9 rfl; have x10 := m0.cell_at 10 rfl; have m1 := HQp.out W hW; have y0 := m1.cell_at 0 rfl; have y1 := m1.cell_at 1 rfl; have y2 := m1.cell_at 2 rfl; clear m0 m1; obtain ⟨s0, s1, s2⟩ := HEC.out W hW; go_simp; first | done | rfl)) (fun W hW => KG.out W (HBS.out W hW)) ?_; simp only [Act.put, List.setIfInBounds_toArray, List.set_cons_zero, List.set_cons_succ]) | (refine mix_call _ _ _ (by rfl) (fun W hW => by (have hW := HBS.out W hW; have m0 := HQl.out W hW; have x0 := m0.cell_at 0 rfl; have x1 := m0.cell_at 1 rfl; have x2 := m0.cell_at 2 rfl; have x3 := m0.cell_at 3 rfl; have x4 := m0.cell_at 4 rfl; have x5 := m0.cell_at 5 rfl; have x6 := m0.cell_at 6 rfl; have x7 := m0.cell_at 7 rfl; have x8 := m0.cell_at 8 rfl; have x9 := m0.cell_at 9 rfl; have x10 := m0.cell_at 10 rfl; have m1 := HQp.out W hW; have y0 := m1.cell_at 0 rfl; have y1 := m1.cell_at 1 rfl; have y2 := m1.cell_at 2 rfl; clear m0 m1; obtain ⟨s0, s1, s2⟩ := HEC.out W hW; go_simp; first | done | rfl)) (fun W hW => KS.out W (HBS.out W hW)) ?_; simp only [Act.put, List.setIfInBounds_toArray, List.set_cons_zero, List.set_cons_succ]) | (refine mix_call _ _ _ (by rfl) (fun W hW => by (have hW := HBS.out W hW; have m0 := HQl.out W hW; have x0 := m0.cell_at 0 rfl; have x1 := m0.cell_at 1 rfl; have x2 := m0.cell_at 2 rfl; have x3 := m0.cell_at 3 rfl; have x4 := m0.cell_at 4 rfl; have x5 := m0.cell_at 5 rfl; have x6 := m0.cell_at 6 rfl; have x7 := m0.cell_at 7 rfl; have x8 := m0.cell_at 8 rfl; have x9 := m0.cell_at 9 rfl; have x10 := m0.cell_at 10 rfl; have m1 := HQp.out W hW; have y0 := m1.cell_at 0 rfl; have y1 := m1.cell_at 1 rfl; have y2 := m1.cell_at 2 rfl; clear m0 m1; obtain ⟨s0, s1, s2⟩ := HEC.out W hW; go_simp; first | done | rfl)) (fun W hW => KT.out W (HBS.out W hW)) ?_; simp only [Act.put, List.setIfInBounds_toArray, List.set_cons_zero, List.set_cons_succ]))
        refine mix_nil (fun W hW => ?_)
        have hq := HBS.out W hW
        clear hW HBS
        go_wp2_with fail
        go_ret
        exact ⟨ret_int HF.out, HQb.out _ hq⟩
      go_wp2_with fail
      have HBS : Hid (∀ W, Below wa.heap.size wa W → Q W) := Lib.hid (fun W hB => HQ.out _ _ hq hB)
      clear hq
      refine region_mix (Below wa.heap.size wa) [(0, false), (1, false), (2, false), (3, false), (4, false), (5, false), (6, false), (7, false), (8, false), (9, false), (10, false), (11, false), (12, false), (13, false), (14, false), (15, false), (16, false), (17, false), (18, false), (19, false), (20, false), (21, false), (22, false), (23, false), (24, false), (25, false), (26, false), (27, false), (28, false), (29, false), (30, false), (31, false)] (by kernel_rfl) (by kernel_rfl) (Below wa.heap.size wa) ⟨Closed.below wa, fun _ h => h⟩ (Below.refl _ _).drew ?_
      simp only [pickOps, List.getElem?_cons_zero, List.getElem?_cons_succ]
      repeat (first | (refine mix_skip (by rfl) ?_; simp only [Act.put, List.setIfInBounds_toArray, List.set_cons_zero, List.set_cons_succ]) | (refine mix_read _ (by rfl) (fun W hW => by (have hW := HBS.out W hW; have m0 := HQl.out W hW; have x0 := m0.cell_at 0 rfl; have x1 := m0.cell_at 1 rfl; have x2 := m0.cell_at 2 rfl; have x3 := m0.cell_at 3 rfl; have x4 := m0.cell_at 4 rfl; have x5 := m0.cell_at 5 rfl; have x6 := m0.cell_at 6 rfl; have x7 := m0.cell_at 7 rfl; have x8 := m0.cell_at 8 rfl; have x9 := m0.cell_at 9 rfl; have x10 := m0.cell_at 10 rfl; have m1 := HQp.out W hW; have y0 := m1.cell_at 0 rfl; have y1 := m1.cell_at 1 rfl; have y2 := m1.cell_at 2 rfl; clear m0 m1; obtain ⟨s0, s1, s2⟩ := HEC.out W hW; go_simp; first | done | with_reducible rfl)) ?_; simp only [Act.put, List.setIfInBounds_toArray, List.set_cons_zero, List.set_cons_succ]) | (refine mix_read _ (by rfl) (fun W hW => by (have hW := HBS.out W hW; have m0 := HQl.out W hW; have x0 := m0.cell_at 0 rfl; have x1 := m0.cell_at 1 rfl; have x2 := m0.cell_at 2 rfl; have x3 := m0.cell_at 3 rfl; have x4 := m0.cell_at 4 rfl; have x5 := m0.cell_at 5 rfl; have x6 := m0.cell_at 6 rfl; have x7 := m0.cell_at 7 rfl; have x8 := m0.cell_at 8 rfl; have x9 := m0.cell_at 9 rfl; have x10 := m0.cell_at 10 rfl; have m1 := HQp.out W hW; have y0 := m1.cell_at 0 rfl; have y1 := m1.cell_at 1 rfl; have y2 := m1.cell_at 2 rfl; clear m0 m1; obtain ⟨s0, s1, s2⟩ := HEC.out W hW; rw [HAE.out]; go_simp; first | done | with_reducible rfl)) ?_; simp only [Act.put, List.setIfInBounds_toArray, List.set_cons_zero, List.set_cons_succ]) | (refine mix_call _ _ _ (by rfl) (fun W hW => by (have hW := HBS.out W hW; have m0 := HQl.out W hW; have x0 := m0.cell_at 0 rfl; have x1 := m0.cell_at 1 rfl; have x2 := m0.cell_at 2 rfl; have x3 := m0.cell_at 3 rfl; have x4 := m0.cell_at 4 rfl; have x5 := m0.cell_at 5 rfl; have x6 := m0.cell_at 6 rfl; have x7 := m0.cell_at 7 rfl; have x8 := m0.cell_at 8 rfl; have x9 := m0.cell_at 9 rfl; have x10 := m0.cell_at 10 rfl; have m1 := HQp.out W hW; have y0 := m1.cell_at 0 rfl; have y1 := m1.cell_at 1 rfl; have y2 := m1.cell_at 2 rfl; clear m0 m1; obtain ⟨s0, s1, s2⟩ := HEC.out W hW; go_simp; first | done | rfl)) (fun W hW => KG.out W (HBS.out W hW)) ?_; simp only [Act.put, List.setIfInBounds_toArray, List.set_cons_zero, List.set_cons_succ]) | (refine mix_call _ _ _ (by rfl) (fun W hW => by (have hW := HBS.out W hW; have m0 := HQl.out W hW; have x0 := m0.cell_at 0 rfl; have x1 := m0.cell_at 1 rfl; have x2 := m0.cell_at 2 rfl; have x3 := m0.cell_at 3 rfl; have x4 := m0.cell_at 4 rfl; have x5 := m0.cell_at 5 rfl; have x6 := m0.cell_at 6 rfl; have x7 := m0.cell_at 7 rfl; have x8 := m0.cell_at 8 rfl; have x9 := m0.cell_at 9 rfl; have x10 := m0.cell_at 10 rfl; have m1 := HQp.out W hW; have y0 := m1.cell_at 0 rfl; have y1 := m1.cell_at 1 rfl; have y2 := m1.cell_at 2 rfl; clear m0 m1; obtain ⟨s0, s1, s2⟩ := HEC.out W hW; go_simp; first | done | rfl)) (fun W hW => KS.out W (HBS.out W hW)) ?_; simp only [Act.put, List.setIfInBounds_toArray, List.set_cons_zero, List.set_cons_succ]) | (refine mix_call _ _ _ (by rfl) (fun W hW => by (have hW := HBS.out W hW; have m0 := HQl.out W hW; have x0 := m0.cell_at 0 rfl; have x1 := m0.cell_at 1 rfl; have x2 := m0.cell_at 2 rfl; have x3 := m0.cell_at 3 rfl; have x4 := m0.cell_at 4 rfl; have x5 := m0.cell_at 5 rfl; have x6 := m0.cell_at 6 rfl; have x7 := m0.cell_at 7 rfl; have x8 := m0.cell_at 8 rfl; have x9 := m0.cell_at 9 rfl; have x10 := m0.cell_at 10 rfl; have m1 := HQp.out W hW; have y0 := m1.cell_at 0 rfl; have y1 := m1.cell_at 1 rfl; have y2 := m1.cell_at 2 rfl; clear m0 m1; obtain ⟨s0, s1, s2⟩ := HEC.out W hW; go_simp; first | done | rfl)) (fun W hW => KT.out W (HBS.out W hW)) ?_; simp only [Act.put, List.setIfInBounds_toArray, List.set_cons_zero, List.set_cons_succ]))
      refine mix_nil (fun W hW => ?_)
      have hq := HBS.out W hW
      clear hW HBS
      obtain ⟨wb, rfl⟩ : ∃ X, X = W := ⟨W, rfl⟩
      cases d1
      · have HF : Hid (110 = r) := Lib.hid (by rw [← HRS.out]; simp)
        go_wp2_with fail
        have HBS : Hid (∀ W, Below wb.heap.size wb W → Q W) := Lib.hid (fun W hB => HQ.out _ _ hq hB)
        clear hq
        refine region_mix (Below wb.heap.size wb) [(0, false), (1, false), (2, false), (3, false), (4, false), (5, false), (6, false), (7, false), (8, false), (9, false), (10, false), (11, false), (12, false), (13, false), (14, false), (15, false), (16, false), (17, false), (18, false), (19, false), (20, false), (21, false), (22, false), (23, false), (24, false), (25, false), (26, false), (27, false), (28, false), (29, false), (30, false), (31, false), (32, false), (33, false), (34, false), (35, false), (36, false), (37, false), (38, false), (39, false), (40, false), (41, false), (42, false), (43, false)] (by kernel_rfl) (by kernel_rfl) (Below wb.heap.size wb) ⟨Closed.below wb, fun _ h => h⟩ (Below.refl _ _).drew ?_
        simp only [pickOps, List.getElem?_cons_zero, List.getElem?_cons_succ]
        repeat (first | (refine mix_skip (by rfl) ?_; simp only [Act.put, List.setIfInBounds_toArray, List.set_cons_zero, List.set_cons_succ]) | (refine mix_read _ (by rfl) (fun W hW => by (have hW := HBS.out W hW; have m0 := HQl.out W hW; have x0 := m0.cell_at 0 rfl; have x1 := m0.cell_at 1 rfl; have x2 := m0.cell_at 2 rfl; have x3 := m0.cell_at 3 rfl; have x4 := m0.cell_at 4 rfl; have x5 := m0.cell_at 5 rfl; have x6 := m0.cell_at 6 rfl; have x7 := m0.cell_at 7 rfl; have x8 := m0.cell_at 8 rfl; have x9 := m0.cell_at 9 rfl; have x10 := m0.cell_at 10 rfl; have m1 := HQp.out W hW; have y0 := m1.cell_at 0 rfl; have y1 := m1.cell_at 1 rfl; have y2 := m1.cell_at 2 rfl; clear m0 m1; obtain ⟨s0, s1, s2⟩ := HEC.out W hW; obtain ⟨a0, a1, a2⟩ := HX0.out W hW; obtain ⟨c0, c1, c2⟩ := HXM.out W hW; obtain ⟨t0, t1⟩ := HSC.out W hW; have hn1 := HN1.out; have hn2 := HN2.out; go_simp; first | done | with_reducible rfl)) ?_; simp only [Act.put, List.setIfInBounds_toArray, List.set_cons_zero, List.set_cons_succ]) | (refine mix_read _ (by rfl) (fun W hW => by (have hW := HBS.out W hW; have m0 := HQl.out W hW; have x0 := m0.cell_at 0 rfl; have x1 := m0.cell_at 1 rfl; have x2 := m0.cell_at 2 rfl; have x3 := m0.cell_at 3 rfl; have x4 := m0.cell_at 4 rfl; have x5 := m0.cell_at 5 rfl; have x6 := m0.cell_at 6 rfl; have x7 := m0.cell_at 7 rfl; have x8 := m0.cell_at 8 rfl; have x9 := m0.cell_at 9 rfl; have x10 := m0.cell_at 10 rfl; have m1 := HQp.out W hW; have y0 := m1.cell_at 0 rfl; have y1 := m1.cell_at 1 rfl; have y2 := m1.cell_at 2 rfl; clear m0 m1; obtain ⟨s0, s1, s2⟩ := HEC.out W hW; obtain ⟨a0, a1, a2⟩ := HX0.out W hW; obtain ⟨c0, c1, c2⟩ := HXM.out W hW; obtain ⟨t0, t1⟩ := HSC.out W hW; have hn1 := HN1.out; have hn2 := HN2.out; rw [HAG.out]; go_simp; first | done | with_reducible rfl)) ?_; simp only [Act.put, List.setIfInBounds_toArray, List.set_cons_zero, List.set_cons_succ]) | (refine mix_read _ (by rfl) (fun W hW => by (have hW := HBS.out W hW; have m0 := HQl.out W hW; have x0 := m0.cell_at 0 rfl; have x1 := m0.cell_at 1 rfl; have x2 := m0.cell_at 2 rfl; have x3 := m0.cell_at 3 rfl; have x4 := m0.cell_at 4 rfl; have x5 := m0.cell_at 5 rfl; have x6 := m0.cell_at 6 rfl; have x7 := m0.cell_at 7 rfl; have x8 := m0.cell_at 8 rfl; have x9 := m0.cell_at 9 rfl; have x10 := m0.cell_at 10 rfl; have m1 := HQp.out W hW; have y0 := m1.cell_at 0 rfl; have y1 := m1.cell_at 1 rfl; have y2 := m1.cell_at 2 rfl; clear m0 m1; obtain ⟨s0, s1, s2⟩ := HEC.out W hW; obtain ⟨a0, a1, a2⟩ := HX0.out W hW; obtain ⟨c0, c1, c2⟩ := HXM.out W hW; obtain ⟨t0, t1⟩ := HSC.out W hW; have hn1 := HN1.out; have hn2 := HN2.out; rw [HAE.out]; go_simp; first | done | with_reducible rfl)) ?_; simp only [Act.put, List.setIfInBounds_toArray, List.set_cons_zero, List.set_cons_succ]))
        refine mix_nil (fun W hW => ?_)
        have hq := HBS.out W hW
        clear hW HBS
        go_wp2_with fail
        go_ret
        exact ⟨ret_int HF.out, HQb.out _ hq⟩
      cases d2
      · have HF : Hid (110 = r) := Lib.hid (by rw [← HRS.out]; simp)
        go_wp2_with fail
        have HBS : Hid (∀ W, Below wb.heap.size wb W → Q W) := Lib.hid (fun W hB => HQ.out _ _ hq hB)
        clear hq
        refine region_mix (Below wb.heap.size wb) [(0, false), (1, false), (2, false), (3, false), (4, false), (5, false), (6, false), (7, false), (8, false), (9, false), (10, false), (11, false), (12, false), (13, false), (14, false), (15, false), (16, false), (17, false), (18, false), (19, false), (20, false), (21, false), (22, false), (23, false), (24, false), (25, false), (26, false), (27, false), (28, false), (29, false), (30, false), (31, false), (32, false), (33, false), (34, false), (35, false), (36, false), (37, false), (38, false), (39, false), (40, false), (41, false), (42, false), (43, false)] (by kernel_rfl) (by kernel_rfl) (Below wb.heap.size wb) ⟨Closed.below wb, fun _ h => h⟩ (Below.refl _ _).drew ?_
        simp only [pickOps, List.getElem?_cons_zero, List.getElem?_cons_succ]
        repeat (first | (refine mix_skip (by rfl) ?_; simp only [Act.put, List.setIfInBounds_toArray, List.set_cons_zero, List.set_cons_succ]) | (refine mix_read _ (by rfl) (fun W hW => by (have hW := HBS.out W hW; have m0 := HQl.out W hW; have x0 := m0.cell_at 0 rfl; have x1 := m0.cell_at 1 rfl; have x2 := m0.cell_at 2 rfl; have x3 := m0.cell_at 3 rfl; have x4 := m0.cell_at 4 rfl; have x5 := m0.cell_at 5 rfl; have x6 := m0.cell_at 6 rfl; have x7 := m0.cell_at 7 rfl; have x8 := m0.cell_at 8 rfl; have x9 := m0.cell_at 9 rfl; have x10 := m0.cell_at 10 rfl; have m1 := HQp.out W hW; have y0 := m1.cell_at 0 rfl; have y1 := m1.cell_at 1 rfl; have y2 := m1.cell_at 2 rfl; clear m0 m1; obtain ⟨s0, s1, s2⟩ := HEC.out W hW; obtain ⟨a0, a1, a2⟩ := HX0.out W hW; obtain ⟨c0, c1, c2⟩ := HXM.out W hW; obtain ⟨t0, t1⟩ := HSC.out W hW; have hn1 := HN1.out; have hn2 := HN2.out; go_simp; first | done | with_reducible rfl)) ?_; simp only [Act.put, List.setIfInBounds_toArray, List.set_cons_zero, List.set_cons_succ]) | (refine mix_read _ (by rfl) (fun W hW => by (have hW := HBS.out W hW; have m0 := HQl.out W hW; have x0 := m0.cell_at 0 rfl; have x1 := m0.cell_at 1 rfl; have x2 := m0.cell_at 2 rfl; have x3 := m0.cell_at 3 rfl; have x4 := m0.cell_at 4 rfl; have x5 := m0.cell_at 5 rfl; have x6 := m0.cell_at 6 rfl; have x7 := m0.cell_at 7 rfl; have x8 := m0.cell_at 8 rfl; have x9 := m0.cell_at 9 rfl; have x10 := m0.cell_at 10 rfl; have m1 := HQp.out W hW; have y0 := m1.cell_at 0 rfl; have y1 := m1.cell_at 1 rfl; have y2 := m1.cell_at 2 rfl; clear m0 m1; obtain ⟨s0, s1, s2⟩ := HEC.out W hW; obtain ⟨a0, a1, a2⟩ := HX0.out W hW; obtain ⟨c0, c1, c2⟩ := HXM.out W hW; obtain ⟨t0, t1⟩ := HSC.out W hW; have hn1 := HN1.out; have hn2 := HN2.out; rw [HAG.out]; go_simp; first | done | with_reducible rfl)) ?_; simp only [Act.put, List.setIfInBounds_toArray, List.set_cons_zero, List.set_cons_succ]) | (refine mix_read _ (by rfl) (fun W hW => by (have hW := HBS.out W hW; have m0 := HQl.out W hW; have x0 := m0.cell_at 0 rfl; have x1 := m0.cell_at 1 rfl; have x2 := m0.cell_at 2 rfl; have x3 := m0.cell_at 3 rfl; have x4 := m0.cell_at 4 rfl; have x5 := m0.cell_at 5 rfl; have x6 := m0.cell_at 6 rfl; have x7 := m0.cell_at 7 rfl; have x8 := m0.cell_at 8 rfl; have x9 := m0.cell_at 9 rfl; have x10 := m0.cell_at 10 rfl; have m1 := HQp.out W hW; have y0 := m1.cell_at 0 rfl; have y1 := m1.cell_at 1 rfl; have y2 := m1.cell_at 2 rfl; clear m0 m1; obtain ⟨s0, s1, s2⟩ := HEC.out W hW; obtain ⟨a0, a1, a2⟩ := HX0.out W hW; obtain ⟨c0, c1, c2⟩ := HXM.out W hW; obtain ⟨t0, t1⟩ := HSC.out W hW; have hn1 := HN1.out; have hn2 := HN2.out; rw [HAE.out]; go_simp; first | done | with_reducible rfl)) ?_; simp only [Act.put, List.setIfInBounds_toArray, List.set_cons_zero, List.set_cons_succ]))
        refine mix_nil (fun W hW => ?_)
        have hq := HBS.out W hW
        clear hW HBS
        go_wp2_with fail
        go_ret
        exact ⟨ret_int HF.out, HQb.out _ hq⟩
      go_wp2_with fail
      have HBS : Hid (∀ W, Below wb.heap.size wb W → Q W) := Lib.hid (fun W hB => HQ.out _ _ hq hB)
      clear hq
      refine region_mix (Below wb.heap.size wb) [(0, false), (1, false), (2, false), (3, false), (4, false), (5, false), (6, false), (7, false), (8, false), (9, false), (10, false), (11, false), (12, false), (13, false), (14, false), (15, false), (16, false), (17, false), (18, false), (19, false), (20, false), (21, false), (22, false), (23, false), (24, false), (25, false), (26, false), (27, false), (28, false), (29, false), (30, false), (31, false), (32, false), (33, false), (34, false), (35, false), (36, false), (37, false), (38, false), (39, false), (40, false), (41, false), (42, false), (43, false)] (by kernel_rfl) (by kernel_rfl) (Below wb.heap.size wb) ⟨Closed.below wb, fun _ h => h⟩ (Below.refl _ _).drew ?_
      simp only [pickOps, List.getElem?_cons_zero, List.getElem?_cons_succ]
      repeat (first | (refine mix_skip (by rfl) ?_; simp only [Act.put, List.setIfInBounds_toArray, List.set_cons_zero, List.set_cons_succ]) | (refine mix_read _ (by rfl) (fun W hW => by (have hW := HBS.out W hW; have m0 := HQl.out W hW; have x0 := m0.cell_at 0 rfl; have x1 := m0.cell_at 1 rfl; have x2 := m0.cell_at 2 rfl; have x3 := m0.cell_at 3 rfl; have x4 := m0.cell_at 4 rfl; have x5 := m0.cell_at 5 rfl; have x6 := m0.cell_at 6 rfl; have x7 := m0.cell_at 7 rfl; have x8 := m0.cell_at 8 rfl; have x9 := m0.cell_at 9 rfl; have x10 := m0.cell_at 10 rfl; have m1 := HQp.out W hW; have y0 := m1.cell_at 0 rfl; have y1 := m1.cell_at 1 rfl; have y2 := m1.cell_at 2 rfl; clear m0 m1; obtain ⟨s0, s1, s2⟩ := HEC.out W hW; obtain ⟨a0, a1, a2⟩ := HX0.out W hW; obtain ⟨c0, c1, c2⟩ := HXM.out W hW; obtain ⟨t0, t1⟩ := HSC.out W hW; have hn1 := HN1.out; have hn2 := HN2.out; go_simp; first | done | with_reducible rfl)) ?_; simp only [Act.put, List.setIfInBounds_toArray, List.set_cons_zero, List.set_cons_succ]) | (refine mix_read _ (by rfl) (fun W hW => by (have hW := HBS.out W hW; have m0 := HQl.out W hW; have x0 := m0.cell_at 0 rfl; have x1 := m0.cell_at 1 rfl; have x2 := m0.cell_at 2 rfl; have x3 := m0.cell_at 3 rfl; have x4 := m0.cell_at 4 rfl; have x5 := m0.cell_at 5 rfl; have x6 := m0.cell_at 6 rfl; have x7 := m0.cell_at 7 rfl; have x8 := m0.cell_at 8 rfl; have x9 := m0.cell_at 9 rfl; have x10 := m0.cell_at 10 rfl; have m1 := HQp.out W hW; have y0 := m1.cell_at 0 rfl; have y1 := m1.cell_at 1 rfl; have y2 := m1.cell_at 2 rfl; clear m0 m1; obtain ⟨s0, s1, s2⟩ := HEC.out W hW; obtain ⟨a0, a1, a2⟩ := HX0.out W hW; obtain ⟨c0, c1, c2⟩ := HXM.out W hW; obtain ⟨t0, t1⟩ := HSC.out W hW; have hn1 := HN1.out; have hn2 := HN2.out; rw [HAG.out]; go_simp; first | done | with_reducible rfl)) ?_; simp only [Act.put, List.setIfInBounds_toArray, List.set_cons_zero, List.set_cons_succ]) | (refine mix_read _ (by rfl) (fun W hW => by (have hW := HBS.out W hW; have m0 := HQl.out W hW; have x0 := m0.cell_at 0 rfl; have x1 := m0.cell_at 1 rfl; have x2 := m0.cell_at 2 rfl; have x3 := m0.cell_at 3 rfl; have x4 := m0.cell_at 4 rfl; have x5 := m0.cell_at 5 rfl; have x6 := m0.cell_at 6 rfl; have x7 := m0.cell_at 7 rfl; have x8 := m0.cell_at 8 rfl; have x9 := m0.cell_at 9 rfl; have x10 := m0.cell_at 10 rfl; have m1 := HQp.out W hW; have y0 := m1.cell_at 0 rfl; have y1 := m1.cell_at 1 rfl; have y2 := m1.cell_at 2 rfl; clear m0 m1; obtain ⟨s0, s1, s2⟩ := HEC.out W hW; obtain ⟨a0, a1, a2⟩ := HX0.out W hW; obtain ⟨c0, c1, c2⟩ := HXM.out W hW; obtain ⟨t0, t1⟩ := HSC.out W hW; have hn1 := HN1.out; have hn2 := HN2.out; rw [HAE.out]; go_simp; first | done | with_reducible rfl)) ?_; simp only [Act.put, List.setIfInBounds_toArray, List.set_cons_zero, List.set_cons_succ]))
      refine mix_nil (fun W hW => ?_)
      have hq := HBS.out W hW
      clear hW HBS
      obtain ⟨wc, rfl⟩ : ∃ X, X = W := ⟨W, rfl⟩
      have HRP : Hid ((if (!d4) = true then (0 : Int) else 110) = r) := Lib.hid (by rw [← HRS.out]; simp)
      clear HRS KG KS KT
      go_wp2_with fail
      go_loopw [9] (fun i wr => ∃ j : Nat, j ≤ m ∧ i = .int .i64 ((j : Int) + 1) ∧ Q wr ∧ Hid (NoneUp (sigAt l) (ss.drop 1) j)) (fun i _ => ss.length + 1 - (intOf i).toNat)
      case atStart => exact ⟨0, by omega, by simp, hq, Lib.hid (NoneUp.zero _ _)⟩
      case round =>
        clear hq
        obtain ⟨j, hj, rfl, hq, HNo⟩ := hrel
        obtain ⟨wd, rfl⟩ : ∃ W, W = wr := ⟨wr, rfl⟩
        have hm := HM.out
        by_cases hlt : j < m
        · have hlt' : (j : Int) + 1 < ss.length := by omega
          obtain ⟨⟨b1, b2, b3⟩, hb⟩ : ∃ x, ss[j + 1]? = some x := ⟨_, List.getElem?_eq_getElem (by omega)⟩
          have HXK : Hid (∀ W, Q W → W.cell? ⟨b, off + (j + 1) * 3, none⟩ = some (.int .i64 b1) ∧ W.cell? ⟨b, off + (j + 1) * 3 + 1, none⟩ = some (.int .i64 b2) ∧ W.cell? ⟨b, off + (j + 1) * 3 + 2, none⟩ = some (.int .i64 b3)) := Lib.hid fun W hW => ⟨HC.out W hW (j + 1) _ _ hb rfl, HC'.out W hW (j + 1) _ 1 _ hb rfl, HC'.out W hW (j + 1) _ 2 _ hb rfl⟩
          have hdr : (ss.drop 1)[j]? = some (b1, b2, b3) := by rw [List.getElem?_drop, Nat.add_comm]; exact hb
          obtain ⟨sg, hsg⟩ : ∃ s, signalV l b1 b2 = s := ⟨_, rfl⟩
          obtain ⟨d, hd⟩ : ∃ d, decide (0 ≤ sg) = d := ⟨_, rfl⟩
          have hsa : sigAt l (b1, b2, b3) = d := by rw [← hd, ← hsg]; rfl
          have KB : Hid (∀ W, Q W → Calls Tryz.prog 23 #[l.val, prtV b1 b2] W fun e w' => e = .returned (.int .i64 sg) ∧ Below W.heap.size W w') := Lib.hid fun W hW => signalR_P (P := fun W' => Below W.heap.size W W') (Closed.below W) (fun W' h => Lies.closed l _ _ (HTW.out W hW) h) b1 b2 hsg (Below.refl _ _)
          have HDF : Hid (d = false → NoneUp (sigAt l) (ss.drop 1) (j + 1)) := Lib.hid fun e => HNo.out.succ hdr (by rw [hsa, e])
          have HDT : Hid (d = true → 110 = r) := Lib.hid fun e => by
            rw [← HRP.out, ← HD4.out]
            unfold passV
            rw [any_hit hdr (by rw [hsa, e])]
            rfl
          have HDD := Lib.hid hd
          have hp1 : (0 : Int) ≤ (j : Int) + 1 := by omega
          have ht1 : ((j : Int) + 1).toNat = j + 1 := by omega
          clear hb hdr hsg hd hsa hm
          go_wp2_with fail
          have HBS : Hid (∀ W, Below wd.heap.size wd W → Q W) := Lib.hid (fun W hB => HQ.out _ _ hq hB)
          clear hq
          refine region_mix (Below wd.heap.size wd) [(0, false), (1, false), (2, false), (3, false), (4, false), (5, false), (6, false), (7, false), (8, false), (9, false), (10, false), (11, false), (12, false), (13, false), (14, false), (15, false)] (by kernel_rfl) (by kernel_rfl) (Below wd.heap.size wd) ⟨Closed.below wd, fun _ h => h⟩ (Below.refl _ _).drew ?_
          simp only [pickOps, List.getElem?_cons_zero, List.getElem?_cons_succ]
          repeat (first | (refine mix_skip (by rfl) ?_; simp only [Act.put, List.setIfInBounds_toArray, List.set_cons_zero, List.set_cons_succ]) | (refine mix_read _ (by rfl) (fun W hW => by (have hW := HBS.out W hW; have m0 := HQl.out W hW; have x0 := m0.cell_at 0 rfl; have x1 := m0.cell_at 1 rfl; have x2 := m0.cell_at 2 rfl; have x3 := m0.cell_at 3 rfl; have x4 := m0.cell_at 4 rfl; have x5 := m0.cell_at 5 rfl; have x6 := m0.cell_at 6 rfl; have x7 := m0.cell_at 7 rfl; have x8 := m0.cell_at 8 rfl; have x9 := m0.cell_at 9 rfl; have x10 := m0.cell_at 10 rfl; have m1 := HQp.out W hW; have y0 := m1.cell_at 0 rfl; have y1 := m1.cell_at 1 rfl; have y2 := m1.cell_at 2 rfl; clear m0 m1; obtain ⟨c0, c1, c2⟩ := HXK.out W hW; have hdd := HDD.out; go_simp; first | done | with_reducible rfl)) ?_; simp only [Act.put, List.setIfInBounds_toArray, List.set_cons_zero, List.set_cons_succ]) | (refine mix_call _ _ _ (by rfl) (fun W hW => by (have hW := HBS.out W hW; have m0 := HQl.out W hW; have x0 := m0.cell_at 0 rfl; have x1 := m0.cell_at 1 rfl; have x2 := m0.cell_at 2 rfl; have x3 := m0.cell_at 3 rfl; have x4 := m0.cell_at 4 rfl; have x5 := m0.cell_at 5 rfl; have x6 := m0.cell_at 6 rfl; have x7 := m0.cell_at 7 rfl; have x8 := m0.cell_at 8 rfl; have x9 := m0.cell_at 9 rfl; have x10 := m0.cell_at 10 rfl; have m1 := HQp.out W hW; have y0 := m1.cell_at 0 rfl; have y1 := m1.cell_at 1 rfl; have y2 := m1.cell_at 2 rfl; clear m0 m1; obtain ⟨c0, c1, c2⟩ := HXK.out W hW; have hdd := HDD.out; go_simp; first | done | rfl)) (fun W hW => KB.out W (HBS.out W hW)) ?_; simp only [Act.put, List.setIfInBounds_toArray, List.set_cons_zero, List.set_cons_succ]))
          refine mix_nil (fun W hW => ?_)
          have hq := HBS.out W hW
          clear hW HBS
          cases d
          · have HN := Lib.hid (HDF.out rfl)
            go_wp2_with fail
            go_roundw
            case rel => exact ⟨j + 1, by omega, by go_num, hq, HN⟩
            case measure => simp [intOf]; omega
          · have HF := Lib.hid (HDT.out rfl)
            go_wp2_with fail
            go_ret
            exact ⟨ret_int HF.out, HQb.out _ hq⟩
        · obtain rfl : j = m := by omega
          have hlt' : ¬ (j : Int) + 1 < ss.length := by omega
          have HF : Hid (0 = r) := Lib.hid (by
            rw [← HRP.out, ← HD4.out]
            unfold passV
            have h := HNo.out
            rw [show j = (ss.drop 1).length by rw [List.length_drop, hm]; rfl] at h
            rw [h.any]
            rfl)
          clear hm
          go_wp2_with fail
          go_ret
          exact ⟨ret_int HF.out, HQb.out _ hq⟩

set_option maxRecDepth 100000 in
set_option maxHeartbeats 8000000 in
theorem isR11_any {l : Lay} {p : Pth} {vs : List Int} {A : Option Addr} {c : Nat} {w : World} (hL : Lies l w) (hp : PLies p w) (hR : Row w w.heap.size A (nums .i64 vs)) (hn : (vs.length : Int) ≤ 9223372036854775807) {r : Bool} (hr : (check11 l p vs == 0) = r) : Calls Tryz.prog 13 #[l.val, p.val, .slice A vs.length c] w fun e w' => e = .returned (.bool r) ∧ Below w.heap.size w w' := by
  obtain ⟨Q, HQ, HQb, HQl, HQp, hq⟩ := keep_lp l p w
  obtain ⟨k, hk⟩ : ∃ k, check11 l p vs = k := ⟨_, rfl⟩
  have KC := Lib.hid (fun W hW => keepR HQ.out (checkR11_any (w := W) (c := c) (Lies.closed l _ _ hL (HQb.out W hW)) (PLies.closed p _ _ hp (HQb.out W hW)) (hR.on (HQb.out W hW)) hn hk) hW)
  have HF : Hid ((k == 0) = r) := Lib.hid (by rw [← hr, ← hk])
  clear hr hk hL hp hR
  go_enter Tryz.func13, Tryz.ntmps13
  have m0 := HQl.out _ hq
  have x0 := m0.cell_at 0 rfl
  have x1 := m0.cell_at 1 rfl
  have x2 := m0.cell_at 2 rfl
  have x3 := m0.cell_at 3 rfl
  have x4 := m0.cell_at 4 rfl
  have x5 := m0.cell_at 5 rfl
  have x6 := m0.cell_at 6 rfl
  have x7 := m0.cell_at 7 rfl
  have x8 := m0.cell_at 8 rfl
  have x9 := m0.cell_at 9 rfl
  have x10 := m0.cell_at 10 rfl
  clear m0
  have m0 := HQp.out _ hq
  have y0 := m0.cell_at 0 rfl
  have y1 := m0.cell_at 1 rfl
  have y2 := m0.cell_at 2 rfl
  clear m0
  go_wp2_with fail
  refine (KC.out _ hq).mono ?_
  clear hq x0 x1 x2 x3 x4 x5 x6 x7 x8 x9 x10 y0 y1 y2
  rintro e w1 ⟨rfl, hq⟩
  go_wp2_with fail
  go_ret
  exact ⟨ret_bool HF.out, HQb.out _ hq⟩

end Go.Proofs.YtlfpkileblmhoaaGreatDoor
