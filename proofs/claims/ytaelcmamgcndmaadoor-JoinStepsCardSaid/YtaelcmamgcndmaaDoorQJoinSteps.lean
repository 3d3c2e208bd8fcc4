/- The walk of JoinSteps: steps on. -/
import Derived.Test.YtaelcmamgcndmaaDoorQJoinBack
namespace Go.Proofs.YtaelcmamgcndmaaDoor
open Go.RowKit Go.Shelf
set_option linter.unusedVariables false
set_option linter.unusedSimpArgs false

theorem outsTo_pick (n a b c d i : Int) : ∀ j, outsTo n a b c d i j = pick (fun m => goesV n a b c d i m) j
  | 0 => rfl
  | j + 1 => by
    show outsTo n a b c d i j ++ _ = pick _ j ++ _
    rw [outsTo_pick n a b c d i j]
theorem outsK_pick (k i : Int) : outsK k i = pick (fun m => goesK k i m) (pK k).toNat := outsTo_pick _ _ _ _ _ _ _
theorem goesK_self (k i : Int) : goesK k i i = false := by
  cases h : goesK k i i
  · rfl
  · exfalso
    unfold goesK goesV joinV nK bK cK dK at h
    by_cases h1 : k = 1
    · subst h1; simp at h; omega
    · by_cases h2 : k = 2
      · subst h2; simp at h; omega
      · by_cases h3 : k = 3
        · subst h3; simp at h; omega
        · simp [h1, h2, h3] at h
theorem outs_at {k i : Int} {j : Nat} {o : Int} (h : (outsK k i)[j]? = some o) : goesK k i o = true ∧ o ≠ i := by
  rw [outsK_pick] at h
  obtain ⟨m, _, rfl, hg⟩ := mem_pick.1 (List.mem_of_getElem? h)
  refine ⟨hg, fun e => ?_⟩
  have := goesK_self k i
  rw [← e] at this
  rw [← e] at hg
  rw [this] at hg
  cases hg
theorem outs_up {k i : Int} {j : Nat} {a b : Int} (h1 : (outsK k i)[j]? = some a) (h2 : (outsK k i)[j + 1]? = some b) : a < b := by
  rw [outsK_pick] at h1 h2
  have hr := pick_rising (fun m : Nat => goesK k i m) (pK k).toNat
  obtain ⟨l1, e1⟩ := List.getElem?_eq_some_iff.1 h1
  obtain ⟨l2, e2⟩ := List.getElem?_eq_some_iff.1 h2
  have := List.pairwise_iff_getElem.1 hr j (j + 1) l1 l2 (by omega)
  rw [e1, e2] at this
  exact this

set_option maxRecDepth 100000 in
set_option maxHeartbeats 8000000 in
theorem joinSteps_walk (l : Lay) (s p : Int) (w : World) (hT : Shapes w) (hL : Lies l w) :
    Calls Tryd.prog 5 #[l.val, prtV s p] w fun e w' => e = .returned (.bool true) ∧ Below w.heap.size w w' := by
  obtain ⟨P, HP, HPT, HPL, HPB, hp⟩ := keep_lay hT hL
  obtain ⟨Q, HQ, HQp, HQl, HQv, hq⟩ := keep_box2 HP.out hp 29 31 l.cells (prtCells (s, p))
  have HQT : Hid (∀ W, Q W → Shapes W) := Lib.hid fun W h => HPT.out _ (HQp.out _ h)
  have HQL : Hid (∀ W, Q W → Lies l W) := Lib.hid fun W h => HPL.out _ (HQp.out _ h)
  have HQB : Hid (∀ W, Q W → Below w.heap.size w W) := Lib.hid fun W h => HPB.out _ (HQp.out _ h)
  obtain ⟨g, hg⟩ : ∃ g, greatJ l = g := ⟨_, rfl⟩
  have KG := Lib.hid (fun W hW => greatJ_P (P := Q) (w := W) HQ.out HQL.out hg hW)
  have KW := Lib.hid (fun W hW => wakesJ_P (P := Q) (w := W) HQ.out HQT.out hW)
  obtain ⟨q, hqv⟩ : ∃ q, beyondV l s p = q := ⟨_, rfl⟩
  have KB := Lib.hid (fun W hW => beyond_P (P := Q) (w := W) HQ.out HQT.out HQL.out s p hqv hW)
  obtain ⟨qs, qq⟩ := q
  obtain ⟨x, hx⟩ : ∃ x, atV l qs qq = x := ⟨_, rfl⟩
  obtain ⟨tr, htr⟩ : ∃ tr, thereV l qs qq = tr := ⟨_, rfl⟩
  obtain ⟨os, hos⟩ : ∃ os, outsK x.k qq = os := ⟨_, rfl⟩
  have hss : stepsV l s p = os.map (onward (qs, qq)) := by unfold stepsV; rw [hqv]; simp only; rw [hx, hos]
  have hol : os.length ≤ 4 := by rw [← hos]; exact outsK_le _ _
  clear hT hL hp
  go_enter Tryd.func5, Tryd.ntmps5
  have m0 := HQl.out _ hq
  have x0 := m0.cell_at 0 rfl
  have x1 := m0.cell_at 1 rfl
  have x2 := m0.cell_at 2 rfl
  have x3 := m0.cell_at 3 rfl
  have x4 := m0.cell_at 4 rfl
  have x5 := m0.cell_at 5 rfl
  have x6 := m0.cell_at 6 rfl
  have x7 := m0.cell_at 7 rfl
  have x8 := m0.cell_at 8 rfl
  have x9 := m0.cell_at 9 rfl
  have x10 := m0.cell_at 10 rfl
  clear m0
  have m1 := HQv.out _ hq
  have v0 := m1.cell_at 0 rfl
  have v1 := m1.cell_at 1 rfl
  clear m1
  go_wp2_with fail
  refine (KG.out _ hq).mono ?_
  clear x0 x1 x2 x3 x4 x5 x6 x7 x8 x9 x10 v0 v1 hq KG
  rintro e w1 ⟨rfl, hq⟩
  cases g
  rotate_left
  · go_wp2_with fail
    refine (KW.out _ hq).mono ?_
    clear hq
    rintro e w9 ⟨rfl, hq⟩
    go_wp2_with fail
    go_ret
    exact ⟨rfl, HQB.out _ hq⟩
  clear hg
  have m0 := HQl.out _ hq
  have x0 := m0.cell_at 0 rfl
  have x1 := m0.cell_at 1 rfl
  have x2 := m0.cell_at 2 rfl
  have x3 := m0.cell_at 3 rfl
  have x4 := m0.cell_at 4 rfl
  have x5 := m0.cell_at 5 rfl
  have x6 := m0.cell_at 6 rfl
  have x7 := m0.cell_at 7 rfl
  have x8 := m0.cell_at 8 rfl
  have x9 := m0.cell_at 9 rfl
  have x10 := m0.cell_at 10 rfl
  clear m0
  have m1 := HQv.out _ hq
  have v0 := m1.cell_at 0 rfl
  have v1 := m1.cell_at 1 rfl
  clear m1
  go_wp2_with fail
  refine (KB.out _ hq).mono ?_
  clear x0 x1 x2 x3 x4 x5 x6 x7 x8 x9 x10 v0 v1 hq KB
  rintro e w3 ⟨rfl, hq⟩
  simp only
  obtain ⟨Q2, HQ2, HQ2p, HQr, hq⟩ := keep_boxV HQ.out hq 31 (prtCells (qs, qq))
  have KS := Lib.hid (fun W hW => steps_P (P := Q2) (w := W) HQ2.out (fun W hW => HQT.out W (HQ2p.out W hW)) (fun W hW => HQL.out W (HQ2p.out W hW)) s p (m := os.length) hss (by rw [List.length_map]) hW)
  have m0 := HQl.out _ (HQ2p.out _ hq)
  have x0 := m0.cell_at 0 rfl
  have x1 := m0.cell_at 1 rfl
  have x2 := m0.cell_at 2 rfl
  have x3 := m0.cell_at 3 rfl
  have x4 := m0.cell_at 4 rfl
  have x5 := m0.cell_at 5 rfl
  have x6 := m0.cell_at 6 rfl
  have x7 := m0.cell_at 7 rfl
  have x8 := m0.cell_at 8 rfl
  have x9 := m0.cell_at 9 rfl
  have x10 := m0.cell_at 10 rfl
  clear m0
  have m1 := HQv.out _ (HQ2p.out _ hq)
  have v0 := m1.cell_at 0 rfl
  have v1 := m1.cell_at 1 rfl
  clear m1
  go_wp2_with fail
  refine (KS.out _ hq).mono ?_
  clear x0 x1 x2 x3 x4 x5 x6 x7 x8 x9 x10 v0 v1 hq KS hqv hss
  rintro e w5 ⟨A, cap, rfl, hcap, hrow, hq⟩
  obtain ⟨Q3, HQ3, HQ3p, HRS, hq⟩ := keep_row HQ2.out hq hrow
  clear hrow hcap
  have HQT3 := Lib.hid (fun W hW => HQT.out W (HQ2p.out W (HQ3p.out W hW)))
  have HQL3 := Lib.hid (fun W hW => HQL.out W (HQ2p.out W (HQ3p.out W hW)))
  have HQl2 := Lib.hid (fun W hW => HQl.out W (HQ2p.out W (HQ3p.out W hW)))
  have HQr2 := Lib.hid (fun W hW => HQr.out W (HQ3p.out W hW))
  have KH := Lib.hid (fun W hW => has_P (P := Q3) (w := W) HQ3.out HQT3.out HQL3.out qs qq htr hW)
  have m0 := HQl2.out _ hq
  have x0 := m0.cell_at 0 rfl
  have x1 := m0.cell_at 1 rfl
  have x2 := m0.cell_at 2 rfl
  have x3 := m0.cell_at 3 rfl
  have x4 := m0.cell_at 4 rfl
  have x5 := m0.cell_at 5 rfl
  have x6 := m0.cell_at 6 rfl
  have x7 := m0.cell_at 7 rfl
  have x8 := m0.cell_at 8 rfl
  have x9 := m0.cell_at 9 rfl
  have x10 := m0.cell_at 10 rfl
  clear m0
  have m1 := HQr2.out _ hq
  have r0 := m1.cell_at 0 rfl
  have r1 := m1.cell_at 1 rfl
  clear m1
  go_wp2_with fail
  refine (KH.out _ hq).mono ?_
  clear x0 x1 x2 x3 x4 x5 x6 x7 x8 x9 x10 r0 r1 hq KH
  rintro e w6 ⟨rfl, hq⟩
  cases tr
  · have h0 : os = [] := by
      rw [atV_no htr] at hx
      subst hx
      exact hos.symm
    subst h0
    go_wp2_with fail
    refine (KW.out _ (HQ2p.out _ (HQ3p.out _ hq))).mono ?_
    clear hq
    rintro e w9 ⟨rfl, hq⟩
    go_wp2_with fail
    go_ret
    exact ⟨rfl, HQB.out _ hq⟩
  · obtain ⟨n, rfl, hxn⟩ := atV_yes htr
    rw [hx] at hxn
    have hlt : n < l.secs.length := (List.getElem?_eq_some_iff.1 hxn).1
    have HD0 : Hid (decide ((n : Int) < 0) = false) := Lib.hid (decide_eq_false (by omega))
    have HD1 : Hid (decide ((l.secs.length : Int) ≤ (n : Int)) = false ∧ decide (l.secs.length ≤ n) = false ∧ (n : Int) < l.secs.length ∧ ((os.length : Int) != os.length) = false) := Lib.hid ⟨decide_eq_false (by omega), decide_eq_false (by omega), by omega, by simp⟩
    obtain ⟨o1, o2, HA, HC0', HC⟩ := row_at (n := 11) Sec.len (by omega) (fun W hW => (HQL3.out W hW).secs) hq hxn
    have HC0 : Hid (∀ W, Q3 W → W.cell? ⟨o1, o2 + n * 11, none⟩ = some (.int .u8 x.k)) := Lib.hid fun W hW => HC0'.out W hW n _ _ hxn rfl
    have KO := Lib.hid (fun (W : World) (hW : Q3 W) => outsR_P (P := fun W' => Below W.heap.size W W') (w := W) (Closed.below W) qq (shapeK x.k) hos (Below.refl _ _))
    have HOS := Lib.hid hos
    clear HC HC0' hxn hx htr hos hlt
    go_wp2_with fail
    have HBS : Hid (∀ W, Below w6.heap.size w6 W → Q3 W) := Lib.hid (fun W hB => HQ3.out _ _ hq hB)
    clear hq
    refine region_mix (Below w6.heap.size w6) [(0, false), (1, false), (2, false), (3, false), (4, false), (5, false), (6, false), (7, false), (8, false), (9, false), (10, false), (11, false), (12, false), (13, false), (14, false), (15, false), (16, false), (17, false), (18, false), (19, false), (20, false), (21, false), (22, false), (23, true), (24, false), (25, false), (26, false)] (by kernel_rfl) (by kernel_rfl) (Below w6.heap.size w6) ⟨Closed.below w6, fun _ h => h⟩ (Below.refl _ _).drew ?_
    simp only [pickOps, List.getElem?_cons_zero, List.getElem?_cons_succ]
    repeat (first | (refine mix_skip (by rfl) ?_; simp only [Act.put, List.setIfInBounds_toArray, List.set_cons_zero, List.set_cons_succ]) | (refine mix_read _ (by rfl) (fun W hW => by (have hW := HBS.out W hW; have m0 := HQl2.out _ hW; have x0 := m0.cell_at 0 rfl; have x1 := m0.cell_at 1 rfl; have x2 := m0.cell_at 2 rfl; have x3 := m0.cell_at 3 rfl; have x4 := m0.cell_at 4 rfl; have x5 := m0.cell_at 5 rfl; have x6 := m0.cell_at 6 rfl; have x7 := m0.cell_at 7 rfl; have x8 := m0.cell_at 8 rfl; have x9 := m0.cell_at 9 rfl; have x10 := m0.cell_at 10 rfl; clear m0; have m1 := HQr2.out _ hW; have r0 := m1.cell_at 0 rfl; have r1 := m1.cell_at 1 rfl; clear m1; rw [HA.out] at x0; have c0 := HC0.out _ hW; have d0 := HD0.out; have d1 := HD1.out.1; have d2 := HD1.out.2.1; have d3 := HD1.out.2.2.1; have d4 := HD1.out.2.2.2; go_simp; first | done | with_reducible rfl)) ?_; simp only [Act.put, List.setIfInBounds_toArray, List.set_cons_zero, List.set_cons_succ]))
    refine mix_meet (fun x : Option Addr × Nat => .slice x.1 os.length x.2) (fun x W => True) ⟨Closed.below w6, fun _ h => h⟩ (fun x W W' h hB => trivial) _ _ (by rfl) (fun W hW => by (have hW := HBS.out W hW; have m0 := HQl2.out _ hW; have x0 := m0.cell_at 0 rfl; have x1 := m0.cell_at 1 rfl; have x2 := m0.cell_at 2 rfl; have x3 := m0.cell_at 3 rfl; have x4 := m0.cell_at 4 rfl; have x5 := m0.cell_at 5 rfl; have x6 := m0.cell_at 6 rfl; have x7 := m0.cell_at 7 rfl; have x8 := m0.cell_at 8 rfl; have x9 := m0.cell_at 9 rfl; have x10 := m0.cell_at 10 rfl; clear m0; have m1 := HQr2.out _ hW; have r0 := m1.cell_at 0 rfl; have r1 := m1.cell_at 1 rfl; clear m1; rw [HA.out] at x0; have c0 := HC0.out _ hW; have d0 := HD0.out; have d1 := HD1.out.1; have d2 := HD1.out.2.1; have d3 := HD1.out.2.2.1; have d4 := HD1.out.2.2.2; go_simp; first | done | rfl)) (fun W hW => (KO.out W (HBS.out W hW)).mono (fun e w' ⟨A, c, h1, h2, h3, h4⟩ => ⟨(A, c), h1, trivial, h4⟩)) (fun y1 => ?_)
    simp only [Act.put, List.setIfInBounds_toArray, List.set_cons_zero, List.set_cons_succ]
    repeat (first | (refine mix_skip (by rfl) ?_; simp only [Act.put, List.setIfInBounds_toArray, List.set_cons_zero, List.set_cons_succ]) | (refine mix_read _ (by rfl) (fun W hW => by (have hW := HBS.out W hW; have m0 := HQl2.out _ hW; have x0 := m0.cell_at 0 rfl; have x1 := m0.cell_at 1 rfl; have x2 := m0.cell_at 2 rfl; have x3 := m0.cell_at 3 rfl; have x4 := m0.cell_at 4 rfl; have x5 := m0.cell_at 5 rfl; have x6 := m0.cell_at 6 rfl; have x7 := m0.cell_at 7 rfl; have x8 := m0.cell_at 8 rfl; have x9 := m0.cell_at 9 rfl; have x10 := m0.cell_at 10 rfl; clear m0; have m1 := HQr2.out _ hW; have r0 := m1.cell_at 0 rfl; have r1 := m1.cell_at 1 rfl; clear m1; rw [HA.out] at x0; have c0 := HC0.out _ hW; have d0 := HD0.out; have d1 := HD1.out.1; have d2 := HD1.out.2.1; have d3 := HD1.out.2.2.1; have d4 := HD1.out.2.2.2; go_simp; first | done | with_reducible rfl)) ?_; simp only [Act.put, List.setIfInBounds_toArray, List.set_cons_zero, List.set_cons_succ]))
    refine mix_nil (fun W hW => ?_)
    have hq := HBS.out W hW.1
    obtain ⟨A7, c7⟩ := y1
    clear hW HBS KO
    have HKW : Hid (∀ (o : Int), goesK x.k qq o = true → ∀ W, Q3 W → Calls Tryd.prog 24 #[.int .u8 x.k, .int .i64 qq, .int .i64 o] W fun e w' => e = .returned (.tuple #[.int .i64 (wayK x.k qq o), .bool true]) ∧ Below W.heap.size W w') := Lib.hid fun o ho W hW =>
      wayR_P (P := fun W' => Below W.heap.size W W') (w := W) qq o (shapeK x.k) rfl ho (Below.refl _ _)
    have HSX : Hid (∀ (j : Nat) (o : Int), os[j]? = some o → ∃ sb so, A = some ⟨sb, so, none⟩ ∧ ∀ W, Q3 W → W.cell? ⟨sb, so + j * 3, none⟩ = some (.int .i64 (n : Int)) ∧ W.cell? ⟨sb, so + j * 3 + 1, none⟩ = some (.int .i64 qq) ∧ W.cell? ⟨sb, so + j * 3 + 2, none⟩ = some (.int .i64 o)) := Lib.hid fun j o ho => by
      have hj : (os.map (onward ((n : Int), qq)))[j]? = some ((n : Int), qq, o) := by rw [List.getElem?_map, ho]; rfl
      obtain ⟨sb, so, e, _, _, _⟩ := (HRS.out _ hq).nth (n := 3) (fun _ => rfl) (by omega) hj
      refine ⟨sb, so, e, fun W hW => ?_⟩
      obtain ⟨sb', so', e', _, hc0, hc⟩ := (HRS.out _ hW).nth (n := 3) (fun _ => rfl) (by omega) hj
      rw [e] at e'
      cases e'
      exact ⟨hc0 j _ _ hj rfl, hc j _ 1 _ hj rfl, hc j _ 2 _ hj rfl⟩
    go_wp2_with fail
    go_loopw [7] (fun i wr => ∃ j : Nat, j ≤ os.length ∧ i = .int .i64 (j : Int) ∧ Q3 wr)
      (fun i _ => os.length - (intOf i).toNat)
    case atStart => exact ⟨0, by omega, rfl, hq⟩
    case round =>
      clear hq
      obtain ⟨j, hj, rfl, hq⟩ := hrel
      by_cases hlo : j < os.length
      · have hlo' : (j : Int) < os.length := by omega
        obtain ⟨o, ho⟩ : ∃ o, os[j]? = some o := ⟨_, List.getElem?_eq_getElem hlo⟩
        have hoK : (outsK x.k qq)[j]? = some o := by rw [HOS.out]; exact ho
        obtain ⟨hgo, hoq⟩ := outs_at hoK
        obtain ⟨sb, so, rfl, hS⟩ := HSX.out j o ho
        have HS := Lib.hid hS
        have KWy := Lib.hid (fun W hW => HKW.out o hgo W hW)
        have HD3 : Hid ((j : Int) < os.length) := Lib.hid hlo'
        have HD4 : Hid ((o == qq) = false) := Lib.hid (by simp [hoq])
        have HD5 : Hid ((((n : Int) != (n : Int)) = false) ∧ ((qq != qq) = false)) := Lib.hid ⟨by simp, by simp⟩
        by_cases hj0 : 0 < j
        · obtain ⟨i, hi⟩ : ∃ i, j = i + 1 := ⟨j - 1, by omega⟩
          obtain ⟨o', ho'⟩ : ∃ o', os[i]? = some o' := ⟨_, List.getElem?_eq_getElem (by omega)⟩
          have hlt2 : o' < o := outs_up (k := x.k) (i := qq) (j := i) (by rw [HOS.out]; exact ho') (by rw [← hi]; exact hoK)
          obtain ⟨sb', so', e', hS'⟩ := HSX.out i o' ho'
          cases e'
          have HSp := Lib.hid hS'
          have HD6 : Hid (decide ((0 : Int) < (j : Int)) = true ∧ decide (o ≤ o') = false ∧ decide (0 < j) = true ∧ 0 < j) := Lib.hid ⟨decide_eq_true (by omega), decide_eq_false (by omega), decide_eq_true hj0, hj0⟩
          have HD7 : Hid (IntKind.i64.wrap ((j : Int) - 1) = (i : Int) ∧ wrap64 ((j : Int) - 1) = (i : Int) ∧ (i : Int) < os.length) := Lib.hid ⟨by rw [wrapI_in _ (by omega)]; omega, by unfold wrap64; omega, by omega⟩
          clear hS ho hoK hgo hoq ho' hS' hlt2 hi hj0
          go_wp2_with fail
          have HBS : Hid (∀ W, Below wr.heap.size wr W → Q3 W) := Lib.hid (fun W hB => HQ3.out _ _ hq hB)
          clear hq
          refine region_mix (Below wr.heap.size wr) [(0, false), (1, false), (2, false), (3, false), (4, false), (5, false), (6, false), (7, false), (8, false), (9, false), (10, false), (11, false), (12, false), (13, false), (14, false), (15, false), (16, false), (17, false), (18, false), (19, false), (20, false), (21, false), (22, false)] (by kernel_rfl) (by kernel_rfl) (Below wr.heap.size wr) ⟨Closed.below wr, fun _ h => h⟩ (Below.refl _ _).drew ?_
          simp only [pickOps, List.getElem?_cons_zero, List.getElem?_cons_succ]
          repeat (first | (refine mix_skip (by rfl) ?_; simp only [Act.put, List.setIfInBounds_toArray, List.set_cons_zero, List.set_cons_succ]) | (refine mix_read _ (by rfl) (fun W hW => by (have hW := HBS.out W hW; have m0 := HQl2.out _ hW; have x0 := m0.cell_at 0 rfl; have x1 := m0.cell_at 1 rfl; have x2 := m0.cell_at 2 rfl; have x3 := m0.cell_at 3 rfl; have x4 := m0.cell_at 4 rfl; have x5 := m0.cell_at 5 rfl; have x6 := m0.cell_at 6 rfl; have x7 := m0.cell_at 7 rfl; have x8 := m0.cell_at 8 rfl; have x9 := m0.cell_at 9 rfl; have x10 := m0.cell_at 10 rfl; clear m0; have m1 := HQr2.out _ hW; have r0 := m1.cell_at 0 rfl; have r1 := m1.cell_at 1 rfl; clear m1; rw [HA.out] at x0; have c0 := HC0.out _ hW; have e0 := (HS.out _ hW).1; have e1 := (HS.out _ hW).2.1; have e2 := (HS.out _ hW).2.2; have d3 := HD3.out; have d8 := HD1.out.2.2.1; go_simp; first | done | with_reducible rfl)) ?_; simp only [Act.put, List.setIfInBounds_toArray, List.set_cons_zero, List.set_cons_succ]) | (refine mix_call _ _ _ (by rfl) (fun W hW => by (have hW := HBS.out W hW; have m0 := HQl2.out _ hW; have x0 := m0.cell_at 0 rfl; have x1 := m0.cell_at 1 rfl; have x2 := m0.cell_at 2 rfl; have x3 := m0.cell_at 3 rfl; have x4 := m0.cell_at 4 rfl; have x5 := m0.cell_at 5 rfl; have x6 := m0.cell_at 6 rfl; have x7 := m0.cell_at 7 rfl; have x8 := m0.cell_at 8 rfl; have x9 := m0.cell_at 9 rfl; have x10 := m0.cell_at 10 rfl; clear m0; have m1 := HQr2.out _ hW; have r0 := m1.cell_at 0 rfl; have r1 := m1.cell_at 1 rfl; clear m1; rw [HA.out] at x0; have c0 := HC0.out _ hW; have e0 := (HS.out _ hW).1; have e1 := (HS.out _ hW).2.1; have e2 := (HS.out _ hW).2.2; have d3 := HD3.out; have d8 := HD1.out.2.2.1; go_simp; first | done | rfl)) (fun W hW => KWy.out W (HBS.out W hW)) ?_; simp only [Act.put, List.setIfInBounds_toArray, List.set_cons_zero, List.set_cons_succ]))
          refine mix_nil (fun W hW => ?_)
          obtain ⟨w12, hw12⟩ : ∃ w12, W = w12 := ⟨_, rfl⟩
          rw [hw12] at hW ⊢
          have hq := HBS.out w12 hW
          clear hW HBS hw12
          go_wp2_with fail
          have HBS : Hid (∀ W, Below w12.heap.size w12 W → Q3 W) := Lib.hid (fun W hB => HQ3.out _ _ hq hB)
          clear hq
          refine region_mix (Below w12.heap.size w12) [(0, false), (1, false), (2, false), (3, false), (4, false), (5, false), (6, false), (7, false), (8, false), (9, false), (10, false), (11, false), (12, false), (13, false), (14, false), (15, false), (16, false), (17, false), (18, false), (19, false), (20, false), (21, false), (22, false), (23, false), (24, false), (25, false), (26, false), (27, false), (28, false), (29, false), (30, false), (31, false), (32, false), (33, false), (34, false), (35, false), (36, false), (37, false), (38, false), (39, false), (40, false), (41, false), (42, false), (43, false), (44, false), (45, false), (46, false), (47, false), (48, false), (49, false), (50, false), (51, false), (52, false)] (by kernel_rfl) (by kernel_rfl) (Below w12.heap.size w12) ⟨Closed.below w12, fun _ h => h⟩ (Below.refl _ _).drew ?_
          simp only [pickOps, List.getElem?_cons_zero, List.getElem?_cons_succ]
          repeat (first | (refine mix_skip (by rfl) ?_; simp only [Act.put, List.setIfInBounds_toArray, List.set_cons_zero, List.set_cons_succ]) | (refine mix_read _ (by rfl) (fun W hW => by (have hW := HBS.out W hW; have m0 := HQr2.out _ hW; have r0 := m0.cell_at 0 rfl; have r1 := m0.cell_at 1 rfl; clear m0; have e0 := (HS.out _ hW).1; have e1 := (HS.out _ hW).2.1; have e2 := (HS.out _ hW).2.2; have d4 := HD4.out; have d5 := HD5.out.1; have d55 := HD5.out.2; have d6 := HD6.out.1; have d66 := HD6.out.2.1; have d67 := HD6.out.2.2.1; have d68 := HD6.out.2.2.2; have d7 := HD7.out.1; have d77 := HD7.out.2.1; have d78 := HD7.out.2.2; have p2 := (HSp.out _ hW).2.2; go_simp; first | done | with_reducible rfl)) ?_; simp only [Act.put, List.setIfInBounds_toArray, List.set_cons_zero, List.set_cons_succ]))
          refine mix_nil (fun W hW => ?_)
          have hq := HBS.out W hW
          clear hW HBS
          go_wp2_with fail
          go_roundw
          case rel => exact ⟨j + 1, by omega, by go_num, hq⟩
          case measure => simp [intOf]; omega
        · have HD6 : Hid (decide ((0 : Int) < (j : Int)) = false ∧ decide (0 < j) = false ∧ ¬ 0 < j) := Lib.hid ⟨decide_eq_false (by omega), decide_eq_false hj0, hj0⟩
          clear hS ho hoK hgo hoq hj0
          go_wp2_with fail
          have HBS : Hid (∀ W, Below wr.heap.size wr W → Q3 W) := Lib.hid (fun W hB => HQ3.out _ _ hq hB)
          clear hq
          refine region_mix (Below wr.heap.size wr) [(0, false), (1, false), (2, false), (3, false), (4, false), (5, false), (6, false), (7, false), (8, false), (9, false), (10, false), (11, false), (12, false), (13, false), (14, false), (15, false), (16, false), (17, false), (18, false), (19, false), (20, false), (21, false), (22, false)] (by kernel_rfl) (by kernel_rfl) (Below wr.heap.size wr) ⟨Closed.below wr, fun _ h => h⟩ (Below.refl _ _).drew ?_
          simp only [pickOps, List.getElem?_cons_zero, List.getElem?_cons_succ]
          repeat (first | (refine mix_skip (by rfl) ?_; simp only [Act.put, List.setIfInBounds_toArray, List.set_cons_zero, List.set_cons_succ]) | (refine mix_read _ (by rfl) (fun W hW => by (have hW := HBS.out W hW; have m0 := HQl2.out _ hW; have x0 := m0.cell_at 0 rfl; have x1 := m0.cell_at 1 rfl; have x2 := m0.cell_at 2 rfl; have x3 := m0.cell_at 3 rfl; have x4 := m0.cell_at 4 rfl; have x5 := m0.cell_at 5 rfl; have x6 := m0.cell_at 6 rfl; have x7 := m0.cell_at 7 rfl; have x8 := m0.cell_at 8 rfl; have x9 := m0.cell_at 9 rfl; have x10 := m0.cell_at 10 rfl; clear m0; have m1 := HQr2.out _ hW; have r0 := m1.cell_at 0 rfl; have r1 := m1.cell_at 1 rfl; clear m1; rw [HA.out] at x0; have c0 := HC0.out _ hW; have e0 := (HS.out _ hW).1; have e1 := (HS.out _ hW).2.1; have e2 := (HS.out _ hW).2.2; have d3 := HD3.out; have d8 := HD1.out.2.2.1; go_simp; first | done | with_reducible rfl)) ?_; simp only [Act.put, List.setIfInBounds_toArray, List.set_cons_zero, List.set_cons_succ]) | (refine mix_call _ _ _ (by rfl) (fun W hW => by (have hW := HBS.out W hW; have m0 := HQl2.out _ hW; have x0 := m0.cell_at 0 rfl; have x1 := m0.cell_at 1 rfl; have x2 := m0.cell_at 2 rfl; have x3 := m0.cell_at 3 rfl; have x4 := m0.cell_at 4 rfl; have x5 := m0.cell_at 5 rfl; have x6 := m0.cell_at 6 rfl; have x7 := m0.cell_at 7 rfl; have x8 := m0.cell_at 8 rfl; have x9 := m0.cell_at 9 rfl; have x10 := m0.cell_at 10 rfl; clear m0; have m1 := HQr2.out _ hW; have r0 := m1.cell_at 0 rfl; have r1 := m1.cell_at 1 rfl; clear m1; rw [HA.out] at x0; have c0 := HC0.out _ hW; have e0 := (HS.out _ hW).1; have e1 := (HS.out _ hW).2.1; have e2 := (HS.out _ hW).2.2; have d3 := HD3.out; have d8 := HD1.out.2.2.1; go_simp; first | done | rfl)) (fun W hW => KWy.out W (HBS.out W hW)) ?_; simp only [Act.put, List.setIfInBounds_toArray, List.set_cons_zero, List.set_cons_succ]))
          refine mix_nil (fun W hW => ?_)
          obtain ⟨w12, hw12⟩ : ∃ w12, W = w12 := ⟨_, rfl⟩
          rw [hw12] at hW ⊢
          have hq := HBS.out w12 hW
          clear hW HBS hw12
          go_wp2_with fail
          have HBS : Hid (∀ W, Below w12.heap.size w12 W → Q3 W) := Lib.hid (fun W hB => HQ3.out _ _ hq hB)
          clear hq
          refine region_mix (Below w12.heap.size w12) [(0, false), (1, false), (2, false), (3, false), (4, false), (5, false), (6, false), (7, false), (8, false), (9, false), (10, false), (11, false), (12, false), (13, false), (14, false), (15, false), (16, false), (17, false), (18, false), (19, false), (20, false), (21, false), (22, false), (23, false), (24, false), (25, false), (26, false), (27, false), (28, false), (29, false), (30, false), (31, false), (32, false), (33, false), (34, false), (35, false), (36, false), (37, false), (38, false), (39, false), (40, false), (41, false), (42, false), (43, false), (44, false), (45, false), (46, false), (47, false), (48, false), (49, false), (50, false), (51, false), (52, false)] (by kernel_rfl) (by kernel_rfl) (Below w12.heap.size w12) ⟨Closed.below w12, fun _ h => h⟩ (Below.refl _ _).drew ?_
          simp only [pickOps, List.getElem?_cons_zero, List.getElem?_cons_succ]
          repeat (first | (refine mix_skip (by rfl) ?_; simp only [Act.put, List.setIfInBounds_toArray, List.set_cons_zero, List.set_cons_succ]) | (refine mix_read _ (by rfl) (fun W hW => by (have hW := HBS.out W hW; have m0 := HQr2.out _ hW; have r0 := m0.cell_at 0 rfl; have r1 := m0.cell_at 1 rfl; clear m0; have e0 := (HS.out _ hW).1; have e1 := (HS.out _ hW).2.1; have e2 := (HS.out _ hW).2.2; have d4 := HD4.out; have d5 := HD5.out.1; have d55 := HD5.out.2; have d6 := HD6.out.1; have d66 := HD6.out.2.1; have d67 := HD6.out.2.2; go_simp; first | done | with_reducible rfl)) ?_; simp only [Act.put, List.setIfInBounds_toArray, List.set_cons_zero, List.set_cons_succ]))
          refine mix_nil (fun W hW => ?_)
          have hq := HBS.out W hW
          clear hW HBS
          go_wp2_with fail
          go_roundw
          case rel => exact ⟨j + 1, by omega, by go_num, hq⟩
          case measure => simp [intOf]; omega
      · obtain rfl : j = os.length := by omega
        go_wp2_with fail
        refine (KW.out _ (HQ2p.out _ (HQ3p.out _ hq))).mono ?_
        clear hq
        rintro e w9 ⟨rfl, hq⟩
        go_wp2_with fail
        go_ret
        exact ⟨rfl, HQB.out _ hq⟩
end Go.Proofs.YtaelcmamgcndmaaDoor
