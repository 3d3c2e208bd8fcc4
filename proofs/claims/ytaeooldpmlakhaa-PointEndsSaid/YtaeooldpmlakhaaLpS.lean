/- The walk of PointStill. -/
import Derived.Deep.CutRange
import Derived.Test.YtaeooldpmlakhaaPtF
namespace Go.Proofs.Ytaeooldpmlakhaa
open Go.RowKit Go.Shelf
set_option linter.unusedVariables false
set_option linter.unusedSimpArgs false

theorem pass_rest {a b at' d : Int} {f o k : Bool} (h : rightM a b f = false ∨ (a == at') = true) : passM a b f at' o k d = (-1, 0, false) := by
  unfold passM
  rw [if_neg]
  rcases h with h | h <;> simp [h]
theorem pass_still {a b at' d : Int} {f o k : Bool} (h : rightM a b f = true) (h1 : drivesM a b f at' o k = -1) (h2 : 0 ≤ a → (a == at') = false) : passM a b f at' o k d = (a, b, f) := by
  unfold passM
  rcases right_parts h with ⟨hp, _⟩ | ⟨rfl, rfl, rfl⟩
  · have := posB_iff.1 hp
    rw [h, h2 (by omega), if_pos (by rfl), if_pos h1]
  · cases ((-1 : Int) == at') <;> simp [h1]
theorem pass_drives {a b at' d : Int} {f o k : Bool} (h : drivesM a b f at' o k ≠ -1) : passM a b f at' o k d = (a, min (b + 1) 1000, decide (d ≤ min (b + 1) 1000)) := by
  obtain ⟨_, _, _, _, _, he, _, _, hr⟩ := drives_go h
  unfold passM
  rw [hr, if_pos (by simpa using he), if_neg h]
set_option maxRecDepth 100000 in
set_option maxHeartbeats 32000000 in
theorem pointStill_walk (a b : Int) (f : Bool) (at' : Int) (o k : Bool) (d : Int) (w : World) : Calls Try.prog 6 #[mcV a b f, .int .i64 at', .bool o, .bool k, .int .i64 d] w fun e w' => e = .returned (.bool true) ∧ Below w.heap.size w w' := by
  obtain ⟨P, HP, HPb, HPm, hp0⟩ := keep_mc (Closed.below w) (Below.refl _ w) 23 (mcC a b f)
  obtain ⟨r, hrr⟩ : ∃ r, rightM a b f = r := ⟨_, rfl⟩
  obtain ⟨u, hu⟩ : ∃ x, drivesM a b f at' o k = x := ⟨_, rfl⟩
  obtain ⟨⟨s1, s2, s3⟩, hs⟩ : ∃ x, passM a b f at' o k d = x := ⟨_, rfl⟩
  have K5 := Lib.hid fun W => drives_B a b f at' o k W hu
  have K7 := Lib.hid fun W => pass_B a b f at' o k d W hs
  have KR := Lib.hid fun W => rightR_B a b f W hrr
  have heq : ∀ (x1 x2 : Int) (x3 : Bool) (W : World), (binOp .eql 23 (mcV x1 x2 x3) (mcV x1 x2 x3)).run Try.prog W = .ok (.bool true) W := fun x1 x2 x3 W => by rw [eql_mc, eqM_iff.2 ⟨rfl, rfl, rfl⟩]
  have HC := Lib.hid (And.intro hrr (And.intro hu hs))
  have HEQ := Lib.hid heq
  have m := HPm.out _ hp0
  have m0 := m.cell_at 0 rfl
  have m1 := m.cell_at 1 rfl
  have m2 := m.cell_at 2 rfl
  clear m heq hrr hu hs
  go_enter Try.func6, Try.ntmps6
  go_wp2_with fail
  refine (K5.out _).mono ?_
  clear m0 m1 m2
  rintro e w1 ⟨rfl, hB⟩
  replace hp0 := HP.out _ _ hp0 hB
  have m := HPm.out _ hp0
  have m0 := m.cell_at 0 rfl
  have m1 := m.cell_at 1 rfl
  have m2 := m.cell_at 2 rfl
  clear hB K5 m
  go_wp2_with fail
  refine (K7.out _).mono ?_
  clear m0 m1 m2
  rintro e w2 ⟨rfl, hB⟩
  replace hp0 := HP.out _ _ hp0 hB
  clear hB K7
  go_upto_region 3 with (fail)
  obtain ⟨R, HR, HRb, HRm, hq⟩ := keep_mc HP.out hp0 23 (mcC s1 s2 s3)
  obtain ⟨W5, hW5⟩ : ∃ W5, w2.alloc (.cells #[.int .i64 s1, .int .i64 s2, .bool s3] 23) = W5 := ⟨_, rfl⟩
  obtain ⟨g, hg⟩ : ∃ k, w2.heap.size = k := ⟨_, rfl⟩
  replace hq : R W5 := by rw [← hW5]; exact hq
  try rw [hW5]
  try rw [hg] at HRm ⊢
  clear hW5 hg hp0
  have HQb := HPb
  have HQm := HPm
  obtain ⟨Q, HQ, HQR⟩ : ∃ Q : World → Prop, Hid (Closed Q) ∧ Q = R := ⟨R, HR, rfl⟩
  subst HQR
  go_cut [51] from 24 to 51 (fun v wx => v = .bool false ∧ wx = W5)
  case first =>
    obtain ⟨hrr, hu, hs⟩ := HC.out
    have m := HQm.out _ (HRb.out _ hq)
    have m0 := m.cell_at 0 rfl
    have m1 := m.cell_at 1 rfl
    have m2 := m.cell_at 2 rfl
    clear m
    by_cases h1 : u = -1
    · subst h1
      clear HC HEQ KR hrr hu hs
      cases o <;> cases k <;> cases f <;> cases e0 : (at' == a)
      all_goals
        go_wp2_with fail
        go_meet
        exact ⟨rfl, rfl⟩
    · obtain ⟨hp, h0, hb, hua, hf, hne, ho, hk, _⟩ := drives_go (by rw [hu]; exact h1)
      obtain rfl : u = a := hu.symm.trans hua
      subst hf ho hk
      have e0 : (at' == u) = false := by rw [beq_eq_false_iff_ne]; exact fun h => hne h.symm
      have e1 : (u != -1) = true := by simp [h1]
      have e2 : (u != u) = false := by simp
      clear HC HEQ KR hrr hu hs hp h0 hb hua hne h1
      go_wp2_with fail
      go_meet
      exact ⟨rfl, rfl⟩
  case rest =>
  obtain ⟨rfl, rfl⟩ := hcut
  have m := HQm.out _ (HRb.out _ hq)
  have m0 := m.cell_at 0 rfl
  have m1 := m.cell_at 1 rfl
  have m2 := m.cell_at 2 rfl
  clear m
  go_wp2_with fail
  refine (KR.out _).mono ?_
  clear m0 m1 m2 KR
  rintro e w3 ⟨rfl, hB⟩
  replace hq := HQ.out _ _ hq hB
  clear hB
  obtain ⟨hrr, hu, hs⟩ := HC.out
  cases r
  · obtain ⟨rfl, rfl, rfl⟩ : s1 = -1 ∧ s2 = 0 ∧ s3 = false := by have := (pass_rest (.inl hrr)).symm.trans hs; simpa [eq_comm] using this
    obtain rfl : u = -1 := hu.symm.trans (drives_no (.inl hrr))
    have q0 := HEQ.out (-1) 0 false
    clear HC HEQ hrr hu hs
    go_wp2_with fail
    generalize w3 = W7 at *
    go_wp2_with fail
    have HBS : Hid (∀ W, Below W7.heap.size W7 W → Q W) := Lib.hid (fun W hB => HQ.out _ _ hq hB)
    clear hq
    refine region_mix (Below W7.heap.size W7) [(0, false), (1, false), (2, false), (3, false), (4, false), (5, false), (6, false), (7, false), (8, false), (9, false), (10, false)] (by kernel_rfl) (by kernel_rfl) (Below W7.heap.size W7) ⟨Closed.below W7, fun _ h => h⟩ (Below.refl _ _).drew ?_
    simp only [pickOps, List.getElem?_cons_zero, List.getElem?_cons_succ]
    repeat (first | (refine mix_skip (by rfl) ?_; simp only [Act.put, List.setIfInBounds_toArray, List.set_cons_zero, List.set_cons_succ]) | (refine mix_read _ (by rfl) (fun W hW => by (have hW := HBS.out W hW; have m0 := HQm.out W (HRb.out W hW); have x0 := m0.cell_at 0 rfl; have x1 := m0.cell_at 1 rfl; have x2 := m0.cell_at 2 rfl; clear m0; have m0 := HRm.out W hW; have y0 := m0.cell_at 0 rfl; have y1 := m0.cell_at 1 rfl; have y2 := m0.cell_at 2 rfl; clear m0;  go_simp; first | done | with_reducible rfl)) ?_; simp only [Act.put, List.setIfInBounds_toArray, List.set_cons_zero, List.set_cons_succ]) | (refine mix_call _ _ _ (by rfl) (fun W hW => by (have hW := HBS.out W hW; have m0 := HQm.out W (HRb.out W hW); have x0 := m0.cell_at 0 rfl; have x1 := m0.cell_at 1 rfl; have x2 := m0.cell_at 2 rfl; clear m0; have m0 := HRm.out W hW; have y0 := m0.cell_at 0 rfl; have y1 := m0.cell_at 1 rfl; have y2 := m0.cell_at 2 rfl; clear m0;  go_simp; first | done | rfl)) (fun W hW => rest_B _) ?_; simp only [Act.put, List.setIfInBounds_toArray, List.set_cons_zero, List.set_cons_succ]) | (refine mix_call _ _ _ (by rfl) (fun W hW => by (have hW := HBS.out W hW; have m0 := HQm.out W (HRb.out W hW); have x0 := m0.cell_at 0 rfl; have x1 := m0.cell_at 1 rfl; have x2 := m0.cell_at 2 rfl; clear m0; have m0 := HRm.out W hW; have y0 := m0.cell_at 0 rfl; have y1 := m0.cell_at 1 rfl; have y2 := m0.cell_at 2 rfl; clear m0;  go_simp; first | done | rfl)) (fun W hW => wakes16_B _) ?_; simp only [Act.put, List.setIfInBounds_toArray, List.set_cons_zero, List.set_cons_succ]))
    refine mix_nil (fun W hW => ?_)
    have hq := HBS.out W hW
    have HBW := Lib.hid hW
    clear hW HBS
    go_wp2_with fail
    go_ret
    exact ⟨rfl, HQb.out _ (HRb.out _ hq)⟩
  · have m := HQm.out _ (HRb.out _ hq)
    have m0 := m.cell_at 0 rfl
    have m1 := m.cell_at 1 rfl
    have m2 := m.cell_at 2 rfl
    clear m
    by_cases hst : 0 ≤ a ∧ (a == at') = true
    · obtain ⟨rfl, rfl, rfl⟩ : s1 = -1 ∧ s2 = 0 ∧ s3 = false := by have := (pass_rest (.inr hst.2)).symm.trans hs; simpa [eq_comm] using this
      have q0 := HEQ.out (-1) 0 false
      have e0 : decide (0 ≤ a) = true := decide_eq_true hst.1
      have e1 : (at' == a) = true := by rw [Bool.beq_comm]; exact hst.2
      clear HC HEQ hrr hu hs hst
      go_wp2_with fail
      clear m0 m1 m2 e0 e1
      generalize w3 = W7 at *
      go_wp2_with fail
      have HBS : Hid (∀ W, Below W7.heap.size W7 W → Q W) := Lib.hid (fun W hB => HQ.out _ _ hq hB)
      clear hq
      refine region_mix (Below W7.heap.size W7) [(0, false), (1, false), (2, false), (3, false), (4, false), (5, false), (6, false)] (by kernel_rfl) (by kernel_rfl) (Below W7.heap.size W7) ⟨Closed.below W7, fun _ h => h⟩ (Below.refl _ _).drew ?_
      simp only [pickOps, List.getElem?_cons_zero, List.getElem?_cons_succ]
      repeat (first | (refine mix_skip (by rfl) ?_; simp only [Act.put, List.setIfInBounds_toArray, List.set_cons_zero, List.set_cons_succ]) | (refine mix_read _ (by rfl) (fun W hW => by (have hW := HBS.out W hW; have m0 := HQm.out W (HRb.out W hW); have x0 := m0.cell_at 0 rfl; have x1 := m0.cell_at 1 rfl; have x2 := m0.cell_at 2 rfl; clear m0; have m0 := HRm.out W hW; have y0 := m0.cell_at 0 rfl; have y1 := m0.cell_at 1 rfl; have y2 := m0.cell_at 2 rfl; clear m0;  go_simp; first | done | with_reducible rfl)) ?_; simp only [Act.put, List.setIfInBounds_toArray, List.set_cons_zero, List.set_cons_succ]) | (refine mix_call _ _ _ (by rfl) (fun W hW => by (have hW := HBS.out W hW; have m0 := HQm.out W (HRb.out W hW); have x0 := m0.cell_at 0 rfl; have x1 := m0.cell_at 1 rfl; have x2 := m0.cell_at 2 rfl; clear m0; have m0 := HRm.out W hW; have y0 := m0.cell_at 0 rfl; have y1 := m0.cell_at 1 rfl; have y2 := m0.cell_at 2 rfl; clear m0;  go_simp; first | done | rfl)) (fun W hW => rest_B _) ?_; simp only [Act.put, List.setIfInBounds_toArray, List.set_cons_zero, List.set_cons_succ]) | (refine mix_call _ _ _ (by rfl) (fun W hW => by (have hW := HBS.out W hW; have m0 := HQm.out W (HRb.out W hW); have x0 := m0.cell_at 0 rfl; have x1 := m0.cell_at 1 rfl; have x2 := m0.cell_at 2 rfl; clear m0; have m0 := HRm.out W hW; have y0 := m0.cell_at 0 rfl; have y1 := m0.cell_at 1 rfl; have y2 := m0.cell_at 2 rfl; clear m0;  go_simp; first | done | rfl)) (fun W hW => wakes16_B _) ?_; simp only [Act.put, List.setIfInBounds_toArray, List.set_cons_zero, List.set_cons_succ]))
      refine mix_nil (fun W hW => ?_)
      have hq := HBS.out W hW
      have HBW := Lib.hid hW
      clear hW HBS
      go_wp2_with fail
      go_ret
      exact ⟨rfl, HQb.out _ (HRb.out _ hq)⟩
    · have hst2 : 0 ≤ a → (a == at') = false := fun h => Bool.eq_false_iff.2 fun hh => hst ⟨h, hh⟩
      have e0 : (decide (0 ≤ a) = true ∧ (at' == a) = false ∧ 0 ≤ a) ∨ (decide (0 ≤ a) = false ∧ ¬ 0 ≤ a) := by
        by_cases h : 0 ≤ a
        · exact .inl ⟨decide_eq_true h, by rw [Bool.beq_comm]; exact hst2 h, h⟩
        · exact .inr ⟨decide_eq_false h, h⟩
      have HB := Lib.hid (HQb.out _ (HRb.out _ hq))
      have n := HRm.out _ hq
      have n0 := n.cell_at 0 rfl
      have n1 := n.cell_at 1 rfl
      have n2 := n.cell_at 2 rfl
      clear n
      by_cases h1 : u = -1
      · obtain ⟨rfl, rfl, rfl⟩ : s1 = a ∧ s2 = b ∧ s3 = f := by have := (pass_still hrr (hu.trans h1) hst2).symm.trans hs; simpa [eq_comm] using this
        have q0 := HEQ.out s1 s2 s3
        subst h1
        clear HC HEQ hrr hu hs hst hst2 hq
        rcases e0 with ⟨e0, e1, e2⟩ | ⟨e0, e2⟩
        all_goals
          go_wp2_with fail
          refine (wakes16_B _).mono ?_
          rintro e w3 ⟨rfl, hB⟩
          have HB3 := Lib.hid (HB.out.trans (hB.mono HB.out.size))
          clear hB HB
          go_wp2_with fail
          go_ret
          exact ⟨rfl, HB3.out⟩
      · have hdg : drivesM a b f at' o k ≠ -1 := by rw [hu]; exact h1
        have hp := (drives_go hdg).1
        have h0 := (drives_go hdg).2.1
        have hb := (drives_go hdg).2.2.1
        have he : (at' == a) = false := by rw [Bool.beq_comm]; have := (drives_go hdg).2.2.2.2.2.1; simpa using this
        have ha : 0 ≤ a := by have := posB_iff.1 hp; omega
        have da : decide (0 ≤ a) = true := decide_eq_true ha
        have hu1 : (u == -1) = false := by simp [h1]
        obtain ⟨rfl, h2, h3⟩ : s1 = a ∧ s2 = min (b + 1) 1000 ∧ s3 = decide (d ≤ s2) := by
          have := (pass_drives (d := d) hdg).symm.trans hs
          simp only [Prod.mk.injEq] at this
          obtain ⟨x1, x2, x3⟩ := this
          exact ⟨x1.symm, x2.symm, by rw [← x2]; exact x3.symm⟩
        have hw : IntKind.i64.wrap (b + 1) = b + 1 := IntWalk.i64_in _ (by omega)
        have e1 : (s1 == s1) = true := by simp
        have hbb : (s2 = b + 1 ∧ (s2 == b + 1) = true) ∨ (b = 1000 ∧ s2 = 1000) := by
          by_cases h : b = 1000
          · exact .inr ⟨h, by omega⟩
          · exact .inl ⟨by omega, by rw [beq_iff_eq]; omega⟩
        have H3 := Lib.hid h3
        clear HC HEQ hrr hu hs hst hst2 hq e0 hdg hp h3 h1
        have h3b : (s3 == decide (d ≤ s2)) = true := by rw [H3.out]; simp
        rcases hbb with ⟨hbe, e2⟩ | ⟨rfl, rfl⟩
        · clear h2 hbe
          go_wp2_with fail
          refine (wakes16_B _).mono ?_
          rintro e w3 ⟨rfl, hB⟩
          have HB3 := Lib.hid (HB.out.trans (hB.mono HB.out.size))
          clear hB HB
          go_wp2_with fail
          go_ret
          exact ⟨rfl, HB3.out⟩
        · clear h2
          go_wp2_with fail
          refine (wakes16_B _).mono ?_
          rintro e w3 ⟨rfl, hB⟩
          have HB3 := Lib.hid (HB.out.trans (hB.mono HB.out.size))
          clear hB HB
          go_wp2_with fail
          go_ret
          exact ⟨rfl, HB3.out⟩

end Go.Proofs.Ytaeooldpmlakhaa
