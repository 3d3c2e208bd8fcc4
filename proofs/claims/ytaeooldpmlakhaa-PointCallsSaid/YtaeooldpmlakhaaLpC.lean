/- The walk of PointCalls. -/
import Derived.Deep.CutRange
import Derived.Test.YtaeooldpmlakhaaPtF
namespace Go.Proofs.Ytaeooldpmlakhaa
open Go.RowKit Go.Shelf
set_option linter.unusedVariables false
set_option linter.unusedSimpArgs false

theorem call_rest {a b p : Int} {f : Bool} (h : rightM a b f = false ∨ posB p = false) : callM a b f p = (-1, 0, false) := by
  unfold callM
  rw [if_neg]
  rcases h with h | h <;> simp [h]
theorem call_same {b p : Int} (h : rightM p b false = true) (hp : posB p = true) : callM p b false p = (p, b, false) := by
  unfold callM
  rw [h, hp]
  simp
theorem call_new {a b p : Int} {f : Bool} (h : rightM a b f = true) (hp : posB p = true) (hn : a ≠ p ∨ f = true) : callM a b f p = (p, 0, false) := by
  unfold callM
  rw [h, hp]
  rw [if_pos (by rfl), if_neg]
  rintro ⟨h1, h2⟩
  rcases hn with hn | hn
  · exact hn h1
  · rw [h2] at hn; cases hn
theorem right_new {p : Int} (hp : posB p = true) : rightM p 0 false = true := by
  unfold rightM
  rw [hp]
  rfl
theorem not_both {a p : Int} {f : Bool} (h : ¬(a = p ∧ f = false)) : a ≠ p ∨ f = true := by
  cases f
  · exact .inl fun e => h ⟨e, rfl⟩
  · exact .inr rfl
theorem call_right {a b p : Int} {f : Bool} {x : Int × Int × Bool} (h : callM a b f p = x) : rightM x.1 x.2.1 x.2.2 = true := by
  subst h
  cases hr : rightM a b f
  · rw [call_rest (.inl hr)]; rfl
  · cases hp : posB p
    · rw [call_rest (.inr hp)]; rfl
    · by_cases ha : a = p ∧ f = false
      · obtain ⟨rfl, rfl⟩ := ha
        rw [call_same hr hp]
        exact hr
      · rw [call_new hr hp (not_both ha)]
        exact right_new hp
theorem call_twice {a b p : Int} {f : Bool} {x : Int × Int × Bool} (h : callM a b f p = x) (hr : rightM a b f = true) : callM x.1 x.2.1 x.2.2 p = x := by
  subst h
  cases hp : posB p
  · rw [call_rest (.inr hp), call_rest (.inr hp)]
  · by_cases ha : a = p ∧ f = false
    · obtain ⟨rfl, rfl⟩ := ha
      rw [call_same hr hp]
      exact call_same hr hp
    · rw [call_new hr hp (not_both ha)]
      exact call_same (right_new hp) hp
set_option maxRecDepth 100000 in
set_option maxHeartbeats 32000000 in
theorem pointCalls_walk (a b : Int) (f : Bool) (p : Int) (w : World) : Calls Try.prog 5 #[mcV a b f, .int .i64 p] w fun e w' => e = .returned (.bool true) ∧ Below w.heap.size w w' := by
  obtain ⟨P, HP, HPb, HPm, hp0⟩ := keep_mc (Closed.below w) (Below.refl _ w) 23 (mcC a b f)
  obtain ⟨r, hrr⟩ : ∃ r, rightM a b f = r := ⟨_, rfl⟩
  obtain ⟨⟨c1, c2, c3⟩, hcc⟩ : ∃ x, callM a b f p = x := ⟨_, rfl⟩
  have hcr : rightM c1 c2 c3 = true := call_right hcc
  obtain ⟨⟨y1, y2, y3⟩, hyy⟩ : ∃ x, callM c1 c2 c3 p = x := ⟨_, rfl⟩
  have hyt : callM y1 y2 y3 p = (y1, y2, y3) := call_twice hyy hcr
  have K1 := Lib.hid fun W => call_B a b f p W hcc
  have K2 := Lib.hid fun W => right_B c1 c2 c3 W hcr
  have K3 := Lib.hid fun W => call_B c1 c2 c3 p W hyy
  have K4 := Lib.hid fun W => call_B y1 y2 y3 p W hyt
  have K5 := Lib.hid fun W => rightR_B a b f W hrr
  have qn : ∀ W : World, (binOp .neq 23 (mcV y1 y2 y3) (mcV y1 y2 y3)).run Try.prog W = .ok (.bool false) W := fun W => by rw [neq_mc, eqM_iff.2 ⟨rfl, rfl, rfl⟩]; rfl
  have heq : ∀ (x1 x2 : Int) (x3 : Bool) (W : World), (binOp .eql 23 (mcV x1 x2 x3) (mcV x1 x2 x3)).run Try.prog W = .ok (.bool true) W := fun x1 x2 x3 W => by rw [eql_mc, eqM_iff.2 ⟨rfl, rfl, rfl⟩]
  have m := HPm.out _ hp0
  have m0 := m.cell_at 0 rfl
  have m1 := m.cell_at 1 rfl
  have m2 := m.cell_at 2 rfl
  have HC := Lib.hid (And.intro hrr hcc)
  have HEQ := Lib.hid heq
  clear m hcr hyy hyt hrr hcc heq
  go_enter Try.func5, Try.ntmps5
  go_wp2_with fail
  refine (K1.out _).mono ?_
  clear m0 m1 m2
  rintro e w1 ⟨rfl, hB⟩
  replace hp0 := HP.out _ _ hp0 hB
  clear hB K1
  go_wp2_with fail
  obtain ⟨R, HR, HRb, HRm, hq⟩ := keep_mc HP.out hp0 23 (mcC c1 c2 c3)
  obtain ⟨W5, hW5⟩ : ∃ W5, w1.alloc (.cells #[.int .i64 c1, .int .i64 c2, .bool c3] 23) = W5 := ⟨_, rfl⟩
  obtain ⟨g, hg⟩ : ∃ k, w1.heap.size = k := ⟨_, rfl⟩
  replace hq : R W5 := by rw [← hW5]; exact hq
  try rw [hW5]
  try rw [hg] at HRm ⊢
  clear hW5 hg hp0
  have HQb := HPb
  have HQm := HPm
  obtain ⟨Q, HQ, HQR⟩ : ∃ Q : World → Prop, Hid (Closed Q) ∧ Q = R := ⟨R, HR, rfl⟩
  subst HQR
  go_wp2_with fail
  have HBS : Hid (∀ W, Below W5.heap.size W5 W → Q W) := Lib.hid (fun W hB => HQ.out _ _ hq hB)
  clear hq
  refine region_mix (Below W5.heap.size W5) [(0, false), (1, false), (2, false), (3, false), (4, false), (5, false), (6, false), (7, false), (8, false), (9, false), (10, false), (11, false), (12, false), (13, false)] (by kernel_rfl) (by kernel_rfl) (Below W5.heap.size W5) ⟨Closed.below W5, fun _ h => h⟩ (Below.refl _ _).drew ?_
  simp only [pickOps, List.getElem?_cons_zero, List.getElem?_cons_succ]
  repeat (first | (refine mix_skip (by rfl) ?_; simp only [Act.put, List.setIfInBounds_toArray, List.set_cons_zero, List.set_cons_succ]) | (refine mix_read _ (by rfl) (fun W hW => by (have hW := HBS.out W hW; have m0 := HQm.out W (HRb.out W hW); have x0 := m0.cell_at 0 rfl; have x1 := m0.cell_at 1 rfl; have x2 := m0.cell_at 2 rfl; clear m0; have m0 := HRm.out W hW; have y0 := m0.cell_at 0 rfl; have y1 := m0.cell_at 1 rfl; have y2 := m0.cell_at 2 rfl; clear m0;  go_simp; first | done | with_reducible rfl)) ?_; simp only [Act.put, List.setIfInBounds_toArray, List.set_cons_zero, List.set_cons_succ]) | (refine mix_call _ _ _ (by rfl) (fun W hW => by (have hW := HBS.out W hW; have m0 := HQm.out W (HRb.out W hW); have x0 := m0.cell_at 0 rfl; have x1 := m0.cell_at 1 rfl; have x2 := m0.cell_at 2 rfl; clear m0; have m0 := HRm.out W hW; have y0 := m0.cell_at 0 rfl; have y1 := m0.cell_at 1 rfl; have y2 := m0.cell_at 2 rfl; clear m0;  go_simp; first | done | rfl)) (fun W hW => K2.out _) ?_; simp only [Act.put, List.setIfInBounds_toArray, List.set_cons_zero, List.set_cons_succ]) | (refine mix_call _ _ _ (by rfl) (fun W hW => by (have hW := HBS.out W hW; have m0 := HQm.out W (HRb.out W hW); have x0 := m0.cell_at 0 rfl; have x1 := m0.cell_at 1 rfl; have x2 := m0.cell_at 2 rfl; clear m0; have m0 := HRm.out W hW; have y0 := m0.cell_at 0 rfl; have y1 := m0.cell_at 1 rfl; have y2 := m0.cell_at 2 rfl; clear m0;  go_simp; first | done | rfl)) (fun W hW => K3.out _) ?_; simp only [Act.put, List.setIfInBounds_toArray, List.set_cons_zero, List.set_cons_succ]) | (refine mix_call _ _ _ (by rfl) (fun W hW => by (have hW := HBS.out W hW; have m0 := HQm.out W (HRb.out W hW); have x0 := m0.cell_at 0 rfl; have x1 := m0.cell_at 1 rfl; have x2 := m0.cell_at 2 rfl; clear m0; have m0 := HRm.out W hW; have y0 := m0.cell_at 0 rfl; have y1 := m0.cell_at 1 rfl; have y2 := m0.cell_at 2 rfl; clear m0;  go_simp; first | done | rfl)) (fun W hW => K4.out _) ?_; simp only [Act.put, List.setIfInBounds_toArray, List.set_cons_zero, List.set_cons_succ]))
  refine mix_nil (fun W hW => ?_)
  have hq := HBS.out W hW
  have HBW := Lib.hid hW
  clear hW HBS
  have m0 := (HQm.out _ (HRb.out _ hq)).cell_at 0 rfl
  have m1 := (HQm.out _ (HRb.out _ hq)).cell_at 1 rfl
  have m2 := (HQm.out _ (HRb.out _ hq)).cell_at 2 rfl
  clear HBW qn K2 K3 K4
  go_wp2_with fail
  refine (K5.out _).mono ?_
  clear m0 m1 m2
  rintro e w2 ⟨rfl, hB⟩
  replace hq := HQ.out _ _ hq hB
  clear hB K5
  obtain ⟨hrr, hcc⟩ := HC.out
  cases r
  · obtain ⟨rfl, rfl, rfl⟩ : c1 = -1 ∧ c2 = 0 ∧ c3 = false := by have := (call_rest (p := p) (.inl hrr)).symm.trans hcc; simpa [eq_comm] using this
    have q0 := HEQ.out (-1) 0 false
    clear HC HEQ hrr hcc
    go_wp2_with fail
    generalize w2 = W7 at *
    go_wp2_with fail
    have HBS : Hid (∀ W, Below W7.heap.size W7 W → Q W) := Lib.hid (fun W hB => HQ.out _ _ hq hB)
    clear hq
    refine region_mix (Below W7.heap.size W7) [(0, false), (1, false), (2, false), (3, false), (4, false), (5, false), (6, false)] (by kernel_rfl) (by kernel_rfl) (Below W7.heap.size W7) ⟨Closed.below W7, fun _ h => h⟩ (Below.refl _ _).drew ?_
    simp only [pickOps, List.getElem?_cons_zero, List.getElem?_cons_succ]
    repeat (first | (refine mix_skip (by rfl) ?_; simp only [Act.put, List.setIfInBounds_toArray, List.set_cons_zero, List.set_cons_succ]) | (refine mix_read _ (by rfl) (fun W hW => by (have hW := HBS.out W hW; have m0 := HQm.out W (HRb.out W hW); have x0 := m0.cell_at 0 rfl; have x1 := m0.cell_at 1 rfl; have x2 := m0.cell_at 2 rfl; clear m0; have m0 := HRm.out W hW; have y0 := m0.cell_at 0 rfl; have y1 := m0.cell_at 1 rfl; have y2 := m0.cell_at 2 rfl; clear m0;  go_simp; first | done | with_reducible rfl)) ?_; simp only [Act.put, List.setIfInBounds_toArray, List.set_cons_zero, List.set_cons_succ]) | (refine mix_call _ _ _ (by rfl) (fun W hW => by (have hW := HBS.out W hW; have m0 := HQm.out W (HRb.out W hW); have x0 := m0.cell_at 0 rfl; have x1 := m0.cell_at 1 rfl; have x2 := m0.cell_at 2 rfl; clear m0; have m0 := HRm.out W hW; have y0 := m0.cell_at 0 rfl; have y1 := m0.cell_at 1 rfl; have y2 := m0.cell_at 2 rfl; clear m0;  go_simp; first | done | rfl)) (fun W hW => rest_B _) ?_; simp only [Act.put, List.setIfInBounds_toArray, List.set_cons_zero, List.set_cons_succ]) | (refine mix_call _ _ _ (by rfl) (fun W hW => by (have hW := HBS.out W hW; have m0 := HQm.out W (HRb.out W hW); have x0 := m0.cell_at 0 rfl; have x1 := m0.cell_at 1 rfl; have x2 := m0.cell_at 2 rfl; clear m0; have m0 := HRm.out W hW; have y0 := m0.cell_at 0 rfl; have y1 := m0.cell_at 1 rfl; have y2 := m0.cell_at 2 rfl; clear m0;  go_simp; first | done | rfl)) (fun W hW => wakes16_B _) ?_; simp only [Act.put, List.setIfInBounds_toArray, List.set_cons_zero, List.set_cons_succ]))
    refine mix_nil (fun W hW => ?_)
    have hq := HBS.out W hW
    have HBW := Lib.hid hW
    clear hW HBS
    go_wp2_with fail
    go_ret
    exact ⟨rfl, HQb.out _ (HRb.out _ hq)⟩
  · cases hpb : posB p
    · obtain ⟨rfl, rfl, rfl⟩ : c1 = -1 ∧ c2 = 0 ∧ c3 = false := by have := (call_rest (a := a) (b := b) (f := f) (.inr hpb)).symm.trans hcc; simpa [eq_comm] using this
      have q0 := HEQ.out (-1) 0 false
      obtain ⟨d0, d1⟩ : (p != 0) = true ∧ (p != 1) = true := by have h := posB_no.1 hpb; simp [h.1, h.2]
      clear HC HEQ hrr hcc hpb
      go_wp2_with fail
      generalize w2 = W7 at *
      go_wp2_with fail
      have HBS : Hid (∀ W, Below W7.heap.size W7 W → Q W) := Lib.hid (fun W hB => HQ.out _ _ hq hB)
      clear hq
      refine region_mix (Below W7.heap.size W7) [(0, false), (1, false), (2, false), (3, false), (4, false), (5, false), (6, false)] (by kernel_rfl) (by kernel_rfl) (Below W7.heap.size W7) ⟨Closed.below W7, fun _ h => h⟩ (Below.refl _ _).drew ?_
      simp only [pickOps, List.getElem?_cons_zero, List.getElem?_cons_succ]
      repeat (first | (refine mix_skip (by rfl) ?_; simp only [Act.put, List.setIfInBounds_toArray, List.set_cons_zero, List.set_cons_succ]) | (refine mix_read _ (by rfl) (fun W hW => by (have hW := HBS.out W hW; have m0 := HQm.out W (HRb.out W hW); have x0 := m0.cell_at 0 rfl; have x1 := m0.cell_at 1 rfl; have x2 := m0.cell_at 2 rfl; clear m0; have m0 := HRm.out W hW; have y0 := m0.cell_at 0 rfl; have y1 := m0.cell_at 1 rfl; have y2 := m0.cell_at 2 rfl; clear m0;  go_simp; first | done | with_reducible rfl)) ?_; simp only [Act.put, List.setIfInBounds_toArray, List.set_cons_zero, List.set_cons_succ]) | (refine mix_call _ _ _ (by rfl) (fun W hW => by (have hW := HBS.out W hW; have m0 := HQm.out W (HRb.out W hW); have x0 := m0.cell_at 0 rfl; have x1 := m0.cell_at 1 rfl; have x2 := m0.cell_at 2 rfl; clear m0; have m0 := HRm.out W hW; have y0 := m0.cell_at 0 rfl; have y1 := m0.cell_at 1 rfl; have y2 := m0.cell_at 2 rfl; clear m0;  go_simp; first | done | rfl)) (fun W hW => rest_B _) ?_; simp only [Act.put, List.setIfInBounds_toArray, List.set_cons_zero, List.set_cons_succ]) | (refine mix_call _ _ _ (by rfl) (fun W hW => by (have hW := HBS.out W hW; have m0 := HQm.out W (HRb.out W hW); have x0 := m0.cell_at 0 rfl; have x1 := m0.cell_at 1 rfl; have x2 := m0.cell_at 2 rfl; clear m0; have m0 := HRm.out W hW; have y0 := m0.cell_at 0 rfl; have y1 := m0.cell_at 1 rfl; have y2 := m0.cell_at 2 rfl; clear m0;  go_simp; first | done | rfl)) (fun W hW => wakes16_B _) ?_; simp only [Act.put, List.setIfInBounds_toArray, List.set_cons_zero, List.set_cons_succ]))
      refine mix_nil (fun W hW => ?_)
      have hq := HBS.out W hW
      have HBW := Lib.hid hW
      clear hW HBS
      go_wp2_with fail
      go_ret
      exact ⟨rfl, HQb.out _ (HRb.out _ hq)⟩
    · rcases (show (p != 0) = false ∨ ((p != 0) = true ∧ (p != 1) = false) by rcases posB_iff.1 hpb with rfl | rfl <;> simp) with d0 | ⟨d0, d1⟩
      all_goals
        have m0 := (HQm.out _ (HRb.out _ hq)).cell_at 0 rfl
        have m1 := (HQm.out _ (HRb.out _ hq)).cell_at 1 rfl
        have m2 := (HQm.out _ (HRb.out _ hq)).cell_at 2 rfl
        have n0 := (HRm.out _ hq).cell_at 0 rfl
        have n1 := (HRm.out _ hq).cell_at 1 rfl
        have n2 := (HRm.out _ hq).cell_at 2 rfl
        by_cases hap : a = p
        · subst hap
          cases hf : f
          · subst hf
            obtain ⟨rfl, rfl, rfl⟩ : c1 = a ∧ c2 = b ∧ c3 = false := by have := (call_same hrr hpb).symm.trans hcc; simpa [eq_comm] using this
            have q0 := HEQ.out c1 c2 false
            have HB := Lib.hid (HQb.out _ (HRb.out _ hq))
            have e1 : (c1 == c1) = true := by simp
            clear HC HEQ hrr hcc hpb hq
            go_wp2_with fail
            refine (wakes16_B _).mono ?_
            rintro e w3 ⟨rfl, hB⟩
            have HB3 := Lib.hid (HB.out.trans (hB.mono HB.out.size))
            clear hB HB
            go_wp2_with fail
            go_ret
            exact ⟨rfl, HB3.out⟩
          · subst hf
            obtain ⟨rfl, rfl, rfl⟩ : c1 = a ∧ c2 = 0 ∧ c3 = false := by have := (call_new hrr hpb (.inr rfl)).symm.trans hcc; simpa [eq_comm] using this
            have q0 := HEQ.out c1 0 false
            have HB := Lib.hid (HQb.out _ (HRb.out _ hq))
            have e1 : (c1 == c1) = true := by simp
            clear HC HEQ hrr hcc hpb hq
            go_wp2_with fail
            refine (wakes16_B _).mono ?_
            rintro e w3 ⟨rfl, hB⟩
            have HB3 := Lib.hid (HB.out.trans (hB.mono HB.out.size))
            clear hB HB
            go_wp2_with fail
            go_ret
            exact ⟨rfl, HB3.out⟩
        · obtain ⟨rfl, rfl, rfl⟩ : c1 = p ∧ c2 = 0 ∧ c3 = false := by have := (call_new hrr hpb (.inl hap)).symm.trans hcc; simpa [eq_comm] using this
          have q0 := HEQ.out c1 0 false
          have HB := Lib.hid (HQb.out _ (HRb.out _ hq))
          have e1 : (a == c1) = false := by simp [hap]
          clear HC HEQ hrr hcc hpb hq hap
          go_wp2_with fail
          refine (wakes16_B _).mono ?_
          rintro e w3 ⟨rfl, hB⟩
          have HB3 := Lib.hid (HB.out.trans (hB.mono HB.out.size))
          clear hB HB
          go_wp2_with fail
          go_ret
          exact ⟨rfl, HB3.out⟩

end Go.Proofs.Ytaeooldpmlakhaa
