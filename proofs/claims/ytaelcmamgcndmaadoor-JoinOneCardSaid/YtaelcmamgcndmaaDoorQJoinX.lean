/- The law's own wakes of layer 7. -/
import Derived.Test.YtaelcmamgcndmaaDoorQJoinW
import Derived.Test.YtaelcmamgcndmaaDoorQJoinG
import Derived.Test.YtaelcmamgcndmaaDoorQJoinL
namespace Go.Proofs.YtaelcmamgcndmaaDoor
open Go.RowKit Go.Shelf
set_option linter.unusedVariables false
set_option linter.unusedSimpArgs false

theorem two_b01 (g : Nat) : beyondV (twoL g) 0 1 = (1, 0) := by rfl
theorem two_b11 (g : Nat) : beyondV (twoL g) 1 1 = (-1, 0) := by rfl
theorem two_h11 (g : Nat) : thereV (twoL g) 1 1 = true := by rfl
theorem two_h12 (g : Nat) : thereV (twoL g) 1 2 = false := by rfl
theorem two_s (g : Nat) : stepsV (twoL g) 0 1 = [(1, 0, 1)] := by rfl
theorem two_n (g : Nat) : nearL (twoL g) 0 = [1] := by rfl
theorem two_j (g : Nat) : joinedL (twoL g) = true := by rfl
theorem two_bad (g : Nat) : joinedL (twoBad g) = false := by rfl
theorem two_a2 (g : Nat) : allL (twoL g) 2 = [] := by unfold allL; rw [show hasSec (twoL g) 2 = false from rfl]; rfl
theorem two_a1 (g : Nat) : allL (twoL g) 1 = [0, 1] := by
  unfold allL
  rw [show hasSec (twoL g) 1 = true from rfl, if_pos rfl]
  have h10 : nearV (twoL g) (1 : Nat) (0 : Nat) = true := rfl
  show allOf (fun a b : Nat => nearV (twoL g) a b) 2 1 = [0, 1]
  rw [allOf_eq (f := fun i => decide (i < 2)) rfl (fun a b _ hb _ _ => decide_eq_true hb) (fun i hi => ?_)]
  · rfl
  · have hi' : i < 2 := of_decide_eq_true hi
    have : i = 0 ∨ i = 1 := by omega
    rcases this with rfl | rfl
    · exact Reach.next (a := 1) Reach.self (by decide) (by decide) h10
    · exact Reach.self

set_option maxRecDepth 100000 in
set_option maxHeartbeats 8000000 in
theorem wakesJ_P {P : World → Prop} {w : World} (hP : Closed P) (hT : ∀ w, P w → Shapes w) (h : P w) : Calls Tryd.prog 9 #[] w fun e w' => e = .returned (.bool true) ∧ P w' := by
  go_enter Tryd.func9, Tryd.ntmps9
  go_wp2_with fail
  refine (two_any _).mono ?_
  rintro e w1 ⟨rfl, hS1, hB1⟩
  obtain ⟨g1, hg1⟩ : ∃ g1, w.heap.size + 1 + 1 = g1 := ⟨_, rfl⟩
  rw [hg1] at hS1 ⊢
  obtain ⟨l1, HL1⟩ : ∃ l, Hid (twoL g1 = l) := ⟨_, Lib.hid rfl⟩
  rw [HL1.out] at hS1 ⊢
  go_wp2_with fail
  refine (two_any _).mono ?_
  rintro e w2 ⟨rfl, hS2, hB2⟩
  have hg2' : ∀ o, (w1.alloc o).heap.size + 1 + 1 = w1.heap.size + 1 + 1 + 1 := fun o => by simp
  rw [hg2'] at hS2 ⊢
  obtain ⟨g2, hg2⟩ : ∃ g2, w1.heap.size + 1 + 1 + 1 = g2 := ⟨_, rfl⟩
  rw [hg2] at hS2 ⊢
  have hl1 := hS1.lt
  have hb1 := (Whole.new w1 29 l1.cells).below hB2 (by simp)
  have hS1b := (hS1.alloc (.cells l1.cells.toArray 29)).below hB2 (by simp; omega)
  have hl2 := hS2.lt
  have hs1 := hB1.size
  have hPw : Below w.heap.size w w2 := (hB1.alloc hs1 _).trans (hB2.mono (by simp; omega))
  have hbx2 := Whole.new w2 29 (twoL g2).cells
  have hS2a := hS2.alloc (.cells (twoL g2).cells.toArray 29)
  have z12 : Whole (w2.alloc (.cells (twoL g2).cells.toArray 29)) g2 48 [.int .u8 1, .int .i64 (-1), .int .i64 0, .int .i64 1, .int .i64 0, .int .i64 (-1), .int .i64 0, .int .i64 (-1), .int .i64 0, .int .i64 0, .int .i64 0, .int .u8 1, .int .i64 0, .int .i64 1, .int .i64 (-1), .int .i64 0, .int .i64 (-1), .int .i64 0, .int .i64 (-1), .int .i64 0, .int .i64 0, .int .i64 0] := hS2a
  have y0 : (w2.alloc (.cells (twoL g2).cells.toArray 29)).cell? ⟨w2.heap.size, 0, none⟩ = some (.slice (some ⟨g2, 0, none⟩) 2 2) := hbx2.cell_at 0 rfl
  have f12 := z12.frozen 12
  have f13 := z12.frozen 13
  have c12 := z12.cell_at 12 rfl
  have c13 := z12.cell_at 13 rfl
  have hq0 := (z12.set 12 (.int .i64 0)).set 13 (.int .i64 0)
  have hbx3 := (hbx2.far (p := ⟨g2, 12, none⟩) (by show w2.heap.size ≠ g2; omega) (.int .i64 0)).far (p := ⟨g2, 13, none⟩) (by show w2.heap.size ≠ g2; omega) (.int .i64 0)
  have hb13 := ((hb1.alloc (.cells (twoL g2).cells.toArray 29)).far (p := ⟨g2, 12, none⟩) (by show w1.heap.size ≠ g2; omega) (.int .i64 0)).far (p := ⟨g2, 13, none⟩) (by show w1.heap.size ≠ g2; omega) (.int .i64 0)
  have hS13 := ((hS1b.alloc (.cells (twoL g2).cells.toArray 29)).far (p := ⟨g2, 12, none⟩) (by show g1 ≠ g2; omega) (.int .i64 0)).far (p := ⟨g2, 13, none⟩) (by show g1 ≠ g2; omega) (.int .i64 0)
  have hP3 := hP _ _ h (((hPw.alloc hPw.size (.cells (twoL g2).cells.toArray 29)).setCell (p := ⟨g2, 12, none⟩) (by show w.heap.size ≤ g2; omega) (.int .i64 0)).setCell (p := ⟨g2, 13, none⟩) (by show w.heap.size ≤ g2; omega) (.int .i64 0))
  obtain ⟨Q, HQ, HQp, HQ1, HQ2, HLa, HLb, hq⟩ : ∃ Q : World → Prop, Hid (Closed Q) ∧ Hid (∀ W, Q W → P W) ∧ Hid (∀ W, Q W → Whole W w1.heap.size 29 l1.cells) ∧ Hid (∀ W, Q W → Whole W w2.heap.size 29 (twoBad g2).cells) ∧ Hid (∀ W, Q W → Lies l1 W) ∧ Hid (∀ W, Q W → Lies (twoBad g2) W) ∧
      Q (((w2.alloc (.cells (twoL g2).cells.toArray 29)).setCell ⟨g2, 12, none⟩ (.int .i64 0)).setCell ⟨g2, 13, none⟩ (.int .i64 0)) :=
    ⟨fun W => (((P W ∧ Whole W w1.heap.size 29 l1.cells) ∧ Whole W w2.heap.size 29 (twoBad g2).cells) ∧ Whole W g1 48 (l1.secs.flatMap Sec.cells)) ∧ Whole W g2 48 ((twoBad g2).secs.flatMap Sec.cells),
      Lib.hid ((((hP.and (Closed.whole _ _ _)).and (Closed.whole _ _ _)).and (Closed.whole _ _ _)).and (Closed.whole _ _ _)), Lib.hid fun _ h => h.1.1.1.1, Lib.hid fun _ h => h.1.1.1.2, Lib.hid fun _ h => h.1.1.2, Lib.hid (fun _ h => by rw [← HL1.out]; exact two_lies (by rw [HL1.out]; exact h.1.2)), Lib.hid fun _ h => bad_lies h.2, ⟨⟨⟨hP3, hb13⟩, hbx3⟩, hS13⟩, hq0⟩
  have HT := Lib.hid (fun W hW => hT W (HQp.out W hW))
  clear hP hT h hS1 hB1 hS2 hB2 hb1 hS1b hPw hbx2 hS2a z12 hq0 hbx3 hb13 hS13 hP3 hl1 hl2 hs1 hg1 hg2 hg2'
  have KS := Lib.hid (fun W hW => steps_P (P := Q) (w := W) HQ.out HT.out HLa.out 0 1 (ss := [(1, 0, 1)]) (m := 1) (by rw [← HL1.out]; exact two_s g1) rfl hW)
  have m0 := HQ1.out _ hq
  have x0 := m0.cell_at 0 rfl
  have x1 := m0.cell_at 1 rfl
  have x2 := m0.cell_at 2 rfl
  have x3 := m0.cell_at 3 rfl
  have x4 := m0.cell_at 4 rfl
  have x5 := m0.cell_at 5 rfl
  have x6 := m0.cell_at 6 rfl
  have x7 := m0.cell_at 7 rfl
  have x8 := m0.cell_at 8 rfl
  have x9 := m0.cell_at 9 rfl
  have x10 := m0.cell_at 10 rfl
  clear m0
  go_wp2_with fail
  refine (KS.out _ hq).mono ?_
  clear x0 x1 x2 x3 x4 x5 x6 x7 x8 x9 x10 hq KS y0 f12 f13 c12 c13
  rintro e w3 ⟨A, cap, rfl, hcap, hrow, hq0⟩
  obtain ⟨sb, so, rfl, _, hc⟩ := hrow (by simp)
  obtain ⟨Q2, HQ2c, HQ2p, HQ2s, hq⟩ : ∃ Q2 : World → Prop, Hid (Closed Q2) ∧ Hid (∀ W, Q2 W → Q W) ∧ Hid (∀ W, Q2 W → W.cell? ⟨sb, so, none⟩ = some (.int .i64 1) ∧ W.cell? ⟨sb, so + 1, none⟩ = some (.int .i64 0) ∧ W.cell? ⟨sb, so + 2, none⟩ = some (.int .i64 1)) ∧ Q2 w3 :=
    ⟨fun W => Q W ∧ (W.cell? ⟨sb, so, none⟩ = some (.int .i64 1) ∧ (W.cell? ⟨sb, so + 1, none⟩ = some (.int .i64 0) ∧ W.cell? ⟨sb, so + 2, none⟩ = some (.int .i64 1))), Lib.hid (HQ.out.and ((Closed.cell _ _).and ((Closed.cell _ _).and (Closed.cell _ _)))), Lib.hid fun _ h => h.1, Lib.hid fun _ h => h.2, ⟨hq0, hc 0 _ rfl, hc 1 _ rfl, hc 2 _ rfl⟩⟩
  have KN : Hid (∀ W, Q2 W → Calls Tryd.prog 19 #[l1.val, .int .i64 0] W fun e w' => ∃ x : Option Addr × Nat, e = .returned (.slice x.1 1 x.2) ∧ Row w' w'.heap.size x.1 (nums .i64 [1]) ∧ Below W.heap.size W w') := Lib.hid fun W hW =>
    (near_any (HT.out W (HQ2p.out W hW)) (HLa.out W (HQ2p.out W hW)) 0).mono fun e w' ⟨v, he, hown, hB⟩ => by
      rw [← HL1.out, two_n] at hown
      obtain ⟨A, c, rfl, hr, _⟩ := owns_slice hown
      exact ⟨(A, c), he, hr, hB⟩
  have KA : Hid (∀ W, Q2 W → Calls Tryd.prog 21 #[l1.val, .int .i64 1] W fun e w' => ∃ x : Option Addr × Nat, e = .returned (.slice x.1 2 x.2) ∧ Row w' w'.heap.size x.1 (nums .i64 [0, 1]) ∧ Below W.heap.size W w') := Lib.hid fun W hW =>
    (all_any (HT.out W (HQ2p.out W hW)) (HLa.out W (HQ2p.out W hW)) (by rw [← HL1.out]; show (2 : Nat) ≤ 100; omega) 1).mono fun e w' ⟨v, he, hown, hB⟩ => by
      rw [← HL1.out, two_a1] at hown
      obtain ⟨A, c, rfl, hr, _⟩ := owns_slice hown
      exact ⟨(A, c), he, hr, hB⟩
  clear hc hrow hcap hq0
  go_wp2_with fail
  have HBS : Hid (∀ W, Below w3.heap.size w3 W → Q2 W) := Lib.hid (fun W hB => HQ2c.out _ _ hq hB)
  clear hq
  refine region_mix (Below w3.heap.size w3) [(0, false), (2, false), (1, true), (3, true), (4, false), (5, false)] (by kernel_rfl) (by kernel_rfl) (Below w3.heap.size w3) ⟨Closed.below w3, fun _ h => h⟩ (Below.refl _ _).drew ?_
  simp only [pickOps, List.getElem?_cons_zero, List.getElem?_cons_succ]
  repeat (first | (refine mix_skip (by rfl) ?_; simp only [Act.put, List.setIfInBounds_toArray, List.set_cons_zero, List.set_cons_succ]) | (refine mix_read _ (by rfl) (fun W hW => by (have hW := HBS.out W hW; have hWq := HQ2p.out _ hW; have m0 := HQ1.out _ hWq; have x0 := m0.cell_at 0 rfl; have x1 := m0.cell_at 1 rfl; have x2 := m0.cell_at 2 rfl; have x3 := m0.cell_at 3 rfl; have x4 := m0.cell_at 4 rfl; have x5 := m0.cell_at 5 rfl; have x6 := m0.cell_at 6 rfl; have x7 := m0.cell_at 7 rfl; have x8 := m0.cell_at 8 rfl; have x9 := m0.cell_at 9 rfl; have x10 := m0.cell_at 10 rfl; clear m0 hWq; go_simp; first | done | with_reducible rfl)) ?_; simp only [Act.put, List.setIfInBounds_toArray, List.set_cons_zero, List.set_cons_succ]))
  refine mix_meet (fun x : Option Addr × Nat => .slice x.1 1 x.2) (fun x W => Row W W.heap.size x.1 (nums .i64 [1])) ⟨Closed.below w3, fun _ h => h⟩ (fun x W W' h hB => h.on hB) _ _ (by rfl) (fun W hW => by (have hW := HBS.out W hW; have hWq := HQ2p.out _ hW; have m0 := HQ1.out _ hWq; have x0 := m0.cell_at 0 rfl; have x1 := m0.cell_at 1 rfl; have x2 := m0.cell_at 2 rfl; have x3 := m0.cell_at 3 rfl; have x4 := m0.cell_at 4 rfl; have x5 := m0.cell_at 5 rfl; have x6 := m0.cell_at 6 rfl; have x7 := m0.cell_at 7 rfl; have x8 := m0.cell_at 8 rfl; have x9 := m0.cell_at 9 rfl; have x10 := m0.cell_at 10 rfl; clear m0 hWq; go_simp; first | done | rfl)) (fun W hW => KN.out W (HBS.out W hW)) (fun x1 => ?_)
  simp only [Act.put, List.setIfInBounds_toArray, List.set_cons_zero, List.set_cons_succ]
  refine mix_meet (fun x : Option Addr × Nat => .slice x.1 2 x.2) (fun x W => Row W W.heap.size x.1 (nums .i64 [0, 1])) ⟨(Closed.below w3).and (fun _ _ h hB => h.on hB), fun _ h => h.1⟩ (fun x W W' h hB => h.on hB) _ _ (by rfl) (fun W hW => by (have hW := HBS.out W hW.1; have hWq := HQ2p.out _ hW; have m0 := HQ1.out _ hWq; have x0 := m0.cell_at 0 rfl; have x1 := m0.cell_at 1 rfl; have x2 := m0.cell_at 2 rfl; have x3 := m0.cell_at 3 rfl; have x4 := m0.cell_at 4 rfl; have x5 := m0.cell_at 5 rfl; have x6 := m0.cell_at 6 rfl; have x7 := m0.cell_at 7 rfl; have x8 := m0.cell_at 8 rfl; have x9 := m0.cell_at 9 rfl; have x10 := m0.cell_at 10 rfl; clear m0 hWq; go_simp; first | done | rfl)) (fun W hW => KA.out W (HBS.out W hW.1)) (fun x2 => ?_)
  simp only [Act.put, List.setIfInBounds_toArray, List.set_cons_zero, List.set_cons_succ]
  repeat (first | (refine mix_skip (by rfl) ?_; simp only [Act.put, List.setIfInBounds_toArray, List.set_cons_zero, List.set_cons_succ]) | (refine mix_read _ (by rfl) (fun W hW => by (have hW := HBS.out W hW; have hWq := HQ2p.out _ hW; have m0 := HQ1.out _ hWq; have x0 := m0.cell_at 0 rfl; have x1 := m0.cell_at 1 rfl; have x2 := m0.cell_at 2 rfl; have x3 := m0.cell_at 3 rfl; have x4 := m0.cell_at 4 rfl; have x5 := m0.cell_at 5 rfl; have x6 := m0.cell_at 6 rfl; have x7 := m0.cell_at 7 rfl; have x8 := m0.cell_at 8 rfl; have x9 := m0.cell_at 9 rfl; have x10 := m0.cell_at 10 rfl; clear m0 hWq; go_simp; first | done | with_reducible rfl)) ?_; simp only [Act.put, List.setIfInBounds_toArray, List.set_cons_zero, List.set_cons_succ]))
  refine mix_nil (fun W hW => ?_)
  obtain ⟨⟨hB, hr1⟩, hr2⟩ := hW
  obtain ⟨A1, c1⟩ := x1
  obtain ⟨A2, c2⟩ := x2
  simp only at hr1 hr2
  obtain ⟨nb, no, rfl, _, hc1⟩ := hr1 (by simp [nums])
  obtain ⟨ab, ao, rfl, _, hc2⟩ := hr2 (by simp [nums])
  have hq2 := HBS.out _ hB
  obtain ⟨Q3, HQ3c, HQ3p, HQ3q, HCL, hq⟩ : ∃ Q3 : World → Prop, Hid (Closed Q3) ∧ Hid (∀ W, Q3 W → P W) ∧ Hid (∀ W, Q3 W → Q W) ∧ Hid (∀ W, Q3 W → W.cell? ⟨sb, so, none⟩ = some (.int .i64 1) ∧ W.cell? ⟨sb, so + 1, none⟩ = some (.int .i64 0) ∧ W.cell? ⟨sb, so + 2, none⟩ = some (.int .i64 1) ∧ W.cell? ⟨nb, no, none⟩ = some (.int .i64 1) ∧ W.cell? ⟨ab, ao, none⟩ = some (.int .i64 0)) ∧ Q3 W :=
    ⟨fun W => Q2 W ∧ (W.cell? ⟨nb, no, none⟩ = some (.int .i64 1) ∧ W.cell? ⟨ab, ao, none⟩ = some (.int .i64 0)), Lib.hid (HQ2c.out.and ((Closed.cell _ _).and (Closed.cell _ _))), Lib.hid fun _ h => HQp.out _ (HQ2p.out _ h.1), Lib.hid fun _ h => HQ2p.out _ h.1, Lib.hid (fun _ h => ⟨(HQ2s.out _ h.1).1, (HQ2s.out _ h.1).2.1, (HQ2s.out _ h.1).2.2, h.2.1, h.2.2⟩), ⟨hq2, hc1 0 _ rfl, hc2 0 _ rfl⟩⟩
  have HQ1b := Lib.hid (fun W hW => HQ1.out W (HQ3q.out W hW))
  have HQ2b := Lib.hid (fun W hW => HQ2.out W (HQ3q.out W hW))
  have HT3 := Lib.hid (fun W hW => HT.out W (HQ3q.out W hW))
  have HL3 := Lib.hid (fun W hW => HLa.out W (HQ3q.out W hW))
  have HB3 := Lib.hid (fun W hW => HLb.out W (HQ3q.out W hW))
  have K1 := Lib.hid (fun W hW => beyond_P (P := Q3) (w := W) HQ3c.out HT3.out HL3.out 0 1 (q := (1, 0)) (by rw [← HL1.out]; exact two_b01 g1) hW)
  have K2 := Lib.hid (fun W hW => beyond_P (P := Q3) (w := W) HQ3c.out HT3.out HL3.out 1 1 (q := (-1, 0)) (by rw [← HL1.out]; exact two_b11 g1) hW)
  have K3 := Lib.hid (fun W hW => has_P (P := Q3) (w := W) HQ3c.out HT3.out HL3.out 1 1 (r := true) (by rw [← HL1.out]; exact two_h11 g1) hW)
  have K4 := Lib.hid (fun W hW => has_P (P := Q3) (w := W) HQ3c.out HT3.out HL3.out 1 2 (r := false) (by rw [← HL1.out]; exact two_h12 g1) hW)
  have K5 := Lib.hid (fun W hW => keepR HQ3c.out (joinedL_any (w := W) (HT3.out W hW) (HL3.out W hW) (r := true) (by rw [← HL1.out]; exact two_j g1)) hW)
  have K6 := Lib.hid (fun W hW => keepR HQ3c.out (joinedL_any (w := W) (HT3.out W hW) (HB3.out W hW) (r := false) (two_bad g2)) hW)
  have K7 : Hid (∀ W, Q3 W → Calls Tryd.prog 21 #[l1.val, .int .i64 2] W fun e w' => (∃ A c, e = .returned (.slice A 0 c)) ∧ Q3 w') := Lib.hid fun W hW =>
    (all_any (HT3.out W hW) (HL3.out W hW) (by rw [← HL1.out]; show (2 : Nat) ≤ 100; omega) 2).mono fun e w' ⟨v, he, hown, hB⟩ => by
      rw [← HL1.out, two_a2] at hown
      obtain ⟨A, c, rfl, hr, _⟩ := owns_slice hown
      exact ⟨⟨A, c, he⟩, HQ3c.out _ _ hW hB⟩
  clear hc1 hc2 hr1 hr2 hB hq2 HBS KN KA
  have m0 := HQ1b.out _ hq
  have x0 := m0.cell_at 0 rfl
  have x1 := m0.cell_at 1 rfl
  have x2 := m0.cell_at 2 rfl
  have x3 := m0.cell_at 3 rfl
  have x4 := m0.cell_at 4 rfl
  have x5 := m0.cell_at 5 rfl
  have x6 := m0.cell_at 6 rfl
  have x7 := m0.cell_at 7 rfl
  have x8 := m0.cell_at 8 rfl
  have x9 := m0.cell_at 9 rfl
  have x10 := m0.cell_at 10 rfl
  clear m0
  go_wp2_with fail
  refine (K1.out _ hq).mono ?_
  clear x0 x1 x2 x3 x4 x5 x6 x7 x8 x9 x10 hq K1
  rintro e w4 ⟨rfl, hq⟩
  have m0 := HQ1b.out _ hq
  have x0 := m0.cell_at 0 rfl
  have x1 := m0.cell_at 1 rfl
  have x2 := m0.cell_at 2 rfl
  have x3 := m0.cell_at 3 rfl
  have x4 := m0.cell_at 4 rfl
  have x5 := m0.cell_at 5 rfl
  have x6 := m0.cell_at 6 rfl
  have x7 := m0.cell_at 7 rfl
  have x8 := m0.cell_at 8 rfl
  have x9 := m0.cell_at 9 rfl
  have x10 := m0.cell_at 10 rfl
  clear m0
  go_wp2_with fail
  refine (K2.out _ hq).mono ?_
  clear x0 x1 x2 x3 x4 x5 x6 x7 x8 x9 x10 hq K2
  rintro e w5 ⟨rfl, hq⟩
  have m0 := HQ1b.out _ hq
  have x0 := m0.cell_at 0 rfl
  have x1 := m0.cell_at 1 rfl
  have x2 := m0.cell_at 2 rfl
  have x3 := m0.cell_at 3 rfl
  have x4 := m0.cell_at 4 rfl
  have x5 := m0.cell_at 5 rfl
  have x6 := m0.cell_at 6 rfl
  have x7 := m0.cell_at 7 rfl
  have x8 := m0.cell_at 8 rfl
  have x9 := m0.cell_at 9 rfl
  have x10 := m0.cell_at 10 rfl
  clear m0
  go_wp2_with fail
  refine (K3.out _ hq).mono ?_
  clear x0 x1 x2 x3 x4 x5 x6 x7 x8 x9 x10 hq K3
  rintro e w6 ⟨rfl, hq⟩
  have m0 := HQ1b.out _ hq
  have x0 := m0.cell_at 0 rfl
  have x1 := m0.cell_at 1 rfl
  have x2 := m0.cell_at 2 rfl
  have x3 := m0.cell_at 3 rfl
  have x4 := m0.cell_at 4 rfl
  have x5 := m0.cell_at 5 rfl
  have x6 := m0.cell_at 6 rfl
  have x7 := m0.cell_at 7 rfl
  have x8 := m0.cell_at 8 rfl
  have x9 := m0.cell_at 9 rfl
  have x10 := m0.cell_at 10 rfl
  clear m0
  go_wp2_with fail
  refine (K4.out _ hq).mono ?_
  clear x0 x1 x2 x3 x4 x5 x6 x7 x8 x9 x10 hq K4
  rintro e w7 ⟨rfl, hq⟩
  have m0 := HQ1b.out _ hq
  have x0 := m0.cell_at 0 rfl
  have x1 := m0.cell_at 1 rfl
  have x2 := m0.cell_at 2 rfl
  have x3 := m0.cell_at 3 rfl
  have x4 := m0.cell_at 4 rfl
  have x5 := m0.cell_at 5 rfl
  have x6 := m0.cell_at 6 rfl
  have x7 := m0.cell_at 7 rfl
  have x8 := m0.cell_at 8 rfl
  have x9 := m0.cell_at 9 rfl
  have x10 := m0.cell_at 10 rfl
  clear m0
  obtain ⟨s0, s1, s2, n0, a0⟩ := HCL.out _ hq
  go_wp2_with fail
  refine (K5.out _ hq).mono ?_
  clear x0 x1 x2 x3 x4 x5 x6 x7 x8 x9 x10 hq K5 s0 s1 s2 n0 a0
  rintro e w8 ⟨rfl, hq⟩
  have y0 : w8.cell? ⟨w2.heap.size, 0, none⟩ = _ := (HQ2b.out _ hq).cell_at 0 rfl
  have y1 := (HQ2b.out _ hq).cell_at 1 rfl
  have y2 := (HQ2b.out _ hq).cell_at 2 rfl
  have y3 := (HQ2b.out _ hq).cell_at 3 rfl
  have y4 := (HQ2b.out _ hq).cell_at 4 rfl
  have y5 := (HQ2b.out _ hq).cell_at 5 rfl
  have y6 := (HQ2b.out _ hq).cell_at 6 rfl
  have y7 := (HQ2b.out _ hq).cell_at 7 rfl
  have y8 := (HQ2b.out _ hq).cell_at 8 rfl
  have y9 := (HQ2b.out _ hq).cell_at 9 rfl
  have y10 := (HQ2b.out _ hq).cell_at 10 rfl
  go_wp2_with fail
  refine (K6.out _ hq).mono ?_
  clear y0 y1 y2 y3 y4 y5 y6 y7 y8 y9 y10 hq K6
  rintro e w9 ⟨rfl, hq⟩
  have m0 := HQ1b.out _ hq
  have x0 := m0.cell_at 0 rfl
  have x1 := m0.cell_at 1 rfl
  have x2 := m0.cell_at 2 rfl
  have x3 := m0.cell_at 3 rfl
  have x4 := m0.cell_at 4 rfl
  have x5 := m0.cell_at 5 rfl
  have x6 := m0.cell_at 6 rfl
  have x7 := m0.cell_at 7 rfl
  have x8 := m0.cell_at 8 rfl
  have x9 := m0.cell_at 9 rfl
  have x10 := m0.cell_at 10 rfl
  clear m0
  go_wp2_with fail
  refine (K7.out _ hq).mono ?_
  clear x0 x1 x2 x3 x4 x5 x6 x7 x8 x9 x10 hq K7
  rintro e w10 ⟨⟨A7, c7, rfl⟩, hq⟩
  go_wp2_with fail
  go_ret
  exact ⟨rfl, HQ3p.out _ hq⟩
end Go.Proofs.YtaelcmamgcndmaaDoor
