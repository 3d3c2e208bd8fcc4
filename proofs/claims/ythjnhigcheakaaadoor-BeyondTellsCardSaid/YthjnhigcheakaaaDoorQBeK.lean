/- What the document says of a line, of layer 10 (wakes). -/
import Derived.Test.YthjnhigcheakaaaDoorQBeL
namespace Go.Proofs.YthjnhigcheakaaaDoor
open Go.RowKit Go.Shelf
set_option linter.unusedVariables false
set_option linter.unusedSimpArgs false

set_option maxRecDepth 100000 in
set_option maxHeartbeats 8000000 in
theorem wakes10_P {P : World → Prop} {w : World} (hP : Closed P) (hT : ∀ w, P w → Shapes w) (h : P w) : Calls Tryd.prog 9 #[] w fun e w' => e = .returned (.bool true) ∧ P w' := by
  have HP := Lib.hid hP
  have HT := Lib.hid hT
  have hp := Lib.hid h
  clear hP hT h
  go_enter Tryd.func9, Tryd.ntmps9
  go_wp2_with fail
  refine (line10_any w rfl).mono ?_
  rintro e w1 ⟨rfl, hL1, hB1, hs1⟩
  obtain ⟨s, hs⟩ : ∃ s, w.heap.size = s := ⟨_, rfl⟩
  rw [hs] at hL1 hs1 ⊢
  obtain ⟨l, HLE⟩ : ∃ l, Hid (line10 s = l) := ⟨_, Lib.hid rfl⟩
  have hp1 := HP.out _ _ hp.out hB1
  obtain ⟨g, hg⟩ : ∃ g, w1.heap.size = g := ⟨_, rfl⟩
  obtain ⟨W1, hW1⟩ : ∃ W1, w1.alloc (.cells #[.slice l.As l.secs.length l.cs, .slice l.Ag l.sigs.length l.cg, .slice l.Ae l.exits.length l.ce, .slice l.Af l.flanks.length l.cf, .int .i64 l.t0, .int .i64 l.t1, .int .i64 l.t2, .int .i64 l.t3, .int .i64 l.t4, .int .i64 l.t5, .int .i64 l.t6] 29) = W1 := ⟨_, rfl⟩
  obtain ⟨Q, HQ, HQp, HQl, HLL, hq⟩ : ∃ Q : World → Prop, Hid (Closed Q) ∧ Hid (∀ W, Q W → P W) ∧ Hid (∀ W, Q W → Whole W g 29 l.cells) ∧ Hid (∀ W, Q W → Lies l W) ∧ Q W1 :=
    ⟨fun W => (P W ∧ Whole W g 29 l.cells) ∧ LineAt10 s W, Lib.hid ((HP.out.and (Closed.whole _ _ _)).and (LineAt10.closed s)), Lib.hid fun _ h => h.1.1, Lib.hid fun _ h => h.1.2, Lib.hid (fun W h => by rw [← HLE.out]; exact h.2.lies), by
      rw [← hW1]
      exact ⟨⟨HP.out _ _ hp1 (below1 _ _), Whole.new_at _ _ l.cells _ hg.symm⟩, LineAt10.closed s _ _ hL1 (below1 _ _)⟩⟩
  have HTL : Hid (∀ W, Q W → Shapes W ∧ Lies l W) := Lib.hid fun W hW => ⟨HT.out _ (HQp.out _ hW), HLL.out _ hW⟩
  have HL := Lib.hid (And.intro hg hW1)
  rw [HLE.out]
  clear hL1 hB1 hs1 hs hp1 hp hg hW1
  go_upto_region 2 with (fail)
  try rw [HL.out.2]
  try rw [HL.out.1]
  clear HL
  have KP1 : Hid (∀ W, Q W → Calls Tryd.prog 10 #[l.val, stpV 1 2 0] W fun e w' => e = .returned (.tuple #[.int .i64 1, .int .i64 1, .bool true]) ∧ Q w') := Lib.hid fun W hW => keepR HQ.out (pointB_any (w := W) (HTL.out W hW).1 (HTL.out W hW).2 1 2 0 (r := (1, 1, true)) (by rw [← HLE.out]; exact l10_p1 s)) hW
  have KP2 : Hid (∀ W, Q W → Calls Tryd.prog 10 #[l.val, stpV 0 0 1] W fun e w' => e = .returned (.tuple #[.int .i64 0, .int .i64 0, .bool false]) ∧ Q w') := Lib.hid fun W hW => keepR HQ.out (pointB_any (w := W) (HTL.out W hW).1 (HTL.out W hW).2 0 0 1 (r := (0, 0, false)) (by rw [← HLE.out]; exact l10_p2 s)) hW
  have KW1 : Hid (∀ W, Q W → Calls Tryd.prog 13 #[l.val, stpV 1 0 2, .int .i64 4] W fun e w' => ∃ x : Option Addr × Nat, e = .returned (.slice x.1 1 x.2) ∧ Row w' w'.heap.size x.1 ([.int .i64 1, .int .i64 1, .int .i64 4]) ∧ Below W.heap.size W w') := Lib.hid fun W hW =>
    (wants_any (HTL.out W hW).1 (HTL.out W hW).2 (by rw [← HLE.out]; exact l10_f s) 1 0 2 4 (ns := [(1, 1, 4)]) (by rw [← HLE.out]; exact l10_w1 s)).mono fun e w' ⟨v, he, hown, hB⟩ => by
      obtain ⟨A, c, rfl, hr⟩ := owns_read hown
      exact ⟨(A, c), he, hr, hB⟩
  have KW2 : Hid (∀ W, Q W → Calls Tryd.prog 13 #[l.val, stpV 2 1 0, .int .i64 7] W fun e w' => ∃ x : Option Addr × Nat, e = .returned (.slice x.1 1 x.2) ∧ Row w' w'.heap.size x.1 ([.int .i64 1, .int .i64 1, .int .i64 7]) ∧ Below W.heap.size W w') := Lib.hid fun W hW =>
    (wants_any (HTL.out W hW).1 (HTL.out W hW).2 (by rw [← HLE.out]; exact l10_f s) 2 1 0 7 (ns := [(1, 1, 7)]) (by rw [← HLE.out]; exact l10_w2 s)).mono fun e w' ⟨v, he, hown, hB⟩ => by
      obtain ⟨A, c, rfl, hr⟩ := owns_read hown
      exact ⟨(A, c), he, hr, hB⟩
  have m0 := HQl.out _ hq
  have x0 := m0.cell_at 0 rfl
  have x1 := m0.cell_at 1 rfl
  have x2 := m0.cell_at 2 rfl
  have x3 := m0.cell_at 3 rfl
  have x4 := m0.cell_at 4 rfl
  have x5 := m0.cell_at 5 rfl
  have x6 := m0.cell_at 6 rfl
  have x7 := m0.cell_at 7 rfl
  have x8 := m0.cell_at 8 rfl
  have x9 := m0.cell_at 9 rfl
  have x10 := m0.cell_at 10 rfl
  clear m0
  go_wp2_with fail
  refine (KP1.out _ hq).mono ?_
  clear hq KP1 x0 x1 x2 x3 x4 x5 x6 x7 x8 x9 x10
  rintro e w2 ⟨rfl, hq⟩
  have m0 := HQl.out _ hq
  have x0 := m0.cell_at 0 rfl
  have x1 := m0.cell_at 1 rfl
  have x2 := m0.cell_at 2 rfl
  have x3 := m0.cell_at 3 rfl
  have x4 := m0.cell_at 4 rfl
  have x5 := m0.cell_at 5 rfl
  have x6 := m0.cell_at 6 rfl
  have x7 := m0.cell_at 7 rfl
  have x8 := m0.cell_at 8 rfl
  have x9 := m0.cell_at 9 rfl
  have x10 := m0.cell_at 10 rfl
  clear m0
  go_wp2_with fail
  refine (KP2.out _ hq).mono ?_
  clear hq KP2 x0 x1 x2 x3 x4 x5 x6 x7 x8 x9 x10
  rintro e w3 ⟨rfl, hq⟩
  go_upto_region 4 with (fail)
  have HBS : Hid (∀ W, Below w3.heap.size w3 W → Q W) := Lib.hid (fun W hB => HQ.out _ _ hq hB)
  clear hq
  refine region_mix (Below w3.heap.size w3) [(0, false), (1, false), (3, false), (4, false), (2, true), (5, true), (6, false), (7, false)] (by kernel_rfl) (by kernel_rfl) (Below w3.heap.size w3) ⟨Closed.below w3, fun _ h => h⟩ (Below.refl _ _).drew ?_
  simp only [pickOps, List.getElem?_cons_zero, List.getElem?_cons_succ]
  repeat (first | (refine mix_skip (by rfl) ?_; simp only [Act.put, List.setIfInBounds_toArray, List.set_cons_zero, List.set_cons_succ]) | (refine mix_read _ (by rfl) (fun W hW => by (have hW := HBS.out W hW; have m0 := HQl.out _ hW; have x0 := m0.cell_at 0 rfl; have x1 := m0.cell_at 1 rfl; have x2 := m0.cell_at 2 rfl; have x3 := m0.cell_at 3 rfl; have x4 := m0.cell_at 4 rfl; have x5 := m0.cell_at 5 rfl; have x6 := m0.cell_at 6 rfl; have x7 := m0.cell_at 7 rfl; have x8 := m0.cell_at 8 rfl; have x9 := m0.cell_at 9 rfl; have x10 := m0.cell_at 10 rfl; clear m0; go_simp; first | done | with_reducible rfl)) ?_; simp only [Act.put, List.setIfInBounds_toArray, List.set_cons_zero, List.set_cons_succ]))
  refine mix_meet (fun x : Option Addr × Nat => .slice x.1 1 x.2) (fun x W => Row W W.heap.size x.1 ([.int .i64 1, .int .i64 1, .int .i64 4])) ⟨Closed.below w3, fun _ h => h⟩ (fun x W W' h hB => h.on hB) _ _ (by rfl) (fun W hW => by (have hW := HBS.out W hW; have m0 := HQl.out _ hW; have x0 := m0.cell_at 0 rfl; have x1 := m0.cell_at 1 rfl; have x2 := m0.cell_at 2 rfl; have x3 := m0.cell_at 3 rfl; have x4 := m0.cell_at 4 rfl; have x5 := m0.cell_at 5 rfl; have x6 := m0.cell_at 6 rfl; have x7 := m0.cell_at 7 rfl; have x8 := m0.cell_at 8 rfl; have x9 := m0.cell_at 9 rfl; have x10 := m0.cell_at 10 rfl; clear m0; go_simp; first | done | rfl)) (fun W hW => KW1.out W (HBS.out W hW)) (fun x1 => ?_)
  simp only [Act.put, List.setIfInBounds_toArray, List.set_cons_zero, List.set_cons_succ]
  refine mix_meet (fun x : Option Addr × Nat => .slice x.1 1 x.2) (fun x W => Row W W.heap.size x.1 ([.int .i64 1, .int .i64 1, .int .i64 7])) ⟨(Closed.below w3).and (fun _ _ h hB => h.on hB), fun _ h => h.1⟩ (fun x W W' h hB => h.on hB) _ _ (by rfl) (fun W hW => by (have hW := HBS.out W hW.1; have m0 := HQl.out _ hW; have x0 := m0.cell_at 0 rfl; have x1 := m0.cell_at 1 rfl; have x2 := m0.cell_at 2 rfl; have x3 := m0.cell_at 3 rfl; have x4 := m0.cell_at 4 rfl; have x5 := m0.cell_at 5 rfl; have x6 := m0.cell_at 6 rfl; have x7 := m0.cell_at 7 rfl; have x8 := m0.cell_at 8 rfl; have x9 := m0.cell_at 9 rfl; have x10 := m0.cell_at 10 rfl; clear m0; go_simp; first | done | rfl)) (fun W hW => KW2.out W (HBS.out W hW.1)) (fun x2 => ?_)
  simp only [Act.put, List.setIfInBounds_toArray, List.set_cons_zero, List.set_cons_succ]
  repeat (first | (refine mix_skip (by rfl) ?_; simp only [Act.put, List.setIfInBounds_toArray, List.set_cons_zero, List.set_cons_succ]) | (refine mix_read _ (by rfl) (fun W hW => by (have hW := HBS.out W hW; have m0 := HQl.out _ hW; have x0 := m0.cell_at 0 rfl; have x1 := m0.cell_at 1 rfl; have x2 := m0.cell_at 2 rfl; have x3 := m0.cell_at 3 rfl; have x4 := m0.cell_at 4 rfl; have x5 := m0.cell_at 5 rfl; have x6 := m0.cell_at 6 rfl; have x7 := m0.cell_at 7 rfl; have x8 := m0.cell_at 8 rfl; have x9 := m0.cell_at 9 rfl; have x10 := m0.cell_at 10 rfl; clear m0; go_simp; first | done | with_reducible rfl)) ?_; simp only [Act.put, List.setIfInBounds_toArray, List.set_cons_zero, List.set_cons_succ]))
  refine mix_nil (fun W hW => ?_)
  obtain ⟨⟨hB, hr1⟩, hr2⟩ := hW
  obtain ⟨A1, c1⟩ := x1
  obtain ⟨A2, c2⟩ := x2
  simp only at hr1 hr2
  have hq0 := HBS.out _ hB
  obtain ⟨Q2, HQ2, HQ2q, HQ2r, hq2⟩ : ∃ Q2 : World → Prop, Hid (Closed Q2) ∧ Hid (∀ W, Q2 W → Q W) ∧ Hid (∀ W, Q2 W → Row W W.heap.size A1 [.int .i64 1, .int .i64 1, .int .i64 4] ∧ Row W W.heap.size A2 [.int .i64 1, .int .i64 1, .int .i64 7]) ∧ Q2 W :=
    ⟨fun W => Q W ∧ (Row W W.heap.size A1 [.int .i64 1, .int .i64 1, .int .i64 4] ∧ Row W W.heap.size A2 [.int .i64 1, .int .i64 1, .int .i64 7]), Lib.hid (HQ.out.and (fun _ _ h hB => ⟨h.1.on hB, h.2.on hB⟩)), Lib.hid fun _ h => h.1, Lib.hid fun _ h => h.2, hq0, hr1, hr2⟩
  have HTL2 := Lib.hid (fun W hW => HTL.out W (HQ2q.out W hW))
  have HQl2 := Lib.hid (fun W hW => HQl.out W (HQ2q.out W hW))
  have HQp2 := Lib.hid (fun W hW => HQp.out W (HQ2q.out W hW))
  clear hB hr1 hr2 hq0 HBS KW1 KW2 HQp HQl HQ HTL HLL HQ2q
  have HQ := HQ2; have HTL := HTL2; have HQl := HQl2; have HQp := HQp2
  have hq := hq2
  clear HQ2 HTL2 HQl2 HQp2 hq2
  have KO1 : Hid (∀ W, Q2 W → Calls Tryd.prog 18 #[l.val, .int .i64 0] W fun e w' => (∃ A c, e = .returned (.slice A 1 c)) ∧ Q2 w') := Lib.hid fun W hW =>
    (overB10_any (HTL.out W hW).1 (HTL.out W hW).2 (by rw [← HLE.out]; exact l10_x s) 0 (ss := [(2, 0, 1)]) (by rw [← HLE.out]; exact l10_o0 s)).mono fun e w' ⟨v, he, hown, hB⟩ => by
      obtain ⟨A, c, rfl, hr⟩ := owns_read hown
      exact ⟨⟨A, c, he⟩, HQ.out _ _ hW hB⟩
  have KO2 : Hid (∀ W, Q2 W → Calls Tryd.prog 18 #[l.val, .int .i64 2] W fun e w' => (∃ A c, e = .returned (.slice A 0 c)) ∧ Q2 w') := Lib.hid fun W hW =>
    (overB10_any (HTL.out W hW).1 (HTL.out W hW).2 (by rw [← HLE.out]; exact l10_x s) 2 (ss := []) (by rw [← HLE.out]; exact l10_o2 s)).mono fun e w' ⟨v, he, hown, hB⟩ => by
      obtain ⟨A, c, rfl, hr⟩ := owns_read hown
      exact ⟨⟨A, c, he⟩, HQ.out _ _ hW hB⟩
  have KN1 : Hid (∀ W, Q2 W → Calls Tryd.prog 12 #[.slice A1 1 c1, .slice (some ⟨W.heap.size, 0, none⟩) 1 1] (W.alloc (.cells #[.int .i64 1, .int .i64 1, .int .i64 4] 59)) fun e w' => e = .returned (.bool true) ∧ Q2 w') := Lib.hid fun W hW => (have hW' := HQ.out _ _ hW (below1 W (.cells #[.int .i64 1, .int .i64 1, .int .i64 4] 59)); keepR HQ.out (needsR_B (a := [(1, 1, 4)]) (b := [(1, 1, 4)]) c1 1 ((HQ2r.out _ hW').1) ((Whole.new W 59 [.int .i64 1, .int .i64 1, .int .i64 4]).row (Whole.new W 59 [.int .i64 1, .int .i64 1, .int .i64 4]).lt) (by decide) rfl) hW')
  have KN2 : Hid (∀ W, Q2 W → Calls Tryd.prog 12 #[.slice A2 1 c2, .slice (some ⟨W.heap.size, 0, none⟩) 1 1] (W.alloc (.cells #[.int .i64 1, .int .i64 1, .int .i64 7] 59)) fun e w' => e = .returned (.bool true) ∧ Q2 w') := Lib.hid fun W hW => (have hW' := HQ.out _ _ hW (below1 W (.cells #[.int .i64 1, .int .i64 1, .int .i64 7] 59)); keepR HQ.out (needsR_B (a := [(1, 1, 7)]) (b := [(1, 1, 7)]) c2 1 ((HQ2r.out _ hW').2) ((Whole.new W 59 [.int .i64 1, .int .i64 1, .int .i64 7]).row (Whole.new W 59 [.int .i64 1, .int .i64 1, .int .i64 7]).lt) (by decide) rfl) hW')
  have KC : Hid (∀ W, Q2 W → Calls Tryd.prog 15 #[l.val, stpV 1 0 2] W fun e w' => e = .returned (.int .i64 1) ∧ Q2 w') := Lib.hid fun W hW => keepR HQ.out (classB_any (w := W) (HTL.out W hW).1 (HTL.out W hW).2 1 0 2 (by rw [← HLE.out]; exact l10_c s)) hW
  have KX1 : Hid (∀ W, Q2 W → Calls Tryd.prog 20 #[l.val, stpV 1 0 2] W fun e w' => e = .returned (prtV 3 0) ∧ Q2 w') := Lib.hid fun W hW => keepR HQ.out (nextB_any (w := W) (HTL.out W hW).1 (HTL.out W hW).2 1 0 2 (r := (3, 0)) (by rw [← HLE.out]; exact l10_n1 s)) hW
  have KX2 : Hid (∀ W, Q2 W → Calls Tryd.prog 20 #[l.val, stpV 2 0 1] W fun e w' => e = .returned (prtV (-1) 0) ∧ Q2 w') := Lib.hid fun W hW => keepR HQ.out (nextB_any (w := W) (HTL.out W hW).1 (HTL.out W hW).2 2 0 1 (r := (-1, 0)) (by rw [← HLE.out]; exact l10_n2 s)) hW
  have KR0 : Hid (∀ W, Q2 W → Calls Tryd.prog 22 #[l.val, .int .i64 0] W fun e w' => e = .returned (prtV 0 1) ∧ Q2 w') := Lib.hid fun W hW => keepR HQ.out (rearB_any (w := W) (HTL.out W hW).1 (HTL.out W hW).2 0 (r := (0, 1)) (by rw [← HLE.out]; exact l10_r0 s)) hW
  have KR1 : Hid (∀ W, Q2 W → Calls Tryd.prog 22 #[l.val, .int .i64 1] W fun e w' => e = .returned (prtV (-1) 0) ∧ Q2 w') := Lib.hid fun W hW => keepR HQ.out (rearB_any (w := W) (HTL.out W hW).1 (HTL.out W hW).2 1 (r := (-1, 0)) (by rw [← HLE.out]; exact l10_r1 s)) hW
  have KM : Hid (∀ W, Q2 W → Calls Tryd.prog 24 #[.slice (some ⟨W.heap.size, 0, none⟩) 3 3] (W.alloc (.cells #[.int .i64 0, .int .i64 0, .int .i64 0, .int .i64 3, .int .i64 0, .int .i64 0, .int .i64 (-1), .int .i64 0, .int .i64 0] 31)) fun e w' => e = .returned (.int .u32 9) ∧ Q2 w') := Lib.hid fun W hW => (have hW' := HQ.out _ _ hW (below1 W (.cells #[.int .i64 0, .int .i64 0, .int .i64 0, .int .i64 3, .int .i64 0, .int .i64 0, .int .i64 (-1), .int .i64 0, .int .i64 0] 31)); keepR HQ.out (maskB_any (l := [(0, 0, 0), (3, 0, 0), (-1, 0, 0)]) 3 ((Whole.new W 31 [.int .i64 0, .int .i64 0, .int .i64 0, .int .i64 3, .int .i64 0, .int .i64 0, .int .i64 (-1), .int .i64 0, .int .i64 0]).row (Whole.new W 31 [.int .i64 0, .int .i64 0, .int .i64 0, .int .i64 3, .int .i64 0, .int .i64 0, .int .i64 (-1), .int .i64 0, .int .i64 0]).lt) (by decide) l10_m) hW')
  have KG1 : Hid (∀ W, Q2 W → Calls Tryd.prog 26 #[l.val, prtV 0 0, .slice (some ⟨W.heap.size, 0, none⟩) 3 3] (W.alloc (.cells #[.int .i64 0, .int .i64 0, .int .i64 1, .int .i64 1, .int .i64 0, .int .i64 1, .int .i64 2, .int .i64 0, .int .i64 1] 31)) fun e w' => e = .returned (.bool true) ∧ Q2 w') := Lib.hid fun W hW => (have hW' := HQ.out _ _ hW (below1 W (.cells #[.int .i64 0, .int .i64 0, .int .i64 1, .int .i64 1, .int .i64 0, .int .i64 1, .int .i64 2, .int .i64 0, .int .i64 1] 31)); keepR HQ.out (goesB_any (HTL.out _ hW').1 (HTL.out _ hW').2 0 0 (ss := [(0, 0, 1), (1, 0, 1), (2, 0, 1)]) 3 ((Whole.new W 31 [.int .i64 0, .int .i64 0, .int .i64 1, .int .i64 1, .int .i64 0, .int .i64 1, .int .i64 2, .int .i64 0, .int .i64 1]).row (Whole.new W 31 [.int .i64 0, .int .i64 0, .int .i64 1, .int .i64 1, .int .i64 0, .int .i64 1, .int .i64 2, .int .i64 0, .int .i64 1]).lt) (by decide) (by rw [← HLE.out]; exact l10_g1 s)) hW')
  have KG2 : Hid (∀ W, Q2 W → Calls Tryd.prog 26 #[l.val, prtV 0 0, .slice (some ⟨W.heap.size, 0, none⟩) 2 2] (W.alloc (.cells #[.int .i64 0, .int .i64 0, .int .i64 1, .int .i64 2, .int .i64 0, .int .i64 1] 31)) fun e w' => e = .returned (.bool false) ∧ Q2 w') := Lib.hid fun W hW => (have hW' := HQ.out _ _ hW (below1 W (.cells #[.int .i64 0, .int .i64 0, .int .i64 1, .int .i64 2, .int .i64 0, .int .i64 1] 31)); keepR HQ.out (goesB_any (HTL.out _ hW').1 (HTL.out _ hW').2 0 0 (ss := [(0, 0, 1), (2, 0, 1)]) 2 ((Whole.new W 31 [.int .i64 0, .int .i64 0, .int .i64 1, .int .i64 2, .int .i64 0, .int .i64 1]).row (Whole.new W 31 [.int .i64 0, .int .i64 0, .int .i64 1, .int .i64 2, .int .i64 0, .int .i64 1]).lt) (by decide) (by rw [← HLE.out]; exact l10_g2 s)) hW')
  have KG3 : Hid (∀ W, Q2 W → Calls Tryd.prog 26 #[l.val, prtV 9 0, .slice none 0 0] W fun e w' => e = .returned (.bool true) ∧ Q2 w') := Lib.hid fun W hW => keepR HQ.out (goesB_any (HTL.out W hW).1 (HTL.out W hW).2 9 0 (ss := []) (A := none) 0 (Row.nil _ _ _) (by decide) (by rw [← HLE.out]; exact l10_g3 s)) hW
  have m0 := HQl.out _ hq
  have x0 := m0.cell_at 0 rfl
  have x1 := m0.cell_at 1 rfl
  have x2 := m0.cell_at 2 rfl
  have x3 := m0.cell_at 3 rfl
  have x4 := m0.cell_at 4 rfl
  have x5 := m0.cell_at 5 rfl
  have x6 := m0.cell_at 6 rfl
  have x7 := m0.cell_at 7 rfl
  have x8 := m0.cell_at 8 rfl
  have x9 := m0.cell_at 9 rfl
  have x10 := m0.cell_at 10 rfl
  clear m0
  go_wp2_with fail
  refine (KO1.out _ hq).mono ?_
  clear hq KO1 x0 x1 x2 x3 x4 x5 x6 x7 x8 x9 x10
  rintro e w4 ⟨⟨A3, c3, rfl⟩, hq⟩
  go_wp2_with fail
  refine (KN1.out _ hq).mono ?_
  clear hq KN1
  rintro e w5 ⟨rfl, hq⟩
  go_wp2_with fail
  refine (KN2.out _ hq).mono ?_
  clear hq KN2
  rintro e w6 ⟨rfl, hq⟩
  have m0 := HQl.out _ hq
  have x0 := m0.cell_at 0 rfl
  have x1 := m0.cell_at 1 rfl
  have x2 := m0.cell_at 2 rfl
  have x3 := m0.cell_at 3 rfl
  have x4 := m0.cell_at 4 rfl
  have x5 := m0.cell_at 5 rfl
  have x6 := m0.cell_at 6 rfl
  have x7 := m0.cell_at 7 rfl
  have x8 := m0.cell_at 8 rfl
  have x9 := m0.cell_at 9 rfl
  have x10 := m0.cell_at 10 rfl
  clear m0
  go_wp2_with fail
  refine (KC.out _ hq).mono ?_
  clear hq KC x0 x1 x2 x3 x4 x5 x6 x7 x8 x9 x10
  rintro e w7 ⟨rfl, hq⟩
  have m0 := HQl.out _ hq
  have x0 := m0.cell_at 0 rfl
  have x1 := m0.cell_at 1 rfl
  have x2 := m0.cell_at 2 rfl
  have x3 := m0.cell_at 3 rfl
  have x4 := m0.cell_at 4 rfl
  have x5 := m0.cell_at 5 rfl
  have x6 := m0.cell_at 6 rfl
  have x7 := m0.cell_at 7 rfl
  have x8 := m0.cell_at 8 rfl
  have x9 := m0.cell_at 9 rfl
  have x10 := m0.cell_at 10 rfl
  clear m0
  go_wp2_with fail
  refine (KO2.out _ hq).mono ?_
  clear hq KO2 x0 x1 x2 x3 x4 x5 x6 x7 x8 x9 x10
  rintro e w8 ⟨⟨A4, c4, rfl⟩, hq⟩
  have m0 := HQl.out _ hq
  have x0 := m0.cell_at 0 rfl
  have x1 := m0.cell_at 1 rfl
  have x2 := m0.cell_at 2 rfl
  have x3 := m0.cell_at 3 rfl
  have x4 := m0.cell_at 4 rfl
  have x5 := m0.cell_at 5 rfl
  have x6 := m0.cell_at 6 rfl
  have x7 := m0.cell_at 7 rfl
  have x8 := m0.cell_at 8 rfl
  have x9 := m0.cell_at 9 rfl
  have x10 := m0.cell_at 10 rfl
  clear m0
  go_wp2_with fail
  refine (KX1.out _ hq).mono ?_
  clear hq KX1 x0 x1 x2 x3 x4 x5 x6 x7 x8 x9 x10
  rintro e w9 ⟨rfl, hq⟩
  have m0 := HQl.out _ hq
  have x0 := m0.cell_at 0 rfl
  have x1 := m0.cell_at 1 rfl
  have x2 := m0.cell_at 2 rfl
  have x3 := m0.cell_at 3 rfl
  have x4 := m0.cell_at 4 rfl
  have x5 := m0.cell_at 5 rfl
  have x6 := m0.cell_at 6 rfl
  have x7 := m0.cell_at 7 rfl
  have x8 := m0.cell_at 8 rfl
  have x9 := m0.cell_at 9 rfl
  have x10 := m0.cell_at 10 rfl
  clear m0
  go_wp2_with fail
  refine (KX2.out _ hq).mono ?_
  clear hq KX2 x0 x1 x2 x3 x4 x5 x6 x7 x8 x9 x10
  rintro e w10 ⟨rfl, hq⟩
  have m0 := HQl.out _ hq
  have x0 := m0.cell_at 0 rfl
  have x1 := m0.cell_at 1 rfl
  have x2 := m0.cell_at 2 rfl
  have x3 := m0.cell_at 3 rfl
  have x4 := m0.cell_at 4 rfl
  have x5 := m0.cell_at 5 rfl
  have x6 := m0.cell_at 6 rfl
  have x7 := m0.cell_at 7 rfl
  have x8 := m0.cell_at 8 rfl
  have x9 := m0.cell_at 9 rfl
  have x10 := m0.cell_at 10 rfl
  clear m0
  go_wp2_with fail
  refine (KR0.out _ hq).mono ?_
  clear hq KR0 x0 x1 x2 x3 x4 x5 x6 x7 x8 x9 x10
  rintro e w11 ⟨rfl, hq⟩
  have m0 := HQl.out _ hq
  have x0 := m0.cell_at 0 rfl
  have x1 := m0.cell_at 1 rfl
  have x2 := m0.cell_at 2 rfl
  have x3 := m0.cell_at 3 rfl
  have x4 := m0.cell_at 4 rfl
  have x5 := m0.cell_at 5 rfl
  have x6 := m0.cell_at 6 rfl
  have x7 := m0.cell_at 7 rfl
  have x8 := m0.cell_at 8 rfl
  have x9 := m0.cell_at 9 rfl
  have x10 := m0.cell_at 10 rfl
  clear m0
  go_wp2_with fail
  refine (KR1.out _ hq).mono ?_
  clear hq KR1 x0 x1 x2 x3 x4 x5 x6 x7 x8 x9 x10
  rintro e w12 ⟨rfl, hq⟩
  go_wp2_with fail
  refine (KM.out _ hq).mono ?_
  clear hq KM
  rintro e w13 ⟨rfl, hq⟩
  have m0 := HQl.out _ hq
  have x0 := m0.cell_at 0 rfl
  have x1 := m0.cell_at 1 rfl
  have x2 := m0.cell_at 2 rfl
  have x3 := m0.cell_at 3 rfl
  have x4 := m0.cell_at 4 rfl
  have x5 := m0.cell_at 5 rfl
  have x6 := m0.cell_at 6 rfl
  have x7 := m0.cell_at 7 rfl
  have x8 := m0.cell_at 8 rfl
  have x9 := m0.cell_at 9 rfl
  have x10 := m0.cell_at 10 rfl
  clear m0
  go_wp2_with fail
  refine (KG1.out _ hq).mono ?_
  clear hq KG1 x0 x1 x2 x3 x4 x5 x6 x7 x8 x9 x10
  rintro e w14 ⟨rfl, hq⟩
  have m0 := HQl.out _ hq
  have x0 := m0.cell_at 0 rfl
  have x1 := m0.cell_at 1 rfl
  have x2 := m0.cell_at 2 rfl
  have x3 := m0.cell_at 3 rfl
  have x4 := m0.cell_at 4 rfl
  have x5 := m0.cell_at 5 rfl
  have x6 := m0.cell_at 6 rfl
  have x7 := m0.cell_at 7 rfl
  have x8 := m0.cell_at 8 rfl
  have x9 := m0.cell_at 9 rfl
  have x10 := m0.cell_at 10 rfl
  clear m0
  go_wp2_with fail
  refine (KG2.out _ hq).mono ?_
  clear hq KG2 x0 x1 x2 x3 x4 x5 x6 x7 x8 x9 x10
  rintro e w15 ⟨rfl, hq⟩
  have m0 := HQl.out _ hq
  have x0 := m0.cell_at 0 rfl
  have x1 := m0.cell_at 1 rfl
  have x2 := m0.cell_at 2 rfl
  have x3 := m0.cell_at 3 rfl
  have x4 := m0.cell_at 4 rfl
  have x5 := m0.cell_at 5 rfl
  have x6 := m0.cell_at 6 rfl
  have x7 := m0.cell_at 7 rfl
  have x8 := m0.cell_at 8 rfl
  have x9 := m0.cell_at 9 rfl
  have x10 := m0.cell_at 10 rfl
  clear m0
  go_wp2_with fail
  refine (KG3.out _ hq).mono ?_
  clear hq KG3 x0 x1 x2 x3 x4 x5 x6 x7 x8 x9 x10
  rintro e w16 ⟨rfl, hq⟩
  go_wp2_with fail
  go_ret
  exact ⟨rfl, HQp.out _ hq⟩
end Go.Proofs.YthjnhigcheakaaaDoor
