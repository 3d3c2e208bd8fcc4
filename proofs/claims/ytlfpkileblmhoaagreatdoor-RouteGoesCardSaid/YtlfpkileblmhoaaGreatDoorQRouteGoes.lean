/- The walk of RouteGoes: steps go just if each is there, and each two side by side hang together; vias in a longer path. -/
import Derived.Test.YtlfpkileblmhoaaGreatDoorQRouM
import Derived.Test.YtlfpkileblmhoaaGreatDoorQApp11
import Derived.Test.YtlfpkileblmhoaaGreatDoorQC
import Derived.Test.YtlfpkileblmhoaaGreatDoorQJoinA
namespace Go.Proofs.YtlfpkileblmhoaaGreatDoor
open Go.RowKit Go.Shelf
set_option linter.unusedVariables false
set_option linter.unusedSimpArgs false

/-- Does one step more go on from these? -/
def okV (l : Lay) (ss : List (Int × Int × Int)) (s i o : Int) : Bool := stepV l s i o && (match ss.getLast? with | none => true | some z => decide (beyondV l z.1 z.2.2 = (s, i)))
theorem goes_ok {l : Lay} {ss : List (Int × Int × Int)} (s i o : Int) : goesS l (ss ++ [(s, i, o)]) = (goesS l ss && okV l ss s i o) := by
  rw [goesS_snoc]
  unfold okV
  cases hg : goesS l ss with
  | false => rfl
  | true =>
    congr 1
    cases hz : ss.getLast? with
    | none => rfl
    | some z =>
      have hst : stepV l z.1 z.2.1 z.2.2 = true := by
        rw [goesS_parts, Bool.and_eq_true, List.all_eq_true] at hg
        exact hg.1 z (List.mem_of_getLast? hz)
      have hn : nextV l z.1 z.2.1 z.2.2 = beyondV l z.1 z.2.2 := by unfold nextV; rw [hst]; rfl
      simp only [hn]
set_option maxRecDepth 100000 in
set_option maxHeartbeats 32000000 in
theorem routeGoes_walk (l : Lay) (p : Pth) (s i o : Int) (vs : List Int) (A : Option Addr) (c : Nat) (w : World) (hT : Shapes w) (hL : Lies l w) (hp : PLies p w) (hR : Row w w.heap.size A (nums .i64 vs)) (hcap : vs.length ≤ c) (hm : c ≤ maxLen) :
    Calls Tryz.prog 7 #[l.val, p.val, stpV s i o, .slice A vs.length c] w fun e w' => e = .returned (.bool true) ∧ Below w.heap.size w w' := by
  obtain ⟨Q, HQ, HQb, HQl, HQp, HQv, HQ0, hq⟩ : ∃ Q : World → Prop, Hid (Closed Q) ∧ Hid (∀ W, Q W → Below w.heap.size w W) ∧ Hid (∀ W, Q W → Whole W w.heap.size 29 l.cells) ∧ Hid (∀ W, Q W → Whole W (w.heap.size + 1) 32 p.cells) ∧ Hid (∀ W, Q W → Whole W (w.heap.size + 1 + 1) 50 (stpCells (s, i, o))) ∧ Hid (∀ W, Below w.heap.size w W → Whole W w.heap.size 29 l.cells → Whole W (w.heap.size + 1) 32 p.cells → Whole W (w.heap.size + 1 + 1) 50 (stpCells (s, i, o)) → Q W) ∧ Q (((w.alloc (.cells l.cells.toArray 29)).alloc (.cells p.cells.toArray 32)).alloc (.cells (stpCells (s, i, o)).toArray 50)) :=
    ⟨fun W => Below w.heap.size w W ∧ Whole W w.heap.size 29 l.cells ∧ Whole W (w.heap.size + 1) 32 p.cells ∧ Whole W (w.heap.size + 1 + 1) 50 (stpCells (s, i, o)), Lib.hid ((Closed.below w).and ((Closed.whole _ _ _).and ((Closed.whole _ _ _).and (Closed.whole _ _ _)))), Lib.hid fun _ h => h.1, Lib.hid fun _ h => h.2.1, Lib.hid fun _ h => h.2.2.1, Lib.hid fun _ h => h.2.2.2, Lib.hid fun _ a b c d => ⟨a, b, c, d⟩, below3 w _ _ _, ((Whole.new w _ l.cells).alloc _).alloc _, (Whole.new_at _ _ p.cells _ (by simp)).alloc _, Whole.new_at _ _ (stpCells (s, i, o)) _ (by simp)⟩
  have hn : (vs.length : Int) ≤ 9223372036854775807 := by unfold maxLen at hm; omega
  have hT0 := Lib.hid hT
  have HTW : Hid (∀ W, Q W → Shapes W ∧ Lies l W) := Lib.hid fun W hW => ⟨Shapes.closed _ _ hT (HQb.out W hW), Lies.closed l _ _ hL (HQb.out W hW)⟩
  have HPW : Hid (∀ W, Q W → PLies p W ∧ Row W W.heap.size A (nums .i64 vs)) := Lib.hid fun W hW => ⟨PLies.closed _ _ _ hp (HQb.out W hW), hR.on (HQb.out W hW)⟩
  obtain ⟨gp, hgp⟩ : ∃ g, great11 l p = g := ⟨_, rfl⟩
  have KGP := Lib.hid (fun W hW => keepR HQ.out (great11_any (w := W) (HTW.out W hW).2 hgp) hW)
  have KW : Hid (∀ W, Q W → Calls Tryz.prog 9 #[] W fun e w' => e = .returned (.bool true) ∧ Below w.heap.size w w') := Lib.hid fun W hW => wakes11_P (P := fun W' => Below w.heap.size w W') (Closed.below w) (fun W' h => Shapes.closed _ _ hT0.out h) (HQb.out W hW)
  have KWB : Hid (∀ W, Q W → Calls Tryz.prog 9 #[] W fun e w' => e = .returned (.bool true) ∧ Below W.heap.size W w') := Lib.hid fun W hW => wakes11_P (P := fun W' => Below W.heap.size W W') (Closed.below W) (fun W' h => Shapes.closed _ _ (HTW.out W hW).1 h) (Below.refl _ _)
  have HGP := Lib.hid hgp
  have HC := Lib.hid (And.intro hcap hn)
  clear hT hL hp hR hgp hcap hm hn
  go_enter Tryz.func7, Tryz.ntmps7
  have m0 := HQl.out _ hq
  have x0 := m0.cell_at 0 rfl
  have x1 := m0.cell_at 1 rfl
  have x2 := m0.cell_at 2 rfl
  have x3 := m0.cell_at 3 rfl
  have x4 := m0.cell_at 4 rfl
  have x5 := m0.cell_at 5 rfl
  have x6 := m0.cell_at 6 rfl
  have x7 := m0.cell_at 7 rfl
  have x8 := m0.cell_at 8 rfl
  have x9 := m0.cell_at 9 rfl
  have x10 := m0.cell_at 10 rfl
  clear m0
  have m0 := HQp.out _ hq
  have y0 := m0.cell_at 0 rfl
  have y1 := m0.cell_at 1 rfl
  have y2 := m0.cell_at 2 rfl
  clear m0
  have m0 := HQv.out _ hq
  have v0 := m0.cell_at 0 rfl
  have v1 := m0.cell_at 1 rfl
  have v2 := m0.cell_at 2 rfl
  clear m0
  go_wp2_with fail
  refine (KGP.out _ hq).mono ?_
  clear hq x0 x1 x2 x3 x4 x5 x6 x7 x8 x9 x10 y0 y1 y2 v0 v1 v2
  rintro e w1 ⟨rfl, hq⟩
  cases gp
  rotate_left
  · go_wp2_with fail
    refine (KW.out _ hq).mono ?_
    clear hq
    rintro e wz ⟨rfl, hB⟩
    have HBz := Lib.hid hB
    clear hB
    go_wp2_with fail
    go_ret
    exact ⟨rfl, HBz.out⟩
  by_cases h10 : (10 : Int) < vs.length
  · go_wp2_with fail
    refine (KW.out _ hq).mono ?_
    clear hq
    rintro e wz ⟨rfl, hB⟩
    have HBz := Lib.hid hB
    clear hB
    go_wp2_with fail
    go_ret
    exact ⟨rfl, HBz.out⟩
  have hl30 : p.ss.length ≤ 1000 := by
    have h := HGP.out
    unfold great11 at h
    rw [Bool.or_eq_false_iff, decide_eq_false_iff_not] at h
    omega
  have hv10 : vs.length ≤ 1000 := by omega
  have HL30 := Lib.hid (And.intro hl30 hv10)
  obtain ⟨n1, hn1⟩ : ∃ n, p.ss.length + 1 = n := ⟨_, rfl⟩
  obtain ⟨ms, hms⟩ : ∃ ms, p.ss ++ [(s, i, o)] = ms := ⟨_, rfl⟩
  have HN1 := Lib.hid hn1
  have HMS := Lib.hid hms
  have HML : Hid (ms.length = n1) := Lib.hid (by rw [← hms, ← hn1, List.length_append]; rfl)
  obtain ⟨g, hg⟩ : ∃ b, goesS l p.ss = b := ⟨_, rfl⟩
  obtain ⟨t, ht⟩ : ∃ b, throughV (secsS p.ss) vs = b := ⟨_, rfl⟩
  obtain ⟨st, hst⟩ : ∃ b, stepV l s i o = b := ⟨_, rfl⟩
  obtain ⟨wy, hwy⟩ : ∃ b, wayK (kindV l s) i o = b := ⟨_, rfl⟩
  obtain ⟨ok, hok⟩ : ∃ b, okV l p.ss s i o = b := ⟨_, rfl⟩
  have HG := Lib.hid hg
  have HTT := Lib.hid ht
  have HST := Lib.hid hst
  have HOK := Lib.hid hok
  have HWY := Lib.hid hwy
  have y2 := (HQp.out _ hq).cell_at 2 rfl
  go_upto_region 4 with (fail)
  clear y2 hn1 hms hg ht hst hok hwy
  go_cut [10] from 29 to 35 (fun v wx => ∃ A' c', v = .slice A' n1 c' ∧ Hid (Q wx ∧ Row wx wx.heap.size A' (ms.flatMap stpCells) ∧ n1 ≤ c'))
  case first =>
    have HBS : Hid (∀ W, Below w1.heap.size w1 W → Q W) := Lib.hid (fun W hB => HQ.out _ _ hq hB)
    have HRS : ∀ W, Below w1.heap.size w1 W → Row W W.heap.size p.A (p.ss.flatMap stpCells) := fun W hB => (HPW.out W (HBS.out W hB)).1.row
    clear hq
    refine region_tree (fun W => Below w1.heap.size w1 W) (.fork [(1, false), (2, false), (4, false)] 0 5 (.fork [] 3 5 (.last [(5, true), (6, true), (7, false)]) (.last [(3, true), (6, true), (7, false)])) (.last [(0, true), (3, true), (6, true), (7, false)])) (by kernel_rfl) (by kernel_rfl) (fun W => Below w1.heap.size w1 W) ⟨Closed.below w1, fun _ h => h⟩ (Below.refl _ _).drew ?_
    simp only [wpTree, pickOps, List.getElem?_cons_zero, List.getElem?_cons_succ]
    repeat (first | (refine mix_skip (by rfl) ?_; simp only [Act.put, List.setIfInBounds_toArray, List.set_cons_zero, List.set_cons_succ]) | (refine mix_read _ (by rfl) (fun W hW => by (have hW := HBS.out W hW; have m0 := HQl.out W hW; have x0 := m0.cell_at 0 rfl; have x1 := m0.cell_at 1 rfl; have x2 := m0.cell_at 2 rfl; have x3 := m0.cell_at 3 rfl; have x4 := m0.cell_at 4 rfl; have x5 := m0.cell_at 5 rfl; have x6 := m0.cell_at 6 rfl; have x7 := m0.cell_at 7 rfl; have x8 := m0.cell_at 8 rfl; have x9 := m0.cell_at 9 rfl; have x10 := m0.cell_at 10 rfl; clear m0; have m0 := HQp.out W hW; have y0 := m0.cell_at 0 rfl; have y1 := m0.cell_at 1 rfl; have y2 := m0.cell_at 2 rfl; clear m0; have m0 := HQv.out W hW; have v0 := m0.cell_at 0 rfl; have v1 := m0.cell_at 1 rfl; have v2 := m0.cell_at 2 rfl; clear m0; go_simp; first | done | with_reducible rfl)) ?_; simp only [Act.put, List.setIfInBounds_toArray, List.set_cons_zero, List.set_cons_succ]))
    refine mix_nil (fun hF => ⟨?_, ?_⟩)
    · refine mix_make (fun g => .slice (some ⟨g, 0, none⟩) 0 0) w1.heap.size 50 [] ⟨Closed.below w1, fun _ h => h⟩ (fun W hW => hW.size) (by rfl) (fun W hW => by (clear hW; go_simp; first | done | with_reducible rfl)) (fun g0 hg0 => ?_)
      simp only [Act.put, List.setIfInBounds_toArray, List.set_cons_zero, List.set_cons_succ]
      refine mix_nil ?_
      refine mix_nil (fun hF => ⟨?_, ?_⟩)
      · refine mix_yield (X := Option Addr × Nat) (fun B => .slice B.1 p.ss.length B.2) (fun B W => Below w1.heap.size w1 W ∧ W.ownsRow w1.heap.size 50 3 (.slice B.1 p.ss.length B.2) p.ss.length (p.ss.flatMap stpCells)) (fun B => ⟨(Closed.below w1).and (Closed.owns _ _ _ _ _ _), fun _ h => h.1⟩) (by rfl) (fun W hW => ?_) (fun C => ?_)
        · obtain ⟨A2, c2, w6, h1, h2, h3, _⟩ := first11 (f := stpCells) (size := 3) (fun _ => rfl) oneStep 30 50 (.agg #[.int .i64 0, .int .i64 0, .int .i64 0]) 24 Tryz.underlying30 infoStep rfl (by omega) (by omega) hW.1 hW.2 hg0 p.ss p.A p.c (HRS W hW.1) hl30
          exact ⟨(A2, c2), w6, exec_append (.tmp 29) (.tmp 31) 30 rfl h1, h2, h3⟩
        simp only [Act.put, List.setIfInBounds_toArray, List.set_cons_zero, List.set_cons_succ]
        refine mix_nil ?_
        refine mix_make (fun g => .slice (some ⟨g, 0, none⟩) 1 1) w1.heap.size 50 (stpCells (s, i, o)) ⟨(Closed.below w1).and (Closed.owns _ _ _ _ _ _), fun _ h => h.1⟩ (fun W hW => hW.1.size) (by rfl) (fun W hW => by (clear hW; go_simp; first | done | with_reducible rfl)) (fun g1 hg1 => ?_)
        simp only [Act.put, List.setIfInBounds_toArray, List.set_cons_zero, List.set_cons_succ]
        refine mix_yield (X := Option Addr × Nat) (fun B => .slice B.1 (p.ss.length + 1) B.2) (fun B W => Below w1.heap.size w1 W ∧ (Row W W.heap.size B.1 ((p.ss ++ [(s, i, o)]).flatMap stpCells) ∧ p.ss.length + 1 ≤ B.2)) (fun B => ⟨(Closed.below w1).and (fun _ _ h hB => ⟨h.1.on hB, h.2⟩), fun _ h => h.1⟩) (by rfl) (fun W hW => ?_) (fun D => ?_)
        · obtain ⟨A2, c2, w6, h1, h2, h3, h4⟩ := next11 (f := stpCells) (size := 3) (fun _ => rfl) oneStep 30 50 (.agg #[.int .i64 0, .int .i64 0, .int .i64 0]) 24 Tryz.underlying30 infoStep rfl (by omega) (by omega) hW.1.1 hW.1.2 hW.2 hl30
          exact ⟨(A2, c2), w6, exec_append (.tmp 32) (.tmp 34) 30 rfl h1, h2, h3, h4⟩
        simp only [Act.put, List.setIfInBounds_toArray, List.set_cons_zero, List.set_cons_succ]
        repeat (first | (refine mix_skip (by rfl) ?_; simp only [Act.put, List.setIfInBounds_toArray, List.set_cons_zero, List.set_cons_succ]) | (refine mix_read _ (by rfl) (fun W hW => by (have hW := HBS.out W hW; clear hW; go_simp; first | done | with_reducible rfl)) ?_; simp only [Act.put, List.setIfInBounds_toArray, List.set_cons_zero, List.set_cons_succ]))
        refine mix_nil (fun W hW => ?_)
        have HQW := Lib.hid hW
        clear hW
        go_wp2_with fail
        go_meet
        exact ⟨D.1, D.2, by rw [HN1.out], Lib.hid ⟨HBS.out _ HQW.out.1, by rw [← HMS.out]; exact HQW.out.2.1, by rw [← HN1.out]; exact HQW.out.2.2⟩⟩
      · refine mix_make (fun g => .slice (some ⟨g, 0, none⟩) 1 1) w1.heap.size 50 (stpCells (s, i, o)) ⟨(Closed.below w1).and (Closed.whole _ _ _), fun _ h => h.1⟩ (fun W hW => hW.1.size) (by rfl) (fun W hW => by (clear hW; go_simp; first | done | with_reducible rfl)) (fun g1 hg1 => ?_)
        simp only [Act.put, List.setIfInBounds_toArray, List.set_cons_zero, List.set_cons_succ]
        refine mix_nil ?_
        refine mix_yield (X := Option Addr × Nat) (fun B => .slice B.1 p.ss.length B.2) (fun B W => (Below w1.heap.size w1 W ∧ W.ownsRow w1.heap.size 50 3 (.slice B.1 p.ss.length B.2) p.ss.length (p.ss.flatMap stpCells)) ∧ Whole W g1 50 (stpCells (s, i, o))) (fun B => ⟨((Closed.below w1).and (Closed.owns _ _ _ _ _ _)).and (Closed.whole _ _ _), fun _ h => h.1.1⟩) (by rfl) (fun W hW => ?_) (fun C => ?_)
        · obtain ⟨A2, c2, w6, h1, h2, h3, h4⟩ := first11 (f := stpCells) (size := 3) (fun _ => rfl) oneStep 30 50 (.agg #[.int .i64 0, .int .i64 0, .int .i64 0]) 24 Tryz.underlying30 infoStep rfl (by omega) (by omega) hW.1.1 hW.1.2 hg0 p.ss p.A p.c (HRS W hW.1.1) hl30
          exact ⟨(A2, c2), w6, exec_append (.tmp 29) (.tmp 31) 30 rfl h1, ⟨h2, h3⟩, h4 _ _ _ (fun e => whole_diff hW.1.2 hW.2 (by simp) e.symm) hW.2⟩
        simp only [Act.put, List.setIfInBounds_toArray, List.set_cons_zero, List.set_cons_succ]
        refine mix_yield (X := Option Addr × Nat) (fun B => .slice B.1 (p.ss.length + 1) B.2) (fun B W => Below w1.heap.size w1 W ∧ (Row W W.heap.size B.1 ((p.ss ++ [(s, i, o)]).flatMap stpCells) ∧ p.ss.length + 1 ≤ B.2)) (fun B => ⟨(Closed.below w1).and (fun _ _ h hB => ⟨h.1.on hB, h.2⟩), fun _ h => h.1⟩) (by rfl) (fun W hW => ?_) (fun D => ?_)
        · obtain ⟨A2, c2, w6, h1, h2, h3, h4⟩ := next11 (f := stpCells) (size := 3) (fun _ => rfl) oneStep 30 50 (.agg #[.int .i64 0, .int .i64 0, .int .i64 0]) 24 Tryz.underlying30 infoStep rfl (by omega) (by omega) hW.1.1 hW.1.2 hW.2 hl30
          exact ⟨(A2, c2), w6, exec_append (.tmp 32) (.tmp 34) 30 rfl h1, h2, h3, h4⟩
        simp only [Act.put, List.setIfInBounds_toArray, List.set_cons_zero, List.set_cons_succ]
        repeat (first | (refine mix_skip (by rfl) ?_; simp only [Act.put, List.setIfInBounds_toArray, List.set_cons_zero, List.set_cons_succ]) | (refine mix_read _ (by rfl) (fun W hW => by (have hW := HBS.out W hW; clear hW; go_simp; first | done | with_reducible rfl)) ?_; simp only [Act.put, List.setIfInBounds_toArray, List.set_cons_zero, List.set_cons_succ]))
        refine mix_nil (fun W hW => ?_)
        have HQW := Lib.hid hW
        clear hW
        go_wp2_with fail
        go_meet
        exact ⟨D.1, D.2, by rw [HN1.out], Lib.hid ⟨HBS.out _ HQW.out.1, by rw [← HMS.out]; exact HQW.out.2.1, by rw [← HN1.out]; exact HQW.out.2.2⟩⟩
    · refine mix_make (fun g => .slice (some ⟨g, 0, none⟩) 1 1) w1.heap.size 50 (stpCells (s, i, o)) ⟨Closed.below w1, fun _ h => h⟩ (fun W hW => hW.size) (by rfl) (fun W hW => by (clear hW; go_simp; first | done | with_reducible rfl)) (fun g1 hg1 => ?_)
      simp only [Act.put, List.setIfInBounds_toArray, List.set_cons_zero, List.set_cons_succ]
      refine mix_nil ?_
      refine mix_make (fun g => .slice (some ⟨g, 0, none⟩) 0 0) w1.heap.size 50 [] ⟨(Closed.below w1).and (Closed.whole _ _ _), fun _ h => h.1⟩ (fun W hW => hW.1.size) (by rfl) (fun W hW => by (clear hW; go_simp; first | done | with_reducible rfl)) (fun g0 hg0 => ?_)
      simp only [Act.put, List.setIfInBounds_toArray, List.set_cons_zero, List.set_cons_succ]
      refine mix_yield (X := Option Addr × Nat) (fun B => .slice B.1 p.ss.length B.2) (fun B W => (Below w1.heap.size w1 W ∧ W.ownsRow w1.heap.size 50 3 (.slice B.1 p.ss.length B.2) p.ss.length (p.ss.flatMap stpCells)) ∧ Whole W g1 50 (stpCells (s, i, o))) (fun B => ⟨((Closed.below w1).and (Closed.owns _ _ _ _ _ _)).and (Closed.whole _ _ _), fun _ h => h.1.1⟩) (by rfl) (fun W hW => ?_) (fun C => ?_)
      · obtain ⟨A2, c2, w6, h1, h2, h3, h4⟩ := first11 (f := stpCells) (size := 3) (fun _ => rfl) oneStep 30 50 (.agg #[.int .i64 0, .int .i64 0, .int .i64 0]) 24 Tryz.underlying30 infoStep rfl (by omega) (by omega) hW.1.1 hW.2 hg0 p.ss p.A p.c (HRS W hW.1.1) hl30
        exact ⟨(A2, c2), w6, exec_append (.tmp 29) (.tmp 31) 30 rfl h1, ⟨h2, h3⟩, h4 _ _ _ (fun e => whole_diff hW.2 hW.1.2 (by simp) e.symm) hW.1.2⟩
      simp only [Act.put, List.setIfInBounds_toArray, List.set_cons_zero, List.set_cons_succ]
      refine mix_yield (X := Option Addr × Nat) (fun B => .slice B.1 (p.ss.length + 1) B.2) (fun B W => Below w1.heap.size w1 W ∧ (Row W W.heap.size B.1 ((p.ss ++ [(s, i, o)]).flatMap stpCells) ∧ p.ss.length + 1 ≤ B.2)) (fun B => ⟨(Closed.below w1).and (fun _ _ h hB => ⟨h.1.on hB, h.2⟩), fun _ h => h.1⟩) (by rfl) (fun W hW => ?_) (fun D => ?_)
      · obtain ⟨A2, c2, w6, h1, h2, h3, h4⟩ := next11 (f := stpCells) (size := 3) (fun _ => rfl) oneStep 30 50 (.agg #[.int .i64 0, .int .i64 0, .int .i64 0]) 24 Tryz.underlying30 infoStep rfl (by omega) (by omega) hW.1.1 hW.1.2 hW.2 hl30
        exact ⟨(A2, c2), w6, exec_append (.tmp 32) (.tmp 34) 30 rfl h1, h2, h3, h4⟩
      simp only [Act.put, List.setIfInBounds_toArray, List.set_cons_zero, List.set_cons_succ]
      repeat (first | (refine mix_skip (by rfl) ?_; simp only [Act.put, List.setIfInBounds_toArray, List.set_cons_zero, List.set_cons_succ]) | (refine mix_read _ (by rfl) (fun W hW => by (have hW := HBS.out W hW; clear hW; go_simp; first | done | with_reducible rfl)) ?_; simp only [Act.put, List.setIfInBounds_toArray, List.set_cons_zero, List.set_cons_succ]))
      refine mix_nil (fun W hW => ?_)
      have HQW := Lib.hid hW
      clear hW
      go_wp2_with fail
      go_meet
      exact ⟨D.1, D.2, by rw [HN1.out], Lib.hid ⟨HBS.out _ HQW.out.1, by rw [← HMS.out]; exact HQW.out.2.1, by rw [← HN1.out]; exact HQW.out.2.2⟩⟩
  case rest =>
  obtain ⟨A', c', rfl, HC4⟩ := hcut
  obtain ⟨wk, rfl⟩ : ∃ W, W = wc := ⟨wc, rfl⟩
  obtain ⟨R, HRc, HRq, HRr, hr⟩ : ∃ R : World → Prop, Hid (Closed R) ∧ Hid (∀ W, R W → Q W) ∧ Hid (∀ W, R W → Row W W.heap.size A' (ms.flatMap stpCells)) ∧ R wk :=
    ⟨fun W => Q W ∧ Row W W.heap.size A' (ms.flatMap stpCells), Lib.hid (HQ.out.and (fun _ _ h hB => h.on hB)), Lib.hid fun _ h => h.1, Lib.hid fun _ h => h.2, HC4.out.1, HC4.out.2.1⟩
  have HQlR : Hid (∀ W, R W → Whole W w.heap.size 29 l.cells) := Lib.hid fun W hW => HQl.out _ (HRq.out W hW)
  have HQvR : Hid (∀ W, R W → Whole W (w.heap.size + 1 + 1) 50 (stpCells (s, i, o))) := Lib.hid fun W hW => HQv.out _ (HRq.out W hW)
  have HQpR : Hid (∀ W, R W → Whole W (w.heap.size + 1) 32 p.cells) := Lib.hid fun W hW => HQp.out _ (HRq.out W hW)
  have KST : Hid (∀ W, R W → Calls Tryz.prog 26 #[l.val, stpV s i o] W fun e w' => e = .returned (.tuple #[.int .i64 wy, .bool st]) ∧ R w') := Lib.hid fun W hW => keepR HRc.out (stepR_B (HTW.out W (HRq.out W hW)).2 s i o HWY.out HST.out) hW
  have KG5 : Hid (∀ W, R W → Calls Tryz.prog 14 #[l.val, .slice p.A p.ss.length p.c] W fun e w' => e = .returned (.bool g) ∧ R w') := Lib.hid fun W hW => keepR HRc.out (goes11_any (HTW.out W (HRq.out W hW)).1 (HTW.out W (HRq.out W hW)).2 p.c (HPW.out W (HRq.out W hW)).1.row (HPW.out W (HRq.out W hW)).1.len HG.out) hW
  clear HC4
  have m0 := HQlR.out _ hr
  have x0 := m0.cell_at 0 rfl
  have x1 := m0.cell_at 1 rfl
  have x2 := m0.cell_at 2 rfl
  have x3 := m0.cell_at 3 rfl
  have x4 := m0.cell_at 4 rfl
  have x5 := m0.cell_at 5 rfl
  have x6 := m0.cell_at 6 rfl
  have x7 := m0.cell_at 7 rfl
  have x8 := m0.cell_at 8 rfl
  have x9 := m0.cell_at 9 rfl
  have x10 := m0.cell_at 10 rfl
  clear m0
  have m0 := HQvR.out _ hr
  have v0 := m0.cell_at 0 rfl
  have v1 := m0.cell_at 1 rfl
  have v2 := m0.cell_at 2 rfl
  clear m0
  go_wp2_with fail
  refine (KST.out _ hr).mono ?_
  clear hr x0 x1 x2 x3 x4 x5 x6 x7 x8 x9 x10 v0 v1 v2
  rintro e w3 ⟨rfl, hr⟩
  have m0 := HQlR.out _ hr
  have x0 := m0.cell_at 0 rfl
  have x1 := m0.cell_at 1 rfl
  have x2 := m0.cell_at 2 rfl
  have x3 := m0.cell_at 3 rfl
  have x4 := m0.cell_at 4 rfl
  have x5 := m0.cell_at 5 rfl
  have x6 := m0.cell_at 6 rfl
  have x7 := m0.cell_at 7 rfl
  have x8 := m0.cell_at 8 rfl
  have x9 := m0.cell_at 9 rfl
  have x10 := m0.cell_at 10 rfl
  clear m0
  have m0 := HQpR.out _ hr
  have y0 := m0.cell_at 0 rfl
  have y1 := m0.cell_at 1 rfl
  have y2 := m0.cell_at 2 rfl
  clear m0
  go_wp2_with fail
  refine (KG5.out _ hr).mono ?_
  clear hr x0 x1 x2 x3 x4 x5 x6 x7 x8 x9 x10 y0 y1 y2
  rintro e w4 ⟨rfl, hr⟩
  obtain ⟨wk, rfl⟩ : ∃ W, W = w4 := ⟨_, rfl⟩
  by_cases h0 : 0 < p.ss.length
  rotate_left
  · have h0' : ¬ (0 : Int) < p.ss.length := by omega
    have hE : ok = st := by
      rw [← HOK.out, ← HST.out]
      unfold okV
      rw [List.eq_nil_of_length_eq_zero (by omega : p.ss.length = 0)]
      exact Bool.and_true _
    subst hE
    go_upto_region 10 with (fail)
    clear h0 h0'
    have m0 := HQp.out _ (HRq.out _ hr)
    have y0 := m0.cell_at 0 rfl
    have y1 := m0.cell_at 1 rfl
    have y2 := m0.cell_at 2 rfl
    clear m0
    go_upto_region 11 with (fail)
    clear y0 y1 y2
    obtain ⟨gq, hgq⟩ : ∃ g, wk.heap.size = g := ⟨_, rfl⟩
    obtain ⟨W5, hW5⟩ : ∃ W5, wk.alloc (.cells #[.int .i64 p.s, .int .i64 p.x, .slice p.A p.ss.length p.c] 32) = W5 := ⟨_, rfl⟩
    have hr5 : Q W5 := by rw [← hW5]; exact HQ.out _ _ (HRq.out _ hr) (below1 _ _)
    have hb5 : Whole W5 gq 32 p.cells := by rw [← hW5]; exact Whole.new_at _ _ p.cells _ hgq.symm
    have z2 := hb5.cell_at 2 rfl
    have f2 := hb5.frozen 2
    try rw [hW5]
    try rw [hgq]
    have HS5 : Hid (Q W5 ∧ Whole W5 gq 32 p.cells ∧ Row W5 gq A' (ms.flatMap stpCells) ∧ W5.heap.size = gq + 1 ∧ w.heap.size + 1 + 1 < gq) := Lib.hid ⟨hr5, hb5, by rw [← hW5, ← hgq]; exact (HRr.out _ hr).below (below1 _ _), by rw [← hW5]; simp; omega, by have := (HQv.out _ (HRq.out _ hr)).lt; omega⟩
    clear hW5 hr hb5 hr5 hgq
    go_upto_region 12 with (fail)
    clear z2 f2
    obtain ⟨W6, hW6⟩ : ∃ W6, W5.setCell ⟨gq, 2, none⟩ (.slice A' n1 c') = W6 := ⟨_, rfl⟩
    obtain ⟨R2, HR2c, HR2r, HQq2, hr2⟩ : ∃ R2 : World → Prop, Hid (Closed R2) ∧ Hid (∀ W, R2 W → Q W ∧ Row W W.heap.size A' (ms.flatMap stpCells)) ∧ Hid (∀ W, R2 W → Whole W gq 32 [.int .i64 p.s, .int .i64 p.x, .slice A' n1 c']) ∧ R2 W6 := by
      obtain ⟨h1, h2, h3, h4, h5⟩ := HS5.out
      refine ⟨fun W => (Q W ∧ Row W W.heap.size A' (ms.flatMap stpCells)) ∧ Whole W gq 32 [.int .i64 p.s, .int .i64 p.x, .slice A' n1 c'], Lib.hid ((HQ.out.and (fun _ _ h hB => h.on hB)).and (Closed.whole _ _ _)), Lib.hid fun _ h => h.1, Lib.hid fun _ h => h.2, ?_⟩
      rw [← hW6]
      refine ⟨⟨HQ0.out _ ((HQb.out _ h1).setCell (p := ⟨gq, 2, none⟩) (by show w.heap.size ≤ gq; omega) _) ((HQl.out _ h1).far (p := ⟨gq, 2, none⟩) (by show w.heap.size ≠ gq; omega) _) ((HQp.out _ h1).far (p := ⟨gq, 2, none⟩) (by show w.heap.size + 1 ≠ gq; omega) _) ((HQv.out _ h1).far (p := ⟨gq, 2, none⟩) (by show w.heap.size + 1 + 1 ≠ gq; omega) _), ?_⟩, h2.set 2 _⟩
      exact (h3.setCell (p := ⟨gq, 2, none⟩) (Nat.le_refl _) _).mono (by simp [World.setCell]; omega)
    try rw [hW6]
    clear hW6 HS5
    have HQp2 : Hid (∀ W, R2 W → Whole W (w.heap.size + 1) 32 p.cells) := Lib.hid fun W hW => HQp.out _ (HR2r.out W hW).1
    have HQl2 : Hid (∀ W, R2 W → Whole W w.heap.size 29 l.cells) := Lib.hid fun W hW => HQl.out _ (HR2r.out W hW).1
    have HQv2 : Hid (∀ W, R2 W → Whole W (w.heap.size + 1 + 1) 50 (stpCells (s, i, o))) := Lib.hid fun W hW => HQv.out _ (HR2r.out W hW).1
    have HQb2 : Hid (∀ W, R2 W → Below w.heap.size w W) := Lib.hid fun W hW => HQb.out _ (HR2r.out W hW).1
    have KT : Hid (∀ W, R2 W → Calls Tryz.prog 16 #[p.val, .slice A vs.length c] W fun e w' => e = .returned (.bool t) ∧ R2 w') := Lib.hid fun W hW => keepR HR2c.out (through11_any (HPW.out W (HR2r.out W hW).1).1 (HPW.out W (HR2r.out W hW).1).2 HC.out.1 HC.out.2 HTT.out) hW
    have K6 : Hid (∀ W, R2 W → Calls Tryz.prog 14 #[l.val, .slice A' n1 c'] W fun e w' => e = .returned (.bool (g && ok)) ∧ R2 w') := Lib.hid fun W hW => by
      have h := goes11_any (w := W) (HTW.out W (HR2r.out W hW).1).1 (HTW.out W (HR2r.out W hW).1).2 (ss := ms) (A := A') c' (HR2r.out W hW).2 (by have := HML.out; have := HN1.out; have := HL30.out; omega) (r := (g && ok)) (by rw [← HMS.out, goes_ok, HG.out, HOK.out])
      rw [HML.out] at h
      exact keepR HR2c.out h hW
    have KQ : Hid (∀ W, R2 W → t = true → Calls Tryz.prog 16 #[.agg #[.int .i64 p.s, .int .i64 p.x, .slice A' n1 c'], .slice A vs.length c] W fun e w' => e = .returned (.bool true) ∧ R2 w') := Lib.hid fun W hW e => by
      have h := through11_any (w := W) (p := ⟨p.s, p.x, A', c', ms⟩) ⟨(HR2r.out W hW).2, by have := HML.out; have := HN1.out; have := HL30.out; simp only; omega⟩ (HPW.out W (HR2r.out W hW).1).2 HC.out.1 HC.out.2 (r := true) (by
        show throughV (secsS ms) vs = true
        rw [← HMS.out]
        unfold secsS
        rw [List.map_append]
        exact through_append _ _ _ (HTT.out.trans e))
      change Calls Tryz.prog 16 #[.agg #[.int .i64 p.s, .int .i64 p.x, .slice A' ms.length c'], .slice A vs.length c] W _ at h
      rw [HML.out] at h
      exact keepR HR2c.out h hW
    have KQ2 : Hid (∀ W (X : Option Addr) (d : Nat), R2 W → Row W W.heap.size X ((vs ++ [s]).flatMap intCells) ∧ vs.length + 1 ≤ d → Calls Tryz.prog 16 #[.agg #[.int .i64 p.s, .int .i64 p.x, .slice A' n1 c'], .slice X (vs.length + 1) d] W fun e w' => e = .returned (.bool t) ∧ Below W.heap.size W w') := Lib.hid fun W X d hW hX => by
      have hl : (vs ++ [s]).length = vs.length + 1 := List.length_append
      have h := through11_any (w := W) (p := ⟨p.s, p.x, A', c', ms⟩) ⟨(HR2r.out W hW).2, by have := HML.out; have := HN1.out; have := HL30.out; simp only; omega⟩ (vs := vs ++ [s]) (A := X) (c := d) (by rw [← nums_flat]; exact hX.1) (by rw [hl]; exact hX.2) (by rw [hl]; have := HL30.out; omega) (r := t) (by
        show throughV (secsS ms) (vs ++ [s]) = t
        rw [← HMS.out]
        unfold secsS
        rw [List.map_append]
        exact (through_snoc _ _ _).trans HTT.out)
      change Calls Tryz.prog 16 #[.agg #[.int .i64 p.s, .int .i64 p.x, .slice A' ms.length c'], .slice X (vs ++ [s]).length d] W _ at h
      rw [HML.out, hl] at h
      exact h
    have KW2 : Hid (∀ W, R2 W → Calls Tryz.prog 9 #[] W fun e w' => e = .returned (.bool true) ∧ Below W.heap.size W w') := Lib.hid fun W hW => KWB.out W (HR2r.out W hW).1
    have m0 := HQp2.out _ hr2
    have y0 := m0.cell_at 0 rfl
    have y1 := m0.cell_at 1 rfl
    have y2 := m0.cell_at 2 rfl
    clear m0
    go_wp2_with fail
    refine (KT.out _ hr2).mono ?_
    clear hr2 y0 y1 y2
    rintro e w7 ⟨rfl, hr2⟩
    go_upto_region 13 with (fail)
    go_cut [92] from 76 to 92 (fun v wx => v = .bool false ∧ Hid (R2 wx))
    case first =>
      have m0 := HQl2.out _ hr2
      have x0 := m0.cell_at 0 rfl
      have x1 := m0.cell_at 1 rfl
      have x2 := m0.cell_at 2 rfl
      have x3 := m0.cell_at 3 rfl
      have x4 := m0.cell_at 4 rfl
      have x5 := m0.cell_at 5 rfl
      have x6 := m0.cell_at 6 rfl
      have x7 := m0.cell_at 7 rfl
      have x8 := m0.cell_at 8 rfl
      have x9 := m0.cell_at 9 rfl
      have x10 := m0.cell_at 10 rfl
      clear m0
      have hoo : (ok != ok) = false := by simp
      cases g
      · go_wp2_with fail
        refine (K6.out _ hr2).mono ?_
        clear hr2 x0 x1 x2 x3 x4 x5 x6 x7 x8 x9 x10
        rintro e w8 ⟨rfl, hr2⟩
        cases t
        · go_wp2_with fail
          go_meet
          exact ⟨rfl, Lib.hid hr2⟩
        · have m0 := HQq2.out _ hr2
          have q0 := m0.cell_at 0 rfl
          have q1 := m0.cell_at 1 rfl
          have q2 := m0.cell_at 2 rfl
          clear m0
          go_wp2_with fail
          refine (KQ.out _ hr2 (by trivial)).mono ?_
          clear hr2 q0 q1 q2
          rintro e w9 ⟨rfl, hr2⟩
          go_wp2_with fail
          go_meet
          exact ⟨rfl, Lib.hid hr2⟩
      · go_wp2_with fail
        refine (K6.out _ hr2).mono ?_
        clear hr2 x0 x1 x2 x3 x4 x5 x6 x7 x8 x9 x10
        rintro e w8 ⟨rfl, hr2⟩
        rw [Bool.true_and]
        cases t
        · go_wp2_with fail
          go_meet
          exact ⟨rfl, Lib.hid hr2⟩
        · have m0 := HQq2.out _ hr2
          have q0 := m0.cell_at 0 rfl
          have q1 := m0.cell_at 1 rfl
          have q2 := m0.cell_at 2 rfl
          clear m0
          go_wp2_with fail
          refine (KQ.out _ hr2 (by trivial)).mono ?_
          clear hr2 q0 q1 q2
          rintro e w9 ⟨rfl, hr2⟩
          go_wp2_with fail
          go_meet
          exact ⟨rfl, Lib.hid hr2⟩
    case rest =>
    obtain ⟨rfl, HR13⟩ := hcut
    obtain ⟨wj, rfl⟩ : ∃ W, W = wc := ⟨wc, rfl⟩
    clear KT K6 KQ
    go_upto_region 15 with (fail)
    have tt : (t == t) = true := by simp
    have hr2 := HR13.out
    have HBS : Hid (∀ W, Below wj.heap.size wj W → R2 W) := Lib.hid (fun W hB => HR2c.out _ _ hr2 hB)
    have HRI : ∀ W, Below wj.heap.size wj W → Row W W.heap.size A (vs.flatMap intCells) := fun W hB => by rw [nums_flat]; exact (HPW.out W (HR2r.out W (HBS.out W hB)).1).2
    clear hr2 HR13
    refine region_tree (fun W => Below wj.heap.size wj W) (.fork [(0, false), (2, false), (4, false), (5, false), (9, false)] 1 6 (.fork [] 3 6 (.last [(6, true), (7, true), (8, true), (10, false), (11, false), (12, false), (13, false), (14, false)]) (.last [(3, true), (7, true), (8, true), (10, false), (11, false), (12, false), (13, false), (14, false)])) (.last [(1, true), (3, true), (7, true), (8, true), (10, false), (11, false), (12, false), (13, false), (14, false)])) (by kernel_rfl) (by kernel_rfl) (fun W => Below wj.heap.size wj W) ⟨Closed.below wj, fun _ h => h⟩ (Below.refl _ _).drew ?_
    simp only [wpTree, pickOps, List.getElem?_cons_zero, List.getElem?_cons_succ]
    repeat (first | (refine mix_skip (by rfl) ?_; simp only [Act.put, List.setIfInBounds_toArray, List.set_cons_zero, List.set_cons_succ]) | (refine mix_read _ (by rfl) (fun W hW => by (have hW := HBS.out W hW; have m0 := HQq2.out W hW; have q0 := m0.cell_at 0 rfl; have q1 := m0.cell_at 1 rfl; have q2 := m0.cell_at 2 rfl; clear m0; have m0 := HQv2.out W hW; have v0 := m0.cell_at 0 rfl; have v1 := m0.cell_at 1 rfl; have v2 := m0.cell_at 2 rfl; clear m0; go_simp; first | done | with_reducible rfl)) ?_; simp only [Act.put, List.setIfInBounds_toArray, List.set_cons_zero, List.set_cons_succ]))
    refine mix_nil (fun hF => ⟨?_, ?_⟩)
    · refine mix_make (fun g => .slice (some ⟨g, 0, none⟩) 0 0) wj.heap.size 3 [] ⟨Closed.below wj, fun _ h => h⟩ (fun W hW => hW.size) (by rfl) (fun W hW => by (clear hW; go_simp; first | done | with_reducible rfl)) (fun g0 hg0 => ?_)
      simp only [Act.put, List.setIfInBounds_toArray, List.set_cons_zero, List.set_cons_succ]
      refine mix_nil ?_
      refine mix_nil (fun hF => ⟨?_, ?_⟩)
      · refine mix_yield (X := Option Addr × Nat) (fun B => .slice B.1 vs.length B.2) (fun B W => Below wj.heap.size wj W ∧ W.ownsRow wj.heap.size 3 1 (.slice B.1 vs.length B.2) vs.length (vs.flatMap intCells)) (fun B => ⟨(Closed.below wj).and (Closed.owns _ _ _ _ _ _), fun _ h => h.1⟩) (by rfl) (fun W hW => ?_) (fun C => ?_)
        · obtain ⟨A2, c2, w6, h1, h2, h3, _⟩ := first11 (f := intCells) (size := 1) (fun _ => rfl) oneInt 33 3 (.int .i64 0) 8 Tryz.underlying33 infoInt rfl (by omega) (by omega) hW.1 hW.2 hg0 vs A c (HRI W hW.1) HL30.out.2
          exact ⟨(A2, c2), w6, exec_append (.tmp 94) (.tmp 95) 33 rfl h1, h2, h3⟩
        simp only [Act.put, List.setIfInBounds_toArray, List.set_cons_zero, List.set_cons_succ]
        refine mix_nil ?_
        refine mix_make (fun g => .slice (some ⟨g, 0, none⟩) 1 1) wj.heap.size 3 (intCells s) ⟨(Closed.below wj).and (Closed.owns _ _ _ _ _ _), fun _ h => h.1⟩ (fun W hW => hW.1.size) (by rfl) (fun W hW => by (clear hW; go_simp; first | done | with_reducible rfl)) (fun g1 hg1 => ?_)
        simp only [Act.put, List.setIfInBounds_toArray, List.set_cons_zero, List.set_cons_succ]
        refine mix_yield (X := Option Addr × Nat) (fun B => .slice B.1 (vs.length + 1) B.2) (fun B W => Below wj.heap.size wj W ∧ (Row W W.heap.size B.1 ((vs ++ [s]).flatMap intCells) ∧ vs.length + 1 ≤ B.2)) (fun B => ⟨(Closed.below wj).and (fun _ _ h hB => ⟨h.1.on hB, h.2⟩), fun _ h => h.1⟩) (by rfl) (fun W hW => ?_) (fun D => ?_)
        · obtain ⟨A2, c2, w6, h1, h2, h3, h4⟩ := next11 (f := intCells) (size := 1) (fun _ => rfl) oneInt 33 3 (.int .i64 0) 8 Tryz.underlying33 infoInt rfl (by omega) (by omega) hW.1.1 hW.1.2 hW.2 HL30.out.2
          exact ⟨(A2, c2), w6, exec_append (.tmp 96) (.tmp 99) 33 rfl h1, h2, h3, h4⟩
        simp only [Act.put, List.setIfInBounds_toArray, List.set_cons_zero, List.set_cons_succ]
        refine mix_ask _ _ (.bool t) ⟨(Closed.below wj).and (fun _ _ h hB => ⟨h.1.on hB, h.2⟩), fun _ h => h.1⟩ (by rfl) (fun W hW => by (have hW := HBS.out W hW.1; have m0 := HQq2.out W hW; have q0 := m0.cell_at 0 rfl; have q1 := m0.cell_at 1 rfl; have q2 := m0.cell_at 2 rfl; clear m0; have m0 := HQv2.out W hW; have v0 := m0.cell_at 0 rfl; have v1 := m0.cell_at 1 rfl; have v2 := m0.cell_at 2 rfl; clear m0; go_simp; first | done | rfl)) (fun W hW => KQ2.out W D.1 D.2 (HBS.out W hW.1) hW.2) ?_
        simp only [Act.put, List.setIfInBounds_toArray, List.set_cons_zero, List.set_cons_succ]
        repeat (first | (refine mix_skip (by rfl) ?_; simp only [Act.put, List.setIfInBounds_toArray, List.set_cons_zero, List.set_cons_succ]) | (refine mix_read _ (by rfl) (fun W hW => by (have hW := HBS.out W hW; have m0 := HQq2.out W hW; have q0 := m0.cell_at 0 rfl; have q1 := m0.cell_at 1 rfl; have q2 := m0.cell_at 2 rfl; clear m0; have m0 := HQv2.out W hW; have v0 := m0.cell_at 0 rfl; have v1 := m0.cell_at 1 rfl; have v2 := m0.cell_at 2 rfl; clear m0; go_simp; first | done | with_reducible rfl)) ?_; simp only [Act.put, List.setIfInBounds_toArray, List.set_cons_zero, List.set_cons_succ]) | (refine mix_call _ _ _ (by rfl) (fun W hW => by (have hW := HBS.out W hW; have m0 := HQq2.out W hW; have q0 := m0.cell_at 0 rfl; have q1 := m0.cell_at 1 rfl; have q2 := m0.cell_at 2 rfl; clear m0; have m0 := HQv2.out W hW; have v0 := m0.cell_at 0 rfl; have v1 := m0.cell_at 1 rfl; have v2 := m0.cell_at 2 rfl; clear m0; go_simp; first | done | rfl)) (fun W hW => KW2.out W (HBS.out W hW)) ?_; simp only [Act.put, List.setIfInBounds_toArray, List.set_cons_zero, List.set_cons_succ]))
        refine mix_nil (fun W hW => ?_)
        have hf := HQb2.out _ (HBS.out W hW.1)
        clear hW HBS
        go_wp2_with fail
        go_ret
        exact ⟨rfl, hf⟩
      · refine mix_make (fun g => .slice (some ⟨g, 0, none⟩) 1 1) wj.heap.size 3 (intCells s) ⟨(Closed.below wj).and (Closed.whole _ _ _), fun _ h => h.1⟩ (fun W hW => hW.1.size) (by rfl) (fun W hW => by (clear hW; go_simp; first | done | with_reducible rfl)) (fun g1 hg1 => ?_)
        simp only [Act.put, List.setIfInBounds_toArray, List.set_cons_zero, List.set_cons_succ]
        refine mix_nil ?_
        refine mix_yield (X := Option Addr × Nat) (fun B => .slice B.1 vs.length B.2) (fun B W => (Below wj.heap.size wj W ∧ W.ownsRow wj.heap.size 3 1 (.slice B.1 vs.length B.2) vs.length (vs.flatMap intCells)) ∧ Whole W g1 3 (intCells s)) (fun B => ⟨((Closed.below wj).and (Closed.owns _ _ _ _ _ _)).and (Closed.whole _ _ _), fun _ h => h.1.1⟩) (by rfl) (fun W hW => ?_) (fun C => ?_)
        · obtain ⟨A2, c2, w6, h1, h2, h3, h4⟩ := first11 (f := intCells) (size := 1) (fun _ => rfl) oneInt 33 3 (.int .i64 0) 8 Tryz.underlying33 infoInt rfl (by omega) (by omega) hW.1.1 hW.1.2 hg0 vs A c (HRI W hW.1.1) HL30.out.2
          exact ⟨(A2, c2), w6, exec_append (.tmp 94) (.tmp 95) 33 rfl h1, ⟨h2, h3⟩, h4 _ _ _ (fun e => whole_diff hW.1.2 hW.2 (by simp) e.symm) hW.2⟩
        simp only [Act.put, List.setIfInBounds_toArray, List.set_cons_zero, List.set_cons_succ]
        refine mix_yield (X := Option Addr × Nat) (fun B => .slice B.1 (vs.length + 1) B.2) (fun B W => Below wj.heap.size wj W ∧ (Row W W.heap.size B.1 ((vs ++ [s]).flatMap intCells) ∧ vs.length + 1 ≤ B.2)) (fun B => ⟨(Closed.below wj).and (fun _ _ h hB => ⟨h.1.on hB, h.2⟩), fun _ h => h.1⟩) (by rfl) (fun W hW => ?_) (fun D => ?_)
        · obtain ⟨A2, c2, w6, h1, h2, h3, h4⟩ := next11 (f := intCells) (size := 1) (fun _ => rfl) oneInt 33 3 (.int .i64 0) 8 Tryz.underlying33 infoInt rfl (by omega) (by omega) hW.1.1 hW.1.2 hW.2 HL30.out.2
          exact ⟨(A2, c2), w6, exec_append (.tmp 96) (.tmp 99) 33 rfl h1, h2, h3, h4⟩
        simp only [Act.put, List.setIfInBounds_toArray, List.set_cons_zero, List.set_cons_succ]
        refine mix_ask _ _ (.bool t) ⟨(Closed.below wj).and (fun _ _ h hB => ⟨h.1.on hB, h.2⟩), fun _ h => h.1⟩ (by rfl) (fun W hW => by (have hW := HBS.out W hW.1; have m0 := HQq2.out W hW; have q0 := m0.cell_at 0 rfl; have q1 := m0.cell_at 1 rfl; have q2 := m0.cell_at 2 rfl; clear m0; have m0 := HQv2.out W hW; have v0 := m0.cell_at 0 rfl; have v1 := m0.cell_at 1 rfl; have v2 := m0.cell_at 2 rfl; clear m0; go_simp; first | done | rfl)) (fun W hW => KQ2.out W D.1 D.2 (HBS.out W hW.1) hW.2) ?_
        simp only [Act.put, List.setIfInBounds_toArray, List.set_cons_zero, List.set_cons_succ]
        repeat (first | (refine mix_skip (by rfl) ?_; simp only [Act.put, List.setIfInBounds_toArray, List.set_cons_zero, List.set_cons_succ]) | (refine mix_read _ (by rfl) (fun W hW => by (have hW := HBS.out W hW; have m0 := HQq2.out W hW; have q0 := m0.cell_at 0 rfl; have q1 := m0.cell_at 1 rfl; have q2 := m0.cell_at 2 rfl; clear m0; have m0 := HQv2.out W hW; have v0 := m0.cell_at 0 rfl; have v1 := m0.cell_at 1 rfl; have v2 := m0.cell_at 2 rfl; clear m0; go_simp; first | done | with_reducible rfl)) ?_; simp only [Act.put, List.setIfInBounds_toArray, List.set_cons_zero, List.set_cons_succ]) | (refine mix_call _ _ _ (by rfl) (fun W hW => by (have hW := HBS.out W hW; have m0 := HQq2.out W hW; have q0 := m0.cell_at 0 rfl; have q1 := m0.cell_at 1 rfl; have q2 := m0.cell_at 2 rfl; clear m0; have m0 := HQv2.out W hW; have v0 := m0.cell_at 0 rfl; have v1 := m0.cell_at 1 rfl; have v2 := m0.cell_at 2 rfl; clear m0; go_simp; first | done | rfl)) (fun W hW => KW2.out W (HBS.out W hW)) ?_; simp only [Act.put, List.setIfInBounds_toArray, List.set_cons_zero, List.set_cons_succ]))
        refine mix_nil (fun W hW => ?_)
        have hf := HQb2.out _ (HBS.out W hW.1)
        clear hW HBS
        go_wp2_with fail
        go_ret
        exact ⟨rfl, hf⟩
    · refine mix_make (fun g => .slice (some ⟨g, 0, none⟩) 1 1) wj.heap.size 3 (intCells s) ⟨Closed.below wj, fun _ h => h⟩ (fun W hW => hW.size) (by rfl) (fun W hW => by (clear hW; go_simp; first | done | with_reducible rfl)) (fun g1 hg1 => ?_)
      simp only [Act.put, List.setIfInBounds_toArray, List.set_cons_zero, List.set_cons_succ]
      refine mix_nil ?_
      refine mix_make (fun g => .slice (some ⟨g, 0, none⟩) 0 0) wj.heap.size 3 [] ⟨(Closed.below wj).and (Closed.whole _ _ _), fun _ h => h.1⟩ (fun W hW => hW.1.size) (by rfl) (fun W hW => by (clear hW; go_simp; first | done | with_reducible rfl)) (fun g0 hg0 => ?_)
      simp only [Act.put, List.setIfInBounds_toArray, List.set_cons_zero, List.set_cons_succ]
      refine mix_yield (X := Option Addr × Nat) (fun B => .slice B.1 vs.length B.2) (fun B W => (Below wj.heap.size wj W ∧ W.ownsRow wj.heap.size 3 1 (.slice B.1 vs.length B.2) vs.length (vs.flatMap intCells)) ∧ Whole W g1 3 (intCells s)) (fun B => ⟨((Closed.below wj).and (Closed.owns _ _ _ _ _ _)).and (Closed.whole _ _ _), fun _ h => h.1.1⟩) (by rfl) (fun W hW => ?_) (fun C => ?_)
      · obtain ⟨A2, c2, w6, h1, h2, h3, h4⟩ := first11 (f := intCells) (size := 1) (fun _ => rfl) oneInt 33 3 (.int .i64 0) 8 Tryz.underlying33 infoInt rfl (by omega) (by omega) hW.1.1 hW.2 hg0 vs A c (HRI W hW.1.1) HL30.out.2
        exact ⟨(A2, c2), w6, exec_append (.tmp 94) (.tmp 95) 33 rfl h1, ⟨h2, h3⟩, h4 _ _ _ (fun e => whole_diff hW.2 hW.1.2 (by simp) e.symm) hW.1.2⟩
      simp only [Act.put, List.setIfInBounds_toArray, List.set_cons_zero, List.set_cons_succ]
      refine mix_yield (X := Option Addr × Nat) (fun B => .slice B.1 (vs.length + 1) B.2) (fun B W => Below wj.heap.size wj W ∧ (Row W W.heap.size B.1 ((vs ++ [s]).flatMap intCells) ∧ vs.length + 1 ≤ B.2)) (fun B => ⟨(Closed.below wj).and (fun _ _ h hB => ⟨h.1.on hB, h.2⟩), fun _ h => h.1⟩) (by rfl) (fun W hW => ?_) (fun D => ?_)
      · obtain ⟨A2, c2, w6, h1, h2, h3, h4⟩ := next11 (f := intCells) (size := 1) (fun _ => rfl) oneInt 33 3 (.int .i64 0) 8 Tryz.underlying33 infoInt rfl (by omega) (by omega) hW.1.1 hW.1.2 hW.2 HL30.out.2
        exact ⟨(A2, c2), w6, exec_append (.tmp 96) (.tmp 99) 33 rfl h1, h2, h3, h4⟩
      simp only [Act.put, List.setIfInBounds_toArray, List.set_cons_zero, List.set_cons_succ]
      refine mix_ask _ _ (.bool t) ⟨(Closed.below wj).and (fun _ _ h hB => ⟨h.1.on hB, h.2⟩), fun _ h => h.1⟩ (by rfl) (fun W hW => by (have hW := HBS.out W hW.1; have m0 := HQq2.out W hW; have q0 := m0.cell_at 0 rfl; have q1 := m0.cell_at 1 rfl; have q2 := m0.cell_at 2 rfl; clear m0; have m0 := HQv2.out W hW; have v0 := m0.cell_at 0 rfl; have v1 := m0.cell_at 1 rfl; have v2 := m0.cell_at 2 rfl; clear m0; go_simp; first | done | rfl)) (fun W hW => KQ2.out W D.1 D.2 (HBS.out W hW.1) hW.2) ?_
      simp only [Act.put, List.setIfInBounds_toArray, List.set_cons_zero, List.set_cons_succ]
      repeat (first | (refine mix_skip (by rfl) ?_; simp only [Act.put, List.setIfInBounds_toArray, List.set_cons_zero, List.set_cons_succ]) | (refine mix_read _ (by rfl) (fun W hW => by (have hW := HBS.out W hW; have m0 := HQq2.out W hW; have q0 := m0.cell_at 0 rfl; have q1 := m0.cell_at 1 rfl; have q2 := m0.cell_at 2 rfl; clear m0; have m0 := HQv2.out W hW; have v0 := m0.cell_at 0 rfl; have v1 := m0.cell_at 1 rfl; have v2 := m0.cell_at 2 rfl; clear m0; go_simp; first | done | with_reducible rfl)) ?_; simp only [Act.put, List.setIfInBounds_toArray, List.set_cons_zero, List.set_cons_succ]) | (refine mix_call _ _ _ (by rfl) (fun W hW => by (have hW := HBS.out W hW; have m0 := HQq2.out W hW; have q0 := m0.cell_at 0 rfl; have q1 := m0.cell_at 1 rfl; have q2 := m0.cell_at 2 rfl; clear m0; have m0 := HQv2.out W hW; have v0 := m0.cell_at 0 rfl; have v1 := m0.cell_at 1 rfl; have v2 := m0.cell_at 2 rfl; clear m0; go_simp; first | done | rfl)) (fun W hW => KW2.out W (HBS.out W hW)) ?_; simp only [Act.put, List.setIfInBounds_toArray, List.set_cons_zero, List.set_cons_succ]))
      refine mix_nil (fun W hW => ?_)
      have hf := HQb2.out _ (HBS.out W hW.1)
      clear hW HBS
      go_wp2_with fail
      go_ret
      exact ⟨rfl, hf⟩
  have h0' : (0 : Int) < p.ss.length := by omega
  obtain ⟨m, hm⟩ : ∃ m, p.ss.length = m + 1 := ⟨p.ss.length - 1, by omega⟩
  obtain ⟨⟨z1, z2, z3⟩, hz⟩ : ∃ x, p.ss[m]? = some x := ⟨_, List.getElem?_eq_getElem (by omega)⟩
  obtain ⟨b, off, HPA, HC1, HC1'⟩ := row_at (f := stpCells) (n := 3) (fun _ => rfl) (by omega) (fun W hW => (HPW.out W (HRq.out W hW)).1.row) hr hz
  have c0 := HC1.out _ hr m _ _ hz rfl
  have c1 := HC1'.out _ hr m _ 1 _ hz rfl
  have c2 := HC1'.out _ hr m _ 2 _ hz rfl
  have hwm : IntKind.i64.wrap ((p.ss.length : Int) - 1) = (m : Int) := by have := HL30.out; rw [IntWalk.i64_in _ (by omega)]; omega
  have hml : (m : Int) < p.ss.length := by omega
  have hpA := HPA.out
  have HZ : Hid (p.ss.getLast? = some (z1, z2, z3)) := Lib.hid (by rw [List.getLast?_eq_getElem?, hm]; exact hz)
  have m0 := HQpR.out _ hr
  have y2 := m0.cell_at 2 rfl
  rw [hpA] at y2
  clear m0 hm hz HC1 HC1'
  obtain ⟨gz, hgz⟩ : ∃ g, wk.heap.size = g := ⟨_, rfl⟩
  obtain ⟨W5, hW5⟩ : ∃ W5, wk.alloc (.cells #[.int .i64 z1, .int .i64 z2, .int .i64 z3] 50) = W5 := ⟨_, rfl⟩
  have hr5 : R W5 := by rw [← hW5]; exact HRc.out _ _ hr (below1 _ _)
  have hb5 : Whole W5 gz 50 (stpCells (z1, z2, z3)) := by rw [← hW5]; exact Whole.new_at _ _ (stpCells (z1, z2, z3)) _ hgz.symm
  go_upto_region 9 with (fail)
  try rw [hW5]
  try rw [hgz]
  clear c0 c1 c2 y2 hW5 hgz hr hpA
  obtain ⟨⟨q1, q2⟩, hbv⟩ : ∃ q, beyondV l z1 z3 = q := ⟨_, rfl⟩
  obtain ⟨d, hd⟩ : ∃ d, decide ((q1, q2) = (s, i)) = d := ⟨_, rfl⟩
  have HE : Hid (ok = (st && d)) := Lib.hid (by
    rw [← HOK.out, ← HST.out, ← hd, ← hbv]
    unfold okV
    rw [HZ.out])
  have HNQ : Hid (∀ W, (binOp .eql 46 (prtV q1 q2) (prtV s i)).run Tryz.prog W = .ok (.bool d) W) := Lib.hid fun W => by
    rw [eql_prt, ← hd]
    congr 2
    rw [Bool.eq_iff_iff]
    simp
  have HBV := Lib.hid hbv
  clear hbv hd
  go_cut [12] from 54 to 69 (fun v wx => v = .bool ok ∧ Hid (R wx))
  case first =>
    obtain ⟨T, HTc, HTr, HTz, hq⟩ : ∃ T : World → Prop, Hid (Closed T) ∧ Hid (∀ W, T W → R W) ∧ Hid (∀ W, T W → Whole W gz 50 (stpCells (z1, z2, z3))) ∧ T W5 := ⟨fun W => R W ∧ Whole W gz 50 (stpCells (z1, z2, z3)), Lib.hid (HRc.out.and (Closed.whole _ _ _)), Lib.hid fun _ h => h.1, Lib.hid fun _ h => h.2, hr5, hb5⟩
    have KB : Hid (∀ W, T W → Calls Tryz.prog 24 #[l.val, prtV z1 z3] W fun e w' => e = .returned (prtV q1 q2) ∧ Below W.heap.size W w') := Lib.hid fun W hW => beyondJ_B (HTW.out W (HRq.out W (HTr.out W hW))).2 z1 z3 HBV.out
    clear hr5 hb5
    cases st
    · have HBS : Hid (∀ W, Below W5.heap.size W5 W → T W) := Lib.hid (fun W hB => HTc.out _ _ hq hB)
      clear hq
      refine region_mix (Below W5.heap.size W5) [(0, false), (1, false), (2, false), (3, false), (4, false), (5, false), (6, false), (7, false), (8, false), (9, false), (10, false), (11, false), (12, false), (13, false), (14, false), (15, false), (16, false)] (by kernel_rfl) (by kernel_rfl) (Below W5.heap.size W5) ⟨Closed.below W5, fun _ h => h⟩ (Below.refl _ _).drew ?_
      simp only [pickOps, List.getElem?_cons_zero, List.getElem?_cons_succ]
      repeat (first | (refine mix_skip (by rfl) ?_; simp only [Act.put, List.setIfInBounds_toArray, List.set_cons_zero, List.set_cons_succ]) | (refine mix_read _ (by rfl) (fun W hW => by (have hW := HBS.out W hW; have m0 := HQlR.out W (HTr.out W hW); have x0 := m0.cell_at 0 rfl; have x1 := m0.cell_at 1 rfl; have x2 := m0.cell_at 2 rfl; have x3 := m0.cell_at 3 rfl; have x4 := m0.cell_at 4 rfl; have x5 := m0.cell_at 5 rfl; have x6 := m0.cell_at 6 rfl; have x7 := m0.cell_at 7 rfl; have x8 := m0.cell_at 8 rfl; have x9 := m0.cell_at 9 rfl; have x10 := m0.cell_at 10 rfl; clear m0; have m0 := HQvR.out W (HTr.out W hW); have v0 := m0.cell_at 0 rfl; have v1 := m0.cell_at 1 rfl; have v2 := m0.cell_at 2 rfl; clear m0; have m0 := HTz.out W hW; have u0 := m0.cell_at 0 rfl; have u1 := m0.cell_at 1 rfl; have u2 := m0.cell_at 2 rfl; clear m0; have hnq := HNQ.out; go_simp; first | done | with_reducible rfl)) ?_; simp only [Act.put, List.setIfInBounds_toArray, List.set_cons_zero, List.set_cons_succ]))
      refine mix_nil (fun W hW => ?_)
      have hr9 := HTr.out _ (HBS.out W hW)
      clear hW HBS
      go_wp2_with fail
      go_meet
      exact ⟨by rw [HE.out]; rfl, Lib.hid hr9⟩
    · have HBS : Hid (∀ W, Below W5.heap.size W5 W → T W) := Lib.hid (fun W hB => HTc.out _ _ hq hB)
      clear hq
      refine region_mix (Below W5.heap.size W5) [(0, false), (1, false), (2, false), (3, false), (4, false), (5, false), (6, false), (7, false), (8, false), (9, false), (10, false), (11, false), (12, false), (13, false), (14, false), (15, false), (16, false)] (by kernel_rfl) (by kernel_rfl) (Below W5.heap.size W5) ⟨Closed.below W5, fun _ h => h⟩ (Below.refl _ _).drew ?_
      simp only [pickOps, List.getElem?_cons_zero, List.getElem?_cons_succ]
      repeat (first | (refine mix_skip (by rfl) ?_; simp only [Act.put, List.setIfInBounds_toArray, List.set_cons_zero, List.set_cons_succ]) | (refine mix_read _ (by rfl) (fun W hW => by (have hW := HBS.out W hW; have m0 := HQlR.out W (HTr.out W hW); have x0 := m0.cell_at 0 rfl; have x1 := m0.cell_at 1 rfl; have x2 := m0.cell_at 2 rfl; have x3 := m0.cell_at 3 rfl; have x4 := m0.cell_at 4 rfl; have x5 := m0.cell_at 5 rfl; have x6 := m0.cell_at 6 rfl; have x7 := m0.cell_at 7 rfl; have x8 := m0.cell_at 8 rfl; have x9 := m0.cell_at 9 rfl; have x10 := m0.cell_at 10 rfl; clear m0; have m0 := HQvR.out W (HTr.out W hW); have v0 := m0.cell_at 0 rfl; have v1 := m0.cell_at 1 rfl; have v2 := m0.cell_at 2 rfl; clear m0; have m0 := HTz.out W hW; have u0 := m0.cell_at 0 rfl; have u1 := m0.cell_at 1 rfl; have u2 := m0.cell_at 2 rfl; clear m0; have hnq := HNQ.out; go_simp; first | done | with_reducible rfl)) ?_; simp only [Act.put, List.setIfInBounds_toArray, List.set_cons_zero, List.set_cons_succ]) | (refine mix_call _ _ _ (by rfl) (fun W hW => by (have hW := HBS.out W hW; have m0 := HQlR.out W (HTr.out W hW); have x0 := m0.cell_at 0 rfl; have x1 := m0.cell_at 1 rfl; have x2 := m0.cell_at 2 rfl; have x3 := m0.cell_at 3 rfl; have x4 := m0.cell_at 4 rfl; have x5 := m0.cell_at 5 rfl; have x6 := m0.cell_at 6 rfl; have x7 := m0.cell_at 7 rfl; have x8 := m0.cell_at 8 rfl; have x9 := m0.cell_at 9 rfl; have x10 := m0.cell_at 10 rfl; clear m0; have m0 := HQvR.out W (HTr.out W hW); have v0 := m0.cell_at 0 rfl; have v1 := m0.cell_at 1 rfl; have v2 := m0.cell_at 2 rfl; clear m0; have m0 := HTz.out W hW; have u0 := m0.cell_at 0 rfl; have u1 := m0.cell_at 1 rfl; have u2 := m0.cell_at 2 rfl; clear m0; have hnq := HNQ.out; go_simp; first | done | rfl)) (fun W hW => KB.out W (HBS.out W hW)) ?_; simp only [Act.put, List.setIfInBounds_toArray, List.set_cons_zero, List.set_cons_succ]))
      refine mix_nil (fun W hW => ?_)
      have hr9 := HTr.out _ (HBS.out W hW)
      clear hW HBS
      go_wp2_with fail
      go_meet
      exact ⟨by rw [HE.out, Bool.true_and], Lib.hid hr9⟩
  case rest =>
  obtain ⟨rfl, HR9⟩ := hcut
  obtain ⟨wk, rfl⟩ : ∃ W, W = wc := ⟨wc, rfl⟩
  have hr := HR9.out
  clear HR9 hr5 hb5 h0 h0' hwm hml
  go_upto_region 10 with (fail)
  have m0 := HQp.out _ (HRq.out _ hr)
  have y0 := m0.cell_at 0 rfl
  have y1 := m0.cell_at 1 rfl
  have y2 := m0.cell_at 2 rfl
  clear m0
  go_upto_region 11 with (fail)
  clear y0 y1 y2
  obtain ⟨gq, hgq⟩ : ∃ g, wk.heap.size = g := ⟨_, rfl⟩
  obtain ⟨W5, hW5⟩ : ∃ W5, wk.alloc (.cells #[.int .i64 p.s, .int .i64 p.x, .slice p.A p.ss.length p.c] 32) = W5 := ⟨_, rfl⟩
  have hr5 : Q W5 := by rw [← hW5]; exact HQ.out _ _ (HRq.out _ hr) (below1 _ _)
  have hb5 : Whole W5 gq 32 p.cells := by rw [← hW5]; exact Whole.new_at _ _ p.cells _ hgq.symm
  have z2 := hb5.cell_at 2 rfl
  have f2 := hb5.frozen 2
  try rw [hW5]
  try rw [hgq]
  have HS5 : Hid (Q W5 ∧ Whole W5 gq 32 p.cells ∧ Row W5 gq A' (ms.flatMap stpCells) ∧ W5.heap.size = gq + 1 ∧ w.heap.size + 1 + 1 < gq) := Lib.hid ⟨hr5, hb5, by rw [← hW5, ← hgq]; exact (HRr.out _ hr).below (below1 _ _), by rw [← hW5]; simp; omega, by have := (HQv.out _ (HRq.out _ hr)).lt; omega⟩
  clear hW5 hr hb5 hr5 hgq
  go_upto_region 12 with (fail)
  clear z2 f2
  obtain ⟨W6, hW6⟩ : ∃ W6, W5.setCell ⟨gq, 2, none⟩ (.slice A' n1 c') = W6 := ⟨_, rfl⟩
  obtain ⟨R2, HR2c, HR2r, HQq2, hr2⟩ : ∃ R2 : World → Prop, Hid (Closed R2) ∧ Hid (∀ W, R2 W → Q W ∧ Row W W.heap.size A' (ms.flatMap stpCells)) ∧ Hid (∀ W, R2 W → Whole W gq 32 [.int .i64 p.s, .int .i64 p.x, .slice A' n1 c']) ∧ R2 W6 := by
    obtain ⟨h1, h2, h3, h4, h5⟩ := HS5.out
    refine ⟨fun W => (Q W ∧ Row W W.heap.size A' (ms.flatMap stpCells)) ∧ Whole W gq 32 [.int .i64 p.s, .int .i64 p.x, .slice A' n1 c'], Lib.hid ((HQ.out.and (fun _ _ h hB => h.on hB)).and (Closed.whole _ _ _)), Lib.hid fun _ h => h.1, Lib.hid fun _ h => h.2, ?_⟩
    rw [← hW6]
    refine ⟨⟨HQ0.out _ ((HQb.out _ h1).setCell (p := ⟨gq, 2, none⟩) (by show w.heap.size ≤ gq; omega) _) ((HQl.out _ h1).far (p := ⟨gq, 2, none⟩) (by show w.heap.size ≠ gq; omega) _) ((HQp.out _ h1).far (p := ⟨gq, 2, none⟩) (by show w.heap.size + 1 ≠ gq; omega) _) ((HQv.out _ h1).far (p := ⟨gq, 2, none⟩) (by show w.heap.size + 1 + 1 ≠ gq; omega) _), ?_⟩, h2.set 2 _⟩
    exact (h3.setCell (p := ⟨gq, 2, none⟩) (Nat.le_refl _) _).mono (by simp [World.setCell]; omega)
  try rw [hW6]
  clear hW6 HS5
  have HQp2 : Hid (∀ W, R2 W → Whole W (w.heap.size + 1) 32 p.cells) := Lib.hid fun W hW => HQp.out _ (HR2r.out W hW).1
  have HQl2 : Hid (∀ W, R2 W → Whole W w.heap.size 29 l.cells) := Lib.hid fun W hW => HQl.out _ (HR2r.out W hW).1
  have HQv2 : Hid (∀ W, R2 W → Whole W (w.heap.size + 1 + 1) 50 (stpCells (s, i, o))) := Lib.hid fun W hW => HQv.out _ (HR2r.out W hW).1
  have HQb2 : Hid (∀ W, R2 W → Below w.heap.size w W) := Lib.hid fun W hW => HQb.out _ (HR2r.out W hW).1
  have KT : Hid (∀ W, R2 W → Calls Tryz.prog 16 #[p.val, .slice A vs.length c] W fun e w' => e = .returned (.bool t) ∧ R2 w') := Lib.hid fun W hW => keepR HR2c.out (through11_any (HPW.out W (HR2r.out W hW).1).1 (HPW.out W (HR2r.out W hW).1).2 HC.out.1 HC.out.2 HTT.out) hW
  have K6 : Hid (∀ W, R2 W → Calls Tryz.prog 14 #[l.val, .slice A' n1 c'] W fun e w' => e = .returned (.bool (g && ok)) ∧ R2 w') := Lib.hid fun W hW => by
    have h := goes11_any (w := W) (HTW.out W (HR2r.out W hW).1).1 (HTW.out W (HR2r.out W hW).1).2 (ss := ms) (A := A') c' (HR2r.out W hW).2 (by have := HML.out; have := HN1.out; have := HL30.out; omega) (r := (g && ok)) (by rw [← HMS.out, goes_ok, HG.out, HOK.out])
    rw [HML.out] at h
    exact keepR HR2c.out h hW
  have KQ : Hid (∀ W, R2 W → t = true → Calls Tryz.prog 16 #[.agg #[.int .i64 p.s, .int .i64 p.x, .slice A' n1 c'], .slice A vs.length c] W fun e w' => e = .returned (.bool true) ∧ R2 w') := Lib.hid fun W hW e => by
    have h := through11_any (w := W) (p := ⟨p.s, p.x, A', c', ms⟩) ⟨(HR2r.out W hW).2, by have := HML.out; have := HN1.out; have := HL30.out; simp only; omega⟩ (HPW.out W (HR2r.out W hW).1).2 HC.out.1 HC.out.2 (r := true) (by
      show throughV (secsS ms) vs = true
      rw [← HMS.out]
      unfold secsS
      rw [List.map_append]
      exact through_append _ _ _ (HTT.out.trans e))
    change Calls Tryz.prog 16 #[.agg #[.int .i64 p.s, .int .i64 p.x, .slice A' ms.length c'], .slice A vs.length c] W _ at h
    rw [HML.out] at h
    exact keepR HR2c.out h hW
  have KQ2 : Hid (∀ W (X : Option Addr) (d : Nat), R2 W → Row W W.heap.size X ((vs ++ [s]).flatMap intCells) ∧ vs.length + 1 ≤ d → Calls Tryz.prog 16 #[.agg #[.int .i64 p.s, .int .i64 p.x, .slice A' n1 c'], .slice X (vs.length + 1) d] W fun e w' => e = .returned (.bool t) ∧ Below W.heap.size W w') := Lib.hid fun W X d hW hX => by
    have hl : (vs ++ [s]).length = vs.length + 1 := List.length_append
    have h := through11_any (w := W) (p := ⟨p.s, p.x, A', c', ms⟩) ⟨(HR2r.out W hW).2, by have := HML.out; have := HN1.out; have := HL30.out; simp only; omega⟩ (vs := vs ++ [s]) (A := X) (c := d) (by rw [← nums_flat]; exact hX.1) (by rw [hl]; exact hX.2) (by rw [hl]; have := HL30.out; omega) (r := t) (by
      show throughV (secsS ms) (vs ++ [s]) = t
      rw [← HMS.out]
      unfold secsS
      rw [List.map_append]
      exact (through_snoc _ _ _).trans HTT.out)
    change Calls Tryz.prog 16 #[.agg #[.int .i64 p.s, .int .i64 p.x, .slice A' ms.length c'], .slice X (vs ++ [s]).length d] W _ at h
    rw [HML.out, hl] at h
    exact h
  have KW2 : Hid (∀ W, R2 W → Calls Tryz.prog 9 #[] W fun e w' => e = .returned (.bool true) ∧ Below W.heap.size W w') := Lib.hid fun W hW => KWB.out W (HR2r.out W hW).1
  have m0 := HQp2.out _ hr2
  have y0 := m0.cell_at 0 rfl
  have y1 := m0.cell_at 1 rfl
  have y2 := m0.cell_at 2 rfl
  clear m0
  go_wp2_with fail
  refine (KT.out _ hr2).mono ?_
  clear hr2 y0 y1 y2
  rintro e w7 ⟨rfl, hr2⟩
  go_upto_region 13 with (fail)
  go_cut [92] from 76 to 92 (fun v wx => v = .bool false ∧ Hid (R2 wx))
  case first =>
    have m0 := HQl2.out _ hr2
    have x0 := m0.cell_at 0 rfl
    have x1 := m0.cell_at 1 rfl
    have x2 := m0.cell_at 2 rfl
    have x3 := m0.cell_at 3 rfl
    have x4 := m0.cell_at 4 rfl
    have x5 := m0.cell_at 5 rfl
    have x6 := m0.cell_at 6 rfl
    have x7 := m0.cell_at 7 rfl
    have x8 := m0.cell_at 8 rfl
    have x9 := m0.cell_at 9 rfl
    have x10 := m0.cell_at 10 rfl
    clear m0
    have hoo : (ok != ok) = false := by simp
    cases g
    · go_wp2_with fail
      refine (K6.out _ hr2).mono ?_
      clear hr2 x0 x1 x2 x3 x4 x5 x6 x7 x8 x9 x10
      rintro e w8 ⟨rfl, hr2⟩
      cases t
      · go_wp2_with fail
        go_meet
        exact ⟨rfl, Lib.hid hr2⟩
      · have m0 := HQq2.out _ hr2
        have q0 := m0.cell_at 0 rfl
        have q1 := m0.cell_at 1 rfl
        have q2 := m0.cell_at 2 rfl
        clear m0
        go_wp2_with fail
        refine (KQ.out _ hr2 (by trivial)).mono ?_
        clear hr2 q0 q1 q2
        rintro e w9 ⟨rfl, hr2⟩
        go_wp2_with fail
        go_meet
        exact ⟨rfl, Lib.hid hr2⟩
    · go_wp2_with fail
      refine (K6.out _ hr2).mono ?_
      clear hr2 x0 x1 x2 x3 x4 x5 x6 x7 x8 x9 x10
      rintro e w8 ⟨rfl, hr2⟩
      rw [Bool.true_and]
      cases t
      · go_wp2_with fail
        go_meet
        exact ⟨rfl, Lib.hid hr2⟩
      · have m0 := HQq2.out _ hr2
        have q0 := m0.cell_at 0 rfl
        have q1 := m0.cell_at 1 rfl
        have q2 := m0.cell_at 2 rfl
        clear m0
        go_wp2_with fail
        refine (KQ.out _ hr2 (by trivial)).mono ?_
        clear hr2 q0 q1 q2
        rintro e w9 ⟨rfl, hr2⟩
        go_wp2_with fail
        go_meet
        exact ⟨rfl, Lib.hid hr2⟩
  case rest =>
  obtain ⟨rfl, HR13⟩ := hcut
  obtain ⟨wj, rfl⟩ : ∃ W, W = wc := ⟨wc, rfl⟩
  clear KT K6 KQ
  go_upto_region 15 with (fail)
  have tt : (t == t) = true := by simp
  have hr2 := HR13.out
  have HBS : Hid (∀ W, Below wj.heap.size wj W → R2 W) := Lib.hid (fun W hB => HR2c.out _ _ hr2 hB)
  have HRI : ∀ W, Below wj.heap.size wj W → Row W W.heap.size A (vs.flatMap intCells) := fun W hB => by rw [nums_flat]; exact (HPW.out W (HR2r.out W (HBS.out W hB)).1).2
  clear hr2 HR13
  refine region_tree (fun W => Below wj.heap.size wj W) (.fork [(0, false), (2, false), (4, false), (5, false), (9, false)] 1 6 (.fork [] 3 6 (.last [(6, true), (7, true), (8, true), (10, false), (11, false), (12, false), (13, false), (14, false)]) (.last [(3, true), (7, true), (8, true), (10, false), (11, false), (12, false), (13, false), (14, false)])) (.last [(1, true), (3, true), (7, true), (8, true), (10, false), (11, false), (12, false), (13, false), (14, false)])) (by kernel_rfl) (by kernel_rfl) (fun W => Below wj.heap.size wj W) ⟨Closed.below wj, fun _ h => h⟩ (Below.refl _ _).drew ?_
  simp only [wpTree, pickOps, List.getElem?_cons_zero, List.getElem?_cons_succ]
  repeat (first | (refine mix_skip (by rfl) ?_; simp only [Act.put, List.setIfInBounds_toArray, List.set_cons_zero, List.set_cons_succ]) | (refine mix_read _ (by rfl) (fun W hW => by (have hW := HBS.out W hW; have m0 := HQq2.out W hW; have q0 := m0.cell_at 0 rfl; have q1 := m0.cell_at 1 rfl; have q2 := m0.cell_at 2 rfl; clear m0; have m0 := HQv2.out W hW; have v0 := m0.cell_at 0 rfl; have v1 := m0.cell_at 1 rfl; have v2 := m0.cell_at 2 rfl; clear m0; go_simp; first | done | with_reducible rfl)) ?_; simp only [Act.put, List.setIfInBounds_toArray, List.set_cons_zero, List.set_cons_succ]))
  refine mix_nil (fun hF => ⟨?_, ?_⟩)
  · refine mix_make (fun g => .slice (some ⟨g, 0, none⟩) 0 0) wj.heap.size 3 [] ⟨Closed.below wj, fun _ h => h⟩ (fun W hW => hW.size) (by rfl) (fun W hW => by (clear hW; go_simp; first | done | with_reducible rfl)) (fun g0 hg0 => ?_)
    simp only [Act.put, List.setIfInBounds_toArray, List.set_cons_zero, List.set_cons_succ]
    refine mix_nil ?_
    refine mix_nil (fun hF => ⟨?_, ?_⟩)
    · refine mix_yield (X := Option Addr × Nat) (fun B => .slice B.1 vs.length B.2) (fun B W => Below wj.heap.size wj W ∧ W.ownsRow wj.heap.size 3 1 (.slice B.1 vs.length B.2) vs.length (vs.flatMap intCells)) (fun B => ⟨(Closed.below wj).and (Closed.owns _ _ _ _ _ _), fun _ h => h.1⟩) (by rfl) (fun W hW => ?_) (fun C => ?_)
      · obtain ⟨A2, c2, w6, h1, h2, h3, _⟩ := first11 (f := intCells) (size := 1) (fun _ => rfl) oneInt 33 3 (.int .i64 0) 8 Tryz.underlying33 infoInt rfl (by omega) (by omega) hW.1 hW.2 hg0 vs A c (HRI W hW.1) HL30.out.2
        exact ⟨(A2, c2), w6, exec_append (.tmp 94) (.tmp 95) 33 rfl h1, h2, h3⟩
      simp only [Act.put, List.setIfInBounds_toArray, List.set_cons_zero, List.set_cons_succ]
      refine mix_nil ?_
      refine mix_make (fun g => .slice (some ⟨g, 0, none⟩) 1 1) wj.heap.size 3 (intCells s) ⟨(Closed.below wj).and (Closed.owns _ _ _ _ _ _), fun _ h => h.1⟩ (fun W hW => hW.1.size) (by rfl) (fun W hW => by (clear hW; go_simp; first | done | with_reducible rfl)) (fun g1 hg1 => ?_)
      simp only [Act.put, List.setIfInBounds_toArray, List.set_cons_zero, List.set_cons_succ]
      refine mix_yield (X := Option Addr × Nat) (fun B => .slice B.1 (vs.length + 1) B.2) (fun B W => Below wj.heap.size wj W ∧ (Row W W.heap.size B.1 ((vs ++ [s]).flatMap intCells) ∧ vs.length + 1 ≤ B.2)) (fun B => ⟨(Closed.below wj).and (fun _ _ h hB => ⟨h.1.on hB, h.2⟩), fun _ h => h.1⟩) (by rfl) (fun W hW => ?_) (fun D => ?_)
      · obtain ⟨A2, c2, w6, h1, h2, h3, h4⟩ := next11 (f := intCells) (size := 1) (fun _ => rfl) oneInt 33 3 (.int .i64 0) 8 Tryz.underlying33 infoInt rfl (by omega) (by omega) hW.1.1 hW.1.2 hW.2 HL30.out.2
        exact ⟨(A2, c2), w6, exec_append (.tmp 96) (.tmp 99) 33 rfl h1, h2, h3, h4⟩
      simp only [Act.put, List.setIfInBounds_toArray, List.set_cons_zero, List.set_cons_succ]
      refine mix_ask _ _ (.bool t) ⟨(Closed.below wj).and (fun _ _ h hB => ⟨h.1.on hB, h.2⟩), fun _ h => h.1⟩ (by rfl) (fun W hW => by (have hW := HBS.out W hW.1; have m0 := HQq2.out W hW; have q0 := m0.cell_at 0 rfl; have q1 := m0.cell_at 1 rfl; have q2 := m0.cell_at 2 rfl; clear m0; have m0 := HQv2.out W hW; have v0 := m0.cell_at 0 rfl; have v1 := m0.cell_at 1 rfl; have v2 := m0.cell_at 2 rfl; clear m0; go_simp; first | done | rfl)) (fun W hW => KQ2.out W D.1 D.2 (HBS.out W hW.1) hW.2) ?_
      simp only [Act.put, List.setIfInBounds_toArray, List.set_cons_zero, List.set_cons_succ]
      repeat (first | (refine mix_skip (by rfl) ?_; simp only [Act.put, List.setIfInBounds_toArray, List.set_cons_zero, List.set_cons_succ]) | (refine mix_read _ (by rfl) (fun W hW => by (have hW := HBS.out W hW; have m0 := HQq2.out W hW; have q0 := m0.cell_at 0 rfl; have q1 := m0.cell_at 1 rfl; have q2 := m0.cell_at 2 rfl; clear m0; have m0 := HQv2.out W hW; have v0 := m0.cell_at 0 rfl; have v1 := m0.cell_at 1 rfl; have v2 := m0.cell_at 2 rfl; clear m0; go_simp; first | done | with_reducible rfl)) ?_; simp only [Act.put, List.setIfInBounds_toArray, List.set_cons_zero, List.set_cons_succ]) | (refine mix_call _ _ _ (by rfl) (fun W hW => by (have hW := HBS.out W hW; have m0 := HQq2.out W hW; have q0 := m0.cell_at 0 rfl; have q1 := m0.cell_at 1 rfl; have q2 := m0.cell_at 2 rfl; clear m0; have m0 := HQv2.out W hW; have v0 := m0.cell_at 0 rfl; have v1 := m0.cell_at 1 rfl; have v2 := m0.cell_at 2 rfl; clear m0; go_simp; first | done | rfl)) (fun W hW => KW2.out W (HBS.out W hW)) ?_; simp only [Act.put, List.setIfInBounds_toArray, List.set_cons_zero, List.set_cons_succ]))
      refine mix_nil (fun W hW => ?_)
      have hf := HQb2.out _ (HBS.out W hW.1)
      clear hW HBS
      go_wp2_with fail
      go_ret
      exact ⟨rfl, hf⟩
    · refine mix_make (fun g => .slice (some ⟨g, 0, none⟩) 1 1) wj.heap.size 3 (intCells s) ⟨(Closed.below wj).and (Closed.whole _ _ _), fun _ h => h.1⟩ (fun W hW => hW.1.size) (by rfl) (fun W hW => by (clear hW; go_simp; first | done | with_reducible rfl)) (fun g1 hg1 => ?_)
      simp only [Act.put, List.setIfInBounds_toArray, List.set_cons_zero, List.set_cons_succ]
      refine mix_nil ?_
      refine mix_yield (X := Option Addr × Nat) (fun B => .slice B.1 vs.length B.2) (fun B W => (Below wj.heap.size wj W ∧ W.ownsRow wj.heap.size 3 1 (.slice B.1 vs.length B.2) vs.length (vs.flatMap intCells)) ∧ Whole W g1 3 (intCells s)) (fun B => ⟨((Closed.below wj).and (Closed.owns _ _ _ _ _ _)).and (Closed.whole _ _ _), fun _ h => h.1.1⟩) (by rfl) (fun W hW => ?_) (fun C => ?_)
      · obtain ⟨A2, c2, w6, h1, h2, h3, h4⟩ := first11 (f := intCells) (size := 1) (fun _ => rfl) oneInt 33 3 (.int .i64 0) 8 Tryz.underlying33 infoInt rfl (by omega) (by omega) hW.1.1 hW.1.2 hg0 vs A c (HRI W hW.1.1) HL30.out.2
        exact ⟨(A2, c2), w6, exec_append (.tmp 94) (.tmp 95) 33 rfl h1, ⟨h2, h3⟩, h4 _ _ _ (fun e => whole_diff hW.1.2 hW.2 (by simp) e.symm) hW.2⟩
      simp only [Act.put, List.setIfInBounds_toArray, List.set_cons_zero, List.set_cons_succ]
      refine mix_yield (X := Option Addr × Nat) (fun B => .slice B.1 (vs.length + 1) B.2) (fun B W => Below wj.heap.size wj W ∧ (Row W W.heap.size B.1 ((vs ++ [s]).flatMap intCells) ∧ vs.length + 1 ≤ B.2)) (fun B => ⟨(Closed.below wj).and (fun _ _ h hB => ⟨h.1.on hB, h.2⟩), fun _ h => h.1⟩) (by rfl) (fun W hW => ?_) (fun D => ?_)
      · obtain ⟨A2, c2, w6, h1, h2, h3, h4⟩ := next11 (f := intCells) (size := 1) (fun _ => rfl) oneInt 33 3 (.int .i64 0) 8 Tryz.underlying33 infoInt rfl (by omega) (by omega) hW.1.1 hW.1.2 hW.2 HL30.out.2
        exact ⟨(A2, c2), w6, exec_append (.tmp 96) (.tmp 99) 33 rfl h1, h2, h3, h4⟩
      simp only [Act.put, List.setIfInBounds_toArray, List.set_cons_zero, List.set_cons_succ]
      refine mix_ask _ _ (.bool t) ⟨(Closed.below wj).and (fun _ _ h hB => ⟨h.1.on hB, h.2⟩), fun _ h => h.1⟩ (by rfl) (fun W hW => by (have hW := HBS.out W hW.1; have m0 := HQq2.out W hW; have q0 := m0.cell_at 0 rfl; have q1 := m0.cell_at 1 rfl; have q2 := m0.cell_at 2 rfl; clear m0; have m0 := HQv2.out W hW; have v0 := m0.cell_at 0 rfl; have v1 := m0.cell_at 1 rfl; have v2 := m0.cell_at 2 rfl; clear m0; go_simp; first | done | rfl)) (fun W hW => KQ2.out W D.1 D.2 (HBS.out W hW.1) hW.2) ?_
      simp only [Act.put, List.setIfInBounds_toArray, List.set_cons_zero, List.set_cons_succ]
      repeat (first | (refine mix_skip (by rfl) ?_; simp only [Act.put, List.setIfInBounds_toArray, List.set_cons_zero, List.set_cons_succ]) | (refine mix_read _ (by rfl) (fun W hW => by (have hW := HBS.out W hW; have m0 := HQq2.out W hW; have q0 := m0.cell_at 0 rfl; have q1 := m0.cell_at 1 rfl; have q2 := m0.cell_at 2 rfl; clear m0; have m0 := HQv2.out W hW; have v0 := m0.cell_at 0 rfl; have v1 := m0.cell_at 1 rfl; have v2 := m0.cell_at 2 rfl; clear m0; go_simp; first | done | with_reducible rfl)) ?_; simp only [Act.put, List.setIfInBounds_toArray, List.set_cons_zero, List.set_cons_succ]) | (refine mix_call _ _ _ (by rfl) (fun W hW => by (have hW := HBS.out W hW; have m0 := HQq2.out W hW; have q0 := m0.cell_at 0 rfl; have q1 := m0.cell_at 1 rfl; have q2 := m0.cell_at 2 rfl; clear m0; have m0 := HQv2.out W hW; have v0 := m0.cell_at 0 rfl; have v1 := m0.cell_at 1 rfl; have v2 := m0.cell_at 2 rfl; clear m0; go_simp; first | done | rfl)) (fun W hW => KW2.out W (HBS.out W hW)) ?_; simp only [Act.put, List.setIfInBounds_toArray, List.set_cons_zero, List.set_cons_succ]))
      refine mix_nil (fun W hW => ?_)
      have hf := HQb2.out _ (HBS.out W hW.1)
      clear hW HBS
      go_wp2_with fail
      go_ret
      exact ⟨rfl, hf⟩
  · refine mix_make (fun g => .slice (some ⟨g, 0, none⟩) 1 1) wj.heap.size 3 (intCells s) ⟨Closed.below wj, fun _ h => h⟩ (fun W hW => hW.size) (by rfl) (fun W hW => by (clear hW; go_simp; first | done | with_reducible rfl)) (fun g1 hg1 => ?_)
    simp only [Act.put, List.setIfInBounds_toArray, List.set_cons_zero, List.set_cons_succ]
    refine mix_nil ?_
    refine mix_make (fun g => .slice (some ⟨g, 0, none⟩) 0 0) wj.heap.size 3 [] ⟨(Closed.below wj).and (Closed.whole _ _ _), fun _ h => h.1⟩ (fun W hW => hW.1.size) (by rfl) (fun W hW => by (clear hW; go_simp; first | done | with_reducible rfl)) (fun g0 hg0 => ?_)
    simp only [Act.put, List.setIfInBounds_toArray, List.set_cons_zero, List.set_cons_succ]
    refine mix_yield (X := Option Addr × Nat) (fun B => .slice B.1 vs.length B.2) (fun B W => (Below wj.heap.size wj W ∧ W.ownsRow wj.heap.size 3 1 (.slice B.1 vs.length B.2) vs.length (vs.flatMap intCells)) ∧ Whole W g1 3 (intCells s)) (fun B => ⟨((Closed.below wj).and (Closed.owns _ _ _ _ _ _)).and (Closed.whole _ _ _), fun _ h => h.1.1⟩) (by rfl) (fun W hW => ?_) (fun C => ?_)
    · obtain ⟨A2, c2, w6, h1, h2, h3, h4⟩ := first11 (f := intCells) (size := 1) (fun _ => rfl) oneInt 33 3 (.int .i64 0) 8 Tryz.underlying33 infoInt rfl (by omega) (by omega) hW.1.1 hW.2 hg0 vs A c (HRI W hW.1.1) HL30.out.2
      exact ⟨(A2, c2), w6, exec_append (.tmp 94) (.tmp 95) 33 rfl h1, ⟨h2, h3⟩, h4 _ _ _ (fun e => whole_diff hW.2 hW.1.2 (by simp) e.symm) hW.1.2⟩
    simp only [Act.put, List.setIfInBounds_toArray, List.set_cons_zero, List.set_cons_succ]
    refine mix_yield (X := Option Addr × Nat) (fun B => .slice B.1 (vs.length + 1) B.2) (fun B W => Below wj.heap.size wj W ∧ (Row W W.heap.size B.1 ((vs ++ [s]).flatMap intCells) ∧ vs.length + 1 ≤ B.2)) (fun B => ⟨(Closed.below wj).and (fun _ _ h hB => ⟨h.1.on hB, h.2⟩), fun _ h => h.1⟩) (by rfl) (fun W hW => ?_) (fun D => ?_)
    · obtain ⟨A2, c2, w6, h1, h2, h3, h4⟩ := next11 (f := intCells) (size := 1) (fun _ => rfl) oneInt 33 3 (.int .i64 0) 8 Tryz.underlying33 infoInt rfl (by omega) (by omega) hW.1.1 hW.1.2 hW.2 HL30.out.2
      exact ⟨(A2, c2), w6, exec_append (.tmp 96) (.tmp 99) 33 rfl h1, h2, h3, h4⟩
    simp only [Act.put, List.setIfInBounds_toArray, List.set_cons_zero, List.set_cons_succ]
    refine mix_ask _ _ (.bool t) ⟨(Closed.below wj).and (fun _ _ h hB => ⟨h.1.on hB, h.2⟩), fun _ h => h.1⟩ (by rfl) (fun W hW => by (have hW := HBS.out W hW.1; have m0 := HQq2.out W hW; have q0 := m0.cell_at 0 rfl; have q1 := m0.cell_at 1 rfl; have q2 := m0.cell_at 2 rfl; clear m0; have m0 := HQv2.out W hW; have v0 := m0.cell_at 0 rfl; have v1 := m0.cell_at 1 rfl; have v2 := m0.cell_at 2 rfl; clear m0; go_simp; first | done | rfl)) (fun W hW => KQ2.out W D.1 D.2 (HBS.out W hW.1) hW.2) ?_
    simp only [Act.put, List.setIfInBounds_toArray, List.set_cons_zero, List.set_cons_succ]
    repeat (first | (refine mix_skip (by rfl) ?_; simp only [Act.put, List.setIfInBounds_toArray, List.set_cons_zero, List.set_cons_succ]) | (refine mix_read _ (by rfl) (fun W hW => by (have hW := HBS.out W hW; have m0 := HQq2.out W hW; have q0 := m0.cell_at 0 rfl; have q1 := m0.cell_at 1 rfl; have q2 := m0.cell_at 2 rfl; clear m0; have m0 := HQv2.out W hW; have v0 := m0.cell_at 0 rfl; have v1 := m0.cell_at 1 rfl; have v2 := m0.cell_at 2 rfl; clear m0; go_simp; first | done | with_reducible rfl)) ?_; simp only [Act.put, List.setIfInBounds_toArray, List.set_cons_zero, List.set_cons_succ]) | (refine mix_call _ _ _ (by rfl) (fun W hW => by (have hW := HBS.out W hW; have m0 := HQq2.out W hW; have q0 := m0.cell_at 0 rfl; have q1 := m0.cell_at 1 rfl; have q2 := m0.cell_at 2 rfl; clear m0; have m0 := HQv2.out W hW; have v0 := m0.cell_at 0 rfl; have v1 := m0.cell_at 1 rfl; have v2 := m0.cell_at 2 rfl; clear m0; go_simp; first | done | rfl)) (fun W hW => KW2.out W (HBS.out W hW)) ?_; simp only [Act.put, List.setIfInBounds_toArray, List.set_cons_zero, List.set_cons_succ]))
    refine mix_nil (fun W hW => ?_)
    have hf := HQb2.out _ (HBS.out W hW.1)
    clear hW HBS
    go_wp2_with fail
    go_ret
    exact ⟨rfl, hf⟩

end Go.Proofs.YtlfpkileblmhoaaGreatDoor
