/- The walk of JoinTells: what the document's own layer 7 answers. -/
import Derived.Test.YtaelcmamgcndmaaDoorQJoinX
import Derived.Test.YtaelcmamgcndmaaDoorQJoinK
import Derived.Test.YtaelcmamgcndmaaDoorQC
namespace Go.Proofs.YtaelcmamgcndmaaDoor
open Go.RowKit Go.Shelf
set_option linter.unusedVariables false
set_option linter.unusedSimpArgs false

theorem intsT_B {a : List Int} {A B : Option Addr} (c d : Nat) {n : Nat} {W : World} (hA : Row W W.heap.size A (nums .i64 a)) (hB : Row W W.heap.size B (nums .i64 a)) (hn : a.length = n) (h1 : n ≤ 1000) :
    Calls Tryd.prog 18 #[.slice A n c, .slice B n d] W fun e w' => e = .returned (.bool true) ∧ Below W.heap.size W w' :=
  (intsJ_P (P := fun W' => (Below W.heap.size W W' ∧ Row W' W'.heap.size A (nums .i64 a)) ∧ Row W' W'.heap.size B (nums .i64 a)) c d n n (fun w h => h.1.2) (fun w h => h.2) (((Closed.below W).and (fun _ _ h hB => h.on hB)).and (fun _ _ h hB => h.on hB)) hn hn h1 (decide_eq_true rfl) ⟨⟨Below.refl _ _, hA⟩, hB⟩).mono fun e w' h => ⟨h.1, h.2.1.1⟩
theorem allL_le (l : Lay) (i : Int) : (allL l i).length ≤ l.secs.length := by
  unfold allL
  split
  · exact pick_le _ _
  · exact Nat.zero_le _
set_option maxRecDepth 100000 in
set_option maxHeartbeats 8000000 in
theorem joinTells_walk (l : Lay) (s p i : Int) (w : World) (hT : Shapes w) (hL : Lies l w) :
    Calls Tryd.prog 3 #[l.val, prtV s p, .int .i64 i] w fun e w' => e = .returned (.bool true) ∧ Below w.heap.size w w' := by
  obtain ⟨P, HP, HPT, HPL, HPB, hp⟩ := keep_lay hT hL
  obtain ⟨Q, HQ, HQp, HQl, HQv, hq⟩ := keep_box2 HP.out hp 29 31 l.cells (prtCells (s, p))
  have HQT : Hid (∀ W, Q W → Shapes W) := Lib.hid fun W h => HPT.out _ (HQp.out _ h)
  have HQL : Hid (∀ W, Q W → Lies l W) := Lib.hid fun W h => HPL.out _ (HQp.out _ h)
  have HQB : Hid (∀ W, Q W → Below w.heap.size w W) := Lib.hid fun W h => HPB.out _ (HQp.out _ h)
  obtain ⟨g, hg⟩ : ∃ g, greatJ l = g := ⟨_, rfl⟩
  have KG := Lib.hid (fun W hW => greatJ_P (P := Q) (w := W) HQ.out HQL.out hg hW)
  have KW := Lib.hid (fun W hW => wakesJ_P (P := Q) (w := W) HQ.out HQT.out hW)
  obtain ⟨tr, htr⟩ : ∃ tr, thereV l s p = tr := ⟨_, rfl⟩
  obtain ⟨q, hqv⟩ : ∃ q, beyondV l s p = q := ⟨_, rfl⟩
  obtain ⟨jd, hjd⟩ : ∃ jd, joinedL l = jd := ⟨_, rfl⟩
  obtain ⟨ss, hss⟩ : ∃ ss, stepsV l s p = ss := ⟨_, rfl⟩
  obtain ⟨m, hm⟩ : ∃ m, ss.length = m := ⟨_, rfl⟩
  have hm4 : m ≤ 4 := by rw [← hm, ← hss]; unfold stepsV; rw [List.length_map]; exact outsK_le _ _
  obtain ⟨xs1, hxs1⟩ : ∃ xs, nearL l i = xs := ⟨_, rfl⟩
  obtain ⟨xs2, hxs2⟩ : ∃ xs, allL l i = xs := ⟨_, rfl⟩
  obtain ⟨n1, hn1⟩ : ∃ n, xs1.length = n := ⟨_, rfl⟩
  obtain ⟨n2, hn2⟩ : ∃ n, xs2.length = n := ⟨_, rfl⟩
  clear hT hL hp
  go_enter Tryd.func3, Tryd.ntmps3
  have m0 := HQl.out _ hq
  have x0 := m0.cell_at 0 rfl
  have x1 := m0.cell_at 1 rfl
  have x2 := m0.cell_at 2 rfl
  have x3 := m0.cell_at 3 rfl
  have x4 := m0.cell_at 4 rfl
  have x5 := m0.cell_at 5 rfl
  have x6 := m0.cell_at 6 rfl
  have x7 := m0.cell_at 7 rfl
  have x8 := m0.cell_at 8 rfl
  have x9 := m0.cell_at 9 rfl
  have x10 := m0.cell_at 10 rfl
  clear m0
  have m1 := HQv.out _ hq
  have v0 := m1.cell_at 0 rfl
  have v1 := m1.cell_at 1 rfl
  clear m1
  go_wp2_with fail
  refine (KG.out _ hq).mono ?_
  clear x0 x1 x2 x3 x4 x5 x6 x7 x8 x9 x10 v0 v1 hq KG
  rintro e w1 ⟨rfl, hq⟩
  cases g
  rotate_left
  · go_wp2_with fail
    refine (KW.out _ hq).mono ?_
    clear hq
    rintro e w9 ⟨rfl, hq⟩
    go_wp2_with fail
    go_ret
    exact ⟨rfl, HQB.out _ hq⟩
  · have hlen : l.secs.length ≤ 30 := (greatJ_no hg).1
    have hb1 : n1 ≤ 1000 := by rw [← hn1, ← hxs1]; exact Nat.le_trans (pick_le _ _) (by omega)
    have hb2 : n2 ≤ 1000 := by rw [← hn2, ← hxs2]; exact Nat.le_trans (allL_le _ _) (by omega)
    have HLEN := Lib.hid hlen
    have HN1 := Lib.hid hn1
    have HN2 := Lib.hid hn2
    have HN1L := Lib.hid hb1
    have HN2L := Lib.hid hb2
    have HX1 := Lib.hid hxs1
    have HX2 := Lib.hid hxs2
    have HTR := Lib.hid htr
    have HQV := Lib.hid hqv
    have HJD := Lib.hid hjd
    have KSa : Hid (∀ W, Q W → Calls Tryd.prog 10 #[l.val, prtV s p] W fun e w' => ∃ x : Option Addr × Nat, e = .returned (.slice x.1 m x.2) ∧ Row w' w'.heap.size x.1 (ss.flatMap stpCells) ∧ Below W.heap.size W w') := Lib.hid fun W hW =>
      (steps_P (P := fun W' => Below W.heap.size W W') (Closed.below W) (fun W' h => Shapes.closed _ _ (HQT.out W hW) h) (fun W' h => Lies.closed l _ _ (HQL.out W hW) h) s p hss hm (Below.refl _ _)).mono fun e w' ⟨A, c, h1, h2, h3, h4⟩ => ⟨(A, c), h1, h3, h4⟩
    have KSb : Hid (∀ W, Q W → Calls Tryd.prog 11 #[l.val, prtV s p] W fun e w' => ∃ x : Option Addr × Nat, e = .returned (.slice x.1 m x.2) ∧ Row w' w'.heap.size x.1 (ss.flatMap stpCells) ∧ Below W.heap.size W w') := Lib.hid fun W hW =>
      (stepsJR_P (P := fun W' => Below W.heap.size W W') (Closed.below W) (fun W' h => Lies.closed l _ _ (HQL.out W hW) h) s p hss hm (Below.refl _ _)).mono fun e w' ⟨A, c, h1, h2, h3, h4⟩ => ⟨(A, c), h1, h3, h4⟩
    clear hg hlen hb1 hb2 hn1 hn2 hxs1 hxs2 htr hqv hjd hss
    go_wp2_with fail
    have HBS : Hid (∀ W, Below w1.heap.size w1 W → Q W) := Lib.hid (fun W hB => HQ.out _ _ hq hB)
    clear hq
    refine region_mix (Below w1.heap.size w1) [(0, false), (1, false), (3, false), (4, false), (2, true), (5, true), (6, false), (7, false)] (by kernel_rfl) (by kernel_rfl) (Below w1.heap.size w1) ⟨Closed.below w1, fun _ h => h⟩ (Below.refl _ _).drew ?_
    simp only [pickOps, List.getElem?_cons_zero, List.getElem?_cons_succ]
    repeat (first | (refine mix_skip (by rfl) ?_; simp only [Act.put, List.setIfInBounds_toArray, List.set_cons_zero, List.set_cons_succ]) | (refine mix_read _ (by rfl) (fun W hW => by (have hW := HBS.out W hW; have m0 := HQl.out _ hW; have x0 := m0.cell_at 0 rfl; have x1 := m0.cell_at 1 rfl; have x2 := m0.cell_at 2 rfl; have x3 := m0.cell_at 3 rfl; have x4 := m0.cell_at 4 rfl; have x5 := m0.cell_at 5 rfl; have x6 := m0.cell_at 6 rfl; have x7 := m0.cell_at 7 rfl; have x8 := m0.cell_at 8 rfl; have x9 := m0.cell_at 9 rfl; have x10 := m0.cell_at 10 rfl; clear m0; have m1 := HQv.out _ hW; have v0 := m1.cell_at 0 rfl; have v1 := m1.cell_at 1 rfl; clear m1; go_simp; first | done | with_reducible rfl)) ?_; simp only [Act.put, List.setIfInBounds_toArray, List.set_cons_zero, List.set_cons_succ]))
    refine mix_meet (fun x : Option Addr × Nat => .slice x.1 m x.2) (fun x W => Row W W.heap.size x.1 (ss.flatMap stpCells)) ⟨(Closed.below w1), fun _ h => h⟩ (fun x W W' h hB => h.on hB) _ _ (by rfl) (fun W hW => by (have hW := HBS.out W hW; have m0 := HQl.out _ hW; have x0 := m0.cell_at 0 rfl; have x1 := m0.cell_at 1 rfl; have x2 := m0.cell_at 2 rfl; have x3 := m0.cell_at 3 rfl; have x4 := m0.cell_at 4 rfl; have x5 := m0.cell_at 5 rfl; have x6 := m0.cell_at 6 rfl; have x7 := m0.cell_at 7 rfl; have x8 := m0.cell_at 8 rfl; have x9 := m0.cell_at 9 rfl; have x10 := m0.cell_at 10 rfl; clear m0; have m1 := HQv.out _ hW; have v0 := m1.cell_at 0 rfl; have v1 := m1.cell_at 1 rfl; clear m1; go_simp; first | done | rfl)) (fun W hW => KSa.out W (HBS.out W hW)) (fun y1 => ?_)
    simp only [Act.put, List.setIfInBounds_toArray, List.set_cons_zero, List.set_cons_succ]
    refine mix_meet (fun x : Option Addr × Nat => .slice x.1 m x.2) (fun x W => Row W W.heap.size x.1 (ss.flatMap stpCells)) ⟨((Closed.below w1).and (fun _ _ h hB => h.on hB)), fun _ h => h.1⟩ (fun x W W' h hB => h.on hB) _ _ (by rfl) (fun W hW => by (have hW := HBS.out W hW.1; have m0 := HQl.out _ hW; have x0 := m0.cell_at 0 rfl; have x1 := m0.cell_at 1 rfl; have x2 := m0.cell_at 2 rfl; have x3 := m0.cell_at 3 rfl; have x4 := m0.cell_at 4 rfl; have x5 := m0.cell_at 5 rfl; have x6 := m0.cell_at 6 rfl; have x7 := m0.cell_at 7 rfl; have x8 := m0.cell_at 8 rfl; have x9 := m0.cell_at 9 rfl; have x10 := m0.cell_at 10 rfl; clear m0; have m1 := HQv.out _ hW; have v0 := m1.cell_at 0 rfl; have v1 := m1.cell_at 1 rfl; clear m1; go_simp; first | done | rfl)) (fun W hW => KSb.out W (HBS.out W hW.1)) (fun y2 => ?_)
    simp only [Act.put, List.setIfInBounds_toArray, List.set_cons_zero, List.set_cons_succ]
    repeat (first | (refine mix_skip (by rfl) ?_; simp only [Act.put, List.setIfInBounds_toArray, List.set_cons_zero, List.set_cons_succ]) | (refine mix_read _ (by rfl) (fun W hW => by (have hW := HBS.out W hW; have m0 := HQl.out _ hW; have x0 := m0.cell_at 0 rfl; have x1 := m0.cell_at 1 rfl; have x2 := m0.cell_at 2 rfl; have x3 := m0.cell_at 3 rfl; have x4 := m0.cell_at 4 rfl; have x5 := m0.cell_at 5 rfl; have x6 := m0.cell_at 6 rfl; have x7 := m0.cell_at 7 rfl; have x8 := m0.cell_at 8 rfl; have x9 := m0.cell_at 9 rfl; have x10 := m0.cell_at 10 rfl; clear m0; have m1 := HQv.out _ hW; have v0 := m1.cell_at 0 rfl; have v1 := m1.cell_at 1 rfl; clear m1; go_simp; first | done | with_reducible rfl)) ?_; simp only [Act.put, List.setIfInBounds_toArray, List.set_cons_zero, List.set_cons_succ]))
    refine mix_nil (fun W hW => ?_)
    obtain ⟨⟨hB, hr1⟩, hr2⟩ := hW
    obtain ⟨A1, c1⟩ := y1
    obtain ⟨A2, c2⟩ := y2
    simp only at hr1 hr2
    have hq := HBS.out _ hB
    obtain ⟨Q3, HQ3, HQ3p, HR1, hq⟩ := keep_row HQ.out hq hr1
    obtain ⟨Q4, HQ4, HQ4p, HR2, hq⟩ := keep_row HQ3.out hq hr2
    have HR1 := Lib.hid (fun W hW => HR1.out W (HQ4p.out W hW))
    have HQl4 := Lib.hid (fun W hW => HQl.out W (HQ3p.out W (HQ4p.out W hW)))
    have HQv4 := Lib.hid (fun W hW => HQv.out W (HQ3p.out W (HQ4p.out W hW)))
    have HT4 : Hid (∀ W, Q4 W → Shapes W) := Lib.hid (fun W hW => HQT.out W (HQ3p.out W (HQ4p.out W hW)))
    have HL4 : Hid (∀ W, Q4 W → Lies l W) := Lib.hid (fun W hW => HQL.out W (HQ3p.out W (HQ4p.out W hW)))
    have HB4 : Hid (∀ W, Q4 W → Below w.heap.size w W) := Lib.hid (fun W hW => HQB.out W (HQ3p.out W (HQ4p.out W hW)))
    clear hB hr1 hr2 HBS KSa KSb KW
    have HSX1 : Hid (∀ (j : Nat) (x : Int × Int × Int), ss[j]? = some x → ∃ sb so, A1 = some ⟨sb, so, none⟩ ∧ ∀ W, Q4 W → W.cell? ⟨sb, so + j * 3, none⟩ = some (.int .i64 x.1) ∧ W.cell? ⟨sb, so + j * 3 + 1, none⟩ = some (.int .i64 x.2.1) ∧ W.cell? ⟨sb, so + j * 3 + 2, none⟩ = some (.int .i64 x.2.2)) := Lib.hid fun j x hj => by
      obtain ⟨sb, so, e, _, _, _⟩ := (HR1.out _ hq).nth (n := 3) (fun _ => rfl) (by omega) hj
      refine ⟨sb, so, e, fun W hW => ?_⟩
      obtain ⟨sb', so', e', _, hc0, hc⟩ := (HR1.out _ hW).nth (n := 3) (fun _ => rfl) (by omega) hj
      rw [e] at e'
      cases e'
      exact ⟨hc0 j _ _ hj rfl, hc j _ 1 _ hj rfl, hc j _ 2 _ hj rfl⟩
    have HSX2 : Hid (∀ (j : Nat) (x : Int × Int × Int), ss[j]? = some x → ∃ sb so, A2 = some ⟨sb, so, none⟩ ∧ ∀ W, Q4 W → W.cell? ⟨sb, so + j * 3, none⟩ = some (.int .i64 x.1) ∧ W.cell? ⟨sb, so + j * 3 + 1, none⟩ = some (.int .i64 x.2.1) ∧ W.cell? ⟨sb, so + j * 3 + 2, none⟩ = some (.int .i64 x.2.2)) := Lib.hid fun j x hj => by
      obtain ⟨sb, so, e, _, _, _⟩ := (HR2.out _ hq).nth (n := 3) (fun _ => rfl) (by omega) hj
      refine ⟨sb, so, e, fun W hW => ?_⟩
      obtain ⟨sb', so', e', _, hc0, hc⟩ := (HR2.out _ hW).nth (n := 3) (fun _ => rfl) (by omega) hj
      rw [e] at e'
      cases e'
      exact ⟨hc0 j _ _ hj rfl, hc j _ 1 _ hj rfl, hc j _ 2 _ hj rfl⟩
    have KHa := Lib.hid (fun W hW => has_B (w := W) (HT4.out W hW) (HL4.out W hW) s p HTR.out)
    have KHb := Lib.hid (fun W hW => hasJ_B (w := W) (HL4.out W hW) s p HTR.out)
    have KBa := Lib.hid (fun W hW => beyond_B (w := W) (HT4.out W hW) (HL4.out W hW) s p HQV.out)
    have KBb := Lib.hid (fun W hW => beyondJ_B (w := W) (HL4.out W hW) s p HQV.out)
    have KJa := Lib.hid (fun W hW => joinedL_any (w := W) (HT4.out W hW) (HL4.out W hW) HJD.out)
    have KJb := Lib.hid (fun W hW => joinedR_any (w := W) (HL4.out W hW) HJD.out)
    have KWk := Lib.hid (fun W hW => wakesJ_P (P := fun W' => Below W.heap.size W W') (w := W) (Closed.below W) (fun W' h => Shapes.closed _ _ (HT4.out W hW) h) (Below.refl _ _))
    have KNa : Hid (∀ W, Q4 W → Calls Tryd.prog 19 #[l.val, .int .i64 i] W fun e w' => ∃ x : Option Addr × Nat, e = .returned (.slice x.1 n1 x.2) ∧ Row w' w'.heap.size x.1 (nums .i64 xs1) ∧ Below W.heap.size W w') := Lib.hid fun W hW =>
      (near_any (HT4.out W hW) (HL4.out W hW) i).mono fun e w' ⟨v, he, hown, hB⟩ => by
        rw [HX1.out, HN1.out] at hown
        obtain ⟨A, c, rfl, hr, _⟩ := owns_slice hown
        exact ⟨(A, c), he, hr, hB⟩
    have KNb : Hid (∀ W, Q4 W → Calls Tryd.prog 20 #[l.val, .int .i64 i] W fun e w' => ∃ x : Option Addr × Nat, e = .returned (.slice x.1 n1 x.2) ∧ Row w' w'.heap.size x.1 (nums .i64 xs1) ∧ Below W.heap.size W w') := Lib.hid fun W hW =>
      (nearR_P (P := fun W' => Below W.heap.size W W') (Closed.below W) (fun W' h => Lies.closed l _ _ (HL4.out W hW) h) i (Nat.le_trans HLEN.out (by omega)) (Below.refl _ _)).mono fun e w' ⟨v, he, hown, hB⟩ => by
        rw [HX1.out, HN1.out] at hown
        obtain ⟨A, c, rfl, hr, _⟩ := owns_slice hown
        exact ⟨(A, c), he, hr, hB.2⟩
    have KAa : Hid (∀ W, Q4 W → Calls Tryd.prog 21 #[l.val, .int .i64 i] W fun e w' => ∃ x : Option Addr × Nat, e = .returned (.slice x.1 n2 x.2) ∧ Row w' w'.heap.size x.1 (nums .i64 xs2) ∧ Below W.heap.size W w') := Lib.hid fun W hW =>
      (all_any (HT4.out W hW) (HL4.out W hW) (Nat.le_trans HLEN.out (by omega)) i).mono fun e w' ⟨v, he, hown, hB⟩ => by
        rw [HX2.out, HN2.out] at hown
        obtain ⟨A, c, rfl, hr, _⟩ := owns_slice hown
        exact ⟨(A, c), he, hr, hB⟩
    have KAb : Hid (∀ W, Q4 W → Calls Tryd.prog 22 #[l.val, .int .i64 i] W fun e w' => ∃ x : Option Addr × Nat, e = .returned (.slice x.1 n2 x.2) ∧ Row w' w'.heap.size x.1 (nums .i64 xs2) ∧ Below W.heap.size W w') := Lib.hid fun W hW =>
      (allR_any (HL4.out W hW) (Nat.le_trans HLEN.out (by omega)) i).mono fun e w' ⟨v, he, hown, hB⟩ => by
        rw [HX2.out, HN2.out] at hown
        obtain ⟨A, c, rfl, hr, _⟩ := owns_slice hown
        exact ⟨(A, c), he, hr, hB⟩
    obtain ⟨qs, qq⟩ := q
    simp only at KBa KBb
    have HE : Hid ((tr == tr) = true ∧ (jd == jd) = true ∧ (qs == qs) = true ∧ (qq == qq) = true) := Lib.hid ⟨by simp, by simp, by simp, by simp⟩
    go_wp2_with fail
    go_loopw [9] (fun i wr => ∃ j : Nat, j ≤ m ∧ i = .int .i64 (j : Int) ∧ Q4 wr)
      (fun i _ => m - (intOf i).toNat)
    case atStart => exact ⟨0, by omega, rfl, hq⟩
    case round =>
      clear hq
      obtain ⟨j, hj, rfl, hq⟩ := hrel
      by_cases hlt : j < m
      · have hlt' : (j : Int) < m := by omega
        obtain ⟨x, hx⟩ : ∃ x, ss[j]? = some x := ⟨_, List.getElem?_eq_getElem (by omega)⟩
        obtain ⟨sb, so, rfl, hS⟩ := HSX1.out j _ hx
        obtain ⟨sb', so', rfl, hS'⟩ := HSX2.out j _ hx
        obtain ⟨a, b, c⟩ := x
        have HS := Lib.hid hS
        have HS2 := Lib.hid hS'
        have HD : Hid ((a != a) = false ∧ (b != b) = false ∧ (c != c) = false) := Lib.hid ⟨by simp, by simp, by simp⟩
        clear hS hS' hx
        go_wp2_with fail
        have HBS : Hid (∀ W, Below wr.heap.size wr W → Q4 W) := Lib.hid (fun W hB => HQ4.out _ _ hq hB)
        clear hq
        refine region_mix (Below wr.heap.size wr) [(0, false), (1, false), (2, false), (3, false), (4, false), (5, false), (6, false), (7, false), (8, false)] (by kernel_rfl) (by kernel_rfl) (Below wr.heap.size wr) ⟨Closed.below wr, fun _ h => h⟩ (Below.refl _ _).drew ?_
        simp only [pickOps, List.getElem?_cons_zero, List.getElem?_cons_succ]
        repeat (first | (refine mix_skip (by rfl) ?_; simp only [Act.put, List.setIfInBounds_toArray, List.set_cons_zero, List.set_cons_succ]) | (refine mix_read _ (by rfl) (fun W hW => by (have hW := HBS.out W hW; have c0 := (HS.out _ hW).1; have c1 := (HS.out _ hW).2.1; have c2 := (HS.out _ hW).2.2; have b0 := (HS2.out _ hW).1; have b1 := (HS2.out _ hW).2.1; have b2 := (HS2.out _ hW).2.2; have d0 := HD.out.1; have d1 := HD.out.2.1; have d2 := HD.out.2.2; go_simp; first | done | with_reducible rfl)) ?_; simp only [Act.put, List.setIfInBounds_toArray, List.set_cons_zero, List.set_cons_succ]))
        refine mix_nil (fun W hW => ?_)
        have hq := HBS.out W hW
        clear hW HBS
        go_wp2_with fail
        go_roundw
        case rel => exact ⟨j + 1, hlt, by go_num, hq⟩
        case measure => simp [intOf]; omega
      · obtain rfl : j = m := by omega
        clear HSX1 HSX2
        go_wp2_with fail
        have HBS : Hid (∀ W, Below wr.heap.size wr W → Q4 W) := Lib.hid (fun W hB => HQ4.out _ _ hq hB)
        clear hq
        refine region_mix (Below wr.heap.size wr) [(0, false), (1, false), (2, false), (3, false), (4, false), (5, false), (6, false), (7, false), (8, false), (9, false), (10, false), (11, false), (12, false), (13, false), (14, false), (15, false), (16, false), (17, false), (18, false), (19, false), (20, false), (21, false), (22, false), (23, false), (24, false), (25, false), (27, false), (28, false), (26, true), (29, true), (30, true), (31, false), (32, false), (33, false), (34, false), (36, false), (37, false), (35, true), (38, true), (39, true), (40, false), (41, false), (42, false), (43, false), (44, false)] (by kernel_rfl) (by kernel_rfl) (Below wr.heap.size wr) ⟨Closed.below wr, fun _ h => h⟩ (Below.refl _ _).drew ?_
        simp only [pickOps, List.getElem?_cons_zero, List.getElem?_cons_succ]
        repeat (first | (refine mix_skip (by rfl) ?_; simp only [Act.put, List.setIfInBounds_toArray, List.set_cons_zero, List.set_cons_succ]) | (refine mix_read _ (by rfl) (fun W hW => by (have hW := HBS.out W hW; have m0 := HQl4.out _ hW; have x0 := m0.cell_at 0 rfl; have x1 := m0.cell_at 1 rfl; have x2 := m0.cell_at 2 rfl; have x3 := m0.cell_at 3 rfl; have x4 := m0.cell_at 4 rfl; have x5 := m0.cell_at 5 rfl; have x6 := m0.cell_at 6 rfl; have x7 := m0.cell_at 7 rfl; have x8 := m0.cell_at 8 rfl; have x9 := m0.cell_at 9 rfl; have x10 := m0.cell_at 10 rfl; clear m0; have m1 := HQv4.out _ hW; have v0 := m1.cell_at 0 rfl; have v1 := m1.cell_at 1 rfl; clear m1; have d0 := HE.out.1; have d1 := HE.out.2.1; have d2 := HE.out.2.2.1; have d3 := HE.out.2.2.2; go_simp; first | done | with_reducible rfl)) ?_; simp only [Act.put, List.setIfInBounds_toArray, List.set_cons_zero, List.set_cons_succ]) | (refine mix_call _ _ _ (by rfl) (fun W hW => by (have hW := HBS.out W hW; have m0 := HQl4.out _ hW; have x0 := m0.cell_at 0 rfl; have x1 := m0.cell_at 1 rfl; have x2 := m0.cell_at 2 rfl; have x3 := m0.cell_at 3 rfl; have x4 := m0.cell_at 4 rfl; have x5 := m0.cell_at 5 rfl; have x6 := m0.cell_at 6 rfl; have x7 := m0.cell_at 7 rfl; have x8 := m0.cell_at 8 rfl; have x9 := m0.cell_at 9 rfl; have x10 := m0.cell_at 10 rfl; clear m0; have m1 := HQv4.out _ hW; have v0 := m1.cell_at 0 rfl; have v1 := m1.cell_at 1 rfl; clear m1; have d0 := HE.out.1; have d1 := HE.out.2.1; have d2 := HE.out.2.2.1; have d3 := HE.out.2.2.2; go_simp; first | done | rfl)) (fun W hW => KHa.out W (HBS.out W hW)) ?_; simp only [Act.put, List.setIfInBounds_toArray, List.set_cons_zero, List.set_cons_succ]) | (refine mix_call _ _ _ (by rfl) (fun W hW => by (have hW := HBS.out W hW; have m0 := HQl4.out _ hW; have x0 := m0.cell_at 0 rfl; have x1 := m0.cell_at 1 rfl; have x2 := m0.cell_at 2 rfl; have x3 := m0.cell_at 3 rfl; have x4 := m0.cell_at 4 rfl; have x5 := m0.cell_at 5 rfl; have x6 := m0.cell_at 6 rfl; have x7 := m0.cell_at 7 rfl; have x8 := m0.cell_at 8 rfl; have x9 := m0.cell_at 9 rfl; have x10 := m0.cell_at 10 rfl; clear m0; have m1 := HQv4.out _ hW; have v0 := m1.cell_at 0 rfl; have v1 := m1.cell_at 1 rfl; clear m1; have d0 := HE.out.1; have d1 := HE.out.2.1; have d2 := HE.out.2.2.1; have d3 := HE.out.2.2.2; go_simp; first | done | rfl)) (fun W hW => KHb.out W (HBS.out W hW)) ?_; simp only [Act.put, List.setIfInBounds_toArray, List.set_cons_zero, List.set_cons_succ]) | (refine mix_call _ _ _ (by rfl) (fun W hW => by (have hW := HBS.out W hW; have m0 := HQl4.out _ hW; have x0 := m0.cell_at 0 rfl; have x1 := m0.cell_at 1 rfl; have x2 := m0.cell_at 2 rfl; have x3 := m0.cell_at 3 rfl; have x4 := m0.cell_at 4 rfl; have x5 := m0.cell_at 5 rfl; have x6 := m0.cell_at 6 rfl; have x7 := m0.cell_at 7 rfl; have x8 := m0.cell_at 8 rfl; have x9 := m0.cell_at 9 rfl; have x10 := m0.cell_at 10 rfl; clear m0; have m1 := HQv4.out _ hW; have v0 := m1.cell_at 0 rfl; have v1 := m1.cell_at 1 rfl; clear m1; have d0 := HE.out.1; have d1 := HE.out.2.1; have d2 := HE.out.2.2.1; have d3 := HE.out.2.2.2; go_simp; first | done | rfl)) (fun W hW => KBa.out W (HBS.out W hW)) ?_; simp only [Act.put, List.setIfInBounds_toArray, List.set_cons_zero, List.set_cons_succ]) | (refine mix_call _ _ _ (by rfl) (fun W hW => by (have hW := HBS.out W hW; have m0 := HQl4.out _ hW; have x0 := m0.cell_at 0 rfl; have x1 := m0.cell_at 1 rfl; have x2 := m0.cell_at 2 rfl; have x3 := m0.cell_at 3 rfl; have x4 := m0.cell_at 4 rfl; have x5 := m0.cell_at 5 rfl; have x6 := m0.cell_at 6 rfl; have x7 := m0.cell_at 7 rfl; have x8 := m0.cell_at 8 rfl; have x9 := m0.cell_at 9 rfl; have x10 := m0.cell_at 10 rfl; clear m0; have m1 := HQv4.out _ hW; have v0 := m1.cell_at 0 rfl; have v1 := m1.cell_at 1 rfl; clear m1; have d0 := HE.out.1; have d1 := HE.out.2.1; have d2 := HE.out.2.2.1; have d3 := HE.out.2.2.2; go_simp; first | done | rfl)) (fun W hW => KBb.out W (HBS.out W hW)) ?_; simp only [Act.put, List.setIfInBounds_toArray, List.set_cons_zero, List.set_cons_succ]) | (refine mix_call _ _ _ (by rfl) (fun W hW => by (have hW := HBS.out W hW; have m0 := HQl4.out _ hW; have x0 := m0.cell_at 0 rfl; have x1 := m0.cell_at 1 rfl; have x2 := m0.cell_at 2 rfl; have x3 := m0.cell_at 3 rfl; have x4 := m0.cell_at 4 rfl; have x5 := m0.cell_at 5 rfl; have x6 := m0.cell_at 6 rfl; have x7 := m0.cell_at 7 rfl; have x8 := m0.cell_at 8 rfl; have x9 := m0.cell_at 9 rfl; have x10 := m0.cell_at 10 rfl; clear m0; have m1 := HQv4.out _ hW; have v0 := m1.cell_at 0 rfl; have v1 := m1.cell_at 1 rfl; clear m1; have d0 := HE.out.1; have d1 := HE.out.2.1; have d2 := HE.out.2.2.1; have d3 := HE.out.2.2.2; go_simp; first | done | rfl)) (fun W hW => KJa.out W (HBS.out W hW)) ?_; simp only [Act.put, List.setIfInBounds_toArray, List.set_cons_zero, List.set_cons_succ]) | (refine mix_call _ _ _ (by rfl) (fun W hW => by (have hW := HBS.out W hW; have m0 := HQl4.out _ hW; have x0 := m0.cell_at 0 rfl; have x1 := m0.cell_at 1 rfl; have x2 := m0.cell_at 2 rfl; have x3 := m0.cell_at 3 rfl; have x4 := m0.cell_at 4 rfl; have x5 := m0.cell_at 5 rfl; have x6 := m0.cell_at 6 rfl; have x7 := m0.cell_at 7 rfl; have x8 := m0.cell_at 8 rfl; have x9 := m0.cell_at 9 rfl; have x10 := m0.cell_at 10 rfl; clear m0; have m1 := HQv4.out _ hW; have v0 := m1.cell_at 0 rfl; have v1 := m1.cell_at 1 rfl; clear m1; have d0 := HE.out.1; have d1 := HE.out.2.1; have d2 := HE.out.2.2.1; have d3 := HE.out.2.2.2; go_simp; first | done | rfl)) (fun W hW => KJb.out W (HBS.out W hW)) ?_; simp only [Act.put, List.setIfInBounds_toArray, List.set_cons_zero, List.set_cons_succ]) | (refine mix_call _ _ _ (by rfl) (fun W hW => by (have hW := HBS.out W hW; have m0 := HQl4.out _ hW; have x0 := m0.cell_at 0 rfl; have x1 := m0.cell_at 1 rfl; have x2 := m0.cell_at 2 rfl; have x3 := m0.cell_at 3 rfl; have x4 := m0.cell_at 4 rfl; have x5 := m0.cell_at 5 rfl; have x6 := m0.cell_at 6 rfl; have x7 := m0.cell_at 7 rfl; have x8 := m0.cell_at 8 rfl; have x9 := m0.cell_at 9 rfl; have x10 := m0.cell_at 10 rfl; clear m0; have m1 := HQv4.out _ hW; have v0 := m1.cell_at 0 rfl; have v1 := m1.cell_at 1 rfl; clear m1; have d0 := HE.out.1; have d1 := HE.out.2.1; have d2 := HE.out.2.2.1; have d3 := HE.out.2.2.2; go_simp; first | done | rfl)) (fun W hW => KWk.out W (HBS.out W hW)) ?_; simp only [Act.put, List.setIfInBounds_toArray, List.set_cons_zero, List.set_cons_succ]))
        refine mix_meet (fun x : Option Addr × Nat => .slice x.1 n1 x.2) (fun x W => Row W W.heap.size x.1 (nums .i64 xs1)) ⟨(Closed.below wr), fun _ h => h⟩ (fun x W W' h hB => h.on hB) _ _ (by rfl) (fun W hW => by (have hW := HBS.out W hW; have m0 := HQl4.out _ hW; have x0 := m0.cell_at 0 rfl; have x1 := m0.cell_at 1 rfl; have x2 := m0.cell_at 2 rfl; have x3 := m0.cell_at 3 rfl; have x4 := m0.cell_at 4 rfl; have x5 := m0.cell_at 5 rfl; have x6 := m0.cell_at 6 rfl; have x7 := m0.cell_at 7 rfl; have x8 := m0.cell_at 8 rfl; have x9 := m0.cell_at 9 rfl; have x10 := m0.cell_at 10 rfl; clear m0; have m1 := HQv4.out _ hW; have v0 := m1.cell_at 0 rfl; have v1 := m1.cell_at 1 rfl; clear m1; have d0 := HE.out.1; have d1 := HE.out.2.1; have d2 := HE.out.2.2.1; have d3 := HE.out.2.2.2; go_simp; first | done | rfl)) (fun W hW => KNa.out W (HBS.out W hW)) (fun y1 => ?_)
        simp only [Act.put, List.setIfInBounds_toArray, List.set_cons_zero, List.set_cons_succ]
        refine mix_meet (fun x : Option Addr × Nat => .slice x.1 n1 x.2) (fun x W => Row W W.heap.size x.1 (nums .i64 xs1)) ⟨((Closed.below wr).and (fun _ _ h hB => h.on hB)), fun _ h => h.1⟩ (fun x W W' h hB => h.on hB) _ _ (by rfl) (fun W hW => by (have hW := HBS.out W hW.1; have m0 := HQl4.out _ hW; have x0 := m0.cell_at 0 rfl; have x1 := m0.cell_at 1 rfl; have x2 := m0.cell_at 2 rfl; have x3 := m0.cell_at 3 rfl; have x4 := m0.cell_at 4 rfl; have x5 := m0.cell_at 5 rfl; have x6 := m0.cell_at 6 rfl; have x7 := m0.cell_at 7 rfl; have x8 := m0.cell_at 8 rfl; have x9 := m0.cell_at 9 rfl; have x10 := m0.cell_at 10 rfl; clear m0; have m1 := HQv4.out _ hW; have v0 := m1.cell_at 0 rfl; have v1 := m1.cell_at 1 rfl; clear m1; have d0 := HE.out.1; have d1 := HE.out.2.1; have d2 := HE.out.2.2.1; have d3 := HE.out.2.2.2; go_simp; first | done | rfl)) (fun W hW => KNb.out W (HBS.out W hW.1)) (fun y2 => ?_)
        simp only [Act.put, List.setIfInBounds_toArray, List.set_cons_zero, List.set_cons_succ]
        refine mix_meet (fun _ : Unit => .bool true) (fun x W => True) ⟨(((Closed.below wr).and (fun _ _ h hB => h.on hB)).and (fun _ _ h hB => h.on hB)), fun _ h => h.1.1⟩ (fun x W W' h hB => trivial) _ _ (by rfl) (fun W hW => by (have hW := HBS.out W hW.1.1; have m0 := HQl4.out _ hW; have x0 := m0.cell_at 0 rfl; have x1 := m0.cell_at 1 rfl; have x2 := m0.cell_at 2 rfl; have x3 := m0.cell_at 3 rfl; have x4 := m0.cell_at 4 rfl; have x5 := m0.cell_at 5 rfl; have x6 := m0.cell_at 6 rfl; have x7 := m0.cell_at 7 rfl; have x8 := m0.cell_at 8 rfl; have x9 := m0.cell_at 9 rfl; have x10 := m0.cell_at 10 rfl; clear m0; have m1 := HQv4.out _ hW; have v0 := m1.cell_at 0 rfl; have v1 := m1.cell_at 1 rfl; clear m1; have d0 := HE.out.1; have d1 := HE.out.2.1; have d2 := HE.out.2.2.1; have d3 := HE.out.2.2.2; go_simp; first | done | rfl)) (fun W hW => (intsT_B y1.2 y2.2 hW.1.2 hW.2 HN1.out HN1L.out).mono fun e w' h => ⟨(), h.1, trivial, h.2⟩) (fun _ => ?_)
        simp only [Act.put, List.setIfInBounds_toArray, List.set_cons_zero, List.set_cons_succ]
        repeat (first | (refine mix_skip (by rfl) ?_; simp only [Act.put, List.setIfInBounds_toArray, List.set_cons_zero, List.set_cons_succ]) | (refine mix_read _ (by rfl) (fun W hW => by (have hW := HBS.out W hW; have m0 := HQl4.out _ hW; have x0 := m0.cell_at 0 rfl; have x1 := m0.cell_at 1 rfl; have x2 := m0.cell_at 2 rfl; have x3 := m0.cell_at 3 rfl; have x4 := m0.cell_at 4 rfl; have x5 := m0.cell_at 5 rfl; have x6 := m0.cell_at 6 rfl; have x7 := m0.cell_at 7 rfl; have x8 := m0.cell_at 8 rfl; have x9 := m0.cell_at 9 rfl; have x10 := m0.cell_at 10 rfl; clear m0; have m1 := HQv4.out _ hW; have v0 := m1.cell_at 0 rfl; have v1 := m1.cell_at 1 rfl; clear m1; have d0 := HE.out.1; have d1 := HE.out.2.1; have d2 := HE.out.2.2.1; have d3 := HE.out.2.2.2; go_simp; first | done | with_reducible rfl)) ?_; simp only [Act.put, List.setIfInBounds_toArray, List.set_cons_zero, List.set_cons_succ]) | (refine mix_call _ _ _ (by rfl) (fun W hW => by (have hW := HBS.out W hW; have m0 := HQl4.out _ hW; have x0 := m0.cell_at 0 rfl; have x1 := m0.cell_at 1 rfl; have x2 := m0.cell_at 2 rfl; have x3 := m0.cell_at 3 rfl; have x4 := m0.cell_at 4 rfl; have x5 := m0.cell_at 5 rfl; have x6 := m0.cell_at 6 rfl; have x7 := m0.cell_at 7 rfl; have x8 := m0.cell_at 8 rfl; have x9 := m0.cell_at 9 rfl; have x10 := m0.cell_at 10 rfl; clear m0; have m1 := HQv4.out _ hW; have v0 := m1.cell_at 0 rfl; have v1 := m1.cell_at 1 rfl; clear m1; have d0 := HE.out.1; have d1 := HE.out.2.1; have d2 := HE.out.2.2.1; have d3 := HE.out.2.2.2; go_simp; first | done | rfl)) (fun W hW => KHa.out W (HBS.out W hW)) ?_; simp only [Act.put, List.setIfInBounds_toArray, List.set_cons_zero, List.set_cons_succ]) | (refine mix_call _ _ _ (by rfl) (fun W hW => by (have hW := HBS.out W hW; have m0 := HQl4.out _ hW; have x0 := m0.cell_at 0 rfl; have x1 := m0.cell_at 1 rfl; have x2 := m0.cell_at 2 rfl; have x3 := m0.cell_at 3 rfl; have x4 := m0.cell_at 4 rfl; have x5 := m0.cell_at 5 rfl; have x6 := m0.cell_at 6 rfl; have x7 := m0.cell_at 7 rfl; have x8 := m0.cell_at 8 rfl; have x9 := m0.cell_at 9 rfl; have x10 := m0.cell_at 10 rfl; clear m0; have m1 := HQv4.out _ hW; have v0 := m1.cell_at 0 rfl; have v1 := m1.cell_at 1 rfl; clear m1; have d0 := HE.out.1; have d1 := HE.out.2.1; have d2 := HE.out.2.2.1; have d3 := HE.out.2.2.2; go_simp; first | done | rfl)) (fun W hW => KHb.out W (HBS.out W hW)) ?_; simp only [Act.put, List.setIfInBounds_toArray, List.set_cons_zero, List.set_cons_succ]) | (refine mix_call _ _ _ (by rfl) (fun W hW => by (have hW := HBS.out W hW; have m0 := HQl4.out _ hW; have x0 := m0.cell_at 0 rfl; have x1 := m0.cell_at 1 rfl; have x2 := m0.cell_at 2 rfl; have x3 := m0.cell_at 3 rfl; have x4 := m0.cell_at 4 rfl; have x5 := m0.cell_at 5 rfl; have x6 := m0.cell_at 6 rfl; have x7 := m0.cell_at 7 rfl; have x8 := m0.cell_at 8 rfl; have x9 := m0.cell_at 9 rfl; have x10 := m0.cell_at 10 rfl; clear m0; have m1 := HQv4.out _ hW; have v0 := m1.cell_at 0 rfl; have v1 := m1.cell_at 1 rfl; clear m1; have d0 := HE.out.1; have d1 := HE.out.2.1; have d2 := HE.out.2.2.1; have d3 := HE.out.2.2.2; go_simp; first | done | rfl)) (fun W hW => KBa.out W (HBS.out W hW)) ?_; simp only [Act.put, List.setIfInBounds_toArray, List.set_cons_zero, List.set_cons_succ]) | (refine mix_call _ _ _ (by rfl) (fun W hW => by (have hW := HBS.out W hW; have m0 := HQl4.out _ hW; have x0 := m0.cell_at 0 rfl; have x1 := m0.cell_at 1 rfl; have x2 := m0.cell_at 2 rfl; have x3 := m0.cell_at 3 rfl; have x4 := m0.cell_at 4 rfl; have x5 := m0.cell_at 5 rfl; have x6 := m0.cell_at 6 rfl; have x7 := m0.cell_at 7 rfl; have x8 := m0.cell_at 8 rfl; have x9 := m0.cell_at 9 rfl; have x10 := m0.cell_at 10 rfl; clear m0; have m1 := HQv4.out _ hW; have v0 := m1.cell_at 0 rfl; have v1 := m1.cell_at 1 rfl; clear m1; have d0 := HE.out.1; have d1 := HE.out.2.1; have d2 := HE.out.2.2.1; have d3 := HE.out.2.2.2; go_simp; first | done | rfl)) (fun W hW => KBb.out W (HBS.out W hW)) ?_; simp only [Act.put, List.setIfInBounds_toArray, List.set_cons_zero, List.set_cons_succ]) | (refine mix_call _ _ _ (by rfl) (fun W hW => by (have hW := HBS.out W hW; have m0 := HQl4.out _ hW; have x0 := m0.cell_at 0 rfl; have x1 := m0.cell_at 1 rfl; have x2 := m0.cell_at 2 rfl; have x3 := m0.cell_at 3 rfl; have x4 := m0.cell_at 4 rfl; have x5 := m0.cell_at 5 rfl; have x6 := m0.cell_at 6 rfl; have x7 := m0.cell_at 7 rfl; have x8 := m0.cell_at 8 rfl; have x9 := m0.cell_at 9 rfl; have x10 := m0.cell_at 10 rfl; clear m0; have m1 := HQv4.out _ hW; have v0 := m1.cell_at 0 rfl; have v1 := m1.cell_at 1 rfl; clear m1; have d0 := HE.out.1; have d1 := HE.out.2.1; have d2 := HE.out.2.2.1; have d3 := HE.out.2.2.2; go_simp; first | done | rfl)) (fun W hW => KJa.out W (HBS.out W hW)) ?_; simp only [Act.put, List.setIfInBounds_toArray, List.set_cons_zero, List.set_cons_succ]) | (refine mix_call _ _ _ (by rfl) (fun W hW => by (have hW := HBS.out W hW; have m0 := HQl4.out _ hW; have x0 := m0.cell_at 0 rfl; have x1 := m0.cell_at 1 rfl; have x2 := m0.cell_at 2 rfl; have x3 := m0.cell_at 3 rfl; have x4 := m0.cell_at 4 rfl; have x5 := m0.cell_at 5 rfl; have x6 := m0.cell_at 6 rfl; have x7 := m0.cell_at 7 rfl; have x8 := m0.cell_at 8 rfl; have x9 := m0.cell_at 9 rfl; have x10 := m0.cell_at 10 rfl; clear m0; have m1 := HQv4.out _ hW; have v0 := m1.cell_at 0 rfl; have v1 := m1.cell_at 1 rfl; clear m1; have d0 := HE.out.1; have d1 := HE.out.2.1; have d2 := HE.out.2.2.1; have d3 := HE.out.2.2.2; go_simp; first | done | rfl)) (fun W hW => KJb.out W (HBS.out W hW)) ?_; simp only [Act.put, List.setIfInBounds_toArray, List.set_cons_zero, List.set_cons_succ]) | (refine mix_call _ _ _ (by rfl) (fun W hW => by (have hW := HBS.out W hW; have m0 := HQl4.out _ hW; have x0 := m0.cell_at 0 rfl; have x1 := m0.cell_at 1 rfl; have x2 := m0.cell_at 2 rfl; have x3 := m0.cell_at 3 rfl; have x4 := m0.cell_at 4 rfl; have x5 := m0.cell_at 5 rfl; have x6 := m0.cell_at 6 rfl; have x7 := m0.cell_at 7 rfl; have x8 := m0.cell_at 8 rfl; have x9 := m0.cell_at 9 rfl; have x10 := m0.cell_at 10 rfl; clear m0; have m1 := HQv4.out _ hW; have v0 := m1.cell_at 0 rfl; have v1 := m1.cell_at 1 rfl; clear m1; have d0 := HE.out.1; have d1 := HE.out.2.1; have d2 := HE.out.2.2.1; have d3 := HE.out.2.2.2; go_simp; first | done | rfl)) (fun W hW => KWk.out W (HBS.out W hW)) ?_; simp only [Act.put, List.setIfInBounds_toArray, List.set_cons_zero, List.set_cons_succ]))
        refine mix_meet (fun x : Option Addr × Nat => .slice x.1 n2 x.2) (fun x W => Row W W.heap.size x.1 (nums .i64 xs2)) ⟨((((Closed.below wr).and (fun _ _ h hB => h.on hB)).and (fun _ _ h hB => h.on hB)).and (fun _ _ _ _ => trivial)), fun _ h => h.1.1.1⟩ (fun x W W' h hB => h.on hB) _ _ (by rfl) (fun W hW => by (have hW := HBS.out W hW.1.1.1; have m0 := HQl4.out _ hW; have x0 := m0.cell_at 0 rfl; have x1 := m0.cell_at 1 rfl; have x2 := m0.cell_at 2 rfl; have x3 := m0.cell_at 3 rfl; have x4 := m0.cell_at 4 rfl; have x5 := m0.cell_at 5 rfl; have x6 := m0.cell_at 6 rfl; have x7 := m0.cell_at 7 rfl; have x8 := m0.cell_at 8 rfl; have x9 := m0.cell_at 9 rfl; have x10 := m0.cell_at 10 rfl; clear m0; have m1 := HQv4.out _ hW; have v0 := m1.cell_at 0 rfl; have v1 := m1.cell_at 1 rfl; clear m1; have d0 := HE.out.1; have d1 := HE.out.2.1; have d2 := HE.out.2.2.1; have d3 := HE.out.2.2.2; go_simp; first | done | rfl)) (fun W hW => KAa.out W (HBS.out W hW.1.1.1)) (fun y3 => ?_)
        simp only [Act.put, List.setIfInBounds_toArray, List.set_cons_zero, List.set_cons_succ]
        refine mix_meet (fun x : Option Addr × Nat => .slice x.1 n2 x.2) (fun x W => Row W W.heap.size x.1 (nums .i64 xs2)) ⟨(((((Closed.below wr).and (fun _ _ h hB => h.on hB)).and (fun _ _ h hB => h.on hB)).and (fun _ _ _ _ => trivial)).and (fun _ _ h hB => h.on hB)), fun _ h => h.1.1.1.1⟩ (fun x W W' h hB => h.on hB) _ _ (by rfl) (fun W hW => by (have hW := HBS.out W hW.1.1.1.1; have m0 := HQl4.out _ hW; have x0 := m0.cell_at 0 rfl; have x1 := m0.cell_at 1 rfl; have x2 := m0.cell_at 2 rfl; have x3 := m0.cell_at 3 rfl; have x4 := m0.cell_at 4 rfl; have x5 := m0.cell_at 5 rfl; have x6 := m0.cell_at 6 rfl; have x7 := m0.cell_at 7 rfl; have x8 := m0.cell_at 8 rfl; have x9 := m0.cell_at 9 rfl; have x10 := m0.cell_at 10 rfl; clear m0; have m1 := HQv4.out _ hW; have v0 := m1.cell_at 0 rfl; have v1 := m1.cell_at 1 rfl; clear m1; have d0 := HE.out.1; have d1 := HE.out.2.1; have d2 := HE.out.2.2.1; have d3 := HE.out.2.2.2; go_simp; first | done | rfl)) (fun W hW => KAb.out W (HBS.out W hW.1.1.1.1)) (fun y4 => ?_)
        simp only [Act.put, List.setIfInBounds_toArray, List.set_cons_zero, List.set_cons_succ]
        refine mix_meet (fun _ : Unit => .bool true) (fun x W => True) ⟨((((((Closed.below wr).and (fun _ _ h hB => h.on hB)).and (fun _ _ h hB => h.on hB)).and (fun _ _ _ _ => trivial)).and (fun _ _ h hB => h.on hB)).and (fun _ _ h hB => h.on hB)), fun _ h => h.1.1.1.1.1⟩ (fun x W W' h hB => trivial) _ _ (by rfl) (fun W hW => by (have hW := HBS.out W hW.1.1.1.1.1; have m0 := HQl4.out _ hW; have x0 := m0.cell_at 0 rfl; have x1 := m0.cell_at 1 rfl; have x2 := m0.cell_at 2 rfl; have x3 := m0.cell_at 3 rfl; have x4 := m0.cell_at 4 rfl; have x5 := m0.cell_at 5 rfl; have x6 := m0.cell_at 6 rfl; have x7 := m0.cell_at 7 rfl; have x8 := m0.cell_at 8 rfl; have x9 := m0.cell_at 9 rfl; have x10 := m0.cell_at 10 rfl; clear m0; have m1 := HQv4.out _ hW; have v0 := m1.cell_at 0 rfl; have v1 := m1.cell_at 1 rfl; clear m1; have d0 := HE.out.1; have d1 := HE.out.2.1; have d2 := HE.out.2.2.1; have d3 := HE.out.2.2.2; go_simp; first | done | rfl)) (fun W hW => (intsT_B y3.2 y4.2 hW.1.2 hW.2 HN2.out HN2L.out).mono fun e w' h => ⟨(), h.1, trivial, h.2⟩) (fun _ => ?_)
        simp only [Act.put, List.setIfInBounds_toArray, List.set_cons_zero, List.set_cons_succ]
        repeat (first | (refine mix_skip (by rfl) ?_; simp only [Act.put, List.setIfInBounds_toArray, List.set_cons_zero, List.set_cons_succ]) | (refine mix_read _ (by rfl) (fun W hW => by (have hW := HBS.out W hW; have m0 := HQl4.out _ hW; have x0 := m0.cell_at 0 rfl; have x1 := m0.cell_at 1 rfl; have x2 := m0.cell_at 2 rfl; have x3 := m0.cell_at 3 rfl; have x4 := m0.cell_at 4 rfl; have x5 := m0.cell_at 5 rfl; have x6 := m0.cell_at 6 rfl; have x7 := m0.cell_at 7 rfl; have x8 := m0.cell_at 8 rfl; have x9 := m0.cell_at 9 rfl; have x10 := m0.cell_at 10 rfl; clear m0; have m1 := HQv4.out _ hW; have v0 := m1.cell_at 0 rfl; have v1 := m1.cell_at 1 rfl; clear m1; have d0 := HE.out.1; have d1 := HE.out.2.1; have d2 := HE.out.2.2.1; have d3 := HE.out.2.2.2; go_simp; first | done | with_reducible rfl)) ?_; simp only [Act.put, List.setIfInBounds_toArray, List.set_cons_zero, List.set_cons_succ]) | (refine mix_call _ _ _ (by rfl) (fun W hW => by (have hW := HBS.out W hW; have m0 := HQl4.out _ hW; have x0 := m0.cell_at 0 rfl; have x1 := m0.cell_at 1 rfl; have x2 := m0.cell_at 2 rfl; have x3 := m0.cell_at 3 rfl; have x4 := m0.cell_at 4 rfl; have x5 := m0.cell_at 5 rfl; have x6 := m0.cell_at 6 rfl; have x7 := m0.cell_at 7 rfl; have x8 := m0.cell_at 8 rfl; have x9 := m0.cell_at 9 rfl; have x10 := m0.cell_at 10 rfl; clear m0; have m1 := HQv4.out _ hW; have v0 := m1.cell_at 0 rfl; have v1 := m1.cell_at 1 rfl; clear m1; have d0 := HE.out.1; have d1 := HE.out.2.1; have d2 := HE.out.2.2.1; have d3 := HE.out.2.2.2; go_simp; first | done | rfl)) (fun W hW => KHa.out W (HBS.out W hW)) ?_; simp only [Act.put, List.setIfInBounds_toArray, List.set_cons_zero, List.set_cons_succ]) | (refine mix_call _ _ _ (by rfl) (fun W hW => by (have hW := HBS.out W hW; have m0 := HQl4.out _ hW; have x0 := m0.cell_at 0 rfl; have x1 := m0.cell_at 1 rfl; have x2 := m0.cell_at 2 rfl; have x3 := m0.cell_at 3 rfl; have x4 := m0.cell_at 4 rfl; have x5 := m0.cell_at 5 rfl; have x6 := m0.cell_at 6 rfl; have x7 := m0.cell_at 7 rfl; have x8 := m0.cell_at 8 rfl; have x9 := m0.cell_at 9 rfl; have x10 := m0.cell_at 10 rfl; clear m0; have m1 := HQv4.out _ hW; have v0 := m1.cell_at 0 rfl; have v1 := m1.cell_at 1 rfl; clear m1; have d0 := HE.out.1; have d1 := HE.out.2.1; have d2 := HE.out.2.2.1; have d3 := HE.out.2.2.2; go_simp; first | done | rfl)) (fun W hW => KHb.out W (HBS.out W hW)) ?_; simp only [Act.put, List.setIfInBounds_toArray, List.set_cons_zero, List.set_cons_succ]) | (refine mix_call _ _ _ (by rfl) (fun W hW => by (have hW := HBS.out W hW; have m0 := HQl4.out _ hW; have x0 := m0.cell_at 0 rfl; have x1 := m0.cell_at 1 rfl; have x2 := m0.cell_at 2 rfl; have x3 := m0.cell_at 3 rfl; have x4 := m0.cell_at 4 rfl; have x5 := m0.cell_at 5 rfl; have x6 := m0.cell_at 6 rfl; have x7 := m0.cell_at 7 rfl; have x8 := m0.cell_at 8 rfl; have x9 := m0.cell_at 9 rfl; have x10 := m0.cell_at 10 rfl; clear m0; have m1 := HQv4.out _ hW; have v0 := m1.cell_at 0 rfl; have v1 := m1.cell_at 1 rfl; clear m1; have d0 := HE.out.1; have d1 := HE.out.2.1; have d2 := HE.out.2.2.1; have d3 := HE.out.2.2.2; go_simp; first | done | rfl)) (fun W hW => KBa.out W (HBS.out W hW)) ?_; simp only [Act.put, List.setIfInBounds_toArray, List.set_cons_zero, List.set_cons_succ]) | (refine mix_call _ _ _ (by rfl) (fun W hW => by (have hW := HBS.out W hW; have m0 := HQl4.out _ hW; have x0 := m0.cell_at 0 rfl; have x1 := m0.cell_at 1 rfl; have x2 := m0.cell_at 2 rfl; have x3 := m0.cell_at 3 rfl; have x4 := m0.cell_at 4 rfl; have x5 := m0.cell_at 5 rfl; have x6 := m0.cell_at 6 rfl; have x7 := m0.cell_at 7 rfl; have x8 := m0.cell_at 8 rfl; have x9 := m0.cell_at 9 rfl; have x10 := m0.cell_at 10 rfl; clear m0; have m1 := HQv4.out _ hW; have v0 := m1.cell_at 0 rfl; have v1 := m1.cell_at 1 rfl; clear m1; have d0 := HE.out.1; have d1 := HE.out.2.1; have d2 := HE.out.2.2.1; have d3 := HE.out.2.2.2; go_simp; first | done | rfl)) (fun W hW => KBb.out W (HBS.out W hW)) ?_; simp only [Act.put, List.setIfInBounds_toArray, List.set_cons_zero, List.set_cons_succ]) | (refine mix_call _ _ _ (by rfl) (fun W hW => by (have hW := HBS.out W hW; have m0 := HQl4.out _ hW; have x0 := m0.cell_at 0 rfl; have x1 := m0.cell_at 1 rfl; have x2 := m0.cell_at 2 rfl; have x3 := m0.cell_at 3 rfl; have x4 := m0.cell_at 4 rfl; have x5 := m0.cell_at 5 rfl; have x6 := m0.cell_at 6 rfl; have x7 := m0.cell_at 7 rfl; have x8 := m0.cell_at 8 rfl; have x9 := m0.cell_at 9 rfl; have x10 := m0.cell_at 10 rfl; clear m0; have m1 := HQv4.out _ hW; have v0 := m1.cell_at 0 rfl; have v1 := m1.cell_at 1 rfl; clear m1; have d0 := HE.out.1; have d1 := HE.out.2.1; have d2 := HE.out.2.2.1; have d3 := HE.out.2.2.2; go_simp; first | done | rfl)) (fun W hW => KJa.out W (HBS.out W hW)) ?_; simp only [Act.put, List.setIfInBounds_toArray, List.set_cons_zero, List.set_cons_succ]) | (refine mix_call _ _ _ (by rfl) (fun W hW => by (have hW := HBS.out W hW; have m0 := HQl4.out _ hW; have x0 := m0.cell_at 0 rfl; have x1 := m0.cell_at 1 rfl; have x2 := m0.cell_at 2 rfl; have x3 := m0.cell_at 3 rfl; have x4 := m0.cell_at 4 rfl; have x5 := m0.cell_at 5 rfl; have x6 := m0.cell_at 6 rfl; have x7 := m0.cell_at 7 rfl; have x8 := m0.cell_at 8 rfl; have x9 := m0.cell_at 9 rfl; have x10 := m0.cell_at 10 rfl; clear m0; have m1 := HQv4.out _ hW; have v0 := m1.cell_at 0 rfl; have v1 := m1.cell_at 1 rfl; clear m1; have d0 := HE.out.1; have d1 := HE.out.2.1; have d2 := HE.out.2.2.1; have d3 := HE.out.2.2.2; go_simp; first | done | rfl)) (fun W hW => KJb.out W (HBS.out W hW)) ?_; simp only [Act.put, List.setIfInBounds_toArray, List.set_cons_zero, List.set_cons_succ]) | (refine mix_call _ _ _ (by rfl) (fun W hW => by (have hW := HBS.out W hW; have m0 := HQl4.out _ hW; have x0 := m0.cell_at 0 rfl; have x1 := m0.cell_at 1 rfl; have x2 := m0.cell_at 2 rfl; have x3 := m0.cell_at 3 rfl; have x4 := m0.cell_at 4 rfl; have x5 := m0.cell_at 5 rfl; have x6 := m0.cell_at 6 rfl; have x7 := m0.cell_at 7 rfl; have x8 := m0.cell_at 8 rfl; have x9 := m0.cell_at 9 rfl; have x10 := m0.cell_at 10 rfl; clear m0; have m1 := HQv4.out _ hW; have v0 := m1.cell_at 0 rfl; have v1 := m1.cell_at 1 rfl; clear m1; have d0 := HE.out.1; have d1 := HE.out.2.1; have d2 := HE.out.2.2.1; have d3 := HE.out.2.2.2; go_simp; first | done | rfl)) (fun W hW => KWk.out W (HBS.out W hW)) ?_; simp only [Act.put, List.setIfInBounds_toArray, List.set_cons_zero, List.set_cons_succ]))
        refine mix_nil (fun W hW => ?_)
        have hq := HBS.out W hW.1.1.1.1.1.1
        clear hW HBS
        go_wp2_with fail
        go_ret
        exact ⟨rfl, HB4.out _ hq⟩
end Go.Proofs.YtaelcmamgcndmaaDoor
