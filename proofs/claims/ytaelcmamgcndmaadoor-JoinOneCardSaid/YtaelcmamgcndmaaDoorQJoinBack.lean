/- The walk of JoinBack: what lies beyond what lies beyond. -/
import Derived.Test.YtaelcmamgcndmaaDoorQJoinX
import Derived.Test.YtaelcmamgcndmaaDoorQC
namespace Go.Proofs.YtaelcmamgcndmaaDoor
open Go.RowKit Go.Shelf
set_option linter.unusedVariables false
set_option linter.unusedSimpArgs false

theorem joined_back {l : Lay} {s p : Int} (h : joinedL l = true) {q : Int × Int} (hq : beyondV l s p = q) : q = (-1, 0) ∨ (q.1 ≠ -1 ∧ thereV l s p = true ∧ thereV l q.1 q.2 = true ∧ q.1 ≠ s ∧ beyondV l q.1 q.2 = (s, p)) := by
  cases ht : thereV l s p
  · exact .inl (by rw [← hq, beyondV_no ht])
  · obtain ⟨j, rfl, hx⟩ := atV_yes ht
    obtain ⟨k, rfl⟩ : ∃ k : Nat, p = k := by
      unfold thereV at ht
      rw [withinA_iff] at ht
      exact ⟨p.toNat, by omega⟩
    have hk : k < (pK (atV l j k).k).toNat := by
      rw [there_at, kindV_at hx] at ht
      exact of_decide_eq_true ht
    have hj := ((joinedL_iff.1 h).2 j _ hx).2 k hk
    unfold joinedP at hj
    rw [hq] at hj
    simp only [Bool.or_eq_true, Bool.and_eq_true, beq_iff_eq, Bool.not_eq_true', beq_eq_false_iff_ne] at hj
    rcases hj with ⟨h1, h2⟩ | ⟨h1, h2, h3⟩
    · exact .inl (Prod.ext h1 h2)
    · right
      have hb : beyondV l q.1 q.2 = ((j : Int), (k : Int)) := Prod.ext h2 h3
      have htq : thereV l q.1 q.2 = true := by
        cases e : thereV l q.1 q.2
        · rw [beyondV_no e] at hb
          have := congrArg Prod.fst hb
          simp at this
        · rfl
      obtain ⟨i, x, e, _⟩ := thereV_some htq
      exact ⟨by omega, rfl, htq, h1, hb⟩
theorem near_mem {l : Lay} {s p : Int} {i : Nat} (ht : thereV l s p = true) (hb : (beyondV l s p).1 = i) (hi : i < l.secs.length) (hne : (i : Int) ≠ s) : (i : Int) ∈ nearL l s := by
  show (i : Int) ∈ pick _ _
  refine mem_pick.2 ⟨i, hi, rfl, ?_⟩
  have hk : 0 ≤ p ∧ p < pK (kindV l s) := by unfold thereV at ht; rw [withinA_iff] at ht; omega
  have hm : (s, p) ∈ portsS l s := by
    unfold portsS
    exact List.mem_map.2 ⟨p.toNat, List.mem_range.2 (by omega), by simp; omega⟩
  rw [nearV_iff.2 ⟨(s, p), hm, hb⟩]
  simp [hne]
set_option maxRecDepth 100000 in
set_option maxHeartbeats 8000000 in
theorem joinBack_walk (l : Lay) (s p : Int) (w : World) (hT : Shapes w) (hL : Lies l w) :
    Calls Tryd.prog 4 #[l.val, prtV s p] w fun e w' => e = .returned (.bool true) ∧ Below w.heap.size w w' := by
  obtain ⟨P, HP, HPT, HPL, HPB, hp⟩ := keep_lay hT hL
  obtain ⟨Q, HQ, HQp, HQl, HQv, hq⟩ := keep_box2 HP.out hp 29 31 l.cells (prtCells (s, p))
  have HQT : Hid (∀ W, Q W → Shapes W) := Lib.hid fun W h => HPT.out _ (HQp.out _ h)
  have HQL : Hid (∀ W, Q W → Lies l W) := Lib.hid fun W h => HPL.out _ (HQp.out _ h)
  have HQB : Hid (∀ W, Q W → Below w.heap.size w W) := Lib.hid fun W h => HPB.out _ (HQp.out _ h)
  obtain ⟨g, hg⟩ : ∃ g, greatJ l = g := ⟨_, rfl⟩
  have KG := Lib.hid (fun W hW => greatJ_P (P := Q) (w := W) HQ.out HQL.out hg hW)
  have KW := Lib.hid (fun W hW => wakesJ_P (P := Q) (w := W) HQ.out HQT.out hW)
  obtain ⟨jd, hjd⟩ : ∃ jd, joinedL l = jd := ⟨_, rfl⟩
  have KJ := Lib.hid (fun W hW => keepR HQ.out (joinedL_any (w := W) (HQT.out W hW) (HQL.out W hW) hjd) hW)
  obtain ⟨q, hqv⟩ : ∃ q, beyondV l s p = q := ⟨_, rfl⟩
  have KB := Lib.hid (fun W hW => beyond_P (P := Q) (w := W) HQ.out HQT.out HQL.out s p hqv hW)
  clear hT hL hp
  go_enter Tryd.func4, Tryd.ntmps4
  have m0 := HQl.out _ hq
  have x0 := m0.cell_at 0 rfl
  have x1 := m0.cell_at 1 rfl
  have x2 := m0.cell_at 2 rfl
  have x3 := m0.cell_at 3 rfl
  have x4 := m0.cell_at 4 rfl
  have x5 := m0.cell_at 5 rfl
  have x6 := m0.cell_at 6 rfl
  have x7 := m0.cell_at 7 rfl
  have x8 := m0.cell_at 8 rfl
  have x9 := m0.cell_at 9 rfl
  have x10 := m0.cell_at 10 rfl
  clear m0
  have m1 := HQv.out _ hq
  have v0 := m1.cell_at 0 rfl
  have v1 := m1.cell_at 1 rfl
  clear m1
  go_wp2_with fail
  refine (KG.out _ hq).mono ?_
  clear x0 x1 x2 x3 x4 x5 x6 x7 x8 x9 x10 v0 v1 hq KG
  rintro e w1 ⟨rfl, hq⟩
  cases g
  rotate_left
  · go_wp2_with fail
    refine (KW.out _ hq).mono ?_
    clear hq
    rintro e w9 ⟨rfl, hq⟩
    go_wp2_with fail
    go_ret
    exact ⟨rfl, HQB.out _ hq⟩
  have hsec := greatJ_no hg
  have m0 := HQl.out _ hq
  have x0 := m0.cell_at 0 rfl
  have x1 := m0.cell_at 1 rfl
  have x2 := m0.cell_at 2 rfl
  have x3 := m0.cell_at 3 rfl
  have x4 := m0.cell_at 4 rfl
  have x5 := m0.cell_at 5 rfl
  have x6 := m0.cell_at 6 rfl
  have x7 := m0.cell_at 7 rfl
  have x8 := m0.cell_at 8 rfl
  have x9 := m0.cell_at 9 rfl
  have x10 := m0.cell_at 10 rfl
  clear m0
  have m1 := HQv.out _ hq
  have v0 := m1.cell_at 0 rfl
  have v1 := m1.cell_at 1 rfl
  clear m1
  go_wp2_with fail
  refine (KJ.out _ hq).mono ?_
  clear x0 x1 x2 x3 x4 x5 x6 x7 x8 x9 x10 v0 v1 hq KJ
  rintro e w2 ⟨rfl, hq⟩
  cases jd
  · go_wp2_with fail
    refine (KW.out _ hq).mono ?_
    clear hq
    rintro e w9 ⟨rfl, hq⟩
    go_wp2_with fail
    go_ret
    exact ⟨rfl, HQB.out _ hq⟩
  have hback := joined_back hjd hqv
  have hlen : l.secs.length ≤ 30 := hsec.1
  clear hsec hg hjd
  have m0 := HQl.out _ hq
  have x0 := m0.cell_at 0 rfl
  have x1 := m0.cell_at 1 rfl
  have x2 := m0.cell_at 2 rfl
  have x3 := m0.cell_at 3 rfl
  have x4 := m0.cell_at 4 rfl
  have x5 := m0.cell_at 5 rfl
  have x6 := m0.cell_at 6 rfl
  have x7 := m0.cell_at 7 rfl
  have x8 := m0.cell_at 8 rfl
  have x9 := m0.cell_at 9 rfl
  have x10 := m0.cell_at 10 rfl
  clear m0
  have m1 := HQv.out _ hq
  have v0 := m1.cell_at 0 rfl
  have v1 := m1.cell_at 1 rfl
  clear m1
  go_wp2_with fail
  refine (KB.out _ hq).mono ?_
  clear x0 x1 x2 x3 x4 x5 x6 x7 x8 x9 x10 v0 v1 hq KB
  rintro e w3 ⟨rfl, hq⟩
  obtain ⟨qs, qq⟩ := q
  simp only at hback ⊢
  obtain ⟨Q2, HQ2, HQ2p, HQr, hq⟩ := keep_boxV HQ.out hq 31 (prtCells (qs, qq))
  have r0 := (HQr.out _ hq).cell_at 0 rfl
  have r1 := (HQr.out _ hq).cell_at 1 rfl
  rcases hback with he | ⟨h1, h2, h3, h4, h5⟩
  · obtain ⟨rfl, rfl⟩ := Prod.mk.inj he
    clear he hqv
    go_wp2_with fail
    refine (KW.out _ (HQ2p.out _ hq)).mono ?_
    clear hq
    rintro e w9 ⟨rfl, hq⟩
    go_wp2_with fail
    go_ret
    exact ⟨rfl, HQB.out _ hq⟩
  · obtain ⟨i, hi, x, hx⟩ : ∃ i : Nat, qs = i ∧ ∃ x, l.secs[i]? = some x := by obtain ⟨i, x, e, hx⟩ := thereV_some h3; exact ⟨i, e, x, hx⟩
    obtain ⟨k, hk, y, hy⟩ : ∃ k : Nat, s = k ∧ ∃ x, l.secs[k]? = some x := by obtain ⟨i, x, e, hx⟩ := thereV_some h2; exact ⟨i, e, x, hx⟩
    have hil := (List.getElem?_eq_some_iff.1 hx).1
    have hkl := (List.getElem?_eq_some_iff.1 hy).1
    have hm1 : (nearL l s).any (· == qs) = true := List.any_eq_true.2 ⟨qs, by rw [hi]; exact near_mem h2 (by rw [hqv]; exact hi) hil (by omega), by simp⟩
    have hm2 : (nearL l qs).any (· == s) = true := List.any_eq_true.2 ⟨s, by rw [hk]; exact near_mem h3 (by rw [h5]; exact hk) hkl (by omega), by simp⟩
    obtain ⟨xs1, hxs1⟩ : ∃ xs, nearL l s = xs := ⟨_, rfl⟩
    obtain ⟨xs2, hxs2⟩ : ∃ xs, nearL l qs = xs := ⟨_, rfl⟩
    obtain ⟨n1, hn1⟩ : ∃ n, xs1.length = n := ⟨_, rfl⟩
    obtain ⟨n2, hn2⟩ : ∃ n, xs2.length = n := ⟨_, rfl⟩
    have hb1 : n1 ≤ 30 := by rw [← hn1, ← hxs1]; exact Nat.le_trans (pick_le _ _) hlen
    have hb2 : n2 ≤ 30 := by rw [← hn2, ← hxs2]; exact Nat.le_trans (pick_le _ _) hlen
    rw [hxs1] at hm1
    rw [hxs2] at hm2
    have HM1 := Lib.hid hm1
    have HM2 := Lib.hid hm2
    have HN1 := Lib.hid hn1
    have HN2 := Lib.hid hn2
    have HX1 := Lib.hid hxs1
    have HX2 := Lib.hid hxs2
    have HQl2 := Lib.hid (fun W hW => HQl.out W (HQ2p.out W hW))
    have HQv2 := Lib.hid (fun W hW => HQv.out W (HQ2p.out W hW))
    have K6a := Lib.hid (fun W hW => has_B (w := W) (HQT.out W (HQ2p.out W hW)) (HQL.out W (HQ2p.out W hW)) s p h2)
    have K6b := Lib.hid (fun W hW => has_B (w := W) (HQT.out W (HQ2p.out W hW)) (HQL.out W (HQ2p.out W hW)) qs qq h3)
    have K6c := Lib.hid (fun W hW => beyond_B (w := W) (HQT.out W (HQ2p.out W hW)) (HQL.out W (HQ2p.out W hW)) qs qq h5)
    have K1 : Hid (∀ W, Q2 W → Calls Tryd.prog 19 #[l.val, .int .i64 s] W fun e w' => ∃ x : Option Addr × Nat, e = .returned (.slice x.1 n1 x.2) ∧ Row w' w'.heap.size x.1 (nums .i64 xs1) ∧ Below W.heap.size W w') := Lib.hid fun W hW =>
    (near_any (HQT.out W (HQ2p.out W hW)) (HQL.out W (HQ2p.out W hW)) s).mono fun e w' ⟨v, he, hown, hB⟩ => by
      rw [HX1.out, HN1.out] at hown
      obtain ⟨A, c, rfl, hr, _⟩ := owns_slice hown
      exact ⟨(A, c), he, hr, hB⟩

    have K2 : Hid (∀ W, Q2 W → Calls Tryd.prog 19 #[l.val, .int .i64 qs] W fun e w' => ∃ x : Option Addr × Nat, e = .returned (.slice x.1 n2 x.2) ∧ Row w' w'.heap.size x.1 (nums .i64 xs2) ∧ Below W.heap.size W w') := Lib.hid fun W hW =>
    (near_any (HQT.out W (HQ2p.out W hW)) (HQL.out W (HQ2p.out W hW)) qs).mono fun e w' ⟨v, he, hown, hB⟩ => by
      rw [HX2.out, HN2.out] at hown
      obtain ⟨A, c, rfl, hr, _⟩ := owns_slice hown
      exact ⟨(A, c), he, hr, hB⟩

    have hne : (qs == -1) = false := by simp [h1]
    have HNE : Hid ((qs == s) = false) := Lib.hid (by simp [h4])
    clear hm1 hm2 hn1 hn2 hxs1 hxs2 h1 h2 h3 h4 h5 hi hk hil hkl hx hy hqv hlen
    go_wp2_with fail
    clear r0 r1 hne
    have HBS : Hid (∀ W, Below (w3.alloc (.cells (prtCells (qs, qq)).toArray 31)).heap.size (w3.alloc (.cells (prtCells (qs, qq)).toArray 31)) W → Q2 W) := Lib.hid (fun W hB => HQ2.out _ _ hq hB)
    clear hq
    refine region_mix (Below (w3.alloc (.cells (prtCells (qs, qq)).toArray 31)).heap.size (w3.alloc (.cells (prtCells (qs, qq)).toArray 31))) [(0, false), (1, false), (2, false), (3, false), (4, false), (5, false), (6, false), (7, false), (8, false), (9, false), (10, false), (11, false), (12, false), (13, false), (14, false), (15, false), (16, false), (17, false), (18, false), (19, false), (20, false), (21, false), (22, false), (23, false)] (by kernel_rfl) (by kernel_rfl) (Below (w3.alloc (.cells (prtCells (qs, qq)).toArray 31)).heap.size (w3.alloc (.cells (prtCells (qs, qq)).toArray 31))) ⟨Closed.below (w3.alloc (.cells (prtCells (qs, qq)).toArray 31)), fun _ h => h⟩ (Below.refl _ _).drew ?_
    simp only [pickOps, List.getElem?_cons_zero, List.getElem?_cons_succ]
    repeat (first | (refine mix_skip (by rfl) ?_; simp only [Act.put, List.setIfInBounds_toArray, List.set_cons_zero, List.set_cons_succ]) | (refine mix_read _ (by rfl) (fun W hW => by (have hW := HBS.out W hW; have m0 := HQl2.out _ hW; have x0 := m0.cell_at 0 rfl; have x1 := m0.cell_at 1 rfl; have x2 := m0.cell_at 2 rfl; have x3 := m0.cell_at 3 rfl; have x4 := m0.cell_at 4 rfl; have x5 := m0.cell_at 5 rfl; have x6 := m0.cell_at 6 rfl; have x7 := m0.cell_at 7 rfl; have x8 := m0.cell_at 8 rfl; have x9 := m0.cell_at 9 rfl; have x10 := m0.cell_at 10 rfl; clear m0; have m1 := HQv2.out _ hW; have v0 := m1.cell_at 0 rfl; have v1 := m1.cell_at 1 rfl; clear m1; have m2 := HQr.out _ hW; have r0 := m2.cell_at 0 rfl; have r1 := m2.cell_at 1 rfl; clear m2; have d1 := HNE.out; go_simp; first | done | with_reducible rfl)) ?_; simp only [Act.put, List.setIfInBounds_toArray, List.set_cons_zero, List.set_cons_succ]) | (refine mix_call _ _ _ (by rfl) (fun W hW => by (have hW := HBS.out W hW; have m0 := HQl2.out _ hW; have x0 := m0.cell_at 0 rfl; have x1 := m0.cell_at 1 rfl; have x2 := m0.cell_at 2 rfl; have x3 := m0.cell_at 3 rfl; have x4 := m0.cell_at 4 rfl; have x5 := m0.cell_at 5 rfl; have x6 := m0.cell_at 6 rfl; have x7 := m0.cell_at 7 rfl; have x8 := m0.cell_at 8 rfl; have x9 := m0.cell_at 9 rfl; have x10 := m0.cell_at 10 rfl; clear m0; have m1 := HQv2.out _ hW; have v0 := m1.cell_at 0 rfl; have v1 := m1.cell_at 1 rfl; clear m1; have m2 := HQr.out _ hW; have r0 := m2.cell_at 0 rfl; have r1 := m2.cell_at 1 rfl; clear m2; have d1 := HNE.out; go_simp; first | done | rfl)) (fun W hW => K6a.out W (HBS.out W hW)) ?_; simp only [Act.put, List.setIfInBounds_toArray, List.set_cons_zero, List.set_cons_succ]) | (refine mix_call _ _ _ (by rfl) (fun W hW => by (have hW := HBS.out W hW; have m0 := HQl2.out _ hW; have x0 := m0.cell_at 0 rfl; have x1 := m0.cell_at 1 rfl; have x2 := m0.cell_at 2 rfl; have x3 := m0.cell_at 3 rfl; have x4 := m0.cell_at 4 rfl; have x5 := m0.cell_at 5 rfl; have x6 := m0.cell_at 6 rfl; have x7 := m0.cell_at 7 rfl; have x8 := m0.cell_at 8 rfl; have x9 := m0.cell_at 9 rfl; have x10 := m0.cell_at 10 rfl; clear m0; have m1 := HQv2.out _ hW; have v0 := m1.cell_at 0 rfl; have v1 := m1.cell_at 1 rfl; clear m1; have m2 := HQr.out _ hW; have r0 := m2.cell_at 0 rfl; have r1 := m2.cell_at 1 rfl; clear m2; have d1 := HNE.out; go_simp; first | done | rfl)) (fun W hW => K6b.out W (HBS.out W hW)) ?_; simp only [Act.put, List.setIfInBounds_toArray, List.set_cons_zero, List.set_cons_succ]) | (refine mix_call _ _ _ (by rfl) (fun W hW => by (have hW := HBS.out W hW; have m0 := HQl2.out _ hW; have x0 := m0.cell_at 0 rfl; have x1 := m0.cell_at 1 rfl; have x2 := m0.cell_at 2 rfl; have x3 := m0.cell_at 3 rfl; have x4 := m0.cell_at 4 rfl; have x5 := m0.cell_at 5 rfl; have x6 := m0.cell_at 6 rfl; have x7 := m0.cell_at 7 rfl; have x8 := m0.cell_at 8 rfl; have x9 := m0.cell_at 9 rfl; have x10 := m0.cell_at 10 rfl; clear m0; have m1 := HQv2.out _ hW; have v0 := m1.cell_at 0 rfl; have v1 := m1.cell_at 1 rfl; clear m1; have m2 := HQr.out _ hW; have r0 := m2.cell_at 0 rfl; have r1 := m2.cell_at 1 rfl; clear m2; have d1 := HNE.out; go_simp; first | done | rfl)) (fun W hW => K6c.out W (HBS.out W hW)) ?_; simp only [Act.put, List.setIfInBounds_toArray, List.set_cons_zero, List.set_cons_succ]))
    refine mix_nil (fun W hW => ?_)
    obtain ⟨w5, hw5⟩ : ∃ w5, W = w5 := ⟨_, rfl⟩
    rw [hw5] at hW ⊢
    have hq := HBS.out w5 hW
    clear hW HBS hw5
    go_wp2_with fail
    have HBS : Hid (∀ W, Below w5.heap.size w5 W → Q2 W) := Lib.hid (fun W hB => HQ2.out _ _ hq hB)
    clear hq
    refine region_mix (Below w5.heap.size w5) [(0, false), (1, false), (2, false), (4, false), (5, false), (6, false), (3, true), (7, true), (8, false), (9, false)] (by kernel_rfl) (by kernel_rfl) (Below w5.heap.size w5) ⟨Closed.below w5, fun _ h => h⟩ (Below.refl _ _).drew ?_
    simp only [pickOps, List.getElem?_cons_zero, List.getElem?_cons_succ]
    repeat (first | (refine mix_skip (by rfl) ?_; simp only [Act.put, List.setIfInBounds_toArray, List.set_cons_zero, List.set_cons_succ]) | (refine mix_read _ (by rfl) (fun W hW => by (have hW := HBS.out W hW; have m0 := HQl2.out _ hW; have x0 := m0.cell_at 0 rfl; have x1 := m0.cell_at 1 rfl; have x2 := m0.cell_at 2 rfl; have x3 := m0.cell_at 3 rfl; have x4 := m0.cell_at 4 rfl; have x5 := m0.cell_at 5 rfl; have x6 := m0.cell_at 6 rfl; have x7 := m0.cell_at 7 rfl; have x8 := m0.cell_at 8 rfl; have x9 := m0.cell_at 9 rfl; have x10 := m0.cell_at 10 rfl; clear m0; have m1 := HQv2.out _ hW; have v0 := m1.cell_at 0 rfl; have v1 := m1.cell_at 1 rfl; clear m1; have m2 := HQr.out _ hW; have r0 := m2.cell_at 0 rfl; have r1 := m2.cell_at 1 rfl; clear m2; go_simp; first | done | with_reducible rfl)) ?_; simp only [Act.put, List.setIfInBounds_toArray, List.set_cons_zero, List.set_cons_succ]))
    refine mix_meet (fun x : Option Addr × Nat => .slice x.1 n1 x.2) (fun x W => Row W W.heap.size x.1 (nums .i64 xs1)) ⟨Closed.below w5, fun _ h => h⟩ (fun x W W' h hB => h.on hB) _ _ (by rfl) (fun W hW => by (have hW := HBS.out W hW; have m0 := HQl2.out _ hW; have x0 := m0.cell_at 0 rfl; have x1 := m0.cell_at 1 rfl; have x2 := m0.cell_at 2 rfl; have x3 := m0.cell_at 3 rfl; have x4 := m0.cell_at 4 rfl; have x5 := m0.cell_at 5 rfl; have x6 := m0.cell_at 6 rfl; have x7 := m0.cell_at 7 rfl; have x8 := m0.cell_at 8 rfl; have x9 := m0.cell_at 9 rfl; have x10 := m0.cell_at 10 rfl; clear m0; have m1 := HQv2.out _ hW; have v0 := m1.cell_at 0 rfl; have v1 := m1.cell_at 1 rfl; clear m1; have m2 := HQr.out _ hW; have r0 := m2.cell_at 0 rfl; have r1 := m2.cell_at 1 rfl; clear m2; go_simp; first | done | rfl)) (fun W hW => K1.out W (HBS.out W hW)) (fun y1 => ?_)
    simp only [Act.put, List.setIfInBounds_toArray, List.set_cons_zero, List.set_cons_succ]
    refine mix_meet (fun x : Option Addr × Nat => .slice x.1 n2 x.2) (fun x W => Row W W.heap.size x.1 (nums .i64 xs2)) ⟨(Closed.below w5).and (fun _ _ h hB => h.on hB), fun _ h => h.1⟩ (fun x W W' h hB => h.on hB) _ _ (by rfl) (fun W hW => by (have hW := HBS.out W hW.1; have m0 := HQl2.out _ hW; have x0 := m0.cell_at 0 rfl; have x1 := m0.cell_at 1 rfl; have x2 := m0.cell_at 2 rfl; have x3 := m0.cell_at 3 rfl; have x4 := m0.cell_at 4 rfl; have x5 := m0.cell_at 5 rfl; have x6 := m0.cell_at 6 rfl; have x7 := m0.cell_at 7 rfl; have x8 := m0.cell_at 8 rfl; have x9 := m0.cell_at 9 rfl; have x10 := m0.cell_at 10 rfl; clear m0; have m1 := HQv2.out _ hW; have v0 := m1.cell_at 0 rfl; have v1 := m1.cell_at 1 rfl; clear m1; have m2 := HQr.out _ hW; have r0 := m2.cell_at 0 rfl; have r1 := m2.cell_at 1 rfl; clear m2; go_simp; first | done | rfl)) (fun W hW => K2.out W (HBS.out W hW.1)) (fun y2 => ?_)
    simp only [Act.put, List.setIfInBounds_toArray, List.set_cons_zero, List.set_cons_succ]
    repeat (first | (refine mix_skip (by rfl) ?_; simp only [Act.put, List.setIfInBounds_toArray, List.set_cons_zero, List.set_cons_succ]) | (refine mix_read _ (by rfl) (fun W hW => by (have hW := HBS.out W hW; have m0 := HQl2.out _ hW; have x0 := m0.cell_at 0 rfl; have x1 := m0.cell_at 1 rfl; have x2 := m0.cell_at 2 rfl; have x3 := m0.cell_at 3 rfl; have x4 := m0.cell_at 4 rfl; have x5 := m0.cell_at 5 rfl; have x6 := m0.cell_at 6 rfl; have x7 := m0.cell_at 7 rfl; have x8 := m0.cell_at 8 rfl; have x9 := m0.cell_at 9 rfl; have x10 := m0.cell_at 10 rfl; clear m0; have m1 := HQv2.out _ hW; have v0 := m1.cell_at 0 rfl; have v1 := m1.cell_at 1 rfl; clear m1; have m2 := HQr.out _ hW; have r0 := m2.cell_at 0 rfl; have r1 := m2.cell_at 1 rfl; clear m2; go_simp; first | done | with_reducible rfl)) ?_; simp only [Act.put, List.setIfInBounds_toArray, List.set_cons_zero, List.set_cons_succ]))
    refine mix_nil (fun W hW => ?_)
    obtain ⟨⟨hB, hr1⟩, hr2⟩ := hW
    obtain ⟨A1, c1⟩ := y1
    obtain ⟨A2, c2⟩ := y2
    simp only at hr1 hr2
    have hq := HBS.out _ hB
    obtain ⟨Q3, HQ3, HQ3p, HR1, hq⟩ := keep_row HQ2.out hq hr1
    obtain ⟨Q4, HQ4, HQ4p, HR2, hq⟩ := keep_row HQ3.out hq hr2
    have HR1 := Lib.hid (fun W hW => HR1.out W (HQ4p.out W hW))
    have HQr4 := Lib.hid (fun W hW => HQr.out W (HQ3p.out W (HQ4p.out W hW)))
    have HQv4 := Lib.hid (fun W hW => HQv2.out W (HQ3p.out W (HQ4p.out W hW)))
    clear hB hr1 hr2 HBS K1 K2 K6a K6b K6c HNE
    go_wp2_with fail
    go_loopw [8, 10] (fun a i wr => ∃ (j : Nat) (b : Bool), j ≤ n1 ∧ a = .bool b ∧ i = .int .i64 (j : Int) ∧ Q4 wr ∧ Hid (b = (xs1.take j).any (· == qs)))
      (fun _ i _ => n1 - (intOf i).toNat)
    case atStart => exact ⟨0, false, by omega, rfl, rfl, hq, Lib.hid (by simp)⟩
    case round =>
      clear hq
      obtain ⟨j, b, hj, rfl, rfl, hq, HB⟩ := hrel
      by_cases hlt : j < n1
      · have hlt' : (j : Int) < n1 := by omega
        obtain ⟨z, hz⟩ : ∃ z, xs1[j]? = some z := ⟨_, List.getElem?_eq_getElem (by rw [HN1.out]; exact hlt)⟩
        obtain ⟨rb, ro, rfl, _, hc⟩ := HR1.out _ hq (by simp [nums]; rw [HN1.out]; omega)
        have HC : Hid (∀ W, Q4 W → W.cell? ⟨rb, ro + j, none⟩ = some (.int .i64 z)) := Lib.hid fun W hW => by
          obtain ⟨_, _, e, _, hc'⟩ := HR1.out _ hW (by simp [nums]; rw [HN1.out]; omega)
          cases e
          exact hc' j _ (by simp [nums, hz])
        have HB2 : Hid ((b || z == qs) = (xs1.take (j + 1)).any (· == qs)) := Lib.hid (by rw [List.take_add_one, hz, List.any_append, ← HB.out]; simp)
        clear hc hz HB
        cases b
        · go_wp2_with fail
          have HBS : Hid (∀ W, Below wr.heap.size wr W → Q4 W) := Lib.hid (fun W hB => HQ4.out _ _ hq hB)
          clear hq
          refine region_mix (Below wr.heap.size wr) [(0, false), (1, false), (2, false), (3, false), (4, false), (5, false), (6, false), (7, false), (8, false), (9, false), (10, false)] (by kernel_rfl) (by kernel_rfl) (Below wr.heap.size wr) ⟨Closed.below wr, fun _ h => h⟩ (Below.refl _ _).drew ?_
          simp only [pickOps, List.getElem?_cons_zero, List.getElem?_cons_succ]
          repeat (first | (refine mix_skip (by rfl) ?_; simp only [Act.put, List.setIfInBounds_toArray, List.set_cons_zero, List.set_cons_succ]) | (refine mix_read _ (by rfl) (fun W hW => by (have hW := HBS.out W hW; have cc := HC.out _ hW; have m0 := HQr4.out _ hW; have r0 := m0.cell_at 0 rfl; clear m0; go_simp; first | done | with_reducible rfl)) ?_; simp only [Act.put, List.setIfInBounds_toArray, List.set_cons_zero, List.set_cons_succ]))
          refine mix_nil (fun W hW => ?_)
          have hq := HBS.out W hW
          clear hW HBS
          go_wp2_with fail
          go_roundw
          case rel => exact ⟨j + 1, _, hlt, rfl, by go_num, hq, by rw [Bool.false_or] at HB2; exact HB2⟩
          case measure => simp [intOf]; omega
        · go_wp2_with fail
          have HBS : Hid (∀ W, Below wr.heap.size wr W → Q4 W) := Lib.hid (fun W hB => HQ4.out _ _ hq hB)
          clear hq
          refine region_mix (Below wr.heap.size wr) [(0, false), (1, false), (2, false), (3, false), (4, false), (5, false), (6, false), (7, false), (8, false), (9, false), (10, false)] (by kernel_rfl) (by kernel_rfl) (Below wr.heap.size wr) ⟨Closed.below wr, fun _ h => h⟩ (Below.refl _ _).drew ?_
          simp only [pickOps, List.getElem?_cons_zero, List.getElem?_cons_succ]
          repeat (first | (refine mix_skip (by rfl) ?_; simp only [Act.put, List.setIfInBounds_toArray, List.set_cons_zero, List.set_cons_succ]) | (refine mix_read _ (by rfl) (fun W hW => by (have hW := HBS.out W hW; have cc := HC.out _ hW; have m0 := HQr4.out _ hW; have r0 := m0.cell_at 0 rfl; clear m0; go_simp; first | done | with_reducible rfl)) ?_; simp only [Act.put, List.setIfInBounds_toArray, List.set_cons_zero, List.set_cons_succ]))
          refine mix_nil (fun W hW => ?_)
          have hq := HBS.out W hW
          clear hW HBS
          go_wp2_with fail
          go_roundw
          case rel => exact ⟨j + 1, true, hlt, rfl, by go_num, hq, by rw [Bool.true_or] at HB2; exact HB2⟩
          case measure => simp [intOf]; omega
      · obtain rfl : j = n1 := by omega
        have hbt : b = true := by rw [HB.out, List.take_of_length_le (by rw [HN1.out]; exact Nat.le_refl _)]; exact HM1.out
        subst hbt
        clear HB
        go_wp2_with fail
        go_loopw [9, 11] (fun a i wr => ∃ (j : Nat) (b : Bool), j ≤ n2 ∧ a = .bool b ∧ i = .int .i64 (j : Int) ∧ Q4 wr ∧ Hid (b = (xs2.take j).any (· == s)))
          (fun _ i _ => n2 - (intOf i).toNat)
        case atStart => exact ⟨0, false, by omega, rfl, rfl, hq, Lib.hid (by simp)⟩
        case round =>
          clear hq
          obtain ⟨j, b, hj, rfl, rfl, hq, HB⟩ := hrel
          by_cases hlt : j < n2
          · have hlt' : (j : Int) < n2 := by omega
            obtain ⟨z, hz⟩ : ∃ z, xs2[j]? = some z := ⟨_, List.getElem?_eq_getElem (by rw [HN2.out]; exact hlt)⟩
            obtain ⟨rb, ro, rfl, _, hc⟩ := HR2.out _ hq (by simp [nums]; rw [HN2.out]; omega)
            have HC : Hid (∀ W, Q4 W → W.cell? ⟨rb, ro + j, none⟩ = some (.int .i64 z)) := Lib.hid fun W hW => by
              obtain ⟨_, _, e, _, hc'⟩ := HR2.out _ hW (by simp [nums]; rw [HN2.out]; omega)
              cases e
              exact hc' j _ (by simp [nums, hz])
            have HB2 : Hid ((b || z == s) = (xs2.take (j + 1)).any (· == s)) := Lib.hid (by rw [List.take_add_one, hz, List.any_append, ← HB.out]; simp)
            clear hc hz HB
            cases b
            · go_wp2_with fail
              have HBS : Hid (∀ W, Below wr.heap.size wr W → Q4 W) := Lib.hid (fun W hB => HQ4.out _ _ hq hB)
              clear hq
              refine region_mix (Below wr.heap.size wr) [(0, false), (1, false), (2, false), (3, false), (4, false), (5, false), (6, false), (7, false), (8, false), (9, false), (10, false)] (by kernel_rfl) (by kernel_rfl) (Below wr.heap.size wr) ⟨Closed.below wr, fun _ h => h⟩ (Below.refl _ _).drew ?_
              simp only [pickOps, List.getElem?_cons_zero, List.getElem?_cons_succ]
              repeat (first | (refine mix_skip (by rfl) ?_; simp only [Act.put, List.setIfInBounds_toArray, List.set_cons_zero, List.set_cons_succ]) | (refine mix_read _ (by rfl) (fun W hW => by (have hW := HBS.out W hW; have cc := HC.out _ hW; have m0 := HQv4.out _ hW; have v0 := m0.cell_at 0 rfl; clear m0; go_simp; first | done | with_reducible rfl)) ?_; simp only [Act.put, List.setIfInBounds_toArray, List.set_cons_zero, List.set_cons_succ]))
              refine mix_nil (fun W hW => ?_)
              have hq := HBS.out W hW
              clear hW HBS
              go_wp2_with fail
              go_roundw
              case rel => exact ⟨j + 1, _, hlt, rfl, by go_num, hq, by rw [Bool.false_or] at HB2; exact HB2⟩
              case measure => simp [intOf]; omega
            · go_wp2_with fail
              have HBS : Hid (∀ W, Below wr.heap.size wr W → Q4 W) := Lib.hid (fun W hB => HQ4.out _ _ hq hB)
              clear hq
              refine region_mix (Below wr.heap.size wr) [(0, false), (1, false), (2, false), (3, false), (4, false), (5, false), (6, false), (7, false), (8, false), (9, false), (10, false)] (by kernel_rfl) (by kernel_rfl) (Below wr.heap.size wr) ⟨Closed.below wr, fun _ h => h⟩ (Below.refl _ _).drew ?_
              simp only [pickOps, List.getElem?_cons_zero, List.getElem?_cons_succ]
              repeat (first | (refine mix_skip (by rfl) ?_; simp only [Act.put, List.setIfInBounds_toArray, List.set_cons_zero, List.set_cons_succ]) | (refine mix_read _ (by rfl) (fun W hW => by (have hW := HBS.out W hW; have cc := HC.out _ hW; have m0 := HQv4.out _ hW; have v0 := m0.cell_at 0 rfl; clear m0; go_simp; first | done | with_reducible rfl)) ?_; simp only [Act.put, List.setIfInBounds_toArray, List.set_cons_zero, List.set_cons_succ]))
              refine mix_nil (fun W hW => ?_)
              have hq := HBS.out W hW
              clear hW HBS
              go_wp2_with fail
              go_roundw
              case rel => exact ⟨j + 1, true, hlt, rfl, by go_num, hq, by rw [Bool.true_or] at HB2; exact HB2⟩
              case measure => simp [intOf]; omega
          · obtain rfl : j = n2 := by omega
            have hbt : b = true := by rw [HB.out, List.take_of_length_le (by rw [HN2.out]; exact Nat.le_refl _)]; exact HM2.out
            subst hbt
            clear HB
            go_wp2_with fail
            refine (KW.out _ (HQ2p.out _ (HQ3p.out _ (HQ4p.out _ hq)))).mono ?_
            clear hq
            rintro e w9 ⟨rfl, hq⟩
            go_wp2_with fail
            go_ret
            exact ⟨rfl, HQB.out _ hq⟩
end Go.Proofs.YtaelcmamgcndmaaDoor
