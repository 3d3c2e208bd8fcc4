/- The walk of RouteParts: two Route paths of one signal part behind a point that both enter by its toe. -/
import Derived.Test.YtlfpkileblmhoaaGreatDoorQRouM
import Derived.Test.YtlfpkileblmhoaaGreatDoorQTopoN
import Derived.Test.YtlfpkileblmhoaaGreatDoorQMixW
namespace Go.Proofs.YtlfpkileblmhoaaGreatDoor
open Go.RowKit Go.Shelf
set_option linter.unusedVariables false
set_option linter.unusedSimpArgs false

theorem setCells_away : ∀ (vs : List Value) (o : Nat) {g k : Nat} {t : TypeId} {cs : List Value} {w : World}, g ≠ k → Whole w g t cs → Whole (w.setCells k o vs) g t cs
  | [], _, _, _, _, _, _, _, h => h
  | v :: vs, o, g, k, t, cs, w, hg, h => setCells_away vs (o + 1) hg (h.far (p := ⟨k, o, none⟩) hg v)
/-- Where a path's step enters. -/
theorem enter_first {l : Lay} {p : Pth} {a : Int × Int × Int} (h : isPathV l p = true) (ha : p.ss[0]? = some a) : l.sigs[p.s.toNat]? = some (a.1, a.2.1) := by
  unfold isPathV at h
  simp only [Bool.and_eq_true] at h
  have hb := h.2.2.1
  unfold beginV at hb
  rw [List.head?_eq_getElem?, ha] at hb
  cases hy : l.sigs[p.s.toNat]? with
  | none => rw [hy] at hb; cases hb
  | some y =>
    rw [hy] at hb
    obtain ⟨y1, y2⟩ := y
    simp only [Bool.and_eq_true, beq_iff_eq] at hb
    rw [hb.1, hb.2]
theorem enter_next {l : Lay} {p : Pth} {j : Nat} {z a : Int × Int × Int} (h : isPathV l p = true) (hz : p.ss[j]? = some z) (ha : p.ss[j + 1]? = some a) : beyondV l z.1 z.2.2 = (a.1, a.2.1) := by
  unfold isPathV at h
  simp only [Bool.and_eq_true] at h
  have hg := h.2.1
  rw [goesS_parts, Bool.and_eq_true, List.all_eq_true, List.all_eq_true] at hg
  have := hg.2 _ (List.mem_of_getElem? (neigh_at hz ha))
  unfold hangS at this
  exact of_decide_eq_true this
theorem path_step {l : Lay} {p : Pth} {j : Nat} {a : Int × Int × Int} (h : isPathV l p = true) (ha : p.ss[j]? = some a) : stepV l a.1 a.2.1 a.2.2 = true := by
  unfold isPathV at h
  simp only [Bool.and_eq_true] at h
  have hg := h.2.1
  rw [goesS_parts, Bool.and_eq_true, List.all_eq_true] at hg
  exact hg.1 _ (List.mem_of_getElem? ha)
/-- Where two paths of one signal part. -/
theorem parts_toe {l : Lay} {p q : Pth} {k : Nat} {a b : Int × Int × Int} (hp : isPathV l p = true) (hq : isPathV l q = true) (hs : p.s = q.s) (hpre : p.ss.take k = q.ss.take k) (ha : p.ss[k]? = some a) (hb : q.ss[k]? = some b) (hne : a ≠ b) :
    ∃ (j : Nat) (y : Sec) (a3 b3 : Int), a = ((j : Int), 0, a3) ∧ b = ((j : Int), 0, b3) ∧ a3 ≠ b3 ∧ l.secs[j]? = some y ∧ y.k = 2 := by
  have hin : a.1 = b.1 ∧ a.2.1 = b.2.1 := by
    cases k with
    | zero =>
      have h1 := enter_first hp ha
      have h2 := enter_first hq hb
      rw [hs, h2] at h1
      simp only [Option.some.injEq, Prod.mk.injEq] at h1
      exact ⟨h1.1.symm, h1.2.symm⟩
    | succ k =>
      have hlt := (List.getElem?_eq_some_iff.1 ha).1
      obtain ⟨z, hz⟩ : ∃ z, p.ss[k]? = some z := ⟨_, List.getElem?_eq_getElem (by omega)⟩
      have hz' : q.ss[k]? = some z := by
        have h1 : (p.ss.take (k + 1))[k]? = some z := by rw [List.getElem?_take, if_pos (by omega)]; exact hz
        rw [hpre, List.getElem?_take, if_pos (by omega)] at h1
        exact h1
      have h1 := enter_next hp hz ha
      have h2 := enter_next hq hz' hb
      rw [h1] at h2
      simp only [Prod.mk.injEq] at h2
      exact h2
  have h1 := path_step hp ha
  have h2 := path_step hq hb
  obtain ⟨j, y, e, hy, hk, hg⟩ := step_some h1
  obtain ⟨j', y', e', hy', hk', hg'⟩ := step_some h2
  have hj : j' = j := by have := hin.1; omega
  subst hj
  rw [hy] at hy'
  cases hy'
  obtain ⟨a1, a2, a3⟩ := a
  obtain ⟨b1, b2, b3⟩ := b
  simp only at hin hg hg' e e'
  obtain ⟨h3, h4⟩ := hin
  subst h3 h4 e
  have hd : a3 ≠ b3 := fun e => hne (by rw [e])
  obtain ⟨t1, t2⟩ := two_ways hg hg' hd
  subst t2
  exact ⟨j', y, a3, b3, rfl, rfl, hd, hy, t1⟩

set_option maxRecDepth 100000 in
set_option maxHeartbeats 32000000 in
theorem routeParts_walk (l : Lay) (p q : Pth) (w : World) (hT : Shapes w) (hL : Lies l w) (hp : PLies p w) (hq' : PLies q w) :
    Calls Tryz.prog 6 #[l.val, p.val, q.val] w fun e w' => e = .returned (.bool true) ∧ Below w.heap.size w w' := by
  obtain ⟨Q, HQ, HQb, HQl, HQp, HQq, hq⟩ : ∃ Q : World → Prop, Hid (Closed Q) ∧ Hid (∀ W, Q W → Below w.heap.size w W) ∧ Hid (∀ W, Q W → Whole W w.heap.size 29 l.cells) ∧ Hid (∀ W, Q W → Whole W (w.heap.size + 1) 32 p.cells) ∧ Hid (∀ W, Q W → Whole W (w.heap.size + 1 + 1) 32 q.cells) ∧ Q (((w.alloc (.cells l.cells.toArray 29)).alloc (.cells p.cells.toArray 32)).alloc (.cells q.cells.toArray 32)) :=
    ⟨fun W => Below w.heap.size w W ∧ Whole W w.heap.size 29 l.cells ∧ Whole W (w.heap.size + 1) 32 p.cells ∧ Whole W (w.heap.size + 1 + 1) 32 q.cells, Lib.hid ((Closed.below w).and ((Closed.whole _ _ _).and ((Closed.whole _ _ _).and (Closed.whole _ _ _)))), Lib.hid fun _ h => h.1, Lib.hid fun _ h => h.2.1, Lib.hid fun _ h => h.2.2.1, Lib.hid fun _ h => h.2.2.2, below3 w _ _ _, ((Whole.new w _ l.cells).alloc _).alloc _, (Whole.new_at _ _ p.cells _ (by simp)).alloc _, Whole.new_at _ _ q.cells _ (by simp)⟩
  have hT0 := Lib.hid hT
  have HTW : Hid (∀ W, Q W → Shapes W ∧ Lies l W) := Lib.hid fun W hW => ⟨Shapes.closed _ _ hT (HQb.out W hW), Lies.closed l _ _ hL (HQb.out W hW)⟩
  have HPW : Hid (∀ W, Q W → PLies p W ∧ PLies q W) := Lib.hid fun W hW => ⟨PLies.closed _ _ _ hp (HQb.out W hW), PLies.closed _ _ _ hq' (HQb.out W hW)⟩
  have hnp := hp.len
  have hnq := hq'.len
  obtain ⟨gp, hgp⟩ : ∃ g, great11 l p = g := ⟨_, rfl⟩
  obtain ⟨gq, hgq⟩ : ∃ g, great11 l q = g := ⟨_, rfl⟩
  obtain ⟨ip, hip⟩ : ∃ b, (check11 l p [] == 0) = b := ⟨_, rfl⟩
  obtain ⟨iq, hiq⟩ : ∃ b, (check11 l q [] == 0) = b := ⟨_, rfl⟩
  have KGP := Lib.hid (fun W hW => keepR HQ.out (great11_any (w := W) (HTW.out W hW).2 hgp) hW)
  have KGQ := Lib.hid (fun W hW => keepR HQ.out (great11_any (w := W) (HTW.out W hW).2 hgq) hW)
  have KIP : Hid (∀ W, Q W → Calls Tryz.prog 12 #[l.val, p.val, .slice none 0 0] W fun e w' => e = .returned (.bool ip) ∧ Q w') := Lib.hid (fun W hW => keepR HQ.out (is11_any (w := W) (HTW.out W hW).1 (HTW.out W hW).2 (HPW.out W hW).1 (vs := []) (A := none) (c := 0) (Row.nil _ _ _) (by decide) (by decide) hip) hW)
  have KIQ : Hid (∀ W, Q W → Calls Tryz.prog 12 #[l.val, q.val, .slice none 0 0] W fun e w' => e = .returned (.bool iq) ∧ Q w') := Lib.hid (fun W hW => keepR HQ.out (is11_any (w := W) (HTW.out W hW).1 (HTW.out W hW).2 (HPW.out W hW).2 (vs := []) (A := none) (c := 0) (Row.nil _ _ _) (by decide) (by decide) hiq) hW)
  have KW : Hid (∀ W, Q W → Calls Tryz.prog 9 #[] W fun e w' => e = .returned (.bool true) ∧ Below w.heap.size w w') := Lib.hid fun W hW => wakes11_P (P := fun W' => Below w.heap.size w W') (Closed.below w) (fun W' h => Shapes.closed _ _ hT0.out h) (HQb.out W hW)
  have HIP := Lib.hid hip
  have HIQ := Lib.hid hiq
  clear hT hL hp hq' hgp hgq hip hiq
  go_enter Tryz.func6, Tryz.ntmps6
  have m0 := HQl.out _ hq
  have x0 := m0.cell_at 0 rfl
  have x1 := m0.cell_at 1 rfl
  have x2 := m0.cell_at 2 rfl
  have x3 := m0.cell_at 3 rfl
  have x4 := m0.cell_at 4 rfl
  have x5 := m0.cell_at 5 rfl
  have x6 := m0.cell_at 6 rfl
  have x7 := m0.cell_at 7 rfl
  have x8 := m0.cell_at 8 rfl
  have x9 := m0.cell_at 9 rfl
  have x10 := m0.cell_at 10 rfl
  clear m0
  have m0 := HQp.out _ hq
  have y0 := m0.cell_at 0 rfl
  have y1 := m0.cell_at 1 rfl
  have y2 := m0.cell_at 2 rfl
  clear m0
  have m0 := HQq.out _ hq
  have z0 := m0.cell_at 0 rfl
  have z1 := m0.cell_at 1 rfl
  have z2 := m0.cell_at 2 rfl
  clear m0
  go_wp2_with fail
  refine (KGP.out _ hq).mono ?_
  clear hq x0 x1 x2 x3 x4 x5 x6 x7 x8 x9 x10 y0 y1 y2 z0 z1 z2
  rintro e w1 ⟨rfl, hq⟩
  cases gp
  rotate_left
  · go_wp2_with fail
    refine (KW.out _ hq).mono ?_
    clear hq
    rintro e wz ⟨rfl, hB⟩
    have HBz := Lib.hid hB
    clear hB
    go_wp2_with fail
    go_ret
    exact ⟨rfl, HBz.out⟩
  have m0 := HQl.out _ hq
  have x0 := m0.cell_at 0 rfl
  have x1 := m0.cell_at 1 rfl
  have x2 := m0.cell_at 2 rfl
  have x3 := m0.cell_at 3 rfl
  have x4 := m0.cell_at 4 rfl
  have x5 := m0.cell_at 5 rfl
  have x6 := m0.cell_at 6 rfl
  have x7 := m0.cell_at 7 rfl
  have x8 := m0.cell_at 8 rfl
  have x9 := m0.cell_at 9 rfl
  have x10 := m0.cell_at 10 rfl
  clear m0
  have m0 := HQp.out _ hq
  have y0 := m0.cell_at 0 rfl
  have y1 := m0.cell_at 1 rfl
  have y2 := m0.cell_at 2 rfl
  clear m0
  have m0 := HQq.out _ hq
  have z0 := m0.cell_at 0 rfl
  have z1 := m0.cell_at 1 rfl
  have z2 := m0.cell_at 2 rfl
  clear m0
  go_wp2_with fail
  refine (KGQ.out _ hq).mono ?_
  clear hq x0 x1 x2 x3 x4 x5 x6 x7 x8 x9 x10 y0 y1 y2 z0 z1 z2
  rintro e w2 ⟨rfl, hq⟩
  cases gq
  rotate_left
  · go_wp2_with fail
    refine (KW.out _ hq).mono ?_
    clear hq
    rintro e wz ⟨rfl, hB⟩
    have HBz := Lib.hid hB
    clear hB
    go_wp2_with fail
    go_ret
    exact ⟨rfl, HBz.out⟩
  have m0 := HQl.out _ hq
  have x0 := m0.cell_at 0 rfl
  have x1 := m0.cell_at 1 rfl
  have x2 := m0.cell_at 2 rfl
  have x3 := m0.cell_at 3 rfl
  have x4 := m0.cell_at 4 rfl
  have x5 := m0.cell_at 5 rfl
  have x6 := m0.cell_at 6 rfl
  have x7 := m0.cell_at 7 rfl
  have x8 := m0.cell_at 8 rfl
  have x9 := m0.cell_at 9 rfl
  have x10 := m0.cell_at 10 rfl
  clear m0
  have m0 := HQp.out _ hq
  have y0 := m0.cell_at 0 rfl
  have y1 := m0.cell_at 1 rfl
  have y2 := m0.cell_at 2 rfl
  clear m0
  have m0 := HQq.out _ hq
  have z0 := m0.cell_at 0 rfl
  have z1 := m0.cell_at 1 rfl
  have z2 := m0.cell_at 2 rfl
  clear m0
  go_wp2_with fail
  refine (KIP.out _ hq).mono ?_
  clear hq x0 x1 x2 x3 x4 x5 x6 x7 x8 x9 x10 y0 y1 y2 z0 z1 z2
  rintro e w3 ⟨rfl, hq⟩
  cases ip
  · go_wp2_with fail
    refine (KW.out _ hq).mono ?_
    clear hq
    rintro e wz ⟨rfl, hB⟩
    have HBz := Lib.hid hB
    clear hB
    go_wp2_with fail
    go_ret
    exact ⟨rfl, HBz.out⟩
  have m0 := HQl.out _ hq
  have x0 := m0.cell_at 0 rfl
  have x1 := m0.cell_at 1 rfl
  have x2 := m0.cell_at 2 rfl
  have x3 := m0.cell_at 3 rfl
  have x4 := m0.cell_at 4 rfl
  have x5 := m0.cell_at 5 rfl
  have x6 := m0.cell_at 6 rfl
  have x7 := m0.cell_at 7 rfl
  have x8 := m0.cell_at 8 rfl
  have x9 := m0.cell_at 9 rfl
  have x10 := m0.cell_at 10 rfl
  clear m0
  have m0 := HQp.out _ hq
  have y0 := m0.cell_at 0 rfl
  have y1 := m0.cell_at 1 rfl
  have y2 := m0.cell_at 2 rfl
  clear m0
  have m0 := HQq.out _ hq
  have z0 := m0.cell_at 0 rfl
  have z1 := m0.cell_at 1 rfl
  have z2 := m0.cell_at 2 rfl
  clear m0
  go_wp2_with fail
  refine (KIQ.out _ hq).mono ?_
  clear hq x0 x1 x2 x3 x4 x5 x6 x7 x8 x9 x10 y0 y1 y2 z0 z1 z2
  rintro e w4 ⟨rfl, hq⟩
  cases iq
  · go_wp2_with fail
    refine (KW.out _ hq).mono ?_
    clear hq
    rintro e wz ⟨rfl, hB⟩
    have HBz := Lib.hid hB
    clear hB
    go_wp2_with fail
    go_ret
    exact ⟨rfl, HBz.out⟩
  have m0 := HQl.out _ hq
  have x0 := m0.cell_at 0 rfl
  have x1 := m0.cell_at 1 rfl
  have x2 := m0.cell_at 2 rfl
  have x3 := m0.cell_at 3 rfl
  have x4 := m0.cell_at 4 rfl
  have x5 := m0.cell_at 5 rfl
  have x6 := m0.cell_at 6 rfl
  have x7 := m0.cell_at 7 rfl
  have x8 := m0.cell_at 8 rfl
  have x9 := m0.cell_at 9 rfl
  have x10 := m0.cell_at 10 rfl
  clear m0
  have m0 := HQp.out _ hq
  have y0 := m0.cell_at 0 rfl
  have y1 := m0.cell_at 1 rfl
  have y2 := m0.cell_at 2 rfl
  clear m0
  have m0 := HQq.out _ hq
  have z0 := m0.cell_at 0 rfl
  have z1 := m0.cell_at 1 rfl
  have z2 := m0.cell_at 2 rfl
  clear m0
  by_cases hs : p.s = q.s
  rotate_left
  · have hne : (p.s != q.s) = true := by simp [hs]
    clear hs
    go_wp2_with fail
    clear x0 x1 x2 x3 x4 x5 x6 x7 x8 x9 x10 y0 y1 y2 z0 z1 z2
    go_wp2_with fail
    refine (KW.out _ hq).mono ?_
    clear hq
    rintro e wz ⟨rfl, hB⟩
    have HBz := Lib.hid hB
    clear hB
    go_wp2_with fail
    go_ret
    exact ⟨rfl, HBz.out⟩
  have hne : (p.s != q.s) = false := by simp [hs]
  have HPP : Hid (isPathV l p = true ∧ isPathV l q = true ∧ p.s = q.s) := Lib.hid ⟨(check11_ok.1 (beq_iff_eq.1 HIP.out)).2.1, (check11_ok.1 (beq_iff_eq.1 HIQ.out)).2.1, hs⟩
  clear hs
  go_wp2_with fail
  clear hne x0 x1 x2 x3 x4 x5 x6 x7 x8 x9 x10 y0 y1 y2 z0 z1 z2
  go_loopw [7] (fun i wr => ∃ k : Nat, k ≤ p.ss.length ∧ k ≤ q.ss.length ∧ i = .int .i64 k ∧ Q wr ∧ Hid (p.ss.take k = q.ss.take k)) (fun i _ => p.ss.length - (intOf i).toNat)
  case atStart => exact ⟨0, by omega, by omega, rfl, hq, Lib.hid (by rw [List.take_zero, List.take_zero])⟩
  case round =>
    clear hq
    obtain ⟨k, hkp, hkq, rfl, hq, HPR⟩ := hrel
    obtain ⟨wa, rfl⟩ : ∃ W, W = wr := ⟨wr, rfl⟩
    by_cases h1 : k < p.ss.length
    rotate_left
    · have h1' : ¬ (k : Int) < p.ss.length := by omega
      have h1d : decide (k < p.ss.length) = false := decide_eq_false h1
      have h1e : ((k : Int) == p.ss.length) = true := by rw [beq_iff_eq]; omega
      have h1n : k = p.ss.length := by omega
      clear h1
      go_wp2_with fail
      have HBS : Hid (∀ W, Below wa.heap.size wa W → Q W) := Lib.hid (fun W hB => HQ.out _ _ hq hB)
      clear hq
      refine region_mix (Below wa.heap.size wa) [(0, false), (1, false), (2, false), (3, false), (4, false), (5, false), (6, false), (7, false), (8, false), (9, false), (10, false), (11, false), (12, false), (13, false), (14, false), (15, false), (16, false), (17, false), (18, false), (19, false), (20, false), (21, false), (22, false), (23, false), (24, false)] (by kernel_rfl) (by kernel_rfl) (Below wa.heap.size wa) ⟨Closed.below wa, fun _ h => h⟩ (Below.refl _ _).drew ?_
      simp only [pickOps, List.getElem?_cons_zero, List.getElem?_cons_succ]
      repeat (first | (refine mix_skip (by rfl) ?_; simp only [Act.put, List.setIfInBounds_toArray, List.set_cons_zero, List.set_cons_succ]) | (refine mix_read _ (by rfl) (fun W hW => by (have hW := HBS.out W hW; have m0 := HQl.out W hW; have x0 := m0.cell_at 0 rfl; have x1 := m0.cell_at 1 rfl; have x2 := m0.cell_at 2 rfl; have x3 := m0.cell_at 3 rfl; have x4 := m0.cell_at 4 rfl; have x5 := m0.cell_at 5 rfl; have x6 := m0.cell_at 6 rfl; have x7 := m0.cell_at 7 rfl; have x8 := m0.cell_at 8 rfl; have x9 := m0.cell_at 9 rfl; have x10 := m0.cell_at 10 rfl; clear m0; have m0 := HQp.out W hW; have y0 := m0.cell_at 0 rfl; have y1 := m0.cell_at 1 rfl; have y2 := m0.cell_at 2 rfl; clear m0; have m0 := HQq.out W hW; have z0 := m0.cell_at 0 rfl; have z1 := m0.cell_at 1 rfl; have z2 := m0.cell_at 2 rfl; clear m0; go_simp; first | done | with_reducible rfl)) ?_; simp only [Act.put, List.setIfInBounds_toArray, List.set_cons_zero, List.set_cons_succ]))
      refine mix_nil (fun W hW => ?_)
      have hq := HBS.out W hW
      clear hW HBS
      have m0 := HQl.out _ hq
      have x0 := m0.cell_at 0 rfl
      have x1 := m0.cell_at 1 rfl
      have x2 := m0.cell_at 2 rfl
      have x3 := m0.cell_at 3 rfl
      have x4 := m0.cell_at 4 rfl
      have x5 := m0.cell_at 5 rfl
      have x6 := m0.cell_at 6 rfl
      have x7 := m0.cell_at 7 rfl
      have x8 := m0.cell_at 8 rfl
      have x9 := m0.cell_at 9 rfl
      have x10 := m0.cell_at 10 rfl
      clear m0
      have m0 := HQp.out _ hq
      have y0 := m0.cell_at 0 rfl
      have y1 := m0.cell_at 1 rfl
      have y2 := m0.cell_at 2 rfl
      clear m0
      have m0 := HQq.out _ hq
      have z0 := m0.cell_at 0 rfl
      have z1 := m0.cell_at 1 rfl
      have z2 := m0.cell_at 2 rfl
      clear m0
      go_wp2_with fail
      clear x0 x1 x2 x3 x4 x5 x6 x7 x8 x9 x10 y0 y1 y2 z0 z1 z2
      go_wp2_with fail
      refine (KW.out _ hq).mono ?_
      clear hq
      rintro e wz ⟨rfl, hB⟩
      have HBz := Lib.hid hB
      clear hB
      go_wp2_with fail
      go_ret
      exact ⟨rfl, HBz.out⟩
    have h1' : (k : Int) < p.ss.length := by omega
    have h1d : decide (k < p.ss.length) = true := decide_eq_true h1
    have h1e : ((k : Int) == p.ss.length) = false := by rw [beq_eq_false_iff_ne]; omega
    by_cases h2 : k < q.ss.length
    rotate_left
    · have h2' : ¬ (k : Int) < q.ss.length := by omega
      have h2d : decide (k < q.ss.length) = false := decide_eq_false h2
      have h2e : ((k : Int) == q.ss.length) = true := by rw [beq_iff_eq]; omega
      clear h1 h2
      go_wp2_with fail
      have HBS : Hid (∀ W, Below wa.heap.size wa W → Q W) := Lib.hid (fun W hB => HQ.out _ _ hq hB)
      clear hq
      refine region_mix (Below wa.heap.size wa) [(0, false), (1, false), (2, false), (3, false), (4, false), (5, false), (6, false), (7, false), (8, false), (9, false), (10, false), (11, false), (12, false), (13, false), (14, false), (15, false), (16, false), (17, false), (18, false), (19, false), (20, false), (21, false), (22, false), (23, false), (24, false)] (by kernel_rfl) (by kernel_rfl) (Below wa.heap.size wa) ⟨Closed.below wa, fun _ h => h⟩ (Below.refl _ _).drew ?_
      simp only [pickOps, List.getElem?_cons_zero, List.getElem?_cons_succ]
      repeat (first | (refine mix_skip (by rfl) ?_; simp only [Act.put, List.setIfInBounds_toArray, List.set_cons_zero, List.set_cons_succ]) | (refine mix_read _ (by rfl) (fun W hW => by (have hW := HBS.out W hW; have m0 := HQl.out W hW; have x0 := m0.cell_at 0 rfl; have x1 := m0.cell_at 1 rfl; have x2 := m0.cell_at 2 rfl; have x3 := m0.cell_at 3 rfl; have x4 := m0.cell_at 4 rfl; have x5 := m0.cell_at 5 rfl; have x6 := m0.cell_at 6 rfl; have x7 := m0.cell_at 7 rfl; have x8 := m0.cell_at 8 rfl; have x9 := m0.cell_at 9 rfl; have x10 := m0.cell_at 10 rfl; clear m0; have m0 := HQp.out W hW; have y0 := m0.cell_at 0 rfl; have y1 := m0.cell_at 1 rfl; have y2 := m0.cell_at 2 rfl; clear m0; have m0 := HQq.out W hW; have z0 := m0.cell_at 0 rfl; have z1 := m0.cell_at 1 rfl; have z2 := m0.cell_at 2 rfl; clear m0; go_simp; first | done | with_reducible rfl)) ?_; simp only [Act.put, List.setIfInBounds_toArray, List.set_cons_zero, List.set_cons_succ]))
      refine mix_nil (fun W hW => ?_)
      have hq := HBS.out W hW
      clear hW HBS
      have m0 := HQl.out _ hq
      have x0 := m0.cell_at 0 rfl
      have x1 := m0.cell_at 1 rfl
      have x2 := m0.cell_at 2 rfl
      have x3 := m0.cell_at 3 rfl
      have x4 := m0.cell_at 4 rfl
      have x5 := m0.cell_at 5 rfl
      have x6 := m0.cell_at 6 rfl
      have x7 := m0.cell_at 7 rfl
      have x8 := m0.cell_at 8 rfl
      have x9 := m0.cell_at 9 rfl
      have x10 := m0.cell_at 10 rfl
      clear m0
      have m0 := HQp.out _ hq
      have y0 := m0.cell_at 0 rfl
      have y1 := m0.cell_at 1 rfl
      have y2 := m0.cell_at 2 rfl
      clear m0
      have m0 := HQq.out _ hq
      have z0 := m0.cell_at 0 rfl
      have z1 := m0.cell_at 1 rfl
      have z2 := m0.cell_at 2 rfl
      clear m0
      go_wp2_with fail
      clear x0 x1 x2 x3 x4 x5 x6 x7 x8 x9 x10 y0 y1 y2 z0 z1 z2
      go_wp2_with fail
      refine (KW.out _ hq).mono ?_
      clear hq
      rintro e wz ⟨rfl, hB⟩
      have HBz := Lib.hid hB
      clear hB
      go_wp2_with fail
      go_ret
      exact ⟨rfl, HBz.out⟩
    have h2' : (k : Int) < q.ss.length := by omega
    have h2d : decide (k < q.ss.length) = true := decide_eq_true h2
    have h2e : ((k : Int) == q.ss.length) = false := by rw [beq_eq_false_iff_ne]; omega
    obtain ⟨a, ha⟩ : ∃ x, p.ss[k]? = some x := ⟨_, List.getElem?_eq_getElem h1⟩
    obtain ⟨b, hb⟩ : ∃ x, q.ss[k]? = some x := ⟨_, List.getElem?_eq_getElem h2⟩
    obtain ⟨bp, op, HPA, HC, HC'⟩ := row_at (f := stpCells) (n := 3) (fun _ => rfl) (by omega) (fun W hW => (HPW.out W hW).1.row) hq ha
    obtain ⟨bq, oq, HQA, HD, HD'⟩ := row_at (f := stpCells) (n := 3) (fun _ => rfl) (by omega) (fun W hW => (HPW.out W hW).2.row) hq hb
    have HXC : Hid (∀ W, Q W → W.cell? ⟨bp, op + k * 3, none⟩ = some (.int .i64 a.1) ∧ W.cell? ⟨bp, op + k * 3 + 1, none⟩ = some (.int .i64 a.2.1) ∧ W.cell? ⟨bp, op + k * 3 + 2, none⟩ = some (.int .i64 a.2.2)) := Lib.hid fun W hW => ⟨HC.out W hW k _ _ ha rfl, HC'.out W hW k _ 1 _ ha rfl, HC'.out W hW k _ 2 _ ha rfl⟩
    have HYC : Hid (∀ W, Q W → W.cell? ⟨bq, oq + k * 3, none⟩ = some (.int .i64 b.1) ∧ W.cell? ⟨bq, oq + k * 3 + 1, none⟩ = some (.int .i64 b.2.1) ∧ W.cell? ⟨bq, oq + k * 3 + 2, none⟩ = some (.int .i64 b.2.2)) := Lib.hid fun W hW => ⟨HD.out W hW k _ _ hb rfl, HD'.out W hW k _ 1 _ hb rfl, HD'.out W hW k _ 2 _ hb rfl⟩
    have HAB := Lib.hid (And.intro ha hb)
    obtain ⟨d, hd⟩ : ∃ d, decide (a = b) = d := ⟨_, rfl⟩
    have HEL : Hid (∀ W, (binOp .eql 50 (stpV a.1 a.2.1 a.2.2) (stpV b.1 b.2.1 b.2.2)).run Tryz.prog W = .ok (.bool d) W) := Lib.hid fun W => by
      rw [run_eql_struct, eq_stp, ← hd]
      have : (a.1 == b.1 && (a.2.1 == b.2.1 && a.2.2 == b.2.2)) = decide (a = b) := by
        rw [Bool.eq_iff_iff]
        obtain ⟨a1, a2, a3⟩ := a
        obtain ⟨b1, b2, b3⟩ := b
        simp
      rw [this]
      rfl
    have HDD := Lib.hid hd
    have HK := Lib.hid (And.intro h1 h2)
    clear h1 h2 ha hb hd HC HC' HD HD'
    cases d
    rotate_left
    · have HN : Hid (p.ss.take (k + 1) = q.ss.take (k + 1)) := Lib.hid (by rw [List.take_add_one, List.take_add_one, HPR.out, HAB.out.1, HAB.out.2, of_decide_eq_true HDD.out])
      go_wp2_with fail
      have HBS : Hid (∀ W, Below wa.heap.size wa W → Q W) := Lib.hid (fun W hB => HQ.out _ _ hq hB)
      clear hq
      refine region_mix (Below wa.heap.size wa) [(0, false), (1, false), (2, false), (3, false), (4, false), (5, false), (6, false), (7, false), (8, false), (9, false), (10, false), (11, false), (12, false), (13, false), (14, false), (15, false), (16, false), (17, false), (18, false), (19, false), (20, false), (21, false), (22, false), (23, false), (24, false)] (by kernel_rfl) (by kernel_rfl) (Below wa.heap.size wa) ⟨Closed.below wa, fun _ h => h⟩ (Below.refl _ _).drew ?_
      simp only [pickOps, List.getElem?_cons_zero, List.getElem?_cons_succ]
      repeat (first | (refine mix_skip (by rfl) ?_; simp only [Act.put, List.setIfInBounds_toArray, List.set_cons_zero, List.set_cons_succ]) | (refine mix_read _ (by rfl) (fun W hW => by (have hW := HBS.out W hW; have m0 := HQl.out W hW; have x0 := m0.cell_at 0 rfl; have x1 := m0.cell_at 1 rfl; have x2 := m0.cell_at 2 rfl; have x3 := m0.cell_at 3 rfl; have x4 := m0.cell_at 4 rfl; have x5 := m0.cell_at 5 rfl; have x6 := m0.cell_at 6 rfl; have x7 := m0.cell_at 7 rfl; have x8 := m0.cell_at 8 rfl; have x9 := m0.cell_at 9 rfl; have x10 := m0.cell_at 10 rfl; clear m0; have m0 := HQp.out W hW; have y0 := m0.cell_at 0 rfl; have y1 := m0.cell_at 1 rfl; have y2 := m0.cell_at 2 rfl; clear m0; have m0 := HQq.out W hW; have z0 := m0.cell_at 0 rfl; have z1 := m0.cell_at 1 rfl; have z2 := m0.cell_at 2 rfl; clear m0; obtain ⟨c0, c1, c2⟩ := HXC.out W hW; obtain ⟨d0, d1, d2⟩ := HYC.out W hW; have hel := HEL.out; go_simp; first | done | with_reducible rfl)) ?_; simp only [Act.put, List.setIfInBounds_toArray, List.set_cons_zero, List.set_cons_succ]) | (refine mix_read _ (by rfl) (fun W hW => by (have hW := HBS.out W hW; have m0 := HQl.out W hW; have x0 := m0.cell_at 0 rfl; have x1 := m0.cell_at 1 rfl; have x2 := m0.cell_at 2 rfl; have x3 := m0.cell_at 3 rfl; have x4 := m0.cell_at 4 rfl; have x5 := m0.cell_at 5 rfl; have x6 := m0.cell_at 6 rfl; have x7 := m0.cell_at 7 rfl; have x8 := m0.cell_at 8 rfl; have x9 := m0.cell_at 9 rfl; have x10 := m0.cell_at 10 rfl; clear m0; have m0 := HQp.out W hW; have y0 := m0.cell_at 0 rfl; have y1 := m0.cell_at 1 rfl; have y2 := m0.cell_at 2 rfl; clear m0; have m0 := HQq.out W hW; have z0 := m0.cell_at 0 rfl; have z1 := m0.cell_at 1 rfl; have z2 := m0.cell_at 2 rfl; clear m0; obtain ⟨c0, c1, c2⟩ := HXC.out W hW; obtain ⟨d0, d1, d2⟩ := HYC.out W hW; have hel := HEL.out; rw [HPA.out]; go_simp; first | done | with_reducible rfl)) ?_; simp only [Act.put, List.setIfInBounds_toArray, List.set_cons_zero, List.set_cons_succ]) | (refine mix_read _ (by rfl) (fun W hW => by (have hW := HBS.out W hW; have m0 := HQl.out W hW; have x0 := m0.cell_at 0 rfl; have x1 := m0.cell_at 1 rfl; have x2 := m0.cell_at 2 rfl; have x3 := m0.cell_at 3 rfl; have x4 := m0.cell_at 4 rfl; have x5 := m0.cell_at 5 rfl; have x6 := m0.cell_at 6 rfl; have x7 := m0.cell_at 7 rfl; have x8 := m0.cell_at 8 rfl; have x9 := m0.cell_at 9 rfl; have x10 := m0.cell_at 10 rfl; clear m0; have m0 := HQp.out W hW; have y0 := m0.cell_at 0 rfl; have y1 := m0.cell_at 1 rfl; have y2 := m0.cell_at 2 rfl; clear m0; have m0 := HQq.out W hW; have z0 := m0.cell_at 0 rfl; have z1 := m0.cell_at 1 rfl; have z2 := m0.cell_at 2 rfl; clear m0; obtain ⟨c0, c1, c2⟩ := HXC.out W hW; obtain ⟨d0, d1, d2⟩ := HYC.out W hW; have hel := HEL.out; rw [HQA.out]; go_simp; first | done | with_reducible rfl)) ?_; simp only [Act.put, List.setIfInBounds_toArray, List.set_cons_zero, List.set_cons_succ]))
      refine mix_nil (fun W hW => ?_)
      have hq := HBS.out W hW
      clear hW HBS
      go_wp2_with fail
      go_roundw
      case rel => exact ⟨k + 1, by have := HK.out; omega, by have := HK.out; omega, by go_num, hq, HN⟩
      case measure => simp [intOf]; have := HK.out; omega
    go_wp2_with fail
    have HBS : Hid (∀ W, Below wa.heap.size wa W → Q W) := Lib.hid (fun W hB => HQ.out _ _ hq hB)
    clear hq
    refine region_mix (Below wa.heap.size wa) [(0, false), (1, false), (2, false), (3, false), (4, false), (5, false), (6, false), (7, false), (8, false), (9, false), (10, false), (11, false), (12, false), (13, false), (14, false), (15, false), (16, false), (17, false), (18, false), (19, false), (20, false), (21, false), (22, false), (23, false), (24, false)] (by kernel_rfl) (by kernel_rfl) (Below wa.heap.size wa) ⟨Closed.below wa, fun _ h => h⟩ (Below.refl _ _).drew ?_
    simp only [pickOps, List.getElem?_cons_zero, List.getElem?_cons_succ]
    repeat (first | (refine mix_skip (by rfl) ?_; simp only [Act.put, List.setIfInBounds_toArray, List.set_cons_zero, List.set_cons_succ]) | (refine mix_read _ (by rfl) (fun W hW => by (have hW := HBS.out W hW; have m0 := HQl.out W hW; have x0 := m0.cell_at 0 rfl; have x1 := m0.cell_at 1 rfl; have x2 := m0.cell_at 2 rfl; have x3 := m0.cell_at 3 rfl; have x4 := m0.cell_at 4 rfl; have x5 := m0.cell_at 5 rfl; have x6 := m0.cell_at 6 rfl; have x7 := m0.cell_at 7 rfl; have x8 := m0.cell_at 8 rfl; have x9 := m0.cell_at 9 rfl; have x10 := m0.cell_at 10 rfl; clear m0; have m0 := HQp.out W hW; have y0 := m0.cell_at 0 rfl; have y1 := m0.cell_at 1 rfl; have y2 := m0.cell_at 2 rfl; clear m0; have m0 := HQq.out W hW; have z0 := m0.cell_at 0 rfl; have z1 := m0.cell_at 1 rfl; have z2 := m0.cell_at 2 rfl; clear m0; obtain ⟨c0, c1, c2⟩ := HXC.out W hW; obtain ⟨d0, d1, d2⟩ := HYC.out W hW; have hel := HEL.out; go_simp; first | done | with_reducible rfl)) ?_; simp only [Act.put, List.setIfInBounds_toArray, List.set_cons_zero, List.set_cons_succ]) | (refine mix_read _ (by rfl) (fun W hW => by (have hW := HBS.out W hW; have m0 := HQl.out W hW; have x0 := m0.cell_at 0 rfl; have x1 := m0.cell_at 1 rfl; have x2 := m0.cell_at 2 rfl; have x3 := m0.cell_at 3 rfl; have x4 := m0.cell_at 4 rfl; have x5 := m0.cell_at 5 rfl; have x6 := m0.cell_at 6 rfl; have x7 := m0.cell_at 7 rfl; have x8 := m0.cell_at 8 rfl; have x9 := m0.cell_at 9 rfl; have x10 := m0.cell_at 10 rfl; clear m0; have m0 := HQp.out W hW; have y0 := m0.cell_at 0 rfl; have y1 := m0.cell_at 1 rfl; have y2 := m0.cell_at 2 rfl; clear m0; have m0 := HQq.out W hW; have z0 := m0.cell_at 0 rfl; have z1 := m0.cell_at 1 rfl; have z2 := m0.cell_at 2 rfl; clear m0; obtain ⟨c0, c1, c2⟩ := HXC.out W hW; obtain ⟨d0, d1, d2⟩ := HYC.out W hW; have hel := HEL.out; rw [HPA.out]; go_simp; first | done | with_reducible rfl)) ?_; simp only [Act.put, List.setIfInBounds_toArray, List.set_cons_zero, List.set_cons_succ]) | (refine mix_read _ (by rfl) (fun W hW => by (have hW := HBS.out W hW; have m0 := HQl.out W hW; have x0 := m0.cell_at 0 rfl; have x1 := m0.cell_at 1 rfl; have x2 := m0.cell_at 2 rfl; have x3 := m0.cell_at 3 rfl; have x4 := m0.cell_at 4 rfl; have x5 := m0.cell_at 5 rfl; have x6 := m0.cell_at 6 rfl; have x7 := m0.cell_at 7 rfl; have x8 := m0.cell_at 8 rfl; have x9 := m0.cell_at 9 rfl; have x10 := m0.cell_at 10 rfl; clear m0; have m0 := HQp.out W hW; have y0 := m0.cell_at 0 rfl; have y1 := m0.cell_at 1 rfl; have y2 := m0.cell_at 2 rfl; clear m0; have m0 := HQq.out W hW; have z0 := m0.cell_at 0 rfl; have z1 := m0.cell_at 1 rfl; have z2 := m0.cell_at 2 rfl; clear m0; obtain ⟨c0, c1, c2⟩ := HXC.out W hW; obtain ⟨d0, d1, d2⟩ := HYC.out W hW; have hel := HEL.out; rw [HQA.out]; go_simp; first | done | with_reducible rfl)) ?_; simp only [Act.put, List.setIfInBounds_toArray, List.set_cons_zero, List.set_cons_succ]))
    refine mix_nil (fun W hW => ?_)
    have hq := HBS.out W hW
    clear hW HBS
    obtain ⟨j, y, a3, b3, ea, eb, hab, hy, hyk⟩ := parts_toe HPP.out.1 HPP.out.2.1 HPP.out.2.2 HPR.out HAB.out.1 HAB.out.2 (of_decide_eq_false HDD.out)
    subst ea eb
    simp only at HXC HYC
    clear HEL HAB HDD
    have m0 := HQp.out _ hq
    have y0 := m0.cell_at 0 rfl
    have y1 := m0.cell_at 1 rfl
    have y2 := m0.cell_at 2 rfl
    clear m0
    have m0 := HQq.out _ hq
    have z0 := m0.cell_at 0 rfl
    have z1 := m0.cell_at 1 rfl
    have z2 := m0.cell_at 2 rfl
    clear m0
    go_wp2_with fail
    clear y0 y1 y2 z0 z1 z2
    obtain ⟨wb, rfl⟩ : ∃ X, X = W := ⟨W, rfl⟩
    go_cut [8, 9] from 78 to 87 (fun u v wx => ∃ ga gb, u = .pointer (some ⟨ga, 0, none⟩) ∧ v = .pointer (some ⟨gb, 0, none⟩) ∧ Hid (Q wx ∧ Whole wx ga 50 (stpCells ((j : Int), 0, a3)) ∧ Whole wx gb 50 (stpCells ((j : Int), 0, b3))))
    case first =>
      have HBS : Hid (∀ W, Below wb.heap.size wb W → Q W) := Lib.hid (fun W hB => HQ.out _ _ hq hB)
      clear hq
      refine region_tree (fun W => Below wb.heap.size wb W) (.fork [(0, false), (1, false), (2, false), (3, false), (4, false), (5, false), (6, false), (7, false), (8, false), (9, false)] 10 11 (.last [(11, true), (12, true), (13, true)]) (.last [(10, true), (12, true), (13, true)])) (by kernel_rfl) (by kernel_rfl) (fun W => Below wb.heap.size wb W) ⟨Closed.below wb, fun _ h => h⟩ (Below.refl _ _).drew ?_
      simp only [wpTree, pickOps, List.getElem?_cons_zero, List.getElem?_cons_succ]
      repeat (first | (refine mix_skip (by rfl) ?_; simp only [Act.put, List.setIfInBounds_toArray, List.set_cons_zero, List.set_cons_succ]) | (refine mix_read _ (by rfl) (fun W hW => by (have m0 := HQl.out W (HBS.out W hW); have x0 := m0.cell_at 0 rfl; have x1 := m0.cell_at 1 rfl; have x2 := m0.cell_at 2 rfl; have x3 := m0.cell_at 3 rfl; have x4 := m0.cell_at 4 rfl; have x5 := m0.cell_at 5 rfl; have x6 := m0.cell_at 6 rfl; have x7 := m0.cell_at 7 rfl; have x8 := m0.cell_at 8 rfl; have x9 := m0.cell_at 9 rfl; have x10 := m0.cell_at 10 rfl; clear m0; have m0 := HQp.out W (HBS.out W hW); have y0 := m0.cell_at 0 rfl; have y1 := m0.cell_at 1 rfl; have y2 := m0.cell_at 2 rfl; clear m0; have m0 := HQq.out W (HBS.out W hW); have z0 := m0.cell_at 0 rfl; have z1 := m0.cell_at 1 rfl; have z2 := m0.cell_at 2 rfl; clear m0; obtain ⟨c0, c1, c2⟩ := HXC.out W (HBS.out W hW); obtain ⟨d0, d1, d2⟩ := HYC.out W (HBS.out W hW); go_simp; first | done | with_reducible rfl)) ?_; simp only [Act.put, List.setIfInBounds_toArray, List.set_cons_zero, List.set_cons_succ]) | (refine mix_read _ (by rfl) (fun W hW => by (have m0 := HQl.out W (HBS.out W hW); have x0 := m0.cell_at 0 rfl; have x1 := m0.cell_at 1 rfl; have x2 := m0.cell_at 2 rfl; have x3 := m0.cell_at 3 rfl; have x4 := m0.cell_at 4 rfl; have x5 := m0.cell_at 5 rfl; have x6 := m0.cell_at 6 rfl; have x7 := m0.cell_at 7 rfl; have x8 := m0.cell_at 8 rfl; have x9 := m0.cell_at 9 rfl; have x10 := m0.cell_at 10 rfl; clear m0; have m0 := HQp.out W (HBS.out W hW); have y0 := m0.cell_at 0 rfl; have y1 := m0.cell_at 1 rfl; have y2 := m0.cell_at 2 rfl; clear m0; have m0 := HQq.out W (HBS.out W hW); have z0 := m0.cell_at 0 rfl; have z1 := m0.cell_at 1 rfl; have z2 := m0.cell_at 2 rfl; clear m0; obtain ⟨c0, c1, c2⟩ := HXC.out W (HBS.out W hW); obtain ⟨d0, d1, d2⟩ := HYC.out W (HBS.out W hW); rw [HPA.out]; go_simp; first | done | with_reducible rfl)) ?_; simp only [Act.put, List.setIfInBounds_toArray, List.set_cons_zero, List.set_cons_succ]) | (refine mix_read _ (by rfl) (fun W hW => by (have m0 := HQl.out W (HBS.out W hW); have x0 := m0.cell_at 0 rfl; have x1 := m0.cell_at 1 rfl; have x2 := m0.cell_at 2 rfl; have x3 := m0.cell_at 3 rfl; have x4 := m0.cell_at 4 rfl; have x5 := m0.cell_at 5 rfl; have x6 := m0.cell_at 6 rfl; have x7 := m0.cell_at 7 rfl; have x8 := m0.cell_at 8 rfl; have x9 := m0.cell_at 9 rfl; have x10 := m0.cell_at 10 rfl; clear m0; have m0 := HQp.out W (HBS.out W hW); have y0 := m0.cell_at 0 rfl; have y1 := m0.cell_at 1 rfl; have y2 := m0.cell_at 2 rfl; clear m0; have m0 := HQq.out W (HBS.out W hW); have z0 := m0.cell_at 0 rfl; have z1 := m0.cell_at 1 rfl; have z2 := m0.cell_at 2 rfl; clear m0; obtain ⟨c0, c1, c2⟩ := HXC.out W (HBS.out W hW); obtain ⟨d0, d1, d2⟩ := HYC.out W (HBS.out W hW); rw [HQA.out]; go_simp; first | done | with_reducible rfl)) ?_; simp only [Act.put, List.setIfInBounds_toArray, List.set_cons_zero, List.set_cons_succ]))
      refine mix_nil (fun hF => ⟨?_, ?_⟩)
      · refine mix_alloc (wb.heap.size) 50 [.int .i64 0, .int .i64 0, .int .i64 0] ⟨Closed.below wb, fun _ h => h⟩ (fun _ h => h.size) (by rfl) (fun W hW => by (clear hW; go_simp; first | done | with_reducible rfl)) (fun ga hga => ?_)
        simp only [Act.put, List.setIfInBounds_toArray, List.set_cons_zero, List.set_cons_succ]
        refine mix_nil ?_
        refine mix_alloc (ga + 1) 50 [.int .i64 0, .int .i64 0, .int .i64 0] ⟨(Closed.below wb).and (Closed.whole _ _ _), fun _ h => h.1⟩ (fun _ h => h.2.lt) (by rfl) (fun W hW => by (clear hW; go_simp; first | done | with_reducible rfl)) (fun gb hgb => ?_)
        simp only [Act.put, List.setIfInBounds_toArray, List.set_cons_zero, List.set_cons_succ]
        refine mix_within 50 (.tmp 8) (.tmp 82) ga 0 [.int .i64 (j : Int), .int .i64 0, .int .i64 a3] (fun W => (Below wb.heap.size wb W ∧ Whole W ga 50 (stpCells ((j : Int), 0, a3))) ∧ Whole W gb 50 [.int .i64 0, .int .i64 0, .int .i64 0]) ⟨((Closed.below wb).and (Closed.whole _ _ _)).and (Closed.whole _ _ _), fun _ h => h.1.1⟩ rfl (by rfl) (by rfl) (by kernel_rfl) (by rfl) (by rfl) (fun W hW => hW.1.2.there) (fun W hW => ⟨⟨(setCells_below _ _ hW.1.1 (by omega)), setCells_whole _ [] [.int .i64 0, .int .i64 0, .int .i64 0] rfl hW.1.2⟩, setCells_away _ _ (by omega) hW.2⟩) ?_
        simp only [Act.put, List.setIfInBounds_toArray, List.set_cons_zero, List.set_cons_succ]
        refine mix_within 50 (.tmp 9) (.tmp 87) gb 0 [.int .i64 (j : Int), .int .i64 0, .int .i64 b3] (fun W => (Below wb.heap.size wb W ∧ Whole W ga 50 (stpCells ((j : Int), 0, a3))) ∧ Whole W gb 50 (stpCells ((j : Int), 0, b3))) ⟨((Closed.below wb).and (Closed.whole _ _ _)).and (Closed.whole _ _ _), fun _ h => h.1.1⟩ rfl (by rfl) (by rfl) (by kernel_rfl) (by rfl) (by rfl) (fun W hW => hW.2.there) (fun W hW => ⟨⟨(setCells_below _ _ hW.1.1 (by omega)), setCells_away _ _ (by omega) hW.1.2⟩, setCells_whole _ [] [.int .i64 0, .int .i64 0, .int .i64 0] rfl hW.2⟩) ?_
        simp only [Act.put, List.setIfInBounds_toArray, List.set_cons_zero, List.set_cons_succ]
        refine mix_nil (fun W hW => ?_)
        have HW := Lib.hid hW
        clear hW
        go_wp2_with fail
        go_meet
        exact ⟨ga, gb, rfl, rfl, Lib.hid ⟨HBS.out _ HW.out.1.1, HW.out.1.2, HW.out.2⟩⟩
      · refine mix_alloc (wb.heap.size) 50 [.int .i64 0, .int .i64 0, .int .i64 0] ⟨Closed.below wb, fun _ h => h⟩ (fun _ h => h.size) (by rfl) (fun W hW => by (clear hW; go_simp; first | done | with_reducible rfl)) (fun gb hgb => ?_)
        simp only [Act.put, List.setIfInBounds_toArray, List.set_cons_zero, List.set_cons_succ]
        refine mix_nil ?_
        refine mix_alloc (gb + 1) 50 [.int .i64 0, .int .i64 0, .int .i64 0] ⟨(Closed.below wb).and (Closed.whole _ _ _), fun _ h => h.1⟩ (fun _ h => h.2.lt) (by rfl) (fun W hW => by (clear hW; go_simp; first | done | with_reducible rfl)) (fun ga hga => ?_)
        simp only [Act.put, List.setIfInBounds_toArray, List.set_cons_zero, List.set_cons_succ]
        refine mix_within 50 (.tmp 8) (.tmp 82) ga 0 [.int .i64 (j : Int), .int .i64 0, .int .i64 a3] (fun W => (Below wb.heap.size wb W ∧ Whole W gb 50 [.int .i64 0, .int .i64 0, .int .i64 0]) ∧ Whole W ga 50 (stpCells ((j : Int), 0, a3))) ⟨((Closed.below wb).and (Closed.whole _ _ _)).and (Closed.whole _ _ _), fun _ h => h.1.1⟩ rfl (by rfl) (by rfl) (by kernel_rfl) (by rfl) (by rfl) (fun W hW => hW.2.there) (fun W hW => ⟨⟨(setCells_below _ _ hW.1.1 (by omega)), setCells_away _ _ (by omega) hW.1.2⟩, setCells_whole _ [] [.int .i64 0, .int .i64 0, .int .i64 0] rfl hW.2⟩) ?_
        simp only [Act.put, List.setIfInBounds_toArray, List.set_cons_zero, List.set_cons_succ]
        refine mix_within 50 (.tmp 9) (.tmp 87) gb 0 [.int .i64 (j : Int), .int .i64 0, .int .i64 b3] (fun W => (Below wb.heap.size wb W ∧ Whole W gb 50 (stpCells ((j : Int), 0, b3))) ∧ Whole W ga 50 (stpCells ((j : Int), 0, a3))) ⟨((Closed.below wb).and (Closed.whole _ _ _)).and (Closed.whole _ _ _), fun _ h => h.1.1⟩ rfl (by rfl) (by rfl) (by kernel_rfl) (by rfl) (by rfl) (fun W hW => hW.1.2.there) (fun W hW => ⟨⟨(setCells_below _ _ hW.1.1 (by omega)), setCells_whole _ [] [.int .i64 0, .int .i64 0, .int .i64 0] rfl hW.1.2⟩, setCells_away _ _ (by omega) hW.2⟩) ?_
        simp only [Act.put, List.setIfInBounds_toArray, List.set_cons_zero, List.set_cons_succ]
        refine mix_nil (fun W hW => ?_)
        have HW := Lib.hid hW
        clear hW
        go_wp2_with fail
        go_meet
        exact ⟨ga, gb, rfl, rfl, Lib.hid ⟨HBS.out _ HW.out.1.1, HW.out.2, HW.out.1.2⟩⟩
    case rest =>
    obtain ⟨ga, gb, rfl, rfl, HC8⟩ := hcut
    obtain ⟨wk, rfl⟩ : ∃ W, W = wc := ⟨wc, rfl⟩
    obtain ⟨hq, hga, hgb⟩ := HC8.out
    obtain ⟨bs, os, HAS, HS0, HS1⟩ := row_at (f := Sec.cells) (n := 11) Sec.len (by omega) (fun W hW => (HTW.out W hW).2.secs) hq hy
    have s0 := HS0.out _ hq j _ _ hy rfl
    have hjl : (j : Int) < l.secs.length := by have := (List.getElem?_eq_some_iff.1 hy).1; omega
    have hj0 : decide ((j : Int) < 0) = false := decide_eq_false (by omega)
    have hj1 : decide ((l.secs.length : Int) ≤ (j : Int)) = false := decide_eq_false (by omega)
    have hjj : ((j : Int) == (j : Int)) = true := by simp
    have hab' : (a3 != b3) = true := by simp [hab]
    have hk2 : (y.k == 2) = true := by simp [hyk]
    have u0 := hga.cell_at 0 rfl
    have u1 := hga.cell_at 1 rfl
    have u2 := hga.cell_at 2 rfl
    have v0 := hgb.cell_at 0 rfl
    have v1 := hgb.cell_at 1 rfl
    have v2 := hgb.cell_at 2 rfl
    have x0 := (HQl.out _ hq).cell_at 0 rfl
    rw [HAS.out] at x0
    clear hab hyk hy HS0 HS1 HC8 hga hgb
    go_wp2_with fail
    refine (KW.out _ hq).mono ?_
    clear hq x0 u0 u1 u2 v0 v1 v2 s0
    rintro e wz ⟨rfl, hB⟩
    have HBz := Lib.hid hB
    clear hB
    go_wp2_with fail
    go_ret
    exact ⟨rfl, HBz.out⟩
end Go.Proofs.YtlfpkileblmhoaaGreatDoor
