/- The walk of NeedOne. -/
import Derived.Deep.CutRange
import Derived.Test.YtbdbgoploednbaaDoorQNeeM
namespace Go.Proofs.YtbdbgoploednbaaDoor
open Go.RowKit Go.Shelf
set_option linter.unusedVariables false
set_option linter.unusedSimpArgs false
set_option maxRecDepth 100000

theorem stepsN_k {l : Lay} {p : Pth} {x : Int × Int × Int × Int} (h : x ∈ stepsN l p) : 0 ≤ x.1 ∧ x.1 ≤ p.ss.length := by
  unfold stepsN at h
  rcases List.mem_append.1 h with h | h
  · obtain ⟨j, hj⟩ := List.getElem?_of_mem h
    rw [numF_at] at hj
    cases hs : p.ss[j]? with
    | none => rw [hs] at hj; cases hj
    | some s =>
      rw [hs] at hj
      simp only [Option.map_some, Option.some.injEq] at hj
      subst hj
      have := (List.getElem?_eq_some_iff.1 hs).1
      constructor <;> simp <;> omega
  · obtain ⟨s, _, rfl⟩ := List.mem_map.1 h
    exact ⟨by simp, Int.le_refl _⟩
/-- Points are all that is told of. -/
theorem one_point {l : Lay} {p : Pth} (hR : rightR l = true) {n : Int × Int × Int} (hn : n ∈ ofV l p) : ∃ (j : Nat) (y : Sec), n.1 = j ∧ l.secs[j]? = some y ∧ y.k = 2 ∧ 0 ≤ n.2.2 ∧ n.2.2 ≤ p.ss.length := by
  rw [← of_flat] at hn
  obtain ⟨x, hx, hn⟩ := List.mem_flatMap.1 hn
  have hk := stepsN_k hx
  have hw := wants_k hn
  have hkk : 0 ≤ n.2.2 ∧ n.2.2 ≤ p.ss.length := by rw [hw]; exact hk
  unfold wantN wantsV firstV at hn
  rcases List.mem_append.1 hn with h | h
  · rcases point_cases l x.2.1 x.2.2.1 x.2.2.2 with ⟨_, e⟩ | ⟨_, _, _, _, _, _, e⟩ | ⟨j, y, _, hy, _, h2, _, e⟩
    · rw [e] at h; cases h
    · rw [e] at h; cases h
    · rw [e, if_pos rfl] at h
      obtain rfl := List.mem_singleton.1 h
      exact ⟨j, y, rfl, hy, h2, hkk⟩
  · obtain ⟨f, hf, rfl⟩ := List.mem_map.1 h
    have hr := (rightR_iff.1 hR).2.2.2.1 f (List.mem_filter.1 hf).1
    unfold flankV at hr
    simp only [Bool.and_eq_true, beq_iff_eq] at hr
    obtain ⟨j, y, e, hy, hk2⟩ := kindV_some (s := f.2.2.1) (by rw [hr.2.1]; decide)
    exact ⟨j, y, e, hy, by rw [← hk2]; exact hr.2.1, hkk⟩
/-- Where nothing clashes what is told of a point is what is wanted. -/
theorem one_at {ns : List (Int × Int × Int)} (hc : clashN ns = false) {n : Int × Int × Int} (hn : n ∈ ns) : at13 ns n.1 = (n.2.1, true) := by
  obtain ⟨b, hb, h1⟩ := at_fine hc hn
  unfold at13
  rw [hb]
  show (b.2.1, true) = _
  rw [h1]
theorem one_wants {l : Lay} {p : Pth} {k : Nat} {s : Int × Int × Int} (h : (p.ss ++ overL10 l p.x)[k]? = some s) : ∃ K, ∀ n ∈ wantsV l s.1 s.2.1 s.2.2 K, n ∈ ofV l p := by
  by_cases hk : k < p.ss.length
  · rw [List.getElem?_append_left hk] at h
    exact ⟨k, fun n hn => of_step h hn⟩
  · rw [List.getElem?_append_right (by omega)] at h
    exact ⟨p.ss.length, fun n hn => of_over (List.mem_of_getElem? h) hn⟩
theorem one_step {l : Lay} {p : Pth} (hc : clashN (ofV l p) = false) {k : Nat} {s i o : Int} (h : (p.ss ++ overL10 l p.x)[k]? = some (s, i, o)) (hs : stepV l s i o = true) (hk : kindV l s = 2) : at13 (ofV l p) s = (wayK (kindV l s) i o, true) := by
  obtain ⟨K, hK⟩ := one_wants h
  have hp : pointV l s i o = (s, wayK 2 i o, true) := by unfold pointV; rw [if_pos ⟨hs, hk⟩]
  have := one_at hc (hK _ (wants_point (k := K) (by rw [hp])))
  rw [hp] at this
  rw [hk]
  exact this
theorem one_flank {l : Lay} {p : Pth} (hc : clashN (ofV l p) = false) {k : Nat} {s i o : Int} (h : (p.ss ++ overL10 l p.x)[k]? = some (s, i, o)) (hs : stepV l s i o = true) {f : Int × Int × Int × Int} (hf : f ∈ l.flanks) (h1 : f.1 = s) (h2 : f.2.1 = wayK (kindV l s) i o) : at13 (ofV l p) f.2.2.1 = (f.2.2.2, true) := by
  obtain ⟨K, hK⟩ := one_wants h
  exact one_at hc (hK _ (wants_flank (k := K) hf (by unfold isFlk; rw [hs]; simp [h1, h2])))
theorem one_rise {l : Lay} {p : Pth} {i : Nat} {x y : Int × Int × Int} (hx : (ofV l p)[i]? = some x) (hy : (ofV l p)[i + 1]? = some y) : x.2.2 ≤ y.2.2 := by
  obtain ⟨h1, rfl⟩ := List.getElem?_eq_some_iff.1 hx
  obtain ⟨h2, rfl⟩ := List.getElem?_eq_some_iff.1 hy
  exact List.pairwise_iff_getElem.1 (of_rise l p) i (i + 1) h1 h2 (by omega)
/-- append(v, b..), v a row of steps of the call's own, nil or not. -/
theorem append_steps13 (base : Nat) (us vs : List (Int × Int × Int)) (v : Value) (A : Option Addr) (c Bd : Nat) (w : World) (hown : w.ownsRow base 56 3 v us.length (us.flatMap stpCells)) (hr : Row w Bd A (vs.flatMap stpCells)) (hn : us.length ≤ 1000000) (hl : vs.length ≤ 1000000) (hbase : base ≤ w.heap.size) :
    ∃ v' w', (Builtin.append_ #[30, 30] 30 #[v, .slice A vs.length c]).run Tryd.prog w = .ok v' w' ∧ w'.ownsRow base 56 3 v' (us ++ vs).length ((us ++ vs).flatMap stpCells) ∧ w.grownBy w' v.ownBlock := by
  obtain ⟨i, i1, i2, i3, i4⟩ := info_parts infoStep
  cases A with
  | none =>
    obtain rfl := flat_none (f := stpCells) (size := 3) (fun _ => rfl) (by omega) hr
    rcases hown.2 with ⟨rfl, _⟩ | ⟨g, cap, cur, rfl, h3, h4, h5, h6, h7, h8⟩
    · refine ⟨.slice none 0 0, w, ?_, by simpa using hown, World.grownBy.refl _ _⟩
      simp [Builtin.append_, run_underlying Tryd.underlying30, sizeOf, typeInfo, i1, Builtin.lenOf, Builtin.firstCells, storeCells]
    · exact ⟨_, w, append_none w _ _ _ i Tryd.underlying30 i1 g _ cap c h5, by simpa using hown, World.grownBy.refl _ _⟩
  | some a =>
    obtain ⟨v', w', r1, r2, r3, r4, r5⟩ := run_append_own_at (P := Tryd.prog) w base 30 30 56 i (.agg #[.int .i64 0, .int .i64 0, .int .i64 0]) 3 24 Tryd.underlying30 i1 i2 i3 i4 rfl (by omega) v us.length _ hown a vs.length c (vs.flatMap stpCells) (flat_length (f := stpCells) (n := 3) (fun _ => rfl) vs) (row_add hr) (fun u hu => by
      obtain ⟨x, _, hx⟩ := List.mem_flatMap.1 hu
      exact oneStep x u hx) (by unfold maxLen; omega) (by omega) hbase
    exact ⟨v', w', r1, by rw [List.length_append, List.flatMap_append]; exact r2, r3⟩

set_option maxRecDepth 100000 in
set_option maxHeartbeats 32000000 in
theorem needOne_walk {l : Lay} {p : Pth} {w : World} (hT : Shapes w) (hL : Lies l w) (hF : FWf l) (hp : PLies p w) :
    Calls Tryd.prog 4 #[l.val, p.val] w fun e w' => e = .returned (.bool true) ∧ Below w.heap.size w w' := by
  obtain ⟨Q, HQ, HQb, HQl, HQv, hq⟩ := keep_box2 (Closed.below w) (Below.refl _ w) 29 32 l.cells p.cells
  have HTW : Hid (∀ W, Q W → Shapes W ∧ Lies l W ∧ PLies p W) := Lib.hid fun W hW => ⟨Shapes.closed _ _ hT (HQb.out W hW), Lies.closed l _ _ hL (HQb.out W hW), PLies.closed p _ _ hp (HQb.out W hW)⟩
  have KW := Lib.hid (fun W hW => wakes13_P (P := Q) (w := W) HQ.out (fun W hW => (HTW.out W hW).1) hW)
  obtain ⟨g, hg⟩ : ∃ g, great13 l p = g := ⟨_, rfl⟩
  have KG := Lib.hid (fun W hW => keepR HQ.out (great13_any (w := W) (HTW.out W hW).2.1 (HTW.out W hW).2.2 hg) hW)
  have hnP := hp.len
  have HG := Lib.hid hg
  obtain ⟨rt, hrt⟩ : ∃ z, rightR l = z := ⟨_, rfl⟩
  have KR := Lib.hid (fun W hW => rightR1_P (P := Q) (w := W) HQ.out (fun W hW => (HTW.out W hW).2.1) hrt hW)
  clear hT hL hp hg
  go_enter Tryd.func4, Tryd.ntmps4
  have m0 := HQl.out _ hq
  have x0 := m0.cell_at 0 rfl
  have x1 := m0.cell_at 1 rfl
  have x2 := m0.cell_at 2 rfl
  have x3 := m0.cell_at 3 rfl
  have x4 := m0.cell_at 4 rfl
  have x5 := m0.cell_at 5 rfl
  have x6 := m0.cell_at 6 rfl
  have x7 := m0.cell_at 7 rfl
  have x8 := m0.cell_at 8 rfl
  have x9 := m0.cell_at 9 rfl
  have x10 := m0.cell_at 10 rfl
  clear m0
  have m0 := HQv.out _ hq
  have y0 := m0.cell_at 0 rfl
  have y1 := m0.cell_at 1 rfl
  have y2 := m0.cell_at 2 rfl
  clear m0
  go_wp2_with fail
  refine (KG.out _ hq).mono ?_
  clear hq x0 x1 x2 x3 x4 x5 x6 x7 x8 x9 x10 y0 y1 y2
  rintro e w1 ⟨rfl, hq⟩
  cases g
  rotate_left
  · go_wp2_with fail
    refine (KW.out _ hq).mono ?_
    clear hq
    rintro e wz ⟨rfl, hq⟩
    go_wp2_with fail
    go_ret
    exact ⟨rfl, HQb.out _ hq⟩
  have hgn := great13_no HG.out
  have hgj := greatJ_no hgn.1
  have hnF : l.flanks.length ≤ 900 := by omega
  have hnO : ∀ x ∈ l.exits, x.over.length ≤ 1000 := fun x hx => by have := hgj.2.2.2.2 x hx; omega
  have hnS : p.ss.length ≤ 100 := by omega
  have hol : (overL10 l p.x).length ≤ 20 := over_most hgj.2.2.2.2 p.x
  have hnN : (ofV l p).length ≤ 1550 := of_len (F := 30) (S := 50) (by omega) (by omega)
  have hWN : ∀ x ∈ ofV l p, NWf x := ofV_wf hF (by omega)
  have m0 := HQl.out _ hq
  have x0 := m0.cell_at 0 rfl
  have x1 := m0.cell_at 1 rfl
  have x2 := m0.cell_at 2 rfl
  have x3 := m0.cell_at 3 rfl
  have x4 := m0.cell_at 4 rfl
  have x5 := m0.cell_at 5 rfl
  have x6 := m0.cell_at 6 rfl
  have x7 := m0.cell_at 7 rfl
  have x8 := m0.cell_at 8 rfl
  have x9 := m0.cell_at 9 rfl
  have x10 := m0.cell_at 10 rfl
  clear m0
  have m0 := HQv.out _ hq
  have y0 := m0.cell_at 0 rfl
  have y1 := m0.cell_at 1 rfl
  have y2 := m0.cell_at 2 rfl
  clear m0
  go_wp2_with fail
  refine (KR.out _ hq).mono ?_
  clear hq x0 x1 x2 x3 x4 x5 x6 x7 x8 x9 x10 y0 y1 y2
  rintro e w2 ⟨rfl, hq⟩
  cases rt
  · go_wp2_with fail
    refine (KW.out _ hq).mono ?_
    clear hq
    rintro e wz ⟨rfl, hq⟩
    go_wp2_with fail
    go_ret
    exact ⟨rfl, HQb.out _ hq⟩
  obtain ⟨fi, hfi⟩ : ∃ z, (!clashN (ofV l p)) = z := ⟨_, rfl⟩
  have KF := Lib.hid (fun W hW => keepR HQ.out (fineB_any (w := W) (HTW.out W hW).1 (HTW.out W hW).2.1 (HTW.out W hW).2.2 hnO hnF (by omega) hWN hfi) hW)
  have m0 := HQl.out _ hq
  have x0 := m0.cell_at 0 rfl
  have x1 := m0.cell_at 1 rfl
  have x2 := m0.cell_at 2 rfl
  have x3 := m0.cell_at 3 rfl
  have x4 := m0.cell_at 4 rfl
  have x5 := m0.cell_at 5 rfl
  have x6 := m0.cell_at 6 rfl
  have x7 := m0.cell_at 7 rfl
  have x8 := m0.cell_at 8 rfl
  have x9 := m0.cell_at 9 rfl
  have x10 := m0.cell_at 10 rfl
  clear m0
  have m0 := HQv.out _ hq
  have y0 := m0.cell_at 0 rfl
  have y1 := m0.cell_at 1 rfl
  have y2 := m0.cell_at 2 rfl
  clear m0
  go_wp2_with fail
  refine (KF.out _ hq).mono ?_
  clear hq x0 x1 x2 x3 x4 x5 x6 x7 x8 x9 x10 y0 y1 y2
  rintro e w3 ⟨rfl, hq⟩
  cases fi
  · go_wp2_with fail
    refine (KW.out _ hq).mono ?_
    clear hq
    rintro e wz ⟨rfl, hq⟩
    go_wp2_with fail
    go_ret
    exact ⟨rfl, HQb.out _ hq⟩
  have hcl : clashN (ofV l p) = false := by simpa using hfi
  obtain ⟨nn, hnn⟩ : ∃ z, ofV l p = z := ⟨_, rfl⟩
  have KO : Hid (∀ W, Q W → Calls Tryd.prog 15 #[l.val, p.val] W fun e w' => ∃ A c, e = .returned (.slice A nn.length c) ∧ Row w' w'.heap.size A (nn.flatMap needCells) ∧ Q w') := Lib.hid fun W hW => (of13_any (w := W) (HTW.out W hW).1 (HTW.out W hW).2.1 (HTW.out W hW).2.2 hnO hnF (by omega) hnn).mono (by
    rintro e w' ⟨v, rfl, hown, hB⟩
    obtain ⟨A, c, rfl, hr⟩ := owns_read hown
    exact ⟨A, c, rfl, hr, HQ.out _ _ hW hB⟩)
  have HPT : Hid (∀ (i : Nat) (n : Int × Int × Int), nn[i]? = some n → ∃ (j : Nat) (y : Sec), n.1 = j ∧ l.secs[j]? = some y ∧ y.k = 2 ∧ 0 ≤ n.2.2 ∧ n.2.2 ≤ p.ss.length ∧ at13 nn n.1 = (n.2.1, true)) := Lib.hid fun i n h => by
    have hm := List.mem_of_getElem? h
    rw [← hnn] at hm
    obtain ⟨j, y, h1, h2, h3, h4, h5⟩ := one_point hrt hm
    exact ⟨j, y, h1, h2, h3, h4, h5, by rw [← hnn]; exact one_at hcl hm⟩
  have HRI : Hid (∀ (i : Nat) (x y : Int × Int × Int), nn[i]? = some x → nn[i + 1]? = some y → x.2.2 ≤ y.2.2) := Lib.hid fun i x y h1 h2 => one_rise (by rw [hnn]; exact h1) (by rw [hnn]; exact h2)
  have HST : Hid (∀ (k : Nat) s i o, (p.ss ++ overL10 l p.x)[k]? = some (s, i, o) → stepV l s i o = true → kindV l s = 2 → at13 nn s = (wayK (kindV l s) i o, true)) := Lib.hid fun k s i o h1 h2 h3 => by rw [← hnn]; exact one_step hcl h1 h2 h3
  have HFL : Hid (∀ (k : Nat) s i o (f : Int × Int × Int × Int), (p.ss ++ overL10 l p.x)[k]? = some (s, i, o) → stepV l s i o = true → f ∈ l.flanks → f.1 = s → f.2.1 = wayK (kindV l s) i o → at13 nn f.2.2.1 = (f.2.2.2, true)) := Lib.hid fun k s i o f h1 h2 h3 h4 h5 => by rw [← hnn]; exact one_flank hcl h1 h2 h3 h4 h5
  have hnl : nn.length ≤ 1550 := by rw [← hnn]; exact hnN
  have hsl : l.secs.length ≤ 30 := hgj.1
  have hp30 : p.ss.length ≤ 30 := hgn.2
  have hfl : l.flanks.length ≤ 30 := hgj.2.2.2.1
  have hxl : l.exits.length ≤ 20 := hgj.2.2.1
  have HOL : Hid ((overL10 l p.x).length ≤ 20) := Lib.hid hol
  clear hrt hgn hgj hnF hnO hol hnN hWN hF hfi hcl hnn KF KR KG
  have m0 := HQl.out _ hq
  have x0 := m0.cell_at 0 rfl
  have x1 := m0.cell_at 1 rfl
  have x2 := m0.cell_at 2 rfl
  have x3 := m0.cell_at 3 rfl
  have x4 := m0.cell_at 4 rfl
  have x5 := m0.cell_at 5 rfl
  have x6 := m0.cell_at 6 rfl
  have x7 := m0.cell_at 7 rfl
  have x8 := m0.cell_at 8 rfl
  have x9 := m0.cell_at 9 rfl
  have x10 := m0.cell_at 10 rfl
  clear m0
  have m0 := HQv.out _ hq
  have y0 := m0.cell_at 0 rfl
  have y1 := m0.cell_at 1 rfl
  have y2 := m0.cell_at 2 rfl
  clear m0
  go_wp2_with fail
  refine (KO.out _ hq).mono ?_
  clear hq x0 x1 x2 x3 x4 x5 x6 x7 x8 x9 x10 y0 y1 y2
  rintro e w4 ⟨A1, c1, rfl, hr1, hq⟩
  obtain ⟨Q4, HQ4, HQ4q, HQr, hq4⟩ : ∃ Q4 : World → Prop, Hid (Closed Q4) ∧ Hid (∀ W, Q4 W → Q W) ∧ Hid (∀ W, Q4 W → Row W W.heap.size A1 (nn.flatMap needCells)) ∧ Q4 w4 :=
    ⟨fun W => Q W ∧ Row W W.heap.size A1 (nn.flatMap needCells), Lib.hid (HQ.out.and (fun _ _ h hB => h.on hB)), Lib.hid fun _ h => h.1, Lib.hid fun _ h => h.2, hq, hr1⟩
  have KA : Hid (∀ (q x : Int) (ok : Bool), at13 nn q = (x, ok) → ∀ W, Q4 W → Calls Tryd.prog 10 #[.slice A1 nn.length c1, .int .i64 q] W fun e w' => e = .returned (.tuple #[.int .i64 x, .bool ok]) ∧ Below W.heap.size W w') := Lib.hid fun q x ok h W hW => atB_P (P := fun W' => Below W.heap.size W W') (Closed.below W) c1 (fun W' hB => (HQr.out W hW).on hB) (by omega) q h (Below.refl _ _)
  clear hr1 hq KO
  go_wp2_with fail
  go_loopw [6] (fun i wr => ∃ j : Nat, j ≤ nn.length ∧ i = .int .i64 j ∧ Q4 wr) (fun i _ => nn.length - (intOf i).toNat)
  case atStart => exact ⟨0, by omega, rfl, hq4⟩
  case round =>
    clear hq4
    obtain ⟨i, hi, rfl, hq⟩ := hrel
    by_cases hlt : i < nn.length
    · have hlt' : (i : Int) < (nn.length : Int) := by omega
      obtain ⟨⟨x1, x2, x3⟩, hx⟩ : ∃ x, nn[i]? = some x := ⟨_, List.getElem?_eq_getElem hlt⟩
      obtain ⟨jx, y, e1, hy, hy2, hk0, hk1, hat⟩ := HPT.out i _ hx
      simp only at e1 hk0 hk1 hat
      subst e1
      obtain ⟨o1, o2, HA, HC0, HC⟩ := row_at (Q := Q4) (n := 3) (fun _ => rfl) (by omega) HQr.out hq hx
      have HX := Lib.hid hx
      obtain ⟨bs, os, HAS, HS0, _⟩ := row_at (Q := Q) (n := 11) Sec.len (by omega) (fun W hW => (HTW.out W hW).2.1.secs) (HQ4q.out _ hq) hy
      have HKS : Hid (∀ W, Q W → W.cell? ⟨bs, os + jx * 11, none⟩ = some (.int .u8 2)) := Lib.hid fun W hW => by
        have h := HS0.out W hW jx y (.int .u8 y.k) hy rfl
        rw [hy2] at h
        exact h
      have hjs : jx < l.secs.length := (List.getElem?_eq_some_iff.1 hy).1
      have KA1 := Lib.hid (KA.out _ _ _ hat)
      obtain rfl := HA.out
      clear hx hy hy2 hat HA HS0
      have c0 := HC0.out _ hq i _ _ HX.out rfl
      go_wp2_with fail
      refine (KA1.out _ hq).mono ?_
      clear c0 KA1
      rintro e w5 ⟨rfl, hB5⟩
      have hq := HQ4.out _ _ hq hB5
      clear hB5
      go_upto_region 8 with (fail)
      refine one8 HQ4 HQ4q HQl HQv HC0 HC HX HAS HKS hnl hsl hp30 hlt hjs hk0 hk1 HRI ?_ hq
      clear hq
      intro y54 y55 y56 y57 y58 y59 y60 y61 y62 y63 y64 y65 y66 y67 y68 y69 y70 y71 y72 y73 y74 y75 y76 y77 y78 y79 y80 y81 y82 y83 y84 y85 y86 y87 y88 y89 y90 y91 y92 y93 y94 y95 y96 y97 y98 y99 y100 y101 y102 y103 y104 y105 y106 y107 y108 y109 y110 y111 y112 y113 y114 y115 y116 y117 y118 y119 y120 y121 y122 y123 y124 y125 y126 y127 y128 y129 y130 y131 y132 w6 hq
      go_wp2_with fail
      go_roundw
      case rel => exact ⟨i + 1, hlt, by go_num, hq⟩
      case measure => simp [intOf]; omega
    · obtain rfl : i = nn.length := by omega
      have hO0 : (wr.alloc (.cells #[] 56)).ownsRow wr.heap.size 56 3 (.slice (some ⟨wr.heap.size, 0, none⟩) 0 0) ([] : List (Int × Int × Int)).length (([] : List (Int × Int × Int)).flatMap stpCells) := owns_empty _ _ _ _ (Nat.le_refl _) (World.alloc_heap_new wr _)
      have hb1 := below1 wr (.cells #[] 56)
      have hrp : Row wr wr.heap.size p.A (p.ss.flatMap stpCells) := (HTW.out _ (HQ4q.out _ hq)).2.2.row
      obtain ⟨v1, W1, hrun1, hO1, hg1⟩ := append_steps13 wr.heap.size [] p.ss _ p.A p.c _ _ hO0 (hrp.on hb1) (by simp) (by omega) hb1.size
      rw [List.nil_append] at hO1
      have hB1 : Below wr.heap.size wr W1 := hb1.grown hg1 hb1.size (fun k e => (hO0.lt k e).1)
      have hqX := HQ4q.out _ (HQ4.out _ _ hq hb1)
      have yy2 := (HQv.out _ hqX).cell_at 2 rfl
      have hqW := HQ4.out _ _ hq hB1
      have xx2 := (HQl.out _ (HQ4q.out _ hqW)).cell_at 2 rfl
      have yy1 := (HQv.out _ (HQ4q.out _ hqW)).cell_at 1 rfl
      have HO1 := Lib.hid hO1
      have HB1 := Lib.hid hB1
      have HW1 := Lib.hid (HQ4.out _ _ hq hB1)
      have HQwr : Hid (∀ W, Below wr.heap.size wr W → Q4 W) := Lib.hid fun W hB => HQ4.out _ _ hq hB
      clear hO0 hb1 hrp hO1 hg1 hB1 hqX hqW hq HPT HRI
      obtain ⟨al, hal⟩ : ∃ al, p.ss ++ overL10 l p.x = al := ⟨_, rfl⟩
      have HOV : Hid (p.ss.length + (overL10 l p.x).length = al.length ∧ al.length ≤ 50) := Lib.hid (by rw [← hal, List.length_append]; have := HOL.out; exact ⟨rfl, by omega⟩)
      have HAL := Lib.hid hal
      rw [hal] at HST HFL
      go_upto_region 11 with (at_builtin; refine list_append rfl (.tmp 134) (.tmp 136) 30 rfl hrun1 ?_)
      clear hrun1 yy2 hal
      go_cut [148] from 138 to 148 (fun v wx => ∃ d : Bool, v = .bool d ∧ wx = W1 ∧ Hid ((d = false → overL10 l p.x = []) ∧ (d = true → ∃ (jx : Nat) (ex : Exm), p.x = (jx : Int) ∧ l.exits[jx]? = some ex)))
      case first =>
        rcases at_cases_n l.exits p.x with h1 | ⟨h0, h1⟩ | ⟨jx, ex, hjx, hex, hlx⟩
        · have HV : Hid (overL10 l p.x = []) := Lib.hid (by unfold overL10; rw [if_neg (by omega)])
          have s1 : decide ((0 : Int) ≤ p.x) = false := decide_eq_false (by omega)
          have s2 : ¬ (0 : Int) ≤ p.x := by omega
          clear h1
          go_wp2_with fail
          go_meet
          exact ⟨false, rfl, rfl, Lib.hid ⟨fun _ => HV.out, fun h => (by cases h)⟩⟩
        · have HV : Hid (overL10 l p.x = []) := Lib.hid (by
            unfold overL10
            rw [if_pos h0, List.getElem?_eq_none (by omega)]
            rfl)
          have s1 : decide ((0 : Int) ≤ p.x) = true := decide_eq_true h0
          have s2 : (0 : Int) ≤ p.x := h0
          have s3 : decide (p.x < (l.exits.length : Int)) = false := decide_eq_false (by omega)
          have s4 : ¬ p.x < (l.exits.length : Int) := by omega
          clear h1 h0
          go_wp2_with fail
          go_meet
          exact ⟨false, rfl, rfl, Lib.hid ⟨fun _ => HV.out, fun h => (by cases h)⟩⟩
        · have HV : Hid (∃ (jx : Nat) (ex : Exm), p.x = (jx : Int) ∧ l.exits[jx]? = some ex) := Lib.hid ⟨jx, ex, hjx, hex⟩
          have s1 : decide ((0 : Int) ≤ (jx : Int)) = true := decide_eq_true (by omega)
          have s2 : (0 : Int) ≤ (jx : Int) := by omega
          have s3 : decide ((jx : Int) < (l.exits.length : Int)) = true := decide_eq_true hlx
          have s4 : (jx : Int) < (l.exits.length : Int) := hlx
          have s5 : jx < l.exits.length := by omega
          rw [hjx] at yy1
          clear hjx hex hlx
          go_wp2_with fail
          go_meet
          exact ⟨true, rfl, rfl, Lib.hid ⟨fun h => (by cases h), fun _ => HV.out⟩⟩
      case rest =>
      obtain ⟨d, rfl, hwc, HD⟩ := hcut
      rw [hwc]
      clear hwc
      go_upto_if 148 with (fail)
      go_cut [9] from 149 to 157 (fun v wx => ∃ A6 c6, v = .slice A6 al.length c6 ∧ Hid (Q4 wx ∧ Row wx wx.heap.size A6 (al.flatMap stpCells)))
      case first =>
        cases d
        · obtain ⟨A6, c6, rfl, hr6⟩ := owns_read HO1.out
          have HE : Hid (p.ss = al) := Lib.hid (by rw [← HAL.out, HD.out.1 rfl, List.append_nil])
          have HR6 := Lib.hid hr6
          clear hr6 yy1 xx2 HD
          go_wp2_with fail
          go_meet
          exact ⟨A6, c6, by rw [← HE.out], Lib.hid ⟨HW1.out, by rw [← HE.out]; exact HR6.out⟩⟩
        · obtain ⟨jx, ex, hjx, hex⟩ := HD.out.2 rfl
          have hlx : jx < l.exits.length := (List.getElem?_eq_some_iff.1 hex).1
          have hov : overL10 l p.x = ex.over := by
            unfold overL10
            rw [if_pos (by omega), hjx, Int.toNat_natCast, hex]
            rfl
          have s4 : (jx : Int) < (l.exits.length : Int) := by omega
          have hxo := HOL.out
          rw [hov] at hxo
          have hLx := (HTW.out _ (HQ4q.out _ HW1.out)).2.1
          obtain ⟨be, oe, hAe, _, hc0, hc⟩ := hLx.exits.nth (n := 3) (fun _ => rfl) (by omega) hex
          have ec2 := hc jx _ 2 _ hex rfl
          obtain ⟨v2, W2, hrun2, hO2, hg2⟩ := append_steps13 wr.heap.size p.ss ex.over v1 ex.A ex.c _ W1 HO1.out (hLx.overs ex (List.mem_of_getElem? hex)) (by omega) (by omega) HB1.out.size
          have hB2 := HB1.out.grown hg2 HB1.out.size (fun k e => (HO1.out.lt k e).1)
          have HE : Hid (p.ss ++ ex.over = al) := Lib.hid (by rw [← HAL.out, hov])
          rw [HE.out] at hO2
          obtain ⟨A6, c6, rfl, hr6⟩ := owns_read hO2
          have HR6 := Lib.hid hr6
          have HW6 := Lib.hid (HQwr.out W2 hB2)
          rw [hAe] at xx2
          rw [hjx] at yy1
          clear hov hjx hex hLx hAe hc0 hc hO2 hg2 hB2 hr6 hxo HD
          go_wp2_with (at_builtin; refine list_append rfl (.tmp 149) (.tmp 156) 30 rfl hrun2 ?_)
          go_meet
          exact ⟨A6, c6, rfl, Lib.hid ⟨HW6.out, HR6.out⟩⟩
      case rest =>
      obtain ⟨A6, c6, rfl, H6⟩ := hcut
      clear xx2 yy1
      have hall : al.length ≤ 50 := HOV.out.2
      obtain ⟨Q6, HQ6, HQ64, HQr6, hq6⟩ : ∃ Q6 : World → Prop, Hid (Closed Q6) ∧ Hid (∀ W, Q6 W → Q4 W) ∧ Hid (∀ W, Q6 W → Row W W.heap.size A6 (al.flatMap stpCells)) ∧ Q6 wc :=
        ⟨fun W => Q4 W ∧ Row W W.heap.size A6 (al.flatMap stpCells), Lib.hid (HQ4.out.and (fun _ _ h hB => h.on hB)), Lib.hid fun _ h => h.1, Lib.hid fun _ h => h.2, H6.out.1, H6.out.2⟩
      clear H6 HW1 HO1 HB1 HQwr HOV HAL HOL
      go_wp2_with fail
      go_loopw [10] (fun k wr => ∃ j : Nat, j ≤ al.length ∧ k = .int .i64 j ∧ Q6 wr) (fun k _ => al.length - (intOf k).toNat)
      case atStart => exact ⟨0, by omega, rfl, hq6⟩
      case round =>
        clear hq6
        obtain ⟨k, hk, rfl, hq⟩ := hrel
        by_cases hlt2 : k < al.length
        · have hlt2' : (k : Int) < (al.length : Int) := by omega
          obtain ⟨⟨s1, s2, s3⟩, hx⟩ : ∃ x, al[k]? = some x := ⟨_, List.getElem?_eq_getElem hlt2⟩
          obtain ⟨o1, o2, HA, HC0, HC⟩ := row_at (Q := Q6) (n := 3) (fun _ => rfl) (by omega) HQr6.out hq hx
          have c0 := HC0.out _ hq k _ _ hx rfl
          have c1 := HC.out _ hq k _ 1 _ hx rfl
          have c2 := HC.out _ hq k _ 2 _ hx rfl
          have HSTk : Hid (stepV l s1 s2 s3 = true → kindV l s1 = 2 → at13 nn s1 = (wayK (kindV l s1) s2 s3, true)) := Lib.hid (HST.out k s1 s2 s3 hx)
          have HFLk : Hid (∀ f, stepV l s1 s2 s3 = true → f ∈ l.flanks → f.1 = s1 → f.2.1 = wayK (kindV l s1) s2 s3 → at13 nn f.2.2.1 = (f.2.2.2, true)) := Lib.hid fun f => HFL.out k s1 s2 s3 f hx
          obtain rfl := HA.out
          obtain ⟨gs, hgs⟩ : ∃ g, wr.heap.size = g := ⟨_, rfl⟩
          obtain ⟨W7, hW7⟩ : ∃ W7, wr.alloc (.cells #[.int .i64 s1, .int .i64 s2, .int .i64 s3] 56) = W7 := ⟨_, rfl⟩
          obtain ⟨Q7, HQ7, HQ76, HQs, hq7⟩ : ∃ Q7 : World → Prop, Hid (Closed Q7) ∧ Hid (∀ W, Q7 W → Q6 W) ∧ Hid (∀ W, Q7 W → Whole W gs 56 (stpCells (s1, s2, s3))) ∧ Q7 W7 :=
            ⟨fun W => Q6 W ∧ Whole W gs 56 (stpCells (s1, s2, s3)), Lib.hid (HQ6.out.and (Closed.whole _ _ _)), Lib.hid fun _ h => h.1, Lib.hid fun _ h => h.2, by rw [← hW7]; exact HQ6.out _ _ hq (below1 _ _), by rw [← hW7]; exact Whole.new_at _ _ (stpCells (s1, s2, s3)) _ hgs.symm⟩
          have HQ7q : Hid (∀ W, Q7 W → Q W) := Lib.hid fun W hW => HQ4q.out _ (HQ64.out _ (HQ76.out _ hW))
          have HQ74 : Hid (∀ W, Q7 W → Q4 W) := Lib.hid fun W hW => HQ64.out _ (HQ76.out _ hW)
          obtain ⟨st, hst⟩ : ∃ z, stepV l s1 s2 s3 = z := ⟨_, rfl⟩
          obtain ⟨wy, hwy⟩ : ∃ z, wayK (kindV l s1) s2 s3 = z := ⟨_, rfl⟩
          have KS : Hid (∀ W, Q7 W → Calls Tryd.prog 23 #[l.val, stpV s1 s2 s3] W fun e w' => e = .returned (.tuple #[.int .i64 wy, .bool st]) ∧ Q7 w') := Lib.hid fun W hW => keepR HQ7.out (stepR_B (HTW.out W (HQ7q.out W hW)).2.1 s1 s2 s3 hwy hst) hW
          rw [hst, hwy] at HFLk
          rw [hst, hwy] at HSTk
          have HWE := Lib.hid (And.intro hW7 hgs)
          have HSTE := Lib.hid hst
          clear hx hq HA hW7 hgs hwy hst HC0 HC
          go_upto_region 17 with (fail)
          try rw [HWE.out.1]
          try rw [HWE.out.2]
          clear c0 c1 c2 HWE
          have m0 := HQl.out _ (HQ7q.out _ hq7)
          have x0 := m0.cell_at 0 rfl
          have x1 := m0.cell_at 1 rfl
          have x2 := m0.cell_at 2 rfl
          have x3 := m0.cell_at 3 rfl
          have x4 := m0.cell_at 4 rfl
          have x5 := m0.cell_at 5 rfl
          have x6 := m0.cell_at 6 rfl
          have x7 := m0.cell_at 7 rfl
          have x8 := m0.cell_at 8 rfl
          have x9 := m0.cell_at 9 rfl
          have x10 := m0.cell_at 10 rfl
          clear m0
          have m0 := HQs.out _ hq7
          have v0 := m0.cell_at 0 rfl
          have v1 := m0.cell_at 1 rfl
          have v2 := m0.cell_at 2 rfl
          clear m0
          go_wp2_with fail
          refine (KS.out _ hq7).mono ?_
          clear hq7 KS x0 x1 x2 x3 x4 x5 x6 x7 x8 x9 x10 v0 v1 v2
          rintro e w8 ⟨rfl, hq7⟩
          cases st
          · have hq6 := HQ76.out _ hq7
            clear hq7
            go_wp2_with fail
            go_roundw
            case rel => exact ⟨k + 1, hlt2, by go_num, hq6⟩
            case measure => simp [intOf]; omega
          · obtain ⟨jx, y, rfl, hy, hky, _⟩ := step_some HSTE.out
            have hjs : jx < l.secs.length := (List.getElem?_eq_some_iff.1 hy).1
            have hjs' : (jx : Int) < (l.secs.length : Int) := by omega
            obtain ⟨bs, os, HAS, HS0, _⟩ := row_at (Q := Q) (n := 11) Sec.len (by omega) (fun W hW => (HTW.out W hW).2.1.secs) (HQ7q.out _ hq7) hy
            have HKS : Hid (∀ W, Q W → W.cell? ⟨bs, os + jx * 11, none⟩ = some (.int .u8 y.k)) := Lib.hid fun W hW => HS0.out W hW jx y _ hy rfl
            clear hy HS0
            by_cases hk2 : y.k = 2
            · have KA1 := Lib.hid (KA.out _ _ _ (HSTk.out rfl (by rw [hky]; exact hk2)))
              have v0 := (HQs.out _ hq7).cell_at 0 rfl
              go_wp2_with fail
              refine (KA1.out _ (HQ74.out _ hq7)).mono ?_
              clear v0 KA1
              rintro e w9 ⟨rfl, hB9⟩
              have hq7 := HQ7.out _ _ hq7 hB9
              have v0 := (HQs.out _ hq7).cell_at 0 rfl
              have x0 := (HQl.out _ (HQ7q.out _ hq7)).cell_at 0 rfl
              rw [HAS.out] at x0
              have ks := HKS.out _ (HQ7q.out _ hq7)
              rw [hk2] at ks
              clear hB9
              go_wp2_with fail
              clear v0 x0 ks
              go_loopw [16] (fun i wr => ∃ j : Nat, j ≤ l.flanks.length ∧ i = .int .i64 j ∧ Q7 wr) (fun i _ => l.flanks.length - (intOf i).toNat)
              case atStart => exact ⟨0, by omega, rfl, hq7⟩
              case round =>
                clear hq7
                obtain ⟨i, hi, rfl, hq⟩ := hrel
                have x3 := (HQl.out _ (HQ7q.out _ hq)).cell_at 3 rfl
                by_cases hlt3 : i < l.flanks.length
                · have hlt3' : (i : Int) < (l.flanks.length : Int) := by omega
                  obtain ⟨⟨f1, f2, f3, f4⟩, hx⟩ : ∃ x, l.flanks[i]? = some x := ⟨_, List.getElem?_eq_getElem hlt3⟩
                  obtain ⟨bf, of, hAf, _, hc0, hc⟩ := (HTW.out _ (HQ7q.out _ hq)).2.1.flanks.nth (n := 4) (fun _ => rfl) (by omega) hx
                  have c0 := hc0 i _ _ hx rfl
                  have c1 := hc i _ 1 _ hx rfl
                  have c2 := hc i _ 2 _ hx rfl
                  have c3 := hc i _ 3 _ hx rfl
                  have HFf : Hid (f1 = (jx : Int) → f2 = wy → at13 nn f3 = (f4, true)) := Lib.hid fun h1 h2 => HFLk.out (f1, f2, f3, f4) (by simp) (List.mem_of_getElem? hx) h1 h2
                  obtain ⟨gf, hgf⟩ : ∃ g, wr.heap.size = g := ⟨_, rfl⟩
                  obtain ⟨W8, hW8⟩ : ∃ W8, wr.alloc (.cells #[.int .i64 f1, .int .i64 f2, .int .i64 f3, .int .i64 f4] 59) = W8 := ⟨_, rfl⟩
                  obtain ⟨Q8, HQ8, HQ87, HQf, hq8⟩ : ∃ Q8 : World → Prop, Hid (Closed Q8) ∧ Hid (∀ W, Q8 W → Q7 W) ∧ Hid (∀ W, Q8 W → Whole W gf 59 (flkCells (f1, f2, f3, f4))) ∧ Q8 W8 :=
                    ⟨fun W => Q7 W ∧ Whole W gf 59 (flkCells (f1, f2, f3, f4)), Lib.hid (HQ7.out.and (Closed.whole _ _ _)), Lib.hid fun _ h => h.1, Lib.hid fun _ h => h.2, by rw [← hW8]; exact HQ7.out _ _ hq (below1 _ _), by rw [← hW8]; exact Whole.new_at _ _ (flkCells (f1, f2, f3, f4)) _ hgf.symm⟩
                  have HWE := Lib.hid (And.intro hW8 hgf)
                  rw [hAf] at x3
                  clear hx hq hAf hc0 hc hW8 hgf
                  go_upto_region 26 with (fail)
                  try rw [HWE.out.1]
                  try rw [HWE.out.2]
                  clear c0 c1 c2 c3 x3 HWE
                  obtain ⟨⟨ax, ok⟩, hat⟩ : ∃ z, at13 nn f3 = z := ⟨_, rfl⟩
                  have KA2 := Lib.hid (KA.out _ _ _ hat)
                  have g2 := (HQf.out _ hq8).cell_at 2 rfl
                  have HAT := Lib.hid hat
                  clear hat
                  go_wp2_with fail
                  refine (KA2.out _ (HQ74.out _ (HQ87.out _ hq8))).mono ?_
                  clear g2 KA2
                  rintro e w10 ⟨rfl, hB10⟩
                  have hq8 := HQ8.out _ _ hq8 hB10
                  have g0 := (HQf.out _ hq8).cell_at 0 rfl
                  have g1 := (HQf.out _ hq8).cell_at 1 rfl
                  have g3 := (HQf.out _ hq8).cell_at 3 rfl
                  have v0 := (HQs.out _ (HQ87.out _ hq8)).cell_at 0 rfl
                  have HQE := Lib.hid (HQ87.out _ hq8)
                  clear hB10 hq8
                  cases e1 : (f1 == (jx : Int))
                  · go_wp2_with fail
                    go_roundw
                    case rel => exact ⟨i + 1, hlt3, by go_num, HQE.out⟩
                    case measure => simp [intOf]; omega
                  · cases e2 : (f2 == wy)
                    · go_wp2_with fail
                      go_roundw
                      case rel => exact ⟨i + 1, hlt3, by go_num, HQE.out⟩
                      case measure => simp [intOf]; omega
                    · have hh := HAT.out.symm.trans (HFf.out (by simpa using e1) (by simpa using e2))
                      obtain rfl : ax = f4 := congrArg Prod.fst hh
                      obtain rfl : ok = true := congrArg Prod.snd hh
                      clear hh
                      go_wp2_with fail
                      go_roundw
                      case rel => exact ⟨i + 1, hlt3, by go_num, HQE.out⟩
                      case measure => simp [intOf]; omega
                · obtain rfl : i = l.flanks.length := by omega
                  have hq6 := HQ76.out _ hq
                  clear hq
                  go_wp2_with fail
                  go_roundw
                  case rel => exact ⟨k + 1, hlt2, by go_num, hq6⟩
                  case measure => simp [intOf]; omega
            · obtain ⟨⟨px, ok⟩, hat⟩ : ∃ z, at13 nn (jx : Int) = z := ⟨_, rfl⟩
              have KA1 := Lib.hid (KA.out _ _ _ hat)
              clear hat
              have v0 := (HQs.out _ hq7).cell_at 0 rfl
              go_wp2_with fail
              refine (KA1.out _ (HQ74.out _ hq7)).mono ?_
              clear v0 KA1
              rintro e w9 ⟨rfl, hB9⟩
              have hq7 := HQ7.out _ _ hq7 hB9
              have v0 := (HQs.out _ hq7).cell_at 0 rfl
              have x0 := (HQl.out _ (HQ7q.out _ hq7)).cell_at 0 rfl
              rw [HAS.out] at x0
              have ks := HKS.out _ (HQ7q.out _ hq7)
              have hk3 : (y.k == 2) = false := by simpa using hk2
              clear hB9
              go_wp2_with fail
              clear v0 x0 ks
              go_loopw [16] (fun i wr => ∃ j : Nat, j ≤ l.flanks.length ∧ i = .int .i64 j ∧ Q7 wr) (fun i _ => l.flanks.length - (intOf i).toNat)
              case atStart => exact ⟨0, by omega, rfl, hq7⟩
              case round =>
                clear hq7
                obtain ⟨i, hi, rfl, hq⟩ := hrel
                have x3 := (HQl.out _ (HQ7q.out _ hq)).cell_at 3 rfl
                by_cases hlt3 : i < l.flanks.length
                · have hlt3' : (i : Int) < (l.flanks.length : Int) := by omega
                  obtain ⟨⟨f1, f2, f3, f4⟩, hx⟩ : ∃ x, l.flanks[i]? = some x := ⟨_, List.getElem?_eq_getElem hlt3⟩
                  obtain ⟨bf, of, hAf, _, hc0, hc⟩ := (HTW.out _ (HQ7q.out _ hq)).2.1.flanks.nth (n := 4) (fun _ => rfl) (by omega) hx
                  have c0 := hc0 i _ _ hx rfl
                  have c1 := hc i _ 1 _ hx rfl
                  have c2 := hc i _ 2 _ hx rfl
                  have c3 := hc i _ 3 _ hx rfl
                  have HFf : Hid (f1 = (jx : Int) → f2 = wy → at13 nn f3 = (f4, true)) := Lib.hid fun h1 h2 => HFLk.out (f1, f2, f3, f4) (by simp) (List.mem_of_getElem? hx) h1 h2
                  obtain ⟨gf, hgf⟩ : ∃ g, wr.heap.size = g := ⟨_, rfl⟩
                  obtain ⟨W8, hW8⟩ : ∃ W8, wr.alloc (.cells #[.int .i64 f1, .int .i64 f2, .int .i64 f3, .int .i64 f4] 59) = W8 := ⟨_, rfl⟩
                  obtain ⟨Q8, HQ8, HQ87, HQf, hq8⟩ : ∃ Q8 : World → Prop, Hid (Closed Q8) ∧ Hid (∀ W, Q8 W → Q7 W) ∧ Hid (∀ W, Q8 W → Whole W gf 59 (flkCells (f1, f2, f3, f4))) ∧ Q8 W8 :=
                    ⟨fun W => Q7 W ∧ Whole W gf 59 (flkCells (f1, f2, f3, f4)), Lib.hid (HQ7.out.and (Closed.whole _ _ _)), Lib.hid fun _ h => h.1, Lib.hid fun _ h => h.2, by rw [← hW8]; exact HQ7.out _ _ hq (below1 _ _), by rw [← hW8]; exact Whole.new_at _ _ (flkCells (f1, f2, f3, f4)) _ hgf.symm⟩
                  have HWE := Lib.hid (And.intro hW8 hgf)
                  rw [hAf] at x3
                  clear hx hq hAf hc0 hc hW8 hgf
                  go_upto_region 26 with (fail)
                  try rw [HWE.out.1]
                  try rw [HWE.out.2]
                  clear c0 c1 c2 c3 x3 HWE
                  obtain ⟨⟨ax, ok⟩, hat⟩ : ∃ z, at13 nn f3 = z := ⟨_, rfl⟩
                  have KA2 := Lib.hid (KA.out _ _ _ hat)
                  have g2 := (HQf.out _ hq8).cell_at 2 rfl
                  have HAT := Lib.hid hat
                  clear hat
                  go_wp2_with fail
                  refine (KA2.out _ (HQ74.out _ (HQ87.out _ hq8))).mono ?_
                  clear g2 KA2
                  rintro e w10 ⟨rfl, hB10⟩
                  have hq8 := HQ8.out _ _ hq8 hB10
                  have g0 := (HQf.out _ hq8).cell_at 0 rfl
                  have g1 := (HQf.out _ hq8).cell_at 1 rfl
                  have g3 := (HQf.out _ hq8).cell_at 3 rfl
                  have v0 := (HQs.out _ (HQ87.out _ hq8)).cell_at 0 rfl
                  have HQE := Lib.hid (HQ87.out _ hq8)
                  clear hB10 hq8
                  cases e1 : (f1 == (jx : Int))
                  · go_wp2_with fail
                    go_roundw
                    case rel => exact ⟨i + 1, hlt3, by go_num, HQE.out⟩
                    case measure => simp [intOf]; omega
                  · cases e2 : (f2 == wy)
                    · go_wp2_with fail
                      go_roundw
                      case rel => exact ⟨i + 1, hlt3, by go_num, HQE.out⟩
                      case measure => simp [intOf]; omega
                    · have hh := HAT.out.symm.trans (HFf.out (by simpa using e1) (by simpa using e2))
                      obtain rfl : ax = f4 := congrArg Prod.fst hh
                      obtain rfl : ok = true := congrArg Prod.snd hh
                      clear hh
                      go_wp2_with fail
                      go_roundw
                      case rel => exact ⟨i + 1, hlt3, by go_num, HQE.out⟩
                      case measure => simp [intOf]; omega
                · obtain rfl : i = l.flanks.length := by omega
                  have hq6 := HQ76.out _ hq
                  clear hq
                  go_wp2_with fail
                  go_roundw
                  case rel => exact ⟨k + 1, hlt2, by go_num, hq6⟩
                  case measure => simp [intOf]; omega
        · obtain rfl : k = al.length := by omega
          have hq := HQ4q.out _ (HQ64.out _ hq)
          go_wp2_with fail
          refine (KW.out _ hq).mono ?_
          clear hq
          rintro e wz ⟨rfl, hq⟩
          go_wp2_with fail
          go_ret
          exact ⟨rfl, HQb.out _ hq⟩
end Go.Proofs.YtbdbgoploednbaaDoor
