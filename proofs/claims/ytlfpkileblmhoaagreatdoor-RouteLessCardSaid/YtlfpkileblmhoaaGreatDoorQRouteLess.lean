/- The walk of RouteLess: a Route path with vias left out; its beginnings and ends; turned about. -/
import Derived.Lib.MinMax
import Derived.Test.YtlfpkileblmhoaaGreatDoorQRouM
import Derived.Test.YtlfpkileblmhoaaGreatDoorQJoinC
import Derived.Test.YtlfpkileblmhoaaGreatDoorQApp11
import Derived.Test.YtlfpkileblmhoaaGreatDoorQD
namespace Go.Proofs.YtlfpkileblmhoaaGreatDoor
open Go.RowKit Go.Shelf
set_option linter.unusedVariables false
set_option linter.unusedSimpArgs false

theorem cut_at (a : Int) (n : Nat) : ∃ k : Nat, min (max a 0) (n : Int) = k ∧ k ≤ n := ⟨(min (max a 0) (n : Int)).toNat, by omega, by omega⟩
theorem check_sub {l : Lay} {p : Pth} {us vs : List Int} (h : check11 l p vs = 0) (hs : us.Sublist vs) : check11 l p us = 0 := by
  obtain ⟨⟨h1, h2, h3⟩, h4, h5⟩ := check11_ok.1 h
  refine check11_ok.2 ⟨⟨h1, h2, ?_⟩, h4, through_sub hs _ h5⟩
  unfold viasV at h3 ⊢
  rw [Bool.and_eq_true, decide_eq_true_eq, Bool.not_eq_true', List.any_eq_false] at h3 ⊢
  exact ⟨Nat.le_trans hs.length_le h3.1, fun v hv => h3.2 v (hs.subset hv)⟩
theorem path_goes {l : Lay} {p : Pth} (h : isPathV l p = true) : goesS l p.ss = true := by
  unfold isPathV at h
  simp only [Bool.and_eq_true] at h
  exact h.2.1
theorem back_at {ss : List (Int × Int × Int)} {j : Nat} {x : Int × Int × Int} (h : ss[j]? = some x) : (ss.take (j + 1)).reverse.map turn = turn x :: (ss.take j).reverse.map turn := by rw [List.take_add_one, h]; simp
theorem owns_oneS (w : World) (x : Int × Int × Int) {base : Nat} (hb : base ≤ w.heap.size) : (w.alloc (.cells (stpCells x).toArray 50)).ownsRow base 50 3 (.slice (some ⟨w.heap.size, 0, none⟩) 1 1) 1 (stpCells x) :=
  ⟨rfl, .inr ⟨w.heap.size, 1, _, rfl, hb, World.alloc_heap_new w _, Nat.le_refl _, by unfold maxLen; omega, rfl, by simp⟩⟩
theorem ownsI_slice {w : World} {base e n : Nat} {v : Value} {xs : List Value} (h : w.ownsRow base e 1 v n xs) : ∃ A c, v = .slice A n c ∧ Row w w.heap.size A xs ∧ n ≤ c := by
  rcases h.2 with ⟨rfl, rfl⟩ | ⟨g, cap, cur, rfl, hg, _, hn, _⟩
  · have : xs = [] := List.eq_nil_of_length_eq_zero (by have := h.1; omega)
    subst this
    exact ⟨none, 0, rfl, Row.nil _ _ _, Nat.le_refl _⟩
  · exact ⟨_, cap, rfl, owns_row2 h, hn⟩
/-- append(v, x), v a row of ints of the call's own, nil or not. -/
theorem append_intN (base n : Nat) (v : Value) (xs : List Value) (x : Int) (w : World) (a : Nat) (hown : w.ownsRow base 3 1 v n xs) (hc : Whole w a 3 (intCells x)) (hn : n ≤ 1000) (hbase : base ≤ w.heap.size) :
    ∃ v' w', (Builtin.append_ #[33, 33] 33 #[v, .slice (some ⟨a, 0, none⟩) 1 1]).run Tryz.prog w = .ok v' w' ∧ w'.ownsRow base 3 1 v' (n + 1) (xs ++ intCells x) ∧ Below base w w' := by
  obtain ⟨v', w', r1, r2, r3⟩ := appendG (P := Tryz.prog) (f := intCells) (size := 1) (fun _ => rfl) oneInt 33 3 (.int .i64 0) 8 Tryz.underlying33 infoInt rfl (by omega) (by omega) base n v xs [x] (some ⟨a, 0, none⟩) 1 (a + 1) w hown (.inr (by simp)) (by simpa using hc.row (Nat.lt_succ_self a)) hn (by simp) hbase
  exact ⟨v', w', r1, by simpa using r2, (Below.refl base w).grown r3 hbase (fun k e => (hown.lt k e).1)⟩
theorem exec_cut {P : Program} {o : Oper} {ρ : Operand → Value} {w : World} (t : TypeId) (x : Operand) (lo hi mx : Option Operand) (ho : o.op = .slice t x lo hi mx) {v : Value}
    (hrun : (Instr.sliceAt t (ρ x) (lo.map ρ) (hi.map ρ) (mx.map ρ)).run P w = .ok v w) : (execOp ρ o).run P w = .ok (.value v) w := by
  unfold execOp
  simp only [ho, Sem.run_bind, Sem.run_pure, Result.andThen_ok, hrun]

set_option maxRecDepth 100000 in
set_option maxHeartbeats 32000000 in
theorem routeLess_walk (l : Lay) (p : Pth) (vs : List Int) (A : Option Addr) (c : Nat) (bits at' : Int) (w : World) (hT : Shapes w) (hL : Lies l w) (hp : PLies p w) (hpc : p.ss.length ≤ p.c) (hR : Row w w.heap.size A (nums .i64 vs)) (hcap : vs.length ≤ c) (hm : c ≤ maxLen) :
    Calls Tryz.prog 5 #[l.val, p.val, .slice A vs.length c, .int .i64 bits, .int .i64 at'] w fun e w' => e = .returned (.bool true) ∧ Below w.heap.size w w' := by
  obtain ⟨ps, px, Ap, cp, ss⟩ := p
  obtain ⟨Q, HQ, HQb, HQl, HQp, hq⟩ := keep_lp l ⟨ps, px, Ap, cp, ss⟩ w
  have hn : (vs.length : Int) ≤ 9223372036854775807 := by unfold maxLen at hm; omega
  have hT0 := Lib.hid hT
  have HTW : Hid (∀ W, Q W → Shapes W ∧ Lies l W) := Lib.hid fun W hW => ⟨Shapes.closed _ _ hT (HQb.out W hW), Lies.closed l _ _ hL (HQb.out W hW)⟩
  have HPW : Hid (∀ W, Q W → PLies ⟨ps, px, Ap, cp, ss⟩ W ∧ Row W W.heap.size A (nums .i64 vs)) := Lib.hid fun W hW => ⟨PLies.closed _ _ _ hp (HQb.out W hW), hR.on (HQb.out W hW)⟩
  have HRW : Hid (∀ W, Q W → Row W W.heap.size Ap (ss.flatMap stpCells)) := Lib.hid fun W hW => (HPW.out W hW).1.row
  have hln := hp.len
  simp only at hln hpc
  have HPC := Lib.hid hpc
  obtain ⟨gp, hgp⟩ : ∃ g, great11 l ⟨ps, px, Ap, cp, ss⟩ = g := ⟨_, rfl⟩
  obtain ⟨ip, hip⟩ : ∃ b, (check11 l ⟨ps, px, Ap, cp, ss⟩ vs == 0) = b := ⟨_, rfl⟩
  have KGP : Hid (∀ W, Q W → Calls Tryz.prog 8 #[l.val, (Pth.val ⟨ps, px, Ap, cp, ss⟩)] W fun e w' => e = .returned (.bool gp) ∧ Q w') := Lib.hid (fun W hW => keepR HQ.out (great11_any (w := W) (HTW.out W hW).2 hgp) hW)
  have KIP : Hid (∀ W, Q W → Calls Tryz.prog 12 #[l.val, (Pth.val ⟨ps, px, Ap, cp, ss⟩), .slice A vs.length c] W fun e w' => e = .returned (.bool ip) ∧ Q w') := Lib.hid (fun W hW => keepR HQ.out (is11_any (w := W) (HTW.out W hW).1 (HTW.out W hW).2 (HPW.out W hW).1 (HPW.out W hW).2 hcap hn hip) hW)
  have KW : Hid (∀ W, Q W → Calls Tryz.prog 9 #[] W fun e w' => e = .returned (.bool true) ∧ Below w.heap.size w w') := Lib.hid fun W hW => wakes11_P (P := fun W' => Below w.heap.size w W') (Closed.below w) (fun W' h => Shapes.closed _ _ hT0.out h) (HQb.out W hW)
  have KWB : Hid (∀ W, Q W → Calls Tryz.prog 9 #[] W fun e w' => e = .returned (.bool true) ∧ Below W.heap.size W w') := Lib.hid fun W hW => wakes11_P (P := fun W' => Below W.heap.size W W') (Closed.below W) (fun W' h => Shapes.closed _ _ (HTW.out W hW).1 h) (Below.refl _ _)
  have HIP := Lib.hid hip
  obtain ⟨na, hna, hnl⟩ := cut_at at' ss.length
  have HAL := Lib.hid hnl
  have HAC : Hid (na ≤ cp) := Lib.hid (by omega)
  have HNA := Lib.hid hna
  clear hT hL hp hR hgp hip hcap hm hpc hna hnl
  go_enter Tryz.func5, Tryz.ntmps5
  have m0 := HQl.out _ hq
  have x0 := m0.cell_at 0 rfl
  have x1 := m0.cell_at 1 rfl
  have x2 := m0.cell_at 2 rfl
  have x3 := m0.cell_at 3 rfl
  have x4 := m0.cell_at 4 rfl
  have x5 := m0.cell_at 5 rfl
  have x6 := m0.cell_at 6 rfl
  have x7 := m0.cell_at 7 rfl
  have x8 := m0.cell_at 8 rfl
  have x9 := m0.cell_at 9 rfl
  have x10 := m0.cell_at 10 rfl
  clear m0
  have m0 := HQp.out _ hq
  have y0 := m0.cell_at 0 rfl
  have y1 := m0.cell_at 1 rfl
  have y2 := m0.cell_at 2 rfl
  clear m0
  go_wp2_with fail
  refine (KGP.out _ hq).mono ?_
  clear hq x0 x1 x2 x3 x4 x5 x6 x7 x8 x9 x10 y0 y1 y2
  rintro e w1 ⟨rfl, hq⟩
  cases gp
  rotate_left
  · go_wp2_with fail
    refine (KW.out _ hq).mono ?_
    clear hq
    rintro e wz ⟨rfl, hB⟩
    have HBz := Lib.hid hB
    clear hB
    go_wp2_with fail
    go_ret
    exact ⟨rfl, HBz.out⟩
  by_cases h2 : (2 : Int) < vs.length
  · go_wp2_with fail
    refine (KW.out _ hq).mono ?_
    clear hq
    rintro e wz ⟨rfl, hB⟩
    have HBz := Lib.hid hB
    clear hB
    go_wp2_with fail
    go_ret
    exact ⟨rfl, HBz.out⟩
  have m0 := HQl.out _ hq
  have x0 := m0.cell_at 0 rfl
  have x1 := m0.cell_at 1 rfl
  have x2 := m0.cell_at 2 rfl
  have x3 := m0.cell_at 3 rfl
  have x4 := m0.cell_at 4 rfl
  have x5 := m0.cell_at 5 rfl
  have x6 := m0.cell_at 6 rfl
  have x7 := m0.cell_at 7 rfl
  have x8 := m0.cell_at 8 rfl
  have x9 := m0.cell_at 9 rfl
  have x10 := m0.cell_at 10 rfl
  clear m0
  have m0 := HQp.out _ hq
  have y0 := m0.cell_at 0 rfl
  have y1 := m0.cell_at 1 rfl
  have y2 := m0.cell_at 2 rfl
  clear m0
  go_wp2_with fail
  refine (KIP.out _ hq).mono ?_
  clear hq x0 x1 x2 x3 x4 x5 x6 x7 x8 x9 x10 y0 y1 y2
  rintro e w2 ⟨rfl, hq⟩
  cases ip
  · go_wp2_with fail
    refine (KW.out _ hq).mono ?_
    clear hq
    rintro e wz ⟨rfl, hB⟩
    have HBz := Lib.hid hB
    clear hB
    go_wp2_with fail
    go_ret
    exact ⟨rfl, HBz.out⟩
  have HC0 := Lib.hid (beq_iff_eq.1 HIP.out)
  have HSM : Hid (ss.length ≤ 12) := Lib.hid (by
    have h := (check11_ok.1 HC0.out).2.1
    unfold isPathV at h
    simp only [Bool.and_eq_true] at h
    have h1 := h.1
    unfold sizeP at h1
    rw [Bool.and_eq_true, decide_eq_true_eq, decide_eq_true_eq] at h1
    exact h1.2)
  have HV2 : Hid (vs.length ≤ 2) := Lib.hid (by omega)
  have HQ2 := Lib.hid (fun W hB => HQ.out w2 W hq hB)
  clear KGP KIP HIP
  go_wp2_with fail
  go_loopw [11, 12] (fun v i wr => ∃ (j : Nat) (us : List Int), j ≤ vs.length ∧ i = .int .i64 j ∧ Hid (us.Sublist (vs.take j)) ∧ Hid (wr.ownsRow w2.heap.size 3 1 v us.length (nums .i64 us) ∧ Below w2.heap.size w2 wr))
    (fun _ i _ => vs.length - (intOf i).toNat)
  case atStart => exact ⟨0, [], by omega, rfl, Lib.hid (List.nil_sublist _), Lib.hid ⟨World.ownsRow_nil _ _ _ _, Below.refl _ _⟩⟩
  case round =>
    clear hq
    obtain ⟨j, us, hj, rfl, HSU, HI⟩ := hrel
    obtain ⟨wa, rfl⟩ : ∃ W, W = wr := ⟨wr, rfl⟩
    have hq := HQ2.out _ HI.out.2
    by_cases hlt : j < vs.length
    · have hlt' : (j : Int) < vs.length := by omega
      obtain ⟨x, hx⟩ : ∃ x, vs[j]? = some x := ⟨_, List.getElem?_eq_getElem hlt⟩
      obtain ⟨b2, o2, hA, _, d0⟩ := (HPW.out _ hq).2.num hlt
      rw [hx] at d0
      change wa.cell? ⟨b2, o2 + j, none⟩ = some (.int .i64 x) at d0
      have HSN : Hid ((us ++ [x]).Sublist (vs.take (j + 1)) ∧ us.Sublist (vs.take (j + 1))) := Lib.hid (by
        rw [List.take_add_one, hx]
        exact ⟨List.Sublist.append HSU.out (List.Sublist.refl _), HSU.out.trans (List.sublist_append_left _ _)⟩)
      have hul : us.length ≤ 2 := by have := HSU.out.length_le; rw [List.length_take] at this; have := HV2.out; omega
      have hB2 := below1 wa (.cells (intCells x).toArray 3)
      obtain ⟨v', w5, hrun, hown', hB5⟩ := append_intN w2.heap.size us.length _ _ x (wa.alloc (.cells (intCells x).toArray 3)) wa.heap.size (ownsS_keep HI.out.1 hB2) (Whole.new wa _ _) (by omega) (by have := HI.out.2.size; simp; omega)
      have HO' : Hid (w5.ownsRow w2.heap.size 3 1 v' (us ++ [x]).length (nums .i64 (us ++ [x])) ∧ Below w2.heap.size w2 w5) := Lib.hid ⟨by
        have e : (us ++ [x]).length = us.length + 1 := List.length_append
        have e2 : nums .i64 (us ++ [x]) = nums .i64 us ++ intCells x := by unfold nums; rw [List.map_append]; rfl
        rw [e, e2]
        exact hown', HI.out.2.trans ((hB2.mono HI.out.2.size).trans hB5)⟩
      obtain rfl := hA
      clear hown' hB5 hB2 hx hq
      go_upto_region 7 with (fail)
      go_cut [43] from 38 to 43 (fun v wx => ∃ d : Bool, v = .bool d ∧ wx = wa)
      case first =>
        go_wp2_with fail
        go_meet
        exact ⟨_, rfl, rfl⟩
      case rest =>
      obtain ⟨d, rfl, hwc⟩ := hcut
      rw [hwc]
      clear hwc
      cases d
      · go_wp2_with fail
        go_roundw
        case rel => exact ⟨j + 1, us, hlt, by go_num, Lib.hid HSN.out.2, HI⟩
        case measure => simp [intOf]; omega
      · go_wp2_with (at_builtin; refine list_append rfl (.tmp 44) (.tmp 49) 33 rfl hrun ?_)
        go_roundw
        case rel => exact ⟨j + 1, us ++ [x], hlt, by go_num, Lib.hid HSN.out.1, HO'⟩
        case measure => simp [intOf]; omega
    obtain rfl : j = vs.length := by omega
    obtain ⟨Au, cu, rfl, hru, hcu⟩ := ownsI_slice HI.out.1
    have HUC : Hid (us.length ≤ cu ∧ us.Sublist vs) := Lib.hid ⟨hcu, by have := HSU.out; rwa [List.take_length] at this⟩
    obtain ⟨U, HU, HUq, HUr, hu⟩ : ∃ U : World → Prop, Hid (Closed U) ∧ Hid (∀ W, U W → Q W) ∧ Hid (∀ W, U W → Row W W.heap.size Au (nums .i64 us)) ∧ U wa :=
      ⟨fun W => Q W ∧ Row W W.heap.size Au (nums .i64 us), Lib.hid (HQ.out.and (fun _ _ h hB => h.on hB)), Lib.hid fun _ h => h.1, Lib.hid fun _ h => h.2, hq, hru⟩
    have HU3 := Lib.hid (fun W hB => HU.out wa W hu hB)
    clear hq hru hcu hlt
    have y2 := (HQp.out _ (HUq.out _ hu)).cell_at 2 rfl
    go_upto_region 11 with (fail)
    try rw [HNA.out]
    clear y2 hu
    go_wp2_with fail
    go_loopw [14, 15] (fun v i wr => ∃ (j : Nat) (Ab : Option Addr) (cb : Nat), j ≤ ss.length ∧ i = .int .i64 j ∧ v = .slice Ab j cb ∧ Hid (Row wr wr.heap.size Ab (((ss.take j).reverse.map turn).flatMap stpCells) ∧ j ≤ cb ∧ Below wa.heap.size wa wr))
      (fun _ i _ => ss.length - (intOf i).toNat)
    case atStart => exact ⟨0, none, 0, by omega, rfl, rfl, Lib.hid ⟨Row.nil _ _ _, Nat.le_refl _, Below.refl _ _⟩⟩
    case round =>
      obtain ⟨j, Ab, cb, hj, rfl, rfl, HJ⟩ := hrel
      obtain ⟨wb, rfl⟩ : ∃ W, W = wr := ⟨wr, rfl⟩
      have hu := HU3.out _ HJ.out.2.2
      by_cases hlt : j < ss.length
      · have hlt' : (j : Int) < ss.length := by omega
        obtain ⟨⟨x1, x2, x3⟩, hx⟩ : ∃ x, ss[j]? = some x := ⟨_, List.getElem?_eq_getElem hlt⟩
        obtain ⟨b, off, HPA, HC, HC'⟩ := row_at (f := stpCells) (n := 3) (fun _ => rfl) (by omega) HRW.out (HUq.out _ hu) hx
        have c0 := HC.out _ (HUq.out _ hu) j _ _ hx rfl
        have c1 := HC'.out _ (HUq.out _ hu) j _ 1 _ hx rfl
        have c2 := HC'.out _ (HUq.out _ hu) j _ 2 _ hx rfl
        have y2 := (HQp.out _ (HUq.out _ hu)).cell_at 2 rfl
        rw [HPA.out] at y2
        have KT := Lib.hid (turnedR_P (P := fun W => Below wb.heap.size wb W) (w := wb) (Closed.below wb) x1 x2 x3 (Below.refl _ _))
        have HBK := Lib.hid (back_at hx)
        clear hx HC HC' HPA hu
        go_wp2_with fail
        refine KT.out.mono ?_
        clear KT c0 c1 c2 y2
        rintro e w4 ⟨rfl, hB4⟩
        have hsz := HJ.out.2.2.size
        have hs4 := hB4.size
        have hB5 := below1 w4 (.cells (stpCells (turn (x1, x2, x3))).toArray 50)
        have hll : ((ss.take j).reverse.map turn).length = j := by rw [List.length_map, List.length_reverse, List.length_take]; omega
        have hown := owns_oneS w4 (turn (x1, x2, x3)) (base := wa.heap.size) (by omega)
        obtain ⟨v', w6, hrun, hO, hg⟩ := appendG (P := Tryz.prog) (f := stpCells) (size := 3) (fun _ => rfl) oneStep 30 50 (.agg #[.int .i64 0, .int .i64 0, .int .i64 0]) 24 Tryz.underlying30 infoStep rfl (by omega) (by omega) wa.heap.size 1 _ (stpCells (turn (x1, x2, x3))) ((ss.take j).reverse.map turn) Ab cb _ (w4.alloc (.cells (stpCells (turn (x1, x2, x3))).toArray 50)) hown (.inl (by simp)) ((HJ.out.1.on hB4).on hB5) (by omega) (by rw [hll]; have := HSM.out; omega) (by simp; omega)
        have hB6 := (HJ.out.2.2.trans ((hB4.trans (hB5.mono hs4)).mono hsz)).grown hg (by simp; omega) (fun k e => (hown.lt k e).1)
        rw [hll] at hrun hO
        obtain ⟨A6, c6, rfl, hr6, hc6⟩ := ownsS_slice hO
        have HN : Hid (Row w6 w6.heap.size A6 (((ss.take (j + 1)).reverse.map turn).flatMap stpCells) ∧ j + 1 ≤ c6 ∧ Below wa.heap.size wa w6) := Lib.hid ⟨by rw [HBK.out, List.flatMap_cons]; exact hr6, by omega, hB6⟩
        have e1 : 1 + j = j + 1 := Nat.add_comm _ _
        rw [e1] at hrun
        clear hO hg hB6 hown hr6 hc6 hB5 hB4 hll e1 hsz hs4
        go_wp2_with (at_builtin; refine list_append rfl (.tmp 69) (.tmp 70) 30 rfl hrun ?_)
        go_roundw
        case rel => exact ⟨j + 1, A6, c6, hlt, by go_num, rfl, HN⟩
        case measure => simp [intOf]; omega
      obtain rfl : j = ss.length := by omega
      have HBC : Hid (ss.length ≤ cb) := Lib.hid HJ.out.2.1
      obtain ⟨T, HT, HTu, HTr, ht⟩ : ∃ T : World → Prop, Hid (Closed T) ∧ Hid (∀ W, T W → U W) ∧ Hid (∀ W, T W → Row W W.heap.size Ab ((ss.reverse.map turn).flatMap stpCells)) ∧ T wb :=
        ⟨fun W => U W ∧ Row W W.heap.size Ab ((ss.reverse.map turn).flatMap stpCells), Lib.hid (HU.out.and (fun _ _ h hB => h.on hB)), Lib.hid fun _ h => h.1, Lib.hid fun _ h => h.2, hu, by have := HJ.out.1; rwa [List.take_length] at this⟩
      have HTq : Hid (∀ W, T W → Q W) := Lib.hid fun W hW => HUq.out W (HTu.out W hW)
      have HTl : Hid (∀ W, T W → Whole W w.heap.size 29 l.cells) := Lib.hid fun W hW => HQl.out W (HTq.out W hW)
      have HTp : Hid (∀ W, T W → Whole W (w.heap.size + 1) 32 (Pth.cells ⟨ps, px, Ap, cp, ss⟩)) := Lib.hid fun W hW => HQp.out W (HTq.out W hW)
      have HGO : Hid (goesS l ss = true) := Lib.hid (path_goes (check11_ok.1 HC0.out).2.1)
      have HTL : Hid ((ss.take na).length = na ∧ (ss.drop na).length = ss.length - na ∧ (ss.reverse.map turn).length = ss.length) := Lib.hid ⟨by rw [List.length_take, Nat.min_eq_left HAL.out], List.length_drop, by rw [List.length_map, List.length_reverse]⟩
      have KI : Hid (∀ W, T W → Calls Tryz.prog 12 #[l.val, (Pth.val ⟨ps, px, Ap, cp, ss⟩), .slice Au us.length cu] W fun e w' => e = .returned (.bool true) ∧ Below W.heap.size W w') := Lib.hid fun W hW => is11_any (w := W) (HTW.out W (HTq.out W hW)).1 (HTW.out W (HTq.out W hW)).2 (HPW.out W (HTq.out W hW)).1 (HUr.out W (HTu.out W hW)) HUC.out.1 (by have := HUC.out.2.length_le; have := HV2.out; omega) (by rw [check_sub HC0.out HUC.out.2]; rfl)
      have KG1 : Hid (∀ W, T W → Calls Tryz.prog 14 #[l.val, .slice Ap na cp] W fun e w' => e = .returned (.bool true) ∧ Below W.heap.size W w') := Lib.hid fun W hW => by
        have h := goes11_any (w := W) (HTW.out W (HTq.out W hW)).1 (HTW.out W (HTq.out W hW)).2 (ss := ss.take na) (A := Ap) cp (row_to (HRW.out W (HTq.out W hW)) na) (by rw [HTL.out.1]; have := HAL.out; have := HSM.out; omega) (goesS_take HGO.out na)
        rw [HTL.out.1] at h
        exact h
      have KG2 : Hid (∀ W, T W → Calls Tryz.prog 14 #[l.val, .slice (fromA Ap cp na) (ss.length - na) (cp - na)] W fun e w' => e = .returned (.bool true) ∧ Below W.heap.size W w') := Lib.hid fun W hW => by
        have h := goes11_any (w := W) (HTW.out W (HTq.out W hW)).1 (HTW.out W (HTq.out W hW)).2 (ss := ss.drop na) (A := fromA Ap cp na) (cp - na) (row_from (HRW.out W (HTq.out W hW)) HAL.out HPC.out) (by rw [HTL.out.2.1]; have := HSM.out; omega) (goesS_drop HGO.out na)
        rw [HTL.out.2.1] at h
        exact h
      have KG3 : Hid (∀ W, T W → Calls Tryz.prog 14 #[l.val, .slice Ab ss.length cb] W fun e w' => e = .returned (.bool true) ∧ Below W.heap.size W w') := Lib.hid fun W hW => by
        have h := goes11_any (w := W) (HTW.out W (HTq.out W hW)).1 (HTW.out W (HTq.out W hW)).2 (ss := ss.reverse.map turn) (A := Ab) cb (HTr.out W hW) (by rw [HTL.out.2.2]; have := HSM.out; omega) (goesS_back (check11_ok.1 HC0.out).1.1 HGO.out)
        rw [HTL.out.2.2] at h
        exact h
      obtain ⟨wq, rfl⟩ : ∃ W, W = wb := ⟨wb, rfl⟩
      clear hu HJ
      go_wp2_with fail
      have HBS : Hid (∀ W, Below wq.heap.size wq W → T W) := Lib.hid (fun W hB => HT.out _ _ ht hB)
      clear ht
      refine region_mix (Below wq.heap.size wq) [(0, false), (1, false), (2, false), (3, false), (4, false), (5, false), (6, false), (7, false), (8, false), (9, false), (10, false), (11, false), (12, false), (13, false), (14, false), (15, false), (16, false), (17, false), (18, false), (19, false), (20, false), (21, false), (22, false), (23, false), (24, false), (25, false), (26, false), (27, false), (28, false)] (by kernel_rfl) (by kernel_rfl) (Below wq.heap.size wq) ⟨Closed.below wq, fun _ h => h⟩ (Below.refl _ _).drew ?_
      simp only [pickOps, List.getElem?_cons_zero, List.getElem?_cons_succ]
      iterate 9 (first | (refine mix_skip (by rfl) ?_; simp only [Act.put, List.setIfInBounds_toArray, List.set_cons_zero, List.set_cons_succ]) | (refine mix_read _ (by rfl) (fun W hW => by (have hW := HBS.out W hW; have m0 := HTl.out W hW; have x0 := m0.cell_at 0 rfl; have x1 := m0.cell_at 1 rfl; have x2 := m0.cell_at 2 rfl; have x3 := m0.cell_at 3 rfl; have x4 := m0.cell_at 4 rfl; have x5 := m0.cell_at 5 rfl; have x6 := m0.cell_at 6 rfl; have x7 := m0.cell_at 7 rfl; have x8 := m0.cell_at 8 rfl; have x9 := m0.cell_at 9 rfl; have x10 := m0.cell_at 10 rfl; clear m0; have m0 := HTp.out W hW; have y0 := m0.cell_at 0 rfl; have y1 := m0.cell_at 1 rfl; have y2 := m0.cell_at 2 rfl; clear m0; go_simp; first | done | with_reducible rfl)) ?_; simp only [Act.put, List.setIfInBounds_toArray, List.set_cons_zero, List.set_cons_succ]) | (refine mix_call _ _ _ (by rfl) (fun W hW => by (have hW := HBS.out W hW; have m0 := HTl.out W hW; have x0 := m0.cell_at 0 rfl; have x1 := m0.cell_at 1 rfl; have x2 := m0.cell_at 2 rfl; have x3 := m0.cell_at 3 rfl; have x4 := m0.cell_at 4 rfl; have x5 := m0.cell_at 5 rfl; have x6 := m0.cell_at 6 rfl; have x7 := m0.cell_at 7 rfl; have x8 := m0.cell_at 8 rfl; have x9 := m0.cell_at 9 rfl; have x10 := m0.cell_at 10 rfl; clear m0; have m0 := HTp.out W hW; have y0 := m0.cell_at 0 rfl; have y1 := m0.cell_at 1 rfl; have y2 := m0.cell_at 2 rfl; clear m0; go_simp; first | done | rfl)) (fun W hW => KI.out W (HBS.out W hW)) ?_; simp only [Act.put, List.setIfInBounds_toArray, List.set_cons_zero, List.set_cons_succ]) | (refine mix_call _ _ _ (by rfl) (fun W hW => by (have hW := HBS.out W hW; have m0 := HTl.out W hW; have x0 := m0.cell_at 0 rfl; have x1 := m0.cell_at 1 rfl; have x2 := m0.cell_at 2 rfl; have x3 := m0.cell_at 3 rfl; have x4 := m0.cell_at 4 rfl; have x5 := m0.cell_at 5 rfl; have x6 := m0.cell_at 6 rfl; have x7 := m0.cell_at 7 rfl; have x8 := m0.cell_at 8 rfl; have x9 := m0.cell_at 9 rfl; have x10 := m0.cell_at 10 rfl; clear m0; have m0 := HTp.out W hW; have y0 := m0.cell_at 0 rfl; have y1 := m0.cell_at 1 rfl; have y2 := m0.cell_at 2 rfl; clear m0; go_simp; first | done | rfl)) (fun W hW => KG1.out W (HBS.out W hW)) ?_; simp only [Act.put, List.setIfInBounds_toArray, List.set_cons_zero, List.set_cons_succ]) | (refine mix_call _ _ _ (by rfl) (fun W hW => by (have hW := HBS.out W hW; have m0 := HTl.out W hW; have x0 := m0.cell_at 0 rfl; have x1 := m0.cell_at 1 rfl; have x2 := m0.cell_at 2 rfl; have x3 := m0.cell_at 3 rfl; have x4 := m0.cell_at 4 rfl; have x5 := m0.cell_at 5 rfl; have x6 := m0.cell_at 6 rfl; have x7 := m0.cell_at 7 rfl; have x8 := m0.cell_at 8 rfl; have x9 := m0.cell_at 9 rfl; have x10 := m0.cell_at 10 rfl; clear m0; have m0 := HTp.out W hW; have y0 := m0.cell_at 0 rfl; have y1 := m0.cell_at 1 rfl; have y2 := m0.cell_at 2 rfl; clear m0; go_simp; first | done | rfl)) (fun W hW => KG2.out W (HBS.out W hW)) ?_; simp only [Act.put, List.setIfInBounds_toArray, List.set_cons_zero, List.set_cons_succ]) | (refine mix_call _ _ _ (by rfl) (fun W hW => by (have hW := HBS.out W hW; have m0 := HTl.out W hW; have x0 := m0.cell_at 0 rfl; have x1 := m0.cell_at 1 rfl; have x2 := m0.cell_at 2 rfl; have x3 := m0.cell_at 3 rfl; have x4 := m0.cell_at 4 rfl; have x5 := m0.cell_at 5 rfl; have x6 := m0.cell_at 6 rfl; have x7 := m0.cell_at 7 rfl; have x8 := m0.cell_at 8 rfl; have x9 := m0.cell_at 9 rfl; have x10 := m0.cell_at 10 rfl; clear m0; have m0 := HTp.out W hW; have y0 := m0.cell_at 0 rfl; have y1 := m0.cell_at 1 rfl; have y2 := m0.cell_at 2 rfl; clear m0; go_simp; first | done | rfl)) (fun W hW => KG3.out W (HBS.out W hW)) ?_; simp only [Act.put, List.setIfInBounds_toArray, List.set_cons_zero, List.set_cons_succ]) | (refine mix_call _ _ _ (by rfl) (fun W hW => by (have hW := HBS.out W hW; have m0 := HTl.out W hW; have x0 := m0.cell_at 0 rfl; have x1 := m0.cell_at 1 rfl; have x2 := m0.cell_at 2 rfl; have x3 := m0.cell_at 3 rfl; have x4 := m0.cell_at 4 rfl; have x5 := m0.cell_at 5 rfl; have x6 := m0.cell_at 6 rfl; have x7 := m0.cell_at 7 rfl; have x8 := m0.cell_at 8 rfl; have x9 := m0.cell_at 9 rfl; have x10 := m0.cell_at 10 rfl; clear m0; have m0 := HTp.out W hW; have y0 := m0.cell_at 0 rfl; have y1 := m0.cell_at 1 rfl; have y2 := m0.cell_at 2 rfl; clear m0; go_simp; first | done | rfl)) (fun W hW => KWB.out W (HTq.out W (HBS.out W hW))) ?_; simp only [Act.put, List.setIfInBounds_toArray, List.set_cons_zero, List.set_cons_succ]))
      refine mix_read (.slice Ap na cp) (by rfl) (fun W hW => exec_cut 30 (.tmp 79) none (some (.tmp 80)) none rfl (slice_to Ap ss.length cp na HAC.out W)) ?_
      simp only [Act.put, List.setIfInBounds_toArray, List.set_cons_zero, List.set_cons_succ]
      iterate 7 (first | (refine mix_skip (by rfl) ?_; simp only [Act.put, List.setIfInBounds_toArray, List.set_cons_zero, List.set_cons_succ]) | (refine mix_read _ (by rfl) (fun W hW => by (have hW := HBS.out W hW; have m0 := HTl.out W hW; have x0 := m0.cell_at 0 rfl; have x1 := m0.cell_at 1 rfl; have x2 := m0.cell_at 2 rfl; have x3 := m0.cell_at 3 rfl; have x4 := m0.cell_at 4 rfl; have x5 := m0.cell_at 5 rfl; have x6 := m0.cell_at 6 rfl; have x7 := m0.cell_at 7 rfl; have x8 := m0.cell_at 8 rfl; have x9 := m0.cell_at 9 rfl; have x10 := m0.cell_at 10 rfl; clear m0; have m0 := HTp.out W hW; have y0 := m0.cell_at 0 rfl; have y1 := m0.cell_at 1 rfl; have y2 := m0.cell_at 2 rfl; clear m0; go_simp; first | done | with_reducible rfl)) ?_; simp only [Act.put, List.setIfInBounds_toArray, List.set_cons_zero, List.set_cons_succ]) | (refine mix_call _ _ _ (by rfl) (fun W hW => by (have hW := HBS.out W hW; have m0 := HTl.out W hW; have x0 := m0.cell_at 0 rfl; have x1 := m0.cell_at 1 rfl; have x2 := m0.cell_at 2 rfl; have x3 := m0.cell_at 3 rfl; have x4 := m0.cell_at 4 rfl; have x5 := m0.cell_at 5 rfl; have x6 := m0.cell_at 6 rfl; have x7 := m0.cell_at 7 rfl; have x8 := m0.cell_at 8 rfl; have x9 := m0.cell_at 9 rfl; have x10 := m0.cell_at 10 rfl; clear m0; have m0 := HTp.out W hW; have y0 := m0.cell_at 0 rfl; have y1 := m0.cell_at 1 rfl; have y2 := m0.cell_at 2 rfl; clear m0; go_simp; first | done | rfl)) (fun W hW => KI.out W (HBS.out W hW)) ?_; simp only [Act.put, List.setIfInBounds_toArray, List.set_cons_zero, List.set_cons_succ]) | (refine mix_call _ _ _ (by rfl) (fun W hW => by (have hW := HBS.out W hW; have m0 := HTl.out W hW; have x0 := m0.cell_at 0 rfl; have x1 := m0.cell_at 1 rfl; have x2 := m0.cell_at 2 rfl; have x3 := m0.cell_at 3 rfl; have x4 := m0.cell_at 4 rfl; have x5 := m0.cell_at 5 rfl; have x6 := m0.cell_at 6 rfl; have x7 := m0.cell_at 7 rfl; have x8 := m0.cell_at 8 rfl; have x9 := m0.cell_at 9 rfl; have x10 := m0.cell_at 10 rfl; clear m0; have m0 := HTp.out W hW; have y0 := m0.cell_at 0 rfl; have y1 := m0.cell_at 1 rfl; have y2 := m0.cell_at 2 rfl; clear m0; go_simp; first | done | rfl)) (fun W hW => KG1.out W (HBS.out W hW)) ?_; simp only [Act.put, List.setIfInBounds_toArray, List.set_cons_zero, List.set_cons_succ]) | (refine mix_call _ _ _ (by rfl) (fun W hW => by (have hW := HBS.out W hW; have m0 := HTl.out W hW; have x0 := m0.cell_at 0 rfl; have x1 := m0.cell_at 1 rfl; have x2 := m0.cell_at 2 rfl; have x3 := m0.cell_at 3 rfl; have x4 := m0.cell_at 4 rfl; have x5 := m0.cell_at 5 rfl; have x6 := m0.cell_at 6 rfl; have x7 := m0.cell_at 7 rfl; have x8 := m0.cell_at 8 rfl; have x9 := m0.cell_at 9 rfl; have x10 := m0.cell_at 10 rfl; clear m0; have m0 := HTp.out W hW; have y0 := m0.cell_at 0 rfl; have y1 := m0.cell_at 1 rfl; have y2 := m0.cell_at 2 rfl; clear m0; go_simp; first | done | rfl)) (fun W hW => KG2.out W (HBS.out W hW)) ?_; simp only [Act.put, List.setIfInBounds_toArray, List.set_cons_zero, List.set_cons_succ]) | (refine mix_call _ _ _ (by rfl) (fun W hW => by (have hW := HBS.out W hW; have m0 := HTl.out W hW; have x0 := m0.cell_at 0 rfl; have x1 := m0.cell_at 1 rfl; have x2 := m0.cell_at 2 rfl; have x3 := m0.cell_at 3 rfl; have x4 := m0.cell_at 4 rfl; have x5 := m0.cell_at 5 rfl; have x6 := m0.cell_at 6 rfl; have x7 := m0.cell_at 7 rfl; have x8 := m0.cell_at 8 rfl; have x9 := m0.cell_at 9 rfl; have x10 := m0.cell_at 10 rfl; clear m0; have m0 := HTp.out W hW; have y0 := m0.cell_at 0 rfl; have y1 := m0.cell_at 1 rfl; have y2 := m0.cell_at 2 rfl; clear m0; go_simp; first | done | rfl)) (fun W hW => KG3.out W (HBS.out W hW)) ?_; simp only [Act.put, List.setIfInBounds_toArray, List.set_cons_zero, List.set_cons_succ]) | (refine mix_call _ _ _ (by rfl) (fun W hW => by (have hW := HBS.out W hW; have m0 := HTl.out W hW; have x0 := m0.cell_at 0 rfl; have x1 := m0.cell_at 1 rfl; have x2 := m0.cell_at 2 rfl; have x3 := m0.cell_at 3 rfl; have x4 := m0.cell_at 4 rfl; have x5 := m0.cell_at 5 rfl; have x6 := m0.cell_at 6 rfl; have x7 := m0.cell_at 7 rfl; have x8 := m0.cell_at 8 rfl; have x9 := m0.cell_at 9 rfl; have x10 := m0.cell_at 10 rfl; clear m0; have m0 := HTp.out W hW; have y0 := m0.cell_at 0 rfl; have y1 := m0.cell_at 1 rfl; have y2 := m0.cell_at 2 rfl; clear m0; go_simp; first | done | rfl)) (fun W hW => KWB.out W (HTq.out W (HBS.out W hW))) ?_; simp only [Act.put, List.setIfInBounds_toArray, List.set_cons_zero, List.set_cons_succ]))
      refine mix_read (.slice (fromA Ap cp na) (ss.length - na) (cp - na)) (by rfl) (fun W hW => exec_cut 30 (.tmp 87) (some (.tmp 88)) none none rfl (slice_from Ap ss.length cp na HAL.out W)) ?_
      simp only [Act.put, List.setIfInBounds_toArray, List.set_cons_zero, List.set_cons_succ]
      repeat (first | (refine mix_skip (by rfl) ?_; simp only [Act.put, List.setIfInBounds_toArray, List.set_cons_zero, List.set_cons_succ]) | (refine mix_read _ (by rfl) (fun W hW => by (have hW := HBS.out W hW; have m0 := HTl.out W hW; have x0 := m0.cell_at 0 rfl; have x1 := m0.cell_at 1 rfl; have x2 := m0.cell_at 2 rfl; have x3 := m0.cell_at 3 rfl; have x4 := m0.cell_at 4 rfl; have x5 := m0.cell_at 5 rfl; have x6 := m0.cell_at 6 rfl; have x7 := m0.cell_at 7 rfl; have x8 := m0.cell_at 8 rfl; have x9 := m0.cell_at 9 rfl; have x10 := m0.cell_at 10 rfl; clear m0; have m0 := HTp.out W hW; have y0 := m0.cell_at 0 rfl; have y1 := m0.cell_at 1 rfl; have y2 := m0.cell_at 2 rfl; clear m0; go_simp; first | done | with_reducible rfl)) ?_; simp only [Act.put, List.setIfInBounds_toArray, List.set_cons_zero, List.set_cons_succ]) | (refine mix_call _ _ _ (by rfl) (fun W hW => by (have hW := HBS.out W hW; have m0 := HTl.out W hW; have x0 := m0.cell_at 0 rfl; have x1 := m0.cell_at 1 rfl; have x2 := m0.cell_at 2 rfl; have x3 := m0.cell_at 3 rfl; have x4 := m0.cell_at 4 rfl; have x5 := m0.cell_at 5 rfl; have x6 := m0.cell_at 6 rfl; have x7 := m0.cell_at 7 rfl; have x8 := m0.cell_at 8 rfl; have x9 := m0.cell_at 9 rfl; have x10 := m0.cell_at 10 rfl; clear m0; have m0 := HTp.out W hW; have y0 := m0.cell_at 0 rfl; have y1 := m0.cell_at 1 rfl; have y2 := m0.cell_at 2 rfl; clear m0; go_simp; first | done | rfl)) (fun W hW => KI.out W (HBS.out W hW)) ?_; simp only [Act.put, List.setIfInBounds_toArray, List.set_cons_zero, List.set_cons_succ]) | (refine mix_call _ _ _ (by rfl) (fun W hW => by (have hW := HBS.out W hW; have m0 := HTl.out W hW; have x0 := m0.cell_at 0 rfl; have x1 := m0.cell_at 1 rfl; have x2 := m0.cell_at 2 rfl; have x3 := m0.cell_at 3 rfl; have x4 := m0.cell_at 4 rfl; have x5 := m0.cell_at 5 rfl; have x6 := m0.cell_at 6 rfl; have x7 := m0.cell_at 7 rfl; have x8 := m0.cell_at 8 rfl; have x9 := m0.cell_at 9 rfl; have x10 := m0.cell_at 10 rfl; clear m0; have m0 := HTp.out W hW; have y0 := m0.cell_at 0 rfl; have y1 := m0.cell_at 1 rfl; have y2 := m0.cell_at 2 rfl; clear m0; go_simp; first | done | rfl)) (fun W hW => KG1.out W (HBS.out W hW)) ?_; simp only [Act.put, List.setIfInBounds_toArray, List.set_cons_zero, List.set_cons_succ]) | (refine mix_call _ _ _ (by rfl) (fun W hW => by (have hW := HBS.out W hW; have m0 := HTl.out W hW; have x0 := m0.cell_at 0 rfl; have x1 := m0.cell_at 1 rfl; have x2 := m0.cell_at 2 rfl; have x3 := m0.cell_at 3 rfl; have x4 := m0.cell_at 4 rfl; have x5 := m0.cell_at 5 rfl; have x6 := m0.cell_at 6 rfl; have x7 := m0.cell_at 7 rfl; have x8 := m0.cell_at 8 rfl; have x9 := m0.cell_at 9 rfl; have x10 := m0.cell_at 10 rfl; clear m0; have m0 := HTp.out W hW; have y0 := m0.cell_at 0 rfl; have y1 := m0.cell_at 1 rfl; have y2 := m0.cell_at 2 rfl; clear m0; go_simp; first | done | rfl)) (fun W hW => KG2.out W (HBS.out W hW)) ?_; simp only [Act.put, List.setIfInBounds_toArray, List.set_cons_zero, List.set_cons_succ]) | (refine mix_call _ _ _ (by rfl) (fun W hW => by (have hW := HBS.out W hW; have m0 := HTl.out W hW; have x0 := m0.cell_at 0 rfl; have x1 := m0.cell_at 1 rfl; have x2 := m0.cell_at 2 rfl; have x3 := m0.cell_at 3 rfl; have x4 := m0.cell_at 4 rfl; have x5 := m0.cell_at 5 rfl; have x6 := m0.cell_at 6 rfl; have x7 := m0.cell_at 7 rfl; have x8 := m0.cell_at 8 rfl; have x9 := m0.cell_at 9 rfl; have x10 := m0.cell_at 10 rfl; clear m0; have m0 := HTp.out W hW; have y0 := m0.cell_at 0 rfl; have y1 := m0.cell_at 1 rfl; have y2 := m0.cell_at 2 rfl; clear m0; go_simp; first | done | rfl)) (fun W hW => KG3.out W (HBS.out W hW)) ?_; simp only [Act.put, List.setIfInBounds_toArray, List.set_cons_zero, List.set_cons_succ]) | (refine mix_call _ _ _ (by rfl) (fun W hW => by (have hW := HBS.out W hW; have m0 := HTl.out W hW; have x0 := m0.cell_at 0 rfl; have x1 := m0.cell_at 1 rfl; have x2 := m0.cell_at 2 rfl; have x3 := m0.cell_at 3 rfl; have x4 := m0.cell_at 4 rfl; have x5 := m0.cell_at 5 rfl; have x6 := m0.cell_at 6 rfl; have x7 := m0.cell_at 7 rfl; have x8 := m0.cell_at 8 rfl; have x9 := m0.cell_at 9 rfl; have x10 := m0.cell_at 10 rfl; clear m0; have m0 := HTp.out W hW; have y0 := m0.cell_at 0 rfl; have y1 := m0.cell_at 1 rfl; have y2 := m0.cell_at 2 rfl; clear m0; go_simp; first | done | rfl)) (fun W hW => KWB.out W (HTq.out W (HBS.out W hW))) ?_; simp only [Act.put, List.setIfInBounds_toArray, List.set_cons_zero, List.set_cons_succ]))
      refine mix_nil (fun W hW => ?_)
      have hf := HQb.out _ (HTq.out _ (HBS.out W hW))
      clear hW HBS
      go_wp2_with fail
      go_ret
      exact ⟨rfl, hf⟩

end Go.Proofs.YtlfpkileblmhoaaGreatDoor
