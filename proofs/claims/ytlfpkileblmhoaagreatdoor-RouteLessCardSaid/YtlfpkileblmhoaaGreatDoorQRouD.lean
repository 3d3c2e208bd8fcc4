/- Package route: twice; slices.Grow, slices.Concat of steps. -/
import Derived.Test.YtlfpkileblmhoaaGreatDoorQRouC
namespace Go.Proofs.YtlfpkileblmhoaaGreatDoor
open Go.RowKit Go.Shelf
set_option linter.unusedVariables false
set_option linter.unusedSimpArgs false

section
variable {P : World → Prop} {w : World}
set_option maxRecDepth 100000 in
set_option maxHeartbeats 8000000 in
theorem twice1_P (hP : Closed P) (a x : Int × Int × Int) (g : Nat) (hg : ∀ w, P w → Whole w g 50 (stpCells x)) {r : Bool} (hr : (a.1 == x.1) = r) (h : P w) : Calls Tryz.prog 70 #[stpV a.1 a.2.1 a.2.2, .pointer (some ⟨g, 0, none⟩)] w fun e w' => e = .returned (.bool r) ∧ P w' := by
  obtain ⟨Q, HQ, HQp, HQv, hw⟩ := keep_box hP h 50 (stpCells a)
  have x0 := (hg _ (HQp.out _ hw)).cell_at 0 rfl
  have m0 := HQv.out _ hw
  have v0 := m0.cell_at 0 rfl
  have v1 := m0.cell_at 1 rfl
  have v2 := m0.cell_at 2 rfl
  clear m0
  have HR := Lib.hid hr
  clear hg hP h hr
  go_enter Tryz.func70, Tryz.ntmps70
  go_wp2_with fail
  go_ret
  exact ⟨ret_bool HR.out, HQp.out _ hw⟩

set_option maxRecDepth 100000 in
set_option maxHeartbeats 8000000 in
theorem indexStp_P {l : List (Int × Int × Int)} {A : Option Addr} (c : Nat) (hR : ∀ w, P w → Row w w.heap.size A (l.flatMap stpCells)) (hn : (l.length : Int) ≤ 9223372036854775807) (p0 : Value) {pr : Int × Int × Int → Bool} {r : Int}
    (hf : ∀ x w, P w → Calls Tryz.prog 70 #[stpV x.1 x.2.1 x.2.2, p0] w fun e w' => e = .returned (.bool (pr x)) ∧ P w') (hr : idxV pr l = r) (h : P w) :
    Calls Tryz.prog 114 #[.slice A l.length c, .func (.func 70) #[] #[p0]] w fun e w' => e = .returned (.int .i64 r) ∧ P w' := by
  have HF := Lib.hid hf
  have HR := Lib.hid hr
  clear hf hr
  go_enter Tryz.func114, Tryz.ntmps114
  go_wp2_with fail
  go_loopw [8] (fun i wr => ∃ j : Nat, j ≤ l.length ∧ i = .int .i64 j ∧ P wr ∧ Hid (NoneUp pr l j))
    (fun i _ => l.length - (intOf i).toNat)
  case atStart => exact ⟨0, by omega, rfl, h, Lib.hid (NoneUp.zero _ _)⟩
  case round =>
    obtain ⟨j, hj, rfl, hp, HNo⟩ := hrel
    by_cases hlt : j < l.length
    · have hlt' : (j : Int) < l.length := by omega
      obtain ⟨x, hx⟩ : ∃ x, l[j]? = some x := ⟨_, List.getElem?_eq_getElem hlt⟩
      have HX := Lib.hid hx
      clear hx
      obtain ⟨b, off, hA, _, hc0, hc⟩ := (hR _ hp).nth (n := 3) (fun _ => rfl) (by omega) HX.out
      subst hA
      have c0 := hc0 j x _ HX.out rfl
      have c1 := hc j x 1 _ HX.out rfl
      have c2 := hc j x 2 _ HX.out rfl
      clear hc0 hc
      go_wp2_with fail
      refine (HF.out x _ hp).mono ?_
      clear hp c0 c1 c2
      cases hpr : pr x
      · have HN := Lib.hid (HNo.out.succ HX.out hpr)
        clear hpr
        rintro e w1 ⟨rfl, hp⟩
        go_wp2_with fail
        go_roundw
        case rel => exact ⟨j + 1, hlt, by go_num, hp, HN⟩
        case measure => simp [intOf]; omega
      · have HI := Lib.hid (HNo.out.idx HX.out hpr)
        clear hpr
        rintro e w1 ⟨rfl, hp⟩
        go_wp2_with fail
        go_ret
        exact ⟨ret_int (by rw [← HR.out, HI.out]), hp⟩
    · obtain rfl : j = l.length := by omega
      have HI := Lib.hid HNo.out.idx_no
      go_wp2_with fail
      go_ret
      exact ⟨ret_int (by rw [← HR.out, HI.out]), hp⟩

set_option maxRecDepth 100000 in
set_option maxHeartbeats 8000000 in
theorem containsStp_P {l : List (Int × Int × Int)} {A : Option Addr} (c : Nat) (hR : ∀ w, P w → Row w w.heap.size A (l.flatMap stpCells)) (hn : (l.length : Int) ≤ 9223372036854775807) (p0 : Value) {pr : Int × Int × Int → Bool} (hf : ∀ x w, P w → Calls Tryz.prog 70 #[stpV x.1 x.2.1 x.2.2, p0] w fun e w' => e = .returned (.bool (pr x)) ∧ P w') {r : Bool} (hr : l.any pr = r) (h : P w) :
    Calls Tryz.prog 69 #[.slice A l.length c, .func (.func 70) #[] #[p0]] w fun e w' => e = .returned (.bool r) ∧ P w' := by
  obtain ⟨i, hi⟩ : ∃ i, idxV pr l = i := ⟨_, rfl⟩
  have HE : Hid (decide (0 ≤ i) = r) := Lib.hid (by rw [← hi, idxV_any, hr])
  have K := Lib.hid (indexStp_P (P := P) (w := w) c hR hn p0 hf hi h)
  clear hr hi hf hR h
  go_enter Tryz.func69, Tryz.ntmps69
  go_wp2_with fail
  refine K.out.mono ?_
  clear K
  rintro e w1 ⟨rfl, h⟩
  go_wp2_with fail
  go_ret
  exact ⟨ret_bool HE.out, h⟩

end
set_option maxRecDepth 100000 in
set_option maxHeartbeats 8000000 in
theorem twice_any {ss : List (Int × Int × Int)} {A : Option Addr} {c : Nat} {w : World} (hR : Row w w.heap.size A (ss.flatMap stpCells)) (hn : (ss.length : Int) ≤ 9223372036854775807) (hcap : ss.length ≤ c) {r : Bool} (hr : twiceB ss = r) :
    Calls Tryz.prog 51 #[.slice A ss.length c] w fun e w' => e = .returned (.bool r) ∧ Below w.heap.size w w' := by
  have HR := Lib.hid hr
  clear hr
  go_enter Tryz.func51, Tryz.ntmps51
  go_wp2_with fail
  go_loopw [7] (fun i wr => ∃ j : Nat, j ≤ ss.length ∧ i = .int .i64 j ∧ Below w.heap.size w wr ∧ Hid (NoneUp (dupAt ss) (List.range ss.length) j))
    (fun i _ => ss.length - (intOf i).toNat)
  case atStart => exact ⟨0, by omega, rfl, Below.refl _ _, Lib.hid (NoneUp.zero _ _)⟩
  case round =>
    obtain ⟨j, hj, rfl, hB, HNo⟩ := hrel
    by_cases hlt : j < ss.length
    · have hlt' : (j : Int) < ss.length := by omega
      obtain ⟨⟨x1, x2, x3⟩, hx⟩ : ∃ x, ss[j]? = some x := ⟨_, List.getElem?_eq_getElem hlt⟩
      have HX := Lib.hid hx
      obtain ⟨W1, hW1⟩ : ∃ W1, wr.alloc (.cells #[.int .i64 x1, .int .i64 x2, .int .i64 x3] 50) = W1 := ⟨_, rfl⟩
      have hB1 : Below wr.heap.size wr W1 := by rw [← hW1]; exact below1 _ _
      have hb1 : Whole W1 wr.heap.size 50 (stpCells (x1, x2, x3)) := by rw [← hW1]; exact Whole.new _ _ (stpCells (x1, x2, x3))
      have hRow1 : Row W1 W1.heap.size A ((ss.take j).flatMap stpCells) := row_to ((hR.on hB).on hB1) j
      have hlj : (ss.take j).length = j := by rw [List.length_take]; omega
      obtain ⟨d, hd⟩ : ∃ d, (ss.take j).any (fun a => a.1 == x1) = d := ⟨_, rfl⟩
      have HD : Hid (dupAt ss j = d) := Lib.hid (by rw [dupAt_at hx]; exact hd)
      have K := containsStp_P (P := fun W => Below W1.heap.size W1 W) (w := W1) c (fun W hW => hRow1.on hW) (by rw [hlj]; omega) (.pointer (some ⟨wr.heap.size, 0, none⟩)) (pr := fun a => a.1 == x1) (fun x W hW => twice1_P (P := fun W => Below W1.heap.size W1 W) (Closed.below W1) x (x1, x2, x3) _ (fun W hW => hb1.below hW hb1.lt) rfl hW) hd (Below.refl _ _)
      rw [hlj] at K
      have HK := Lib.hid K
      have HB := Lib.hid (And.intro hB hB1)
      have hrun := slice_to A ss.length c j (by omega) W1
      obtain ⟨b, off, rfl, _, hc0, hc⟩ := (hR.on hB).nth (n := 3) (fun _ => rfl) (by omega) hx
      have c0 := hc0 j _ _ hx rfl
      have c1 := hc j _ 1 _ hx rfl
      have c2 := hc j _ 2 _ hx rfl
      clear hc0 hc hx hB hB1 hb1 hRow1 hlj hd K
      go_upto_region 4 with (fail)
      try rw [hW1]
      clear c0 c1 c2
      go_wp2_with (refine list_slice rfl 30 (.tmp 12) none (some (.tmp 13)) none rfl hrun ?_)
      refine HK.out.mono ?_
      clear HK hrun
      rintro e w2 ⟨rfl, hB2⟩
      have HB2 := Lib.hid (HB.out.1.trans ((HB.out.2.trans (hB2.mono HB.out.2.size)).mono HB.out.1.size))
      cases d
      · have HN := Lib.hid (HNo.out.succ (List.getElem?_range hlt) HD.out)
        go_wp2_with fail
        go_roundw
        case rel => exact ⟨j + 1, hlt, by go_num, HB2.out, HN⟩
        case measure => simp [intOf]; omega
      · have HF : Hid (true = r) := Lib.hid (by rw [← HR.out]; exact (any_hit (List.getElem?_range hlt) HD.out).symm)
        go_wp2_with fail
        go_ret
        exact ⟨ret_bool HF.out, HB2.out⟩
    · obtain rfl : j = ss.length := by omega
      have HF : Hid (false = r) := Lib.hid (by rw [← HR.out]; have := HNo.out; rw [← List.length_range (n := ss.length)] at this; exact (NoneUp.any (by simpa using this)).symm)
      go_wp2_with fail
      go_ret
      exact ⟨ret_bool HF.out, hB⟩

set_option maxRecDepth 100000 in
set_option maxHeartbeats 8000000 in
theorem grow_any {n : Nat} (h0 : 0 < n) (hn : n ≤ 1000) (w : World) : Calls Tryz.prog 71 #[.slice none 0 0, .int .i64 (n : Int)] w fun e w' => ∃ g c, e = .returned (.slice (some ⟨g, 0, none⟩) 0 c) ∧ w'.ownsRow w.heap.size 50 3 (.slice (some ⟨g, 0, none⟩) 0 c) 0 [] ∧ Below w.heap.size w w' := by
  obtain ⟨i, i1, i2, i3, i4⟩ := info_parts infoStep
  have hrun := Lib.run_append_nil_zeros (P := Tryz.prog) w 30 3 30 50 i _ .i64 .i64 Tryz.underlying30 (by kernel_rfl) i1 i2 n h0 (by rw [i3]; omega) (by omega) (by rw [i4]; omega)
  have hge := grownCap_ge w n 0 50
  have hle := grownCap_le_maxLen w n 0 50 (by unfold maxLen; omega)
  generalize grownCap w n 0 50 = cp at hrun hge hle
  obtain ⟨W1, hW1⟩ : ∃ W1, (w.drew.alloc (.cells (Builtin.zeroCells (Value.agg #[.int .i64 0, .int .i64 0, .int .i64 0]).cells n ++ Builtin.zeroCells (Value.agg #[.int .i64 0, .int .i64 0, .int .i64 0]).cells (cp - n)) 50)) = W1 := ⟨_, rfl⟩
  have hB : Below w.heap.size w W1 := by rw [← hW1]; exact (Below.refl w.heap.size w).drew.trans (below1 w.drew _)
  have hO : W1.ownsRow w.heap.size 50 3 (.slice (some ⟨w.heap.size, 0, none⟩) 0 cp) 0 [] := ⟨rfl, .inr ⟨w.heap.size, cp, _, rfl, Nat.le_refl _, by rw [← hW1]; exact World.alloc_heap_new w.drew _, by omega, hle, by
    rw [Array.size_append, size_zeroCells, size_zeroCells]
    show n * 3 + (cp - n) * 3 = cp * 3
    omega, by simp⟩⟩
  rw [hW1] at hrun
  have hw0 : IntKind.i64.wrap (n : Int) = n := IntWalk.i64_in _ (by omega)
  have hw1 : wrap64 (n : Int) = n := by unfold wrap64; omega
  have hpos : (0 : Int) < (n : Int) := by omega
  have HB := Lib.hid hB
  have HO := Lib.hid hO
  clear hB hO hW1
  go_enter Tryz.func71, Tryz.ntmps71
  go_wp2_with (at_builtin; refine Lib.wpList_append_run _ rfl (.tmp 20) (.tmp 21) 30 3 rfl _ _ rfl rfl _ _ hrun ?_)
  go_ret
  exact ⟨_, _, rfl, HO.out, HB.out⟩

set_option maxRecDepth 100000 in
set_option maxHeartbeats 8000000 in
theorem concat_any {us vs : List (Int × Int × Int)} {A Bv : Option Addr} {ca cb g : Nat} {w : World} (hA : Row w w.heap.size A (us.flatMap stpCells)) (hB : Row w w.heap.size Bv (vs.flatMap stpCells)) (hg : Whole w g 30 [.slice A us.length ca, .slice Bv vs.length cb]) (h0 : 0 < us.length + vs.length) (hn : us.length + vs.length ≤ 1000) :
    Calls Tryz.prog 52 #[.slice (some ⟨g, 0, none⟩) 2 2] w fun e w' => ∃ A' c', e = .returned (.slice A' (us ++ vs).length c') ∧ Row w' w'.heap.size A' ((us ++ vs).flatMap stpCells) ∧ (us ++ vs).length ≤ c' ∧ Below w.heap.size w w' := by
  obtain ⟨na, hna⟩ : ∃ n, us.length = n := ⟨_, rfl⟩
  obtain ⟨nb, hnb⟩ : ∃ n, vs.length = n := ⟨_, rfl⟩
  have HNA := Lib.hid hna
  have HNB := Lib.hid hnb
  obtain ⟨n, hnn⟩ : ∃ n, na + nb = n := ⟨_, rfl⟩
  have HNN := Lib.hid hnn
  have KG := Lib.hid (grow_any (n := n) (by omega) (by omega) w)
  have HRA := Lib.hid (fun W (h : Below w.heap.size w W) => hA.on h)
  have HRB := Lib.hid (fun W (h : Below w.heap.size w W) => hB.on h)
  have HG := Lib.hid (fun W (h : Below w.heap.size w W) => hg.below h hg.lt)
  have hw1 : IntKind.i64.wrap (na : Int) = na := IntWalk.i64_in _ (by omega)
  have hw2 : IntKind.i64.wrap ((na : Int) + nb) = (n : Int) := by rw [IntWalk.i64_in _ (by omega)]; omega
  have x0 := hg.cell_at 0 rfl
  have x1 := hg.cell_at 1 rfl
  rw [hna] at x0
  rw [hnb] at x1
  have HLE := Lib.hid (And.intro h0 hn)
  rw [hna, hnb, hnn] at h0 hn
  have HB0 : Hid (Below w.heap.size w w) := Lib.hid (Below.refl _ _)
  clear hA hB hg hna hnb hnn
  go_enter Tryz.func52, Tryz.ntmps52
  go_wp2_with fail
  go_loopw [3, 11] (fun s i wr => ∃ j : Nat, j ≤ 2 ∧ i = .int .i64 j ∧ s = .int .i64 ((match j with | 0 => 0 | 1 => na | _ => n : Nat) : Int) ∧ wr = w)
    (fun _ i _ => 2 - (intOf i).toNat)
  case atStart => exact ⟨0, by omega, rfl, rfl, rfl⟩
  case round =>
    obtain ⟨j, hj, rfl, rfl, rfl⟩ := hrel
    match j, hj with
    | 0, _ =>
      go_wp2_with fail
      go_roundw
      case rel => exact ⟨1, by omega, rfl, by simp [hw1], by trivial⟩
      case measure => simp [intOf]
    | 1, _ =>
      go_wp2_with fail
      go_roundw
      case rel => exact ⟨2, by omega, rfl, by simp [hw2], by trivial⟩
      case measure => simp [intOf]
    | 2, _ =>
      go_wp2_with fail
      obtain ⟨w, rfl⟩ : ∃ W, W = wr := ⟨wr, rfl⟩
      refine KG.out.mono ?_
      clear KG x0 x1
      rintro e w1 ⟨g1, c1, rfl, hown1, hB1⟩
      have HO1 := Lib.hid hown1
      have HB1 := Lib.hid hB1
      clear hown1 hB1
      go_wp2_with fail
      go_loopw [6, 27] (fun v i W => ∃ j : Nat, j ≤ 2 ∧ i = .int .i64 j ∧ ∃ A' c', v = .slice A' (match j with | 0 => 0 | 1 => na | _ => n) c' ∧
          Hid ((j = 0 → A' ≠ none) ∧ W.ownsRow w.heap.size 50 3 (.slice A' (match j with | 0 => 0 | 1 => na | _ => n) c') (match j with | 0 => 0 | 1 => na | _ => n) (match j with | 0 => [] | 1 => us.flatMap stpCells | _ => (us ++ vs).flatMap stpCells) ∧ Below w.heap.size w W))
        (fun _ i _ => 2 - (intOf i).toNat)
      case atStart => exact ⟨0, by omega, rfl, _, c1, rfl, Lib.hid ⟨fun _ => by simp, HO1.out, HB1.out⟩⟩
      case round =>
        clear HO1 HB1
        obtain ⟨j, hj, rfl, A', c', rfl, HI⟩ := hrel
        match j, hj with
        | 0, _ =>
          obtain ⟨hne, hO, hB⟩ := HI.out
          obtain ⟨v', W2, hrun, hO2, hg2⟩ := appendG (P := Tryz.prog) (f := stpCells) (size := 3) (fun _ => rfl) oneStep 30 50 (.agg #[.int .i64 0, .int .i64 0, .int .i64 0]) 24 Tryz.underlying30 infoStep rfl (by omega) (by omega) w.heap.size 0 _ [] us A ca wr.heap.size wr hO (.inl (by have := hne rfl; intro e; injection e with e1; exact this e1)) (HRA.out wr hB) (by omega) (by have := HLE.out; omega) hB.size
          have x0 := (HG.out wr hB).cell_at 0 rfl
          rw [HNA.out] at hrun hO2 x0
          rw [Nat.zero_add, List.nil_append] at hO2
          obtain ⟨A2, c2, rfl, _⟩ := owns_read hO2
          have hB2 := hB.grown hg2 hB.size (fun k e => (hO.lt k e).1)
          have HJ := Lib.hid (And.intro hO2 hB2)
          clear hne hO hB hO2 hg2 hB2 HI
          go_wp2_with (at_builtin; refine list_append rfl (.tmp 31) (.tmp 32) 30 rfl hrun ?_)
          go_roundw
          case rel => exact ⟨1, by omega, rfl, A2, c2, rfl, Lib.hid ⟨(fun e => by cases e), HJ.out.1, HJ.out.2⟩⟩
          case measure => simp [intOf]
        | 1, _ =>
          obtain ⟨hne, hO, hB⟩ := HI.out
          have hv : (Value.slice A' na c') ≠ .slice none 0 0 ∨ Bv ≠ none := by
            cases Bv with
            | some b => exact .inr (by simp)
            | none =>
              have hz := flat_none (f := stpCells) (size := 3) (fun _ => rfl) (by omega) (HRB.out wr hB)
              refine .inl (fun e => ?_)
              injection e with _ e2
              have h1 := HNA.out
              have h2 := HLE.out
              rw [hz] at h2
              simp at h2
              omega
          obtain ⟨v', W2, hrun, hO2, hg2⟩ := appendG (P := Tryz.prog) (f := stpCells) (size := 3) (fun _ => rfl) oneStep 30 50 (.agg #[.int .i64 0, .int .i64 0, .int .i64 0]) 24 Tryz.underlying30 infoStep rfl (by omega) (by omega) w.heap.size na _ (us.flatMap stpCells) vs Bv cb wr.heap.size wr hO hv (HRB.out wr hB) (by have := HLE.out; have := HNA.out; omega) (by have := HLE.out; omega) hB.size
          have x1 := (HG.out wr hB).cell_at 1 rfl
          rw [HNB.out] at hrun hO2 x1
          rw [HNN.out, ← List.flatMap_append] at hO2
          obtain ⟨A2, c2, rfl, _⟩ := owns_read hO2
          have hB2 := hB.grown hg2 hB.size (fun k e => (hO.lt k e).1)
          have HJ := Lib.hid (And.intro hO2 hB2)
          clear hne hO hB hO2 hg2 hB2 HI hv
          go_wp2_with (at_builtin; refine list_append rfl (.tmp 31) (.tmp 32) 30 rfl hrun ?_)
          go_roundw
          case rel => exact ⟨2, by omega, rfl, A2, c2, rfl, Lib.hid ⟨(fun e => by cases e), HJ.out.1, HJ.out.2⟩⟩
          case measure => simp [intOf]
        | 2, _ =>
          have HN2 : Hid (us.length + vs.length = n) := Lib.hid (by rw [HNA.out, HNB.out, HNN.out])
          go_wp2_with fail
          go_ret
          obtain ⟨_, hO, hB⟩ := HI.out
          have hO' : wr.ownsRow w.heap.size 50 3 (.slice A' n c') n ((us ++ vs).flatMap stpCells) := hO
          have hc : n ≤ c' := by
            rcases hO'.2 with ⟨_, e⟩ | ⟨g, cap, cur, e, _, _, h5, _⟩
            · rw [e]; omega
            · injection e with _ _ e3
              rw [e3]
              exact h5
          have hrow := owns_row2 hO'
          refine ⟨A', c', by rw [HN2.out]; rfl, by simpa using hrow, by rw [HN2.out]; exact hc, hB⟩
end Go.Proofs.YtlfpkileblmhoaaGreatDoor
