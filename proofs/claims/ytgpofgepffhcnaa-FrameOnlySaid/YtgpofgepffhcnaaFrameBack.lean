/- What is put is taken; with a burst of up to 16 bits it is not. -/
import Derived.Test.YtgpofgepffhcnaaFrameTells
import Derived.Test.YtgpofgepffhcnaaCrcBits
namespace Go.Proofs.Ytgpofgepffhcnaa
open Go.RowKit Go.Shelf
set_option linter.unusedVariables false

/-- The place of the burst. -/
theorem spot5 (N : Int) (l : Nat) (h1 : l ≤ 300) : ∃ p : Nat, p + 16 ≤ 8 * (l + 5) ∧ (wrap64 (N.tmod (8 * ((l : Int) + 5) - 15) + (8 * ((l : Int) + 5) - 15))).tmod (8 * ((l : Int) + 5) - 15) = (p : Int) := by
  have a1 := Int.tmod_lt_of_pos N (b := 8 * ((l : Int) + 5) - 15) (by omega)
  have a2 : -(8 * ((l : Int) + 5) - 15) < N.tmod (8 * ((l : Int) + 5) - 15) := Int.lt_tmod_of_pos N (by omega)
  generalize hM : 8 * ((l : Int) + 5) - 15 = M at a1 a2 ⊢
  generalize N.tmod M = m at a1 a2
  have e1 : wrap64 (m + M) = m + M := by unfold wrap64; omega
  rw [e1, Int.tmod_eq_emod_of_nonneg (by omega)]
  have b1 := Int.emod_nonneg (m + M) (b := M) (by omega)
  have b2 := Int.emod_lt_of_pos (m + M) (b := M) (by omega)
  exact ⟨((m + M) % M).toNat, by omega, by omega⟩
theorem num_zero (s : BitVec 16) (h : s ≠ 0#16) : (numS s == 0) = false := by
  rw [show (0 : Int) = numS 0#16 from rfl, u16_beq]; simp [h]
theorem pow_small5 (r : Nat) (h : r < 8) : (2 : Int) ^ r % 256 = 2 ^ r := by
  have := (pow_byte r h).1
  unfold IsByte at this; omega

theorem burst_none (c : List Int) (p : Nat) : ∀ i, burstB c p 0#16 i = c
  | 0 => rfl
  | i + 1 => by
    rw [burstB, if_neg (by simp)]
    exact burst_none c p i
theorem openE_closed (l : List Int) : openE (closeB l) = 0 := by
  unfold openE; rw [if_neg (by rw [closeB_length]; omega), if_pos (closeB_end l)]
theorem openL_closed (l : List Int) : openL (closeB l) = l := openL_good l _ _ (openE_closed l)
theorem closed_five (k q : Int) (zs : List Int) : 5 ≤ (closeB (bytesF k q zs)).length := by rw [closeB_length, bytesF_length]; omega
theorem takeE_put {k q : Int} {zs : List Int} (h : rightF k zs.length = true) : takeE (closeB (bytesF k q zs)) = 0 :=
  takeE_fine (openE_closed _) (closed_five k q zs) (openL_closed _) h rfl
theorem takeK_put {k q : Int} {zs : List Int} (h : rightF k zs.length = true) : takeK (closeB (bytesF k q zs)) = k := by
  unfold takeK; rw [if_pos (takeE_put h), openL_closed]; rfl
theorem takeQ_put {k q : Int} {zs : List Int} (h : rightF k zs.length = true) : takeQ (closeB (bytesF k q zs)) = q := by
  unfold takeQ; rw [if_pos (takeE_put h), openL_closed]; rfl
theorem takeL_put {k q : Int} {zs : List Int} (h : rightF k zs.length = true) : takeL (closeB (bytesF k q zs)) = zs := by
  unfold takeL; rw [if_pos (takeE_put h), openL_closed]; rfl

theorem take_n (A : Option Addr) (cap n : Nat) (bs : List Int) (w : World) (hn : n = bs.length) (hr : Row w w.heap.size A (u8s bs)) (hz : ∀ z ∈ bs, IsByte z) (hzl : bs.length ≤ 549755813888) (hcap : n ≤ cap) :
    Calls Try.prog 11 #[.slice A n cap] w (TakeGives w bs) := by subst hn; exact take_any A cap bs w hr hz hzl hcap
/-- What was put is taken. -/
theorem take_put (k q : Int) (A : Option Addr) (cap n : Nat) (zs : List Int) (w : World) (hn : n = zs.length + 5) (hk : IsByte k) (hq : IsByte q) (hz : ∀ z ∈ zs, IsByte z) (h : rightF k zs.length = true) (hr : Row w w.heap.size A (u8s (closeB (bytesF k q zs)))) (hcap : n ≤ cap) :
    Calls Try.prog 11 #[.slice A n cap] w fun e w' => ∃ A' c', e = .returned (.tuple #[.agg #[.int .u8 k, .int .u8 q, .slice A' zs.length c'], .int .i64 0]) ∧ Row w' w'.heap.size A' (u8s zs) ∧ Below w.heap.size w w' := by
  have hl := rightF_le h
  refine (take_n A cap n (closeB (bytesF k q zs)) w (by rw [hn, closeB_length, bytesF_length]) hr (closeB_byte (bytesF_byte hk hq hl hz)) (by rw [closeB_length, bytesF_length]; omega) hcap).mono ?_
  rintro e w' ⟨A', c', rfl, hr', hB⟩
  rw [takeL_put h] at hr'
  refine ⟨A', c', ?_, hr', hB⟩
  rw [takeE_put h, takeK_put h, takeQ_put h, takeL_put h]

set_option maxRecDepth 100000 in
set_option maxHeartbeats 8000000 in
theorem back_no (k q : Int) (A : Option Addr) (cap : Nat) (zs : List Int) (N : Int) (by_ : BitVec 16) (w : World) (hk : IsByte k) (hl : zs.length ≤ maxLen) (hbad : 300 < zs.length ∨ rightF k zs.length = false) :
    Calls Try.prog 4 #[frV k q A zs.length cap, .int .i64 N, .int .u16 (numS by_)] w fun e w' => e = .returned (.bool true) ∧ Below w.heap.size w w' := by
  have HM := Lib.hid hl
  unfold maxLen at hl
  by_cases h1 : 300 < zs.length
  · have c1 : (300 : Int) < (zs.length : Int) := by omega
    clear hbad h1
    go_enter Try.func4, Try.ntmps4
    go_wp2_with fail
    refine (wakes_any _).mono ?_
    rintro e w' ⟨rfl, hB⟩
    go_wp2_with fail
    go_ret
    exact ⟨rfl, on1 hB⟩
  have c1 : ¬ (300 : Int) < (zs.length : Int) := by omega
  have hr : rightF k zs.length = false := by rcases hbad with h | h; exact absurd h h1; exact h
  have HR := Lib.hid hr
  have HK0 := Lib.hid hk.1
  have HK1 := Lib.hid hk.2
  have HK := Lib.hid hk
  clear hbad h1 hr hk
  go_enter Try.func4, Try.ntmps4
  go_wp2_with fail
  refine (put_no k q A cap zs.length _ HK.out HM.out HR.out).mono ?_
  rintro e w1 ⟨rfl, hB⟩
  have hF := (Whole.new w 24 [.int .u8 k, .int .u8 q, .slice A zs.length cap]).below hB (by simp)
  have S1 := on1 hB
  clear hB
  have a0 := hF.cell_at 0 rfl
  have a1 := hF.cell_at 1 rfl
  have a2 := hF.cell_at 2 rfl
  go_wp2_with fail
  refine (rightR_no k q A zs.length cap _ HK0.out HK1.out HM.out HR.out).mono ?_
  rintro e w2 ⟨rfl, hB⟩
  have S2 := S1.trans (hB.mono S1.size)
  go_wp2_with fail
  refine (wakes_any _).mono ?_
  rintro e w' ⟨rfl, hB⟩
  go_wp2_with fail
  go_ret
  exact ⟨rfl, S2.trans (hB.mono S2.size)⟩

set_option maxRecDepth 100000 in
set_option maxHeartbeats 8000000 in
theorem back_walk (k q : Int) (A : Option Addr) (cap : Nat) (zs : List Int) (N : Int) (by_ : BitVec 16) (w : World) (hk : IsByte k) (hq : IsByte q) (hr : Row w w.heap.size A (u8s zs)) (hb : ∀ z ∈ zs, IsByte z) (h : rightF k zs.length = true) (hN0 : -9223372036854775808 ≤ N) (hN1 : N ≤ 9223372036854775807) :
    Calls Try.prog 4 #[frV k q A zs.length cap, .int .i64 N, .int .u16 (numS by_)] w fun e w' => e = .returned (.bool true) ∧ Below w.heap.size w w' := by
  have hl := rightF_le h
  have c1 : ¬ (300 : Int) < (zs.length : Int) := by omega
  obtain ⟨p, hp, hpe⟩ := spot5 N zs.length (by omega)
  have HM := Lib.hid (show zs.length ≤ maxLen by unfold maxLen; omega)
  have HR := Lib.hid h
  have HK0 := Lib.hid hk.1
  have HK1 := Lib.hid hk.2
  have HK := Lib.hid hk
  have HQ := Lib.hid hq
  have HSZ := Lib.hid (sizeF_yes h)
  have HCB := Lib.hid (closeB_byte (bytesF_byte hk hq hl hb))
  have HLEN := Lib.hid (show (closeB (bytesF k q zs)).length = zs.length + 5 by rw [closeB_length, bytesF_length])
  have HP := Lib.hid hpe
  clear h hk hq hpe
  go_enter Try.func4, Try.ntmps4
  go_wp2_with fail
  refine (put_yes k q A cap zs _ (by exact hr.on (below1 _ _)) hb HK.out HQ.out HR.out).mono ?_
  rintro e w1 ⟨Ab, cb, rfl, RB, CB, hB⟩
  have hF := (Whole.new w 24 [.int .u8 k, .int .u8 q, .slice A zs.length cap]).below hB (by simp)
  have S1 := on1 hB
  have RF := hr.on S1
  clear hB
  have a0 := hF.cell_at 0 rfl
  have a1 := hF.cell_at 1 rfl
  have a2 := hF.cell_at 2 rfl
  go_wp2_with fail
  refine (rightR_yes k q A zs.length cap _ HK0.out HK1.out HM.out HR.out).mono ?_
  rintro e w2 ⟨rfl, hB⟩
  have hF := hF.below hB hF.lt
  have RF := RF.on hB
  have RB := RB.on hB
  have S2 := S1.trans (hB.mono S1.size)
  clear hB S1 a0 a1 a2
  go_wp2_with fail
  refine (take_put k q Ab cb _ zs _ rfl HK.out HQ.out hb HR.out RB CB).mono ?_
  rintro e w3 ⟨Ag, cg, rfl, RG, hB⟩
  have hF := hF.below hB hF.lt
  have RF := RF.on hB
  have RB := RB.on hB
  have S3 := S2.trans (hB.mono S2.size)
  clear hB S2
  have a0 := fun o => (hF.alloc o).cell_at 0 rfl
  have a1 := fun o => (hF.alloc o).cell_at 1 rfl
  have a2 := fun o => (hF.alloc o).cell_at 2 rfl
  go_wp2_with fail
  refine (sameR_val true k q k q A Ag cap cg zs zs _ (RF.on (below1 _ _)) (RG.on (below1 _ _)) hb hb (sameF_refl _ _ _)).mono ?_
  rintro e w4 ⟨rfl, hB⟩
  have S4 := S3.trans ((on1 hB).mono S3.size)
  have hF := hF.below (on1 hB) hF.lt
  have RB := RB.on (on1 hB)
  clear hB S3 a0 a1 a2 RF RG
  have a0 := hF.cell_at 0 rfl
  have a1 := hF.cell_at 1 rfl
  have a2 := hF.cell_at 2 rfl
  have c2 : (zs.length : Int) ≤ 59 := by omega
  go_wp2_with fail
  refine (size_val (5 + (zs.length : Int)) k q A zs.length cap _ HK0.out HK1.out HM.out HSZ.out).mono ?_
  rintro e w5 ⟨rfl, hB⟩
  have S5 := S4.trans (hB.mono S4.size)
  have hF := hF.below hB hF.lt
  have RB := RB.on hB
  clear hB S4 a0 a1 a2
  have a0 := hF.cell_at 0 rfl
  have a1 := hF.cell_at 1 rfl
  have a2 := hF.cell_at 2 rfl
  have hcm : (5 + (zs.length : Int)) = (zs.length : Int) + 5 := Int.add_comm _ _
  rw [hcm]
  clear hcm
  have hpe := HP.out
  obtain ⟨g3, c3, w6, happ, hown, hB⟩ := append_empty Ab cb (closeB (bytesF k q zs)) w5 RB (by rw [HLEN.out]; omega)
  rw [HLEN.out] at happ hown
  have S6 := S5.trans (hB.mono S5.size)
  have HA := Lib.hid happ
  have hg3 := owns_lt hown
  clear happ RB CB
  go_wp2_with (at_builtin; refine list_append rfl (.tmp 85) (.tmp 86) 22 rfl HA.out ?_)
  clear hpe a0 a1 a2
  obtain ⟨cl, hcl⟩ : ∃ l, closeB (bytesF k q zs) = l := ⟨_, rfl⟩
  have HCL := Lib.hid hcl
  rw [hcl] at hown
  clear hcl
  have hb5 := S5.size
  go_loopw [13] (fun i wr => ∃ j : Nat, j ≤ 16 ∧ i = .int .i64 j ∧ wr.ownsRow w5.heap.size 5 1 (.slice (some ⟨g3, 0, none⟩) (zs.length + 5) c3) (zs.length + 5) (u8s (burstB cl p by_ j)) ∧ Below w.heap.size w wr) (fun i _ => 16 - (intOf i).toNat)
  case atStart => exact ⟨0, Nat.zero_le _, rfl, hown, S6⟩
  case round =>
    obtain ⟨j, hj, rfl, hO, hB⟩ := hrel
    have hcb : ∀ z ∈ cl, IsByte z := by rw [← HCL.out]; exact HCB.out
    have hln : cl.length = zs.length + 5 := by rw [← HCL.out]; exact HLEN.out
    have HLN := Lib.hid hln
    have HCC := Lib.hid hcb
    clear hln hcb
    by_cases hlt : j < 16
    · have hbit := u16_shift_bit by_ j
      generalize hv : by_.getLsbD j = v at hbit
      have HV := Lib.hid hv
      clear hv
      have hj' : (j : Int) < 16 := by omega
      have hz := getD_byte (burstB_byte HCC.out p by_ j) ((p + j) / 8)
      have hl8 : (p + j) / 8 < (burstB cl p by_ j).length := by rw [burstB_length, HLN.out]; omega
      have hcell := (hO.cellAt ((p + j) / 8) (by rw [Nat.mul_one]; omega)).trans (show _ = some (Value.int .u8 ((burstB cl p by_ j)[(p + j) / 8]?.getD 0)) by rw [u8s, List.getElem?_map, List.getElem?_eq_getElem hl8]; rfl)
      have hfz := hO.frozenAt ((p + j) / 8)
      have HFL := Lib.hid (show flipAt (burstB cl p by_ j) (p + j) = (burstB cl p by_ j).set ((p + j) / 8) (xor8 ((burstB cl p by_ j)[(p + j) / 8]?.getD 0) (2 ^ ((p + j) % 8))) from rfl)
      generalize hzz : (burstB cl p by_ j)[(p + j) / 8]?.getD 0 = z at hz hcell HFL
      obtain ⟨hz0, hz1⟩ := hz
      have HZZ := Lib.hid hzz
      clear hzz hl8
      have hqi : ((p : Int) + j) / 8 < (zs.length : Int) + 5 := by omega
      have hq0 : (0 : Int) ≤ ((p : Int) + j) / 8 := by omega
      have hr0 : (0 : Int) ≤ ((p : Int) + j) % 8 := by omega
      have hr1 : ((p : Int) + j) % 8 ≤ 8 := by omega
      cases v
      · go_wp2_with fail
        go_roundw
        case rel => exact ⟨j + 1, by omega, by go_num, by rw [burstB, if_neg (by rw [HV.out]; decide)]; exact hO, hB⟩
        case measure => simp [intOf]; omega
      · go_wp2_with fail
        go_roundw
        case rel =>
          refine ⟨j + 1, by omega, by go_num, ?_, hB.setCell (p := ⟨g3, _, none⟩) (Nat.le_trans hb5 hg3.1) _⟩
          rw [burstB, if_pos HV.out, HFL.out, pow_small5 _ (Nat.mod_lt _ (by omega))]
          have h := (hO.stored ((p + j) / 8) (.int .u8 (xor8 z (2 ^ ((p + j) % 8))))).1
          rw [show (u8s (burstB cl p by_ j)).set ((p + j) / 8) (.int .u8 (xor8 z (2 ^ ((p + j) % 8)))) = u8s ((burstB cl p by_ j).set ((p + j) / 8) (xor8 z (2 ^ ((p + j) % 8)))) from (List.map_set ..).symm] at h
          exact h
        case measure => simp [intOf]; omega
    · obtain rfl : j = 16 := by omega
      have hdl : zs.length + 5 = (burstB cl p by_ 16).length := by rw [burstB_length, HLN.out]
      have hcl := burst_closed (bytesF k q zs) HCB.out p by_ (by rw [HLEN.out]; exact hp)
      rw [HCL.out] at hcl
      have hdb := burstB_byte HCC.out p by_ 16
      have hdr := owns_row hO (owns_lt hO).2
      have hdc := owns_cap hO
      by_cases hby : by_ = 0#16
      · subst hby
        rw [burst_none] at hdr
        rw [← HCL.out] at hdr
        have h0 : (numS 0#16 == 0) = true := rfl
        clear hcl hdb hdl hO
        go_wp2_with fail
        refine (take_put k q _ c3 _ zs _ rfl HK.out HQ.out hb HR.out hdr hdc).mono ?_
        rintro e w7 ⟨A7, k7, rfl, R7, hB7⟩
        have S7 := hB.trans (hB7.mono hB.size)
        clear hB7 R7 hdr S6 S5 hB
        go_wp2_with fail
        refine (wakes_any _).mono ?_
        rintro e w' ⟨rfl, hB⟩
        go_wp2_with fail
        go_ret
        exact ⟨rfl, S7.trans ((on1 hB).mono S7.size)⟩
      · generalize burstB cl p by_ 16 = d at hdl hcl hdb hdr hO
        have hoe : openE d ≠ 0 := by
          intro h
          unfold openE at h
          rw [if_neg (by omega)] at h
          split at h
          · rename_i hh; exact hby (hcl.1 hh)
          · cases h
        have HE := Lib.hid (show takeE d = 42 by
          unfold takeE
          rw [if_neg (by omega), if_neg hoe])
        have HD := Lib.hid hdl
        have HDB := Lib.hid hdb
        have h0 : (numS by_ == 0) = false := num_zero by_ hby
        clear hcl hdb hdl hO hoe hby
        go_wp2_with fail
        refine (wk_takeN _ _ c3 d 42 _ HD.out HE.out (by decide) hdr HDB.out (by rw [← HD.out]; omega) hdc).mono ?_
        rintro e w7 ⟨A7, k7, rfl, hB7⟩
        have S7 := hB.trans (hB7.mono hB.size)
        clear hB7 hdr S6 S5 hB
        go_wp2_with fail
        refine (wakes_any _).mono ?_
        rintro e w' ⟨rfl, hB⟩
        go_wp2_with fail
        go_ret
        exact ⟨rfl, S7.trans ((on1 hB).mono S7.size)⟩

theorem back_all (k q : Int) (A : Option Addr) (cap : Nat) (zs : List Int) (N : Int) (by_ : BitVec 16) (w : World) (hk : IsByte k) (hq : IsByte q) (hr : Row w w.heap.size A (u8s zs)) (hb : ∀ z ∈ zs, IsByte z) (hl : zs.length ≤ cap) (hm : cap ≤ maxLen) (hN0 : -9223372036854775808 ≤ N) (hN1 : N ≤ 9223372036854775807) :
    Calls Try.prog 4 #[frV k q A zs.length cap, .int .i64 N, .int .u16 (numS by_)] w fun e w' => e = .returned (.bool true) ∧ Below w.heap.size w w' := by
  cases h : rightF k zs.length
  · exact back_no k q A cap zs N by_ w hk (Nat.le_trans hl hm) (.inr h)
  · exact back_walk k q A cap zs N by_ w hk hq hr hb h hN0 hN1
end Go.Proofs.Ytgpofgepffhcnaa
