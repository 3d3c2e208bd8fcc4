/- What was closed is opened; with a burst of up to 16 bits it is not. -/
import Derived.Test.YtohccgfmkemobaaCrcW
import Derived.Test.YtohccgfmkemobaaCrcBits
namespace Go.Proofs.Ytohccgfmkemobaa
open Go.RowKit Go.Shelf
set_option linter.unusedVariables false

set_option maxRecDepth 100000 in
set_option maxHeartbeats 8000000 in
theorem burst_long (A : Option Addr) (cap : Nat) (zs : List Int) (N : Int) (by_ : BitVec 16) (w : World) (hl : zs.length ≤ maxLen) (h1 : 300 < zs.length) :
    Calls Try.prog 4 #[.slice A zs.length cap, .int .i64 N, .int .u16 (numS by_)] w fun e w' => e = .returned (.bool true) ∧ Below w.heap.size w w' := by
  unfold maxLen at hl
  have c1 : (300 : Int) < (zs.length : Int) := by omega
  go_enter Try.func4, Try.ntmps4
  go_wp2_with fail
  refine (wakes_any _).mono ?_
  rintro e w' ⟨rfl, hB⟩
  go_wp2_with fail
  go_ret
  exact ⟨rfl, hB⟩

theorem open_n (A : Option Addr) (cap n : Nat) (zs : List Int) (w : World) (hn : n = zs.length) (hr : Row w w.heap.size A (u8s zs)) (hz : ∀ z ∈ zs, IsByte z) (hzl : zs.length ≤ 549755813888) (hcap : n ≤ cap) :
    Calls Try.prog 8 #[.slice A n cap] w (OpenGives w zs) := by subst hn; exact open_any A cap zs w hr hz hzl hcap
theorem same_n (A A' : Option Addr) (c c' n n' : Nat) (zs : List Int) (w : World) (hn : n = zs.length) (hn' : n' = zs.length) (h : Row w w.heap.size A (u8s zs)) (h' : Row w w.heap.size A' (u8s zs)) (hb : ∀ z ∈ zs, IsByte z) :
    Calls Try.prog 16 #[.slice A n c, .slice A' n' c'] w fun e w' => e = .returned (.bool true) ∧ w = w' := by
  subst hn; subst hn'
  have h1 := same_any A A' c c' zs zs w h h' hb hb
  rw [show sameB zs zs = true by simp [sameB]] at h1
  exact h1
theorem openE_close (l : List Int) : openE (closeB l) = 0 := by
  unfold openE; rw [if_neg (by rw [closeB_length]; omega), if_pos (closeB_end l)]

/-- The place of the burst. -/
theorem spot_any (N : Int) (l : Nat) (h1 : l ≤ 300) : ∃ p : Nat, p + 16 ≤ 8 * (l + 2) ∧ (wrap64 (N.tmod (8 * ((l : Int) + 2) - 15) + (8 * ((l : Int) + 2) - 15))).tmod (8 * ((l : Int) + 2) - 15) = (p : Int) := by
  have a1 := Int.tmod_lt_of_pos N (b := 8 * ((l : Int) + 2) - 15) (by omega)
  have a2 : -(8 * ((l : Int) + 2) - 15) < N.tmod (8 * ((l : Int) + 2) - 15) := Int.lt_tmod_of_pos N (by omega)
  generalize hM : 8 * ((l : Int) + 2) - 15 = M at a1 a2 ⊢
  generalize N.tmod M = m at a1 a2
  have e1 : wrap64 (m + M) = m + M := by unfold wrap64; omega
  rw [e1, Int.tmod_eq_emod_of_nonneg (by omega)]
  have b1 := Int.emod_nonneg (m + M) (b := M) (by omega)
  have b2 := Int.emod_lt_of_pos (m + M) (b := M) (by omega)
  exact ⟨((m + M) % M).toNat, by omega, by omega⟩

theorem numS_zero (s : BitVec 16) (h : s ≠ 0#16) : (numS s == 0) = false := by
  rw [show (0 : Int) = numS 0#16 from rfl, u16_beq]; simp [h]
theorem pow_small (r : Nat) (h : r < 8) : (2 : Int) ^ r % 256 = 2 ^ r := by
  have := (pow_byte r h).1
  unfold IsByte at this; omega
theorem shl_one (r : Nat) (h : r < 8) : IntKind.u8.wrap (2 ^ r) = 2 ^ r := by
  have := (pow_byte r h).1
  rw [IntKind.wrap_u8]; unfold IsByte at this; omega

set_option maxRecDepth 100000 in
set_option maxHeartbeats 8000000 in
theorem burst_walk (A : Option Addr) (cap : Nat) (zs : List Int) (N : Int) (by_ : BitVec 16) (w : World) (hr : Row w w.heap.size A (u8s zs)) (hb : ∀ z ∈ zs, IsByte z) (h1 : zs.length ≤ 300) (hN0 : -9223372036854775808 ≤ N) (hN1 : N ≤ 9223372036854775807) :
    Calls Try.prog 4 #[.slice A zs.length cap, .int .i64 N, .int .u16 (numS by_)] w fun e w' => e = .returned (.bool true) ∧ Below w.heap.size w w' := by
  have c1 : ¬ (300 : Int) < (zs.length : Int) := by omega
  obtain ⟨p, hp, hpe⟩ := spot_any N zs.length h1
  go_enter Try.func4, Try.ntmps4
  go_wp2_with fail
  refine (close_any A cap zs _ hr hb (by omega)).mono ?_
  rintro e w1 ⟨A1, k1, rfl, R1, C1, hB⟩
  have S1 := hB
  clear hB
  go_wp2_with fail
  refine (open_n A1 k1 _ (closeB zs) _ (closeB_length zs).symm R1 (closeB_byte hb) (by rw [closeB_length]; omega) C1).mono ?_
  rintro e w2 ⟨A2, k2, rfl, R2, hB⟩
  rw [openE_close, openL_close _ (openE_close zs)]
  rw [openL_close _ (openE_close zs)] at R2
  have R1 := R1.on hB
  have S2 := S1.trans (hB.mono S1.size)
  clear hB S1
  go_wp2_with fail
  refine (same_n A2 A _ _ _ _ zs _ rfl rfl R2 (hr.on S2) hb).mono ?_
  rintro e w3 ⟨rfl, rfl⟩
  have hB2 := S2
  obtain ⟨g3, c3, w3, happ, hown, hB⟩ := append_empty A1 k1 (closeB zs) w2 R1 (by rw [closeB_length]; omega)
  rw [closeB_length] at happ hown
  have S3 := S2.trans (hB.mono S2.size)
  have HA := Lib.hid happ
  have hg3 := owns_lt hown
  clear happ hB R1 R2 C1
  go_wp2_with (at_builtin; refine list_append rfl (.tmp 54) (.tmp 55) 23 rfl HA.out ?_)
  have hlen : (closeB zs).length = zs.length + 2 := closeB_length zs
  have HLEN := Lib.hid hlen
  have HP := Lib.hid hpe
  clear hpe hlen
  go_loopw [12] (fun i wr => ∃ j : Nat, j ≤ 16 ∧ i = .int .i64 j ∧ wr.ownsRow w2.heap.size 5 1 (.slice (some ⟨g3, 0, none⟩) (zs.length + 2) c3) (zs.length + 2) (u8s (burstB (closeB zs) p by_ j)) ∧ Below w.heap.size w wr) (fun i _ => 16 - (intOf i).toNat)
  case atStart => exact ⟨0, Nat.zero_le _, rfl, hown, S3⟩
  case round =>
    obtain ⟨j, hj, rfl, hO, hB⟩ := hrel
    by_cases hlt : j < 16
    · have hbit := u16_shift_bit by_ j
      generalize hv : by_.getLsbD j = v at hbit
      have HV := Lib.hid hv
      clear hv
      have hj' : (j : Int) < 16 := by omega
      have hz := getD_byte (burstB_byte (closeB_byte hb) p by_ j) ((p + j) / 8)
      have hl8 : (p + j) / 8 < (burstB (closeB zs) p by_ j).length := by rw [burstB_length, HLEN.out]; omega
      have hcell := (hO.cellAt ((p + j) / 8) (by rw [Nat.mul_one]; omega)).trans (show _ = some (Value.int .u8 ((burstB (closeB zs) p by_ j)[(p + j) / 8]?.getD 0)) by rw [u8s, List.getElem?_map, List.getElem?_eq_getElem hl8]; rfl)
      have hfz := hO.frozenAt ((p + j) / 8)
      have HFL := Lib.hid (show flipAt (burstB (closeB zs) p by_ j) (p + j) = (burstB (closeB zs) p by_ j).set ((p + j) / 8) (xor8 ((burstB (closeB zs) p by_ j)[(p + j) / 8]?.getD 0) (2 ^ ((p + j) % 8))) from rfl)
      generalize hzz : (burstB (closeB zs) p by_ j)[(p + j) / 8]?.getD 0 = z at hz hcell HFL
      obtain ⟨hz0, hz1⟩ := hz
      have HZZ := Lib.hid hzz
      clear hzz hl8
      have hqi : ((p : Int) + j) / 8 < (zs.length : Int) + 2 := by omega
      have hq0 : (0 : Int) ≤ ((p : Int) + j) / 8 := by omega
      have hr0 : (0 : Int) ≤ ((p : Int) + j) % 8 := by omega
      have hr1 : ((p : Int) + j) % 8 ≤ 8 := by omega
      cases v
      · go_wp2_with fail
        go_roundw
        case rel => exact ⟨j + 1, by omega, by go_num, by rw [burstB, if_neg (by rw [HV.out]; decide)]; exact hO, hB⟩
        case measure => simp [intOf]; omega
      · go_wp2_with fail
        go_roundw
        case rel =>
          refine ⟨j + 1, by omega, by go_num, ?_, hB.setCell (p := ⟨g3, _, none⟩) (Nat.le_trans hB2.size hg3.1) _⟩
          rw [burstB, if_pos HV.out, HFL.out, pow_small _ (Nat.mod_lt _ (by omega))]
          have h := (hO.stored ((p + j) / 8) (.int .u8 (xor8 z (2 ^ ((p + j) % 8))))).1
          rw [show (u8s (burstB (closeB zs) p by_ j)).set ((p + j) / 8) (.int .u8 (xor8 z (2 ^ ((p + j) % 8)))) = u8s ((burstB (closeB zs) p by_ j).set ((p + j) / 8) (xor8 z (2 ^ ((p + j) % 8)))) from (List.map_set ..).symm] at h
          exact h
        case measure => simp [intOf]; omega
    · obtain rfl : j = 16 := by omega
      have hdl : zs.length + 2 = (burstB (closeB zs) p by_ 16).length := by rw [burstB_length, HLEN.out]
      have hcl := burst_closed zs (closeB_byte hb) p by_ (by rw [HLEN.out]; exact hp)
      have hdb := burstB_byte (closeB_byte hb) p by_ 16
      have hdr := owns_row hO (owns_lt hO).2
      have hdc := owns_cap hO
      generalize burstB (closeB zs) p by_ 16 = d at hdl hcl hdb hdr hO
      have HD := Lib.hid hdl
      have HDB : Hid (∀ z ∈ d, IsByte z) := Lib.hid hdb
      clear hdl hdb hO hown hg3
      go_wp2_with fail
      refine (open_n _ c3 _ d _ HD.out hdr HDB.out (by rw [← HD.out]; omega) hdc).mono ?_
      rintro e w4 ⟨A4, k4, rfl, R4, hB4⟩
      have S4 := hB.trans (hB4.mono hB.size)
      clear hB4 R4 hdr S3 S2 hB2 hB
      by_cases hby : by_ = 0#16
      · have hE : openE d = 0 := by unfold openE; rw [if_neg (by rw [← HD.out]; omega), if_pos (hcl.2 hby)]
        subst hby
        rw [hE]
        have h0 : (numS 0#16 == 0) = true := rfl
        clear hcl hE
        go_wp2_with fail
        refine (wakes_any _).mono ?_
        rintro e w' ⟨rfl, hB⟩
        go_wp2_with fail
        go_ret
        exact ⟨rfl, S4.trans (hB.mono S4.size)⟩
      · have hE : openE d = 42 := by unfold openE; rw [if_neg (by rw [← HD.out]; omega), if_neg (fun e => hby (hcl.1 e))]
        have hL : openL d = [] := openL_none d (by rw [hE]; decide)
        rw [hE, hL]
        have h0 : (numS by_ == 0) = false := numS_zero by_ hby
        clear hcl hE hL hby
        go_wp2_with fail
        refine (wakes_any _).mono ?_
        rintro e w' ⟨rfl, hB⟩
        go_wp2_with fail
        go_ret
        exact ⟨rfl, S4.trans (hB.mono S4.size)⟩

theorem burst_all (A : Option Addr) (cap : Nat) (zs : List Int) (N : Int) (by_ : BitVec 16) (w : World) (hr : Row w w.heap.size A (u8s zs)) (hb : ∀ z ∈ zs, IsByte z) (hl : zs.length ≤ maxLen) (hN0 : -9223372036854775808 ≤ N) (hN1 : N ≤ 9223372036854775807) :
    Calls Try.prog 4 #[.slice A zs.length cap, .int .i64 N, .int .u16 (numS by_)] w fun e w' => e = .returned (.bool true) ∧ Below w.heap.size w w' := by
  rcases Nat.lt_or_ge 300 zs.length with h | h
  · exact burst_long A cap zs N by_ w hl h
  · exact burst_walk A cap zs N by_ w hr hb h hN0 hN1
end Go.Proofs.Ytohccgfmkemobaa
