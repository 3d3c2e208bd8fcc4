/- The walk of PointBits. -/
import Derived.Deep.CutRange
import Derived.Test.YtaeooldpmlakhaaPtF
namespace Go.Proofs.Ytaeooldpmlakhaa
open Go.RowKit Go.Shelf
set_option linter.unusedVariables false
set_option linter.unusedSimpArgs false

theorem bitsN_lt (zs : List Int) (n : Int) : 0 ≤ ((bitsN zs n : Nat) : Int) ∧ ((bitsN zs n : Nat) : Int) ≤ 4294967295 := by
  have := maskJ_lt (standsN zs n) 24
  unfold bitsN
  omega
theorem bitsN_bit (zs : List Int) (n : Int) {j : Nat} (hj : j < 24) : bitU ((bitsN zs n : Nat) : Int) j = standsN zs n j := by
  unfold bitsN
  rw [maskJ_U, decide_eq_true hj, Bool.true_and]
theorem bitsN_and (zs : List Int) : bits BinOp.and IntKind.u32 ((bitsN zs 0 : Nat) : Int) ((bitsN zs 1 : Nat) : Int) = 0 :=
  mask_and fun k h => by
    unfold standsN at h ⊢
    rw [of_decide_eq_true h]
    rfl
set_option maxRecDepth 100000 in
set_option maxHeartbeats 32000000 in
theorem pointBits_walk {A : Option Addr} {c : Nat} {zs : List Int} (x : Int) {w : World} (hr : Row w w.heap.size A (nums .i64 zs)) (hcap : zs.length ≤ c) (hc : (zs.length : Int) ≤ 9223372036854775807) :
    Calls Try.prog 7 #[.slice A zs.length c, .int .i64 x] w fun e w' => e = .returned (.bool true) ∧ Below w.heap.size w w' := by
  by_cases hl : (40 : Int) < (zs.length : Nat)
  · clear hr hcap hc
    have HB := Lib.hid (Below.refl w.heap.size w)
    go_enter Try.func7, Try.ntmps7
    go_wp2_with fail
    refine (wakes16_B _).mono ?_
    rintro e w3 ⟨rfl, hB⟩
    have HB3 := Lib.hid (HB.out.trans (hB.mono HB.out.size))
    clear hB HB
    go_wp2_with fail
    go_ret
    exact ⟨rfl, HB3.out⟩
  · have KB := Lib.hid (Bits_any hr hcap hc)
    have HT0 := Lib.hid fun (j : Nat) (hj : j < 24) => bitsN_bit zs 0 hj
    have HT1 := Lib.hid fun (j : Nat) (hj : j < 24) => bitsN_bit zs 1 hj
    have hl0 := Lib.hid (bitsN_lt zs 0)
    have hl1 := Lib.hid (bitsN_lt zs 1)
    have hand := bitsN_and zs
    obtain ⟨q, hq24, hor⟩ := mask_or (standsN zs 0) (standsN zs 1)
    have hor : bits BinOp.or IntKind.u32 ((bitsN zs 0 : Nat) : Int) ((bitsN zs 1 : Nat) : Int) = (q : Nat) := hor
    generalize bitsN zs 0 = z0 at *
    generalize bitsN zs 1 = z1 at *
    have hq0 : (q : Int) / 16777216 = 0 := by omega
    have hq1 : q / 16777216 = 0 := by omega
    go_enter Try.func7, Try.ntmps7
    go_wp2_with fail
    refine KB.out.mono ?_
    clear KB
    rintro e w1 ⟨rfl, hB⟩
    have HRW := Lib.hid (hr.on hB)
    have HB := Lib.hid hB
    clear hB hr
    go_upto_region 6 with (fail)
    clear hand hor hq0 hq1 hq24
    by_cases hx0 : x < 0
    · clear HT0 HT1 hl0 hl1 HRW
      go_wp2_with fail
      refine (wakes16_B _).mono ?_
      rintro e w3 ⟨rfl, hB⟩
      have HB3 := Lib.hid (HB.out.trans (hB.mono HB.out.size))
      clear hB HB
      go_wp2_with fail
      go_ret
      exact ⟨rfl, HB3.out⟩
    by_cases hx1 : 24 ≤ x
    · clear HT0 HT1 hl0 hl1 HRW
      go_wp2_with fail
      refine (wakes16_B _).mono ?_
      rintro e w3 ⟨rfl, hB⟩
      have HB3 := Lib.hid (HB.out.trans (hB.mono HB.out.size))
      clear hB HB
      go_wp2_with fail
      go_ret
      exact ⟨rfl, HB3.out⟩
    obtain ⟨j, rfl⟩ := Int.eq_ofNat_of_zero_le (show 0 ≤ x by omega)
    have hj : j < 24 := by omega
    have h0 : (0 : Int) ≤ (j : Int) := by omega
    have h3 : (j : Int) ≤ 32 := by omega
    have hw64 : IntKind.u64.wrap (j : Int) = (j : Int) := by rw [IntKind.wrap_u64]; omega
    have B0 := HT0.out j hj
    have B1 := HT1.out j hj
    clear HT0 HT1
    by_cases hlt : j < zs.length
    · have hlt' : (j : Int) < (zs.length : Nat) := by omega
      obtain ⟨b, off, hA, _, c0⟩ := HRW.out.num hlt
      have hz : zs[j]? = some (zs[j]?.getD 0) := by rw [List.getElem?_eq_getElem hlt]; rfl
      obtain ⟨z, hzz⟩ : ∃ z, zs[j]?.getD 0 = z := ⟨_, rfl⟩
      rw [hzz] at hz c0
      unfold standsN at B0 B1
      rw [hz] at B0 B1
      rw [hA]
      clear hzz hz hA HRW hj
      by_cases e0 : z = 0
      · subst e0
        have y0 := bit_yes hl0.out (B0.trans (by rfl))
        have y1 := bit_no hl1.out (B1.trans (by rfl))
        clear B0 B1 hl0 hl1
        go_wp2_with fail
        refine (wakes16_B _).mono ?_
        rintro e w3 ⟨rfl, hB⟩
        have HB3 := Lib.hid (HB.out.trans (hB.mono HB.out.size))
        clear hB HB
        go_wp2_with fail
        go_ret
        exact ⟨rfl, HB3.out⟩
      · by_cases e1 : z = 1
        · subst e1
          have y0 := bit_no hl0.out (B0.trans (by rfl))
          have y1 := bit_yes hl1.out (B1.trans (by rfl))
          clear B0 B1 hl0 hl1 e0
          go_wp2_with fail
          refine (wakes16_B _).mono ?_
          rintro e w3 ⟨rfl, hB⟩
          have HB3 := Lib.hid (HB.out.trans (hB.mono HB.out.size))
          clear hB HB
          go_wp2_with fail
          go_ret
          exact ⟨rfl, HB3.out⟩
        · have y0 := bit_no hl0.out (B0.trans (by simp [e0]))
          have y1 := bit_no hl1.out (B1.trans (by simp [e1]))
          have d0 : (z == 0) = false := by simp [e0]
          have d1 : (z == 1) = false := by simp [e1]
          clear B0 B1 hl0 hl1 e0 e1
          go_wp2_with fail
          refine (wakes16_B _).mono ?_
          rintro e w3 ⟨rfl, hB⟩
          have HB3 := Lib.hid (HB.out.trans (hB.mono HB.out.size))
          clear hB HB
          go_wp2_with fail
          go_ret
          exact ⟨rfl, HB3.out⟩
    · have hlt' : ¬ (j : Int) < (zs.length : Nat) := by omega
      unfold standsN at B0 B1
      rw [List.getElem?_eq_none (by omega)] at B0 B1
      have y0 := bit_no hl0.out (B0.trans (by rfl))
      have y1 := bit_no hl1.out (B1.trans (by rfl))
      clear B0 B1 hl0 hl1 HRW hj
      go_wp2_with fail
      refine (wakes16_B _).mono ?_
      rintro e w3 ⟨rfl, hB⟩
      have HB3 := Lib.hid (HB.out.trans (hB.mono HB.out.size))
      clear hB HB
      go_wp2_with fail
      go_ret
      exact ⟨rfl, HB3.out⟩

end Go.Proofs.Ytaeooldpmlakhaa
