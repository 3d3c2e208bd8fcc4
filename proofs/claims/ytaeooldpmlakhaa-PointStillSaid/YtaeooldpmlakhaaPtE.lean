/- Bits of package point and of the document's own. -/
import Derived.Deep.CutRange
import Derived.Test.YtaeooldpmlakhaaPtD
namespace Go.Proofs.Ytaeooldpmlakhaa
open Go.RowKit Go.Shelf
set_option linter.unusedVariables false
set_option linter.unusedSimpArgs false

set_option maxRecDepth 100000 in
set_option maxHeartbeats 8000000 in
theorem Bits_any {A : Option Addr} {c : Nat} {zs : List Int} {w : World} (hr : Row w w.heap.size A (nums .i64 zs)) (hcap : zs.length ≤ c) (hc : (zs.length : Int) ≤ 9223372036854775807) :
    Calls Try.prog 9 #[.slice A zs.length c] w fun e w' => e = .returned (.tuple #[.int .u32 (bitsN zs 0 : Nat), .int .u32 (bitsN zs 1 : Nat)]) ∧ Below w.heap.size w w' := by
  have KB : Hid (∀ (n : Int) (W : World), Below w.heap.size w W → Calls Try.prog 21 #[.slice A zs.length c, .int .i64 n] W fun e w' => e = .returned (.int .u32 (bitsN zs n : Nat)) ∧ Below W.heap.size W w') := Lib.hid fun n W hW => bits_any n (hr.on hW) hcap hc rfl
  clear hr hcap hc
  go_enter Try.func9, Try.ntmps9
  go_wp2_with fail
  refine (KB.out 0 _ (Below.refl _ _)).mono ?_
  rintro e w1 ⟨rfl, hB1⟩
  go_wp2_with fail
  refine (KB.out 1 _ hB1).mono ?_
  rintro e w2 ⟨rfl, hB2⟩
  have HB := Lib.hid (hB1.trans (hB2.mono hB1.size))
  clear hB1 hB2 KB
  go_wp2_with fail
  exact bodyPost_ret (results_tmp2 (t := 2) (u := 3) rfl _ _ _) rfl ⟨rfl, HB.out⟩
theorem maskJ_hit {f : Nat → Bool} {j : Nat} (h : f j = true) : maskJ f (j + 1) = maskJ f j + 2 ^ j := by
  rw [show maskJ f (j + 1) = maskJ f j + if f j then 2 ^ j else 0 from rfl, h]; rfl
theorem maskJ_miss {f : Nat → Bool} {j : Nat} (h : f j = false) : maskJ f (j + 1) = maskJ f j := by
  rw [show maskJ f (j + 1) = maskJ f j + if f j then 2 ^ j else 0 from rfl, h]; rfl
theorem bitsN_top (zs : List Int) (n : Int) : maskJ (standsN zs n) (topN zs) = bitsN zs n := by
  rw [← bitsN_places, placesN, maskL_range]
set_option maxRecDepth 100000 in
set_option maxHeartbeats 8000000 in
theorem BitsR_any {A : Option Addr} {c : Nat} {zs : List Int} {w : World} (hr : Row w w.heap.size A (nums .i64 zs)) (hc : (zs.length : Int) ≤ 9223372036854775807) :
    Calls Try.prog 10 #[.slice A zs.length c] w fun e w' => e = .returned (.tuple #[.int .u32 (bitsN zs 0 : Nat), .int .u32 (bitsN zs 1 : Nat)]) ∧ Below w.heap.size w w' := by
  have hm : topN zs = min zs.length 24 := rfl
  go_enter Try.func10, Try.ntmps10
  go_wp2_with fail
  go_loopw [4, 5, 6] (fun u v i wr => ∃ j : Nat, j ≤ topN zs ∧ u = .int .u32 (maskJ (standsN zs 0) j : Nat) ∧ v = .int .u32 (maskJ (standsN zs 1) j : Nat) ∧ i = .int .i64 j ∧ wr = w) (fun _ _ i _ => topN zs - (intOf i).toNat)
  case atStart => exact ⟨0, by omega, rfl, rfl, rfl, rfl⟩
  case round =>
    obtain ⟨j, hj, rfl, rfl, rfl, rfl⟩ := hrel
    by_cases hlt : j < topN zs
    · have hz0 : j < zs.length := by omega
      have hl1 : (j : Int) < (zs.length : Nat) := by omega
      have hl2 : (j : Int) < 24 := by omega
      obtain ⟨b, off, hA, _, c0⟩ := hr.num hz0
      have hz : zs[j]? = some (zs[j]?.getD 0) := by rw [List.getElem?_eq_getElem hz0]; rfl
      obtain ⟨z, hzz⟩ : ∃ z, zs[j]?.getD 0 = z := ⟨_, rfl⟩
      rw [hzz] at hz c0
      have HS0 : Hid (standsN zs 0 j = decide (z = 0)) := Lib.hid (by unfold standsN; rw [hz]; simp)
      have HS1 : Hid (standsN zs 1 j = decide (z = 1)) := Lib.hid (by unfold standsN; rw [hz]; simp)
      have HO0 := Lib.hid (or_mask (maskJ_lt (standsN zs 0) j) (show j < 24 by omega))
      have HO1 := Lib.hid (or_mask (maskJ_lt (standsN zs 1) j) (show j < 24 by omega))
      have hj0 : (0 : Int) ≤ (j : Int) := by omega
      have hj1 : (j : Int) ≤ 32 := by omega
      obtain ⟨m0, hm0⟩ : ∃ m, maskJ (standsN zs 0) j = m := ⟨_, rfl⟩
      obtain ⟨m1, hm1⟩ : ∃ m, maskJ (standsN zs 1) j = m := ⟨_, rfl⟩
      have HN0 := Lib.hid hm0
      have HN1 := Lib.hid hm1
      rw [hm0] at HO0 ⊢
      rw [hm1] at HO1 ⊢
      have HLT := Lib.hid hlt
      clear hzz hm0 hm1 hz hz0 hm hj hlt
      rw [hA]
      have HA := Lib.hid hA
      clear hA hr
      by_cases e0 : z = 0
      · subst e0
        have HE0 : Hid (standsN zs 0 j = true) := Lib.hid (by rw [HS0.out]; rfl)
        have HE1 : Hid (standsN zs 1 j = false) := Lib.hid (by rw [HS1.out]; rfl)
        go_wp2_with fail
        go_roundw
        case rel => exact ⟨j + 1, HLT.out, by rw [maskJ_hit HE0.out, HN0.out, ← HO0.out], by rw [maskJ_miss HE1.out, HN1.out], by go_num, trivial⟩
        case measure => simp [intOf]; have := HLT.out; omega
      · by_cases e1 : z = 1
        · subst e1
          have HE0 : Hid (standsN zs 0 j = false) := Lib.hid (by rw [HS0.out]; rfl)
          have HE1 : Hid (standsN zs 1 j = true) := Lib.hid (by rw [HS1.out]; rfl)
          clear e0
          go_wp2_with fail
          go_roundw
          case rel => exact ⟨j + 1, HLT.out, by rw [maskJ_miss HE0.out, HN0.out], by rw [maskJ_hit HE1.out, HN1.out, ← HO1.out], by go_num, trivial⟩
          case measure => simp [intOf]; have := HLT.out; omega
        · have HE0 : Hid (standsN zs 0 j = false) := Lib.hid (by rw [HS0.out]; simp [e0])
          have HE1 : Hid (standsN zs 1 j = false) := Lib.hid (by rw [HS1.out]; simp [e1])
          have d0 : (z == 0) = false := by simp [e0]
          have d1 : (z == 1) = false := by simp [e1]
          clear e0 e1
          go_wp2_with fail
          go_roundw
          case rel => exact ⟨j + 1, HLT.out, by rw [maskJ_miss HE0.out, HN0.out], by rw [maskJ_miss HE1.out, HN1.out], by go_num, trivial⟩
          case measure => simp [intOf]; have := HLT.out; omega
    · obtain rfl : j = topN zs := by omega
      have HB := Lib.hid (Below.refl wr.heap.size wr)
      have HE0 := Lib.hid (bitsN_top zs 0)
      have HE1 := Lib.hid (bitsN_top zs 1)
      have hx : ((topN zs : Nat) : Int) < (zs.length : Nat) ∧ ¬ ((topN zs : Nat) : Int) < 24 ∨ ¬ ((topN zs : Nat) : Int) < (zs.length : Nat) := by omega
      clear hr hj hlt hm
      rw [HE0.out, HE1.out]
      rcases hx with ⟨h1, h2⟩ | h1
      · go_wp2_with fail
        exact bodyPost_ret (results_tmp2 (t := 2) (u := 3) rfl _ _ _) rfl ⟨rfl, HB.out⟩
      · go_wp2_with fail
        exact bodyPost_ret (results_tmp2 (t := 2) (u := 3) rfl _ _ _) rfl ⟨rfl, HB.out⟩

end Go.Proofs.Ytaeooldpmlakhaa
