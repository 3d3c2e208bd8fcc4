/- The program's answers are the document's. -/
import Derived.Test.YtohccgfmkemobaaCrcW
namespace Go.Proofs.Ytohccgfmkemobaa
open Go.RowKit Go.Shelf
set_option linter.unusedVariables false

theorem same_true (A A' : Option Addr) (c c' n n' : Nat) (zs : List Int) (w : World) (hn : n = zs.length) (hn' : n' = zs.length) (h : Row w w.heap.size A (u8s zs)) (h' : Row w w.heap.size A' (u8s zs)) (hb : ∀ z ∈ zs, IsByte z) :
    Calls Try.prog 16 #[.slice A n c, .slice A' n' c'] w fun e w' => e = .returned (.bool true) ∧ w = w' := by
  subst hn; subst hn'
  have h1 := same_any A A' c c' zs zs w h h' hb hb
  rw [show sameB zs zs = true by simp [sameB]] at h1
  exact h1

set_option maxRecDepth 100000 in
set_option maxHeartbeats 8000000 in
theorem crcTells_walk (A : Option Addr) (cap : Nat) (zs : List Int) (s : BitVec 16) (bit : Bool) (w : World) (hr : Row w w.heap.size A (u8s zs)) (hb : ∀ z ∈ zs, IsByte z) (hc : zs.length ≤ cap) (hm : cap ≤ maxLen) :
    Calls Try.prog 3 #[.int .u16 (numS s), .bool bit, .slice A zs.length cap] w fun e w' => e = .returned (.bool true) ∧ Below w.heap.size w w' := by
  have hl : zs.length ≤ 9223372036854775807 := by unfold maxLen at hm; omega
  by_cases h1 : 300 < zs.length
  · have c1 : (300 : Int) < (zs.length : Int) := by omega
    go_enter Try.func3, Try.ntmps3
    go_wp2_with fail
    refine (wakes_any _).mono ?_
    rintro e w' ⟨rfl, hB⟩
    go_wp2_with fail
    go_ret
    exact ⟨rfl, hB⟩
  have c1 : ¬ (300 : Int) < (zs.length : Int) := by omega
  have hs : zs.length ≤ 549755813888 := by omega
  have hs2 : zs.length ≤ maxLen := by unfold maxLen; omega
  have HS := Lib.hid hs
  have HS2 := Lib.hid hs2
  have HC := Lib.hid hc
  clear hs hs2 hc hm h1
  go_enter Try.func3, Try.ntmps3
  go_wp2_with fail
  refine (open_any A cap zs _ hr hb HS.out HC.out).mono ?_
  rintro e w1 ⟨A1, k1, rfl, R1, hB⟩
  have S1 := hB
  clear hB
  go_wp2_with fail
  refine (openR_any A cap zs _ (hr.on S1) hb HS.out HC.out).mono ?_
  rintro e w2 ⟨A2, k2, rfl, R2, hB⟩
  have R1 := R1.on hB
  have S2 := S1.trans (hB.mono S1.size)
  clear hB
  go_wp2_with fail
  refine (bit_any s _ _).mono ?_
  rintro e w3 ⟨rfl, rfl⟩
  go_wp2_with fail
  refine (bitR_any s _ _).mono ?_
  rintro e w3 ⟨rfl, rfl⟩
  go_wp2_with fail
  refine (go_any s A cap zs _ (hr.on S2) hb HS2.out).mono ?_
  rintro e w3 ⟨rfl, hB⟩
  have R1 := R1.on hB
  have R2 := R2.on hB
  have S3 := S2.trans (hB.mono S2.size)
  clear hB S1 S2
  go_wp2_with fail
  refine (goR_any s A cap zs _ (hr.on S3) hb HS2.out).mono ?_
  rintro e w4 ⟨rfl, rfl⟩
  go_wp2_with fail
  refine (sum_any A cap zs _ (hr.on S3) hb HS2.out).mono ?_
  rintro e w4 ⟨rfl, hB⟩
  have R1 := R1.on hB
  have R2 := R2.on hB
  have S4 := S3.trans (hB.mono S3.size)
  clear hB S3
  go_wp2_with fail
  refine (sumR_any A cap zs _ (hr.on S4) hb HS2.out).mono ?_
  rintro e w5 ⟨rfl, rfl⟩
  go_wp2_with fail
  refine (close_any A cap zs _ (hr.on S4) hb (by have := HS.out; omega)).mono ?_
  rintro e w5 ⟨A3, k3, rfl, R3, _, hB⟩
  have R1 := R1.on hB
  have R2 := R2.on hB
  have S5 := S4.trans (hB.mono S4.size)
  clear hB S4
  go_wp2_with fail
  refine (closeR_any A cap zs _ (hr.on S5) hb HS.out).mono ?_
  rintro e w6 ⟨A4, k4, rfl, R4, _, hB⟩
  have R1 := R1.on hB
  have R2 := R2.on hB
  have R3 := R3.on hB
  have S6 := S5.trans (hB.mono S5.size)
  clear hB S5
  go_wp2_with fail
  refine (same_true A3 A4 _ _ _ _ (closeB zs) _ (closeB_length zs).symm (closeB_length zs).symm R3 R4 (closeB_byte hb)).mono ?_
  rintro e w7 ⟨rfl, rfl⟩
  go_wp2_with fail
  refine (same_true A1 A2 _ _ _ _ (openL zs) _ rfl rfl R1 R2 (openL_byte hb)).mono ?_
  rintro e w7 ⟨rfl, rfl⟩
  go_wp2_with fail
  refine (wakes_any _).mono ?_
  rintro e w' ⟨rfl, hB⟩
  go_wp2_with fail
  go_ret
  exact ⟨rfl, S6.trans (hB.mono S6.size)⟩
end Go.Proofs.Ytohccgfmkemobaa
