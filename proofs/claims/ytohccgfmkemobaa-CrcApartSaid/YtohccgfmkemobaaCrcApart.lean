/- Unlike states stay unlike. -/
import Derived.Test.YtohccgfmkemobaaCrcW
namespace Go.Proofs.Ytohccgfmkemobaa
open Go.RowKit Go.Shelf
set_option linter.unusedVariables false

theorem numS_eq (a b : BitVec 16) (h : a = b) : (numS a == numS b) = true := by rw [h]; simp
theorem numS_ne (a b : BitVec 16) (h : a ≠ b) : (numS a == numS b) = false := by rw [u16_beq]; simp [h]

set_option maxRecDepth 100000 in
set_option maxHeartbeats 8000000 in
theorem apart_walk (A : Option Addr) (cap : Nat) (zs : List Int) (s t : BitVec 16) (bit : Bool) (w : World) (hr : Row w w.heap.size A (u8s zs)) (hb : ∀ z ∈ zs, IsByte z) (hl : zs.length ≤ maxLen) :
    Calls Try.prog 6 #[.int .u16 (numS s), .int .u16 (numS t), .bool bit, .slice A zs.length cap] w fun e w' => e = .returned (.bool true) ∧ Below w.heap.size w w' := by
  unfold maxLen at hl
  by_cases h1 : 200 < zs.length
  · have c1 : (200 : Int) < (zs.length : Int) := by omega
    go_enter Try.func6, Try.ntmps6
    go_wp2_with fail
    refine (wakes_any _).mono ?_
    rintro e w' ⟨rfl, hB⟩
    go_wp2_with fail
    go_ret
    exact ⟨rfl, hB⟩
  have c1 : ¬ (200 : Int) < (zs.length : Int) := by omega
  have n3 : (numS (stepS s true) != numS (stepS s false)) = true := by rw [bne, numS_ne _ _ (stepS_apart s)]; rfl
  have HM := Lib.hid (show zs.length ≤ maxLen by unfold maxLen; omega)
  by_cases hst : s = t
  · subst hst
    go_enter Try.func6, Try.ntmps6
    go_wp2_with (go_at_call 10; (refine (bit_any s _ _).mono ?_); rintro e w6 ⟨rfl, rfl⟩)
    refine (go_any s A cap zs _ hr hb HM.out).mono ?_
    rintro e w1 ⟨rfl, hB1⟩
    go_wp2_with fail
    refine (go_any s A cap zs _ (hr.on hB1) hb HM.out).mono ?_
    rintro e w2 ⟨rfl, hB2⟩
    have S2 := hB1.trans (hB2.mono hB1.size)
    go_wp2_with (go_at_call 10; (refine (bit_any s _ _).mono ?_); rintro e w6 ⟨rfl, rfl⟩)
    refine (wakes_any _).mono ?_
    rintro e w' ⟨rfl, hB⟩
    go_wp2_with fail
    go_ret
    exact ⟨rfl, S2.trans (hB.mono S2.size)⟩
  · have n1 := numS_ne _ _ (fun e => hst (stepS_inj (b := bit) e))
    have n2 := numS_ne _ _ (fun e => hst (goS_inj (l := bitsOf zs) e))
    have n4 := numS_ne _ _ hst
    have n2 : (numS (goB s zs) == numS (goB t zs)) = false := n2
    have HST := Lib.hid hst
    clear hst
    go_enter Try.func6, Try.ntmps6
    go_wp2_with fail
    refine (bit_any s _ _).mono ?_
    rintro e w6 ⟨rfl, rfl⟩
    go_wp2_with fail
    refine (bit_any t _ _).mono ?_
    rintro e w6 ⟨rfl, rfl⟩
    go_wp2_with fail
    refine (go_any s A cap zs _ hr hb HM.out).mono ?_
    rintro e w1 ⟨rfl, hB1⟩
    go_wp2_with fail
    refine (go_any t A cap zs _ (hr.on hB1) hb HM.out).mono ?_
    rintro e w2 ⟨rfl, hB2⟩
    have S2 := hB1.trans (hB2.mono hB1.size)
    go_wp2_with (go_at_call 10; (refine (bit_any s _ _).mono ?_); rintro e w6 ⟨rfl, rfl⟩)
    refine (wakes_any _).mono ?_
    rintro e w' ⟨rfl, hB⟩
    go_wp2_with fail
    go_ret
    exact ⟨rfl, S2.trans (hB.mono S2.size)⟩
end Go.Proofs.Ytohccgfmkemobaa
