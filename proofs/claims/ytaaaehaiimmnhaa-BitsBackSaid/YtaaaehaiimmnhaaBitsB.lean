/- Which bits may be: package bits' Right. -/
import Derived.Test.YtaaaehaiimmnhaaBitsA
import Derived.Test.YtaaaehaiimmnhaaMem
namespace Go.Proofs.Ytaaaehaiimmnhaa
open Go.RowKit
set_option linter.unusedVariables false

/-- Which bits may be. -/
def rightB (zs : List Int) (n : Int) : Bool :=
  decide (0 ≤ n) && decide ((zs.length : Int) = sizeOf8 n) && (decide (n % 8 = 0) || decide ((zs[zs.length - 1]?.getD 0 * 2 ^ (n % 8).toNat) % 256 = 0))

set_option maxHeartbeats 1000000 in
theorem right_any (A : Option Addr) (cap : Nat) (zs : List Int) (n : Int) (w : World) (hr : Row w w.heap.size A (u8s zs)) (hb : ∀ z ∈ zs, IsByte z) (hl : zs.length ≤ maxLen)
    (hn1 : n ≤ 9223372036854775807) (hn0 : -9223372036854775808 ≤ n) :
    Calls Try.prog 18 #[.agg #[.slice A zs.length cap, .int .i64 n]] w fun e w' => e = .returned (.bool (rightB zs n)) ∧ Below w.heap.size w w' := by
  unfold maxLen at hl
  by_cases h0 : n < 0
  · go_enter Try.func18, Try.ntmps18
    go_wp2_with fail
    go_quiet (fail)
    go_wp2_with fail
    go_ret
    exact ⟨ret_bool (by simp [rightB]; omega), below_drawn ((Below.refl _ _).alloc (Nat.le_refl _) _) _⟩
  · by_cases hs : (zs.length : Int) = sizeOf8 n
    · have hs' : ((zs.length : Int) != sizeOf8 n) = false := by simp [hs]
      have hS : Hid ((zs.length : Int) = sizeOf8 n) := hs
      clear hs
      by_cases hm : n % 8 = 0
      · have hm' : (n % 8 == 0) = true := by simp [hm]
        have hM : Hid (n % 8 = 0) := hm
        clear hm
        go_enter Try.func18, Try.ntmps18
        go_wp2_with fail
        go_quiet ((go_at_call 33; refine Calls.quiet_of_same ((size_any _ (by omega) (by omega) _).mono fun e w' hh => ⟨hh.1, hh.2.symm⟩)))
        go_wp2_with fail
        go_ret
        exact ⟨ret_bool (by simp [rightB, hS.out, hM.out]; omega), below_drawn ((Below.refl _ _).alloc (Nat.le_refl _) _) _⟩
      · have hm' : (n % 8 == 0) = false := by simp; omega
        have hpos : 0 < zs.length := by have := hS.out; unfold sizeOf8 at this; omega
        obtain ⟨b, off, rfl, hbl, hc⟩ := hr.byte (k := zs.length - 1) (by omega)
        have hc1 : (w.alloc (Obj.cells #[Value.slice (some ⟨b, off, none⟩) zs.length cap, Value.int IntKind.i64 n] 24)).cell? ⟨b, off + (zs.length - 1), none⟩ = some (.int .u8 (zs[zs.length - 1]?.getD 0)) := by
          exact (Below.cell (p := ⟨b, off + (zs.length - 1), none⟩) ((Below.refl _ _).alloc (Nat.le_refl _) _) hbl).trans hc
        have hi : (0 : Int) ≤ (zs.length : Int) - 1 := by omega
        have hi2 : ((zs.length : Int) - 1).toNat = zs.length - 1 := by omega
        go_enter Try.func18, Try.ntmps18
        go_wp2_with fail
        go_quiet ((go_at_call 33; refine Calls.quiet_of_same ((size_any _ (by omega) (by omega) _).mono fun e w' hh => ⟨hh.1, hh.2.symm⟩)))
        go_wp2_with fail
        go_ret
        exact ⟨ret_bool (by simp [rightB, hS.out, hm, h0]; rfl), below_drawn ((Below.refl _ _).alloc (Nat.le_refl _) _) _⟩
    · have hs' : ((zs.length : Int) != sizeOf8 n) = true := by simp; omega
      go_enter Try.func18, Try.ntmps18
      go_wp2_with fail
      go_quiet ((go_at_call 33; refine Calls.quiet_of_same ((size_any _ (by omega) (by omega) _).mono fun e w' hh => ⟨hh.1, hh.2.symm⟩)))
      go_wp2_with fail
      go_ret
      exact ⟨ret_bool (by simp [rightB, hs]), below_drawn ((Below.refl _ _).alloc (Nat.le_refl _) _) _⟩

theorem pow_wrap (k : Nat) (hk : k ≤ 62) : wrap64 (2 ^ k) = 2 ^ k := by
  have h1 : (2 : Nat) ^ k ≤ 4611686018427387904 := Nat.le_trans (Nat.pow_le_pow_right (by omega) hk) (by decide)
  have h2 : (((2 : Nat) ^ k : Nat) : Int) = (2 : Int) ^ k := by simp
  have h3 : (0 : Int) < 2 ^ k := Int.pow_pos (by omega)
  have h4 : (2 : Int) ^ k ≤ 4611686018427387904 := by rw [← h2]; omega
  unfold wrap64
  omega

theorem last_over (z r : Int) (h1 : 1 ≤ r) (h7 : r ≤ 7) (h0 : 0 ≤ z) (h255 : z ≤ 255) : (z % 2 ^ (8 - r).toNat == 0) = decide (z * 2 ^ r.toNat % 256 = 0) := by
  obtain rfl | rfl | rfl | rfl | rfl | rfl | rfl : r = 1 ∨ r = 2 ∨ r = 3 ∨ r = 4 ∨ r = 5 ∨ r = 6 ∨ r = 7 := by omega
  all_goals
    simp only [Int.reduceSub, Int.reduceToNat, Int.reducePow]
    rw [Bool.eq_iff_iff]
    simp only [beq_iff_eq, decide_eq_true_eq]
    omega

set_option maxHeartbeats 2000000 in
theorem rightR_any (A : Option Addr) (cap : Nat) (zs : List Int) (n : Int) (w : World) (hr : Row w w.heap.size A (u8s zs)) (hb : ∀ z ∈ zs, IsByte z) (hl : zs.length ≤ maxLen)
    (hn1 : n ≤ 9223372036854775807) (hn0 : -9223372036854775808 ≤ n) :
    Calls Try.prog 19 #[.agg #[.slice A zs.length cap, .int .i64 n]] w fun e w' => e = .returned (.bool (rightB zs n)) ∧ Below w.heap.size w w' := by
  unfold maxLen at hl
  by_cases h0 : n < 0
  · go_enter Try.func19, Try.ntmps19
    go_wp2_with fail
    go_ret
    exact ⟨ret_bool (by simp [rightB]; omega), (Below.refl _ _).alloc (Nat.le_refl _) _⟩
  · by_cases hs : (zs.length : Int) = sizeOf8 n
    · by_cases hm : n % 8 = 0
      · have hd : (zs.length : Int) = n / 8 := by unfold sizeOf8 at hs; omega
        have hmm : (n % 8 == 0) = true := by simp [hm]
        go_enter Try.func19, Try.ntmps19
        go_wp2_with fail
        go_ret
        exact ⟨ret_bool (by simp [rightB, hs, hm, h0]), (Below.refl _ _).alloc (Nat.le_refl _) _⟩
      · have hS : Hid ((zs.length : Int) = sizeOf8 n) := hs
        have hmin : (if 1 < n % 8 then (1 : Int) else n % 8) = 1 := by split <;> omega
        have hpw : wrap64 (2 ^ (8 - n % 8).toNat) = 2 ^ (8 - n % 8).toNat := pow_wrap _ (by omega)
        have hpw0 : ((2 : Int) ^ (8 - n % 8).toNat = 0) = False := eq_false (Int.ne_of_gt (Int.pow_pos (by omega)))
        have htest : ((zs.length : Int) != n / 8 + 1) = false := by unfold sizeOf8 at hs; simp; omega
        have hm' : (n % 8 == 0) = false := by simp; omega
        have hpos : 0 < zs.length := by have := hS.out; unfold sizeOf8 at this; omega
        clear hs
        obtain ⟨b, off, rfl, hbl, hc⟩ := hr.byte (k := zs.length - 1) (by omega)
        have hc1 : (w.alloc (Obj.cells #[Value.slice (some ⟨b, off, none⟩) zs.length cap, Value.int IntKind.i64 n] 24)).cell? ⟨b, off + (zs.length - 1), none⟩ = some (.int .u8 (zs[zs.length - 1]?.getD 0)) := by
          exact (Below.cell (p := ⟨b, off + (zs.length - 1), none⟩) ((Below.refl _ _).alloc (Nat.le_refl _) _) hbl).trans hc
        have hbyte : IsByte (zs[zs.length - 1]?.getD 0) := hb _ (by rw [List.getElem?_eq_getElem (by omega)]; exact List.getElem_mem _)
        obtain ⟨hy0, hy1⟩ := hbyte
        have hi : (0 : Int) ≤ (zs.length : Int) - 1 := by omega
        have hi2 : ((zs.length : Int) - 1).toNat = zs.length - 1 := by omega
        have hr8 : 1 ≤ n % 8 ∧ n % 8 ≤ 7 := by omega
        obtain ⟨hr1, hr7⟩ := hr8
        go_enter Try.func19, Try.ntmps19
        go_wp2_with fail
        go_ret
        exact ⟨ret_bool (by rw [last_over _ _ hr1 hr7 hy0 hy1]; simp [rightB, hS.out, hm, h0]), (Below.refl _ _).alloc (Nat.le_refl _) _⟩
    · have htest : ((zs.length : Int) != n / 8 + (if 1 < n % 8 then (1 : Int) else n % 8)) = true := by unfold sizeOf8 at hs; simp; split <;> omega
      go_enter Try.func19, Try.ntmps19
      go_wp2_with fail
      all_goals
        go_ret
        exact ⟨ret_bool (by simp [rightB, hs]), (Below.refl _ _).alloc (Nat.le_refl _) _⟩
end Go.Proofs.Ytaaaehaiimmnhaa
