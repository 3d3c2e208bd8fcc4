/- Package crc: what two bytes tell; Open. -/
import Derived.Test.YtgpofgepffhcnaaCrcC
import Derived.Deep.RegionWith
import Derived.WalkMore
namespace Go.Proofs.Ytgpofgepffhcnaa
open Go.RowKit Go.Shelf
set_option linter.unusedVariables false

theorem told_num (z0 z1 : Int) (h0 : IsByte z0) (h1 : IsByte z1) : bits BinOp.or IntKind.u16 z0 (z1 * 256) = numS (valB (bitsOf [z0, z1])) := by
  obtain ⟨a, rfl⟩ := Int.eq_ofNat_of_zero_le h0.1
  obtain ⟨b, rfl⟩ := Int.eq_ofNat_of_zero_le h1.1
  have ha : a < 256 := by have := h0.2; omega
  have hb : b < 256 := by have := h1.2; omega
  show IntKind.u16.wrap ((BitVec.ofInt 16 (a : Int) ||| BitVec.ofInt 16 ((b : Int) * 256)).toNat : Int) = _
  rw [show ((b : Int) * 256) = ((b * 256 : Nat) : Int) by simp, BitVec.ofInt_natCast, BitVec.ofInt_natCast]
  have e : BitVec.ofNat 16 a ||| BitVec.ofNat 16 (b * 256) = valB (bitsOf [(a : Int), (b : Int)]) := by
    apply BitVec.eq_of_getLsbD_eq
    intro i hi
    rw [valB_get _ _ hi, BitVec.getLsbD_or, BitVec.getLsbD_ofNat, BitVec.getLsbD_ofNat]
    rcases Nat.lt_or_ge i 8 with h | h
    · have g := bitsOf_get [(a : Int), (b : Int)] 0 i h (by simp)
      rw [Nat.mul_zero, Nat.zero_add] at g
      rw [g]
      have : (b * 256).testBit i = false := by
        rw [show b * 256 = 2 ^ 8 * b by omega, Nat.testBit_two_pow_mul]; simp; omega
      simp [hi, this]
    · have g := bitsOf_get [(a : Int), (b : Int)] 1 (i - 8) (by omega) (by simp)
      rw [show 8 * 1 + (i - 8) = i by omega] at g
      rw [g]
      have e1 : (b * 256).testBit i = b.testBit (i - 8) := by
        rw [show b * 256 = 2 ^ 8 * b by omega, Nat.testBit_two_pow_mul]; simp [h]
      have e2 : a.testBit i = false := Nat.testBit_lt_two_pow (Nat.lt_of_lt_of_le ha (Nat.pow_le_pow_right (n := 2) (by omega) h))
      simp [hi, e1, e2]
  rw [e]
  exact u16_wrap _

set_option maxHeartbeats 1000000 in
theorem told_any (b off len cap : Nat) (z0 z1 : Int) (w : World) (h0 : IsByte z0) (h1 : IsByte z1) (hl : len = 2) (c0 : w.cell? ⟨b, off, none⟩ = some (.int .u8 z0)) (c1 : w.cell? ⟨b, off + 1, none⟩ = some (.int .u8 z1)) :
    Calls Try.prog 34 #[.slice (some ⟨b, off, none⟩) len cap] w fun e w' => e = .returned (.int .u16 (numS (valB (bitsOf [z0, z1])))) ∧ ∃ n, w' = w.drewN n := by
  subst hl
  have hn := told_num z0 z1 h0 h1
  obtain ⟨a0, a1⟩ := h0
  obtain ⟨b0, b1⟩ := h1
  have HN := Lib.hid hn
  clear hn
  go_enter Try.func34, Try.ntmps34
  go_wp2_with fail
  go_quiet (fail)
  go_wp2_with fail
  go_ret
  exact ⟨ret_int HN.out, nq, rfl⟩

set_option maxHeartbeats 1000000 in
theorem clone_cap (b off cap : Nat) (zs : List Int) (w : World) (hr : Row w w.heap.size (some ⟨b, off, none⟩) (u8s zs)) (hzl : zs.length ≤ 1099511627776) :
    Calls Try.prog 30 #[.slice (some ⟨b, off, none⟩) zs.length cap] w fun e w' => ∃ A' c', e = .returned (.slice A' zs.length c') ∧ Row w' w'.heap.size A' (u8s zs) ∧ zs.length ≤ c' ∧ Below w.heap.size w w' := by
  obtain ⟨g', c', w2, happ, hown, hB⟩ := append_empty (some ⟨b, off, none⟩) cap zs w hr hzl
  have HA := Lib.hid happ
  clear happ
  have hnil : ∀ W : World, (binOp .eql 22 (.slice (some ⟨b, off, none⟩) zs.length cap) (.slice none 0 0)).run Try.prog W = .ok (.bool false) W := fun _ => rfl
  go_enter Try.func30, Try.ntmps30
  go_wp2_with (at_builtin; refine list_append rfl (.tmp 5) (.tmp 6) 22 rfl HA.out ?_)
  go_ret
  exact ⟨_, _, rfl, owns_row hown (owns_lt hown).2, owns_cap hown, hB⟩

theorem clone_any (b off cap : Nat) (zs : List Int) (w : World) (hr : Row w w.heap.size (some ⟨b, off, none⟩) (u8s zs)) (hzl : zs.length ≤ 1099511627776) :
    Calls Try.prog 30 #[.slice (some ⟨b, off, none⟩) zs.length cap] w fun e w' => ∃ A' c', e = .returned (.slice A' zs.length c') ∧ Row w' w'.heap.size A' (u8s zs) ∧ Below w.heap.size w w' := (clone_cap b off cap zs w hr hzl).mono fun e w' ⟨A', c', he, hr', _, hB⟩ => ⟨A', c', he, hr', hB⟩

set_option maxHeartbeats 2000000 in
theorem open_short (A : Option Addr) (cap : Nat) (zs : List Int) (w : World) (hlt : zs.length < 2) :
    Calls Try.prog 26 #[.slice A zs.length cap] w fun e w' => e = .returned (.tuple #[.slice none 0 0, .int .i64 40]) ∧ w = w' := by
  go_enter Try.func26, Try.ntmps26
  go_wp2_with fail
  refine wp_scope_fwd (l := 0) rfl ?_
  go_wp2_with fail
  go_step3
  simp only [Exit.then, fwd_goto]
  refine ⟨trivial, ?_⟩
  go_wp2
  rw [Exit.noGoto_ret]
  go_ret2
  exact ⟨rfl, rfl⟩

theorem sum_n (A : Option Addr) (cap n : Nat) (zs : List Int) (w : World) (hr : Row w w.heap.size A (u8s zs)) (hz : ∀ z ∈ zs, IsByte z) (hzl : zs.length ≤ maxLen) (hn : n = zs.length) :
    Calls Try.prog 33 #[.slice A n cap] w fun e w' => e = .returned (.int .u16 (numS (sumB zs))) ∧ Below w.heap.size w w' := by
  subst hn; exact sum_any A cap zs w hr hz hzl

set_option maxHeartbeats 2000000 in
theorem open_wrong (b off cap n : Nat) (l : List Int) (z0 z1 : Int) (w : World) (hr : Row w w.heap.size (some ⟨b, off, none⟩) (u8s (l ++ [z0, z1]))) (hz : ∀ z ∈ l ++ [z0, z1], IsByte z) (hzl : n ≤ maxLen) (hn : n = l.length + 2) (hcap : n ≤ cap) (hbad : valB (bitsOf [z0, z1]) ≠ sumB l) :
    Calls Try.prog 26 #[.slice (some ⟨b, off, none⟩) n cap] w fun e w' => e = .returned (.tuple #[.slice none 0 0, .int .i64 42]) ∧ Below w.heap.size w w' := by
  unfold maxLen at hzl
  obtain ⟨b', off', e, hb, hc⟩ := hr (by simp [u8s])
  cases e
  have c0 := hc l.length (.int .u8 z0) (by simp [u8s])
  have c1 := hc (l.length + 1) (.int .u8 z1) (by simp [u8s])
  have h0 : IsByte z0 := hz _ (by simp)
  have h1 : IsByte z1 := hz _ (by simp)
  have hrl : Row w w.heap.size (some ⟨b, off, none⟩) (u8s l) := by
    have := hr.take l.length
    rwa [u8s_append, List.take_left' (u8s_length l)] at this
  have hzl' : ∀ z ∈ l, IsByte z := fun z h => hz z (by simp [h])
  have hb2 : (numS (valB (bitsOf [z0, z1])) != numS (sumB l)) = true := by
    rw [bne, u16_beq]; simp [hbad]
  clear hc hr hz
  have e1 : (n : Int) - 2 = (l.length : Int) := by omega
  have H1 := Lib.hid hb2
  have HN := Lib.hid hn
  clear hb2 hn hbad
  go_enter Try.func26, Try.ntmps26
  go_wp2_with fail
  refine wp_scope_fwd (l := 0) rfl ?_
  go_wp2_with fail
  go_region_with (first
    | (go_at_call 34; (refine (told_any _ _ _ _ z0 z1 _ h0 h1 (by have := HN.out; omega) (by exact c0) (by exact c1)).mono ?_); rintro e w' ⟨rfl, nt, rfl⟩)
    | (go_at_call 33; (refine (sum_n _ _ _ l _ (by exact hrl) hzl' (by have := HN.out; unfold maxLen; omega) rfl).mono ?_); rintro e w' ⟨rfl, hB⟩))
  all_goals
    have hB' : Below w.heap.size w w' := (below_drawn (Below.refl _ w) _).trans hB
    have hcmp := H1.out
    go_wp2_with fail
    go_step3
    simp only [Exit.then, fwd_goto]
    refine ⟨trivial, ?_⟩
    go_wp2
    rw [Exit.noGoto_ret]
    go_ret2
    exact ⟨rfl, hB'⟩

set_option maxHeartbeats 2000000 in
theorem open_right_cap (b off cap n : Nat) (l : List Int) (z0 z1 : Int) (w : World) (hr : Row w w.heap.size (some ⟨b, off, none⟩) (u8s (l ++ [z0, z1]))) (hz : ∀ z ∈ l ++ [z0, z1], IsByte z) (hzl : n ≤ 1099511627776) (hn : n = l.length + 2) (hcap : n ≤ cap) (hgood : valB (bitsOf [z0, z1]) = sumB l) :
    Calls Try.prog 26 #[.slice (some ⟨b, off, none⟩) n cap] w fun e w' => ∃ A' c', e = .returned (.tuple #[.slice A' l.length c', .int .i64 0]) ∧ Row w' w'.heap.size A' (u8s l) ∧ l.length ≤ c' ∧ Below w.heap.size w w' := by
  obtain ⟨b', off', e, hb, hc⟩ := hr (by simp [u8s])
  cases e
  have c0 := hc l.length (.int .u8 z0) (by simp [u8s])
  have c1 := hc (l.length + 1) (.int .u8 z1) (by simp [u8s])
  have h0 : IsByte z0 := hz _ (by simp)
  have h1 : IsByte z1 := hz _ (by simp)
  have hrl : Row w w.heap.size (some ⟨b, off, none⟩) (u8s l) := by
    have := hr.take l.length
    rwa [u8s_append, List.take_left' (u8s_length l)] at this
  have hzl' : ∀ z ∈ l, IsByte z := fun z h => hz z (by simp [h])
  have hb2 : (numS (valB (bitsOf [z0, z1])) != numS (sumB l)) = false := by
    rw [bne, u16_beq]; simp [hgood]
  clear hc hr hz
  have e1 : (n : Int) - 2 = (l.length : Int) := by omega
  have H1 := Lib.hid hb2
  have HN := Lib.hid hn
  clear hb2 hn hgood
  go_enter Try.func26, Try.ntmps26
  go_wp2_with fail
  refine wp_scope_fwd (l := 0) rfl ?_
  go_wp2_with fail
  go_region_with (first
    | (go_at_call 34; (refine (told_any _ _ _ _ z0 z1 _ h0 h1 (by have := HN.out; omega) (by exact c0) (by exact c1)).mono ?_); rintro e w' ⟨rfl, nt, rfl⟩)
    | (go_at_call 33; (refine (sum_n _ _ _ l _ (by exact hrl) hzl' (by have := HN.out; unfold maxLen; omega) rfl).mono ?_); rintro e w' ⟨rfl, hB⟩))
  all_goals
    have hB' : Below w.heap.size w w' := (below_drawn (Below.refl _ w) _).trans hB
    have hcmp := H1.out
    go_wp2_with fail
    refine (clone_cap b off cap l _ (by exact hrl.on hB') (by have := HN.out; omega)).mono ?_
    rintro e w2 ⟨A', c', rfl, hr2, hc2, hB2⟩
    go_wp2
    try rw [fwd_ret]
    go_ret2
    exact ⟨A', c', rfl, hr2, hc2, hB'.trans (hB2.mono hB'.size)⟩

theorem open_right (b off cap n : Nat) (l : List Int) (z0 z1 : Int) (w : World) (hr : Row w w.heap.size (some ⟨b, off, none⟩) (u8s (l ++ [z0, z1]))) (hz : ∀ z ∈ l ++ [z0, z1], IsByte z) (hzl : n ≤ 1099511627776) (hn : n = l.length + 2) (hcap : n ≤ cap) (hgood : valB (bitsOf [z0, z1]) = sumB l) :
    Calls Try.prog 26 #[.slice (some ⟨b, off, none⟩) n cap] w fun e w' => ∃ A' c', e = .returned (.tuple #[.slice A' l.length c', .int .i64 0]) ∧ Row w' w'.heap.size A' (u8s l) ∧ Below w.heap.size w w' :=
  (open_right_cap b off cap n l z0 z1 w hr hz hzl hn hcap hgood).mono fun e w' ⟨A', c', he, hr', _, hB⟩ => ⟨A', c', he, hr', hB⟩
end Go.Proofs.Ytgpofgepffhcnaa
