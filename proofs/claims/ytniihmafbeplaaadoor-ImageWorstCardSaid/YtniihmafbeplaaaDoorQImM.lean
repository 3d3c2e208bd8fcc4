/- Masks: their bits; the document's own Mask. -/
import Derived.Deep.CutRange
import Derived.Test.YtniihmafbeplaaaDoorQY
namespace Go.Proofs.YtniihmafbeplaaaDoor
open Go.RowKit Go.Shelf
set_option linter.unusedVariables false
set_option linter.unusedSimpArgs false

def maskJ (f : Nat → Bool) : Nat → Nat
  | 0 => 0
  | j + 1 => maskJ f j + if f j then 2 ^ j else 0
theorem maskJ_lt (f : Nat → Bool) : ∀ j, maskJ f j < 2 ^ j
  | 0 => by simp [maskJ]
  | j + 1 => by
    have := maskJ_lt f j
    unfold maskJ
    rw [Nat.pow_succ]
    split <;> omega
theorem maskJ_lt32 (f : Nat → Bool) {j : Nat} (h : j ≤ 24) : maskJ f j < 2 ^ 24 := Nat.lt_of_lt_of_le (maskJ_lt f j) (Nat.pow_le_pow_right (by omega) h)
theorem maskJ_bit (f : Nat → Bool) : ∀ (j k : Nat), maskJ f j / 2 ^ k % 2 = if k < j ∧ f k = true then 1 else 0
  | 0, k => by simp [maskJ]
  | j + 1, k => by
    have ih := maskJ_bit f j k
    have hlt := maskJ_lt f j
    have hp : 0 < 2 ^ k := Nat.pow_pos (by omega)
    unfold maskJ
    by_cases hf : f j = true
    · rw [if_pos hf]
      rcases Nat.lt_trichotomy k j with h | h | h
      · obtain ⟨d, rfl⟩ : ∃ d, j = k + 1 + d := ⟨j - (k + 1), by omega⟩
        rw [show 2 ^ (k + 1 + d) = 2 ^ k * (2 * 2 ^ d) by rw [Nat.pow_add, Nat.pow_succ, Nat.mul_assoc], Nat.add_mul_div_left _ _ hp, Nat.add_mul_mod_self_left, ih]
        simp only [show k < k + 1 + d by omega, show k < k + 1 + d + 1 by omega, true_and]
      · subst h
        rw [Nat.add_div_right _ hp, Nat.div_eq_of_lt hlt]
        simp [hf]
      · have h2 : 2 ^ j * 2 ≤ 2 ^ k := by rw [← Nat.pow_succ]; exact Nat.pow_le_pow_right (by omega) (by omega)
        rw [Nat.div_eq_of_lt (by omega)]
        simp only [show ¬ k < j + 1 by omega, false_and, if_false]
        
    · rw [if_neg hf, Nat.add_zero, ih]
      rcases Nat.lt_trichotomy k j with h | h | h
      · simp only [h, show k < j + 1 by omega, true_and]
      · subst h; simp [hf]
      · simp only [show ¬ k < j by omega, show ¬ k < j + 1 by omega, false_and]
theorem maskJ_U (f : Nat → Bool) (j k : Nat) : bitU (maskJ f j : Nat) k = (decide (k < j) && f k) := by
  unfold bitU
  have := maskJ_bit f j k
  rw [show ((maskJ f j : Nat) : Int) / 2 ^ k % 2 = ((maskJ f j / 2 ^ k % 2 : Nat) : Int) by norm_cast, this]
  by_cases h1 : k < j <;> cases h2 : f k <;> simp [h1]
theorem or_mask {m j : Nat} (hm : m < 2 ^ j) (hj : j < 24) : bits BinOp.or IntKind.u32 (m : Int) ((2 : Int) ^ j % 4294967296) = ((m + 2 ^ j : Nat) : Int) := by
  have hp : 2 ^ j < 2 ^ 24 := Nat.pow_lt_pow_right (by omega) hj
  have hmn : m + 2 ^ j < 2 ^ 25 := by omega
  have e : (2 : Int) ^ j % 4294967296 = ((2 ^ j : Nat) : Int) := by
    rw [show ((2 : Int) ^ j) = ((2 ^ j : Nat) : Int) by simp]
    generalize (2 : Nat) ^ j = z at *
    omega
  rw [e]
  show IntKind.u32.wrap ((BitVec.ofInt 32 (m : Int) ||| BitVec.ofInt 32 ((2 ^ j : Nat) : Int)).toNat : Int) = _
  rw [BitVec.ofInt_natCast, BitVec.ofInt_natCast, BitVec.toNat_or, BitVec.toNat_ofNat, BitVec.toNat_ofNat, Nat.mod_eq_of_lt (by omega), Nat.mod_eq_of_lt (by omega), Nat.or_comm]
  have := Nat.two_pow_add_eq_or_of_lt hm 1
  rw [Nat.mul_one] at this
  rw [← this, Nat.add_comm]
  show ((m + 2 ^ j : Nat) : Int) % 4294967296 = _
  omega
def occN (l : Lay) (im : Img) (k : Nat) : Bool := occI l im (k : Int)
def maskI (l : Lay) (im : Img) : Nat := maskJ (occN l im) (cntI l)
set_option maxRecDepth 100000 in
set_option maxHeartbeats 8000000 in
theorem MaskR_B {l : Lay} {im : Img} (hi : im.Wf) {w : World} (h : Fld l w) {r : Nat} (hr : maskI l im = r) : Calls Tryd.prog 29 #[l.val, im.val] w fun e w' => e = .returned (.int .u32 (r : Nat)) ∧ Below w.heap.size w w' := by
  subst hr
  obtain ⟨Q, HQ, HQf, HQb, HQl, HQi, hq⟩ := keep_li h l.cells im.cells 29 35
  have KO : Hid (∀ (k : Nat) (W : World), Q W → Calls Tryd.prog 21 #[l.val, im.val, .int .i64 (k : Nat)] W fun e w' => e = .returned (.bool (occN l im k)) ∧ Below W.heap.size W w') := Lib.hid fun k W hW => OccR_B hi (HQf.out W hW) _ rfl
  have hc : cntI l = min l.secs.length 24 := rfl
  clear h
  go_enter Tryd.func29, Tryd.ntmps29
  go_wp2_with fail
  go_loopw [5, 6] (fun v i wr => ∃ j : Nat, j ≤ cntI l ∧ v = .int .u32 (maskJ (occN l im) j : Nat) ∧ i = .int .i64 j ∧ Q wr) (fun _ i _ => cntI l - (intOf i).toNat)
  case atStart => exact ⟨0, by omega, rfl, rfl, hq⟩
  case round =>
    clear hq
    obtain ⟨j, hj, rfl, rfl, hq⟩ := hrel
    obtain ⟨Wb, rfl⟩ : ∃ W, W = wr := ⟨wr, rfl⟩
    have x0 := (HQl.out _ hq).cell_at 0 rfl
    by_cases hlt : j < cntI l
    · have h1 : (j : Int) < (l.secs.length : Nat) := by omega
      have h2 : (j : Int) < 24 := by omega
      have h0 : (0 : Int) ≤ (j : Int) := by omega
      have h3 : (j : Int) ≤ 32 := by omega
      have hw64 : IntKind.u64.wrap (j : Int) = (j : Int) := by rw [IntKind.wrap_u64]; omega
      have HM := Lib.hid (maskJ_lt (occN l im) j)
      have HOR := Lib.hid (or_mask HM.out (by omega))
      obtain ⟨b, hb⟩ : ∃ b, occN l im j = b := ⟨_, rfl⟩
      obtain ⟨m', HM'⟩ : ∃ m', Hid (maskJ (occN l im) (j + 1) = m') := ⟨_, Lib.hid rfl⟩
      have HN : Hid (m' = maskJ (occN l im) j + if b then 2 ^ j else 0) := Lib.hid (by rw [← HM'.out, ← hb]; rfl)
      have KK : Hid (Calls Tryd.prog 21 #[l.val, im.val, .int .i64 (j : Nat)] Wb fun e w' => e = .returned (.bool b) ∧ Below Wb.heap.size Wb w') := Lib.hid (by have := KO.out j Wb hq; rw [hb] at this; exact this)
      have HLT := Lib.hid hlt
      clear hb hlt hj hc
      generalize maskJ (occN l im) j = m at *
      clear x0
      have m0 := HQl.out _ hq
      have x0 := m0.cell_at 0 rfl
      have x1 := m0.cell_at 1 rfl
      have x2 := m0.cell_at 2 rfl
      have x3 := m0.cell_at 3 rfl
      have x4 := m0.cell_at 4 rfl
      have x5 := m0.cell_at 5 rfl
      have x6 := m0.cell_at 6 rfl
      have x7 := m0.cell_at 7 rfl
      have x8 := m0.cell_at 8 rfl
      have x9 := m0.cell_at 9 rfl
      have x10 := m0.cell_at 10 rfl
      clear m0
      go_upto_region 5 with (fail)
      apply wp_region_lit
      repeat (first | (refine wpList_skip (by rfl) ?_; simp only [Act.put, List.setIfInBounds_toArray, List.set_cons_zero, List.set_cons_succ]) | (refine wpList_read _ (by rfl) (exec_img hi.len (by rfl) (by rfl) (HQi.out _ hq)) ?_; simp only [Act.put, List.setIfInBounds_toArray, List.set_cons_zero, List.set_cons_succ]) | (refine wpList_read _ (by rfl) (by (go_simp; first | done | with_reducible rfl)) ?_; simp only [Act.put, List.setIfInBounds_toArray, List.set_cons_zero, List.set_cons_succ]))
      refine wpList_callv (by rfl) (by (go_simp; first | done | rfl)) (KK.out) (fun w2 hB => ?_)
      simp only [Act.put, List.setIfInBounds_toArray, List.set_cons_zero, List.set_cons_succ]
      have hq := HQ.out _ _ hq hB
      have HQ1 := Lib.hid hq
      clear x0 x1 x2 x3 x4 x5 x6 x7 x8 x9 x10 hB hq
      cases b
      · have HE : Hid (m' = m) := Lib.hid (by rw [HN.out]; rfl)
        go_wp2_with fail
        go_roundw
        case rel => exact ⟨j + 1, HLT.out, by rw [HM'.out, HE.out], by go_num, HQ1.out⟩
        case measure => simp [intOf]; have := HLT.out; omega
      · have HE : Hid (m' = m + 2 ^ j) := Lib.hid (by rw [HN.out]; rfl)
        go_wp2_with fail
        go_roundw
        case rel => exact ⟨j + 1, HLT.out, by rw [HM'.out, HE.out, ← HOR.out], by go_num, HQ1.out⟩
        case measure => simp [intOf]; have := HLT.out; omega
    · obtain rfl : j = cntI l := by omega
      have HB := Lib.hid (HQb.out _ hq)
      have HE : Hid (maskJ (occN l im) (cntI l) = maskI l im) := Lib.hid rfl
      have hx : ((cntI l : Nat) : Int) < (l.secs.length : Nat) ∧ ¬ ((cntI l : Nat) : Int) < 24 ∨ ¬ ((cntI l : Nat) : Int) < (l.secs.length : Nat) := by omega
      clear hq hc hlt hj
      rcases hx with ⟨h1, h2⟩ | h1
      · go_wp2_with fail
        go_ret
        exact ⟨by rw [← HE.out]; rfl, HB.out⟩
      · go_wp2_with fail
        go_ret
        exact ⟨by rw [← HE.out]; rfl, HB.out⟩

end Go.Proofs.YtniihmafbeplaaaDoor
