/- Bits put together: other bits turned, one kept. -/
import Derived.Test.YtniihmafbeplaaaDoorQLiA
namespace Go.Proofs.YtniihmafbeplaaaDoor
open Go.RowKit Go.Shelf
set_option linter.unusedVariables false
set_option linter.unusedSimpArgs false

theorem bv_of {x : Int} (h : 0 ≤ x ∧ x ≤ 4294967295) : ∃ X : BitVec 32, x = (X.toNat : Int) := by
  obtain ⟨a, rfl⟩ := Int.eq_ofNat_of_zero_le h.1
  exact ⟨BitVec.ofNat 32 a, by rw [BitVec.toNat_ofNat, Nat.mod_eq_of_lt (by omega)]⟩
theorem bv_range (X : BitVec 32) : 0 ≤ (X.toNat : Int) ∧ (X.toNat : Int) ≤ 4294967295 := by have := X.isLt; omega
theorem bv_wrap (X : BitVec 32) : IntKind.u32.wrap (X.toNat : Int) = (X.toNat : Int) := by
  have := X.isLt
  show (X.toNat : Int) % 4294967296 = _
  omega
theorem bv_and (X Y : BitVec 32) : bits BinOp.and IntKind.u32 (X.toNat : Int) (Y.toNat : Int) = ((X &&& Y).toNat : Int) := by
  show IntKind.u32.wrap ((BitVec.ofInt 32 (X.toNat : Int) &&& BitVec.ofInt 32 (Y.toNat : Int)).toNat : Int) = _
  rw [BitVec.ofInt_natCast, BitVec.ofInt_natCast, BitVec.ofNat_toNat, BitVec.ofNat_toNat, BitVec.setWidth_eq, BitVec.setWidth_eq, bv_wrap]
theorem bv_or (X Y : BitVec 32) : bits BinOp.or IntKind.u32 (X.toNat : Int) (Y.toNat : Int) = ((X ||| Y).toNat : Int) := by
  show IntKind.u32.wrap ((BitVec.ofInt 32 (X.toNat : Int) ||| BitVec.ofInt 32 (Y.toNat : Int)).toNat : Int) = _
  rw [BitVec.ofInt_natCast, BitVec.ofInt_natCast, BitVec.ofNat_toNat, BitVec.ofNat_toNat, BitVec.setWidth_eq, BitVec.setWidth_eq, bv_wrap]
theorem bv_andNot (X Y : BitVec 32) : bits BinOp.andNot IntKind.u32 (X.toNat : Int) (Y.toNat : Int) = ((X &&& ~~~Y).toNat : Int) := by
  show IntKind.u32.wrap ((BitVec.ofInt 32 (X.toNat : Int) &&& ~~~BitVec.ofInt 32 (Y.toNat : Int)).toNat : Int) = _
  rw [BitVec.ofInt_natCast, BitVec.ofInt_natCast, BitVec.ofNat_toNat, BitVec.ofNat_toNat, BitVec.setWidth_eq, BitVec.setWidth_eq, bv_wrap]
theorem bv_bit (X : BitVec 32) (k : Nat) : bitU (X.toNat : Int) k = X.getLsbD k := by
  unfold bitU
  rw [show ((X.toNat : Nat) : Int) / 2 ^ k % 2 = ((X.toNat / 2 ^ k % 2 : Nat) : Int) by norm_cast]
  show _ = X.toNat.testBit k
  rw [Nat.testBit_eq_decide_div_mod_eq, decide_eq_decide]
  omega
def oneU (k : Nat) : Int := ((BitVec.twoPow 32 k).toNat : Int)
theorem one_eq {k : Nat} (h : k < 24) : (2 : Int) ^ k % 4294967296 = oneU k := by
  unfold oneU
  rw [BitVec.toNat_twoPow_of_lt (by omega)]
  have hl : (2 : Nat) ^ k < 2 ^ 24 := Nat.pow_lt_pow_right (by omega) h
  rw [show ((2 : Int) ^ k) = ((2 ^ k : Nat) : Int) by simp]
  generalize (2 : Nat) ^ k = z at *
  omega
/-- a's bit k, x's others. -/
def putU (a x : Int) (k : Nat) : Int := bits BinOp.or IntKind.u32 (bits BinOp.and IntKind.u32 a (oneU k)) (bits BinOp.andNot IntKind.u32 x (oneU k))
theorem putU_spec {a x : Int} (ha : 0 ≤ a ∧ a ≤ 4294967295) (hx : 0 ≤ x ∧ x ≤ 4294967295) {k : Nat} (hk : k < 24) : (0 ≤ putU a x k ∧ putU a x k ≤ 4294967295) ∧ bitU (putU a x k) k = bitU a k := by
  obtain ⟨A, rfl⟩ := bv_of ha
  obtain ⟨X, rfl⟩ := bv_of hx
  unfold putU oneU
  rw [bv_and, bv_andNot, bv_or]
  refine ⟨bv_range _, ?_⟩
  rw [bv_bit, bv_bit, BitVec.getLsbD_or, BitVec.getLsbD_and, BitVec.getLsbD_and, BitVec.getLsbD_not, BitVec.getLsbD_twoPow]
  have : k < 32 := by omega
  simp [this]
theorem mask_and {m m' : Nat} (h1 : m < 2 ^ 32) (h2 : m' < 2 ^ 32) {k : Nat} (h : bitU (m : Int) k = bitU (m' : Int) k) : bits BinOp.and IntKind.u32 (m : Int) (oneU k) = bits BinOp.and IntKind.u32 (m' : Int) (oneU k) := by
  obtain ⟨A, hA⟩ := bv_of (x := (m : Int)) (by omega)
  obtain ⟨B, hB⟩ := bv_of (x := (m' : Int)) (by omega)
  rw [hA, hB] at h ⊢
  unfold oneU
  rw [bv_and, bv_and, BitVec.and_twoPow, BitVec.and_twoPow]
  rw [bv_bit, bv_bit] at h
  rw [h]
def otherI (im : Img) (x : Inn) (k : Nat) : Inn := ⟨putU im.o x.o k, putU im.n x.n k, putU im.r x.r k, putU im.p x.p k⟩
theorem other_wf {im : Img} (hi : im.Wf) {x : Inn} (hx : x.Wf) {k : Nat} (hk : k < 24) : (otherI im x k).Wf := ⟨(putU_spec hi.o hx.o hk).1, (putU_spec hi.n hx.n hk).1, (putU_spec hi.r hx.r hk).1, (putU_spec hi.p hx.p hk).1⟩
section
variable {l : Lay} {im : Img} (hi : im.Wf) {x : Inn} (hx : x.Wf) {k : Nat} (hk : k < 24)
include hi hx hk
theorem other_occ : occI l (im.told (otherI im x k)) (k : Int) = occI l im (k : Int) := by
  unfold occI
  rw [Int.toNat_natCast, told_clear hi (by omega), told_clear (Img.told_wf hi (other_wf hi hx hk)) (by omega)]
  unfold clearI
  rw [show bitU (im.told (otherI im x k)).o k = bitU im.o k from (putU_spec hi.o hx.o hk).2]
  rfl
theorem other_told (m : Nat) : told15 l (im.told (otherI im x k)) (k : Int) m (im.told (otherI im x k)).o = told15 l im (k : Int) m im.o := by
  unfold told15 toldI
  rw [Int.toNat_natCast, show bitU (im.told (otherI im x k)).o k = bitU im.o k from (putU_spec hi.o hx.o hk).2]
  rfl
theorem other_lit (m : Nat) : told15 l (im.told (otherI im x k)) (k : Int) m (im.told (otherI im x k)).p = told15 l im (k : Int) m im.p := by
  unfold told15 toldI
  rw [Int.toNat_natCast, show bitU (im.told (otherI im x k)).p k = bitU im.p k from (putU_spec hi.p hx.p hk).2]
  rfl
theorem other_at : atI l (im.told (otherI im x k)) (k : Int) = atI l im (k : Int) := by
  unfold atI toldI
  rw [Int.toNat_natCast, show bitU (im.told (otherI im x k)).n k = bitU im.n k from (putU_spec hi.n hx.n hk).2, show bitU (im.told (otherI im x k)).r k = bitU im.r k from (putU_spec hi.r hx.r hk).2]
  rfl
theorem other_mask : bits BinOp.and IntKind.u32 ((maskI l (im.told (otherI im x k)) : Nat) : Int) (oneU k) = bits BinOp.and IntKind.u32 ((maskI l im : Nat) : Int) (oneU k) := by
  have b1 := maskJ_lt32 (occN l (im.told (otherI im x k))) (cnt_le l)
  have b2 := maskJ_lt32 (occN l im) (cnt_le l)
  refine mask_and (by unfold maskI; omega) (by unfold maskI; omega) ?_
  unfold maskI
  rw [maskJ_U, maskJ_U]
  unfold occN
  rw [other_occ hi hx hk]
end

end Go.Proofs.YtniihmafbeplaaaDoor
