/- Bits of numbers as quotients and remainders. -/
import Derived.WalkKit
namespace Go.Proofs.YtbalcbnlpgekaaaDoor
set_option linter.unusedVariables false

theorem low_bit_i64 (x : Int) (h0 : 0 ≤ x) (h1 : x ≤ 9223372036854775807) : bits BinOp.and IntKind.i64 x 1 = x % 2 := by
  obtain ⟨a, rfl⟩ := Int.eq_ofNat_of_zero_le h0
  have ha : (BitVec.ofInt 64 (a : Int)).toNat = a := by rw [BitVec.ofInt_natCast, BitVec.toNat_ofNat]; omega
  show IntKind.i64.wrap ((BitVec.ofInt 64 (a : Int) &&& 1#64).toNat : Int) = _
  rw [BitVec.toNat_and, ha, show (1#64 : BitVec 64).toNat = 1 from rfl, Nat.and_one_is_mod, IntKind.wrap_i64]
  omega

theorem low_bit_u8 (x : Int) (h0 : 0 ≤ x) (h1 : x ≤ 255) : bits BinOp.and IntKind.u8 x 1 = x % 2 := by
  obtain ⟨a, rfl⟩ := Int.eq_ofNat_of_zero_le h0
  have ha : (BitVec.ofInt 8 (a : Int)).toNat = a := by rw [BitVec.ofInt_natCast, BitVec.toNat_ofNat]; omega
  show IntKind.u8.wrap ((BitVec.ofInt 8 (a : Int) &&& 1#8).toNat : Int) = _
  rw [BitVec.toNat_and, ha, show (1#8 : BitVec 8).toNat = 1 from rfl, Nat.and_one_is_mod, IntKind.wrap_u8]
  omega
end Go.Proofs.YtbalcbnlpgekaaaDoor
