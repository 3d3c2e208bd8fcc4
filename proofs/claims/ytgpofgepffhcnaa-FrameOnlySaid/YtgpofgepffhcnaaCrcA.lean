/- Small functions of package crc: a bit; what two bytes tell. And the document's own. -/
import Derived.Test.YtgpofgepffhcnaaChecked
import Derived.WalkKit
import Derived.BigQuiet
import Derived.Deep.QuietTactic
import Derived.Lib.Hide
import Derived.Test.YtgpofgepffhcnaaCrcMath
import Derived.Test.YtgpofgepffhcnaaBase
namespace Go.Proofs.Ytgpofgepffhcnaa
set_option linter.unusedVariables false
open Go.RowKit

/-- A state as a number. -/
def numS (s : BitVec 16) : Int := ((s.toNat : Nat) : Int)
theorem u16_inj {s t : BitVec 16} (h : numS s = numS t) : s = t := BitVec.eq_of_toNat_eq (by unfold numS at h; omega)
theorem u16_range (s : BitVec 16) : 0 ≤ numS s ∧ numS s ≤ 65535 := by unfold numS; have := s.isLt; omega
theorem u16_beq (s t : BitVec 16) : (numS s == numS t) = decide (s = t) := by
  rw [Bool.eq_iff_iff]; simp only [beq_iff_eq, decide_eq_true_eq]; exact ⟨u16_inj, fun h => by rw [h]⟩
theorem u16_of (n : Int) (h0 : 0 ≤ n) (h1 : n ≤ 65535) : ∃ s, numS s = n := ⟨BitVec.ofNat 16 n.toNat, by unfold numS; rw [BitVec.toNat_ofNat]; omega⟩
theorem ofInt_u16 (s : BitVec 16) : BitVec.ofInt 16 (numS s) = s := by
  unfold numS; rw [BitVec.ofInt_natCast]; exact BitVec.eq_of_toNat_eq (by rw [BitVec.toNat_ofNat]; have := s.isLt; omega)
theorem u16_wrap (s : BitVec 16) : IntKind.u16.wrap (numS s) = numS s := by rw [IntKind.wrap_u16]; have := u16_range s; omega
theorem u16_xor (s t : BitVec 16) : bits BinOp.xor IntKind.u16 (numS s) (numS t) = numS (s ^^^ t) := by
  show IntKind.u16.wrap ((BitVec.ofInt 16 (numS s) ^^^ BitVec.ofInt 16 (numS t)).toNat : Int) = _
  rw [ofInt_u16, ofInt_u16]; exact u16_wrap _
theorem u16_low (s : BitVec 16) : (bits BinOp.and IntKind.u16 (numS s) 1 == 1) = s.getLsbD 0 := by
  have e : bits BinOp.and IntKind.u16 (numS s) 1 = numS (s &&& 1#16) := by
    show IntKind.u16.wrap ((BitVec.ofInt 16 (numS s) &&& 1#16).toNat : Int) = _
    rw [ofInt_u16]; exact u16_wrap _
  rw [e, show (1 : Int) = numS 1#16 from rfl, u16_beq]
  rw [Bool.eq_iff_iff]
  simp only [decide_eq_true_eq]
  constructor
  · intro h
    have := congrArg (fun v => v.getLsbD 0) h
    simpa using this
  · intro h
    apply BitVec.eq_of_getLsbD_eq
    intro i hi
    cases i with
    | zero => rw [BitVec.getLsbD_and, h]; rfl
    | succ j => simp
theorem u16_half (s : BitVec 16) : numS s / (2 : Int) = numS (s >>> 1) := by
  unfold numS; rw [BitVec.toNat_ushiftRight, Nat.shiftRight_eq_div_pow]; omega
theorem u16_not (s : BitVec 16) : IntKind.u16.wrap (-numS s - 1) = numS (~~~ s) := by
  unfold numS; rw [IntKind.wrap_u16, BitVec.toNat_not]; have := s.isLt; omega

set_option maxHeartbeats 1000000 in
theorem bit_any (s : BitVec 16) (b : Bool) (w : World) :
    Calls Try.prog 39 #[.int .u16 (numS s), .bool b] w fun e w' => e = .returned (.int .u16 (numS (stepS s b))) ∧ w = w' := by
  have hl := u16_low s
  have hx : bits BinOp.xor IntKind.u16 (numS s / 2) 33800 = numS (s >>> 1 ^^^ 0x8408#16) := by rw [u16_half]; exact u16_xor (s >>> 1) 0x8408#16
  have HH := Lib.hid (u16_half s)
  have HX := Lib.hid hx
  clear hx
  have hr := u16_range s
  obtain ⟨r0, r1⟩ := hr
  have hS : stepS s b = if (s.getLsbD 0 != b) = true then s >>> 1 ^^^ 0x8408#16 else s >>> 1 := rfl
  have HS := Lib.hid hS
  clear hS
  generalize s.getLsbD 0 = p at *
  cases p <;> cases b
  all_goals
    go_enter Try.func39, Try.ntmps39
    go_wp2_with fail
    go_ret
    exact ⟨ret_int (by rw [HS.out]; first | exact HX.out | exact HH.out), rfl⟩

set_option maxHeartbeats 1000000 in
theorem bitR_any (s : BitVec 16) (b : Bool) (w : World) :
    Calls Try.prog 37 #[.int .u16 (numS s), .bool b] w fun e w' => e = .returned (.int .u16 (numS (stepS s b))) ∧ w = w' := by
  have hl := u16_low s
  have hx : bits BinOp.xor IntKind.u16 (numS s / 2) 33800 = numS (s >>> 1 ^^^ 0x8408#16) := by rw [u16_half]; exact u16_xor (s >>> 1) 0x8408#16
  have HH := Lib.hid (u16_half s)
  have HX := Lib.hid hx
  clear hx
  have hr := u16_range s
  obtain ⟨r0, r1⟩ := hr
  have hS : stepS s b = if (s.getLsbD 0 != b) = true then s >>> 1 ^^^ 0x8408#16 else s >>> 1 := rfl
  have HS := Lib.hid hS
  clear hS
  generalize s.getLsbD 0 = p at *
  cases p <;> cases b
  all_goals
    go_enter Try.func37, Try.ntmps37
    go_wp2_with fail
    go_ret
    exact ⟨ret_int (by rw [HS.out]; first | exact HX.out | exact HH.out), rfl⟩
end Go.Proofs.Ytgpofgepffhcnaa
