/- A step turned about; which bits a mask has (pure). -/
import Derived.Test.YthjnhigcheakaaaDoorQBeM
namespace Go.Proofs.YthjnhigcheakaaaDoor
open Go.RowKit Go.Shelf
set_option linter.unusedVariables false
set_option linter.unusedSimpArgs false

theorem joinV_symm (a b i o : Int) : joinV a b i o = joinV a b o i := by unfold joinV; rw [Bool.or_comm]
theorem wayK_turned (k i o : Int) : wayK k i o = wayK k o i := by unfold wayK wayV; rw [joinV_symm, joinV_symm (cK k)]
theorem goesK_turned (k i o : Int) : goesK k i o = goesK k o i := by unfold goesK goesV; rw [joinV_symm, joinV_symm (cK k)]
theorem stepV_turned (l : Lay) (s i o : Int) : stepV l s i o = stepV l s o i := goesK_turned _ _ _
theorem point_turned (l : Lay) (s i o : Int) : pointV l s i o = pointV l s o i := by unfold pointV; rw [stepV_turned, wayK_turned]
theorem isFlk_turned (l : Lay) (s i o : Int) : isFlk l s i o = isFlk l s o i := funext fun f => by unfold isFlk; rw [stepV_turned, wayK_turned]
theorem wants_turned (l : Lay) (s i o k : Int) : wantsV l s i o k = wantsV l s o i k := by unfold wantsV firstV flanksV; rw [point_turned, isFlk_turned]
theorem class_turned (l : Lay) (s i o : Int) : classV l s i o = classV l s o i := by unfold classV; rw [stepV_turned, wayK_turned]
theorem maskBit_test (s : Int) (k : Nat) : (maskBit s).testBit k = (decide (k < 24) && decide (s = (k : Int))) := by
  unfold maskBit
  split
  · rename_i h
    rw [Nat.testBit_two_pow]
    by_cases hk : s = (k : Int)
    · rw [decide_eq_true (by omega), decide_eq_true (by omega), decide_eq_true hk]; rfl
    · rw [decide_eq_false (by omega), decide_eq_false hk, Bool.and_false]
  · rename_i h
    rw [Nat.zero_testBit]
    by_cases hk : s = (k : Int)
    · rw [decide_eq_false (by omega)]; rfl
    · rw [decide_eq_false hk, Bool.and_false]
theorem maskN_test {l : List (Int × Int × Int)} {k : Nat} (hk : k < 24) : (maskN l).testBit k = l.any (fun x => x.1 == (k : Int)) := by
  induction l with
  | nil => simp [maskN]
  | cons x l ih =>
    rw [show x :: l = [x] ++ l from rfl, maskN_append, maskN_one, Nat.testBit_or, ih, maskBit_test, decide_eq_true hk, Bool.true_and, List.any_append]
    simp
    rfl
theorem and_one {m k : Nat} (hm : m < 2 ^ 24) : bits BinOp.and IntKind.u32 ((m / 2 ^ k : Nat) : Int) 1 = if m.testBit k = true then 1 else 0 := by
  have hd : m / 2 ^ k < 2 ^ 24 := Nat.lt_of_le_of_lt (Nat.div_le_self _ _) hm
  show IntKind.u32.wrap ((BitVec.ofInt 32 ((m / 2 ^ k : Nat) : Int) &&& 1#32).toNat : Int) = _
  rw [BitVec.ofInt_natCast, BitVec.toNat_and, BitVec.toNat_ofNat, Nat.mod_eq_of_lt (by omega)]
  have h1 : (m / 2 ^ k) &&& (1#32).toNat = (m / 2 ^ k) % 2 := by show _ &&& 1 = _; rw [Nat.and_one_is_mod]
  rw [h1, Nat.testBit_eq_decide_div_mod_eq]
  have h2 := Nat.mod_lt (m / 2 ^ k) (show 0 < 2 by omega)
  show (((m / 2 ^ k % 2 : Nat) : Int)) % 4294967296 = _
  by_cases h3 : m / 2 ^ k % 2 = 1
  · rw [h3]; simp
  · have : m / 2 ^ k % 2 = 0 := by omega
    rw [this]; simp
end Go.Proofs.YthjnhigcheakaaaDoor
