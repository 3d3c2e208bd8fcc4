/- among: does a list of numbers hold a number. -/
import Derived.Deep.CutRange
import Derived.RangeFuncNested
import Derived.RangeFuncBound
import Derived.RangeFuncCalls
import Derived.RangeFuncLeaves
import Derived.RangeFuncBox
import Derived.Shelf.Abstract
import Derived.Shelf.RegionOpen
import Derived.WalkKit
import Derived.OwnWalkIn
import Derived.TacticsInMore
import Derived.LoopNIn
import Derived.LoopIn
import Derived.WalkMore
import Derived.Test.YtljpiafopbfdlaaQHlE
namespace Go.Proofs.Ytljpiafopbfdlaa
open Go.RowKit Go.Shelf
set_option linter.unusedVariables false
set_option linter.unusedSimpArgs false

set_option maxRecDepth 100000 in
set_option maxHeartbeats 32000000 in
theorem among_any {A : Option Addr} {l : List Int} (c : Nat) (x : Int) {w : World} (hrow : Row w w.heap.size A (nums .i64 l)) (hn : (l.length : Int) ≤ 9223372036854775807) {r : Bool} (hr : decide (x ∈ l) = r) : Calls Try.prog 12 #[.slice A l.length c, .int .i64 x] w fun e w' => e = .returned (.bool r) ∧ Below w.heap.size w w' := by
  have HR := Lib.hid hr
  have HRW := Lib.hid hrow
  have hq := Below.refl w.heap.size w
  clear hr hrow
  go_enter Try.func12, Try.ntmps12
  go_wp2_with fail
  go_loopw [5] (fun i wr => ∃ j : Nat, j ≤ l.length ∧ i = .int .i64 j ∧ Below w.heap.size w wr ∧ Hid (∀ y ∈ l.take j, x ≠ y)) (fun i _ => l.length - (intOf i).toNat)
  case atStart => exact ⟨0, by omega, rfl, hq, Lib.hid (by simp)⟩
  case round =>
    clear hq
    obtain ⟨j, hj, rfl, hq, HNo⟩ := hrel
    by_cases hlt : j < l.length
    · have hlt' : (j : Int) < l.length := by omega
      obtain ⟨s, hs⟩ : ∃ s, l[j]? = some s := ⟨_, List.getElem?_eq_getElem hlt⟩
      obtain ⟨b1, o1, hA1, _, c1⟩ := (HRW.out.on hq).num hlt
      rw [hs] at c1
      rw [hA1]
      have HS := Lib.hid (And.intro hs hA1)
      clear hs hA1
      by_cases e : s = x
      · have e2 : (s == x) = true := by simp [e]
        have HF : Hid (true = r) := Lib.hid (by rw [← HR.out]; exact (decide_eq_true (by rw [← e]; exact List.mem_of_getElem? HS.out.1)).symm)
        clear e
        go_wp2_with fail
        go_ret
        exact ⟨ret_bool HF.out, hq⟩
      · have e2 : (s == x) = false := by simp [e]
        have HN : Hid (∀ y ∈ l.take (j + 1), x ≠ y) := Lib.hid (by
          intro y hy
          rw [List.take_add_one, HS.out.1, Option.toList_some, List.mem_append, List.mem_singleton] at hy
          rcases hy with hy | rfl
          · exact HNo.out y hy
          · exact fun h => e h.symm)
        clear e
        go_wp2_with fail
        go_roundw
        case rel => exact ⟨j + 1, hlt, by go_num, hq, HN⟩
        case measure => simp [intOf]; omega
    · obtain rfl : j = l.length := by omega
      have HF : Hid (false = r) := Lib.hid (by rw [← HR.out]; exact (decide_eq_false (fun h => HNo.out x (by rw [List.take_length]; exact h) rfl)).symm)
      go_wp2_with fail
      go_ret
      exact ⟨ret_bool HF.out, hq⟩

end Go.Proofs.Ytljpiafopbfdlaa
