/- Package join: its iterator of ports, made; blocks that are new count as its own. -/
import Derived.RangeFuncNested
import Derived.RangeFuncBound
import Derived.RangeFuncCalls
import Derived.RangeFuncLeaves
import Derived.RangeFuncBox
import Derived.Shelf.Abstract
import Derived.Shelf.RegionOpen
import Derived.WalkKit
import Derived.OwnWalkIn
import Derived.TacticsInMore
import Derived.LoopNIn
import Derived.LoopIn
import Derived.WalkMore
import Derived.Test.YtpppieffkklnhaaGreatDoorQJoinD
namespace Go.Proofs.YtpppieffkklnhaaGreatDoor
open Go.RowKit Go.Shelf
set_option linter.unusedVariables false
set_option linter.unusedSimpArgs false

attribute [local go_sem] Oper.semAt_some

theorem portsJ_any (l : Lay) (s : Int) (w : World) : Calls Tryz.prog 100 #[l.val, .int .i64 s] w fun e w' => e = .returned (.func (.func 105) #[] #[.pointer (some ⟨w.heap.size + 1, 0, none⟩), .pointer (some ⟨w.heap.size, 0, none⟩)]) ∧
    w' = (w.alloc (.cells #[.slice l.As l.secs.length l.cs, .slice l.Ag l.sigs.length l.cg, .slice l.Ae l.exits.length l.ce, .slice l.Af l.flanks.length l.cf, .int .i64 l.t0, .int .i64 l.t1, .int .i64 l.t2, .int .i64 l.t3, .int .i64 l.t4, .int .i64 l.t5, .int .i64 l.t6] 29)).alloc (.cells #[.int .i64 s] 3) := by
  go_enter Tryz.func100, Tryz.ntmps100
  go_wp2_with fail
  go_ret
  exact ⟨rfl, rfl⟩

/-- The blocks that are new count as its own. -/
def With (U : Nat → Prop) (W W' : World) : Nat → Prop := fun k => U k ∨ (W.heap.size ≤ k ∧ k < W'.heap.size)
theorem Grew.with {U : Nat → Prop} {W W' : World} (h : ∀ k, U k → k < W.heap.size) (hs : W.heap.size ≤ W'.heap.size) : Grew U (With U W W') W W' :=
  ⟨fun k hk => hk.imp id (fun h => h.1), fun k hk => hk.elim (fun hu => Nat.lt_of_lt_of_le (h k hu) hs) (fun h => h.2)⟩
end Go.Proofs.YtpppieffkklnhaaGreatDoor
