/- A list of operations in a box (no one looks into it), each in one step. -/
import Derived.Deep.CutRange
import Derived.RangeFuncNested
import Derived.RangeFuncBound
import Derived.RangeFuncCalls
import Derived.RangeFuncLeaves
import Derived.RangeFuncBox
import Derived.Shelf.Abstract
import Derived.Shelf.RegionOpen
import Derived.WalkKit
import Derived.OwnWalkIn
import Derived.TacticsInMore
import Derived.LoopNIn
import Derived.LoopIn
import Derived.WalkMore
import Derived.Test.YtljpiafopbfdlaaQHlD
namespace Go.Proofs.Ytljpiafopbfdlaa
open Go.RowKit Go.Shelf
set_option linter.unusedVariables false
set_option linter.unusedSimpArgs false

theorem exec_pickW {o : Oper} {a : Act} {c x y : Operand} (ho : o.op = .pick c x y) {b : Bool} (hc : a.eval c = .bool b) {v : Value} (hv : (if b then a.eval x else a.eval y) = v) {W : World} : (execOp a.eval o).run Try.prog W = .ok (.value v) W := by
  unfold execOp
  simp only [ho, hc, asBool, Sem.run_bind, Sem.run_pure, Result.andThen_ok, hv]
theorem exec_notW {o : Oper} {a : Act} {x : Operand} {t : TypeId} (ho : o.op = .unOp .not t x) {b : Bool} (hx : a.eval x = .bool b) {v : Bool} (hv : (!b) = v) {W : World} : (execOp a.eval o).run Try.prog W = .ok (.value (.bool v)) W := by
  unfold execOp
  simp only [ho, hx, Op.unary, Sem.run_bind, Sem.run_pure, Result.andThen_ok, hv]
  first | done | rfl
/-- A region's operations that are still to come, in a box. -/
structure WL (P : Program) (ops : Array Oper) (Q : Exit → Act → World → Prop) (l : List Oper) (a : Act) (w : World) : Prop where
  out : wpList P ops Q l a w
section
variable {P : Program} {ops : Array Oper} {rest : List Oper} {o : Oper} {a : Act} {w : World} {Q : Exit → Act → World → Prop}
theorem wl_in (h : WL P ops Q rest a w) : wpList P ops Q rest a w := h.out
theorem wl_out (h : wpList P ops Q rest a w) : WL P ops Q rest a w := ⟨h⟩
theorem wl_read (v : Value) (hw : Region.wanted o (yielded ops a.tmps) = true) (hv : (execOp a.eval o).run P w = .ok (.value v) w) (h : WL P ops Q rest (a.put o.dst v) w) : WL P ops Q (o :: rest) a w := ⟨wpList_read v hw hv h.out⟩
theorem wl_skip (hw : Region.wanted o (yielded ops a.tmps) = false) (h : WL P ops Q rest (a.put o.dst undef) w) : WL P ops Q (o :: rest) a w := ⟨wpList_skip hw h.out⟩
theorem wl_callv {f : FuncId} {args : Array Value} {v : Value} {T : World → Prop} (hw : Region.wanted o (yielded ops a.tmps) = true) (hv : (execOp a.eval o).run P w = .ok (.enter f args) w)
    (hc : Calls P f args w fun e w' => e = .returned v ∧ T w') (h : ∀ w', T w' → WL P ops Q rest (a.put o.dst v) w') : WL P ops Q (o :: rest) a w := ⟨wpList_callv hw hv hc fun w' t => (h w' t).out⟩
theorem wl_callx {f : FuncId} {args : Array Value} {T : Ending → World → Prop} (hw : Region.wanted o (yielded ops a.tmps) = true) (hv : (execOp a.eval o).run P w = .ok (.enter f args) w)
    (hc : Calls P f args w T) (h : ∀ e w', T e w' → ∃ v, e = .returned v ∧ WL P ops Q rest (a.put o.dst v) w') : WL P ops Q (o :: rest) a w := ⟨wpList_callx hw hv hc fun e w' t => by
  obtain ⟨v, e1, h1⟩ := h e w' t
  exact ⟨v, e1, h1.out⟩⟩
end

end Go.Proofs.Ytljpiafopbfdlaa
