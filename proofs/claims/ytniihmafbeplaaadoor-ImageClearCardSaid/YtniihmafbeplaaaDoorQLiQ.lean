/- Operations that only hand values on: each in one step, the operand's value told by definition (quick in a frame of two hundred slots). -/
import Derived.Test.YtniihmafbeplaaaDoorQLiA
namespace Go.Proofs.YtniihmafbeplaaaDoor
open Go.RowKit Go.Shelf
set_option linter.unusedVariables false
set_option linter.unusedSimpArgs false

theorem exec_move {o : Oper} {a : Act} {x : Operand} (ho : o.op = .move x) {v : Value} (hx : a.eval x = v) {W : World} : (execOp a.eval o).run Tryd.prog W = .ok (.value v) W := by
  unfold execOp
  simp only [ho, hx, Sem.run_pure]
theorem exec_assign {o : Oper} {a : Act} {x : Operand} (ho : o.op = .assign x) {v : Value} (hx : a.eval x = v) {W : World} : (execOp a.eval o).run Tryd.prog W = .ok (.value v) W := by
  unfold execOp
  simp only [ho, hx, Sem.run_pure]
theorem exec_pick {o : Oper} {a : Act} {c x y : Operand} (ho : o.op = .pick c x y) {b : Bool} (hc : a.eval c = .bool b) {v : Value} (hv : (if b then a.eval x else a.eval y) = v) {W : World} : (execOp a.eval o).run Tryd.prog W = .ok (.value v) W := by
  unfold execOp
  simp only [ho, hc, asBool, Sem.run_bind, Sem.run_pure, Result.andThen_ok, hv]
theorem exec_not {o : Oper} {a : Act} {x : Operand} {t : TypeId} (ho : o.op = .unOp .not t x) {b : Bool} (hx : a.eval x = .bool b) {v : Bool} (hv : (!b) = v) {W : World} : (execOp a.eval o).run Tryd.prog W = .ok (.value (.bool v)) W := by
  unfold execOp
  simp only [ho, hx, Op.unary, Sem.run_bind, Sem.run_pure, Result.andThen_ok, hv]
  first | done | rfl
/-- A region's operations that are still to come, in a box: so that no one looks into it ('refine' reckons what it is handed as far as a 'for all': through each operation that is skipped). -/
structure WL (P : Program) (ops : Array Oper) (Q : Exit → Act → World → Prop) (l : List Oper) (a : Act) (w : World) : Prop where
  out : wpList P ops Q l a w
section
variable {P : Program} {ops : Array Oper} {rest : List Oper} {o : Oper} {a : Act} {w : World} {Q : Exit → Act → World → Prop}
theorem wl_in (h : WL P ops Q rest a w) : wpList P ops Q rest a w := h.out
theorem wl_out (h : wpList P ops Q rest a w) : WL P ops Q rest a w := ⟨h⟩
theorem wl_read (v : Value) (hw : Region.wanted o (yielded ops a.tmps) = true) (hv : (execOp a.eval o).run P w = .ok (.value v) w) (h : WL P ops Q rest (a.put o.dst v) w) : WL P ops Q (o :: rest) a w := ⟨wpList_read v hw hv h.out⟩
theorem wl_skip (hw : Region.wanted o (yielded ops a.tmps) = false) (h : WL P ops Q rest (a.put o.dst undef) w) : WL P ops Q (o :: rest) a w := ⟨wpList_skip hw h.out⟩
theorem wl_callv {f : FuncId} {args : Array Value} {v : Value} {T : World → Prop} (hw : Region.wanted o (yielded ops a.tmps) = true) (hv : (execOp a.eval o).run P w = .ok (.enter f args) w)
    (hc : Calls P f args w fun e w' => e = .returned v ∧ T w') (h : ∀ w', T w' → WL P ops Q rest (a.put o.dst v) w') : WL P ops Q (o :: rest) a w := ⟨wpList_callv hw hv hc fun w' t => (h w' t).out⟩
end

end Go.Proofs.YtniihmafbeplaaaDoor
