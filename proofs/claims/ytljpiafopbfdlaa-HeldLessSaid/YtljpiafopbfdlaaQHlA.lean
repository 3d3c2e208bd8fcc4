/- Package held: a route that is held by value; which steps are still held: path, overlap. -/
import Derived.Laws.EntriesVeiled
import Derived.Lib.MinMax
import Derived.RangeFuncNested
import Derived.RangeFuncBound
import Derived.RangeFuncCalls
import Derived.RangeFuncLeaves
import Derived.RangeFuncBox
import Derived.Shelf.Abstract
import Derived.Shelf.RegionOpen
import Derived.WalkKit
import Derived.OwnWalkIn
import Derived.TacticsInMore
import Derived.LoopNIn
import Derived.LoopIn
import Derived.WalkMore
import Derived.Deep.CutRange
import Derived.Test.YtljpiafopbfdlaaQHlP
import Derived.Test.YtljpiafopbfdlaaQAr
import Derived.Test.YtljpiafopbfdlaaQAq
import Derived.Test.YtljpiafopbfdlaaQAs
namespace Go.Proofs.Ytljpiafopbfdlaa
open Go.RowKit Go.Shelf
set_option linter.unusedVariables false
set_option linter.unusedSimpArgs false

theorem hld_len (h : Hld) : h.cells.length = 23 := rfl
theorem hld_desc : ∃ d, Try.prog.underlying 28 = some d ∧ d.isRow = true := ⟨_, Try.underlying28, rfl⟩
theorem hld_info : (Try.prog.info? 28).map (·.size) = some 23 := by kernel_rfl
theorem load_hld {h : Hld} {g : Nat} {W : World} (hb : Whole W g 28 h.cells) : (Instr.loadAt 28 (.pointer (some ⟨g, 0, none⟩))).run Try.prog W = .ok (.agg h.cells.toArray) W := by
  obtain ⟨d, h1, h2⟩ := hld_desc
  exact run_loadAt_mid W g 0 _ h.cells d (fun j v hv => by rw [Nat.zero_add]; exact hb.cell_at j hv) h1 h2 (by rw [hld_len]; exact hld_info)
theorem exec_hld {h : Hld} {o : Oper} {a : Act} {x : Operand} (ho : o.op = .load 28 x) {g : Nat} (hx : a.eval x = .pointer (some ⟨g, 0, none⟩)) {W : World} (hb : Whole W g 28 h.cells) : (execOp a.eval o).run Try.prog W = .ok (.value (.agg h.cells.toArray)) W := by
  unfold execOp
  simp only [ho, hx, Sem.run_bind, load_hld hb, Result.andThen_ok, Sem.run_pure]
theorem exec_move {o : Oper} {a : Act} {x : Operand} (ho : o.op = .move x) {v : Value} (hx : a.eval x = v) {W : World} : (execOp a.eval o).run Try.prog W = .ok (.value v) W := by
  unfold execOp
  simp only [ho, hx, Sem.run_pure]
theorem exec_assign {o : Oper} {a : Act} {x : Operand} (ho : o.op = .assign x) {v : Value} (hx : a.eval x = v) {W : World} : (execOp a.eval o).run Try.prog W = .ok (.value v) W := by
  unfold execOp
  simp only [ho, hx, Sem.run_pure]
theorem wpList_read {P : Program} {ops : Array Oper} {rest : List Oper} {o : Oper} {a : Act} {w : World} {Q : Exit → Act → World → Prop} (v : Value) (hw : Region.wanted o (yielded ops a.tmps) = true) (hv : (execOp a.eval o).run P w = .ok (.value v) w)
    (h : wpList P ops Q rest (a.put o.dst v) w) : wpList P ops Q (o :: rest) a w :=
  wpList_step fun K hK => by
    rw [if_pos hw]
    unfold Oper.wp
    rw [hv]
    exact hK _ _ h
theorem wpList_skip {P : Program} {ops : Array Oper} {rest : List Oper} {o : Oper} {a : Act} {w : World} {Q : Exit → Act → World → Prop} (hw : Region.wanted o (yielded ops a.tmps) = false)
    (h : wpList P ops Q rest (a.put o.dst undef) w) : wpList P ops Q (o :: rest) a w :=
  wpList_step fun K hK => by
    rw [if_neg (by rw [hw]; decide)]
    exact hK _ _ h
theorem wpList_callv {P : Program} {ops : Array Oper} {rest : List Oper} {o : Oper} {a : Act} {w : World} {Q : Exit → Act → World → Prop} {f : FuncId} {args : Array Value} {v : Value} {T : World → Prop} (hw : Region.wanted o (yielded ops a.tmps) = true) (hv : (execOp a.eval o).run P w = .ok (.enter f args) w)
    (hc : Calls P f args w fun e w' => e = .returned v ∧ T w') (h : ∀ w', T w' → wpList P ops Q rest (a.put o.dst v) w') : wpList P ops Q (o :: rest) a w :=
  wpList_step fun K hK => by
    rw [if_pos hw]
    unfold Oper.wp
    rw [hv]
    refine hc.mono ?_
    rintro e w' ⟨rfl, ht⟩
    exact hK _ _ (h w' ht)
theorem wpList_calle {P : Program} {ops : Array Oper} {rest : List Oper} {o : Oper} {a : Act} {w : World} {Q : Exit → Act → World → Prop} {f : FuncId} {args : Array Value} {T : Value → World → Prop} (hw : Region.wanted o (yielded ops a.tmps) = true) (hv : (execOp a.eval o).run P w = .ok (.enter f args) w)
    (hc : Calls P f args w fun e w' => ∃ v, e = .returned v ∧ T v w') (h : ∀ v w', T v w' → wpList P ops Q rest (a.put o.dst v) w') : wpList P ops Q (o :: rest) a w :=
  wpList_step fun K hK => by
    rw [if_pos hw]
    unfold Oper.wp
    rw [hv]
    refine hc.mono ?_
    rintro e w' ⟨v, rfl, ht⟩
    exact hK _ _ (h v w' ht)
theorem keep_h {P : World → Prop} (hP : Closed P) {w : World} (hp : P w) (h : Hld) :
    ∃ Q : World → Prop, Hid (Closed Q) ∧ Hid (∀ W, Q W → P W) ∧ Hid (∀ W, Q W → Whole W w.heap.size 28 h.cells) ∧ Q (w.alloc (.cells h.cells.toArray 28)) :=
  ⟨fun W => P W ∧ Whole W w.heap.size 28 h.cells, Lib.hid (hP.and (Closed.whole _ _ _)), Lib.hid (fun _ h => h.1), Lib.hid (fun _ h => h.2), hP _ _ hp (below1 w _), Whole.new w _ h.cells⟩

/-- Where the steps lie that are still held. -/
def pathA (h : Hld) : Option Addr := fromA h.p.A h.p.c h.gn
def lapA (h : Hld) : Option Addr := if h.op then none else h.oA
def lapC (h : Hld) : Nat := if h.op then 0 else h.oc
abbrev pathV (h : Hld) : Value := .slice (pathA h) h.path.length (h.p.c - h.gn)
abbrev lapV (h : Hld) : Value := .slice (lapA h) h.lap.length (lapC h)
theorem path_row {h : Hld} {w : World} {B : Nat} (hr : Row w B h.p.A (h.p.ss.flatMap stpCells)) (hc : h.p.ss.length ≤ h.p.c) : Row w B (pathA h) (h.path.flatMap stpCells) := row_from hr (gn_le h) hc
theorem lap_row {h : Hld} {w : World} {B : Nat} (hr : Row w B h.oA (h.os.flatMap stpCells)) : Row w B (lapA h) (h.lap.flatMap stpCells) := by
  unfold lapA Hld.lap
  cases h.op
  · exact hr
  · exact fun hp => absurd hp (by simp)
theorem gn_int {h : Hld} : min (max h.gone 0) (h.p.ss.length : Int) = (h.gn : Nat) := by unfold Hld.gn; omega
set_option maxRecDepth 100000 in
set_option maxHeartbeats 8000000 in
theorem path_any {h : Hld} (hl : (h.p.ss.length : Int) ≤ 9223372036854775807) (w : World) : Calls Try.prog 34 #[h.val] w fun e w' => e = .returned (pathV h) ∧ Below w.heap.size w w' := by
  obtain ⟨Q, HQ, HQb, HQh, hq⟩ := keep_h (Closed.below w) (Below.refl _ w) h
  have hmin := gn_int (h := h)
  have x7 := (HQh.out _ hq).cell_at 7 rfl
  have x3 := (HQh.out _ hq).cell_at 3 rfl
  have HRUN := Lib.hid fun W => slice_from h.p.A h.p.ss.length h.p.c h.gn (gn_le h) W
  rw [← path_len] at HRUN
  go_enter Try.func34, Try.ntmps34
  go_wp2_with (refine list_slice rfl 22 (.tmp 14) (some (.tmp 15)) none none rfl (HRUN.out _) ?_)
  go_ret
  exact ⟨rfl, HQb.out _ hq⟩
set_option maxRecDepth 100000 in
set_option maxHeartbeats 8000000 in
theorem overlap_any {h : Hld} (w : World) : Calls Try.prog 50 #[h.val] w fun e w' => e = .returned (lapV h) ∧ Below w.heap.size w w' := by
  obtain ⟨Q, HQ, HQb, HQh, hq⟩ := keep_h (Closed.below w) (Below.refl _ w) h
  have x4 := (HQh.out _ hq).cell_at 4 rfl
  have xk : ∃ b, h.op = b := ⟨_, rfl⟩
  obtain ⟨b, hb⟩ := xk
  have x20 : (w.alloc (Obj.cells h.cells.toArray 28)).cell? ⟨w.heap.size, 20, none⟩ = some (.bool b) := by rw [← hb]; exact (HQh.out _ hq).cell_at 20 rfl
  cases b
  · have HV : Hid (lapV h = .slice h.oA h.os.length h.oc) := Lib.hid (by unfold lapV lapA lapC Hld.lap; rw [hb]; rfl)
    clear hb
    go_enter Try.func50, Try.ntmps50
    go_wp2_with fail
    go_ret
    exact ⟨by rw [HV.out]; rfl, HQb.out _ hq⟩
  · have HV : Hid (lapV h = .slice none 0 0) := Lib.hid (by unfold lapV lapA lapC Hld.lap; rw [hb]; rfl)
    clear hb
    go_enter Try.func50, Try.ntmps50
    go_wp2_with fail
    go_ret
    exact ⟨by rw [HV.out]; rfl, HQb.out _ hq⟩
set_option maxRecDepth 100000 in
set_option maxHeartbeats 8000000 in
theorem over_any {h : Hld} (hl : (h.p.ss.length : Int) ≤ 9223372036854775807) (w : World) {r : Bool} (hr : h.over = r) : Calls Try.prog 17 #[h.val] w fun e w' => e = .returned (.bool r) ∧ Below w.heap.size w w' := by
  obtain ⟨Q, HQ, HQb, HQh, hq⟩ := keep_h (Closed.below w) (Below.refl _ w) h
  have KP := Lib.hid fun W => path_any hl W
  have HR := Lib.hid hr
  obtain ⟨W0, hW0⟩ : ∃ W0, w.alloc (.cells h.cells.toArray 28) = W0 := ⟨_, rfl⟩
  clear hr hl
  rw [hW0] at hq
  have HW0 := Lib.hid hW0
  clear hW0
  go_enter Try.func17, Try.ntmps17
  go_upto_region 1 with (fail)
  rw [HW0.out]
  clear HW0
  apply wp_region_lit
  repeat (first | (refine wpList_skip (by rfl) ?_; simp only [Act.put, List.setIfInBounds_toArray, List.set_cons_zero, List.set_cons_succ]) | (refine wpList_read _ (by rfl) (exec_hld (by rfl) (by rfl) (HQh.out _ hq)) ?_; simp only [Act.put, List.setIfInBounds_toArray, List.set_cons_zero, List.set_cons_succ]) | (refine wpList_read _ (by rfl) (by (go_simp; first | done | with_reducible rfl)) ?_; simp only [Act.put, List.setIfInBounds_toArray, List.set_cons_zero, List.set_cons_succ]))
  refine wpList_callv (by rfl) (by (go_simp; first | done | rfl)) (KP.out _) (fun w1 hB1 => ?_)
  simp only [Act.put, List.setIfInBounds_toArray, List.set_cons_zero, List.set_cons_succ]
  replace hq := HQ.out _ _ hq hB1
  clear hB1
  obtain ⟨b, hb⟩ : ∃ b, h.op = b := ⟨_, rfl⟩
  have x20 : w1.cell? ⟨w.heap.size, 20, none⟩ = some (.bool b) := by rw [← hb]; exact (HQh.out _ hq).cell_at 20 rfl
  have HE : Hid ((decide (h.path.length = 0) && b) = r) := Lib.hid (by rw [← HR.out, Hld.over, hb])
  clear hb
  obtain ⟨n, hn⟩ : ∃ n, h.path.length = n := ⟨_, rfl⟩
  unfold pathV
  rw [hn] at HE ⊢
  clear hn KP HR
  by_cases h0 : n = 0
  · subst h0
    go_wp2_with fail
    go_ret
    exact ⟨ret_bool (by rw [← HE.out]; rfl), HQb.out _ hq⟩
  · have h1 : ((n : Int) == 0) = false := by simp; omega
    have HF : Hid (false = r) := Lib.hid (by rw [← HE.out]; simp [h0])
    clear h0 HE
    go_wp2_with fail
    go_ret
    exact ⟨ret_bool HF.out, HQb.out _ hq⟩
set_option maxRecDepth 100000 in
set_option maxHeartbeats 8000000 in
theorem great_any {h : Hld} (w : World) {r : Bool} (hr : h.small = r) : Calls Try.prog 7 #[h.val] w fun e w' => e = .returned (.bool (!r)) ∧ Below w.heap.size w w' := by
  obtain ⟨Q, HQ, HQb, HQh, hq⟩ := keep_h (Closed.below w) (Below.refl _ w) h
  have x3 := (HQh.out _ hq).cell_at 3 rfl
  have x4 := (HQh.out _ hq).cell_at 4 rfl
  have x5 := (HQh.out _ hq).cell_at 5 rfl
  have HR : Hid ((decide (h.p.ss.length ≤ 30) && (decide (h.os.length ≤ 20) && decide (h.ns.length ≤ 60))) = r) := Lib.hid hr
  obtain ⟨n1, e1⟩ : ∃ n, h.p.ss.length = n := ⟨_, rfl⟩
  obtain ⟨n2, e2⟩ : ∃ n, h.os.length = n := ⟨_, rfl⟩
  obtain ⟨n3, e3⟩ : ∃ n, h.ns.length = n := ⟨_, rfl⟩
  rw [e1, e2, e3] at HR
  rw [e1] at x3
  rw [e2] at x4
  rw [e3] at x5
  clear hr e1 e2 e3
  by_cases h1 : n1 ≤ 30
  · have d1 : decide (30 < (n1 : Int)) = false := decide_eq_false (by omega)
    by_cases h2 : n2 ≤ 20
    · have d2 : decide (20 < (n2 : Int)) = false := decide_eq_false (by omega)
      by_cases h3 : n3 ≤ 60
      · have d3 : decide (60 < (n3 : Int)) = false := decide_eq_false (by omega)
        have HF : Hid (true = r) := Lib.hid (by rw [← HR.out]; simp [h1, h2, h3])
        clear h1 h2 h3 HR
        go_enter Try.func7, Try.ntmps7
        go_wp2_with fail
        go_ret
        exact ⟨by rw [← HF.out]; simp, HQb.out _ hq⟩
      · have d3 : decide (60 < (n3 : Int)) = true := decide_eq_true (by omega)
        have HF : Hid (false = r) := Lib.hid (by rw [← HR.out]; simp [h3])
        clear h1 h2 h3 HR
        go_enter Try.func7, Try.ntmps7
        go_wp2_with fail
        go_ret
        exact ⟨by rw [← HF.out]; simp, HQb.out _ hq⟩
    · have d2 : decide (20 < (n2 : Int)) = true := decide_eq_true (by omega)
      have HF : Hid (false = r) := Lib.hid (by rw [← HR.out]; simp [h2])
      clear h1 h2 HR
      go_enter Try.func7, Try.ntmps7
      go_wp2_with fail
      go_ret
      exact ⟨by rw [← HF.out]; simp, HQb.out _ hq⟩
  · have d1 : decide (30 < (n1 : Int)) = true := decide_eq_true (by omega)
    have HF : Hid (false = r) := Lib.hid (by rw [← HR.out]; simp [h1])
    clear h1 HR
    go_enter Try.func7, Try.ntmps7
    go_wp2_with fail
    go_ret
    exact ⟨by rw [← HF.out]; simp, HQb.out _ hq⟩

end Go.Proofs.Ytljpiafopbfdlaa
