/- The laws' own layout of one section, what is too great; of layer 11. -/
import Derived.Test.YtlfpkileblmhoaaGreatDoorQRouH
import Derived.Test.YtlfpkileblmhoaaGreatDoorQGreatJ
namespace Go.Proofs.YtlfpkileblmhoaaGreatDoor
open Go.RowKit Go.Shelf
set_option linter.unusedVariables false
set_option linter.unusedSimpArgs false

def one11 (gs gg ge : Nat) : Lay := ⟨[⟨1, -1, 0, -1, 0, -1, 0, -1, 0, 0, 0⟩], some ⟨gs, 0, none⟩, 1, [(0, 0)], some ⟨gg, 0, none⟩, 1, [⟨0, 1, none, 0, []⟩], some ⟨ge, 0, none⟩, 1, [], none, 0, 1, 1, 1, 1, 1, 1, 1⟩
structure One11At (gs gg ge : Nat) (w : World) : Prop where
  secs : Whole w gs 56 ((one11 gs gg ge).secs.flatMap Sec.cells)
  sigs : Whole w gg 48 ((one11 gs gg ge).sigs.flatMap prtCells)
  exits : Whole w ge 59 ((one11 gs gg ge).exits.flatMap Exm.cells)
theorem One11At.closed (gs gg ge : Nat) : Closed (One11At gs gg ge) := fun w w' h hb => ⟨h.secs.below hb h.secs.lt, h.sigs.below hb h.sigs.lt, h.exits.below hb h.exits.lt⟩
theorem one11_lies {gs gg ge : Nat} {w : World} (h : One11At gs gg ge w) : Lies (one11 gs gg ge) w :=
  ⟨h.secs.row h.secs.lt, h.sigs.row h.sigs.lt, h.exits.row h.exits.lt, Row.nil _ _ _, (fun x hx => by simp [one11] at hx; subst hx; exact Row.nil _ _ _), (fun x hx => by simp [one11] at hx; subst hx; simp), by simp [one11], by simp [one11], by simp [one11], by simp [one11], (fun x hx => by simp [one11] at hx; subst hx; simp)⟩
set_option maxRecDepth 100000 in
set_option maxHeartbeats 8000000 in
theorem one11_any (w : World) : Calls Tryz.prog 28 #[] w fun e w' => ∃ gs gg ge, e = .returned (one11 gs gg ge).val ∧ One11At gs gg ge w' ∧ Below w.heap.size w w' := by
  go_enter Tryz.func28, Tryz.ntmps28
  go_wp2_with fail
  have hW := fun (o1 o2 o3 o4 : Obj) => ((((Whole.new w 29 [.slice (some ⟨w.heap.size + 1 + 1, 0, none⟩) 1 1, .slice (some ⟨w.heap.size + 1 + 1 + 1, 0, none⟩) 1 1, .slice (some ⟨w.heap.size + 1 + 1 + 1 + 1, 0, none⟩) 1 1, .slice none 0 0, .int .i64 1, .int .i64 1, .int .i64 1, .int .i64 1, .int .i64 1, .int .i64 1, .int .i64 1]).alloc o1).alloc o2).alloc o3).alloc o4
  have e0 := fun o1 o2 o3 o4 => (hW o1 o2 o3 o4).cell_at 0 rfl
  have e1 := fun o1 o2 o3 o4 => (hW o1 o2 o3 o4).cell_at 1 rfl
  have e2 := fun o1 o2 o3 o4 => (hW o1 o2 o3 o4).cell_at 2 rfl
  have e3 := fun o1 o2 o3 o4 => (hW o1 o2 o3 o4).cell_at 3 rfl
  have e4 := fun o1 o2 o3 o4 => (hW o1 o2 o3 o4).cell_at 4 rfl
  have e5 := fun o1 o2 o3 o4 => (hW o1 o2 o3 o4).cell_at 5 rfl
  have e6 := fun o1 o2 o3 o4 => (hW o1 o2 o3 o4).cell_at 6 rfl
  have e7 := fun o1 o2 o3 o4 => (hW o1 o2 o3 o4).cell_at 7 rfl
  have e8 := fun o1 o2 o3 o4 => (hW o1 o2 o3 o4).cell_at 8 rfl
  have e9 := fun o1 o2 o3 o4 => (hW o1 o2 o3 o4).cell_at 9 rfl
  have e10 := fun o1 o2 o3 o4 => (hW o1 o2 o3 o4).cell_at 10 rfl
  clear hW
  refine bodyPost_ret (v := (one11 (w.heap.size + 1 + 1) (w.heap.size + 1 + 1 + 1) (w.heap.size + 1 + 1 + 1 + 1)).val) ?_ rfl ⟨_, _, _, rfl, ⟨((Whole.new_at _ _ [_, _, _, _, _, _, _, _, _, _, _] _ (by simp)).alloc _).alloc _, (Whole.new_at _ _ [_, _] _ (by simp)).alloc _, Whole.new_at _ _ [_, _, _] _ (by simp)⟩, ((below3 w _ _ _).alloc (by simp; omega) _).alloc (by simp; omega) _⟩
  simp [results, Tryz.f28, go_sem, one11, e0, e1, e2, e3, e4, e5, e6, e7, e8, e9, e10]

def great11 (l : Lay) (p : Pth) : Bool := greatJ l || decide (30 < p.ss.length)
set_option maxRecDepth 100000 in
set_option maxHeartbeats 8000000 in
theorem great11_any {l : Lay} {p : Pth} {w : World} (hL : Lies l w) {r : Bool} (hr : great11 l p = r) : Calls Tryz.prog 8 #[l.val, p.val] w fun e w' => e = .returned (.bool r) ∧ Below w.heap.size w w' := by
  obtain ⟨Q, HQ, HQb, HQl, HQp, hq⟩ := keep_lp l p w
  have HTW : ∀ W, Q W → Lies l W := fun W hW => Lies.closed l _ _ hL (HQb.out W hW)
  obtain ⟨g, hg⟩ : ∃ g, greatJ l = g := ⟨_, rfl⟩
  have KG := Lib.hid (fun W hW => greatJ_P (P := Q) (w := W) HQ.out HTW hg hW)
  have HR : Hid ((g || decide (30 < p.ss.length)) = r) := Lib.hid (by rw [← hr, ← hg]; rfl)
  clear hr hg HTW hL
  go_enter Tryz.func8, Tryz.ntmps8
  have m0 := HQl.out _ hq
  have x0 := m0.cell_at 0 rfl
  have x1 := m0.cell_at 1 rfl
  have x2 := m0.cell_at 2 rfl
  have x3 := m0.cell_at 3 rfl
  have x4 := m0.cell_at 4 rfl
  have x5 := m0.cell_at 5 rfl
  have x6 := m0.cell_at 6 rfl
  have x7 := m0.cell_at 7 rfl
  have x8 := m0.cell_at 8 rfl
  have x9 := m0.cell_at 9 rfl
  have x10 := m0.cell_at 10 rfl
  clear m0
  have m0 := HQp.out _ hq
  have y0 := m0.cell_at 0 rfl
  have y1 := m0.cell_at 1 rfl
  have y2 := m0.cell_at 2 rfl
  clear m0
  go_wp2_with fail
  refine (KG.out _ hq).mono ?_
  clear hq x0 x1 x2 x3 x4 x5 x6 x7 x8 x9 x10 y0 y1 y2
  rintro e w1 ⟨rfl, hq⟩
  cases g
  rotate_left
  · go_wp2_with fail
    go_ret
    exact ⟨ret_bool (by rw [← HR.out]; rfl), HQb.out _ hq⟩
  have y2 := (HQp.out _ hq).cell_at 2 rfl
  by_cases h : 30 < p.ss.length
  · have h' : (30 : Int) < p.ss.length := by omega
    have HF : Hid (true = r) := Lib.hid (by rw [← HR.out, decide_eq_true h]; rfl)
    clear h
    go_wp2_with fail
    go_ret
    exact ⟨by rw [← HF.out]; first | rfl | simp [h'], HQb.out _ hq⟩
  · have h' : ¬ (30 : Int) < p.ss.length := by omega
    have HF : Hid (false = r) := Lib.hid (by rw [← HR.out, decide_eq_false h]; rfl)
    clear h
    go_wp2_with fail
    go_ret
    exact ⟨by rw [← HF.out]; first | rfl | simp [h'], HQb.out _ hq⟩

theorem o11_check (gs gg ge : Nat) (A : Option Addr) (c : Nat) : check11 (one11 gs gg ge) ⟨0, 0, A, c, [(0, 0, 1)]⟩ [] = 0 := by kernel_rfl
theorem o11_via (gs gg ge : Nat) (A : Option Addr) (c : Nat) : check11 (one11 gs gg ge) ⟨0, 0, A, c, [(0, 0, 1)]⟩ [0] = 0 := by kernel_rfl
theorem o11_no (gs gg ge : Nat) (A : Option Addr) (c : Nat) : check11 (one11 gs gg ge) ⟨0, 0, A, c, [(0, 0, 1)]⟩ [1] = 2 := by kernel_rfl
theorem o11_q (gs gg ge : Nat) (A : Option Addr) (c : Nat) : check11 (one11 gs gg ge) ⟨0, 0, A, c, [(0, 1, 0)]⟩ [] = 110 := by kernel_rfl
theorem o11_two (gs gg ge : Nat) (A : Option Addr) (c : Nat) : check11 (one11 gs gg ge) ⟨0, 0, A, c, [(0, 0, 1)]⟩ [0, 0] = 110 := by kernel_rfl
theorem o11_sig (gs gg ge : Nat) : check11 (one11 gs gg ge) ⟨1, 0, none, 0, []⟩ [] = 2 := by kernel_rfl
theorem o11_goes (gs gg ge : Nat) : goesS (one11 gs gg ge) [(0, 0, 1)] = true := by kernel_rfl
theorem o11_stay (gs gg ge : Nat) : goesS (one11 gs gg ge) [(0, 0, 0)] = false := by kernel_rfl
end Go.Proofs.YtlfpkileblmhoaaGreatDoor
