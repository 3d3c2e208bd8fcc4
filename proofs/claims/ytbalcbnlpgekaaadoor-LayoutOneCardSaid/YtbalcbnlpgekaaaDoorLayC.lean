/- Package layout: At. -/
import Derived.Test.YtbalcbnlpgekaaaDoorLayB
namespace Go.Proofs.YtbalcbnlpgekaaaDoor
open Go.RowKit Go.Shelf
set_option linter.unusedVariables false
set_option linter.unusedSimpArgs false

def Sec.zero : Sec := ⟨0, 0, 0, 0, 0, 0, 0, 0, 0, 0, 0⟩
/-- The section of a port. -/
def atV (l : Lay) (s p : Int) : Sec := if thereV l s p = true then (l.secs[s.toNat]?).getD Sec.zero else Sec.zero
theorem atV_no {l : Lay} {s p : Int} (h : thereV l s p = false) : atV l s p = Sec.zero := by unfold atV; rw [h]; rfl
theorem atV_yes {l : Lay} {s p : Int} (h : thereV l s p = true) : ∃ (j : Nat), s = j ∧ l.secs[j]? = some (atV l s p) := by
  obtain ⟨j, x, rfl, hx⟩ := thereV_some h
  refine ⟨j, rfl, ?_⟩
  unfold atV
  rw [if_pos h, Int.toNat_natCast, hx]
  rfl
theorem keep_box3 {P : World → Prop} (hP : Closed P) {w : World} (h : P w) (t t' t'' : TypeId) (vs us rs : List Value) :
    ∃ Q : World → Prop, Hid (Closed Q) ∧ Hid (∀ W, Q W → P W) ∧ Hid (∀ W, Q W → Whole W w.heap.size t vs) ∧ Hid (∀ W, Q W → Whole W (w.heap.size + 1) t' us) ∧ Hid (∀ W, Q W → Whole W (w.heap.size + 1 + 1) t'' rs) ∧ Hid (∀ W, Q W → Below w.heap.size w W) ∧ Q (((w.alloc (.cells vs.toArray t)).alloc (.cells us.toArray t')).alloc (.cells rs.toArray t'')) :=
  ⟨fun W => (((P W ∧ Whole W w.heap.size t vs) ∧ Whole W (w.heap.size + 1) t' us) ∧ Whole W (w.heap.size + 1 + 1) t'' rs) ∧ Below w.heap.size w W, Lib.hid ((((hP.and (Closed.whole _ t vs)).and (Closed.whole _ t' us)).and (Closed.whole _ t'' rs)).and (Closed.below w)), Lib.hid (fun _ h => h.1.1.1.1), Lib.hid (fun _ h => h.1.1.1.2), Lib.hid (fun _ h => h.1.1.2), Lib.hid (fun _ h => h.1.2), Lib.hid (fun _ h => h.2),
   ⟨⟨⟨hP _ _ h (below3 w _ _ _), ((Whole.new w t vs).alloc _).alloc _⟩, (Whole.new_at _ t' us _ (by simp)).alloc _⟩, Whole.new_at _ t'' rs _ (by simp)⟩, below3 w _ _ _⟩
/-- Eleven cells are laid over eleven. -/
theorem whole_over {W : World} {g : Nat} {t : TypeId} {a b : Sec} (h : Whole W g t a.cells) :
    Whole ((((((((((((W.setCell ⟨g, 0, none⟩ (.int .u8 b.k)).setCell ⟨g, 1, none⟩ (.int .i64 b.s0)).setCell ⟨g, 2, none⟩ (.int .i64 b.q0)).setCell ⟨g, 3, none⟩ (.int .i64 b.s1)).setCell ⟨g, 4, none⟩ (.int .i64 b.q1)).setCell ⟨g, 5, none⟩ (.int .i64 b.s2)).setCell ⟨g, 6, none⟩ (.int .i64 b.q2)).setCell ⟨g, 7, none⟩ (.int .i64 b.s3)).setCell ⟨g, 8, none⟩ (.int .i64 b.q3)).setCell ⟨g, 9, none⟩ (.int .i64 b.c0)).setCell ⟨g, 10, none⟩ (.int .i64 b.c1))) g t b.cells :=
  ((((((((((h.set 0 _).set 1 _).set 2 _).set 3 _).set 4 _).set 5 _).set 6 _).set 7 _).set 8 _).set 9 _).set 10 _
theorem below_over {W w0 : World} {n g : Nat} {b : Sec} (h : Below n w0 W) (hg : n ≤ g) :
    Below n w0 ((((((((((((W.setCell ⟨g, 0, none⟩ (.int .u8 b.k)).setCell ⟨g, 1, none⟩ (.int .i64 b.s0)).setCell ⟨g, 2, none⟩ (.int .i64 b.q0)).setCell ⟨g, 3, none⟩ (.int .i64 b.s1)).setCell ⟨g, 4, none⟩ (.int .i64 b.q1)).setCell ⟨g, 5, none⟩ (.int .i64 b.s2)).setCell ⟨g, 6, none⟩ (.int .i64 b.q2)).setCell ⟨g, 7, none⟩ (.int .i64 b.s3)).setCell ⟨g, 8, none⟩ (.int .i64 b.q3)).setCell ⟨g, 9, none⟩ (.int .i64 b.c0)).setCell ⟨g, 10, none⟩ (.int .i64 b.c1))) :=
  ((((((((((h.setCell (p := ⟨g, 0, none⟩) hg _).setCell (p := ⟨g, 1, none⟩) hg _).setCell (p := ⟨g, 2, none⟩) hg _).setCell (p := ⟨g, 3, none⟩) hg _).setCell (p := ⟨g, 4, none⟩) hg _).setCell (p := ⟨g, 5, none⟩) hg _).setCell (p := ⟨g, 6, none⟩) hg _).setCell (p := ⟨g, 7, none⟩) hg _).setCell (p := ⟨g, 8, none⟩) hg _).setCell (p := ⟨g, 9, none⟩) hg _).setCell (p := ⟨g, 10, none⟩) hg _

section
variable {P : World → Prop} {w : World}
set_option maxRecDepth 100000 in
set_option maxHeartbeats 8000000 in
theorem at_P (hP : Closed P) (hT : ∀ w, P w → Shapes w) {l : Lay} (hL : ∀ w, P w → Lies l w) (s p : Int) {x : Sec} {r : Bool} (hx : atV l s p = x) (hr : thereV l s p = r) (h : P w) :
    Calls Tryd.prog 10 #[l.val, prtV s p] w fun e w' => e = .returned (.tuple #[x.val, .bool r]) ∧ P w' := by
  obtain ⟨Q, HQ, HQp, HQl, HQv, HQr, HQb, hq⟩ := keep_box3 hP h 29 31 39 l.cells (prtCells (s, p)) [.int .u8 0, .int .i64 0, .int .i64 0, .int .i64 0, .int .i64 0, .int .i64 0, .int .i64 0, .int .i64 0, .int .i64 0, .int .i64 0, .int .i64 0]
  have HPt := Lib.hid (fun W hW => portThere_P (P := Q) (w := W) HQ.out (fun W hW => hT _ (HQp.out _ hW)) (fun W hW => hL _ (HQp.out _ hW)) s p hr hW)
  have HPP := Lib.hid (fun W (hB : Below w.heap.size w W) => hP _ _ h hB)
  clear h
  cases r
  · obtain rfl := hx.symm.trans (atV_no hr)
    clear hr
    have hW := hq
    have m0 := HQl.out _ hW
    have x0 := m0.cell_at 0 rfl
    have x1 := m0.cell_at 1 rfl
    have x2 := m0.cell_at 2 rfl
    have x3 := m0.cell_at 3 rfl
    have x4 := m0.cell_at 4 rfl
    have x5 := m0.cell_at 5 rfl
    have x6 := m0.cell_at 6 rfl
    have x7 := m0.cell_at 7 rfl
    have x8 := m0.cell_at 8 rfl
    have x9 := m0.cell_at 9 rfl
    have x10 := m0.cell_at 10 rfl
    clear m0
    have m1 := HQv.out _ hW
    have v0 := m1.cell_at 0 rfl
    have v1 := m1.cell_at 1 rfl
    clear m1
    clear hW
    go_enter Tryd.func10, Tryd.ntmps10
    go_wp2_with fail
    refine wp_scope_fwd (l := 0) rfl ?_
    go_wp2_with fail
    refine (HPt.out _ hq).mono ?_
    clear x0 x1 x2 x3 x4 x5 x6 x7 x8 x9 x10 v0 v1 hq
    rintro e w1 ⟨rfl, hq⟩
    go_wp2_with fail
    go_step3
    simp only [Exit.then, fwd_goto]
    refine ⟨trivial, ?_⟩
    have hW := HQr.out _ hq
    have f0 := hW.frozen 0
    have f1 := hW.frozen 1
    have f2 := hW.frozen 2
    have f3 := hW.frozen 3
    have f4 := hW.frozen 4
    have f5 := hW.frozen 5
    have f6 := hW.frozen 6
    have f7 := hW.frozen 7
    have f8 := hW.frozen 8
    have f9 := hW.frozen 9
    have f10 := hW.frozen 10
    have z0 := hW.cell_at 0 rfl
    have z1 := hW.cell_at 1 rfl
    have z2 := hW.cell_at 2 rfl
    have z3 := hW.cell_at 3 rfl
    have z4 := hW.cell_at 4 rfl
    have z5 := hW.cell_at 5 rfl
    have z6 := hW.cell_at 6 rfl
    have z7 := hW.cell_at 7 rfl
    have z8 := hW.cell_at 8 rfl
    have z9 := hW.cell_at 9 rfl
    have z10 := hW.cell_at 10 rfl
    go_wp2_with fail
    rw [Exit.noGoto_ret]
    have hWo := whole_over (a := Sec.zero) (b := Sec.zero) hW
    have hBo := below_over (b := Sec.zero) (HQb.out _ hq) (show w.heap.size ≤ w.heap.size + 1 + 1 by omega)
    have e0 := hWo.cell_at 0 rfl
    have e1 := hWo.cell_at 1 rfl
    have e2 := hWo.cell_at 2 rfl
    have e3 := hWo.cell_at 3 rfl
    have e4 := hWo.cell_at 4 rfl
    have e5 := hWo.cell_at 5 rfl
    have e6 := hWo.cell_at 6 rfl
    have e7 := hWo.cell_at 7 rfl
    have e8 := hWo.cell_at 8 rfl
    have e9 := hWo.cell_at 9 rfl
    have e10 := hWo.cell_at 10 rfl
    refine bodyPost_ret (v := .tuple #[Sec.zero.val, .bool false]) ?_ rfl ⟨rfl, HPP.out _ hBo⟩
    unfold Sec.zero at *
    simp [results, Tryd.f10, go_sem, e0, e1, e2, e3, e4, e5, e6, e7, e8, e9, e10]
  · obtain ⟨j, rfl, hj⟩ := atV_yes hr
    rw [hx] at hj
    have HX := Lib.hid hj
    have hlt : (j : Int) < l.secs.length := by have := (List.getElem?_eq_some_iff.1 hj).1; omega
    clear hr hx hj
    have hW := hq
    have m0 := HQl.out _ hW
    have x0 := m0.cell_at 0 rfl
    have x1 := m0.cell_at 1 rfl
    have x2 := m0.cell_at 2 rfl
    have x3 := m0.cell_at 3 rfl
    have x4 := m0.cell_at 4 rfl
    have x5 := m0.cell_at 5 rfl
    have x6 := m0.cell_at 6 rfl
    have x7 := m0.cell_at 7 rfl
    have x8 := m0.cell_at 8 rfl
    have x9 := m0.cell_at 9 rfl
    have x10 := m0.cell_at 10 rfl
    clear m0
    have m1 := HQv.out _ hW
    have v0 := m1.cell_at 0 rfl
    have v1 := m1.cell_at 1 rfl
    clear m1
    clear hW
    go_enter Tryd.func10, Tryd.ntmps10
    go_wp2_with fail
    refine wp_scope_fwd (l := 0) rfl ?_
    go_wp2_with fail
    refine (HPt.out _ hq).mono ?_
    clear x0 x1 x2 x3 x4 x5 x6 x7 x8 x9 x10 v0 v1 hq
    rintro e w1 ⟨rfl, hq⟩
    have hW := HQr.out _ hq
    have x0 := (HQl.out _ hq).cell_at 0 rfl
    have v0 := (HQv.out _ hq).cell_at 0 rfl
    obtain ⟨b, off, hA, hb, hc0, hc⟩ := (hL _ (HQp.out _ hq)).secs.nth Sec.len (by omega) HX.out
    have c0 := hc0 j x _ HX.out rfl
    have c1 := hc j x 1 _ HX.out rfl
    have c2 := hc j x 2 _ HX.out rfl
    have c3 := hc j x 3 _ HX.out rfl
    have c4 := hc j x 4 _ HX.out rfl
    have c5 := hc j x 5 _ HX.out rfl
    have c6 := hc j x 6 _ HX.out rfl
    have c7 := hc j x 7 _ HX.out rfl
    have c8 := hc j x 8 _ HX.out rfl
    have c9 := hc j x 9 _ HX.out rfl
    have c10 := hc j x 10 _ HX.out rfl
    clear hc0 hc
    have f0 := hW.frozen 0
    have f1 := hW.frozen 1
    have f2 := hW.frozen 2
    have f3 := hW.frozen 3
    have f4 := hW.frozen 4
    have f5 := hW.frozen 5
    have f6 := hW.frozen 6
    have f7 := hW.frozen 7
    have f8 := hW.frozen 8
    have f9 := hW.frozen 9
    have f10 := hW.frozen 10
    have z0 := hW.cell_at 0 rfl
    have z1 := hW.cell_at 1 rfl
    have z2 := hW.cell_at 2 rfl
    have z3 := hW.cell_at 3 rfl
    have z4 := hW.cell_at 4 rfl
    have z5 := hW.cell_at 5 rfl
    have z6 := hW.cell_at 6 rfl
    have z7 := hW.cell_at 7 rfl
    have z8 := hW.cell_at 8 rfl
    have z9 := hW.cell_at 9 rfl
    have z10 := hW.cell_at 10 rfl
    go_wp2_with fail
    rw [fwd_ret]
    have hWo := whole_over (a := Sec.zero) (b := x) hW
    have hBo := below_over (b := x) (HQb.out _ hq) (show w.heap.size ≤ w.heap.size + 1 + 1 by omega)
    clear c0 c1 c2 c3 c4 c5 c6 c7 c8 c9 c10 z0 z1 z2 z3 z4 z5 z6 z7 z8 z9 z10
    have e0 := hWo.cell_at 0 rfl
    have e1 := hWo.cell_at 1 rfl
    have e2 := hWo.cell_at 2 rfl
    have e3 := hWo.cell_at 3 rfl
    have e4 := hWo.cell_at 4 rfl
    have e5 := hWo.cell_at 5 rfl
    have e6 := hWo.cell_at 6 rfl
    have e7 := hWo.cell_at 7 rfl
    have e8 := hWo.cell_at 8 rfl
    have e9 := hWo.cell_at 9 rfl
    have e10 := hWo.cell_at 10 rfl
    refine bodyPost_ret (v := .tuple #[x.val, .bool true]) ?_ rfl ⟨rfl, HPP.out _ hBo⟩
    simp [results, Tryd.f10, go_sem, e0, e1, e2, e3, e4, e5, e6, e7, e8, e9, e10]
end
end Go.Proofs.YtbalcbnlpgekaaaDoor
