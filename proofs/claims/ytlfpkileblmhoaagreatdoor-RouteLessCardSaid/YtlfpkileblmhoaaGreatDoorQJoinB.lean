/- Package join: the end of a track, which ports there are, what lies beyond. -/
import Derived.Test.YtlfpkileblmhoaaGreatDoorQJoinA
import Derived.Test.YtlfpkileblmhoaaGreatDoorQB
import Derived.Test.YtlfpkileblmhoaaGreatDoorQD
namespace Go.Proofs.YtlfpkileblmhoaaGreatDoor
open Go.RowKit Go.Shelf
set_option linter.unusedVariables false
set_option linter.unusedSimpArgs false

theorem keep_boxV {P : World → Prop} (hP : Closed P) {w : World} (h : P w) (t : TypeId) (vs : List Value) :
    ∃ Q : World → Prop, Hid (Closed Q) ∧ Hid (∀ W, Q W → P W) ∧ Hid (∀ W, Q W → Whole W w.heap.size t vs) ∧ Q (w.alloc (.cells vs.toArray t)) :=
  ⟨fun W => P W ∧ Whole W w.heap.size t vs, Lib.hid (hP.and (Closed.whole _ t vs)), Lib.hid (fun _ h => h.1), Lib.hid (fun _ h => h.2), hP _ _ h (below1 w _), Whole.new w t vs⟩
/-- Is it a section's number? -/
def hasSec (l : Lay) (s : Int) : Bool := decide (0 ≤ s) && decide (s < (l.secs.length : Int))
/-- Does the track end there, or is that joined? -/
def joinedP (l : Lay) (s p : Int) : Bool := (((beyondV l s p).1 == -1) && ((beyondV l s p).2 == 0)) || (!((beyondV l s p).1 == s) && (((beyondV l (beyondV l s p).1 (beyondV l s p).2).1 == s) && ((beyondV l (beyondV l s p).1 (beyondV l s p).2).2 == p)))

section
variable {P : World → Prop} {w : World}
set_option maxRecDepth 100000 in
set_option maxHeartbeats 8000000 in
theorem trackEndJ_P (hP : Closed P) (h : P w) : Calls Tryz.prog 58 #[] w fun e w' => e = .returned (prtV (-1) 0) ∧ P w' := by
  have hp := hP _ _ h (below1 w (.cells #[.int .i64 (-1), .int .i64 0] 46))
  have hW := Whole.new w 46 [.int .i64 (-1), .int .i64 0]
  have e0 := hW.cell_at 0 rfl
  have e1 := hW.cell_at 1 rfl
  clear hW
  go_enter Tryz.func58, Tryz.ntmps58
  go_wp2_with fail
  refine bodyPost_ret (v := prtV (-1) 0) ?_ rfl ⟨rfl, hp⟩
  simp [results, Tryz.f58, go_sem, e0, e1]

set_option maxRecDepth 100000 in
set_option maxHeartbeats 8000000 in
theorem has_P (hP : Closed P) (hT : ∀ w, P w → Shapes w) {l : Lay} (hL : ∀ w, P w → Lies l w) (s p : Int) {r : Bool} (hr : thereV l s p = r) (h : P w) :
    Calls Tryz.prog 148 #[l.val, prtV s p] w fun e w' => e = .returned (.bool r) ∧ P w' := by
  obtain ⟨Q, HQ, HQp, HQl, HQv, hq⟩ := keep_box2 hP h 29 46 l.cells (prtCells (s, p))
  obtain ⟨x, hx⟩ : ∃ x, atV l s p = x := ⟨_, rfl⟩
  have KA := Lib.hid (fun W hW => at_P (P := Q) (w := W) HQ.out (fun W hW => hT _ (HQp.out _ hW)) (fun W hW => hL _ (HQp.out _ hW)) s p hx hr hW)
  clear hx hr h
  have hW := hq
  have m0 := HQl.out _ hW
  have x0 := m0.cell_at 0 rfl
  have x1 := m0.cell_at 1 rfl
  have x2 := m0.cell_at 2 rfl
  have x3 := m0.cell_at 3 rfl
  have x4 := m0.cell_at 4 rfl
  have x5 := m0.cell_at 5 rfl
  have x6 := m0.cell_at 6 rfl
  have x7 := m0.cell_at 7 rfl
  have x8 := m0.cell_at 8 rfl
  have x9 := m0.cell_at 9 rfl
  have x10 := m0.cell_at 10 rfl
  clear m0
  have m1 := HQv.out _ hW
  have v0 := m1.cell_at 0 rfl
  have v1 := m1.cell_at 1 rfl
  clear m1
  clear hW
  go_enter Tryz.func148, Tryz.ntmps148
  go_wp2_with fail
  refine (KA.out _ hq).mono ?_
  clear x0 x1 x2 x3 x4 x5 x6 x7 x8 x9 x10 v0 v1 hq
  rintro e w1 ⟨rfl, hq⟩
  have hq := HQ.out _ _ hq (below1 w1 (.cells x.cells.toArray 56))
  go_wp2_with fail
  go_ret
  exact ⟨rfl, HQp.out _ hq⟩

set_option maxRecDepth 100000 in
set_option maxHeartbeats 8000000 in
theorem beyond_P (hP : Closed P) (hT : ∀ w, P w → Shapes w) {l : Lay} (hL : ∀ w, P w → Lies l w) (s p : Int) {q : Int × Int} (hq1 : beyondV l s p = q) (h : P w) :
    Calls Tryz.prog 36 #[l.val, prtV s p] w fun e w' => e = .returned (prtV q.1 q.2) ∧ P w' := by
  obtain ⟨Q, HQ, HQp, HQl, HQv, HQr, HQb, hq⟩ := keep_box3 hP h 29 46 46 l.cells (prtCells (s, p)) [.int .i64 0, .int .i64 0]
  have HPP := Lib.hid (fun W (hB : Below w.heap.size w W) => hP _ _ h hB)
  obtain ⟨x, hx⟩ : ∃ x, atV l s p = x := ⟨_, rfl⟩
  obtain ⟨r, hr⟩ : ∃ r, thereV l s p = r := ⟨_, rfl⟩
  have KA := Lib.hid (fun W hW => at_P (P := Q) (w := W) HQ.out (fun W hW => hT _ (HQp.out _ hW)) (fun W hW => hL _ (HQp.out _ hW)) s p hx hr hW)
  have KN := Lib.hid (fun W hW => trackEndJ_P (P := Q) (w := W) HQ.out hW)
  clear h hL hP hT
  have hW := hq
  have m0 := HQl.out _ hW
  have x0 := m0.cell_at 0 rfl
  have x1 := m0.cell_at 1 rfl
  have x2 := m0.cell_at 2 rfl
  have x3 := m0.cell_at 3 rfl
  have x4 := m0.cell_at 4 rfl
  have x5 := m0.cell_at 5 rfl
  have x6 := m0.cell_at 6 rfl
  have x7 := m0.cell_at 7 rfl
  have x8 := m0.cell_at 8 rfl
  have x9 := m0.cell_at 9 rfl
  have x10 := m0.cell_at 10 rfl
  clear m0
  have m1 := HQv.out _ hW
  have v0 := m1.cell_at 0 rfl
  have v1 := m1.cell_at 1 rfl
  clear m1
  clear hW
  go_enter Tryz.func36, Tryz.ntmps36
  go_wp2_with fail
  refine (KA.out _ hq).mono ?_
  clear x0 x1 x2 x3 x4 x5 x6 x7 x8 x9 x10 v0 v1 hq
  rintro e w1 ⟨rfl, hq⟩
  have hS := Whole.new w1 56 x.cells
  have hq := HQ.out _ _ hq (below1 w1 (.cells x.cells.toArray 56))
  cases r
  · obtain rfl := hq1.symm.trans (beyondV_no hr)
    go_wp2_with fail
    refine (KN.out _ hq).mono ?_
    clear hq hr hq1 hS
    rintro e w2 ⟨rfl, hq⟩
    have hr := HQr.out _ hq
    have f0 := hr.frozen 0
    have f1 := hr.frozen 1
    have z0 := hr.cell_at 0 rfl
    have z1 := hr.cell_at 1 rfl
    have hWo := (hr.set 0 (.int .i64 (-1))).set 1 (.int .i64 0)
    have hBo := ((HQb.out _ hq).setCell (p := ⟨w.heap.size + 1 + 1, 0, none⟩) (by show w.heap.size ≤ w.heap.size + 1 + 1; omega) (.int .i64 (-1))).setCell (p := ⟨w.heap.size + 1 + 1, 1, none⟩) (by show w.heap.size ≤ w.heap.size + 1 + 1; omega) (.int .i64 0)
    clear hr
    go_wp2_with fail
    have e0 := hWo.cell_at 0 rfl
    have e1 := hWo.cell_at 1 rfl
    refine bodyPost_ret (v := prtV (-1) 0) ?_ rfl ⟨rfl, HPP.out _ hBo⟩
    simp [results, Tryz.f36, go_sem, e0, e1]
  · have hb := hq1
    unfold beyondV at hb
    rw [if_pos hr, hx] at hb
    have hp : 0 ≤ p ∧ p < 4 := by
      unfold thereV at hr
      rw [withinA_iff] at hr
      have := pK_le4 (kindV l s)
      omega
    obtain ⟨i, rfl⟩ : ∃ i : Nat, p = i := ⟨p.toNat, by omega⟩
    have hi : (i : Int) < 4 := hp.2
    have hqi : x.ports4[i]? = some q := by
      rw [Int.toNat_natCast] at hb
      have : i < x.ports4.length := by show i < 4; omega
      rw [List.getElem?_eq_getElem this] at hb ⊢
      rw [← hb]
      rfl
    obtain ⟨c0, c1⟩ := join_at hS hqi
    clear hb hqi hr hx hq1 hp hS
    have hr := HQr.out _ hq
    have v1 := (HQv.out _ hq).cell_at 1 rfl
    have f0 := hr.frozen 0
    have f1 := hr.frozen 1
    have z0 := hr.cell_at 0 rfl
    have z1 := hr.cell_at 1 rfl
    obtain ⟨qs, qq⟩ := q
    simp only at c0 c1 ⊢
    have hWo := (hr.set 0 (.int .i64 qs)).set 1 (.int .i64 qq)
    have hBo := ((HQb.out _ hq).setCell (p := ⟨w.heap.size + 1 + 1, 0, none⟩) (by show w.heap.size ≤ w.heap.size + 1 + 1; omega) (.int .i64 qs)).setCell (p := ⟨w.heap.size + 1 + 1, 1, none⟩) (by show w.heap.size ≤ w.heap.size + 1 + 1; omega) (.int .i64 qq)
    clear hr hq
    go_wp2_with fail
    have e0 := hWo.cell_at 0 rfl
    have e1 := hWo.cell_at 1 rfl
    refine bodyPost_ret (v := prtV qs qq) ?_ rfl ⟨rfl, HPP.out _ hBo⟩
    simp [results, Tryz.f36, go_sem, e0, e1]

end
theorem trackEndJ_B (w : World) : Calls Tryz.prog 58 #[] w fun e w' => e = .returned (prtV (-1) 0) ∧ Below w.heap.size w w' := trackEndJ_P (P := fun W => Below w.heap.size w W) (Closed.below w) (Below.refl _ _)
theorem has_B {l : Lay} {w : World} (hT : Shapes w) (hL : Lies l w) (s p : Int) {r : Bool} (hr : thereV l s p = r) : Calls Tryz.prog 148 #[l.val, prtV s p] w fun e w' => e = .returned (.bool r) ∧ Below w.heap.size w w' :=
  has_P (P := fun W => Below w.heap.size w W) (Closed.below w) (fun W h => Shapes.closed _ _ hT h) (fun W h => Lies.closed l _ _ hL h) s p hr (Below.refl _ _)
theorem beyond_B {l : Lay} {w : World} (hT : Shapes w) (hL : Lies l w) (s p : Int) {q : Int × Int} (hq : beyondV l s p = q) : Calls Tryz.prog 36 #[l.val, prtV s p] w fun e w' => e = .returned (prtV q.1 q.2) ∧ Below w.heap.size w w' :=
  beyond_P (P := fun W => Below w.heap.size w W) (Closed.below w) (fun W h => Shapes.closed _ _ hT h) (fun W h => Lies.closed l _ _ hL h) s p hq (Below.refl _ _)
end Go.Proofs.YtlfpkileblmhoaaGreatDoor
