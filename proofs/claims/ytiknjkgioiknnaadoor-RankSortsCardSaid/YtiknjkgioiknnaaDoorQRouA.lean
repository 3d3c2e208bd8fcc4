/- Package route: within, enters, leaves, Same, Own, Through; the document's own Steps, Same, Through. -/
import Derived.Deep.CutRange
import Derived.BigQuiet
import Derived.Test.YtiknjkgioiknnaaDoorQF
import Derived.Test.YtiknjkgioiknnaaDoorQB
import Derived.Test.YtiknjkgioiknnaaDoorQC
import Derived.Test.YtiknjkgioiknnaaDoorQLayTellsM
namespace Go.Proofs.YtiknjkgioiknnaaDoor
open Go.RowKit Go.Shelf
set_option linter.unusedVariables false
set_option linter.unusedSimpArgs false

section
variable {P : World → Prop} {w : World}
end

set_option maxRecDepth 100000 in
set_option maxHeartbeats 8000000 in
theorem same11_any {p q : Pth} {w : World} (hp : PLies p w) (hq : PLies q w) {r : Bool} (hr : sameP p q = r) : Calls Tryd.prog 35 #[p.val, q.val] w fun e w' => e = .returned (.bool r) ∧ Below w.heap.size w w' := by
  obtain ⟨Q, HQ, HQb, HQp, HQq, hw⟩ := keep_box2 (Closed.below w) (Below.refl _ w) 34 34 p.cells q.cells
  obtain ⟨d, hd⟩ : ∃ d, decide (p.ss = q.ss) = d := ⟨_, rfl⟩
  have KE := Lib.hid (fun W hW => equalStep_P (P := Q) (w := W) HQ.out p.c q.c (fun W hW => hp.row.on (HQb.out W hW)) (fun W hW => hq.row.on (HQb.out W hW)) hp.len hd hW)
  obtain ⟨b1, h1⟩ : ∃ b, (p.s == q.s) = b := ⟨_, rfl⟩
  obtain ⟨b2, h2⟩ : ∃ b, (p.x == q.x) = b := ⟨_, rfl⟩
  have HR : Hid ((b1 && (b2 && d)) = r) := Lib.hid (by rw [← hr, ← h1, ← h2, ← hd]; rfl)
  clear hr hd hp hq
  have m0 := HQp.out _ hw
  have x0 := m0.cell_at 0 rfl
  have x1 := m0.cell_at 1 rfl
  have x2 := m0.cell_at 2 rfl
  clear m0
  have m0 := HQq.out _ hw
  have y0 := m0.cell_at 0 rfl
  have y1 := m0.cell_at 1 rfl
  have y2 := m0.cell_at 2 rfl
  clear m0
  cases b1
  · go_enter Tryd.func35, Tryd.ntmps35
    go_wp2_with fail
    go_ret
    exact ⟨ret_bool HR.out, HQb.out _ hw⟩
  cases b2
  · go_enter Tryd.func35, Tryd.ntmps35
    go_wp2_with fail
    go_ret
    exact ⟨ret_bool HR.out, HQb.out _ hw⟩
  go_enter Tryd.func35, Tryd.ntmps35
  go_wp2_with fail
  refine (KE.out _ hw).mono ?_
  clear hw x0 x1 x2 y0 y1 y2 h1 h2
  rintro e w1 ⟨rfl, hw⟩
  go_wp2_with fail
  go_ret
  exact ⟨ret_bool (by rw [← HR.out]; rfl), HQb.out _ hw⟩

set_option maxRecDepth 100000 in
set_option maxHeartbeats 8000000 in
theorem own11_any {p : Pth} {w : World} (hp : PLies p w) (hl : p.ss.length ≤ 1000) : Calls Tryd.prog 36 #[p.val] w fun e w' => ∃ A c, e = .returned (Pth.val ⟨p.s, p.x, A, c, p.ss⟩) ∧ PLies ⟨p.s, p.x, A, c, p.ss⟩ w' ∧ Below w.heap.size w w' := by
  obtain ⟨W0, hW0⟩ : ∃ W0, (w.alloc (.cells #[.int .i64 p.s, .int .i64 p.x, .slice p.A p.ss.length p.c] 34)).alloc (.cells #[.int .i64 0, .int .i64 0, .slice none 0 0] 34) = W0 := ⟨_, rfl⟩
  have hB0 : Below w.heap.size w W0 := by rw [← hW0]; exact below2 w _ _
  have hb0 : Whole W0 w.heap.size 34 p.cells := by rw [← hW0]; exact (Whole.new w _ p.cells).alloc _
  have hb1 : Whole W0 (w.heap.size + 1) 34 [.int .i64 0, .int .i64 0, .slice none 0 0] := by rw [← hW0]; exact Whole.new_at _ _ [_, _, _] _ (by simp)
  have KC := Lib.hid (cloneStep_any p.A p.c W0 (hp.row.on hB0) hl)
  have HB0 := Lib.hid (And.intro hB0 (And.intro hb0 hb1))
  have HLN := Lib.hid hp.len
  have x2 := hb0.cell_at 2 rfl
  have HW0 := Lib.hid hW0
  clear hW0 hB0 hb0 hb1 hp hl
  go_enter Tryd.func36, Tryd.ntmps36
  go_upto_region 1 with (fail)
  rw [HW0.out]
  go_wp2_with fail
  refine KC.out.mono ?_
  clear x2 KC
  rintro e w1 ⟨v, rfl, hown, hB1⟩
  obtain ⟨hB0, hb0, hb1⟩ := HB0.out
  have hs := hb1.lt
  have c0 := hb0.below hB1 hb0.lt
  have c1 := hb1.below hB1 hb1.lt
  have f2 := c0.frozen 2
  have x2 := c0.cell_at 2 rfl
  have c0' := c0.set 2 v
  have c1' := c1.far (p := ⟨w.heap.size, 2, none⟩) (by show w.heap.size + 1 ≠ w.heap.size; omega) v
  have y0 := c0'.cell_at 0 rfl
  have y1 := c0'.cell_at 1 rfl
  have y2 := c0'.cell_at 2 rfl
  have g0 := c1'.frozen 0
  have g1 := c1'.frozen 1
  have g2 := c1'.frozen 2
  have z0 := c1'.cell_at 0 rfl
  have z1 := c1'.cell_at 1 rfl
  have z2 := c1'.cell_at 2 rfl
  have HD := Lib.hid (((c1'.set 0 (.int .i64 p.s)).set 1 (.int .i64 p.x)).set 2 v)
  obtain ⟨A, c, hv, hr⟩ := owns_read hown
  have HBB := Lib.hid (((((hB0.trans (hB1.mono hB0.size)).setCell (p := ⟨w.heap.size, 2, none⟩) (Nat.le_refl _) v).setCell (p := ⟨w.heap.size + 1, 0, none⟩) (by show w.heap.size ≤ w.heap.size + 1; omega) (.int .i64 p.s)).setCell (p := ⟨w.heap.size + 1, 1, none⟩) (by show w.heap.size ≤ w.heap.size + 1; omega) (.int .i64 p.x)).setCell (p := ⟨w.heap.size + 1, 2, none⟩) (by show w.heap.size ≤ w.heap.size + 1; omega) v)
  have hs0 : W0.heap.size = w.heap.size + 2 := by rw [← HW0.out]; simp
  have HS := Lib.hid hs0
  have HO := Lib.hid hown
  clear hown hr c0 c1 c0' c1' hB0 hb0 hb1 hB1 hs hs0
  subst hv
  go_wp2_with fail
  have e0 := HD.out.cell_at 0 rfl
  have e1 := HD.out.cell_at 1 rfl
  have e2 := HD.out.cell_at 2 rfl
  have hfar : ∀ (W : World), W.ownsRow W0.heap.size 53 3 (.slice A p.ss.length c) p.ss.length (p.ss.flatMap stpCells) → ∀ (q : Addr) (u : Value), q.block < W0.heap.size → (W.setCell q u).ownsRow W0.heap.size 53 3 (.slice A p.ss.length c) p.ss.length (p.ss.flatMap stpCells) := fun W h q u hq => owns_set (B := 0) h hq u
  have hO := hfar _ (hfar _ (hfar _ (hfar _ HO.out ⟨w.heap.size, 2, none⟩ (.slice A p.ss.length c) (by show w.heap.size < _; rw [HS.out]; omega)) ⟨w.heap.size + 1, 0, none⟩ (.int .i64 p.s) (by show w.heap.size + 1 < _; rw [HS.out]; omega)) ⟨w.heap.size + 1, 1, none⟩ (.int .i64 p.x) (by show w.heap.size + 1 < _; rw [HS.out]; omega)) ⟨w.heap.size + 1, 2, none⟩ (.slice A p.ss.length c) (by show w.heap.size + 1 < _; rw [HS.out]; omega)
  refine bodyPost_ret (v := Pth.val ⟨p.s, p.x, A, c, p.ss⟩) ?_ rfl ⟨A, c, rfl, ⟨?_, HLN.out⟩, HBB.out⟩
  · simp [results, Tryd.f36, go_sem, e0, e1, e2]
  · exact owns_row2 hO

end Go.Proofs.YtiknjkgioiknnaaDoor
