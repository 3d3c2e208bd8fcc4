/- Package beyond: Goes, Over. -/
import Derived.Test.YtbdbgoploednbaaDoorQBeA
import Derived.Test.YtbdbgoploednbaaDoorQC
import Derived.Test.YtbdbgoploednbaaDoorQLayTellsM
namespace Go.Proofs.YtbdbgoploednbaaDoor
open Go.RowKit Go.Shelf
set_option linter.unusedVariables false
set_option linter.unusedSimpArgs false

set_option maxRecDepth 100000 in
set_option maxHeartbeats 8000000 in
theorem overB10_any {l : Lay} {w : World} (hT : Shapes w) (hL : Lies l w) (hO : ∀ x ∈ l.exits, x.over.length ≤ 1000) (x : Int) {ss : List (Int × Int × Int)} (hs : overL10 l x = ss) : Calls Tryd.prog 68 #[l.val, .int .i64 x] w fun e w' => ∃ v, e = .returned v ∧ w'.ownsRow w.heap.size 56 3 v ss.length (ss.flatMap stpCells) ∧ Below w.heap.size w w' := by
  subst hs
  obtain ⟨Q, HQ, HQb, HQl, hq⟩ := keep_box (Closed.below w) (Below.refl _ w) 29 l.cells
  have HTW : Hid (∀ W, Q W → Shapes W ∧ Lies l W) := Lib.hid fun W hW => ⟨Shapes.closed _ _ hT (HQb.out W hW), Lies.closed l _ _ hL (HQb.out W hW)⟩
  rcases at_cases_n l.exits x with h1 | ⟨h0, h1⟩ | ⟨j, y, rfl, hy, hlt⟩
  · rw [over_neg h1]
    have d1 := decide_eq_true h1
    clear hT hL hO
    have hW := hq
    have m0 := HQl.out _ hW
    have x0 := m0.cell_at 0 rfl
    have x1 := m0.cell_at 1 rfl
    have x2 := m0.cell_at 2 rfl
    have x3 := m0.cell_at 3 rfl
    have x4 := m0.cell_at 4 rfl
    have x5 := m0.cell_at 5 rfl
    have x6 := m0.cell_at 6 rfl
    have x7 := m0.cell_at 7 rfl
    have x8 := m0.cell_at 8 rfl
    have x9 := m0.cell_at 9 rfl
    have x10 := m0.cell_at 10 rfl
    clear m0
    clear hW
    go_enter Tryd.func68, Tryd.ntmps68
    go_wp2_with fail
    go_ret
    exact ⟨_, rfl, World.ownsRow_nil _ _ _ _, HQb.out _ hq⟩
  · rw [over_far h0 h1]
    have d1 : decide (x < 0) = false := decide_eq_false (by omega)
    have d2 : decide ((l.exits.length : Int) ≤ x) = true := decide_eq_true h1
    clear hT hL hO
    have hW := hq
    have m0 := HQl.out _ hW
    have x0 := m0.cell_at 0 rfl
    have x1 := m0.cell_at 1 rfl
    have x2 := m0.cell_at 2 rfl
    have x3 := m0.cell_at 3 rfl
    have x4 := m0.cell_at 4 rfl
    have x5 := m0.cell_at 5 rfl
    have x6 := m0.cell_at 6 rfl
    have x7 := m0.cell_at 7 rfl
    have x8 := m0.cell_at 8 rfl
    have x9 := m0.cell_at 9 rfl
    have x10 := m0.cell_at 10 rfl
    clear m0
    clear hW
    go_enter Tryd.func68, Tryd.ntmps68
    go_wp2_with fail
    go_ret
    exact ⟨_, rfl, World.ownsRow_nil _ _ _ _, HQb.out _ hq⟩
  · rw [over_at hy]
    have HC : Hid (∃ b off, l.Ae = some ⟨b, off, none⟩ ∧ ∀ W, Q W → W.cell? ⟨b, off + j * 3, none⟩ = some (.int .i64 y.s) ∧ W.cell? ⟨b, off + j * 3 + 1, none⟩ = some (.int .i64 y.q) ∧ W.cell? ⟨b, off + j * 3 + 2, none⟩ = some (.slice y.A y.over.length y.c)) := Lib.hid (by
      obtain ⟨b, off, hA, _, hc0, hc⟩ := (HTW.out _ hq).2.exits.nth (n := 3) (fun _ => rfl) (by omega) hy
      refine ⟨b, off, hA, fun W hW => ?_⟩
      obtain ⟨b', off', hA', _, hc0, hc⟩ := (HTW.out _ hW).2.exits.nth (n := 3) (fun _ => rfl) (by omega) hy
      rw [hA] at hA'
      cases hA'
      exact ⟨hc0 j _ _ hy rfl, hc j _ 1 _ hy rfl, hc j _ 2 _ hy rfl⟩)
    obtain ⟨b, off, hA, hC⟩ := HC.out
    have KC := Lib.hid (cloneStep_any y.A y.c _ ((HTW.out _ hq).2.overs y (List.mem_of_getElem? hy)) (hO y (List.mem_of_getElem? hy)))
    obtain ⟨c0, c1, c2⟩ := hC _ hq
    have x2 := (HQl.out _ hq).cell_at 2 rfl
    rw [hA] at x2
    have HB := Lib.hid (HQb.out _ hq)
    have hlt' : j < l.exits.length := by omega
    clear hT hL hO hC hA HC hy hq
    go_enter Tryd.func68, Tryd.ntmps68
    go_wp2_with fail
    refine KC.out.mono ?_
    clear KC c0 c1 c2 x2
    rintro e w1 ⟨v, rfl, hown, hB⟩
    have HO := Lib.hid (owns_base hown (base' := w.heap.size) (by simp))
    have HB1 := Lib.hid (HB.out.trans (hB.mono HB.out.size))
    clear hown hB
    go_wp2_with fail
    go_ret
    exact ⟨_, rfl, HO.out, HB1.out⟩
end Go.Proofs.YtbdbgoploednbaaDoor
