/- Package topo: Right, Over. -/
import Derived.Test.YtlfpkileblmhoaaGreatDoorQTopoC
namespace Go.Proofs.YtlfpkileblmhoaaGreatDoor
open Go.RowKit Go.Shelf
set_option linter.unusedVariables false
set_option linter.unusedSimpArgs false

set_option maxHeartbeats 4000000 in
theorem rightT_any {l : Lay} {w : World} (hT : Shapes w) (hL : Lies l w) {r : Bool} (hr : rightT l = r) :
    Calls Tryz.prog 29 #[l.val] w fun e w' => e = .returned (.bool r) ∧ Below w.heap.size w w' := by
  have hB0 := below1 w (.cells #[.slice l.As l.secs.length l.cs, .slice l.Ag l.sigs.length l.cg, .slice l.Ae l.exits.length l.ce, .slice l.Af l.flanks.length l.cf, .int .i64 l.t0, .int .i64 l.t1, .int .i64 l.t2, .int .i64 l.t3, .int .i64 l.t4, .int .i64 l.t5, .int .i64 l.t6] 29)
  have b0 := Whole.new w 29 l.cells
  obtain ⟨⟨a, b, c⟩, hv⟩ : ∃ v, checkV l = v := ⟨_, rfl⟩
  have KC := Lib.hid (check_any (Shapes.closed _ _ hT hB0) (Lies.closed l _ _ hL hB0) hv)
  have HB0 := Lib.hid hB0
  have HR : Hid (decide (c = 0) = r) := Lib.hid (by rw [← hr]; unfold rightT; rw [hv])
  have x0 := b0.cell_at 0 rfl
  have x1 := b0.cell_at 1 rfl
  have x2 := b0.cell_at 2 rfl
  have x3 := b0.cell_at 3 rfl
  have x4 := b0.cell_at 4 rfl
  have x5 := b0.cell_at 5 rfl
  have x6 := b0.cell_at 6 rfl
  have x7 := b0.cell_at 7 rfl
  have x8 := b0.cell_at 8 rfl
  have x9 := b0.cell_at 9 rfl
  have x10 := b0.cell_at 10 rfl
  clear hB0 hT hL hr b0 hv
  go_enter Tryz.func29, Tryz.ntmps29
  go_wp2_with fail
  refine KC.out.mono ?_
  clear KC x0 x1 x2 x3 x4 x5 x6 x7 x8 x9 x10
  rintro e w1 ⟨rfl, hb1⟩
  have HB1 := Lib.hid (HB0.out.trans (hb1.mono HB0.out.size))
  clear hb1 HB0
  by_cases hc : c = 0
  · subst hc
    go_wp2_with fail
    go_ret
    exact ⟨ret_bool (by rw [← HR.out]; rfl), HB1.out⟩
  · go_wp2_with fail
    go_ret
    exact ⟨ret_bool (by rw [← HR.out, decide_eq_false hc]; simp [hc]), HB1.out⟩

end Go.Proofs.YtlfpkileblmhoaaGreatDoor
