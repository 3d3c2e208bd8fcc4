/- The table of tops: what it holds when a call begins; the door's own heap meets it. -/
import Derived.Test.YtniihmafbeplaaaDoorRows
import Derived.Test.YtniihmafbeplaaaDoorQT
import Derived.ProofKit
import Derived.LaidMore
import Derived.OpenShut
import Derived.Stop.Joined
namespace Go.Proofs.YtniihmafbeplaaaDoor
open Go.ChangeShapes Go.WideShapes Go.ChangeAt Go.WideMaps Go.WideElems Go.RowKit
set_option linter.unusedVariables false

abbrev laidT : List (String × DataW Unit) := [("lockbar/tick.tops", Rows.laid_lockbar_tick_tops)]
theorem gTops : Tryd.prog.globalNamed "lockbar/tick.tops" = some 0 := by kernel_rfl
theorem tTops : (Tryd.prog.globals[0]?).map (·.type) = some 51 := by kernel_rfl

theorem door_met (os : Os) (args : Array Value) : laidMetH Tryd.prog laidT ((World.doorLaid Tryd.prog 400 os).forCall (fun _ _ => 0) ⟨#[], args, []⟩).memory :=
  laidMetH_of_parts3 (fuel := 8) (laidMet_of_run' 8 (by kernel_rfl) (by kernel_rfl)) (by kernel_rfl) (by kernel_rfl)

theorem of_laid {W : World} (h : laidMetH Tryd.prog laidT W) : Tops W := by
  rw [MakeChecks.laidMetH_plain _ _ _ (by kernel_rfl)] at h
  obtain ⟨ps, ⟨g0, t0, cs0, f0, p0, q0, hg0, ht0, hv0, hd0, _⟩, _, _⟩ := h
  obtain rfl := Option.some.inj (gTops.symm.trans hg0)
  obtain rfl := Option.some.inj (tTops.symm.trans ht0)
  obtain ⟨xs, m1, rfl, hx1, hlen, hn3, hel⟩ := DataW.trod_array Tryd.underlying51 hd0
  have c3 : Tryd.prog.cellsOf 3 = 1 := by kernel_rfl
  have h0 := hel 0 (by decide)
  have h1 := hel 1 (by decide)
  simp only [Rows.laid_lockbar_tick_tops, Prod.mk.injEq, DataW.agg.injEq] at hx1
  match xs, hn3, hx1, h0, h1 with
  | [x0, x1], _, hx1, h0, h1 =>
    simp only [List.map_cons, List.map_nil, List.cons.injEq] at hx1
    obtain ⟨k0, e1, e2, _⟩ := DataW.trod_int Tryd.underlying3 (show DataW.trod _ Tryd.prog W 0 _ false m1 3 _ = some x0 from h0)
    obtain ⟨k1, f1, f2, _⟩ := DataW.trod_int Tryd.underlying3 (show DataW.trod _ Tryd.prog W 0 _ false m1 3 _ = some x1 from h1)
    have hk : k0 = 1073741824 := by rw [e2] at hx1; simpa using hx1.1.1.symm
    have hk1 : k1 = 65535 := by rw [f2] at hx1; simpa using hx1.1.2.1.symm
    subst hk; subst hk1
    have a0 := World.var?_cell hg0 hv0 0
    have a1 := World.var?_cell hg0 hv0 1
    rw [c3] at e1 f1
    obtain ⟨l⟩ := cs0
    match l, e1, f1 with
    | [], e1, _ => simp at e1
    | [c], _, f1 => simp at f1
    | c :: c' :: _, e1, f1 =>
      simp at e1 f1
      subst e1; subst f1
      exact ⟨by simpa using a0, by simpa using a1⟩
end Go.Proofs.YtniihmafbeplaaaDoor
