/- A row of paths that came in: where it lies, each path's numbers and steps. -/
import Derived.Test.YtiknjkgioiknnaaDoorQF
import Derived.Test.YtiknjkgioiknnaaDoorQRnkE
namespace Go.Proofs.YtiknjkgioiknnaaDoor
open Go.ChangeShapes Go.WideShapes Go.ChangeAt Go.RowKit Go.Deep
open Go.Joins Go.Shelf
set_option linter.unusedVariables false
set_option maxRecDepth 100000
section
variable {H : Type} {enc : TypeId × Value → H} {w : World} {base : Nat} {spare : Nat → Bool} {held : Bool}
theorem pth_el {n : Nat} {cs : List Value} {x : DataW H × List MemPlace} (h : DataW.trod enc Tryd.prog w base spare held n 34 cs = some x) :
    ∃ p : Pth, cs = Pth.cells p ∧ Row w w.heap.size p.A (p.ss.flatMap stpCells) ∧ (p.ss.length : Int) ≤ 9223372036854775807 := by
  obtain ⟨xs, m, _, rfl, hlen, hxs, hf⟩ := DataW.trod_struct Tryd.underlying34 h
  have hcl : Tryd.prog.cellsOf 34 = 3 := by kernel_rfl
  rw [hcl] at hlen
  obtain ⟨f0, g0, t0, o0⟩ := field_of (P := Tryd.prog) (t := 34) (i := 0) (ty := 3) (off := 0) (by kernel_rfl)
  obtain ⟨f1, g1, t1, o1⟩ := field_of (P := Tryd.prog) (t := 34) (i := 1) (ty := 3) (off := 1) (by kernel_rfl)
  obtain ⟨f2, g2, t2, o2⟩ := field_of (P := Tryd.prog) (t := 34) (i := 2) (ty := 32) (off := 2) (by kernel_rfl)
  have hsz : xs.length = 3 := by rw [hxs]; kernel_rfl
  match cs, hlen, xs, hsz with
  | [a0, a1, a2], _, [y0, y1, y2], _ =>
    have h0 := hf 0 f0 g0
    have h1 := hf 1 f1 g1
    have h2 := hf 2 f2 g2
    rw [t0, o0, show Tryd.prog.cellsOf 3 = 1 by kernel_rfl] at h0
    rw [t1, o1, show Tryd.prog.cellsOf 3 = 1 by kernel_rfl] at h1
    rw [t2, o2, show Tryd.prog.cellsOf 32 = 1 by kernel_rfl] at h2
    obtain ⟨A, cap, ss, rfl, hr, _, hn, hc⟩ := row_openC (f := stpCells) (G := fun _ => True) (c := 3) (fun _ => rfl) (by omega) Tryd.underlying32 (by kernel_rfl) (fun n cs x h => stp_el h) (v := a2) (y := y2) h2
    have h0 := plain_el 8 (ls := [.num .i64]) (by kernel_rfl) (x := y0) h0
    have h1 := plain_el 8 (ls := [.num .i64]) (by kernel_rfl) (x := y1) h1
    obtain ⟨u0, c0, e0, _, h0⟩ := fits_num h0
    obtain ⟨u1, c1, e1, _, h1⟩ := fits_num h1
    obtain rfl := fits_nil h0
    obtain rfl := fits_nil h1
    simp at e0 e1
    obtain rfl := e0
    obtain rfl := e1
    exact ⟨⟨u0, u1, A, cap, ss⟩, rfl, hr, hn⟩
theorem paths_openC {r : Reach} {b0 : Nat} {v : Value} {d : DataW H} {p : List MemPlace} (hv : Value.okWide Tryd.prog w r b0 42 v) (h : DataW.Trod enc Tryd.prog w base spare held 42 v d p) :
    ∃ (A : Option Addr) (cap : Nat) (ps : List Pth), v = .slice A ps.length cap ∧ PsLies ps A w ∧ ((ps.length : Nat) : Int) ≤ 9223372036854775807 ∧ ps.length ≤ cap := by
  obtain ⟨a, l, c, rfl⟩ := okWide_slice Tryd.underlying42 hv
  obtain ⟨fuel, hf⟩ := h
  obtain ⟨A, cap, ps, e, hr, hg, hn, hc⟩ := row_openC (f := Pth.cells) (G := fun q : Pth => Row w w.heap.size q.A (q.ss.flatMap stpCells) ∧ (q.ss.length : Int) ≤ 9223372036854775807) (c := 3) (fun _ => rfl) (by omega) Tryd.underlying42 (by kernel_rfl) (fun n cs x h => pth_el h) hf
  exact ⟨A, cap, ps, e, ⟨hr, fun q hq => ⟨(hg q hq).1, (hg q hq).2⟩⟩, hn, hc⟩
end
end Go.Proofs.YtiknjkgioiknnaaDoor
