/- A route that is held that came in: its numbers, where its rows lie. -/
import Derived.Test.YtljpiafopbfdlaaQHlP
import Derived.Test.YtljpiafopbfdlaaQAq
namespace Go.Proofs.Ytljpiafopbfdlaa
open Go.ChangeShapes Go.WideShapes Go.ChangeAt Go.RowKit Go.Deep
open Go.Joins Go.Shelf
set_option linter.unusedVariables false
set_option maxRecDepth 100000
theorem fits_yes {ls : List Leaf} {cs : List Value} (h : Fits (.yes :: ls) cs) : ∃ (b : Bool) (vs : List Value), cs = .bool b :: vs ∧ Fits ls vs := by
  cases cs with
  | nil => exact h.elim
  | cons v vs =>
    obtain ⟨⟨b, rfl⟩, h2⟩ := h
    exact ⟨b, vs, rfl, h2⟩
section
variable {H : Type} {enc : TypeId × Value → H} {w : World} {base : Nat} {spare : Nat → Bool} {held : Bool}
theorem stp_elW {n : Nat} {cs : List Value} {x : DataW H × List MemPlace} (h : DataW.trod enc Try.prog w base spare held n 44 cs = some x) : ∃ s : Int × Int × Int, cs = stpCells s ∧ SWf s := by
  have h := plain_el 8 (ls := [.num .i64, .num .i64, .num .i64]) (by kernel_rfl) h
  obtain ⟨a, cs, rfl, ha, h⟩ := fits_num h
  obtain ⟨b, cs, rfl, _, h⟩ := fits_num h
  obtain ⟨c, cs, rfl, _, h⟩ := fits_num h
  obtain rfl := fits_nil h
  exact ⟨(a, b, c), rfl, ha⟩
theorem ned_elW {n : Nat} {cs : List Value} {x : DataW H × List MemPlace} (h : DataW.trod enc Try.prog w base spare held n 40 cs = some x) : ∃ s : Int × Int × Int, cs = needCells s ∧ NWf s := by
  have h := plain_el 8 (ls := [.num .i64, .num .i64, .num .i64]) (by kernel_rfl) h
  obtain ⟨a, cs, rfl, ha, h⟩ := fits_num h
  obtain ⟨b, cs, rfl, hb, h⟩ := fits_num h
  obtain ⟨c, cs, rfl, _, h⟩ := fits_num h
  obtain rfl := fits_nil h
  exact ⟨(a, b, c), rfl, ha, hb⟩
theorem pth_el {n : Nat} {cs : List Value} {x : DataW H × List MemPlace} (h : DataW.trod enc Try.prog w base spare held n 24 cs = some x) :
    ∃ t : Pth, cs = t.cells ∧ PLies t w ∧ t.ss.length ≤ t.c ∧ ∀ x ∈ t.ss, SWf x := by
  obtain ⟨xs, m, _, rfl, hlen, hxs, hf⟩ := DataW.trod_struct Try.underlying24 h
  have hcl : Try.prog.cellsOf 24 = 3 := by kernel_rfl
  rw [hcl] at hlen
  obtain ⟨f0, g0, t0, o0⟩ := field_of (P := Try.prog) (t := 24) (i := 0) (ty := 3) (off := 0) (by kernel_rfl)
  obtain ⟨f1, g1, t1, o1⟩ := field_of (P := Try.prog) (t := 24) (i := 1) (ty := 3) (off := 1) (by kernel_rfl)
  obtain ⟨f2, g2, t2, o2⟩ := field_of (P := Try.prog) (t := 24) (i := 2) (ty := 22) (off := 2) (by kernel_rfl)
  have hsz : xs.length = 3 := by rw [hxs]; kernel_rfl
  match cs, hlen, xs, hsz with
  | [a0, a1, a2], _, [y0, y1, y2], _ =>
    have h0 := hf 0 f0 g0
    have h1 := hf 1 f1 g1
    have h2 := hf 2 f2 g2
    rw [t0, o0, show Try.prog.cellsOf 3 = 1 by kernel_rfl] at h0
    rw [t1, o1, show Try.prog.cellsOf 3 = 1 by kernel_rfl] at h1
    rw [t2, o2, show Try.prog.cellsOf 22 = 1 by kernel_rfl] at h2
    obtain ⟨A, cap, ss, rfl, hr, hw, hn, hc⟩ := row_openC (f := stpCells) (G := SWf) (c := 3) (fun _ => rfl) (by omega) Try.underlying22 (by kernel_rfl) (fun n cs x h => stp_elW h) (v := a2) (y := y2) h2
    have h0 := plain_el 8 (ls := [.num .i64]) (by kernel_rfl) (x := y0) h0
    have h1 := plain_el 8 (ls := [.num .i64]) (by kernel_rfl) (x := y1) h1
    obtain ⟨u0, c0, e0, _, h0⟩ := fits_num h0
    obtain ⟨u1, c1, e1, _, h1⟩ := fits_num h1
    obtain rfl := fits_nil h0
    obtain rfl := fits_nil h1
    simp at e0 e1
    obtain rfl := e0
    obtain rfl := e1
    exact ⟨⟨u0, u1, A, cap, ss⟩, rfl, ⟨hr, hn⟩, hc, hw⟩
theorem held_open {r : Reach} {b0 : Nat} {v : Value} {d : DataW H} {p : List MemPlace} (hv : Value.okWide Try.prog w r b0 28 v) (h : DataW.Trod enc Try.prog w base spare held 28 v d p) : ∃ t : Hld, v = t.val ∧ HLies t w ∧ HWf t := by
  obtain ⟨ca, rfl, _⟩ := okWide_struct Try.underlying28 hv
  obtain ⟨fuel, hf⟩ := h
  obtain ⟨xs, m, _, hx, hlen, hxs, hf⟩ := DataW.trod_struct Try.underlying28 hf
  have hcl : Try.prog.cellsOf 28 = 23 := by kernel_rfl
  rw [hcl] at hlen
  obtain ⟨f0, g0, t0, o0⟩ := field_of (P := Try.prog) (t := 28) (i := 0) (ty := 3) (off := 0) (by kernel_rfl)
  obtain ⟨f1, g1, t1, o1⟩ := field_of (P := Try.prog) (t := 28) (i := 1) (ty := 24) (off := 1) (by kernel_rfl)
  obtain ⟨f2, g2, t2, o2⟩ := field_of (P := Try.prog) (t := 28) (i := 2) (ty := 22) (off := 4) (by kernel_rfl)
  obtain ⟨f3, g3, t3, o3⟩ := field_of (P := Try.prog) (t := 28) (i := 3) (ty := 25) (off := 5) (by kernel_rfl)
  obtain ⟨f4, g4, t4, o4⟩ := field_of (P := Try.prog) (t := 28) (i := 4) (ty := 5) (off := 6) (by kernel_rfl)
  obtain ⟨f5, g5, t5, o5⟩ := field_of (P := Try.prog) (t := 28) (i := 5) (ty := 3) (off := 7) (by kernel_rfl)
  obtain ⟨f6, g6, t6, o6⟩ := field_of (P := Try.prog) (t := 28) (i := 6) (ty := 26) (off := 8) (by kernel_rfl)
  obtain ⟨f7, g7, t7, o7⟩ := field_of (P := Try.prog) (t := 28) (i := 7) (ty := 4) (off := 20) (by kernel_rfl)
  obtain ⟨f8, g8, t8, o8⟩ := field_of (P := Try.prog) (t := 28) (i := 8) (ty := 3) (off := 21) (by kernel_rfl)
  obtain ⟨f9, g9, t9, o9⟩ := field_of (P := Try.prog) (t := 28) (i := 9) (ty := 4) (off := 22) (by kernel_rfl)
  have hsz : xs.length = 10 := by rw [hxs]; kernel_rfl
  have hcc : (Value.agg ca).cells.toList = ca.toList := rfl
  rw [hcc] at hlen hf
  obtain ⟨cs, hcs⟩ : ∃ cs, ca.toList = cs := ⟨_, rfl⟩
  obtain rfl : ca = cs.toArray := by rw [← hcs]
  rw [hcs] at hlen hf
  match cs, hlen, xs, hsz with
  | [a0, a1, a2, a3, a4, a5, a6, a7, a8, a9, a10, a11, a12, a13, a14, a15, a16, a17, a18, a19, a20, a21, a22], _, [y0, y1, y2, y3, y4, y5, y6, y7, y8, y9], _ =>
    have h0 := hf 0 f0 g0
    rw [t0, o0, show Try.prog.cellsOf 3 = 1 by kernel_rfl] at h0
    have h1 := hf 1 f1 g1
    rw [t1, o1, show Try.prog.cellsOf 24 = 3 by kernel_rfl] at h1
    have h2 := hf 2 f2 g2
    rw [t2, o2, show Try.prog.cellsOf 22 = 1 by kernel_rfl] at h2
    have h3 := hf 3 f3 g3
    rw [t3, o3, show Try.prog.cellsOf 25 = 1 by kernel_rfl] at h3
    have h4 := hf 4 f4 g4
    rw [t4, o4, show Try.prog.cellsOf 5 = 1 by kernel_rfl] at h4
    have h5 := hf 5 f5 g5
    rw [t5, o5, show Try.prog.cellsOf 3 = 1 by kernel_rfl] at h5
    have h6 := hf 6 f6 g6
    rw [t6, o6, show Try.prog.cellsOf 26 = 12 by kernel_rfl] at h6
    have h7 := hf 7 f7 g7
    rw [t7, o7, show Try.prog.cellsOf 4 = 1 by kernel_rfl] at h7
    have h8 := hf 8 f8 g8
    rw [t8, o8, show Try.prog.cellsOf 3 = 1 by kernel_rfl] at h8
    have h9 := hf 9 f9 g9
    rw [t9, o9, show Try.prog.cellsOf 4 = 1 by kernel_rfl] at h9
    obtain ⟨tp, ep, hp, hpc, hpw⟩ := pth_el (x := y1) h1
    obtain ⟨A2, c2, os, e2, r2, w2, n2, q2⟩ := row_openC (f := stpCells) (G := SWf) (c := 3) (fun _ => rfl) (by omega) Try.underlying22 (by kernel_rfl) (fun n cs x h => stp_elW h) (v := a4) (y := y2) h2
    obtain ⟨A3, c3, ns, e3, r3, w3, n3, q3⟩ := row_openC (f := needCells) (G := NWf) (c := 3) (fun _ => rfl) (by omega) Try.underlying25 (by kernel_rfl) (fun n cs x h => ned_elW h) (v := a5) (y := y3) h3
    have h0 := plain_el 8 (ls := [.num .i64]) (by kernel_rfl) (x := y0) h0
    have h4 := plain_el 8 (ls := [.num .u8]) (by kernel_rfl) (x := y4) h4
    have h5 := plain_el 8 (ls := [.num .i64]) (by kernel_rfl) (x := y5) h5
    have h6 := plain_el 8 (ls := [.yes, .yes, .yes, .yes, .yes, .yes, .yes, .yes, .yes, .yes, .yes, .yes]) (by kernel_rfl) (x := y6) h6
    have h7 := plain_el 8 (ls := [.yes]) (by kernel_rfl) (x := y7) h7
    have h8 := plain_el 8 (ls := [.num .i64]) (by kernel_rfl) (x := y8) h8
    have h9 := plain_el 8 (ls := [.yes]) (by kernel_rfl) (x := y9) h9
    obtain ⟨u0, c20, e20, z0, h0⟩ := fits_num h0
    obtain rfl := fits_nil h0
    obtain ⟨u4, c24, e24, z4, h4⟩ := fits_num h4
    obtain rfl := fits_nil h4
    obtain ⟨u5, c25, e25, z5, h5⟩ := fits_num h5
    obtain rfl := fits_nil h5
    obtain ⟨u8, c28, e28, z8, h8⟩ := fits_num h8
    obtain rfl := fits_nil h8
    obtain ⟨bz0, d0, k0, h6⟩ := fits_yes h6
    obtain ⟨b1, d1, k1, h6⟩ := fits_yes h6
    obtain ⟨b2, d2, k2, h6⟩ := fits_yes h6
    obtain ⟨b3, d3, k3, h6⟩ := fits_yes h6
    obtain ⟨b4, d4, k4, h6⟩ := fits_yes h6
    obtain ⟨b5, d5, k5, h6⟩ := fits_yes h6
    obtain ⟨b6, d6, k6, h6⟩ := fits_yes h6
    obtain ⟨b7, d7, k7, h6⟩ := fits_yes h6
    obtain ⟨b8, d8, k8, h6⟩ := fits_yes h6
    obtain ⟨b9, d9, k9, h6⟩ := fits_yes h6
    obtain ⟨b10, d10, k10, h6⟩ := fits_yes h6
    obtain ⟨b11, d11, k11, h6⟩ := fits_yes h6
    obtain rfl := fits_nil h6
    obtain ⟨b27, c27, e27, h7⟩ := fits_yes h7
    obtain rfl := fits_nil h7
    obtain ⟨b29, c29, e29, h9⟩ := fits_yes h9
    obtain rfl := fits_nil h9
    subst k11
    subst k10
    subst k9
    subst k8
    subst k7
    subst k6
    subst k5
    subst k4
    subst k3
    subst k2
    subst k1
    unfold Pth.cells at ep
    simp only [List.drop_zero, List.drop_succ_cons, List.take_succ_cons, List.take_zero, List.cons.injEq, and_true] at ep k0 e20 e24 e25 e27 e28 e29
    obtain ⟨rfl, rfl, rfl⟩ := ep
    obtain ⟨rfl, rfl, rfl, rfl, rfl, rfl, rfl, rfl, rfl, rfl, rfl, rfl⟩ := k0
    subst e2 e3 e20 e24 e25 e27 e28 e29
    refine ⟨⟨u0, tp, A2, c2, os, A3, c3, ns, u4, u5, bz0, b1, b2, b3, b4, b5, b6, b7, b8, b9, b10, b11, b27, u8, b29⟩, rfl, ⟨hp, hpc, r2, n2, q2, r3, n3, q3⟩, ⟨hpw, w2, w3, ?_⟩⟩
    exact (Lit.wf_int_iff .i64 u5).1 z5
end

end Go.Proofs.Ytljpiafopbfdlaa
