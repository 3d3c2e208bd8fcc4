/- A layout that came in: its numbers, where its rows lie, their room. -/
import Derived.Test.YtniihmafbeplaaaDoorQB
namespace Go.Proofs.YtniihmafbeplaaaDoor
open Go.ChangeShapes Go.WideShapes Go.ChangeAt Go.RowKit Go.Deep
open Go.Joins Go.Shelf
set_option linter.unusedVariables false
set_option maxRecDepth 100000

/-- Its rows have room for what they are. -/
structure Caps (l : Lay) : Prop where
  secs : l.secs.length ≤ l.cs
  sigs : l.sigs.length ≤ l.cg
  exits : l.exits.length ≤ l.ce
  flanks : l.flanks.length ≤ l.cf
section
variable {H : Type} {enc : TypeId × Value → H} {w : World} {base : Nat} {spare : Nat → Bool} {held : Bool}
/-- A row of structs. -/
theorem row_openC {α : Type} {f : α → List Value} {G : α → Prop} {t e : TypeId} {c : Nat} (hf : ∀ x, (f x).length = c) (hc0 : 0 < c) (ht : Tryd.prog.underlying t = some (.slice e)) (hc : Tryd.prog.cellsOf e = c)
    (hel : ∀ n cs x, DataW.trod enc Tryd.prog w base spare held n e cs = some x → ∃ a : α, cs = f a ∧ G a) {fuel : Nat} {v : Value} {y : DataW H × List MemPlace} (h : DataW.trod enc Tryd.prog w base spare held fuel t [v] = some y) :
    ∃ (A : Option Addr) (cap : Nat) (l : List α), v = .slice A l.length cap ∧ Row w w.heap.size A (l.flatMap f) ∧ (∀ a ∈ l, G a) ∧ (l.length : Int) ≤ 9223372036854775807 ∧ l.length ≤ cap := by
  rcases open_slice ht h with ⟨hcs, _⟩ | ⟨a, len, cap, m, n, D, Pl, hcs, hb, hl, hm, hmm, _, hx⟩
  · simp at hcs
    subst hcs
    exact ⟨none, 0, [], rfl, Row.nil _ _ _, by simp, by simp, by simp⟩
  · simp at hcs
    subst hcs
    have hlm : len ≤ m := by rw [hmm]; split <;> omega
    obtain ⟨l, hll, hp⟩ := list_choose (α := α) (p := fun i x => w.cells? base (a.add (i * c)) c = some (f x) ∧ G x) len (fun i hi => by
      obtain ⟨cs', h1, h2⟩ := hx i (by omega)
      rw [hc] at h1
      obtain ⟨x, rfl, hg⟩ := hel _ _ _ h2
      exact ⟨x, h1, hg⟩)
    refine ⟨some a, cap, l, by rw [hll], row_of_cells ?_, fun x hx => ?_, by rw [hll]; unfold maxLen at hm; omega, by rw [hll]; exact hl⟩
    · intro j u hu
      obtain ⟨i, x, k, h1, h2, rfl⟩ := flat_inv hf l j u hu
      obtain ⟨_, _, hcell⟩ := World.cells?_some (hp i x h1).1
      have hk : k < c := by rw [← hf x]; exact (List.getElem?_eq_some_iff.1 h2).1
      have := hcell k hk
      rw [Addr.add_add] at this
      rw [this]
      exact h2
    · obtain ⟨i, hi, e⟩ := List.getElem_of_mem hx
      exact (hp i x (by rw [List.getElem?_eq_getElem hi, e])).2

theorem lay_openC {r : Reach} {b0 : Nat} {v : Value} {d : DataW H} {p : List MemPlace} (hv : Value.okWide Tryd.prog w r b0 29 v) (h : DataW.Trod enc Tryd.prog w base spare held 29 v d p) : ∃ l : Lay, v = l.val ∧ Lies l w ∧ Caps l := by
  obtain ⟨ca, rfl, _⟩ := okWide_struct Tryd.underlying29 hv
  obtain ⟨fuel, hf⟩ := h
  obtain ⟨xs, m, _, hx, hlen, hxs, hf⟩ := DataW.trod_struct Tryd.underlying29 hf
  have hcl : Tryd.prog.cellsOf 29 = 11 := by kernel_rfl
  rw [hcl] at hlen
  obtain ⟨f0, g0, t0, o0⟩ := field_of (P := Tryd.prog) (t := 29) (i := 0) (ty := 22) (off := 0) (by kernel_rfl)
  obtain ⟨f1, g1, t1, o1⟩ := field_of (P := Tryd.prog) (t := 29) (i := 1) (ty := 23) (off := 1) (by kernel_rfl)
  obtain ⟨f2, g2, t2, o2⟩ := field_of (P := Tryd.prog) (t := 29) (i := 2) (ty := 24) (off := 2) (by kernel_rfl)
  obtain ⟨f3, g3, t3, o3⟩ := field_of (P := Tryd.prog) (t := 29) (i := 3) (ty := 25) (off := 3) (by kernel_rfl)
  obtain ⟨f4, g4, t4, o4⟩ := field_of (P := Tryd.prog) (t := 29) (i := 4) (ty := 27) (off := 4) (by kernel_rfl)
  have hsz : xs.length = 5 := by rw [hxs]; kernel_rfl
  have hcc : (Value.agg ca).cells.toList = ca.toList := rfl
  rw [hcc] at hlen hf
  obtain ⟨cs, hcs⟩ : ∃ cs, ca.toList = cs := ⟨_, rfl⟩
  obtain rfl : ca = cs.toArray := by rw [← hcs]
  rw [hcs] at hlen hf
  match cs, hlen, xs, hsz with
  | [a0, a1, a2, a3, a4, a5, a6, a7, a8, a9, a10], _, [y0, y1, y2, y3, y4], _ =>
    have h0 := hf 0 f0 g0
    have h1 := hf 1 f1 g1
    have h2 := hf 2 f2 g2
    have h3 := hf 3 f3 g3
    have h4 := hf 4 f4 g4
    rw [t0, o0, show Tryd.prog.cellsOf 22 = 1 by kernel_rfl] at h0
    rw [t1, o1, show Tryd.prog.cellsOf 23 = 1 by kernel_rfl] at h1
    rw [t2, o2, show Tryd.prog.cellsOf 24 = 1 by kernel_rfl] at h2
    rw [t3, o3, show Tryd.prog.cellsOf 25 = 1 by kernel_rfl] at h3
    rw [t4, o4, show Tryd.prog.cellsOf 27 = 7 by kernel_rfl] at h4
    obtain ⟨As, cs, secs, rfl, hrS, hkS, hnS, qS⟩ := row_openC (f := Sec.cells) (G := fun s : Sec => 0 ≤ s.k ∧ s.k ≤ 255) (c := 11) Sec.len (by omega) Tryd.underlying22 (by kernel_rfl) (fun n cs x h => sec_el h) (v := a0) (y := y0) h0
    obtain ⟨Ag, cg, sigs, rfl, hrG, _, hnG, qG⟩ := row_openC (f := prtCells) (G := fun _ => True) (c := 2) (fun _ => rfl) (by omega) Tryd.underlying23 (by kernel_rfl) (fun n cs x h => sig_el h) (v := a1) (y := y1) h1
    obtain ⟨Ae, ce, exits, rfl, hrE, hkE, hnE, qE⟩ := row_openC (f := Exm.cells) (G := fun s : Exm => Row w w.heap.size s.A (s.over.flatMap stpCells) ∧ (s.over.length : Int) ≤ 9223372036854775807) (c := 3) (fun _ => rfl) (by omega) Tryd.underlying24 (by kernel_rfl) (fun n cs x h => ex_el h) (v := a2) (y := y2) h2
    obtain ⟨Af, cf, flanks, rfl, hrF, _, hnF, qF⟩ := row_openC (f := flkCells) (G := fun _ => True) (c := 4) (fun _ => rfl) (by omega) Tryd.underlying25 (by kernel_rfl) (fun n cs x h => flk_el h) (v := a3) (y := y3) h3
    have h4 := plain_el 8 (ls := [.num .i64, .num .i64, .num .i64, .num .i64, .num .i64, .num .i64, .num .i64]) (by kernel_rfl) (x := y4) h4
    obtain ⟨u0, c0, e0, _, h4⟩ := fits_num h4
    obtain ⟨u1, c1, e1, _, h4⟩ := fits_num h4
    obtain ⟨u2, c2, e2, _, h4⟩ := fits_num h4
    obtain ⟨u3, c3, e3, _, h4⟩ := fits_num h4
    obtain ⟨u4, c4, e4, _, h4⟩ := fits_num h4
    obtain ⟨u5, c5, e5, _, h4⟩ := fits_num h4
    obtain ⟨u6, c6, e6, _, h4⟩ := fits_num h4
    obtain rfl := fits_nil h4
    subst e6 e5 e4 e3 e2 e1
    simp at e0
    obtain ⟨rfl, rfl, rfl, rfl, rfl, rfl, rfl⟩ := e0
    exact ⟨⟨secs, As, cs, sigs, Ag, cg, exits, Ae, ce, flanks, Af, cf, u0, u1, u2, u3, u4, u5, u6⟩, rfl, ⟨hrS, hrG, hrE, hrF, fun x hx => (hkE x hx).1, hkS, hnS, hnG, hnE, hnF, fun x hx => (hkE x hx).2⟩, qS, qG, qE, qF⟩
end
end Go.Proofs.YtniihmafbeplaaaDoor
