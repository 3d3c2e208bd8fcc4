/- A layout that came in: its numbers, and where its rows lie. -/
import Derived.Test.YtbalcbnlpgekaaaDoorLayA
import Derived.Test.YtbalcbnlpgekaaaDoorPortRow
import Derived.Deep.Slices
import Derived.DataElems
namespace Go.Proofs.YtbalcbnlpgekaaaDoor
open Go.ChangeShapes Go.WideShapes Go.ChangeAt Go.RowKit Go.Deep
open Go.Joins Go.Shelf
set_option linter.unusedVariables false
set_option maxRecDepth 100000

theorem list_choose {α : Type} {p : Nat → α → Prop} : ∀ (n : Nat), (∀ i, i < n → ∃ x, p i x) → ∃ l : List α, l.length = n ∧ ∀ i x, l[i]? = some x → p i x
  | 0, _ => ⟨[], rfl, fun i x h => by simp at h⟩
  | n + 1, h => by
    obtain ⟨l, hl, hp⟩ := list_choose n (fun i hi => h i (by omega))
    obtain ⟨x, hx⟩ := h n (by omega)
    refine ⟨l ++ [x], by simp [hl], fun i y hy => ?_⟩
    by_cases hi : i < l.length
    · rw [List.getElem?_append_left hi] at hy; exact hp i y hy
    · have hlt := (List.getElem?_eq_some_iff.1 hy).1
      simp at hlt
      obtain rfl : i = l.length := by omega
      rw [List.getElem?_append_right (Nat.le_refl _), Nat.sub_self] at hy
      simp at hy
      subst hy
      rw [hl]
      exact hx
theorem flat_inv {α : Type} {f : α → List Value} {c : Nat} (hf : ∀ x, (f x).length = c) : ∀ (l : List α) (j : Nat) (u : Value), (l.flatMap f)[j]? = some u → ∃ i x k, l[i]? = some x ∧ (f x)[k]? = some u ∧ j = i * c + k
  | [], j, u, h => by simp at h
  | y :: l, j, u, h => by
    rw [List.flatMap_cons] at h
    by_cases hj : j < (f y).length
    · rw [List.getElem?_append_left hj] at h
      exact ⟨0, y, j, rfl, h, by omega⟩
    · rw [List.getElem?_append_right (by omega)] at h
      obtain ⟨i, x, k, h1, h2, h3⟩ := flat_inv hf l _ u h
      refine ⟨i + 1, x, k, by simpa using h1, h2, ?_⟩
      rw [hf] at h3 hj
      rw [Nat.add_mul]
      omega
section
variable {H : Type} {enc : TypeId × Value → H} {w : World} {base : Nat} {spare : Nat → Bool} {held : Bool}
/-- A row of structs. -/
theorem row_open {α : Type} {f : α → List Value} {G : α → Prop} {t e : TypeId} {c : Nat} (hf : ∀ x, (f x).length = c) (hc0 : 0 < c) (ht : Tryd.prog.underlying t = some (.slice e)) (hc : Tryd.prog.cellsOf e = c)
    (hel : ∀ n cs x, DataW.trod enc Tryd.prog w base spare held n e cs = some x → ∃ a : α, cs = f a ∧ G a) {fuel : Nat} {v : Value} {y : DataW H × List MemPlace} (h : DataW.trod enc Tryd.prog w base spare held fuel t [v] = some y) :
    ∃ (A : Option Addr) (cap : Nat) (l : List α), v = .slice A l.length cap ∧ Row w w.heap.size A (l.flatMap f) ∧ (∀ a ∈ l, G a) ∧ (l.length : Int) ≤ 9223372036854775807 := by
  rcases open_slice ht h with ⟨hcs, _⟩ | ⟨a, len, cap, m, n, D, Pl, hcs, hb, hl, hm, hmm, _, hx⟩
  · simp at hcs
    subst hcs
    exact ⟨none, 0, [], rfl, Row.nil _ _ _, by simp, by simp⟩
  · simp at hcs
    subst hcs
    have hlm : len ≤ m := by rw [hmm]; split <;> omega
    obtain ⟨l, hll, hp⟩ := list_choose (α := α) (p := fun i x => w.cells? base (a.add (i * c)) c = some (f x) ∧ G x) len (fun i hi => by
      obtain ⟨cs', h1, h2⟩ := hx i (by omega)
      rw [hc] at h1
      obtain ⟨x, rfl, hg⟩ := hel _ _ _ h2
      exact ⟨x, h1, hg⟩)
    refine ⟨some a, cap, l, by rw [hll], row_of_cells ?_, fun x hx => ?_, by rw [hll]; unfold maxLen at hm; omega⟩
    · intro j u hu
      obtain ⟨i, x, k, h1, h2, rfl⟩ := flat_inv hf l j u hu
      obtain ⟨_, _, hcell⟩ := World.cells?_some (hp i x h1).1
      have hk : k < c := by rw [← hf x]; exact (List.getElem?_eq_some_iff.1 h2).1
      have := hcell k hk
      rw [Addr.add_add] at this
      rw [this]
      exact h2
    · obtain ⟨i, hi, e⟩ := List.getElem_of_mem hx
      exact (hp i x (by rw [List.getElem?_eq_getElem hi, e])).2

theorem plain_el {n : Nat} {t : TypeId} {ls : List Leaf} {cs : List Value} {x : DataW H × List MemPlace} (m : Nat) (hl : leaves Tryd.prog m t = some ls) (h : DataW.trod enc Tryd.prog w base spare held n t cs = some x) : Fits ls cs := (plain_open m t ls n cs x hl h).1
theorem sec_el {n : Nat} {cs : List Value} {x : DataW H × List MemPlace} (h : DataW.trod enc Tryd.prog w base spare held n 39 cs = some x) : ∃ s : Sec, cs = s.cells ∧ 0 ≤ s.k ∧ s.k ≤ 255 := by
  obtain ⟨k, a, b, c, d, e, f, g, i, j, l, rfl, hk⟩ := sec_of (plain_el 8 (ls := secL) (by kernel_rfl) h)
  exact ⟨⟨k, a, b, c, d, e, f, g, i, j, l⟩, rfl, hk⟩
theorem sig_el {n : Nat} {cs : List Value} {x : DataW H × List MemPlace} (h : DataW.trod enc Tryd.prog w base spare held n 50 cs = some x) : ∃ s : Int × Int, cs = prtCells s ∧ True := by
  obtain ⟨a, b, rfl⟩ := port_of (plain_el 8 (ls := portL) (by kernel_rfl) h)
  exact ⟨(a, b), rfl, trivial⟩
theorem stp_el {n : Nat} {cs : List Value} {x : DataW H × List MemPlace} (h : DataW.trod enc Tryd.prog w base spare held n 33 cs = some x) : ∃ s : Int × Int × Int, cs = stpCells s ∧ True := by
  obtain ⟨a, b, c, rfl⟩ := step_of (plain_el 8 (ls := stepL) (by kernel_rfl) h)
  exact ⟨(a, b, c), rfl, trivial⟩
theorem flk_el {n : Nat} {cs : List Value} {x : DataW H × List MemPlace} (h : DataW.trod enc Tryd.prog w base spare held n 55 cs = some x) : ∃ s : Int × Int × Int × Int, cs = flkCells s ∧ True := by
  have h := plain_el 8 (ls := [.num .i64, .num .i64, .num .i64, .num .i64]) (by kernel_rfl) h
  obtain ⟨a, cs, rfl, _, h⟩ := fits_num h
  obtain ⟨b, cs, rfl, _, h⟩ := fits_num h
  obtain ⟨c, cs, rfl, _, h⟩ := fits_num h
  obtain ⟨d, cs, rfl, _, h⟩ := fits_num h
  obtain rfl := fits_nil h
  exact ⟨(a, b, c, d), rfl, trivial⟩
theorem field_of {P : Program} {t : TypeId} {i ty off : Nat} (h : ((P.fieldsOf t)[i]?).map (fun f => (f.type, f.offset)) = some (ty, off)) : ∃ f : Field, (P.fieldsOf t)[i]? = some f ∧ f.type = ty ∧ f.offset = off := by
  cases hf : (P.fieldsOf t)[i]? with
  | none => rw [hf] at h; cases h
  | some f => rw [hf] at h; simp at h; exact ⟨f, rfl, h.1, h.2⟩
theorem ex_el {n : Nat} {cs : List Value} {x : DataW H × List MemPlace} (h : DataW.trod enc Tryd.prog w base spare held n 53 cs = some x) :
    ∃ s : Exm, cs = s.cells ∧ Row w w.heap.size s.A (s.over.flatMap stpCells) ∧ (s.over.length : Int) ≤ 9223372036854775807 := by
  obtain ⟨xs, m, _, rfl, hlen, hxs, hf⟩ := DataW.trod_struct Tryd.underlying53 h
  have hcl : Tryd.prog.cellsOf 53 = 3 := by kernel_rfl
  rw [hcl] at hlen
  obtain ⟨f0, g0, t0, o0⟩ := field_of (P := Tryd.prog) (t := 53) (i := 0) (ty := 31) (off := 0) (by kernel_rfl)
  obtain ⟨f1, g1, t1, o1⟩ := field_of (P := Tryd.prog) (t := 53) (i := 1) (ty := 51) (off := 2) (by kernel_rfl)
  have hsz : xs.length = 2 := by rw [hxs]; kernel_rfl
  match cs, hlen, xs, hsz with
  | [a0, a1, a2], _, [y0, y1], _ =>
    have h0 := hf 0 f0 g0
    have h1 := hf 1 f1 g1
    rw [t0, o0, show Tryd.prog.cellsOf 31 = 2 by kernel_rfl] at h0
    rw [t1, o1, show Tryd.prog.cellsOf 51 = 1 by kernel_rfl] at h1
    obtain ⟨a, b, e⟩ := port_of (plain_el 8 (ls := portL) (by kernel_rfl) (x := y0) h0)
    simp at e
    obtain ⟨rfl, rfl⟩ := e
    obtain ⟨A, cap, l, hv, hr, _, hl⟩ := row_open (f := stpCells) (G := fun _ => True) (c := 3) (fun _ => rfl) (by omega) Tryd.underlying51 (by kernel_rfl) (fun n cs x h => stp_el h) (v := a2) (y := y1) h1
    subst hv
    exact ⟨⟨a, b, A, cap, l⟩, rfl, hr, hl⟩
theorem lay_open {r : Reach} {b0 : Nat} {v : Value} {d : DataW H} {p : List MemPlace} (hv : Value.okWide Tryd.prog w r b0 29 v) (h : DataW.Trod enc Tryd.prog w base spare held 29 v d p) : ∃ l : Lay, v = l.val ∧ Lies l w := by
  obtain ⟨ca, rfl, _⟩ := okWide_struct Tryd.underlying29 hv
  obtain ⟨fuel, hf⟩ := h
  obtain ⟨xs, m, _, hx, hlen, hxs, hf⟩ := DataW.trod_struct Tryd.underlying29 hf
  have hcl : Tryd.prog.cellsOf 29 = 11 := by kernel_rfl
  rw [hcl] at hlen
  obtain ⟨f0, g0, t0, o0⟩ := field_of (P := Tryd.prog) (t := 29) (i := 0) (ty := 22) (off := 0) (by kernel_rfl)
  obtain ⟨f1, g1, t1, o1⟩ := field_of (P := Tryd.prog) (t := 29) (i := 1) (ty := 23) (off := 1) (by kernel_rfl)
  obtain ⟨f2, g2, t2, o2⟩ := field_of (P := Tryd.prog) (t := 29) (i := 2) (ty := 24) (off := 2) (by kernel_rfl)
  obtain ⟨f3, g3, t3, o3⟩ := field_of (P := Tryd.prog) (t := 29) (i := 3) (ty := 25) (off := 3) (by kernel_rfl)
  obtain ⟨f4, g4, t4, o4⟩ := field_of (P := Tryd.prog) (t := 29) (i := 4) (ty := 27) (off := 4) (by kernel_rfl)
  have hsz : xs.length = 5 := by rw [hxs]; kernel_rfl
  have hcc : (Value.agg ca).cells.toList = ca.toList := rfl
  rw [hcc] at hlen hf
  obtain ⟨cs, hcs⟩ : ∃ cs, ca.toList = cs := ⟨_, rfl⟩
  obtain rfl : ca = cs.toArray := by rw [← hcs]
  rw [hcs] at hlen hf
  match cs, hlen, xs, hsz with
  | [a0, a1, a2, a3, a4, a5, a6, a7, a8, a9, a10], _, [y0, y1, y2, y3, y4], _ =>
    have h0 := hf 0 f0 g0
    have h1 := hf 1 f1 g1
    have h2 := hf 2 f2 g2
    have h3 := hf 3 f3 g3
    have h4 := hf 4 f4 g4
    rw [t0, o0, show Tryd.prog.cellsOf 22 = 1 by kernel_rfl] at h0
    rw [t1, o1, show Tryd.prog.cellsOf 23 = 1 by kernel_rfl] at h1
    rw [t2, o2, show Tryd.prog.cellsOf 24 = 1 by kernel_rfl] at h2
    rw [t3, o3, show Tryd.prog.cellsOf 25 = 1 by kernel_rfl] at h3
    rw [t4, o4, show Tryd.prog.cellsOf 27 = 7 by kernel_rfl] at h4
    obtain ⟨As, cs, secs, rfl, hrS, hkS, hnS⟩ := row_open (f := Sec.cells) (G := fun s : Sec => 0 ≤ s.k ∧ s.k ≤ 255) (c := 11) Sec.len (by omega) Tryd.underlying22 (by kernel_rfl) (fun n cs x h => sec_el h) (v := a0) (y := y0) h0
    obtain ⟨Ag, cg, sigs, rfl, hrG, _, hnG⟩ := row_open (f := prtCells) (G := fun _ => True) (c := 2) (fun _ => rfl) (by omega) Tryd.underlying23 (by kernel_rfl) (fun n cs x h => sig_el h) (v := a1) (y := y1) h1
    obtain ⟨Ae, ce, exits, rfl, hrE, hkE, hnE⟩ := row_open (f := Exm.cells) (G := fun s : Exm => Row w w.heap.size s.A (s.over.flatMap stpCells) ∧ (s.over.length : Int) ≤ 9223372036854775807) (c := 3) (fun _ => rfl) (by omega) Tryd.underlying24 (by kernel_rfl) (fun n cs x h => ex_el h) (v := a2) (y := y2) h2
    obtain ⟨Af, cf, flanks, rfl, hrF, _, hnF⟩ := row_open (f := flkCells) (G := fun _ => True) (c := 4) (fun _ => rfl) (by omega) Tryd.underlying25 (by kernel_rfl) (fun n cs x h => flk_el h) (v := a3) (y := y3) h3
    have h4 := plain_el 8 (ls := [.num .i64, .num .i64, .num .i64, .num .i64, .num .i64, .num .i64, .num .i64]) (by kernel_rfl) (x := y4) h4
    obtain ⟨u0, c0, e0, _, h4⟩ := fits_num h4
    obtain ⟨u1, c1, e1, _, h4⟩ := fits_num h4
    obtain ⟨u2, c2, e2, _, h4⟩ := fits_num h4
    obtain ⟨u3, c3, e3, _, h4⟩ := fits_num h4
    obtain ⟨u4, c4, e4, _, h4⟩ := fits_num h4
    obtain ⟨u5, c5, e5, _, h4⟩ := fits_num h4
    obtain ⟨u6, c6, e6, _, h4⟩ := fits_num h4
    obtain rfl := fits_nil h4
    subst e6 e5 e4 e3 e2 e1
    simp at e0
    obtain ⟨rfl, rfl, rfl, rfl, rfl, rfl, rfl⟩ := e0
    exact ⟨⟨secs, As, cs, sigs, Ag, cg, exits, Ae, ce, flanks, Af, cf, u0, u1, u2, u3, u4, u5, u6⟩, rfl, hrS, hrG, hrE, hrF, fun x hx => (hkE x hx).1, hkS, hnS, hnG, hnE, hnF, fun x hx => (hkE x hx).2⟩
end
end Go.Proofs.YtbalcbnlpgekaaaDoor
