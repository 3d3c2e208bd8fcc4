/- Pairs of numbers that came in. -/
import Derived.Test.YtaaaehaiimmnhaaOpen
namespace Go.Proofs.Ytaaaehaiimmnhaa
open Go.ChangeShapes Go.WideShapes Go.ChangeAt Go.RowKit Go.Deep
open Go.Joins
set_option linter.unusedVariables false

/-- The address A leads to these pairs, two cells each. -/
def PRow (w : World) (B : Nat) (A : Option Addr) (ps : List (Int × Int)) : Prop :=
  0 < ps.length → ∃ b off, A = some ⟨b, off, none⟩ ∧ b < B ∧ ∀ j p, ps[j]? = some p → w.cell? ⟨b, off + j * 2, none⟩ = some (.int .i64 p.1) ∧ w.cell? ⟨b, off + j * 2 + 1, none⟩ = some (.int .i64 p.2)
/-- Each number is one of 64 bits. -/
def Fit (ps : List (Int × Int)) : Prop := ∀ p ∈ ps, (-9223372036854775808 ≤ p.1 ∧ p.1 ≤ 9223372036854775807) ∧ (-9223372036854775808 ≤ p.2 ∧ p.2 ≤ 9223372036854775807)
theorem PRow.on {w w' : World} {A : Option Addr} {ps : List (Int × Int)} (h : PRow w w.heap.size A ps) (hb : Below w.heap.size w w') : PRow w' w'.heap.size A ps := fun hp => by
  obtain ⟨b, off, e, hb', hc⟩ := h hp
  exact ⟨b, off, e, Nat.lt_of_lt_of_le hb' hb.size, fun j p hj => ⟨(hb.cell (p := ⟨b, off + j * 2, none⟩) hb').trans (hc j p hj).1, (hb.cell (p := ⟨b, off + j * 2 + 1, none⟩) hb').trans (hc j p hj).2⟩⟩

section
variable {H : Type} {enc : TypeId × Value → H} {w : World} {base : Nat} {spare : Nat → Bool} {held : Bool}
theorem pairs_open {v : Value} {d : DataW H} {p : List MemPlace} {r : Reach} {b0 : Nat} (hv : Value.okWide Try.prog w r b0 39 v) (h : DataW.Trod enc Try.prog w base spare held 39 v d p) :
    ∃ ps A cap, v = .slice A ps.length cap ∧ PRow w w.heap.size A ps ∧ ps.length ≤ maxLen ∧ Fit ps := by
  obtain ⟨a, len, cap, rfl⟩ := okWide_slice Try.underlying39 hv
  obtain ⟨fuel, hf⟩ := h
  have ce : Try.prog.cellsOf 41 = 2 := by kernel_rfl
  have ci : Try.prog.cellsOf 3 = 1 := by kernel_rfl
  rcases open_slice Try.underlying39 hf with ⟨hcs, _⟩ | ⟨x, l, c, m, n, D, Pl, hcs, _, hl, hm, hmm, _, hx⟩
  · simp [Value.cells] at hcs
    obtain ⟨rfl, rfl, rfl⟩ := hcs
    exact ⟨[], none, 0, rfl, fun h => by simp at h, by simp, fun q hq => by simp at hq⟩
  · simp [Value.cells] at hcs
    obtain ⟨rfl, rfl, rfl⟩ := hcs
    have hlm : len ≤ m := by rw [hmm]; split <;> omega
    have each : ∀ i, i < m → ∃ q : Int × Int, w.cell? (x.add (i * 2)) = some (.int .i64 q.1) ∧ w.cell? ((x.add (i * 2)).add 1) = some (.int .i64 q.2) ∧ (Lit.int .i64 q.1).wf = true ∧ (Lit.int .i64 q.2).wf = true := by
      intro i hi
      obtain ⟨cs', h1, h2⟩ := hx i hi
      rw [ce] at h1
      obtain ⟨_, hlen, hcell⟩ := World.cells?_some h1
      obtain ⟨xs, k, hk, hxy, hl2, hxl, hg⟩ := DataW.trod_array Try.underlying41 h2
      match xs, hxl, cs', hlen with
      | [y0, y1], _, [v0, v1], _ =>
        have g0 := hg 0 (by omega)
        have g1 := hg 1 (by omega)
        rw [ci] at g0 g1
        simp at g0 g1
        have e0 := hcell 0 (by omega)
        have e1 := hcell 1 (by omega)
        obtain ⟨n0, e2, _, w0⟩ := DataW.trod_int Try.underlying3 g0
        obtain ⟨n1, e3, _, w1⟩ := DataW.trod_int Try.underlying3 g1
        simp at e2 e3
        subst e2
        subst e3
        exact ⟨(n0, n1), by simpa [Addr.add] using e0, by simpa using e1, w0, w1⟩
    obtain ⟨q, hq⟩ := choose_lt each
    refine ⟨(List.range len).map q, some x, cap, by simp, ?_, by simp; omega, ?_⟩
    · intro hp
      have hp' : 0 < len := by simpa using hp
      obtain ⟨b, off, spot⟩ := x
      have hc := (hq 0 (by omega)).1
      have hs : spot = none := by simpa [Addr.add] using World.cell?_spot hc
      subst hs
      refine ⟨b, off, rfl, ?_, ?_⟩
      · have := World.block_lt_of_cell? w _ hc
        simpa [Addr.add] using this
      · intro j p hj
        have hjl : j < len := by
          have := (List.getElem?_eq_some_iff.1 hj).1
          simpa using this
        have hpj : p = q j := by
          rw [List.getElem?_map, List.getElem?_range hjl] at hj
          simpa using hj.symm
        subst hpj
        have h0 := (hq j (by omega)).1
        have h1 := (hq j (by omega)).2.1
        by_cases hj0 : j = 0
        · subst hj0
          exact ⟨by simpa [Addr.add] using h0, by simpa [Addr.add] using h1⟩
        · have hne : j * 2 ≠ 0 := by omega
          exact ⟨by simpa [Addr.add, hne, hj0] using h0, by simpa [Addr.add, hne, hj0] using h1⟩
    · intro p hp
      obtain ⟨j, hj, rfl⟩ := List.mem_map.1 hp
      have hj' : j < len := by simpa using hj
      have := hq j (by omega)
      exact ⟨(Lit.wf_int_iff .i64 _).1 this.2.2.1, (Lit.wf_int_iff .i64 _).1 this.2.2.2⟩
end
end Go.Proofs.Ytaaaehaiimmnhaa
