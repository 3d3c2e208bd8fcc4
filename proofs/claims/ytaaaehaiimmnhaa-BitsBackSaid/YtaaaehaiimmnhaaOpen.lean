/- What comes in of bits and of flags: nothing, or a row whose first cells are theirs. -/
import Derived.OpenShut
import Derived.DataShut
import Derived.ShutString
import Derived.ChangeOld
import Derived.ProofKit
import Derived.Lib.SmallJoins
import Derived.Test.YtaaaehaiimmnhaaBitsM
namespace Go.Proofs.Ytaaaehaiimmnhaa
open Go.ChangeShapes Go.WideShapes Go.ChangeAt Go.RowKit Go.Deep
open Go.Joins
set_option linter.unusedVariables false

/-- Bits that came in: their bytes, their length. -/
def BitsIn (w : World) (v : Value) (zs : List Int) (N : Int) : Prop :=
  ∃ A cap, v = .agg #[.slice A zs.length cap, .int .i64 N] ∧ Row w w.heap.size A (u8s zs) ∧ (∀ z ∈ zs, IsByte z) ∧ zs.length ≤ maxLen ∧ (Lit.int .i64 N).wf = true
/-- Flags that came in. -/
def FlagsIn (w : World) (v : Value) (fl : List Bool) : Prop :=
  ∃ A cap, v = .slice A fl.length cap ∧ Row w w.heap.size A (bools fl) ∧ fl.length ≤ maxLen

theorem row_of_cells {w : World} {x : Addr} {vs : List Value} (h : ∀ i u, vs[i]? = some u → w.cell? (x.add i) = some u) : Row w w.heap.size (some x) vs := by
  intro hp
  obtain ⟨b, off, spot⟩ := x
  obtain ⟨u, hu⟩ : ∃ u, vs[0]? = some u := ⟨vs[0], List.getElem?_eq_getElem hp⟩
  have hc := h 0 u hu
  have hs : spot = none := by simpa [Addr.add] using World.cell?_spot hc
  subst hs
  refine ⟨b, off, rfl, ?_, fun j u' hu' => ?_⟩
  · exact World.block_lt_of_cell? w _ hc
  · have hj := h j u' hu'
    by_cases h0 : j = 0
    · subst h0; simpa [Addr.add] using hj
    · simpa [Addr.add, h0] using hj

theorem wf_byte (z : Int) (h : (Lit.int .u8 z).wf = true) : IsByte z := by
  exact (Lit.wf_int_iff .u8 z).1 h

section
variable {H : Type} {enc : TypeId × Value → H} {w : World} {base : Nat} {spare : Nat → Bool} {held : Bool}
theorem u8s_open {fuel : Nat} {v : Value} {y : DataW H × List MemPlace} (h : DataW.trod enc Try.prog w base spare held fuel 22 [v] = some y) :
    ∃ A cap zs, v = .slice A zs.length cap ∧ Row w w.heap.size A (u8s zs) ∧ (∀ z ∈ zs, IsByte z) ∧ zs.length ≤ maxLen := by
  rcases open_ints Try.underlying22 Try.underlying5 (by kernel_rfl) h with ⟨hcs, _⟩ | ⟨x, l, c, zs, hcs, _, hl, hm, hz, _, hcell, hwz⟩
  · simp at hcs
    subst hcs
    exact ⟨none, 0, [], rfl, Row.nil _ _ _, by simp, by simp⟩
  · simp at hcs
    subst hcs
    have hlz : l ≤ zs.length := by rw [hz]; split <;> omega
    have hlen : (zs.take l).length = l := by simp; omega
    refine ⟨some x, c, zs.take l, by rw [hlen], row_of_cells ?_, ?_, by omega⟩
    · intro i u hu
      have hi : i < l := by
        have := (List.getElem?_eq_some_iff.1 hu).1
        rw [u8s_length, hlen] at this; exact this
      rw [hcell i (by omega)]
      have : (u8s (zs.take l))[i]? = some (.int .u8 (zs.getD i 0)) := by
        simp [u8s, hi, show i < zs.length by omega]
      rw [this] at hu
      exact hu
    · intro z hz'
      exact wf_byte z (hwz z (List.mem_of_mem_take hz'))
theorem bits_open {r : Reach} {b0 : Nat} {v : Value} {d : DataW H} {p : List MemPlace} (hv : Value.okWide Try.prog w r b0 24 v) (h : DataW.Trod enc Try.prog w base spare held 24 v d p) :
    ∃ zs N, BitsIn w v zs N := by
  obtain ⟨v0, v1, y0, y1, n, rfl, _, _, h0, h1⟩ := open_agg2 Try.underlying24 (by kernel_rfl) (by kernel_rfl) hv h
  obtain ⟨A, cap, zs, rfl, hr, hb, hm⟩ := u8s_open h0
  obtain ⟨N, hN, _, hw⟩ := DataW.trod_int Try.underlying3 h1
  simp at hN
  subst hN
  exact ⟨zs, N, A, cap, rfl, hr, hb, hm, hw⟩
theorem flags_open {v : Value} {d : DataW H} {p : List MemPlace} {r : Reach} {b0 : Nat} (hv : Value.okWide Try.prog w r b0 25 v) (h : DataW.Trod enc Try.prog w base spare held 25 v d p) :
    ∃ fl, FlagsIn w v fl := by
  obtain ⟨a, len, cap, rfl⟩ := okWide_slice Try.underlying25 hv
  obtain ⟨fuel, hf⟩ := h
  rcases open_slice1 Try.underlying25 (by kernel_rfl) hf with ⟨hcs, _⟩ | ⟨x, l, c, m, n, V, D, Pl, hcs, _, hl, hm, hmm, _, hx⟩
  · simp [Value.cells] at hcs
    obtain ⟨rfl, rfl, rfl⟩ := hcs
    exact ⟨[], none, 0, rfl, Row.nil _ _ _, by simp⟩
  · simp [Value.cells] at hcs
    obtain ⟨rfl, rfl, rfl⟩ := hcs
    have hlm : len ≤ m := by rw [hmm]; split <;> omega
    have each : ∀ i, i < m → ∃ b : Bool, V i = .bool b := fun i hi => by
      obtain ⟨b, hb, _⟩ := DataW.trod_bool Try.underlying4 (hx i hi).2
      simp at hb
      exact ⟨b, hb⟩
    let f : Nat → Bool := fun i => match V i with | .bool b => b | _ => false
    have hf : ∀ i, i < m → V i = .bool (f i) := fun i hi => by
      obtain ⟨b, hb⟩ := each i hi
      simp [f, hb]
    refine ⟨first f len, some x, cap, by rw [first_length], row_of_cells ?_, by rw [first_length]; omega⟩
    intro i u hu
    have hi : i < len := by
      have := (List.getElem?_eq_some_iff.1 hu).1
      simpa [bools, first_length] using this
    rw [(hx i (by omega)).1, hf i (by omega)]
    have : (bools (first f len))[i]? = some (.bool (f i)) := by simp [bools, first, hi]
    rw [this] at hu
    exact hu
end
end Go.Proofs.Ytaaaehaiimmnhaa
