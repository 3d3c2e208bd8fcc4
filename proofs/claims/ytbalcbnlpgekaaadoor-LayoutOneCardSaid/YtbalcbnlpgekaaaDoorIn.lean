/- What comes in of numbers of one kind, side by side, and of flags. -/
import Derived.Test.YtbalcbnlpgekaaaDoorCore
namespace Go.Proofs.YtbalcbnlpgekaaaDoor
open Go.ChangeShapes Go.WideShapes Go.ChangeAt Go.RowKit Go.Deep
open Go.Joins
set_option linter.unusedVariables false
set_option maxRecDepth 100000

/-- Numbers as cells. -/
def nums (k : IntKind) (zs : List Int) : List Value := zs.map (.int k)
theorem nums_length (k : IntKind) (zs : List Int) : (nums k zs).length = zs.length := by simp [nums]
/-- Flags as cells. -/
def flags (l : List Bool) : List Value := l.map .bool
theorem flags_length (l : List Bool) : (flags l).length = l.length := by simp [flags]
theorem Row.num {w : World} {B : Nat} {A : Option Addr} {k : IntKind} {zs : List Int} (h : Row w B A (nums k zs)) {j : Nat} (hj : j < zs.length) :
    ∃ b off, A = some ⟨b, off, none⟩ ∧ b < B ∧ w.cell? ⟨b, off + j, none⟩ = some (.int k (zs[j]?.getD 0)) := by
  obtain ⟨b, off, e, hb, hc⟩ := h (by rw [nums_length]; omega)
  exact ⟨b, off, e, hb, hc j _ (by simp [nums, hj])⟩
theorem Row.flag {w : World} {B : Nat} {A : Option Addr} {l : List Bool} (h : Row w B A (flags l)) {j : Nat} (hj : j < l.length) :
    ∃ b off, A = some ⟨b, off, none⟩ ∧ b < B ∧ w.cell? ⟨b, off + j, none⟩ = some (.bool (l[j]?.getD false)) := by
  obtain ⟨b, off, e, hb, hc⟩ := h (by rw [flags_length]; omega)
  exact ⟨b, off, e, hb, hc j _ (by simp [flags, hj])⟩

section
variable {H : Type} {enc : TypeId × Value → H} {w : World} {base : Nat} {spare : Nat → Bool} {held : Bool}
theorem nums_open {t e : TypeId} {k : IntKind} (ht : Tryd.prog.underlying t = some (.slice e)) (he : Tryd.prog.underlying e = some (.int k)) (hc : Tryd.prog.cellsOf e = 1) {fuel : Nat} {v : Value} {y : DataW H × List MemPlace} (h : DataW.trod enc Tryd.prog w base spare held fuel t [v] = some y) :
    ∃ A cap zs, v = .slice A zs.length cap ∧ Row w w.heap.size A (nums k zs) ∧ (∀ z ∈ zs, (Lit.int k z).wf = true) ∧ zs.length ≤ cap ∧ cap ≤ maxLen ∧ (A = none → cap = 0) := by
  rcases open_ints ht he hc h with ⟨hcs, _⟩ | ⟨x, l, c, zs, hcs, _, hl, hm, hz, _, hcell, hwz⟩
  · simp at hcs
    subst hcs
    exact ⟨none, 0, [], rfl, Row.nil _ _ _, by simp, by simp, by simp, fun _ => rfl⟩
  · simp at hcs
    subst hcs
    have hlz : l ≤ zs.length := by rw [hz]; split <;> omega
    have hlen : (zs.take l).length = l := by simp; omega
    refine ⟨some x, c, zs.take l, by rw [hlen], row_of_cells ?_, ?_, by omega, hm, fun h => by cases h⟩
    · intro i u hu
      have hi : i < l := by
        have := (List.getElem?_eq_some_iff.1 hu).1
        rw [nums_length, hlen] at this; exact this
      rw [hcell i (by omega)]
      have : (nums k (zs.take l))[i]? = some (.int k (zs.getD i 0)) := by
        simp [nums, hi, show i < zs.length by omega]
      rw [this] at hu
      exact hu
    · intro z hz'
      exact hwz z (List.mem_of_mem_take hz')
theorem ints_open {t e : TypeId} {k : IntKind} (ht : Tryd.prog.underlying t = some (.slice e)) (he : Tryd.prog.underlying e = some (.int k)) (hc : Tryd.prog.cellsOf e = 1) {r : Reach} {b0 : Nat} {v : Value} {d : DataW H} {p : List MemPlace} (hv : Value.okWide Tryd.prog w r b0 t v) (h : DataW.Trod enc Tryd.prog w base spare held t v d p) :
    ∃ A cap zs, v = .slice A zs.length cap ∧ Row w w.heap.size A (nums k zs) ∧ (∀ z ∈ zs, (Lit.int k z).wf = true) ∧ zs.length ≤ cap ∧ cap ≤ maxLen ∧ (A = none → cap = 0) := by
  obtain ⟨a, l, c, rfl⟩ := okWide_slice ht hv
  obtain ⟨fuel, hf⟩ := h
  exact nums_open ht he hc hf
theorem bools_open {t e : TypeId} (ht : Tryd.prog.underlying t = some (.slice e)) (he : Tryd.prog.underlying e = some .bool) (hc : Tryd.prog.cellsOf e = 1) {v : Value} {d : DataW H} {p : List MemPlace} {r : Reach} {b0 : Nat} (hv : Value.okWide Tryd.prog w r b0 t v) (h : DataW.Trod enc Tryd.prog w base spare held t v d p) :
    ∃ A cap fl, v = .slice A fl.length cap ∧ Row w w.heap.size A (flags fl) ∧ fl.length ≤ cap ∧ cap ≤ maxLen ∧ (A = none → cap = 0) := by
  obtain ⟨a, len, cap, rfl⟩ := okWide_slice ht hv
  obtain ⟨fuel, hf⟩ := h
  rcases open_slice1 ht hc hf with ⟨hcs, _⟩ | ⟨x, l, c, m, n, V, D, Pl, hcs, _, hl, hm, hmm, _, hx⟩
  · simp [Value.cells] at hcs
    obtain ⟨rfl, rfl, rfl⟩ := hcs
    exact ⟨none, 0, [], rfl, Row.nil _ _ _, by simp, by simp, fun _ => rfl⟩
  · simp [Value.cells] at hcs
    obtain ⟨rfl, rfl, rfl⟩ := hcs
    have hlm : len ≤ m := by rw [hmm]; split <;> omega
    have each : ∀ i, i < m → ∃ b : Bool, V i = .bool b := fun i hi => by
      obtain ⟨b, hb, _⟩ := DataW.trod_bool he (hx i hi).2
      simp at hb
      exact ⟨b, hb⟩
    let f : Nat → Bool := fun i => match V i with | .bool b => b | _ => false
    have hf : ∀ i, i < m → V i = .bool (f i) := fun i hi => by
      obtain ⟨b, hb⟩ := each i hi
      simp [f, hb]
    refine ⟨some x, cap, first f len, by rw [first_length], row_of_cells ?_, by rw [first_length]; exact hl, hm, fun h => by cases h⟩
    intro i u hu
    have hi : i < len := by
      have := (List.getElem?_eq_some_iff.1 hu).1
      simpa [flags, first_length] using this
    rw [(hx i (by omega)).1, hf i (by omega)]
    have : (flags (first f len))[i]? = some (.bool (f i)) := by simp [flags, first, hi]
    rw [this] at hu
    exact hu
end
end Go.Proofs.YtbalcbnlpgekaaaDoor
