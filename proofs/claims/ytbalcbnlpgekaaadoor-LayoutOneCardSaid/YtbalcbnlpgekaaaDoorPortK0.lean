/- What the walks of layer 5's laws share: what they keep; the shape of a kind; both ways about. -/
import Derived.Test.YtbalcbnlpgekaaaDoorPortF
import Derived.Test.YtbalcbnlpgekaaaDoorInts
namespace Go.Proofs.YtbalcbnlpgekaaaDoor
open Go.RowKit Go.Shelf
set_option linter.unusedVariables false

/-- A block that is known whole is kept besides. -/
theorem keep_whole {P : World → Prop} (hP : Closed P) {W0 : World} {g : Nat} {t : TypeId} {vs : List Value} (h : P W0) (hw : Whole W0 g t vs) :
    ∃ Q : World → Prop, Hid (Closed Q) ∧ Hid (∀ W, Q W → P W) ∧ Hid (∀ W, Q W → Whole W g t vs) ∧ Q W0 :=
  ⟨fun W => P W ∧ Whole W g t vs, Lib.hid (hP.and (Closed.whole g t vs)), Lib.hid (fun _ h => h.1), Lib.hid (fun _ h => h.2), h, hw⟩
theorem Row.num_at {w : World} {B b off : Nat} {k : IntKind} {zs : List Int} (h : Row w B (some ⟨b, off, none⟩) (nums k zs)) (j : Nat) {z : Int} (hj : zs[j]? = some z) : w.cell? ⟨b, off + j, none⟩ = some (.int k z) := by
  have hl := (List.getElem?_eq_some_iff.1 hj).1
  obtain ⟨b', off', e, _, hc⟩ := h.num hl
  cases e
  rw [hj] at hc
  exact hc
/-- A row is kept besides. -/
theorem keep_row {P : World → Prop} (hP : Closed P) {W0 : World} {A : Option Addr} {vs : List Value} (h : P W0) (hw : Row W0 W0.heap.size A vs) :
    ∃ Q : World → Prop, Hid (Closed Q) ∧ Hid (∀ W, Q W → P W) ∧ Hid (∀ W, Q W → Row W W.heap.size A vs) ∧ Q W0 :=
  ⟨fun W => P W ∧ Row W W.heap.size A vs, Lib.hid (hP.and (Closed.row A vs)), Lib.hid (fun _ h => h.1), Lib.hid (fun _ h => h.2), h, hw⟩
/-- What a law's walk keeps: the table, and all that lay. -/
theorem keep_first {w : World} (hT : Shapes w) : ∃ P : World → Prop, Hid (Closed P) ∧ Hid (∀ W, P W → Shapes W) ∧ Hid (∀ W, P W → Below w.heap.size w W) ∧ P w :=
  ⟨fun W => Shapes W ∧ Below w.heap.size w W, Lib.hid (Shapes.closed.and (Closed.below w)), Lib.hid (fun _ h => h.1), Lib.hid (fun _ h => h.2), hT, Below.refl _ _⟩

theorem joinV_comm (a b i o : Int) : joinV a b i o = joinV a b o i := by unfold joinV; exact Bool.or_comm _ _
theorem goesV_comm (n a b c d i o : Int) : goesV n a b c d i o = goesV n a b c d o i := by unfold goesV; rw [joinV_comm a b, joinV_comm c d]
theorem wayV_comm (n a b c d i o : Int) : wayV n a b c d i o = wayV n a b c d o i := by unfold wayV; rw [joinV_comm a b, joinV_comm c d]
theorem endA_no {n a c y : Int} (h : hasV n y = false) : endA n a c y = 0 := by unfold endA; rw [h]; rfl
theorem hasV_no {n y : Int} (h : y < 0 ∨ n ≤ y) : hasV n y = false := by unfold hasV; rw [Bool.and_eq_false_iff, decide_eq_false_iff_not, decide_eq_false_iff_not]; omega
theorem shape_of (k : Int) : ∃ p n a b c d, IsShape k p n a b c d := by
  by_cases h1 : k = 1
  · exact ⟨2, 1, 0, 1, 0, 0, .inl ⟨h1, rfl, rfl, rfl, rfl, rfl, rfl⟩⟩
  · by_cases h2 : k = 2
    · exact ⟨3, 2, 0, 1, 0, 2, .inr (.inl ⟨h2, rfl, rfl, rfl, rfl, rfl, rfl⟩)⟩
    · by_cases h3 : k = 3
      · exact ⟨4, 2, 0, 1, 2, 3, .inr (.inr (.inl ⟨h3, rfl, rfl, rfl, rfl, rfl, rfl⟩))⟩
      · exact ⟨0, 0, 0, 0, 0, 0, .inr (.inr (.inr ⟨by omega, rfl, rfl, rfl, rfl, rfl, rfl⟩))⟩
end Go.Proofs.YtbalcbnlpgekaaaDoor
