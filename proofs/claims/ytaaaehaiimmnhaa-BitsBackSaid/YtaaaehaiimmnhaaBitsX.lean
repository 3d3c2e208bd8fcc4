/- What the document says of 5 and 300: the calls, one by one. -/
import Derived.Test.YtaaaehaiimmnhaaBitsM
namespace Go.Proofs.Ytaaaehaiimmnhaa
open Go.RowKit Go.Shelf
set_option linter.unusedVariables false

/-- v are these bytes and so many bits. -/
def Conc (w : World) (v : Value) (zs : List Int) (k n : Nat) : Prop :=
  ∃ g, v = .agg #[.slice (some ⟨g, 0, none⟩) k k, .int .i64 n] ∧ Row w w.heap.size (some ⟨g, 0, none⟩) (u8s zs)
theorem Conc.on {w w' : World} {v : Value} {zs : List Int} {k n : Nat} (h : Conc w v zs k n) (hb : Below w.heap.size w w') : Conc w' v zs k n := by
  obtain ⟨g, hv, hr⟩ := h
  exact ⟨g, hv, hr.on hb⟩

def la : List Bool := [true, false, true]
theorem pa : pack 1 la = [160] := by decide +kernel
theorem pa' : pack 1 (([] : List Bool) ++ first (digit 5 3) 3) = [160] := by decide +kernel
def lb : List Bool := la ++ first (digit 300 9) 9
theorem pb : pack 2 lb = [178, 192] := by decide +kernel
theorem pc : pack 2 (la ++ [true, false, true, true, false, true]) = [182, 128] := by decide +kernel
theorem pd : pack 1 (la ++ List.replicate 5 false) = [160] := by decide +kernel
theorem ll : lb.length = 12 := by decide +kernel

theorem wk_put1 (w : World) : Calls Try.prog 9 #[.agg #[.slice none 0 0, .int .i64 0], .int .i64 5, .int .i64 3] w fun e w' =>
    ∃ v, e = .returned (.tuple #[v, .int .i64 0]) ∧ Conc w' v [160] 1 3 ∧ Below w.heap.size w w' := by
  refine (put_ok none 0 [] 5 3 w (Row.nil _ _ _) (by decide) (by omega) (by omega) (by decide) (right_pack [])).mono ?_
  rintro e w' ⟨g, rfl, hg, hW, hB⟩
  rw [show bytesFor (([] : List Bool).length + 3) = 1 from rfl, pa'] at hW
  exact ⟨_, rfl, ⟨g, rfl, hW.row hW.lt⟩, hB⟩

theorem wk_put2 (v : Value) (w : World) (h : Conc w v [160] 1 3) : Calls Try.prog 9 #[v, .int .i64 300, .int .i64 9] w fun e w' =>
    ∃ v', e = .returned (.tuple #[v', .int .i64 0]) ∧ Conc w' v' [178, 192] 2 12 ∧ Below w.heap.size w w' := by
  obtain ⟨g, rfl, hr⟩ := h
  refine (put_ok (some ⟨g, 0, none⟩) 1 la 300 9 w (by rw [show bytesFor la.length = 1 from rfl, pa]; exact hr) (by decide) (by omega) (by omega) (by decide) (right_pack la)).mono ?_
  rintro e w' ⟨g', rfl, hg, hW, hB⟩
  rw [show bytesFor (la.length + 9) = 2 from rfl, show la ++ first (digit 300 9) 9 = lb from rfl, pb] at hW
  exact ⟨_, rfl, ⟨g', rfl, hW.row hW.lt⟩, hB⟩

theorem wk_put3 (v : Value) (w : World) (h : Conc w v [160] 1 3) : Calls Try.prog 9 #[v, .int .i64 8, .int .i64 3] w fun e w' =>
    e = .returned (.tuple #[noBits, .int .i64 2]) ∧ Below w.heap.size w w' := by
  obtain ⟨g, rfl, hr⟩ := h
  exact put_bad2 (some ⟨g, 0, none⟩) 1 [160] 3 8 3 w hr (by intro z hz; simp at hz; subst hz; exact ⟨by omega, by omega⟩) (by decide) (by omega) (by omega) (by omega) (by decide +kernel) (by decide +kernel)

theorem wk_take1 (v : Value) (w : World) (h : Conc w v [178, 192] 2 12) : Calls Try.prog 16 #[v, .int .i64 3, .int .i64 9] w fun e w' =>
    e = .returned (.tuple #[.int .i64 300, .int .i64 0]) ∧ Below w.heap.size w w' := by
  obtain ⟨g, rfl, hr⟩ := h
  have h := take_ok (some ⟨g, 0, none⟩) 2 lb 3 9 w (by rw [ll, show bytesFor 12 = 2 from rfl, pb]; exact hr) (by rw [ll]; decide) (by omega) (by rw [ll]; omega) (right_pack lb)
  rw [ll, show numOf (bitsAt lb 3 9) = 300 by decide +kernel] at h
  exact h

theorem wk_take2 (v : Value) (w : World) (h : Conc w v [178, 192] 2 12) : Calls Try.prog 16 #[v, .int .i64 4, .int .i64 9] w fun e w' =>
    e = .returned (.tuple #[.int .i64 0, .int .i64 40]) ∧ Below w.heap.size w w' := by
  obtain ⟨g, rfl, hr⟩ := h
  exact take_short (some ⟨g, 0, none⟩) 2 [178, 192] 12 4 9 w hr (by intro z hz; simp at hz; rcases hz with rfl | rfl <;> exact ⟨by omega, by omega⟩) (by decide) (by omega) (by omega) (by decide +kernel) (by decide) (by omega) (by omega)

theorem wk_flags (v : Value) (w : World) (h : Conc w v [160] 1 3) (g' cap' : Nat) (hr' : Row w w.heap.size (some ⟨g', 0, none⟩) (bools [true, false, true, true, false, true])) :
    Calls Try.prog 11 #[v, .slice (some ⟨g', 0, none⟩) 6 cap'] w fun e w' =>
    ∃ v', e = .returned (.tuple #[v', .int .i64 0]) ∧ Conc w' v' [182, 128] 2 9 ∧ Below w.heap.size w w' := by
  obtain ⟨g, rfl, hr⟩ := h
  refine (flags_ok (some ⟨g, 0, none⟩) (some ⟨g', 0, none⟩) 1 cap' la [true, false, true, true, false, true] w (by rw [show bytesFor la.length = 1 from rfl, pa]; exact hr) hr' (by decide) (by decide) (right_pack la)).mono ?_
  rintro e w' ⟨g', rfl, hg, hW, hB⟩
  rw [show bytesFor (la.length + [true, false, true, true, false, true].length) = 2 from rfl, pc] at hW
  exact ⟨_, rfl, ⟨g', rfl, hW.row hW.lt⟩, hB⟩

theorem wk_pad (v : Value) (w : World) (h : Conc w v [160] 1 3) : Calls Try.prog 14 #[v] w fun e w' =>
    ∃ v', e = .returned (.tuple #[v', .int .i64 0]) ∧ Conc w' v' [160] 1 8 ∧ Below w.heap.size w w' := by
  obtain ⟨g, rfl, hr⟩ := h
  refine (pad_ok (some ⟨g, 0, none⟩) 1 la w (by rw [show bytesFor la.length = 1 from rfl, pa]; exact hr) (by decide) (right_pack la)).mono ?_
  rintro e w' ⟨g', rfl, hg, hW, hB⟩
  rw [show padN la.length = 5 from rfl, show bytesFor (la.length + 5) = 1 from rfl, pd] at hW
  exact ⟨_, rfl, ⟨g', rfl, hW.row hW.lt⟩, hB⟩

theorem byte_list (a b : Int) (ha : IsByte a) (hb : IsByte b) : ∀ z ∈ [a, b], IsByte z := by
  intro z hz
  simp at hz
  rcases hz with rfl | rfl
  · exact ha
  · exact hb
theorem byte_one (a : Int) (ha : IsByte a) : ∀ z ∈ [a], IsByte z := by
  intro z hz
  simp at hz
  subst hz
  exact ha

theorem wk_of (g cap : Nat) (w : World) (hr : Row w w.heap.size (some ⟨g, 0, none⟩) (u8s [160])) : Calls Try.prog 22 #[.slice (some ⟨g, 0, none⟩) 1 cap] w fun e w' =>
    ∃ v', e = .returned v' ∧ Conc w' v' [160] 1 8 ∧ Below w.heap.size w w' := by
  refine (of_any (some ⟨g, 0, none⟩) cap [160] w hr (by decide)).mono ?_
  rintro e w' ⟨g', rfl, hg, hW, hB⟩
  exact ⟨_, rfl, ⟨g', rfl, hW.row hW.lt⟩, hB⟩

theorem wk_own (v : Value) (w : World) (h : Conc w v [178, 192] 2 12) : Calls Try.prog 21 #[v] w fun e w' =>
    ∃ v', e = .returned v' ∧ Conc w' v' [178, 192] 2 12 ∧ Below w.heap.size w w' := by
  obtain ⟨g, rfl, hr⟩ := h
  refine (own_any (some ⟨g, 0, none⟩) 2 [178, 192] 12 w hr (by decide)).mono ?_
  rintro e w' ⟨g', rfl, hg, hW, hB⟩
  exact ⟨_, rfl, ⟨g', rfl, hW.row hW.lt⟩, hB⟩
end Go.Proofs.Ytaaaehaiimmnhaa
