/- What an image tells at its worst: pure. -/
import Derived.Test.YtniihmafbeplaaaDoorQLiA
namespace Go.Proofs.YtniihmafbeplaaaDoor
open Go.RowKit Go.Shelf
set_option linter.unusedVariables false
set_option linter.unusedSimpArgs false

theorem and31 : ∀ k : Nat, k < 32 → bits BinOp.and IntKind.i64 (k : Int) 31 = (k : Int) := by
  have h : ∀ k : Fin 32, bits BinOp.and IntKind.i64 ((k.val : Nat) : Int) 31 = ((k.val : Nat) : Int) := by decide +kernel
  exact fun k hk => h ⟨k, hk⟩
section
variable {l : Lay} {im : Img}
theorem occ_stale (hi : im.Wf) (h : staleI l im = true) (s : Int) : occI l im s = true := by
  unfold occI toldI
  rw [h]
  simp
theorem occ_none {s : Int} (h : ¬ (0 ≤ s ∧ s < l.secs.length ∧ s < 24)) : occI l im s = true := occ_out h
theorem at_stale (h : staleI l im = true) (p : Int) : atI l im p = -1 := by
  unfold atI toldI
  rw [h]
  simp [standI]
theorem at_none {p : Int} (h : ¬ (0 ≤ p ∧ p < l.secs.length)) : atI l im p = -1 := by
  unfold atI
  rw [within_no h]
  rfl
theorem at_both {p : Int} (h : bitU im.n p.toNat = bitU im.r p.toNat) : atI l im p = -1 := by
  unfold atI toldI
  rw [h]
  cases staleI l im <;> cases bitU im.r p.toNat <;> simp [standI]
theorem at_lim (p : Int) : -1 ≤ atI l im p ∧ atI l im p ≤ 1 := by
  unfold atI standI
  split
  · split
    · omega
    · split <;> omega
  · omega
theorem at_kind {p : Int} (h : 0 ≤ atI l im p) : (0 ≤ p ∧ p < l.secs.length) ∧ kindV l p = 2 := by
  by_cases hin : 0 ≤ p ∧ p < l.secs.length
  · refine ⟨hin, ?_⟩
    by_cases hk : kindV l p = 2
    · exact hk
    · unfold atI at h
      rw [decide_eq_false hk, Bool.and_false] at h
      simp at h
  · rw [at_none hin] at h
    omega
theorem lit_stale (h : staleI l im = true) (n : Int) (m : Nat) (b : Int) : told15 l im n m b = false := by
  unfold told15 toldI
  rw [h]
  simp
theorem lit_none {n : Int} {m : Nat} (h : ¬ (0 ≤ n ∧ n < m)) (b : Int) : told15 l im n m b = false := by
  unfold told15
  rw [within_no h]
  rfl
theorem told_yes (hi : im.Wf) {n : Int} (h : told15 l im n (cntI l) im.o = true) : staleI l im = false ∧ (0 ≤ n ∧ n < l.secs.length) ∧ occI l im n = true := by
  by_cases hin : 0 ≤ n ∧ n < (cntI l : Nat)
  · obtain ⟨k, rfl⟩ : ∃ k : Nat, n = k := ⟨n.toNat, by omega⟩
    have hc : cntI l ≤ l.secs.length ∧ cntI l ≤ 24 := by unfold cntI; omega
    unfold told15 toldI at h
    rw [within_yes (by omega), Int.toNat_natCast] at h
    simp only [Bool.true_and, Bool.and_eq_true, Bool.not_eq_true'] at h
    refine ⟨h.1, by omega, ?_⟩
    unfold occI
    rw [Int.toNat_natCast, told_clear hi (by omega)]
    unfold clearI
    rw [h.2]
    simp
  · rw [lit_none hin] at h
    cases h
end

end Go.Proofs.YtniihmafbeplaaaDoor
