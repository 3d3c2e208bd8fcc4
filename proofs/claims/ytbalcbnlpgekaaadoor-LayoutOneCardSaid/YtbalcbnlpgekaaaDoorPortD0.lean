/- A way's ends, looked up: plain. -/
import Derived.Test.YtbalcbnlpgekaaaDoorPortC
namespace Go.Proofs.YtbalcbnlpgekaaaDoor
open Go.RowKit Go.Shelf
set_option linter.unusedVariables false
set_option linter.unusedSimpArgs false

/-- A way's ends, looked up in a row of ways. -/
def endsW (y : Int) : List (Int × Int × Int) → Option (Int × Int)
  | [] => none
  | x :: r => if (x.1 == y) = true then some x.2 else endsW y r
theorem endsW_snoc {y : Int} : ∀ {l : List (Int × Int × Int)} {x : Int × Int × Int}, endsW y l = none → endsW y (l ++ [x]) = if (x.1 == y) = true then some x.2 else none
  | [], x, _ => rfl
  | z :: l, x, h => by
    unfold endsW at h
    rw [List.cons_append]
    unfold endsW
    split at h
    · cases h
    · rename_i hy
      rw [if_neg hy]
      exact endsW_snoc h
theorem endsW_take {y : Int} {v : Int × Int} : ∀ {l : List (Int × Int × Int)} {j : Nat}, endsW y (l.take j) = some v → endsW y l = some v
  | [], _, h => by simpa using h
  | x :: l, 0, h => by simp [endsW] at h
  | x :: l, j + 1, h => by
    rw [List.take_succ_cons] at h
    unfold endsW at h ⊢
    split
    · rename_i hx; rw [if_pos hx] at h; exact h
    · rename_i hx; rw [if_neg hx] at h; exact endsW_take h
/-- What Ends tells of a shape. -/
def hasV (n y : Int) : Bool := decide (0 ≤ y) && decide (y < n)
def endA (n a c y : Int) : Int := if hasV n y = true then (if y = 0 then a else c) else 0
theorem endsW_ways {n a b c d y : Int} (hn : n = 0 ∨ n = 1 ∨ n = 2) : endsW y (waysL n a b c d) = if hasV n y = true then some (endA n a c y, endA n b d y) else none := by
  have e0 : (0 == y) = decide (y = 0) := by rw [Bool.eq_iff_iff, beq_iff_eq, decide_eq_true_eq]; omega
  have e1 : (1 == y) = decide (y = 1) := by rw [Bool.eq_iff_iff, beq_iff_eq, decide_eq_true_eq]; omega
  rcases hn with rfl | rfl | rfl
  · have : hasV 0 y = false := by unfold hasV; simp; try omega
    rw [this]; rfl
  · show endsW y [(0, a, b)] = _
    by_cases h : y = 0
    · subst h; rfl
    · have : hasV 1 y = false := by unfold hasV; simp; try omega
      rw [this]
      simp [endsW, e0, h]
  · show endsW y [(0, a, b), (1, c, d)] = _
    by_cases h : y = 0
    · subst h; rfl
    · by_cases h' : y = 1
      · subst h'; rfl
      · have : hasV 2 y = false := by unfold hasV; simp; try omega
        rw [this]
        simp [endsW, e0, e1, h, h']

end Go.Proofs.YtbalcbnlpgekaaaDoor
