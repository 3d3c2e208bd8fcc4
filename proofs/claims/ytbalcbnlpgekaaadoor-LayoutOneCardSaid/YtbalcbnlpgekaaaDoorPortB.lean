/- Package port: the small ones: where the track ends, within, whether a way joins, a step turned. -/
import Derived.Test.YtbalcbnlpgekaaaDoorPortA
namespace Go.Proofs.YtbalcbnlpgekaaaDoor
open Go.RowKit Go.Shelf
set_option linter.unusedVariables false
attribute [local go_sem] Oper.semAt_some

/-- Is n from 0 to t? -/
def withinV (n t : Int) : Bool := decide (0 ≤ n) && decide (n ≤ t)
theorem within_any (n t : Int) (w : World) : Calls Tryd.prog 92 #[.int .i64 n, .int .i64 t] w fun e w' => e = .returned (.bool (withinV n t)) ∧ w' = w := by
  by_cases h : 0 ≤ n
  · go_enter Tryd.func92, Tryd.ntmps92
    go_wp2_with fail
    go_ret
    exact ⟨ret_bool (by unfold withinV; simp [h]), rfl⟩
  · have h' : decide (0 ≤ n) = false := by simpa using h
    go_enter Tryd.func92, Tryd.ntmps92
    go_wp2_with fail
    go_ret
    exact ⟨ret_bool (by unfold withinV; rw [h']; rfl), rfl⟩

section
variable {P : World → Prop} {w : World}
theorem trackEnd_P (hP : Closed P) (h : P w) : Calls Tryd.prog 91 #[] w fun e w' => e = .returned (.agg #[.int .i64 (-1), .int .i64 0]) ∧ P w' := by
  go_enter Tryd.func91, Tryd.ntmps91
  go_wp2_with fail
  exact bodyPost_ret (v := .agg #[.int .i64 (-1), .int .i64 0]) (by simp [results, Tryd.f91, go_sem]) rfl ⟨rfl, hP _ _ h (below1 _ _)⟩

end

/-- Does a way of the ends a, b go from i to o? -/
def joinV (a b i o : Int) : Bool := (a == i && b == o) || (a == o && b == i)
set_option maxHeartbeats 1000000 in
theorem join_any (a b i o : Int) (w : World) : Calls Tryd.prog 72 #[.agg #[.int .i64 a, .int .i64 b], .int .i64 i, .int .i64 o] w fun e w' => e = .returned (.bool (joinV a b i o)) ∧ w.grownBy w' none ∧ Below w.heap.size w w' := by
  go_enter Tryd.func72, Tryd.ntmps72
  go_wp2_with fail
  all_goals
    go_ret
    exact ⟨ret_bool (by unfold joinV; rw [Bool.eq_iff_iff]; simp; omega), World.grownBy_alloc _ _ _, below1 _ _⟩

/-- The way of a shape that goes from i to o: is there one, and which. -/
def goesV (n a b c d i o : Int) : Bool := (decide (1 ≤ n) && joinV a b i o) || (decide (2 ≤ n) && joinV c d i o)
def wayV (n a b c d i o : Int) : Int := if (decide (1 ≤ n) && joinV a b i o) = true then 0 else if (decide (2 ≤ n) && joinV c d i o) = true then 1 else 0
theorem wayV_none {n a b c d i o : Int} (h : goesV n a b c d i o = false) : wayV n a b c d i o = 0 := by
  unfold goesV at h
  rw [Bool.or_eq_false_iff] at h
  unfold wayV
  rw [h.1, h.2]
  rfl
/-- The same, looked up in a row of ways. -/
def findW (i o : Int) : List (Int × Int × Int) → Option Int
  | [] => none
  | x :: r => if joinV x.2.1 x.2.2 i o = true then some x.1 else findW i o r
theorem findW_snoc {i o : Int} : ∀ {l : List (Int × Int × Int)} {x : Int × Int × Int}, findW i o l = none → findW i o (l ++ [x]) = if joinV x.2.1 x.2.2 i o = true then some x.1 else none
  | [], x, _ => rfl
  | y :: l, x, h => by
    unfold findW at h
    rw [List.cons_append]
    unfold findW
    split at h
    · cases h
    · rename_i hy
      rw [if_neg hy]
      exact findW_snoc h
theorem findW_take {i o v : Int} : ∀ {l : List (Int × Int × Int)} {j : Nat}, findW i o (l.take j) = some v → findW i o l = some v
  | [], _, h => by simpa using h
  | x :: l, 0, h => by simp [findW] at h
  | x :: l, j + 1, h => by
    rw [List.take_succ_cons] at h
    unfold findW at h ⊢
    split
    · rename_i hx; rw [if_pos hx] at h; exact h
    · rename_i hx; rw [if_neg hx] at h; exact findW_take h
theorem findW_ways {n a b c d i o : Int} (hn : n = 0 ∨ n = 1 ∨ n = 2) : findW i o (waysL n a b c d) = if goesV n a b c d i o = true then some (wayV n a b c d i o) else none := by
  rcases hn with rfl | rfl | rfl
  · rfl
  · show findW i o [(0, a, b)] = _
    cases h : joinV a b i o <;> simp [findW, goesV, wayV, h]
  · show findW i o [(0, a, b), (1, c, d)] = _
    cases h : joinV a b i o <;> cases h' : joinV c d i o <;> simp [findW, goesV, wayV, h, h']
end Go.Proofs.YtbalcbnlpgekaaaDoor
