/- What goes with a step, in numbers: its point, what it wants, its class, overlaps, what lies beyond, masks, what goes on. -/
import Derived.Test.YthjnhigcheakaaaDoorQJoinB
import Derived.Test.YthjnhigcheakaaaDoorQC
namespace Go.Proofs.YthjnhigcheakaaaDoor
open Go.RowKit Go.Shelf
set_option linter.unusedVariables false
set_option linter.unusedSimpArgs false

def pointV (l : Lay) (s i o : Int) : Int × Int × Bool := if stepV l s i o = true ∧ kindV l s = 2 then (s, wayK 2 i o, true) else (0, 0, false)
/-- Its flanks, as far as j. -/
def isFlk (l : Lay) (s i o : Int) (f : Int × Int × Int × Int) : Bool := stepV l s i o && (decide (f.1 = s) && decide (f.2.1 = wayK (kindV l s) i o))
def flanksV (l : Lay) (s i o : Int) : List (Int × Int × Int × Int) := l.flanks.filter (isFlk l s i o)
/-- Needs: point, position, K. -/
abbrev needCells (n : Int × Int × Int) : List Value := [.int .i64 n.1, .int .i64 n.2.1, .int .i64 n.2.2]
def firstV (l : Lay) (s i o k : Int) : List (Int × Int × Int) := if (pointV l s i o).2.2 = true then [((pointV l s i o).1, (pointV l s i o).2.1, k)] else []
def wantsV (l : Lay) (s i o k : Int) : List (Int × Int × Int) := firstV l s i o k ++ (flanksV l s i o).map (fun f => (f.2.2.1, f.2.2.2, k))
def classV (l : Lay) (s i o : Int) : Int := if stepV l s i o = true then ((l.secs[s.toNat]?).map (fun y => if wayK (kindV l s) i o = 0 then y.c0 else y.c1)).getD 0 else 0
def overL10 (l : Lay) (x : Int) : List (Int × Int × Int) := if 0 ≤ x then ((l.exits[x.toNat]?).map Exm.over).getD [] else []
def nextV (l : Lay) (s i o : Int) : Int × Int := if stepV l s i o = true then beyondV l s o else (-1, 0)
def rearV (l : Lay) (x : Int) : Int × Int := if 0 ≤ x then ((l.sigs[x.toNat]?).map (fun p => beyondV l p.1 p.2)).getD (-1, 0) else (-1, 0)
def goesL (l : Lay) : Int × Int → List (Int × Int × Int) → Bool
  | _, [] => true
  | p, x :: r => stepV l x.1 x.2.1 x.2.2 && (decide (p = (x.1, x.2.1)) && goesL l (nextV l x.1 x.2.1 x.2.2) r)

theorem way_two (k i o : Int) : wayK k i o = 0 ∨ wayK k i o = 1 := by
  unfold wayK wayV
  split
  · exact .inl rfl
  · split
    · exact .inr rfl
    · exact .inl rfl
theorem step_some {l : Lay} {s i o : Int} (h : stepV l s i o = true) : ∃ (j : Nat) (y : Sec), s = j ∧ l.secs[j]? = some y ∧ kindV l s = y.k ∧ goesK y.k i o = true := by
  unfold stepV at h
  by_cases h0 : kindV l s = 0
  · rw [h0, goesK_no] at h; cases h
  · obtain ⟨j, y, e, hy, hk⟩ := kindV_some h0
    exact ⟨j, y, e, hy, hk, by rw [← hk]; exact h⟩
theorem pos_two {i o : Int} (h : goesK 2 i o = true) : posV 2 (nK 2) 0 (bK 2) (cK 2) (dK 2) i o = wayK 2 i o := by
  unfold posV
  rw [if_pos (show goesV (nK 2) 0 (bK 2) (cK 2) (dK 2) i o = true from h), if_pos rfl]
  rfl
theorem point_cases (l : Lay) (s i o : Int) : (stepV l s i o = false ∧ pointV l s i o = (0, 0, false)) ∨
    (∃ (j : Nat) (y : Sec), s = j ∧ l.secs[j]? = some y ∧ stepV l j i o = true ∧ ¬ y.k = 2 ∧ pointV l s i o = (0, 0, false)) ∨
    (∃ (j : Nat) (y : Sec), s = j ∧ l.secs[j]? = some y ∧ stepV l j i o = true ∧ y.k = 2 ∧ goesK 2 i o = true ∧ pointV l s i o = ((j : Int), wayK 2 i o, true)) := by
  unfold pointV
  cases h : stepV l s i o
  · exact .inl ⟨rfl, by simp⟩
  · obtain ⟨j, y, rfl, hy, hk, hg⟩ := step_some h
    by_cases h2 : y.k = 2
    · exact .inr (.inr ⟨j, y, rfl, hy, h, h2, by rw [← h2]; exact hg, by rw [hk, h2]; simp⟩)
    · exact .inr (.inl ⟨j, y, rfl, hy, h, h2, by rw [hk]; simp [h2]⟩)
theorem class_cases (l : Lay) (s i o : Int) : (stepV l s i o = false ∧ classV l s i o = 0) ∨
    (∃ (j : Nat) (y : Sec) (e : Nat), s = j ∧ l.secs[j]? = some y ∧ stepV l j i o = true ∧ wayK (kindV l j) i o = e ∧ e < 2 ∧ ([y.c0, y.c1] : List Int)[e]? = some (classV l s i o)) := by
  unfold classV
  cases h : stepV l s i o
  · exact .inl ⟨rfl, by simp⟩
  · obtain ⟨j, y, rfl, hy, hk, hg⟩ := step_some h
    right
    rcases way_two (kindV l j) i o with e | e
    · exact ⟨j, y, 0, rfl, hy, h, e, by omega, by rw [if_pos rfl, Int.toNat_natCast, hy, e]; rfl⟩
    · exact ⟨j, y, 1, rfl, hy, h, e, by omega, by rw [if_pos rfl, Int.toNat_natCast, hy, e]; rfl⟩
theorem at_cases_n {α : Type} (l : List α) (x : Int) : x < 0 ∨ (0 ≤ x ∧ (l.length : Int) ≤ x) ∨ ∃ (j : Nat) (y : α), x = j ∧ l[j]? = some y ∧ (j : Int) < l.length := by
  by_cases h0 : x < 0
  · exact .inl h0
  by_cases h1 : (l.length : Int) ≤ x
  · exact .inr (.inl ⟨by omega, h1⟩)
  obtain ⟨j, rfl⟩ : ∃ j : Nat, x = j := ⟨x.toNat, by omega⟩
  exact .inr (.inr ⟨j, l[j]'(by omega), rfl, List.getElem?_eq_getElem (by omega), by omega⟩)
theorem over_neg {l : Lay} {x : Int} (h : x < 0) : overL10 l x = [] := if_neg (by omega)
theorem over_far {l : Lay} {x : Int} (h0 : 0 ≤ x) (h : (l.exits.length : Int) ≤ x) : overL10 l x = [] := by unfold overL10; rw [if_pos h0, List.getElem?_eq_none (by omega)]; rfl
theorem over_at {l : Lay} {j : Nat} {y : Exm} (h : l.exits[j]? = some y) : overL10 l j = y.over := by unfold overL10; rw [if_pos (by omega), Int.toNat_natCast, h]; rfl
theorem rear_neg {l : Lay} {x : Int} (h : x < 0) : rearV l x = (-1, 0) := if_neg (by omega)
theorem rear_far {l : Lay} {x : Int} (h0 : 0 ≤ x) (h : (l.sigs.length : Int) ≤ x) : rearV l x = (-1, 0) := by unfold rearV; rw [if_pos h0, List.getElem?_eq_none (by omega)]; rfl
theorem rear_at {l : Lay} {j : Nat} {y : Int × Int} (h : l.sigs[j]? = some y) : rearV l j = beyondV l y.1 y.2 := by unfold rearV; rw [if_pos (by omega), Int.toNat_natCast, h]; rfl
end Go.Proofs.YthjnhigcheakaaaDoor
