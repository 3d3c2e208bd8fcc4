/- Package join: joined; rows of steps; Steps; the document's own Steps. -/
import Derived.Test.YtiknjkgioiknnaaDoorQJoinB
import Derived.Test.YtiknjkgioiknnaaDoorQC
namespace Go.Proofs.YtiknjkgioiknnaaDoor
open Go.RowKit Go.Shelf
set_option linter.unusedVariables false
set_option linter.unusedSimpArgs false

/-- append(v, x), v a row of steps of the call's own, nil or not. -/
theorem append_step (base n : Nat) (v : Value) (xs : List Value) (x : Int × Int × Int) (w : World) (a : Nat) (hown : w.ownsRow base 53 3 v n xs) (hc : Whole w a 53 (stpCells x)) (hn : n ≤ 1000) (hbase : base ≤ w.heap.size) :
    ∃ v' w', (Builtin.append_ #[32, 32] 32 #[v, .slice (some ⟨a, 0, none⟩) 1 1]).run Tryd.prog w = .ok v' w' ∧ w'.ownsRow base 53 3 v' (n + 1) (xs ++ stpCells x) ∧ Below base w w' := by
  obtain ⟨i, i1, i2, i3, i4⟩ := info_parts infoStep
  obtain ⟨v', w', r1, r2, r3, r4, r5⟩ := run_append_own_at (P := Tryd.prog) w base 32 32 53 i (.agg #[.int .i64 0, .int .i64 0, .int .i64 0]) 3 24 Tryd.underlying32 i1 i2 i3 i4 rfl (by omega) v n xs hown ⟨a, 0, none⟩ 1 1 (stpCells x) rfl (row_add (hc.row hc.lt)) (oneStep x) (by unfold maxLen; omega) (by omega) hbase
  exact ⟨v', w', r1, r2, (Below.refl base w).grown r3 hbase (fun k e => (hown.lt k e).1)⟩
/-- What is owned, of elements of k cells, is owned in whatever grows out of the world; read as a slice. -/
theorem ownsS_keep {w w' : World} {base e n k : Nat} {v : Value} {xs : List Value} (h : w.ownsRow base e k v n xs) (hb : Below w.heap.size w w') : w'.ownsRow base e k v n xs := by
  refine ⟨h.1, ?_⟩
  rcases h.2 with h2 | ⟨g', cap', cur, hv, h3, h4, r⟩
  · exact .inl h2
  · exact .inr ⟨g', cap', cur, hv, h3, (hb.block g' (Array.getElem?_eq_some_iff.1 h4).1).trans h4, r⟩
theorem ownsS_slice {w : World} {base e n : Nat} {v : Value} {xs : List Value} (h : w.ownsRow base e 3 v n xs) : ∃ A c, v = .slice A n c ∧ Row w w.heap.size A xs ∧ n ≤ c := by
  rcases h.2 with ⟨rfl, rfl⟩ | ⟨g, cap, cur, rfl, hg, _, hn, _⟩
  · have : xs = [] := List.eq_nil_of_length_eq_zero (by have := h.1; omega)
    subst this
    exact ⟨none, 0, rfl, Row.nil _ _ _, Nat.le_refl _⟩
  · exact ⟨_, cap, rfl, owns_row2 h, hn⟩
/-- To which ports ways go from i in a section of kind k; the steps on. -/
def outsK (k i : Int) : List Int := outsTo (nK k) 0 (bK k) (cK k) (dK k) i (pK k).toNat
theorem outsK_no (i : Int) : outsK 0 i = [] := rfl
theorem outsK_le (k i : Int) : (outsK k i).length ≤ 4 := Nat.le_trans (outsTo_le _ _ _ _ _ _ _) (by have := pK_le4 k; omega)
def onward (q : Int × Int) (o : Int) : Int × Int × Int := (q.1, q.2, o)
def stepsV (l : Lay) (s p : Int) : List (Int × Int × Int) := (outsK (atV l (beyondV l s p).1 (beyondV l s p).2).k (beyondV l s p).2).map (onward (beyondV l s p))
theorem steps_cells {q : Int × Int} {os : List Int} {j : Nat} {o : Int} (h : os[j]? = some o) : ((os.take (j + 1)).map (onward q)).flatMap stpCells = ((os.take j).map (onward q)).flatMap stpCells ++ stpCells (onward q o) := by
  rw [List.take_add_one, h, List.map_append, List.flatMap_append]
  simp
theorem steps_len {q : Int × Int} {os : List Int} {j : Nat} (h : j ≤ os.length) : ((os.take j).map (onward q)).length = j := by rw [List.length_map, List.length_take]; omega
theorem atV_range {l : Lay} {w : World} (hl : Lies l w) (s p : Int) : 0 ≤ (atV l s p).k ∧ (atV l s p).k ≤ 255 := by
  cases h : thereV l s p
  · rw [atV_no h]; exact ⟨Int.le_refl _, by show (0 : Int) ≤ 255; omega⟩
  · rw [atV_kind h]; exact kindV_range hl s

section
variable {P : World → Prop} {w : World}
end
end Go.Proofs.YtiknjkgioiknnaaDoor
