/- Package need: Of. -/
import Derived.RangeFuncNested
import Derived.RangeFuncBound
import Derived.RangeFuncCalls
import Derived.RangeFuncLeaves
import Derived.RangeFuncBox
import Derived.Shelf.Abstract
import Derived.Shelf.RegionOpen
import Derived.WalkKit
import Derived.OwnWalkIn
import Derived.TacticsInMore
import Derived.LoopNIn
import Derived.LoopIn
import Derived.WalkMore
import Derived.Test.YtljpiafopbfdlaaQAn
namespace Go.Proofs.Ytljpiafopbfdlaa
open Go.RowKit Go.Shelf
set_option linter.unusedVariables false
set_option linter.unusedSimpArgs false

attribute [local go_sem] Oper.semAt_some

/-- append(v, x), v a row of needs of the call's own, with what is told of the block. -/
theorem append_need13 (base n : Nat) (v : Value) (xs : List Value) (x : Int × Int × Int) (w : World) (a : Nat) (hown : w.ownsRow base 40 3 v n xs) (hc : Whole w a 40 (needCells x)) (hn : n ≤ 1000000) (hbase : base ≤ w.heap.size) :
    ∃ v' w', (Builtin.append_ #[25, 25] 25 #[v, .slice (some ⟨a, 0, none⟩) 1 1]).run Try.prog w = .ok v' w' ∧ w'.ownsRow base 40 3 v' (n + 1) (xs ++ needCells x) ∧ w.grownBy w' v.ownBlock ∧ Below base w w' ∧ (v'.ownBlock = v.ownBlock ∨ v'.ownBlock = some w.heap.size) := by
  obtain ⟨i, i1, i2, i3, i4⟩ := info_parts infoNeed
  obtain ⟨v', w', r1, r2, r3, r4, r5⟩ := run_append_own_at (P := Try.prog) w base 25 25 40 i (.agg #[.int .i64 0, .int .i64 0, .int .i64 0]) 3 24 Try.underlying25 i1 i2 i3 i4 rfl (by omega) v n xs hown ⟨a, 0, none⟩ 1 1 (needCells x) rfl (row_add (hc.row hc.lt)) (oneNeed x) (by unfold maxLen; omega) (by omega) hbase
  exact ⟨v', w', r1, r2, r3, (Below.refl base w).grown r3 hbase (fun k e => (hown.lt k e).1), r5⟩
/-- What a round of Of knows. -/
structure OfI (w : World) (xs : List (Int × Int × Int)) (U : Nat → Prop) (j : Nat) (W : World) : Prop where
  below : Below w.heap.size w W
  size : w.heap.size + 5 ≤ W.heap.size
  row : ∃ v, Whole W (w.heap.size + 1 + 1) 25 [v] ∧ W.ownsRow (w.heap.size + 5) 40 3 v (xs.take j).length ((xs.take j).flatMap needCells) ∧ ∀ b, v.ownBlock = some b → U b
theorem OfI.safe (w : World) (xs : List (Int × Int × Int)) : Safe (w.heap.size + 5) (OfI w xs) := by
  rintro U j W W' ⟨h1, h2, v, h5, h6, h7⟩ ht
  exact ⟨Safe.below (β := Unit) (B := w.heap.size + 5) (by omega) (Nat.le_refl _) U () W W' h1 ht, Nat.le_trans h2 ht.size, v, ht.whole h5 (.inl (by omega)), owns_stays ht h6 (fun b hb => .inr (h7 b hb)), h7⟩
theorem OfI.up {w W : World} {xs : List (Int × Int × Int)} {U U' : Nat → Prop} {j : Nat} (h : OfI w xs U j W) (hU : ∀ k, U k → U' k) : OfI w xs U' j W :=
  ⟨h.1, h.2, let ⟨v, h5, h6, h7⟩ := h.3; ⟨v, h5, h6, fun b hb => hU b (h7 b hb)⟩⟩
/-- A need more is appended. -/
theorem OfI.append {w W : World} {xs : List (Int × Int × Int)} {U : Nat → Prop} {j : Nat} {m : Int × Int × Int} (h : OfI w xs U j W) (hj : xs[j]? = some m) (hUl : ∀ k, U k → k < W.heap.size) (hn : xs.length ≤ 1000000) :
    ∃ v, W.cell? ⟨w.heap.size + 1 + 1, 0, none⟩ = some v ∧ ∃ v' W3, (Builtin.append_ #[25, 25] 25 #[v, .slice (some ⟨W.heap.size, 0, none⟩) 1 1]).run Try.prog (W.alloc (.cells #[.int .i64 m.1, .int .i64 m.2.1, .int .i64 m.2.2] 40)) = .ok v' W3 ∧
      Whole W3 (w.heap.size + 1 + 1) 25 [v] ∧ (∃ A n c, v' = .slice A n c) ∧
      OfI w xs (With U W (W3.setCell ⟨w.heap.size + 1 + 1, 0, none⟩ v')) (j + 1) (W3.setCell ⟨w.heap.size + 1 + 1, 0, none⟩ v') ∧
      W.heap.size ≤ (W3.setCell ⟨w.heap.size + 1 + 1, 0, none⟩ v').heap.size ∧ Kept (fun k => k < w.heap.size ∨ (k = w.heap.size + 1 + 1 + 1 ∨ k = w.heap.size + 1 + 1 + 1 + 1)) (w.heap.size + 5) U W (W3.setCell ⟨w.heap.size + 1 + 1, 0, none⟩ v') := by
  obtain ⟨h1, h2, v, h5, h6, h7⟩ := h
  refine ⟨v, h5.cell_at 0 rfl, ?_⟩
  have hb1 := below1 W (.cells #[.int .i64 m.1, .int .i64 m.2.1, .int .i64 m.2.2] 40)
  have hnj : (xs.take j).length ≤ 1000000 := by rw [List.length_take]; omega
  obtain ⟨v', W3, hrun, hown, hgr, hBl, hblk⟩ := append_need13 (w.heap.size + 5) (xs.take j).length v ((xs.take j).flatMap needCells) m (W.alloc (.cells #[.int .i64 m.1, .int .i64 m.2.1, .int .i64 m.2.2] 40)) W.heap.size (owns_keep h6 hb1) (Whole.new W _ (needCells m)) hnj (by simp; omega)
  have hvb : ∀ b, v.ownBlock = some b → w.heap.size + 5 ≤ b := fun b hb => (h6.lt b hb).1
  have hs3 : W.heap.size + 1 ≤ W3.heap.size := by have := hgr.size; simpa using this
  have hkeep : ∀ k o, W.heap[k]? = some o → (∀ b, v.ownBlock = some b → k ≠ b) → W3.heap[k]? = some o := fun k o ho hne => by
    have hlt := (Array.getElem?_eq_some_iff.1 ho).1
    exact (hgr.block k (by simp; omega) (fun e => hne k e.symm rfl)).trans ((hb1.block k hlt).trans ho)
  have hset : ∀ k o, W3.heap[k]? = some o → k ≠ w.heap.size + 1 + 1 → (W3.setCell ⟨w.heap.size + 1 + 1, 0, none⟩ v').heap[k]? = some o := fun k o ho hne => (Below.heap_setCell W3 ⟨w.heap.size + 1 + 1, 0, none⟩ v' k hne).trans ho
  have hbox3 : Whole W3 (w.heap.size + 1 + 1) 25 [v] := hkeep _ _ h5 (fun b hb => by have := hvb b hb; omega)
  have hsz : (W3.setCell ⟨w.heap.size + 1 + 1, 0, none⟩ v').heap.size = W3.heap.size := by simp [World.setCell]
  refine ⟨v', W3, hrun, hbox3, (let ⟨A, c, e⟩ := slice_of hown; ⟨A, _, c, e⟩), ⟨?_, by rw [hsz]; omega, v', hbox3.set 0 v', ?_, ?_⟩, by rw [hsz]; omega, ⟨by rw [hsz]; omega, ?_⟩⟩
  · exact (h1.trans ((hb1.mono (by omega)).trans (hBl.mono (by omega)))).setCell (p := ⟨w.heap.size + 1 + 1, 0, none⟩) (by show w.heap.size ≤ w.heap.size + 1 + 1; omega) _
  · rw [List.take_add_one, hj, Option.toList_some, List.length_append, List.flatMap_append]
    have := hown.kept (grownBy_setCell' W3 (w.heap.size + 1 + 1) v') (.inr (fun e => by have := (hown.lt _ e).1; omega))
    simpa using this
  · intro b hb
    rcases hblk with e | e
    · exact .inl (h7 b (e ▸ hb))
    · rw [hb] at e
      have e' := Option.some.inj e
      refine .inr ⟨by rw [e']; simp, by rw [hsz]; exact (hown.lt b hb).2⟩
  · intro k o ho hr
    refine hset _ _ (hkeep _ _ ho (fun b hb e => ?_)) (fun e => ?_)
    · have := hvb b hb
      rcases hr with hr | hr
      · omega
      · exact hr.2 (e ▸ h7 b hb)
    · rcases hr with hr | hr <;> omega

end Go.Proofs.Ytljpiafopbfdlaa
