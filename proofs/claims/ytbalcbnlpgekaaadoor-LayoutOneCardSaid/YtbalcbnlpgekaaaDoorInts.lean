/- Rows of ints of the call's own: one number more; what such a row reads as. -/
import Derived.Test.YtbalcbnlpgekaaaDoorIn
import Derived.Test.YtbalcbnlpgekaaaDoorAppend
import Derived.Test.YtbalcbnlpgekaaaDoorClosed
namespace Go.Proofs.YtbalcbnlpgekaaaDoor
open Go.RowKit
set_option linter.unusedVariables false

theorem ints_info : (Tryd.prog.info? 3).map (fun i => (i.zero, i.size, i.bytes)) = some (some (.int .i64 0), 1, 8) := by kernel_rfl
/-- What is owned is owned in whatever grows out of the world. -/
theorem ownsV_keep {w w' : World} {base e n : Nat} {v : Value} {xs : List Value} (h : w.ownsRow base e 1 v n xs) (hb : Below w.heap.size w w') : w'.ownsRow base e 1 v n xs := by
  refine ⟨h.1, ?_⟩
  rcases h.2 with h2 | ⟨g', cap', cur, hv, h3, h4, r⟩
  · exact .inl h2
  · exact .inr ⟨g', cap', cur, hv, h3, (hb.block g' (Array.getElem?_eq_some_iff.1 h4).1).trans h4, r⟩
/-- append(v, m), v a row of ints of the call's own, nil or not. -/
theorem append_int (base n : Nat) (v : Value) (xs : List Value) (m : Int) (w : World) (a : Nat) (hown : w.ownsRow base 3 1 v n xs) (hc : w.cell? ⟨a, 0, none⟩ = some (.int .i64 m)) (hn : n ≤ 1000) (hbase : base ≤ w.heap.size) :
    ∃ v' w', (Builtin.append_ #[114, 114] 114 #[v, .slice (some ⟨a, 0, none⟩) 1 1]).run Tryd.prog w = .ok v' w' ∧ w'.ownsRow base 3 1 v' (n + 1) (xs ++ [.int .i64 m]) ∧ w.grownBy w' v.ownBlock ∧ Below base w w' := by
  obtain ⟨i, i1, i2, i3, i4⟩ := info_parts ints_info
  obtain ⟨v', w', r1, r2, r3, r4, r5⟩ := run_append_own_at (P := Tryd.prog) w base 114 114 3 i (.int .i64 0) 1 8 Tryd.underlying114 i1 i2 i3 i4 rfl (by omega) v n xs hown ⟨a, 0, none⟩ 1 1 [.int .i64 m] rfl
    (by
      intro j u hu
      match j, hu with
      | 0, hu => simpa [Addr.add] using (by rw [hc]; exact hu)) (by simp [Value.oneCell']) (by unfold maxLen; omega) (by omega) hbase
  refine ⟨v', w', r1, r2, r3, (Below.refl base w).grown r3 hbase (fun k e => ?_)⟩
  exact (hown.lt k e).1
/-- What is owned, read as a slice. -/
theorem owns_slice {w : World} {base e n : Nat} {v : Value} {xs : List Value} (h : w.ownsRow base e 1 v n xs) : ∃ A c, v = .slice A n c ∧ Row w w.heap.size A xs ∧ n ≤ c := by
  rcases h.2 with ⟨rfl, rfl⟩ | ⟨g, cap, cur, rfl, hg, _, hn, _⟩
  · have : xs = [] := List.eq_nil_of_length_eq_zero (by have := h.1; omega)
    subst this
    exact ⟨none, 0, rfl, Row.nil _ _ _, Nat.le_refl _⟩
  · exact ⟨_, cap, rfl, owns_row h (owns_lt h).2, hn⟩
end Go.Proofs.YtbalcbnlpgekaaaDoor
