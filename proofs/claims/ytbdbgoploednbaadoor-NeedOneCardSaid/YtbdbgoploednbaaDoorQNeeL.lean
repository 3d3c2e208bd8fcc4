/- What a path needs is such as int holds; how much it is at most. -/
import Derived.Test.YtbdbgoploednbaaDoorQNeeK
import Derived.Test.YtbdbgoploednbaaDoorQN
namespace Go.Proofs.YtbdbgoploednbaaDoor
open Go.RowKit Go.Shelf
set_option linter.unusedVariables false
set_option linter.unusedSimpArgs false
set_option maxRecDepth 100000

theorem small_wf {z : Int} (h0 : 0 ≤ z) (h1 : z ≤ 1000) : (Lit.int .i64 z).wf = true := (Lit.wf_int_iff .i64 z).2 (by show -9223372036854775808 ≤ z ∧ z ≤ 9223372036854775807; omega)
theorem wantN_wf {l : Lay} (hF : FWf l) (hS : l.secs.length ≤ 1000) {x : Int × Int × Int × Int} : ∀ n ∈ wantN l x, NWf n := by
  intro n hn
  unfold wantN wantsV firstV at hn
  rcases List.mem_append.1 hn with h | h
  · rcases point_cases l x.2.1 x.2.2.1 x.2.2.2 with ⟨_, e⟩ | ⟨_, _, _, _, _, _, e⟩ | ⟨j, y, _, hy, _, _, _, e⟩
    · rw [e] at h; cases h
    · rw [e] at h; cases h
    · rw [e, if_pos rfl] at h
      obtain rfl := List.mem_singleton.1 h
      have hj := (List.getElem?_eq_some_iff.1 hy).1
      refine ⟨small_wf (by show (0 : Int) ≤ (j : Int); omega) (by show (j : Int) ≤ 1000; omega), ?_⟩
      have := way_two 2 x.2.2.1 x.2.2.2
      exact small_wf (by show 0 ≤ wayK 2 _ _; omega) (by show wayK 2 _ _ ≤ 1000; omega)
  · obtain ⟨f, hf, rfl⟩ := List.mem_map.1 h
    exact hF f (List.mem_filter.1 hf).1
theorem ofV_wf {l : Lay} {p : Pth} (hF : FWf l) (hS : l.secs.length ≤ 1000) : ∀ n ∈ ofV l p, NWf n := by
  intro n hn
  rw [← of_flat] at hn
  obtain ⟨x, _, hx⟩ := List.mem_flatMap.1 hn
  exact wantN_wf hF hS n hx
theorem over_most {l : Lay} {k : Nat} (hO : ∀ x ∈ l.exits, x.over.length ≤ k) (x : Int) : (overL10 l x).length ≤ k := by
  unfold overL10
  split
  · cases h : l.exits[x.toNat]? with
    | none => simp
    | some e => simpa using hO e (List.mem_of_getElem? h)
  · simp
end Go.Proofs.YtbdbgoploednbaaDoor
