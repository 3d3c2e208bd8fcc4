/- Memory of the call's own: made with room behind it; copied onto; as an own row. -/
import Derived.Test.YtbalcbnlpgekaaaDoorAppend
namespace Go.Proofs.YtbalcbnlpgekaaaDoor
open Go.RowKit
set_option linter.unusedVariables false

/-- make([]T, l, c), T of one cell. -/
theorem make_cap_run {P : Program} (t e : TypeId) (z : Value) (bytes : Nat) (ht : P.underlying t = some (.slice e)) (hi : (P.info? e).map (fun i => (i.zero, i.size, i.bytes)) = some (some z, 1, bytes)) (hz : z.cells = #[z])
    (l c : Nat) (hlc : l ≤ c) (hb : (bytes : Int) * c ≤ 281474976710656) (hc : c ≤ 9223372036854775807) (w : World) :
    (Instr.makeSlice t (.int .i64 (l : Int)) (.int .i64 (c : Int))).run P w = .ok (.slice (some ⟨w.heap.size, 0, none⟩) l c) (w.alloc (.cells (List.replicate c z).toArray e)) := by
  obtain ⟨i, h1, h2, h3, h4⟩ := info_parts hi
  have hr := run_make (P := P) w t e i z ht h1 h2 .i64 .i64 (l : Int) (c : Int) (by omega) (by omega) (by rw [h4]; exact hb) (by omega)
  rw [h3, Nat.mul_one, Int.toNat_natCast, Int.toNat_natCast, replicate_cells z hz] at hr
  exact hr

/-- copy of a row onto the head of a block of the call's own, which has room for all of it. -/
theorem copy_part_run {P : Program} (t t' e : TypeId) (ht : P.underlying t = some (.slice e)) (hs : (P.info? e).map (·.size) = some 1) (g : Nat) (cur vs : List Value) (A : Option Addr) (cap B S C : Nat) (w : World)
    (hg : Whole w g e cur) (hS : S ≤ cur.length) (hr : Row w B A vs) (hn : vs.length ≤ S) (h1 : ∀ v ∈ vs, v.oneCell' = true) :
    ∃ w', (∀ ty, (Builtin.copy_ #[t, t'] ty #[.slice (some ⟨g, 0, none⟩) S C, .slice A vs.length cap]).run P w = .ok (goInt vs.length) w') ∧ Whole w' g e (vs ++ cur.drop vs.length) ∧ w.grownBy w' (some g) := by
  by_cases h0 : vs.length = 0
  · obtain rfl : vs = [] := List.eq_nil_of_length_eq_zero h0
    exact ⟨w, fun ty => run_copy_none w t t' ty e _ A S C 0 cap ht hs (by simp), by simpa using hg, World.grownBy.refl _ _⟩
  · obtain ⟨b, off, rfl, hb, hc⟩ := hr (by omega)
    refine ⟨_, fun ty => run_copy_row P w t t' ty e g 0 S C ⟨b, off, none⟩ vs.length cap cur.toArray e vs ht hs hg (by simp only [Nat.min_def]; split <;> omega) (fun j v hv => ?_) (by simp; omega) h1, ?_, ⟨rfl, rfl, rfl, by simp [World.setRow], fun k hk hne => setRow_other w g k _ (fun e => hne (by rw [e]))⟩⟩
    · have := hc j v hv
      unfold Addr.add
      split
      · subst_vars; simpa using this
      · simpa using this
    · show _ = _
      simpa using setRow_heap w g _ _ e _ hg

/-- A whole block, its first n cells, as a row of the call's own. -/
theorem owns_of_whole {w : World} {base g n cap : Nat} {e : TypeId} {cur : List Value} (h : Whole w g e cur) (hb : base ≤ g) (hn : n ≤ cap) (hm : cap ≤ maxLen) (hl : cur.length = cap) :
    w.ownsRow base e 1 (.slice (some ⟨g, 0, none⟩) n cap) n (cur.take n) := by
  refine ⟨by rw [List.length_take]; omega, .inr ⟨g, cap, cur.toArray, rfl, hb, h, hn, hm, by simpa using hl, by simp⟩⟩
end Go.Proofs.YtbalcbnlpgekaaaDoor
