/- Sections, steps and ports that came in, by value: their cells. -/
import Derived.Test.YtbalcbnlpgekaaaDoorPlain
import Derived.Test.YtbalcbnlpgekaaaDoorRows
import Derived.DataShut
namespace Go.Proofs.YtbalcbnlpgekaaaDoor
set_option linter.unusedVariables false

theorem fits_num {k : IntKind} {ls : List Leaf} {cs : List Value} (h : Fits (.num k :: ls) cs) : ∃ (n : Int) (vs : List Value), cs = .int k n :: vs ∧ (Lit.int k n).wf = true ∧ Fits ls vs := by
  cases cs with
  | nil => exact h.elim
  | cons v vs =>
    obtain ⟨⟨n, rfl, hw⟩, h2⟩ := h
    exact ⟨n, vs, rfl, hw, h2⟩
theorem fits_nil {cs : List Value} (h : Fits [] cs) : cs = [] := by
  cases cs with
  | nil => rfl
  | cons v vs => exact h.elim
def secL : List Leaf := [.num .u8, .num .i64, .num .i64, .num .i64, .num .i64, .num .i64, .num .i64, .num .i64, .num .i64, .num .i64, .num .i64]
def stepL : List Leaf := [.num .i64, .num .i64, .num .i64]
def portL : List Leaf := [.num .i64, .num .i64]
theorem sec_of {cs : List Value} (h : Fits secL cs) : ∃ k a b c d e f g i j l : Int, cs = [.int .u8 k, .int .i64 a, .int .i64 b, .int .i64 c, .int .i64 d, .int .i64 e, .int .i64 f, .int .i64 g, .int .i64 i, .int .i64 j, .int .i64 l] ∧ (0 ≤ k ∧ k ≤ 255) := by
  unfold secL at h
  obtain ⟨k, cs, rfl, w_k, h⟩ := fits_num h
  obtain ⟨a, cs, rfl, w_a, h⟩ := fits_num h
  obtain ⟨b, cs, rfl, w_b, h⟩ := fits_num h
  obtain ⟨c, cs, rfl, w_c, h⟩ := fits_num h
  obtain ⟨d, cs, rfl, w_d, h⟩ := fits_num h
  obtain ⟨e, cs, rfl, w_e, h⟩ := fits_num h
  obtain ⟨f, cs, rfl, w_f, h⟩ := fits_num h
  obtain ⟨g, cs, rfl, w_g, h⟩ := fits_num h
  obtain ⟨i, cs, rfl, w_i, h⟩ := fits_num h
  obtain ⟨j, cs, rfl, w_j, h⟩ := fits_num h
  obtain ⟨l, cs, rfl, w_l, h⟩ := fits_num h
  obtain rfl := fits_nil h
  exact ⟨k, a, b, c, d, e, f, g, i, j, l, rfl, (Lit.wf_int_iff .u8 k).1 w_k⟩
theorem step_of {cs : List Value} (h : Fits stepL cs) : ∃ a b c : Int, cs = [.int .i64 a, .int .i64 b, .int .i64 c] := by
  unfold stepL at h
  obtain ⟨a, cs, rfl, w_a, h⟩ := fits_num h
  obtain ⟨b, cs, rfl, w_b, h⟩ := fits_num h
  obtain ⟨c, cs, rfl, w_c, h⟩ := fits_num h
  obtain rfl := fits_nil h
  exact ⟨a, b, c, rfl⟩
theorem port_of {cs : List Value} (h : Fits portL cs) : ∃ a b : Int, cs = [.int .i64 a, .int .i64 b] := by
  unfold portL at h
  obtain ⟨a, cs, rfl, w_a, h⟩ := fits_num h
  obtain ⟨b, cs, rfl, w_b, h⟩ := fits_num h
  obtain rfl := fits_nil h
  exact ⟨a, b, rfl⟩
end Go.Proofs.YtbalcbnlpgekaaaDoor
