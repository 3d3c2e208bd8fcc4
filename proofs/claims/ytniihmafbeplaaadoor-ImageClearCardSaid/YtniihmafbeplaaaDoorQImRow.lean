/- Images, what the field tells, rows of such, that came in: their cells. -/
import Derived.Test.YtniihmafbeplaaaDoorQLayRowC
import Derived.Test.YtniihmafbeplaaaDoorQW
namespace Go.Proofs.YtniihmafbeplaaaDoor
open Go.ChangeShapes Go.WideShapes Go.ChangeAt Go.RowKit Go.Deep
open Go.Joins Go.Shelf
set_option linter.unusedVariables false
set_option maxRecDepth 100000
theorem fits_rep : ∀ (n : Nat) (ls : List Leaf) (cs : List Value), Fits (List.replicate n (.num .i64) ++ ls) cs → ∃ (zs : List Int) (vs : List Value), cs = nums .i64 zs ++ vs ∧ zs.length = n ∧ Fits ls vs
  | 0, ls, cs, h => ⟨[], cs, rfl, rfl, h⟩
  | n + 1, ls, cs, h => by
    obtain ⟨z, cs, rfl, _, h⟩ := fits_num h
    obtain ⟨zs, vs, rfl, hl, h⟩ := fits_rep n ls cs h
    exact ⟨z :: zs, vs, rfl, by simp [hl], h⟩
def innL : List Leaf := [.num .u32, .num .u32, .num .u32, .num .u32]
def imgL : List Leaf := .num .i64 :: (List.replicate 24 (.num .i64) ++ innL)
theorem inn_of {cs : List Value} (h : Fits innL cs) : ∃ x : Inn, cs = x.cells ∧ x.Wf := by
  unfold innL at h
  obtain ⟨a, cs, rfl, wa, h⟩ := fits_num h
  obtain ⟨b, cs, rfl, wb, h⟩ := fits_num h
  obtain ⟨c, cs, rfl, wc, h⟩ := fits_num h
  obtain ⟨d, cs, rfl, wd, h⟩ := fits_num h
  obtain rfl := fits_nil h
  exact ⟨⟨a, b, c, d⟩, rfl, ⟨(Lit.wf_int_iff .u32 a).1 wa, (Lit.wf_int_iff .u32 b).1 wb, (Lit.wf_int_iff .u32 c).1 wc, (Lit.wf_int_iff .u32 d).1 wd⟩⟩
theorem img_of {cs : List Value} (h : Fits imgL cs) : ∃ im : Img, cs = im.cells ∧ im.Wf ∧ (-9223372036854775808 ≤ im.age ∧ im.age ≤ 9223372036854775807) := by
  unfold imgL at h
  obtain ⟨a, cs, rfl, wa, h⟩ := fits_num h
  obtain ⟨fs, cs, rfl, hl, h⟩ := fits_rep 24 _ _ h
  obtain ⟨x, rfl, hx⟩ := inn_of h
  exact ⟨⟨a, fs, x.o, x.n, x.r, x.p⟩, rfl, ⟨hl, hx.o, hx.n, hx.r, hx.p⟩, (Lit.wf_int_iff .i64 a).1 wa⟩
section
variable {H : Type} {enc : TypeId × Value → H} {w : World} {base : Nat} {spare : Nat → Bool} {held : Bool}
theorem inn_el {n : Nat} {cs : List Value} {x : DataW H × List MemPlace} (h : DataW.trod enc Tryd.prog w base spare held n 33 cs = some x) : ∃ s : Inn, cs = s.cells ∧ s.Wf :=
  inn_of (plain_el 8 (ls := innL) (by kernel_rfl) h)
theorem inns_openC {r : Reach} {b0 : Nat} {v : Value} {d : DataW H} {p : List MemPlace} (hv : Value.okWide Tryd.prog w r b0 55 v) (h : DataW.Trod enc Tryd.prog w base spare held 55 v d p) :
    ∃ (A : Option Addr) (cap : Nat) (xs : List Inn), v = .slice A xs.length cap ∧ Row w w.heap.size A (xs.flatMap Inn.cells) ∧ (∀ x ∈ xs, x.Wf) ∧ ((xs.length : Nat) : Int) ≤ 9223372036854775807 := by
  obtain ⟨a, l, c, rfl⟩ := okWide_slice Tryd.underlying55 hv
  obtain ⟨fuel, hf⟩ := h
  obtain ⟨A, cap, xs, e, hr, hw, hn, hc⟩ := row_openC (f := Inn.cells) (G := Inn.Wf) (c := 4) (fun _ => rfl) (by omega) Tryd.underlying55 (by kernel_rfl) (fun n cs x h => inn_el h) hf
  exact ⟨A, cap, xs, e, hr, hw, hn⟩
end

end Go.Proofs.YtniihmafbeplaaaDoor
