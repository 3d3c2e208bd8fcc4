/- A frame that came in. -/
import Derived.Test.YtgpofgepffhcnaaFrameA
namespace Go.Proofs.Ytgpofgepffhcnaa
open Go.ChangeShapes Go.WideShapes Go.ChangeAt Go.RowKit Go.Deep
open Go.Joins Go.Shelf
set_option linter.unusedVariables false
section
variable {H : Type} {enc : TypeId × Value → H} {w : World} {base : Nat} {spare : Nat → Bool} {held : Bool}
theorem frame_open {r : Reach} {b0 : Nat} {v : Value} {d : DataW H} {p : List MemPlace} (hv : Value.okWide Try.prog w r b0 24 v) (h : DataW.Trod enc Try.prog w base spare held 24 v d p) :
    ∃ k q A cap zs, v = frV k q A zs.length cap ∧ IsByte k ∧ IsByte q ∧ Row w w.heap.size A (u8s zs) ∧ (∀ z ∈ zs, IsByte z) ∧ zs.length ≤ cap ∧ cap ≤ maxLen := by
  obtain ⟨v0, v1, v2, y0, y1, y2, n, rfl, _, _, h0, h1, h2⟩ := open_agg3 Try.underlying24 (by kernel_rfl) (by kernel_rfl) hv h
  obtain ⟨k, hk, _, wk⟩ := DataW.trod_int Try.underlying5 h0
  obtain ⟨q, hq, _, wq⟩ := DataW.trod_int Try.underlying5 h1
  obtain ⟨A, cap, zs, rfl, hr, hb, hl, hm, _⟩ := u8s_open h2
  simp at hk hq
  subst hk hq
  exact ⟨k, q, A, cap, zs, rfl, wf_byte k wk, wf_byte q wq, hr, hb, hl, hm⟩
end
end Go.Proofs.Ytgpofgepffhcnaa
