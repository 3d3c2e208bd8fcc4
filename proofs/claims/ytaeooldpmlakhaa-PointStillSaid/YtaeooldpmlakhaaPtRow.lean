/- Machines, and what machines see, that came in. -/
import Derived.Test.YtaeooldpmlakhaaRowsIn
namespace Go.Proofs.Ytaeooldpmlakhaa
open Go.ChangeShapes Go.WideShapes Go.ChangeAt Go.RowKit Go.Deep
open Go.Joins
set_option linter.unusedVariables false
set_option maxRecDepth 100000

theorem fits_yes {ls : List Leaf} {cs : List Value} (h : Fits (.yes :: ls) cs) : ∃ (b : Bool) (vs : List Value), cs = .bool b :: vs ∧ Fits ls vs := by
  cases cs with
  | nil => exact h.elim
  | cons v vs =>
    obtain ⟨⟨b, rfl⟩, h2⟩ := h
    exact ⟨b, vs, rfl, h2⟩
def mcL : List Leaf := [.num .i64, .num .i64, .yes]
def seenL : List Leaf := [.num .i64, .yes, .yes]
theorem mc_of {cs : List Value} (h : Fits mcL cs) : ∃ (a b : Int) (f : Bool), cs = [.int .i64 a, .int .i64 b, .bool f] := by
  unfold mcL at h
  obtain ⟨a, c1, rfl, _, h1⟩ := fits_num h
  obtain ⟨b, c2, rfl, _, h2⟩ := fits_num h1
  obtain ⟨f, c3, rfl, h3⟩ := fits_yes h2
  obtain rfl := fits_nil h3
  exact ⟨a, b, f, rfl⟩
theorem seen_of {cs : List Value} (h : Fits seenL cs) : ∃ (a : Int) (b f : Bool), cs = [.int .i64 a, .bool b, .bool f] := by
  unfold seenL at h
  obtain ⟨a, c1, rfl, _, h1⟩ := fits_num h
  obtain ⟨b, c2, rfl, h2⟩ := fits_yes h1
  obtain ⟨f, c3, rfl, h3⟩ := fits_yes h2
  obtain rfl := fits_nil h3
  exact ⟨a, b, f, rfl⟩
section
variable {H : Type} {enc : TypeId × Value → H} {w : World} {base : Nat} {spare : Nat → Bool} {held : Bool}
theorem mc_open {r : Reach} {b0 : Nat} {v : Value} {d : DataW H} {p : List MemPlace} (hv : Value.okWide Try.prog w r b0 23 v) (h : DataW.Trod enc Try.prog w base spare held 23 v d p) :
    ∃ (a b : Int) (f : Bool), v = .agg #[.int .i64 a, .int .i64 b, .bool f] := by
  obtain ⟨cs, rfl, hF⟩ := open_plain 8 mcL Try.underlying23 (by kernel_rfl) hv h
  obtain ⟨a, b, f, rfl⟩ := mc_of hF
  exact ⟨a, b, f, rfl⟩
theorem seens_open {r : Reach} {b0 : Nat} {v : Value} {d : DataW H} {p : List MemPlace} (hv : Value.okWide Try.prog w r b0 35 v) (h : DataW.Trod enc Try.prog w base spare held 35 v d p) :
    ∃ (A : Option Addr) (cap : Nat) (l : List (Int × Bool × Bool)), v = .slice A l.length cap ∧ Row w w.heap.size A (l.flatMap fun x => [.int .i64 x.1, .bool x.2.1, .bool x.2.2]) ∧ ((l.length : Nat) : Int) ≤ 9223372036854775807 ∧ l.length ≤ cap := by
  obtain ⟨a, l, c, rfl⟩ := okWide_slice Try.underlying35 hv
  obtain ⟨fuel, hf⟩ := h
  obtain ⟨A, cap, ss, e, hr, _, hn, hc⟩ := row_openC (α := Int × Bool × Bool) (f := fun x => [.int .i64 x.1, .bool x.2.1, .bool x.2.2]) (G := fun _ => True) (c := 3) (fun _ => rfl) (by omega) Try.underlying35 (by kernel_rfl) (fun n cs x h => by
    obtain ⟨a, b, f, rfl⟩ := seen_of (plain_el 8 (ls := seenL) (by kernel_rfl) h)
    exact ⟨(a, b, f), rfl, trivial⟩) hf
  exact ⟨A, cap, ss, e, hr, hn, hc⟩
end
end Go.Proofs.Ytaeooldpmlakhaa
