/- A layout as it lies in memory: its numbers, and where its rows are; it lies on wherever memory grows. Package layout: within, kind; what the document says of kinds, ports, steps. Package layout: portThere, At, Step, stepThere, flankRight. Package layout: At. Package slices at a layout's rows: IndexFunc, ContainsFunc; package layout: Signal, Exit. Package layout: Signal, Exit; whether there is too much; whether each section may be. '==' and '!=' of ports, signals, steps, flanks, sections, times: by their numbers. The document's own answer for layer 5. The document's own answer for layer 5: the way from port to port, whether a port may be. The document's own Right of layer 5. The document's own layer 6: layouts that are too great; the section of a port, the way of a step; the first signal, exit. Iterators over a layout: slices.Values at ints and flanks. Iterators over a layout: the steps of all overlaps; the ports to which sections join. -/
import Derived.Test.YtljpiafopbfdlaaQAa
import Derived.Test.YtljpiafopbfdlaaGen
import Derived.ChangeKeysEq
import Derived.BigQuiet
import Derived.RangeFuncNested
import Derived.RangeFuncBound
import Derived.RangeFuncCalls
import Derived.RangeFuncLeaves
import Derived.RangeFuncBox
import Derived.Shelf.Abstract
import Derived.Shelf.RegionOpen
import Derived.WalkKit
import Derived.OwnWalkIn
import Derived.TacticsInMore
import Derived.LoopNIn
import Derived.LoopIn
import Derived.WalkMore
namespace Go.Proofs.Ytljpiafopbfdlaa
open Go.RowKit Go.Shelf
set_option linter.unusedVariables false

/-- A section's numbers. -/
structure Sec where
  k : Int
  s0 : Int
  q0 : Int
  s1 : Int
  q1 : Int
  s2 : Int
  q2 : Int
  s3 : Int
  q3 : Int
  c0 : Int
  c1 : Int
def Sec.tup (s : Sec) : List Int := [s.k, s.s0, s.q0, s.s1, s.q1, s.s2, s.q2, s.s3, s.q3, s.c0, s.c1]
theorem Sec.tup_inj {a b : Sec} (h : a.tup = b.tup) : a = b := by
  cases a; cases b
  simp only [Sec.tup, List.cons.injEq] at h
  obtain ⟨rfl, rfl, rfl, rfl, rfl, rfl, rfl, rfl, rfl, rfl, rfl, _⟩ := h
  rfl
instance : DecidableEq Sec := fun a b => decidable_of_iff (a.tup = b.tup) ⟨Sec.tup_inj, fun h => by rw [h]⟩
abbrev Sec.cells (s : Sec) : List Value := [.int .u8 s.k, .int .i64 s.s0, .int .i64 s.q0, .int .i64 s.s1, .int .i64 s.q1, .int .i64 s.s2, .int .i64 s.q2, .int .i64 s.s3, .int .i64 s.q3, .int .i64 s.c0, .int .i64 s.c1]
abbrev Sec.val (s : Sec) : Value := secV s.k s.s0 s.q0 s.s1 s.q1 s.s2 s.q2 s.s3 s.q3 s.c0 s.c1
/-- Ports, steps, flanks. -/
abbrev prtCells (p : Int × Int) : List Value := [.int .i64 p.1, .int .i64 p.2]
abbrev prtV (s q : Int) : Value := .agg #[.int .i64 s, .int .i64 q]
abbrev stpCells (p : Int × Int × Int) : List Value := [.int .i64 p.1, .int .i64 p.2.1, .int .i64 p.2.2]
abbrev stpV (s i o : Int) : Value := .agg #[.int .i64 s, .int .i64 i, .int .i64 o]
abbrev flkCells (f : Int × Int × Int × Int) : List Value := [.int .i64 f.1, .int .i64 f.2.1, .int .i64 f.2.2.1, .int .i64 f.2.2.2]
abbrev flkV (a b c d : Int) : Value := .agg #[.int .i64 a, .int .i64 b, .int .i64 c, .int .i64 d]
/-- An exit, and where its overlap lies. -/
structure Exm where
  s : Int
  q : Int
  A : Option Addr
  c : Nat
  over : List (Int × Int × Int)
abbrev Exm.cells (x : Exm) : List Value := [.int .i64 x.s, .int .i64 x.q, .slice x.A x.over.length x.c]
abbrev Exm.val (x : Exm) : Value := .agg #[.int .i64 x.s, .int .i64 x.q, .slice x.A x.over.length x.c]
/-- What is told of an exit. -/
def Exm.pure (x : Exm) : Int × Int × List (Int × Int × Int) := (x.s, x.q, x.over)
/-- A layout, and where its rows lie. -/
structure Lay where
  secs : List Sec
  As : Option Addr
  cs : Nat
  sigs : List (Int × Int)
  Ag : Option Addr
  cg : Nat
  exits : List Exm
  Ae : Option Addr
  ce : Nat
  flanks : List (Int × Int × Int × Int)
  Af : Option Addr
  cf : Nat
  t0 : Int
  t1 : Int
  t2 : Int
  t3 : Int
  t4 : Int
  t5 : Int
  t6 : Int
abbrev Lay.cells (l : Lay) : List Value := [.slice l.As l.secs.length l.cs, .slice l.Ag l.sigs.length l.cg, .slice l.Ae l.exits.length l.ce, .slice l.Af l.flanks.length l.cf,
  .int .i64 l.t0, .int .i64 l.t1, .int .i64 l.t2, .int .i64 l.t3, .int .i64 l.t4, .int .i64 l.t5, .int .i64 l.t6]
abbrev Lay.val (l : Lay) : Value := .agg #[.slice l.As l.secs.length l.cs, .slice l.Ag l.sigs.length l.cg, .slice l.Ae l.exits.length l.ce, .slice l.Af l.flanks.length l.cf,
  .int .i64 l.t0, .int .i64 l.t1, .int .i64 l.t2, .int .i64 l.t3, .int .i64 l.t4, .int .i64 l.t5, .int .i64 l.t6]
/-- Its rows lie there. -/
structure Lies (l : Lay) (w : World) : Prop where
  secs : Row w w.heap.size l.As (l.secs.flatMap Sec.cells)
  sigs : Row w w.heap.size l.Ag (l.sigs.flatMap prtCells)
  exits : Row w w.heap.size l.Ae (l.exits.flatMap Exm.cells)
  flanks : Row w w.heap.size l.Af (l.flanks.flatMap flkCells)
  overs : ∀ x ∈ l.exits, Row w w.heap.size x.A (x.over.flatMap stpCells)
  kinds : ∀ s ∈ l.secs, 0 ≤ s.k ∧ s.k ≤ 255
  nS : (l.secs.length : Int) ≤ 9223372036854775807
  nG : (l.sigs.length : Int) ≤ 9223372036854775807
  nE : (l.exits.length : Int) ≤ 9223372036854775807
  nF : (l.flanks.length : Int) ≤ 9223372036854775807
  nO : ∀ x ∈ l.exits, (x.over.length : Int) ≤ 9223372036854775807
theorem Lies.closed (l : Lay) : Closed (Lies l) := fun w w' h hb => ⟨h.secs.on hb, h.sigs.on hb, h.exits.on hb, h.flanks.on hb, fun x hx => (h.overs x hx).on hb, h.kinds, h.nS, h.nG, h.nE, h.nF, h.nO⟩

/-- One block, two blocks, that a call begins with: kept besides. -/
theorem keep_box {P : World → Prop} (hP : Closed P) {w : World} (h : P w) (t : TypeId) (vs : List Value) :
    ∃ Q : World → Prop, Hid (Closed Q) ∧ Hid (∀ W, Q W → P W) ∧ Hid (∀ W, Q W → Whole W w.heap.size t vs) ∧ Q (w.alloc (.cells vs.toArray t)) :=
  ⟨fun W => P W ∧ Whole W w.heap.size t vs, Lib.hid (hP.and (Closed.whole _ t vs)), Lib.hid (fun _ h => h.1), Lib.hid (fun _ h => h.2), hP _ _ h (below1 w _), Whole.new w t vs⟩
theorem keep_box2 {P : World → Prop} (hP : Closed P) {w : World} (h : P w) (t t' : TypeId) (vs us : List Value) :
    ∃ Q : World → Prop, Hid (Closed Q) ∧ Hid (∀ W, Q W → P W) ∧ Hid (∀ W, Q W → Whole W w.heap.size t vs) ∧ Hid (∀ W, Q W → Whole W (w.heap.size + 1) t' us) ∧ Q ((w.alloc (.cells vs.toArray t)).alloc (.cells us.toArray t')) :=
  ⟨fun W => (P W ∧ Whole W w.heap.size t vs) ∧ Whole W (w.heap.size + 1) t' us, Lib.hid ((hP.and (Closed.whole _ t vs)).and (Closed.whole _ t' us)), Lib.hid (fun _ h => h.1.1), Lib.hid (fun _ h => h.1.2), Lib.hid (fun _ h => h.2),
   ⟨hP _ _ h (below2 w _ _), (Whole.new w t vs).alloc _⟩, Whole.new_at _ t' us _ (by simp)⟩
theorem Sec.len (s : Sec) : s.cells.length = 11 := rfl
end Go.Proofs.Ytljpiafopbfdlaa
namespace Go.Proofs.Ytljpiafopbfdlaa
open Go.RowKit Go.Shelf
set_option linter.unusedVariables false
set_option linter.unusedSimpArgs false

/-- Is n from a to b? -/
def withinA (n a b : Int) : Bool := decide (a ≤ n) && decide (n ≤ b)
theorem withinA_iff {n a b : Int} : withinA n a b = true ↔ a ≤ n ∧ n ≤ b := by unfold withinA; rw [Bool.and_eq_true, decide_eq_true_eq, decide_eq_true_eq]
/-- What the kinds have. -/
def pK (k : Int) : Int := if k = 1 then 2 else if k = 2 then 3 else if k = 3 then 4 else 0
def nK (k : Int) : Int := if k = 1 then 1 else if k = 2 then 2 else if k = 3 then 2 else 0
def bK (k : Int) : Int := if k = 1 then 1 else if k = 2 then 1 else if k = 3 then 1 else 0
def cK (k : Int) : Int := if k = 3 then 2 else 0
def dK (k : Int) : Int := if k = 2 then 2 else if k = 3 then 3 else 0
theorem shapeK (k : Int) : IsShape k (pK k) (nK k) 0 (bK k) (cK k) (dK k) := by
  unfold IsShape pK nK bK cK dK
  by_cases h1 : k = 1
  · subst h1; decide
  · by_cases h2 : k = 2
    · subst h2; decide
    · by_cases h3 : k = 3
      · subst h3; decide
      · exact .inr (.inr (.inr ⟨by omega, by simp [h1, h2, h3], by simp [h1, h2, h3], rfl, by simp [h1, h2, h3], by simp [h3], by simp [h2, h3]⟩))
def wayK (k i o : Int) : Int := wayV (nK k) 0 (bK k) (cK k) (dK k) i o
def goesK (k i o : Int) : Bool := goesV (nK k) 0 (bK k) (cK k) (dK k) i o
def rightK (s : Sec) : Bool := rightV (pK s.k) (nK s.k) s.s0 s.q0 s.s1 s.q1 s.s2 s.q2 s.s3 s.q3 s.c0 s.c1

/-- The kind of the section of that number; 0 where none is. -/
def kindV (l : Lay) (s : Int) : Int := if 0 ≤ s then ((l.secs[s.toNat]?).map Sec.k).getD 0 else 0
theorem kindV_at {l : Lay} {j : Nat} {x : Sec} (h : l.secs[j]? = some x) : kindV l j = x.k := by
  unfold kindV
  rw [if_pos (by omega), Int.toNat_natCast, h]
  rfl
theorem kindV_no {l : Lay} {s : Int} (h : ¬ (0 ≤ s ∧ s < l.secs.length)) : kindV l s = 0 := by
  unfold kindV
  by_cases h0 : 0 ≤ s
  · rw [if_pos h0, List.getElem?_eq_none (by omega)]; rfl
  · rw [if_neg h0]
theorem kindV_some {l : Lay} {s : Int} (h : kindV l s ≠ 0) : ∃ (j : Nat) (x : Sec), s = j ∧ l.secs[j]? = some x ∧ kindV l s = x.k := by
  by_cases h0 : 0 ≤ s ∧ s < l.secs.length
  · obtain ⟨j, rfl⟩ : ∃ j : Nat, s = j := ⟨s.toNat, by omega⟩
    exact ⟨j, l.secs[j]'(by omega), rfl, List.getElem?_eq_getElem (by omega), kindV_at (List.getElem?_eq_getElem (by omega))⟩
  · exact absurd (kindV_no h0) h
theorem kindV_range {l : Lay} {w : World} (hl : Lies l w) (s : Int) : 0 ≤ kindV l s ∧ kindV l s ≤ 255 := by
  by_cases h : kindV l s = 0
  · rw [h]; decide
  · obtain ⟨j, x, _, hx, e⟩ := kindV_some h
    rw [e]
    exact hl.kinds x (List.mem_of_getElem? hx)
theorem wrap_pred {n : Nat} (h : (n : Int) ≤ 9223372036854775807) : wrap64 ((n : Int) - 1) = n - 1 := by
  unfold wrap64; omega
/-- A port is there; the section of it; the way of a step. -/
def thereV (l : Lay) (s p : Int) : Bool := withinA p 0 (pK (kindV l s) - 1)
def stepV (l : Lay) (s i o : Int) : Bool := goesK (kindV l s) i o
theorem goesK_no (i o : Int) : goesK 0 i o = false := by rfl
theorem thereV_some {l : Lay} {s p : Int} (h : thereV l s p = true) : ∃ (j : Nat) (x : Sec), s = j ∧ l.secs[j]? = some x := by
  by_cases h0 : kindV l s = 0
  · unfold thereV at h
    rw [h0, withinA_iff] at h
    have : pK 0 = 0 := rfl
    omega
  · obtain ⟨j, x, e, hx, _⟩ := kindV_some h0
    exact ⟨j, x, e, hx⟩

end Go.Proofs.Ytljpiafopbfdlaa
namespace Go.Proofs.Ytljpiafopbfdlaa
open Go.RowKit Go.Shelf
set_option linter.unusedVariables false
set_option linter.unusedSimpArgs false

section
variable {P : World → Prop} {w : World}
theorem wrapI_in (n : Int) (h : -9223372036854775808 ≤ n ∧ n ≤ 9223372036854775807) : IntKind.i64.wrap n = n := by rw [IntKind.wrap_i64]; omega
theorem pK_pred (k : Int) : IntKind.i64.wrap (pK k - 1) = pK k - 1 := by
  refine wrapI_in _ ?_
  unfold pK; split <;> (try split) <;> (try split) <;> omega
theorem nK_pred (k : Int) : IntKind.i64.wrap (nK k - 1) = nK k - 1 := by
  refine wrapI_in _ ?_
  unfold nK; split <;> (try split) <;> (try split) <;> omega

end
end Go.Proofs.Ytljpiafopbfdlaa
namespace Go.Proofs.Ytljpiafopbfdlaa
open Go.RowKit Go.Shelf
set_option linter.unusedVariables false
set_option linter.unusedSimpArgs false

def Sec.zero : Sec := ⟨0, 0, 0, 0, 0, 0, 0, 0, 0, 0, 0⟩
/-- The section of a port. -/
def atV (l : Lay) (s p : Int) : Sec := if thereV l s p = true then (l.secs[s.toNat]?).getD Sec.zero else Sec.zero
theorem atV_no {l : Lay} {s p : Int} (h : thereV l s p = false) : atV l s p = Sec.zero := by unfold atV; rw [h]; rfl
theorem atV_yes {l : Lay} {s p : Int} (h : thereV l s p = true) : ∃ (j : Nat), s = j ∧ l.secs[j]? = some (atV l s p) := by
  obtain ⟨j, x, rfl, hx⟩ := thereV_some h
  refine ⟨j, rfl, ?_⟩
  unfold atV
  rw [if_pos h, Int.toNat_natCast, hx]
  rfl
theorem keep_box3 {P : World → Prop} (hP : Closed P) {w : World} (h : P w) (t t' t'' : TypeId) (vs us rs : List Value) :
    ∃ Q : World → Prop, Hid (Closed Q) ∧ Hid (∀ W, Q W → P W) ∧ Hid (∀ W, Q W → Whole W w.heap.size t vs) ∧ Hid (∀ W, Q W → Whole W (w.heap.size + 1) t' us) ∧ Hid (∀ W, Q W → Whole W (w.heap.size + 1 + 1) t'' rs) ∧ Hid (∀ W, Q W → Below w.heap.size w W) ∧ Q (((w.alloc (.cells vs.toArray t)).alloc (.cells us.toArray t')).alloc (.cells rs.toArray t'')) :=
  ⟨fun W => (((P W ∧ Whole W w.heap.size t vs) ∧ Whole W (w.heap.size + 1) t' us) ∧ Whole W (w.heap.size + 1 + 1) t'' rs) ∧ Below w.heap.size w W, Lib.hid ((((hP.and (Closed.whole _ t vs)).and (Closed.whole _ t' us)).and (Closed.whole _ t'' rs)).and (Closed.below w)), Lib.hid (fun _ h => h.1.1.1.1), Lib.hid (fun _ h => h.1.1.1.2), Lib.hid (fun _ h => h.1.1.2), Lib.hid (fun _ h => h.1.2), Lib.hid (fun _ h => h.2),
   ⟨⟨⟨hP _ _ h (below3 w _ _ _), ((Whole.new w t vs).alloc _).alloc _⟩, (Whole.new_at _ t' us _ (by simp)).alloc _⟩, Whole.new_at _ t'' rs _ (by simp)⟩, below3 w _ _ _⟩
/-- Eleven cells are laid over eleven. -/
theorem whole_over {W : World} {g : Nat} {t : TypeId} {a b : Sec} (h : Whole W g t a.cells) :
    Whole ((((((((((((W.setCell ⟨g, 0, none⟩ (.int .u8 b.k)).setCell ⟨g, 1, none⟩ (.int .i64 b.s0)).setCell ⟨g, 2, none⟩ (.int .i64 b.q0)).setCell ⟨g, 3, none⟩ (.int .i64 b.s1)).setCell ⟨g, 4, none⟩ (.int .i64 b.q1)).setCell ⟨g, 5, none⟩ (.int .i64 b.s2)).setCell ⟨g, 6, none⟩ (.int .i64 b.q2)).setCell ⟨g, 7, none⟩ (.int .i64 b.s3)).setCell ⟨g, 8, none⟩ (.int .i64 b.q3)).setCell ⟨g, 9, none⟩ (.int .i64 b.c0)).setCell ⟨g, 10, none⟩ (.int .i64 b.c1))) g t b.cells :=
  ((((((((((h.set 0 _).set 1 _).set 2 _).set 3 _).set 4 _).set 5 _).set 6 _).set 7 _).set 8 _).set 9 _).set 10 _
theorem below_over {W w0 : World} {n g : Nat} {b : Sec} (h : Below n w0 W) (hg : n ≤ g) :
    Below n w0 ((((((((((((W.setCell ⟨g, 0, none⟩ (.int .u8 b.k)).setCell ⟨g, 1, none⟩ (.int .i64 b.s0)).setCell ⟨g, 2, none⟩ (.int .i64 b.q0)).setCell ⟨g, 3, none⟩ (.int .i64 b.s1)).setCell ⟨g, 4, none⟩ (.int .i64 b.q1)).setCell ⟨g, 5, none⟩ (.int .i64 b.s2)).setCell ⟨g, 6, none⟩ (.int .i64 b.q2)).setCell ⟨g, 7, none⟩ (.int .i64 b.s3)).setCell ⟨g, 8, none⟩ (.int .i64 b.q3)).setCell ⟨g, 9, none⟩ (.int .i64 b.c0)).setCell ⟨g, 10, none⟩ (.int .i64 b.c1))) :=
  ((((((((((h.setCell (p := ⟨g, 0, none⟩) hg _).setCell (p := ⟨g, 1, none⟩) hg _).setCell (p := ⟨g, 2, none⟩) hg _).setCell (p := ⟨g, 3, none⟩) hg _).setCell (p := ⟨g, 4, none⟩) hg _).setCell (p := ⟨g, 5, none⟩) hg _).setCell (p := ⟨g, 6, none⟩) hg _).setCell (p := ⟨g, 7, none⟩) hg _).setCell (p := ⟨g, 8, none⟩) hg _).setCell (p := ⟨g, 9, none⟩) hg _).setCell (p := ⟨g, 10, none⟩) hg _

section
variable {P : World → Prop} {w : World}
end
end Go.Proofs.Ytljpiafopbfdlaa
namespace Go.Proofs.Ytljpiafopbfdlaa
open Go.RowKit Go.Shelf
set_option linter.unusedVariables false
set_option linter.unusedSimpArgs false

section
variable {P : World → Prop} {w : World}

end
end Go.Proofs.Ytljpiafopbfdlaa
namespace Go.Proofs.Ytljpiafopbfdlaa
open Go.RowKit Go.Shelf
set_option linter.unusedVariables false
set_option linter.unusedSimpArgs false

/-- Is it this port? -/
def isP (s p : Int) (x : Int × Int) : Bool := x.1 == s && x.2 == p
def signalV (l : Lay) (s p : Int) : Int := idxV (isP s p) l.sigs
def exitV (l : Lay) (s p : Int) : Int := idxV (fun x => isP s p (x.s, x.q)) l.exits
/-- Is there too much? -/
def tooV (l : Lay) : Bool := decide (24 < (l.secs.length : Int)) || (decide (12 < (l.sigs.length : Int)) || (decide (12 < (l.exits.length : Int)) || (decide (16 < (l.flanks.length : Int)) || l.exits.any (fun x => decide (2 < (x.over.length : Int))))))

section
variable {P : World → Prop} {w : World}

end
end Go.Proofs.Ytljpiafopbfdlaa
namespace Go.Proofs.Ytljpiafopbfdlaa
open Go.RowKit Go.Shelf
set_option linter.unusedVariables false
set_option linter.unusedSimpArgs false

theorem andThen_eq_ite {w : World} (b : Bool) (f : Bool → World → Result Value) : (Result.ok b w).andThen f = f b w := rfl
/-- By numbers. -/
def Sec.same (x y : Sec) : Bool := x.k == y.k && (((x.s0 == y.s0 && x.q0 == y.q0) && ((x.s1 == y.s1 && x.q1 == y.q1) && ((x.s2 == y.s2 && x.q2 == y.q2) && (x.s3 == y.s3 && x.q3 == y.q3)))) && (x.c0 == y.c0 && x.c1 == y.c1))
theorem Sec.same_iff {x y : Sec} : x.same y = true ↔ x = y := by
  cases x; cases y
  unfold Sec.same
  simp only [Bool.and_eq_true, beq_iff_eq, Sec.mk.injEq]
  constructor
  · rintro ⟨h0, ⟨⟨h1, h2⟩, ⟨h3, h4⟩, ⟨h5, h6⟩, h7, h8⟩, h9, h10⟩
    exact ⟨h0, h1, h2, h3, h4, h5, h6, h7, h8, h9, h10⟩
  · rintro ⟨h0, h1, h2, h3, h4, h5, h6, h7, h8, h9, h10⟩
    exact ⟨h0, ⟨⟨h1, h2⟩, ⟨h3, h4⟩, ⟨h5, h6⟩, h7, h8⟩, h9, h10⟩
theorem Sec.same_eq (x y : Sec) : x.same y = decide (x = y) := by rw [Bool.eq_iff_iff, Sec.same_iff, decide_eq_true_eq]

set_option maxHeartbeats 1000000 in
theorem eq_stp (w : World) (a b c a' b' c' : Int) : (Op.equalIn 10000 44 (stpV a b c) (stpV a' b' c')).run Try.prog w = .ok (a == a' && (b == b' && c == c')) w := by
  cases h1 : (a == a') <;> cases h2 : (b == b') <;> cases h3 : (c == c') <;> go_simp
def sameT (l m : Lay) : Bool := l.t0 == m.t0 && (l.t1 == m.t1 && (l.t2 == m.t2 && (l.t3 == m.t3 && (l.t4 == m.t4 && (l.t5 == m.t5 && l.t6 == m.t6)))))
abbrev Lay.tval (l : Lay) : Value := .agg #[.int .i64 l.t0, .int .i64 l.t1, .int .i64 l.t2, .int .i64 l.t3, .int .i64 l.t4, .int .i64 l.t5, .int .i64 l.t6]
end Go.Proofs.Ytljpiafopbfdlaa
namespace Go.Proofs.Ytljpiafopbfdlaa
open Go.RowKit Go.Shelf
set_option linter.unusedVariables false
set_option linter.unusedSimpArgs false

section
variable {P : World → Prop} {w : World} {k p n a b c d : Int}
end
end Go.Proofs.Ytljpiafopbfdlaa
namespace Go.Proofs.Ytljpiafopbfdlaa
open Go.RowKit Go.Shelf
set_option linter.unusedVariables false
set_option linter.unusedSimpArgs false

theorem waysL_succ {n a b c d : Int} {j : Nat} (hn : n = 0 ∨ n = 1 ∨ n = 2) (hj : (j : Int) < n) : (waysL n a b c d).take (j + 1) = (waysL n a b c d).take j ++ [((j : Int), endA n a c j, endA n b d j)] := by
  rcases hn with rfl | rfl | rfl
  · omega
  · obtain rfl : j = 0 := by omega
    rfl
  · have : j = 0 ∨ j = 1 := by omega
    rcases this with rfl | rfl <;> rfl
theorem hasV_yes {n : Int} {j : Nat} (hj : (j : Int) < n) : hasV n j = true := by unfold hasV; simp; omega

section
variable {P : World → Prop} {w : World} {k p n a b c d : Int}
end

end Go.Proofs.Ytljpiafopbfdlaa
namespace Go.Proofs.Ytljpiafopbfdlaa
open Go.RowKit Go.Shelf
set_option linter.unusedVariables false
set_option linter.unusedSimpArgs false

end Go.Proofs.Ytljpiafopbfdlaa
namespace Go.Proofs.Ytljpiafopbfdlaa
open Go.RowKit Go.Shelf
set_option linter.unusedVariables false
set_option linter.unusedSimpArgs false

/-- Too great to be asked? -/
def greatV (l : Lay) : Bool := ((l.exits.take 31).any fun x => decide (20 < (x.over.length : Int))) || (decide (40 < (l.secs.length : Int)) || (decide (30 < (l.sigs.length : Int)) || (decide (30 < (l.exits.length : Int)) || decide (40 < (l.flanks.length : Int)))))
theorem great_no {l : Lay} (h : greatV l = false) : l.secs.length ≤ 40 ∧ l.sigs.length ≤ 30 ∧ l.exits.length ≤ 30 ∧ l.flanks.length ≤ 40 ∧ ∀ x ∈ l.exits, x.over.length ≤ 20 := by
  unfold greatV at h
  simp only [Bool.or_eq_false_iff, decide_eq_false_iff_not] at h
  obtain ⟨h0, h1, h2, h3, h4⟩ := h
  refine ⟨by omega, by omega, by omega, by omega, fun x hx => ?_⟩
  rw [List.take_of_length_le (by omega), List.any_eq_false] at h0
  have := h0 x hx
  rw [decide_eq_true_eq] at this
  omega
section
variable {P : World → Prop} {w : World}
end
end Go.Proofs.Ytljpiafopbfdlaa
namespace Go.Proofs.Ytljpiafopbfdlaa
open Go.RowKit Go.Shelf
set_option linter.unusedVariables false
set_option linter.unusedSimpArgs false

attribute [local go_sem] Oper.semAt_some

end Go.Proofs.Ytljpiafopbfdlaa
namespace Go.Proofs.Ytljpiafopbfdlaa
open Go.RowKit Go.Shelf
set_option linter.unusedVariables false
set_option linter.unusedSimpArgs false

attribute [local go_sem] Oper.semAt_some

theorem at_pre {α : Type} {pre r xs : List α} {y : α} (h : pre ++ (y :: r) = xs) : xs[pre.length]? = some y := by rw [← h, List.getElem?_append_right (Nat.le_refl _), Nat.sub_self]; rfl
theorem drop_at {α : Type} {l : List α} {i : Nat} {x : α} (h : l[i]? = some x) : l.drop i = x :: l.drop (i + 1) := by
  obtain ⟨hi, rfl⟩ := List.getElem?_eq_some_iff.1 h
  exact List.drop_eq_getElem_cons hi
theorem push_pre {α : Type} {pre r xs : List α} {y : α} (h : pre ++ (y :: r) = xs) : (pre ++ [y]) ++ r = xs := by rw [← h]; simp
/-- All steps of overlaps. -/
def stepsL (l : Lay) : List (Int × Int × Int) := l.exits.flatMap Exm.over
/-- The ports to which a section joins; those of all. -/
def Sec.ports4 (s : Sec) : List (Int × Int) := [(s.s0, s.q0), (s.s1, s.q1), (s.s2, s.q2), (s.s3, s.q3)]
def joinsL (l : Lay) : List (Int × Int) := l.secs.flatMap fun s => s.ports4.filter fun p => decide (0 ≤ p.1)

end Go.Proofs.Ytljpiafopbfdlaa
