/- A layout as it lies in memory: its numbers, and where its rows are; it lies on wherever memory grows. Package layout: within, kind; what the document says of kinds, ports, steps. Sections, steps and ports that came in, by value: their cells. A layout that came in: its numbers, and where its rows lie. Package layout: portThere, At, Step, stepThere, flankRight. Package layout: At. Package slices at a layout's rows: IndexFunc, ContainsFunc; package layout: Signal, Exit. Package layout: Signal, Exit; whether there is too much; whether each section may be. '==' and '!=' of ports, signals, steps, flanks, sections, times: by their numbers. The document's own answer for layer 5. The document's own answer for layer 5: the way from port to port, whether a port may be. The document's own Right of layer 5. The document's own layer 6: layouts that are too great; the section of a port, the way of a step; the first signal, exit. Iterators over a layout: slices.Values at ints and flanks. Iterators over a layout: the steps of all overlaps; the ports to which sections join. Package layout: some, over an iterator, at ints, ports, steps, flanks. Package layout: the makers of iterators; the ports that are named. Package layout: flankRight. Package layout: Right. Package slices at a layout's rows: Equal; package layout: Same. Package slices at a layout's rows: EqualFunc; package layout: Same. -/
import Derived.Test.YtniihmafbeplaaaDoorQA
import Derived.Test.YtniihmafbeplaaaDoorGen
import Derived.Test.YtniihmafbeplaaaDoorRows
import Derived.DataShut
import Derived.Deep.Slices
import Derived.DataElems
import Derived.ChangeKeysEq
import Derived.BigQuiet
import Derived.RangeFuncNested
import Derived.RangeFuncBound
import Derived.RangeFuncCalls
import Derived.RangeFuncLeaves
import Derived.RangeFuncBox
import Derived.Shelf.Abstract
import Derived.Shelf.RegionOpen
import Derived.WalkKit
import Derived.OwnWalkIn
import Derived.TacticsInMore
import Derived.LoopNIn
import Derived.LoopIn
import Derived.WalkMore
namespace Go.Proofs.YtniihmafbeplaaaDoor
open Go.RowKit Go.Shelf
set_option linter.unusedVariables false

/-- A section's numbers. -/
structure Sec where
  k : Int
  s0 : Int
  q0 : Int
  s1 : Int
  q1 : Int
  s2 : Int
  q2 : Int
  s3 : Int
  q3 : Int
  c0 : Int
  c1 : Int
def Sec.tup (s : Sec) : List Int := [s.k, s.s0, s.q0, s.s1, s.q1, s.s2, s.q2, s.s3, s.q3, s.c0, s.c1]
theorem Sec.tup_inj {a b : Sec} (h : a.tup = b.tup) : a = b := by
  cases a; cases b
  simp only [Sec.tup, List.cons.injEq] at h
  obtain ⟨rfl, rfl, rfl, rfl, rfl, rfl, rfl, rfl, rfl, rfl, rfl, _⟩ := h
  rfl
instance : DecidableEq Sec := fun a b => decidable_of_iff (a.tup = b.tup) ⟨Sec.tup_inj, fun h => by rw [h]⟩
abbrev Sec.cells (s : Sec) : List Value := [.int .u8 s.k, .int .i64 s.s0, .int .i64 s.q0, .int .i64 s.s1, .int .i64 s.q1, .int .i64 s.s2, .int .i64 s.q2, .int .i64 s.s3, .int .i64 s.q3, .int .i64 s.c0, .int .i64 s.c1]
abbrev Sec.val (s : Sec) : Value := secV s.k s.s0 s.q0 s.s1 s.q1 s.s2 s.q2 s.s3 s.q3 s.c0 s.c1
/-- Ports, steps, flanks. -/
abbrev prtCells (p : Int × Int) : List Value := [.int .i64 p.1, .int .i64 p.2]
abbrev prtV (s q : Int) : Value := .agg #[.int .i64 s, .int .i64 q]
abbrev stpCells (p : Int × Int × Int) : List Value := [.int .i64 p.1, .int .i64 p.2.1, .int .i64 p.2.2]
abbrev stpV (s i o : Int) : Value := .agg #[.int .i64 s, .int .i64 i, .int .i64 o]
abbrev flkCells (f : Int × Int × Int × Int) : List Value := [.int .i64 f.1, .int .i64 f.2.1, .int .i64 f.2.2.1, .int .i64 f.2.2.2]
abbrev flkV (a b c d : Int) : Value := .agg #[.int .i64 a, .int .i64 b, .int .i64 c, .int .i64 d]
/-- An exit, and where its overlap lies. -/
structure Exm where
  s : Int
  q : Int
  A : Option Addr
  c : Nat
  over : List (Int × Int × Int)
abbrev Exm.cells (x : Exm) : List Value := [.int .i64 x.s, .int .i64 x.q, .slice x.A x.over.length x.c]
abbrev Exm.val (x : Exm) : Value := .agg #[.int .i64 x.s, .int .i64 x.q, .slice x.A x.over.length x.c]
/-- What is told of an exit. -/
def Exm.pure (x : Exm) : Int × Int × List (Int × Int × Int) := (x.s, x.q, x.over)
/-- A layout, and where its rows lie. -/
structure Lay where
  secs : List Sec
  As : Option Addr
  cs : Nat
  sigs : List (Int × Int)
  Ag : Option Addr
  cg : Nat
  exits : List Exm
  Ae : Option Addr
  ce : Nat
  flanks : List (Int × Int × Int × Int)
  Af : Option Addr
  cf : Nat
  t0 : Int
  t1 : Int
  t2 : Int
  t3 : Int
  t4 : Int
  t5 : Int
  t6 : Int
abbrev Lay.cells (l : Lay) : List Value := [.slice l.As l.secs.length l.cs, .slice l.Ag l.sigs.length l.cg, .slice l.Ae l.exits.length l.ce, .slice l.Af l.flanks.length l.cf,
  .int .i64 l.t0, .int .i64 l.t1, .int .i64 l.t2, .int .i64 l.t3, .int .i64 l.t4, .int .i64 l.t5, .int .i64 l.t6]
abbrev Lay.val (l : Lay) : Value := .agg #[.slice l.As l.secs.length l.cs, .slice l.Ag l.sigs.length l.cg, .slice l.Ae l.exits.length l.ce, .slice l.Af l.flanks.length l.cf,
  .int .i64 l.t0, .int .i64 l.t1, .int .i64 l.t2, .int .i64 l.t3, .int .i64 l.t4, .int .i64 l.t5, .int .i64 l.t6]
/-- Its rows lie there. -/
structure Lies (l : Lay) (w : World) : Prop where
  secs : Row w w.heap.size l.As (l.secs.flatMap Sec.cells)
  sigs : Row w w.heap.size l.Ag (l.sigs.flatMap prtCells)
  exits : Row w w.heap.size l.Ae (l.exits.flatMap Exm.cells)
  flanks : Row w w.heap.size l.Af (l.flanks.flatMap flkCells)
  overs : ∀ x ∈ l.exits, Row w w.heap.size x.A (x.over.flatMap stpCells)
  kinds : ∀ s ∈ l.secs, 0 ≤ s.k ∧ s.k ≤ 255
  nS : (l.secs.length : Int) ≤ 9223372036854775807
  nG : (l.sigs.length : Int) ≤ 9223372036854775807
  nE : (l.exits.length : Int) ≤ 9223372036854775807
  nF : (l.flanks.length : Int) ≤ 9223372036854775807
  nO : ∀ x ∈ l.exits, (x.over.length : Int) ≤ 9223372036854775807
theorem Lies.closed (l : Lay) : Closed (Lies l) := fun w w' h hb => ⟨h.secs.on hb, h.sigs.on hb, h.exits.on hb, h.flanks.on hb, fun x hx => (h.overs x hx).on hb, h.kinds, h.nS, h.nG, h.nE, h.nF, h.nO⟩

theorem flat_at {α : Type} (f : α → List Value) (n : Nat) (hf : ∀ x, (f x).length = n) : ∀ (l : List α) (i : Nat) (x : α) (k : Nat) (v : Value), l[i]? = some x → (f x)[k]? = some v → (l.flatMap f)[i * n + k]? = some v
  | [], i, x, k, v, h, _ => by simp at h
  | y :: l, 0, x, k, v, h, hk => by
    simp only [List.getElem?_cons_zero, Option.some.injEq] at h
    subst h
    rw [List.flatMap_cons, Nat.zero_mul, Nat.zero_add, List.getElem?_append_left (List.getElem?_eq_some_iff.1 hk).1]
    exact hk
  | y :: l, i + 1, x, k, v, h, hk => by
    have e : (i + 1) * n + k = (f y).length + (i * n + k) := by rw [hf, Nat.add_mul, Nat.one_mul]; omega
    rw [List.flatMap_cons, e, List.getElem?_append_right (Nat.le_add_right _ _), Nat.add_sub_cancel_left]
    exact flat_at f n hf l i x k v (by simpa using h) hk
/-- A row of structs, one of them: its cells. -/
theorem Row.nth {α : Type} {f : α → List Value} {n : Nat} (hf : ∀ x, (f x).length = n) (hn : 0 < n) {w : World} {B : Nat} {A : Option Addr} {l : List α} (h : Row w B A (l.flatMap f)) {i : Nat} {x : α} (hi : l[i]? = some x) :
    ∃ b off, A = some ⟨b, off, none⟩ ∧ b < B ∧ (∀ (j : Nat) (y : α) (v : Value), l[j]? = some y → (f y)[0]? = some v → w.cell? ⟨b, off + j * n, none⟩ = some v) ∧
      ∀ (j : Nat) (y : α) (k : Nat) (v : Value), l[j]? = some y → (f y)[k]? = some v → w.cell? ⟨b, off + j * n + k, none⟩ = some v := by
  have h0 : ∃ v, (f x)[0]? = some v := ⟨_, List.getElem?_eq_getElem (by rw [hf]; exact hn)⟩
  obtain ⟨v, hv⟩ := h0
  have hlt := (List.getElem?_eq_some_iff.1 (flat_at f n hf l i x 0 v hi hv)).1
  obtain ⟨b, off, e, hb, hc⟩ := h (by omega)
  have hc' : ∀ (j : Nat) (y : α) (k : Nat) (v : Value), l[j]? = some y → (f y)[k]? = some v → w.cell? ⟨b, off + j * n + k, none⟩ = some v := fun j y k v hj hk => by
    have := hc _ _ (flat_at f n hf l j y k v hj hk)
    rwa [← Nat.add_assoc] at this
  exact ⟨b, off, e, hb, fun j y v hj hk => hc' j y 0 v hj hk, hc'⟩

/-- One block, two blocks, that a call begins with: kept besides. -/
theorem keep_box {P : World → Prop} (hP : Closed P) {w : World} (h : P w) (t : TypeId) (vs : List Value) :
    ∃ Q : World → Prop, Hid (Closed Q) ∧ Hid (∀ W, Q W → P W) ∧ Hid (∀ W, Q W → Whole W w.heap.size t vs) ∧ Q (w.alloc (.cells vs.toArray t)) :=
  ⟨fun W => P W ∧ Whole W w.heap.size t vs, Lib.hid (hP.and (Closed.whole _ t vs)), Lib.hid (fun _ h => h.1), Lib.hid (fun _ h => h.2), hP _ _ h (below1 w _), Whole.new w t vs⟩
theorem keep_box2 {P : World → Prop} (hP : Closed P) {w : World} (h : P w) (t t' : TypeId) (vs us : List Value) :
    ∃ Q : World → Prop, Hid (Closed Q) ∧ Hid (∀ W, Q W → P W) ∧ Hid (∀ W, Q W → Whole W w.heap.size t vs) ∧ Hid (∀ W, Q W → Whole W (w.heap.size + 1) t' us) ∧ Q ((w.alloc (.cells vs.toArray t)).alloc (.cells us.toArray t')) :=
  ⟨fun W => (P W ∧ Whole W w.heap.size t vs) ∧ Whole W (w.heap.size + 1) t' us, Lib.hid ((hP.and (Closed.whole _ t vs)).and (Closed.whole _ t' us)), Lib.hid (fun _ h => h.1.1), Lib.hid (fun _ h => h.1.2), Lib.hid (fun _ h => h.2),
   ⟨hP _ _ h (below2 w _ _), (Whole.new w t vs).alloc _⟩, Whole.new_at _ t' us _ (by simp)⟩
theorem Sec.len (s : Sec) : s.cells.length = 11 := rfl
end Go.Proofs.YtniihmafbeplaaaDoor
namespace Go.Proofs.YtniihmafbeplaaaDoor
open Go.RowKit Go.Shelf
set_option linter.unusedVariables false
set_option linter.unusedSimpArgs false

/-- Is n from a to b? -/
def withinA (n a b : Int) : Bool := decide (a ≤ n) && decide (n ≤ b)
theorem withinA_iff {n a b : Int} : withinA n a b = true ↔ a ≤ n ∧ n ≤ b := by unfold withinA; rw [Bool.and_eq_true, decide_eq_true_eq, decide_eq_true_eq]
/-- What the kinds have. -/
def pK (k : Int) : Int := if k = 1 then 2 else if k = 2 then 3 else if k = 3 then 4 else 0
def nK (k : Int) : Int := if k = 1 then 1 else if k = 2 then 2 else if k = 3 then 2 else 0
def bK (k : Int) : Int := if k = 1 then 1 else if k = 2 then 1 else if k = 3 then 1 else 0
def cK (k : Int) : Int := if k = 3 then 2 else 0
def dK (k : Int) : Int := if k = 2 then 2 else if k = 3 then 3 else 0
theorem shapeK (k : Int) : IsShape k (pK k) (nK k) 0 (bK k) (cK k) (dK k) := by
  unfold IsShape pK nK bK cK dK
  by_cases h1 : k = 1
  · subst h1; decide
  · by_cases h2 : k = 2
    · subst h2; decide
    · by_cases h3 : k = 3
      · subst h3; decide
      · exact .inr (.inr (.inr ⟨by omega, by simp [h1, h2, h3], by simp [h1, h2, h3], rfl, by simp [h1, h2, h3], by simp [h3], by simp [h2, h3]⟩))
def wayK (k i o : Int) : Int := wayV (nK k) 0 (bK k) (cK k) (dK k) i o
def goesK (k i o : Int) : Bool := goesV (nK k) 0 (bK k) (cK k) (dK k) i o
def rightK (s : Sec) : Bool := rightV (pK s.k) (nK s.k) s.s0 s.q0 s.s1 s.q1 s.s2 s.q2 s.s3 s.q3 s.c0 s.c1

/-- The kind of the section of that number; 0 where none is. -/
def kindV (l : Lay) (s : Int) : Int := if 0 ≤ s then ((l.secs[s.toNat]?).map Sec.k).getD 0 else 0
theorem kindV_at {l : Lay} {j : Nat} {x : Sec} (h : l.secs[j]? = some x) : kindV l j = x.k := by
  unfold kindV
  rw [if_pos (by omega), Int.toNat_natCast, h]
  rfl
theorem kindV_no {l : Lay} {s : Int} (h : ¬ (0 ≤ s ∧ s < l.secs.length)) : kindV l s = 0 := by
  unfold kindV
  by_cases h0 : 0 ≤ s
  · rw [if_pos h0, List.getElem?_eq_none (by omega)]; rfl
  · rw [if_neg h0]
theorem kindV_some {l : Lay} {s : Int} (h : kindV l s ≠ 0) : ∃ (j : Nat) (x : Sec), s = j ∧ l.secs[j]? = some x ∧ kindV l s = x.k := by
  by_cases h0 : 0 ≤ s ∧ s < l.secs.length
  · obtain ⟨j, rfl⟩ : ∃ j : Nat, s = j := ⟨s.toNat, by omega⟩
    exact ⟨j, l.secs[j]'(by omega), rfl, List.getElem?_eq_getElem (by omega), kindV_at (List.getElem?_eq_getElem (by omega))⟩
  · exact absurd (kindV_no h0) h
theorem kindV_range {l : Lay} {w : World} (hl : Lies l w) (s : Int) : 0 ≤ kindV l s ∧ kindV l s ≤ 255 := by
  by_cases h : kindV l s = 0
  · rw [h]; decide
  · obtain ⟨j, x, _, hx, e⟩ := kindV_some h
    rw [e]
    exact hl.kinds x (List.mem_of_getElem? hx)
theorem wrap_pred {n : Nat} (h : (n : Int) ≤ 9223372036854775807) : wrap64 ((n : Int) - 1) = n - 1 := by
  unfold wrap64; omega
/-- A port is there; the section of it; the way of a step. -/
def thereV (l : Lay) (s p : Int) : Bool := withinA p 0 (pK (kindV l s) - 1)
def stepV (l : Lay) (s i o : Int) : Bool := goesK (kindV l s) i o
theorem goesK_no (i o : Int) : goesK 0 i o = false := by rfl
theorem thereV_some {l : Lay} {s p : Int} (h : thereV l s p = true) : ∃ (j : Nat) (x : Sec), s = j ∧ l.secs[j]? = some x := by
  by_cases h0 : kindV l s = 0
  · unfold thereV at h
    rw [h0, withinA_iff] at h
    have : pK 0 = 0 := rfl
    omega
  · obtain ⟨j, x, e, hx, _⟩ := kindV_some h0
    exact ⟨j, x, e, hx⟩

end Go.Proofs.YtniihmafbeplaaaDoor
namespace Go.Proofs.YtniihmafbeplaaaDoor
set_option linter.unusedVariables false

theorem fits_num {k : IntKind} {ls : List Leaf} {cs : List Value} (h : Fits (.num k :: ls) cs) : ∃ (n : Int) (vs : List Value), cs = .int k n :: vs ∧ (Lit.int k n).wf = true ∧ Fits ls vs := by
  cases cs with
  | nil => exact h.elim
  | cons v vs =>
    obtain ⟨⟨n, rfl, hw⟩, h2⟩ := h
    exact ⟨n, vs, rfl, hw, h2⟩
theorem fits_nil {cs : List Value} (h : Fits [] cs) : cs = [] := by
  cases cs with
  | nil => rfl
  | cons v vs => exact h.elim
def secL : List Leaf := [.num .u8, .num .i64, .num .i64, .num .i64, .num .i64, .num .i64, .num .i64, .num .i64, .num .i64, .num .i64, .num .i64]
def stepL : List Leaf := [.num .i64, .num .i64, .num .i64]
def portL : List Leaf := [.num .i64, .num .i64]
theorem sec_of {cs : List Value} (h : Fits secL cs) : ∃ k a b c d e f g i j l : Int, cs = [.int .u8 k, .int .i64 a, .int .i64 b, .int .i64 c, .int .i64 d, .int .i64 e, .int .i64 f, .int .i64 g, .int .i64 i, .int .i64 j, .int .i64 l] ∧ (0 ≤ k ∧ k ≤ 255) := by
  unfold secL at h
  obtain ⟨k, cs, rfl, w_k, h⟩ := fits_num h
  obtain ⟨a, cs, rfl, w_a, h⟩ := fits_num h
  obtain ⟨b, cs, rfl, w_b, h⟩ := fits_num h
  obtain ⟨c, cs, rfl, w_c, h⟩ := fits_num h
  obtain ⟨d, cs, rfl, w_d, h⟩ := fits_num h
  obtain ⟨e, cs, rfl, w_e, h⟩ := fits_num h
  obtain ⟨f, cs, rfl, w_f, h⟩ := fits_num h
  obtain ⟨g, cs, rfl, w_g, h⟩ := fits_num h
  obtain ⟨i, cs, rfl, w_i, h⟩ := fits_num h
  obtain ⟨j, cs, rfl, w_j, h⟩ := fits_num h
  obtain ⟨l, cs, rfl, w_l, h⟩ := fits_num h
  obtain rfl := fits_nil h
  exact ⟨k, a, b, c, d, e, f, g, i, j, l, rfl, (Lit.wf_int_iff .u8 k).1 w_k⟩
theorem step_of {cs : List Value} (h : Fits stepL cs) : ∃ a b c : Int, cs = [.int .i64 a, .int .i64 b, .int .i64 c] := by
  unfold stepL at h
  obtain ⟨a, cs, rfl, w_a, h⟩ := fits_num h
  obtain ⟨b, cs, rfl, w_b, h⟩ := fits_num h
  obtain ⟨c, cs, rfl, w_c, h⟩ := fits_num h
  obtain rfl := fits_nil h
  exact ⟨a, b, c, rfl⟩
theorem port_of {cs : List Value} (h : Fits portL cs) : ∃ a b : Int, cs = [.int .i64 a, .int .i64 b] := by
  unfold portL at h
  obtain ⟨a, cs, rfl, w_a, h⟩ := fits_num h
  obtain ⟨b, cs, rfl, w_b, h⟩ := fits_num h
  obtain rfl := fits_nil h
  exact ⟨a, b, rfl⟩
end Go.Proofs.YtniihmafbeplaaaDoor
namespace Go.Proofs.YtniihmafbeplaaaDoor
open Go.ChangeShapes Go.WideShapes Go.ChangeAt Go.RowKit Go.Deep
open Go.Joins Go.Shelf
set_option linter.unusedVariables false
set_option maxRecDepth 100000

theorem list_choose {α : Type} {p : Nat → α → Prop} : ∀ (n : Nat), (∀ i, i < n → ∃ x, p i x) → ∃ l : List α, l.length = n ∧ ∀ i x, l[i]? = some x → p i x
  | 0, _ => ⟨[], rfl, fun i x h => by simp at h⟩
  | n + 1, h => by
    obtain ⟨l, hl, hp⟩ := list_choose n (fun i hi => h i (by omega))
    obtain ⟨x, hx⟩ := h n (by omega)
    refine ⟨l ++ [x], by simp [hl], fun i y hy => ?_⟩
    by_cases hi : i < l.length
    · rw [List.getElem?_append_left hi] at hy; exact hp i y hy
    · have hlt := (List.getElem?_eq_some_iff.1 hy).1
      simp at hlt
      obtain rfl : i = l.length := by omega
      rw [List.getElem?_append_right (Nat.le_refl _), Nat.sub_self] at hy
      simp at hy
      subst hy
      rw [hl]
      exact hx
theorem flat_inv {α : Type} {f : α → List Value} {c : Nat} (hf : ∀ x, (f x).length = c) : ∀ (l : List α) (j : Nat) (u : Value), (l.flatMap f)[j]? = some u → ∃ i x k, l[i]? = some x ∧ (f x)[k]? = some u ∧ j = i * c + k
  | [], j, u, h => by simp at h
  | y :: l, j, u, h => by
    rw [List.flatMap_cons] at h
    by_cases hj : j < (f y).length
    · rw [List.getElem?_append_left hj] at h
      exact ⟨0, y, j, rfl, h, by omega⟩
    · rw [List.getElem?_append_right (by omega)] at h
      obtain ⟨i, x, k, h1, h2, h3⟩ := flat_inv hf l _ u h
      refine ⟨i + 1, x, k, by simpa using h1, h2, ?_⟩
      rw [hf] at h3 hj
      rw [Nat.add_mul]
      omega
section
variable {H : Type} {enc : TypeId × Value → H} {w : World} {base : Nat} {spare : Nat → Bool} {held : Bool}
/-- A row of structs. -/
theorem row_open {α : Type} {f : α → List Value} {G : α → Prop} {t e : TypeId} {c : Nat} (hf : ∀ x, (f x).length = c) (hc0 : 0 < c) (ht : Tryd.prog.underlying t = some (.slice e)) (hc : Tryd.prog.cellsOf e = c)
    (hel : ∀ n cs x, DataW.trod enc Tryd.prog w base spare held n e cs = some x → ∃ a : α, cs = f a ∧ G a) {fuel : Nat} {v : Value} {y : DataW H × List MemPlace} (h : DataW.trod enc Tryd.prog w base spare held fuel t [v] = some y) :
    ∃ (A : Option Addr) (cap : Nat) (l : List α), v = .slice A l.length cap ∧ Row w w.heap.size A (l.flatMap f) ∧ (∀ a ∈ l, G a) ∧ (l.length : Int) ≤ 9223372036854775807 := by
  rcases open_slice ht h with ⟨hcs, _⟩ | ⟨a, len, cap, m, n, D, Pl, hcs, hb, hl, hm, hmm, _, hx⟩
  · simp at hcs
    subst hcs
    exact ⟨none, 0, [], rfl, Row.nil _ _ _, by simp, by simp⟩
  · simp at hcs
    subst hcs
    have hlm : len ≤ m := by rw [hmm]; split <;> omega
    obtain ⟨l, hll, hp⟩ := list_choose (α := α) (p := fun i x => w.cells? base (a.add (i * c)) c = some (f x) ∧ G x) len (fun i hi => by
      obtain ⟨cs', h1, h2⟩ := hx i (by omega)
      rw [hc] at h1
      obtain ⟨x, rfl, hg⟩ := hel _ _ _ h2
      exact ⟨x, h1, hg⟩)
    refine ⟨some a, cap, l, by rw [hll], row_of_cells ?_, fun x hx => ?_, by rw [hll]; unfold maxLen at hm; omega⟩
    · intro j u hu
      obtain ⟨i, x, k, h1, h2, rfl⟩ := flat_inv hf l j u hu
      obtain ⟨_, _, hcell⟩ := World.cells?_some (hp i x h1).1
      have hk : k < c := by rw [← hf x]; exact (List.getElem?_eq_some_iff.1 h2).1
      have := hcell k hk
      rw [Addr.add_add] at this
      rw [this]
      exact h2
    · obtain ⟨i, hi, e⟩ := List.getElem_of_mem hx
      exact (hp i x (by rw [List.getElem?_eq_getElem hi, e])).2

theorem plain_el {n : Nat} {t : TypeId} {ls : List Leaf} {cs : List Value} {x : DataW H × List MemPlace} (m : Nat) (hl : leaves Tryd.prog m t = some ls) (h : DataW.trod enc Tryd.prog w base spare held n t cs = some x) : Fits ls cs := (plain_open m t ls n cs x hl h).1
theorem sec_el {n : Nat} {cs : List Value} {x : DataW H × List MemPlace} (h : DataW.trod enc Tryd.prog w base spare held n 53 cs = some x) : ∃ s : Sec, cs = s.cells ∧ 0 ≤ s.k ∧ s.k ≤ 255 := by
  obtain ⟨k, a, b, c, d, e, f, g, i, j, l, rfl, hk⟩ := sec_of (plain_el 8 (ls := secL) (by kernel_rfl) h)
  exact ⟨⟨k, a, b, c, d, e, f, g, i, j, l⟩, rfl, hk⟩
theorem sig_el {n : Nat} {cs : List Value} {x : DataW H × List MemPlace} (h : DataW.trod enc Tryd.prog w base spare held n 75 cs = some x) : ∃ s : Int × Int, cs = prtCells s ∧ True := by
  obtain ⟨a, b, rfl⟩ := port_of (plain_el 8 (ls := portL) (by kernel_rfl) h)
  exact ⟨(a, b), rfl, trivial⟩
theorem stp_el {n : Nat} {cs : List Value} {x : DataW H × List MemPlace} (h : DataW.trod enc Tryd.prog w base spare held n 97 cs = some x) : ∃ s : Int × Int × Int, cs = stpCells s ∧ True := by
  obtain ⟨a, b, c, rfl⟩ := step_of (plain_el 8 (ls := stepL) (by kernel_rfl) h)
  exact ⟨(a, b, c), rfl, trivial⟩
theorem flk_el {n : Nat} {cs : List Value} {x : DataW H × List MemPlace} (h : DataW.trod enc Tryd.prog w base spare held n 95 cs = some x) : ∃ s : Int × Int × Int × Int, cs = flkCells s ∧ True := by
  have h := plain_el 8 (ls := [.num .i64, .num .i64, .num .i64, .num .i64]) (by kernel_rfl) h
  obtain ⟨a, cs, rfl, _, h⟩ := fits_num h
  obtain ⟨b, cs, rfl, _, h⟩ := fits_num h
  obtain ⟨c, cs, rfl, _, h⟩ := fits_num h
  obtain ⟨d, cs, rfl, _, h⟩ := fits_num h
  obtain rfl := fits_nil h
  exact ⟨(a, b, c, d), rfl, trivial⟩
theorem field_of {P : Program} {t : TypeId} {i ty off : Nat} (h : ((P.fieldsOf t)[i]?).map (fun f => (f.type, f.offset)) = some (ty, off)) : ∃ f : Field, (P.fieldsOf t)[i]? = some f ∧ f.type = ty ∧ f.offset = off := by
  cases hf : (P.fieldsOf t)[i]? with
  | none => rw [hf] at h; cases h
  | some f => rw [hf] at h; simp at h; exact ⟨f, rfl, h.1, h.2⟩
theorem ex_el {n : Nat} {cs : List Value} {x : DataW H × List MemPlace} (h : DataW.trod enc Tryd.prog w base spare held n 61 cs = some x) :
    ∃ s : Exm, cs = s.cells ∧ Row w w.heap.size s.A (s.over.flatMap stpCells) ∧ (s.over.length : Int) ≤ 9223372036854775807 := by
  obtain ⟨xs, m, _, rfl, hlen, hxs, hf⟩ := DataW.trod_struct Tryd.underlying61 h
  have hcl : Tryd.prog.cellsOf 61 = 3 := by kernel_rfl
  rw [hcl] at hlen
  obtain ⟨f0, g0, t0, o0⟩ := field_of (P := Tryd.prog) (t := 61) (i := 0) (ty := 49) (off := 0) (by kernel_rfl)
  obtain ⟨f1, g1, t1, o1⟩ := field_of (P := Tryd.prog) (t := 61) (i := 1) (ty := 59) (off := 2) (by kernel_rfl)
  have hsz : xs.length = 2 := by rw [hxs]; kernel_rfl
  match cs, hlen, xs, hsz with
  | [a0, a1, a2], _, [y0, y1], _ =>
    have h0 := hf 0 f0 g0
    have h1 := hf 1 f1 g1
    rw [t0, o0, show Tryd.prog.cellsOf 49 = 2 by kernel_rfl] at h0
    rw [t1, o1, show Tryd.prog.cellsOf 59 = 1 by kernel_rfl] at h1
    obtain ⟨a, b, e⟩ := port_of (plain_el 8 (ls := portL) (by kernel_rfl) (x := y0) h0)
    simp at e
    obtain ⟨rfl, rfl⟩ := e
    obtain ⟨A, cap, l, hv, hr, _, hl⟩ := row_open (f := stpCells) (G := fun _ => True) (c := 3) (fun _ => rfl) (by omega) Tryd.underlying59 (by kernel_rfl) (fun n cs x h => stp_el h) (v := a2) (y := y1) h1
    subst hv
    exact ⟨⟨a, b, A, cap, l⟩, rfl, hr, hl⟩
theorem lay_open {r : Reach} {b0 : Nat} {v : Value} {d : DataW H} {p : List MemPlace} (hv : Value.okWide Tryd.prog w r b0 29 v) (h : DataW.Trod enc Tryd.prog w base spare held 29 v d p) : ∃ l : Lay, v = l.val ∧ Lies l w := by
  obtain ⟨ca, rfl, _⟩ := okWide_struct Tryd.underlying29 hv
  obtain ⟨fuel, hf⟩ := h
  obtain ⟨xs, m, _, hx, hlen, hxs, hf⟩ := DataW.trod_struct Tryd.underlying29 hf
  have hcl : Tryd.prog.cellsOf 29 = 11 := by kernel_rfl
  rw [hcl] at hlen
  obtain ⟨f0, g0, t0, o0⟩ := field_of (P := Tryd.prog) (t := 29) (i := 0) (ty := 22) (off := 0) (by kernel_rfl)
  obtain ⟨f1, g1, t1, o1⟩ := field_of (P := Tryd.prog) (t := 29) (i := 1) (ty := 23) (off := 1) (by kernel_rfl)
  obtain ⟨f2, g2, t2, o2⟩ := field_of (P := Tryd.prog) (t := 29) (i := 2) (ty := 24) (off := 2) (by kernel_rfl)
  obtain ⟨f3, g3, t3, o3⟩ := field_of (P := Tryd.prog) (t := 29) (i := 3) (ty := 25) (off := 3) (by kernel_rfl)
  obtain ⟨f4, g4, t4, o4⟩ := field_of (P := Tryd.prog) (t := 29) (i := 4) (ty := 27) (off := 4) (by kernel_rfl)
  have hsz : xs.length = 5 := by rw [hxs]; kernel_rfl
  have hcc : (Value.agg ca).cells.toList = ca.toList := rfl
  rw [hcc] at hlen hf
  obtain ⟨cs, hcs⟩ : ∃ cs, ca.toList = cs := ⟨_, rfl⟩
  obtain rfl : ca = cs.toArray := by rw [← hcs]
  rw [hcs] at hlen hf
  match cs, hlen, xs, hsz with
  | [a0, a1, a2, a3, a4, a5, a6, a7, a8, a9, a10], _, [y0, y1, y2, y3, y4], _ =>
    have h0 := hf 0 f0 g0
    have h1 := hf 1 f1 g1
    have h2 := hf 2 f2 g2
    have h3 := hf 3 f3 g3
    have h4 := hf 4 f4 g4
    rw [t0, o0, show Tryd.prog.cellsOf 22 = 1 by kernel_rfl] at h0
    rw [t1, o1, show Tryd.prog.cellsOf 23 = 1 by kernel_rfl] at h1
    rw [t2, o2, show Tryd.prog.cellsOf 24 = 1 by kernel_rfl] at h2
    rw [t3, o3, show Tryd.prog.cellsOf 25 = 1 by kernel_rfl] at h3
    rw [t4, o4, show Tryd.prog.cellsOf 27 = 7 by kernel_rfl] at h4
    obtain ⟨As, cs, secs, rfl, hrS, hkS, hnS⟩ := row_open (f := Sec.cells) (G := fun s : Sec => 0 ≤ s.k ∧ s.k ≤ 255) (c := 11) Sec.len (by omega) Tryd.underlying22 (by kernel_rfl) (fun n cs x h => sec_el h) (v := a0) (y := y0) h0
    obtain ⟨Ag, cg, sigs, rfl, hrG, _, hnG⟩ := row_open (f := prtCells) (G := fun _ => True) (c := 2) (fun _ => rfl) (by omega) Tryd.underlying23 (by kernel_rfl) (fun n cs x h => sig_el h) (v := a1) (y := y1) h1
    obtain ⟨Ae, ce, exits, rfl, hrE, hkE, hnE⟩ := row_open (f := Exm.cells) (G := fun s : Exm => Row w w.heap.size s.A (s.over.flatMap stpCells) ∧ (s.over.length : Int) ≤ 9223372036854775807) (c := 3) (fun _ => rfl) (by omega) Tryd.underlying24 (by kernel_rfl) (fun n cs x h => ex_el h) (v := a2) (y := y2) h2
    obtain ⟨Af, cf, flanks, rfl, hrF, _, hnF⟩ := row_open (f := flkCells) (G := fun _ => True) (c := 4) (fun _ => rfl) (by omega) Tryd.underlying25 (by kernel_rfl) (fun n cs x h => flk_el h) (v := a3) (y := y3) h3
    have h4 := plain_el 8 (ls := [.num .i64, .num .i64, .num .i64, .num .i64, .num .i64, .num .i64, .num .i64]) (by kernel_rfl) (x := y4) h4
    obtain ⟨u0, c0, e0, _, h4⟩ := fits_num h4
    obtain ⟨u1, c1, e1, _, h4⟩ := fits_num h4
    obtain ⟨u2, c2, e2, _, h4⟩ := fits_num h4
    obtain ⟨u3, c3, e3, _, h4⟩ := fits_num h4
    obtain ⟨u4, c4, e4, _, h4⟩ := fits_num h4
    obtain ⟨u5, c5, e5, _, h4⟩ := fits_num h4
    obtain ⟨u6, c6, e6, _, h4⟩ := fits_num h4
    obtain rfl := fits_nil h4
    subst e6 e5 e4 e3 e2 e1
    simp at e0
    obtain ⟨rfl, rfl, rfl, rfl, rfl, rfl, rfl⟩ := e0
    exact ⟨⟨secs, As, cs, sigs, Ag, cg, exits, Ae, ce, flanks, Af, cf, u0, u1, u2, u3, u4, u5, u6⟩, rfl, hrS, hrG, hrE, hrF, fun x hx => (hkE x hx).1, hkS, hnS, hnG, hnE, hnF, fun x hx => (hkE x hx).2⟩
end
end Go.Proofs.YtniihmafbeplaaaDoor
namespace Go.Proofs.YtniihmafbeplaaaDoor
open Go.RowKit Go.Shelf
set_option linter.unusedVariables false
set_option linter.unusedSimpArgs false

section
variable {P : World → Prop} {w : World}
theorem wrapI_in (n : Int) (h : -9223372036854775808 ≤ n ∧ n ≤ 9223372036854775807) : IntKind.i64.wrap n = n := by rw [IntKind.wrap_i64]; omega
theorem pK_pred (k : Int) : IntKind.i64.wrap (pK k - 1) = pK k - 1 := by
  refine wrapI_in _ ?_
  unfold pK; split <;> (try split) <;> (try split) <;> omega
theorem nK_pred (k : Int) : IntKind.i64.wrap (nK k - 1) = nK k - 1 := by
  refine wrapI_in _ ?_
  unfold nK; split <;> (try split) <;> (try split) <;> omega

end
end Go.Proofs.YtniihmafbeplaaaDoor
namespace Go.Proofs.YtniihmafbeplaaaDoor
open Go.RowKit Go.Shelf
set_option linter.unusedVariables false
set_option linter.unusedSimpArgs false

def Sec.zero : Sec := ⟨0, 0, 0, 0, 0, 0, 0, 0, 0, 0, 0⟩
/-- The section of a port. -/
def atV (l : Lay) (s p : Int) : Sec := if thereV l s p = true then (l.secs[s.toNat]?).getD Sec.zero else Sec.zero
theorem atV_no {l : Lay} {s p : Int} (h : thereV l s p = false) : atV l s p = Sec.zero := by unfold atV; rw [h]; rfl
theorem atV_yes {l : Lay} {s p : Int} (h : thereV l s p = true) : ∃ (j : Nat), s = j ∧ l.secs[j]? = some (atV l s p) := by
  obtain ⟨j, x, rfl, hx⟩ := thereV_some h
  refine ⟨j, rfl, ?_⟩
  unfold atV
  rw [if_pos h, Int.toNat_natCast, hx]
  rfl
theorem keep_box3 {P : World → Prop} (hP : Closed P) {w : World} (h : P w) (t t' t'' : TypeId) (vs us rs : List Value) :
    ∃ Q : World → Prop, Hid (Closed Q) ∧ Hid (∀ W, Q W → P W) ∧ Hid (∀ W, Q W → Whole W w.heap.size t vs) ∧ Hid (∀ W, Q W → Whole W (w.heap.size + 1) t' us) ∧ Hid (∀ W, Q W → Whole W (w.heap.size + 1 + 1) t'' rs) ∧ Hid (∀ W, Q W → Below w.heap.size w W) ∧ Q (((w.alloc (.cells vs.toArray t)).alloc (.cells us.toArray t')).alloc (.cells rs.toArray t'')) :=
  ⟨fun W => (((P W ∧ Whole W w.heap.size t vs) ∧ Whole W (w.heap.size + 1) t' us) ∧ Whole W (w.heap.size + 1 + 1) t'' rs) ∧ Below w.heap.size w W, Lib.hid ((((hP.and (Closed.whole _ t vs)).and (Closed.whole _ t' us)).and (Closed.whole _ t'' rs)).and (Closed.below w)), Lib.hid (fun _ h => h.1.1.1.1), Lib.hid (fun _ h => h.1.1.1.2), Lib.hid (fun _ h => h.1.1.2), Lib.hid (fun _ h => h.1.2), Lib.hid (fun _ h => h.2),
   ⟨⟨⟨hP _ _ h (below3 w _ _ _), ((Whole.new w t vs).alloc _).alloc _⟩, (Whole.new_at _ t' us _ (by simp)).alloc _⟩, Whole.new_at _ t'' rs _ (by simp)⟩, below3 w _ _ _⟩
/-- Eleven cells are laid over eleven. -/
theorem whole_over {W : World} {g : Nat} {t : TypeId} {a b : Sec} (h : Whole W g t a.cells) :
    Whole ((((((((((((W.setCell ⟨g, 0, none⟩ (.int .u8 b.k)).setCell ⟨g, 1, none⟩ (.int .i64 b.s0)).setCell ⟨g, 2, none⟩ (.int .i64 b.q0)).setCell ⟨g, 3, none⟩ (.int .i64 b.s1)).setCell ⟨g, 4, none⟩ (.int .i64 b.q1)).setCell ⟨g, 5, none⟩ (.int .i64 b.s2)).setCell ⟨g, 6, none⟩ (.int .i64 b.q2)).setCell ⟨g, 7, none⟩ (.int .i64 b.s3)).setCell ⟨g, 8, none⟩ (.int .i64 b.q3)).setCell ⟨g, 9, none⟩ (.int .i64 b.c0)).setCell ⟨g, 10, none⟩ (.int .i64 b.c1))) g t b.cells :=
  ((((((((((h.set 0 _).set 1 _).set 2 _).set 3 _).set 4 _).set 5 _).set 6 _).set 7 _).set 8 _).set 9 _).set 10 _
theorem below_over {W w0 : World} {n g : Nat} {b : Sec} (h : Below n w0 W) (hg : n ≤ g) :
    Below n w0 ((((((((((((W.setCell ⟨g, 0, none⟩ (.int .u8 b.k)).setCell ⟨g, 1, none⟩ (.int .i64 b.s0)).setCell ⟨g, 2, none⟩ (.int .i64 b.q0)).setCell ⟨g, 3, none⟩ (.int .i64 b.s1)).setCell ⟨g, 4, none⟩ (.int .i64 b.q1)).setCell ⟨g, 5, none⟩ (.int .i64 b.s2)).setCell ⟨g, 6, none⟩ (.int .i64 b.q2)).setCell ⟨g, 7, none⟩ (.int .i64 b.s3)).setCell ⟨g, 8, none⟩ (.int .i64 b.q3)).setCell ⟨g, 9, none⟩ (.int .i64 b.c0)).setCell ⟨g, 10, none⟩ (.int .i64 b.c1))) :=
  ((((((((((h.setCell (p := ⟨g, 0, none⟩) hg _).setCell (p := ⟨g, 1, none⟩) hg _).setCell (p := ⟨g, 2, none⟩) hg _).setCell (p := ⟨g, 3, none⟩) hg _).setCell (p := ⟨g, 4, none⟩) hg _).setCell (p := ⟨g, 5, none⟩) hg _).setCell (p := ⟨g, 6, none⟩) hg _).setCell (p := ⟨g, 7, none⟩) hg _).setCell (p := ⟨g, 8, none⟩) hg _).setCell (p := ⟨g, 9, none⟩) hg _).setCell (p := ⟨g, 10, none⟩) hg _

section
variable {P : World → Prop} {w : World}
end
end Go.Proofs.YtniihmafbeplaaaDoor
namespace Go.Proofs.YtniihmafbeplaaaDoor
open Go.RowKit Go.Shelf
set_option linter.unusedVariables false
set_option linter.unusedSimpArgs false

section
variable {P : World → Prop} {w : World}

end
end Go.Proofs.YtniihmafbeplaaaDoor
namespace Go.Proofs.YtniihmafbeplaaaDoor
open Go.RowKit Go.Shelf
set_option linter.unusedVariables false
set_option linter.unusedSimpArgs false

/-- Is it this port? -/
def isP (s p : Int) (x : Int × Int) : Bool := x.1 == s && x.2 == p
def signalV (l : Lay) (s p : Int) : Int := idxV (isP s p) l.sigs
def exitV (l : Lay) (s p : Int) : Int := idxV (fun x => isP s p (x.s, x.q)) l.exits
/-- Is there too much? -/
def tooV (l : Lay) : Bool := decide (24 < (l.secs.length : Int)) || (decide (12 < (l.sigs.length : Int)) || (decide (12 < (l.exits.length : Int)) || (decide (16 < (l.flanks.length : Int)) || l.exits.any (fun x => decide (2 < (x.over.length : Int))))))

section
variable {P : World → Prop} {w : World}

end
end Go.Proofs.YtniihmafbeplaaaDoor
namespace Go.Proofs.YtniihmafbeplaaaDoor
open Go.RowKit Go.Shelf
set_option linter.unusedVariables false
set_option linter.unusedSimpArgs false

theorem andThen_eq_ite {w : World} (b : Bool) (f : Bool → World → Result Value) : (Result.ok b w).andThen f = f b w := rfl
set_option maxHeartbeats 1000000 in
theorem eq_prt (w : World) (d : Nat) (a b c e : Int) : (Op.equalIn (d + 2) 49 (prtV a b) (prtV c e)).run Tryd.prog w = .ok (a == c && b == e) w := by
  cases h1 : (a == c) <;> cases h2 : (b == e) <;> go_simp
set_option maxHeartbeats 1000000 in
theorem eq_arr4 (w : World) (d : Nat) (a0 b0 a1 b1 a2 b2 a3 b3 c0 d0 c1 d1 c2 d2 c3 d3 : Int) :
    (Op.equalIn (d + 3) 50 (.agg #[.int .i64 a0, .int .i64 b0, .int .i64 a1, .int .i64 b1, .int .i64 a2, .int .i64 b2, .int .i64 a3, .int .i64 b3]) (.agg #[.int .i64 c0, .int .i64 d0, .int .i64 c1, .int .i64 d1, .int .i64 c2, .int .i64 d2, .int .i64 c3, .int .i64 d3])).run Tryd.prog w
      = .ok ((a0 == c0 && b0 == d0) && ((a1 == c1 && b1 == d1) && ((a2 == c2 && b2 == d2) && (a3 == c3 && b3 == d3)))) w := by
  obtain ⟨i, hi⟩ : ∃ i, Tryd.prog.info? 49 = some i := Option.isSome_iff_exists.1 (by kernel_rfl)
  have hc : Tryd.prog.cellsOf 49 = 2 := by kernel_rfl
  have hr : List.range 4 = [0, 1, 2, 3] := rfl
  have p0 : ∀ (x0 y0 x1 y1 x2 y2 x3 y3 : Int) (w : World), (part 49 #[.int .i64 x0, .int .i64 y0, .int .i64 x1, .int .i64 y1, .int .i64 x2, .int .i64 y2, .int .i64 x3, .int .i64 y3] 0).run Tryd.prog w = .ok (prtV x0 y0) w := fun _ _ _ _ _ _ _ _ _ => by kernel_rfl
  have p1 : ∀ (x0 y0 x1 y1 x2 y2 x3 y3 : Int) (w : World), (part 49 #[.int .i64 x0, .int .i64 y0, .int .i64 x1, .int .i64 y1, .int .i64 x2, .int .i64 y2, .int .i64 x3, .int .i64 y3] 2).run Tryd.prog w = .ok (prtV x1 y1) w := fun _ _ _ _ _ _ _ _ _ => by kernel_rfl
  have p2 : ∀ (x0 y0 x1 y1 x2 y2 x3 y3 : Int) (w : World), (part 49 #[.int .i64 x0, .int .i64 y0, .int .i64 x1, .int .i64 y1, .int .i64 x2, .int .i64 y2, .int .i64 x3, .int .i64 y3] 4).run Tryd.prog w = .ok (prtV x2 y2) w := fun _ _ _ _ _ _ _ _ _ => by kernel_rfl
  have p3 : ∀ (x0 y0 x1 y1 x2 y2 x3 y3 : Int) (w : World), (part 49 #[.int .i64 x0, .int .i64 y0, .int .i64 x1, .int .i64 y1, .int .i64 x2, .int .i64 y2, .int .i64 x3, .int .i64 y3] 6).run Tryd.prog w = .ok (prtV x3 y3) w := fun _ _ _ _ _ _ _ _ _ => by kernel_rfl
  have q := fun a b c e => eq_prt w d a b c e
  rw [run_equalIn_array w (d + 2) _ _ Tryd.underlying50 hi, hc, hr]
  simp only [Op.eqItems, Sem.run_bind, Nat.reduceMul, p0, p1, p2, p3, Result.andThen_ok, Nat.reduceAdd] at q ⊢
  rw [q]
  cases (a0 == c0 && b0 == d0)
  · simp
  simp only [Result.andThen_ok, Bool.not_true, Bool.false_eq_true, if_false, p0, p1, p2, p3, Sem.run_bind]
  rw [q]
  cases (a1 == c1 && b1 == d1)
  · simp
  simp only [Result.andThen_ok, Bool.not_true, Bool.false_eq_true, if_false, p0, p1, p2, p3, Sem.run_bind]
  rw [q]
  cases (a2 == c2 && b2 == d2)
  · simp
  simp only [Result.andThen_ok, Bool.not_true, Bool.false_eq_true, if_false, p0, p1, p2, p3, Sem.run_bind]
  rw [q]
  cases (a3 == c3 && b3 == d3) <;> simp
set_option maxHeartbeats 1000000 in
theorem eq_arr2 (w : World) (d : Nat) (a0 a1 c0 c1 : Int) :
    (Op.equalIn (d + 2) 51 (.agg #[.int .i64 a0, .int .i64 a1]) (.agg #[.int .i64 c0, .int .i64 c1])).run Tryd.prog w = .ok (a0 == c0 && a1 == c1) w := by
  obtain ⟨i, hi⟩ : ∃ i, Tryd.prog.info? 3 = some i := Option.isSome_iff_exists.1 (by kernel_rfl)
  have hc : Tryd.prog.cellsOf 3 = 1 := by kernel_rfl
  have hr : List.range 2 = [0, 1] := rfl
  have hq : ∀ x y : Int, (Op.equalIn (d + 1) 3 (.int .i64 x) (.int .i64 y)).run Tryd.prog w = .ok (x == y) w := fun x y => run_equalIn_int w d 3 .i64 .i64 x y Tryd.underlying3
  have p0 : ∀ (x0 x1 : Int) (w : World), (part 3 #[.int .i64 x0, .int .i64 x1] 0).run Tryd.prog w = .ok (.int .i64 x0) w := fun _ _ _ => by kernel_rfl
  have p1 : ∀ (x0 x1 : Int) (w : World), (part 3 #[.int .i64 x0, .int .i64 x1] 1).run Tryd.prog w = .ok (.int .i64 x1) w := fun _ _ _ => by kernel_rfl
  rw [run_equalIn_array w (d + 1) _ _ Tryd.underlying51 hi, hc, hr]
  simp only [Op.eqItems, Sem.run_bind, Nat.reduceMul, p0, p1, Result.andThen_ok]
  rw [hq]
  cases (a0 == c0)
  · simp
  simp only [Result.andThen_ok, Bool.not_true, Bool.false_eq_true, if_false, p0, p1, Sem.run_bind]
  rw [hq]
  cases (a1 == c1) <;> simp

/-- By numbers. -/
def Sec.same (x y : Sec) : Bool := x.k == y.k && (((x.s0 == y.s0 && x.q0 == y.q0) && ((x.s1 == y.s1 && x.q1 == y.q1) && ((x.s2 == y.s2 && x.q2 == y.q2) && (x.s3 == y.s3 && x.q3 == y.q3)))) && (x.c0 == y.c0 && x.c1 == y.c1))
theorem Sec.same_iff {x y : Sec} : x.same y = true ↔ x = y := by
  cases x; cases y
  unfold Sec.same
  simp only [Bool.and_eq_true, beq_iff_eq, Sec.mk.injEq]
  constructor
  · rintro ⟨h0, ⟨⟨h1, h2⟩, ⟨h3, h4⟩, ⟨h5, h6⟩, h7, h8⟩, h9, h10⟩
    exact ⟨h0, h1, h2, h3, h4, h5, h6, h7, h8, h9, h10⟩
  · rintro ⟨h0, h1, h2, h3, h4, h5, h6, h7, h8, h9, h10⟩
    exact ⟨h0, ⟨⟨h1, h2⟩, ⟨h3, h4⟩, ⟨h5, h6⟩, h7, h8⟩, h9, h10⟩
theorem Sec.same_eq (x y : Sec) : x.same y = decide (x = y) := by rw [Bool.eq_iff_iff, Sec.same_iff, decide_eq_true_eq]

set_option maxHeartbeats 2000000 in
theorem eq_sec (w : World) (x y : Sec) : (Op.equalIn 10000 53 x.val y.val).run Tryd.prog w = .ok (x.same y) w := by
  have e4 := eq_arr4 w 9996 x.s0 x.q0 x.s1 x.q1 x.s2 x.q2 x.s3 x.q3 y.s0 y.q0 y.s1 y.q1 y.s2 y.q2 y.s3 y.q3
  have e2 := eq_arr2 w 9997 x.c0 x.c1 y.c0 y.c1
  simp only [Nat.reduceAdd] at e4 e2
  unfold Sec.same
  generalize ((x.s0 == y.s0 && x.q0 == y.q0) && ((x.s1 == y.s1 && x.q1 == y.q1) && ((x.s2 == y.s2 && x.q2 == y.q2) && (x.s3 == y.s3 && x.q3 == y.q3)))) = b4 at *
  generalize (x.c0 == y.c0 && x.c1 == y.c1) = b2 at *
  cases h1 : (x.k == y.k) <;> cases b4 <;> cases b2 <;> go_simp
theorem eql_sec (w : World) (x y : Sec) : (binOp .eql 53 x.val y.val).run Tryd.prog w = .ok (.bool (x.same y)) w := by
  rw [run_eql_struct, eq_sec]; rfl
theorem neq_sec (w : World) (x y : Sec) : (binOp .neq 53 x.val y.val).run Tryd.prog w = .ok (.bool (!x.same y)) w := by
  rw [run_neq_struct, eq_sec]; rfl

set_option maxHeartbeats 1000000 in
theorem eq_stp (w : World) (a b c a' b' c' : Int) : (Op.equalIn 10000 97 (stpV a b c) (stpV a' b' c')).run Tryd.prog w = .ok (a == a' && (b == b' && c == c')) w := by
  cases h1 : (a == a') <;> cases h2 : (b == b') <;> cases h3 : (c == c') <;> go_simp
set_option maxHeartbeats 1000000 in
theorem eq_flk (w : World) (a b c d a' b' c' d' : Int) : (Op.equalIn 10000 95 (flkV a b c d) (flkV a' b' c' d')).run Tryd.prog w = .ok (a == a' && (b == b' && (c == c' && d == d'))) w := by
  cases h1 : (a == a') <;> cases h2 : (b == b') <;> cases h3 : (c == c') <;> cases h4 : (d == d') <;> go_simp
set_option maxHeartbeats 1000000 in
theorem eq_sig (w : World) (a b a' b' : Int) : (Op.equalIn 10000 75 (prtV a b) (prtV a' b')).run Tryd.prog w = .ok (a == a' && b == b') w := by
  cases h1 : (a == a') <;> cases h2 : (b == b') <;> go_simp
def sameT (l m : Lay) : Bool := l.t0 == m.t0 && (l.t1 == m.t1 && (l.t2 == m.t2 && (l.t3 == m.t3 && (l.t4 == m.t4 && (l.t5 == m.t5 && l.t6 == m.t6)))))
abbrev Lay.tval (l : Lay) : Value := .agg #[.int .i64 l.t0, .int .i64 l.t1, .int .i64 l.t2, .int .i64 l.t3, .int .i64 l.t4, .int .i64 l.t5, .int .i64 l.t6]
set_option maxHeartbeats 2000000 in
theorem eq_times (w : World) (l m : Lay) : (Op.equalIn 10000 27 l.tval m.tval).run Tryd.prog w = .ok (sameT l m) w := by
  unfold sameT
  cases h0 : (l.t0 == m.t0)
  · go_simp
  cases h1 : (l.t1 == m.t1)
  · go_simp
  cases h2 : (l.t2 == m.t2)
  · go_simp
  cases h3 : (l.t3 == m.t3)
  · go_simp
  cases h4 : (l.t4 == m.t4)
  · go_simp
  cases h5 : (l.t5 == m.t5)
  · go_simp
  cases h6 : (l.t6 == m.t6) <;> go_simp
end Go.Proofs.YtniihmafbeplaaaDoor
namespace Go.Proofs.YtniihmafbeplaaaDoor
open Go.RowKit Go.Shelf
set_option linter.unusedVariables false
set_option linter.unusedSimpArgs false

section
variable {P : World → Prop} {w : World} {k p n a b c d : Int}
end
end Go.Proofs.YtniihmafbeplaaaDoor
namespace Go.Proofs.YtniihmafbeplaaaDoor
open Go.RowKit Go.Shelf
set_option linter.unusedVariables false
set_option linter.unusedSimpArgs false

theorem waysL_succ {n a b c d : Int} {j : Nat} (hn : n = 0 ∨ n = 1 ∨ n = 2) (hj : (j : Int) < n) : (waysL n a b c d).take (j + 1) = (waysL n a b c d).take j ++ [((j : Int), endA n a c j, endA n b d j)] := by
  rcases hn with rfl | rfl | rfl
  · omega
  · obtain rfl : j = 0 := by omega
    rfl
  · have : j = 0 ∨ j = 1 := by omega
    rcases this with rfl | rfl <;> rfl
theorem hasV_yes {n : Int} {j : Nat} (hj : (j : Int) < n) : hasV n j = true := by unfold hasV; simp; omega

section
variable {P : World → Prop} {w : World} {k p n a b c d : Int}
end

end Go.Proofs.YtniihmafbeplaaaDoor
namespace Go.Proofs.YtniihmafbeplaaaDoor
open Go.RowKit Go.Shelf
set_option linter.unusedVariables false
set_option linter.unusedSimpArgs false

end Go.Proofs.YtniihmafbeplaaaDoor
namespace Go.Proofs.YtniihmafbeplaaaDoor
open Go.RowKit Go.Shelf
set_option linter.unusedVariables false
set_option linter.unusedSimpArgs false

/-- Too great to be asked? -/
def greatV (l : Lay) : Bool := ((l.exits.take 31).any fun x => decide (20 < (x.over.length : Int))) || (decide (40 < (l.secs.length : Int)) || (decide (30 < (l.sigs.length : Int)) || (decide (30 < (l.exits.length : Int)) || decide (40 < (l.flanks.length : Int)))))
theorem great_no {l : Lay} (h : greatV l = false) : l.secs.length ≤ 40 ∧ l.sigs.length ≤ 30 ∧ l.exits.length ≤ 30 ∧ l.flanks.length ≤ 40 ∧ ∀ x ∈ l.exits, x.over.length ≤ 20 := by
  unfold greatV at h
  simp only [Bool.or_eq_false_iff, decide_eq_false_iff_not] at h
  obtain ⟨h0, h1, h2, h3, h4⟩ := h
  refine ⟨by omega, by omega, by omega, by omega, fun x hx => ?_⟩
  rw [List.take_of_length_le (by omega), List.any_eq_false] at h0
  have := h0 x hx
  rw [decide_eq_true_eq] at this
  omega
section
variable {P : World → Prop} {w : World}
end
end Go.Proofs.YtniihmafbeplaaaDoor
namespace Go.Proofs.YtniihmafbeplaaaDoor
open Go.RowKit Go.Shelf
set_option linter.unusedVariables false
set_option linter.unusedSimpArgs false

attribute [local go_sem] Oper.semAt_some

end Go.Proofs.YtniihmafbeplaaaDoor
namespace Go.Proofs.YtniihmafbeplaaaDoor
open Go.RowKit Go.Shelf
set_option linter.unusedVariables false
set_option linter.unusedSimpArgs false

attribute [local go_sem] Oper.semAt_some

theorem at_pre {α : Type} {pre r xs : List α} {y : α} (h : pre ++ (y :: r) = xs) : xs[pre.length]? = some y := by rw [← h, List.getElem?_append_right (Nat.le_refl _), Nat.sub_self]; rfl
theorem drop_at {α : Type} {l : List α} {i : Nat} {x : α} (h : l[i]? = some x) : l.drop i = x :: l.drop (i + 1) := by
  obtain ⟨hi, rfl⟩ := List.getElem?_eq_some_iff.1 h
  exact List.drop_eq_getElem_cons hi
theorem push_pre {α : Type} {pre r xs : List α} {y : α} (h : pre ++ (y :: r) = xs) : (pre ++ [y]) ++ r = xs := by rw [← h]; simp
/-- All steps of overlaps. -/
def stepsL (l : Lay) : List (Int × Int × Int) := l.exits.flatMap Exm.over
/-- The ports to which a section joins; those of all. -/
def Sec.ports4 (s : Sec) : List (Int × Int) := [(s.s0, s.q0), (s.s1, s.q1), (s.s2, s.q2), (s.s3, s.q3)]
def joinsL (l : Lay) : List (Int × Int) := l.secs.flatMap fun s => s.ports4.filter fun p => decide (0 ≤ p.1)

end Go.Proofs.YtniihmafbeplaaaDoor
namespace Go.Proofs.YtniihmafbeplaaaDoor
open Go.RowKit Go.Shelf
set_option linter.unusedVariables false
set_option linter.unusedSimpArgs false

attribute [local go_sem] Oper.semAt_some
section
variable {P : World → Prop} {w : World}

end
end Go.Proofs.YtniihmafbeplaaaDoor
namespace Go.Proofs.YtniihmafbeplaaaDoor
open Go.RowKit Go.Shelf
set_option linter.unusedVariables false
set_option linter.unusedSimpArgs false

attribute [local go_sem] Oper.semAt_some

/-- The ports that are named. -/
def portsL (l : Lay) : List (Int × Int) := joinsL l ++ (l.sigs ++ l.exits.map fun x => (x.s, x.q))
theorem Keeps.lt {R : Nat → Prop} {A B : World} (h : Keeps R A B) {k : Nat} (hk : R k) (hl : k < A.heap.size) : k < B.heap.size :=
  (Array.getElem?_eq_some_iff.1 (h k _ hk (Array.getElem?_eq_getElem hl))).1

end Go.Proofs.YtniihmafbeplaaaDoor
namespace Go.Proofs.YtniihmafbeplaaaDoor
open Go.RowKit Go.Shelf
set_option linter.unusedVariables false
set_option linter.unusedSimpArgs false

/-- May a flank's numbers be? -/
def flankV (l : Lay) (a b c d : Int) : Bool := withinA b 0 (nK (kindV l a) - 1) && ((kindV l c == 2) && (!(c == a) && withinA d 0 1))

section
variable {P : World → Prop} {w : World}
end
end Go.Proofs.YtniihmafbeplaaaDoor
namespace Go.Proofs.YtniihmafbeplaaaDoor
open Go.RowKit Go.Shelf
set_option linter.unusedVariables false
set_option linter.unusedSimpArgs false

/-- The times; whose numbers may be. -/
def timesL (l : Lay) : List Int := [l.t0, l.t1, l.t2, l.t3, l.t4, l.t5, l.t6]
def rightL (l : Lay) : Bool :=
  !tooV l && (!((timesL l).any fun n => !withinA n 1 1000) && (!(l.secs.any fun s => !rightK s) && (!((portsL l).any fun p => !thereV l p.1 p.2) && (!((stepsL l).any fun s => !stepV l s.1 s.2.1 s.2.2) && !(l.flanks.any fun f => !flankV l f.1 f.2.1 f.2.2.1 f.2.2.2)))))

theorem Row.cellsOn {A B : World} (h : CellsOn A B) {X : Option Addr} {vs : List Value} (hr : Row A A.heap.size X vs) : Row B B.heap.size X vs := fun hp => by
  obtain ⟨b, off, e, hb, hc⟩ := hr hp
  exact ⟨b, off, e, Nat.lt_of_lt_of_le hb h.size, fun j u hu => h.cell (hc j u hu)⟩
theorem Lies.firm (l : Lay) (n : Nat) : Firm n (Lies l) := Firm.cells (fun W W' h hb => ⟨h.secs.cellsOn hb, h.sigs.cellsOn hb, h.exits.cellsOn hb, h.flanks.cellsOn hb, fun x hx => (h.overs x hx).cellsOn hb, h.kinds, h.nS, h.nG, h.nE, h.nF, h.nO⟩) n
theorem Whole.firm (g : Nat) (t : TypeId) (cs : List Value) (n : Nat) : Firm n fun w => Whole w g t cs := Firm.cells (fun W W' h hb => hb.whole h) n

section
variable {P : World → Prop} {w : World}
end

end Go.Proofs.YtniihmafbeplaaaDoor
namespace Go.Proofs.YtniihmafbeplaaaDoor
open Go.RowKit Go.Shelf
set_option linter.unusedVariables false
set_option linter.unusedSimpArgs false

theorem take_at {α : Type} {l : List α} {i : Nat} {x : α} (h : l[i]? = some x) : l.take (i + 1) = l.take i ++ [x] := by
  rw [List.take_add_one, h]; rfl
section
variable {P : World → Prop} {w : World}

end
end Go.Proofs.YtniihmafbeplaaaDoor
namespace Go.Proofs.YtniihmafbeplaaaDoor
open Go.RowKit Go.Shelf
set_option linter.unusedVariables false
set_option linter.unusedSimpArgs false

section
variable {P : World → Prop} {w : World}
/-- Are two layouts the same in all? -/
def sameV (l m : Lay) : Bool := sameT l m && (decide (l.secs.map id = m.secs.map id) && (decide (l.sigs = m.sigs) && (decide (l.exits.map Exm.pure = m.exits.map Exm.pure) && decide (l.flanks = m.flanks))))
end
end Go.Proofs.YtniihmafbeplaaaDoor
