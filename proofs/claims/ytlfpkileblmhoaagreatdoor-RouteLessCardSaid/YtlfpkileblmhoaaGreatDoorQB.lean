/- A layout as it lies in memory: its numbers, and where its rows are; it lies on wherever memory grows. Package layout: within, kind; what the document says of kinds, ports, steps. Sections, steps and ports that came in, by value: their cells. A layout that came in: its numbers, and where its rows lie. Package layout: portThere, At, Step, stepThere, flankRight. Package layout: At. Package slices at a layout's rows: IndexFunc, ContainsFunc; package layout: Signal, Exit. Package layout: Signal, Exit; whether there is too much; whether each section may be. '==' and '!=' of ports, signals, steps, flanks, sections, times: by their numbers. The document's own answer for layer 5. The document's own answer for layer 5: the way from port to port, whether a port may be. The document's own Right of layer 5. The document's own layer 6: layouts that are too great; the section of a port, the way of a step; the first signal, exit. Iterators over a layout: slices.Values at ints and flanks. Iterators over a layout: the steps of all overlaps; the ports to which sections join. Package layout: some, over an iterator, at ints, ports, steps, flanks. Package layout: the makers of iterators; the ports that are named. Package layout: flankRight. Package layout: Right. Package slices at a layout's rows: Equal; package layout: Same. Package slices at a layout's rows: EqualFunc; package layout: Same. -/
import Derived.Test.YtlfpkileblmhoaaGreatDoorQA
import Derived.Test.YtlfpkileblmhoaaGreatDoorGen
import Derived.Test.YtlfpkileblmhoaaGreatDoorRows
import Derived.DataShut
import Derived.Deep.Slices
import Derived.DataElems
import Derived.ChangeKeysEq
import Derived.BigQuiet
import Derived.RangeFuncNested
import Derived.RangeFuncBound
import Derived.RangeFuncCalls
import Derived.RangeFuncLeaves
import Derived.RangeFuncBox
import Derived.Shelf.Abstract
import Derived.Shelf.RegionOpen
import Derived.WalkKit
import Derived.OwnWalkIn
import Derived.TacticsInMore
import Derived.LoopNIn
import Derived.LoopIn
import Derived.WalkMore
namespace Go.Proofs.YtlfpkileblmhoaaGreatDoor
open Go.RowKit Go.Shelf
set_option linter.unusedVariables false

/-- A section's numbers. -/
structure Sec where
  k : Int
  s0 : Int
  q0 : Int
  s1 : Int
  q1 : Int
  s2 : Int
  q2 : Int
  s3 : Int
  q3 : Int
  c0 : Int
  c1 : Int
def Sec.tup (s : Sec) : List Int := [s.k, s.s0, s.q0, s.s1, s.q1, s.s2, s.q2, s.s3, s.q3, s.c0, s.c1]
theorem Sec.tup_inj {a b : Sec} (h : a.tup = b.tup) : a = b := by
  cases a; cases b
  simp only [Sec.tup, List.cons.injEq] at h
  obtain ⟨rfl, rfl, rfl, rfl, rfl, rfl, rfl, rfl, rfl, rfl, rfl, _⟩ := h
  rfl
instance : DecidableEq Sec := fun a b => decidable_of_iff (a.tup = b.tup) ⟨Sec.tup_inj, fun h => by rw [h]⟩
abbrev Sec.cells (s : Sec) : List Value := [.int .u8 s.k, .int .i64 s.s0, .int .i64 s.q0, .int .i64 s.s1, .int .i64 s.q1, .int .i64 s.s2, .int .i64 s.q2, .int .i64 s.s3, .int .i64 s.q3, .int .i64 s.c0, .int .i64 s.c1]
abbrev Sec.val (s : Sec) : Value := secV s.k s.s0 s.q0 s.s1 s.q1 s.s2 s.q2 s.s3 s.q3 s.c0 s.c1
/-- Ports, steps, flanks. -/
abbrev prtCells (p : Int × Int) : List Value := [.int .i64 p.1, .int .i64 p.2]
abbrev prtV (s q : Int) : Value := .agg #[.int .i64 s, .int .i64 q]
abbrev stpCells (p : Int × Int × Int) : List Value := [.int .i64 p.1, .int .i64 p.2.1, .int .i64 p.2.2]
abbrev stpV (s i o : Int) : Value := .agg #[.int .i64 s, .int .i64 i, .int .i64 o]
abbrev flkCells (f : Int × Int × Int × Int) : List Value := [.int .i64 f.1, .int .i64 f.2.1, .int .i64 f.2.2.1, .int .i64 f.2.2.2]
abbrev flkV (a b c d : Int) : Value := .agg #[.int .i64 a, .int .i64 b, .int .i64 c, .int .i64 d]
/-- An exit, and where its overlap lies. -/
structure Exm where
  s : Int
  q : Int
  A : Option Addr
  c : Nat
  over : List (Int × Int × Int)
abbrev Exm.cells (x : Exm) : List Value := [.int .i64 x.s, .int .i64 x.q, .slice x.A x.over.length x.c]
abbrev Exm.val (x : Exm) : Value := .agg #[.int .i64 x.s, .int .i64 x.q, .slice x.A x.over.length x.c]
/-- What is told of an exit. -/
def Exm.pure (x : Exm) : Int × Int × List (Int × Int × Int) := (x.s, x.q, x.over)
/-- A layout, and where its rows lie. -/
structure Lay where
  secs : List Sec
  As : Option Addr
  cs : Nat
  sigs : List (Int × Int)
  Ag : Option Addr
  cg : Nat
  exits : List Exm
  Ae : Option Addr
  ce : Nat
  flanks : List (Int × Int × Int × Int)
  Af : Option Addr
  cf : Nat
  t0 : Int
  t1 : Int
  t2 : Int
  t3 : Int
  t4 : Int
  t5 : Int
  t6 : Int
abbrev Lay.cells (l : Lay) : List Value := [.slice l.As l.secs.length l.cs, .slice l.Ag l.sigs.length l.cg, .slice l.Ae l.exits.length l.ce, .slice l.Af l.flanks.length l.cf,
  .int .i64 l.t0, .int .i64 l.t1, .int .i64 l.t2, .int .i64 l.t3, .int .i64 l.t4, .int .i64 l.t5, .int .i64 l.t6]
abbrev Lay.val (l : Lay) : Value := .agg #[.slice l.As l.secs.length l.cs, .slice l.Ag l.sigs.length l.cg, .slice l.Ae l.exits.length l.ce, .slice l.Af l.flanks.length l.cf,
  .int .i64 l.t0, .int .i64 l.t1, .int .i64 l.t2, .int .i64 l.t3, .int .i64 l.t4, .int .i64 l.t5, .int .i64 l.t6]
/-- Its rows lie there. -/
structure Lies (l : Lay) (w : World) : Prop where
  secs : Row w w.heap.size l.As (l.secs.flatMap Sec.cells)
  sigs : Row w w.heap.size l.Ag (l.sigs.flatMap prtCells)
  exits : Row w w.heap.size l.Ae (l.exits.flatMap Exm.cells)
  flanks : Row w w.heap.size l.Af (l.flanks.flatMap flkCells)
  overs : ∀ x ∈ l.exits, Row w w.heap.size x.A (x.over.flatMap stpCells)
  kinds : ∀ s ∈ l.secs, 0 ≤ s.k ∧ s.k ≤ 255
  nS : (l.secs.length : Int) ≤ 9223372036854775807
  nG : (l.sigs.length : Int) ≤ 9223372036854775807
  nE : (l.exits.length : Int) ≤ 9223372036854775807
  nF : (l.flanks.length : Int) ≤ 9223372036854775807
  nO : ∀ x ∈ l.exits, (x.over.length : Int) ≤ 9223372036854775807
theorem Lies.closed (l : Lay) : Closed (Lies l) := fun w w' h hb => ⟨h.secs.on hb, h.sigs.on hb, h.exits.on hb, h.flanks.on hb, fun x hx => (h.overs x hx).on hb, h.kinds, h.nS, h.nG, h.nE, h.nF, h.nO⟩

theorem flat_at {α : Type} (f : α → List Value) (n : Nat) (hf : ∀ x, (f x).length = n) : ∀ (l : List α) (i : Nat) (x : α) (k : Nat) (v : Value), l[i]? = some x → (f x)[k]? = some v → (l.flatMap f)[i * n + k]? = some v
  | [], i, x, k, v, h, _ => by simp at h
  | y :: l, 0, x, k, v, h, hk => by
    simp only [List.getElem?_cons_zero, Option.some.injEq] at h
    subst h
    rw [List.flatMap_cons, Nat.zero_mul, Nat.zero_add, List.getElem?_append_left (List.getElem?_eq_some_iff.1 hk).1]
    exact hk
  | y :: l, i + 1, x, k, v, h, hk => by
    have e : (i + 1) * n + k = (f y).length + (i * n + k) := by rw [hf, Nat.add_mul, Nat.one_mul]; omega
    rw [List.flatMap_cons, e, List.getElem?_append_right (Nat.le_add_right _ _), Nat.add_sub_cancel_left]
    exact flat_at f n hf l i x k v (by simpa using h) hk
/-- A row of structs, one of them: its cells. -/
theorem Row.nth {α : Type} {f : α → List Value} {n : Nat} (hf : ∀ x, (f x).length = n) (hn : 0 < n) {w : World} {B : Nat} {A : Option Addr} {l : List α} (h : Row w B A (l.flatMap f)) {i : Nat} {x : α} (hi : l[i]? = some x) :
    ∃ b off, A = some ⟨b, off, none⟩ ∧ b < B ∧ (∀ (j : Nat) (y : α) (v : Value), l[j]? = some y → (f y)[0]? = some v → w.cell? ⟨b, off + j * n, none⟩ = some v) ∧
      ∀ (j : Nat) (y : α) (k : Nat) (v : Value), l[j]? = some y → (f y)[k]? = some v → w.cell? ⟨b, off + j * n + k, none⟩ = some v := by
  have h0 : ∃ v, (f x)[0]? = some v := ⟨_, List.getElem?_eq_getElem (by rw [hf]; exact hn)⟩
  obtain ⟨v, hv⟩ := h0
  have hlt := (List.getElem?_eq_some_iff.1 (flat_at f n hf l i x 0 v hi hv)).1
  obtain ⟨b, off, e, hb, hc⟩ := h (by omega)
  have hc' : ∀ (j : Nat) (y : α) (k : Nat) (v : Value), l[j]? = some y → (f y)[k]? = some v → w.cell? ⟨b, off + j * n + k, none⟩ = some v := fun j y k v hj hk => by
    have := hc _ _ (flat_at f n hf l j y k v hj hk)
    rwa [← Nat.add_assoc] at this
  exact ⟨b, off, e, hb, fun j y v hj hk => hc' j y 0 v hj hk, hc'⟩

/-- One block, two blocks, that a call begins with: kept besides. -/
theorem keep_box {P : World → Prop} (hP : Closed P) {w : World} (h : P w) (t : TypeId) (vs : List Value) :
    ∃ Q : World → Prop, Hid (Closed Q) ∧ Hid (∀ W, Q W → P W) ∧ Hid (∀ W, Q W → Whole W w.heap.size t vs) ∧ Q (w.alloc (.cells vs.toArray t)) :=
  ⟨fun W => P W ∧ Whole W w.heap.size t vs, Lib.hid (hP.and (Closed.whole _ t vs)), Lib.hid (fun _ h => h.1), Lib.hid (fun _ h => h.2), hP _ _ h (below1 w _), Whole.new w t vs⟩
theorem keep_box2 {P : World → Prop} (hP : Closed P) {w : World} (h : P w) (t t' : TypeId) (vs us : List Value) :
    ∃ Q : World → Prop, Hid (Closed Q) ∧ Hid (∀ W, Q W → P W) ∧ Hid (∀ W, Q W → Whole W w.heap.size t vs) ∧ Hid (∀ W, Q W → Whole W (w.heap.size + 1) t' us) ∧ Q ((w.alloc (.cells vs.toArray t)).alloc (.cells us.toArray t')) :=
  ⟨fun W => (P W ∧ Whole W w.heap.size t vs) ∧ Whole W (w.heap.size + 1) t' us, Lib.hid ((hP.and (Closed.whole _ t vs)).and (Closed.whole _ t' us)), Lib.hid (fun _ h => h.1.1), Lib.hid (fun _ h => h.1.2), Lib.hid (fun _ h => h.2),
   ⟨hP _ _ h (below2 w _ _), (Whole.new w t vs).alloc _⟩, Whole.new_at _ t' us _ (by simp)⟩
theorem Sec.len (s : Sec) : s.cells.length = 11 := rfl
end Go.Proofs.YtlfpkileblmhoaaGreatDoor
namespace Go.Proofs.YtlfpkileblmhoaaGreatDoor
open Go.RowKit Go.Shelf
set_option linter.unusedVariables false
set_option linter.unusedSimpArgs false

/-- Is n from a to b? -/
def withinA (n a b : Int) : Bool := decide (a ≤ n) && decide (n ≤ b)
theorem withinA_iff {n a b : Int} : withinA n a b = true ↔ a ≤ n ∧ n ≤ b := by unfold withinA; rw [Bool.and_eq_true, decide_eq_true_eq, decide_eq_true_eq]
theorem withinL_P {P : World → Prop} {w : World} (n a b : Int) {r : Bool} (hr : withinA n a b = r) (h : P w) : Calls Tryz.prog 76 #[.int .i64 n, .int .i64 a, .int .i64 b] w fun e w' => e = .returned (.bool r) ∧ P w' := by
  subst hr
  by_cases h1 : a ≤ n
  · go_enter Tryz.func76, Tryz.ntmps76
    go_wp2_with fail
    go_ret
    exact ⟨ret_bool (by unfold withinA; simp [h1]), h⟩
  · have h' : decide (a ≤ n) = false := by simpa using h1
    go_enter Tryz.func76, Tryz.ntmps76
    go_wp2_with fail
    go_ret
    exact ⟨ret_bool (by unfold withinA; rw [h']; rfl), h⟩

/-- What the kinds have. -/
def pK (k : Int) : Int := if k = 1 then 2 else if k = 2 then 3 else if k = 3 then 4 else 0
def nK (k : Int) : Int := if k = 1 then 1 else if k = 2 then 2 else if k = 3 then 2 else 0
def bK (k : Int) : Int := if k = 1 then 1 else if k = 2 then 1 else if k = 3 then 1 else 0
def cK (k : Int) : Int := if k = 3 then 2 else 0
def dK (k : Int) : Int := if k = 2 then 2 else if k = 3 then 3 else 0
theorem shapeK (k : Int) : IsShape k (pK k) (nK k) 0 (bK k) (cK k) (dK k) := by
  unfold IsShape pK nK bK cK dK
  by_cases h1 : k = 1
  · subst h1; decide
  · by_cases h2 : k = 2
    · subst h2; decide
    · by_cases h3 : k = 3
      · subst h3; decide
      · exact .inr (.inr (.inr ⟨by omega, by simp [h1, h2, h3], by simp [h1, h2, h3], rfl, by simp [h1, h2, h3], by simp [h3], by simp [h2, h3]⟩))
def wayK (k i o : Int) : Int := wayV (nK k) 0 (bK k) (cK k) (dK k) i o
def goesK (k i o : Int) : Bool := goesV (nK k) 0 (bK k) (cK k) (dK k) i o
def rightK (s : Sec) : Bool := rightV (pK s.k) (nK s.k) s.s0 s.q0 s.s1 s.q1 s.s2 s.q2 s.s3 s.q3 s.c0 s.c1

/-- The kind of the section of that number; 0 where none is. -/
def kindV (l : Lay) (s : Int) : Int := if 0 ≤ s then ((l.secs[s.toNat]?).map Sec.k).getD 0 else 0
theorem kindV_at {l : Lay} {j : Nat} {x : Sec} (h : l.secs[j]? = some x) : kindV l j = x.k := by
  unfold kindV
  rw [if_pos (by omega), Int.toNat_natCast, h]
  rfl
theorem kindV_no {l : Lay} {s : Int} (h : ¬ (0 ≤ s ∧ s < l.secs.length)) : kindV l s = 0 := by
  unfold kindV
  by_cases h0 : 0 ≤ s
  · rw [if_pos h0, List.getElem?_eq_none (by omega)]; rfl
  · rw [if_neg h0]
theorem kindV_some {l : Lay} {s : Int} (h : kindV l s ≠ 0) : ∃ (j : Nat) (x : Sec), s = j ∧ l.secs[j]? = some x ∧ kindV l s = x.k := by
  by_cases h0 : 0 ≤ s ∧ s < l.secs.length
  · obtain ⟨j, rfl⟩ : ∃ j : Nat, s = j := ⟨s.toNat, by omega⟩
    exact ⟨j, l.secs[j]'(by omega), rfl, List.getElem?_eq_getElem (by omega), kindV_at (List.getElem?_eq_getElem (by omega))⟩
  · exact absurd (kindV_no h0) h
theorem kindV_range {l : Lay} {w : World} (hl : Lies l w) (s : Int) : 0 ≤ kindV l s ∧ kindV l s ≤ 255 := by
  by_cases h : kindV l s = 0
  · rw [h]; decide
  · obtain ⟨j, x, _, hx, e⟩ := kindV_some h
    rw [e]
    exact hl.kinds x (List.mem_of_getElem? hx)
theorem wrap_pred {n : Nat} (h : (n : Int) ≤ 9223372036854775807) : wrap64 ((n : Int) - 1) = n - 1 := by
  unfold wrap64; omega
/-- A port is there; the section of it; the way of a step. -/
def thereV (l : Lay) (s p : Int) : Bool := withinA p 0 (pK (kindV l s) - 1)
def stepV (l : Lay) (s i o : Int) : Bool := goesK (kindV l s) i o
theorem goesK_no (i o : Int) : goesK 0 i o = false := by rfl
theorem thereV_some {l : Lay} {s p : Int} (h : thereV l s p = true) : ∃ (j : Nat) (x : Sec), s = j ∧ l.secs[j]? = some x := by
  by_cases h0 : kindV l s = 0
  · unfold thereV at h
    rw [h0, withinA_iff] at h
    have : pK 0 = 0 := rfl
    omega
  · obtain ⟨j, x, e, hx, _⟩ := kindV_some h0
    exact ⟨j, x, e, hx⟩

set_option maxHeartbeats 1000000 in
theorem kind_P {P : World → Prop} {w : World} (hP : Closed P) {l : Lay} (hL : ∀ w, P w → Lies l w) (s : Int) {k : Int} (hk : kindV l s = k) (h : P w) : Calls Tryz.prog 55 #[l.val, .int .i64 s] w fun e w' => e = .returned (.int .u8 k) ∧ P w' := by
  obtain ⟨Q, HQ, HQp, HQl, hq⟩ := keep_box hP h 29 l.cells
  have hwr := wrap_pred (hL _ h).nS
  by_cases hs : 0 ≤ s ∧ s < l.secs.length
  · obtain ⟨j, rfl⟩ : ∃ j : Nat, s = j := ⟨s.toNat, by omega⟩
    have hj : j < l.secs.length := by omega
    obtain ⟨x, hx⟩ : ∃ x, l.secs[j]? = some x := ⟨_, List.getElem?_eq_getElem hj⟩
    have hw : withinA (j : Int) 0 (wrap64 ((l.secs.length : Int) - 1)) = true := by rw [hwr]; unfold withinA; simp; omega
    have HX := Lib.hid hx
    obtain rfl := hk.symm.trans (kindV_at hx)
    clear hs hk hwr hx
    have HW := Lib.hid hw
    clear hw
    go_enter Tryz.func55, Tryz.ntmps55
    go_wp2_with fail
    refine (withinL_P _ _ _ HW.out hq).mono ?_
    rintro e w1 ⟨rfl, hq⟩
    obtain ⟨b, off, hA, hb, hc0, hc⟩ := (hL _ (HQp.out _ hq)).secs.nth Sec.len (by omega) HX.out
    have c0 := hc0 j x _ HX.out rfl
    clear hc0 hc
    have x0 := (HQl.out _ hq).cell_at 0 rfl
    have hlt : (j : Int) < l.secs.length := by omega
    go_wp2_with fail
    go_ret
    exact ⟨rfl, HQp.out _ hq⟩
  · have hw : withinA s 0 (wrap64 ((l.secs.length : Int) - 1)) = false := by rw [hwr]; unfold withinA; rw [Bool.and_eq_false_iff, decide_eq_false_iff_not, decide_eq_false_iff_not]; omega
    obtain rfl := hk.symm.trans (kindV_no hs)
    have HW := Lib.hid hw
    clear hw hk hs hwr
    go_enter Tryz.func55, Tryz.ntmps55
    go_wp2_with fail
    refine (withinL_P _ _ _ HW.out hq).mono ?_
    rintro e w1 ⟨rfl, hq⟩
    go_wp2_with fail
    go_ret
    exact ⟨rfl, HQp.out _ hq⟩
end Go.Proofs.YtlfpkileblmhoaaGreatDoor
namespace Go.Proofs.YtlfpkileblmhoaaGreatDoor
set_option linter.unusedVariables false

theorem fits_num {k : IntKind} {ls : List Leaf} {cs : List Value} (h : Fits (.num k :: ls) cs) : ∃ (n : Int) (vs : List Value), cs = .int k n :: vs ∧ (Lit.int k n).wf = true ∧ Fits ls vs := by
  cases cs with
  | nil => exact h.elim
  | cons v vs =>
    obtain ⟨⟨n, rfl, hw⟩, h2⟩ := h
    exact ⟨n, vs, rfl, hw, h2⟩
theorem fits_nil {cs : List Value} (h : Fits [] cs) : cs = [] := by
  cases cs with
  | nil => rfl
  | cons v vs => exact h.elim
def secL : List Leaf := [.num .u8, .num .i64, .num .i64, .num .i64, .num .i64, .num .i64, .num .i64, .num .i64, .num .i64, .num .i64, .num .i64]
def stepL : List Leaf := [.num .i64, .num .i64, .num .i64]
def portL : List Leaf := [.num .i64, .num .i64]
theorem sec_of {cs : List Value} (h : Fits secL cs) : ∃ k a b c d e f g i j l : Int, cs = [.int .u8 k, .int .i64 a, .int .i64 b, .int .i64 c, .int .i64 d, .int .i64 e, .int .i64 f, .int .i64 g, .int .i64 i, .int .i64 j, .int .i64 l] ∧ (0 ≤ k ∧ k ≤ 255) := by
  unfold secL at h
  obtain ⟨k, cs, rfl, w_k, h⟩ := fits_num h
  obtain ⟨a, cs, rfl, w_a, h⟩ := fits_num h
  obtain ⟨b, cs, rfl, w_b, h⟩ := fits_num h
  obtain ⟨c, cs, rfl, w_c, h⟩ := fits_num h
  obtain ⟨d, cs, rfl, w_d, h⟩ := fits_num h
  obtain ⟨e, cs, rfl, w_e, h⟩ := fits_num h
  obtain ⟨f, cs, rfl, w_f, h⟩ := fits_num h
  obtain ⟨g, cs, rfl, w_g, h⟩ := fits_num h
  obtain ⟨i, cs, rfl, w_i, h⟩ := fits_num h
  obtain ⟨j, cs, rfl, w_j, h⟩ := fits_num h
  obtain ⟨l, cs, rfl, w_l, h⟩ := fits_num h
  obtain rfl := fits_nil h
  exact ⟨k, a, b, c, d, e, f, g, i, j, l, rfl, (Lit.wf_int_iff .u8 k).1 w_k⟩
theorem step_of {cs : List Value} (h : Fits stepL cs) : ∃ a b c : Int, cs = [.int .i64 a, .int .i64 b, .int .i64 c] := by
  unfold stepL at h
  obtain ⟨a, cs, rfl, w_a, h⟩ := fits_num h
  obtain ⟨b, cs, rfl, w_b, h⟩ := fits_num h
  obtain ⟨c, cs, rfl, w_c, h⟩ := fits_num h
  obtain rfl := fits_nil h
  exact ⟨a, b, c, rfl⟩
theorem port_of {cs : List Value} (h : Fits portL cs) : ∃ a b : Int, cs = [.int .i64 a, .int .i64 b] := by
  unfold portL at h
  obtain ⟨a, cs, rfl, w_a, h⟩ := fits_num h
  obtain ⟨b, cs, rfl, w_b, h⟩ := fits_num h
  obtain rfl := fits_nil h
  exact ⟨a, b, rfl⟩
end Go.Proofs.YtlfpkileblmhoaaGreatDoor
namespace Go.Proofs.YtlfpkileblmhoaaGreatDoor
open Go.ChangeShapes Go.WideShapes Go.ChangeAt Go.RowKit Go.Deep
open Go.Joins Go.Shelf
set_option linter.unusedVariables false
set_option maxRecDepth 100000

theorem list_choose {α : Type} {p : Nat → α → Prop} : ∀ (n : Nat), (∀ i, i < n → ∃ x, p i x) → ∃ l : List α, l.length = n ∧ ∀ i x, l[i]? = some x → p i x
  | 0, _ => ⟨[], rfl, fun i x h => by simp at h⟩
  | n + 1, h => by
    obtain ⟨l, hl, hp⟩ := list_choose n (fun i hi => h i (by omega))
    obtain ⟨x, hx⟩ := h n (by omega)
    refine ⟨l ++ [x], by simp [hl], fun i y hy => ?_⟩
    by_cases hi : i < l.length
    · rw [List.getElem?_append_left hi] at hy; exact hp i y hy
    · have hlt := (List.getElem?_eq_some_iff.1 hy).1
      simp at hlt
      obtain rfl : i = l.length := by omega
      rw [List.getElem?_append_right (Nat.le_refl _), Nat.sub_self] at hy
      simp at hy
      subst hy
      rw [hl]
      exact hx
theorem flat_inv {α : Type} {f : α → List Value} {c : Nat} (hf : ∀ x, (f x).length = c) : ∀ (l : List α) (j : Nat) (u : Value), (l.flatMap f)[j]? = some u → ∃ i x k, l[i]? = some x ∧ (f x)[k]? = some u ∧ j = i * c + k
  | [], j, u, h => by simp at h
  | y :: l, j, u, h => by
    rw [List.flatMap_cons] at h
    by_cases hj : j < (f y).length
    · rw [List.getElem?_append_left hj] at h
      exact ⟨0, y, j, rfl, h, by omega⟩
    · rw [List.getElem?_append_right (by omega)] at h
      obtain ⟨i, x, k, h1, h2, h3⟩ := flat_inv hf l _ u h
      refine ⟨i + 1, x, k, by simpa using h1, h2, ?_⟩
      rw [hf] at h3 hj
      rw [Nat.add_mul]
      omega
section
variable {H : Type} {enc : TypeId × Value → H} {w : World} {base : Nat} {spare : Nat → Bool} {held : Bool}
/-- A row of structs. -/
theorem row_open {α : Type} {f : α → List Value} {G : α → Prop} {t e : TypeId} {c : Nat} (hf : ∀ x, (f x).length = c) (hc0 : 0 < c) (ht : Tryz.prog.underlying t = some (.slice e)) (hc : Tryz.prog.cellsOf e = c)
    (hel : ∀ n cs x, DataW.trod enc Tryz.prog w base spare held n e cs = some x → ∃ a : α, cs = f a ∧ G a) {fuel : Nat} {v : Value} {y : DataW H × List MemPlace} (h : DataW.trod enc Tryz.prog w base spare held fuel t [v] = some y) :
    ∃ (A : Option Addr) (cap : Nat) (l : List α), v = .slice A l.length cap ∧ Row w w.heap.size A (l.flatMap f) ∧ (∀ a ∈ l, G a) ∧ (l.length : Int) ≤ 9223372036854775807 := by
  rcases open_slice ht h with ⟨hcs, _⟩ | ⟨a, len, cap, m, n, D, Pl, hcs, hb, hl, hm, hmm, _, hx⟩
  · simp at hcs
    subst hcs
    exact ⟨none, 0, [], rfl, Row.nil _ _ _, by simp, by simp⟩
  · simp at hcs
    subst hcs
    have hlm : len ≤ m := by rw [hmm]; split <;> omega
    obtain ⟨l, hll, hp⟩ := list_choose (α := α) (p := fun i x => w.cells? base (a.add (i * c)) c = some (f x) ∧ G x) len (fun i hi => by
      obtain ⟨cs', h1, h2⟩ := hx i (by omega)
      rw [hc] at h1
      obtain ⟨x, rfl, hg⟩ := hel _ _ _ h2
      exact ⟨x, h1, hg⟩)
    refine ⟨some a, cap, l, by rw [hll], row_of_cells ?_, fun x hx => ?_, by rw [hll]; unfold maxLen at hm; omega⟩
    · intro j u hu
      obtain ⟨i, x, k, h1, h2, rfl⟩ := flat_inv hf l j u hu
      obtain ⟨_, _, hcell⟩ := World.cells?_some (hp i x h1).1
      have hk : k < c := by rw [← hf x]; exact (List.getElem?_eq_some_iff.1 h2).1
      have := hcell k hk
      rw [Addr.add_add] at this
      rw [this]
      exact h2
    · obtain ⟨i, hi, e⟩ := List.getElem_of_mem hx
      exact (hp i x (by rw [List.getElem?_eq_getElem hi, e])).2

theorem plain_el {n : Nat} {t : TypeId} {ls : List Leaf} {cs : List Value} {x : DataW H × List MemPlace} (m : Nat) (hl : leaves Tryz.prog m t = some ls) (h : DataW.trod enc Tryz.prog w base spare held n t cs = some x) : Fits ls cs := (plain_open m t ls n cs x hl h).1
theorem sec_el {n : Nat} {cs : List Value} {x : DataW H × List MemPlace} (h : DataW.trod enc Tryz.prog w base spare held n 56 cs = some x) : ∃ s : Sec, cs = s.cells ∧ 0 ≤ s.k ∧ s.k ≤ 255 := by
  obtain ⟨k, a, b, c, d, e, f, g, i, j, l, rfl, hk⟩ := sec_of (plain_el 8 (ls := secL) (by kernel_rfl) h)
  exact ⟨⟨k, a, b, c, d, e, f, g, i, j, l⟩, rfl, hk⟩
theorem sig_el {n : Nat} {cs : List Value} {x : DataW H × List MemPlace} (h : DataW.trod enc Tryz.prog w base spare held n 48 cs = some x) : ∃ s : Int × Int, cs = prtCells s ∧ True := by
  obtain ⟨a, b, rfl⟩ := port_of (plain_el 8 (ls := portL) (by kernel_rfl) h)
  exact ⟨(a, b), rfl, trivial⟩
theorem stp_el {n : Nat} {cs : List Value} {x : DataW H × List MemPlace} (h : DataW.trod enc Tryz.prog w base spare held n 50 cs = some x) : ∃ s : Int × Int × Int, cs = stpCells s ∧ True := by
  obtain ⟨a, b, c, rfl⟩ := step_of (plain_el 8 (ls := stepL) (by kernel_rfl) h)
  exact ⟨(a, b, c), rfl, trivial⟩
theorem flk_el {n : Nat} {cs : List Value} {x : DataW H × List MemPlace} (h : DataW.trod enc Tryz.prog w base spare held n 114 cs = some x) : ∃ s : Int × Int × Int × Int, cs = flkCells s ∧ True := by
  have h := plain_el 8 (ls := [.num .i64, .num .i64, .num .i64, .num .i64]) (by kernel_rfl) h
  obtain ⟨a, cs, rfl, _, h⟩ := fits_num h
  obtain ⟨b, cs, rfl, _, h⟩ := fits_num h
  obtain ⟨c, cs, rfl, _, h⟩ := fits_num h
  obtain ⟨d, cs, rfl, _, h⟩ := fits_num h
  obtain rfl := fits_nil h
  exact ⟨(a, b, c, d), rfl, trivial⟩
theorem field_of {P : Program} {t : TypeId} {i ty off : Nat} (h : ((P.fieldsOf t)[i]?).map (fun f => (f.type, f.offset)) = some (ty, off)) : ∃ f : Field, (P.fieldsOf t)[i]? = some f ∧ f.type = ty ∧ f.offset = off := by
  cases hf : (P.fieldsOf t)[i]? with
  | none => rw [hf] at h; cases h
  | some f => rw [hf] at h; simp at h; exact ⟨f, rfl, h.1, h.2⟩
theorem ex_el {n : Nat} {cs : List Value} {x : DataW H × List MemPlace} (h : DataW.trod enc Tryz.prog w base spare held n 59 cs = some x) :
    ∃ s : Exm, cs = s.cells ∧ Row w w.heap.size s.A (s.over.flatMap stpCells) ∧ (s.over.length : Int) ≤ 9223372036854775807 := by
  obtain ⟨xs, m, _, rfl, hlen, hxs, hf⟩ := DataW.trod_struct Tryz.underlying59 h
  have hcl : Tryz.prog.cellsOf 59 = 3 := by kernel_rfl
  rw [hcl] at hlen
  obtain ⟨f0, g0, t0, o0⟩ := field_of (P := Tryz.prog) (t := 59) (i := 0) (ty := 46) (off := 0) (by kernel_rfl)
  obtain ⟨f1, g1, t1, o1⟩ := field_of (P := Tryz.prog) (t := 59) (i := 1) (ty := 30) (off := 2) (by kernel_rfl)
  have hsz : xs.length = 2 := by rw [hxs]; kernel_rfl
  match cs, hlen, xs, hsz with
  | [a0, a1, a2], _, [y0, y1], _ =>
    have h0 := hf 0 f0 g0
    have h1 := hf 1 f1 g1
    rw [t0, o0, show Tryz.prog.cellsOf 46 = 2 by kernel_rfl] at h0
    rw [t1, o1, show Tryz.prog.cellsOf 30 = 1 by kernel_rfl] at h1
    obtain ⟨a, b, e⟩ := port_of (plain_el 8 (ls := portL) (by kernel_rfl) (x := y0) h0)
    simp at e
    obtain ⟨rfl, rfl⟩ := e
    obtain ⟨A, cap, l, hv, hr, _, hl⟩ := row_open (f := stpCells) (G := fun _ => True) (c := 3) (fun _ => rfl) (by omega) Tryz.underlying30 (by kernel_rfl) (fun n cs x h => stp_el h) (v := a2) (y := y1) h1
    subst hv
    exact ⟨⟨a, b, A, cap, l⟩, rfl, hr, hl⟩
theorem lay_open {r : Reach} {b0 : Nat} {v : Value} {d : DataW H} {p : List MemPlace} (hv : Value.okWide Tryz.prog w r b0 29 v) (h : DataW.Trod enc Tryz.prog w base spare held 29 v d p) : ∃ l : Lay, v = l.val ∧ Lies l w := by
  obtain ⟨ca, rfl, _⟩ := okWide_struct Tryz.underlying29 hv
  obtain ⟨fuel, hf⟩ := h
  obtain ⟨xs, m, _, hx, hlen, hxs, hf⟩ := DataW.trod_struct Tryz.underlying29 hf
  have hcl : Tryz.prog.cellsOf 29 = 11 := by kernel_rfl
  rw [hcl] at hlen
  obtain ⟨f0, g0, t0, o0⟩ := field_of (P := Tryz.prog) (t := 29) (i := 0) (ty := 22) (off := 0) (by kernel_rfl)
  obtain ⟨f1, g1, t1, o1⟩ := field_of (P := Tryz.prog) (t := 29) (i := 1) (ty := 23) (off := 1) (by kernel_rfl)
  obtain ⟨f2, g2, t2, o2⟩ := field_of (P := Tryz.prog) (t := 29) (i := 2) (ty := 24) (off := 2) (by kernel_rfl)
  obtain ⟨f3, g3, t3, o3⟩ := field_of (P := Tryz.prog) (t := 29) (i := 3) (ty := 25) (off := 3) (by kernel_rfl)
  obtain ⟨f4, g4, t4, o4⟩ := field_of (P := Tryz.prog) (t := 29) (i := 4) (ty := 27) (off := 4) (by kernel_rfl)
  have hsz : xs.length = 5 := by rw [hxs]; kernel_rfl
  have hcc : (Value.agg ca).cells.toList = ca.toList := rfl
  rw [hcc] at hlen hf
  obtain ⟨cs, hcs⟩ : ∃ cs, ca.toList = cs := ⟨_, rfl⟩
  obtain rfl : ca = cs.toArray := by rw [← hcs]
  rw [hcs] at hlen hf
  match cs, hlen, xs, hsz with
  | [a0, a1, a2, a3, a4, a5, a6, a7, a8, a9, a10], _, [y0, y1, y2, y3, y4], _ =>
    have h0 := hf 0 f0 g0
    have h1 := hf 1 f1 g1
    have h2 := hf 2 f2 g2
    have h3 := hf 3 f3 g3
    have h4 := hf 4 f4 g4
    rw [t0, o0, show Tryz.prog.cellsOf 22 = 1 by kernel_rfl] at h0
    rw [t1, o1, show Tryz.prog.cellsOf 23 = 1 by kernel_rfl] at h1
    rw [t2, o2, show Tryz.prog.cellsOf 24 = 1 by kernel_rfl] at h2
    rw [t3, o3, show Tryz.prog.cellsOf 25 = 1 by kernel_rfl] at h3
    rw [t4, o4, show Tryz.prog.cellsOf 27 = 7 by kernel_rfl] at h4
    obtain ⟨As, cs, secs, rfl, hrS, hkS, hnS⟩ := row_open (f := Sec.cells) (G := fun s : Sec => 0 ≤ s.k ∧ s.k ≤ 255) (c := 11) Sec.len (by omega) Tryz.underlying22 (by kernel_rfl) (fun n cs x h => sec_el h) (v := a0) (y := y0) h0
    obtain ⟨Ag, cg, sigs, rfl, hrG, _, hnG⟩ := row_open (f := prtCells) (G := fun _ => True) (c := 2) (fun _ => rfl) (by omega) Tryz.underlying23 (by kernel_rfl) (fun n cs x h => sig_el h) (v := a1) (y := y1) h1
    obtain ⟨Ae, ce, exits, rfl, hrE, hkE, hnE⟩ := row_open (f := Exm.cells) (G := fun s : Exm => Row w w.heap.size s.A (s.over.flatMap stpCells) ∧ (s.over.length : Int) ≤ 9223372036854775807) (c := 3) (fun _ => rfl) (by omega) Tryz.underlying24 (by kernel_rfl) (fun n cs x h => ex_el h) (v := a2) (y := y2) h2
    obtain ⟨Af, cf, flanks, rfl, hrF, _, hnF⟩ := row_open (f := flkCells) (G := fun _ => True) (c := 4) (fun _ => rfl) (by omega) Tryz.underlying25 (by kernel_rfl) (fun n cs x h => flk_el h) (v := a3) (y := y3) h3
    have h4 := plain_el 8 (ls := [.num .i64, .num .i64, .num .i64, .num .i64, .num .i64, .num .i64, .num .i64]) (by kernel_rfl) (x := y4) h4
    obtain ⟨u0, c0, e0, _, h4⟩ := fits_num h4
    obtain ⟨u1, c1, e1, _, h4⟩ := fits_num h4
    obtain ⟨u2, c2, e2, _, h4⟩ := fits_num h4
    obtain ⟨u3, c3, e3, _, h4⟩ := fits_num h4
    obtain ⟨u4, c4, e4, _, h4⟩ := fits_num h4
    obtain ⟨u5, c5, e5, _, h4⟩ := fits_num h4
    obtain ⟨u6, c6, e6, _, h4⟩ := fits_num h4
    obtain rfl := fits_nil h4
    subst e6 e5 e4 e3 e2 e1
    simp at e0
    obtain ⟨rfl, rfl, rfl, rfl, rfl, rfl, rfl⟩ := e0
    exact ⟨⟨secs, As, cs, sigs, Ag, cg, exits, Ae, ce, flanks, Af, cf, u0, u1, u2, u3, u4, u5, u6⟩, rfl, hrS, hrG, hrE, hrF, fun x hx => (hkE x hx).1, hkS, hnS, hnG, hnE, hnF, fun x hx => (hkE x hx).2⟩
end
end Go.Proofs.YtlfpkileblmhoaaGreatDoor
namespace Go.Proofs.YtlfpkileblmhoaaGreatDoor
open Go.RowKit Go.Shelf
set_option linter.unusedVariables false
set_option linter.unusedSimpArgs false

section
variable {P : World → Prop} {w : World}
theorem wrapI_in (n : Int) (h : -9223372036854775808 ≤ n ∧ n ≤ 9223372036854775807) : IntKind.i64.wrap n = n := by rw [IntKind.wrap_i64]; omega
theorem pK_pred (k : Int) : IntKind.i64.wrap (pK k - 1) = pK k - 1 := by
  refine wrapI_in _ ?_
  unfold pK; split <;> (try split) <;> (try split) <;> omega
theorem nK_pred (k : Int) : IntKind.i64.wrap (nK k - 1) = nK k - 1 := by
  refine wrapI_in _ ?_
  unfold nK; split <;> (try split) <;> (try split) <;> omega

set_option maxRecDepth 100000 in
set_option maxHeartbeats 4000000 in
theorem portThere_P (hP : Closed P) (hT : ∀ w, P w → Shapes w) {l : Lay} (hL : ∀ w, P w → Lies l w) (s p : Int) {r : Bool} (hr : thereV l s p = r) (h : P w) :
    Calls Tryz.prog 77 #[l.val, prtV s p] w fun e w' => e = .returned (.bool r) ∧ P w' := by
  obtain ⟨Q, HQ, HQp, HQl, HQv, hq⟩ := keep_box2 hP h 29 46 l.cells (prtCells (s, p))
  obtain ⟨k, hk⟩ : ∃ k, kindV l s = k := ⟨_, rfl⟩
  have hkr := kindV_range (hL _ h) s
  rw [hk] at hkr
  have hr2 : withinA p 0 (IntKind.i64.wrap (pK k - 1)) = r := by rw [pK_pred, ← hk]; exact hr
  have HK := Lib.hid (fun W hW => kind_P (P := Q) (w := W) HQ.out (fun W hW => hL _ (HQp.out _ hW)) s hk hW)
  have HPo := Lib.hid (fun W hW => ports_P (P := Q) (w := W) HQ.out (fun W hW => hT _ (HQp.out _ hW)) hkr.1 hkr.2 (shapeK k) hW)
  have HWi := Lib.hid (fun W hW => withinL_P (P := Q) (w := W) p 0 (IntKind.i64.wrap (pK k - 1)) hr2 hW)
  clear hk hkr hr2 hr
  have HS := Lib.hid (HQ.out.drew hq)
  clear hq
  generalize pK k = pk at *
  go_enter Tryz.func77, Tryz.ntmps77
  go_wp2_with fail
  refine region_steady (Q) 9 (by kernel_rfl) (by kernel_rfl) HS.out ?_
  simp only [List.take_succ_cons, List.take_zero, List.drop_succ_cons, List.drop_zero]
  repeat (first | (refine steady_skip (by rfl) ?_; simp only [Act.put, List.setIfInBounds_toArray, List.set_cons_zero, List.set_cons_succ]) | (refine steady_read _ (by rfl) (fun W hW => by (have m0 := HQl.out _ hW; have x0 := m0.cell_at 0 rfl; have x1 := m0.cell_at 1 rfl; have x2 := m0.cell_at 2 rfl; have x3 := m0.cell_at 3 rfl; have x4 := m0.cell_at 4 rfl; have x5 := m0.cell_at 5 rfl; have x6 := m0.cell_at 6 rfl; have x7 := m0.cell_at 7 rfl; have x8 := m0.cell_at 8 rfl; have x9 := m0.cell_at 9 rfl; have x10 := m0.cell_at 10 rfl; clear m0; have m1 := HQv.out _ hW; have v0 := m1.cell_at 0 rfl; have v1 := m1.cell_at 1 rfl; clear m1; go_simp; first | done | with_reducible rfl)) ?_; simp only [Act.put, List.setIfInBounds_toArray, List.set_cons_zero, List.set_cons_succ]) | (refine steady_call _ _ _ (by rfl) (fun W hW => by (have m0 := HQl.out _ hW; have x0 := m0.cell_at 0 rfl; have x1 := m0.cell_at 1 rfl; have x2 := m0.cell_at 2 rfl; have x3 := m0.cell_at 3 rfl; have x4 := m0.cell_at 4 rfl; have x5 := m0.cell_at 5 rfl; have x6 := m0.cell_at 6 rfl; have x7 := m0.cell_at 7 rfl; have x8 := m0.cell_at 8 rfl; have x9 := m0.cell_at 9 rfl; have x10 := m0.cell_at 10 rfl; clear m0; have m1 := HQv.out _ hW; have v0 := m1.cell_at 0 rfl; have v1 := m1.cell_at 1 rfl; clear m1; go_simp; first | done | rfl)) (fun W hW => HK.out _ hW) ?_; simp only [Act.put, List.setIfInBounds_toArray, List.set_cons_zero, List.set_cons_succ]) | (refine steady_call _ _ _ (by rfl) (fun W hW => by (have m0 := HQl.out _ hW; have x0 := m0.cell_at 0 rfl; have x1 := m0.cell_at 1 rfl; have x2 := m0.cell_at 2 rfl; have x3 := m0.cell_at 3 rfl; have x4 := m0.cell_at 4 rfl; have x5 := m0.cell_at 5 rfl; have x6 := m0.cell_at 6 rfl; have x7 := m0.cell_at 7 rfl; have x8 := m0.cell_at 8 rfl; have x9 := m0.cell_at 9 rfl; have x10 := m0.cell_at 10 rfl; clear m0; have m1 := HQv.out _ hW; have v0 := m1.cell_at 0 rfl; have v1 := m1.cell_at 1 rfl; clear m1; go_simp; first | done | rfl)) (fun W hW => HPo.out _ hW) ?_; simp only [Act.put, List.setIfInBounds_toArray, List.set_cons_zero, List.set_cons_succ]) | (refine steady_call _ _ _ (by rfl) (fun W hW => by (have m0 := HQl.out _ hW; have x0 := m0.cell_at 0 rfl; have x1 := m0.cell_at 1 rfl; have x2 := m0.cell_at 2 rfl; have x3 := m0.cell_at 3 rfl; have x4 := m0.cell_at 4 rfl; have x5 := m0.cell_at 5 rfl; have x6 := m0.cell_at 6 rfl; have x7 := m0.cell_at 7 rfl; have x8 := m0.cell_at 8 rfl; have x9 := m0.cell_at 9 rfl; have x10 := m0.cell_at 10 rfl; clear m0; have m1 := HQv.out _ hW; have v0 := m1.cell_at 0 rfl; have v1 := m1.cell_at 1 rfl; clear m1; go_simp; first | done | rfl)) (fun W hW => HWi.out _ hW) ?_; simp only [Act.put, List.setIfInBounds_toArray, List.set_cons_zero, List.set_cons_succ]))
  refine steady_nil (fun W hW => ?_)
  go_wp2_with fail
  go_ret
  exact ⟨rfl, HQp.out _ hW⟩

set_option maxRecDepth 100000 in
set_option maxHeartbeats 4000000 in
theorem step_P (hP : Closed P) (hT : ∀ w, P w → Shapes w) {l : Lay} (hL : ∀ w, P w → Lies l w) (s i o : Int) {v : Int} {r : Bool} (hv : wayK (kindV l s) i o = v) (hr : stepV l s i o = r) (h : P w) :
    Calls Tryz.prog 34 #[l.val, stpV s i o] w fun e w' => e = .returned (.tuple #[.int .i64 v, .bool r]) ∧ P w' := by
  obtain ⟨Q, HQ, HQp, HQl, HQv, hq⟩ := keep_box2 hP h 29 50 l.cells (stpCells (s, i, o))
  obtain ⟨k, hk⟩ : ∃ k, kindV l s = k := ⟨_, rfl⟩
  have hkr := kindV_range (hL _ h) s
  unfold stepV at hr
  rw [hk] at hkr hv hr
  have HK := Lib.hid (fun W hW => kind_P (P := Q) (w := W) HQ.out (fun W hW => hL _ (HQp.out _ hW)) s hk hW)
  have HWa := Lib.hid (fun W hW => way_P (P := Q) (w := W) HQ.out (fun W hW => hT _ (HQp.out _ hW)) k i o hkr.1 hkr.2 (shapeK k) hv hr hW)
  clear hk hkr hv hr
  have HS := Lib.hid (HQ.out.drew hq)
  clear hq
  go_enter Tryz.func34, Tryz.ntmps34
  go_wp2_with fail
  refine region_steady (Q) 11 (by kernel_rfl) (by kernel_rfl) HS.out ?_
  simp only [List.take_succ_cons, List.take_zero, List.drop_succ_cons, List.drop_zero]
  repeat (first | (refine steady_skip (by rfl) ?_; simp only [Act.put, List.setIfInBounds_toArray, List.set_cons_zero, List.set_cons_succ]) | (refine steady_read _ (by rfl) (fun W hW => by (have m0 := HQl.out _ hW; have x0 := m0.cell_at 0 rfl; have x1 := m0.cell_at 1 rfl; have x2 := m0.cell_at 2 rfl; have x3 := m0.cell_at 3 rfl; have x4 := m0.cell_at 4 rfl; have x5 := m0.cell_at 5 rfl; have x6 := m0.cell_at 6 rfl; have x7 := m0.cell_at 7 rfl; have x8 := m0.cell_at 8 rfl; have x9 := m0.cell_at 9 rfl; have x10 := m0.cell_at 10 rfl; clear m0; have m1 := HQv.out _ hW; have v0 := m1.cell_at 0 rfl; have v1 := m1.cell_at 1 rfl; have v2 := m1.cell_at 2 rfl; clear m1; go_simp; first | done | with_reducible rfl)) ?_; simp only [Act.put, List.setIfInBounds_toArray, List.set_cons_zero, List.set_cons_succ]) | (refine steady_call _ _ _ (by rfl) (fun W hW => by (have m0 := HQl.out _ hW; have x0 := m0.cell_at 0 rfl; have x1 := m0.cell_at 1 rfl; have x2 := m0.cell_at 2 rfl; have x3 := m0.cell_at 3 rfl; have x4 := m0.cell_at 4 rfl; have x5 := m0.cell_at 5 rfl; have x6 := m0.cell_at 6 rfl; have x7 := m0.cell_at 7 rfl; have x8 := m0.cell_at 8 rfl; have x9 := m0.cell_at 9 rfl; have x10 := m0.cell_at 10 rfl; clear m0; have m1 := HQv.out _ hW; have v0 := m1.cell_at 0 rfl; have v1 := m1.cell_at 1 rfl; have v2 := m1.cell_at 2 rfl; clear m1; go_simp; first | done | rfl)) (fun W hW => HK.out _ hW) ?_; simp only [Act.put, List.setIfInBounds_toArray, List.set_cons_zero, List.set_cons_succ]) | (refine steady_call _ _ _ (by rfl) (fun W hW => by (have m0 := HQl.out _ hW; have x0 := m0.cell_at 0 rfl; have x1 := m0.cell_at 1 rfl; have x2 := m0.cell_at 2 rfl; have x3 := m0.cell_at 3 rfl; have x4 := m0.cell_at 4 rfl; have x5 := m0.cell_at 5 rfl; have x6 := m0.cell_at 6 rfl; have x7 := m0.cell_at 7 rfl; have x8 := m0.cell_at 8 rfl; have x9 := m0.cell_at 9 rfl; have x10 := m0.cell_at 10 rfl; clear m0; have m1 := HQv.out _ hW; have v0 := m1.cell_at 0 rfl; have v1 := m1.cell_at 1 rfl; have v2 := m1.cell_at 2 rfl; clear m1; go_simp; first | done | rfl)) (fun W hW => HWa.out _ hW) ?_; simp only [Act.put, List.setIfInBounds_toArray, List.set_cons_zero, List.set_cons_succ]))
  refine steady_nil (fun W hW => ?_)
  go_wp2_with fail
  go_ret2
  exact ⟨rfl, HQp.out _ hW⟩

set_option maxRecDepth 100000 in
set_option maxHeartbeats 4000000 in
theorem stepThere_P (hP : Closed P) (hT : ∀ w, P w → Shapes w) {l : Lay} (hL : ∀ w, P w → Lies l w) (s i o : Int) {r : Bool} (hr : stepV l s i o = r) (h : P w) :
    Calls Tryz.prog 88 #[l.val, stpV s i o] w fun e w' => e = .returned (.bool r) ∧ P w' := by
  obtain ⟨Q, HQ, HQp, HQl, HQv, hq⟩ := keep_box2 hP h 29 50 l.cells (stpCells (s, i, o))
  have HSt := Lib.hid (fun W hW => step_P (P := Q) (w := W) HQ.out (fun W hW => hT _ (HQp.out _ hW)) (fun W hW => hL _ (HQp.out _ hW)) s i o rfl hr hW)
  clear hr
  generalize wayK (kindV l s) i o = v at *
  have hW := hq
  have m0 := HQl.out _ hW
  have x0 := m0.cell_at 0 rfl
  have x1 := m0.cell_at 1 rfl
  have x2 := m0.cell_at 2 rfl
  have x3 := m0.cell_at 3 rfl
  have x4 := m0.cell_at 4 rfl
  have x5 := m0.cell_at 5 rfl
  have x6 := m0.cell_at 6 rfl
  have x7 := m0.cell_at 7 rfl
  have x8 := m0.cell_at 8 rfl
  have x9 := m0.cell_at 9 rfl
  have x10 := m0.cell_at 10 rfl
  clear m0
  have m1 := HQv.out _ hW
  have v0 := m1.cell_at 0 rfl
  have v1 := m1.cell_at 1 rfl
  have v2 := m1.cell_at 2 rfl
  clear m1
  clear hW
  go_enter Tryz.func88, Tryz.ntmps88
  go_wp2_with fail
  refine (HSt.out _ hq).mono ?_
  clear x0 x1 x2 x3 x4 x5 x6 x7 x8 x9 x10 v0 v1 v2
  rintro e w1 ⟨rfl, hq⟩
  go_wp2_with fail
  go_ret
  exact ⟨rfl, HQp.out _ hq⟩
end
end Go.Proofs.YtlfpkileblmhoaaGreatDoor
namespace Go.Proofs.YtlfpkileblmhoaaGreatDoor
open Go.RowKit Go.Shelf
set_option linter.unusedVariables false
set_option linter.unusedSimpArgs false

def Sec.zero : Sec := ⟨0, 0, 0, 0, 0, 0, 0, 0, 0, 0, 0⟩
/-- The section of a port. -/
def atV (l : Lay) (s p : Int) : Sec := if thereV l s p = true then (l.secs[s.toNat]?).getD Sec.zero else Sec.zero
theorem atV_no {l : Lay} {s p : Int} (h : thereV l s p = false) : atV l s p = Sec.zero := by unfold atV; rw [h]; rfl
theorem atV_yes {l : Lay} {s p : Int} (h : thereV l s p = true) : ∃ (j : Nat), s = j ∧ l.secs[j]? = some (atV l s p) := by
  obtain ⟨j, x, rfl, hx⟩ := thereV_some h
  refine ⟨j, rfl, ?_⟩
  unfold atV
  rw [if_pos h, Int.toNat_natCast, hx]
  rfl
theorem keep_box3 {P : World → Prop} (hP : Closed P) {w : World} (h : P w) (t t' t'' : TypeId) (vs us rs : List Value) :
    ∃ Q : World → Prop, Hid (Closed Q) ∧ Hid (∀ W, Q W → P W) ∧ Hid (∀ W, Q W → Whole W w.heap.size t vs) ∧ Hid (∀ W, Q W → Whole W (w.heap.size + 1) t' us) ∧ Hid (∀ W, Q W → Whole W (w.heap.size + 1 + 1) t'' rs) ∧ Hid (∀ W, Q W → Below w.heap.size w W) ∧ Q (((w.alloc (.cells vs.toArray t)).alloc (.cells us.toArray t')).alloc (.cells rs.toArray t'')) :=
  ⟨fun W => (((P W ∧ Whole W w.heap.size t vs) ∧ Whole W (w.heap.size + 1) t' us) ∧ Whole W (w.heap.size + 1 + 1) t'' rs) ∧ Below w.heap.size w W, Lib.hid ((((hP.and (Closed.whole _ t vs)).and (Closed.whole _ t' us)).and (Closed.whole _ t'' rs)).and (Closed.below w)), Lib.hid (fun _ h => h.1.1.1.1), Lib.hid (fun _ h => h.1.1.1.2), Lib.hid (fun _ h => h.1.1.2), Lib.hid (fun _ h => h.1.2), Lib.hid (fun _ h => h.2),
   ⟨⟨⟨hP _ _ h (below3 w _ _ _), ((Whole.new w t vs).alloc _).alloc _⟩, (Whole.new_at _ t' us _ (by simp)).alloc _⟩, Whole.new_at _ t'' rs _ (by simp)⟩, below3 w _ _ _⟩
/-- Eleven cells are laid over eleven. -/
theorem whole_over {W : World} {g : Nat} {t : TypeId} {a b : Sec} (h : Whole W g t a.cells) :
    Whole ((((((((((((W.setCell ⟨g, 0, none⟩ (.int .u8 b.k)).setCell ⟨g, 1, none⟩ (.int .i64 b.s0)).setCell ⟨g, 2, none⟩ (.int .i64 b.q0)).setCell ⟨g, 3, none⟩ (.int .i64 b.s1)).setCell ⟨g, 4, none⟩ (.int .i64 b.q1)).setCell ⟨g, 5, none⟩ (.int .i64 b.s2)).setCell ⟨g, 6, none⟩ (.int .i64 b.q2)).setCell ⟨g, 7, none⟩ (.int .i64 b.s3)).setCell ⟨g, 8, none⟩ (.int .i64 b.q3)).setCell ⟨g, 9, none⟩ (.int .i64 b.c0)).setCell ⟨g, 10, none⟩ (.int .i64 b.c1))) g t b.cells :=
  ((((((((((h.set 0 _).set 1 _).set 2 _).set 3 _).set 4 _).set 5 _).set 6 _).set 7 _).set 8 _).set 9 _).set 10 _
theorem below_over {W w0 : World} {n g : Nat} {b : Sec} (h : Below n w0 W) (hg : n ≤ g) :
    Below n w0 ((((((((((((W.setCell ⟨g, 0, none⟩ (.int .u8 b.k)).setCell ⟨g, 1, none⟩ (.int .i64 b.s0)).setCell ⟨g, 2, none⟩ (.int .i64 b.q0)).setCell ⟨g, 3, none⟩ (.int .i64 b.s1)).setCell ⟨g, 4, none⟩ (.int .i64 b.q1)).setCell ⟨g, 5, none⟩ (.int .i64 b.s2)).setCell ⟨g, 6, none⟩ (.int .i64 b.q2)).setCell ⟨g, 7, none⟩ (.int .i64 b.s3)).setCell ⟨g, 8, none⟩ (.int .i64 b.q3)).setCell ⟨g, 9, none⟩ (.int .i64 b.c0)).setCell ⟨g, 10, none⟩ (.int .i64 b.c1))) :=
  ((((((((((h.setCell (p := ⟨g, 0, none⟩) hg _).setCell (p := ⟨g, 1, none⟩) hg _).setCell (p := ⟨g, 2, none⟩) hg _).setCell (p := ⟨g, 3, none⟩) hg _).setCell (p := ⟨g, 4, none⟩) hg _).setCell (p := ⟨g, 5, none⟩) hg _).setCell (p := ⟨g, 6, none⟩) hg _).setCell (p := ⟨g, 7, none⟩) hg _).setCell (p := ⟨g, 8, none⟩) hg _).setCell (p := ⟨g, 9, none⟩) hg _).setCell (p := ⟨g, 10, none⟩) hg _

section
variable {P : World → Prop} {w : World}
set_option maxRecDepth 100000 in
set_option maxHeartbeats 8000000 in
theorem at_P (hP : Closed P) (hT : ∀ w, P w → Shapes w) {l : Lay} (hL : ∀ w, P w → Lies l w) (s p : Int) {x : Sec} {r : Bool} (hx : atV l s p = x) (hr : thereV l s p = r) (h : P w) :
    Calls Tryz.prog 57 #[l.val, prtV s p] w fun e w' => e = .returned (.tuple #[x.val, .bool r]) ∧ P w' := by
  obtain ⟨Q, HQ, HQp, HQl, HQv, HQr, HQb, hq⟩ := keep_box3 hP h 29 46 56 l.cells (prtCells (s, p)) [.int .u8 0, .int .i64 0, .int .i64 0, .int .i64 0, .int .i64 0, .int .i64 0, .int .i64 0, .int .i64 0, .int .i64 0, .int .i64 0, .int .i64 0]
  have HPt := Lib.hid (fun W hW => portThere_P (P := Q) (w := W) HQ.out (fun W hW => hT _ (HQp.out _ hW)) (fun W hW => hL _ (HQp.out _ hW)) s p hr hW)
  have HPP := Lib.hid (fun W (hB : Below w.heap.size w W) => hP _ _ h hB)
  clear h
  cases r
  · obtain rfl := hx.symm.trans (atV_no hr)
    clear hr
    have hW := hq
    have m0 := HQl.out _ hW
    have x0 := m0.cell_at 0 rfl
    have x1 := m0.cell_at 1 rfl
    have x2 := m0.cell_at 2 rfl
    have x3 := m0.cell_at 3 rfl
    have x4 := m0.cell_at 4 rfl
    have x5 := m0.cell_at 5 rfl
    have x6 := m0.cell_at 6 rfl
    have x7 := m0.cell_at 7 rfl
    have x8 := m0.cell_at 8 rfl
    have x9 := m0.cell_at 9 rfl
    have x10 := m0.cell_at 10 rfl
    clear m0
    have m1 := HQv.out _ hW
    have v0 := m1.cell_at 0 rfl
    have v1 := m1.cell_at 1 rfl
    clear m1
    clear hW
    go_enter Tryz.func57, Tryz.ntmps57
    go_wp2_with fail
    refine wp_scope_fwd (l := 0) rfl ?_
    go_wp2_with fail
    refine (HPt.out _ hq).mono ?_
    clear x0 x1 x2 x3 x4 x5 x6 x7 x8 x9 x10 v0 v1 hq
    rintro e w1 ⟨rfl, hq⟩
    go_wp2_with fail
    go_step3
    simp only [Exit.then, fwd_goto]
    refine ⟨trivial, ?_⟩
    have hW := HQr.out _ hq
    have f0 := hW.frozen 0
    have f1 := hW.frozen 1
    have f2 := hW.frozen 2
    have f3 := hW.frozen 3
    have f4 := hW.frozen 4
    have f5 := hW.frozen 5
    have f6 := hW.frozen 6
    have f7 := hW.frozen 7
    have f8 := hW.frozen 8
    have f9 := hW.frozen 9
    have f10 := hW.frozen 10
    have z0 := hW.cell_at 0 rfl
    have z1 := hW.cell_at 1 rfl
    have z2 := hW.cell_at 2 rfl
    have z3 := hW.cell_at 3 rfl
    have z4 := hW.cell_at 4 rfl
    have z5 := hW.cell_at 5 rfl
    have z6 := hW.cell_at 6 rfl
    have z7 := hW.cell_at 7 rfl
    have z8 := hW.cell_at 8 rfl
    have z9 := hW.cell_at 9 rfl
    have z10 := hW.cell_at 10 rfl
    go_wp2_with fail
    rw [Exit.noGoto_ret]
    have hWo := whole_over (a := Sec.zero) (b := Sec.zero) hW
    have hBo := below_over (b := Sec.zero) (HQb.out _ hq) (show w.heap.size ≤ w.heap.size + 1 + 1 by omega)
    have e0 := hWo.cell_at 0 rfl
    have e1 := hWo.cell_at 1 rfl
    have e2 := hWo.cell_at 2 rfl
    have e3 := hWo.cell_at 3 rfl
    have e4 := hWo.cell_at 4 rfl
    have e5 := hWo.cell_at 5 rfl
    have e6 := hWo.cell_at 6 rfl
    have e7 := hWo.cell_at 7 rfl
    have e8 := hWo.cell_at 8 rfl
    have e9 := hWo.cell_at 9 rfl
    have e10 := hWo.cell_at 10 rfl
    refine bodyPost_ret (v := .tuple #[Sec.zero.val, .bool false]) ?_ rfl ⟨rfl, HPP.out _ hBo⟩
    unfold Sec.zero at *
    simp [results, Tryz.f57, go_sem, e0, e1, e2, e3, e4, e5, e6, e7, e8, e9, e10]
  · obtain ⟨j, rfl, hj⟩ := atV_yes hr
    rw [hx] at hj
    have HX := Lib.hid hj
    have hlt : (j : Int) < l.secs.length := by have := (List.getElem?_eq_some_iff.1 hj).1; omega
    clear hr hx hj
    have hW := hq
    have m0 := HQl.out _ hW
    have x0 := m0.cell_at 0 rfl
    have x1 := m0.cell_at 1 rfl
    have x2 := m0.cell_at 2 rfl
    have x3 := m0.cell_at 3 rfl
    have x4 := m0.cell_at 4 rfl
    have x5 := m0.cell_at 5 rfl
    have x6 := m0.cell_at 6 rfl
    have x7 := m0.cell_at 7 rfl
    have x8 := m0.cell_at 8 rfl
    have x9 := m0.cell_at 9 rfl
    have x10 := m0.cell_at 10 rfl
    clear m0
    have m1 := HQv.out _ hW
    have v0 := m1.cell_at 0 rfl
    have v1 := m1.cell_at 1 rfl
    clear m1
    clear hW
    go_enter Tryz.func57, Tryz.ntmps57
    go_wp2_with fail
    refine wp_scope_fwd (l := 0) rfl ?_
    go_wp2_with fail
    refine (HPt.out _ hq).mono ?_
    clear x0 x1 x2 x3 x4 x5 x6 x7 x8 x9 x10 v0 v1 hq
    rintro e w1 ⟨rfl, hq⟩
    have hW := HQr.out _ hq
    have x0 := (HQl.out _ hq).cell_at 0 rfl
    have v0 := (HQv.out _ hq).cell_at 0 rfl
    obtain ⟨b, off, hA, hb, hc0, hc⟩ := (hL _ (HQp.out _ hq)).secs.nth Sec.len (by omega) HX.out
    have c0 := hc0 j x _ HX.out rfl
    have c1 := hc j x 1 _ HX.out rfl
    have c2 := hc j x 2 _ HX.out rfl
    have c3 := hc j x 3 _ HX.out rfl
    have c4 := hc j x 4 _ HX.out rfl
    have c5 := hc j x 5 _ HX.out rfl
    have c6 := hc j x 6 _ HX.out rfl
    have c7 := hc j x 7 _ HX.out rfl
    have c8 := hc j x 8 _ HX.out rfl
    have c9 := hc j x 9 _ HX.out rfl
    have c10 := hc j x 10 _ HX.out rfl
    clear hc0 hc
    have f0 := hW.frozen 0
    have f1 := hW.frozen 1
    have f2 := hW.frozen 2
    have f3 := hW.frozen 3
    have f4 := hW.frozen 4
    have f5 := hW.frozen 5
    have f6 := hW.frozen 6
    have f7 := hW.frozen 7
    have f8 := hW.frozen 8
    have f9 := hW.frozen 9
    have f10 := hW.frozen 10
    have z0 := hW.cell_at 0 rfl
    have z1 := hW.cell_at 1 rfl
    have z2 := hW.cell_at 2 rfl
    have z3 := hW.cell_at 3 rfl
    have z4 := hW.cell_at 4 rfl
    have z5 := hW.cell_at 5 rfl
    have z6 := hW.cell_at 6 rfl
    have z7 := hW.cell_at 7 rfl
    have z8 := hW.cell_at 8 rfl
    have z9 := hW.cell_at 9 rfl
    have z10 := hW.cell_at 10 rfl
    go_wp2_with fail
    rw [fwd_ret]
    have hWo := whole_over (a := Sec.zero) (b := x) hW
    have hBo := below_over (b := x) (HQb.out _ hq) (show w.heap.size ≤ w.heap.size + 1 + 1 by omega)
    clear c0 c1 c2 c3 c4 c5 c6 c7 c8 c9 c10 z0 z1 z2 z3 z4 z5 z6 z7 z8 z9 z10
    have e0 := hWo.cell_at 0 rfl
    have e1 := hWo.cell_at 1 rfl
    have e2 := hWo.cell_at 2 rfl
    have e3 := hWo.cell_at 3 rfl
    have e4 := hWo.cell_at 4 rfl
    have e5 := hWo.cell_at 5 rfl
    have e6 := hWo.cell_at 6 rfl
    have e7 := hWo.cell_at 7 rfl
    have e8 := hWo.cell_at 8 rfl
    have e9 := hWo.cell_at 9 rfl
    have e10 := hWo.cell_at 10 rfl
    refine bodyPost_ret (v := .tuple #[x.val, .bool true]) ?_ rfl ⟨rfl, HPP.out _ hBo⟩
    simp [results, Tryz.f57, go_sem, e0, e1, e2, e3, e4, e5, e6, e7, e8, e9, e10]
end
end Go.Proofs.YtlfpkileblmhoaaGreatDoor
namespace Go.Proofs.YtlfpkileblmhoaaGreatDoor
open Go.RowKit Go.Shelf
set_option linter.unusedVariables false
set_option linter.unusedSimpArgs false

section
variable {P : World → Prop} {w : World}

set_option maxRecDepth 100000 in
set_option maxHeartbeats 4000000 in
theorem indexSignal_P (hP : Closed P) {l : List (Int × Int)} {A : Option Addr} (c : Nat) (hR : ∀ w, P w → Row w w.heap.size A (l.flatMap prtCells)) (hn : (l.length : Int) ≤ 9223372036854775807) (p0 : Value) {pr : Int × Int → Bool} {r : Int}
    (hf : ∀ x ∈ l, ∀ w, P w → Calls Tryz.prog 73 #[(prtV x.1 x.2), p0] w fun e w' => e = .returned (.bool (pr x)) ∧ P w') (hr : idxV pr l = r) (h : P w) :
    Calls Tryz.prog 72 #[.slice A l.length c, .func (.func 73) #[] #[p0]] w fun e w' => e = .returned (.int .i64 r) ∧ P w' := by
  have HF := Lib.hid hf
  have HR := Lib.hid hr
  clear hf hr
  go_enter Tryz.func72, Tryz.ntmps72
  go_wp2_with fail
  go_loopw [8] (fun i wr => ∃ j : Nat, j ≤ l.length ∧ i = .int .i64 j ∧ P wr ∧ Hid (NoneUp pr l j))
    (fun i _ => l.length - (intOf i).toNat)
  case atStart => exact ⟨0, by omega, rfl, h, Lib.hid (NoneUp.zero _ _)⟩
  case round =>
    obtain ⟨j, hj, rfl, hp, HNo⟩ := hrel
    by_cases hlt : j < l.length
    · have hlt' : (j : Int) < l.length := by omega
      obtain ⟨x, hx⟩ : ∃ x, l[j]? = some x := ⟨_, List.getElem?_eq_getElem hlt⟩
      have HX := Lib.hid hx
      have HM := Lib.hid (List.mem_of_getElem? hx)
      clear hx
      obtain ⟨b, off, hA, hb, hc0, hc⟩ := (hR _ hp).nth (n := 2) (fun _ => rfl) (by omega) HX.out
      subst hA
      have c0 := hc0 j x _ HX.out rfl
      have c1 := hc j x 1 _ HX.out rfl
      clear hc0 hc
      go_wp2_with fail
      refine (HF.out x HM.out _ hp).mono ?_
      clear hp c0 c1
      cases hpr : pr x
      · have HN := Lib.hid (HNo.out.succ HX.out hpr)
        clear hpr
        rintro e w1 ⟨rfl, hp⟩
        go_wp2_with fail
        go_roundw
        case rel => exact ⟨j + 1, hlt, by go_num, hp, HN⟩
        case measure => simp [intOf]; omega
      · have HI := Lib.hid (HNo.out.idx HX.out hpr)
        clear hpr
        rintro e w1 ⟨rfl, hp⟩
        go_wp2_with fail
        go_ret
        exact ⟨ret_int (by rw [← HR.out, HI.out]), hp⟩
    · obtain rfl : j = l.length := by omega
      have HI := Lib.hid HNo.out.idx_no
      go_wp2_with fail
      go_ret
      exact ⟨ret_int (by rw [← HR.out, HI.out]), hp⟩

set_option maxRecDepth 100000 in
set_option maxHeartbeats 4000000 in
theorem indexOver_P (hP : Closed P) {l : List (Exm)} {A : Option Addr} (c : Nat) (hR : ∀ w, P w → Row w w.heap.size A (l.flatMap Exm.cells)) (hn : (l.length : Int) ≤ 9223372036854775807) {pr : Exm → Bool} {r : Int}
    (hf : ∀ x ∈ l, ∀ w, P w → Calls Tryz.prog 121 #[x.val] w fun e w' => e = .returned (.bool (pr x)) ∧ P w') (hr : idxV pr l = r) (h : P w) :
    Calls Tryz.prog 136 #[.slice A l.length c, .func (.func 121) #[] #[]] w fun e w' => e = .returned (.int .i64 r) ∧ P w' := by
  have HF := Lib.hid hf
  have HR := Lib.hid hr
  clear hf hr
  go_enter Tryz.func136, Tryz.ntmps136
  go_wp2_with fail
  go_loopw [8] (fun i wr => ∃ j : Nat, j ≤ l.length ∧ i = .int .i64 j ∧ P wr ∧ Hid (NoneUp pr l j))
    (fun i _ => l.length - (intOf i).toNat)
  case atStart => exact ⟨0, by omega, rfl, h, Lib.hid (NoneUp.zero _ _)⟩
  case round =>
    obtain ⟨j, hj, rfl, hp, HNo⟩ := hrel
    by_cases hlt : j < l.length
    · have hlt' : (j : Int) < l.length := by omega
      obtain ⟨x, hx⟩ : ∃ x, l[j]? = some x := ⟨_, List.getElem?_eq_getElem hlt⟩
      have HX := Lib.hid hx
      have HM := Lib.hid (List.mem_of_getElem? hx)
      clear hx
      obtain ⟨b, off, hA, hb, hc0, hc⟩ := (hR _ hp).nth (n := 3) (fun _ => rfl) (by omega) HX.out
      subst hA
      have c0 := hc0 j x _ HX.out rfl
      have c1 := hc j x 1 _ HX.out rfl
      have c2 := hc j x 2 _ HX.out rfl
      clear hc0 hc
      go_wp2_with fail
      refine (HF.out x HM.out _ hp).mono ?_
      clear hp c0 c1 c2
      cases hpr : pr x
      · have HN := Lib.hid (HNo.out.succ HX.out hpr)
        clear hpr
        rintro e w1 ⟨rfl, hp⟩
        go_wp2_with fail
        go_roundw
        case rel => exact ⟨j + 1, hlt, by go_num, hp, HN⟩
        case measure => simp [intOf]; omega
      · have HI := Lib.hid (HNo.out.idx HX.out hpr)
        clear hpr
        rintro e w1 ⟨rfl, hp⟩
        go_wp2_with fail
        go_ret
        exact ⟨ret_int (by rw [← HR.out, HI.out]), hp⟩
    · obtain rfl : j = l.length := by omega
      have HI := Lib.hid HNo.out.idx_no
      go_wp2_with fail
      go_ret
      exact ⟨ret_int (by rw [← HR.out, HI.out]), hp⟩

set_option maxRecDepth 100000 in
set_option maxHeartbeats 4000000 in
theorem indexSection_P (hP : Closed P) {l : List (Sec)} {A : Option Addr} (c : Nat) (hR : ∀ w, P w → Row w w.heap.size A (l.flatMap Sec.cells)) (hn : (l.length : Int) ≤ 9223372036854775807) {pr : Sec → Bool} {r : Int}
    (hf : ∀ x ∈ l, ∀ w, P w → Calls Tryz.prog 125 #[x.val] w fun e w' => e = .returned (.bool (pr x)) ∧ P w') (hr : idxV pr l = r) (h : P w) :
    Calls Tryz.prog 138 #[.slice A l.length c, .func (.func 125) #[] #[]] w fun e w' => e = .returned (.int .i64 r) ∧ P w' := by
  have HF := Lib.hid hf
  have HR := Lib.hid hr
  clear hf hr
  go_enter Tryz.func138, Tryz.ntmps138
  go_wp2_with fail
  go_loopw [8] (fun i wr => ∃ j : Nat, j ≤ l.length ∧ i = .int .i64 j ∧ P wr ∧ Hid (NoneUp pr l j))
    (fun i _ => l.length - (intOf i).toNat)
  case atStart => exact ⟨0, by omega, rfl, h, Lib.hid (NoneUp.zero _ _)⟩
  case round =>
    obtain ⟨j, hj, rfl, hp, HNo⟩ := hrel
    by_cases hlt : j < l.length
    · have hlt' : (j : Int) < l.length := by omega
      obtain ⟨x, hx⟩ : ∃ x, l[j]? = some x := ⟨_, List.getElem?_eq_getElem hlt⟩
      have HX := Lib.hid hx
      have HM := Lib.hid (List.mem_of_getElem? hx)
      clear hx
      obtain ⟨b, off, hA, hb, hc0, hc⟩ := (hR _ hp).nth (n := 11) Sec.len (by omega) HX.out
      subst hA
      have c0 := hc0 j x _ HX.out rfl
      have c1 := hc j x 1 _ HX.out rfl
      have c2 := hc j x 2 _ HX.out rfl
      have c3 := hc j x 3 _ HX.out rfl
      have c4 := hc j x 4 _ HX.out rfl
      have c5 := hc j x 5 _ HX.out rfl
      have c6 := hc j x 6 _ HX.out rfl
      have c7 := hc j x 7 _ HX.out rfl
      have c8 := hc j x 8 _ HX.out rfl
      have c9 := hc j x 9 _ HX.out rfl
      have c10 := hc j x 10 _ HX.out rfl
      clear hc0 hc
      go_wp2_with fail
      refine (HF.out x HM.out _ hp).mono ?_
      clear hp c0 c1 c2 c3 c4 c5 c6 c7 c8 c9 c10
      cases hpr : pr x
      · have HN := Lib.hid (HNo.out.succ HX.out hpr)
        clear hpr
        rintro e w1 ⟨rfl, hp⟩
        go_wp2_with fail
        go_roundw
        case rel => exact ⟨j + 1, hlt, by go_num, hp, HN⟩
        case measure => simp [intOf]; omega
      · have HI := Lib.hid (HNo.out.idx HX.out hpr)
        clear hpr
        rintro e w1 ⟨rfl, hp⟩
        go_wp2_with fail
        go_ret
        exact ⟨ret_int (by rw [← HR.out, HI.out]), hp⟩
    · obtain rfl : j = l.length := by omega
      have HI := Lib.hid HNo.out.idx_no
      go_wp2_with fail
      go_ret
      exact ⟨ret_int (by rw [← HR.out, HI.out]), hp⟩

set_option maxHeartbeats 1000000 in
theorem containsOver_P (hP : Closed P) {l : List (Exm)} {A : Option Addr} (c : Nat) (hR : ∀ w, P w → Row w w.heap.size A (l.flatMap Exm.cells)) (hn : (l.length : Int) ≤ 9223372036854775807) {pr : Exm → Bool} {r : Bool}
    (hf : ∀ x ∈ l, ∀ w, P w → Calls Tryz.prog 121 #[x.val] w fun e w' => e = .returned (.bool (pr x)) ∧ P w') (hr : l.any pr = r) (h : P w) :
    Calls Tryz.prog 122 #[.slice A l.length c, .func (.func 121) #[] #[]] w fun e w' => e = .returned (.bool r) ∧ P w' := by
  have HC := Lib.hid (indexOver_P hP c hR hn  hf rfl h)
  have HR : Hid (decide (0 ≤ idxV pr l) = r) := Lib.hid (by rw [idxV_any, hr])
  clear hf hr
  generalize idxV pr l = i at *
  go_enter Tryz.func122, Tryz.ntmps122
  go_wp2_with fail
  refine HC.out.mono ?_
  rintro e w1 ⟨rfl, hp⟩
  go_wp2_with fail
  go_ret
  exact ⟨ret_bool HR.out, hp⟩

set_option maxHeartbeats 1000000 in
theorem containsSection_P (hP : Closed P) {l : List (Sec)} {A : Option Addr} (c : Nat) (hR : ∀ w, P w → Row w w.heap.size A (l.flatMap Sec.cells)) (hn : (l.length : Int) ≤ 9223372036854775807) {pr : Sec → Bool} {r : Bool}
    (hf : ∀ x ∈ l, ∀ w, P w → Calls Tryz.prog 125 #[x.val] w fun e w' => e = .returned (.bool (pr x)) ∧ P w') (hr : l.any pr = r) (h : P w) :
    Calls Tryz.prog 124 #[.slice A l.length c, .func (.func 125) #[] #[]] w fun e w' => e = .returned (.bool r) ∧ P w' := by
  have HC := Lib.hid (indexSection_P hP c hR hn  hf rfl h)
  have HR : Hid (decide (0 ≤ idxV pr l) = r) := Lib.hid (by rw [idxV_any, hr])
  clear hf hr
  generalize idxV pr l = i at *
  go_enter Tryz.func124, Tryz.ntmps124
  go_wp2_with fail
  refine HC.out.mono ?_
  rintro e w1 ⟨rfl, hp⟩
  go_wp2_with fail
  go_ret
  exact ⟨ret_bool HR.out, hp⟩
end
end Go.Proofs.YtlfpkileblmhoaaGreatDoor
namespace Go.Proofs.YtlfpkileblmhoaaGreatDoor
open Go.RowKit Go.Shelf
set_option linter.unusedVariables false
set_option linter.unusedSimpArgs false

/-- Is it this port? -/
def isP (s p : Int) (x : Int × Int) : Bool := x.1 == s && x.2 == p
def signalV (l : Lay) (s p : Int) : Int := idxV (isP s p) l.sigs
def exitV (l : Lay) (s p : Int) : Int := idxV (fun x => isP s p (x.s, x.q)) l.exits
/-- Is there too much? -/
def tooV (l : Lay) : Bool := decide (24 < (l.secs.length : Int)) || (decide (12 < (l.sigs.length : Int)) || (decide (12 < (l.exits.length : Int)) || (decide (16 < (l.flanks.length : Int)) || l.exits.any (fun x => decide (2 < (x.over.length : Int))))))

section
variable {P : World → Prop} {w : World}

set_option maxHeartbeats 2000000 in
theorem signal1_P (hP : Closed P) (x : Int × Int) (s p : Int) (g : Nat) (hg : ∀ w, P w → Whole w g 46 (prtCells (s, p))) (h : P w) :
    Calls Tryz.prog 73 #[(prtV x.1 x.2), .pointer (some ⟨g, 0, none⟩)] w fun e w' => e = .returned (.bool (isP s p (x))) ∧ P w' := by
  have hw := hg _ (hP _ _ h (below1 w (.cells (prtCells x).toArray 48)))
  have y0 := hw.cell_at 0 rfl
  have y1 := hw.cell_at 1 rfl
  clear hw hg
  have HPP := Lib.hid (fun o => hP _ _ h (below1 w o))
  clear hP h
  go_enter Tryz.func73, Tryz.ntmps73
  go_wp2_with fail
  all_goals
    go_ret
    exact ⟨ret_bool (by unfold isP; rw [Bool.eq_iff_iff]; simp; try omega), HPP.out _⟩

set_option maxHeartbeats 2000000 in
theorem signal_P (hP : Closed P) {l : Lay} (hL : ∀ w, P w → Lies l w) (s p : Int) {r : Int} (hr : signalV l s p = r) (h : P w) :
    Calls Tryz.prog 53 #[l.val, prtV s p] w fun e w' => e = .returned (.int .i64 r) ∧ P w' := by
  obtain ⟨Q, HQ, HQp, HQl, HQv, hq⟩ := keep_box2 hP h 29 46 l.cells (prtCells (s, p))
  have HI := Lib.hid (fun c => indexSignal_P (w := _) (r := r) HQ.out c (fun w hw => (hL w (HQp.out w hw)).sigs) (hL _ h).nG (.pointer (some ⟨w.heap.size + 1, 0, none⟩)) (fun x _ w hw => signal1_P HQ.out x s p _ (fun w hw => HQv.out w hw) hw) hr hq)
  have hW := hq
  have m0 := HQl.out _ hW
  have x0 := m0.cell_at 0 rfl
  have x1 := m0.cell_at 1 rfl
  have x2 := m0.cell_at 2 rfl
  have x3 := m0.cell_at 3 rfl
  have x4 := m0.cell_at 4 rfl
  have x5 := m0.cell_at 5 rfl
  have x6 := m0.cell_at 6 rfl
  have x7 := m0.cell_at 7 rfl
  have x8 := m0.cell_at 8 rfl
  have x9 := m0.cell_at 9 rfl
  have x10 := m0.cell_at 10 rfl
  clear m0
  have m1 := HQv.out _ hW
  have v0 := m1.cell_at 0 rfl
  have v1 := m1.cell_at 1 rfl
  clear m1
  clear hW
  go_enter Tryz.func53, Tryz.ntmps53
  go_wp2_with fail
  refine (HI.out _).mono ?_
  clear x0 x1 x2 x3 x4 x5 x6 x7 x8 x9 x10 v0 v1 hq
  rintro e w1 ⟨rfl, hq⟩
  go_wp2_with fail
  go_ret
  exact ⟨rfl, HQp.out _ hq⟩

set_option maxHeartbeats 2000000 in
theorem over1_P (hP : Closed P) (x : Exm) (h : P w) :
    Calls Tryz.prog 121 #[x.val] w fun e w' => e = .returned (.bool (decide (2 < (x.over.length : Int)))) ∧ P w' := by
  have hp := hP _ _ h (below1 w (.cells x.cells.toArray 59))
  clear hP h
  go_enter Tryz.func121, Tryz.ntmps121
  go_wp2_with fail
  all_goals
    go_ret
    exact ⟨rfl, hp⟩

set_option maxRecDepth 100000 in
set_option maxHeartbeats 4000000 in
theorem tooMany_P (hP : Closed P) {l : Lay} (hL : ∀ w, P w → Lies l w) {r : Bool} (hr : tooV l = r) (h : P w) :
    Calls Tryz.prog 91 #[l.val] w fun e w' => e = .returned (.bool r) ∧ P w' := by
  obtain ⟨Q, HQ, HQp, HQl, hq⟩ := keep_box hP h 29 l.cells
  have HI := Lib.hid (fun c => containsOver_P (w := _) (A := l.Ae) (l := l.exits) HQ.out c (fun w hw => (hL w (HQp.out w hw)).exits) (hL _ h).nE (fun x _ w hw => over1_P HQ.out x hw) rfl hq)
  generalize he : l.exits.any (fun x => decide (2 < (x.over.length : Int))) = a at *
  have HR : Hid ((decide (24 < (l.secs.length : Int)) || (decide (12 < (l.sigs.length : Int)) || (decide (12 < (l.exits.length : Int)) || (decide (16 < (l.flanks.length : Int)) || a)))) = r) := Lib.hid (by rw [← hr, ← he]; rfl)
  have hp := HQp.out _ hq
  clear hr he
  have hcase : 24 < (l.secs.length : Int) ∨ (¬ 24 < (l.secs.length : Int) ∧ 12 < (l.sigs.length : Int)) ∨ (¬ 24 < (l.secs.length : Int) ∧ ¬ 12 < (l.sigs.length : Int) ∧ 12 < (l.exits.length : Int)) ∨ (¬ 24 < (l.secs.length : Int) ∧ ¬ 12 < (l.sigs.length : Int) ∧ ¬ 12 < (l.exits.length : Int) ∧ 16 < (l.flanks.length : Int)) ∨
      (¬ 24 < (l.secs.length : Int) ∧ ¬ 12 < (l.sigs.length : Int) ∧ ¬ 12 < (l.exits.length : Int) ∧ ¬ 16 < (l.flanks.length : Int)) := by omega
  rcases hcase with h1 | ⟨h1, h2⟩ | ⟨h1, h2, h3⟩ | ⟨h1, h2, h3, h4⟩ | ⟨h1, h2, h3, h4⟩
  · have HF := Lib.hid (HR.out.symm.trans (show _ = true by simp [h1]))
    have d1 := decide_eq_true h1
    clear h1
    go_enter Tryz.func91, Tryz.ntmps91
    go_wp2_with fail
    go_ret
    exact ⟨ret_bool HF.out.symm, hp⟩
  · have HF := Lib.hid (HR.out.symm.trans (show _ = true by simp [h1, h2]))
    have d1 := decide_eq_false h1
    clear h1
    have d2 := decide_eq_true h2
    clear h2
    go_enter Tryz.func91, Tryz.ntmps91
    go_wp2_with fail
    go_ret
    exact ⟨ret_bool HF.out.symm, hp⟩
  · have HF := Lib.hid (HR.out.symm.trans (show _ = true by simp [h1, h2, h3]))
    have d1 := decide_eq_false h1
    clear h1
    have d2 := decide_eq_false h2
    clear h2
    have d3 := decide_eq_true h3
    clear h3
    go_enter Tryz.func91, Tryz.ntmps91
    go_wp2_with fail
    go_ret
    exact ⟨ret_bool HF.out.symm, hp⟩
  · have HF := Lib.hid (HR.out.symm.trans (show _ = true by simp [h1, h2, h3, h4]))
    have d1 := decide_eq_false h1
    clear h1
    have d2 := decide_eq_false h2
    clear h2
    have d3 := decide_eq_false h3
    clear h3
    have d4 := decide_eq_true h4
    clear h4
    go_enter Tryz.func91, Tryz.ntmps91
    go_wp2_with fail
    go_ret
    exact ⟨ret_bool HF.out.symm, hp⟩
  · have HF := Lib.hid (HR.out.symm.trans (show _ = a by simp [h1, h2, h3, h4]))
    have d1 := decide_eq_false h1
    clear h1
    have d2 := decide_eq_false h2
    clear h2
    have d3 := decide_eq_false h3
    clear h3
    have d4 := decide_eq_false h4
    clear h4
    go_enter Tryz.func91, Tryz.ntmps91
    go_wp2_with fail
    refine (HI.out _).mono ?_
    rintro e w1 ⟨rfl, hq⟩
    go_wp2_with fail
    go_ret
    exact ⟨ret_bool HF.out.symm, HQp.out _ hq⟩

set_option maxHeartbeats 2000000 in
theorem section1_P (hP : Closed P) (hT : ∀ w, P w → Shapes w) (x : Sec) (hx : 0 ≤ x.k ∧ x.k ≤ 255) (h : P w) :
    Calls Tryz.prog 125 #[x.val] w fun e w' => e = .returned (.bool (!(rightK x))) ∧ P w' := by
  have hp := hP _ _ h (below1 w (.cells x.cells.toArray 56))
  have HC := Lib.hid (right_Pr hP hT x.k x.s0 x.q0 x.s1 x.q1 x.s2 x.q2 x.s3 x.q3 x.c0 x.c1 hx.1 hx.2 (r := rightK x) (shapeK x.k) rfl hp)
  clear hP hT h hx hp
  generalize rightK x = r at *
  go_enter Tryz.func125, Tryz.ntmps125
  go_wp2_with fail
  refine HC.out.mono ?_
  rintro e w1 ⟨rfl, hp⟩
  go_wp2_with fail
  go_ret
  exact ⟨rfl, hp⟩

set_option maxHeartbeats 2000000 in
theorem sectionsRight_P (hP : Closed P) (hT : ∀ w, P w → Shapes w) {l : Lay} (hL : ∀ w, P w → Lies l w) {r : Bool} (hr : l.secs.any (fun x => !(rightK x)) = r) (h : P w) :
    Calls Tryz.prog 94 #[l.val] w fun e w' => e = .returned (.bool (!r)) ∧ P w' := by
  obtain ⟨Q, HQ, HQp, HQl, hq⟩ := keep_box hP h 29 l.cells
  have HI := Lib.hid (fun c => containsSection_P (w := _) (A := l.As) (l := l.secs) HQ.out c (fun w hw => (hL w (HQp.out w hw)).secs) (hL _ h).nS (fun x hx w hw => section1_P HQ.out (fun w hw => hT w (HQp.out w hw)) x ((hL _ h).kinds x hx) hw) hr hq)
  clear hr
  go_enter Tryz.func94, Tryz.ntmps94
  go_wp2_with fail
  refine (HI.out _).mono ?_
  rintro e w1 ⟨rfl, hq⟩
  go_wp2_with fail
  go_ret
  exact ⟨rfl, HQp.out _ hq⟩
end
end Go.Proofs.YtlfpkileblmhoaaGreatDoor
namespace Go.Proofs.YtlfpkileblmhoaaGreatDoor
open Go.RowKit Go.Shelf
set_option linter.unusedVariables false
set_option linter.unusedSimpArgs false

theorem andThen_eq_ite {w : World} (b : Bool) (f : Bool → World → Result Value) : (Result.ok b w).andThen f = f b w := rfl
set_option maxHeartbeats 1000000 in
theorem eq_prt (w : World) (d : Nat) (a b c e : Int) : (Op.equalIn (d + 2) 46 (prtV a b) (prtV c e)).run Tryz.prog w = .ok (a == c && b == e) w := by
  cases h1 : (a == c) <;> cases h2 : (b == e) <;> go_simp
set_option maxHeartbeats 1000000 in
theorem eq_arr4 (w : World) (d : Nat) (a0 b0 a1 b1 a2 b2 a3 b3 c0 d0 c1 d1 c2 d2 c3 d3 : Int) :
    (Op.equalIn (d + 3) 53 (.agg #[.int .i64 a0, .int .i64 b0, .int .i64 a1, .int .i64 b1, .int .i64 a2, .int .i64 b2, .int .i64 a3, .int .i64 b3]) (.agg #[.int .i64 c0, .int .i64 d0, .int .i64 c1, .int .i64 d1, .int .i64 c2, .int .i64 d2, .int .i64 c3, .int .i64 d3])).run Tryz.prog w
      = .ok ((a0 == c0 && b0 == d0) && ((a1 == c1 && b1 == d1) && ((a2 == c2 && b2 == d2) && (a3 == c3 && b3 == d3)))) w := by
  obtain ⟨i, hi⟩ : ∃ i, Tryz.prog.info? 46 = some i := Option.isSome_iff_exists.1 (by kernel_rfl)
  have hc : Tryz.prog.cellsOf 46 = 2 := by kernel_rfl
  have hr : List.range 4 = [0, 1, 2, 3] := rfl
  have p0 : ∀ (x0 y0 x1 y1 x2 y2 x3 y3 : Int) (w : World), (part 46 #[.int .i64 x0, .int .i64 y0, .int .i64 x1, .int .i64 y1, .int .i64 x2, .int .i64 y2, .int .i64 x3, .int .i64 y3] 0).run Tryz.prog w = .ok (prtV x0 y0) w := fun _ _ _ _ _ _ _ _ _ => by kernel_rfl
  have p1 : ∀ (x0 y0 x1 y1 x2 y2 x3 y3 : Int) (w : World), (part 46 #[.int .i64 x0, .int .i64 y0, .int .i64 x1, .int .i64 y1, .int .i64 x2, .int .i64 y2, .int .i64 x3, .int .i64 y3] 2).run Tryz.prog w = .ok (prtV x1 y1) w := fun _ _ _ _ _ _ _ _ _ => by kernel_rfl
  have p2 : ∀ (x0 y0 x1 y1 x2 y2 x3 y3 : Int) (w : World), (part 46 #[.int .i64 x0, .int .i64 y0, .int .i64 x1, .int .i64 y1, .int .i64 x2, .int .i64 y2, .int .i64 x3, .int .i64 y3] 4).run Tryz.prog w = .ok (prtV x2 y2) w := fun _ _ _ _ _ _ _ _ _ => by kernel_rfl
  have p3 : ∀ (x0 y0 x1 y1 x2 y2 x3 y3 : Int) (w : World), (part 46 #[.int .i64 x0, .int .i64 y0, .int .i64 x1, .int .i64 y1, .int .i64 x2, .int .i64 y2, .int .i64 x3, .int .i64 y3] 6).run Tryz.prog w = .ok (prtV x3 y3) w := fun _ _ _ _ _ _ _ _ _ => by kernel_rfl
  have q := fun a b c e => eq_prt w d a b c e
  rw [run_equalIn_array w (d + 2) _ _ Tryz.underlying53 hi, hc, hr]
  simp only [Op.eqItems, Sem.run_bind, Nat.reduceMul, p0, p1, p2, p3, Result.andThen_ok, Nat.reduceAdd] at q ⊢
  rw [q]
  cases (a0 == c0 && b0 == d0)
  · simp
  simp only [Result.andThen_ok, Bool.not_true, Bool.false_eq_true, if_false, p0, p1, p2, p3, Sem.run_bind]
  rw [q]
  cases (a1 == c1 && b1 == d1)
  · simp
  simp only [Result.andThen_ok, Bool.not_true, Bool.false_eq_true, if_false, p0, p1, p2, p3, Sem.run_bind]
  rw [q]
  cases (a2 == c2 && b2 == d2)
  · simp
  simp only [Result.andThen_ok, Bool.not_true, Bool.false_eq_true, if_false, p0, p1, p2, p3, Sem.run_bind]
  rw [q]
  cases (a3 == c3 && b3 == d3) <;> simp
set_option maxHeartbeats 1000000 in
theorem eq_arr2 (w : World) (d : Nat) (a0 a1 c0 c1 : Int) :
    (Op.equalIn (d + 2) 54 (.agg #[.int .i64 a0, .int .i64 a1]) (.agg #[.int .i64 c0, .int .i64 c1])).run Tryz.prog w = .ok (a0 == c0 && a1 == c1) w := by
  obtain ⟨i, hi⟩ : ∃ i, Tryz.prog.info? 3 = some i := Option.isSome_iff_exists.1 (by kernel_rfl)
  have hc : Tryz.prog.cellsOf 3 = 1 := by kernel_rfl
  have hr : List.range 2 = [0, 1] := rfl
  have hq : ∀ x y : Int, (Op.equalIn (d + 1) 3 (.int .i64 x) (.int .i64 y)).run Tryz.prog w = .ok (x == y) w := fun x y => run_equalIn_int w d 3 .i64 .i64 x y Tryz.underlying3
  have p0 : ∀ (x0 x1 : Int) (w : World), (part 3 #[.int .i64 x0, .int .i64 x1] 0).run Tryz.prog w = .ok (.int .i64 x0) w := fun _ _ _ => by kernel_rfl
  have p1 : ∀ (x0 x1 : Int) (w : World), (part 3 #[.int .i64 x0, .int .i64 x1] 1).run Tryz.prog w = .ok (.int .i64 x1) w := fun _ _ _ => by kernel_rfl
  rw [run_equalIn_array w (d + 1) _ _ Tryz.underlying54 hi, hc, hr]
  simp only [Op.eqItems, Sem.run_bind, Nat.reduceMul, p0, p1, Result.andThen_ok]
  rw [hq]
  cases (a0 == c0)
  · simp
  simp only [Result.andThen_ok, Bool.not_true, Bool.false_eq_true, if_false, p0, p1, Sem.run_bind]
  rw [hq]
  cases (a1 == c1) <;> simp

/-- By numbers. -/
def Sec.same (x y : Sec) : Bool := x.k == y.k && (((x.s0 == y.s0 && x.q0 == y.q0) && ((x.s1 == y.s1 && x.q1 == y.q1) && ((x.s2 == y.s2 && x.q2 == y.q2) && (x.s3 == y.s3 && x.q3 == y.q3)))) && (x.c0 == y.c0 && x.c1 == y.c1))
theorem Sec.same_iff {x y : Sec} : x.same y = true ↔ x = y := by
  cases x; cases y
  unfold Sec.same
  simp only [Bool.and_eq_true, beq_iff_eq, Sec.mk.injEq]
  constructor
  · rintro ⟨h0, ⟨⟨h1, h2⟩, ⟨h3, h4⟩, ⟨h5, h6⟩, h7, h8⟩, h9, h10⟩
    exact ⟨h0, h1, h2, h3, h4, h5, h6, h7, h8, h9, h10⟩
  · rintro ⟨h0, h1, h2, h3, h4, h5, h6, h7, h8, h9, h10⟩
    exact ⟨h0, ⟨⟨h1, h2⟩, ⟨h3, h4⟩, ⟨h5, h6⟩, h7, h8⟩, h9, h10⟩
theorem Sec.same_eq (x y : Sec) : x.same y = decide (x = y) := by rw [Bool.eq_iff_iff, Sec.same_iff, decide_eq_true_eq]

set_option maxHeartbeats 2000000 in
theorem eq_sec (w : World) (x y : Sec) : (Op.equalIn 10000 56 x.val y.val).run Tryz.prog w = .ok (x.same y) w := by
  have e4 := eq_arr4 w 9996 x.s0 x.q0 x.s1 x.q1 x.s2 x.q2 x.s3 x.q3 y.s0 y.q0 y.s1 y.q1 y.s2 y.q2 y.s3 y.q3
  have e2 := eq_arr2 w 9997 x.c0 x.c1 y.c0 y.c1
  simp only [Nat.reduceAdd] at e4 e2
  unfold Sec.same
  generalize ((x.s0 == y.s0 && x.q0 == y.q0) && ((x.s1 == y.s1 && x.q1 == y.q1) && ((x.s2 == y.s2 && x.q2 == y.q2) && (x.s3 == y.s3 && x.q3 == y.q3)))) = b4 at *
  generalize (x.c0 == y.c0 && x.c1 == y.c1) = b2 at *
  cases h1 : (x.k == y.k) <;> cases b4 <;> cases b2 <;> go_simp
theorem eql_sec (w : World) (x y : Sec) : (binOp .eql 56 x.val y.val).run Tryz.prog w = .ok (.bool (x.same y)) w := by
  rw [run_eql_struct, eq_sec]; rfl
theorem neq_sec (w : World) (x y : Sec) : (binOp .neq 56 x.val y.val).run Tryz.prog w = .ok (.bool (!x.same y)) w := by
  rw [run_neq_struct, eq_sec]; rfl

set_option maxHeartbeats 1000000 in
theorem eq_stp (w : World) (a b c a' b' c' : Int) : (Op.equalIn 10000 50 (stpV a b c) (stpV a' b' c')).run Tryz.prog w = .ok (a == a' && (b == b' && c == c')) w := by
  cases h1 : (a == a') <;> cases h2 : (b == b') <;> cases h3 : (c == c') <;> go_simp
set_option maxHeartbeats 1000000 in
theorem eq_flk (w : World) (a b c d a' b' c' d' : Int) : (Op.equalIn 10000 114 (flkV a b c d) (flkV a' b' c' d')).run Tryz.prog w = .ok (a == a' && (b == b' && (c == c' && d == d'))) w := by
  cases h1 : (a == a') <;> cases h2 : (b == b') <;> cases h3 : (c == c') <;> cases h4 : (d == d') <;> go_simp
set_option maxHeartbeats 1000000 in
theorem eq_sig (w : World) (a b a' b' : Int) : (Op.equalIn 10000 48 (prtV a b) (prtV a' b')).run Tryz.prog w = .ok (a == a' && b == b') w := by
  cases h1 : (a == a') <;> cases h2 : (b == b') <;> go_simp
def sameT (l m : Lay) : Bool := l.t0 == m.t0 && (l.t1 == m.t1 && (l.t2 == m.t2 && (l.t3 == m.t3 && (l.t4 == m.t4 && (l.t5 == m.t5 && l.t6 == m.t6)))))
abbrev Lay.tval (l : Lay) : Value := .agg #[.int .i64 l.t0, .int .i64 l.t1, .int .i64 l.t2, .int .i64 l.t3, .int .i64 l.t4, .int .i64 l.t5, .int .i64 l.t6]
set_option maxHeartbeats 2000000 in
theorem eq_times (w : World) (l m : Lay) : (Op.equalIn 10000 27 l.tval m.tval).run Tryz.prog w = .ok (sameT l m) w := by
  unfold sameT
  cases h0 : (l.t0 == m.t0)
  · go_simp
  cases h1 : (l.t1 == m.t1)
  · go_simp
  cases h2 : (l.t2 == m.t2)
  · go_simp
  cases h3 : (l.t3 == m.t3)
  · go_simp
  cases h4 : (l.t4 == m.t4)
  · go_simp
  cases h5 : (l.t5 == m.t5)
  · go_simp
  cases h6 : (l.t6 == m.t6) <;> go_simp
end Go.Proofs.YtlfpkileblmhoaaGreatDoor
namespace Go.Proofs.YtlfpkileblmhoaaGreatDoor
open Go.RowKit Go.Shelf
set_option linter.unusedVariables false
set_option linter.unusedSimpArgs false

section
variable {P : World → Prop} {w : World} {k p n a b c d : Int}
theorem portsR_P (hk : IsShape k p n a b c d) (h : P w) : Calls Tryz.prog 65 #[.int .u8 k] w fun e w' => e = .returned (.int .i64 p) ∧ P w' := by
  have hk4 : (k = 1 ∧ p = 2) ∨ (k = 2 ∧ p = 3) ∨ (k = 3 ∧ p = 4) ∨ ((¬ k = 1 ∧ ¬ k = 2 ∧ ¬ k = 3) ∧ p = 0) := by unfold IsShape at hk; omega
  clear hk
  rcases hk4 with ⟨rfl, rfl⟩ | ⟨rfl, rfl⟩ | ⟨rfl, rfl⟩ | ⟨⟨h1, h2, h3⟩, rfl⟩
  all_goals
    go_enter Tryz.func65, Tryz.ntmps65
    go_wp2_with fail
    go_ret
    exact ⟨rfl, h⟩
theorem waysR_P (hk : IsShape k p n a b c d) (h : P w) : Calls Tryz.prog 43 #[.int .u8 k] w fun e w' => e = .returned (.int .i64 n) ∧ P w' := by
  have hk4 : (k = 1 ∧ n = 1) ∨ (k = 2 ∧ n = 2) ∨ (k = 3 ∧ n = 2) ∨ ((¬ k = 1 ∧ ¬ k = 2 ∧ ¬ k = 3) ∧ n = 0) := by unfold IsShape at hk; omega
  clear hk
  rcases hk4 with ⟨rfl, rfl⟩ | ⟨rfl, rfl⟩ | ⟨rfl, rfl⟩ | ⟨⟨h1, h2, h3⟩, rfl⟩
  all_goals
    go_enter Tryz.func43, Tryz.ntmps43
    go_wp2_with fail
    go_ret
    exact ⟨rfl, h⟩
set_option maxHeartbeats 1000000 in
theorem endsR_P (y : Int) {u v : Int} {r : Bool} (hk : IsShape k p n a b c d) (hu : endA n a c y = u) (hv : endA n b d y = v) (hr : hasV n y = r) (h : P w) :
    Calls Tryz.prog 44 #[.int .u8 k, .int .i64 y] w fun e w' => e = .returned (.tuple #[.int .i64 u, .int .i64 v, .bool r]) ∧ P w' := by
  have HW := Lib.hid (fun w' h' => waysR_P (P := P) (w := w') hk h')
  have hn := isShape_n hk
  have hcase : (y < 0 ∧ u = 0 ∧ v = 0 ∧ r = false) ∨ (0 ≤ y ∧ n ≤ y ∧ u = 0 ∧ v = 0 ∧ r = false) ∨ (y = 0 ∧ 0 < n ∧ u = 0 ∧ v = 1 ∧ r = true) ∨ (y = 1 ∧ k = 2 ∧ n = 2 ∧ u = 0 ∧ v = 2 ∧ r = true) ∨ (y = 1 ∧ k = 3 ∧ n = 2 ∧ u = 2 ∧ v = 3 ∧ r = true) := by
    by_cases h1 : y < 0
    · have := hasV_no (n := n) (.inl h1)
      exact .inl ⟨h1, hu.symm.trans (endA_no this), hv.symm.trans (endA_no this), hr.symm.trans this⟩
    · by_cases h2 : n ≤ y
      · have := hasV_no (.inr h2)
        exact .inr (.inl ⟨by omega, h2, hu.symm.trans (endA_no this), hv.symm.trans (endA_no this), hr.symm.trans this⟩)
      · have hh : hasV n y = true := by unfold hasV; simp; omega
        unfold endA at hu hv
        rw [hh, if_pos rfl] at hu hv
        have hr' : r = true := hr.symm.trans hh
        by_cases h0 : y = 0
        · rw [if_pos h0] at hu hv
          refine .inr (.inr (.inl ⟨h0, by omega, ?_, ?_, hr'⟩)) <;> (unfold IsShape at hk; omega)
        · rw [if_neg h0] at hu hv
          unfold IsShape at hk
          rcases hk with hk | hk | hk | hk
          · omega
          · exact .inr (.inr (.inr (.inl ⟨by omega, hk.1, by omega, by omega, by omega, hr'⟩)))
          · exact .inr (.inr (.inr (.inr ⟨by omega, hk.1, by omega, by omega, by omega, hr'⟩)))
          · omega
  clear hk hu hv hr
  rcases hcase with ⟨h1, rfl, rfl, rfl⟩ | ⟨h1, h2, rfl, rfl, rfl⟩ | ⟨rfl, h1, rfl, rfl, rfl⟩ | ⟨rfl, rfl, rfl, rfl, rfl, rfl⟩ | ⟨rfl, rfl, rfl, rfl, rfl, rfl⟩
  · clear hn
    go_enter Tryz.func44, Tryz.ntmps44
    go_wp2_with fail
    exact bodyPost_ret (v := .tuple #[.int .i64 0, .int .i64 0, .bool false]) (by simp [results, Tryz.f44, go_sem]) rfl ⟨rfl, h⟩
  · clear hn
    go_enter Tryz.func44, Tryz.ntmps44
    go_wp2_with fail
    refine (HW.out _ h).mono ?_
    clear h
    rintro e w' ⟨rfl, h⟩
    go_wp2_with fail
    exact bodyPost_ret (v := .tuple #[.int .i64 0, .int .i64 0, .bool false]) (by simp [results, Tryz.f44, go_sem]) rfl ⟨rfl, h⟩
  · clear hn
    go_enter Tryz.func44, Tryz.ntmps44
    go_wp2_with fail
    refine (HW.out _ h).mono ?_
    clear h
    rintro e w' ⟨rfl, h⟩
    go_wp2_with fail
    exact bodyPost_ret (v := .tuple #[.int .i64 0, .int .i64 1, .bool true]) (by simp [results, Tryz.f44, go_sem]) rfl ⟨rfl, h⟩
  · clear hn
    go_enter Tryz.func44, Tryz.ntmps44
    go_wp2_with fail
    refine (HW.out _ h).mono ?_
    clear h
    rintro e w' ⟨rfl, h⟩
    go_wp2_with fail
    exact bodyPost_ret (v := .tuple #[.int .i64 0, .int .i64 2, .bool true]) (by simp [results, Tryz.f44, go_sem]) rfl ⟨rfl, h⟩
  · clear hn
    go_enter Tryz.func44, Tryz.ntmps44
    go_wp2_with fail
    refine (HW.out _ h).mono ?_
    clear h
    rintro e w' ⟨rfl, h⟩
    go_wp2_with fail
    exact bodyPost_ret (v := .tuple #[.int .i64 2, .int .i64 3, .bool true]) (by simp [results, Tryz.f44, go_sem]) rfl ⟨rfl, h⟩
end
end Go.Proofs.YtlfpkileblmhoaaGreatDoor
namespace Go.Proofs.YtlfpkileblmhoaaGreatDoor
open Go.RowKit Go.Shelf
set_option linter.unusedVariables false
set_option linter.unusedSimpArgs false

theorem waysL_succ {n a b c d : Int} {j : Nat} (hn : n = 0 ∨ n = 1 ∨ n = 2) (hj : (j : Int) < n) : (waysL n a b c d).take (j + 1) = (waysL n a b c d).take j ++ [((j : Int), endA n a c j, endA n b d j)] := by
  rcases hn with rfl | rfl | rfl
  · omega
  · obtain rfl : j = 0 := by omega
    rfl
  · have : j = 0 ∨ j = 1 := by omega
    rcases this with rfl | rfl <;> rfl
theorem hasV_yes {n : Int} {j : Nat} (hj : (j : Int) < n) : hasV n j = true := by unfold hasV; simp; omega

section
variable {P : World → Prop} {w : World} {k p n a b c d : Int}
set_option maxRecDepth 100000 in
set_option maxHeartbeats 4000000 in
theorem wayR_P (i o : Int) {v : Int} {r : Bool} (hk : IsShape k p n a b c d) (hv : wayV n a b c d i o = v) (hr : goesV n a b c d i o = r) (h : P w) :
    Calls Tryz.prog 22 #[.int .u8 k, .int .i64 i, .int .i64 o] w fun e w' => e = .returned (.tuple #[.int .i64 v, .bool r]) ∧ P w' := by
  have HW := Lib.hid (fun w' h' => waysR_P (P := P) (w := w') hk h')
  have HN := Lib.hid (isShape_n hk)
  have hn2 : n ≤ 2 := by have := HN.out; omega
  have HF : Hid (findW i o (waysL n a b c d) = if r = true then some v else none) := Lib.hid (by rw [findW_ways HN.out, hv, hr])
  have HZ : Hid (r = false → v = 0) := Lib.hid (by rw [← hv, ← hr]; exact wayV_none)
  have HE := Lib.hid (fun (y u v : Int) (r : Bool) hu hv hr w' h' => endsR_P (P := P) (w := w') y (u := u) (v := v) (r := r) hk hu hv hr h')
  clear hk hv hr
  go_enter Tryz.func22, Tryz.ntmps22
  go_wp2_with fail
  go_loopw [8] (fun x wr => ∃ j : Nat, (j : Int) ≤ max n 0 ∧ x = .int .i64 j ∧ Hid (findW i o ((waysL n a b c d).take j) = none) ∧ P wr)
    (fun x _ => n.toNat - (intOf x).toNat)
  case atStart => exact ⟨0, by omega, rfl, Lib.hid rfl, h⟩
  case round =>
    obtain ⟨j, hj, rfl, HNo, hp⟩ := hrel
    go_wp2_with fail
    refine (HW.out _ hp).mono ?_
    clear hp
    rintro e w1 ⟨rfl, hp⟩
    by_cases hlt : (j : Int) < n
    · obtain ⟨A, hA⟩ : ∃ A, endA n a c j = A := ⟨_, rfl⟩
      obtain ⟨B, hB⟩ : ∃ B, endA n b d j = B := ⟨_, rfl⟩
      have HSn : Hid (findW i o ((waysL n a b c d).take (j + 1)) = if joinV A B i o = true then some (j : Int) else none) := Lib.hid (by
        rw [waysL_succ HN.out hlt, hA, hB]
        exact findW_snoc HNo.out)
      have HA := Lib.hid hA
      have HB := Lib.hid hB
      clear hA hB
      go_wp2_with fail
      refine (HE.out j A B true HA.out HB.out (hasV_yes hlt) _ hp).mono ?_
      clear hp
      rintro e w2 ⟨rfl, hp⟩
      cases hjv : joinV A B i o
      · have HNx : Hid (findW i o ((waysL n a b c d).take (j + 1)) = none) := Lib.hid (by rw [HSn.out, hjv]; rfl)
        have hcase : (¬ i = A ∧ ¬ i = B) ∨ (¬ i = A ∧ i = B ∧ ¬ o = A) ∨ (i = A ∧ ¬ o = B ∧ ¬ i = B) ∨ (i = A ∧ ¬ o = B ∧ i = B ∧ ¬ o = A) := by
          unfold joinV at hjv
          rw [Bool.or_eq_false_iff, Bool.and_eq_false_iff, Bool.and_eq_false_iff] at hjv
          simp only [beq_eq_false_iff_ne] at hjv
          omega
        clear hjv HSn
        rcases hcase with ⟨h1, h2⟩ | ⟨h1, rfl, h3⟩ | ⟨rfl, h2, h3⟩ | ⟨rfl, h2, rfl, h4⟩
        all_goals
          go_wp2_with fail
          all_goals
            go_roundw
            case rel => exact ⟨j + 1, by omega, by go_num, HNx, hp⟩
            case measure => simp [intOf]; omega
      · have hfull : findW i o (waysL n a b c d) = some (j : Int) := findW_take (j := j + 1) (by rw [HSn.out, hjv]; rfl)
        rw [HF.out] at hfull
        have hrv : r = true ∧ v = j := by
          cases r
          · simp at hfull
          · exact ⟨rfl, by simpa using hfull⟩
        obtain ⟨rfl, hvj⟩ := hrv
        have HVJ := Lib.hid hvj
        have hcase : (i = A ∧ o = B) ∨ (i = B ∧ o = A ∧ ¬ i = A) ∨ (i = A ∧ ¬ o = B ∧ i = B ∧ o = A) := by
          unfold joinV at hjv
          rw [Bool.or_eq_true, Bool.and_eq_true, Bool.and_eq_true] at hjv
          simp only [beq_iff_eq] at hjv
          omega
        clear hjv HSn hfull hvj
        rcases hcase with ⟨rfl, rfl⟩ | ⟨rfl, rfl, h3⟩ | ⟨rfl, h2, h3, h4⟩
        · go_wp2_with fail
          go_ret2
          exact ⟨by rw [HVJ.out]; rfl, hp⟩
        · go_wp2_with fail
          go_ret2
          exact ⟨by rw [HVJ.out]; rfl, hp⟩
        · exact absurd (h4.trans h3) h2
    · obtain rfl : j = n.toNat := by omega
      have hall : (waysL n a b c d).take n.toNat = waysL n a b c d := List.take_of_length_le (by unfold waysL; rw [List.length_take]; omega)
      have hno := HNo.out
      rw [hall, HF.out] at hno
      have hr0 : r = false := by cases r <;> simp at hno ⊢
      subst hr0
      have HV0 := Lib.hid (HZ.out rfl)
      clear hall hno
      go_wp2_with fail
      go_ret2
      exact ⟨by rw [HV0.out]; rfl, hp⟩
end

set_option maxHeartbeats 4000000 in
theorem mayR_P {P : World → Prop} {w : World} (hP : Closed P) (s p : Int) {r : Bool} (hr : mayV s p = r) (h : P w) : Calls Tryz.prog 119 #[.agg #[.int .i64 s, .int .i64 p]] w fun e w' => e = .returned (.bool r) ∧ P w' := by
  have hte : ¬ s = -1 ∨ (s = -1 ∧ ¬ p = 0) ∨ (s = -1 ∧ p = 0) := by omega
  have HR : Hid (r = ((s == -1 && p == 0) || (withinV s 23 && withinV p 3))) := Lib.hid hr.symm
  clear hr
  rcases hte with hs | ⟨rfl, hq⟩ | ⟨rfl, rfl⟩
  all_goals
    go_enter Tryz.func119, Tryz.ntmps119
    go_wp2_with fail
    all_goals
      go_ret
      exact ⟨ret_bool (by rw [HR.out, Bool.eq_iff_iff]; simp [withinV]; try omega), hP _ _ h (below1 _ _)⟩
end Go.Proofs.YtlfpkileblmhoaaGreatDoor
namespace Go.Proofs.YtlfpkileblmhoaaGreatDoor
open Go.RowKit Go.Shelf
set_option linter.unusedVariables false
set_option linter.unusedSimpArgs false

set_option maxRecDepth 100000 in
set_option maxHeartbeats 8000000 in
theorem rightR_P {P : World → Prop} {w : World} (hP : Closed P) (k s0 q0 s1 q1 s2 q2 s3 q3 c0 c1 : Int) {p n a b c d : Int} {r : Bool} (hs : IsShape k p n a b c d) (hr : rightV p n s0 q0 s1 q1 s2 q2 s3 q3 c0 c1 = r) (h : P w) :
    Calls Tryz.prog 83 #[secV k s0 q0 s1 q1 s2 q2 s3 q3 c0 c1] w fun e w' => e = .returned (.bool r) ∧ P w' := by
  obtain ⟨hp0, hp4⟩ := isShape_p hs
  obtain ⟨js, HJ⟩ : ∃ js : Nat → Int × Int, Hid (js 0 = (s0, q0) ∧ js 1 = (s1, q1) ∧ js 2 = (s2, q2) ∧ js 3 = (s3, q3)) := ⟨fun j => match j with | 0 => (s0, q0) | 1 => (s1, q1) | 2 => (s2, q2) | _ => (s3, q3), Lib.hid ⟨rfl, rfl, rfl, rfl⟩⟩
  obtain ⟨cl, HCl⟩ : ∃ cl : Nat → Int, Hid (cl 0 = c0 ∧ cl 1 = c1) := ⟨fun j => match j with | 0 => c0 | _ => c1, Lib.hid ⟨rfl, rfl⟩⟩
  have HR : Hid (r = ((p != 0) && allOk p js 4 && allCl n cl 2)) := Lib.hid (by
    obtain ⟨e0, e1, e2, e3⟩ := HJ.out
    obtain ⟨f0, f1⟩ := HCl.out
    rw [← hr]
    simp only [rightV, allOk, allCl, e0, e1, e2, e3, f0, f1, Bool.true_and])
  obtain ⟨Q, HQ, HQp, HQw, hq⟩ := keep_whole hP (hP _ _ h (below1 w _)) (Whole.new w 56 [.int .u8 k, .int .i64 s0, .int .i64 q0, .int .i64 s1, .int .i64 q1, .int .i64 s2, .int .i64 q2, .int .i64 s3, .int .i64 q3, .int .i64 c0, .int .i64 c1])
  have HPo := Lib.hid (fun wx hx => portsR_P (P := Q) (w := wx) hs hx)
  have HWa := Lib.hid (fun wx hx => waysR_P (P := Q) (w := wx) hs hx)
  have HJc : Hid (∀ j, j < 4 → ∀ W, Q W → W.cell? ⟨w.heap.size, 1 + j * 2, none⟩ = some (.int .i64 (js j).1) ∧ W.cell? ⟨w.heap.size, 1 + j * 2 + 1, none⟩ = some (.int .i64 (js j).2)) := Lib.hid (by
    intro j hj W hW
    have m1 := HQw.out _ hW
    obtain ⟨e0, e1, e2, e3⟩ := HJ.out
    have : j = 0 ∨ j = 1 ∨ j = 2 ∨ j = 3 := by omega
    rcases this with rfl | rfl | rfl | rfl
    · rw [e0]; exact ⟨m1.cell_at 1 rfl, m1.cell_at 2 rfl⟩
    · rw [e1]; exact ⟨m1.cell_at 3 rfl, m1.cell_at 4 rfl⟩
    · rw [e2]; exact ⟨m1.cell_at 5 rfl, m1.cell_at 6 rfl⟩
    · rw [e3]; exact ⟨m1.cell_at 7 rfl, m1.cell_at 8 rfl⟩)
  have HCc : Hid (∀ j, j < 2 → ∀ W, Q W → W.cell? ⟨w.heap.size, 9 + j, none⟩ = some (.int .i64 (cl j))) := Lib.hid (by
    intro j hj W hW
    have m1 := HQw.out _ hW
    obtain ⟨e0, e1⟩ := HCl.out
    have : j = 0 ∨ j = 1 := by omega
    rcases this with rfl | rfl
    · rw [e0]; exact m1.cell_at 9 rfl
    · rw [e1]; exact m1.cell_at 10 rfl)
  have HKd : Hid (∀ W, Q W → W.cell? ⟨w.heap.size, 0, none⟩ = some (.int .u8 k)) := Lib.hid fun W hW => (HQw.out _ hW).cell_at 0 rfl
  clear hs hr h
  go_enter Tryz.func83, Tryz.ntmps83
  go_wp2_with fail
  go_loopw [3] (fun i wr => ∃ j : Nat, j ≤ 4 ∧ i = .int .i64 j ∧ Q wr ∧ Hid (allOk p js j = true))
    (fun i _ => 4 - (intOf i).toNat)
  case atStart => exact ⟨0, by omega, rfl, hq, Lib.hid rfl⟩
  case round =>
    obtain ⟨j, hj, rfl, hq, HOK⟩ := hrel
    by_cases hlt : j < 4
    · have hlt' : (j : Int) < 4 := by omega
      have HLT := Lib.hid hlt
      obtain ⟨s, hs⟩ : ∃ s, (js j).1 = s := ⟨_, rfl⟩
      obtain ⟨q, hqq⟩ : ∃ s, (js j).2 = s := ⟨_, rfl⟩
      have HC : Hid (∀ W, Q W → W.cell? ⟨w.heap.size, 1 + j * 2, none⟩ = some (.int .i64 s) ∧ W.cell? ⟨w.heap.size, 1 + j * 2 + 1, none⟩ = some (.int .i64 q)) := Lib.hid (by rw [← hs, ← hqq]; exact HJc.out j hlt)
      have HN0 : Hid (∀ r, joinOk p j s q = r → joinOk p j (js j).1 (js j).2 = r) := Lib.hid (by rw [hs, hqq]; exact fun r h => h)
      clear hs hqq hlt
      have hk0 := HKd.out _ hq
      go_wp2_with fail
      refine (HPo.out _ hq).mono ?_
      clear hk0 hq
      rintro e w1 ⟨rfl, hq⟩
      by_cases hjp : (j : Int) < p
      · have hd2 : decide (p ≤ (j : Int)) = false := by simp; omega
        obtain ⟨e0, e1⟩ := HC.out _ hq
        go_wp2_with fail
        refine (mayR_P HQ.out s q rfl hq).mono ?_
        cases hm : mayV s q
        · have HF := Lib.hid (show false = r by rw [HR.out, allOk_no (HN0.out false (by unfold joinOk; rw [if_pos hjp]; exact hm)) 4 HLT.out, Bool.and_false, Bool.false_and])
          clear hm e0 e1 hq
          rintro e w2 ⟨rfl, hq⟩
          go_wp2_with fail
          go_ret
          exact ⟨ret_bool HF.out, HQp.out _ hq⟩
        · have HN := Lib.hid (HN0.out true (by unfold joinOk; rw [if_pos hjp]; exact hm))
          clear hm e0 e1 hq
          rintro e w2 ⟨rfl, hq⟩
          have hk0 := HKd.out _ hq
          go_wp2_with fail
          refine (HPo.out _ hq).mono ?_
          clear hk0 hq
          rintro e w3 ⟨rfl, hq⟩
          go_wp2_with fail
          go_roundw
          case rel => exact ⟨j + 1, HLT.out, by go_num, hq, Lib.hid (by unfold allOk; rw [HOK.out, HN.out]; rfl)⟩
          case measure => simp [intOf]; omega
      · have hd1 : decide ((j : Int) < p) = false := by simp; omega
        have hd2 : decide (p ≤ (j : Int)) = true := by simp; omega
        have hk0 := HKd.out _ hq
        go_wp2_with fail
        refine (HPo.out _ hq).mono ?_
        clear hk0 hq
        rintro e w2 ⟨rfl, hq⟩
        obtain ⟨e0, e1⟩ := HC.out _ hq
        by_cases hm : s = -1 ∧ q = 0
        · obtain ⟨rfl, rfl⟩ := hm
          have HN := Lib.hid (HN0.out true (by unfold joinOk; rw [if_neg (by omega)]; rfl))
          go_wp2_with fail
          go_roundw
          case rel => exact ⟨j + 1, HLT.out, by go_num, hq, Lib.hid (by unfold allOk; rw [HOK.out, HN.out]; rfl)⟩
          case measure => simp [intOf]; omega
        · have HF := Lib.hid (show false = r by rw [HR.out, allOk_no (HN0.out false (by unfold joinOk; rw [if_neg (by omega), Bool.and_eq_false_iff, beq_eq_false_iff_ne, beq_eq_false_iff_ne]; omega)) 4 HLT.out, Bool.and_false, Bool.false_and])
          have hs : ¬ s = -1 ∨ (s = -1 ∧ ¬ q = 0) := by omega
          clear hm
          rcases hs with hs | ⟨rfl, hqz⟩
          all_goals
            go_wp2_with fail
            go_ret
            exact ⟨ret_bool HF.out, HQp.out _ hq⟩
    · obtain rfl : j = 4 := by omega
      rw [show ((4 : Nat) : Int) = 4 from rfl]
      go_wp2_with fail
      go_loopw [4] (fun i wr => ∃ j : Nat, j ≤ 2 ∧ i = .int .i64 j ∧ Q wr ∧ Hid (allCl n cl j = true))
        (fun i _ => 2 - (intOf i).toNat)
      case atStart => exact ⟨0, by omega, rfl, hq, Lib.hid rfl⟩
      case round =>
        obtain ⟨j, hj2, rfl, hq, HOK2⟩ := hrel
        by_cases hlt2 : j < 2
        · have hlt' : (j : Int) < 2 := by omega
          have HLT := Lib.hid hlt2
          obtain ⟨e, he⟩ : ∃ s, cl j = s := ⟨_, rfl⟩
          have HC : Hid (∀ W, Q W → W.cell? ⟨w.heap.size, 9 + j, none⟩ = some (.int .i64 e)) := Lib.hid (by rw [← he]; exact HCc.out j hlt2)
          have HN0 : Hid (∀ r, classOk n j e = r → classOk n j (cl j) = r) := Lib.hid (by rw [he]; exact fun r h => h)
          clear he hlt2
          have hce := HC.out _ hq
          have hcl : e < 0 ∨ 3 < e ∨ (0 ≤ e ∧ e ≤ 3) := by omega
          rcases hcl with h1 | h1 | ⟨h1, h3⟩
          · have HF := Lib.hid (show false = r by rw [HR.out, allCl_no (HN0.out false (by unfold classOk withinV; split <;> simp <;> omega)) 2 HLT.out, Bool.and_false])
            go_wp2_with fail
            go_ret
            exact ⟨ret_bool HF.out, HQp.out _ hq⟩
          · have HF := Lib.hid (show false = r by rw [HR.out, allCl_no (HN0.out false (by unfold classOk withinV; split <;> simp <;> omega)) 2 HLT.out, Bool.and_false])
            go_wp2_with fail
            go_ret
            exact ⟨ret_bool HF.out, HQp.out _ hq⟩
          · have hk0 := HKd.out _ hq
            go_wp2_with fail
            refine (HWa.out _ hq).mono ?_
            clear hk0 hq hce
            rintro e w2 ⟨rfl, hq⟩
            have hce := HC.out _ hq
            by_cases hjn : (j : Int) < n
            · have hd2 : decide (n ≤ (j : Int)) = false := by simp; omega
              have HN := Lib.hid (HN0.out true (by unfold classOk withinV; rw [if_pos hjn]; simp; omega))
              go_wp2_with fail
              go_roundw
              case rel => exact ⟨j + 1, HLT.out, by go_num, hq, Lib.hid (by unfold allCl; rw [HOK2.out, HN.out]; rfl)⟩
              case measure => simp [intOf]; omega
            · have hd2 : decide (n ≤ (j : Int)) = true := by simp; omega
              by_cases hz : e = 0
              · subst hz
                have HN := Lib.hid (HN0.out true (by unfold classOk; rw [if_neg (by omega)]; rfl))
                go_wp2_with fail
                go_roundw
                case rel => exact ⟨j + 1, HLT.out, by go_num, hq, Lib.hid (by unfold allCl; rw [HOK2.out, HN.out]; rfl)⟩
                case measure => simp [intOf]; omega
              · have HF := Lib.hid (show false = r by rw [HR.out, allCl_no (HN0.out false (by unfold classOk; rw [if_neg (by omega)]; simpa using hz)) 2 HLT.out, Bool.and_false])
                have hz' : (e != 0) = true := by simpa using hz
                go_wp2_with fail
                go_ret
                exact ⟨ret_bool HF.out, HQp.out _ hq⟩
        · obtain rfl : j = 2 := by omega
          rw [show ((2 : Nat) : Int) = 2 from rfl]
          have HF := Lib.hid (show decide (0 < p) = r by rw [HR.out, HOK.out, HOK2.out, Bool.and_true, Bool.and_true, Bool.eq_iff_iff]; simp; omega)
          have hk0 := HKd.out _ hq
          go_wp2_with fail
          refine (HPo.out _ hq).mono ?_
          clear hk0 hq
          rintro e w3 ⟨rfl, hq⟩
          go_wp2_with fail
          go_ret
          exact ⟨ret_bool HF.out, HQp.out _ hq⟩
end Go.Proofs.YtlfpkileblmhoaaGreatDoor
namespace Go.Proofs.YtlfpkileblmhoaaGreatDoor
open Go.RowKit Go.Shelf
set_option linter.unusedVariables false
set_option linter.unusedSimpArgs false

/-- Too great to be asked? -/
def greatV (l : Lay) : Bool := ((l.exits.take 31).any fun x => decide (20 < (x.over.length : Int))) || (decide (40 < (l.secs.length : Int)) || (decide (30 < (l.sigs.length : Int)) || (decide (30 < (l.exits.length : Int)) || decide (40 < (l.flanks.length : Int)))))
theorem great_no {l : Lay} (h : greatV l = false) : l.secs.length ≤ 40 ∧ l.sigs.length ≤ 30 ∧ l.exits.length ≤ 30 ∧ l.flanks.length ≤ 40 ∧ ∀ x ∈ l.exits, x.over.length ≤ 20 := by
  unfold greatV at h
  simp only [Bool.or_eq_false_iff, decide_eq_false_iff_not] at h
  obtain ⟨h0, h1, h2, h3, h4⟩ := h
  refine ⟨by omega, by omega, by omega, by omega, fun x hx => ?_⟩
  rw [List.take_of_length_le (by omega), List.any_eq_false] at h0
  have := h0 x hx
  rw [decide_eq_true_eq] at this
  omega
section
variable {P : World → Prop} {w : World}
end
end Go.Proofs.YtlfpkileblmhoaaGreatDoor
namespace Go.Proofs.YtlfpkileblmhoaaGreatDoor
open Go.RowKit Go.Shelf
set_option linter.unusedVariables false
set_option linter.unusedSimpArgs false

attribute [local go_sem] Oper.semAt_some

set_option maxRecDepth 100000 in
set_option maxHeartbeats 4000000 in
theorem valuesInt_iter {w0 : World} {g n0 c : Nat} {A : Option Addr} {xs : List (Int)} (hbox : Whole w0 g 33 [.slice A xs.length c]) (hrow : Row w0 n0 A (nums .i64 xs)) (hn : (xs.length : Int) ≤ 9223372036854775807) :
    Iter Tryz.prog 137 #[.pointer (some ⟨g, 0, none⟩)] (fun x : Int => #[.int .i64 x]) xs (fun k => k < n0 ∨ k = g) w0 := by
  intro l S J Jx W hk0 hS hJ hJx hY h0
  have hbox := hk0.whole (.inr rfl) hbox
  have HD : Hid (∀ k, S k → ¬ (k < n0 ∨ k = g)) := Lib.hid (fun k hk => (hS k hk).1)
  have x0 := hbox.cell_at 0 rfl
  clear hbox hS
  refine (callsIn_wide (n := 3)).1 ?_
  refine callsIn_of_wp Tryz.func137 rfl trivial ?_ rfl
  simp only [Tryz.ntmps137, List.size_toArray, List.length_cons, List.length_nil, Nat.reduceAdd, Nat.reduceSub, Array.replicate_succ, Array.replicate_zero, List.push_toArray, List.append_toArray, List.nil_append, List.cons_append]
  gi_wp2
  clear x0
  gi_loopw [7] (fun i wr => ∃ j : Nat, j ≤ xs.length ∧ i = .int .i64 j ∧ J j wr ∧ Keeps (fun k => k < n0 ∨ k = g) w0 wr)
    (fun i _ => xs.length - (intOf i).toNat)
  case atStart => exact ⟨0, by omega, rfl, h0, hk0⟩
  case round =>
    obtain ⟨j, hj, rfl, hJs, hk⟩ := hrel
    by_cases hlt : j < xs.length
    · have hlt' : (j : Int) < xs.length := by omega
      obtain ⟨x, hx⟩ : ∃ x, xs[j]? = some x := ⟨_, List.getElem?_eq_getElem hlt⟩
      have HX := Lib.hid hx
      clear hx
      obtain ⟨b, off, rfl, _, c0⟩ : ∃ b off, A = some ⟨b, off, none⟩ ∧ b < n0 ∧ wr.cell? ⟨b, off + j, none⟩ = some (.int .i64 x) := by
        obtain ⟨b, off, e, h1, h2⟩ := (hrow.keeps hk (fun k hk => .inl hk)).num hlt
        rw [HX.out] at h2
        exact ⟨b, off, e, h1, h2⟩
      obtain ⟨fn, tmps, assign, body, hy, hR⟩ := hY j x wr HX.out hJs
      have HR := Lib.hid hR
      clear hR
      gi_wp2
      refine RoundIn.mono (RoundIn.wide HR.out) ?_
      clear HR hy
      rintro e W3 (⟨rfl, hJ3, hk3⟩ | ⟨rfl, hJx3, hk3⟩)
      · gi_wp2
        go_roundw
        case rel => exact ⟨j + 1, hlt, by go_num, hJ3, hk.trans (hk3.keeps HD.out)⟩
        case measure => simp [intOf]; omega
      · gi_wp2
        refine bodyPost_ret (results_none rfl _ _ _) rfl ?_
        exact ⟨⟨_, rfl⟩, .inr hJx3⟩
    · obtain rfl : j = xs.length := by omega
      gi_wp2
      go_end0
      exact ⟨⟨_, rfl⟩, .inl hJs⟩

set_option maxRecDepth 100000 in
set_option maxHeartbeats 4000000 in
theorem valuesFlank_iter {w0 : World} {g n0 c : Nat} {A : Option Addr} {xs : List (Int × Int × Int × Int)} (hbox : Whole w0 g 25 [.slice A xs.length c]) (hrow : Row w0 n0 A (xs.flatMap flkCells)) (hn : (xs.length : Int) ≤ 9223372036854775807) :
    Iter Tryz.prog 130 #[.pointer (some ⟨g, 0, none⟩)] (fun x : Int × Int × Int × Int => #[(flkV x.1 x.2.1 x.2.2.1 x.2.2.2)]) xs (fun k => k < n0 ∨ k = g) w0 := by
  intro l S J Jx W hk0 hS hJ hJx hY h0
  have hbox := hk0.whole (.inr rfl) hbox
  have HD : Hid (∀ k, S k → ¬ (k < n0 ∨ k = g)) := Lib.hid (fun k hk => (hS k hk).1)
  have x0 := hbox.cell_at 0 rfl
  clear hbox hS
  refine (callsIn_wide (n := 3)).1 ?_
  refine callsIn_of_wp Tryz.func130 rfl trivial ?_ rfl
  simp only [Tryz.ntmps130, List.size_toArray, List.length_cons, List.length_nil, Nat.reduceAdd, Nat.reduceSub, Array.replicate_succ, Array.replicate_zero, List.push_toArray, List.append_toArray, List.nil_append, List.cons_append]
  gi_wp2
  clear x0
  gi_loopw [7] (fun i wr => ∃ j : Nat, j ≤ xs.length ∧ i = .int .i64 j ∧ J j wr ∧ Keeps (fun k => k < n0 ∨ k = g) w0 wr)
    (fun i _ => xs.length - (intOf i).toNat)
  case atStart => exact ⟨0, by omega, rfl, h0, hk0⟩
  case round =>
    obtain ⟨j, hj, rfl, hJs, hk⟩ := hrel
    by_cases hlt : j < xs.length
    · have hlt' : (j : Int) < xs.length := by omega
      obtain ⟨x, hx⟩ : ∃ x, xs[j]? = some x := ⟨_, List.getElem?_eq_getElem hlt⟩
      have HX := Lib.hid hx
      clear hx
      obtain ⟨b, off, hA, _, hc0, hc⟩ := (hrow.keeps hk (fun k hk => .inl hk)).nth (n := 4) (fun _ => rfl) (by omega) HX.out
      subst hA
      have c0 := hc0 j x _ HX.out rfl
      have c1 := hc j x 1 _ HX.out rfl
      have c2 := hc j x 2 _ HX.out rfl
      have c3 := hc j x 3 _ HX.out rfl
      clear hc0 hc
      have hJa := hJ.alloc (.cells (flkCells x).toArray 114) hJs
      obtain ⟨fn, tmps, assign, body, hy, hR⟩ := hY j x _ HX.out hJa
      have HR := Lib.hid hR
      clear hR
      gi_wp2
      refine RoundIn.mono (RoundIn.wide HR.out) ?_
      clear HR hy
      rintro e W3 (⟨rfl, hJ3, hk3⟩ | ⟨rfl, hJx3, hk3⟩)
      · gi_wp2
        go_roundw
        case rel => exact ⟨j + 1, hlt, by go_num, hJ3, hk.trans ((Keeps.below (below1 wr _)).trans (hk3.keeps HD.out))⟩
        case measure => simp [intOf]; omega
      · gi_wp2
        refine bodyPost_ret (results_none rfl _ _ _) rfl ?_
        exact ⟨⟨_, rfl⟩, .inr hJx3⟩
    · obtain rfl : j = xs.length := by omega
      gi_wp2
      go_end0
      exact ⟨⟨_, rfl⟩, .inl hJs⟩
end Go.Proofs.YtlfpkileblmhoaaGreatDoor
namespace Go.Proofs.YtlfpkileblmhoaaGreatDoor
open Go.RowKit Go.Shelf
set_option linter.unusedVariables false
set_option linter.unusedSimpArgs false

attribute [local go_sem] Oper.semAt_some

theorem at_pre {α : Type} {pre r xs : List α} {y : α} (h : pre ++ (y :: r) = xs) : xs[pre.length]? = some y := by rw [← h, List.getElem?_append_right (Nat.le_refl _), Nat.sub_self]; rfl
theorem drop_at {α : Type} {l : List α} {i : Nat} {x : α} (h : l[i]? = some x) : l.drop i = x :: l.drop (i + 1) := by
  obtain ⟨hi, rfl⟩ := List.getElem?_eq_some_iff.1 h
  exact List.drop_eq_getElem_cons hi
theorem push_pre {α : Type} {pre r xs : List α} {y : α} (h : pre ++ (y :: r) = xs) : (pre ++ [y]) ++ r = xs := by rw [← h]; simp
/-- All steps of overlaps. -/
def stepsL (l : Lay) : List (Int × Int × Int) := l.exits.flatMap Exm.over
/-- The ports to which a section joins; those of all. -/
def Sec.ports4 (s : Sec) : List (Int × Int) := [(s.s0, s.q0), (s.s1, s.q1), (s.s2, s.q2), (s.s3, s.q3)]
def joinsL (l : Lay) : List (Int × Int) := l.secs.flatMap fun s => s.ports4.filter fun p => decide (0 ≤ p.1)

set_option maxRecDepth 100000 in
set_option maxHeartbeats 4000000 in
theorem steps_iter {w0 : World} {g n0 : Nat} {l : Lay} (hbox : Whole w0 g 29 l.cells) (hrow : Row w0 n0 l.Ae (l.exits.flatMap Exm.cells)) (hovers : ∀ x ∈ l.exits, Row w0 n0 x.A (x.over.flatMap stpCells))
    (hn : (l.exits.length : Int) ≤ 9223372036854775807) (hno : ∀ x ∈ l.exits, (x.over.length : Int) ≤ 9223372036854775807) :
    Iter Tryz.prog 129 #[.pointer (some ⟨g, 0, none⟩)] (fun x : Int × Int × Int => #[(stpV x.1 x.2.1 x.2.2)]) (stepsL l) (fun k => k < n0 ∨ k = g) w0 := by
  intro L S J Jx W hk0 hS hJ hJx hY h0
  have hbox := hk0.whole (.inr rfl) hbox
  have HD : Hid (∀ k, S k → ¬ (k < n0 ∨ k = g)) := Lib.hid (fun k hk => (hS k hk).1)
  obtain ⟨xs, HXS⟩ : ∃ xs, Hid (stepsL l = xs) := ⟨_, Lib.hid rfl⟩
  rw [HXS.out] at hY ⊢
  have x2 := hbox.cell_at 2 rfl
  clear hbox hS
  generalize l.Ae = A at hrow x2
  refine (callsIn_wide (n := 3)).1 ?_
  refine callsIn_of_wp Tryz.func129 rfl trivial ?_ rfl
  simp only [Tryz.ntmps129, List.size_toArray, List.length_cons, List.length_nil, Nat.reduceAdd, Nat.reduceSub, Array.replicate_succ, Array.replicate_zero, List.push_toArray, List.append_toArray, List.nil_append, List.cons_append]
  gi_wp2
  clear x2
  gi_loopw [10] (fun i wr => ∃ (j : Nat) (pre : List (Int × Int × Int)), j ≤ l.exits.length ∧ i = .int .i64 j ∧ J pre.length wr ∧ Keeps (fun k => k < n0 ∨ k = g) w0 wr ∧ Hid (pre ++ (l.exits.drop j).flatMap Exm.over = xs))
    (fun i _ => l.exits.length - (intOf i).toNat)
  case atStart => exact ⟨0, [], by omega, rfl, h0, hk0, Lib.hid (by rw [← HXS.out]; rfl)⟩
  case round =>
    obtain ⟨j, pre, hj, rfl, hJs, hk, HP⟩ := hrel
    by_cases hlt : j < l.exits.length
    · have hlt' : (j : Int) < l.exits.length := by omega
      obtain ⟨x, hx⟩ : ∃ x, l.exits[j]? = some x := ⟨_, List.getElem?_eq_getElem hlt⟩
      obtain ⟨rest, HRe⟩ : ∃ rest, Hid ((l.exits.drop (j + 1)).flatMap Exm.over = rest) := ⟨_, Lib.hid rfl⟩
      have HP1 : Hid (pre ++ (x.over ++ rest) = xs) := Lib.hid (by rw [← HP.out, drop_at hx, List.flatMap_cons, HRe.out])
      have hMem := List.mem_of_getElem? hx
      have HOv := Lib.hid (hovers x hMem)
      have hno' := hno x hMem
      clear HP
      obtain ⟨xs', xq, xA, xc, xo⟩ := x
      simp only at HP1 HOv hno' hx
      have HX := Lib.hid hx
      clear hx hMem
      obtain ⟨b, off, rfl, _, hc0, hc⟩ := (hrow.keeps hk (fun k hk => .inl hk)).nth (n := 3) (fun _ => rfl) (by omega) HX.out
      have c0 := hc0 j _ _ HX.out rfl
      have c1 := hc j _ 1 _ HX.out rfl
      have c2 := hc j _ 2 _ HX.out rfl
      clear hc0 hc
      have HJ1 := Lib.hid (hJ.alloc (.cells #[.int .i64 xs', .int .i64 xq, .slice xA xo.length xc] 59) hJs)
      have HK1 := Lib.hid (hk.trans (Keeps.below (below1 wr (.cells #[.int .i64 xs', .int .i64 xq, .slice xA xo.length xc] 59))))
      gi_wp2
      clear c0 c1 c2
      gi_loopw [17] (fun i wr => ∃ (q : Nat) (pre : List (Int × Int × Int)), q ≤ xo.length ∧ i = .int .i64 q ∧ J pre.length wr ∧ Keeps (fun k => k < n0 ∨ k = g) w0 wr ∧ Hid (pre ++ (xo.drop q ++ rest) = xs))
        (fun i _ => xo.length - (intOf i).toNat)
      case atStart => exact ⟨0, pre, by omega, rfl, HJ1.out, HK1.out, HP1⟩
      case round =>
        clear HJ1 HK1 HP1 hJs hk
        obtain ⟨q, pre, hq, rfl, hJs, hk, HP⟩ := hrel
        by_cases hql : q < xo.length
        · have hql' : (q : Int) < xo.length := by omega
          obtain ⟨y, hy0⟩ : ∃ y, xo[q]? = some y := ⟨_, List.getElem?_eq_getElem hql⟩
          have HP1 : Hid (pre ++ (y :: (xo.drop (q + 1) ++ rest)) = xs) := Lib.hid (by rw [← HP.out, drop_at hy0]; rfl)
          clear HP
          have HYY := Lib.hid hy0
          clear hy0
          obtain ⟨b2, off2, rfl, _, hc0, hc⟩ := (HOv.out.keeps hk (fun k hk => .inl hk)).nth (n := 3) (fun _ => rfl) (by omega) HYY.out
          have d0 := hc0 q y _ HYY.out rfl
          have d1 := hc q y 1 _ HYY.out rfl
          have d2 := hc q y 2 _ HYY.out rfl
          clear hc0 hc
          have hJa := hJ.alloc (.cells (stpCells y).toArray 50) hJs
          obtain ⟨fn, tmps, assign, body, hy, hR⟩ := hY pre.length y _ (at_pre HP1.out) hJa
          have HR := Lib.hid hR
          clear hR
          gi_wp2
          refine RoundIn.mono (RoundIn.wide HR.out) ?_
          clear HR hy
          rintro e W3 (⟨rfl, hJ3, hk3⟩ | ⟨rfl, hJx3, hk3⟩)
          · gi_wp2
            go_roundw
            case rel => exact ⟨q + 1, pre ++ [y], hql, by go_num, by rw [List.length_append]; exact hJ3, hk.trans ((Keeps.below (below1 wr _)).trans (hk3.keeps HD.out)), Lib.hid (push_pre HP1.out)⟩
            case measure => simp [intOf]; omega
          · gi_wp2
            refine bodyPost_ret (results_none rfl _ _ _) rfl ?_
            exact ⟨⟨_, rfl⟩, .inr hJx3⟩
        · obtain rfl : q = xo.length := by omega
          have HP1 : Hid (pre ++ rest = xs) := Lib.hid (by rw [← HP.out, List.drop_length]; rfl)
          clear HP
          gi_wp2
          go_roundw
          case rel => exact ⟨j + 1, pre, hlt, by go_num, hJs, hk, Lib.hid (by rw [HRe.out]; exact HP1.out)⟩
          case measure => simp [intOf]; omega
    · obtain rfl : j = l.exits.length := by omega
      have HE : Hid (pre.length = xs.length) := Lib.hid (by rw [← HP.out, List.drop_length]; simp)
      gi_wp2
      go_end0
      exact ⟨⟨_, rfl⟩, .inl (HE.out ▸ hJs)⟩

set_option maxRecDepth 100000 in
set_option maxHeartbeats 4000000 in
theorem joins_iter {w0 : World} {g n0 : Nat} {l : Lay} (hbox : Whole w0 g 29 l.cells) (hrow : Row w0 n0 l.As (l.secs.flatMap Sec.cells)) (hn : (l.secs.length : Int) ≤ 9223372036854775807) :
    Iter Tryz.prog 142 #[.pointer (some ⟨g, 0, none⟩)] (fun x : Int × Int => #[(prtV x.1 x.2)]) (joinsL l) (fun k => k < n0 ∨ k = g) w0 := by
  intro L S J Jx W hk0 hS hJ hJx hY h0
  have hbox := hk0.whole (.inr rfl) hbox
  have HD : Hid (∀ k, S k → ¬ (k < n0 ∨ k = g)) := Lib.hid (fun k hk => (hS k hk).1)
  obtain ⟨xs, HXS⟩ : ∃ xs, Hid (joinsL l = xs) := ⟨_, Lib.hid rfl⟩
  rw [HXS.out] at hY ⊢
  have x0 := hbox.cell_at 0 rfl
  clear hbox hS
  generalize l.As = A at hrow x0
  refine (callsIn_wide (n := 3)).1 ?_
  refine callsIn_of_wp Tryz.func142 rfl trivial ?_ rfl
  simp only [Tryz.ntmps142, List.size_toArray, List.length_cons, List.length_nil, Nat.reduceAdd, Nat.reduceSub, Array.replicate_succ, Array.replicate_zero, List.push_toArray, List.append_toArray, List.nil_append, List.cons_append]
  gi_wp2
  clear x0
  gi_loopw [10] (fun i wr => ∃ (j : Nat) (pre : List (Int × Int)), j ≤ l.secs.length ∧ i = .int .i64 j ∧ J pre.length wr ∧ Keeps (fun k => k < n0 ∨ k = g) w0 wr ∧ Hid (pre ++ ((l.secs.drop j).flatMap fun s => s.ports4.filter fun p => decide (0 ≤ p.1)) = xs))
    (fun i _ => l.secs.length - (intOf i).toNat)
  case atStart => exact ⟨0, [], by omega, rfl, h0, hk0, Lib.hid (by rw [← HXS.out]; rfl)⟩
  case round =>
    obtain ⟨j, pre, hj, rfl, hJs, hk, HP⟩ := hrel
    by_cases hlt : j < l.secs.length
    · have hlt' : (j : Int) < l.secs.length := by omega
      obtain ⟨x, hx⟩ : ∃ x, l.secs[j]? = some x := ⟨_, List.getElem?_eq_getElem hlt⟩
      obtain ⟨rest, HRe⟩ : ∃ rest, Hid (((l.secs.drop (j + 1)).flatMap fun s => s.ports4.filter fun p => decide (0 ≤ p.1)) = rest) := ⟨_, Lib.hid rfl⟩
      have HP1 : Hid (pre ++ ((x.ports4.filter fun p => decide (0 ≤ p.1)) ++ rest) = xs) := Lib.hid (by rw [← HP.out, drop_at hx, List.flatMap_cons, HRe.out])
      clear HP
      have HX := Lib.hid hx
      clear hx
      obtain ⟨b, off, rfl, _, hc0, hc⟩ := (hrow.keeps hk (fun k hk => .inl hk)).nth (n := 11) Sec.len (by omega) HX.out
      have c0 := hc0 j x _ HX.out rfl
      have c1 := hc j x 1 _ HX.out rfl
      have c2 := hc j x 2 _ HX.out rfl
      have c3 := hc j x 3 _ HX.out rfl
      have c4 := hc j x 4 _ HX.out rfl
      have c5 := hc j x 5 _ HX.out rfl
      have c6 := hc j x 6 _ HX.out rfl
      have c7 := hc j x 7 _ HX.out rfl
      have c8 := hc j x 8 _ HX.out rfl
      have c9 := hc j x 9 _ HX.out rfl
      have c10 := hc j x 10 _ HX.out rfl
      clear hc0 hc
      have HJ1 := Lib.hid (hJ.alloc (.cells x.cells.toArray 56) hJs)
      have HK1 := Lib.hid (hk.trans (Keeps.below (below1 wr (.cells x.cells.toArray 56))))
      gi_wp2
      clear c0 c1 c2 c3 c4 c5 c6 c7 c8 c9 c10
      gi_loopw [16] (fun i wr => ∃ (q : Nat) (pre : List (Int × Int)), q ≤ 4 ∧ i = .int .i64 q ∧ J pre.length wr ∧ Keeps (fun k => k < n0 ∨ k = g) w0 wr ∧ Hid (pre ++ (((x.ports4.drop q).filter fun p => decide (0 ≤ p.1)) ++ rest) = xs))
        (fun i _ => 4 - (intOf i).toNat)
      case atStart => exact ⟨0, pre, by omega, rfl, HJ1.out, HK1.out, HP1⟩
      case round =>
        clear HJ1 HK1 HP1 hJs hk
        obtain ⟨q, pre, hq, rfl, hJs, hk, HP⟩ := hrel
        by_cases hql : q < 4
        · have hql' : (q : Int) < 4 := by omega
          obtain ⟨y, hy0, hix⟩ : ∃ y : Int × Int, x.ports4[q]? = some y ∧ ∀ w : World, (Instr.index 53 (.agg #[.int .i64 x.s0, .int .i64 x.q0, .int .i64 x.s1, .int .i64 x.q1, .int .i64 x.s2, .int .i64 x.q2, .int .i64 x.s3, .int .i64 x.q3]) (.int .i64 (q : Int))).run Tryz.prog w = .ok (.agg #[.int .i64 y.1, .int .i64 y.2]) w := by
            have : q = 0 ∨ q = 1 ∨ q = 2 ∨ q = 3 := by omega
            rcases this with rfl | rfl | rfl | rfl
            · exact ⟨(x.s0, x.q0), rfl, fun _ => by kernel_rfl⟩
            · exact ⟨(x.s1, x.q1), rfl, fun _ => by kernel_rfl⟩
            · exact ⟨(x.s2, x.q2), rfl, fun _ => by kernel_rfl⟩
            · exact ⟨(x.s3, x.q3), rfl, fun _ => by kernel_rfl⟩
          have hJa := hJ.alloc (.cells (prtCells y).toArray 46) hJs
          by_cases hpos : 0 ≤ y.1
          · have HP1 : Hid (pre ++ (y :: (((x.ports4.drop (q + 1)).filter fun p => decide (0 ≤ p.1)) ++ rest)) = xs) := Lib.hid (by rw [← HP.out, drop_at hy0, List.filter_cons, if_pos (by simpa using hpos)]; rfl)
            clear HP hy0
            obtain ⟨fn, tmps, assign, body, hy, hR⟩ := hY pre.length y _ (at_pre HP1.out) hJa
            have HR := Lib.hid hR
            clear hR
            gi_wp2
            refine RoundIn.mono (RoundIn.wide HR.out) ?_
            clear HR hy hix
            rintro e W3 (⟨rfl, hJ3, hk3⟩ | ⟨rfl, hJx3, hk3⟩)
            · gi_wp2
              go_roundw
              case rel => exact ⟨q + 1, pre ++ [y], hql, by go_num, by rw [List.length_append]; exact hJ3, hk.trans ((Keeps.below (below1 wr _)).trans (hk3.keeps HD.out)), Lib.hid (push_pre HP1.out)⟩
              case measure => simp [intOf]; omega
            · gi_wp2
              refine bodyPost_ret (results_none rfl _ _ _) rfl ?_
              exact ⟨⟨_, rfl⟩, .inr hJx3⟩
          · have HP1 : Hid (pre ++ (((x.ports4.drop (q + 1)).filter fun p => decide (0 ≤ p.1)) ++ rest) = xs) := Lib.hid (by rw [← HP.out, drop_at hy0, List.filter_cons, if_neg (by simpa using hpos)])
            clear HP hy0
            have hpos' : decide (0 ≤ y.1) = false := decide_eq_false hpos
            clear hpos
            gi_wp2
            all_goals try (refine ⟨fun f h => (by cases h), ?_⟩; gi_wp2)
            go_roundw
            case rel => exact ⟨q + 1, pre, hql, by go_num, hJa, hk.trans (Keeps.below (below1 wr _)), HP1⟩
            case measure => simp [intOf]; omega
        · obtain rfl : q = 4 := by omega
          have HP1 : Hid (pre ++ rest = xs) := Lib.hid (by rw [← HP.out]; rfl)
          clear HP
          rw [show ((4 : Nat) : Int) = 4 from rfl]
          gi_wp2
          go_roundw
          case rel => exact ⟨j + 1, pre, hlt, by go_num, hJs, hk, Lib.hid (by rw [HRe.out]; exact HP1.out)⟩
          case measure => simp [intOf]; omega
    · obtain rfl : j = l.secs.length := by omega
      have HE : Hid (pre.length = xs.length) := Lib.hid (by rw [← HP.out, List.drop_length]; simp)
      gi_wp2
      go_end0
      exact ⟨⟨_, rfl⟩, .inl (HE.out ▸ hJs)⟩
end Go.Proofs.YtlfpkileblmhoaaGreatDoor
namespace Go.Proofs.YtlfpkileblmhoaaGreatDoor
open Go.RowKit Go.Shelf
set_option linter.unusedVariables false
set_option linter.unusedSimpArgs false

attribute [local go_sem] Oper.semAt_some
section
variable {P : World → Prop} {w : World}

set_option maxRecDepth 100000 in
set_option maxHeartbeats 4000000 in
theorem someInt_P {n : Nat} (hP : Firm n P) (hn : n ≤ w.heap.size) {lb : Array Value} {xs : List (Int)} {R : Nat → Prop} {w0 : World} (hit : Iter Tryz.prog 137 lb (fun x : Int => #[(.int .i64 x)]) xs R w0) (hw0 : Keeps R w0 w) (hRl : ∀ k, R k → k < w.heap.size) {pr : Int → Bool} {r : Bool}
    (hf : ∀ x ∈ xs, ∀ W, P W → Calls Tryz.prog 85 #[(.int .i64 x)] W fun e w' => e = .returned (.bool (pr x)) ∧ P w' ∧ Below W.heap.size W w') (hr : xs.any pr = r) (h : P w) :
    Calls Tryz.prog 92 #[.func (.func 137) #[] lb, .func (.func 85) #[] #[]] w fun e w' => e = .returned (.bool r) ∧ P w' := by
  have HF := Lib.hid hf
  have HR := Lib.hid hr
  have HPP := Lib.hid (fun W (hB : Below w.heap.size w W) => hP.closed _ _ h hB)
  clear hf hr
  refine (callsIn_wide (n := 5)).1 ?_
  refine callsIn_of_wp_marks Tryz.func92 rfl trivial ?_ rfl
  simp only [Tryz.ntmps92, List.size_toArray, List.length_cons, List.length_nil, Nat.reduceAdd, Nat.reduceSub, Array.replicate_succ, Array.replicate_zero, List.push_toArray, List.append_toArray, List.nil_append, List.cons_append]
  gi_wp2_with fail
  obtain ⟨W0, hW0, hsz, hB0, b0, b1⟩ : ∃ W0, ((w.alloc (.cells #[.func (.func 85) #[] #[]] 84)).alloc (.cells #[.bool false] 4)) = W0 ∧ W0.heap.size = w.heap.size + 2 ∧ Below w.heap.size w W0 ∧ Whole W0 w.heap.size 84 [.func (.func 85) #[] #[]] ∧ Whole W0 (w.heap.size + 1) 4 [.bool false] :=
    ⟨_, rfl, by simp, below2 _ _ _, (Whole.new w _ [_]).alloc _, Whole.new_at _ _ [_] _ (by simp)⟩
  rw [hW0]
  have hp0 := hP.closed _ _ h hB0
  clear hW0
  refine range_iter (gf := 137) rfl (enters_of Tryz.func137 (by kernel_rfl) rfl) hit (hw0.trans (Keeps.below hB0)) (fun k hk => by have := hRl k hk; omega) (fun _ => rfl) (by omega)
    (fun k => k = w.heap.size + 1) (fun k hk e => by have := hRl k e; omega) (fun k hk => by omega)
    (fun j W => ((Whole W w.heap.size 84 [.func (.func 85) #[] #[]] ∧ Whole W (w.heap.size + 1) 4 [.bool false]) ∧ Below w.heap.size w W) ∧ (P W ∧ Hid (NoneUp pr xs j)))
    (fun c W => (Whole W (w.heap.size + 1) 4 [.bool true] ∧ Below w.heap.size w W) ∧ (c = .ret ∧ xs.any pr = true))
    (OwnFrom.and (OwnFrom.and (OwnFrom.and (Own.from (fun s X Y row hs hg hr => hs.abides hg hr) _) (Own.from (fun s X Y row hs hg hr => hs.abides hg hr) _)) (ownFrom_below (Nat.le_refl _) (by omega))) (OwnFrom.and (hP.own (by omega)) (ownFrom_pure _ _)))
    (fun c => OwnFrom.and (OwnFrom.and (Own.from (fun s X Y row hs hg hr => hs.abides hg hr) _) (ownFrom_below (Nat.le_refl _) (by omega))) (ownFrom_pure _ _))
    ⟨⟨⟨b0, b1⟩, hB0⟩, hp0, Lib.hid (NoneUp.zero _ _)⟩
    (fun _ x a' _ => a' = { tmps := #[.func (.func 137) #[] lb, .func (.func 85) #[] #[], undef, .pointer (some ⟨w.heap.size, 0, none⟩), .pointer (some ⟨w.heap.size + 1, 0, none⟩), (.int .i64 x), .func (.func 137) #[] lb, (.int .i64 x), undef, undef, undef], defers := [] })
    (fun _ x a' _ X Y row hs hg hr => hs)
    ?assign ?body ?done ?stop
  case assign =>
    rintro l j x W K hx hI hK
    gi_wp2_with fail
    exact hK _ _ (Off.refl _ _) hI rfl
  case body =>
    rintro l j x a' W hl hx ⟨⟨⟨b0, b1⟩, hB⟩, hp, HN⟩ rfl
    have HX := Lib.hid hx
    have HM := Lib.hid (List.mem_of_getElem? hx)
    clear hx
    have c0 := b0.cell_at 0 rfl
    gi_wp2_with fail
    refine ⟨trivial, (CallsIn.inRound _ (callsIn_wide.2 (HF.out x HM.out _ hp))).mono ?_⟩
    clear c0 
    cases hpr : pr x
    · have HN1 := Lib.hid (HN.out.succ HX.out hpr)
      clear hpr
      rintro e w3 ⟨rfl, hp3, hB3⟩
      gi_wp2_with fail
      exact ⟨Off.below hB3, ⟨⟨b0.below hB3 b0.lt, b1.below hB3 b1.lt⟩, hB.trans (hB3.mono hB.size)⟩, hp3, HN1⟩
    · have HA := Lib.hid (any_hit HX.out hpr)
      clear hpr
      rintro e w3 ⟨rfl, hp3, hB3⟩
      have b1' := b1.below hB3 b1.lt
      have f1 := b1'.frozen 0
      have c1 := b1'.cell_at 0 rfl
      gi_wp2_with fail
      exact ⟨(Off.below hB3).trans (Off.set (p := ⟨w.heap.size + 1, 0, none⟩) _ _ rfl), ⟨b1'.set 0 (.bool true), (hB.trans (hB3.mono hB.size)).setCell (p := ⟨w.heap.size + 1, 0, none⟩) (by show w.heap.size ≤ w.heap.size + 1; omega) _⟩, rfl, HA.out⟩
  case done =>
    rintro D W hD ⟨⟨⟨b0, b1⟩, hB⟩, hp, HN⟩ hK
    have HA := Lib.hid HN.out.any
    have f1 := b1.frozen 0
    have c1 := b1.cell_at 0 rfl
    gi_wp2_with fail
    have hK2 := (Below.heap_setCell W ⟨w.heap.size + 1, 0, none⟩ (.bool false) D (by show D ≠ w.heap.size + 1; omega)).trans hK
    have e1 := ((b1.set 0 (.bool false)).putDone (o' := .deferred none) hK2).cell_at 0 rfl
    have hB2 := hB.setCell (p := ⟨w.heap.size + 1, 0, none⟩) (by show w.heap.size ≤ w.heap.size + 1; omega) (.bool false)
    refine ⟨by simp, .inl ⟨_, _, rfl, run_takeDeferred hK2, ?_⟩⟩
    refine ⟨.bool false, by simp [results, Tryz.f92, go_sem, e1], by rw [← HR.out, HA.out], HPP.out _ (hB2.trans (belowK_b (w := w) (Nat.le_refl _) _ D _ _ (by omega) hK2 rfl rfl))⟩
  case stop =>
    rintro D c W hD ⟨⟨b1, hB⟩, rfl, hA⟩ hK
    have HA := Lib.hid hA
    clear hA
    have e1 := (b1.putDone (o' := .deferred none) hK).cell_at 0 rfl
    gi_wp2_with fail
    refine ⟨by simp, .inl ⟨_, _, rfl, run_takeDeferred hK, ?_⟩⟩
    refine ⟨.bool true, by simp [results, Tryz.f92, go_sem, e1], by rw [← HR.out, HA.out], HPP.out _ (hB.trans (belowK_b (w := w) (Nat.le_refl _) _ D _ _ (by omega) hK rfl rfl))⟩

set_option maxRecDepth 100000 in
set_option maxHeartbeats 4000000 in
theorem somePort_P {n : Nat} (hP : Firm n P) (hn : n ≤ w.heap.size) {lb : Array Value} {xs : List (Int × Int)} {R : Nat → Prop} {w0 : World} (hit : Iter Tryz.prog 127 lb (fun x : Int × Int => #[(prtV x.1 x.2)]) xs R w0) (hw0 : Keeps R w0 w) (hRl : ∀ k, R k → k < w.heap.size) (p0 : Value) {pr : Int × Int → Bool} {r : Bool}
    (hf : ∀ x ∈ xs, ∀ W, P W → Calls Tryz.prog 86 #[(prtV x.1 x.2), p0] W fun e w' => e = .returned (.bool (pr x)) ∧ P w' ∧ Below W.heap.size W w') (hr : xs.any pr = r) (h : P w) :
    Calls Tryz.prog 95 #[.func (.func 127) #[] lb, .func (.func 86) #[] #[p0]] w fun e w' => e = .returned (.bool r) ∧ P w' := by
  have HF := Lib.hid hf
  have HR := Lib.hid hr
  have HPP := Lib.hid (fun W (hB : Below w.heap.size w W) => hP.closed _ _ h hB)
  clear hf hr
  refine (callsIn_wide (n := 5)).1 ?_
  refine callsIn_of_wp_marks Tryz.func95 rfl trivial ?_ rfl
  simp only [Tryz.ntmps95, List.size_toArray, List.length_cons, List.length_nil, Nat.reduceAdd, Nat.reduceSub, Array.replicate_succ, Array.replicate_zero, List.push_toArray, List.append_toArray, List.nil_append, List.cons_append]
  gi_wp2_with fail
  obtain ⟨W0, hW0, hsz, hB0, b0, b1⟩ : ∃ W0, ((w.alloc (.cells #[.func (.func 86) #[] #[p0]] 118)).alloc (.cells #[.bool false] 4)) = W0 ∧ W0.heap.size = w.heap.size + 2 ∧ Below w.heap.size w W0 ∧ Whole W0 w.heap.size 118 [.func (.func 86) #[] #[p0]] ∧ Whole W0 (w.heap.size + 1) 4 [.bool false] :=
    ⟨_, rfl, by simp, below2 _ _ _, (Whole.new w _ [_]).alloc _, Whole.new_at _ _ [_] _ (by simp)⟩
  rw [hW0]
  have hp0 := hP.closed _ _ h hB0
  clear hW0
  refine range_iter (gf := 127) rfl (enters_of Tryz.func127 (by kernel_rfl) rfl) hit (hw0.trans (Keeps.below hB0)) (fun k hk => by have := hRl k hk; omega) (fun _ => rfl) (by omega)
    (fun k => k = w.heap.size + 1) (fun k hk e => by have := hRl k e; omega) (fun k hk => by omega)
    (fun j W => ((Whole W w.heap.size 118 [.func (.func 86) #[] #[p0]] ∧ Whole W (w.heap.size + 1) 4 [.bool false]) ∧ Below w.heap.size w W) ∧ (P W ∧ Hid (NoneUp pr xs j)))
    (fun c W => (Whole W (w.heap.size + 1) 4 [.bool true] ∧ Below w.heap.size w W) ∧ (c = .ret ∧ xs.any pr = true))
    (OwnFrom.and (OwnFrom.and (OwnFrom.and (Own.from (fun s X Y row hs hg hr => hs.abides hg hr) _) (Own.from (fun s X Y row hs hg hr => hs.abides hg hr) _)) (ownFrom_below (Nat.le_refl _) (by omega))) (OwnFrom.and (hP.own (by omega)) (ownFrom_pure _ _)))
    (fun c => OwnFrom.and (OwnFrom.and (Own.from (fun s X Y row hs hg hr => hs.abides hg hr) _) (ownFrom_below (Nat.le_refl _) (by omega))) (ownFrom_pure _ _))
    ⟨⟨⟨b0, b1⟩, hB0⟩, hp0, Lib.hid (NoneUp.zero _ _)⟩
    (fun _ x a' W => ∃ Bx, w.heap.size + 1 < Bx ∧ Whole W Bx 46 (prtCells x) ∧ a' = { tmps := #[.func (.func 127) #[] lb, .func (.func 86) #[] #[p0], undef, .pointer (some ⟨w.heap.size, 0, none⟩), .pointer (some ⟨w.heap.size + 1, 0, none⟩), .pointer (some ⟨Bx, 0, none⟩), .func (.func 127) #[] lb, (prtV x.1 x.2), undef, undef, undef], defers := [] })
    (fun _ x a' _ X Y row hs hg hr => by obtain ⟨Bx, h1, h2, h3⟩ := hs; exact ⟨Bx, h1, h2.abides hg (fun r e => (hr r e).2), h3⟩)
    ?assign ?body ?done ?stop
  case assign =>
    rintro l j x W K hx ⟨⟨⟨b0, b1⟩, hB⟩, hp, HN⟩ hK
    gi_wp2_with fail
    exact hK _ _ (Off.below (below1 _ _)) ⟨⟨⟨b0.alloc _, b1.alloc _⟩, hB.alloc hB.size _⟩, hP.closed _ _ hp (below1 _ _), HN⟩ ⟨W.heap.size, b1.lt, Whole.new W _ (prtCells _), rfl⟩
  case body =>
    rintro l j x a' W hl hx ⟨⟨⟨b0, b1⟩, hB⟩, hp, HN⟩ ⟨Bx, hBx, bX, rfl⟩
    have HX := Lib.hid hx
    have HM := Lib.hid (List.mem_of_getElem? hx)
    clear hx
    have c0 := b0.cell_at 0 rfl
    have x0 := bX.cell_at 0 rfl
    have x1 := bX.cell_at 1 rfl
    gi_wp2_with fail
    refine ⟨trivial, (CallsIn.inRound _ (callsIn_wide.2 (HF.out x HM.out _ hp))).mono ?_⟩
    clear c0 x0 x1
    cases hpr : pr x
    · have HN1 := Lib.hid (HN.out.succ HX.out hpr)
      clear hpr
      rintro e w3 ⟨rfl, hp3, hB3⟩
      gi_wp2_with fail
      exact ⟨Off.below hB3, ⟨⟨b0.below hB3 b0.lt, b1.below hB3 b1.lt⟩, hB.trans (hB3.mono hB.size)⟩, hp3, HN1⟩
    · have HA := Lib.hid (any_hit HX.out hpr)
      clear hpr
      rintro e w3 ⟨rfl, hp3, hB3⟩
      have b1' := b1.below hB3 b1.lt
      have f1 := b1'.frozen 0
      have c1 := b1'.cell_at 0 rfl
      gi_wp2_with fail
      exact ⟨(Off.below hB3).trans (Off.set (p := ⟨w.heap.size + 1, 0, none⟩) _ _ rfl), ⟨b1'.set 0 (.bool true), (hB.trans (hB3.mono hB.size)).setCell (p := ⟨w.heap.size + 1, 0, none⟩) (by show w.heap.size ≤ w.heap.size + 1; omega) _⟩, rfl, HA.out⟩
  case done =>
    rintro D W hD ⟨⟨⟨b0, b1⟩, hB⟩, hp, HN⟩ hK
    have HA := Lib.hid HN.out.any
    have f1 := b1.frozen 0
    have c1 := b1.cell_at 0 rfl
    gi_wp2_with fail
    have hK2 := (Below.heap_setCell W ⟨w.heap.size + 1, 0, none⟩ (.bool false) D (by show D ≠ w.heap.size + 1; omega)).trans hK
    have e1 := ((b1.set 0 (.bool false)).putDone (o' := .deferred none) hK2).cell_at 0 rfl
    have hB2 := hB.setCell (p := ⟨w.heap.size + 1, 0, none⟩) (by show w.heap.size ≤ w.heap.size + 1; omega) (.bool false)
    refine ⟨by simp, .inl ⟨_, _, rfl, run_takeDeferred hK2, ?_⟩⟩
    refine ⟨.bool false, by simp [results, Tryz.f95, go_sem, e1], by rw [← HR.out, HA.out], HPP.out _ (hB2.trans (belowK_b (w := w) (Nat.le_refl _) _ D _ _ (by omega) hK2 rfl rfl))⟩
  case stop =>
    rintro D c W hD ⟨⟨b1, hB⟩, rfl, hA⟩ hK
    have HA := Lib.hid hA
    clear hA
    have e1 := (b1.putDone (o' := .deferred none) hK).cell_at 0 rfl
    gi_wp2_with fail
    refine ⟨by simp, .inl ⟨_, _, rfl, run_takeDeferred hK, ?_⟩⟩
    refine ⟨.bool true, by simp [results, Tryz.f95, go_sem, e1], by rw [← HR.out, HA.out], HPP.out _ (hB.trans (belowK_b (w := w) (Nat.le_refl _) _ D _ _ (by omega) hK rfl rfl))⟩

set_option maxRecDepth 100000 in
set_option maxHeartbeats 4000000 in
theorem someStep_P {n : Nat} (hP : Firm n P) (hn : n ≤ w.heap.size) {lb : Array Value} {xs : List (Int × Int × Int)} {R : Nat → Prop} {w0 : World} (hit : Iter Tryz.prog 129 lb (fun x : Int × Int × Int => #[(stpV x.1 x.2.1 x.2.2)]) xs R w0) (hw0 : Keeps R w0 w) (hRl : ∀ k, R k → k < w.heap.size) (p0 : Value) {pr : Int × Int × Int → Bool} {r : Bool}
    (hf : ∀ x ∈ xs, ∀ W, P W → Calls Tryz.prog 87 #[(stpV x.1 x.2.1 x.2.2), p0] W fun e w' => e = .returned (.bool (pr x)) ∧ P w' ∧ Below W.heap.size W w') (hr : xs.any pr = r) (h : P w) :
    Calls Tryz.prog 97 #[.func (.func 129) #[] lb, .func (.func 87) #[] #[p0]] w fun e w' => e = .returned (.bool r) ∧ P w' := by
  have HF := Lib.hid hf
  have HR := Lib.hid hr
  have HPP := Lib.hid (fun W (hB : Below w.heap.size w W) => hP.closed _ _ h hB)
  clear hf hr
  refine (callsIn_wide (n := 5)).1 ?_
  refine callsIn_of_wp_marks Tryz.func97 rfl trivial ?_ rfl
  simp only [Tryz.ntmps97, List.size_toArray, List.length_cons, List.length_nil, Nat.reduceAdd, Nat.reduceSub, Array.replicate_succ, Array.replicate_zero, List.push_toArray, List.append_toArray, List.nil_append, List.cons_append]
  gi_wp2_with fail
  obtain ⟨W0, hW0, hsz, hB0, b0, b1⟩ : ∃ W0, ((w.alloc (.cells #[.func (.func 87) #[] #[p0]] 99)).alloc (.cells #[.bool false] 4)) = W0 ∧ W0.heap.size = w.heap.size + 2 ∧ Below w.heap.size w W0 ∧ Whole W0 w.heap.size 99 [.func (.func 87) #[] #[p0]] ∧ Whole W0 (w.heap.size + 1) 4 [.bool false] :=
    ⟨_, rfl, by simp, below2 _ _ _, (Whole.new w _ [_]).alloc _, Whole.new_at _ _ [_] _ (by simp)⟩
  rw [hW0]
  have hp0 := hP.closed _ _ h hB0
  clear hW0
  refine range_iter (gf := 129) rfl (enters_of Tryz.func129 (by kernel_rfl) rfl) hit (hw0.trans (Keeps.below hB0)) (fun k hk => by have := hRl k hk; omega) (fun _ => rfl) (by omega)
    (fun k => k = w.heap.size + 1) (fun k hk e => by have := hRl k e; omega) (fun k hk => by omega)
    (fun j W => ((Whole W w.heap.size 99 [.func (.func 87) #[] #[p0]] ∧ Whole W (w.heap.size + 1) 4 [.bool false]) ∧ Below w.heap.size w W) ∧ (P W ∧ Hid (NoneUp pr xs j)))
    (fun c W => (Whole W (w.heap.size + 1) 4 [.bool true] ∧ Below w.heap.size w W) ∧ (c = .ret ∧ xs.any pr = true))
    (OwnFrom.and (OwnFrom.and (OwnFrom.and (Own.from (fun s X Y row hs hg hr => hs.abides hg hr) _) (Own.from (fun s X Y row hs hg hr => hs.abides hg hr) _)) (ownFrom_below (Nat.le_refl _) (by omega))) (OwnFrom.and (hP.own (by omega)) (ownFrom_pure _ _)))
    (fun c => OwnFrom.and (OwnFrom.and (Own.from (fun s X Y row hs hg hr => hs.abides hg hr) _) (ownFrom_below (Nat.le_refl _) (by omega))) (ownFrom_pure _ _))
    ⟨⟨⟨b0, b1⟩, hB0⟩, hp0, Lib.hid (NoneUp.zero _ _)⟩
    (fun _ x a' W => ∃ Bx, w.heap.size + 1 < Bx ∧ Whole W Bx 50 (stpCells x) ∧ a' = { tmps := #[.func (.func 129) #[] lb, .func (.func 87) #[] #[p0], undef, .pointer (some ⟨w.heap.size, 0, none⟩), .pointer (some ⟨w.heap.size + 1, 0, none⟩), .pointer (some ⟨Bx, 0, none⟩), .func (.func 129) #[] lb, (stpV x.1 x.2.1 x.2.2), undef, undef, undef], defers := [] })
    (fun _ x a' _ X Y row hs hg hr => by obtain ⟨Bx, h1, h2, h3⟩ := hs; exact ⟨Bx, h1, h2.abides hg (fun r e => (hr r e).2), h3⟩)
    ?assign ?body ?done ?stop
  case assign =>
    rintro l j x W K hx ⟨⟨⟨b0, b1⟩, hB⟩, hp, HN⟩ hK
    gi_wp2_with fail
    exact hK _ _ (Off.below (below1 _ _)) ⟨⟨⟨b0.alloc _, b1.alloc _⟩, hB.alloc hB.size _⟩, hP.closed _ _ hp (below1 _ _), HN⟩ ⟨W.heap.size, b1.lt, Whole.new W _ (stpCells _), rfl⟩
  case body =>
    rintro l j x a' W hl hx ⟨⟨⟨b0, b1⟩, hB⟩, hp, HN⟩ ⟨Bx, hBx, bX, rfl⟩
    have HX := Lib.hid hx
    have HM := Lib.hid (List.mem_of_getElem? hx)
    clear hx
    have c0 := b0.cell_at 0 rfl
    have x0 := bX.cell_at 0 rfl
    have x1 := bX.cell_at 1 rfl
    have x2 := bX.cell_at 2 rfl
    gi_wp2_with fail
    refine ⟨trivial, (CallsIn.inRound _ (callsIn_wide.2 (HF.out x HM.out _ hp))).mono ?_⟩
    clear c0 x0 x1 x2
    cases hpr : pr x
    · have HN1 := Lib.hid (HN.out.succ HX.out hpr)
      clear hpr
      rintro e w3 ⟨rfl, hp3, hB3⟩
      gi_wp2_with fail
      exact ⟨Off.below hB3, ⟨⟨b0.below hB3 b0.lt, b1.below hB3 b1.lt⟩, hB.trans (hB3.mono hB.size)⟩, hp3, HN1⟩
    · have HA := Lib.hid (any_hit HX.out hpr)
      clear hpr
      rintro e w3 ⟨rfl, hp3, hB3⟩
      have b1' := b1.below hB3 b1.lt
      have f1 := b1'.frozen 0
      have c1 := b1'.cell_at 0 rfl
      gi_wp2_with fail
      exact ⟨(Off.below hB3).trans (Off.set (p := ⟨w.heap.size + 1, 0, none⟩) _ _ rfl), ⟨b1'.set 0 (.bool true), (hB.trans (hB3.mono hB.size)).setCell (p := ⟨w.heap.size + 1, 0, none⟩) (by show w.heap.size ≤ w.heap.size + 1; omega) _⟩, rfl, HA.out⟩
  case done =>
    rintro D W hD ⟨⟨⟨b0, b1⟩, hB⟩, hp, HN⟩ hK
    have HA := Lib.hid HN.out.any
    have f1 := b1.frozen 0
    have c1 := b1.cell_at 0 rfl
    gi_wp2_with fail
    have hK2 := (Below.heap_setCell W ⟨w.heap.size + 1, 0, none⟩ (.bool false) D (by show D ≠ w.heap.size + 1; omega)).trans hK
    have e1 := ((b1.set 0 (.bool false)).putDone (o' := .deferred none) hK2).cell_at 0 rfl
    have hB2 := hB.setCell (p := ⟨w.heap.size + 1, 0, none⟩) (by show w.heap.size ≤ w.heap.size + 1; omega) (.bool false)
    refine ⟨by simp, .inl ⟨_, _, rfl, run_takeDeferred hK2, ?_⟩⟩
    refine ⟨.bool false, by simp [results, Tryz.f97, go_sem, e1], by rw [← HR.out, HA.out], HPP.out _ (hB2.trans (belowK_b (w := w) (Nat.le_refl _) _ D _ _ (by omega) hK2 rfl rfl))⟩
  case stop =>
    rintro D c W hD ⟨⟨b1, hB⟩, rfl, hA⟩ hK
    have HA := Lib.hid hA
    clear hA
    have e1 := (b1.putDone (o' := .deferred none) hK).cell_at 0 rfl
    gi_wp2_with fail
    refine ⟨by simp, .inl ⟨_, _, rfl, run_takeDeferred hK, ?_⟩⟩
    refine ⟨.bool true, by simp [results, Tryz.f97, go_sem, e1], by rw [← HR.out, HA.out], HPP.out _ (hB.trans (belowK_b (w := w) (Nat.le_refl _) _ D _ _ (by omega) hK rfl rfl))⟩

set_option maxRecDepth 100000 in
set_option maxHeartbeats 4000000 in
theorem someFlank_P {n : Nat} (hP : Firm n P) (hn : n ≤ w.heap.size) {lb : Array Value} {xs : List (Int × Int × Int × Int)} {R : Nat → Prop} {w0 : World} (hit : Iter Tryz.prog 130 lb (fun x : Int × Int × Int × Int => #[(flkV x.1 x.2.1 x.2.2.1 x.2.2.2)]) xs R w0) (hw0 : Keeps R w0 w) (hRl : ∀ k, R k → k < w.heap.size) (p0 : Value) {pr : Int × Int × Int × Int → Bool} {r : Bool}
    (hf : ∀ x ∈ xs, ∀ W, P W → Calls Tryz.prog 89 #[(flkV x.1 x.2.1 x.2.2.1 x.2.2.2), p0] W fun e w' => e = .returned (.bool (pr x)) ∧ P w' ∧ Below W.heap.size W w') (hr : xs.any pr = r) (h : P w) :
    Calls Tryz.prog 99 #[.func (.func 130) #[] lb, .func (.func 89) #[] #[p0]] w fun e w' => e = .returned (.bool r) ∧ P w' := by
  have HF := Lib.hid hf
  have HR := Lib.hid hr
  have HPP := Lib.hid (fun W (hB : Below w.heap.size w W) => hP.closed _ _ h hB)
  clear hf hr
  refine (callsIn_wide (n := 5)).1 ?_
  refine callsIn_of_wp_marks Tryz.func99 rfl trivial ?_ rfl
  simp only [Tryz.ntmps99, List.size_toArray, List.length_cons, List.length_nil, Nat.reduceAdd, Nat.reduceSub, Array.replicate_succ, Array.replicate_zero, List.push_toArray, List.append_toArray, List.nil_append, List.cons_append]
  gi_wp2_with fail
  obtain ⟨W0, hW0, hsz, hB0, b0, b1⟩ : ∃ W0, ((w.alloc (.cells #[.func (.func 89) #[] #[p0]] 120)).alloc (.cells #[.bool false] 4)) = W0 ∧ W0.heap.size = w.heap.size + 2 ∧ Below w.heap.size w W0 ∧ Whole W0 w.heap.size 120 [.func (.func 89) #[] #[p0]] ∧ Whole W0 (w.heap.size + 1) 4 [.bool false] :=
    ⟨_, rfl, by simp, below2 _ _ _, (Whole.new w _ [_]).alloc _, Whole.new_at _ _ [_] _ (by simp)⟩
  rw [hW0]
  have hp0 := hP.closed _ _ h hB0
  clear hW0
  refine range_iter (gf := 130) rfl (enters_of Tryz.func130 (by kernel_rfl) rfl) hit (hw0.trans (Keeps.below hB0)) (fun k hk => by have := hRl k hk; omega) (fun _ => rfl) (by omega)
    (fun k => k = w.heap.size + 1) (fun k hk e => by have := hRl k e; omega) (fun k hk => by omega)
    (fun j W => ((Whole W w.heap.size 120 [.func (.func 89) #[] #[p0]] ∧ Whole W (w.heap.size + 1) 4 [.bool false]) ∧ Below w.heap.size w W) ∧ (P W ∧ Hid (NoneUp pr xs j)))
    (fun c W => (Whole W (w.heap.size + 1) 4 [.bool true] ∧ Below w.heap.size w W) ∧ (c = .ret ∧ xs.any pr = true))
    (OwnFrom.and (OwnFrom.and (OwnFrom.and (Own.from (fun s X Y row hs hg hr => hs.abides hg hr) _) (Own.from (fun s X Y row hs hg hr => hs.abides hg hr) _)) (ownFrom_below (Nat.le_refl _) (by omega))) (OwnFrom.and (hP.own (by omega)) (ownFrom_pure _ _)))
    (fun c => OwnFrom.and (OwnFrom.and (Own.from (fun s X Y row hs hg hr => hs.abides hg hr) _) (ownFrom_below (Nat.le_refl _) (by omega))) (ownFrom_pure _ _))
    ⟨⟨⟨b0, b1⟩, hB0⟩, hp0, Lib.hid (NoneUp.zero _ _)⟩
    (fun _ x a' W => ∃ Bx, w.heap.size + 1 < Bx ∧ Whole W Bx 114 (flkCells x) ∧ a' = { tmps := #[.func (.func 130) #[] lb, .func (.func 89) #[] #[p0], undef, .pointer (some ⟨w.heap.size, 0, none⟩), .pointer (some ⟨w.heap.size + 1, 0, none⟩), .pointer (some ⟨Bx, 0, none⟩), .func (.func 130) #[] lb, (flkV x.1 x.2.1 x.2.2.1 x.2.2.2), undef, undef, undef], defers := [] })
    (fun _ x a' _ X Y row hs hg hr => by obtain ⟨Bx, h1, h2, h3⟩ := hs; exact ⟨Bx, h1, h2.abides hg (fun r e => (hr r e).2), h3⟩)
    ?assign ?body ?done ?stop
  case assign =>
    rintro l j x W K hx ⟨⟨⟨b0, b1⟩, hB⟩, hp, HN⟩ hK
    gi_wp2_with fail
    exact hK _ _ (Off.below (below1 _ _)) ⟨⟨⟨b0.alloc _, b1.alloc _⟩, hB.alloc hB.size _⟩, hP.closed _ _ hp (below1 _ _), HN⟩ ⟨W.heap.size, b1.lt, Whole.new W _ (flkCells _), rfl⟩
  case body =>
    rintro l j x a' W hl hx ⟨⟨⟨b0, b1⟩, hB⟩, hp, HN⟩ ⟨Bx, hBx, bX, rfl⟩
    have HX := Lib.hid hx
    have HM := Lib.hid (List.mem_of_getElem? hx)
    clear hx
    have c0 := b0.cell_at 0 rfl
    have x0 := bX.cell_at 0 rfl
    have x1 := bX.cell_at 1 rfl
    have x2 := bX.cell_at 2 rfl
    have x3 := bX.cell_at 3 rfl
    gi_wp2_with fail
    refine ⟨trivial, (CallsIn.inRound _ (callsIn_wide.2 (HF.out x HM.out _ hp))).mono ?_⟩
    clear c0 x0 x1 x2 x3
    cases hpr : pr x
    · have HN1 := Lib.hid (HN.out.succ HX.out hpr)
      clear hpr
      rintro e w3 ⟨rfl, hp3, hB3⟩
      gi_wp2_with fail
      exact ⟨Off.below hB3, ⟨⟨b0.below hB3 b0.lt, b1.below hB3 b1.lt⟩, hB.trans (hB3.mono hB.size)⟩, hp3, HN1⟩
    · have HA := Lib.hid (any_hit HX.out hpr)
      clear hpr
      rintro e w3 ⟨rfl, hp3, hB3⟩
      have b1' := b1.below hB3 b1.lt
      have f1 := b1'.frozen 0
      have c1 := b1'.cell_at 0 rfl
      gi_wp2_with fail
      exact ⟨(Off.below hB3).trans (Off.set (p := ⟨w.heap.size + 1, 0, none⟩) _ _ rfl), ⟨b1'.set 0 (.bool true), (hB.trans (hB3.mono hB.size)).setCell (p := ⟨w.heap.size + 1, 0, none⟩) (by show w.heap.size ≤ w.heap.size + 1; omega) _⟩, rfl, HA.out⟩
  case done =>
    rintro D W hD ⟨⟨⟨b0, b1⟩, hB⟩, hp, HN⟩ hK
    have HA := Lib.hid HN.out.any
    have f1 := b1.frozen 0
    have c1 := b1.cell_at 0 rfl
    gi_wp2_with fail
    have hK2 := (Below.heap_setCell W ⟨w.heap.size + 1, 0, none⟩ (.bool false) D (by show D ≠ w.heap.size + 1; omega)).trans hK
    have e1 := ((b1.set 0 (.bool false)).putDone (o' := .deferred none) hK2).cell_at 0 rfl
    have hB2 := hB.setCell (p := ⟨w.heap.size + 1, 0, none⟩) (by show w.heap.size ≤ w.heap.size + 1; omega) (.bool false)
    refine ⟨by simp, .inl ⟨_, _, rfl, run_takeDeferred hK2, ?_⟩⟩
    refine ⟨.bool false, by simp [results, Tryz.f99, go_sem, e1], by rw [← HR.out, HA.out], HPP.out _ (hB2.trans (belowK_b (w := w) (Nat.le_refl _) _ D _ _ (by omega) hK2 rfl rfl))⟩
  case stop =>
    rintro D c W hD ⟨⟨b1, hB⟩, rfl, hA⟩ hK
    have HA := Lib.hid hA
    clear hA
    have e1 := (b1.putDone (o' := .deferred none) hK).cell_at 0 rfl
    gi_wp2_with fail
    refine ⟨by simp, .inl ⟨_, _, rfl, run_takeDeferred hK, ?_⟩⟩
    refine ⟨.bool true, by simp [results, Tryz.f99, go_sem, e1], by rw [← HR.out, HA.out], HPP.out _ (hB.trans (belowK_b (w := w) (Nat.le_refl _) _ D _ _ (by omega) hK rfl rfl))⟩
end
end Go.Proofs.YtlfpkileblmhoaaGreatDoor
namespace Go.Proofs.YtlfpkileblmhoaaGreatDoor
open Go.RowKit Go.Shelf
set_option linter.unusedVariables false
set_option linter.unusedSimpArgs false

attribute [local go_sem] Oper.semAt_some

set_option maxHeartbeats 1000000 in
theorem joins_any (l : Lay) (w : World) : Calls Tryz.prog 128 #[l.val] w fun e w' => e = .returned (.func (.func 142) #[] #[.pointer (some ⟨w.heap.size, 0, none⟩)]) ∧ w' = w.alloc (.cells #[.slice l.As l.secs.length l.cs, .slice l.Ag l.sigs.length l.cg, .slice l.Ae l.exits.length l.ce, .slice l.Af l.flanks.length l.cf, .int .i64 l.t0, .int .i64 l.t1, .int .i64 l.t2, .int .i64 l.t3, .int .i64 l.t4, .int .i64 l.t5, .int .i64 l.t6] 29) := by
  go_enter Tryz.func128, Tryz.ntmps128
  go_wp2_with fail
  go_ret
  exact ⟨rfl, rfl⟩

set_option maxHeartbeats 1000000 in
theorem portsOf_any (l : Lay) (w : World) : Calls Tryz.prog 96 #[l.val] w fun e w' => e = .returned (.func (.func 127) #[] #[.pointer (some ⟨w.heap.size, 0, none⟩)]) ∧ w' = w.alloc (.cells #[.slice l.As l.secs.length l.cs, .slice l.Ag l.sigs.length l.cg, .slice l.Ae l.exits.length l.ce, .slice l.Af l.flanks.length l.cf, .int .i64 l.t0, .int .i64 l.t1, .int .i64 l.t2, .int .i64 l.t3, .int .i64 l.t4, .int .i64 l.t5, .int .i64 l.t6] 29) := by
  go_enter Tryz.func96, Tryz.ntmps96
  go_wp2_with fail
  go_ret
  exact ⟨rfl, rfl⟩

set_option maxHeartbeats 1000000 in
theorem stepsOf_any (l : Lay) (w : World) : Calls Tryz.prog 98 #[l.val] w fun e w' => e = .returned (.func (.func 129) #[] #[.pointer (some ⟨w.heap.size, 0, none⟩)]) ∧ w' = w.alloc (.cells #[.slice l.As l.secs.length l.cs, .slice l.Ag l.sigs.length l.cg, .slice l.Ae l.exits.length l.ce, .slice l.Af l.flanks.length l.cf, .int .i64 l.t0, .int .i64 l.t1, .int .i64 l.t2, .int .i64 l.t3, .int .i64 l.t4, .int .i64 l.t5, .int .i64 l.t6] 29) := by
  go_enter Tryz.func98, Tryz.ntmps98
  go_wp2_with fail
  go_ret
  exact ⟨rfl, rfl⟩

set_option maxHeartbeats 1000000 in
theorem valuesFlank_any (A : Option Addr) (n c : Nat) (w : World) : Calls Tryz.prog 100 #[.slice A n c] w fun e w' => e = .returned (.func (.func 130) #[] #[.pointer (some ⟨w.heap.size, 0, none⟩)]) ∧ w' = w.alloc (.cells #[.slice A n c] 25) := by
  go_enter Tryz.func100, Tryz.ntmps100
  go_wp2_with fail
  go_ret
  exact ⟨rfl, rfl⟩

set_option maxHeartbeats 1000000 in
theorem valuesInt_any (A : Option Addr) (n c : Nat) (w : World) : Calls Tryz.prog 123 #[.slice A n c] w fun e w' => e = .returned (.func (.func 137) #[] #[.pointer (some ⟨w.heap.size, 0, none⟩)]) ∧ w' = w.alloc (.cells #[.slice A n c] 33) := by
  go_enter Tryz.func123, Tryz.ntmps123
  go_wp2_with fail
  go_ret
  exact ⟨rfl, rfl⟩

/-- The ports that are named. -/
def portsL (l : Lay) : List (Int × Int) := joinsL l ++ (l.sigs ++ l.exits.map fun x => (x.s, x.q))
theorem Keeps.lt {R : Nat → Prop} {A B : World} (h : Keeps R A B) {k : Nat} (hk : R k) (hl : k < A.heap.size) : k < B.heap.size :=
  (Array.getElem?_eq_some_iff.1 (h k _ hk (Array.getElem?_eq_getElem hl))).1

set_option maxRecDepth 100000 in
set_option maxHeartbeats 8000000 in
theorem ports_iter {w0 : World} {g n0 : Nat} {l : Lay} (hbox : Whole w0 g 29 l.cells) (hn0 : n0 ≤ w0.heap.size) (hrS : Row w0 n0 l.As (l.secs.flatMap Sec.cells)) (hrG : Row w0 n0 l.Ag (l.sigs.flatMap prtCells)) (hrE : Row w0 n0 l.Ae (l.exits.flatMap Exm.cells))
    (hnS : (l.secs.length : Int) ≤ 9223372036854775807) (hnG : (l.sigs.length : Int) ≤ 9223372036854775807) (hnE : (l.exits.length : Int) ≤ 9223372036854775807) :
    Iter Tryz.prog 127 #[.pointer (some ⟨g, 0, none⟩)] (fun x : Int × Int => #[(prtV x.1 x.2)]) (portsL l) (fun k => k < n0 ∨ k = g) w0 := by
  intro L S J Jx W hk0 hS hJ hJx hY h0
  have HD : Hid (∀ k, S k → ¬ (k < n0 ∨ k = g)) := Lib.hid (fun k hk => (hS k hk).1)
  have HSl : Hid (∀ k, S k → k < W.heap.size) := Lib.hid (fun k hk => (hS k hk).2)
  have HRl : Hid (∀ k, (k < n0 ∨ k = g) → k < W.heap.size) := Lib.hid (fun k hk => hk0.lt hk (hk.elim (fun h => Nat.lt_of_lt_of_le h hn0) (fun h => by subst h; exact hbox.lt)))
  have hbw := hk0.whole (.inr rfl) hbox
  obtain ⟨xs, HXS⟩ : ∃ xs, Hid (portsL l = xs) := ⟨_, Lib.hid rfl⟩
  rw [HXS.out] at hY ⊢
  have HXS2 : Hid (joinsL l ++ (l.sigs ++ l.exits.map fun x => (x.s, x.q)) = xs) := HXS
  clear HXS hS
  have HJo := Lib.hid (fun W0 (h1 : Whole W0 (W.heap.size + 1) 29 l.cells) (h2 : Row W0 n0 l.As (l.secs.flatMap Sec.cells)) => joins_iter (n0 := n0) h1 h2 hnS)
  have HJA := Lib.hid (fun w => joins_any l w)
  obtain ⟨js, HJs⟩ : ∃ js, Hid (joinsL l = js) := ⟨_, Lib.hid rfl⟩
  rw [HJs.out] at HXS2 HJo
  clear HJs
  obtain ⟨secs, As, cs, sigs, Ag, cg, exits, Ae, ce, flanks, Af, cf, t0, t1, t2, t3, t4, t5, t6⟩ := l
  simp only at hrS hrG hrE hnS hnG hnE HXS2
  have hba := hbw.alloc (.cells #[.func (.yield L) #[] #[]] 118)
  have x0 := hba.cell_at 0 rfl
  have x1 := hba.cell_at 1 rfl
  have x2 := hba.cell_at 2 rfl
  have x3 := hba.cell_at 3 rfl
  have x4 := hba.cell_at 4 rfl
  have x5 := hba.cell_at 5 rfl
  have x6 := hba.cell_at 6 rfl
  have x7 := hba.cell_at 7 rfl
  have x8 := hba.cell_at 8 rfl
  have x9 := hba.cell_at 9 rfl
  have x10 := hba.cell_at 10 rfl
  clear hba
  refine (callsIn_wide (n := 5)).1 ?_
  refine callsIn_of_wp_marks Tryz.func127 rfl trivial ?_ rfl
  simp only [Tryz.ntmps127, List.size_toArray, List.length_cons, List.length_nil, Nat.reduceAdd, Nat.reduceSub, Array.replicate_succ, Array.replicate_zero, List.push_toArray, List.append_toArray, List.nil_append, List.cons_append]
  gi_wp2_with fail
  refine ⟨trivial, (callsIn_wide.2 (HJA.out _)).mono ?_⟩
  clear x0 x1 x2 x3 x4 x5 x6 x7 x8 x9 x10
  rintro e w2 ⟨rfl, rfl⟩
  gi_wp2_with fail
  obtain ⟨W0, hW0, hsz, hB0, b0, b1⟩ : ∃ W0, ((W.alloc (.cells #[.func (.yield L) #[] #[]] 118)).alloc (.cells #[.slice As secs.length cs, .slice Ag sigs.length cg, .slice Ae exits.length ce, .slice Af flanks.length cf, .int .i64 t0, .int .i64 t1, .int .i64 t2, .int .i64 t3, .int .i64 t4, .int .i64 t5, .int .i64 t6] 29)) = W0 ∧ W0.heap.size = W.heap.size + 2 ∧ Below W.heap.size W W0 ∧ Whole W0 W.heap.size 118 [.func (.yield L) #[] #[]] ∧ Whole W0 (W.heap.size + 1) 29 [.slice As secs.length cs, .slice Ag sigs.length cg, .slice Ae exits.length ce, .slice Af flanks.length cf, .int .i64 t0, .int .i64 t1, .int .i64 t2, .int .i64 t3, .int .i64 t4, .int .i64 t5, .int .i64 t6] :=
    ⟨_, rfl, by simp, below2 _ _ _, (Whole.new W _ [_]).alloc _, Whole.new_at _ _ [_, _, _, _, _, _, _, _, _, _, _] _ (by simp)⟩
  rw [hW0]
  have hk1 := hk0.trans (Keeps.below (R := fun k => k < n0 ∨ k = g) hB0)
  have hJ0 : J 0 W0 := by rw [← hW0]; exact hJ.alloc _ (hJ.alloc _ h0)
  clear hW0 h0
  have hin := HJo.out W0 b1 (hrS.keeps hk1 (fun k hk => .inl hk))
  clear HJo HJA
  refine range_iter (gf := 142) rfl (enters_of Tryz.func142 (by kernel_rfl) rfl) hin (Keeps.refl _ _) (fun k hk => by
      rcases hk with h | rfl
      · have := HRl.out k (.inl h); omega
      · omega) (fun _ => rfl) (by omega)
    S (fun k hk e => by
      rcases e with h | rfl
      · exact HD.out k hk (.inl h)
      · have := HSl.out _ hk; omega) (fun k hk => by have := HSl.out k hk; omega)
    (fun j W1 => (J j W1 ∧ Whole W1 W.heap.size 118 [.func (.yield L) #[] #[]]) ∧ Keeps (fun k => k < n0 ∨ k = g) w0 W1)
    (fun c W1 => Jx W1 ∧ c = .ret)
    (OwnFrom.and (OwnFrom.and (OwnFrom.up hJ (by omega)) (Own.from (fun s X Y row hs hg hr => hs.abides hg hr) _)) (Keeps.own (fun k hk => by have := HRl.out k hk; omega)))
    (fun c => OwnFrom.and (OwnFrom.up hJx (by omega)) (ownFrom_pure _ _))
    ⟨⟨hJ0, b0⟩, hk1⟩
    (fun _ x a' W1 => ∃ Bx, Whole W1 Bx 46 (prtCells x) ∧ a' = { tmps := #[.func (.yield L) #[] #[], .pointer (some ⟨g, 0, none⟩), .pointer (some ⟨W.heap.size, 0, none⟩), .pointer (some ⟨Bx, 0, none⟩), undef, undef, undef, undef, .agg #[.slice As secs.length cs, .slice Ag sigs.length cg, .slice Ae exits.length ce, .slice Af flanks.length cf, .int .i64 t0, .int .i64 t1, .int .i64 t2, .int .i64 t3, .int .i64 t4, .int .i64 t5, .int .i64 t6], .func (.func 142) #[] #[.pointer (some ⟨W.heap.size + 1, 0, none⟩)], (prtV x.1 x.2), undef, undef, undef, undef, undef, undef, undef, undef, undef, undef, undef, undef, undef, undef, undef, undef, undef, undef, undef, undef, undef, undef, undef, undef, undef, undef, undef, undef, undef, undef], defers := [] })
    (fun _ x a' _ X Y row hs hg hr => by obtain ⟨Bx, h2, h3⟩ := hs; exact ⟨Bx, h2.abides hg (fun r e => (hr r e).2), h3⟩)
    ?assign ?body ?done ?stop
  case assign =>
    rintro l2 j x W1 K hx ⟨⟨hj, b0⟩, hk⟩ hK
    gi_wp2_with fail
    exact hK _ _ (Off.below (below1 _ _)) ⟨⟨hJ.alloc _ hj, b0.alloc _⟩, hk.trans (Keeps.below (below1 _ _))⟩ ⟨W1.heap.size, Whole.new W1 _ (prtCells _), rfl⟩
  case body =>
    rintro l2 j x a' W1 hl hx ⟨⟨hj, b0⟩, hk⟩ ⟨Bx, bX, rfl⟩
    have c0 := b0.cell_at 0 rfl
    have y0 := bX.cell_at 0 rfl
    have y1 := bX.cell_at 1 rfl
    obtain ⟨fn, tmps, assign, body, hy, hR⟩ := hY j x W1 (by rw [← HXS2.out, List.getElem?_append_left (List.getElem?_eq_some_iff.1 hx).1]; exact hx) hj
    have HR := Lib.hid hR
    clear hR
    gi_wp2_with fail
    refine RoundIn.mono (RoundIn.wideAny HR.out) ?_
    clear HR hy c0 y0 y1
    rintro e W3 (⟨rfl, hJ3, hk3⟩ | ⟨rfl, hJx3, hk3⟩)
    · gi_wp2_with fail
      exact ⟨hk3, ⟨hJ3, hk3.whole b0 (fun e => by have := HSl.out _ e; omega)⟩, hk.trans (hk3.keeps HD.out)⟩
    · gi_wp2_with fail
      exact ⟨hk3, hJx3, rfl⟩
  case done =>
    rintro D W1 hD ⟨⟨hj, b0⟩, hk⟩ hK
    have hDS : Hid (¬ S D) := Lib.hid (fun e => by have := HSl.out _ e; omega)
    have hbS : Hid (¬ S W.heap.size) := Lib.hid (fun e => by have := HSl.out _ e; omega)
    have hWD : Hid (W.heap.size ≤ D) := Lib.hid (by omega)
    have x1 := (hk.whole (.inr rfl) hbox).cell_at 1 rfl
    gi_wp2_with fail
    clear x1
    gi_loopw [18] (fun i wr => ∃ q : Nat, q ≤ sigs.length ∧ i = .int .i64 q ∧ J (js.length + q) wr ∧ Whole wr W.heap.size 118 [.func (.yield L) #[] #[]] ∧ Keeps (fun k => k < n0 ∨ k = g) w0 wr ∧ wr.heap[D]? = some (.deferred (some [])))
      (fun i _ => sigs.length - (intOf i).toNat)
    case atStart => exact ⟨0, by omega, rfl, hj, b0, hk, hK⟩
    case round =>
      clear hj b0 hk hK
      obtain ⟨q, hq, rfl, hj, b0, hk, hK⟩ := hrel
      by_cases hlt : q < sigs.length
      · have hlt' : (q : Int) < sigs.length := by omega
        obtain ⟨x, hx⟩ : ∃ x, sigs[q]? = some x := ⟨_, List.getElem?_eq_getElem hlt⟩
        have HX := Lib.hid hx
        clear hx
        obtain ⟨b, off, rfl, _, hc0, hc⟩ := (hrG.keeps hk (fun k hk => .inl hk)).nth (n := 2) (fun _ => rfl) (by omega) HX.out
        have c0 := hc0 q x _ HX.out rfl
        have c1 := hc q x 1 _ HX.out rfl
        clear hc0 hc
        have z0 := (b0.alloc (.cells (prtCells x).toArray 48)).cell_at 0 rfl
        have hJa := hJ.alloc (.cells (prtCells x).toArray 48) hj
        obtain ⟨fn, tmps, assign, body, hy, hR⟩ := hY (js.length + q) x _ (by rw [← HXS2.out, List.getElem?_append_right (by omega), List.getElem?_append_left (by omega), Nat.add_sub_cancel_left]; exact HX.out) hJa
        have HR := Lib.hid hR
        clear hR
        gi_wp2_with fail
        refine RoundIn.mono (RoundIn.wide HR.out) ?_
        clear HR hy c0 c1 z0
        have hB1 := below1 wr (.cells (prtCells x).toArray 48)
        have HB0 := Lib.hid (b0.alloc (.cells (prtCells x).toArray 48))
        have HK0 := Lib.hid ((hB1.block D (Array.getElem?_eq_some_iff.1 hK).1).trans hK)
        rintro e W3 (⟨rfl, hJ3, hk3⟩ | ⟨rfl, hJx3, hk3⟩)
        · gi_wp2_with fail
          go_roundw
          case rel => exact ⟨q + 1, hlt, by go_num, hJ3, hk3.whole HB0.out hbS.out, hk.trans ((Keeps.below hB1).trans (hk3.keeps HD.out)), hk3.rest _ _ HK0.out hDS.out⟩
          case measure => simp [intOf]; omega
        · have hK3 := hk3.rest _ _ HK0.out hDS.out
          gi_wp2_with fail
          refine ⟨by simp, .inl ⟨_, _, rfl, run_takeDeferred hK3, ?_⟩⟩
          exact ⟨_, results_none rfl _ _ _, ⟨_, rfl⟩, .inr (hJx.putObj (s := ()) _ hJx3 hWD.out hK3 rfl)⟩
      · obtain rfl : q = sigs.length := by omega
        have x2 := (hk.whole (.inr rfl) hbox).cell_at 2 rfl
        gi_wp2_with fail
        clear x2
        gi_loopw [31] (fun i wr => ∃ q : Nat, q ≤ exits.length ∧ i = .int .i64 q ∧ J (js.length + sigs.length + q) wr ∧ Whole wr W.heap.size 118 [.func (.yield L) #[] #[]] ∧ Keeps (fun k => k < n0 ∨ k = g) w0 wr ∧ wr.heap[D]? = some (.deferred (some [])))
          (fun i _ => exits.length - (intOf i).toNat)
        case atStart => exact ⟨0, by omega, rfl, hj, b0, hk, hK⟩
        case round =>
          clear hj b0 hk hK
          obtain ⟨q, hq, rfl, hj, b0, hk, hK⟩ := hrel
          by_cases hlt : q < exits.length
          · have hlt' : (q : Int) < exits.length := by omega
            obtain ⟨x, hx⟩ : ∃ x, exits[q]? = some x := ⟨_, List.getElem?_eq_getElem hlt⟩
            have HX := Lib.hid hx
            clear hx
            obtain ⟨b, off, rfl, _, hc0, hc⟩ := (hrE.keeps hk (fun k hk => .inl hk)).nth (n := 3) (fun _ => rfl) (by omega) HX.out
            have c0 := hc0 q x _ HX.out rfl
            have c1 := hc q x 1 _ HX.out rfl
            have c2 := hc q x 2 _ HX.out rfl
            clear hc0 hc
            have z0 := (b0.alloc (.cells x.cells.toArray 59)).cell_at 0 rfl
            have hJa := hJ.alloc (.cells x.cells.toArray 59) hj
            obtain ⟨fn, tmps, assign, body, hy, hR⟩ := hY (js.length + sigs.length + q) (x.s, x.q) _ (by rw [← HXS2.out, List.getElem?_append_right (by omega), List.getElem?_append_right (by omega), List.getElem?_map, show js.length + sigs.length + q - js.length - sigs.length = q by omega, HX.out]; rfl) hJa
            have HR := Lib.hid hR
            clear hR
            simp only at hy
            gi_wp2_with fail
            refine RoundIn.mono (RoundIn.wide HR.out) ?_
            clear HR hy c0 c1 c2 z0
            have hB1 := below1 wr (.cells x.cells.toArray 59)
            have HB0 := Lib.hid (b0.alloc (.cells x.cells.toArray 59))
            have HK0 := Lib.hid ((hB1.block D (Array.getElem?_eq_some_iff.1 hK).1).trans hK)
            rintro e W3 (⟨rfl, hJ3, hk3⟩ | ⟨rfl, hJx3, hk3⟩)
            · gi_wp2_with fail
              go_roundw
              case rel => exact ⟨q + 1, hlt, by go_num, hJ3, hk3.whole HB0.out hbS.out, hk.trans ((Keeps.below hB1).trans (hk3.keeps HD.out)), hk3.rest _ _ HK0.out hDS.out⟩
              case measure => simp [intOf]; omega
            · have hK3 := hk3.rest _ _ HK0.out hDS.out
              gi_wp2_with fail
              refine ⟨by simp, .inl ⟨_, _, rfl, run_takeDeferred hK3, ?_⟩⟩
              exact ⟨_, results_none rfl _ _ _, ⟨_, rfl⟩, .inr (hJx.putObj (s := ()) _ hJx3 hWD.out hK3 rfl)⟩
          · obtain rfl : q = exits.length := by omega
            have HE : Hid (js.length + sigs.length + exits.length = xs.length) := Lib.hid (by rw [← HXS2.out]; simp; omega)
            gi_wp2_with fail
            refine ⟨by simp, .inl ⟨_, _, rfl, run_takeDeferred hK, ?_⟩⟩
            exact ⟨_, results_none rfl _ _ _, ⟨_, rfl⟩, .inl (HE.out ▸ hJ.putObj _ hj hWD.out hK rfl)⟩
  case stop =>
    rintro D c W1 hD ⟨hx, rfl⟩ hK
    gi_wp2_with fail
    refine ⟨by simp, .inl ⟨_, _, rfl, run_takeDeferred hK, ?_⟩⟩
    exact ⟨_, results_none rfl _ _ _, ⟨_, rfl⟩, .inr (hJx.putObj (s := ()) _ hx (by omega) hK rfl)⟩
end Go.Proofs.YtlfpkileblmhoaaGreatDoor
namespace Go.Proofs.YtlfpkileblmhoaaGreatDoor
open Go.RowKit Go.Shelf
set_option linter.unusedVariables false
set_option linter.unusedSimpArgs false

/-- May a flank's numbers be? -/
def flankV (l : Lay) (a b c d : Int) : Bool := withinA b 0 (nK (kindV l a) - 1) && ((kindV l c == 2) && (!(c == a) && withinA d 0 1))

section
variable {P : World → Prop} {w : World}
set_option maxRecDepth 100000 in
set_option maxHeartbeats 8000000 in
theorem flankRight_P (hP : Closed P) (hT : ∀ w, P w → Shapes w) {l : Lay} (hL : ∀ w, P w → Lies l w) (a b c d : Int) {r : Bool} (hr : flankV l a b c d = r) (h : P w) :
    Calls Tryz.prog 90 #[l.val, flkV a b c d] w fun e w' => e = .returned (.bool r) ∧ P w' := by
  obtain ⟨Q, HQ, HQp, HQl, HQv, hq⟩ := keep_box2 hP h 29 114 l.cells (flkCells (a, b, c, d))
  obtain ⟨k, hk⟩ : ∃ k, kindV l a = k := ⟨_, rfl⟩
  obtain ⟨m, hm⟩ : ∃ m, kindV l c = m := ⟨_, rfl⟩
  have hkr := kindV_range (hL _ h) a
  rw [hk] at hkr
  obtain ⟨u, hu⟩ : ∃ u, withinA b 0 (IntKind.i64.wrap (nK k - 1)) = u := ⟨_, rfl⟩
  obtain ⟨z, hz⟩ : ∃ z, withinA d 0 1 = z := ⟨_, rfl⟩
  have HR : Hid ((u && ((m == 2) && (!(c == a) && z))) = r) := Lib.hid (by rw [← hr, ← hu, ← hz, nK_pred, ← hk, ← hm]; rfl)
  have HK := Lib.hid (fun W hW => kind_P (P := Q) (w := W) HQ.out (fun W hW => hL _ (HQp.out _ hW)) a hk hW)
  have HM := Lib.hid (fun W hW => kind_P (P := Q) (w := W) HQ.out (fun W hW => hL _ (HQp.out _ hW)) c hm hW)
  have HN := Lib.hid (fun W hW => ways_P (P := Q) (w := W) HQ.out (fun W hW => hT _ (HQp.out _ hW)) hkr.1 hkr.2 (shapeK k) hW)
  have HU := Lib.hid (fun W hW => withinL_P (P := Q) (w := W) b 0 (IntKind.i64.wrap (nK k - 1)) hu hW)
  have HZ := Lib.hid (fun W hW => withinL_P (P := Q) (w := W) d 0 1 hz hW)
  clear hk hkr hm hu hz hr
  have HS := Lib.hid (HQ.out.drew hq)
  clear hq
  generalize nK k = nk at *
  go_enter Tryz.func90, Tryz.ntmps90
  go_wp2_with fail
  refine wp_scope_fwd (l := 0) rfl ?_
  go_wp2_with fail
  refine region_steady (Q) 9 (by kernel_rfl) (by kernel_rfl) HS.out ?_
  simp only [List.take_succ_cons, List.take_zero, List.drop_succ_cons, List.drop_zero]
  repeat (first | (refine steady_skip (by rfl) ?_; simp only [Act.put, List.setIfInBounds_toArray, List.set_cons_zero, List.set_cons_succ]) | (refine steady_read _ (by rfl) (fun W hW => by (have m0 := HQl.out _ hW; have x0 := m0.cell_at 0 rfl; have x1 := m0.cell_at 1 rfl; have x2 := m0.cell_at 2 rfl; have x3 := m0.cell_at 3 rfl; have x4 := m0.cell_at 4 rfl; have x5 := m0.cell_at 5 rfl; have x6 := m0.cell_at 6 rfl; have x7 := m0.cell_at 7 rfl; have x8 := m0.cell_at 8 rfl; have x9 := m0.cell_at 9 rfl; have x10 := m0.cell_at 10 rfl; clear m0; have m1 := HQv.out _ hW; have v0 := m1.cell_at 0 rfl; have v1 := m1.cell_at 1 rfl; have v2 := m1.cell_at 2 rfl; have v3 := m1.cell_at 3 rfl; clear m1; go_simp; first | done | with_reducible rfl)) ?_; simp only [Act.put, List.setIfInBounds_toArray, List.set_cons_zero, List.set_cons_succ]) | (refine steady_call _ _ _ (by rfl) (fun W hW => by (have m0 := HQl.out _ hW; have x0 := m0.cell_at 0 rfl; have x1 := m0.cell_at 1 rfl; have x2 := m0.cell_at 2 rfl; have x3 := m0.cell_at 3 rfl; have x4 := m0.cell_at 4 rfl; have x5 := m0.cell_at 5 rfl; have x6 := m0.cell_at 6 rfl; have x7 := m0.cell_at 7 rfl; have x8 := m0.cell_at 8 rfl; have x9 := m0.cell_at 9 rfl; have x10 := m0.cell_at 10 rfl; clear m0; have m1 := HQv.out _ hW; have v0 := m1.cell_at 0 rfl; have v1 := m1.cell_at 1 rfl; have v2 := m1.cell_at 2 rfl; have v3 := m1.cell_at 3 rfl; clear m1; go_simp; first | done | rfl)) (fun W hW => HK.out _ hW) ?_; simp only [Act.put, List.setIfInBounds_toArray, List.set_cons_zero, List.set_cons_succ]) | (refine steady_call _ _ _ (by rfl) (fun W hW => by (have m0 := HQl.out _ hW; have x0 := m0.cell_at 0 rfl; have x1 := m0.cell_at 1 rfl; have x2 := m0.cell_at 2 rfl; have x3 := m0.cell_at 3 rfl; have x4 := m0.cell_at 4 rfl; have x5 := m0.cell_at 5 rfl; have x6 := m0.cell_at 6 rfl; have x7 := m0.cell_at 7 rfl; have x8 := m0.cell_at 8 rfl; have x9 := m0.cell_at 9 rfl; have x10 := m0.cell_at 10 rfl; clear m0; have m1 := HQv.out _ hW; have v0 := m1.cell_at 0 rfl; have v1 := m1.cell_at 1 rfl; have v2 := m1.cell_at 2 rfl; have v3 := m1.cell_at 3 rfl; clear m1; go_simp; first | done | rfl)) (fun W hW => HN.out _ hW) ?_; simp only [Act.put, List.setIfInBounds_toArray, List.set_cons_zero, List.set_cons_succ]) | (refine steady_call _ _ _ (by rfl) (fun W hW => by (have m0 := HQl.out _ hW; have x0 := m0.cell_at 0 rfl; have x1 := m0.cell_at 1 rfl; have x2 := m0.cell_at 2 rfl; have x3 := m0.cell_at 3 rfl; have x4 := m0.cell_at 4 rfl; have x5 := m0.cell_at 5 rfl; have x6 := m0.cell_at 6 rfl; have x7 := m0.cell_at 7 rfl; have x8 := m0.cell_at 8 rfl; have x9 := m0.cell_at 9 rfl; have x10 := m0.cell_at 10 rfl; clear m0; have m1 := HQv.out _ hW; have v0 := m1.cell_at 0 rfl; have v1 := m1.cell_at 1 rfl; have v2 := m1.cell_at 2 rfl; have v3 := m1.cell_at 3 rfl; clear m1; go_simp; first | done | rfl)) (fun W hW => HU.out _ hW) ?_; simp only [Act.put, List.setIfInBounds_toArray, List.set_cons_zero, List.set_cons_succ]))
  refine steady_nil (fun W hW => ?_)
  clear HS HK HN HU
  have hq := hW
  clear hW
  cases u
  · have HF : Hid (false = r) := Lib.hid (by rw [← HR.out]; rfl)
    go_wp2_with fail
    go_step3
    simp +zetaDelta only [Exit.inBlock, Exit.then, fwd_goto]
    refine ⟨trivial, ?_⟩
    go_wp2_with fail
    rw [Exit.noGoto_ret]
    go_ret
    exact ⟨ret_bool HF.out, HQp.out _ hq⟩
  have hW := hq
  have m0 := HQl.out _ hW
  have x0 := m0.cell_at 0 rfl
  have x1 := m0.cell_at 1 rfl
  have x2 := m0.cell_at 2 rfl
  have x3 := m0.cell_at 3 rfl
  have x4 := m0.cell_at 4 rfl
  have x5 := m0.cell_at 5 rfl
  have x6 := m0.cell_at 6 rfl
  have x7 := m0.cell_at 7 rfl
  have x8 := m0.cell_at 8 rfl
  have x9 := m0.cell_at 9 rfl
  have x10 := m0.cell_at 10 rfl
  clear m0
  have m1 := HQv.out _ hW
  have v0 := m1.cell_at 0 rfl
  have v1 := m1.cell_at 1 rfl
  have v2 := m1.cell_at 2 rfl
  have v3 := m1.cell_at 3 rfl
  clear m1
  clear hW
  go_wp2_with fail
  refine (HM.out _ hq).mono ?_
  clear hq x0 x1 x2 x3 x4 x5 x6 x7 x8 x9 x10 v0 v1 v2 v3
  rintro e w1 ⟨rfl, hq⟩
  have hW := hq
  have m0 := HQl.out _ hW
  have x0 := m0.cell_at 0 rfl
  have x1 := m0.cell_at 1 rfl
  have x2 := m0.cell_at 2 rfl
  have x3 := m0.cell_at 3 rfl
  have x4 := m0.cell_at 4 rfl
  have x5 := m0.cell_at 5 rfl
  have x6 := m0.cell_at 6 rfl
  have x7 := m0.cell_at 7 rfl
  have x8 := m0.cell_at 8 rfl
  have x9 := m0.cell_at 9 rfl
  have x10 := m0.cell_at 10 rfl
  clear m0
  have m1 := HQv.out _ hW
  have v0 := m1.cell_at 0 rfl
  have v1 := m1.cell_at 1 rfl
  have v2 := m1.cell_at 2 rfl
  have v3 := m1.cell_at 3 rfl
  clear m1
  clear hW
  by_cases hm2 : m = 2
  · subst hm2
    cases hca : (c == a)
    · have hca' : decide (c = a) = false := by simpa using hca
      go_wp2_with fail
      refine (HZ.out _ hq).mono ?_
      clear hq x0 x1 x2 x3 x4 x5 x6 x7 x8 x9 x10 v0 v1 v2 v3
      rintro e w2 ⟨rfl, hq⟩
      go_wp2_with fail
      try rw [fwd_ret]
      go_ret
      exact ⟨ret_bool (by rw [← HR.out, hca]; rfl), HQp.out _ hq⟩
    · have HF : Hid (false = r) := Lib.hid (by rw [← HR.out, hca]; rfl)
      obtain rfl := eq_of_beq hca
      clear hca
      go_wp2_with fail
      go_step3
      simp +zetaDelta only [Exit.inBlock, Exit.then, fwd_goto]
      refine ⟨trivial, ?_⟩
      go_wp2_with fail
      rw [Exit.noGoto_ret]
      go_ret
      exact ⟨ret_bool HF.out, HQp.out _ hq⟩
  · have HF : Hid (false = r) := Lib.hid (by rw [← HR.out, beq_false_of_ne hm2]; rfl)
    have hm2' : (m != 2) = true := by simpa using hm2
    clear hm2
    go_wp2_with fail
    go_step3
    simp +zetaDelta only [Exit.inBlock, Exit.then, fwd_goto]
    refine ⟨trivial, ?_⟩
    go_wp2_with fail
    rw [Exit.noGoto_ret]
    go_ret
    exact ⟨ret_bool HF.out, HQp.out _ hq⟩
end
end Go.Proofs.YtlfpkileblmhoaaGreatDoor
namespace Go.Proofs.YtlfpkileblmhoaaGreatDoor
open Go.RowKit Go.Shelf
set_option linter.unusedVariables false
set_option linter.unusedSimpArgs false

/-- The times; whose numbers may be. -/
def timesL (l : Lay) : List Int := [l.t0, l.t1, l.t2, l.t3, l.t4, l.t5, l.t6]
def rightL (l : Lay) : Bool :=
  !tooV l && (!((timesL l).any fun n => !withinA n 1 1000) && (!(l.secs.any fun s => !rightK s) && (!((portsL l).any fun p => !thereV l p.1 p.2) && (!((stepsL l).any fun s => !stepV l s.1 s.2.1 s.2.2) && !(l.flanks.any fun f => !flankV l f.1 f.2.1 f.2.2.1 f.2.2.2)))))

theorem Row.cellsOn {A B : World} (h : CellsOn A B) {X : Option Addr} {vs : List Value} (hr : Row A A.heap.size X vs) : Row B B.heap.size X vs := fun hp => by
  obtain ⟨b, off, e, hb, hc⟩ := hr hp
  exact ⟨b, off, e, Nat.lt_of_lt_of_le hb h.size, fun j u hu => h.cell (hc j u hu)⟩
theorem Lies.firm (l : Lay) (n : Nat) : Firm n (Lies l) := Firm.cells (fun W W' h hb => ⟨h.secs.cellsOn hb, h.sigs.cellsOn hb, h.exits.cellsOn hb, h.flanks.cellsOn hb, fun x hx => (h.overs x hx).cellsOn hb, h.kinds, h.nS, h.nG, h.nE, h.nF, h.nO⟩) n
theorem Shapes.firm (n : Nat) : Firm n Shapes := Firm.cells (fun W W' h hb i v hv => hb.cell (h i v hv)) n
theorem Whole.firm (g : Nat) (t : TypeId) (cs : List Value) (n : Nat) : Firm n fun w => Whole w g t cs := Firm.cells (fun W W' h hb => hb.whole h) n

section
variable {P : World → Prop} {w : World}
set_option maxHeartbeats 2000000 in
theorem right1_P (x : Int) (h : P w) : Calls Tryz.prog 85 #[.int .i64 x] w fun e w' => e = .returned (.bool (!(withinA x 1 1000))) ∧ P w' := by
  have HC := Lib.hid (withinL_P x 1 1000 rfl h)
  generalize withinA x 1 1000 = r at *
  go_enter Tryz.func85, Tryz.ntmps85
  go_wp2_with fail
  refine HC.out.mono ?_
  rintro e w1 ⟨rfl, hp⟩
  go_wp2_with fail
  go_ret
  exact ⟨rfl, hp⟩

set_option maxHeartbeats 2000000 in
theorem right2_P (hP : Closed P) (hT : ∀ w, P w → Shapes w) {l : Lay} (hL : ∀ w, P w → Lies l w) (x : Int × Int) (g : Nat) (hg : ∀ w, P w → Whole w g 29 l.cells) (h : P w) :
    Calls Tryz.prog 86 #[(prtV x.1 x.2), .pointer (some ⟨g, 0, none⟩)] w fun e w' => e = .returned (.bool (!(thereV l x.1 x.2))) ∧ P w' := by
  have hp := hP _ _ h (below1 w (.cells (prtCells x).toArray 46))
  have HC := Lib.hid (portThere_P hP hT hL x.1 x.2 rfl hp)
  have hw := hg _ hp
  have x0 := hw.cell_at 0 rfl
  have x1 := hw.cell_at 1 rfl
  have x2 := hw.cell_at 2 rfl
  have x3 := hw.cell_at 3 rfl
  have x4 := hw.cell_at 4 rfl
  have x5 := hw.cell_at 5 rfl
  have x6 := hw.cell_at 6 rfl
  have x7 := hw.cell_at 7 rfl
  have x8 := hw.cell_at 8 rfl
  have x9 := hw.cell_at 9 rfl
  have x10 := hw.cell_at 10 rfl
  clear hw hp hP hT hL hg h
  generalize thereV l x.1 x.2 = r at *
  go_enter Tryz.func86, Tryz.ntmps86
  go_wp2_with fail
  refine HC.out.mono ?_
  rintro e w1 ⟨rfl, hp⟩
  go_wp2_with fail
  go_ret
  exact ⟨rfl, hp⟩

set_option maxHeartbeats 2000000 in
theorem right3_P (hP : Closed P) (hT : ∀ w, P w → Shapes w) {l : Lay} (hL : ∀ w, P w → Lies l w) (x : Int × Int × Int) (g : Nat) (hg : ∀ w, P w → Whole w g 29 l.cells) (h : P w) :
    Calls Tryz.prog 87 #[(stpV x.1 x.2.1 x.2.2), .pointer (some ⟨g, 0, none⟩)] w fun e w' => e = .returned (.bool (!(stepV l x.1 x.2.1 x.2.2))) ∧ P w' := by
  have hp := hP _ _ h (below1 w (.cells (stpCells x).toArray 50))
  have HC := Lib.hid (stepThere_P hP hT hL x.1 x.2.1 x.2.2 rfl hp)
  have hw := hg _ hp
  have x0 := hw.cell_at 0 rfl
  have x1 := hw.cell_at 1 rfl
  have x2 := hw.cell_at 2 rfl
  have x3 := hw.cell_at 3 rfl
  have x4 := hw.cell_at 4 rfl
  have x5 := hw.cell_at 5 rfl
  have x6 := hw.cell_at 6 rfl
  have x7 := hw.cell_at 7 rfl
  have x8 := hw.cell_at 8 rfl
  have x9 := hw.cell_at 9 rfl
  have x10 := hw.cell_at 10 rfl
  clear hw hp hP hT hL hg h
  generalize stepV l x.1 x.2.1 x.2.2 = r at *
  go_enter Tryz.func87, Tryz.ntmps87
  go_wp2_with fail
  refine HC.out.mono ?_
  rintro e w1 ⟨rfl, hp⟩
  go_wp2_with fail
  go_ret
  exact ⟨rfl, hp⟩

set_option maxHeartbeats 2000000 in
theorem right4_P (hP : Closed P) (hT : ∀ w, P w → Shapes w) {l : Lay} (hL : ∀ w, P w → Lies l w) (x : Int × Int × Int × Int) (g : Nat) (hg : ∀ w, P w → Whole w g 29 l.cells) (h : P w) :
    Calls Tryz.prog 89 #[(flkV x.1 x.2.1 x.2.2.1 x.2.2.2), .pointer (some ⟨g, 0, none⟩)] w fun e w' => e = .returned (.bool (!(flankV l x.1 x.2.1 x.2.2.1 x.2.2.2))) ∧ P w' := by
  have hp := hP _ _ h (below1 w (.cells (flkCells x).toArray 114))
  have HC := Lib.hid (flankRight_P hP hT hL x.1 x.2.1 x.2.2.1 x.2.2.2 rfl hp)
  have hw := hg _ hp
  have x0 := hw.cell_at 0 rfl
  have x1 := hw.cell_at 1 rfl
  have x2 := hw.cell_at 2 rfl
  have x3 := hw.cell_at 3 rfl
  have x4 := hw.cell_at 4 rfl
  have x5 := hw.cell_at 5 rfl
  have x6 := hw.cell_at 6 rfl
  have x7 := hw.cell_at 7 rfl
  have x8 := hw.cell_at 8 rfl
  have x9 := hw.cell_at 9 rfl
  have x10 := hw.cell_at 10 rfl
  clear hw hp hP hT hL hg h
  generalize flankV l x.1 x.2.1 x.2.2.1 x.2.2.2 = r at *
  go_enter Tryz.func89, Tryz.ntmps89
  go_wp2_with fail
  refine HC.out.mono ?_
  rintro e w1 ⟨rfl, hp⟩
  go_wp2_with fail
  go_ret
  exact ⟨rfl, hp⟩
end

set_option maxHeartbeats 2000000 in
/-- The times as they lie behind times(t). -/
theorem times_any (l : Lay) (w : World) : Calls Tryz.prog 93 #[.agg #[.int .i64 l.t0, .int .i64 l.t1, .int .i64 l.t2, .int .i64 l.t3, .int .i64 l.t4, .int .i64 l.t5, .int .i64 l.t6]] w fun e w' =>
    e = .returned (.func (.func 137) #[] #[.pointer (some ⟨w.heap.size + 2, 0, none⟩)]) ∧ Below w.heap.size w w' ∧ w'.heap.size = w.heap.size + 3 ∧
      Iter Tryz.prog 137 #[.pointer (some ⟨w.heap.size + 2, 0, none⟩)] (fun x : Int => #[.int .i64 x]) (timesL l) (fun k => k < w.heap.size + 2 ∨ k = w.heap.size + 2) w' := by
  have HV := Lib.hid (fun w => valuesInt_any (some ⟨w.heap.size - 1, 0, none⟩) 7 7 w)
  go_enter Tryz.func93, Tryz.ntmps93
  go_wp2_with fail
  have hv := HV.out ((w.alloc (.cells #[.int .i64 l.t0, .int .i64 l.t1, .int .i64 l.t2, .int .i64 l.t3, .int .i64 l.t4, .int .i64 l.t5, .int .i64 l.t6] 27)).alloc (.cells #[.int .i64 l.t0, .int .i64 l.t1, .int .i64 l.t2, .int .i64 l.t3, .int .i64 l.t4, .int .i64 l.t5, .int .i64 l.t6] 3))
  rw [World.size_alloc, World.size_alloc, Nat.add_sub_cancel] at hv
  refine hv.mono ?_
  clear hv HV
  rintro e w1 ⟨rfl, rfl⟩
  go_wp2_with fail
  go_ret
  refine ⟨rfl, below3 _ _ _ _, by simp, ?_⟩
  have hr := ((Whole.new_at (w.alloc (.cells #[.int .i64 l.t0, .int .i64 l.t1, .int .i64 l.t2, .int .i64 l.t3, .int .i64 l.t4, .int .i64 l.t5, .int .i64 l.t6] 27)) 3 [.int .i64 l.t0, .int .i64 l.t1, .int .i64 l.t2, .int .i64 l.t3, .int .i64 l.t4, .int .i64 l.t5, .int .i64 l.t6] (w.heap.size + 1) (by simp)).alloc (.cells #[.slice (some ⟨w.heap.size + 1, 0, none⟩) 7 7] 33)).row (B := w.heap.size + 2) (by omega)
  exact valuesInt_iter (xs := timesL l) (c := 7) (Whole.new_at _ 33 [.slice (some ⟨w.heap.size + 1, 0, none⟩) 7 7] (w.heap.size + 2) (by simp)) hr (by show (7 : Int) ≤ _; omega)

set_option maxRecDepth 100000 in
set_option maxHeartbeats 8000000 in
theorem rightL_any {l : Lay} (w : World) (hT : Shapes w) (hL : Lies l w) {r : Bool} (hr : rightL l = r) : Calls Tryz.prog 66 #[l.val] w fun e w' => e = .returned (.bool r) ∧ Below w.heap.size w w' := by
  obtain ⟨Q, HQ, HQs, HQL, HQl, HQb, hq⟩ : ∃ Q : World → Prop, Hid (Firm w.heap.size Q) ∧ Hid (∀ W, Q W → Shapes W) ∧ Hid (∀ W, Q W → Lies l W) ∧ Hid (∀ W, Q W → Whole W w.heap.size 29 l.cells) ∧ Hid (∀ W, Q W → Below w.heap.size w W) ∧ Q (w.alloc (.cells l.cells.toArray 29)) :=
    ⟨fun W => ((Shapes W ∧ Lies l W) ∧ Whole W w.heap.size 29 l.cells) ∧ Below w.heap.size w W, Lib.hid ((((Shapes.firm _).and (Lies.firm l _)).and (Whole.firm _ _ _ _)).and (Firm.below w)), Lib.hid (fun _ h => h.1.1.1), Lib.hid (fun _ h => h.1.1.2), Lib.hid (fun _ h => h.1.2), Lib.hid (fun _ h => h.2),
     ⟨⟨Shapes.closed _ _ hT (below1 w _), Lies.closed l _ _ hL (below1 w _)⟩, Whole.new w _ l.cells⟩, below1 w _⟩
  have HSz : Hid (∀ W, Q W → w.heap.size + 1 ≤ W.heap.size) := Lib.hid (fun W h => (HQl.out W h).lt)
  obtain ⟨a0, h0⟩ : ∃ a, tooV l = a := ⟨_, rfl⟩
  obtain ⟨a1, h1⟩ : ∃ a, (timesL l).any (fun n => !withinA n 1 1000) = a := ⟨_, rfl⟩
  obtain ⟨a2, h2⟩ : ∃ a, l.secs.any (fun s => !rightK s) = a := ⟨_, rfl⟩
  obtain ⟨a3, h3⟩ : ∃ a, (portsL l).any (fun p => !thereV l p.1 p.2) = a := ⟨_, rfl⟩
  obtain ⟨a4, h4⟩ : ∃ a, (stepsL l).any (fun s => !stepV l s.1 s.2.1 s.2.2) = a := ⟨_, rfl⟩
  obtain ⟨a5, h5⟩ : ∃ a, l.flanks.any (fun f => !flankV l f.1 f.2.1 f.2.2.1 f.2.2.2) = a := ⟨_, rfl⟩
  have HR : Hid ((!a0 && (!a1 && (!a2 && (!a3 && (!a4 && !a5))))) = r) := Lib.hid (by rw [← hr, ← h0, ← h1, ← h2, ← h3, ← h4, ← h5]; rfl)
  have K0 := Lib.hid (fun W (hW : Q W) => tooMany_P (w := W) HQ.out.closed (fun W h => HQL.out _ h) h0 hW)
  have K2 := Lib.hid (fun W (hW : Q W) => sectionsRight_P (w := W) HQ.out.closed (fun W h => HQs.out _ h) (fun W h => HQL.out _ h) h2 hW)
  have M1 := Lib.hid (fun W (hW : Q W) => times_any l W)
  have K1 := Lib.hid (fun (g : Nat) (R : Nat → Prop) (w0 W : World) (hW : Q W) hit hw0 hRl => someInt_P (w := W) (lb := #[.pointer (some ⟨g, 0, none⟩)]) (xs := timesL l) (R := R) (w0 := w0) HQ.out (Nat.le_of_succ_le (HSz.out W hW)) hit hw0 hRl (fun x _ W hW => right1_P (P := fun W' => Q W' ∧ Below W.heap.size W W') x ⟨hW, Below.refl _ _⟩) h1 hW)
  have M3 := Lib.hid (fun W => portsOf_any l W)
  have K3 := Lib.hid (fun (W W0 : World) (hW : Q W) (e : W0 = W.alloc (.cells #[.slice l.As l.secs.length l.cs, .slice l.Ag l.sigs.length l.cg, .slice l.Ae l.exits.length l.ce, .slice l.Af l.flanks.length l.cf, .int .i64 l.t0, .int .i64 l.t1, .int .i64 l.t2, .int .i64 l.t3, .int .i64 l.t4, .int .i64 l.t5, .int .i64 l.t6] 29)) => somePort_P (w := W0) (lb := #[.pointer (some ⟨W.heap.size, 0, none⟩)]) (xs := portsL l) (R := fun k => k < W.heap.size ∨ k = W.heap.size) (w0 := W0) (p0 := .pointer (some ⟨w.heap.size, 0, none⟩)) HQ.out (by rw [e, World.size_alloc]; have := HSz.out W hW; omega)
    (by rw [e]; exact ports_iter (n0 := W.heap.size) (Whole.new W _ l.cells) (by simp) ((HQL.out W hW).secs.below (below1 _ _)) ((HQL.out W hW).sigs.below (below1 _ _)) ((HQL.out W hW).exits.below (below1 _ _)) hL.nS hL.nG hL.nE) (Keeps.refl _ _) (fun k hk => by rw [e, World.size_alloc]; omega)
    (fun x hx W hW => right2_P (P := fun W' => Q W' ∧ Below W.heap.size W W') (w := W) (HQ.out.closed.and (Closed.below W)) (fun W' h => HQs.out _ h.1) (fun W' h => HQL.out _ h.1) x _ (fun W' h => HQl.out _ h.1) ⟨hW, Below.refl _ _⟩) h3 (by rw [e]; exact HQ.out.closed _ _ hW (below1 _ _)))
  have M4 := Lib.hid (fun W => stepsOf_any l W)
  have K4 := Lib.hid (fun (W W0 : World) (hW : Q W) (e : W0 = W.alloc (.cells #[.slice l.As l.secs.length l.cs, .slice l.Ag l.sigs.length l.cg, .slice l.Ae l.exits.length l.ce, .slice l.Af l.flanks.length l.cf, .int .i64 l.t0, .int .i64 l.t1, .int .i64 l.t2, .int .i64 l.t3, .int .i64 l.t4, .int .i64 l.t5, .int .i64 l.t6] 29)) => someStep_P (w := W0) (lb := #[.pointer (some ⟨W.heap.size, 0, none⟩)]) (xs := stepsL l) (R := fun k => k < W.heap.size ∨ k = W.heap.size) (w0 := W0) (p0 := .pointer (some ⟨w.heap.size, 0, none⟩)) HQ.out (by rw [e, World.size_alloc]; have := HSz.out W hW; omega)
    (by rw [e]; exact steps_iter (n0 := W.heap.size) (Whole.new W _ l.cells) ((HQL.out W hW).exits.below (below1 _ _)) (fun x hx => ((HQL.out W hW).overs x hx).below (below1 _ _)) hL.nE hL.nO) (Keeps.refl _ _) (fun k hk => by rw [e, World.size_alloc]; omega)
    (fun x hx W hW => right3_P (P := fun W' => Q W' ∧ Below W.heap.size W W') (w := W) (HQ.out.closed.and (Closed.below W)) (fun W' h => HQs.out _ h.1) (fun W' h => HQL.out _ h.1) x _ (fun W' h => HQl.out _ h.1) ⟨hW, Below.refl _ _⟩) h4 (by rw [e]; exact HQ.out.closed _ _ hW (below1 _ _)))
  have M5 := Lib.hid (fun W => valuesFlank_any l.Af l.flanks.length l.cf W)
  have K5 := Lib.hid (fun (W W0 : World) (hW : Q W) (e : W0 = W.alloc (.cells #[.slice l.Af l.flanks.length l.cf] 25)) => someFlank_P (w := W0) (lb := #[.pointer (some ⟨W.heap.size, 0, none⟩)]) (xs := l.flanks) (R := fun k => k < W.heap.size ∨ k = W.heap.size) (w0 := W0) (p0 := .pointer (some ⟨w.heap.size, 0, none⟩)) HQ.out (by rw [e, World.size_alloc]; have := HSz.out W hW; omega)
    (by rw [e]; exact valuesFlank_iter (n0 := W.heap.size) (c := l.cf) (Whole.new W _ [.slice l.Af l.flanks.length l.cf]) ((HQL.out W hW).flanks.below (below1 _ _)) hL.nF) (Keeps.refl _ _) (fun k hk => by rw [e, World.size_alloc]; omega)
    (fun x hx W hW => right4_P (P := fun W' => Q W' ∧ Below W.heap.size W W') (w := W) (HQ.out.closed.and (Closed.below W)) (fun W' h => HQs.out _ h.1) (fun W' h => HQL.out _ h.1) x _ (fun W' h => HQl.out _ h.1) ⟨hW, Below.refl _ _⟩) h5 (by rw [e]; exact HQ.out.closed _ _ hW (below1 _ _)))
  clear h0 h1 h2 h3 h4 h5 hr hT hL
  have x0 := (HQl.out _ hq).cell_at 0 rfl
  have x1 := (HQl.out _ hq).cell_at 1 rfl
  have x2 := (HQl.out _ hq).cell_at 2 rfl
  have x3 := (HQl.out _ hq).cell_at 3 rfl
  have x4 := (HQl.out _ hq).cell_at 4 rfl
  have x5 := (HQl.out _ hq).cell_at 5 rfl
  have x6 := (HQl.out _ hq).cell_at 6 rfl
  have x7 := (HQl.out _ hq).cell_at 7 rfl
  have x8 := (HQl.out _ hq).cell_at 8 rfl
  have x9 := (HQl.out _ hq).cell_at 9 rfl
  have x10 := (HQl.out _ hq).cell_at 10 rfl
  go_enter Tryz.func66, Tryz.ntmps66
  go_wp2_with fail
  refine wp_scope_fwd (l := 0) rfl ?_
  go_wp2_with fail
  refine (K0.out _ hq).mono ?_
  clear hq x0 x1 x2 x3 x4 x5 x6 x7 x8 x9 x10
  rintro e w1 ⟨rfl, hq⟩
  cases a0
  rotate_left
  · have HF : Hid (false = r) := Lib.hid (by rw [← HR.out]; rfl)
    go_wp2_with fail
    go_step3
    simp +zetaDelta only [Exit.inBlock, Exit.then, fwd_goto]
    refine ⟨trivial, ?_⟩
    go_wp2_with fail
    rw [Exit.noGoto_ret]
    go_ret
    exact ⟨ret_bool HF.out, HQb.out _ hq⟩
  have x0 := (HQl.out _ hq).cell_at 0 rfl
  have x1 := (HQl.out _ hq).cell_at 1 rfl
  have x2 := (HQl.out _ hq).cell_at 2 rfl
  have x3 := (HQl.out _ hq).cell_at 3 rfl
  have x4 := (HQl.out _ hq).cell_at 4 rfl
  have x5 := (HQl.out _ hq).cell_at 5 rfl
  have x6 := (HQl.out _ hq).cell_at 6 rfl
  have x7 := (HQl.out _ hq).cell_at 7 rfl
  have x8 := (HQl.out _ hq).cell_at 8 rfl
  have x9 := (HQl.out _ hq).cell_at 9 rfl
  have x10 := (HQl.out _ hq).cell_at 10 rfl
  go_wp2_with fail
  refine (M1.out _ hq).mono ?_
  clear x0 x1 x2 x3 x4 x5 x6 x7 x8 x9 x10
  rintro e w2 ⟨rfl, hB2, hs2, hit⟩
  have hq := HQ.out.closed _ _ hq hB2
  go_wp2_with fail
  refine (K1.out _ _ w2 w2 hq hit (Keeps.refl _ _) (fun k hk => by omega)).mono ?_
  clear hit hB2 hs2
  rintro e w3 ⟨rfl, hq⟩
  cases a1
  rotate_left
  · have HF : Hid (false = r) := Lib.hid (by rw [← HR.out]; rfl)
    go_wp2_with fail
    go_step3
    simp +zetaDelta only [Exit.inBlock, Exit.then, fwd_goto]
    refine ⟨trivial, ?_⟩
    go_wp2_with fail
    rw [Exit.noGoto_ret]
    go_ret
    exact ⟨ret_bool HF.out, HQb.out _ hq⟩
  have x0 := (HQl.out _ hq).cell_at 0 rfl
  have x1 := (HQl.out _ hq).cell_at 1 rfl
  have x2 := (HQl.out _ hq).cell_at 2 rfl
  have x3 := (HQl.out _ hq).cell_at 3 rfl
  have x4 := (HQl.out _ hq).cell_at 4 rfl
  have x5 := (HQl.out _ hq).cell_at 5 rfl
  have x6 := (HQl.out _ hq).cell_at 6 rfl
  have x7 := (HQl.out _ hq).cell_at 7 rfl
  have x8 := (HQl.out _ hq).cell_at 8 rfl
  have x9 := (HQl.out _ hq).cell_at 9 rfl
  have x10 := (HQl.out _ hq).cell_at 10 rfl
  go_wp2_with fail
  refine (K2.out _ hq).mono ?_
  clear hq x0 x1 x2 x3 x4 x5 x6 x7 x8 x9 x10
  rintro e w4 ⟨rfl, hq⟩
  cases a2
  rotate_left
  · have HF : Hid (false = r) := Lib.hid (by rw [← HR.out]; rfl)
    go_wp2_with fail
    go_step3
    simp +zetaDelta only [Exit.inBlock, Exit.then, fwd_goto]
    refine ⟨trivial, ?_⟩
    go_wp2_with fail
    rw [Exit.noGoto_ret]
    go_ret
    exact ⟨ret_bool HF.out, HQb.out _ hq⟩
  have x0 := (HQl.out _ hq).cell_at 0 rfl
  have x1 := (HQl.out _ hq).cell_at 1 rfl
  have x2 := (HQl.out _ hq).cell_at 2 rfl
  have x3 := (HQl.out _ hq).cell_at 3 rfl
  have x4 := (HQl.out _ hq).cell_at 4 rfl
  have x5 := (HQl.out _ hq).cell_at 5 rfl
  have x6 := (HQl.out _ hq).cell_at 6 rfl
  have x7 := (HQl.out _ hq).cell_at 7 rfl
  have x8 := (HQl.out _ hq).cell_at 8 rfl
  have x9 := (HQl.out _ hq).cell_at 9 rfl
  have x10 := (HQl.out _ hq).cell_at 10 rfl
  go_wp2_with fail
  refine (M3.out _).mono ?_
  clear x0 x1 x2 x3 x4 x5 x6 x7 x8 x9 x10
  rintro e w5 ⟨rfl, e5⟩
  have E5 := Lib.hid e5
  clear e5
  go_wp2_with fail
  refine (K3.out _ _ hq E5.out).mono ?_
  clear hq E5
  rintro e w6 ⟨rfl, hq⟩
  cases a3
  rotate_left
  · have HF : Hid (false = r) := Lib.hid (by rw [← HR.out]; rfl)
    go_wp2_with fail
    go_step3
    simp +zetaDelta only [Exit.inBlock, Exit.then, fwd_goto]
    refine ⟨trivial, ?_⟩
    go_wp2_with fail
    rw [Exit.noGoto_ret]
    go_ret
    exact ⟨ret_bool HF.out, HQb.out _ hq⟩
  have x0 := (HQl.out _ hq).cell_at 0 rfl
  have x1 := (HQl.out _ hq).cell_at 1 rfl
  have x2 := (HQl.out _ hq).cell_at 2 rfl
  have x3 := (HQl.out _ hq).cell_at 3 rfl
  have x4 := (HQl.out _ hq).cell_at 4 rfl
  have x5 := (HQl.out _ hq).cell_at 5 rfl
  have x6 := (HQl.out _ hq).cell_at 6 rfl
  have x7 := (HQl.out _ hq).cell_at 7 rfl
  have x8 := (HQl.out _ hq).cell_at 8 rfl
  have x9 := (HQl.out _ hq).cell_at 9 rfl
  have x10 := (HQl.out _ hq).cell_at 10 rfl
  go_wp2_with fail
  refine (M4.out _).mono ?_
  clear x0 x1 x2 x3 x4 x5 x6 x7 x8 x9 x10
  rintro e w7 ⟨rfl, e7⟩
  have E7 := Lib.hid e7
  clear e7
  go_wp2_with fail
  refine (K4.out _ _ hq E7.out).mono ?_
  clear hq E7
  rintro e w8 ⟨rfl, hq⟩
  cases a4
  rotate_left
  · have HF : Hid (false = r) := Lib.hid (by rw [← HR.out]; rfl)
    go_wp2_with fail
    go_step3
    simp +zetaDelta only [Exit.inBlock, Exit.then, fwd_goto]
    refine ⟨trivial, ?_⟩
    go_wp2_with fail
    rw [Exit.noGoto_ret]
    go_ret
    exact ⟨ret_bool HF.out, HQb.out _ hq⟩
  have x0 := (HQl.out _ hq).cell_at 0 rfl
  have x1 := (HQl.out _ hq).cell_at 1 rfl
  have x2 := (HQl.out _ hq).cell_at 2 rfl
  have x3 := (HQl.out _ hq).cell_at 3 rfl
  have x4 := (HQl.out _ hq).cell_at 4 rfl
  have x5 := (HQl.out _ hq).cell_at 5 rfl
  have x6 := (HQl.out _ hq).cell_at 6 rfl
  have x7 := (HQl.out _ hq).cell_at 7 rfl
  have x8 := (HQl.out _ hq).cell_at 8 rfl
  have x9 := (HQl.out _ hq).cell_at 9 rfl
  have x10 := (HQl.out _ hq).cell_at 10 rfl
  go_wp2_with fail
  refine (M5.out _).mono ?_
  clear x0 x1 x2 x3 x4 x5 x6 x7 x8 x9 x10
  rintro e w9 ⟨rfl, e9⟩
  have E9 := Lib.hid e9
  clear e9
  go_wp2_with fail
  refine (K5.out _ _ hq E9.out).mono ?_
  clear hq E9
  rintro e w10 ⟨rfl, hq⟩
  cases a5
  rotate_left
  · have HF : Hid (false = r) := Lib.hid (by rw [← HR.out]; rfl)
    go_wp2_with fail
    go_step3
    simp +zetaDelta only [Exit.inBlock, Exit.then, fwd_goto]
    refine ⟨trivial, ?_⟩
    go_wp2_with fail
    rw [Exit.noGoto_ret]
    go_ret
    exact ⟨ret_bool HF.out, HQb.out _ hq⟩
  have HF : Hid (true = r) := Lib.hid (by rw [← HR.out]; rfl)
  go_wp2_with fail
  try rw [fwd_ret]
  go_ret
  exact ⟨ret_bool HF.out, HQb.out _ hq⟩
theorem rightL_P {P : World → Prop} {w : World} (hP : Closed P) (hT : ∀ w, P w → Shapes w) {l : Lay} (hL : ∀ w, P w → Lies l w) {r : Bool} (hr : rightL l = r) (h : P w) : Calls Tryz.prog 66 #[l.val] w fun e w' => e = .returned (.bool r) ∧ P w' :=
  (rightL_any w (hT _ h) (hL _ h) hr).mono fun e w' ⟨he, hb⟩ => ⟨he, hP _ _ h hb⟩
end Go.Proofs.YtlfpkileblmhoaaGreatDoor
namespace Go.Proofs.YtlfpkileblmhoaaGreatDoor
open Go.RowKit Go.Shelf
set_option linter.unusedVariables false
set_option linter.unusedSimpArgs false

theorem take_at {α : Type} {l : List α} {i : Nat} {x : α} (h : l[i]? = some x) : l.take (i + 1) = l.take i ++ [x] := by
  rw [List.take_add_one, h]; rfl
section
variable {P : World → Prop} {w : World}

set_option maxRecDepth 100000 in
set_option maxHeartbeats 4000000 in
theorem equalStep_P (hP : Closed P) {l m : List (Int × Int × Int)} {A B : Option Addr} (ca cb : Nat) (hA : ∀ w, P w → Row w w.heap.size A (l.flatMap stpCells)) (hB : ∀ w, P w → Row w w.heap.size B (m.flatMap stpCells)) (hn : (l.length : Int) ≤ 9223372036854775807) {r : Bool} (hr : decide (l = m) = r) (h : P w) :
    Calls Tryz.prog 41 #[.slice A l.length ca, .slice B m.length cb] w fun e w' => e = .returned (.bool r) ∧ P w' := by
  have HR := Lib.hid hr
  clear hr
  by_cases hlen : l.length = m.length
  · have HLe := Lib.hid hlen
    rw [← hlen]
    have hm : ∀ j, j < l.length → j < m.length := fun j hj => hlen ▸ hj
    clear hlen
    go_enter Tryz.func41, Tryz.ntmps41
    go_wp2_with fail
    go_loopw [13] (fun i wr => ∃ j : Nat, j ≤ l.length ∧ i = .int .i64 j ∧ P wr ∧ Hid (l.take j = m.take j))
      (fun i _ => l.length - (intOf i).toNat)
    case atStart => exact ⟨0, by omega, rfl, h, Lib.hid rfl⟩
    case round =>
      obtain ⟨j, hj, rfl, hp, HNo⟩ := hrel
      by_cases hlt : j < l.length
      · have hlt' : (j : Int) < l.length := by omega
        obtain ⟨x, hx⟩ : ∃ x, l[j]? = some x := ⟨_, List.getElem?_eq_getElem hlt⟩
        obtain ⟨y, hy⟩ : ∃ y, m[j]? = some y := ⟨_, List.getElem?_eq_getElem (hm j hlt)⟩
        have HX := Lib.hid hx
        have HY := Lib.hid hy
        clear hx hy
        obtain ⟨b1, o1, rfl, _, hc0, hc⟩ := (hA _ hp).nth (n := 3) (fun _ => rfl) (by omega) HX.out
        have c0 := hc0 j x _ HX.out rfl
        have c1 := hc j x 1 _ HX.out rfl
        have c2 := hc j x 2 _ HX.out rfl
        clear hc0 hc
        obtain ⟨b2, o2, rfl, _, hc0, hc⟩ := (hB _ hp).nth (n := 3) (fun _ => rfl) (by omega) HY.out
        have d0 := hc0 j y _ HY.out rfl
        have d1 := hc j y 1 _ HY.out rfl
        have d2 := hc j y 2 _ HY.out rfl
        clear hc0 hc
        obtain ⟨b, HB⟩ : ∃ b, Hid ((fun x y : Int × Int × Int => x.1 == y.1 && (x.2.1 == y.2.1 && x.2.2 == y.2.2)) x y = b) := ⟨_, Lib.hid rfl⟩
        have hne : ∀ w : World, (binOp .neq 50 (stpV x.1 x.2.1 x.2.2) (stpV y.1 y.2.1 y.2.2)).run Tryz.prog w = .ok (.bool (!b)) w := fun w => by rw [run_neq_struct, eq_stp w x.1 x.2.1 x.2.2 y.1 y.2.1 y.2.2, ← HB.out]; rfl
        have HPd := Lib.hid (fun n => hP _ _ hp (below_drawn (Below.refl _ wr) n))
        cases b
        · have HF : Hid (false = r) := Lib.hid (by
            rw [← HR.out, eq_comm, decide_eq_false_iff_not]
            intro e
            subst e
            have := HX.out.symm.trans HY.out
            cases this
            have := HB.out
            simp at this)
          go_wp2_with fail
          go_quiet (fail)
          go_wp2_with fail
          go_ret
          exact ⟨ret_bool HF.out, HPd.out _⟩
        · have HN : Hid (l.take (j + 1) = m.take (j + 1)) := Lib.hid (by
            rw [take_at HX.out, take_at HY.out, HNo.out]
            have hxy : x = y := by
              have := HB.out
              simp only [Bool.and_eq_true, beq_iff_eq] at this
              exact Prod.ext this.1 (Prod.ext this.2.1 this.2.2)
            rw [hxy])
          go_wp2_with fail
          go_quiet (fail)
          go_wp2_with fail
          go_roundw
          case rel => exact ⟨j + 1, hlt, by go_num, HPd.out _, HN⟩
          case measure => simp [intOf]; omega
      · obtain rfl : j = l.length := by omega
        have HF : Hid (true = r) := Lib.hid (by
          rw [← HR.out, eq_comm, decide_eq_true_eq]
          have := HNo.out
          rw [List.take_length, HLe.out, List.take_length] at this
          exact this)
        go_wp2_with fail
        go_ret
        exact ⟨ret_bool HF.out, hp⟩
  · have HF : Hid (false = r) := Lib.hid (by
      rw [← HR.out, eq_comm, decide_eq_false_iff_not]
      exact fun e => hlen (by rw [e]))
    have hlen' : ((l.length : Int) != (m.length : Int)) = true := by rw [bne_iff_ne]; omega
    clear hlen
    go_enter Tryz.func41, Tryz.ntmps41
    go_wp2_with fail
    go_ret
    exact ⟨ret_bool HF.out, h⟩
end
end Go.Proofs.YtlfpkileblmhoaaGreatDoor
namespace Go.Proofs.YtlfpkileblmhoaaGreatDoor
open Go.RowKit Go.Shelf
set_option linter.unusedVariables false
set_option linter.unusedSimpArgs false

section
variable {P : World → Prop} {w : World}
/-- Are two layouts the same in all? -/
def sameV (l m : Lay) : Bool := sameT l m && (decide (l.secs.map id = m.secs.map id) && (decide (l.sigs = m.sigs) && (decide (l.exits.map Exm.pure = m.exits.map Exm.pure) && decide (l.flanks = m.flanks))))
end
end Go.Proofs.YtlfpkileblmhoaaGreatDoor
