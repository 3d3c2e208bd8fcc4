/- A layout as it lies in memory: its numbers, and where its rows are; it lies on wherever memory grows. -/
import Derived.Test.YtbalcbnlpgekaaaDoorPortK0
namespace Go.Proofs.YtbalcbnlpgekaaaDoor
open Go.RowKit Go.Shelf
set_option linter.unusedVariables false

/-- A section's numbers. -/
structure Sec where
  k : Int
  s0 : Int
  q0 : Int
  s1 : Int
  q1 : Int
  s2 : Int
  q2 : Int
  s3 : Int
  q3 : Int
  c0 : Int
  c1 : Int
def Sec.tup (s : Sec) : List Int := [s.k, s.s0, s.q0, s.s1, s.q1, s.s2, s.q2, s.s3, s.q3, s.c0, s.c1]
theorem Sec.tup_inj {a b : Sec} (h : a.tup = b.tup) : a = b := by
  cases a; cases b
  simp only [Sec.tup, List.cons.injEq] at h
  obtain ⟨rfl, rfl, rfl, rfl, rfl, rfl, rfl, rfl, rfl, rfl, rfl, _⟩ := h
  rfl
instance : DecidableEq Sec := fun a b => decidable_of_iff (a.tup = b.tup) ⟨Sec.tup_inj, fun h => by rw [h]⟩
abbrev Sec.cells (s : Sec) : List Value := [.int .u8 s.k, .int .i64 s.s0, .int .i64 s.q0, .int .i64 s.s1, .int .i64 s.q1, .int .i64 s.s2, .int .i64 s.q2, .int .i64 s.s3, .int .i64 s.q3, .int .i64 s.c0, .int .i64 s.c1]
abbrev Sec.val (s : Sec) : Value := secV s.k s.s0 s.q0 s.s1 s.q1 s.s2 s.q2 s.s3 s.q3 s.c0 s.c1
/-- Ports, steps, flanks. -/
abbrev prtCells (p : Int × Int) : List Value := [.int .i64 p.1, .int .i64 p.2]
abbrev prtV (s q : Int) : Value := .agg #[.int .i64 s, .int .i64 q]
abbrev stpCells (p : Int × Int × Int) : List Value := [.int .i64 p.1, .int .i64 p.2.1, .int .i64 p.2.2]
abbrev stpV (s i o : Int) : Value := .agg #[.int .i64 s, .int .i64 i, .int .i64 o]
abbrev flkCells (f : Int × Int × Int × Int) : List Value := [.int .i64 f.1, .int .i64 f.2.1, .int .i64 f.2.2.1, .int .i64 f.2.2.2]
abbrev flkV (a b c d : Int) : Value := .agg #[.int .i64 a, .int .i64 b, .int .i64 c, .int .i64 d]
/-- An exit, and where its overlap lies. -/
structure Exm where
  s : Int
  q : Int
  A : Option Addr
  c : Nat
  over : List (Int × Int × Int)
abbrev Exm.cells (x : Exm) : List Value := [.int .i64 x.s, .int .i64 x.q, .slice x.A x.over.length x.c]
abbrev Exm.val (x : Exm) : Value := .agg #[.int .i64 x.s, .int .i64 x.q, .slice x.A x.over.length x.c]
/-- What is told of an exit. -/
def Exm.pure (x : Exm) : Int × Int × List (Int × Int × Int) := (x.s, x.q, x.over)
/-- A layout, and where its rows lie. -/
structure Lay where
  secs : List Sec
  As : Option Addr
  cs : Nat
  sigs : List (Int × Int)
  Ag : Option Addr
  cg : Nat
  exits : List Exm
  Ae : Option Addr
  ce : Nat
  flanks : List (Int × Int × Int × Int)
  Af : Option Addr
  cf : Nat
  t0 : Int
  t1 : Int
  t2 : Int
  t3 : Int
  t4 : Int
  t5 : Int
  t6 : Int
abbrev Lay.cells (l : Lay) : List Value := [.slice l.As l.secs.length l.cs, .slice l.Ag l.sigs.length l.cg, .slice l.Ae l.exits.length l.ce, .slice l.Af l.flanks.length l.cf,
  .int .i64 l.t0, .int .i64 l.t1, .int .i64 l.t2, .int .i64 l.t3, .int .i64 l.t4, .int .i64 l.t5, .int .i64 l.t6]
abbrev Lay.val (l : Lay) : Value := .agg #[.slice l.As l.secs.length l.cs, .slice l.Ag l.sigs.length l.cg, .slice l.Ae l.exits.length l.ce, .slice l.Af l.flanks.length l.cf,
  .int .i64 l.t0, .int .i64 l.t1, .int .i64 l.t2, .int .i64 l.t3, .int .i64 l.t4, .int .i64 l.t5, .int .i64 l.t6]
/-- Its rows lie there. -/
structure Lies (l : Lay) (w : World) : Prop where
  secs : Row w w.heap.size l.As (l.secs.flatMap Sec.cells)
  sigs : Row w w.heap.size l.Ag (l.sigs.flatMap prtCells)
  exits : Row w w.heap.size l.Ae (l.exits.flatMap Exm.cells)
  flanks : Row w w.heap.size l.Af (l.flanks.flatMap flkCells)
  overs : ∀ x ∈ l.exits, Row w w.heap.size x.A (x.over.flatMap stpCells)
  kinds : ∀ s ∈ l.secs, 0 ≤ s.k ∧ s.k ≤ 255
  nS : (l.secs.length : Int) ≤ 9223372036854775807
  nG : (l.sigs.length : Int) ≤ 9223372036854775807
  nE : (l.exits.length : Int) ≤ 9223372036854775807
  nF : (l.flanks.length : Int) ≤ 9223372036854775807
  nO : ∀ x ∈ l.exits, (x.over.length : Int) ≤ 9223372036854775807
theorem Lies.closed (l : Lay) : Closed (Lies l) := fun w w' h hb => ⟨h.secs.on hb, h.sigs.on hb, h.exits.on hb, h.flanks.on hb, fun x hx => (h.overs x hx).on hb, h.kinds, h.nS, h.nG, h.nE, h.nF, h.nO⟩

theorem flat_at {α : Type} (f : α → List Value) (n : Nat) (hf : ∀ x, (f x).length = n) : ∀ (l : List α) (i : Nat) (x : α) (k : Nat) (v : Value), l[i]? = some x → (f x)[k]? = some v → (l.flatMap f)[i * n + k]? = some v
  | [], i, x, k, v, h, _ => by simp at h
  | y :: l, 0, x, k, v, h, hk => by
    simp only [List.getElem?_cons_zero, Option.some.injEq] at h
    subst h
    rw [List.flatMap_cons, Nat.zero_mul, Nat.zero_add, List.getElem?_append_left (List.getElem?_eq_some_iff.1 hk).1]
    exact hk
  | y :: l, i + 1, x, k, v, h, hk => by
    have e : (i + 1) * n + k = (f y).length + (i * n + k) := by rw [hf, Nat.add_mul, Nat.one_mul]; omega
    rw [List.flatMap_cons, e, List.getElem?_append_right (Nat.le_add_right _ _), Nat.add_sub_cancel_left]
    exact flat_at f n hf l i x k v (by simpa using h) hk
/-- A row of structs, one of them: its cells. -/
theorem Row.nth {α : Type} {f : α → List Value} {n : Nat} (hf : ∀ x, (f x).length = n) (hn : 0 < n) {w : World} {B : Nat} {A : Option Addr} {l : List α} (h : Row w B A (l.flatMap f)) {i : Nat} {x : α} (hi : l[i]? = some x) :
    ∃ b off, A = some ⟨b, off, none⟩ ∧ b < B ∧ (∀ (j : Nat) (y : α) (v : Value), l[j]? = some y → (f y)[0]? = some v → w.cell? ⟨b, off + j * n, none⟩ = some v) ∧
      ∀ (j : Nat) (y : α) (k : Nat) (v : Value), l[j]? = some y → (f y)[k]? = some v → w.cell? ⟨b, off + j * n + k, none⟩ = some v := by
  have h0 : ∃ v, (f x)[0]? = some v := ⟨_, List.getElem?_eq_getElem (by rw [hf]; exact hn)⟩
  obtain ⟨v, hv⟩ := h0
  have hlt := (List.getElem?_eq_some_iff.1 (flat_at f n hf l i x 0 v hi hv)).1
  obtain ⟨b, off, e, hb, hc⟩ := h (by omega)
  have hc' : ∀ (j : Nat) (y : α) (k : Nat) (v : Value), l[j]? = some y → (f y)[k]? = some v → w.cell? ⟨b, off + j * n + k, none⟩ = some v := fun j y k v hj hk => by
    have := hc _ _ (flat_at f n hf l j y k v hj hk)
    rwa [← Nat.add_assoc] at this
  exact ⟨b, off, e, hb, fun j y v hj hk => hc' j y 0 v hj hk, hc'⟩

/-- One block, two blocks, that a call begins with: kept besides. -/
theorem keep_box {P : World → Prop} (hP : Closed P) {w : World} (h : P w) (t : TypeId) (vs : List Value) :
    ∃ Q : World → Prop, Hid (Closed Q) ∧ Hid (∀ W, Q W → P W) ∧ Hid (∀ W, Q W → Whole W w.heap.size t vs) ∧ Q (w.alloc (.cells vs.toArray t)) :=
  ⟨fun W => P W ∧ Whole W w.heap.size t vs, Lib.hid (hP.and (Closed.whole _ t vs)), Lib.hid (fun _ h => h.1), Lib.hid (fun _ h => h.2), hP _ _ h (below1 w _), Whole.new w t vs⟩
theorem keep_box2 {P : World → Prop} (hP : Closed P) {w : World} (h : P w) (t t' : TypeId) (vs us : List Value) :
    ∃ Q : World → Prop, Hid (Closed Q) ∧ Hid (∀ W, Q W → P W) ∧ Hid (∀ W, Q W → Whole W w.heap.size t vs) ∧ Hid (∀ W, Q W → Whole W (w.heap.size + 1) t' us) ∧ Q ((w.alloc (.cells vs.toArray t)).alloc (.cells us.toArray t')) :=
  ⟨fun W => (P W ∧ Whole W w.heap.size t vs) ∧ Whole W (w.heap.size + 1) t' us, Lib.hid ((hP.and (Closed.whole _ t vs)).and (Closed.whole _ t' us)), Lib.hid (fun _ h => h.1.1), Lib.hid (fun _ h => h.1.2), Lib.hid (fun _ h => h.2),
   ⟨hP _ _ h (below2 w _ _), (Whole.new w t vs).alloc _⟩, Whole.new_at _ t' us _ (by simp)⟩
theorem Sec.len (s : Sec) : s.cells.length = 11 := rfl
end Go.Proofs.YtbalcbnlpgekaaaDoor
