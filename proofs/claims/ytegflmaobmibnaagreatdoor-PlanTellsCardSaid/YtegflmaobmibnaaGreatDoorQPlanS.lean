/- What a closure takes, number by number: where its place lies, and what it leaves as it was. -/
import Derived.Test.YtegflmaobmibnaaGreatDoorQPlanQ
import Derived.Test.YtegflmaobmibnaaGreatDoorQMixP
import Derived.Deep.CutRange
namespace Go.Proofs.YtegflmaobmibnaaGreatDoor
set_option maxRecDepth 100000
open Go.RowKit Go.Shelf
set_option linter.unusedVariables false
set_option linter.unusedSimpArgs false

/-- All that lay below n lies as it lay, but block q. -/
structure Bq (n q : Nat) (W W' : World) : Prop where
  os : W'.os = W.os
  tape : W'.tape = W.tape
  output : W'.output = W.output
  size : W.heap.size ≤ W'.heap.size
  block : ∀ k, k < n → k ≠ q → W'.heap[k]? = W.heap[k]?
theorem Bq.refl (n q : Nat) (W : World) : Bq n q W W := ⟨rfl, rfl, rfl, Nat.le_refl _, fun _ _ _ => rfl⟩
theorem Bq.trans {n q : Nat} {A B C : World} (h : Bq n q A B) (k : Bq n q B C) : Bq n q A C :=
  ⟨k.os.trans h.os, k.tape.trans h.tape, k.output.trans h.output, Nat.le_trans h.size k.size, fun i hi hq => (k.block i hi hq).trans (h.block i hi hq)⟩
theorem Bq.less {n m q : Nat} {A B : World} (h : Bq n q A B) (hm : m ≤ n) : Bq m q A B := ⟨h.os, h.tape, h.output, h.size, fun i hi hq => h.block i (by omega) hq⟩
theorem Bq.of {n q : Nat} {A B : World} (h : Below n A B) : Bq n q A B := ⟨h.os, h.tape, h.output, h.size, fun i hi _ => h.block i hi⟩
theorem Bq.below {n m q : Nat} {A B : World} (h : Bq n q A B) (hm : m ≤ n) (hq : m ≤ q) : Below m A B := ⟨h.os, h.tape, h.output, h.size, fun i hi => h.block i (by omega) (by omega)⟩
theorem Bq.alloc {n q : Nat} {A B : World} (h : Bq n q A B) (hn : n ≤ B.heap.size) (o : Obj) : Bq n q A (B.alloc o) := h.trans (.of ((Below.refl n B).alloc hn o))
theorem Bq.drew {n q : Nat} {A B : World} (h : Bq n q A B) : Bq n q A B.drew := ⟨h.os, h.tape, h.output, h.size, h.block⟩
theorem Bq.set {n q : Nat} {A B : World} (h : Bq n q A B) {p : Addr} (hp : n ≤ p.block ∨ p.block = q) (u : Value) : Bq n q A (B.setCell p u) :=
  ⟨h.os, h.tape, h.output, by simpa [World.setCell] using h.size, fun i hi hq => (Below.heap_setCell B p u i (by omega)).trans (h.block i hi hq)⟩
theorem Bq.on {n q : Nat} {A B C : World} (h : Bq n q A B) (hb : Below B.heap.size B C) (hn : n ≤ B.heap.size) : Bq n q A C := h.trans (.of (hb.mono hn))
theorem Bq.grown {n q : Nat} {A B C : World} (h : Bq n q A B) {r : Option Nat} (hg : B.grownBy C r) (hn : n ≤ B.heap.size) (hr : ∀ k, r = some k → n ≤ k ∨ k = q) : Bq n q A C :=
  ⟨hg.os.trans h.os, hg.tape.trans h.tape, hg.output.trans h.output, Nat.le_trans h.size hg.size, fun i hi hq => by
    by_cases hlt : i < B.heap.size
    · exact (hg.block i hlt (fun e => by have := hr i e.symm; omega)).trans (h.block i hi hq)
    · omega⟩
theorem Whole.bq {n q g : Nat} {t : TypeId} {cs : List Value} {A B : World} (h : Whole A g t cs) (hb : Bq n q A B) (hg : g < n) (hq : g ≠ q) : Whole B g t cs := (hb.block g hg hq).trans h
theorem Row.bq {n q g : Nat} {vs : List Value} {A B : World} (h : Row A A.heap.size (some ⟨g, 0, none⟩) vs) (hb : Bq n q A B) (hg : g < n) (hq : g ≠ q) : Row B B.heap.size (some ⟨g, 0, none⟩) vs := fun hp => by
  obtain ⟨b, off, e, hlt, hc⟩ := h hp
  cases e
  exact ⟨g, 0, rfl, Nat.lt_of_lt_of_le hlt hb.size, fun j u hu => (World.cell?_of_block (hb.block g hg hq)).trans (hc j u hu)⟩

/-- Where a closure's bits and its place lie. -/
structure Taker (bx ba g : Nat) (zs : List Int) (s : Nat) (w : World) : Prop where
  x : Whole w bx 54 [.slice (some ⟨g, 0, none⟩) zs.length zs.length, .int .i64 (8 * (zs.length : Int))]
  a : Whole w ba 3 [.int .i64 s]
  h : Hands w (some ⟨g, 0, none⟩) zs
  lg : g < w.heap.size
  d1 : bx ≠ ba
  d2 : g ≠ ba
theorem Taker.keep {bx ba g : Nat} {zs : List Int} {s : Nat} {w w' : World} (h : Taker bx ba g zs s w) (hb : Below w.heap.size w w') : Taker bx ba g zs s w' :=
  ⟨h.x.below hb h.x.lt, h.a.below hb h.a.lt, h.h.on hb, Nat.lt_of_lt_of_le h.lg hb.size, h.d1, h.d2⟩
theorem Taker.closed (bx ba g : Nat) (zs : List Int) (s : Nat) : Closed (Taker bx ba g zs s) := fun w w' h hb => h.keep hb
theorem Taker.alloc {bx ba g : Nat} {zs : List Int} {s : Nat} {w : World} (h : Taker bx ba g zs s w) (o : Obj) : Taker bx ba g zs s (w.alloc o) := h.keep (below1 w o)
/-- A store elsewhere. -/
theorem Taker.far {bx ba g : Nat} {zs : List Int} {s : Nat} {w : World} (h : Taker bx ba g zs s w) {p : Addr} (h1 : bx ≠ p.block) (h2 : ba ≠ p.block) (h3 : g ≠ p.block) (u : Value) : Taker bx ba g zs s (w.setCell p u) :=
  ⟨h.x.far h1 u, h.a.far h2 u, h.h.far (fun q hq => by cases hq; exact h3) u, by simpa [World.setCell] using h.lg, h.d1, h.d2⟩
abbrev tkV (bx ba : Nat) : Value := .func (.func 110) #[] #[.pointer (some ⟨bx, 0, none⟩), .pointer (some ⟨ba, 0, none⟩)]

/-- With what it panics. -/
abbrev ShortV := { v : Value // v = .iface 33 (.int .i64 40) }
/-- What comes of a reader's call: what is read, and the place behind; or a panic, where the bits end. -/
def Out {α : Type} (bx ba g : Nat) (zs : List Int) (w : World) (val : α → Value) (r : Option (α × Nat)) (e : Ending) (w' : World) : Prop :=
  (∃ x s', r = some (x, s') ∧ e = .returned (val x) ∧ Taker bx ba g zs s' w' ∧ Bq w.heap.size ba w w') ∨ (r = none ∧ ∃ v : ShortV, e = .panicked [{ v := v.1, recovered := false }] ∧ Bq w.heap.size ba w w')

theorem are_given {w : World} {A : Option Addr} {zs : List Int} (h : Hands w A zs) (hz : zs.length ≤ 2000) : Given w A zs (8 * (zs.length : Int)) := ⟨h.1, h.2, by omega, by omega, by omega⟩

section
variable {bx ba g : Nat} {zs : List Int} {l : List Bool} (hA : Are zs (8 * (zs.length : Int)) l) (hz : zs.length ≤ 2000)
include hA hz
set_option maxHeartbeats 4000000 in
theorem take1_any {K : Int} (k s : Nat) (w : World) (hK : K = (k : Int)) (hk : k ≤ 32) (hT : Taker bx ba g zs s w) (hs : s ≤ l.length) :
    Calls Tryz.prog 110 #[.int .i64 K, .pointer (some ⟨bx, 0, none⟩), .pointer (some ⟨ba, 0, none⟩)] w (Out bx ba g zs w (fun n => .int .i64 n) (numP k l s)) := by
  subst hK
  have hl : l.length = 8 * zs.length := by have := hA.1; omega
  have x0 := hT.x.cell_at 0 rfl
  have x1 := hT.x.cell_at 1 rfl
  have a0 := hT.a.cell_at 0 rfl
  have f0 := hT.a.frozen 0
  have hw : IntKind.i64.wrap ((s : Int) + (k : Int)) = ((s + k : Nat) : Int) := by rw [wrap_id _ (by omega) (by omega)]; omega
  go_enter Tryz.func110, Tryz.ntmps110
  go_wp2_with (go_at_call 111; refine (take_all _ _ zs _ s k w (are_given hT.h hz)).mono ?_)
  rintro e w1 ⟨m, er, rfl, ht, hB⟩
  have hT1 := hT.keep hB
  have a1 := hT1.a.cell_at 0 rfl
  have f1 := hT1.a.frozen 0
  rcases ht with ⟨hbad, rfl, rfl⟩ | ⟨hw2, ha, l', hl', ⟨hs2, rfl, rfl⟩ | ⟨hs2, rfl, rfl⟩⟩
  · exfalso
    have h1 : wideB k = true := by unfold wideB; simp; omega
    simp [hA.right, h1] at hbad
  · have hno : numP k l s = none := by unfold numP; rw [if_neg (by omega)]
    have hp : ∀ (W : World), (Instr.panic (.iface 33 (.int .i64 40))).run Tryz.prog W = .halt (.panic (.iface 33 (.int .i64 40))) W := fun _ => rfl
    go_wp2_with fail
    exact ⟨rfl, .inr ⟨hno, ⟨_, rfl⟩, rfl, .of hB⟩⟩
  · obtain rfl := hl'.inj hA
    have hyes : numP k l' s = some (numOf (bitsAt l' s k), s + k) := by unfold numP; rw [if_pos (by omega)]
    go_wp2_with fail
    go_ret
    have h2 : Taker bx ba g zs (s + k) (w1.setCell ⟨ba, 0, none⟩ (.int .i64 ((s : Int) + (k : Int)))) := ⟨hT1.x.far (p := ⟨ba, 0, none⟩) hT1.d1 _, (by have := hT1.a.set 0 (.int .i64 ((s : Int) + (k : Int))); rw [show ((s + k : Nat) : Int) = (s : Int) + (k : Int) by omega]; exact this), hT1.h.far (fun q hq => by cases hq; exact hT1.d2) _, by simpa [World.setCell] using hT1.lg, hT1.d1, hT1.d2⟩
    exact .inl ⟨_, _, hyes, rfl, h2, (Bq.of hB).set (p := ⟨ba, 0, none⟩) (.inr rfl) _⟩
end
end Go.Proofs.YtegflmaobmibnaaGreatDoor
