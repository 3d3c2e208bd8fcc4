/- The document's own layer 6: Steps, Same. The walk of LayoutTells: package layout says what the document says. -/
import Derived.Test.YtbdbgoploednbaaDoorQC
import Derived.Test.YtbdbgoploednbaaDoorQB
namespace Go.Proofs.YtbdbgoploednbaaDoor
open Go.RowKit Go.Shelf
set_option linter.unusedVariables false
set_option linter.unusedSimpArgs false

theorem ne_of_at {α : Type} {l m : List α} {j : Nat} {x y : α} (hx : l[j]? = some x) (hy : m[j]? = some y) (hne : x ≠ y) : l ≠ m := fun e => by
  subst e
  rw [hx] at hy
  exact hne (Option.some.inj hy)
theorem take_next {α : Type} {l m : List α} {j : Nat} {x : α} (h : l.take j = m.take j) (hx : l[j]? = some x) (hy : m[j]? = some x) : l.take (j + 1) = m.take (j + 1) := by
  rw [List.take_add_one, List.take_add_one, h, hx, hy]
theorem take_done {α : Type} {l m : List α} (hl : l.length = m.length) (h : l.take l.length = m.take l.length) : l = m := by
  rw [List.take_length, hl, List.take_length] at h
  exact h
theorem neq_stpD (w : World) (a b c a' b' c' : Int) : (binOp .neq 56 (stpV a b c) (stpV a' b' c')).run Tryd.prog w = .ok (.bool (!decide ((a, b, c) = (a', b', c')))) w := by
  rw [run_neq_struct, eq_stp]
  have : (a == a' && (b == b' && c == c')) = decide ((a, b, c) = (a', b', c')) := by rw [Bool.eq_iff_iff]; simp
  rw [this]
  rfl
theorem neq_sigD (w : World) (a b a' b' : Int) : (binOp .neq 76 (prtV a b) (prtV a' b')).run Tryd.prog w = .ok (.bool (!decide ((a, b) = (a', b')))) w := by
  rw [run_neq_struct, eq_sig]
  have : (a == a' && b == b') = decide ((a, b) = (a', b')) := by rw [Bool.eq_iff_iff]; simp
  rw [this]
  rfl
theorem neq_flkD (w : World) (a b c d a' b' c' d' : Int) : (binOp .neq 59 (flkV a b c d) (flkV a' b' c' d')).run Tryd.prog w = .ok (.bool (!decide ((a, b, c, d) = (a', b', c', d')))) w := by
  rw [run_neq_struct, eq_flk]
  have : (a == a' && (b == b' && (c == c' && d == d'))) = decide ((a, b, c, d) = (a', b', c', d')) := by rw [Bool.eq_iff_iff]; simp
  rw [this]
  rfl
theorem neq_secD (w : World) (x y : Sec) : (binOp .neq 52 x.val y.val).run Tryd.prog w = .ok (.bool (!decide (x = y))) w := by rw [neq_sec, Sec.same_eq]
theorem neq_prtD (w : World) (a b a' b' : Int) : (binOp .neq 48 (prtV a b) (prtV a' b')).run Tryd.prog w = .ok (.bool (!decide ((a, b) = (a', b')))) w := by
  rw [run_neq_struct, eq_prt w 9998]
  have : (a == a' && b == b') = decide ((a, b) = (a', b')) := by rw [Bool.eq_iff_iff]; simp
  rw [this]
  rfl
theorem neq_timesD (w : World) (l m : Lay) : (binOp .neq 27 l.tval m.tval).run Tryd.prog w = .ok (.bool (!sameT l m)) w := by rw [run_neq_struct, eq_times]; rfl
theorem same_no1 {l m : Lay} (h : l.secs ≠ m.secs) : sameV l m = false := by unfold sameV; rw [decide_eq_false (by simpa using h)]; simp
theorem same_no2 {l m : Lay} (h : l.sigs ≠ m.sigs) : sameV l m = false := by unfold sameV; rw [decide_eq_false h]; simp
theorem same_no3 {l m : Lay} (h : l.exits.map Exm.pure ≠ m.exits.map Exm.pure) : sameV l m = false := by unfold sameV; rw [decide_eq_false h]; simp
theorem same_no4 {l m : Lay} (h : l.flanks ≠ m.flanks) : sameV l m = false := by unfold sameV; rw [decide_eq_false h]; simp
theorem same_no5 {l m : Lay} (h : sameT l m = false) : sameV l m = false := by unfold sameV; rw [h]; rfl
theorem same_yes {l m : Lay} (h0 : sameT l m = true) (h1 : l.secs = m.secs) (h2 : l.sigs = m.sigs) (h3 : l.exits.map Exm.pure = m.exits.map Exm.pure) (h4 : l.flanks = m.flanks) : sameV l m = true := by
  unfold sameV; rw [h0, h1, h2, h3, h4]; simp

section
variable {P : World → Prop} {w : World}
end
section
variable {P : World → Prop} {w : World}
end
end Go.Proofs.YtbdbgoploednbaaDoor
namespace Go.Proofs.YtbdbgoploednbaaDoor
open Go.RowKit Go.Shelf
set_option linter.unusedVariables false
set_option linter.unusedSimpArgs false

theorem keep_box4 {P : World → Prop} (hP : Closed P) {w : World} (h : P w) (t0 t1 t2 t3 : TypeId) (v0 v1 v2 v3 : List Value) :
    ∃ Q : World → Prop, Hid (Closed Q) ∧ Hid (∀ W, Q W → P W) ∧ Hid (∀ W, Q W → Whole W w.heap.size t0 v0) ∧ Hid (∀ W, Q W → Whole W (w.heap.size + 1) t1 v1) ∧ Hid (∀ W, Q W → Whole W (w.heap.size + 1 + 1) t2 v2) ∧ Hid (∀ W, Q W → Whole W (w.heap.size + 1 + 1 + 1) t3 v3) ∧
      Q ((((w.alloc (.cells v0.toArray t0)).alloc (.cells v1.toArray t1)).alloc (.cells v2.toArray t2)).alloc (.cells v3.toArray t3)) :=
  ⟨fun W => (((P W ∧ Whole W w.heap.size t0 v0) ∧ Whole W (w.heap.size + 1) t1 v1) ∧ Whole W (w.heap.size + 1 + 1) t2 v2) ∧ Whole W (w.heap.size + 1 + 1 + 1) t3 v3,
   Lib.hid ((((hP.and (Closed.whole _ t0 v0)).and (Closed.whole _ t1 v1)).and (Closed.whole _ t2 v2)).and (Closed.whole _ t3 v3)), Lib.hid (fun _ h => h.1.1.1.1), Lib.hid (fun _ h => h.1.1.1.2), Lib.hid (fun _ h => h.1.1.2), Lib.hid (fun _ h => h.1.2), Lib.hid (fun _ h => h.2),
   ⟨⟨⟨hP _ _ h ((below3 w _ _ _).alloc (by simp; omega) _), (((Whole.new w t0 v0).alloc _).alloc _).alloc _⟩, ((Whole.new_at _ t1 v1 _ (by simp)).alloc _).alloc _⟩, (Whole.new_at _ t2 v2 _ (by simp)).alloc _⟩, Whole.new_at _ t3 v3 _ (by simp)⟩
section
variable {l : Lay} {w : World}
theorem rightR_B (hL : Lies l w) {r : Bool} (hr : rightL l = r) : Calls Tryd.prog 22 #[l.val] w fun e w' => e = .returned (.bool r) ∧ Below w.heap.size w w' :=
  rightR1_P (P := fun W => Below w.heap.size w W) (Closed.below w) (fun W h => Lies.closed l _ _ hL h) ((rightR_eq l).trans hr) (Below.refl _ _)
end
section
variable {P : Program} {ops : Array Oper} {B S : World → Prop} {L : (World → Prop) → Act → Prop} {o : Oper} {l : List (Oper × Bool)} {a : Act}
/-- A call of what only this kind of world tells: it comes alone. -/
theorem mix_ask (f : FuncId) (args : Array Value) (v : Value) (hF : Fam B S) (hw : Region.wanted o (yielded ops a.tmps) = true) (hv : ∀ w, S w → (execOp a.eval o).run P w = .ok (.enter f args) w)
    (hc : ∀ w, S w → Calls P f args w fun e w' => e = .returned v ∧ Below w.heap.size w w') (h : wpMix P ops (Fam B) L l S (a.put o.dst v)) : wpMix P ops (Fam B) L ((o, true) :: l) S a :=
  ⟨hw, fun w hS => by
    unfold Oper.wp
    rw [hv w hS]
    refine (hc w hS).mono ?_
    rintro e w' ⟨rfl, hb⟩
    exact ⟨v, S, rfl, hF, hF.1 _ _ hS hb, h⟩⟩
end
end Go.Proofs.YtbdbgoploednbaaDoor
