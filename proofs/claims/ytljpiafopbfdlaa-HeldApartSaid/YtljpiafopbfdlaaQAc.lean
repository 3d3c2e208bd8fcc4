/- Package layout: some, over an iterator, at ints, ports, steps, flanks. Package layout: the makers of iterators; the ports that are named. Package layout: flankRight. Package layout: Right. Package slices at a layout's rows: Equal; package layout: Same. Package slices at a layout's rows: EqualFunc; package layout: Same. Rows of structs of the call's own; slices.Clone at a layout's rows. Package layout: Own. -/
import Derived.RangeFuncNested
import Derived.RangeFuncBound
import Derived.RangeFuncCalls
import Derived.RangeFuncLeaves
import Derived.RangeFuncBox
import Derived.Shelf.Abstract
import Derived.Shelf.RegionOpen
import Derived.WalkKit
import Derived.OwnWalkIn
import Derived.TacticsInMore
import Derived.LoopNIn
import Derived.LoopIn
import Derived.WalkMore
import Derived.Test.YtljpiafopbfdlaaQAb
import Derived.BigQuiet
import Derived.Test.YtljpiafopbfdlaaGen
import Derived.Deep.CutRange
namespace Go.Proofs.Ytljpiafopbfdlaa
open Go.RowKit Go.Shelf
set_option linter.unusedVariables false
set_option linter.unusedSimpArgs false

attribute [local go_sem] Oper.semAt_some
section
variable {P : World → Prop} {w : World}

end
end Go.Proofs.Ytljpiafopbfdlaa
namespace Go.Proofs.Ytljpiafopbfdlaa
open Go.RowKit Go.Shelf
set_option linter.unusedVariables false
set_option linter.unusedSimpArgs false

attribute [local go_sem] Oper.semAt_some

/-- The ports that are named. -/
def portsL (l : Lay) : List (Int × Int) := joinsL l ++ (l.sigs ++ l.exits.map fun x => (x.s, x.q))
theorem Keeps.lt {R : Nat → Prop} {A B : World} (h : Keeps R A B) {k : Nat} (hk : R k) (hl : k < A.heap.size) : k < B.heap.size :=
  (Array.getElem?_eq_some_iff.1 (h k _ hk (Array.getElem?_eq_getElem hl))).1

end Go.Proofs.Ytljpiafopbfdlaa
namespace Go.Proofs.Ytljpiafopbfdlaa
open Go.RowKit Go.Shelf
set_option linter.unusedVariables false
set_option linter.unusedSimpArgs false

/-- May a flank's numbers be? -/
def flankV (l : Lay) (a b c d : Int) : Bool := withinA b 0 (nK (kindV l a) - 1) && ((kindV l c == 2) && (!(c == a) && withinA d 0 1))

section
variable {P : World → Prop} {w : World}
end
end Go.Proofs.Ytljpiafopbfdlaa
namespace Go.Proofs.Ytljpiafopbfdlaa
open Go.RowKit Go.Shelf
set_option linter.unusedVariables false
set_option linter.unusedSimpArgs false

/-- The times; whose numbers may be. -/
def timesL (l : Lay) : List Int := [l.t0, l.t1, l.t2, l.t3, l.t4, l.t5, l.t6]
def rightL (l : Lay) : Bool :=
  !tooV l && (!((timesL l).any fun n => !withinA n 1 1000) && (!(l.secs.any fun s => !rightK s) && (!((portsL l).any fun p => !thereV l p.1 p.2) && (!((stepsL l).any fun s => !stepV l s.1 s.2.1 s.2.2) && !(l.flanks.any fun f => !flankV l f.1 f.2.1 f.2.2.1 f.2.2.2)))))

theorem Row.cellsOn {A B : World} (h : CellsOn A B) {X : Option Addr} {vs : List Value} (hr : Row A A.heap.size X vs) : Row B B.heap.size X vs := fun hp => by
  obtain ⟨b, off, e, hb, hc⟩ := hr hp
  exact ⟨b, off, e, Nat.lt_of_lt_of_le hb h.size, fun j u hu => h.cell (hc j u hu)⟩
theorem Lies.firm (l : Lay) (n : Nat) : Firm n (Lies l) := Firm.cells (fun W W' h hb => ⟨h.secs.cellsOn hb, h.sigs.cellsOn hb, h.exits.cellsOn hb, h.flanks.cellsOn hb, fun x hx => (h.overs x hx).cellsOn hb, h.kinds, h.nS, h.nG, h.nE, h.nF, h.nO⟩) n
theorem Whole.firm (g : Nat) (t : TypeId) (cs : List Value) (n : Nat) : Firm n fun w => Whole w g t cs := Firm.cells (fun W W' h hb => hb.whole h) n

section
variable {P : World → Prop} {w : World}
end

end Go.Proofs.Ytljpiafopbfdlaa
namespace Go.Proofs.Ytljpiafopbfdlaa
open Go.RowKit Go.Shelf
set_option linter.unusedVariables false
set_option linter.unusedSimpArgs false

theorem take_at {α : Type} {l : List α} {i : Nat} {x : α} (h : l[i]? = some x) : l.take (i + 1) = l.take i ++ [x] := by
  rw [List.take_add_one, h]; rfl
section
variable {P : World → Prop} {w : World}

set_option maxRecDepth 100000 in
set_option maxHeartbeats 4000000 in
theorem equalStep_P (hP : Closed P) {l m : List (Int × Int × Int)} {A B : Option Addr} (ca cb : Nat) (hA : ∀ w, P w → Row w w.heap.size A (l.flatMap stpCells)) (hB : ∀ w, P w → Row w w.heap.size B (m.flatMap stpCells)) (hn : (l.length : Int) ≤ 9223372036854775807) {r : Bool} (hr : decide (l = m) = r) (h : P w) :
    Calls Try.prog 39 #[.slice A l.length ca, .slice B m.length cb] w fun e w' => e = .returned (.bool r) ∧ P w' := by
  have HR := Lib.hid hr
  clear hr
  by_cases hlen : l.length = m.length
  · have HLe := Lib.hid hlen
    rw [← hlen]
    have hm : ∀ j, j < l.length → j < m.length := fun j hj => hlen ▸ hj
    clear hlen
    go_enter Try.func39, Try.ntmps39
    go_wp2_with fail
    go_loopw [13] (fun i wr => ∃ j : Nat, j ≤ l.length ∧ i = .int .i64 j ∧ P wr ∧ Hid (l.take j = m.take j))
      (fun i _ => l.length - (intOf i).toNat)
    case atStart => exact ⟨0, by omega, rfl, h, Lib.hid rfl⟩
    case round =>
      obtain ⟨j, hj, rfl, hp, HNo⟩ := hrel
      by_cases hlt : j < l.length
      · have hlt' : (j : Int) < l.length := by omega
        obtain ⟨x, hx⟩ : ∃ x, l[j]? = some x := ⟨_, List.getElem?_eq_getElem hlt⟩
        obtain ⟨y, hy⟩ : ∃ y, m[j]? = some y := ⟨_, List.getElem?_eq_getElem (hm j hlt)⟩
        have HX := Lib.hid hx
        have HY := Lib.hid hy
        clear hx hy
        obtain ⟨b1, o1, rfl, _, hc0, hc⟩ := (hA _ hp).nth (n := 3) (fun _ => rfl) (by omega) HX.out
        have c0 := hc0 j x _ HX.out rfl
        have c1 := hc j x 1 _ HX.out rfl
        have c2 := hc j x 2 _ HX.out rfl
        clear hc0 hc
        obtain ⟨b2, o2, rfl, _, hc0, hc⟩ := (hB _ hp).nth (n := 3) (fun _ => rfl) (by omega) HY.out
        have d0 := hc0 j y _ HY.out rfl
        have d1 := hc j y 1 _ HY.out rfl
        have d2 := hc j y 2 _ HY.out rfl
        clear hc0 hc
        obtain ⟨b, HB⟩ : ∃ b, Hid ((fun x y : Int × Int × Int => x.1 == y.1 && (x.2.1 == y.2.1 && x.2.2 == y.2.2)) x y = b) := ⟨_, Lib.hid rfl⟩
        have hne : ∀ w : World, (binOp .neq 44 (stpV x.1 x.2.1 x.2.2) (stpV y.1 y.2.1 y.2.2)).run Try.prog w = .ok (.bool (!b)) w := fun w => by rw [run_neq_struct, eq_stp w x.1 x.2.1 x.2.2 y.1 y.2.1 y.2.2, ← HB.out]; rfl
        have HPd := Lib.hid (fun n => hP _ _ hp (below_drawn (Below.refl _ wr) n))
        cases b
        · have HF : Hid (false = r) := Lib.hid (by
            rw [← HR.out, eq_comm, decide_eq_false_iff_not]
            intro e
            subst e
            have := HX.out.symm.trans HY.out
            cases this
            have := HB.out
            simp at this)
          go_wp2_with fail
          go_quiet (fail)
          go_wp2_with fail
          go_ret
          exact ⟨ret_bool HF.out, HPd.out _⟩
        · have HN : Hid (l.take (j + 1) = m.take (j + 1)) := Lib.hid (by
            rw [take_at HX.out, take_at HY.out, HNo.out]
            have hxy : x = y := by
              have := HB.out
              simp only [Bool.and_eq_true, beq_iff_eq] at this
              exact Prod.ext this.1 (Prod.ext this.2.1 this.2.2)
            rw [hxy])
          go_wp2_with fail
          go_quiet (fail)
          go_wp2_with fail
          go_roundw
          case rel => exact ⟨j + 1, hlt, by go_num, HPd.out _, HN⟩
          case measure => simp [intOf]; omega
      · obtain rfl : j = l.length := by omega
        have HF : Hid (true = r) := Lib.hid (by
          rw [← HR.out, eq_comm, decide_eq_true_eq]
          have := HNo.out
          rw [List.take_length, HLe.out, List.take_length] at this
          exact this)
        go_wp2_with fail
        go_ret
        exact ⟨ret_bool HF.out, hp⟩
  · have HF : Hid (false = r) := Lib.hid (by
      rw [← HR.out, eq_comm, decide_eq_false_iff_not]
      exact fun e => hlen (by rw [e]))
    have hlen' : ((l.length : Int) != (m.length : Int)) = true := by rw [bne_iff_ne]; omega
    clear hlen
    go_enter Try.func39, Try.ntmps39
    go_wp2_with fail
    go_ret
    exact ⟨ret_bool HF.out, h⟩
end
end Go.Proofs.Ytljpiafopbfdlaa
namespace Go.Proofs.Ytljpiafopbfdlaa
open Go.RowKit Go.Shelf
set_option linter.unusedVariables false
set_option linter.unusedSimpArgs false

section
variable {P : World → Prop} {w : World}
/-- Are two layouts the same in all? -/
def sameV (l m : Lay) : Bool := sameT l m && (decide (l.secs.map id = m.secs.map id) && (decide (l.sigs = m.sigs) && (decide (l.exits.map Exm.pure = m.exits.map Exm.pure) && decide (l.flanks = m.flanks))))
end
end Go.Proofs.Ytljpiafopbfdlaa
namespace Go.Proofs.Ytljpiafopbfdlaa
open Go.RowKit Go.Shelf
set_option linter.unusedVariables false
set_option linter.unusedSimpArgs false

theorem flat_length {α : Type} {f : α → List Value} {n : Nat} (hf : ∀ x, (f x).length = n) : ∀ l : List α, (l.flatMap f).length = l.length * n
  | [] => by simp
  | x :: l => by rw [List.flatMap_cons, List.length_append, hf, flat_length hf l, List.length_cons, Nat.add_mul]; omega
/-- What is owned is owned in whatever grows out of the world. -/
theorem owns_keep {w w' : World} {base e size n : Nat} {v : Value} {xs : List Value} (h : w.ownsRow base e size v n xs) (hb : Below w.heap.size w w') : w'.ownsRow base e size v n xs := by
  refine ⟨h.1, ?_⟩
  rcases h.2 with h2 | ⟨g', cap', cur, hv, h3, h4, r⟩
  · exact .inl h2
  · exact .inr ⟨g', cap', cur, hv, h3, (hb.block g' (Array.getElem?_eq_some_iff.1 h4).1).trans h4, r⟩
theorem owns_base {w : World} {base base' e size n : Nat} {v : Value} {xs : List Value} (h : w.ownsRow base e size v n xs) (hb : base' ≤ base) : w.ownsRow base' e size v n xs := by
  refine ⟨h.1, ?_⟩
  rcases h.2 with h2 | ⟨g', cap', cur, hv, h3, r⟩
  · exact .inl h2
  · exact .inr ⟨g', cap', cur, hv, by omega, r⟩
/-- What is owned, read as a slice. -/
theorem owns_read {w : World} {base e size n : Nat} {v : Value} {xs : List Value} (h : w.ownsRow base e size v n xs) : ∃ A c, v = .slice A n c ∧ Row w w.heap.size A xs := by
  rcases h.2 with ⟨rfl, rfl⟩ | ⟨g, cap, cur, rfl, h3, h4, h5, h6, h7, h8⟩
  · have : xs = [] := List.eq_nil_of_length_eq_zero (by simpa using h.1)
    subst this
    exact ⟨none, 0, rfl, Row.nil _ _ _⟩
  · refine ⟨_, _, rfl, fun hp => ⟨g, 0, rfl, (Array.getElem?_eq_some_iff.1 h4).1, fun j u hu => ?_⟩⟩
    rw [← h8, List.getElem?_take] at hu
    split at hu
    · simpa [World.cell?, h4] using hu
    · cases hu

theorem oneSection (x : Sec) : ∀ u ∈ Sec.cells x, u.oneCell' = true := by intro u hu; simp at hu; rcases hu with rfl | rfl | rfl | rfl | rfl | rfl | rfl | rfl | rfl | rfl | rfl <;> rfl
theorem oneSignal (x : Int × Int) : ∀ u ∈ prtCells x, u.oneCell' = true := by intro u hu; simp at hu; rcases hu with rfl | rfl <;> rfl
theorem oneExit (x : Exm) : ∀ u ∈ Exm.cells x, u.oneCell' = true := by intro u hu; simp at hu; rcases hu with rfl | rfl | rfl <;> rfl
theorem oneFlank (x : Int × Int × Int × Int) : ∀ u ∈ flkCells x, u.oneCell' = true := by intro u hu; simp at hu; rcases hu with rfl | rfl | rfl | rfl <;> rfl
theorem infoStep : (Try.prog.info? 44).map (fun i => (i.zero, i.size, i.bytes)) = some (some (.agg #[.int .i64 0, .int .i64 0, .int .i64 0]), 3, 24) := by kernel_rfl
theorem oneStep (x : Int × Int × Int) : ∀ u ∈ stpCells x, u.oneCell' = true := by intro u hu; simp at hu; rcases hu with rfl | rfl | rfl <;> rfl
/-- append(v, src..), v a row of the call's own, whatever is appended. -/
theorem appendStep (base n m : Nat) (v : Value) (xs : List Value) (l : List (Int × Int × Int)) (A : Option Addr) (c B : Nat) (w : World) (hown : w.ownsRow base 44 3 v n xs) (hA : A ≠ none) (hr : Row w B A (l.flatMap stpCells)) (hm : m = l.length) (hn : n ≤ 1000) (hl : l.length ≤ 1000) (hbase : base ≤ w.heap.size) :
    ∃ v' w', (Builtin.append_ #[22, 22] 22 #[v, .slice A m c]).run Try.prog w = .ok v' w' ∧ w'.ownsRow base 44 3 v' (n + m) (xs ++ l.flatMap stpCells) ∧ Below base w w' ∧ v' ≠ .slice none 0 0 ∨ v = .slice none 0 0 := by
  subst hm
  obtain ⟨i, i1, i2, i3, i4⟩ := info_parts infoStep
  obtain ⟨a, rfl⟩ : ∃ a, A = some a := Option.ne_none_iff_exists'.1 hA
  obtain ⟨v', w', r1, r2, r3, r4, r5⟩ := run_append_own_at (P := Try.prog) w base 22 22 44 i (.agg #[.int .i64 0, .int .i64 0, .int .i64 0]) 3 24 Try.underlying22 i1 i2 i3 i4 rfl (by omega) v n xs hown a l.length c (l.flatMap stpCells) (flat_length (n := 3) (fun _ => rfl) l) (row_add hr) (fun u hu => by
    obtain ⟨x, _, hx⟩ := List.mem_flatMap.1 hu
    exact oneStep x u hx) (by unfold maxLen; omega) (by omega) hbase
  by_cases h0 : v = .slice none 0 0
  · exact ⟨v, w, .inr h0⟩
  · exact ⟨v', w', .inl ⟨r1, r2, (Below.refl base w).grown r3 hbase (fun k e => (hown.lt k e).1), fun e => h0 (r4.1 e).1⟩⟩

set_option maxRecDepth 100000 in
set_option maxHeartbeats 4000000 in
theorem cloneStep_any {l : List (Int × Int × Int)} (A : Option Addr) (c : Nat) (w : World) (hr : Row w w.heap.size A (l.flatMap stpCells)) (hl : l.length ≤ 1000) :
    Calls Try.prog 36 #[.slice A l.length c] w fun e w' => ∃ v, e = .returned v ∧ w'.ownsRow w.heap.size 44 3 v l.length (l.flatMap stpCells) ∧ Below w.heap.size w w' := by
  cases A with
  | none =>
    have h0 : l = [] := by
      cases l with
      | nil => rfl
      | cons x l =>
        obtain ⟨b, off, e, _⟩ := hr (by rw [List.flatMap_cons, List.length_append]; have : (stpCells x).length = 3 := rfl; omega)
        cases e
    subst h0
    have hnil : ∀ w : World, (binOp .eql 22 (.slice none 0 c) (.slice none 0 0)).run Try.prog w = .ok (.bool true) w := fun _ => rfl
    go_enter Try.func36, Try.ntmps36
    go_wp2_with fail
    go_ret
    exact ⟨_, rfl, World.ownsRow_nil _ _ _ _, Below.refl _ _⟩
  | some a =>
    have hown : (w.alloc (.cells #[] 44)).ownsRow w.heap.size 44 3 (.slice (some ⟨w.heap.size, 0, none⟩) 0 0) 0 [] := ⟨by simp, .inr ⟨w.heap.size, 0, #[], rfl, Nat.le_refl _, World.alloc_heap_new w _, Nat.le_refl _, by simp, by simp, by simp⟩⟩
    obtain ⟨v', w1, hap⟩ := appendStep w.heap.size 0 l.length _ [] l (some a) c w.heap.size _ hown (by simp) (hr.below (below1 w _)) rfl (by omega) hl (by simp)
    rcases hap with ⟨hrun, hown1, hB, _⟩ | h
    · have HO := Lib.hid hown1
      have HB := Lib.hid ((below1 w (.cells #[] 44)).trans hB)
      clear hown hown1 hB hr
      have hnil : ∀ w : World, (binOp .eql 22 (.slice (some a) l.length c) (.slice none 0 0)).run Try.prog w = .ok (.bool false) w := fun _ => rfl
      go_enter Try.func36, Try.ntmps36
      go_wp2_with (at_builtin; refine list_append rfl (.tmp 5) (.tmp 6) 22 rfl hrun ?_)
      go_ret
      exact ⟨_, rfl, by simpa using HO.out, HB.out⟩
    · cases h
end Go.Proofs.Ytljpiafopbfdlaa
namespace Go.Proofs.Ytljpiafopbfdlaa
open Go.RowKit Go.Shelf
set_option linter.unusedVariables false
set_option linter.unusedSimpArgs false

/-- Two layouts that tell the same. -/
structure Alike (m l : Lay) : Prop where
  secs : m.secs = l.secs
  sigs : m.sigs = l.sigs
  exits : m.exits.map Exm.pure = l.exits.map Exm.pure
  flanks : m.flanks = l.flanks
  t0 : m.t0 = l.t0
  t1 : m.t1 = l.t1
  t2 : m.t2 = l.t2
  t3 : m.t3 = l.t3
  t4 : m.t4 = l.t4
  t5 : m.t5 = l.t5
  t6 : m.t6 = l.t6
theorem owns_block {w : World} {base e size n c : Nat} {A : Option Addr} {xs : List Value} (h : w.ownsRow base e size (.slice A n c) n xs) : ∀ a, A = some a → base ≤ a.block ∧ a.block < w.heap.size := by
  intro a ha
  subst ha
  exact h.lt a.block rfl
/-- Eleven cells are laid over eleven. -/
abbrev over11 (W : World) (g : Nat) (v0 v1 v2 v3 v4 v5 v6 v7 v8 v9 v10 : Value) : World := (((((((((((W.setCell ⟨g, 0, none⟩ v0).setCell ⟨g, 1, none⟩ v1).setCell ⟨g, 2, none⟩ v2).setCell ⟨g, 3, none⟩ v3).setCell ⟨g, 4, none⟩ v4).setCell ⟨g, 5, none⟩ v5).setCell ⟨g, 6, none⟩ v6).setCell ⟨g, 7, none⟩ v7).setCell ⟨g, 8, none⟩ v8).setCell ⟨g, 9, none⟩ v9).setCell ⟨g, 10, none⟩ v10)
theorem over11_whole {W : World} {g : Nat} {t : TypeId} {c0 c1 c2 c3 c4 c5 c6 c7 c8 c9 c10 : Value} (v0 v1 v2 v3 v4 v5 v6 v7 v8 v9 v10 : Value) (h : Whole W g t [c0, c1, c2, c3, c4, c5, c6, c7, c8, c9, c10]) : Whole (over11 W g v0 v1 v2 v3 v4 v5 v6 v7 v8 v9 v10) g t [v0, v1, v2, v3, v4, v5, v6, v7, v8, v9, v10] :=
  ((((((((((h.set 0 v0).set 1 v1).set 2 v2).set 3 v3).set 4 v4).set 5 v5).set 6 v6).set 7 v7).set 8 v8).set 9 v9).set 10 v10
theorem over11_heap (W : World) (g : Nat) (v0 v1 v2 v3 v4 v5 v6 v7 v8 v9 v10 : Value) (k : Nat) (hk : k ≠ g) : (over11 W g v0 v1 v2 v3 v4 v5 v6 v7 v8 v9 v10).heap[k]? = W.heap[k]? := by
  exact (Below.heap_setCell _ ⟨g, 10, none⟩ v10 k hk).trans ((Below.heap_setCell _ ⟨g, 9, none⟩ v9 k hk).trans ((Below.heap_setCell _ ⟨g, 8, none⟩ v8 k hk).trans ((Below.heap_setCell _ ⟨g, 7, none⟩ v7 k hk).trans ((Below.heap_setCell _ ⟨g, 6, none⟩ v6 k hk).trans ((Below.heap_setCell _ ⟨g, 5, none⟩ v5 k hk).trans ((Below.heap_setCell _ ⟨g, 4, none⟩ v4 k hk).trans ((Below.heap_setCell _ ⟨g, 3, none⟩ v3 k hk).trans ((Below.heap_setCell _ ⟨g, 2, none⟩ v2 k hk).trans ((Below.heap_setCell _ ⟨g, 1, none⟩ v1 k hk).trans ((Below.heap_setCell _ ⟨g, 0, none⟩ v0 k hk).trans rfl))))))))))
theorem over11_size (W : World) (g : Nat) (v0 v1 v2 v3 v4 v5 v6 v7 v8 v9 v10 : Value) : (over11 W g v0 v1 v2 v3 v4 v5 v6 v7 v8 v9 v10).heap.size = W.heap.size := by simp [over11, World.setCell]
theorem over11_below {w W : World} {n : Nat} (h : Below n w W) {g : Nat} (hg : n ≤ g) (v0 v1 v2 v3 v4 v5 v6 v7 v8 v9 v10 : Value) : Below n w (over11 W g v0 v1 v2 v3 v4 v5 v6 v7 v8 v9 v10) :=
  (((((((((((h.setCell (p := ⟨g, 0, none⟩) hg v0).setCell (p := ⟨g, 1, none⟩) hg v1).setCell (p := ⟨g, 2, none⟩) hg v2).setCell (p := ⟨g, 3, none⟩) hg v3).setCell (p := ⟨g, 4, none⟩) hg v4).setCell (p := ⟨g, 5, none⟩) hg v5).setCell (p := ⟨g, 6, none⟩) hg v6).setCell (p := ⟨g, 7, none⟩) hg v7).setCell (p := ⟨g, 8, none⟩) hg v8).setCell (p := ⟨g, 9, none⟩) hg v9).setCell (p := ⟨g, 10, none⟩) hg v10)
/-- A row that lies elsewhere lies on. -/
theorem Row.elsewhere {W W' : World} {B : Nat} {A : Option Addr} {vs : List Value} (h : Row W B A vs) {g : Nat} (hA : ∀ a, A = some a → a.block ≠ g) (hk : ∀ k, k ≠ g → W'.heap[k]? = W.heap[k]?) : Row W' B A vs := fun hp => by
  obtain ⟨b, off, e, hb, hc⟩ := h hp
  exact ⟨b, off, e, hb, fun j u hu => (World.cell?_of_block (hk b (hA _ e))).trans (hc j u hu)⟩
theorem owns_elsewhere {W W' : World} {base e size n c : Nat} {A : Option Addr} {xs : List Value} (h : W.ownsRow base e size (.slice A n c) n xs) {g : Nat} (hA : ∀ a, A = some a → a.block ≠ g) (hk : ∀ k, k ≠ g → W'.heap[k]? = W.heap[k]?) : W'.ownsRow base e size (.slice A n c) n xs := by
  refine ⟨h.1, ?_⟩
  rcases h.2 with h2 | ⟨g', cap', cur, hv, h3, h4, r⟩
  · exact .inl h2
  · cases hv
    exact .inr ⟨g', _, cur, rfl, h3, (hk g' (hA _ rfl)).trans h4, r⟩
theorem owns_row2 {w : World} {base e size n c : Nat} {A : Option Addr} {xs : List Value} (h : w.ownsRow base e size (.slice A n c) n xs) : Row w w.heap.size A xs := by
  obtain ⟨A', c', e, hr⟩ := owns_read h
  cases e
  exact hr
theorem Row.elsewhere2 {W W' : World} {B : Nat} {A : Option Addr} {vs : List Value} (h : Row W B A vs) {g : Nat} (hA : 0 < vs.length → ∀ a, A = some a → a.block ≠ g) (hk : ∀ k, k ≠ g → W'.heap[k]? = W.heap[k]?) : Row W' B A vs := fun hp => by
  obtain ⟨b, off, e, hb, hc⟩ := h hp
  exact ⟨b, off, e, hb, fun j u hu => (World.cell?_of_block (hk b (hA hp _ e))).trans (hc j u hu)⟩
theorem flat_set {v : Value} {y : Exm} {tail : List Value} : ∀ (ex : List Exm) (j : Nat) (x : Exm), ex[j]? = some x → y.cells = x.cells.set 2 v → (ex.flatMap Exm.cells ++ tail).set (j * 3 + 2) v = (ex.set j y).flatMap Exm.cells ++ tail
  | [], j, x, h, _ => by simp at h
  | z :: ex, 0, x, h, hy => by
    simp only [List.getElem?_cons_zero, Option.some.injEq] at h
    subst h
    rw [List.set_cons_zero, List.flatMap_cons, List.flatMap_cons, hy]
    rfl
  | z :: ex, j + 1, x, h, hy => by
    rw [List.set_cons_succ, List.flatMap_cons, List.flatMap_cons, List.append_assoc, List.append_assoc, ← flat_set ex j x (by simpa using h) hy]
    have e : (j + 1) * 3 + 2 = z.cells.length + (j * 3 + 2) := by show _ = 3 + _; omega
    rw [e, List.set_append_right _ _ (Nat.le_add_right _ _), Nat.add_sub_cancel_left]
theorem map_set_same {α β : Type} (f : α → β) : ∀ (ex : List α) (j : Nat) (x y : α), ex[j]? = some x → f y = f x → (ex.set j y).map f = ex.map f
  | [], j, x, y, h, _ => rfl
  | z :: ex, 0, x, y, h, hy => by
    simp only [List.getElem?_cons_zero, Option.some.injEq] at h
    subst h
    rw [List.set_cons_zero, List.map_cons, List.map_cons, hy]
  | z :: ex, j + 1, x, y, h, hy => by rw [List.set_cons_succ, List.map_cons, List.map_cons, map_set_same f ex j x y (by simpa using h) hy]
end Go.Proofs.Ytljpiafopbfdlaa
