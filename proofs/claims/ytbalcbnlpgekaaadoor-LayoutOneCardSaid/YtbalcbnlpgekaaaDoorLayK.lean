/- Package layout: Right. -/
import Derived.RangeFuncNested
import Derived.RangeFuncBound
import Derived.RangeFuncCalls
import Derived.RangeFuncLeaves
import Derived.RangeFuncBox
import Derived.Shelf.Abstract
import Derived.Shelf.RegionOpen
import Derived.WalkKit
import Derived.OwnWalkIn
import Derived.TacticsInMore
import Derived.LoopNIn
import Derived.LoopIn
import Derived.WalkMore
import Derived.Test.YtbalcbnlpgekaaaDoorLayJ
import Derived.Test.YtbalcbnlpgekaaaDoorLayD
namespace Go.Proofs.YtbalcbnlpgekaaaDoor
open Go.RowKit Go.Shelf
set_option linter.unusedVariables false
set_option linter.unusedSimpArgs false

/-- The times; whose numbers may be. -/
def timesL (l : Lay) : List Int := [l.t0, l.t1, l.t2, l.t3, l.t4, l.t5, l.t6]
def rightL (l : Lay) : Bool :=
  !tooV l && (!((timesL l).any fun n => !withinA n 1 1000) && (!(l.secs.any fun s => !rightK s) && (!((portsL l).any fun p => !thereV l p.1 p.2) && (!((stepsL l).any fun s => !stepV l s.1 s.2.1 s.2.2) && !(l.flanks.any fun f => !flankV l f.1 f.2.1 f.2.2.1 f.2.2.2)))))

theorem Row.cellsOn {A B : World} (h : CellsOn A B) {X : Option Addr} {vs : List Value} (hr : Row A A.heap.size X vs) : Row B B.heap.size X vs := fun hp => by
  obtain ⟨b, off, e, hb, hc⟩ := hr hp
  exact ⟨b, off, e, Nat.lt_of_lt_of_le hb h.size, fun j u hu => h.cell (hc j u hu)⟩
theorem Lies.firm (l : Lay) (n : Nat) : Firm n (Lies l) := Firm.cells (fun W W' h hb => ⟨h.secs.cellsOn hb, h.sigs.cellsOn hb, h.exits.cellsOn hb, h.flanks.cellsOn hb, fun x hx => (h.overs x hx).cellsOn hb, h.kinds, h.nS, h.nG, h.nE, h.nF, h.nO⟩) n
theorem Shapes.firm (n : Nat) : Firm n Shapes := Firm.cells (fun W W' h hb i v hv => hb.cell (h i v hv)) n
theorem Whole.firm (g : Nat) (t : TypeId) (cs : List Value) (n : Nat) : Firm n fun w => Whole w g t cs := Firm.cells (fun W W' h hb => hb.whole h) n

section
variable {P : World → Prop} {w : World}
set_option maxHeartbeats 2000000 in
theorem right1_P (x : Int) (h : P w) : Calls Tryd.prog 34 #[.int .i64 x] w fun e w' => e = .returned (.bool (!(withinA x 1 1000))) ∧ P w' := by
  have HC := Lib.hid (withinL_P x 1 1000 rfl h)
  generalize withinA x 1 1000 = r at *
  go_enter Tryd.func34, Tryd.ntmps34
  go_wp2_with fail
  refine HC.out.mono ?_
  rintro e w1 ⟨rfl, hp⟩
  go_wp2_with fail
  go_ret
  exact ⟨rfl, hp⟩

set_option maxHeartbeats 2000000 in
theorem right2_P (hP : Closed P) (hT : ∀ w, P w → Shapes w) {l : Lay} (hL : ∀ w, P w → Lies l w) (x : Int × Int) (g : Nat) (hg : ∀ w, P w → Whole w g 29 l.cells) (h : P w) :
    Calls Tryd.prog 36 #[(prtV x.1 x.2), .pointer (some ⟨g, 0, none⟩)] w fun e w' => e = .returned (.bool (!(thereV l x.1 x.2))) ∧ P w' := by
  have hp := hP _ _ h (below1 w (.cells (prtCells x).toArray 31))
  have HC := Lib.hid (portThere_P hP hT hL x.1 x.2 rfl hp)
  have hw := hg _ hp
  have x0 := hw.cell_at 0 rfl
  have x1 := hw.cell_at 1 rfl
  have x2 := hw.cell_at 2 rfl
  have x3 := hw.cell_at 3 rfl
  have x4 := hw.cell_at 4 rfl
  have x5 := hw.cell_at 5 rfl
  have x6 := hw.cell_at 6 rfl
  have x7 := hw.cell_at 7 rfl
  have x8 := hw.cell_at 8 rfl
  have x9 := hw.cell_at 9 rfl
  have x10 := hw.cell_at 10 rfl
  clear hw hp hP hT hL hg h
  generalize thereV l x.1 x.2 = r at *
  go_enter Tryd.func36, Tryd.ntmps36
  go_wp2_with fail
  refine HC.out.mono ?_
  rintro e w1 ⟨rfl, hp⟩
  go_wp2_with fail
  go_ret
  exact ⟨rfl, hp⟩

set_option maxHeartbeats 2000000 in
theorem right3_P (hP : Closed P) (hT : ∀ w, P w → Shapes w) {l : Lay} (hL : ∀ w, P w → Lies l w) (x : Int × Int × Int) (g : Nat) (hg : ∀ w, P w → Whole w g 29 l.cells) (h : P w) :
    Calls Tryd.prog 37 #[(stpV x.1 x.2.1 x.2.2), .pointer (some ⟨g, 0, none⟩)] w fun e w' => e = .returned (.bool (!(stepV l x.1 x.2.1 x.2.2))) ∧ P w' := by
  have hp := hP _ _ h (below1 w (.cells (stpCells x).toArray 33))
  have HC := Lib.hid (stepThere_P hP hT hL x.1 x.2.1 x.2.2 rfl hp)
  have hw := hg _ hp
  have x0 := hw.cell_at 0 rfl
  have x1 := hw.cell_at 1 rfl
  have x2 := hw.cell_at 2 rfl
  have x3 := hw.cell_at 3 rfl
  have x4 := hw.cell_at 4 rfl
  have x5 := hw.cell_at 5 rfl
  have x6 := hw.cell_at 6 rfl
  have x7 := hw.cell_at 7 rfl
  have x8 := hw.cell_at 8 rfl
  have x9 := hw.cell_at 9 rfl
  have x10 := hw.cell_at 10 rfl
  clear hw hp hP hT hL hg h
  generalize stepV l x.1 x.2.1 x.2.2 = r at *
  go_enter Tryd.func37, Tryd.ntmps37
  go_wp2_with fail
  refine HC.out.mono ?_
  rintro e w1 ⟨rfl, hp⟩
  go_wp2_with fail
  go_ret
  exact ⟨rfl, hp⟩

set_option maxHeartbeats 2000000 in
theorem right4_P (hP : Closed P) (hT : ∀ w, P w → Shapes w) {l : Lay} (hL : ∀ w, P w → Lies l w) (x : Int × Int × Int × Int) (g : Nat) (hg : ∀ w, P w → Whole w g 29 l.cells) (h : P w) :
    Calls Tryd.prog 39 #[(flkV x.1 x.2.1 x.2.2.1 x.2.2.2), .pointer (some ⟨g, 0, none⟩)] w fun e w' => e = .returned (.bool (!(flankV l x.1 x.2.1 x.2.2.1 x.2.2.2))) ∧ P w' := by
  have hp := hP _ _ h (below1 w (.cells (flkCells x).toArray 55))
  have HC := Lib.hid (flankRight_P hP hT hL x.1 x.2.1 x.2.2.1 x.2.2.2 rfl hp)
  have hw := hg _ hp
  have x0 := hw.cell_at 0 rfl
  have x1 := hw.cell_at 1 rfl
  have x2 := hw.cell_at 2 rfl
  have x3 := hw.cell_at 3 rfl
  have x4 := hw.cell_at 4 rfl
  have x5 := hw.cell_at 5 rfl
  have x6 := hw.cell_at 6 rfl
  have x7 := hw.cell_at 7 rfl
  have x8 := hw.cell_at 8 rfl
  have x9 := hw.cell_at 9 rfl
  have x10 := hw.cell_at 10 rfl
  clear hw hp hP hT hL hg h
  generalize flankV l x.1 x.2.1 x.2.2.1 x.2.2.2 = r at *
  go_enter Tryd.func39, Tryd.ntmps39
  go_wp2_with fail
  refine HC.out.mono ?_
  rintro e w1 ⟨rfl, hp⟩
  go_wp2_with fail
  go_ret
  exact ⟨rfl, hp⟩
end

set_option maxHeartbeats 2000000 in
/-- The times as they lie behind times(t). -/
theorem times_any (l : Lay) (w : World) : Calls Tryd.prog 43 #[.agg #[.int .i64 l.t0, .int .i64 l.t1, .int .i64 l.t2, .int .i64 l.t3, .int .i64 l.t4, .int .i64 l.t5, .int .i64 l.t6]] w fun e w' =>
    e = .returned (.func (.func 88) #[] #[.pointer (some ⟨w.heap.size + 2, 0, none⟩)]) ∧ Below w.heap.size w w' ∧ w'.heap.size = w.heap.size + 3 ∧
      Iter Tryd.prog 88 #[.pointer (some ⟨w.heap.size + 2, 0, none⟩)] (fun x : Int => #[.int .i64 x]) (timesL l) (fun k => k < w.heap.size + 2 ∨ k = w.heap.size + 2) w' := by
  have HV := Lib.hid (fun w => valuesInt_any (some ⟨w.heap.size - 1, 0, none⟩) 7 7 w)
  go_enter Tryd.func43, Tryd.ntmps43
  go_wp2_with fail
  have hv := HV.out ((w.alloc (.cells #[.int .i64 l.t0, .int .i64 l.t1, .int .i64 l.t2, .int .i64 l.t3, .int .i64 l.t4, .int .i64 l.t5, .int .i64 l.t6] 27)).alloc (.cells #[.int .i64 l.t0, .int .i64 l.t1, .int .i64 l.t2, .int .i64 l.t3, .int .i64 l.t4, .int .i64 l.t5, .int .i64 l.t6] 3))
  rw [World.size_alloc, World.size_alloc, Nat.add_sub_cancel] at hv
  refine hv.mono ?_
  clear hv HV
  rintro e w1 ⟨rfl, rfl⟩
  go_wp2_with fail
  go_ret
  refine ⟨rfl, below3 _ _ _ _, by simp, ?_⟩
  have hr := ((Whole.new_at (w.alloc (.cells #[.int .i64 l.t0, .int .i64 l.t1, .int .i64 l.t2, .int .i64 l.t3, .int .i64 l.t4, .int .i64 l.t5, .int .i64 l.t6] 27)) 3 [.int .i64 l.t0, .int .i64 l.t1, .int .i64 l.t2, .int .i64 l.t3, .int .i64 l.t4, .int .i64 l.t5, .int .i64 l.t6] (w.heap.size + 1) (by simp)).alloc (.cells #[.slice (some ⟨w.heap.size + 1, 0, none⟩) 7 7] 114)).row (B := w.heap.size + 2) (by omega)
  exact valuesInt_iter (xs := timesL l) (c := 7) (Whole.new_at _ 114 [.slice (some ⟨w.heap.size + 1, 0, none⟩) 7 7] (w.heap.size + 2) (by simp)) hr (by show (7 : Int) ≤ _; omega)

set_option maxRecDepth 100000 in
set_option maxHeartbeats 8000000 in
theorem rightL_any {l : Lay} (w : World) (hT : Shapes w) (hL : Lies l w) {r : Bool} (hr : rightL l = r) : Calls Tryd.prog 18 #[l.val] w fun e w' => e = .returned (.bool r) ∧ Below w.heap.size w w' := by
  obtain ⟨Q, HQ, HQs, HQL, HQl, HQb, hq⟩ : ∃ Q : World → Prop, Hid (Firm w.heap.size Q) ∧ Hid (∀ W, Q W → Shapes W) ∧ Hid (∀ W, Q W → Lies l W) ∧ Hid (∀ W, Q W → Whole W w.heap.size 29 l.cells) ∧ Hid (∀ W, Q W → Below w.heap.size w W) ∧ Q (w.alloc (.cells l.cells.toArray 29)) :=
    ⟨fun W => ((Shapes W ∧ Lies l W) ∧ Whole W w.heap.size 29 l.cells) ∧ Below w.heap.size w W, Lib.hid ((((Shapes.firm _).and (Lies.firm l _)).and (Whole.firm _ _ _ _)).and (Firm.below w)), Lib.hid (fun _ h => h.1.1.1), Lib.hid (fun _ h => h.1.1.2), Lib.hid (fun _ h => h.1.2), Lib.hid (fun _ h => h.2),
     ⟨⟨Shapes.closed _ _ hT (below1 w _), Lies.closed l _ _ hL (below1 w _)⟩, Whole.new w _ l.cells⟩, below1 w _⟩
  have HSz : Hid (∀ W, Q W → w.heap.size + 1 ≤ W.heap.size) := Lib.hid (fun W h => (HQl.out W h).lt)
  obtain ⟨a0, h0⟩ : ∃ a, tooV l = a := ⟨_, rfl⟩
  obtain ⟨a1, h1⟩ : ∃ a, (timesL l).any (fun n => !withinA n 1 1000) = a := ⟨_, rfl⟩
  obtain ⟨a2, h2⟩ : ∃ a, l.secs.any (fun s => !rightK s) = a := ⟨_, rfl⟩
  obtain ⟨a3, h3⟩ : ∃ a, (portsL l).any (fun p => !thereV l p.1 p.2) = a := ⟨_, rfl⟩
  obtain ⟨a4, h4⟩ : ∃ a, (stepsL l).any (fun s => !stepV l s.1 s.2.1 s.2.2) = a := ⟨_, rfl⟩
  obtain ⟨a5, h5⟩ : ∃ a, l.flanks.any (fun f => !flankV l f.1 f.2.1 f.2.2.1 f.2.2.2) = a := ⟨_, rfl⟩
  have HR : Hid ((!a0 && (!a1 && (!a2 && (!a3 && (!a4 && !a5))))) = r) := Lib.hid (by rw [← hr, ← h0, ← h1, ← h2, ← h3, ← h4, ← h5]; rfl)
  have K0 := Lib.hid (fun W (hW : Q W) => tooMany_P (w := W) HQ.out.closed (fun W h => HQL.out _ h) h0 hW)
  have K2 := Lib.hid (fun W (hW : Q W) => sectionsRight_P (w := W) HQ.out.closed (fun W h => HQs.out _ h) (fun W h => HQL.out _ h) h2 hW)
  have M1 := Lib.hid (fun W (hW : Q W) => times_any l W)
  have K1 := Lib.hid (fun (g : Nat) (R : Nat → Prop) (w0 W : World) (hW : Q W) hit hw0 hRl => someInt_P (w := W) (lb := #[.pointer (some ⟨g, 0, none⟩)]) (xs := timesL l) (R := R) (w0 := w0) HQ.out (Nat.le_of_succ_le (HSz.out W hW)) hit hw0 hRl (fun x _ W hW => right1_P (P := fun W' => Q W' ∧ Below W.heap.size W W') x ⟨hW, Below.refl _ _⟩) h1 hW)
  have M3 := Lib.hid (fun W => portsOf_any l W)
  have K3 := Lib.hid (fun (W W0 : World) (hW : Q W) (e : W0 = W.alloc (.cells #[.slice l.As l.secs.length l.cs, .slice l.Ag l.sigs.length l.cg, .slice l.Ae l.exits.length l.ce, .slice l.Af l.flanks.length l.cf, .int .i64 l.t0, .int .i64 l.t1, .int .i64 l.t2, .int .i64 l.t3, .int .i64 l.t4, .int .i64 l.t5, .int .i64 l.t6] 29)) => somePort_P (w := W0) (lb := #[.pointer (some ⟨W.heap.size, 0, none⟩)]) (xs := portsL l) (R := fun k => k < W.heap.size ∨ k = W.heap.size) (w0 := W0) (p0 := .pointer (some ⟨w.heap.size, 0, none⟩)) HQ.out (by rw [e, World.size_alloc]; have := HSz.out W hW; omega)
    (by rw [e]; exact ports_iter (n0 := W.heap.size) (Whole.new W _ l.cells) (by simp) ((HQL.out W hW).secs.below (below1 _ _)) ((HQL.out W hW).sigs.below (below1 _ _)) ((HQL.out W hW).exits.below (below1 _ _)) hL.nS hL.nG hL.nE) (Keeps.refl _ _) (fun k hk => by rw [e, World.size_alloc]; omega)
    (fun x hx W hW => right2_P (P := fun W' => Q W' ∧ Below W.heap.size W W') (w := W) (HQ.out.closed.and (Closed.below W)) (fun W' h => HQs.out _ h.1) (fun W' h => HQL.out _ h.1) x _ (fun W' h => HQl.out _ h.1) ⟨hW, Below.refl _ _⟩) h3 (by rw [e]; exact HQ.out.closed _ _ hW (below1 _ _)))
  have M4 := Lib.hid (fun W => stepsOf_any l W)
  have K4 := Lib.hid (fun (W W0 : World) (hW : Q W) (e : W0 = W.alloc (.cells #[.slice l.As l.secs.length l.cs, .slice l.Ag l.sigs.length l.cg, .slice l.Ae l.exits.length l.ce, .slice l.Af l.flanks.length l.cf, .int .i64 l.t0, .int .i64 l.t1, .int .i64 l.t2, .int .i64 l.t3, .int .i64 l.t4, .int .i64 l.t5, .int .i64 l.t6] 29)) => someStep_P (w := W0) (lb := #[.pointer (some ⟨W.heap.size, 0, none⟩)]) (xs := stepsL l) (R := fun k => k < W.heap.size ∨ k = W.heap.size) (w0 := W0) (p0 := .pointer (some ⟨w.heap.size, 0, none⟩)) HQ.out (by rw [e, World.size_alloc]; have := HSz.out W hW; omega)
    (by rw [e]; exact steps_iter (n0 := W.heap.size) (Whole.new W _ l.cells) ((HQL.out W hW).exits.below (below1 _ _)) (fun x hx => ((HQL.out W hW).overs x hx).below (below1 _ _)) hL.nE hL.nO) (Keeps.refl _ _) (fun k hk => by rw [e, World.size_alloc]; omega)
    (fun x hx W hW => right3_P (P := fun W' => Q W' ∧ Below W.heap.size W W') (w := W) (HQ.out.closed.and (Closed.below W)) (fun W' h => HQs.out _ h.1) (fun W' h => HQL.out _ h.1) x _ (fun W' h => HQl.out _ h.1) ⟨hW, Below.refl _ _⟩) h4 (by rw [e]; exact HQ.out.closed _ _ hW (below1 _ _)))
  have M5 := Lib.hid (fun W => valuesFlank_any l.Af l.flanks.length l.cf W)
  have K5 := Lib.hid (fun (W W0 : World) (hW : Q W) (e : W0 = W.alloc (.cells #[.slice l.Af l.flanks.length l.cf] 25)) => someFlank_P (w := W0) (lb := #[.pointer (some ⟨W.heap.size, 0, none⟩)]) (xs := l.flanks) (R := fun k => k < W.heap.size ∨ k = W.heap.size) (w0 := W0) (p0 := .pointer (some ⟨w.heap.size, 0, none⟩)) HQ.out (by rw [e, World.size_alloc]; have := HSz.out W hW; omega)
    (by rw [e]; exact valuesFlank_iter (n0 := W.heap.size) (c := l.cf) (Whole.new W _ [.slice l.Af l.flanks.length l.cf]) ((HQL.out W hW).flanks.below (below1 _ _)) hL.nF) (Keeps.refl _ _) (fun k hk => by rw [e, World.size_alloc]; omega)
    (fun x hx W hW => right4_P (P := fun W' => Q W' ∧ Below W.heap.size W W') (w := W) (HQ.out.closed.and (Closed.below W)) (fun W' h => HQs.out _ h.1) (fun W' h => HQL.out _ h.1) x _ (fun W' h => HQl.out _ h.1) ⟨hW, Below.refl _ _⟩) h5 (by rw [e]; exact HQ.out.closed _ _ hW (below1 _ _)))
  clear h0 h1 h2 h3 h4 h5 hr hT hL
  have x0 := (HQl.out _ hq).cell_at 0 rfl
  have x1 := (HQl.out _ hq).cell_at 1 rfl
  have x2 := (HQl.out _ hq).cell_at 2 rfl
  have x3 := (HQl.out _ hq).cell_at 3 rfl
  have x4 := (HQl.out _ hq).cell_at 4 rfl
  have x5 := (HQl.out _ hq).cell_at 5 rfl
  have x6 := (HQl.out _ hq).cell_at 6 rfl
  have x7 := (HQl.out _ hq).cell_at 7 rfl
  have x8 := (HQl.out _ hq).cell_at 8 rfl
  have x9 := (HQl.out _ hq).cell_at 9 rfl
  have x10 := (HQl.out _ hq).cell_at 10 rfl
  go_enter Tryd.func18, Tryd.ntmps18
  go_wp2_with fail
  refine wp_scope_fwd (l := 0) rfl ?_
  go_wp2_with fail
  refine (K0.out _ hq).mono ?_
  clear hq x0 x1 x2 x3 x4 x5 x6 x7 x8 x9 x10
  rintro e w1 ⟨rfl, hq⟩
  cases a0
  rotate_left
  · have HF : Hid (false = r) := Lib.hid (by rw [← HR.out]; rfl)
    go_wp2_with fail
    go_step3
    simp +zetaDelta only [Exit.inBlock, Exit.then, fwd_goto]
    refine ⟨trivial, ?_⟩
    go_wp2_with fail
    rw [Exit.noGoto_ret]
    go_ret
    exact ⟨ret_bool HF.out, HQb.out _ hq⟩
  have x0 := (HQl.out _ hq).cell_at 0 rfl
  have x1 := (HQl.out _ hq).cell_at 1 rfl
  have x2 := (HQl.out _ hq).cell_at 2 rfl
  have x3 := (HQl.out _ hq).cell_at 3 rfl
  have x4 := (HQl.out _ hq).cell_at 4 rfl
  have x5 := (HQl.out _ hq).cell_at 5 rfl
  have x6 := (HQl.out _ hq).cell_at 6 rfl
  have x7 := (HQl.out _ hq).cell_at 7 rfl
  have x8 := (HQl.out _ hq).cell_at 8 rfl
  have x9 := (HQl.out _ hq).cell_at 9 rfl
  have x10 := (HQl.out _ hq).cell_at 10 rfl
  go_wp2_with fail
  refine (M1.out _ hq).mono ?_
  clear x0 x1 x2 x3 x4 x5 x6 x7 x8 x9 x10
  rintro e w2 ⟨rfl, hB2, hs2, hit⟩
  have hq := HQ.out.closed _ _ hq hB2
  go_wp2_with fail
  refine (K1.out _ _ w2 w2 hq hit (Keeps.refl _ _) (fun k hk => by omega)).mono ?_
  clear hit hB2 hs2
  rintro e w3 ⟨rfl, hq⟩
  cases a1
  rotate_left
  · have HF : Hid (false = r) := Lib.hid (by rw [← HR.out]; rfl)
    go_wp2_with fail
    go_step3
    simp +zetaDelta only [Exit.inBlock, Exit.then, fwd_goto]
    refine ⟨trivial, ?_⟩
    go_wp2_with fail
    rw [Exit.noGoto_ret]
    go_ret
    exact ⟨ret_bool HF.out, HQb.out _ hq⟩
  have x0 := (HQl.out _ hq).cell_at 0 rfl
  have x1 := (HQl.out _ hq).cell_at 1 rfl
  have x2 := (HQl.out _ hq).cell_at 2 rfl
  have x3 := (HQl.out _ hq).cell_at 3 rfl
  have x4 := (HQl.out _ hq).cell_at 4 rfl
  have x5 := (HQl.out _ hq).cell_at 5 rfl
  have x6 := (HQl.out _ hq).cell_at 6 rfl
  have x7 := (HQl.out _ hq).cell_at 7 rfl
  have x8 := (HQl.out _ hq).cell_at 8 rfl
  have x9 := (HQl.out _ hq).cell_at 9 rfl
  have x10 := (HQl.out _ hq).cell_at 10 rfl
  go_wp2_with fail
  refine (K2.out _ hq).mono ?_
  clear hq x0 x1 x2 x3 x4 x5 x6 x7 x8 x9 x10
  rintro e w4 ⟨rfl, hq⟩
  cases a2
  rotate_left
  · have HF : Hid (false = r) := Lib.hid (by rw [← HR.out]; rfl)
    go_wp2_with fail
    go_step3
    simp +zetaDelta only [Exit.inBlock, Exit.then, fwd_goto]
    refine ⟨trivial, ?_⟩
    go_wp2_with fail
    rw [Exit.noGoto_ret]
    go_ret
    exact ⟨ret_bool HF.out, HQb.out _ hq⟩
  have x0 := (HQl.out _ hq).cell_at 0 rfl
  have x1 := (HQl.out _ hq).cell_at 1 rfl
  have x2 := (HQl.out _ hq).cell_at 2 rfl
  have x3 := (HQl.out _ hq).cell_at 3 rfl
  have x4 := (HQl.out _ hq).cell_at 4 rfl
  have x5 := (HQl.out _ hq).cell_at 5 rfl
  have x6 := (HQl.out _ hq).cell_at 6 rfl
  have x7 := (HQl.out _ hq).cell_at 7 rfl
  have x8 := (HQl.out _ hq).cell_at 8 rfl
  have x9 := (HQl.out _ hq).cell_at 9 rfl
  have x10 := (HQl.out _ hq).cell_at 10 rfl
  go_wp2_with fail
  refine (M3.out _).mono ?_
  clear x0 x1 x2 x3 x4 x5 x6 x7 x8 x9 x10
  rintro e w5 ⟨rfl, e5⟩
  have E5 := Lib.hid e5
  clear e5
  go_wp2_with fail
  refine (K3.out _ _ hq E5.out).mono ?_
  clear hq E5
  rintro e w6 ⟨rfl, hq⟩
  cases a3
  rotate_left
  · have HF : Hid (false = r) := Lib.hid (by rw [← HR.out]; rfl)
    go_wp2_with fail
    go_step3
    simp +zetaDelta only [Exit.inBlock, Exit.then, fwd_goto]
    refine ⟨trivial, ?_⟩
    go_wp2_with fail
    rw [Exit.noGoto_ret]
    go_ret
    exact ⟨ret_bool HF.out, HQb.out _ hq⟩
  have x0 := (HQl.out _ hq).cell_at 0 rfl
  have x1 := (HQl.out _ hq).cell_at 1 rfl
  have x2 := (HQl.out _ hq).cell_at 2 rfl
  have x3 := (HQl.out _ hq).cell_at 3 rfl
  have x4 := (HQl.out _ hq).cell_at 4 rfl
  have x5 := (HQl.out _ hq).cell_at 5 rfl
  have x6 := (HQl.out _ hq).cell_at 6 rfl
  have x7 := (HQl.out _ hq).cell_at 7 rfl
  have x8 := (HQl.out _ hq).cell_at 8 rfl
  have x9 := (HQl.out _ hq).cell_at 9 rfl
  have x10 := (HQl.out _ hq).cell_at 10 rfl
  go_wp2_with fail
  refine (M4.out _).mono ?_
  clear x0 x1 x2 x3 x4 x5 x6 x7 x8 x9 x10
  rintro e w7 ⟨rfl, e7⟩
  have E7 := Lib.hid e7
  clear e7
  go_wp2_with fail
  refine (K4.out _ _ hq E7.out).mono ?_
  clear hq E7
  rintro e w8 ⟨rfl, hq⟩
  cases a4
  rotate_left
  · have HF : Hid (false = r) := Lib.hid (by rw [← HR.out]; rfl)
    go_wp2_with fail
    go_step3
    simp +zetaDelta only [Exit.inBlock, Exit.then, fwd_goto]
    refine ⟨trivial, ?_⟩
    go_wp2_with fail
    rw [Exit.noGoto_ret]
    go_ret
    exact ⟨ret_bool HF.out, HQb.out _ hq⟩
  have x0 := (HQl.out _ hq).cell_at 0 rfl
  have x1 := (HQl.out _ hq).cell_at 1 rfl
  have x2 := (HQl.out _ hq).cell_at 2 rfl
  have x3 := (HQl.out _ hq).cell_at 3 rfl
  have x4 := (HQl.out _ hq).cell_at 4 rfl
  have x5 := (HQl.out _ hq).cell_at 5 rfl
  have x6 := (HQl.out _ hq).cell_at 6 rfl
  have x7 := (HQl.out _ hq).cell_at 7 rfl
  have x8 := (HQl.out _ hq).cell_at 8 rfl
  have x9 := (HQl.out _ hq).cell_at 9 rfl
  have x10 := (HQl.out _ hq).cell_at 10 rfl
  go_wp2_with fail
  refine (M5.out _).mono ?_
  clear x0 x1 x2 x3 x4 x5 x6 x7 x8 x9 x10
  rintro e w9 ⟨rfl, e9⟩
  have E9 := Lib.hid e9
  clear e9
  go_wp2_with fail
  refine (K5.out _ _ hq E9.out).mono ?_
  clear hq E9
  rintro e w10 ⟨rfl, hq⟩
  cases a5
  rotate_left
  · have HF : Hid (false = r) := Lib.hid (by rw [← HR.out]; rfl)
    go_wp2_with fail
    go_step3
    simp +zetaDelta only [Exit.inBlock, Exit.then, fwd_goto]
    refine ⟨trivial, ?_⟩
    go_wp2_with fail
    rw [Exit.noGoto_ret]
    go_ret
    exact ⟨ret_bool HF.out, HQb.out _ hq⟩
  have HF : Hid (true = r) := Lib.hid (by rw [← HR.out]; rfl)
  go_wp2_with fail
  try rw [fwd_ret]
  go_ret
  exact ⟨ret_bool HF.out, HQb.out _ hq⟩
theorem rightL_P {P : World → Prop} {w : World} (hP : Closed P) (hT : ∀ w, P w → Shapes w) {l : Lay} (hL : ∀ w, P w → Lies l w) {r : Bool} (hr : rightL l = r) (h : P w) : Calls Tryd.prog 18 #[l.val] w fun e w' => e = .returned (.bool r) ∧ P w' :=
  (rightL_any w (hT _ h) (hL _ h) hr).mono fun e w' ⟨he, hb⟩ => ⟨he, hP _ _ h hb⟩
end Go.Proofs.YtbalcbnlpgekaaaDoor
