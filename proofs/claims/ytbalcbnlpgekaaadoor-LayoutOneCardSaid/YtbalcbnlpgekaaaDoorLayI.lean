/- Package layout: some, over an iterator, at ints, ports, steps, flanks. -/
import Derived.RangeFuncNested
import Derived.RangeFuncBound
import Derived.RangeFuncCalls
import Derived.RangeFuncLeaves
import Derived.RangeFuncBox
import Derived.Shelf.Abstract
import Derived.Shelf.RegionOpen
import Derived.WalkKit
import Derived.OwnWalkIn
import Derived.TacticsInMore
import Derived.LoopNIn
import Derived.LoopIn
import Derived.WalkMore
import Derived.Test.YtbalcbnlpgekaaaDoorLayH
namespace Go.Proofs.YtbalcbnlpgekaaaDoor
open Go.RowKit Go.Shelf
set_option linter.unusedVariables false
set_option linter.unusedSimpArgs false

attribute [local go_sem] Oper.semAt_some
section
variable {P : World → Prop} {w : World}

set_option maxRecDepth 100000 in
set_option maxHeartbeats 4000000 in
theorem someInt_P {n : Nat} (hP : Firm n P) (hn : n ≤ w.heap.size) {lb : Array Value} {xs : List (Int)} {R : Nat → Prop} {w0 : World} (hit : Iter Tryd.prog 88 lb (fun x : Int => #[(.int .i64 x)]) xs R w0) (hw0 : Keeps R w0 w) (hRl : ∀ k, R k → k < w.heap.size) {pr : Int → Bool} {r : Bool}
    (hf : ∀ x ∈ xs, ∀ W, P W → Calls Tryd.prog 34 #[(.int .i64 x)] W fun e w' => e = .returned (.bool (pr x)) ∧ P w' ∧ Below W.heap.size W w') (hr : xs.any pr = r) (h : P w) :
    Calls Tryd.prog 42 #[.func (.func 88) #[] lb, .func (.func 34) #[] #[]] w fun e w' => e = .returned (.bool r) ∧ P w' := by
  have HF := Lib.hid hf
  have HR := Lib.hid hr
  have HPP := Lib.hid (fun W (hB : Below w.heap.size w W) => hP.closed _ _ h hB)
  clear hf hr
  refine (callsIn_wide (n := 5)).1 ?_
  refine callsIn_of_wp_marks Tryd.func42 rfl trivial ?_ rfl
  simp only [Tryd.ntmps42, List.size_toArray, List.length_cons, List.length_nil, Nat.reduceAdd, Nat.reduceSub, Array.replicate_succ, Array.replicate_zero, List.push_toArray, List.append_toArray, List.nil_append, List.cons_append]
  gi_wp2_with fail
  obtain ⟨W0, hW0, hsz, hB0, b0, b1⟩ : ∃ W0, ((w.alloc (.cells #[.func (.func 34) #[] #[]] 68)).alloc (.cells #[.bool false] 4)) = W0 ∧ W0.heap.size = w.heap.size + 2 ∧ Below w.heap.size w W0 ∧ Whole W0 w.heap.size 68 [.func (.func 34) #[] #[]] ∧ Whole W0 (w.heap.size + 1) 4 [.bool false] :=
    ⟨_, rfl, by simp, below2 _ _ _, (Whole.new w _ [_]).alloc _, Whole.new_at _ _ [_] _ (by simp)⟩
  rw [hW0]
  have hp0 := hP.closed _ _ h hB0
  clear hW0
  refine range_iter (gf := 88) rfl (enters_of Tryd.func88 (by kernel_rfl) rfl) hit (hw0.trans (Keeps.below hB0)) (fun k hk => by have := hRl k hk; omega) (fun _ => rfl) (by omega)
    (fun k => k = w.heap.size + 1) (fun k hk e => by have := hRl k e; omega) (fun k hk => by omega)
    (fun j W => ((Whole W w.heap.size 68 [.func (.func 34) #[] #[]] ∧ Whole W (w.heap.size + 1) 4 [.bool false]) ∧ Below w.heap.size w W) ∧ (P W ∧ Hid (NoneUp pr xs j)))
    (fun c W => (Whole W (w.heap.size + 1) 4 [.bool true] ∧ Below w.heap.size w W) ∧ (c = .ret ∧ xs.any pr = true))
    (OwnFrom.and (OwnFrom.and (OwnFrom.and (Own.from (fun s X Y row hs hg hr => hs.abides hg hr) _) (Own.from (fun s X Y row hs hg hr => hs.abides hg hr) _)) (ownFrom_below (Nat.le_refl _) (by omega))) (OwnFrom.and (hP.own (by omega)) (ownFrom_pure _ _)))
    (fun c => OwnFrom.and (OwnFrom.and (Own.from (fun s X Y row hs hg hr => hs.abides hg hr) _) (ownFrom_below (Nat.le_refl _) (by omega))) (ownFrom_pure _ _))
    ⟨⟨⟨b0, b1⟩, hB0⟩, hp0, Lib.hid (NoneUp.zero _ _)⟩
    (fun _ x a' _ => a' = { tmps := #[.func (.func 88) #[] lb, .func (.func 34) #[] #[], undef, .pointer (some ⟨w.heap.size, 0, none⟩), .pointer (some ⟨w.heap.size + 1, 0, none⟩), (.int .i64 x), .func (.func 88) #[] lb, (.int .i64 x), undef, undef, undef], defers := [] })
    (fun _ x a' _ X Y row hs hg hr => hs)
    ?assign ?body ?done ?stop
  case assign =>
    rintro l j x W K hx hI hK
    gi_wp2_with fail
    exact hK _ _ (Off.refl _ _) hI rfl
  case body =>
    rintro l j x a' W hl hx ⟨⟨⟨b0, b1⟩, hB⟩, hp, HN⟩ rfl
    have HX := Lib.hid hx
    have HM := Lib.hid (List.mem_of_getElem? hx)
    clear hx
    have c0 := b0.cell_at 0 rfl
    gi_wp2_with fail
    refine ⟨trivial, (CallsIn.inRound _ (callsIn_wide.2 (HF.out x HM.out _ hp))).mono ?_⟩
    clear c0 
    cases hpr : pr x
    · have HN1 := Lib.hid (HN.out.succ HX.out hpr)
      clear hpr
      rintro e w3 ⟨rfl, hp3, hB3⟩
      gi_wp2_with fail
      exact ⟨Off.below hB3, ⟨⟨b0.below hB3 b0.lt, b1.below hB3 b1.lt⟩, hB.trans (hB3.mono hB.size)⟩, hp3, HN1⟩
    · have HA := Lib.hid (any_hit HX.out hpr)
      clear hpr
      rintro e w3 ⟨rfl, hp3, hB3⟩
      have b1' := b1.below hB3 b1.lt
      have f1 := b1'.frozen 0
      have c1 := b1'.cell_at 0 rfl
      gi_wp2_with fail
      exact ⟨(Off.below hB3).trans (Off.set (p := ⟨w.heap.size + 1, 0, none⟩) _ _ rfl), ⟨b1'.set 0 (.bool true), (hB.trans (hB3.mono hB.size)).setCell (p := ⟨w.heap.size + 1, 0, none⟩) (by show w.heap.size ≤ w.heap.size + 1; omega) _⟩, rfl, HA.out⟩
  case done =>
    rintro D W hD ⟨⟨⟨b0, b1⟩, hB⟩, hp, HN⟩ hK
    have HA := Lib.hid HN.out.any
    have f1 := b1.frozen 0
    have c1 := b1.cell_at 0 rfl
    gi_wp2_with fail
    have hK2 := (Below.heap_setCell W ⟨w.heap.size + 1, 0, none⟩ (.bool false) D (by show D ≠ w.heap.size + 1; omega)).trans hK
    have e1 := ((b1.set 0 (.bool false)).putDone (o' := .deferred none) hK2).cell_at 0 rfl
    have hB2 := hB.setCell (p := ⟨w.heap.size + 1, 0, none⟩) (by show w.heap.size ≤ w.heap.size + 1; omega) (.bool false)
    refine ⟨by simp, .inl ⟨_, _, rfl, run_takeDeferred hK2, ?_⟩⟩
    refine ⟨.bool false, by simp [results, Tryd.f42, go_sem, e1], by rw [← HR.out, HA.out], HPP.out _ (hB2.trans (belowK_b (w := w) (Nat.le_refl _) _ D _ _ (by omega) hK2 rfl rfl))⟩
  case stop =>
    rintro D c W hD ⟨⟨b1, hB⟩, rfl, hA⟩ hK
    have HA := Lib.hid hA
    clear hA
    have e1 := (b1.putDone (o' := .deferred none) hK).cell_at 0 rfl
    gi_wp2_with fail
    refine ⟨by simp, .inl ⟨_, _, rfl, run_takeDeferred hK, ?_⟩⟩
    refine ⟨.bool true, by simp [results, Tryd.f42, go_sem, e1], by rw [← HR.out, HA.out], HPP.out _ (hB.trans (belowK_b (w := w) (Nat.le_refl _) _ D _ _ (by omega) hK rfl rfl))⟩

set_option maxRecDepth 100000 in
set_option maxHeartbeats 4000000 in
theorem somePort_P {n : Nat} (hP : Firm n P) (hn : n ≤ w.heap.size) {lb : Array Value} {xs : List (Int × Int)} {R : Nat → Prop} {w0 : World} (hit : Iter Tryd.prog 80 lb (fun x : Int × Int => #[(prtV x.1 x.2)]) xs R w0) (hw0 : Keeps R w0 w) (hRl : ∀ k, R k → k < w.heap.size) (p0 : Value) {pr : Int × Int → Bool} {r : Bool}
    (hf : ∀ x ∈ xs, ∀ W, P W → Calls Tryd.prog 36 #[(prtV x.1 x.2), p0] W fun e w' => e = .returned (.bool (pr x)) ∧ P w' ∧ Below W.heap.size W w') (hr : xs.any pr = r) (h : P w) :
    Calls Tryd.prog 45 #[.func (.func 80) #[] lb, .func (.func 36) #[] #[p0]] w fun e w' => e = .returned (.bool r) ∧ P w' := by
  have HF := Lib.hid hf
  have HR := Lib.hid hr
  have HPP := Lib.hid (fun W (hB : Below w.heap.size w W) => hP.closed _ _ h hB)
  clear hf hr
  refine (callsIn_wide (n := 5)).1 ?_
  refine callsIn_of_wp_marks Tryd.func45 rfl trivial ?_ rfl
  simp only [Tryd.ntmps45, List.size_toArray, List.length_cons, List.length_nil, Nat.reduceAdd, Nat.reduceSub, Array.replicate_succ, Array.replicate_zero, List.push_toArray, List.append_toArray, List.nil_append, List.cons_append]
  gi_wp2_with fail
  obtain ⟨W0, hW0, hsz, hB0, b0, b1⟩ : ∃ W0, ((w.alloc (.cells #[.func (.func 36) #[] #[p0]] 69)).alloc (.cells #[.bool false] 4)) = W0 ∧ W0.heap.size = w.heap.size + 2 ∧ Below w.heap.size w W0 ∧ Whole W0 w.heap.size 69 [.func (.func 36) #[] #[p0]] ∧ Whole W0 (w.heap.size + 1) 4 [.bool false] :=
    ⟨_, rfl, by simp, below2 _ _ _, (Whole.new w _ [_]).alloc _, Whole.new_at _ _ [_] _ (by simp)⟩
  rw [hW0]
  have hp0 := hP.closed _ _ h hB0
  clear hW0
  refine range_iter (gf := 80) rfl (enters_of Tryd.func80 (by kernel_rfl) rfl) hit (hw0.trans (Keeps.below hB0)) (fun k hk => by have := hRl k hk; omega) (fun _ => rfl) (by omega)
    (fun k => k = w.heap.size + 1) (fun k hk e => by have := hRl k e; omega) (fun k hk => by omega)
    (fun j W => ((Whole W w.heap.size 69 [.func (.func 36) #[] #[p0]] ∧ Whole W (w.heap.size + 1) 4 [.bool false]) ∧ Below w.heap.size w W) ∧ (P W ∧ Hid (NoneUp pr xs j)))
    (fun c W => (Whole W (w.heap.size + 1) 4 [.bool true] ∧ Below w.heap.size w W) ∧ (c = .ret ∧ xs.any pr = true))
    (OwnFrom.and (OwnFrom.and (OwnFrom.and (Own.from (fun s X Y row hs hg hr => hs.abides hg hr) _) (Own.from (fun s X Y row hs hg hr => hs.abides hg hr) _)) (ownFrom_below (Nat.le_refl _) (by omega))) (OwnFrom.and (hP.own (by omega)) (ownFrom_pure _ _)))
    (fun c => OwnFrom.and (OwnFrom.and (Own.from (fun s X Y row hs hg hr => hs.abides hg hr) _) (ownFrom_below (Nat.le_refl _) (by omega))) (ownFrom_pure _ _))
    ⟨⟨⟨b0, b1⟩, hB0⟩, hp0, Lib.hid (NoneUp.zero _ _)⟩
    (fun _ x a' W => ∃ Bx, w.heap.size + 1 < Bx ∧ Whole W Bx 31 (prtCells x) ∧ a' = { tmps := #[.func (.func 80) #[] lb, .func (.func 36) #[] #[p0], undef, .pointer (some ⟨w.heap.size, 0, none⟩), .pointer (some ⟨w.heap.size + 1, 0, none⟩), .pointer (some ⟨Bx, 0, none⟩), .func (.func 80) #[] lb, (prtV x.1 x.2), undef, undef, undef], defers := [] })
    (fun _ x a' _ X Y row hs hg hr => by obtain ⟨Bx, h1, h2, h3⟩ := hs; exact ⟨Bx, h1, h2.abides hg (fun r e => (hr r e).2), h3⟩)
    ?assign ?body ?done ?stop
  case assign =>
    rintro l j x W K hx ⟨⟨⟨b0, b1⟩, hB⟩, hp, HN⟩ hK
    gi_wp2_with fail
    exact hK _ _ (Off.below (below1 _ _)) ⟨⟨⟨b0.alloc _, b1.alloc _⟩, hB.alloc hB.size _⟩, hP.closed _ _ hp (below1 _ _), HN⟩ ⟨W.heap.size, b1.lt, Whole.new W _ (prtCells _), rfl⟩
  case body =>
    rintro l j x a' W hl hx ⟨⟨⟨b0, b1⟩, hB⟩, hp, HN⟩ ⟨Bx, hBx, bX, rfl⟩
    have HX := Lib.hid hx
    have HM := Lib.hid (List.mem_of_getElem? hx)
    clear hx
    have c0 := b0.cell_at 0 rfl
    have x0 := bX.cell_at 0 rfl
    have x1 := bX.cell_at 1 rfl
    gi_wp2_with fail
    refine ⟨trivial, (CallsIn.inRound _ (callsIn_wide.2 (HF.out x HM.out _ hp))).mono ?_⟩
    clear c0 x0 x1
    cases hpr : pr x
    · have HN1 := Lib.hid (HN.out.succ HX.out hpr)
      clear hpr
      rintro e w3 ⟨rfl, hp3, hB3⟩
      gi_wp2_with fail
      exact ⟨Off.below hB3, ⟨⟨b0.below hB3 b0.lt, b1.below hB3 b1.lt⟩, hB.trans (hB3.mono hB.size)⟩, hp3, HN1⟩
    · have HA := Lib.hid (any_hit HX.out hpr)
      clear hpr
      rintro e w3 ⟨rfl, hp3, hB3⟩
      have b1' := b1.below hB3 b1.lt
      have f1 := b1'.frozen 0
      have c1 := b1'.cell_at 0 rfl
      gi_wp2_with fail
      exact ⟨(Off.below hB3).trans (Off.set (p := ⟨w.heap.size + 1, 0, none⟩) _ _ rfl), ⟨b1'.set 0 (.bool true), (hB.trans (hB3.mono hB.size)).setCell (p := ⟨w.heap.size + 1, 0, none⟩) (by show w.heap.size ≤ w.heap.size + 1; omega) _⟩, rfl, HA.out⟩
  case done =>
    rintro D W hD ⟨⟨⟨b0, b1⟩, hB⟩, hp, HN⟩ hK
    have HA := Lib.hid HN.out.any
    have f1 := b1.frozen 0
    have c1 := b1.cell_at 0 rfl
    gi_wp2_with fail
    have hK2 := (Below.heap_setCell W ⟨w.heap.size + 1, 0, none⟩ (.bool false) D (by show D ≠ w.heap.size + 1; omega)).trans hK
    have e1 := ((b1.set 0 (.bool false)).putDone (o' := .deferred none) hK2).cell_at 0 rfl
    have hB2 := hB.setCell (p := ⟨w.heap.size + 1, 0, none⟩) (by show w.heap.size ≤ w.heap.size + 1; omega) (.bool false)
    refine ⟨by simp, .inl ⟨_, _, rfl, run_takeDeferred hK2, ?_⟩⟩
    refine ⟨.bool false, by simp [results, Tryd.f45, go_sem, e1], by rw [← HR.out, HA.out], HPP.out _ (hB2.trans (belowK_b (w := w) (Nat.le_refl _) _ D _ _ (by omega) hK2 rfl rfl))⟩
  case stop =>
    rintro D c W hD ⟨⟨b1, hB⟩, rfl, hA⟩ hK
    have HA := Lib.hid hA
    clear hA
    have e1 := (b1.putDone (o' := .deferred none) hK).cell_at 0 rfl
    gi_wp2_with fail
    refine ⟨by simp, .inl ⟨_, _, rfl, run_takeDeferred hK, ?_⟩⟩
    refine ⟨.bool true, by simp [results, Tryd.f45, go_sem, e1], by rw [← HR.out, HA.out], HPP.out _ (hB.trans (belowK_b (w := w) (Nat.le_refl _) _ D _ _ (by omega) hK rfl rfl))⟩

set_option maxRecDepth 100000 in
set_option maxHeartbeats 4000000 in
theorem someStep_P {n : Nat} (hP : Firm n P) (hn : n ≤ w.heap.size) {lb : Array Value} {xs : List (Int × Int × Int)} {R : Nat → Prop} {w0 : World} (hit : Iter Tryd.prog 82 lb (fun x : Int × Int × Int => #[(stpV x.1 x.2.1 x.2.2)]) xs R w0) (hw0 : Keeps R w0 w) (hRl : ∀ k, R k → k < w.heap.size) (p0 : Value) {pr : Int × Int × Int → Bool} {r : Bool}
    (hf : ∀ x ∈ xs, ∀ W, P W → Calls Tryd.prog 37 #[(stpV x.1 x.2.1 x.2.2), p0] W fun e w' => e = .returned (.bool (pr x)) ∧ P w' ∧ Below W.heap.size W w') (hr : xs.any pr = r) (h : P w) :
    Calls Tryd.prog 47 #[.func (.func 82) #[] lb, .func (.func 37) #[] #[p0]] w fun e w' => e = .returned (.bool r) ∧ P w' := by
  have HF := Lib.hid hf
  have HR := Lib.hid hr
  have HPP := Lib.hid (fun W (hB : Below w.heap.size w W) => hP.closed _ _ h hB)
  clear hf hr
  refine (callsIn_wide (n := 5)).1 ?_
  refine callsIn_of_wp_marks Tryd.func47 rfl trivial ?_ rfl
  simp only [Tryd.ntmps47, List.size_toArray, List.length_cons, List.length_nil, Nat.reduceAdd, Nat.reduceSub, Array.replicate_succ, Array.replicate_zero, List.push_toArray, List.append_toArray, List.nil_append, List.cons_append]
  gi_wp2_with fail
  obtain ⟨W0, hW0, hsz, hB0, b0, b1⟩ : ∃ W0, ((w.alloc (.cells #[.func (.func 37) #[] #[p0]] 70)).alloc (.cells #[.bool false] 4)) = W0 ∧ W0.heap.size = w.heap.size + 2 ∧ Below w.heap.size w W0 ∧ Whole W0 w.heap.size 70 [.func (.func 37) #[] #[p0]] ∧ Whole W0 (w.heap.size + 1) 4 [.bool false] :=
    ⟨_, rfl, by simp, below2 _ _ _, (Whole.new w _ [_]).alloc _, Whole.new_at _ _ [_] _ (by simp)⟩
  rw [hW0]
  have hp0 := hP.closed _ _ h hB0
  clear hW0
  refine range_iter (gf := 82) rfl (enters_of Tryd.func82 (by kernel_rfl) rfl) hit (hw0.trans (Keeps.below hB0)) (fun k hk => by have := hRl k hk; omega) (fun _ => rfl) (by omega)
    (fun k => k = w.heap.size + 1) (fun k hk e => by have := hRl k e; omega) (fun k hk => by omega)
    (fun j W => ((Whole W w.heap.size 70 [.func (.func 37) #[] #[p0]] ∧ Whole W (w.heap.size + 1) 4 [.bool false]) ∧ Below w.heap.size w W) ∧ (P W ∧ Hid (NoneUp pr xs j)))
    (fun c W => (Whole W (w.heap.size + 1) 4 [.bool true] ∧ Below w.heap.size w W) ∧ (c = .ret ∧ xs.any pr = true))
    (OwnFrom.and (OwnFrom.and (OwnFrom.and (Own.from (fun s X Y row hs hg hr => hs.abides hg hr) _) (Own.from (fun s X Y row hs hg hr => hs.abides hg hr) _)) (ownFrom_below (Nat.le_refl _) (by omega))) (OwnFrom.and (hP.own (by omega)) (ownFrom_pure _ _)))
    (fun c => OwnFrom.and (OwnFrom.and (Own.from (fun s X Y row hs hg hr => hs.abides hg hr) _) (ownFrom_below (Nat.le_refl _) (by omega))) (ownFrom_pure _ _))
    ⟨⟨⟨b0, b1⟩, hB0⟩, hp0, Lib.hid (NoneUp.zero _ _)⟩
    (fun _ x a' W => ∃ Bx, w.heap.size + 1 < Bx ∧ Whole W Bx 33 (stpCells x) ∧ a' = { tmps := #[.func (.func 82) #[] lb, .func (.func 37) #[] #[p0], undef, .pointer (some ⟨w.heap.size, 0, none⟩), .pointer (some ⟨w.heap.size + 1, 0, none⟩), .pointer (some ⟨Bx, 0, none⟩), .func (.func 82) #[] lb, (stpV x.1 x.2.1 x.2.2), undef, undef, undef], defers := [] })
    (fun _ x a' _ X Y row hs hg hr => by obtain ⟨Bx, h1, h2, h3⟩ := hs; exact ⟨Bx, h1, h2.abides hg (fun r e => (hr r e).2), h3⟩)
    ?assign ?body ?done ?stop
  case assign =>
    rintro l j x W K hx ⟨⟨⟨b0, b1⟩, hB⟩, hp, HN⟩ hK
    gi_wp2_with fail
    exact hK _ _ (Off.below (below1 _ _)) ⟨⟨⟨b0.alloc _, b1.alloc _⟩, hB.alloc hB.size _⟩, hP.closed _ _ hp (below1 _ _), HN⟩ ⟨W.heap.size, b1.lt, Whole.new W _ (stpCells _), rfl⟩
  case body =>
    rintro l j x a' W hl hx ⟨⟨⟨b0, b1⟩, hB⟩, hp, HN⟩ ⟨Bx, hBx, bX, rfl⟩
    have HX := Lib.hid hx
    have HM := Lib.hid (List.mem_of_getElem? hx)
    clear hx
    have c0 := b0.cell_at 0 rfl
    have x0 := bX.cell_at 0 rfl
    have x1 := bX.cell_at 1 rfl
    have x2 := bX.cell_at 2 rfl
    gi_wp2_with fail
    refine ⟨trivial, (CallsIn.inRound _ (callsIn_wide.2 (HF.out x HM.out _ hp))).mono ?_⟩
    clear c0 x0 x1 x2
    cases hpr : pr x
    · have HN1 := Lib.hid (HN.out.succ HX.out hpr)
      clear hpr
      rintro e w3 ⟨rfl, hp3, hB3⟩
      gi_wp2_with fail
      exact ⟨Off.below hB3, ⟨⟨b0.below hB3 b0.lt, b1.below hB3 b1.lt⟩, hB.trans (hB3.mono hB.size)⟩, hp3, HN1⟩
    · have HA := Lib.hid (any_hit HX.out hpr)
      clear hpr
      rintro e w3 ⟨rfl, hp3, hB3⟩
      have b1' := b1.below hB3 b1.lt
      have f1 := b1'.frozen 0
      have c1 := b1'.cell_at 0 rfl
      gi_wp2_with fail
      exact ⟨(Off.below hB3).trans (Off.set (p := ⟨w.heap.size + 1, 0, none⟩) _ _ rfl), ⟨b1'.set 0 (.bool true), (hB.trans (hB3.mono hB.size)).setCell (p := ⟨w.heap.size + 1, 0, none⟩) (by show w.heap.size ≤ w.heap.size + 1; omega) _⟩, rfl, HA.out⟩
  case done =>
    rintro D W hD ⟨⟨⟨b0, b1⟩, hB⟩, hp, HN⟩ hK
    have HA := Lib.hid HN.out.any
    have f1 := b1.frozen 0
    have c1 := b1.cell_at 0 rfl
    gi_wp2_with fail
    have hK2 := (Below.heap_setCell W ⟨w.heap.size + 1, 0, none⟩ (.bool false) D (by show D ≠ w.heap.size + 1; omega)).trans hK
    have e1 := ((b1.set 0 (.bool false)).putDone (o' := .deferred none) hK2).cell_at 0 rfl
    have hB2 := hB.setCell (p := ⟨w.heap.size + 1, 0, none⟩) (by show w.heap.size ≤ w.heap.size + 1; omega) (.bool false)
    refine ⟨by simp, .inl ⟨_, _, rfl, run_takeDeferred hK2, ?_⟩⟩
    refine ⟨.bool false, by simp [results, Tryd.f47, go_sem, e1], by rw [← HR.out, HA.out], HPP.out _ (hB2.trans (belowK_b (w := w) (Nat.le_refl _) _ D _ _ (by omega) hK2 rfl rfl))⟩
  case stop =>
    rintro D c W hD ⟨⟨b1, hB⟩, rfl, hA⟩ hK
    have HA := Lib.hid hA
    clear hA
    have e1 := (b1.putDone (o' := .deferred none) hK).cell_at 0 rfl
    gi_wp2_with fail
    refine ⟨by simp, .inl ⟨_, _, rfl, run_takeDeferred hK, ?_⟩⟩
    refine ⟨.bool true, by simp [results, Tryd.f47, go_sem, e1], by rw [← HR.out, HA.out], HPP.out _ (hB.trans (belowK_b (w := w) (Nat.le_refl _) _ D _ _ (by omega) hK rfl rfl))⟩

set_option maxRecDepth 100000 in
set_option maxHeartbeats 4000000 in
theorem someFlank_P {n : Nat} (hP : Firm n P) (hn : n ≤ w.heap.size) {lb : Array Value} {xs : List (Int × Int × Int × Int)} {R : Nat → Prop} {w0 : World} (hit : Iter Tryd.prog 83 lb (fun x : Int × Int × Int × Int => #[(flkV x.1 x.2.1 x.2.2.1 x.2.2.2)]) xs R w0) (hw0 : Keeps R w0 w) (hRl : ∀ k, R k → k < w.heap.size) (p0 : Value) {pr : Int × Int × Int × Int → Bool} {r : Bool}
    (hf : ∀ x ∈ xs, ∀ W, P W → Calls Tryd.prog 39 #[(flkV x.1 x.2.1 x.2.2.1 x.2.2.2), p0] W fun e w' => e = .returned (.bool (pr x)) ∧ P w' ∧ Below W.heap.size W w') (hr : xs.any pr = r) (h : P w) :
    Calls Tryd.prog 49 #[.func (.func 83) #[] lb, .func (.func 39) #[] #[p0]] w fun e w' => e = .returned (.bool r) ∧ P w' := by
  have HF := Lib.hid hf
  have HR := Lib.hid hr
  have HPP := Lib.hid (fun W (hB : Below w.heap.size w W) => hP.closed _ _ h hB)
  clear hf hr
  refine (callsIn_wide (n := 5)).1 ?_
  refine callsIn_of_wp_marks Tryd.func49 rfl trivial ?_ rfl
  simp only [Tryd.ntmps49, List.size_toArray, List.length_cons, List.length_nil, Nat.reduceAdd, Nat.reduceSub, Array.replicate_succ, Array.replicate_zero, List.push_toArray, List.append_toArray, List.nil_append, List.cons_append]
  gi_wp2_with fail
  obtain ⟨W0, hW0, hsz, hB0, b0, b1⟩ : ∃ W0, ((w.alloc (.cells #[.func (.func 39) #[] #[p0]] 72)).alloc (.cells #[.bool false] 4)) = W0 ∧ W0.heap.size = w.heap.size + 2 ∧ Below w.heap.size w W0 ∧ Whole W0 w.heap.size 72 [.func (.func 39) #[] #[p0]] ∧ Whole W0 (w.heap.size + 1) 4 [.bool false] :=
    ⟨_, rfl, by simp, below2 _ _ _, (Whole.new w _ [_]).alloc _, Whole.new_at _ _ [_] _ (by simp)⟩
  rw [hW0]
  have hp0 := hP.closed _ _ h hB0
  clear hW0
  refine range_iter (gf := 83) rfl (enters_of Tryd.func83 (by kernel_rfl) rfl) hit (hw0.trans (Keeps.below hB0)) (fun k hk => by have := hRl k hk; omega) (fun _ => rfl) (by omega)
    (fun k => k = w.heap.size + 1) (fun k hk e => by have := hRl k e; omega) (fun k hk => by omega)
    (fun j W => ((Whole W w.heap.size 72 [.func (.func 39) #[] #[p0]] ∧ Whole W (w.heap.size + 1) 4 [.bool false]) ∧ Below w.heap.size w W) ∧ (P W ∧ Hid (NoneUp pr xs j)))
    (fun c W => (Whole W (w.heap.size + 1) 4 [.bool true] ∧ Below w.heap.size w W) ∧ (c = .ret ∧ xs.any pr = true))
    (OwnFrom.and (OwnFrom.and (OwnFrom.and (Own.from (fun s X Y row hs hg hr => hs.abides hg hr) _) (Own.from (fun s X Y row hs hg hr => hs.abides hg hr) _)) (ownFrom_below (Nat.le_refl _) (by omega))) (OwnFrom.and (hP.own (by omega)) (ownFrom_pure _ _)))
    (fun c => OwnFrom.and (OwnFrom.and (Own.from (fun s X Y row hs hg hr => hs.abides hg hr) _) (ownFrom_below (Nat.le_refl _) (by omega))) (ownFrom_pure _ _))
    ⟨⟨⟨b0, b1⟩, hB0⟩, hp0, Lib.hid (NoneUp.zero _ _)⟩
    (fun _ x a' W => ∃ Bx, w.heap.size + 1 < Bx ∧ Whole W Bx 55 (flkCells x) ∧ a' = { tmps := #[.func (.func 83) #[] lb, .func (.func 39) #[] #[p0], undef, .pointer (some ⟨w.heap.size, 0, none⟩), .pointer (some ⟨w.heap.size + 1, 0, none⟩), .pointer (some ⟨Bx, 0, none⟩), .func (.func 83) #[] lb, (flkV x.1 x.2.1 x.2.2.1 x.2.2.2), undef, undef, undef], defers := [] })
    (fun _ x a' _ X Y row hs hg hr => by obtain ⟨Bx, h1, h2, h3⟩ := hs; exact ⟨Bx, h1, h2.abides hg (fun r e => (hr r e).2), h3⟩)
    ?assign ?body ?done ?stop
  case assign =>
    rintro l j x W K hx ⟨⟨⟨b0, b1⟩, hB⟩, hp, HN⟩ hK
    gi_wp2_with fail
    exact hK _ _ (Off.below (below1 _ _)) ⟨⟨⟨b0.alloc _, b1.alloc _⟩, hB.alloc hB.size _⟩, hP.closed _ _ hp (below1 _ _), HN⟩ ⟨W.heap.size, b1.lt, Whole.new W _ (flkCells _), rfl⟩
  case body =>
    rintro l j x a' W hl hx ⟨⟨⟨b0, b1⟩, hB⟩, hp, HN⟩ ⟨Bx, hBx, bX, rfl⟩
    have HX := Lib.hid hx
    have HM := Lib.hid (List.mem_of_getElem? hx)
    clear hx
    have c0 := b0.cell_at 0 rfl
    have x0 := bX.cell_at 0 rfl
    have x1 := bX.cell_at 1 rfl
    have x2 := bX.cell_at 2 rfl
    have x3 := bX.cell_at 3 rfl
    gi_wp2_with fail
    refine ⟨trivial, (CallsIn.inRound _ (callsIn_wide.2 (HF.out x HM.out _ hp))).mono ?_⟩
    clear c0 x0 x1 x2 x3
    cases hpr : pr x
    · have HN1 := Lib.hid (HN.out.succ HX.out hpr)
      clear hpr
      rintro e w3 ⟨rfl, hp3, hB3⟩
      gi_wp2_with fail
      exact ⟨Off.below hB3, ⟨⟨b0.below hB3 b0.lt, b1.below hB3 b1.lt⟩, hB.trans (hB3.mono hB.size)⟩, hp3, HN1⟩
    · have HA := Lib.hid (any_hit HX.out hpr)
      clear hpr
      rintro e w3 ⟨rfl, hp3, hB3⟩
      have b1' := b1.below hB3 b1.lt
      have f1 := b1'.frozen 0
      have c1 := b1'.cell_at 0 rfl
      gi_wp2_with fail
      exact ⟨(Off.below hB3).trans (Off.set (p := ⟨w.heap.size + 1, 0, none⟩) _ _ rfl), ⟨b1'.set 0 (.bool true), (hB.trans (hB3.mono hB.size)).setCell (p := ⟨w.heap.size + 1, 0, none⟩) (by show w.heap.size ≤ w.heap.size + 1; omega) _⟩, rfl, HA.out⟩
  case done =>
    rintro D W hD ⟨⟨⟨b0, b1⟩, hB⟩, hp, HN⟩ hK
    have HA := Lib.hid HN.out.any
    have f1 := b1.frozen 0
    have c1 := b1.cell_at 0 rfl
    gi_wp2_with fail
    have hK2 := (Below.heap_setCell W ⟨w.heap.size + 1, 0, none⟩ (.bool false) D (by show D ≠ w.heap.size + 1; omega)).trans hK
    have e1 := ((b1.set 0 (.bool false)).putDone (o' := .deferred none) hK2).cell_at 0 rfl
    have hB2 := hB.setCell (p := ⟨w.heap.size + 1, 0, none⟩) (by show w.heap.size ≤ w.heap.size + 1; omega) (.bool false)
    refine ⟨by simp, .inl ⟨_, _, rfl, run_takeDeferred hK2, ?_⟩⟩
    refine ⟨.bool false, by simp [results, Tryd.f49, go_sem, e1], by rw [← HR.out, HA.out], HPP.out _ (hB2.trans (belowK_b (w := w) (Nat.le_refl _) _ D _ _ (by omega) hK2 rfl rfl))⟩
  case stop =>
    rintro D c W hD ⟨⟨b1, hB⟩, rfl, hA⟩ hK
    have HA := Lib.hid hA
    clear hA
    have e1 := (b1.putDone (o' := .deferred none) hK).cell_at 0 rfl
    gi_wp2_with fail
    refine ⟨by simp, .inl ⟨_, _, rfl, run_takeDeferred hK, ?_⟩⟩
    refine ⟨.bool true, by simp [results, Tryd.f49, go_sem, e1], by rw [← HR.out, HA.out], HPP.out _ (hB.trans (belowK_b (w := w) (Nat.le_refl _) _ D _ _ (by omega) hK rfl rfl))⟩
end
end Go.Proofs.YtbalcbnlpgekaaaDoor
