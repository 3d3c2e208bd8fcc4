/- Package held: which needs still hold (stillHolds), the needs and the sections one by one. -/
import Derived.RangeFuncNested
import Derived.RangeFuncBound
import Derived.RangeFuncCalls
import Derived.RangeFuncLeaves
import Derived.RangeFuncBox
import Derived.Shelf.Abstract
import Derived.Shelf.RegionOpen
import Derived.WalkKit
import Derived.OwnWalkIn
import Derived.TacticsInMore
import Derived.LoopNIn
import Derived.LoopIn
import Derived.WalkMore
import Derived.Deep.CutRange
import Derived.Test.YtljpiafopbfdlaaQHlA
import Derived.Test.YtljpiafopbfdlaaQAf
import Derived.Test.YtljpiafopbfdlaaQAt
namespace Go.Proofs.Ytljpiafopbfdlaa
open Go.RowKit Go.Shelf
set_option linter.unusedVariables false
set_option linter.unusedSimpArgs false

set_option maxRecDepth 100000 in
set_option maxHeartbeats 8000000 in
theorem still1_any {h : Hld} {g1 g2 gb : Nat} {w : World} (b1 : Whole w g1 3 [.int .i64 (max h.gone 0)]) (b2 : Whole w g2 3 [.int .i64 (h.p.ss.length : Nat)]) (b3 : Whole w gb 28 h.cells) (x1 x2 x3 : Int) {r : Bool} (hr : h.still (x1, x2, x3) = r) :
    Calls Try.prog 64 #[stpV x1 x2 x3, .pointer (some ⟨g1, 0, none⟩), .pointer (some ⟨g2, 0, none⟩), .pointer (some ⟨gb, 0, none⟩)] w fun e w' => e = .returned (.bool r) ∧ Below w.heap.size w w' := by
  have hB := below1 w (.cells #[.int .i64 x1, .int .i64 x2, .int .i64 x3] 40)
  have hb0 := Whole.new w 40 [.int .i64 x1, .int .i64 x2, .int .i64 x3]
  have c1 := (b1.below hB b1.lt).cell_at 0 rfl
  have c2 := (b2.below hB b2.lt).cell_at 0 rfl
  obtain ⟨b, hb⟩ : ∃ b, h.op = b := ⟨_, rfl⟩
  have c20 : (w.alloc (.cells #[.int .i64 x1, .int .i64 x2, .int .i64 x3] 40)).cell? ⟨gb, 20, none⟩ = some (.bool b) := by rw [← hb]; exact (b3.below hB b3.lt).cell_at 20 rfl
  have y2 := hb0.cell_at 2 rfl
  obtain ⟨m, hm⟩ : ∃ m, max h.gone 0 = m := ⟨_, rfl⟩
  obtain ⟨n, hn⟩ : ∃ n, h.p.ss.length = n := ⟨_, rfl⟩
  have HR : Hid ((decide (m ≤ x3) && !(x3 == (n : Int) && b)) = r) := Lib.hid (by rw [← hr, Hld.still, hm, hn, hb])
  rw [hm] at c1
  rw [hn] at c2
  have HB := Lib.hid hB
  clear hB hb0 b1 b2 b3 hr hb hm hn
  by_cases h1 : m ≤ x3
  · by_cases h2 : x3 = (n : Int)
    · subst h2
      have HE : Hid ((!b) = r) := Lib.hid (by rw [← HR.out]; simp [h1])
      clear HR
      cases b
      all_goals
        go_enter Try.func64, Try.ntmps64
        go_wp2_with fail
        go_ret
        exact ⟨ret_bool HE.out, HB.out⟩
    · have d2 : (x3 == (n : Int)) = false := by simp [h2]
      have HE : Hid (true = r) := Lib.hid (by rw [← HR.out, d2]; simp [h1])
      clear HR
      go_enter Try.func64, Try.ntmps64
      go_wp2_with fail
      go_ret
      exact ⟨ret_bool HE.out, HB.out⟩
  · have HE : Hid (false = r) := Lib.hid (by rw [← HR.out]; simp [h1])
    clear HR
    go_enter Try.func64, Try.ntmps64
    go_wp2_with fail
    go_ret
    exact ⟨ret_bool HE.out, HB.out⟩
/-- What tells whether a need still holds, and what it holds: blocks from n on. -/
structure StillAt (h : Hld) (n : Nat) (v : Value) (w : World) : Prop where
  at' : ∃ g1 g2 gb : Nat, v = .func (.func 64) #[] #[.pointer (some ⟨g1, 0, none⟩), .pointer (some ⟨g2, 0, none⟩), .pointer (some ⟨gb, 0, none⟩)] ∧ n ≤ g1 ∧ n ≤ g2 ∧ n ≤ gb ∧ Whole w g1 3 [.int .i64 (max h.gone 0)] ∧ Whole w g2 3 [.int .i64 (h.p.ss.length : Nat)] ∧ Whole w gb 28 h.cells
theorem StillAt.closed (h : Hld) (n : Nat) (v : Value) : Closed (StillAt h n v) := fun w w' ⟨g1, g2, gb, hv, n1, n2, n3, h1, h2, h3⟩ hb => ⟨g1, g2, gb, hv, n1, n2, n3, h1.below hb h1.lt, h2.below hb h2.lt, h3.below hb h3.lt⟩
set_option maxRecDepth 100000 in
set_option maxHeartbeats 8000000 in
theorem stillHolds_any {h : Hld} (w : World) : Calls Try.prog 52 #[h.val] w fun e w' => ∃ v, e = .returned v ∧ StillAt h w.heap.size v w' ∧ Below w.heap.size w w' := by
  obtain ⟨Q, HQ, HQb, HQh, hq⟩ := keep_h (Closed.below w) (Below.refl _ w) h
  obtain ⟨W0, hW0⟩ : ∃ W0, w.alloc (.cells h.cells.toArray 28) = W0 := ⟨_, rfl⟩
  have hs0 : w.heap.size ≤ W0.heap.size := by rw [← hW0]; simp
  rw [hW0] at hq
  have HW0 := Lib.hid hW0
  obtain ⟨m, hm⟩ : ∃ m, max h.gone 0 = m := ⟨_, rfl⟩
  obtain ⟨n, hn⟩ : ∃ n, h.p.ss.length = n := ⟨_, rfl⟩
  have HM : Hid (max h.gone 0 = m) := Lib.hid hm
  have HN : Hid (h.p.ss.length = n) := Lib.hid hn
  have HX : Hid (∀ W, Q W → W.cell? ⟨w.heap.size, 7, none⟩ = some (.int .i64 h.gone) ∧ W.cell? ⟨w.heap.size, 3, none⟩ = some (.slice h.p.A n h.p.c)) := Lib.hid fun W hW => ⟨(HQh.out W hW).cell_at 7 rfl, by rw [← hn]; exact (HQh.out W hW).cell_at 3 rfl⟩
  clear hW0 hm hn
  go_enter Try.func52, Try.ntmps52
  go_upto_region 1 with (fail)
  rw [HW0.out]
  clear HW0
  have HBS : Hid (∀ W, Below W0.heap.size W0 W → Q W) := Lib.hid (fun W hB => HQ.out _ _ hq hB)
  refine region_tree (fun W => Below W0.heap.size W0 W) (.fork [(0, false), (1, false), (2, false), (3, false), (4, false), (5, false), (6, false)] 7 8 (.last [(8, true), (9, true), (10, true)]) (.last [(7, true), (9, true), (10, true)])) (by kernel_rfl) (by kernel_rfl) (fun W => Below W0.heap.size W0 W) ⟨Closed.below W0, fun _ h => h⟩ (Below.refl _ _).drew ?_
  simp only [wpTree, pickOps, List.getElem?_cons_zero, List.getElem?_cons_succ]
  repeat (first | (refine mix_read _ (by rfl) (fun W hW => by (obtain ⟨x7, x3⟩ := HX.out W (HBS.out W hW); have hm := HM.out; go_simp; first | done | with_reducible rfl)) ?_; simp only [Act.put, List.setIfInBounds_toArray, List.set_cons_zero, List.set_cons_succ]))
  refine mix_nil (fun hF => ⟨?_, ?_⟩)
  · refine mix_alloc W0.heap.size 3 [.int .i64 0] ⟨Closed.below W0, fun _ h => h⟩ (fun W hW => hW.size) (by rfl) (fun W hW => by (clear hW; go_simp; first | done | with_reducible rfl)) (fun g1 hg1 => ?_)
    simp only [Act.put, List.setIfInBounds_toArray, List.set_cons_zero, List.set_cons_succ]
    refine mix_nil ?_
    refine mix_alloc (g1 + 1) 3 [.int .i64 0] ⟨(Closed.below W0).and (Closed.whole _ _ _), fun _ h => h.1⟩ (fun W hW => hW.2.lt) (by rfl) (fun W hW => by (clear hW; go_simp; first | done | with_reducible rfl)) (fun g2 hg2 => ?_)
    simp only [Act.put, List.setIfInBounds_toArray, List.set_cons_zero, List.set_cons_succ]
    refine mix_store (fun W => Below W0.heap.size W0 W ∧ Whole W g1 3 [.int .i64 m] ∧ Whole W g2 3 [.int .i64 0]) (fun W => W.setCell ⟨g1, 0, none⟩ (.int .i64 m)) ⟨(Closed.below W0).and ((Closed.whole _ _ _).and (Closed.whole _ _ _)), fun _ h => h.1⟩ (by rfl)
      (fun W hW => by (obtain ⟨hB, b1, b2⟩ : Below W0.heap.size W0 W ∧ Whole W g1 3 [.int .i64 0] ∧ Whole W g2 3 [.int .i64 0] := ⟨hW.1.1, hW.1.2, hW.2⟩; have c0 := b1.cell_at 0 rfl; have f0 := b1.frozen 0; clear hW hB b1 b2; go_simp; first | done | rfl))
      (fun W hW => by
        obtain ⟨hB, b1, b2⟩ : Below W0.heap.size W0 W ∧ Whole W g1 3 [.int .i64 0] ∧ Whole W g2 3 [.int .i64 0] := ⟨hW.1.1, hW.1.2, hW.2⟩
        exact ⟨hB.setCell (p := ⟨g1, 0, none⟩) (by show _ ≤ g1; omega) _, b1.set 0 _, b2.far (p := ⟨g1, 0, none⟩) (by show g2 ≠ g1; omega) _⟩) ?_
    simp only [Act.put, List.setIfInBounds_toArray, List.set_cons_zero, List.set_cons_succ]
    refine mix_store (fun W => Below W0.heap.size W0 W ∧ Whole W g1 3 [.int .i64 m] ∧ Whole W g2 3 [.int .i64 (n : Nat)]) (fun W => W.setCell ⟨g2, 0, none⟩ (.int .i64 (n : Nat))) ⟨(Closed.below W0).and ((Closed.whole _ _ _).and (Closed.whole _ _ _)), fun _ h => h.1⟩ (by rfl)
      (fun W hW => by (have c0 := hW.2.2.cell_at 0 rfl; have f0 := hW.2.2.frozen 0; clear hW; go_simp; first | done | rfl)) (fun W hW => ⟨hW.1.setCell (p := ⟨g2, 0, none⟩) (by show _ ≤ g2; omega) _, hW.2.1.far (p := ⟨g2, 0, none⟩) (by show g1 ≠ g2; omega) _, hW.2.2.set 0 _⟩) ?_
    simp only [Act.put, List.setIfInBounds_toArray, List.set_cons_zero, List.set_cons_succ]
    refine mix_nil (fun W hW => ?_)
    have hq := HBS.out W hW.1
    have HE : Hid (StillAt h w.heap.size (.func (.func 64) #[] #[.pointer (some ⟨g1, 0, none⟩), .pointer (some ⟨g2, 0, none⟩), .pointer (some ⟨w.heap.size, 0, none⟩)]) W) := Lib.hid ⟨g1, g2, w.heap.size, rfl, by omega, by omega, Nat.le_refl _, by rw [HM.out]; exact hW.2.1, by rw [HN.out]; exact hW.2.2, HQh.out _ hq⟩
    have HB := Lib.hid (HQb.out _ hq)
    clear hW hq HBS HX
    go_wp2_with fail
    go_ret
    exact ⟨_, rfl, HE.out, HB.out⟩
  · refine mix_alloc W0.heap.size 3 [.int .i64 0] ⟨Closed.below W0, fun _ h => h⟩ (fun W hW => hW.size) (by rfl) (fun W hW => by (clear hW; go_simp; first | done | with_reducible rfl)) (fun g2 hg2 => ?_)
    simp only [Act.put, List.setIfInBounds_toArray, List.set_cons_zero, List.set_cons_succ]
    refine mix_nil ?_
    refine mix_alloc (g2 + 1) 3 [.int .i64 0] ⟨(Closed.below W0).and (Closed.whole _ _ _), fun _ h => h.1⟩ (fun W hW => hW.2.lt) (by rfl) (fun W hW => by (clear hW; go_simp; first | done | with_reducible rfl)) (fun g1 hg1 => ?_)
    simp only [Act.put, List.setIfInBounds_toArray, List.set_cons_zero, List.set_cons_succ]
    refine mix_store (fun W => Below W0.heap.size W0 W ∧ Whole W g1 3 [.int .i64 m] ∧ Whole W g2 3 [.int .i64 0]) (fun W => W.setCell ⟨g1, 0, none⟩ (.int .i64 m)) ⟨(Closed.below W0).and ((Closed.whole _ _ _).and (Closed.whole _ _ _)), fun _ h => h.1⟩ (by rfl)
      (fun W hW => by (obtain ⟨hB, b1, b2⟩ : Below W0.heap.size W0 W ∧ Whole W g1 3 [.int .i64 0] ∧ Whole W g2 3 [.int .i64 0] := ⟨hW.1.1, hW.2, hW.1.2⟩; have c0 := b1.cell_at 0 rfl; have f0 := b1.frozen 0; clear hW hB b1 b2; go_simp; first | done | rfl))
      (fun W hW => by
        obtain ⟨hB, b1, b2⟩ : Below W0.heap.size W0 W ∧ Whole W g1 3 [.int .i64 0] ∧ Whole W g2 3 [.int .i64 0] := ⟨hW.1.1, hW.2, hW.1.2⟩
        exact ⟨hB.setCell (p := ⟨g1, 0, none⟩) (by show _ ≤ g1; omega) _, b1.set 0 _, b2.far (p := ⟨g1, 0, none⟩) (by show g2 ≠ g1; omega) _⟩) ?_
    simp only [Act.put, List.setIfInBounds_toArray, List.set_cons_zero, List.set_cons_succ]
    refine mix_store (fun W => Below W0.heap.size W0 W ∧ Whole W g1 3 [.int .i64 m] ∧ Whole W g2 3 [.int .i64 (n : Nat)]) (fun W => W.setCell ⟨g2, 0, none⟩ (.int .i64 (n : Nat))) ⟨(Closed.below W0).and ((Closed.whole _ _ _).and (Closed.whole _ _ _)), fun _ h => h.1⟩ (by rfl)
      (fun W hW => by (have c0 := hW.2.2.cell_at 0 rfl; have f0 := hW.2.2.frozen 0; clear hW; go_simp; first | done | rfl)) (fun W hW => ⟨hW.1.setCell (p := ⟨g2, 0, none⟩) (by show _ ≤ g2; omega) _, hW.2.1.far (p := ⟨g2, 0, none⟩) (by show g1 ≠ g2; omega) _, hW.2.2.set 0 _⟩) ?_
    simp only [Act.put, List.setIfInBounds_toArray, List.set_cons_zero, List.set_cons_succ]
    refine mix_nil (fun W hW => ?_)
    have hq := HBS.out W hW.1
    have HE : Hid (StillAt h w.heap.size (.func (.func 64) #[] #[.pointer (some ⟨g1, 0, none⟩), .pointer (some ⟨g2, 0, none⟩), .pointer (some ⟨w.heap.size, 0, none⟩)]) W) := Lib.hid ⟨g1, g2, w.heap.size, rfl, by omega, by omega, Nat.le_refl _, by rw [HM.out]; exact hW.2.1, by rw [HN.out]; exact hW.2.2, HQh.out _ hq⟩
    have HB := Lib.hid (HQb.out _ hq)
    clear hW hq HBS HX
    go_wp2_with fail
    go_ret
    exact ⟨_, rfl, HE.out, HB.out⟩

/-- What gives the needs that still hold. -/
structure NeedsAt (h : Hld) (n1 n2 : Nat) (g gf : Nat) (w : World) : Prop where
  gl : n1 ≤ g ∧ g < n2
  fl : n1 ≤ gf ∧ gf < n2
  box : Whole w g 28 h.cells
  fn : ∃ v, Whole w gf 60 [v] ∧ ∃ g1 g2 gb : Nat, v = .func (.func 64) #[] #[.pointer (some ⟨g1, 0, none⟩), .pointer (some ⟨g2, 0, none⟩), .pointer (some ⟨gb, 0, none⟩)] ∧ (n1 ≤ g1 ∧ g1 < n2) ∧ (n1 ≤ g2 ∧ g2 < n2) ∧ (n1 ≤ gb ∧ gb < n2) ∧
    Whole w g1 3 [.int .i64 (max h.gone 0)] ∧ Whole w g2 3 [.int .i64 (h.p.ss.length : Nat)] ∧ Whole w gb 28 h.cells
theorem NeedsAt.keeps {h : Hld} {n1 n2 g gf : Nat} {w w' : World} {R : Nat → Prop} (hn : NeedsAt h n1 n2 g gf w) (hk : Keeps R w w') (hR : ∀ k, n1 ≤ k ∧ k < n2 → R k) : NeedsAt h n1 n2 g gf w' := by
  obtain ⟨a, b, c, v, d, g1, g2, gb, hv, e1, e2, e3, f1, f2, f3⟩ := hn
  exact ⟨a, b, hk.whole (hR _ a) c, v, hk.whole (hR _ b) d, g1, g2, gb, hv, e1, e2, e3, hk.whole (hR _ e1) f1, hk.whole (hR _ e2) f2, hk.whole (hR _ e3) f3⟩
set_option maxRecDepth 100000 in
set_option maxHeartbeats 8000000 in
theorem needs_any {h : Hld} (w : World) : Calls Try.prog 31 #[h.val] w fun e w' => ∃ g gf : Nat, e = .returned (.func (.func 53) #[] #[.pointer (some ⟨g, 0, none⟩), .pointer (some ⟨gf, 0, none⟩)]) ∧ NeedsAt h w.heap.size w'.heap.size g gf w' ∧ Below w.heap.size w w' := by
  obtain ⟨Q, HQ, HQb, HQh, hq⟩ := keep_h (Closed.below w) (Below.refl _ w) h
  obtain ⟨W0, hW0⟩ : ∃ W0, w.alloc (.cells h.cells.toArray 28) = W0 := ⟨_, rfl⟩
  have hs0 : W0.heap.size = w.heap.size + 1 := by rw [← hW0]; simp
  rw [hW0] at hq
  have HW0 := Lib.hid hW0
  have HS0 := Lib.hid hs0
  clear hW0 hs0
  go_enter Try.func31, Try.ntmps31
  go_upto_region 1 with (fail)
  rw [HW0.out]
  clear HW0
  apply wp_region_lit
  repeat (first | (refine wpList_skip (by rfl) ?_; simp only [Act.put, List.setIfInBounds_toArray, List.set_cons_zero, List.set_cons_succ]) | (refine wpList_read _ (by rfl) (exec_hld (by rfl) (by rfl) (HQh.out _ hq)) ?_; simp only [Act.put, List.setIfInBounds_toArray, List.set_cons_zero, List.set_cons_succ]) | (refine wpList_read _ (by rfl) (by (go_simp; first | done | with_reducible rfl)) ?_; simp only [Act.put, List.setIfInBounds_toArray, List.set_cons_zero, List.set_cons_succ]))
  refine wpList_calle (by rfl) (by (go_simp; first | done | rfl)) (stillHolds_any _) (fun v w1 hB1 => ?_)
  simp only [Act.put, List.setIfInBounds_toArray, List.set_cons_zero, List.set_cons_succ]
  obtain ⟨hst, hB1⟩ := hB1
  replace hq := HQ.out _ _ hq hB1
  obtain ⟨g1, g2, gb, rfl, l1, l2, l3, b1, b2, b3⟩ := hst
  obtain ⟨fv, hfv⟩ : ∃ v, v = Value.func (.func 64) #[] #[.pointer (some ⟨g1, 0, none⟩), .pointer (some ⟨g2, 0, none⟩), .pointer (some ⟨gb, 0, none⟩)] := ⟨_, rfl⟩
  have hB3 := below1 w1 (.cells #[fv] 60)
  have HE : Hid (NeedsAt h w.heap.size (w1.alloc (.cells #[fv] 60)).heap.size w.heap.size w1.heap.size (w1.alloc (.cells #[fv] 60))) := Lib.hid (by
    have hs := (HQb.out _ hq).size
    have l4 := b1.lt
    have l5 := b2.lt
    have l6 := b3.lt
    have l7 := (HQh.out _ hq).lt
    have l0 := HS0.out
    have e : (w1.alloc (.cells #[fv] 60)).heap.size = w1.heap.size + 1 := by simp
    rw [e]
    exact ⟨⟨Nat.le_refl _, by omega⟩, ⟨by omega, by omega⟩, (HQh.out _ hq).alloc _, fv, Whole.new w1 _ [fv], g1, g2, gb, hfv, ⟨by omega, by omega⟩, ⟨by omega, by omega⟩, ⟨by omega, by omega⟩, b1.alloc _, b2.alloc _, b3.alloc _⟩)
  have HB := Lib.hid ((HQb.out _ hq).trans (hB3.mono (HQb.out _ hq).size))
  clear hB1 b1 b2 b3 hB3 l1 l2 l3 hq
  subst hfv
  go_wp2_with fail
  go_ret
  exact ⟨_, _, rfl, HE.out, HB.out⟩
set_option maxRecDepth 100000 in
set_option maxHeartbeats 8000000 in
theorem sections_any {h : Hld} (w : World) : Calls Try.prog 29 #[h.val] w fun e w' => e = .returned (.func (.func 49) #[] #[.pointer (some ⟨w.heap.size, 0, none⟩)]) ∧ w' = w.alloc (.cells h.cells.toArray 28) := by
  go_enter Try.func29, Try.ntmps29
  go_wp2_with fail
  go_ret
  exact ⟨rfl, rfl⟩

/-- The steps' sections, part by part: the path's, then the overlap's. -/
def partS (h : Hld) (j : Nat) : List (Int × Int × Int) := if j = 0 then h.path else h.lap
def partA (h : Hld) (j : Nat) : Option Addr := if j = 0 then pathA h else lapA h
def partC (h : Hld) (j : Nat) : Nat := if j = 0 then h.p.c - h.gn else lapC h
def offS (h : Hld) (j : Nat) : Nat := if j = 0 then 0 else if j = 1 then h.path.length else h.path.length + h.lap.length
theorem off_next {h : Hld} {j : Nat} (hj : j < 2) : offS h j + (partS h j).length = offS h (j + 1) := by
  match j, hj with
  | 0, _ => simp [offS, partS]
  | 1, _ => simp [offS, partS]
theorem off_end (h : Hld) : offS h 2 = h.secs.length := by rw [secs_len]; rfl
theorem part_at {h : Hld} {j k : Nat} {x : Int × Int × Int} (hj : j < 2) (hx : (partS h j)[k]? = some x) : h.secs[offS h j + k]? = some x.1 := by
  have hk := (List.getElem?_eq_some_iff.1 hx).1
  match j, hj with
  | 0, _ =>
    show (secsS h.path ++ secsS h.lap)[0 + k]? = _
    have hk' : k < h.path.length := hk
    have hx' : h.path[k]? = some x := hx
    rw [Nat.zero_add, List.getElem?_append_left (by simpa using hk')]
    simp [hx']
  | 1, _ =>
    show (secsS h.path ++ secsS h.lap)[h.path.length + k]? = _
    have hx' : h.lap[k]? = some x := hx
    rw [List.getElem?_append_right (by simp)]
    simp [hx']
theorem part_cell {h : Hld} {j : Nat} (hj : j < 2) : [pathV h, lapV h][j]? = some (.slice (partA h j) (partS h j).length (partC h j)) := by
  match j, hj with
  | 0, _ => rfl
  | 1, _ => rfl
theorem part_row {h : Hld} {w : World} {B j : Nat} (hl : Row w B h.p.A (h.p.ss.flatMap stpCells)) (hc : h.p.ss.length ≤ h.p.c) (ho : Row w B h.oA (h.os.flatMap stpCells)) : Row w B (partA h j) ((partS h j).flatMap stpCells) := by
  unfold partA partS
  split
  · exact path_row hl hc
  · exact lap_row ho
theorem part_len {h : Hld} {j : Nat} (hl : (h.p.ss.length : Int) ≤ 9223372036854775807) (ho : (h.os.length : Int) ≤ 9223372036854775807) : ((partS h j).length : Int) ≤ 9223372036854775807 := by
  have h1 := path_len h
  have h2 := lap_le h
  unfold partS
  split <;> omega
set_option maxRecDepth 100000 in
set_option maxHeartbeats 32000000 in
theorem secs_iter {wa w0 : World} {g n1 n2 : Nat} {h : Hld} (hl : HLies h wa) (hka : Keeps (· < wa.heap.size) wa w0) (hg : n1 ≤ g ∧ g < n2) (hb : Whole w0 g 28 h.cells) :
    IterU Try.prog 49 #[.pointer (some ⟨g, 0, none⟩)] (fun x : Int => #[.int .i64 x]) h.secs (fun k => k < wa.heap.size ∨ (n1 ≤ k ∧ k < n2)) w0 := by
  intro L J Jx W hk0 hRl hJ hJx hY h0
  obtain ⟨R, hR⟩ : ∃ R : Nat → Prop, (fun k => k < wa.heap.size ∨ (n1 ≤ k ∧ k < n2)) = R := ⟨_, rfl⟩
  have HF : Hid (∀ W' j, Keeps R w0 W' → Row W' wa.heap.size (partA h j) ((partS h j).flatMap stpCells)) := Lib.hid fun W' j hk => by
    rw [← hR] at hk
    have hk' := hka.trans (hk.sub fun k h => .inl h)
    exact part_row (hl.pl.row.keeps hk' (fun _ h => h)) hl.pc (hl.orow.keeps hk' (fun _ h => h))
  have HG : Hid (∀ W', Keeps R w0 W' → Whole W' g 28 h.cells) := Lib.hid fun W' hk => hk.whole (by rw [← hR]; exact .inr hg) hb
  have HLN := Lib.hid hl.pl.len
  have HPL : Hid (∀ j, ((partS h j).length : Int) ≤ 9223372036854775807) := Lib.hid fun j => part_len hl.pl.len hl.olen
  rw [hR] at hk0 hRl hY
  obtain ⟨B, hB⟩ : ∃ B, W.heap.size = B := ⟨_, rfl⟩
  rw [hB] at hJ hJx hY hRl
  have HRl := Lib.hid hRl
  clear hR hka hb hRl hl hg
  refine (callsIn_wide (n := 3)).1 ?_
  refine callsIn_of_wp Try.func49 rfl trivial ?_ rfl
  simp only [Try.ntmps49, List.size_toArray, List.length_cons, List.length_nil, Nat.reduceAdd, Nat.reduceSub, Array.replicate_succ, Array.replicate_zero, List.push_toArray, List.append_toArray, List.nil_append, List.cons_append]
  refine wpIn_wide.2 ?_
  have HBK : Hid (∀ W', Below W.heap.size W W' → Keeps R w0 W') := Lib.hid fun W' hB => hk0.trans (Keeps.below hB)
  go_upto_region 0 with (fail)
  refine region_mix (Below W.heap.size W) [(0, false), (1, false), (2, false), (3, false), (6, false), (4, true), (5, false)] (by kernel_rfl) (by kernel_rfl) (Below W.heap.size W) ⟨Closed.below W, fun _ h => h⟩ (Below.refl _ _).drew ?_
  simp only [pickOps, List.getElem?_cons_zero, List.getElem?_cons_succ]
  repeat (first | (refine mix_read _ (by rfl) (fun W hW => exec_hld (by rfl) (by rfl) (HG.out W (HBK.out W hW))) ?_; simp only [Act.put, List.setIfInBounds_toArray, List.set_cons_zero, List.set_cons_succ]) | (refine mix_call _ _ _ (by rfl) (fun W hW => by (go_simp; first | done | rfl)) (fun W hW => path_any HLN.out W) ?_; simp only [Act.put, List.setIfInBounds_toArray, List.set_cons_zero, List.set_cons_succ]) | (refine mix_call _ _ _ (by rfl) (fun W hW => by (go_simp; first | done | rfl)) (fun W hW => overlap_any W) ?_; simp only [Act.put, List.setIfInBounds_toArray, List.set_cons_zero, List.set_cons_succ]) | (refine mix_read _ (by rfl) (fun W hW => by (clear hW; go_simp; first | done | with_reducible rfl)) ?_; simp only [Act.put, List.setIfInBounds_toArray, List.set_cons_zero, List.set_cons_succ]))
  refine mix_make (fun g => .slice (some ⟨g, 0, none⟩) 2 2) W.heap.size 22 [pathV h, lapV h] ⟨Closed.below W, fun _ h => h⟩ (fun W hW => hW.size) (by rfl) (fun W hW => by (clear hW; go_simp; first | done | rfl)) (fun gs hgs => ?_)
  simp only [Act.put, List.setIfInBounds_toArray, List.set_cons_zero, List.set_cons_succ]
  repeat (first | (refine mix_read _ (by rfl) (fun W hW => by (clear hW; go_simp; first | done | with_reducible rfl)) ?_; simp only [Act.put, List.setIfInBounds_toArray, List.set_cons_zero, List.set_cons_succ]))
  refine mix_nil (fun W1 hW => ?_)
  have hJ1 := hJ _ _ _ _ h0 (by rw [← hB]; exact Stays.below hW.1)
  have hk1 := HBK.out W1 hW.1
  have hgb := hW.2
  have HSZ : Hid (B ≤ gs) := Lib.hid (by rw [← hB]; exact hgs)
  clear hW hgs HBK h0 hk0 hB
  go_wp2_with fail
  refine (wpIn_wide (n := 3)).1 ?_
  obtain ⟨S2, HS2⟩ : ∃ l : List Value, Hid ([pathV h, lapV h] = l) := ⟨_, Lib.hid rfl⟩
  rw [HS2.out] at hgb
  gi_loopw [13] (fun i wr => ∃ (j : Nat) (U : Nat → Prop), j ≤ 2 ∧ i = .int .i64 j ∧ J U (offS h j) wr ∧ (∀ k, U k → k < wr.heap.size) ∧ Keeps R w0 wr ∧ Whole wr gs 22 S2 ∧ ¬ U gs)
    (fun i _ => 2 - (intOf i).toNat)
  case atStart => exact ⟨0, fun _ => False, by omega, rfl, hJ1, fun k h => h.elim, hk1, hgb, fun h => h⟩
  case round =>
    clear hJ1 hk1 hgb
    obtain ⟨j, U, hj, rfl, hJj, hUl, hk, hgb, hnU⟩ := hrel
    by_cases hlt : j < 2
    · have hlt' : (j : Int) < 2 := by omega
      have c0 := hgb.cell_at j (by rw [← HS2.out]; exact part_cell hlt)
      have HOF := Lib.hid (off_next (h := h) hlt)
      have HPA : Hid (∀ k x, (partS h j)[k]? = some x → h.secs[offS h j + k]? = some x.1) := Lib.hid fun k x => part_at hlt
      have HFJ : Hid (∀ W', Keeps R w0 W' → Row W' wa.heap.size (partA h j) ((partS h j).flatMap stpCells)) := Lib.hid fun W' => HF.out W' j
      have HPN := HPL.out j
      obtain ⟨A, hA⟩ : ∃ A, partA h j = A := ⟨_, rfl⟩
      obtain ⟨C, hC⟩ : ∃ C, partC h j = C := ⟨_, rfl⟩
      obtain ⟨ps, hps⟩ : ∃ ps, partS h j = ps := ⟨_, rfl⟩
      obtain ⟨m, hm⟩ : ∃ m, offS h j = m := ⟨_, rfl⟩
      obtain ⟨m', hm'⟩ : ∃ m', offS h (j + 1) = m' := ⟨_, rfl⟩
      rw [hps, hm, hm'] at HOF
      rw [hps, hm] at HPA
      rw [hA, hps] at HFJ
      rw [hps] at HPN
      rw [hA, hC, hps] at c0
      rw [hm] at hJj
      have HM' := Lib.hid hm'
      have HC0 : Hid (∀ W', Whole W' gs 22 S2 → W'.cell? ⟨gs, j, none⟩ = some (.slice A ps.length C)) := Lib.hid fun W' hb => by rw [← hA, ← hC, ← hps]; exact hb.cell_at j (by rw [← HS2.out]; exact part_cell hlt)
      clear hA hC hps hm hm'
      gi_wp2_with fail
      clear c0
      gi_loopw [19] (fun i wr => ∃ (k : Nat) (U : Nat → Prop), k ≤ ps.length ∧ i = .int .i64 k ∧ J U (m + k) wr ∧ (∀ k, U k → k < wr.heap.size) ∧ Keeps R w0 wr ∧ Whole wr gs 22 S2 ∧ ¬ U gs)
        (fun i _ => ps.length - (intOf i).toNat)
      case atStart => exact ⟨0, U, by omega, rfl, hJj, hUl, hk, hgb, hnU⟩
      case round =>
        clear hJj hUl hk hgb hnU
        obtain ⟨k, U, hkl, rfl, hJj, hUl, hk, hgb, hnU⟩ := hrel
        by_cases hkt : k < ps.length
        · have hkt' : (k : Int) < ps.length := by omega
          obtain ⟨⟨f1, f2, f3⟩, hx⟩ : ∃ x, ps[k]? = some x := ⟨_, List.getElem?_eq_getElem hkt⟩
          obtain ⟨b, off, hA, _, hc0, hc⟩ := (HFJ.out _ hk).nth (n := 3) (fun _ => rfl) (by omega) hx
          have HX := Lib.hid (HPA.out k _ hx)
          have c0 := hc0 k _ _ hx rfl
          have c1 := hc k _ 1 _ hx rfl
          have c2 := hc k _ 2 _ hx rfl
          clear hx hc0 hc
          have hb4 := below1 wr (.cells #[.int .i64 f1, .int .i64 f2, .int .i64 f3] 44)
          have hJ2 := hJ _ _ _ _ hJj (Stays.below hb4)
          have hk2 := hk.trans (Keeps.below hb4)
          have hU2 : ∀ k, U k → k < (wr.alloc (.cells #[.int .i64 f1, .int .i64 f2, .int .i64 f3] 44)).heap.size := fun k h => Nat.lt_of_lt_of_le (hUl k h) hb4.size
          have HGB := Lib.hid (And.intro (hgb.below hb4 hgb.lt) (And.intro hnU (hgb.below hb4 hgb.lt).lt))
          rw [hA]
          have HA := Lib.hid hA
          obtain ⟨fn, tmps, assign, body, hy, hR⟩ := hY U _ _ _ HX.out hJ2 hU2
          have HR := Lib.hid hR
          have HK2 := Lib.hid hk2
          clear hR hJ2 hk2 hJj hk hUl hb4 hA hgb hnU
          gi_wp2_with fail
          refine RoundIn.mono (RoundIn.wide HR.out) ?_
          clear HR hy c0 c1 c2
          rintro e W3 ⟨U', hg', hk', (⟨rfl, hJ3⟩ | ⟨rfl, hJx3⟩)⟩
          · have hk3 := HK2.out.trans hk'.keeps
            have hU3 := hg'.lt
            have hgb3 := hk'.whole HGB.out.1 HSZ.out HGB.out.2.1
            have hnU3 : ¬ U' gs := fun hu => (hg'.new _ hu).elim HGB.out.2.1 fun hs => by have := HGB.out.2.2; omega
            clear hg' hk' HK2
            gi_wp2_with fail
            go_roundw
            case rel => exact ⟨k + 1, U', hkt, by go_num, hJ3, hU3, hk3, hgb3, hnU3⟩
            case measure => simp [intOf]; omega
          · have hU3 := hg'.lt
            gi_wp2
            refine bodyPost_ret (results_none rfl _ _ _) rfl ?_
            exact ⟨⟨_, rfl⟩, U', hU3, .inr hJx3⟩
        · obtain rfl : k = ps.length := by omega
          rw [HOF.out] at hJj
          gi_wp2_with fail
          go_roundw
          case rel => exact ⟨j + 1, U, hlt, by go_num, by rw [HM'.out]; exact hJj, hUl, hk, hgb, hnU⟩
          case measure => simp [intOf]; omega
    · obtain rfl : j = 2 := by omega
      rw [off_end] at hJj
      gi_wp2_with fail
      go_end0
      exact ⟨⟨_, rfl⟩, U, hUl, .inl hJj⟩

end Go.Proofs.Ytljpiafopbfdlaa
