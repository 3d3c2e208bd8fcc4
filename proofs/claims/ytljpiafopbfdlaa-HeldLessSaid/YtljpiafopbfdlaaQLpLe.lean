/- HeldLess: for every input the Go function returns true. -/
import Derived.Deep.CutRange
import Derived.RangeFuncNested
import Derived.RangeFuncBound
import Derived.RangeFuncCalls
import Derived.RangeFuncLeaves
import Derived.RangeFuncBox
import Derived.Shelf.Abstract
import Derived.Shelf.RegionOpen
import Derived.WalkKit
import Derived.OwnWalkIn
import Derived.TacticsInMore
import Derived.LoopNIn
import Derived.LoopIn
import Derived.WalkMore
import Derived.Test.YtljpiafopbfdlaaQHlR
import Derived.Test.YtljpiafopbfdlaaQHlJ
import Derived.Test.YtljpiafopbfdlaaQHlS
import Derived.Test.YtljpiafopbfdlaaQHlN
import Derived.Test.YtljpiafopbfdlaaQHlT
import Derived.Test.YtljpiafopbfdlaaQLpAm
import Derived.Test.YtljpiafopbfdlaaQHlW
namespace Go.Proofs.Ytljpiafopbfdlaa
open Go.RowKit Go.Shelf
set_option linter.unusedVariables false
set_option linter.unusedSimpArgs false

/-- One that has gone on. -/
def Hld.go (h : Hld) (g : Int) (o : Bool) : Hld := { h with gone := g, op := o }
theorem HLies.go {h : Hld} {W : World} (hl : HLies h W) (g : Int) (o : Bool) : HLies (h.go g o) W := ⟨hl.pl, hl.pc, hl.orow, hl.olen, hl.oc, hl.nrow, hl.nlen, hl.nc⟩
theorem HWf.go {h : Hld} (hw : HWf h) (x : Rm) {g : Int} (hg : -9223372036854775808 ≤ g ∧ g ≤ 9223372036854775807) (o : Bool) : HWf ((h.re x).go g o) := ⟨hw.p, hw.o, hw.n, hg⟩
theorem Small.go {h : Hld} (hs : Small h) (x : Rm) (g : Int) (o : Bool) : Small ((h.re x).go g o) := ⟨hs.p, hs.o, hs.n⟩
theorem Small.re {h : Hld} (hs : Small h) (x : Rm) : Small (h.re x) := ⟨hs.p, hs.o, hs.n⟩
theorem later_go {a : Hld} (x : Rm) {g : Int} {o : Bool} (hg : a.gone ≤ g) (ho : a.op = true → o = true) : Later a ((a.re x).go g o) := ⟨rfl, rfl, rfl, hg, ho⟩
theorem gone_go {a : Hld} (hm : MayBe a) (x : Rm) : Gone ((a.re x).go a.p.ss.length true) := ⟨rfl, rfl, hm.k0⟩
set_option maxRecDepth 100000 in
set_option maxHeartbeats 32000000 in
theorem heldLess_walk (HWK : Hid (∀ W, Calls Try.prog 9 #[] W fun e w' => e = .returned (.bool true) ∧ Below W.heap.size W w')) {a b : Hld} (more : Int) (opn : Bool) {w : World} (ha : HLies a w) (hb : HLies b w) (wa : HWf a) (wb : HWf b) : Calls Try.prog 3 #[a.val, b.val, .int .i64 more, .bool opn] w fun e w' => e = .returned (.bool true) ∧ Below w.heap.size w w' := by
  obtain ⟨Q, HQ, HQb, HQa, HQc, hq⟩ := keep_h2 a b w
  obtain ⟨W0, hW0⟩ : ∃ W0, (w.alloc (.cells a.cells.toArray 28)).alloc (.cells b.cells.toArray 28) = W0 := ⟨_, rfl⟩
  rw [hW0] at hq
  have HW0 := Lib.hid hW0
  have HLa := Lib.hid fun W (hW : Q W) => ha.on (HQb.out W hW)
  have HLb := Lib.hid fun W (hW : Q W) => hb.on (HQb.out W hW)
  have HF := Lib.hid (And.intro wa wb)
  obtain ⟨sa, has⟩ : ∃ s, a.small = s := ⟨_, rfl⟩
  obtain ⟨sb, hbs⟩ : ∃ s, b.small = s := ⟨_, rfl⟩
  clear hW0 ha hb wa wb
  go_enter Try.func3, Try.ntmps3
  go_upto_region 1 with (fail)
  rw [HW0.out]
  clear HW0
  apply wp_region_lit
  repeat (first | (refine wpList_skip (by rfl) ?_; simp only [Act.put, List.setIfInBounds_toArray, List.set_cons_zero, List.set_cons_succ]) | (refine wpList_read _ (by rfl) (exec_move (by rfl) (by rfl)) ?_; simp only [Act.put, List.setIfInBounds_toArray, List.set_cons_zero, List.set_cons_succ]) | (refine wpList_read _ (by rfl) (exec_hld (by rfl) (by rfl) (HQa.out _ hq)) ?_; simp only [Act.put, List.setIfInBounds_toArray, List.set_cons_zero, List.set_cons_succ]) | (refine wpList_read _ (by rfl) (exec_hld (by rfl) (by rfl) (HQc.out _ hq)) ?_; simp only [Act.put, List.setIfInBounds_toArray, List.set_cons_zero, List.set_cons_succ]) | (refine wpList_read _ (by rfl) (by (go_simp; first | done | with_reducible rfl)) ?_; simp only [Act.put, List.setIfInBounds_toArray, List.set_cons_zero, List.set_cons_succ]))
  refine wpList_callv (by rfl) (by (go_simp; first | done | rfl)) (great_any (h := a) _ has) (fun yga hyga => ?_)
  simp only [Act.put, List.setIfInBounds_toArray, List.set_cons_zero, List.set_cons_succ]
  replace hq := HQ.out _ _ hq hyga
  clear hyga
  cases sa
  · repeat (first | (refine wpList_skip (by rfl) ?_; simp only [Act.put, List.setIfInBounds_toArray, List.set_cons_zero, List.set_cons_succ]) | (refine wpList_read _ (by rfl) (exec_move (by rfl) (by rfl)) ?_; simp only [Act.put, List.setIfInBounds_toArray, List.set_cons_zero, List.set_cons_succ]) | (refine wpList_read _ (by rfl) (exec_hld (by rfl) (by rfl) (HQa.out _ hq)) ?_; simp only [Act.put, List.setIfInBounds_toArray, List.set_cons_zero, List.set_cons_succ]) | (refine wpList_read _ (by rfl) (exec_hld (by rfl) (by rfl) (HQc.out _ hq)) ?_; simp only [Act.put, List.setIfInBounds_toArray, List.set_cons_zero, List.set_cons_succ]) | (refine wpList_read _ (by rfl) (by (go_simp; first | done | with_reducible rfl)) ?_; simp only [Act.put, List.setIfInBounds_toArray, List.set_cons_zero, List.set_cons_succ]))
    go_wp2_with fail
    refine (HWK.out _).mono ?_
    rintro e wk ⟨rfl, hwk⟩
    have HB := Lib.hid ((HQb.out _ hq).trans (hwk.mono (HQb.out _ hq).size))
    clear hwk
    go_wp2_with fail
    go_ret
    exact ⟨rfl, HB.out⟩
  have HSa := Lib.hid (small_iff.1 has)
  clear has
  repeat (first | (refine wpList_skip (by rfl) ?_; simp only [Act.put, List.setIfInBounds_toArray, List.set_cons_zero, List.set_cons_succ]) | (refine wpList_read _ (by rfl) (exec_move (by rfl) (by rfl)) ?_; simp only [Act.put, List.setIfInBounds_toArray, List.set_cons_zero, List.set_cons_succ]) | (refine wpList_read _ (by rfl) (exec_hld (by rfl) (by rfl) (HQa.out _ hq)) ?_; simp only [Act.put, List.setIfInBounds_toArray, List.set_cons_zero, List.set_cons_succ]) | (refine wpList_read _ (by rfl) (exec_hld (by rfl) (by rfl) (HQc.out _ hq)) ?_; simp only [Act.put, List.setIfInBounds_toArray, List.set_cons_zero, List.set_cons_succ]) | (refine wpList_read _ (by rfl) (by (go_simp; first | done | with_reducible rfl)) ?_; simp only [Act.put, List.setIfInBounds_toArray, List.set_cons_zero, List.set_cons_succ]))
  refine wpList_callv (by rfl) (by (go_simp; first | done | rfl)) (great_any (h := b) _ hbs) (fun ygb hygb => ?_)
  simp only [Act.put, List.setIfInBounds_toArray, List.set_cons_zero, List.set_cons_succ]
  replace hq := HQ.out _ _ hq hygb
  clear hygb
  cases sb
  · repeat (first | (refine wpList_skip (by rfl) ?_; simp only [Act.put, List.setIfInBounds_toArray, List.set_cons_zero, List.set_cons_succ]) | (refine wpList_read _ (by rfl) (exec_move (by rfl) (by rfl)) ?_; simp only [Act.put, List.setIfInBounds_toArray, List.set_cons_zero, List.set_cons_succ]) | (refine wpList_read _ (by rfl) (exec_hld (by rfl) (by rfl) (HQa.out _ hq)) ?_; simp only [Act.put, List.setIfInBounds_toArray, List.set_cons_zero, List.set_cons_succ]) | (refine wpList_read _ (by rfl) (exec_hld (by rfl) (by rfl) (HQc.out _ hq)) ?_; simp only [Act.put, List.setIfInBounds_toArray, List.set_cons_zero, List.set_cons_succ]) | (refine wpList_read _ (by rfl) (by (go_simp; first | done | with_reducible rfl)) ?_; simp only [Act.put, List.setIfInBounds_toArray, List.set_cons_zero, List.set_cons_succ]))
    go_wp2_with fail
    refine (HWK.out _).mono ?_
    rintro e wk ⟨rfl, hwk⟩
    have HB := Lib.hid ((HQb.out _ hq).trans (hwk.mono (HQb.out _ hq).size))
    clear hwk
    go_wp2_with fail
    go_ret
    exact ⟨rfl, HB.out⟩
  have HSb := Lib.hid (small_iff.1 hbs)
  clear hbs
  repeat (first | (refine wpList_skip (by rfl) ?_; simp only [Act.put, List.setIfInBounds_toArray, List.set_cons_zero, List.set_cons_succ]) | (refine wpList_read _ (by rfl) (exec_move (by rfl) (by rfl)) ?_; simp only [Act.put, List.setIfInBounds_toArray, List.set_cons_zero, List.set_cons_succ]) | (refine wpList_read _ (by rfl) (exec_hld (by rfl) (by rfl) (HQa.out _ hq)) ?_; simp only [Act.put, List.setIfInBounds_toArray, List.set_cons_zero, List.set_cons_succ]) | (refine wpList_read _ (by rfl) (exec_hld (by rfl) (by rfl) (HQc.out _ hq)) ?_; simp only [Act.put, List.setIfInBounds_toArray, List.set_cons_zero, List.set_cons_succ]) | (refine wpList_read _ (by rfl) (by (go_simp; first | done | with_reducible rfl)) ?_; simp only [Act.put, List.setIfInBounds_toArray, List.set_cons_zero, List.set_cons_succ]))
  refine wpList_callx (by rfl) (by (go_simp; first | done | rfl)) (right17_any (HLa.out _ hq) HSa.out) (fun e yra he => ?_)
  obtain ⟨⟨ra, rfl, hma, hy⟩⟩ := he
  replace hq := HQ.out _ _ hq hy
  have HIa := Lib.hid hma
  clear hy hma
  refine ⟨_, rfl, ?_⟩
  simp only [Act.put, List.setIfInBounds_toArray, List.set_cons_zero, List.set_cons_succ]
  cases ra
  · repeat (first | (refine wpList_skip (by rfl) ?_; simp only [Act.put, List.setIfInBounds_toArray, List.set_cons_zero, List.set_cons_succ]) | (refine wpList_read _ (by rfl) (exec_move (by rfl) (by rfl)) ?_; simp only [Act.put, List.setIfInBounds_toArray, List.set_cons_zero, List.set_cons_succ]) | (refine wpList_read _ (by rfl) (exec_hld (by rfl) (by rfl) (HQa.out _ hq)) ?_; simp only [Act.put, List.setIfInBounds_toArray, List.set_cons_zero, List.set_cons_succ]) | (refine wpList_read _ (by rfl) (exec_hld (by rfl) (by rfl) (HQc.out _ hq)) ?_; simp only [Act.put, List.setIfInBounds_toArray, List.set_cons_zero, List.set_cons_succ]) | (refine wpList_read _ (by rfl) (by (go_simp; first | done | with_reducible rfl)) ?_; simp only [Act.put, List.setIfInBounds_toArray, List.set_cons_zero, List.set_cons_succ]))
    go_wp2_with fail
    refine (HWK.out _).mono ?_
    rintro e wk ⟨rfl, hwk⟩
    have HB := Lib.hid ((HQb.out _ hq).trans (hwk.mono (HQb.out _ hq).size))
    clear hwk
    go_wp2_with fail
    go_ret
    exact ⟨rfl, HB.out⟩
  have HMa : Hid (MayBe a) := Lib.hid (HIa.out (by first | rfl | trivial))
  repeat (first | (refine wpList_skip (by rfl) ?_; simp only [Act.put, List.setIfInBounds_toArray, List.set_cons_zero, List.set_cons_succ]) | (refine wpList_read _ (by rfl) (exec_move (by rfl) (by rfl)) ?_; simp only [Act.put, List.setIfInBounds_toArray, List.set_cons_zero, List.set_cons_succ]) | (refine wpList_read _ (by rfl) (exec_hld (by rfl) (by rfl) (HQa.out _ hq)) ?_; simp only [Act.put, List.setIfInBounds_toArray, List.set_cons_zero, List.set_cons_succ]) | (refine wpList_read _ (by rfl) (exec_hld (by rfl) (by rfl) (HQc.out _ hq)) ?_; simp only [Act.put, List.setIfInBounds_toArray, List.set_cons_zero, List.set_cons_succ]) | (refine wpList_read _ (by rfl) (by (go_simp; first | done | with_reducible rfl)) ?_; simp only [Act.put, List.setIfInBounds_toArray, List.set_cons_zero, List.set_cons_succ]))
  go_upto_region 3 with (fail)
  apply wp_region_lit
  repeat (first | (refine wpList_skip (by rfl) ?_; simp only [Act.put, List.setIfInBounds_toArray, List.set_cons_zero, List.set_cons_succ]) | (refine wpList_read _ (by rfl) (exec_move (by rfl) (by rfl)) ?_; simp only [Act.put, List.setIfInBounds_toArray, List.set_cons_zero, List.set_cons_succ]) | (refine wpList_read _ (by rfl) (exec_hld (by rfl) (by rfl) (HQa.out _ hq)) ?_; simp only [Act.put, List.setIfInBounds_toArray, List.set_cons_zero, List.set_cons_succ]) | (refine wpList_read _ (by rfl) (exec_hld (by rfl) (by rfl) (HQc.out _ hq)) ?_; simp only [Act.put, List.setIfInBounds_toArray, List.set_cons_zero, List.set_cons_succ]) | (refine wpList_read _ (by rfl) (by (go_simp; first | done | with_reducible rfl)) ?_; simp only [Act.put, List.setIfInBounds_toArray, List.set_cons_zero, List.set_cons_succ]))
  refine wpList_callx (by rfl) (by (go_simp; first | done | rfl)) (ownR17_any (HLa.out _ hq) HSa.out) (fun e y3 he => ?_)
  obtain ⟨x, n1, n2, rfl, hown, hy⟩ := he
  replace hq := HQ.out _ _ hq hy
  refine ⟨_, rfl, ?_⟩
  simp only [Act.put, List.setIfInBounds_toArray, List.set_cons_zero, List.set_cons_succ]
  have HLc := Lib.hid (hown.lies (HSa.out.re x))
  have HQ3 := Lib.hid hq
  have HLT : Hid (w.heap.size + 1 < y3.heap.size) := Lib.hid (HQc.out _ hq).lt
  clear hown hy
  refine wpList_turn _ _ (by rfl) (by (go_simp; first | done | rfl | exact ⟨rfl, rfl⟩)) ?_
  simp only [Act.put, List.setIfInBounds_toArray, List.set_cons_zero, List.set_cons_succ]
  have hal := below1 y3 (.cells #[.int .i64 0, .int .i64 0, .int .i64 0, .slice none 0 0, .slice none 0 0, .slice none 0 0, .int .u8 0, .int .i64 0, .bool false, .bool false, .bool false, .bool false, .bool false, .bool false, .bool false, .bool false, .bool false, .bool false, .bool false, .bool false, .bool false, .int .i64 0, .bool false] 28)
  have hz := Whole.new y3 28 hld0.cells
  refine wpList_fill 28 (.tmp 9) (.tmp 33) rfl rfl (vs := (a.re x).cells) (by rfl) (by rfl) hz (by rfl) hld_info (hld_one _) (fun W3 bc hB3 _ => ?_)
  simp only [Act.put, List.setIfInBounds_toArray, List.set_cons_zero, List.set_cons_succ]
  obtain ⟨gc, hgc⟩ : ∃ g, y3.heap.size = g := ⟨_, rfl⟩
  rw [hgc] at bc
  have hb3 : Below gc y3 W3 := by rw [← hgc]; exact hal.trans (hB3 _ (Nat.le_refl _))
  have HGC := Lib.hid hgc
  (try rw [hgc])
  have HB3 := Lib.hid (And.intro hb3 bc)
  have hq3 : Q W3 := HQ.out _ _ HQ3.out (by rw [HGC.out]; exact hb3)
  have x3 := (HQa.out _ hq3).cell_at 3 rfl
  have x7 := (HQa.out _ hq3).cell_at 7 rfl
  have x20 := (HQa.out _ hq3).cell_at 20 rfl
  have z7 := bc.cell_at 7 rfl
  clear hal hz hB3 hb3 hgc hq bc
  go_upto_region 4 with (fail)
  have f7 := HB3.out.2.frozen 7
  obtain ⟨N, hN⟩ : ∃ n, a.p.ss.length = n := ⟨_, rfl⟩
  rw [hN] at x3
  obtain ⟨V, hV⟩ : ∃ V, min (wrap64 (a.gone + max (min more 20) 0)) (N : Int) = V := ⟨_, rfl⟩
  have hVb : a.gone ≤ V ∧ V ≤ (N : Int) := by
    have g0 := HMa.out.g0
    have g1 := HMa.out.g1
    have g2 := HSa.out.p
    have e : wrap64 (a.gone + max (min more 20) 0) = a.gone + max (min more 20) 0 := IntWalk.wrap64_in _ (by omega)
    rw [e] at hV
    omega
  have HVB := Lib.hid hVb
  have HNN := Lib.hid hN
  clear hVb hN
  go_upto_region 5 with (fail)
  obtain ⟨W4, hW4⟩ : ∃ W, W3.setCell ⟨gc, 7, none⟩ (.int .i64 V) = W := ⟨_, rfl⟩
  have b4 : Whole W4 gc 28 ((a.re x).go V a.op).cells := by rw [← hW4]; exact HB3.out.2.set 7 _
  have hb4 : Below gc y3 W4 := by rw [← hW4]; exact HB3.out.1.setCell (p := ⟨gc, 7, none⟩) (Nat.le_refl _) _
  rw [hW4]
  have hq4 : Q W4 := HQ.out _ _ HQ3.out (by rw [HGC.out]; exact hb4)
  replace x20 := (HQa.out _ hq4).cell_at 20 rfl
  have f20 := b4.frozen 20
  have y20 := b4.cell_at 20 rfl
  have HB4 := Lib.hid (And.intro hb4 b4)
  obtain ⟨ao, hao⟩ : ∃ o, a.op = o := ⟨_, rfl⟩
  rw [hao] at x20
  have HAO := Lib.hid hao
  clear hV hW4 x3 x7 z7 f7 hq3 b4 hb4 hq4 hao
  go_cut [50] from 46 to 51 (fun v wx => ∃ o : Bool, v = .bool o ∧ Hid (ao = true → o = true) ∧ Hid (Below gc y3 wx ∧ Whole wx gc 28 ((a.re x).go V o).cells))
  case first =>
    cases ao
    · go_wp2_with fail
      go_meet
      exact ⟨opn, rfl, Lib.hid (fun e => by cases e), Lib.hid ⟨HB4.out.1.setCell (p := ⟨gc, 20, none⟩) (Nat.le_refl _) _, HB4.out.2.set 20 _⟩⟩
    · go_wp2_with fail
      go_meet
      exact ⟨true, rfl, Lib.hid (fun _ => rfl), Lib.hid ⟨HB4.out.1.setCell (p := ⟨gc, 20, none⟩) (Nat.le_refl _) _, HB4.out.2.set 20 _⟩⟩
  case rest =>
  obtain ⟨oc, rfl, HOC, HB5⟩ := hcut
  obtain ⟨W5, hW5⟩ : ∃ W, W = wc := ⟨_, rfl⟩
  subst hW5
  clear HB3 HB4 x20 f20 y20
  obtain ⟨c, hcc⟩ : ∃ c, (a.re x).go V oc = c := ⟨_, rfl⟩
  have HC : Hid (Later a c ∧ HWf c ∧ Small c ∧ c.ns = a.ns) := Lib.hid (by
    have hb := HVB.out
    have g0 := HMa.out.g0
    have g2 := HSa.out.p
    have hN := HNN.out
    rw [← hcc]
    exact ⟨later_go x hb.1 (fun e => HOC.out (by rw [← HAO.out]; exact e)), HF.out.1.go x (by omega) oc, HSa.out.go x V oc, rfl⟩)
  have HK : Hid ((∀ W, Below y3.heap.size y3 W → Below w.heap.size w W) ∧ (∀ W, Below y3.heap.size y3 W → Whole W w.heap.size 28 a.cells) ∧ (∀ W, Below y3.heap.size y3 W → Whole W (w.heap.size + 1) 28 b.cells) ∧ (∀ W, Below y3.heap.size y3 W → HLies b W)) := Lib.hid ⟨fun W h => HQb.out _ (HQ.out _ _ HQ3.out h), fun W h => HQa.out _ (HQ.out _ _ HQ3.out h), fun W h => HQc.out _ (HQ.out _ _ HQ3.out h), fun W h => HLb.out _ (HQ.out _ _ HQ3.out h)⟩
  have HLc0 := HLc
  obtain ⟨Q, HQ, HQy, HQb, HQa, HQc, HQe, HLa, HLb, HLc, hq⟩ : ∃ R : World → Prop, Hid (Closed R) ∧ Hid (∀ W, R W → Below y3.heap.size y3 W) ∧ Hid (∀ W, R W → Below w.heap.size w W) ∧ Hid (∀ W, R W → Whole W w.heap.size 28 a.cells) ∧ Hid (∀ W, R W → Whole W (w.heap.size + 1) 28 b.cells) ∧ Hid (∀ W, R W → Whole W gc 28 c.cells) ∧ Hid (∀ W, R W → HLies a W) ∧ Hid (∀ W, R W → HLies b W) ∧ Hid (∀ W, R W → HLies c W) ∧ R W5 :=
    ⟨fun W => Below y3.heap.size y3 W ∧ Whole W gc 28 c.cells, Lib.hid ((Closed.below y3).and (Closed.whole _ _ _)), Lib.hid fun W h => h.1, Lib.hid fun W h => HQb.out _ (HQ.out _ _ HQ3.out h.1), Lib.hid fun W h => HQa.out _ (HQ.out _ _ HQ3.out h.1), Lib.hid fun W h => HQc.out _ (HQ.out _ _ HQ3.out h.1), Lib.hid fun W h => h.2, Lib.hid fun W h => HLa.out _ (HQ.out _ _ HQ3.out h.1), Lib.hid fun W h => HLb.out _ (HQ.out _ _ HQ3.out h.1), Lib.hid fun W h => by rw [← hcc]; exact (HLc.out.on h.1).go V oc, ⟨by rw [HGC.out]; exact HB5.out.1, by rw [← hcc]; exact HB5.out.2⟩⟩
  have HCC := Lib.hid hcc
  clear hcc HB5
  go_upto_region 6 with (fail)
  have HBS : Hid (∀ W, Below W5.heap.size W5 W → Q W) := Lib.hid (fun W hB => HQ.out _ _ hq hB)
  clear hq
  refine region_mix (Below W5.heap.size W5) [(0, false), (2, false), (1, true), (3, true), (4, false), (5, false)] (by kernel_rfl) (by kernel_rfl) (Below W5.heap.size W5) ⟨Closed.below W5, fun _ h => h⟩ (Below.refl _ _).drew ?_
  simp only [pickOps, List.getElem?_cons_zero, List.getElem?_cons_succ]
  repeat (first | (refine mix_skip (by rfl) ?_; simp only [Act.put, List.setIfInBounds_toArray, List.set_cons_zero, List.set_cons_succ]) | (refine mix_read _ (by rfl) (fun W hW => exec_hld (by rfl) (by rfl) (HQa.out W (HBS.out W hW))) ?_; simp only [Act.put, List.setIfInBounds_toArray, List.set_cons_zero, List.set_cons_succ]) | (refine mix_read _ (by rfl) (fun W hW => exec_hld (by rfl) (by rfl) (HQe.out W (HBS.out W hW))) ?_; simp only [Act.put, List.setIfInBounds_toArray, List.set_cons_zero, List.set_cons_succ]) | (refine mix_read _ (by rfl) (fun W hW => by (have hW := HBS.out W hW; go_simp; first | done | with_reducible rfl)) ?_; simp only [Act.put, List.setIfInBounds_toArray, List.set_cons_zero, List.set_cons_succ]))
  refine mix_meet (fun x : Option Addr × Nat => .slice x.1 a.secs.length x.2) (fun x => (fun W => Row W W.heap.size x.1 (nums .i64 a.secs))) ⟨(Closed.below W5), fun _ h => h⟩ (fun x _ _ h hb => h.on hb) _ _ (by rfl) (fun W hW => by (have hW := HBS.out W hW; go_simp; first | done | rfl)) (fun W hW => Sections_any (HLa.out _ (HBS.out W hW)) HSa.out) (fun m1 => ?_)
  simp only [Act.put, List.setIfInBounds_toArray, List.set_cons_zero, List.set_cons_succ]
  refine mix_meet (fun x : Option Addr × Nat => .slice x.1 c.secs.length x.2) (fun x => (fun W => Row W W.heap.size x.1 (nums .i64 c.secs))) ⟨((Closed.below W5).and ((show ∀ x : Option Addr × Nat, Closed ((fun W => Row W W.heap.size x.1 (nums .i64 a.secs))) from fun x _ _ h hb => h.on hb) m1)), fun _ h => h.1⟩ (fun x _ _ h hb => h.on hb) _ _ (by rfl) (fun W hW => by (have hW := HBS.out W hW.1; go_simp; first | done | rfl)) (fun W hW => Sections_any (HLc.out _ (HBS.out W hW.1)) HC.out.2.2.1) (fun m2 => ?_)
  simp only [Act.put, List.setIfInBounds_toArray, List.set_cons_zero, List.set_cons_succ]
  repeat (first | (refine mix_skip (by rfl) ?_; simp only [Act.put, List.setIfInBounds_toArray, List.set_cons_zero, List.set_cons_succ]) | (refine mix_read _ (by rfl) (fun W hW => exec_hld (by rfl) (by rfl) (HQa.out W (HBS.out W hW))) ?_; simp only [Act.put, List.setIfInBounds_toArray, List.set_cons_zero, List.set_cons_succ]) | (refine mix_read _ (by rfl) (fun W hW => exec_hld (by rfl) (by rfl) (HQe.out W (HBS.out W hW))) ?_; simp only [Act.put, List.setIfInBounds_toArray, List.set_cons_zero, List.set_cons_succ]) | (refine mix_read _ (by rfl) (fun W hW => by (have hW := HBS.out W hW; go_simp; first | done | with_reducible rfl)) ?_; simp only [Act.put, List.setIfInBounds_toArray, List.set_cons_zero, List.set_cons_succ]))
  refine mix_nil (fun W hW => ?_)
  have t1 := hW.1.2
  have t2 := hW.2
  have hq := HBS.out W hW.1.1
  have HBW := Lib.hid hW.1.1
  clear hW HBS
  obtain ⟨A1, C1⟩ := m1
  obtain ⟨A2, C2⟩ := m2
  simp only at t1 t2 ⊢
  obtain ⟨la, hla⟩ : ∃ l, a.secs = l := ⟨_, rfl⟩
  obtain ⟨lc, hlc⟩ : ∃ l, c.secs = l := ⟨_, rfl⟩
  have HLL : Hid (a.secs = la ∧ c.secs = lc ∧ (∀ s ∈ lc, s ∈ la) ∧ lc.length ≤ la.length) := Lib.hid ⟨hla, hlc, by rw [← hla, ← hlc]; exact HC.out.1.secs.1, by rw [← hla, ← hlc]; exact HC.out.1.secs.2⟩
  have hn1 : la.length ≤ 50 := by rw [← hla]; exact secs_le HSa.out
  have hn2 : lc.length ≤ 50 := by rw [← hlc]; exact secs_le HC.out.2.2.1
  rw [hla] at t1 ⊢
  rw [hlc] at t2 ⊢
  obtain ⟨Q2, HQ2, HQ2q, HQ2r, HQ2s, hq2⟩ : ∃ Q2 : World → Prop, Hid (Closed Q2) ∧ Hid (∀ W, Q2 W → Q W) ∧ Hid (∀ W, Q2 W → Row W W.heap.size A1 (nums .i64 la)) ∧ Hid (∀ W, Q2 W → Row W W.heap.size A2 (nums .i64 lc)) ∧ Q2 W := ⟨fun W => Q W ∧ Row W W.heap.size A1 (nums .i64 la) ∧ Row W W.heap.size A2 (nums .i64 lc), Lib.hid (HQ.out.and (Closed.and (fun _ _ h hb => h.on hb) (fun _ _ h hb => h.on hb))), Lib.hid fun _ h => h.1, Lib.hid fun _ h => h.2.1, Lib.hid fun _ h => h.2.2, hq, t1, t2⟩
  clear hq t1 t2 hla hlc HBW
  go_wp2_with fail
  go_loopw [12] (fun i wr => ∃ j : Nat, j ≤ lc.length ∧ i = .int .i64 (j : Int) ∧ Q2 wr) (fun i _ => lc.length - (intOf i).toNat)
  case atStart => exact ⟨0, by omega, rfl, hq2⟩
  case round =>
    clear hq2
    obtain ⟨j, hj, rfl, hq2⟩ := hrel
    by_cases hlt : j < lc.length
    · have hlt' : (j : Int) < (lc.length : Int) := by omega
      obtain ⟨s, hs⟩ : ∃ s, lc[j]? = some s := ⟨_, List.getElem?_eq_getElem hlt⟩
      obtain ⟨b2, o2, hA2, _, _⟩ := (HQ2s.out _ hq2).num hlt
      have HCE : Hid (∀ W, Q2 W → W.cell? ⟨b2, o2 + j, none⟩ = some (.int .i64 s)) := Lib.hid fun W hW => by
        obtain ⟨b', o', e, _, h2⟩ := (HQ2s.out _ hW).num hlt
        rw [hA2] at e
        cases e
        rw [hs] at h2
        exact h2
      have HIN : Hid (decide (s ∈ la) = true ∧ decide (s ∈ a.secs) = true ∧ decide (s ∈ c.secs) = true) := Lib.hid (by
        have h1 : s ∈ lc := List.mem_of_getElem? hs
        refine ⟨decide_eq_true (HLL.out.2.2.1 s h1), decide_eq_true ?_, decide_eq_true ?_⟩
        · rw [HLL.out.1]; exact HLL.out.2.2.1 s h1
        · rw [HLL.out.2.1]; exact h1)
      rw [hA2]
      have HA := Lib.hid (And.intro hA2 hs)
      clear hA2 hs
      go_wp2_with fail
      have HBS : Hid (∀ W, Below wr.heap.size wr W → Q2 W) := Lib.hid (fun W hB => HQ2.out _ _ hq2 hB)
      clear hq2
      refine region_mix (Below wr.heap.size wr) [(0, false), (1, false), (2, false), (3, false), (4, false), (5, false), (6, false), (7, false), (8, false), (9, false), (10, false), (11, false), (12, false), (13, false), (14, false), (15, false), (16, false), (17, false), (18, false), (19, false), (20, false), (21, false), (22, false), (23, false), (24, false)] (by kernel_rfl) (by kernel_rfl) (Below wr.heap.size wr) ⟨Closed.below wr, fun _ h => h⟩ (Below.refl _ _).drew ?_
      simp only [pickOps, List.getElem?_cons_zero, List.getElem?_cons_succ]
      repeat (first | (refine mix_skip (by rfl) ?_; simp only [Act.put, List.setIfInBounds_toArray, List.set_cons_zero, List.set_cons_succ]) | (refine mix_read _ (by rfl) (fun W hW => exec_hld (by rfl) (by rfl) (HQa.out W (HQ2q.out W (HBS.out W hW)))) ?_; simp only [Act.put, List.setIfInBounds_toArray, List.set_cons_zero, List.set_cons_succ]) | (refine mix_read _ (by rfl) (fun W hW => exec_hld (by rfl) (by rfl) (HQc.out W (HQ2q.out W (HBS.out W hW)))) ?_; simp only [Act.put, List.setIfInBounds_toArray, List.set_cons_zero, List.set_cons_succ]) | (refine mix_read _ (by rfl) (fun W hW => exec_hld (by rfl) (by rfl) (HQe.out W (HQ2q.out W (HBS.out W hW)))) ?_; simp only [Act.put, List.setIfInBounds_toArray, List.set_cons_zero, List.set_cons_succ]) | (refine mix_read _ (by rfl) (fun W hW => by (have c0 := HCE.out W (HBS.out W hW); clear hW; go_simp; first | done | with_reducible rfl)) ?_; simp only [Act.put, List.setIfInBounds_toArray, List.set_cons_zero, List.set_cons_succ]) | (refine mix_call _ _ _ (by rfl) (fun W hW => by (clear hW; go_simp; first | done | rfl)) (fun W hW => among_any C1 s (HQ2r.out W (HBS.out W hW)) (by omega) HIN.out.1) ?_; simp only [Act.put, List.setIfInBounds_toArray, List.set_cons_zero, List.set_cons_succ]) | (refine mix_call _ _ _ (by rfl) (fun W hW => by (clear hW; go_simp; first | done | rfl)) (fun W hW => Has_any s (HLa.out W (HQ2q.out W (HBS.out W hW))) HIN.out.2.1) ?_; simp only [Act.put, List.setIfInBounds_toArray, List.set_cons_zero, List.set_cons_succ]) | (refine mix_call _ _ _ (by rfl) (fun W hW => by (clear hW; go_simp; first | done | rfl)) (fun W hW => Has_any s (HLc.out W (HQ2q.out W (HBS.out W hW))) HIN.out.2.2) ?_; simp only [Act.put, List.setIfInBounds_toArray, List.set_cons_zero, List.set_cons_succ]))
      refine mix_nil (fun W hW => ?_)
      have hq2 := HBS.out W hW
      clear hW HBS
      clear HCE
      go_wp2_with fail
      go_roundw
      case rel => exact ⟨j + 1, hlt, by go_num, hq2⟩
      case measure => simp [intOf]; omega
    · obtain rfl : j = lc.length := by omega
      have hq := HQ2q.out _ hq2
      clear hq2 HQ2 HQ2q HQ2r HQ2s hlt hj
      go_upto_region 12 with (fail)
      have HBS : Hid (∀ W, Below wr.heap.size wr W → Q W) := Lib.hid (fun W hB => HQ.out _ _ hq hB)
      clear hq
      refine region_mix (Below wr.heap.size wr) [(0, false), (2, false), (1, true), (3, true), (4, false), (5, false)] (by kernel_rfl) (by kernel_rfl) (Below wr.heap.size wr) ⟨Closed.below wr, fun _ h => h⟩ (Below.refl _ _).drew ?_
      simp only [pickOps, List.getElem?_cons_zero, List.getElem?_cons_succ]
      repeat (first | (refine mix_skip (by rfl) ?_; simp only [Act.put, List.setIfInBounds_toArray, List.set_cons_zero, List.set_cons_succ]) | (refine mix_read _ (by rfl) (fun W hW => exec_hld (by rfl) (by rfl) (HQa.out W (HBS.out W hW))) ?_; simp only [Act.put, List.setIfInBounds_toArray, List.set_cons_zero, List.set_cons_succ]) | (refine mix_read _ (by rfl) (fun W hW => exec_hld (by rfl) (by rfl) (HQe.out W (HBS.out W hW))) ?_; simp only [Act.put, List.setIfInBounds_toArray, List.set_cons_zero, List.set_cons_succ]) | (refine mix_read _ (by rfl) (fun W hW => by (have hW := HBS.out W hW; go_simp; first | done | with_reducible rfl)) ?_; simp only [Act.put, List.setIfInBounds_toArray, List.set_cons_zero, List.set_cons_succ]))
      refine mix_meet (fun x : Option Addr × Nat => .slice x.1 a.needs.length x.2) (fun x => (fun W => Row W W.heap.size x.1 (a.needs.flatMap needCells))) ⟨(Closed.below wr), fun _ h => h⟩ (fun x _ _ h hb => h.on hb) _ _ (by rfl) (fun W hW => by (have hW := HBS.out W hW; go_simp; first | done | rfl)) (fun W hW => Needs_any (HLa.out _ (HBS.out W hW)) HSa.out) (fun m1 => ?_)
      simp only [Act.put, List.setIfInBounds_toArray, List.set_cons_zero, List.set_cons_succ]
      refine mix_meet (fun x : Option Addr × Nat => .slice x.1 c.needs.length x.2) (fun x => (fun W => Row W W.heap.size x.1 (c.needs.flatMap needCells))) ⟨((Closed.below wr).and ((show ∀ x : Option Addr × Nat, Closed ((fun W => Row W W.heap.size x.1 (a.needs.flatMap needCells))) from fun x _ _ h hb => h.on hb) m1)), fun _ h => h.1⟩ (fun x _ _ h hb => h.on hb) _ _ (by rfl) (fun W hW => by (have hW := HBS.out W hW.1; go_simp; first | done | rfl)) (fun W hW => Needs_any (HLc.out _ (HBS.out W hW.1)) HC.out.2.2.1) (fun m2 => ?_)
      simp only [Act.put, List.setIfInBounds_toArray, List.set_cons_zero, List.set_cons_succ]
      repeat (first | (refine mix_skip (by rfl) ?_; simp only [Act.put, List.setIfInBounds_toArray, List.set_cons_zero, List.set_cons_succ]) | (refine mix_read _ (by rfl) (fun W hW => exec_hld (by rfl) (by rfl) (HQa.out W (HBS.out W hW))) ?_; simp only [Act.put, List.setIfInBounds_toArray, List.set_cons_zero, List.set_cons_succ]) | (refine mix_read _ (by rfl) (fun W hW => exec_hld (by rfl) (by rfl) (HQe.out W (HBS.out W hW))) ?_; simp only [Act.put, List.setIfInBounds_toArray, List.set_cons_zero, List.set_cons_succ]) | (refine mix_read _ (by rfl) (fun W hW => by (have hW := HBS.out W hW; go_simp; first | done | with_reducible rfl)) ?_; simp only [Act.put, List.setIfInBounds_toArray, List.set_cons_zero, List.set_cons_succ]))
      refine mix_nil (fun W hW => ?_)
      have t1 := hW.1.2
      have t2 := hW.2
      have hq := HBS.out W hW.1.1
      have HBW := Lib.hid hW.1.1
      clear hW HBS
      obtain ⟨A3, C3⟩ := m1
      obtain ⟨A4, C4⟩ := m2
      simp only at t1 t2 ⊢
      obtain ⟨na, hna⟩ : ∃ l, a.needs = l := ⟨_, rfl⟩
      obtain ⟨nc, hnc⟩ : ∃ l, c.needs = l := ⟨_, rfl⟩
      have HNL : Hid (a.needs = na ∧ c.needs = nc ∧ (∀ s ∈ nc, s ∈ na) ∧ nc.length ≤ na.length) := Lib.hid ⟨hna, hnc, by rw [← hna, ← hnc]; exact HC.out.1.needs.1, by rw [← hna, ← hnc]; exact HC.out.1.needs.2⟩
      have hn3 : na.length ≤ 60 := by rw [← hna]; exact needs_le HSa.out
      have hn4 : nc.length ≤ 60 := by rw [← hnc]; exact needs_le HC.out.2.2.1
      rw [hna] at t1 ⊢
      rw [hnc] at t2 ⊢
      obtain ⟨Q3, HQ3', HQ3q, HQ3s, hq3⟩ : ∃ Q3 : World → Prop, Hid (Closed Q3) ∧ Hid (∀ W, Q3 W → Q W) ∧ Hid (∀ W, Q3 W → Row W W.heap.size A4 (nc.flatMap needCells)) ∧ Q3 W := ⟨fun W => Q W ∧ Row W W.heap.size A4 (nc.flatMap needCells), Lib.hid (HQ.out.and (fun _ _ h hb => h.on hb)), Lib.hid fun _ h => h.1, Lib.hid fun _ h => h.2, hq, t2⟩
      clear hq t1 t2 hna hnc HBW
      go_wp2_with fail
      go_loopw [15] (fun i wr => ∃ j : Nat, j ≤ nc.length ∧ i = .int .i64 (j : Int) ∧ Q3 wr) (fun i _ => nc.length - (intOf i).toNat)
      case atStart => exact ⟨0, by omega, rfl, hq3⟩
      case round =>
        clear hq3
        obtain ⟨j, hj, rfl, hq3⟩ := hrel
        by_cases hlt : j < nc.length
        · have hlt' : (j : Int) < (nc.length : Int) := by omega
          obtain ⟨⟨f1, f2, f3⟩, hx⟩ : ∃ x, nc[j]? = some x := ⟨_, List.getElem?_eq_getElem hlt⟩
          obtain ⟨b4, o4, hA4, _, hc0, hc⟩ := (HQ3s.out _ hq3).nth (n := 3) (fun _ => rfl) (by omega) hx
          have HXX := Lib.hid hx
          have HCE : Hid (∀ W, Q3 W → W.cell? ⟨b4, o4 + j * 3, none⟩ = some (.int .i64 f1) ∧ W.cell? ⟨b4, o4 + j * 3 + 1, none⟩ = some (.int .i64 f2)) := Lib.hid fun W hW => by
            obtain ⟨b', o', e, _, hc0, hc⟩ := (HQ3s.out _ hW).nth (n := 3) (fun _ => rfl) (by omega) HXX.out
            rw [hA4] at e
            cases e
            exact ⟨hc0 j _ _ HXX.out rfl, hc j _ 1 _ HXX.out rfl⟩
          have HIN : Hid (at13 a.needs f1 = (f2, true) ∧ at13 c.needs f1 = (f2, true)) := Lib.hid (by
            have h1 : (f1, f2, f3) ∈ c.needs := by rw [HNL.out.2.1]; exact List.mem_of_getElem? hx
            exact ⟨at13_fine (clash_needs HMa.out.nc) (HC.out.1.needs.1 _ h1), at13_fine (clash_needs (by rw [HC.out.2.2.2]; exact HMa.out.nc)) h1⟩)
          rw [hA4]
          have HA := Lib.hid hA4
          clear hA4 hx hc0 hc
          go_wp2_with fail
          have HBS : Hid (∀ W, Below wr.heap.size wr W → Q3 W) := Lib.hid (fun W hB => HQ3'.out _ _ hq3 hB)
          clear hq3
          refine region_mix (Below wr.heap.size wr) [(0, false), (1, false), (2, false), (3, false), (4, false), (5, false), (6, false), (7, false), (8, false), (9, false), (10, false), (11, false)] (by kernel_rfl) (by kernel_rfl) (Below wr.heap.size wr) ⟨Closed.below wr, fun _ h => h⟩ (Below.refl _ _).drew ?_
          simp only [pickOps, List.getElem?_cons_zero, List.getElem?_cons_succ]
          repeat (first | (refine mix_skip (by rfl) ?_; simp only [Act.put, List.setIfInBounds_toArray, List.set_cons_zero, List.set_cons_succ]) | (refine mix_read _ (by rfl) (fun W hW => exec_hld (by rfl) (by rfl) (HQa.out W (HQ3q.out W (HBS.out W hW)))) ?_; simp only [Act.put, List.setIfInBounds_toArray, List.set_cons_zero, List.set_cons_succ]) | (refine mix_read _ (by rfl) (fun W hW => exec_hld (by rfl) (by rfl) (HQc.out W (HQ3q.out W (HBS.out W hW)))) ?_; simp only [Act.put, List.setIfInBounds_toArray, List.set_cons_zero, List.set_cons_succ]) | (refine mix_read _ (by rfl) (fun W hW => exec_hld (by rfl) (by rfl) (HQe.out W (HQ3q.out W (HBS.out W hW)))) ?_; simp only [Act.put, List.setIfInBounds_toArray, List.set_cons_zero, List.set_cons_succ]) | (refine mix_read _ (by rfl) (fun W hW => by (obtain ⟨c0, c1⟩ := HCE.out W (HBS.out W hW); clear hW; go_simp; first | done | with_reducible rfl)) ?_; simp only [Act.put, List.setIfInBounds_toArray, List.set_cons_zero, List.set_cons_succ]) | (refine mix_call _ _ _ (by rfl) (fun W hW => by (clear hW; go_simp; first | done | rfl)) (fun W hW => Wants_any f1 (HLa.out W (HQ3q.out W (HBS.out W hW))) HIN.out.1) ?_; simp only [Act.put, List.setIfInBounds_toArray, List.set_cons_zero, List.set_cons_succ]))
          refine mix_nil (fun W hW => ?_)
          have hq3 := HBS.out W hW
          clear hW HBS
          obtain ⟨w17, hw17⟩ : ∃ w17, W = w17 := ⟨_, rfl⟩
          rw [hw17] at hq3 ⊢
          clear hw17
          go_wp2_with fail
          have HBS : Hid (∀ W, Below w17.heap.size w17 W → Q3 W) := Lib.hid (fun W hB => HQ3'.out _ _ hq3 hB)
          clear hq3
          refine region_mix (Below w17.heap.size w17) [(0, false), (1, false), (2, false), (3, false), (4, false), (5, false), (6, false), (7, false), (8, false), (9, false), (10, false), (11, false)] (by kernel_rfl) (by kernel_rfl) (Below w17.heap.size w17) ⟨Closed.below w17, fun _ h => h⟩ (Below.refl _ _).drew ?_
          simp only [pickOps, List.getElem?_cons_zero, List.getElem?_cons_succ]
          repeat (first | (refine mix_skip (by rfl) ?_; simp only [Act.put, List.setIfInBounds_toArray, List.set_cons_zero, List.set_cons_succ]) | (refine mix_read _ (by rfl) (fun W hW => exec_hld (by rfl) (by rfl) (HQa.out W (HQ3q.out W (HBS.out W hW)))) ?_; simp only [Act.put, List.setIfInBounds_toArray, List.set_cons_zero, List.set_cons_succ]) | (refine mix_read _ (by rfl) (fun W hW => exec_hld (by rfl) (by rfl) (HQc.out W (HQ3q.out W (HBS.out W hW)))) ?_; simp only [Act.put, List.setIfInBounds_toArray, List.set_cons_zero, List.set_cons_succ]) | (refine mix_read _ (by rfl) (fun W hW => exec_hld (by rfl) (by rfl) (HQe.out W (HQ3q.out W (HBS.out W hW)))) ?_; simp only [Act.put, List.setIfInBounds_toArray, List.set_cons_zero, List.set_cons_succ]) | (refine mix_read _ (by rfl) (fun W hW => by (obtain ⟨c0, c1⟩ := HCE.out W (HBS.out W hW); clear hW; go_simp; first | done | with_reducible rfl)) ?_; simp only [Act.put, List.setIfInBounds_toArray, List.set_cons_zero, List.set_cons_succ]) | (refine mix_call _ _ _ (by rfl) (fun W hW => by (clear hW; go_simp; first | done | rfl)) (fun W hW => Wants_any f1 (HLc.out W (HQ3q.out W (HBS.out W hW))) HIN.out.2) ?_; simp only [Act.put, List.setIfInBounds_toArray, List.set_cons_zero, List.set_cons_succ]))
          refine mix_nil (fun W hW => ?_)
          have hq3 := HBS.out W hW
          clear hW HBS
          obtain ⟨c0, c1⟩ := HCE.out _ hq3
          clear HCE
          go_wp2_with fail
          go_roundw
          case rel => exact ⟨j + 1, hlt, by go_num, hq3⟩
          case measure => simp [intOf]; omega
        · obtain rfl : j = nc.length := by omega
          have hq := HQ3q.out _ hq3
          clear hq3 HQ3' HQ3q HQ3s hlt hj
          go_upto_region 20 with (fail)
          have hl1 : ¬ (la.length : Int) < (lc.length : Int) := by have := HLL.out.2.2.2; omega
          have hl2 : ¬ la.length < lc.length := by have := HLL.out.2.2.2; omega
          have hl3 : decide (la.length < lc.length) = false := decide_eq_false hl2
          have hl4 : ¬ (na.length : Int) < (nc.length : Int) := by have := HNL.out.2.2.2; omega
          have hl5 : ¬ na.length < nc.length := by have := HNL.out.2.2.2; omega
          have hl6 : decide (na.length < nc.length) = false := decide_eq_false hl5
          obtain ⟨pa, hpa⟩ : ∃ p, apartH a b = p := ⟨_, rfl⟩
          obtain ⟨oa, hoa⟩ : ∃ p, a.over = p := ⟨_, rfl⟩
          have HPA := Lib.hid hpa
          have HOA := Lib.hid hoa
          clear hpa hoa
          go_cut [172] from 141 to 172 (fun v wx => v = .bool false ∧ Hid (Q wx))
          case first =>
            go_wp2_with (first | (refine wpList_read _ (by rfl) (exec_hld (by rfl) (by rfl) (HQa.out _ hq)) ?_; simp only [Act.put, List.setIfInBounds_toArray, List.set_cons_zero, List.set_cons_succ]) | (refine wpList_read _ (by rfl) (exec_hld (by rfl) (by rfl) (HQc.out _ hq)) ?_; simp only [Act.put, List.setIfInBounds_toArray, List.set_cons_zero, List.set_cons_succ]) | (refine wpList_read _ (by rfl) (exec_hld (by rfl) (by rfl) (HQe.out _ hq)) ?_; simp only [Act.put, List.setIfInBounds_toArray, List.set_cons_zero, List.set_cons_succ]))
            refine (Apart_any (HLa.out _ hq) (HLb.out _ hq) HF.out.1 HF.out.2 HSa.out HSb.out HPA.out).mono ?_
            rintro e yp1 ⟨rfl, hyp1⟩
            replace hq := HQ.out _ _ hq hyp1
            clear hyp1
            cases pa
            · go_wp2_with (first | (refine wpList_read _ (by rfl) (exec_hld (by rfl) (by rfl) (HQa.out _ hq)) ?_; simp only [Act.put, List.setIfInBounds_toArray, List.set_cons_zero, List.set_cons_succ]) | (refine wpList_read _ (by rfl) (exec_hld (by rfl) (by rfl) (HQc.out _ hq)) ?_; simp only [Act.put, List.setIfInBounds_toArray, List.set_cons_zero, List.set_cons_succ]) | (refine wpList_read _ (by rfl) (exec_hld (by rfl) (by rfl) (HQe.out _ hq)) ?_; simp only [Act.put, List.setIfInBounds_toArray, List.set_cons_zero, List.set_cons_succ]))
              refine (over_any (HLa.out _ hq).pl.len _ HOA.out).mono ?_
              rintro e yo1 ⟨rfl, hyo1⟩
              replace hq := HQ.out _ _ hq hyo1
              clear hyo1
              cases oa
              · go_wp2_with (first | (refine wpList_read _ (by rfl) (exec_hld (by rfl) (by rfl) (HQa.out _ hq)) ?_; simp only [Act.put, List.setIfInBounds_toArray, List.set_cons_zero, List.set_cons_succ]) | (refine wpList_read _ (by rfl) (exec_hld (by rfl) (by rfl) (HQc.out _ hq)) ?_; simp only [Act.put, List.setIfInBounds_toArray, List.set_cons_zero, List.set_cons_succ]) | (refine wpList_read _ (by rfl) (exec_hld (by rfl) (by rfl) (HQe.out _ hq)) ?_; simp only [Act.put, List.setIfInBounds_toArray, List.set_cons_zero, List.set_cons_succ]))
                go_meet
                exact ⟨rfl, Lib.hid hq⟩
              · go_wp2_with (first | (refine wpList_read _ (by rfl) (exec_hld (by rfl) (by rfl) (HQa.out _ hq)) ?_; simp only [Act.put, List.setIfInBounds_toArray, List.set_cons_zero, List.set_cons_succ]) | (refine wpList_read _ (by rfl) (exec_hld (by rfl) (by rfl) (HQc.out _ hq)) ?_; simp only [Act.put, List.setIfInBounds_toArray, List.set_cons_zero, List.set_cons_succ]) | (refine wpList_read _ (by rfl) (exec_hld (by rfl) (by rfl) (HQe.out _ hq)) ?_; simp only [Act.put, List.setIfInBounds_toArray, List.set_cons_zero, List.set_cons_succ]))
                refine (over_any (HLc.out _ hq).pl.len _ (HC.out.1.over HOA.out)).mono ?_
                rintro e yo2 ⟨rfl, hyo2⟩
                replace hq := HQ.out _ _ hq hyo2
                clear hyo2
                go_wp2_with (first | (refine wpList_read _ (by rfl) (exec_hld (by rfl) (by rfl) (HQa.out _ hq)) ?_; simp only [Act.put, List.setIfInBounds_toArray, List.set_cons_zero, List.set_cons_succ]) | (refine wpList_read _ (by rfl) (exec_hld (by rfl) (by rfl) (HQc.out _ hq)) ?_; simp only [Act.put, List.setIfInBounds_toArray, List.set_cons_zero, List.set_cons_succ]) | (refine wpList_read _ (by rfl) (exec_hld (by rfl) (by rfl) (HQe.out _ hq)) ?_; simp only [Act.put, List.setIfInBounds_toArray, List.set_cons_zero, List.set_cons_succ]))
                go_meet
                exact ⟨rfl, Lib.hid hq⟩
            · go_wp2_with (first | (refine wpList_read _ (by rfl) (exec_hld (by rfl) (by rfl) (HQa.out _ hq)) ?_; simp only [Act.put, List.setIfInBounds_toArray, List.set_cons_zero, List.set_cons_succ]) | (refine wpList_read _ (by rfl) (exec_hld (by rfl) (by rfl) (HQc.out _ hq)) ?_; simp only [Act.put, List.setIfInBounds_toArray, List.set_cons_zero, List.set_cons_succ]) | (refine wpList_read _ (by rfl) (exec_hld (by rfl) (by rfl) (HQe.out _ hq)) ?_; simp only [Act.put, List.setIfInBounds_toArray, List.set_cons_zero, List.set_cons_succ]))
              refine (Apart_any (HLc.out _ hq) (HLb.out _ hq) HC.out.2.1 HF.out.2 HC.out.2.2.1 HSb.out (HC.out.1.apart HPA.out)).mono ?_
              rintro e yp2 ⟨rfl, hyp2⟩
              replace hq := HQ.out _ _ hq hyp2
              clear hyp2
              go_wp2_with (first | (refine wpList_read _ (by rfl) (exec_hld (by rfl) (by rfl) (HQa.out _ hq)) ?_; simp only [Act.put, List.setIfInBounds_toArray, List.set_cons_zero, List.set_cons_succ]) | (refine wpList_read _ (by rfl) (exec_hld (by rfl) (by rfl) (HQc.out _ hq)) ?_; simp only [Act.put, List.setIfInBounds_toArray, List.set_cons_zero, List.set_cons_succ]) | (refine wpList_read _ (by rfl) (exec_hld (by rfl) (by rfl) (HQe.out _ hq)) ?_; simp only [Act.put, List.setIfInBounds_toArray, List.set_cons_zero, List.set_cons_succ]))
              refine (over_any (HLa.out _ hq).pl.len _ HOA.out).mono ?_
              rintro e yo1 ⟨rfl, hyo1⟩
              replace hq := HQ.out _ _ hq hyo1
              clear hyo1
              cases oa
              · go_wp2_with (first | (refine wpList_read _ (by rfl) (exec_hld (by rfl) (by rfl) (HQa.out _ hq)) ?_; simp only [Act.put, List.setIfInBounds_toArray, List.set_cons_zero, List.set_cons_succ]) | (refine wpList_read _ (by rfl) (exec_hld (by rfl) (by rfl) (HQc.out _ hq)) ?_; simp only [Act.put, List.setIfInBounds_toArray, List.set_cons_zero, List.set_cons_succ]) | (refine wpList_read _ (by rfl) (exec_hld (by rfl) (by rfl) (HQe.out _ hq)) ?_; simp only [Act.put, List.setIfInBounds_toArray, List.set_cons_zero, List.set_cons_succ]))
                go_meet
                exact ⟨rfl, Lib.hid hq⟩
              · go_wp2_with (first | (refine wpList_read _ (by rfl) (exec_hld (by rfl) (by rfl) (HQa.out _ hq)) ?_; simp only [Act.put, List.setIfInBounds_toArray, List.set_cons_zero, List.set_cons_succ]) | (refine wpList_read _ (by rfl) (exec_hld (by rfl) (by rfl) (HQc.out _ hq)) ?_; simp only [Act.put, List.setIfInBounds_toArray, List.set_cons_zero, List.set_cons_succ]) | (refine wpList_read _ (by rfl) (exec_hld (by rfl) (by rfl) (HQe.out _ hq)) ?_; simp only [Act.put, List.setIfInBounds_toArray, List.set_cons_zero, List.set_cons_succ]))
                refine (over_any (HLc.out _ hq).pl.len _ (HC.out.1.over HOA.out)).mono ?_
                rintro e yo2 ⟨rfl, hyo2⟩
                replace hq := HQ.out _ _ hq hyo2
                clear hyo2
                go_wp2_with (first | (refine wpList_read _ (by rfl) (exec_hld (by rfl) (by rfl) (HQa.out _ hq)) ?_; simp only [Act.put, List.setIfInBounds_toArray, List.set_cons_zero, List.set_cons_succ]) | (refine wpList_read _ (by rfl) (exec_hld (by rfl) (by rfl) (HQc.out _ hq)) ?_; simp only [Act.put, List.setIfInBounds_toArray, List.set_cons_zero, List.set_cons_succ]) | (refine wpList_read _ (by rfl) (exec_hld (by rfl) (by rfl) (HQe.out _ hq)) ?_; simp only [Act.put, List.setIfInBounds_toArray, List.set_cons_zero, List.set_cons_succ]))
                go_meet
                exact ⟨rfl, Lib.hid hq⟩
          case rest =>
          obtain ⟨rfl, HQ1⟩ := hcut
          have hq := HQ1.out
          clear HQ1 HPA HOA hl1 hl2 hl3 hl4 hl5 hl6
          have x3 := (HQa.out _ hq).cell_at 3 rfl
          rw [HNN.out] at x3
          have y7 := (HQe.out _ hq).cell_at 7 rfl
          have f7 := (HQe.out _ hq).frozen 7
          have b7 := (HQe.out _ hq).set 7 (.int .i64 (N : Int))
          have y20 := b7.cell_at 20 rfl
          have f20 := b7.frozen 20
          have b20 := b7.set 20 (.bool true)
          have HZ := Lib.hid (And.intro (HQy.out _ hq) b20)
          clear b7 b20 hq
          go_upto_region 23 with (fail)
          obtain ⟨W9, hW9⟩ : ∃ W, (wc.setCell ⟨gc, 7, none⟩ (.int .i64 (N : Int))).setCell ⟨gc, 20, none⟩ (.bool true) = W := ⟨_, rfl⟩
          rw [hW9]
          obtain ⟨d, hd⟩ : ∃ d, (a.re x).go N true = d := ⟨_, rfl⟩
          have HD : Hid (d.secs.length = 0 ∧ d.needs.length = 0 ∧ d.over = true ∧ apartH d b = true ∧ HWf d ∧ Small d) := Lib.hid (by
            have hN := HNN.out
            have g2 := HSa.out.p
            have hG : Gone d := by rw [← hd, ← hN]; exact gone_go HMa.out x
            refine ⟨by rw [hG.secs]; rfl, by rw [hG.needs]; rfl, hG.over, hG.apart b, ?_, ?_⟩
            · rw [← hd]; exact HF.out.1.go x (by omega) true
            · rw [← hd]; exact HSa.out.go x N true)
          have h9 : Below y3.heap.size y3 W9 ∧ Whole W9 gc 28 d.cells := by
            have hgc := HGC.out
            rw [← hW9, ← hd]
            refine ⟨(HZ.out.1.setCell (p := ⟨gc, 7, none⟩) (by show y3.heap.size ≤ gc; omega) _).setCell (p := ⟨gc, 20, none⟩) (by show y3.heap.size ≤ gc; omega) _, ?_⟩
            have h := HZ.out.2
            rw [← HCC.out] at h
            exact h
          obtain ⟨Q, HQ, HQb, HQa, HQc, HQe, HLb, HLd, hq⟩ : ∃ R : World → Prop, Hid (Closed R) ∧ Hid (∀ W, R W → Below w.heap.size w W) ∧ Hid (∀ W, R W → Whole W w.heap.size 28 a.cells) ∧ Hid (∀ W, R W → Whole W (w.heap.size + 1) 28 b.cells) ∧ Hid (∀ W, R W → Whole W gc 28 d.cells) ∧ Hid (∀ W, R W → HLies b W) ∧ Hid (∀ W, R W → HLies d W) ∧ R W9 :=
            ⟨fun W => Below y3.heap.size y3 W ∧ Whole W gc 28 d.cells, Lib.hid ((Closed.below y3).and (Closed.whole _ _ _)), Lib.hid fun W h => HK.out.1 W h.1, Lib.hid fun W h => HK.out.2.1 W h.1, Lib.hid fun W h => HK.out.2.2.1 W h.1, Lib.hid fun W h => h.2, Lib.hid fun W h => HK.out.2.2.2 W h.1, Lib.hid fun W h => by rw [← hd]; exact (HLc0.out.on h.1).go N true, h9⟩
          clear hW9 hd h9 HZ x3 y7 f7 y20 f20
          go_wp2_with (first | (refine wpList_read _ (by rfl) (exec_hld (by rfl) (by rfl) (HQa.out _ hq)) ?_; simp only [Act.put, List.setIfInBounds_toArray, List.set_cons_zero, List.set_cons_succ]) | (refine wpList_read _ (by rfl) (exec_hld (by rfl) (by rfl) (HQc.out _ hq)) ?_; simp only [Act.put, List.setIfInBounds_toArray, List.set_cons_zero, List.set_cons_succ]) | (refine wpList_read _ (by rfl) (exec_hld (by rfl) (by rfl) (HQe.out _ hq)) ?_; simp only [Act.put, List.setIfInBounds_toArray, List.set_cons_zero, List.set_cons_succ]))
          refine (Sections_any (HLd.out _ hq) HD.out.2.2.2.2.2).mono ?_
          rintro e y7 ⟨⟨A7, C7⟩, rfl, _, hy7⟩
          replace hq := HQ.out _ _ hq hy7
          rw [HD.out.1]
          clear hy7
          go_wp2_with (first | (refine wpList_read _ (by rfl) (exec_hld (by rfl) (by rfl) (HQa.out _ hq)) ?_; simp only [Act.put, List.setIfInBounds_toArray, List.set_cons_zero, List.set_cons_succ]) | (refine wpList_read _ (by rfl) (exec_hld (by rfl) (by rfl) (HQc.out _ hq)) ?_; simp only [Act.put, List.setIfInBounds_toArray, List.set_cons_zero, List.set_cons_succ]) | (refine wpList_read _ (by rfl) (exec_hld (by rfl) (by rfl) (HQe.out _ hq)) ?_; simp only [Act.put, List.setIfInBounds_toArray, List.set_cons_zero, List.set_cons_succ]))
          refine (Needs_any (HLd.out _ hq) HD.out.2.2.2.2.2).mono ?_
          rintro e y8 ⟨⟨A8, C8⟩, rfl, _, hy8⟩
          replace hq := HQ.out _ _ hq hy8
          rw [HD.out.2.1]
          clear hy8
          go_wp2_with (first | (refine wpList_read _ (by rfl) (exec_hld (by rfl) (by rfl) (HQa.out _ hq)) ?_; simp only [Act.put, List.setIfInBounds_toArray, List.set_cons_zero, List.set_cons_succ]) | (refine wpList_read _ (by rfl) (exec_hld (by rfl) (by rfl) (HQc.out _ hq)) ?_; simp only [Act.put, List.setIfInBounds_toArray, List.set_cons_zero, List.set_cons_succ]) | (refine wpList_read _ (by rfl) (exec_hld (by rfl) (by rfl) (HQe.out _ hq)) ?_; simp only [Act.put, List.setIfInBounds_toArray, List.set_cons_zero, List.set_cons_succ]))
          refine (over_any (HLd.out _ hq).pl.len _ HD.out.2.2.1).mono ?_
          rintro e yo3 ⟨rfl, hyo3⟩
          replace hq := HQ.out _ _ hq hyo3
          clear hyo3
          go_wp2_with (first | (refine wpList_read _ (by rfl) (exec_hld (by rfl) (by rfl) (HQa.out _ hq)) ?_; simp only [Act.put, List.setIfInBounds_toArray, List.set_cons_zero, List.set_cons_succ]) | (refine wpList_read _ (by rfl) (exec_hld (by rfl) (by rfl) (HQc.out _ hq)) ?_; simp only [Act.put, List.setIfInBounds_toArray, List.set_cons_zero, List.set_cons_succ]) | (refine wpList_read _ (by rfl) (exec_hld (by rfl) (by rfl) (HQe.out _ hq)) ?_; simp only [Act.put, List.setIfInBounds_toArray, List.set_cons_zero, List.set_cons_succ]))
          refine (Apart_any (HLd.out _ hq) (HLb.out _ hq) HD.out.2.2.2.2.1 HF.out.2 HD.out.2.2.2.2.2 HSb.out HD.out.2.2.2.1).mono ?_
          rintro e yp3 ⟨rfl, hyp3⟩
          replace hq := HQ.out _ _ hq hyp3
          clear hyp3
          go_wp2_with (first | (refine wpList_read _ (by rfl) (exec_hld (by rfl) (by rfl) (HQa.out _ hq)) ?_; simp only [Act.put, List.setIfInBounds_toArray, List.set_cons_zero, List.set_cons_succ]) | (refine wpList_read _ (by rfl) (exec_hld (by rfl) (by rfl) (HQc.out _ hq)) ?_; simp only [Act.put, List.setIfInBounds_toArray, List.set_cons_zero, List.set_cons_succ]) | (refine wpList_read _ (by rfl) (exec_hld (by rfl) (by rfl) (HQe.out _ hq)) ?_; simp only [Act.put, List.setIfInBounds_toArray, List.set_cons_zero, List.set_cons_succ]))
          refine (HWK.out _).mono ?_
          rintro e ywk ⟨rfl, hywk⟩
          replace hq := HQ.out _ _ hq hywk
          clear hywk
          go_wp2_with (first | (refine wpList_read _ (by rfl) (exec_hld (by rfl) (by rfl) (HQa.out _ hq)) ?_; simp only [Act.put, List.setIfInBounds_toArray, List.set_cons_zero, List.set_cons_succ]) | (refine wpList_read _ (by rfl) (exec_hld (by rfl) (by rfl) (HQc.out _ hq)) ?_; simp only [Act.put, List.setIfInBounds_toArray, List.set_cons_zero, List.set_cons_succ]) | (refine wpList_read _ (by rfl) (exec_hld (by rfl) (by rfl) (HQe.out _ hq)) ?_; simp only [Act.put, List.setIfInBounds_toArray, List.set_cons_zero, List.set_cons_succ]))
          go_ret
          exact ⟨rfl, HQb.out _ hq⟩

end Go.Proofs.Ytljpiafopbfdlaa
