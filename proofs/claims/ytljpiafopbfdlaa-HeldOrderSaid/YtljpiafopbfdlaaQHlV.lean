/- What wakes the laws of stage 17: the chapter's example. -/
import Derived.Deep.CutRange
import Derived.Deep.MidRow
import Derived.RangeFuncNested
import Derived.RangeFuncBound
import Derived.RangeFuncCalls
import Derived.RangeFuncLeaves
import Derived.RangeFuncBox
import Derived.Shelf.Abstract
import Derived.Shelf.RegionOpen
import Derived.WalkKit
import Derived.OwnWalkIn
import Derived.TacticsInMore
import Derived.LoopNIn
import Derived.LoopIn
import Derived.WalkMore
import Derived.Test.YtljpiafopbfdlaaQHlU
import Derived.Test.YtljpiafopbfdlaaQHlJ
import Derived.Test.YtljpiafopbfdlaaQHlN
import Derived.Test.YtljpiafopbfdlaaQHlS
namespace Go.Proofs.Ytljpiafopbfdlaa
open Go.RowKit Go.Shelf
set_option linter.unusedVariables false
set_option linter.unusedSimpArgs false

theorem exec_pickH {o : Oper} {a : Act} {c x y : Operand} (ho : o.op = .pick c x y) {b : Bool} (hc : a.eval c = .bool b) {v : Value} (hv : (if b then a.eval x else a.eval y) = v) {W : World} : (execOp a.eval o).run Try.prog W = .ok (.value v) W := by
  unfold execOp
  simp only [ho, hc, asBool, Sem.run_bind, Sem.run_pure, Result.andThen_ok, hv]
theorem exec_notH {o : Oper} {a : Act} {x : Operand} {t : TypeId} (ho : o.op = .unOp .not t x) {b : Bool} (hx : a.eval x = .bool b) {v : Bool} (hv : (!b) = v) {W : World} : (execOp a.eval o).run Try.prog W = .ok (.value (.bool v)) W := by
  unfold execOp
  simp only [ho, hx, Op.unary, Sem.run_bind, Sem.run_pure, Result.andThen_ok, hv]
  first | done | rfl
def twoG (x : Rm) (gone : Int) (op : Bool) : Hld := { twoH x with gone := gone, op := op }
/-- Where the example's rows lie. -/
structure TwoAt (g : Nat) (W : World) : Prop where
  s : Whole W (g + 1) 44 [.int .i64 3, .int .i64 0, .int .i64 1, .int .i64 5, .int .i64 0, .int .i64 1]
  o : Whole W (g + 1 + 1) 44 [.int .i64 7, .int .i64 0, .int .i64 1]
  n : Whole W (g + 1 + 1 + 1) 40 [.int .i64 9, .int .i64 1, .int .i64 0, .int .i64 8, .int .i64 0, .int .i64 2]
theorem TwoAt.below {g n : Nat} {W W' : World} (h : TwoAt g W) (hb : Below n W W') (hn : g + 1 + 1 + 1 < n) : TwoAt g W' := ⟨h.s.below hb (by omega), h.o.below hb (by omega), h.n.below hb hn⟩
theorem TwoAt.lies {g : Nat} {W : World} (h : TwoAt g W) (gone : Int) (op : Bool) : HLies (twoG (twoR g) gone op) W :=
  ⟨⟨h.s.row h.s.lt, of_decide_eq_true rfl⟩, of_decide_eq_true rfl, h.o.row h.o.lt, of_decide_eq_true rfl, of_decide_eq_true rfl, h.n.row h.n.lt, of_decide_eq_true rfl, of_decide_eq_true rfl⟩
theorem two_wf (x : Rm) (gone : Int) (op : Bool) (h : -9223372036854775808 ≤ gone ∧ gone ≤ 9223372036854775807) : HWf (twoG x gone op) :=
  ⟨fun y hy => by simp [twoG, twoH] at hy; rcases hy with rfl | rfl <;> rfl, fun y hy => by simp [twoG, twoH] at hy; subst hy; rfl, fun y hy => by simp [twoG, twoH] at hy; rcases hy with rfl | rfl <;> exact ⟨rfl, rfl⟩, h⟩
theorem two_small (x : Rm) (gone : Int) (op : Bool) : Small (twoG x gone op) := ⟨of_decide_eq_true rfl, of_decide_eq_true rfl, of_decide_eq_true rfl⟩
theorem two_good (x : Rm) : GoodR (twoG x 1 false) := ⟨rfl, rfl, of_decide_eq_true rfl, rfl, rfl, of_decide_eq_true rfl, rfl, ⟨rfl, rfl, rfl, rfl, rfl, rfl, rfl, rfl, rfl, rfl, rfl, rfl⟩, rfl, rfl⟩
/-- The other one. -/
def thrH (x : Rm) : Hld := { twoH x with p := ⟨0, 0, x.A1, x.c1, [(2, 0, 1), (1, 0, 1)]⟩, oA := none, oc := 0, os := [], ns := [(9, 0, 0), (8, 0, 2)], gone := 0 }
theorem thr_lies {g : Nat} {W : World} (h1 : Whole W (g + 1) 44 [.int .i64 2, .int .i64 0, .int .i64 1, .int .i64 1, .int .i64 0, .int .i64 1]) (h3 : Whole W (g + 1 + 1 + 1) 40 [.int .i64 9, .int .i64 0, .int .i64 0, .int .i64 8, .int .i64 0, .int .i64 2]) : HLies (thrH (twoR g)) W :=
  ⟨⟨h1.row h1.lt, of_decide_eq_true rfl⟩, of_decide_eq_true rfl, Row.nil _ _ _, of_decide_eq_true rfl, of_decide_eq_true rfl, h3.row h3.lt, of_decide_eq_true rfl, of_decide_eq_true rfl⟩
theorem thr_wf (x : Rm) : HWf (thrH x) :=
  ⟨fun y hy => by simp [thrH] at hy; rcases hy with rfl | rfl <;> rfl, fun y hy => by simp [thrH] at hy, fun y hy => by simp [thrH] at hy; rcases hy with rfl | rfl <;> exact ⟨rfl, rfl⟩, of_decide_eq_true rfl⟩
theorem thr_small (x : Rm) : Small (thrH x) := ⟨of_decide_eq_true rfl, of_decide_eq_true rfl, of_decide_eq_true rfl⟩
theorem set_below (W : World) (q k : Nat) (v : Value) : Below q W (W.setCell ⟨q, k, none⟩ v) := (Below.refl q W).setCell (p := ⟨q, k, none⟩) (Nat.le_refl _) v
/-- What the example's end knows. -/
structure WkE (w : World) (gh go ga gb g0 g1 g2 : Nat) (A2 A3 : Option Addr) (W : World) : Prop where
  below : Below w.heap.size w W
  bh : Whole W gh 28 (twoG (twoR g0) 1 false).cells
  bo : Whole W go 28 (twoG (twoR g0) 2 true).cells
  ba : Whole W ga 28 (twoG (twoR g1) 0 false).cells
  bb : Whole W gb 28 (thrH (twoR g2)).cells
  lh : TwoAt g0 W
  la : TwoAt g1 W
  lb : HLies (thrH (twoR g2)) W
  n2 : Row W W.heap.size A2 (nums .i64 [5, 7])
  n3 : Row W W.heap.size A3 ([((8 : Int), (0 : Int), (2 : Int))].flatMap needCells)
theorem WkE.closed (w : World) (gh go ga gb g0 g1 g2 : Nat) (A2 A3 : Option Addr) : Closed (WkE w gh go ga gb g0 g1 g2 A2 A3) := fun W W' ⟨a, b, c, d, e, f, g, h, i, j⟩ hb =>
  ⟨a.trans (hb.mono a.size), b.below hb b.lt, c.below hb c.lt, d.below hb d.lt, e.below hb e.lt, f.below hb f.n.lt, g.below hb g.n.lt, h.on hb, i.on hb, j.on hb⟩
/-- What the example knows while the other one is made. -/
structure WkP (w : World) (gh go ga gb g0 g1 g2 : Nat) (A2 A3 : Option Addr) (c1 bc c3 : List Value) (W : World) : Prop where
  below : Below w.heap.size w W
  bh : Whole W gh 28 (twoG (twoR g0) 1 false).cells
  bo : Whole W go 28 (twoG (twoR g0) 2 true).cells
  ba : Whole W ga 28 (twoG (twoR g1) 0 false).cells
  bb : Whole W gb 28 bc
  lh : TwoAt g0 W
  la : TwoAt g1 W
  k1 : Whole W (g2 + 1) 44 c1
  k3 : Whole W (g2 + 1 + 1 + 1) 40 c3
  n2 : Row W go A2 (nums .i64 [5, 7])
  n3 : Row W go A3 ([((8 : Int), (0 : Int), (2 : Int))].flatMap needCells)
abbrev wkA : List Value := [.int .i64 3, .int .i64 0, .int .i64 1, .int .i64 5, .int .i64 0, .int .i64 1]
abbrev wkN : List Value := [.int .i64 9, .int .i64 1, .int .i64 0, .int .i64 8, .int .i64 0, .int .i64 2]
structure WkL (w : World) (gh go ga gb g0 g1 g2 : Nat) : Prop where
  l0 : w.heap.size ≤ g0
  l1 : g0 + 1 + 1 + 1 < gh
  l2 : gh < go
  l3 : go < g1
  l4 : g1 + 1 + 1 + 1 < g2
  l5 : g2 + 1 + 1 + 1 < ga
  l6 : ga < gb
section
variable {w : World} {gh go ga gb g0 g1 g2 : Nat} {A2 A3 : Option Addr} {c1 bc c3 : List Value} {W : World}
theorem WkP.closed (w : World) (gh go ga gb g0 g1 g2 : Nat) (A2 A3 : Option Addr) (c1 bc c3 : List Value) (hl : WkL w gh go ga gb g0 g1 g2) : Closed (WkP w gh go ga gb g0 g1 g2 A2 A3 c1 bc c3) := fun W W' ⟨a, b, c, d, e, f, g, h, i, j, k⟩ hb =>
  ⟨a.trans (hb.mono a.size), b.below hb b.lt, c.below hb c.lt, d.below hb d.lt, e.below hb e.lt, f.below hb f.n.lt, g.below hb g.n.lt, h.below hb h.lt, i.below hb i.lt, j.below (hb.mono (Nat.le_of_lt c.lt)), k.below (hb.mono (Nat.le_of_lt c.lt))⟩
theorem WkP.set1 (h : WkP w gh go ga gb g0 g1 g2 A2 A3 c1 bc c3 W) (hl : WkL w gh go ga gb g0 g1 g2) (k : Nat) (v : Value) : WkP w gh go ga gb g0 g1 g2 A2 A3 (c1.set k v) bc c3 (W.setCell ⟨g2 + 1, k, none⟩ v) := by
  obtain ⟨l0, l1, l2, l3, l4, l5, l6⟩ := hl
  obtain ⟨a, b, c, d, e, f, g, h, i, j, m⟩ := h
  have hb := set_below W (g2 + 1) k v
  exact ⟨a.setCell (p := ⟨g2 + 1, k, none⟩) (by show w.heap.size ≤ g2 + 1; omega) v, b.below hb (by omega), c.below hb (by omega), d.far (p := ⟨g2 + 1, k, none⟩) (by show ga ≠ g2 + 1; omega) v, e.far (p := ⟨g2 + 1, k, none⟩) (by show gb ≠ g2 + 1; omega) v, f.below hb (by omega), g.below hb (by omega), h.set k v, i.far (p := ⟨g2 + 1, k, none⟩) (by show g2 + 1 + 1 + 1 ≠ g2 + 1; omega) v, j.below (hb.mono (by omega)), m.below (hb.mono (by omega))⟩
theorem WkP.set3 (h : WkP w gh go ga gb g0 g1 g2 A2 A3 c1 bc c3 W) (hl : WkL w gh go ga gb g0 g1 g2) (k : Nat) (v : Value) : WkP w gh go ga gb g0 g1 g2 A2 A3 c1 bc (c3.set k v) (W.setCell ⟨g2 + 1 + 1 + 1, k, none⟩ v) := by
  obtain ⟨l0, l1, l2, l3, l4, l5, l6⟩ := hl
  obtain ⟨a, b, c, d, e, f, g, h, i, j, m⟩ := h
  have hb := set_below W (g2 + 1 + 1 + 1) k v
  exact ⟨a.setCell (p := ⟨g2 + 1 + 1 + 1, k, none⟩) (by show w.heap.size ≤ g2 + 1 + 1 + 1; omega) v, b.below hb (by omega), c.below hb (by omega), d.far (p := ⟨g2 + 1 + 1 + 1, k, none⟩) (by show ga ≠ g2 + 1 + 1 + 1; omega) v, e.far (p := ⟨g2 + 1 + 1 + 1, k, none⟩) (by show gb ≠ g2 + 1 + 1 + 1; omega) v, f.below hb (by omega), g.below hb (by omega), h.far (p := ⟨g2 + 1 + 1 + 1, k, none⟩) (by show g2 + 1 ≠ g2 + 1 + 1 + 1; omega) v, i.set k v, j.below (hb.mono (by omega)), m.below (hb.mono (by omega))⟩
theorem WkP.setb (h : WkP w gh go ga gb g0 g1 g2 A2 A3 c1 bc c3 W) (hl : WkL w gh go ga gb g0 g1 g2) (k : Nat) (v : Value) : WkP w gh go ga gb g0 g1 g2 A2 A3 c1 (bc.set k v) c3 (W.setCell ⟨gb, k, none⟩ v) := by
  obtain ⟨l0, l1, l2, l3, l4, l5, l6⟩ := hl
  obtain ⟨a, b, c, d, e, f, g, h, i, j, m⟩ := h
  have hb := set_below W gb k v
  exact ⟨a.setCell (p := ⟨gb, k, none⟩) (by show w.heap.size ≤ gb; omega) v, b.below hb (by omega), c.below hb (by omega), d.below hb (by omega), e.set k v, f.below hb (by omega), g.below hb (by omega), h.below hb (by omega), i.below hb (by omega), j.below (hb.mono (by omega)), m.below (hb.mono (by omega))⟩
end
theorem sameH_re2 (h : Hld) (x : Rm) : sameH (h.re x) h = true := by simp [sameH, sameP, Hld.re, Hld.r1, Hld.r2, Hld.r3, Hld.was]
set_option maxRecDepth 100000 in
set_option maxHeartbeats 32000000 in
theorem wakes17_B (w : World) : Calls Try.prog 9 #[] w fun e w' => e = .returned (.bool true) ∧ Below w.heap.size w w' := by
  go_enter Try.func9, Try.ntmps9
  go_upto_region 1 with (fail)
  apply wp_region_lit
  refine wpList_callx (by rfl) (by (go_simp; first | done | rfl)) (two_any _) (fun e w1 he => ?_)
  obtain ⟨rfl, hB, hs, t1, t2, t3⟩ := he
  refine ⟨_, rfl, ?_⟩
  simp only [Act.put, List.setIfInBounds_toArray, List.set_cons_zero, List.set_cons_succ]
  obtain ⟨g0, hg0⟩ : ∃ g, w.heap.size = g := ⟨_, rfl⟩
  rw [hg0] at t1 t2 t3 hs
  have T0 : TwoAt g0 w1 := ⟨t1, t2, t3⟩
  have HG0 := Lib.hid hg0
  (try rw [hg0])
  clear t1 t2 t3 hg0
  refine wpList_turn _ _ (by rfl) (by (go_simp; first | done | rfl | exact ⟨rfl, rfl⟩)) ?_
  simp only [Act.put, List.setIfInBounds_toArray, List.set_cons_zero, List.set_cons_succ]
  have hal := below1 w1 (.cells #[.int .i64 0, .int .i64 0, .int .i64 0, .slice none 0 0, .slice none 0 0, .slice none 0 0, .int .u8 0, .int .i64 0, .bool false, .bool false, .bool false, .bool false, .bool false, .bool false, .bool false, .bool false, .bool false, .bool false, .bool false, .bool false, .bool false, .int .i64 0, .bool false] 28)
  have hz := Whole.new w1 28 hld0.cells
  refine wpList_fill 28 (.tmp 1) (.tmp 11) rfl rfl (vs := (twoG (twoR g0) 1 false).cells) (by rfl) (by rfl) hz (by rfl) hld_info (hld_one _) (fun W1 bh hB1 hO1 => ?_)
  simp only [Act.put, List.setIfInBounds_toArray, List.set_cons_zero, List.set_cons_succ]
  have hb1 : Below w1.heap.size w1 W1 := hal.trans (hB1 _ (Nat.le_refl _))
  have T1 := T0.below hb1 (by omega)
  have hBw := hB.trans (hb1.mono hB.size)
  obtain ⟨gh, hgh⟩ : ∃ g, w1.heap.size = g := ⟨_, rfl⟩
  rw [hgh] at bh ⊢
  have hl1 : g0 + 1 + 1 + 1 < gh := by omega
  clear hal hz hB1 hO1 hb1 T0 hB hs hgh
  have HS1 := Lib.hid (And.intro hBw (And.intro bh (And.intro T1 hl1)))
  clear hBw bh T1 hl1
  go_upto_region 2 with (fail)
  refine region_mix (fun W => Below W1.heap.size W1 W) [(0, false), (2, false), (1, true), (3, true), (4, false), (5, false)] (by kernel_rfl) (by kernel_rfl) (fun W => Below W1.heap.size W1 W) ⟨Closed.below W1, fun _ h => h⟩ (Below.refl _ _).drew ?_
  simp only [pickOps, List.getElem?_cons_zero, List.getElem?_cons_succ]
  repeat (first | (refine mix_read _ (by rfl) (fun W hW => exec_hld (by rfl) (by rfl) (HS1.out.2.1.below hW HS1.out.2.1.lt)) ?_; simp only [Act.put, List.setIfInBounds_toArray, List.set_cons_zero, List.set_cons_succ]))
  refine mix_meet (fun x : Option Addr × Nat => .slice x.1 2 x.2) (fun x W => Row W W.heap.size x.1 (nums .i64 [5, 7])) ⟨Closed.below W1, fun _ h => h⟩ (fun x _ _ h hb => h.on hb) _ _ (by rfl) (fun W hW => by (clear hW; go_simp; first | done | rfl)) (fun W hW => Sections_any ((HS1.out.2.2.1.below hW HS1.out.2.2.1.n.lt).lies 1 false) (two_small _ _ _)) (fun x2 => ?_)
  simp only [Act.put, List.setIfInBounds_toArray, List.set_cons_zero, List.set_cons_succ]
  refine mix_meet (fun x : Option Addr × Nat => .slice x.1 1 x.2) (fun x W => Row W W.heap.size x.1 ([((8 : Int), (0 : Int), (2 : Int))].flatMap needCells)) ⟨(Closed.below W1).and (fun _ _ h hb => h.on hb), fun _ h => h.1⟩ (fun x _ _ h hb => h.on hb) _ _ (by rfl) (fun W hW => by (clear hW; go_simp; first | done | rfl)) (fun W hW => Needs_any ((HS1.out.2.2.1.below hW.1 HS1.out.2.2.1.n.lt).lies 1 false) (two_small _ _ _)) (fun x3 => ?_)
  simp only [Act.put, List.setIfInBounds_toArray, List.set_cons_zero, List.set_cons_succ]
  repeat (first | (refine mix_read _ (by rfl) (fun W hW => by (clear hW; go_simp; first | done | with_reducible rfl)) ?_; simp only [Act.put, List.setIfInBounds_toArray, List.set_cons_zero, List.set_cons_succ]))
  refine mix_nil (fun W2 hW => ?_)
  obtain ⟨⟨hb2, n2⟩, n3⟩ := hW
  obtain ⟨hBw, bh, T1, hl1⟩ := HS1.out
  replace bh := bh.below hb2 bh.lt
  replace T1 := T1.below hb2 T1.n.lt
  replace hBw := hBw.trans (hb2.mono hBw.size)
  have hghl := bh.lt
  obtain ⟨A2, c2⟩ := x2
  obtain ⟨A3, c3⟩ := x3
  clear hb2
  have HS2 := Lib.hid (And.intro hBw (And.intro bh (And.intro T1 (And.intro hl1 (And.intro n2 (And.intro n3 hghl))))))
  clear hBw T1 hl1 n2 n3 hghl HS1 bh
  go_upto_region 3 with (fail)
  apply wp_region_lit
  repeat (first | (refine wpList_skip (by rfl) ?_; simp only [Act.put, List.setIfInBounds_toArray, List.set_cons_zero, List.set_cons_succ]) | (refine wpList_read _ (by rfl) (exec_hld (by rfl) (by rfl) HS2.out.2.1) ?_; simp only [Act.put, List.setIfInBounds_toArray, List.set_cons_zero, List.set_cons_succ]) | (refine wpList_read _ (by rfl) (by (go_simp; first | done | with_reducible rfl)) ?_; simp only [Act.put, List.setIfInBounds_toArray, List.set_cons_zero, List.set_cons_succ]))
  refine wpList_turn _ _ (by rfl) (by (go_simp; first | done | rfl | exact ⟨rfl, rfl⟩)) ?_
  simp only [Act.put, List.setIfInBounds_toArray, List.set_cons_zero, List.set_cons_succ]
  have hal := below1 W2 (.cells #[.int .i64 0, .int .i64 0, .int .i64 0, .slice none 0 0, .slice none 0 0, .slice none 0 0, .int .u8 0, .int .i64 0, .bool false, .bool false, .bool false, .bool false, .bool false, .bool false, .bool false, .bool false, .bool false, .bool false, .bool false, .bool false, .bool false, .int .i64 0, .bool false] 28)
  have hz := Whole.new W2 28 hld0.cells
  refine wpList_fill 28 (.tmp 4) (.tmp 16) rfl rfl (vs := (twoG (twoR g0) 1 false).cells) (by rfl) (by rfl) hz (by rfl) hld_info (hld_one _) (fun W3 bo hB3 hO3 => ?_)
  simp only [Act.put, List.setIfInBounds_toArray, List.set_cons_zero, List.set_cons_succ]
  have hb3 : Below W2.heap.size W2 W3 := hal.trans (hB3 _ (Nat.le_refl _))
  obtain ⟨go, hgo⟩ : ∃ g, W2.heap.size = g := ⟨_, rfl⟩
  have bo1 := bo.set 7 (.int .i64 2)
  have bo2 := bo1.set 20 (.bool true)
  rw [hgo] at bo bo1 bo2 ⊢
  have y7 := bo.cell_at 7 rfl
  have f7 := bo.frozen 7
  have y20 := bo1.cell_at 20 rfl
  have f20 := bo1.frozen 20
  have HZ := Lib.hid (And.intro hb3 (And.intro hgo bo2))
  clear hal hz hB3 hO3 hb3 hgo bo bo1 bo2
  go_upto_region 5 with (fail)
  obtain ⟨W4, hW4⟩ : ∃ W, (W3.setCell ⟨go, 7, none⟩ (.int .i64 2)).setCell ⟨go, 20, none⟩ (.bool true) = W := ⟨_, rfl⟩
  obtain ⟨hb3, hgo, bo⟩ := HZ.out
  have hb4 : Below W2.heap.size W2 W4 := by rw [← hW4]; exact (hb3.setCell (p := ⟨go, 7, none⟩) (by show W2.heap.size ≤ go; omega) _).setCell (p := ⟨go, 20, none⟩) (by show W2.heap.size ≤ go; omega) _
  replace bo : Whole W4 go 28 (twoG (twoR g0) 2 true).cells := by rw [← hW4]; exact bo
  rw [hW4]
  clear y7 f7 y20 f20 hb3 hW4
  obtain ⟨hBw, bh, T1, hl1, n2, n3, hghl⟩ := HS2.out
  have hgh2 : gh < go := by omega
  replace bh := bh.below hb4 hghl
  replace T1 := T1.below hb4 (by omega)
  replace hBw := hBw.trans (hb4.mono hBw.size)
  rw [hgo] at n2 n3
  replace n2 := n2.below (hb4.mono (Nat.le_of_eq hgo.symm))
  replace n3 := n3.below (hb4.mono (Nat.le_of_eq hgo.symm))
  have HS4 := Lib.hid (And.intro hBw (And.intro bh (And.intro bo (And.intro T1 (And.intro n2 (And.intro n3 (And.intro hl1 hgh2)))))))
  clear hb4 hBw bh bo T1 n2 n3 hl1 hgh2 hghl hgo HS2 HZ
  apply wp_region_lit
  refine wpList_callx (by rfl) (by (go_simp; first | done | rfl)) (two_any _) (fun e w5 he => ?_)
  obtain ⟨rfl, hB5, hs5, t1, t2, t3⟩ := he
  refine ⟨_, rfl, ?_⟩
  simp only [Act.put, List.setIfInBounds_toArray, List.set_cons_zero, List.set_cons_succ]
  obtain ⟨g1, hg1⟩ : ∃ g, W4.heap.size = g := ⟨_, rfl⟩
  rw [hg1] at t1 t2 t3 hs5
  have Ta : TwoAt g1 w5 := ⟨t1, t2, t3⟩
  have HG1 := Lib.hid hg1
  (try rw [hg1])
  clear t1 t2 t3 hg1
  refine wpList_callx (by rfl) (by (go_simp; first | done | rfl)) (two_any _) (fun e w6 he => ?_)
  obtain ⟨rfl, hB6, hs6, t1, t2, t3⟩ := he
  refine ⟨_, rfl, ?_⟩
  simp only [Act.put, List.setIfInBounds_toArray, List.set_cons_zero, List.set_cons_succ]
  obtain ⟨g2, hg2⟩ : ∃ g, w5.heap.size = g := ⟨_, rfl⟩
  have Ta6 := Ta.below hB6 Ta.n.lt
  rw [hg2] at t1 t2 t3 hs6
  have Tb : TwoAt g2 w6 := ⟨t1, t2, t3⟩
  have HG2 := Lib.hid hg2
  (try rw [hg2])
  clear t1 t2 t3 hg2 Ta
  refine wpList_turn _ _ (by rfl) (by (go_simp; first | done | rfl | exact ⟨rfl, rfl⟩)) ?_
  simp only [Act.put, List.setIfInBounds_toArray, List.set_cons_zero, List.set_cons_succ]
  have hal := below1 w6 (.cells #[.int .i64 0, .int .i64 0, .int .i64 0, .slice none 0 0, .slice none 0 0, .slice none 0 0, .int .u8 0, .int .i64 0, .bool false, .bool false, .bool false, .bool false, .bool false, .bool false, .bool false, .bool false, .bool false, .bool false, .bool false, .bool false, .bool false, .int .i64 0, .bool false] 28)
  have hz := Whole.new w6 28 hld0.cells
  obtain ⟨w7, hw7⟩ : ∃ W, w6.alloc (.cells #[.int .i64 0, .int .i64 0, .int .i64 0, .slice none 0 0, .slice none 0 0, .slice none 0 0, .int .u8 0, .int .i64 0, .bool false, .bool false, .bool false, .bool false, .bool false, .bool false, .bool false, .bool false, .bool false, .bool false, .bool false, .bool false, .bool false, .int .i64 0, .bool false] 28) = W := ⟨_, rfl⟩
  have hs7 : w7.heap.size = w6.heap.size + 1 := by rw [← hw7]; simp
  rw [hw7] at hal
  replace hz : Whole w7 w6.heap.size 28 hld0.cells := by rw [← hw7]; exact hz
  rw [hw7]
  have HS7 := Lib.hid hs7
  clear hw7 hs7
  refine wpList_turn _ _ (by rfl) (by (go_simp; first | done | rfl | exact ⟨rfl, rfl⟩)) ?_
  simp only [Act.put, List.setIfInBounds_toArray, List.set_cons_zero, List.set_cons_succ]
  have hal2 := below1 w7 (.cells #[.int .i64 0, .int .i64 0, .int .i64 0, .slice none 0 0, .slice none 0 0, .slice none 0 0, .int .u8 0, .int .i64 0, .bool false, .bool false, .bool false, .bool false, .bool false, .bool false, .bool false, .bool false, .bool false, .bool false, .bool false, .bool false, .bool false, .int .i64 0, .bool false] 28)
  have hz2 := Whole.new w7 28 hld0.cells
  obtain ⟨w8, hw8⟩ : ∃ W, w7.alloc (.cells #[.int .i64 0, .int .i64 0, .int .i64 0, .slice none 0 0, .slice none 0 0, .slice none 0 0, .int .u8 0, .int .i64 0, .bool false, .bool false, .bool false, .bool false, .bool false, .bool false, .bool false, .bool false, .bool false, .bool false, .bool false, .bool false, .bool false, .int .i64 0, .bool false] 28) = W := ⟨_, rfl⟩
  rw [hw8] at hal2
  replace hz2 : Whole w8 w7.heap.size 28 hld0.cells := by rw [← hw8]; exact hz2
  rw [hw8]
  clear hw8
  have hz1 := hz.below hal2 hz.lt
  obtain ⟨ga, hga⟩ : ∃ g, w6.heap.size = g := ⟨_, rfl⟩
  obtain ⟨gb, hgb⟩ : ∃ g, w7.heap.size = g := ⟨_, rfl⟩
  rw [hga] at hz1
  rw [hgb] at hz2
  have hab : gb = ga + 1 := by have := HS7.out; omega
  have HGA := Lib.hid (And.intro hga (And.intro hgb hab))
  rw [hga, hgb]
  clear hga hgb hab hz
  refine wpList_fill 28 (.tmp 5) (.tmp 19) rfl rfl (vs := (twoG (twoR g1) 1 false).cells) (by rfl) (by rfl) hz1 (by rfl) hld_info (hld_one _) (fun w9 ba hB9 hO9 => ?_)
  simp only [Act.put, List.setIfInBounds_toArray, List.set_cons_zero, List.set_cons_succ]
  have hz3 := (hO9 gb (by have := HGA.out; omega)).trans hz2
  refine wpList_fill 28 (.tmp 6) (.tmp 20) rfl rfl (vs := (twoG (twoR g2) 1 false).cells) (by rfl) (by rfl) hz3 (by rfl) hld_info (hld_one _) (fun X bb hB10 hO10 => ?_)
  simp only [Act.put, List.setIfInBounds_toArray, List.set_cons_zero, List.set_cons_succ]
  replace ba : Whole X ga 28 (twoG (twoR g1) 1 false).cells := (hO10 ga (by have := HGA.out; omega)).trans ba
  obtain ⟨hga, hgb, hab⟩ := HGA.out
  have hbX : Below w6.heap.size w6 X := (((hal.trans (hal2.mono hal.size)).trans (hB9 _ (by omega))).trans (hB10 _ (by omega)))
  have hb4X : Below W4.heap.size W4 X := (hB5.trans (hB6.mono hB5.size)).trans (hbX.mono (Nat.le_trans hB5.size hB6.size))
  have ba2 := ba.set 7 (.int .i64 0)
  have f7 := ba.frozen 7
  have y7 := ba.cell_at 7 rfl
  have bb2 := bb.far (p := ⟨ga, 7, none⟩) (by show gb ≠ ga; omega) (.int .i64 0)
  have HT := Lib.hid (And.intro ba2 (And.intro bb2 (And.intro (Ta6.below hbX Ta6.n.lt) (And.intro (Tb.below hbX Tb.n.lt) hb4X))))
  have HLs := Lib.hid (And.intro hs5 hs6)
  clear hB5 hB6 hal hal2 hz1 hz2 hz3 hB9 hO9 hB10 hO10 ba bb ba2 bb2 Ta6 Tb hbX hb4X hga hgb hab hs5 hs6
  go_upto_region 7 with (fail)
  obtain ⟨X9, hX9⟩ : ∃ W, X.setCell ⟨ga, 7, none⟩ (.int .i64 0) = W := ⟨_, rfl⟩
  rw [hX9]
  have HWL : Hid (WkL w gh go ga gb g0 g1 g2) := Lib.hid (by
    obtain ⟨hga, hgb, hab⟩ := HGA.out
    obtain ⟨hBw, bh, bo, T1, n2, n3, hl1, hgh2⟩ := HS4.out
    obtain ⟨hs5, hs6⟩ := HLs.out
    have := bo.lt
    have := HG0.out
    have := HG1.out
    have := HG2.out
    exact ⟨by omega, hl1, hgh2, by omega, by omega, by omega, by omega⟩)
  have hP : WkP w gh go ga gb g0 g1 g2 A2 A3 wkA (twoG (twoR g2) 1 false).cells wkN X9 := by
    obtain ⟨ba, bb, Ta, Tb, hb4X⟩ := HT.out
    obtain ⟨hBw, bh, bo, T1, n2, n3, hl1, hgh2⟩ := HS4.out
    obtain ⟨l0, l1, l2, l3, l4, l5, l6⟩ := HWL.out
    have hb := set_below X ga 7 (.int .i64 0)
    have hg1 := HG1.out
    rw [← hX9]
    exact ⟨(hBw.trans (hb4X.mono hBw.size)).setCell (p := ⟨ga, 7, none⟩) (by show w.heap.size ≤ ga; omega) _, (bh.below hb4X bh.lt).below hb (by omega), (bo.below hb4X bo.lt).below hb (by omega), ba, bb, (T1.below hb4X T1.n.lt).below hb (by omega), Ta.below hb (by omega), Tb.s.below hb (by omega), Tb.n.below hb (by omega), (n2.below (hb4X.mono (by omega))).below (hb.mono (by omega)), (n3.below (hb4X.mono (by omega))).below (hb.mono (by omega))⟩
  have HP := Lib.hid hP
  clear y7 f7 hX9 hP HT HS4 HLs
  refine region_mix (fun W => ∃ d1 d3 db, db[3]? = some (.slice (some ⟨g2 + 1, 0, none⟩) 2 2) ∧ WkP w gh go ga gb g0 g1 g2 A2 A3 d1 db d3 W) [(0, false), (1, false), (2, false), (3, false), (4, false), (5, false), (6, false), (7, false), (8, true), (9, false), (10, false), (11, true), (12, false), (13, true)] (by kernel_rfl) (by kernel_rfl) (WkP w gh go ga gb g0 g1 g2 A2 A3 wkA (twoG (twoR g2) 1 false).cells wkN) ⟨WkP.closed _ _ _ _ _ _ _ _ _ _ _ _ _ HWL.out, fun W hW => ⟨_, _, _, rfl, hW⟩⟩ (WkP.closed _ _ _ _ _ _ _ _ _ _ _ _ _ HWL.out _ _ HP.out (Below.refl _ _).drew) ?_
  simp only [pickOps, List.getElem?_cons_zero, List.getElem?_cons_succ]
  repeat (first | (refine mix_read _ (by rfl) (fun W hW => by (obtain ⟨d1, d3, db, hb3, hP⟩ := hW; have c := hP.bb.cell_at 3 hb3; clear hP hb3; go_simp; first | done | with_reducible rfl)) ?_; simp only [Act.put, List.setIfInBounds_toArray, List.set_cons_zero, List.set_cons_succ]))
  refine mix_store (WkP w gh go ga gb g0 g1 g2 A2 A3 (wkA.set 3 (.int .i64 1)) (twoG (twoR g2) 1 false).cells wkN) (fun W => W.setCell ⟨g2 + 1, 3, none⟩ (.int .i64 1)) ⟨WkP.closed _ _ _ _ _ _ _ _ _ _ _ _ _ HWL.out, fun W hW => ⟨_, _, _, rfl, hW⟩⟩ (by rfl) (fun W hW => by (have c := hW.k1.cell_at 3 rfl; have f := hW.k1.frozen 3; clear hW; go_simp; first | done | rfl)) (fun W hW => hW.set1 HWL.out 3 _) ?_
  simp only [Act.put, List.setIfInBounds_toArray, List.set_cons_zero, List.set_cons_succ]
  repeat (first | (refine mix_read _ (by rfl) (fun W hW => by (obtain ⟨d1, d3, db, hb3, hP⟩ := hW; have c := hP.bb.cell_at 3 hb3; clear hP hb3; go_simp; first | done | with_reducible rfl)) ?_; simp only [Act.put, List.setIfInBounds_toArray, List.set_cons_zero, List.set_cons_succ]))
  refine mix_store (WkP w gh go ga gb g0 g1 g2 A2 A3 ((wkA.set 3 (.int .i64 1)).set 0 (.int .i64 2)) (twoG (twoR g2) 1 false).cells wkN) (fun W => W.setCell ⟨g2 + 1, 0, none⟩ (.int .i64 2)) ⟨WkP.closed _ _ _ _ _ _ _ _ _ _ _ _ _ HWL.out, fun W hW => ⟨_, _, _, rfl, hW⟩⟩ (by rfl) (fun W hW => by (have c := hW.k1.cell_at 0 rfl; have f := hW.k1.frozen 0; clear hW; go_simp; first | done | rfl)) (fun W hW => hW.set1 HWL.out 0 _) ?_
  simp only [Act.put, List.setIfInBounds_toArray, List.set_cons_zero, List.set_cons_succ]
  repeat (first | (refine mix_read _ (by rfl) (fun W hW => by (obtain ⟨d1, d3, db, hb3, hP⟩ := hW; have c := hP.bb.cell_at 3 hb3; clear hP hb3; go_simp; first | done | with_reducible rfl)) ?_; simp only [Act.put, List.setIfInBounds_toArray, List.set_cons_zero, List.set_cons_succ]))
  refine mix_store (WkP w gh go ga gb g0 g1 g2 A2 A3 ((wkA.set 3 (.int .i64 1)).set 0 (.int .i64 2)) ((twoG (twoR g2) 1 false).cells.set 4 (.slice none 0 0)) wkN) (fun W => W.setCell ⟨gb, 4, none⟩ (.slice none 0 0)) ⟨WkP.closed _ _ _ _ _ _ _ _ _ _ _ _ _ HWL.out, fun W hW => ⟨_, _, _, rfl, hW⟩⟩ (by rfl) (fun W hW => by (have c := hW.bb.cell_at 4 rfl; have f := hW.bb.frozen 4; clear hW; go_simp; first | done | rfl)) (fun W hW => hW.setb HWL.out 4 _) ?_
  simp only [Act.put, List.setIfInBounds_toArray, List.set_cons_zero, List.set_cons_succ]
  refine mix_nil (fun X2 hW => ?_)
  clear HP
  have HP2 := Lib.hid hW
  have f7 := hW.bb.frozen 7
  have y7 := hW.bb.cell_at 7 rfl
  clear hW
  go_upto_region 9 with (fail)
  have hP3 := HP2.out.setb HWL.out 7 (.int .i64 0)
  obtain ⟨X3, hX3⟩ : ∃ W, X2.setCell ⟨gb, 7, none⟩ (.int .i64 0) = W := ⟨_, rfl⟩
  rw [hX3] at hP3
  rw [hX3]
  have y5 : X3.cell? ⟨gb, 5, none⟩ = some (.slice (some ⟨g2 + 1 + 1 + 1, 0, none⟩) 2 2) := hP3.bb.cell_at 5 rfl
  have z1 : X3.cell? ⟨g2 + 1 + 1 + 1, 1, none⟩ = some (.int .i64 1) := hP3.k3.cell_at 1 rfl
  have f1 := hP3.k3.frozen 1
  have HP3 := Lib.hid hP3
  clear f7 y7 hX3 hP3 HP2
  go_upto_region 10 with (fail)
  have hP4 := HP3.out.set3 HWL.out 1 (.int .i64 0)
  obtain ⟨X4, hX4⟩ : ∃ W, X3.setCell ⟨g2 + 1 + 1 + 1, 1, none⟩ (.int .i64 0) = W := ⟨_, rfl⟩
  rw [hX4] at hP4
  rw [hX4]
  obtain ⟨Q, HQ, HQE, hq⟩ : ∃ Q : World → Prop, Hid (Closed Q) ∧ Hid (∀ W, Q W → WkE w gh go ga gb g0 g1 g2 A2 A3 W) ∧ Q X4 := ⟨WkE w gh go ga gb g0 g1 g2 A2 A3, Lib.hid (WkE.closed _ _ _ _ _ _ _ _ _ _), Lib.hid fun _ h => h, by
    obtain ⟨a, b, c, d, e, f, g, h, i, j, k⟩ := hP4
    have hc := c.lt
    exact ⟨a, b, c, d, e, f, g, thr_lies h i, j.mono (Nat.le_of_lt hc), k.mono (Nat.le_of_lt hc)⟩⟩
  clear y5 z1 f1 hX4 hP4 HP3 HWL HG0 HG1 HG2 HS7 HGA
  apply wp_region_lit
  repeat (first | (refine wpList_read _ (by rfl) (exec_move (by rfl) (by rfl)) ?_; simp only [Act.put, List.setIfInBounds_toArray, List.set_cons_zero, List.set_cons_succ]) | (refine wpList_read _ (by rfl) (exec_assign (by rfl) (by rfl)) ?_; simp only [Act.put, List.setIfInBounds_toArray, List.set_cons_zero, List.set_cons_succ]) | (refine wpList_read _ (by rfl) (exec_hld (by rfl) (by rfl) (HQE.out _ hq).bh) ?_; simp only [Act.put, List.setIfInBounds_toArray, List.set_cons_zero, List.set_cons_succ]) | (refine wpList_read _ (by rfl) (exec_hld (by rfl) (by rfl) (HQE.out _ hq).bo) ?_; simp only [Act.put, List.setIfInBounds_toArray, List.set_cons_zero, List.set_cons_succ]) | (refine wpList_read _ (by rfl) (exec_hld (by rfl) (by rfl) (HQE.out _ hq).ba) ?_; simp only [Act.put, List.setIfInBounds_toArray, List.set_cons_zero, List.set_cons_succ]) | (refine wpList_read _ (by rfl) (exec_hld (by rfl) (by rfl) (HQE.out _ hq).bb) ?_; simp only [Act.put, List.setIfInBounds_toArray, List.set_cons_zero, List.set_cons_succ]) | (refine wpList_read _ (by rfl) (by (go_simp; first | done | with_reducible rfl)) ?_; simp only [Act.put, List.setIfInBounds_toArray, List.set_cons_zero, List.set_cons_succ]))
  refine wpList_callv (by rfl) (by (go_simp; first | done | rfl)) (Wants_any 9 ((HQE.out _ hq).la.lies 0 false) (c := 1) (ok := true) rfl) (fun y1 hy1 => ?_)
  simp only [Act.put, List.setIfInBounds_toArray, List.set_cons_zero, List.set_cons_succ]
  replace hq := HQ.out _ _ hq hy1
  clear hy1
  repeat (first | (refine wpList_read _ (by rfl) (exec_move (by rfl) (by rfl)) ?_; simp only [Act.put, List.setIfInBounds_toArray, List.set_cons_zero, List.set_cons_succ]) | (refine wpList_read _ (by rfl) (exec_assign (by rfl) (by rfl)) ?_; simp only [Act.put, List.setIfInBounds_toArray, List.set_cons_zero, List.set_cons_succ]) | (refine wpList_read _ (by rfl) (exec_hld (by rfl) (by rfl) (HQE.out _ hq).bh) ?_; simp only [Act.put, List.setIfInBounds_toArray, List.set_cons_zero, List.set_cons_succ]) | (refine wpList_read _ (by rfl) (exec_hld (by rfl) (by rfl) (HQE.out _ hq).bo) ?_; simp only [Act.put, List.setIfInBounds_toArray, List.set_cons_zero, List.set_cons_succ]) | (refine wpList_read _ (by rfl) (exec_hld (by rfl) (by rfl) (HQE.out _ hq).ba) ?_; simp only [Act.put, List.setIfInBounds_toArray, List.set_cons_zero, List.set_cons_succ]) | (refine wpList_read _ (by rfl) (exec_hld (by rfl) (by rfl) (HQE.out _ hq).bb) ?_; simp only [Act.put, List.setIfInBounds_toArray, List.set_cons_zero, List.set_cons_succ]) | (refine wpList_read _ (by rfl) (by (go_simp; first | done | with_reducible rfl)) ?_; simp only [Act.put, List.setIfInBounds_toArray, List.set_cons_zero, List.set_cons_succ]))
  go_upto_region 11 with (fail)
  apply wp_region_lit
  repeat (first | (refine wpList_read _ (by rfl) (exec_move (by rfl) (by rfl)) ?_; simp only [Act.put, List.setIfInBounds_toArray, List.set_cons_zero, List.set_cons_succ]) | (refine wpList_read _ (by rfl) (exec_assign (by rfl) (by rfl)) ?_; simp only [Act.put, List.setIfInBounds_toArray, List.set_cons_zero, List.set_cons_succ]) | (refine wpList_read _ (by rfl) (exec_hld (by rfl) (by rfl) (HQE.out _ hq).bh) ?_; simp only [Act.put, List.setIfInBounds_toArray, List.set_cons_zero, List.set_cons_succ]) | (refine wpList_read _ (by rfl) (exec_hld (by rfl) (by rfl) (HQE.out _ hq).bo) ?_; simp only [Act.put, List.setIfInBounds_toArray, List.set_cons_zero, List.set_cons_succ]) | (refine wpList_read _ (by rfl) (exec_hld (by rfl) (by rfl) (HQE.out _ hq).ba) ?_; simp only [Act.put, List.setIfInBounds_toArray, List.set_cons_zero, List.set_cons_succ]) | (refine wpList_read _ (by rfl) (exec_hld (by rfl) (by rfl) (HQE.out _ hq).bb) ?_; simp only [Act.put, List.setIfInBounds_toArray, List.set_cons_zero, List.set_cons_succ]) | (refine wpList_read _ (by rfl) (by (go_simp; first | done | with_reducible rfl)) ?_; simp only [Act.put, List.setIfInBounds_toArray, List.set_cons_zero, List.set_cons_succ]))
  refine wpList_callv (by rfl) (by (go_simp; first | done | rfl)) (Wants_any 9 ((HQE.out _ hq).lh.lies 1 false) (c := 0) (ok := false) rfl) (fun y2 hy2 => ?_)
  simp only [Act.put, List.setIfInBounds_toArray, List.set_cons_zero, List.set_cons_succ]
  replace hq := HQ.out _ _ hq hy2
  clear hy2
  repeat (first | (refine wpList_read _ (by rfl) (exec_move (by rfl) (by rfl)) ?_; simp only [Act.put, List.setIfInBounds_toArray, List.set_cons_zero, List.set_cons_succ]) | (refine wpList_read _ (by rfl) (exec_assign (by rfl) (by rfl)) ?_; simp only [Act.put, List.setIfInBounds_toArray, List.set_cons_zero, List.set_cons_succ]) | (refine wpList_read _ (by rfl) (exec_hld (by rfl) (by rfl) (HQE.out _ hq).bh) ?_; simp only [Act.put, List.setIfInBounds_toArray, List.set_cons_zero, List.set_cons_succ]) | (refine wpList_read _ (by rfl) (exec_hld (by rfl) (by rfl) (HQE.out _ hq).bo) ?_; simp only [Act.put, List.setIfInBounds_toArray, List.set_cons_zero, List.set_cons_succ]) | (refine wpList_read _ (by rfl) (exec_hld (by rfl) (by rfl) (HQE.out _ hq).ba) ?_; simp only [Act.put, List.setIfInBounds_toArray, List.set_cons_zero, List.set_cons_succ]) | (refine wpList_read _ (by rfl) (exec_hld (by rfl) (by rfl) (HQE.out _ hq).bb) ?_; simp only [Act.put, List.setIfInBounds_toArray, List.set_cons_zero, List.set_cons_succ]) | (refine wpList_read _ (by rfl) (by (go_simp; first | done | with_reducible rfl)) ?_; simp only [Act.put, List.setIfInBounds_toArray, List.set_cons_zero, List.set_cons_succ]))
  go_upto_region 13 with (fail)
  obtain ⟨b2, o2, rfl, _, _⟩ := (HQE.out _ hq).n2.num (show 0 < 2 by decide)
  obtain ⟨b3, o3, rfl, _, _⟩ := (HQE.out _ hq).n3 (by decide)
  have HN : Hid (∀ W, Q W → W.cell? ⟨b2, o2, none⟩ = some (.int .i64 5) ∧ W.cell? ⟨b2, o2 + 1, none⟩ = some (.int .i64 7) ∧ W.cell? ⟨b3, o3, none⟩ = some (.int .i64 8)) := Lib.hid fun W hW => by
    obtain ⟨b, o, e, _, hc⟩ := (HQE.out W hW).n2 (by decide)
    obtain ⟨b', o', e', _, hc'⟩ := (HQE.out W hW).n3 (by decide)
    cases e
    cases e'
    exact ⟨hc 0 _ rfl, hc 1 _ rfl, hc' 0 _ rfl⟩
  have HBS : Hid (∀ W, Below y2.heap.size y2 W → Q W) := Lib.hid (fun W hB => HQ.out _ _ hq hB)
  clear hq
  refine region_mix (fun W => Below y2.heap.size y2 W) [(0, false), (1, false), (2, false), (3, false), (4, false), (5, false), (6, false), (7, false), (8, false), (9, false), (10, false), (11, false), (12, false), (13, false), (14, false), (15, false), (16, false), (17, false), (18, false), (19, false), (20, false), (21, false), (22, false), (23, false), (24, false), (25, false), (26, false), (27, false), (28, false), (29, false), (30, false), (31, false), (32, false), (33, false), (34, false), (35, false), (36, false), (37, true), (38, false), (39, false), (40, false), (41, false), (42, false), (43, false), (44, false), (45, false), (46, false), (47, false), (48, false), (49, false), (50, false), (51, false), (52, false), (53, false), (54, false), (55, false), (56, false), (57, false), (58, false), (59, false), (60, false), (61, false), (62, false), (63, false), (64, false), (65, false), (66, false), (67, false), (68, false), (69, false), (70, false), (71, false), (72, false), (73, false), (75, false), (74, true), (76, true), (77, false), (78, false), (79, false), (80, false), (81, false), (82, false), (83, false), (84, false)] (by kernel_rfl) (by kernel_rfl) (fun W => Below y2.heap.size y2 W) ⟨Closed.below y2, fun _ h => h⟩ (Below.refl _ _).drew ?_
  simp only [List.append_eq, List.cons_append, List.nil_append, pickOps, List.getElem?_cons_zero, List.getElem?_cons_succ]
  refine mix_read _ (by rfl) (fun W hW => by (clear hW; go_simp; first | done | with_reducible rfl)) ?_
  simp only [Act.put, List.setIfInBounds_toArray, List.set_cons_zero, List.set_cons_succ]
  refine mix_read _ (by rfl) (fun W hW => by (clear hW; go_simp; first | done | with_reducible rfl)) ?_
  simp only [Act.put, List.setIfInBounds_toArray, List.set_cons_zero, List.set_cons_succ]
  refine mix_read _ (by rfl) (fun W hW => by (obtain ⟨d5, d7, d8⟩ := HN.out W (HBS.out W hW); clear hW; go_simp; first | done | with_reducible rfl)) ?_
  simp only [Act.put, List.setIfInBounds_toArray, List.set_cons_zero, List.set_cons_succ]
  refine mix_read _ (by rfl) (fun W hW => by (clear hW; go_simp; first | done | with_reducible rfl)) ?_
  simp only [Act.put, List.setIfInBounds_toArray, List.set_cons_zero, List.set_cons_succ]
  refine mix_read _ (by rfl) (fun W hW => exec_move (v := .bool true) (by rfl) (by rfl)) ?_
  simp only [Act.put, List.setIfInBounds_toArray, List.set_cons_zero, List.set_cons_succ]
  refine mix_read _ (by rfl) (fun W hW => by (clear hW; go_simp; first | done | with_reducible rfl)) ?_
  simp only [Act.put, List.setIfInBounds_toArray, List.set_cons_zero, List.set_cons_succ]
  refine mix_read _ (by rfl) (fun W hW => by (clear hW; go_simp; first | done | with_reducible rfl)) ?_
  simp only [Act.put, List.setIfInBounds_toArray, List.set_cons_zero, List.set_cons_succ]
  refine mix_read _ (by rfl) (fun W hW => by (obtain ⟨d5, d7, d8⟩ := HN.out W (HBS.out W hW); clear hW; go_simp; first | done | with_reducible rfl)) ?_
  simp only [Act.put, List.setIfInBounds_toArray, List.set_cons_zero, List.set_cons_succ]
  refine mix_read _ (by rfl) (fun W hW => by (clear hW; go_simp; first | done | with_reducible rfl)) ?_
  simp only [Act.put, List.setIfInBounds_toArray, List.set_cons_zero, List.set_cons_succ]
  refine mix_read _ (by rfl) (fun W hW => exec_pickH (b := true) (v := .bool true) (by rfl) (by rfl) (by rfl)) ?_
  simp only [Act.put, List.setIfInBounds_toArray, List.set_cons_zero, List.set_cons_succ]
  refine mix_read _ (by rfl) (fun W hW => exec_move (v := .bool true) (by rfl) (by rfl)) ?_
  simp only [Act.put, List.setIfInBounds_toArray, List.set_cons_zero, List.set_cons_succ]
  refine mix_read _ (by rfl) (fun W hW => by (clear hW; go_simp; first | done | with_reducible rfl)) ?_
  simp only [Act.put, List.setIfInBounds_toArray, List.set_cons_zero, List.set_cons_succ]
  refine mix_read _ (by rfl) (fun W hW => by (clear hW; go_simp; first | done | with_reducible rfl)) ?_
  simp only [Act.put, List.setIfInBounds_toArray, List.set_cons_zero, List.set_cons_succ]
  refine mix_read _ (by rfl) (fun W hW => by (clear hW; go_simp; first | done | with_reducible rfl)) ?_
  simp only [Act.put, List.setIfInBounds_toArray, List.set_cons_zero, List.set_cons_succ]
  refine mix_read _ (by rfl) (fun W hW => by (obtain ⟨d5, d7, d8⟩ := HN.out W (HBS.out W hW); clear hW; go_simp; first | done | with_reducible rfl)) ?_
  simp only [Act.put, List.setIfInBounds_toArray, List.set_cons_zero, List.set_cons_succ]
  refine mix_read _ (by rfl) (fun W hW => by (clear hW; go_simp; first | done | with_reducible rfl)) ?_
  simp only [Act.put, List.setIfInBounds_toArray, List.set_cons_zero, List.set_cons_succ]
  refine mix_read _ (by rfl) (fun W hW => exec_pickH (b := true) (v := .bool true) (by rfl) (by rfl) (by rfl)) ?_
  simp only [Act.put, List.setIfInBounds_toArray, List.set_cons_zero, List.set_cons_succ]
  refine mix_read _ (by rfl) (fun W hW => exec_move (v := .bool true) (by rfl) (by rfl)) ?_
  simp only [Act.put, List.setIfInBounds_toArray, List.set_cons_zero, List.set_cons_succ]
  refine mix_read _ (by rfl) (fun W hW => exec_hld (by rfl) (by rfl) (HQE.out W (HBS.out W hW)).bh) ?_
  simp only [Act.put, List.setIfInBounds_toArray, List.set_cons_zero, List.set_cons_succ]
  refine mix_call _ _ _ (by rfl) (fun W hW => by (clear hW; go_simp; first | done | rfl)) (fun W hW => Has_any 7 ((HQE.out W (HBS.out W hW)).lh.lies 1 false) (r := true) rfl) ?_
  simp only [Act.put, List.setIfInBounds_toArray, List.set_cons_zero, List.set_cons_succ]
  refine mix_read _ (by rfl) (fun W hW => exec_pickH (b := true) (v := .bool true) (by rfl) (by rfl) (by rfl)) ?_
  simp only [Act.put, List.setIfInBounds_toArray, List.set_cons_zero, List.set_cons_succ]
  refine mix_read _ (by rfl) (fun W hW => exec_move (v := .bool true) (by rfl) (by rfl)) ?_
  simp only [Act.put, List.setIfInBounds_toArray, List.set_cons_zero, List.set_cons_succ]
  refine mix_read _ (by rfl) (fun W hW => exec_hld (by rfl) (by rfl) (HQE.out W (HBS.out W hW)).bh) ?_
  simp only [Act.put, List.setIfInBounds_toArray, List.set_cons_zero, List.set_cons_succ]
  refine mix_call _ _ _ (by rfl) (fun W hW => by (clear hW; go_simp; first | done | rfl)) (fun W hW => Has_any 3 ((HQE.out W (HBS.out W hW)).lh.lies 1 false) (r := false) rfl) ?_
  simp only [Act.put, List.setIfInBounds_toArray, List.set_cons_zero, List.set_cons_succ]
  refine mix_read _ (by rfl) (fun W hW => exec_notH (b := false) (v := true) (by rfl) (by rfl) (by rfl)) ?_
  simp only [Act.put, List.setIfInBounds_toArray, List.set_cons_zero, List.set_cons_succ]
  refine mix_read _ (by rfl) (fun W hW => exec_pickH (b := true) (v := .bool true) (by rfl) (by rfl) (by rfl)) ?_
  simp only [Act.put, List.setIfInBounds_toArray, List.set_cons_zero, List.set_cons_succ]
  refine mix_read _ (by rfl) (fun W hW => exec_move (v := .bool true) (by rfl) (by rfl)) ?_
  simp only [Act.put, List.setIfInBounds_toArray, List.set_cons_zero, List.set_cons_succ]
  refine mix_read _ (by rfl) (fun W hW => exec_hld (by rfl) (by rfl) (HQE.out W (HBS.out W hW)).bo) ?_
  simp only [Act.put, List.setIfInBounds_toArray, List.set_cons_zero, List.set_cons_succ]
  refine mix_call _ _ _ (by rfl) (fun W hW => by (clear hW; go_simp; first | done | rfl)) (fun W hW => over_any (h := twoG (twoR g0) 2 true) ((HQE.out W (HBS.out W hW)).lh.lies 2 true).pl.len _ (r := true) rfl) ?_
  simp only [Act.put, List.setIfInBounds_toArray, List.set_cons_zero, List.set_cons_succ]
  refine mix_read _ (by rfl) (fun W hW => exec_pickH (b := true) (v := .bool true) (by rfl) (by rfl) (by rfl)) ?_
  simp only [Act.put, List.setIfInBounds_toArray, List.set_cons_zero, List.set_cons_succ]
  refine mix_read _ (by rfl) (fun W hW => exec_move (v := .bool true) (by rfl) (by rfl)) ?_
  simp only [Act.put, List.setIfInBounds_toArray, List.set_cons_zero, List.set_cons_succ]
  refine mix_read _ (by rfl) (fun W hW => exec_hld (by rfl) (by rfl) (HQE.out W (HBS.out W hW)).bh) ?_
  simp only [Act.put, List.setIfInBounds_toArray, List.set_cons_zero, List.set_cons_succ]
  refine mix_call _ _ _ (by rfl) (fun W hW => by (clear hW; go_simp; first | done | rfl)) (fun W hW => over_any (h := twoG (twoR g0) 1 false) ((HQE.out W (HBS.out W hW)).lh.lies 1 false).pl.len _ (r := false) rfl) ?_
  simp only [Act.put, List.setIfInBounds_toArray, List.set_cons_zero, List.set_cons_succ]
  refine mix_read _ (by rfl) (fun W hW => exec_notH (b := false) (v := true) (by rfl) (by rfl) (by rfl)) ?_
  simp only [Act.put, List.setIfInBounds_toArray, List.set_cons_zero, List.set_cons_succ]
  refine mix_read _ (by rfl) (fun W hW => exec_pickH (b := true) (v := .bool true) (by rfl) (by rfl) (by rfl)) ?_
  simp only [Act.put, List.setIfInBounds_toArray, List.set_cons_zero, List.set_cons_succ]
  refine mix_read _ (by rfl) (fun W hW => exec_move (v := .bool true) (by rfl) (by rfl)) ?_
  simp only [Act.put, List.setIfInBounds_toArray, List.set_cons_zero, List.set_cons_succ]
  refine mix_read _ (by rfl) (fun W hW => exec_hld (by rfl) (by rfl) (HQE.out W (HBS.out W hW)).bo) ?_
  simp only [Act.put, List.setIfInBounds_toArray, List.set_cons_zero, List.set_cons_succ]
  refine mix_meet (fun x : Option Addr × Nat => .slice x.1 0 x.2) (fun _ _ => True) ⟨Closed.below y2, fun _ h => h⟩ (fun _ _ _ _ _ => trivial) _ _ (by rfl) (fun W hW => by (clear hW; go_simp; first | done | rfl)) (fun W hW => (Sections_any ((HQE.out W (HBS.out W hW)).lh.lies 2 true) (two_small _ _ _)).mono fun e w' ⟨x, h1, _, h3⟩ => ⟨x, h1, trivial, h3⟩) (fun x7 => ?_)
  simp only [Act.put, List.setIfInBounds_toArray, List.set_cons_zero, List.set_cons_succ]
  refine mix_read _ (by rfl) (fun W hW => by (clear hW; go_simp; first | done | with_reducible rfl)) ?_
  simp only [Act.put, List.setIfInBounds_toArray, List.set_cons_zero, List.set_cons_succ]
  refine mix_read _ (by rfl) (fun W hW => by (clear hW; go_simp; first | done | with_reducible rfl)) ?_
  simp only [Act.put, List.setIfInBounds_toArray, List.set_cons_zero, List.set_cons_succ]
  refine mix_read _ (by rfl) (fun W hW => exec_pickH (b := true) (v := .bool true) (by rfl) (by rfl) (by rfl)) ?_
  simp only [Act.put, List.setIfInBounds_toArray, List.set_cons_zero, List.set_cons_succ]
  refine mix_read _ (by rfl) (fun W hW => exec_move (v := .bool true) (by rfl) (by rfl)) ?_
  simp only [Act.put, List.setIfInBounds_toArray, List.set_cons_zero, List.set_cons_succ]
  refine mix_read _ (by rfl) (fun W hW => by (clear hW; go_simp; first | done | with_reducible rfl)) ?_
  simp only [Act.put, List.setIfInBounds_toArray, List.set_cons_zero, List.set_cons_succ]
  refine mix_read _ (by rfl) (fun W hW => by (clear hW; go_simp; first | done | with_reducible rfl)) ?_
  simp only [Act.put, List.setIfInBounds_toArray, List.set_cons_zero, List.set_cons_succ]
  refine mix_read _ (by rfl) (fun W hW => exec_pickH (b := true) (v := .bool true) (by rfl) (by rfl) (by rfl)) ?_
  simp only [Act.put, List.setIfInBounds_toArray, List.set_cons_zero, List.set_cons_succ]
  refine mix_read _ (by rfl) (fun W hW => exec_move (v := .bool true) (by rfl) (by rfl)) ?_
  simp only [Act.put, List.setIfInBounds_toArray, List.set_cons_zero, List.set_cons_succ]
  refine mix_read _ (by rfl) (fun W hW => by (clear hW; go_simp; first | done | with_reducible rfl)) ?_
  simp only [Act.put, List.setIfInBounds_toArray, List.set_cons_zero, List.set_cons_succ]
  refine mix_read _ (by rfl) (fun W hW => exec_pickH (b := true) (v := .bool true) (by rfl) (by rfl) (by rfl)) ?_
  simp only [Act.put, List.setIfInBounds_toArray, List.set_cons_zero, List.set_cons_succ]
  refine mix_read _ (by rfl) (fun W hW => exec_move (v := .bool true) (by rfl) (by rfl)) ?_
  simp only [Act.put, List.setIfInBounds_toArray, List.set_cons_zero, List.set_cons_succ]
  refine mix_read _ (by rfl) (fun W hW => by (clear hW; go_simp; first | done | with_reducible rfl)) ?_
  simp only [Act.put, List.setIfInBounds_toArray, List.set_cons_zero, List.set_cons_succ]
  refine mix_read _ (by rfl) (fun W hW => exec_notH (b := false) (v := true) (by rfl) (by rfl) (by rfl)) ?_
  simp only [Act.put, List.setIfInBounds_toArray, List.set_cons_zero, List.set_cons_succ]
  refine mix_read _ (by rfl) (fun W hW => exec_pickH (b := true) (v := .bool true) (by rfl) (by rfl) (by rfl)) ?_
  simp only [Act.put, List.setIfInBounds_toArray, List.set_cons_zero, List.set_cons_succ]
  refine mix_read _ (by rfl) (fun W hW => exec_move (v := .bool true) (by rfl) (by rfl)) ?_
  simp only [Act.put, List.setIfInBounds_toArray, List.set_cons_zero, List.set_cons_succ]
  refine mix_read _ (by rfl) (fun W hW => exec_hld (by rfl) (by rfl) (HQE.out W (HBS.out W hW)).ba) ?_
  simp only [Act.put, List.setIfInBounds_toArray, List.set_cons_zero, List.set_cons_succ]
  refine mix_read _ (by rfl) (fun W hW => exec_hld (by rfl) (by rfl) (HQE.out W (HBS.out W hW)).bb) ?_
  simp only [Act.put, List.setIfInBounds_toArray, List.set_cons_zero, List.set_cons_succ]
  refine mix_call _ _ _ (by rfl) (fun W hW => by (clear hW; go_simp; first | done | rfl)) (fun W hW => Apart_any ((HQE.out W (HBS.out W hW)).la.lies 0 false) (HQE.out W (HBS.out W hW)).lb (two_wf _ _ _ (by decide)) (thr_wf _) (two_small _ _ _) (thr_small _) (r := false) rfl) ?_
  simp only [Act.put, List.setIfInBounds_toArray, List.set_cons_zero, List.set_cons_succ]
  refine mix_read _ (by rfl) (fun W hW => exec_notH (b := false) (v := true) (by rfl) (by rfl) (by rfl)) ?_
  simp only [Act.put, List.setIfInBounds_toArray, List.set_cons_zero, List.set_cons_succ]
  refine mix_read _ (by rfl) (fun W hW => exec_pickH (b := true) (v := .bool true) (by rfl) (by rfl) (by rfl)) ?_
  simp only [Act.put, List.setIfInBounds_toArray, List.set_cons_zero, List.set_cons_succ]
  refine mix_read _ (by rfl) (fun W hW => exec_move (v := .bool true) (by rfl) (by rfl)) ?_
  simp only [Act.put, List.setIfInBounds_toArray, List.set_cons_zero, List.set_cons_succ]
  refine mix_read _ (by rfl) (fun W hW => exec_hld (by rfl) (by rfl) (HQE.out W (HBS.out W hW)).bh) ?_
  simp only [Act.put, List.setIfInBounds_toArray, List.set_cons_zero, List.set_cons_succ]
  refine mix_read _ (by rfl) (fun W hW => exec_hld (by rfl) (by rfl) (HQE.out W (HBS.out W hW)).bb) ?_
  simp only [Act.put, List.setIfInBounds_toArray, List.set_cons_zero, List.set_cons_succ]
  refine mix_call _ _ _ (by rfl) (fun W hW => by (clear hW; go_simp; first | done | rfl)) (fun W hW => Apart_any ((HQE.out W (HBS.out W hW)).lh.lies 1 false) (HQE.out W (HBS.out W hW)).lb (two_wf _ _ _ (by decide)) (thr_wf _) (two_small _ _ _) (thr_small _) (r := true) rfl) ?_
  simp only [Act.put, List.setIfInBounds_toArray, List.set_cons_zero, List.set_cons_succ]
  refine mix_read _ (by rfl) (fun W hW => exec_pickH (b := true) (v := .bool true) (by rfl) (by rfl) (by rfl)) ?_
  simp only [Act.put, List.setIfInBounds_toArray, List.set_cons_zero, List.set_cons_succ]
  refine mix_read _ (by rfl) (fun W hW => exec_move (v := .bool true) (by rfl) (by rfl)) ?_
  simp only [Act.put, List.setIfInBounds_toArray, List.set_cons_zero, List.set_cons_succ]
  refine mix_read _ (by rfl) (fun W hW => exec_hld (by rfl) (by rfl) (HQE.out W (HBS.out W hW)).bh) ?_
  simp only [Act.put, List.setIfInBounds_toArray, List.set_cons_zero, List.set_cons_succ]
  refine mix_call _ _ _ (by rfl) (fun W hW => by (clear hW; go_simp; first | done | rfl)) (fun W hW => right17g_any ((HQE.out W (HBS.out W hW)).lh.lies 1 false) (two_wf _ _ _ (by decide)) (two_small _ _ _) (two_good _)) ?_
  simp only [Act.put, List.setIfInBounds_toArray, List.set_cons_zero, List.set_cons_succ]
  refine mix_read _ (by rfl) (fun W hW => exec_pickH (b := true) (v := .bool true) (by rfl) (by rfl) (by rfl)) ?_
  simp only [Act.put, List.setIfInBounds_toArray, List.set_cons_zero, List.set_cons_succ]
  refine mix_read _ (by rfl) (fun W hW => exec_move (v := .bool true) (by rfl) (by rfl)) ?_
  simp only [Act.put, List.setIfInBounds_toArray, List.set_cons_zero, List.set_cons_succ]
  refine mix_read _ (by rfl) (fun W hW => by (clear hW; go_simp; first | done | with_reducible rfl)) ?_
  simp only [Act.put, List.setIfInBounds_toArray, List.set_cons_zero, List.set_cons_succ]
  refine mix_call _ _ _ (by rfl) (fun W hW => by (clear hW; go_simp; first | done | rfl)) (fun W hW => right17z_any _) ?_
  simp only [Act.put, List.setIfInBounds_toArray, List.set_cons_zero, List.set_cons_succ]
  refine mix_read _ (by rfl) (fun W hW => exec_notH (b := false) (v := true) (by rfl) (by rfl) (by rfl)) ?_
  simp only [Act.put, List.setIfInBounds_toArray, List.set_cons_zero, List.set_cons_succ]
  refine mix_read _ (by rfl) (fun W hW => exec_pickH (b := true) (v := .bool true) (by rfl) (by rfl) (by rfl)) ?_
  simp only [Act.put, List.setIfInBounds_toArray, List.set_cons_zero, List.set_cons_succ]
  refine mix_read _ (by rfl) (fun W hW => exec_move (v := .bool true) (by rfl) (by rfl)) ?_
  simp only [Act.put, List.setIfInBounds_toArray, List.set_cons_zero, List.set_cons_succ]
  refine mix_read _ (by rfl) (fun W hW => exec_hld (by rfl) (by rfl) (HQE.out W (HBS.out W hW)).bh) ?_
  simp only [Act.put, List.setIfInBounds_toArray, List.set_cons_zero, List.set_cons_succ]
  refine mix_read _ (by rfl) (fun W hW => exec_hld (by rfl) (by rfl) (HQE.out W (HBS.out W hW)).bh) ?_
  simp only [Act.put, List.setIfInBounds_toArray, List.set_cons_zero, List.set_cons_succ]
  refine mix_meet (fun x : Rm => ((twoG (twoR g0) 1 false).re x).val) (fun x W => HLies ((twoG (twoR g0) 1 false).re x) W) ⟨(Closed.below y2).and (fun _ _ _ _ => trivial), fun _ h => h.1⟩ (fun x => HLies.closed _) _ _ (by rfl) (fun W hW => by (clear hW; go_simp; first | done | rfl)) (fun W hW => (own17_any ((HQE.out W (HBS.out W hW.1)).lh.lies 1 false) (two_small _ _ _)).mono fun e w' ⟨x, h1, h2, h3⟩ => ⟨x, h1, h2.lies ⟨(two_small (twoR g0) 1 false).p, (two_small (twoR g0) 1 false).o, (two_small (twoR g0) 1 false).n⟩, h3⟩) (fun xo => ?_)
  simp only [Act.put, List.setIfInBounds_toArray, List.set_cons_zero, List.set_cons_succ]
  refine mix_meet (X := Unit) (fun _ => .bool true) (fun _ _ => True) ⟨((Closed.below y2).and (fun _ _ _ _ => trivial)).and (HLies.closed _), fun _ h => h.1.1⟩ (fun _ _ _ _ _ => trivial) _ _ (by rfl) (fun W hW => by (clear hW; go_simp; first | done | rfl)) (fun W hW => (same17_any hW.2 ((HQE.out W (HBS.out W hW.1.1)).lh.lies 1 false) (r := true) (sameH_re2 _ _)).mono fun e w' ⟨h1, h2⟩ => ⟨(), h1, trivial, h2⟩) (fun _ => ?_)
  simp only [Act.put, List.setIfInBounds_toArray, List.set_cons_zero, List.set_cons_succ]
  refine mix_read _ (by rfl) (fun W hW => exec_pickH (b := true) (v := .bool true) (by rfl) (by rfl) (by rfl)) ?_
  simp only [Act.put, List.setIfInBounds_toArray, List.set_cons_zero, List.set_cons_succ]
  refine mix_read _ (by rfl) (fun W hW => exec_move (v := .bool true) (by rfl) (by rfl)) ?_
  simp only [Act.put, List.setIfInBounds_toArray, List.set_cons_zero, List.set_cons_succ]
  refine mix_read _ (by rfl) (fun W hW => exec_hld (by rfl) (by rfl) (HQE.out W (HBS.out W hW)).ba) ?_
  simp only [Act.put, List.setIfInBounds_toArray, List.set_cons_zero, List.set_cons_succ]
  refine mix_read _ (by rfl) (fun W hW => exec_hld (by rfl) (by rfl) (HQE.out W (HBS.out W hW)).bh) ?_
  simp only [Act.put, List.setIfInBounds_toArray, List.set_cons_zero, List.set_cons_succ]
  refine mix_call _ _ _ (by rfl) (fun W hW => by (clear hW; go_simp; first | done | rfl)) (fun W hW => same17_any ((HQE.out W (HBS.out W hW)).la.lies 0 false) ((HQE.out W (HBS.out W hW)).lh.lies 1 false) (r := false) rfl) ?_
  simp only [Act.put, List.setIfInBounds_toArray, List.set_cons_zero, List.set_cons_succ]
  refine mix_read _ (by rfl) (fun W hW => exec_notH (b := false) (v := true) (by rfl) (by rfl) (by rfl)) ?_
  simp only [Act.put, List.setIfInBounds_toArray, List.set_cons_zero, List.set_cons_succ]
  refine mix_read _ (by rfl) (fun W hW => exec_pickH (b := true) (v := .bool true) (by rfl) (by rfl) (by rfl)) ?_
  simp only [Act.put, List.setIfInBounds_toArray, List.set_cons_zero, List.set_cons_succ]
  refine mix_read _ (by rfl) (fun W hW => exec_assign (v := .bool true) (by rfl) (by rfl)) ?_
  simp only [Act.put, List.setIfInBounds_toArray, List.set_cons_zero, List.set_cons_succ]
  refine mix_nil (fun W hW => ?_)
  have HB := Lib.hid (HQE.out _ (HBS.out W hW.1.1.1)).below
  clear hW HBS HQE HN
  go_wp2_with fail
  go_ret
  exact ⟨rfl, HB.out⟩

end Go.Proofs.Ytljpiafopbfdlaa
