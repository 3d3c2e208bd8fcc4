/- Package held: Own. -/
import Derived.Deep.CutRange
import Derived.Deep.MidRow
import Derived.RangeFuncNested
import Derived.RangeFuncBound
import Derived.RangeFuncCalls
import Derived.RangeFuncLeaves
import Derived.RangeFuncBox
import Derived.Shelf.Abstract
import Derived.Shelf.RegionOpen
import Derived.WalkKit
import Derived.OwnWalkIn
import Derived.TacticsInMore
import Derived.LoopNIn
import Derived.LoopIn
import Derived.WalkMore
import Derived.Test.YtljpiafopbfdlaaQHlM
import Derived.Test.YtljpiafopbfdlaaQTree3
import Derived.Test.YtljpiafopbfdlaaQAq
namespace Go.Proofs.Ytljpiafopbfdlaa
open Go.RowKit Go.Shelf
set_option linter.unusedVariables false
set_option linter.unusedSimpArgs false

structure OwnS (h h' : Hld) (x1 x2 x3 : Option Addr × Nat) (w : World) (n : Nat) (W : World) : Prop where
  below : Below w.heap.size w W
  box : Whole W w.heap.size 28 h'.cells
  res : Whole W (w.heap.size + 1) 28 hld0.cells
  o1 : W.ownsRow n 44 3 (.slice x1.1 h.p.ss.length x1.2) h.p.ss.length (h.p.ss.flatMap stpCells)
  o2 : W.ownsRow n 44 3 (.slice x2.1 h.os.length x2.2) h.os.length (h.os.flatMap stpCells)
  o3 : W.ownsRow n 40 3 (.slice x3.1 h.ns.length x3.2) h.ns.length (h.ns.flatMap needCells)
theorem OwnS.closed (h h' : Hld) (x1 x2 x3 : Option Addr × Nat) (w : World) (n : Nat) : Closed (OwnS h h' x1 x2 x3 w n) := fun W W' ⟨a, b, c, d, e, f⟩ hb => ⟨a.trans (hb.mono a.size), b.below hb b.lt, c.below hb c.lt, owns_keep d hb, owns_keep e hb, owns_keep f hb⟩
theorem OwnS.set {h h' : Hld} {x1 x2 x3 : Option Addr × Nat} {w : World} {n : Nat} {W : World} (hs : OwnS h h' x1 x2 x3 w n W) (hn : w.heap.size + 2 ≤ n) (k : Nat) (v : Value) {h2 : Hld} (he : h'.cells.set k v = h2.cells) : OwnS h h2 x1 x2 x3 w n (W.setCell ⟨w.heap.size, k, none⟩ v) := by
  obtain ⟨a, b, c, d, e, f⟩ := hs
  exact ⟨a.setCell (p := ⟨w.heap.size, k, none⟩) (Nat.le_refl _) _, by rw [← he]; exact b.set k v, c.far (p := ⟨w.heap.size, k, none⟩) (by show w.heap.size + 1 ≠ w.heap.size; omega) _, owns_set (B := 0) (p := ⟨w.heap.size, k, none⟩) d (by show w.heap.size < n; omega) _, owns_set (B := 0) (p := ⟨w.heap.size, k, none⟩) e (by show w.heap.size < n; omega) _, owns_set (B := 0) (p := ⟨w.heap.size, k, none⟩) f (by show w.heap.size < n; omega) _⟩
theorem OwnS.path {h : Hld} {x1 x2 x3 : Option Addr × Nat} {w : World} {n : Nat} {W : World} (hs : OwnS h h x1 x2 x3 w n W) (hn : w.heap.size + 2 ≤ n) : OwnS h (h.r1 x1.1 x1.2) x1 x2 x3 w n (W.setCells w.heap.size 1 [.int .i64 h.p.s, .int .i64 h.p.x, .slice x1.1 h.p.ss.length x1.2]) :=
  ((hs.set (h2 := h) hn 1 (.int .i64 h.p.s) rfl).set (h2 := h) hn 2 (.int .i64 h.p.x) rfl).set hn 3 (.slice x1.1 h.p.ss.length x1.2) rfl
/-- Its rows lie in memory from n on. -/
structure OwnB (h : Hld) (n : Nat) (w : World) : Prop where
  o1 : w.ownsRow n 44 3 (own1 h) h.p.ss.length (h.p.ss.flatMap stpCells)
  o2 : w.ownsRow n 44 3 (own2 h) h.os.length (h.os.flatMap stpCells)
  o3 : w.ownsRow n 40 3 (own3 h) h.ns.length (h.ns.flatMap needCells)
theorem OwnB.closed (h : Hld) (n : Nat) : Closed (OwnB h n) := fun W W' ⟨d, e, f⟩ hb => ⟨owns_keep d hb, owns_keep e hb, owns_keep f hb⟩
theorem OwnB.lies {h : Hld} {n : Nat} {w : World} (ho : OwnB h n w) (hs : Small h) : HLies h w :=
  ⟨⟨owns_row2 ho.o1, by have := hs.p; omega⟩, owns_cap ho.o1, owns_row2 ho.o2, by have := hs.o; omega, owns_cap ho.o2, owns_row2 ho.o3, by have := hs.n; omega, owns_cap ho.o3⟩
theorem HOwn.toB {h : Hld} {n0 n1 n2 : Nat} {w : World} (ho : HOwn h n0 n1 n2 w) : OwnB h n0 w := ⟨ho.o1, owns_base17 ho.o2 ho.le.1, owns_base17 ho.o3 (Nat.le_trans ho.le.1 ho.le.2)⟩
theorem OwnB.set {h : Hld} {n : Nat} {w : World} (ho : OwnB h n w) {p : Addr} (hp : p.block < n) (u : Value) : OwnB h n (w.setCell p u) := ⟨owns_set (B := 0) ho.o1 hp u, owns_set (B := 0) ho.o2 hp u, owns_set (B := 0) ho.o3 hp u⟩
theorem own_there {h : Hld} {g : Nat} {W : World} (hb : Whole W g 28 h.cells) : W.there g 1 3 := fun j hj => ⟨by rw [hb.cell (1 + j), List.getElem?_eq_getElem (by rw [hld_len]; omega)]; rfl, hb.frozen (1 + j)⟩
set_option maxRecDepth 100000 in
set_option maxHeartbeats 32000000 in
theorem own17_begin {h : Hld} {w W0 : World} (hl : HLies h w) (hs : Small h) (hB0 : Below w.heap.size w W0) (hs0 : w.heap.size + 2 ≤ W0.heap.size) (hb0 : Whole W0 w.heap.size 28 h.cells) (hbR : Whole W0 (w.heap.size + 1) 28 hld0.cells) {Q : Exit → Act → World → Prop}
    (hQ : ∀ (x1 x2 x3 : Option Addr × Nat) (W : World) (u3 u4 u5 u6 u7 u8 u9 u10 u11 u12 u13 u14 : Value), OwnS h (h.re ⟨x1.1, x1.2, x2.1, x2.2, x3.1, x3.2⟩) x1 x2 x3 w W0.heap.size W → Q .normal { tmps := #[h.val, .pointer (some ⟨w.heap.size, 0, none⟩), .pointer (some ⟨w.heap.size + 1, 0, none⟩), u3, u4, u5, u6, u7, u8, u9, u10, u11, u12, u13, u14, undef], defers := [] } W) :
    (Code.region 1 #[{ dst := some 3, op := Op.fieldAddr 28 (Operand.tmp 1) 1, type := 0, pos := "held.go:92", after := #[], guard := none }, { dst := some 4, op := Op.load 24 (Operand.tmp 3), type := 24, pos := "held.go:92", after := #[{ on := 0, ground := Ground.data }], guard := none }, { dst := some 5, op := Op.call { callee := Callee.value (Operand.func 35), args := #[Operand.tmp 4], argTypes := #[24] }, type := 24, pos := "held.go:92", after := #[{ on := 1, ground := Ground.data }], guard := none }, { dst := some 6, op := Op.fieldAddr 28 (Operand.tmp 1) 2, type := 0, pos := "held.go:92", after := #[], guard := none }, { dst := some 7, op := Op.load 22 (Operand.tmp 6), type := 22, pos := "held.go:92", after := #[{ on := 3, ground := Ground.data }], guard := none }, { dst := some 8, op := Op.call { callee := Callee.value (Operand.func 36), args := #[Operand.tmp 7], argTypes := #[22] }, type := 22, pos := "held.go:92", after := #[{ on := 4, ground := Ground.data }, { on := 2, ground := Ground.chain }], guard := none }, { dst := some 9, op := Op.fieldAddr 28 (Operand.tmp 1) 3, type := 0, pos := "held.go:92", after := #[], guard := none }, { dst := some 10, op := Op.load 25 (Operand.tmp 9), type := 25, pos := "held.go:92", after := #[{ on := 6, ground := Ground.data }], guard := none }, { dst := some 11, op := Op.call { callee := Callee.value (Operand.func 37), args := #[Operand.tmp 10], argTypes := #[25] }, type := 25, pos := "held.go:92", after := #[{ on := 7, ground := Ground.data }, { on := 5, ground := Ground.chain }], guard := none }, { dst := some 12, op := Op.fieldAddr 28 (Operand.tmp 1) 1, type := 0, pos := "held.go:92", after := #[{ on := 0, ground := Ground.phase }, { on := 1, ground := Ground.phase }, { on := 2, ground := Ground.phase }, { on := 3, ground := Ground.phase }, { on := 4, ground := Ground.phase }, { on := 5, ground := Ground.textOnly Departure.lateStoresUnsure }, { on := 6, ground := Ground.phase }, { on := 7, ground := Ground.phase }, { on := 8, ground := Ground.textOnly Departure.lateStoresUnsure }], guard := none }, { dst := none, op := Op.store 24 (Operand.tmp 12) (Operand.tmp 5), type := 0, pos := "held.go:92", after := #[{ on := 9, ground := Ground.data }, { on := 2, ground := Ground.data }, { on := 8, ground := Ground.chain }, { on := 0, ground := Ground.phase }, { on := 1, ground := Ground.phase }, { on := 2, ground := Ground.phase }, { on := 3, ground := Ground.phase }, { on := 4, ground := Ground.phase }, { on := 5, ground := Ground.textOnly Departure.lateStoresUnsure }, { on := 6, ground := Ground.phase }, { on := 7, ground := Ground.phase }, { on := 8, ground := Ground.textOnly Departure.lateStoresUnsure }], guard := none }, { dst := some 13, op := Op.fieldAddr 28 (Operand.tmp 1) 2, type := 0, pos := "held.go:92", after := #[{ on := 0, ground := Ground.phase }, { on := 1, ground := Ground.phase }, { on := 2, ground := Ground.phase }, { on := 3, ground := Ground.phase }, { on := 4, ground := Ground.phase }, { on := 5, ground := Ground.phase }, { on := 6, ground := Ground.phase }, { on := 7, ground := Ground.phase }, { on := 8, ground := Ground.textOnly Departure.lateStoresUnsure }, { on := 9, ground := Ground.phase }, { on := 10, ground := Ground.phase }], guard := none }, { dst := none, op := Op.store 22 (Operand.tmp 13) (Operand.tmp 8), type := 0, pos := "held.go:92", after := #[{ on := 11, ground := Ground.data }, { on := 5, ground := Ground.data }, { on := 10, ground := Ground.chain }, { on := 0, ground := Ground.phase }, { on := 1, ground := Ground.phase }, { on := 2, ground := Ground.phase }, { on := 3, ground := Ground.phase }, { on := 4, ground := Ground.phase }, { on := 5, ground := Ground.phase }, { on := 6, ground := Ground.phase }, { on := 7, ground := Ground.phase }, { on := 8, ground := Ground.textOnly Departure.lateStoresUnsure }, { on := 9, ground := Ground.phase }, { on := 10, ground := Ground.phase }], guard := none }, { dst := some 14, op := Op.fieldAddr 28 (Operand.tmp 1) 3, type := 0, pos := "held.go:92", after := #[{ on := 0, ground := Ground.phase }, { on := 1, ground := Ground.phase }, { on := 2, ground := Ground.phase }, { on := 3, ground := Ground.phase }, { on := 4, ground := Ground.phase }, { on := 5, ground := Ground.phase }, { on := 6, ground := Ground.phase }, { on := 7, ground := Ground.phase }, { on := 8, ground := Ground.phase }, { on := 9, ground := Ground.phase }, { on := 10, ground := Ground.phase }, { on := 11, ground := Ground.phase }, { on := 12, ground := Ground.phase }], guard := none }, { dst := none, op := Op.store 25 (Operand.tmp 14) (Operand.tmp 11), type := 0, pos := "held.go:92", after := #[{ on := 13, ground := Ground.data }, { on := 8, ground := Ground.data }, { on := 12, ground := Ground.chain }, { on := 0, ground := Ground.phase }, { on := 1, ground := Ground.phase }, { on := 2, ground := Ground.phase }, { on := 3, ground := Ground.phase }, { on := 4, ground := Ground.phase }, { on := 5, ground := Ground.phase }, { on := 6, ground := Ground.phase }, { on := 7, ground := Ground.phase }, { on := 8, ground := Ground.phase }, { on := 9, ground := Ground.phase }, { on := 10, ground := Ground.phase }, { on := 11, ground := Ground.phase }, { on := 12, ground := Ground.phase }], guard := none }] true).wp Try.prog Q { tmps := #[h.val, .pointer (some ⟨w.heap.size, 0, none⟩), .pointer (some ⟨w.heap.size + 1, 0, none⟩), undef, undef, undef, undef, undef, undef, undef, undef, undef, undef, undef, undef, undef], defers := [] } W0 := by
  have K2 : Hid (∀ W, Below W0.heap.size W0 W → Calls Try.prog 35 #[Pth.val h.p] W fun e w' => ∃ x : Option Addr × Nat, e = .returned (Pth.val ⟨h.p.s, h.p.x, x.1, x.2, h.p.ss⟩) ∧ w'.ownsRow W0.heap.size 44 3 (.slice x.1 h.p.ss.length x.2) h.p.ss.length (h.p.ss.flatMap stpCells) ∧ Below W.heap.size W w') := Lib.hid fun W hW =>
    (own11s_any (hl.on (hB0.trans (hW.mono hB0.size))).pl (by have := hs.p; omega)).mono fun e w' ⟨A, c, h1, h2, h3⟩ => ⟨(A, c), h1, owns_base17 h2 hW.size, h3⟩
  have K5 : Hid (∀ W, Below W0.heap.size W0 W → Calls Try.prog 36 #[own2 h] W fun e w' => ∃ x : Option Addr × Nat, e = .returned (.slice x.1 h.os.length x.2) ∧ w'.ownsRow W0.heap.size 44 3 (.slice x.1 h.os.length x.2) h.os.length (h.os.flatMap stpCells) ∧ Below W.heap.size W w') := Lib.hid fun W hW =>
    (cloneStep_any h.oA h.oc W (hl.on (hB0.trans (hW.mono hB0.size))).orow (by have := hs.o; omega)).mono fun e w' ⟨v, h1, h2, h3⟩ => by
      obtain ⟨A, c, rfl, _⟩ := owns_read h2
      exact ⟨(A, c), h1, owns_base17 h2 hW.size, h3⟩
  have K8 : Hid (∀ W, Below W0.heap.size W0 W → Calls Try.prog 37 #[own3 h] W fun e w' => ∃ x : Option Addr × Nat, e = .returned (.slice x.1 h.ns.length x.2) ∧ w'.ownsRow W0.heap.size 40 3 (.slice x.1 h.ns.length x.2) h.ns.length (h.ns.flatMap needCells) ∧ Below W.heap.size W w') := Lib.hid fun W hW =>
    (cloneNeed_any h.nA h.nc W (hl.on (hB0.trans (hW.mono hB0.size))).nrow (by have := hs.n; omega)).mono fun e w' ⟨v, h1, h2, h3⟩ => by
      obtain ⟨A, c, rfl, _⟩ := owns_read h2
      exact ⟨(A, c), h1, owns_base17 h2 hW.size, h3⟩
  have HBX := Lib.hid fun W (hW : Below W0.heap.size W0 W) => hb0.below hW hb0.lt
  have HBR := Lib.hid fun W (hW : Below W0.heap.size W0 W) => hbR.below hW hbR.lt
  have HB := Lib.hid fun W (hW : Below W0.heap.size W0 W) => hB0.trans (hW.mono hB0.size)
  have HS := Lib.hid hs0
  clear hl hs hb0 hbR hB0 hs0
  refine Code.wp_mono (Q := fun e a' W => e = .normal ∧ ∃ (x1 x2 x3 : Option Addr × Nat) (u3 u4 u5 u6 u7 u8 u9 u10 u11 u12 u13 u14 : Value), a' = { tmps := #[h.val, .pointer (some ⟨w.heap.size, 0, none⟩), .pointer (some ⟨w.heap.size + 1, 0, none⟩), u3, u4, u5, u6, u7, u8, u9, u10, u11, u12, u13, u14, undef], defers := [] } ∧ OwnS h (h.re ⟨x1.1, x1.2, x2.1, x2.2, x3.1, x3.2⟩) x1 x2 x3 w W0.heap.size W) (fun e a' W ⟨h1, x1, x2, x3, u3, u4, u5, u6, u7, u8, u9, u10, u11, u12, u13, u14, h2, h3⟩ => by subst h1 h2; exact hQ x1 x2 x3 W _ _ _ _ _ _ _ _ _ _ _ _ h3) ?_
  clear hQ
  refine region_tree3 (fun W => Below w.heap.size w W) (.fork3 [(0, false), (3, false), (6, false)] 1 4 7 (.fork3 [] 2 4 7 (.fork [] 4 7 (.fork [] 5 7 (.last [(7, true), (9, false), (8, true), (10, true), (11, false), (12, true), (13, false), (14, true)]) (.last [(9, false), (5, true), (8, true), (10, true), (11, false), (12, true), (13, false), (14, true)])) (.last [(4, true), (9, false), (5, true), (8, true), (10, true), (11, false), (12, true), (13, false), (14, true)])) (.fork [] 2 7 (.fork [] 5 7 (.last [(7, true), (9, false), (8, true), (10, true), (11, false), (12, true), (13, false), (14, true)]) (.last [(9, false), (5, true), (8, true), (10, true), (11, false), (12, true), (13, false), (14, true)])) (.last [(2, true), (9, false), (5, true), (8, true), (10, true), (11, false), (12, true), (13, false), (14, true)])) (.fork [] 2 4 (.last [(4, true), (9, false), (5, true), (8, true), (10, true), (11, false), (12, true), (13, false), (14, true)]) (.last [(2, true), (9, false), (5, true), (8, true), (10, true), (11, false), (12, true), (13, false), (14, true)]))) (.fork [] 1 7 (.fork [] 2 7 (.fork [] 5 7 (.last [(7, true), (9, false), (8, true), (10, true), (11, false), (12, true), (13, false), (14, true)]) (.last [(9, false), (5, true), (8, true), (10, true), (11, false), (12, true), (13, false), (14, true)])) (.last [(2, true), (9, false), (5, true), (8, true), (10, true), (11, false), (12, true), (13, false), (14, true)])) (.last [(1, true), (2, true), (9, false), (5, true), (8, true), (10, true), (11, false), (12, true), (13, false), (14, true)])) (.fork [] 1 4 (.fork [] 2 4 (.last [(4, true), (9, false), (5, true), (8, true), (10, true), (11, false), (12, true), (13, false), (14, true)]) (.last [(2, true), (9, false), (5, true), (8, true), (10, true), (11, false), (12, true), (13, false), (14, true)])) (.last [(1, true), (2, true), (9, false), (5, true), (8, true), (10, true), (11, false), (12, true), (13, false), (14, true)]))) (by kernel_rfl) (by kernel_rfl) (fun W => Below W0.heap.size W0 W) ⟨Closed.below W0, fun W hW => HB.out W hW⟩ (Below.refl _ _).drew ?_
  simp only [wpTree3, pickOps, List.getElem?_cons_zero, List.getElem?_cons_succ]
  repeat (first | (refine mix_read _ (by rfl) (fun W hW => by (clear hW; go_simp; first | done | with_reducible rfl)) ?_; simp only [Act.put, List.setIfInBounds_toArray, List.set_cons_zero, List.set_cons_succ]))
  refine mix_nil (fun hF => ⟨?_, ?_, ?_⟩)
  · refine mix_look _ ⟨(Closed.below W0), fun W hW => HB.out W (hW)⟩ (by rfl) (fun W hW => exec_pth (by rfl) (by rfl) (HBX.out W (hW))) ?_
    simp only [Act.put, List.setIfInBounds_toArray, List.set_cons_zero, List.set_cons_succ]
    refine mix_nil ?_
    refine mix_nil (fun hF => ⟨?_, ?_, ?_⟩)
    · refine mix_meet (fun x : Option Addr × Nat => Pth.val ⟨h.p.s, h.p.x, x.1, x.2, h.p.ss⟩) (fun x W => W.ownsRow W0.heap.size 44 3 (.slice x.1 h.p.ss.length x.2) h.p.ss.length (h.p.ss.flatMap stpCells)) ⟨(Closed.below W0), fun W hW => HB.out W (hW)⟩ (fun x => Closed.owns _ _ _ _ _ _) _ _ (by rfl) (fun W hW => by (clear hW; go_simp; first | done | rfl)) (fun W hW => K2.out W (hW)) (fun x1 => ?_)
      simp only [Act.put, List.setIfInBounds_toArray, List.set_cons_zero, List.set_cons_succ]
      refine mix_nil ?_
      refine mix_nil (fun hF => ⟨?_, ?_⟩)
      · refine mix_look _ ⟨((Closed.below W0).and (Closed.owns _ _ _ _ _ _)), fun W hW => HB.out W (hW.1)⟩ (by rfl) (fun W hW => by (have c4 := (HBX.out W (hW.1)).cell_at 4 rfl; clear hW; go_simp; first | done | with_reducible rfl)) ?_
        simp only [Act.put, List.setIfInBounds_toArray, List.set_cons_zero, List.set_cons_succ]
        refine mix_nil ?_
        refine mix_nil (fun hF => ⟨?_, ?_⟩)
        · refine mix_meet (fun x : Option Addr × Nat => .slice x.1 h.os.length x.2) (fun x W => W.ownsRow W0.heap.size 44 3 (.slice x.1 h.os.length x.2) h.os.length (h.os.flatMap stpCells)) ⟨((Closed.below W0).and (Closed.owns _ _ _ _ _ _)), fun W hW => HB.out W (hW.1)⟩ (fun x => Closed.owns _ _ _ _ _ _) _ _ (by rfl) (fun W hW => by (clear hW; go_simp; first | done | rfl)) (fun W hW => K5.out W (hW.1)) (fun x2 => ?_)
          simp only [Act.put, List.setIfInBounds_toArray, List.set_cons_zero, List.set_cons_succ]
          refine mix_nil ?_
          repeat (first | (refine mix_read _ (by rfl) (fun W hW => by (clear hW; go_simp; first | done | with_reducible rfl)) ?_; simp only [Act.put, List.setIfInBounds_toArray, List.set_cons_zero, List.set_cons_succ]))
          refine mix_look _ ⟨(((Closed.below W0).and (Closed.owns _ _ _ _ _ _)).and (Closed.owns _ _ _ _ _ _)), fun W hW => HB.out W (hW.1.1)⟩ (by rfl) (fun W hW => by (have c5 := (HBX.out W (hW.1.1)).cell_at 5 rfl; clear hW; go_simp; first | done | with_reducible rfl)) ?_
          simp only [Act.put, List.setIfInBounds_toArray, List.set_cons_zero, List.set_cons_succ]
          repeat (first | (refine mix_read _ (by rfl) (fun W hW => by (clear hW; go_simp; first | done | with_reducible rfl)) ?_; simp only [Act.put, List.setIfInBounds_toArray, List.set_cons_zero, List.set_cons_succ]))
          refine mix_meet (fun x : Option Addr × Nat => .slice x.1 h.ns.length x.2) (fun x W => W.ownsRow W0.heap.size 40 3 (.slice x.1 h.ns.length x.2) h.ns.length (h.ns.flatMap needCells)) ⟨(((Closed.below W0).and (Closed.owns _ _ _ _ _ _)).and (Closed.owns _ _ _ _ _ _)), fun W hW => HB.out W (hW.1.1)⟩ (fun x => Closed.owns _ _ _ _ _ _) _ _ (by rfl) (fun W hW => by (clear hW; go_simp; first | done | rfl)) (fun W hW => K8.out W (hW.1.1)) (fun x3 => ?_)
          simp only [Act.put, List.setIfInBounds_toArray, List.set_cons_zero, List.set_cons_succ]
          repeat (first | (refine mix_read _ (by rfl) (fun W hW => by (clear hW; go_simp; first | done | with_reducible rfl)) ?_; simp only [Act.put, List.setIfInBounds_toArray, List.set_cons_zero, List.set_cons_succ]))
          refine mix_within 24 (.tmp 12) (.tmp 5) w.heap.size 1 [.int .i64 h.p.s, .int .i64 h.p.x, .slice x1.1 h.p.ss.length x1.2] (OwnS h (h.r1 x1.1 x1.2) x1 x2 x3 w W0.heap.size) ⟨OwnS.closed _ _ _ _ _ _ _, fun W hW => hW.below⟩ rfl (by rfl) (by rfl) path_info (by rfl) (by rfl) (fun W hW => own_there (HBX.out W (hW.1.1.1))) (fun W hW => OwnS.path ⟨HB.out W (hW.1.1.1), HBX.out W (hW.1.1.1), HBR.out W (hW.1.1.1), hW.1.1.2, hW.1.2, hW.2⟩ HS.out) ?_
          simp only [Act.put, List.setIfInBounds_toArray, List.set_cons_zero, List.set_cons_succ]
          repeat (first | (refine mix_read _ (by rfl) (fun W hW => by (clear hW; go_simp; first | done | with_reducible rfl)) ?_; simp only [Act.put, List.setIfInBounds_toArray, List.set_cons_zero, List.set_cons_succ]))
          refine mix_store (OwnS h ((h.r1 x1.1 x1.2).r2 x2.1 x2.2) x1 x2 x3 w W0.heap.size) (fun W => W.setCell ⟨w.heap.size, 4, none⟩ (.slice x2.1 h.os.length x2.2)) ⟨OwnS.closed _ _ _ _ _ _ _, fun W hW => hW.below⟩ (by rfl) (fun W hW => by (have c0 := hW.box.cell_at 4 rfl; have f0 := hW.box.frozen 4; clear hW; go_simp; first | done | rfl)) (fun W hW => hW.set HS.out 4 _ rfl) ?_
          simp only [Act.put, List.setIfInBounds_toArray, List.set_cons_zero, List.set_cons_succ]
          repeat (first | (refine mix_read _ (by rfl) (fun W hW => by (clear hW; go_simp; first | done | with_reducible rfl)) ?_; simp only [Act.put, List.setIfInBounds_toArray, List.set_cons_zero, List.set_cons_succ]))
          refine mix_store (OwnS h (((h.r1 x1.1 x1.2).r2 x2.1 x2.2).r3 x3.1 x3.2) x1 x2 x3 w W0.heap.size) (fun W => W.setCell ⟨w.heap.size, 5, none⟩ (.slice x3.1 h.ns.length x3.2)) ⟨OwnS.closed _ _ _ _ _ _ _, fun W hW => hW.below⟩ (by rfl) (fun W hW => by (have c0 := hW.box.cell_at 5 rfl; have f0 := hW.box.frozen 5; clear hW; go_simp; first | done | rfl)) (fun W hW => hW.set HS.out 5 _ rfl) ?_
          simp only [Act.put, List.setIfInBounds_toArray, List.set_cons_zero, List.set_cons_succ]
          exact mix_nil (fun W hW => ⟨trivial, x1, x2, x3, _, _, _, _, _, _, _, _, _, _, _, _, rfl, hW⟩)
        · refine mix_look _ ⟨((Closed.below W0).and (Closed.owns _ _ _ _ _ _)), fun W hW => HB.out W (hW.1)⟩ (by rfl) (fun W hW => by (have c5 := (HBX.out W (hW.1)).cell_at 5 rfl; clear hW; go_simp; first | done | with_reducible rfl)) ?_
          simp only [Act.put, List.setIfInBounds_toArray, List.set_cons_zero, List.set_cons_succ]
          refine mix_nil ?_
          repeat (first | (refine mix_read _ (by rfl) (fun W hW => by (clear hW; go_simp; first | done | with_reducible rfl)) ?_; simp only [Act.put, List.setIfInBounds_toArray, List.set_cons_zero, List.set_cons_succ]))
          refine mix_meet (fun x : Option Addr × Nat => .slice x.1 h.os.length x.2) (fun x W => W.ownsRow W0.heap.size 44 3 (.slice x.1 h.os.length x.2) h.os.length (h.os.flatMap stpCells)) ⟨((Closed.below W0).and (Closed.owns _ _ _ _ _ _)), fun W hW => HB.out W (hW.1)⟩ (fun x => Closed.owns _ _ _ _ _ _) _ _ (by rfl) (fun W hW => by (clear hW; go_simp; first | done | rfl)) (fun W hW => K5.out W (hW.1)) (fun x2 => ?_)
          simp only [Act.put, List.setIfInBounds_toArray, List.set_cons_zero, List.set_cons_succ]
          repeat (first | (refine mix_read _ (by rfl) (fun W hW => by (clear hW; go_simp; first | done | with_reducible rfl)) ?_; simp only [Act.put, List.setIfInBounds_toArray, List.set_cons_zero, List.set_cons_succ]))
          refine mix_meet (fun x : Option Addr × Nat => .slice x.1 h.ns.length x.2) (fun x W => W.ownsRow W0.heap.size 40 3 (.slice x.1 h.ns.length x.2) h.ns.length (h.ns.flatMap needCells)) ⟨(((Closed.below W0).and (Closed.owns _ _ _ _ _ _)).and (Closed.owns _ _ _ _ _ _)), fun W hW => HB.out W (hW.1.1)⟩ (fun x => Closed.owns _ _ _ _ _ _) _ _ (by rfl) (fun W hW => by (clear hW; go_simp; first | done | rfl)) (fun W hW => K8.out W (hW.1.1)) (fun x3 => ?_)
          simp only [Act.put, List.setIfInBounds_toArray, List.set_cons_zero, List.set_cons_succ]
          repeat (first | (refine mix_read _ (by rfl) (fun W hW => by (clear hW; go_simp; first | done | with_reducible rfl)) ?_; simp only [Act.put, List.setIfInBounds_toArray, List.set_cons_zero, List.set_cons_succ]))
          refine mix_within 24 (.tmp 12) (.tmp 5) w.heap.size 1 [.int .i64 h.p.s, .int .i64 h.p.x, .slice x1.1 h.p.ss.length x1.2] (OwnS h (h.r1 x1.1 x1.2) x1 x2 x3 w W0.heap.size) ⟨OwnS.closed _ _ _ _ _ _ _, fun W hW => hW.below⟩ rfl (by rfl) (by rfl) path_info (by rfl) (by rfl) (fun W hW => own_there (HBX.out W (hW.1.1.1))) (fun W hW => OwnS.path ⟨HB.out W (hW.1.1.1), HBX.out W (hW.1.1.1), HBR.out W (hW.1.1.1), hW.1.1.2, hW.1.2, hW.2⟩ HS.out) ?_
          simp only [Act.put, List.setIfInBounds_toArray, List.set_cons_zero, List.set_cons_succ]
          repeat (first | (refine mix_read _ (by rfl) (fun W hW => by (clear hW; go_simp; first | done | with_reducible rfl)) ?_; simp only [Act.put, List.setIfInBounds_toArray, List.set_cons_zero, List.set_cons_succ]))
          refine mix_store (OwnS h ((h.r1 x1.1 x1.2).r2 x2.1 x2.2) x1 x2 x3 w W0.heap.size) (fun W => W.setCell ⟨w.heap.size, 4, none⟩ (.slice x2.1 h.os.length x2.2)) ⟨OwnS.closed _ _ _ _ _ _ _, fun W hW => hW.below⟩ (by rfl) (fun W hW => by (have c0 := hW.box.cell_at 4 rfl; have f0 := hW.box.frozen 4; clear hW; go_simp; first | done | rfl)) (fun W hW => hW.set HS.out 4 _ rfl) ?_
          simp only [Act.put, List.setIfInBounds_toArray, List.set_cons_zero, List.set_cons_succ]
          repeat (first | (refine mix_read _ (by rfl) (fun W hW => by (clear hW; go_simp; first | done | with_reducible rfl)) ?_; simp only [Act.put, List.setIfInBounds_toArray, List.set_cons_zero, List.set_cons_succ]))
          refine mix_store (OwnS h (((h.r1 x1.1 x1.2).r2 x2.1 x2.2).r3 x3.1 x3.2) x1 x2 x3 w W0.heap.size) (fun W => W.setCell ⟨w.heap.size, 5, none⟩ (.slice x3.1 h.ns.length x3.2)) ⟨OwnS.closed _ _ _ _ _ _ _, fun W hW => hW.below⟩ (by rfl) (fun W hW => by (have c0 := hW.box.cell_at 5 rfl; have f0 := hW.box.frozen 5; clear hW; go_simp; first | done | rfl)) (fun W hW => hW.set HS.out 5 _ rfl) ?_
          simp only [Act.put, List.setIfInBounds_toArray, List.set_cons_zero, List.set_cons_succ]
          exact mix_nil (fun W hW => ⟨trivial, x1, x2, x3, _, _, _, _, _, _, _, _, _, _, _, _, rfl, hW⟩)
      · refine mix_look _ ⟨((Closed.below W0).and (Closed.owns _ _ _ _ _ _)), fun W hW => HB.out W (hW.1)⟩ (by rfl) (fun W hW => by (have c5 := (HBX.out W (hW.1)).cell_at 5 rfl; clear hW; go_simp; first | done | with_reducible rfl)) ?_
        simp only [Act.put, List.setIfInBounds_toArray, List.set_cons_zero, List.set_cons_succ]
        refine mix_nil ?_
        repeat (first | (refine mix_read _ (by rfl) (fun W hW => by (clear hW; go_simp; first | done | with_reducible rfl)) ?_; simp only [Act.put, List.setIfInBounds_toArray, List.set_cons_zero, List.set_cons_succ]))
        refine mix_look _ ⟨((Closed.below W0).and (Closed.owns _ _ _ _ _ _)), fun W hW => HB.out W (hW.1)⟩ (by rfl) (fun W hW => by (have c4 := (HBX.out W (hW.1)).cell_at 4 rfl; clear hW; go_simp; first | done | with_reducible rfl)) ?_
        simp only [Act.put, List.setIfInBounds_toArray, List.set_cons_zero, List.set_cons_succ]
        repeat (first | (refine mix_read _ (by rfl) (fun W hW => by (clear hW; go_simp; first | done | with_reducible rfl)) ?_; simp only [Act.put, List.setIfInBounds_toArray, List.set_cons_zero, List.set_cons_succ]))
        refine mix_meet (fun x : Option Addr × Nat => .slice x.1 h.os.length x.2) (fun x W => W.ownsRow W0.heap.size 44 3 (.slice x.1 h.os.length x.2) h.os.length (h.os.flatMap stpCells)) ⟨((Closed.below W0).and (Closed.owns _ _ _ _ _ _)), fun W hW => HB.out W (hW.1)⟩ (fun x => Closed.owns _ _ _ _ _ _) _ _ (by rfl) (fun W hW => by (clear hW; go_simp; first | done | rfl)) (fun W hW => K5.out W (hW.1)) (fun x2 => ?_)
        simp only [Act.put, List.setIfInBounds_toArray, List.set_cons_zero, List.set_cons_succ]
        repeat (first | (refine mix_read _ (by rfl) (fun W hW => by (clear hW; go_simp; first | done | with_reducible rfl)) ?_; simp only [Act.put, List.setIfInBounds_toArray, List.set_cons_zero, List.set_cons_succ]))
        refine mix_meet (fun x : Option Addr × Nat => .slice x.1 h.ns.length x.2) (fun x W => W.ownsRow W0.heap.size 40 3 (.slice x.1 h.ns.length x.2) h.ns.length (h.ns.flatMap needCells)) ⟨(((Closed.below W0).and (Closed.owns _ _ _ _ _ _)).and (Closed.owns _ _ _ _ _ _)), fun W hW => HB.out W (hW.1.1)⟩ (fun x => Closed.owns _ _ _ _ _ _) _ _ (by rfl) (fun W hW => by (clear hW; go_simp; first | done | rfl)) (fun W hW => K8.out W (hW.1.1)) (fun x3 => ?_)
        simp only [Act.put, List.setIfInBounds_toArray, List.set_cons_zero, List.set_cons_succ]
        repeat (first | (refine mix_read _ (by rfl) (fun W hW => by (clear hW; go_simp; first | done | with_reducible rfl)) ?_; simp only [Act.put, List.setIfInBounds_toArray, List.set_cons_zero, List.set_cons_succ]))
        refine mix_within 24 (.tmp 12) (.tmp 5) w.heap.size 1 [.int .i64 h.p.s, .int .i64 h.p.x, .slice x1.1 h.p.ss.length x1.2] (OwnS h (h.r1 x1.1 x1.2) x1 x2 x3 w W0.heap.size) ⟨OwnS.closed _ _ _ _ _ _ _, fun W hW => hW.below⟩ rfl (by rfl) (by rfl) path_info (by rfl) (by rfl) (fun W hW => own_there (HBX.out W (hW.1.1.1))) (fun W hW => OwnS.path ⟨HB.out W (hW.1.1.1), HBX.out W (hW.1.1.1), HBR.out W (hW.1.1.1), hW.1.1.2, hW.1.2, hW.2⟩ HS.out) ?_
        simp only [Act.put, List.setIfInBounds_toArray, List.set_cons_zero, List.set_cons_succ]
        repeat (first | (refine mix_read _ (by rfl) (fun W hW => by (clear hW; go_simp; first | done | with_reducible rfl)) ?_; simp only [Act.put, List.setIfInBounds_toArray, List.set_cons_zero, List.set_cons_succ]))
        refine mix_store (OwnS h ((h.r1 x1.1 x1.2).r2 x2.1 x2.2) x1 x2 x3 w W0.heap.size) (fun W => W.setCell ⟨w.heap.size, 4, none⟩ (.slice x2.1 h.os.length x2.2)) ⟨OwnS.closed _ _ _ _ _ _ _, fun W hW => hW.below⟩ (by rfl) (fun W hW => by (have c0 := hW.box.cell_at 4 rfl; have f0 := hW.box.frozen 4; clear hW; go_simp; first | done | rfl)) (fun W hW => hW.set HS.out 4 _ rfl) ?_
        simp only [Act.put, List.setIfInBounds_toArray, List.set_cons_zero, List.set_cons_succ]
        repeat (first | (refine mix_read _ (by rfl) (fun W hW => by (clear hW; go_simp; first | done | with_reducible rfl)) ?_; simp only [Act.put, List.setIfInBounds_toArray, List.set_cons_zero, List.set_cons_succ]))
        refine mix_store (OwnS h (((h.r1 x1.1 x1.2).r2 x2.1 x2.2).r3 x3.1 x3.2) x1 x2 x3 w W0.heap.size) (fun W => W.setCell ⟨w.heap.size, 5, none⟩ (.slice x3.1 h.ns.length x3.2)) ⟨OwnS.closed _ _ _ _ _ _ _, fun W hW => hW.below⟩ (by rfl) (fun W hW => by (have c0 := hW.box.cell_at 5 rfl; have f0 := hW.box.frozen 5; clear hW; go_simp; first | done | rfl)) (fun W hW => hW.set HS.out 5 _ rfl) ?_
        simp only [Act.put, List.setIfInBounds_toArray, List.set_cons_zero, List.set_cons_succ]
        exact mix_nil (fun W hW => ⟨trivial, x1, x2, x3, _, _, _, _, _, _, _, _, _, _, _, _, rfl, hW⟩)
    · refine mix_look _ ⟨(Closed.below W0), fun W hW => HB.out W (hW)⟩ (by rfl) (fun W hW => by (have c4 := (HBX.out W (hW)).cell_at 4 rfl; clear hW; go_simp; first | done | with_reducible rfl)) ?_
      simp only [Act.put, List.setIfInBounds_toArray, List.set_cons_zero, List.set_cons_succ]
      refine mix_nil ?_
      refine mix_nil (fun hF => ⟨?_, ?_⟩)
      · refine mix_meet (fun x : Option Addr × Nat => Pth.val ⟨h.p.s, h.p.x, x.1, x.2, h.p.ss⟩) (fun x W => W.ownsRow W0.heap.size 44 3 (.slice x.1 h.p.ss.length x.2) h.p.ss.length (h.p.ss.flatMap stpCells)) ⟨(Closed.below W0), fun W hW => HB.out W (hW)⟩ (fun x => Closed.owns _ _ _ _ _ _) _ _ (by rfl) (fun W hW => by (clear hW; go_simp; first | done | rfl)) (fun W hW => K2.out W (hW)) (fun x1 => ?_)
        simp only [Act.put, List.setIfInBounds_toArray, List.set_cons_zero, List.set_cons_succ]
        refine mix_nil ?_
        refine mix_nil (fun hF => ⟨?_, ?_⟩)
        · refine mix_meet (fun x : Option Addr × Nat => .slice x.1 h.os.length x.2) (fun x W => W.ownsRow W0.heap.size 44 3 (.slice x.1 h.os.length x.2) h.os.length (h.os.flatMap stpCells)) ⟨((Closed.below W0).and (Closed.owns _ _ _ _ _ _)), fun W hW => HB.out W (hW.1)⟩ (fun x => Closed.owns _ _ _ _ _ _) _ _ (by rfl) (fun W hW => by (clear hW; go_simp; first | done | rfl)) (fun W hW => K5.out W (hW.1)) (fun x2 => ?_)
          simp only [Act.put, List.setIfInBounds_toArray, List.set_cons_zero, List.set_cons_succ]
          refine mix_nil ?_
          repeat (first | (refine mix_read _ (by rfl) (fun W hW => by (clear hW; go_simp; first | done | with_reducible rfl)) ?_; simp only [Act.put, List.setIfInBounds_toArray, List.set_cons_zero, List.set_cons_succ]))
          refine mix_look _ ⟨(((Closed.below W0).and (Closed.owns _ _ _ _ _ _)).and (Closed.owns _ _ _ _ _ _)), fun W hW => HB.out W (hW.1.1)⟩ (by rfl) (fun W hW => by (have c5 := (HBX.out W (hW.1.1)).cell_at 5 rfl; clear hW; go_simp; first | done | with_reducible rfl)) ?_
          simp only [Act.put, List.setIfInBounds_toArray, List.set_cons_zero, List.set_cons_succ]
          repeat (first | (refine mix_read _ (by rfl) (fun W hW => by (clear hW; go_simp; first | done | with_reducible rfl)) ?_; simp only [Act.put, List.setIfInBounds_toArray, List.set_cons_zero, List.set_cons_succ]))
          refine mix_meet (fun x : Option Addr × Nat => .slice x.1 h.ns.length x.2) (fun x W => W.ownsRow W0.heap.size 40 3 (.slice x.1 h.ns.length x.2) h.ns.length (h.ns.flatMap needCells)) ⟨(((Closed.below W0).and (Closed.owns _ _ _ _ _ _)).and (Closed.owns _ _ _ _ _ _)), fun W hW => HB.out W (hW.1.1)⟩ (fun x => Closed.owns _ _ _ _ _ _) _ _ (by rfl) (fun W hW => by (clear hW; go_simp; first | done | rfl)) (fun W hW => K8.out W (hW.1.1)) (fun x3 => ?_)
          simp only [Act.put, List.setIfInBounds_toArray, List.set_cons_zero, List.set_cons_succ]
          repeat (first | (refine mix_read _ (by rfl) (fun W hW => by (clear hW; go_simp; first | done | with_reducible rfl)) ?_; simp only [Act.put, List.setIfInBounds_toArray, List.set_cons_zero, List.set_cons_succ]))
          refine mix_within 24 (.tmp 12) (.tmp 5) w.heap.size 1 [.int .i64 h.p.s, .int .i64 h.p.x, .slice x1.1 h.p.ss.length x1.2] (OwnS h (h.r1 x1.1 x1.2) x1 x2 x3 w W0.heap.size) ⟨OwnS.closed _ _ _ _ _ _ _, fun W hW => hW.below⟩ rfl (by rfl) (by rfl) path_info (by rfl) (by rfl) (fun W hW => own_there (HBX.out W (hW.1.1.1))) (fun W hW => OwnS.path ⟨HB.out W (hW.1.1.1), HBX.out W (hW.1.1.1), HBR.out W (hW.1.1.1), hW.1.1.2, hW.1.2, hW.2⟩ HS.out) ?_
          simp only [Act.put, List.setIfInBounds_toArray, List.set_cons_zero, List.set_cons_succ]
          repeat (first | (refine mix_read _ (by rfl) (fun W hW => by (clear hW; go_simp; first | done | with_reducible rfl)) ?_; simp only [Act.put, List.setIfInBounds_toArray, List.set_cons_zero, List.set_cons_succ]))
          refine mix_store (OwnS h ((h.r1 x1.1 x1.2).r2 x2.1 x2.2) x1 x2 x3 w W0.heap.size) (fun W => W.setCell ⟨w.heap.size, 4, none⟩ (.slice x2.1 h.os.length x2.2)) ⟨OwnS.closed _ _ _ _ _ _ _, fun W hW => hW.below⟩ (by rfl) (fun W hW => by (have c0 := hW.box.cell_at 4 rfl; have f0 := hW.box.frozen 4; clear hW; go_simp; first | done | rfl)) (fun W hW => hW.set HS.out 4 _ rfl) ?_
          simp only [Act.put, List.setIfInBounds_toArray, List.set_cons_zero, List.set_cons_succ]
          repeat (first | (refine mix_read _ (by rfl) (fun W hW => by (clear hW; go_simp; first | done | with_reducible rfl)) ?_; simp only [Act.put, List.setIfInBounds_toArray, List.set_cons_zero, List.set_cons_succ]))
          refine mix_store (OwnS h (((h.r1 x1.1 x1.2).r2 x2.1 x2.2).r3 x3.1 x3.2) x1 x2 x3 w W0.heap.size) (fun W => W.setCell ⟨w.heap.size, 5, none⟩ (.slice x3.1 h.ns.length x3.2)) ⟨OwnS.closed _ _ _ _ _ _ _, fun W hW => hW.below⟩ (by rfl) (fun W hW => by (have c0 := hW.box.cell_at 5 rfl; have f0 := hW.box.frozen 5; clear hW; go_simp; first | done | rfl)) (fun W hW => hW.set HS.out 5 _ rfl) ?_
          simp only [Act.put, List.setIfInBounds_toArray, List.set_cons_zero, List.set_cons_succ]
          exact mix_nil (fun W hW => ⟨trivial, x1, x2, x3, _, _, _, _, _, _, _, _, _, _, _, _, rfl, hW⟩)
        · refine mix_look _ ⟨((Closed.below W0).and (Closed.owns _ _ _ _ _ _)), fun W hW => HB.out W (hW.1)⟩ (by rfl) (fun W hW => by (have c5 := (HBX.out W (hW.1)).cell_at 5 rfl; clear hW; go_simp; first | done | with_reducible rfl)) ?_
          simp only [Act.put, List.setIfInBounds_toArray, List.set_cons_zero, List.set_cons_succ]
          refine mix_nil ?_
          repeat (first | (refine mix_read _ (by rfl) (fun W hW => by (clear hW; go_simp; first | done | with_reducible rfl)) ?_; simp only [Act.put, List.setIfInBounds_toArray, List.set_cons_zero, List.set_cons_succ]))
          refine mix_meet (fun x : Option Addr × Nat => .slice x.1 h.os.length x.2) (fun x W => W.ownsRow W0.heap.size 44 3 (.slice x.1 h.os.length x.2) h.os.length (h.os.flatMap stpCells)) ⟨((Closed.below W0).and (Closed.owns _ _ _ _ _ _)), fun W hW => HB.out W (hW.1)⟩ (fun x => Closed.owns _ _ _ _ _ _) _ _ (by rfl) (fun W hW => by (clear hW; go_simp; first | done | rfl)) (fun W hW => K5.out W (hW.1)) (fun x2 => ?_)
          simp only [Act.put, List.setIfInBounds_toArray, List.set_cons_zero, List.set_cons_succ]
          repeat (first | (refine mix_read _ (by rfl) (fun W hW => by (clear hW; go_simp; first | done | with_reducible rfl)) ?_; simp only [Act.put, List.setIfInBounds_toArray, List.set_cons_zero, List.set_cons_succ]))
          refine mix_meet (fun x : Option Addr × Nat => .slice x.1 h.ns.length x.2) (fun x W => W.ownsRow W0.heap.size 40 3 (.slice x.1 h.ns.length x.2) h.ns.length (h.ns.flatMap needCells)) ⟨(((Closed.below W0).and (Closed.owns _ _ _ _ _ _)).and (Closed.owns _ _ _ _ _ _)), fun W hW => HB.out W (hW.1.1)⟩ (fun x => Closed.owns _ _ _ _ _ _) _ _ (by rfl) (fun W hW => by (clear hW; go_simp; first | done | rfl)) (fun W hW => K8.out W (hW.1.1)) (fun x3 => ?_)
          simp only [Act.put, List.setIfInBounds_toArray, List.set_cons_zero, List.set_cons_succ]
          repeat (first | (refine mix_read _ (by rfl) (fun W hW => by (clear hW; go_simp; first | done | with_reducible rfl)) ?_; simp only [Act.put, List.setIfInBounds_toArray, List.set_cons_zero, List.set_cons_succ]))
          refine mix_within 24 (.tmp 12) (.tmp 5) w.heap.size 1 [.int .i64 h.p.s, .int .i64 h.p.x, .slice x1.1 h.p.ss.length x1.2] (OwnS h (h.r1 x1.1 x1.2) x1 x2 x3 w W0.heap.size) ⟨OwnS.closed _ _ _ _ _ _ _, fun W hW => hW.below⟩ rfl (by rfl) (by rfl) path_info (by rfl) (by rfl) (fun W hW => own_there (HBX.out W (hW.1.1.1))) (fun W hW => OwnS.path ⟨HB.out W (hW.1.1.1), HBX.out W (hW.1.1.1), HBR.out W (hW.1.1.1), hW.1.1.2, hW.1.2, hW.2⟩ HS.out) ?_
          simp only [Act.put, List.setIfInBounds_toArray, List.set_cons_zero, List.set_cons_succ]
          repeat (first | (refine mix_read _ (by rfl) (fun W hW => by (clear hW; go_simp; first | done | with_reducible rfl)) ?_; simp only [Act.put, List.setIfInBounds_toArray, List.set_cons_zero, List.set_cons_succ]))
          refine mix_store (OwnS h ((h.r1 x1.1 x1.2).r2 x2.1 x2.2) x1 x2 x3 w W0.heap.size) (fun W => W.setCell ⟨w.heap.size, 4, none⟩ (.slice x2.1 h.os.length x2.2)) ⟨OwnS.closed _ _ _ _ _ _ _, fun W hW => hW.below⟩ (by rfl) (fun W hW => by (have c0 := hW.box.cell_at 4 rfl; have f0 := hW.box.frozen 4; clear hW; go_simp; first | done | rfl)) (fun W hW => hW.set HS.out 4 _ rfl) ?_
          simp only [Act.put, List.setIfInBounds_toArray, List.set_cons_zero, List.set_cons_succ]
          repeat (first | (refine mix_read _ (by rfl) (fun W hW => by (clear hW; go_simp; first | done | with_reducible rfl)) ?_; simp only [Act.put, List.setIfInBounds_toArray, List.set_cons_zero, List.set_cons_succ]))
          refine mix_store (OwnS h (((h.r1 x1.1 x1.2).r2 x2.1 x2.2).r3 x3.1 x3.2) x1 x2 x3 w W0.heap.size) (fun W => W.setCell ⟨w.heap.size, 5, none⟩ (.slice x3.1 h.ns.length x3.2)) ⟨OwnS.closed _ _ _ _ _ _ _, fun W hW => hW.below⟩ (by rfl) (fun W hW => by (have c0 := hW.box.cell_at 5 rfl; have f0 := hW.box.frozen 5; clear hW; go_simp; first | done | rfl)) (fun W hW => hW.set HS.out 5 _ rfl) ?_
          simp only [Act.put, List.setIfInBounds_toArray, List.set_cons_zero, List.set_cons_succ]
          exact mix_nil (fun W hW => ⟨trivial, x1, x2, x3, _, _, _, _, _, _, _, _, _, _, _, _, rfl, hW⟩)
      · refine mix_look _ ⟨(Closed.below W0), fun W hW => HB.out W (hW)⟩ (by rfl) (fun W hW => by (have c5 := (HBX.out W (hW)).cell_at 5 rfl; clear hW; go_simp; first | done | with_reducible rfl)) ?_
        simp only [Act.put, List.setIfInBounds_toArray, List.set_cons_zero, List.set_cons_succ]
        refine mix_nil ?_
        repeat (first | (refine mix_read _ (by rfl) (fun W hW => by (clear hW; go_simp; first | done | with_reducible rfl)) ?_; simp only [Act.put, List.setIfInBounds_toArray, List.set_cons_zero, List.set_cons_succ]))
        refine mix_meet (fun x : Option Addr × Nat => Pth.val ⟨h.p.s, h.p.x, x.1, x.2, h.p.ss⟩) (fun x W => W.ownsRow W0.heap.size 44 3 (.slice x.1 h.p.ss.length x.2) h.p.ss.length (h.p.ss.flatMap stpCells)) ⟨(Closed.below W0), fun W hW => HB.out W (hW)⟩ (fun x => Closed.owns _ _ _ _ _ _) _ _ (by rfl) (fun W hW => by (clear hW; go_simp; first | done | rfl)) (fun W hW => K2.out W (hW)) (fun x1 => ?_)
        simp only [Act.put, List.setIfInBounds_toArray, List.set_cons_zero, List.set_cons_succ]
        repeat (first | (refine mix_read _ (by rfl) (fun W hW => by (clear hW; go_simp; first | done | with_reducible rfl)) ?_; simp only [Act.put, List.setIfInBounds_toArray, List.set_cons_zero, List.set_cons_succ]))
        refine mix_meet (fun x : Option Addr × Nat => .slice x.1 h.os.length x.2) (fun x W => W.ownsRow W0.heap.size 44 3 (.slice x.1 h.os.length x.2) h.os.length (h.os.flatMap stpCells)) ⟨((Closed.below W0).and (Closed.owns _ _ _ _ _ _)), fun W hW => HB.out W (hW.1)⟩ (fun x => Closed.owns _ _ _ _ _ _) _ _ (by rfl) (fun W hW => by (clear hW; go_simp; first | done | rfl)) (fun W hW => K5.out W (hW.1)) (fun x2 => ?_)
        simp only [Act.put, List.setIfInBounds_toArray, List.set_cons_zero, List.set_cons_succ]
        repeat (first | (refine mix_read _ (by rfl) (fun W hW => by (clear hW; go_simp; first | done | with_reducible rfl)) ?_; simp only [Act.put, List.setIfInBounds_toArray, List.set_cons_zero, List.set_cons_succ]))
        refine mix_meet (fun x : Option Addr × Nat => .slice x.1 h.ns.length x.2) (fun x W => W.ownsRow W0.heap.size 40 3 (.slice x.1 h.ns.length x.2) h.ns.length (h.ns.flatMap needCells)) ⟨(((Closed.below W0).and (Closed.owns _ _ _ _ _ _)).and (Closed.owns _ _ _ _ _ _)), fun W hW => HB.out W (hW.1.1)⟩ (fun x => Closed.owns _ _ _ _ _ _) _ _ (by rfl) (fun W hW => by (clear hW; go_simp; first | done | rfl)) (fun W hW => K8.out W (hW.1.1)) (fun x3 => ?_)
        simp only [Act.put, List.setIfInBounds_toArray, List.set_cons_zero, List.set_cons_succ]
        repeat (first | (refine mix_read _ (by rfl) (fun W hW => by (clear hW; go_simp; first | done | with_reducible rfl)) ?_; simp only [Act.put, List.setIfInBounds_toArray, List.set_cons_zero, List.set_cons_succ]))
        refine mix_within 24 (.tmp 12) (.tmp 5) w.heap.size 1 [.int .i64 h.p.s, .int .i64 h.p.x, .slice x1.1 h.p.ss.length x1.2] (OwnS h (h.r1 x1.1 x1.2) x1 x2 x3 w W0.heap.size) ⟨OwnS.closed _ _ _ _ _ _ _, fun W hW => hW.below⟩ rfl (by rfl) (by rfl) path_info (by rfl) (by rfl) (fun W hW => own_there (HBX.out W (hW.1.1.1))) (fun W hW => OwnS.path ⟨HB.out W (hW.1.1.1), HBX.out W (hW.1.1.1), HBR.out W (hW.1.1.1), hW.1.1.2, hW.1.2, hW.2⟩ HS.out) ?_
        simp only [Act.put, List.setIfInBounds_toArray, List.set_cons_zero, List.set_cons_succ]
        repeat (first | (refine mix_read _ (by rfl) (fun W hW => by (clear hW; go_simp; first | done | with_reducible rfl)) ?_; simp only [Act.put, List.setIfInBounds_toArray, List.set_cons_zero, List.set_cons_succ]))
        refine mix_store (OwnS h ((h.r1 x1.1 x1.2).r2 x2.1 x2.2) x1 x2 x3 w W0.heap.size) (fun W => W.setCell ⟨w.heap.size, 4, none⟩ (.slice x2.1 h.os.length x2.2)) ⟨OwnS.closed _ _ _ _ _ _ _, fun W hW => hW.below⟩ (by rfl) (fun W hW => by (have c0 := hW.box.cell_at 4 rfl; have f0 := hW.box.frozen 4; clear hW; go_simp; first | done | rfl)) (fun W hW => hW.set HS.out 4 _ rfl) ?_
        simp only [Act.put, List.setIfInBounds_toArray, List.set_cons_zero, List.set_cons_succ]
        repeat (first | (refine mix_read _ (by rfl) (fun W hW => by (clear hW; go_simp; first | done | with_reducible rfl)) ?_; simp only [Act.put, List.setIfInBounds_toArray, List.set_cons_zero, List.set_cons_succ]))
        refine mix_store (OwnS h (((h.r1 x1.1 x1.2).r2 x2.1 x2.2).r3 x3.1 x3.2) x1 x2 x3 w W0.heap.size) (fun W => W.setCell ⟨w.heap.size, 5, none⟩ (.slice x3.1 h.ns.length x3.2)) ⟨OwnS.closed _ _ _ _ _ _ _, fun W hW => hW.below⟩ (by rfl) (fun W hW => by (have c0 := hW.box.cell_at 5 rfl; have f0 := hW.box.frozen 5; clear hW; go_simp; first | done | rfl)) (fun W hW => hW.set HS.out 5 _ rfl) ?_
        simp only [Act.put, List.setIfInBounds_toArray, List.set_cons_zero, List.set_cons_succ]
        exact mix_nil (fun W hW => ⟨trivial, x1, x2, x3, _, _, _, _, _, _, _, _, _, _, _, _, rfl, hW⟩)
    · refine mix_look _ ⟨(Closed.below W0), fun W hW => HB.out W (hW)⟩ (by rfl) (fun W hW => by (have c5 := (HBX.out W (hW)).cell_at 5 rfl; clear hW; go_simp; first | done | with_reducible rfl)) ?_
      simp only [Act.put, List.setIfInBounds_toArray, List.set_cons_zero, List.set_cons_succ]
      refine mix_nil ?_
      refine mix_nil (fun hF => ⟨?_, ?_⟩)
      · refine mix_meet (fun x : Option Addr × Nat => Pth.val ⟨h.p.s, h.p.x, x.1, x.2, h.p.ss⟩) (fun x W => W.ownsRow W0.heap.size 44 3 (.slice x.1 h.p.ss.length x.2) h.p.ss.length (h.p.ss.flatMap stpCells)) ⟨(Closed.below W0), fun W hW => HB.out W (hW)⟩ (fun x => Closed.owns _ _ _ _ _ _) _ _ (by rfl) (fun W hW => by (clear hW; go_simp; first | done | rfl)) (fun W hW => K2.out W (hW)) (fun x1 => ?_)
        simp only [Act.put, List.setIfInBounds_toArray, List.set_cons_zero, List.set_cons_succ]
        refine mix_nil ?_
        repeat (first | (refine mix_read _ (by rfl) (fun W hW => by (clear hW; go_simp; first | done | with_reducible rfl)) ?_; simp only [Act.put, List.setIfInBounds_toArray, List.set_cons_zero, List.set_cons_succ]))
        refine mix_look _ ⟨((Closed.below W0).and (Closed.owns _ _ _ _ _ _)), fun W hW => HB.out W (hW.1)⟩ (by rfl) (fun W hW => by (have c4 := (HBX.out W (hW.1)).cell_at 4 rfl; clear hW; go_simp; first | done | with_reducible rfl)) ?_
        simp only [Act.put, List.setIfInBounds_toArray, List.set_cons_zero, List.set_cons_succ]
        repeat (first | (refine mix_read _ (by rfl) (fun W hW => by (clear hW; go_simp; first | done | with_reducible rfl)) ?_; simp only [Act.put, List.setIfInBounds_toArray, List.set_cons_zero, List.set_cons_succ]))
        refine mix_meet (fun x : Option Addr × Nat => .slice x.1 h.os.length x.2) (fun x W => W.ownsRow W0.heap.size 44 3 (.slice x.1 h.os.length x.2) h.os.length (h.os.flatMap stpCells)) ⟨((Closed.below W0).and (Closed.owns _ _ _ _ _ _)), fun W hW => HB.out W (hW.1)⟩ (fun x => Closed.owns _ _ _ _ _ _) _ _ (by rfl) (fun W hW => by (clear hW; go_simp; first | done | rfl)) (fun W hW => K5.out W (hW.1)) (fun x2 => ?_)
        simp only [Act.put, List.setIfInBounds_toArray, List.set_cons_zero, List.set_cons_succ]
        repeat (first | (refine mix_read _ (by rfl) (fun W hW => by (clear hW; go_simp; first | done | with_reducible rfl)) ?_; simp only [Act.put, List.setIfInBounds_toArray, List.set_cons_zero, List.set_cons_succ]))
        refine mix_meet (fun x : Option Addr × Nat => .slice x.1 h.ns.length x.2) (fun x W => W.ownsRow W0.heap.size 40 3 (.slice x.1 h.ns.length x.2) h.ns.length (h.ns.flatMap needCells)) ⟨(((Closed.below W0).and (Closed.owns _ _ _ _ _ _)).and (Closed.owns _ _ _ _ _ _)), fun W hW => HB.out W (hW.1.1)⟩ (fun x => Closed.owns _ _ _ _ _ _) _ _ (by rfl) (fun W hW => by (clear hW; go_simp; first | done | rfl)) (fun W hW => K8.out W (hW.1.1)) (fun x3 => ?_)
        simp only [Act.put, List.setIfInBounds_toArray, List.set_cons_zero, List.set_cons_succ]
        repeat (first | (refine mix_read _ (by rfl) (fun W hW => by (clear hW; go_simp; first | done | with_reducible rfl)) ?_; simp only [Act.put, List.setIfInBounds_toArray, List.set_cons_zero, List.set_cons_succ]))
        refine mix_within 24 (.tmp 12) (.tmp 5) w.heap.size 1 [.int .i64 h.p.s, .int .i64 h.p.x, .slice x1.1 h.p.ss.length x1.2] (OwnS h (h.r1 x1.1 x1.2) x1 x2 x3 w W0.heap.size) ⟨OwnS.closed _ _ _ _ _ _ _, fun W hW => hW.below⟩ rfl (by rfl) (by rfl) path_info (by rfl) (by rfl) (fun W hW => own_there (HBX.out W (hW.1.1.1))) (fun W hW => OwnS.path ⟨HB.out W (hW.1.1.1), HBX.out W (hW.1.1.1), HBR.out W (hW.1.1.1), hW.1.1.2, hW.1.2, hW.2⟩ HS.out) ?_
        simp only [Act.put, List.setIfInBounds_toArray, List.set_cons_zero, List.set_cons_succ]
        repeat (first | (refine mix_read _ (by rfl) (fun W hW => by (clear hW; go_simp; first | done | with_reducible rfl)) ?_; simp only [Act.put, List.setIfInBounds_toArray, List.set_cons_zero, List.set_cons_succ]))
        refine mix_store (OwnS h ((h.r1 x1.1 x1.2).r2 x2.1 x2.2) x1 x2 x3 w W0.heap.size) (fun W => W.setCell ⟨w.heap.size, 4, none⟩ (.slice x2.1 h.os.length x2.2)) ⟨OwnS.closed _ _ _ _ _ _ _, fun W hW => hW.below⟩ (by rfl) (fun W hW => by (have c0 := hW.box.cell_at 4 rfl; have f0 := hW.box.frozen 4; clear hW; go_simp; first | done | rfl)) (fun W hW => hW.set HS.out 4 _ rfl) ?_
        simp only [Act.put, List.setIfInBounds_toArray, List.set_cons_zero, List.set_cons_succ]
        repeat (first | (refine mix_read _ (by rfl) (fun W hW => by (clear hW; go_simp; first | done | with_reducible rfl)) ?_; simp only [Act.put, List.setIfInBounds_toArray, List.set_cons_zero, List.set_cons_succ]))
        refine mix_store (OwnS h (((h.r1 x1.1 x1.2).r2 x2.1 x2.2).r3 x3.1 x3.2) x1 x2 x3 w W0.heap.size) (fun W => W.setCell ⟨w.heap.size, 5, none⟩ (.slice x3.1 h.ns.length x3.2)) ⟨OwnS.closed _ _ _ _ _ _ _, fun W hW => hW.below⟩ (by rfl) (fun W hW => by (have c0 := hW.box.cell_at 5 rfl; have f0 := hW.box.frozen 5; clear hW; go_simp; first | done | rfl)) (fun W hW => hW.set HS.out 5 _ rfl) ?_
        simp only [Act.put, List.setIfInBounds_toArray, List.set_cons_zero, List.set_cons_succ]
        exact mix_nil (fun W hW => ⟨trivial, x1, x2, x3, _, _, _, _, _, _, _, _, _, _, _, _, rfl, hW⟩)
      · refine mix_look _ ⟨(Closed.below W0), fun W hW => HB.out W (hW)⟩ (by rfl) (fun W hW => by (have c4 := (HBX.out W (hW)).cell_at 4 rfl; clear hW; go_simp; first | done | with_reducible rfl)) ?_
        simp only [Act.put, List.setIfInBounds_toArray, List.set_cons_zero, List.set_cons_succ]
        refine mix_nil ?_
        repeat (first | (refine mix_read _ (by rfl) (fun W hW => by (clear hW; go_simp; first | done | with_reducible rfl)) ?_; simp only [Act.put, List.setIfInBounds_toArray, List.set_cons_zero, List.set_cons_succ]))
        refine mix_meet (fun x : Option Addr × Nat => Pth.val ⟨h.p.s, h.p.x, x.1, x.2, h.p.ss⟩) (fun x W => W.ownsRow W0.heap.size 44 3 (.slice x.1 h.p.ss.length x.2) h.p.ss.length (h.p.ss.flatMap stpCells)) ⟨(Closed.below W0), fun W hW => HB.out W (hW)⟩ (fun x => Closed.owns _ _ _ _ _ _) _ _ (by rfl) (fun W hW => by (clear hW; go_simp; first | done | rfl)) (fun W hW => K2.out W (hW)) (fun x1 => ?_)
        simp only [Act.put, List.setIfInBounds_toArray, List.set_cons_zero, List.set_cons_succ]
        repeat (first | (refine mix_read _ (by rfl) (fun W hW => by (clear hW; go_simp; first | done | with_reducible rfl)) ?_; simp only [Act.put, List.setIfInBounds_toArray, List.set_cons_zero, List.set_cons_succ]))
        refine mix_meet (fun x : Option Addr × Nat => .slice x.1 h.os.length x.2) (fun x W => W.ownsRow W0.heap.size 44 3 (.slice x.1 h.os.length x.2) h.os.length (h.os.flatMap stpCells)) ⟨((Closed.below W0).and (Closed.owns _ _ _ _ _ _)), fun W hW => HB.out W (hW.1)⟩ (fun x => Closed.owns _ _ _ _ _ _) _ _ (by rfl) (fun W hW => by (clear hW; go_simp; first | done | rfl)) (fun W hW => K5.out W (hW.1)) (fun x2 => ?_)
        simp only [Act.put, List.setIfInBounds_toArray, List.set_cons_zero, List.set_cons_succ]
        repeat (first | (refine mix_read _ (by rfl) (fun W hW => by (clear hW; go_simp; first | done | with_reducible rfl)) ?_; simp only [Act.put, List.setIfInBounds_toArray, List.set_cons_zero, List.set_cons_succ]))
        refine mix_meet (fun x : Option Addr × Nat => .slice x.1 h.ns.length x.2) (fun x W => W.ownsRow W0.heap.size 40 3 (.slice x.1 h.ns.length x.2) h.ns.length (h.ns.flatMap needCells)) ⟨(((Closed.below W0).and (Closed.owns _ _ _ _ _ _)).and (Closed.owns _ _ _ _ _ _)), fun W hW => HB.out W (hW.1.1)⟩ (fun x => Closed.owns _ _ _ _ _ _) _ _ (by rfl) (fun W hW => by (clear hW; go_simp; first | done | rfl)) (fun W hW => K8.out W (hW.1.1)) (fun x3 => ?_)
        simp only [Act.put, List.setIfInBounds_toArray, List.set_cons_zero, List.set_cons_succ]
        repeat (first | (refine mix_read _ (by rfl) (fun W hW => by (clear hW; go_simp; first | done | with_reducible rfl)) ?_; simp only [Act.put, List.setIfInBounds_toArray, List.set_cons_zero, List.set_cons_succ]))
        refine mix_within 24 (.tmp 12) (.tmp 5) w.heap.size 1 [.int .i64 h.p.s, .int .i64 h.p.x, .slice x1.1 h.p.ss.length x1.2] (OwnS h (h.r1 x1.1 x1.2) x1 x2 x3 w W0.heap.size) ⟨OwnS.closed _ _ _ _ _ _ _, fun W hW => hW.below⟩ rfl (by rfl) (by rfl) path_info (by rfl) (by rfl) (fun W hW => own_there (HBX.out W (hW.1.1.1))) (fun W hW => OwnS.path ⟨HB.out W (hW.1.1.1), HBX.out W (hW.1.1.1), HBR.out W (hW.1.1.1), hW.1.1.2, hW.1.2, hW.2⟩ HS.out) ?_
        simp only [Act.put, List.setIfInBounds_toArray, List.set_cons_zero, List.set_cons_succ]
        repeat (first | (refine mix_read _ (by rfl) (fun W hW => by (clear hW; go_simp; first | done | with_reducible rfl)) ?_; simp only [Act.put, List.setIfInBounds_toArray, List.set_cons_zero, List.set_cons_succ]))
        refine mix_store (OwnS h ((h.r1 x1.1 x1.2).r2 x2.1 x2.2) x1 x2 x3 w W0.heap.size) (fun W => W.setCell ⟨w.heap.size, 4, none⟩ (.slice x2.1 h.os.length x2.2)) ⟨OwnS.closed _ _ _ _ _ _ _, fun W hW => hW.below⟩ (by rfl) (fun W hW => by (have c0 := hW.box.cell_at 4 rfl; have f0 := hW.box.frozen 4; clear hW; go_simp; first | done | rfl)) (fun W hW => hW.set HS.out 4 _ rfl) ?_
        simp only [Act.put, List.setIfInBounds_toArray, List.set_cons_zero, List.set_cons_succ]
        repeat (first | (refine mix_read _ (by rfl) (fun W hW => by (clear hW; go_simp; first | done | with_reducible rfl)) ?_; simp only [Act.put, List.setIfInBounds_toArray, List.set_cons_zero, List.set_cons_succ]))
        refine mix_store (OwnS h (((h.r1 x1.1 x1.2).r2 x2.1 x2.2).r3 x3.1 x3.2) x1 x2 x3 w W0.heap.size) (fun W => W.setCell ⟨w.heap.size, 5, none⟩ (.slice x3.1 h.ns.length x3.2)) ⟨OwnS.closed _ _ _ _ _ _ _, fun W hW => hW.below⟩ (by rfl) (fun W hW => by (have c0 := hW.box.cell_at 5 rfl; have f0 := hW.box.frozen 5; clear hW; go_simp; first | done | rfl)) (fun W hW => hW.set HS.out 5 _ rfl) ?_
        simp only [Act.put, List.setIfInBounds_toArray, List.set_cons_zero, List.set_cons_succ]
        exact mix_nil (fun W hW => ⟨trivial, x1, x2, x3, _, _, _, _, _, _, _, _, _, _, _, _, rfl, hW⟩)
  · refine mix_look _ ⟨(Closed.below W0), fun W hW => HB.out W (hW)⟩ (by rfl) (fun W hW => by (have c4 := (HBX.out W (hW)).cell_at 4 rfl; clear hW; go_simp; first | done | with_reducible rfl)) ?_
    simp only [Act.put, List.setIfInBounds_toArray, List.set_cons_zero, List.set_cons_succ]
    refine mix_nil ?_
    refine mix_nil (fun hF => ⟨?_, ?_⟩)
    · refine mix_look _ ⟨(Closed.below W0), fun W hW => HB.out W (hW)⟩ (by rfl) (fun W hW => exec_pth (by rfl) (by rfl) (HBX.out W (hW))) ?_
      simp only [Act.put, List.setIfInBounds_toArray, List.set_cons_zero, List.set_cons_succ]
      refine mix_nil ?_
      refine mix_nil (fun hF => ⟨?_, ?_⟩)
      · refine mix_meet (fun x : Option Addr × Nat => Pth.val ⟨h.p.s, h.p.x, x.1, x.2, h.p.ss⟩) (fun x W => W.ownsRow W0.heap.size 44 3 (.slice x.1 h.p.ss.length x.2) h.p.ss.length (h.p.ss.flatMap stpCells)) ⟨(Closed.below W0), fun W hW => HB.out W (hW)⟩ (fun x => Closed.owns _ _ _ _ _ _) _ _ (by rfl) (fun W hW => by (clear hW; go_simp; first | done | rfl)) (fun W hW => K2.out W (hW)) (fun x1 => ?_)
        simp only [Act.put, List.setIfInBounds_toArray, List.set_cons_zero, List.set_cons_succ]
        refine mix_nil ?_
        refine mix_nil (fun hF => ⟨?_, ?_⟩)
        · refine mix_meet (fun x : Option Addr × Nat => .slice x.1 h.os.length x.2) (fun x W => W.ownsRow W0.heap.size 44 3 (.slice x.1 h.os.length x.2) h.os.length (h.os.flatMap stpCells)) ⟨((Closed.below W0).and (Closed.owns _ _ _ _ _ _)), fun W hW => HB.out W (hW.1)⟩ (fun x => Closed.owns _ _ _ _ _ _) _ _ (by rfl) (fun W hW => by (clear hW; go_simp; first | done | rfl)) (fun W hW => K5.out W (hW.1)) (fun x2 => ?_)
          simp only [Act.put, List.setIfInBounds_toArray, List.set_cons_zero, List.set_cons_succ]
          refine mix_nil ?_
          repeat (first | (refine mix_read _ (by rfl) (fun W hW => by (clear hW; go_simp; first | done | with_reducible rfl)) ?_; simp only [Act.put, List.setIfInBounds_toArray, List.set_cons_zero, List.set_cons_succ]))
          refine mix_look _ ⟨(((Closed.below W0).and (Closed.owns _ _ _ _ _ _)).and (Closed.owns _ _ _ _ _ _)), fun W hW => HB.out W (hW.1.1)⟩ (by rfl) (fun W hW => by (have c5 := (HBX.out W (hW.1.1)).cell_at 5 rfl; clear hW; go_simp; first | done | with_reducible rfl)) ?_
          simp only [Act.put, List.setIfInBounds_toArray, List.set_cons_zero, List.set_cons_succ]
          repeat (first | (refine mix_read _ (by rfl) (fun W hW => by (clear hW; go_simp; first | done | with_reducible rfl)) ?_; simp only [Act.put, List.setIfInBounds_toArray, List.set_cons_zero, List.set_cons_succ]))
          refine mix_meet (fun x : Option Addr × Nat => .slice x.1 h.ns.length x.2) (fun x W => W.ownsRow W0.heap.size 40 3 (.slice x.1 h.ns.length x.2) h.ns.length (h.ns.flatMap needCells)) ⟨(((Closed.below W0).and (Closed.owns _ _ _ _ _ _)).and (Closed.owns _ _ _ _ _ _)), fun W hW => HB.out W (hW.1.1)⟩ (fun x => Closed.owns _ _ _ _ _ _) _ _ (by rfl) (fun W hW => by (clear hW; go_simp; first | done | rfl)) (fun W hW => K8.out W (hW.1.1)) (fun x3 => ?_)
          simp only [Act.put, List.setIfInBounds_toArray, List.set_cons_zero, List.set_cons_succ]
          repeat (first | (refine mix_read _ (by rfl) (fun W hW => by (clear hW; go_simp; first | done | with_reducible rfl)) ?_; simp only [Act.put, List.setIfInBounds_toArray, List.set_cons_zero, List.set_cons_succ]))
          refine mix_within 24 (.tmp 12) (.tmp 5) w.heap.size 1 [.int .i64 h.p.s, .int .i64 h.p.x, .slice x1.1 h.p.ss.length x1.2] (OwnS h (h.r1 x1.1 x1.2) x1 x2 x3 w W0.heap.size) ⟨OwnS.closed _ _ _ _ _ _ _, fun W hW => hW.below⟩ rfl (by rfl) (by rfl) path_info (by rfl) (by rfl) (fun W hW => own_there (HBX.out W (hW.1.1.1))) (fun W hW => OwnS.path ⟨HB.out W (hW.1.1.1), HBX.out W (hW.1.1.1), HBR.out W (hW.1.1.1), hW.1.1.2, hW.1.2, hW.2⟩ HS.out) ?_
          simp only [Act.put, List.setIfInBounds_toArray, List.set_cons_zero, List.set_cons_succ]
          repeat (first | (refine mix_read _ (by rfl) (fun W hW => by (clear hW; go_simp; first | done | with_reducible rfl)) ?_; simp only [Act.put, List.setIfInBounds_toArray, List.set_cons_zero, List.set_cons_succ]))
          refine mix_store (OwnS h ((h.r1 x1.1 x1.2).r2 x2.1 x2.2) x1 x2 x3 w W0.heap.size) (fun W => W.setCell ⟨w.heap.size, 4, none⟩ (.slice x2.1 h.os.length x2.2)) ⟨OwnS.closed _ _ _ _ _ _ _, fun W hW => hW.below⟩ (by rfl) (fun W hW => by (have c0 := hW.box.cell_at 4 rfl; have f0 := hW.box.frozen 4; clear hW; go_simp; first | done | rfl)) (fun W hW => hW.set HS.out 4 _ rfl) ?_
          simp only [Act.put, List.setIfInBounds_toArray, List.set_cons_zero, List.set_cons_succ]
          repeat (first | (refine mix_read _ (by rfl) (fun W hW => by (clear hW; go_simp; first | done | with_reducible rfl)) ?_; simp only [Act.put, List.setIfInBounds_toArray, List.set_cons_zero, List.set_cons_succ]))
          refine mix_store (OwnS h (((h.r1 x1.1 x1.2).r2 x2.1 x2.2).r3 x3.1 x3.2) x1 x2 x3 w W0.heap.size) (fun W => W.setCell ⟨w.heap.size, 5, none⟩ (.slice x3.1 h.ns.length x3.2)) ⟨OwnS.closed _ _ _ _ _ _ _, fun W hW => hW.below⟩ (by rfl) (fun W hW => by (have c0 := hW.box.cell_at 5 rfl; have f0 := hW.box.frozen 5; clear hW; go_simp; first | done | rfl)) (fun W hW => hW.set HS.out 5 _ rfl) ?_
          simp only [Act.put, List.setIfInBounds_toArray, List.set_cons_zero, List.set_cons_succ]
          exact mix_nil (fun W hW => ⟨trivial, x1, x2, x3, _, _, _, _, _, _, _, _, _, _, _, _, rfl, hW⟩)
        · refine mix_look _ ⟨((Closed.below W0).and (Closed.owns _ _ _ _ _ _)), fun W hW => HB.out W (hW.1)⟩ (by rfl) (fun W hW => by (have c5 := (HBX.out W (hW.1)).cell_at 5 rfl; clear hW; go_simp; first | done | with_reducible rfl)) ?_
          simp only [Act.put, List.setIfInBounds_toArray, List.set_cons_zero, List.set_cons_succ]
          refine mix_nil ?_
          repeat (first | (refine mix_read _ (by rfl) (fun W hW => by (clear hW; go_simp; first | done | with_reducible rfl)) ?_; simp only [Act.put, List.setIfInBounds_toArray, List.set_cons_zero, List.set_cons_succ]))
          refine mix_meet (fun x : Option Addr × Nat => .slice x.1 h.os.length x.2) (fun x W => W.ownsRow W0.heap.size 44 3 (.slice x.1 h.os.length x.2) h.os.length (h.os.flatMap stpCells)) ⟨((Closed.below W0).and (Closed.owns _ _ _ _ _ _)), fun W hW => HB.out W (hW.1)⟩ (fun x => Closed.owns _ _ _ _ _ _) _ _ (by rfl) (fun W hW => by (clear hW; go_simp; first | done | rfl)) (fun W hW => K5.out W (hW.1)) (fun x2 => ?_)
          simp only [Act.put, List.setIfInBounds_toArray, List.set_cons_zero, List.set_cons_succ]
          repeat (first | (refine mix_read _ (by rfl) (fun W hW => by (clear hW; go_simp; first | done | with_reducible rfl)) ?_; simp only [Act.put, List.setIfInBounds_toArray, List.set_cons_zero, List.set_cons_succ]))
          refine mix_meet (fun x : Option Addr × Nat => .slice x.1 h.ns.length x.2) (fun x W => W.ownsRow W0.heap.size 40 3 (.slice x.1 h.ns.length x.2) h.ns.length (h.ns.flatMap needCells)) ⟨(((Closed.below W0).and (Closed.owns _ _ _ _ _ _)).and (Closed.owns _ _ _ _ _ _)), fun W hW => HB.out W (hW.1.1)⟩ (fun x => Closed.owns _ _ _ _ _ _) _ _ (by rfl) (fun W hW => by (clear hW; go_simp; first | done | rfl)) (fun W hW => K8.out W (hW.1.1)) (fun x3 => ?_)
          simp only [Act.put, List.setIfInBounds_toArray, List.set_cons_zero, List.set_cons_succ]
          repeat (first | (refine mix_read _ (by rfl) (fun W hW => by (clear hW; go_simp; first | done | with_reducible rfl)) ?_; simp only [Act.put, List.setIfInBounds_toArray, List.set_cons_zero, List.set_cons_succ]))
          refine mix_within 24 (.tmp 12) (.tmp 5) w.heap.size 1 [.int .i64 h.p.s, .int .i64 h.p.x, .slice x1.1 h.p.ss.length x1.2] (OwnS h (h.r1 x1.1 x1.2) x1 x2 x3 w W0.heap.size) ⟨OwnS.closed _ _ _ _ _ _ _, fun W hW => hW.below⟩ rfl (by rfl) (by rfl) path_info (by rfl) (by rfl) (fun W hW => own_there (HBX.out W (hW.1.1.1))) (fun W hW => OwnS.path ⟨HB.out W (hW.1.1.1), HBX.out W (hW.1.1.1), HBR.out W (hW.1.1.1), hW.1.1.2, hW.1.2, hW.2⟩ HS.out) ?_
          simp only [Act.put, List.setIfInBounds_toArray, List.set_cons_zero, List.set_cons_succ]
          repeat (first | (refine mix_read _ (by rfl) (fun W hW => by (clear hW; go_simp; first | done | with_reducible rfl)) ?_; simp only [Act.put, List.setIfInBounds_toArray, List.set_cons_zero, List.set_cons_succ]))
          refine mix_store (OwnS h ((h.r1 x1.1 x1.2).r2 x2.1 x2.2) x1 x2 x3 w W0.heap.size) (fun W => W.setCell ⟨w.heap.size, 4, none⟩ (.slice x2.1 h.os.length x2.2)) ⟨OwnS.closed _ _ _ _ _ _ _, fun W hW => hW.below⟩ (by rfl) (fun W hW => by (have c0 := hW.box.cell_at 4 rfl; have f0 := hW.box.frozen 4; clear hW; go_simp; first | done | rfl)) (fun W hW => hW.set HS.out 4 _ rfl) ?_
          simp only [Act.put, List.setIfInBounds_toArray, List.set_cons_zero, List.set_cons_succ]
          repeat (first | (refine mix_read _ (by rfl) (fun W hW => by (clear hW; go_simp; first | done | with_reducible rfl)) ?_; simp only [Act.put, List.setIfInBounds_toArray, List.set_cons_zero, List.set_cons_succ]))
          refine mix_store (OwnS h (((h.r1 x1.1 x1.2).r2 x2.1 x2.2).r3 x3.1 x3.2) x1 x2 x3 w W0.heap.size) (fun W => W.setCell ⟨w.heap.size, 5, none⟩ (.slice x3.1 h.ns.length x3.2)) ⟨OwnS.closed _ _ _ _ _ _ _, fun W hW => hW.below⟩ (by rfl) (fun W hW => by (have c0 := hW.box.cell_at 5 rfl; have f0 := hW.box.frozen 5; clear hW; go_simp; first | done | rfl)) (fun W hW => hW.set HS.out 5 _ rfl) ?_
          simp only [Act.put, List.setIfInBounds_toArray, List.set_cons_zero, List.set_cons_succ]
          exact mix_nil (fun W hW => ⟨trivial, x1, x2, x3, _, _, _, _, _, _, _, _, _, _, _, _, rfl, hW⟩)
      · refine mix_look _ ⟨(Closed.below W0), fun W hW => HB.out W (hW)⟩ (by rfl) (fun W hW => by (have c5 := (HBX.out W (hW)).cell_at 5 rfl; clear hW; go_simp; first | done | with_reducible rfl)) ?_
        simp only [Act.put, List.setIfInBounds_toArray, List.set_cons_zero, List.set_cons_succ]
        refine mix_nil ?_
        repeat (first | (refine mix_read _ (by rfl) (fun W hW => by (clear hW; go_simp; first | done | with_reducible rfl)) ?_; simp only [Act.put, List.setIfInBounds_toArray, List.set_cons_zero, List.set_cons_succ]))
        refine mix_meet (fun x : Option Addr × Nat => Pth.val ⟨h.p.s, h.p.x, x.1, x.2, h.p.ss⟩) (fun x W => W.ownsRow W0.heap.size 44 3 (.slice x.1 h.p.ss.length x.2) h.p.ss.length (h.p.ss.flatMap stpCells)) ⟨(Closed.below W0), fun W hW => HB.out W (hW)⟩ (fun x => Closed.owns _ _ _ _ _ _) _ _ (by rfl) (fun W hW => by (clear hW; go_simp; first | done | rfl)) (fun W hW => K2.out W (hW)) (fun x1 => ?_)
        simp only [Act.put, List.setIfInBounds_toArray, List.set_cons_zero, List.set_cons_succ]
        repeat (first | (refine mix_read _ (by rfl) (fun W hW => by (clear hW; go_simp; first | done | with_reducible rfl)) ?_; simp only [Act.put, List.setIfInBounds_toArray, List.set_cons_zero, List.set_cons_succ]))
        refine mix_meet (fun x : Option Addr × Nat => .slice x.1 h.os.length x.2) (fun x W => W.ownsRow W0.heap.size 44 3 (.slice x.1 h.os.length x.2) h.os.length (h.os.flatMap stpCells)) ⟨((Closed.below W0).and (Closed.owns _ _ _ _ _ _)), fun W hW => HB.out W (hW.1)⟩ (fun x => Closed.owns _ _ _ _ _ _) _ _ (by rfl) (fun W hW => by (clear hW; go_simp; first | done | rfl)) (fun W hW => K5.out W (hW.1)) (fun x2 => ?_)
        simp only [Act.put, List.setIfInBounds_toArray, List.set_cons_zero, List.set_cons_succ]
        repeat (first | (refine mix_read _ (by rfl) (fun W hW => by (clear hW; go_simp; first | done | with_reducible rfl)) ?_; simp only [Act.put, List.setIfInBounds_toArray, List.set_cons_zero, List.set_cons_succ]))
        refine mix_meet (fun x : Option Addr × Nat => .slice x.1 h.ns.length x.2) (fun x W => W.ownsRow W0.heap.size 40 3 (.slice x.1 h.ns.length x.2) h.ns.length (h.ns.flatMap needCells)) ⟨(((Closed.below W0).and (Closed.owns _ _ _ _ _ _)).and (Closed.owns _ _ _ _ _ _)), fun W hW => HB.out W (hW.1.1)⟩ (fun x => Closed.owns _ _ _ _ _ _) _ _ (by rfl) (fun W hW => by (clear hW; go_simp; first | done | rfl)) (fun W hW => K8.out W (hW.1.1)) (fun x3 => ?_)
        simp only [Act.put, List.setIfInBounds_toArray, List.set_cons_zero, List.set_cons_succ]
        repeat (first | (refine mix_read _ (by rfl) (fun W hW => by (clear hW; go_simp; first | done | with_reducible rfl)) ?_; simp only [Act.put, List.setIfInBounds_toArray, List.set_cons_zero, List.set_cons_succ]))
        refine mix_within 24 (.tmp 12) (.tmp 5) w.heap.size 1 [.int .i64 h.p.s, .int .i64 h.p.x, .slice x1.1 h.p.ss.length x1.2] (OwnS h (h.r1 x1.1 x1.2) x1 x2 x3 w W0.heap.size) ⟨OwnS.closed _ _ _ _ _ _ _, fun W hW => hW.below⟩ rfl (by rfl) (by rfl) path_info (by rfl) (by rfl) (fun W hW => own_there (HBX.out W (hW.1.1.1))) (fun W hW => OwnS.path ⟨HB.out W (hW.1.1.1), HBX.out W (hW.1.1.1), HBR.out W (hW.1.1.1), hW.1.1.2, hW.1.2, hW.2⟩ HS.out) ?_
        simp only [Act.put, List.setIfInBounds_toArray, List.set_cons_zero, List.set_cons_succ]
        repeat (first | (refine mix_read _ (by rfl) (fun W hW => by (clear hW; go_simp; first | done | with_reducible rfl)) ?_; simp only [Act.put, List.setIfInBounds_toArray, List.set_cons_zero, List.set_cons_succ]))
        refine mix_store (OwnS h ((h.r1 x1.1 x1.2).r2 x2.1 x2.2) x1 x2 x3 w W0.heap.size) (fun W => W.setCell ⟨w.heap.size, 4, none⟩ (.slice x2.1 h.os.length x2.2)) ⟨OwnS.closed _ _ _ _ _ _ _, fun W hW => hW.below⟩ (by rfl) (fun W hW => by (have c0 := hW.box.cell_at 4 rfl; have f0 := hW.box.frozen 4; clear hW; go_simp; first | done | rfl)) (fun W hW => hW.set HS.out 4 _ rfl) ?_
        simp only [Act.put, List.setIfInBounds_toArray, List.set_cons_zero, List.set_cons_succ]
        repeat (first | (refine mix_read _ (by rfl) (fun W hW => by (clear hW; go_simp; first | done | with_reducible rfl)) ?_; simp only [Act.put, List.setIfInBounds_toArray, List.set_cons_zero, List.set_cons_succ]))
        refine mix_store (OwnS h (((h.r1 x1.1 x1.2).r2 x2.1 x2.2).r3 x3.1 x3.2) x1 x2 x3 w W0.heap.size) (fun W => W.setCell ⟨w.heap.size, 5, none⟩ (.slice x3.1 h.ns.length x3.2)) ⟨OwnS.closed _ _ _ _ _ _ _, fun W hW => hW.below⟩ (by rfl) (fun W hW => by (have c0 := hW.box.cell_at 5 rfl; have f0 := hW.box.frozen 5; clear hW; go_simp; first | done | rfl)) (fun W hW => hW.set HS.out 5 _ rfl) ?_
        simp only [Act.put, List.setIfInBounds_toArray, List.set_cons_zero, List.set_cons_succ]
        exact mix_nil (fun W hW => ⟨trivial, x1, x2, x3, _, _, _, _, _, _, _, _, _, _, _, _, rfl, hW⟩)
    · refine mix_look _ ⟨(Closed.below W0), fun W hW => HB.out W (hW)⟩ (by rfl) (fun W hW => by (have c5 := (HBX.out W (hW)).cell_at 5 rfl; clear hW; go_simp; first | done | with_reducible rfl)) ?_
      simp only [Act.put, List.setIfInBounds_toArray, List.set_cons_zero, List.set_cons_succ]
      refine mix_nil ?_
      repeat (first | (refine mix_read _ (by rfl) (fun W hW => by (clear hW; go_simp; first | done | with_reducible rfl)) ?_; simp only [Act.put, List.setIfInBounds_toArray, List.set_cons_zero, List.set_cons_succ]))
      refine mix_look _ ⟨(Closed.below W0), fun W hW => HB.out W (hW)⟩ (by rfl) (fun W hW => exec_pth (by rfl) (by rfl) (HBX.out W (hW))) ?_
      simp only [Act.put, List.setIfInBounds_toArray, List.set_cons_zero, List.set_cons_succ]
      repeat (first | (refine mix_read _ (by rfl) (fun W hW => by (clear hW; go_simp; first | done | with_reducible rfl)) ?_; simp only [Act.put, List.setIfInBounds_toArray, List.set_cons_zero, List.set_cons_succ]))
      refine mix_meet (fun x : Option Addr × Nat => Pth.val ⟨h.p.s, h.p.x, x.1, x.2, h.p.ss⟩) (fun x W => W.ownsRow W0.heap.size 44 3 (.slice x.1 h.p.ss.length x.2) h.p.ss.length (h.p.ss.flatMap stpCells)) ⟨(Closed.below W0), fun W hW => HB.out W (hW)⟩ (fun x => Closed.owns _ _ _ _ _ _) _ _ (by rfl) (fun W hW => by (clear hW; go_simp; first | done | rfl)) (fun W hW => K2.out W (hW)) (fun x1 => ?_)
      simp only [Act.put, List.setIfInBounds_toArray, List.set_cons_zero, List.set_cons_succ]
      repeat (first | (refine mix_read _ (by rfl) (fun W hW => by (clear hW; go_simp; first | done | with_reducible rfl)) ?_; simp only [Act.put, List.setIfInBounds_toArray, List.set_cons_zero, List.set_cons_succ]))
      refine mix_meet (fun x : Option Addr × Nat => .slice x.1 h.os.length x.2) (fun x W => W.ownsRow W0.heap.size 44 3 (.slice x.1 h.os.length x.2) h.os.length (h.os.flatMap stpCells)) ⟨((Closed.below W0).and (Closed.owns _ _ _ _ _ _)), fun W hW => HB.out W (hW.1)⟩ (fun x => Closed.owns _ _ _ _ _ _) _ _ (by rfl) (fun W hW => by (clear hW; go_simp; first | done | rfl)) (fun W hW => K5.out W (hW.1)) (fun x2 => ?_)
      simp only [Act.put, List.setIfInBounds_toArray, List.set_cons_zero, List.set_cons_succ]
      repeat (first | (refine mix_read _ (by rfl) (fun W hW => by (clear hW; go_simp; first | done | with_reducible rfl)) ?_; simp only [Act.put, List.setIfInBounds_toArray, List.set_cons_zero, List.set_cons_succ]))
      refine mix_meet (fun x : Option Addr × Nat => .slice x.1 h.ns.length x.2) (fun x W => W.ownsRow W0.heap.size 40 3 (.slice x.1 h.ns.length x.2) h.ns.length (h.ns.flatMap needCells)) ⟨(((Closed.below W0).and (Closed.owns _ _ _ _ _ _)).and (Closed.owns _ _ _ _ _ _)), fun W hW => HB.out W (hW.1.1)⟩ (fun x => Closed.owns _ _ _ _ _ _) _ _ (by rfl) (fun W hW => by (clear hW; go_simp; first | done | rfl)) (fun W hW => K8.out W (hW.1.1)) (fun x3 => ?_)
      simp only [Act.put, List.setIfInBounds_toArray, List.set_cons_zero, List.set_cons_succ]
      repeat (first | (refine mix_read _ (by rfl) (fun W hW => by (clear hW; go_simp; first | done | with_reducible rfl)) ?_; simp only [Act.put, List.setIfInBounds_toArray, List.set_cons_zero, List.set_cons_succ]))
      refine mix_within 24 (.tmp 12) (.tmp 5) w.heap.size 1 [.int .i64 h.p.s, .int .i64 h.p.x, .slice x1.1 h.p.ss.length x1.2] (OwnS h (h.r1 x1.1 x1.2) x1 x2 x3 w W0.heap.size) ⟨OwnS.closed _ _ _ _ _ _ _, fun W hW => hW.below⟩ rfl (by rfl) (by rfl) path_info (by rfl) (by rfl) (fun W hW => own_there (HBX.out W (hW.1.1.1))) (fun W hW => OwnS.path ⟨HB.out W (hW.1.1.1), HBX.out W (hW.1.1.1), HBR.out W (hW.1.1.1), hW.1.1.2, hW.1.2, hW.2⟩ HS.out) ?_
      simp only [Act.put, List.setIfInBounds_toArray, List.set_cons_zero, List.set_cons_succ]
      repeat (first | (refine mix_read _ (by rfl) (fun W hW => by (clear hW; go_simp; first | done | with_reducible rfl)) ?_; simp only [Act.put, List.setIfInBounds_toArray, List.set_cons_zero, List.set_cons_succ]))
      refine mix_store (OwnS h ((h.r1 x1.1 x1.2).r2 x2.1 x2.2) x1 x2 x3 w W0.heap.size) (fun W => W.setCell ⟨w.heap.size, 4, none⟩ (.slice x2.1 h.os.length x2.2)) ⟨OwnS.closed _ _ _ _ _ _ _, fun W hW => hW.below⟩ (by rfl) (fun W hW => by (have c0 := hW.box.cell_at 4 rfl; have f0 := hW.box.frozen 4; clear hW; go_simp; first | done | rfl)) (fun W hW => hW.set HS.out 4 _ rfl) ?_
      simp only [Act.put, List.setIfInBounds_toArray, List.set_cons_zero, List.set_cons_succ]
      repeat (first | (refine mix_read _ (by rfl) (fun W hW => by (clear hW; go_simp; first | done | with_reducible rfl)) ?_; simp only [Act.put, List.setIfInBounds_toArray, List.set_cons_zero, List.set_cons_succ]))
      refine mix_store (OwnS h (((h.r1 x1.1 x1.2).r2 x2.1 x2.2).r3 x3.1 x3.2) x1 x2 x3 w W0.heap.size) (fun W => W.setCell ⟨w.heap.size, 5, none⟩ (.slice x3.1 h.ns.length x3.2)) ⟨OwnS.closed _ _ _ _ _ _ _, fun W hW => hW.below⟩ (by rfl) (fun W hW => by (have c0 := hW.box.cell_at 5 rfl; have f0 := hW.box.frozen 5; clear hW; go_simp; first | done | rfl)) (fun W hW => hW.set HS.out 5 _ rfl) ?_
      simp only [Act.put, List.setIfInBounds_toArray, List.set_cons_zero, List.set_cons_succ]
      exact mix_nil (fun W hW => ⟨trivial, x1, x2, x3, _, _, _, _, _, _, _, _, _, _, _, _, rfl, hW⟩)
  · refine mix_look _ ⟨(Closed.below W0), fun W hW => HB.out W (hW)⟩ (by rfl) (fun W hW => by (have c5 := (HBX.out W (hW)).cell_at 5 rfl; clear hW; go_simp; first | done | with_reducible rfl)) ?_
    simp only [Act.put, List.setIfInBounds_toArray, List.set_cons_zero, List.set_cons_succ]
    refine mix_nil ?_
    refine mix_nil (fun hF => ⟨?_, ?_⟩)
    · refine mix_look _ ⟨(Closed.below W0), fun W hW => HB.out W (hW)⟩ (by rfl) (fun W hW => exec_pth (by rfl) (by rfl) (HBX.out W (hW))) ?_
      simp only [Act.put, List.setIfInBounds_toArray, List.set_cons_zero, List.set_cons_succ]
      refine mix_nil ?_
      refine mix_nil (fun hF => ⟨?_, ?_⟩)
      · refine mix_meet (fun x : Option Addr × Nat => Pth.val ⟨h.p.s, h.p.x, x.1, x.2, h.p.ss⟩) (fun x W => W.ownsRow W0.heap.size 44 3 (.slice x.1 h.p.ss.length x.2) h.p.ss.length (h.p.ss.flatMap stpCells)) ⟨(Closed.below W0), fun W hW => HB.out W (hW)⟩ (fun x => Closed.owns _ _ _ _ _ _) _ _ (by rfl) (fun W hW => by (clear hW; go_simp; first | done | rfl)) (fun W hW => K2.out W (hW)) (fun x1 => ?_)
        simp only [Act.put, List.setIfInBounds_toArray, List.set_cons_zero, List.set_cons_succ]
        refine mix_nil ?_
        repeat (first | (refine mix_read _ (by rfl) (fun W hW => by (clear hW; go_simp; first | done | with_reducible rfl)) ?_; simp only [Act.put, List.setIfInBounds_toArray, List.set_cons_zero, List.set_cons_succ]))
        refine mix_look _ ⟨((Closed.below W0).and (Closed.owns _ _ _ _ _ _)), fun W hW => HB.out W (hW.1)⟩ (by rfl) (fun W hW => by (have c4 := (HBX.out W (hW.1)).cell_at 4 rfl; clear hW; go_simp; first | done | with_reducible rfl)) ?_
        simp only [Act.put, List.setIfInBounds_toArray, List.set_cons_zero, List.set_cons_succ]
        repeat (first | (refine mix_read _ (by rfl) (fun W hW => by (clear hW; go_simp; first | done | with_reducible rfl)) ?_; simp only [Act.put, List.setIfInBounds_toArray, List.set_cons_zero, List.set_cons_succ]))
        refine mix_meet (fun x : Option Addr × Nat => .slice x.1 h.os.length x.2) (fun x W => W.ownsRow W0.heap.size 44 3 (.slice x.1 h.os.length x.2) h.os.length (h.os.flatMap stpCells)) ⟨((Closed.below W0).and (Closed.owns _ _ _ _ _ _)), fun W hW => HB.out W (hW.1)⟩ (fun x => Closed.owns _ _ _ _ _ _) _ _ (by rfl) (fun W hW => by (clear hW; go_simp; first | done | rfl)) (fun W hW => K5.out W (hW.1)) (fun x2 => ?_)
        simp only [Act.put, List.setIfInBounds_toArray, List.set_cons_zero, List.set_cons_succ]
        repeat (first | (refine mix_read _ (by rfl) (fun W hW => by (clear hW; go_simp; first | done | with_reducible rfl)) ?_; simp only [Act.put, List.setIfInBounds_toArray, List.set_cons_zero, List.set_cons_succ]))
        refine mix_meet (fun x : Option Addr × Nat => .slice x.1 h.ns.length x.2) (fun x W => W.ownsRow W0.heap.size 40 3 (.slice x.1 h.ns.length x.2) h.ns.length (h.ns.flatMap needCells)) ⟨(((Closed.below W0).and (Closed.owns _ _ _ _ _ _)).and (Closed.owns _ _ _ _ _ _)), fun W hW => HB.out W (hW.1.1)⟩ (fun x => Closed.owns _ _ _ _ _ _) _ _ (by rfl) (fun W hW => by (clear hW; go_simp; first | done | rfl)) (fun W hW => K8.out W (hW.1.1)) (fun x3 => ?_)
        simp only [Act.put, List.setIfInBounds_toArray, List.set_cons_zero, List.set_cons_succ]
        repeat (first | (refine mix_read _ (by rfl) (fun W hW => by (clear hW; go_simp; first | done | with_reducible rfl)) ?_; simp only [Act.put, List.setIfInBounds_toArray, List.set_cons_zero, List.set_cons_succ]))
        refine mix_within 24 (.tmp 12) (.tmp 5) w.heap.size 1 [.int .i64 h.p.s, .int .i64 h.p.x, .slice x1.1 h.p.ss.length x1.2] (OwnS h (h.r1 x1.1 x1.2) x1 x2 x3 w W0.heap.size) ⟨OwnS.closed _ _ _ _ _ _ _, fun W hW => hW.below⟩ rfl (by rfl) (by rfl) path_info (by rfl) (by rfl) (fun W hW => own_there (HBX.out W (hW.1.1.1))) (fun W hW => OwnS.path ⟨HB.out W (hW.1.1.1), HBX.out W (hW.1.1.1), HBR.out W (hW.1.1.1), hW.1.1.2, hW.1.2, hW.2⟩ HS.out) ?_
        simp only [Act.put, List.setIfInBounds_toArray, List.set_cons_zero, List.set_cons_succ]
        repeat (first | (refine mix_read _ (by rfl) (fun W hW => by (clear hW; go_simp; first | done | with_reducible rfl)) ?_; simp only [Act.put, List.setIfInBounds_toArray, List.set_cons_zero, List.set_cons_succ]))
        refine mix_store (OwnS h ((h.r1 x1.1 x1.2).r2 x2.1 x2.2) x1 x2 x3 w W0.heap.size) (fun W => W.setCell ⟨w.heap.size, 4, none⟩ (.slice x2.1 h.os.length x2.2)) ⟨OwnS.closed _ _ _ _ _ _ _, fun W hW => hW.below⟩ (by rfl) (fun W hW => by (have c0 := hW.box.cell_at 4 rfl; have f0 := hW.box.frozen 4; clear hW; go_simp; first | done | rfl)) (fun W hW => hW.set HS.out 4 _ rfl) ?_
        simp only [Act.put, List.setIfInBounds_toArray, List.set_cons_zero, List.set_cons_succ]
        repeat (first | (refine mix_read _ (by rfl) (fun W hW => by (clear hW; go_simp; first | done | with_reducible rfl)) ?_; simp only [Act.put, List.setIfInBounds_toArray, List.set_cons_zero, List.set_cons_succ]))
        refine mix_store (OwnS h (((h.r1 x1.1 x1.2).r2 x2.1 x2.2).r3 x3.1 x3.2) x1 x2 x3 w W0.heap.size) (fun W => W.setCell ⟨w.heap.size, 5, none⟩ (.slice x3.1 h.ns.length x3.2)) ⟨OwnS.closed _ _ _ _ _ _ _, fun W hW => hW.below⟩ (by rfl) (fun W hW => by (have c0 := hW.box.cell_at 5 rfl; have f0 := hW.box.frozen 5; clear hW; go_simp; first | done | rfl)) (fun W hW => hW.set HS.out 5 _ rfl) ?_
        simp only [Act.put, List.setIfInBounds_toArray, List.set_cons_zero, List.set_cons_succ]
        exact mix_nil (fun W hW => ⟨trivial, x1, x2, x3, _, _, _, _, _, _, _, _, _, _, _, _, rfl, hW⟩)
      · refine mix_look _ ⟨(Closed.below W0), fun W hW => HB.out W (hW)⟩ (by rfl) (fun W hW => by (have c4 := (HBX.out W (hW)).cell_at 4 rfl; clear hW; go_simp; first | done | with_reducible rfl)) ?_
        simp only [Act.put, List.setIfInBounds_toArray, List.set_cons_zero, List.set_cons_succ]
        refine mix_nil ?_
        repeat (first | (refine mix_read _ (by rfl) (fun W hW => by (clear hW; go_simp; first | done | with_reducible rfl)) ?_; simp only [Act.put, List.setIfInBounds_toArray, List.set_cons_zero, List.set_cons_succ]))
        refine mix_meet (fun x : Option Addr × Nat => Pth.val ⟨h.p.s, h.p.x, x.1, x.2, h.p.ss⟩) (fun x W => W.ownsRow W0.heap.size 44 3 (.slice x.1 h.p.ss.length x.2) h.p.ss.length (h.p.ss.flatMap stpCells)) ⟨(Closed.below W0), fun W hW => HB.out W (hW)⟩ (fun x => Closed.owns _ _ _ _ _ _) _ _ (by rfl) (fun W hW => by (clear hW; go_simp; first | done | rfl)) (fun W hW => K2.out W (hW)) (fun x1 => ?_)
        simp only [Act.put, List.setIfInBounds_toArray, List.set_cons_zero, List.set_cons_succ]
        repeat (first | (refine mix_read _ (by rfl) (fun W hW => by (clear hW; go_simp; first | done | with_reducible rfl)) ?_; simp only [Act.put, List.setIfInBounds_toArray, List.set_cons_zero, List.set_cons_succ]))
        refine mix_meet (fun x : Option Addr × Nat => .slice x.1 h.os.length x.2) (fun x W => W.ownsRow W0.heap.size 44 3 (.slice x.1 h.os.length x.2) h.os.length (h.os.flatMap stpCells)) ⟨((Closed.below W0).and (Closed.owns _ _ _ _ _ _)), fun W hW => HB.out W (hW.1)⟩ (fun x => Closed.owns _ _ _ _ _ _) _ _ (by rfl) (fun W hW => by (clear hW; go_simp; first | done | rfl)) (fun W hW => K5.out W (hW.1)) (fun x2 => ?_)
        simp only [Act.put, List.setIfInBounds_toArray, List.set_cons_zero, List.set_cons_succ]
        repeat (first | (refine mix_read _ (by rfl) (fun W hW => by (clear hW; go_simp; first | done | with_reducible rfl)) ?_; simp only [Act.put, List.setIfInBounds_toArray, List.set_cons_zero, List.set_cons_succ]))
        refine mix_meet (fun x : Option Addr × Nat => .slice x.1 h.ns.length x.2) (fun x W => W.ownsRow W0.heap.size 40 3 (.slice x.1 h.ns.length x.2) h.ns.length (h.ns.flatMap needCells)) ⟨(((Closed.below W0).and (Closed.owns _ _ _ _ _ _)).and (Closed.owns _ _ _ _ _ _)), fun W hW => HB.out W (hW.1.1)⟩ (fun x => Closed.owns _ _ _ _ _ _) _ _ (by rfl) (fun W hW => by (clear hW; go_simp; first | done | rfl)) (fun W hW => K8.out W (hW.1.1)) (fun x3 => ?_)
        simp only [Act.put, List.setIfInBounds_toArray, List.set_cons_zero, List.set_cons_succ]
        repeat (first | (refine mix_read _ (by rfl) (fun W hW => by (clear hW; go_simp; first | done | with_reducible rfl)) ?_; simp only [Act.put, List.setIfInBounds_toArray, List.set_cons_zero, List.set_cons_succ]))
        refine mix_within 24 (.tmp 12) (.tmp 5) w.heap.size 1 [.int .i64 h.p.s, .int .i64 h.p.x, .slice x1.1 h.p.ss.length x1.2] (OwnS h (h.r1 x1.1 x1.2) x1 x2 x3 w W0.heap.size) ⟨OwnS.closed _ _ _ _ _ _ _, fun W hW => hW.below⟩ rfl (by rfl) (by rfl) path_info (by rfl) (by rfl) (fun W hW => own_there (HBX.out W (hW.1.1.1))) (fun W hW => OwnS.path ⟨HB.out W (hW.1.1.1), HBX.out W (hW.1.1.1), HBR.out W (hW.1.1.1), hW.1.1.2, hW.1.2, hW.2⟩ HS.out) ?_
        simp only [Act.put, List.setIfInBounds_toArray, List.set_cons_zero, List.set_cons_succ]
        repeat (first | (refine mix_read _ (by rfl) (fun W hW => by (clear hW; go_simp; first | done | with_reducible rfl)) ?_; simp only [Act.put, List.setIfInBounds_toArray, List.set_cons_zero, List.set_cons_succ]))
        refine mix_store (OwnS h ((h.r1 x1.1 x1.2).r2 x2.1 x2.2) x1 x2 x3 w W0.heap.size) (fun W => W.setCell ⟨w.heap.size, 4, none⟩ (.slice x2.1 h.os.length x2.2)) ⟨OwnS.closed _ _ _ _ _ _ _, fun W hW => hW.below⟩ (by rfl) (fun W hW => by (have c0 := hW.box.cell_at 4 rfl; have f0 := hW.box.frozen 4; clear hW; go_simp; first | done | rfl)) (fun W hW => hW.set HS.out 4 _ rfl) ?_
        simp only [Act.put, List.setIfInBounds_toArray, List.set_cons_zero, List.set_cons_succ]
        repeat (first | (refine mix_read _ (by rfl) (fun W hW => by (clear hW; go_simp; first | done | with_reducible rfl)) ?_; simp only [Act.put, List.setIfInBounds_toArray, List.set_cons_zero, List.set_cons_succ]))
        refine mix_store (OwnS h (((h.r1 x1.1 x1.2).r2 x2.1 x2.2).r3 x3.1 x3.2) x1 x2 x3 w W0.heap.size) (fun W => W.setCell ⟨w.heap.size, 5, none⟩ (.slice x3.1 h.ns.length x3.2)) ⟨OwnS.closed _ _ _ _ _ _ _, fun W hW => hW.below⟩ (by rfl) (fun W hW => by (have c0 := hW.box.cell_at 5 rfl; have f0 := hW.box.frozen 5; clear hW; go_simp; first | done | rfl)) (fun W hW => hW.set HS.out 5 _ rfl) ?_
        simp only [Act.put, List.setIfInBounds_toArray, List.set_cons_zero, List.set_cons_succ]
        exact mix_nil (fun W hW => ⟨trivial, x1, x2, x3, _, _, _, _, _, _, _, _, _, _, _, _, rfl, hW⟩)
    · refine mix_look _ ⟨(Closed.below W0), fun W hW => HB.out W (hW)⟩ (by rfl) (fun W hW => by (have c4 := (HBX.out W (hW)).cell_at 4 rfl; clear hW; go_simp; first | done | with_reducible rfl)) ?_
      simp only [Act.put, List.setIfInBounds_toArray, List.set_cons_zero, List.set_cons_succ]
      refine mix_nil ?_
      repeat (first | (refine mix_read _ (by rfl) (fun W hW => by (clear hW; go_simp; first | done | with_reducible rfl)) ?_; simp only [Act.put, List.setIfInBounds_toArray, List.set_cons_zero, List.set_cons_succ]))
      refine mix_look _ ⟨(Closed.below W0), fun W hW => HB.out W (hW)⟩ (by rfl) (fun W hW => exec_pth (by rfl) (by rfl) (HBX.out W (hW))) ?_
      simp only [Act.put, List.setIfInBounds_toArray, List.set_cons_zero, List.set_cons_succ]
      repeat (first | (refine mix_read _ (by rfl) (fun W hW => by (clear hW; go_simp; first | done | with_reducible rfl)) ?_; simp only [Act.put, List.setIfInBounds_toArray, List.set_cons_zero, List.set_cons_succ]))
      refine mix_meet (fun x : Option Addr × Nat => Pth.val ⟨h.p.s, h.p.x, x.1, x.2, h.p.ss⟩) (fun x W => W.ownsRow W0.heap.size 44 3 (.slice x.1 h.p.ss.length x.2) h.p.ss.length (h.p.ss.flatMap stpCells)) ⟨(Closed.below W0), fun W hW => HB.out W (hW)⟩ (fun x => Closed.owns _ _ _ _ _ _) _ _ (by rfl) (fun W hW => by (clear hW; go_simp; first | done | rfl)) (fun W hW => K2.out W (hW)) (fun x1 => ?_)
      simp only [Act.put, List.setIfInBounds_toArray, List.set_cons_zero, List.set_cons_succ]
      repeat (first | (refine mix_read _ (by rfl) (fun W hW => by (clear hW; go_simp; first | done | with_reducible rfl)) ?_; simp only [Act.put, List.setIfInBounds_toArray, List.set_cons_zero, List.set_cons_succ]))
      refine mix_meet (fun x : Option Addr × Nat => .slice x.1 h.os.length x.2) (fun x W => W.ownsRow W0.heap.size 44 3 (.slice x.1 h.os.length x.2) h.os.length (h.os.flatMap stpCells)) ⟨((Closed.below W0).and (Closed.owns _ _ _ _ _ _)), fun W hW => HB.out W (hW.1)⟩ (fun x => Closed.owns _ _ _ _ _ _) _ _ (by rfl) (fun W hW => by (clear hW; go_simp; first | done | rfl)) (fun W hW => K5.out W (hW.1)) (fun x2 => ?_)
      simp only [Act.put, List.setIfInBounds_toArray, List.set_cons_zero, List.set_cons_succ]
      repeat (first | (refine mix_read _ (by rfl) (fun W hW => by (clear hW; go_simp; first | done | with_reducible rfl)) ?_; simp only [Act.put, List.setIfInBounds_toArray, List.set_cons_zero, List.set_cons_succ]))
      refine mix_meet (fun x : Option Addr × Nat => .slice x.1 h.ns.length x.2) (fun x W => W.ownsRow W0.heap.size 40 3 (.slice x.1 h.ns.length x.2) h.ns.length (h.ns.flatMap needCells)) ⟨(((Closed.below W0).and (Closed.owns _ _ _ _ _ _)).and (Closed.owns _ _ _ _ _ _)), fun W hW => HB.out W (hW.1.1)⟩ (fun x => Closed.owns _ _ _ _ _ _) _ _ (by rfl) (fun W hW => by (clear hW; go_simp; first | done | rfl)) (fun W hW => K8.out W (hW.1.1)) (fun x3 => ?_)
      simp only [Act.put, List.setIfInBounds_toArray, List.set_cons_zero, List.set_cons_succ]
      repeat (first | (refine mix_read _ (by rfl) (fun W hW => by (clear hW; go_simp; first | done | with_reducible rfl)) ?_; simp only [Act.put, List.setIfInBounds_toArray, List.set_cons_zero, List.set_cons_succ]))
      refine mix_within 24 (.tmp 12) (.tmp 5) w.heap.size 1 [.int .i64 h.p.s, .int .i64 h.p.x, .slice x1.1 h.p.ss.length x1.2] (OwnS h (h.r1 x1.1 x1.2) x1 x2 x3 w W0.heap.size) ⟨OwnS.closed _ _ _ _ _ _ _, fun W hW => hW.below⟩ rfl (by rfl) (by rfl) path_info (by rfl) (by rfl) (fun W hW => own_there (HBX.out W (hW.1.1.1))) (fun W hW => OwnS.path ⟨HB.out W (hW.1.1.1), HBX.out W (hW.1.1.1), HBR.out W (hW.1.1.1), hW.1.1.2, hW.1.2, hW.2⟩ HS.out) ?_
      simp only [Act.put, List.setIfInBounds_toArray, List.set_cons_zero, List.set_cons_succ]
      repeat (first | (refine mix_read _ (by rfl) (fun W hW => by (clear hW; go_simp; first | done | with_reducible rfl)) ?_; simp only [Act.put, List.setIfInBounds_toArray, List.set_cons_zero, List.set_cons_succ]))
      refine mix_store (OwnS h ((h.r1 x1.1 x1.2).r2 x2.1 x2.2) x1 x2 x3 w W0.heap.size) (fun W => W.setCell ⟨w.heap.size, 4, none⟩ (.slice x2.1 h.os.length x2.2)) ⟨OwnS.closed _ _ _ _ _ _ _, fun W hW => hW.below⟩ (by rfl) (fun W hW => by (have c0 := hW.box.cell_at 4 rfl; have f0 := hW.box.frozen 4; clear hW; go_simp; first | done | rfl)) (fun W hW => hW.set HS.out 4 _ rfl) ?_
      simp only [Act.put, List.setIfInBounds_toArray, List.set_cons_zero, List.set_cons_succ]
      repeat (first | (refine mix_read _ (by rfl) (fun W hW => by (clear hW; go_simp; first | done | with_reducible rfl)) ?_; simp only [Act.put, List.setIfInBounds_toArray, List.set_cons_zero, List.set_cons_succ]))
      refine mix_store (OwnS h (((h.r1 x1.1 x1.2).r2 x2.1 x2.2).r3 x3.1 x3.2) x1 x2 x3 w W0.heap.size) (fun W => W.setCell ⟨w.heap.size, 5, none⟩ (.slice x3.1 h.ns.length x3.2)) ⟨OwnS.closed _ _ _ _ _ _ _, fun W hW => hW.below⟩ (by rfl) (fun W hW => by (have c0 := hW.box.cell_at 5 rfl; have f0 := hW.box.frozen 5; clear hW; go_simp; first | done | rfl)) (fun W hW => hW.set HS.out 5 _ rfl) ?_
      simp only [Act.put, List.setIfInBounds_toArray, List.set_cons_zero, List.set_cons_succ]
      exact mix_nil (fun W hW => ⟨trivial, x1, x2, x3, _, _, _, _, _, _, _, _, _, _, _, _, rfl, hW⟩)
set_option maxRecDepth 100000 in
set_option maxHeartbeats 32000000 in
theorem own17_any {h : Hld} {w : World} (hl : HLies h w) (hs : Small h) : Calls Try.prog 18 #[h.val] w fun e w' => ∃ x : Rm, e = .returned (h.re x).val ∧ OwnB (h.re x) w.heap.size w' ∧ Below w.heap.size w w' := by
  obtain ⟨W0, hW0⟩ : ∃ W0, (w.alloc (.cells h.cells.toArray 28)).alloc (.cells #[.int .i64 0, .int .i64 0, .int .i64 0, .slice none 0 0, .slice none 0 0, .slice none 0 0, .int .u8 0, .int .i64 0, .bool false, .bool false, .bool false, .bool false, .bool false, .bool false, .bool false, .bool false, .bool false, .bool false, .bool false, .bool false, .bool false, .int .i64 0, .bool false] 28) = W0 := ⟨_, rfl⟩
  have hB0 : Below w.heap.size w W0 := by rw [← hW0]; exact below2 w _ _
  have hs0 : W0.heap.size = w.heap.size + 2 := by rw [← hW0]; simp
  have hb0 : Whole W0 w.heap.size 28 h.cells := by rw [← hW0]; exact (Whole.new w _ h.cells).alloc _
  have hbR : Whole W0 (w.heap.size + 1) 28 hld0.cells := by rw [← hW0]; exact Whole.new_at _ _ hld0.cells _ (by simp)
  have HW0 := Lib.hid hW0
  have HA := Lib.hid (And.intro hl (And.intro hs (And.intro hB0 (And.intro (Nat.le_of_eq hs0.symm) (And.intro hb0 hbR)))))
  have HS0 := Lib.hid hs0
  clear hW0 hl hs hB0 hb0 hbR hs0
  go_enter Try.func18, Try.ntmps18
  go_upto_region 1 with (fail)
  rw [HW0.out]
  clear HW0
  refine own17_begin HA.out.1 HA.out.2.1 HA.out.2.2.1 HA.out.2.2.2.1 HA.out.2.2.2.2.1 HA.out.2.2.2.2.2 (fun x1 x2 x3 W u3 u4 u5 u6 u7 u8 u9 u10 u11 u12 u13 u14 hO => ?_)
  obtain ⟨x, hx⟩ : ∃ x : Rm, x = ⟨x1.1, x1.2, x2.1, x2.2, x3.1, x3.2⟩ := ⟨_, rfl⟩
  have hb : OwnB (h.re x) (w.heap.size + 2) W := by rw [hx, ← HS0.out]; exact ⟨hO.o1, hO.o2, hO.o3⟩
  rw [← hx] at hO
  have HO := Lib.hid (And.intro hO hb)
  clear hO hb hx HA
  go_upto_region 2 with (fail)
  apply wp_region_lit
  repeat (first | (refine wpList_skip (by rfl) ?_; simp only [Act.put, List.setIfInBounds_toArray, List.set_cons_zero, List.set_cons_succ]) | (refine wpList_read _ (by rfl) (exec_hld (by rfl) (by rfl) HO.out.1.box) ?_; simp only [Act.put, List.setIfInBounds_toArray, List.set_cons_zero, List.set_cons_succ]) | (refine wpList_read _ (by rfl) (by (go_simp; first | done | with_reducible rfl)) ?_; simp only [Act.put, List.setIfInBounds_toArray, List.set_cons_zero, List.set_cons_succ]))
  refine wpList_fill 28 (.tmp 2) (.tmp 15) rfl rfl (vs := (h.re x).cells) (by rfl) (by rfl) HO.out.1.res (by rfl) hld_info (hld_one _) (fun W5 hR5 hB5 hO5 => ?_)
  simp only [Act.put, List.setIfInBounds_toArray, List.set_cons_zero, List.set_cons_succ]
  have HE : Hid (OwnB (h.re x) w.heap.size W5) := Lib.hid (by
    have hk : ∀ {e k n : Nat} {v : Value} {xs : List Value}, W.ownsRow (w.heap.size + 2) e k v n xs → W5.ownsRow w.heap.size e k v n xs := fun {e k n v xs} h => by
      refine ⟨h.1, ?_⟩
      rcases h.2 with h2 | ⟨g', cap', cur, hv, h3, h4, r⟩
      · exact .inl h2
      · exact .inr ⟨g', cap', cur, hv, by omega, (hO5 g' (by omega)).trans h4, r⟩
    exact ⟨hk HO.out.2.o1, hk HO.out.2.o2, hk HO.out.2.o3⟩)
  have HB5 : Hid (Below w.heap.size w W5) := Lib.hid (HO.out.1.below.trans (hB5 _ (by omega)))
  clear hB5 hO5 HO
  go_wp2_with fail
  (try simp only [Exit.inBlock, Exit.then])
  exact bodyPost_ret (res_hld rfl _ rfl hR5) rfl ⟨x, rfl, HE.out, HB5.out⟩

end Go.Proofs.Ytljpiafopbfdlaa
