/- Reading bytes: a panic that is recovered; what Take tells. -/
import Derived.Test.YtegflmaobmibnaaGreatDoorQPlanH
import Derived.Test.YtegflmaobmibnaaGreatDoorQPlanX
import Derived.Defers
import Derived.Recover
namespace Go.Proofs.YtegflmaobmibnaaGreatDoor
set_option maxRecDepth 100000
open Go.RowKit Go.Shelf
set_option linter.unusedVariables false
set_option linter.unusedSimpArgs false

set_option maxHeartbeats 4000000 in
theorem taker_any (A : Option Addr) (cap : Nat) (zs : List Int) (w : World) (h : Hands w A zs) (hl : zs.length ≤ 2000) :
    Calls Tryz.prog 78 #[.slice A zs.length cap] w fun e w' => ∃ bx ba g, e = .returned (tkV bx ba) ∧ Taker bx ba g zs 0 w' ∧ w.heap.size ≤ ba ∧ Below w.heap.size w w' := by
  have hmf : ∀ (fn : Fn) (first cap : Array Value) (w : World), (Instr.makeFunc fn first cap).run Tryz.prog w = .ok (.func fn first cap) w := fun _ _ _ _ => rfl
  have HH := Lib.hid h
  go_enter Tryz.func78, Tryz.ntmps78
  go_wp2_with (go_at_call 109; refine (of_any A cap zs w h.1 (by omega)).mono ?_)
  rintro e w1 ⟨g, rfl, hg, hW, hB⟩
  go_wp2
  go_ret
  have hs := hW.lt
  exact ⟨w1.heap.size, w1.heap.size + 1, g, rfl, ⟨(Whole.new w1 54 _).alloc _, Whole.new_at _ _ [_] _ (by simp), ⟨((hW.alloc _).alloc _).row (by simp; omega), HH.out.2⟩, by simp; omega, by omega, by omega⟩, by have := hB.size; omega, hB.trans ((below2 w1 _ _).mono hB.size)⟩

theorem catch_idle (L B : Nat) (w : World) :
    CallsD Tryz.prog 76 #[.pointer (some ⟨L, 0, none⟩), .pointer (some ⟨B, 0, none⟩)] .returning w fun e u' w' => e = .returned (.tuple #[]) ∧ u' = .returning ∧ w' = w := by
  have hnn : ∀ w, (binOp .neq 20 .nilIface .nilIface).run Tryz.prog w = .ok (.bool false) w := fun w => by kernel_rfl
  refine callsD_of_wpS Tryz.func76 rfl fun c₀ cs hu => ?_
  apply wpS_seq
  apply wpS_region
  simp [wpOpsS, go_sem, recoverD, hu, hnn, Tryz.ntmps76, Exit.thenS]
  refine wpS_cond (t := false) (by simp [Act.eval, Array.replicate]) ?_
  simp only [Bool.false_eq_true, if_false]
  refine wpS_of_wp (wp_skip ?_)
  cases c₀
  simp_all [bodyPostS, results, Tryz.results76]
theorem catch_panic (L B : Nat) (w : World) (cs : List Value) (b : Bool) (hL : Whole w L 29 cs) (hcs : cs.length = 11) (hB : Whole w B 4 [.bool b]) (hLB : L ≠ B) :
    CallsD Tryz.prog 76 #[.pointer (some ⟨L, 0, none⟩), .pointer (some ⟨B, 0, none⟩)] (.panicking [{ v := .iface 33 (.int .i64 40), recovered := false }]) w fun e u' w' => e = .returned (.tuple #[]) ∧ u' = .panicking [{ v := .iface 33 (.int .i64 40), recovered := true }] ∧ w' = (((((((((((w.setCell ⟨L, 0, none⟩ (.slice none 0 0)).setCell ⟨L, 1, none⟩ (.slice none 0 0)).setCell ⟨L, 2, none⟩ (.slice none 0 0)).setCell ⟨L, 3, none⟩ (.slice none 0 0)).setCell ⟨L, 4, none⟩ (.int .i64 0)).setCell ⟨L, 5, none⟩ (.int .i64 0)).setCell ⟨L, 6, none⟩ (.int .i64 0)).setCell ⟨L, 7, none⟩ (.int .i64 0)).setCell ⟨L, 8, none⟩ (.int .i64 0)).setCell ⟨L, 9, none⟩ (.int .i64 0)).setCell ⟨L, 10, none⟩ (.int .i64 0)).setCell ⟨B, 0, none⟩ (.bool false) := by
  have hnn : ∀ w, (binOp .neq 20 (.iface 33 (.int .i64 40)) .nilIface).run Tryz.prog w = .ok (.bool true) w := fun w => by kernel_rfl
  obtain ⟨c0, k0⟩ : ∃ v, cs[0]? = some v := ⟨_, List.getElem?_eq_getElem (by omega)⟩
  have x0 := hL.cell_at 0 k0
  have f0 := hL.frozen 0
  obtain ⟨c1, k1⟩ : ∃ v, cs[1]? = some v := ⟨_, List.getElem?_eq_getElem (by omega)⟩
  have x1 := hL.cell_at 1 k1
  have f1 := hL.frozen 1
  obtain ⟨c2, k2⟩ : ∃ v, cs[2]? = some v := ⟨_, List.getElem?_eq_getElem (by omega)⟩
  have x2 := hL.cell_at 2 k2
  have f2 := hL.frozen 2
  obtain ⟨c3, k3⟩ : ∃ v, cs[3]? = some v := ⟨_, List.getElem?_eq_getElem (by omega)⟩
  have x3 := hL.cell_at 3 k3
  have f3 := hL.frozen 3
  obtain ⟨c4, k4⟩ : ∃ v, cs[4]? = some v := ⟨_, List.getElem?_eq_getElem (by omega)⟩
  have x4 := hL.cell_at 4 k4
  have f4 := hL.frozen 4
  obtain ⟨c5, k5⟩ : ∃ v, cs[5]? = some v := ⟨_, List.getElem?_eq_getElem (by omega)⟩
  have x5 := hL.cell_at 5 k5
  have f5 := hL.frozen 5
  obtain ⟨c6, k6⟩ : ∃ v, cs[6]? = some v := ⟨_, List.getElem?_eq_getElem (by omega)⟩
  have x6 := hL.cell_at 6 k6
  have f6 := hL.frozen 6
  obtain ⟨c7, k7⟩ : ∃ v, cs[7]? = some v := ⟨_, List.getElem?_eq_getElem (by omega)⟩
  have x7 := hL.cell_at 7 k7
  have f7 := hL.frozen 7
  obtain ⟨c8, k8⟩ : ∃ v, cs[8]? = some v := ⟨_, List.getElem?_eq_getElem (by omega)⟩
  have x8 := hL.cell_at 8 k8
  have f8 := hL.frozen 8
  obtain ⟨c9, k9⟩ : ∃ v, cs[9]? = some v := ⟨_, List.getElem?_eq_getElem (by omega)⟩
  have x9 := hL.cell_at 9 k9
  have f9 := hL.frozen 9
  obtain ⟨c10, k10⟩ : ∃ v, cs[10]? = some v := ⟨_, List.getElem?_eq_getElem (by omega)⟩
  have x10 := hL.cell_at 10 k10
  have f10 := hL.frozen 10
  have y0 := hB.cell_at 0 rfl
  have g0 := hB.frozen 0
  refine callsD_of_wpS Tryz.func76 rfl fun c₀ cs hu => ?_
  apply wpS_seq
  apply wpS_region
  simp [wpOpsS, go_sem, recoverD, hu, hnn, Tryz.ntmps76, Exit.thenS]
  refine wpS_cond (t := true) (by simp [Act.eval, Array.replicate]) ?_
  simp only [if_true]
  refine wpS_of_wp ?_
  go_wp2
  simp [bodyPostS, results, Tryz.results76]
theorem Owned.far {n0 : Nat} {m : Lay} {W : World} (h : Owned n0 m W) {p : Addr} (hp : p.block < n0) (u : Value) : Owned n0 m (W.setCell p u) := h.bq ((Bq.refl W.heap.size p.block W).set (p := p) (.inr rfl) u) hp
theorem Owned.low {n n0 : Nat} {m : Lay} {W : World} (h : Owned n0 m W) (hn : n ≤ n0) : Owned n m W :=
  ⟨owns_base h.secs hn, owns_base h.sigs hn, owns_base h.exits hn, owns_base h.flanks hn, fun x hx => owns_base (h.overs x hx) hn⟩
theorem set11 {w : World} {L : Nat} {t : TypeId} {a0 a1 a2 a3 a4 a5 a6 a7 a8 a9 a10 b0 b1 b2 b3 b4 b5 b6 b7 b8 b9 b10 : Value} (h : Whole w L t [a0, a1, a2, a3, a4, a5, a6, a7, a8, a9, a10]) : Whole (((((((((((w.setCell ⟨L, 0, none⟩ (b0)).setCell ⟨L, 1, none⟩ (b1)).setCell ⟨L, 2, none⟩ (b2)).setCell ⟨L, 3, none⟩ (b3)).setCell ⟨L, 4, none⟩ (b4)).setCell ⟨L, 5, none⟩ (b5)).setCell ⟨L, 6, none⟩ (b6)).setCell ⟨L, 7, none⟩ (b7)).setCell ⟨L, 8, none⟩ (b8)).setCell ⟨L, 9, none⟩ (b9)).setCell ⟨L, 10, none⟩ (b10)) L t [b0, b1, b2, b3, b4, b5, b6, b7, b8, b9, b10] := (((((((((((h.set 0 _).set 1 _).set 2 _).set 3 _).set 4 _).set 5 _).set 6 _).set 7 _).set 8 _).set 9 _).set 10 _)
theorem far11 {w : World} {L B : Nat} {t : TypeId} {b0 b1 b2 b3 b4 b5 b6 b7 b8 b9 b10 : Value} {cs : List Value} (h : Whole w B t cs) (hn : B ≠ L) : Whole (((((((((((w.setCell ⟨L, 0, none⟩ (b0)).setCell ⟨L, 1, none⟩ (b1)).setCell ⟨L, 2, none⟩ (b2)).setCell ⟨L, 3, none⟩ (b3)).setCell ⟨L, 4, none⟩ (b4)).setCell ⟨L, 5, none⟩ (b5)).setCell ⟨L, 6, none⟩ (b6)).setCell ⟨L, 7, none⟩ (b7)).setCell ⟨L, 8, none⟩ (b8)).setCell ⟨L, 9, none⟩ (b9)).setCell ⟨L, 10, none⟩ (b10)) B t cs := (((((((((((h.far (p := ⟨L, 0, none⟩) hn _).far (p := ⟨L, 1, none⟩) hn _).far (p := ⟨L, 2, none⟩) hn _).far (p := ⟨L, 3, none⟩) hn _).far (p := ⟨L, 4, none⟩) hn _).far (p := ⟨L, 5, none⟩) hn _).far (p := ⟨L, 6, none⟩) hn _).far (p := ⟨L, 7, none⟩) hn _).far (p := ⟨L, 8, none⟩) hn _).far (p := ⟨L, 9, none⟩) hn _).far (p := ⟨L, 10, none⟩) hn _)
theorem below11 {w0 w : World} {n L : Nat} {b0 b1 b2 b3 b4 b5 b6 b7 b8 b9 b10 : Value} (h : Below n w0 w) (hn : n ≤ L) : Below n w0 (((((((((((w.setCell ⟨L, 0, none⟩ (b0)).setCell ⟨L, 1, none⟩ (b1)).setCell ⟨L, 2, none⟩ (b2)).setCell ⟨L, 3, none⟩ (b3)).setCell ⟨L, 4, none⟩ (b4)).setCell ⟨L, 5, none⟩ (b5)).setCell ⟨L, 6, none⟩ (b6)).setCell ⟨L, 7, none⟩ (b7)).setCell ⟨L, 8, none⟩ (b8)).setCell ⟨L, 9, none⟩ (b9)).setCell ⟨L, 10, none⟩ (b10)) := (((((((((((h.setCell (p := ⟨L, 0, none⟩) hn _).setCell (p := ⟨L, 1, none⟩) hn _).setCell (p := ⟨L, 2, none⟩) hn _).setCell (p := ⟨L, 3, none⟩) hn _).setCell (p := ⟨L, 4, none⟩) hn _).setCell (p := ⟨L, 5, none⟩) hn _).setCell (p := ⟨L, 6, none⟩) hn _).setCell (p := ⟨L, 7, none⟩) hn _).setCell (p := ⟨L, 8, none⟩) hn _).setCell (p := ⟨L, 9, none⟩) hn _).setCell (p := ⟨L, 10, none⟩) hn _)
theorem own11 {w : World} {n L : Nat} {m : Lay} {b0 b1 b2 b3 b4 b5 b6 b7 b8 b9 b10 : Value} (h : Owned n m w) (hn : L < n) : Owned n m (((((((((((w.setCell ⟨L, 0, none⟩ (b0)).setCell ⟨L, 1, none⟩ (b1)).setCell ⟨L, 2, none⟩ (b2)).setCell ⟨L, 3, none⟩ (b3)).setCell ⟨L, 4, none⟩ (b4)).setCell ⟨L, 5, none⟩ (b5)).setCell ⟨L, 6, none⟩ (b6)).setCell ⟨L, 7, none⟩ (b7)).setCell ⟨L, 8, none⟩ (b8)).setCell ⟨L, 9, none⟩ (b9)).setCell ⟨L, 10, none⟩ (b10)) := (((((((((((h.far (p := ⟨L, 0, none⟩) hn _).far (p := ⟨L, 1, none⟩) hn _).far (p := ⟨L, 2, none⟩) hn _).far (p := ⟨L, 3, none⟩) hn _).far (p := ⟨L, 4, none⟩) hn _).far (p := ⟨L, 5, none⟩) hn _).far (p := ⟨L, 6, none⟩) hn _).far (p := ⟨L, 7, none⟩) hn _).far (p := ⟨L, 8, none⟩) hn _).far (p := ⟨L, 9, none⟩) hn _).far (p := ⟨L, 10, none⟩) hn _)
set_option maxHeartbeats 8000000 in
theorem read_any (A : Option Addr) (cap : Nat) (zs : List Int) (l : List Bool) (w : World) (hH : Hands w A zs) (hl : zs.length ≤ 2000) (hA : Are zs (8 * (zs.length : Int)) l) (hSh : Shapes w) :
    Calls Tryz.prog 31 #[.slice A zs.length cap] w fun e w' => Below w.heap.size w w' ∧ ((∃ (m : Lay) (s' : Nat), layP l 0 = some (m.pl, s') ∧ e = .returned (.tuple #[m.val, .bool true]) ∧ Owned w.heap.size m w') ∨ (layP l 0 = none ∧ e = .returned (.tuple #[zeroL.val, .bool false]))) := by
  have hmf : ∀ (fn : Fn) (first cap : Array Value) (w : World), (Instr.makeFunc fn first cap).run Tryz.prog w = .ok (.func fn first cap) w := fun _ _ _ _ => rfl
  have HS0 := Lib.hid hSh.lt
  have HA := Lib.hid hA
  obtain ⟨W0, hW0⟩ : ∃ W, (w.alloc (.cells #[.slice none 0 0, .slice none 0 0, .slice none 0 0, .slice none 0 0, .int .i64 0, .int .i64 0, .int .i64 0, .int .i64 0, .int .i64 0, .int .i64 0, .int .i64 0] 29)).alloc (.cells #[.bool false] 4) = W := ⟨_, rfl⟩
  have HB0 : Hid (Below w.heap.size w W0) := Lib.hid (by rw [← hW0]; exact below2 w _ _)
  have HL0 : Hid (Whole W0 w.heap.size 29 [.slice none 0 0, .slice none 0 0, .slice none 0 0, .slice none 0 0, .int .i64 0, .int .i64 0, .int .i64 0, .int .i64 0, .int .i64 0, .int .i64 0, .int .i64 0]) := Lib.hid (by rw [← hW0]; exact (Whole.new w 29 [.slice none 0 0, .slice none 0 0, .slice none 0 0, .slice none 0 0, .int .i64 0, .int .i64 0, .int .i64 0, .int .i64 0, .int .i64 0, .int .i64 0, .int .i64 0]).alloc _)
  have HK0 : Hid (Whole W0 (w.heap.size + 1) 4 [.bool false]) := Lib.hid (by rw [← hW0]; exact Whole.new_at (w.alloc (.cells #[.slice none 0 0, .slice none 0 0, .slice none 0 0, .slice none 0 0, .int .i64 0, .int .i64 0, .int .i64 0, .int .i64 0, .int .i64 0, .int .i64 0, .int .i64 0] 29)) 4 [.bool false] (n := w.heap.size + 1) (by simp))
  have HN0 : Hid (W0.heap.size = w.heap.size + 2) := Lib.hid (by rw [← hW0]; simp)
  have HSH : Hid (Shapes W0) := Lib.hid (fun i v hv => (HB0.out.cell (p := ⟨0, i, none⟩) HS0.out).trans (hSh i v hv))
  have HH0 : Hid (Hands W0 A zs) := Lib.hid (hH.on HB0.out)
  clear hSh hH hA
  go_enter_defers Tryz.func31, Tryz.ntmps31
  go_wp2_with fail
  try rw [hW0]
  clear hW0
  refine (taker_any A cap zs W0 HH0.out hl).mono ?_
  rintro e w1 ⟨bx, ba, g, rfl, hT, hba, hb1⟩
  have HB1 : Hid (Below W0.heap.size W0 w1) := Lib.hid hb1
  have hSh1 : Shapes w1 := fun i v hv => (hb1.cell (p := ⟨0, i, none⟩) HSH.out.lt).trans (HSH.out i v hv)
  have HBA := Lib.hid hba
  clear hb1
  go_wp2_with fail
  have h00 : 0 ≠ ba := by have := HSH.out.lt; omega
  refine (lay_take HA.out hl 0 w1 hT (Nat.zero_le _) hSh1 h00).mono ?_
  clear hT hSh1 h00 hba
  rintro e w2 (⟨m, s', hp, rfl, ho, hb⟩ | ⟨hp, ⟨v, rfl⟩, rfl, hb⟩)
  · have HB2 : Hid (Below W0.heap.size W0 w2) := Lib.hid (HB1.out.trans (hb.below HB1.out.size HBA.out))
    have hLw := HL0.out.below HB2.out HL0.out.lt
    have hKw := HK0.out.below HB2.out HK0.out.lt
    have HP := Lib.hid hp
    have HO := Lib.hid ho
    clear hp ho hb
    have x0 := hLw.cell_at 0 rfl
    have f0 := hLw.frozen 0
    have x1 := hLw.cell_at 1 rfl
    have f1 := hLw.frozen 1
    have x2 := hLw.cell_at 2 rfl
    have f2 := hLw.frozen 2
    have x3 := hLw.cell_at 3 rfl
    have f3 := hLw.frozen 3
    have x4 := hLw.cell_at 4 rfl
    have f4 := hLw.frozen 4
    have x5 := hLw.cell_at 5 rfl
    have f5 := hLw.frozen 5
    have x6 := hLw.cell_at 6 rfl
    have f6 := hLw.frozen 6
    have x7 := hLw.cell_at 7 rfl
    have f7 := hLw.frozen 7
    have x8 := hLw.cell_at 8 rfl
    have f8 := hLw.frozen 8
    have x9 := hLw.cell_at 9 rfl
    have f9 := hLw.frozen 9
    have x10 := hLw.cell_at 10 rfl
    have f10 := hLw.frozen 10
    have y0 := hKw.cell_at 0 rfl
    have g0 := hKw.frozen 0
    go_wp2_with fail
    refine leaves_cons (f := 76) (args := #[.pointer (some ⟨w.heap.size, 0, none⟩), .pointer (some ⟨w.heap.size + 1, 0, none⟩)]) (by simp) (by simp [go_sem]) ?_
    refine (catch_idle w.heap.size (w.heap.size + 1) _).mono ?_
    rintro e u' w'' ⟨rfl, rfl, rfl⟩
    have hF : Hid (Whole ((((((((((((w2.setCell ⟨w.heap.size, 0, none⟩ (.slice m.As m.secs.length m.cs)).setCell ⟨w.heap.size, 1, none⟩ (.slice m.Ag m.sigs.length m.cg)).setCell ⟨w.heap.size, 2, none⟩ (.slice m.Ae m.exits.length m.ce)).setCell ⟨w.heap.size, 3, none⟩ (.slice m.Af m.flanks.length m.cf)).setCell ⟨w.heap.size, 4, none⟩ (.int .i64 m.t0)).setCell ⟨w.heap.size, 5, none⟩ (.int .i64 m.t1)).setCell ⟨w.heap.size, 6, none⟩ (.int .i64 m.t2)).setCell ⟨w.heap.size, 7, none⟩ (.int .i64 m.t3)).setCell ⟨w.heap.size, 8, none⟩ (.int .i64 m.t4)).setCell ⟨w.heap.size, 9, none⟩ (.int .i64 m.t5)).setCell ⟨w.heap.size, 10, none⟩ (.int .i64 m.t6)).setCell ⟨w.heap.size + 1, 0, none⟩ (.bool true)) w.heap.size 29 m.cells ∧ Whole ((((((((((((w2.setCell ⟨w.heap.size, 0, none⟩ (.slice m.As m.secs.length m.cs)).setCell ⟨w.heap.size, 1, none⟩ (.slice m.Ag m.sigs.length m.cg)).setCell ⟨w.heap.size, 2, none⟩ (.slice m.Ae m.exits.length m.ce)).setCell ⟨w.heap.size, 3, none⟩ (.slice m.Af m.flanks.length m.cf)).setCell ⟨w.heap.size, 4, none⟩ (.int .i64 m.t0)).setCell ⟨w.heap.size, 5, none⟩ (.int .i64 m.t1)).setCell ⟨w.heap.size, 6, none⟩ (.int .i64 m.t2)).setCell ⟨w.heap.size, 7, none⟩ (.int .i64 m.t3)).setCell ⟨w.heap.size, 8, none⟩ (.int .i64 m.t4)).setCell ⟨w.heap.size, 9, none⟩ (.int .i64 m.t5)).setCell ⟨w.heap.size, 10, none⟩ (.int .i64 m.t6)).setCell ⟨w.heap.size + 1, 0, none⟩ (.bool true)) (w.heap.size + 1) 4 [.bool true] ∧ Below w.heap.size w ((((((((((((w2.setCell ⟨w.heap.size, 0, none⟩ (.slice m.As m.secs.length m.cs)).setCell ⟨w.heap.size, 1, none⟩ (.slice m.Ag m.sigs.length m.cg)).setCell ⟨w.heap.size, 2, none⟩ (.slice m.Ae m.exits.length m.ce)).setCell ⟨w.heap.size, 3, none⟩ (.slice m.Af m.flanks.length m.cf)).setCell ⟨w.heap.size, 4, none⟩ (.int .i64 m.t0)).setCell ⟨w.heap.size, 5, none⟩ (.int .i64 m.t1)).setCell ⟨w.heap.size, 6, none⟩ (.int .i64 m.t2)).setCell ⟨w.heap.size, 7, none⟩ (.int .i64 m.t3)).setCell ⟨w.heap.size, 8, none⟩ (.int .i64 m.t4)).setCell ⟨w.heap.size, 9, none⟩ (.int .i64 m.t5)).setCell ⟨w.heap.size, 10, none⟩ (.int .i64 m.t6)).setCell ⟨w.heap.size + 1, 0, none⟩ (.bool true)) ∧ Owned w.heap.size m ((((((((((((w2.setCell ⟨w.heap.size, 0, none⟩ (.slice m.As m.secs.length m.cs)).setCell ⟨w.heap.size, 1, none⟩ (.slice m.Ag m.sigs.length m.cg)).setCell ⟨w.heap.size, 2, none⟩ (.slice m.Ae m.exits.length m.ce)).setCell ⟨w.heap.size, 3, none⟩ (.slice m.Af m.flanks.length m.cf)).setCell ⟨w.heap.size, 4, none⟩ (.int .i64 m.t0)).setCell ⟨w.heap.size, 5, none⟩ (.int .i64 m.t1)).setCell ⟨w.heap.size, 6, none⟩ (.int .i64 m.t2)).setCell ⟨w.heap.size, 7, none⟩ (.int .i64 m.t3)).setCell ⟨w.heap.size, 8, none⟩ (.int .i64 m.t4)).setCell ⟨w.heap.size, 9, none⟩ (.int .i64 m.t5)).setCell ⟨w.heap.size, 10, none⟩ (.int .i64 m.t6)).setCell ⟨w.heap.size + 1, 0, none⟩ (.bool true))) :=
      Lib.hid ⟨(set11 hLw).far (p := ⟨w.heap.size + 1, 0, none⟩) (by show w.heap.size ≠ w.heap.size + 1; omega) _, (far11 hKw (by omega)).set 0 _, (below11 (HB0.out.trans (HB2.out.mono (by have := HN0.out; omega))) (Nat.le_refl _)).setCell (p := ⟨w.heap.size + 1, 0, none⟩) (by show w.heap.size ≤ w.heap.size + 1; omega) _, ((own11 HO.out (by have := HN0.out; have := HB1.out.size; omega)).far (p := ⟨w.heap.size + 1, 0, none⟩) (by show w.heap.size + 1 < w1.heap.size; have := HN0.out; have := HB1.out.size; omega) _).low (by have := HN0.out; have := HB1.out.size; omega)⟩
    obtain ⟨W3, hW3⟩ : ∃ W, ((((((((((((w2.setCell ⟨w.heap.size, 0, none⟩ (.slice m.As m.secs.length m.cs)).setCell ⟨w.heap.size, 1, none⟩ (.slice m.Ag m.sigs.length m.cg)).setCell ⟨w.heap.size, 2, none⟩ (.slice m.Ae m.exits.length m.ce)).setCell ⟨w.heap.size, 3, none⟩ (.slice m.Af m.flanks.length m.cf)).setCell ⟨w.heap.size, 4, none⟩ (.int .i64 m.t0)).setCell ⟨w.heap.size, 5, none⟩ (.int .i64 m.t1)).setCell ⟨w.heap.size, 6, none⟩ (.int .i64 m.t2)).setCell ⟨w.heap.size, 7, none⟩ (.int .i64 m.t3)).setCell ⟨w.heap.size, 8, none⟩ (.int .i64 m.t4)).setCell ⟨w.heap.size, 9, none⟩ (.int .i64 m.t5)).setCell ⟨w.heap.size, 10, none⟩ (.int .i64 m.t6)).setCell ⟨w.heap.size + 1, 0, none⟩ (.bool true)) = W := ⟨_, rfl⟩
    rw [hW3] at hF ⊢
    clear hW3 x0 f0 x1 f1 x2 f2 x3 f3 x4 f4 x5 f5 x6 f6 x7 f7 x8 f8 x9 f9 x10 f10 y0 g0 hLw hKw
    have x0 := hF.out.1.cell_at 0 rfl
    have x1 := hF.out.1.cell_at 1 rfl
    have x2 := hF.out.1.cell_at 2 rfl
    have x3 := hF.out.1.cell_at 3 rfl
    have x4 := hF.out.1.cell_at 4 rfl
    have x5 := hF.out.1.cell_at 5 rfl
    have x6 := hF.out.1.cell_at 6 rfl
    have x7 := hF.out.1.cell_at 7 rfl
    have x8 := hF.out.1.cell_at 8 rfl
    have x9 := hF.out.1.cell_at 9 rfl
    have x10 := hF.out.1.cell_at 10 rfl
    have y0 := hF.out.2.1.cell_at 0 rfl
    simp [Leaves, settle, results, Tryz.results31, go_sem, x0, x1, x2, x3, x4, x5, x6, x7, x8, x9, x10, y0]
    exact ⟨hF.out.2.2.1, m, ⟨s', HP.out⟩, by simp, hF.out.2.2.2⟩
  · have HB2 : Hid (Below W0.heap.size W0 w2) := Lib.hid (HB1.out.trans (hb.below HB1.out.size HBA.out))
    have hLw := HL0.out.below HB2.out HL0.out.lt
    have hKw := HK0.out.below HB2.out HK0.out.lt
    go_wp2_with fail
    refine leaves_cons (f := 76) (args := #[.pointer (some ⟨w.heap.size, 0, none⟩), .pointer (some ⟨w.heap.size + 1, 0, none⟩)]) (by simp) (by simp [go_sem]) ?_
    refine (catch_panic w.heap.size (w.heap.size + 1) _ _ false hLw rfl hKw (by omega)).mono ?_
    rintro e u' w'' ⟨rfl, rfl, rfl⟩
    have hF : Hid (Whole ((((((((((((w2.setCell ⟨w.heap.size, 0, none⟩ (.slice none 0 0)).setCell ⟨w.heap.size, 1, none⟩ (.slice none 0 0)).setCell ⟨w.heap.size, 2, none⟩ (.slice none 0 0)).setCell ⟨w.heap.size, 3, none⟩ (.slice none 0 0)).setCell ⟨w.heap.size, 4, none⟩ (.int .i64 0)).setCell ⟨w.heap.size, 5, none⟩ (.int .i64 0)).setCell ⟨w.heap.size, 6, none⟩ (.int .i64 0)).setCell ⟨w.heap.size, 7, none⟩ (.int .i64 0)).setCell ⟨w.heap.size, 8, none⟩ (.int .i64 0)).setCell ⟨w.heap.size, 9, none⟩ (.int .i64 0)).setCell ⟨w.heap.size, 10, none⟩ (.int .i64 0)).setCell ⟨w.heap.size + 1, 0, none⟩ (.bool false)) w.heap.size 29 [.slice none 0 0, .slice none 0 0, .slice none 0 0, .slice none 0 0, .int .i64 0, .int .i64 0, .int .i64 0, .int .i64 0, .int .i64 0, .int .i64 0, .int .i64 0] ∧ Whole ((((((((((((w2.setCell ⟨w.heap.size, 0, none⟩ (.slice none 0 0)).setCell ⟨w.heap.size, 1, none⟩ (.slice none 0 0)).setCell ⟨w.heap.size, 2, none⟩ (.slice none 0 0)).setCell ⟨w.heap.size, 3, none⟩ (.slice none 0 0)).setCell ⟨w.heap.size, 4, none⟩ (.int .i64 0)).setCell ⟨w.heap.size, 5, none⟩ (.int .i64 0)).setCell ⟨w.heap.size, 6, none⟩ (.int .i64 0)).setCell ⟨w.heap.size, 7, none⟩ (.int .i64 0)).setCell ⟨w.heap.size, 8, none⟩ (.int .i64 0)).setCell ⟨w.heap.size, 9, none⟩ (.int .i64 0)).setCell ⟨w.heap.size, 10, none⟩ (.int .i64 0)).setCell ⟨w.heap.size + 1, 0, none⟩ (.bool false)) (w.heap.size + 1) 4 [.bool false] ∧ Below w.heap.size w ((((((((((((w2.setCell ⟨w.heap.size, 0, none⟩ (.slice none 0 0)).setCell ⟨w.heap.size, 1, none⟩ (.slice none 0 0)).setCell ⟨w.heap.size, 2, none⟩ (.slice none 0 0)).setCell ⟨w.heap.size, 3, none⟩ (.slice none 0 0)).setCell ⟨w.heap.size, 4, none⟩ (.int .i64 0)).setCell ⟨w.heap.size, 5, none⟩ (.int .i64 0)).setCell ⟨w.heap.size, 6, none⟩ (.int .i64 0)).setCell ⟨w.heap.size, 7, none⟩ (.int .i64 0)).setCell ⟨w.heap.size, 8, none⟩ (.int .i64 0)).setCell ⟨w.heap.size, 9, none⟩ (.int .i64 0)).setCell ⟨w.heap.size, 10, none⟩ (.int .i64 0)).setCell ⟨w.heap.size + 1, 0, none⟩ (.bool false))) :=
      Lib.hid ⟨(set11 hLw).far (p := ⟨w.heap.size + 1, 0, none⟩) (by show w.heap.size ≠ w.heap.size + 1; omega) _, (far11 hKw (by omega)).set 0 _, (below11 (HB0.out.trans (HB2.out.mono (by have := HN0.out; omega))) (Nat.le_refl _)).setCell (p := ⟨w.heap.size + 1, 0, none⟩) (by show w.heap.size ≤ w.heap.size + 1; omega) _⟩
    obtain ⟨W3, hW3⟩ : ∃ W, ((((((((((((w2.setCell ⟨w.heap.size, 0, none⟩ (.slice none 0 0)).setCell ⟨w.heap.size, 1, none⟩ (.slice none 0 0)).setCell ⟨w.heap.size, 2, none⟩ (.slice none 0 0)).setCell ⟨w.heap.size, 3, none⟩ (.slice none 0 0)).setCell ⟨w.heap.size, 4, none⟩ (.int .i64 0)).setCell ⟨w.heap.size, 5, none⟩ (.int .i64 0)).setCell ⟨w.heap.size, 6, none⟩ (.int .i64 0)).setCell ⟨w.heap.size, 7, none⟩ (.int .i64 0)).setCell ⟨w.heap.size, 8, none⟩ (.int .i64 0)).setCell ⟨w.heap.size, 9, none⟩ (.int .i64 0)).setCell ⟨w.heap.size, 10, none⟩ (.int .i64 0)).setCell ⟨w.heap.size + 1, 0, none⟩ (.bool false)) = W := ⟨_, rfl⟩
    rw [hW3] at hF ⊢
    clear hW3 hLw hKw
    have x0 := hF.out.1.cell_at 0 rfl
    have x1 := hF.out.1.cell_at 1 rfl
    have x2 := hF.out.1.cell_at 2 rfl
    have x3 := hF.out.1.cell_at 3 rfl
    have x4 := hF.out.1.cell_at 4 rfl
    have x5 := hF.out.1.cell_at 5 rfl
    have x6 := hF.out.1.cell_at 6 rfl
    have x7 := hF.out.1.cell_at 7 rfl
    have x8 := hF.out.1.cell_at 8 rfl
    have x9 := hF.out.1.cell_at 9 rfl
    have x10 := hF.out.1.cell_at 10 rfl
    have y0 := hF.out.2.1.cell_at 0 rfl
    have HP := Lib.hid hp
    clear hp
    simp [Leaves, settle, results, Tryz.results31, go_sem, x0, x1, x2, x3, x4, x5, x6, x7, x8, x9, x10, y0]
    exact ⟨hF.out.2.2, HP.out, by simp [zeroL]⟩
end Go.Proofs.YtegflmaobmibnaaGreatDoor
