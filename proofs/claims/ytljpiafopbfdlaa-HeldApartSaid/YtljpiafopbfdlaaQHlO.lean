/- Package held and the document's own: the same in all? -/
import Derived.Deep.CutRange
import Derived.ChangeKeysEq
import Derived.RangeFuncNested
import Derived.RangeFuncBound
import Derived.RangeFuncCalls
import Derived.RangeFuncLeaves
import Derived.RangeFuncBox
import Derived.Shelf.Abstract
import Derived.Shelf.RegionOpen
import Derived.WalkKit
import Derived.OwnWalkIn
import Derived.TacticsInMore
import Derived.LoopNIn
import Derived.LoopIn
import Derived.WalkMore
import Derived.Test.YtljpiafopbfdlaaQHlN
namespace Go.Proofs.Ytljpiafopbfdlaa
open Go.RowKit Go.Shelf
set_option linter.unusedVariables false
set_option linter.unusedSimpArgs false

theorem eqItems_bools (d : Nat) (P : Program) (e : TypeId) (he : P.plainKey e = true) (hu : P.underlying e = some .bool) (w : World) : ∀ (m k : Nat) (xs ys : List Bool), xs.length = k + m → ys.length = k + m →
    (Op.eqItems (d + 1) e 1 (xs.map Value.bool).toArray (ys.map Value.bool).toArray (List.range' k m)).run P w = .ok (decide (xs.drop k = ys.drop k)) w
  | 0, k, xs, ys, hx, hy => by
    rw [List.drop_eq_nil_of_le (by omega), List.drop_eq_nil_of_le (by omega)]
    rfl
  | m + 1, k, xs, ys, hx, hy => by
    have ih := eqItems_bools d P e he hu w m (k + 1) xs ys (by omega) (by omega)
    have hkx : k < xs.length := by omega
    have hky : k < ys.length := by omega
    rw [List.range'_succ]
    unfold Op.eqItems
    rw [Sem.run_bind, run_part_plain w he (show (xs.map Value.bool).toArray[k * 1]? = some (.bool xs[k]) by simp [hkx]), Result.andThen_ok,
      Sem.run_bind, run_part_plain w he (show (ys.map Value.bool).toArray[k * 1]? = some (.bool ys[k]) by simp [hky]), Result.andThen_ok,
      Sem.run_bind, run_equalIn_bool w d e _ _ hu, Result.andThen_ok, List.drop_eq_getElem_cons hkx, List.drop_eq_getElem_cons hky]
    by_cases h : xs[k] = ys[k]
    · simp only [h, beq_self_eq_true, Bool.not_true, Bool.false_eq_true, if_false, ih, List.cons.injEq, true_and]
    · have hb : (xs[k] == ys[k]) = false := by simpa using h
      rw [hb, decide_eq_false (fun e => h (List.cons.inj e).1)]
      rfl
theorem eq_bools (w : World) (d : Nat) (xs ys : List Bool) (hx : xs.length = 12) (hy : ys.length = 12) :
    (Op.equalIn (d + 2) 26 (.agg (xs.map Value.bool).toArray) (.agg (ys.map Value.bool).toArray)).run Try.prog w = .ok (decide (xs = ys)) w := by
  obtain ⟨i, hi⟩ : ∃ i, Try.prog.info? 4 = some i := Option.isSome_iff_exists.1 (by kernel_rfl)
  have hc : Try.prog.cellsOf 4 = 1 := by kernel_rfl
  have := eqItems_bools d Try.prog 4 (by kernel_rfl) Try.underlying4 w 12 0 xs ys (by omega) (by omega)
  rw [run_equalIn_array w (d + 1) _ _ Try.underlying26 hi, hc, List.range_eq_range', this, List.drop_zero, List.drop_zero]
theorem eql_was (w : World) (a b : Hld) : (binOp .eql 26 (.agg #[.bool a.w0, .bool a.w1, .bool a.w2, .bool a.w3, .bool a.w4, .bool a.w5, .bool a.w6, .bool a.w7, .bool a.w8, .bool a.w9, .bool a.wA, .bool a.wB]) (.agg #[.bool b.w0, .bool b.w1, .bool b.w2, .bool b.w3, .bool b.w4, .bool b.w5, .bool b.w6, .bool b.w7, .bool b.w8, .bool b.w9, .bool b.wA, .bool b.wB])).run Try.prog w = .ok (.bool (decide (a.was = b.was))) w := by
  have e : (Op.equalIn 10000 26 (.agg #[.bool a.w0, .bool a.w1, .bool a.w2, .bool a.w3, .bool a.w4, .bool a.w5, .bool a.w6, .bool a.w7, .bool a.w8, .bool a.w9, .bool a.wA, .bool a.wB]) (.agg #[.bool b.w0, .bool b.w1, .bool b.w2, .bool b.w3, .bool b.w4, .bool b.w5, .bool b.w6, .bool b.w7, .bool b.w8, .bool b.w9, .bool b.wA, .bool b.wB])).run Try.prog w = .ok (decide (a.was = b.was)) w := eq_bools w 9998 a.was b.was rfl rfl
  rw [run_eql_struct, e]
  rfl
theorem neq_was (w : World) (a b : Hld) : (binOp .neq 26 (.agg #[.bool a.w0, .bool a.w1, .bool a.w2, .bool a.w3, .bool a.w4, .bool a.w5, .bool a.w6, .bool a.w7, .bool a.w8, .bool a.w9, .bool a.wA, .bool a.wB]) (.agg #[.bool b.w0, .bool b.w1, .bool b.w2, .bool b.w3, .bool b.w4, .bool b.w5, .bool b.w6, .bool b.w7, .bool b.w8, .bool b.w9, .bool b.wA, .bool b.wB])).run Try.prog w = .ok (.bool (!decide (a.was = b.was))) w := by
  have e : (Op.equalIn 10000 26 (.agg #[.bool a.w0, .bool a.w1, .bool a.w2, .bool a.w3, .bool a.w4, .bool a.w5, .bool a.w6, .bool a.w7, .bool a.w8, .bool a.w9, .bool a.wA, .bool a.wB]) (.agg #[.bool b.w0, .bool b.w1, .bool b.w2, .bool b.w3, .bool b.w4, .bool b.w5, .bool b.w6, .bool b.w7, .bool b.w8, .bool b.w9, .bool b.wA, .bool b.wB])).run Try.prog w = .ok (decide (a.was = b.was)) w := eq_bools w 9998 a.was b.was rfl rfl
  rw [run_neq_struct, e]
  rfl
def sameH (a b : Hld) : Bool := a.id == b.id && (sameP a.p b.p && (decide (a.os = b.os) && (decide (a.ns = b.ns) && (a.st == b.st && (a.gone == b.gone && (decide (a.was = b.was) && (a.op == b.op && (a.tm == b.tm && a.sh == b.sh))))))))
theorem sameH_self (a : Hld) : sameH a a = true := by simp [sameH, sameP]
theorem sameH_re {a : Hld} (x y : Rm) : sameH (a.re x) (a.re y) = true := by simp [sameH, sameP, Hld.re, Hld.r1, Hld.r2, Hld.r3, Hld.was]
theorem keep_h2 (a b : Hld) (w : World) :
    ∃ Q : World → Prop, Hid (Closed Q) ∧ Hid (∀ W, Q W → Below w.heap.size w W) ∧ Hid (∀ W, Q W → Whole W w.heap.size 28 a.cells) ∧ Hid (∀ W, Q W → Whole W (w.heap.size + 1) 28 b.cells) ∧ Q ((w.alloc (.cells a.cells.toArray 28)).alloc (.cells b.cells.toArray 28)) :=
  ⟨fun W => Below w.heap.size w W ∧ Whole W w.heap.size 28 a.cells ∧ Whole W (w.heap.size + 1) 28 b.cells, Lib.hid ((Closed.below w).and ((Closed.whole _ _ _).and (Closed.whole _ _ _))), Lib.hid (fun _ h => h.1), Lib.hid (fun _ h => h.2.1), Lib.hid (fun _ h => h.2.2), below2 w _ _, (Whole.new w _ a.cells).alloc _, Whole.new_at _ _ b.cells _ (by simp)⟩
set_option maxRecDepth 100000 in
set_option maxHeartbeats 32000000 in
theorem sameR17_any {a b : Hld} {w : World} (ha : HLies a w) (hb : HLies b w) {r : Bool} (hr : sameH a b = r) : Calls Try.prog 19 #[a.val, b.val] w fun e w' => e = .returned (.bool r) ∧ Below w.heap.size w w' := by
  obtain ⟨Q, HQ, HQb, HQa, HQc, hq⟩ := keep_h2 a b w
  obtain ⟨W0, hW0⟩ : ∃ W0, (w.alloc (.cells a.cells.toArray 28)).alloc (.cells b.cells.toArray 28) = W0 := ⟨_, rfl⟩
  rw [hW0] at hq
  have HW0 := Lib.hid hW0
  have KP : Hid (∀ W, Q W → ∀ r, sameP a.p b.p = r → Calls Try.prog 20 #[a.p.val, b.p.val] W fun e w' => e = .returned (.bool r) ∧ Below W.heap.size W w') := Lib.hid fun W hW r hr => sameR11_any (ha.on (HQb.out W hW)).pl (hb.on (HQb.out W hW)).pl hr
  have KO : Hid (∀ W, Q W → ∀ r, decide (a.os = b.os) = r → Calls Try.prog 21 #[.slice a.oA a.os.length a.oc, .slice b.oA b.os.length b.oc] W fun e w' => e = .returned (.bool r) ∧ Q w') := Lib.hid fun W hW r hr => stepsR11_P (P := Q) (w := W) HQ.out a.oc b.oc (fun W hW => (ha.on (HQb.out W hW)).orow) (fun W hW => (hb.on (HQb.out W hW)).orow) ha.olen hr hW
  have KN : Hid (∀ W, Q W → ∀ r, decide (a.ns = b.ns) = r → Calls Try.prog 22 #[.slice a.nA a.ns.length a.nc, .slice b.nA b.ns.length b.nc] W fun e w' => e = .returned (.bool r) ∧ Q w') := Lib.hid fun W hW r hr => all17_P (P := Q) (w := W) HQ.out a.nc b.nc (fun W hW => (ha.on (HQb.out W hW)).nrow) (fun W hW => (hb.on (HQb.out W hW)).nrow) ha.nlen hr hW
  obtain ⟨e0, h0⟩ : ∃ e, (a.id == b.id) = e := ⟨_, rfl⟩
  obtain ⟨e1, h1⟩ : ∃ e, sameP a.p b.p = e := ⟨_, rfl⟩
  obtain ⟨e2, h2⟩ : ∃ e, decide (a.os = b.os) = e := ⟨_, rfl⟩
  obtain ⟨e3, h3⟩ : ∃ e, decide (a.ns = b.ns) = e := ⟨_, rfl⟩
  obtain ⟨e4, h4⟩ : ∃ e, (a.st == b.st) = e := ⟨_, rfl⟩
  obtain ⟨e5, h5⟩ : ∃ e, (a.gone == b.gone) = e := ⟨_, rfl⟩
  obtain ⟨e6, h6⟩ : ∃ e, decide (a.was = b.was) = e := ⟨_, rfl⟩
  obtain ⟨e7, h7⟩ : ∃ e, (a.op == b.op) = e := ⟨_, rfl⟩
  obtain ⟨e8, h8⟩ : ∃ e, (a.tm == b.tm) = e := ⟨_, rfl⟩
  obtain ⟨e9, h9⟩ : ∃ e, (a.sh == b.sh) = e := ⟨_, rfl⟩
  have HR : Hid ((e0 && (e1 && (e2 && (e3 && (e4 && (e5 && (e6 && (e7 && (e8 && e9))))))))) = r) := Lib.hid (by rw [← hr, ← h0, ← h1, ← h2, ← h3, ← h4, ← h5, ← h6, ← h7, ← h8, ← h9]; rfl)
  have hwas : ∀ W : World, (binOp .eql 26 (.agg #[.bool a.w0, .bool a.w1, .bool a.w2, .bool a.w3, .bool a.w4, .bool a.w5, .bool a.w6, .bool a.w7, .bool a.w8, .bool a.w9, .bool a.wA, .bool a.wB]) (.agg #[.bool b.w0, .bool b.w1, .bool b.w2, .bool b.w3, .bool b.w4, .bool b.w5, .bool b.w6, .bool b.w7, .bool b.w8, .bool b.w9, .bool b.wA, .bool b.wB])).run Try.prog W = .ok (.bool e6) W := fun W => by rw [eql_was, h6]
  have HH := Lib.hid (And.intro h1 (And.intro h2 h3))
  have F1 : Hid (∀ W, Q W → (W.cell? ⟨w.heap.size, 0, none⟩ = some (.int .i64 a.id) ∧ W.cell? ⟨w.heap.size + 1, 0, none⟩ = some (.int .i64 b.id)) ∧ (W.cell? ⟨w.heap.size, 1, none⟩ = some (.int .i64 a.p.s) ∧ W.cell? ⟨w.heap.size + 1, 1, none⟩ = some (.int .i64 b.p.s)) ∧ (W.cell? ⟨w.heap.size, 2, none⟩ = some (.int .i64 a.p.x) ∧ W.cell? ⟨w.heap.size + 1, 2, none⟩ = some (.int .i64 b.p.x)) ∧ (W.cell? ⟨w.heap.size, 3, none⟩ = some (.slice a.p.A a.p.ss.length a.p.c) ∧ W.cell? ⟨w.heap.size + 1, 3, none⟩ = some (.slice b.p.A b.p.ss.length b.p.c))) := Lib.hid fun W hW => ⟨⟨(HQa.out W hW).cell_at 0 rfl, (HQc.out W hW).cell_at 0 rfl⟩, ⟨(HQa.out W hW).cell_at 1 rfl, (HQc.out W hW).cell_at 1 rfl⟩, ⟨(HQa.out W hW).cell_at 2 rfl, (HQc.out W hW).cell_at 2 rfl⟩, ⟨(HQa.out W hW).cell_at 3 rfl, (HQc.out W hW).cell_at 3 rfl⟩⟩
  have F2 : Hid (∀ W, Q W → (W.cell? ⟨w.heap.size, 4, none⟩ = some (.slice a.oA a.os.length a.oc) ∧ W.cell? ⟨w.heap.size + 1, 4, none⟩ = some (.slice b.oA b.os.length b.oc))) := Lib.hid fun W hW => ⟨(HQa.out W hW).cell_at 4 rfl, (HQc.out W hW).cell_at 4 rfl⟩
  have F3 : Hid (∀ W, Q W → (W.cell? ⟨w.heap.size, 5, none⟩ = some (.slice a.nA a.ns.length a.nc) ∧ W.cell? ⟨w.heap.size + 1, 5, none⟩ = some (.slice b.nA b.ns.length b.nc))) := Lib.hid fun W hW => ⟨(HQa.out W hW).cell_at 5 rfl, (HQc.out W hW).cell_at 5 rfl⟩
  have F4 : Hid (∀ W, Q W → (W.cell? ⟨w.heap.size, 6, none⟩ = some (.int .u8 a.st) ∧ W.cell? ⟨w.heap.size + 1, 6, none⟩ = some (.int .u8 b.st)) ∧ (W.cell? ⟨w.heap.size, 7, none⟩ = some (.int .i64 a.gone) ∧ W.cell? ⟨w.heap.size + 1, 7, none⟩ = some (.int .i64 b.gone)) ∧ (W.cell? ⟨w.heap.size, 8, none⟩ = some (.bool a.w0) ∧ W.cell? ⟨w.heap.size + 1, 8, none⟩ = some (.bool b.w0)) ∧ (W.cell? ⟨w.heap.size, 9, none⟩ = some (.bool a.w1) ∧ W.cell? ⟨w.heap.size + 1, 9, none⟩ = some (.bool b.w1)) ∧ (W.cell? ⟨w.heap.size, 10, none⟩ = some (.bool a.w2) ∧ W.cell? ⟨w.heap.size + 1, 10, none⟩ = some (.bool b.w2)) ∧ (W.cell? ⟨w.heap.size, 11, none⟩ = some (.bool a.w3) ∧ W.cell? ⟨w.heap.size + 1, 11, none⟩ = some (.bool b.w3)) ∧ (W.cell? ⟨w.heap.size, 12, none⟩ = some (.bool a.w4) ∧ W.cell? ⟨w.heap.size + 1, 12, none⟩ = some (.bool b.w4)) ∧ (W.cell? ⟨w.heap.size, 13, none⟩ = some (.bool a.w5) ∧ W.cell? ⟨w.heap.size + 1, 13, none⟩ = some (.bool b.w5)) ∧ (W.cell? ⟨w.heap.size, 14, none⟩ = some (.bool a.w6) ∧ W.cell? ⟨w.heap.size + 1, 14, none⟩ = some (.bool b.w6)) ∧ (W.cell? ⟨w.heap.size, 15, none⟩ = some (.bool a.w7) ∧ W.cell? ⟨w.heap.size + 1, 15, none⟩ = some (.bool b.w7)) ∧ (W.cell? ⟨w.heap.size, 16, none⟩ = some (.bool a.w8) ∧ W.cell? ⟨w.heap.size + 1, 16, none⟩ = some (.bool b.w8)) ∧ (W.cell? ⟨w.heap.size, 17, none⟩ = some (.bool a.w9) ∧ W.cell? ⟨w.heap.size + 1, 17, none⟩ = some (.bool b.w9)) ∧ (W.cell? ⟨w.heap.size, 18, none⟩ = some (.bool a.wA) ∧ W.cell? ⟨w.heap.size + 1, 18, none⟩ = some (.bool b.wA)) ∧ (W.cell? ⟨w.heap.size, 19, none⟩ = some (.bool a.wB) ∧ W.cell? ⟨w.heap.size + 1, 19, none⟩ = some (.bool b.wB)) ∧ (W.cell? ⟨w.heap.size, 20, none⟩ = some (.bool a.op) ∧ W.cell? ⟨w.heap.size + 1, 20, none⟩ = some (.bool b.op)) ∧ (W.cell? ⟨w.heap.size, 21, none⟩ = some (.int .i64 a.tm) ∧ W.cell? ⟨w.heap.size + 1, 21, none⟩ = some (.int .i64 b.tm)) ∧ (W.cell? ⟨w.heap.size, 22, none⟩ = some (.bool a.sh) ∧ W.cell? ⟨w.heap.size + 1, 22, none⟩ = some (.bool b.sh))) := Lib.hid fun W hW => ⟨⟨(HQa.out W hW).cell_at 6 rfl, (HQc.out W hW).cell_at 6 rfl⟩, ⟨(HQa.out W hW).cell_at 7 rfl, (HQc.out W hW).cell_at 7 rfl⟩, ⟨(HQa.out W hW).cell_at 8 rfl, (HQc.out W hW).cell_at 8 rfl⟩, ⟨(HQa.out W hW).cell_at 9 rfl, (HQc.out W hW).cell_at 9 rfl⟩, ⟨(HQa.out W hW).cell_at 10 rfl, (HQc.out W hW).cell_at 10 rfl⟩, ⟨(HQa.out W hW).cell_at 11 rfl, (HQc.out W hW).cell_at 11 rfl⟩, ⟨(HQa.out W hW).cell_at 12 rfl, (HQc.out W hW).cell_at 12 rfl⟩, ⟨(HQa.out W hW).cell_at 13 rfl, (HQc.out W hW).cell_at 13 rfl⟩, ⟨(HQa.out W hW).cell_at 14 rfl, (HQc.out W hW).cell_at 14 rfl⟩, ⟨(HQa.out W hW).cell_at 15 rfl, (HQc.out W hW).cell_at 15 rfl⟩, ⟨(HQa.out W hW).cell_at 16 rfl, (HQc.out W hW).cell_at 16 rfl⟩, ⟨(HQa.out W hW).cell_at 17 rfl, (HQc.out W hW).cell_at 17 rfl⟩, ⟨(HQa.out W hW).cell_at 18 rfl, (HQc.out W hW).cell_at 18 rfl⟩, ⟨(HQa.out W hW).cell_at 19 rfl, (HQc.out W hW).cell_at 19 rfl⟩, ⟨(HQa.out W hW).cell_at 20 rfl, (HQc.out W hW).cell_at 20 rfl⟩, ⟨(HQa.out W hW).cell_at 21 rfl, (HQc.out W hW).cell_at 21 rfl⟩, ⟨(HQa.out W hW).cell_at 22 rfl, (HQc.out W hW).cell_at 22 rfl⟩⟩
  clear hr ha hb hW0 h1 h2 h3 h6
  go_enter Try.func19, Try.ntmps19
  go_upto_region 1 with (fail)
  rw [HW0.out]
  clear HW0
  obtain ⟨⟨x0, y0⟩, ⟨x1, y1⟩, ⟨x2, y2⟩, ⟨x3, y3⟩⟩ := F1.out _ hq
  cases e0
  · go_wp2_with fail
    go_ret
    exact ⟨ret_bool (by rw [← HR.out]; rfl), HQb.out _ hq⟩
  have K1 := Lib.hid (KP.out _ hq e1 HH.out.1)
  go_wp2_with fail
  refine K1.out.mono ?_
  clear K1
  rintro e w1 ⟨rfl, hB1⟩
  replace hq := HQ.out _ _ hq hB1
  clear hB1 x0 y0 x1 y1 x2 y2 x3 y3 h0
  cases e1
  · go_wp2_with fail
    go_ret
    exact ⟨ret_bool (by rw [← HR.out]; rfl), HQb.out _ hq⟩
  obtain ⟨x4, y4⟩ := F2.out _ hq
  have K1 := Lib.hid (KO.out _ hq e2 HH.out.2.1)
  go_wp2_with fail
  refine K1.out.mono ?_
  clear K1
  rintro e w2 ⟨rfl, hq⟩
  clear x4 y4
  cases e2
  · go_wp2_with fail
    go_ret
    exact ⟨ret_bool (by rw [← HR.out]; rfl), HQb.out _ hq⟩
  obtain ⟨x5, y5⟩ := F3.out _ hq
  have K1 := Lib.hid (KN.out _ hq e3 HH.out.2.2)
  go_wp2_with fail
  refine K1.out.mono ?_
  clear K1
  rintro e w3 ⟨rfl, hq⟩
  clear x5 y5
  cases e3
  · go_wp2_with fail
    go_ret
    exact ⟨ret_bool (by rw [← HR.out]; rfl), HQb.out _ hq⟩
  obtain ⟨⟨x6, y6⟩, ⟨x7, y7⟩, ⟨x8, y8⟩, ⟨x9, y9⟩, ⟨x10, y10⟩, ⟨x11, y11⟩, ⟨x12, y12⟩, ⟨x13, y13⟩, ⟨x14, y14⟩, ⟨x15, y15⟩, ⟨x16, y16⟩, ⟨x17, y17⟩, ⟨x18, y18⟩, ⟨x19, y19⟩, ⟨x20, y20⟩, ⟨x21, y21⟩, ⟨x22, y22⟩⟩ := F4.out _ hq
  clear F1 F2 F3 F4 KP KO KN HH HQ HQa HQc
  cases e4
  · go_wp2_with fail
    go_ret
    exact ⟨ret_bool (by rw [← HR.out]; rfl), HQb.out _ hq⟩
  cases e5
  · go_wp2_with fail
    go_ret
    exact ⟨ret_bool (by rw [← HR.out]; rfl), HQb.out _ hq⟩
  cases e6
  · go_wp2_with fail
    go_ret
    exact ⟨ret_bool (by rw [← HR.out]; rfl), HQb.out _ hq⟩
  cases e7
  · go_wp2_with fail
    go_ret
    exact ⟨ret_bool (by rw [← HR.out]; rfl), HQb.out _ hq⟩
  cases e8
  · go_wp2_with fail
    go_ret
    exact ⟨ret_bool (by rw [← HR.out]; rfl), HQb.out _ hq⟩
  go_wp2_with fail
  go_ret
  exact ⟨ret_bool (by rw [← HR.out]; rfl), HQb.out _ hq⟩

end Go.Proofs.Ytljpiafopbfdlaa
