/- Package held: the same in all? -/
import Derived.Deep.CutRange
import Derived.RangeFuncNested
import Derived.RangeFuncBound
import Derived.RangeFuncCalls
import Derived.RangeFuncLeaves
import Derived.RangeFuncBox
import Derived.Shelf.Abstract
import Derived.Shelf.RegionOpen
import Derived.WalkKit
import Derived.OwnWalkIn
import Derived.TacticsInMore
import Derived.LoopNIn
import Derived.LoopIn
import Derived.WalkMore
import Derived.Test.YtljpiafopbfdlaaQHlO
namespace Go.Proofs.Ytljpiafopbfdlaa
open Go.RowKit Go.Shelf
set_option linter.unusedVariables false
set_option linter.unusedSimpArgs false

set_option maxRecDepth 100000 in
set_option maxHeartbeats 32000000 in
theorem same17_any {a b : Hld} {w : World} (ha : HLies a w) (hb : HLies b w) {r : Bool} (hr : sameH a b = r) : Calls Try.prog 23 #[a.val, b.val] w fun e w' => e = .returned (.bool r) ∧ Below w.heap.size w w' := by
  obtain ⟨Q, HQ, HQb, HQa, HQc, hq⟩ := keep_h2 a b w
  obtain ⟨W0, hW0⟩ : ∃ W0, (w.alloc (.cells a.cells.toArray 28)).alloc (.cells b.cells.toArray 28) = W0 := ⟨_, rfl⟩
  rw [hW0] at hq
  have HW0 := Lib.hid hW0
  have KP : Hid (∀ W, Q W → ∀ r, sameP a.p b.p = r → Calls Try.prog 38 #[a.p.val, b.p.val] W fun e w' => e = .returned (.bool r) ∧ Below W.heap.size W w') := Lib.hid fun W hW r hr => same11_any (ha.on (HQb.out W hW)).pl (hb.on (HQb.out W hW)).pl hr
  have KO : Hid (∀ W, Q W → ∀ r, decide (a.os = b.os) = r → Calls Try.prog 39 #[.slice a.oA a.os.length a.oc, .slice b.oA b.os.length b.oc] W fun e w' => e = .returned (.bool r) ∧ Q w') := Lib.hid fun W hW r hr => equalStep_P (P := Q) (w := W) HQ.out a.oc b.oc (fun W hW => (ha.on (HQb.out W hW)).orow) (fun W hW => (hb.on (HQb.out W hW)).orow) ha.olen hr hW
  have KN : Hid (∀ W, Q W → ∀ r, decide (a.ns = b.ns) = r → Calls Try.prog 40 #[.slice a.nA a.ns.length a.nc, .slice b.nA b.ns.length b.nc] W fun e w' => e = .returned (.bool r) ∧ Q w') := Lib.hid fun W hW r hr => equalNeed_P (P := Q) (w := W) HQ.out a.nc b.nc (fun W hW => (ha.on (HQb.out W hW)).nrow) (fun W hW => (hb.on (HQb.out W hW)).nrow) ha.nlen hr hW
  obtain ⟨e0, h0⟩ : ∃ e, (a.id == b.id) = e := ⟨_, rfl⟩
  obtain ⟨e1, h1⟩ : ∃ e, sameP a.p b.p = e := ⟨_, rfl⟩
  obtain ⟨e2, h2⟩ : ∃ e, decide (a.os = b.os) = e := ⟨_, rfl⟩
  obtain ⟨e3, h3⟩ : ∃ e, decide (a.ns = b.ns) = e := ⟨_, rfl⟩
  obtain ⟨e4, h4⟩ : ∃ e, (a.st == b.st) = e := ⟨_, rfl⟩
  obtain ⟨e5, h5⟩ : ∃ e, (a.gone == b.gone) = e := ⟨_, rfl⟩
  obtain ⟨e6, h6⟩ : ∃ e, decide (a.was = b.was) = e := ⟨_, rfl⟩
  obtain ⟨e7, h7⟩ : ∃ e, (a.op == b.op) = e := ⟨_, rfl⟩
  obtain ⟨e8, h8⟩ : ∃ e, (a.tm == b.tm) = e := ⟨_, rfl⟩
  obtain ⟨e9, h9⟩ : ∃ e, (a.sh == b.sh) = e := ⟨_, rfl⟩
  have HR : Hid ((e0 && (e1 && (e2 && (e3 && (e4 && (e5 && (e6 && (e7 && (e8 && e9))))))))) = r) := Lib.hid (by rw [← hr, ← h0, ← h1, ← h2, ← h3, ← h4, ← h5, ← h6, ← h7, ← h8, ← h9]; rfl)
  have hwas : ∀ W : World, (binOp .neq 26 (.agg #[.bool a.w0, .bool a.w1, .bool a.w2, .bool a.w3, .bool a.w4, .bool a.w5, .bool a.w6, .bool a.w7, .bool a.w8, .bool a.w9, .bool a.wA, .bool a.wB]) (.agg #[.bool b.w0, .bool b.w1, .bool b.w2, .bool b.w3, .bool b.w4, .bool b.w5, .bool b.w6, .bool b.w7, .bool b.w8, .bool b.w9, .bool b.wA, .bool b.wB])).run Try.prog W = .ok (.bool (!e6)) W := fun W => by rw [neq_was, h6]
  have HH := Lib.hid (And.intro h1 (And.intro h2 h3))
  have F1 : Hid (∀ W, Q W → (W.cell? ⟨w.heap.size, 0, none⟩ = some (.int .i64 a.id) ∧ W.cell? ⟨w.heap.size + 1, 0, none⟩ = some (.int .i64 b.id)) ∧ (W.cell? ⟨w.heap.size, 6, none⟩ = some (.int .u8 a.st) ∧ W.cell? ⟨w.heap.size + 1, 6, none⟩ = some (.int .u8 b.st)) ∧ (W.cell? ⟨w.heap.size, 7, none⟩ = some (.int .i64 a.gone) ∧ W.cell? ⟨w.heap.size + 1, 7, none⟩ = some (.int .i64 b.gone)) ∧ (W.cell? ⟨w.heap.size, 8, none⟩ = some (.bool a.w0) ∧ W.cell? ⟨w.heap.size + 1, 8, none⟩ = some (.bool b.w0)) ∧ (W.cell? ⟨w.heap.size, 9, none⟩ = some (.bool a.w1) ∧ W.cell? ⟨w.heap.size + 1, 9, none⟩ = some (.bool b.w1)) ∧ (W.cell? ⟨w.heap.size, 10, none⟩ = some (.bool a.w2) ∧ W.cell? ⟨w.heap.size + 1, 10, none⟩ = some (.bool b.w2)) ∧ (W.cell? ⟨w.heap.size, 11, none⟩ = some (.bool a.w3) ∧ W.cell? ⟨w.heap.size + 1, 11, none⟩ = some (.bool b.w3)) ∧ (W.cell? ⟨w.heap.size, 12, none⟩ = some (.bool a.w4) ∧ W.cell? ⟨w.heap.size + 1, 12, none⟩ = some (.bool b.w4)) ∧ (W.cell? ⟨w.heap.size, 13, none⟩ = some (.bool a.w5) ∧ W.cell? ⟨w.heap.size + 1, 13, none⟩ = some (.bool b.w5)) ∧ (W.cell? ⟨w.heap.size, 14, none⟩ = some (.bool a.w6) ∧ W.cell? ⟨w.heap.size + 1, 14, none⟩ = some (.bool b.w6)) ∧ (W.cell? ⟨w.heap.size, 15, none⟩ = some (.bool a.w7) ∧ W.cell? ⟨w.heap.size + 1, 15, none⟩ = some (.bool b.w7)) ∧ (W.cell? ⟨w.heap.size, 16, none⟩ = some (.bool a.w8) ∧ W.cell? ⟨w.heap.size + 1, 16, none⟩ = some (.bool b.w8)) ∧ (W.cell? ⟨w.heap.size, 17, none⟩ = some (.bool a.w9) ∧ W.cell? ⟨w.heap.size + 1, 17, none⟩ = some (.bool b.w9)) ∧ (W.cell? ⟨w.heap.size, 18, none⟩ = some (.bool a.wA) ∧ W.cell? ⟨w.heap.size + 1, 18, none⟩ = some (.bool b.wA)) ∧ (W.cell? ⟨w.heap.size, 19, none⟩ = some (.bool a.wB) ∧ W.cell? ⟨w.heap.size + 1, 19, none⟩ = some (.bool b.wB))) := Lib.hid fun W hW => ⟨⟨(HQa.out W hW).cell_at 0 rfl, (HQc.out W hW).cell_at 0 rfl⟩, ⟨(HQa.out W hW).cell_at 6 rfl, (HQc.out W hW).cell_at 6 rfl⟩, ⟨(HQa.out W hW).cell_at 7 rfl, (HQc.out W hW).cell_at 7 rfl⟩, ⟨(HQa.out W hW).cell_at 8 rfl, (HQc.out W hW).cell_at 8 rfl⟩, ⟨(HQa.out W hW).cell_at 9 rfl, (HQc.out W hW).cell_at 9 rfl⟩, ⟨(HQa.out W hW).cell_at 10 rfl, (HQc.out W hW).cell_at 10 rfl⟩, ⟨(HQa.out W hW).cell_at 11 rfl, (HQc.out W hW).cell_at 11 rfl⟩, ⟨(HQa.out W hW).cell_at 12 rfl, (HQc.out W hW).cell_at 12 rfl⟩, ⟨(HQa.out W hW).cell_at 13 rfl, (HQc.out W hW).cell_at 13 rfl⟩, ⟨(HQa.out W hW).cell_at 14 rfl, (HQc.out W hW).cell_at 14 rfl⟩, ⟨(HQa.out W hW).cell_at 15 rfl, (HQc.out W hW).cell_at 15 rfl⟩, ⟨(HQa.out W hW).cell_at 16 rfl, (HQc.out W hW).cell_at 16 rfl⟩, ⟨(HQa.out W hW).cell_at 17 rfl, (HQc.out W hW).cell_at 17 rfl⟩, ⟨(HQa.out W hW).cell_at 18 rfl, (HQc.out W hW).cell_at 18 rfl⟩, ⟨(HQa.out W hW).cell_at 19 rfl, (HQc.out W hW).cell_at 19 rfl⟩⟩
  have F2 : Hid (∀ W, Q W → (W.cell? ⟨w.heap.size, 20, none⟩ = some (.bool a.op) ∧ W.cell? ⟨w.heap.size + 1, 20, none⟩ = some (.bool b.op)) ∧ (W.cell? ⟨w.heap.size, 21, none⟩ = some (.int .i64 a.tm) ∧ W.cell? ⟨w.heap.size + 1, 21, none⟩ = some (.int .i64 b.tm)) ∧ (W.cell? ⟨w.heap.size, 22, none⟩ = some (.bool a.sh) ∧ W.cell? ⟨w.heap.size + 1, 22, none⟩ = some (.bool b.sh))) := Lib.hid fun W hW => ⟨⟨(HQa.out W hW).cell_at 20 rfl, (HQc.out W hW).cell_at 20 rfl⟩, ⟨(HQa.out W hW).cell_at 21 rfl, (HQc.out W hW).cell_at 21 rfl⟩, ⟨(HQa.out W hW).cell_at 22 rfl, (HQc.out W hW).cell_at 22 rfl⟩⟩
  have F3 : Hid (∀ W, Q W → (W.cell? ⟨w.heap.size, 1, none⟩ = some (.int .i64 a.p.s) ∧ W.cell? ⟨w.heap.size + 1, 1, none⟩ = some (.int .i64 b.p.s)) ∧ (W.cell? ⟨w.heap.size, 2, none⟩ = some (.int .i64 a.p.x) ∧ W.cell? ⟨w.heap.size + 1, 2, none⟩ = some (.int .i64 b.p.x)) ∧ (W.cell? ⟨w.heap.size, 3, none⟩ = some (.slice a.p.A a.p.ss.length a.p.c) ∧ W.cell? ⟨w.heap.size + 1, 3, none⟩ = some (.slice b.p.A b.p.ss.length b.p.c))) := Lib.hid fun W hW => ⟨⟨(HQa.out W hW).cell_at 1 rfl, (HQc.out W hW).cell_at 1 rfl⟩, ⟨(HQa.out W hW).cell_at 2 rfl, (HQc.out W hW).cell_at 2 rfl⟩, ⟨(HQa.out W hW).cell_at 3 rfl, (HQc.out W hW).cell_at 3 rfl⟩⟩
  have F4 : Hid (∀ W, Q W → (W.cell? ⟨w.heap.size, 4, none⟩ = some (.slice a.oA a.os.length a.oc) ∧ W.cell? ⟨w.heap.size + 1, 4, none⟩ = some (.slice b.oA b.os.length b.oc))) := Lib.hid fun W hW => ⟨(HQa.out W hW).cell_at 4 rfl, (HQc.out W hW).cell_at 4 rfl⟩
  have F5 : Hid (∀ W, Q W → (W.cell? ⟨w.heap.size, 5, none⟩ = some (.slice a.nA a.ns.length a.nc) ∧ W.cell? ⟨w.heap.size + 1, 5, none⟩ = some (.slice b.nA b.ns.length b.nc))) := Lib.hid fun W hW => ⟨(HQa.out W hW).cell_at 5 rfl, (HQc.out W hW).cell_at 5 rfl⟩
  have n0 : (a.id != b.id) = !e0 := by rw [← h0]; rfl
  have n4 : (a.st != b.st) = !e4 := by rw [← h4]; rfl
  have n5 : (a.gone != b.gone) = !e5 := by rw [← h5]; rfl
  have n7 : (a.op != b.op) = !e7 := by rw [← h7]; rfl
  have n8 : (a.tm != b.tm) = !e8 := by rw [← h8]; rfl
  have n9 : (a.sh != b.sh) = !e9 := by rw [← h9]; rfl
  have q7 : (!(a.op == b.op)) = !e7 := by rw [h7]
  have q9 : (!(a.sh == b.sh)) = !e9 := by rw [h9]
  have H2 := Lib.hid (And.intro h7 (And.intro h8 (And.intro h9 (And.intro n7 (And.intro n8 (And.intro n9 (And.intro q7 q9)))))))
  clear hr ha hb hW0 h1 h2 h3 h6 h7 h8 h9 n7 n8 n9 q7 q9
  go_enter Try.func23, Try.ntmps23
  go_upto_region 1 with (fail)
  rw [HW0.out]
  clear HW0
  obtain ⟨⟨x0, y0⟩, ⟨x6, y6⟩, ⟨x7, y7⟩, ⟨x8, y8⟩, ⟨x9, y9⟩, ⟨x10, y10⟩, ⟨x11, y11⟩, ⟨x12, y12⟩, ⟨x13, y13⟩, ⟨x14, y14⟩, ⟨x15, y15⟩, ⟨x16, y16⟩, ⟨x17, y17⟩, ⟨x18, y18⟩, ⟨x19, y19⟩⟩ := F1.out _ hq
  cases e0
  · go_wp2_with fail
    go_ret
    exact ⟨ret_bool (by rw [← HR.out]; simp), HQb.out _ hq⟩
  cases e4
  · go_wp2_with fail
    go_ret
    exact ⟨ret_bool (by rw [← HR.out]; simp), HQb.out _ hq⟩
  cases e5
  · go_wp2_with fail
    go_ret
    exact ⟨ret_bool (by rw [← HR.out]; simp), HQb.out _ hq⟩
  cases e6
  · go_wp2_with fail
    go_ret
    exact ⟨ret_bool (by rw [← HR.out]; simp), HQb.out _ hq⟩
  go_upto_region 3 with (fail)
  clear x0 y0 x6 y6 x7 y7 x8 y8 x9 y9 x10 y10 x11 y11 x12 y12 x13 y13 x14 y14 x15 y15 x16 y16 x17 y17 x18 y18 x19 y19
  clear h0 h4 h5 n0 n4 n5 hwas F1
  obtain ⟨h7, h8, h9, n7, n8, n9, q7, q9⟩ := H2.out
  obtain ⟨⟨x20, y20⟩, ⟨x21, y21⟩, ⟨x22, y22⟩⟩ := F2.out _ hq
  cases e7
  · go_wp2_with fail
    go_ret
    exact ⟨ret_bool (by rw [← HR.out]; simp), HQb.out _ hq⟩
  cases e8
  · go_wp2_with fail
    go_ret
    exact ⟨ret_bool (by rw [← HR.out]; simp), HQb.out _ hq⟩
  cases e9
  · go_wp2_with fail
    go_ret
    exact ⟨ret_bool (by rw [← HR.out]; simp), HQb.out _ hq⟩
  go_upto_region 5 with (fail)
  clear x20 y20 x21 y21 x22 y22
  clear h7 h8 h9 n7 n8 n9 q7 q9 H2 F2
  obtain ⟨⟨x1, y1⟩, ⟨x2, y2⟩, ⟨x3, y3⟩⟩ := F3.out _ hq
  have K1 := Lib.hid (KP.out _ hq e1 HH.out.1)
  go_wp2_with fail
  refine K1.out.mono ?_
  clear K1
  rintro e w1 ⟨rfl, hB1⟩
  replace hq := HQ.out _ _ hq hB1
  clear hB1 x1 y1 x2 y2 x3 y3
  cases e1
  · go_wp2_with fail
    go_ret
    exact ⟨ret_bool (by rw [← HR.out]; simp), HQb.out _ hq⟩
  obtain ⟨x4, y4⟩ := F4.out _ hq
  have K1 := Lib.hid (KO.out _ hq e2 HH.out.2.1)
  go_wp2_with fail
  refine K1.out.mono ?_
  clear K1
  rintro e w2 ⟨rfl, hq⟩
  clear x4 y4
  cases e2
  · go_wp2_with fail
    go_ret
    exact ⟨ret_bool (by rw [← HR.out]; simp), HQb.out _ hq⟩
  obtain ⟨x5, y5⟩ := F5.out _ hq
  have K1 := Lib.hid (KN.out _ hq e3 HH.out.2.2)
  go_wp2_with fail
  refine K1.out.mono ?_
  clear K1
  rintro e w3 ⟨rfl, hq⟩
  go_wp2_with fail
  go_ret
  exact ⟨ret_bool (by rw [← HR.out]; simp), HQb.out _ hq⟩

end Go.Proofs.Ytljpiafopbfdlaa
