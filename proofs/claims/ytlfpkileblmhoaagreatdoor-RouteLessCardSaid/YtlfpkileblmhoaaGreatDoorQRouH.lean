/- Package route: Check, Is. -/
import Derived.Test.YtlfpkileblmhoaaGreatDoorQRouF
namespace Go.Proofs.YtlfpkileblmhoaaGreatDoor
open Go.RowKit Go.Shelf
set_option linter.unusedVariables false
set_option linter.unusedSimpArgs false

theorem keep_lp (l : Lay) (p : Pth) (w : World) : ∃ Q : World → Prop, Hid (Closed Q) ∧ Hid (∀ W, Q W → Below w.heap.size w W) ∧ Hid (∀ W, Q W → Whole W w.heap.size 29 l.cells) ∧ Hid (∀ W, Q W → Whole W (w.heap.size + 1) 32 p.cells) ∧ Q ((w.alloc (.cells l.cells.toArray 29)).alloc (.cells p.cells.toArray 32)) :=
  ⟨fun W => Below w.heap.size w W ∧ Whole W w.heap.size 29 l.cells ∧ Whole W (w.heap.size + 1) 32 p.cells, Lib.hid ((Closed.below w).and ((Closed.whole _ _ _).and (Closed.whole _ _ _))), Lib.hid fun _ h => h.1, Lib.hid fun _ h => h.2.1, Lib.hid fun _ h => h.2.2, below2 w _ _, (Whole.new w _ l.cells).alloc _, Whole.new_at _ _ p.cells _ (by simp)⟩
set_option maxRecDepth 100000 in
set_option maxHeartbeats 8000000 in
theorem check11_any {l : Lay} {p : Pth} {vs : List Int} {A : Option Addr} {c : Nat} {w : World} (hT : Shapes w) (hL : Lies l w) (hp : PLies p w) (hR : Row w w.heap.size A (nums .i64 vs)) (hcap : vs.length ≤ c) (hn : (vs.length : Int) ≤ 9223372036854775807) {r : Int} (hr : check11 l p vs = r) : Calls Tryz.prog 10 #[l.val, p.val, .slice A vs.length c] w fun e w' => e = .returned (.int .i64 r) ∧ Below w.heap.size w w' := by
  obtain ⟨Q, HQ, HQb, HQl, HQp, hq⟩ := keep_lp l p w
  have HTW : Hid (∀ W, Q W → Shapes W ∧ Lies l W) := Lib.hid fun W hW => ⟨Shapes.closed _ _ hT (HQb.out W hW), Lies.closed l _ _ hL (HQb.out W hW)⟩
  have HPW : Hid (∀ W, Q W → PLies p W ∧ Row W W.heap.size A (nums .i64 vs)) := Lib.hid fun W hW => ⟨PLies.closed p _ _ hp (HQb.out W hW), hR.on (HQb.out W hW)⟩
  obtain ⟨rt, hrt⟩ : ∃ b, rightT l = b := ⟨_, rfl⟩
  obtain ⟨kn, hkn⟩ : ∃ b, knownV l p = b := ⟨_, rfl⟩
  obtain ⟨vi, hvi⟩ : ∃ b, viasV l vs = b := ⟨_, rfl⟩
  obtain ⟨ip, hip⟩ : ∃ b, isPathV l p = b := ⟨_, rfl⟩
  obtain ⟨th, hth⟩ : ∃ b, throughV (secsS p.ss) vs = b := ⟨_, rfl⟩
  have HR : Hid ((if (rt && (kn && vi)) = true then (if (ip && th) = true then 0 else 110) else 2) = r) := Lib.hid (by rw [← hr, ← hrt, ← hkn, ← hvi, ← hip, ← hth]; rfl)
  have KR := Lib.hid (fun W hW => keepR HQ.out (rightT_any (w := W) (HTW.out W hW).1 (HTW.out W hW).2 hrt) hW)
  have KK := Lib.hid (fun W hW => keepR HQ.out (endsKnown_any (w := W) hkn) hW)
  have KV := Lib.hid (fun W hW => keepR HQ.out (viasRight_any (w := W) c (HPW.out W hW).2 hn hvi) hW)
  have KT := Lib.hid (fun W hW => keepR HQ.out (through11_any (w := W) (HPW.out W hW).1 (HPW.out W hW).2 hcap hn hth) hW)
  have HRT := Lib.hid hrt
  have HKN := Lib.hid hkn
  have HIP := Lib.hid hip
  clear hT hL hp hR hr hrt hkn hvi hip hth
  go_enter Tryz.func10, Tryz.ntmps10
  have m0 := HQl.out _ hq
  have x0 := m0.cell_at 0 rfl
  have x1 := m0.cell_at 1 rfl
  have x2 := m0.cell_at 2 rfl
  have x3 := m0.cell_at 3 rfl
  have x4 := m0.cell_at 4 rfl
  have x5 := m0.cell_at 5 rfl
  have x6 := m0.cell_at 6 rfl
  have x7 := m0.cell_at 7 rfl
  have x8 := m0.cell_at 8 rfl
  have x9 := m0.cell_at 9 rfl
  have x10 := m0.cell_at 10 rfl
  clear m0
  have m0 := HQp.out _ hq
  have y0 := m0.cell_at 0 rfl
  have y1 := m0.cell_at 1 rfl
  have y2 := m0.cell_at 2 rfl
  clear m0
  go_wp2_with fail
  refine (KR.out _ hq).mono ?_
  clear hq x0 x1 x2 x3 x4 x5 x6 x7 x8 x9 x10 y0 y1 y2
  rintro e w1 ⟨rfl, hq⟩
  cases rt
  · have HF : Hid (2 = r) := Lib.hid (by rw [← HR.out]; rfl)
    go_wp2_with fail
    go_ret
    exact ⟨ret_int HF.out, HQb.out _ hq⟩
  have m0 := HQl.out _ hq
  have x0 := m0.cell_at 0 rfl
  have x1 := m0.cell_at 1 rfl
  have x2 := m0.cell_at 2 rfl
  have x3 := m0.cell_at 3 rfl
  have x4 := m0.cell_at 4 rfl
  have x5 := m0.cell_at 5 rfl
  have x6 := m0.cell_at 6 rfl
  have x7 := m0.cell_at 7 rfl
  have x8 := m0.cell_at 8 rfl
  have x9 := m0.cell_at 9 rfl
  have x10 := m0.cell_at 10 rfl
  clear m0
  have m0 := HQp.out _ hq
  have y0 := m0.cell_at 0 rfl
  have y1 := m0.cell_at 1 rfl
  have y2 := m0.cell_at 2 rfl
  clear m0
  go_wp2_with fail
  refine (KK.out _ hq).mono ?_
  clear hq x0 x1 x2 x3 x4 x5 x6 x7 x8 x9 x10 y0 y1 y2
  rintro e w2 ⟨rfl, hq⟩
  cases kn
  · have HF : Hid (2 = r) := Lib.hid (by rw [← HR.out]; rfl)
    go_wp2_with fail
    go_ret
    exact ⟨ret_int HF.out, HQb.out _ hq⟩
  have m0 := HQl.out _ hq
  have x0 := m0.cell_at 0 rfl
  have x1 := m0.cell_at 1 rfl
  have x2 := m0.cell_at 2 rfl
  have x3 := m0.cell_at 3 rfl
  have x4 := m0.cell_at 4 rfl
  have x5 := m0.cell_at 5 rfl
  have x6 := m0.cell_at 6 rfl
  have x7 := m0.cell_at 7 rfl
  have x8 := m0.cell_at 8 rfl
  have x9 := m0.cell_at 9 rfl
  have x10 := m0.cell_at 10 rfl
  clear m0
  have m0 := HQp.out _ hq
  have y0 := m0.cell_at 0 rfl
  have y1 := m0.cell_at 1 rfl
  have y2 := m0.cell_at 2 rfl
  clear m0
  go_wp2_with fail
  refine (KV.out _ hq).mono ?_
  clear hq x0 x1 x2 x3 x4 x5 x6 x7 x8 x9 x10 y0 y1 y2
  rintro e w3 ⟨rfl, hq⟩
  cases vi
  · have HF : Hid (2 = r) := Lib.hid (by rw [← HR.out]; rfl)
    go_wp2_with fail
    go_ret
    exact ⟨ret_int HF.out, HQb.out _ hq⟩
  have KP := Lib.hid (fun W hW => keepR HQ.out (isPath_any (w := W) (HTW.out W hW).1 (HTW.out W hW).2 (HPW.out W hW).1 HRT.out HKN.out HIP.out) hW)
  have m0 := HQl.out _ hq
  have x0 := m0.cell_at 0 rfl
  have x1 := m0.cell_at 1 rfl
  have x2 := m0.cell_at 2 rfl
  have x3 := m0.cell_at 3 rfl
  have x4 := m0.cell_at 4 rfl
  have x5 := m0.cell_at 5 rfl
  have x6 := m0.cell_at 6 rfl
  have x7 := m0.cell_at 7 rfl
  have x8 := m0.cell_at 8 rfl
  have x9 := m0.cell_at 9 rfl
  have x10 := m0.cell_at 10 rfl
  clear m0
  have m0 := HQp.out _ hq
  have y0 := m0.cell_at 0 rfl
  have y1 := m0.cell_at 1 rfl
  have y2 := m0.cell_at 2 rfl
  clear m0
  go_wp2_with fail
  refine (KP.out _ hq).mono ?_
  clear hq x0 x1 x2 x3 x4 x5 x6 x7 x8 x9 x10 y0 y1 y2
  rintro e w4 ⟨rfl, hq⟩
  cases ip
  · have HF : Hid (110 = r) := Lib.hid (by rw [← HR.out]; rfl)
    go_wp2_with fail
    go_ret
    exact ⟨ret_int HF.out, HQb.out _ hq⟩
  have m0 := HQl.out _ hq
  have x0 := m0.cell_at 0 rfl
  have x1 := m0.cell_at 1 rfl
  have x2 := m0.cell_at 2 rfl
  have x3 := m0.cell_at 3 rfl
  have x4 := m0.cell_at 4 rfl
  have x5 := m0.cell_at 5 rfl
  have x6 := m0.cell_at 6 rfl
  have x7 := m0.cell_at 7 rfl
  have x8 := m0.cell_at 8 rfl
  have x9 := m0.cell_at 9 rfl
  have x10 := m0.cell_at 10 rfl
  clear m0
  have m0 := HQp.out _ hq
  have y0 := m0.cell_at 0 rfl
  have y1 := m0.cell_at 1 rfl
  have y2 := m0.cell_at 2 rfl
  clear m0
  go_wp2_with fail
  refine (KT.out _ hq).mono ?_
  clear hq x0 x1 x2 x3 x4 x5 x6 x7 x8 x9 x10 y0 y1 y2
  rintro e w5 ⟨rfl, hq⟩
  cases th
  · have HF : Hid (110 = r) := Lib.hid (by rw [← HR.out]; rfl)
    go_wp2_with fail
    go_ret
    exact ⟨ret_int HF.out, HQb.out _ hq⟩
  have HF : Hid (0 = r) := Lib.hid (by rw [← HR.out]; rfl)
  go_wp2_with fail
  go_ret
  exact ⟨ret_int HF.out, HQb.out _ hq⟩

set_option maxRecDepth 100000 in
set_option maxHeartbeats 8000000 in
theorem is11_any {l : Lay} {p : Pth} {vs : List Int} {A : Option Addr} {c : Nat} {w : World} (hT : Shapes w) (hL : Lies l w) (hp : PLies p w) (hR : Row w w.heap.size A (nums .i64 vs)) (hcap : vs.length ≤ c) (hn : (vs.length : Int) ≤ 9223372036854775807) {r : Bool} (hr : (check11 l p vs == 0) = r) : Calls Tryz.prog 12 #[l.val, p.val, .slice A vs.length c] w fun e w' => e = .returned (.bool r) ∧ Below w.heap.size w w' := by
  obtain ⟨Q, HQ, HQb, HQl, HQp, hq⟩ := keep_lp l p w
  obtain ⟨k, hk⟩ : ∃ k, check11 l p vs = k := ⟨_, rfl⟩
  have KC := Lib.hid (fun W hW => keepR HQ.out (check11_any (w := W) (Shapes.closed _ _ hT (HQb.out W hW)) (Lies.closed l _ _ hL (HQb.out W hW)) (PLies.closed p _ _ hp (HQb.out W hW)) (hR.on (HQb.out W hW)) hcap hn hk) hW)
  have HF : Hid ((k == 0) = r) := Lib.hid (by rw [← hr, ← hk])
  clear hr hk hT hL hp hR
  go_enter Tryz.func12, Tryz.ntmps12
  have m0 := HQl.out _ hq
  have x0 := m0.cell_at 0 rfl
  have x1 := m0.cell_at 1 rfl
  have x2 := m0.cell_at 2 rfl
  have x3 := m0.cell_at 3 rfl
  have x4 := m0.cell_at 4 rfl
  have x5 := m0.cell_at 5 rfl
  have x6 := m0.cell_at 6 rfl
  have x7 := m0.cell_at 7 rfl
  have x8 := m0.cell_at 8 rfl
  have x9 := m0.cell_at 9 rfl
  have x10 := m0.cell_at 10 rfl
  clear m0
  have m0 := HQp.out _ hq
  have y0 := m0.cell_at 0 rfl
  have y1 := m0.cell_at 1 rfl
  have y2 := m0.cell_at 2 rfl
  clear m0
  go_wp2_with fail
  refine (KC.out _ hq).mono ?_
  clear hq x0 x1 x2 x3 x4 x5 x6 x7 x8 x9 x10 y0 y1 y2
  rintro e w1 ⟨rfl, hq⟩
  go_wp2_with fail
  go_ret
  exact ⟨ret_bool HF.out, HQb.out _ hq⟩

end Go.Proofs.YtlfpkileblmhoaaGreatDoor
