/- The document's own layer 10: there, Point, Class, Next, Rear. -/
import Derived.Test.YthjnhigcheakaaaDoorQBeP
import Derived.Test.YthjnhigcheakaaaDoorQC
import Derived.Test.YthjnhigcheakaaaDoorQJoinA
import Derived.Test.YthjnhigcheakaaaDoorQD
namespace Go.Proofs.YthjnhigcheakaaaDoor
open Go.RowKit Go.Shelf
set_option linter.unusedVariables false
set_option linter.unusedSimpArgs false

set_option maxRecDepth 100000 in
set_option maxHeartbeats 8000000 in
theorem endR_any (w : World) : Calls Tryd.prog 40 #[] w fun e w' => e = .returned (prtV (-1) 0) ∧ Below w.heap.size w w' := by
  have hp := below1 w (.cells #[.int .i64 (-1), .int .i64 0] 33)
  have hW := Whole.new w 33 [.int .i64 (-1), .int .i64 0]
  have e0 := hW.cell_at 0 rfl
  have e1 := hW.cell_at 1 rfl
  clear hW
  go_enter Tryd.func40, Tryd.ntmps40
  go_wp2_with fail
  refine bodyPost_ret (v := prtV (-1) 0) ?_ rfl ⟨rfl, hp⟩
  simp [results, Tryd.f40, go_sem, e0, e1]

set_option maxRecDepth 100000 in
set_option maxHeartbeats 8000000 in
theorem there10_any {l : Lay} {w : World} (hL : Lies l w) (s i o : Int) {r : Bool} (hr : stepV l s i o = r) : Calls Tryd.prog 34 #[l.val, stpV s i o] w fun e w' => e = .returned (.bool r) ∧ Below w.heap.size w w' := by
  obtain ⟨Q, HQ, HQb, HQl, HQv, hq⟩ := keep_box2 (Closed.below w) (Below.refl _ w) 29 31 l.cells (stpCells (s, i, o))
  have KS := Lib.hid (fun W hW => keepR HQ.out (stepR_B (w := W) (Lies.closed l _ _ hL (HQb.out W hW)) s i o rfl hr) hW)
  generalize wayK (kindV l s) i o = v at *
  clear hL hr
  have hW := hq
  have m0 := HQl.out _ hW
  have x0 := m0.cell_at 0 rfl
  have x1 := m0.cell_at 1 rfl
  have x2 := m0.cell_at 2 rfl
  have x3 := m0.cell_at 3 rfl
  have x4 := m0.cell_at 4 rfl
  have x5 := m0.cell_at 5 rfl
  have x6 := m0.cell_at 6 rfl
  have x7 := m0.cell_at 7 rfl
  have x8 := m0.cell_at 8 rfl
  have x9 := m0.cell_at 9 rfl
  have x10 := m0.cell_at 10 rfl
  clear m0
  have m1 := HQv.out _ hW
  have v0 := m1.cell_at 0 rfl
  have v1 := m1.cell_at 1 rfl
  have v2 := m1.cell_at 2 rfl
  clear m1
  clear hW
  go_enter Tryd.func34, Tryd.ntmps34
  go_wp2_with fail
  refine (KS.out _ hq).mono ?_
  clear x0 x1 x2 x3 x4 x5 x6 x7 x8 x9 x10 v0 v1 v2 hq
  rintro e w1 ⟨rfl, hq⟩
  go_wp2_with fail
  go_ret
  exact ⟨rfl, HQb.out _ hq⟩

set_option maxRecDepth 100000 in
set_option maxHeartbeats 8000000 in
theorem pointR_any {l : Lay} {w : World} (hL : Lies l w) (s i o : Int) {r : Int × Int × Bool} (hr : pointV l s i o = r) : Calls Tryd.prog 11 #[l.val, stpV s i o] w fun e w' => e = .returned (.tuple #[.int .i64 r.1, .int .i64 r.2.1, .bool r.2.2]) ∧ Below w.heap.size w w' := by
  subst hr
  obtain ⟨Q, HQ, HQb, HQl, HQv, hq⟩ := keep_box2 (Closed.below w) (Below.refl _ w) 29 31 l.cells (stpCells (s, i, o))
  have HTW : Hid (∀ W, Q W → Lies l W) := Lib.hid fun W hW => Lies.closed l _ _ hL (HQb.out W hW)
  rcases point_cases l s i o with ⟨h1, h2⟩ | ⟨j, y, rfl, hy, h1, hk, h2⟩ | ⟨j, y, rfl, hy, h1, hk, hg, h2⟩
  · rw [h2]
    have KS := Lib.hid (fun W hW => keepR HQ.out (there10_any (w := W) (HTW.out W hW) s i o h1) hW)
    clear hL h1 h2
    have hW := hq
    have m0 := HQl.out _ hW
    have x0 := m0.cell_at 0 rfl
    have x1 := m0.cell_at 1 rfl
    have x2 := m0.cell_at 2 rfl
    have x3 := m0.cell_at 3 rfl
    have x4 := m0.cell_at 4 rfl
    have x5 := m0.cell_at 5 rfl
    have x6 := m0.cell_at 6 rfl
    have x7 := m0.cell_at 7 rfl
    have x8 := m0.cell_at 8 rfl
    have x9 := m0.cell_at 9 rfl
    have x10 := m0.cell_at 10 rfl
    clear m0
    have m1 := HQv.out _ hW
    have v0 := m1.cell_at 0 rfl
    have v1 := m1.cell_at 1 rfl
    have v2 := m1.cell_at 2 rfl
    clear m1
    clear hW
    go_enter Tryd.func11, Tryd.ntmps11
    go_wp2_with fail
    refine (KS.out _ hq).mono ?_
    clear x0 x1 x2 x3 x4 x5 x6 x7 x8 x9 x10 v0 v1 v2 hq
    rintro e w1 ⟨rfl, hq⟩
    go_wp2_with fail
    refine bodyPost_ret (v := .tuple #[.int .i64 0, .int .i64 0, .bool false]) (by simp [results, Tryd.f11, go_sem]) rfl ⟨rfl, HQb.out _ hq⟩
  · rw [h2]
    have KS := Lib.hid (fun W hW => keepR HQ.out (there10_any (w := W) (HTW.out W hW) j i o h1) hW)
    have HC : Hid (∃ b off, l.As = some ⟨b, off, none⟩ ∧ ∀ W, Q W → ∀ (k : Nat) (v : Value), y.cells[k]? = some v → W.cell? ⟨b, off + j * 11 + k, none⟩ = some v) := Lib.hid (by
      obtain ⟨b, off, hA, _, hc0, hc⟩ := (HTW.out _ hq).secs.nth (n := 11) Sec.len (by omega) hy
      refine ⟨b, off, hA, fun W hW => ?_⟩
      obtain ⟨b', off', hA', _, hc0, hc⟩ := (HTW.out _ hW).secs.nth (n := 11) Sec.len (by omega) hy
      rw [hA] at hA'
      cases hA'
      exact fun k v hv => hc j y k v hy hv)
    obtain ⟨b, off, hA, hC⟩ := HC.out
    have hlt : (j : Int) < l.secs.length := by have := (List.getElem?_eq_some_iff.1 hy).1; omega
    have HCC := Lib.hid hC
    have HA := Lib.hid hA
    have hk2 : (y.k != 2) = true := by simp [hk]
    clear hL h1 h2 hC hA hy hk HC
    have hW := hq
    have m0 := HQl.out _ hW
    have x0 := m0.cell_at 0 rfl
    have x1 := m0.cell_at 1 rfl
    have x2 := m0.cell_at 2 rfl
    have x3 := m0.cell_at 3 rfl
    have x4 := m0.cell_at 4 rfl
    have x5 := m0.cell_at 5 rfl
    have x6 := m0.cell_at 6 rfl
    have x7 := m0.cell_at 7 rfl
    have x8 := m0.cell_at 8 rfl
    have x9 := m0.cell_at 9 rfl
    have x10 := m0.cell_at 10 rfl
    clear m0
    have m1 := HQv.out _ hW
    have v0 := m1.cell_at 0 rfl
    have v1 := m1.cell_at 1 rfl
    have v2 := m1.cell_at 2 rfl
    clear m1
    clear hW
    go_enter Tryd.func11, Tryd.ntmps11
    go_wp2_with fail
    refine (KS.out _ hq).mono ?_
    clear x0 x1 x2 x3 x4 x5 x6 x7 x8 x9 x10 v0 v1 v2 hq
    rintro e w1 ⟨rfl, hq⟩
    have x0 := (HQl.out _ hq).cell_at 0 rfl
    have v0 := (HQv.out _ hq).cell_at 0 rfl
    have c0 := HCC.out _ hq 0 _ rfl
    simp only [Nat.add_zero] at c0
    rw [HA.out] at x0
    go_wp2_with fail
    refine bodyPost_ret (v := .tuple #[.int .i64 0, .int .i64 0, .bool false]) (by simp [results, Tryd.f11, go_sem]) rfl ⟨rfl, HQb.out _ hq⟩
  · rw [h2]
    have KS := Lib.hid (fun W hW => keepR HQ.out (there10_any (w := W) (HTW.out W hW) j i o h1) hW)
    have HC : Hid (∃ b off, l.As = some ⟨b, off, none⟩ ∧ ∀ W, Q W → ∀ (k : Nat) (v : Value), y.cells[k]? = some v → W.cell? ⟨b, off + j * 11 + k, none⟩ = some v) := Lib.hid (by
      obtain ⟨b, off, hA, _, hc0, hc⟩ := (HTW.out _ hq).secs.nth (n := 11) Sec.len (by omega) hy
      refine ⟨b, off, hA, fun W hW => ?_⟩
      obtain ⟨b', off', hA', _, hc0, hc⟩ := (HTW.out _ hW).secs.nth (n := 11) Sec.len (by omega) hy
      rw [hA] at hA'
      cases hA'
      exact fun k v hv => hc j y k v hy hv)
    obtain ⟨b, off, hA, hC⟩ := HC.out
    have hlt : (j : Int) < l.secs.length := by have := (List.getElem?_eq_some_iff.1 hy).1; omega
    have HCC := Lib.hid hC
    have HA := Lib.hid hA
    have HK := Lib.hid hk
    have KP := Lib.hid (fun W hW => posR_P (P := Q) (w := W) i o (shapeK 2) (pos_two hg) hg hW)
    generalize wayK 2 i o = wv at *
    clear hL h1 h2 hC hA hy hk HC hg
    have hW := hq
    have m0 := HQl.out _ hW
    have x0 := m0.cell_at 0 rfl
    have x1 := m0.cell_at 1 rfl
    have x2 := m0.cell_at 2 rfl
    have x3 := m0.cell_at 3 rfl
    have x4 := m0.cell_at 4 rfl
    have x5 := m0.cell_at 5 rfl
    have x6 := m0.cell_at 6 rfl
    have x7 := m0.cell_at 7 rfl
    have x8 := m0.cell_at 8 rfl
    have x9 := m0.cell_at 9 rfl
    have x10 := m0.cell_at 10 rfl
    clear m0
    have m1 := HQv.out _ hW
    have v0 := m1.cell_at 0 rfl
    have v1 := m1.cell_at 1 rfl
    have v2 := m1.cell_at 2 rfl
    clear m1
    clear hW
    go_enter Tryd.func11, Tryd.ntmps11
    go_wp2_with fail
    refine (KS.out _ hq).mono ?_
    clear x0 x1 x2 x3 x4 x5 x6 x7 x8 x9 x10 v0 v1 v2 hq
    rintro e w1 ⟨rfl, hq⟩
    have x0 := (HQl.out _ hq).cell_at 0 rfl
    have v0 := (HQv.out _ hq).cell_at 0 rfl
    have c0 := HCC.out _ hq 0 _ rfl
    simp only [Nat.add_zero] at c0
    rw [HA.out] at x0
    rw [HK.out] at c0
    have v1 := (HQv.out _ hq).cell_at 1 rfl
    have v2 := (HQv.out _ hq).cell_at 2 rfl
    go_wp2_with fail
    refine (KP.out _ hq).mono ?_
    clear x0 v0 v1 v2 c0 hq
    rintro e w2 ⟨rfl, hq⟩
    have v0 := (HQv.out _ hq).cell_at 0 rfl
    go_wp2_with fail
    refine bodyPost_ret (v := .tuple #[.int .i64 (j : Int), .int .i64 wv, .bool true]) (by simp [results, Tryd.f11, go_sem]) rfl ⟨rfl, HQb.out _ hq⟩

set_option maxRecDepth 100000 in
set_option maxHeartbeats 8000000 in
theorem classR_any {l : Lay} {w : World} (hL : Lies l w) (s i o : Int) {r : Int} (hr : classV l s i o = r) : Calls Tryd.prog 16 #[l.val, stpV s i o] w fun e w' => e = .returned (.int .i64 r) ∧ Below w.heap.size w w' := by
  subst hr
  obtain ⟨Q, HQ, HQb, HQl, HQv, hq⟩ := keep_box2 (Closed.below w) (Below.refl _ w) 29 31 l.cells (stpCells (s, i, o))
  have HTW : Hid (∀ W, Q W → Lies l W) := Lib.hid fun W hW => Lies.closed l _ _ hL (HQb.out W hW)
  rcases class_cases l s i o with ⟨h1, h2⟩ | ⟨j, y, e, rfl, hy, h1, hw, he, h2⟩
  · rw [h2]
    have KS := Lib.hid (fun W hW => keepR HQ.out (stepR_B (w := W) (HTW.out W hW) s i o rfl h1) hW)
    generalize wayK (kindV l s) i o = v at *
    clear hL h1 h2
    have hW := hq
    have m0 := HQl.out _ hW
    have x0 := m0.cell_at 0 rfl
    have x1 := m0.cell_at 1 rfl
    have x2 := m0.cell_at 2 rfl
    have x3 := m0.cell_at 3 rfl
    have x4 := m0.cell_at 4 rfl
    have x5 := m0.cell_at 5 rfl
    have x6 := m0.cell_at 6 rfl
    have x7 := m0.cell_at 7 rfl
    have x8 := m0.cell_at 8 rfl
    have x9 := m0.cell_at 9 rfl
    have x10 := m0.cell_at 10 rfl
    clear m0
    have m1 := HQv.out _ hW
    have v0 := m1.cell_at 0 rfl
    have v1 := m1.cell_at 1 rfl
    have v2 := m1.cell_at 2 rfl
    clear m1
    clear hW
    go_enter Tryd.func16, Tryd.ntmps16
    go_wp2_with fail
    refine (KS.out _ hq).mono ?_
    clear x0 x1 x2 x3 x4 x5 x6 x7 x8 x9 x10 v0 v1 v2 hq
    rintro e w1 ⟨rfl, hq⟩
    go_wp2_with fail
    go_ret
    exact ⟨rfl, HQb.out _ hq⟩
  · generalize classV l j i o = r at *
    have KS := Lib.hid (fun W hW => keepR HQ.out (stepR_B (w := W) (HTW.out W hW) j i o hw h1) hW)
    have HC : Hid (∃ b off, l.As = some ⟨b, off, none⟩ ∧ ∀ W, Q W → ∀ (k : Nat) (v : Value), y.cells[k]? = some v → W.cell? ⟨b, off + j * 11 + k, none⟩ = some v) := Lib.hid (by
      obtain ⟨b, off, hA, _, hc0, hc⟩ := (HTW.out _ hq).secs.nth (n := 11) Sec.len (by omega) hy
      refine ⟨b, off, hA, fun W hW => ?_⟩
      obtain ⟨b', off', hA', _, hc0, hc⟩ := (HTW.out _ hW).secs.nth (n := 11) Sec.len (by omega) hy
      rw [hA] at hA'
      cases hA'
      exact fun k v hv => hc j y k v hy hv)
    obtain ⟨b, off, hA, hC⟩ := HC.out
    have hlt : (j : Int) < l.secs.length := by have := (List.getElem?_eq_some_iff.1 hy).1; omega
    have HCC := Lib.hid hC
    have HA := Lib.hid hA
    have HCL : Hid (∀ W, Q W → W.cell? ⟨b, off + j * 11 + 9 + e, none⟩ = some (.int .i64 r)) := Lib.hid (fun W hW => by
      match e, he, h2 with
      | 0, _, h2 => cases h2; exact HCC.out W hW 9 _ rfl
      | 1, _, h2 => cases h2; exact HCC.out W hW 10 _ rfl)
    have he' : (e : Int) < 2 := by omega
    clear hL h1 h2 hC hA hy HC hw
    have hW := hq
    have m0 := HQl.out _ hW
    have x0 := m0.cell_at 0 rfl
    have x1 := m0.cell_at 1 rfl
    have x2 := m0.cell_at 2 rfl
    have x3 := m0.cell_at 3 rfl
    have x4 := m0.cell_at 4 rfl
    have x5 := m0.cell_at 5 rfl
    have x6 := m0.cell_at 6 rfl
    have x7 := m0.cell_at 7 rfl
    have x8 := m0.cell_at 8 rfl
    have x9 := m0.cell_at 9 rfl
    have x10 := m0.cell_at 10 rfl
    clear m0
    have m1 := HQv.out _ hW
    have v0 := m1.cell_at 0 rfl
    have v1 := m1.cell_at 1 rfl
    have v2 := m1.cell_at 2 rfl
    clear m1
    clear hW
    go_enter Tryd.func16, Tryd.ntmps16
    go_wp2_with fail
    refine (KS.out _ hq).mono ?_
    clear x0 x1 x2 x3 x4 x5 x6 x7 x8 x9 x10 v0 v1 v2 hq
    rintro e w1 ⟨rfl, hq⟩
    have x0 := (HQl.out _ hq).cell_at 0 rfl
    have v0 := (HQv.out _ hq).cell_at 0 rfl
    have c0 := HCL.out _ hq
    rw [HA.out] at x0
    go_wp2_with fail
    go_ret
    exact ⟨rfl, HQb.out _ hq⟩

set_option maxRecDepth 100000 in
set_option maxHeartbeats 8000000 in
theorem nextR_any {l : Lay} {w : World} (hL : Lies l w) (s i o : Int) {r : Int × Int} (hr : nextV l s i o = r) : Calls Tryd.prog 21 #[l.val, stpV s i o] w fun e w' => e = .returned (prtV r.1 r.2) ∧ Below w.heap.size w w' := by
  subst hr
  obtain ⟨Q, HQ, HQb0, HQl, HQv, HQr, HQb, hq⟩ := keep_box3 (Closed.below w) (Below.refl _ w) 29 31 33 l.cells (stpCells (s, i, o)) [.int .i64 0, .int .i64 0]
  have HTW : Hid (∀ W, Q W → Lies l W) := Lib.hid fun W hW => Lies.closed l _ _ hL (HQb.out W hW)
  have KN := Lib.hid (fun W hW => keepR HQ.out (endR_any W) hW)
  obtain ⟨r, h1⟩ : ∃ r, stepV l s i o = r := ⟨_, rfl⟩
  obtain ⟨⟨qs, qq⟩, hbv⟩ : ∃ q, beyondV l s o = q := ⟨_, rfl⟩
  have KB := Lib.hid (fun W hW => keepR HQ.out (beyondJ_B (w := W) (HTW.out W hW) s o hbv) hW)
  have KS := Lib.hid (fun W hW => keepR HQ.out (there10_any (w := W) (HTW.out W hW) s i o h1) hW)
  have HN : Hid (nextV l s i o = if r = true then (qs, qq) else (-1, 0)) := Lib.hid (by unfold nextV; rw [h1, hbv])
  generalize nextV l s i o = nx at *
  clear hL h1 hbv
  have hW := hq
  have m0 := HQl.out _ hW
  have x0 := m0.cell_at 0 rfl
  have x1 := m0.cell_at 1 rfl
  have x2 := m0.cell_at 2 rfl
  have x3 := m0.cell_at 3 rfl
  have x4 := m0.cell_at 4 rfl
  have x5 := m0.cell_at 5 rfl
  have x6 := m0.cell_at 6 rfl
  have x7 := m0.cell_at 7 rfl
  have x8 := m0.cell_at 8 rfl
  have x9 := m0.cell_at 9 rfl
  have x10 := m0.cell_at 10 rfl
  clear m0
  have m1 := HQv.out _ hW
  have v0 := m1.cell_at 0 rfl
  have v1 := m1.cell_at 1 rfl
  have v2 := m1.cell_at 2 rfl
  clear m1
  clear hW
  go_enter Tryd.func21, Tryd.ntmps21
  go_wp2_with fail
  refine (KS.out _ hq).mono ?_
  clear x0 x1 x2 x3 x4 x5 x6 x7 x8 x9 x10 v0 v1 v2 hq
  rintro e w1 ⟨rfl, hq⟩
  cases r
  · have HN' : Hid (nx = (-1, 0)) := HN
    obtain rfl := HN'.out
    clear HN HN'
    go_wp2_with fail
    refine (KN.out _ hq).mono ?_
    clear KN hq
    rintro e w2 ⟨rfl, hq⟩
    have hr := HQr.out _ hq
    have f0 := hr.frozen 0
    have f1 := hr.frozen 1
    have z0 := hr.cell_at 0 rfl
    have z1 := hr.cell_at 1 rfl
    have hWo := (hr.set 0 (.int .i64 (-1))).set 1 (.int .i64 0)
    have hBo := ((HQb.out _ hq).setCell (p := ⟨w.heap.size + 1 + 1, 0, none⟩) (by show w.heap.size ≤ w.heap.size + 1 + 1; omega) (.int .i64 (-1))).setCell (p := ⟨w.heap.size + 1 + 1, 1, none⟩) (by show w.heap.size ≤ w.heap.size + 1 + 1; omega) (.int .i64 0)
    clear hr
    go_wp2_with fail
    have e0 := hWo.cell_at 0 rfl
    have e1 := hWo.cell_at 1 rfl
    refine bodyPost_ret (v := prtV (-1) 0) ?_ rfl ⟨rfl, hBo⟩
    simp [results, Tryd.f21, go_sem, e0, e1]
  · have HN' : Hid (nx = (qs, qq)) := HN
    obtain rfl := HN'.out
    clear HN HN'
    have hW := hq
    have m0 := HQl.out _ hW
    have x0 := m0.cell_at 0 rfl
    have x1 := m0.cell_at 1 rfl
    have x2 := m0.cell_at 2 rfl
    have x3 := m0.cell_at 3 rfl
    have x4 := m0.cell_at 4 rfl
    have x5 := m0.cell_at 5 rfl
    have x6 := m0.cell_at 6 rfl
    have x7 := m0.cell_at 7 rfl
    have x8 := m0.cell_at 8 rfl
    have x9 := m0.cell_at 9 rfl
    have x10 := m0.cell_at 10 rfl
    clear m0
    have m1 := HQv.out _ hW
    have v0 := m1.cell_at 0 rfl
    have v1 := m1.cell_at 1 rfl
    have v2 := m1.cell_at 2 rfl
    clear m1
    clear hW
    go_wp2_with fail
    refine (KB.out _ hq).mono ?_
    clear x0 x1 x2 x3 x4 x5 x6 x7 x8 x9 x10 v0 v1 v2 hq
    rintro e w2 ⟨rfl, hq⟩
    have hr := HQr.out _ hq
    have f0 := hr.frozen 0
    have f1 := hr.frozen 1
    have z0 := hr.cell_at 0 rfl
    have z1 := hr.cell_at 1 rfl
    have hWo := (hr.set 0 (.int .i64 qs)).set 1 (.int .i64 qq)
    have hBo := ((HQb.out _ hq).setCell (p := ⟨w.heap.size + 1 + 1, 0, none⟩) (by show w.heap.size ≤ w.heap.size + 1 + 1; omega) (.int .i64 qs)).setCell (p := ⟨w.heap.size + 1 + 1, 1, none⟩) (by show w.heap.size ≤ w.heap.size + 1 + 1; omega) (.int .i64 qq)
    clear hr
    go_wp2_with fail
    have e0 := hWo.cell_at 0 rfl
    have e1 := hWo.cell_at 1 rfl
    refine bodyPost_ret (v := prtV qs qq) ?_ rfl ⟨rfl, hBo⟩
    simp [results, Tryd.f21, go_sem, e0, e1]

set_option maxRecDepth 100000 in
set_option maxHeartbeats 8000000 in
theorem rearR_any {l : Lay} {w : World} (hL : Lies l w) (x : Int) {r : Int × Int} (hr : rearV l x = r) : Calls Tryd.prog 23 #[l.val, .int .i64 x] w fun e w' => e = .returned (prtV r.1 r.2) ∧ Below w.heap.size w w' := by
  subst hr
  obtain ⟨Q, HQ, HQb0, HQl, HQr, hq⟩ := keep_box2 (Closed.below w) (Below.refl _ w) 29 33 l.cells [.int .i64 0, .int .i64 0]
  have HQb := HQb0
  have HTW : Hid (∀ W, Q W → Lies l W) := Lib.hid fun W hW => Lies.closed l _ _ hL (HQb.out W hW)
  have KN := Lib.hid (fun W hW => keepR HQ.out (endR_any W) hW)
  rcases at_cases_n l.sigs x with h1 | ⟨h0, h1⟩ | ⟨j, ⟨y1, y2⟩, rfl, hy, hlt⟩
  · rw [rear_neg h1]
    have d1 := decide_eq_true h1
    clear hL
    have hW := hq
    have m0 := HQl.out _ hW
    have x0 := m0.cell_at 0 rfl
    have x1 := m0.cell_at 1 rfl
    have x2 := m0.cell_at 2 rfl
    have x3 := m0.cell_at 3 rfl
    have x4 := m0.cell_at 4 rfl
    have x5 := m0.cell_at 5 rfl
    have x6 := m0.cell_at 6 rfl
    have x7 := m0.cell_at 7 rfl
    have x8 := m0.cell_at 8 rfl
    have x9 := m0.cell_at 9 rfl
    have x10 := m0.cell_at 10 rfl
    clear m0
    clear hW
    go_enter Tryd.func23, Tryd.ntmps23
    go_wp2_with fail
    refine (KN.out _ hq).mono ?_
    clear x0 x1 x2 x3 x4 x5 x6 x7 x8 x9 x10 hq
    rintro e w1 ⟨rfl, hq⟩
    have hr := HQr.out _ hq
    have f0 := hr.frozen 0
    have f1 := hr.frozen 1
    have z0 := hr.cell_at 0 rfl
    have z1 := hr.cell_at 1 rfl
    have hWo := (hr.set 0 (.int .i64 (-1))).set 1 (.int .i64 0)
    have hBo := ((HQb.out _ hq).setCell (p := ⟨w.heap.size + 1, 0, none⟩) (by show w.heap.size ≤ w.heap.size + 1; omega) (.int .i64 (-1))).setCell (p := ⟨w.heap.size + 1, 1, none⟩) (by show w.heap.size ≤ w.heap.size + 1; omega) (.int .i64 0)
    clear hr
    go_wp2_with fail
    have e0 := hWo.cell_at 0 rfl
    have e1 := hWo.cell_at 1 rfl
    refine bodyPost_ret (v := prtV (-1) 0) ?_ rfl ⟨rfl, hBo⟩
    simp [results, Tryd.f23, go_sem, e0, e1]
  · rw [rear_far h0 h1]
    have d1 : decide (x < 0) = false := decide_eq_false (by omega)
    have d2 : decide ((l.sigs.length : Int) ≤ x) = true := decide_eq_true h1
    clear hL
    have hW := hq
    have m0 := HQl.out _ hW
    have x0 := m0.cell_at 0 rfl
    have x1 := m0.cell_at 1 rfl
    have x2 := m0.cell_at 2 rfl
    have x3 := m0.cell_at 3 rfl
    have x4 := m0.cell_at 4 rfl
    have x5 := m0.cell_at 5 rfl
    have x6 := m0.cell_at 6 rfl
    have x7 := m0.cell_at 7 rfl
    have x8 := m0.cell_at 8 rfl
    have x9 := m0.cell_at 9 rfl
    have x10 := m0.cell_at 10 rfl
    clear m0
    clear hW
    go_enter Tryd.func23, Tryd.ntmps23
    go_wp2_with fail
    refine (KN.out _ hq).mono ?_
    clear x0 x1 x2 x3 x4 x5 x6 x7 x8 x9 x10 hq
    rintro e w1 ⟨rfl, hq⟩
    have hr := HQr.out _ hq
    have f0 := hr.frozen 0
    have f1 := hr.frozen 1
    have z0 := hr.cell_at 0 rfl
    have z1 := hr.cell_at 1 rfl
    have hWo := (hr.set 0 (.int .i64 (-1))).set 1 (.int .i64 0)
    have hBo := ((HQb.out _ hq).setCell (p := ⟨w.heap.size + 1, 0, none⟩) (by show w.heap.size ≤ w.heap.size + 1; omega) (.int .i64 (-1))).setCell (p := ⟨w.heap.size + 1, 1, none⟩) (by show w.heap.size ≤ w.heap.size + 1; omega) (.int .i64 0)
    clear hr
    go_wp2_with fail
    have e0 := hWo.cell_at 0 rfl
    have e1 := hWo.cell_at 1 rfl
    refine bodyPost_ret (v := prtV (-1) 0) ?_ rfl ⟨rfl, hBo⟩
    simp [results, Tryd.f23, go_sem, e0, e1]
  · rw [rear_at hy]
    obtain ⟨⟨qs, qq⟩, hbv⟩ : ∃ q, beyondV l y1 y2 = q := ⟨_, rfl⟩
    simp only
    rw [hbv]
    have KB := Lib.hid (fun W hW => beyondJ_B (w := W) (HTW.out W hW) y1 y2 hbv)
    have HC : Hid (∃ b off, l.Ag = some ⟨b, off, none⟩ ∧ ∀ W, Q W → W.cell? ⟨b, off + j * 2, none⟩ = some (.int .i64 y1) ∧ W.cell? ⟨b, off + j * 2 + 1, none⟩ = some (.int .i64 y2)) := Lib.hid (by
      obtain ⟨b, off, hA, _, hc0, hc⟩ := (HTW.out _ hq).sigs.nth (n := 2) (fun _ => rfl) (by omega) hy
      refine ⟨b, off, hA, fun W hW => ?_⟩
      obtain ⟨b', off', hA', _, hc0, hc⟩ := (HTW.out _ hW).sigs.nth (n := 2) (fun _ => rfl) (by omega) hy
      rw [hA] at hA'
      cases hA'
      exact ⟨hc0 j _ _ hy rfl, hc j _ 1 _ hy rfl⟩)
    obtain ⟨b, off, hA, hC⟩ := HC.out
    have HCC := Lib.hid hC
    have HA := Lib.hid hA
    clear hL hy hbv hA hC HC KN
    go_enter Tryd.func23, Tryd.ntmps23
    have hx1 := (HQl.out _ hq).cell_at 1 rfl
    have hlt' : j < l.sigs.length := by omega
    go_upto_region 3 with (fail)
    clear hx1
    have HBS : Hid (∀ W, Below ((w.alloc (.cells l.cells.toArray 29)).alloc (.cells #[.int .i64 0, .int .i64 0] 33)).heap.size ((w.alloc (.cells l.cells.toArray 29)).alloc (.cells #[.int .i64 0, .int .i64 0] 33)) W → Q W) := Lib.hid (fun W hB => HQ.out _ _ hq hB)
    clear hq
    refine region_mixt (Below ((w.alloc (.cells l.cells.toArray 29)).alloc (.cells #[.int .i64 0, .int .i64 0] 33)).heap.size ((w.alloc (.cells l.cells.toArray 29)).alloc (.cells #[.int .i64 0, .int .i64 0] 33))) [(0, false), (1, false), (2, false), (3, false), (4, false), (5, false), (6, false), (7, false)] 1 8 (by kernel_rfl) (by kernel_rfl) (by kernel_rfl) (Below ((w.alloc (.cells l.cells.toArray 29)).alloc (.cells #[.int .i64 0, .int .i64 0] 33)).heap.size ((w.alloc (.cells l.cells.toArray 29)).alloc (.cells #[.int .i64 0, .int .i64 0] 33))) ⟨Closed.below ((w.alloc (.cells l.cells.toArray 29)).alloc (.cells #[.int .i64 0, .int .i64 0] 33)), fun _ h => h⟩ (Below.refl _ _).drew ?_
    simp only [pickOps, List.getElem?_cons_zero, List.getElem?_cons_succ]
    repeat (first | (refine mix_skip (by rfl) ?_; simp only [Act.put, List.setIfInBounds_toArray, List.set_cons_zero, List.set_cons_succ]) | (refine mix_read _ (by rfl) (fun W hW => by (have hW := HBS.out W hW; have m0 := HQl.out _ hW; have x0 := m0.cell_at 0 rfl; have x1 := m0.cell_at 1 rfl; have x2 := m0.cell_at 2 rfl; have x3 := m0.cell_at 3 rfl; have x4 := m0.cell_at 4 rfl; have x5 := m0.cell_at 5 rfl; have x6 := m0.cell_at 6 rfl; have x7 := m0.cell_at 7 rfl; have x8 := m0.cell_at 8 rfl; have x9 := m0.cell_at 9 rfl; have x10 := m0.cell_at 10 rfl; clear m0; obtain ⟨c0, c1⟩ := HCC.out _ hW; go_simp; first | done | with_reducible rfl)) ?_; simp only [Act.put, List.setIfInBounds_toArray, List.set_cons_zero, List.set_cons_succ]) | (refine mix_read _ (by rfl) (fun W hW => by (have hW := HBS.out W hW; have m0 := HQl.out _ hW; have x0 := m0.cell_at 0 rfl; have x1 := m0.cell_at 1 rfl; have x2 := m0.cell_at 2 rfl; have x3 := m0.cell_at 3 rfl; have x4 := m0.cell_at 4 rfl; have x5 := m0.cell_at 5 rfl; have x6 := m0.cell_at 6 rfl; have x7 := m0.cell_at 7 rfl; have x8 := m0.cell_at 8 rfl; have x9 := m0.cell_at 9 rfl; have x10 := m0.cell_at 10 rfl; clear m0; obtain ⟨c0, c1⟩ := HCC.out _ hW; rw [HA.out]; go_simp; first | done | with_reducible rfl)) ?_; simp only [Act.put, List.setIfInBounds_toArray, List.set_cons_zero, List.set_cons_succ]) | (refine mix_call _ _ _ (by rfl) (fun W hW => by (have hW := HBS.out W hW; have m0 := HQl.out _ hW; have x0 := m0.cell_at 0 rfl; have x1 := m0.cell_at 1 rfl; have x2 := m0.cell_at 2 rfl; have x3 := m0.cell_at 3 rfl; have x4 := m0.cell_at 4 rfl; have x5 := m0.cell_at 5 rfl; have x6 := m0.cell_at 6 rfl; have x7 := m0.cell_at 7 rfl; have x8 := m0.cell_at 8 rfl; have x9 := m0.cell_at 9 rfl; have x10 := m0.cell_at 10 rfl; clear m0; obtain ⟨c0, c1⟩ := HCC.out _ hW; go_simp; first | done | rfl)) (fun W hW => KB.out W (HBS.out W hW)) ?_; simp only [Act.put, List.setIfInBounds_toArray, List.set_cons_zero, List.set_cons_succ]))
    refine mix_nil (fun W hW => ?_)
    have hq := HBS.out W hW
    clear hW HBS
    have hr := HQr.out _ hq
    have f0 := hr.frozen 0
    have f1 := hr.frozen 1
    have z0 := hr.cell_at 0 rfl
    have z1 := hr.cell_at 1 rfl
    have hWo := (hr.set 0 (.int .i64 qs)).set 1 (.int .i64 qq)
    have hBo := ((HQb.out _ hq).setCell (p := ⟨w.heap.size + 1, 0, none⟩) (by show w.heap.size ≤ w.heap.size + 1; omega) (.int .i64 qs)).setCell (p := ⟨w.heap.size + 1, 1, none⟩) (by show w.heap.size ≤ w.heap.size + 1; omega) (.int .i64 qq)
    clear hr
    go_wp2_with fail
    have e0 := hWo.cell_at 0 rfl
    have e1 := hWo.cell_at 1 rfl
    refine bodyPost_ret (v := prtV qs qq) ?_ rfl ⟨rfl, hBo⟩
    simp [results, Tryd.f23, go_sem, e0, e1]
end Go.Proofs.YthjnhigcheakaaaDoor
