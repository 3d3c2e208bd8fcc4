/- The document's own layer 10: there, Point, Class, Next, Rear. -/
import Derived.Test.YtbdbgoploednbaaDoorQE
import Derived.Test.YtbdbgoploednbaaDoorQC
import Derived.Test.YtbdbgoploednbaaDoorQJoinA
import Derived.Test.YtbdbgoploednbaaDoorQD
namespace Go.Proofs.YtbdbgoploednbaaDoor
open Go.RowKit Go.Shelf
set_option linter.unusedVariables false
set_option linter.unusedSimpArgs false

set_option maxRecDepth 100000 in
set_option maxHeartbeats 8000000 in
theorem there10_any {l : Lay} {w : World} (hL : Lies l w) (s i o : Int) {r : Bool} (hr : stepV l s i o = r) : Calls Tryd.prog 54 #[l.val, stpV s i o] w fun e w' => e = .returned (.bool r) ∧ Below w.heap.size w w' := by
  obtain ⟨Q, HQ, HQb, HQl, HQv, hq⟩ := keep_box2 (Closed.below w) (Below.refl _ w) 29 56 l.cells (stpCells (s, i, o))
  have KS := Lib.hid (fun W hW => keepR HQ.out (stepR_B (w := W) (Lies.closed l _ _ hL (HQb.out W hW)) s i o rfl hr) hW)
  generalize wayK (kindV l s) i o = v at *
  clear hL hr
  have hW := hq
  have m0 := HQl.out _ hW
  have x0 := m0.cell_at 0 rfl
  have x1 := m0.cell_at 1 rfl
  have x2 := m0.cell_at 2 rfl
  have x3 := m0.cell_at 3 rfl
  have x4 := m0.cell_at 4 rfl
  have x5 := m0.cell_at 5 rfl
  have x6 := m0.cell_at 6 rfl
  have x7 := m0.cell_at 7 rfl
  have x8 := m0.cell_at 8 rfl
  have x9 := m0.cell_at 9 rfl
  have x10 := m0.cell_at 10 rfl
  clear m0
  have m1 := HQv.out _ hW
  have v0 := m1.cell_at 0 rfl
  have v1 := m1.cell_at 1 rfl
  have v2 := m1.cell_at 2 rfl
  clear m1
  clear hW
  go_enter Tryd.func54, Tryd.ntmps54
  go_wp2_with fail
  refine (KS.out _ hq).mono ?_
  clear x0 x1 x2 x3 x4 x5 x6 x7 x8 x9 x10 v0 v1 v2 hq
  rintro e w1 ⟨rfl, hq⟩
  go_wp2_with fail
  go_ret
  exact ⟨rfl, HQb.out _ hq⟩

set_option maxRecDepth 100000 in
set_option maxHeartbeats 8000000 in
theorem pointR_any {l : Lay} {w : World} (hL : Lies l w) (s i o : Int) {r : Int × Int × Bool} (hr : pointV l s i o = r) : Calls Tryd.prog 41 #[l.val, stpV s i o] w fun e w' => e = .returned (.tuple #[.int .i64 r.1, .int .i64 r.2.1, .bool r.2.2]) ∧ Below w.heap.size w w' := by
  subst hr
  obtain ⟨Q, HQ, HQb, HQl, HQv, hq⟩ := keep_box2 (Closed.below w) (Below.refl _ w) 29 56 l.cells (stpCells (s, i, o))
  have HTW : Hid (∀ W, Q W → Lies l W) := Lib.hid fun W hW => Lies.closed l _ _ hL (HQb.out W hW)
  rcases point_cases l s i o with ⟨h1, h2⟩ | ⟨j, y, rfl, hy, h1, hk, h2⟩ | ⟨j, y, rfl, hy, h1, hk, hg, h2⟩
  · rw [h2]
    have KS := Lib.hid (fun W hW => keepR HQ.out (there10_any (w := W) (HTW.out W hW) s i o h1) hW)
    clear hL h1 h2
    have hW := hq
    have m0 := HQl.out _ hW
    have x0 := m0.cell_at 0 rfl
    have x1 := m0.cell_at 1 rfl
    have x2 := m0.cell_at 2 rfl
    have x3 := m0.cell_at 3 rfl
    have x4 := m0.cell_at 4 rfl
    have x5 := m0.cell_at 5 rfl
    have x6 := m0.cell_at 6 rfl
    have x7 := m0.cell_at 7 rfl
    have x8 := m0.cell_at 8 rfl
    have x9 := m0.cell_at 9 rfl
    have x10 := m0.cell_at 10 rfl
    clear m0
    have m1 := HQv.out _ hW
    have v0 := m1.cell_at 0 rfl
    have v1 := m1.cell_at 1 rfl
    have v2 := m1.cell_at 2 rfl
    clear m1
    clear hW
    go_enter Tryd.func41, Tryd.ntmps41
    go_wp2_with fail
    refine (KS.out _ hq).mono ?_
    clear x0 x1 x2 x3 x4 x5 x6 x7 x8 x9 x10 v0 v1 v2 hq
    rintro e w1 ⟨rfl, hq⟩
    go_wp2_with fail
    refine bodyPost_ret (v := .tuple #[.int .i64 0, .int .i64 0, .bool false]) (by simp [results, Tryd.f41, go_sem]) rfl ⟨rfl, HQb.out _ hq⟩
  · rw [h2]
    have KS := Lib.hid (fun W hW => keepR HQ.out (there10_any (w := W) (HTW.out W hW) j i o h1) hW)
    have HC : Hid (∃ b off, l.As = some ⟨b, off, none⟩ ∧ ∀ W, Q W → ∀ (k : Nat) (v : Value), y.cells[k]? = some v → W.cell? ⟨b, off + j * 11 + k, none⟩ = some v) := Lib.hid (by
      obtain ⟨b, off, hA, _, hc0, hc⟩ := (HTW.out _ hq).secs.nth (n := 11) Sec.len (by omega) hy
      refine ⟨b, off, hA, fun W hW => ?_⟩
      obtain ⟨b', off', hA', _, hc0, hc⟩ := (HTW.out _ hW).secs.nth (n := 11) Sec.len (by omega) hy
      rw [hA] at hA'
      cases hA'
      exact fun k v hv => hc j y k v hy hv)
    obtain ⟨b, off, hA, hC⟩ := HC.out
    have hlt : (j : Int) < l.secs.length := by have := (List.getElem?_eq_some_iff.1 hy).1; omega
    have HCC := Lib.hid hC
    have HA := Lib.hid hA
    have hk2 : (y.k != 2) = true := by simp [hk]
    clear hL h1 h2 hC hA hy hk HC
    have hW := hq
    have m0 := HQl.out _ hW
    have x0 := m0.cell_at 0 rfl
    have x1 := m0.cell_at 1 rfl
    have x2 := m0.cell_at 2 rfl
    have x3 := m0.cell_at 3 rfl
    have x4 := m0.cell_at 4 rfl
    have x5 := m0.cell_at 5 rfl
    have x6 := m0.cell_at 6 rfl
    have x7 := m0.cell_at 7 rfl
    have x8 := m0.cell_at 8 rfl
    have x9 := m0.cell_at 9 rfl
    have x10 := m0.cell_at 10 rfl
    clear m0
    have m1 := HQv.out _ hW
    have v0 := m1.cell_at 0 rfl
    have v1 := m1.cell_at 1 rfl
    have v2 := m1.cell_at 2 rfl
    clear m1
    clear hW
    go_enter Tryd.func41, Tryd.ntmps41
    go_wp2_with fail
    refine (KS.out _ hq).mono ?_
    clear x0 x1 x2 x3 x4 x5 x6 x7 x8 x9 x10 v0 v1 v2 hq
    rintro e w1 ⟨rfl, hq⟩
    have x0 := (HQl.out _ hq).cell_at 0 rfl
    have v0 := (HQv.out _ hq).cell_at 0 rfl
    have c0 := HCC.out _ hq 0 _ rfl
    simp only [Nat.add_zero] at c0
    rw [HA.out] at x0
    go_wp2_with fail
    refine bodyPost_ret (v := .tuple #[.int .i64 0, .int .i64 0, .bool false]) (by simp [results, Tryd.f41, go_sem]) rfl ⟨rfl, HQb.out _ hq⟩
  · rw [h2]
    have KS := Lib.hid (fun W hW => keepR HQ.out (there10_any (w := W) (HTW.out W hW) j i o h1) hW)
    have HC : Hid (∃ b off, l.As = some ⟨b, off, none⟩ ∧ ∀ W, Q W → ∀ (k : Nat) (v : Value), y.cells[k]? = some v → W.cell? ⟨b, off + j * 11 + k, none⟩ = some v) := Lib.hid (by
      obtain ⟨b, off, hA, _, hc0, hc⟩ := (HTW.out _ hq).secs.nth (n := 11) Sec.len (by omega) hy
      refine ⟨b, off, hA, fun W hW => ?_⟩
      obtain ⟨b', off', hA', _, hc0, hc⟩ := (HTW.out _ hW).secs.nth (n := 11) Sec.len (by omega) hy
      rw [hA] at hA'
      cases hA'
      exact fun k v hv => hc j y k v hy hv)
    obtain ⟨b, off, hA, hC⟩ := HC.out
    have hlt : (j : Int) < l.secs.length := by have := (List.getElem?_eq_some_iff.1 hy).1; omega
    have HCC := Lib.hid hC
    have HA := Lib.hid hA
    have HK := Lib.hid hk
    have KP := Lib.hid (fun W hW => posR_P (P := Q) (w := W) i o (shapeK 2) (pos_two hg) hg hW)
    generalize wayK 2 i o = wv at *
    clear hL h1 h2 hC hA hy hk HC hg
    have hW := hq
    have m0 := HQl.out _ hW
    have x0 := m0.cell_at 0 rfl
    have x1 := m0.cell_at 1 rfl
    have x2 := m0.cell_at 2 rfl
    have x3 := m0.cell_at 3 rfl
    have x4 := m0.cell_at 4 rfl
    have x5 := m0.cell_at 5 rfl
    have x6 := m0.cell_at 6 rfl
    have x7 := m0.cell_at 7 rfl
    have x8 := m0.cell_at 8 rfl
    have x9 := m0.cell_at 9 rfl
    have x10 := m0.cell_at 10 rfl
    clear m0
    have m1 := HQv.out _ hW
    have v0 := m1.cell_at 0 rfl
    have v1 := m1.cell_at 1 rfl
    have v2 := m1.cell_at 2 rfl
    clear m1
    clear hW
    go_enter Tryd.func41, Tryd.ntmps41
    go_wp2_with fail
    refine (KS.out _ hq).mono ?_
    clear x0 x1 x2 x3 x4 x5 x6 x7 x8 x9 x10 v0 v1 v2 hq
    rintro e w1 ⟨rfl, hq⟩
    have x0 := (HQl.out _ hq).cell_at 0 rfl
    have v0 := (HQv.out _ hq).cell_at 0 rfl
    have c0 := HCC.out _ hq 0 _ rfl
    simp only [Nat.add_zero] at c0
    rw [HA.out] at x0
    rw [HK.out] at c0
    have v1 := (HQv.out _ hq).cell_at 1 rfl
    have v2 := (HQv.out _ hq).cell_at 2 rfl
    go_wp2_with fail
    refine (KP.out _ hq).mono ?_
    clear x0 v0 v1 v2 c0 hq
    rintro e w2 ⟨rfl, hq⟩
    have v0 := (HQv.out _ hq).cell_at 0 rfl
    go_wp2_with fail
    refine bodyPost_ret (v := .tuple #[.int .i64 (j : Int), .int .i64 wv, .bool true]) (by simp [results, Tryd.f41, go_sem]) rfl ⟨rfl, HQb.out _ hq⟩

end Go.Proofs.YtbdbgoploednbaaDoor
