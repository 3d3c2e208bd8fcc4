/- The document's own: which route may be. -/
import Derived.RangeFuncNested
import Derived.RangeFuncBound
import Derived.RangeFuncCalls
import Derived.RangeFuncLeaves
import Derived.RangeFuncBox
import Derived.Shelf.Abstract
import Derived.Shelf.RegionOpen
import Derived.WalkKit
import Derived.OwnWalkIn
import Derived.TacticsInMore
import Derived.LoopNIn
import Derived.LoopIn
import Derived.WalkMore
import Derived.Deep.CutRange
import Derived.Test.YtljpiafopbfdlaaQHlL
namespace Go.Proofs.Ytljpiafopbfdlaa
open Go.RowKit Go.Shelf
set_option linter.unusedVariables false
set_option linter.unusedSimpArgs false

theorem was_at (h : Hld) {k : Nat} (hk : k < 12) : ∃ b, h.cells[8 + k]? = some (.bool b) := by
  match k, hk with
  | 0, _ => exact ⟨_, rfl⟩
  | 1, _ => exact ⟨_, rfl⟩
  | 2, _ => exact ⟨_, rfl⟩
  | 3, _ => exact ⟨_, rfl⟩
  | 4, _ => exact ⟨_, rfl⟩
  | 5, _ => exact ⟨_, rfl⟩
  | 6, _ => exact ⟨_, rfl⟩
  | 7, _ => exact ⟨_, rfl⟩
  | 8, _ => exact ⟨_, rfl⟩
  | 9, _ => exact ⟨_, rfl⟩
  | 10, _ => exact ⟨_, rfl⟩
  | 11, _ => exact ⟨_, rfl⟩

structure RightP (h : Hld) (w : World) (e : Ending) (w' : World) : Prop where
  at' : ∃ r, e = .returned (.bool r) ∧ (r = true → MayBe h) ∧ Below w.heap.size w w'
theorem right_no {h : Hld} {w w' : World} {v : Value} (e : v = .bool false) (hb : Below w.heap.size w w') : RightP h w (.returned v) w' := ⟨false, by rw [e], fun h => (by cases h), hb⟩
set_option maxRecDepth 100000 in
set_option maxHeartbeats 32000000 in
theorem right17_any {h : Hld} {w : World} (hl : HLies h w) (hsm : Small h) : Calls Try.prog 8 #[h.val] w (RightP h w) := by
  obtain ⟨Q, HQ, HQb, HQh, hq⟩ := keep_h (Closed.below w) (Below.refl _ w) h
  obtain ⟨W0, hW0⟩ : ∃ W0, w.alloc (.cells h.cells.toArray 28) = W0 := ⟨_, rfl⟩
  rw [hW0] at hq
  have HW0 := Lib.hid hW0
  have HL := Lib.hid fun W (hW : Q W) => hl.on (HQb.out W hW)
  have HS := Lib.hid hsm
  have HM := Lib.hid fun W (hW : Q W) (r : Bool) (hr : anyN h.ns h.ns = r) => clash17_any h.nc h.nc (hl.on (HQb.out W hW)).nrow (hl.on (HQb.out W hW)).nrow (by have := hsm.n; omega) (by have := hsm.n; omega) hr
  obtain ⟨id, hid⟩ : ∃ x, h.id = x := ⟨_, rfl⟩
  obtain ⟨N, hN⟩ : ∃ x, h.p.ss.length = x := ⟨_, rfl⟩
  obtain ⟨M, hM⟩ : ∃ x, h.os.length = x := ⟨_, rfl⟩
  obtain ⟨st, hst⟩ : ∃ x, h.st = x := ⟨_, rfl⟩
  obtain ⟨gone, hgone⟩ : ∃ x, h.gone = x := ⟨_, rfl⟩
  obtain ⟨tm, htm⟩ : ∃ x, h.tm = x := ⟨_, rfl⟩
  have HX : Hid (∀ W, Q W → W.cell? ⟨w.heap.size, 0, none⟩ = some (.int .i64 id) ∧ W.cell? ⟨w.heap.size, 3, none⟩ = some (.slice h.p.A N h.p.c) ∧ W.cell? ⟨w.heap.size, 4, none⟩ = some (.slice h.oA M h.oc) ∧ W.cell? ⟨w.heap.size, 5, none⟩ = some (.slice h.nA h.ns.length h.nc) ∧ W.cell? ⟨w.heap.size, 6, none⟩ = some (.int .u8 st) ∧ W.cell? ⟨w.heap.size, 7, none⟩ = some (.int .i64 gone) ∧ W.cell? ⟨w.heap.size, 21, none⟩ = some (.int .i64 tm)) := Lib.hid fun W hW => by
    have m0 := HQh.out W hW
    rw [← hid, ← hN, ← hM, ← hst, ← hgone, ← htm]
    exact ⟨m0.cell_at 0 rfl, m0.cell_at 3 rfl, m0.cell_at 4 rfl, m0.cell_at 5 rfl, m0.cell_at 6 rfl, m0.cell_at 7 rfl, m0.cell_at 21 rfl⟩
  have HG : Hid (h.gone = gone) := Lib.hid hgone
  have HN : Hid (h.p.ss.length = N) := Lib.hid hN
  have HOM : Hid (h.os.length = M) := Lib.hid hM
  clear hW0 hl hsm hid hN hM hst hgone htm
  go_enter Try.func8, Try.ntmps8
  go_upto_region 1 with (fail)
  rw [HW0.out]
  clear HW0
  obtain ⟨x0, x3, x4, x5, x6, x7, x21⟩ := HX.out W0 hq
  go_upto_region 2 with (fail)
  by_cases h0 : id < 1
  · go_wp2_with fail
    go_ret
    exact right_no rfl (HQb.out _ hq)
  by_cases h1 : 1073741824 < id
  · go_wp2_with fail
    go_ret
    exact right_no rfl (HQb.out _ hq)
  by_cases h2 : (N : Int) < 1
  · go_wp2_with fail
    go_ret
    exact right_no rfl (HQb.out _ hq)
  by_cases h3 : 12 < (N : Int)
  · go_wp2_with fail
    go_ret
    exact right_no rfl (HQb.out _ hq)
  by_cases h4 : 2 < (M : Int)
  · go_wp2_with fail
    go_ret
    exact right_no rfl (HQb.out _ hq)
  by_cases h5 : st < 1
  · go_wp2_with fail
    go_ret
    exact right_no rfl (HQb.out _ hq)
  by_cases h6 : 5 ≤ st
  · go_wp2_with fail
    go_ret
    exact right_no rfl (HQb.out _ hq)
  by_cases h7 : gone < 0
  · go_wp2_with fail
    go_ret
    exact right_no rfl (HQb.out _ hq)
  by_cases h8 : (N : Int) < gone
  · go_wp2_with fail
    go_ret
    exact right_no rfl (HQb.out _ hq)
  by_cases h9 : tm < 0
  · go_wp2_with fail
    go_ret
    exact right_no rfl (HQb.out _ hq)
  by_cases h10 : 1073741824 < tm
  · go_wp2_with fail
    go_ret
    exact right_no rfl (HQb.out _ hq)
  · skip
    obtain ⟨c, hc⟩ : ∃ c, anyN h.ns h.ns = c := ⟨_, rfl⟩
    have HC := Lib.hid hc
    have HK := Lib.hid (HM.out W0 hq c hc)
    clear hc
    go_wp2_with fail
    refine HK.out.mono ?_
    rintro e w1 ⟨rfl, hB1⟩
    replace hq := HQ.out _ _ hq hB1
    clear HK hB1 HM x0 x3 x4 x5 x6 x7 x21 h0 h1 h4 h5 h6 h9 h10
    cases c
    · have hP : ∀ W, Q W → Row W W.heap.size h.p.A (h.p.ss.flatMap stpCells) := fun W hW => (HL.out W hW).pl.row
      have hO : ∀ W, Q W → Row W W.heap.size h.oA (h.os.flatMap stpCells) := fun W hW => (HL.out W hW).orow
      have hlp : h.p.ss.length ≤ 1000 := by have := HS.out.p; omega
      have hlo : h.os.length ≤ 1000 := by have := HS.out.o; omega
      rw [show h.p.ss.length = N from HN.out] at hlp
      obtain ⟨al, hal⟩ : ∃ l, h.p.ss ++ h.os = l := ⟨_, rfl⟩
      have hln : ((al.length : Nat) : Int) ≤ 1000 := by have := HS.out.p; have := HS.out.o; rw [← hal, List.length_append]; omega
      have HAL := Lib.hid hal
      clear hal
      have HROW := Lib.hid (And.intro hP (And.intro hO (And.intro hlp hlo)))
      clear hP hO hlp hlo
      go_upto_region 4 with (fail)
      have HBS : Hid (∀ W, Below w1.heap.size w1 W → Q W) := Lib.hid (fun W hB => HQ.out _ _ hq hB)
      refine region_mix (fun W => Below w1.heap.size w1 W) [(1, false), (2, false), (3, false), (5, false), (6, false), (0, true), (4, true), (7, true), (8, false)] (by kernel_rfl) (by kernel_rfl) (fun W => Below w1.heap.size w1 W) ⟨Closed.below w1, fun _ h => h⟩ (Below.refl _ _).drew ?_
      simp only [pickOps, List.getElem?_cons_zero, List.getElem?_cons_succ]
      repeat (first | (refine mix_read _ (by rfl) (fun W hW => by (obtain ⟨x0, x3, x4, x5, x6, x7, x21⟩ := HX.out W (HBS.out W hW); go_simp; first | done | with_reducible rfl)) ?_; simp only [Act.put, List.setIfInBounds_toArray, List.set_cons_zero, List.set_cons_succ]))
      refine mix_make (fun g => .slice (some ⟨g, 0, none⟩) 0 0) w1.heap.size 44 [] ⟨Closed.below w1, fun _ h => h⟩ (fun W hW => hW.size) (by rfl) (fun W hW => by (clear hW; go_simp; first | done | with_reducible rfl)) (fun g0 hg0 => ?_)
      simp only [Act.put, List.setIfInBounds_toArray, List.set_cons_zero, List.set_cons_succ]
      refine mix_yield (X := Option Addr × Nat) (fun B => .slice B.1 N B.2) (fun B W => Below w1.heap.size w1 W ∧ W.ownsRow w1.heap.size 44 3 (.slice B.1 N B.2) N (h.p.ss.flatMap stpCells)) (fun B => ⟨(Closed.below w1).and (Closed.owns _ _ _ _ _ _), fun _ h => h.1⟩) (by rfl) (fun W hW => ?_) (fun B => ?_)
      · obtain ⟨A2, c2, w6, k1, k2, k3, k4⟩ := first11 (f := stpCells) (size := 3) (fun _ => rfl) oneStep 22 44 (.agg #[.int .i64 0, .int .i64 0, .int .i64 0]) 24 Try.underlying22 infoStep rfl (by omega) (by omega) hW.1 hW.2 hg0 h.p.ss h.p.A h.p.c (HROW.out.1 _ (HBS.out W hW.1)) (by rw [HN.out]; exact HROW.out.2.2.1)
        rw [HN.out] at k1 k3
        exact ⟨(A2, c2), w6, exec_append (.tmp 74) (.tmp 77) 22 rfl k1, k2, k3⟩
      simp only [Act.put, List.setIfInBounds_toArray, List.set_cons_zero, List.set_cons_succ]
      refine mix_yield (X := Option Addr × Nat) (fun B => .slice B.1 al.length B.2) (fun B W => Below w1.heap.size w1 W ∧ Row W W.heap.size B.1 (al.flatMap stpCells)) (fun B => ⟨(Closed.below w1).and (fun _ _ h hB => h.on hB), fun _ h => h.1⟩) (by rfl) (fun W hW => ?_) (fun C => ?_)
      · have hown := hW.2
        obtain ⟨v', w', k1, k2, k3⟩ := appendG (P := Try.prog) (f := stpCells) (size := 3) (fun _ => rfl) oneStep 22 44 (.agg #[.int .i64 0, .int .i64 0, .int .i64 0]) 24 Try.underlying22 infoStep rfl (by omega) (by omega) w1.heap.size N _ (h.p.ss.flatMap stpCells) h.os h.oA h.oc W.heap.size W hown (.inl (by intro e; injection e with _ e2 _; omega)) (HROW.out.2.1 _ (HBS.out W hW.1)) HROW.out.2.2.1 HROW.out.2.2.2 hW.1.size
        rw [← List.flatMap_append, show N + h.os.length = (h.p.ss ++ h.os).length by rw [List.length_append, HN.out], HAL.out] at k2
        obtain ⟨A2, c2, rfl, hr2⟩ := owns_read k2
        rw [HOM.out] at k1
        refine ⟨(A2, c2), w', exec_append (.tmp 78) (.tmp 80) 22 rfl k1, hW.1.grown k3 hW.1.size (fun k e => (hown.lt k e).1), hr2⟩
      simp only [Act.put, List.setIfInBounds_toArray, List.set_cons_zero, List.set_cons_succ]
      repeat (first | (refine mix_read _ (by rfl) (fun W hW => by (clear hW; go_simp; first | done | with_reducible rfl)) ?_; simp only [Act.put, List.setIfInBounds_toArray, List.set_cons_zero, List.set_cons_succ]))
      refine mix_nil (fun w2 hW => ?_)
      have hq := HBS.out w2 hW.1
      have HRW : Hid (∀ W, (Q W ∧ Row W W.heap.size C.1 (al.flatMap stpCells)) → Row W W.heap.size C.1 (al.flatMap stpCells)) := Lib.hid fun W h => h.2
      have HQ2 : Hid (Closed fun W => Q W ∧ Row W W.heap.size C.1 (al.flatMap stpCells)) := Lib.hid (HQ.out.and (fun _ _ h hB => h.on hB))
      have hz : Q w2 ∧ Row w2 w2.heap.size C.1 (al.flatMap stpCells) := ⟨hq, hW.2⟩
      clear hq hW HBS
      go_wp2_with fail
      go_loopw [5] (fun i wr => ∃ j : Nat, j ≤ al.length ∧ i = .int .i64 j ∧ (Q wr ∧ Row wr wr.heap.size C.1 (al.flatMap stpCells))) (fun i _ => al.length - (intOf i).toNat)
      case atStart => exact ⟨0, by omega, rfl, hz⟩
      case round =>
        clear hz
        obtain ⟨j, hj, rfl, hz⟩ := hrel
        by_cases hlt : j < al.length
        · have hlt' : (j : Int) < al.length := by omega
          obtain ⟨⟨x1, x2, x3⟩, hx⟩ : ∃ x, al[j]? = some x := ⟨_, List.getElem?_eq_getElem hlt⟩
          have HX1 := Lib.hid hx
          clear hx
          go_wp2_with fail
          go_loopw [6] (fun i wr => ∃ k : Nat, k ≤ j ∧ i = .int .i64 k ∧ (Q wr ∧ Row wr wr.heap.size C.1 (al.flatMap stpCells))) (fun i _ => j - (intOf i).toNat)
          case atStart => exact ⟨0, by omega, rfl, hz⟩
          case round =>
            clear hz
            obtain ⟨k, hk, rfl, hz⟩ := hrel
            by_cases hkt : k < j
            · have hkt' : (k : Int) < (j : Int) := by omega
              have hkl : (k : Int) < (al.length : Int) := by omega
              obtain ⟨⟨y1, y2, y3⟩, hy⟩ : ∃ y, al[k]? = some y := ⟨_, List.getElem?_eq_getElem (by omega)⟩
              obtain ⟨o1, o2, HA, HC0, HC⟩ := row_at (n := 3) (fun _ => rfl) (by omega) HRW.out hz HX1.out
              have HY1 := Lib.hid hy
              clear hy
              have HF : Hid (∀ W, (Q W ∧ Row W W.heap.size C.1 (al.flatMap stpCells)) → W.cell? _ = _ ∧ W.cell? _ = _) := Lib.hid fun W hW => ⟨HC0.out _ hW j _ _ HX1.out rfl, HC0.out _ hW k _ _ HY1.out rfl⟩
              have HBS : Hid (∀ W, Below wr.heap.size wr W → (Q W ∧ Row W W.heap.size C.1 (al.flatMap stpCells))) := Lib.hid (fun W hB => HQ2.out _ _ hz hB)
              clear hz
              obtain ⟨t, ht⟩ : ∃ t, (y1 == x1) = t := ⟨_, rfl⟩
              go_wp2_with fail
              refine region_mix (Below wr.heap.size wr) [(0, false), (1, false), (2, false), (3, false), (4, false), (5, false), (6, false), (7, false), (8, false), (9, false), (10, false)] (by kernel_rfl) (by kernel_rfl) (Below wr.heap.size wr) ⟨Closed.below wr, fun _ h => h⟩ (Below.refl _ _).drew ?_
              simp only [pickOps, List.getElem?_cons_zero, List.getElem?_cons_succ]
              repeat (first | (refine mix_skip (by rfl) ?_; simp only [Act.put, List.setIfInBounds_toArray, List.set_cons_zero, List.set_cons_succ]) | (refine mix_read _ (by rfl) (fun W hW => by (obtain ⟨c0, d0⟩ := HF.out W (HBS.out W hW); have hA := HA.out; go_simp; first | done | with_reducible rfl)) ?_; simp only [Act.put, List.setIfInBounds_toArray, List.set_cons_zero, List.set_cons_succ]))
              refine mix_nil (fun W hW => ?_)
              have hz := HBS.out W hW
              clear hW HBS HF
              cases t
              · go_wp2_with fail
                go_roundw
                case rel => exact ⟨k + 1, by omega, by go_num, hz⟩
                case measure => simp [intOf]; omega
              · go_wp2_with fail
                go_ret
                exact right_no rfl (HQb.out _ hz.1)
            · obtain rfl : k = j := by omega
              go_wp2_with fail
              go_roundw
              case rel => exact ⟨k + 1, hlt, by go_num, hz⟩
              case measure => simp [intOf]; omega
        · obtain rfl : j = al.length := by omega
          have hq := hz.1
          clear hz HRW HQ2 hln hj hlt
          have HWS : Hid (∀ W (k : Nat), Q W → k < 12 → ∃ b, W.cell? ⟨w.heap.size, 8 + k, none⟩ = some (.bool b)) := Lib.hid fun W k hW hk => by
            obtain ⟨b, hb⟩ := was_at h hk
            exact ⟨b, (HQh.out W hW).cell_at _ hb⟩
          go_wp2_with fail
          go_loopw [7] (fun i wr => ∃ k : Nat, i = .int .i64 k ∧ Q wr) (fun i _ => 12 - (intOf i).toNat)
          case atStart => exact ⟨N, rfl, hq⟩
          case round =>
            clear hq
            obtain ⟨k, rfl, hq⟩ := hrel
            by_cases hkt : (k : Int) < 12
            · obtain ⟨b, hb⟩ := HWS.out _ k hq (by omega)
              have hk0 : k < 12 := by omega
              cases b
              · go_wp2_with fail
                go_roundw
                case rel => exact ⟨k + 1, by go_num, hq⟩
                case measure => simp [intOf]; omega
              · go_wp2_with fail
                go_ret
                exact right_no rfl (HQb.out _ hq)
            · clear HWS
              have HNL := Lib.hid fun W (hW : Q W) => (HL.out W hW).nrow
              have hnl : ((h.ns.length : Nat) : Int) ≤ 60 := by have := HS.out.n; omega
              have x5 := (HX.out _ hq).2.2.2.1
              obtain ⟨ns, hns⟩ : ∃ l, h.ns = l := ⟨_, rfl⟩
              have HNS := Lib.hid hns
              have HX5 : Hid (∀ W, Q W → W.cell? ⟨w.heap.size, 5, none⟩ = some (.slice h.nA ns.length h.nc)) := Lib.hid fun W hW => by rw [← hns]; exact (HX.out W hW).2.2.2.1
              rw [hns] at HNL hnl x5
              clear hns HROW HAL
              go_wp2_with fail
              go_loopw [8] (fun i wr => ∃ j : Nat, j ≤ ns.length ∧ i = .int .i64 j ∧ Q wr ∧ Hid (∀ x ∈ ns.take j, x.2.2 ≤ N ∧ 0 ≤ x.1 ∧ x.1 < 24)) (fun i _ => ns.length - (intOf i).toNat)
              case atStart => exact ⟨0, by omega, rfl, hq, Lib.hid fun x hx => by simp at hx⟩
              case round =>
                clear hq x5
                obtain ⟨j, hj, rfl, hq, HAl⟩ := hrel
                have x5 := HX5.out _ hq
                by_cases hlt : j < ns.length
                · have hlt' : (j : Int) < ns.length := by omega
                  obtain ⟨⟨x1, x2, x3⟩, hx⟩ : ∃ x, ns[j]? = some x := ⟨_, List.getElem?_eq_getElem hlt⟩
                  obtain ⟨b, off, hA, _, hc0, hc⟩ := (HNL.out _ hq).nth (n := 3) (fun _ => rfl) (by omega) hx
                  have HXX := Lib.hid hx
                  have c0 := hc0 j _ _ hx rfl
                  have c1 := hc j _ 1 _ hx rfl
                  have c2 := hc j _ 2 _ hx rfl
                  clear hx hc0 hc
                  have hb4 := below1 wr (.cells #[.int .i64 x1, .int .i64 x2, .int .i64 x3] 40)
                  have hbx := Whole.new wr 40 [.int .i64 x1, .int .i64 x2, .int .i64 x3]
                  have z0 := hbx.cell_at 0 rfl
                  have z1 := hbx.cell_at 1 rfl
                  have z2 := hbx.cell_at 2 rfl
                  have HQ4 := Lib.hid (HQ.out _ _ hq hb4)
                  rw [hA] at x5
                  have HA := Lib.hid hA
                  clear hA hb4 hbx hq
                  by_cases n0 : x3 < 0
                  · go_wp2_with fail
                    go_ret
                    exact right_no rfl (HQb.out _ HQ4.out)
                  by_cases n1 : (N : Int) < x3
                  · go_wp2_with fail
                    go_ret
                    exact right_no rfl (HQb.out _ HQ4.out)
                  by_cases n2 : x1 < 0
                  · go_wp2_with fail
                    go_ret
                    exact right_no rfl (HQb.out _ HQ4.out)
                  by_cases n3 : 24 ≤ x1
                  · go_wp2_with fail
                    go_ret
                    exact right_no rfl (HQb.out _ HQ4.out)
                  by_cases n4 : x2 < 0
                  · go_wp2_with fail
                    go_ret
                    exact right_no rfl (HQb.out _ HQ4.out)
                  by_cases n5 : 1 < x2
                  · go_wp2_with fail
                    go_ret
                    exact right_no rfl (HQb.out _ HQ4.out)
                  have HAN : Hid (∀ x ∈ ns.take (j + 1), x.2.2 ≤ N ∧ 0 ≤ x.1 ∧ x.1 < 24) := Lib.hid fun x hx => by
                    rw [List.take_add_one, HXX.out, Option.toList_some, List.mem_append, List.mem_singleton] at hx
                    rcases hx with hx | rfl
                    · exact HAl.out x hx
                    · exact ⟨by show x3 ≤ (N : Int); omega, by show 0 ≤ x1; omega, by show x1 < 24; omega⟩
                  go_wp2_with fail
                  go_roundw
                  case rel => exact ⟨j + 1, hlt, by go_num, HQ4.out, HAN⟩
                  case measure => simp [intOf]; omega
                · obtain rfl : j = ns.length := by omega
                  have HMB : Hid (MayBe h) := Lib.hid ⟨by rw [HG.out]; omega, by rw [HG.out, HN.out]; omega, fun x hx => by
                    rw [HNS.out] at hx
                    have := HAl.out x (by rw [List.take_length]; exact hx)
                    rw [HN.out]
                    exact this.1, fun x hx => by
                    rw [HNS.out] at hx
                    exact (HAl.out x (by rw [List.take_length]; exact hx)).2, HC.out⟩
                  go_wp2_with fail
                  go_ret
                  exact ⟨⟨true, rfl, fun _ => HMB.out, HQb.out _ hq⟩⟩
    · go_wp2_with fail
      go_ret
      exact right_no rfl (HQb.out _ hq)

end Go.Proofs.Ytljpiafopbfdlaa
