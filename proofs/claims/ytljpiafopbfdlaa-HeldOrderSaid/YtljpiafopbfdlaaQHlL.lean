/- The document's own: clash; which route may be (as far as the laws ask). -/
import Derived.RangeFuncNested
import Derived.RangeFuncBound
import Derived.RangeFuncCalls
import Derived.RangeFuncLeaves
import Derived.RangeFuncBox
import Derived.Shelf.Abstract
import Derived.Shelf.RegionOpen
import Derived.WalkKit
import Derived.OwnWalkIn
import Derived.TacticsInMore
import Derived.LoopNIn
import Derived.LoopIn
import Derived.WalkMore
import Derived.Deep.CutRange
import Derived.Test.YtljpiafopbfdlaaQHlK
namespace Go.Proofs.Ytljpiafopbfdlaa
open Go.RowKit Go.Shelf
set_option linter.unusedVariables false
set_option linter.unusedSimpArgs false

theorem none_anyN {us vs : List (Int × Int × Int)} : (∀ x ∈ us, NoneUp (meetN x) vs vs.length) → anyN us vs = false := fun h => by
  unfold anyN
  rw [List.any_eq_false]
  intro x hx
  rw [(NoneUp.any (h x hx))]
  decide
set_option maxRecDepth 100000 in
set_option maxHeartbeats 32000000 in
theorem clash17_any {us vs : List (Int × Int × Int)} {A B : Option Addr} (ca cb : Nat) {w : World} (hA : Row w w.heap.size A (us.flatMap needCells)) (hB : Row w w.heap.size B (vs.flatMap needCells)) (hn : us.length ≤ 1000) (hm : vs.length ≤ 1000) {r : Bool} (hr : anyN us vs = r) :
    Calls Try.prog 24 #[.slice A us.length ca, .slice B vs.length cb] w fun e w' => e = .returned (.bool r) ∧ Below w.heap.size w w' := by
  have HR := Lib.hid hr
  have HA0 : Hid (∀ W, Below w.heap.size w W → Row W W.heap.size A (us.flatMap needCells)) := Lib.hid fun W h => hA.on h
  have HB0 : Hid (∀ W, Below w.heap.size w W → Row W W.heap.size B (vs.flatMap needCells)) := Lib.hid fun W h => hB.on h
  clear hA hB hr
  go_enter Try.func24, Try.ntmps24
  go_wp2_with fail
  go_loopw [5] (fun i wr => ∃ j : Nat, j ≤ us.length ∧ i = .int .i64 j ∧ Below w.heap.size w wr ∧ Hid (NoneUp (fun x => vs.any (meetN x)) us j)) (fun i _ => us.length - (intOf i).toNat)
  case atStart => exact ⟨0, by omega, rfl, Below.refl _ _, Lib.hid (NoneUp.zero _ _)⟩
  case round =>
    obtain ⟨j, hj, rfl, hq, HNo⟩ := hrel
    by_cases hlt : j < us.length
    · have hlt' : (j : Int) < us.length := by omega
      obtain ⟨⟨x1, x2, x3⟩, hx⟩ : ∃ x, us[j]? = some x := ⟨_, List.getElem?_eq_getElem hlt⟩
      have HX := Lib.hid hx
      clear hx
      go_wp2_with fail
      go_loopw [6] (fun i wr => ∃ k : Nat, k ≤ vs.length ∧ i = .int .i64 k ∧ Below w.heap.size w wr ∧ Hid (NoneUp (meetN (x1, x2, x3)) vs k)) (fun i _ => vs.length - (intOf i).toNat)
      case atStart => exact ⟨0, by omega, rfl, hq, Lib.hid (NoneUp.zero _ _)⟩
      case round =>
        clear hq
        obtain ⟨k, hk, rfl, hq, HNk⟩ := hrel
        by_cases hkt : k < vs.length
        · have hkt' : (k : Int) < vs.length := by omega
          obtain ⟨⟨y1, y2, y3⟩, hy⟩ : ∃ y, vs[k]? = some y := ⟨_, List.getElem?_eq_getElem hkt⟩
          obtain ⟨o1, o2, HA, HC0, HC⟩ := row_at (n := 3) (fun _ => rfl) (by omega) HA0.out hq HX.out
          obtain ⟨p1, p2, HB, HD0, HD⟩ := row_at (n := 3) (fun _ => rfl) (by omega) HB0.out hq hy
          have HY := Lib.hid hy
          clear hy
          obtain rfl := HA.out
          obtain rfl := HB.out
          clear HA HB
          have HF : Hid (∀ W, Below w.heap.size w W → W.cell? _ = _ ∧ W.cell? _ = _ ∧ W.cell? _ = _ ∧ W.cell? _ = _) := Lib.hid fun W hW => ⟨HC0.out _ hW j _ _ HX.out rfl, HC.out _ hW j _ 1 _ HX.out rfl, HD0.out _ hW k _ _ HY.out rfl, HD.out _ hW k _ 1 _ HY.out rfl⟩
          have HBS : Hid (∀ W, Below wr.heap.size wr W → Below w.heap.size w W) := Lib.hid (fun W hB => hq.trans (hB.mono hq.size))
          obtain ⟨t, ht⟩ : ∃ t, meetN (x1, x2, x3) (y1, y2, y3) = t := ⟨_, rfl⟩
          have HT := Lib.hid ht
          clear hq
          by_cases e1 : x1 = y1
          · subst e1
            have HE : Hid ((x2 != y2) = t) := Lib.hid (by rw [← ht]; simp [meetN])
            obtain ⟨q, hne⟩ : ∃ q, (x2 != y2) = q := ⟨_, rfl⟩
            obtain rfl : q = t := by rw [← hne]; exact HE.out
            clear ht HE
            go_wp2_with fail
            refine region_mix (Below wr.heap.size wr) [(0, false), (1, false), (2, false), (3, false), (4, false), (5, false), (6, false), (7, false), (8, false), (9, false), (10, false), (11, false), (12, false), (13, false), (14, false), (15, false), (16, false), (17, false), (18, false), (19, false), (20, false), (21, false), (22, false), (23, false)] (by kernel_rfl) (by kernel_rfl) (Below wr.heap.size wr) ⟨Closed.below wr, fun _ h => h⟩ (Below.refl _ _).drew ?_
            simp only [pickOps, List.getElem?_cons_zero, List.getElem?_cons_succ]
            repeat (first | (refine mix_skip (by rfl) ?_; simp only [Act.put, List.setIfInBounds_toArray, List.set_cons_zero, List.set_cons_succ]) | (refine mix_read _ (by rfl) (fun W hW => by (obtain ⟨c0, c1, d0, d1⟩ := HF.out W (HBS.out W hW); go_simp; first | done | with_reducible rfl)) ?_; simp only [Act.put, List.setIfInBounds_toArray, List.set_cons_zero, List.set_cons_succ]))
            refine mix_nil (fun W hW => ?_)
            have hq := HBS.out W hW
            clear hW HBS HF
            cases q
            · have HN := Lib.hid (HNk.out.succ HY.out HT.out)
              go_wp2_with fail
              go_roundw
              case rel => exact ⟨k + 1, hkt, by go_num, hq, HN⟩
              case measure => simp [intOf]; omega
            · have HG : Hid (true = r) := Lib.hid (by rw [← HR.out]; exact (any_hit HX.out (any_hit HY.out HT.out)).symm)
              go_wp2_with fail
              go_ret
              exact ⟨ret_bool HG.out, hq⟩
          · have hne : (x1 == y1) = false := by simp [e1]
            have HN : Hid (NoneUp (meetN (x1, x2, x3)) vs (k + 1)) := Lib.hid (HNk.out.succ HY.out (by unfold meetN; rw [show ((x1, x2, x3) : Int × Int × Int).1 = x1 from rfl]; simp [e1]))
            clear ht HT
            go_wp2_with fail
            refine region_mix (Below wr.heap.size wr) [(0, false), (1, false), (2, false), (3, false), (4, false), (5, false), (6, false), (7, false), (8, false), (9, false), (10, false), (11, false), (12, false), (13, false), (14, false), (15, false), (16, false), (17, false), (18, false), (19, false), (20, false), (21, false), (22, false), (23, false)] (by kernel_rfl) (by kernel_rfl) (Below wr.heap.size wr) ⟨Closed.below wr, fun _ h => h⟩ (Below.refl _ _).drew ?_
            simp only [pickOps, List.getElem?_cons_zero, List.getElem?_cons_succ]
            repeat (first | (refine mix_skip (by rfl) ?_; simp only [Act.put, List.setIfInBounds_toArray, List.set_cons_zero, List.set_cons_succ]) | (refine mix_read _ (by rfl) (fun W hW => by (obtain ⟨c0, c1, d0, d1⟩ := HF.out W (HBS.out W hW); go_simp; first | done | with_reducible rfl)) ?_; simp only [Act.put, List.setIfInBounds_toArray, List.set_cons_zero, List.set_cons_succ]))
            refine mix_nil (fun W hW => ?_)
            have hq := HBS.out W hW
            clear hW HBS HF
            go_wp2_with fail
            go_roundw
            case rel => exact ⟨k + 1, hkt, by go_num, hq, HN⟩
            case measure => simp [intOf]; omega
        · obtain rfl : k = vs.length := by omega
          have HN : Hid (NoneUp (fun x => vs.any (meetN x)) us (j + 1)) := Lib.hid (HNo.out.succ HX.out (NoneUp.any HNk.out))
          go_wp2_with fail
          go_roundw
          case rel => exact ⟨j + 1, hlt, by go_num, hq, HN⟩
          case measure => simp [intOf]; omega
    · obtain rfl : j = us.length := by omega
      have HG : Hid (false = r) := Lib.hid (by rw [← HR.out]; exact (NoneUp.any HNo.out).symm)
      go_wp2_with fail
      go_ret
      exact ⟨ret_bool HG.out, hq⟩

end Go.Proofs.Ytljpiafopbfdlaa
