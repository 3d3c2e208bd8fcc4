/- HeldApart: for every input the Go function returns true. -/
import Derived.Deep.CutRange
import Derived.RangeFuncNested
import Derived.RangeFuncBound
import Derived.RangeFuncCalls
import Derived.RangeFuncLeaves
import Derived.RangeFuncBox
import Derived.Shelf.Abstract
import Derived.Shelf.RegionOpen
import Derived.WalkKit
import Derived.OwnWalkIn
import Derived.TacticsInMore
import Derived.LoopNIn
import Derived.LoopIn
import Derived.WalkMore
import Derived.Test.YtljpiafopbfdlaaQHlR
import Derived.Test.YtljpiafopbfdlaaQHlJ
import Derived.Test.YtljpiafopbfdlaaQHlS
namespace Go.Proofs.Ytljpiafopbfdlaa
open Go.RowKit Go.Shelf
set_option linter.unusedVariables false
set_option linter.unusedSimpArgs false

theorem meets_sec {a b : Hld} {j : Nat} {s : Int} (h : a.secs[j]? = some s) : meetsH a b (j + 1) 0 = (meetsH a b j 0 || decide (s ∈ b.secs)) := by
  unfold meetsH
  rw [List.take_add_one, h, Option.toList_some, List.any_append]
  simp
theorem meets_pt (a b : Hld) (i k : Nat) : meetsH a b i (k + 1) = (meetsH a b i k || meetP a b k) := by
  unfold meetsH
  rw [List.range_succ, List.any_append]
  simp [Bool.or_assoc]
set_option maxRecDepth 100000 in
set_option maxHeartbeats 32000000 in
theorem heldApart_walk (HWK : Hid (∀ W, Calls Try.prog 9 #[] W fun e w' => e = .returned (.bool true) ∧ Below W.heap.size W w')) {a b : Hld} {w : World} (ha : HLies a w) (hb : HLies b w) (wa : HWf a) (wb : HWf b) : Calls Try.prog 4 #[a.val, b.val] w fun e w' => e = .returned (.bool true) ∧ Below w.heap.size w w' := by
  obtain ⟨Q, HQ, HQb, HQa, HQc, hq⟩ := keep_h2 a b w
  obtain ⟨W0, hW0⟩ : ∃ W0, (w.alloc (.cells a.cells.toArray 28)).alloc (.cells b.cells.toArray 28) = W0 := ⟨_, rfl⟩
  rw [hW0] at hq
  have HW0 := Lib.hid hW0
  have HLa := Lib.hid fun W (hW : Q W) => ha.on (HQb.out W hW)
  have HLb := Lib.hid fun W (hW : Q W) => hb.on (HQb.out W hW)
  have HF := Lib.hid (And.intro wa wb)
  obtain ⟨sa, has⟩ : ∃ s, a.small = s := ⟨_, rfl⟩
  obtain ⟨sb, hbs⟩ : ∃ s, b.small = s := ⟨_, rfl⟩
  clear hW0 ha hb wa wb
  go_enter Try.func4, Try.ntmps4
  go_upto_region 1 with (fail)
  rw [HW0.out]
  clear HW0
  apply wp_region_lit
  repeat (first | (refine wpList_skip (by rfl) ?_; simp only [Act.put, List.setIfInBounds_toArray, List.set_cons_zero, List.set_cons_succ]) | (refine wpList_read _ (by rfl) (exec_move (by rfl) (by rfl)) ?_; simp only [Act.put, List.setIfInBounds_toArray, List.set_cons_zero, List.set_cons_succ]) | (refine wpList_read _ (by rfl) (exec_hld (by rfl) (by rfl) (HQa.out _ hq)) ?_; simp only [Act.put, List.setIfInBounds_toArray, List.set_cons_zero, List.set_cons_succ]) | (refine wpList_read _ (by rfl) (exec_hld (by rfl) (by rfl) (HQc.out _ hq)) ?_; simp only [Act.put, List.setIfInBounds_toArray, List.set_cons_zero, List.set_cons_succ]) | (refine wpList_read _ (by rfl) (by (go_simp; first | done | with_reducible rfl)) ?_; simp only [Act.put, List.setIfInBounds_toArray, List.set_cons_zero, List.set_cons_succ]))
  refine wpList_callv (by rfl) (by (go_simp; first | done | rfl)) (great_any (h := a) _ has) (fun yga hyga => ?_)
  simp only [Act.put, List.setIfInBounds_toArray, List.set_cons_zero, List.set_cons_succ]
  replace hq := HQ.out _ _ hq hyga
  clear hyga
  cases sa
  · repeat (first | (refine wpList_skip (by rfl) ?_; simp only [Act.put, List.setIfInBounds_toArray, List.set_cons_zero, List.set_cons_succ]) | (refine wpList_read _ (by rfl) (exec_move (by rfl) (by rfl)) ?_; simp only [Act.put, List.setIfInBounds_toArray, List.set_cons_zero, List.set_cons_succ]) | (refine wpList_read _ (by rfl) (exec_hld (by rfl) (by rfl) (HQa.out _ hq)) ?_; simp only [Act.put, List.setIfInBounds_toArray, List.set_cons_zero, List.set_cons_succ]) | (refine wpList_read _ (by rfl) (exec_hld (by rfl) (by rfl) (HQc.out _ hq)) ?_; simp only [Act.put, List.setIfInBounds_toArray, List.set_cons_zero, List.set_cons_succ]) | (refine wpList_read _ (by rfl) (by (go_simp; first | done | with_reducible rfl)) ?_; simp only [Act.put, List.setIfInBounds_toArray, List.set_cons_zero, List.set_cons_succ]))
    go_wp2_with fail
    refine (HWK.out _).mono ?_
    rintro e wk ⟨rfl, hwk⟩
    have HB := Lib.hid ((HQb.out _ hq).trans (hwk.mono (HQb.out _ hq).size))
    clear hwk
    go_wp2_with fail
    go_ret
    exact ⟨rfl, HB.out⟩
  have HSa := Lib.hid (small_iff.1 has)
  clear has
  repeat (first | (refine wpList_skip (by rfl) ?_; simp only [Act.put, List.setIfInBounds_toArray, List.set_cons_zero, List.set_cons_succ]) | (refine wpList_read _ (by rfl) (exec_move (by rfl) (by rfl)) ?_; simp only [Act.put, List.setIfInBounds_toArray, List.set_cons_zero, List.set_cons_succ]) | (refine wpList_read _ (by rfl) (exec_hld (by rfl) (by rfl) (HQa.out _ hq)) ?_; simp only [Act.put, List.setIfInBounds_toArray, List.set_cons_zero, List.set_cons_succ]) | (refine wpList_read _ (by rfl) (exec_hld (by rfl) (by rfl) (HQc.out _ hq)) ?_; simp only [Act.put, List.setIfInBounds_toArray, List.set_cons_zero, List.set_cons_succ]) | (refine wpList_read _ (by rfl) (by (go_simp; first | done | with_reducible rfl)) ?_; simp only [Act.put, List.setIfInBounds_toArray, List.set_cons_zero, List.set_cons_succ]))
  refine wpList_callv (by rfl) (by (go_simp; first | done | rfl)) (great_any (h := b) _ hbs) (fun ygb hygb => ?_)
  simp only [Act.put, List.setIfInBounds_toArray, List.set_cons_zero, List.set_cons_succ]
  replace hq := HQ.out _ _ hq hygb
  clear hygb
  cases sb
  · repeat (first | (refine wpList_skip (by rfl) ?_; simp only [Act.put, List.setIfInBounds_toArray, List.set_cons_zero, List.set_cons_succ]) | (refine wpList_read _ (by rfl) (exec_move (by rfl) (by rfl)) ?_; simp only [Act.put, List.setIfInBounds_toArray, List.set_cons_zero, List.set_cons_succ]) | (refine wpList_read _ (by rfl) (exec_hld (by rfl) (by rfl) (HQa.out _ hq)) ?_; simp only [Act.put, List.setIfInBounds_toArray, List.set_cons_zero, List.set_cons_succ]) | (refine wpList_read _ (by rfl) (exec_hld (by rfl) (by rfl) (HQc.out _ hq)) ?_; simp only [Act.put, List.setIfInBounds_toArray, List.set_cons_zero, List.set_cons_succ]) | (refine wpList_read _ (by rfl) (by (go_simp; first | done | with_reducible rfl)) ?_; simp only [Act.put, List.setIfInBounds_toArray, List.set_cons_zero, List.set_cons_succ]))
    go_wp2_with fail
    refine (HWK.out _).mono ?_
    rintro e wk ⟨rfl, hwk⟩
    have HB := Lib.hid ((HQb.out _ hq).trans (hwk.mono (HQb.out _ hq).size))
    clear hwk
    go_wp2_with fail
    go_ret
    exact ⟨rfl, HB.out⟩
  have HSb := Lib.hid (small_iff.1 hbs)
  clear hbs
  repeat (first | (refine wpList_skip (by rfl) ?_; simp only [Act.put, List.setIfInBounds_toArray, List.set_cons_zero, List.set_cons_succ]) | (refine wpList_read _ (by rfl) (exec_move (by rfl) (by rfl)) ?_; simp only [Act.put, List.setIfInBounds_toArray, List.set_cons_zero, List.set_cons_succ]) | (refine wpList_read _ (by rfl) (exec_hld (by rfl) (by rfl) (HQa.out _ hq)) ?_; simp only [Act.put, List.setIfInBounds_toArray, List.set_cons_zero, List.set_cons_succ]) | (refine wpList_read _ (by rfl) (exec_hld (by rfl) (by rfl) (HQc.out _ hq)) ?_; simp only [Act.put, List.setIfInBounds_toArray, List.set_cons_zero, List.set_cons_succ]) | (refine wpList_read _ (by rfl) (by (go_simp; first | done | with_reducible rfl)) ?_; simp only [Act.put, List.setIfInBounds_toArray, List.set_cons_zero, List.set_cons_succ]))
  refine wpList_callx (by rfl) (by (go_simp; first | done | rfl)) (right17_any (HLa.out _ hq) HSa.out) (fun e yra he => ?_)
  obtain ⟨⟨ra, rfl, hma, hy⟩⟩ := he
  replace hq := HQ.out _ _ hq hy
  have HIa := Lib.hid hma
  clear hy hma
  refine ⟨_, rfl, ?_⟩
  simp only [Act.put, List.setIfInBounds_toArray, List.set_cons_zero, List.set_cons_succ]
  cases ra
  · repeat (first | (refine wpList_skip (by rfl) ?_; simp only [Act.put, List.setIfInBounds_toArray, List.set_cons_zero, List.set_cons_succ]) | (refine wpList_read _ (by rfl) (exec_move (by rfl) (by rfl)) ?_; simp only [Act.put, List.setIfInBounds_toArray, List.set_cons_zero, List.set_cons_succ]) | (refine wpList_read _ (by rfl) (exec_hld (by rfl) (by rfl) (HQa.out _ hq)) ?_; simp only [Act.put, List.setIfInBounds_toArray, List.set_cons_zero, List.set_cons_succ]) | (refine wpList_read _ (by rfl) (exec_hld (by rfl) (by rfl) (HQc.out _ hq)) ?_; simp only [Act.put, List.setIfInBounds_toArray, List.set_cons_zero, List.set_cons_succ]) | (refine wpList_read _ (by rfl) (by (go_simp; first | done | with_reducible rfl)) ?_; simp only [Act.put, List.setIfInBounds_toArray, List.set_cons_zero, List.set_cons_succ]))
    go_wp2_with fail
    refine (HWK.out _).mono ?_
    rintro e wk ⟨rfl, hwk⟩
    have HB := Lib.hid ((HQb.out _ hq).trans (hwk.mono (HQb.out _ hq).size))
    clear hwk
    go_wp2_with fail
    go_ret
    exact ⟨rfl, HB.out⟩
  have HMa : Hid (MayBe a) := Lib.hid (HIa.out (by first | rfl | trivial))
  repeat (first | (refine wpList_skip (by rfl) ?_; simp only [Act.put, List.setIfInBounds_toArray, List.set_cons_zero, List.set_cons_succ]) | (refine wpList_read _ (by rfl) (exec_move (by rfl) (by rfl)) ?_; simp only [Act.put, List.setIfInBounds_toArray, List.set_cons_zero, List.set_cons_succ]) | (refine wpList_read _ (by rfl) (exec_hld (by rfl) (by rfl) (HQa.out _ hq)) ?_; simp only [Act.put, List.setIfInBounds_toArray, List.set_cons_zero, List.set_cons_succ]) | (refine wpList_read _ (by rfl) (exec_hld (by rfl) (by rfl) (HQc.out _ hq)) ?_; simp only [Act.put, List.setIfInBounds_toArray, List.set_cons_zero, List.set_cons_succ]) | (refine wpList_read _ (by rfl) (by (go_simp; first | done | with_reducible rfl)) ?_; simp only [Act.put, List.setIfInBounds_toArray, List.set_cons_zero, List.set_cons_succ]))
  refine wpList_callx (by rfl) (by (go_simp; first | done | rfl)) (right17_any (HLb.out _ hq) HSb.out) (fun e yrb he => ?_)
  obtain ⟨⟨rb, rfl, hmb, hy⟩⟩ := he
  replace hq := HQ.out _ _ hq hy
  have HIb := Lib.hid hmb
  clear hy hmb
  refine ⟨_, rfl, ?_⟩
  simp only [Act.put, List.setIfInBounds_toArray, List.set_cons_zero, List.set_cons_succ]
  cases rb
  · repeat (first | (refine wpList_skip (by rfl) ?_; simp only [Act.put, List.setIfInBounds_toArray, List.set_cons_zero, List.set_cons_succ]) | (refine wpList_read _ (by rfl) (exec_move (by rfl) (by rfl)) ?_; simp only [Act.put, List.setIfInBounds_toArray, List.set_cons_zero, List.set_cons_succ]) | (refine wpList_read _ (by rfl) (exec_hld (by rfl) (by rfl) (HQa.out _ hq)) ?_; simp only [Act.put, List.setIfInBounds_toArray, List.set_cons_zero, List.set_cons_succ]) | (refine wpList_read _ (by rfl) (exec_hld (by rfl) (by rfl) (HQc.out _ hq)) ?_; simp only [Act.put, List.setIfInBounds_toArray, List.set_cons_zero, List.set_cons_succ]) | (refine wpList_read _ (by rfl) (by (go_simp; first | done | with_reducible rfl)) ?_; simp only [Act.put, List.setIfInBounds_toArray, List.set_cons_zero, List.set_cons_succ]))
    go_wp2_with fail
    refine (HWK.out _).mono ?_
    rintro e wk ⟨rfl, hwk⟩
    have HB := Lib.hid ((HQb.out _ hq).trans (hwk.mono (HQb.out _ hq).size))
    clear hwk
    go_wp2_with fail
    go_ret
    exact ⟨rfl, HB.out⟩
  have HMb : Hid (MayBe b) := Lib.hid (HIb.out (by first | rfl | trivial))
  repeat (first | (refine wpList_skip (by rfl) ?_; simp only [Act.put, List.setIfInBounds_toArray, List.set_cons_zero, List.set_cons_succ]) | (refine wpList_read _ (by rfl) (exec_move (by rfl) (by rfl)) ?_; simp only [Act.put, List.setIfInBounds_toArray, List.set_cons_zero, List.set_cons_succ]) | (refine wpList_read _ (by rfl) (exec_hld (by rfl) (by rfl) (HQa.out _ hq)) ?_; simp only [Act.put, List.setIfInBounds_toArray, List.set_cons_zero, List.set_cons_succ]) | (refine wpList_read _ (by rfl) (exec_hld (by rfl) (by rfl) (HQc.out _ hq)) ?_; simp only [Act.put, List.setIfInBounds_toArray, List.set_cons_zero, List.set_cons_succ]) | (refine wpList_read _ (by rfl) (by (go_simp; first | done | with_reducible rfl)) ?_; simp only [Act.put, List.setIfInBounds_toArray, List.set_cons_zero, List.set_cons_succ]))
  go_upto_region 4 with (fail)
  apply wp_region_lit
  repeat (first | (refine wpList_skip (by rfl) ?_; simp only [Act.put, List.setIfInBounds_toArray, List.set_cons_zero, List.set_cons_succ]) | (refine wpList_read _ (by rfl) (exec_move (by rfl) (by rfl)) ?_; simp only [Act.put, List.setIfInBounds_toArray, List.set_cons_zero, List.set_cons_succ]) | (refine wpList_read _ (by rfl) (exec_hld (by rfl) (by rfl) (HQa.out _ hq)) ?_; simp only [Act.put, List.setIfInBounds_toArray, List.set_cons_zero, List.set_cons_succ]) | (refine wpList_read _ (by rfl) (exec_hld (by rfl) (by rfl) (HQc.out _ hq)) ?_; simp only [Act.put, List.setIfInBounds_toArray, List.set_cons_zero, List.set_cons_succ]) | (refine wpList_read _ (by rfl) (by (go_simp; first | done | with_reducible rfl)) ?_; simp only [Act.put, List.setIfInBounds_toArray, List.set_cons_zero, List.set_cons_succ]))
  refine wpList_callx (by rfl) (by (go_simp; first | done | rfl)) (Sections_any (HLa.out _ hq) HSa.out) (fun e y4 he => ?_)
  obtain ⟨⟨A, C⟩, rfl, hrow, hy⟩ := he
  replace hq := HQ.out _ _ hq hy
  clear hy
  refine ⟨_, rfl, ?_⟩
  simp only [Act.put, List.setIfInBounds_toArray, List.set_cons_zero, List.set_cons_succ]
  repeat (first | (refine wpList_skip (by rfl) ?_; simp only [Act.put, List.setIfInBounds_toArray, List.set_cons_zero, List.set_cons_succ]) | (refine wpList_read _ (by rfl) (exec_move (by rfl) (by rfl)) ?_; simp only [Act.put, List.setIfInBounds_toArray, List.set_cons_zero, List.set_cons_succ]) | (refine wpList_read _ (by rfl) (exec_hld (by rfl) (by rfl) (HQa.out _ hq)) ?_; simp only [Act.put, List.setIfInBounds_toArray, List.set_cons_zero, List.set_cons_succ]) | (refine wpList_read _ (by rfl) (exec_hld (by rfl) (by rfl) (HQc.out _ hq)) ?_; simp only [Act.put, List.setIfInBounds_toArray, List.set_cons_zero, List.set_cons_succ]) | (refine wpList_read _ (by rfl) (by (go_simp; first | done | with_reducible rfl)) ?_; simp only [Act.put, List.setIfInBounds_toArray, List.set_cons_zero, List.set_cons_succ]))
  obtain ⟨l, hl⟩ : ∃ l, a.secs = l := ⟨_, rfl⟩
  have HLS := Lib.hid hl
  have hln : l.length ≤ 50 := by rw [← hl]; exact secs_le HSa.out
  simp only at hrow ⊢
  rw [hl] at hrow ⊢
  obtain ⟨Q2, HQ2, HQ2q, HQ2r, hq2⟩ : ∃ Q2 : World → Prop, Hid (Closed Q2) ∧ Hid (∀ W, Q2 W → Q W) ∧ Hid (∀ W, Q2 W → Row W W.heap.size A (nums .i64 l)) ∧ Q2 y4 := ⟨fun W => Q W ∧ Row W W.heap.size A (nums .i64 l), Lib.hid (HQ.out.and (fun _ _ h hb => h.on hb)), Lib.hid fun _ h => h.1, Lib.hid fun _ h => h.2, hq, hrow⟩
  clear hl hrow hq
  go_wp2_with fail
  go_loopw [5, 7] (fun m i wr => ∃ j : Nat, j ≤ l.length ∧ m = .bool (meetsH a b j 0) ∧ i = .int .i64 j ∧ Q2 wr) (fun _ i _ => l.length - (intOf i).toNat)
  case atStart => exact ⟨0, by omega, rfl, rfl, hq2⟩
  case round =>
    clear hq2
    obtain ⟨j, hj, rfl, rfl, hq2⟩ := hrel
    by_cases hlt : j < l.length
    · have hlt' : (j : Int) < l.length := by omega
      obtain ⟨s, hs⟩ : ∃ s, l[j]? = some s := ⟨_, List.getElem?_eq_getElem hlt⟩
      have HNX : Hid (meetsH a b (j + 1) 0 = (meetsH a b j 0 || decide (s ∈ b.secs))) := Lib.hid (meets_sec (by rw [HLS.out]; exact hs))
      obtain ⟨bb, off, hA, _, _⟩ := (HQ2r.out _ hq2).num hlt
      have HC : Hid (∀ W, Q2 W → W.cell? ⟨bb, off + j, none⟩ = some (.int .i64 s)) := Lib.hid fun W hW => by
        obtain ⟨b', o', e, _, h2⟩ := (HQ2r.out _ hW).num hlt
        rw [hA] at e
        cases e
        rw [hs] at h2
        exact h2
      obtain ⟨m, hm⟩ : ∃ m, meetsH a b j 0 = m := ⟨_, rfl⟩
      obtain ⟨t, ht⟩ : ∃ t, decide (s ∈ b.secs) = t := ⟨_, rfl⟩
      rw [hm, ht] at HNX
      rw [hm, hA]
      have HA := Lib.hid (And.intro hA ht)
      clear hs hA hm ht
      cases m
      · go_wp2_with fail
        have HBS : Hid (∀ W, Below wr.heap.size wr W → Q2 W) := Lib.hid (fun W hB => HQ2.out _ _ hq2 hB)
        clear hq2
        refine region_mix (Below wr.heap.size wr) [(0, false), (1, false), (2, false), (3, false), (4, false), (5, false), (6, false), (7, false), (8, false), (9, false)] (by kernel_rfl) (by kernel_rfl) (Below wr.heap.size wr) ⟨Closed.below wr, fun _ h => h⟩ (Below.refl _ _).drew ?_
        simp only [pickOps, List.getElem?_cons_zero, List.getElem?_cons_succ]
        repeat (first | (refine mix_skip (by rfl) ?_; simp only [Act.put, List.setIfInBounds_toArray, List.set_cons_zero, List.set_cons_succ]) | (refine mix_read _ (by rfl) (fun W hW => exec_hld (by rfl) (by rfl) (HQc.out W (HQ2q.out W (HBS.out W hW)))) ?_; simp only [Act.put, List.setIfInBounds_toArray, List.set_cons_zero, List.set_cons_succ]) | (refine mix_read _ (by rfl) (fun W hW => by (have c0 := HC.out W (HBS.out W hW); clear hW; go_simp; first | done | with_reducible rfl)) ?_; simp only [Act.put, List.setIfInBounds_toArray, List.set_cons_zero, List.set_cons_succ]) | (refine mix_call _ _ _ (by rfl) (fun W hW => by (clear hW; go_simp; first | done | rfl)) (fun W hW => Has_any s (HLb.out W (HQ2q.out W (HBS.out W hW))) HA.out.2) ?_; simp only [Act.put, List.setIfInBounds_toArray, List.set_cons_zero, List.set_cons_succ]))
        refine mix_nil (fun W hW => ?_)
        have hq2 := HBS.out W hW
        clear hW HBS
        go_wp2_with fail
        go_roundw
        case rel => exact ⟨j + 1, hlt, by rw [HNX.out]; rfl, by go_num, hq2⟩
        case measure => simp [intOf]; omega
      · go_wp2_with fail
        have HBS : Hid (∀ W, Below wr.heap.size wr W → Q2 W) := Lib.hid (fun W hB => HQ2.out _ _ hq2 hB)
        clear hq2
        refine region_mix (Below wr.heap.size wr) [(0, false), (1, false), (2, false), (3, false), (4, false), (5, false), (6, false), (7, false), (8, false), (9, false)] (by kernel_rfl) (by kernel_rfl) (Below wr.heap.size wr) ⟨Closed.below wr, fun _ h => h⟩ (Below.refl _ _).drew ?_
        simp only [pickOps, List.getElem?_cons_zero, List.getElem?_cons_succ]
        repeat (first | (refine mix_skip (by rfl) ?_; simp only [Act.put, List.setIfInBounds_toArray, List.set_cons_zero, List.set_cons_succ]) | (refine mix_read _ (by rfl) (fun W hW => by (clear hW; go_simp; first | done | with_reducible rfl)) ?_; simp only [Act.put, List.setIfInBounds_toArray, List.set_cons_zero, List.set_cons_succ]))
        refine mix_nil (fun W hW => ?_)
        have hq2 := HBS.out W hW
        clear hW HBS
        go_wp2_with fail
        go_roundw
        case rel => exact ⟨j + 1, hlt, by rw [HNX.out]; rfl, by go_num, hq2⟩
        case measure => simp [intOf]; omega
    · obtain rfl : j = l.length := by omega
      have hq := HQ2q.out _ hq2
      clear hq2
      go_wp2_with fail
      go_loopw [5, 8] (fun m i wr => ∃ k : Nat, k ≤ 24 ∧ m = .bool (meetsH a b l.length k) ∧ i = .int .i64 k ∧ Q wr) (fun _ i _ => 24 - (intOf i).toNat)
      case atStart => exact ⟨0, by omega, rfl, rfl, hq⟩
      case round =>
        clear hq
        obtain ⟨k, hk, rfl, rfl, hq⟩ := hrel
        by_cases hkt : k < 24
        · have hkt' : (k : Int) < 24 := by omega
          obtain ⟨⟨x, o1⟩, hx⟩ : ∃ z, at13 a.needs k = z := ⟨_, rfl⟩
          obtain ⟨⟨y, o2⟩, hy⟩ : ∃ z, at13 b.needs k = z := ⟨_, rfl⟩
          have HNX : Hid (meetsH a b l.length (k + 1) = (meetsH a b l.length k || (o1 && (o2 && (x != y))))) := Lib.hid (by rw [meets_pt]; unfold meetP; rw [hx, hy])
          have HXY := Lib.hid (And.intro hx hy)
          obtain ⟨m, hm⟩ : ∃ m, meetsH a b l.length k = m := ⟨_, rfl⟩
          rw [hm] at HNX ⊢
          clear hx hy hm
          go_upto_region 12 with (fail)
          apply wp_region_lit
          repeat (first | (refine wpList_skip (by rfl) ?_; simp only [Act.put, List.setIfInBounds_toArray, List.set_cons_zero, List.set_cons_succ]) | (refine wpList_read _ (by rfl) (exec_move (by rfl) (by rfl)) ?_; simp only [Act.put, List.setIfInBounds_toArray, List.set_cons_zero, List.set_cons_succ]) | (refine wpList_read _ (by rfl) (exec_hld (by rfl) (by rfl) (HQa.out _ hq)) ?_; simp only [Act.put, List.setIfInBounds_toArray, List.set_cons_zero, List.set_cons_succ]) | (refine wpList_read _ (by rfl) (exec_hld (by rfl) (by rfl) (HQc.out _ hq)) ?_; simp only [Act.put, List.setIfInBounds_toArray, List.set_cons_zero, List.set_cons_succ]) | (refine wpList_read _ (by rfl) (by (go_simp; first | done | with_reducible rfl)) ?_; simp only [Act.put, List.setIfInBounds_toArray, List.set_cons_zero, List.set_cons_succ]))
          refine wpList_callv (by rfl) (by (go_simp; first | done | rfl)) (Wants_any (k : Int) (HLa.out _ hq) HXY.out.1) (fun yw1 hyw1 => ?_)
          simp only [Act.put, List.setIfInBounds_toArray, List.set_cons_zero, List.set_cons_succ]
          replace hq := HQ.out _ _ hq hyw1
          clear hyw1
          repeat (first | (refine wpList_skip (by rfl) ?_; simp only [Act.put, List.setIfInBounds_toArray, List.set_cons_zero, List.set_cons_succ]) | (refine wpList_read _ (by rfl) (exec_move (by rfl) (by rfl)) ?_; simp only [Act.put, List.setIfInBounds_toArray, List.set_cons_zero, List.set_cons_succ]) | (refine wpList_read _ (by rfl) (exec_hld (by rfl) (by rfl) (HQa.out _ hq)) ?_; simp only [Act.put, List.setIfInBounds_toArray, List.set_cons_zero, List.set_cons_succ]) | (refine wpList_read _ (by rfl) (exec_hld (by rfl) (by rfl) (HQc.out _ hq)) ?_; simp only [Act.put, List.setIfInBounds_toArray, List.set_cons_zero, List.set_cons_succ]) | (refine wpList_read _ (by rfl) (by (go_simp; first | done | with_reducible rfl)) ?_; simp only [Act.put, List.setIfInBounds_toArray, List.set_cons_zero, List.set_cons_succ]))
          go_upto_region 13 with (fail)
          apply wp_region_lit
          repeat (first | (refine wpList_skip (by rfl) ?_; simp only [Act.put, List.setIfInBounds_toArray, List.set_cons_zero, List.set_cons_succ]) | (refine wpList_read _ (by rfl) (exec_move (by rfl) (by rfl)) ?_; simp only [Act.put, List.setIfInBounds_toArray, List.set_cons_zero, List.set_cons_succ]) | (refine wpList_read _ (by rfl) (exec_hld (by rfl) (by rfl) (HQa.out _ hq)) ?_; simp only [Act.put, List.setIfInBounds_toArray, List.set_cons_zero, List.set_cons_succ]) | (refine wpList_read _ (by rfl) (exec_hld (by rfl) (by rfl) (HQc.out _ hq)) ?_; simp only [Act.put, List.setIfInBounds_toArray, List.set_cons_zero, List.set_cons_succ]) | (refine wpList_read _ (by rfl) (by (go_simp; first | done | with_reducible rfl)) ?_; simp only [Act.put, List.setIfInBounds_toArray, List.set_cons_zero, List.set_cons_succ]))
          refine wpList_callv (by rfl) (by (go_simp; first | done | rfl)) (Wants_any (k : Int) (HLb.out _ hq) HXY.out.2) (fun yw2 hyw2 => ?_)
          simp only [Act.put, List.setIfInBounds_toArray, List.set_cons_zero, List.set_cons_succ]
          replace hq := HQ.out _ _ hq hyw2
          clear hyw2
          repeat (first | (refine wpList_skip (by rfl) ?_; simp only [Act.put, List.setIfInBounds_toArray, List.set_cons_zero, List.set_cons_succ]) | (refine wpList_read _ (by rfl) (exec_move (by rfl) (by rfl)) ?_; simp only [Act.put, List.setIfInBounds_toArray, List.set_cons_zero, List.set_cons_succ]) | (refine wpList_read _ (by rfl) (exec_hld (by rfl) (by rfl) (HQa.out _ hq)) ?_; simp only [Act.put, List.setIfInBounds_toArray, List.set_cons_zero, List.set_cons_succ]) | (refine wpList_read _ (by rfl) (exec_hld (by rfl) (by rfl) (HQc.out _ hq)) ?_; simp only [Act.put, List.setIfInBounds_toArray, List.set_cons_zero, List.set_cons_succ]) | (refine wpList_read _ (by rfl) (by (go_simp; first | done | with_reducible rfl)) ?_; simp only [Act.put, List.setIfInBounds_toArray, List.set_cons_zero, List.set_cons_succ]))
          obtain ⟨t, hne⟩ : ∃ t, (x != y) = t := ⟨_, rfl⟩
          rw [hne] at HNX
          cases m <;> cases o1 <;> cases o2
          all_goals
            go_wp2_with fail
            go_roundw
            case rel => exact ⟨k + 1, hkt, by rw [HNX.out]; first | rfl | simp, by go_num, hq⟩
            case measure => simp [intOf]; omega
        · obtain rfl : k = 24 := by omega
          have HAP := Lib.hid (meets_all HMa.out HMb.out)
          rw [HLS.out] at HAP
          obtain ⟨m, hm⟩ : ∃ m, meetsH a b l.length 24 = m := ⟨_, rfl⟩
          rw [hm] at HAP ⊢
          have HAB : Hid (apartH b a = !m) := Lib.hid (by rw [apart_comm]; exact HAP.out)
          have HAA : Hid (apartH a a = decide (l.length = 0)) := Lib.hid (by rw [apart_self HMa.out.nc, HLS.out])
          obtain ⟨z, hz⟩ : ∃ z, decide (l.length = 0) = z := ⟨_, rfl⟩
          rw [hz] at HAA
          have hz0 : ((l.length : Int) == 0) = z := by rw [← hz, Bool.eq_iff_iff, beq_iff_eq, decide_eq_true_eq]; omega
          clear hm hz
          go_upto_region 15 with (fail)
          apply wp_region_lit
          repeat (first | (refine wpList_skip (by rfl) ?_; simp only [Act.put, List.setIfInBounds_toArray, List.set_cons_zero, List.set_cons_succ]) | (refine wpList_read _ (by rfl) (exec_move (by rfl) (by rfl)) ?_; simp only [Act.put, List.setIfInBounds_toArray, List.set_cons_zero, List.set_cons_succ]) | (refine wpList_read _ (by rfl) (exec_hld (by rfl) (by rfl) (HQa.out _ hq)) ?_; simp only [Act.put, List.setIfInBounds_toArray, List.set_cons_zero, List.set_cons_succ]) | (refine wpList_read _ (by rfl) (exec_hld (by rfl) (by rfl) (HQc.out _ hq)) ?_; simp only [Act.put, List.setIfInBounds_toArray, List.set_cons_zero, List.set_cons_succ]) | (refine wpList_read _ (by rfl) (by (go_simp; first | done | with_reducible rfl)) ?_; simp only [Act.put, List.setIfInBounds_toArray, List.set_cons_zero, List.set_cons_succ]))
          refine wpList_callv (by rfl) (by (go_simp; first | done | rfl)) (Apart_any (HLa.out _ hq) (HLb.out _ hq) HF.out.1 HF.out.2 HSa.out HSb.out HAP.out) (fun yp1 hyp1 => ?_)
          simp only [Act.put, List.setIfInBounds_toArray, List.set_cons_zero, List.set_cons_succ]
          replace hq := HQ.out _ _ hq hyp1
          clear hyp1
          have e1 : ∀ x : Bool, (x == x) = true := fun x => by cases x <;> rfl
          repeat (first | (refine wpList_skip (by rfl) ?_; simp only [Act.put, List.setIfInBounds_toArray, List.set_cons_zero, List.set_cons_succ]) | (refine wpList_read _ (by rfl) (exec_move (by rfl) (by rfl)) ?_; simp only [Act.put, List.setIfInBounds_toArray, List.set_cons_zero, List.set_cons_succ]) | (refine wpList_read _ (by rfl) (exec_hld (by rfl) (by rfl) (HQa.out _ hq)) ?_; simp only [Act.put, List.setIfInBounds_toArray, List.set_cons_zero, List.set_cons_succ]) | (refine wpList_read _ (by rfl) (exec_hld (by rfl) (by rfl) (HQc.out _ hq)) ?_; simp only [Act.put, List.setIfInBounds_toArray, List.set_cons_zero, List.set_cons_succ]) | (refine wpList_read _ (by rfl) (by (go_simp; first | done | with_reducible rfl)) ?_; simp only [Act.put, List.setIfInBounds_toArray, List.set_cons_zero, List.set_cons_succ]))
          refine wpList_callv (by rfl) (by (go_simp; first | done | rfl)) (Apart_any (HLb.out _ hq) (HLa.out _ hq) HF.out.2 HF.out.1 HSb.out HSa.out HAB.out) (fun yp2 hyp2 => ?_)
          simp only [Act.put, List.setIfInBounds_toArray, List.set_cons_zero, List.set_cons_succ]
          replace hq := HQ.out _ _ hq hyp2
          clear hyp2
          repeat (first | (refine wpList_skip (by rfl) ?_; simp only [Act.put, List.setIfInBounds_toArray, List.set_cons_zero, List.set_cons_succ]) | (refine wpList_read _ (by rfl) (exec_move (by rfl) (by rfl)) ?_; simp only [Act.put, List.setIfInBounds_toArray, List.set_cons_zero, List.set_cons_succ]) | (refine wpList_read _ (by rfl) (exec_hld (by rfl) (by rfl) (HQa.out _ hq)) ?_; simp only [Act.put, List.setIfInBounds_toArray, List.set_cons_zero, List.set_cons_succ]) | (refine wpList_read _ (by rfl) (exec_hld (by rfl) (by rfl) (HQc.out _ hq)) ?_; simp only [Act.put, List.setIfInBounds_toArray, List.set_cons_zero, List.set_cons_succ]) | (refine wpList_read _ (by rfl) (by (go_simp; first | done | with_reducible rfl)) ?_; simp only [Act.put, List.setIfInBounds_toArray, List.set_cons_zero, List.set_cons_succ]))
          refine wpList_callv (by rfl) (by (go_simp; first | done | rfl)) (Apart_any (HLa.out _ hq) (HLa.out _ hq) HF.out.1 HF.out.1 HSa.out HSa.out HAA.out) (fun yp3 hyp3 => ?_)
          simp only [Act.put, List.setIfInBounds_toArray, List.set_cons_zero, List.set_cons_succ]
          replace hq := HQ.out _ _ hq hyp3
          clear hyp3
          repeat (first | (refine wpList_skip (by rfl) ?_; simp only [Act.put, List.setIfInBounds_toArray, List.set_cons_zero, List.set_cons_succ]) | (refine wpList_read _ (by rfl) (exec_move (by rfl) (by rfl)) ?_; simp only [Act.put, List.setIfInBounds_toArray, List.set_cons_zero, List.set_cons_succ]) | (refine wpList_read _ (by rfl) (exec_hld (by rfl) (by rfl) (HQa.out _ hq)) ?_; simp only [Act.put, List.setIfInBounds_toArray, List.set_cons_zero, List.set_cons_succ]) | (refine wpList_read _ (by rfl) (exec_hld (by rfl) (by rfl) (HQc.out _ hq)) ?_; simp only [Act.put, List.setIfInBounds_toArray, List.set_cons_zero, List.set_cons_succ]) | (refine wpList_read _ (by rfl) (by (go_simp; first | done | with_reducible rfl)) ?_; simp only [Act.put, List.setIfInBounds_toArray, List.set_cons_zero, List.set_cons_succ]))
          repeat (first | (refine wpList_skip (by rfl) ?_; simp only [Act.put, List.setIfInBounds_toArray, List.set_cons_zero, List.set_cons_succ]) | (refine wpList_read _ (by rfl) (exec_move (by rfl) (by rfl)) ?_; simp only [Act.put, List.setIfInBounds_toArray, List.set_cons_zero, List.set_cons_succ]) | (refine wpList_read _ (by rfl) (exec_hld (by rfl) (by rfl) (HQa.out _ hq)) ?_; simp only [Act.put, List.setIfInBounds_toArray, List.set_cons_zero, List.set_cons_succ]) | (refine wpList_read _ (by rfl) (exec_hld (by rfl) (by rfl) (HQc.out _ hq)) ?_; simp only [Act.put, List.setIfInBounds_toArray, List.set_cons_zero, List.set_cons_succ]) | (refine wpList_read _ (by rfl) (by (go_simp; first | done | with_reducible rfl)) ?_; simp only [Act.put, List.setIfInBounds_toArray, List.set_cons_zero, List.set_cons_succ]))
          refine wpList_callv (by rfl) (by (go_simp; first | done | rfl)) (HWK.out _) (fun ywk hywk => ?_)
          simp only [Act.put, List.setIfInBounds_toArray, List.set_cons_zero, List.set_cons_succ]
          replace hq := HQ.out _ _ hq hywk
          clear hywk
          repeat (first | (refine wpList_skip (by rfl) ?_; simp only [Act.put, List.setIfInBounds_toArray, List.set_cons_zero, List.set_cons_succ]) | (refine wpList_read _ (by rfl) (exec_move (by rfl) (by rfl)) ?_; simp only [Act.put, List.setIfInBounds_toArray, List.set_cons_zero, List.set_cons_succ]) | (refine wpList_read _ (by rfl) (exec_hld (by rfl) (by rfl) (HQa.out _ hq)) ?_; simp only [Act.put, List.setIfInBounds_toArray, List.set_cons_zero, List.set_cons_succ]) | (refine wpList_read _ (by rfl) (exec_hld (by rfl) (by rfl) (HQc.out _ hq)) ?_; simp only [Act.put, List.setIfInBounds_toArray, List.set_cons_zero, List.set_cons_succ]) | (refine wpList_read _ (by rfl) (by (go_simp; first | done | with_reducible rfl)) ?_; simp only [Act.put, List.setIfInBounds_toArray, List.set_cons_zero, List.set_cons_succ]))
          go_wp2_with fail
          go_ret
          exact ⟨rfl, HQb.out _ hq⟩

end Go.Proofs.Ytljpiafopbfdlaa
