/- HeldOwn: for every input the Go function returns true. -/
import Derived.Deep.CutRange
import Derived.RangeFuncNested
import Derived.RangeFuncBound
import Derived.RangeFuncCalls
import Derived.RangeFuncLeaves
import Derived.RangeFuncBox
import Derived.Shelf.Abstract
import Derived.Shelf.RegionOpen
import Derived.WalkKit
import Derived.OwnWalkIn
import Derived.TacticsInMore
import Derived.LoopNIn
import Derived.LoopIn
import Derived.WalkMore
import Derived.Test.YtljpiafopbfdlaaQHlX
import Derived.Test.YtljpiafopbfdlaaQHlS
import Derived.Test.YtljpiafopbfdlaaQHlT
import Derived.Test.YtljpiafopbfdlaaQStrip
namespace Go.Proofs.Ytljpiafopbfdlaa
open Go.RowKit Go.Shelf
set_option linter.unusedVariables false
set_option linter.unusedSimpArgs false

theorem small_re {h : Hld} (hs : Small h) (x : Rm) : Small (h.re x) := ⟨hs.p, hs.o, hs.n⟩
set_option maxRecDepth 100000 in
set_option maxHeartbeats 32000000 in
theorem heldOwn_walk (HWK : Hid (∀ W, Calls Try.prog 9 #[] W fun e w' => e = .returned (.bool true) ∧ Below W.heap.size W w')) {a b : Hld} {w : World} (ha : HLies a w) (hb : HLies b w) : Calls Try.prog 6 #[a.val, b.val] w fun e w' => e = .returned (.bool true) ∧ Below w.heap.size w w' := by
  obtain ⟨Q, HQ, HQb, HQa, HQc, hq⟩ := keep_h2 a b w
  obtain ⟨W0, hW0⟩ : ∃ W0, (w.alloc (.cells a.cells.toArray 28)).alloc (.cells b.cells.toArray 28) = W0 := ⟨_, rfl⟩
  rw [hW0] at hq
  have HW0 := Lib.hid hW0
  have HLa := Lib.hid fun W (hW : Q W) => ha.on (HQb.out W hW)
  have HLb := Lib.hid fun W (hW : Q W) => hb.on (HQb.out W hW)
  have HAB := Lib.hid (And.intro ha hb)
  obtain ⟨sa, has⟩ : ∃ s, a.small = s := ⟨_, rfl⟩
  obtain ⟨sb, hbs⟩ : ∃ s, b.small = s := ⟨_, rfl⟩
  clear hW0 ha hb
  go_enter Try.func6, Try.ntmps6
  go_upto_region 1 with (fail)
  rw [HW0.out]
  clear HW0
  go_wp2_with (first | (refine wpList_read _ (by rfl) (exec_hld (by rfl) (by rfl) (HQa.out _ hq)) ?_; simp only [Act.put, List.setIfInBounds_toArray, List.set_cons_zero, List.set_cons_succ]) | (refine wpList_read _ (by rfl) (exec_hld (by rfl) (by rfl) (HQc.out _ hq)) ?_; simp only [Act.put, List.setIfInBounds_toArray, List.set_cons_zero, List.set_cons_succ]))
  refine (great_any (h := a) _ has).mono ?_
  rintro e yga ⟨rfl, hyga⟩
  replace hq := HQ.out _ _ hq hyga
  clear hyga
  cases sa
  · go_wp2_with (first | (refine wpList_read _ (by rfl) (exec_hld (by rfl) (by rfl) (HQa.out _ hq)) ?_; simp only [Act.put, List.setIfInBounds_toArray, List.set_cons_zero, List.set_cons_succ]) | (refine wpList_read _ (by rfl) (exec_hld (by rfl) (by rfl) (HQc.out _ hq)) ?_; simp only [Act.put, List.setIfInBounds_toArray, List.set_cons_zero, List.set_cons_succ]))
    refine (HWK.out _).mono ?_
    rintro e wk ⟨rfl, hwk⟩
    have HB := Lib.hid ((HQb.out _ hq).trans (hwk.mono (HQb.out _ hq).size))
    clear hwk
    go_wp2_with fail
    go_ret
    exact ⟨rfl, HB.out⟩
  have HSa := Lib.hid (small_iff.1 has)
  clear has
  go_wp2_with (first | (refine wpList_read _ (by rfl) (exec_hld (by rfl) (by rfl) (HQa.out _ hq)) ?_; simp only [Act.put, List.setIfInBounds_toArray, List.set_cons_zero, List.set_cons_succ]) | (refine wpList_read _ (by rfl) (exec_hld (by rfl) (by rfl) (HQc.out _ hq)) ?_; simp only [Act.put, List.setIfInBounds_toArray, List.set_cons_zero, List.set_cons_succ]))
  refine (great_any (h := b) _ hbs).mono ?_
  rintro e ygb ⟨rfl, hygb⟩
  replace hq := HQ.out _ _ hq hygb
  clear hygb
  cases sb
  · go_wp2_with (first | (refine wpList_read _ (by rfl) (exec_hld (by rfl) (by rfl) (HQa.out _ hq)) ?_; simp only [Act.put, List.setIfInBounds_toArray, List.set_cons_zero, List.set_cons_succ]) | (refine wpList_read _ (by rfl) (exec_hld (by rfl) (by rfl) (HQc.out _ hq)) ?_; simp only [Act.put, List.setIfInBounds_toArray, List.set_cons_zero, List.set_cons_succ]))
    refine (HWK.out _).mono ?_
    rintro e wk ⟨rfl, hwk⟩
    have HB := Lib.hid ((HQb.out _ hq).trans (hwk.mono (HQb.out _ hq).size))
    clear hwk
    go_wp2_with fail
    go_ret
    exact ⟨rfl, HB.out⟩
  have HSb := Lib.hid (small_iff.1 hbs)
  clear hbs
  go_upto_region 3 with (fail)
  have KX := Lib.hid fun W (hW : Below ygb.heap.size ygb W) => ownX_any (HLa.out _ (HQ.out _ _ hq hW)) HSa.out (n0 := ygb.heap.size) hW.size
  have KY := Lib.hid fun (n3 : Nat) W (hW : Below ygb.heap.size ygb W) (hn : n3 ≤ W.heap.size) => ownY_any (HLa.out _ (HQ.out _ _ hq hW)) HSa.out hn
  have HBX := Lib.hid fun W (hW : Below ygb.heap.size ygb W) => HQa.out _ (HQ.out _ _ hq hW)
  go_cut [5, 6] from 12 to 169 (fun u v wx => ∃ (gx gy : Nat) (X : Rm × Nat × Nat × Nat) (y : Rm), u = .pointer (some ⟨gx, 0, none⟩) ∧ v = .pointer (some ⟨gy, 0, none⟩) ∧ Hid (OwR a ygb X y gx gy (a.re X.1).cells (a.re y).cells wx))
  case first =>
    refine region_tree3 (fun W => Below ygb.heap.size ygb W) (.fork3 [(0, false), (2, false)] 1 4 5 (.fork3 [] 3 4 5 (.fork [] 4 5 (.last [(5, true), (6, true), (7, true)]) (.last [(4, true), (6, true), (7, true)])) (.fork [] 3 5 (.last [(5, true), (6, true), (7, true)]) (.last [(3, true), (6, true), (7, true)])) (.fork [] 3 4 (.last [(4, true), (6, true), (7, true)]) (.last [(3, true), (6, true), (7, true)]))) (.fork [] 1 5 (.fork [] 3 5 (.last [(5, true), (6, true), (7, true)]) (.last [(3, true), (6, true), (7, true)])) (.last [(1, true), (3, true), (6, true), (7, true)])) (.fork [] 1 4 (.fork [] 3 4 (.last [(4, true), (6, true), (7, true)]) (.last [(3, true), (6, true), (7, true)])) (.last [(1, true), (3, true), (6, true), (7, true)]))) (by kernel_rfl) (by kernel_rfl) (fun W => Below ygb.heap.size ygb W) ⟨Closed.below ygb, fun _ h => h⟩ (Below.refl _ _).drew ?_
    simp only [wpTree3, pickOps, List.getElem?_cons_zero, List.getElem?_cons_succ]
    repeat (first | (refine mix_read _ (by rfl) (fun W hW => exec_hld (by rfl) (by rfl) (HBX.out W hW)) ?_; simp only [Act.put, List.setIfInBounds_toArray, List.set_cons_zero, List.set_cons_succ]))
    refine mix_nil (fun hF => ⟨?_, ?_, ?_⟩)
    · refine mix_meet (fun X : Rm × Nat × Nat × Nat => (a.re X.1).val) (fun X => XOwn (a.re X.1) ygb.heap.size X.2.1 X.2.2.1 X.2.2.2) ⟨(Closed.below ygb), fun W hW => hW⟩ (fun X => XOwn.closed _ _ _ _ _) _ _ (by rfl) (fun W hW => by (clear hW; go_simp; first | done | rfl)) (fun W hW => KX.out W (hW)) (fun X => ?_)
      simp only [Act.put, List.setIfInBounds_toArray, List.set_cons_zero, List.set_cons_succ]
      refine mix_nil ?_
      refine mix_nil (fun hF => ⟨?_, ?_, ?_⟩)
      · refine mix_meet (fun y : Rm => (a.re y).val) (fun y => OwnB (a.re y) X.2.2.2) ⟨((Closed.below ygb).and (XOwn.closed _ _ _ _ _)), fun W hW => hW.1⟩ (fun y => OwnB.closed _ _) _ _ (by rfl) (fun W hW => by (clear hW; go_simp; first | done | rfl)) (fun W hW => KY.out X.2.2.2 W (hW.1) (hW.2).le.2.2) (fun y => ?_)
        simp only [Act.put, List.setIfInBounds_toArray, List.set_cons_zero, List.set_cons_succ]
        refine mix_nil ?_
        refine mix_nil (fun hF => ⟨?_, ?_⟩)
        · refine mix_alloc (ygb.heap.size) 28 [.int .i64 0, .int .i64 0, .int .i64 0, .slice none 0 0, .slice none 0 0, .slice none 0 0, .int .u8 0, .int .i64 0, .bool false, .bool false, .bool false, .bool false, .bool false, .bool false, .bool false, .bool false, .bool false, .bool false, .bool false, .bool false, .bool false, .int .i64 0, .bool false] ⟨(((Closed.below ygb).and (XOwn.closed _ _ _ _ _)).and (OwnB.closed _ _)), fun W hW => hW.1.1⟩ (fun W hW => (hW.1.1).size) (by rfl) (fun W hW => by (clear hW; go_simp; first | done | with_reducible rfl)) (fun gx hgx => ?_)
          simp only [Act.put, List.setIfInBounds_toArray, List.set_cons_zero, List.set_cons_succ]
          refine mix_nil ?_
          refine mix_alloc (gx + 1) 28 [.int .i64 0, .int .i64 0, .int .i64 0, .slice none 0 0, .slice none 0 0, .slice none 0 0, .int .u8 0, .int .i64 0, .bool false, .bool false, .bool false, .bool false, .bool false, .bool false, .bool false, .bool false, .bool false, .bool false, .bool false, .bool false, .bool false, .int .i64 0, .bool false] ⟨((((Closed.below ygb).and (XOwn.closed _ _ _ _ _)).and (OwnB.closed _ _)).and (Closed.whole _ _ _)), fun W hW => hW.1.1.1⟩ (fun W hW => (hW.2).lt) (by rfl) (fun W hW => by (clear hW; go_simp; first | done | with_reducible rfl)) (fun gy hgy => ?_)
          simp only [Act.put, List.setIfInBounds_toArray, List.set_cons_zero, List.set_cons_succ]
          refine mix_within 28 (.tmp 5) (.tmp 20) gx 0 (a.re X.1).cells (OwR a ygb X y gx gy (a.re X.1).cells [.int .i64 0, .int .i64 0, .int .i64 0, .slice none 0 0, .slice none 0 0, .slice none 0 0, .int .u8 0, .int .i64 0, .bool false, .bool false, .bool false, .bool false, .bool false, .bool false, .bool false, .bool false, .bool false, .bool false, .bool false, .bool false, .bool false, .int .i64 0, .bool false]) ⟨OwR.closed _ _ _ _ _ _ _ _, fun W hW => hW.below⟩ rfl (by rfl) (by rfl) hld_info (hld_all _) (by rfl) (fun W hW => hld_there (h := a.re X.1) (hW.1.2) rfl) (fun W hW => OwR.setx (cx := [.int .i64 0, .int .i64 0, .int .i64 0, .slice none 0 0, .slice none 0 0, .slice none 0 0, .int .u8 0, .int .i64 0, .bool false, .bool false, .bool false, .bool false, .bool false, .bool false, .bool false, .bool false, .bool false, .bool false, .bool false, .bool false, .bool false, .int .i64 0, .bool false]) (cy := [.int .i64 0, .int .i64 0, .int .i64 0, .slice none 0 0, .slice none 0 0, .slice none 0 0, .int .u8 0, .int .i64 0, .bool false, .bool false, .bool false, .bool false, .bool false, .bool false, .bool false, .bool false, .bool false, .bool false, .bool false, .bool false, .bool false, .int .i64 0, .bool false]) ⟨hW.1.1.1.1, hW.1.1.1.2, hW.1.1.2, hW.1.2, hW.2, by omega, by omega, by omega⟩ _ rfl) ?_
          simp only [Act.put, List.setIfInBounds_toArray, List.set_cons_zero, List.set_cons_succ]
          refine mix_within 28 (.tmp 6) (.tmp 22) gy 0 (a.re y).cells (OwR a ygb X y gx gy (a.re X.1).cells (a.re y).cells) ⟨OwR.closed _ _ _ _ _ _ _ _, fun W hW => hW.below⟩ rfl (by rfl) (by rfl) hld_info (hld_all _) (by rfl) (fun W hW => hld_there (h := a.re y) hW.by' rfl) (fun W hW => hW.sety _ rfl) ?_
          simp only [Act.put, List.setIfInBounds_toArray, List.set_cons_zero, List.set_cons_succ]
          refine mix_nil (fun W hW => ?_)
          have HW := Lib.hid hW
          clear hW
          go_wp2_with fail
          go_meet
          exact ⟨gx, gy, X, y, rfl, rfl, HW⟩
        · refine mix_alloc (ygb.heap.size) 28 [.int .i64 0, .int .i64 0, .int .i64 0, .slice none 0 0, .slice none 0 0, .slice none 0 0, .int .u8 0, .int .i64 0, .bool false, .bool false, .bool false, .bool false, .bool false, .bool false, .bool false, .bool false, .bool false, .bool false, .bool false, .bool false, .bool false, .int .i64 0, .bool false] ⟨(((Closed.below ygb).and (XOwn.closed _ _ _ _ _)).and (OwnB.closed _ _)), fun W hW => hW.1.1⟩ (fun W hW => (hW.1.1).size) (by rfl) (fun W hW => by (clear hW; go_simp; first | done | with_reducible rfl)) (fun gy hgy => ?_)
          simp only [Act.put, List.setIfInBounds_toArray, List.set_cons_zero, List.set_cons_succ]
          refine mix_nil ?_
          refine mix_alloc (gy + 1) 28 [.int .i64 0, .int .i64 0, .int .i64 0, .slice none 0 0, .slice none 0 0, .slice none 0 0, .int .u8 0, .int .i64 0, .bool false, .bool false, .bool false, .bool false, .bool false, .bool false, .bool false, .bool false, .bool false, .bool false, .bool false, .bool false, .bool false, .int .i64 0, .bool false] ⟨((((Closed.below ygb).and (XOwn.closed _ _ _ _ _)).and (OwnB.closed _ _)).and (Closed.whole _ _ _)), fun W hW => hW.1.1.1⟩ (fun W hW => (hW.2).lt) (by rfl) (fun W hW => by (clear hW; go_simp; first | done | with_reducible rfl)) (fun gx hgx => ?_)
          simp only [Act.put, List.setIfInBounds_toArray, List.set_cons_zero, List.set_cons_succ]
          refine mix_within 28 (.tmp 5) (.tmp 20) gx 0 (a.re X.1).cells (OwR a ygb X y gx gy (a.re X.1).cells [.int .i64 0, .int .i64 0, .int .i64 0, .slice none 0 0, .slice none 0 0, .slice none 0 0, .int .u8 0, .int .i64 0, .bool false, .bool false, .bool false, .bool false, .bool false, .bool false, .bool false, .bool false, .bool false, .bool false, .bool false, .bool false, .bool false, .int .i64 0, .bool false]) ⟨OwR.closed _ _ _ _ _ _ _ _, fun W hW => hW.below⟩ rfl (by rfl) (by rfl) hld_info (hld_all _) (by rfl) (fun W hW => hld_there (h := a.re X.1) (hW.2) rfl) (fun W hW => OwR.setx (cx := [.int .i64 0, .int .i64 0, .int .i64 0, .slice none 0 0, .slice none 0 0, .slice none 0 0, .int .u8 0, .int .i64 0, .bool false, .bool false, .bool false, .bool false, .bool false, .bool false, .bool false, .bool false, .bool false, .bool false, .bool false, .bool false, .bool false, .int .i64 0, .bool false]) (cy := [.int .i64 0, .int .i64 0, .int .i64 0, .slice none 0 0, .slice none 0 0, .slice none 0 0, .int .u8 0, .int .i64 0, .bool false, .bool false, .bool false, .bool false, .bool false, .bool false, .bool false, .bool false, .bool false, .bool false, .bool false, .bool false, .bool false, .int .i64 0, .bool false]) ⟨hW.1.1.1.1, hW.1.1.1.2, hW.1.1.2, hW.2, hW.1.2, by omega, by omega, by omega⟩ _ rfl) ?_
          simp only [Act.put, List.setIfInBounds_toArray, List.set_cons_zero, List.set_cons_succ]
          refine mix_within 28 (.tmp 6) (.tmp 22) gy 0 (a.re y).cells (OwR a ygb X y gx gy (a.re X.1).cells (a.re y).cells) ⟨OwR.closed _ _ _ _ _ _ _ _, fun W hW => hW.below⟩ rfl (by rfl) (by rfl) hld_info (hld_all _) (by rfl) (fun W hW => hld_there (h := a.re y) hW.by' rfl) (fun W hW => hW.sety _ rfl) ?_
          simp only [Act.put, List.setIfInBounds_toArray, List.set_cons_zero, List.set_cons_succ]
          refine mix_nil (fun W hW => ?_)
          have HW := Lib.hid hW
          clear hW
          go_wp2_with fail
          go_meet
          exact ⟨gx, gy, X, y, rfl, rfl, HW⟩
      · refine mix_alloc (ygb.heap.size) 28 [.int .i64 0, .int .i64 0, .int .i64 0, .slice none 0 0, .slice none 0 0, .slice none 0 0, .int .u8 0, .int .i64 0, .bool false, .bool false, .bool false, .bool false, .bool false, .bool false, .bool false, .bool false, .bool false, .bool false, .bool false, .bool false, .bool false, .int .i64 0, .bool false] ⟨((Closed.below ygb).and (XOwn.closed _ _ _ _ _)), fun W hW => hW.1⟩ (fun W hW => (hW.1).size) (by rfl) (fun W hW => by (clear hW; go_simp; first | done | with_reducible rfl)) (fun gx hgx => ?_)
        simp only [Act.put, List.setIfInBounds_toArray, List.set_cons_zero, List.set_cons_succ]
        refine mix_nil ?_
        refine mix_nil (fun hF => ⟨?_, ?_⟩)
        · refine mix_meet (fun y : Rm => (a.re y).val) (fun y => OwnB (a.re y) X.2.2.2) ⟨(((Closed.below ygb).and (XOwn.closed _ _ _ _ _)).and (Closed.whole _ _ _)), fun W hW => hW.1.1⟩ (fun y => OwnB.closed _ _) _ _ (by rfl) (fun W hW => by (clear hW; go_simp; first | done | rfl)) (fun W hW => KY.out X.2.2.2 W (hW.1.1) (hW.1.2).le.2.2) (fun y => ?_)
          simp only [Act.put, List.setIfInBounds_toArray, List.set_cons_zero, List.set_cons_succ]
          refine mix_nil ?_
          refine mix_alloc (gx + 1) 28 [.int .i64 0, .int .i64 0, .int .i64 0, .slice none 0 0, .slice none 0 0, .slice none 0 0, .int .u8 0, .int .i64 0, .bool false, .bool false, .bool false, .bool false, .bool false, .bool false, .bool false, .bool false, .bool false, .bool false, .bool false, .bool false, .bool false, .int .i64 0, .bool false] ⟨((((Closed.below ygb).and (XOwn.closed _ _ _ _ _)).and (Closed.whole _ _ _)).and (OwnB.closed _ _)), fun W hW => hW.1.1.1⟩ (fun W hW => (hW.1.2).lt) (by rfl) (fun W hW => by (clear hW; go_simp; first | done | with_reducible rfl)) (fun gy hgy => ?_)
          simp only [Act.put, List.setIfInBounds_toArray, List.set_cons_zero, List.set_cons_succ]
          refine mix_within 28 (.tmp 5) (.tmp 20) gx 0 (a.re X.1).cells (OwR a ygb X y gx gy (a.re X.1).cells [.int .i64 0, .int .i64 0, .int .i64 0, .slice none 0 0, .slice none 0 0, .slice none 0 0, .int .u8 0, .int .i64 0, .bool false, .bool false, .bool false, .bool false, .bool false, .bool false, .bool false, .bool false, .bool false, .bool false, .bool false, .bool false, .bool false, .int .i64 0, .bool false]) ⟨OwR.closed _ _ _ _ _ _ _ _, fun W hW => hW.below⟩ rfl (by rfl) (by rfl) hld_info (hld_all _) (by rfl) (fun W hW => hld_there (h := a.re X.1) (hW.1.1.2) rfl) (fun W hW => OwR.setx (cx := [.int .i64 0, .int .i64 0, .int .i64 0, .slice none 0 0, .slice none 0 0, .slice none 0 0, .int .u8 0, .int .i64 0, .bool false, .bool false, .bool false, .bool false, .bool false, .bool false, .bool false, .bool false, .bool false, .bool false, .bool false, .bool false, .bool false, .int .i64 0, .bool false]) (cy := [.int .i64 0, .int .i64 0, .int .i64 0, .slice none 0 0, .slice none 0 0, .slice none 0 0, .int .u8 0, .int .i64 0, .bool false, .bool false, .bool false, .bool false, .bool false, .bool false, .bool false, .bool false, .bool false, .bool false, .bool false, .bool false, .bool false, .int .i64 0, .bool false]) ⟨hW.1.1.1.1, hW.1.1.1.2, hW.1.2, hW.1.1.2, hW.2, by omega, by omega, by omega⟩ _ rfl) ?_
          simp only [Act.put, List.setIfInBounds_toArray, List.set_cons_zero, List.set_cons_succ]
          refine mix_within 28 (.tmp 6) (.tmp 22) gy 0 (a.re y).cells (OwR a ygb X y gx gy (a.re X.1).cells (a.re y).cells) ⟨OwR.closed _ _ _ _ _ _ _ _, fun W hW => hW.below⟩ rfl (by rfl) (by rfl) hld_info (hld_all _) (by rfl) (fun W hW => hld_there (h := a.re y) hW.by' rfl) (fun W hW => hW.sety _ rfl) ?_
          simp only [Act.put, List.setIfInBounds_toArray, List.set_cons_zero, List.set_cons_succ]
          refine mix_nil (fun W hW => ?_)
          have HW := Lib.hid hW
          clear hW
          go_wp2_with fail
          go_meet
          exact ⟨gx, gy, X, y, rfl, rfl, HW⟩
        · refine mix_alloc (gx + 1) 28 [.int .i64 0, .int .i64 0, .int .i64 0, .slice none 0 0, .slice none 0 0, .slice none 0 0, .int .u8 0, .int .i64 0, .bool false, .bool false, .bool false, .bool false, .bool false, .bool false, .bool false, .bool false, .bool false, .bool false, .bool false, .bool false, .bool false, .int .i64 0, .bool false] ⟨(((Closed.below ygb).and (XOwn.closed _ _ _ _ _)).and (Closed.whole _ _ _)), fun W hW => hW.1.1⟩ (fun W hW => (hW.2).lt) (by rfl) (fun W hW => by (clear hW; go_simp; first | done | with_reducible rfl)) (fun gy hgy => ?_)
          simp only [Act.put, List.setIfInBounds_toArray, List.set_cons_zero, List.set_cons_succ]
          refine mix_nil ?_
          refine mix_meet (fun y : Rm => (a.re y).val) (fun y => OwnB (a.re y) X.2.2.2) ⟨((((Closed.below ygb).and (XOwn.closed _ _ _ _ _)).and (Closed.whole _ _ _)).and (Closed.whole _ _ _)), fun W hW => hW.1.1.1⟩ (fun y => OwnB.closed _ _) _ _ (by rfl) (fun W hW => by (clear hW; go_simp; first | done | rfl)) (fun W hW => KY.out X.2.2.2 W (hW.1.1.1) (hW.1.1.2).le.2.2) (fun y => ?_)
          simp only [Act.put, List.setIfInBounds_toArray, List.set_cons_zero, List.set_cons_succ]
          refine mix_within 28 (.tmp 5) (.tmp 20) gx 0 (a.re X.1).cells (OwR a ygb X y gx gy (a.re X.1).cells [.int .i64 0, .int .i64 0, .int .i64 0, .slice none 0 0, .slice none 0 0, .slice none 0 0, .int .u8 0, .int .i64 0, .bool false, .bool false, .bool false, .bool false, .bool false, .bool false, .bool false, .bool false, .bool false, .bool false, .bool false, .bool false, .bool false, .int .i64 0, .bool false]) ⟨OwR.closed _ _ _ _ _ _ _ _, fun W hW => hW.below⟩ rfl (by rfl) (by rfl) hld_info (hld_all _) (by rfl) (fun W hW => hld_there (h := a.re X.1) (hW.1.1.2) rfl) (fun W hW => OwR.setx (cx := [.int .i64 0, .int .i64 0, .int .i64 0, .slice none 0 0, .slice none 0 0, .slice none 0 0, .int .u8 0, .int .i64 0, .bool false, .bool false, .bool false, .bool false, .bool false, .bool false, .bool false, .bool false, .bool false, .bool false, .bool false, .bool false, .bool false, .int .i64 0, .bool false]) (cy := [.int .i64 0, .int .i64 0, .int .i64 0, .slice none 0 0, .slice none 0 0, .slice none 0 0, .int .u8 0, .int .i64 0, .bool false, .bool false, .bool false, .bool false, .bool false, .bool false, .bool false, .bool false, .bool false, .bool false, .bool false, .bool false, .bool false, .int .i64 0, .bool false]) ⟨hW.1.1.1.1, hW.1.1.1.2, hW.2, hW.1.1.2, hW.1.2, by omega, by omega, by omega⟩ _ rfl) ?_
          simp only [Act.put, List.setIfInBounds_toArray, List.set_cons_zero, List.set_cons_succ]
          refine mix_within 28 (.tmp 6) (.tmp 22) gy 0 (a.re y).cells (OwR a ygb X y gx gy (a.re X.1).cells (a.re y).cells) ⟨OwR.closed _ _ _ _ _ _ _ _, fun W hW => hW.below⟩ rfl (by rfl) (by rfl) hld_info (hld_all _) (by rfl) (fun W hW => hld_there (h := a.re y) hW.by' rfl) (fun W hW => hW.sety _ rfl) ?_
          simp only [Act.put, List.setIfInBounds_toArray, List.set_cons_zero, List.set_cons_succ]
          refine mix_nil (fun W hW => ?_)
          have HW := Lib.hid hW
          clear hW
          go_wp2_with fail
          go_meet
          exact ⟨gx, gy, X, y, rfl, rfl, HW⟩
      · refine mix_alloc (ygb.heap.size) 28 [.int .i64 0, .int .i64 0, .int .i64 0, .slice none 0 0, .slice none 0 0, .slice none 0 0, .int .u8 0, .int .i64 0, .bool false, .bool false, .bool false, .bool false, .bool false, .bool false, .bool false, .bool false, .bool false, .bool false, .bool false, .bool false, .bool false, .int .i64 0, .bool false] ⟨((Closed.below ygb).and (XOwn.closed _ _ _ _ _)), fun W hW => hW.1⟩ (fun W hW => (hW.1).size) (by rfl) (fun W hW => by (clear hW; go_simp; first | done | with_reducible rfl)) (fun gy hgy => ?_)
        simp only [Act.put, List.setIfInBounds_toArray, List.set_cons_zero, List.set_cons_succ]
        refine mix_nil ?_
        refine mix_nil (fun hF => ⟨?_, ?_⟩)
        · refine mix_meet (fun y : Rm => (a.re y).val) (fun y => OwnB (a.re y) X.2.2.2) ⟨(((Closed.below ygb).and (XOwn.closed _ _ _ _ _)).and (Closed.whole _ _ _)), fun W hW => hW.1.1⟩ (fun y => OwnB.closed _ _) _ _ (by rfl) (fun W hW => by (clear hW; go_simp; first | done | rfl)) (fun W hW => KY.out X.2.2.2 W (hW.1.1) (hW.1.2).le.2.2) (fun y => ?_)
          simp only [Act.put, List.setIfInBounds_toArray, List.set_cons_zero, List.set_cons_succ]
          refine mix_nil ?_
          refine mix_alloc (gy + 1) 28 [.int .i64 0, .int .i64 0, .int .i64 0, .slice none 0 0, .slice none 0 0, .slice none 0 0, .int .u8 0, .int .i64 0, .bool false, .bool false, .bool false, .bool false, .bool false, .bool false, .bool false, .bool false, .bool false, .bool false, .bool false, .bool false, .bool false, .int .i64 0, .bool false] ⟨((((Closed.below ygb).and (XOwn.closed _ _ _ _ _)).and (Closed.whole _ _ _)).and (OwnB.closed _ _)), fun W hW => hW.1.1.1⟩ (fun W hW => (hW.1.2).lt) (by rfl) (fun W hW => by (clear hW; go_simp; first | done | with_reducible rfl)) (fun gx hgx => ?_)
          simp only [Act.put, List.setIfInBounds_toArray, List.set_cons_zero, List.set_cons_succ]
          refine mix_within 28 (.tmp 5) (.tmp 20) gx 0 (a.re X.1).cells (OwR a ygb X y gx gy (a.re X.1).cells [.int .i64 0, .int .i64 0, .int .i64 0, .slice none 0 0, .slice none 0 0, .slice none 0 0, .int .u8 0, .int .i64 0, .bool false, .bool false, .bool false, .bool false, .bool false, .bool false, .bool false, .bool false, .bool false, .bool false, .bool false, .bool false, .bool false, .int .i64 0, .bool false]) ⟨OwR.closed _ _ _ _ _ _ _ _, fun W hW => hW.below⟩ rfl (by rfl) (by rfl) hld_info (hld_all _) (by rfl) (fun W hW => hld_there (h := a.re X.1) (hW.2) rfl) (fun W hW => OwR.setx (cx := [.int .i64 0, .int .i64 0, .int .i64 0, .slice none 0 0, .slice none 0 0, .slice none 0 0, .int .u8 0, .int .i64 0, .bool false, .bool false, .bool false, .bool false, .bool false, .bool false, .bool false, .bool false, .bool false, .bool false, .bool false, .bool false, .bool false, .int .i64 0, .bool false]) (cy := [.int .i64 0, .int .i64 0, .int .i64 0, .slice none 0 0, .slice none 0 0, .slice none 0 0, .int .u8 0, .int .i64 0, .bool false, .bool false, .bool false, .bool false, .bool false, .bool false, .bool false, .bool false, .bool false, .bool false, .bool false, .bool false, .bool false, .int .i64 0, .bool false]) ⟨hW.1.1.1.1, hW.1.1.1.2, hW.1.2, hW.2, hW.1.1.2, by omega, by omega, by omega⟩ _ rfl) ?_
          simp only [Act.put, List.setIfInBounds_toArray, List.set_cons_zero, List.set_cons_succ]
          refine mix_within 28 (.tmp 6) (.tmp 22) gy 0 (a.re y).cells (OwR a ygb X y gx gy (a.re X.1).cells (a.re y).cells) ⟨OwR.closed _ _ _ _ _ _ _ _, fun W hW => hW.below⟩ rfl (by rfl) (by rfl) hld_info (hld_all _) (by rfl) (fun W hW => hld_there (h := a.re y) hW.by' rfl) (fun W hW => hW.sety _ rfl) ?_
          simp only [Act.put, List.setIfInBounds_toArray, List.set_cons_zero, List.set_cons_succ]
          refine mix_nil (fun W hW => ?_)
          have HW := Lib.hid hW
          clear hW
          go_wp2_with fail
          go_meet
          exact ⟨gx, gy, X, y, rfl, rfl, HW⟩
        · refine mix_alloc (gy + 1) 28 [.int .i64 0, .int .i64 0, .int .i64 0, .slice none 0 0, .slice none 0 0, .slice none 0 0, .int .u8 0, .int .i64 0, .bool false, .bool false, .bool false, .bool false, .bool false, .bool false, .bool false, .bool false, .bool false, .bool false, .bool false, .bool false, .bool false, .int .i64 0, .bool false] ⟨(((Closed.below ygb).and (XOwn.closed _ _ _ _ _)).and (Closed.whole _ _ _)), fun W hW => hW.1.1⟩ (fun W hW => (hW.2).lt) (by rfl) (fun W hW => by (clear hW; go_simp; first | done | with_reducible rfl)) (fun gx hgx => ?_)
          simp only [Act.put, List.setIfInBounds_toArray, List.set_cons_zero, List.set_cons_succ]
          refine mix_nil ?_
          refine mix_meet (fun y : Rm => (a.re y).val) (fun y => OwnB (a.re y) X.2.2.2) ⟨((((Closed.below ygb).and (XOwn.closed _ _ _ _ _)).and (Closed.whole _ _ _)).and (Closed.whole _ _ _)), fun W hW => hW.1.1.1⟩ (fun y => OwnB.closed _ _) _ _ (by rfl) (fun W hW => by (clear hW; go_simp; first | done | rfl)) (fun W hW => KY.out X.2.2.2 W (hW.1.1.1) (hW.1.1.2).le.2.2) (fun y => ?_)
          simp only [Act.put, List.setIfInBounds_toArray, List.set_cons_zero, List.set_cons_succ]
          refine mix_within 28 (.tmp 5) (.tmp 20) gx 0 (a.re X.1).cells (OwR a ygb X y gx gy (a.re X.1).cells [.int .i64 0, .int .i64 0, .int .i64 0, .slice none 0 0, .slice none 0 0, .slice none 0 0, .int .u8 0, .int .i64 0, .bool false, .bool false, .bool false, .bool false, .bool false, .bool false, .bool false, .bool false, .bool false, .bool false, .bool false, .bool false, .bool false, .int .i64 0, .bool false]) ⟨OwR.closed _ _ _ _ _ _ _ _, fun W hW => hW.below⟩ rfl (by rfl) (by rfl) hld_info (hld_all _) (by rfl) (fun W hW => hld_there (h := a.re X.1) (hW.1.2) rfl) (fun W hW => OwR.setx (cx := [.int .i64 0, .int .i64 0, .int .i64 0, .slice none 0 0, .slice none 0 0, .slice none 0 0, .int .u8 0, .int .i64 0, .bool false, .bool false, .bool false, .bool false, .bool false, .bool false, .bool false, .bool false, .bool false, .bool false, .bool false, .bool false, .bool false, .int .i64 0, .bool false]) (cy := [.int .i64 0, .int .i64 0, .int .i64 0, .slice none 0 0, .slice none 0 0, .slice none 0 0, .int .u8 0, .int .i64 0, .bool false, .bool false, .bool false, .bool false, .bool false, .bool false, .bool false, .bool false, .bool false, .bool false, .bool false, .bool false, .bool false, .int .i64 0, .bool false]) ⟨hW.1.1.1.1, hW.1.1.1.2, hW.2, hW.1.2, hW.1.1.2, by omega, by omega, by omega⟩ _ rfl) ?_
          simp only [Act.put, List.setIfInBounds_toArray, List.set_cons_zero, List.set_cons_succ]
          refine mix_within 28 (.tmp 6) (.tmp 22) gy 0 (a.re y).cells (OwR a ygb X y gx gy (a.re X.1).cells (a.re y).cells) ⟨OwR.closed _ _ _ _ _ _ _ _, fun W hW => hW.below⟩ rfl (by rfl) (by rfl) hld_info (hld_all _) (by rfl) (fun W hW => hld_there (h := a.re y) hW.by' rfl) (fun W hW => hW.sety _ rfl) ?_
          simp only [Act.put, List.setIfInBounds_toArray, List.set_cons_zero, List.set_cons_succ]
          refine mix_nil (fun W hW => ?_)
          have HW := Lib.hid hW
          clear hW
          go_wp2_with fail
          go_meet
          exact ⟨gx, gy, X, y, rfl, rfl, HW⟩
    · refine mix_alloc (ygb.heap.size) 28 [.int .i64 0, .int .i64 0, .int .i64 0, .slice none 0 0, .slice none 0 0, .slice none 0 0, .int .u8 0, .int .i64 0, .bool false, .bool false, .bool false, .bool false, .bool false, .bool false, .bool false, .bool false, .bool false, .bool false, .bool false, .bool false, .bool false, .int .i64 0, .bool false] ⟨(Closed.below ygb), fun W hW => hW⟩ (fun W hW => (hW).size) (by rfl) (fun W hW => by (clear hW; go_simp; first | done | with_reducible rfl)) (fun gx hgx => ?_)
      simp only [Act.put, List.setIfInBounds_toArray, List.set_cons_zero, List.set_cons_succ]
      refine mix_nil ?_
      refine mix_nil (fun hF => ⟨?_, ?_⟩)
      · refine mix_meet (fun X : Rm × Nat × Nat × Nat => (a.re X.1).val) (fun X => XOwn (a.re X.1) ygb.heap.size X.2.1 X.2.2.1 X.2.2.2) ⟨((Closed.below ygb).and (Closed.whole _ _ _)), fun W hW => hW.1⟩ (fun X => XOwn.closed _ _ _ _ _) _ _ (by rfl) (fun W hW => by (clear hW; go_simp; first | done | rfl)) (fun W hW => KX.out W (hW.1)) (fun X => ?_)
        simp only [Act.put, List.setIfInBounds_toArray, List.set_cons_zero, List.set_cons_succ]
        refine mix_nil ?_
        refine mix_nil (fun hF => ⟨?_, ?_⟩)
        · refine mix_meet (fun y : Rm => (a.re y).val) (fun y => OwnB (a.re y) X.2.2.2) ⟨(((Closed.below ygb).and (Closed.whole _ _ _)).and (XOwn.closed _ _ _ _ _)), fun W hW => hW.1.1⟩ (fun y => OwnB.closed _ _) _ _ (by rfl) (fun W hW => by (clear hW; go_simp; first | done | rfl)) (fun W hW => KY.out X.2.2.2 W (hW.1.1) (hW.2).le.2.2) (fun y => ?_)
          simp only [Act.put, List.setIfInBounds_toArray, List.set_cons_zero, List.set_cons_succ]
          refine mix_nil ?_
          refine mix_alloc (gx + 1) 28 [.int .i64 0, .int .i64 0, .int .i64 0, .slice none 0 0, .slice none 0 0, .slice none 0 0, .int .u8 0, .int .i64 0, .bool false, .bool false, .bool false, .bool false, .bool false, .bool false, .bool false, .bool false, .bool false, .bool false, .bool false, .bool false, .bool false, .int .i64 0, .bool false] ⟨((((Closed.below ygb).and (Closed.whole _ _ _)).and (XOwn.closed _ _ _ _ _)).and (OwnB.closed _ _)), fun W hW => hW.1.1.1⟩ (fun W hW => (hW.1.1.2).lt) (by rfl) (fun W hW => by (clear hW; go_simp; first | done | with_reducible rfl)) (fun gy hgy => ?_)
          simp only [Act.put, List.setIfInBounds_toArray, List.set_cons_zero, List.set_cons_succ]
          refine mix_within 28 (.tmp 5) (.tmp 20) gx 0 (a.re X.1).cells (OwR a ygb X y gx gy (a.re X.1).cells [.int .i64 0, .int .i64 0, .int .i64 0, .slice none 0 0, .slice none 0 0, .slice none 0 0, .int .u8 0, .int .i64 0, .bool false, .bool false, .bool false, .bool false, .bool false, .bool false, .bool false, .bool false, .bool false, .bool false, .bool false, .bool false, .bool false, .int .i64 0, .bool false]) ⟨OwR.closed _ _ _ _ _ _ _ _, fun W hW => hW.below⟩ rfl (by rfl) (by rfl) hld_info (hld_all _) (by rfl) (fun W hW => hld_there (h := a.re X.1) (hW.1.1.1.2) rfl) (fun W hW => OwR.setx (cx := [.int .i64 0, .int .i64 0, .int .i64 0, .slice none 0 0, .slice none 0 0, .slice none 0 0, .int .u8 0, .int .i64 0, .bool false, .bool false, .bool false, .bool false, .bool false, .bool false, .bool false, .bool false, .bool false, .bool false, .bool false, .bool false, .bool false, .int .i64 0, .bool false]) (cy := [.int .i64 0, .int .i64 0, .int .i64 0, .slice none 0 0, .slice none 0 0, .slice none 0 0, .int .u8 0, .int .i64 0, .bool false, .bool false, .bool false, .bool false, .bool false, .bool false, .bool false, .bool false, .bool false, .bool false, .bool false, .bool false, .bool false, .int .i64 0, .bool false]) ⟨hW.1.1.1.1, hW.1.1.2, hW.1.2, hW.1.1.1.2, hW.2, by omega, by omega, by omega⟩ _ rfl) ?_
          simp only [Act.put, List.setIfInBounds_toArray, List.set_cons_zero, List.set_cons_succ]
          refine mix_within 28 (.tmp 6) (.tmp 22) gy 0 (a.re y).cells (OwR a ygb X y gx gy (a.re X.1).cells (a.re y).cells) ⟨OwR.closed _ _ _ _ _ _ _ _, fun W hW => hW.below⟩ rfl (by rfl) (by rfl) hld_info (hld_all _) (by rfl) (fun W hW => hld_there (h := a.re y) hW.by' rfl) (fun W hW => hW.sety _ rfl) ?_
          simp only [Act.put, List.setIfInBounds_toArray, List.set_cons_zero, List.set_cons_succ]
          refine mix_nil (fun W hW => ?_)
          have HW := Lib.hid hW
          clear hW
          go_wp2_with fail
          go_meet
          exact ⟨gx, gy, X, y, rfl, rfl, HW⟩
        · refine mix_alloc (gx + 1) 28 [.int .i64 0, .int .i64 0, .int .i64 0, .slice none 0 0, .slice none 0 0, .slice none 0 0, .int .u8 0, .int .i64 0, .bool false, .bool false, .bool false, .bool false, .bool false, .bool false, .bool false, .bool false, .bool false, .bool false, .bool false, .bool false, .bool false, .int .i64 0, .bool false] ⟨(((Closed.below ygb).and (Closed.whole _ _ _)).and (XOwn.closed _ _ _ _ _)), fun W hW => hW.1.1⟩ (fun W hW => (hW.1.2).lt) (by rfl) (fun W hW => by (clear hW; go_simp; first | done | with_reducible rfl)) (fun gy hgy => ?_)
          simp only [Act.put, List.setIfInBounds_toArray, List.set_cons_zero, List.set_cons_succ]
          refine mix_nil ?_
          refine mix_meet (fun y : Rm => (a.re y).val) (fun y => OwnB (a.re y) X.2.2.2) ⟨((((Closed.below ygb).and (Closed.whole _ _ _)).and (XOwn.closed _ _ _ _ _)).and (Closed.whole _ _ _)), fun W hW => hW.1.1.1⟩ (fun y => OwnB.closed _ _) _ _ (by rfl) (fun W hW => by (clear hW; go_simp; first | done | rfl)) (fun W hW => KY.out X.2.2.2 W (hW.1.1.1) (hW.1.2).le.2.2) (fun y => ?_)
          simp only [Act.put, List.setIfInBounds_toArray, List.set_cons_zero, List.set_cons_succ]
          refine mix_within 28 (.tmp 5) (.tmp 20) gx 0 (a.re X.1).cells (OwR a ygb X y gx gy (a.re X.1).cells [.int .i64 0, .int .i64 0, .int .i64 0, .slice none 0 0, .slice none 0 0, .slice none 0 0, .int .u8 0, .int .i64 0, .bool false, .bool false, .bool false, .bool false, .bool false, .bool false, .bool false, .bool false, .bool false, .bool false, .bool false, .bool false, .bool false, .int .i64 0, .bool false]) ⟨OwR.closed _ _ _ _ _ _ _ _, fun W hW => hW.below⟩ rfl (by rfl) (by rfl) hld_info (hld_all _) (by rfl) (fun W hW => hld_there (h := a.re X.1) (hW.1.1.1.2) rfl) (fun W hW => OwR.setx (cx := [.int .i64 0, .int .i64 0, .int .i64 0, .slice none 0 0, .slice none 0 0, .slice none 0 0, .int .u8 0, .int .i64 0, .bool false, .bool false, .bool false, .bool false, .bool false, .bool false, .bool false, .bool false, .bool false, .bool false, .bool false, .bool false, .bool false, .int .i64 0, .bool false]) (cy := [.int .i64 0, .int .i64 0, .int .i64 0, .slice none 0 0, .slice none 0 0, .slice none 0 0, .int .u8 0, .int .i64 0, .bool false, .bool false, .bool false, .bool false, .bool false, .bool false, .bool false, .bool false, .bool false, .bool false, .bool false, .bool false, .bool false, .int .i64 0, .bool false]) ⟨hW.1.1.1.1, hW.1.1.2, hW.2, hW.1.1.1.2, hW.1.2, by omega, by omega, by omega⟩ _ rfl) ?_
          simp only [Act.put, List.setIfInBounds_toArray, List.set_cons_zero, List.set_cons_succ]
          refine mix_within 28 (.tmp 6) (.tmp 22) gy 0 (a.re y).cells (OwR a ygb X y gx gy (a.re X.1).cells (a.re y).cells) ⟨OwR.closed _ _ _ _ _ _ _ _, fun W hW => hW.below⟩ rfl (by rfl) (by rfl) hld_info (hld_all _) (by rfl) (fun W hW => hld_there (h := a.re y) hW.by' rfl) (fun W hW => hW.sety _ rfl) ?_
          simp only [Act.put, List.setIfInBounds_toArray, List.set_cons_zero, List.set_cons_succ]
          refine mix_nil (fun W hW => ?_)
          have HW := Lib.hid hW
          clear hW
          go_wp2_with fail
          go_meet
          exact ⟨gx, gy, X, y, rfl, rfl, HW⟩
      · refine mix_alloc (gx + 1) 28 [.int .i64 0, .int .i64 0, .int .i64 0, .slice none 0 0, .slice none 0 0, .slice none 0 0, .int .u8 0, .int .i64 0, .bool false, .bool false, .bool false, .bool false, .bool false, .bool false, .bool false, .bool false, .bool false, .bool false, .bool false, .bool false, .bool false, .int .i64 0, .bool false] ⟨((Closed.below ygb).and (Closed.whole _ _ _)), fun W hW => hW.1⟩ (fun W hW => (hW.2).lt) (by rfl) (fun W hW => by (clear hW; go_simp; first | done | with_reducible rfl)) (fun gy hgy => ?_)
        simp only [Act.put, List.setIfInBounds_toArray, List.set_cons_zero, List.set_cons_succ]
        refine mix_nil ?_
        refine mix_meet (fun X : Rm × Nat × Nat × Nat => (a.re X.1).val) (fun X => XOwn (a.re X.1) ygb.heap.size X.2.1 X.2.2.1 X.2.2.2) ⟨(((Closed.below ygb).and (Closed.whole _ _ _)).and (Closed.whole _ _ _)), fun W hW => hW.1.1⟩ (fun X => XOwn.closed _ _ _ _ _) _ _ (by rfl) (fun W hW => by (clear hW; go_simp; first | done | rfl)) (fun W hW => KX.out W (hW.1.1)) (fun X => ?_)
        simp only [Act.put, List.setIfInBounds_toArray, List.set_cons_zero, List.set_cons_succ]
        refine mix_meet (fun y : Rm => (a.re y).val) (fun y => OwnB (a.re y) X.2.2.2) ⟨((((Closed.below ygb).and (Closed.whole _ _ _)).and (Closed.whole _ _ _)).and (XOwn.closed _ _ _ _ _)), fun W hW => hW.1.1.1⟩ (fun y => OwnB.closed _ _) _ _ (by rfl) (fun W hW => by (clear hW; go_simp; first | done | rfl)) (fun W hW => KY.out X.2.2.2 W (hW.1.1.1) (hW.2).le.2.2) (fun y => ?_)
        simp only [Act.put, List.setIfInBounds_toArray, List.set_cons_zero, List.set_cons_succ]
        refine mix_within 28 (.tmp 5) (.tmp 20) gx 0 (a.re X.1).cells (OwR a ygb X y gx gy (a.re X.1).cells [.int .i64 0, .int .i64 0, .int .i64 0, .slice none 0 0, .slice none 0 0, .slice none 0 0, .int .u8 0, .int .i64 0, .bool false, .bool false, .bool false, .bool false, .bool false, .bool false, .bool false, .bool false, .bool false, .bool false, .bool false, .bool false, .bool false, .int .i64 0, .bool false]) ⟨OwR.closed _ _ _ _ _ _ _ _, fun W hW => hW.below⟩ rfl (by rfl) (by rfl) hld_info (hld_all _) (by rfl) (fun W hW => hld_there (h := a.re X.1) (hW.1.1.1.2) rfl) (fun W hW => OwR.setx (cx := [.int .i64 0, .int .i64 0, .int .i64 0, .slice none 0 0, .slice none 0 0, .slice none 0 0, .int .u8 0, .int .i64 0, .bool false, .bool false, .bool false, .bool false, .bool false, .bool false, .bool false, .bool false, .bool false, .bool false, .bool false, .bool false, .bool false, .int .i64 0, .bool false]) (cy := [.int .i64 0, .int .i64 0, .int .i64 0, .slice none 0 0, .slice none 0 0, .slice none 0 0, .int .u8 0, .int .i64 0, .bool false, .bool false, .bool false, .bool false, .bool false, .bool false, .bool false, .bool false, .bool false, .bool false, .bool false, .bool false, .bool false, .int .i64 0, .bool false]) ⟨hW.1.1.1.1, hW.1.2, hW.2, hW.1.1.1.2, hW.1.1.2, by omega, by omega, by omega⟩ _ rfl) ?_
        simp only [Act.put, List.setIfInBounds_toArray, List.set_cons_zero, List.set_cons_succ]
        refine mix_within 28 (.tmp 6) (.tmp 22) gy 0 (a.re y).cells (OwR a ygb X y gx gy (a.re X.1).cells (a.re y).cells) ⟨OwR.closed _ _ _ _ _ _ _ _, fun W hW => hW.below⟩ rfl (by rfl) (by rfl) hld_info (hld_all _) (by rfl) (fun W hW => hld_there (h := a.re y) hW.by' rfl) (fun W hW => hW.sety _ rfl) ?_
        simp only [Act.put, List.setIfInBounds_toArray, List.set_cons_zero, List.set_cons_succ]
        refine mix_nil (fun W hW => ?_)
        have HW := Lib.hid hW
        clear hW
        go_wp2_with fail
        go_meet
        exact ⟨gx, gy, X, y, rfl, rfl, HW⟩
    · refine mix_alloc (ygb.heap.size) 28 [.int .i64 0, .int .i64 0, .int .i64 0, .slice none 0 0, .slice none 0 0, .slice none 0 0, .int .u8 0, .int .i64 0, .bool false, .bool false, .bool false, .bool false, .bool false, .bool false, .bool false, .bool false, .bool false, .bool false, .bool false, .bool false, .bool false, .int .i64 0, .bool false] ⟨(Closed.below ygb), fun W hW => hW⟩ (fun W hW => (hW).size) (by rfl) (fun W hW => by (clear hW; go_simp; first | done | with_reducible rfl)) (fun gy hgy => ?_)
      simp only [Act.put, List.setIfInBounds_toArray, List.set_cons_zero, List.set_cons_succ]
      refine mix_nil ?_
      refine mix_nil (fun hF => ⟨?_, ?_⟩)
      · refine mix_meet (fun X : Rm × Nat × Nat × Nat => (a.re X.1).val) (fun X => XOwn (a.re X.1) ygb.heap.size X.2.1 X.2.2.1 X.2.2.2) ⟨((Closed.below ygb).and (Closed.whole _ _ _)), fun W hW => hW.1⟩ (fun X => XOwn.closed _ _ _ _ _) _ _ (by rfl) (fun W hW => by (clear hW; go_simp; first | done | rfl)) (fun W hW => KX.out W (hW.1)) (fun X => ?_)
        simp only [Act.put, List.setIfInBounds_toArray, List.set_cons_zero, List.set_cons_succ]
        refine mix_nil ?_
        refine mix_nil (fun hF => ⟨?_, ?_⟩)
        · refine mix_meet (fun y : Rm => (a.re y).val) (fun y => OwnB (a.re y) X.2.2.2) ⟨(((Closed.below ygb).and (Closed.whole _ _ _)).and (XOwn.closed _ _ _ _ _)), fun W hW => hW.1.1⟩ (fun y => OwnB.closed _ _) _ _ (by rfl) (fun W hW => by (clear hW; go_simp; first | done | rfl)) (fun W hW => KY.out X.2.2.2 W (hW.1.1) (hW.2).le.2.2) (fun y => ?_)
          simp only [Act.put, List.setIfInBounds_toArray, List.set_cons_zero, List.set_cons_succ]
          refine mix_nil ?_
          refine mix_alloc (gy + 1) 28 [.int .i64 0, .int .i64 0, .int .i64 0, .slice none 0 0, .slice none 0 0, .slice none 0 0, .int .u8 0, .int .i64 0, .bool false, .bool false, .bool false, .bool false, .bool false, .bool false, .bool false, .bool false, .bool false, .bool false, .bool false, .bool false, .bool false, .int .i64 0, .bool false] ⟨((((Closed.below ygb).and (Closed.whole _ _ _)).and (XOwn.closed _ _ _ _ _)).and (OwnB.closed _ _)), fun W hW => hW.1.1.1⟩ (fun W hW => (hW.1.1.2).lt) (by rfl) (fun W hW => by (clear hW; go_simp; first | done | with_reducible rfl)) (fun gx hgx => ?_)
          simp only [Act.put, List.setIfInBounds_toArray, List.set_cons_zero, List.set_cons_succ]
          refine mix_within 28 (.tmp 5) (.tmp 20) gx 0 (a.re X.1).cells (OwR a ygb X y gx gy (a.re X.1).cells [.int .i64 0, .int .i64 0, .int .i64 0, .slice none 0 0, .slice none 0 0, .slice none 0 0, .int .u8 0, .int .i64 0, .bool false, .bool false, .bool false, .bool false, .bool false, .bool false, .bool false, .bool false, .bool false, .bool false, .bool false, .bool false, .bool false, .int .i64 0, .bool false]) ⟨OwR.closed _ _ _ _ _ _ _ _, fun W hW => hW.below⟩ rfl (by rfl) (by rfl) hld_info (hld_all _) (by rfl) (fun W hW => hld_there (h := a.re X.1) (hW.2) rfl) (fun W hW => OwR.setx (cx := [.int .i64 0, .int .i64 0, .int .i64 0, .slice none 0 0, .slice none 0 0, .slice none 0 0, .int .u8 0, .int .i64 0, .bool false, .bool false, .bool false, .bool false, .bool false, .bool false, .bool false, .bool false, .bool false, .bool false, .bool false, .bool false, .bool false, .int .i64 0, .bool false]) (cy := [.int .i64 0, .int .i64 0, .int .i64 0, .slice none 0 0, .slice none 0 0, .slice none 0 0, .int .u8 0, .int .i64 0, .bool false, .bool false, .bool false, .bool false, .bool false, .bool false, .bool false, .bool false, .bool false, .bool false, .bool false, .bool false, .bool false, .int .i64 0, .bool false]) ⟨hW.1.1.1.1, hW.1.1.2, hW.1.2, hW.2, hW.1.1.1.2, by omega, by omega, by omega⟩ _ rfl) ?_
          simp only [Act.put, List.setIfInBounds_toArray, List.set_cons_zero, List.set_cons_succ]
          refine mix_within 28 (.tmp 6) (.tmp 22) gy 0 (a.re y).cells (OwR a ygb X y gx gy (a.re X.1).cells (a.re y).cells) ⟨OwR.closed _ _ _ _ _ _ _ _, fun W hW => hW.below⟩ rfl (by rfl) (by rfl) hld_info (hld_all _) (by rfl) (fun W hW => hld_there (h := a.re y) hW.by' rfl) (fun W hW => hW.sety _ rfl) ?_
          simp only [Act.put, List.setIfInBounds_toArray, List.set_cons_zero, List.set_cons_succ]
          refine mix_nil (fun W hW => ?_)
          have HW := Lib.hid hW
          clear hW
          go_wp2_with fail
          go_meet
          exact ⟨gx, gy, X, y, rfl, rfl, HW⟩
        · refine mix_alloc (gy + 1) 28 [.int .i64 0, .int .i64 0, .int .i64 0, .slice none 0 0, .slice none 0 0, .slice none 0 0, .int .u8 0, .int .i64 0, .bool false, .bool false, .bool false, .bool false, .bool false, .bool false, .bool false, .bool false, .bool false, .bool false, .bool false, .bool false, .bool false, .int .i64 0, .bool false] ⟨(((Closed.below ygb).and (Closed.whole _ _ _)).and (XOwn.closed _ _ _ _ _)), fun W hW => hW.1.1⟩ (fun W hW => (hW.1.2).lt) (by rfl) (fun W hW => by (clear hW; go_simp; first | done | with_reducible rfl)) (fun gx hgx => ?_)
          simp only [Act.put, List.setIfInBounds_toArray, List.set_cons_zero, List.set_cons_succ]
          refine mix_nil ?_
          refine mix_meet (fun y : Rm => (a.re y).val) (fun y => OwnB (a.re y) X.2.2.2) ⟨((((Closed.below ygb).and (Closed.whole _ _ _)).and (XOwn.closed _ _ _ _ _)).and (Closed.whole _ _ _)), fun W hW => hW.1.1.1⟩ (fun y => OwnB.closed _ _) _ _ (by rfl) (fun W hW => by (clear hW; go_simp; first | done | rfl)) (fun W hW => KY.out X.2.2.2 W (hW.1.1.1) (hW.1.2).le.2.2) (fun y => ?_)
          simp only [Act.put, List.setIfInBounds_toArray, List.set_cons_zero, List.set_cons_succ]
          refine mix_within 28 (.tmp 5) (.tmp 20) gx 0 (a.re X.1).cells (OwR a ygb X y gx gy (a.re X.1).cells [.int .i64 0, .int .i64 0, .int .i64 0, .slice none 0 0, .slice none 0 0, .slice none 0 0, .int .u8 0, .int .i64 0, .bool false, .bool false, .bool false, .bool false, .bool false, .bool false, .bool false, .bool false, .bool false, .bool false, .bool false, .bool false, .bool false, .int .i64 0, .bool false]) ⟨OwR.closed _ _ _ _ _ _ _ _, fun W hW => hW.below⟩ rfl (by rfl) (by rfl) hld_info (hld_all _) (by rfl) (fun W hW => hld_there (h := a.re X.1) (hW.1.2) rfl) (fun W hW => OwR.setx (cx := [.int .i64 0, .int .i64 0, .int .i64 0, .slice none 0 0, .slice none 0 0, .slice none 0 0, .int .u8 0, .int .i64 0, .bool false, .bool false, .bool false, .bool false, .bool false, .bool false, .bool false, .bool false, .bool false, .bool false, .bool false, .bool false, .bool false, .int .i64 0, .bool false]) (cy := [.int .i64 0, .int .i64 0, .int .i64 0, .slice none 0 0, .slice none 0 0, .slice none 0 0, .int .u8 0, .int .i64 0, .bool false, .bool false, .bool false, .bool false, .bool false, .bool false, .bool false, .bool false, .bool false, .bool false, .bool false, .bool false, .bool false, .int .i64 0, .bool false]) ⟨hW.1.1.1.1, hW.1.1.2, hW.2, hW.1.2, hW.1.1.1.2, by omega, by omega, by omega⟩ _ rfl) ?_
          simp only [Act.put, List.setIfInBounds_toArray, List.set_cons_zero, List.set_cons_succ]
          refine mix_within 28 (.tmp 6) (.tmp 22) gy 0 (a.re y).cells (OwR a ygb X y gx gy (a.re X.1).cells (a.re y).cells) ⟨OwR.closed _ _ _ _ _ _ _ _, fun W hW => hW.below⟩ rfl (by rfl) (by rfl) hld_info (hld_all _) (by rfl) (fun W hW => hld_there (h := a.re y) hW.by' rfl) (fun W hW => hW.sety _ rfl) ?_
          simp only [Act.put, List.setIfInBounds_toArray, List.set_cons_zero, List.set_cons_succ]
          refine mix_nil (fun W hW => ?_)
          have HW := Lib.hid hW
          clear hW
          go_wp2_with fail
          go_meet
          exact ⟨gx, gy, X, y, rfl, rfl, HW⟩
      · refine mix_alloc (gy + 1) 28 [.int .i64 0, .int .i64 0, .int .i64 0, .slice none 0 0, .slice none 0 0, .slice none 0 0, .int .u8 0, .int .i64 0, .bool false, .bool false, .bool false, .bool false, .bool false, .bool false, .bool false, .bool false, .bool false, .bool false, .bool false, .bool false, .bool false, .int .i64 0, .bool false] ⟨((Closed.below ygb).and (Closed.whole _ _ _)), fun W hW => hW.1⟩ (fun W hW => (hW.2).lt) (by rfl) (fun W hW => by (clear hW; go_simp; first | done | with_reducible rfl)) (fun gx hgx => ?_)
        simp only [Act.put, List.setIfInBounds_toArray, List.set_cons_zero, List.set_cons_succ]
        refine mix_nil ?_
        refine mix_meet (fun X : Rm × Nat × Nat × Nat => (a.re X.1).val) (fun X => XOwn (a.re X.1) ygb.heap.size X.2.1 X.2.2.1 X.2.2.2) ⟨(((Closed.below ygb).and (Closed.whole _ _ _)).and (Closed.whole _ _ _)), fun W hW => hW.1.1⟩ (fun X => XOwn.closed _ _ _ _ _) _ _ (by rfl) (fun W hW => by (clear hW; go_simp; first | done | rfl)) (fun W hW => KX.out W (hW.1.1)) (fun X => ?_)
        simp only [Act.put, List.setIfInBounds_toArray, List.set_cons_zero, List.set_cons_succ]
        refine mix_meet (fun y : Rm => (a.re y).val) (fun y => OwnB (a.re y) X.2.2.2) ⟨((((Closed.below ygb).and (Closed.whole _ _ _)).and (Closed.whole _ _ _)).and (XOwn.closed _ _ _ _ _)), fun W hW => hW.1.1.1⟩ (fun y => OwnB.closed _ _) _ _ (by rfl) (fun W hW => by (clear hW; go_simp; first | done | rfl)) (fun W hW => KY.out X.2.2.2 W (hW.1.1.1) (hW.2).le.2.2) (fun y => ?_)
        simp only [Act.put, List.setIfInBounds_toArray, List.set_cons_zero, List.set_cons_succ]
        refine mix_within 28 (.tmp 5) (.tmp 20) gx 0 (a.re X.1).cells (OwR a ygb X y gx gy (a.re X.1).cells [.int .i64 0, .int .i64 0, .int .i64 0, .slice none 0 0, .slice none 0 0, .slice none 0 0, .int .u8 0, .int .i64 0, .bool false, .bool false, .bool false, .bool false, .bool false, .bool false, .bool false, .bool false, .bool false, .bool false, .bool false, .bool false, .bool false, .int .i64 0, .bool false]) ⟨OwR.closed _ _ _ _ _ _ _ _, fun W hW => hW.below⟩ rfl (by rfl) (by rfl) hld_info (hld_all _) (by rfl) (fun W hW => hld_there (h := a.re X.1) (hW.1.1.2) rfl) (fun W hW => OwR.setx (cx := [.int .i64 0, .int .i64 0, .int .i64 0, .slice none 0 0, .slice none 0 0, .slice none 0 0, .int .u8 0, .int .i64 0, .bool false, .bool false, .bool false, .bool false, .bool false, .bool false, .bool false, .bool false, .bool false, .bool false, .bool false, .bool false, .bool false, .int .i64 0, .bool false]) (cy := [.int .i64 0, .int .i64 0, .int .i64 0, .slice none 0 0, .slice none 0 0, .slice none 0 0, .int .u8 0, .int .i64 0, .bool false, .bool false, .bool false, .bool false, .bool false, .bool false, .bool false, .bool false, .bool false, .bool false, .bool false, .bool false, .bool false, .int .i64 0, .bool false]) ⟨hW.1.1.1.1, hW.1.2, hW.2, hW.1.1.2, hW.1.1.1.2, by omega, by omega, by omega⟩ _ rfl) ?_
        simp only [Act.put, List.setIfInBounds_toArray, List.set_cons_zero, List.set_cons_succ]
        refine mix_within 28 (.tmp 6) (.tmp 22) gy 0 (a.re y).cells (OwR a ygb X y gx gy (a.re X.1).cells (a.re y).cells) ⟨OwR.closed _ _ _ _ _ _ _ _, fun W hW => hW.below⟩ rfl (by rfl) (by rfl) hld_info (hld_all _) (by rfl) (fun W hW => hld_there (h := a.re y) hW.by' rfl) (fun W hW => hW.sety _ rfl) ?_
        simp only [Act.put, List.setIfInBounds_toArray, List.set_cons_zero, List.set_cons_succ]
        refine mix_nil (fun W hW => ?_)
        have HW := Lib.hid hW
        clear hW
        go_wp2_with fail
        go_meet
        exact ⟨gx, gy, X, y, rfl, rfl, HW⟩
  case rest =>
  obtain ⟨gx, gy, ⟨x, n1, n2, n3⟩, y, rfl, rfl, HR⟩ := hcut
  clear KX KY HBX
  simp only at HR
  go_upto_region 4 with (fail)
  apply wp_region_lit
  repeat (first | (refine wpList_skip (by rfl) ?_; simp only [Act.put, List.setIfInBounds_toArray, List.set_cons_zero, List.set_cons_succ]) | (refine wpList_read _ (by rfl) (exec_move (by rfl) (by rfl)) ?_; simp only [Act.put, List.setIfInBounds_toArray, List.set_cons_zero, List.set_cons_succ]) | (refine wpList_read _ (by rfl) (exec_hld (by rfl) (by rfl) (HR.out.bx)) ?_; simp only [Act.put, List.setIfInBounds_toArray, List.set_cons_zero, List.set_cons_succ]) | (refine wpList_read _ (by rfl) (by (go_simp; first | done | with_reducible rfl)) ?_; simp only [Act.put, List.setIfInBounds_toArray, List.set_cons_zero, List.set_cons_succ]))
  refine wpList_callx (by rfl) (by (go_simp; first | done | rfl)) (ownZ_any (n3 := n3) (HR.out.ox.lies (small_re HSa.out x)) (small_re HSa.out x) HR.out.ox.le.2.2) (fun e y5 he => ?_)
  obtain ⟨z, rfl, hoz, hy⟩ := he
  refine ⟨_, rfl, ?_⟩
  simp only [Act.put, List.setIfInBounds_toArray, List.set_cons_zero, List.set_cons_succ]
  refine wpList_turn _ _ (by rfl) (by (go_simp; first | done | rfl | exact ⟨rfl, rfl⟩)) ?_
  simp only [Act.put, List.setIfInBounds_toArray, List.set_cons_zero, List.set_cons_succ]
  have hal := below1 y5 (.cells #[.int .i64 0, .int .i64 0, .int .i64 0, .slice none 0 0, .slice none 0 0, .slice none 0 0, .int .u8 0, .int .i64 0, .bool false, .bool false, .bool false, .bool false, .bool false, .bool false, .bool false, .bool false, .bool false, .bool false, .bool false, .bool false, .bool false, .int .i64 0, .bool false] 28)
  have hz := Whole.new y5 28 hld0.cells
  refine wpList_fill 28 (.tmp 7) (.tmp 24) rfl rfl (vs := (a.re z).cells) (by rfl) (by rfl) hz (by rfl) hld_info (hld_one _) (fun W6 bz hB6 _ => ?_)
  simp only [Act.put, List.setIfInBounds_toArray, List.set_cons_zero, List.set_cons_succ]
  obtain ⟨gz, hgz⟩ : ∃ g, y5.heap.size = g := ⟨_, rfl⟩
  have hb6 : Below y5.heap.size y5 W6 := hal.trans (hB6 _ (Nat.le_refl _))
  rw [hgz] at bz
  (try rw [hgz])
  have HL : Hid (OwL a b x y z w gx gy gz ygb.heap.size n1 n2 n3 a.p.ss a.os a.ns W6 ∧ OwF a x w ygb.heap.size n1 n2 n3) := Lib.hid (by
    have hr := HR.out
    have hB := hy.trans (hb6.mono hy.size)
    have hqc : Q wc := HQ.out _ _ hq hr.below
    have hq6 : Q W6 := HQ.out _ _ hqc hB
    refine ⟨⟨⟨HQb.out _ hq6, HQa.out _ hq6, HQc.out _ hq6, hr.bx.below hB hr.bx.lt, hr.by'.below hB hr.by'.lt, bz, OwnB.closed _ _ _ _ hr.oy hB, OwnB.closed _ _ _ _ hoz hb6⟩, owns_keep hr.ox.o1 hB, owns_keep hr.ox.o2 hB, owns_keep hr.ox.o3 hB⟩, hr.ox.l1, hr.ox.l2, hr.ox.l3, (HQb.out _ hq).size, hr.ox.le.1, hr.ox.le.2.1⟩)
  clear hq HR hoz hy hal hz bz hB6 hb6 hgz HQ HQb HQa HQc HLa HLb
  have HFF : Hid (OwF a x w ygb.heap.size n1 n2 n3) := Lib.hid HL.out.2
  replace HL : Hid (OwL a b x y z w gx gy gz ygb.heap.size n1 n2 n3 a.p.ss a.os a.ns W6) := Lib.hid HL.out.1
  obtain ⟨B0, hB0⟩ : ∃ n, ygb.heap.size = n := ⟨_, rfl⟩
  rw [hB0] at HL HFF
  clear hB0
  have hw1 : a.p.ss.length ≤ 60 := by have := HSa.out.p; omega
  go_wp2_with fail
  go_loopw [8] (fun i wr => ∃ (j : Nat) (xs1 : List (Int × Int × Int)), j ≤ a.p.ss.length ∧ i = .int .i64 (j : Int) ∧ Hid (xs1.length = a.p.ss.length) ∧ Hid (OwL a b x y z w gx gy gz B0 n1 n2 n3 xs1 a.os a.ns wr)) (fun i _ => a.p.ss.length - (intOf i).toNat)
  case atStart => exact ⟨0, a.p.ss, by omega, rfl, Lib.hid rfl, HL⟩
  case round =>
    clear HL
    obtain ⟨j, xs1, hj, rfl, HXL, HL⟩ := hrel
    have x3 : wr.cell? ⟨gx, 3, none⟩ = some (.slice x.A1 a.p.ss.length x.c1) := HL.out.k.bx.cell_at 3 rfl
    by_cases hlt : j < a.p.ss.length
    · have hlt' : (j : Int) < (a.p.ss.length : Int) := by omega
      obtain ⟨g1, hA, _, _, _⟩ := owns_blk HL.out.r1 (by omega)
      obtain ⟨⟨s1, s2⟩, hs⟩ : ∃ s, xs1[j]? = some s := ⟨_, List.getElem?_eq_getElem (by rw [HXL.out]; exact hlt)⟩
      have HC : Hid (∀ W, OwL a b x y z w gx gy gz B0 n1 n2 n3 xs1 a.os a.ns W → W.cell? ⟨g1, j * 3, none⟩ = some (.int .i64 s1) ∧ W.frozen? ⟨g1, j * 3, none⟩ = false ∧ W.cell? ⟨gx, 3, none⟩ = some (.slice (some ⟨g1, 0, none⟩) a.p.ss.length x.c1)) := Lib.hid fun W hW => by
        have h1 := hW.r1
        rw [hA, ← HXL.out] at h1
        refine ⟨owns_cellG (f := stpCells) (fun _ => rfl) (by omega) h1 hs 0 _ rfl, owns_frozen h1 _, ?_⟩
        rw [← hA]
        exact hW.k.bx.cell_at 3 rfl
      have HN : Hid (∀ W, OwL a b x y z w gx gy gz B0 n1 n2 n3 xs1 a.os a.ns W → OwL a b x y z w gx gy gz B0 n1 n2 n3 (xs1.set j (wrap64 (s1 + 1), s2)) a.os a.ns (W.setCell ⟨g1, j * 3, none⟩ (.int .i64 (wrap64 (s1 + 1))))) := Lib.hid fun W hW => hW.set1 HFF.out HXL.out hA hs (wrap64 (s1 + 1))
      have HA := Lib.hid hA
      clear hs hA x3
      obtain ⟨c0, f0, x3⟩ := HC.out _ HL.out
      go_upto_region 8 with (fail)
      clear c0 f0 x3
      refine region_steady (OwL a b x y z w gx gy gz B0 n1 n2 n3 xs1 a.os a.ns) 14 (by kernel_rfl) (by kernel_rfl) (OwL.closed _ _ _ _ _ _ _ _ _ _ _ _ _ _ _ _ _ _ HL.out (Below.refl _ _).drew) ?_
      simp only [List.take_succ_cons, List.take_zero, List.drop_succ_cons, List.drop_zero]
      repeat (first | (refine steady_skip (by rfl) ?_; simp only [Act.put, List.setIfInBounds_toArray, List.set_cons_zero, List.set_cons_succ]) | (refine steady_read _ (by rfl) (fun W hW => by (obtain ⟨c0, f0, c3⟩ := HC.out W hW; clear hW; go_simp; first | done | with_reducible rfl)) ?_; simp only [Act.put, List.setIfInBounds_toArray, List.set_cons_zero, List.set_cons_succ]))
      refine steady_nil (fun W hW => ?_)
      obtain ⟨c0, f0, c3⟩ := HC.out W hW
      have HN2 := Lib.hid (HN.out W hW)
      clear hW HC HN HL
      go_wp2_with fail
      go_roundw
      case rel => exact ⟨j + 1, _, hlt, by go_num, Lib.hid (by rw [List.length_set]; exact HXL.out), HN2⟩
      case measure => simp [intOf]; omega
    · obtain rfl : j = a.p.ss.length := by omega
      clear hlt hj
      have hw2 : a.os.length ≤ 60 := by have := HSa.out.o; omega
      go_wp2_with fail
      go_loopw [9] (fun i wr => ∃ (j : Nat) (xs2 : List (Int × Int × Int)), j ≤ a.os.length ∧ i = .int .i64 (j : Int) ∧ Hid (xs2.length = a.os.length) ∧ Hid (OwL a b x y z w gx gy gz B0 n1 n2 n3 xs1 xs2 a.ns wr)) (fun i _ => a.os.length - (intOf i).toNat)
      case atStart => exact ⟨0, a.os, by omega, rfl, Lib.hid rfl, HL⟩
      case round =>
        clear HL
        obtain ⟨j, xs2, hj, rfl, HXL, HL⟩ := hrel
        have x4 : wr.cell? ⟨gx, 4, none⟩ = some (.slice x.A2 a.os.length x.c2) := HL.out.k.bx.cell_at 4 rfl
        by_cases hlt : j < a.os.length
        · have hlt' : (j : Int) < (a.os.length : Int) := by omega
          obtain ⟨g1, hA, _, _, _⟩ := owns_blk HL.out.r2 (by omega)
          obtain ⟨⟨s1, s2⟩, hs⟩ : ∃ s, xs2[j]? = some s := ⟨_, List.getElem?_eq_getElem (by rw [HXL.out]; exact hlt)⟩
          have HC : Hid (∀ W, OwL a b x y z w gx gy gz B0 n1 n2 n3 xs1 xs2 a.ns W → W.cell? ⟨g1, j * 3, none⟩ = some (.int .i64 s1) ∧ W.frozen? ⟨g1, j * 3, none⟩ = false ∧ W.cell? ⟨gx, 4, none⟩ = some (.slice (some ⟨g1, 0, none⟩) a.os.length x.c2)) := Lib.hid fun W hW => by
            have h1 := hW.r2
            rw [hA, ← HXL.out] at h1
            refine ⟨owns_cellG (f := stpCells) (fun _ => rfl) (by omega) h1 hs 0 _ rfl, owns_frozen h1 _, ?_⟩
            rw [← hA]
            exact hW.k.bx.cell_at 4 rfl
          have HN : Hid (∀ W, OwL a b x y z w gx gy gz B0 n1 n2 n3 xs1 xs2 a.ns W → OwL a b x y z w gx gy gz B0 n1 n2 n3 xs1 (xs2.set j (wrap64 (s1 + 1), s2)) a.ns (W.setCell ⟨g1, j * 3, none⟩ (.int .i64 (wrap64 (s1 + 1))))) := Lib.hid fun W hW => hW.set2 HFF.out HXL.out hA hs (wrap64 (s1 + 1))
          have HA := Lib.hid hA
          clear hs hA x4
          obtain ⟨c0, f0, x4⟩ := HC.out _ HL.out
          go_upto_region 12 with (fail)
          clear c0 f0 x4
          refine region_steady (OwL a b x y z w gx gy gz B0 n1 n2 n3 xs1 xs2 a.ns) 12 (by kernel_rfl) (by kernel_rfl) (OwL.closed _ _ _ _ _ _ _ _ _ _ _ _ _ _ _ _ _ _ HL.out (Below.refl _ _).drew) ?_
          simp only [List.take_succ_cons, List.take_zero, List.drop_succ_cons, List.drop_zero]
          repeat (first | (refine steady_skip (by rfl) ?_; simp only [Act.put, List.setIfInBounds_toArray, List.set_cons_zero, List.set_cons_succ]) | (refine steady_read _ (by rfl) (fun W hW => by (obtain ⟨c0, f0, c3⟩ := HC.out W hW; clear hW; go_simp; first | done | with_reducible rfl)) ?_; simp only [Act.put, List.setIfInBounds_toArray, List.set_cons_zero, List.set_cons_succ]))
          refine steady_nil (fun W hW => ?_)
          obtain ⟨c0, f0, c3⟩ := HC.out W hW
          have HN2 := Lib.hid (HN.out W hW)
          clear hW HC HN HL
          go_wp2_with fail
          go_roundw
          case rel => exact ⟨j + 1, _, hlt, by go_num, Lib.hid (by rw [List.length_set]; exact HXL.out), HN2⟩
          case measure => simp [intOf]; omega
        · obtain rfl : j = a.os.length := by omega
          clear hlt hj
          have hw3 : a.ns.length ≤ 60 := by have := HSa.out.n; omega
          go_wp2_with fail
          go_loopw [10] (fun i wr => ∃ (j : Nat) (xs3 : List (Int × Int × Int)), j ≤ a.ns.length ∧ i = .int .i64 (j : Int) ∧ Hid (xs3.length = a.ns.length) ∧ Hid (OwL a b x y z w gx gy gz B0 n1 n2 n3 xs1 xs2 xs3 wr)) (fun i _ => a.ns.length - (intOf i).toNat)
          case atStart => exact ⟨0, a.ns, by omega, rfl, Lib.hid rfl, HL⟩
          case round =>
            clear HL
            obtain ⟨j, xs3, hj, rfl, HXL, HL⟩ := hrel
            have x5 : wr.cell? ⟨gx, 5, none⟩ = some (.slice x.A3 a.ns.length x.c3) := HL.out.k.bx.cell_at 5 rfl
            by_cases hlt : j < a.ns.length
            · have hlt' : (j : Int) < (a.ns.length : Int) := by omega
              obtain ⟨g1, hA, _, _, _⟩ := owns_blk HL.out.r3 (by omega)
              obtain ⟨⟨s1, s2⟩, hs⟩ : ∃ s, xs3[j]? = some s := ⟨_, List.getElem?_eq_getElem (by rw [HXL.out]; exact hlt)⟩
              have HC : Hid (∀ W, OwL a b x y z w gx gy gz B0 n1 n2 n3 xs1 xs2 xs3 W → W.cell? ⟨g1, j * 3, none⟩ = some (.int .i64 s1) ∧ W.frozen? ⟨g1, j * 3, none⟩ = false ∧ W.cell? ⟨gx, 5, none⟩ = some (.slice (some ⟨g1, 0, none⟩) a.ns.length x.c3)) := Lib.hid fun W hW => by
                have h1 := hW.r3
                rw [hA, ← HXL.out] at h1
                refine ⟨owns_cellG (f := needCells) (fun _ => rfl) (by omega) h1 hs 0 _ rfl, owns_frozen h1 _, ?_⟩
                rw [← hA]
                exact hW.k.bx.cell_at 5 rfl
              have HN : Hid (∀ W, OwL a b x y z w gx gy gz B0 n1 n2 n3 xs1 xs2 xs3 W → OwL a b x y z w gx gy gz B0 n1 n2 n3 xs1 xs2 (xs3.set j (wrap64 (s1 + 1), s2)) (W.setCell ⟨g1, j * 3, none⟩ (.int .i64 (wrap64 (s1 + 1))))) := Lib.hid fun W hW => hW.set3 HFF.out HXL.out hA hs (wrap64 (s1 + 1))
              have HA := Lib.hid hA
              clear hs hA x5
              obtain ⟨c0, f0, x5⟩ := HC.out _ HL.out
              go_upto_region 16 with (fail)
              clear c0 f0 x5
              refine region_steady (OwL a b x y z w gx gy gz B0 n1 n2 n3 xs1 xs2 xs3) 12 (by kernel_rfl) (by kernel_rfl) (OwL.closed _ _ _ _ _ _ _ _ _ _ _ _ _ _ _ _ _ _ HL.out (Below.refl _ _).drew) ?_
              simp only [List.take_succ_cons, List.take_zero, List.drop_succ_cons, List.drop_zero]
              repeat (first | (refine steady_skip (by rfl) ?_; simp only [Act.put, List.setIfInBounds_toArray, List.set_cons_zero, List.set_cons_succ]) | (refine steady_read _ (by rfl) (fun W hW => by (obtain ⟨c0, f0, c3⟩ := HC.out W hW; clear hW; go_simp; first | done | with_reducible rfl)) ?_; simp only [Act.put, List.setIfInBounds_toArray, List.set_cons_zero, List.set_cons_succ]))
              refine steady_nil (fun W hW => ?_)
              obtain ⟨c0, f0, c3⟩ := HC.out W hW
              have HN2 := Lib.hid (HN.out W hW)
              clear hW HC HN HL
              go_wp2_with fail
              go_roundw
              case rel => exact ⟨j + 1, _, hlt, by go_num, Lib.hid (by rw [List.length_set]; exact HXL.out), HN2⟩
              case measure => simp [intOf]; omega
            · obtain rfl : j = a.ns.length := by omega
              clear hlt hj
              obtain ⟨Q, HQ, HQb, HQa, HQc, HQy, HQz, HLa, HLb, HLy, HLz, hq⟩ : ∃ R : World → Prop, Hid (Closed R) ∧ Hid (∀ W, R W → Below w.heap.size w W) ∧ Hid (∀ W, R W → Whole W w.heap.size 28 a.cells) ∧ Hid (∀ W, R W → Whole W (w.heap.size + 1) 28 b.cells) ∧ Hid (∀ W, R W → Whole W gy 28 (a.re y).cells) ∧ Hid (∀ W, R W → Whole W gz 28 (a.re z).cells) ∧ Hid (∀ W, R W → HLies a W) ∧ Hid (∀ W, R W → HLies b W) ∧ Hid (∀ W, R W → HLies (a.re y) W) ∧ Hid (∀ W, R W → HLies (a.re z) W) ∧ R wr :=
                ⟨OwK a b x y z w gx gy gz n3, Lib.hid (OwK.closed _ _ _ _ _ _ _ _ _ _), Lib.hid fun W h => h.below, Lib.hid fun W h => h.ba, Lib.hid fun W h => h.bb, Lib.hid fun W h => h.by', Lib.hid fun W h => h.bz, Lib.hid fun W h => HAB.out.1.on h.below, Lib.hid fun W h => HAB.out.2.on h.below, Lib.hid fun W h => h.oy.lies (small_re HSa.out y), Lib.hid fun W h => h.oz.lies (small_re HSa.out z), HL.out.k⟩
              clear HL HXL HFF
              go_upto_region 17 with (fail)
              clear x5
              go_wp2_with (first | (refine wpList_read _ (by rfl) (exec_hld (by rfl) (by rfl) (HQz.out _ hq)) ?_; simp only [Act.put, List.setIfInBounds_toArray, List.set_cons_zero, List.set_cons_succ]) | (refine wpList_read _ (by rfl) (exec_hld (by rfl) (by rfl) (HQy.out _ hq)) ?_; simp only [Act.put, List.setIfInBounds_toArray, List.set_cons_zero, List.set_cons_succ]))
              refine (sameR17_any (HLz.out _ hq) (HLy.out _ hq) (sameH_re z y)).mono ?_
              rintro e ys1 ⟨rfl, hys1⟩
              replace hq := HQ.out _ _ hq hys1
              clear hys1
              go_upto_region 19 with (fail)
              obtain ⟨sm, hsm⟩ : ∃ r, sameH a b = r := ⟨_, rfl⟩
              have HSM := Lib.hid hsm
              go_cut [11] from 89 to 156 (fun v wx => v = .bool sm ∧ Hid (Q wx))
              case first =>
                have KP : Hid (∀ W, Q W → ∀ r, sameP a.p b.p = r → Calls Try.prog 20 #[a.p.val, b.p.val] W fun e w' => e = .returned (.bool r) ∧ Below W.heap.size W w') := Lib.hid fun W hW r hr => sameR11_any (HLa.out W hW).pl (HLb.out W hW).pl hr
                have KO : Hid (∀ W, Q W → ∀ r, decide (a.os = b.os) = r → Calls Try.prog 21 #[.slice a.oA a.os.length a.oc, .slice b.oA b.os.length b.oc] W fun e w' => e = .returned (.bool r) ∧ Q w') := Lib.hid fun W hW r hr => stepsR11_P (P := Q) (w := W) HQ.out a.oc b.oc (fun W hW => (HLa.out W hW).orow) (fun W hW => (HLb.out W hW).orow) HAB.out.1.olen hr hW
                have KN : Hid (∀ W, Q W → ∀ r, decide (a.ns = b.ns) = r → Calls Try.prog 22 #[.slice a.nA a.ns.length a.nc, .slice b.nA b.ns.length b.nc] W fun e w' => e = .returned (.bool r) ∧ Q w') := Lib.hid fun W hW r hr => all17_P (P := Q) (w := W) HQ.out a.nc b.nc (fun W hW => (HLa.out W hW).nrow) (fun W hW => (HLb.out W hW).nrow) HAB.out.1.nlen hr hW
                obtain ⟨e0, h0⟩ : ∃ e, (a.id == b.id) = e := ⟨_, rfl⟩
                obtain ⟨e1, h1⟩ : ∃ e, sameP a.p b.p = e := ⟨_, rfl⟩
                obtain ⟨e2, h2⟩ : ∃ e, decide (a.os = b.os) = e := ⟨_, rfl⟩
                obtain ⟨e3, h3⟩ : ∃ e, decide (a.ns = b.ns) = e := ⟨_, rfl⟩
                obtain ⟨e4, h4⟩ : ∃ e, (a.st == b.st) = e := ⟨_, rfl⟩
                obtain ⟨e5, h5⟩ : ∃ e, (a.gone == b.gone) = e := ⟨_, rfl⟩
                obtain ⟨e6, h6⟩ : ∃ e, decide (a.was = b.was) = e := ⟨_, rfl⟩
                obtain ⟨e7, h7⟩ : ∃ e, (a.op == b.op) = e := ⟨_, rfl⟩
                obtain ⟨e8, h8⟩ : ∃ e, (a.tm == b.tm) = e := ⟨_, rfl⟩
                obtain ⟨e9, h9⟩ : ∃ e, (a.sh == b.sh) = e := ⟨_, rfl⟩
                have HRS : Hid ((e0 && (e1 && (e2 && (e3 && (e4 && (e5 && (e6 && (e7 && (e8 && e9))))))))) = sm) := Lib.hid (by rw [← hsm, ← h0, ← h1, ← h2, ← h3, ← h4, ← h5, ← h6, ← h7, ← h8, ← h9]; rfl)
                have hwas : ∀ W : World, (binOp .eql 26 (.agg #[.bool a.w0, .bool a.w1, .bool a.w2, .bool a.w3, .bool a.w4, .bool a.w5, .bool a.w6, .bool a.w7, .bool a.w8, .bool a.w9, .bool a.wA, .bool a.wB]) (.agg #[.bool b.w0, .bool b.w1, .bool b.w2, .bool b.w3, .bool b.w4, .bool b.w5, .bool b.w6, .bool b.w7, .bool b.w8, .bool b.w9, .bool b.wA, .bool b.wB])).run Try.prog W = .ok (.bool e6) W := fun W => by rw [eql_was, h6]
                have HH := Lib.hid (And.intro h1 (And.intro h2 h3))
                have F1 : Hid (∀ W, Q W → (W.cell? ⟨w.heap.size, 0, none⟩ = some (.int .i64 a.id) ∧ W.cell? ⟨w.heap.size + 1, 0, none⟩ = some (.int .i64 b.id)) ∧ (W.cell? ⟨w.heap.size, 1, none⟩ = some (.int .i64 a.p.s) ∧ W.cell? ⟨w.heap.size + 1, 1, none⟩ = some (.int .i64 b.p.s)) ∧ (W.cell? ⟨w.heap.size, 2, none⟩ = some (.int .i64 a.p.x) ∧ W.cell? ⟨w.heap.size + 1, 2, none⟩ = some (.int .i64 b.p.x)) ∧ (W.cell? ⟨w.heap.size, 3, none⟩ = some (.slice a.p.A a.p.ss.length a.p.c) ∧ W.cell? ⟨w.heap.size + 1, 3, none⟩ = some (.slice b.p.A b.p.ss.length b.p.c))) := Lib.hid fun W hW => ⟨⟨(HQa.out W hW).cell_at 0 rfl, (HQc.out W hW).cell_at 0 rfl⟩, ⟨(HQa.out W hW).cell_at 1 rfl, (HQc.out W hW).cell_at 1 rfl⟩, ⟨(HQa.out W hW).cell_at 2 rfl, (HQc.out W hW).cell_at 2 rfl⟩, ⟨(HQa.out W hW).cell_at 3 rfl, (HQc.out W hW).cell_at 3 rfl⟩⟩
                have F2 : Hid (∀ W, Q W → (W.cell? ⟨w.heap.size, 4, none⟩ = some (.slice a.oA a.os.length a.oc) ∧ W.cell? ⟨w.heap.size + 1, 4, none⟩ = some (.slice b.oA b.os.length b.oc))) := Lib.hid fun W hW => ⟨(HQa.out W hW).cell_at 4 rfl, (HQc.out W hW).cell_at 4 rfl⟩
                have F3 : Hid (∀ W, Q W → (W.cell? ⟨w.heap.size, 5, none⟩ = some (.slice a.nA a.ns.length a.nc) ∧ W.cell? ⟨w.heap.size + 1, 5, none⟩ = some (.slice b.nA b.ns.length b.nc))) := Lib.hid fun W hW => ⟨(HQa.out W hW).cell_at 5 rfl, (HQc.out W hW).cell_at 5 rfl⟩
                have F4 : Hid (∀ W, Q W → (W.cell? ⟨w.heap.size, 6, none⟩ = some (.int .u8 a.st) ∧ W.cell? ⟨w.heap.size + 1, 6, none⟩ = some (.int .u8 b.st)) ∧ (W.cell? ⟨w.heap.size, 7, none⟩ = some (.int .i64 a.gone) ∧ W.cell? ⟨w.heap.size + 1, 7, none⟩ = some (.int .i64 b.gone)) ∧ (W.cell? ⟨w.heap.size, 8, none⟩ = some (.bool a.w0) ∧ W.cell? ⟨w.heap.size + 1, 8, none⟩ = some (.bool b.w0)) ∧ (W.cell? ⟨w.heap.size, 9, none⟩ = some (.bool a.w1) ∧ W.cell? ⟨w.heap.size + 1, 9, none⟩ = some (.bool b.w1)) ∧ (W.cell? ⟨w.heap.size, 10, none⟩ = some (.bool a.w2) ∧ W.cell? ⟨w.heap.size + 1, 10, none⟩ = some (.bool b.w2)) ∧ (W.cell? ⟨w.heap.size, 11, none⟩ = some (.bool a.w3) ∧ W.cell? ⟨w.heap.size + 1, 11, none⟩ = some (.bool b.w3)) ∧ (W.cell? ⟨w.heap.size, 12, none⟩ = some (.bool a.w4) ∧ W.cell? ⟨w.heap.size + 1, 12, none⟩ = some (.bool b.w4)) ∧ (W.cell? ⟨w.heap.size, 13, none⟩ = some (.bool a.w5) ∧ W.cell? ⟨w.heap.size + 1, 13, none⟩ = some (.bool b.w5)) ∧ (W.cell? ⟨w.heap.size, 14, none⟩ = some (.bool a.w6) ∧ W.cell? ⟨w.heap.size + 1, 14, none⟩ = some (.bool b.w6)) ∧ (W.cell? ⟨w.heap.size, 15, none⟩ = some (.bool a.w7) ∧ W.cell? ⟨w.heap.size + 1, 15, none⟩ = some (.bool b.w7)) ∧ (W.cell? ⟨w.heap.size, 16, none⟩ = some (.bool a.w8) ∧ W.cell? ⟨w.heap.size + 1, 16, none⟩ = some (.bool b.w8)) ∧ (W.cell? ⟨w.heap.size, 17, none⟩ = some (.bool a.w9) ∧ W.cell? ⟨w.heap.size + 1, 17, none⟩ = some (.bool b.w9)) ∧ (W.cell? ⟨w.heap.size, 18, none⟩ = some (.bool a.wA) ∧ W.cell? ⟨w.heap.size + 1, 18, none⟩ = some (.bool b.wA)) ∧ (W.cell? ⟨w.heap.size, 19, none⟩ = some (.bool a.wB) ∧ W.cell? ⟨w.heap.size + 1, 19, none⟩ = some (.bool b.wB)) ∧ (W.cell? ⟨w.heap.size, 20, none⟩ = some (.bool a.op) ∧ W.cell? ⟨w.heap.size + 1, 20, none⟩ = some (.bool b.op)) ∧ (W.cell? ⟨w.heap.size, 21, none⟩ = some (.int .i64 a.tm) ∧ W.cell? ⟨w.heap.size + 1, 21, none⟩ = some (.int .i64 b.tm)) ∧ (W.cell? ⟨w.heap.size, 22, none⟩ = some (.bool a.sh) ∧ W.cell? ⟨w.heap.size + 1, 22, none⟩ = some (.bool b.sh))) := Lib.hid fun W hW => ⟨⟨(HQa.out W hW).cell_at 6 rfl, (HQc.out W hW).cell_at 6 rfl⟩, ⟨(HQa.out W hW).cell_at 7 rfl, (HQc.out W hW).cell_at 7 rfl⟩, ⟨(HQa.out W hW).cell_at 8 rfl, (HQc.out W hW).cell_at 8 rfl⟩, ⟨(HQa.out W hW).cell_at 9 rfl, (HQc.out W hW).cell_at 9 rfl⟩, ⟨(HQa.out W hW).cell_at 10 rfl, (HQc.out W hW).cell_at 10 rfl⟩, ⟨(HQa.out W hW).cell_at 11 rfl, (HQc.out W hW).cell_at 11 rfl⟩, ⟨(HQa.out W hW).cell_at 12 rfl, (HQc.out W hW).cell_at 12 rfl⟩, ⟨(HQa.out W hW).cell_at 13 rfl, (HQc.out W hW).cell_at 13 rfl⟩, ⟨(HQa.out W hW).cell_at 14 rfl, (HQc.out W hW).cell_at 14 rfl⟩, ⟨(HQa.out W hW).cell_at 15 rfl, (HQc.out W hW).cell_at 15 rfl⟩, ⟨(HQa.out W hW).cell_at 16 rfl, (HQc.out W hW).cell_at 16 rfl⟩, ⟨(HQa.out W hW).cell_at 17 rfl, (HQc.out W hW).cell_at 17 rfl⟩, ⟨(HQa.out W hW).cell_at 18 rfl, (HQc.out W hW).cell_at 18 rfl⟩, ⟨(HQa.out W hW).cell_at 19 rfl, (HQc.out W hW).cell_at 19 rfl⟩, ⟨(HQa.out W hW).cell_at 20 rfl, (HQc.out W hW).cell_at 20 rfl⟩, ⟨(HQa.out W hW).cell_at 21 rfl, (HQc.out W hW).cell_at 21 rfl⟩, ⟨(HQa.out W hW).cell_at 22 rfl, (HQc.out W hW).cell_at 22 rfl⟩⟩
                clear hsm h1 h2 h3 h6
                try simp only [List.append_eq, List.cons_append, List.nil_append]
                refine wp_region_bare ?_
                simp only [List.map_cons, List.map_nil, bareOp]
                obtain ⟨⟨x0, y0⟩, ⟨x1, y1⟩, ⟨x2, y2⟩, ⟨x3, y3⟩⟩ := F1.out _ hq
                cases e0
                · go_wp2_with fail
                  go_meet
                  exact ⟨congrArg Value.bool (by rw [← HRS.out]; rfl), Lib.hid hq⟩
                have K1 := Lib.hid (KP.out _ hq e1 HH.out.1)
                go_wp2_with fail
                refine K1.out.mono ?_
                clear K1
                rintro e w1 ⟨rfl, hB1⟩
                replace hq := HQ.out _ _ hq hB1
                clear hB1 x0 y0 x1 y1 x2 y2 x3 y3 h0
                cases e1
                · go_wp2_with fail
                  go_meet
                  exact ⟨congrArg Value.bool (by rw [← HRS.out]; rfl), Lib.hid hq⟩
                obtain ⟨x4, y4⟩ := F2.out _ hq
                have K1 := Lib.hid (KO.out _ hq e2 HH.out.2.1)
                go_wp2_with fail
                refine K1.out.mono ?_
                clear K1
                rintro e w2 ⟨rfl, hq⟩
                clear x4 y4
                cases e2
                · go_wp2_with fail
                  go_meet
                  exact ⟨congrArg Value.bool (by rw [← HRS.out]; rfl), Lib.hid hq⟩
                obtain ⟨x5, y5⟩ := F3.out _ hq
                have K1 := Lib.hid (KN.out _ hq e3 HH.out.2.2)
                go_wp2_with fail
                refine K1.out.mono ?_
                clear K1
                rintro e w3 ⟨rfl, hq⟩
                clear x5 y5
                cases e3
                · go_wp2_with fail
                  go_meet
                  exact ⟨congrArg Value.bool (by rw [← HRS.out]; rfl), Lib.hid hq⟩
                obtain ⟨⟨x6, y6⟩, ⟨x7, y7⟩, ⟨x8, y8⟩, ⟨x9, y9⟩, ⟨x10, y10⟩, ⟨x11, y11⟩, ⟨x12, y12⟩, ⟨x13, y13⟩, ⟨x14, y14⟩, ⟨x15, y15⟩, ⟨x16, y16⟩, ⟨x17, y17⟩, ⟨x18, y18⟩, ⟨x19, y19⟩, ⟨x20, y20⟩, ⟨x21, y21⟩, ⟨x22, y22⟩⟩ := F4.out _ hq
                clear F1 F2 F3 F4 KP KO KN HH HQ HQa HQc HQy HQz HLa HLb HLy HLz
                cases e4
                · go_wp2_with fail
                  go_meet
                  exact ⟨congrArg Value.bool (by rw [← HRS.out]; rfl), Lib.hid hq⟩
                cases e5
                · go_wp2_with fail
                  go_meet
                  exact ⟨congrArg Value.bool (by rw [← HRS.out]; rfl), Lib.hid hq⟩
                cases e6
                · go_wp2_with fail
                  go_meet
                  exact ⟨congrArg Value.bool (by rw [← HRS.out]; rfl), Lib.hid hq⟩
                cases e7
                · go_wp2_with fail
                  go_meet
                  exact ⟨congrArg Value.bool (by rw [← HRS.out]; rfl), Lib.hid hq⟩
                cases e8
                · go_wp2_with fail
                  go_meet
                  exact ⟨congrArg Value.bool (by rw [← HRS.out]; rfl), Lib.hid hq⟩
                go_wp2_with fail
                go_meet
                exact ⟨congrArg Value.bool (by rw [← HRS.out]; rfl), Lib.hid hq⟩
              case rest =>
              obtain ⟨rfl, HQ1⟩ := hcut
              have hq := HQ1.out
              clear HQ1 hsm
              have e1 : ∀ x : Bool, (x == x) = true := fun x => by cases x <;> rfl
              go_wp2_with (first | (refine wpList_read _ (by rfl) (exec_hld (by rfl) (by rfl) (HQa.out _ hq)) ?_; simp only [Act.put, List.setIfInBounds_toArray, List.set_cons_zero, List.set_cons_succ]) | (refine wpList_read _ (by rfl) (exec_hld (by rfl) (by rfl) (HQc.out _ hq)) ?_; simp only [Act.put, List.setIfInBounds_toArray, List.set_cons_zero, List.set_cons_succ]))
              refine (same17_any (HLa.out _ hq) (HLb.out _ hq) HSM.out).mono ?_
              rintro e ys2 ⟨rfl, hys2⟩
              replace hq := HQ.out _ _ hq hys2
              clear hys2
              go_wp2_with (first | (refine wpList_read _ (by rfl) (exec_hld (by rfl) (by rfl) (HQa.out _ hq)) ?_; simp only [Act.put, List.setIfInBounds_toArray, List.set_cons_zero, List.set_cons_succ]) | (refine wpList_read _ (by rfl) (exec_hld (by rfl) (by rfl) (HQc.out _ hq)) ?_; simp only [Act.put, List.setIfInBounds_toArray, List.set_cons_zero, List.set_cons_succ]))
              refine (same17_any (HLa.out _ hq) (HLa.out _ hq) (sameH_self a)).mono ?_
              rintro e ys3 ⟨rfl, hys3⟩
              replace hq := HQ.out _ _ hq hys3
              clear hys3
              go_wp2_with (first | (refine wpList_read _ (by rfl) (exec_hld (by rfl) (by rfl) (HQa.out _ hq)) ?_; simp only [Act.put, List.setIfInBounds_toArray, List.set_cons_zero, List.set_cons_succ]) | (refine wpList_read _ (by rfl) (exec_hld (by rfl) (by rfl) (HQc.out _ hq)) ?_; simp only [Act.put, List.setIfInBounds_toArray, List.set_cons_zero, List.set_cons_succ]))
              refine (HWK.out _).mono ?_
              rintro e ywk ⟨rfl, hywk⟩
              replace hq := HQ.out _ _ hq hywk
              clear hywk
              go_wp2_with (first | (refine wpList_read _ (by rfl) (exec_hld (by rfl) (by rfl) (HQa.out _ hq)) ?_; simp only [Act.put, List.setIfInBounds_toArray, List.set_cons_zero, List.set_cons_succ]) | (refine wpList_read _ (by rfl) (exec_hld (by rfl) (by rfl) (HQc.out _ hq)) ?_; simp only [Act.put, List.setIfInBounds_toArray, List.set_cons_zero, List.set_cons_succ]))
              go_ret
              exact ⟨rfl, HQb.out _ hq⟩

end Go.Proofs.Ytljpiafopbfdlaa
