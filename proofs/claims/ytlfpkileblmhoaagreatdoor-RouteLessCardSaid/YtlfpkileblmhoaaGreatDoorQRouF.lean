/- Package route: isPath, Check, Is. -/
import Derived.RangeFuncNested
import Derived.RangeFuncBound
import Derived.RangeFuncCalls
import Derived.RangeFuncLeaves
import Derived.RangeFuncBox
import Derived.Shelf.Abstract
import Derived.Shelf.RegionOpen
import Derived.WalkKit
import Derived.OwnWalkIn
import Derived.TacticsInMore
import Derived.LoopNIn
import Derived.LoopIn
import Derived.WalkMore
import Derived.Test.YtlfpkileblmhoaaGreatDoorQRouE
import Derived.Test.YtlfpkileblmhoaaGreatDoorQRouD
import Derived.Test.YtlfpkileblmhoaaGreatDoorQRouT
import Derived.Test.YtlfpkileblmhoaaGreatDoorQTopoD
import Derived.Test.YtlfpkileblmhoaaGreatDoorQTopoG
namespace Go.Proofs.YtlfpkileblmhoaaGreatDoor
open Go.RowKit Go.Shelf
set_option linter.unusedVariables false
set_option linter.unusedSimpArgs false

attribute [local go_sem] Oper.semAt_some

theorem beginV_at {l : Lay} {p : Pth} {x : Int × Int × Int} {y : Int × Int} (hx : p.ss[0]? = some x) (hy : l.sigs[p.s.toNat]? = some y) : beginV l p = decide ((x.1, x.2.1) = y) := by
  unfold beginV
  rw [List.head?_eq_getElem?, hx, hy, Bool.eq_iff_iff]
  obtain ⟨y1, y2⟩ := y
  simp
theorem endV_at {l : Lay} {p : Pth} {x : Int × Int × Int} {y : Exm} (hx : p.ss[p.ss.length - 1]? = some x) (hy : l.exits[p.x.toNat]? = some y) : endV l p = decide ((x.1, x.2.2) = (y.s, y.q)) := by
  unfold endV
  rw [List.getLast?_eq_getElem?, hx, hy, Bool.eq_iff_iff]
  simp
theorem pass_neigh (l : Lay) (ss : List (Int × Int × Int)) : (neighL ss).any (fun x => sigAt l x.2) = passV l ss := by
  have h : (neighL ss).map (fun x => x.2) = ss.drop 1 := by
    unfold neighL
    exact List.map_snd_zip (by rw [List.length_drop]; omega)
  unfold passV
  rw [← h, List.any_map]
  rfl
theorem over_once {l : Lay} (h : rightT l = true) {e : Exm} (he : e ∈ l.exits) : Once e.over := by
  have HG := hangs_iff.1 h
  have hst : ∀ s ∈ e.over, stepV l s.1 s.2.1 s.2.2 = true := fun s hs => (rightL_iff.1 HG.right).2.2.2.2.1 s (List.mem_flatMap.2 ⟨e, he, hs⟩)
  have hp := over_path HG.joined e.over (e.s, e.q) [e.s] (fun s hs => by obtain ⟨j, y, e1, _⟩ := step_some (hst s hs); omega) (HG.overs e he)
  intro i j x y hij hi hj
  exact (hp j x hj).2.2 i y hij hi
set_option maxRecDepth 100000 in
set_option maxHeartbeats 16000000 in
theorem isPath_any {l : Lay} {p : Pth} {w : World} (hT : Shapes w) (hL : Lies l w) (hp : PLies p w) (hrt : rightT l = true) (hk : knownV l p = true) {r : Bool} (hr : isPathV l p = r) :
    Calls Tryz.prog 32 #[l.val, p.val] w fun e w' => e = .returned (.bool r) ∧ Below w.heap.size w w' := by
  obtain ⟨ps, px, A, c, ss⟩ := p
  unfold knownV at hk
  simp only [Bool.and_eq_true, decide_eq_true_eq] at hk
  obtain ⟨js, rfl⟩ : ∃ n : Nat, ps = n := ⟨ps.toNat, by omega⟩
  obtain ⟨jx, rfl⟩ : ∃ n : Nat, px = n := ⟨px.toNat, by omega⟩
  obtain ⟨⟨g1, g2⟩, hsg⟩ : ∃ y, l.sigs[js]? = some y := ⟨_, List.getElem?_eq_getElem (by omega)⟩
  obtain ⟨ex, hex⟩ : ∃ y, l.exits[jx]? = some y := ⟨_, List.getElem?_eq_getElem (by omega)⟩
  have hone := over_once hrt (List.mem_of_getElem? hex)
  have hol : ex.over.length ≤ 2 := (own_lens (hangs_iff.1 hrt).right).2.2.2.2 ex (List.mem_of_getElem? hex)
  have hov := hL.overs ex (List.mem_of_getElem? hex)
  obtain ⟨Q, HQ, HQb, HQl, HQp, HQ0, hq⟩ : ∃ Q : World → Prop, Hid (Closed Q) ∧ Hid (∀ W, Q W → Below w.heap.size w W) ∧ Hid (∀ W, Q W → Whole W w.heap.size 29 l.cells) ∧ Hid (∀ W, Q W → Whole W (w.heap.size + 1) 32 (Pth.cells ⟨js, jx, A, c, ss⟩)) ∧ Hid (∀ W, Below w.heap.size w W → Whole W w.heap.size 29 l.cells → Whole W (w.heap.size + 1) 32 (Pth.cells ⟨js, jx, A, c, ss⟩) → Q W) ∧ Q ((w.alloc (.cells l.cells.toArray 29)).alloc (.cells (Pth.cells ⟨js, jx, A, c, ss⟩).toArray 32)) :=
    ⟨fun W => Below w.heap.size w W ∧ Whole W w.heap.size 29 l.cells ∧ Whole W (w.heap.size + 1) 32 (Pth.cells ⟨js, jx, A, c, ss⟩), Lib.hid ((Closed.below w).and ((Closed.whole _ _ _).and (Closed.whole _ _ _))), Lib.hid fun _ h => h.1, Lib.hid fun _ h => h.2.1, Lib.hid fun _ h => h.2.2, Lib.hid fun _ h1 h2 h3 => ⟨h1, h2, h3⟩, below2 w _ _, (Whole.new w _ l.cells).alloc _, Whole.new_at _ _ (Pth.cells ⟨js, jx, A, c, ss⟩) _ (by simp)⟩
  have HTW : Hid (∀ W, Q W → Shapes W ∧ Lies l W) := Lib.hid fun W hW => ⟨Shapes.closed _ _ hT (HQb.out W hW), Lies.closed l _ _ hL (HQb.out W hW)⟩
  have HRW : Hid (∀ W, Q W → Row W W.heap.size A (ss.flatMap stpCells)) := Lib.hid fun W hW => (hp.row.on (HQb.out W hW))
  have HR0 := Lib.hid hp.row
  have HOW : Hid (∀ W, Q W → Row W W.heap.size ex.A (ex.over.flatMap stpCells)) := Lib.hid fun W hW => (hov.on (HQb.out W hW))
  have hn := hp.len
  simp only at hn
  have HR := Lib.hid hr
  have HSG := Lib.hid hsg
  have HEX := Lib.hid hex
  have HONE := Lib.hid hone
  have hjs : (js : Int) < l.sigs.length := by omega
  have hjx : (jx : Int) < l.exits.length := by omega
  clear hT hL hp hrt hk hr hsg hex hone hov
  have m0 := HQl.out _ hq
  have x0 := m0.cell_at 0 rfl
  have x1 := m0.cell_at 1 rfl
  have x2 := m0.cell_at 2 rfl
  have x3 := m0.cell_at 3 rfl
  have x4 := m0.cell_at 4 rfl
  have x5 := m0.cell_at 5 rfl
  have x6 := m0.cell_at 6 rfl
  have x7 := m0.cell_at 7 rfl
  have x8 := m0.cell_at 8 rfl
  have x9 := m0.cell_at 9 rfl
  have x10 := m0.cell_at 10 rfl
  clear m0
  have m0 := HQp.out _ hq
  have y0 := m0.cell_at 0 rfl
  have y1 := m0.cell_at 1 rfl
  have y2 := m0.cell_at 2 rfl
  clear m0
  refine (callsIn_wide (n := 5)).1 ?_
  refine callsIn_of_wp_marks Tryz.func32 rfl trivial ?_ rfl
  simp only [Tryz.ntmps32, List.size_toArray, List.length_cons, List.length_nil, Nat.reduceAdd, Nat.reduceSub, Array.replicate_succ, Array.replicate_zero, List.push_toArray, List.append_toArray, List.nil_append, List.cons_append]
  refine wpIn_wide.2 ?_
  go_wp2_with fail
  refine wp_scope_fwd (l := 0) rfl ?_
  by_cases h1 : (ss.length : Int) < 1
  · have HF : Hid (false = r) := Lib.hid (by rw [← HR.out]; unfold isPathV sizeP; rw [decide_eq_false (by simp only; omega)]; rfl)
    go_wp2_with fail
    go_step3
    simp +zetaDelta only [Exit.inBlock, Exit.then, fwd_goto]
    refine ⟨trivial, ?_⟩
    go_wp2_with fail
    rw [Exit.noGoto_ret]
    exact ⟨_, results_tmp rfl _ _ _, by rw [← HF.out]; rfl, HQb.out _ hq⟩
  by_cases h12 : (12 : Int) < ss.length
  · have HF : Hid (false = r) := Lib.hid (by rw [← HR.out]; unfold isPathV sizeP; rw [decide_eq_false (p := (ss.length ≤ 12)) (by omega), Bool.and_false]; rfl)
    go_wp2_with fail
    go_step3
    simp +zetaDelta only [Exit.inBlock, Exit.then, fwd_goto]
    refine ⟨trivial, ?_⟩
    go_wp2_with fail
    rw [Exit.noGoto_ret]
    exact ⟨_, results_tmp rfl _ _ _, by rw [← HF.out]; rfl, HQb.out _ hq⟩
  obtain ⟨gs, hgs⟩ : ∃ b, goesS l ss = b := ⟨_, rfl⟩
  have KG := Lib.hid (fun W hW => keepR HQ.out (goes11_any (w := W) (HTW.out W hW).1 (HTW.out W hW).2 c (HRW.out W hW) hn hgs) hW)
  have HSZ : Hid (sizeP ss = true) := Lib.hid (by unfold sizeP; rw [decide_eq_true (p := (1 ≤ ss.length)) (by omega), decide_eq_true (p := (ss.length ≤ 12)) (by omega)]; rfl)
  have HGS := Lib.hid hgs
  clear hgs
  go_wp2_with fail
  refine (KG.out _ hq).mono ?_
  clear hq x0 x1 x2 x3 x4 x5 x6 x7 x8 x9 x10 y0 y1 y2
  rintro e w1 ⟨rfl, hq⟩
  cases gs
  · have HF : Hid (false = r) := Lib.hid (by rw [← HR.out]; unfold isPathV; simp only; rw [HSZ.out, HGS.out]; rfl)
    go_wp2_with fail
    go_step3
    simp +zetaDelta only [Exit.inBlock, Exit.then, fwd_goto]
    refine ⟨trivial, ?_⟩
    go_wp2_with fail
    rw [Exit.noGoto_ret]
    exact ⟨_, results_tmp rfl _ _ _, by rw [← HF.out]; rfl, HQb.out _ hq⟩
  obtain ⟨m, hm⟩ : ∃ m, ss.length = m + 1 := ⟨ss.length - 1, by omega⟩
  obtain ⟨⟨x1, x2, x3⟩, hx⟩ : ∃ x, ss[0]? = some x := ⟨_, List.getElem?_eq_getElem (by omega)⟩
  obtain ⟨⟨z1, z2, z3⟩, hz⟩ : ∃ x, ss[m]? = some x := ⟨_, List.getElem?_eq_getElem (by omega)⟩
  obtain ⟨b, off, HA, HC, HC'⟩ := row_at (f := stpCells) (n := 3) (fun _ => rfl) (by omega) HRW.out hq hx
  obtain rfl := HA.out
  have HX0 : Hid (∀ W, Q W → W.cell? ⟨b, off, none⟩ = some (.int .i64 x1) ∧ W.cell? ⟨b, off + 1, none⟩ = some (.int .i64 x2) ∧ W.cell? ⟨b, off + 2, none⟩ = some (.int .i64 x3)) := Lib.hid fun W hW => by
    have a0 := HC.out W hW 0 _ _ hx rfl
    have a1 := HC'.out W hW 0 _ 1 _ hx rfl
    have a2 := HC'.out W hW 0 _ 2 _ hx rfl
    simp only [Nat.zero_mul, Nat.add_zero] at a0 a1 a2
    exact ⟨a0, a1, a2⟩
  have HXM : Hid (∀ W, Q W → W.cell? ⟨b, off + m * 3, none⟩ = some (.int .i64 z1) ∧ W.cell? ⟨b, off + m * 3 + 1, none⟩ = some (.int .i64 z2) ∧ W.cell? ⟨b, off + m * 3 + 2, none⟩ = some (.int .i64 z3)) := Lib.hid fun W hW => ⟨HC.out W hW m _ _ hz rfl, HC'.out W hW m _ 1 _ hz rfl, HC'.out W hW m _ 2 _ hz rfl⟩
  obtain ⟨bg, og, HAG, HG, HG'⟩ := row_at (f := prtCells) (n := 2) (fun _ => rfl) (by omega) (fun W hW => (HTW.out W hW).2.sigs) hq HSG.out
  have HSC : Hid (∀ W, Q W → W.cell? ⟨bg, og + js * 2, none⟩ = some (.int .i64 g1) ∧ W.cell? ⟨bg, og + js * 2 + 1, none⟩ = some (.int .i64 g2)) := Lib.hid fun W hW => ⟨HG.out W hW js _ _ HSG.out rfl, HG'.out W hW js _ 1 _ HSG.out rfl⟩
  obtain ⟨be, oe, HAE, HE, HE'⟩ := row_at (f := Exm.cells) (n := 3) (fun _ => rfl) (by omega) (fun W hW => (HTW.out W hW).2.exits) hq HEX.out
  have HEC : Hid (∀ W, Q W → W.cell? ⟨be, oe + jx * 3, none⟩ = some (.int .i64 ex.s) ∧ W.cell? ⟨be, oe + jx * 3 + 1, none⟩ = some (.int .i64 ex.q) ∧ W.cell? ⟨be, oe + jx * 3 + 2, none⟩ = some (.slice ex.A ex.over.length ex.c)) := Lib.hid fun W hW => ⟨HE.out W hW jx _ _ HEX.out rfl, HE'.out W hW jx _ 1 _ HEX.out rfl, HE'.out W hW jx _ 2 _ HEX.out rfl⟩
  obtain ⟨d1, hd1⟩ : ∃ d, decide ((x1, x2) = (g1, g2)) = d := ⟨_, rfl⟩
  obtain ⟨d2, hd2⟩ : ∃ d, decide ((z1, z3) = (ex.s, ex.q)) = d := ⟨_, rfl⟩
  obtain ⟨d3, hd3⟩ : ∃ d, (!simpleB ss ex.over) = d := ⟨_, rfl⟩
  obtain ⟨d4, hd4⟩ : ∃ d, passV l ss = d := ⟨_, rfl⟩
  have HRR : Hid ((d1 && (d2 && (!d3 && !d4))) = r) := Lib.hid (by
    rw [← HR.out]
    unfold isPathV
    simp only
    rw [HSZ.out, HGS.out, over_at HEX.out, show simpleB ss ex.over = !d3 by rw [← hd3, Bool.not_not], hd4, beginV_at (p := ⟨js, jx, some ⟨b, off, none⟩, c, ss⟩) hx HSG.out, endV_at (p := ⟨js, jx, some ⟨b, off, none⟩, c, ss⟩) (show ss[ss.length - 1]? = _ by rw [hm]; exact hz) HEX.out, hd1, hd2]
    rfl)
  have HN1 : Hid (∀ W, (binOp .neq 46 (prtV x1 x2) (prtV g1 g2)).run Tryz.prog W = .ok (.bool (!d1)) W) := Lib.hid fun W => by rw [neq_prtD, hd1]
  have HN2 : Hid (∀ W, (binOp .neq 46 (prtV z1 z3) (prtV ex.s ex.q)).run Tryz.prog W = .ok (.bool (!d2)) W) := Lib.hid fun W => by rw [neq_prtD, hd2]
  have hwm : IntKind.i64.wrap ((ss.length : Int) - 1) = (m : Int) := by rw [IntWalk.i64_in _ (by omega)]; omega
  have hml : (m : Int) < ss.length := by omega
  have h0l : (0 : Int) < ss.length := by omega
  have h0n : 0 < ss.length := by omega
  have hne : ss ≠ [] := by intro e; rw [e] at h0n; simp at h0n
  have HD3 := Lib.hid hd3
  have HD4 := Lib.hid hd4
  have HM := Lib.hid hm
  clear hx hz hd1 hd2 hd3 hd4 hm HG HG' HE HE' HA
  go_wp2_with fail
  have HBS : Hid (∀ W, Below w1.heap.size w1 W → Q W) := Lib.hid (fun W hB => HQ.out _ _ hq hB)
  clear hq
  refine region_mix (Below w1.heap.size w1) [(0, false), (1, false), (2, false), (3, false), (4, false), (5, false), (6, false), (7, false), (8, false), (9, false), (10, false), (11, false), (12, false)] (by kernel_rfl) (by kernel_rfl) (Below w1.heap.size w1) ⟨Closed.below w1, fun _ h => h⟩ (Below.refl _ _).drew ?_
  simp only [pickOps, List.getElem?_cons_zero, List.getElem?_cons_succ]
  repeat (first | (refine mix_skip (by rfl) ?_; simp only [Act.put, List.setIfInBounds_toArray, List.set_cons_zero, List.set_cons_succ]) | (refine mix_read _ (by rfl) (fun W hW => by (have hW := HBS.out W hW; have m0 := HQl.out W hW; have x0 := m0.cell_at 0 rfl; have x1 := m0.cell_at 1 rfl; have x2 := m0.cell_at 2 rfl; have x3 := m0.cell_at 3 rfl; have x4 := m0.cell_at 4 rfl; have x5 := m0.cell_at 5 rfl; have x6 := m0.cell_at 6 rfl; have x7 := m0.cell_at 7 rfl; have x8 := m0.cell_at 8 rfl; have x9 := m0.cell_at 9 rfl; have x10 := m0.cell_at 10 rfl; have m1 := HQp.out W hW; have y0 := m1.cell_at 0 rfl; have y1 := m1.cell_at 1 rfl; have y2 := m1.cell_at 2 rfl; clear m0 m1; obtain ⟨a0, a1, a2⟩ := HX0.out W hW; obtain ⟨s0, s1⟩ := HSC.out W hW; have hnq := HN1.out; go_simp; first | done | with_reducible rfl)) ?_; simp only [Act.put, List.setIfInBounds_toArray, List.set_cons_zero, List.set_cons_succ]) | (refine mix_read _ (by rfl) (fun W hW => by (have hW := HBS.out W hW; have m0 := HQl.out W hW; have x0 := m0.cell_at 0 rfl; have x1 := m0.cell_at 1 rfl; have x2 := m0.cell_at 2 rfl; have x3 := m0.cell_at 3 rfl; have x4 := m0.cell_at 4 rfl; have x5 := m0.cell_at 5 rfl; have x6 := m0.cell_at 6 rfl; have x7 := m0.cell_at 7 rfl; have x8 := m0.cell_at 8 rfl; have x9 := m0.cell_at 9 rfl; have x10 := m0.cell_at 10 rfl; have m1 := HQp.out W hW; have y0 := m1.cell_at 0 rfl; have y1 := m1.cell_at 1 rfl; have y2 := m1.cell_at 2 rfl; clear m0 m1; obtain ⟨a0, a1, a2⟩ := HX0.out W hW; obtain ⟨s0, s1⟩ := HSC.out W hW; have hnq := HN1.out; rw [HAG.out]; go_simp; first | done | with_reducible rfl)) ?_; simp only [Act.put, List.setIfInBounds_toArray, List.set_cons_zero, List.set_cons_succ]) | (refine mix_call _ _ _ (by rfl) (fun W hW => by (have hW := HBS.out W hW; have m0 := HQl.out W hW; have x0 := m0.cell_at 0 rfl; have x1 := m0.cell_at 1 rfl; have x2 := m0.cell_at 2 rfl; have x3 := m0.cell_at 3 rfl; have x4 := m0.cell_at 4 rfl; have x5 := m0.cell_at 5 rfl; have x6 := m0.cell_at 6 rfl; have x7 := m0.cell_at 7 rfl; have x8 := m0.cell_at 8 rfl; have x9 := m0.cell_at 9 rfl; have x10 := m0.cell_at 10 rfl; have m1 := HQp.out W hW; have y0 := m1.cell_at 0 rfl; have y1 := m1.cell_at 1 rfl; have y2 := m1.cell_at 2 rfl; clear m0 m1; obtain ⟨a0, a1, a2⟩ := HX0.out W hW; obtain ⟨s0, s1⟩ := HSC.out W hW; have hnq := HN1.out; go_simp; first | done | rfl)) (fun W hW => enters11_any x1 x2 x3 W) ?_; simp only [Act.put, List.setIfInBounds_toArray, List.set_cons_zero, List.set_cons_succ]))
  refine mix_nil (fun W hW => ?_)
  have hq := HBS.out W hW
  clear hW HBS
  cases d1
  · have HF : Hid (false = r) := HRR
    go_wp2_with fail
    go_step3
    simp +zetaDelta only [Exit.inBlock, Exit.then, fwd_goto]
    refine ⟨trivial, ?_⟩
    go_wp2_with fail
    rw [Exit.noGoto_ret]
    exact ⟨_, results_tmp rfl _ _ _, by rw [← HF.out]; rfl, HQb.out _ hq⟩
  have HRR : Hid ((d2 && (!d3 && !d4)) = r) := HRR
  go_wp2_with fail
  obtain ⟨w2, rfl⟩ : ∃ X, X = W := ⟨W, rfl⟩
  have HBS : Hid (∀ W, Below w2.heap.size w2 W → Q W) := Lib.hid (fun W hB => HQ.out _ _ hq hB)
  clear hq
  refine region_mix (Below w2.heap.size w2) [(0, false), (1, false), (2, false), (3, false), (4, false), (5, false), (6, false), (7, false), (8, false), (9, false), (10, false), (11, false), (12, false), (13, false), (14, false), (15, false), (16, false)] (by kernel_rfl) (by kernel_rfl) (Below w2.heap.size w2) ⟨Closed.below w2, fun _ h => h⟩ (Below.refl _ _).drew ?_
  simp only [pickOps, List.getElem?_cons_zero, List.getElem?_cons_succ]
  repeat (first | (refine mix_skip (by rfl) ?_; simp only [Act.put, List.setIfInBounds_toArray, List.set_cons_zero, List.set_cons_succ]) | (refine mix_read _ (by rfl) (fun W hW => by (have hW := HBS.out W hW; have m0 := HQl.out W hW; have x0 := m0.cell_at 0 rfl; have x1 := m0.cell_at 1 rfl; have x2 := m0.cell_at 2 rfl; have x3 := m0.cell_at 3 rfl; have x4 := m0.cell_at 4 rfl; have x5 := m0.cell_at 5 rfl; have x6 := m0.cell_at 6 rfl; have x7 := m0.cell_at 7 rfl; have x8 := m0.cell_at 8 rfl; have x9 := m0.cell_at 9 rfl; have x10 := m0.cell_at 10 rfl; have m1 := HQp.out W hW; have y0 := m1.cell_at 0 rfl; have y1 := m1.cell_at 1 rfl; have y2 := m1.cell_at 2 rfl; clear m0 m1; obtain ⟨a0, a1, a2⟩ := HXM.out W hW; obtain ⟨s0, s1, s2⟩ := HEC.out W hW; have hnq := HN2.out; go_simp; first | done | with_reducible rfl)) ?_; simp only [Act.put, List.setIfInBounds_toArray, List.set_cons_zero, List.set_cons_succ]) | (refine mix_read _ (by rfl) (fun W hW => by (have hW := HBS.out W hW; have m0 := HQl.out W hW; have x0 := m0.cell_at 0 rfl; have x1 := m0.cell_at 1 rfl; have x2 := m0.cell_at 2 rfl; have x3 := m0.cell_at 3 rfl; have x4 := m0.cell_at 4 rfl; have x5 := m0.cell_at 5 rfl; have x6 := m0.cell_at 6 rfl; have x7 := m0.cell_at 7 rfl; have x8 := m0.cell_at 8 rfl; have x9 := m0.cell_at 9 rfl; have x10 := m0.cell_at 10 rfl; have m1 := HQp.out W hW; have y0 := m1.cell_at 0 rfl; have y1 := m1.cell_at 1 rfl; have y2 := m1.cell_at 2 rfl; clear m0 m1; obtain ⟨a0, a1, a2⟩ := HXM.out W hW; obtain ⟨s0, s1, s2⟩ := HEC.out W hW; have hnq := HN2.out; rw [HAE.out]; go_simp; first | done | with_reducible rfl)) ?_; simp only [Act.put, List.setIfInBounds_toArray, List.set_cons_zero, List.set_cons_succ]) | (refine mix_call _ _ _ (by rfl) (fun W hW => by (have hW := HBS.out W hW; have m0 := HQl.out W hW; have x0 := m0.cell_at 0 rfl; have x1 := m0.cell_at 1 rfl; have x2 := m0.cell_at 2 rfl; have x3 := m0.cell_at 3 rfl; have x4 := m0.cell_at 4 rfl; have x5 := m0.cell_at 5 rfl; have x6 := m0.cell_at 6 rfl; have x7 := m0.cell_at 7 rfl; have x8 := m0.cell_at 8 rfl; have x9 := m0.cell_at 9 rfl; have x10 := m0.cell_at 10 rfl; have m1 := HQp.out W hW; have y0 := m1.cell_at 0 rfl; have y1 := m1.cell_at 1 rfl; have y2 := m1.cell_at 2 rfl; clear m0 m1; obtain ⟨a0, a1, a2⟩ := HXM.out W hW; obtain ⟨s0, s1, s2⟩ := HEC.out W hW; have hnq := HN2.out; go_simp; first | done | rfl)) (fun W hW => leaves11_any z1 z2 z3 W) ?_; simp only [Act.put, List.setIfInBounds_toArray, List.set_cons_zero, List.set_cons_succ]))
  refine mix_nil (fun W hW => ?_)
  have hq := HBS.out W hW
  clear hW HBS
  cases d2
  · have HF : Hid (false = r) := HRR
    go_wp2_with fail
    go_step3
    simp +zetaDelta only [Exit.inBlock, Exit.then, fwd_goto]
    refine ⟨trivial, ?_⟩
    go_wp2_with fail
    rw [Exit.noGoto_ret]
    exact ⟨_, results_tmp rfl _ _ _, by rw [← HF.out]; rfl, HQb.out _ hq⟩
  have HRR : Hid ((!d3 && !d4) = r) := HRR
  obtain ⟨w3, rfl⟩ : ∃ X, X = W := ⟨W, rfl⟩
  obtain ⟨nn, hnn⟩ : ∃ n, (ss ++ ex.over).length = n := ⟨_, rfl⟩
  have KC : Hid (∀ W g, Q W → Whole W g 30 [.slice (some ⟨b, off, none⟩) ss.length c, .slice ex.A ex.over.length ex.c] → Calls Tryz.prog 52 #[.slice (some ⟨g, 0, none⟩) 2 2] W fun e w' => ∃ x : Option Addr × Nat, e = .returned (.slice x.1 nn x.2) ∧ (Row w' w'.heap.size x.1 ((ss ++ ex.over).flatMap stpCells) ∧ nn ≤ x.2) ∧ Below W.heap.size W w') := Lib.hid fun W g hW hg =>
    (concat_any (HRW.out W hW) (HOW.out W hW) hg (by omega) (by omega)).mono fun e w' ⟨A', c', h1, h2, h3, h4⟩ => ⟨(A', c'), by rw [h1, hnn], ⟨h2, by rw [← hnn]; exact h3⟩, h4⟩
  have KT : Hid (∀ W (x : Option Addr × Nat), Row W W.heap.size x.1 ((ss ++ ex.over).flatMap stpCells) ∧ nn ≤ x.2 → Calls Tryz.prog 51 #[.slice x.1 nn x.2] W fun e w' => e = .returned (.bool d3) ∧ Below W.heap.size W w') := Lib.hid fun W x h => by
    have := twice_any (ss := ss ++ ex.over) (A := x.1) (c := x.2) h.1 (by rw [List.length_append]; omega) (by rw [hnn]; exact h.2) (r := d3) (by rw [twice_append HONE.out]; exact HD3.out)
    rw [hnn] at this
    exact this
  clear hnn
  go_wp2_with fail
  have HBS : Hid (∀ W, Below w3.heap.size w3 W → Q W) := Lib.hid (fun W hB => HQ.out _ _ hq hB)
  clear hq
  refine region_mix (Below w3.heap.size w3) [(0, false), (1, false), (2, false), (3, false), (4, false), (5, false), (6, false), (7, false), (8, false), (9, true), (10, true), (11, true)] (by kernel_rfl) (by kernel_rfl) (Below w3.heap.size w3) ⟨Closed.below w3, fun _ h => h⟩ (Below.refl _ _).drew ?_
  simp only [pickOps, List.getElem?_cons_zero, List.getElem?_cons_succ]
  repeat (first | (refine mix_skip (by rfl) ?_; simp only [Act.put, List.setIfInBounds_toArray, List.set_cons_zero, List.set_cons_succ]) | (refine mix_read _ (by rfl) (fun W hW => by (have hW := HBS.out W hW; have m0 := HQl.out W hW; have x0 := m0.cell_at 0 rfl; have x1 := m0.cell_at 1 rfl; have x2 := m0.cell_at 2 rfl; have x3 := m0.cell_at 3 rfl; have x4 := m0.cell_at 4 rfl; have x5 := m0.cell_at 5 rfl; have x6 := m0.cell_at 6 rfl; have x7 := m0.cell_at 7 rfl; have x8 := m0.cell_at 8 rfl; have x9 := m0.cell_at 9 rfl; have x10 := m0.cell_at 10 rfl; have m1 := HQp.out W hW; have y0 := m1.cell_at 0 rfl; have y1 := m1.cell_at 1 rfl; have y2 := m1.cell_at 2 rfl; clear m0 m1; obtain ⟨s0, s1, s2⟩ := HEC.out W hW; go_simp; first | done | with_reducible rfl)) ?_; simp only [Act.put, List.setIfInBounds_toArray, List.set_cons_zero, List.set_cons_succ]) | (refine mix_read _ (by rfl) (fun W hW => by (have hW := HBS.out W hW; have m0 := HQl.out W hW; have x0 := m0.cell_at 0 rfl; have x1 := m0.cell_at 1 rfl; have x2 := m0.cell_at 2 rfl; have x3 := m0.cell_at 3 rfl; have x4 := m0.cell_at 4 rfl; have x5 := m0.cell_at 5 rfl; have x6 := m0.cell_at 6 rfl; have x7 := m0.cell_at 7 rfl; have x8 := m0.cell_at 8 rfl; have x9 := m0.cell_at 9 rfl; have x10 := m0.cell_at 10 rfl; have m1 := HQp.out W hW; have y0 := m1.cell_at 0 rfl; have y1 := m1.cell_at 1 rfl; have y2 := m1.cell_at 2 rfl; clear m0 m1; obtain ⟨s0, s1, s2⟩ := HEC.out W hW; rw [HAE.out]; go_simp; first | done | with_reducible rfl)) ?_; simp only [Act.put, List.setIfInBounds_toArray, List.set_cons_zero, List.set_cons_succ]))
  refine mix_make (fun g => .slice (some ⟨g, 0, none⟩) 2 2) w3.heap.size 30 [.slice (some ⟨b, off, none⟩) ss.length c, .slice ex.A ex.over.length ex.c] ⟨Closed.below w3, fun _ h => h⟩ (fun _ h => h.size) (by rfl) (fun W hW => by (go_simp; first | done | with_reducible rfl)) (fun g hg => ?_)
  simp only [Act.put, List.setIfInBounds_toArray, List.set_cons_zero, List.set_cons_succ]
  refine mix_meet (fun x : Option Addr × Nat => .slice x.1 nn x.2) (fun x W => Row W W.heap.size x.1 ((ss ++ ex.over).flatMap stpCells) ∧ nn ≤ x.2) ⟨(Closed.below w3).and (Closed.whole _ _ _), fun _ h => h.1⟩ (fun x W W' h hB => ⟨h.1.on hB, h.2⟩) _ _ (by rfl) (fun W hW => by (go_simp; first | done | rfl)) (fun W hW => KC.out W g (HBS.out W hW.1) hW.2) (fun xq => ?_)
  simp only [Act.put, List.setIfInBounds_toArray, List.set_cons_zero, List.set_cons_succ]
  refine mix_ask _ _ (.bool d3) ⟨((Closed.below w3).and (Closed.whole _ _ _)).and (fun _ _ h hB => ⟨h.1.on hB, h.2⟩), fun _ h => h.1.1⟩ (by rfl) (fun W hW => by (go_simp; first | done | rfl)) (fun W hW => KT.out W xq hW.2) ?_
  simp only [Act.put, List.setIfInBounds_toArray, List.set_cons_zero, List.set_cons_succ]
  refine mix_nil (fun W hW => ?_)
  have hq := HBS.out W hW.1.1
  clear hW HBS KC KT
  cases d3
  rotate_left
  · have HF : Hid (false = r) := HRR
    go_wp2_with fail
    go_step3
    simp +zetaDelta only [Exit.inBlock, Exit.then, fwd_goto]
    refine ⟨trivial, ?_⟩
    go_wp2_with fail
    rw [Exit.noGoto_ret]
    exact ⟨_, results_tmp rfl _ _ _, by rw [← HF.out]; rfl, HQb.out _ hq⟩
  have HRR : Hid ((!d4) = r) := HRR
  have y2 := (HQp.out _ hq).cell_at 2 rfl
  go_wp2_with fail
  refine (neighbours_any _ _ _ _).mono ?_
  clear y2
  rintro e w5 ⟨rfl, rfl⟩
  go_wp2_with fail
  obtain ⟨h, hh⟩ : ∃ h, W.heap.size = h := ⟨_, rfl⟩
  obtain ⟨W0, hW0⟩ : ∃ W0, W.alloc (.cells #[.slice (some ⟨b, off, none⟩) ss.length c] 30) = W0 := ⟨_, rfl⟩
  have hsz : W0.heap.size = h + 1 := by rw [← hW0]; simp; omega
  have hwh : w.heap.size + 1 < h := by have := (HQp.out _ hq).lt; omega
  have hq0 : Q W0 := by rw [← hW0]; exact HQ.out _ _ hq (below1 _ _)
  have hbx : Whole W0 h 30 [.slice (some ⟨b, off, none⟩) ss.length c] := by rw [← hW0]; exact Whole.new_at _ _ [_] _ hh.symm
  rw [hW0, hh]
  have hit := neigh_iter (n0 := w.heap.size) hbx (HR0.out.below (HQb.out _ hq0)) hn
  have HPN : Hid ((neighL ss).any (fun x => sigAt l x.2) = d4) := Lib.hid (by rw [pass_neigh]; exact HD4.out)
  have HWH := Lib.hid (And.intro hsz hwh)
  clear hW0 hbx hq hh
  refine (wpIn_wide (n := 5)).1 ?_
  refine range_iter (gf := 56) rfl (enters_of Tryz.func56 (by kernel_rfl) rfl) hit (Keeps.refl _ _) (fun k hk => by rcases hk with hk | hk <;> omega) (fun _ => rfl) (by omega)
    (fun _ => False) (fun k hk => hk.elim) (fun k hk => hk.elim)
    (fun j W => (Whole W w.heap.size 29 l.cells ∧ Whole W (w.heap.size + 1) 32 (Pth.cells ⟨js, jx, some ⟨b, off, none⟩, c, ss⟩)) ∧ (Below w.heap.size w W ∧ Hid (NoneUp (fun x => sigAt l x.2) (neighL ss) j)))
    (fun cd W => Below w.heap.size w W ∧ (Hid (false = r) ∧ cd = .goto 0))
    (OwnFrom.and (OwnFrom.and (Own.from (fun s X Y row hs hg hr => hs.abides hg hr) _) (Own.from (fun s X Y row hs hg hr => hs.abides hg hr) _)) (OwnFrom.and (ownFrom_below (Nat.le_refl _) (by omega)) (ownFrom_pure _ _)))
    (fun cd => OwnFrom.and (ownFrom_below (Nat.le_refl _) (by omega)) (ownFrom_pure _ _))
    ⟨⟨HQl.out _ hq0, HQp.out _ hq0⟩, HQb.out _ hq0, Lib.hid (NoneUp.zero _ _)⟩
    (fun _ x a' W => ∃ gx, Whole W gx 50 (stpCells x.2) ∧ a' = { tmps := #[l.val, Pth.val ⟨js, jx, some ⟨b, off, none⟩, c, ss⟩, Value.pointer (some { block := w.heap.size, off := 0 }), Value.pointer (some { block := w.heap.size + 1, off := 0 }), Value.bool false, undef, .pointer (some ⟨gx, 0, none⟩), Value.pointer (some { block := w.heap.size + 1, off := 2 }), Value.slice (some { block := b, off := off }) ss.length c, Value.int IntKind.i64 ↑ss.length, Value.bool false, Value.bool false, Value.pointer (some { block := w.heap.size + 1, off := 2 }), Value.slice (some { block := b, off := off }) ss.length c, Value.int IntKind.i64 ↑ss.length, Value.bool false, Value.bool false, Value.bool false, Value.agg #[Value.slice l.As l.secs.length l.cs, Value.slice l.Ag l.sigs.length l.cg, Value.slice l.Ae l.exits.length l.ce, Value.slice l.Af l.flanks.length l.cf, Value.int IntKind.i64 l.t0, Value.int IntKind.i64 l.t1, Value.int IntKind.i64 l.t2, Value.int IntKind.i64 l.t3, Value.int IntKind.i64 l.t4, Value.int IntKind.i64 l.t5, Value.int IntKind.i64 l.t6], Value.pointer (some { block := w.heap.size + 1, off := 2 }), Value.slice (some { block := b, off := off }) ss.length c, Value.bool true, Value.bool false, Value.bool false, Value.pointer (some { block := w.heap.size + 1, off := 2 }), Value.slice (some { block := b, off := off }) ss.length c, Value.pointer (some { block := b, off := off }), Value.agg #[Value.int IntKind.i64 x1, Value.int IntKind.i64 x2, Value.int IntKind.i64 x3], prtV x1 x2, Value.pointer (some { block := w.heap.size, off := 1 }), Value.slice l.Ag l.sigs.length l.cg, Value.pointer (some { block := w.heap.size + 1, off := 0 }), Value.int IntKind.i64 ↑js, Value.pointer (some { block := bg, off := og + js * 2 }), Value.pointer (some { block := bg, off := og + js * 2 }), Value.agg #[Value.int IntKind.i64 g1, Value.int IntKind.i64 g2], Value.bool false, Value.pointer (some { block := w.heap.size + 1, off := 2 }), Value.slice (some { block := b, off := off }) ss.length c, Value.pointer (some { block := w.heap.size + 1, off := 2 }), Value.slice (some { block := b, off := off }) ss.length c, Value.int IntKind.i64 ↑ss.length, Value.int IntKind.i64 ↑m, Value.pointer (some { block := b, off := off + m * 3 }), Value.agg #[Value.int IntKind.i64 z1, Value.int IntKind.i64 z2, Value.int IntKind.i64 z3], prtV z1 z3, Value.pointer (some { block := w.heap.size, off := 2 }), Value.slice l.Ae l.exits.length l.ce, Value.pointer (some { block := w.heap.size + 1, off := 1 }), Value.int IntKind.i64 ↑jx, Value.pointer (some { block := be, off := oe + jx * 3 }), Value.pointer (some { block := be, off := oe + jx * 3 }), Value.agg #[Value.int IntKind.i64 ex.s, Value.int IntKind.i64 ex.q], Value.bool false, Value.pointer (some { block := w.heap.size + 1, off := 2 }), Value.slice (some { block := b, off := off }) ss.length c, Value.pointer (some { block := w.heap.size, off := 2 }), Value.slice l.Ae l.exits.length l.ce, Value.pointer (some { block := w.heap.size + 1, off := 1 }), Value.int IntKind.i64 ↑jx, Value.pointer (some { block := be, off := oe + jx * 3 }), Value.pointer (some { block := be, off := oe + jx * 3 + 2 }), Value.slice ex.A ex.over.length ex.c, Value.slice (some { block := g, off := 0 }) 2 2, Value.slice xq.fst nn xq.snd, Value.bool false, Value.pointer (some { block := w.heap.size + 1, off := 2 }), Value.slice (some { block := b, off := off }) ss.length c, .func (.func 56) #[] #[.pointer (some ⟨h, 0, none⟩)], stpV x.1.1 x.1.2.1 x.1.2.2, stpV x.2.1 x.2.2.1 x.2.2.2, undef, undef, undef, undef, undef], defers := [] })
    (fun _ x a' => Own.from (fun s X Y row hs hg hr => by obtain ⟨gx, h1, h3⟩ := hs; exact ⟨gx, h1.abides hg hr, h3⟩) _)
    ?assign ?body ?done ?stop
  case assign =>
    rintro lr j x Wa K hx ⟨⟨hI0, hI1⟩, hI2, hI3⟩ hK
    have hb := below1 Wa (.cells (stpCells x.2).toArray 50)
    have HI3 := Lib.hid hI3
    clear hx hI3
    gi_wp2_with fail
    exact hK _ _ ⟨⟨rfl, rfl, rfl⟩, hb.size, fun i o ho _ => (hb.block i (Array.getElem?_eq_some_iff.1 ho).1).trans ho⟩ ⟨⟨hI0.below hb hI0.lt, hI1.below hb hI1.lt⟩, hI2.trans (hb.mono hI2.size), HI3.out⟩ ⟨Wa.heap.size, Whole.new Wa _ (stpCells x.2), rfl⟩
  case body =>
    rintro lr j x a' Wb hl hx ⟨⟨hI0, hI1⟩, hI2, hI3⟩ ⟨gx, hgx, rfl⟩
    have HX := Lib.hid hx
    have HI3 := Lib.hid hI3
    obtain ⟨⟨a1, a2, a3⟩, b1, b2, b3⟩ := x
    simp only at hgx
    obtain ⟨R, HRc, HRq, HRg, hR⟩ : ∃ R : World → Prop, Hid (Closed R) ∧ Hid (∀ W, R W → Q W) ∧ Hid (∀ W, R W → Whole W gx 50 (stpCells (b1, b2, b3))) ∧ R Wb :=
      ⟨fun W => Q W ∧ Whole W gx 50 (stpCells (b1, b2, b3)), Lib.hid (HQ.out.and (Closed.whole _ _ _)), Lib.hid fun _ h => h.1, Lib.hid fun _ h => h.2, ⟨HQ0.out _ hI2 hI0 hI1, hgx⟩⟩
    obtain ⟨sg, hsg⟩ : ∃ s, signalV l b1 b2 = s := ⟨_, rfl⟩
    obtain ⟨d, hd⟩ : ∃ d, decide (0 ≤ sg) = d := ⟨_, rfl⟩
    have HD : Hid (sigAt l (b1, b2, b3) = d) := Lib.hid (by rw [← hd, ← hsg]; rfl)
    have HDD := Lib.hid hd
    have KB : Hid (∀ W, R W → Calls Tryz.prog 53 #[l.val, prtV b1 b2] W fun e w' => e = .returned (.int .i64 sg) ∧ Below W.heap.size W w') := Lib.hid fun W hW => signal_B (HTW.out _ (HRq.out _ hW)).2 b1 b2 hsg
    have HS := Lib.hid (And.intro hI0 (And.intro hI1 hI2))
    clear hx hI0 hI1 hI2 hI3 hgx hsg hd hit
    gi_wp2_with fail
    have HBS : Hid (∀ W, Below Wb.heap.size Wb W → R W) := Lib.hid (fun W hB => HRc.out _ _ hR hB)
    clear hR
    refine wpIn_normal (region_mixR lr _ (Below Wb.heap.size Wb) [(0, false), (1, false), (2, false), (3, false), (4, false)] (by kernel_rfl) (by kernel_rfl) (by kernel_rfl) noLetsOut (Below Wb.heap.size Wb) ⟨Closed.below Wb, fun _ h => h⟩ (Below.refl _ _).drew ?_)
    simp only [pickOps, List.getElem?_cons_zero, List.getElem?_cons_succ]
    repeat (first | (refine mix_skip (by rfl) ?_; simp only [Act.put, List.setIfInBounds_toArray, List.set_cons_zero, List.set_cons_succ]) | (refine mix_read _ (by rfl) (fun W hW => by (have hW := HBS.out W hW; have m1 := HRg.out W hW; have m0 := HQl.out _ (HRq.out _ hW); have x0 := m0.cell_at 0 rfl; have x1 := m0.cell_at 1 rfl; have x2 := m0.cell_at 2 rfl; have x3 := m0.cell_at 3 rfl; have x4 := m0.cell_at 4 rfl; have x5 := m0.cell_at 5 rfl; have x6 := m0.cell_at 6 rfl; have x7 := m0.cell_at 7 rfl; have x8 := m0.cell_at 8 rfl; have x9 := m0.cell_at 9 rfl; have x10 := m0.cell_at 10 rfl; have v0 := m1.cell_at 0 rfl; have v1 := m1.cell_at 1 rfl; have v2 := m1.cell_at 2 rfl; have hdd := HDD.out; clear m0 m1; go_simp; first | done | with_reducible rfl)) ?_; simp only [Act.put, List.setIfInBounds_toArray, List.set_cons_zero, List.set_cons_succ]) | (refine mix_call _ _ _ (by rfl) (fun W hW => by (have hW := HBS.out W hW; have m1 := HRg.out W hW; have m0 := HQl.out _ (HRq.out _ hW); have x0 := m0.cell_at 0 rfl; have x1 := m0.cell_at 1 rfl; have x2 := m0.cell_at 2 rfl; have x3 := m0.cell_at 3 rfl; have x4 := m0.cell_at 4 rfl; have x5 := m0.cell_at 5 rfl; have x6 := m0.cell_at 6 rfl; have x7 := m0.cell_at 7 rfl; have x8 := m0.cell_at 8 rfl; have x9 := m0.cell_at 9 rfl; have x10 := m0.cell_at 10 rfl; have v0 := m1.cell_at 0 rfl; have v1 := m1.cell_at 1 rfl; have v2 := m1.cell_at 2 rfl; have hdd := HDD.out; clear m0 m1; go_simp; first | done | rfl)) (fun W hW => KB.out W (HBS.out W hW)) ?_; simp only [Act.put, List.setIfInBounds_toArray, List.set_cons_zero, List.set_cons_succ]) | (refine mix_call _ _ _ (by rfl) (fun W hW => by (have hW := HBS.out W hW; have m1 := HRg.out W hW; have m0 := HQl.out _ (HRq.out _ hW); have x0 := m0.cell_at 0 rfl; have x1 := m0.cell_at 1 rfl; have x2 := m0.cell_at 2 rfl; have x3 := m0.cell_at 3 rfl; have x4 := m0.cell_at 4 rfl; have x5 := m0.cell_at 5 rfl; have x6 := m0.cell_at 6 rfl; have x7 := m0.cell_at 7 rfl; have x8 := m0.cell_at 8 rfl; have x9 := m0.cell_at 9 rfl; have x10 := m0.cell_at 10 rfl; have v0 := m1.cell_at 0 rfl; have v1 := m1.cell_at 1 rfl; have v2 := m1.cell_at 2 rfl; have hdd := HDD.out; clear m0 m1; go_simp; first | done | rfl)) (fun W hW => enters11_any b1 b2 b3 W) ?_; simp only [Act.put, List.setIfInBounds_toArray, List.set_cons_zero, List.set_cons_succ]))
    refine mix_nil (fun W' hW' => ?_)
    have hBd : Below Wb.heap.size Wb W' := hW'
    obtain ⟨hI0, hI1, hI2⟩ := HS.out
    clear hW' HBS
    cases d
    · have HN := Lib.hid (HI3.out.succ HX.out HD.out)
      gi_wp2_with fail
      exact ⟨Off.below hBd, ⟨hI0.below hBd hI0.lt, hI1.below hBd hI1.lt⟩, hI2.trans (hBd.mono hI2.size), HN.out⟩
    · have HF : Hid (false = r) := Lib.hid (by rw [← HRR.out, ← HPN.out, any_hit HX.out HD.out]; rfl)
      gi_wp2_with fail
      refine wpIn_goto ?_
      simp +zetaDelta only [Exit.inBlock, Exit.then]
      exact ⟨Off.below hBd, hI2.trans (hBd.mono hI2.size), HF, rfl⟩
  case done =>
    rintro D Wd hD ⟨_, hI2, hI3⟩ hK
    have HF : Hid (true = r) := Lib.hid (by rw [← HRR.out, ← HPN.out, hI3.out.any]; rfl)
    clear hI3 hit
    go_wp2_with fail
    rw [fwd_ret]
    refine ⟨by simp, .inl ⟨_, _, rfl, run_takeDeferred hK, ?_⟩⟩
    exact ⟨_, results_tmp rfl _ _ _, by rw [← HF.out]; rfl, hI2.trans (belowK_b (w := w) (Nat.le_refl _) Wd D _ _ (by omega) hK rfl rfl)⟩
  case stop =>
    rintro D cc Wd hD ⟨hI2, HF, rfl⟩ hK
    clear hit
    refine wpIn_wide.2 ?_
    go_step3
    simp +zetaDelta only [Exit.inBlock, Exit.then, fwd_goto]
    refine ⟨trivial, ?_⟩
    go_wp2_with fail
    rw [Exit.noGoto_ret]
    refine ⟨by simp, .inl ⟨_, _, rfl, run_takeDeferred hK, ?_⟩⟩
    exact ⟨_, results_tmp rfl _ _ _, by rw [← HF.out]; rfl, hI2.trans (belowK_b (w := w) (Nat.le_refl _) Wd D _ _ (by omega) hK rfl rfl)⟩
end Go.Proofs.YtlfpkileblmhoaaGreatDoor
