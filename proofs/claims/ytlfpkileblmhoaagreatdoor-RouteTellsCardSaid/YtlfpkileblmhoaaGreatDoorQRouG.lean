/- The document's own layer 11: Goes, simple. -/
import Derived.Test.YtlfpkileblmhoaaGreatDoorQRouT
import Derived.Test.YtlfpkileblmhoaaGreatDoorQJoinA
import Derived.Test.YtlfpkileblmhoaaGreatDoorQC
namespace Go.Proofs.YtlfpkileblmhoaaGreatDoor
open Go.RowKit Go.Shelf
set_option linter.unusedVariables false
set_option linter.unusedSimpArgs false

theorem goesS_next {l : Lay} {ss : List (Int × Int × Int)} {j : Nat} {x : Int × Int × Int} (hx : ss[j]? = some x) (h : goesS l (ss.take j) = true) : goesS l (ss.take (j + 1)) = (stepV l x.1 x.2.1 x.2.2 && (decide (j = 0) || (match ss[j - 1]? with | none => true | some z => hangS l (z, x)))) := by
  rw [List.take_add_one, hx, Option.toList_some, goesS_snoc, h, Bool.true_and]
  congr 1
  by_cases h0 : j = 0
  · subst h0
    simp
  · have hlt := (List.getElem?_eq_some_iff.1 hx).1
    obtain ⟨z, hz⟩ : ∃ z, ss[j - 1]? = some z := ⟨_, List.getElem?_eq_getElem (by omega)⟩
    have hl : (ss.take j).getLast? = some z := by
      rw [List.getLast?_eq_getElem?, List.length_take, Nat.min_eq_left (by omega), List.getElem?_take, if_pos (by omega)]
      exact hz
    have hst : stepV l z.1 z.2.1 z.2.2 = true := by
      rw [goesS_parts, Bool.and_eq_true, List.all_eq_true] at h
      exact h.1 z (List.mem_of_getElem? (i := j - 1) (by rw [List.getElem?_take, if_pos (by omega)]; exact hz))
    rw [hl, hz, decide_eq_false h0, Bool.false_or]
    show decide (nextV l z.1 z.2.1 z.2.2 = (x.1, x.2.1)) = decide (beyondV l z.1 z.2.2 = (x.1, x.2.1))
    unfold nextV
    rw [hst]
    rfl
theorem goesS_bad {l : Lay} {ss : List (Int × Int × Int)} {n : Nat} (h : goesS l (ss.take n) = false) : goesS l ss = false := by
  cases e : goesS l ss with
  | false => rfl
  | true => rw [goesS_take e n] at h; cases h

set_option maxRecDepth 100000 in
set_option maxHeartbeats 16000000 in
theorem goesR11_any {l : Lay} {w : World} (hL : Lies l w) {ss : List (Int × Int × Int)} {A : Option Addr} (c : Nat) (hR : Row w w.heap.size A (ss.flatMap stpCells)) (hn : (ss.length : Int) ≤ 9223372036854775807) {r : Bool} (hr : goesS l ss = r) :
    Calls Tryz.prog 15 #[l.val, .slice A ss.length c] w fun e w' => e = .returned (.bool r) ∧ Below w.heap.size w w' := by
  obtain ⟨Q, HQ, HQb, HQl, hq⟩ := keep_box (Closed.below w) (Below.refl _ w) 29 l.cells
  have HTW : Hid (∀ W, Q W → Lies l W) := Lib.hid fun W hW => Lies.closed l _ _ hL (HQb.out W hW)
  have HRW : Hid (∀ W, Q W → Row W W.heap.size A (ss.flatMap stpCells)) := Lib.hid fun W hW => hR.on (HQb.out W hW)
  have HR := Lib.hid hr
  clear hL hR hr
  go_enter Tryz.func15, Tryz.ntmps15
  go_wp2_with fail
  go_loopw [5] (fun i wr => ∃ j : Nat, j ≤ ss.length ∧ i = .int .i64 j ∧ Q wr ∧ Hid (goesS l (ss.take j) = true)) (fun i _ => ss.length - (intOf i).toNat)
  case atStart => exact ⟨0, by omega, rfl, hq, Lib.hid (by rw [List.take_zero]; rfl)⟩
  case round =>
    clear hq
    obtain ⟨j, hj, rfl, hq, HG⟩ := hrel
    obtain ⟨wa, rfl⟩ : ∃ W, W = wr := ⟨wr, rfl⟩
    by_cases hlt : j < ss.length
    · have hlt' : (j : Int) < ss.length := by omega
      obtain ⟨⟨x1, x2, x3⟩, hx⟩ : ∃ x, ss[j]? = some x := ⟨_, List.getElem?_eq_getElem hlt⟩
      obtain ⟨b, off, HA, HC, HC'⟩ := row_at (f := stpCells) (n := 3) (fun _ => rfl) (by omega) HRW.out hq hx
      obtain rfl := HA.out
      have HXC : Hid (∀ W, Q W → W.cell? ⟨b, off + j * 3, none⟩ = some (.int .i64 x1) ∧ W.cell? ⟨b, off + j * 3 + 1, none⟩ = some (.int .i64 x2) ∧ W.cell? ⟨b, off + j * 3 + 2, none⟩ = some (.int .i64 x3)) := Lib.hid fun W hW => ⟨HC.out W hW j _ _ hx rfl, HC'.out W hW j _ 1 _ hx rfl, HC'.out W hW j _ 2 _ hx rfl⟩
      obtain ⟨st, hst⟩ : ∃ st, stepV l x1 x2 x3 = st := ⟨_, rfl⟩
      have HNX := Lib.hid (goesS_next hx HG.out)
      simp only at HNX
      rw [hst] at HNX
      obtain ⟨wy, hwy⟩ : ∃ v, wayK (kindV l x1) x2 x3 = v := ⟨_, rfl⟩
      have KS : Hid (∀ W, Q W → Calls Tryz.prog 26 #[l.val, stpV x1 x2 x3] W fun e w' => e = .returned (.tuple #[.int .i64 wy, .bool st]) ∧ Below W.heap.size W w') := Lib.hid fun W hW => stepR_B (HTW.out W hW) x1 x2 x3 hwy hst
      clear hst hwy
      go_wp2_with fail
      have HBS : Hid (∀ W, Below wa.heap.size wa W → Q W) := Lib.hid (fun W hB => HQ.out _ _ hq hB)
      clear hq
      refine region_mix (Below wa.heap.size wa) [(0, false), (1, false), (2, false), (3, false), (4, false), (5, false), (6, false), (7, false), (8, false), (9, false), (10, false)] (by kernel_rfl) (by kernel_rfl) (Below wa.heap.size wa) ⟨Closed.below wa, fun _ h => h⟩ (Below.refl _ _).drew ?_
      simp only [pickOps, List.getElem?_cons_zero, List.getElem?_cons_succ]
      repeat (first | (refine mix_skip (by rfl) ?_; simp only [Act.put, List.setIfInBounds_toArray, List.set_cons_zero, List.set_cons_succ]) | (refine mix_read _ (by rfl) (fun W hW => by (have hW := HBS.out W hW; have m0 := HQl.out W hW; have x0 := m0.cell_at 0 rfl; have x1 := m0.cell_at 1 rfl; have x2 := m0.cell_at 2 rfl; have x3 := m0.cell_at 3 rfl; have x4 := m0.cell_at 4 rfl; have x5 := m0.cell_at 5 rfl; have x6 := m0.cell_at 6 rfl; have x7 := m0.cell_at 7 rfl; have x8 := m0.cell_at 8 rfl; have x9 := m0.cell_at 9 rfl; have x10 := m0.cell_at 10 rfl; clear m0; obtain ⟨c0, c1, c2⟩ := HXC.out W hW; go_simp; first | done | with_reducible rfl)) ?_; simp only [Act.put, List.setIfInBounds_toArray, List.set_cons_zero, List.set_cons_succ]) | (refine mix_call _ _ _ (by rfl) (fun W hW => by (have hW := HBS.out W hW; have m0 := HQl.out W hW; have x0 := m0.cell_at 0 rfl; have x1 := m0.cell_at 1 rfl; have x2 := m0.cell_at 2 rfl; have x3 := m0.cell_at 3 rfl; have x4 := m0.cell_at 4 rfl; have x5 := m0.cell_at 5 rfl; have x6 := m0.cell_at 6 rfl; have x7 := m0.cell_at 7 rfl; have x8 := m0.cell_at 8 rfl; have x9 := m0.cell_at 9 rfl; have x10 := m0.cell_at 10 rfl; clear m0; obtain ⟨c0, c1, c2⟩ := HXC.out W hW; go_simp; first | done | rfl)) (fun W hW => KS.out W (HBS.out W hW)) ?_; simp only [Act.put, List.setIfInBounds_toArray, List.set_cons_zero, List.set_cons_succ]))
      refine mix_nil (fun W hW => ?_)
      have hq := HBS.out W hW
      clear hW HBS
      obtain ⟨wb, rfl⟩ : ∃ X, X = W := ⟨W, rfl⟩
      cases st
      · have HF : Hid (false = r) := Lib.hid (by rw [← HR.out]; exact (goesS_bad HNX.out).symm)
        go_wp2_with fail
        have HBS : Hid (∀ W, Below wb.heap.size wb W → Q W) := Lib.hid (fun W hB => HQ.out _ _ hq hB)
        clear hq
        refine region_mix (Below wb.heap.size wb) [(0, false), (1, false), (2, false), (3, false), (4, false), (5, false), (6, false), (7, false), (8, false), (9, false), (10, false), (11, false), (12, false), (13, false), (14, false), (15, false), (16, false), (17, false), (18, false), (19, false), (20, false), (21, false), (22, false), (23, false), (24, false), (25, false), (26, false), (27, false), (28, false), (29, false), (30, false), (31, false), (32, false), (33, false), (34, false)] (by kernel_rfl) (by kernel_rfl) (Below wb.heap.size wb) ⟨Closed.below wb, fun _ h => h⟩ (Below.refl _ _).drew ?_
        simp only [pickOps, List.getElem?_cons_zero, List.getElem?_cons_succ]
        repeat (first | (refine mix_skip (by rfl) ?_; simp only [Act.put, List.setIfInBounds_toArray, List.set_cons_zero, List.set_cons_succ]) | (refine mix_read _ (by rfl) (fun W hW => by (have hW := HBS.out W hW; have m0 := HQl.out W hW; have x0 := m0.cell_at 0 rfl; have x1 := m0.cell_at 1 rfl; have x2 := m0.cell_at 2 rfl; have x3 := m0.cell_at 3 rfl; have x4 := m0.cell_at 4 rfl; have x5 := m0.cell_at 5 rfl; have x6 := m0.cell_at 6 rfl; have x7 := m0.cell_at 7 rfl; have x8 := m0.cell_at 8 rfl; have x9 := m0.cell_at 9 rfl; have x10 := m0.cell_at 10 rfl; clear m0; obtain ⟨c0, c1, c2⟩ := HXC.out W hW; go_simp; first | done | with_reducible rfl)) ?_; simp only [Act.put, List.setIfInBounds_toArray, List.set_cons_zero, List.set_cons_succ]))
        refine mix_nil (fun W hW => ?_)
        have hq := HBS.out W hW
        clear hW HBS
        go_wp2_with fail
        go_ret
        exact ⟨ret_bool HF.out, HQb.out _ hq⟩
      by_cases hj0 : j = 0
      · have HN : Hid (goesS l (ss.take (j + 1)) = true) := Lib.hid (by rw [HNX.out, decide_eq_true hj0]; rfl)
        have hz1 : ¬ (0 < j) := by omega
        have hz2 : decide ((0 : Int) < (j : Int)) = false := decide_eq_false (by omega)
        have hz3 : decide (0 < j) = false := decide_eq_false (by omega)
        clear hx hj0
        go_wp2_with fail
        have HBS : Hid (∀ W, Below wb.heap.size wb W → Q W) := Lib.hid (fun W hB => HQ.out _ _ hq hB)
        clear hq
        refine region_mix (Below wb.heap.size wb) [(0, false), (1, false), (2, false), (3, false), (4, false), (5, false), (6, false), (7, false), (8, false), (9, false), (10, false), (11, false), (12, false), (13, false), (14, false), (15, false), (16, false), (17, false), (18, false), (19, false), (20, false), (21, false), (22, false), (23, false), (24, false), (25, false), (26, false), (27, false), (28, false), (29, false), (30, false), (31, false), (32, false), (33, false), (34, false)] (by kernel_rfl) (by kernel_rfl) (Below wb.heap.size wb) ⟨Closed.below wb, fun _ h => h⟩ (Below.refl _ _).drew ?_
        simp only [pickOps, List.getElem?_cons_zero, List.getElem?_cons_succ]
        repeat (first | (refine mix_skip (by rfl) ?_; simp only [Act.put, List.setIfInBounds_toArray, List.set_cons_zero, List.set_cons_succ]) | (refine mix_read _ (by rfl) (fun W hW => by (have hW := HBS.out W hW; have m0 := HQl.out W hW; have x0 := m0.cell_at 0 rfl; have x1 := m0.cell_at 1 rfl; have x2 := m0.cell_at 2 rfl; have x3 := m0.cell_at 3 rfl; have x4 := m0.cell_at 4 rfl; have x5 := m0.cell_at 5 rfl; have x6 := m0.cell_at 6 rfl; have x7 := m0.cell_at 7 rfl; have x8 := m0.cell_at 8 rfl; have x9 := m0.cell_at 9 rfl; have x10 := m0.cell_at 10 rfl; clear m0; obtain ⟨c0, c1, c2⟩ := HXC.out W hW; go_simp; first | done | with_reducible rfl)) ?_; simp only [Act.put, List.setIfInBounds_toArray, List.set_cons_zero, List.set_cons_succ]))
        refine mix_nil (fun W hW => ?_)
        have hq := HBS.out W hW
        clear hW HBS
        go_wp2_with fail
        go_roundw
        case rel => exact ⟨j + 1, hlt, by go_num, hq, HN⟩
        case measure => simp [intOf]; omega
      obtain ⟨m, hm⟩ : ∃ m, j - 1 = m := ⟨_, rfl⟩
      obtain ⟨⟨z1, z2, z3⟩, hz⟩ : ∃ x, ss[m]? = some x := ⟨_, List.getElem?_eq_getElem (by omega)⟩
      have HZC : Hid (∀ W, Q W → W.cell? ⟨b, off + m * 3, none⟩ = some (.int .i64 z1) ∧ W.cell? ⟨b, off + m * 3 + 1, none⟩ = some (.int .i64 z2) ∧ W.cell? ⟨b, off + m * 3 + 2, none⟩ = some (.int .i64 z3)) := Lib.hid fun W hW => ⟨HC.out W hW m _ _ hz rfl, HC'.out W hW m _ 1 _ hz rfl, HC'.out W hW m _ 2 _ hz rfl⟩
      obtain ⟨⟨q1, q2⟩, hbv⟩ : ∃ q, beyondV l z1 z3 = q := ⟨_, rfl⟩
      obtain ⟨d, hd⟩ : ∃ d, decide ((q1, q2) = (x1, x2)) = d := ⟨_, rfl⟩
      have HN : Hid (goesS l (ss.take (j + 1)) = d) := Lib.hid (by
        rw [HNX.out, decide_eq_false hj0, hm, hz, ← hd, ← hbv]
        rfl)
      have HNQ : Hid (∀ W, (binOp .neq 46 (prtV q1 q2) (prtV x1 x2)).run Tryz.prog W = .ok (.bool (!d)) W) := Lib.hid fun W => by rw [neq_prtD, hd]
      have KB : Hid (∀ W, Q W → Calls Tryz.prog 24 #[l.val, prtV z1 z3] W fun e w' => e = .returned (prtV q1 q2) ∧ Below W.heap.size W w') := Lib.hid fun W hW => beyondJ_B (HTW.out W hW) z1 z3 hbv
      have hz1 : 0 < j := by omega
      have hz2 : (0 : Int) < (j : Int) := by omega
      have hwj : IntKind.i64.wrap ((j : Int) - 1) = (m : Int) := by rw [IntWalk.i64_in _ (by omega)]; omega
      have hml : (m : Int) < ss.length := by omega
      have hd1 : decide ((0 : Int) < (j : Int)) = true := decide_eq_true hz2
      clear hx hj0 hm hz hbv hd
      go_wp2_with fail
      have HBS : Hid (∀ W, Below wb.heap.size wb W → Q W) := Lib.hid (fun W hB => HQ.out _ _ hq hB)
      clear hq
      refine region_mix (Below wb.heap.size wb) [(0, false), (1, false), (2, false), (3, false), (4, false), (5, false), (6, false), (7, false), (8, false), (9, false), (10, false), (11, false), (12, false), (13, false), (14, false), (15, false), (16, false), (17, false), (18, false), (19, false), (20, false), (21, false), (22, false), (23, false), (24, false), (25, false), (26, false), (27, false), (28, false), (29, false), (30, false), (31, false), (32, false), (33, false), (34, false)] (by kernel_rfl) (by kernel_rfl) (Below wb.heap.size wb) ⟨Closed.below wb, fun _ h => h⟩ (Below.refl _ _).drew ?_
      simp only [pickOps, List.getElem?_cons_zero, List.getElem?_cons_succ]
      repeat (first | (refine mix_skip (by rfl) ?_; simp only [Act.put, List.setIfInBounds_toArray, List.set_cons_zero, List.set_cons_succ]) | (refine mix_read _ (by rfl) (fun W hW => by (have hW := HBS.out W hW; have m0 := HQl.out W hW; have x0 := m0.cell_at 0 rfl; have x1 := m0.cell_at 1 rfl; have x2 := m0.cell_at 2 rfl; have x3 := m0.cell_at 3 rfl; have x4 := m0.cell_at 4 rfl; have x5 := m0.cell_at 5 rfl; have x6 := m0.cell_at 6 rfl; have x7 := m0.cell_at 7 rfl; have x8 := m0.cell_at 8 rfl; have x9 := m0.cell_at 9 rfl; have x10 := m0.cell_at 10 rfl; clear m0; obtain ⟨c0, c1, c2⟩ := HXC.out W hW; obtain ⟨e0, e1, e2⟩ := HZC.out W hW; have hnq := HNQ.out; go_simp; first | done | with_reducible rfl)) ?_; simp only [Act.put, List.setIfInBounds_toArray, List.set_cons_zero, List.set_cons_succ]) | (refine mix_call _ _ _ (by rfl) (fun W hW => by (have hW := HBS.out W hW; have m0 := HQl.out W hW; have x0 := m0.cell_at 0 rfl; have x1 := m0.cell_at 1 rfl; have x2 := m0.cell_at 2 rfl; have x3 := m0.cell_at 3 rfl; have x4 := m0.cell_at 4 rfl; have x5 := m0.cell_at 5 rfl; have x6 := m0.cell_at 6 rfl; have x7 := m0.cell_at 7 rfl; have x8 := m0.cell_at 8 rfl; have x9 := m0.cell_at 9 rfl; have x10 := m0.cell_at 10 rfl; clear m0; obtain ⟨c0, c1, c2⟩ := HXC.out W hW; obtain ⟨e0, e1, e2⟩ := HZC.out W hW; have hnq := HNQ.out; go_simp; first | done | rfl)) (fun W hW => KB.out W (HBS.out W hW)) ?_; simp only [Act.put, List.setIfInBounds_toArray, List.set_cons_zero, List.set_cons_succ]))
      refine mix_nil (fun W hW => ?_)
      have hq := HBS.out W hW
      clear hW HBS
      cases d
      · have HF : Hid (false = r) := Lib.hid (by rw [← HR.out]; exact (goesS_bad HN.out).symm)
        go_wp2_with fail
        go_ret
        exact ⟨ret_bool HF.out, HQb.out _ hq⟩
      · go_wp2_with fail
        go_roundw
        case rel => exact ⟨j + 1, hlt, by go_num, hq, HN⟩
        case measure => simp [intOf]; omega
    · obtain rfl : j = ss.length := by omega
      have HF : Hid (true = r) := Lib.hid (by rw [← HR.out, ← HG.out, List.take_length])
      go_wp2_with fail
      go_ret
      exact ⟨ret_bool HF.out, HQb.out _ hq⟩

set_option maxRecDepth 100000 in
set_option maxHeartbeats 16000000 in
theorem simpleR_any {ss os : List (Int × Int × Int)} {A Bv : Option Addr} (c cb : Nat) {w : World} (hA : Row w w.heap.size A (ss.flatMap stpCells)) (hB : Row w w.heap.size Bv (os.flatMap stpCells)) (hn : (ss.length : Int) ≤ 9223372036854775807) (hm : (os.length : Int) ≤ 9223372036854775807) {r : Bool} (hr : simpleB ss os = r) :
    Calls Tryz.prog 33 #[.slice A ss.length c, .slice Bv os.length cb] w fun e w' => e = .returned (.bool r) ∧ Below w.heap.size w w' := by
  obtain ⟨Q, HQ, HQb, hq⟩ : ∃ Q : World → Prop, Hid (Closed Q) ∧ Hid (∀ W, Q W → Below w.heap.size w W) ∧ Q w := ⟨fun W => Below w.heap.size w W, Lib.hid (Closed.below w), Lib.hid fun _ h => h, Below.refl _ _⟩
  have HAW : Hid (∀ W, Q W → Row W W.heap.size A (ss.flatMap stpCells)) := Lib.hid fun W hW => hA.on (HQb.out W hW)
  have HBW : Hid (∀ W, Q W → Row W W.heap.size Bv (os.flatMap stpCells)) := Lib.hid fun W hW => hB.on (HQb.out W hW)
  have HR : Hid ((!((List.range ss.length).any fun k => dupAt ss k || inOver ss os k)) = r) := Lib.hid hr
  clear hA hB hr
  go_enter Tryz.func33, Tryz.ntmps33
  go_wp2_with fail
  go_loopw [5] (fun i wr => ∃ j : Nat, j ≤ ss.length ∧ i = .int .i64 j ∧ Q wr ∧ Hid (NoneUp (fun k => dupAt ss k || inOver ss os k) (List.range ss.length) j)) (fun i _ => ss.length - (intOf i).toNat)
  case atStart => exact ⟨0, by omega, rfl, hq, Lib.hid (NoneUp.zero _ _)⟩
  case round =>
    clear hq
    obtain ⟨j, hj, rfl, hq, HNo⟩ := hrel
    obtain ⟨wo, rfl⟩ : ∃ W, W = wr := ⟨wr, rfl⟩
    by_cases hlt : j < ss.length
    · have hlt' : (j : Int) < ss.length := by omega
      obtain ⟨⟨x1, x2, x3⟩, hx⟩ : ∃ x, ss[j]? = some x := ⟨_, List.getElem?_eq_getElem hlt⟩
      obtain ⟨b, off, HA, HC, HC'⟩ := row_at (f := stpCells) (n := 3) (fun _ => rfl) (by omega) HAW.out hq hx
      have HXC : Hid (∀ W, Q W → W.cell? ⟨b, off + j * 3, none⟩ = some (.int .i64 x1) ∧ W.cell? ⟨b, off + j * 3 + 1, none⟩ = some (.int .i64 x2) ∧ W.cell? ⟨b, off + j * 3 + 2, none⟩ = some (.int .i64 x3)) := Lib.hid fun W hW => ⟨HC.out W hW j _ _ hx rfl, HC'.out W hW j _ 1 _ hx rfl, HC'.out W hW j _ 2 _ hx rfl⟩
      have HX := Lib.hid hx
      have HQ0 := Lib.hid hq
      clear hx hq
      go_wp2_with fail
      go_loopw [6] (fun i wr => ∃ a : Nat, a ≤ j ∧ i = .int .i64 a ∧ Q wr ∧ Hid (NoneUp (fun y => y.1 == x1) ss a)) (fun i _ => j - (intOf i).toNat)
      case atStart => exact ⟨0, by omega, rfl, HQ0.out, Lib.hid (NoneUp.zero _ _)⟩
      case round =>
        clear HQ0
        obtain ⟨a, ha, rfl, hq, HNi⟩ := hrel
        obtain ⟨wi, rfl⟩ : ∃ W, W = wr := ⟨wr, rfl⟩
        by_cases hk : a < j
        · have hk' : (a : Int) < (j : Int) := by omega
          have hk2 : (a : Int) < ss.length := by omega
          obtain ⟨⟨y1, y2, y3⟩, hy⟩ : ∃ x, ss[a]? = some x := ⟨_, List.getElem?_eq_getElem (by omega)⟩
          have HYC : Hid (∀ W, Q W → W.cell? ⟨b, off + a * 3, none⟩ = some (.int .i64 y1) ∧ W.cell? ⟨b, off + a * 3 + 1, none⟩ = some (.int .i64 y2) ∧ W.cell? ⟨b, off + a * 3 + 2, none⟩ = some (.int .i64 y3)) := Lib.hid fun W hW => ⟨HC.out W hW a _ _ hy rfl, HC'.out W hW a _ 1 _ hy rfl, HC'.out W hW a _ 2 _ hy rfl⟩
          obtain ⟨d, hd⟩ : ∃ d, (y1 == x1) = d := ⟨_, rfl⟩
          have HD : Hid (d = false → NoneUp (fun y => y.1 == x1) ss (a + 1)) := Lib.hid fun e => HNi.out.succ hy (by rw [← e, ← hd])
          have HF : Hid (d = true → false = r) := Lib.hid fun e => by
            rw [← HR.out, any_hit (List.getElem?_range hlt) (by rw [dup_iff.2 ⟨a, _, _, hk, hy, HX.out, beq_iff_eq.1 (hd.trans e)⟩, Bool.true_or])]
            rfl
          clear hy
          cases d
          · have HN := Lib.hid (HD.out rfl)
            clear HD HF
            go_wp2_with fail
            have HBS : Hid (∀ W, Below wi.heap.size wi W → Q W) := Lib.hid (fun W hB => HQ.out _ _ hq hB)
            clear hq
            refine region_mix (Below wi.heap.size wi) [(0, false), (1, false), (2, false), (3, false), (4, false), (5, false), (6, false), (7, false), (8, false), (9, false), (10, false)] (by kernel_rfl) (by kernel_rfl) (Below wi.heap.size wi) ⟨Closed.below wi, fun _ h => h⟩ (Below.refl _ _).drew ?_
            simp only [pickOps, List.getElem?_cons_zero, List.getElem?_cons_succ]
            repeat (first | (refine mix_skip (by rfl) ?_; simp only [Act.put, List.setIfInBounds_toArray, List.set_cons_zero, List.set_cons_succ]) | (refine mix_read _ (by rfl) (fun W hW => by (have hW := HBS.out W hW; obtain ⟨c0, c1, c2⟩ := HXC.out W hW; obtain ⟨d0, d1, d2⟩ := HYC.out W hW; go_simp; first | done | with_reducible rfl)) ?_; simp only [Act.put, List.setIfInBounds_toArray, List.set_cons_zero, List.set_cons_succ]) | (refine mix_read _ (by rfl) (fun W hW => by (have hW := HBS.out W hW; obtain ⟨c0, c1, c2⟩ := HXC.out W hW; obtain ⟨d0, d1, d2⟩ := HYC.out W hW; rw [HA.out]; go_simp; first | done | with_reducible rfl)) ?_; simp only [Act.put, List.setIfInBounds_toArray, List.set_cons_zero, List.set_cons_succ]))
            refine mix_nil (fun W hW => ?_)
            have hq := HBS.out W hW
            clear hW HBS
            go_wp2_with fail
            go_roundw
            case rel => exact ⟨a + 1, hk, by go_num, hq, HN⟩
            case measure => simp [intOf]; omega
          · have HF' := Lib.hid (HF.out rfl)
            clear HD HF
            go_wp2_with fail
            have HBS : Hid (∀ W, Below wi.heap.size wi W → Q W) := Lib.hid (fun W hB => HQ.out _ _ hq hB)
            clear hq
            refine region_mix (Below wi.heap.size wi) [(0, false), (1, false), (2, false), (3, false), (4, false), (5, false), (6, false), (7, false), (8, false), (9, false), (10, false)] (by kernel_rfl) (by kernel_rfl) (Below wi.heap.size wi) ⟨Closed.below wi, fun _ h => h⟩ (Below.refl _ _).drew ?_
            simp only [pickOps, List.getElem?_cons_zero, List.getElem?_cons_succ]
            repeat (first | (refine mix_skip (by rfl) ?_; simp only [Act.put, List.setIfInBounds_toArray, List.set_cons_zero, List.set_cons_succ]) | (refine mix_read _ (by rfl) (fun W hW => by (have hW := HBS.out W hW; obtain ⟨c0, c1, c2⟩ := HXC.out W hW; obtain ⟨d0, d1, d2⟩ := HYC.out W hW; go_simp; first | done | with_reducible rfl)) ?_; simp only [Act.put, List.setIfInBounds_toArray, List.set_cons_zero, List.set_cons_succ]) | (refine mix_read _ (by rfl) (fun W hW => by (have hW := HBS.out W hW; obtain ⟨c0, c1, c2⟩ := HXC.out W hW; obtain ⟨d0, d1, d2⟩ := HYC.out W hW; rw [HA.out]; go_simp; first | done | with_reducible rfl)) ?_; simp only [Act.put, List.setIfInBounds_toArray, List.set_cons_zero, List.set_cons_succ]))
            refine mix_nil (fun W hW => ?_)
            have hq := HBS.out W hW
            clear hW HBS
            go_wp2_with fail
            go_ret
            exact ⟨ret_bool HF'.out, HQb.out _ hq⟩
        · obtain rfl : a = j := by omega
          have HDU : Hid (dupAt ss a = false) := Lib.hid (by
            rw [dupAt_at HX.out, List.any_eq_false]
            intro y hy
            obtain ⟨i, hi⟩ := List.getElem?_of_mem hy
            rw [List.getElem?_take] at hi
            split at hi
            · rename_i hia
              simp [HNi.out i y hia hi]
            · cases hi)
          have HQ1 := Lib.hid hq
          clear hq HNi
          go_wp2_with fail
          go_loopw [7] (fun i wr => ∃ t : Nat, t ≤ os.length ∧ i = .int .i64 t ∧ Q wr ∧ Hid (NoneUp (fun y => y.1 == x1) os t)) (fun i _ => os.length - (intOf i).toNat)
          case atStart => exact ⟨0, by omega, rfl, HQ1.out, Lib.hid (NoneUp.zero _ _)⟩
          case round =>
            clear HQ1
            obtain ⟨t, ht, rfl, hq, HNi⟩ := hrel
            obtain ⟨wt, rfl⟩ : ∃ W, W = wr := ⟨wr, rfl⟩
            by_cases htl : t < os.length
            · have htl' : (t : Int) < os.length := by omega
              obtain ⟨⟨y1, y2, y3⟩, hy⟩ : ∃ x, os[t]? = some x := ⟨_, List.getElem?_eq_getElem htl⟩
              obtain ⟨b2, o2, HB2, HE, HE'⟩ := row_at (f := stpCells) (n := 3) (fun _ => rfl) (by omega) HBW.out hq hy
              have HYC : Hid (∀ W, Q W → W.cell? ⟨b2, o2 + t * 3, none⟩ = some (.int .i64 y1) ∧ W.cell? ⟨b2, o2 + t * 3 + 1, none⟩ = some (.int .i64 y2) ∧ W.cell? ⟨b2, o2 + t * 3 + 2, none⟩ = some (.int .i64 y3)) := Lib.hid fun W hW => ⟨HE.out W hW t _ _ hy rfl, HE'.out W hW t _ 1 _ hy rfl, HE'.out W hW t _ 2 _ hy rfl⟩
              obtain ⟨d, hd⟩ : ∃ d, (y1 == x1) = d := ⟨_, rfl⟩
              have HD : Hid (d = false → NoneUp (fun y => y.1 == x1) os (t + 1)) := Lib.hid fun e => HNi.out.succ hy (by rw [← e, ← hd])
              have HF : Hid (d = true → false = r) := Lib.hid fun e => by
                rw [← HR.out, any_hit (List.getElem?_range hlt) (by rw [in_iff.2 ⟨_, _, HX.out, List.mem_of_getElem? hy, beq_iff_eq.1 (hd.trans e)⟩, Bool.or_true])]
                rfl
              clear hy
              cases d
              · have HN := Lib.hid (HD.out rfl)
                clear HD HF
                go_wp2_with fail
                have HBS : Hid (∀ W, Below wt.heap.size wt W → Q W) := Lib.hid (fun W hB => HQ.out _ _ hq hB)
                clear hq
                refine region_mix (Below wt.heap.size wt) [(0, false), (1, false), (2, false), (3, false), (4, false), (5, false), (6, false), (7, false), (8, false), (9, false), (10, false)] (by kernel_rfl) (by kernel_rfl) (Below wt.heap.size wt) ⟨Closed.below wt, fun _ h => h⟩ (Below.refl _ _).drew ?_
                simp only [pickOps, List.getElem?_cons_zero, List.getElem?_cons_succ]
                repeat (first | (refine mix_skip (by rfl) ?_; simp only [Act.put, List.setIfInBounds_toArray, List.set_cons_zero, List.set_cons_succ]) | (refine mix_read _ (by rfl) (fun W hW => by (have hW := HBS.out W hW; obtain ⟨c0, c1, c2⟩ := HXC.out W hW; obtain ⟨d0, d1, d2⟩ := HYC.out W hW; go_simp; first | done | with_reducible rfl)) ?_; simp only [Act.put, List.setIfInBounds_toArray, List.set_cons_zero, List.set_cons_succ]) | (refine mix_read _ (by rfl) (fun W hW => by (have hW := HBS.out W hW; obtain ⟨c0, c1, c2⟩ := HXC.out W hW; obtain ⟨d0, d1, d2⟩ := HYC.out W hW; rw [HA.out]; go_simp; first | done | with_reducible rfl)) ?_; simp only [Act.put, List.setIfInBounds_toArray, List.set_cons_zero, List.set_cons_succ]) | (refine mix_read _ (by rfl) (fun W hW => by (have hW := HBS.out W hW; obtain ⟨c0, c1, c2⟩ := HXC.out W hW; obtain ⟨d0, d1, d2⟩ := HYC.out W hW; rw [HB2.out]; go_simp; first | done | with_reducible rfl)) ?_; simp only [Act.put, List.setIfInBounds_toArray, List.set_cons_zero, List.set_cons_succ]))
                refine mix_nil (fun W hW => ?_)
                have hq := HBS.out W hW
                clear hW HBS
                go_wp2_with fail
                go_roundw
                case rel => exact ⟨t + 1, htl, by go_num, hq, HN⟩
                case measure => simp [intOf]; omega
              · have HF' := Lib.hid (HF.out rfl)
                clear HD HF
                go_wp2_with fail
                have HBS : Hid (∀ W, Below wt.heap.size wt W → Q W) := Lib.hid (fun W hB => HQ.out _ _ hq hB)
                clear hq
                refine region_mix (Below wt.heap.size wt) [(0, false), (1, false), (2, false), (3, false), (4, false), (5, false), (6, false), (7, false), (8, false), (9, false), (10, false)] (by kernel_rfl) (by kernel_rfl) (Below wt.heap.size wt) ⟨Closed.below wt, fun _ h => h⟩ (Below.refl _ _).drew ?_
                simp only [pickOps, List.getElem?_cons_zero, List.getElem?_cons_succ]
                repeat (first | (refine mix_skip (by rfl) ?_; simp only [Act.put, List.setIfInBounds_toArray, List.set_cons_zero, List.set_cons_succ]) | (refine mix_read _ (by rfl) (fun W hW => by (have hW := HBS.out W hW; obtain ⟨c0, c1, c2⟩ := HXC.out W hW; obtain ⟨d0, d1, d2⟩ := HYC.out W hW; go_simp; first | done | with_reducible rfl)) ?_; simp only [Act.put, List.setIfInBounds_toArray, List.set_cons_zero, List.set_cons_succ]) | (refine mix_read _ (by rfl) (fun W hW => by (have hW := HBS.out W hW; obtain ⟨c0, c1, c2⟩ := HXC.out W hW; obtain ⟨d0, d1, d2⟩ := HYC.out W hW; rw [HA.out]; go_simp; first | done | with_reducible rfl)) ?_; simp only [Act.put, List.setIfInBounds_toArray, List.set_cons_zero, List.set_cons_succ]) | (refine mix_read _ (by rfl) (fun W hW => by (have hW := HBS.out W hW; obtain ⟨c0, c1, c2⟩ := HXC.out W hW; obtain ⟨d0, d1, d2⟩ := HYC.out W hW; rw [HB2.out]; go_simp; first | done | with_reducible rfl)) ?_; simp only [Act.put, List.setIfInBounds_toArray, List.set_cons_zero, List.set_cons_succ]))
                refine mix_nil (fun W hW => ?_)
                have hq := HBS.out W hW
                clear hW HBS
                go_wp2_with fail
                go_ret
                exact ⟨ret_bool HF'.out, HQb.out _ hq⟩
            · obtain rfl : t = os.length := by omega
              have HN : Hid (NoneUp (fun k => dupAt ss k || inOver ss os k) (List.range ss.length) (a + 1)) := Lib.hid (HNo.out.succ (List.getElem?_range hlt) (by
                rw [HDU.out, Bool.false_or, inOver_at HX.out]
                exact HNi.out.any))
              go_wp2_with fail
              go_roundw
              case rel => exact ⟨a + 1, hlt, by go_num, hq, HN⟩
              case measure => simp [intOf]; omega
    · obtain rfl : j = ss.length := by omega
      have HF : Hid (true = r) := Lib.hid (by
        rw [← HR.out]
        have := HNo.out
        rw [← List.length_range (n := ss.length)] at this
        rw [NoneUp.any (by simpa using this)]
        rfl)
      go_wp2_with fail
      go_ret
      exact ⟨ret_bool HF.out, HQb.out _ hq⟩

end Go.Proofs.YtlfpkileblmhoaaGreatDoor
