/- Through of package route, and of the document's own. -/
import Derived.Test.YtlfpkileblmhoaaGreatDoorQRouC
namespace Go.Proofs.YtlfpkileblmhoaaGreatDoor
open Go.RowKit Go.Shelf
set_option linter.unusedVariables false
set_option linter.unusedSimpArgs false

theorem und_ints : Tryz.prog.underlying 33 = some (.slice (Tryz.prog.elem 33)) := by kernel_rfl
theorem size_ints (W : World) : (sizeOf (Tryz.prog.elem 33)).run Tryz.prog W = .ok 1 W := by kernel_rfl
/-- Where v[1:] lies. -/
def fromI (A : Option Addr) (c : Nat) : Option Addr := if c = 1 then A else A.map (·.add (1 * 1))
theorem slice_fromI (A : Option Addr) (n c : Nat) (ha : 1 ≤ n) (W : World) : (Instr.sliceAt 33 (.slice A n c) (some (.int .i64 1)) none none).run Tryz.prog W = .ok (.slice (fromI A c) (n - 1) (c - 1)) W := by
  have h1 : ((1 : Nat) : Int) ≤ (n : Int) := by omega
  have h2 : (0 : Int) ≤ ((1 : Nat) : Int) := by omega
  have h : (Instr.sliceAt 33 (.slice A n c) (some (.int .i64 ((1 : Nat) : Int))) none none).run Tryz.prog W = .ok (.slice (fromI A c) (n - 1) (c - 1)) W := by
    rw [run_sliceAt_slice (h := und_ints), run_slice_l (ht := und_ints) (h0 := h2) (h1 := h1), size_ints]
    rfl
  exact h
theorem row_fromI {w : World} {Bd : Nat} {A : Option Addr} {v : Int} {vs : List Int} (h : Row w Bd A (nums .i64 (v :: vs))) {c : Nat} (hcap : (v :: vs).length ≤ c) : Row w Bd (fromI A c) (nums .i64 vs) := by
  intro hp
  obtain ⟨b, off, rfl, hb, hc⟩ := h (by simp [nums])
  have hac : ¬ c = 1 := by
    intro e
    rw [nums_length] at hp
    simp at hcap
    omega
  refine ⟨b, off + 1, by unfold fromI; rw [if_neg hac]; simp [Addr.add], hb, fun j u hu => ?_⟩
  have := hc (j + 1) u (by simpa [nums] using hu)
  rwa [show off + 1 + j = off + (j + 1) by omega]
theorem num_head {w : World} {Bd : Nat} {A : Option Addr} {v : Int} {vs : List Int} (h : Row w Bd A (nums .i64 (v :: vs))) : ∃ b off, A = some ⟨b, off, none⟩ ∧ w.cell? ⟨b, off, none⟩ = some (.int .i64 v) := by
  obtain ⟨b, off, e, _, hc⟩ := h (by simp [nums])
  exact ⟨b, off, e, hc 0 _ rfl⟩
theorem secs_at {ss : List (Int × Int × Int)} {j : Nat} {x : Int × Int × Int} (h : ss[j]? = some x) : (secsS ss).drop j = x.1 :: (secsS ss).drop (j + 1) := drop_at (by rw [List.getElem?_map, h]; rfl)

set_option maxRecDepth 100000 in
set_option maxHeartbeats 8000000 in
theorem through11_any {p : Pth} {vs : List Int} {A : Option Addr} {c : Nat} {w : World} (hp : PLies p w) (hR : Row w w.heap.size A (nums .i64 vs)) (hcap : vs.length ≤ c) (hn : (vs.length : Int) ≤ 9223372036854775807) {r : Bool} (hr : throughV (secsS p.ss) vs = r) :
    Calls Tryz.prog 16 #[p.val, .slice A vs.length c] w fun e w' => e = .returned (.bool r) ∧ Below w.heap.size w w' := by
  obtain ⟨Q, HQ, HQb, HQp, hq⟩ := keep_box (Closed.below w) (Below.refl _ w) 32 p.cells
  have HRW : Hid (∀ W, Q W → Row W W.heap.size p.A (p.ss.flatMap stpCells)) := Lib.hid fun W hW => hp.row.on (HQb.out W hW)
  have hlen := hp.len
  have hA := hR.on (HQb.out _ hq)
  have m0 := HQp.out _ hq
  have x0 := m0.cell_at 0 rfl
  have x1 := m0.cell_at 1 rfl
  have x2 := m0.cell_at 2 rfl
  clear m0
  clear hp hR
  go_enter Tryz.func16, Tryz.ntmps16
  go_wp2_with fail
  go_loopw [1, 10] (fun v i wr => ∃ (j : Nat) (vr : List Int) (Av : Option Addr) (cv : Nat), j ≤ p.ss.length ∧ i = .int .i64 j ∧ v = .slice Av vr.length cv ∧ Q wr ∧ Hid (Row wr wr.heap.size Av (nums .i64 vr) ∧ vr.length ≤ cv ∧ (vr.length : Int) ≤ 9223372036854775807 ∧ throughV ((secsS p.ss).drop j) vr = r))
    (fun _ i _ => p.ss.length - (intOf i).toNat)
  case atStart => exact ⟨0, vs, A, c, by omega, rfl, rfl, hq, Lib.hid ⟨hA, hcap, hn, hr⟩⟩
  case round =>
    clear hA hcap hn hr hq x0 x1 x2
    obtain ⟨j, vr, Av, cv, hj, rfl, rfl, hq, HI⟩ := hrel
    obtain ⟨wa, rfl⟩ : ∃ W, W = wr := ⟨wr, rfl⟩
    by_cases hlt : j < p.ss.length
    · have hlt' : (j : Int) < p.ss.length := by omega
      obtain ⟨⟨x1, x2, x3⟩, hx⟩ : ∃ x, p.ss[j]? = some x := ⟨_, List.getElem?_eq_getElem hlt⟩
      have HE := Lib.hid (secs_at hx)
      obtain ⟨b, off, hpA, _, hc0, hc⟩ := (HRW.out _ hq).nth (n := 3) (fun _ => rfl) (by omega) hx
      have c0 := hc0 j _ _ hx rfl
      have c1 := hc j _ 1 _ hx rfl
      have c2 := hc j _ 2 _ hx rfl
      rw [hpA]
      have HPA := Lib.hid hpA
      obtain ⟨gs, hgs⟩ : ∃ gs, wa.heap.size = gs := ⟨_, rfl⟩
      obtain ⟨W1, hW1⟩ : ∃ W1, wa.alloc (.cells #[.int .i64 x1, .int .i64 x2, .int .i64 x3] 50) = W1 := ⟨_, rfl⟩
      obtain ⟨R, HRc, HRq, HRb, hR⟩ : ∃ R : World → Prop, Hid (Closed R) ∧ Hid (∀ W, R W → Q W) ∧ Hid (∀ W, R W → Whole W gs 50 (stpCells (x1, x2, x3)) ∧ Row W W.heap.size Av (nums .i64 vr)) ∧ R W1 :=
        ⟨fun W => Q W ∧ (Whole W gs 50 (stpCells (x1, x2, x3)) ∧ Row W W.heap.size Av (nums .i64 vr)), Lib.hid (HQ.out.and ((Closed.whole _ _ _).and (fun _ _ h hB => h.on hB))), Lib.hid fun _ h => h.1, Lib.hid fun _ h => h.2, by rw [← hW1]; exact ⟨HQ.out _ _ hq (below1 _ _), Whole.new_at _ _ (stpCells (x1, x2, x3)) _ hgs.symm, HI.out.1.on (below1 _ _)⟩⟩
      clear hc0 hc hx hpA hq
      go_upto_region 4 with (fail)
      try rw [hW1]
      try rw [hgs]
      clear hW1 hgs c0 c1 c2
      cases vr with
      | nil =>
        have HT : Hid (throughV ((secsS p.ss).drop (j + 1)) [] = r) := Lib.hid (by have := HI.out.2.2.2; rw [HE.out] at this; rw [← this, through_nil, through_nil])
        have HC := Lib.hid HI.out.2.1
        clear HI
        have HBS : Hid (∀ W, Below W1.heap.size W1 W → R W) := Lib.hid (fun W hB => HRc.out _ _ hR hB)
        clear hR
        refine region_mix (Below W1.heap.size W1) [(0, false), (1, false), (2, false), (3, false), (4, false), (5, false), (6, false), (7, false), (8, false), (9, false), (10, false)] (by kernel_rfl) (by kernel_rfl) (Below W1.heap.size W1) ⟨Closed.below W1, fun _ h => h⟩ (Below.refl _ _).drew ?_
        simp only [pickOps, List.getElem?_cons_zero, List.getElem?_cons_succ]
        repeat (first | (refine mix_skip (by rfl) ?_; simp only [Act.put, List.setIfInBounds_toArray, List.set_cons_zero, List.set_cons_succ]) | (refine mix_read _ (by rfl) (fun W hW => by (have hW := HBS.out W hW; have m1 := (HRb.out W hW).1; have v0 := m1.cell_at 0 rfl; clear m1; go_simp; first | done | with_reducible rfl)) ?_; simp only [Act.put, List.setIfInBounds_toArray, List.set_cons_zero, List.set_cons_succ]))
        refine mix_nil (fun W hW => ?_)
        have hR := HBS.out W hW
        clear hW HBS
        go_wp2_with fail
        go_roundw
        case rel => exact ⟨j + 1, [], Av, cv, hlt, by go_num, rfl, HRq.out _ hR, Lib.hid ⟨(HRb.out _ hR).2, HC.out, by simp, HT.out⟩⟩
        case measure => simp [intOf]; omega
      | cons v vr =>
        have hz : (0 : Int) < ((vr.length : Nat) : Int) + 1 := by omega
        have hz2 : (0 : Int) < (((v :: vr).length : Nat) : Int) := by rw [List.length_cons]; omega
        have HC := Lib.hid HI.out.2.1
        have HN := Lib.hid HI.out.2.2.1
        have HT : Hid (throughV (x1 :: (secsS p.ss).drop (j + 1)) (v :: vr) = r) := Lib.hid (by have := HI.out.2.2.2; rw [HE.out] at this; exact this)
        obtain ⟨b2, o2, hAv, _⟩ := num_head (HRb.out _ hR).2
        have HVC : Hid (∀ W, R W → W.cell? ⟨b2, o2, none⟩ = some (.int .i64 v)) := Lib.hid fun W hW => by
          obtain ⟨b', o', e, h⟩ := num_head (HRb.out _ hW).2
          rw [hAv] at e
          cases e
          exact h
        have HAV := Lib.hid hAv
        clear HI
        by_cases hv : v = x1
        · have HT' : Hid (throughV ((secsS p.ss).drop (j + 1)) vr = r) := Lib.hid (by have := HT.out; rw [through_cons, if_pos hv.symm] at this; exact this)
          have hve : (v == x1) = true := by simp [hv]
          rw [hAv]
          clear hv HT hAv
          have HBS : Hid (∀ W, Below W1.heap.size W1 W → R W) := Lib.hid (fun W hB => HRc.out _ _ hR hB)
          clear hR
          refine region_mix (Below W1.heap.size W1) [(0, false), (1, false), (2, false), (3, false), (4, false), (5, false), (6, false), (7, false), (8, false), (9, false), (10, false)] (by kernel_rfl) (by kernel_rfl) (Below W1.heap.size W1) ⟨Closed.below W1, fun _ h => h⟩ (Below.refl _ _).drew ?_
          simp only [pickOps, List.getElem?_cons_zero, List.getElem?_cons_succ]
          repeat (first | (refine mix_skip (by rfl) ?_; simp only [Act.put, List.setIfInBounds_toArray, List.set_cons_zero, List.set_cons_succ]) | (refine mix_read _ (by rfl) (fun W hW => by (have hW := HBS.out W hW; have m1 := (HRb.out W hW).1; have v0 := m1.cell_at 0 rfl; clear m1; have d0 := HVC.out W hW; go_simp; first | done | with_reducible rfl)) ?_; simp only [Act.put, List.setIfInBounds_toArray, List.set_cons_zero, List.set_cons_succ]))
          refine mix_nil (fun W hW => ?_)
          have hR := HBS.out W hW
          have hrun := slice_fromI (some ⟨b2, o2, none⟩) (vr.length + 1) cv (by omega) W
          clear hW HBS
          go_wp2_with (refine list_slice rfl 33 (.tmp 25) (some (.const (.int .i64 1))) none none rfl hrun ?_)
          go_roundw
          case rel => exact ⟨j + 1, vr, fromI (some ⟨b2, o2, none⟩) cv, cv - 1, hlt, by go_num, by simp, HRq.out _ hR, Lib.hid ⟨by rw [← HAV.out]; exact row_fromI (HRb.out _ hR).2 HC.out, by have := HC.out; simp at this; omega, by have := HN.out; simp at this; omega, HT'.out⟩⟩
          case measure => simp [intOf]; omega
        · have HT' : Hid (throughV ((secsS p.ss).drop (j + 1)) (v :: vr) = r) := Lib.hid (by have := HT.out; rw [through_cons, if_neg (fun e => hv e.symm)] at this; exact this)
          have hve : (v == x1) = false := by simp [hv]
          rw [hAv]
          clear hv HT hAv
          have HBS : Hid (∀ W, Below W1.heap.size W1 W → R W) := Lib.hid (fun W hB => HRc.out _ _ hR hB)
          clear hR
          refine region_mix (Below W1.heap.size W1) [(0, false), (1, false), (2, false), (3, false), (4, false), (5, false), (6, false), (7, false), (8, false), (9, false), (10, false)] (by kernel_rfl) (by kernel_rfl) (Below W1.heap.size W1) ⟨Closed.below W1, fun _ h => h⟩ (Below.refl _ _).drew ?_
          simp only [pickOps, List.getElem?_cons_zero, List.getElem?_cons_succ]
          repeat (first | (refine mix_skip (by rfl) ?_; simp only [Act.put, List.setIfInBounds_toArray, List.set_cons_zero, List.set_cons_succ]) | (refine mix_read _ (by rfl) (fun W hW => by (have hW := HBS.out W hW; have m1 := (HRb.out W hW).1; have v0 := m1.cell_at 0 rfl; clear m1; have d0 := HVC.out W hW; go_simp; first | done | with_reducible rfl)) ?_; simp only [Act.put, List.setIfInBounds_toArray, List.set_cons_zero, List.set_cons_succ]))
          refine mix_nil (fun W hW => ?_)
          have hR := HBS.out W hW
          clear hW HBS
          go_wp2_with fail
          go_roundw
          case rel => exact ⟨j + 1, v :: vr, some ⟨b2, o2, none⟩, cv, hlt, by go_num, rfl, HRq.out _ hR, Lib.hid ⟨by rw [← HAV.out]; exact (HRb.out _ hR).2, HC.out, HN.out, HT'.out⟩⟩
          case measure => simp [intOf]; omega
    · obtain rfl : j = p.ss.length := by omega
      have HB := Lib.hid (HQb.out _ hq)
      cases vr with
      | nil =>
        have HT : Hid (true = r) := Lib.hid (by rw [← HI.out.2.2.2, through_nil])
        clear HI
        go_wp2_with fail
        go_ret
        exact ⟨ret_bool HT.out, HB.out⟩
      | cons v vr =>
        have HT : Hid (false = r) := Lib.hid (by rw [← HI.out.2.2.2, List.drop_eq_nil_of_le (by simp)]; rfl)
        have hz : ((((v :: vr).length : Nat) : Int) == 0) = false := by rw [beq_eq_false_iff_ne]; simp; omega
        have hz2 : ((vr.length : Int) + 1 == 0) = false := by rw [beq_eq_false_iff_ne]; omega
        clear HI
        go_wp2_with fail
        go_ret
        exact ⟨ret_bool HT.out, HB.out⟩

set_option maxRecDepth 100000 in
set_option maxHeartbeats 8000000 in
theorem throughR_any {p : Pth} {vs : List Int} {A : Option Addr} {c : Nat} {w : World} (hp : PLies p w) (hR : Row w w.heap.size A (nums .i64 vs)) (hn : (vs.length : Int) ≤ 9223372036854775807) {r : Bool} (hr : throughV (secsS p.ss) vs = r) :
    Calls Tryz.prog 17 #[p.val, .slice A vs.length c] w fun e w' => e = .returned (.bool r) ∧ Below w.heap.size w w' := by
  obtain ⟨Q, HQ, HQb, HQp, hq⟩ := keep_box (Closed.below w) (Below.refl _ w) 32 p.cells
  have HRW : Hid (∀ W, Q W → Row W W.heap.size p.A (p.ss.flatMap stpCells)) := Lib.hid fun W hW => hp.row.on (HQb.out W hW)
  have HAW : Hid (∀ W, Q W → Row W W.heap.size A (nums .i64 vs)) := Lib.hid fun W hW => hR.on (HQb.out W hW)
  have hlen := hp.len
  have HR := Lib.hid hr
  clear hp hR hr
  go_enter Tryz.func17, Tryz.ntmps17
  go_wp2_with fail
  go_loopw [5, 6] (fun k i wr => ∃ (a j : Nat), a ≤ p.ss.length ∧ j ≤ vs.length ∧ k = .int .i64 a ∧ i = .int .i64 j ∧ Q wr ∧ Hid (throughV ((secsS p.ss).drop a) (vs.drop j) = r))
    (fun _ i _ => vs.length - (intOf i).toNat)
  case atStart => exact ⟨0, 0, by omega, by omega, rfl, rfl, hq, HR⟩
  case round =>
    clear HR hq
    obtain ⟨a0, j, ha0, hj, rfl, rfl, hq, HI⟩ := hrel
    obtain ⟨wo, rfl⟩ : ∃ W, W = wr := ⟨wr, rfl⟩
    by_cases hlt : j < vs.length
    · have hlt' : (j : Int) < vs.length := by omega
      obtain ⟨v, hv⟩ : ∃ v, vs[j]? = some v := ⟨_, List.getElem?_eq_getElem hlt⟩
      obtain ⟨b2, o2, hA, _, _⟩ := (HAW.out _ hq).num hlt
      have HD0 : Hid (∀ W, Q W → W.cell? ⟨b2, o2 + j, none⟩ = some (.int .i64 v)) := Lib.hid fun W hW => by
        obtain ⟨b', o', e, _, h⟩ := (HAW.out _ hW).num hlt
        rw [hA] at e
        cases e
        rw [hv] at h
        exact h
      have HA := Lib.hid hA
      have HI1 : Hid (throughV ((secsS p.ss).drop a0) (v :: vs.drop (j + 1)) = r) := Lib.hid (by rw [← HI.out, drop_at hv])
      have HQ0 := Lib.hid hq
      clear HI hv hA hq
      go_wp2_with fail
      go_loopw [5] (fun k wr => ∃ a : Nat, a ≤ p.ss.length ∧ k = .int .i64 a ∧ Q wr ∧ Hid (throughV ((secsS p.ss).drop a) (v :: vs.drop (j + 1)) = r))
        (fun k _ => p.ss.length - (intOf k).toNat)
      case atStart => exact ⟨a0, ha0, rfl, HQ0.out, HI1⟩
      case round =>
        clear HI1 HQ0
        obtain ⟨a, ha, rfl, hq, HI⟩ := hrel
        obtain ⟨wi, rfl⟩ : ∃ W, W = wr := ⟨wr, rfl⟩
        by_cases hk : a < p.ss.length
        · have hk' : (a : Int) < p.ss.length := by omega
          obtain ⟨⟨x1, x2, x3⟩, hx⟩ : ∃ x, p.ss[a]? = some x := ⟨_, List.getElem?_eq_getElem hk⟩
          have HE : Hid (throughV (x1 :: (secsS p.ss).drop (a + 1)) (v :: vs.drop (j + 1)) = r) := Lib.hid (by rw [← HI.out, secs_at hx])
          obtain ⟨b, off, HPA, HC, _⟩ := row_at (f := stpCells) (n := 3) (fun _ => rfl) (by omega) HRW.out hq hx
          have HC0 : Hid (∀ W, Q W → W.cell? ⟨b, off + a * 3, none⟩ = some (.int .i64 x1)) := Lib.hid fun W hW => HC.out W hW a _ _ hx rfl
          clear HI hx HC
          by_cases hxv : x1 = v
          · have HT : Hid (throughV ((secsS p.ss).drop (a + 1)) (vs.drop (j + 1)) = r) := Lib.hid (by have := HE.out; rw [through_cons, if_pos hxv] at this; exact this)
            have hne : (x1 != v) = false := by simp [hxv]
            have hge : decide ((p.ss.length : Int) ≤ (a : Int)) = false := decide_eq_false (by omega)
            clear hxv HE
            go_wp2_with fail
            have HBS : Hid (∀ W, Below wi.heap.size wi W → Q W) := Lib.hid (fun W hB => HQ.out _ _ hq hB)
            clear hq
            refine region_mix (Below wi.heap.size wi) [(0, false), (1, false), (2, false), (3, false), (4, false), (5, false), (6, false), (7, false), (8, false), (9, false), (10, false), (11, false), (12, false), (13, false), (14, false), (15, false), (16, false), (17, false)] (by kernel_rfl) (by kernel_rfl) (Below wi.heap.size wi) ⟨Closed.below wi, fun _ h => h⟩ (Below.refl _ _).drew ?_
            simp only [pickOps, List.getElem?_cons_zero, List.getElem?_cons_succ]
            repeat (first | (refine mix_skip (by rfl) ?_; simp only [Act.put, List.setIfInBounds_toArray, List.set_cons_zero, List.set_cons_succ]) | (refine mix_read _ (by rfl) (fun W hW => by (have hW := HBS.out W hW; have m1 := HQp.out W hW; have y2 := m1.cell_at 2 rfl; clear m1; have c0 := HC0.out W hW; have d0 := HD0.out W hW; go_simp; first | done | with_reducible rfl)) ?_; simp only [Act.put, List.setIfInBounds_toArray, List.set_cons_zero, List.set_cons_succ]) | (refine mix_read _ (by rfl) (fun W hW => by (have hW := HBS.out W hW; have m1 := HQp.out W hW; have y2 := m1.cell_at 2 rfl; clear m1; have c0 := HC0.out W hW; have d0 := HD0.out W hW; rw [HA.out]; go_simp; first | done | with_reducible rfl)) ?_; simp only [Act.put, List.setIfInBounds_toArray, List.set_cons_zero, List.set_cons_succ]) | (refine mix_read _ (by rfl) (fun W hW => by (have hW := HBS.out W hW; have m1 := HQp.out W hW; have y2 := m1.cell_at 2 rfl; clear m1; have c0 := HC0.out W hW; have d0 := HD0.out W hW; rw [HPA.out]; go_simp; first | done | with_reducible rfl)) ?_; simp only [Act.put, List.setIfInBounds_toArray, List.set_cons_zero, List.set_cons_succ]))
            refine mix_nil (fun W hW => ?_)
            have hq := HBS.out W hW
            have y2 := (HQp.out _ hq).cell_at 2 rfl
            clear hW HBS
            go_wp2_with fail
            go_roundw
            case rel => exact ⟨a + 1, j + 1, by omega, by omega, by go_num, by go_num, hq, HT⟩
            case measure => simp [intOf]; omega
          · have HT : Hid (throughV ((secsS p.ss).drop (a + 1)) (v :: vs.drop (j + 1)) = r) := Lib.hid (by have := HE.out; rw [through_cons, if_neg hxv] at this; exact this)
            have hne : (x1 != v) = true := by simp [hxv]
            clear hxv HE
            go_wp2_with fail
            have HBS : Hid (∀ W, Below wi.heap.size wi W → Q W) := Lib.hid (fun W hB => HQ.out _ _ hq hB)
            clear hq
            refine region_mix (Below wi.heap.size wi) [(0, false), (1, false), (2, false), (3, false), (4, false), (5, false), (6, false), (7, false), (8, false), (9, false), (10, false), (11, false), (12, false), (13, false), (14, false), (15, false), (16, false), (17, false)] (by kernel_rfl) (by kernel_rfl) (Below wi.heap.size wi) ⟨Closed.below wi, fun _ h => h⟩ (Below.refl _ _).drew ?_
            simp only [pickOps, List.getElem?_cons_zero, List.getElem?_cons_succ]
            repeat (first | (refine mix_skip (by rfl) ?_; simp only [Act.put, List.setIfInBounds_toArray, List.set_cons_zero, List.set_cons_succ]) | (refine mix_read _ (by rfl) (fun W hW => by (have hW := HBS.out W hW; have m1 := HQp.out W hW; have y2 := m1.cell_at 2 rfl; clear m1; have c0 := HC0.out W hW; have d0 := HD0.out W hW; go_simp; first | done | with_reducible rfl)) ?_; simp only [Act.put, List.setIfInBounds_toArray, List.set_cons_zero, List.set_cons_succ]) | (refine mix_read _ (by rfl) (fun W hW => by (have hW := HBS.out W hW; have m1 := HQp.out W hW; have y2 := m1.cell_at 2 rfl; clear m1; have c0 := HC0.out W hW; have d0 := HD0.out W hW; rw [HA.out]; go_simp; first | done | with_reducible rfl)) ?_; simp only [Act.put, List.setIfInBounds_toArray, List.set_cons_zero, List.set_cons_succ]) | (refine mix_read _ (by rfl) (fun W hW => by (have hW := HBS.out W hW; have m1 := HQp.out W hW; have y2 := m1.cell_at 2 rfl; clear m1; have c0 := HC0.out W hW; have d0 := HD0.out W hW; rw [HPA.out]; go_simp; first | done | with_reducible rfl)) ?_; simp only [Act.put, List.setIfInBounds_toArray, List.set_cons_zero, List.set_cons_succ]))
            refine mix_nil (fun W hW => ?_)
            have hq := HBS.out W hW
            clear hW HBS
            go_wp2_with fail
            go_roundw
            case rel => exact ⟨a + 1, by omega, by go_num, hq, HT⟩
            case measure => simp [intOf]; omega
        · obtain rfl : a = p.ss.length := by omega
          have HT : Hid (false = r) := Lib.hid (by rw [← HI.out, List.drop_eq_nil_of_le (by simp)]; rfl)
          clear HI
          go_wp2_with fail
          have HBS : Hid (∀ W, Below wi.heap.size wi W → Q W) := Lib.hid (fun W hB => HQ.out _ _ hq hB)
          clear hq
          refine region_mix (Below wi.heap.size wi) [(0, false), (1, false), (2, false), (3, false), (4, false), (5, false), (6, false), (7, false), (8, false), (9, false), (10, false), (11, false), (12, false), (13, false), (14, false), (15, false), (16, false), (17, false)] (by kernel_rfl) (by kernel_rfl) (Below wi.heap.size wi) ⟨Closed.below wi, fun _ h => h⟩ (Below.refl _ _).drew ?_
          simp only [pickOps, List.getElem?_cons_zero, List.getElem?_cons_succ]
          repeat (first | (refine mix_skip (by rfl) ?_; simp only [Act.put, List.setIfInBounds_toArray, List.set_cons_zero, List.set_cons_succ]) | (refine mix_read _ (by rfl) (fun W hW => by (have hW := HBS.out W hW; have m1 := HQp.out W hW; have y2 := m1.cell_at 2 rfl; clear m1; go_simp; first | done | with_reducible rfl)) ?_; simp only [Act.put, List.setIfInBounds_toArray, List.set_cons_zero, List.set_cons_succ]))
          refine mix_nil (fun W hW => ?_)
          have hq := HBS.out W hW
          have y2 := (HQp.out _ hq).cell_at 2 rfl
          clear hW HBS
          go_wp2_with fail
          go_ret
          exact ⟨ret_bool HT.out, HQb.out _ hq⟩
    · obtain rfl : j = vs.length := by omega
      have HT : Hid (true = r) := Lib.hid (by rw [← HI.out, List.drop_eq_nil_of_le (Nat.le_refl _), through_nil])
      have HB := Lib.hid (HQb.out _ hq)
      clear HI hq
      go_wp2_with fail
      go_ret
      exact ⟨ret_bool HT.out, HB.out⟩

end Go.Proofs.YtlfpkileblmhoaaGreatDoor
