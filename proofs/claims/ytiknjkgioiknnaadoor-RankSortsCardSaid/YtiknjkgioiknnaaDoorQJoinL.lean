/- The document's own layer 7: Joined. -/
import Derived.Test.YtiknjkgioiknnaaDoorQJoinF
import Derived.Test.YtiknjkgioiknnaaDoorQB
namespace Go.Proofs.YtiknjkgioiknnaaDoor
open Go.RowKit Go.Shelf
set_option linter.unusedVariables false
set_option linter.unusedSimpArgs false

theorem portsTo_mem {l : Lay} {n : Nat} {x : Int × Int} : x ∈ portsTo l n ↔ ∃ s : Nat, s < n ∧ x ∈ portsS l s := by
  unfold portsTo
  rw [List.mem_flatMap]
  simp
theorem joinedL_iff {l : Lay} : joinedL l = true ↔ l.secs.length ≤ 24 ∧ ∀ (s : Nat) (x : Sec), l.secs[s]? = some x → rightK x = true ∧ ∀ p : Nat, p < (pK x.k).toNat → joinedP l s p = true := by
  unfold joinedL
  rw [Bool.and_eq_true, Bool.and_eq_true, Bool.not_eq_true', Bool.not_eq_true', List.any_eq_false, List.any_eq_false, decide_eq_true_iff]
  constructor
  · rintro ⟨h1, h2, h3⟩
    refine ⟨by omega, fun s x hx => ⟨?_, fun p hp => ?_⟩⟩
    · have := h2 x (List.mem_of_getElem? hx)
      simpa using this
    · have hs := (List.getElem?_eq_some_iff.1 hx).1
      have hk := kindV_at hx
      have hm : ((s : Int), (p : Int)) ∈ portsS l s := by
        unfold portsS
        rw [hk]
        exact List.mem_map.2 ⟨p, List.mem_range.2 hp, rfl⟩
      have := h3 _ (portsTo_mem.2 ⟨s, hs, hm⟩)
      simpa using this
  · rintro ⟨h1, h2⟩
    refine ⟨by omega, fun x hx => ?_, fun x hx => ?_⟩
    · obtain ⟨s, hs, e⟩ := List.mem_iff_getElem.1 hx
      have := (h2 s x (by rw [List.getElem?_eq_getElem hs, e])).1
      simp [this]
    · obtain ⟨s, hs, hm⟩ := portsTo_mem.1 hx
      unfold portsS at hm
      obtain ⟨p, hp, rfl⟩ := List.mem_map.1 hm
      have hx' : l.secs[s]? = some l.secs[s] := List.getElem?_eq_getElem hs
      rw [kindV_at hx'] at hp
      have := (h2 s _ hx').2 p (List.mem_range.1 hp)
      simp [this]
theorem noneJ_B (w : World) : Calls Tryd.prog 47 #[] w fun e w' => e = .returned (prtV (-1) 0) ∧ Below w.heap.size w w' := noneJ_P (P := fun W => Below w.heap.size w W) (Closed.below w) (Below.refl _ _)
/-- What a port of section i joins to, by its section. -/
theorem beyond_at {l : Lay} {i p : Nat} {y : Sec} (hy : l.secs[i]? = some y) (hp : p < (pK y.k).toNat) : ∃ q, y.ports4[p]? = some q ∧ beyondV l i p = q := by
  have h4 := pK_le4 y.k
  have hk := kindV_at hy
  have ht : thereV l i p = true := by rw [there_at, hk]; exact decide_eq_true hp
  have hlt : p < y.ports4.length := by show p < 4; omega
  refine ⟨y.ports4[p], List.getElem?_eq_getElem hlt, ?_⟩
  unfold beyondV
  rw [if_pos ht, Int.toNat_natCast]
  obtain ⟨j, e, hj⟩ := atV_yes ht
  have : i = j := by omega
  subst this
  rw [hy] at hj
  rw [← Option.some.inj hj, List.getElem?_eq_getElem hlt]
  rfl

set_option maxRecDepth 100000 in
set_option maxHeartbeats 8000000 in
theorem joinedR_any {l : Lay} {w : World} (hL : Lies l w) {r : Bool} (hr : joinedL l = r) :
    Calls Tryd.prog 26 #[l.val] w fun e w' => e = .returned (.bool r) ∧ Below w.heap.size w w' := by
  obtain ⟨Q, HQ, HQp, HQl, hq⟩ := keep_box (P := fun W => Below w.heap.size w W) (Closed.below w) (Below.refl _ _) 29 l.cells
  have HL := Lib.hid (fun W hW => Lies.closed l _ _ hL (HQp.out W hW))
  have HR := Lib.hid hr
  have hnS := hL.nS
  clear hr hL
  go_enter Tryd.func26, Tryd.ntmps26
  go_wp2_with fail
  go_loopw [3] (fun i wr => ∃ i' : Nat, i' ≤ l.secs.length ∧ i' ≤ 24 ∧ i = .int .i64 (i' : Int) ∧ Q wr ∧ Hid (∀ (s : Nat) (x : Sec), s < i' → l.secs[s]? = some x → rightK x = true ∧ ∀ p : Nat, p < (pK x.k).toNat → joinedP l s p = true))
    (fun i _ => l.secs.length - (intOf i).toNat)
  case atStart => exact ⟨0, by omega, by omega, rfl, hq, Lib.hid fun s x h => absurd h (Nat.not_lt_zero _)⟩
  case round =>
    clear hq
    obtain ⟨i, hi, hi24, rfl, hq, HOK⟩ := hrel
    have x0 := (HQl.out _ hq).cell_at 0 rfl
    by_cases hlt : i < l.secs.length
    · have hlt' : (i : Int) < l.secs.length := by omega
      by_cases h24 : i < 24
      · have h24' : (i : Int) < 24 := by omega
        obtain ⟨y, hy⟩ : ∃ y, l.secs[i]? = some y := ⟨_, List.getElem?_eq_getElem hlt⟩
        have HY := Lib.hid hy
        obtain ⟨b, off, hA, _, hc0, hc⟩ := (HL.out _ hq).secs.nth Sec.len (by omega) hy
        rw [hA] at x0
        have c0 := hc0 i y _ hy rfl
        have c1 := hc i y 1 _ hy rfl
        have c2 := hc i y 2 _ hy rfl
        have c3 := hc i y 3 _ hy rfl
        have c4 := hc i y 4 _ hy rfl
        have c5 := hc i y 5 _ hy rfl
        have c6 := hc i y 6 _ hy rfl
        have c7 := hc i y 7 _ hy rfl
        have c8 := hc i y 8 _ hy rfl
        have c9 := hc i y 9 _ hy rfl
        have c10 := hc i y 10 _ hy rfl
        obtain ⟨Q1, HQ1, HQ1p, HQ1s, hq1⟩ := keep_boxV HQ.out hq 73 y.cells
        obtain ⟨rb, hrb⟩ : ∃ rb, rightK y = rb := ⟨_, rfl⟩
        have KR := Lib.hid (fun W hW => rightR_P (P := Q1) (w := W) HQ1.out y.k y.s0 y.q0 y.s1 y.q1 y.s2 y.q2 y.s3 y.q3 y.c0 y.c1 (r := rb) (shapeK y.k) hrb hW)
        have HRB := Lib.hid hrb
        clear hc0 hc hy hrb
        go_wp2_with fail
        refine (KR.out _ hq1).mono ?_
        clear hq1 x0 KR c0 c1 c2 c3 c4 c5 c6 c7 c8 c9 c10
        rintro e w1 ⟨rfl, hq1⟩
        cases rb
        · have HF : Hid (false = r) := Lib.hid (by
            rw [← HR.out]
            cases hj : joinedL l
            · rfl
            · have := ((joinedL_iff.1 hj).2 i y HY.out).1
              rw [HRB.out] at this
              cases this)
          go_wp2_with fail
          go_ret
          exact ⟨ret_bool HF.out, HQp.out _ (HQ1p.out _ hq1)⟩
        · have KP := Lib.hid (fun W hW => portsR_P (P := Q1) (w := W) (shapeK y.k) hW)
          have hp4 := pK_le4 y.k
          have hp0 := pK_nn y.k
          obtain ⟨m, hm⟩ : ∃ m : Nat, pK y.k = m := ⟨(pK y.k).toNat, by omega⟩
          rw [hm] at KP hp4
          have HM := Lib.hid hm
          clear hm hp0
          go_wp2_with fail
          go_loopw [5] (fun p wr => ∃ p' : Nat, p' ≤ m ∧ p = .int .i64 (p' : Int) ∧ Q1 wr ∧ Hid (∀ p : Nat, p < p' → joinedP l i p = true))
            (fun p _ => m - (intOf p).toNat)
          case atStart => exact ⟨0, by omega, rfl, hq1, Lib.hid fun p h => absurd h (Nat.not_lt_zero _)⟩
          case round =>
            clear hq1
            obtain ⟨p, hp, rfl, hq1, HPK⟩ := hrel
            have s0 := (HQ1s.out _ hq1).cell_at 0 rfl
            go_wp2_with fail
            refine (KP.out _ hq1).mono ?_
            clear hq1 s0
            rintro e w2 ⟨rfl, hq1⟩
            by_cases hpm : p < m
            · have hpm' : (p : Int) < m := by omega
              obtain ⟨⟨qs, qq⟩, hqi, hbv⟩ := beyond_at HY.out (by rw [HM.out]; exact hpm)
              obtain ⟨c0, c1⟩ := join_at (HQ1s.out _ hq1) hqi
              simp only at c0 c1
              obtain ⟨Q2, HQ2, HQ2p, HQ2r, hq2⟩ := keep_boxV HQ1.out hq1 31 (prtCells (qs, qq))
              obtain ⟨tr, htr⟩ : ∃ tr, thereV l qs qq = tr := ⟨_, rfl⟩
              obtain ⟨⟨rs, rq⟩, hrv⟩ : ∃ q, beyondV l qs qq = q := ⟨_, rfl⟩
              have HQl2 := Lib.hid (fun W hW => HQl.out W (HQ1p.out W (HQ2p.out W hW)))
              have HL2 := Lib.hid (fun W hW => HL.out W (HQ1p.out W (HQ2p.out W hW)))
              have KN := Lib.hid (fun (W : World) (hW : Q2 W) => noneJ_B W)
              have KH := Lib.hid (fun W hW => hasJ_B (w := W) (HL2.out W hW) qs qq htr)
              have KB := Lib.hid (fun W hW => beyondJ_B (w := W) (HL2.out W hW) qs qq hrv)
              have HJP : Hid (joinedP l i p = (((qs == -1) && (qq == 0)) || (!(qs == (i : Int)) && ((rs == (i : Int)) && (rq == (p : Int)))))) := Lib.hid (by unfold joinedP; rw [hbv]; simp only; rw [hrv])
              have HNO : Hid (tr = false → rs = -1) := Lib.hid fun e => by
                subst e
                rw [beyondV_no htr] at hrv
                cases hrv
                rfl
              clear hqi hbv hrv htr
              have HBAD : Hid (joinedP l i p = false → false = r) := Lib.hid fun hf => by
                rw [← HR.out]
                cases hj : joinedL l
                · rfl
                · have := ((joinedL_iff.1 hj).2 i y HY.out).2 p (by rw [HM.out]; exact hpm)
                  rw [hf] at this
                  cases this
              have HGOOD : Hid (joinedP l i p = true → ∀ p' : Nat, p' < p + 1 → joinedP l i p' = true) := Lib.hid fun hg p' hp' => by
                by_cases e : p' < p
                · exact HPK.out p' e
                · have : p' = p := by omega
                  subst this
                  exact hg
              clear HPK
              by_cases h1 : qs = -1 ∧ qq = 0
              · obtain ⟨rfl, rfl⟩ := h1
                have HG := Lib.hid (HGOOD.out (by rw [HJP.out]; rfl))
                go_wp2_with fail
                clear c0 c1
                have HBS : Hid (∀ W, Below (w2.alloc (.cells (prtCells (-1, 0)).toArray 31)).heap.size (w2.alloc (.cells (prtCells (-1, 0)).toArray 31)) W → Q2 W) := Lib.hid (fun W hB => HQ2.out _ _ hq2 hB)
                clear hq2
                refine region_mix (Below (w2.alloc (.cells (prtCells (-1, 0)).toArray 31)).heap.size (w2.alloc (.cells (prtCells (-1, 0)).toArray 31))) [(0, false), (1, false), (2, false), (3, false), (4, false), (5, false), (6, false), (7, false), (8, false), (9, false), (10, false), (11, false), (12, false), (13, false), (14, false), (15, false), (16, false), (17, false), (18, false), (19, false), (20, false), (21, false), (22, false), (23, false)] (by kernel_rfl) (by kernel_rfl) (Below (w2.alloc (.cells (prtCells (-1, 0)).toArray 31)).heap.size (w2.alloc (.cells (prtCells (-1, 0)).toArray 31))) ⟨Closed.below (w2.alloc (.cells (prtCells (-1, 0)).toArray 31)), fun _ h => h⟩ (Below.refl _ _).drew ?_
                simp only [pickOps, List.getElem?_cons_zero, List.getElem?_cons_succ]
                repeat (first | (refine mix_skip (by rfl) ?_; simp only [Act.put, List.setIfInBounds_toArray, List.set_cons_zero, List.set_cons_succ]) | (refine mix_read _ (by rfl) (fun W hW => by (have hW := HBS.out W hW; have m0 := HQl2.out _ hW; have x0 := m0.cell_at 0 rfl; have x1 := m0.cell_at 1 rfl; have x2 := m0.cell_at 2 rfl; have x3 := m0.cell_at 3 rfl; have x4 := m0.cell_at 4 rfl; have x5 := m0.cell_at 5 rfl; have x6 := m0.cell_at 6 rfl; have x7 := m0.cell_at 7 rfl; have x8 := m0.cell_at 8 rfl; have x9 := m0.cell_at 9 rfl; have x10 := m0.cell_at 10 rfl; clear m0; have m1 := HQ2r.out _ hW; have v0 := m1.cell_at 0 rfl; have v1 := m1.cell_at 1 rfl; clear m1; go_simp; first | done | with_reducible rfl)) ?_; simp only [Act.put, List.setIfInBounds_toArray, List.set_cons_zero, List.set_cons_succ]) | (refine mix_call _ _ _ (by rfl) (fun W hW => by (have hW := HBS.out W hW; have m0 := HQl2.out _ hW; have x0 := m0.cell_at 0 rfl; have x1 := m0.cell_at 1 rfl; have x2 := m0.cell_at 2 rfl; have x3 := m0.cell_at 3 rfl; have x4 := m0.cell_at 4 rfl; have x5 := m0.cell_at 5 rfl; have x6 := m0.cell_at 6 rfl; have x7 := m0.cell_at 7 rfl; have x8 := m0.cell_at 8 rfl; have x9 := m0.cell_at 9 rfl; have x10 := m0.cell_at 10 rfl; clear m0; have m1 := HQ2r.out _ hW; have v0 := m1.cell_at 0 rfl; have v1 := m1.cell_at 1 rfl; clear m1; go_simp; first | done | rfl)) (fun W hW => KN.out W (HBS.out W hW)) ?_; simp only [Act.put, List.setIfInBounds_toArray, List.set_cons_zero, List.set_cons_succ]) | (refine mix_call _ _ _ (by rfl) (fun W hW => by (have hW := HBS.out W hW; have m0 := HQl2.out _ hW; have x0 := m0.cell_at 0 rfl; have x1 := m0.cell_at 1 rfl; have x2 := m0.cell_at 2 rfl; have x3 := m0.cell_at 3 rfl; have x4 := m0.cell_at 4 rfl; have x5 := m0.cell_at 5 rfl; have x6 := m0.cell_at 6 rfl; have x7 := m0.cell_at 7 rfl; have x8 := m0.cell_at 8 rfl; have x9 := m0.cell_at 9 rfl; have x10 := m0.cell_at 10 rfl; clear m0; have m1 := HQ2r.out _ hW; have v0 := m1.cell_at 0 rfl; have v1 := m1.cell_at 1 rfl; clear m1; go_simp; first | done | rfl)) (fun W hW => KH.out W (HBS.out W hW)) ?_; simp only [Act.put, List.setIfInBounds_toArray, List.set_cons_zero, List.set_cons_succ]) | (refine mix_call _ _ _ (by rfl) (fun W hW => by (have hW := HBS.out W hW; have m0 := HQl2.out _ hW; have x0 := m0.cell_at 0 rfl; have x1 := m0.cell_at 1 rfl; have x2 := m0.cell_at 2 rfl; have x3 := m0.cell_at 3 rfl; have x4 := m0.cell_at 4 rfl; have x5 := m0.cell_at 5 rfl; have x6 := m0.cell_at 6 rfl; have x7 := m0.cell_at 7 rfl; have x8 := m0.cell_at 8 rfl; have x9 := m0.cell_at 9 rfl; have x10 := m0.cell_at 10 rfl; clear m0; have m1 := HQ2r.out _ hW; have v0 := m1.cell_at 0 rfl; have v1 := m1.cell_at 1 rfl; clear m1; go_simp; first | done | rfl)) (fun W hW => KB.out W (HBS.out W hW)) ?_; simp only [Act.put, List.setIfInBounds_toArray, List.set_cons_zero, List.set_cons_succ]))
                refine mix_nil (fun W hW => ?_)
                have hq := HBS.out W hW
                clear hW HBS
                go_wp2_with fail
                go_roundw
                case rel => exact ⟨p + 1, hpm, by go_num, HQ2p.out _ hq, HG⟩
                case measure => simp [intOf]; omega
              have H1 : Hid (qs = -1 → ¬ qq = 0) := Lib.hid fun e f => h1 ⟨e, f⟩
              clear h1
              cases tr
              · have HB := Lib.hid (HBAD.out (by
                  have d := H1.out
                  have e := HNO.out rfl
                  rw [HJP.out, e]
                  simp
                  exact d))
                go_wp2_with fail
                clear c0 c1
                have HBS : Hid (∀ W, Below (w2.alloc (.cells (prtCells (qs, qq)).toArray 31)).heap.size (w2.alloc (.cells (prtCells (qs, qq)).toArray 31)) W → Q2 W) := Lib.hid (fun W hB => HQ2.out _ _ hq2 hB)
                clear hq2
                refine region_mix (Below (w2.alloc (.cells (prtCells (qs, qq)).toArray 31)).heap.size (w2.alloc (.cells (prtCells (qs, qq)).toArray 31))) [(0, false), (1, false), (2, false), (3, false), (4, false), (5, false), (6, false), (7, false), (8, false), (9, false), (10, false), (11, false), (12, false), (13, false), (14, false), (15, false), (16, false), (17, false), (18, false), (19, false), (20, false), (21, false), (22, false), (23, false)] (by kernel_rfl) (by kernel_rfl) (Below (w2.alloc (.cells (prtCells (qs, qq)).toArray 31)).heap.size (w2.alloc (.cells (prtCells (qs, qq)).toArray 31))) ⟨Closed.below (w2.alloc (.cells (prtCells (qs, qq)).toArray 31)), fun _ h => h⟩ (Below.refl _ _).drew ?_
                simp only [pickOps, List.getElem?_cons_zero, List.getElem?_cons_succ]
                repeat (first | (refine mix_read (.bool true) (by rfl) (fun W hW => by (have hW := HBS.out W hW; have m0 := HQl2.out _ hW; have x0 := m0.cell_at 0 rfl; have x1 := m0.cell_at 1 rfl; have x2 := m0.cell_at 2 rfl; have x3 := m0.cell_at 3 rfl; have x4 := m0.cell_at 4 rfl; have x5 := m0.cell_at 5 rfl; have x6 := m0.cell_at 6 rfl; have x7 := m0.cell_at 7 rfl; have x8 := m0.cell_at 8 rfl; have x9 := m0.cell_at 9 rfl; have x10 := m0.cell_at 10 rfl; clear m0; have m1 := HQ2r.out _ hW; have v0 := m1.cell_at 0 rfl; have v1 := m1.cell_at 1 rfl; clear m1; have d1 := H1.out; go_simp; first | done | exact d1)) ?_; simp only [Act.put, List.setIfInBounds_toArray, List.set_cons_zero, List.set_cons_succ]) | (refine mix_skip (by rfl) ?_; simp only [Act.put, List.setIfInBounds_toArray, List.set_cons_zero, List.set_cons_succ]) | (refine mix_read _ (by rfl) (fun W hW => by (have hW := HBS.out W hW; have m0 := HQl2.out _ hW; have x0 := m0.cell_at 0 rfl; have x1 := m0.cell_at 1 rfl; have x2 := m0.cell_at 2 rfl; have x3 := m0.cell_at 3 rfl; have x4 := m0.cell_at 4 rfl; have x5 := m0.cell_at 5 rfl; have x6 := m0.cell_at 6 rfl; have x7 := m0.cell_at 7 rfl; have x8 := m0.cell_at 8 rfl; have x9 := m0.cell_at 9 rfl; have x10 := m0.cell_at 10 rfl; clear m0; have m1 := HQ2r.out _ hW; have v0 := m1.cell_at 0 rfl; have v1 := m1.cell_at 1 rfl; clear m1; have d1 := H1.out; go_simp; first | done | with_reducible rfl)) ?_; simp only [Act.put, List.setIfInBounds_toArray, List.set_cons_zero, List.set_cons_succ]) | (refine mix_call _ _ _ (by rfl) (fun W hW => by (have hW := HBS.out W hW; have m0 := HQl2.out _ hW; have x0 := m0.cell_at 0 rfl; have x1 := m0.cell_at 1 rfl; have x2 := m0.cell_at 2 rfl; have x3 := m0.cell_at 3 rfl; have x4 := m0.cell_at 4 rfl; have x5 := m0.cell_at 5 rfl; have x6 := m0.cell_at 6 rfl; have x7 := m0.cell_at 7 rfl; have x8 := m0.cell_at 8 rfl; have x9 := m0.cell_at 9 rfl; have x10 := m0.cell_at 10 rfl; clear m0; have m1 := HQ2r.out _ hW; have v0 := m1.cell_at 0 rfl; have v1 := m1.cell_at 1 rfl; clear m1; have d1 := H1.out; go_simp; first | done | rfl)) (fun W hW => KN.out W (HBS.out W hW)) ?_; simp only [Act.put, List.setIfInBounds_toArray, List.set_cons_zero, List.set_cons_succ]) | (refine mix_call _ _ _ (by rfl) (fun W hW => by (have hW := HBS.out W hW; have m0 := HQl2.out _ hW; have x0 := m0.cell_at 0 rfl; have x1 := m0.cell_at 1 rfl; have x2 := m0.cell_at 2 rfl; have x3 := m0.cell_at 3 rfl; have x4 := m0.cell_at 4 rfl; have x5 := m0.cell_at 5 rfl; have x6 := m0.cell_at 6 rfl; have x7 := m0.cell_at 7 rfl; have x8 := m0.cell_at 8 rfl; have x9 := m0.cell_at 9 rfl; have x10 := m0.cell_at 10 rfl; clear m0; have m1 := HQ2r.out _ hW; have v0 := m1.cell_at 0 rfl; have v1 := m1.cell_at 1 rfl; clear m1; have d1 := H1.out; go_simp; first | done | rfl)) (fun W hW => KH.out W (HBS.out W hW)) ?_; simp only [Act.put, List.setIfInBounds_toArray, List.set_cons_zero, List.set_cons_succ]) | (refine mix_call _ _ _ (by rfl) (fun W hW => by (have hW := HBS.out W hW; have m0 := HQl2.out _ hW; have x0 := m0.cell_at 0 rfl; have x1 := m0.cell_at 1 rfl; have x2 := m0.cell_at 2 rfl; have x3 := m0.cell_at 3 rfl; have x4 := m0.cell_at 4 rfl; have x5 := m0.cell_at 5 rfl; have x6 := m0.cell_at 6 rfl; have x7 := m0.cell_at 7 rfl; have x8 := m0.cell_at 8 rfl; have x9 := m0.cell_at 9 rfl; have x10 := m0.cell_at 10 rfl; clear m0; have m1 := HQ2r.out _ hW; have v0 := m1.cell_at 0 rfl; have v1 := m1.cell_at 1 rfl; clear m1; have d1 := H1.out; go_simp; first | done | rfl)) (fun W hW => KB.out W (HBS.out W hW)) ?_; simp only [Act.put, List.setIfInBounds_toArray, List.set_cons_zero, List.set_cons_succ]))
                refine mix_nil (fun W hW => ?_)
                have hq := HBS.out W hW
                clear hW HBS
                go_wp2_with fail
                go_ret
                exact ⟨ret_bool HB.out, HQp.out _ (HQ1p.out _ (HQ2p.out _ hq))⟩
              by_cases h2 : qs = (i : Int)
              · subst h2
                have HB := Lib.hid (HBAD.out (by rw [HJP.out]; simp))
                go_wp2_with fail
                clear c0 c1
                have HBS : Hid (∀ W, Below (w2.alloc (.cells (prtCells ((i : Int), qq)).toArray 31)).heap.size (w2.alloc (.cells (prtCells ((i : Int), qq)).toArray 31)) W → Q2 W) := Lib.hid (fun W hB => HQ2.out _ _ hq2 hB)
                clear hq2
                refine region_mix (Below (w2.alloc (.cells (prtCells ((i : Int), qq)).toArray 31)).heap.size (w2.alloc (.cells (prtCells ((i : Int), qq)).toArray 31))) [(0, false), (1, false), (2, false), (3, false), (4, false), (5, false), (6, false), (7, false), (8, false), (9, false), (10, false), (11, false), (12, false), (13, false), (14, false), (15, false), (16, false), (17, false), (18, false), (19, false), (20, false), (21, false), (22, false), (23, false)] (by kernel_rfl) (by kernel_rfl) (Below (w2.alloc (.cells (prtCells ((i : Int), qq)).toArray 31)).heap.size (w2.alloc (.cells (prtCells ((i : Int), qq)).toArray 31))) ⟨Closed.below (w2.alloc (.cells (prtCells ((i : Int), qq)).toArray 31)), fun _ h => h⟩ (Below.refl _ _).drew ?_
                simp only [pickOps, List.getElem?_cons_zero, List.getElem?_cons_succ]
                repeat (first | (refine mix_read (.bool true) (by rfl) (fun W hW => by (have hW := HBS.out W hW; have m0 := HQl2.out _ hW; have x0 := m0.cell_at 0 rfl; have x1 := m0.cell_at 1 rfl; have x2 := m0.cell_at 2 rfl; have x3 := m0.cell_at 3 rfl; have x4 := m0.cell_at 4 rfl; have x5 := m0.cell_at 5 rfl; have x6 := m0.cell_at 6 rfl; have x7 := m0.cell_at 7 rfl; have x8 := m0.cell_at 8 rfl; have x9 := m0.cell_at 9 rfl; have x10 := m0.cell_at 10 rfl; clear m0; have m1 := HQ2r.out _ hW; have v0 := m1.cell_at 0 rfl; have v1 := m1.cell_at 1 rfl; clear m1; have d1 := H1.out; go_simp; first | done | exact d1)) ?_; simp only [Act.put, List.setIfInBounds_toArray, List.set_cons_zero, List.set_cons_succ]) | (refine mix_skip (by rfl) ?_; simp only [Act.put, List.setIfInBounds_toArray, List.set_cons_zero, List.set_cons_succ]) | (refine mix_read _ (by rfl) (fun W hW => by (have hW := HBS.out W hW; have m0 := HQl2.out _ hW; have x0 := m0.cell_at 0 rfl; have x1 := m0.cell_at 1 rfl; have x2 := m0.cell_at 2 rfl; have x3 := m0.cell_at 3 rfl; have x4 := m0.cell_at 4 rfl; have x5 := m0.cell_at 5 rfl; have x6 := m0.cell_at 6 rfl; have x7 := m0.cell_at 7 rfl; have x8 := m0.cell_at 8 rfl; have x9 := m0.cell_at 9 rfl; have x10 := m0.cell_at 10 rfl; clear m0; have m1 := HQ2r.out _ hW; have v0 := m1.cell_at 0 rfl; have v1 := m1.cell_at 1 rfl; clear m1; have d1 := H1.out; go_simp; first | done | with_reducible rfl)) ?_; simp only [Act.put, List.setIfInBounds_toArray, List.set_cons_zero, List.set_cons_succ]) | (refine mix_call _ _ _ (by rfl) (fun W hW => by (have hW := HBS.out W hW; have m0 := HQl2.out _ hW; have x0 := m0.cell_at 0 rfl; have x1 := m0.cell_at 1 rfl; have x2 := m0.cell_at 2 rfl; have x3 := m0.cell_at 3 rfl; have x4 := m0.cell_at 4 rfl; have x5 := m0.cell_at 5 rfl; have x6 := m0.cell_at 6 rfl; have x7 := m0.cell_at 7 rfl; have x8 := m0.cell_at 8 rfl; have x9 := m0.cell_at 9 rfl; have x10 := m0.cell_at 10 rfl; clear m0; have m1 := HQ2r.out _ hW; have v0 := m1.cell_at 0 rfl; have v1 := m1.cell_at 1 rfl; clear m1; have d1 := H1.out; go_simp; first | done | rfl)) (fun W hW => KN.out W (HBS.out W hW)) ?_; simp only [Act.put, List.setIfInBounds_toArray, List.set_cons_zero, List.set_cons_succ]) | (refine mix_call _ _ _ (by rfl) (fun W hW => by (have hW := HBS.out W hW; have m0 := HQl2.out _ hW; have x0 := m0.cell_at 0 rfl; have x1 := m0.cell_at 1 rfl; have x2 := m0.cell_at 2 rfl; have x3 := m0.cell_at 3 rfl; have x4 := m0.cell_at 4 rfl; have x5 := m0.cell_at 5 rfl; have x6 := m0.cell_at 6 rfl; have x7 := m0.cell_at 7 rfl; have x8 := m0.cell_at 8 rfl; have x9 := m0.cell_at 9 rfl; have x10 := m0.cell_at 10 rfl; clear m0; have m1 := HQ2r.out _ hW; have v0 := m1.cell_at 0 rfl; have v1 := m1.cell_at 1 rfl; clear m1; have d1 := H1.out; go_simp; first | done | rfl)) (fun W hW => KH.out W (HBS.out W hW)) ?_; simp only [Act.put, List.setIfInBounds_toArray, List.set_cons_zero, List.set_cons_succ]) | (refine mix_call _ _ _ (by rfl) (fun W hW => by (have hW := HBS.out W hW; have m0 := HQl2.out _ hW; have x0 := m0.cell_at 0 rfl; have x1 := m0.cell_at 1 rfl; have x2 := m0.cell_at 2 rfl; have x3 := m0.cell_at 3 rfl; have x4 := m0.cell_at 4 rfl; have x5 := m0.cell_at 5 rfl; have x6 := m0.cell_at 6 rfl; have x7 := m0.cell_at 7 rfl; have x8 := m0.cell_at 8 rfl; have x9 := m0.cell_at 9 rfl; have x10 := m0.cell_at 10 rfl; clear m0; have m1 := HQ2r.out _ hW; have v0 := m1.cell_at 0 rfl; have v1 := m1.cell_at 1 rfl; clear m1; have d1 := H1.out; go_simp; first | done | rfl)) (fun W hW => KB.out W (HBS.out W hW)) ?_; simp only [Act.put, List.setIfInBounds_toArray, List.set_cons_zero, List.set_cons_succ]))
                refine mix_nil (fun W hW => ?_)
                have hq := HBS.out W hW
                clear hW HBS
                go_wp2_with fail
                go_ret
                exact ⟨ret_bool HB.out, HQp.out _ (HQ1p.out _ (HQ2p.out _ hq))⟩
              have H2 : Hid ((qs == (i : Int)) = false) := Lib.hid (by simp [h2])
              have H3 := Lib.hid h2
              clear h2
              by_cases h3 : rs = (i : Int) ∧ rq = (p : Int)
              · obtain ⟨rfl, rfl⟩ := h3
                have HG := Lib.hid (HGOOD.out (by have d := H1.out; have e := H3.out; rw [HJP.out]; simp [e]))
                go_wp2_with fail
                clear c0 c1
                have HBS : Hid (∀ W, Below (w2.alloc (.cells (prtCells (qs, qq)).toArray 31)).heap.size (w2.alloc (.cells (prtCells (qs, qq)).toArray 31)) W → Q2 W) := Lib.hid (fun W hB => HQ2.out _ _ hq2 hB)
                clear hq2
                refine region_mix (Below (w2.alloc (.cells (prtCells (qs, qq)).toArray 31)).heap.size (w2.alloc (.cells (prtCells (qs, qq)).toArray 31))) [(0, false), (1, false), (2, false), (3, false), (4, false), (5, false), (6, false), (7, false), (8, false), (9, false), (10, false), (11, false), (12, false), (13, false), (14, false), (15, false), (16, false), (17, false), (18, false), (19, false), (20, false), (21, false), (22, false), (23, false)] (by kernel_rfl) (by kernel_rfl) (Below (w2.alloc (.cells (prtCells (qs, qq)).toArray 31)).heap.size (w2.alloc (.cells (prtCells (qs, qq)).toArray 31))) ⟨Closed.below (w2.alloc (.cells (prtCells (qs, qq)).toArray 31)), fun _ h => h⟩ (Below.refl _ _).drew ?_
                simp only [pickOps, List.getElem?_cons_zero, List.getElem?_cons_succ]
                repeat (first | (refine mix_read (.bool true) (by rfl) (fun W hW => by (have hW := HBS.out W hW; have m0 := HQl2.out _ hW; have x0 := m0.cell_at 0 rfl; have x1 := m0.cell_at 1 rfl; have x2 := m0.cell_at 2 rfl; have x3 := m0.cell_at 3 rfl; have x4 := m0.cell_at 4 rfl; have x5 := m0.cell_at 5 rfl; have x6 := m0.cell_at 6 rfl; have x7 := m0.cell_at 7 rfl; have x8 := m0.cell_at 8 rfl; have x9 := m0.cell_at 9 rfl; have x10 := m0.cell_at 10 rfl; clear m0; have m1 := HQ2r.out _ hW; have v0 := m1.cell_at 0 rfl; have v1 := m1.cell_at 1 rfl; clear m1; have d1 := H1.out; have d2 := H2.out; go_simp; first | done | exact d1)) ?_; simp only [Act.put, List.setIfInBounds_toArray, List.set_cons_zero, List.set_cons_succ]) | (refine mix_skip (by rfl) ?_; simp only [Act.put, List.setIfInBounds_toArray, List.set_cons_zero, List.set_cons_succ]) | (refine mix_read _ (by rfl) (fun W hW => by (have hW := HBS.out W hW; have m0 := HQl2.out _ hW; have x0 := m0.cell_at 0 rfl; have x1 := m0.cell_at 1 rfl; have x2 := m0.cell_at 2 rfl; have x3 := m0.cell_at 3 rfl; have x4 := m0.cell_at 4 rfl; have x5 := m0.cell_at 5 rfl; have x6 := m0.cell_at 6 rfl; have x7 := m0.cell_at 7 rfl; have x8 := m0.cell_at 8 rfl; have x9 := m0.cell_at 9 rfl; have x10 := m0.cell_at 10 rfl; clear m0; have m1 := HQ2r.out _ hW; have v0 := m1.cell_at 0 rfl; have v1 := m1.cell_at 1 rfl; clear m1; have d1 := H1.out; have d2 := H2.out; go_simp; first | done | with_reducible rfl)) ?_; simp only [Act.put, List.setIfInBounds_toArray, List.set_cons_zero, List.set_cons_succ]) | (refine mix_call _ _ _ (by rfl) (fun W hW => by (have hW := HBS.out W hW; have m0 := HQl2.out _ hW; have x0 := m0.cell_at 0 rfl; have x1 := m0.cell_at 1 rfl; have x2 := m0.cell_at 2 rfl; have x3 := m0.cell_at 3 rfl; have x4 := m0.cell_at 4 rfl; have x5 := m0.cell_at 5 rfl; have x6 := m0.cell_at 6 rfl; have x7 := m0.cell_at 7 rfl; have x8 := m0.cell_at 8 rfl; have x9 := m0.cell_at 9 rfl; have x10 := m0.cell_at 10 rfl; clear m0; have m1 := HQ2r.out _ hW; have v0 := m1.cell_at 0 rfl; have v1 := m1.cell_at 1 rfl; clear m1; have d1 := H1.out; have d2 := H2.out; go_simp; first | done | rfl)) (fun W hW => KN.out W (HBS.out W hW)) ?_; simp only [Act.put, List.setIfInBounds_toArray, List.set_cons_zero, List.set_cons_succ]) | (refine mix_call _ _ _ (by rfl) (fun W hW => by (have hW := HBS.out W hW; have m0 := HQl2.out _ hW; have x0 := m0.cell_at 0 rfl; have x1 := m0.cell_at 1 rfl; have x2 := m0.cell_at 2 rfl; have x3 := m0.cell_at 3 rfl; have x4 := m0.cell_at 4 rfl; have x5 := m0.cell_at 5 rfl; have x6 := m0.cell_at 6 rfl; have x7 := m0.cell_at 7 rfl; have x8 := m0.cell_at 8 rfl; have x9 := m0.cell_at 9 rfl; have x10 := m0.cell_at 10 rfl; clear m0; have m1 := HQ2r.out _ hW; have v0 := m1.cell_at 0 rfl; have v1 := m1.cell_at 1 rfl; clear m1; have d1 := H1.out; have d2 := H2.out; go_simp; first | done | rfl)) (fun W hW => KH.out W (HBS.out W hW)) ?_; simp only [Act.put, List.setIfInBounds_toArray, List.set_cons_zero, List.set_cons_succ]) | (refine mix_call _ _ _ (by rfl) (fun W hW => by (have hW := HBS.out W hW; have m0 := HQl2.out _ hW; have x0 := m0.cell_at 0 rfl; have x1 := m0.cell_at 1 rfl; have x2 := m0.cell_at 2 rfl; have x3 := m0.cell_at 3 rfl; have x4 := m0.cell_at 4 rfl; have x5 := m0.cell_at 5 rfl; have x6 := m0.cell_at 6 rfl; have x7 := m0.cell_at 7 rfl; have x8 := m0.cell_at 8 rfl; have x9 := m0.cell_at 9 rfl; have x10 := m0.cell_at 10 rfl; clear m0; have m1 := HQ2r.out _ hW; have v0 := m1.cell_at 0 rfl; have v1 := m1.cell_at 1 rfl; clear m1; have d1 := H1.out; have d2 := H2.out; go_simp; first | done | rfl)) (fun W hW => KB.out W (HBS.out W hW)) ?_; simp only [Act.put, List.setIfInBounds_toArray, List.set_cons_zero, List.set_cons_succ]))
                refine mix_nil (fun W hW => ?_)
                have hq := HBS.out W hW
                clear hW HBS
                go_wp2_with fail
                go_roundw
                case rel => exact ⟨p + 1, hpm, by go_num, HQ2p.out _ hq, HG⟩
                case measure => simp [intOf]; omega
              · have H4 : Hid (rs = (i : Int) → ¬ rq = (p : Int)) := Lib.hid fun e f => h3 ⟨e, f⟩
                clear h3
                have HB := Lib.hid (HBAD.out (by have d := H1.out; have e := H4.out; rw [HJP.out]; simp; exact ⟨d, fun _ => e⟩))
                go_wp2_with fail
                clear c0 c1
                have HBS : Hid (∀ W, Below (w2.alloc (.cells (prtCells (qs, qq)).toArray 31)).heap.size (w2.alloc (.cells (prtCells (qs, qq)).toArray 31)) W → Q2 W) := Lib.hid (fun W hB => HQ2.out _ _ hq2 hB)
                clear hq2
                refine region_mix (Below (w2.alloc (.cells (prtCells (qs, qq)).toArray 31)).heap.size (w2.alloc (.cells (prtCells (qs, qq)).toArray 31))) [(0, false), (1, false), (2, false), (3, false), (4, false), (5, false), (6, false), (7, false), (8, false), (9, false), (10, false), (11, false), (12, false), (13, false), (14, false), (15, false), (16, false), (17, false), (18, false), (19, false), (20, false), (21, false), (22, false), (23, false)] (by kernel_rfl) (by kernel_rfl) (Below (w2.alloc (.cells (prtCells (qs, qq)).toArray 31)).heap.size (w2.alloc (.cells (prtCells (qs, qq)).toArray 31))) ⟨Closed.below (w2.alloc (.cells (prtCells (qs, qq)).toArray 31)), fun _ h => h⟩ (Below.refl _ _).drew ?_
                simp only [pickOps, List.getElem?_cons_zero, List.getElem?_cons_succ]
                repeat (first | (refine mix_read (.bool true) (by rfl) (fun W hW => by (have hW := HBS.out W hW; have m0 := HQl2.out _ hW; have x0 := m0.cell_at 0 rfl; have x1 := m0.cell_at 1 rfl; have x2 := m0.cell_at 2 rfl; have x3 := m0.cell_at 3 rfl; have x4 := m0.cell_at 4 rfl; have x5 := m0.cell_at 5 rfl; have x6 := m0.cell_at 6 rfl; have x7 := m0.cell_at 7 rfl; have x8 := m0.cell_at 8 rfl; have x9 := m0.cell_at 9 rfl; have x10 := m0.cell_at 10 rfl; clear m0; have m1 := HQ2r.out _ hW; have v0 := m1.cell_at 0 rfl; have v1 := m1.cell_at 1 rfl; clear m1; have d1 := H1.out; have d2 := H2.out; have d3 := H4.out; go_simp; first | done | exact d1 | exact d3)) ?_; simp only [Act.put, List.setIfInBounds_toArray, List.set_cons_zero, List.set_cons_succ]) | (refine mix_skip (by rfl) ?_; simp only [Act.put, List.setIfInBounds_toArray, List.set_cons_zero, List.set_cons_succ]) | (refine mix_read _ (by rfl) (fun W hW => by (have hW := HBS.out W hW; have m0 := HQl2.out _ hW; have x0 := m0.cell_at 0 rfl; have x1 := m0.cell_at 1 rfl; have x2 := m0.cell_at 2 rfl; have x3 := m0.cell_at 3 rfl; have x4 := m0.cell_at 4 rfl; have x5 := m0.cell_at 5 rfl; have x6 := m0.cell_at 6 rfl; have x7 := m0.cell_at 7 rfl; have x8 := m0.cell_at 8 rfl; have x9 := m0.cell_at 9 rfl; have x10 := m0.cell_at 10 rfl; clear m0; have m1 := HQ2r.out _ hW; have v0 := m1.cell_at 0 rfl; have v1 := m1.cell_at 1 rfl; clear m1; have d1 := H1.out; have d2 := H2.out; have d3 := H4.out; go_simp; first | done | with_reducible rfl)) ?_; simp only [Act.put, List.setIfInBounds_toArray, List.set_cons_zero, List.set_cons_succ]) | (refine mix_call _ _ _ (by rfl) (fun W hW => by (have hW := HBS.out W hW; have m0 := HQl2.out _ hW; have x0 := m0.cell_at 0 rfl; have x1 := m0.cell_at 1 rfl; have x2 := m0.cell_at 2 rfl; have x3 := m0.cell_at 3 rfl; have x4 := m0.cell_at 4 rfl; have x5 := m0.cell_at 5 rfl; have x6 := m0.cell_at 6 rfl; have x7 := m0.cell_at 7 rfl; have x8 := m0.cell_at 8 rfl; have x9 := m0.cell_at 9 rfl; have x10 := m0.cell_at 10 rfl; clear m0; have m1 := HQ2r.out _ hW; have v0 := m1.cell_at 0 rfl; have v1 := m1.cell_at 1 rfl; clear m1; have d1 := H1.out; have d2 := H2.out; have d3 := H4.out; go_simp; first | done | rfl)) (fun W hW => KN.out W (HBS.out W hW)) ?_; simp only [Act.put, List.setIfInBounds_toArray, List.set_cons_zero, List.set_cons_succ]) | (refine mix_call _ _ _ (by rfl) (fun W hW => by (have hW := HBS.out W hW; have m0 := HQl2.out _ hW; have x0 := m0.cell_at 0 rfl; have x1 := m0.cell_at 1 rfl; have x2 := m0.cell_at 2 rfl; have x3 := m0.cell_at 3 rfl; have x4 := m0.cell_at 4 rfl; have x5 := m0.cell_at 5 rfl; have x6 := m0.cell_at 6 rfl; have x7 := m0.cell_at 7 rfl; have x8 := m0.cell_at 8 rfl; have x9 := m0.cell_at 9 rfl; have x10 := m0.cell_at 10 rfl; clear m0; have m1 := HQ2r.out _ hW; have v0 := m1.cell_at 0 rfl; have v1 := m1.cell_at 1 rfl; clear m1; have d1 := H1.out; have d2 := H2.out; have d3 := H4.out; go_simp; first | done | rfl)) (fun W hW => KH.out W (HBS.out W hW)) ?_; simp only [Act.put, List.setIfInBounds_toArray, List.set_cons_zero, List.set_cons_succ]) | (refine mix_call _ _ _ (by rfl) (fun W hW => by (have hW := HBS.out W hW; have m0 := HQl2.out _ hW; have x0 := m0.cell_at 0 rfl; have x1 := m0.cell_at 1 rfl; have x2 := m0.cell_at 2 rfl; have x3 := m0.cell_at 3 rfl; have x4 := m0.cell_at 4 rfl; have x5 := m0.cell_at 5 rfl; have x6 := m0.cell_at 6 rfl; have x7 := m0.cell_at 7 rfl; have x8 := m0.cell_at 8 rfl; have x9 := m0.cell_at 9 rfl; have x10 := m0.cell_at 10 rfl; clear m0; have m1 := HQ2r.out _ hW; have v0 := m1.cell_at 0 rfl; have v1 := m1.cell_at 1 rfl; clear m1; have d1 := H1.out; have d2 := H2.out; have d3 := H4.out; go_simp; first | done | rfl)) (fun W hW => KB.out W (HBS.out W hW)) ?_; simp only [Act.put, List.setIfInBounds_toArray, List.set_cons_zero, List.set_cons_succ]))
                refine mix_nil (fun W hW => ?_)
                have hq := HBS.out W hW
                clear hW HBS
                go_wp2_with fail
                go_ret
                exact ⟨ret_bool HB.out, HQp.out _ (HQ1p.out _ (HQ2p.out _ hq))⟩
            · obtain rfl : p = m := by omega
              have HN : Hid (∀ (s : Nat) (x : Sec), s < i + 1 → l.secs[s]? = some x → rightK x = true ∧ ∀ p : Nat, p < (pK x.k).toNat → joinedP l s p = true) := Lib.hid fun s x hs hx => by
                by_cases e : s < i
                · exact HOK.out s x e hx
                · have : s = i := by omega
                  subst this
                  have hyx := HY.out
                  rw [hx] at hyx
                  cases hyx
                  refine ⟨HRB.out, fun p' hp' => HPK.out p' ?_⟩
                  rw [HM.out] at hp'
                  exact hp'
              go_wp2_with fail
              go_roundw
              case rel => exact ⟨i + 1, hlt, by omega, by go_num, HQ1p.out _ hq1, HN⟩
              case measure => simp [intOf]; omega
      · have HF : Hid (false = r) := Lib.hid (by
          rw [← HR.out]
          cases hj : joinedL l
          · rfl
          · have := (joinedL_iff.1 hj).1
            omega)
        obtain rfl : i = 24 := by omega
        have hle : decide ((l.secs.length : Int) ≤ 24) = false := decide_eq_false (by omega)
        have hlen : ¬ ((l.secs.length : Int) ≤ 24) := by omega
        go_wp2_with fail
        go_ret
        exact ⟨ret_bool HF.out, HQp.out _ hq⟩
    · obtain rfl : i = l.secs.length := by omega
      have HF : Hid (true = r) := Lib.hid (by
        rw [← HR.out]
        exact (joinedL_iff.2 ⟨hi24, fun s x hx => HOK.out s x (List.getElem?_eq_some_iff.1 hx).1 hx⟩).symm)
      have hlen : (l.secs.length : Int) ≤ 24 := by omega
      go_wp2_with fail
      go_ret
      exact ⟨ret_bool HF.out, HQp.out _ hq⟩
end Go.Proofs.YtiknjkgioiknnaaDoor
