/- Package join: joined; rows of steps; Steps; the document's own Steps. -/
import Derived.Test.YtlfpkileblmhoaaGreatDoorQJoinB
import Derived.Test.YtlfpkileblmhoaaGreatDoorQC
namespace Go.Proofs.YtlfpkileblmhoaaGreatDoor
open Go.RowKit Go.Shelf
set_option linter.unusedVariables false
set_option linter.unusedSimpArgs false

/-- append(v, x), v a row of steps of the call's own, nil or not. -/
theorem append_step (base n : Nat) (v : Value) (xs : List Value) (x : Int × Int × Int) (w : World) (a : Nat) (hown : w.ownsRow base 50 3 v n xs) (hc : Whole w a 50 (stpCells x)) (hn : n ≤ 1000) (hbase : base ≤ w.heap.size) :
    ∃ v' w', (Builtin.append_ #[30, 30] 30 #[v, .slice (some ⟨a, 0, none⟩) 1 1]).run Tryz.prog w = .ok v' w' ∧ w'.ownsRow base 50 3 v' (n + 1) (xs ++ stpCells x) ∧ Below base w w' := by
  obtain ⟨i, i1, i2, i3, i4⟩ := info_parts infoStep
  obtain ⟨v', w', r1, r2, r3, r4, r5⟩ := run_append_own_at (P := Tryz.prog) w base 30 30 50 i (.agg #[.int .i64 0, .int .i64 0, .int .i64 0]) 3 24 Tryz.underlying30 i1 i2 i3 i4 rfl (by omega) v n xs hown ⟨a, 0, none⟩ 1 1 (stpCells x) rfl (row_add (hc.row hc.lt)) (oneStep x) (by unfold maxLen; omega) (by omega) hbase
  exact ⟨v', w', r1, r2, (Below.refl base w).grown r3 hbase (fun k e => (hown.lt k e).1)⟩
/-- What is owned, of elements of k cells, is owned in whatever grows out of the world; read as a slice. -/
theorem ownsS_keep {w w' : World} {base e n k : Nat} {v : Value} {xs : List Value} (h : w.ownsRow base e k v n xs) (hb : Below w.heap.size w w') : w'.ownsRow base e k v n xs := by
  refine ⟨h.1, ?_⟩
  rcases h.2 with h2 | ⟨g', cap', cur, hv, h3, h4, r⟩
  · exact .inl h2
  · exact .inr ⟨g', cap', cur, hv, h3, (hb.block g' (Array.getElem?_eq_some_iff.1 h4).1).trans h4, r⟩
theorem ownsS_slice {w : World} {base e n : Nat} {v : Value} {xs : List Value} (h : w.ownsRow base e 3 v n xs) : ∃ A c, v = .slice A n c ∧ Row w w.heap.size A xs ∧ n ≤ c := by
  rcases h.2 with ⟨rfl, rfl⟩ | ⟨g, cap, cur, rfl, hg, _, hn, _⟩
  · have : xs = [] := List.eq_nil_of_length_eq_zero (by have := h.1; omega)
    subst this
    exact ⟨none, 0, rfl, Row.nil _ _ _, Nat.le_refl _⟩
  · exact ⟨_, cap, rfl, owns_row2 h, hn⟩
/-- To which ports ways go from i in a section of kind k; the steps on. -/
def outsK (k i : Int) : List Int := outsTo (nK k) 0 (bK k) (cK k) (dK k) i (pK k).toNat
theorem outsK_no (i : Int) : outsK 0 i = [] := rfl
theorem outsK_le (k i : Int) : (outsK k i).length ≤ 4 := Nat.le_trans (outsTo_le _ _ _ _ _ _ _) (by have := pK_le4 k; omega)
def onward (q : Int × Int) (o : Int) : Int × Int × Int := (q.1, q.2, o)
def stepsV (l : Lay) (s p : Int) : List (Int × Int × Int) := (outsK (atV l (beyondV l s p).1 (beyondV l s p).2).k (beyondV l s p).2).map (onward (beyondV l s p))
theorem steps_cells {q : Int × Int} {os : List Int} {j : Nat} {o : Int} (h : os[j]? = some o) : ((os.take (j + 1)).map (onward q)).flatMap stpCells = ((os.take j).map (onward q)).flatMap stpCells ++ stpCells (onward q o) := by
  rw [List.take_add_one, h, List.map_append, List.flatMap_append]
  simp
theorem steps_len {q : Int × Int} {os : List Int} {j : Nat} (h : j ≤ os.length) : ((os.take j).map (onward q)).length = j := by rw [List.length_map, List.length_take]; omega
theorem atV_range {l : Lay} {w : World} (hl : Lies l w) (s p : Int) : 0 ≤ (atV l s p).k ∧ (atV l s p).k ≤ 255 := by
  cases h : thereV l s p
  · rw [atV_no h]; exact ⟨Int.le_refl _, by show (0 : Int) ≤ 255; omega⟩
  · rw [atV_kind h]; exact kindV_range hl s

section
variable {P : World → Prop} {w : World}
set_option maxRecDepth 100000 in
set_option maxHeartbeats 8000000 in
theorem joined_P (hP : Closed P) (hT : ∀ w, P w → Shapes w) {l : Lay} (hL : ∀ w, P w → Lies l w) (s p : Int) {r : Bool} (hr : joinedP l s p = r) (h : P w) :
    Calls Tryz.prog 133 #[l.val, prtV s p] w fun e w' => e = .returned (.bool r) ∧ P w' := by
  obtain ⟨Q0, HQ0, HQ0p, HQ0l, HQ0v, hq⟩ := keep_box2 hP h 29 46 l.cells (prtCells (s, p))
  obtain ⟨⟨qs, qq⟩, hqv⟩ : ∃ q, beyondV l s p = q := ⟨_, rfl⟩
  have KB := Lib.hid (fun W hW => beyond_P (P := Q0) (w := W) HQ0.out (fun W hW => hT _ (HQ0p.out _ hW)) (fun W hW => hL _ (HQ0p.out _ hW)) s p hqv hW)
  unfold joinedP at hr
  rw [hqv] at hr
  simp only at hr
  obtain ⟨⟨rs, rq⟩, hrv⟩ : ∃ q, beyondV l qs qq = q := ⟨_, rfl⟩
  rw [hrv] at hr
  simp only at hr
  have HT := Lib.hid (fun W hW => hT W (HQ0p.out W hW))
  have HL := Lib.hid (fun W hW => hL W (HQ0p.out W hW))
  have HR := Lib.hid hr
  clear h hqv hr hT hL hP
  go_enter Tryz.func133, Tryz.ntmps133
  have v0 := (HQ0v.out _ hq).cell_at 0 rfl
  have v1 := (HQ0v.out _ hq).cell_at 1 rfl
  have m0 := HQ0l.out _ hq
  have x0 := m0.cell_at 0 rfl
  have x1 := m0.cell_at 1 rfl
  have x2 := m0.cell_at 2 rfl
  have x3 := m0.cell_at 3 rfl
  have x4 := m0.cell_at 4 rfl
  have x5 := m0.cell_at 5 rfl
  have x6 := m0.cell_at 6 rfl
  have x7 := m0.cell_at 7 rfl
  have x8 := m0.cell_at 8 rfl
  have x9 := m0.cell_at 9 rfl
  have x10 := m0.cell_at 10 rfl
  clear m0
  go_wp2_with fail
  refine (KB.out _ hq).mono ?_
  clear x0 x1 x2 x3 x4 x5 x6 x7 x8 x9 x10 v0 v1 hq KB
  rintro e w1 ⟨rfl, hq0⟩
  obtain ⟨Q, HQ, HQp, HQr, hq⟩ := keep_boxV HQ0.out hq0 46 (prtCells (qs, qq))
  have HQl := Lib.hid (fun W hW => HQ0l.out W (HQp.out W hW))
  have HQv := Lib.hid (fun W hW => HQ0v.out W (HQp.out W hW))
  have KE := Lib.hid (fun (W : World) (hW : Q W) => trackEndJ_B W)
  have KB := Lib.hid (fun W hW => beyond_B (w := W) (HT.out W (HQp.out W hW)) (HL.out W (HQp.out W hW)) qs qq hrv)
  clear HT HL hq0 hrv
  have v0 := (HQv.out _ hq).cell_at 0 rfl
  have v1 := (HQv.out _ hq).cell_at 1 rfl
  have r0 := (HQr.out _ hq).cell_at 0 rfl
  have r1 := (HQr.out _ hq).cell_at 1 rfl
  have m0 := HQl.out _ hq
  have x0 := m0.cell_at 0 rfl
  have x1 := m0.cell_at 1 rfl
  have x2 := m0.cell_at 2 rfl
  have x3 := m0.cell_at 3 rfl
  have x4 := m0.cell_at 4 rfl
  have x5 := m0.cell_at 5 rfl
  have x6 := m0.cell_at 6 rfl
  have x7 := m0.cell_at 7 rfl
  have x8 := m0.cell_at 8 rfl
  have x9 := m0.cell_at 9 rfl
  have x10 := m0.cell_at 10 rfl
  clear m0
  clear r0 r1 v0 v1 x0 x1 x2 x3 x4 x5 x6 x7 x8 x9 x10
  by_cases h1 : qs = -1 ∧ qq = 0
  · obtain ⟨rfl, rfl⟩ := h1
    go_wp2_with fail
    have HBS : Hid (∀ W, Below (w1.alloc (.cells (prtCells (-1, 0)).toArray 46)).heap.size (w1.alloc (.cells (prtCells (-1, 0)).toArray 46)) W → Q W) := Lib.hid (fun W hB => HQ.out _ _ hq hB)
    clear hq
    refine region_mix (Below (w1.alloc (.cells (prtCells (-1, 0)).toArray 46)).heap.size (w1.alloc (.cells (prtCells (-1, 0)).toArray 46))) [(0, false), (1, false), (2, false), (3, false), (4, false), (5, false), (6, false), (7, false), (8, false), (9, false), (10, false), (11, false), (12, false), (13, false), (14, false), (15, false), (16, false), (17, false)] (by kernel_rfl) (by kernel_rfl) (Below (w1.alloc (.cells (prtCells (-1, 0)).toArray 46)).heap.size (w1.alloc (.cells (prtCells (-1, 0)).toArray 46))) ⟨Closed.below (w1.alloc (.cells (prtCells (-1, 0)).toArray 46)), fun _ h => h⟩ (Below.refl _ _).drew ?_
    simp only [pickOps, List.getElem?_cons_zero, List.getElem?_cons_succ]
    repeat (first | (refine mix_skip (by rfl) ?_; simp only [Act.put, List.setIfInBounds_toArray, List.set_cons_zero, List.set_cons_succ]) | (refine mix_read _ (by rfl) (fun W hW => by (have hW := HBS.out W hW; have m0 := HQl.out _ hW; have x0 := m0.cell_at 0 rfl; have x1 := m0.cell_at 1 rfl; have x2 := m0.cell_at 2 rfl; have x3 := m0.cell_at 3 rfl; have x4 := m0.cell_at 4 rfl; have x5 := m0.cell_at 5 rfl; have x6 := m0.cell_at 6 rfl; have x7 := m0.cell_at 7 rfl; have x8 := m0.cell_at 8 rfl; have x9 := m0.cell_at 9 rfl; have x10 := m0.cell_at 10 rfl; clear m0; have m1 := HQv.out _ hW; have v0 := m1.cell_at 0 rfl; have v1 := m1.cell_at 1 rfl; clear m1; have m2 := HQr.out _ hW; have r0 := m2.cell_at 0 rfl; have r1 := m2.cell_at 1 rfl; clear m2; go_simp; first | done | with_reducible rfl)) ?_; simp only [Act.put, List.setIfInBounds_toArray, List.set_cons_zero, List.set_cons_succ]) | (refine mix_call _ _ _ (by rfl) (fun W hW => by (have hW := HBS.out W hW; have m0 := HQl.out _ hW; have x0 := m0.cell_at 0 rfl; have x1 := m0.cell_at 1 rfl; have x2 := m0.cell_at 2 rfl; have x3 := m0.cell_at 3 rfl; have x4 := m0.cell_at 4 rfl; have x5 := m0.cell_at 5 rfl; have x6 := m0.cell_at 6 rfl; have x7 := m0.cell_at 7 rfl; have x8 := m0.cell_at 8 rfl; have x9 := m0.cell_at 9 rfl; have x10 := m0.cell_at 10 rfl; clear m0; have m1 := HQv.out _ hW; have v0 := m1.cell_at 0 rfl; have v1 := m1.cell_at 1 rfl; clear m1; have m2 := HQr.out _ hW; have r0 := m2.cell_at 0 rfl; have r1 := m2.cell_at 1 rfl; clear m2; go_simp; first | done | rfl)) (fun W hW => KE.out W (HBS.out W hW)) ?_; simp only [Act.put, List.setIfInBounds_toArray, List.set_cons_zero, List.set_cons_succ]) | (refine mix_call _ _ _ (by rfl) (fun W hW => by (have hW := HBS.out W hW; have m0 := HQl.out _ hW; have x0 := m0.cell_at 0 rfl; have x1 := m0.cell_at 1 rfl; have x2 := m0.cell_at 2 rfl; have x3 := m0.cell_at 3 rfl; have x4 := m0.cell_at 4 rfl; have x5 := m0.cell_at 5 rfl; have x6 := m0.cell_at 6 rfl; have x7 := m0.cell_at 7 rfl; have x8 := m0.cell_at 8 rfl; have x9 := m0.cell_at 9 rfl; have x10 := m0.cell_at 10 rfl; clear m0; have m1 := HQv.out _ hW; have v0 := m1.cell_at 0 rfl; have v1 := m1.cell_at 1 rfl; clear m1; have m2 := HQr.out _ hW; have r0 := m2.cell_at 0 rfl; have r1 := m2.cell_at 1 rfl; clear m2; go_simp; first | done | rfl)) (fun W hW => KB.out W (HBS.out W hW)) ?_; simp only [Act.put, List.setIfInBounds_toArray, List.set_cons_zero, List.set_cons_succ]))
    refine mix_nil (fun W hW => ?_)
    have hq := HBS.out W hW
    clear hW HBS
    go_wp2_with fail
    go_ret
    exact ⟨ret_bool (by rw [← HR.out]; rfl), HQ0p.out _ (HQp.out _ hq)⟩
  have H1 : Hid (qs = -1 → ¬ qq = 0) := Lib.hid fun e f => h1 ⟨e, f⟩
  clear h1
  by_cases h2 : qs = s
  · subst h2
    go_wp2_with fail
    have HBS : Hid (∀ W, Below (w1.alloc (.cells (prtCells (qs, qq)).toArray 46)).heap.size (w1.alloc (.cells (prtCells (qs, qq)).toArray 46)) W → Q W) := Lib.hid (fun W hB => HQ.out _ _ hq hB)
    clear hq
    refine region_mix (Below (w1.alloc (.cells (prtCells (qs, qq)).toArray 46)).heap.size (w1.alloc (.cells (prtCells (qs, qq)).toArray 46))) [(0, false), (1, false), (2, false), (3, false), (4, false), (5, false), (6, false), (7, false), (8, false), (9, false), (10, false), (11, false), (12, false), (13, false), (14, false), (15, false), (16, false), (17, false)] (by kernel_rfl) (by kernel_rfl) (Below (w1.alloc (.cells (prtCells (qs, qq)).toArray 46)).heap.size (w1.alloc (.cells (prtCells (qs, qq)).toArray 46))) ⟨Closed.below (w1.alloc (.cells (prtCells (qs, qq)).toArray 46)), fun _ h => h⟩ (Below.refl _ _).drew ?_
    simp only [pickOps, List.getElem?_cons_zero, List.getElem?_cons_succ]
    repeat (first | (refine mix_read (.bool false) (by rfl) (fun W hW => by (have hW := HBS.out W hW; have m0 := HQl.out _ hW; have x0 := m0.cell_at 0 rfl; have x1 := m0.cell_at 1 rfl; have x2 := m0.cell_at 2 rfl; have x3 := m0.cell_at 3 rfl; have x4 := m0.cell_at 4 rfl; have x5 := m0.cell_at 5 rfl; have x6 := m0.cell_at 6 rfl; have x7 := m0.cell_at 7 rfl; have x8 := m0.cell_at 8 rfl; have x9 := m0.cell_at 9 rfl; have x10 := m0.cell_at 10 rfl; clear m0; have m1 := HQv.out _ hW; have v0 := m1.cell_at 0 rfl; have v1 := m1.cell_at 1 rfl; clear m1; have m2 := HQr.out _ hW; have r0 := m2.cell_at 0 rfl; have r1 := m2.cell_at 1 rfl; clear m2; have d1 := H1.out; go_simp; first | done | exact d1)) ?_; simp only [Act.put, List.setIfInBounds_toArray, List.set_cons_zero, List.set_cons_succ]) | (refine mix_skip (by rfl) ?_; simp only [Act.put, List.setIfInBounds_toArray, List.set_cons_zero, List.set_cons_succ]) | (refine mix_read _ (by rfl) (fun W hW => by (have hW := HBS.out W hW; have m0 := HQl.out _ hW; have x0 := m0.cell_at 0 rfl; have x1 := m0.cell_at 1 rfl; have x2 := m0.cell_at 2 rfl; have x3 := m0.cell_at 3 rfl; have x4 := m0.cell_at 4 rfl; have x5 := m0.cell_at 5 rfl; have x6 := m0.cell_at 6 rfl; have x7 := m0.cell_at 7 rfl; have x8 := m0.cell_at 8 rfl; have x9 := m0.cell_at 9 rfl; have x10 := m0.cell_at 10 rfl; clear m0; have m1 := HQv.out _ hW; have v0 := m1.cell_at 0 rfl; have v1 := m1.cell_at 1 rfl; clear m1; have m2 := HQr.out _ hW; have r0 := m2.cell_at 0 rfl; have r1 := m2.cell_at 1 rfl; clear m2; have d1 := H1.out; go_simp; first | done | with_reducible rfl)) ?_; simp only [Act.put, List.setIfInBounds_toArray, List.set_cons_zero, List.set_cons_succ]) | (refine mix_call _ _ _ (by rfl) (fun W hW => by (have hW := HBS.out W hW; have m0 := HQl.out _ hW; have x0 := m0.cell_at 0 rfl; have x1 := m0.cell_at 1 rfl; have x2 := m0.cell_at 2 rfl; have x3 := m0.cell_at 3 rfl; have x4 := m0.cell_at 4 rfl; have x5 := m0.cell_at 5 rfl; have x6 := m0.cell_at 6 rfl; have x7 := m0.cell_at 7 rfl; have x8 := m0.cell_at 8 rfl; have x9 := m0.cell_at 9 rfl; have x10 := m0.cell_at 10 rfl; clear m0; have m1 := HQv.out _ hW; have v0 := m1.cell_at 0 rfl; have v1 := m1.cell_at 1 rfl; clear m1; have m2 := HQr.out _ hW; have r0 := m2.cell_at 0 rfl; have r1 := m2.cell_at 1 rfl; clear m2; have d1 := H1.out; go_simp; first | done | rfl)) (fun W hW => KE.out W (HBS.out W hW)) ?_; simp only [Act.put, List.setIfInBounds_toArray, List.set_cons_zero, List.set_cons_succ]) | (refine mix_call _ _ _ (by rfl) (fun W hW => by (have hW := HBS.out W hW; have m0 := HQl.out _ hW; have x0 := m0.cell_at 0 rfl; have x1 := m0.cell_at 1 rfl; have x2 := m0.cell_at 2 rfl; have x3 := m0.cell_at 3 rfl; have x4 := m0.cell_at 4 rfl; have x5 := m0.cell_at 5 rfl; have x6 := m0.cell_at 6 rfl; have x7 := m0.cell_at 7 rfl; have x8 := m0.cell_at 8 rfl; have x9 := m0.cell_at 9 rfl; have x10 := m0.cell_at 10 rfl; clear m0; have m1 := HQv.out _ hW; have v0 := m1.cell_at 0 rfl; have v1 := m1.cell_at 1 rfl; clear m1; have m2 := HQr.out _ hW; have r0 := m2.cell_at 0 rfl; have r1 := m2.cell_at 1 rfl; clear m2; have d1 := H1.out; go_simp; first | done | rfl)) (fun W hW => KB.out W (HBS.out W hW)) ?_; simp only [Act.put, List.setIfInBounds_toArray, List.set_cons_zero, List.set_cons_succ]))
    refine mix_nil (fun W hW => ?_)
    have hq := HBS.out W hW
    clear hW HBS
    go_wp2_with fail
    go_ret
    exact ⟨ret_bool (by rw [← HR.out]; have := H1.out; simp; exact this), HQ0p.out _ (HQp.out _ hq)⟩
  · have H2 : Hid ((qs != s) = true) := Lib.hid (by simp [h2])
    have H3 := Lib.hid h2
    clear h2
    by_cases h3 : rs = s ∧ rq = p
    · obtain ⟨rfl, rfl⟩ := h3
      go_wp2_with fail
      have HBS : Hid (∀ W, Below (w1.alloc (.cells (prtCells (qs, qq)).toArray 46)).heap.size (w1.alloc (.cells (prtCells (qs, qq)).toArray 46)) W → Q W) := Lib.hid (fun W hB => HQ.out _ _ hq hB)
      clear hq
      refine region_mix (Below (w1.alloc (.cells (prtCells (qs, qq)).toArray 46)).heap.size (w1.alloc (.cells (prtCells (qs, qq)).toArray 46))) [(0, false), (1, false), (2, false), (3, false), (4, false), (5, false), (6, false), (7, false), (8, false), (9, false), (10, false), (11, false), (12, false), (13, false), (14, false), (15, false), (16, false), (17, false)] (by kernel_rfl) (by kernel_rfl) (Below (w1.alloc (.cells (prtCells (qs, qq)).toArray 46)).heap.size (w1.alloc (.cells (prtCells (qs, qq)).toArray 46))) ⟨Closed.below (w1.alloc (.cells (prtCells (qs, qq)).toArray 46)), fun _ h => h⟩ (Below.refl _ _).drew ?_
      simp only [pickOps, List.getElem?_cons_zero, List.getElem?_cons_succ]
      repeat (first | (refine mix_read (.bool false) (by rfl) (fun W hW => by (have hW := HBS.out W hW; have m0 := HQl.out _ hW; have x0 := m0.cell_at 0 rfl; have x1 := m0.cell_at 1 rfl; have x2 := m0.cell_at 2 rfl; have x3 := m0.cell_at 3 rfl; have x4 := m0.cell_at 4 rfl; have x5 := m0.cell_at 5 rfl; have x6 := m0.cell_at 6 rfl; have x7 := m0.cell_at 7 rfl; have x8 := m0.cell_at 8 rfl; have x9 := m0.cell_at 9 rfl; have x10 := m0.cell_at 10 rfl; clear m0; have m1 := HQv.out _ hW; have v0 := m1.cell_at 0 rfl; have v1 := m1.cell_at 1 rfl; clear m1; have m2 := HQr.out _ hW; have r0 := m2.cell_at 0 rfl; have r1 := m2.cell_at 1 rfl; clear m2; have d1 := H1.out; have d2 := H2.out; go_simp; first | done | exact d1)) ?_; simp only [Act.put, List.setIfInBounds_toArray, List.set_cons_zero, List.set_cons_succ]) | (refine mix_skip (by rfl) ?_; simp only [Act.put, List.setIfInBounds_toArray, List.set_cons_zero, List.set_cons_succ]) | (refine mix_read _ (by rfl) (fun W hW => by (have hW := HBS.out W hW; have m0 := HQl.out _ hW; have x0 := m0.cell_at 0 rfl; have x1 := m0.cell_at 1 rfl; have x2 := m0.cell_at 2 rfl; have x3 := m0.cell_at 3 rfl; have x4 := m0.cell_at 4 rfl; have x5 := m0.cell_at 5 rfl; have x6 := m0.cell_at 6 rfl; have x7 := m0.cell_at 7 rfl; have x8 := m0.cell_at 8 rfl; have x9 := m0.cell_at 9 rfl; have x10 := m0.cell_at 10 rfl; clear m0; have m1 := HQv.out _ hW; have v0 := m1.cell_at 0 rfl; have v1 := m1.cell_at 1 rfl; clear m1; have m2 := HQr.out _ hW; have r0 := m2.cell_at 0 rfl; have r1 := m2.cell_at 1 rfl; clear m2; have d1 := H1.out; have d2 := H2.out; go_simp; first | done | with_reducible rfl)) ?_; simp only [Act.put, List.setIfInBounds_toArray, List.set_cons_zero, List.set_cons_succ]) | (refine mix_call _ _ _ (by rfl) (fun W hW => by (have hW := HBS.out W hW; have m0 := HQl.out _ hW; have x0 := m0.cell_at 0 rfl; have x1 := m0.cell_at 1 rfl; have x2 := m0.cell_at 2 rfl; have x3 := m0.cell_at 3 rfl; have x4 := m0.cell_at 4 rfl; have x5 := m0.cell_at 5 rfl; have x6 := m0.cell_at 6 rfl; have x7 := m0.cell_at 7 rfl; have x8 := m0.cell_at 8 rfl; have x9 := m0.cell_at 9 rfl; have x10 := m0.cell_at 10 rfl; clear m0; have m1 := HQv.out _ hW; have v0 := m1.cell_at 0 rfl; have v1 := m1.cell_at 1 rfl; clear m1; have m2 := HQr.out _ hW; have r0 := m2.cell_at 0 rfl; have r1 := m2.cell_at 1 rfl; clear m2; have d1 := H1.out; have d2 := H2.out; go_simp; first | done | rfl)) (fun W hW => KE.out W (HBS.out W hW)) ?_; simp only [Act.put, List.setIfInBounds_toArray, List.set_cons_zero, List.set_cons_succ]) | (refine mix_call _ _ _ (by rfl) (fun W hW => by (have hW := HBS.out W hW; have m0 := HQl.out _ hW; have x0 := m0.cell_at 0 rfl; have x1 := m0.cell_at 1 rfl; have x2 := m0.cell_at 2 rfl; have x3 := m0.cell_at 3 rfl; have x4 := m0.cell_at 4 rfl; have x5 := m0.cell_at 5 rfl; have x6 := m0.cell_at 6 rfl; have x7 := m0.cell_at 7 rfl; have x8 := m0.cell_at 8 rfl; have x9 := m0.cell_at 9 rfl; have x10 := m0.cell_at 10 rfl; clear m0; have m1 := HQv.out _ hW; have v0 := m1.cell_at 0 rfl; have v1 := m1.cell_at 1 rfl; clear m1; have m2 := HQr.out _ hW; have r0 := m2.cell_at 0 rfl; have r1 := m2.cell_at 1 rfl; clear m2; have d1 := H1.out; have d2 := H2.out; go_simp; first | done | rfl)) (fun W hW => KB.out W (HBS.out W hW)) ?_; simp only [Act.put, List.setIfInBounds_toArray, List.set_cons_zero, List.set_cons_succ]))
      refine mix_nil (fun W hW => ?_)
      have hq := HBS.out W hW
      clear hW HBS
      go_wp2_with fail
      go_ret
      exact ⟨ret_bool (by rw [← HR.out]; have e := H3.out; simp [e]), HQ0p.out _ (HQp.out _ hq)⟩
    · have H4 : Hid (rs = s → ¬ rq = p) := Lib.hid fun e f => h3 ⟨e, f⟩
      clear h3
      go_wp2_with fail
      have HBS : Hid (∀ W, Below (w1.alloc (.cells (prtCells (qs, qq)).toArray 46)).heap.size (w1.alloc (.cells (prtCells (qs, qq)).toArray 46)) W → Q W) := Lib.hid (fun W hB => HQ.out _ _ hq hB)
      clear hq
      refine region_mix (Below (w1.alloc (.cells (prtCells (qs, qq)).toArray 46)).heap.size (w1.alloc (.cells (prtCells (qs, qq)).toArray 46))) [(0, false), (1, false), (2, false), (3, false), (4, false), (5, false), (6, false), (7, false), (8, false), (9, false), (10, false), (11, false), (12, false), (13, false), (14, false), (15, false), (16, false), (17, false)] (by kernel_rfl) (by kernel_rfl) (Below (w1.alloc (.cells (prtCells (qs, qq)).toArray 46)).heap.size (w1.alloc (.cells (prtCells (qs, qq)).toArray 46))) ⟨Closed.below (w1.alloc (.cells (prtCells (qs, qq)).toArray 46)), fun _ h => h⟩ (Below.refl _ _).drew ?_
      simp only [pickOps, List.getElem?_cons_zero, List.getElem?_cons_succ]
      repeat (first | (refine mix_read (.bool false) (by rfl) (fun W hW => by (have hW := HBS.out W hW; have m0 := HQl.out _ hW; have x0 := m0.cell_at 0 rfl; have x1 := m0.cell_at 1 rfl; have x2 := m0.cell_at 2 rfl; have x3 := m0.cell_at 3 rfl; have x4 := m0.cell_at 4 rfl; have x5 := m0.cell_at 5 rfl; have x6 := m0.cell_at 6 rfl; have x7 := m0.cell_at 7 rfl; have x8 := m0.cell_at 8 rfl; have x9 := m0.cell_at 9 rfl; have x10 := m0.cell_at 10 rfl; clear m0; have m1 := HQv.out _ hW; have v0 := m1.cell_at 0 rfl; have v1 := m1.cell_at 1 rfl; clear m1; have m2 := HQr.out _ hW; have r0 := m2.cell_at 0 rfl; have r1 := m2.cell_at 1 rfl; clear m2; have d1 := H1.out; have d2 := H2.out; have d3 := H4.out; go_simp; first | done | exact d1 | exact d3)) ?_; simp only [Act.put, List.setIfInBounds_toArray, List.set_cons_zero, List.set_cons_succ]) | (refine mix_skip (by rfl) ?_; simp only [Act.put, List.setIfInBounds_toArray, List.set_cons_zero, List.set_cons_succ]) | (refine mix_read _ (by rfl) (fun W hW => by (have hW := HBS.out W hW; have m0 := HQl.out _ hW; have x0 := m0.cell_at 0 rfl; have x1 := m0.cell_at 1 rfl; have x2 := m0.cell_at 2 rfl; have x3 := m0.cell_at 3 rfl; have x4 := m0.cell_at 4 rfl; have x5 := m0.cell_at 5 rfl; have x6 := m0.cell_at 6 rfl; have x7 := m0.cell_at 7 rfl; have x8 := m0.cell_at 8 rfl; have x9 := m0.cell_at 9 rfl; have x10 := m0.cell_at 10 rfl; clear m0; have m1 := HQv.out _ hW; have v0 := m1.cell_at 0 rfl; have v1 := m1.cell_at 1 rfl; clear m1; have m2 := HQr.out _ hW; have r0 := m2.cell_at 0 rfl; have r1 := m2.cell_at 1 rfl; clear m2; have d1 := H1.out; have d2 := H2.out; have d3 := H4.out; go_simp; first | done | with_reducible rfl)) ?_; simp only [Act.put, List.setIfInBounds_toArray, List.set_cons_zero, List.set_cons_succ]) | (refine mix_call _ _ _ (by rfl) (fun W hW => by (have hW := HBS.out W hW; have m0 := HQl.out _ hW; have x0 := m0.cell_at 0 rfl; have x1 := m0.cell_at 1 rfl; have x2 := m0.cell_at 2 rfl; have x3 := m0.cell_at 3 rfl; have x4 := m0.cell_at 4 rfl; have x5 := m0.cell_at 5 rfl; have x6 := m0.cell_at 6 rfl; have x7 := m0.cell_at 7 rfl; have x8 := m0.cell_at 8 rfl; have x9 := m0.cell_at 9 rfl; have x10 := m0.cell_at 10 rfl; clear m0; have m1 := HQv.out _ hW; have v0 := m1.cell_at 0 rfl; have v1 := m1.cell_at 1 rfl; clear m1; have m2 := HQr.out _ hW; have r0 := m2.cell_at 0 rfl; have r1 := m2.cell_at 1 rfl; clear m2; have d1 := H1.out; have d2 := H2.out; have d3 := H4.out; go_simp; first | done | rfl)) (fun W hW => KE.out W (HBS.out W hW)) ?_; simp only [Act.put, List.setIfInBounds_toArray, List.set_cons_zero, List.set_cons_succ]) | (refine mix_call _ _ _ (by rfl) (fun W hW => by (have hW := HBS.out W hW; have m0 := HQl.out _ hW; have x0 := m0.cell_at 0 rfl; have x1 := m0.cell_at 1 rfl; have x2 := m0.cell_at 2 rfl; have x3 := m0.cell_at 3 rfl; have x4 := m0.cell_at 4 rfl; have x5 := m0.cell_at 5 rfl; have x6 := m0.cell_at 6 rfl; have x7 := m0.cell_at 7 rfl; have x8 := m0.cell_at 8 rfl; have x9 := m0.cell_at 9 rfl; have x10 := m0.cell_at 10 rfl; clear m0; have m1 := HQv.out _ hW; have v0 := m1.cell_at 0 rfl; have v1 := m1.cell_at 1 rfl; clear m1; have m2 := HQr.out _ hW; have r0 := m2.cell_at 0 rfl; have r1 := m2.cell_at 1 rfl; clear m2; have d1 := H1.out; have d2 := H2.out; have d3 := H4.out; go_simp; first | done | rfl)) (fun W hW => KB.out W (HBS.out W hW)) ?_; simp only [Act.put, List.setIfInBounds_toArray, List.set_cons_zero, List.set_cons_succ]))
      refine mix_nil (fun W hW => ?_)
      have hq := HBS.out W hW
      clear hW HBS
      go_wp2_with fail
      go_ret
      exact ⟨ret_bool (by rw [← HR.out]; have d := H1.out; have e := H4.out; simp; exact ⟨d, fun _ => e⟩), HQ0p.out _ (HQp.out _ hq)⟩

end
end Go.Proofs.YtlfpkileblmhoaaGreatDoor
