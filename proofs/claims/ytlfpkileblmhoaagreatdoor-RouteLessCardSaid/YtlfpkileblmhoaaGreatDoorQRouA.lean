/- Package route: within, enters, leaves, Same, Own, Through; the document's own Steps, Same, Through. -/
import Derived.Deep.CutRange
import Derived.BigQuiet
import Derived.Test.YtlfpkileblmhoaaGreatDoorQF
import Derived.Test.YtlfpkileblmhoaaGreatDoorQB
import Derived.Test.YtlfpkileblmhoaaGreatDoorQC
import Derived.Test.YtlfpkileblmhoaaGreatDoorQLayTellsM
namespace Go.Proofs.YtlfpkileblmhoaaGreatDoor
open Go.RowKit Go.Shelf
set_option linter.unusedVariables false
set_option linter.unusedSimpArgs false

set_option maxRecDepth 100000 in
set_option maxHeartbeats 8000000 in
theorem within11_any (n m : Int) {r : Bool} (hr : (decide (0 ≤ n) && decide (n < m)) = r) (w : World) : Calls Tryz.prog 48 #[.int .i64 n, .int .i64 m] w fun e w' => e = .returned (.bool r) ∧ Below w.heap.size w w' := by
  subst hr
  by_cases h : 0 ≤ n
  · have h1 : decide (0 ≤ n) = true := decide_eq_true h
    go_enter Tryz.func48, Tryz.ntmps48
    go_wp2_with fail
    go_ret
    exact ⟨ret_bool (by first | (rw [h1]; rfl) | rfl | simp [h]), Below.refl _ _⟩
  · have h1 : decide (0 ≤ n) = false := decide_eq_false h
    go_enter Tryz.func48, Tryz.ntmps48
    go_wp2_with fail
    go_ret
    exact ⟨ret_bool (by first | (rw [h1]; rfl) | rfl | simp [h]), Below.refl _ _⟩

set_option maxRecDepth 100000 in
set_option maxHeartbeats 8000000 in
theorem enters11_any (a b c : Int) (w : World) : Calls Tryz.prog 38 #[stpV a b c] w fun e w' => e = .returned (prtV a b) ∧ Below w.heap.size w w' := by
  have hv := (Whole.new w 50 (stpCells (a, b, c))).alloc (.cells #[.int .i64 0, .int .i64 0] 46)
  have hWo := Whole.new_at (w.alloc (.cells #[.int .i64 a, .int .i64 b, .int .i64 c] 50)) 46 [.int .i64 a, .int .i64 b] (w.heap.size + 1) (by simp)
  have hv0 := (Whole.new w 50 (stpCells (a, b, c))).alloc (.cells #[.int .i64 a, .int .i64 b] 46)
  have v0 := hv.cell_at 0 rfl
  have v1 := hv.cell_at 1 rfl
  have v2 := hv.cell_at 2 rfl
  have hBo := below2 w (.cells #[.int .i64 a, .int .i64 b, .int .i64 c] 50) (.cells #[.int .i64 a, .int .i64 b] 46)
  clear hv hv0
  go_enter Tryz.func38, Tryz.ntmps38
  go_wp2_with fail
  have e0 := hWo.cell_at 0 rfl
  have e1 := hWo.cell_at 1 rfl
  refine bodyPost_ret (v := prtV a b) ?_ rfl ⟨rfl, hBo⟩
  simp [results, Tryz.f38, go_sem, e0, e1]

set_option maxRecDepth 100000 in
set_option maxHeartbeats 8000000 in
theorem leaves11_any (a b c : Int) (w : World) : Calls Tryz.prog 37 #[stpV a b c] w fun e w' => e = .returned (prtV a c) ∧ Below w.heap.size w w' := by
  have hv := (Whole.new w 50 (stpCells (a, b, c))).alloc (.cells #[.int .i64 0, .int .i64 0] 46)
  have hWo := Whole.new_at (w.alloc (.cells #[.int .i64 a, .int .i64 b, .int .i64 c] 50)) 46 [.int .i64 a, .int .i64 c] (w.heap.size + 1) (by simp)
  have hv0 := (Whole.new w 50 (stpCells (a, b, c))).alloc (.cells #[.int .i64 a, .int .i64 c] 46)
  have v0 := hv.cell_at 0 rfl
  have v1 := hv.cell_at 1 rfl
  have v2 := hv.cell_at 2 rfl
  have hBo := below2 w (.cells #[.int .i64 a, .int .i64 b, .int .i64 c] 50) (.cells #[.int .i64 a, .int .i64 c] 46)
  clear hv hv0
  go_enter Tryz.func37, Tryz.ntmps37
  go_wp2_with fail
  have e0 := hWo.cell_at 0 rfl
  have e1 := hWo.cell_at 1 rfl
  refine bodyPost_ret (v := prtV a c) ?_ rfl ⟨rfl, hBo⟩
  simp [results, Tryz.f37, go_sem, e0, e1]

section
variable {P : World → Prop} {w : World}
set_option maxRecDepth 100000 in
set_option maxHeartbeats 8000000 in
theorem stepsR11_P (hP : Closed P) {a b : List (Int × Int × Int)} {A B : Option Addr} (ca cb : Nat) (hA : ∀ w, P w → Row w w.heap.size A (a.flatMap stpCells)) (hB : ∀ w, P w → Row w w.heap.size B (b.flatMap stpCells)) (hn : (a.length : Int) ≤ 9223372036854775807) {r : Bool} (hr : decide (a = b) = r) (h : P w) :
    Calls Tryz.prog 39 #[.slice A a.length ca, .slice B b.length cb] w fun e w' => e = .returned (.bool r) ∧ P w' := by
  have HR := Lib.hid hr
  have HQ := Lib.hid hP
  have HA0 := Lib.hid hA
  have HB0 := Lib.hid hB
  have hq := h
  clear hr hP hA hB h
  by_cases hlen : a.length = b.length
  · have HLe := Lib.hid hlen
    have hm : ∀ j, j < a.length → j < b.length := fun j hj => hlen ▸ hj
    rw [← hlen]
    clear hlen
    go_enter Tryz.func39, Tryz.ntmps39
    go_wp2_with fail
    go_loopw [5] (fun i wr => ∃ j : Nat, j ≤ a.length ∧ i = .int .i64 j ∧ P wr ∧ Hid (a.take j = b.take j)) (fun i _ => a.length - (intOf i).toNat)
    case atStart => exact ⟨0, by omega, rfl, hq, Lib.hid rfl⟩
    case round =>
      clear hq
      obtain ⟨j, hj, rfl, hq, HNo⟩ := hrel
      by_cases hlt : j < a.length
      · have hlt' : (j : Int) < a.length := by omega
        obtain ⟨⟨x1, x2, x3⟩, hx⟩ : ∃ x, a[j]? = some x := ⟨_, List.getElem?_eq_getElem hlt⟩
        obtain ⟨⟨y1, y2, y3⟩, hy⟩ : ∃ y, b[j]? = some y := ⟨_, List.getElem?_eq_getElem (hm j hlt)⟩
        obtain ⟨o1, o2, HA, HC0, HC⟩ := row_at (n := 3) (fun _ => rfl) (by omega) HA0.out hq hx
        obtain ⟨p1, p2, HB, HD0, HD⟩ := row_at (n := 3) (fun _ => rfl) (by omega) HB0.out hq hy
        have HX := Lib.hid hx
        have HY := Lib.hid hy
        clear hx hy
        obtain rfl := HA.out
        obtain rfl := HB.out
        clear HA HB
        obtain ⟨bb, hbb⟩ : ∃ z, decide ((x1, x2, x3) = (y1, y2, y3)) = z := ⟨_, rfl⟩
        have hneq := fun W => neq_stpD W x1 x2 x3 y1 y2 y3
        rw [hbb] at hneq
        cases bb
        · have HF : Hid (false = r) := Lib.hid (by rw [← HR.out]; exact (decide_eq_false (ne_of_at HX.out HY.out (of_decide_eq_false hbb))).symm)
          clear hbb
          go_wp2_with fail
          have HBS : Hid (∀ W, Below wr.heap.size wr W → P W) := Lib.hid (fun W hB => HQ.out _ _ hq hB)
          clear hq
          refine region_mix (Below wr.heap.size wr) [(0, false), (1, false), (2, false), (3, false), (4, false), (5, false), (6, false), (7, false), (8, false)] (by kernel_rfl) (by kernel_rfl) (Below wr.heap.size wr) ⟨Closed.below wr, fun _ h => h⟩ (Below.refl _ _).drew ?_
          simp only [pickOps, List.getElem?_cons_zero, List.getElem?_cons_succ]
          repeat (first | (refine mix_skip (by rfl) ?_; simp only [Act.put, List.setIfInBounds_toArray, List.set_cons_zero, List.set_cons_succ]) | (refine mix_read _ (by rfl) (fun W hW => by (have hW := HBS.out W hW; have c0 := HC0.out _ hW j _ _ HX.out rfl; have c1 := HC.out _ hW j _ 1 _ HX.out rfl; have c2 := HC.out _ hW j _ 2 _ HX.out rfl; have d0 := HD0.out _ hW j _ _ HY.out rfl; have d1 := HD.out _ hW j _ 1 _ HY.out rfl; have d2 := HD.out _ hW j _ 2 _ HY.out rfl; go_simp; first | done | with_reducible rfl)) ?_; simp only [Act.put, List.setIfInBounds_toArray, List.set_cons_zero, List.set_cons_succ]))
          refine mix_nil (fun W hW => ?_)
          have hq := HBS.out W hW
          clear hW HBS
          go_wp2_with fail
          go_ret
          exact ⟨ret_bool HF.out, hq⟩
        · have HN : Hid (a.take (j + 1) = b.take (j + 1)) := Lib.hid (take_next HNo.out HX.out (by rw [of_decide_eq_true hbb]; exact HY.out))
          clear hbb
          go_wp2_with fail
          have HBS : Hid (∀ W, Below wr.heap.size wr W → P W) := Lib.hid (fun W hB => HQ.out _ _ hq hB)
          clear hq
          refine region_mix (Below wr.heap.size wr) [(0, false), (1, false), (2, false), (3, false), (4, false), (5, false), (6, false), (7, false), (8, false)] (by kernel_rfl) (by kernel_rfl) (Below wr.heap.size wr) ⟨Closed.below wr, fun _ h => h⟩ (Below.refl _ _).drew ?_
          simp only [pickOps, List.getElem?_cons_zero, List.getElem?_cons_succ]
          repeat (first | (refine mix_skip (by rfl) ?_; simp only [Act.put, List.setIfInBounds_toArray, List.set_cons_zero, List.set_cons_succ]) | (refine mix_read _ (by rfl) (fun W hW => by (have hW := HBS.out W hW; have c0 := HC0.out _ hW j _ _ HX.out rfl; have c1 := HC.out _ hW j _ 1 _ HX.out rfl; have c2 := HC.out _ hW j _ 2 _ HX.out rfl; have d0 := HD0.out _ hW j _ _ HY.out rfl; have d1 := HD.out _ hW j _ 1 _ HY.out rfl; have d2 := HD.out _ hW j _ 2 _ HY.out rfl; go_simp; first | done | with_reducible rfl)) ?_; simp only [Act.put, List.setIfInBounds_toArray, List.set_cons_zero, List.set_cons_succ]))
          refine mix_nil (fun W hW => ?_)
          have hq := HBS.out W hW
          clear hW HBS
          go_wp2_with fail
          go_roundw
          case rel => exact ⟨j + 1, hlt, by go_num, hq, HN⟩
          case measure => simp [intOf]; omega
      · obtain rfl : j = a.length := by omega
        have HF : Hid (true = r) := Lib.hid (by rw [← HR.out]; exact (decide_eq_true (take_done HLe.out HNo.out)).symm)
        go_wp2_with fail
        go_ret
        exact ⟨ret_bool HF.out, hq⟩
  · have HF : Hid (false = r) := Lib.hid (by rw [← HR.out]; exact (decide_eq_false (fun e => hlen (by rw [e]))).symm)
    have hlen' : ((a.length : Int) != (b.length : Int)) = true := by rw [bne_iff_ne]; omega
    clear hlen
    go_enter Tryz.func39, Tryz.ntmps39
    go_wp2_with fail
    go_ret
    exact ⟨ret_bool HF.out, hq⟩
end

set_option maxRecDepth 100000 in
set_option maxHeartbeats 8000000 in
theorem same11_any {p q : Pth} {w : World} (hp : PLies p w) (hq : PLies q w) {r : Bool} (hr : sameP p q = r) : Calls Tryz.prog 20 #[p.val, q.val] w fun e w' => e = .returned (.bool r) ∧ Below w.heap.size w w' := by
  obtain ⟨Q, HQ, HQb, HQp, HQq, hw⟩ := keep_box2 (Closed.below w) (Below.refl _ w) 32 32 p.cells q.cells
  obtain ⟨d, hd⟩ : ∃ d, decide (p.ss = q.ss) = d := ⟨_, rfl⟩
  have KE := Lib.hid (fun W hW => equalStep_P (P := Q) (w := W) HQ.out p.c q.c (fun W hW => hp.row.on (HQb.out W hW)) (fun W hW => hq.row.on (HQb.out W hW)) hp.len hd hW)
  obtain ⟨b1, h1⟩ : ∃ b, (p.s == q.s) = b := ⟨_, rfl⟩
  obtain ⟨b2, h2⟩ : ∃ b, (p.x == q.x) = b := ⟨_, rfl⟩
  have HR : Hid ((b1 && (b2 && d)) = r) := Lib.hid (by rw [← hr, ← h1, ← h2, ← hd]; rfl)
  clear hr hd hp hq
  have m0 := HQp.out _ hw
  have x0 := m0.cell_at 0 rfl
  have x1 := m0.cell_at 1 rfl
  have x2 := m0.cell_at 2 rfl
  clear m0
  have m0 := HQq.out _ hw
  have y0 := m0.cell_at 0 rfl
  have y1 := m0.cell_at 1 rfl
  have y2 := m0.cell_at 2 rfl
  clear m0
  cases b1
  · go_enter Tryz.func20, Tryz.ntmps20
    go_wp2_with fail
    go_ret
    exact ⟨ret_bool HR.out, HQb.out _ hw⟩
  cases b2
  · go_enter Tryz.func20, Tryz.ntmps20
    go_wp2_with fail
    go_ret
    exact ⟨ret_bool HR.out, HQb.out _ hw⟩
  go_enter Tryz.func20, Tryz.ntmps20
  go_wp2_with fail
  refine (KE.out _ hw).mono ?_
  clear hw x0 x1 x2 y0 y1 y2 h1 h2
  rintro e w1 ⟨rfl, hw⟩
  go_wp2_with fail
  go_ret
  exact ⟨ret_bool (by rw [← HR.out]; rfl), HQb.out _ hw⟩

set_option maxRecDepth 100000 in
set_option maxHeartbeats 8000000 in
theorem sameR11_any {p q : Pth} {w : World} (hp : PLies p w) (hq : PLies q w) {r : Bool} (hr : sameP p q = r) : Calls Tryz.prog 18 #[p.val, q.val] w fun e w' => e = .returned (.bool r) ∧ Below w.heap.size w w' := by
  obtain ⟨Q, HQ, HQb, HQp, HQq, hw⟩ := keep_box2 (Closed.below w) (Below.refl _ w) 32 32 p.cells q.cells
  obtain ⟨d, hd⟩ : ∃ d, decide (p.ss = q.ss) = d := ⟨_, rfl⟩
  have KE := Lib.hid (fun W hW => stepsR11_P (P := Q) (w := W) HQ.out p.c q.c (fun W hW => hp.row.on (HQb.out W hW)) (fun W hW => hq.row.on (HQb.out W hW)) hp.len hd hW)
  obtain ⟨b1, h1⟩ : ∃ b, (p.s == q.s) = b := ⟨_, rfl⟩
  obtain ⟨b2, h2⟩ : ∃ b, (p.x == q.x) = b := ⟨_, rfl⟩
  have HR : Hid ((b1 && (b2 && d)) = r) := Lib.hid (by rw [← hr, ← h1, ← h2, ← hd]; rfl)
  clear hr hd hp hq
  have m0 := HQp.out _ hw
  have x0 := m0.cell_at 0 rfl
  have x1 := m0.cell_at 1 rfl
  have x2 := m0.cell_at 2 rfl
  clear m0
  have m0 := HQq.out _ hw
  have y0 := m0.cell_at 0 rfl
  have y1 := m0.cell_at 1 rfl
  have y2 := m0.cell_at 2 rfl
  clear m0
  cases b1
  · go_enter Tryz.func18, Tryz.ntmps18
    go_wp2_with fail
    go_ret
    exact ⟨ret_bool HR.out, HQb.out _ hw⟩
  cases b2
  · go_enter Tryz.func18, Tryz.ntmps18
    go_wp2_with fail
    go_ret
    exact ⟨ret_bool HR.out, HQb.out _ hw⟩
  go_enter Tryz.func18, Tryz.ntmps18
  go_wp2_with fail
  refine (KE.out _ hw).mono ?_
  clear hw x0 x1 x2 y0 y1 y2 h1 h2
  rintro e w1 ⟨rfl, hw⟩
  go_wp2_with fail
  go_ret
  exact ⟨ret_bool (by rw [← HR.out]; rfl), HQb.out _ hw⟩

set_option maxRecDepth 100000 in
set_option maxHeartbeats 8000000 in
theorem own11_any {p : Pth} {w : World} (hp : PLies p w) (hl : p.ss.length ≤ 1000) : Calls Tryz.prog 19 #[p.val] w fun e w' => ∃ A c, e = .returned (Pth.val ⟨p.s, p.x, A, c, p.ss⟩) ∧ PLies ⟨p.s, p.x, A, c, p.ss⟩ w' ∧ Below w.heap.size w w' := by
  obtain ⟨W0, hW0⟩ : ∃ W0, (w.alloc (.cells #[.int .i64 p.s, .int .i64 p.x, .slice p.A p.ss.length p.c] 32)).alloc (.cells #[.int .i64 0, .int .i64 0, .slice none 0 0] 32) = W0 := ⟨_, rfl⟩
  have hB0 : Below w.heap.size w W0 := by rw [← hW0]; exact below2 w _ _
  have hb0 : Whole W0 w.heap.size 32 p.cells := by rw [← hW0]; exact (Whole.new w _ p.cells).alloc _
  have hb1 : Whole W0 (w.heap.size + 1) 32 [.int .i64 0, .int .i64 0, .slice none 0 0] := by rw [← hW0]; exact Whole.new_at _ _ [_, _, _] _ (by simp)
  have KC := Lib.hid (cloneStep_any p.A p.c W0 (hp.row.on hB0) hl)
  have HB0 := Lib.hid (And.intro hB0 (And.intro hb0 hb1))
  have HLN := Lib.hid hp.len
  have x2 := hb0.cell_at 2 rfl
  have HW0 := Lib.hid hW0
  clear hW0 hB0 hb0 hb1 hp hl
  go_enter Tryz.func19, Tryz.ntmps19
  go_upto_region 1 with (fail)
  rw [HW0.out]
  go_wp2_with fail
  refine KC.out.mono ?_
  clear x2 KC
  rintro e w1 ⟨v, rfl, hown, hB1⟩
  obtain ⟨hB0, hb0, hb1⟩ := HB0.out
  have hs := hb1.lt
  have c0 := hb0.below hB1 hb0.lt
  have c1 := hb1.below hB1 hb1.lt
  have f2 := c0.frozen 2
  have x2 := c0.cell_at 2 rfl
  have c0' := c0.set 2 v
  have c1' := c1.far (p := ⟨w.heap.size, 2, none⟩) (by show w.heap.size + 1 ≠ w.heap.size; omega) v
  have y0 := c0'.cell_at 0 rfl
  have y1 := c0'.cell_at 1 rfl
  have y2 := c0'.cell_at 2 rfl
  have g0 := c1'.frozen 0
  have g1 := c1'.frozen 1
  have g2 := c1'.frozen 2
  have z0 := c1'.cell_at 0 rfl
  have z1 := c1'.cell_at 1 rfl
  have z2 := c1'.cell_at 2 rfl
  have HD := Lib.hid (((c1'.set 0 (.int .i64 p.s)).set 1 (.int .i64 p.x)).set 2 v)
  obtain ⟨A, c, hv, hr⟩ := owns_read hown
  have HBB := Lib.hid (((((hB0.trans (hB1.mono hB0.size)).setCell (p := ⟨w.heap.size, 2, none⟩) (Nat.le_refl _) v).setCell (p := ⟨w.heap.size + 1, 0, none⟩) (by show w.heap.size ≤ w.heap.size + 1; omega) (.int .i64 p.s)).setCell (p := ⟨w.heap.size + 1, 1, none⟩) (by show w.heap.size ≤ w.heap.size + 1; omega) (.int .i64 p.x)).setCell (p := ⟨w.heap.size + 1, 2, none⟩) (by show w.heap.size ≤ w.heap.size + 1; omega) v)
  have hs0 : W0.heap.size = w.heap.size + 2 := by rw [← HW0.out]; simp
  have HS := Lib.hid hs0
  have HO := Lib.hid hown
  clear hown hr c0 c1 c0' c1' hB0 hb0 hb1 hB1 hs hs0
  subst hv
  go_wp2_with fail
  have e0 := HD.out.cell_at 0 rfl
  have e1 := HD.out.cell_at 1 rfl
  have e2 := HD.out.cell_at 2 rfl
  have hfar : ∀ (W : World), W.ownsRow W0.heap.size 50 3 (.slice A p.ss.length c) p.ss.length (p.ss.flatMap stpCells) → ∀ (q : Addr) (u : Value), q.block < W0.heap.size → (W.setCell q u).ownsRow W0.heap.size 50 3 (.slice A p.ss.length c) p.ss.length (p.ss.flatMap stpCells) := fun W h q u hq => owns_set (B := 0) h hq u
  have hO := hfar _ (hfar _ (hfar _ (hfar _ HO.out ⟨w.heap.size, 2, none⟩ (.slice A p.ss.length c) (by show w.heap.size < _; rw [HS.out]; omega)) ⟨w.heap.size + 1, 0, none⟩ (.int .i64 p.s) (by show w.heap.size + 1 < _; rw [HS.out]; omega)) ⟨w.heap.size + 1, 1, none⟩ (.int .i64 p.x) (by show w.heap.size + 1 < _; rw [HS.out]; omega)) ⟨w.heap.size + 1, 2, none⟩ (.slice A p.ss.length c) (by show w.heap.size + 1 < _; rw [HS.out]; omega)
  refine bodyPost_ret (v := Pth.val ⟨p.s, p.x, A, c, p.ss⟩) ?_ rfl ⟨A, c, rfl, ⟨?_, HLN.out⟩, HBB.out⟩
  · simp [results, Tryz.f19, go_sem, e0, e1, e2]
  · exact owns_row2 hO

end Go.Proofs.YtlfpkileblmhoaaGreatDoor
