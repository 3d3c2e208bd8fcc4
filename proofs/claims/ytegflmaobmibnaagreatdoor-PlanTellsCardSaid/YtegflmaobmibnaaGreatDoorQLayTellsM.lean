/- The document's own layer 6: Steps, Same. The walk of LayoutTells: package layout says what the document says. -/
import Derived.Test.YtegflmaobmibnaaGreatDoorQC
import Derived.Test.YtegflmaobmibnaaGreatDoorQB
namespace Go.Proofs.YtegflmaobmibnaaGreatDoor
open Go.RowKit Go.Shelf
set_option linter.unusedVariables false
set_option linter.unusedSimpArgs false

theorem ne_of_at {α : Type} {l m : List α} {j : Nat} {x y : α} (hx : l[j]? = some x) (hy : m[j]? = some y) (hne : x ≠ y) : l ≠ m := fun e => by
  subst e
  rw [hx] at hy
  exact hne (Option.some.inj hy)
theorem take_next {α : Type} {l m : List α} {j : Nat} {x : α} (h : l.take j = m.take j) (hx : l[j]? = some x) (hy : m[j]? = some x) : l.take (j + 1) = m.take (j + 1) := by
  rw [List.take_add_one, List.take_add_one, h, hx, hy]
theorem take_done {α : Type} {l m : List α} (hl : l.length = m.length) (h : l.take l.length = m.take l.length) : l = m := by
  rw [List.take_length, hl, List.take_length] at h
  exact h
theorem neq_stpD (w : World) (a b c a' b' c' : Int) : (binOp .neq 74 (stpV a b c) (stpV a' b' c')).run Tryz.prog w = .ok (.bool (!decide ((a, b, c) = (a', b', c')))) w := by
  rw [run_neq_struct, eq_stp]
  have : (a == a' && (b == b' && c == c')) = decide ((a, b, c) = (a', b', c')) := by rw [Bool.eq_iff_iff]; simp
  rw [this]
  rfl
theorem neq_sigD (w : World) (a b a' b' : Int) : (binOp .neq 72 (prtV a b) (prtV a' b')).run Tryz.prog w = .ok (.bool (!decide ((a, b) = (a', b')))) w := by
  rw [run_neq_struct, eq_sig]
  have : (a == a' && b == b') = decide ((a, b) = (a', b')) := by rw [Bool.eq_iff_iff]; simp
  rw [this]
  rfl
theorem neq_flkD (w : World) (a b c d a' b' c' d' : Int) : (binOp .neq 76 (flkV a b c d) (flkV a' b' c' d')).run Tryz.prog w = .ok (.bool (!decide ((a, b, c, d) = (a', b', c', d')))) w := by
  rw [run_neq_struct, eq_flk]
  have : (a == a' && (b == b' && (c == c' && d == d'))) = decide ((a, b, c, d) = (a', b', c', d')) := by rw [Bool.eq_iff_iff]; simp
  rw [this]
  rfl
theorem neq_secD (w : World) (x y : Sec) : (binOp .neq 70 x.val y.val).run Tryz.prog w = .ok (.bool (!decide (x = y))) w := by rw [neq_sec, Sec.same_eq]
theorem neq_prtD (w : World) (a b a' b' : Int) : (binOp .neq 48 (prtV a b) (prtV a' b')).run Tryz.prog w = .ok (.bool (!decide ((a, b) = (a', b')))) w := by
  rw [run_neq_struct, eq_prt w 9998]
  have : (a == a' && b == b') = decide ((a, b) = (a', b')) := by rw [Bool.eq_iff_iff]; simp
  rw [this]
  rfl
theorem neq_timesD (w : World) (l m : Lay) : (binOp .neq 27 l.tval m.tval).run Tryz.prog w = .ok (.bool (!sameT l m)) w := by rw [run_neq_struct, eq_times]; rfl
theorem same_no1 {l m : Lay} (h : l.secs ≠ m.secs) : sameV l m = false := by unfold sameV; rw [decide_eq_false (by simpa using h)]; simp
theorem same_no2 {l m : Lay} (h : l.sigs ≠ m.sigs) : sameV l m = false := by unfold sameV; rw [decide_eq_false h]; simp
theorem same_no3 {l m : Lay} (h : l.exits.map Exm.pure ≠ m.exits.map Exm.pure) : sameV l m = false := by unfold sameV; rw [decide_eq_false h]; simp
theorem same_no4 {l m : Lay} (h : l.flanks ≠ m.flanks) : sameV l m = false := by unfold sameV; rw [decide_eq_false h]; simp
theorem same_no5 {l m : Lay} (h : sameT l m = false) : sameV l m = false := by unfold sameV; rw [h]; rfl
theorem same_yes {l m : Lay} (h0 : sameT l m = true) (h1 : l.secs = m.secs) (h2 : l.sigs = m.sigs) (h3 : l.exits.map Exm.pure = m.exits.map Exm.pure) (h4 : l.flanks = m.flanks) : sameV l m = true := by
  unfold sameV; rw [h0, h1, h2, h3, h4]; simp

section
variable {P : World → Prop} {w : World}
set_option maxRecDepth 100000 in
set_option maxHeartbeats 8000000 in
theorem stepsR_P (hP : Closed P) {a b : List (Int × Int × Int)} {A B : Option Addr} (ca cb : Nat) (hA : ∀ w, P w → Row w w.heap.size A (a.flatMap stpCells)) (hB : ∀ w, P w → Row w w.heap.size B (b.flatMap stpCells)) (hn : (a.length : Int) ≤ 9223372036854775807) {r : Bool} (hr : decide (a = b) = r) (h : P w) :
    Calls Tryz.prog 35 #[.slice A a.length ca, .slice B b.length cb] w fun e w' => e = .returned (.bool r) ∧ P w' := by
  have HR := Lib.hid hr
  have HQ := Lib.hid hP
  have HA0 := Lib.hid hA
  have HB0 := Lib.hid hB
  have hq := h
  clear hr hP hA hB h
  by_cases hlen : a.length = b.length
  · have HLe := Lib.hid hlen
    have hm : ∀ j, j < a.length → j < b.length := fun j hj => hlen ▸ hj
    rw [← hlen]
    clear hlen
    go_enter Tryz.func35, Tryz.ntmps35
    go_wp2_with fail
    go_loopw [5] (fun i wr => ∃ j : Nat, j ≤ a.length ∧ i = .int .i64 j ∧ P wr ∧ Hid (a.take j = b.take j)) (fun i _ => a.length - (intOf i).toNat)
    case atStart => exact ⟨0, by omega, rfl, hq, Lib.hid rfl⟩
    case round =>
      clear hq
      obtain ⟨j, hj, rfl, hq, HNo⟩ := hrel
      by_cases hlt : j < a.length
      · have hlt' : (j : Int) < a.length := by omega
        obtain ⟨⟨x1, x2, x3⟩, hx⟩ : ∃ x, a[j]? = some x := ⟨_, List.getElem?_eq_getElem hlt⟩
        obtain ⟨⟨y1, y2, y3⟩, hy⟩ : ∃ y, b[j]? = some y := ⟨_, List.getElem?_eq_getElem (hm j hlt)⟩
        obtain ⟨o1, o2, HA, HC0, HC⟩ := row_at (n := 3) (fun _ => rfl) (by omega) HA0.out hq hx
        obtain ⟨p1, p2, HB, HD0, HD⟩ := row_at (n := 3) (fun _ => rfl) (by omega) HB0.out hq hy
        have HX := Lib.hid hx
        have HY := Lib.hid hy
        clear hx hy
        obtain rfl := HA.out
        obtain rfl := HB.out
        clear HA HB
        obtain ⟨bb, hbb⟩ : ∃ z, decide ((x1, x2, x3) = (y1, y2, y3)) = z := ⟨_, rfl⟩
        have hneq := fun W => neq_stpD W x1 x2 x3 y1 y2 y3
        rw [hbb] at hneq
        cases bb
        · have HF : Hid (false = r) := Lib.hid (by rw [← HR.out]; exact (decide_eq_false (ne_of_at HX.out HY.out (of_decide_eq_false hbb))).symm)
          clear hbb
          go_wp2_with fail
          have HBS : Hid (∀ W, Below wr.heap.size wr W → P W) := Lib.hid (fun W hB => HQ.out _ _ hq hB)
          clear hq
          refine region_mix (Below wr.heap.size wr) [(0, false), (1, false), (2, false), (3, false), (4, false), (5, false), (6, false), (7, false), (8, false)] (by kernel_rfl) (by kernel_rfl) (Below wr.heap.size wr) ⟨Closed.below wr, fun _ h => h⟩ (Below.refl _ _).drew ?_
          simp only [pickOps, List.getElem?_cons_zero, List.getElem?_cons_succ]
          repeat (first | (refine mix_skip (by rfl) ?_; simp only [Act.put, List.setIfInBounds_toArray, List.set_cons_zero, List.set_cons_succ]) | (refine mix_read _ (by rfl) (fun W hW => by (have hW := HBS.out W hW; have c0 := HC0.out _ hW j _ _ HX.out rfl; have c1 := HC.out _ hW j _ 1 _ HX.out rfl; have c2 := HC.out _ hW j _ 2 _ HX.out rfl; have d0 := HD0.out _ hW j _ _ HY.out rfl; have d1 := HD.out _ hW j _ 1 _ HY.out rfl; have d2 := HD.out _ hW j _ 2 _ HY.out rfl; go_simp; first | done | with_reducible rfl)) ?_; simp only [Act.put, List.setIfInBounds_toArray, List.set_cons_zero, List.set_cons_succ]))
          refine mix_nil (fun W hW => ?_)
          have hq := HBS.out W hW
          clear hW HBS
          go_wp2_with fail
          go_ret
          exact ⟨ret_bool HF.out, hq⟩
        · have HN : Hid (a.take (j + 1) = b.take (j + 1)) := Lib.hid (take_next HNo.out HX.out (by rw [of_decide_eq_true hbb]; exact HY.out))
          clear hbb
          go_wp2_with fail
          have HBS : Hid (∀ W, Below wr.heap.size wr W → P W) := Lib.hid (fun W hB => HQ.out _ _ hq hB)
          clear hq
          refine region_mix (Below wr.heap.size wr) [(0, false), (1, false), (2, false), (3, false), (4, false), (5, false), (6, false), (7, false), (8, false)] (by kernel_rfl) (by kernel_rfl) (Below wr.heap.size wr) ⟨Closed.below wr, fun _ h => h⟩ (Below.refl _ _).drew ?_
          simp only [pickOps, List.getElem?_cons_zero, List.getElem?_cons_succ]
          repeat (first | (refine mix_skip (by rfl) ?_; simp only [Act.put, List.setIfInBounds_toArray, List.set_cons_zero, List.set_cons_succ]) | (refine mix_read _ (by rfl) (fun W hW => by (have hW := HBS.out W hW; have c0 := HC0.out _ hW j _ _ HX.out rfl; have c1 := HC.out _ hW j _ 1 _ HX.out rfl; have c2 := HC.out _ hW j _ 2 _ HX.out rfl; have d0 := HD0.out _ hW j _ _ HY.out rfl; have d1 := HD.out _ hW j _ 1 _ HY.out rfl; have d2 := HD.out _ hW j _ 2 _ HY.out rfl; go_simp; first | done | with_reducible rfl)) ?_; simp only [Act.put, List.setIfInBounds_toArray, List.set_cons_zero, List.set_cons_succ]))
          refine mix_nil (fun W hW => ?_)
          have hq := HBS.out W hW
          clear hW HBS
          go_wp2_with fail
          go_roundw
          case rel => exact ⟨j + 1, hlt, by go_num, hq, HN⟩
          case measure => simp [intOf]; omega
      · obtain rfl : j = a.length := by omega
        have HF : Hid (true = r) := Lib.hid (by rw [← HR.out]; exact (decide_eq_true (take_done HLe.out HNo.out)).symm)
        go_wp2_with fail
        go_ret
        exact ⟨ret_bool HF.out, hq⟩
  · have HF : Hid (false = r) := Lib.hid (by rw [← HR.out]; exact (decide_eq_false (fun e => hlen (by rw [e]))).symm)
    have hlen' : ((a.length : Int) != (b.length : Int)) = true := by rw [bne_iff_ne]; omega
    clear hlen
    go_enter Tryz.func35, Tryz.ntmps35
    go_wp2_with fail
    go_ret
    exact ⟨ret_bool HF.out, hq⟩
end
theorem stepsR_B {w : World} {a b : List (Int × Int × Int)} {A B : Option Addr} (ca cb : Nat) (hA : Row w w.heap.size A (a.flatMap stpCells)) (hB : Row w w.heap.size B (b.flatMap stpCells)) (hn : (a.length : Int) ≤ 9223372036854775807) {r : Bool} (hr : decide (a = b) = r) :
    Calls Tryz.prog 35 #[.slice A a.length ca, .slice B b.length cb] w fun e w' => e = .returned (.bool r) ∧ Below w.heap.size w w' :=
  stepsR_P (P := fun W => Below w.heap.size w W) (Closed.below w) ca cb (fun W h => hA.on h) (fun W h => hB.on h) hn hr (Below.refl _ _)

section
variable {P : World → Prop} {w : World}
set_option maxRecDepth 100000 in
set_option maxHeartbeats 8000000 in
theorem sameR_P (hP : Closed P) {l m : Lay} (hL : ∀ w, P w → Lies l w) (hM : ∀ w, P w → Lies m w) {r : Bool} (hr : sameV l m = r) (h : P w) :
    Calls Tryz.prog 14 #[l.val, m.val] w fun e w' => e = .returned (.bool r) ∧ P w' := by
  obtain ⟨Q, HQ, HQp, HQl, HQm, hq⟩ := keep_box2 hP h 29 29 l.cells m.cells
  have HQL : Hid (∀ W, Q W → Lies l W) := Lib.hid fun W hW => hL _ (HQp.out _ hW)
  have HQM : Hid (∀ W, Q W → Lies m W) := Lib.hid fun W hW => hM _ (HQp.out _ hW)
  have hnS := (hL _ h).nS
  have hnG := (hL _ h).nG
  have hnE := (hL _ h).nE
  have hnF := (hL _ h).nF
  have HR : Hid (sameV l m = r) := Lib.hid hr
  obtain ⟨tb, htb⟩ : ∃ z, sameT l m = z := ⟨_, rfl⟩
  have hneqT := fun W => neq_timesD W l m
  rw [htb] at hneqT
  have HTB := Lib.hid htb
  clear h hr hL hM hP htb
  by_cases h0 : l.secs.length = m.secs.length
  · have d0 : ((l.secs.length : Int) != (m.secs.length : Int)) = false := by rw [bne_eq_false_iff_eq]; omega
    have HLe0 := Lib.hid h0
    clear h0
    by_cases h1 : l.sigs.length = m.sigs.length
    · have d1 : ((l.sigs.length : Int) != (m.sigs.length : Int)) = false := by rw [bne_eq_false_iff_eq]; omega
      have HLe1 := Lib.hid h1
      clear h1
      by_cases h2 : l.exits.length = m.exits.length
      · have d2 : ((l.exits.length : Int) != (m.exits.length : Int)) = false := by rw [bne_eq_false_iff_eq]; omega
        have HLe2 := Lib.hid h2
        clear h2
        by_cases h3 : l.flanks.length = m.flanks.length
        · have d3 : ((l.flanks.length : Int) != (m.flanks.length : Int)) = false := by rw [bne_eq_false_iff_eq]; omega
          have HLe3 := Lib.hid h3
          clear h3
          cases tb
          · have HF : Hid (false = r) := Lib.hid (by rw [← HR.out]; exact (same_no5 HTB.out).symm)
            have hW := hq
            have m0 := HQl.out _ hW
            have x0 := m0.cell_at 0 rfl
            have x1 := m0.cell_at 1 rfl
            have x2 := m0.cell_at 2 rfl
            have x3 := m0.cell_at 3 rfl
            have x4 := m0.cell_at 4 rfl
            have x5 := m0.cell_at 5 rfl
            have x6 := m0.cell_at 6 rfl
            have x7 := m0.cell_at 7 rfl
            have x8 := m0.cell_at 8 rfl
            have x9 := m0.cell_at 9 rfl
            have x10 := m0.cell_at 10 rfl
            clear m0
            have m1 := HQm.out _ hW
            have y0 := m1.cell_at 0 rfl
            have y1 := m1.cell_at 1 rfl
            have y2 := m1.cell_at 2 rfl
            have y3 := m1.cell_at 3 rfl
            have y4 := m1.cell_at 4 rfl
            have y5 := m1.cell_at 5 rfl
            have y6 := m1.cell_at 6 rfl
            have y7 := m1.cell_at 7 rfl
            have y8 := m1.cell_at 8 rfl
            have y9 := m1.cell_at 9 rfl
            have y10 := m1.cell_at 10 rfl
            clear m1
            clear hW
            go_enter Tryz.func14, Tryz.ntmps14
            go_wp2_with fail
            go_ret
            exact ⟨ret_bool HF.out, HQp.out _ hq⟩
          · have hW := hq
            have m0 := HQl.out _ hW
            have x0 := m0.cell_at 0 rfl
            have x1 := m0.cell_at 1 rfl
            have x2 := m0.cell_at 2 rfl
            have x3 := m0.cell_at 3 rfl
            have x4 := m0.cell_at 4 rfl
            have x5 := m0.cell_at 5 rfl
            have x6 := m0.cell_at 6 rfl
            have x7 := m0.cell_at 7 rfl
            have x8 := m0.cell_at 8 rfl
            have x9 := m0.cell_at 9 rfl
            have x10 := m0.cell_at 10 rfl
            clear m0
            have m1 := HQm.out _ hW
            have y0 := m1.cell_at 0 rfl
            have y1 := m1.cell_at 1 rfl
            have y2 := m1.cell_at 2 rfl
            have y3 := m1.cell_at 3 rfl
            have y4 := m1.cell_at 4 rfl
            have y5 := m1.cell_at 5 rfl
            have y6 := m1.cell_at 6 rfl
            have y7 := m1.cell_at 7 rfl
            have y8 := m1.cell_at 8 rfl
            have y9 := m1.cell_at 9 rfl
            have y10 := m1.cell_at 10 rfl
            clear m1
            clear hW
            go_enter Tryz.func14, Tryz.ntmps14
            go_wp2_with fail
            clear x0 x1 x2 x3 x4 x5 x6 x7 x8 x9 x10 y0 y1 y2 y3 y4 y5 y6 y7 y8 y9 y10 hneqT
            go_loopw [5] (fun i wr => ∃ j : Nat, j ≤ l.secs.length ∧ i = .int .i64 j ∧ Q wr ∧ Hid ((l.secs).take j = (m.secs).take j)) (fun i _ => l.secs.length - (intOf i).toNat)
            case atStart => exact ⟨0, by omega, rfl, hq, Lib.hid rfl⟩
            case round =>
              clear hq
              obtain ⟨j, hj, rfl, hq, HNo⟩ := hrel
              have x0 := (HQl.out _ hq).cell_at 0 rfl
              by_cases hlt : j < l.secs.length
              · have hlt' : (j : Int) < l.secs.length := by omega
                have hlm : j < m.secs.length := by have := HLe0.out; omega
                have hlm' : (j : Int) < m.secs.length := by omega
                obtain ⟨x, hx⟩ : ∃ x, l.secs[j]? = some x := ⟨_, List.getElem?_eq_getElem hlt⟩
                obtain ⟨y, hy⟩ : ∃ y, m.secs[j]? = some y := ⟨_, List.getElem?_eq_getElem hlm⟩
                obtain ⟨o1, o2, HA, HC0, HC⟩ := row_at (n := 11) Sec.len (by omega) (fun W hW => (HQL.out W hW).secs) hq hx
                obtain ⟨p1, p2, HB, HD0, HD⟩ := row_at (n := 11) Sec.len (by omega) (fun W hW => (HQM.out W hW).secs) hq hy
                have HX := Lib.hid hx
                have HY := Lib.hid hy
                clear hx hy
                obtain ⟨bb, hbb⟩ : ∃ z, decide (x = y) = z := ⟨_, rfl⟩
                have hneq := fun W => neq_secD W x y
                rw [hbb] at hneq
                cases bb
                · have HF : Hid (false = r) := Lib.hid (by rw [← HR.out]; exact (same_no1 (ne_of_at HX.out HY.out (of_decide_eq_false hbb))).symm)
                  clear hbb
                  go_wp2_with fail
                  clear x0
                  have HBS : Hid (∀ W, Below wr.heap.size wr W → Q W) := Lib.hid (fun W hB => HQ.out _ _ hq hB)
                  clear hq
                  refine region_mix (Below wr.heap.size wr) [(0, false), (1, false), (2, false), (3, false), (4, false), (5, false), (6, false), (7, false), (8, false), (9, false), (10, false)] (by kernel_rfl) (by kernel_rfl) (Below wr.heap.size wr) ⟨Closed.below wr, fun _ h => h⟩ (Below.refl _ _).drew ?_
                  simp only [pickOps, List.getElem?_cons_zero, List.getElem?_cons_succ]
                  repeat (first | (refine mix_skip (by rfl) ?_; simp only [Act.put, List.setIfInBounds_toArray, List.set_cons_zero, List.set_cons_succ]) | (refine mix_read _ (by rfl) (fun W hW => by (have hW := HBS.out W hW; have m0 := HQl.out _ hW; have x0 := m0.cell_at 0 rfl; have x1 := m0.cell_at 1 rfl; have x2 := m0.cell_at 2 rfl; have x3 := m0.cell_at 3 rfl; have x4 := m0.cell_at 4 rfl; have x5 := m0.cell_at 5 rfl; have x6 := m0.cell_at 6 rfl; have x7 := m0.cell_at 7 rfl; have x8 := m0.cell_at 8 rfl; have x9 := m0.cell_at 9 rfl; have x10 := m0.cell_at 10 rfl; clear m0; have m1 := HQm.out _ hW; have y0 := m1.cell_at 0 rfl; have y1 := m1.cell_at 1 rfl; have y2 := m1.cell_at 2 rfl; have y3 := m1.cell_at 3 rfl; have y4 := m1.cell_at 4 rfl; have y5 := m1.cell_at 5 rfl; have y6 := m1.cell_at 6 rfl; have y7 := m1.cell_at 7 rfl; have y8 := m1.cell_at 8 rfl; have y9 := m1.cell_at 9 rfl; have y10 := m1.cell_at 10 rfl; clear m1; rw [HA.out] at x0; rw [HB.out] at y0; have c0 := HC0.out _ hW j _ _ HX.out rfl; have d0 := HD0.out _ hW j _ _ HY.out rfl; have c1 := HC.out _ hW j _ 1 _ HX.out rfl; have d1 := HD.out _ hW j _ 1 _ HY.out rfl; have c2 := HC.out _ hW j _ 2 _ HX.out rfl; have d2 := HD.out _ hW j _ 2 _ HY.out rfl; have c3 := HC.out _ hW j _ 3 _ HX.out rfl; have d3 := HD.out _ hW j _ 3 _ HY.out rfl; have c4 := HC.out _ hW j _ 4 _ HX.out rfl; have d4 := HD.out _ hW j _ 4 _ HY.out rfl; have c5 := HC.out _ hW j _ 5 _ HX.out rfl; have d5 := HD.out _ hW j _ 5 _ HY.out rfl; have c6 := HC.out _ hW j _ 6 _ HX.out rfl; have d6 := HD.out _ hW j _ 6 _ HY.out rfl; have c7 := HC.out _ hW j _ 7 _ HX.out rfl; have d7 := HD.out _ hW j _ 7 _ HY.out rfl; have c8 := HC.out _ hW j _ 8 _ HX.out rfl; have d8 := HD.out _ hW j _ 8 _ HY.out rfl; have c9 := HC.out _ hW j _ 9 _ HX.out rfl; have d9 := HD.out _ hW j _ 9 _ HY.out rfl; have c10 := HC.out _ hW j _ 10 _ HX.out rfl; have d10 := HD.out _ hW j _ 10 _ HY.out rfl; go_simp; first | done | with_reducible rfl)) ?_; simp only [Act.put, List.setIfInBounds_toArray, List.set_cons_zero, List.set_cons_succ]))
                  refine mix_nil (fun W hW => ?_)
                  have hq := HBS.out W hW
                  clear hW HBS
                  go_wp2_with fail
                  go_ret
                  exact ⟨ret_bool HF.out, HQp.out _ hq⟩
                · have HN : Hid ((l.secs).take (j + 1) = (m.secs).take (j + 1)) := Lib.hid (take_next HNo.out HX.out (by rw [of_decide_eq_true hbb]; exact HY.out))
                  clear hbb
                  go_wp2_with fail
                  clear x0
                  have HBS : Hid (∀ W, Below wr.heap.size wr W → Q W) := Lib.hid (fun W hB => HQ.out _ _ hq hB)
                  clear hq
                  refine region_mix (Below wr.heap.size wr) [(0, false), (1, false), (2, false), (3, false), (4, false), (5, false), (6, false), (7, false), (8, false), (9, false), (10, false)] (by kernel_rfl) (by kernel_rfl) (Below wr.heap.size wr) ⟨Closed.below wr, fun _ h => h⟩ (Below.refl _ _).drew ?_
                  simp only [pickOps, List.getElem?_cons_zero, List.getElem?_cons_succ]
                  repeat (first | (refine mix_skip (by rfl) ?_; simp only [Act.put, List.setIfInBounds_toArray, List.set_cons_zero, List.set_cons_succ]) | (refine mix_read _ (by rfl) (fun W hW => by (have hW := HBS.out W hW; have m0 := HQl.out _ hW; have x0 := m0.cell_at 0 rfl; have x1 := m0.cell_at 1 rfl; have x2 := m0.cell_at 2 rfl; have x3 := m0.cell_at 3 rfl; have x4 := m0.cell_at 4 rfl; have x5 := m0.cell_at 5 rfl; have x6 := m0.cell_at 6 rfl; have x7 := m0.cell_at 7 rfl; have x8 := m0.cell_at 8 rfl; have x9 := m0.cell_at 9 rfl; have x10 := m0.cell_at 10 rfl; clear m0; have m1 := HQm.out _ hW; have y0 := m1.cell_at 0 rfl; have y1 := m1.cell_at 1 rfl; have y2 := m1.cell_at 2 rfl; have y3 := m1.cell_at 3 rfl; have y4 := m1.cell_at 4 rfl; have y5 := m1.cell_at 5 rfl; have y6 := m1.cell_at 6 rfl; have y7 := m1.cell_at 7 rfl; have y8 := m1.cell_at 8 rfl; have y9 := m1.cell_at 9 rfl; have y10 := m1.cell_at 10 rfl; clear m1; rw [HA.out] at x0; rw [HB.out] at y0; have c0 := HC0.out _ hW j _ _ HX.out rfl; have d0 := HD0.out _ hW j _ _ HY.out rfl; have c1 := HC.out _ hW j _ 1 _ HX.out rfl; have d1 := HD.out _ hW j _ 1 _ HY.out rfl; have c2 := HC.out _ hW j _ 2 _ HX.out rfl; have d2 := HD.out _ hW j _ 2 _ HY.out rfl; have c3 := HC.out _ hW j _ 3 _ HX.out rfl; have d3 := HD.out _ hW j _ 3 _ HY.out rfl; have c4 := HC.out _ hW j _ 4 _ HX.out rfl; have d4 := HD.out _ hW j _ 4 _ HY.out rfl; have c5 := HC.out _ hW j _ 5 _ HX.out rfl; have d5 := HD.out _ hW j _ 5 _ HY.out rfl; have c6 := HC.out _ hW j _ 6 _ HX.out rfl; have d6 := HD.out _ hW j _ 6 _ HY.out rfl; have c7 := HC.out _ hW j _ 7 _ HX.out rfl; have d7 := HD.out _ hW j _ 7 _ HY.out rfl; have c8 := HC.out _ hW j _ 8 _ HX.out rfl; have d8 := HD.out _ hW j _ 8 _ HY.out rfl; have c9 := HC.out _ hW j _ 9 _ HX.out rfl; have d9 := HD.out _ hW j _ 9 _ HY.out rfl; have c10 := HC.out _ hW j _ 10 _ HX.out rfl; have d10 := HD.out _ hW j _ 10 _ HY.out rfl; go_simp; first | done | with_reducible rfl)) ?_; simp only [Act.put, List.setIfInBounds_toArray, List.set_cons_zero, List.set_cons_succ]))
                  refine mix_nil (fun W hW => ?_)
                  have hq := HBS.out W hW
                  clear hW HBS
                  go_wp2_with fail
                  go_roundw
                  case rel => exact ⟨j + 1, hlt, by go_num, hq, HN⟩
                  case measure => simp [intOf]; omega
              · obtain rfl : j = l.secs.length := by omega
                have HE0 : Hid (l.secs = m.secs) := Lib.hid (take_done HLe0.out HNo.out)
                clear HNo hj hlt
                go_wp2_with fail
                clear x0
                go_loopw [6] (fun i wr => ∃ j : Nat, j ≤ l.sigs.length ∧ i = .int .i64 j ∧ Q wr ∧ Hid ((l.sigs).take j = (m.sigs).take j)) (fun i _ => l.sigs.length - (intOf i).toNat)
                case atStart => exact ⟨0, by omega, rfl, hq, Lib.hid rfl⟩
                case round =>
                  clear hq
                  obtain ⟨j, hj, rfl, hq, HNo⟩ := hrel
                  have x1 := (HQl.out _ hq).cell_at 1 rfl
                  by_cases hlt : j < l.sigs.length
                  · have hlt' : (j : Int) < l.sigs.length := by omega
                    have hlm : j < m.sigs.length := by have := HLe1.out; omega
                    have hlm' : (j : Int) < m.sigs.length := by omega
                    obtain ⟨⟨xa, xb⟩, hx⟩ : ∃ x, l.sigs[j]? = some x := ⟨_, List.getElem?_eq_getElem hlt⟩
                    obtain ⟨⟨ya, yb⟩, hy⟩ : ∃ y, m.sigs[j]? = some y := ⟨_, List.getElem?_eq_getElem hlm⟩
                    obtain ⟨o1, o2, HA, HC0, HC⟩ := row_at (n := 2) (fun _ => rfl) (by omega) (fun W hW => (HQL.out W hW).sigs) hq hx
                    obtain ⟨p1, p2, HB, HD0, HD⟩ := row_at (n := 2) (fun _ => rfl) (by omega) (fun W hW => (HQM.out W hW).sigs) hq hy
                    have HX := Lib.hid hx
                    have HY := Lib.hid hy
                    clear hx hy
                    obtain ⟨bb, hbb⟩ : ∃ z, decide ((xa, xb) = (ya, yb)) = z := ⟨_, rfl⟩
                    have hneq := fun W => neq_sigD W xa xb ya yb
                    rw [hbb] at hneq
                    cases bb
                    · have HF : Hid (false = r) := Lib.hid (by rw [← HR.out]; exact (same_no2 (ne_of_at HX.out HY.out (of_decide_eq_false hbb))).symm)
                      clear hbb
                      go_wp2_with fail
                      clear x1
                      have HBS : Hid (∀ W, Below wr.heap.size wr W → Q W) := Lib.hid (fun W hB => HQ.out _ _ hq hB)
                      clear hq
                      refine region_mix (Below wr.heap.size wr) [(0, false), (1, false), (2, false), (3, false), (4, false), (5, false), (6, false), (7, false), (8, false), (9, false), (10, false)] (by kernel_rfl) (by kernel_rfl) (Below wr.heap.size wr) ⟨Closed.below wr, fun _ h => h⟩ (Below.refl _ _).drew ?_
                      simp only [pickOps, List.getElem?_cons_zero, List.getElem?_cons_succ]
                      repeat (first | (refine mix_skip (by rfl) ?_; simp only [Act.put, List.setIfInBounds_toArray, List.set_cons_zero, List.set_cons_succ]) | (refine mix_read _ (by rfl) (fun W hW => by (have hW := HBS.out W hW; have m0 := HQl.out _ hW; have x0 := m0.cell_at 0 rfl; have x1 := m0.cell_at 1 rfl; have x2 := m0.cell_at 2 rfl; have x3 := m0.cell_at 3 rfl; have x4 := m0.cell_at 4 rfl; have x5 := m0.cell_at 5 rfl; have x6 := m0.cell_at 6 rfl; have x7 := m0.cell_at 7 rfl; have x8 := m0.cell_at 8 rfl; have x9 := m0.cell_at 9 rfl; have x10 := m0.cell_at 10 rfl; clear m0; have m1 := HQm.out _ hW; have y0 := m1.cell_at 0 rfl; have y1 := m1.cell_at 1 rfl; have y2 := m1.cell_at 2 rfl; have y3 := m1.cell_at 3 rfl; have y4 := m1.cell_at 4 rfl; have y5 := m1.cell_at 5 rfl; have y6 := m1.cell_at 6 rfl; have y7 := m1.cell_at 7 rfl; have y8 := m1.cell_at 8 rfl; have y9 := m1.cell_at 9 rfl; have y10 := m1.cell_at 10 rfl; clear m1; rw [HA.out] at x1; rw [HB.out] at y1; have c0 := HC0.out _ hW j _ _ HX.out rfl; have d0 := HD0.out _ hW j _ _ HY.out rfl; have c1 := HC.out _ hW j _ 1 _ HX.out rfl; have d1 := HD.out _ hW j _ 1 _ HY.out rfl; go_simp; first | done | with_reducible rfl)) ?_; simp only [Act.put, List.setIfInBounds_toArray, List.set_cons_zero, List.set_cons_succ]))
                      refine mix_nil (fun W hW => ?_)
                      have hq := HBS.out W hW
                      clear hW HBS
                      go_wp2_with fail
                      go_ret
                      exact ⟨ret_bool HF.out, HQp.out _ hq⟩
                    · have HN : Hid ((l.sigs).take (j + 1) = (m.sigs).take (j + 1)) := Lib.hid (take_next HNo.out HX.out (by rw [of_decide_eq_true hbb]; exact HY.out))
                      clear hbb
                      go_wp2_with fail
                      clear x1
                      have HBS : Hid (∀ W, Below wr.heap.size wr W → Q W) := Lib.hid (fun W hB => HQ.out _ _ hq hB)
                      clear hq
                      refine region_mix (Below wr.heap.size wr) [(0, false), (1, false), (2, false), (3, false), (4, false), (5, false), (6, false), (7, false), (8, false), (9, false), (10, false)] (by kernel_rfl) (by kernel_rfl) (Below wr.heap.size wr) ⟨Closed.below wr, fun _ h => h⟩ (Below.refl _ _).drew ?_
                      simp only [pickOps, List.getElem?_cons_zero, List.getElem?_cons_succ]
                      repeat (first | (refine mix_skip (by rfl) ?_; simp only [Act.put, List.setIfInBounds_toArray, List.set_cons_zero, List.set_cons_succ]) | (refine mix_read _ (by rfl) (fun W hW => by (have hW := HBS.out W hW; have m0 := HQl.out _ hW; have x0 := m0.cell_at 0 rfl; have x1 := m0.cell_at 1 rfl; have x2 := m0.cell_at 2 rfl; have x3 := m0.cell_at 3 rfl; have x4 := m0.cell_at 4 rfl; have x5 := m0.cell_at 5 rfl; have x6 := m0.cell_at 6 rfl; have x7 := m0.cell_at 7 rfl; have x8 := m0.cell_at 8 rfl; have x9 := m0.cell_at 9 rfl; have x10 := m0.cell_at 10 rfl; clear m0; have m1 := HQm.out _ hW; have y0 := m1.cell_at 0 rfl; have y1 := m1.cell_at 1 rfl; have y2 := m1.cell_at 2 rfl; have y3 := m1.cell_at 3 rfl; have y4 := m1.cell_at 4 rfl; have y5 := m1.cell_at 5 rfl; have y6 := m1.cell_at 6 rfl; have y7 := m1.cell_at 7 rfl; have y8 := m1.cell_at 8 rfl; have y9 := m1.cell_at 9 rfl; have y10 := m1.cell_at 10 rfl; clear m1; rw [HA.out] at x1; rw [HB.out] at y1; have c0 := HC0.out _ hW j _ _ HX.out rfl; have d0 := HD0.out _ hW j _ _ HY.out rfl; have c1 := HC.out _ hW j _ 1 _ HX.out rfl; have d1 := HD.out _ hW j _ 1 _ HY.out rfl; go_simp; first | done | with_reducible rfl)) ?_; simp only [Act.put, List.setIfInBounds_toArray, List.set_cons_zero, List.set_cons_succ]))
                      refine mix_nil (fun W hW => ?_)
                      have hq := HBS.out W hW
                      clear hW HBS
                      go_wp2_with fail
                      go_roundw
                      case rel => exact ⟨j + 1, hlt, by go_num, hq, HN⟩
                      case measure => simp [intOf]; omega
                  · obtain rfl : j = l.sigs.length := by omega
                    have HE1 : Hid (l.sigs = m.sigs) := Lib.hid (take_done HLe1.out HNo.out)
                    clear HNo hj hlt
                    go_wp2_with fail
                    clear x1
                    go_loopw [7] (fun i wr => ∃ j : Nat, j ≤ l.exits.length ∧ i = .int .i64 j ∧ Q wr ∧ Hid ((l.exits.map Exm.pure).take j = (m.exits.map Exm.pure).take j)) (fun i _ => l.exits.length - (intOf i).toNat)
                    case atStart => exact ⟨0, by omega, rfl, hq, Lib.hid rfl⟩
                    case round =>
                      clear hq
                      obtain ⟨j, hj, rfl, hq, HNo⟩ := hrel
                      have x2 := (HQl.out _ hq).cell_at 2 rfl
                      by_cases hlt : j < l.exits.length
                      · have hlt' : (j : Int) < l.exits.length := by omega
                        have hlm : j < m.exits.length := by have := HLe2.out; omega
                        have hlm' : (j : Int) < m.exits.length := by omega
                        obtain ⟨⟨xa, xb, xA, xc, xo⟩, hx⟩ : ∃ x, l.exits[j]? = some x := ⟨_, List.getElem?_eq_getElem hlt⟩
                        obtain ⟨⟨ya, yb, yA, yc, yo⟩, hy⟩ : ∃ y, m.exits[j]? = some y := ⟨_, List.getElem?_eq_getElem hlm⟩
                        obtain ⟨o1, o2, HA, HC0, HC⟩ := row_at (n := 3) (fun _ => rfl) (by omega) (fun W hW => (HQL.out W hW).exits) hq hx
                        obtain ⟨p1, p2, HB, HD0, HD⟩ := row_at (n := 3) (fun _ => rfl) (by omega) (fun W hW => (HQM.out W hW).exits) hq hy
                        have HX := Lib.hid hx
                        have HY := Lib.hid hy
                        clear hx hy
                        obtain ⟨bb, hbb⟩ : ∃ z, decide ((xa, xb) = (ya, yb)) = z := ⟨_, rfl⟩
                        obtain ⟨bs, hbs⟩ : ∃ z, decide (xo = yo) = z := ⟨_, rfl⟩
                        have KS := Lib.hid (fun W hW => stepsR_B (w := W) xc yc ((HQL.out W hW).overs _ (List.mem_of_getElem? HX.out)) ((HQM.out W hW).overs _ (List.mem_of_getElem? HY.out)) ((HQL.out W hW).nO _ (List.mem_of_getElem? HX.out)) hbs)
                        have hx' : (l.exits.map Exm.pure)[j]? = some (xa, xb, xo) := by rw [List.getElem?_map, HX.out]; rfl
                        have hy' : (m.exits.map Exm.pure)[j]? = some (ya, yb, yo) := by rw [List.getElem?_map, HY.out]; rfl
                        have hneq := fun W => neq_prtD W xa xb ya yb
                        rw [hbb] at hneq
                        cases bb
                        · have HF : Hid (false = r) := Lib.hid (by rw [← HR.out]; exact (same_no3 (ne_of_at hx' hy' (fun e => of_decide_eq_false hbb (by cases e; rfl)))).symm)
                          clear hbb hbs hx' hy' KS
                          go_wp2_with fail
                          clear x2
                          have HBS : Hid (∀ W, Below wr.heap.size wr W → Q W) := Lib.hid (fun W hB => HQ.out _ _ hq hB)
                          clear hq
                          refine region_mix (Below wr.heap.size wr) [(0, false), (1, false), (2, false), (3, false), (4, false), (5, false), (6, false), (7, false), (8, false), (9, false), (10, false), (11, false), (12, false), (13, false), (14, false), (15, false), (16, false), (17, false), (18, false), (19, false), (20, false), (21, false), (22, false), (23, false), (24, false), (25, false), (26, false), (27, false), (28, false)] (by kernel_rfl) (by kernel_rfl) (Below wr.heap.size wr) ⟨Closed.below wr, fun _ h => h⟩ (Below.refl _ _).drew ?_
                          simp only [pickOps, List.getElem?_cons_zero, List.getElem?_cons_succ]
                          repeat (first | (refine mix_skip (by rfl) ?_; simp only [Act.put, List.setIfInBounds_toArray, List.set_cons_zero, List.set_cons_succ]) | (refine mix_read _ (by rfl) (fun W hW => by (have hW := HBS.out W hW; have m0 := HQl.out _ hW; have x0 := m0.cell_at 0 rfl; have x1 := m0.cell_at 1 rfl; have x2 := m0.cell_at 2 rfl; have x3 := m0.cell_at 3 rfl; have x4 := m0.cell_at 4 rfl; have x5 := m0.cell_at 5 rfl; have x6 := m0.cell_at 6 rfl; have x7 := m0.cell_at 7 rfl; have x8 := m0.cell_at 8 rfl; have x9 := m0.cell_at 9 rfl; have x10 := m0.cell_at 10 rfl; clear m0; have m1 := HQm.out _ hW; have y0 := m1.cell_at 0 rfl; have y1 := m1.cell_at 1 rfl; have y2 := m1.cell_at 2 rfl; have y3 := m1.cell_at 3 rfl; have y4 := m1.cell_at 4 rfl; have y5 := m1.cell_at 5 rfl; have y6 := m1.cell_at 6 rfl; have y7 := m1.cell_at 7 rfl; have y8 := m1.cell_at 8 rfl; have y9 := m1.cell_at 9 rfl; have y10 := m1.cell_at 10 rfl; clear m1; rw [HA.out] at x2; rw [HB.out] at y2; have c0 := HC0.out _ hW j _ _ HX.out rfl; have d0 := HD0.out _ hW j _ _ HY.out rfl; have c1 := HC.out _ hW j _ 1 _ HX.out rfl; have d1 := HD.out _ hW j _ 1 _ HY.out rfl; have c2 := HC.out _ hW j _ 2 _ HX.out rfl; have d2 := HD.out _ hW j _ 2 _ HY.out rfl; go_simp; first | done | with_reducible rfl)) ?_; simp only [Act.put, List.setIfInBounds_toArray, List.set_cons_zero, List.set_cons_succ]))
                          refine mix_nil (fun W hW => ?_)
                          have hq := HBS.out W hW
                          clear hW HBS
                          go_wp2_with fail
                          go_ret
                          exact ⟨ret_bool HF.out, HQp.out _ hq⟩
                        · cases bs
                          · have HF : Hid (false = r) := Lib.hid (by rw [← HR.out]; exact (same_no3 (ne_of_at hx' hy' (fun e => of_decide_eq_false hbs (by cases e; rfl)))).symm)
                            clear hbb hbs hx' hy'
                            go_wp2_with fail
                            clear x2
                            have HBS : Hid (∀ W, Below wr.heap.size wr W → Q W) := Lib.hid (fun W hB => HQ.out _ _ hq hB)
                            clear hq
                            refine region_mix (Below wr.heap.size wr) [(0, false), (1, false), (2, false), (3, false), (4, false), (5, false), (6, false), (7, false), (8, false), (9, false), (10, false), (11, false), (12, false), (13, false), (14, false), (15, false), (16, false), (17, false), (18, false), (19, false), (20, false), (21, false), (22, false), (23, false), (24, false), (25, false), (26, false), (27, false), (28, false)] (by kernel_rfl) (by kernel_rfl) (Below wr.heap.size wr) ⟨Closed.below wr, fun _ h => h⟩ (Below.refl _ _).drew ?_
                            simp only [pickOps, List.getElem?_cons_zero, List.getElem?_cons_succ]
                            repeat (first | (refine mix_skip (by rfl) ?_; simp only [Act.put, List.setIfInBounds_toArray, List.set_cons_zero, List.set_cons_succ]) | (refine mix_read _ (by rfl) (fun W hW => by (have hW := HBS.out W hW; have m0 := HQl.out _ hW; have x0 := m0.cell_at 0 rfl; have x1 := m0.cell_at 1 rfl; have x2 := m0.cell_at 2 rfl; have x3 := m0.cell_at 3 rfl; have x4 := m0.cell_at 4 rfl; have x5 := m0.cell_at 5 rfl; have x6 := m0.cell_at 6 rfl; have x7 := m0.cell_at 7 rfl; have x8 := m0.cell_at 8 rfl; have x9 := m0.cell_at 9 rfl; have x10 := m0.cell_at 10 rfl; clear m0; have m1 := HQm.out _ hW; have y0 := m1.cell_at 0 rfl; have y1 := m1.cell_at 1 rfl; have y2 := m1.cell_at 2 rfl; have y3 := m1.cell_at 3 rfl; have y4 := m1.cell_at 4 rfl; have y5 := m1.cell_at 5 rfl; have y6 := m1.cell_at 6 rfl; have y7 := m1.cell_at 7 rfl; have y8 := m1.cell_at 8 rfl; have y9 := m1.cell_at 9 rfl; have y10 := m1.cell_at 10 rfl; clear m1; rw [HA.out] at x2; rw [HB.out] at y2; have c0 := HC0.out _ hW j _ _ HX.out rfl; have d0 := HD0.out _ hW j _ _ HY.out rfl; have c1 := HC.out _ hW j _ 1 _ HX.out rfl; have d1 := HD.out _ hW j _ 1 _ HY.out rfl; have c2 := HC.out _ hW j _ 2 _ HX.out rfl; have d2 := HD.out _ hW j _ 2 _ HY.out rfl; go_simp; first | done | with_reducible rfl)) ?_; simp only [Act.put, List.setIfInBounds_toArray, List.set_cons_zero, List.set_cons_succ]) | (refine mix_call _ _ _ (by rfl) (fun W hW => by (have hW := HBS.out W hW; have m0 := HQl.out _ hW; have x0 := m0.cell_at 0 rfl; have x1 := m0.cell_at 1 rfl; have x2 := m0.cell_at 2 rfl; have x3 := m0.cell_at 3 rfl; have x4 := m0.cell_at 4 rfl; have x5 := m0.cell_at 5 rfl; have x6 := m0.cell_at 6 rfl; have x7 := m0.cell_at 7 rfl; have x8 := m0.cell_at 8 rfl; have x9 := m0.cell_at 9 rfl; have x10 := m0.cell_at 10 rfl; clear m0; have m1 := HQm.out _ hW; have y0 := m1.cell_at 0 rfl; have y1 := m1.cell_at 1 rfl; have y2 := m1.cell_at 2 rfl; have y3 := m1.cell_at 3 rfl; have y4 := m1.cell_at 4 rfl; have y5 := m1.cell_at 5 rfl; have y6 := m1.cell_at 6 rfl; have y7 := m1.cell_at 7 rfl; have y8 := m1.cell_at 8 rfl; have y9 := m1.cell_at 9 rfl; have y10 := m1.cell_at 10 rfl; clear m1; rw [HA.out] at x2; rw [HB.out] at y2; have c0 := HC0.out _ hW j _ _ HX.out rfl; have d0 := HD0.out _ hW j _ _ HY.out rfl; have c1 := HC.out _ hW j _ 1 _ HX.out rfl; have d1 := HD.out _ hW j _ 1 _ HY.out rfl; have c2 := HC.out _ hW j _ 2 _ HX.out rfl; have d2 := HD.out _ hW j _ 2 _ HY.out rfl; go_simp; first | done | rfl)) (fun W hW => KS.out W (HBS.out W hW)) ?_; simp only [Act.put, List.setIfInBounds_toArray, List.set_cons_zero, List.set_cons_succ]))
                            refine mix_nil (fun W hW => ?_)
                            have hq := HBS.out W hW
                            clear hW HBS
                            go_wp2_with fail
                            go_ret
                            exact ⟨ret_bool HF.out, HQp.out _ hq⟩
                          · have HN : Hid ((l.exits.map Exm.pure).take (j + 1) = (m.exits.map Exm.pure).take (j + 1)) := Lib.hid (take_next HNo.out hx' (by have e1 := of_decide_eq_true hbb; have e2 := of_decide_eq_true hbs; cases e1; cases e2; exact hy'))
                            clear hbb hbs hx' hy'
                            go_wp2_with fail
                            clear x2
                            have HBS : Hid (∀ W, Below wr.heap.size wr W → Q W) := Lib.hid (fun W hB => HQ.out _ _ hq hB)
                            clear hq
                            refine region_mix (Below wr.heap.size wr) [(0, false), (1, false), (2, false), (3, false), (4, false), (5, false), (6, false), (7, false), (8, false), (9, false), (10, false), (11, false), (12, false), (13, false), (14, false), (15, false), (16, false), (17, false), (18, false), (19, false), (20, false), (21, false), (22, false), (23, false), (24, false), (25, false), (26, false), (27, false), (28, false)] (by kernel_rfl) (by kernel_rfl) (Below wr.heap.size wr) ⟨Closed.below wr, fun _ h => h⟩ (Below.refl _ _).drew ?_
                            simp only [pickOps, List.getElem?_cons_zero, List.getElem?_cons_succ]
                            repeat (first | (refine mix_skip (by rfl) ?_; simp only [Act.put, List.setIfInBounds_toArray, List.set_cons_zero, List.set_cons_succ]) | (refine mix_read _ (by rfl) (fun W hW => by (have hW := HBS.out W hW; have m0 := HQl.out _ hW; have x0 := m0.cell_at 0 rfl; have x1 := m0.cell_at 1 rfl; have x2 := m0.cell_at 2 rfl; have x3 := m0.cell_at 3 rfl; have x4 := m0.cell_at 4 rfl; have x5 := m0.cell_at 5 rfl; have x6 := m0.cell_at 6 rfl; have x7 := m0.cell_at 7 rfl; have x8 := m0.cell_at 8 rfl; have x9 := m0.cell_at 9 rfl; have x10 := m0.cell_at 10 rfl; clear m0; have m1 := HQm.out _ hW; have y0 := m1.cell_at 0 rfl; have y1 := m1.cell_at 1 rfl; have y2 := m1.cell_at 2 rfl; have y3 := m1.cell_at 3 rfl; have y4 := m1.cell_at 4 rfl; have y5 := m1.cell_at 5 rfl; have y6 := m1.cell_at 6 rfl; have y7 := m1.cell_at 7 rfl; have y8 := m1.cell_at 8 rfl; have y9 := m1.cell_at 9 rfl; have y10 := m1.cell_at 10 rfl; clear m1; rw [HA.out] at x2; rw [HB.out] at y2; have c0 := HC0.out _ hW j _ _ HX.out rfl; have d0 := HD0.out _ hW j _ _ HY.out rfl; have c1 := HC.out _ hW j _ 1 _ HX.out rfl; have d1 := HD.out _ hW j _ 1 _ HY.out rfl; have c2 := HC.out _ hW j _ 2 _ HX.out rfl; have d2 := HD.out _ hW j _ 2 _ HY.out rfl; go_simp; first | done | with_reducible rfl)) ?_; simp only [Act.put, List.setIfInBounds_toArray, List.set_cons_zero, List.set_cons_succ]) | (refine mix_call _ _ _ (by rfl) (fun W hW => by (have hW := HBS.out W hW; have m0 := HQl.out _ hW; have x0 := m0.cell_at 0 rfl; have x1 := m0.cell_at 1 rfl; have x2 := m0.cell_at 2 rfl; have x3 := m0.cell_at 3 rfl; have x4 := m0.cell_at 4 rfl; have x5 := m0.cell_at 5 rfl; have x6 := m0.cell_at 6 rfl; have x7 := m0.cell_at 7 rfl; have x8 := m0.cell_at 8 rfl; have x9 := m0.cell_at 9 rfl; have x10 := m0.cell_at 10 rfl; clear m0; have m1 := HQm.out _ hW; have y0 := m1.cell_at 0 rfl; have y1 := m1.cell_at 1 rfl; have y2 := m1.cell_at 2 rfl; have y3 := m1.cell_at 3 rfl; have y4 := m1.cell_at 4 rfl; have y5 := m1.cell_at 5 rfl; have y6 := m1.cell_at 6 rfl; have y7 := m1.cell_at 7 rfl; have y8 := m1.cell_at 8 rfl; have y9 := m1.cell_at 9 rfl; have y10 := m1.cell_at 10 rfl; clear m1; rw [HA.out] at x2; rw [HB.out] at y2; have c0 := HC0.out _ hW j _ _ HX.out rfl; have d0 := HD0.out _ hW j _ _ HY.out rfl; have c1 := HC.out _ hW j _ 1 _ HX.out rfl; have d1 := HD.out _ hW j _ 1 _ HY.out rfl; have c2 := HC.out _ hW j _ 2 _ HX.out rfl; have d2 := HD.out _ hW j _ 2 _ HY.out rfl; go_simp; first | done | rfl)) (fun W hW => KS.out W (HBS.out W hW)) ?_; simp only [Act.put, List.setIfInBounds_toArray, List.set_cons_zero, List.set_cons_succ]))
                            refine mix_nil (fun W hW => ?_)
                            have hq := HBS.out W hW
                            clear hW HBS
                            go_wp2_with fail
                            go_roundw
                            case rel => exact ⟨j + 1, hlt, by go_num, hq, HN⟩
                            case measure => simp [intOf]; omega
                      · obtain rfl : j = l.exits.length := by omega
                        have HE2 : Hid (l.exits.map Exm.pure = m.exits.map Exm.pure) := Lib.hid (take_done (by rw [List.length_map, List.length_map]; exact HLe2.out) (by rw [List.length_map]; exact HNo.out))
                        clear HNo hj hlt
                        go_wp2_with fail
                        clear x2
                        go_loopw [8] (fun i wr => ∃ j : Nat, j ≤ l.flanks.length ∧ i = .int .i64 j ∧ Q wr ∧ Hid ((l.flanks).take j = (m.flanks).take j)) (fun i _ => l.flanks.length - (intOf i).toNat)
                        case atStart => exact ⟨0, by omega, rfl, hq, Lib.hid rfl⟩
                        case round =>
                          clear hq
                          obtain ⟨j, hj, rfl, hq, HNo⟩ := hrel
                          have x3 := (HQl.out _ hq).cell_at 3 rfl
                          by_cases hlt : j < l.flanks.length
                          · have hlt' : (j : Int) < l.flanks.length := by omega
                            have hlm : j < m.flanks.length := by have := HLe3.out; omega
                            have hlm' : (j : Int) < m.flanks.length := by omega
                            obtain ⟨⟨xa, xb, xc, xd⟩, hx⟩ : ∃ x, l.flanks[j]? = some x := ⟨_, List.getElem?_eq_getElem hlt⟩
                            obtain ⟨⟨ya, yb, yc, yd⟩, hy⟩ : ∃ y, m.flanks[j]? = some y := ⟨_, List.getElem?_eq_getElem hlm⟩
                            obtain ⟨o1, o2, HA, HC0, HC⟩ := row_at (n := 4) (fun _ => rfl) (by omega) (fun W hW => (HQL.out W hW).flanks) hq hx
                            obtain ⟨p1, p2, HB, HD0, HD⟩ := row_at (n := 4) (fun _ => rfl) (by omega) (fun W hW => (HQM.out W hW).flanks) hq hy
                            have HX := Lib.hid hx
                            have HY := Lib.hid hy
                            clear hx hy
                            obtain ⟨bb, hbb⟩ : ∃ z, decide ((xa, xb, xc, xd) = (ya, yb, yc, yd)) = z := ⟨_, rfl⟩
                            have hneq := fun W => neq_flkD W xa xb xc xd ya yb yc yd
                            rw [hbb] at hneq
                            cases bb
                            · have HF : Hid (false = r) := Lib.hid (by rw [← HR.out]; exact (same_no4 (ne_of_at HX.out HY.out (of_decide_eq_false hbb))).symm)
                              clear hbb
                              go_wp2_with fail
                              clear x3
                              have HBS : Hid (∀ W, Below wr.heap.size wr W → Q W) := Lib.hid (fun W hB => HQ.out _ _ hq hB)
                              clear hq
                              refine region_mix (Below wr.heap.size wr) [(0, false), (1, false), (2, false), (3, false), (4, false), (5, false), (6, false), (7, false), (8, false), (9, false), (10, false)] (by kernel_rfl) (by kernel_rfl) (Below wr.heap.size wr) ⟨Closed.below wr, fun _ h => h⟩ (Below.refl _ _).drew ?_
                              simp only [pickOps, List.getElem?_cons_zero, List.getElem?_cons_succ]
                              repeat (first | (refine mix_skip (by rfl) ?_; simp only [Act.put, List.setIfInBounds_toArray, List.set_cons_zero, List.set_cons_succ]) | (refine mix_read _ (by rfl) (fun W hW => by (have hW := HBS.out W hW; have m0 := HQl.out _ hW; have x0 := m0.cell_at 0 rfl; have x1 := m0.cell_at 1 rfl; have x2 := m0.cell_at 2 rfl; have x3 := m0.cell_at 3 rfl; have x4 := m0.cell_at 4 rfl; have x5 := m0.cell_at 5 rfl; have x6 := m0.cell_at 6 rfl; have x7 := m0.cell_at 7 rfl; have x8 := m0.cell_at 8 rfl; have x9 := m0.cell_at 9 rfl; have x10 := m0.cell_at 10 rfl; clear m0; have m1 := HQm.out _ hW; have y0 := m1.cell_at 0 rfl; have y1 := m1.cell_at 1 rfl; have y2 := m1.cell_at 2 rfl; have y3 := m1.cell_at 3 rfl; have y4 := m1.cell_at 4 rfl; have y5 := m1.cell_at 5 rfl; have y6 := m1.cell_at 6 rfl; have y7 := m1.cell_at 7 rfl; have y8 := m1.cell_at 8 rfl; have y9 := m1.cell_at 9 rfl; have y10 := m1.cell_at 10 rfl; clear m1; rw [HA.out] at x3; rw [HB.out] at y3; have c0 := HC0.out _ hW j _ _ HX.out rfl; have d0 := HD0.out _ hW j _ _ HY.out rfl; have c1 := HC.out _ hW j _ 1 _ HX.out rfl; have d1 := HD.out _ hW j _ 1 _ HY.out rfl; have c2 := HC.out _ hW j _ 2 _ HX.out rfl; have d2 := HD.out _ hW j _ 2 _ HY.out rfl; have c3 := HC.out _ hW j _ 3 _ HX.out rfl; have d3 := HD.out _ hW j _ 3 _ HY.out rfl; go_simp; first | done | with_reducible rfl)) ?_; simp only [Act.put, List.setIfInBounds_toArray, List.set_cons_zero, List.set_cons_succ]))
                              refine mix_nil (fun W hW => ?_)
                              have hq := HBS.out W hW
                              clear hW HBS
                              go_wp2_with fail
                              go_ret
                              exact ⟨ret_bool HF.out, HQp.out _ hq⟩
                            · have HN : Hid ((l.flanks).take (j + 1) = (m.flanks).take (j + 1)) := Lib.hid (take_next HNo.out HX.out (by rw [of_decide_eq_true hbb]; exact HY.out))
                              clear hbb
                              go_wp2_with fail
                              clear x3
                              have HBS : Hid (∀ W, Below wr.heap.size wr W → Q W) := Lib.hid (fun W hB => HQ.out _ _ hq hB)
                              clear hq
                              refine region_mix (Below wr.heap.size wr) [(0, false), (1, false), (2, false), (3, false), (4, false), (5, false), (6, false), (7, false), (8, false), (9, false), (10, false)] (by kernel_rfl) (by kernel_rfl) (Below wr.heap.size wr) ⟨Closed.below wr, fun _ h => h⟩ (Below.refl _ _).drew ?_
                              simp only [pickOps, List.getElem?_cons_zero, List.getElem?_cons_succ]
                              repeat (first | (refine mix_skip (by rfl) ?_; simp only [Act.put, List.setIfInBounds_toArray, List.set_cons_zero, List.set_cons_succ]) | (refine mix_read _ (by rfl) (fun W hW => by (have hW := HBS.out W hW; have m0 := HQl.out _ hW; have x0 := m0.cell_at 0 rfl; have x1 := m0.cell_at 1 rfl; have x2 := m0.cell_at 2 rfl; have x3 := m0.cell_at 3 rfl; have x4 := m0.cell_at 4 rfl; have x5 := m0.cell_at 5 rfl; have x6 := m0.cell_at 6 rfl; have x7 := m0.cell_at 7 rfl; have x8 := m0.cell_at 8 rfl; have x9 := m0.cell_at 9 rfl; have x10 := m0.cell_at 10 rfl; clear m0; have m1 := HQm.out _ hW; have y0 := m1.cell_at 0 rfl; have y1 := m1.cell_at 1 rfl; have y2 := m1.cell_at 2 rfl; have y3 := m1.cell_at 3 rfl; have y4 := m1.cell_at 4 rfl; have y5 := m1.cell_at 5 rfl; have y6 := m1.cell_at 6 rfl; have y7 := m1.cell_at 7 rfl; have y8 := m1.cell_at 8 rfl; have y9 := m1.cell_at 9 rfl; have y10 := m1.cell_at 10 rfl; clear m1; rw [HA.out] at x3; rw [HB.out] at y3; have c0 := HC0.out _ hW j _ _ HX.out rfl; have d0 := HD0.out _ hW j _ _ HY.out rfl; have c1 := HC.out _ hW j _ 1 _ HX.out rfl; have d1 := HD.out _ hW j _ 1 _ HY.out rfl; have c2 := HC.out _ hW j _ 2 _ HX.out rfl; have d2 := HD.out _ hW j _ 2 _ HY.out rfl; have c3 := HC.out _ hW j _ 3 _ HX.out rfl; have d3 := HD.out _ hW j _ 3 _ HY.out rfl; go_simp; first | done | with_reducible rfl)) ?_; simp only [Act.put, List.setIfInBounds_toArray, List.set_cons_zero, List.set_cons_succ]))
                              refine mix_nil (fun W hW => ?_)
                              have hq := HBS.out W hW
                              clear hW HBS
                              go_wp2_with fail
                              go_roundw
                              case rel => exact ⟨j + 1, hlt, by go_num, hq, HN⟩
                              case measure => simp [intOf]; omega
                          · obtain rfl : j = l.flanks.length := by omega
                            have HE3 : Hid (l.flanks = m.flanks) := Lib.hid (take_done HLe3.out HNo.out)
                            clear HNo hj hlt
                            go_wp2_with fail
                            clear x3
                            have HF : Hid (true = r) := Lib.hid (by rw [← HR.out]; exact (same_yes HTB.out HE0.out HE1.out HE2.out HE3.out).symm)
                            go_wp2_with fail
                            go_ret
                            exact ⟨ret_bool HF.out, HQp.out _ hq⟩
        · have d3 : ((l.flanks.length : Int) != (m.flanks.length : Int)) = true := by rw [bne_iff_ne]; omega
          have HF : Hid (false = r) := Lib.hid (by rw [← HR.out]; exact (same_no4 (fun e => h3 (by rw [e]))).symm)
          clear h3
          have hW := hq
          have m0 := HQl.out _ hW
          have x0 := m0.cell_at 0 rfl
          have x1 := m0.cell_at 1 rfl
          have x2 := m0.cell_at 2 rfl
          have x3 := m0.cell_at 3 rfl
          have x4 := m0.cell_at 4 rfl
          have x5 := m0.cell_at 5 rfl
          have x6 := m0.cell_at 6 rfl
          have x7 := m0.cell_at 7 rfl
          have x8 := m0.cell_at 8 rfl
          have x9 := m0.cell_at 9 rfl
          have x10 := m0.cell_at 10 rfl
          clear m0
          have m1 := HQm.out _ hW
          have y0 := m1.cell_at 0 rfl
          have y1 := m1.cell_at 1 rfl
          have y2 := m1.cell_at 2 rfl
          have y3 := m1.cell_at 3 rfl
          have y4 := m1.cell_at 4 rfl
          have y5 := m1.cell_at 5 rfl
          have y6 := m1.cell_at 6 rfl
          have y7 := m1.cell_at 7 rfl
          have y8 := m1.cell_at 8 rfl
          have y9 := m1.cell_at 9 rfl
          have y10 := m1.cell_at 10 rfl
          clear m1
          clear hW
          go_enter Tryz.func14, Tryz.ntmps14
          go_wp2_with fail
          go_ret
          exact ⟨ret_bool HF.out, HQp.out _ hq⟩
      · have d2 : ((l.exits.length : Int) != (m.exits.length : Int)) = true := by rw [bne_iff_ne]; omega
        have HF : Hid (false = r) := Lib.hid (by rw [← HR.out]; exact (same_no3 (fun e => h2 (by have := congrArg List.length e; simpa using this))).symm)
        clear h2
        have hW := hq
        have m0 := HQl.out _ hW
        have x0 := m0.cell_at 0 rfl
        have x1 := m0.cell_at 1 rfl
        have x2 := m0.cell_at 2 rfl
        have x3 := m0.cell_at 3 rfl
        have x4 := m0.cell_at 4 rfl
        have x5 := m0.cell_at 5 rfl
        have x6 := m0.cell_at 6 rfl
        have x7 := m0.cell_at 7 rfl
        have x8 := m0.cell_at 8 rfl
        have x9 := m0.cell_at 9 rfl
        have x10 := m0.cell_at 10 rfl
        clear m0
        have m1 := HQm.out _ hW
        have y0 := m1.cell_at 0 rfl
        have y1 := m1.cell_at 1 rfl
        have y2 := m1.cell_at 2 rfl
        have y3 := m1.cell_at 3 rfl
        have y4 := m1.cell_at 4 rfl
        have y5 := m1.cell_at 5 rfl
        have y6 := m1.cell_at 6 rfl
        have y7 := m1.cell_at 7 rfl
        have y8 := m1.cell_at 8 rfl
        have y9 := m1.cell_at 9 rfl
        have y10 := m1.cell_at 10 rfl
        clear m1
        clear hW
        go_enter Tryz.func14, Tryz.ntmps14
        go_wp2_with fail
        go_ret
        exact ⟨ret_bool HF.out, HQp.out _ hq⟩
    · have d1 : ((l.sigs.length : Int) != (m.sigs.length : Int)) = true := by rw [bne_iff_ne]; omega
      have HF : Hid (false = r) := Lib.hid (by rw [← HR.out]; exact (same_no2 (fun e => h1 (by rw [e]))).symm)
      clear h1
      have hW := hq
      have m0 := HQl.out _ hW
      have x0 := m0.cell_at 0 rfl
      have x1 := m0.cell_at 1 rfl
      have x2 := m0.cell_at 2 rfl
      have x3 := m0.cell_at 3 rfl
      have x4 := m0.cell_at 4 rfl
      have x5 := m0.cell_at 5 rfl
      have x6 := m0.cell_at 6 rfl
      have x7 := m0.cell_at 7 rfl
      have x8 := m0.cell_at 8 rfl
      have x9 := m0.cell_at 9 rfl
      have x10 := m0.cell_at 10 rfl
      clear m0
      have m1 := HQm.out _ hW
      have y0 := m1.cell_at 0 rfl
      have y1 := m1.cell_at 1 rfl
      have y2 := m1.cell_at 2 rfl
      have y3 := m1.cell_at 3 rfl
      have y4 := m1.cell_at 4 rfl
      have y5 := m1.cell_at 5 rfl
      have y6 := m1.cell_at 6 rfl
      have y7 := m1.cell_at 7 rfl
      have y8 := m1.cell_at 8 rfl
      have y9 := m1.cell_at 9 rfl
      have y10 := m1.cell_at 10 rfl
      clear m1
      clear hW
      go_enter Tryz.func14, Tryz.ntmps14
      go_wp2_with fail
      go_ret
      exact ⟨ret_bool HF.out, HQp.out _ hq⟩
  · have d0 : ((l.secs.length : Int) != (m.secs.length : Int)) = true := by rw [bne_iff_ne]; omega
    have HF : Hid (false = r) := Lib.hid (by rw [← HR.out]; exact (same_no1 (fun e => h0 (by rw [e]))).symm)
    clear h0
    have hW := hq
    have m0 := HQl.out _ hW
    have x0 := m0.cell_at 0 rfl
    have x1 := m0.cell_at 1 rfl
    have x2 := m0.cell_at 2 rfl
    have x3 := m0.cell_at 3 rfl
    have x4 := m0.cell_at 4 rfl
    have x5 := m0.cell_at 5 rfl
    have x6 := m0.cell_at 6 rfl
    have x7 := m0.cell_at 7 rfl
    have x8 := m0.cell_at 8 rfl
    have x9 := m0.cell_at 9 rfl
    have x10 := m0.cell_at 10 rfl
    clear m0
    have m1 := HQm.out _ hW
    have y0 := m1.cell_at 0 rfl
    have y1 := m1.cell_at 1 rfl
    have y2 := m1.cell_at 2 rfl
    have y3 := m1.cell_at 3 rfl
    have y4 := m1.cell_at 4 rfl
    have y5 := m1.cell_at 5 rfl
    have y6 := m1.cell_at 6 rfl
    have y7 := m1.cell_at 7 rfl
    have y8 := m1.cell_at 8 rfl
    have y9 := m1.cell_at 9 rfl
    have y10 := m1.cell_at 10 rfl
    clear m1
    clear hW
    go_enter Tryz.func14, Tryz.ntmps14
    go_wp2_with fail
    go_ret
    exact ⟨ret_bool HF.out, HQp.out _ hq⟩
end
end Go.Proofs.YtegflmaobmibnaaGreatDoor
namespace Go.Proofs.YtegflmaobmibnaaGreatDoor
open Go.RowKit Go.Shelf
set_option linter.unusedVariables false
set_option linter.unusedSimpArgs false

section
variable {l : Lay} {w : World}
theorem rightR_B (hL : Lies l w) {r : Bool} (hr : rightL l = r) : Calls Tryz.prog 19 #[l.val] w fun e w' => e = .returned (.bool r) ∧ Below w.heap.size w w' :=
  rightR1_P (P := fun W => Below w.heap.size w W) (Closed.below w) (fun W h => Lies.closed l _ _ hL h) ((rightR_eq l).trans hr) (Below.refl _ _)
theorem sameR_B (hL : Lies l w) {m : Lay} (hM : Lies m w) {r : Bool} (hr : sameV l m = r) : Calls Tryz.prog 14 #[l.val, m.val] w fun e w' => e = .returned (.bool r) ∧ Below w.heap.size w w' :=
  sameR_P (P := fun W => Below w.heap.size w W) (Closed.below w) (fun W h => Lies.closed l _ _ hL h) (fun W h => Lies.closed m _ _ hM h) hr (Below.refl _ _)
end
section
variable {P : Program} {ops : Array Oper} {B S : World → Prop} {L : (World → Prop) → Act → Prop} {o : Oper} {l : List (Oper × Bool)} {a : Act}
/-- A call of what only this kind of world tells: it comes alone. -/
theorem mix_ask (f : FuncId) (args : Array Value) (v : Value) (hF : Fam B S) (hw : Region.wanted o (yielded ops a.tmps) = true) (hv : ∀ w, S w → (execOp a.eval o).run P w = .ok (.enter f args) w)
    (hc : ∀ w, S w → Calls P f args w fun e w' => e = .returned v ∧ Below w.heap.size w w') (h : wpMix P ops (Fam B) L l S (a.put o.dst v)) : wpMix P ops (Fam B) L ((o, true) :: l) S a :=
  ⟨hw, fun w hS => by
    unfold Oper.wp
    rw [hv w hS]
    refine (hc w hS).mono ?_
    rintro e w' ⟨rfl, hb⟩
    exact ⟨v, S, rfl, hF, hF.1 _ _ hS hb, h⟩⟩
end
end Go.Proofs.YtegflmaobmibnaaGreatDoor
