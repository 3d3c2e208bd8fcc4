/- The document's own layer 13: Clash, Fine. -/
import Derived.Test.YtbdbgoploednbaaDoorQNeeH
namespace Go.Proofs.YtbdbgoploednbaaDoor
open Go.RowKit Go.Shelf
set_option linter.unusedVariables false
set_option linter.unusedSimpArgs false
set_option maxRecDepth 100000

set_option maxRecDepth 100000 in
set_option maxHeartbeats 32000000 in
theorem clashR_any {us vs : List (Int × Int × Int)} {A Bv : Option Addr} (ca cb : Nat) {w : World} (hA : Row w w.heap.size A (us.flatMap needCells)) (hB : Row w w.heap.size Bv (vs.flatMap needCells)) (hu : us.length ≤ 1000000) (hv : vs.length ≤ 1000000) {r : Bool} (hr : clashN (us ++ vs) = r) :
    Calls Tryd.prog 20 #[.slice A us.length ca, .slice Bv vs.length cb] w fun e w' => e = .returned (.bool r) ∧ Below w.heap.size w w' := by
  have hnew : (w.alloc (.cells #[] 46)).ownsRow w.heap.size 46 3 (.slice (some ⟨w.heap.size, 0, none⟩) 0 0) ([] : List (Int × Int × Int)).length (([] : List (Int × Int × Int)).flatMap needCells) := owns_empty _ _ _ _ (Nat.le_refl _) (World.alloc_heap_new w _)
  have hb1 := below1 w (.cells #[] 46)
  obtain ⟨v1, W1, hrun1, hO1, hg1⟩ := append_needs13 w.heap.size [] us _ A ca _ _ hnew (hA.on hb1) (by simp) hu hb1.size
  rw [List.nil_append] at hO1
  have hB1 : Below w.heap.size w W1 := hb1.grown hg1 hb1.size (fun k e => (hnew.lt k e).1)
  obtain ⟨v2, W2, hrun2, hO2, hg2⟩ := append_needs13 w.heap.size us vs _ Bv cb _ _ hO1 (hB.on hB1) hu hv hB1.size
  have hB2 : Below w.heap.size w W2 := hB1.grown hg2 hB1.size (fun k e => (hO1.lt k e).1)
  obtain ⟨A2, c2, rfl, hrow⟩ := owns_read hO2
  have hal : (us ++ vs).length ≤ 2000000 := by rw [List.length_append]; omega
  obtain ⟨ns, hns⟩ : ∃ ns, us ++ vs = ns := ⟨_, rfl⟩
  rw [hns] at hrow hr hrun2 hal
  obtain ⟨Q, HQ, HQ0, HQr, hq⟩ : ∃ Q : World → Prop, Hid (Closed Q) ∧ Hid (∀ W, Q W → Below w.heap.size w W) ∧ Hid (∀ W, Q W → Row W W.heap.size A2 (ns.flatMap needCells)) ∧ Q W2 :=
    ⟨fun W => Below W2.heap.size W2 W, Lib.hid (Closed.below W2), Lib.hid fun W h => hB2.trans (h.mono hB2.size), Lib.hid fun W h => hrow.on h, Below.refl _ _⟩
  have HR := Lib.hid hr
  clear hA hB hnew hb1 hO1 hg1 hB1 hO2 hg2 hB2 hrow hr hns
  go_enter Tryd.func20, Tryd.ntmps20
  go_wp2_with (first | (at_builtin; refine list_append rfl (.tmp 8) (.tmp 9) 33 rfl hrun1 ?_) | (at_builtin; refine list_append rfl (.tmp 10) (.tmp 11) 33 rfl hrun2 ?_))
  clear hrun1 hrun2 hu hv
  go_loopw [6] (fun i wr => ∃ j : Nat, j ≤ ns.length ∧ i = .int .i64 j ∧ Q wr ∧ Hid (clashN (ns.take j) = false)) (fun i _ => ns.length - (intOf i).toNat)
  case atStart => exact ⟨0, by omega, rfl, hq, Lib.hid rfl⟩
  case round =>
    clear hq
    obtain ⟨i, hi, rfl, hq, HC1⟩ := hrel
    by_cases hlt : i < ns.length
    · have hlt' : (i : Int) < ns.length := by omega
      obtain ⟨⟨x1, x2, x3⟩, hx⟩ : ∃ x, ns[i]? = some x := ⟨_, List.getElem?_eq_getElem hlt⟩
      obtain ⟨o1, o2, HA, HC0, HC⟩ := row_at (n := 3) (fun _ => rfl) (by omega) HQr.out hq hx
      have HX := Lib.hid hx
      clear hx
      obtain rfl := HA.out
      clear HA
      go_wp2_with fail
      go_loopw [7] (fun k wr => ∃ j : Nat, j ≤ i ∧ k = .int .i64 j ∧ Q wr ∧ Hid (NoneUp (pairC (x1, x2, x3)) ns j)) (fun k _ => i - (intOf k).toNat)
      case atStart => exact ⟨0, by omega, rfl, hq, Lib.hid (NoneUp.zero _ _)⟩
      case round =>
        clear hq
        obtain ⟨k, hk, rfl, hq, HNo⟩ := hrel
        by_cases hlt2 : k < i
        · have hlt2' : (k : Int) < (i : Int) := by omega
          obtain ⟨⟨y1, y2, y3⟩, hy⟩ : ∃ y, ns[k]? = some y := ⟨_, List.getElem?_eq_getElem (by omega)⟩
          have HY := Lib.hid hy
          have hkn : (k : Int) < ns.length := by omega
          clear hy
          obtain ⟨wb, rfl⟩ : ∃ W, W = wr := ⟨wr, rfl⟩
          cases he : (x1 == y1)
          · have HN := Lib.hid (HNo.out.succ HY.out (show pairC (x1, x2, x3) (y1, y2, y3) = false by unfold pairC; simp only [he, Bool.false_and]))
            go_wp2_with fail
            refine region_mix Q [(0, false), (1, false), (2, false), (3, false), (4, false), (5, false), (6, false), (7, false), (8, false), (9, false), (10, false), (11, false), (12, false), (13, false), (14, false), (15, false), (16, false), (17, false), (18, false), (19, false), (20, false), (21, false), (22, false), (23, false)] (by kernel_rfl) (by kernel_rfl) Q ⟨HQ.out, fun _ h => h⟩ (HQ.out.drew hq) ?_
            simp only [pickOps, List.getElem?_cons_zero, List.getElem?_cons_succ]
            repeat (first | (refine mix_skip (by rfl) ?_; simp only [Act.put, List.setIfInBounds_toArray, List.set_cons_zero, List.set_cons_succ]) | (refine mix_read _ (by rfl) (fun W hW => by (have c0 := HC0.out W hW i _ _ HX.out rfl; have c1 := HC.out W hW i _ 1 _ HX.out rfl; have d0 := HC0.out W hW k _ _ HY.out rfl; have d1 := HC.out W hW k _ 1 _ HY.out rfl; clear hW; go_simp; first | done | with_reducible rfl)) ?_; simp only [Act.put, List.setIfInBounds_toArray, List.set_cons_zero, List.set_cons_succ]))
            refine mix_nil (fun W hW => ?_)
            have hq := hW
            clear hW
            go_wp2_with fail
            go_roundw
            case rel => exact ⟨k + 1, by omega, by go_num, hq, HN⟩
            case measure => simp [intOf]; omega
          · cases hp : (x2 != y2)
            · have HN := Lib.hid (HNo.out.succ HY.out (show pairC (x1, x2, x3) (y1, y2, y3) = false by unfold pairC; simp only [he, hp, Bool.true_and]))
              go_wp2_with fail
              refine region_mix Q [(0, false), (1, false), (2, false), (3, false), (4, false), (5, false), (6, false), (7, false), (8, false), (9, false), (10, false), (11, false), (12, false), (13, false), (14, false), (15, false), (16, false), (17, false), (18, false), (19, false), (20, false), (21, false), (22, false), (23, false)] (by kernel_rfl) (by kernel_rfl) Q ⟨HQ.out, fun _ h => h⟩ (HQ.out.drew hq) ?_
              simp only [pickOps, List.getElem?_cons_zero, List.getElem?_cons_succ]
              repeat (first | (refine mix_skip (by rfl) ?_; simp only [Act.put, List.setIfInBounds_toArray, List.set_cons_zero, List.set_cons_succ]) | (refine mix_read _ (by rfl) (fun W hW => by (have c0 := HC0.out W hW i _ _ HX.out rfl; have c1 := HC.out W hW i _ 1 _ HX.out rfl; have d0 := HC0.out W hW k _ _ HY.out rfl; have d1 := HC.out W hW k _ 1 _ HY.out rfl; clear hW; go_simp; first | done | with_reducible rfl)) ?_; simp only [Act.put, List.setIfInBounds_toArray, List.set_cons_zero, List.set_cons_succ]))
              refine mix_nil (fun W hW => ?_)
              have hq := hW
              clear hW
              go_wp2_with fail
              go_roundw
              case rel => exact ⟨k + 1, by omega, by go_num, hq, HN⟩
              case measure => simp [intOf]; omega
            · have HF : Hid (true = r) := Lib.hid (by rw [← HR.out]; exact (clash_hit HX.out HY.out (show pairC (x1, x2, x3) (y1, y2, y3) = true by unfold pairC; simp only [he, hp, Bool.true_and])).symm)
              go_wp2_with fail
              refine region_mix Q [(0, false), (1, false), (2, false), (3, false), (4, false), (5, false), (6, false), (7, false), (8, false), (9, false), (10, false), (11, false), (12, false), (13, false), (14, false), (15, false), (16, false), (17, false), (18, false), (19, false), (20, false), (21, false), (22, false), (23, false)] (by kernel_rfl) (by kernel_rfl) Q ⟨HQ.out, fun _ h => h⟩ (HQ.out.drew hq) ?_
              simp only [pickOps, List.getElem?_cons_zero, List.getElem?_cons_succ]
              repeat (first | (refine mix_skip (by rfl) ?_; simp only [Act.put, List.setIfInBounds_toArray, List.set_cons_zero, List.set_cons_succ]) | (refine mix_read _ (by rfl) (fun W hW => by (have c0 := HC0.out W hW i _ _ HX.out rfl; have c1 := HC.out W hW i _ 1 _ HX.out rfl; have d0 := HC0.out W hW k _ _ HY.out rfl; have d1 := HC.out W hW k _ 1 _ HY.out rfl; clear hW; go_simp; first | done | with_reducible rfl)) ?_; simp only [Act.put, List.setIfInBounds_toArray, List.set_cons_zero, List.set_cons_succ]))
              refine mix_nil (fun W hW => ?_)
              have hq := hW
              clear hW
              go_wp2_with fail
              go_ret
              exact ⟨ret_bool HF.out, HQ0.out _ hq⟩
        · obtain rfl : k = i := by omega
          have HN := Lib.hid (clash_next HX.out HC1.out HNo.out)
          go_wp2_with fail
          go_roundw
          case rel => exact ⟨k + 1, hlt, by go_num, hq, HN⟩
          case measure => simp [intOf]; omega
    · obtain rfl : i = ns.length := by omega
      have HF : Hid (false = r) := Lib.hid (by rw [← HR.out]; have := HC1.out; rw [List.take_length] at this; exact this.symm)
      go_wp2_with fail
      go_ret
      exact ⟨ret_bool HF.out, HQ0.out _ hq⟩

set_option maxRecDepth 100000 in
set_option maxHeartbeats 32000000 in
theorem fineR_any {l : Lay} {p : Pth} {w : World} (hL : Lies l w) (hp : PLies p w) (hO : ∀ x ∈ l.exits, x.over.length ≤ 1000) (hF : l.flanks.length ≤ 900) (hS : p.ss.length ≤ 100) (hN : (ofV l p).length ≤ 1000000) {r : Bool} (hr : (!clashN (ofV l p)) = r) :
    Calls Tryd.prog 18 #[l.val, p.val] w fun e w' => e = .returned (.bool r) ∧ Below w.heap.size w w' := by
  obtain ⟨W2, hW2⟩ : ∃ W2, (w.alloc (.cells #[.slice l.As l.secs.length l.cs, .slice l.Ag l.sigs.length l.cg, .slice l.Ae l.exits.length l.ce, .slice l.Af l.flanks.length l.cf, .int .i64 l.t0, .int .i64 l.t1, .int .i64 l.t2, .int .i64 l.t3, .int .i64 l.t4, .int .i64 l.t5, .int .i64 l.t6] 29)).alloc (.cells #[.int .i64 p.s, .int .i64 p.x, .slice p.A p.ss.length p.c] 32) = W2 := ⟨_, rfl⟩
  have HS2 : Hid (Below w.heap.size w W2 ∧ Whole W2 w.heap.size 29 l.cells ∧ Whole W2 (w.heap.size + 1) 32 p.cells) := Lib.hid (by
    rw [← hW2]
    exact ⟨below2 w _ _, (Whole.new w _ l.cells).alloc _, Whole.new_at _ _ p.cells _ (by simp)⟩)
  have KO := Lib.hid (of13R_any (w := W2) (Lies.closed l _ _ hL HS2.out.1) (PLies.closed p _ _ hp HS2.out.1) hO hF hS (ns := ofV l p) rfl)
  rw [← hW2] at HS2
  have m0 := HS2.out.2.1
  have x0 := m0.cell_at 0 rfl
  have x1 := m0.cell_at 1 rfl
  have x2 := m0.cell_at 2 rfl
  have x3 := m0.cell_at 3 rfl
  have x4 := m0.cell_at 4 rfl
  have x5 := m0.cell_at 5 rfl
  have x6 := m0.cell_at 6 rfl
  have x7 := m0.cell_at 7 rfl
  have x8 := m0.cell_at 8 rfl
  have x9 := m0.cell_at 9 rfl
  have x10 := m0.cell_at 10 rfl
  clear m0
  have m0 := HS2.out.2.2
  have y0 := m0.cell_at 0 rfl
  have y1 := m0.cell_at 1 rfl
  have y2 := m0.cell_at 2 rfl
  clear m0
  rw [hW2] at HS2
  have HW2 := Lib.hid hW2
  obtain ⟨c, hc⟩ : ∃ c, clashN (ofV l p) = c := ⟨_, rfl⟩
  rw [hc] at hr
  have HRR := Lib.hid hr
  obtain ⟨ns, hns⟩ : ∃ ns, ofV l p = ns := ⟨_, rfl⟩
  rw [hns] at KO hc hN
  have HC := Lib.hid hc
  have HN := Lib.hid hN
  clear hr hW2 hL hp hO hF hS hN hc hns
  go_enter Tryd.func18, Tryd.ntmps18
  go_wp2_with fail
  try rw [HW2.out]
  refine KO.out.mono ?_
  clear KO x0 x1 x2 x3 x4 x5 x6 x7 x8 x9 x10 y0 y1 y2
  rintro e w3 ⟨v, rfl, hown, hB3⟩
  obtain ⟨A, cA, rfl, hrow⟩ := owns_read hown
  have K := Lib.hid (clashR_any (us := ns) (vs := []) cA 0 (Bv := none) hrow (Row.nil _ _ _) HN.out (by simp) (r := c) (by rw [List.append_nil]; exact HC.out))
  have HB3 := Lib.hid (HS2.out.1.trans (hB3.mono HS2.out.1.size))
  clear hown hrow hB3
  go_wp2_with fail
  refine K.out.mono ?_
  clear K
  rintro e w4 ⟨rfl, hB4⟩
  have HB4 := Lib.hid (HB3.out.trans (hB4.mono HB3.out.size))
  clear hB4
  go_wp2_with fail
  go_ret
  exact ⟨ret_bool HRR.out, HB4.out⟩
end Go.Proofs.YtbdbgoploednbaaDoor
