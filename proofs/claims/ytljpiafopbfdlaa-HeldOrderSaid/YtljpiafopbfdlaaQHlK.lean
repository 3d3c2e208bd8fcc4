/- Package held and the document's own: rows in memory of their own, equal rows, clashes. -/
import Derived.Deep.CutRange
import Derived.RangeFuncNested
import Derived.RangeFuncBound
import Derived.RangeFuncCalls
import Derived.RangeFuncLeaves
import Derived.RangeFuncBox
import Derived.Shelf.Abstract
import Derived.Shelf.RegionOpen
import Derived.WalkKit
import Derived.OwnWalkIn
import Derived.TacticsInMore
import Derived.LoopNIn
import Derived.LoopIn
import Derived.WalkMore
import Derived.Test.YtljpiafopbfdlaaQHlA
import Derived.Test.YtljpiafopbfdlaaQAt
import Derived.Test.YtljpiafopbfdlaaQAr
import Derived.Test.YtljpiafopbfdlaaQAi
namespace Go.Proofs.Ytljpiafopbfdlaa
open Go.RowKit Go.Shelf
set_option linter.unusedVariables false
set_option linter.unusedSimpArgs false

theorem owns_base12 {W : World} {base base' e k n : Nat} {v : Value} {xs : List Value} (h : W.ownsRow base e k v n xs) (hb : base' ≤ base) : W.ownsRow base' e k v n xs := by
  refine ⟨h.1, ?_⟩
  rcases h.2 with h2 | ⟨g, cap, cur, hv, h3, r⟩
  · exact .inl h2
  · exact .inr ⟨g, cap, cur, hv, Nat.le_trans hb h3, r⟩
set_option maxRecDepth 100000 in
set_option maxHeartbeats 8000000 in
theorem own11s_any {p : Pth} {w : World} (hp : PLies p w) (hl : p.ss.length ≤ 1000) : Calls Try.prog 35 #[p.val] w fun e w' => ∃ A c, e = .returned (Pth.val ⟨p.s, p.x, A, c, p.ss⟩) ∧ w'.ownsRow w.heap.size 44 3 (.slice A p.ss.length c) p.ss.length (p.ss.flatMap stpCells) ∧ Below w.heap.size w w' := by
  obtain ⟨W0, hW0⟩ : ∃ W0, (w.alloc (.cells #[.int .i64 p.s, .int .i64 p.x, .slice p.A p.ss.length p.c] 24)).alloc (.cells #[.int .i64 0, .int .i64 0, .slice none 0 0] 24) = W0 := ⟨_, rfl⟩
  have hB0 : Below w.heap.size w W0 := by rw [← hW0]; exact below2 w _ _
  have hb0 : Whole W0 w.heap.size 24 p.cells := by rw [← hW0]; exact (Whole.new w _ p.cells).alloc _
  have hb1 : Whole W0 (w.heap.size + 1) 24 [.int .i64 0, .int .i64 0, .slice none 0 0] := by rw [← hW0]; exact Whole.new_at _ _ [_, _, _] _ (by simp)
  have KC := Lib.hid (cloneStep_any p.A p.c W0 (hp.row.on hB0) hl)
  have HB0 := Lib.hid (And.intro hB0 (And.intro hb0 hb1))
  have HLN := Lib.hid hp.len
  have x2 := hb0.cell_at 2 rfl
  have HW0 := Lib.hid hW0
  clear hW0 hB0 hb0 hb1 hp hl
  go_enter Try.func35, Try.ntmps35
  go_upto_region 1 with (fail)
  rw [HW0.out]
  go_wp2_with fail
  refine KC.out.mono ?_
  clear x2 KC
  rintro e w1 ⟨v, rfl, hown, hB1⟩
  obtain ⟨hB0, hb0, hb1⟩ := HB0.out
  have hs := hb1.lt
  have c0 := hb0.below hB1 hb0.lt
  have c1 := hb1.below hB1 hb1.lt
  have f2 := c0.frozen 2
  have x2 := c0.cell_at 2 rfl
  have c0' := c0.set 2 v
  have c1' := c1.far (p := ⟨w.heap.size, 2, none⟩) (by show w.heap.size + 1 ≠ w.heap.size; omega) v
  have y0 := c0'.cell_at 0 rfl
  have y1 := c0'.cell_at 1 rfl
  have y2 := c0'.cell_at 2 rfl
  have g0 := c1'.frozen 0
  have g1 := c1'.frozen 1
  have g2 := c1'.frozen 2
  have z0 := c1'.cell_at 0 rfl
  have z1 := c1'.cell_at 1 rfl
  have z2 := c1'.cell_at 2 rfl
  have HD := Lib.hid (((c1'.set 0 (.int .i64 p.s)).set 1 (.int .i64 p.x)).set 2 v)
  obtain ⟨A, c, hv, hr⟩ := owns_read hown
  have HBB := Lib.hid (((((hB0.trans (hB1.mono hB0.size)).setCell (p := ⟨w.heap.size, 2, none⟩) (Nat.le_refl _) v).setCell (p := ⟨w.heap.size + 1, 0, none⟩) (by show w.heap.size ≤ w.heap.size + 1; omega) (.int .i64 p.s)).setCell (p := ⟨w.heap.size + 1, 1, none⟩) (by show w.heap.size ≤ w.heap.size + 1; omega) (.int .i64 p.x)).setCell (p := ⟨w.heap.size + 1, 2, none⟩) (by show w.heap.size ≤ w.heap.size + 1; omega) v)
  have hs0 : W0.heap.size = w.heap.size + 2 := by rw [← HW0.out]; simp
  have HS := Lib.hid hs0
  have HO := Lib.hid hown
  clear hown hr c0 c1 c0' c1' hB0 hb0 hb1 hB1 hs hs0
  subst hv
  go_wp2_with fail
  have e0 := HD.out.cell_at 0 rfl
  have e1 := HD.out.cell_at 1 rfl
  have e2 := HD.out.cell_at 2 rfl
  have hfar : ∀ (W : World), W.ownsRow W0.heap.size 44 3 (.slice A p.ss.length c) p.ss.length (p.ss.flatMap stpCells) → ∀ (q : Addr) (u : Value), q.block < W0.heap.size → (W.setCell q u).ownsRow W0.heap.size 44 3 (.slice A p.ss.length c) p.ss.length (p.ss.flatMap stpCells) := fun W h q u hq => owns_set (B := 0) h hq u
  have hO := hfar _ (hfar _ (hfar _ (hfar _ HO.out ⟨w.heap.size, 2, none⟩ (.slice A p.ss.length c) (by show w.heap.size < _; rw [HS.out]; omega)) ⟨w.heap.size + 1, 0, none⟩ (.int .i64 p.s) (by show w.heap.size + 1 < _; rw [HS.out]; omega)) ⟨w.heap.size + 1, 1, none⟩ (.int .i64 p.x) (by show w.heap.size + 1 < _; rw [HS.out]; omega)) ⟨w.heap.size + 1, 2, none⟩ (.slice A p.ss.length c) (by show w.heap.size + 1 < _; rw [HS.out]; omega)
  refine bodyPost_ret (v := Pth.val ⟨p.s, p.x, A, c, p.ss⟩) ?_ rfl ⟨A, c, rfl, ?_, HBB.out⟩
  · simp [results, Try.f35, go_sem, e0, e1, e2]
  · exact owns_base12 hO (by rw [HS.out]; omega)
set_option maxRecDepth 100000 in
set_option maxHeartbeats 8000000 in
theorem ownR11s_any {p : Pth} {w : World} (hp : PLies p w) (hl : p.ss.length ≤ 1000) : Calls Try.prog 27 #[p.val] w fun e w' => ∃ A c, e = .returned (Pth.val ⟨p.s, p.x, A, c, p.ss⟩) ∧ w'.ownsRow (w.heap.size + 2) 44 3 (.slice A p.ss.length c) p.ss.length (p.ss.flatMap stpCells) ∧ Below w.heap.size w w' := by
  obtain ⟨W0, hW0⟩ : ∃ W0, (w.alloc (.cells #[.int .i64 p.s, .int .i64 p.x, .slice p.A p.ss.length p.c] 24)).alloc (.cells #[.int .i64 0, .int .i64 0, .slice none 0 0] 24) = W0 := ⟨_, rfl⟩
  have hB0 : Below w.heap.size w W0 := by rw [← hW0]; exact below2 w _ _
  have hs0 : W0.heap.size = w.heap.size + 2 := by rw [← hW0]; simp
  have hb0 : Whole W0 w.heap.size 24 p.cells := by rw [← hW0]; exact (Whole.new w _ p.cells).alloc _
  have hb1 : Whole W0 (w.heap.size + 1) 24 [.int .i64 0, .int .i64 0, .slice none 0 0] := by rw [← hW0]; exact Whole.new_at _ _ [_, _, _] _ (by simp)
  obtain ⟨A, c, w1, hrun, hown, hB1⟩ := appendN (P := Try.prog) (f := stpCells) (size := 3) (fun _ => rfl) oneStep 22 44 (.agg #[.int .i64 0, .int .i64 0, .int .i64 0]) 24 Try.underlying22 infoStep rfl (by omega) (by omega) p.ss p.A p.c W0 (hp.row.on hB0) hl
  have y2 := (hb0.alloc (.cells #[] 44)).cell_at 2 rfl
  have c0 := hb0.below hB1 hb0.lt
  have c1 := hb1.below hB1 hb1.lt
  have f2 := c0.frozen 2
  have x2 := c0.cell_at 2 rfl
  obtain ⟨v, hv⟩ : ∃ v, Value.slice A p.ss.length c = v := ⟨_, rfl⟩
  rw [hv] at hrun hown
  have c0' := c0.set 2 v
  have c1' := c1.far (p := ⟨w.heap.size, 2, none⟩) (by show w.heap.size + 1 ≠ w.heap.size; omega) v
  have y0 := c0'.cell_at 0 rfl
  have y1 := c0'.cell_at 1 rfl
  have y2' := c0'.cell_at 2 rfl
  have g0 := c1'.frozen 0
  have g1 := c1'.frozen 1
  have g2 := c1'.frozen 2
  have z0 := c1'.cell_at 0 rfl
  have z1 := c1'.cell_at 1 rfl
  have z2 := c1'.cell_at 2 rfl
  have HD := Lib.hid (((c1'.set 0 (.int .i64 p.s)).set 1 (.int .i64 p.x)).set 2 v)
  have HBB := Lib.hid (((((hB0.trans (hB1.mono hB0.size)).setCell (p := ⟨w.heap.size, 2, none⟩) (Nat.le_refl _) v).setCell (p := ⟨w.heap.size + 1, 0, none⟩) (by show w.heap.size ≤ w.heap.size + 1; omega) (.int .i64 p.s)).setCell (p := ⟨w.heap.size + 1, 1, none⟩) (by show w.heap.size ≤ w.heap.size + 1; omega) (.int .i64 p.x)).setCell (p := ⟨w.heap.size + 1, 2, none⟩) (by show w.heap.size ≤ w.heap.size + 1; omega) v)
  have hb : ∀ i j : Nat, v.ownBlock ≠ some (Addr.mk (w.heap.size + i) j none).block ∨ 2 ≤ i := fun i j => by
    by_cases hi : 2 ≤ i
    · exact .inr hi
    · refine .inl fun e => ?_
      have h1 := (hown.lt _ e).1
      have h2 : (Addr.mk (w.heap.size + i) j none).block = w.heap.size + i := rfl
      omega
  have HO := Lib.hid (owns_past (owns_past (owns_past (owns_past hown (p := ⟨w.heap.size, 2, none⟩) ((hb 0 2).resolve_right (by omega)) v) (p := ⟨w.heap.size + 1, 0, none⟩) ((hb 1 0).resolve_right (by omega)) (.int .i64 p.s)) (p := ⟨w.heap.size + 1, 1, none⟩) ((hb 1 1).resolve_right (by omega)) (.int .i64 p.x)) (p := ⟨w.heap.size + 1, 2, none⟩) ((hb 1 2).resolve_right (by omega)) v)
  have HW0 := Lib.hid hW0
  have HS0 := Lib.hid hs0
  have HV := Lib.hid hv
  have hsl : ∃ A c, v = .slice A p.ss.length c := ⟨A, c, hv.symm⟩
  clear hW0 hs0 hB0 hb0 hb1 hp hl c0 c1 c0' c1' hown hB1 hb hv
  go_enter Try.func27, Try.ntmps27
  go_upto_region 1 with (fail)
  rw [HW0.out]
  obtain ⟨A2, c2, rfl⟩ := hsl
  go_wp2_with (at_builtin; refine list_append rfl (.tmp 3) (.tmp 5) 22 rfl hrun ?_)
  have e0 := HD.out.cell_at 0 rfl
  have e1 := HD.out.cell_at 1 rfl
  have e2 := HD.out.cell_at 2 rfl
  refine bodyPost_ret (v := Pth.val ⟨p.s, p.x, A2, c2, p.ss⟩) ?_ rfl ⟨A2, c2, rfl, ?_, HBB.out⟩
  · simp [results, Try.f27, go_sem, e0, e1, e2]
  · rw [← HS0.out]; exact HO.out
section
variable {P : World → Prop} {w : World}
set_option maxRecDepth 100000 in
set_option maxHeartbeats 8000000 in
theorem all17_P (hP : Closed P) {a b : List (Int × Int × Int)} {A B : Option Addr} (ca cb : Nat) (hA : ∀ w, P w → Row w w.heap.size A (a.flatMap needCells)) (hB : ∀ w, P w → Row w w.heap.size B (b.flatMap needCells)) (hn : (a.length : Int) ≤ 9223372036854775807) {r : Bool} (hr : decide (a = b) = r) (h : P w) :
    Calls Try.prog 22 #[.slice A a.length ca, .slice B b.length cb] w fun e w' => e = .returned (.bool r) ∧ P w' := by
  have HR := Lib.hid hr
  have HQ := Lib.hid hP
  have HA0 := Lib.hid hA
  have HB0 := Lib.hid hB
  have hq := h
  clear hr hP hA hB h
  by_cases hlen : a.length = b.length
  · have HLe := Lib.hid hlen
    have hm : ∀ j, j < a.length → j < b.length := fun j hj => hlen ▸ hj
    rw [← hlen]
    clear hlen
    go_enter Try.func22, Try.ntmps22
    go_wp2_with fail
    go_loopw [5] (fun i wr => ∃ j : Nat, j ≤ a.length ∧ i = .int .i64 j ∧ P wr ∧ Hid (a.take j = b.take j)) (fun i _ => a.length - (intOf i).toNat)
    case atStart => exact ⟨0, by omega, rfl, hq, Lib.hid rfl⟩
    case round =>
      clear hq
      obtain ⟨j, hj, rfl, hq, HNo⟩ := hrel
      by_cases hlt : j < a.length
      · have hlt' : (j : Int) < a.length := by omega
        obtain ⟨⟨x1, x2, x3⟩, hx⟩ : ∃ x, a[j]? = some x := ⟨_, List.getElem?_eq_getElem hlt⟩
        obtain ⟨⟨y1, y2, y3⟩, hy⟩ : ∃ y, b[j]? = some y := ⟨_, List.getElem?_eq_getElem (hm j hlt)⟩
        obtain ⟨o1, o2, HA, HC0, HC⟩ := row_at (n := 3) (fun _ => rfl) (by omega) HA0.out hq hx
        obtain ⟨p1, p2, HB, HD0, HD⟩ := row_at (n := 3) (fun _ => rfl) (by omega) HB0.out hq hy
        have HX := Lib.hid hx
        have HY := Lib.hid hy
        clear hx hy
        obtain rfl := HA.out
        obtain rfl := HB.out
        clear HA HB
        obtain ⟨bb, hbb⟩ : ∃ z, decide ((x1, x2, x3) = (y1, y2, y3)) = z := ⟨_, rfl⟩
        have hneq := fun W => neq_needD W x1 x2 x3 y1 y2 y3
        rw [hbb] at hneq
        cases bb
        · have HF : Hid (false = r) := Lib.hid (by rw [← HR.out]; exact (decide_eq_false (ne_of_at HX.out HY.out (of_decide_eq_false hbb))).symm)
          clear hbb
          go_wp2_with fail
          have HBS : Hid (∀ W, Below wr.heap.size wr W → P W) := Lib.hid (fun W hB => HQ.out _ _ hq hB)
          clear hq
          refine region_mix (Below wr.heap.size wr) [(0, false), (1, false), (2, false), (3, false), (4, false), (5, false), (6, false), (7, false), (8, false)] (by kernel_rfl) (by kernel_rfl) (Below wr.heap.size wr) ⟨Closed.below wr, fun _ h => h⟩ (Below.refl _ _).drew ?_
          simp only [pickOps, List.getElem?_cons_zero, List.getElem?_cons_succ]
          repeat (first | (refine mix_skip (by rfl) ?_; simp only [Act.put, List.setIfInBounds_toArray, List.set_cons_zero, List.set_cons_succ]) | (refine mix_read _ (by rfl) (fun W hW => by (have hW := HBS.out W hW; have c0 := HC0.out _ hW j _ _ HX.out rfl; have c1 := HC.out _ hW j _ 1 _ HX.out rfl; have c2 := HC.out _ hW j _ 2 _ HX.out rfl; have d0 := HD0.out _ hW j _ _ HY.out rfl; have d1 := HD.out _ hW j _ 1 _ HY.out rfl; have d2 := HD.out _ hW j _ 2 _ HY.out rfl; go_simp; first | done | with_reducible rfl)) ?_; simp only [Act.put, List.setIfInBounds_toArray, List.set_cons_zero, List.set_cons_succ]))
          refine mix_nil (fun W hW => ?_)
          have hq := HBS.out W hW
          clear hW HBS
          go_wp2_with fail
          go_ret
          exact ⟨ret_bool HF.out, hq⟩
        · have HN : Hid (a.take (j + 1) = b.take (j + 1)) := Lib.hid (take_next HNo.out HX.out (by rw [of_decide_eq_true hbb]; exact HY.out))
          clear hbb
          go_wp2_with fail
          have HBS : Hid (∀ W, Below wr.heap.size wr W → P W) := Lib.hid (fun W hB => HQ.out _ _ hq hB)
          clear hq
          refine region_mix (Below wr.heap.size wr) [(0, false), (1, false), (2, false), (3, false), (4, false), (5, false), (6, false), (7, false), (8, false)] (by kernel_rfl) (by kernel_rfl) (Below wr.heap.size wr) ⟨Closed.below wr, fun _ h => h⟩ (Below.refl _ _).drew ?_
          simp only [pickOps, List.getElem?_cons_zero, List.getElem?_cons_succ]
          repeat (first | (refine mix_skip (by rfl) ?_; simp only [Act.put, List.setIfInBounds_toArray, List.set_cons_zero, List.set_cons_succ]) | (refine mix_read _ (by rfl) (fun W hW => by (have hW := HBS.out W hW; have c0 := HC0.out _ hW j _ _ HX.out rfl; have c1 := HC.out _ hW j _ 1 _ HX.out rfl; have c2 := HC.out _ hW j _ 2 _ HX.out rfl; have d0 := HD0.out _ hW j _ _ HY.out rfl; have d1 := HD.out _ hW j _ 1 _ HY.out rfl; have d2 := HD.out _ hW j _ 2 _ HY.out rfl; go_simp; first | done | with_reducible rfl)) ?_; simp only [Act.put, List.setIfInBounds_toArray, List.set_cons_zero, List.set_cons_succ]))
          refine mix_nil (fun W hW => ?_)
          have hq := HBS.out W hW
          clear hW HBS
          go_wp2_with fail
          go_roundw
          case rel => exact ⟨j + 1, hlt, by go_num, hq, HN⟩
          case measure => simp [intOf]; omega
      · obtain rfl : j = a.length := by omega
        have HF : Hid (true = r) := Lib.hid (by rw [← HR.out]; exact (decide_eq_true (take_done HLe.out HNo.out)).symm)
        go_wp2_with fail
        go_ret
        exact ⟨ret_bool HF.out, hq⟩
  · have HF : Hid (false = r) := Lib.hid (by rw [← HR.out]; exact (decide_eq_false (fun e => hlen (by rw [e]))).symm)
    have hlen' : ((a.length : Int) != (b.length : Int)) = true := by rw [bne_iff_ne]; omega
    clear hlen
    go_enter Try.func22, Try.ntmps22
    go_wp2_with fail
    go_ret
    exact ⟨ret_bool HF.out, hq⟩
end
set_option maxRecDepth 100000 in
set_option maxHeartbeats 4000000 in
theorem cloneNeed_any {l : List (Int × Int × Int)} (A : Option Addr) (c : Nat) (w : World) (hr : Row w w.heap.size A (l.flatMap needCells)) (hl : l.length ≤ 1000) :
    Calls Try.prog 37 #[.slice A l.length c] w fun e w' => ∃ v, e = .returned v ∧ w'.ownsRow w.heap.size 40 3 v l.length (l.flatMap needCells) ∧ Below w.heap.size w w' := by
  cases A with
  | none =>
    have h0 : l = [] := by
      cases l with
      | nil => rfl
      | cons x l =>
        obtain ⟨b, off, e, _⟩ := hr (by rw [List.flatMap_cons, List.length_append]; have : (needCells x).length = 3 := rfl; omega)
        cases e
    subst h0
    have hnil : ∀ w : World, (binOp .eql 25 (.slice none 0 c) (.slice none 0 0)).run Try.prog w = .ok (.bool true) w := fun _ => rfl
    go_enter Try.func37, Try.ntmps37
    go_wp2_with fail
    go_ret
    exact ⟨_, rfl, World.ownsRow_nil _ _ _ _, Below.refl _ _⟩
  | some a =>
    have hown : (w.alloc (.cells #[] 40)).ownsRow w.heap.size 40 3 (.slice (some ⟨w.heap.size, 0, none⟩) 0 0) 0 [] := ⟨by simp, .inr ⟨w.heap.size, 0, #[], rfl, Nat.le_refl _, World.alloc_heap_new w _, Nat.le_refl _, by simp, by simp, by simp⟩⟩
    obtain ⟨v', w1, hrun, hown1, hB⟩ := append_needs13 w.heap.size [] l _ (some a) c w.heap.size _ hown (hr.below (below1 w _)) (by simp) (by omega) (by simp)
    have hB' : Below w.heap.size w w1 := (below1 w (.cells #[] 40)).grown hB (by simp) (fun b hb => by cases hb; exact Nat.le_refl _)
    have HO := Lib.hid hown1
    have HB := Lib.hid hB'
    clear hown hown1 hB hr hB'
    have hnil : ∀ w : World, (binOp .eql 25 (.slice (some a) l.length c) (.slice none 0 0)).run Try.prog w = .ok (.bool false) w := fun _ => rfl
    go_enter Try.func37, Try.ntmps37
    go_wp2_with (at_builtin; refine list_append rfl (.tmp 5) (.tmp 6) 25 rfl hrun ?_)
    go_ret
    exact ⟨_, rfl, by simpa using HO.out, HB.out⟩

end Go.Proofs.Ytljpiafopbfdlaa
