/- Package rank: Own, Same, Cmp, Least; the document's own Same, Great. -/
import Derived.Test.YtiknjkgioiknnaaDoorQRnkE
import Derived.Test.YtiknjkgioiknnaaDoorQRouA
import Derived.Test.YtiknjkgioiknnaaDoorQStbE
import Derived.Test.YtiknjkgioiknnaaDoorQLayOneM
import Derived.Test.YtiknjkgioiknnaaDoorQLayTellsM
namespace Go.Proofs.YtiknjkgioiknnaaDoor
open Go.RowKit Go.Shelf
set_option linter.unusedVariables false
set_option linter.unusedSimpArgs false
set_option maxRecDepth 100000

set_option maxRecDepth 100000 in
set_option maxHeartbeats 8000000 in
theorem own11s_any {p : Pth} {w : World} (hp : PLies p w) (hl : p.ss.length ≤ 1000) : Calls Tryd.prog 36 #[p.val] w fun e w' => ∃ A c, e = .returned (Pth.val ⟨p.s, p.x, A, c, p.ss⟩) ∧ w'.ownsRow w.heap.size 53 3 (.slice A p.ss.length c) p.ss.length (p.ss.flatMap stpCells) ∧ Below w.heap.size w w' := by
  obtain ⟨W0, hW0⟩ : ∃ W0, (w.alloc (.cells #[.int .i64 p.s, .int .i64 p.x, .slice p.A p.ss.length p.c] 34)).alloc (.cells #[.int .i64 0, .int .i64 0, .slice none 0 0] 34) = W0 := ⟨_, rfl⟩
  have hB0 : Below w.heap.size w W0 := by rw [← hW0]; exact below2 w _ _
  have hb0 : Whole W0 w.heap.size 34 p.cells := by rw [← hW0]; exact (Whole.new w _ p.cells).alloc _
  have hb1 : Whole W0 (w.heap.size + 1) 34 [.int .i64 0, .int .i64 0, .slice none 0 0] := by rw [← hW0]; exact Whole.new_at _ _ [_, _, _] _ (by simp)
  have KC := Lib.hid (cloneStep_any p.A p.c W0 (hp.row.on hB0) hl)
  have HB0 := Lib.hid (And.intro hB0 (And.intro hb0 hb1))
  have HLN := Lib.hid hp.len
  have x2 := hb0.cell_at 2 rfl
  have HW0 := Lib.hid hW0
  clear hW0 hB0 hb0 hb1 hp hl
  go_enter Tryd.func36, Tryd.ntmps36
  go_upto_region 1 with (fail)
  rw [HW0.out]
  go_wp2_with fail
  refine KC.out.mono ?_
  clear x2 KC
  rintro e w1 ⟨v, rfl, hown, hB1⟩
  obtain ⟨hB0, hb0, hb1⟩ := HB0.out
  have hs := hb1.lt
  have c0 := hb0.below hB1 hb0.lt
  have c1 := hb1.below hB1 hb1.lt
  have f2 := c0.frozen 2
  have x2 := c0.cell_at 2 rfl
  have c0' := c0.set 2 v
  have c1' := c1.far (p := ⟨w.heap.size, 2, none⟩) (by show w.heap.size + 1 ≠ w.heap.size; omega) v
  have y0 := c0'.cell_at 0 rfl
  have y1 := c0'.cell_at 1 rfl
  have y2 := c0'.cell_at 2 rfl
  have g0 := c1'.frozen 0
  have g1 := c1'.frozen 1
  have g2 := c1'.frozen 2
  have z0 := c1'.cell_at 0 rfl
  have z1 := c1'.cell_at 1 rfl
  have z2 := c1'.cell_at 2 rfl
  have HD := Lib.hid (((c1'.set 0 (.int .i64 p.s)).set 1 (.int .i64 p.x)).set 2 v)
  obtain ⟨A, c, hv, hr⟩ := owns_read hown
  have HBB := Lib.hid (((((hB0.trans (hB1.mono hB0.size)).setCell (p := ⟨w.heap.size, 2, none⟩) (Nat.le_refl _) v).setCell (p := ⟨w.heap.size + 1, 0, none⟩) (by show w.heap.size ≤ w.heap.size + 1; omega) (.int .i64 p.s)).setCell (p := ⟨w.heap.size + 1, 1, none⟩) (by show w.heap.size ≤ w.heap.size + 1; omega) (.int .i64 p.x)).setCell (p := ⟨w.heap.size + 1, 2, none⟩) (by show w.heap.size ≤ w.heap.size + 1; omega) v)
  have hs0 : W0.heap.size = w.heap.size + 2 := by rw [← HW0.out]; simp
  have HS := Lib.hid hs0
  have HO := Lib.hid hown
  clear hown hr c0 c1 c0' c1' hB0 hb0 hb1 hB1 hs hs0
  subst hv
  go_wp2_with fail
  have e0 := HD.out.cell_at 0 rfl
  have e1 := HD.out.cell_at 1 rfl
  have e2 := HD.out.cell_at 2 rfl
  have hfar : ∀ (W : World), W.ownsRow W0.heap.size 53 3 (.slice A p.ss.length c) p.ss.length (p.ss.flatMap stpCells) → ∀ (q : Addr) (u : Value), q.block < W0.heap.size → (W.setCell q u).ownsRow W0.heap.size 53 3 (.slice A p.ss.length c) p.ss.length (p.ss.flatMap stpCells) := fun W h q u hq => owns_set (B := 0) h hq u
  have hO := hfar _ (hfar _ (hfar _ (hfar _ HO.out ⟨w.heap.size, 2, none⟩ (.slice A p.ss.length c) (by show w.heap.size < _; rw [HS.out]; omega)) ⟨w.heap.size + 1, 0, none⟩ (.int .i64 p.s) (by show w.heap.size + 1 < _; rw [HS.out]; omega)) ⟨w.heap.size + 1, 1, none⟩ (.int .i64 p.x) (by show w.heap.size + 1 < _; rw [HS.out]; omega)) ⟨w.heap.size + 1, 2, none⟩ (.slice A p.ss.length c) (by show w.heap.size + 1 < _; rw [HS.out]; omega)
  refine bodyPost_ret (v := Pth.val ⟨p.s, p.x, A, c, p.ss⟩) ?_ rfl ⟨A, c, rfl, ?_, HBB.out⟩
  · simp [results, Tryd.f36, go_sem, e0, e1, e2]
  · exact owns_base12 hO (by rw [HS.out]; omega)

set_option maxRecDepth 100000 in
set_option maxHeartbeats 8000000 in
theorem sameR12_any {p q : Pth} {w : World} (hp : PLies p w) (hq : PLies q w) {r : Bool} (hr : sameP p q = r) : Calls Tryd.prog 14 #[p.val, q.val] w fun e w' => e = .returned (.bool r) ∧ Below w.heap.size w w' := by
  obtain ⟨Q, HQ, HQb, HQp, HQq, hw⟩ := keep_box2 (Closed.below w) (Below.refl _ w) 34 34 p.cells q.cells
  obtain ⟨d, hd⟩ : ∃ d, decide (p.ss = q.ss) = d := ⟨_, rfl⟩
  have KE := Lib.hid (fun W hW => stepsR_P (P := Q) (w := W) HQ.out p.c q.c (fun W hW => hp.row.on (HQb.out W hW)) (fun W hW => hq.row.on (HQb.out W hW)) hp.len hd hW)
  obtain ⟨b1, h1⟩ : ∃ b, (p.s == q.s) = b := ⟨_, rfl⟩
  obtain ⟨b2, h2⟩ : ∃ b, (p.x == q.x) = b := ⟨_, rfl⟩
  have HR : Hid ((b1 && (b2 && d)) = r) := Lib.hid (by rw [← hr, ← h1, ← h2, ← hd]; rfl)
  clear hr hd hp hq
  have m0 := HQp.out _ hw
  have x0 := m0.cell_at 0 rfl
  have x1 := m0.cell_at 1 rfl
  have x2 := m0.cell_at 2 rfl
  clear m0
  have m0 := HQq.out _ hw
  have y0 := m0.cell_at 0 rfl
  have y1 := m0.cell_at 1 rfl
  have y2 := m0.cell_at 2 rfl
  clear m0
  cases b1
  · go_enter Tryd.func14, Tryd.ntmps14
    go_wp2_with fail
    go_ret
    exact ⟨ret_bool HR.out, HQb.out _ hw⟩
  cases b2
  · go_enter Tryd.func14, Tryd.ntmps14
    go_wp2_with fail
    go_ret
    exact ⟨ret_bool HR.out, HQb.out _ hw⟩
  go_enter Tryd.func14, Tryd.ntmps14
  go_wp2_with fail
  refine (KE.out _ hw).mono ?_
  clear hw x0 x1 x2 y0 y1 y2 h1 h2
  rintro e w1 ⟨rfl, hw⟩
  go_wp2_with fail
  go_ret
  exact ⟨ret_bool (by rw [← HR.out]; rfl), HQb.out _ hw⟩

set_option maxRecDepth 100000 in
set_option maxHeartbeats 32000000 in
theorem same12_any {p q : Pth} {w : World} (hp : PLies p w) (hq : PLies q w) {r : Bool} (hr : sameP p q = r) : Calls Tryd.prog 21 #[p.val, q.val] w fun e w' => e = .returned (.bool r) ∧ Below w.heap.size w w' := by
  obtain ⟨Q, HQ, HQb, HQp, HQq, hw⟩ := keep_box2 (Closed.below w) (Below.refl _ w) 34 34 p.cells q.cells
  have KE := Lib.hid (keepR HQ.out (same11_any (PLies.closed p _ _ hp (HQb.out _ hw)) (PLies.closed q _ _ hq (HQb.out _ hw)) hr) hw)
  clear hr hp hq
  have m0 := HQp.out _ hw
  have x0 := m0.cell_at 0 rfl
  have x1 := m0.cell_at 1 rfl
  have x2 := m0.cell_at 2 rfl
  clear m0
  have m0 := HQq.out _ hw
  have y0 := m0.cell_at 0 rfl
  have y1 := m0.cell_at 1 rfl
  have y2 := m0.cell_at 2 rfl
  clear m0
  go_enter Tryd.func21, Tryd.ntmps21
  go_wp2_with fail
  refine KE.out.mono ?_
  clear hw x0 x1 x2 y0 y1 y2 KE
  rintro e w1 ⟨rfl, hw⟩
  go_wp2_with fail
  go_ret
  exact ⟨rfl, HQb.out _ hw⟩
set_option maxRecDepth 100000 in
set_option maxHeartbeats 32000000 in
theorem own12_any {p : Pth} {w : World} (hp : PLies p w) (hl : p.ss.length ≤ 1000) : Calls Tryd.prog 22 #[p.val] w fun e w' => ∃ A c, e = .returned (Pth.val ⟨p.s, p.x, A, c, p.ss⟩) ∧ w'.ownsRow w.heap.size 53 3 (.slice A p.ss.length c) p.ss.length (p.ss.flatMap stpCells) ∧ Below w.heap.size w w' := by
  obtain ⟨W0, hW0⟩ : ∃ W0, (w.alloc (.cells #[.int .i64 p.s, .int .i64 p.x, .slice p.A p.ss.length p.c] 34)).alloc (.cells #[.int .i64 0, .int .i64 0, .slice none 0 0] 34) = W0 := ⟨_, rfl⟩
  have hB0 : Below w.heap.size w W0 := by rw [← hW0]; exact below2 w _ _
  have hb0 : Whole W0 w.heap.size 34 p.cells := by rw [← hW0]; exact (Whole.new w _ p.cells).alloc _
  have hb1 : Whole W0 (w.heap.size + 1) 34 [.int .i64 0, .int .i64 0, .slice none 0 0] := by rw [← hW0]; exact Whole.new_at _ _ [_, _, _] _ (by simp)
  have KC := Lib.hid (own11s_any (PLies.closed p _ _ hp hB0) hl)
  have hs0 : W0.heap.size = w.heap.size + 2 := by rw [← hW0]; simp
  have HB0 := Lib.hid (And.intro hB0 (And.intro hb1 hs0))
  have m0 := hb0
  have x0 := m0.cell_at 0 rfl
  have x1 := m0.cell_at 1 rfl
  have x2 := m0.cell_at 2 rfl
  clear m0
  have HW0 := Lib.hid hW0
  clear hW0 hB0 hb0 hb1 hp hl hs0
  go_enter Tryd.func22, Tryd.ntmps22
  go_upto_region 1 with (fail)
  rw [HW0.out]
  go_wp2_with fail
  refine KC.out.mono ?_
  clear x0 x1 x2 KC
  rintro e w1 ⟨A, c, rfl, hown, hB1⟩
  obtain ⟨hB0, hb1, hs0⟩ := HB0.out
  have hz := hb1.lt
  have c1 := hb1.below hB1 hz
  have g0 := c1.frozen 0
  have g1 := c1.frozen 1
  have g2 := c1.frozen 2
  have z0 := c1.cell_at 0 rfl
  have z1 := c1.cell_at 1 rfl
  have z2 := c1.cell_at 2 rfl
  have HD := Lib.hid (((c1.set 0 (.int .i64 p.s)).set 1 (.int .i64 p.x)).set 2 (.slice A p.ss.length c))
  have HBB := Lib.hid ((((hB0.trans (hB1.mono hB0.size)).setCell (p := ⟨w.heap.size + 1, 0, none⟩) (by show w.heap.size ≤ w.heap.size + 1; omega) (.int .i64 p.s)).setCell (p := ⟨w.heap.size + 1, 1, none⟩) (by show w.heap.size ≤ w.heap.size + 1; omega) (.int .i64 p.x)).setCell (p := ⟨w.heap.size + 1, 2, none⟩) (by show w.heap.size ≤ w.heap.size + 1; omega) (.slice A p.ss.length c))
  have hne : ∀ b, (Value.slice A p.ss.length c).ownBlock = some b → b ≠ w.heap.size + 1 := fun b hb => by have := (hown.lt b hb).1; omega
  have HO := Lib.hid (owns_setFar (owns_setFar (owns_setFar hown 0 hne (.int .i64 p.s)) 1 hne (.int .i64 p.x)) 2 hne (.slice A p.ss.length c))
  have HS := Lib.hid hs0
  clear hown c1 hB0 hb1 hB1 hs0 hne hz
  go_wp2_with fail
  have e0 := HD.out.cell_at 0 rfl
  have e1 := HD.out.cell_at 1 rfl
  have e2 := HD.out.cell_at 2 rfl
  refine bodyPost_ret (v := Pth.val ⟨p.s, p.x, A, c, p.ss⟩) ?_ rfl ⟨A, c, rfl, ?_, HBB.out⟩
  · simp [results, Tryd.f22, go_sem, e0, e1, e2]
  · exact owns_base12 HO.out (by rw [HS.out]; omega)

/-- Are paths too many, or too long? -/
def great12 (ps : List Pth) : Bool := (ps.take 41).any (fun p => decide (30 < p.ss.length)) || decide (40 < ps.length)
theorem great12_no {ps : List Pth} : great12 ps = false ↔ ps.length ≤ 40 ∧ ∀ p ∈ ps, p.ss.length ≤ 30 := by
  unfold great12
  rw [Bool.or_eq_false_iff, decide_eq_false_iff_not, List.any_eq_false]
  constructor
  · rintro ⟨h1, h2⟩
    refine ⟨by omega, fun p hp => ?_⟩
    rw [List.take_of_length_le (by omega)] at h1
    have := h1 p hp
    simpa using this
  · rintro ⟨h1, h2⟩
    exact ⟨fun p hp => by have := h2 p (List.mem_of_mem_take hp); simpa using this, by omega⟩
set_option maxRecDepth 100000 in
set_option maxHeartbeats 32000000 in
theorem great12_any {ps : List Pth} {A : Option Addr} (c : Nat) {w : World} (hP : PsLies ps A w) (hn : (ps.length : Int) ≤ 9223372036854775807) {r : Bool} (hr : great12 ps = r) :
    Calls Tryd.prog 7 #[.slice A ps.length c] w fun e w' => e = .returned (.bool r) ∧ Below w.heap.size w w' := by
  have HPW : Hid (∀ W, Below w.heap.size w W → PsLies ps A W) := Lib.hid fun W hB => PsLies.closed ps A _ _ hP hB
  have HR := Lib.hid hr
  clear hP hr
  go_enter Tryd.func7, Tryd.ntmps7
  go_wp2_with fail
  go_loopw [3] (fun vi wr => ∃ j : Nat, vi = .int .i64 j ∧ j ≤ ps.length ∧ j ≤ 41 ∧ Below w.heap.size w wr ∧ Hid ((ps.take j).any (fun p => decide (30 < p.ss.length)) = false))
    (fun vi _ => 41 - (intOf vi).toNat)
  case atStart => exact ⟨0, rfl, Nat.zero_le _, by omega, Below.refl _ _, Lib.hid rfl⟩
  case round =>
    obtain ⟨j, rfl, hj, hj41, hB, HA⟩ := hrel
    have HBB := Lib.hid hB
    by_cases hlt : j < ps.length
    · have hlt' : (j : Int) < ps.length := by omega
      by_cases h40 : j ≤ 40
      · have h40' : (j : Int) ≤ 40 := by omega
        obtain ⟨p, hp⟩ : ∃ p, ps[j]? = some p := ⟨_, List.getElem?_eq_getElem hlt⟩
        obtain ⟨b, off, rfl, _, hc0, hc⟩ := (HPW.out _ hB).row.nth (n := 3) (fun _ => rfl) (by omega) hp
        have c2 := hc j _ 2 _ hp rfl
        have HPJ := Lib.hid hp
        clear hc0 hc hp
        by_cases hl : 30 < p.ss.length
        · have hl' : (30 : Int) < (p.ss.length : Int) := by omega
          have HF : Hid (true = r) := Lib.hid (by
            rw [← HR.out]
            unfold great12
            have : (ps.take 41).any (fun p => decide (30 < p.ss.length)) = true := List.any_eq_true.2 ⟨p, List.mem_of_getElem? (i := j) (by rw [List.getElem?_take, if_pos (by omega)]; exact HPJ.out), by simpa using hl⟩
            rw [this]; rfl)
          go_wp2_with fail
          go_ret
          exact ⟨ret_bool HF.out, HBB.out⟩
        · have hl' : ¬ (30 : Int) < (p.ss.length : Int) := by omega
          have hwi : IntKind.i64.wrap ((j : Int) + 1) = (j : Int) + 1 := IntWalk.i64_in _ (by omega)
          have HN : Hid ((ps.take (j + 1)).any (fun p => decide (30 < p.ss.length)) = false) := Lib.hid (by
            rw [List.take_add_one, HPJ.out, Option.toList_some, List.any_append, HA.out]
            simp [hl])
          go_wp2_with fail
          go_roundw
          case rel => exact ⟨j + 1, by go_num, hlt, by omega, HBB.out, HN⟩
          case measure => simp [intOf]; omega
      · have h40' : ¬ (j : Int) ≤ 40 := by omega
        have hd : (40 : Int) < (ps.length : Int) := by omega
        have HF : Hid (true = r) := Lib.hid (by
          rw [← HR.out]
          unfold great12
          rw [decide_eq_true (p := 40 < ps.length) (by omega), Bool.or_true])
        go_wp2_with fail
        go_ret
        exact ⟨ret_bool (by rw [← HF.out]; first | done | rfl | (simp; done) | (simp; omega)), HBB.out⟩
    · obtain rfl : j = ps.length := by omega
      have HF : Hid (decide (40 < ps.length) = r) := Lib.hid (by
        rw [← HR.out]
        unfold great12
        rw [List.take_of_length_le hj41]
        have := HA.out
        rw [List.take_length] at this
        rw [this, Bool.false_or])
      have hlt' : ¬ (ps.length : Int) < ps.length := by omega
      go_wp2_with fail
      go_ret
      exact ⟨ret_bool (by rw [← HF.out]; first | rfl | (rw [Bool.eq_iff_iff]; simp; omega) | (rw [Bool.eq_iff_iff]; simp)), HBB.out⟩
set_option maxRecDepth 100000 in
set_option maxHeartbeats 32000000 in
theorem cmp_any {l : Lay} {p q : Pth} {w : World} (hT : Shapes w) (hL : Lies l w) (hp : PLies p w) (hq : PLies q w) (hpl : p.ss.length ≤ 1000) (hql : q.ss.length ≤ 1000) {r : Int} (hr : cmpR (rowV l p.ss) (rowV l q.ss) = r) :
    Calls Tryd.prog 10 #[l.val, p.val, q.val] w fun e w' => e = .returned (.int .i64 r) ∧ Below w.heap.size w w' := by
  obtain ⟨W4, hW4⟩ : ∃ W4, (((w.alloc (.cells #[.slice l.As l.secs.length l.cs, .slice l.Ag l.sigs.length l.cg, .slice l.Ae l.exits.length l.ce, .slice l.Af l.flanks.length l.cf, .int .i64 l.t0, .int .i64 l.t1, .int .i64 l.t2, .int .i64 l.t3, .int .i64 l.t4, .int .i64 l.t5, .int .i64 l.t6] 29)).alloc (.cells #[.int .i64 p.s, .int .i64 p.x, .slice p.A p.ss.length p.c] 34)).alloc (.cells #[.int .i64 q.s, .int .i64 q.x, .slice q.A q.ss.length q.c] 34)).alloc (.cells #[.int .i64 p.s, .int .i64 p.x, .slice p.A p.ss.length p.c, .int .i64 q.s, .int .i64 q.x, .slice q.A q.ss.length q.c] 34) = W4 := ⟨_, rfl⟩
  have hB : Below w.heap.size w W4 := by rw [← hW4]; exact (below3 w _ _ _).alloc (by simp; omega) _
  have hw4 : Whole W4 (w.heap.size + 1 + 1 + 1) 34 [.int .i64 p.s, .int .i64 p.x, .slice p.A p.ss.length p.c, .int .i64 q.s, .int .i64 q.x, .slice q.A q.ss.length q.c] := by rw [← hW4]; exact Whole.new_at _ _ [_, _, _, _, _, _] _ (by simp)
  have hP : PsLies [p, q] (some ⟨w.heap.size + 1 + 1 + 1, 0, none⟩) W4 := ⟨hw4.row hw4.lt, fun x hx => by
    rcases List.mem_cons.1 hx with rfl | hx
    · exact PLies.closed _ _ _ hp hB
    · obtain rfl : x = q := by simpa using hx
      exact PLies.closed _ _ _ hq hB⟩
  have KO := order_any (l := l) (ps := [p, q]) 2 (Shapes.closed _ _ hT hB) (Lies.closed l _ _ hL hB) hP (fun x hx => by
    rcases List.mem_cons.1 hx with rfl | hx
    · exact hpl
    · obtain rfl : x = q := by simpa using hx
      exact hql) (by simp)
  have HW4 := Lib.hid hW4
  have HB := Lib.hid hB
  have HR := Lib.hid hr
  clear hT hL hp hq hpl hql hr hW4 hB hw4 hP
  go_enter Tryd.func10, Tryd.ntmps10
  go_wp2_with fail
  try rw [HW4.out]
  try go_wp2_with fail
  refine KO.mono ?_
  rintro e w1 ⟨gq, gr, ts, rfl, hR, hv, hB1⟩
  have hl : ts.length = 2 := by
    have := congrArg List.length hv
    simpa [entRows] using this
  have K1 : Calls Tryd.prog 37 #[.int .i64 0, .int .i64 1, .pointer (some ⟨gq, 0, none⟩)] w1 fun e w' => e = .returned (.int .i64 r) ∧ Below w1.heap.size w1 w' := order1_any hR (x := 0) (y := 1) (by omega) (by omega) (by omega) (by rw [hv]; exact HR.out)
  have HK := Lib.hid K1
  have HB1 := Lib.hid hB1
  clear KO hR hv hl K1 hB1
  go_wp2_with fail
  refine HK.out.mono ?_
  rintro e w2 ⟨rfl, hB2⟩
  go_wp2_with fail
  go_ret
  exact ⟨rfl, HB.out.trans ((HB1.out.trans (hB2.mono HB1.out.size)).mono HB.out.size)⟩
/-- Which of n places has none ahead of it, the first of such; -1 of none. -/
def IsLeast (lt : Nat → Nat → Bool) (n : Nat) (r : Int) : Prop := (n = 0 ∧ r = -1) ∨ ∃ a : Nat, r = a ∧ a < n ∧ ∀ y, y < n → y ≠ a → LL lt a y
set_option maxRecDepth 100000 in
set_option maxHeartbeats 32000000 in
theorem least_any {l : Lay} {ps : List Pth} {A : Option Addr} (c : Nat) {w : World} (hT : Shapes w) (hL : Lies l w) (hP : PsLies ps A w) (hs : ∀ p ∈ ps, p.ss.length ≤ 1000) (hn : ps.length ≤ 1000000) :
    Calls Tryd.prog 13 #[l.val, .slice A ps.length c] w fun e w' => ∃ r, e = .returned (.int .i64 r) ∧ IsLeast (ltOf12 (cvOf (ps.map (fun p => rowV l p.ss)))) ps.length r ∧ Below w.heap.size w w' := by
  have hB0 := below1 w (.cells l.cells.toArray 29)
  have KO := Lib.hid (order_any c (Shapes.closed _ _ hT hB0) (Lies.closed l _ _ hL hB0) (PsLies.closed ps A _ _ hP hB0) hs hn)
  have HB0 := Lib.hid hB0
  have m0 := Whole.new w 29 l.cells
  have x0 := m0.cell_at 0 rfl
  have x1 := m0.cell_at 1 rfl
  have x2 := m0.cell_at 2 rfl
  have x3 := m0.cell_at 3 rfl
  have x4 := m0.cell_at 4 rfl
  have x5 := m0.cell_at 5 rfl
  have x6 := m0.cell_at 6 rfl
  have x7 := m0.cell_at 7 rfl
  have x8 := m0.cell_at 8 rfl
  have x9 := m0.cell_at 9 rfl
  have x10 := m0.cell_at 10 rfl
  clear m0
  obtain ⟨rs, hrs⟩ : ∃ rs, ps.map (fun p => rowV l p.ss) = rs := ⟨_, rfl⟩
  rw [hrs] at KO ⊢
  have HRS := Lib.hid hrs
  have O : Ord12 (ltOf12 (cvOf rs)) := ord_rows rs
  have HO := Lib.hid O
  clear hT hL hP hs hrs hB0 O
  have HLN : Hid (∀ ts : List Ent, entRows ts = rs → ts.length = ps.length) := Lib.hid fun ts h => by
    have := congrArg List.length h
    rw [← HRS.out] at this
    simpa [entRows] using this
  go_enter Tryd.func13, Tryd.ntmps13
  go_wp2_with fail
  refine KO.out.mono ?_
  clear KO x0 x1 x2 x3 x4 x5 x6 x7 x8 x9 x10
  rintro e w1 ⟨gq, gr, ts, rfl, hR, hv, hB1⟩
  obtain ⟨Q, HQ, HQb, HCM, hq⟩ : ∃ Q : World → Prop, Hid (Closed Q) ∧ Hid (∀ W, Q W → Below w.heap.size w W) ∧ Hid (∀ W, Q W → ∀ x y : Nat, x < ps.length → y < ps.length → Calls Tryd.prog 37 #[.int .i64 x, .int .i64 y, .pointer (some ⟨gq, 0, none⟩)] W fun e w' => e = .returned (.int .i64 (cvOf rs x y)) ∧ Below W.heap.size W w') ∧ Q w1 :=
    ⟨fun W => Below w.heap.size w W ∧ RowsAt (w.alloc (.cells l.cells.toArray 29)).heap.size gq gr ts W, Lib.hid ((Closed.below w).and (RowsAt.closed _ _ _ _)), Lib.hid fun _ h => h.1, Lib.hid fun W hW x y hx hy => by
      have hl := HLN.out ts hv
      exact order1_any hW.2 (by omega) (by omega) (by omega) (by rw [hv]), HB0.out.trans (hB1.mono HB0.out.size), hR⟩
  clear hR hv hB1 HB0 HLN HRS
  go_wp2_with fail
  go_loopw [6, 7, 13] (fun vl vn vi wr => ∃ j : Nat, vi = .int .i64 j ∧ j ≤ ps.length ∧ Q wr ∧ ((j = 0 ∧ vl = .int .i64 (-1)) ∨ ∃ a : Nat, vl = .int .i64 a ∧ a < j ∧ Hid (∀ y, y < j → y ≠ a → LL (ltOf12 (cvOf rs)) a y)))
    (fun _ _ vi _ => ps.length - (intOf vi).toNat)
  case atStart => exact ⟨0, rfl, Nat.zero_le _, hq, .inl ⟨rfl, rfl⟩⟩
  case round =>
    clear hq
    obtain ⟨j, rfl, hj, hq, hcase⟩ := hrel
    by_cases hlt : j < ps.length
    · have hlt' : (j : Int) < ps.length := by omega
      have hwi : IntKind.i64.wrap ((j : Int) + 1) = (j : Int) + 1 := IntWalk.i64_in _ (by omega)
      rcases hcase with ⟨hj0, rfl⟩ | ⟨a, rfl, ha, HL⟩
      · have HJ := Lib.hid hj0
        clear hj0
        go_wp2_with fail
        go_roundw
        case rel => exact ⟨j + 1, by go_num, hlt, hq, .inr ⟨j, rfl, by omega, Lib.hid fun y h1 h2 => by have := HJ.out; omega⟩⟩
        case measure => simp [intOf]; omega
      · have hn1 : ¬ (a : Int) < 0 := by omega
        have hn2 : decide ((a : Int) < 0) = false := decide_eq_false hn1
        obtain ⟨v, hv⟩ : ∃ v, cvOf rs j a = v := ⟨_, rfl⟩
        have KC := keepR HQ.out (HCM.out _ hq j a hlt (by omega)) hq
        rw [hv] at KC
        have HV := Lib.hid hv
        have KC := Lib.hid KC
        clear hv hq
        by_cases hlv : v < 0
        · have hld : decide (v < 0) = true := decide_eq_true hlv
          have HN : Hid (∀ y, y < j + 1 → y ≠ j → LL (ltOf12 (cvOf rs)) j y) := Lib.hid fun y h1 h2 => by
            have h0 : LL (ltOf12 (cvOf rs)) j a := .inl (lt_yes (by rw [HV.out]; exact hlv))
            by_cases e : y = a
            · subst e; exact h0
            · exact LL.trans HO.out h0 (HL.out y (by omega) e)
          clear HL
          go_wp2_with fail
          refine KC.out.mono ?_
          clear KC
          rintro e w2 ⟨rfl, hq⟩
          go_wp2_with fail
          go_roundw
          case rel => exact ⟨j + 1, by go_num, hlt, hq, .inr ⟨j, rfl, by omega, HN⟩⟩
          case measure => simp [intOf]; omega
        · have hld : decide (v < 0) = false := decide_eq_false hlv
          have HN : Hid (∀ y, y < j + 1 → y ≠ a → LL (ltOf12 (cvOf rs)) a y) := Lib.hid fun y h1 h2 => by
            by_cases e : y = j
            · subst e; exact .inr ⟨lt_no (by rw [HV.out]; exact hlv), by omega⟩
            · exact HL.out y (by omega) h2
          clear HL
          go_wp2_with fail
          refine KC.out.mono ?_
          clear KC
          rintro e w2 ⟨rfl, hq⟩
          go_wp2_with fail
          go_roundw
          case rel => exact ⟨j + 1, by go_num, hlt, hq, .inr ⟨a, rfl, by omega, HN⟩⟩
          case measure => simp [intOf]; omega
    · obtain rfl : j = ps.length := by omega
      rcases hcase with ⟨hj0, rfl⟩ | ⟨a, rfl, ha, HL⟩
      · have HJ := Lib.hid hj0
        clear hj0
        go_wp2_with fail
        go_ret
        exact ⟨_, rfl, .inl ⟨HJ.out, rfl⟩, HQb.out _ hq⟩
      · go_wp2_with fail
        go_ret
        exact ⟨_, rfl, .inr ⟨a, rfl, ha, HL.out⟩, HQb.out _ hq⟩
end Go.Proofs.YtiknjkgioiknnaaDoor
