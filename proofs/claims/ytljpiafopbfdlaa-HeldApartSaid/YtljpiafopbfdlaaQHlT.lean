/- Package held: which route may be (of such as may). -/
import Derived.Deep.CutRange
import Derived.Laws.IdiomCopy
import Derived.RangeFuncNested
import Derived.RangeFuncBound
import Derived.RangeFuncCalls
import Derived.RangeFuncLeaves
import Derived.RangeFuncBox
import Derived.Shelf.Abstract
import Derived.Shelf.RegionOpen
import Derived.WalkKit
import Derived.OwnWalkIn
import Derived.TacticsInMore
import Derived.LoopNIn
import Derived.LoopIn
import Derived.WalkMore
import Derived.Test.YtljpiafopbfdlaaQHlO
import Derived.Test.YtljpiafopbfdlaaQHlI
namespace Go.Proofs.Ytljpiafopbfdlaa
open Go.RowKit Go.Shelf
set_option linter.unusedVariables false
set_option linter.unusedSimpArgs false

theorem wpList_turn {P : Program} {ops : Array Oper} {rest : List Oper} {o : Oper} {a : Act} {w : World} {Q : Exit → Act → World → Prop} (v : Value) (w' : World) (hw : Region.wanted o (yielded ops a.tmps) = true) (hv : (execOp a.eval o).run P w = .ok (.value v) w')
    (h : wpList P ops Q rest (a.put o.dst v) w') : wpList P ops Q (o :: rest) a w :=
  wpList_step fun K hK => by
    rw [if_pos hw]
    unfold Oper.wp
    rw [hv]
    exact hK _ _ h
def inR (n l m : Int) : Bool := decide (l ≤ n) && decide (n ≤ m)
set_option maxRecDepth 100000 in
set_option maxHeartbeats 8000000 in
theorem from17_any (n l m : Int) {r : Bool} (hr : inR n l m = r) (w : World) : Calls Try.prog 41 #[.int .i64 n, .int .i64 l, .int .i64 m] w fun e w' => e = .returned (.bool r) ∧ w' = w := by
  by_cases h0 : l ≤ n
  · have HE : Hid (decide (n ≤ m) = r) := Lib.hid (by rw [← hr]; simp [inR, h0])
    clear hr
    go_enter Try.func41, Try.ntmps41
    go_wp2_with fail
    go_ret
    exact ⟨ret_bool HE.out, rfl⟩
  · have HE : Hid (false = r) := Lib.hid (by rw [← hr]; simp [inR, h0])
    clear hr
    go_enter Try.func41, Try.ntmps41
    go_wp2_with fail
    go_ret
    exact ⟨ret_bool HE.out, rfl⟩
section
variable {P : World → Prop} {w : World}
set_option maxRecDepth 100000 in
set_option maxHeartbeats 8000000 in
theorem twice17_P (hP : Closed P) (a x : Int × Int × Int) (g : Nat) (hg : ∀ w, P w → Whole w g 44 (stpCells x)) {r : Bool} (hr : (a.1 == x.1) = r) (h : P w) : Calls Try.prog 57 #[stpV a.1 a.2.1 a.2.2, .pointer (some ⟨g, 0, none⟩)] w fun e w' => e = .returned (.bool r) ∧ P w' := by
  obtain ⟨Q, HQ, HQp, HQv, hw⟩ := keep_box hP h 44 (stpCells a)
  have x0 := (hg _ (HQp.out _ hw)).cell_at 0 rfl
  have m0 := HQv.out _ hw
  have v0 := m0.cell_at 0 rfl
  have v1 := m0.cell_at 1 rfl
  have v2 := m0.cell_at 2 rfl
  clear m0
  have HR := Lib.hid hr
  clear hg hP h hr
  go_enter Try.func57, Try.ntmps57
  go_wp2_with fail
  go_ret
  exact ⟨ret_bool HR.out, HQp.out _ hw⟩
set_option maxRecDepth 100000 in
set_option maxHeartbeats 8000000 in
theorem indexStp17_P {l : List (Int × Int × Int)} {A : Option Addr} (c : Nat) (hR : ∀ w, P w → Row w w.heap.size A (l.flatMap stpCells)) (hn : (l.length : Int) ≤ 9223372036854775807) (p0 : Value) {pr : Int × Int × Int → Bool} {r : Int}
    (hf : ∀ x w, P w → Calls Try.prog 57 #[stpV x.1 x.2.1 x.2.2, p0] w fun e w' => e = .returned (.bool (pr x)) ∧ P w') (hr : idxV pr l = r) (h : P w) :
    Calls Try.prog 65 #[.slice A l.length c, .func (.func 57) #[] #[p0]] w fun e w' => e = .returned (.int .i64 r) ∧ P w' := by
  have HF := Lib.hid hf
  have HR := Lib.hid hr
  clear hf hr
  go_enter Try.func65, Try.ntmps65
  go_wp2_with fail
  go_loopw [8] (fun i wr => ∃ j : Nat, j ≤ l.length ∧ i = .int .i64 j ∧ P wr ∧ Hid (NoneUp pr l j))
    (fun i _ => l.length - (intOf i).toNat)
  case atStart => exact ⟨0, by omega, rfl, h, Lib.hid (NoneUp.zero _ _)⟩
  case round =>
    obtain ⟨j, hj, rfl, hp, HNo⟩ := hrel
    by_cases hlt : j < l.length
    · have hlt' : (j : Int) < l.length := by omega
      obtain ⟨x, hx⟩ : ∃ x, l[j]? = some x := ⟨_, List.getElem?_eq_getElem hlt⟩
      have HX := Lib.hid hx
      clear hx
      obtain ⟨b, off, hA, _, hc0, hc⟩ := (hR _ hp).nth (n := 3) (fun _ => rfl) (by omega) HX.out
      subst hA
      have c0 := hc0 j x _ HX.out rfl
      have c1 := hc j x 1 _ HX.out rfl
      have c2 := hc j x 2 _ HX.out rfl
      clear hc0 hc
      go_wp2_with fail
      refine (HF.out x _ hp).mono ?_
      clear hp c0 c1 c2
      cases hpr : pr x
      · have HN := Lib.hid (HNo.out.succ HX.out hpr)
        clear hpr
        rintro e w1 ⟨rfl, hp⟩
        go_wp2_with fail
        go_roundw
        case rel => exact ⟨j + 1, hlt, by go_num, hp, HN⟩
        case measure => simp [intOf]; omega
      · have HI := Lib.hid (HNo.out.idx HX.out hpr)
        clear hpr
        rintro e w1 ⟨rfl, hp⟩
        go_wp2_with fail
        go_ret
        exact ⟨ret_int (by rw [← HR.out, HI.out]), hp⟩
    · obtain rfl : j = l.length := by omega
      have HI := Lib.hid HNo.out.idx_no
      go_wp2_with fail
      go_ret
      exact ⟨ret_int (by rw [← HR.out, HI.out]), hp⟩
set_option maxRecDepth 100000 in
set_option maxHeartbeats 8000000 in
theorem containsStp17_P {l : List (Int × Int × Int)} {A : Option Addr} (c : Nat) (hR : ∀ w, P w → Row w w.heap.size A (l.flatMap stpCells)) (hn : (l.length : Int) ≤ 9223372036854775807) (p0 : Value) {pr : Int × Int × Int → Bool} (hf : ∀ x w, P w → Calls Try.prog 57 #[stpV x.1 x.2.1 x.2.2, p0] w fun e w' => e = .returned (.bool (pr x)) ∧ P w') {r : Bool} (hr : l.any pr = r) (h : P w) :
    Calls Try.prog 56 #[.slice A l.length c, .func (.func 57) #[] #[p0]] w fun e w' => e = .returned (.bool r) ∧ P w' := by
  obtain ⟨i, hi⟩ : ∃ i, idxV pr l = i := ⟨_, rfl⟩
  have HE : Hid (decide (0 ≤ i) = r) := Lib.hid (by rw [← hi, idxV_any, hr])
  have K := Lib.hid (indexStp17_P (P := P) (w := w) c hR hn p0 hf hi h)
  clear hr hi hf hR h
  go_enter Try.func56, Try.ntmps56
  go_wp2_with fail
  refine K.out.mono ?_
  clear K
  rintro e w1 ⟨rfl, h⟩
  go_wp2_with fail
  go_ret
  exact ⟨ret_bool HE.out, h⟩
end
set_option maxRecDepth 100000 in
set_option maxHeartbeats 8000000 in
theorem twice17_any {ss : List (Int × Int × Int)} {A : Option Addr} {c : Nat} {w : World} (hR : Row w w.heap.size A (ss.flatMap stpCells)) (hn : (ss.length : Int) ≤ 9223372036854775807) (hcap : ss.length ≤ c) {r : Bool} (hr : twiceB ss = r) :
    Calls Try.prog 42 #[.slice A ss.length c] w fun e w' => e = .returned (.bool r) ∧ Below w.heap.size w w' := by
  have HR := Lib.hid hr
  clear hr
  go_enter Try.func42, Try.ntmps42
  go_wp2_with fail
  go_loopw [7] (fun i wr => ∃ j : Nat, j ≤ ss.length ∧ i = .int .i64 j ∧ Below w.heap.size w wr ∧ Hid (NoneUp (dupAt ss) (List.range ss.length) j))
    (fun i _ => ss.length - (intOf i).toNat)
  case atStart => exact ⟨0, by omega, rfl, Below.refl _ _, Lib.hid (NoneUp.zero _ _)⟩
  case round =>
    obtain ⟨j, hj, rfl, hB, HNo⟩ := hrel
    by_cases hlt : j < ss.length
    · have hlt' : (j : Int) < ss.length := by omega
      obtain ⟨⟨x1, x2, x3⟩, hx⟩ : ∃ x, ss[j]? = some x := ⟨_, List.getElem?_eq_getElem hlt⟩
      have HX := Lib.hid hx
      obtain ⟨W1, hW1⟩ : ∃ W1, wr.alloc (.cells #[.int .i64 x1, .int .i64 x2, .int .i64 x3] 44) = W1 := ⟨_, rfl⟩
      have hB1 : Below wr.heap.size wr W1 := by rw [← hW1]; exact below1 _ _
      have hb1 : Whole W1 wr.heap.size 44 (stpCells (x1, x2, x3)) := by rw [← hW1]; exact Whole.new _ _ (stpCells (x1, x2, x3))
      have hRow1 : Row W1 W1.heap.size A ((ss.take j).flatMap stpCells) := row_to ((hR.on hB).on hB1) j
      have hlj : (ss.take j).length = j := by rw [List.length_take]; omega
      obtain ⟨d, hd⟩ : ∃ d, (ss.take j).any (fun a => a.1 == x1) = d := ⟨_, rfl⟩
      have HD : Hid (dupAt ss j = d) := Lib.hid (by rw [dupAt_at hx]; exact hd)
      have K := containsStp17_P (P := fun W => Below W1.heap.size W1 W) (w := W1) c (fun W hW => hRow1.on hW) (by rw [hlj]; omega) (.pointer (some ⟨wr.heap.size, 0, none⟩)) (pr := fun a => a.1 == x1) (fun x W hW => twice17_P (P := fun W => Below W1.heap.size W1 W) (Closed.below W1) x (x1, x2, x3) _ (fun W hW => hb1.below hW hb1.lt) rfl hW) hd (Below.refl _ _)
      rw [hlj] at K
      have HK := Lib.hid K
      have HB := Lib.hid (And.intro hB hB1)
      have hrun := slice_to A ss.length c j (by omega) W1
      obtain ⟨b, off, rfl, _, hc0, hc⟩ := (hR.on hB).nth (n := 3) (fun _ => rfl) (by omega) hx
      have c0 := hc0 j _ _ hx rfl
      have c1 := hc j _ 1 _ hx rfl
      have c2 := hc j _ 2 _ hx rfl
      clear hc0 hc hx hB hB1 hb1 hRow1 hlj hd K
      go_upto_region 4 with (fail)
      try rw [hW1]
      clear c0 c1 c2
      go_wp2_with (refine list_slice rfl 22 (.tmp 12) none (some (.tmp 13)) none rfl hrun ?_)
      refine HK.out.mono ?_
      clear HK hrun
      rintro e w2 ⟨rfl, hB2⟩
      have HB2 := Lib.hid (HB.out.1.trans ((HB.out.2.trans (hB2.mono HB.out.2.size)).mono HB.out.1.size))
      cases d
      · have HN := Lib.hid (HNo.out.succ (List.getElem?_range hlt) HD.out)
        go_wp2_with fail
        go_roundw
        case rel => exact ⟨j + 1, hlt, by go_num, HB2.out, HN⟩
        case measure => simp [intOf]; omega
      · have HF : Hid (true = r) := Lib.hid (by rw [← HR.out]; exact (any_hit (List.getElem?_range hlt) HD.out).symm)
        go_wp2_with fail
        go_ret
        exact ⟨ret_bool HF.out, HB2.out⟩
    · obtain rfl : j = ss.length := by omega
      have HF : Hid (false = r) := Lib.hid (by rw [← HR.out]; have := HNo.out; rw [← List.length_range (n := ss.length)] at this; exact (NoneUp.any (by simpa using this)).symm)
      go_wp2_with fail
      go_ret
      exact ⟨ret_bool HF.out, hB⟩
def wrongB (n : Int) (x : Int × Int × Int) : Bool := !inR x.2.2 0 n || (!inR x.1 0 23 || !inR x.2.1 0 1)
set_option maxRecDepth 100000 in
set_option maxHeartbeats 8000000 in
theorem wrong1_any (n : Int) (g : Nat) (x1 x2 x3 : Int) {w : World} (hg : Whole w g 3 [.int .i64 n]) {r : Bool} (hr : wrongB n (x1, x2, x3) = r) :
    Calls Try.prog 60 #[stpV x1 x2 x3, .pointer (some ⟨g, 0, none⟩)] w fun e w' => e = .returned (.bool r) ∧ Below w.heap.size w w' := by
  have hB := below1 w (.cells #[.int .i64 x1, .int .i64 x2, .int .i64 x3] 40)
  have hb0 := Whole.new w 40 [.int .i64 x1, .int .i64 x2, .int .i64 x3]
  have y0 := hb0.cell_at 0 rfl
  have y1 := hb0.cell_at 1 rfl
  have y2 := hb0.cell_at 2 rfl
  have c0 := (hg.below hB hg.lt).cell_at 0 rfl
  obtain ⟨a, ha⟩ : ∃ a, inR x3 0 n = a := ⟨_, rfl⟩
  obtain ⟨b, hb⟩ : ∃ a, inR x1 0 23 = a := ⟨_, rfl⟩
  obtain ⟨c, hc⟩ : ∃ a, inR x2 0 1 = a := ⟨_, rfl⟩
  have HR : Hid ((!a || (!b || !c)) = r) := Lib.hid (by rw [← hr, ← ha, ← hb, ← hc]; rfl)
  have KA := Lib.hid fun W => from17_any x3 0 n ha W
  have KB := Lib.hid fun W => from17_any x1 0 23 hb W
  have KC := Lib.hid fun W => from17_any x2 0 1 hc W
  have HB := Lib.hid hB
  clear hB hb0 hg hr ha hb hc
  go_enter Try.func60, Try.ntmps60
  go_wp2_with fail
  refine (KA.out _).mono ?_
  rintro e w1 ⟨rfl, rfl⟩
  cases a
  · go_wp2_with fail
    go_ret
    exact ⟨ret_bool (by rw [← HR.out]; rfl), HB.out⟩
  go_wp2_with fail
  refine (KB.out _).mono ?_
  rintro e w1 ⟨rfl, rfl⟩
  cases b
  · go_wp2_with fail
    go_ret
    exact ⟨ret_bool (by rw [← HR.out]; rfl), HB.out⟩
  go_wp2_with fail
  refine (KC.out _).mono ?_
  rintro e w1 ⟨rfl, rfl⟩
  go_wp2_with fail
  go_ret
  exact ⟨ret_bool (by rw [← HR.out]; simp), HB.out⟩
section
variable {P : World → Prop} {w : World}
set_option maxRecDepth 100000 in
set_option maxHeartbeats 8000000 in
theorem indexNed17_P {l : List (Int × Int × Int)} {A : Option Addr} (c : Nat) (hR : ∀ w, P w → Row w w.heap.size A (l.flatMap needCells)) (hn : (l.length : Int) ≤ 9223372036854775807) (p0 : Value) {pr : Int × Int × Int → Bool} {r : Int}
    (hf : ∀ x w, P w → Calls Try.prog 60 #[stpV x.1 x.2.1 x.2.2, p0] w fun e w' => e = .returned (.bool (pr x)) ∧ P w') (hr : idxV pr l = r) (h : P w) :
    Calls Try.prog 59 #[.slice A l.length c, .func (.func 60) #[] #[p0]] w fun e w' => e = .returned (.int .i64 r) ∧ P w' := by
  have HF := Lib.hid hf
  have HR := Lib.hid hr
  clear hf hr
  go_enter Try.func59, Try.ntmps59
  go_wp2_with fail
  go_loopw [8] (fun i wr => ∃ j : Nat, j ≤ l.length ∧ i = .int .i64 j ∧ P wr ∧ Hid (NoneUp pr l j))
    (fun i _ => l.length - (intOf i).toNat)
  case atStart => exact ⟨0, by omega, rfl, h, Lib.hid (NoneUp.zero _ _)⟩
  case round =>
    obtain ⟨j, hj, rfl, hp, HNo⟩ := hrel
    by_cases hlt : j < l.length
    · have hlt' : (j : Int) < l.length := by omega
      obtain ⟨x, hx⟩ : ∃ x, l[j]? = some x := ⟨_, List.getElem?_eq_getElem hlt⟩
      have HX := Lib.hid hx
      clear hx
      obtain ⟨b, off, hA, _, hc0, hc⟩ := (hR _ hp).nth (n := 3) (fun _ => rfl) (by omega) HX.out
      subst hA
      have c0 := hc0 j x _ HX.out rfl
      have c1 := hc j x 1 _ HX.out rfl
      have c2 := hc j x 2 _ HX.out rfl
      clear hc0 hc
      go_wp2_with fail
      refine (HF.out x _ hp).mono ?_
      clear hp c0 c1 c2
      cases hpr : pr x
      · have HN := Lib.hid (HNo.out.succ HX.out hpr)
        clear hpr
        rintro e w1 ⟨rfl, hp⟩
        go_wp2_with fail
        go_roundw
        case rel => exact ⟨j + 1, hlt, by go_num, hp, HN⟩
        case measure => simp [intOf]; omega
      · have HI := Lib.hid (HNo.out.idx HX.out hpr)
        clear hpr
        rintro e w1 ⟨rfl, hp⟩
        go_wp2_with fail
        go_ret
        exact ⟨ret_int (by rw [← HR.out, HI.out]), hp⟩
    · obtain rfl : j = l.length := by omega
      have HI := Lib.hid HNo.out.idx_no
      go_wp2_with fail
      go_ret
      exact ⟨ret_int (by rw [← HR.out, HI.out]), hp⟩
set_option maxRecDepth 100000 in
set_option maxHeartbeats 8000000 in
theorem containsNed17_P {l : List (Int × Int × Int)} {A : Option Addr} (c : Nat) (hR : ∀ w, P w → Row w w.heap.size A (l.flatMap needCells)) (hn : (l.length : Int) ≤ 9223372036854775807) (p0 : Value) {pr : Int × Int × Int → Bool} (hf : ∀ x w, P w → Calls Try.prog 60 #[stpV x.1 x.2.1 x.2.2, p0] w fun e w' => e = .returned (.bool (pr x)) ∧ P w') {r : Bool} (hr : l.any pr = r) (h : P w) :
    Calls Try.prog 45 #[.slice A l.length c, .func (.func 60) #[] #[p0]] w fun e w' => e = .returned (.bool r) ∧ P w' := by
  obtain ⟨i, hi⟩ : ∃ i, idxV pr l = i := ⟨_, rfl⟩
  have HE : Hid (decide (0 ≤ i) = r) := Lib.hid (by rw [← hi, idxV_any, hr])
  have K := Lib.hid (indexNed17_P (P := P) (w := w) c hR hn p0 hf hi h)
  clear hr hi hf hR h
  go_enter Try.func45, Try.ntmps45
  go_wp2_with fail
  refine K.out.mono ?_
  clear K
  rintro e w1 ⟨rfl, h⟩
  go_wp2_with fail
  go_ret
  exact ⟨ret_bool HE.out, h⟩
end
set_option maxRecDepth 100000 in
set_option maxHeartbeats 8000000 in
theorem wrongNeed_any (n : Int) (w : World) : Calls Try.prog 46 #[.int .i64 n] w fun e w' => e = .returned (.func (.func 60) #[] #[.pointer (some ⟨w.heap.size, 0, none⟩)]) ∧ w' = w.alloc (.cells #[.int .i64 n] 3) := by
  go_enter Try.func46, Try.ntmps46
  go_wp2_with fail
  go_ret
  exact ⟨rfl, rfl⟩
/-- None was there, of two steps. -/
def noWas (h : Hld) : Prop := h.w0 = false ∧ h.w1 = false ∧ h.w2 = false ∧ h.w3 = false ∧ h.w4 = false ∧ h.w5 = false ∧ h.w6 = false ∧ h.w7 = false ∧ h.w8 = false ∧ h.w9 = false ∧ h.wA = false ∧ h.wB = false
theorem clear_two {g : Nat} {W : World} {cs : List Value} (hb : Whole W g 26 cs) (hl : 2 ≤ cs.length) : (Builtin.clear_ #[82] 0 #[.slice (some ⟨g, 0, none⟩) 2 12]).run Try.prog W = .ok (.tuple #[]) (W.setCells g 0 [.bool false, .bool false]) := by
  have z : ∀ w : World, (zeroValue 4).run Try.prog w = .ok (.bool false) w := fun w => by kernel_rfl
  have u : ∀ w : World, (underlying 82).run Try.prog w = .ok (.slice 4) w := run_underlying Try.underlying82
  have hrun := run_storeCells_cells (P := Try.prog) g 0 [.bool false, .bool false] 0 W (fun j hj => by rw [hb.cell, List.getElem?_eq_getElem (show 0 + 0 + j < cs.length by have : j < 2 := hj; omega)]; rfl) (fun j hj => hb.frozen _) (by intro v hv; simp at hv; subst hv; rfl)
  have e : (List.map (fun i => ([Value.bool false][i % 1]?).getD default) (List.range 2)) = [.bool false, .bool false] := rfl
  unfold Builtin.clear_
  simp [Sem.run_bind, u, z, Result.andThen, Builtin.zeroCells, Value.cells]
  rw [e, hrun]
set_option maxRecDepth 100000 in
set_option maxHeartbeats 8000000 in
theorem wasBehind_any {h : Hld} (hn : h.p.ss.length = 2) (hw : noWas h) (w : World) : Calls Try.prog 44 #[h.val] w fun e w' => e = .returned (.bool false) ∧ Below w.heap.size w w' := by
  obtain ⟨Q, HQ, HQb, HQh, hq⟩ := keep_h (Closed.below w) (Below.refl _ w) h
  obtain ⟨W0, hW0⟩ : ∃ W0, w.alloc (.cells h.cells.toArray 28) = W0 := ⟨_, rfl⟩
  have hs0 : W0.heap.size = w.heap.size + 1 := by rw [← hW0]; simp
  rw [hW0] at hq
  have HW0 := Lib.hid hW0
  have m0 := HQh.out _ hq
  obtain ⟨e0, e1, e2, e3, e4, e5, e6, e7, e8, e9, eA, eB⟩ := hw
  have x8 : W0.cell? ⟨w.heap.size, 8, none⟩ = some (.bool false) := by rw [← e0]; exact m0.cell_at 8 rfl
  have x9 : W0.cell? ⟨w.heap.size, 9, none⟩ = some (.bool false) := by rw [← e1]; exact m0.cell_at 9 rfl
  have x10 : W0.cell? ⟨w.heap.size, 10, none⟩ = some (.bool false) := by rw [← e2]; exact m0.cell_at 10 rfl
  have x11 : W0.cell? ⟨w.heap.size, 11, none⟩ = some (.bool false) := by rw [← e3]; exact m0.cell_at 11 rfl
  have x12 : W0.cell? ⟨w.heap.size, 12, none⟩ = some (.bool false) := by rw [← e4]; exact m0.cell_at 12 rfl
  have x13 : W0.cell? ⟨w.heap.size, 13, none⟩ = some (.bool false) := by rw [← e5]; exact m0.cell_at 13 rfl
  have x14 : W0.cell? ⟨w.heap.size, 14, none⟩ = some (.bool false) := by rw [← e6]; exact m0.cell_at 14 rfl
  have x15 : W0.cell? ⟨w.heap.size, 15, none⟩ = some (.bool false) := by rw [← e7]; exact m0.cell_at 15 rfl
  have x16 : W0.cell? ⟨w.heap.size, 16, none⟩ = some (.bool false) := by rw [← e8]; exact m0.cell_at 16 rfl
  have x17 : W0.cell? ⟨w.heap.size, 17, none⟩ = some (.bool false) := by rw [← e9]; exact m0.cell_at 17 rfl
  have x18 : W0.cell? ⟨w.heap.size, 18, none⟩ = some (.bool false) := by rw [← eA]; exact m0.cell_at 18 rfl
  have x19 : W0.cell? ⟨w.heap.size, 19, none⟩ = some (.bool false) := by rw [← eB]; exact m0.cell_at 19 rfl
  have HX3 : Hid (∀ W, Q W → W.cell? ⟨w.heap.size, 3, none⟩ = some (.slice h.p.A 2 h.p.c)) := Lib.hid fun W hW => by rw [← hn]; exact (HQh.out W hW).cell_at 3 rfl
  have x3 := HX3.out _ hq
  have HB := Lib.hid (HQb.out _ hq)
  have HS0 := Lib.hid hs0
  clear m0 e0 e1 e2 e3 e4 e5 e6 e7 e8 e9 eA eB hW0 hs0
  go_enter Try.func44, Try.ntmps44
  go_upto_region 1 with (fail)
  rw [HW0.out]
  go_upto_region 2 with (fail)
  have hal := below1 W0 (.cells #[.bool false, .bool false, .bool false, .bool false, .bool false, .bool false, .bool false, .bool false, .bool false, .bool false, .bool false, .bool false] 26)
  have hq1 := HQ.out _ _ hq hal
  have hbx := Whole.new W0 26 [.bool false, .bool false, .bool false, .bool false, .bool false, .bool false, .bool false, .bool false, .bool false, .bool false, .bool false, .bool false]
  have x3' := HX3.out _ hq1
  clear x3 x8 x9 x10 x11 x12 x13 x14 x15 x16 x17 x18 x19 hq
  obtain ⟨W1, hW1⟩ : ∃ W1, W0.alloc (.cells #[.bool false, .bool false, .bool false, .bool false, .bool false, .bool false, .bool false, .bool false, .bool false, .bool false, .bool false, .bool false] 26) = W1 := ⟨_, rfl⟩
  rw [hW1] at x3' hbx hq1
  rw [hW1]
  clear hW1 hal HW0
  have hclr := clear_two hbx (by show 2 ≤ 12; omega)
  obtain ⟨W2, hW2⟩ : ∃ W2, W1.setCells W0.heap.size 0 [.bool false, .bool false] = W2 := ⟨_, rfl⟩
  have hb2 : Whole W2 W0.heap.size 26 [.bool false, .bool false, .bool false, .bool false, .bool false, .bool false, .bool false, .bool false, .bool false, .bool false, .bool false, .bool false] := by rw [← hW2]; exact (hbx.set 0 (.bool false)).set 1 (.bool false)
  have HB2 : Hid (Below w.heap.size w W2) := Lib.hid (by rw [← hW2]; exact setCells_below _ _ (HQb.out _ hq1) (by have := HS0.out; omega))
  rw [hW2] at hclr
  have hne : ∀ W : World, (binOp .neq 26 (.agg #[.bool false, .bool false, .bool false, .bool false, .bool false, .bool false, .bool false, .bool false, .bool false, .bool false, .bool false, .bool false]) (.agg #[.bool false, .bool false, .bool false, .bool false, .bool false, .bool false, .bool false, .bool false, .bool false, .bool false, .bool false, .bool false])).run Try.prog W = .ok (.bool false) W := fun W => neq_was W hld0 hld0
  have z0 := hb2.cell_at 0 rfl
  have z1 := hb2.cell_at 1 rfl
  have z2 := hb2.cell_at 2 rfl
  have z3 := hb2.cell_at 3 rfl
  have z4 := hb2.cell_at 4 rfl
  have z5 := hb2.cell_at 5 rfl
  have z6 := hb2.cell_at 6 rfl
  have z7 := hb2.cell_at 7 rfl
  have z8 := hb2.cell_at 8 rfl
  have z9 := hb2.cell_at 9 rfl
  have z10 := hb2.cell_at 10 rfl
  have z11 := hb2.cell_at 11 rfl
  clear hW2 hbx hb2 hq1
  go_wp2_with fail
  go_ret
  exact ⟨rfl, HB2.out⟩
/-- One that may be, of two steps. -/
structure GoodR (h : Hld) : Prop where
  id : inR h.id 1 1073741824 = true
  tm : inR h.tm 0 1073741824 = true
  st : ¬ h.st < 1 ∧ ¬ 5 ≤ h.st
  gone : inR h.gone 0 2 = true
  len : h.p.ss.length = 2
  over : h.os.length ≤ 2
  once : twiceB (h.p.ss ++ h.os) = false
  was : noWas h
  wrong : h.ns.any (wrongB 2) = false
  clash : clashN (h.ns ++ []) = false
set_option maxRecDepth 100000 in
set_option maxHeartbeats 32000000 in
theorem right17g_any {h : Hld} {w : World} (hl : HLies h w) (hw : HWf h) (hs : Small h) (hg : GoodR h) : Calls Try.prog 26 #[h.val] w fun e w' => e = .returned (.bool true) ∧ Below w.heap.size w w' := by
  obtain ⟨Q, HQ, HQb, HQh, hq⟩ := keep_h (Closed.below w) (Below.refl _ w) h
  obtain ⟨W0, hW0⟩ : ∃ W0, w.alloc (.cells h.cells.toArray 28) = W0 := ⟨_, rfl⟩
  rw [hW0] at hq
  have HW0 := Lib.hid hW0
  have HL := Lib.hid fun W (hW : Q W) => hl.on (HQb.out W hW)
  have HG := Lib.hid (And.intro hg (And.intro hw hs))
  have hlen := hg.len
  obtain ⟨hs1, hs5⟩ := hg.st
  have hov : ((h.os.length : Nat) : Int) ≤ 2 := by have := hg.over; omega
  have hov2 : ¬ (2 : Int) < ((h.os.length : Nat) : Int) := by omega
  obtain ⟨id, hid⟩ : ∃ x, h.id = x := ⟨_, rfl⟩
  obtain ⟨st, hst⟩ : ∃ x, h.st = x := ⟨_, rfl⟩
  obtain ⟨gone, hgone⟩ : ∃ x, h.gone = x := ⟨_, rfl⟩
  obtain ⟨tm, htm⟩ : ∃ x, h.tm = x := ⟨_, rfl⟩
  rw [hst] at hs1 hs5
  have HX : Hid (∀ W, Q W → W.cell? ⟨w.heap.size, 0, none⟩ = some (.int .i64 id) ∧ W.cell? ⟨w.heap.size, 3, none⟩ = some (.slice h.p.A 2 h.p.c) ∧ W.cell? ⟨w.heap.size, 4, none⟩ = some (.slice h.oA h.os.length h.oc) ∧ W.cell? ⟨w.heap.size, 5, none⟩ = some (.slice h.nA h.ns.length h.nc) ∧ W.cell? ⟨w.heap.size, 6, none⟩ = some (.int .u8 st) ∧ W.cell? ⟨w.heap.size, 7, none⟩ = some (.int .i64 gone) ∧ W.cell? ⟨w.heap.size, 21, none⟩ = some (.int .i64 tm)) := Lib.hid fun W hW => by
    have m0 := HQh.out W hW
    rw [← hid, ← hst, ← hgone, ← htm, ← hlen]
    exact ⟨m0.cell_at 0 rfl, m0.cell_at 3 rfl, m0.cell_at 4 rfl, m0.cell_at 5 rfl, m0.cell_at 6 rfl, m0.cell_at 7 rfl, m0.cell_at 21 rfl⟩
  have K1 := Lib.hid fun W => from17_any id 1 1073741824 (by subst hid; exact hg.id) W
  have K2 := Lib.hid fun W => from17_any tm 0 1073741824 (by subst htm; exact hg.tm) W
  have K3 := Lib.hid fun W => from17_any gone 0 2 (by subst hgone; exact hg.gone) W
  have K4 := Lib.hid fun W => from17_any 2 1 12 (r := true) rfl W
  clear hW0 hl hw hs hg hid hst hgone htm hlen hov
  go_enter Try.func26, Try.ntmps26
  go_wp2
  go_step3
  go_upto_region 1 with (fail)
  rw [HW0.out]
  clear HW0
  obtain ⟨x0, x3, x4, x5, x6, x7, x21⟩ := HX.out _ hq
  go_wp2_with fail
  refine (K1.out _).mono ?_
  rintro e w1 ⟨rfl, rfl⟩
  go_wp2_with fail
  refine (K2.out _).mono ?_
  rintro e w1 ⟨rfl, rfl⟩
  go_wp2_with fail
  refine (K3.out _).mono ?_
  rintro e w1 ⟨rfl, rfl⟩
  go_wp2_with fail
  refine (K4.out _).mono ?_
  rintro e w1 ⟨rfl, rfl⟩
  clear K1 K2 K3 K4
  obtain ⟨W0, rfl⟩ : ∃ W, W = w1 := ⟨w1, rfl⟩
  go_upto_region 5 with (fail)
  apply wp_region_lit
  repeat (first | (refine wpList_skip (by rfl) ?_; simp only [Act.put, List.setIfInBounds_toArray, List.set_cons_zero, List.set_cons_succ]) | (refine wpList_read _ (by rfl) (exec_hld (by rfl) (by rfl) (HQh.out _ hq)) ?_; simp only [Act.put, List.setIfInBounds_toArray, List.set_cons_zero, List.set_cons_succ]) | (refine wpList_read _ (by rfl) (by (have x3 := x3; go_simp; first | done | with_reducible rfl)) ?_; simp only [Act.put, List.setIfInBounds_toArray, List.set_cons_zero, List.set_cons_succ]))
  refine wpList_turn _ _ (by rfl) (by (go_simp; first | done | rfl | exact ⟨rfl, rfl⟩)) ?_
  simp only [Act.put, List.setIfInBounds_toArray, List.set_cons_zero, List.set_cons_succ]
  obtain ⟨W1, hW1⟩ : ∃ W1, W0.alloc (.cells #[.slice h.p.A 2 h.p.c, .slice h.oA h.os.length h.oc] 22) = W1 := ⟨_, rfl⟩
  have hB1 : Below W0.heap.size W0 W1 := by rw [← hW1]; exact below1 _ _
  have hb1 : Whole W1 W0.heap.size 22 [.slice h.p.A h.p.ss.length h.p.c, .slice h.oA h.os.length h.oc] := by rw [HG.out.1.len, ← hW1]; exact Whole.new _ _ [_, _]
  rw [hW1]
  replace hq := HQ.out _ _ hq hB1
  have KC := Lib.hid (concat_any (HL.out _ hq).pl.row (HL.out _ hq).orow hb1 (by rw [HG.out.1.len]; omega) (by rw [HG.out.1.len]; have := HG.out.1.over; omega))
  clear hW1 hB1 hb1
  refine wpList_callx (by rfl) (by (go_simp; first | done | rfl)) KC.out (fun e w2 he => ?_)
  obtain ⟨A', c', rfl, hrow, hcap, hB2⟩ := he
  refine ⟨_, rfl, ?_⟩
  simp only [Act.put, List.setIfInBounds_toArray, List.set_cons_zero, List.set_cons_succ]
  replace hq := HQ.out _ _ hq hB2
  have hlen2 : ((h.p.ss ++ h.os).length : Int) ≤ 9223372036854775807 := by rw [List.length_append, HG.out.1.len]; have := HG.out.1.over; omega
  have KT := Lib.hid (twice17_any hrow hlen2 hcap HG.out.1.once)
  clear hrow hcap hB2 hlen2 KC
  refine wpList_callv (by rfl) (by (go_simp; first | done | rfl)) KT.out (fun w3 hB3 => ?_)
  simp only [Act.put, List.setIfInBounds_toArray, List.set_cons_zero, List.set_cons_succ]
  replace hq := HQ.out _ _ hq hB3
  clear hB3 KT
  repeat (first | (refine wpList_skip (by rfl) ?_; simp only [Act.put, List.setIfInBounds_toArray, List.set_cons_zero, List.set_cons_succ]) | (refine wpList_read _ (by rfl) (exec_hld (by rfl) (by rfl) (HQh.out _ hq)) ?_; simp only [Act.put, List.setIfInBounds_toArray, List.set_cons_zero, List.set_cons_succ]) | (refine wpList_read _ (by rfl) (by (go_simp; first | done | with_reducible rfl)) ?_; simp only [Act.put, List.setIfInBounds_toArray, List.set_cons_zero, List.set_cons_succ]))
  refine wpList_callv (by rfl) (by (go_simp; first | done | rfl)) (wasBehind_any HG.out.1.len HG.out.1.was _) (fun w4 hB4 => ?_)
  simp only [Act.put, List.setIfInBounds_toArray, List.set_cons_zero, List.set_cons_succ]
  replace hq := HQ.out _ _ hq hB4
  clear hB4
  go_upto_region 6 with (fail)
  have HBS : Hid (∀ W, Below w4.heap.size w4 W → Q W) := Lib.hid (fun W hB => HQ.out _ _ hq hB)
  refine region_mix (fun W => Below w4.heap.size w4 W) [(0, false), (1, false), (2, false), (3, true), (4, true), (5, false), (6, false), (7, false), (8, false), (9, false)] (by kernel_rfl) (by kernel_rfl) (fun W => Below w4.heap.size w4 W) ⟨Closed.below w4, fun _ h => h⟩ (Below.refl _ _).drew ?_
  simp only [pickOps, List.getElem?_cons_zero, List.getElem?_cons_succ]
  repeat (first | (refine mix_read _ (by rfl) (fun W hW => by (have x5 := (HX.out W (HBS.out W hW)).2.2.2.1; clear hW; go_simp; first | done | with_reducible rfl)) ?_; simp only [Act.put, List.setIfInBounds_toArray, List.set_cons_zero, List.set_cons_succ]))
  refine mix_meet (fun g : Nat => .func (.func 60) #[] #[.pointer (some ⟨g, 0, none⟩)]) (fun g W => Whole W g 3 [.int .i64 2]) ⟨Closed.below w4, fun _ h => h⟩ (fun g => Closed.whole _ _ _) _ _ (by rfl) (fun W hW => by (clear hW; go_simp; first | done | rfl)) (fun W hW => (wrongNeed_any 2 W).mono fun e w' ⟨h1, h2⟩ => ⟨W.heap.size, h1, by rw [h2]; exact Whole.new W _ [_], by rw [h2]; exact below1 W _⟩) (fun g => ?_)
  simp only [Act.put, List.setIfInBounds_toArray, List.set_cons_zero, List.set_cons_succ]
  refine mix_meet (X := Unit) (fun _ => .bool false) (fun _ _ => True) ⟨(Closed.below w4).and (Closed.whole _ _ _), fun _ h => h.1⟩ (fun _ _ _ _ _ => trivial) _ _ (by rfl) (fun W hW => by (clear hW; go_simp; first | done | rfl)) (fun W hW => (containsNed17_P (P := fun X => Below W.heap.size W X) (w := W) h.nc (fun X hX => ((HL.out W (HBS.out W hW.1)).on hX).nrow) (HL.out W (HBS.out W hW.1)).nlen (.pointer (some ⟨g, 0, none⟩)) (pr := wrongB 2) (fun x X hX => (wrong1_any 2 g x.1 x.2.1 x.2.2 (hW.2.below hX hW.2.lt) rfl).mono fun e w' ⟨h1, h2⟩ => ⟨h1, hX.trans (h2.mono hX.size)⟩) HG.out.1.wrong (Below.refl _ _)).mono fun e w' ⟨h1, h2⟩ => ⟨(), h1, trivial, h2⟩) (fun _ => ?_)
  simp only [Act.put, List.setIfInBounds_toArray, List.set_cons_zero, List.set_cons_succ]
  repeat (first | (refine mix_skip (by rfl) ?_; simp only [Act.put, List.setIfInBounds_toArray, List.set_cons_zero, List.set_cons_succ]) | (refine mix_read _ (by rfl) (fun W hW => by (have x5 := (HX.out W (HBS.out W hW)).2.2.2.1; clear hW; go_simp; first | done | with_reducible rfl)) ?_; simp only [Act.put, List.setIfInBounds_toArray, List.set_cons_zero, List.set_cons_succ]) | (refine mix_call _ _ _ (by rfl) (fun W hW => by (have x5 := (HX.out W (HBS.out W hW)).2.2.2.1; clear hW; go_simp; first | done | rfl)) (fun W hW => clashB_any (us := h.ns) (vs := []) h.nc 0 (HL.out W (HBS.out W hW)).nrow (Row.nil _ _ _) HG.out.2.1.n (fun x hx => by cases hx) (by have := HG.out.2.2.n; simp; omega) HG.out.1.clash) ?_; simp only [Act.put, List.setIfInBounds_toArray, List.set_cons_zero, List.set_cons_succ]))
  refine mix_nil (fun W hW => ?_)
  have hq := HBS.out _ hW.1.1
  clear hW HBS
  go_wp2_with fail
  try rw [Exit.noGoto_ret]
  go_ret
  exact ⟨rfl, HQb.out _ hq⟩

end Go.Proofs.Ytljpiafopbfdlaa
