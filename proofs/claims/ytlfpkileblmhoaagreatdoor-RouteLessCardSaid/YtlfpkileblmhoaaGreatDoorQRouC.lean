/- Package route: endsKnown, viasRight; twice, slices.Concat, slices.Grow of steps. -/
import Derived.Deep.CutRange
import Derived.BigQuiet
import Derived.Lib.AppendZeros
import Derived.Test.YtlfpkileblmhoaaGreatDoorQRouA
import Derived.Test.YtlfpkileblmhoaaGreatDoorQLayOneM
import Derived.Test.YtlfpkileblmhoaaGreatDoorQTopoB
namespace Go.Proofs.YtlfpkileblmhoaaGreatDoor
open Go.RowKit Go.Shelf
set_option linter.unusedVariables false
set_option linter.unusedSimpArgs false

theorem list_slice {P : Program} {ops : Array Oper} {rest : List Oper} {o : Oper} {a : Act} {w : World} {Q : Exit → Act → World → Prop} (hgd : o.guard = none) (t : TypeId) (x : Operand) (lo hi mx : Option Operand)
    (ho : o.op = .slice t x lo hi mx) {v : Value} (hrun : (Instr.sliceAt t (a.eval x) (lo.map a.eval) (hi.map a.eval) (mx.map a.eval)).run P w = .ok v w) (h : wpList P ops Q rest (a.put o.dst v) w) : wpList P ops Q (o :: rest) a w :=
  wpList_plain hgd fun K hK => by
    unfold Oper.wp execOp
    simp only [ho, Sem.run_bind, Sem.run_pure, Result.andThen_ok, hrun]
    exact hK _ _ h
theorem und_steps : Tryz.prog.underlying 30 = some (.slice (Tryz.prog.elem 30)) := by kernel_rfl
theorem size_steps (W : World) : (sizeOf (Tryz.prog.elem 30)).run Tryz.prog W = .ok 3 W := by kernel_rfl
theorem slice_to (A : Option Addr) (n c a : Nat) (ha : a ≤ c) (W : World) : (Instr.sliceAt 30 (.slice A n c) none (some (.int .i64 (a : Int))) none).run Tryz.prog W = .ok (.slice A a c) W := by
  have h : (Instr.sliceAt 30 (.slice A n c) none (some (.int .i64 (a : Int))) none).run Tryz.prog W = .ok (sliced A 0 a c 3) W := by
    have h1 : (a : Int) ≤ (c : Int) := by omega
    have h2 : (0 : Int) ≤ (a : Int) := by omega
    rw [run_sliceAt_slice (h := und_steps), run_slice_h (ht := und_steps) (h0 := h2) (h2 := h1), size_steps]
    rfl
  rw [h]
  cases A <;> simp [sliced, Addr.add]
/-- Where s[a:] lies. -/
def fromA (A : Option Addr) (c a : Nat) : Option Addr := if c = a then A else A.map (·.add (a * 3))
theorem slice_from (A : Option Addr) (n c a : Nat) (ha : a ≤ n) (W : World) : (Instr.sliceAt 30 (.slice A n c) (some (.int .i64 (a : Int))) none none).run Tryz.prog W = .ok (.slice (fromA A c a) (n - a) (c - a)) W := by
  have h1 : (a : Int) ≤ (n : Int) := by omega
  have h2 : (0 : Int) ≤ (a : Int) := by omega
  rw [run_sliceAt_slice (h := und_steps), run_slice_l (ht := und_steps) (h0 := h2) (h1 := h1), size_steps]
  rfl
theorem row_to {w : World} {Bd : Nat} {A : Option Addr} {ss : List (Int × Int × Int)} (h : Row w Bd A (ss.flatMap stpCells)) (a : Nat) : Row w Bd A ((ss.take a).flatMap stpCells) := by
  intro hp
  have e : ss.flatMap stpCells = (ss.take a).flatMap stpCells ++ (ss.drop a).flatMap stpCells := by rw [← List.flatMap_append, List.take_append_drop]
  rw [e] at h
  obtain ⟨b, off, e1, hb, hc⟩ := h (by rw [List.length_append]; omega)
  exact ⟨b, off, e1, hb, fun j u hu => hc j u (by rw [List.getElem?_append_left (List.getElem?_eq_some_iff.1 hu).1]; exact hu)⟩
theorem row_from {w : World} {Bd : Nat} {A : Option Addr} {ss : List (Int × Int × Int)} (h : Row w Bd A (ss.flatMap stpCells)) {a c : Nat} (ha : a ≤ ss.length) (hcap : ss.length ≤ c) : Row w Bd (fromA A c a) ((ss.drop a).flatMap stpCells) := by
  intro hp
  have e : ss.flatMap stpCells = (ss.take a).flatMap stpCells ++ (ss.drop a).flatMap stpCells := by rw [← List.flatMap_append, List.take_append_drop]
  have hl : ((ss.take a).flatMap stpCells).length = a * 3 := by rw [flat_length (n := 3) (fun _ => rfl), List.length_take, Nat.min_eq_left ha]
  have hdl : ((ss.drop a).flatMap stpCells).length = (ss.length - a) * 3 := by rw [flat_length (n := 3) (fun _ => rfl), List.length_drop]
  have hac : ¬ c = a := by intro e2; rw [hdl] at hp; omega
  rw [e] at h
  obtain ⟨b, off, rfl, hb, hc⟩ := h (by rw [List.length_append]; omega)
  have hfa : fromA (some ⟨b, off, none⟩) c a = some ⟨b, off + a * 3, none⟩ := by
    unfold fromA
    rw [if_neg hac]
    cases a with
    | zero => simp [Addr.add]
    | succ a => simp [Addr.add]
  refine ⟨b, off + a * 3, hfa, hb, fun j u hu => ?_⟩
  have := hc (a * 3 + j) u (by rw [List.getElem?_append_right (by omega), hl, Nat.add_sub_cancel_left]; exact hu)
  rwa [← Nat.add_assoc] at this

set_option maxRecDepth 100000 in
set_option maxHeartbeats 8000000 in
theorem endsKnown_any {l : Lay} {p : Pth} {w : World} {r : Bool} (hr : knownV l p = r) : Calls Tryz.prog 30 #[l.val, p.val] w fun e w' => e = .returned (.bool r) ∧ Below w.heap.size w w' := by
  obtain ⟨Q, HQ, HQb, HQl, HQp, hw⟩ := keep_box2 (Closed.below w) (Below.refl _ w) 29 32 l.cells p.cells
  obtain ⟨b1, h1⟩ : ∃ b, (decide (0 ≤ p.s) && decide (p.s < l.sigs.length)) = b := ⟨_, rfl⟩
  obtain ⟨b2, h2⟩ : ∃ b, (decide (0 ≤ p.x) && decide (p.x < l.exits.length)) = b := ⟨_, rfl⟩
  have HR : Hid ((b1 && b2) = r) := Lib.hid (by rw [← hr, ← h1, ← h2]; rfl)
  have K1 := Lib.hid (fun W hW => keepR HQ.out (within11_any p.s l.sigs.length h1 W) hW)
  have K2 := Lib.hid (fun W hW => keepR HQ.out (within11_any p.x l.exits.length h2 W) hW)
  clear hr h1 h2
  have m0 := HQl.out _ hw
  have x0 := m0.cell_at 0 rfl
  have x1 := m0.cell_at 1 rfl
  have x2 := m0.cell_at 2 rfl
  have x3 := m0.cell_at 3 rfl
  have x4 := m0.cell_at 4 rfl
  have x5 := m0.cell_at 5 rfl
  have x6 := m0.cell_at 6 rfl
  have x7 := m0.cell_at 7 rfl
  have x8 := m0.cell_at 8 rfl
  have x9 := m0.cell_at 9 rfl
  have x10 := m0.cell_at 10 rfl
  clear m0
  have m0 := HQp.out _ hw
  have y0 := m0.cell_at 0 rfl
  have y1 := m0.cell_at 1 rfl
  have y2 := m0.cell_at 2 rfl
  clear m0
  go_enter Tryz.func30, Tryz.ntmps30
  go_wp2_with fail
  refine (K1.out _ hw).mono ?_
  clear hw x0 x1 x2 x3 x4 x5 x6 x7 x8 x9 x10 y0 y1 y2
  rintro e w1 ⟨rfl, hw⟩
  cases b1
  · go_wp2_with fail
    go_ret
    exact ⟨ret_bool HR.out, HQb.out _ hw⟩
  have m0 := HQl.out _ hw
  have x0 := m0.cell_at 0 rfl
  have x1 := m0.cell_at 1 rfl
  have x2 := m0.cell_at 2 rfl
  have x3 := m0.cell_at 3 rfl
  have x4 := m0.cell_at 4 rfl
  have x5 := m0.cell_at 5 rfl
  have x6 := m0.cell_at 6 rfl
  have x7 := m0.cell_at 7 rfl
  have x8 := m0.cell_at 8 rfl
  have x9 := m0.cell_at 9 rfl
  have x10 := m0.cell_at 10 rfl
  clear m0
  have m0 := HQp.out _ hw
  have y0 := m0.cell_at 0 rfl
  have y1 := m0.cell_at 1 rfl
  have y2 := m0.cell_at 2 rfl
  clear m0
  go_wp2_with fail
  refine (K2.out _ hw).mono ?_
  clear hw x0 x1 x2 x3 x4 x5 x6 x7 x8 x9 x10 y0 y1 y2
  rintro e w2 ⟨rfl, hw⟩
  go_wp2_with fail
  go_ret
  exact ⟨ret_bool HR.out, HQb.out _ hw⟩

section
variable {P : World → Prop} {w : World}
set_option maxRecDepth 100000 in
set_option maxHeartbeats 8000000 in
theorem via1_P (hP : Closed P) {l : Lay} (v : Int) (g : Nat) (hg : ∀ w, P w → Whole w g 29 l.cells) {r : Bool} (hr : noVia l v = r) (h : P w) : Calls Tryz.prog 49 #[.int .i64 v, .pointer (some ⟨g, 0, none⟩)] w fun e w' => e = .returned (.bool r) ∧ P w' := by
  obtain ⟨b, hb⟩ : ∃ b, (decide (0 ≤ v) && decide (v < l.secs.length)) = b := ⟨_, rfl⟩
  have HR : Hid ((!b) = r) := Lib.hid (by rw [← hr, ← hb]; rfl)
  have K1 := Lib.hid (fun W hW => keepR hP (within11_any v l.secs.length hb W) hW)
  have x0 := (hg _ h).cell_at 0 rfl
  clear hr hb hP hg
  go_enter Tryz.func49, Tryz.ntmps49
  go_wp2_with fail
  refine (K1.out _ h).mono ?_
  clear h x0
  rintro e w1 ⟨rfl, h⟩
  go_wp2_with fail
  go_ret
  exact ⟨ret_bool HR.out, h⟩

set_option maxRecDepth 100000 in
set_option maxHeartbeats 8000000 in
theorem indexVia_P {l : List Int} {A : Option Addr} (c : Nat) (hR : ∀ w, P w → Row w w.heap.size A (nums .i64 l)) (hn : (l.length : Int) ≤ 9223372036854775807) (p0 : Value) {pr : Int → Bool} {r : Int}
    (hf : ∀ x w, P w → Calls Tryz.prog 49 #[.int .i64 x, p0] w fun e w' => e = .returned (.bool (pr x)) ∧ P w') (hr : idxV pr l = r) (h : P w) :
    Calls Tryz.prog 68 #[.slice A l.length c, .func (.func 49) #[] #[p0]] w fun e w' => e = .returned (.int .i64 r) ∧ P w' := by
  have HF := Lib.hid hf
  have HR := Lib.hid hr
  clear hf hr
  go_enter Tryz.func68, Tryz.ntmps68
  go_wp2_with fail
  go_loopw [8] (fun i wr => ∃ j : Nat, j ≤ l.length ∧ i = .int .i64 j ∧ P wr ∧ Hid (NoneUp pr l j))
    (fun i _ => l.length - (intOf i).toNat)
  case atStart => exact ⟨0, by omega, rfl, h, Lib.hid (NoneUp.zero _ _)⟩
  case round =>
    obtain ⟨j, hj, rfl, hp, HNo⟩ := hrel
    by_cases hlt : j < l.length
    · have hlt' : (j : Int) < l.length := by omega
      obtain ⟨x, hx⟩ : ∃ x, l[j]? = some x := ⟨_, List.getElem?_eq_getElem hlt⟩
      have HX := Lib.hid hx
      clear hx
      obtain ⟨b, off, hA, c0⟩ : ∃ b off, A = some ⟨b, off, none⟩ ∧ wr.cell? ⟨b, off + j, none⟩ = some (.int .i64 x) := by
        obtain ⟨b, off, e, h1, h2⟩ := (hR _ hp).num hlt
        rw [HX.out] at h2
        exact ⟨b, off, e, h2⟩
      subst hA
      go_wp2_with fail
      refine (HF.out x _ hp).mono ?_
      clear hp c0
      cases hpr : pr x
      · have HN := Lib.hid (HNo.out.succ HX.out hpr)
        clear hpr
        rintro e w1 ⟨rfl, hp⟩
        go_wp2_with fail
        go_roundw
        case rel => exact ⟨j + 1, hlt, by go_num, hp, HN⟩
        case measure => simp [intOf]; omega
      · have HI := Lib.hid (HNo.out.idx HX.out hpr)
        clear hpr
        rintro e w1 ⟨rfl, hp⟩
        go_wp2_with fail
        go_ret
        exact ⟨ret_int (by rw [← HR.out, HI.out]), hp⟩
    · obtain rfl : j = l.length := by omega
      have HI := Lib.hid HNo.out.idx_no
      go_wp2_with fail
      go_ret
      exact ⟨ret_int (by rw [← HR.out, HI.out]), hp⟩
set_option maxRecDepth 100000 in
set_option maxHeartbeats 8000000 in
theorem containsVia_P {l : List Int} {A : Option Addr} (c : Nat) (hR : ∀ w, P w → Row w w.heap.size A (nums .i64 l)) (hn : (l.length : Int) ≤ 9223372036854775807) (p0 : Value) {pr : Int → Bool} (hf : ∀ x w, P w → Calls Tryz.prog 49 #[.int .i64 x, p0] w fun e w' => e = .returned (.bool (pr x)) ∧ P w') {r : Bool} (hr : l.any pr = r) (h : P w) :
    Calls Tryz.prog 50 #[.slice A l.length c, .func (.func 49) #[] #[p0]] w fun e w' => e = .returned (.bool r) ∧ P w' := by
  obtain ⟨i, hi⟩ : ∃ i, idxV pr l = i := ⟨_, rfl⟩
  have HE : Hid (decide (0 ≤ i) = r) := Lib.hid (by rw [← hi, idxV_any, hr])
  have K := Lib.hid (indexVia_P (P := P) (w := w) c hR hn p0 hf hi h)
  clear hr hi hf hR h
  go_enter Tryz.func50, Tryz.ntmps50
  go_wp2_with fail
  refine K.out.mono ?_
  clear K
  rintro e w1 ⟨rfl, h⟩
  go_wp2_with fail
  go_ret
  exact ⟨ret_bool HE.out, h⟩

end
set_option maxRecDepth 100000 in
set_option maxHeartbeats 8000000 in
theorem viasRight_any {l : Lay} {vs : List Int} {A : Option Addr} (c : Nat) {w : World} (hR : Row w w.heap.size A (nums .i64 vs)) (hn : (vs.length : Int) ≤ 9223372036854775807) {r : Bool} (hr : viasV l vs = r) :
    Calls Tryz.prog 31 #[l.val, .slice A vs.length c] w fun e w' => e = .returned (.bool r) ∧ Below w.heap.size w w' := by
  obtain ⟨Q, HQ, HQb, HQl, hw⟩ := keep_box (Closed.below w) (Below.refl _ w) 29 l.cells
  obtain ⟨b, hb⟩ : ∃ b, vs.any (noVia l) = b := ⟨_, rfl⟩
  have K := Lib.hid (fun W hW => containsVia_P (P := Q) (w := W) c (fun W hW => hR.on (HQb.out W hW)) hn (.pointer (some ⟨w.heap.size, 0, none⟩)) (pr := noVia l) (fun x W hW => via1_P (P := Q) HQ.out x _ (fun W hW => HQl.out W hW) rfl hW) hb hW)
  have HR : Hid ((decide (vs.length ≤ 2) && !b) = r) := Lib.hid (by rw [← hr, ← hb]; rfl)
  clear hr hb hR
  by_cases h2 : vs.length ≤ 2
  · have h2' : (vs.length : Int) ≤ 2 := by omega
    have HR' : Hid ((!b) = r) := Lib.hid (by rw [← HR.out, decide_eq_true h2]; rfl)
    clear HR h2
    have m0 := HQl.out _ hw
    have x0 := m0.cell_at 0 rfl
    have x1 := m0.cell_at 1 rfl
    have x2 := m0.cell_at 2 rfl
    have x3 := m0.cell_at 3 rfl
    have x4 := m0.cell_at 4 rfl
    have x5 := m0.cell_at 5 rfl
    have x6 := m0.cell_at 6 rfl
    have x7 := m0.cell_at 7 rfl
    have x8 := m0.cell_at 8 rfl
    have x9 := m0.cell_at 9 rfl
    have x10 := m0.cell_at 10 rfl
    clear m0
    go_enter Tryz.func31, Tryz.ntmps31
    go_wp2_with fail
    refine (K.out _ hw).mono ?_
    clear hw x0 x1 x2 x3 x4 x5 x6 x7 x8 x9 x10
    rintro e w1 ⟨rfl, hw⟩
    go_wp2_with fail
    go_ret
    exact ⟨ret_bool HR'.out, HQb.out _ hw⟩
  · have h2' : ¬ (vs.length : Int) ≤ 2 := by omega
    have HR' : Hid (false = r) := Lib.hid (by rw [← HR.out, decide_eq_false h2]; rfl)
    clear HR h2
    have m0 := HQl.out _ hw
    have x0 := m0.cell_at 0 rfl
    have x1 := m0.cell_at 1 rfl
    have x2 := m0.cell_at 2 rfl
    have x3 := m0.cell_at 3 rfl
    have x4 := m0.cell_at 4 rfl
    have x5 := m0.cell_at 5 rfl
    have x6 := m0.cell_at 6 rfl
    have x7 := m0.cell_at 7 rfl
    have x8 := m0.cell_at 8 rfl
    have x9 := m0.cell_at 9 rfl
    have x10 := m0.cell_at 10 rfl
    clear m0
    go_enter Tryz.func31, Tryz.ntmps31
    go_wp2_with fail
    go_ret
    exact ⟨ret_bool HR'.out, HQb.out _ hw⟩

end Go.Proofs.YtlfpkileblmhoaaGreatDoor
