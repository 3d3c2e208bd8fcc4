/- Package image: At. -/
import Derived.Deep.CutRange
import Derived.Test.YtniihmafbeplaaaDoorQImE
namespace Go.Proofs.YtniihmafbeplaaaDoor
open Go.RowKit Go.Shelf
set_option linter.unusedVariables false
set_option linter.unusedSimpArgs false

theorem mix_ask15 {P : Program} {ops : Array Oper} {B S : World → Prop} {L : (World → Prop) → Act → Prop} {o : Oper} {l : List (Oper × Bool)} {a : Act} (f : FuncId) (args : Array Value) (v : Value) (hF : Fam B S) (hw : Region.wanted o (yielded ops a.tmps) = true) (hv : ∀ w, S w → (execOp a.eval o).run P w = .ok (.enter f args) w)
    (hc : ∀ w, S w → Calls P f args w fun e w' => e = .returned v ∧ Below w.heap.size w w') (h : wpMix P ops (Fam B) L l S (a.put o.dst v)) : wpMix P ops (Fam B) L ((o, true) :: l) S a :=
  ⟨hw, fun w hS => by
    unfold Oper.wp
    rw [hv w hS]
    refine (hc w hS).mono ?_
    rintro e w' ⟨rfl, hb⟩
    exact ⟨v, S, rfl, hF, hF.1 _ _ hS hb, h⟩⟩
abbrev fnT (x : Nat × Nat) : Value := .func (.func 52) #[] #[.pointer (some ⟨x.1, 0, none⟩), .pointer (some ⟨x.2, 0, none⟩)]
def TT (st : Bool) (b : Int) (x : Nat × Nat) (w : World) : Prop := Whole w x.1 4 [.bool st] ∧ Whole w x.2 31 [.int .u32 b]
theorem TT.closed (st : Bool) (b : Int) (x : Nat × Nat) : Closed (TT st b x) := (Closed.whole _ _ _).and (Closed.whole _ _ _)
theorem told_X {l : Lay} {im : Img} (hi : im.Wf) (b : Int) {w : World} (h : Fld l w) : Calls Tryd.prog 42 #[l.val, im.val, .int .u32 b] w fun e w' => ∃ x : Nat × Nat, e = .returned (fnT x) ∧ TT (staleI l im) b x w' ∧ Below w.heap.size w w' :=
  (told_B hi b h).mono fun _ _ ⟨_, h1, ⟨⟨g, j, h2, h3, h4⟩⟩, h5⟩ => ⟨(g, j), by rw [h1, h2], ⟨h3, h4⟩, h5⟩
def standI (bn br : Bool) : Int := if bn && !br then 0 else if br && !bn then 1 else -1
def atI (l : Lay) (im : Img) (p : Int) : Int := if withinI p (l.secs.length : Nat) && decide (kindV l p = 2) then standI (toldI (staleI l im) im.n p.toNat) (toldI (staleI l im) im.r p.toNat) else -1
set_option maxRecDepth 100000 in
set_option maxHeartbeats 8000000 in
theorem At_B {l : Lay} {im : Img} (hi : im.Wf) {w : World} (h : Fld l w) (p : Int) {r : Int} (hr : atI l im p = r) : Calls Tryd.prog 22 #[l.val, im.val, .int .i64 p] w fun e w' => e = .returned (.int .i64 r) ∧ Below w.heap.size w w' := by
  obtain ⟨Q, HQ, HQf, HQb, HQl, HQi, hq⟩ := keep_li h l.cells im.cells 29 35
  have K1 := Lib.hid fun W (hW : Q W) => told_X hi im.n (HQf.out W hW)
  have K2 := Lib.hid fun W (hW : Q W) => told_X hi im.r (HQf.out W hW)
  have hc30 := h.nS
  by_cases hin : 0 ≤ p ∧ p < l.secs.length
  · obtain ⟨k, rfl⟩ : ∃ k : Nat, p = k := ⟨p.toNat, by omega⟩
    have KW : Hid (∀ W, Q W → Calls Tryd.prog 41 #[.int .i64 (k : Nat), .int .i64 (l.secs.length : Nat)] W fun e w' => e = .returned (.bool true) ∧ Below W.heap.size W w') := Lib.hid fun W _ => (withinI_any _ _ W).mono fun e w' h => ⟨by rw [h.1, within_yes (by omega)], by rw [h.2]; exact Below.refl _ _⟩
    have hlt : k < l.secs.length := by omega
    have hlt' : (k : Int) < (l.secs.length : Nat) := by omega
    have h0' : (0 : Int) ≤ (k : Int) := by omega
    obtain ⟨sc, hx⟩ : ∃ x, l.secs[k]? = some x := ⟨_, List.getElem?_eq_getElem hlt⟩
    have hkv : kindV l k = sc.k := by unfold kindV; simp [hx]
    obtain ⟨b, off, hA, _, hc0, _⟩ := (HQf.out _ hq).lies.secs.nth (n := 11) (fun _ => rfl) (by omega) hx
    have hblt : ∀ W, Q W → W.cell? ⟨b, off + k * 11, none⟩ = some (.int .u8 sc.k) := fun W hW => by
      obtain ⟨b', off', hA', _, hc0', _⟩ := (HQf.out _ hW).lies.secs.nth (n := 11) (fun _ => rfl) (by omega) hx
      rw [hA] at hA'
      cases hA'
      exact hc0' k _ _ hx rfl
    have HC := Lib.hid hblt
    obtain ⟨bn, hbn⟩ : ∃ b, toldI (staleI l im) im.n k = b := ⟨_, rfl⟩
    obtain ⟨br, hbr⟩ : ∃ b, toldI (staleI l im) im.r k = b := ⟨_, rfl⟩
    have HR : Hid ((if decide (sc.k = 2) then standI bn br else -1) = r) := Lib.hid (by
      rw [← hr]
      unfold atI
      rw [within_yes hlt, Int.toNat_natCast, hbn, hbr, hkv]
      rfl)
    have KN : Hid (∀ (x : Nat × Nat) (W : World), TT (staleI l im) im.n x W → Calls Tryd.prog 52 #[.int .i64 (k : Nat), .pointer (some ⟨x.1, 0, none⟩), .pointer (some ⟨x.2, 0, none⟩)] W fun e w' => e = .returned (.bool bn) ∧ Below W.heap.size W w') := Lib.hid fun x W h => (told1_any h.1 h.2 hi.n k (by omega) hbn).mono fun e w' h => ⟨h.1, by rw [h.2]; exact Below.refl _ _⟩
    have KR : Hid (∀ (x : Nat × Nat) (W : World), TT (staleI l im) im.r x W → Calls Tryd.prog 52 #[.int .i64 (k : Nat), .pointer (some ⟨x.1, 0, none⟩), .pointer (some ⟨x.2, 0, none⟩)] W fun e w' => e = .returned (.bool br) ∧ Below W.heap.size W w') := Lib.hid fun x W h => (told1_any h.1 h.2 hi.r k (by omega) hbr).mono fun e w' h => ⟨h.1, by rw [h.2]; exact Below.refl _ _⟩
    have HA := Lib.hid hA
    clear hr hin hc30 hbn hbr hblt hx hkv hc0 hA
    have m0 := HQl.out _ hq
    have x0 := m0.cell_at 0 rfl
    have x1 := m0.cell_at 1 rfl
    have x2 := m0.cell_at 2 rfl
    have x3 := m0.cell_at 3 rfl
    have x4 := m0.cell_at 4 rfl
    have x5 := m0.cell_at 5 rfl
    have x6 := m0.cell_at 6 rfl
    have x7 := m0.cell_at 7 rfl
    have x8 := m0.cell_at 8 rfl
    have x9 := m0.cell_at 9 rfl
    have x10 := m0.cell_at 10 rfl
    clear m0
    have c0 := HC.out _ hq
    rw [HA.out] at x0
    by_cases h2 : sc.k = 2
    · have HR2 : Hid (standI bn br = r) := Lib.hid (by rw [← HR.out, decide_eq_true h2]; rfl)
      rw [h2] at c0
      clear HR
      go_enter Tryd.func22, Tryd.ntmps22
      go_wp2_with fail
      refine (KW.out _ hq).mono ?_
      clear x0 x1 x2 x3 x4 x5 x6 x7 x8 x9 x10 c0
      rintro e w1 ⟨rfl, hB⟩
      have hq := HQ.out _ _ hq hB
      have x0 := (HQl.out _ hq).cell_at 0 rfl
      have c0 := HC.out _ hq
      rw [HA.out] at x0
      rw [h2] at c0
      clear hB
      go_upto_region 3 with (fail)
      clear x0 c0
      have HBS : Hid (∀ W, Below w1.heap.size w1 W → Q W) := Lib.hid (fun W hB => HQ.out _ _ hq hB)
      clear hq
      refine region_mix (Below w1.heap.size w1) [(0, false), (1, false), (2, false), (3, false), (4, false), (6, false), (8, false), (9, false), (10, false), (11, false), (12, false), (14, false), (5, true), (7, true), (13, true), (15, true), (16, false), (17, false)] (by kernel_rfl) (by kernel_rfl) (Below w1.heap.size w1) ⟨Closed.below w1, fun _ h => h⟩ (Below.refl _ _).drew ?_
      simp only [pickOps, List.getElem?_cons_zero, List.getElem?_cons_succ]
      repeat (first | (refine mix_skip (by rfl) ?_; simp only [Act.put, List.setIfInBounds_toArray, List.set_cons_zero, List.set_cons_succ]) | (refine mix_read _ (by rfl) (fun W hW => exec_img hi.len (by rfl) (by rfl) (HQi.out W (HBS.out W hW))) ?_; simp only [Act.put, List.setIfInBounds_toArray, List.set_cons_zero, List.set_cons_succ]) | (refine mix_read _ (by rfl) (fun W hW => by (have hW := HBS.out W hW; have m0 := (HQl.out W hW); have x0 := m0.cell_at 0 rfl; have x1 := m0.cell_at 1 rfl; have x2 := m0.cell_at 2 rfl; have x3 := m0.cell_at 3 rfl; have x4 := m0.cell_at 4 rfl; have x5 := m0.cell_at 5 rfl; have x6 := m0.cell_at 6 rfl; have x7 := m0.cell_at 7 rfl; have x8 := m0.cell_at 8 rfl; have x9 := m0.cell_at 9 rfl; have x10 := m0.cell_at 10 rfl; clear m0; have y26 := (HQi.out W hW).cell_at 26 (im.c_in hi.len 1); have y27 := (HQi.out W hW).cell_at 27 (im.c_in hi.len 2); go_simp; first | done | with_reducible rfl)) ?_; simp only [Act.put, List.setIfInBounds_toArray, List.set_cons_zero, List.set_cons_succ]))
      refine mix_meet (fun x : Nat × Nat => fnT x) (fun x => TT (staleI l im) im.n x) ⟨(Closed.below w1), fun _ h => h⟩ (fun x => TT.closed _ _ x) _ _ (by rfl) (fun W hW => by (have hW := HBS.out W hW; have m0 := (HQl.out W hW); have x0 := m0.cell_at 0 rfl; have x1 := m0.cell_at 1 rfl; have x2 := m0.cell_at 2 rfl; have x3 := m0.cell_at 3 rfl; have x4 := m0.cell_at 4 rfl; have x5 := m0.cell_at 5 rfl; have x6 := m0.cell_at 6 rfl; have x7 := m0.cell_at 7 rfl; have x8 := m0.cell_at 8 rfl; have x9 := m0.cell_at 9 rfl; have x10 := m0.cell_at 10 rfl; clear m0; have y26 := (HQi.out W hW).cell_at 26 (im.c_in hi.len 1); have y27 := (HQi.out W hW).cell_at 27 (im.c_in hi.len 2); go_simp; first | done | rfl)) (fun W hW => K1.out W (HBS.out W hW)) (fun m1 => ?_)
      simp only [Act.put, List.setIfInBounds_toArray, List.set_cons_zero, List.set_cons_succ]
      refine mix_ask15 _ _ (.bool bn) ⟨((Closed.below w1).and ((show ∀ x : Nat × Nat, Closed (TT (staleI l im) im.n x) from fun x => TT.closed _ _ x) m1)), fun _ h => h.1⟩ (by rfl) (fun W hW => by (have hW := HBS.out W hW.1; have m0 := (HQl.out W hW); have x0 := m0.cell_at 0 rfl; have x1 := m0.cell_at 1 rfl; have x2 := m0.cell_at 2 rfl; have x3 := m0.cell_at 3 rfl; have x4 := m0.cell_at 4 rfl; have x5 := m0.cell_at 5 rfl; have x6 := m0.cell_at 6 rfl; have x7 := m0.cell_at 7 rfl; have x8 := m0.cell_at 8 rfl; have x9 := m0.cell_at 9 rfl; have x10 := m0.cell_at 10 rfl; clear m0; have y26 := (HQi.out W hW).cell_at 26 (im.c_in hi.len 1); have y27 := (HQi.out W hW).cell_at 27 (im.c_in hi.len 2); go_simp; first | done | rfl)) (fun W hW => KN.out m1 W (hW.2)) ?_
      simp only [Act.put, List.setIfInBounds_toArray, List.set_cons_zero, List.set_cons_succ]
      refine mix_meet (fun x : Nat × Nat => fnT x) (fun x => TT (staleI l im) im.r x) ⟨((Closed.below w1).and ((show ∀ x : Nat × Nat, Closed (TT (staleI l im) im.n x) from fun x => TT.closed _ _ x) m1)), fun _ h => h.1⟩ (fun x => TT.closed _ _ x) _ _ (by rfl) (fun W hW => by (have hW := HBS.out W hW.1; have m0 := (HQl.out W hW); have x0 := m0.cell_at 0 rfl; have x1 := m0.cell_at 1 rfl; have x2 := m0.cell_at 2 rfl; have x3 := m0.cell_at 3 rfl; have x4 := m0.cell_at 4 rfl; have x5 := m0.cell_at 5 rfl; have x6 := m0.cell_at 6 rfl; have x7 := m0.cell_at 7 rfl; have x8 := m0.cell_at 8 rfl; have x9 := m0.cell_at 9 rfl; have x10 := m0.cell_at 10 rfl; clear m0; have y26 := (HQi.out W hW).cell_at 26 (im.c_in hi.len 1); have y27 := (HQi.out W hW).cell_at 27 (im.c_in hi.len 2); go_simp; first | done | rfl)) (fun W hW => K2.out W (HBS.out W hW.1)) (fun m2 => ?_)
      simp only [Act.put, List.setIfInBounds_toArray, List.set_cons_zero, List.set_cons_succ]
      refine mix_ask15 _ _ (.bool br) ⟨(((Closed.below w1).and ((show ∀ x : Nat × Nat, Closed (TT (staleI l im) im.n x) from fun x => TT.closed _ _ x) m1)).and ((show ∀ x : Nat × Nat, Closed (TT (staleI l im) im.r x) from fun x => TT.closed _ _ x) m2)), fun _ h => h.1.1⟩ (by rfl) (fun W hW => by (have hW := HBS.out W hW.1.1; have m0 := (HQl.out W hW); have x0 := m0.cell_at 0 rfl; have x1 := m0.cell_at 1 rfl; have x2 := m0.cell_at 2 rfl; have x3 := m0.cell_at 3 rfl; have x4 := m0.cell_at 4 rfl; have x5 := m0.cell_at 5 rfl; have x6 := m0.cell_at 6 rfl; have x7 := m0.cell_at 7 rfl; have x8 := m0.cell_at 8 rfl; have x9 := m0.cell_at 9 rfl; have x10 := m0.cell_at 10 rfl; clear m0; have y26 := (HQi.out W hW).cell_at 26 (im.c_in hi.len 1); have y27 := (HQi.out W hW).cell_at 27 (im.c_in hi.len 2); go_simp; first | done | rfl)) (fun W hW => KR.out m2 W (hW.2)) ?_
      simp only [Act.put, List.setIfInBounds_toArray, List.set_cons_zero, List.set_cons_succ]
      repeat (first | (refine mix_skip (by rfl) ?_; simp only [Act.put, List.setIfInBounds_toArray, List.set_cons_zero, List.set_cons_succ]) | (refine mix_read _ (by rfl) (fun W hW => exec_img hi.len (by rfl) (by rfl) (HQi.out W (HBS.out W hW))) ?_; simp only [Act.put, List.setIfInBounds_toArray, List.set_cons_zero, List.set_cons_succ]) | (refine mix_read _ (by rfl) (fun W hW => by (have hW := HBS.out W hW; have m0 := (HQl.out W hW); have x0 := m0.cell_at 0 rfl; have x1 := m0.cell_at 1 rfl; have x2 := m0.cell_at 2 rfl; have x3 := m0.cell_at 3 rfl; have x4 := m0.cell_at 4 rfl; have x5 := m0.cell_at 5 rfl; have x6 := m0.cell_at 6 rfl; have x7 := m0.cell_at 7 rfl; have x8 := m0.cell_at 8 rfl; have x9 := m0.cell_at 9 rfl; have x10 := m0.cell_at 10 rfl; clear m0; have y26 := (HQi.out W hW).cell_at 26 (im.c_in hi.len 1); have y27 := (HQi.out W hW).cell_at 27 (im.c_in hi.len 2); go_simp; first | done | with_reducible rfl)) ?_; simp only [Act.put, List.setIfInBounds_toArray, List.set_cons_zero, List.set_cons_succ]))
      refine mix_nil (fun W hW => ?_)
      have t1 := hW.1.2
      have t2 := hW.2
      have hq := HBS.out W hW.1.1
      have HBW := Lib.hid hW.1.1
      clear hW HBS
      clear t1 t2 HBW
      have HB := Lib.hid (HQb.out _ hq)
      clear hq
      cases bn <;> cases br <;> (go_wp2_with fail; go_ret; exact ⟨ret_int HR2.out, HB.out⟩)
    · have HR2 : Hid ((-1 : Int) = r) := Lib.hid (by rw [← HR.out, decide_eq_false h2]; rfl)
      clear HR
      go_enter Tryd.func22, Tryd.ntmps22
      go_wp2_with fail
      refine (KW.out _ hq).mono ?_
      clear x0 x1 x2 x3 x4 x5 x6 x7 x8 x9 x10 c0
      rintro e w1 ⟨rfl, hB⟩
      have hq := HQ.out _ _ hq hB
      have x0 := (HQl.out _ hq).cell_at 0 rfl
      have c0 := HC.out _ hq
      rw [HA.out] at x0
      have HB := Lib.hid (HQb.out _ hq)
      clear hB hq
      go_wp2_with fail
      go_ret
      exact ⟨ret_int HR2.out, HB.out⟩
  · have KW : Hid (∀ W, Q W → Calls Tryd.prog 41 #[.int .i64 p, .int .i64 (l.secs.length : Nat)] W fun e w' => e = .returned (.bool false) ∧ Below W.heap.size W w') := Lib.hid fun W _ => (withinI_any _ _ W).mono fun e w' h => ⟨by rw [h.1, within_no hin], by rw [h.2]; exact Below.refl _ _⟩
    have HR : Hid ((-1 : Int) = r) := Lib.hid (by
      rw [← hr]
      unfold atI
      rw [within_no hin]
      rfl)
    clear hr hin hc30
    have m0 := HQl.out _ hq
    have x0 := m0.cell_at 0 rfl
    have x1 := m0.cell_at 1 rfl
    have x2 := m0.cell_at 2 rfl
    have x3 := m0.cell_at 3 rfl
    have x4 := m0.cell_at 4 rfl
    have x5 := m0.cell_at 5 rfl
    have x6 := m0.cell_at 6 rfl
    have x7 := m0.cell_at 7 rfl
    have x8 := m0.cell_at 8 rfl
    have x9 := m0.cell_at 9 rfl
    have x10 := m0.cell_at 10 rfl
    clear m0
    go_enter Tryd.func22, Tryd.ntmps22
    go_wp2_with fail
    refine (KW.out _ hq).mono ?_
    clear x0 x1 x2 x3 x4 x5 x6 x7 x8 x9 x10
    rintro e w1 ⟨rfl, hB⟩
    have HB := Lib.hid (HQb.out _ (HQ.out _ _ hq hB))
    clear hB hq
    go_wp2_with fail
    go_ret
    exact ⟨ret_int HR.out, HB.out⟩

end Go.Proofs.YtniihmafbeplaaaDoor
