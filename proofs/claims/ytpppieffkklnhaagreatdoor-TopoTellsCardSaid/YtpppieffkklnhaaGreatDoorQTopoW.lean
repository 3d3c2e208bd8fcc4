/- The law's own: one section; what the document says of it. -/
import Derived.Test.YtpppieffkklnhaaGreatDoorQTopoD
namespace Go.Proofs.YtpppieffkklnhaaGreatDoor
open Go.RowKit Go.Shelf
set_option linter.unusedVariables false
set_option linter.unusedSimpArgs false

def oneL (gs ge : Nat) : Lay := ⟨[⟨1, -1, 0, -1, 0, -1, 0, -1, 0, 0, 0⟩], some ⟨gs, 0, none⟩, 1, [], none, 0, [⟨0, 1, none, 0, []⟩], some ⟨ge, 0, none⟩, 1, [], none, 0, 1, 1, 1, 1, 1, 1, 1⟩
/-- The same with two signals at one port; with an overlap that is none. -/
def sigsL (l : Lay) (g : Nat) : Lay := { l with sigs := [(0, 0), (0, 0)], Ag := some ⟨g, 0, none⟩, cg := 2 }
def overL (gs ge go : Nat) : Lay := { oneL gs ge with exits := [⟨0, 1, some ⟨go, 0, none⟩, 1, [(0, 0, 1)]⟩] }
structure OneAt (gs ge : Nat) (w : World) : Prop where
  secs : Whole w gs 57 ((oneL gs ge).secs.flatMap Sec.cells)
  exits : Whole w ge 40 ((oneL gs ge).exits.flatMap Exm.cells)
theorem OneAt.closed (gs ge : Nat) : Closed (OneAt gs ge) := fun w w' h hb => ⟨h.secs.below hb h.secs.lt, h.exits.below hb h.exits.lt⟩
theorem one_lies {gs ge : Nat} {w : World} (h : OneAt gs ge w) : Lies (oneL gs ge) w :=
  ⟨h.secs.row h.secs.lt, Row.nil _ _ _, h.exits.row h.exits.lt, Row.nil _ _ _, (fun x hx => by simp [oneL] at hx; subst hx; exact Row.nil _ _ _), (fun x hx => by simp [oneL] at hx; subst hx; simp), by simp [oneL], by simp [oneL], by simp [oneL], by simp [oneL], (fun x hx => by simp [oneL] at hx; subst hx; simp)⟩
theorem sigs_lies {gs ge g : Nat} {w : World} (h : OneAt gs ge w) (hg : Whole w g 43 [.int .i64 0, .int .i64 0, .int .i64 0, .int .i64 0]) : Lies (sigsL (oneL gs ge) g) w :=
  ⟨h.secs.row h.secs.lt, hg.row hg.lt, h.exits.row h.exits.lt, Row.nil _ _ _, (fun x hx => by simp [oneL, sigsL] at hx; subst hx; exact Row.nil _ _ _), (fun x hx => by simp [oneL, sigsL] at hx; subst hx; simp), by simp [oneL, sigsL], by simp [oneL, sigsL], by simp [oneL, sigsL], by simp [oneL, sigsL], (fun x hx => by simp [oneL, sigsL] at hx; subst hx; simp)⟩
theorem over_lies {gs ge go : Nat} {w : World} (h : Whole w gs 57 ((oneL gs ge).secs.flatMap Sec.cells)) (he : Whole w ge 40 [.int .i64 0, .int .i64 1, .slice (some ⟨go, 0, none⟩) 1 1]) (ho : Whole w go 45 [.int .i64 0, .int .i64 0, .int .i64 1]) : Lies (overL gs ge go) w :=
  ⟨h.row h.lt, Row.nil _ _ _, he.row he.lt, Row.nil _ _ _, (fun x hx => by simp [overL] at hx; subst hx; exact ho.row ho.lt), (fun x hx => by simp [oneL, overL] at hx; subst hx; simp), by simp [oneL, overL], by simp [oneL, overL], by simp [oneL, overL], by simp [oneL, overL], (fun x hx => by simp [oneL, overL] at hx; subst hx; simp)⟩
set_option maxRecDepth 100000 in
set_option maxHeartbeats 8000000 in
theorem one_any (w : World) : Calls Tryz.prog 12 #[] w fun e w' => ∃ gs ge, e = .returned (oneL gs ge).val ∧ OneAt gs ge w' ∧ Below w.heap.size w w' ∧ w.heap.size ≤ gs ∧ w.heap.size ≤ ge := by
  go_enter Tryz.func12, Tryz.ntmps12
  go_wp2_with fail
  have hW := fun (o1 o2 o3 : Obj) => (((Whole.new w 29 [.slice (some ⟨w.heap.size + 1 + 1, 0, none⟩) 1 1, .slice none 0 0, .slice (some ⟨w.heap.size + 1 + 1 + 1, 0, none⟩) 1 1, .slice none 0 0, .int .i64 1, .int .i64 1, .int .i64 1, .int .i64 1, .int .i64 1, .int .i64 1, .int .i64 1]).alloc o1).alloc o2).alloc o3
  have e0 := fun o1 o2 o3 => (hW o1 o2 o3).cell_at 0 rfl
  have e1 := fun o1 o2 o3 => (hW o1 o2 o3).cell_at 1 rfl
  have e2 := fun o1 o2 o3 => (hW o1 o2 o3).cell_at 2 rfl
  have e3 := fun o1 o2 o3 => (hW o1 o2 o3).cell_at 3 rfl
  have e4 := fun o1 o2 o3 => (hW o1 o2 o3).cell_at 4 rfl
  have e5 := fun o1 o2 o3 => (hW o1 o2 o3).cell_at 5 rfl
  have e6 := fun o1 o2 o3 => (hW o1 o2 o3).cell_at 6 rfl
  have e7 := fun o1 o2 o3 => (hW o1 o2 o3).cell_at 7 rfl
  have e8 := fun o1 o2 o3 => (hW o1 o2 o3).cell_at 8 rfl
  have e9 := fun o1 o2 o3 => (hW o1 o2 o3).cell_at 9 rfl
  have e10 := fun o1 o2 o3 => (hW o1 o2 o3).cell_at 10 rfl
  clear hW
  refine bodyPost_ret (v := (oneL (w.heap.size + 1 + 1) (w.heap.size + 1 + 1 + 1)).val) ?_ rfl ⟨_, _, rfl, ⟨(Whole.new_at _ _ [_, _, _, _, _, _, _, _, _, _, _] _ (by simp)).alloc _, Whole.new_at _ _ [_, _, _] _ (by simp)⟩, (below3 w _ _ _).alloc (by simp; omega) _, by omega, by omega⟩
  simp [results, Tryz.f12, go_sem, oneL, e0, e1, e2, e3, e4, e5, e6, e7, e8, e9, e10]
theorem one_check (gs ge : Nat) : checkV (oneL gs ge) = (0, 0, 0) := by kernel_rfl
theorem sigs_check (gs ge g : Nat) : checkV (sigsL (oneL gs ge) g) = (2, 1, 90) := by kernel_rfl
theorem over_check (gs ge go : Nat) : checkV (overL gs ge go) = (4, 0, 90) := by kernel_rfl
theorem zero_check : checkV zeroL = (0, 0, 60) := by kernel_rfl
theorem one_right (gs ge : Nat) : rightT (oneL gs ge) = true := by kernel_rfl
theorem sigs_right (gs ge g : Nat) : rightT (sigsL (oneL gs ge) g) = false := by kernel_rfl
theorem one_over (gs ge : Nat) : overT (oneL gs ge) 0 = true := by kernel_rfl
theorem one_over1 (gs ge : Nat) : overT (oneL gs ge) 1 = false := by kernel_rfl
theorem over_over (gs ge go : Nat) : overT (overL gs ge go) 0 = false := by kernel_rfl
set_option maxRecDepth 100000 in
set_option maxHeartbeats 16000000 in
theorem wakesT_P {P : World → Prop} {w : World} (hP : Closed P) (hT : ∀ w, P w → Shapes w) (h : P w) : Calls Tryz.prog 5 #[] w fun e w' => e = .returned (.bool true) ∧ P w' := by
  have HP := Lib.hid hP
  have HT := Lib.hid hT
  clear hP hT
  go_enter Tryz.func5, Tryz.ntmps5
  go_wp2_with fail
  refine (one_any _).mono ?_
  rintro e w1 ⟨gs, ge, rfl, ha1, hB1, _, _⟩
  have hP1 := HP.out _ _ h hB1
  obtain ⟨la, HLA⟩ : ∃ l, Hid (oneL gs ge = l) := ⟨_, Lib.hid rfl⟩
  rw [HLA.out]
  clear hB1
  go_wp2_with fail
  refine (one_any _).mono ?_
  rintro e w2 ⟨gs2, ge2, rfl, ha2, hB2, _, _⟩
  have hP2 := HP.out _ _ hP1 hB2
  have ha1 := OneAt.closed _ _ _ _ ha1 hB2
  obtain ⟨lb, HLB⟩ : ∃ l, Hid (oneL gs2 ge2 = l) := ⟨_, Lib.hid rfl⟩
  rw [HLB.out]
  clear hB2 hP1
  go_upto_region 2 with (fail)
  obtain ⟨b, hbe⟩ : ∃ b, w2.heap.size + 1 = b := ⟨_, rfl⟩
  obtain ⟨a, hae⟩ : ∃ a, w2.heap.size = a := ⟨_, rfl⟩
  rw [hbe, hae]
  obtain ⟨W3, hW3⟩ : ∃ W3, (w2.alloc (.cells #[.slice la.As la.secs.length la.cs, .slice la.Ag la.sigs.length la.cg, .slice la.Ae la.exits.length la.ce, .slice la.Af la.flanks.length la.cf, .int .i64 la.t0, .int .i64 la.t1, .int .i64 la.t2, .int .i64 la.t3, .int .i64 la.t4, .int .i64 la.t5, .int .i64 la.t6] 29)).alloc (.cells #[.slice lb.As lb.secs.length lb.cs, .slice lb.Ag lb.sigs.length lb.cg, .slice lb.Ae lb.exits.length lb.ce, .slice lb.Af lb.flanks.length lb.cf, .int .i64 lb.t0, .int .i64 lb.t1, .int .i64 lb.t2, .int .i64 lb.t3, .int .i64 lb.t4, .int .i64 lb.t5, .int .i64 lb.t6] 29) = W3 := ⟨_, rfl⟩
  obtain ⟨g, hge⟩ : ∃ g, W3.heap.size = g := ⟨_, rfl⟩
  have hg2 : g = b + 1 := by rw [← hge, ← hW3]; simp; omega
  have hab : b = a + 1 := by omega
  have hA : Whole W3 a 29 la.cells := by rw [← hW3]; exact (Whole.new_at _ _ la.cells _ hae.symm).alloc _
  have hBx : Whole W3 b 29 lb.cells := by rw [← hW3]; exact Whole.new_at _ _ lb.cells _ (by simp; omega)
  have h31 : OneAt gs ge W3 := by rw [← hW3]; exact OneAt.closed _ _ _ _ ha1 (below2 w2 _ _)
  have h32 : OneAt gs2 ge2 W3 := by rw [← hW3]; exact OneAt.closed _ _ _ _ ha2 (below2 w2 _ _)
  have n1 := ha1.secs.lt
  have n2 := ha1.exits.lt
  have n3 := ha2.secs.lt
  have n4 := ha2.exits.lt
  have HB3 : Hid (Below w2.heap.size w2 W3) := Lib.hid (by rw [← hW3]; exact below2 w2 _ _)
  rw [hW3]
  have y1 := fun o => (hBx.alloc o).cell_at 1 rfl
  have f1 := fun o => (hBx.alloc o).frozen 1
  have HN := Lib.hid (And.intro hg2 (And.intro hab (And.intro hae (And.intro hge (And.intro n1 (And.intro n2 (And.intro n3 n4)))))))
  clear hW3 ha1 ha2 hbe hg2 hab hae hge n1 n2 n3 n4
  go_upto_region 3 with (fail)
  obtain ⟨W4, hW4⟩ : ∃ W4, (W3.alloc (.cells #[.int .i64 0, .int .i64 0, .int .i64 0, .int .i64 0] 43)).setCell ⟨b, 1, none⟩ (.slice (some ⟨W3.heap.size, 0, none⟩) 2 2) = W4 := ⟨_, rfl⟩
  rw [hW4]
  obtain ⟨hg2, hab, hae, hge, n1, n2, n3, n4⟩ := HN.out
  rw [hge] at hW4 ⊢
  obtain ⟨Q, HQ, HQp, HQa, HQm, HQr, hq⟩ : ∃ Q : World → Prop, Hid (Closed Q) ∧ Hid (∀ W, Q W → P W) ∧ Hid (∀ W, Q W → Whole W a 29 la.cells) ∧ Hid (∀ W, Q W → Whole W b 29 (sigsL lb g).cells) ∧ Hid (∀ W, Q W → Lies la W ∧ Lies (sigsL lb g) W) ∧ Q W4 := by
    refine ⟨fun W => (((P W ∧ Whole W a 29 la.cells) ∧ Whole W b 29 (sigsL lb g).cells) ∧ (OneAt gs ge W ∧ OneAt gs2 ge2 W)) ∧ Whole W g 43 [.int .i64 0, .int .i64 0, .int .i64 0, .int .i64 0], Lib.hid ((((HP.out.and (Closed.whole _ _ _)).and (Closed.whole _ _ _)).and ((OneAt.closed _ _).and (OneAt.closed _ _))).and (Closed.whole _ _ _)), Lib.hid fun _ h => h.1.1.1.1, Lib.hid fun _ h => h.1.1.1.2, Lib.hid fun _ h => h.1.1.2, Lib.hid fun W h => ⟨by rw [← HLA.out]; exact one_lies h.1.2.1, by rw [← HLB.out]; exact sigs_lies h.1.2.2 h.2⟩, ?_⟩
    rw [← hW4]
    refine ⟨⟨⟨⟨HP.out _ _ hP2 ((HB3.out.alloc HB3.out.size _).setCell (p := ⟨b, 1, none⟩) (by show w2.heap.size ≤ b; omega) _), (hA.alloc _).far (p := ⟨b, 1, none⟩) (by show a ≠ b; omega) _⟩, (hBx.alloc _).set 1 _⟩, ⟨(h31.secs.alloc _).far (p := ⟨b, 1, none⟩) (by show gs ≠ b; omega) _, (h31.exits.alloc _).far (p := ⟨b, 1, none⟩) (by show ge ≠ b; omega) _⟩, (h32.secs.alloc _).far (p := ⟨b, 1, none⟩) (by show gs2 ≠ b; omega) _, (h32.exits.alloc _).far (p := ⟨b, 1, none⟩) (by show ge2 ≠ b; omega) _⟩, (Whole.new_at _ _ [_, _, _, _] _ hge.symm).far (p := ⟨b, 1, none⟩) (by show g ≠ b; omega) _⟩
  obtain ⟨lm, HLM⟩ : ∃ l, Hid (sigsL lb g = l) := ⟨_, Lib.hid rfl⟩
  rw [HLM.out] at HQm HQr
  have HQT := Lib.hid fun W hW => HT.out W (HQp.out W hW)
  have K1 := Lib.hid fun W hW => keepR HQ.out (check_any (w := W) (HQT.out W hW) (HQr.out W hW).2 (r := (2, 1, 90)) (by rw [← HLM.out, ← HLB.out]; exact sigs_check gs2 ge2 g)) hW
  have K2 := Lib.hid fun W hW => keepR HQ.out (check_any (w := W) (HQT.out W hW) (HQr.out W hW).1 (r := (0, 0, 0)) (by rw [← HLA.out]; exact one_check gs ge)) hW
  have K3 := Lib.hid fun W hW => keepR HQ.out (check_any (w := W) (HQT.out W hW) (zero_lies W) (r := (0, 0, 60)) zero_check) hW
  clear hW4 hg2 hab hae hge n1 n2 n3 n4 HN hA hBx h31 h32 hP2 HB3 y1 f1 h
  have m0 := HQm.out _ hq
  have x0 := m0.cell_at 0 rfl
  have x1 := m0.cell_at 1 rfl
  have x2 := m0.cell_at 2 rfl
  have x3 := m0.cell_at 3 rfl
  have x4 := m0.cell_at 4 rfl
  have x5 := m0.cell_at 5 rfl
  have x6 := m0.cell_at 6 rfl
  have x7 := m0.cell_at 7 rfl
  have x8 := m0.cell_at 8 rfl
  have x9 := m0.cell_at 9 rfl
  have x10 := m0.cell_at 10 rfl
  clear m0
  go_wp2_with fail
  refine (K1.out _ hq).mono ?_
  clear hq K1 x0 x1 x2 x3 x4 x5 x6 x7 x8 x9 x10
  rintro e w5 ⟨rfl, hq⟩
  have m0 := HQa.out _ hq
  have x0 := m0.cell_at 0 rfl
  have x1 := m0.cell_at 1 rfl
  have x2 := m0.cell_at 2 rfl
  have x3 := m0.cell_at 3 rfl
  have x4 := m0.cell_at 4 rfl
  have x5 := m0.cell_at 5 rfl
  have x6 := m0.cell_at 6 rfl
  have x7 := m0.cell_at 7 rfl
  have x8 := m0.cell_at 8 rfl
  have x9 := m0.cell_at 9 rfl
  have x10 := m0.cell_at 10 rfl
  clear m0
  go_wp2_with fail
  refine (K2.out _ hq).mono ?_
  clear hq K2 x0 x1 x2 x3 x4 x5 x6 x7 x8 x9 x10
  rintro e w6 ⟨rfl, hq⟩
  go_wp2_with fail
  refine (K3.out _ hq).mono ?_
  clear hq K3
  rintro e w7 ⟨rfl, hq⟩
  go_wp2_with fail
  refine (one_any _).mono ?_
  rintro e w8 ⟨gs3, ge3, rfl, ha3, hB8, n1, n2⟩
  have HN := Lib.hid (And.intro n1 n2)
  have HB8 := Lib.hid hB8
  have HQ7 := Lib.hid hq
  clear hB8 n1 n2 hq
  go_upto_region 7 with (fail)
  obtain ⟨c, hce⟩ : ∃ c, w8.heap.size = c := ⟨_, rfl⟩
  rw [hce]
  obtain ⟨W8, hW8⟩ : ∃ W8, w8.alloc (.cells #[.slice (oneL gs3 ge3).As (oneL gs3 ge3).secs.length (oneL gs3 ge3).cs, .slice (oneL gs3 ge3).Ag (oneL gs3 ge3).sigs.length (oneL gs3 ge3).cg, .slice (oneL gs3 ge3).Ae (oneL gs3 ge3).exits.length (oneL gs3 ge3).ce, .slice (oneL gs3 ge3).Af (oneL gs3 ge3).flanks.length (oneL gs3 ge3).cf, .int .i64 (oneL gs3 ge3).t0, .int .i64 (oneL gs3 ge3).t1, .int .i64 (oneL gs3 ge3).t2, .int .i64 (oneL gs3 ge3).t3, .int .i64 (oneL gs3 ge3).t4, .int .i64 (oneL gs3 ge3).t5, .int .i64 (oneL gs3 ge3).t6] 29) = W8 := ⟨_, rfl⟩
  obtain ⟨go, hgo⟩ : ∃ go, W8.heap.size = go := ⟨_, rfl⟩
  have hC : Whole W8 c 29 (oneL gs3 ge3).cells := by rw [← hW8]; exact Whole.new_at _ _ (oneL gs3 ge3).cells _ hce.symm
  have hS : Whole W8 gs3 57 ((oneL gs3 ge3).secs.flatMap Sec.cells) := by rw [← hW8]; exact ha3.secs.alloc _
  have hE : Whole W8 ge3 40 [.int .i64 0, .int .i64 1, .slice none 0 0] := by rw [← hW8]; exact ha3.exits.alloc _
  have n1 := ha3.secs.lt
  have n2 := ha3.exits.lt
  have n3 : go = c + 1 := by rw [← hgo, ← hW8]; simp; omega
  have hB9 : Below w7.heap.size w7 W8 := by rw [← hW8]; exact HB8.out.alloc HB8.out.size _
  have HB9 := Lib.hid hB9
  have HN2 := Lib.hid (And.intro n1 (And.intro n2 (And.intro n3 (And.intro hce hgo))))
  rw [hW8]
  have z2 : W8.cell? ⟨c, 2, none⟩ = some (.slice (some ⟨ge3, 0, none⟩) 1 1) := hC.cell_at 2 rfl
  have e2 := fun o => (hE.alloc o).cell_at 2 rfl
  have f2 := fun o => (hE.alloc o).frozen 2
  clear hW8 ha3 n1 n2 n3 hce hgo hB9
  go_upto_region 8 with (fail)
  obtain ⟨W9, hW9⟩ : ∃ W9, (W8.alloc (.cells #[.int .i64 0, .int .i64 0, .int .i64 1] 45)).setCell ⟨ge3, 2, none⟩ (.slice (some ⟨W8.heap.size, 0, none⟩) 1 1) = W9 := ⟨_, rfl⟩
  rw [hW9]
  obtain ⟨n1, n2, n3, hce, hgo⟩ := HN2.out
  rw [hgo] at hW9
  have hse : gs3 ≠ ge3 := whole_ne hS hE (by decide)
  obtain ⟨R, HR, HRq, HRx, HRl, hq⟩ : ∃ R : World → Prop, Hid (Closed R) ∧ Hid (∀ W, R W → Q W) ∧ Hid (∀ W, R W → Whole W c 29 (overL gs3 ge3 go).cells) ∧ Hid (∀ W, R W → Lies (overL gs3 ge3 go) W) ∧ R W9 := by
    refine ⟨fun W => ((Q W ∧ Whole W c 29 (overL gs3 ge3 go).cells) ∧ (Whole W gs3 57 ((oneL gs3 ge3).secs.flatMap Sec.cells) ∧ Whole W ge3 40 [.int .i64 0, .int .i64 1, .slice (some ⟨go, 0, none⟩) 1 1])) ∧ Whole W go 45 [.int .i64 0, .int .i64 0, .int .i64 1], Lib.hid (((HQ.out.and (Closed.whole _ _ _)).and ((Closed.whole _ _ _).and (Closed.whole _ _ _))).and (Closed.whole _ _ _)), Lib.hid fun _ h => h.1.1.1, Lib.hid fun _ h => h.1.1.2, Lib.hid fun W h => over_lies h.1.2.1 h.1.2.2 h.2, ?_⟩
    rw [← hW9]
    refine ⟨⟨⟨HQ.out _ _ HQ7.out ((HB9.out.alloc HB9.out.size _).setCell (p := ⟨ge3, 2, none⟩) HN.out.2 _), (hC.alloc _).far (p := ⟨ge3, 2, none⟩) (by show c ≠ ge3; omega) _⟩, (hS.alloc _).far (p := ⟨ge3, 2, none⟩) hse _, (hE.alloc _).set 2 _⟩, (Whole.new_at _ _ [_, _, _] _ hgo.symm).far (p := ⟨ge3, 2, none⟩) (by show go ≠ ge3; omega) _⟩
  obtain ⟨lx, HLX⟩ : ∃ l, Hid (overL gs3 ge3 go = l) := ⟨_, Lib.hid rfl⟩
  rw [HLX.out] at HRx HRl
  clear hW9 n1 n2 n3 hce hgo HN2 hse hC hS hE HB9 HB8 HQ7 HN z2 e2 f2
  have HRa := Lib.hid fun W hW => HQa.out W (HRq.out W hW)
  have HRm := Lib.hid fun W hW => HQm.out W (HRq.out W hW)
  have HRT := Lib.hid fun W hW => HQT.out W (HRq.out W hW)
  have HRr := Lib.hid fun W hW => HQr.out W (HRq.out W hW)
  have HRp := Lib.hid fun W hW => HQp.out W (HRq.out W hW)
  have K4 := Lib.hid fun W hW => keepR HR.out (check_any (w := W) (HRT.out W hW) (HRl.out W hW) (r := (4, 0, 90)) (by rw [← HLX.out]; exact over_check gs3 ge3 go)) hW
  have K5 := Lib.hid fun W hW => keepR HR.out (rightT_any (w := W) (HRT.out W hW) (HRr.out W hW).1 (r := true) (by rw [← HLA.out]; exact one_right gs ge)) hW
  have K6 := Lib.hid fun W hW => keepR HR.out (rightT_any (w := W) (HRT.out W hW) (HRr.out W hW).2 (r := false) (by rw [← HLM.out, ← HLB.out]; exact sigs_right gs2 ge2 g)) hW
  have K7 := Lib.hid fun W hW => keepR HR.out (overT_any (w := W) 0 (HRT.out W hW) (HRr.out W hW).1 (r := true) (by rw [← HLA.out]; exact one_over gs ge)) hW
  have K8 := Lib.hid fun W hW => keepR HR.out (overT_any (w := W) 1 (HRT.out W hW) (HRr.out W hW).1 (r := false) (by rw [← HLA.out]; exact one_over1 gs ge)) hW
  have K9 := Lib.hid fun W hW => keepR HR.out (overT_any (w := W) 0 (HRT.out W hW) (HRl.out W hW) (r := false) (by rw [← HLX.out]; exact over_over gs3 ge3 go)) hW
  have m0 := HRx.out _ hq
  have x0 := m0.cell_at 0 rfl
  have x1 := m0.cell_at 1 rfl
  have x2 := m0.cell_at 2 rfl
  have x3 := m0.cell_at 3 rfl
  have x4 := m0.cell_at 4 rfl
  have x5 := m0.cell_at 5 rfl
  have x6 := m0.cell_at 6 rfl
  have x7 := m0.cell_at 7 rfl
  have x8 := m0.cell_at 8 rfl
  have x9 := m0.cell_at 9 rfl
  have x10 := m0.cell_at 10 rfl
  clear m0
  go_wp2_with fail
  refine (K4.out _ hq).mono ?_
  clear hq K4 x0 x1 x2 x3 x4 x5 x6 x7 x8 x9 x10
  rintro e w9 ⟨rfl, hq⟩
  have m0 := HRa.out _ hq
  have x0 := m0.cell_at 0 rfl
  have x1 := m0.cell_at 1 rfl
  have x2 := m0.cell_at 2 rfl
  have x3 := m0.cell_at 3 rfl
  have x4 := m0.cell_at 4 rfl
  have x5 := m0.cell_at 5 rfl
  have x6 := m0.cell_at 6 rfl
  have x7 := m0.cell_at 7 rfl
  have x8 := m0.cell_at 8 rfl
  have x9 := m0.cell_at 9 rfl
  have x10 := m0.cell_at 10 rfl
  clear m0
  go_wp2_with fail
  refine (K5.out _ hq).mono ?_
  clear hq K5 x0 x1 x2 x3 x4 x5 x6 x7 x8 x9 x10
  rintro e w10 ⟨rfl, hq⟩
  have m0 := HRm.out _ hq
  have x0 := m0.cell_at 0 rfl
  have x1 := m0.cell_at 1 rfl
  have x2 := m0.cell_at 2 rfl
  have x3 := m0.cell_at 3 rfl
  have x4 := m0.cell_at 4 rfl
  have x5 := m0.cell_at 5 rfl
  have x6 := m0.cell_at 6 rfl
  have x7 := m0.cell_at 7 rfl
  have x8 := m0.cell_at 8 rfl
  have x9 := m0.cell_at 9 rfl
  have x10 := m0.cell_at 10 rfl
  clear m0
  go_wp2_with fail
  refine (K6.out _ hq).mono ?_
  clear hq K6 x0 x1 x2 x3 x4 x5 x6 x7 x8 x9 x10
  rintro e w11 ⟨rfl, hq⟩
  have m0 := HRa.out _ hq
  have x0 := m0.cell_at 0 rfl
  have x1 := m0.cell_at 1 rfl
  have x2 := m0.cell_at 2 rfl
  have x3 := m0.cell_at 3 rfl
  have x4 := m0.cell_at 4 rfl
  have x5 := m0.cell_at 5 rfl
  have x6 := m0.cell_at 6 rfl
  have x7 := m0.cell_at 7 rfl
  have x8 := m0.cell_at 8 rfl
  have x9 := m0.cell_at 9 rfl
  have x10 := m0.cell_at 10 rfl
  clear m0
  go_wp2_with fail
  refine (K7.out _ hq).mono ?_
  clear hq K7 x0 x1 x2 x3 x4 x5 x6 x7 x8 x9 x10
  rintro e w12 ⟨rfl, hq⟩
  have m0 := HRa.out _ hq
  have x0 := m0.cell_at 0 rfl
  have x1 := m0.cell_at 1 rfl
  have x2 := m0.cell_at 2 rfl
  have x3 := m0.cell_at 3 rfl
  have x4 := m0.cell_at 4 rfl
  have x5 := m0.cell_at 5 rfl
  have x6 := m0.cell_at 6 rfl
  have x7 := m0.cell_at 7 rfl
  have x8 := m0.cell_at 8 rfl
  have x9 := m0.cell_at 9 rfl
  have x10 := m0.cell_at 10 rfl
  clear m0
  go_wp2_with fail
  refine (K8.out _ hq).mono ?_
  clear hq K8 x0 x1 x2 x3 x4 x5 x6 x7 x8 x9 x10
  rintro e w13 ⟨rfl, hq⟩
  have m0 := HRx.out _ hq
  have x0 := m0.cell_at 0 rfl
  have x1 := m0.cell_at 1 rfl
  have x2 := m0.cell_at 2 rfl
  have x3 := m0.cell_at 3 rfl
  have x4 := m0.cell_at 4 rfl
  have x5 := m0.cell_at 5 rfl
  have x6 := m0.cell_at 6 rfl
  have x7 := m0.cell_at 7 rfl
  have x8 := m0.cell_at 8 rfl
  have x9 := m0.cell_at 9 rfl
  have x10 := m0.cell_at 10 rfl
  clear m0
  go_wp2_with fail
  refine (K9.out _ hq).mono ?_
  clear hq K9 x0 x1 x2 x3 x4 x5 x6 x7 x8 x9 x10
  rintro e w14 ⟨rfl, hq⟩
  go_wp2_with fail
  go_ret
  exact ⟨rfl, HRp.out _ hq⟩
end Go.Proofs.YtpppieffkklnhaaGreatDoor
