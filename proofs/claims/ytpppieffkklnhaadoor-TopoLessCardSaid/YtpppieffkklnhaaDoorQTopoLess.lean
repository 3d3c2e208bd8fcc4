/- The walk of TopoLess: a layout that hangs together does so with less. -/
import Derived.Lib.MinMax
import Derived.Test.YtpppieffkklnhaaDoorQTopoW
import Derived.Test.YtpppieffkklnhaaDoorQTopoG
import Derived.Test.YtpppieffkklnhaaDoorQGreatJ
import Derived.Test.YtpppieffkklnhaaDoorQLayRowC
namespace Go.Proofs.YtpppieffkklnhaaDoor
open Go.RowKit Go.Shelf
set_option linter.unusedVariables false
set_option linter.unusedSimpArgs false

theorem min_max (a : Int) (n : Nat) : ∃ k : Nat, min (max a 0) (n : Int) = k ∧ k ≤ n := ⟨(min (max a 0) (n : Int)).toNat, by omega, by omega⟩
theorem take_flat {α : Type} (f : α → List Value) (l : List α) (n : Nat) : ∃ r, l.flatMap f = (l.take n).flatMap f ++ r := ⟨(l.drop n).flatMap f, by rw [← List.flatMap_append, List.take_append_drop]⟩
theorem Row.front {w : World} {B : Nat} {A : Option Addr} {vs us : List Value} (h : Row w B A (vs ++ us)) : Row w B A vs := fun hp => by
  obtain ⟨b, off, e, hb, hc⟩ := h (by rw [List.length_append]; omega)
  exact ⟨b, off, e, hb, fun j u hu => hc j u (by rw [List.getElem?_append_left (List.getElem?_eq_some_iff.1 hu).1]; exact hu)⟩
theorem Row.take {α : Type} {f : α → List Value} {w : World} {B : Nat} {A : Option Addr} {l : List α} (h : Row w B A (l.flatMap f)) (n : Nat) : Row w B A ((l.take n).flatMap f) := by
  obtain ⟨r, e⟩ := take_flat f l n
  rw [e] at h
  exact h.front
theorem Lies.take {l : Lay} {w : World} (h : Lies l w) (a b c : Nat) : Lies ⟨l.secs, l.As, l.cs, l.sigs.take a, l.Ag, l.cg, l.exits.take b, l.Ae, l.ce, l.flanks.take c, l.Af, l.cf, l.t0, l.t1, l.t2, l.t3, l.t4, l.t5, l.t6⟩ w :=
  ⟨h.secs, h.sigs.take a, h.exits.take b, h.flanks.take c, fun x hx => h.overs x (List.mem_of_mem_take hx), h.kinds, h.nS, by have := h.nG; simp only [List.length_take]; omega, by have := h.nE; simp only [List.length_take]; omega, by have := h.nF; simp only [List.length_take]; omega, fun x hx => h.nO x (List.mem_of_mem_take hx)⟩

set_option maxRecDepth 100000 in
set_option maxHeartbeats 16000000 in
theorem topoLess_walk (l : Lay) (a b c : Int) (w : World) (hT : Shapes w) (hL : Lies l w) (hC : Caps l) :
    Calls Tryd.prog 6 #[l.val, .int .i64 a, .int .i64 b, .int .i64 c] w fun e w' => e = .returned (.bool true) ∧ Below w.heap.size w w' := by
  obtain ⟨P, HP, HPT, HPL, HPB, hp⟩ := keep_lay hT hL
  obtain ⟨Q, HQ, HQp, HQl, hq⟩ := keep_box HP.out hp 29 l.cells
  have HQT : Hid (∀ W, Q W → Shapes W) := Lib.hid fun W h => HPT.out _ (HQp.out _ h)
  have HQL : Hid (∀ W, Q W → Lies l W) := Lib.hid fun W h => HPL.out _ (HQp.out _ h)
  have HQB : Hid (∀ W, Q W → Below w.heap.size w W) := Lib.hid fun W h => HPB.out _ (HQp.out _ h)
  obtain ⟨g, hg⟩ : ∃ g, greatJ l = g := ⟨_, rfl⟩
  have KG := Lib.hid (fun W hW => greatJ_P (P := Q) (w := W) HQ.out HQL.out hg hW)
  have KW := Lib.hid (fun W hW => wakesT_P (P := Q) (w := W) HQ.out HQT.out hW)
  obtain ⟨r, hr⟩ : ∃ r, rightT l = r := ⟨_, rfl⟩
  have KR := Lib.hid (fun W hW => keepR HQ.out (rightT_any (w := W) (HQT.out W hW) (HQL.out W hW) hr) hW)
  have HRT := Lib.hid hr
  obtain ⟨na, hna, ha⟩ := min_max a l.sigs.length
  obtain ⟨nb, hnb, hb⟩ := min_max b l.exits.length
  obtain ⟨nc, hnc, hc⟩ := min_max c l.flanks.length
  have HC := Lib.hid hC
  have HN := Lib.hid (And.intro hg (And.intro ha (And.intro hb hc)))
  have HE1 := Lib.hid hna
  have HE2 := Lib.hid hnb
  have HE3 := Lib.hid hnc
  clear hT hL hp hr hna hnb hnc hC hg ha hb hc
  go_enter Tryd.func6, Tryd.ntmps6
  have m0 := HQl.out _ hq
  have x0 := m0.cell_at 0 rfl
  have x1 := m0.cell_at 1 rfl
  have x2 := m0.cell_at 2 rfl
  have x3 := m0.cell_at 3 rfl
  have x4 := m0.cell_at 4 rfl
  have x5 := m0.cell_at 5 rfl
  have x6 := m0.cell_at 6 rfl
  have x7 := m0.cell_at 7 rfl
  have x8 := m0.cell_at 8 rfl
  have x9 := m0.cell_at 9 rfl
  have x10 := m0.cell_at 10 rfl
  clear m0
  go_wp2_with fail
  refine (KG.out _ hq).mono ?_
  clear hq x0 x1 x2 x3 x4 x5 x6 x7 x8 x9 x10
  rintro e w1 ⟨rfl, hq⟩
  cases g
  rotate_left
  · go_wp2_with fail
    refine (KW.out _ hq).mono ?_
    clear hq
    rintro e w9 ⟨rfl, hq⟩
    go_wp2_with fail
    go_ret
    exact ⟨rfl, HQB.out _ hq⟩
  have m0 := HQl.out _ hq
  have x0 := m0.cell_at 0 rfl
  have x1 := m0.cell_at 1 rfl
  have x2 := m0.cell_at 2 rfl
  have x3 := m0.cell_at 3 rfl
  have x4 := m0.cell_at 4 rfl
  have x5 := m0.cell_at 5 rfl
  have x6 := m0.cell_at 6 rfl
  have x7 := m0.cell_at 7 rfl
  have x8 := m0.cell_at 8 rfl
  have x9 := m0.cell_at 9 rfl
  have x10 := m0.cell_at 10 rfl
  clear m0
  go_wp2_with fail
  refine (KR.out _ hq).mono ?_
  clear hq x0 x1 x2 x3 x4 x5 x6 x7 x8 x9 x10
  rintro e w2 ⟨rfl, hq⟩
  cases r
  · go_wp2_with fail
    refine (KW.out _ hq).mono ?_
    clear hq
    rintro e w9 ⟨rfl, hq⟩
    go_wp2_with fail
    go_ret
    exact ⟨rfl, HQB.out _ hq⟩
  have m0 := HQl.out _ hq
  have x0 := m0.cell_at 0 rfl
  have x1 := m0.cell_at 1 rfl
  have x2 := m0.cell_at 2 rfl
  have x3 := m0.cell_at 3 rfl
  have x4 := m0.cell_at 4 rfl
  have x5 := m0.cell_at 5 rfl
  have x6 := m0.cell_at 6 rfl
  have x7 := m0.cell_at 7 rfl
  have x8 := m0.cell_at 8 rfl
  have x9 := m0.cell_at 9 rfl
  have x10 := m0.cell_at 10 rfl
  clear m0
  go_upto_region 4 with (fail)
  clear x0 x1 x2 x3 x4 x5 x6 x7 x8 x9 x10
  obtain ⟨gm, hgm⟩ : ∃ gm, w2.heap.size = gm := ⟨_, rfl⟩
  obtain ⟨W3, hW3⟩ : ∃ W3, w2.alloc (.cells #[.slice l.As l.secs.length l.cs, .slice l.Ag l.sigs.length l.cg, .slice l.Ae l.exits.length l.ce, .slice l.Af l.flanks.length l.cf, .int .i64 l.t0, .int .i64 l.t1, .int .i64 l.t2, .int .i64 l.t3, .int .i64 l.t4, .int .i64 l.t5, .int .i64 l.t6] 29) = W3 := ⟨_, rfl⟩
  have HM3 : Hid (Below gm w2 W3 ∧ Whole W3 gm 29 l.cells) := Lib.hid (by rw [← hW3, ← hgm]; exact ⟨below1 w2 _, Whole.new _ _ l.cells⟩)
  have HQ2 := Lib.hid hq
  have HGM := Lib.hid hgm
  have HK : Hid (∀ W, Below gm w2 W → Q W) := Lib.hid (fun W hW => HQ.out _ _ HQ2.out (by rw [HGM.out]; exact hW))
  rw [hW3, hgm]
  clear hW3 hgm hq
  have HGL : Hid (w.heap.size ≠ gm) := Lib.hid (by have := (HQl.out _ HQ2.out).lt; have := HGM.out; omega)
  have m0 := HQl.out _ (HK.out _ HM3.out.1)
  have x1 := m0.cell_at 1 rfl
  have y1 := HM3.out.2.cell_at 1 rfl
  have f1 := HM3.out.2.frozen 1
  have q1 := HC.out.sigs
  have e1 := HE1.out
  have ha := HN.out.2.1
  have hgl : w.heap.size ≠ gm := HGL.out
  clear m0
  go_upto_region 5 with (fail)
  obtain ⟨W4, hW⟩ : ∃ W4, W3.setCell ⟨gm, 1, none⟩ (.slice l.Ag na l.cg) = W4 := ⟨_, rfl⟩
  have HM4 : Hid (Below gm w2 W4 ∧ Whole W4 gm 29 [.slice l.As l.secs.length l.cs, .slice l.Ag na l.cg, .slice l.Ae l.exits.length l.ce, .slice l.Af l.flanks.length l.cf, .int .i64 l.t0, .int .i64 l.t1, .int .i64 l.t2, .int .i64 l.t3, .int .i64 l.t4, .int .i64 l.t5, .int .i64 l.t6]) := Lib.hid (by rw [← hW]; exact ⟨HM3.out.1.setCell (p := ⟨gm, 1, none⟩) (Nat.le_refl _) _, HM3.out.2.set 1 _⟩)
  rw [hW]
  clear hW x1 y1 f1 q1 e1 ha hgl
  have m0 := HQl.out _ (HK.out _ HM4.out.1)
  have x1 := m0.cell_at 2 rfl
  have y1 := HM4.out.2.cell_at 2 rfl
  have f1 := HM4.out.2.frozen 2
  have q1 := HC.out.exits
  have e1 := HE2.out
  have ha := HN.out.2.2.1
  have hgl : w.heap.size ≠ gm := HGL.out
  clear m0
  go_upto_region 6 with (fail)
  obtain ⟨W5, hW⟩ : ∃ W5, W4.setCell ⟨gm, 2, none⟩ (.slice l.Ae nb l.ce) = W5 := ⟨_, rfl⟩
  have HM5 : Hid (Below gm w2 W5 ∧ Whole W5 gm 29 [.slice l.As l.secs.length l.cs, .slice l.Ag na l.cg, .slice l.Ae nb l.ce, .slice l.Af l.flanks.length l.cf, .int .i64 l.t0, .int .i64 l.t1, .int .i64 l.t2, .int .i64 l.t3, .int .i64 l.t4, .int .i64 l.t5, .int .i64 l.t6]) := Lib.hid (by rw [← hW]; exact ⟨HM4.out.1.setCell (p := ⟨gm, 2, none⟩) (Nat.le_refl _) _, HM4.out.2.set 2 _⟩)
  rw [hW]
  clear hW x1 y1 f1 q1 e1 ha hgl
  have m0 := HQl.out _ (HK.out _ HM5.out.1)
  have x1 := m0.cell_at 3 rfl
  have y1 := HM5.out.2.cell_at 3 rfl
  have f1 := HM5.out.2.frozen 3
  have q1 := HC.out.flanks
  have e1 := HE3.out
  have ha := HN.out.2.2.2
  have hgl : w.heap.size ≠ gm := HGL.out
  clear m0
  go_upto_region 7 with (fail)
  obtain ⟨W6, hW⟩ : ∃ W6, W5.setCell ⟨gm, 3, none⟩ (.slice l.Af nc l.cf) = W6 := ⟨_, rfl⟩
  have HM6 : Hid (Below gm w2 W6 ∧ Whole W6 gm 29 [.slice l.As l.secs.length l.cs, .slice l.Ag na l.cg, .slice l.Ae nb l.ce, .slice l.Af nc l.cf, .int .i64 l.t0, .int .i64 l.t1, .int .i64 l.t2, .int .i64 l.t3, .int .i64 l.t4, .int .i64 l.t5, .int .i64 l.t6]) := Lib.hid (by rw [← hW]; exact ⟨HM5.out.1.setCell (p := ⟨gm, 3, none⟩) (Nat.le_refl _) _, HM5.out.2.set 3 _⟩)
  rw [hW]
  clear hW x1 y1 f1 q1 e1 ha hgl
  obtain ⟨m, hm⟩ : ∃ m : Lay, (⟨l.secs, l.As, l.cs, l.sigs.take na, l.Ag, l.cg, l.exits.take nb, l.Ae, l.ce, l.flanks.take nc, l.Af, l.cf, l.t0, l.t1, l.t2, l.t3, l.t4, l.t5, l.t6⟩ : Lay) = m := ⟨_, rfl⟩
  have hcm : [.slice l.As l.secs.length l.cs, .slice l.Ag na l.cg, .slice l.Ae nb l.ce, .slice l.Af nc l.cf, .int .i64 l.t0, .int .i64 l.t1, .int .i64 l.t2, .int .i64 l.t3, .int .i64 l.t4, .int .i64 l.t5, .int .i64 l.t6] = m.cells := by
    rw [← hm]
    simp only [Lay.cells, List.length_take, Nat.min_eq_left HN.out.2.1, Nat.min_eq_left HN.out.2.2.1, Nat.min_eq_left HN.out.2.2.2]
  have HLm : Hid (∀ W, Q W → Lies m W) := Lib.hid (fun W hW => by rw [← hm]; exact (HQL.out W hW).take na nb nc)
  have hrm : rightT m = true := by rw [← hm]; exact less_hangs (hangs_iff.1 HRT.out) rfl rfl rfl rfl rfl
  obtain ⟨R, HR, HRq, HRm, hq⟩ : ∃ R : World → Prop, Hid (Closed R) ∧ Hid (∀ W, R W → Q W) ∧ Hid (∀ W, R W → Whole W gm 29 m.cells) ∧ R W6 :=
    ⟨fun W => Q W ∧ Whole W gm 29 m.cells, Lib.hid (HQ.out.and (Closed.whole _ _ _)), Lib.hid fun _ h => h.1, Lib.hid fun _ h => h.2, HK.out _ HM6.out.1, by rw [← hcm]; exact HM6.out.2⟩
  have KM := Lib.hid (fun W hW => keepR HR.out (rightT_any (w := W) (HQT.out W (HRq.out W hW)) (HLm.out W (HRq.out W hW)) hrm) hW)
  have HRB := Lib.hid (fun W hW => HQB.out W (HRq.out W hW))
  have KV := Lib.hid (fun W hW => wakesT_P (P := R) (w := W) HR.out (fun W hW => HQT.out W (HRq.out W hW)) hW)
  clear hm hcm hrm HM3 HM4 HM5 HM6 HQ2 HK HGM HGL
  have m0 := HRm.out _ hq
  have x0 := m0.cell_at 0 rfl
  have x1 := m0.cell_at 1 rfl
  have x2 := m0.cell_at 2 rfl
  have x3 := m0.cell_at 3 rfl
  have x4 := m0.cell_at 4 rfl
  have x5 := m0.cell_at 5 rfl
  have x6 := m0.cell_at 6 rfl
  have x7 := m0.cell_at 7 rfl
  have x8 := m0.cell_at 8 rfl
  have x9 := m0.cell_at 9 rfl
  have x10 := m0.cell_at 10 rfl
  clear m0
  go_wp2_with fail
  refine (KM.out _ hq).mono ?_
  clear hq x0 x1 x2 x3 x4 x5 x6 x7 x8 x9 x10
  rintro e w7 ⟨rfl, hq⟩
  go_wp2_with fail
  refine (KV.out _ hq).mono ?_
  clear hq
  rintro e w9 ⟨rfl, hq⟩
  go_wp2_with fail
  go_ret
  exact ⟨rfl, HRB.out _ hq⟩
end Go.Proofs.YtpppieffkklnhaaDoor
