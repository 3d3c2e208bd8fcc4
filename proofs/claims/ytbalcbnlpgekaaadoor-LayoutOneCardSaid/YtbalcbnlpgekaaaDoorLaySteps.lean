/- The walk of LayoutSteps: a step goes both ways about; its ends are ports of its section. -/
import Derived.Test.YtbalcbnlpgekaaaDoorLayR
namespace Go.Proofs.YtbalcbnlpgekaaaDoor
open Go.RowKit Go.Shelf
set_option linter.unusedVariables false
set_option linter.unusedSimpArgs false

theorem keep_lay {l : Lay} {w : World} (hT : Shapes w) (hL : Lies l w) : ∃ P : World → Prop, Hid (Closed P) ∧ Hid (∀ W, P W → Shapes W) ∧ Hid (∀ W, P W → Lies l W) ∧ Hid (∀ W, P W → Below w.heap.size w W) ∧ P w :=
  ⟨fun W => (Shapes W ∧ Lies l W) ∧ Below w.heap.size w W, Lib.hid ((Closed.and (fun _ _ => Shapes.closed _ _) (fun _ _ => Lies.closed l _ _)).and (Closed.below w)), Lib.hid (fun _ h => h.1.1), Lib.hid (fun _ h => h.1.2), Lib.hid (fun _ h => h.2), ⟨⟨hT, hL⟩, Below.refl _ _⟩⟩
theorem goesK_cases {k i o : Int} (h : goesK k i o = true) : 0 ≤ i ∧ i < pK k ∧ 0 ≤ o ∧ o < pK k := by
  have hs := shapeK k
  unfold goesK at h
  revert h hs
  generalize pK k = p
  generalize nK k = n
  generalize bK k = b
  generalize cK k = c
  generalize dK k = d
  intro h hs
  unfold IsShape at hs
  rcases hs with ⟨_, rfl, rfl, _, rfl, rfl, rfl⟩ | ⟨_, rfl, rfl, _, rfl, rfl, rfl⟩ | ⟨_, rfl, rfl, _, rfl, rfl, rfl⟩ | ⟨_, rfl, rfl, _, rfl, rfl, rfl⟩
  · simp [goesV, joinV] at h; omega
  · simp [goesV, joinV] at h; omega
  · simp [goesV, joinV] at h; omega
  · simp [goesV] at h
theorem step_there {l : Lay} {s i o : Int} (h : stepV l s i o = true) : thereV l s i = true ∧ thereV l s o = true := by
  obtain ⟨h1, h2, h3, h4⟩ := goesK_cases h
  unfold thereV
  rw [withinA_iff, withinA_iff]
  omega
theorem wayK_none {k i o : Int} (h : goesK k i o = false) : wayK k i o = 0 := wayV_none h
theorem joinV_comm' (a b i o : Int) : joinV a b o i = joinV a b i o := by unfold joinV; exact Bool.or_comm _ _
theorem wayK_comm (k i o : Int) : wayK k o i = wayK k i o := by unfold wayK wayV; rw [joinV_comm' 0 (bK k) i o, joinV_comm' (cK k) (dK k) i o]
theorem goesK_comm (k i o : Int) : goesK k o i = goesK k i o := by unfold goesK goesV; rw [joinV_comm' 0 (bK k) i o, joinV_comm' (cK k) (dK k) i o]
theorem atV_kind {l : Lay} {s p : Int} (h : thereV l s p = true) : (atV l s p).k = kindV l s := by
  obtain ⟨j, rfl, hx⟩ := atV_yes h
  exact (kindV_at hx).symm

set_option maxRecDepth 100000 in
set_option maxHeartbeats 8000000 in
theorem layoutSteps_walk (l : Lay) (s i o : Int) (w : World) (hT : Shapes w) (hL : Lies l w) :
    Calls Tryd.prog 7 #[l.val, stpV s i o] w fun e w' => e = .returned (.bool true) ∧ Below w.heap.size w w' := by
  obtain ⟨P, HP, HPT, HPL, HPB, hp⟩ := keep_lay hT hL
  obtain ⟨Q, HQ, HQp, HQl, HQv, hq⟩ := keep_box2 HP.out hp 29 33 l.cells (stpCells (s, i, o))
  have HQT : Hid (∀ W, Q W → Shapes W) := Lib.hid fun W h => HPT.out _ (HQp.out _ h)
  have HQL : Hid (∀ W, Q W → Lies l W) := Lib.hid fun W h => HPL.out _ (HQp.out _ h)
  have HQB : Hid (∀ W, Q W → Below w.heap.size w W) := Lib.hid fun W h => HPB.out _ (HQp.out _ h)
  obtain ⟨g, hg⟩ : ∃ g, greatV l = g := ⟨_, rfl⟩
  have KG := Lib.hid (fun W hW => great_P (P := Q) (w := W) HQ.out HQL.out hg hW)
  obtain ⟨r, hr⟩ : ∃ r, stepV l s i o = r := ⟨_, rfl⟩
  obtain ⟨v, hv⟩ : ∃ v, wayK (kindV l s) i o = v := ⟨_, rfl⟩
  obtain ⟨ri, hri⟩ : ∃ r, thereV l s i = r := ⟨_, rfl⟩
  obtain ⟨ro, hro⟩ : ∃ r, thereV l s o = r := ⟨_, rfl⟩
  obtain ⟨xi, hxi⟩ : ∃ x, atV l s i = x := ⟨_, rfl⟩
  obtain ⟨xo, hxo⟩ : ∃ x, atV l s o = x := ⟨_, rfl⟩
  have K1 := Lib.hid (fun W hW => step_P (P := Q) (w := W) HQ.out HQT.out HQL.out s i o hv hr hW)
  have K2 := Lib.hid (fun W hW => step_P (P := Q) (w := W) HQ.out HQT.out HQL.out s o i ((wayK_comm _ i o).trans hv) ((goesK_comm _ i o).trans hr) hW)
  have K3 := Lib.hid (fun W hW => at_P (P := Q) (w := W) HQ.out HQT.out HQL.out s i hxi hri hW)
  have hki : ri = true → xi.k = kindV l s := fun h => by rw [← hxi]; exact atV_kind (hri.trans h)
  have hcase : g = true ∨ g = false ∧ ((r = false ∧ v = 0 ∧ ri = false) ∨ (r = false ∧ v = 0 ∧ ri = true ∧ ro = false) ∨ (r = false ∧ v = 0 ∧ ri = true ∧ ro = true) ∨ (r = true ∧ ri = true ∧ ro = true)) := by
    cases g
    · refine .inr ⟨rfl, ?_⟩
      cases r
      · have hv0 : v = 0 := by rw [← hv]; exact wayK_none hr
        cases ri <;> cases ro <;> simp [hv0]
      · have := step_there hr
        rw [hri, hro] at this
        simp [this.1, this.2]
    · exact .inl rfl
  have HK5 : Hid (ri = true → ∀ (R : World → Prop) W, R W → Calls Tryd.prog 25 #[.int .u8 xi.k, .int .i64 i, .int .i64 o] W fun e w' => e = .returned (.tuple #[.int .i64 v, .bool r]) ∧ R w') := Lib.hid (fun h R W hW => by
    have := wayR_P (P := R) (w := W) i o (shapeK (kindV l s)) hv hr hW
    rw [hki h]
    exact this)
  have HI := Lib.hid (And.intro hxo hro)
  clear hg hr hv hri hro hxi hxo hki hT hL hp
  rcases hcase with rfl | ⟨rfl, ⟨rfl, rfl, rfl⟩ | ⟨rfl, rfl, rfl, rfl⟩ | ⟨rfl, rfl, rfl, rfl⟩ | ⟨rfl, rfl, rfl⟩⟩
  · go_enter Tryd.func7, Tryd.ntmps7
    have hW := hq
    have m0 := HQl.out _ hW
    have x0 := m0.cell_at 0 rfl
    have x1 := m0.cell_at 1 rfl
    have x2 := m0.cell_at 2 rfl
    have x3 := m0.cell_at 3 rfl
    have x4 := m0.cell_at 4 rfl
    have x5 := m0.cell_at 5 rfl
    have x6 := m0.cell_at 6 rfl
    have x7 := m0.cell_at 7 rfl
    have x8 := m0.cell_at 8 rfl
    have x9 := m0.cell_at 9 rfl
    have x10 := m0.cell_at 10 rfl
    clear m0
    have m1 := HQv.out _ hW
    have v0 := m1.cell_at 0 rfl
    have v1 := m1.cell_at 1 rfl
    have v2 := m1.cell_at 2 rfl
    clear m1
    clear hW
    go_wp2_with fail
    refine (KG.out _ hq).mono ?_
    clear x0 x1 x2 x3 x4 x5 x6 x7 x8 x9 x10 v0 v1 v2 hq
    rintro e w1 ⟨rfl, hq⟩
    go_wp2_with fail
    refine (wakes6_P HQ.out HQT.out hq).mono ?_
    rintro e w9 ⟨rfl, hq⟩
    go_wp2_with fail
    go_ret
    exact ⟨rfl, HQB.out _ hq⟩
  · go_enter Tryd.func7, Tryd.ntmps7
    have hW := hq
    have m0 := HQl.out _ hW
    have x0 := m0.cell_at 0 rfl
    have x1 := m0.cell_at 1 rfl
    have x2 := m0.cell_at 2 rfl
    have x3 := m0.cell_at 3 rfl
    have x4 := m0.cell_at 4 rfl
    have x5 := m0.cell_at 5 rfl
    have x6 := m0.cell_at 6 rfl
    have x7 := m0.cell_at 7 rfl
    have x8 := m0.cell_at 8 rfl
    have x9 := m0.cell_at 9 rfl
    have x10 := m0.cell_at 10 rfl
    clear m0
    have m1 := HQv.out _ hW
    have v0 := m1.cell_at 0 rfl
    have v1 := m1.cell_at 1 rfl
    have v2 := m1.cell_at 2 rfl
    clear m1
    clear hW
    go_wp2_with fail
    refine (KG.out _ hq).mono ?_
    clear x0 x1 x2 x3 x4 x5 x6 x7 x8 x9 x10 v0 v1 v2 hq
    rintro e w1 ⟨rfl, hq⟩
    have hW := hq
    have m0 := HQl.out _ hW
    have x0 := m0.cell_at 0 rfl
    have x1 := m0.cell_at 1 rfl
    have x2 := m0.cell_at 2 rfl
    have x3 := m0.cell_at 3 rfl
    have x4 := m0.cell_at 4 rfl
    have x5 := m0.cell_at 5 rfl
    have x6 := m0.cell_at 6 rfl
    have x7 := m0.cell_at 7 rfl
    have x8 := m0.cell_at 8 rfl
    have x9 := m0.cell_at 9 rfl
    have x10 := m0.cell_at 10 rfl
    clear m0
    have m1 := HQv.out _ hW
    have v0 := m1.cell_at 0 rfl
    have v1 := m1.cell_at 1 rfl
    have v2 := m1.cell_at 2 rfl
    clear m1
    clear hW
    go_wp2_with fail
    refine (K1.out _ hq).mono ?_
    clear x0 x1 x2 x3 x4 x5 x6 x7 x8 x9 x10 v0 v1 v2 hq
    rintro e w1 ⟨rfl, hq⟩
    have hW := hq
    have m0 := HQl.out _ hW
    have x0 := m0.cell_at 0 rfl
    have x1 := m0.cell_at 1 rfl
    have x2 := m0.cell_at 2 rfl
    have x3 := m0.cell_at 3 rfl
    have x4 := m0.cell_at 4 rfl
    have x5 := m0.cell_at 5 rfl
    have x6 := m0.cell_at 6 rfl
    have x7 := m0.cell_at 7 rfl
    have x8 := m0.cell_at 8 rfl
    have x9 := m0.cell_at 9 rfl
    have x10 := m0.cell_at 10 rfl
    clear m0
    have m1 := HQv.out _ hW
    have v0 := m1.cell_at 0 rfl
    have v1 := m1.cell_at 1 rfl
    have v2 := m1.cell_at 2 rfl
    clear m1
    clear hW
    go_wp2_with fail
    refine (K2.out _ hq).mono ?_
    clear x0 x1 x2 x3 x4 x5 x6 x7 x8 x9 x10 v0 v1 v2 hq
    rintro e w1 ⟨rfl, hq⟩
    have hW := hq
    have m0 := HQl.out _ hW
    have x0 := m0.cell_at 0 rfl
    have x1 := m0.cell_at 1 rfl
    have x2 := m0.cell_at 2 rfl
    have x3 := m0.cell_at 3 rfl
    have x4 := m0.cell_at 4 rfl
    have x5 := m0.cell_at 5 rfl
    have x6 := m0.cell_at 6 rfl
    have x7 := m0.cell_at 7 rfl
    have x8 := m0.cell_at 8 rfl
    have x9 := m0.cell_at 9 rfl
    have x10 := m0.cell_at 10 rfl
    clear m0
    have m1 := HQv.out _ hW
    have v0 := m1.cell_at 0 rfl
    have v1 := m1.cell_at 1 rfl
    have v2 := m1.cell_at 2 rfl
    clear m1
    clear hW
    go_wp2_with fail
    refine (K3.out _ hq).mono ?_
    clear x0 x1 x2 x3 x4 x5 x6 x7 x8 x9 x10 v0 v1 v2 hq
    rintro e w1 ⟨rfl, hq⟩
    obtain ⟨R, HR, HRp, HRx, hR⟩ := keep_box HQ.out hq 39 xi.cells
    have HRT : Hid (∀ W, R W → Shapes W) := Lib.hid fun W h => HQT.out _ (HRp.out _ h)
    have HRL : Hid (∀ W, R W → Lies l W) := Lib.hid fun W h => HQL.out _ (HRp.out _ h)
    have K4 := Lib.hid (fun W hW => at_P (P := R) (w := W) HR.out HRT.out HRL.out s o HI.out.1 HI.out.2 hW)
    have hW := HRp.out _ hR
    have m0 := HQl.out _ hW
    have x0 := m0.cell_at 0 rfl
    have x1 := m0.cell_at 1 rfl
    have x2 := m0.cell_at 2 rfl
    have x3 := m0.cell_at 3 rfl
    have x4 := m0.cell_at 4 rfl
    have x5 := m0.cell_at 5 rfl
    have x6 := m0.cell_at 6 rfl
    have x7 := m0.cell_at 7 rfl
    have x8 := m0.cell_at 8 rfl
    have x9 := m0.cell_at 9 rfl
    have x10 := m0.cell_at 10 rfl
    clear m0
    have m1 := HQv.out _ hW
    have v0 := m1.cell_at 0 rfl
    have v1 := m1.cell_at 1 rfl
    have v2 := m1.cell_at 2 rfl
    clear m1
    clear hW
    go_wp2_with fail
    refine (K4.out _ hR).mono ?_
    clear x0 x1 x2 x3 x4 x5 x6 x7 x8 x9 x10 v0 v1 v2 hq hR
    rintro e w1 ⟨rfl, hR⟩
    have hR := HR.out _ _ hR (below1 w1 (.cells xo.cells.toArray 39))
    go_wp2_with fail
    refine (wakes6_P HR.out HRT.out hR).mono ?_
    rintro e w9 ⟨rfl, hR⟩
    go_wp2_with fail
    go_ret
    exact ⟨rfl, HQB.out _ (HRp.out _ hR)⟩
  · go_enter Tryd.func7, Tryd.ntmps7
    have hW := hq
    have m0 := HQl.out _ hW
    have x0 := m0.cell_at 0 rfl
    have x1 := m0.cell_at 1 rfl
    have x2 := m0.cell_at 2 rfl
    have x3 := m0.cell_at 3 rfl
    have x4 := m0.cell_at 4 rfl
    have x5 := m0.cell_at 5 rfl
    have x6 := m0.cell_at 6 rfl
    have x7 := m0.cell_at 7 rfl
    have x8 := m0.cell_at 8 rfl
    have x9 := m0.cell_at 9 rfl
    have x10 := m0.cell_at 10 rfl
    clear m0
    have m1 := HQv.out _ hW
    have v0 := m1.cell_at 0 rfl
    have v1 := m1.cell_at 1 rfl
    have v2 := m1.cell_at 2 rfl
    clear m1
    clear hW
    go_wp2_with fail
    refine (KG.out _ hq).mono ?_
    clear x0 x1 x2 x3 x4 x5 x6 x7 x8 x9 x10 v0 v1 v2 hq
    rintro e w1 ⟨rfl, hq⟩
    have hW := hq
    have m0 := HQl.out _ hW
    have x0 := m0.cell_at 0 rfl
    have x1 := m0.cell_at 1 rfl
    have x2 := m0.cell_at 2 rfl
    have x3 := m0.cell_at 3 rfl
    have x4 := m0.cell_at 4 rfl
    have x5 := m0.cell_at 5 rfl
    have x6 := m0.cell_at 6 rfl
    have x7 := m0.cell_at 7 rfl
    have x8 := m0.cell_at 8 rfl
    have x9 := m0.cell_at 9 rfl
    have x10 := m0.cell_at 10 rfl
    clear m0
    have m1 := HQv.out _ hW
    have v0 := m1.cell_at 0 rfl
    have v1 := m1.cell_at 1 rfl
    have v2 := m1.cell_at 2 rfl
    clear m1
    clear hW
    go_wp2_with fail
    refine (K1.out _ hq).mono ?_
    clear x0 x1 x2 x3 x4 x5 x6 x7 x8 x9 x10 v0 v1 v2 hq
    rintro e w1 ⟨rfl, hq⟩
    have hW := hq
    have m0 := HQl.out _ hW
    have x0 := m0.cell_at 0 rfl
    have x1 := m0.cell_at 1 rfl
    have x2 := m0.cell_at 2 rfl
    have x3 := m0.cell_at 3 rfl
    have x4 := m0.cell_at 4 rfl
    have x5 := m0.cell_at 5 rfl
    have x6 := m0.cell_at 6 rfl
    have x7 := m0.cell_at 7 rfl
    have x8 := m0.cell_at 8 rfl
    have x9 := m0.cell_at 9 rfl
    have x10 := m0.cell_at 10 rfl
    clear m0
    have m1 := HQv.out _ hW
    have v0 := m1.cell_at 0 rfl
    have v1 := m1.cell_at 1 rfl
    have v2 := m1.cell_at 2 rfl
    clear m1
    clear hW
    go_wp2_with fail
    refine (K2.out _ hq).mono ?_
    clear x0 x1 x2 x3 x4 x5 x6 x7 x8 x9 x10 v0 v1 v2 hq
    rintro e w1 ⟨rfl, hq⟩
    have hW := hq
    have m0 := HQl.out _ hW
    have x0 := m0.cell_at 0 rfl
    have x1 := m0.cell_at 1 rfl
    have x2 := m0.cell_at 2 rfl
    have x3 := m0.cell_at 3 rfl
    have x4 := m0.cell_at 4 rfl
    have x5 := m0.cell_at 5 rfl
    have x6 := m0.cell_at 6 rfl
    have x7 := m0.cell_at 7 rfl
    have x8 := m0.cell_at 8 rfl
    have x9 := m0.cell_at 9 rfl
    have x10 := m0.cell_at 10 rfl
    clear m0
    have m1 := HQv.out _ hW
    have v0 := m1.cell_at 0 rfl
    have v1 := m1.cell_at 1 rfl
    have v2 := m1.cell_at 2 rfl
    clear m1
    clear hW
    go_wp2_with fail
    refine (K3.out _ hq).mono ?_
    clear x0 x1 x2 x3 x4 x5 x6 x7 x8 x9 x10 v0 v1 v2 hq
    rintro e w1 ⟨rfl, hq⟩
    obtain ⟨R, HR, HRp, HRx, hR⟩ := keep_box HQ.out hq 39 xi.cells
    have HRT : Hid (∀ W, R W → Shapes W) := Lib.hid fun W h => HQT.out _ (HRp.out _ h)
    have HRL : Hid (∀ W, R W → Lies l W) := Lib.hid fun W h => HQL.out _ (HRp.out _ h)
    have K4 := Lib.hid (fun W hW => at_P (P := R) (w := W) HR.out HRT.out HRL.out s o HI.out.1 HI.out.2 hW)
    have hW := HRp.out _ hR
    have m0 := HQl.out _ hW
    have x0 := m0.cell_at 0 rfl
    have x1 := m0.cell_at 1 rfl
    have x2 := m0.cell_at 2 rfl
    have x3 := m0.cell_at 3 rfl
    have x4 := m0.cell_at 4 rfl
    have x5 := m0.cell_at 5 rfl
    have x6 := m0.cell_at 6 rfl
    have x7 := m0.cell_at 7 rfl
    have x8 := m0.cell_at 8 rfl
    have x9 := m0.cell_at 9 rfl
    have x10 := m0.cell_at 10 rfl
    clear m0
    have m1 := HQv.out _ hW
    have v0 := m1.cell_at 0 rfl
    have v1 := m1.cell_at 1 rfl
    have v2 := m1.cell_at 2 rfl
    clear m1
    clear hW
    go_wp2_with fail
    refine (K4.out _ hR).mono ?_
    clear x0 x1 x2 x3 x4 x5 x6 x7 x8 x9 x10 v0 v1 v2 hq hR
    rintro e w1 ⟨rfl, hR⟩
    have hR := HR.out _ _ hR (below1 w1 (.cells xo.cells.toArray 39))
    go_wp2_with fail
    refine (wakes6_P HR.out HRT.out hR).mono ?_
    rintro e w9 ⟨rfl, hR⟩
    go_wp2_with fail
    go_ret
    exact ⟨rfl, HQB.out _ (HRp.out _ hR)⟩
  · go_enter Tryd.func7, Tryd.ntmps7
    have hW := hq
    have m0 := HQl.out _ hW
    have x0 := m0.cell_at 0 rfl
    have x1 := m0.cell_at 1 rfl
    have x2 := m0.cell_at 2 rfl
    have x3 := m0.cell_at 3 rfl
    have x4 := m0.cell_at 4 rfl
    have x5 := m0.cell_at 5 rfl
    have x6 := m0.cell_at 6 rfl
    have x7 := m0.cell_at 7 rfl
    have x8 := m0.cell_at 8 rfl
    have x9 := m0.cell_at 9 rfl
    have x10 := m0.cell_at 10 rfl
    clear m0
    have m1 := HQv.out _ hW
    have v0 := m1.cell_at 0 rfl
    have v1 := m1.cell_at 1 rfl
    have v2 := m1.cell_at 2 rfl
    clear m1
    clear hW
    go_wp2_with fail
    refine (KG.out _ hq).mono ?_
    clear x0 x1 x2 x3 x4 x5 x6 x7 x8 x9 x10 v0 v1 v2 hq
    rintro e w1 ⟨rfl, hq⟩
    have hW := hq
    have m0 := HQl.out _ hW
    have x0 := m0.cell_at 0 rfl
    have x1 := m0.cell_at 1 rfl
    have x2 := m0.cell_at 2 rfl
    have x3 := m0.cell_at 3 rfl
    have x4 := m0.cell_at 4 rfl
    have x5 := m0.cell_at 5 rfl
    have x6 := m0.cell_at 6 rfl
    have x7 := m0.cell_at 7 rfl
    have x8 := m0.cell_at 8 rfl
    have x9 := m0.cell_at 9 rfl
    have x10 := m0.cell_at 10 rfl
    clear m0
    have m1 := HQv.out _ hW
    have v0 := m1.cell_at 0 rfl
    have v1 := m1.cell_at 1 rfl
    have v2 := m1.cell_at 2 rfl
    clear m1
    clear hW
    go_wp2_with fail
    refine (K1.out _ hq).mono ?_
    clear x0 x1 x2 x3 x4 x5 x6 x7 x8 x9 x10 v0 v1 v2 hq
    rintro e w1 ⟨rfl, hq⟩
    have hW := hq
    have m0 := HQl.out _ hW
    have x0 := m0.cell_at 0 rfl
    have x1 := m0.cell_at 1 rfl
    have x2 := m0.cell_at 2 rfl
    have x3 := m0.cell_at 3 rfl
    have x4 := m0.cell_at 4 rfl
    have x5 := m0.cell_at 5 rfl
    have x6 := m0.cell_at 6 rfl
    have x7 := m0.cell_at 7 rfl
    have x8 := m0.cell_at 8 rfl
    have x9 := m0.cell_at 9 rfl
    have x10 := m0.cell_at 10 rfl
    clear m0
    have m1 := HQv.out _ hW
    have v0 := m1.cell_at 0 rfl
    have v1 := m1.cell_at 1 rfl
    have v2 := m1.cell_at 2 rfl
    clear m1
    clear hW
    go_wp2_with fail
    refine (K2.out _ hq).mono ?_
    clear x0 x1 x2 x3 x4 x5 x6 x7 x8 x9 x10 v0 v1 v2 hq
    rintro e w1 ⟨rfl, hq⟩
    have hW := hq
    have m0 := HQl.out _ hW
    have x0 := m0.cell_at 0 rfl
    have x1 := m0.cell_at 1 rfl
    have x2 := m0.cell_at 2 rfl
    have x3 := m0.cell_at 3 rfl
    have x4 := m0.cell_at 4 rfl
    have x5 := m0.cell_at 5 rfl
    have x6 := m0.cell_at 6 rfl
    have x7 := m0.cell_at 7 rfl
    have x8 := m0.cell_at 8 rfl
    have x9 := m0.cell_at 9 rfl
    have x10 := m0.cell_at 10 rfl
    clear m0
    have m1 := HQv.out _ hW
    have v0 := m1.cell_at 0 rfl
    have v1 := m1.cell_at 1 rfl
    have v2 := m1.cell_at 2 rfl
    clear m1
    clear hW
    go_wp2_with fail
    refine (K3.out _ hq).mono ?_
    clear x0 x1 x2 x3 x4 x5 x6 x7 x8 x9 x10 v0 v1 v2 hq
    rintro e w1 ⟨rfl, hq⟩
    obtain ⟨R, HR, HRp, HRx, hR⟩ := keep_box HQ.out hq 39 xi.cells
    have HRT : Hid (∀ W, R W → Shapes W) := Lib.hid fun W h => HQT.out _ (HRp.out _ h)
    have HRL : Hid (∀ W, R W → Lies l W) := Lib.hid fun W h => HQL.out _ (HRp.out _ h)
    have K4 := Lib.hid (fun W hW => at_P (P := R) (w := W) HR.out HRT.out HRL.out s o HI.out.1 HI.out.2 hW)
    have hW := HRp.out _ hR
    have m0 := HQl.out _ hW
    have x0 := m0.cell_at 0 rfl
    have x1 := m0.cell_at 1 rfl
    have x2 := m0.cell_at 2 rfl
    have x3 := m0.cell_at 3 rfl
    have x4 := m0.cell_at 4 rfl
    have x5 := m0.cell_at 5 rfl
    have x6 := m0.cell_at 6 rfl
    have x7 := m0.cell_at 7 rfl
    have x8 := m0.cell_at 8 rfl
    have x9 := m0.cell_at 9 rfl
    have x10 := m0.cell_at 10 rfl
    clear m0
    have m1 := HQv.out _ hW
    have v0 := m1.cell_at 0 rfl
    have v1 := m1.cell_at 1 rfl
    have v2 := m1.cell_at 2 rfl
    clear m1
    clear hW
    go_wp2_with fail
    refine (K4.out _ hR).mono ?_
    clear x0 x1 x2 x3 x4 x5 x6 x7 x8 x9 x10 v0 v1 v2 hq hR
    rintro e w1 ⟨rfl, hR⟩
    have hR := HR.out _ _ hR (below1 w1 (.cells xo.cells.toArray 39))
    have e0 := (HRx.out _ hR).cell_at 0 rfl
    have hW := HRp.out _ hR
    have m0 := HQl.out _ hW
    have x0 := m0.cell_at 0 rfl
    have x1 := m0.cell_at 1 rfl
    have x2 := m0.cell_at 2 rfl
    have x3 := m0.cell_at 3 rfl
    have x4 := m0.cell_at 4 rfl
    have x5 := m0.cell_at 5 rfl
    have x6 := m0.cell_at 6 rfl
    have x7 := m0.cell_at 7 rfl
    have x8 := m0.cell_at 8 rfl
    have x9 := m0.cell_at 9 rfl
    have x10 := m0.cell_at 10 rfl
    clear m0
    have m1 := HQv.out _ hW
    have v0 := m1.cell_at 0 rfl
    have v1 := m1.cell_at 1 rfl
    have v2 := m1.cell_at 2 rfl
    clear m1
    clear hW
    go_wp2_with fail
    refine (HK5.out (by trivial) R _ hR).mono ?_
    clear e0 x0 x1 x2 x3 x4 x5 x6 x7 x8 x9 x10 v0 v1 v2 hR
    rintro e w1 ⟨rfl, hR⟩
    go_wp2_with fail
    refine (wakes6_P HR.out HRT.out hR).mono ?_
    rintro e w9 ⟨rfl, hR⟩
    go_wp2_with fail
    go_ret
    exact ⟨rfl, HQB.out _ (HRp.out _ hR)⟩
  · go_enter Tryd.func7, Tryd.ntmps7
    have hW := hq
    have m0 := HQl.out _ hW
    have x0 := m0.cell_at 0 rfl
    have x1 := m0.cell_at 1 rfl
    have x2 := m0.cell_at 2 rfl
    have x3 := m0.cell_at 3 rfl
    have x4 := m0.cell_at 4 rfl
    have x5 := m0.cell_at 5 rfl
    have x6 := m0.cell_at 6 rfl
    have x7 := m0.cell_at 7 rfl
    have x8 := m0.cell_at 8 rfl
    have x9 := m0.cell_at 9 rfl
    have x10 := m0.cell_at 10 rfl
    clear m0
    have m1 := HQv.out _ hW
    have v0 := m1.cell_at 0 rfl
    have v1 := m1.cell_at 1 rfl
    have v2 := m1.cell_at 2 rfl
    clear m1
    clear hW
    go_wp2_with fail
    refine (KG.out _ hq).mono ?_
    clear x0 x1 x2 x3 x4 x5 x6 x7 x8 x9 x10 v0 v1 v2 hq
    rintro e w1 ⟨rfl, hq⟩
    have hW := hq
    have m0 := HQl.out _ hW
    have x0 := m0.cell_at 0 rfl
    have x1 := m0.cell_at 1 rfl
    have x2 := m0.cell_at 2 rfl
    have x3 := m0.cell_at 3 rfl
    have x4 := m0.cell_at 4 rfl
    have x5 := m0.cell_at 5 rfl
    have x6 := m0.cell_at 6 rfl
    have x7 := m0.cell_at 7 rfl
    have x8 := m0.cell_at 8 rfl
    have x9 := m0.cell_at 9 rfl
    have x10 := m0.cell_at 10 rfl
    clear m0
    have m1 := HQv.out _ hW
    have v0 := m1.cell_at 0 rfl
    have v1 := m1.cell_at 1 rfl
    have v2 := m1.cell_at 2 rfl
    clear m1
    clear hW
    go_wp2_with fail
    refine (K1.out _ hq).mono ?_
    clear x0 x1 x2 x3 x4 x5 x6 x7 x8 x9 x10 v0 v1 v2 hq
    rintro e w1 ⟨rfl, hq⟩
    have hW := hq
    have m0 := HQl.out _ hW
    have x0 := m0.cell_at 0 rfl
    have x1 := m0.cell_at 1 rfl
    have x2 := m0.cell_at 2 rfl
    have x3 := m0.cell_at 3 rfl
    have x4 := m0.cell_at 4 rfl
    have x5 := m0.cell_at 5 rfl
    have x6 := m0.cell_at 6 rfl
    have x7 := m0.cell_at 7 rfl
    have x8 := m0.cell_at 8 rfl
    have x9 := m0.cell_at 9 rfl
    have x10 := m0.cell_at 10 rfl
    clear m0
    have m1 := HQv.out _ hW
    have v0 := m1.cell_at 0 rfl
    have v1 := m1.cell_at 1 rfl
    have v2 := m1.cell_at 2 rfl
    clear m1
    clear hW
    go_wp2_with fail
    refine (K2.out _ hq).mono ?_
    clear x0 x1 x2 x3 x4 x5 x6 x7 x8 x9 x10 v0 v1 v2 hq
    rintro e w1 ⟨rfl, hq⟩
    have hW := hq
    have m0 := HQl.out _ hW
    have x0 := m0.cell_at 0 rfl
    have x1 := m0.cell_at 1 rfl
    have x2 := m0.cell_at 2 rfl
    have x3 := m0.cell_at 3 rfl
    have x4 := m0.cell_at 4 rfl
    have x5 := m0.cell_at 5 rfl
    have x6 := m0.cell_at 6 rfl
    have x7 := m0.cell_at 7 rfl
    have x8 := m0.cell_at 8 rfl
    have x9 := m0.cell_at 9 rfl
    have x10 := m0.cell_at 10 rfl
    clear m0
    have m1 := HQv.out _ hW
    have v0 := m1.cell_at 0 rfl
    have v1 := m1.cell_at 1 rfl
    have v2 := m1.cell_at 2 rfl
    clear m1
    clear hW
    go_wp2_with fail
    refine (K3.out _ hq).mono ?_
    clear x0 x1 x2 x3 x4 x5 x6 x7 x8 x9 x10 v0 v1 v2 hq
    rintro e w1 ⟨rfl, hq⟩
    obtain ⟨R, HR, HRp, HRx, hR⟩ := keep_box HQ.out hq 39 xi.cells
    have HRT : Hid (∀ W, R W → Shapes W) := Lib.hid fun W h => HQT.out _ (HRp.out _ h)
    have HRL : Hid (∀ W, R W → Lies l W) := Lib.hid fun W h => HQL.out _ (HRp.out _ h)
    have K4 := Lib.hid (fun W hW => at_P (P := R) (w := W) HR.out HRT.out HRL.out s o HI.out.1 HI.out.2 hW)
    have hW := HRp.out _ hR
    have m0 := HQl.out _ hW
    have x0 := m0.cell_at 0 rfl
    have x1 := m0.cell_at 1 rfl
    have x2 := m0.cell_at 2 rfl
    have x3 := m0.cell_at 3 rfl
    have x4 := m0.cell_at 4 rfl
    have x5 := m0.cell_at 5 rfl
    have x6 := m0.cell_at 6 rfl
    have x7 := m0.cell_at 7 rfl
    have x8 := m0.cell_at 8 rfl
    have x9 := m0.cell_at 9 rfl
    have x10 := m0.cell_at 10 rfl
    clear m0
    have m1 := HQv.out _ hW
    have v0 := m1.cell_at 0 rfl
    have v1 := m1.cell_at 1 rfl
    have v2 := m1.cell_at 2 rfl
    clear m1
    clear hW
    go_wp2_with fail
    refine (K4.out _ hR).mono ?_
    clear x0 x1 x2 x3 x4 x5 x6 x7 x8 x9 x10 v0 v1 v2 hq hR
    rintro e w1 ⟨rfl, hR⟩
    have hR := HR.out _ _ hR (below1 w1 (.cells xo.cells.toArray 39))
    have e0 := (HRx.out _ hR).cell_at 0 rfl
    have hW := HRp.out _ hR
    have m0 := HQl.out _ hW
    have x0 := m0.cell_at 0 rfl
    have x1 := m0.cell_at 1 rfl
    have x2 := m0.cell_at 2 rfl
    have x3 := m0.cell_at 3 rfl
    have x4 := m0.cell_at 4 rfl
    have x5 := m0.cell_at 5 rfl
    have x6 := m0.cell_at 6 rfl
    have x7 := m0.cell_at 7 rfl
    have x8 := m0.cell_at 8 rfl
    have x9 := m0.cell_at 9 rfl
    have x10 := m0.cell_at 10 rfl
    clear m0
    have m1 := HQv.out _ hW
    have v0 := m1.cell_at 0 rfl
    have v1 := m1.cell_at 1 rfl
    have v2 := m1.cell_at 2 rfl
    clear m1
    clear hW
    go_wp2_with fail
    refine (HK5.out (by trivial) R _ hR).mono ?_
    clear e0 x0 x1 x2 x3 x4 x5 x6 x7 x8 x9 x10 v0 v1 v2 hR
    rintro e w1 ⟨rfl, hR⟩
    go_wp2_with fail
    refine (wakes6_P HR.out HRT.out hR).mono ?_
    rintro e w9 ⟨rfl, hR⟩
    go_wp2_with fail
    go_ret
    exact ⟨rfl, HQB.out _ (HRp.out _ hR)⟩
end Go.Proofs.YtbalcbnlpgekaaaDoor
