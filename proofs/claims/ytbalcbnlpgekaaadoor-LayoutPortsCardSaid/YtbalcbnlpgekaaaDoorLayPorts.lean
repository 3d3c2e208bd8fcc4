/- The walk of LayoutPorts: which ports a layout has; its signals', exits', steps' are there. -/
import Derived.Test.YtbalcbnlpgekaaaDoorLayR
import Derived.Test.YtbalcbnlpgekaaaDoorLaySteps
import Derived.Test.YtbalcbnlpgekaaaDoorLayFinds
import Derived.Test.YtbalcbnlpgekaaaDoorPortR
import Derived.Test.YtbalcbnlpgekaaaDoorMix
namespace Go.Proofs.YtbalcbnlpgekaaaDoor
open Go.RowKit Go.Shelf
set_option linter.unusedVariables false
set_option linter.unusedSimpArgs false

theorem right_facts {l : Lay} (h : rightL l = true) : (l.secs.length : Int) ≤ 24 ∧ (∀ p ∈ portsL l, thereV l p.1 p.2 = true) ∧ (∀ s ∈ stepsL l, stepV l s.1 s.2.1 s.2.2 = true) := by
  unfold rightL at h
  simp only [Bool.and_eq_true, Bool.not_eq_true', List.any_eq_false] at h
  obtain ⟨h0, h1, h2, h3, h4, h5⟩ := h
  unfold tooV at h0
  simp only [Bool.or_eq_false_iff, decide_eq_false_iff_not] at h0
  refine ⟨by have := h0.1; omega, fun p hp => ?_, fun p hp => ?_⟩
  · have := h3 p hp
    cases hh : thereV l p.1 p.2
    · rw [hh] at this; exact absurd rfl this
    · rfl
  · have := h4 p hp
    cases hh : stepV l p.1 p.2.1 p.2.2
    · rw [hh] at this; exact absurd rfl this
    · rfl
theorem thereV_dec {l : Lay} {i : Nat} {x : Sec} (hx : l.secs[i]? = some x) {e : Int} (he : 0 ≤ e) : thereV l i e = decide (e < pK x.k) := by
  unfold thereV
  rw [kindV_at hx, Bool.eq_iff_iff, withinA_iff, decide_eq_true_eq]
  omega
theorem atV_at {l : Lay} {i : Nat} {x : Sec} (hx : l.secs[i]? = some x) {e : Int} (h : thereV l i e = true) : atV l i e = x := by
  unfold atV
  rw [if_pos h, Int.toNat_natCast, hx]
  rfl
theorem join_there {l : Lay} (h : rightL l = true) {i : Nat} {x : Sec} (hx : l.secs[i]? = some x) {p : Int × Int} (hp : p ∈ x.ports4) : thereV l p.1 p.2 = decide (0 ≤ p.1) := by
  by_cases h0 : 0 ≤ p.1
  · rw [decide_eq_true h0]
    refine (right_facts h).2.1 p ?_
    unfold portsL joinsL
    refine List.mem_append_left _ (List.mem_flatMap.2 ⟨x, List.mem_of_getElem? hx, List.mem_filter.2 ⟨hp, by simpa using h0⟩⟩)
  · rw [decide_eq_false h0]
    unfold thereV
    rw [kindV_no (by omega)]
    have : pK 0 = 0 := rfl
    rw [this]
    unfold withinA
    by_cases h1 : 0 ≤ p.2
    · rw [decide_eq_false (show ¬ p.2 ≤ 0 - 1 by omega), Bool.and_false]
    · rw [decide_eq_false h1]; rfl
theorem sec_cells {Q : World → Prop} {l : Lay} (hQL : ∀ W, Q W → Lies l W) {W0 : World} (h0 : Q W0) {j : Nat} {x : Sec} (hx : l.secs[j]? = some x) :
    ∃ o1 o2, Hid (l.As = some ⟨o1, o2, none⟩) ∧ Hid (∀ W, Q W → ∀ (k : Nat) v, x.cells[k]? = some v → W.cell? ⟨o1, o2 + j * 11 + k, none⟩ = some v) ∧ Hid (∀ W, Q W → W.cell? ⟨o1, o2 + j * 11, none⟩ = some (.int .u8 x.k)) := by
  obtain ⟨o1, o2, hA, _, _, _⟩ := (hQL _ h0).secs.nth (n := 11) Sec.len (by omega) hx
  refine ⟨o1, o2, Lib.hid hA, Lib.hid fun W hW k v hv => ?_, Lib.hid fun W hW => ?_⟩
  all_goals
    obtain ⟨p1, p2, hA', ho', hc0', hc'⟩ := (hQL _ hW).secs.nth (n := 11) Sec.len (by omega) hx
    rw [hA] at hA'
    cases hA'
  · exact hc' j x k _ hx hv
  · exact hc0' j x _ hx rfl
theorem exit_over {Q : World → Prop} {l : Lay} (hQL : ∀ W, Q W → Lies l W) {W0 : World} (h0 : Q W0) {j : Nat} {x : Exm} (hx : l.exits[j]? = some x) {o1 o2 : Nat} (hA : l.Ae = some ⟨o1, o2, none⟩) :
    Hid (∀ W, Q W → W.cell? ⟨o1, o2 + j * 3 + 2, none⟩ = some (.slice x.A x.over.length x.c)) := by
  refine Lib.hid fun W hW => ?_
  obtain ⟨p1, p2, hA', ho', hc0', hc'⟩ := (hQL _ hW).exits.nth (n := 3) (fun _ => rfl) (by omega) hx
  rw [hA] at hA'
  cases hA'
  exact hc' j x 2 _ hx rfl
theorem over_cells {Q : World → Prop} {l : Lay} (hQL : ∀ W, Q W → Lies l W) {W0 : World} (h0 : Q W0) {x : Exm} (hm : x ∈ l.exits) {j : Nat} {y : Int × Int × Int} (hy : x.over[j]? = some y) :
    ∃ o1 o2, Hid (x.A = some ⟨o1, o2, none⟩) ∧ Hid (∀ W, Q W → W.cell? ⟨o1, o2 + j * 3, none⟩ = some (.int .i64 y.1)) ∧ Hid (∀ W, Q W → W.cell? ⟨o1, o2 + j * 3 + 1, none⟩ = some (.int .i64 y.2.1)) ∧ Hid (∀ W, Q W → W.cell? ⟨o1, o2 + j * 3 + 2, none⟩ = some (.int .i64 y.2.2)) := by
  obtain ⟨o1, o2, hA, _, _, _⟩ := ((hQL _ h0).overs x hm).nth (n := 3) (fun _ => rfl) (by omega) hy
  refine ⟨o1, o2, Lib.hid hA, Lib.hid fun W hW => ?_, Lib.hid fun W hW => ?_, Lib.hid fun W hW => ?_⟩
  all_goals
    obtain ⟨p1, p2, hA', ho', hc0', hc'⟩ := ((hQL _ hW).overs x hm).nth (n := 3) (fun _ => rfl) (by omega) hy
    rw [hA] at hA'
    cases hA'
  · exact hc0' j y _ hy rfl
  · exact hc' j y 1 _ hy rfl
  · exact hc' j y 2 _ hy rfl
theorem neq_sec_self (w : World) (x : Sec) : (binOp .neq 39 x.val x.val).run Tryd.prog w = .ok (.bool false) w := by rw [neq_sec, Sec.same_eq, decide_eq_true rfl]; rfl
theorem join_cell {W : World} {g : Nat} {x : Sec} (h : Whole W g 39 x.cells) {e : Nat} {p : Int × Int} (hp : x.ports4[e]? = some p) : W.cell? ⟨g, 1 + e * 2, none⟩ = some (.int .i64 p.1) ∧ W.cell? ⟨g, 1 + e * 2 + 1, none⟩ = some (.int .i64 p.2) := by
  match e, hp with
  | 0, hp => cases hp; exact ⟨h.cell_at 1 rfl, h.cell_at 2 rfl⟩
  | 1, hp => cases hp; exact ⟨h.cell_at 3 rfl, h.cell_at 4 rfl⟩
  | 2, hp => cases hp; exact ⟨h.cell_at 5 rfl, h.cell_at 6 rfl⟩
  | 3, hp => cases hp; exact ⟨h.cell_at 7 rfl, h.cell_at 8 rfl⟩
  | n + 4, hp => cases hp

set_option maxRecDepth 100000 in
set_option maxHeartbeats 16000000 in
theorem layoutPorts_walk (l : Lay) (w : World) (hT : Shapes w) (hL : Lies l w) :
    Calls Tryd.prog 5 #[l.val] w fun e w' => e = .returned (.bool true) ∧ Below w.heap.size w w' := by
  obtain ⟨P, HP, HPT, HPL, HPB, hp⟩ := keep_lay hT hL
  have hnS := hL.nS
  have hnG := hL.nG
  have hnE := hL.nE
  have HnO := Lib.hid hL.nO
  obtain ⟨Q, HQ, HQp, HQl, hq⟩ := keep_box HP.out hp 29 l.cells
  have HQT : Hid (∀ W, Q W → Shapes W) := Lib.hid fun W h => HPT.out _ (HQp.out _ h)
  have HQL : Hid (∀ W, Q W → Lies l W) := Lib.hid fun W h => HPL.out _ (HQp.out _ h)
  have HQB : Hid (∀ W, Q W → Below w.heap.size w W) := Lib.hid fun W h => HPB.out _ (HQp.out _ h)
  obtain ⟨g, hg⟩ : ∃ g, greatV l = g := ⟨_, rfl⟩
  have KG := Lib.hid (fun W hW => great_P (P := Q) (w := W) HQ.out HQL.out hg hW)
  obtain ⟨r, hr⟩ : ∃ r, rightL l = r := ⟨_, rfl⟩
  have KR := Lib.hid (fun W hW => rightL_P (P := Q) (w := W) HQ.out HQT.out HQL.out hr hW)
  have HR0 : Hid (r = true → rightL l = true) := Lib.hid (fun h => hr.trans h)
  clear hg hr hT hL hp
  have hcase : g = true ∨ (g = false ∧ r = false) ∨ (g = false ∧ r = true) := by cases g <;> cases r <;> simp
  rcases hcase with rfl | ⟨rfl, rfl⟩ | ⟨rfl, rfl⟩
  · go_enter Tryd.func5, Tryd.ntmps5
    have hW := hq
    have m0 := HQl.out _ hW
    have x0 := m0.cell_at 0 rfl
    have x1 := m0.cell_at 1 rfl
    have x2 := m0.cell_at 2 rfl
    have x3 := m0.cell_at 3 rfl
    have x4 := m0.cell_at 4 rfl
    have x5 := m0.cell_at 5 rfl
    have x6 := m0.cell_at 6 rfl
    have x7 := m0.cell_at 7 rfl
    have x8 := m0.cell_at 8 rfl
    have x9 := m0.cell_at 9 rfl
    have x10 := m0.cell_at 10 rfl
    clear m0
    clear hW
    go_wp2_with fail
    refine (KG.out _ hq).mono ?_
    clear x0 x1 x2 x3 x4 x5 x6 x7 x8 x9 x10 hq
    rintro e w1 ⟨rfl, hq⟩
    go_wp2_with fail
    refine (wakes6_P HQ.out HQT.out hq).mono ?_
    rintro e w9 ⟨rfl, hq⟩
    go_wp2_with fail
    go_ret
    exact ⟨rfl, HQB.out _ hq⟩
  · go_enter Tryd.func5, Tryd.ntmps5
    have hW := hq
    have m0 := HQl.out _ hW
    have x0 := m0.cell_at 0 rfl
    have x1 := m0.cell_at 1 rfl
    have x2 := m0.cell_at 2 rfl
    have x3 := m0.cell_at 3 rfl
    have x4 := m0.cell_at 4 rfl
    have x5 := m0.cell_at 5 rfl
    have x6 := m0.cell_at 6 rfl
    have x7 := m0.cell_at 7 rfl
    have x8 := m0.cell_at 8 rfl
    have x9 := m0.cell_at 9 rfl
    have x10 := m0.cell_at 10 rfl
    clear m0
    clear hW
    go_wp2_with fail
    refine (KG.out _ hq).mono ?_
    clear x0 x1 x2 x3 x4 x5 x6 x7 x8 x9 x10 hq
    rintro e w1 ⟨rfl, hq⟩
    have hW := hq
    have m0 := HQl.out _ hW
    have x0 := m0.cell_at 0 rfl
    have x1 := m0.cell_at 1 rfl
    have x2 := m0.cell_at 2 rfl
    have x3 := m0.cell_at 3 rfl
    have x4 := m0.cell_at 4 rfl
    have x5 := m0.cell_at 5 rfl
    have x6 := m0.cell_at 6 rfl
    have x7 := m0.cell_at 7 rfl
    have x8 := m0.cell_at 8 rfl
    have x9 := m0.cell_at 9 rfl
    have x10 := m0.cell_at 10 rfl
    clear m0
    clear hW
    go_wp2_with fail
    refine (KR.out _ hq).mono ?_
    clear x0 x1 x2 x3 x4 x5 x6 x7 x8 x9 x10 hq
    rintro e w1 ⟨rfl, hq⟩
    go_wp2_with fail
    refine (wakes6_P HQ.out HQT.out hq).mono ?_
    rintro e w9 ⟨rfl, hq⟩
    go_wp2_with fail
    go_ret
    exact ⟨rfl, HQB.out _ hq⟩
  · have HR : Hid (rightL l = true) := Lib.hid (HR0.out (by trivial))
    clear HR0
    go_enter Tryd.func5, Tryd.ntmps5
    have hW := hq
    have m0 := HQl.out _ hW
    have x0 := m0.cell_at 0 rfl
    have x1 := m0.cell_at 1 rfl
    have x2 := m0.cell_at 2 rfl
    have x3 := m0.cell_at 3 rfl
    have x4 := m0.cell_at 4 rfl
    have x5 := m0.cell_at 5 rfl
    have x6 := m0.cell_at 6 rfl
    have x7 := m0.cell_at 7 rfl
    have x8 := m0.cell_at 8 rfl
    have x9 := m0.cell_at 9 rfl
    have x10 := m0.cell_at 10 rfl
    clear m0
    clear hW
    go_wp2_with fail
    refine (KG.out _ hq).mono ?_
    clear x0 x1 x2 x3 x4 x5 x6 x7 x8 x9 x10 hq
    rintro e w1 ⟨rfl, hq⟩
    have hW := hq
    have m0 := HQl.out _ hW
    have x0 := m0.cell_at 0 rfl
    have x1 := m0.cell_at 1 rfl
    have x2 := m0.cell_at 2 rfl
    have x3 := m0.cell_at 3 rfl
    have x4 := m0.cell_at 4 rfl
    have x5 := m0.cell_at 5 rfl
    have x6 := m0.cell_at 6 rfl
    have x7 := m0.cell_at 7 rfl
    have x8 := m0.cell_at 8 rfl
    have x9 := m0.cell_at 9 rfl
    have x10 := m0.cell_at 10 rfl
    clear m0
    clear hW
    go_wp2_with fail
    refine (KR.out _ hq).mono ?_
    clear x0 x1 x2 x3 x4 x5 x6 x7 x8 x9 x10 hq
    rintro e w1 ⟨rfl, hq⟩
    go_wp2_with fail
    clear KG KR
    go_loopw [3] (fun i wr => ∃ j : Nat, j ≤ l.secs.length ∧ i = .int .i64 j ∧ Q wr) (fun i _ => l.secs.length - (intOf i).toNat)
    case atStart => exact ⟨0, by omega, rfl, hq⟩
    case round =>
      clear hq
      obtain ⟨j, hj, rfl, hq⟩ := hrel
      by_cases hlt : j < l.secs.length
      · have hlt' : (j : Int) < l.secs.length := by omega
        obtain ⟨x, hx⟩ : ∃ x, l.secs[j]? = some x := ⟨_, List.getElem?_eq_getElem hlt⟩
        obtain ⟨o1, o2, HAl, HC, HC0⟩ := sec_cells HQL.out hq hx
        have HX := Lib.hid hx
        clear hx
        have x0 := (HQl.out _ hq).cell_at 0 rfl
        rw [HAl.out] at x0
        have c0 := HC0.out _ hq
        have c1 := HC.out _ hq 1 _ rfl
        have c2 := HC.out _ hq 2 _ rfl
        have c3 := HC.out _ hq 3 _ rfl
        have c4 := HC.out _ hq 4 _ rfl
        have c5 := HC.out _ hq 5 _ rfl
        have c6 := HC.out _ hq 6 _ rfl
        have c7 := HC.out _ hq 7 _ rfl
        have c8 := HC.out _ hq 8 _ rfl
        have c9 := HC.out _ hq 9 _ rfl
        have c10 := HC.out _ hq 10 _ rfl
        obtain ⟨S, HS, HSq, HSx, hS⟩ := keep_box HQ.out hq 39 x.cells
        have HST : Hid (∀ W, S W → Shapes W) := Lib.hid fun W h => HQT.out _ (HSq.out _ h)
        have HSL : Hid (∀ W, S W → Lies l W) := Lib.hid fun W h => HQL.out _ (HSq.out _ h)
        obtain ⟨pk, hpk⟩ : ∃ n, pK x.k = n := ⟨_, rfl⟩
        have KP := Lib.hid (fun W hW => portsR_P (P := S) (w := W) (shapeK x.k) hW)
        rw [hpk] at KP
        have HPK := Lib.hid hpk
        clear hpk
        go_wp2_with fail
        clear x0 c0 c1 c2 c3 c4 c5 c6 c7 c8 c9 c10 hq HC HC0 HAl
        go_loopw [5] (fun i wr => ∃ e : Nat, e ≤ 4 ∧ i = .int .i64 e ∧ S wr) (fun i _ => 4 - (intOf i).toNat)
        case atStart => exact ⟨0, by omega, rfl, hS⟩
        case round =>
          clear hS
          obtain ⟨e, he, rfl, hS⟩ := hrel
          by_cases hel : e < 4
          · have hel' : (e : Int) < 4 := by omega
            obtain ⟨⟨ps, pq⟩, hp⟩ : ∃ p, x.ports4[e]? = some p := ⟨_, List.getElem?_eq_getElem (by show e < 4; exact hel)⟩
            have HJ := Lib.hid (fun W hW => (join_cell (HSx.out W hW) hp).1)
            have HJ1 := Lib.hid (fun W hW => (join_cell (HSx.out W hW) hp).2)
            have hth := join_there HR.out HX.out (List.mem_of_getElem? hp)
            have hte := thereV_dec HX.out (e := (e : Int)) (by omega)
            rw [HPK.out] at hte
            simp only at hth HJ HJ1
            have hat := fun h => atV_at (l := l) HX.out (e := (e : Int)) h
            have hno := fun h => atV_no (l := l) (s := (j : Int)) (p := (e : Int)) h
            obtain ⟨xj, hxj⟩ : ∃ z, atV l ps pq = z := ⟨_, rfl⟩
            clear hp
            by_cases hd : (e : Int) < pk
            · have hd := decide_eq_true hd
              rw [hd] at hte
              have hxe := hat hte
              have KA := Lib.hid (fun W hW => at_P (P := S) (w := W) HS.out HST.out HSL.out (j : Int) (e : Int) hxe hte hW)
              clear hat hno hxe hte
              have hW := hS
              have m0 := HQl.out _ (HSq.out _ hW)
              have x0 := m0.cell_at 0 rfl
              have x1 := m0.cell_at 1 rfl
              have x2 := m0.cell_at 2 rfl
              have x3 := m0.cell_at 3 rfl
              have x4 := m0.cell_at 4 rfl
              have x5 := m0.cell_at 5 rfl
              have x6 := m0.cell_at 6 rfl
              have x7 := m0.cell_at 7 rfl
              have x8 := m0.cell_at 8 rfl
              have x9 := m0.cell_at 9 rfl
              have x10 := m0.cell_at 10 rfl
              clear m0
              clear hW
              go_wp2_with fail
              refine (KA.out _ hS).mono ?_
              clear x0 x1 x2 x3 x4 x5 x6 x7 x8 x9 x10 hS
              rintro e1 w1 ⟨rfl, hS⟩
              have hb := below1 w1 (.cells x.cells.toArray 39)
              have m := Whole.new w1 39 x.cells
              have hS := HS.out _ _ hS hb
              have z0 := m.cell_at 0 rfl
              have z1 := m.cell_at 1 rfl
              have z2 := m.cell_at 2 rfl
              have z3 := m.cell_at 3 rfl
              have z4 := m.cell_at 4 rfl
              have z5 := m.cell_at 5 rfl
              have z6 := m.cell_at 6 rfl
              have z7 := m.cell_at 7 rfl
              have z8 := m.cell_at 8 rfl
              have z9 := m.cell_at 9 rfl
              have z10 := m.cell_at 10 rfl
              clear m hb
              have m := HSx.out _ hS
              have y0 := m.cell_at 0 rfl
              have y1 := m.cell_at 1 rfl
              have y2 := m.cell_at 2 rfl
              have y3 := m.cell_at 3 rfl
              have y4 := m.cell_at 4 rfl
              have y5 := m.cell_at 5 rfl
              have y6 := m.cell_at 6 rfl
              have y7 := m.cell_at 7 rfl
              have y8 := m.cell_at 8 rfl
              have y9 := m.cell_at 9 rfl
              have y10 := m.cell_at 10 rfl
              clear m
              have hneq := fun W => neq_sec_self W x
              obtain ⟨U, HU, HUs, HUx, hU⟩ : ∃ U : World → Prop, Hid (Closed U) ∧ Hid (∀ W, U W → S W) ∧ Hid (∀ W, U W → Whole W w1.heap.size 39 x.cells) ∧ U (w1.alloc (.cells x.cells.toArray 39)) := ⟨fun W => S W ∧ Whole W w1.heap.size 39 x.cells, Lib.hid (HS.out.and (Closed.whole _ _ _)), Lib.hid fun _ h => h.1, Lib.hid fun _ h => h.2, hS, Whole.new w1 _ _⟩
              have KP2 := Lib.hid (fun W hW => portsR_P (P := U) (w := W) (shapeK x.k) hW)
              rw [HPK.out] at KP2
              go_wp2_with fail
              refine (KP2.out _ hU).mono ?_
              clear y0 y1 y2 y3 y4 y5 y6 y7 y8 y9 y10 z0 z1 z2 z3 z4 z5 z6 z7 z8 z9 z10 hS hU hneq
              rintro e1 w2 ⟨rfl, hU⟩
              have m := HUx.out _ hU
              have z0 := m.cell_at 0 rfl
              have z1 := m.cell_at 1 rfl
              have z2 := m.cell_at 2 rfl
              have z3 := m.cell_at 3 rfl
              have z4 := m.cell_at 4 rfl
              have z5 := m.cell_at 5 rfl
              have z6 := m.cell_at 6 rfl
              have z7 := m.cell_at 7 rfl
              have z8 := m.cell_at 8 rfl
              have z9 := m.cell_at 9 rfl
              have z10 := m.cell_at 10 rfl
              clear m
              have hS := HUs.out _ hU
              have m := HSx.out _ hS
              have y0 := m.cell_at 0 rfl
              have y1 := m.cell_at 1 rfl
              have y2 := m.cell_at 2 rfl
              have y3 := m.cell_at 3 rfl
              have y4 := m.cell_at 4 rfl
              have y5 := m.cell_at 5 rfl
              have y6 := m.cell_at 6 rfl
              have y7 := m.cell_at 7 rfl
              have y8 := m.cell_at 8 rfl
              have y9 := m.cell_at 9 rfl
              have y10 := m.cell_at 10 rfl
              clear m
              have hneq := fun W => neq_sec_self W x
              go_wp2_with fail
              clear y0 y1 y2 y3 y4 y5 y6 y7 y8 y9 y10 z0 z1 z2 z3 z4 z5 z6 z7 z8 z9 z10 hneq hU
              by_cases hd2 : 0 ≤ ps
              · have hd2 := decide_eq_true hd2
                rw [hd2] at hth
                have KX := Lib.hid (And.intro hxj hth)
                clear hxj hth
                have HBS : Hid (∀ W, Below w2.heap.size w2 W → S W) := Lib.hid (fun W hB => HS.out _ _ hS hB)
                clear hS
                refine region_mix (Below w2.heap.size w2) [(0, false), (1, false), (2, false), (3, false), (4, false), (5, false), (6, false), (7, false), (8, false), (9, true), (10, true), (11, false)] (by kernel_rfl) (by kernel_rfl) (Below w2.heap.size w2) ⟨Closed.below w2, fun _ h => h⟩ (Below.refl _ _).drew ?_
                simp only [pickOps, List.getElem?_cons_zero, List.getElem?_cons_succ]
                repeat (first | (refine mix_skip (by rfl) ?_; simp only [Act.put, List.setIfInBounds_toArray, List.set_cons_zero, List.set_cons_succ]) | (refine mix_read _ (by rfl) (fun W hW => by (have hW := HBS.out W hW; have m0 := HQl.out _ (HSq.out _ hW); have x0 := m0.cell_at 0 rfl; have x1 := m0.cell_at 1 rfl; have x2 := m0.cell_at 2 rfl; have x3 := m0.cell_at 3 rfl; have x4 := m0.cell_at 4 rfl; have x5 := m0.cell_at 5 rfl; have x6 := m0.cell_at 6 rfl; have x7 := m0.cell_at 7 rfl; have x8 := m0.cell_at 8 rfl; have x9 := m0.cell_at 9 rfl; have x10 := m0.cell_at 10 rfl; clear m0; have c0 := HJ.out _ hW; have c1 := HJ1.out _ hW; go_simp; first | done | with_reducible rfl)) ?_; simp only [Act.put, List.setIfInBounds_toArray, List.set_cons_zero, List.set_cons_succ]) | (refine mix_call _ _ _ (by rfl) (fun W hW => by (have hW := HBS.out W hW; have m0 := HQl.out _ (HSq.out _ hW); have x0 := m0.cell_at 0 rfl; have x1 := m0.cell_at 1 rfl; have x2 := m0.cell_at 2 rfl; have x3 := m0.cell_at 3 rfl; have x4 := m0.cell_at 4 rfl; have x5 := m0.cell_at 5 rfl; have x6 := m0.cell_at 6 rfl; have x7 := m0.cell_at 7 rfl; have x8 := m0.cell_at 8 rfl; have x9 := m0.cell_at 9 rfl; have x10 := m0.cell_at 10 rfl; clear m0; have c0 := HJ.out _ hW; have c1 := HJ1.out _ hW; go_simp; first | done | rfl)) (fun W hW => at_B (HST.out _ (HBS.out W hW)) (HSL.out _ (HBS.out W hW)) ps pq KX.out.1 KX.out.2) ?_; simp only [Act.put, List.setIfInBounds_toArray, List.set_cons_zero, List.set_cons_succ]))
                refine mix_alloc w2.heap.size 39 [.int .u8 0, .int .i64 0, .int .i64 0, .int .i64 0, .int .i64 0, .int .i64 0, .int .i64 0, .int .i64 0, .int .i64 0, .int .i64 0, .int .i64 0] ⟨Closed.below w2, fun _ h => h⟩ (fun _ h => h.size) (by rfl) (fun W hW => by (go_simp; first | done | with_reducible rfl)) (fun g hg => ?_)
                simp only [Act.put, List.setIfInBounds_toArray, List.set_cons_zero, List.set_cons_succ]
                refine mix_fill 39 (.tmp 8) (.tmp 73) g w2.heap.size w2 [.int .u8 0, .int .i64 0, .int .i64 0, .int .i64 0, .int .i64 0, .int .i64 0, .int .i64 0, .int .i64 0, .int .i64 0, .int .i64 0, .int .i64 0] xj.cells hg (fun _ h => h) (Nat.le_refl _) (fun _ h => h) rfl (by rfl) (by rfl) (by kernel_rfl) rfl (by kernel_rfl) (by rfl) ?_
                simp only [Act.put, List.setIfInBounds_toArray, List.set_cons_zero, List.set_cons_succ]
                repeat (first | (refine mix_skip (by rfl) ?_; simp only [Act.put, List.setIfInBounds_toArray, List.set_cons_zero, List.set_cons_succ]) | (refine mix_read _ (by rfl) (fun W hW => by (have hW := HBS.out W hW; have m0 := HQl.out _ (HSq.out _ hW); have x0 := m0.cell_at 0 rfl; have x1 := m0.cell_at 1 rfl; have x2 := m0.cell_at 2 rfl; have x3 := m0.cell_at 3 rfl; have x4 := m0.cell_at 4 rfl; have x5 := m0.cell_at 5 rfl; have x6 := m0.cell_at 6 rfl; have x7 := m0.cell_at 7 rfl; have x8 := m0.cell_at 8 rfl; have x9 := m0.cell_at 9 rfl; have x10 := m0.cell_at 10 rfl; clear m0; have c0 := HJ.out _ hW; have c1 := HJ1.out _ hW; go_simp; first | done | with_reducible rfl)) ?_; simp only [Act.put, List.setIfInBounds_toArray, List.set_cons_zero, List.set_cons_succ]) | (refine mix_call _ _ _ (by rfl) (fun W hW => by (have hW := HBS.out W hW; have m0 := HQl.out _ (HSq.out _ hW); have x0 := m0.cell_at 0 rfl; have x1 := m0.cell_at 1 rfl; have x2 := m0.cell_at 2 rfl; have x3 := m0.cell_at 3 rfl; have x4 := m0.cell_at 4 rfl; have x5 := m0.cell_at 5 rfl; have x6 := m0.cell_at 6 rfl; have x7 := m0.cell_at 7 rfl; have x8 := m0.cell_at 8 rfl; have x9 := m0.cell_at 9 rfl; have x10 := m0.cell_at 10 rfl; clear m0; have c0 := HJ.out _ hW; have c1 := HJ1.out _ hW; go_simp; first | done | rfl)) (fun W hW => at_B (HST.out _ (HBS.out W hW)) (HSL.out _ (HBS.out W hW)) ps pq KX.out.1 KX.out.2) ?_; simp only [Act.put, List.setIfInBounds_toArray, List.set_cons_zero, List.set_cons_succ]))
                refine mix_nil (fun W hW => ?_)
                have hq := HBS.out W hW.1
                clear hW HBS
                have c0 := HJ.out _ hq
                go_wp2_with fail
                go_roundw
                case rel => exact ⟨e + 1, hel, by go_num, hq⟩
                case measure => simp [intOf]; omega
              · have hd2 := decide_eq_false hd2
                rw [hd2] at hth
                have KX := Lib.hid (And.intro hxj hth)
                clear hxj hth
                have HBS : Hid (∀ W, Below w2.heap.size w2 W → S W) := Lib.hid (fun W hB => HS.out _ _ hS hB)
                clear hS
                refine region_mix (Below w2.heap.size w2) [(0, false), (1, false), (2, false), (3, false), (4, false), (5, false), (6, false), (7, false), (8, false), (9, true), (10, true), (11, false)] (by kernel_rfl) (by kernel_rfl) (Below w2.heap.size w2) ⟨Closed.below w2, fun _ h => h⟩ (Below.refl _ _).drew ?_
                simp only [pickOps, List.getElem?_cons_zero, List.getElem?_cons_succ]
                repeat (first | (refine mix_skip (by rfl) ?_; simp only [Act.put, List.setIfInBounds_toArray, List.set_cons_zero, List.set_cons_succ]) | (refine mix_read _ (by rfl) (fun W hW => by (have hW := HBS.out W hW; have m0 := HQl.out _ (HSq.out _ hW); have x0 := m0.cell_at 0 rfl; have x1 := m0.cell_at 1 rfl; have x2 := m0.cell_at 2 rfl; have x3 := m0.cell_at 3 rfl; have x4 := m0.cell_at 4 rfl; have x5 := m0.cell_at 5 rfl; have x6 := m0.cell_at 6 rfl; have x7 := m0.cell_at 7 rfl; have x8 := m0.cell_at 8 rfl; have x9 := m0.cell_at 9 rfl; have x10 := m0.cell_at 10 rfl; clear m0; have c0 := HJ.out _ hW; have c1 := HJ1.out _ hW; go_simp; first | done | with_reducible rfl)) ?_; simp only [Act.put, List.setIfInBounds_toArray, List.set_cons_zero, List.set_cons_succ]) | (refine mix_call _ _ _ (by rfl) (fun W hW => by (have hW := HBS.out W hW; have m0 := HQl.out _ (HSq.out _ hW); have x0 := m0.cell_at 0 rfl; have x1 := m0.cell_at 1 rfl; have x2 := m0.cell_at 2 rfl; have x3 := m0.cell_at 3 rfl; have x4 := m0.cell_at 4 rfl; have x5 := m0.cell_at 5 rfl; have x6 := m0.cell_at 6 rfl; have x7 := m0.cell_at 7 rfl; have x8 := m0.cell_at 8 rfl; have x9 := m0.cell_at 9 rfl; have x10 := m0.cell_at 10 rfl; clear m0; have c0 := HJ.out _ hW; have c1 := HJ1.out _ hW; go_simp; first | done | rfl)) (fun W hW => at_B (HST.out _ (HBS.out W hW)) (HSL.out _ (HBS.out W hW)) ps pq KX.out.1 KX.out.2) ?_; simp only [Act.put, List.setIfInBounds_toArray, List.set_cons_zero, List.set_cons_succ]))
                refine mix_alloc w2.heap.size 39 [.int .u8 0, .int .i64 0, .int .i64 0, .int .i64 0, .int .i64 0, .int .i64 0, .int .i64 0, .int .i64 0, .int .i64 0, .int .i64 0, .int .i64 0] ⟨Closed.below w2, fun _ h => h⟩ (fun _ h => h.size) (by rfl) (fun W hW => by (go_simp; first | done | with_reducible rfl)) (fun g hg => ?_)
                simp only [Act.put, List.setIfInBounds_toArray, List.set_cons_zero, List.set_cons_succ]
                refine mix_fill 39 (.tmp 8) (.tmp 73) g w2.heap.size w2 [.int .u8 0, .int .i64 0, .int .i64 0, .int .i64 0, .int .i64 0, .int .i64 0, .int .i64 0, .int .i64 0, .int .i64 0, .int .i64 0, .int .i64 0] xj.cells hg (fun _ h => h) (Nat.le_refl _) (fun _ h => h) rfl (by rfl) (by rfl) (by kernel_rfl) rfl (by kernel_rfl) (by rfl) ?_
                simp only [Act.put, List.setIfInBounds_toArray, List.set_cons_zero, List.set_cons_succ]
                repeat (first | (refine mix_skip (by rfl) ?_; simp only [Act.put, List.setIfInBounds_toArray, List.set_cons_zero, List.set_cons_succ]) | (refine mix_read _ (by rfl) (fun W hW => by (have hW := HBS.out W hW; have m0 := HQl.out _ (HSq.out _ hW); have x0 := m0.cell_at 0 rfl; have x1 := m0.cell_at 1 rfl; have x2 := m0.cell_at 2 rfl; have x3 := m0.cell_at 3 rfl; have x4 := m0.cell_at 4 rfl; have x5 := m0.cell_at 5 rfl; have x6 := m0.cell_at 6 rfl; have x7 := m0.cell_at 7 rfl; have x8 := m0.cell_at 8 rfl; have x9 := m0.cell_at 9 rfl; have x10 := m0.cell_at 10 rfl; clear m0; have c0 := HJ.out _ hW; have c1 := HJ1.out _ hW; go_simp; first | done | with_reducible rfl)) ?_; simp only [Act.put, List.setIfInBounds_toArray, List.set_cons_zero, List.set_cons_succ]) | (refine mix_call _ _ _ (by rfl) (fun W hW => by (have hW := HBS.out W hW; have m0 := HQl.out _ (HSq.out _ hW); have x0 := m0.cell_at 0 rfl; have x1 := m0.cell_at 1 rfl; have x2 := m0.cell_at 2 rfl; have x3 := m0.cell_at 3 rfl; have x4 := m0.cell_at 4 rfl; have x5 := m0.cell_at 5 rfl; have x6 := m0.cell_at 6 rfl; have x7 := m0.cell_at 7 rfl; have x8 := m0.cell_at 8 rfl; have x9 := m0.cell_at 9 rfl; have x10 := m0.cell_at 10 rfl; clear m0; have c0 := HJ.out _ hW; have c1 := HJ1.out _ hW; go_simp; first | done | rfl)) (fun W hW => at_B (HST.out _ (HBS.out W hW)) (HSL.out _ (HBS.out W hW)) ps pq KX.out.1 KX.out.2) ?_; simp only [Act.put, List.setIfInBounds_toArray, List.set_cons_zero, List.set_cons_succ]))
                refine mix_nil (fun W hW => ?_)
                have hq := HBS.out W hW.1
                clear hW HBS
                have c0 := HJ.out _ hq
                go_wp2_with fail
                go_roundw
                case rel => exact ⟨e + 1, hel, by go_num, hq⟩
                case measure => simp [intOf]; omega
            · have hd := decide_eq_false hd
              rw [hd] at hte
              have hxe := hno hte
              have KA := Lib.hid (fun W hW => at_P (P := S) (w := W) HS.out HST.out HSL.out (j : Int) (e : Int) hxe hte hW)
              clear hat hno hxe hte
              have hW := hS
              have m0 := HQl.out _ (HSq.out _ hW)
              have x0 := m0.cell_at 0 rfl
              have x1 := m0.cell_at 1 rfl
              have x2 := m0.cell_at 2 rfl
              have x3 := m0.cell_at 3 rfl
              have x4 := m0.cell_at 4 rfl
              have x5 := m0.cell_at 5 rfl
              have x6 := m0.cell_at 6 rfl
              have x7 := m0.cell_at 7 rfl
              have x8 := m0.cell_at 8 rfl
              have x9 := m0.cell_at 9 rfl
              have x10 := m0.cell_at 10 rfl
              clear m0
              clear hW
              go_wp2_with fail
              refine (KA.out _ hS).mono ?_
              clear x0 x1 x2 x3 x4 x5 x6 x7 x8 x9 x10 hS
              rintro e1 w1 ⟨rfl, hS⟩
              have hz : Sec.zero.val = .agg #[.int .u8 0, .int .i64 0, .int .i64 0, .int .i64 0, .int .i64 0, .int .i64 0, .int .i64 0, .int .i64 0, .int .i64 0, .int .i64 0, .int .i64 0] := rfl
              rw [hz]
              clear hz
              have hS := HS.out _ _ hS (below1 w1 (.cells #[.int .u8 0, .int .i64 0, .int .i64 0, .int .i64 0, .int .i64 0, .int .i64 0, .int .i64 0, .int .i64 0, .int .i64 0, .int .i64 0, .int .i64 0] 39))
              have m := HSx.out _ hS
              have y0 := m.cell_at 0 rfl
              have y1 := m.cell_at 1 rfl
              have y2 := m.cell_at 2 rfl
              have y3 := m.cell_at 3 rfl
              have y4 := m.cell_at 4 rfl
              have y5 := m.cell_at 5 rfl
              have y6 := m.cell_at 6 rfl
              have y7 := m.cell_at 7 rfl
              have y8 := m.cell_at 8 rfl
              have y9 := m.cell_at 9 rfl
              have y10 := m.cell_at 10 rfl
              clear m
              go_wp2_with fail
              refine (KP.out _ hS).mono ?_
              clear y0 y1 y2 y3 y4 y5 y6 y7 y8 y9 y10 hS
              rintro e1 w2 ⟨rfl, hS⟩
              go_wp2_with fail
              by_cases hd2 : 0 ≤ ps
              · have hd2 := decide_eq_true hd2
                rw [hd2] at hth
                have KX := Lib.hid (And.intro hxj hth)
                clear hxj hth
                have HBS : Hid (∀ W, Below w2.heap.size w2 W → S W) := Lib.hid (fun W hB => HS.out _ _ hS hB)
                clear hS
                refine region_mix (Below w2.heap.size w2) [(0, false), (1, false), (2, false), (3, false), (4, false), (5, false), (6, false), (7, false), (8, false), (9, true), (10, true), (11, false)] (by kernel_rfl) (by kernel_rfl) (Below w2.heap.size w2) ⟨Closed.below w2, fun _ h => h⟩ (Below.refl _ _).drew ?_
                simp only [pickOps, List.getElem?_cons_zero, List.getElem?_cons_succ]
                repeat (first | (refine mix_skip (by rfl) ?_; simp only [Act.put, List.setIfInBounds_toArray, List.set_cons_zero, List.set_cons_succ]) | (refine mix_read _ (by rfl) (fun W hW => by (have hW := HBS.out W hW; have m0 := HQl.out _ (HSq.out _ hW); have x0 := m0.cell_at 0 rfl; have x1 := m0.cell_at 1 rfl; have x2 := m0.cell_at 2 rfl; have x3 := m0.cell_at 3 rfl; have x4 := m0.cell_at 4 rfl; have x5 := m0.cell_at 5 rfl; have x6 := m0.cell_at 6 rfl; have x7 := m0.cell_at 7 rfl; have x8 := m0.cell_at 8 rfl; have x9 := m0.cell_at 9 rfl; have x10 := m0.cell_at 10 rfl; clear m0; have c0 := HJ.out _ hW; have c1 := HJ1.out _ hW; go_simp; first | done | with_reducible rfl)) ?_; simp only [Act.put, List.setIfInBounds_toArray, List.set_cons_zero, List.set_cons_succ]) | (refine mix_call _ _ _ (by rfl) (fun W hW => by (have hW := HBS.out W hW; have m0 := HQl.out _ (HSq.out _ hW); have x0 := m0.cell_at 0 rfl; have x1 := m0.cell_at 1 rfl; have x2 := m0.cell_at 2 rfl; have x3 := m0.cell_at 3 rfl; have x4 := m0.cell_at 4 rfl; have x5 := m0.cell_at 5 rfl; have x6 := m0.cell_at 6 rfl; have x7 := m0.cell_at 7 rfl; have x8 := m0.cell_at 8 rfl; have x9 := m0.cell_at 9 rfl; have x10 := m0.cell_at 10 rfl; clear m0; have c0 := HJ.out _ hW; have c1 := HJ1.out _ hW; go_simp; first | done | rfl)) (fun W hW => at_B (HST.out _ (HBS.out W hW)) (HSL.out _ (HBS.out W hW)) ps pq KX.out.1 KX.out.2) ?_; simp only [Act.put, List.setIfInBounds_toArray, List.set_cons_zero, List.set_cons_succ]))
                refine mix_alloc w2.heap.size 39 [.int .u8 0, .int .i64 0, .int .i64 0, .int .i64 0, .int .i64 0, .int .i64 0, .int .i64 0, .int .i64 0, .int .i64 0, .int .i64 0, .int .i64 0] ⟨Closed.below w2, fun _ h => h⟩ (fun _ h => h.size) (by rfl) (fun W hW => by (go_simp; first | done | with_reducible rfl)) (fun g hg => ?_)
                simp only [Act.put, List.setIfInBounds_toArray, List.set_cons_zero, List.set_cons_succ]
                refine mix_fill 39 (.tmp 8) (.tmp 73) g w2.heap.size w2 [.int .u8 0, .int .i64 0, .int .i64 0, .int .i64 0, .int .i64 0, .int .i64 0, .int .i64 0, .int .i64 0, .int .i64 0, .int .i64 0, .int .i64 0] xj.cells hg (fun _ h => h) (Nat.le_refl _) (fun _ h => h) rfl (by rfl) (by rfl) (by kernel_rfl) rfl (by kernel_rfl) (by rfl) ?_
                simp only [Act.put, List.setIfInBounds_toArray, List.set_cons_zero, List.set_cons_succ]
                repeat (first | (refine mix_skip (by rfl) ?_; simp only [Act.put, List.setIfInBounds_toArray, List.set_cons_zero, List.set_cons_succ]) | (refine mix_read _ (by rfl) (fun W hW => by (have hW := HBS.out W hW; have m0 := HQl.out _ (HSq.out _ hW); have x0 := m0.cell_at 0 rfl; have x1 := m0.cell_at 1 rfl; have x2 := m0.cell_at 2 rfl; have x3 := m0.cell_at 3 rfl; have x4 := m0.cell_at 4 rfl; have x5 := m0.cell_at 5 rfl; have x6 := m0.cell_at 6 rfl; have x7 := m0.cell_at 7 rfl; have x8 := m0.cell_at 8 rfl; have x9 := m0.cell_at 9 rfl; have x10 := m0.cell_at 10 rfl; clear m0; have c0 := HJ.out _ hW; have c1 := HJ1.out _ hW; go_simp; first | done | with_reducible rfl)) ?_; simp only [Act.put, List.setIfInBounds_toArray, List.set_cons_zero, List.set_cons_succ]) | (refine mix_call _ _ _ (by rfl) (fun W hW => by (have hW := HBS.out W hW; have m0 := HQl.out _ (HSq.out _ hW); have x0 := m0.cell_at 0 rfl; have x1 := m0.cell_at 1 rfl; have x2 := m0.cell_at 2 rfl; have x3 := m0.cell_at 3 rfl; have x4 := m0.cell_at 4 rfl; have x5 := m0.cell_at 5 rfl; have x6 := m0.cell_at 6 rfl; have x7 := m0.cell_at 7 rfl; have x8 := m0.cell_at 8 rfl; have x9 := m0.cell_at 9 rfl; have x10 := m0.cell_at 10 rfl; clear m0; have c0 := HJ.out _ hW; have c1 := HJ1.out _ hW; go_simp; first | done | rfl)) (fun W hW => at_B (HST.out _ (HBS.out W hW)) (HSL.out _ (HBS.out W hW)) ps pq KX.out.1 KX.out.2) ?_; simp only [Act.put, List.setIfInBounds_toArray, List.set_cons_zero, List.set_cons_succ]))
                refine mix_nil (fun W hW => ?_)
                have hq := HBS.out W hW.1
                clear hW HBS
                have c0 := HJ.out _ hq
                go_wp2_with fail
                go_roundw
                case rel => exact ⟨e + 1, hel, by go_num, hq⟩
                case measure => simp [intOf]; omega
              · have hd2 := decide_eq_false hd2
                rw [hd2] at hth
                have KX := Lib.hid (And.intro hxj hth)
                clear hxj hth
                have HBS : Hid (∀ W, Below w2.heap.size w2 W → S W) := Lib.hid (fun W hB => HS.out _ _ hS hB)
                clear hS
                refine region_mix (Below w2.heap.size w2) [(0, false), (1, false), (2, false), (3, false), (4, false), (5, false), (6, false), (7, false), (8, false), (9, true), (10, true), (11, false)] (by kernel_rfl) (by kernel_rfl) (Below w2.heap.size w2) ⟨Closed.below w2, fun _ h => h⟩ (Below.refl _ _).drew ?_
                simp only [pickOps, List.getElem?_cons_zero, List.getElem?_cons_succ]
                repeat (first | (refine mix_skip (by rfl) ?_; simp only [Act.put, List.setIfInBounds_toArray, List.set_cons_zero, List.set_cons_succ]) | (refine mix_read _ (by rfl) (fun W hW => by (have hW := HBS.out W hW; have m0 := HQl.out _ (HSq.out _ hW); have x0 := m0.cell_at 0 rfl; have x1 := m0.cell_at 1 rfl; have x2 := m0.cell_at 2 rfl; have x3 := m0.cell_at 3 rfl; have x4 := m0.cell_at 4 rfl; have x5 := m0.cell_at 5 rfl; have x6 := m0.cell_at 6 rfl; have x7 := m0.cell_at 7 rfl; have x8 := m0.cell_at 8 rfl; have x9 := m0.cell_at 9 rfl; have x10 := m0.cell_at 10 rfl; clear m0; have c0 := HJ.out _ hW; have c1 := HJ1.out _ hW; go_simp; first | done | with_reducible rfl)) ?_; simp only [Act.put, List.setIfInBounds_toArray, List.set_cons_zero, List.set_cons_succ]) | (refine mix_call _ _ _ (by rfl) (fun W hW => by (have hW := HBS.out W hW; have m0 := HQl.out _ (HSq.out _ hW); have x0 := m0.cell_at 0 rfl; have x1 := m0.cell_at 1 rfl; have x2 := m0.cell_at 2 rfl; have x3 := m0.cell_at 3 rfl; have x4 := m0.cell_at 4 rfl; have x5 := m0.cell_at 5 rfl; have x6 := m0.cell_at 6 rfl; have x7 := m0.cell_at 7 rfl; have x8 := m0.cell_at 8 rfl; have x9 := m0.cell_at 9 rfl; have x10 := m0.cell_at 10 rfl; clear m0; have c0 := HJ.out _ hW; have c1 := HJ1.out _ hW; go_simp; first | done | rfl)) (fun W hW => at_B (HST.out _ (HBS.out W hW)) (HSL.out _ (HBS.out W hW)) ps pq KX.out.1 KX.out.2) ?_; simp only [Act.put, List.setIfInBounds_toArray, List.set_cons_zero, List.set_cons_succ]))
                refine mix_alloc w2.heap.size 39 [.int .u8 0, .int .i64 0, .int .i64 0, .int .i64 0, .int .i64 0, .int .i64 0, .int .i64 0, .int .i64 0, .int .i64 0, .int .i64 0, .int .i64 0] ⟨Closed.below w2, fun _ h => h⟩ (fun _ h => h.size) (by rfl) (fun W hW => by (go_simp; first | done | with_reducible rfl)) (fun g hg => ?_)
                simp only [Act.put, List.setIfInBounds_toArray, List.set_cons_zero, List.set_cons_succ]
                refine mix_fill 39 (.tmp 8) (.tmp 73) g w2.heap.size w2 [.int .u8 0, .int .i64 0, .int .i64 0, .int .i64 0, .int .i64 0, .int .i64 0, .int .i64 0, .int .i64 0, .int .i64 0, .int .i64 0, .int .i64 0] xj.cells hg (fun _ h => h) (Nat.le_refl _) (fun _ h => h) rfl (by rfl) (by rfl) (by kernel_rfl) rfl (by kernel_rfl) (by rfl) ?_
                simp only [Act.put, List.setIfInBounds_toArray, List.set_cons_zero, List.set_cons_succ]
                repeat (first | (refine mix_skip (by rfl) ?_; simp only [Act.put, List.setIfInBounds_toArray, List.set_cons_zero, List.set_cons_succ]) | (refine mix_read _ (by rfl) (fun W hW => by (have hW := HBS.out W hW; have m0 := HQl.out _ (HSq.out _ hW); have x0 := m0.cell_at 0 rfl; have x1 := m0.cell_at 1 rfl; have x2 := m0.cell_at 2 rfl; have x3 := m0.cell_at 3 rfl; have x4 := m0.cell_at 4 rfl; have x5 := m0.cell_at 5 rfl; have x6 := m0.cell_at 6 rfl; have x7 := m0.cell_at 7 rfl; have x8 := m0.cell_at 8 rfl; have x9 := m0.cell_at 9 rfl; have x10 := m0.cell_at 10 rfl; clear m0; have c0 := HJ.out _ hW; have c1 := HJ1.out _ hW; go_simp; first | done | with_reducible rfl)) ?_; simp only [Act.put, List.setIfInBounds_toArray, List.set_cons_zero, List.set_cons_succ]) | (refine mix_call _ _ _ (by rfl) (fun W hW => by (have hW := HBS.out W hW; have m0 := HQl.out _ (HSq.out _ hW); have x0 := m0.cell_at 0 rfl; have x1 := m0.cell_at 1 rfl; have x2 := m0.cell_at 2 rfl; have x3 := m0.cell_at 3 rfl; have x4 := m0.cell_at 4 rfl; have x5 := m0.cell_at 5 rfl; have x6 := m0.cell_at 6 rfl; have x7 := m0.cell_at 7 rfl; have x8 := m0.cell_at 8 rfl; have x9 := m0.cell_at 9 rfl; have x10 := m0.cell_at 10 rfl; clear m0; have c0 := HJ.out _ hW; have c1 := HJ1.out _ hW; go_simp; first | done | rfl)) (fun W hW => at_B (HST.out _ (HBS.out W hW)) (HSL.out _ (HBS.out W hW)) ps pq KX.out.1 KX.out.2) ?_; simp only [Act.put, List.setIfInBounds_toArray, List.set_cons_zero, List.set_cons_succ]))
                refine mix_nil (fun W hW => ?_)
                have hq := HBS.out W hW.1
                clear hW HBS
                have c0 := HJ.out _ hq
                go_wp2_with fail
                go_roundw
                case rel => exact ⟨e + 1, hel, by go_num, hq⟩
                case measure => simp [intOf]; omega
          · obtain rfl : e = 4 := by omega
            go_wp2_with fail
            go_roundw
            case rel => exact ⟨j + 1, hlt, by go_num, HSq.out _ hS⟩
            case measure => simp [intOf]; omega
      · obtain rfl : j = l.secs.length := by omega
        clear hj hlt
        have x0 := (HQl.out _ hq).cell_at 0 rfl
        go_wp2_with fail
        clear x0
        go_loopw [10] (fun i wr => ∃ j : Nat, j ≤ l.sigs.length ∧ i = .int .i64 j ∧ Q wr) (fun i _ => l.sigs.length - (intOf i).toNat)
        case atStart => exact ⟨0, by omega, rfl, hq⟩
        case round =>
          clear hq
          obtain ⟨j, hj, rfl, hq⟩ := hrel
          by_cases hlt : j < l.sigs.length
          · have hlt' : (j : Int) < l.sigs.length := by omega
            obtain ⟨⟨ps, pq⟩, hx⟩ : ∃ x, l.sigs[j]? = some x := ⟨_, List.getElem?_eq_getElem hlt⟩
            obtain ⟨o1, o2, HAl, HC0, HC1⟩ := sig_cells HQL.out hq hx
            have hth : thereV l ps pq = true := (right_facts HR.out).2.1 (ps, pq) (List.mem_append_right _ (List.mem_append_left _ (List.mem_of_getElem? hx)))
            simp only at HC0 HC1
            clear hx
            obtain ⟨xj, hxj⟩ : ∃ z, atV l ps pq = z := ⟨_, rfl⟩
            have KX := fun W (hW : Q W) => at_B (HQT.out W hW) (HQL.out W hW) ps pq hxj hth
            have KS : Hid (∀ W, Q W → Calls Tryd.prog 10 #[.agg #[.slice l.As l.secs.length l.cs, .slice (some ⟨o1, o2, none⟩) l.sigs.length l.cg, .slice l.Ae l.exits.length l.ce, .slice l.Af l.flanks.length l.cf, .int .i64 l.t0, .int .i64 l.t1, .int .i64 l.t2, .int .i64 l.t3, .int .i64 l.t4, .int .i64 l.t5, .int .i64 l.t6], .agg #[.int .i64 ps, .int .i64 pq]] W fun e w' => e = .returned (.tuple #[xj.val, .bool true]) ∧ Below W.heap.size W w') := Lib.hid (by rw [← HAl.out]; exact KX)
            clear hxj hth KX
            have x1 := (HQl.out _ hq).cell_at 1 rfl
            go_wp2_with fail
            clear x1
            have HBS : Hid (∀ W, Below wr.heap.size wr W → Q W) := Lib.hid (fun W hB => HQ.out _ _ hq hB)
            clear hq
            refine region_mix (Below wr.heap.size wr) [(0, false), (1, false), (2, false), (3, false), (4, false), (5, false), (6, false), (7, false), (8, false), (9, false), (10, false), (11, true), (12, true), (13, false)] (by kernel_rfl) (by kernel_rfl) (Below wr.heap.size wr) ⟨Closed.below wr, fun _ h => h⟩ (Below.refl _ _).drew ?_
            simp only [pickOps, List.getElem?_cons_zero, List.getElem?_cons_succ]
            repeat (first | (refine mix_skip (by rfl) ?_; simp only [Act.put, List.setIfInBounds_toArray, List.set_cons_zero, List.set_cons_succ]) | (refine mix_read _ (by rfl) (fun W hW => by (have hW := HBS.out W hW; have m0 := HQl.out _ hW; have x0 := m0.cell_at 0 rfl; have x1 := m0.cell_at 1 rfl; have x2 := m0.cell_at 2 rfl; have x3 := m0.cell_at 3 rfl; have x4 := m0.cell_at 4 rfl; have x5 := m0.cell_at 5 rfl; have x6 := m0.cell_at 6 rfl; have x7 := m0.cell_at 7 rfl; have x8 := m0.cell_at 8 rfl; have x9 := m0.cell_at 9 rfl; have x10 := m0.cell_at 10 rfl; clear m0; rw [HAl.out] at x1; have c0 := HC0.out _ hW; have c1 := HC1.out _ hW; go_simp; first | done | with_reducible rfl)) ?_; simp only [Act.put, List.setIfInBounds_toArray, List.set_cons_zero, List.set_cons_succ]) | (refine mix_call _ _ _ (by rfl) (fun W hW => by (have hW := HBS.out W hW; have m0 := HQl.out _ hW; have x0 := m0.cell_at 0 rfl; have x1 := m0.cell_at 1 rfl; have x2 := m0.cell_at 2 rfl; have x3 := m0.cell_at 3 rfl; have x4 := m0.cell_at 4 rfl; have x5 := m0.cell_at 5 rfl; have x6 := m0.cell_at 6 rfl; have x7 := m0.cell_at 7 rfl; have x8 := m0.cell_at 8 rfl; have x9 := m0.cell_at 9 rfl; have x10 := m0.cell_at 10 rfl; clear m0; rw [HAl.out] at x1; have c0 := HC0.out _ hW; have c1 := HC1.out _ hW; go_simp; first | done | rfl)) (fun W hW => KS.out W (HBS.out W hW)) ?_; simp only [Act.put, List.setIfInBounds_toArray, List.set_cons_zero, List.set_cons_succ]))
            refine mix_alloc wr.heap.size 39 [.int .u8 0, .int .i64 0, .int .i64 0, .int .i64 0, .int .i64 0, .int .i64 0, .int .i64 0, .int .i64 0, .int .i64 0, .int .i64 0, .int .i64 0] ⟨Closed.below wr, fun _ h => h⟩ (fun _ h => h.size) (by rfl) (fun W hW => by (go_simp; first | done | with_reducible rfl)) (fun g hg => ?_)
            simp only [Act.put, List.setIfInBounds_toArray, List.set_cons_zero, List.set_cons_succ]
            refine mix_fill 39 (.tmp 11) (.tmp 99) g wr.heap.size wr [.int .u8 0, .int .i64 0, .int .i64 0, .int .i64 0, .int .i64 0, .int .i64 0, .int .i64 0, .int .i64 0, .int .i64 0, .int .i64 0, .int .i64 0] xj.cells hg (fun _ h => h) (Nat.le_refl _) (fun _ h => h) rfl (by rfl) (by rfl) (by kernel_rfl) rfl (by kernel_rfl) (by rfl) ?_
            simp only [Act.put, List.setIfInBounds_toArray, List.set_cons_zero, List.set_cons_succ]
            repeat (first | (refine mix_skip (by rfl) ?_; simp only [Act.put, List.setIfInBounds_toArray, List.set_cons_zero, List.set_cons_succ]) | (refine mix_read _ (by rfl) (fun W hW => by (have hW := HBS.out W hW; have m0 := HQl.out _ hW; have x0 := m0.cell_at 0 rfl; have x1 := m0.cell_at 1 rfl; have x2 := m0.cell_at 2 rfl; have x3 := m0.cell_at 3 rfl; have x4 := m0.cell_at 4 rfl; have x5 := m0.cell_at 5 rfl; have x6 := m0.cell_at 6 rfl; have x7 := m0.cell_at 7 rfl; have x8 := m0.cell_at 8 rfl; have x9 := m0.cell_at 9 rfl; have x10 := m0.cell_at 10 rfl; clear m0; rw [HAl.out] at x1; have c0 := HC0.out _ hW; have c1 := HC1.out _ hW; go_simp; first | done | with_reducible rfl)) ?_; simp only [Act.put, List.setIfInBounds_toArray, List.set_cons_zero, List.set_cons_succ]) | (refine mix_call _ _ _ (by rfl) (fun W hW => by (have hW := HBS.out W hW; have m0 := HQl.out _ hW; have x0 := m0.cell_at 0 rfl; have x1 := m0.cell_at 1 rfl; have x2 := m0.cell_at 2 rfl; have x3 := m0.cell_at 3 rfl; have x4 := m0.cell_at 4 rfl; have x5 := m0.cell_at 5 rfl; have x6 := m0.cell_at 6 rfl; have x7 := m0.cell_at 7 rfl; have x8 := m0.cell_at 8 rfl; have x9 := m0.cell_at 9 rfl; have x10 := m0.cell_at 10 rfl; clear m0; rw [HAl.out] at x1; have c0 := HC0.out _ hW; have c1 := HC1.out _ hW; go_simp; first | done | rfl)) (fun W hW => KS.out W (HBS.out W hW)) ?_; simp only [Act.put, List.setIfInBounds_toArray, List.set_cons_zero, List.set_cons_succ]))
            refine mix_nil (fun W hW => ?_)
            have hq := HBS.out W hW.1
            clear hW HBS
            go_wp2_with fail
            go_roundw
            case rel => exact ⟨j + 1, hlt, by go_num, hq⟩
            case measure => simp [intOf]; omega
          · obtain rfl : j = l.sigs.length := by omega
            clear hj hlt
            have x1 := (HQl.out _ hq).cell_at 1 rfl
            go_wp2_with fail
            clear x1
            go_loopw [13] (fun i wr => ∃ j : Nat, j ≤ l.exits.length ∧ i = .int .i64 j ∧ Q wr) (fun i _ => l.exits.length - (intOf i).toNat)
            case atStart => exact ⟨0, by omega, rfl, hq⟩
            case round =>
              clear hq
              obtain ⟨j, hj, rfl, hq⟩ := hrel
              by_cases hlt : j < l.exits.length
              · have hlt' : (j : Int) < l.exits.length := by omega
                obtain ⟨⟨ps, pq, xA, xc, ov⟩, hx⟩ : ∃ x, l.exits[j]? = some x := ⟨_, List.getElem?_eq_getElem hlt⟩
                obtain ⟨o1, o2, HAl, HC0, HC1⟩ := exit_cells HQL.out hq hx
                have HC2 := exit_over HQL.out hq hx HAl.out
                have HM := Lib.hid (List.mem_of_getElem? hx)
                have hth : thereV l ps pq = true := (right_facts HR.out).2.1 (ps, pq) (List.mem_append_right _ (List.mem_append_right _ (List.mem_map.2 ⟨_, List.mem_of_getElem? hx, rfl⟩)))
                have HSt : Hid (∀ s ∈ ov, stepV l s.1 s.2.1 s.2.2 = true) := Lib.hid (fun s hs => (right_facts HR.out).2.2 s (List.mem_flatMap.2 ⟨_, List.mem_of_getElem? hx, hs⟩))
                have hnO : (ov.length : Int) ≤ 9223372036854775807 := HnO.out _ HM.out
                simp only at HC0 HC1 HC2
                clear hx
                have x2 := (HQl.out _ hq).cell_at 2 rfl
                go_wp2_with fail
                clear x2
                go_loopw [14] (fun i wr => ∃ k : Nat, k ≤ ov.length ∧ i = .int .i64 k ∧ Q wr) (fun i _ => ov.length - (intOf i).toNat)
                case atStart => exact ⟨0, by omega, rfl, hq⟩
                case round =>
                  clear hq
                  obtain ⟨k, hk, rfl, hq⟩ := hrel
                  have x2 := (HQl.out _ hq).cell_at 2 rfl
                  rw [HAl.out] at x2
                  have c2 := HC2.out _ hq
                  by_cases hkl : k < ov.length
                  · have hkl' : (k : Int) < ov.length := by omega
                    obtain ⟨⟨ys, yi, yo⟩, hy⟩ : ∃ y, ov[k]? = some y := ⟨_, List.getElem?_eq_getElem hkl⟩
                    obtain ⟨u1, u2, HUA, HU0, HU1, HU2⟩ := over_cells HQL.out hq HM.out hy
                    have hst := HSt.out _ (List.mem_of_getElem? hy)
                    simp only at HUA HU0 HU1 HU2 hst
                    clear hy
                    obtain ⟨v, hv⟩ : ∃ v, wayK (kindV l ys) yi yo = v := ⟨_, rfl⟩
                    have KX := fun W (hW : Q W) => step_B (HQT.out W hW) (HQL.out W hW) ys yi yo hv hst
                    have KS : Hid (∀ W, Q W → Calls Tryd.prog 12 #[.agg #[.slice l.As l.secs.length l.cs, .slice l.Ag l.sigs.length l.cg, .slice (some ⟨o1, o2, none⟩) l.exits.length l.ce, .slice l.Af l.flanks.length l.cf, .int .i64 l.t0, .int .i64 l.t1, .int .i64 l.t2, .int .i64 l.t3, .int .i64 l.t4, .int .i64 l.t5, .int .i64 l.t6], .agg #[.int .i64 ys, .int .i64 yi, .int .i64 yo]] W fun e w' => e = .returned (.tuple #[.int .i64 v, .bool true]) ∧ Below W.heap.size W w') := Lib.hid (by rw [← HAl.out]; exact KX)
                    clear hv hst KX
                    go_wp2_with fail
                    clear x2 c2
                    have HBS : Hid (∀ W, Below wr.heap.size wr W → Q W) := Lib.hid (fun W hB => HQ.out _ _ hq hB)
                    clear hq
                    refine region_mix (Below wr.heap.size wr) [(0, false), (1, false), (2, false), (3, false), (4, false), (5, false), (6, false), (7, false), (8, false), (9, false), (10, false), (11, false), (12, false), (13, false), (14, false), (15, false)] (by kernel_rfl) (by kernel_rfl) (Below wr.heap.size wr) ⟨Closed.below wr, fun _ h => h⟩ (Below.refl _ _).drew ?_
                    simp only [pickOps, List.getElem?_cons_zero, List.getElem?_cons_succ]
                    repeat (first | (refine mix_skip (by rfl) ?_; simp only [Act.put, List.setIfInBounds_toArray, List.set_cons_zero, List.set_cons_succ]) | (refine mix_read _ (by rfl) (fun W hW => by (have hW := HBS.out W hW; have m0 := HQl.out _ hW; have x0 := m0.cell_at 0 rfl; have x1 := m0.cell_at 1 rfl; have x2 := m0.cell_at 2 rfl; have x3 := m0.cell_at 3 rfl; have x4 := m0.cell_at 4 rfl; have x5 := m0.cell_at 5 rfl; have x6 := m0.cell_at 6 rfl; have x7 := m0.cell_at 7 rfl; have x8 := m0.cell_at 8 rfl; have x9 := m0.cell_at 9 rfl; have x10 := m0.cell_at 10 rfl; clear m0; rw [HAl.out] at x2; have c2 := HC2.out _ hW; rw [HUA.out] at c2; have e0 := HU0.out _ hW; have e1 := HU1.out _ hW; have e2 := HU2.out _ hW; go_simp; first | done | with_reducible rfl)) ?_; simp only [Act.put, List.setIfInBounds_toArray, List.set_cons_zero, List.set_cons_succ]) | (refine mix_call _ _ _ (by rfl) (fun W hW => by (have hW := HBS.out W hW; have m0 := HQl.out _ hW; have x0 := m0.cell_at 0 rfl; have x1 := m0.cell_at 1 rfl; have x2 := m0.cell_at 2 rfl; have x3 := m0.cell_at 3 rfl; have x4 := m0.cell_at 4 rfl; have x5 := m0.cell_at 5 rfl; have x6 := m0.cell_at 6 rfl; have x7 := m0.cell_at 7 rfl; have x8 := m0.cell_at 8 rfl; have x9 := m0.cell_at 9 rfl; have x10 := m0.cell_at 10 rfl; clear m0; rw [HAl.out] at x2; have c2 := HC2.out _ hW; rw [HUA.out] at c2; have e0 := HU0.out _ hW; have e1 := HU1.out _ hW; have e2 := HU2.out _ hW; go_simp; first | done | rfl)) (fun W hW => KS.out W (HBS.out W hW)) ?_; simp only [Act.put, List.setIfInBounds_toArray, List.set_cons_zero, List.set_cons_succ]))
                    refine mix_nil (fun W hW => ?_)
                    have hW := HBS.out W hW
                    clear HBS
                    go_wp2_with fail
                    go_roundw
                    case rel => exact ⟨k + 1, hkl, by go_num, hW⟩
                    case measure => simp [intOf]; omega
                  · obtain rfl : k = ov.length := by omega
                    clear hk hkl
                    obtain ⟨xj, hxj⟩ : ∃ z, atV l ps pq = z := ⟨_, rfl⟩
                    have KX := fun W (hW : Q W) => at_B (HQT.out W hW) (HQL.out W hW) ps pq hxj hth
                    have KS : Hid (∀ W, Q W → Calls Tryd.prog 10 #[.agg #[.slice l.As l.secs.length l.cs, .slice l.Ag l.sigs.length l.cg, .slice (some ⟨o1, o2, none⟩) l.exits.length l.ce, .slice l.Af l.flanks.length l.cf, .int .i64 l.t0, .int .i64 l.t1, .int .i64 l.t2, .int .i64 l.t3, .int .i64 l.t4, .int .i64 l.t5, .int .i64 l.t6], .agg #[.int .i64 ps, .int .i64 pq]] W fun e w' => e = .returned (.tuple #[xj.val, .bool true]) ∧ Below W.heap.size W w') := Lib.hid (by rw [← HAl.out]; exact KX)
                    clear hxj hth KX
                    go_wp2_with fail
                    clear x2 c2
                    have HBS : Hid (∀ W, Below wr.heap.size wr W → Q W) := Lib.hid (fun W hB => HQ.out _ _ hq hB)
                    clear hq
                    refine region_mix (Below wr.heap.size wr) [(0, false), (1, false), (2, false), (3, false), (4, false), (5, false), (6, false), (7, false), (8, false), (9, false), (10, false), (11, true), (12, true), (13, false)] (by kernel_rfl) (by kernel_rfl) (Below wr.heap.size wr) ⟨Closed.below wr, fun _ h => h⟩ (Below.refl _ _).drew ?_
                    simp only [pickOps, List.getElem?_cons_zero, List.getElem?_cons_succ]
                    repeat (first | (refine mix_skip (by rfl) ?_; simp only [Act.put, List.setIfInBounds_toArray, List.set_cons_zero, List.set_cons_succ]) | (refine mix_read _ (by rfl) (fun W hW => by (have hW := HBS.out W hW; have m0 := HQl.out _ hW; have x0 := m0.cell_at 0 rfl; have x1 := m0.cell_at 1 rfl; have x2 := m0.cell_at 2 rfl; have x3 := m0.cell_at 3 rfl; have x4 := m0.cell_at 4 rfl; have x5 := m0.cell_at 5 rfl; have x6 := m0.cell_at 6 rfl; have x7 := m0.cell_at 7 rfl; have x8 := m0.cell_at 8 rfl; have x9 := m0.cell_at 9 rfl; have x10 := m0.cell_at 10 rfl; clear m0; rw [HAl.out] at x2; have c0 := HC0.out _ hW; have c1 := HC1.out _ hW; go_simp; first | done | with_reducible rfl)) ?_; simp only [Act.put, List.setIfInBounds_toArray, List.set_cons_zero, List.set_cons_succ]) | (refine mix_call _ _ _ (by rfl) (fun W hW => by (have hW := HBS.out W hW; have m0 := HQl.out _ hW; have x0 := m0.cell_at 0 rfl; have x1 := m0.cell_at 1 rfl; have x2 := m0.cell_at 2 rfl; have x3 := m0.cell_at 3 rfl; have x4 := m0.cell_at 4 rfl; have x5 := m0.cell_at 5 rfl; have x6 := m0.cell_at 6 rfl; have x7 := m0.cell_at 7 rfl; have x8 := m0.cell_at 8 rfl; have x9 := m0.cell_at 9 rfl; have x10 := m0.cell_at 10 rfl; clear m0; rw [HAl.out] at x2; have c0 := HC0.out _ hW; have c1 := HC1.out _ hW; go_simp; first | done | rfl)) (fun W hW => KS.out W (HBS.out W hW)) ?_; simp only [Act.put, List.setIfInBounds_toArray, List.set_cons_zero, List.set_cons_succ]))
                    refine mix_alloc wr.heap.size 39 [.int .u8 0, .int .i64 0, .int .i64 0, .int .i64 0, .int .i64 0, .int .i64 0, .int .i64 0, .int .i64 0, .int .i64 0, .int .i64 0, .int .i64 0] ⟨Closed.below wr, fun _ h => h⟩ (fun _ h => h.size) (by rfl) (fun W hW => by (go_simp; first | done | with_reducible rfl)) (fun g hg => ?_)
                    simp only [Act.put, List.setIfInBounds_toArray, List.set_cons_zero, List.set_cons_succ]
                    refine mix_fill 39 (.tmp 17) (.tmp 146) g wr.heap.size wr [.int .u8 0, .int .i64 0, .int .i64 0, .int .i64 0, .int .i64 0, .int .i64 0, .int .i64 0, .int .i64 0, .int .i64 0, .int .i64 0, .int .i64 0] xj.cells hg (fun _ h => h) (Nat.le_refl _) (fun _ h => h) rfl (by rfl) (by rfl) (by kernel_rfl) rfl (by kernel_rfl) (by rfl) ?_
                    simp only [Act.put, List.setIfInBounds_toArray, List.set_cons_zero, List.set_cons_succ]
                    repeat (first | (refine mix_skip (by rfl) ?_; simp only [Act.put, List.setIfInBounds_toArray, List.set_cons_zero, List.set_cons_succ]) | (refine mix_read _ (by rfl) (fun W hW => by (have hW := HBS.out W hW; have m0 := HQl.out _ hW; have x0 := m0.cell_at 0 rfl; have x1 := m0.cell_at 1 rfl; have x2 := m0.cell_at 2 rfl; have x3 := m0.cell_at 3 rfl; have x4 := m0.cell_at 4 rfl; have x5 := m0.cell_at 5 rfl; have x6 := m0.cell_at 6 rfl; have x7 := m0.cell_at 7 rfl; have x8 := m0.cell_at 8 rfl; have x9 := m0.cell_at 9 rfl; have x10 := m0.cell_at 10 rfl; clear m0; rw [HAl.out] at x2; have c0 := HC0.out _ hW; have c1 := HC1.out _ hW; go_simp; first | done | with_reducible rfl)) ?_; simp only [Act.put, List.setIfInBounds_toArray, List.set_cons_zero, List.set_cons_succ]) | (refine mix_call _ _ _ (by rfl) (fun W hW => by (have hW := HBS.out W hW; have m0 := HQl.out _ hW; have x0 := m0.cell_at 0 rfl; have x1 := m0.cell_at 1 rfl; have x2 := m0.cell_at 2 rfl; have x3 := m0.cell_at 3 rfl; have x4 := m0.cell_at 4 rfl; have x5 := m0.cell_at 5 rfl; have x6 := m0.cell_at 6 rfl; have x7 := m0.cell_at 7 rfl; have x8 := m0.cell_at 8 rfl; have x9 := m0.cell_at 9 rfl; have x10 := m0.cell_at 10 rfl; clear m0; rw [HAl.out] at x2; have c0 := HC0.out _ hW; have c1 := HC1.out _ hW; go_simp; first | done | rfl)) (fun W hW => KS.out W (HBS.out W hW)) ?_; simp only [Act.put, List.setIfInBounds_toArray, List.set_cons_zero, List.set_cons_succ]))
                    refine mix_nil (fun W hW => ?_)
                    have hq := HBS.out W hW.1
                    clear hW HBS
                    go_wp2_with fail
                    go_roundw
                    case rel => exact ⟨j + 1, hlt, by go_num, hq⟩
                    case measure => simp [intOf]; omega
              · obtain rfl : j = l.exits.length := by omega
                clear hj hlt
                have x2 := (HQl.out _ hq).cell_at 2 rfl
                have x0 := (HQl.out _ hq).cell_at 0 rfl
                have h24 := decide_eq_true (right_facts HR.out).1
                go_wp2_with fail
                clear x2
                refine (wakes6_P HQ.out HQT.out hq).mono ?_
                rintro e w9 ⟨rfl, hq⟩
                go_wp2_with fail
                go_ret
                exact ⟨rfl, HQB.out _ hq⟩
end Go.Proofs.YtbalcbnlpgekaaaDoor
