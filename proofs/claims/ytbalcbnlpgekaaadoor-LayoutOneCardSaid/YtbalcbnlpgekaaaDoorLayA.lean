/- Package layout: within, kind; what the document says of kinds, ports, steps. -/
import Derived.Test.YtbalcbnlpgekaaaDoorLay
namespace Go.Proofs.YtbalcbnlpgekaaaDoor
open Go.RowKit Go.Shelf
set_option linter.unusedVariables false
set_option linter.unusedSimpArgs false

/-- Is n from a to b? -/
def withinA (n a b : Int) : Bool := decide (a ≤ n) && decide (n ≤ b)
theorem withinA_iff {n a b : Int} : withinA n a b = true ↔ a ≤ n ∧ n ≤ b := by unfold withinA; rw [Bool.and_eq_true, decide_eq_true_eq, decide_eq_true_eq]
theorem withinL_P {P : World → Prop} {w : World} (n a b : Int) {r : Bool} (hr : withinA n a b = r) (h : P w) : Calls Tryd.prog 35 #[.int .i64 n, .int .i64 a, .int .i64 b] w fun e w' => e = .returned (.bool r) ∧ P w' := by
  subst hr
  by_cases h1 : a ≤ n
  · go_enter Tryd.func35, Tryd.ntmps35
    go_wp2_with fail
    go_ret
    exact ⟨ret_bool (by unfold withinA; simp [h1]), h⟩
  · have h' : decide (a ≤ n) = false := by simpa using h1
    go_enter Tryd.func35, Tryd.ntmps35
    go_wp2_with fail
    go_ret
    exact ⟨ret_bool (by unfold withinA; rw [h']; rfl), h⟩

/-- What the kinds have. -/
def pK (k : Int) : Int := if k = 1 then 2 else if k = 2 then 3 else if k = 3 then 4 else 0
def nK (k : Int) : Int := if k = 1 then 1 else if k = 2 then 2 else if k = 3 then 2 else 0
def bK (k : Int) : Int := if k = 1 then 1 else if k = 2 then 1 else if k = 3 then 1 else 0
def cK (k : Int) : Int := if k = 3 then 2 else 0
def dK (k : Int) : Int := if k = 2 then 2 else if k = 3 then 3 else 0
theorem shapeK (k : Int) : IsShape k (pK k) (nK k) 0 (bK k) (cK k) (dK k) := by
  unfold IsShape pK nK bK cK dK
  by_cases h1 : k = 1
  · subst h1; decide
  · by_cases h2 : k = 2
    · subst h2; decide
    · by_cases h3 : k = 3
      · subst h3; decide
      · exact .inr (.inr (.inr ⟨by omega, by simp [h1, h2, h3], by simp [h1, h2, h3], rfl, by simp [h1, h2, h3], by simp [h3], by simp [h2, h3]⟩))
def wayK (k i o : Int) : Int := wayV (nK k) 0 (bK k) (cK k) (dK k) i o
def goesK (k i o : Int) : Bool := goesV (nK k) 0 (bK k) (cK k) (dK k) i o
def rightK (s : Sec) : Bool := rightV (pK s.k) (nK s.k) s.s0 s.q0 s.s1 s.q1 s.s2 s.q2 s.s3 s.q3 s.c0 s.c1

/-- The kind of the section of that number; 0 where none is. -/
def kindV (l : Lay) (s : Int) : Int := if 0 ≤ s then ((l.secs[s.toNat]?).map Sec.k).getD 0 else 0
theorem kindV_at {l : Lay} {j : Nat} {x : Sec} (h : l.secs[j]? = some x) : kindV l j = x.k := by
  unfold kindV
  rw [if_pos (by omega), Int.toNat_natCast, h]
  rfl
theorem kindV_no {l : Lay} {s : Int} (h : ¬ (0 ≤ s ∧ s < l.secs.length)) : kindV l s = 0 := by
  unfold kindV
  by_cases h0 : 0 ≤ s
  · rw [if_pos h0, List.getElem?_eq_none (by omega)]; rfl
  · rw [if_neg h0]
theorem kindV_some {l : Lay} {s : Int} (h : kindV l s ≠ 0) : ∃ (j : Nat) (x : Sec), s = j ∧ l.secs[j]? = some x ∧ kindV l s = x.k := by
  by_cases h0 : 0 ≤ s ∧ s < l.secs.length
  · obtain ⟨j, rfl⟩ : ∃ j : Nat, s = j := ⟨s.toNat, by omega⟩
    exact ⟨j, l.secs[j]'(by omega), rfl, List.getElem?_eq_getElem (by omega), kindV_at (List.getElem?_eq_getElem (by omega))⟩
  · exact absurd (kindV_no h0) h
theorem kindV_range {l : Lay} {w : World} (hl : Lies l w) (s : Int) : 0 ≤ kindV l s ∧ kindV l s ≤ 255 := by
  by_cases h : kindV l s = 0
  · rw [h]; decide
  · obtain ⟨j, x, _, hx, e⟩ := kindV_some h
    rw [e]
    exact hl.kinds x (List.mem_of_getElem? hx)
theorem wrap_pred {n : Nat} (h : (n : Int) ≤ 9223372036854775807) : wrap64 ((n : Int) - 1) = n - 1 := by
  unfold wrap64; omega
/-- A port is there; the section of it; the way of a step. -/
def thereV (l : Lay) (s p : Int) : Bool := withinA p 0 (pK (kindV l s) - 1)
def stepV (l : Lay) (s i o : Int) : Bool := goesK (kindV l s) i o
theorem goesK_no (i o : Int) : goesK 0 i o = false := by rfl
theorem thereV_some {l : Lay} {s p : Int} (h : thereV l s p = true) : ∃ (j : Nat) (x : Sec), s = j ∧ l.secs[j]? = some x := by
  by_cases h0 : kindV l s = 0
  · unfold thereV at h
    rw [h0, withinA_iff] at h
    have : pK 0 = 0 := rfl
    omega
  · obtain ⟨j, x, e, hx, _⟩ := kindV_some h0
    exact ⟨j, x, e, hx⟩

set_option maxHeartbeats 1000000 in
theorem kind_P {P : World → Prop} {w : World} (hP : Closed P) {l : Lay} (hL : ∀ w, P w → Lies l w) (s : Int) {k : Int} (hk : kindV l s = k) (h : P w) : Calls Tryd.prog 29 #[l.val, .int .i64 s] w fun e w' => e = .returned (.int .u8 k) ∧ P w' := by
  obtain ⟨Q, HQ, HQp, HQl, hq⟩ := keep_box hP h 29 l.cells
  have hwr := wrap_pred (hL _ h).nS
  by_cases hs : 0 ≤ s ∧ s < l.secs.length
  · obtain ⟨j, rfl⟩ : ∃ j : Nat, s = j := ⟨s.toNat, by omega⟩
    have hj : j < l.secs.length := by omega
    obtain ⟨x, hx⟩ : ∃ x, l.secs[j]? = some x := ⟨_, List.getElem?_eq_getElem hj⟩
    have hw : withinA (j : Int) 0 (wrap64 ((l.secs.length : Int) - 1)) = true := by rw [hwr]; unfold withinA; simp; omega
    have HX := Lib.hid hx
    obtain rfl := hk.symm.trans (kindV_at hx)
    clear hs hk hwr hx
    have HW := Lib.hid hw
    clear hw
    go_enter Tryd.func29, Tryd.ntmps29
    go_wp2_with fail
    refine (withinL_P _ _ _ HW.out hq).mono ?_
    rintro e w1 ⟨rfl, hq⟩
    obtain ⟨b, off, hA, hb, hc0, hc⟩ := (hL _ (HQp.out _ hq)).secs.nth Sec.len (by omega) HX.out
    have c0 := hc0 j x _ HX.out rfl
    clear hc0 hc
    have x0 := (HQl.out _ hq).cell_at 0 rfl
    have hlt : (j : Int) < l.secs.length := by omega
    go_wp2_with fail
    go_ret
    exact ⟨rfl, HQp.out _ hq⟩
  · have hw : withinA s 0 (wrap64 ((l.secs.length : Int) - 1)) = false := by rw [hwr]; unfold withinA; rw [Bool.and_eq_false_iff, decide_eq_false_iff_not, decide_eq_false_iff_not]; omega
    obtain rfl := hk.symm.trans (kindV_no hs)
    have HW := Lib.hid hw
    clear hw hk hs hwr
    go_enter Tryd.func29, Tryd.ntmps29
    go_wp2_with fail
    refine (withinL_P _ _ _ HW.out hq).mono ?_
    rintro e w1 ⟨rfl, hq⟩
    go_wp2_with fail
    go_ret
    exact ⟨rfl, HQp.out _ hq⟩
end Go.Proofs.YtbalcbnlpgekaaaDoor
