/- Package layout: Signal, Exit; whether there is too much; whether each section may be. -/
import Derived.Test.YtbalcbnlpgekaaaDoorLayE
namespace Go.Proofs.YtbalcbnlpgekaaaDoor
open Go.RowKit Go.Shelf
set_option linter.unusedVariables false
set_option linter.unusedSimpArgs false

/-- Is it this port? -/
def isP (s p : Int) (x : Int × Int) : Bool := x.1 == s && x.2 == p
def signalV (l : Lay) (s p : Int) : Int := idxV (isP s p) l.sigs
def exitV (l : Lay) (s p : Int) : Int := idxV (fun x => isP s p (x.s, x.q)) l.exits
/-- Is there too much? -/
def tooV (l : Lay) : Bool := decide (24 < (l.secs.length : Int)) || (decide (12 < (l.sigs.length : Int)) || (decide (12 < (l.exits.length : Int)) || (decide (16 < (l.flanks.length : Int)) || l.exits.any (fun x => decide (2 < (x.over.length : Int))))))

section
variable {P : World → Prop} {w : World}

set_option maxHeartbeats 2000000 in
theorem signal1_P (hP : Closed P) (x : Int × Int) (s p : Int) (g : Nat) (hg : ∀ w, P w → Whole w g 31 (prtCells (s, p))) (h : P w) :
    Calls Tryd.prog 31 #[(prtV x.1 x.2), .pointer (some ⟨g, 0, none⟩)] w fun e w' => e = .returned (.bool (isP s p (x))) ∧ P w' := by
  have hw := hg _ (hP _ _ h (below1 w (.cells (prtCells x).toArray 50)))
  have y0 := hw.cell_at 0 rfl
  have y1 := hw.cell_at 1 rfl
  clear hw hg
  have HPP := Lib.hid (fun o => hP _ _ h (below1 w o))
  clear hP h
  go_enter Tryd.func31, Tryd.ntmps31
  go_wp2_with fail
  all_goals
    go_ret
    exact ⟨ret_bool (by unfold isP; rw [Bool.eq_iff_iff]; simp; try omega), HPP.out _⟩

set_option maxHeartbeats 2000000 in
theorem exit1_P (hP : Closed P) (x : Exm) (s p : Int) (g : Nat) (hg : ∀ w, P w → Whole w g 31 (prtCells (s, p))) (h : P w) :
    Calls Tryd.prog 33 #[x.val, .pointer (some ⟨g, 0, none⟩)] w fun e w' => e = .returned (.bool (isP s p ((x.s, x.q)))) ∧ P w' := by
  have hw := hg _ (hP _ _ h (below1 w (.cells (Exm.cells x).toArray 53)))
  have y0 := hw.cell_at 0 rfl
  have y1 := hw.cell_at 1 rfl
  clear hw hg
  have HPP := Lib.hid (fun o => hP _ _ h (below1 w o))
  clear hP h
  go_enter Tryd.func33, Tryd.ntmps33
  go_wp2_with fail
  all_goals
    go_ret
    exact ⟨ret_bool (by unfold isP; rw [Bool.eq_iff_iff]; simp; try omega), HPP.out _⟩

set_option maxHeartbeats 2000000 in
theorem signal_P (hP : Closed P) {l : Lay} (hL : ∀ w, P w → Lies l w) (s p : Int) {r : Int} (hr : signalV l s p = r) (h : P w) :
    Calls Tryd.prog 14 #[l.val, prtV s p] w fun e w' => e = .returned (.int .i64 r) ∧ P w' := by
  obtain ⟨Q, HQ, HQp, HQl, HQv, hq⟩ := keep_box2 hP h 29 31 l.cells (prtCells (s, p))
  have HI := Lib.hid (fun c => indexSignal_P (w := _) (r := r) HQ.out c (fun w hw => (hL w (HQp.out w hw)).sigs) (hL _ h).nG (.pointer (some ⟨w.heap.size + 1, 0, none⟩)) (fun x _ w hw => signal1_P HQ.out x s p _ (fun w hw => HQv.out w hw) hw) hr hq)
  have hW := hq
  have m0 := HQl.out _ hW
  have x0 := m0.cell_at 0 rfl
  have x1 := m0.cell_at 1 rfl
  have x2 := m0.cell_at 2 rfl
  have x3 := m0.cell_at 3 rfl
  have x4 := m0.cell_at 4 rfl
  have x5 := m0.cell_at 5 rfl
  have x6 := m0.cell_at 6 rfl
  have x7 := m0.cell_at 7 rfl
  have x8 := m0.cell_at 8 rfl
  have x9 := m0.cell_at 9 rfl
  have x10 := m0.cell_at 10 rfl
  clear m0
  have m1 := HQv.out _ hW
  have v0 := m1.cell_at 0 rfl
  have v1 := m1.cell_at 1 rfl
  clear m1
  clear hW
  go_enter Tryd.func14, Tryd.ntmps14
  go_wp2_with fail
  refine (HI.out _).mono ?_
  clear x0 x1 x2 x3 x4 x5 x6 x7 x8 x9 x10 v0 v1 hq
  rintro e w1 ⟨rfl, hq⟩
  go_wp2_with fail
  go_ret
  exact ⟨rfl, HQp.out _ hq⟩

set_option maxHeartbeats 2000000 in
theorem exit_P (hP : Closed P) {l : Lay} (hL : ∀ w, P w → Lies l w) (s p : Int) {r : Int} (hr : exitV l s p = r) (h : P w) :
    Calls Tryd.prog 16 #[l.val, prtV s p] w fun e w' => e = .returned (.int .i64 r) ∧ P w' := by
  obtain ⟨Q, HQ, HQp, HQl, HQv, hq⟩ := keep_box2 hP h 29 31 l.cells (prtCells (s, p))
  have HI := Lib.hid (fun c => indexExit_P (w := _) (r := r) HQ.out c (fun w hw => (hL w (HQp.out w hw)).exits) (hL _ h).nE (.pointer (some ⟨w.heap.size + 1, 0, none⟩)) (fun x _ w hw => exit1_P HQ.out x s p _ (fun w hw => HQv.out w hw) hw) hr hq)
  have hW := hq
  have m0 := HQl.out _ hW
  have x0 := m0.cell_at 0 rfl
  have x1 := m0.cell_at 1 rfl
  have x2 := m0.cell_at 2 rfl
  have x3 := m0.cell_at 3 rfl
  have x4 := m0.cell_at 4 rfl
  have x5 := m0.cell_at 5 rfl
  have x6 := m0.cell_at 6 rfl
  have x7 := m0.cell_at 7 rfl
  have x8 := m0.cell_at 8 rfl
  have x9 := m0.cell_at 9 rfl
  have x10 := m0.cell_at 10 rfl
  clear m0
  have m1 := HQv.out _ hW
  have v0 := m1.cell_at 0 rfl
  have v1 := m1.cell_at 1 rfl
  clear m1
  clear hW
  go_enter Tryd.func16, Tryd.ntmps16
  go_wp2_with fail
  refine (HI.out _).mono ?_
  clear x0 x1 x2 x3 x4 x5 x6 x7 x8 x9 x10 v0 v1 hq
  rintro e w1 ⟨rfl, hq⟩
  go_wp2_with fail
  go_ret
  exact ⟨rfl, HQp.out _ hq⟩

set_option maxHeartbeats 2000000 in
theorem over1_P (hP : Closed P) (x : Exm) (h : P w) :
    Calls Tryd.prog 74 #[x.val] w fun e w' => e = .returned (.bool (decide (2 < (x.over.length : Int)))) ∧ P w' := by
  have hp := hP _ _ h (below1 w (.cells x.cells.toArray 53))
  clear hP h
  go_enter Tryd.func74, Tryd.ntmps74
  go_wp2_with fail
  all_goals
    go_ret
    exact ⟨rfl, hp⟩

set_option maxRecDepth 100000 in
set_option maxHeartbeats 4000000 in
theorem tooMany_P (hP : Closed P) {l : Lay} (hL : ∀ w, P w → Lies l w) {r : Bool} (hr : tooV l = r) (h : P w) :
    Calls Tryd.prog 41 #[l.val] w fun e w' => e = .returned (.bool r) ∧ P w' := by
  obtain ⟨Q, HQ, HQp, HQl, hq⟩ := keep_box hP h 29 l.cells
  have HI := Lib.hid (fun c => containsOver_P (w := _) (A := l.Ae) (l := l.exits) HQ.out c (fun w hw => (hL w (HQp.out w hw)).exits) (hL _ h).nE (fun x _ w hw => over1_P HQ.out x hw) rfl hq)
  generalize he : l.exits.any (fun x => decide (2 < (x.over.length : Int))) = a at *
  have HR : Hid ((decide (24 < (l.secs.length : Int)) || (decide (12 < (l.sigs.length : Int)) || (decide (12 < (l.exits.length : Int)) || (decide (16 < (l.flanks.length : Int)) || a)))) = r) := Lib.hid (by rw [← hr, ← he]; rfl)
  have hp := HQp.out _ hq
  clear hr he
  have hcase : 24 < (l.secs.length : Int) ∨ (¬ 24 < (l.secs.length : Int) ∧ 12 < (l.sigs.length : Int)) ∨ (¬ 24 < (l.secs.length : Int) ∧ ¬ 12 < (l.sigs.length : Int) ∧ 12 < (l.exits.length : Int)) ∨ (¬ 24 < (l.secs.length : Int) ∧ ¬ 12 < (l.sigs.length : Int) ∧ ¬ 12 < (l.exits.length : Int) ∧ 16 < (l.flanks.length : Int)) ∨
      (¬ 24 < (l.secs.length : Int) ∧ ¬ 12 < (l.sigs.length : Int) ∧ ¬ 12 < (l.exits.length : Int) ∧ ¬ 16 < (l.flanks.length : Int)) := by omega
  rcases hcase with h1 | ⟨h1, h2⟩ | ⟨h1, h2, h3⟩ | ⟨h1, h2, h3, h4⟩ | ⟨h1, h2, h3, h4⟩
  · have HF := Lib.hid (HR.out.symm.trans (show _ = true by simp [h1]))
    have d1 := decide_eq_true h1
    clear h1
    go_enter Tryd.func41, Tryd.ntmps41
    go_wp2_with fail
    go_ret
    exact ⟨ret_bool HF.out.symm, hp⟩
  · have HF := Lib.hid (HR.out.symm.trans (show _ = true by simp [h1, h2]))
    have d1 := decide_eq_false h1
    clear h1
    have d2 := decide_eq_true h2
    clear h2
    go_enter Tryd.func41, Tryd.ntmps41
    go_wp2_with fail
    go_ret
    exact ⟨ret_bool HF.out.symm, hp⟩
  · have HF := Lib.hid (HR.out.symm.trans (show _ = true by simp [h1, h2, h3]))
    have d1 := decide_eq_false h1
    clear h1
    have d2 := decide_eq_false h2
    clear h2
    have d3 := decide_eq_true h3
    clear h3
    go_enter Tryd.func41, Tryd.ntmps41
    go_wp2_with fail
    go_ret
    exact ⟨ret_bool HF.out.symm, hp⟩
  · have HF := Lib.hid (HR.out.symm.trans (show _ = true by simp [h1, h2, h3, h4]))
    have d1 := decide_eq_false h1
    clear h1
    have d2 := decide_eq_false h2
    clear h2
    have d3 := decide_eq_false h3
    clear h3
    have d4 := decide_eq_true h4
    clear h4
    go_enter Tryd.func41, Tryd.ntmps41
    go_wp2_with fail
    go_ret
    exact ⟨ret_bool HF.out.symm, hp⟩
  · have HF := Lib.hid (HR.out.symm.trans (show _ = a by simp [h1, h2, h3, h4]))
    have d1 := decide_eq_false h1
    clear h1
    have d2 := decide_eq_false h2
    clear h2
    have d3 := decide_eq_false h3
    clear h3
    have d4 := decide_eq_false h4
    clear h4
    go_enter Tryd.func41, Tryd.ntmps41
    go_wp2_with fail
    refine (HI.out _).mono ?_
    rintro e w1 ⟨rfl, hq⟩
    go_wp2_with fail
    go_ret
    exact ⟨ret_bool HF.out.symm, HQp.out _ hq⟩

set_option maxHeartbeats 2000000 in
theorem section1_P (hP : Closed P) (hT : ∀ w, P w → Shapes w) (x : Sec) (hx : 0 ≤ x.k ∧ x.k ≤ 255) (h : P w) :
    Calls Tryd.prog 78 #[x.val] w fun e w' => e = .returned (.bool (!(rightK x))) ∧ P w' := by
  have hp := hP _ _ h (below1 w (.cells x.cells.toArray 39))
  have HC := Lib.hid (right_Pr hP hT x.k x.s0 x.q0 x.s1 x.q1 x.s2 x.q2 x.s3 x.q3 x.c0 x.c1 hx.1 hx.2 (r := rightK x) (shapeK x.k) rfl hp)
  clear hP hT h hx hp
  generalize rightK x = r at *
  go_enter Tryd.func78, Tryd.ntmps78
  go_wp2_with fail
  refine HC.out.mono ?_
  rintro e w1 ⟨rfl, hp⟩
  go_wp2_with fail
  go_ret
  exact ⟨rfl, hp⟩

set_option maxHeartbeats 2000000 in
theorem sectionsRight_P (hP : Closed P) (hT : ∀ w, P w → Shapes w) {l : Lay} (hL : ∀ w, P w → Lies l w) {r : Bool} (hr : l.secs.any (fun x => !(rightK x)) = r) (h : P w) :
    Calls Tryd.prog 44 #[l.val] w fun e w' => e = .returned (.bool (!r)) ∧ P w' := by
  obtain ⟨Q, HQ, HQp, HQl, hq⟩ := keep_box hP h 29 l.cells
  have HI := Lib.hid (fun c => containsSection_P (w := _) (A := l.As) (l := l.secs) HQ.out c (fun w hw => (hL w (HQp.out w hw)).secs) (hL _ h).nS (fun x hx w hw => section1_P HQ.out (fun w hw => hT w (HQp.out w hw)) x ((hL _ h).kinds x hx) hw) hr hq)
  clear hr
  go_enter Tryd.func44, Tryd.ntmps44
  go_wp2_with fail
  refine (HI.out _).mono ?_
  rintro e w1 ⟨rfl, hq⟩
  go_wp2_with fail
  go_ret
  exact ⟨rfl, HQp.out _ hq⟩
end
end Go.Proofs.YtbalcbnlpgekaaaDoor
