/- A section that is not occupied was told clear at each of the last ticks: pure; a row of what the field told. -/
import Derived.Test.YtniihmafbeplaaaDoorQLiK0
namespace Go.Proofs.YtniihmafbeplaaaDoor
open Go.RowKit Go.Shelf
set_option linter.unusedVariables false
set_option linter.unusedSimpArgs false

/-- What is known behind j ticks: of the image, of the section's row, of what was told last and when. -/
structure ClrInv (l : Lay) (im : Img) (s : Nat) (row age occ : Int) (j : Nat) : Prop where
  wf : im.Wf
  right : rightI im = true
  r0 : 0 ≤ row
  rj : row ≤ (j : Nat)
  free : im.free[s]? = some row
  ages : (age = -1 ∧ im.age = 65535) ∨ (0 ≤ age ∧ age ≤ (j : Nat) ∧ im.age = age)
  occs : 0 ≤ age → im.o = occ
  occr : 0 ≤ occ ∧ occ ≤ 4294967295
  clr : clearI l im s = false → row = 0
theorem clr_new {l : Lay} {s : Nat} (hs : s < 24) (ht : l.t2 ≤ 1000) : ClrInv l newI s 0 (-1) 0 0 := by
  refine ⟨newI_wf, rfl, by omega, by omega, ?_, .inl ⟨rfl, rfl⟩, fun h => by omega, ⟨by omega, by omega⟩, fun _ => rfl⟩
  show (List.replicate 24 (0 : Int))[s]? = some 0
  rw [List.getElem?_replicate, if_pos hs]
/-- What is known between the tick and the counting on: the image is the next one, the row is still the elder. -/
structure ClrMid (l : Lay) (im : Img) (s : Nat) (row age occ : Int) (j : Nat) (c : Bool) : Prop where
  wf : im.Wf
  right : rightI im = true
  r0 : 0 ≤ row
  rj : row ≤ (j : Nat)
  free : im.free[s]? = some (if c then row + 1 else 0)
  ages : (age = -1 ∧ im.age = 65535) ∨ (0 ≤ age ∧ age ≤ ((j + 1 : Nat) : Int) ∧ im.age = age)
  occs : 0 ≤ age → im.o = occ
  occr : 0 ≤ occ ∧ occ ≤ 4294967295
  clr : clearI l im s = c
  tells : c = (!decide (age < 0) && (!decide (l.t2 < age) && !bitU occ s))
theorem row_next {c : Bool} {row : Int} (h0 : 0 ≤ row) (h1 : row ≤ 60) : rowTk c row = if c then row + 1 else 0 := by
  cases c
  · rfl
  · show moreTk row 1 = row + 1
    unfold moreTk countTk
    omega
theorem clr_take {l : Lay} {im : Img} {s : Nat} {row age occ : Int} {j : Nat} (h : ClrInv l im s row age occ j) {x : Inn} (hx : x.Wf) (hj : j < 60) (ht : 1 ≤ l.t2) :
    ClrMid l (takeI l im x) s row 0 x.o j (!bitU x.o s) := by
  have hc : clearI l ((im.aged 0).told x) s = !bitU x.o s := by
    unfold clearI staleI
    rw [show ((im.aged 0).told x).age = 0 from rfl, show ((im.aged 0).told x).o = x.o from rfl, decide_eq_false (show ¬ l.t2 < 0 by omega)]
    rfl
  have hrj := h.rj
  refine ⟨takeI_wf h.wf hx, take_right _ _ _, h.r0, h.rj, ?_, .inr ⟨by omega, by omega, rfl⟩, fun _ => rfl, hx.o, ?_, ?_⟩
  · rw [took_at h.free, hc, row_next h.r0 (by omega)]
  · rw [← hc]; rfl
  · rw [decide_eq_false (show ¬ (0 : Int) < 0 by omega), decide_eq_false (show ¬ l.t2 < 0 by omega)]; rfl
theorem clr_pass {l : Lay} {im : Img} {s : Nat} {row age occ : Int} {j : Nat} (h : ClrInv l im s row age occ j) (hj : j < 60) (ht : l.t2 ≤ 1000) :
    ∃ c, ClrMid l (passI l im) s row (if 0 ≤ age then age + 1 else age) occ j c := by
  have hrj := h.rj
  have hnext : (passI l im).free[s]? = some (if clearI l (passI l im) s then row + 1 else 0) := by
    rw [passed_at h.free, row_next h.r0 (by omega)]
    rfl
  refine ⟨clearI l (passI l im) s, passI_wf h.wf, pass_right _ _, h.r0, h.rj, hnext, ?_, ?_, h.occr, rfl, ?_⟩
  · rcases h.ages with ⟨e1, e2⟩ | ⟨e1, e2, e3⟩
    · refine .inl ⟨by rw [if_neg (by omega)]; exact e1, ?_⟩
      show moreTk im.age 1 = 65535
      rw [e2]; rfl
    · refine .inr ⟨by rw [if_pos e1]; omega, by rw [if_pos e1]; omega, ?_⟩
      rw [if_pos e1]
      show moreTk im.age 1 = age + 1
      rw [e3]
      unfold moreTk countTk
      omega
  · intro h2
    by_cases h0 : 0 ≤ age
    · exact h.occs h0
    · rw [if_neg h0] at h2; omega
  · unfold clearI staleI
    rw [show (passI l im).age = moreTk im.age 1 from rfl, show (passI l im).o = im.o from rfl]
    rcases h.ages with ⟨e1, e2⟩ | ⟨e1, e2, e3⟩
    · rw [if_neg (by omega), e2, show moreTk 65535 1 = 65535 from rfl, decide_eq_true (show l.t2 < 65535 by omega), decide_eq_true (show age < 0 by omega)]
      rfl
    · rw [if_pos e1, h.occs e1, e3, show moreTk age 1 = age + 1 by unfold moreTk countTk; omega, decide_eq_false (show ¬ age + 1 < 0 by omega)]
      simp
theorem clr_next {l : Lay} {im : Img} {s : Nat} {row age occ : Int} {j : Nat} {c : Bool} (h : ClrMid l im s row age occ j c) : ClrInv l im s (if c then row + 1 else 0) age occ (j + 1) := by
  have h0 := h.r0
  have h1 := h.rj
  refine ⟨h.wf, h.right, ?_, ?_, h.free, h.ages, h.occs, h.occr, fun e => by rw [← h.clr, e]; rfl⟩
  · cases c <;> simp <;> omega
  · cases c <;> simp <;> omega
theorem clr_occ {l : Lay} {im : Img} {s : Nat} {row age occ : Int} {j : Nat} (h : ClrInv l im s row age occ j) (h0 : 1 ≤ l.t0) (hs : s < l.secs.length) (h24 : l.secs.length ≤ 24) : occI l im (s : Int) = decide (row < l.t0) := by
  have hcnt : s < cntI l := by unfold cntI; omega
  unfold occI
  rw [within_yes hcnt, Int.toNat_natCast, told_clear h.wf (by omega), h.free]
  cases hc : clearI l im s
  · rw [h.clr hc, decide_eq_true (show (0 : Int) < l.t0 by omega)]
    rfl
  · simp
theorem exec_inn_at {y : Inn} {o : Oper} {a : Act} {x : Operand} (ho : o.op = .load 33 x) {b off : Nat} (hx : a.eval x = .pointer (some ⟨b, off, none⟩)) {W : World} (h : ∀ (k : Nat) (v : Value), y.cells[k]? = some v → W.cell? ⟨b, off + k, none⟩ = some v) : (execOp a.eval o).run Tryd.prog W = .ok (.value y.val) W := by
  have hl : (Instr.loadAt 33 (.pointer (some ⟨b, off, none⟩))).run Tryd.prog W = .ok y.val W :=
    run_loadAt_mid W b off _ y.cells _ h Tryd.underlying33 rfl (by kernel_rfl)
  unfold execOp
  simp only [ho, hx, Sem.run_bind, hl, Result.andThen_ok, Sem.run_pure]

end Go.Proofs.YtniihmafbeplaaaDoor
