/- Rows behind a tick: what they may be. -/
import Derived.Test.YtniihmafbeplaaaDoorQLiA
import Derived.Test.YtniihmafbeplaaaDoorQG
namespace Go.Proofs.YtniihmafbeplaaaDoor
open Go.RowKit Go.Shelf
set_option linter.unusedVariables false
set_option linter.unusedSimpArgs false

theorem row_ok (t : Bool) (y : Int) : okC (rowTk t y) = true := by
  unfold okC rowTk moreTk countTk
  rw [decide_eq_true_eq]
  cases t <;> simp <;> omega
theorem row_is {y : Int} (h : okC y = true) (t : Bool) : rowTk t y = 0 ∨ rowTk t y = min (y + 1) 65535 := by
  unfold okC at h
  rw [decide_eq_true_eq] at h
  cases t with
  | false => exact .inl rfl
  | true =>
    refine .inr ?_
    unfold rowTk moreTk countTk
    simp
    omega
theorem cnt_ok (c : Nat → Bool) (fs : List Int) : (cntF c fs).all okC = true := by
  rw [List.all_eq_true]
  intro v hv
  obtain ⟨k, hk⟩ := List.mem_iff_getElem?.1 hv
  have hlt := (List.getElem?_eq_some_iff.1 hk).1
  rw [cntF_len] at hlt
  rw [cntF_at (List.getElem?_eq_getElem hlt)] at hk
  cases hk
  exact row_ok _ _
theorem take_right (l : Lay) (im : Img) (x : Inn) : rightI (takeI l im x) = true := by
  unfold rightI
  rw [show (takeI l im x).free.all okC = true from cnt_ok _ _, show okC (takeI l im x).age = true from rfl]
  rfl
theorem pass_right (l : Lay) (im : Img) : rightI (passI l im) = true := by
  unfold rightI
  rw [show (passI l im).free.all okC = true from cnt_ok _ _, show okC (passI l im).age = okC (moreTk im.age 1) from rfl, show okC (moreTk im.age 1) = true from row_ok true im.age]
  rfl
theorem took_at {l : Lay} {im : Img} {x : Inn} {k : Nat} {y : Int} (hy : im.free[k]? = some y) : (takeI l im x).free[k]? = some (rowTk (clearI l ((im.aged 0).told x) k) y) := cntF_at hy
theorem passed_at {l : Lay} {im : Img} {k : Nat} {y : Int} (hy : im.free[k]? = some y) : (passI l im).free[k]? = some (rowTk (clearI l (im.aged (moreTk im.age 1)) k) y) := cntF_at hy
theorem take_bit {l : Lay} {im : Img} {x : Inn} {k : Nat} {y : Int} (hb : bitU x.o k = true) : rowTk (clearI l ((im.aged 0).told x) k) y = 0 := by
  have : clearI l ((im.aged 0).told x) k = false := by
    unfold clearI
    rw [show bitU ((im.aged 0).told x).o k = bitU x.o k from rfl, hb]
    simp
  rw [this]
  rfl
theorem pass_stale {l : Lay} {im : Img} {k : Nat} {y : Int} (hs : l.t2 < moreTk im.age 1) : rowTk (clearI l (im.aged (moreTk im.age 1)) k) y = 0 := by
  have : clearI l (im.aged (moreTk im.age 1)) k = false := by
    unfold clearI staleI
    rw [show (im.aged (moreTk im.age 1)).age = moreTk im.age 1 from rfl, decide_eq_true hs]
    rfl
  rw [this]
  rfl
theorem age_is {im : Img} (h : okC im.age = true) : moreTk im.age 1 = min (im.age + 1) 65535 := by
  unfold okC at h
  rw [decide_eq_true_eq] at h
  unfold moreTk countTk
  omega

end Go.Proofs.YtniihmafbeplaaaDoor
