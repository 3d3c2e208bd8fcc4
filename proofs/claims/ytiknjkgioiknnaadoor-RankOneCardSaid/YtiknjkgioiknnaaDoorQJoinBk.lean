/- Joins as a matching: what lies beyond what lies beyond; joins speak of the sections alone. -/
import Derived.Test.YtiknjkgioiknnaaDoorQJoinL
import Derived.Test.YtiknjkgioiknnaaDoorQC
namespace Go.Proofs.YtiknjkgioiknnaaDoor
open Go.RowKit Go.Shelf
set_option linter.unusedVariables false
set_option linter.unusedSimpArgs false

theorem joined_back {l : Lay} {s p : Int} (h : joinedL l = true) {q : Int × Int} (hq : beyondV l s p = q) : q = (-1, 0) ∨ (q.1 ≠ -1 ∧ thereV l s p = true ∧ thereV l q.1 q.2 = true ∧ q.1 ≠ s ∧ beyondV l q.1 q.2 = (s, p)) := by
  cases ht : thereV l s p
  · exact .inl (by rw [← hq, beyondV_no ht])
  · obtain ⟨j, rfl, hx⟩ := atV_yes ht
    obtain ⟨k, rfl⟩ : ∃ k : Nat, p = k := by
      unfold thereV at ht
      rw [withinA_iff] at ht
      exact ⟨p.toNat, by omega⟩
    have hk : k < (pK (atV l j k).k).toNat := by
      rw [there_at, kindV_at hx] at ht
      exact of_decide_eq_true ht
    have hj := ((joinedL_iff.1 h).2 j _ hx).2 k hk
    unfold joinedP at hj
    rw [hq] at hj
    simp only [Bool.or_eq_true, Bool.and_eq_true, beq_iff_eq, Bool.not_eq_true', beq_eq_false_iff_ne] at hj
    rcases hj with ⟨h1, h2⟩ | ⟨h1, h2, h3⟩
    · exact .inl (Prod.ext h1 h2)
    · right
      have hb : beyondV l q.1 q.2 = ((j : Int), (k : Int)) := Prod.ext h2 h3
      have htq : thereV l q.1 q.2 = true := by
        cases e : thereV l q.1 q.2
        · rw [beyondV_no e] at hb
          have := congrArg Prod.fst hb
          simp at this
        · rfl
      obtain ⟨i, x, e, _⟩ := thereV_some htq
      exact ⟨by omega, rfl, htq, h1, hb⟩
theorem kindV_secs {l m : Lay} (h : m.secs = l.secs) (s : Int) : kindV m s = kindV l s := by unfold kindV; rw [h]
theorem thereV_kind {l m : Lay} (h : ∀ s, kindV m s = kindV l s) (s p : Int) : thereV m s p = thereV l s p := by unfold thereV; rw [h]
theorem beyondV_at {l m : Lay} (h : ∀ s, kindV m s = kindV l s) {s : Int} (hs : m.secs[s.toNat]? = l.secs[s.toNat]?) (p : Int) : beyondV m s p = beyondV l s p := by
  unfold beyondV atV
  rw [thereV_kind h, hs]
theorem joinedP_secs {l m : Lay} (h : m.secs = l.secs) (s p : Int) : joinedP m s p = joinedP l s p := by
  have hb : ∀ s p, beyondV m s p = beyondV l s p := fun s p => beyondV_at (kindV_secs h) (by rw [h]) p
  unfold joinedP
  rw [hb, hb]
theorem joinedL_secs {l m : Lay} (h : m.secs = l.secs) : joinedL m = joinedL l := by
  rw [Bool.eq_iff_iff, joinedL_iff, joinedL_iff, h]
  constructor
  · rintro ⟨h1, h2⟩
    exact ⟨h1, fun s x hx => ⟨(h2 s x hx).1, fun p hp => by rw [← joinedP_secs h]; exact (h2 s x hx).2 p hp⟩⟩
  · rintro ⟨h1, h2⟩
    exact ⟨h1, fun s x hx => ⟨(h2 s x hx).1, fun p hp => by rw [joinedP_secs h]; exact (h2 s x hx).2 p hp⟩⟩
end Go.Proofs.YtiknjkgioiknnaaDoor
