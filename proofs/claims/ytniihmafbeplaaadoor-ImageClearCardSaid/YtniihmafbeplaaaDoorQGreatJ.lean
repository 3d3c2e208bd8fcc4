/- The document's own layer 7: Great. -/
import Derived.Test.YtniihmafbeplaaaDoorQB
import Derived.Test.YtniihmafbeplaaaDoorQC
namespace Go.Proofs.YtniihmafbeplaaaDoor
open Go.RowKit Go.Shelf
set_option linter.unusedVariables false
set_option linter.unusedSimpArgs false

/-- Too great to be asked? -/
def greatJ (l : Lay) : Bool := ((l.exits.take 21).any fun x => decide (20 < (x.over.length : Int))) || (decide (30 < (l.secs.length : Int)) || (decide (20 < (l.sigs.length : Int)) || (decide (20 < (l.exits.length : Int)) || decide (30 < (l.flanks.length : Int)))))
theorem greatJ_no {l : Lay} (h : greatJ l = false) : l.secs.length ≤ 30 ∧ l.sigs.length ≤ 20 ∧ l.exits.length ≤ 20 ∧ l.flanks.length ≤ 30 ∧ ∀ x ∈ l.exits, x.over.length ≤ 20 := by
  unfold greatJ at h
  simp only [Bool.or_eq_false_iff, decide_eq_false_iff_not] at h
  obtain ⟨h0, h1, h2, h3, h4⟩ := h
  refine ⟨by omega, by omega, by omega, by omega, fun x hx => ?_⟩
  rw [List.take_of_length_le (by omega), List.any_eq_false] at h0
  have := h0 x hx
  rw [decide_eq_true_eq] at this
  omega
section
variable {P : World → Prop} {w : World}
set_option maxRecDepth 100000 in
set_option maxHeartbeats 8000000 in
theorem greatJ_P (hP : Closed P) {l : Lay} (hL : ∀ w, P w → Lies l w) {r : Bool} (hr : greatJ l = r) (h : P w) :
    Calls Tryd.prog 8 #[l.val] w fun e w' => e = .returned (.bool r) ∧ P w' := by
  obtain ⟨Q, HQ, HQp, HQl, hq⟩ := keep_box hP h 29 l.cells
  have hnE := (hL _ h).nE
  have HG := Lib.hid hr
  clear hr
  go_enter Tryd.func8, Tryd.ntmps8
  go_wp2_with fail
  go_loopw [3] (fun i wr => ∃ j : Nat, j ≤ l.exits.length ∧ j ≤ 21 ∧ i = .int .i64 j ∧ Q wr ∧ Hid (NoneUp (fun x : Exm => decide (20 < (x.over.length : Int))) (l.exits.take 21) j))
    (fun i _ => l.exits.length - (intOf i).toNat)
  case atStart => exact ⟨0, by omega, by omega, rfl, hq, Lib.hid (NoneUp.zero _ _)⟩
  case round =>
    clear hq
    obtain ⟨j, hj, hj31, rfl, hq, HNo⟩ := hrel
    have x2 := (HQl.out _ hq).cell_at 2 rfl
    by_cases hlt : j < l.exits.length ∧ j ≤ 20
    · obtain ⟨hlt, h30⟩ := hlt
      have hlt' : (j : Int) < l.exits.length := by omega
      have h30' : (j : Int) ≤ 20 := by omega
      obtain ⟨x, hx⟩ : ∃ x, l.exits[j]? = some x := ⟨_, List.getElem?_eq_getElem hlt⟩
      have HX := Lib.hid hx
      have HX2 : Hid ((l.exits.take 21)[j]? = some x) := Lib.hid (by rw [List.getElem?_take, if_pos (by omega)]; exact hx)
      clear hx
      obtain ⟨b, off, hA, hb, hc0, hc⟩ := (hL _ (HQp.out _ hq)).exits.nth (n := 3) (fun _ => rfl) (by omega) HX.out
      have c2 := hc j x 2 _ HX.out rfl
      rw [hA] at x2
      clear hc0 hc
      by_cases h20 : 20 < (x.over.length : Int)
      · have HF : Hid (true = r) := Lib.hid (by
          rw [← HG.out]
          unfold greatJ
          rw [any_hit HX2.out (by simpa using h20)]
          rfl)
        clear hA
        go_wp2_with fail
        go_ret
        exact ⟨ret_bool HF.out, HQp.out _ hq⟩
      · have HN := Lib.hid (HNo.out.succ HX2.out (decide_eq_false h20))
        have h20' := decide_eq_false h20
        clear h20 hA
        go_wp2_with fail
        go_roundw
        case rel => exact ⟨j + 1, hlt, by omega, by go_num, hq, HN⟩
        case measure => simp [intOf]; omega
    · have hend : (j = l.exits.length) ∨ (j < l.exits.length ∧ j = 21) := by omega
      have HA : Hid (((l.exits.take 21).any fun x => decide (20 < (x.over.length : Int))) = false) := Lib.hid (by
        refine NoneUp.any ?_
        have : (l.exits.take 21).length ≤ j := by rw [List.length_take]; omega
        exact fun i x hi hx => HNo.out i x (by omega) hx)
      have HR : Hid ((decide (30 < (l.secs.length : Int)) || (decide (20 < (l.sigs.length : Int)) || (decide (20 < (l.exits.length : Int)) || decide (30 < (l.flanks.length : Int))))) = r) := Lib.hid (by rw [← HG.out]; unfold greatJ; rw [HA.out]; rfl)
      have hp := HQp.out _ hq
      have hcase : (30 < (l.secs.length : Int)) ∨ (¬ 30 < (l.secs.length : Int) ∧ 20 < (l.sigs.length : Int)) ∨ (¬ 30 < (l.secs.length : Int) ∧ ¬ 20 < (l.sigs.length : Int) ∧ 20 < (l.exits.length : Int)) ∨ (¬ 30 < (l.secs.length : Int) ∧ ¬ 20 < (l.sigs.length : Int) ∧ ¬ 20 < (l.exits.length : Int) ∧ 30 < (l.flanks.length : Int)) ∨ (¬ 30 < (l.secs.length : Int) ∧ ¬ 20 < (l.sigs.length : Int) ∧ ¬ 20 < (l.exits.length : Int) ∧ ¬ 30 < (l.flanks.length : Int)) := by omega
      have x0 := (HQl.out _ hq).cell_at 0 rfl
      have x1 := (HQl.out _ hq).cell_at 1 rfl
      have x3 := (HQl.out _ hq).cell_at 3 rfl
      clear hlt HA HNo HG
      rcases hend with rfl | ⟨hl1, rfl⟩
      · clear hj31
        rcases hcase with h1 | ⟨h1, h2⟩ | ⟨h1, h2, h3⟩ | ⟨h1, h2, h3, h4⟩ | ⟨h1, h2, h3, h4⟩
        · have HF := Lib.hid (HR.out.symm.trans (show _ = true by simp [h1]))
          have d1 := decide_eq_true h1
          clear h1
          go_wp2_with fail
          go_ret
          exact ⟨ret_bool HF.out.symm, hp⟩
        · have HF := Lib.hid (HR.out.symm.trans (show _ = true by simp [h1, h2]))
          have d1 := decide_eq_false h1
          clear h1
          have d2 := decide_eq_true h2
          clear h2
          go_wp2_with fail
          go_ret
          exact ⟨ret_bool HF.out.symm, hp⟩
        · have HF := Lib.hid (HR.out.symm.trans (show _ = true by simp [h1, h2, h3]))
          have d1 := decide_eq_false h1
          clear h1
          have d2 := decide_eq_false h2
          clear h2
          have d3 := decide_eq_true h3
          clear h3
          go_wp2_with fail
          go_ret
          exact ⟨ret_bool HF.out.symm, hp⟩
        · have HF := Lib.hid (HR.out.symm.trans (show _ = true by simp [h1, h2, h3, h4]))
          have d1 := decide_eq_false h1
          clear h1
          have d2 := decide_eq_false h2
          clear h2
          have d3 := decide_eq_false h3
          clear h3
          have d4 := decide_eq_true h4
          clear h4
          go_wp2_with fail
          go_ret
          exact ⟨ret_bool HF.out.symm, hp⟩
        · have HF := Lib.hid (HR.out.symm.trans (show _ = false by simp [h1, h2, h3, h4]))
          have d1 := decide_eq_false h1
          clear h1
          have d2 := decide_eq_false h2
          clear h2
          have d3 := decide_eq_false h3
          clear h3
          have d4 := decide_eq_false h4
          clear h4
          go_wp2_with fail
          go_ret
          exact ⟨ret_bool HF.out.symm, hp⟩
      · have hl1' : (21 : Int) < l.exits.length := by omega
        rw [show ((21 : Nat) : Int) = 21 from rfl]
        rcases hcase with h1 | ⟨h1, h2⟩ | ⟨h1, h2, h3⟩ | ⟨h1, h2, h3, h4⟩ | ⟨h1, h2, h3, h4⟩
        · have HF := Lib.hid (HR.out.symm.trans (show _ = true by simp [h1]))
          have d1 := decide_eq_true h1
          clear h1
          go_wp2_with fail
          go_ret
          exact ⟨ret_bool HF.out.symm, hp⟩
        · have HF := Lib.hid (HR.out.symm.trans (show _ = true by simp [h1, h2]))
          have d1 := decide_eq_false h1
          clear h1
          have d2 := decide_eq_true h2
          clear h2
          go_wp2_with fail
          go_ret
          exact ⟨ret_bool HF.out.symm, hp⟩
        · have HF := Lib.hid (HR.out.symm.trans (show _ = true by simp [h1, h2, h3]))
          have d1 := decide_eq_false h1
          clear h1
          have d2 := decide_eq_false h2
          clear h2
          have d3 := decide_eq_true h3
          clear h3
          go_wp2_with fail
          go_ret
          exact ⟨ret_bool HF.out.symm, hp⟩
        · have HF := Lib.hid (HR.out.symm.trans (show _ = true by simp [h1, h2, h3, h4]))
          have d1 := decide_eq_false h1
          clear h1
          have d2 := decide_eq_false h2
          clear h2
          have d3 := decide_eq_false h3
          clear h3
          have d4 := decide_eq_true h4
          clear h4
          go_wp2_with fail
          go_ret
          exact ⟨ret_bool HF.out.symm, hp⟩
        · have HF := Lib.hid (HR.out.symm.trans (show _ = false by simp [h1, h2, h3, h4]))
          have d1 := decide_eq_false h1
          clear h1
          have d2 := decide_eq_false h2
          clear h2
          have d3 := decide_eq_false h3
          clear h3
          have d4 := decide_eq_false h4
          clear h4
          go_wp2_with fail
          go_ret
          exact ⟨ret_bool HF.out.symm, hp⟩

end
end Go.Proofs.YtniihmafbeplaaaDoor
