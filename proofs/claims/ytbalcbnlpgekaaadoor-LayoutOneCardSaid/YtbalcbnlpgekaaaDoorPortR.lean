/- The document's own answer for layer 5. -/
import Derived.Test.YtbalcbnlpgekaaaDoorPortK0
namespace Go.Proofs.YtbalcbnlpgekaaaDoor
open Go.RowKit Go.Shelf
set_option linter.unusedVariables false
set_option linter.unusedSimpArgs false

section
variable {P : World → Prop} {w : World} {k p n a b c d : Int}
theorem portsR_P (hk : IsShape k p n a b c d) (h : P w) : Calls Tryd.prog 24 #[.int .u8 k] w fun e w' => e = .returned (.int .i64 p) ∧ P w' := by
  have hk4 : (k = 1 ∧ p = 2) ∨ (k = 2 ∧ p = 3) ∨ (k = 3 ∧ p = 4) ∨ ((¬ k = 1 ∧ ¬ k = 2 ∧ ¬ k = 3) ∧ p = 0) := by unfold IsShape at hk; omega
  clear hk
  rcases hk4 with ⟨rfl, rfl⟩ | ⟨rfl, rfl⟩ | ⟨rfl, rfl⟩ | ⟨⟨h1, h2, h3⟩, rfl⟩
  all_goals
    go_enter Tryd.func24, Tryd.ntmps24
    go_wp2_with fail
    go_ret
    exact ⟨rfl, h⟩
theorem waysR_P (hk : IsShape k p n a b c d) (h : P w) : Calls Tryd.prog 68 #[.int .u8 k] w fun e w' => e = .returned (.int .i64 n) ∧ P w' := by
  have hk4 : (k = 1 ∧ n = 1) ∨ (k = 2 ∧ n = 2) ∨ (k = 3 ∧ n = 2) ∨ ((¬ k = 1 ∧ ¬ k = 2 ∧ ¬ k = 3) ∧ n = 0) := by unfold IsShape at hk; omega
  clear hk
  rcases hk4 with ⟨rfl, rfl⟩ | ⟨rfl, rfl⟩ | ⟨rfl, rfl⟩ | ⟨⟨h1, h2, h3⟩, rfl⟩
  all_goals
    go_enter Tryd.func68, Tryd.ntmps68
    go_wp2_with fail
    go_ret
    exact ⟨rfl, h⟩
set_option maxHeartbeats 1000000 in
theorem endsR_P (y : Int) {u v : Int} {r : Bool} (hk : IsShape k p n a b c d) (hu : endA n a c y = u) (hv : endA n b d y = v) (hr : hasV n y = r) (h : P w) :
    Calls Tryd.prog 69 #[.int .u8 k, .int .i64 y] w fun e w' => e = .returned (.tuple #[.int .i64 u, .int .i64 v, .bool r]) ∧ P w' := by
  have HW := Lib.hid (fun w' h' => waysR_P (P := P) (w := w') hk h')
  have hn := isShape_n hk
  have hcase : (y < 0 ∧ u = 0 ∧ v = 0 ∧ r = false) ∨ (0 ≤ y ∧ n ≤ y ∧ u = 0 ∧ v = 0 ∧ r = false) ∨ (y = 0 ∧ 0 < n ∧ u = 0 ∧ v = 1 ∧ r = true) ∨ (y = 1 ∧ k = 2 ∧ n = 2 ∧ u = 0 ∧ v = 2 ∧ r = true) ∨ (y = 1 ∧ k = 3 ∧ n = 2 ∧ u = 2 ∧ v = 3 ∧ r = true) := by
    by_cases h1 : y < 0
    · have := hasV_no (n := n) (.inl h1)
      exact .inl ⟨h1, hu.symm.trans (endA_no this), hv.symm.trans (endA_no this), hr.symm.trans this⟩
    · by_cases h2 : n ≤ y
      · have := hasV_no (.inr h2)
        exact .inr (.inl ⟨by omega, h2, hu.symm.trans (endA_no this), hv.symm.trans (endA_no this), hr.symm.trans this⟩)
      · have hh : hasV n y = true := by unfold hasV; simp; omega
        unfold endA at hu hv
        rw [hh, if_pos rfl] at hu hv
        have hr' : r = true := hr.symm.trans hh
        by_cases h0 : y = 0
        · rw [if_pos h0] at hu hv
          refine .inr (.inr (.inl ⟨h0, by omega, ?_, ?_, hr'⟩)) <;> (unfold IsShape at hk; omega)
        · rw [if_neg h0] at hu hv
          unfold IsShape at hk
          rcases hk with hk | hk | hk | hk
          · omega
          · exact .inr (.inr (.inr (.inl ⟨by omega, hk.1, by omega, by omega, by omega, hr'⟩)))
          · exact .inr (.inr (.inr (.inr ⟨by omega, hk.1, by omega, by omega, by omega, hr'⟩)))
          · omega
  clear hk hu hv hr
  rcases hcase with ⟨h1, rfl, rfl, rfl⟩ | ⟨h1, h2, rfl, rfl, rfl⟩ | ⟨rfl, h1, rfl, rfl, rfl⟩ | ⟨rfl, rfl, rfl, rfl, rfl, rfl⟩ | ⟨rfl, rfl, rfl, rfl, rfl, rfl⟩
  · clear hn
    go_enter Tryd.func69, Tryd.ntmps69
    go_wp2_with fail
    exact bodyPost_ret (v := .tuple #[.int .i64 0, .int .i64 0, .bool false]) (by simp [results, Tryd.f69, go_sem]) rfl ⟨rfl, h⟩
  · clear hn
    go_enter Tryd.func69, Tryd.ntmps69
    go_wp2_with fail
    refine (HW.out _ h).mono ?_
    clear h
    rintro e w' ⟨rfl, h⟩
    go_wp2_with fail
    exact bodyPost_ret (v := .tuple #[.int .i64 0, .int .i64 0, .bool false]) (by simp [results, Tryd.f69, go_sem]) rfl ⟨rfl, h⟩
  · clear hn
    go_enter Tryd.func69, Tryd.ntmps69
    go_wp2_with fail
    refine (HW.out _ h).mono ?_
    clear h
    rintro e w' ⟨rfl, h⟩
    go_wp2_with fail
    exact bodyPost_ret (v := .tuple #[.int .i64 0, .int .i64 1, .bool true]) (by simp [results, Tryd.f69, go_sem]) rfl ⟨rfl, h⟩
  · clear hn
    go_enter Tryd.func69, Tryd.ntmps69
    go_wp2_with fail
    refine (HW.out _ h).mono ?_
    clear h
    rintro e w' ⟨rfl, h⟩
    go_wp2_with fail
    exact bodyPost_ret (v := .tuple #[.int .i64 0, .int .i64 2, .bool true]) (by simp [results, Tryd.f69, go_sem]) rfl ⟨rfl, h⟩
  · clear hn
    go_enter Tryd.func69, Tryd.ntmps69
    go_wp2_with fail
    refine (HW.out _ h).mono ?_
    clear h
    rintro e w' ⟨rfl, h⟩
    go_wp2_with fail
    exact bodyPost_ret (v := .tuple #[.int .i64 2, .int .i64 3, .bool true]) (by simp [results, Tryd.f69, go_sem]) rfl ⟨rfl, h⟩
end
end Go.Proofs.YtbalcbnlpgekaaaDoor
