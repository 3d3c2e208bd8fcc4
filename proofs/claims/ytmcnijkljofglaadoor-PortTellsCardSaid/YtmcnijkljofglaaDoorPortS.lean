/- The document's own answer for layer 5: ways, positions, outs, which may be; the same numbers. -/
import Derived.Test.YtmcnijkljofglaaDoorPortR
namespace Go.Proofs.YtmcnijkljofglaaDoor
open Go.RowKit Go.Shelf
set_option linter.unusedVariables false
set_option linter.unusedSimpArgs false

theorem waysL_succ {n a b c d : Int} {j : Nat} (hn : n = 0 ∨ n = 1 ∨ n = 2) (hj : (j : Int) < n) : (waysL n a b c d).take (j + 1) = (waysL n a b c d).take j ++ [((j : Int), endA n a c j, endA n b d j)] := by
  rcases hn with rfl | rfl | rfl
  · omega
  · obtain rfl : j = 0 := by omega
    rfl
  · have : j = 0 ∨ j = 1 := by omega
    rcases this with rfl | rfl <;> rfl
theorem hasV_yes {n : Int} {j : Nat} (hj : (j : Int) < n) : hasV n j = true := by unfold hasV; simp; omega

section
variable {P : World → Prop} {w : World} {k p n a b c d : Int}
set_option maxRecDepth 100000 in
set_option maxHeartbeats 4000000 in
theorem wayR_P (i o : Int) {v : Int} {r : Bool} (hk : IsShape k p n a b c d) (hv : wayV n a b c d i o = v) (hr : goesV n a b c d i o = r) (h : P w) :
    Calls Tryd.prog 11 #[.int .u8 k, .int .i64 i, .int .i64 o] w fun e w' => e = .returned (.tuple #[.int .i64 v, .bool r]) ∧ P w' := by
  have HW := Lib.hid (fun w' h' => waysR_P (P := P) (w := w') hk h')
  have HN := Lib.hid (isShape_n hk)
  have hn2 : n ≤ 2 := by have := HN.out; omega
  have HF : Hid (findW i o (waysL n a b c d) = if r = true then some v else none) := Lib.hid (by rw [findW_ways HN.out, hv, hr])
  have HZ : Hid (r = false → v = 0) := Lib.hid (by rw [← hv, ← hr]; exact wayV_none)
  have HE := Lib.hid (fun (y u v : Int) (r : Bool) hu hv hr w' h' => endsR_P (P := P) (w := w') y (u := u) (v := v) (r := r) hk hu hv hr h')
  clear hk hv hr
  go_enter Tryd.func11, Tryd.ntmps11
  go_wp2_with fail
  go_loopw [8] (fun x wr => ∃ j : Nat, (j : Int) ≤ max n 0 ∧ x = .int .i64 j ∧ Hid (findW i o ((waysL n a b c d).take j) = none) ∧ P wr)
    (fun x _ => n.toNat - (intOf x).toNat)
  case atStart => exact ⟨0, by omega, rfl, Lib.hid rfl, h⟩
  case round =>
    obtain ⟨j, hj, rfl, HNo, hp⟩ := hrel
    go_wp2_with fail
    refine (HW.out _ hp).mono ?_
    clear hp
    rintro e w1 ⟨rfl, hp⟩
    by_cases hlt : (j : Int) < n
    · obtain ⟨A, hA⟩ : ∃ A, endA n a c j = A := ⟨_, rfl⟩
      obtain ⟨B, hB⟩ : ∃ B, endA n b d j = B := ⟨_, rfl⟩
      have HSn : Hid (findW i o ((waysL n a b c d).take (j + 1)) = if joinV A B i o = true then some (j : Int) else none) := Lib.hid (by
        rw [waysL_succ HN.out hlt, hA, hB]
        exact findW_snoc HNo.out)
      have HA := Lib.hid hA
      have HB := Lib.hid hB
      clear hA hB
      go_wp2_with fail
      refine (HE.out j A B true HA.out HB.out (hasV_yes hlt) _ hp).mono ?_
      clear hp
      rintro e w2 ⟨rfl, hp⟩
      cases hjv : joinV A B i o
      · have HNx : Hid (findW i o ((waysL n a b c d).take (j + 1)) = none) := Lib.hid (by rw [HSn.out, hjv]; rfl)
        have hcase : (¬ i = A ∧ ¬ i = B) ∨ (¬ i = A ∧ i = B ∧ ¬ o = A) ∨ (i = A ∧ ¬ o = B ∧ ¬ i = B) ∨ (i = A ∧ ¬ o = B ∧ i = B ∧ ¬ o = A) := by
          unfold joinV at hjv
          rw [Bool.or_eq_false_iff, Bool.and_eq_false_iff, Bool.and_eq_false_iff] at hjv
          simp only [beq_eq_false_iff_ne] at hjv
          omega
        clear hjv HSn
        rcases hcase with ⟨h1, h2⟩ | ⟨h1, rfl, h3⟩ | ⟨rfl, h2, h3⟩ | ⟨rfl, h2, rfl, h4⟩
        all_goals
          go_wp2_with fail
          all_goals
            go_roundw
            case rel => exact ⟨j + 1, by omega, by go_num, HNx, hp⟩
            case measure => simp [intOf]; omega
      · have hfull : findW i o (waysL n a b c d) = some (j : Int) := findW_take (j := j + 1) (by rw [HSn.out, hjv]; rfl)
        rw [HF.out] at hfull
        have hrv : r = true ∧ v = j := by
          cases r
          · simp at hfull
          · exact ⟨rfl, by simpa using hfull⟩
        obtain ⟨rfl, hvj⟩ := hrv
        have HVJ := Lib.hid hvj
        have hcase : (i = A ∧ o = B) ∨ (i = B ∧ o = A ∧ ¬ i = A) ∨ (i = A ∧ ¬ o = B ∧ i = B ∧ o = A) := by
          unfold joinV at hjv
          rw [Bool.or_eq_true, Bool.and_eq_true, Bool.and_eq_true] at hjv
          simp only [beq_iff_eq] at hjv
          omega
        clear hjv HSn hfull hvj
        rcases hcase with ⟨rfl, rfl⟩ | ⟨rfl, rfl, h3⟩ | ⟨rfl, h2, h3, h4⟩
        · go_wp2_with fail
          go_ret2
          exact ⟨by rw [HVJ.out]; rfl, hp⟩
        · go_wp2_with fail
          go_ret2
          exact ⟨by rw [HVJ.out]; rfl, hp⟩
        · exact absurd (h4.trans h3) h2
    · obtain rfl : j = n.toNat := by omega
      have hall : (waysL n a b c d).take n.toNat = waysL n a b c d := List.take_of_length_le (by unfold waysL; rw [List.length_take]; omega)
      have hno := HNo.out
      rw [hall, HF.out] at hno
      have hr0 : r = false := by cases r <;> simp at hno ⊢
      subst hr0
      have HV0 := Lib.hid (HZ.out rfl)
      clear hall hno
      go_wp2_with fail
      go_ret2
      exact ⟨by rw [HV0.out]; rfl, hp⟩

set_option maxHeartbeats 1000000 in
theorem posR_P (i o : Int) {v : Int} {r : Bool} (hk : IsShape k p n a b c d) (hv : posV k n a b c d i o = v) (hr : goesV n a b c d i o = r) (h : P w) :
    Calls Tryd.prog 17 #[.int .u8 k, .int .i64 i, .int .i64 o] w fun e w' => e = .returned (.tuple #[.int .i64 v, .bool r]) ∧ P w' := by
  have HW := Lib.hid (wayR_P (P := P) (w := w) i o hk rfl hr h)
  have hcase : (r = false ∧ v = 0 ∧ wayV n a b c d i o = 0) ∨ (r = true ∧ k = 2 ∧ v = wayV n a b c d i o) ∨ (r = true ∧ ¬ k = 2 ∧ v = -1) := by
    subst hv hr
    unfold posV
    cases h : goesV n a b c d i o
    · exact .inl ⟨rfl, rfl, wayV_none h⟩
    · by_cases h2 : k = 2
      · exact .inr (.inl ⟨rfl, h2, by rw [if_pos rfl, if_pos h2]⟩)
      · exact .inr (.inr ⟨rfl, h2, by rw [if_pos rfl, if_neg h2]⟩)
  clear hk hv hr h
  rcases hcase with ⟨rfl, rfl, hw⟩ | ⟨rfl, rfl, rfl⟩ | ⟨rfl, hk, rfl⟩
  · rw [hw] at HW
    clear hw
    go_enter Tryd.func17, Tryd.ntmps17
    go_wp2_with fail
    refine HW.out.mono ?_
    rintro e w' ⟨rfl, h⟩
    go_wp2_with fail
    go_ret2
    exact ⟨rfl, h⟩
  · go_enter Tryd.func17, Tryd.ntmps17
    go_wp2_with fail
    refine HW.out.mono ?_
    rintro e w' ⟨rfl, h⟩
    go_wp2_with fail
    go_ret2
    exact ⟨rfl, h⟩
  · have hk' : (k != 2) = true := by simpa using hk
    clear hk
    go_enter Tryd.func17, Tryd.ntmps17
    go_wp2_with fail
    refine HW.out.mono ?_
    rintro e w' ⟨rfl, h⟩
    go_wp2_with fail
    go_ret2
    exact ⟨rfl, h⟩
end

theorem outsTo_4 {k p n a b c d : Int} (i : Int) (hk : IsShape k p n a b c d) : outsTo n a b c d i 4 = outsTo n a b c d i p.toNat := by
  unfold IsShape at hk
  rcases hk with ⟨_, rfl, rfl, rfl, rfl, rfl, rfl⟩ | ⟨_, rfl, rfl, rfl, rfl, rfl, rfl⟩ | ⟨_, rfl, rfl, rfl, rfl, rfl, rfl⟩ | ⟨_, rfl, rfl, rfl, rfl, rfl, rfl⟩
  all_goals
    simp [outsTo, goesV, joinV]

set_option maxRecDepth 100000 in
set_option maxHeartbeats 4000000 in
theorem outsR_P {P : World → Prop} {w : World} {k p n a b c d : Int} (hP : Closed P) (i : Int) {l : List Int} (hs : IsShape k p n a b c d) (hl : outsTo n a b c d i p.toNat = l) (h : P w) :
    Calls Tryd.prog 20 #[.int .u8 k, .int .i64 i] w fun e w' => ∃ A cap, e = .returned (.slice A l.length cap) ∧ l.length ≤ cap ∧ Row w' w'.heap.size A (nums .i64 l) ∧ P w' := by
  subst hl
  rw [← outsTo_4 i hs]
  have HWy := Lib.hid (fun (o : Int) (wx : World) => wayR_P (P := fun w' => w' = wx) (w := wx) (v := wayV n a b c d i o) (r := goesV n a b c d i o) i o hs rfl rfl rfl)
  clear hs
  go_enter Tryd.func20, Tryd.ntmps20
  go_wp2_with fail
  go_loopw [5, 6] (fun v i' wr => ∃ j : Nat, j ≤ 4 ∧ i' = .int .i64 j ∧ wr.ownsRow w.heap.size 3 1 v (outsTo n a b c d i j).length (nums .i64 (outsTo n a b c d i j)) ∧ Below w.heap.size w wr)
    (fun _ i' _ => 4 - (intOf i').toNat)
  case atStart => exact ⟨0, by omega, rfl, World.ownsRow_nil _ _ _ _, Below.refl _ _⟩
  case round =>
    obtain ⟨j, hj, rfl, hown, hB⟩ := hrel
    by_cases hlt : j < 4
    · have hlt' : (j : Int) < 4 := by omega
      go_wp2_with fail
      refine (HWy.out (j : Int) _).mono ?_
      have hle := outsTo_le n a b c d i j
      generalize wayV n a b c d i j = wv
      cases hg : goesV n a b c d i j
      · have HG : Hid (outsTo n a b c d i (j + 1) = outsTo n a b c d i j) := Lib.hid (by rw [outsTo, hg]; simp)
        clear hg
        rintro e w2 ⟨rfl, rfl⟩
        go_wp2_with fail
        go_roundw
        case rel => exact ⟨j + 1, hlt, by go_num, by rw [HG.out]; exact hown, hB⟩
        case measure => simp [intOf]; omega
      · have HG : Hid (outsTo n a b c d i (j + 1) = outsTo n a b c d i j ++ [(j : Int)]) := Lib.hid (by rw [outsTo, hg]; simp)
        clear hg
        rintro e w2 ⟨rfl, rfl⟩
        have hsw := hB.size
        obtain ⟨v', w3, hrun, hown', hgr, hB3⟩ := append_int w.heap.size _ _ _ (j : Int) (w2.alloc (.cells #[.int .i64 j] 3)) w2.heap.size (ownsV_keep hown (below1 _ _)) ((Whole.new w2 _ [_]).cell_at 0 rfl) (by omega) (by simp; omega)
        have HO := Lib.hid hown'
        clear hown' hown
        go_wp2_with (at_builtin; refine list_append rfl (.tmp 21) (.tmp 23) 36 rfl hrun ?_)
        have hB4 := hB.trans (((below1 w2 _).mono (by omega)).trans hB3)
        go_roundw
        case rel => exact ⟨j + 1, hlt, by go_num, by rw [HG.out, List.length_append]; simpa [nums] using HO.out, hB4⟩
        case measure => simp [intOf]; omega
    · obtain rfl : j = 4 := by omega
      obtain ⟨A, cap, rfl, hr, hc⟩ := owns_slice hown
      have hc' : (outsTo n a b c d i 4).length ≤ cap := hc
      clear hown hc
      go_wp2_with fail
      go_ret
      exact ⟨A, cap, rfl, hc', hr, hP _ _ h hB⟩

set_option maxHeartbeats 4000000 in
theorem mayR_P {P : World → Prop} {w : World} (hP : Closed P) (s p : Int) {r : Bool} (hr : mayV s p = r) (h : P w) : Calls Tryd.prog 24 #[.agg #[.int .i64 s, .int .i64 p]] w fun e w' => e = .returned (.bool r) ∧ P w' := by
  have hte : ¬ s = -1 ∨ (s = -1 ∧ ¬ p = 0) ∨ (s = -1 ∧ p = 0) := by omega
  have HR : Hid (r = ((s == -1 && p == 0) || (withinV s 23 && withinV p 3))) := Lib.hid hr.symm
  clear hr
  rcases hte with hs | ⟨rfl, hq⟩ | ⟨rfl, rfl⟩
  all_goals
    go_enter Tryd.func24, Tryd.ntmps24
    go_wp2_with fail
    all_goals
      go_ret
      exact ⟨ret_bool (by rw [HR.out, Bool.eq_iff_iff]; simp [withinV]; try omega), hP _ _ h (below1 _ _)⟩
end Go.Proofs.YtmcnijkljofglaaDoor
