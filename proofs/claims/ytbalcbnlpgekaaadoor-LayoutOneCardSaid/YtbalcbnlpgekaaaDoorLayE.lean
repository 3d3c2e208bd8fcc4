/- Package slices at a layout's rows: IndexFunc, ContainsFunc; package layout: Signal, Exit. -/
import Derived.Test.YtbalcbnlpgekaaaDoorLayA
import Derived.Test.YtbalcbnlpgekaaaDoorLists
namespace Go.Proofs.YtbalcbnlpgekaaaDoor
open Go.RowKit Go.Shelf
set_option linter.unusedVariables false
set_option linter.unusedSimpArgs false

section
variable {P : World → Prop} {w : World}

set_option maxRecDepth 100000 in
set_option maxHeartbeats 4000000 in
theorem indexSignal_P (hP : Closed P) {l : List (Int × Int)} {A : Option Addr} (c : Nat) (hR : ∀ w, P w → Row w w.heap.size A (l.flatMap prtCells)) (hn : (l.length : Int) ≤ 9223372036854775807) (p0 : Value) {pr : Int × Int → Bool} {r : Int}
    (hf : ∀ x ∈ l, ∀ w, P w → Calls Tryd.prog 31 #[(prtV x.1 x.2), p0] w fun e w' => e = .returned (.bool (pr x)) ∧ P w') (hr : idxV pr l = r) (h : P w) :
    Calls Tryd.prog 30 #[.slice A l.length c, .func (.func 31) #[] #[p0]] w fun e w' => e = .returned (.int .i64 r) ∧ P w' := by
  have HF := Lib.hid hf
  have HR := Lib.hid hr
  clear hf hr
  go_enter Tryd.func30, Tryd.ntmps30
  go_wp2_with fail
  go_loopw [8] (fun i wr => ∃ j : Nat, j ≤ l.length ∧ i = .int .i64 j ∧ P wr ∧ Hid (NoneUp pr l j))
    (fun i _ => l.length - (intOf i).toNat)
  case atStart => exact ⟨0, by omega, rfl, h, Lib.hid (NoneUp.zero _ _)⟩
  case round =>
    obtain ⟨j, hj, rfl, hp, HNo⟩ := hrel
    by_cases hlt : j < l.length
    · have hlt' : (j : Int) < l.length := by omega
      obtain ⟨x, hx⟩ : ∃ x, l[j]? = some x := ⟨_, List.getElem?_eq_getElem hlt⟩
      have HX := Lib.hid hx
      have HM := Lib.hid (List.mem_of_getElem? hx)
      clear hx
      obtain ⟨b, off, hA, hb, hc0, hc⟩ := (hR _ hp).nth (n := 2) (fun _ => rfl) (by omega) HX.out
      subst hA
      have c0 := hc0 j x _ HX.out rfl
      have c1 := hc j x 1 _ HX.out rfl
      clear hc0 hc
      go_wp2_with fail
      refine (HF.out x HM.out _ hp).mono ?_
      clear hp c0 c1
      cases hpr : pr x
      · have HN := Lib.hid (HNo.out.succ HX.out hpr)
        clear hpr
        rintro e w1 ⟨rfl, hp⟩
        go_wp2_with fail
        go_roundw
        case rel => exact ⟨j + 1, hlt, by go_num, hp, HN⟩
        case measure => simp [intOf]; omega
      · have HI := Lib.hid (HNo.out.idx HX.out hpr)
        clear hpr
        rintro e w1 ⟨rfl, hp⟩
        go_wp2_with fail
        go_ret
        exact ⟨ret_int (by rw [← HR.out, HI.out]), hp⟩
    · obtain rfl : j = l.length := by omega
      have HI := Lib.hid HNo.out.idx_no
      go_wp2_with fail
      go_ret
      exact ⟨ret_int (by rw [← HR.out, HI.out]), hp⟩

set_option maxRecDepth 100000 in
set_option maxHeartbeats 4000000 in
theorem indexExit_P (hP : Closed P) {l : List (Exm)} {A : Option Addr} (c : Nat) (hR : ∀ w, P w → Row w w.heap.size A (l.flatMap Exm.cells)) (hn : (l.length : Int) ≤ 9223372036854775807) (p0 : Value) {pr : Exm → Bool} {r : Int}
    (hf : ∀ x ∈ l, ∀ w, P w → Calls Tryd.prog 33 #[x.val, p0] w fun e w' => e = .returned (.bool (pr x)) ∧ P w') (hr : idxV pr l = r) (h : P w) :
    Calls Tryd.prog 32 #[.slice A l.length c, .func (.func 33) #[] #[p0]] w fun e w' => e = .returned (.int .i64 r) ∧ P w' := by
  have HF := Lib.hid hf
  have HR := Lib.hid hr
  clear hf hr
  go_enter Tryd.func32, Tryd.ntmps32
  go_wp2_with fail
  go_loopw [8] (fun i wr => ∃ j : Nat, j ≤ l.length ∧ i = .int .i64 j ∧ P wr ∧ Hid (NoneUp pr l j))
    (fun i _ => l.length - (intOf i).toNat)
  case atStart => exact ⟨0, by omega, rfl, h, Lib.hid (NoneUp.zero _ _)⟩
  case round =>
    obtain ⟨j, hj, rfl, hp, HNo⟩ := hrel
    by_cases hlt : j < l.length
    · have hlt' : (j : Int) < l.length := by omega
      obtain ⟨x, hx⟩ : ∃ x, l[j]? = some x := ⟨_, List.getElem?_eq_getElem hlt⟩
      have HX := Lib.hid hx
      have HM := Lib.hid (List.mem_of_getElem? hx)
      clear hx
      obtain ⟨b, off, hA, hb, hc0, hc⟩ := (hR _ hp).nth (n := 3) (fun _ => rfl) (by omega) HX.out
      subst hA
      have c0 := hc0 j x _ HX.out rfl
      have c1 := hc j x 1 _ HX.out rfl
      have c2 := hc j x 2 _ HX.out rfl
      clear hc0 hc
      go_wp2_with fail
      refine (HF.out x HM.out _ hp).mono ?_
      clear hp c0 c1 c2
      cases hpr : pr x
      · have HN := Lib.hid (HNo.out.succ HX.out hpr)
        clear hpr
        rintro e w1 ⟨rfl, hp⟩
        go_wp2_with fail
        go_roundw
        case rel => exact ⟨j + 1, hlt, by go_num, hp, HN⟩
        case measure => simp [intOf]; omega
      · have HI := Lib.hid (HNo.out.idx HX.out hpr)
        clear hpr
        rintro e w1 ⟨rfl, hp⟩
        go_wp2_with fail
        go_ret
        exact ⟨ret_int (by rw [← HR.out, HI.out]), hp⟩
    · obtain rfl : j = l.length := by omega
      have HI := Lib.hid HNo.out.idx_no
      go_wp2_with fail
      go_ret
      exact ⟨ret_int (by rw [← HR.out, HI.out]), hp⟩

set_option maxRecDepth 100000 in
set_option maxHeartbeats 4000000 in
theorem indexOver_P (hP : Closed P) {l : List (Exm)} {A : Option Addr} (c : Nat) (hR : ∀ w, P w → Row w w.heap.size A (l.flatMap Exm.cells)) (hn : (l.length : Int) ≤ 9223372036854775807) {pr : Exm → Bool} {r : Int}
    (hf : ∀ x ∈ l, ∀ w, P w → Calls Tryd.prog 74 #[x.val] w fun e w' => e = .returned (.bool (pr x)) ∧ P w') (hr : idxV pr l = r) (h : P w) :
    Calls Tryd.prog 32 #[.slice A l.length c, .func (.func 74) #[] #[]] w fun e w' => e = .returned (.int .i64 r) ∧ P w' := by
  have HF := Lib.hid hf
  have HR := Lib.hid hr
  clear hf hr
  go_enter Tryd.func32, Tryd.ntmps32
  go_wp2_with fail
  go_loopw [8] (fun i wr => ∃ j : Nat, j ≤ l.length ∧ i = .int .i64 j ∧ P wr ∧ Hid (NoneUp pr l j))
    (fun i _ => l.length - (intOf i).toNat)
  case atStart => exact ⟨0, by omega, rfl, h, Lib.hid (NoneUp.zero _ _)⟩
  case round =>
    obtain ⟨j, hj, rfl, hp, HNo⟩ := hrel
    by_cases hlt : j < l.length
    · have hlt' : (j : Int) < l.length := by omega
      obtain ⟨x, hx⟩ : ∃ x, l[j]? = some x := ⟨_, List.getElem?_eq_getElem hlt⟩
      have HX := Lib.hid hx
      have HM := Lib.hid (List.mem_of_getElem? hx)
      clear hx
      obtain ⟨b, off, hA, hb, hc0, hc⟩ := (hR _ hp).nth (n := 3) (fun _ => rfl) (by omega) HX.out
      subst hA
      have c0 := hc0 j x _ HX.out rfl
      have c1 := hc j x 1 _ HX.out rfl
      have c2 := hc j x 2 _ HX.out rfl
      clear hc0 hc
      go_wp2_with fail
      refine (HF.out x HM.out _ hp).mono ?_
      clear hp c0 c1 c2
      cases hpr : pr x
      · have HN := Lib.hid (HNo.out.succ HX.out hpr)
        clear hpr
        rintro e w1 ⟨rfl, hp⟩
        go_wp2_with fail
        go_roundw
        case rel => exact ⟨j + 1, hlt, by go_num, hp, HN⟩
        case measure => simp [intOf]; omega
      · have HI := Lib.hid (HNo.out.idx HX.out hpr)
        clear hpr
        rintro e w1 ⟨rfl, hp⟩
        go_wp2_with fail
        go_ret
        exact ⟨ret_int (by rw [← HR.out, HI.out]), hp⟩
    · obtain rfl : j = l.length := by omega
      have HI := Lib.hid HNo.out.idx_no
      go_wp2_with fail
      go_ret
      exact ⟨ret_int (by rw [← HR.out, HI.out]), hp⟩

set_option maxRecDepth 100000 in
set_option maxHeartbeats 4000000 in
theorem indexSection_P (hP : Closed P) {l : List (Sec)} {A : Option Addr} (c : Nat) (hR : ∀ w, P w → Row w w.heap.size A (l.flatMap Sec.cells)) (hn : (l.length : Int) ≤ 9223372036854775807) {pr : Sec → Bool} {r : Int}
    (hf : ∀ x ∈ l, ∀ w, P w → Calls Tryd.prog 78 #[x.val] w fun e w' => e = .returned (.bool (pr x)) ∧ P w') (hr : idxV pr l = r) (h : P w) :
    Calls Tryd.prog 89 #[.slice A l.length c, .func (.func 78) #[] #[]] w fun e w' => e = .returned (.int .i64 r) ∧ P w' := by
  have HF := Lib.hid hf
  have HR := Lib.hid hr
  clear hf hr
  go_enter Tryd.func89, Tryd.ntmps89
  go_wp2_with fail
  go_loopw [8] (fun i wr => ∃ j : Nat, j ≤ l.length ∧ i = .int .i64 j ∧ P wr ∧ Hid (NoneUp pr l j))
    (fun i _ => l.length - (intOf i).toNat)
  case atStart => exact ⟨0, by omega, rfl, h, Lib.hid (NoneUp.zero _ _)⟩
  case round =>
    obtain ⟨j, hj, rfl, hp, HNo⟩ := hrel
    by_cases hlt : j < l.length
    · have hlt' : (j : Int) < l.length := by omega
      obtain ⟨x, hx⟩ : ∃ x, l[j]? = some x := ⟨_, List.getElem?_eq_getElem hlt⟩
      have HX := Lib.hid hx
      have HM := Lib.hid (List.mem_of_getElem? hx)
      clear hx
      obtain ⟨b, off, hA, hb, hc0, hc⟩ := (hR _ hp).nth (n := 11) Sec.len (by omega) HX.out
      subst hA
      have c0 := hc0 j x _ HX.out rfl
      have c1 := hc j x 1 _ HX.out rfl
      have c2 := hc j x 2 _ HX.out rfl
      have c3 := hc j x 3 _ HX.out rfl
      have c4 := hc j x 4 _ HX.out rfl
      have c5 := hc j x 5 _ HX.out rfl
      have c6 := hc j x 6 _ HX.out rfl
      have c7 := hc j x 7 _ HX.out rfl
      have c8 := hc j x 8 _ HX.out rfl
      have c9 := hc j x 9 _ HX.out rfl
      have c10 := hc j x 10 _ HX.out rfl
      clear hc0 hc
      go_wp2_with fail
      refine (HF.out x HM.out _ hp).mono ?_
      clear hp c0 c1 c2 c3 c4 c5 c6 c7 c8 c9 c10
      cases hpr : pr x
      · have HN := Lib.hid (HNo.out.succ HX.out hpr)
        clear hpr
        rintro e w1 ⟨rfl, hp⟩
        go_wp2_with fail
        go_roundw
        case rel => exact ⟨j + 1, hlt, by go_num, hp, HN⟩
        case measure => simp [intOf]; omega
      · have HI := Lib.hid (HNo.out.idx HX.out hpr)
        clear hpr
        rintro e w1 ⟨rfl, hp⟩
        go_wp2_with fail
        go_ret
        exact ⟨ret_int (by rw [← HR.out, HI.out]), hp⟩
    · obtain rfl : j = l.length := by omega
      have HI := Lib.hid HNo.out.idx_no
      go_wp2_with fail
      go_ret
      exact ⟨ret_int (by rw [← HR.out, HI.out]), hp⟩

set_option maxHeartbeats 1000000 in
theorem containsOver_P (hP : Closed P) {l : List (Exm)} {A : Option Addr} (c : Nat) (hR : ∀ w, P w → Row w w.heap.size A (l.flatMap Exm.cells)) (hn : (l.length : Int) ≤ 9223372036854775807) {pr : Exm → Bool} {r : Bool}
    (hf : ∀ x ∈ l, ∀ w, P w → Calls Tryd.prog 74 #[x.val] w fun e w' => e = .returned (.bool (pr x)) ∧ P w') (hr : l.any pr = r) (h : P w) :
    Calls Tryd.prog 75 #[.slice A l.length c, .func (.func 74) #[] #[]] w fun e w' => e = .returned (.bool r) ∧ P w' := by
  have HC := Lib.hid (indexOver_P hP c hR hn  hf rfl h)
  have HR : Hid (decide (0 ≤ idxV pr l) = r) := Lib.hid (by rw [idxV_any, hr])
  clear hf hr
  generalize idxV pr l = i at *
  go_enter Tryd.func75, Tryd.ntmps75
  go_wp2_with fail
  refine HC.out.mono ?_
  rintro e w1 ⟨rfl, hp⟩
  go_wp2_with fail
  go_ret
  exact ⟨ret_bool HR.out, hp⟩

set_option maxHeartbeats 1000000 in
theorem containsSection_P (hP : Closed P) {l : List (Sec)} {A : Option Addr} (c : Nat) (hR : ∀ w, P w → Row w w.heap.size A (l.flatMap Sec.cells)) (hn : (l.length : Int) ≤ 9223372036854775807) {pr : Sec → Bool} {r : Bool}
    (hf : ∀ x ∈ l, ∀ w, P w → Calls Tryd.prog 78 #[x.val] w fun e w' => e = .returned (.bool (pr x)) ∧ P w') (hr : l.any pr = r) (h : P w) :
    Calls Tryd.prog 77 #[.slice A l.length c, .func (.func 78) #[] #[]] w fun e w' => e = .returned (.bool r) ∧ P w' := by
  have HC := Lib.hid (indexSection_P hP c hR hn  hf rfl h)
  have HR : Hid (decide (0 ≤ idxV pr l) = r) := Lib.hid (by rw [idxV_any, hr])
  clear hf hr
  generalize idxV pr l = i at *
  go_enter Tryd.func77, Tryd.ntmps77
  go_wp2_with fail
  refine HC.out.mono ?_
  rintro e w1 ⟨rfl, hp⟩
  go_wp2_with fail
  go_ret
  exact ⟨ret_bool HR.out, hp⟩
end
end Go.Proofs.YtbalcbnlpgekaaaDoor
