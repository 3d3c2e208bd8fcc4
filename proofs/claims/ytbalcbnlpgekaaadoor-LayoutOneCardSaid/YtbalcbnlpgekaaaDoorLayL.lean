/- Package slices at a layout's rows: Equal; package layout: Same. -/
import Derived.Test.YtbalcbnlpgekaaaDoorLayF
import Derived.Test.YtbalcbnlpgekaaaDoorLayEq
import Derived.BigQuiet
namespace Go.Proofs.YtbalcbnlpgekaaaDoor
open Go.RowKit Go.Shelf
set_option linter.unusedVariables false
set_option linter.unusedSimpArgs false

theorem take_at {α : Type} {l : List α} {i : Nat} {x : α} (h : l[i]? = some x) : l.take (i + 1) = l.take i ++ [x] := by
  rw [List.take_add_one, h]; rfl
section
variable {P : World → Prop} {w : World}

set_option maxRecDepth 100000 in
set_option maxHeartbeats 4000000 in
theorem equalSignal_P (hP : Closed P) {l m : List (Int × Int)} {A B : Option Addr} (ca cb : Nat) (hA : ∀ w, P w → Row w w.heap.size A (l.flatMap prtCells)) (hB : ∀ w, P w → Row w w.heap.size B (m.flatMap prtCells)) (hn : (l.length : Int) ≤ 9223372036854775807) {r : Bool} (hr : decide (l = m) = r) (h : P w) :
    Calls Tryd.prog 58 #[.slice A l.length ca, .slice B m.length cb] w fun e w' => e = .returned (.bool r) ∧ P w' := by
  have HR := Lib.hid hr
  clear hr
  by_cases hlen : l.length = m.length
  · have HLe := Lib.hid hlen
    rw [← hlen]
    have hm : ∀ j, j < l.length → j < m.length := fun j hj => hlen ▸ hj
    clear hlen
    go_enter Tryd.func58, Tryd.ntmps58
    go_wp2_with fail
    go_loopw [13] (fun i wr => ∃ j : Nat, j ≤ l.length ∧ i = .int .i64 j ∧ P wr ∧ Hid (l.take j = m.take j))
      (fun i _ => l.length - (intOf i).toNat)
    case atStart => exact ⟨0, by omega, rfl, h, Lib.hid rfl⟩
    case round =>
      obtain ⟨j, hj, rfl, hp, HNo⟩ := hrel
      by_cases hlt : j < l.length
      · have hlt' : (j : Int) < l.length := by omega
        obtain ⟨x, hx⟩ : ∃ x, l[j]? = some x := ⟨_, List.getElem?_eq_getElem hlt⟩
        obtain ⟨y, hy⟩ : ∃ y, m[j]? = some y := ⟨_, List.getElem?_eq_getElem (hm j hlt)⟩
        have HX := Lib.hid hx
        have HY := Lib.hid hy
        clear hx hy
        obtain ⟨b1, o1, rfl, _, hc0, hc⟩ := (hA _ hp).nth (n := 2) (fun _ => rfl) (by omega) HX.out
        have c0 := hc0 j x _ HX.out rfl
        have c1 := hc j x 1 _ HX.out rfl
        clear hc0 hc
        obtain ⟨b2, o2, rfl, _, hc0, hc⟩ := (hB _ hp).nth (n := 2) (fun _ => rfl) (by omega) HY.out
        have d0 := hc0 j y _ HY.out rfl
        have d1 := hc j y 1 _ HY.out rfl
        clear hc0 hc
        obtain ⟨b, HB⟩ : ∃ b, Hid ((fun x y : Int × Int => x.1 == y.1 && x.2 == y.2) x y = b) := ⟨_, Lib.hid rfl⟩
        have hne : ∀ w : World, (binOp .neq 50 (prtV x.1 x.2) (prtV y.1 y.2)).run Tryd.prog w = .ok (.bool (!b)) w := fun w => by rw [run_neq_struct, eq_sig w x.1 x.2 y.1 y.2, ← HB.out]; rfl
        have HPd := Lib.hid (fun n => hP _ _ hp (below_drawn (Below.refl _ wr) n))
        cases b
        · have HF : Hid (false = r) := Lib.hid (by
            rw [← HR.out, eq_comm, decide_eq_false_iff_not]
            intro e
            subst e
            have := HX.out.symm.trans HY.out
            cases this
            have := HB.out
            simp at this)
          go_wp2_with fail
          go_quiet (fail)
          go_wp2_with fail
          go_ret
          exact ⟨ret_bool HF.out, HPd.out _⟩
        · have HN : Hid (l.take (j + 1) = m.take (j + 1)) := Lib.hid (by
            rw [take_at HX.out, take_at HY.out, HNo.out]
            have hxy : x = y := by
              have := HB.out
              simp only [Bool.and_eq_true, beq_iff_eq] at this
              exact Prod.ext this.1 this.2
            rw [hxy])
          go_wp2_with fail
          go_quiet (fail)
          go_wp2_with fail
          go_roundw
          case rel => exact ⟨j + 1, hlt, by go_num, HPd.out _, HN⟩
          case measure => simp [intOf]; omega
      · obtain rfl : j = l.length := by omega
        have HF : Hid (true = r) := Lib.hid (by
          rw [← HR.out, eq_comm, decide_eq_true_eq]
          have := HNo.out
          rw [List.take_length, HLe.out, List.take_length] at this
          exact this)
        go_wp2_with fail
        go_ret
        exact ⟨ret_bool HF.out, hp⟩
  · have HF : Hid (false = r) := Lib.hid (by
      rw [← HR.out, eq_comm, decide_eq_false_iff_not]
      exact fun e => hlen (by rw [e]))
    have hlen' : ((l.length : Int) != (m.length : Int)) = true := by rw [bne_iff_ne]; omega
    clear hlen
    go_enter Tryd.func58, Tryd.ntmps58
    go_wp2_with fail
    go_ret
    exact ⟨ret_bool HF.out, h⟩

set_option maxRecDepth 100000 in
set_option maxHeartbeats 4000000 in
theorem equalFlank_P (hP : Closed P) {l m : List (Int × Int × Int × Int)} {A B : Option Addr} (ca cb : Nat) (hA : ∀ w, P w → Row w w.heap.size A (l.flatMap flkCells)) (hB : ∀ w, P w → Row w w.heap.size B (m.flatMap flkCells)) (hn : (l.length : Int) ≤ 9223372036854775807) {r : Bool} (hr : decide (l = m) = r) (h : P w) :
    Calls Tryd.prog 61 #[.slice A l.length ca, .slice B m.length cb] w fun e w' => e = .returned (.bool r) ∧ P w' := by
  have HR := Lib.hid hr
  clear hr
  by_cases hlen : l.length = m.length
  · have HLe := Lib.hid hlen
    rw [← hlen]
    have hm : ∀ j, j < l.length → j < m.length := fun j hj => hlen ▸ hj
    clear hlen
    go_enter Tryd.func61, Tryd.ntmps61
    go_wp2_with fail
    go_loopw [13] (fun i wr => ∃ j : Nat, j ≤ l.length ∧ i = .int .i64 j ∧ P wr ∧ Hid (l.take j = m.take j))
      (fun i _ => l.length - (intOf i).toNat)
    case atStart => exact ⟨0, by omega, rfl, h, Lib.hid rfl⟩
    case round =>
      obtain ⟨j, hj, rfl, hp, HNo⟩ := hrel
      by_cases hlt : j < l.length
      · have hlt' : (j : Int) < l.length := by omega
        obtain ⟨x, hx⟩ : ∃ x, l[j]? = some x := ⟨_, List.getElem?_eq_getElem hlt⟩
        obtain ⟨y, hy⟩ : ∃ y, m[j]? = some y := ⟨_, List.getElem?_eq_getElem (hm j hlt)⟩
        have HX := Lib.hid hx
        have HY := Lib.hid hy
        clear hx hy
        obtain ⟨b1, o1, rfl, _, hc0, hc⟩ := (hA _ hp).nth (n := 4) (fun _ => rfl) (by omega) HX.out
        have c0 := hc0 j x _ HX.out rfl
        have c1 := hc j x 1 _ HX.out rfl
        have c2 := hc j x 2 _ HX.out rfl
        have c3 := hc j x 3 _ HX.out rfl
        clear hc0 hc
        obtain ⟨b2, o2, rfl, _, hc0, hc⟩ := (hB _ hp).nth (n := 4) (fun _ => rfl) (by omega) HY.out
        have d0 := hc0 j y _ HY.out rfl
        have d1 := hc j y 1 _ HY.out rfl
        have d2 := hc j y 2 _ HY.out rfl
        have d3 := hc j y 3 _ HY.out rfl
        clear hc0 hc
        obtain ⟨b, HB⟩ : ∃ b, Hid ((fun x y : Int × Int × Int × Int => x.1 == y.1 && (x.2.1 == y.2.1 && (x.2.2.1 == y.2.2.1 && x.2.2.2 == y.2.2.2))) x y = b) := ⟨_, Lib.hid rfl⟩
        have hne : ∀ w : World, (binOp .neq 55 (flkV x.1 x.2.1 x.2.2.1 x.2.2.2) (flkV y.1 y.2.1 y.2.2.1 y.2.2.2)).run Tryd.prog w = .ok (.bool (!b)) w := fun w => by rw [run_neq_struct, eq_flk w x.1 x.2.1 x.2.2.1 x.2.2.2 y.1 y.2.1 y.2.2.1 y.2.2.2, ← HB.out]; rfl
        have HPd := Lib.hid (fun n => hP _ _ hp (below_drawn (Below.refl _ wr) n))
        cases b
        · have HF : Hid (false = r) := Lib.hid (by
            rw [← HR.out, eq_comm, decide_eq_false_iff_not]
            intro e
            subst e
            have := HX.out.symm.trans HY.out
            cases this
            have := HB.out
            simp at this)
          go_wp2_with fail
          go_quiet (fail)
          go_wp2_with fail
          go_ret
          exact ⟨ret_bool HF.out, HPd.out _⟩
        · have HN : Hid (l.take (j + 1) = m.take (j + 1)) := Lib.hid (by
            rw [take_at HX.out, take_at HY.out, HNo.out]
            have hxy : x = y := by
              have := HB.out
              simp only [Bool.and_eq_true, beq_iff_eq] at this
              exact Prod.ext this.1 (Prod.ext this.2.1 (Prod.ext this.2.2.1 this.2.2.2))
            rw [hxy])
          go_wp2_with fail
          go_quiet (fail)
          go_wp2_with fail
          go_roundw
          case rel => exact ⟨j + 1, hlt, by go_num, HPd.out _, HN⟩
          case measure => simp [intOf]; omega
      · obtain rfl : j = l.length := by omega
        have HF : Hid (true = r) := Lib.hid (by
          rw [← HR.out, eq_comm, decide_eq_true_eq]
          have := HNo.out
          rw [List.take_length, HLe.out, List.take_length] at this
          exact this)
        go_wp2_with fail
        go_ret
        exact ⟨ret_bool HF.out, hp⟩
  · have HF : Hid (false = r) := Lib.hid (by
      rw [← HR.out, eq_comm, decide_eq_false_iff_not]
      exact fun e => hlen (by rw [e]))
    have hlen' : ((l.length : Int) != (m.length : Int)) = true := by rw [bne_iff_ne]; omega
    clear hlen
    go_enter Tryd.func61, Tryd.ntmps61
    go_wp2_with fail
    go_ret
    exact ⟨ret_bool HF.out, h⟩

set_option maxRecDepth 100000 in
set_option maxHeartbeats 4000000 in
theorem equalStep_P (hP : Closed P) {l m : List (Int × Int × Int)} {A B : Option Addr} (ca cb : Nat) (hA : ∀ w, P w → Row w w.heap.size A (l.flatMap stpCells)) (hB : ∀ w, P w → Row w w.heap.size B (m.flatMap stpCells)) (hn : (l.length : Int) ≤ 9223372036854775807) {r : Bool} (hr : decide (l = m) = r) (h : P w) :
    Calls Tryd.prog 85 #[.slice A l.length ca, .slice B m.length cb] w fun e w' => e = .returned (.bool r) ∧ P w' := by
  have HR := Lib.hid hr
  clear hr
  by_cases hlen : l.length = m.length
  · have HLe := Lib.hid hlen
    rw [← hlen]
    have hm : ∀ j, j < l.length → j < m.length := fun j hj => hlen ▸ hj
    clear hlen
    go_enter Tryd.func85, Tryd.ntmps85
    go_wp2_with fail
    go_loopw [13] (fun i wr => ∃ j : Nat, j ≤ l.length ∧ i = .int .i64 j ∧ P wr ∧ Hid (l.take j = m.take j))
      (fun i _ => l.length - (intOf i).toNat)
    case atStart => exact ⟨0, by omega, rfl, h, Lib.hid rfl⟩
    case round =>
      obtain ⟨j, hj, rfl, hp, HNo⟩ := hrel
      by_cases hlt : j < l.length
      · have hlt' : (j : Int) < l.length := by omega
        obtain ⟨x, hx⟩ : ∃ x, l[j]? = some x := ⟨_, List.getElem?_eq_getElem hlt⟩
        obtain ⟨y, hy⟩ : ∃ y, m[j]? = some y := ⟨_, List.getElem?_eq_getElem (hm j hlt)⟩
        have HX := Lib.hid hx
        have HY := Lib.hid hy
        clear hx hy
        obtain ⟨b1, o1, rfl, _, hc0, hc⟩ := (hA _ hp).nth (n := 3) (fun _ => rfl) (by omega) HX.out
        have c0 := hc0 j x _ HX.out rfl
        have c1 := hc j x 1 _ HX.out rfl
        have c2 := hc j x 2 _ HX.out rfl
        clear hc0 hc
        obtain ⟨b2, o2, rfl, _, hc0, hc⟩ := (hB _ hp).nth (n := 3) (fun _ => rfl) (by omega) HY.out
        have d0 := hc0 j y _ HY.out rfl
        have d1 := hc j y 1 _ HY.out rfl
        have d2 := hc j y 2 _ HY.out rfl
        clear hc0 hc
        obtain ⟨b, HB⟩ : ∃ b, Hid ((fun x y : Int × Int × Int => x.1 == y.1 && (x.2.1 == y.2.1 && x.2.2 == y.2.2)) x y = b) := ⟨_, Lib.hid rfl⟩
        have hne : ∀ w : World, (binOp .neq 33 (stpV x.1 x.2.1 x.2.2) (stpV y.1 y.2.1 y.2.2)).run Tryd.prog w = .ok (.bool (!b)) w := fun w => by rw [run_neq_struct, eq_stp w x.1 x.2.1 x.2.2 y.1 y.2.1 y.2.2, ← HB.out]; rfl
        have HPd := Lib.hid (fun n => hP _ _ hp (below_drawn (Below.refl _ wr) n))
        cases b
        · have HF : Hid (false = r) := Lib.hid (by
            rw [← HR.out, eq_comm, decide_eq_false_iff_not]
            intro e
            subst e
            have := HX.out.symm.trans HY.out
            cases this
            have := HB.out
            simp at this)
          go_wp2_with fail
          go_quiet (fail)
          go_wp2_with fail
          go_ret
          exact ⟨ret_bool HF.out, HPd.out _⟩
        · have HN : Hid (l.take (j + 1) = m.take (j + 1)) := Lib.hid (by
            rw [take_at HX.out, take_at HY.out, HNo.out]
            have hxy : x = y := by
              have := HB.out
              simp only [Bool.and_eq_true, beq_iff_eq] at this
              exact Prod.ext this.1 (Prod.ext this.2.1 this.2.2)
            rw [hxy])
          go_wp2_with fail
          go_quiet (fail)
          go_wp2_with fail
          go_roundw
          case rel => exact ⟨j + 1, hlt, by go_num, HPd.out _, HN⟩
          case measure => simp [intOf]; omega
      · obtain rfl : j = l.length := by omega
        have HF : Hid (true = r) := Lib.hid (by
          rw [← HR.out, eq_comm, decide_eq_true_eq]
          have := HNo.out
          rw [List.take_length, HLe.out, List.take_length] at this
          exact this)
        go_wp2_with fail
        go_ret
        exact ⟨ret_bool HF.out, hp⟩
  · have HF : Hid (false = r) := Lib.hid (by
      rw [← HR.out, eq_comm, decide_eq_false_iff_not]
      exact fun e => hlen (by rw [e]))
    have hlen' : ((l.length : Int) != (m.length : Int)) = true := by rw [bne_iff_ne]; omega
    clear hlen
    go_enter Tryd.func85, Tryd.ntmps85
    go_wp2_with fail
    go_ret
    exact ⟨ret_bool HF.out, h⟩
end
end Go.Proofs.YtbalcbnlpgekaaaDoor
