/- The walk of TickStays: no number leaves its limits; neither a clock nor a counter falls. -/
import Derived.Test.YteicpjhfglkchaaDoorTickB
import Derived.Test.YteicpjhfglkchaaDoorIn
import Derived.Deep.RegionWith
import Derived.Deep.CutRange
namespace Go.Proofs.YteicpjhfglkchaaDoor
open Go.RowKit Go.Shelf
set_option linter.unusedVariables false

theorem clockV_range (n : Int) : 0 ≤ clockV n ∧ clockV n ≤ 1073741824 := by unfold clockV; omega
theorem countV_range (n : Int) : 0 ≤ countV n ∧ countV n ≤ 65535 := by unfold countV; omega
theorem nextV_in (a : Int) (h0 : 0 ≤ a) (h1 : a ≤ 1073741824) : a ≤ nextV a ∧ nextV a ≤ 1073741824 ∧ nextV a ≤ a + 1 ∧ (a < 1073741824 → nextV a ≠ a) := by unfold nextV clockV; omega
theorem moreV_in (b z : Int) (h0 : 0 ≤ b) (h1 : b ≤ 65535) : b ≤ moreV b z ∧ moreV b z ≤ 65535 ∧ (z ≤ 0 → moreV b z = b) ∧ (0 < z → b < 65535 → moreV b z ≠ b) := by unfold moreV countV; omega
theorem clockV_self (a : Int) (h0 : 0 ≤ a) (h1 : a ≤ 1073741824) : clockV a = a := by unfold clockV; omega
theorem countV_self (b : Int) (h0 : 0 ≤ b) (h1 : b ≤ 65535) : countV b = b := by unfold countV; omega

set_option maxRecDepth 100000 in
set_option maxHeartbeats 8000000 in
theorem tickStays_walk (n m : Int) (A : Option Addr) (cap : Nat) (l : List Int) (w : World) (hr : Row w w.heap.size A (nums .i64 l)) (hl : l.length ≤ maxLen) (hT : Tops w) :
    Calls Tryd.prog 4 #[.int .i64 n, .int .i64 m, .slice A l.length cap] w fun e w' => e = .returned (.bool true) ∧ Below w.heap.size w w' := by
  have h : Now w w := ⟨hT, Below.refl _ _⟩
  unfold maxLen at hl
  clear hT
  by_cases h1 : 100 < l.length
  · have c1 : (100 : Int) < (l.length : Int) := by omega
    go_enter Tryd.func4, Tryd.ntmps4
    go_wp2_with fail
    refine (wakes_now h).mono ?_
    clear h
    rintro e w' ⟨rfl, h⟩
    go_wp2_with fail
    go_ret
    exact ⟨rfl, h.below⟩
  have c1 : ¬ (100 : Int) < (l.length : Int) := by omega
  have HL := Lib.hid (show l.length ≤ 100 by omega)
  clear hl h1
  go_enter Tryd.func4, Tryd.ntmps4
  go_wp2_with fail
  refine (clock_now n rfl h).mono ?_
  clear h
  rintro e w' ⟨rfl, h⟩
  go_wp2_with fail
  refine (count_now m rfl h).mono ?_
  clear h
  rintro e w' ⟨rfl, h⟩
  go_wp2_with fail
  clear c1
  go_loopw [7, 8, 9] (fun a b i wr => ∃ (j : Nat) (x y : Int), j ≤ l.length ∧ i = .int .i64 j ∧ a = .int .i64 x ∧ b = .int .i64 y ∧ 0 ≤ x ∧ x ≤ 1073741824 ∧ 0 ≤ y ∧ y ≤ 65535 ∧ Now w wr) (fun _ _ i _ => l.length - (intOf i).toNat)
  case atStart => exact ⟨0, _, _, Nat.zero_le _, rfl, rfl, rfl, (clockV_range n).1, (clockV_range n).2, (countV_range m).1, (countV_range m).2, h⟩
  case round =>
    obtain ⟨j, a, b, hj, rfl, rfl, rfl, ha0, ha1, hb0, hb1, h⟩ := hrel
    by_cases hlt : j < l.length
    · obtain ⟨bl, off, rfl, hbl, hc⟩ := hr.num hlt
      generalize l[j]?.getD 0 = z at hc
      have hcell := (h.below.cell (p := ⟨bl, off + j, none⟩) hbl).trans hc
      obtain ⟨x1, x2, x3, x4⟩ := nextV_in a ha0 ha1
      obtain ⟨y1, y2, y3, y4⟩ := moreV_in b z hb0 hb1
      generalize hx : nextV a = x at x1 x2 x3 x4
      generalize hy : moreV b z = y at y1 y2 y3 y4
      have HX := Lib.hid hx
      have HY := Lib.hid hy
      have HF := Lib.hid (And.intro (And.intro x1 (And.intro x2 (And.intro x3 x4))) (And.intro y1 (And.intro y2 (And.intro y3 y4))))
      have HR := Lib.hid (And.intro ha0 (And.intro ha1 (And.intro hb0 hb1)))
      have HLT := Lib.hid hlt
      clear hx hy x1 x2 x3 x4 y1 y2 y3 y4 ha0 ha1 hb0 hb1
      have c2 : (j : Int) < l.length := by omega
      have c5 : (j : Int) + 1 ≤ 9223372036854775807 := by have := HL.out; omega
      have HC := Lib.hid hc
      have HB := Lib.hid hbl
      clear hlt hj hc hbl
      go_wp2_with fail
      go_cut [10, 11] from 20 to 94 (fun p q wx => p = .int .i64 x ∧ q = .int .i64 y ∧ Now w wx)
      case first =>
        go_region_with (first
          | (go_at_call 10; refine (next_now _ HX.out (by first | exact h | exact h.drew)).mono ?_; clear h hcell; rintro e w' ⟨rfl, h⟩; have hcell := (h.below.cell (p := ⟨bl, off + j, none⟩) HB.out).trans HC.out)
          | (go_at_call 14; refine (more_now _ _ HY.out (by first | exact h | exact h.drew)).mono ?_; clear h hcell; rintro e w' ⟨rfl, h⟩; have hcell := (h.below.cell (p := ⟨bl, off + j, none⟩) HB.out).trans HC.out))
        all_goals
          go_wp2_with fail
          go_meet
          case rel => exact ⟨rfl, rfl, by first | exact h | exact h.drew⟩
      case rest =>
        obtain ⟨rfl, rfl, h⟩ := hcut
        clear hcell
        have hcell := (h.below.cell (p := ⟨bl, off + j, none⟩) HB.out).trans HC.out
        obtain ⟨⟨x1, x2, x3, x4⟩, y1, y2, y3, y4⟩ := HF.out
        obtain ⟨ha0, ha1, hb0, hb1⟩ := HR.out
        have f1 : ¬ x < a := by omega
        have f2 : ¬ 1073741824 < x := by omega
        have f3 : ¬ a + 1 < x := by omega
        have f4 : a + 1 ≤ 9223372036854775807 := by omega
        have f5 : ¬ y < b := by omega
        have f6 : ¬ 65535 < y := by omega
        have hX : (¬ x = a) ∨ (¬ a < 1073741824) := by
          by_cases q : a < 1073741824
          · exact .inl (x4 q)
          · exact .inr q
        have hY : (z ≤ 0 ∧ ¬ 0 < z ∧ y = b) ∨ (¬ z ≤ 0 ∧ 0 < z ∧ ¬ y = b) ∨ (¬ z ≤ 0 ∧ 0 < z ∧ y = b ∧ ¬ b < 65535) := by
          by_cases q : z ≤ 0
          · exact .inl ⟨q, by omega, y3 q⟩
          · by_cases q' : b < 65535
            · exact .inr (.inl ⟨q, by omega, y4 (by omega) q'⟩)
            · exact .inr (.inr ⟨q, by omega, by omega, q'⟩)
        have HG := Lib.hid (show 0 ≤ x ∧ x ≤ 1073741824 ∧ 0 ≤ y ∧ y ≤ 65535 by omega)
        clear x1 x2 x3 x4 y1 y2 y3 y4 ha1 hb0 hb1 HF HX HY
        have hA : (¬ x = a) ∨ (x = a ∧ ¬ a < 1073741824) := by
          by_cases q : x = a
          · rcases hX with q' | q'
            · exact absurd q q'
            · exact .inr ⟨q, q'⟩
          · exact .inl q
        clear hX
        rcases hA with hA | ⟨rfl, hA'⟩ <;> rcases hY with ⟨hz, hz', rfl⟩ | ⟨hz, hz', hy⟩ | ⟨hz, hz', rfl, hy⟩
        all_goals
          go_wp2_with fail
          go_round
          case rel => exact ⟨j + 1, _, _, HLT.out, by go_num, rfl, rfl, HG.out.1, HG.out.2.1, HG.out.2.2.1, HG.out.2.2.2, h⟩
          case measure => simp [intOf]; omega
    · obtain rfl : j = l.length := by omega
      have c2 : ¬ (l.length : Int) < l.length := by omega
      have HA := Lib.hid (clockV_self a ha0 ha1)
      have HB := Lib.hid (countV_self b hb0 hb1)
      clear ha1 hb1 hj hlt
      go_wp2_with fail
      refine (clock_now _ HA.out h).mono ?_
      clear h
      rintro e w' ⟨rfl, h⟩
      go_wp2_with fail
      refine (count_now _ HB.out h).mono ?_
      clear h
      rintro e w' ⟨rfl, h⟩
      go_wp2_with fail
      refine (wakes_now h).mono ?_
      clear h
      rintro e w' ⟨rfl, h⟩
      go_wp2_with fail
      go_ret
      exact ⟨rfl, h.below⟩
end Go.Proofs.YteicpjhfglkchaaDoor
