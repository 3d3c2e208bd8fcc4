/- What is taken has just those bytes. -/
import Derived.Test.YtegflmaobmibnaaGreatDoorQPlanWk
namespace Go.Proofs.YtegflmaobmibnaaGreatDoor
set_option maxRecDepth 100000
open Go.RowKit Go.Shelf
set_option linter.unusedVariables false
set_option linter.unusedSimpArgs false

set_option maxHeartbeats 16000000 in
theorem planOnly_walk (A : Option Addr) (cap : Nat) (zs : List Int) (w : World) (hT : Shapes w) (hH : Hands w A zs) :
    Calls Tryz.prog 5 #[.slice A zs.length cap] w fun e w' => e = .returned (.bool true) ∧ Below w.heap.size w w' := by
  have HT := Lib.hid hT
  have HH := Lib.hid hH
  clear hT hH
  by_cases h3 : (300 : Int) < (zs.length : Int)
  · have h3' : 300 < zs.length := by omega
    go_enter Tryz.func5, Tryz.ntmps5
    go_wp2_with fail
    refine (wakes8_any w HT.out).mono ?_
    rintro e w1 ⟨rfl, hb⟩
    go_wp2_with fail
    go_ret
    exact ⟨rfl, hb⟩
  · have h3' : ¬ 300 < zs.length := by omega
    obtain ⟨l, hl⟩ := bits_of zs HH.out.2
    have HA := Lib.hid hl
    have HN : Hid (zs.length ≤ 2000) := Lib.hid (by omega)
    clear hl
    go_enter Tryz.func5, Tryz.ntmps5
    go_wp2_with fail
    refine (takeL_any A cap zs l w HH.out HN.out HA.out HT.out).mono ?_
    clear h3 h3'
    rintro e w1 ⟨hb, hg⟩
    have HB := Lib.hid hb
    clear hb
    rcases hg with ⟨hp, he⟩ | ⟨m, s', hp, ⟨hr, hby, rfl, ho⟩ | ⟨hno, he⟩⟩
    · obtain rfl : e = .returned (.tuple #[.agg #[.slice none 0 0, .slice none 0 0, .slice none 0 0, .slice none 0 0, .int .i64 0, .int .i64 0, .int .i64 0, .int .i64 0, .int .i64 0, .int .i64 0, .int .i64 0], .int .i64 40]) := he
      have HW : Hid (∀ o, Shapes (w1.alloc o) ∧ Below w.heap.size w (w1.alloc o)) := Lib.hid (fun o => ⟨HT.out.on (HB.out.trans ((below1 w1 o).mono HB.out.size)), HB.out.trans ((below1 w1 o).mono HB.out.size)⟩)
      clear hp
      by_cases h11 : 11 ≤ zs.length
      · have h11' : (11 : Int) ≤ (zs.length : Int) := by omega
        go_wp2_with fail
        refine (wakes8_any _ (HW.out _).1).mono ?_
        rintro e w5 ⟨rfl, hb5⟩
        have HBW5 : Hid (Below w.heap.size w w5) := Lib.hid ((HW.out _).2.trans (hb5.mono (HW.out _).2.size))
        clear hb5
        go_wp2_with fail
        go_ret
        exact ⟨rfl, HBW5.out⟩
      · have h11' : ¬ (11 : Int) ≤ (zs.length : Int) := by omega
        go_wp2_with fail
        refine (wakes8_any _ (HW.out _).1).mono ?_
        rintro e w5 ⟨rfl, hb5⟩
        have HBW5 : Hid (Below w.heap.size w w5) := Lib.hid ((HW.out _).2.trans (hb5.mono (HW.out _).2.size))
        clear hb5
        go_wp2_with fail
        go_ret
        exact ⟨rfl, HBW5.out⟩
    · have hb1 := Whole.new w1 29 m.cells
      have HPT : Hid (sameB (bytesL m.pl) zs = true) := Lib.hid (by unfold sameB; exact decide_eq_true hby)
      have HBY := Lib.hid hby
      have HLM : Hid (Lies m (w1.alloc (.cells m.cells.toArray 29))) := Lib.hid (Lies.closed m _ _ (owned_lies ho (tells_lay _ _ _ _ hp)) (below1 w1 _))
      have HR := Lib.hid hr
      have HB1 : Hid (Below w.heap.size w (w1.alloc (.cells m.cells.toArray 29))) := Lib.hid (HB.out.trans ((below1 w1 _).mono HB.out.size))
      have HT1 : Hid (Shapes (w1.alloc (.cells m.cells.toArray 29))) := Lib.hid (HT.out.on HB1.out)
      clear hp ho hr hby
      go_wp2_with fail
      refine (putL_any m _ HT1.out HT1.out.lt HLM.out true HR.out).mono ?_
      rintro e w2 ⟨hb2, (⟨h, _⟩ | ⟨_, A', c', rfl, hh⟩)⟩
      · cases h
      have hbx := hb1.below hb2 (by simp)
      have HBW2 : Hid (Below w.heap.size w w2) := Lib.hid (HB1.out.trans (hb2.mono HB1.out.size))
      have HLM2 : Hid (Lies m w2) := Lib.hid (Lies.closed m _ _ HLM.out hb2)
      have HHB := Lib.hid hh
      clear hb2 hh hb1
      have x0 := hbx.cell_at 0 rfl
      have x1 := hbx.cell_at 1 rfl
      have x2 := hbx.cell_at 2 rfl
      have x3 := hbx.cell_at 3 rfl
      have x4 := hbx.cell_at 4 rfl
      have x5 := hbx.cell_at 5 rfl
      have x6 := hbx.cell_at 6 rfl
      have x7 := hbx.cell_at 7 rfl
      have x8 := hbx.cell_at 8 rfl
      have x9 := hbx.cell_at 9 rfl
      have x10 := hbx.cell_at 10 rfl
      go_wp2_with fail
      refine (same8_any A' A c' cap (bytesL m.pl) zs w2 HHB.out (HH.out.on HBW2.out)).mono ?_
      rintro e w3 ⟨rfl, hb3⟩
      rw [HPT.out]
      have hbx3 := hbx.below hb3 hbx.lt
      have HBW3 : Hid (Below w.heap.size w w3) := Lib.hid (HBW2.out.trans (hb3.mono HBW2.out.size))
      have HLM3 : Hid (Lies m w3) := Lib.hid (Lies.closed m _ _ HLM2.out hb3)
      clear hb3 hbx x0 x1 x2 x3 x4 x5 x6 x7 x8 x9 x10
      have x0 := hbx3.cell_at 0 rfl
      have x1 := hbx3.cell_at 1 rfl
      have x2 := hbx3.cell_at 2 rfl
      have x3 := hbx3.cell_at 3 rfl
      have x4 := hbx3.cell_at 4 rfl
      have x5 := hbx3.cell_at 5 rfl
      have x6 := hbx3.cell_at 6 rfl
      have x7 := hbx3.cell_at 7 rfl
      have x8 := hbx3.cell_at 8 rfl
      have x9 := hbx3.cell_at 9 rfl
      have x10 := hbx3.cell_at 10 rfl
      go_wp2_with fail
      refine (rightR_B HLM3.out HR.out).mono ?_
      rintro e w4 ⟨rfl, hb4⟩
      have HBW4 : Hid (Below w.heap.size w w4) := Lib.hid (HBW3.out.trans (hb4.mono HBW3.out.size))
      clear hb4 hbx3 x0 x1 x2 x3 x4 x5 x6 x7 x8 x9 x10
      go_wp2_with fail
      refine (wakes8_any w4 (HT.out.on HBW4.out)).mono ?_
      rintro e w5 ⟨rfl, hb5⟩
      have HBW5 : Hid (Below w.heap.size w w5) := Lib.hid (HBW4.out.trans (hb5.mono HBW4.out.size))
      clear hb5
      go_wp2_with fail
      go_ret
      exact ⟨rfl, HBW5.out⟩
    · obtain rfl : e = .returned (.tuple #[.agg #[.slice none 0 0, .slice none 0 0, .slice none 0 0, .slice none 0 0, .int .i64 0, .int .i64 0, .int .i64 0, .int .i64 0, .int .i64 0, .int .i64 0, .int .i64 0], .int .i64 41]) := he
      have h11 : 11 ≤ zs.length := by
        have h1 := eats_lay l 0 _ _ hp
        have h2 := (good_lay l 0 _ _ (Nat.zero_le _) hp).2.1
        have h4 := HA.out.1
        omega
      have h11' : (11 : Int) ≤ (zs.length : Int) := by omega
      have HW : Hid (∀ o, Shapes (w1.alloc o) ∧ Below w.heap.size w (w1.alloc o)) := Lib.hid (fun o => ⟨HT.out.on (HB.out.trans ((below1 w1 o).mono HB.out.size)), HB.out.trans ((below1 w1 o).mono HB.out.size)⟩)
      clear hp hno
      go_wp2_with fail
      refine (wakes8_any _ (HW.out _).1).mono ?_
      rintro e w5 ⟨rfl, hb5⟩
      have HBW5 : Hid (Below w.heap.size w w5) := Lib.hid ((HW.out _).2.trans (hb5.mono (HW.out _).2.size))
      clear hb5
      go_wp2_with fail
      go_ret
      exact ⟨rfl, HBW5.out⟩
end Go.Proofs.YtegflmaobmibnaaGreatDoor
