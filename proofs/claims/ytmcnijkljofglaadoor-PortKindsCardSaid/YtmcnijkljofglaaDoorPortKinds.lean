/- The walk of PortKinds: how many ports and ways kinds have, and their ends. -/
import Derived.Test.YtmcnijkljofglaaDoorPortK
namespace Go.Proofs.YtmcnijkljofglaaDoor
open Go.RowKit Go.Shelf
set_option linter.unusedVariables false
set_option linter.unusedSimpArgs false


set_option maxRecDepth 100000 in
set_option maxHeartbeats 8000000 in
theorem portKinds_walk (k y : Int) (w : World) (h0 : 0 ≤ k ∧ k ≤ 255) (hT : Shapes w) :
    Calls Tryd.prog 5 #[.int .u8 k, .int .i64 y] w fun e w' => e = .returned (.bool true) ∧ Below w.heap.size w w' := by
  obtain ⟨P, HP, HT, HPb, hp⟩ := keep_first hT
  obtain ⟨hk0, hk1⟩ := h0
  have hk : k = 0 ∨ 4 ≤ k ∨ k = 1 ∨ k = 2 ∨ k = 3 := by omega
  rcases hk with rfl | hk4 | rfl | rfl | rfl
  · have hy : y < 0 ∨ 0 ≤ y := by omega
    rcases hy with hy | hy
    · have HN : Hid (hasV 0 y = false) := Lib.hid (hasV_no (.inl hy))
      go_enter Tryd.func5, Tryd.ntmps5
      go_wp2_with fail
      refine (ports_P HP.out HT.out (by decide) (by decide) sh0 hp).mono ?_
      clear hp
      rintro e w1 ⟨rfl, hp⟩
      go_wp2_with fail
      refine (ways_P HP.out HT.out (by decide) (by decide) sh0 hp).mono ?_
      clear hp
      rintro e w1 ⟨rfl, hp⟩
      go_wp2_with fail
      refine (ends_P HP.out HT.out 0 y (by decide) (by decide) (u := 0) (v := 0) (r := false) sh0 (endA_no HN.out) (endA_no HN.out) HN.out hp).mono ?_
      clear hp
      rintro e w1 ⟨rfl, hp⟩
      go_wp2_with fail
      refine (wakes5_P HP.out HT.out hp).mono ?_
      rintro e w2 ⟨rfl, h2⟩
      go_wp2_with fail
      go_ret
      exact ⟨rfl, HPb.out _ h2⟩
    · have HN : Hid (hasV 0 y = false) := Lib.hid (hasV_no (.inr hy))
      have hy0 : 0 ≤ y := by omega
      go_enter Tryd.func5, Tryd.ntmps5
      go_wp2_with fail
      refine (ports_P HP.out HT.out (by decide) (by decide) sh0 hp).mono ?_
      clear hp
      rintro e w1 ⟨rfl, hp⟩
      go_wp2_with fail
      refine (ways_P HP.out HT.out (by decide) (by decide) sh0 hp).mono ?_
      clear hp
      rintro e w1 ⟨rfl, hp⟩
      go_wp2_with fail
      refine (ends_P HP.out HT.out 0 y (by decide) (by decide) (u := 0) (v := 0) (r := false) sh0 (endA_no HN.out) (endA_no HN.out) HN.out hp).mono ?_
      clear hp
      rintro e w1 ⟨rfl, hp⟩
      go_wp2_with fail
      refine (wakes5_P HP.out HT.out hp).mono ?_
      rintro e w2 ⟨rfl, h2⟩
      go_wp2_with fail
      go_ret
      exact ⟨rfl, HPb.out _ h2⟩
  · have HS4 : Hid (IsShape k 0 0 0 0 0 0) := Lib.hid (.inr (.inr (.inr ⟨.inr (by omega), rfl, rfl, rfl, rfl, rfl, rfl⟩)))
    have hy : y < 0 ∨ 0 ≤ y := by omega
    rcases hy with hy | hy
    · have HN : Hid (hasV 0 y = false) := Lib.hid (hasV_no (.inl hy))
      go_enter Tryd.func5, Tryd.ntmps5
      go_wp2_with fail
      refine (ports_P HP.out HT.out hk0 hk1 HS4.out hp).mono ?_
      clear hp
      rintro e w1 ⟨rfl, hp⟩
      go_wp2_with fail
      refine (ways_P HP.out HT.out hk0 hk1 HS4.out hp).mono ?_
      clear hp
      rintro e w1 ⟨rfl, hp⟩
      go_wp2_with fail
      refine (ends_P HP.out HT.out k y hk0 hk1 (u := 0) (v := 0) (r := false) HS4.out (endA_no HN.out) (endA_no HN.out) HN.out hp).mono ?_
      clear hp
      rintro e w1 ⟨rfl, hp⟩
      go_wp2_with fail
      refine (wakes5_P HP.out HT.out hp).mono ?_
      rintro e w2 ⟨rfl, h2⟩
      go_wp2_with fail
      go_ret
      exact ⟨rfl, HPb.out _ h2⟩
    · have HN : Hid (hasV 0 y = false) := Lib.hid (hasV_no (.inr hy))
      have hy0 : 0 ≤ y := by omega
      go_enter Tryd.func5, Tryd.ntmps5
      go_wp2_with fail
      refine (ports_P HP.out HT.out hk0 hk1 HS4.out hp).mono ?_
      clear hp
      rintro e w1 ⟨rfl, hp⟩
      go_wp2_with fail
      refine (ways_P HP.out HT.out hk0 hk1 HS4.out hp).mono ?_
      clear hp
      rintro e w1 ⟨rfl, hp⟩
      go_wp2_with fail
      refine (ends_P HP.out HT.out k y hk0 hk1 (u := 0) (v := 0) (r := false) HS4.out (endA_no HN.out) (endA_no HN.out) HN.out hp).mono ?_
      clear hp
      rintro e w1 ⟨rfl, hp⟩
      go_wp2_with fail
      refine (wakes5_P HP.out HT.out hp).mono ?_
      rintro e w2 ⟨rfl, h2⟩
      go_wp2_with fail
      go_ret
      exact ⟨rfl, HPb.out _ h2⟩
  · have hy : y < 0 ∨ 1 ≤ y ∨ y = 0 := by omega
    rcases hy with hy | hy | rfl
    · have HN : Hid (hasV 1 y = false) := Lib.hid (hasV_no (.inl hy))
      go_enter Tryd.func5, Tryd.ntmps5
      go_wp2_with fail
      refine (ports_P HP.out HT.out (by decide) (by decide) sh1 hp).mono ?_
      clear hp
      rintro e w1 ⟨rfl, hp⟩
      go_wp2_with fail
      refine (ways_P HP.out HT.out (by decide) (by decide) sh1 hp).mono ?_
      clear hp
      rintro e w1 ⟨rfl, hp⟩
      go_wp2_with fail
      refine (ends_P HP.out HT.out 1 y (by decide) (by decide) (u := 0) (v := 0) (r := false) sh1 (endA_no HN.out) (endA_no HN.out) HN.out hp).mono ?_
      clear hp
      rintro e w1 ⟨rfl, hp⟩
      go_wp2_with fail
      refine (wakes5_P HP.out HT.out hp).mono ?_
      rintro e w2 ⟨rfl, h2⟩
      go_wp2_with fail
      go_ret
      exact ⟨rfl, HPb.out _ h2⟩
    · have HN : Hid (hasV 1 y = false) := Lib.hid (hasV_no (.inr hy))
      have hy0 : 0 ≤ y := by omega
      go_enter Tryd.func5, Tryd.ntmps5
      go_wp2_with fail
      refine (ports_P HP.out HT.out (by decide) (by decide) sh1 hp).mono ?_
      clear hp
      rintro e w1 ⟨rfl, hp⟩
      go_wp2_with fail
      refine (ways_P HP.out HT.out (by decide) (by decide) sh1 hp).mono ?_
      clear hp
      rintro e w1 ⟨rfl, hp⟩
      go_wp2_with fail
      refine (ends_P HP.out HT.out 1 y (by decide) (by decide) (u := 0) (v := 0) (r := false) sh1 (endA_no HN.out) (endA_no HN.out) HN.out hp).mono ?_
      clear hp
      rintro e w1 ⟨rfl, hp⟩
      go_wp2_with fail
      refine (wakes5_P HP.out HT.out hp).mono ?_
      rintro e w2 ⟨rfl, h2⟩
      go_wp2_with fail
      go_ret
      exact ⟨rfl, HPb.out _ h2⟩
    · go_enter Tryd.func5, Tryd.ntmps5
      go_wp2_with fail
      refine (ports_P HP.out HT.out (by decide) (by decide) sh1 hp).mono ?_
      clear hp
      rintro e w1 ⟨rfl, hp⟩
      go_wp2_with fail
      refine (ways_P HP.out HT.out (by decide) (by decide) sh1 hp).mono ?_
      clear hp
      rintro e w1 ⟨rfl, hp⟩
      go_wp2_with fail
      refine (ends_P HP.out HT.out 1 0 (by decide) (by decide) (u := 0) (v := 1) (r := true) sh1 (by decide) (by decide) (by decide) hp).mono ?_
      clear hp
      rintro e w1 ⟨rfl, hp⟩
      go_wp2_with fail
      refine (ends_P HP.out HT.out 1 1 (by decide) (by decide) (u := 0) (v := 0) (r := false) sh1 (by decide) (by decide) (by decide) hp).mono ?_
      clear hp
      rintro e w1 ⟨rfl, hp⟩
      go_wp2_with fail
      refine (wakes5_P HP.out HT.out hp).mono ?_
      rintro e w2 ⟨rfl, h2⟩
      go_wp2_with fail
      go_ret
      exact ⟨rfl, HPb.out _ h2⟩
  · have hy : y < 0 ∨ 2 ≤ y ∨ y = 0 ∨ y = 1 := by omega
    rcases hy with hy | hy | rfl | rfl
    · have HN : Hid (hasV 2 y = false) := Lib.hid (hasV_no (.inl hy))
      go_enter Tryd.func5, Tryd.ntmps5
      go_wp2_with fail
      refine (ports_P HP.out HT.out (by decide) (by decide) sh2 hp).mono ?_
      clear hp
      rintro e w1 ⟨rfl, hp⟩
      go_wp2_with fail
      refine (ways_P HP.out HT.out (by decide) (by decide) sh2 hp).mono ?_
      clear hp
      rintro e w1 ⟨rfl, hp⟩
      go_wp2_with fail
      refine (ends_P HP.out HT.out 2 y (by decide) (by decide) (u := 0) (v := 0) (r := false) sh2 (endA_no HN.out) (endA_no HN.out) HN.out hp).mono ?_
      clear hp
      rintro e w1 ⟨rfl, hp⟩
      go_wp2_with fail
      refine (wakes5_P HP.out HT.out hp).mono ?_
      rintro e w2 ⟨rfl, h2⟩
      go_wp2_with fail
      go_ret
      exact ⟨rfl, HPb.out _ h2⟩
    · have HN : Hid (hasV 2 y = false) := Lib.hid (hasV_no (.inr hy))
      have hy0 : 0 ≤ y := by omega
      go_enter Tryd.func5, Tryd.ntmps5
      go_wp2_with fail
      refine (ports_P HP.out HT.out (by decide) (by decide) sh2 hp).mono ?_
      clear hp
      rintro e w1 ⟨rfl, hp⟩
      go_wp2_with fail
      refine (ways_P HP.out HT.out (by decide) (by decide) sh2 hp).mono ?_
      clear hp
      rintro e w1 ⟨rfl, hp⟩
      go_wp2_with fail
      refine (ends_P HP.out HT.out 2 y (by decide) (by decide) (u := 0) (v := 0) (r := false) sh2 (endA_no HN.out) (endA_no HN.out) HN.out hp).mono ?_
      clear hp
      rintro e w1 ⟨rfl, hp⟩
      go_wp2_with fail
      refine (wakes5_P HP.out HT.out hp).mono ?_
      rintro e w2 ⟨rfl, h2⟩
      go_wp2_with fail
      go_ret
      exact ⟨rfl, HPb.out _ h2⟩
    · go_enter Tryd.func5, Tryd.ntmps5
      go_wp2_with fail
      refine (ports_P HP.out HT.out (by decide) (by decide) sh2 hp).mono ?_
      clear hp
      rintro e w1 ⟨rfl, hp⟩
      go_wp2_with fail
      refine (ways_P HP.out HT.out (by decide) (by decide) sh2 hp).mono ?_
      clear hp
      rintro e w1 ⟨rfl, hp⟩
      go_wp2_with fail
      refine (ends_P HP.out HT.out 2 0 (by decide) (by decide) (u := 0) (v := 1) (r := true) sh2 (by decide) (by decide) (by decide) hp).mono ?_
      clear hp
      rintro e w1 ⟨rfl, hp⟩
      go_wp2_with fail
      refine (ends_P HP.out HT.out 2 1 (by decide) (by decide) (u := 0) (v := 2) (r := true) sh2 (by decide) (by decide) (by decide) hp).mono ?_
      clear hp
      rintro e w1 ⟨rfl, hp⟩
      go_wp2_with fail
      refine (wakes5_P HP.out HT.out hp).mono ?_
      rintro e w2 ⟨rfl, h2⟩
      go_wp2_with fail
      go_ret
      exact ⟨rfl, HPb.out _ h2⟩
    · go_enter Tryd.func5, Tryd.ntmps5
      go_wp2_with fail
      refine (ports_P HP.out HT.out (by decide) (by decide) sh2 hp).mono ?_
      clear hp
      rintro e w1 ⟨rfl, hp⟩
      go_wp2_with fail
      refine (ways_P HP.out HT.out (by decide) (by decide) sh2 hp).mono ?_
      clear hp
      rintro e w1 ⟨rfl, hp⟩
      go_wp2_with fail
      refine (ends_P HP.out HT.out 2 1 (by decide) (by decide) (u := 0) (v := 2) (r := true) sh2 (by decide) (by decide) (by decide) hp).mono ?_
      clear hp
      rintro e w1 ⟨rfl, hp⟩
      go_wp2_with fail
      refine (ends_P HP.out HT.out 2 0 (by decide) (by decide) (u := 0) (v := 1) (r := true) sh2 (by decide) (by decide) (by decide) hp).mono ?_
      clear hp
      rintro e w1 ⟨rfl, hp⟩
      go_wp2_with fail
      refine (wakes5_P HP.out HT.out hp).mono ?_
      rintro e w2 ⟨rfl, h2⟩
      go_wp2_with fail
      go_ret
      exact ⟨rfl, HPb.out _ h2⟩
  · have hy : y < 0 ∨ 2 ≤ y ∨ y = 0 ∨ y = 1 := by omega
    rcases hy with hy | hy | rfl | rfl
    · have HN : Hid (hasV 2 y = false) := Lib.hid (hasV_no (.inl hy))
      go_enter Tryd.func5, Tryd.ntmps5
      go_wp2_with fail
      refine (ports_P HP.out HT.out (by decide) (by decide) sh3 hp).mono ?_
      clear hp
      rintro e w1 ⟨rfl, hp⟩
      go_wp2_with fail
      refine (ways_P HP.out HT.out (by decide) (by decide) sh3 hp).mono ?_
      clear hp
      rintro e w1 ⟨rfl, hp⟩
      go_wp2_with fail
      refine (ends_P HP.out HT.out 3 y (by decide) (by decide) (u := 0) (v := 0) (r := false) sh3 (endA_no HN.out) (endA_no HN.out) HN.out hp).mono ?_
      clear hp
      rintro e w1 ⟨rfl, hp⟩
      go_wp2_with fail
      refine (wakes5_P HP.out HT.out hp).mono ?_
      rintro e w2 ⟨rfl, h2⟩
      go_wp2_with fail
      go_ret
      exact ⟨rfl, HPb.out _ h2⟩
    · have HN : Hid (hasV 2 y = false) := Lib.hid (hasV_no (.inr hy))
      have hy0 : 0 ≤ y := by omega
      go_enter Tryd.func5, Tryd.ntmps5
      go_wp2_with fail
      refine (ports_P HP.out HT.out (by decide) (by decide) sh3 hp).mono ?_
      clear hp
      rintro e w1 ⟨rfl, hp⟩
      go_wp2_with fail
      refine (ways_P HP.out HT.out (by decide) (by decide) sh3 hp).mono ?_
      clear hp
      rintro e w1 ⟨rfl, hp⟩
      go_wp2_with fail
      refine (ends_P HP.out HT.out 3 y (by decide) (by decide) (u := 0) (v := 0) (r := false) sh3 (endA_no HN.out) (endA_no HN.out) HN.out hp).mono ?_
      clear hp
      rintro e w1 ⟨rfl, hp⟩
      go_wp2_with fail
      refine (wakes5_P HP.out HT.out hp).mono ?_
      rintro e w2 ⟨rfl, h2⟩
      go_wp2_with fail
      go_ret
      exact ⟨rfl, HPb.out _ h2⟩
    · go_enter Tryd.func5, Tryd.ntmps5
      go_wp2_with fail
      refine (ports_P HP.out HT.out (by decide) (by decide) sh3 hp).mono ?_
      clear hp
      rintro e w1 ⟨rfl, hp⟩
      go_wp2_with fail
      refine (ways_P HP.out HT.out (by decide) (by decide) sh3 hp).mono ?_
      clear hp
      rintro e w1 ⟨rfl, hp⟩
      go_wp2_with fail
      refine (ends_P HP.out HT.out 3 0 (by decide) (by decide) (u := 0) (v := 1) (r := true) sh3 (by decide) (by decide) (by decide) hp).mono ?_
      clear hp
      rintro e w1 ⟨rfl, hp⟩
      go_wp2_with fail
      refine (ends_P HP.out HT.out 3 1 (by decide) (by decide) (u := 2) (v := 3) (r := true) sh3 (by decide) (by decide) (by decide) hp).mono ?_
      clear hp
      rintro e w1 ⟨rfl, hp⟩
      go_wp2_with fail
      refine (wakes5_P HP.out HT.out hp).mono ?_
      rintro e w2 ⟨rfl, h2⟩
      go_wp2_with fail
      go_ret
      exact ⟨rfl, HPb.out _ h2⟩
    · go_enter Tryd.func5, Tryd.ntmps5
      go_wp2_with fail
      refine (ports_P HP.out HT.out (by decide) (by decide) sh3 hp).mono ?_
      clear hp
      rintro e w1 ⟨rfl, hp⟩
      go_wp2_with fail
      refine (ways_P HP.out HT.out (by decide) (by decide) sh3 hp).mono ?_
      clear hp
      rintro e w1 ⟨rfl, hp⟩
      go_wp2_with fail
      refine (ends_P HP.out HT.out 3 1 (by decide) (by decide) (u := 2) (v := 3) (r := true) sh3 (by decide) (by decide) (by decide) hp).mono ?_
      clear hp
      rintro e w1 ⟨rfl, hp⟩
      go_wp2_with fail
      refine (ends_P HP.out HT.out 3 0 (by decide) (by decide) (u := 0) (v := 1) (r := true) sh3 (by decide) (by decide) (by decide) hp).mono ?_
      clear hp
      rintro e w1 ⟨rfl, hp⟩
      go_wp2_with fail
      refine (wakes5_P HP.out HT.out hp).mono ?_
      rintro e w2 ⟨rfl, h2⟩
      go_wp2_with fail
      go_ret
      exact ⟨rfl, HPb.out _ h2⟩
end Go.Proofs.YtmcnijkljofglaaDoor
