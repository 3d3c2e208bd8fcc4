/- The walk of TickTells: the program's answers are the document's. -/
import Derived.Test.YteicpjhfglkchaaDoorTickB
namespace Go.Proofs.YteicpjhfglkchaaDoor
open Go.RowKit Go.Shelf
set_option linter.unusedVariables false

set_option maxRecDepth 100000 in
set_option maxHeartbeats 4000000 in
theorem tickTells_walk (n b : Int) (t : Bool) (w : World) (hn : -9223372036854775808 ≤ n ∧ n ≤ 9223372036854775807) (hT : Tops w) :
    Calls Tryd.prog 3 #[.int .i64 n, .int .i64 b, .bool t] w fun e w' => e = .returned (.bool true) ∧ Below w.heap.size w w' := by
  have h : Now w w := ⟨hT, Below.refl _ _⟩
  have HN := Lib.hid hn
  clear hn hT
  obtain ⟨v1, h1⟩ : ∃ v, clockV n = v := ⟨_, rfl⟩
  obtain ⟨v2, h2⟩ : ∃ v, nextV n = v := ⟨_, rfl⟩
  obtain ⟨v3, h3⟩ : ∃ v, countV n = v := ⟨_, rfl⟩
  obtain ⟨v4, h4⟩ : ∃ v, moreV n b = v := ⟨_, rfl⟩
  obtain ⟨v5, h5⟩ : ∃ v, downV n = v := ⟨_, rfl⟩
  obtain ⟨v6, h6⟩ : ∃ v, decide (b < n) = v := ⟨_, rfl⟩
  obtain ⟨v7, h7⟩ : ∃ v, rowV t n = v := ⟨_, rfl⟩
  have H1 := Lib.hid h1
  clear h1
  have H2 := Lib.hid h2
  clear h2
  have H3 := Lib.hid h3
  clear h3
  have H4 := Lib.hid h4
  clear h4
  have H5 := Lib.hid h5
  clear h5
  have H6 := Lib.hid h6
  clear h6
  have H7 := Lib.hid h7
  clear h7
  go_enter Tryd.func3, Tryd.ntmps3
  go_wp2_with fail
  refine (clock_now _ H1.out h).mono ?_
  clear h
  rintro e w' ⟨rfl, h⟩
  go_wp2_with fail
  refine (clockR_now _ H1.out h).mono ?_
  clear h
  rintro e w' ⟨rfl, h⟩
  go_wp2_with fail
  refine (next_now _ H2.out h).mono ?_
  clear h
  rintro e w' ⟨rfl, h⟩
  go_wp2_with fail
  refine (nextR_now _ H2.out h).mono ?_
  clear h
  rintro e w' ⟨rfl, h⟩
  go_wp2_with fail
  refine (count_now _ H3.out h).mono ?_
  clear h
  rintro e w' ⟨rfl, h⟩
  go_wp2_with fail
  refine (countR_now _ H3.out h).mono ?_
  clear h
  rintro e w' ⟨rfl, h⟩
  go_wp2_with fail
  refine (more_now _ _ H4.out h).mono ?_
  clear h
  rintro e w' ⟨rfl, h⟩
  go_wp2_with fail
  refine (moreR_now _ _ H4.out h).mono ?_
  clear h
  rintro e w' ⟨rfl, h⟩
  go_wp2_with fail
  refine (down_now _ HN.out H5.out h).mono ?_
  clear h
  rintro e w' ⟨rfl, h⟩
  go_wp2_with fail
  refine (downR_now _ HN.out H5.out h).mono ?_
  clear h
  rintro e w' ⟨rfl, h⟩
  go_wp2_with fail
  refine (late_now _ _ _ H6.out h).mono ?_
  clear h
  rintro e w' ⟨rfl, h⟩
  go_wp2_with fail
  refine (lateR_now _ _ _ H6.out h).mono ?_
  clear h
  rintro e w' ⟨rfl, h⟩
  go_wp2_with fail
  refine (row_now _ _ H7.out h).mono ?_
  clear h
  rintro e w' ⟨rfl, h⟩
  go_wp2_with fail
  refine (rowR_now _ _ H7.out h).mono ?_
  clear h
  rintro e w' ⟨rfl, h⟩
  go_wp2_with fail
  refine (wakes_now h).mono ?_
  clear h
  rintro e w' ⟨rfl, h⟩
  go_wp2_with fail
  go_ret
  exact ⟨rfl, h.below⟩
end Go.Proofs.YteicpjhfglkchaaDoor
