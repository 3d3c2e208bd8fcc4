/- Of bits that may not be nothing is put or taken; bits that may be stay so. -/
import Derived.Test.YtaaaehaiimmnhaaBitsY
import Derived.Test.YtaaaehaiimmnhaaSums
namespace Go.Proofs.Ytaaaehaiimmnhaa
open Go.RowKit Go.Shelf
set_option linter.unusedVariables false

set_option maxRecDepth 100000 in
set_option maxHeartbeats 8000000 in
theorem bad_walk (A A' : Option Addr) (cap cap' : Nat) (zs : List Int) (N n k a : Int) (fl : List Bool) (w : World) (hr : Row w w.heap.size A (u8s zs)) (hb : ∀ z ∈ zs, IsByte z) (hl : zs.length ≤ maxLen)
    (hN0 : -9223372036854775808 ≤ N) (hN1 : N ≤ 9223372036854775807) (hn : n ≤ 9223372036854775807) (hr' : Row w w.heap.size A' (bools fl)) :
    Calls Try.prog 7 #[.agg #[.slice A zs.length cap, .int .i64 N], .int .i64 n, .int .i64 k, .int .i64 a, .slice A' fl.length cap'] w fun e w' => e = .returned (.bool true) ∧ Below w.heap.size w w' := by
  by_cases h1 : 100 < zs.length
  · have c1 : (100 : Int) < (zs.length : Int) := by omega
    go_enter Try.func7, Try.ntmps7
    go_wp2_with fail
    refine (wakes_any _).mono ?_
    rintro e w' ⟨rfl, hB⟩
    go_wp2_with fail
    go_ret
    exact ⟨rfl, on1 hB⟩
  by_cases h2 : 100 < fl.length
  · have c1 : ¬ (100 : Int) < (zs.length : Int) := by omega
    have c2 : (100 : Int) < (fl.length : Int) := by omega
    go_enter Try.func7, Try.ntmps7
    go_wp2_with fail
    refine (wakes_any _).mono ?_
    rintro e w' ⟨rfl, hB⟩
    go_wp2_with fail
    go_ret
    exact ⟨rfl, on1 hB⟩
  have G : Given w A zs N := ⟨hr, hb, by omega, hN0, hN1⟩
  have c1 : ¬ (100 : Int) < (zs.length : Int) := by omega
  have c2 : ¬ (100 : Int) < (fl.length : Int) := by omega
  go_enter Try.func7, Try.ntmps7
  go_wp2_with fail
  refine (put_all A cap zs N n k _ (by exact G.on (below1 _ _)) hn).mono ?_
  rintro e w1 ⟨A1, k1, y1, M1, e1, rfl, H1, P1, hB⟩
  have X1 := (Var.new ⟨hr, hb⟩ cap N).on hB
  have S1 := on1 hB
  clear hB
  have x0 := fun o => (X1.on (below1 w1 o)).1.cell_at 0 rfl
  have x1 := fun o => (X1.on (below1 w1 o)).1.cell_at 1 rfl
  go_wp2_with fail
  refine (flags_all A A' cap cap' zs N fl _ (by exact (G.on S1).on (below1 _ _)) (by exact (hr'.on S1).on (below1 _ _)) (by omega)).mono ?_
  rintro e w2 ⟨A2, k2, y2, M2, e2, rfl, H2, P2, hB⟩
  have X2 := X1.on (on1 hB)
  have Y2 := (Var.new H1 k1 M1).on hB
  have S2 := S1.trans ((on1 hB).mono S1.size)
  clear hB x0 x1 X1 H1
  have x0 := fun o => (X2.on (below1 w2 o)).1.cell_at 0 rfl
  have x1 := fun o => (X2.on (below1 w2 o)).1.cell_at 1 rfl
  go_wp2_with fail
  refine (pad_all A cap zs N _ (by exact (G.on S2).on (below1 _ _))).mono ?_
  rintro e w3 ⟨A3, k3, y3, M3, e3, rfl, H3, P3, hB⟩
  have X3 := X2.on (on1 hB)
  have Y3 := Y2.on (on1 hB)
  have Z3 := (Var.new H2 k2 M2).on hB
  have S3 := S2.trans ((on1 hB).mono S2.size)
  clear hB x0 x1 X2 H2 Y2 S1
  have x0 := fun o => (X3.on (below1 w3 o)).1.cell_at 0 rfl
  have x1 := fun o => (X3.on (below1 w3 o)).1.cell_at 1 rfl
  go_wp2_with fail
  refine (take_all A cap zs N a k _ (by exact (G.on S3).on (below1 _ _))).mono ?_
  rintro e w4 ⟨m, e4, rfl, P4, hB⟩
  have X4 := X3.on (on1 hB)
  have Y4 := Y3.on (on1 hB)
  have Z4 := Z3.on (on1 hB)
  have U4 := (Var.new H3 k3 M3).on hB
  have S4 := S3.trans ((on1 hB).mono S3.size)
  clear hB x0 x1 X3 H3 Y3 Z3 S2 S3
  have x0 := X4.1.cell_at 0 rfl
  have x1 := X4.1.cell_at 1 rfl
  go_wp2_with fail
  refine (right_given (G.on S4) cap).mono ?_
  rintro e w5 ⟨rfl, hB⟩
  have X5 := X4.on hB
  have Y5 := Y4.on hB
  have Z5 := Z4.on hB
  have U5 := U4.on hB
  have S5 := S4.trans (hB.mono S4.size)
  clear hB x0 x1 X4 Y4 Z4 U4 S4
  cases hR : rightB zs N
  · obtain ⟨rfl, rfl, rfl⟩ := P1.wrong hR
    obtain ⟨rfl, rfl, rfl⟩ := P2.wrong hR
    obtain ⟨rfl, rfl, rfl⟩ := P3.wrong hR
    obtain ⟨rfl, rfl⟩ := P4.wrong hR
    have x1 := Y5.1.cell_at 1 rfl
    have x2 := Z5.1.cell_at 1 rfl
    have x3 := U5.1.cell_at 1 rfl
    go_wp2_with fail
    refine (wakes_any _).mono ?_
    rintro e w' ⟨rfl, hB⟩
    go_wp2_with fail
    go_ret
    exact ⟨rfl, S5.trans (hB.mono S5.size)⟩
  · obtain ⟨l, hA, hl16, hlz⟩ := G.bits hR
    obtain ⟨hM2, hr2, rfl⟩ := P2.sure hA
    obtain ⟨hM3, hr3, rfl⟩ := P3.sure hA
    have hM2 : M2 = N + (fl.length : Int) := hM2
    subst hM2
    have b1 := P1.few 100 32 (by omega) (fun hF _ => by obtain ⟨j, rfl, hj, _⟩ := fits_nat hF; simpa [first_length] using hj)
    have b2 := P2.few 100 100 (by omega) (fun _ _ => by omega)
    have b3 := P3.few 100 7 (by omega) (fun _ l => by simpa using padN_le l.length)
    have hw : IntKind.i64.wrap (N + (fl.length : Int)) = N + (fl.length : Int) := wrap_id _ (by omega) (by omega)
    clear hM3
    have xb := Z5.1.cell_at 0 rfl
    have xb' := Z5.1.cell_at 1 rfl
    have hP1 : e1 = 2 ∨ (e1 = 0 ∧ rightB y1 M1 = true) := P1.told
    rcases hP1 with rfl | ⟨rfl, hr1⟩
    · go_wp2_with fail
      refine (right_given (Given.of Z5.2 (by omega) (by omega) (by omega)) k2).mono ?_
      rw [hr2]
      rintro e wb ⟨rfl, hB⟩
      have Zb := Z5.on hB
      have Ub := U5.on hB
      have Sb := S5.trans (hB.mono S5.size)
      have Xb := X5.on hB
      clear hB
      have xc := Ub.1.cell_at 0 rfl
      have xc' := Ub.1.cell_at 1 rfl
      go_wp2_with fail
      refine (right_given (Given.of Ub.2 (by omega) (by omega) (by omega)) k3).mono ?_
      rw [hr3]
      rintro e wc ⟨rfl, hB⟩
      have Sc := Sb.trans (hB.mono Sb.size)
      have xb' := (Zb.on hB).1.cell_at 1 rfl
      have xx' := (Xb.on hB).1.cell_at 1 rfl
      clear hB xc xc'
      go_wp2_with fail
      refine (wakes_any _).mono ?_
      rintro e w' ⟨rfl, hB⟩
      go_wp2_with fail
      go_ret
      exact ⟨rfl, Sc.trans (hB.mono Sc.size)⟩
    · have xa := Y5.1.cell_at 0 rfl
      have xa' := Y5.1.cell_at 1 rfl
      go_wp2_with fail
      refine (right_given (Given.of Y5.2 (by omega) (by omega) (by omega)) k1).mono ?_
      rw [hr1]
      rintro e w6 ⟨rfl, hB⟩
      have X6 := X5.on hB
      have Z6 := Z5.on hB
      have U6 := U5.on hB
      have S6 := S5.trans (hB.mono S5.size)
      clear hB xa xa' xb xb'
      have xb := Z6.1.cell_at 0 rfl
      have xb' := Z6.1.cell_at 1 rfl
      go_wp2_with fail
      refine (right_given (Given.of Z6.2 (by omega) (by omega) (by omega)) k2).mono ?_
      rw [hr2]
      rintro e wb ⟨rfl, hB⟩
      have Zb := Z6.on hB
      have Ub := U6.on hB
      have Sb := S6.trans (hB.mono S6.size)
      have Xb := X6.on hB
      clear hB
      have xc := Ub.1.cell_at 0 rfl
      have xc' := Ub.1.cell_at 1 rfl
      go_wp2_with fail
      refine (right_given (Given.of Ub.2 (by omega) (by omega) (by omega)) k3).mono ?_
      rw [hr3]
      rintro e wc ⟨rfl, hB⟩
      have Sc := Sb.trans (hB.mono Sb.size)
      have xb' := (Zb.on hB).1.cell_at 1 rfl
      have xx' := (Xb.on hB).1.cell_at 1 rfl
      clear hB xc xc'
      go_wp2_with fail
      refine (wakes_any _).mono ?_
      rintro e w' ⟨rfl, hB⟩
      go_wp2_with fail
      go_ret
      exact ⟨rfl, Sc.trans (hB.mono Sc.size)⟩
end Go.Proofs.Ytaaaehaiimmnhaa
