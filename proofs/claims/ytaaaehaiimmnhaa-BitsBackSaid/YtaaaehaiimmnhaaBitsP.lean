/- The document's own Put. -/
import Derived.Test.YtaaaehaiimmnhaaBitsW
namespace Go.Proofs.Ytaaaehaiimmnhaa
open Go.RowKit Go.Shelf
set_option linter.unusedVariables false

/-- What calls tell of bits with an error. -/
abbrev noBitsR : Value := .agg #[.slice none 0 0, .int .i64 0]

set_option maxRecDepth 100000 in
set_option maxHeartbeats 4000000 in
theorem putR_bad (A : Option Addr) (cap : Nat) (zs : List Int) (N n k : Int) (w : World) (hr : Row w w.heap.size A (u8s zs)) (hb : ∀ z ∈ zs, IsByte z) (hl : zs.length ≤ maxLen)
    (hn1 : N ≤ 9223372036854775807) (hn0 : -9223372036854775808 ≤ N) (hn : n ≤ 9223372036854775807) (hbad : (rightB zs N && fitsB n k) = false) :
    Calls Try.prog 10 #[.agg #[.slice A zs.length cap, .int .i64 N], .int .i64 n, .int .i64 k] w fun e w' =>
      e = .returned (.tuple #[noBitsR, .int .i64 2]) ∧ Below w.heap.size w w' := by
  have fin : ∀ w1, Below ((w.alloc (.cells #[.slice A zs.length cap, .int .i64 N] 24)).alloc (.cells #[.slice none 0 0, .int .i64 0] 24)).heap.size ((w.alloc (.cells #[.slice A zs.length cap, .int .i64 N] 24)).alloc (.cells #[.slice none 0 0, .int .i64 0] 24)) w1 →
      Whole w1 (w.heap.size + 1) 24 [.slice none 0 0, .int .i64 0] ∧ Below w.heap.size w w1 := fun w1 hB =>
    ⟨(Whole.new_at (w.alloc _) 24 [.slice none 0 0, .int .i64 0] (w.heap.size + 1) (by simp)).below hB (by simp), (below2 _ _ _).trans (hB.mono (by simp; omega))⟩
  have FIN := Lib.hid fin
  clear fin
  cases hok : rightB zs N with
  | false =>
    clear hbad
    go_enter Try.func10, Try.ntmps10
    go_wp2_with fail
    refine (rightR_any _ _ _ _ _ (by exact hr.on (below2 _ _ _)) hb hl hn1 hn0).mono ?_
    rw [hok]
    rintro e w' ⟨rfl, hB⟩
    obtain ⟨hres, hb⟩ := FIN.out _ hB
    have c0 := hres.cell_at 0 rfl
    have c1 := hres.cell_at 1 rfl
    have f0 := hres.frozen 0
    have f1 := hres.frozen 1
    go_wp2
    refine bodyPost_ret (v := .tuple #[noBitsR, .int .i64 2]) (by simp [results, Try.f10, go_sem, c0, c1]) rfl ⟨rfl, ?_⟩
    exact (hb.setCell (p := ⟨w.heap.size + 1, 0, none⟩) (Nat.le_succ _) _).setCell (p := ⟨w.heap.size + 1, 1, none⟩) (Nat.le_succ _) _
  | true =>
    rw [hok, Bool.true_and] at hbad
    by_cases h1 : k < 0
    · go_enter Try.func10, Try.ntmps10
      go_wp2_with fail
      refine (rightR_any _ _ _ _ _ (by exact hr.on (below2 _ _ _)) hb hl hn1 hn0).mono ?_
      rw [hok]
      rintro e w' ⟨rfl, hB⟩
      obtain ⟨hres, hb⟩ := FIN.out _ hB
      have c0 := hres.cell_at 0 rfl
      have c1 := hres.cell_at 1 rfl
      have f0 := hres.frozen 0
      have f1 := hres.frozen 1
      go_wp2
      refine bodyPost_ret (v := .tuple #[noBitsR, .int .i64 2]) (by simp [results, Try.f10, go_sem, c0, c1]) rfl ⟨rfl, ?_⟩
      exact (hb.setCell (p := ⟨w.heap.size + 1, 0, none⟩) (Nat.le_succ _) _).setCell (p := ⟨w.heap.size + 1, 1, none⟩) (Nat.le_succ _) _
    · by_cases h2 : 32 < k
      · go_enter Try.func10, Try.ntmps10
        go_wp2_with fail
        refine (rightR_any _ _ _ _ _ (by exact hr.on (below2 _ _ _)) hb hl hn1 hn0).mono ?_
        rw [hok]
        rintro e w' ⟨rfl, hB⟩
        obtain ⟨hres, hb⟩ := FIN.out _ hB
        have c0 := hres.cell_at 0 rfl
        have c1 := hres.cell_at 1 rfl
        have f0 := hres.frozen 0
        have f1 := hres.frozen 1
        go_wp2
        refine bodyPost_ret (v := .tuple #[noBitsR, .int .i64 2]) (by simp [results, Try.f10, go_sem, c0, c1]) rfl ⟨rfl, ?_⟩
        exact (hb.setCell (p := ⟨w.heap.size + 1, 0, none⟩) (Nat.le_succ _) _).setCell (p := ⟨w.heap.size + 1, 1, none⟩) (Nat.le_succ _) _
      · by_cases h3 : n < 0
        · go_enter Try.func10, Try.ntmps10
          go_wp2_with fail
          refine (rightR_any _ _ _ _ _ (by exact hr.on (below2 _ _ _)) hb hl hn1 hn0).mono ?_
          rw [hok]
          rintro e w' ⟨rfl, hB⟩
          obtain ⟨hres, hb⟩ := FIN.out _ hB
          have c0 := hres.cell_at 0 rfl
          have c1 := hres.cell_at 1 rfl
          have f0 := hres.frozen 0
          have f1 := hres.frozen 1
          go_wp2
          refine bodyPost_ret (v := .tuple #[noBitsR, .int .i64 2]) (by simp [results, Try.f10, go_sem, c0, c1]) rfl ⟨rfl, ?_⟩
          exact (hb.setCell (p := ⟨w.heap.size + 1, 0, none⟩) (Nat.le_succ _) _).setCell (p := ⟨w.heap.size + 1, 1, none⟩) (Nat.le_succ _) _
        · have hge : (2 : Int) ^ k.toNat ≤ n := by
            simp [fitsB, wideB] at hbad
            exact hbad (by omega) (by omega) (by omega)
          have hpw : wrap64 (2 ^ k.toNat) = 2 ^ k.toNat := pow_wrap _ (by omega)
          go_enter Try.func10, Try.ntmps10
          go_wp2_with fail
          refine (rightR_any _ _ _ _ _ (by exact hr.on (below2 _ _ _)) hb hl hn1 hn0).mono ?_
          rw [hok]
          rintro e w' ⟨rfl, hB⟩
          obtain ⟨hres, hb⟩ := FIN.out _ hB
          have c0 := hres.cell_at 0 rfl
          have c1 := hres.cell_at 1 rfl
          have f0 := hres.frozen 0
          have f1 := hres.frozen 1
          go_wp2
          refine bodyPost_ret (v := .tuple #[noBitsR, .int .i64 2]) (by simp [results, Try.f10, go_sem, c0, c1]) rfl ⟨rfl, ?_⟩
          exact (hb.setCell (p := ⟨w.heap.size + 1, 0, none⟩) (Nat.le_succ _) _).setCell (p := ⟨w.heap.size + 1, 1, none⟩) (Nat.le_succ _) _
end Go.Proofs.Ytaaaehaiimmnhaa
