/- Package bits: Pad; and the document's own Pad and Flags. -/
import Derived.Test.YtaaaehaiimmnhaaBitsH
import Derived.Test.YtaaaehaiimmnhaaBitsQ
namespace Go.Proofs.Ytaaaehaiimmnhaa
open Go.RowKit Go.Shelf
set_option linter.unusedVariables false

set_option maxRecDepth 100000 in
set_option maxHeartbeats 4000000 in
theorem pad_bad (A : Option Addr) (cap : Nat) (zs : List Int) (N : Int) (w : World) (hr : Row w w.heap.size A (u8s zs)) (hb : ∀ z ∈ zs, IsByte z) (hl : zs.length ≤ maxLen)
    (hn1 : N ≤ 9223372036854775807) (hn0 : -9223372036854775808 ≤ N) (hbad : rightB zs N = false) :
    Calls Try.prog 14 #[.agg #[.slice A zs.length cap, .int .i64 N]] w fun e w' =>
      e = .returned (.tuple #[noBits, .int .i64 2]) ∧ Below w.heap.size w w' := by
  go_enter Try.func14, Try.ntmps14
  go_wp2_with fail
  all_goals
    refine (put_bad1 A cap zs N _ _ _ (by exact hr.on (below2 _ _ _)) hb hl hn1 hn0 hbad).mono ?_
    rintro e w' ⟨rfl, hB⟩
    have hRes := (Whole.new_at (w.alloc _) 24 [.slice none 0 0, .int .i64 0] (w.heap.size + 1) (by simp)).below hB (by simp)
    have c0 := hRes.cell_at 0 rfl
    have c1 := hRes.cell_at 1 rfl
    have f0 := hRes.frozen 0
    have f1 := hRes.frozen 1
    go_wp2_with fail
    refine bodyPost_ret (v := .tuple #[noBits, .int .i64 2]) (by simp [results, Try.f14, go_sem, c0, c1]) rfl ⟨rfl, ?_⟩
    exact (((below2 _ _ _).trans (hB.mono (by simp; omega))).setCell (p := ⟨w.heap.size + 1, 0, none⟩) (Nat.le_succ _) _).setCell (p := ⟨w.heap.size + 1, 1, none⟩) (Nat.le_succ _) _

/-- How many bits are put behind so many. -/
def padN (n : Nat) : Nat := (8 - n % 8) % 8
theorem digits_zero (k : Nat) : first (digit 0 k) k = List.replicate k false := by
  apply List.ext_getElem
  · simp [first]
  · intro i h1 h2
    simp [first, digit]

set_option maxRecDepth 100000 in
set_option maxHeartbeats 4000000 in
theorem pad_ok (A : Option Addr) (cap : Nat) (l : List Bool) (w : World) (hr : Row w w.heap.size A (u8s (pack (bytesFor l.length) l))) (hl : l.length ≤ 549755813888) (hok : rightB (pack (bytesFor l.length) l) l.length = true) :
    Calls Try.prog 14 #[.agg #[.slice A (bytesFor l.length) cap, .int .i64 l.length]] w fun e w' =>
      ∃ g, e = .returned (.tuple #[.agg #[.slice (some ⟨g, 0, none⟩) (bytesFor (l.length + padN l.length)) (bytesFor (l.length + padN l.length)), .int .i64 ((l.length : Int) + padN l.length)], .int .i64 0]) ∧ w.heap.size ≤ g ∧
        Whole w' g 5 (u8s (pack (bytesFor (l.length + padN l.length)) (l ++ List.replicate (padN l.length) false))) ∧ Below w.heap.size w w' := by
  have hk : (8 - (l.length : Int) % 8) % 8 = (padN l.length : Int) := by unfold padN; omega
  have hp := put_ok A cap l 0 (padN l.length)
  rw [digits_zero] at hp
  have HP := Lib.hid hp
  clear hp
  have hk8 : padN l.length ≤ 7 := by unfold padN; omega
  go_enter Try.func14, Try.ntmps14
  go_wp2_with fail
  refine (HP.out _ (by exact hr.on (below2 _ _ _)) hl (by omega) (by omega) (Int.pow_pos (by omega)) hok).mono ?_
  rintro e w' ⟨g, rfl, hg, hW, hB⟩
  simp only [World.size_alloc] at hg
  have hRes := (Whole.new_at (w.alloc _) 24 [.slice none 0 0, .int .i64 0] (w.heap.size + 1) (by simp)).below hB (by simp)
  have c0 := hRes.cell_at 0 rfl
  have c1 := hRes.cell_at 1 rfl
  have f0 := hRes.frozen 0
  have f1 := hRes.frozen 1
  go_wp2_with fail
  refine bodyPost_ret (v := .tuple #[.agg #[.slice (some ⟨g, 0, none⟩) (bytesFor (l.length + padN l.length)) (bytesFor (l.length + padN l.length)), .int .i64 ((l.length : Int) + padN l.length)], .int .i64 0]) (by simp [results, Try.f14, go_sem, c0, c1]) rfl ⟨g, rfl, by omega, ?_, ?_⟩
  · exact (hW.far (p := ⟨w.heap.size + 1, 0, none⟩) (by show g ≠ w.heap.size + 1; omega) _).far (p := ⟨w.heap.size + 1, 1, none⟩) (by show g ≠ w.heap.size + 1; omega) _
  · exact (((below2 _ _ _).trans (hB.mono (by simp; omega))).setCell (p := ⟨w.heap.size + 1, 0, none⟩) (Nat.le_succ _) _).setCell (p := ⟨w.heap.size + 1, 1, none⟩) (Nat.le_succ _) _
end Go.Proofs.Ytaaaehaiimmnhaa
