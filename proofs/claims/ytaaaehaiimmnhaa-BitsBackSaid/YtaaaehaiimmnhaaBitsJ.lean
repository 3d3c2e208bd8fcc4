/- The document's own Flags and Pad. -/
import Derived.Test.YtaaaehaiimmnhaaBitsI
namespace Go.Proofs.Ytaaaehaiimmnhaa
open Go.RowKit Go.Shelf
set_option linter.unusedVariables false

set_option maxRecDepth 100000 in
set_option maxHeartbeats 4000000 in
theorem flagsR_bad (A A' : Option Addr) (cap len' cap' : Nat) (zs : List Int) (N : Int) (w : World) (hr : Row w w.heap.size A (u8s zs)) (hb : ∀ z ∈ zs, IsByte z) (hl : zs.length ≤ maxLen)
    (hn1 : N ≤ 9223372036854775807) (hn0 : -9223372036854775808 ≤ N) (hbad : rightB zs N = false) :
    Calls Try.prog 12 #[.agg #[.slice A zs.length cap, .int .i64 N], .slice A' len' cap'] w fun e w' =>
      e = .returned (.tuple #[noBits, .int .i64 2]) ∧ Below w.heap.size w w' := by
  go_enter Try.func12, Try.ntmps12
  go_wp2_with fail
  refine (rightR_any _ _ _ _ _ (by exact hr.on (below2 _ _ _)) hb hl hn1 hn0).mono ?_
  rw [hbad]
  rintro e w' ⟨rfl, hB⟩
  have hRes := (Whole.new_at (w.alloc _) 24 [.slice none 0 0, .int .i64 0] (w.heap.size + 1) (by simp)).below hB (by simp)
  have c0 := hRes.cell_at 0 rfl
  have c1 := hRes.cell_at 1 rfl
  have f0 := hRes.frozen 0
  have f1 := hRes.frozen 1
  go_wp2_with fail
  refine bodyPost_ret (v := .tuple #[noBits, .int .i64 2]) (by simp [results, Try.f12, go_sem, c0, c1]) rfl ⟨rfl, ?_⟩
  exact (((below2 _ _ _).trans (hB.mono (by simp; omega))).setCell (p := ⟨w.heap.size + 1, 0, none⟩) (Nat.le_succ _) _).setCell (p := ⟨w.heap.size + 1, 1, none⟩) (Nat.le_succ _) _

set_option maxRecDepth 100000 in
set_option maxHeartbeats 4000000 in
theorem padR_bad (A : Option Addr) (cap : Nat) (zs : List Int) (N : Int) (w : World) (hr : Row w w.heap.size A (u8s zs)) (hb : ∀ z ∈ zs, IsByte z) (hl : zs.length ≤ maxLen)
    (hn1 : N ≤ 9223372036854775807) (hn0 : -9223372036854775808 ≤ N) (hbad : rightB zs N = false) :
    Calls Try.prog 15 #[.agg #[.slice A zs.length cap, .int .i64 N]] w fun e w' =>
      e = .returned (.tuple #[noBits, .int .i64 2]) ∧ Below w.heap.size w w' := by
  go_enter Try.func15, Try.ntmps15
  go_wp2_with fail
  refine (rightR_any _ _ _ _ _ (by exact hr.on (below2 _ _ _)) hb hl hn1 hn0).mono ?_
  rw [hbad]
  rintro e w' ⟨rfl, hB⟩
  have hRes := (Whole.new_at (w.alloc _) 24 [.slice none 0 0, .int .i64 0] (w.heap.size + 1) (by simp)).below hB (by simp)
  have c0 := hRes.cell_at 0 rfl
  have c1 := hRes.cell_at 1 rfl
  have f0 := hRes.frozen 0
  have f1 := hRes.frozen 1
  go_wp2_with fail
  refine bodyPost_ret (v := .tuple #[noBits, .int .i64 2]) (by simp [results, Try.f15, go_sem, c0, c1]) rfl ⟨rfl, ?_⟩
  exact (((below2 _ _ _).trans (hB.mono (by simp; omega))).setCell (p := ⟨w.heap.size + 1, 0, none⟩) (Nat.le_succ _) _).setCell (p := ⟨w.heap.size + 1, 1, none⟩) (Nat.le_succ _) _

set_option maxRecDepth 100000 in
set_option maxHeartbeats 4000000 in
theorem padR_ok (A : Option Addr) (cap : Nat) (l : List Bool) (w : World) (hr : Row w w.heap.size A (u8s (pack (bytesFor l.length) l))) (hl : l.length ≤ 274877906944) (hok : rightB (pack (bytesFor l.length) l) l.length = true) :
    Calls Try.prog 15 #[.agg #[.slice A (bytesFor l.length) cap, .int .i64 l.length]] w fun e w' =>
      ∃ v, e = .returned (.tuple #[v, .int .i64 0]) ∧ OwnBits w' w.heap.size v (l ++ List.replicate (padN l.length) false) ∧ Below w.heap.size w w' := by
  have hlen : (pack (bytesFor l.length) l).length = bytesFor l.length := pack_length _ _
  have hRight := fun W hr' => rightR_any A cap (pack (bytesFor l.length) l) l.length W hr' (pack_byte _ _) (by rw [hlen]; unfold maxLen bytesFor; omega) (by omega) (by omega)
  have hOwn := fun W hr' => ownR_any A cap (pack (bytesFor l.length) l) l.length W hr' (by rw [hlen]; unfold bytesFor; omega)
  rw [hlen, hok] at hRight
  rw [hlen] at hOwn
  have HRight := Lib.hid hRight
  have HOwn := Lib.hid hOwn
  have hk8 : padN l.length ≤ 7 := by unfold padN; omega
  clear hRight hOwn hok hlen
  go_enter Try.func15, Try.ntmps15
  go_wp2_with fail
  refine (HRight.out _ (by exact hr.on (below2 _ _ _))).mono ?_
  rintro e w1 ⟨rfl, hB⟩
  have hres := (Whole.new_at (w.alloc _) 24 [.slice none 0 0, .int .i64 0] (w.heap.size + 1) (by simp)).below hB (by simp)
  have hbox := ((Whole.new w 24 [.slice A (bytesFor l.length) cap, .int .i64 l.length]).alloc _).below hB (by first | (simp; omega) | simp)
  have hBw := (below2 _ _ _).trans (hB.mono (by first | (simp; omega) | simp))
  have hs1 : w.heap.size + 1 < w1.heap.size := hres.lt
  clear hB
  have x0 := hbox.cell_at 0 rfl
  have x1 := hbox.cell_at 1 rfl
  go_wp2_with fail
  refine (HOwn.out _ (by exact hr.on hBw)).mono ?_
  rintro e w2 ⟨g, c, rfl, hown, hB⟩
  have hbox2 := hbox.below hB (by omega)
  have hres2 := hres.below hB hs1
  have hB2 := hBw.trans (hB.mono hBw.size)
  have hs2 : w1.heap.size ≤ w2.heap.size := hB.size
  have x0' := hbox2.cell_at 0 rfl
  have x1' := hbox2.cell_at 1 rfl
  have fx0 := hbox2.frozen 0
  have fx1 := hbox2.frozen 1
  clear x0 x1
  obtain ⟨hg1, hg2⟩ := owns_lt hown
  go_wp2_with fail
  go_loopw [] (fun wr => ∃ (j g c : Nat) (lp : List Bool), j ≤ padN l.length ∧ lp = l ++ List.replicate j false ∧ Whole wr w.heap.size 24 [.slice (some ⟨g, 0, none⟩) (bytesFor lp.length) c, .int .i64 lp.length] ∧ wr.ownsRow w1.heap.size 5 1 (.slice (some ⟨g, 0, none⟩) (bytesFor lp.length) c) (bytesFor lp.length) (u8s (pack (bytesFor lp.length) lp)) ∧
      Below w.heap.size w wr ∧ Whole wr (w.heap.size + 1) 24 [.slice none 0 0, .int .i64 0] ∧ w1.heap.size ≤ wr.heap.size)
    (fun wr => padN (intOf ((wr.cell? ⟨w.heap.size, 1, none⟩).getD undef)).toNat)
  case atStart =>
    refine ⟨0, g, c, l, Nat.zero_le _, by simp, (hbox2.set 0 _).set 1 _, ?_, ?_, ?_, ?_⟩
    · exact owns_far (owns_far hown (p := ⟨w.heap.size, 0, none⟩) (by show g ≠ w.heap.size; omega) _) (p := ⟨w.heap.size, 1, none⟩) (by show g ≠ w.heap.size; omega) _
    · exact (hB2.setCell (p := ⟨w.heap.size, 0, none⟩) (Nat.le_refl _) _).setCell (p := ⟨w.heap.size, 1, none⟩) (Nat.le_refl _) _
    · exact (hres2.far (p := ⟨w.heap.size, 0, none⟩) (by show w.heap.size + 1 ≠ w.heap.size; omega) _).far (p := ⟨w.heap.size, 1, none⟩) (by show w.heap.size + 1 ≠ w.heap.size; omega) _
    · simpa [World.setCell] using hs2
  case round =>
    obtain ⟨j, g, c, lp, hj, hlp, hbx, hown, hBr, hrs, hsr⟩ := hrel
    clear hbox2 hres2 x0' x1' fx0 fx1
    have HLP := Lib.hid hlp
    have hlpl : lp.length = l.length + j := by rw [hlp, List.length_append, List.length_replicate]
    have hlpl2 : lp.length ≤ 549755813888 := by omega
    have HLL := Lib.hid hlpl
    clear hlp hlpl
    have y0 := hbx.cell_at 0 rfl
    have y1 := hbx.cell_at 1 rfl
    by_cases hlt : j < padN l.length
    · have htest : ((lp.length : Int) % 8 != 0) = true := by have := HLL.out; unfold padN at hlt; simp; omega
      go_wp2_with fail
      refine (with_any w1.heap.size _ lp false _ hlpl2 ⟨g, c, rfl, hown⟩ hsr).mono ?_
      rintro e w3 ⟨v', rfl, ⟨g3, c3, rfl, hown3⟩, hB3⟩
      have hbx3 := hbx.below hB3 (by omega)
      have hrs3 := hrs.below hB3 (by omega)
      have hBr3 := hBr.trans (hB3.mono (by omega))
      have hs3 := hB3.size
      obtain ⟨hg3, hg3'⟩ := owns_lt hown3
      have Hm := Lib.hid y1
      clear y0 y1 htest
      have y0 := hbx3.cell_at 0 rfl
      have y1 := hbx3.cell_at 1 rfl
      have fy0 := hbx3.frozen 0
      have fy1 := hbx3.frozen 1
      obtain ⟨lq, hlq⟩ : ∃ lq, lp ++ [false] = lq := ⟨_, rfl⟩
      rw [hlq] at hown3 ⊢
      have HLQ := Lib.hid hlq
      clear hlq
      go_wp2_with fail
      have hfin := (hbx3.set 0 (.slice (some ⟨g3, 0, none⟩) (bytesFor lq.length) c3)).set 1 (.int .i64 lq.length)
      go_roundw
      case rel =>
        refine ⟨j + 1, g3, c3, lq, by omega, by rw [← HLQ.out, HLP.out, List.replicate_succ', List.append_assoc], hfin, ?_, ?_, ?_, ?_⟩
        · exact owns_far (owns_far hown3 (p := ⟨w.heap.size, 0, none⟩) (by show g3 ≠ w.heap.size; omega) _) (p := ⟨w.heap.size, 1, none⟩) (by show g3 ≠ w.heap.size; omega) _
        · exact (hBr3.setCell (p := ⟨w.heap.size, 0, none⟩) (Nat.le_refl _) _).setCell (p := ⟨w.heap.size, 1, none⟩) (Nat.le_refl _) _
        · exact (hrs3.far (p := ⟨w.heap.size, 0, none⟩) (by show w.heap.size + 1 ≠ w.heap.size; omega) _).far (p := ⟨w.heap.size, 1, none⟩) (by show w.heap.size + 1 ≠ w.heap.size; omega) _
        · simp only [World.setCell, Array.size_modify]; omega
      case measure =>
        rw [hfin.cell_at 1 rfl, Hm.out]
        have e1 := HLL.out
        have e2 : lq.length = lp.length + 1 := by rw [← HLQ.out]; simp
        simp only [intOf, Option.getD_some, Int.toNat_natCast]
        unfold padN at hlt ⊢
        omega
    · obtain rfl : j = padN l.length := by omega
      have htest : ((lp.length : Int) % 8 != 0) = false := by have := HLL.out; unfold padN at this; simp; omega
      have z0 := hrs.cell_at 0 rfl
      have z1 := hrs.cell_at 1 rfl
      have fz0 := hrs.frozen 0
      have fz1 := hrs.frozen 1
      go_wp2_with fail
      refine bodyPost_ret (v := .tuple #[.agg #[.slice (some ⟨g, 0, none⟩) (bytesFor lp.length) c, .int .i64 lp.length], .int .i64 0]) (by simp [results, Try.f15, go_sem, z0, z1]) rfl ⟨_, rfl, ?_, ?_⟩
      · obtain ⟨hg1, hg2⟩ := owns_lt hown
        rw [← HLP.out]
        exact ⟨g, c, rfl, owns_mono (owns_far (owns_far hown (p := ⟨w.heap.size + 1, 0, none⟩) (by show g ≠ w.heap.size + 1; omega) _) (p := ⟨w.heap.size + 1, 1, none⟩) (by show g ≠ w.heap.size + 1; omega) _) (by omega)⟩
      · exact (hBr.setCell (p := ⟨w.heap.size + 1, 0, none⟩) (Nat.le_succ _) _).setCell (p := ⟨w.heap.size + 1, 1, none⟩) (Nat.le_succ _) _
end Go.Proofs.Ytaaaehaiimmnhaa
