/- Package bits: Flags, Pad. -/
import Derived.Test.YtaaaehaiimmnhaaBitsF
namespace Go.Proofs.Ytaaaehaiimmnhaa
open Go.RowKit Go.Shelf
set_option linter.unusedVariables false

set_option maxRecDepth 100000 in
set_option maxHeartbeats 4000000 in
theorem flags_bad (A A' : Option Addr) (cap len' cap' : Nat) (zs : List Int) (N : Int) (w : World) (hr : Row w w.heap.size A (u8s zs)) (hb : ∀ z ∈ zs, IsByte z) (hl : zs.length ≤ maxLen)
    (hn1 : N ≤ 9223372036854775807) (hn0 : -9223372036854775808 ≤ N) (hbad : rightB zs N = false) :
    Calls Try.prog 11 #[.agg #[.slice A zs.length cap, .int .i64 N], .slice A' len' cap'] w fun e w' =>
      e = .returned (.tuple #[noBits, .int .i64 2]) ∧ Below w.heap.size w w' := by
  go_enter Try.func11, Try.ntmps11
  go_wp2_with fail
  refine wp_scope_fwd (l := 0) rfl ?_
  go_wp2_with fail
  refine (right_any _ _ _ _ _ (by exact hr.on (below2 _ _ _)) hb hl hn1 hn0).mono ?_
  rw [hbad]
  rintro e w' ⟨rfl, hB⟩
  have hRes := (Whole.new_at (w.alloc _) 24 [.slice none 0 0, .int .i64 0] (w.heap.size + 1) (by simp)).below hB (by simp)
  have c0 := hRes.cell_at 0 rfl
  have c1 := hRes.cell_at 1 rfl
  have f0 := hRes.frozen 0
  have f1 := hRes.frozen 1
  go_wp2
  go_step3
  simp only [Exit.then, fwd_goto]
  refine ⟨trivial, ?_⟩
  go_wp2
  rw [Exit.noGoto_ret]
  refine bodyPost_ret (v := .tuple #[noBits, .int .i64 2]) (by simp [results, Try.f11, go_sem, c0, c1]) rfl ⟨rfl, ?_⟩
  exact (((below2 _ _ _).trans (hB.mono (by simp; omega))).setCell (p := ⟨w.heap.size + 1, 0, none⟩) (Nat.le_succ _) _).setCell (p := ⟨w.heap.size + 1, 1, none⟩) (Nat.le_succ _) _

theorem behind_flags (A A' : Option Addr) (cap cap' : Nat) (l fl : List Bool) (hl : l.length ≤ 549755813888) (hfl : fl.length ≤ 549755813888) (Bs : Nat) (w : World) (hBs : Bs < w.heap.size)
    (hcs : w.cell? ⟨Bs, 0, none⟩ = some (.slice A' fl.length cap')) (hr' : Row w w.heap.size A' (bools fl)) (hr : Row w w.heap.size A (u8s (pack (bytesFor l.length) l))) :
    Calls Try.prog 25 #[.agg #[.slice A (bytesFor l.length) cap, .int .i64 l.length], .int .i64 fl.length, .func (.func 36) #[] #[.pointer (some ⟨Bs, 0, none⟩)]] w fun e w' =>
      ∃ g, e = .returned (.agg #[.slice (some ⟨g, 0, none⟩) (bytesFor (l.length + fl.length)) (bytesFor (l.length + fl.length)), .int .i64 ((l.length : Int) + fl.length)]) ∧ w.heap.size ≤ g ∧ Whole w' g 5 (u8s (pack (bytesFor (l.length + fl.length)) (l ++ fl))) ∧ Below w.heap.size w w' :=
  callsIn_wide.1 (behind_in A cap l fl (by omega) 36 #[.pointer (some ⟨Bs, 0, none⟩)] w hr (enters_of Try.func36 (by kernel_rfl) rfl) (fun pre => ∃ j, j ≤ fl.length ∧ pre = first (fun j => fl[j]?.getD false) j)
    (values_stops Fence.wide 3 trivial rfl (by omega) Bs w.heap.size cap' A' fl (by omega) w hBs (Nat.le_refl _) hcs hr'))

set_option maxRecDepth 100000 in
set_option maxHeartbeats 4000000 in
theorem flags_ok (A A' : Option Addr) (cap cap' : Nat) (l fl : List Bool) (w : World) (hr : Row w w.heap.size A (u8s (pack (bytesFor l.length) l))) (hr' : Row w w.heap.size A' (bools fl)) (hl : l.length ≤ 549755813888) (hfl : fl.length ≤ 549755813888) (hok : rightB (pack (bytesFor l.length) l) l.length = true) :
    Calls Try.prog 11 #[.agg #[.slice A (bytesFor l.length) cap, .int .i64 l.length], .slice A' fl.length cap'] w fun e w' =>
      ∃ g, e = .returned (.tuple #[.agg #[.slice (some ⟨g, 0, none⟩) (bytesFor (l.length + fl.length)) (bytesFor (l.length + fl.length)), .int .i64 ((l.length : Int) + fl.length)], .int .i64 0]) ∧ w.heap.size ≤ g ∧
        Whole w' g 5 (u8s (pack (bytesFor (l.length + fl.length)) (l ++ fl))) ∧ Below w.heap.size w w' := by
  have hlen : (pack (bytesFor l.length) l).length = bytesFor l.length := pack_length _ _
  have hRight := fun W hr' => right_any A cap (pack (bytesFor l.length) l) l.length W hr' (pack_byte _ _) (by rw [hlen]; unfold maxLen bytesFor; omega) (by omega) (by omega)
  rw [hlen, hok] at hRight
  have HRight := Lib.hid hRight
  clear hRight hok hlen
  go_enter Try.func11, Try.ntmps11
  go_wp2_with fail
  refine wp_scope_fwd (l := 0) rfl ?_
  go_wp2_with fail
  refine (HRight.out _ (by exact hr.on (below2 _ _ _))).mono ?_
  rintro e w1 ⟨rfl, hB⟩
  have hRes := (Whole.new_at (w.alloc _) 24 [.slice none 0 0, .int .i64 0] (w.heap.size + 1) (by simp)).below hB (by simp)
  have hBox := ((Whole.new w 24 [.slice A (bytesFor l.length) cap, .int .i64 l.length]).alloc _).below hB (by first | (simp; omega) | simp)
  have hBw := (below2 _ _ _).trans (hB.mono (by first | (simp; omega) | simp))
  have hs1 : w.heap.size + 1 < w1.heap.size := hRes.lt
  clear hB
  have x0 := hBox.cell_at 0 rfl
  have x1 := hBox.cell_at 1 rfl
  have hb1 : ∀ o, Below w1.heap.size w1 (w1.alloc o) := fun o => below1 w1 o
  have hx0a : ∀ o, (w1.alloc o).cell? ⟨w.heap.size, 0, none⟩ = some (.slice A (bytesFor l.length) cap) := fun o => ((hb1 o).cell (p := ⟨w.heap.size, 0, none⟩) (by show w.heap.size < _; omega)).trans x0
  have hx1a : ∀ o, (w1.alloc o).cell? ⟨w.heap.size, 1, none⟩ = some (.int .i64 l.length) := fun o => ((hb1 o).cell (p := ⟨w.heap.size, 1, none⟩) (by show w.heap.size < _; omega)).trans x1
  have HR1 := Lib.hid (fun o => hr.on (hBw.trans ((hb1 o).mono hBw.size)))
  have HR2 := Lib.hid (fun o => hr'.on (hBw.trans ((hb1 o).mono hBw.size)))
  have HC2 := Lib.hid ((Whole.new w1 25 [.slice A' fl.length cap']).cell_at 0 rfl)
  have hBb := Lib.hid hb1
  clear hb1
  go_wp2_with fail
  go_region_with (first
    | (go_at_call 29; refine (callsIn_wide.1 (values_in Fence.wide 3 trivial rfl A' fl.length cap' _)).mono ?_; rintro e w2 ⟨rfl, rfl⟩)
    | (go_at_call 25; (refine (behind_flags A A' cap cap' l fl hl hfl w1.heap.size _ (by first | (simp; omega) | simp) (by exact HC2.out) (by exact HR2.out _) (by exact HR1.out _)).mono ?_; rintro e w3 ⟨g, rfl, hg, hW, hB3⟩; have hB4 := (hBb.out _).drew.trans (hB3.mono (by first | (simp; omega) | simp)); clear hB3; have hRes3 := hRes.below hB4 hs1; have c0 := hRes3.cell_at 0 rfl; have c1 := hRes3.cell_at 1 rfl; have f0 := hRes3.frozen 0; have f1 := hRes3.frozen 1)))
  all_goals
    go_wp2
    try rw [fwd_ret]
    have hgw : w1.heap.size ≤ g := by first | (simp at hg; omega) | simp at hg
    refine bodyPost_ret (v := .tuple #[.agg #[.slice (some ⟨g, 0, none⟩) (bytesFor (l.length + fl.length)) (bytesFor (l.length + fl.length)), .int .i64 ((l.length : Int) + fl.length)], .int .i64 0]) (by simp [results, Try.f11, go_sem, c0, c1]) rfl ⟨g, rfl, by omega, ?_, ?_⟩
    · exact (hW.far (p := ⟨w.heap.size + 1, 0, none⟩) (by show g ≠ w.heap.size + 1; omega) _).far (p := ⟨w.heap.size + 1, 1, none⟩) (by show g ≠ w.heap.size + 1; omega) _
    · exact ((hBw.trans (hB4.mono hBw.size)).setCell (p := ⟨w.heap.size + 1, 0, none⟩) (Nat.le_succ _) _).setCell (p := ⟨w.heap.size + 1, 1, none⟩) (Nat.le_succ _) _
end Go.Proofs.Ytaaaehaiimmnhaa
