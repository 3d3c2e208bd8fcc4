/- Package bits: Put. -/
import Derived.Test.YtaaaehaiimmnhaaBitsE
import Derived.Deep.RegionWith
import Derived.WalkMore
namespace Go.Proofs.Ytaaaehaiimmnhaa
open Go.RowKit Go.Shelf
set_option linter.unusedVariables false

/-- What calls tell of bits with an error. -/
abbrev noBits : Value := .agg #[.slice none 0 0, .int .i64 0]

set_option maxRecDepth 100000 in
set_option maxHeartbeats 4000000 in
theorem put_bad1 (A : Option Addr) (cap : Nat) (zs : List Int) (N n k : Int) (w : World) (hr : Row w w.heap.size A (u8s zs)) (hb : ∀ z ∈ zs, IsByte z) (hl : zs.length ≤ maxLen)
    (hn1 : N ≤ 9223372036854775807) (hn0 : -9223372036854775808 ≤ N) (hbad : rightB zs N = false) :
    Calls Try.prog 9 #[.agg #[.slice A zs.length cap, .int .i64 N], .int .i64 n, .int .i64 k] w fun e w' =>
      e = .returned (.tuple #[noBits, .int .i64 2]) ∧ Below w.heap.size w w' := by
  go_enter Try.func9, Try.ntmps9
  go_wp2_with fail
  refine wp_scope_fwd (l := 0) rfl ?_
  go_wp2_with fail
  refine (right_any _ _ _ _ _ (by exact hr.on (below2 _ _ _)) hb hl hn1 hn0).mono ?_
  rw [hbad]
  rintro e w' ⟨rfl, hB⟩
  have hRes := (Whole.new_at (w.alloc _) 24 [.slice none 0 0, .int .i64 0] (w.heap.size + 1) (by simp)).below hB (by simp)
  have c0 := hRes.cell_at 0 rfl
  have c1 := hRes.cell_at 1 rfl
  have f0 := hRes.frozen 0
  have f1 := hRes.frozen 1
  go_wp2
  go_step3
  simp only [Exit.then, fwd_goto]
  refine ⟨trivial, ?_⟩
  go_wp2
  rw [Exit.noGoto_ret]
  refine bodyPost_ret (v := .tuple #[noBits, .int .i64 2]) (by simp [results, Try.f9, go_sem, c0, c1]) rfl ⟨rfl, ?_⟩
  exact (((below2 _ _ _).trans (hB.mono (by simp; omega))).setCell (p := ⟨w.heap.size + 1, 0, none⟩) (Nat.le_succ _) _).setCell (p := ⟨w.heap.size + 1, 1, none⟩) (Nat.le_succ _) _

set_option maxRecDepth 100000 in
set_option maxHeartbeats 4000000 in
theorem put_bad2 (A : Option Addr) (cap : Nat) (zs : List Int) (N n k : Int) (w : World) (hr : Row w w.heap.size A (u8s zs)) (hb : ∀ z ∈ zs, IsByte z) (hl : zs.length ≤ maxLen)
    (hn1 : N ≤ 9223372036854775807) (hn0 : -9223372036854775808 ≤ N) (hn : n ≤ 9223372036854775807) (hok : rightB zs N = true) (hbad : fitsB n k = false) :
    Calls Try.prog 9 #[.agg #[.slice A zs.length cap, .int .i64 N], .int .i64 n, .int .i64 k] w fun e w' =>
      e = .returned (.tuple #[noBits, .int .i64 2]) ∧ Below w.heap.size w w' := by
  go_enter Try.func9, Try.ntmps9
  go_wp2_with fail
  refine wp_scope_fwd (l := 0) rfl ?_
  go_wp2_with fail
  refine (right_any _ _ _ _ _ (by exact hr.on (below2 _ _ _)) hb hl hn1 hn0).mono ?_
  rw [hok]
  rintro e w' ⟨rfl, hB⟩
  have hRes := (Whole.new_at (w.alloc _) 24 [.slice none 0 0, .int .i64 0] (w.heap.size + 1) (by simp)).below hB (by simp)
  have c0 := hRes.cell_at 0 rfl
  have c1 := hRes.cell_at 1 rfl
  have f0 := hRes.frozen 0
  have f1 := hRes.frozen 1
  go_wp2_with fail
  refine (fits_any _ _ hn _).mono ?_
  rw [hbad]
  rintro e w'' ⟨rfl, rfl⟩
  go_wp2
  go_step3
  simp only [Exit.then, fwd_goto]
  refine ⟨trivial, ?_⟩
  go_wp2
  rw [Exit.noGoto_ret]
  refine bodyPost_ret (v := .tuple #[noBits, .int .i64 2]) (by simp [results, Try.f9, go_sem, c0, c1]) rfl ⟨rfl, ?_⟩
  exact (((below2 _ _ _).trans (hB.mono (by simp; omega))).setCell (p := ⟨w.heap.size + 1, 0, none⟩) (Nat.le_succ _) _).setCell (p := ⟨w.heap.size + 1, 1, none⟩) (Nat.le_succ _) _

theorem behind_digits (A : Option Addr) (cap : Nat) (l : List Bool) (n : Int) (k : Nat) (hl : l.length ≤ 549755813888) (hk : k ≤ 32) (hn : 0 ≤ n) (hn1 : n ≤ 9223372036854775807) (Bk Bn : Nat) (w : World) (hBk : Bk < w.heap.size) (hBn : Bn < w.heap.size)
    (hck : w.cell? ⟨Bk, 0, none⟩ = some (.int .i64 k)) (hcn : w.cell? ⟨Bn, 0, none⟩ = some (.int .i64 n)) (hr : Row w w.heap.size A (u8s (pack (bytesFor l.length) l))) :
    Calls Try.prog 25 #[.agg #[.slice A (bytesFor l.length) cap, .int .i64 l.length], .int .i64 (k : Int), .func (.func 35) #[] #[.pointer (some ⟨Bk, 0, none⟩), .pointer (some ⟨Bn, 0, none⟩)]] w fun e w' =>
      ∃ g, e = .returned (.agg #[.slice (some ⟨g, 0, none⟩) (bytesFor (l.length + k)) (bytesFor (l.length + k)), .int .i64 ((l.length : Int) + k)]) ∧ w.heap.size ≤ g ∧ Whole w' g 5 (u8s (pack (bytesFor (l.length + k)) (l ++ first (digit n k) k))) ∧ Below w.heap.size w w' := by
  have h := behind_in A cap l (first (digit n k) k) (by rw [first_length]; omega) 35 #[.pointer (some ⟨Bk, 0, none⟩), .pointer (some ⟨Bn, 0, none⟩)] w hr (enters_of Try.func35 (by kernel_rfl) rfl) (fun pre => ∃ j, j ≤ k ∧ pre = first (digit n k) j) (by
    rw [first_length]
    exact digits_stops Fence.wide 3 trivial rfl (by omega) Bk Bn w.heap.size k n hn hn1 hk w hBk hBn (Nat.le_refl _) hck hcn)
  rw [first_length] at h
  exact callsIn_wide.1 h

set_option maxRecDepth 100000 in
set_option maxHeartbeats 4000000 in
theorem put_ok (A : Option Addr) (cap : Nat) (l : List Bool) (n : Int) (k : Nat) (w : World) (hr : Row w w.heap.size A (u8s (pack (bytesFor l.length) l))) (hl : l.length ≤ 549755813888) (hk : k ≤ 32) (hn : 0 ≤ n) (hnk : n < 2 ^ k) (hok : rightB (pack (bytesFor l.length) l) l.length = true) :
    Calls Try.prog 9 #[.agg #[.slice A (bytesFor l.length) cap, .int .i64 l.length], .int .i64 n, .int .i64 (k : Int)] w fun e w' =>
      ∃ g, e = .returned (.tuple #[.agg #[.slice (some ⟨g, 0, none⟩) (bytesFor (l.length + k)) (bytesFor (l.length + k)), .int .i64 ((l.length : Int) + k)], .int .i64 0]) ∧ w.heap.size ≤ g ∧
        Whole w' g 5 (u8s (pack (bytesFor (l.length + k)) (l ++ first (digit n k) k))) ∧ Below w.heap.size w w' := by
  have hlen : (pack (bytesFor l.length) l).length = bytesFor l.length := pack_length _ _
  have hfit : fitsB n k = true := by simp [fitsB, wideB, hn, hnk]; omega
  have hp : (2 : Int) ^ k ≤ 4294967296 := by
    have h1 : (2 : Nat) ^ k ≤ 2 ^ 32 := Nat.pow_le_pow_right (by omega) hk
    have h2 : (((2 : Nat) ^ k : Nat) : Int) = (2 : Int) ^ k := by simp
    rw [← h2]; omega
  have hn1 : n ≤ 9223372036854775807 := by omega
  have hRight := fun W hr' => right_any A cap (pack (bytesFor l.length) l) l.length W hr' (pack_byte _ _) (by rw [hlen]; unfold maxLen bytesFor; omega) (by omega) (by omega)
  rw [hlen, hok] at hRight
  have HRight := Lib.hid hRight
  clear hRight
  have HF := Lib.hid hfit
  have HP := Lib.hid hp
  clear hfit hp hok hlen hnk
  go_enter Try.func9, Try.ntmps9
  go_wp2_with fail
  refine wp_scope_fwd (l := 0) rfl ?_
  go_wp2_with fail
  refine (HRight.out _ (by exact hr.on (below2 _ _ _))).mono ?_
  rintro e w1 ⟨rfl, hB⟩
  have hRes := (Whole.new_at (w.alloc _) 24 [.slice none 0 0, .int .i64 0] (w.heap.size + 1) (by simp)).below hB (by simp)
  have hBox := ((Whole.new w 24 [.slice A (bytesFor l.length) cap, .int .i64 l.length]).alloc _).below hB (by simp; omega)
  have hBw := (below2 _ _ _).trans (hB.mono (by simp; omega))
  have hs1 : w.heap.size + 1 < w1.heap.size := hRes.lt
  clear hB
  go_wp2_with fail
  refine (fits_any _ _ hn1 _).mono ?_
  rw [HF.out]
  rintro e w'' ⟨rfl, rfl⟩
  have x0 := hBox.cell_at 0 rfl
  have x1 := hBox.cell_at 1 rfl
  go_wp2_with fail
  have hb1 : ∀ o o', Below w1.heap.size w1 ((w1.alloc o).alloc o') := fun o o' => below2 w1 o o'
  have hx0a : ∀ o o', ((w1.alloc o).alloc o').cell? ⟨w.heap.size, 0, none⟩ = some (.slice A (bytesFor l.length) cap) := fun o o' => ((hb1 o o').cell (p := ⟨w.heap.size, 0, none⟩) (by show w.heap.size < _; omega)).trans x0
  have hx1a : ∀ o o', ((w1.alloc o).alloc o').cell? ⟨w.heap.size, 1, none⟩ = some (.int .i64 l.length) := fun o o' => ((hb1 o o').cell (p := ⟨w.heap.size, 1, none⟩) (by show w.heap.size < _; omega)).trans x1
  have hRow2 : ∀ o o', Row ((w1.alloc o).alloc o') ((w1.alloc o).alloc o').heap.size A (u8s (pack (bytesFor l.length) l)) := fun o o' => hr.on (hBw.trans ((hb1 o o').mono hBw.size))
  have hc2 := ((Whole.new w1 3 [.int .i64 n]).alloc (.cells #[.int .i64 k] 3)).cell_at 0 rfl
  have hc3 := (Whole.new_at (w1.alloc (.cells #[.int .i64 n] 3)) 3 [.int .i64 k] (w1.heap.size + 1) (by simp)).cell_at 0 rfl
  have HR2 := Lib.hid hRow2
  have HC2 := Lib.hid hc2
  have HC3 := Lib.hid hc3
  have hBb := Lib.hid hb1
  clear hRow2 hc2 hc3 hb1
  go_region_with (first
    | (go_at_call 26; refine (callsIn_wide.1 (digits_in Fence.wide 3 trivial rfl n k _)).mono ?_; rintro e w2 ⟨rfl, rfl⟩)
    | (go_at_call 25; (refine (behind_digits A cap l n k hl hk hn hn1 (w1.heap.size + 1) w1.heap.size _ (by first | (simp; omega) | simp) (by first | (simp; omega) | simp) (by exact HC3.out) (by exact HC2.out) (by exact HR2.out _ _)).mono ?_; rintro e w3 ⟨g, rfl, hg, hW, hB3⟩; have hB4 := (hBb.out _ _).drew.trans (hB3.mono (by first | (simp; omega) | simp)); clear hB3; have hRes3 := hRes.below hB4 hs1; have c0 := hRes3.cell_at 0 rfl; have c1 := hRes3.cell_at 1 rfl; have f0 := hRes3.frozen 0; have f1 := hRes3.frozen 1)))
  all_goals
    go_wp2
    try rw [fwd_ret]
    have hgw : w1.heap.size ≤ g := by first | (simp at hg; omega) | simp at hg
    refine bodyPost_ret (v := .tuple #[.agg #[.slice (some ⟨g, 0, none⟩) (bytesFor (l.length + k)) (bytesFor (l.length + k)), .int .i64 ((l.length : Int) + k)], .int .i64 0]) (by simp [results, Try.f9, go_sem, c0, c1]) rfl ⟨g, rfl, by omega, ?_, ?_⟩
    · exact (hW.far (p := ⟨w.heap.size + 1, 0, none⟩) (by show g ≠ w.heap.size + 1; omega) _).far (p := ⟨w.heap.size + 1, 1, none⟩) (by show g ≠ w.heap.size + 1; omega) _
    · exact ((hBw.trans (hB4.mono hBw.size)).setCell (p := ⟨w.heap.size + 1, 0, none⟩) (Nat.le_succ _) _).setCell (p := ⟨w.heap.size + 1, 1, none⟩) (Nat.le_succ _) _
end Go.Proofs.Ytaaaehaiimmnhaa
