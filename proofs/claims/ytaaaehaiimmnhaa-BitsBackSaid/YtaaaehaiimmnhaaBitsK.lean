/- Package bits: Take; and the document's own bit. -/
import Derived.Test.YtaaaehaiimmnhaaBitsF
import Derived.Test.YtaaaehaiimmnhaaBitsG
namespace Go.Proofs.Ytaaaehaiimmnhaa
open Go.RowKit Go.Shelf
set_option linter.unusedVariables false

set_option maxRecDepth 100000 in
set_option maxHeartbeats 4000000 in
theorem take_bad (A : Option Addr) (cap : Nat) (zs : List Int) (N a k : Int) (w : World) (hr : Row w w.heap.size A (u8s zs)) (hb : ∀ z ∈ zs, IsByte z) (hl : zs.length ≤ maxLen)
    (hn1 : N ≤ 9223372036854775807) (hn0 : -9223372036854775808 ≤ N) (hbad : (rightB zs N && wideB k && decide (0 ≤ a)) = false) :
    Calls Try.prog 16 #[.agg #[.slice A zs.length cap, .int .i64 N], .int .i64 a, .int .i64 k] w fun e w' =>
      e = .returned (.tuple #[.int .i64 0, .int .i64 2]) ∧ Below w.heap.size w w' := by
  cases hok : rightB zs N with
  | false =>
    go_enter Try.func16, Try.ntmps16
    go_wp2_with fail
    refine wp_scope_fwd (l := 0) rfl ?_
    go_wp2_with fail
    refine (right_any _ _ _ _ _ (by exact hr.on (below2 _ _ _)) hb hl hn1 hn0).mono ?_
    rw [hok]
    rintro e w' ⟨rfl, hB⟩
    go_wp2
    go_step3
    simp only [Exit.then, fwd_goto]
    refine ⟨trivial, ?_⟩
    go_wp2
    rw [Exit.noGoto_ret]
    go_ret2
    exact ⟨rfl, (below2 _ _ _).trans (hB.mono (by simp; omega))⟩
  | true =>
    rw [hok, Bool.true_and] at hbad
    cases hw : wideB k with
    | false =>
      go_enter Try.func16, Try.ntmps16
      go_wp2_with fail
      refine wp_scope_fwd (l := 0) rfl ?_
      go_wp2_with fail
      refine (right_any _ _ _ _ _ (by exact hr.on (below2 _ _ _)) hb hl hn1 hn0).mono ?_
      rw [hok]
      rintro e w' ⟨rfl, hB⟩
      go_wp2_with fail
      refine (wide_any _ _).mono ?_
      rw [hw]
      rintro e w'' ⟨rfl, rfl⟩
      go_wp2
      go_step3
      simp only [Exit.then, fwd_goto]
      refine ⟨trivial, ?_⟩
      go_wp2
      rw [Exit.noGoto_ret]
      go_ret2
      exact ⟨rfl, (below2 _ _ _).trans (hB.mono (by simp; omega))⟩
    | true =>
      rw [hw, Bool.true_and] at hbad
      have ha : a < 0 := by simpa using hbad
      clear hbad
      go_enter Try.func16, Try.ntmps16
      go_wp2_with fail
      refine wp_scope_fwd (l := 0) rfl ?_
      go_wp2_with fail
      refine (right_any _ _ _ _ _ (by exact hr.on (below2 _ _ _)) hb hl hn1 hn0).mono ?_
      rw [hok]
      rintro e w' ⟨rfl, hB⟩
      go_wp2_with fail
      refine (wide_any _ _).mono ?_
      rw [hw]
      rintro e w'' ⟨rfl, rfl⟩
      go_wp2
      go_step3
      simp only [Exit.then, fwd_goto]
      refine ⟨trivial, ?_⟩
      go_wp2
      rw [Exit.noGoto_ret]
      go_ret2
      exact ⟨rfl, (below2 _ _ _).trans (hB.mono (by simp; omega))⟩

set_option maxRecDepth 100000 in
set_option maxHeartbeats 4000000 in
theorem take_short (A : Option Addr) (cap : Nat) (zs : List Int) (N a k : Int) (w : World) (hr : Row w w.heap.size A (u8s zs)) (hb : ∀ z ∈ zs, IsByte z) (hl : zs.length ≤ maxLen)
    (hn1 : N ≤ 9223372036854775807) (hn0 : 0 ≤ N) (hok : rightB zs N = true) (hw : wideB k = true) (ha : 0 ≤ a) (hshort : N - k < a) :
    Calls Try.prog 16 #[.agg #[.slice A zs.length cap, .int .i64 N], .int .i64 a, .int .i64 k] w fun e w' =>
      e = .returned (.tuple #[.int .i64 0, .int .i64 40]) ∧ Below w.heap.size w w' := by
  have hk : 0 ≤ k ∧ k ≤ 32 := by simpa [wideB] using hw
  obtain ⟨hk0, hk1⟩ := hk
  have HW := Lib.hid hw
  clear hw
  go_enter Try.func16, Try.ntmps16
  go_wp2_with fail
  refine wp_scope_fwd (l := 0) rfl ?_
  go_wp2_with fail
  refine (right_any _ _ _ _ _ (by exact hr.on (below2 _ _ _)) hb hl hn1 (by omega)).mono ?_
  rw [hok]
  rintro e w' ⟨rfl, hB⟩
  have hbox := ((Whole.new w 24 [.slice A zs.length cap, .int .i64 N]).alloc _).below hB (by first | (simp; omega) | simp)
  have x1 := hbox.cell_at 1 rfl
  go_wp2_with fail
  refine (wide_any _ _).mono ?_
  rw [HW.out]
  rintro e w'' ⟨rfl, rfl⟩
  go_wp2
  go_step3
  simp only [Exit.then, fwd_goto]
  refine ⟨trivial, ?_⟩
  go_wp2
  rw [Exit.noGoto_ret]
  go_ret2
  exact ⟨rfl, (below2 _ _ _).trans (hB.mono (by simp; omega))⟩

/-- The number that these bits are. -/
def numOf (l : List Bool) : Int := l.foldl (fun n b => 2 * n + if b then 1 else 0) 0
theorem numOf_snoc (l : List Bool) (b : Bool) : numOf (l ++ [b]) = 2 * numOf l + if b then 1 else 0 := by simp [numOf]
theorem numFrom_bd (l : List Bool) : ∀ a : Int, a * 2 ^ l.length ≤ l.foldl (fun n b => 2 * n + if b then 1 else 0) a ∧ l.foldl (fun n b => 2 * n + if b then 1 else 0) a < (a + 1) * 2 ^ l.length := by
  induction l with
  | nil => intro a; simp; omega
  | cons b l ih =>
    intro a
    have hp : (0 : Int) < 2 ^ l.length := Int.pow_pos (by omega)
    rw [List.foldl_cons, List.length_cons, Int.pow_succ]
    obtain ⟨h0, h1⟩ := ih (2 * a + if b then 1 else 0)
    have e0 : a * (2 ^ l.length * 2) = (2 * a) * 2 ^ l.length := by rw [Int.mul_comm (2 ^ l.length) 2, ← Int.mul_assoc, Int.mul_comm a 2]
    have e1 : (a + 1) * (2 ^ l.length * 2) = (2 * a + 2) * 2 ^ l.length := by rw [Int.mul_comm (2 ^ l.length) 2, ← Int.mul_assoc]; congr 1; omega
    rw [e0, e1]
    have m1 : (2 * a) * 2 ^ l.length ≤ (2 * a + if b then 1 else 0) * 2 ^ l.length := Int.mul_le_mul_of_nonneg_right (by split <;> omega) (Int.le_of_lt hp)
    have m2 : ((2 * a + if b then 1 else 0) + 1) * 2 ^ l.length ≤ (2 * a + 2) * 2 ^ l.length := Int.mul_le_mul_of_nonneg_right (by split <;> omega) (Int.le_of_lt hp)
    exact ⟨Int.le_trans m1 h0, Int.lt_of_lt_of_le h1 m2⟩
theorem numOf_bd (l : List Bool) : 0 ≤ numOf l ∧ numOf l < 2 ^ l.length := by
  have h := numFrom_bd l 0
  simpa [numOf] using h

/-- The bit i as a number. -/
def bitI (zs : List Int) (i : Nat) : Int := zs[i / 8]?.getD 0 / 2 ^ (7 - i % 8) % 2
theorem bitI_eq (zs : List Int) (i : Nat) : bitI zs i = if bitZ zs i then 1 else 0 := by
  unfold bitI bitZ
  have h0 := Int.emod_nonneg (zs[i / 8]?.getD 0 / 2 ^ (7 - i % 8)) (show (2 : Int) ≠ 0 by omega)
  have h1 := Int.emod_lt_of_pos (zs[i / 8]?.getD 0 / 2 ^ (7 - i % 8)) (show (0 : Int) < 2 by omega)
  split
  · rename_i h; exact beq_iff_eq.1 h
  · rename_i h; rw [beq_iff_eq] at h; omega

set_option maxHeartbeats 1000000 in
theorem bitR_any (A : Option Addr) (cap : Nat) (zs : List Int) (N : Int) (i : Nat) (w : World) (hr : Row w w.heap.size A (u8s zs)) (hb : ∀ z ∈ zs, IsByte z) (hl : zs.length ≤ 1099511627776) (hi : i < 8 * zs.length) :
    Calls Try.prog 32 #[.agg #[.slice A zs.length cap, .int .i64 N], .int .i64 (i : Int)] w fun e w' =>
      e = .returned (.int .i64 (bitI zs i)) ∧ Below w.heap.size w w' := by
  obtain ⟨b, off, rfl, hbl, hc⟩ := hr.byte (k := i / 8) (by omega)
  have hbz : IsByte (zs[i / 8]?.getD 0) := hb _ (by rw [List.getElem?_eq_getElem (by omega)]; exact List.getElem_mem _)
  obtain ⟨hz0, hz1⟩ := hbz
  have hc1 : ∀ o, (w.alloc o).cell? ⟨b, off + i / 8, none⟩ = some (.int .u8 (zs[i / 8]?.getD 0)) := fun o => ((below1 w o).cell (p := ⟨b, off + i / 8, none⟩) hbl).trans hc
  have hq : (i : Int) / 8 < zs.length := by omega
  have hand : bits BinOp.and IntKind.i64 (zs[i / 8]?.getD 0 / 2 ^ (7 - i % 8)) 1 = zs[i / 8]?.getD 0 / 2 ^ (7 - i % 8) % 2 :=
    low_bit_i64 _ (Int.ediv_nonneg hz0 (Int.le_of_lt (Int.pow_pos (by omega)))) (Int.le_trans (Int.ediv_le_self _ hz0) (by omega))
  go_enter Try.func32, Try.ntmps32
  go_wp2
  go_ret
  exact ⟨rfl, below1 _ _⟩
end Go.Proofs.Ytaaaehaiimmnhaa
