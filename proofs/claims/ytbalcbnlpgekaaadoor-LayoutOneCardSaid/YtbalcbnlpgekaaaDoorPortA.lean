/- Package port: shapes of kinds, how many ports and ways, a way's ends one by one. -/
import Derived.RangeFuncNested
import Derived.RangeFuncBound
import Derived.RangeFuncCalls
import Derived.RangeFuncLeaves
import Derived.RangeFuncBox
import Derived.Shelf.Abstract
import Derived.Shelf.RegionOpen
import Derived.WalkKit
import Derived.OwnWalkIn
import Derived.TacticsInMore
import Derived.LoopNIn
import Derived.LoopIn
import Derived.WalkMore
import Derived.Test.YtbalcbnlpgekaaaDoorPortLaid
import Derived.Test.YtbalcbnlpgekaaaDoorRound
namespace Go.Proofs.YtbalcbnlpgekaaaDoor
open Go.RowKit Go.Shelf
set_option linter.unusedVariables false
attribute [local go_sem] Oper.semAt_some

/-- A kind, how many ports and ways it has, their ends. -/
def IsShape (k p n a b c d : Int) : Prop :=
  (k = 1 ∧ p = 2 ∧ n = 1 ∧ a = 0 ∧ b = 1 ∧ c = 0 ∧ d = 0) ∨ (k = 2 ∧ p = 3 ∧ n = 2 ∧ a = 0 ∧ b = 1 ∧ c = 0 ∧ d = 2) ∨ (k = 3 ∧ p = 4 ∧ n = 2 ∧ a = 0 ∧ b = 1 ∧ c = 2 ∧ d = 3) ∨
  ((k < 1 ∨ 3 < k) ∧ p = 0 ∧ n = 0 ∧ a = 0 ∧ b = 0 ∧ c = 0 ∧ d = 0)
def shapeV (p n a b c d : Int) : Value := .agg #[.int .i64 p, .int .i64 n, .int .i64 a, .int .i64 b, .int .i64 c, .int .i64 d]

set_option maxHeartbeats 1000000 in
theorem shapeOf_any (k : Int) (h0 : 0 ≤ k) (h1 : k ≤ 255) {p n a b c d : Int} (hs : IsShape k p n a b c d) (w : World) (hT : Shapes w) :
    Calls Tryd.prog 86 #[.int .u8 k] w fun e w' => e = .returned (shapeV p n a b c d) ∧ w.grownBy w' none ∧ Below w.heap.size w w' := by
  by_cases h4 : 4 ≤ k
  · obtain ⟨rfl, rfl, rfl, rfl, rfl, rfl⟩ : p = 0 ∧ n = 0 ∧ a = 0 ∧ b = 0 ∧ c = 0 ∧ d = 0 := by unfold IsShape at hs; omega
    clear hs
    go_enter Tryd.func86, Tryd.ntmps86
    go_wp2_with fail
    refine wp_scope_fwd (l := 0) rfl ?_
    go_wp2_with fail
    go_step3
    simp only [Exit.then, fwd_goto]
    refine ⟨trivial, ?_⟩
    go_wp2_with fail
    rw [Exit.noGoto_ret]
    exact bodyPost_ret (v := shapeV 0 0 0 0 0 0) (by simp [results, Tryd.f86, go_sem, shapeV]) rfl ⟨rfl, World.grownBy_alloc _ _ _, below1 _ _⟩
  · have hk : k = 0 ∨ k = 1 ∨ k = 2 ∨ k = 3 := by omega
    clear h4 h0 h1
    rcases hk with rfl | rfl | rfl | rfl
    · obtain ⟨rfl, rfl, rfl, rfl, rfl, rfl⟩ : p = 0 ∧ n = 0 ∧ a = 0 ∧ b = 0 ∧ c = 0 ∧ d = 0 := by unfold IsShape at hs; omega
      clear hs
      have c0 := hT 0 _ rfl
      have c1 := hT 1 _ rfl
      have c2 := hT 2 _ rfl
      have c3 := hT 3 _ rfl
      have c4 := hT 4 _ rfl
      have c5 := hT 5 _ rfl
      have hp : 0 < w.heap.size := World.block_lt_of_cell? w _ c0
      clear hT
      go_enter Tryd.func86, Tryd.ntmps86
      go_wp2_with fail
      refine wp_scope_fwd (l := 0) rfl ?_
      go_wp2_with fail
      rw [fwd_ret]
      exact bodyPost_ret (v := shapeV 0 0 0 0 0 0) (by simp [results, Tryd.f86, go_sem, shapeV]) rfl ⟨rfl, World.grownBy_alloc _ _ _, below1 _ _⟩
    · obtain ⟨rfl, rfl, rfl, rfl, rfl, rfl⟩ : p = 2 ∧ n = 1 ∧ a = 0 ∧ b = 1 ∧ c = 0 ∧ d = 0 := by unfold IsShape at hs; omega
      clear hs
      have c0 := hT 6 _ rfl
      have c1 := hT 7 _ rfl
      have c2 := hT 8 _ rfl
      have c3 := hT 9 _ rfl
      have c4 := hT 10 _ rfl
      have c5 := hT 11 _ rfl
      have hp : 0 < w.heap.size := World.block_lt_of_cell? w _ c0
      clear hT
      go_enter Tryd.func86, Tryd.ntmps86
      go_wp2_with fail
      refine wp_scope_fwd (l := 0) rfl ?_
      go_wp2_with fail
      rw [fwd_ret]
      exact bodyPost_ret (v := shapeV 2 1 0 1 0 0) (by simp [results, Tryd.f86, go_sem, shapeV]) rfl ⟨rfl, World.grownBy_alloc _ _ _, below1 _ _⟩
    · obtain ⟨rfl, rfl, rfl, rfl, rfl, rfl⟩ : p = 3 ∧ n = 2 ∧ a = 0 ∧ b = 1 ∧ c = 0 ∧ d = 2 := by unfold IsShape at hs; omega
      clear hs
      have c0 := hT 12 _ rfl
      have c1 := hT 13 _ rfl
      have c2 := hT 14 _ rfl
      have c3 := hT 15 _ rfl
      have c4 := hT 16 _ rfl
      have c5 := hT 17 _ rfl
      have hp : 0 < w.heap.size := World.block_lt_of_cell? w _ c0
      clear hT
      go_enter Tryd.func86, Tryd.ntmps86
      go_wp2_with fail
      refine wp_scope_fwd (l := 0) rfl ?_
      go_wp2_with fail
      rw [fwd_ret]
      exact bodyPost_ret (v := shapeV 3 2 0 1 0 2) (by simp [results, Tryd.f86, go_sem, shapeV]) rfl ⟨rfl, World.grownBy_alloc _ _ _, below1 _ _⟩
    · obtain ⟨rfl, rfl, rfl, rfl, rfl, rfl⟩ : p = 4 ∧ n = 2 ∧ a = 0 ∧ b = 1 ∧ c = 2 ∧ d = 3 := by unfold IsShape at hs; omega
      clear hs
      have c0 := hT 18 _ rfl
      have c1 := hT 19 _ rfl
      have c2 := hT 20 _ rfl
      have c3 := hT 21 _ rfl
      have c4 := hT 22 _ rfl
      have c5 := hT 23 _ rfl
      have hp : 0 < w.heap.size := World.block_lt_of_cell? w _ c0
      clear hT
      go_enter Tryd.func86, Tryd.ntmps86
      go_wp2_with fail
      refine wp_scope_fwd (l := 0) rfl ?_
      go_wp2_with fail
      rw [fwd_ret]
      exact bodyPost_ret (v := shapeV 4 2 0 1 2 3) (by simp [results, Tryd.f86, go_sem, shapeV]) rfl ⟨rfl, World.grownBy_alloc _ _ _, below1 _ _⟩

section
variable {P : World → Prop} {w : World} {k p n a b c d : Int}
theorem ports_P (hP : Closed P) (hs : ∀ w, P w → Shapes w) (h0 : 0 ≤ k) (h1 : k ≤ 255) (hk : IsShape k p n a b c d) (h : P w) : Calls Tryd.prog 70 #[.int .u8 k] w fun e w' => e = .returned (.int .i64 p) ∧ P w' := by
  have HS := Lib.hid (shapeOf_any k h0 h1 hk)
  have HT := Lib.hid (hs w h)
  clear hk
  go_enter Tryd.func70, Tryd.ntmps70
  go_wp2_with fail
  refine (HS.out _ HT.out).mono ?_
  rintro e w' ⟨rfl, hg, hB⟩
  unfold shapeV
  have hfd : ∀ w : World, (Instr.field 120 (.agg #[.int .i64 p, .int .i64 n, .int .i64 a, .int .i64 b, .int .i64 c, .int .i64 d]) 0).run Tryd.prog w = .ok (.int .i64 p) w := fun _ => by kernel_rfl
  go_wp2_with fail
  go_ret
  exact ⟨rfl, hP _ _ h hB⟩
theorem ways_P (hP : Closed P) (hs : ∀ w, P w → Shapes w) (h0 : 0 ≤ k) (h1 : k ≤ 255) (hk : IsShape k p n a b c d) (h : P w) : Calls Tryd.prog 73 #[.int .u8 k] w fun e w' => e = .returned (.int .i64 n) ∧ P w' := by
  have HS := Lib.hid (shapeOf_any k h0 h1 hk)
  have HT := Lib.hid (hs w h)
  clear hk
  go_enter Tryd.func73, Tryd.ntmps73
  go_wp2_with fail
  refine (HS.out _ HT.out).mono ?_
  rintro e w' ⟨rfl, hg, hB⟩
  unfold shapeV
  have hfd : ∀ w : World, (Instr.field 120 (.agg #[.int .i64 p, .int .i64 n, .int .i64 a, .int .i64 b, .int .i64 c, .int .i64 d]) 1).run Tryd.prog w = .ok (.int .i64 n) w := fun _ => by kernel_rfl
  go_wp2_with fail
  go_ret
  exact ⟨rfl, hP _ _ h hB⟩
end

/-- A way with its ends, for a round. -/
def encW (x : Int × Int × Int) : Array Value := #[.int .i64 x.1, .agg #[.int .i64 x.2.1, .int .i64 x.2.2]]
/-- The ways of a shape. -/
def waysL (n a b c d : Int) : List (Int × Int × Int) := [(0, a, b), (1, c, d)].take n.toNat
theorem isShape_n {k p n a b c d : Int} (h : IsShape k p n a b c d) : n = 0 ∨ n = 1 ∨ n = 2 := by unfold IsShape at h; omega

set_option maxRecDepth 100000 in
set_option maxHeartbeats 4000000 in
theorem ways1_in (m : Nat) (hm : 1 ≤ m) (l Bk : Nat) (k : Int) (h0 : 0 ≤ k) (h1 : k ≤ 255) {p n a b c d : Int} (hs : IsShape k p n a b c d) (J Jx : List (Int × Int × Int) → World → Prop)
    (hY : ∀ pre x W, J pre W → pre.length < n.toNat → YieldAt Fence.wide (m - 1) Tryd.prog l (encW x) W fun e W' =>
      (e = .returned (.bool true) ∧ J (pre ++ [x]) W' ∧ CellsOn W W') ∨ (e = .returned (.bool false) ∧ Jx (pre ++ [x]) W'))
    (W : World) (hJa : AbidesFrom W.heap.size J) (hT : Shapes W) (hx : W.cell? ⟨Bk, 0, none⟩ = some (.int .u8 k)) (hJ : J [] W) :
    CallsIn Fence.wide m Tryd.prog 87 #[.func (.yield l) #[] #[], .pointer (some ⟨Bk, 0, none⟩)] W fun e W' => (∃ v, e = .returned v) ∧
      ((∃ ys, ys = waysL n a b c d ∧ J ys W') ∨ (∃ pre, (∃ j, pre = (waysL n a b c d).take j) ∧ Jx pre W')) := by
  have HS := Lib.hid (shapeOf_any k h0 h1 hs)
  have HN := Lib.hid (isShape_n hs)
  clear hs
  refine callsIn_of_wp Tryd.func87 rfl trivial ?_ rfl
  simp only [Tryd.ntmps87, List.size_toArray, List.length_cons, List.length_nil, Nat.reduceAdd, Nat.reduceSub, Array.replicate_succ, Array.replicate_zero, List.push_toArray, List.append_toArray, List.nil_append, List.cons_append]
  gi_wp2_with fail
  refine ⟨trivial, (callsIn_wide.2 (HS.out _ hT)).mono ?_⟩
  rintro e w1 ⟨rfl, hg, hB⟩
  unfold shapeV
  have hJ1 := hJa _ _ _ none hJ hg (fun r e => by cases e)
  have hs1 := hB.size
  gi_wp2_with fail
  obtain ⟨W2, hW2, hJ2, hH⟩ : ∃ W2, w1.alloc (.cells #[.int .i64 p, .int .i64 n, .int .i64 a, .int .i64 b, .int .i64 c, .int .i64 d] 120) = W2 ∧ J [] W2 ∧ Whole W2 w1.heap.size 120 [.int .i64 p, .int .i64 n, .int .i64 a, .int .i64 b, .int .i64 c, .int .i64 d] :=
    ⟨_, rfl, hJa _ _ _ none hJ1 (World.grownBy_alloc _ _ _) (fun r e => by cases e), Whole.new _ _ [_, _, _, _, _, _]⟩
  rw [hW2]
  clear hW2
  gi_loopw [9] (fun i wr => ∃ j : Nat, (j : Int) ≤ n ∧ i = .int .i64 j ∧ J ((waysL n a b c d).take j) wr ∧ CellsOn W2 wr)
    (fun i _ => n.toNat - (intOf i).toNat)
  case atStart => exact ⟨0, by have := HN.out; omega, rfl, hJ2, CellsOn.refl _⟩
  case round =>
    obtain ⟨j, hj, rfl, hJs, hnx⟩ := hrel
    have hw := hnx.whole hH
    have x2 := hw.cell_at 2 rfl
    have x3 := hw.cell_at 3 rfl
    have x4 := hw.cell_at 4 rfl
    have x5 := hw.cell_at 5 rfl
    by_cases hlt : (j : Int) < n
    · have hj01 : (j = 0 ∧ (n = 1 ∨ n = 2)) ∨ (j = 1 ∧ n = 2) := by have := HN.out; omega
      rcases hj01 with ⟨rfl, hn⟩ | ⟨rfl, rfl⟩
      · have hsn : (waysL n a b c d).take (0 + 1) = (waysL n a b c d).take 0 ++ [(0, a, b)] := by rcases hn with rfl | rfl <;> rfl
        obtain ⟨fn, tmps, assign, body, hy, hR⟩ := hY _ (0, a, b) wr hJs (by rcases hn with rfl | rfl <;> simp)
        rw [← hsn] at hR
        clear hsn hn hj
        unfold encW at hy
        gi_wp2
        refine hR.mono ?_
        rintro e W3 (⟨rfl, hJ3, hk3⟩ | ⟨rfl, hJx3⟩)
        · gi_wp2
          go_roundw
          case rel => exact ⟨1, by omega, by go_num, hJ3, hnx.trans hk3⟩
          case measure => simp [intOf]; omega
        · gi_wp2
          refine bodyPost_ret (results_none rfl _ _ _) rfl ?_
          exact ⟨⟨_, rfl⟩, .inr ⟨_, ⟨_, rfl⟩, hJx3⟩⟩
      · obtain ⟨fn, tmps, assign, body, hy, hR⟩ := hY _ (1, c, d) wr hJs (by simp [waysL])
        have hsn : (waysL 2 a b c d).take 1 ++ [(1, c, d)] = (waysL 2 a b c d).take (1 + 1) := rfl
        rw [hsn] at hR
        clear hsn hj
        unfold encW at hy
        gi_wp2
        refine hR.mono ?_
        rintro e W3 (⟨rfl, hJ3, hk3⟩ | ⟨rfl, hJx3⟩)
        · gi_wp2
          go_roundw
          case rel => exact ⟨2, by omega, by go_num, hJ3, hnx.trans hk3⟩
          case measure => simp [intOf]
        · gi_wp2
          refine bodyPost_ret (results_none rfl _ _ _) rfl ?_
          exact ⟨⟨_, rfl⟩, .inr ⟨_, ⟨_, rfl⟩, hJx3⟩⟩
    · have hall : (waysL n a b c d).take j = waysL n a b c d := List.take_of_length_le (by unfold waysL; rw [List.length_take]; omega)
      rw [hall] at hJs
      clear hall
      gi_wp2
      go_end0
      exact ⟨⟨_, rfl⟩, .inl hJs⟩

set_option maxHeartbeats 1000000 in
theorem ways_in (m : Nat) (k : Int) (w : World) :
    CallsIn Fence.wide m Tryd.prog 71 #[.int .u8 k] w fun e w' =>
      e = .returned (.func (.func 87) #[] #[.pointer (some ⟨w.heap.size, 0, none⟩)]) ∧ w' = w.alloc (.cells #[.int .u8 k] 5) := by
  refine callsIn_of_wp Tryd.func71 rfl trivial ?_ rfl
  simp only [Tryd.ntmps71, List.size_toArray, List.length_cons, List.length_nil, Nat.reduceAdd, Nat.reduceSub, Array.replicate_succ, Array.replicate_zero, List.push_toArray, List.append_toArray, List.nil_append, List.cons_append]
  gi_wp2
  go_ret
  exact ⟨rfl, rfl⟩

theorem ways_stops (m : Nat) (hm : 1 ≤ m) (Bk : Nat) (k : Int) (h0 : 0 ≤ k) (h1 : k ≤ 255) {p n a b c d : Int} (hs : IsShape k p n a b c d) (w : World) (hT : Shapes w) (hx : w.cell? ⟨Bk, 0, none⟩ = some (.int .u8 k)) :
    SeqStopsK Fence.wide m Tryd.prog 87 #[.pointer (some ⟨Bk, 0, none⟩)] encW CellsOn (fun ys => ys = waysL n a b c d) (fun pre => ∃ j, pre = (waysL n a b c d).take j) n.toNat w := fun l J Jx W hW hJa _ hY hJ =>
  ways1_in m hm l Bk k h0 h1 hs J Jx hY W hJa (Shapes.closed _ _ hT hW) ((hW.cell (World.block_lt_of_cell? w _ hx)).trans hx) hJ
end Go.Proofs.YtbalcbnlpgekaaaDoor
