/- The table of shapes: what it holds when a call begins; the door's own heap meets it. Package port: shapes of kinds, how many ports and ways, a way's ends one by one. Package port: the small ones: where the track ends, within, whether a way joins, a step turned. Package port: Way. A way's ends, looked up: plain. Package port: May. Package port: Right. Rows of ints of the call's own: one number more; what such a row reads as. What the walks of layer 5's laws share: what they keep; the shape of a kind; both ways about. -/
import Derived.Test.YtbdbgoploednbaaDoorRows
import Derived.Test.YtbdbgoploednbaaDoorGen
import Derived.ProofKit
import Derived.LaidMore
import Derived.OpenShut
import Derived.Stop.Joined
import Derived.RangeFuncNested
import Derived.RangeFuncBound
import Derived.RangeFuncCalls
import Derived.RangeFuncLeaves
import Derived.RangeFuncBox
import Derived.Shelf.Abstract
import Derived.Shelf.RegionOpen
import Derived.WalkKit
import Derived.OwnWalkIn
import Derived.TacticsInMore
import Derived.LoopNIn
import Derived.LoopIn
import Derived.WalkMore
import Derived.Deep.RegionHeld3
namespace Go.Proofs.YtbdbgoploednbaaDoor
open Go.ChangeShapes Go.WideShapes Go.ChangeAt Go.WideMaps Go.WideElems Go.RowKit
set_option linter.unusedVariables false

/-- The table's cells: of each kind its ports, its ways, their ends. -/
def shapeCells : List Value :=
  [.int .i64 0, .int .i64 0, .int .i64 0, .int .i64 0, .int .i64 0, .int .i64 0,
   .int .i64 2, .int .i64 1, .int .i64 0, .int .i64 1, .int .i64 0, .int .i64 0,
   .int .i64 3, .int .i64 2, .int .i64 0, .int .i64 1, .int .i64 0, .int .i64 2,
   .int .i64 4, .int .i64 2, .int .i64 0, .int .i64 1, .int .i64 2, .int .i64 3]
/-- The table lies as it was laid. -/
def Shapes (w : World) : Prop := ∀ i v, shapeCells[i]? = some v → w.cell? ⟨0, i, none⟩ = some v
theorem Shapes.closed : Closed Shapes := fun w w' h hb i v hv => (hb.cell (World.block_lt_of_cell? w _ (h i v hv))).trans (h i v hv)

abbrev laidS : List (String × DataW Unit) := [("lockbar/port.shapes", Rows.laid_lockbar_port_shapes)]
theorem gShapes : Tryd.prog.globalNamed "lockbar/port.shapes" = some 0 := by kernel_rfl
theorem tShapes : (Tryd.prog.globals[0]?).map (·.type) = some 141 := by kernel_rfl

theorem doorS_met (os : Os) (args : Array Value) : laidMetH Tryd.prog laidS ((World.doorLaid Tryd.prog 400 os).forCall (fun _ _ => 0) ⟨#[], args, []⟩).memory :=
  laidMetH_of_parts3 (fuel := 8) (laidMet_of_run' 8 (by kernel_rfl) (by kernel_rfl)) (by kernel_rfl) (by kernel_rfl)

theorem ofS_laid {W : World} (h : laidMetH Tryd.prog laidS W) : Shapes W := by
  rw [MakeChecks.laidMetH_plain _ _ _ (by kernel_rfl)] at h
  obtain ⟨ps, ⟨g0, t0, cs0, f0, p0, q0, hg0, ht0, hv0, hd0, _⟩, _, _⟩ := h
  obtain rfl := Option.some.inj (gShapes.symm.trans hg0)
  obtain rfl := Option.some.inj (tShapes.symm.trans ht0)
  obtain ⟨ls, hls⟩ : ∃ ls, leaves Tryd.prog 8 141 = some ls := Option.isSome_iff_exists.1 (by kernel_rfl)
  have hc := laid_plain hls hd0
  have hf : flat (Rows.laid_lockbar_port_shapes (H := Unit)) = shapeCells := by kernel_rfl
  intro i v hv
  have h1 := World.var?_cell hg0 hv0 i
  rw [← hf] at hv
  have h2 : cs0.toList[i]? = some v := by rw [hc]; exact hv
  rw [Array.getElem?_toList] at h2
  exact h1.trans h2
end Go.Proofs.YtbdbgoploednbaaDoor
namespace Go.Proofs.YtbdbgoploednbaaDoor
open Go.RowKit Go.Shelf
set_option linter.unusedVariables false
attribute [local go_sem] Oper.semAt_some

/-- A kind, how many ports and ways it has, their ends. -/
def IsShape (k p n a b c d : Int) : Prop :=
  (k = 1 ∧ p = 2 ∧ n = 1 ∧ a = 0 ∧ b = 1 ∧ c = 0 ∧ d = 0) ∨ (k = 2 ∧ p = 3 ∧ n = 2 ∧ a = 0 ∧ b = 1 ∧ c = 0 ∧ d = 2) ∨ (k = 3 ∧ p = 4 ∧ n = 2 ∧ a = 0 ∧ b = 1 ∧ c = 2 ∧ d = 3) ∨
  ((k < 1 ∨ 3 < k) ∧ p = 0 ∧ n = 0 ∧ a = 0 ∧ b = 0 ∧ c = 0 ∧ d = 0)
def shapeV (p n a b c d : Int) : Value := .agg #[.int .i64 p, .int .i64 n, .int .i64 a, .int .i64 b, .int .i64 c, .int .i64 d]

set_option maxHeartbeats 1000000 in
theorem shapeOf_any (k : Int) (h0 : 0 ≤ k) (h1 : k ≤ 255) {p n a b c d : Int} (hs : IsShape k p n a b c d) (w : World) (hT : Shapes w) :
    Calls Tryd.prog 90 #[.int .u8 k] w fun e w' => e = .returned (shapeV p n a b c d) ∧ w.grownBy w' none ∧ Below w.heap.size w w' := by
  by_cases h4 : 4 ≤ k
  · obtain ⟨rfl, rfl, rfl, rfl, rfl, rfl⟩ : p = 0 ∧ n = 0 ∧ a = 0 ∧ b = 0 ∧ c = 0 ∧ d = 0 := by unfold IsShape at hs; omega
    clear hs
    go_enter Tryd.func90, Tryd.ntmps90
    go_wp2_with fail
    refine wp_scope_fwd (l := 0) rfl ?_
    go_wp2_with fail
    go_step3
    simp only [Exit.then, fwd_goto]
    refine ⟨trivial, ?_⟩
    go_wp2_with fail
    rw [Exit.noGoto_ret]
    exact bodyPost_ret (v := shapeV 0 0 0 0 0 0) (by simp [results, Tryd.f90, go_sem, shapeV]) rfl ⟨rfl, World.grownBy_alloc _ _ _, below1 _ _⟩
  · have hk : k = 0 ∨ k = 1 ∨ k = 2 ∨ k = 3 := by omega
    clear h4 h0 h1
    rcases hk with rfl | rfl | rfl | rfl
    · obtain ⟨rfl, rfl, rfl, rfl, rfl, rfl⟩ : p = 0 ∧ n = 0 ∧ a = 0 ∧ b = 0 ∧ c = 0 ∧ d = 0 := by unfold IsShape at hs; omega
      clear hs
      have c0 := hT 0 _ rfl
      have c1 := hT 1 _ rfl
      have c2 := hT 2 _ rfl
      have c3 := hT 3 _ rfl
      have c4 := hT 4 _ rfl
      have c5 := hT 5 _ rfl
      have hp : 0 < w.heap.size := World.block_lt_of_cell? w _ c0
      clear hT
      go_enter Tryd.func90, Tryd.ntmps90
      go_wp2_with fail
      refine wp_scope_fwd (l := 0) rfl ?_
      go_wp2_with fail
      rw [fwd_ret]
      exact bodyPost_ret (v := shapeV 0 0 0 0 0 0) (by simp [results, Tryd.f90, go_sem, shapeV]) rfl ⟨rfl, World.grownBy_alloc _ _ _, below1 _ _⟩
    · obtain ⟨rfl, rfl, rfl, rfl, rfl, rfl⟩ : p = 2 ∧ n = 1 ∧ a = 0 ∧ b = 1 ∧ c = 0 ∧ d = 0 := by unfold IsShape at hs; omega
      clear hs
      have c0 := hT 6 _ rfl
      have c1 := hT 7 _ rfl
      have c2 := hT 8 _ rfl
      have c3 := hT 9 _ rfl
      have c4 := hT 10 _ rfl
      have c5 := hT 11 _ rfl
      have hp : 0 < w.heap.size := World.block_lt_of_cell? w _ c0
      clear hT
      go_enter Tryd.func90, Tryd.ntmps90
      go_wp2_with fail
      refine wp_scope_fwd (l := 0) rfl ?_
      go_wp2_with fail
      rw [fwd_ret]
      exact bodyPost_ret (v := shapeV 2 1 0 1 0 0) (by simp [results, Tryd.f90, go_sem, shapeV]) rfl ⟨rfl, World.grownBy_alloc _ _ _, below1 _ _⟩
    · obtain ⟨rfl, rfl, rfl, rfl, rfl, rfl⟩ : p = 3 ∧ n = 2 ∧ a = 0 ∧ b = 1 ∧ c = 0 ∧ d = 2 := by unfold IsShape at hs; omega
      clear hs
      have c0 := hT 12 _ rfl
      have c1 := hT 13 _ rfl
      have c2 := hT 14 _ rfl
      have c3 := hT 15 _ rfl
      have c4 := hT 16 _ rfl
      have c5 := hT 17 _ rfl
      have hp : 0 < w.heap.size := World.block_lt_of_cell? w _ c0
      clear hT
      go_enter Tryd.func90, Tryd.ntmps90
      go_wp2_with fail
      refine wp_scope_fwd (l := 0) rfl ?_
      go_wp2_with fail
      rw [fwd_ret]
      exact bodyPost_ret (v := shapeV 3 2 0 1 0 2) (by simp [results, Tryd.f90, go_sem, shapeV]) rfl ⟨rfl, World.grownBy_alloc _ _ _, below1 _ _⟩
    · obtain ⟨rfl, rfl, rfl, rfl, rfl, rfl⟩ : p = 4 ∧ n = 2 ∧ a = 0 ∧ b = 1 ∧ c = 2 ∧ d = 3 := by unfold IsShape at hs; omega
      clear hs
      have c0 := hT 18 _ rfl
      have c1 := hT 19 _ rfl
      have c2 := hT 20 _ rfl
      have c3 := hT 21 _ rfl
      have c4 := hT 22 _ rfl
      have c5 := hT 23 _ rfl
      have hp : 0 < w.heap.size := World.block_lt_of_cell? w _ c0
      clear hT
      go_enter Tryd.func90, Tryd.ntmps90
      go_wp2_with fail
      refine wp_scope_fwd (l := 0) rfl ?_
      go_wp2_with fail
      rw [fwd_ret]
      exact bodyPost_ret (v := shapeV 4 2 0 1 2 3) (by simp [results, Tryd.f90, go_sem, shapeV]) rfl ⟨rfl, World.grownBy_alloc _ _ _, below1 _ _⟩

section
variable {P : World → Prop} {w : World} {k p n a b c d : Int}
end

/-- A way with its ends, for a round. -/
def encW (x : Int × Int × Int) : Array Value := #[.int .i64 x.1, .agg #[.int .i64 x.2.1, .int .i64 x.2.2]]
/-- The ways of a shape. -/
def waysL (n a b c d : Int) : List (Int × Int × Int) := [(0, a, b), (1, c, d)].take n.toNat
theorem isShape_n {k p n a b c d : Int} (h : IsShape k p n a b c d) : n = 0 ∨ n = 1 ∨ n = 2 := by unfold IsShape at h; omega

set_option maxRecDepth 100000 in
set_option maxHeartbeats 4000000 in
theorem ways1_in (m : Nat) (hm : 1 ≤ m) (l Bk : Nat) (k : Int) (h0 : 0 ≤ k) (h1 : k ≤ 255) {p n a b c d : Int} (hs : IsShape k p n a b c d) (J Jx : List (Int × Int × Int) → World → Prop)
    (hY : ∀ pre x W, J pre W → pre.length < n.toNat → YieldAt Fence.wide (m - 1) Tryd.prog l (encW x) W fun e W' =>
      (e = .returned (.bool true) ∧ J (pre ++ [x]) W' ∧ CellsOn W W') ∨ (e = .returned (.bool false) ∧ Jx (pre ++ [x]) W'))
    (W : World) (hJa : AbidesFrom W.heap.size J) (hT : Shapes W) (hx : W.cell? ⟨Bk, 0, none⟩ = some (.int .u8 k)) (hJ : J [] W) :
    CallsIn Fence.wide m Tryd.prog 89 #[.func (.yield l) #[] #[], .pointer (some ⟨Bk, 0, none⟩)] W fun e W' => (∃ v, e = .returned v) ∧
      ((∃ ys, ys = waysL n a b c d ∧ J ys W') ∨ (∃ pre, (∃ j, pre = (waysL n a b c d).take j) ∧ Jx pre W')) := by
  have HS := Lib.hid (shapeOf_any k h0 h1 hs)
  have HN := Lib.hid (isShape_n hs)
  clear hs
  refine callsIn_of_wp Tryd.func89 rfl trivial ?_ rfl
  simp only [Tryd.ntmps89, List.size_toArray, List.length_cons, List.length_nil, Nat.reduceAdd, Nat.reduceSub, Array.replicate_succ, Array.replicate_zero, List.push_toArray, List.append_toArray, List.nil_append, List.cons_append]
  gi_wp2_with fail
  refine ⟨trivial, (callsIn_wide.2 (HS.out _ hT)).mono ?_⟩
  rintro e w1 ⟨rfl, hg, hB⟩
  unfold shapeV
  have hJ1 := hJa _ _ _ none hJ hg (fun r e => by cases e)
  have hs1 := hB.size
  gi_wp2_with fail
  obtain ⟨W2, hW2, hJ2, hH⟩ : ∃ W2, w1.alloc (.cells #[.int .i64 p, .int .i64 n, .int .i64 a, .int .i64 b, .int .i64 c, .int .i64 d] 139) = W2 ∧ J [] W2 ∧ Whole W2 w1.heap.size 139 [.int .i64 p, .int .i64 n, .int .i64 a, .int .i64 b, .int .i64 c, .int .i64 d] :=
    ⟨_, rfl, hJa _ _ _ none hJ1 (World.grownBy_alloc _ _ _) (fun r e => by cases e), Whole.new _ _ [_, _, _, _, _, _]⟩
  rw [hW2]
  clear hW2
  gi_loopw [9] (fun i wr => ∃ j : Nat, (j : Int) ≤ n ∧ i = .int .i64 j ∧ J ((waysL n a b c d).take j) wr ∧ CellsOn W2 wr)
    (fun i _ => n.toNat - (intOf i).toNat)
  case atStart => exact ⟨0, by have := HN.out; omega, rfl, hJ2, CellsOn.refl _⟩
  case round =>
    obtain ⟨j, hj, rfl, hJs, hnx⟩ := hrel
    have hw := hnx.whole hH
    have x2 := hw.cell_at 2 rfl
    have x3 := hw.cell_at 3 rfl
    have x4 := hw.cell_at 4 rfl
    have x5 := hw.cell_at 5 rfl
    by_cases hlt : (j : Int) < n
    · have hj01 : (j = 0 ∧ (n = 1 ∨ n = 2)) ∨ (j = 1 ∧ n = 2) := by have := HN.out; omega
      rcases hj01 with ⟨rfl, hn⟩ | ⟨rfl, rfl⟩
      · have hsn : (waysL n a b c d).take (0 + 1) = (waysL n a b c d).take 0 ++ [(0, a, b)] := by rcases hn with rfl | rfl <;> rfl
        obtain ⟨fn, tmps, assign, body, hy, hR⟩ := hY _ (0, a, b) wr hJs (by rcases hn with rfl | rfl <;> simp)
        rw [← hsn] at hR
        clear hsn hn hj
        unfold encW at hy
        gi_wp2
        refine hR.mono ?_
        rintro e W3 (⟨rfl, hJ3, hk3⟩ | ⟨rfl, hJx3⟩)
        · gi_wp2
          go_roundw
          case rel => exact ⟨1, by omega, by go_num, hJ3, hnx.trans hk3⟩
          case measure => simp [intOf]; omega
        · gi_wp2
          refine bodyPost_ret (results_none rfl _ _ _) rfl ?_
          exact ⟨⟨_, rfl⟩, .inr ⟨_, ⟨_, rfl⟩, hJx3⟩⟩
      · obtain ⟨fn, tmps, assign, body, hy, hR⟩ := hY _ (1, c, d) wr hJs (by simp [waysL])
        have hsn : (waysL 2 a b c d).take 1 ++ [(1, c, d)] = (waysL 2 a b c d).take (1 + 1) := rfl
        rw [hsn] at hR
        clear hsn hj
        unfold encW at hy
        gi_wp2
        refine hR.mono ?_
        rintro e W3 (⟨rfl, hJ3, hk3⟩ | ⟨rfl, hJx3⟩)
        · gi_wp2
          go_roundw
          case rel => exact ⟨2, by omega, by go_num, hJ3, hnx.trans hk3⟩
          case measure => simp [intOf]
        · gi_wp2
          refine bodyPost_ret (results_none rfl _ _ _) rfl ?_
          exact ⟨⟨_, rfl⟩, .inr ⟨_, ⟨_, rfl⟩, hJx3⟩⟩
    · have hall : (waysL n a b c d).take j = waysL n a b c d := List.take_of_length_le (by unfold waysL; rw [List.length_take]; omega)
      rw [hall] at hJs
      clear hall
      gi_wp2
      go_end0
      exact ⟨⟨_, rfl⟩, .inl hJs⟩

set_option maxHeartbeats 1000000 in
theorem ways_in (m : Nat) (k : Int) (w : World) :
    CallsIn Fence.wide m Tryd.prog 86 #[.int .u8 k] w fun e w' =>
      e = .returned (.func (.func 89) #[] #[.pointer (some ⟨w.heap.size, 0, none⟩)]) ∧ w' = w.alloc (.cells #[.int .u8 k] 5) := by
  refine callsIn_of_wp Tryd.func86 rfl trivial ?_ rfl
  simp only [Tryd.ntmps86, List.size_toArray, List.length_cons, List.length_nil, Nat.reduceAdd, Nat.reduceSub, Array.replicate_succ, Array.replicate_zero, List.push_toArray, List.append_toArray, List.nil_append, List.cons_append]
  gi_wp2
  go_ret
  exact ⟨rfl, rfl⟩

theorem ways_stops (m : Nat) (hm : 1 ≤ m) (Bk : Nat) (k : Int) (h0 : 0 ≤ k) (h1 : k ≤ 255) {p n a b c d : Int} (hs : IsShape k p n a b c d) (w : World) (hT : Shapes w) (hx : w.cell? ⟨Bk, 0, none⟩ = some (.int .u8 k)) :
    SeqStopsK Fence.wide m Tryd.prog 89 #[.pointer (some ⟨Bk, 0, none⟩)] encW CellsOn (fun ys => ys = waysL n a b c d) (fun pre => ∃ j, pre = (waysL n a b c d).take j) n.toNat w := fun l J Jx W hW hJa _ hY hJ =>
  ways1_in m hm l Bk k h0 h1 hs J Jx hY W hJa (Shapes.closed _ _ hT hW) ((hW.cell (World.block_lt_of_cell? w _ hx)).trans hx) hJ
end Go.Proofs.YtbdbgoploednbaaDoor
namespace Go.Proofs.YtbdbgoploednbaaDoor
open Go.RowKit Go.Shelf
set_option linter.unusedVariables false
attribute [local go_sem] Oper.semAt_some

/-- Is n from 0 to t? -/
def withinV (n t : Int) : Bool := decide (0 ≤ n) && decide (n ≤ t)
section
variable {P : World → Prop} {w : World}
end

/-- Does a way of the ends a, b go from i to o? -/
def joinV (a b i o : Int) : Bool := (a == i && b == o) || (a == o && b == i)
set_option maxHeartbeats 1000000 in
theorem join_any (a b i o : Int) (w : World) : Calls Tryd.prog 87 #[.agg #[.int .i64 a, .int .i64 b], .int .i64 i, .int .i64 o] w fun e w' => e = .returned (.bool (joinV a b i o)) ∧ w.grownBy w' none ∧ Below w.heap.size w w' := by
  go_enter Tryd.func87, Tryd.ntmps87
  go_wp2_with fail
  all_goals
    go_ret
    exact ⟨ret_bool (by unfold joinV; rw [Bool.eq_iff_iff]; simp; omega), World.grownBy_alloc _ _ _, below1 _ _⟩

/-- The way of a shape that goes from i to o: is there one, and which. -/
def goesV (n a b c d i o : Int) : Bool := (decide (1 ≤ n) && joinV a b i o) || (decide (2 ≤ n) && joinV c d i o)
def wayV (n a b c d i o : Int) : Int := if (decide (1 ≤ n) && joinV a b i o) = true then 0 else if (decide (2 ≤ n) && joinV c d i o) = true then 1 else 0
theorem wayV_none {n a b c d i o : Int} (h : goesV n a b c d i o = false) : wayV n a b c d i o = 0 := by
  unfold goesV at h
  rw [Bool.or_eq_false_iff] at h
  unfold wayV
  rw [h.1, h.2]
  rfl
/-- The same, looked up in a row of ways. -/
def findW (i o : Int) : List (Int × Int × Int) → Option Int
  | [] => none
  | x :: r => if joinV x.2.1 x.2.2 i o = true then some x.1 else findW i o r
theorem findW_snoc {i o : Int} : ∀ {l : List (Int × Int × Int)} {x : Int × Int × Int}, findW i o l = none → findW i o (l ++ [x]) = if joinV x.2.1 x.2.2 i o = true then some x.1 else none
  | [], x, _ => rfl
  | y :: l, x, h => by
    unfold findW at h
    rw [List.cons_append]
    unfold findW
    split at h
    · cases h
    · rename_i hy
      rw [if_neg hy]
      exact findW_snoc h
theorem findW_take {i o v : Int} : ∀ {l : List (Int × Int × Int)} {j : Nat}, findW i o (l.take j) = some v → findW i o l = some v
  | [], _, h => by simpa using h
  | x :: l, 0, h => by simp [findW] at h
  | x :: l, j + 1, h => by
    rw [List.take_succ_cons] at h
    unfold findW at h ⊢
    split
    · rename_i hx; rw [if_pos hx] at h; exact h
    · rename_i hx; rw [if_neg hx] at h; exact findW_take h
theorem findW_ways {n a b c d i o : Int} (hn : n = 0 ∨ n = 1 ∨ n = 2) : findW i o (waysL n a b c d) = if goesV n a b c d i o = true then some (wayV n a b c d i o) else none := by
  rcases hn with rfl | rfl | rfl
  · rfl
  · show findW i o [(0, a, b)] = _
    cases h : joinV a b i o <;> simp [findW, goesV, wayV, h]
  · show findW i o [(0, a, b), (1, c, d)] = _
    cases h : joinV a b i o <;> cases h' : joinV c d i o <;> simp [findW, goesV, wayV, h, h']
end Go.Proofs.YtbdbgoploednbaaDoor
namespace Go.Proofs.YtbdbgoploednbaaDoor
open Go.RowKit Go.Shelf
set_option linter.unusedVariables false
attribute [local go_sem] Oper.semAt_some

set_option maxRecDepth 100000 in
set_option maxHeartbeats 4000000 in
theorem way_any (k i o : Int) (h0 : 0 ≤ k) (h1 : k ≤ 255) {p n a b c d : Int} (hs : IsShape k p n a b c d) (w : World) (hT : Shapes w) :
    Calls Tryd.prog 84 #[.int .u8 k, .int .i64 i, .int .i64 o] w fun e w' => e = .returned (.tuple #[.int .i64 (wayV n a b c d i o), .bool (goesV n a b c d i o)]) ∧ Below w.heap.size w w' := by
  refine (callsIn_wide (n := 4)).1 ?_
  refine callsIn_of_wp_marks Tryd.func84 rfl trivial ?_ rfl
  simp only [Tryd.ntmps84, List.size_toArray, List.length_cons, List.length_nil, Nat.reduceAdd, Nat.reduceSub, Array.replicate_succ, Array.replicate_zero, List.push_toArray, List.append_toArray, List.nil_append, List.cons_append]
  gi_wp2_with fail
  refine ⟨trivial, (ways_in 3 k _).mono ?_⟩
  rintro e w2 ⟨rfl, rfl⟩
  gi_wp2_with fail
  obtain ⟨W0, hW0, hsz, hB0, b0, b1, b2, b3, bk⟩ : ∃ W0, (((((w.alloc (.cells #[.int .i64 i] 3)).alloc (.cells #[.int .i64 o] 3)).alloc (.cells #[.int .i64 0] 3)).alloc (.cells #[.bool false] 4)).alloc (.cells #[.int .u8 k] 5)) = W0 ∧
      W0.heap.size = w.heap.size + 5 ∧ Below w.heap.size w W0 ∧ Whole W0 w.heap.size 3 [.int .i64 i] ∧ Whole W0 (w.heap.size + 1) 3 [.int .i64 o] ∧ Whole W0 (w.heap.size + 1 + 1) 3 [.int .i64 0] ∧ Whole W0 (w.heap.size + 1 + 1 + 1) 4 [.bool false] ∧ W0.cell? ⟨w.heap.size + 1 + 1 + 1 + 1, 0, none⟩ = some (.int .u8 k) :=
    ⟨_, rfl, by simp, ((below3 w _ _ _).alloc (by simp; omega) _).alloc (by simp; omega) _, ((((Whole.new w _ [_]).alloc _).alloc _).alloc _).alloc _, (((Whole.new_at _ _ [_] _ (by simp)).alloc _).alloc _).alloc _, ((Whole.new_at _ _ [_] _ (by simp)).alloc _).alloc _, (Whole.new_at _ _ [_] _ (by simp)).alloc _, (Whole.new_at _ _ [.int .u8 k] _ (by simp)).cell_at 0 rfl⟩
  rw [hW0]
  clear hW0
  have hseq := ways_stops 3 (by omega) (w.heap.size + 1 + 1 + 1 + 1) k h0 h1 hs W0 (Shapes.closed _ _ hT hB0) bk
  have HN := Lib.hid (isShape_n hs)
  have HSZ := Lib.hid hsz
  clear hs hsz bk
  refine wpIn_rangeFunc_ownH rfl (by omega) (gf := 89) rfl trivial (enters_of Tryd.func89 (by kernel_rfl) rfl) hseq CellsOn.trans CellsOn.put (Below.refl _ _) (fun _ => rfl)
    (fun pre W => (((Whole W w.heap.size 3 [.int .i64 i] ∧ Whole W (w.heap.size + 1) 3 [.int .i64 o]) ∧ (Whole W (w.heap.size + 1 + 1) 3 [.int .i64 0] ∧ Whole W (w.heap.size + 1 + 1 + 1) 4 [.bool false])) ∧ Below w.heap.size w W) ∧ findW i o pre = none)
    (fun c pre W => ((Whole W (w.heap.size + 1 + 1) 3 [.int .i64 ((findW i o pre).getD 0)] ∧ Whole W (w.heap.size + 1 + 1 + 1) 4 [.bool true]) ∧ Below w.heap.size w W) ∧ (c = .ret ∧ (findW i o pre).isSome = true))
    (OwnFrom.and (OwnFrom.and (OwnFrom.and (OwnFrom.and (Own.from (fun s X Y row hs hg hr => hs.abides hg hr) _) (Own.from (fun s X Y row hs hg hr => hs.abides hg hr) _)) (OwnFrom.and (Own.from (fun s X Y row hs hg hr => hs.abides hg hr) _) (Own.from (fun s X Y row hs hg hr => hs.abides hg hr) _))) (ownFrom_below (Nat.le_refl _) (by have := HSZ.out; omega))) (ownFrom_pure _ _))
    (fun c => OwnFrom.and (OwnFrom.and (OwnFrom.and (Own.from (fun s X Y row hs hg hr => hs.abides hg hr) _) (Own.from (fun s X Y row hs hg hr => hs.abides hg hr) _)) (ownFrom_below (Nat.le_refl _) (by have := HSZ.out; omega))) (ownFrom_pure _ _))
    ⟨⟨⟨⟨b0, b1⟩, b2, b3⟩, hB0⟩, rfl⟩
    (fun x a' W => ∃ Bx, w.heap.size + 1 + 1 + 1 < Bx ∧ Whole W Bx 134 [.int .i64 x.2.1, .int .i64 x.2.2] ∧ a' = { tmps := #[.int .u8 k, .int .i64 i, .int .i64 o, undef, .pointer (some ⟨w.heap.size, 0, none⟩), .pointer (some ⟨w.heap.size + 1, 0, none⟩), .pointer (some ⟨w.heap.size + 1 + 1, 0, none⟩), .pointer (some ⟨w.heap.size + 1 + 1 + 1, 0, none⟩), .int .i64 x.1, .pointer (some ⟨Bx, 0, none⟩), .int .u8 k, .func (.func 89) #[] #[.pointer (some ⟨w.heap.size + 1 + 1 + 1 + 1, 0, none⟩)], .int .i64 x.1, .agg #[.int .i64 x.2.1, .int .i64 x.2.2], undef, undef, undef, undef, undef], defers := [] })
    (fun x a' _ X Y row hs hg hr => by obtain ⟨Bx, h1, h2, h3⟩ := hs; exact ⟨Bx, h1, h2.abides hg (fun r e => (hr r e).2), h3⟩)
    ?assign ?body ?done ?stop
  case assign =>
    rintro l pre x W K ⟨⟨⟨⟨b0, b1⟩, b2, b3⟩, hB⟩, hf⟩ hK
    unfold encW
    gi_wp2_with fail
    exact hK _ _ ((KeepsOthers.alloc _ _).from _) (CellsOn.of_below (below1 _ _)) ⟨⟨⟨⟨b0.alloc _, b1.alloc _⟩, b2.alloc _, b3.alloc _⟩, hB.alloc hB.size _⟩, hf⟩ ⟨W.heap.size, b3.lt, Whole.new W _ [_, _], rfl⟩
  case body =>
    rintro l pre x a' W hl ⟨r, hr⟩ ⟨⟨⟨⟨b0, b1⟩, b2, b3⟩, hB⟩, hf⟩ ⟨Bx, hBx, bX, rfl⟩ hlt
    have c0 := b0.cell_at 0 rfl
    have c1 := b1.cell_at 0 rfl
    have x0 := bX.cell_at 0 rfl
    have x1 := bX.cell_at 1 rfl
    gi_wp2_with fail
    refine ⟨trivial, (CallsIn.inRound _ (callsIn_wide.2 (join_any x.2.1 x.2.2 i o _))).mono ?_⟩
    rintro e w3 ⟨rfl, hg3, hB3⟩
    have b2' := b2.below hB3 b2.lt
    have b3' := b3.below hB3 b3.lt
    have f2 := b2'.frozen 0
    have f3 := b3'.frozen 0
    have c2 := b2'.cell_at 0 rfl
    have c3 := b3'.cell_at 0 rfl
    have hko := KeepsOthers.of_grownBy hg3 (fun j o e => by cases e)
    have hsn := findW_snoc (x := x) hf
    cases hj : joinV x.2.1 x.2.2 i o
    · rw [hj] at hsn
      have HSN := Lib.hid hsn
      clear hsn hj
      gi_wp2_with fail
      exact ⟨hko.from _, CellsOn.of_below hB3, ⟨⟨⟨b0.below hB3 b0.lt, b1.below hB3 b1.lt⟩, b2', b3'⟩, hB.trans (hB3.mono hB.size)⟩, HSN.out⟩
    · rw [hj] at hsn
      have HSN := Lib.hid hsn
      clear hsn hj
      gi_wp2_with fail
      refine ⟨((hko.trans (KeepsOthers.setCell _ _ _)).trans (KeepsOthers.setCell _ _ _)).from _, ⟨⟨?_, ?_⟩, ?_⟩, rfl, ?_⟩
      · rw [HSN.out]
        exact (b2'.set 0 (.int .i64 x.1)).far (p := ⟨w.heap.size + 1 + 1 + 1, 0, none⟩) (by show w.heap.size + 1 + 1 ≠ w.heap.size + 1 + 1 + 1; omega) _
      · exact (b3'.far (p := ⟨w.heap.size + 1 + 1, 0, none⟩) (by show w.heap.size + 1 + 1 + 1 ≠ w.heap.size + 1 + 1; omega) _).set 0 (.bool true)
      · exact ((hB.trans (hB3.mono hB.size)).setCell (p := ⟨w.heap.size + 1 + 1, 0, none⟩) (by show w.heap.size ≤ w.heap.size + 1 + 1; omega) _).setCell (p := ⟨w.heap.size + 1 + 1 + 1, 0, none⟩) (by show w.heap.size ≤ w.heap.size + 1 + 1 + 1; omega) _
      · rw [HSN.out]; rfl
  case done =>
    rintro D ys W hD rfl ⟨⟨⟨⟨b0, b1⟩, b2, b3⟩, hB⟩, hf⟩ hK
    have f2 := b2.frozen 0
    have f3 := b3.frozen 0
    have c2 := b2.cell_at 0 rfl
    have c3 := b3.cell_at 0 rfl
    rw [findW_ways HN.out] at hf
    have hg : goesV n a b c d i o = false := by cases h : goesV n a b c d i o <;> simp [h] at hf ⊢
    have hv : wayV n a b c d i o = 0 := wayV_none hg
    have HG := Lib.hid hg
    have HV := Lib.hid hv
    clear hf hg hv
    gi_wp2_with fail
    have hs := HSZ.out
    have hK2 := (Below.heap_setCell (W.setCell ⟨w.heap.size + 1 + 1, 0, none⟩ (.int .i64 0)) ⟨w.heap.size + 1 + 1 + 1, 0, none⟩ (.bool false) D (by show D ≠ w.heap.size + 1 + 1 + 1; omega)).trans ((Below.heap_setCell W ⟨w.heap.size + 1 + 1, 0, none⟩ (.int .i64 0) D (by show D ≠ w.heap.size + 1 + 1; omega)).trans hK)
    have d2 := ((b2.set 0 (.int .i64 0)).far (p := ⟨w.heap.size + 1 + 1 + 1, 0, none⟩) (by show w.heap.size + 1 + 1 ≠ w.heap.size + 1 + 1 + 1; omega) (.bool false))
    have d3 := ((b3.far (p := ⟨w.heap.size + 1 + 1, 0, none⟩) (by show w.heap.size + 1 + 1 + 1 ≠ w.heap.size + 1 + 1; omega) (.int .i64 0)).set 0 (.bool false))
    have hB2 := (hB.setCell (p := ⟨w.heap.size + 1 + 1, 0, none⟩) (by show w.heap.size ≤ w.heap.size + 1 + 1; omega) (.int .i64 0)).setCell (p := ⟨w.heap.size + 1 + 1 + 1, 0, none⟩) (by show w.heap.size ≤ w.heap.size + 1 + 1 + 1; omega) (.bool false)
    have e2 := (d2.putDone (o' := .deferred none) hK2).cell_at 0 rfl
    have e3 := (d3.putDone (o' := .deferred none) hK2).cell_at 0 rfl
    refine ⟨by simp, .inl ⟨_, _, rfl, run_takeDeferred hK2, ?_⟩⟩
    refine ⟨.tuple #[.int .i64 0, .bool false], by simp [results, Tryd.f84, go_sem, e2, e3], by rw [HV.out, HG.out], hB2.trans (belowK_b (w := w) (Nat.le_refl _) _ D _ _ (by omega) hK2 rfl rfl)⟩
  case stop =>
    rintro D c pre W hD ⟨j, rfl⟩ ⟨⟨⟨b2, b3⟩, hB⟩, rfl, hf⟩ hK
    obtain ⟨v, hv⟩ := Option.isSome_iff_exists.1 hf
    have hw := findW_take hv
    rw [findW_ways HN.out] at hw
    have hg : goesV n a b c d i o = true := by cases h : goesV n a b c d i o <;> simp [h] at hw ⊢
    rw [hg, if_pos rfl] at hw
    have hw' : v = wayV n a b c d i o := (Option.some.inj hw).symm
    rw [hv, Option.getD_some, hw'] at b2
    have HG := Lib.hid hg
    clear hf hv hw hg hw'
    have hs := HSZ.out
    have e2 := (b2.putDone (o' := .deferred none) hK).cell_at 0 rfl
    have e3 := (b3.putDone (o' := .deferred none) hK).cell_at 0 rfl
    gi_wp2_with fail
    refine ⟨by simp, .inl ⟨_, _, rfl, run_takeDeferred hK, ?_⟩⟩
    refine ⟨.tuple #[.int .i64 (wayV n a b c d i o), .bool true], by simp [results, Tryd.f84, go_sem, e2, e3], by rw [HG.out], hB.trans (belowK_b (w := w) (Nat.le_refl _) _ D _ _ (by omega) hK rfl rfl)⟩
end Go.Proofs.YtbdbgoploednbaaDoor
namespace Go.Proofs.YtbdbgoploednbaaDoor
open Go.RowKit Go.Shelf
set_option linter.unusedVariables false
set_option linter.unusedSimpArgs false

/-- A way's ends, looked up in a row of ways. -/
def endsW (y : Int) : List (Int × Int × Int) → Option (Int × Int)
  | [] => none
  | x :: r => if (x.1 == y) = true then some x.2 else endsW y r
theorem endsW_snoc {y : Int} : ∀ {l : List (Int × Int × Int)} {x : Int × Int × Int}, endsW y l = none → endsW y (l ++ [x]) = if (x.1 == y) = true then some x.2 else none
  | [], x, _ => rfl
  | z :: l, x, h => by
    unfold endsW at h
    rw [List.cons_append]
    unfold endsW
    split at h
    · cases h
    · rename_i hy
      rw [if_neg hy]
      exact endsW_snoc h
theorem endsW_take {y : Int} {v : Int × Int} : ∀ {l : List (Int × Int × Int)} {j : Nat}, endsW y (l.take j) = some v → endsW y l = some v
  | [], _, h => by simpa using h
  | x :: l, 0, h => by simp [endsW] at h
  | x :: l, j + 1, h => by
    rw [List.take_succ_cons] at h
    unfold endsW at h ⊢
    split
    · rename_i hx; rw [if_pos hx] at h; exact h
    · rename_i hx; rw [if_neg hx] at h; exact endsW_take h
/-- What Ends tells of a shape. -/
def hasV (n y : Int) : Bool := decide (0 ≤ y) && decide (y < n)
def endA (n a c y : Int) : Int := if hasV n y = true then (if y = 0 then a else c) else 0
theorem endsW_ways {n a b c d y : Int} (hn : n = 0 ∨ n = 1 ∨ n = 2) : endsW y (waysL n a b c d) = if hasV n y = true then some (endA n a c y, endA n b d y) else none := by
  have e0 : (0 == y) = decide (y = 0) := by rw [Bool.eq_iff_iff, beq_iff_eq, decide_eq_true_eq]; omega
  have e1 : (1 == y) = decide (y = 1) := by rw [Bool.eq_iff_iff, beq_iff_eq, decide_eq_true_eq]; omega
  rcases hn with rfl | rfl | rfl
  · have : hasV 0 y = false := by unfold hasV; simp; try omega
    rw [this]; rfl
  · show endsW y [(0, a, b)] = _
    by_cases h : y = 0
    · subst h; rfl
    · have : hasV 1 y = false := by unfold hasV; simp; try omega
      rw [this]
      simp [endsW, e0, h]
  · show endsW y [(0, a, b), (1, c, d)] = _
    by_cases h : y = 0
    · subst h; rfl
    · by_cases h' : y = 1
      · subst h'; rfl
      · have : hasV 2 y = false := by unfold hasV; simp; try omega
        rw [this]
        simp [endsW, e0, e1, h, h']

end Go.Proofs.YtbdbgoploednbaaDoor
namespace Go.Proofs.YtbdbgoploednbaaDoor
open Go.RowKit Go.Shelf
set_option linter.unusedVariables false
set_option linter.unusedSimpArgs false

section
variable {P : World → Prop} {w : World}
theorem way_P (hP : Closed P) (hT : ∀ w, P w → Shapes w) (k i o : Int) (h0 : 0 ≤ k) (h1 : k ≤ 255) {p n a b c d v : Int} {r : Bool} (hs : IsShape k p n a b c d) (hv : wayV n a b c d i o = v) (hr : goesV n a b c d i o = r) (h : P w) :
    Calls Tryd.prog 84 #[.int .u8 k, .int .i64 i, .int .i64 o] w fun e w' => e = .returned (.tuple #[.int .i64 v, .bool r]) ∧ P w' :=
  (way_any k i o h0 h1 hs w (hT w h)).mono fun e w' ⟨he, hw⟩ => ⟨by rw [he, hr, hv], hP _ _ h hw⟩
end

/-- May this port be? -/
def mayV (s p : Int) : Bool := (s == -1 && p == 0) || (withinV s 23 && withinV p 3)

end Go.Proofs.YtbdbgoploednbaaDoor
namespace Go.Proofs.YtbdbgoploednbaaDoor
open Go.RowKit Go.Shelf
set_option linter.unusedVariables false
set_option linter.unusedSimpArgs false

/-- Is this join, or this class, as it may be: of a port, a way, that the kind has, or has not? -/
def joinOk (p : Int) (j : Nat) (s q : Int) : Bool := if (j : Int) < p then mayV s q else (s == -1 && q == 0)
def classOk (n : Int) (j : Nat) (c : Int) : Bool := if (j : Int) < n then withinV c 3 else c == 0
/-- May this section be? -/
def rightV (p n s0 q0 s1 q1 s2 q2 s3 q3 c0 c1 : Int) : Bool :=
  (p != 0) && (joinOk p 0 s0 q0 && joinOk p 1 s1 q1 && joinOk p 2 s2 q2 && joinOk p 3 s3 q3) && (classOk n 0 c0 && classOk n 1 c1)
abbrev secV (k s0 q0 s1 q1 s2 q2 s3 q3 c0 c1 : Int) : Value :=
  .agg #[.int .u8 k, .int .i64 s0, .int .i64 q0, .int .i64 s1, .int .i64 q1, .int .i64 s2, .int .i64 q2, .int .i64 s3, .int .i64 q3, .int .i64 c0, .int .i64 c1]

/-- Those of the first j joins, classes. -/
def allOk (p : Int) (js : Nat → Int × Int) : Nat → Bool
  | 0 => true
  | j + 1 => allOk p js j && joinOk p j (js j).1 (js j).2
def allCl (n : Int) (cl : Nat → Int) : Nat → Bool
  | 0 => true
  | j + 1 => allCl n cl j && classOk n j (cl j)
theorem allOk_no {p : Int} {js : Nat → Int × Int} {j : Nat} (h : joinOk p j (js j).1 (js j).2 = false) : ∀ m, j < m → allOk p js m = false
  | 0, hj => by omega
  | m + 1, hj => by
    unfold allOk
    by_cases e : j = m
    · subst e; rw [h, Bool.and_false]
    · rw [allOk_no h m (by omega)]; rfl
theorem allCl_no {n : Int} {cl : Nat → Int} {j : Nat} (h : classOk n j (cl j) = false) : ∀ m, j < m → allCl n cl m = false
  | 0, hj => by omega
  | m + 1, hj => by
    unfold allCl
    by_cases e : j = m
    · subst e; rw [h, Bool.and_false]
    · rw [allCl_no h m (by omega)]; rfl

theorem sh0 : IsShape 0 0 0 0 0 0 0 := by unfold IsShape; decide
theorem sh1 : IsShape 1 2 1 0 1 0 0 := by unfold IsShape; decide
theorem sh2 : IsShape 2 3 2 0 1 0 2 := by unfold IsShape; decide
theorem sh3 : IsShape 3 4 2 0 1 2 3 := by unfold IsShape; decide
theorem sh9 : IsShape 9 0 0 0 0 0 0 := by unfold IsShape; decide

theorem isShape_p {k p n a b c d : Int} (h : IsShape k p n a b c d) : 0 ≤ p ∧ p ≤ 4 := by unfold IsShape at h; omega
section
variable {P : World → Prop} {w : World}
end
end Go.Proofs.YtbdbgoploednbaaDoor
namespace Go.Proofs.YtbdbgoploednbaaDoor
open Go.RowKit
set_option linter.unusedVariables false

theorem ints_info : (Tryd.prog.info? 3).map (fun i => (i.zero, i.size, i.bytes)) = some (some (.int .i64 0), 1, 8) := by kernel_rfl
/-- What is owned is owned in whatever grows out of the world. -/
theorem ownsV_keep {w w' : World} {base e n : Nat} {v : Value} {xs : List Value} (h : w.ownsRow base e 1 v n xs) (hb : Below w.heap.size w w') : w'.ownsRow base e 1 v n xs := by
  refine ⟨h.1, ?_⟩
  rcases h.2 with h2 | ⟨g', cap', cur, hv, h3, h4, r⟩
  · exact .inl h2
  · exact .inr ⟨g', cap', cur, hv, h3, (hb.block g' (Array.getElem?_eq_some_iff.1 h4).1).trans h4, r⟩
/-- append(v, m), v a row of ints of the call's own, nil or not. -/
theorem append_int (base n : Nat) (v : Value) (xs : List Value) (m : Int) (w : World) (a : Nat) (hown : w.ownsRow base 3 1 v n xs) (hc : w.cell? ⟨a, 0, none⟩ = some (.int .i64 m)) (hn : n ≤ 1000) (hbase : base ≤ w.heap.size) :
    ∃ v' w', (Builtin.append_ #[38, 38] 38 #[v, .slice (some ⟨a, 0, none⟩) 1 1]).run Tryd.prog w = .ok v' w' ∧ w'.ownsRow base 3 1 v' (n + 1) (xs ++ [.int .i64 m]) ∧ w.grownBy w' v.ownBlock ∧ Below base w w' := by
  obtain ⟨i, i1, i2, i3, i4⟩ := info_parts ints_info
  obtain ⟨v', w', r1, r2, r3, r4, r5⟩ := run_append_own_at (P := Tryd.prog) w base 38 38 3 i (.int .i64 0) 1 8 Tryd.underlying38 i1 i2 i3 i4 rfl (by omega) v n xs hown ⟨a, 0, none⟩ 1 1 [.int .i64 m] rfl
    (by
      intro j u hu
      match j, hu with
      | 0, hu => simpa [Addr.add] using (by rw [hc]; exact hu)) (by simp [Value.oneCell']) (by unfold maxLen; omega) (by omega) hbase
  refine ⟨v', w', r1, r2, r3, (Below.refl base w).grown r3 hbase (fun k e => ?_)⟩
  exact (hown.lt k e).1
/-- What is owned, read as a slice. -/
theorem owns_slice {w : World} {base e n : Nat} {v : Value} {xs : List Value} (h : w.ownsRow base e 1 v n xs) : ∃ A c, v = .slice A n c ∧ Row w w.heap.size A xs ∧ n ≤ c := by
  rcases h.2 with ⟨rfl, rfl⟩ | ⟨g, cap, cur, rfl, hg, _, hn, _⟩
  · have : xs = [] := List.eq_nil_of_length_eq_zero (by have := h.1; omega)
    subst this
    exact ⟨none, 0, rfl, Row.nil _ _ _, Nat.le_refl _⟩
  · exact ⟨_, cap, rfl, owns_row h (owns_lt h).2, hn⟩
end Go.Proofs.YtbdbgoploednbaaDoor
namespace Go.Proofs.YtbdbgoploednbaaDoor
open Go.RowKit Go.Shelf
set_option linter.unusedVariables false

/-- A block that is known whole is kept besides. -/
theorem keep_whole {P : World → Prop} (hP : Closed P) {W0 : World} {g : Nat} {t : TypeId} {vs : List Value} (h : P W0) (hw : Whole W0 g t vs) :
    ∃ Q : World → Prop, Hid (Closed Q) ∧ Hid (∀ W, Q W → P W) ∧ Hid (∀ W, Q W → Whole W g t vs) ∧ Q W0 :=
  ⟨fun W => P W ∧ Whole W g t vs, Lib.hid (hP.and (Closed.whole g t vs)), Lib.hid (fun _ h => h.1), Lib.hid (fun _ h => h.2), h, hw⟩
theorem Row.num_at {w : World} {B b off : Nat} {k : IntKind} {zs : List Int} (h : Row w B (some ⟨b, off, none⟩) (nums k zs)) (j : Nat) {z : Int} (hj : zs[j]? = some z) : w.cell? ⟨b, off + j, none⟩ = some (.int k z) := by
  have hl := (List.getElem?_eq_some_iff.1 hj).1
  obtain ⟨b', off', e, _, hc⟩ := h.num hl
  cases e
  rw [hj] at hc
  exact hc
/-- A row is kept besides. -/
theorem keep_row {P : World → Prop} (hP : Closed P) {W0 : World} {A : Option Addr} {vs : List Value} (h : P W0) (hw : Row W0 W0.heap.size A vs) :
    ∃ Q : World → Prop, Hid (Closed Q) ∧ Hid (∀ W, Q W → P W) ∧ Hid (∀ W, Q W → Row W W.heap.size A vs) ∧ Q W0 :=
  ⟨fun W => P W ∧ Row W W.heap.size A vs, Lib.hid (hP.and (Closed.row A vs)), Lib.hid (fun _ h => h.1), Lib.hid (fun _ h => h.2), h, hw⟩
/-- What a law's walk keeps: the table, and all that lay. -/
theorem keep_first {w : World} (hT : Shapes w) : ∃ P : World → Prop, Hid (Closed P) ∧ Hid (∀ W, P W → Shapes W) ∧ Hid (∀ W, P W → Below w.heap.size w W) ∧ P w :=
  ⟨fun W => Shapes W ∧ Below w.heap.size w W, Lib.hid (Shapes.closed.and (Closed.below w)), Lib.hid (fun _ h => h.1), Lib.hid (fun _ h => h.2), hT, Below.refl _ _⟩

theorem joinV_comm (a b i o : Int) : joinV a b i o = joinV a b o i := by unfold joinV; exact Bool.or_comm _ _
theorem goesV_comm (n a b c d i o : Int) : goesV n a b c d i o = goesV n a b c d o i := by unfold goesV; rw [joinV_comm a b, joinV_comm c d]
theorem wayV_comm (n a b c d i o : Int) : wayV n a b c d i o = wayV n a b c d o i := by unfold wayV; rw [joinV_comm a b, joinV_comm c d]
theorem endA_no {n a c y : Int} (h : hasV n y = false) : endA n a c y = 0 := by unfold endA; rw [h]; rfl
theorem hasV_no {n y : Int} (h : y < 0 ∨ n ≤ y) : hasV n y = false := by unfold hasV; rw [Bool.and_eq_false_iff, decide_eq_false_iff_not, decide_eq_false_iff_not]; omega
theorem shape_of (k : Int) : ∃ p n a b c d, IsShape k p n a b c d := by
  by_cases h1 : k = 1
  · exact ⟨2, 1, 0, 1, 0, 0, .inl ⟨h1, rfl, rfl, rfl, rfl, rfl, rfl⟩⟩
  · by_cases h2 : k = 2
    · exact ⟨3, 2, 0, 1, 0, 2, .inr (.inl ⟨h2, rfl, rfl, rfl, rfl, rfl, rfl⟩)⟩
    · by_cases h3 : k = 3
      · exact ⟨4, 2, 0, 1, 2, 3, .inr (.inr (.inl ⟨h3, rfl, rfl, rfl, rfl, rfl, rfl⟩))⟩
      · exact ⟨0, 0, 0, 0, 0, 0, .inr (.inr (.inr ⟨by omega, rfl, rfl, rfl, rfl, rfl, rfl⟩))⟩
end Go.Proofs.YtbdbgoploednbaaDoor
