/- Package need: Points. The document's own layer 10: Goes, Over. -/
import Derived.RangeFuncNested
import Derived.RangeFuncBound
import Derived.RangeFuncCalls
import Derived.RangeFuncLeaves
import Derived.RangeFuncBox
import Derived.Shelf.Abstract
import Derived.Shelf.RegionOpen
import Derived.WalkKit
import Derived.OwnWalkIn
import Derived.TacticsInMore
import Derived.LoopNIn
import Derived.LoopIn
import Derived.WalkMore
import Derived.Test.YtbdbgoploednbaaDoorQNeeF
import Derived.Test.YtbdbgoploednbaaDoorQJoinS
import Derived.Test.YtbdbgoploednbaaDoorQA
import Derived.Test.YtbdbgoploednbaaDoorQBeR
import Derived.Test.YtbdbgoploednbaaDoorQC
import Derived.Test.YtbdbgoploednbaaDoorQLayOneM
import Derived.Test.YtbdbgoploednbaaDoorQLayTellsM
namespace Go.Proofs.YtbdbgoploednbaaDoor
open Go.RowKit Go.Shelf
set_option linter.unusedVariables false
set_option linter.unusedSimpArgs false


/-- The points that are wanted, each once, rising. -/
def pointsN (ns : List (Int × Int × Int)) : List Int := Lib.compact (sorted (ns.map fun a => a.1))
theorem points_rising (ns : List (Int × Int × Int)) : Rising (pointsN ns) := compact_rising (sorted_le _)
theorem mem_points {ns : List (Int × Int × Int)} {x : Int} : x ∈ pointsN ns ↔ ∃ a ∈ ns, a.1 = x := by
  unfold pointsN
  rw [mem_compact_iff, mem_sorted, List.mem_map]
theorem points_at13 {ns : List (Int × Int × Int)} {x : Int} : x ∈ pointsN ns ↔ (at13 ns x).2 = true := by
  rw [mem_points]
  constructor
  · rintro ⟨a, ha, rfl⟩
    exact at13_mem ha
  · intro h
    obtain ⟨a, ha, h1, _⟩ := at13_yes h
    exact ⟨a, ha, h1⟩
theorem points_len (ns : List (Int × Int × Int)) : (pointsN ns).length ≤ ns.length := by
  unfold pointsN
  have h := Lib.compact_length_le (sorted (ns.map fun a => a.1))
  rwa [sorted_len, List.length_map] at h

set_option maxRecDepth 100000 in
set_option maxHeartbeats 32000000 in
theorem points13_any {ns : List (Int × Int × Int)} {A : Option Addr} (c : Nat) {w : World} (hA : Row w w.heap.size A (ns.flatMap needCells)) (hn : ns.length ≤ 900) :
    Calls Tryd.prog 12 #[.slice A ns.length c] w fun e w' => ∃ v, e = .returned v ∧ w'.ownsRow w.heap.size 3 1 v (pointsN ns).length (nums .i64 (pointsN ns)) ∧ Below w.heap.size w w' := by
  have HRA : Hid (∀ W, Below w.heap.size w W → Row W W.heap.size A (ns.flatMap needCells)) := Lib.hid fun W h => hA.on h
  clear hA
  go_enter Tryd.func12, Tryd.ntmps12
  go_wp2_with fail
  go_loopw [3, 8] (fun v i wr => ∃ j : Nat, j ≤ ns.length ∧ i = .int .i64 j ∧ Hid (wr.ownsRow w.heap.size 3 1 v j (nums .i64 ((ns.take j).map fun a => a.1)) ∧ Below w.heap.size w wr))
    (fun _ i _ => ns.length - (intOf i).toNat)
  case atStart => exact ⟨0, by omega, rfl, Lib.hid ⟨World.ownsRow_nil _ _ _ _, Below.refl _ _⟩⟩
  case round =>
    obtain ⟨j, hj, rfl, HI⟩ := hrel
    by_cases hlt : j < ns.length
    · have hlt' : (j : Int) < ns.length := by omega
      obtain ⟨⟨x1, x2, x3⟩, hx⟩ : ∃ x, ns[j]? = some x := ⟨_, List.getElem?_eq_getElem hlt⟩
      obtain ⟨b, off, hA, _, hc0, hc⟩ := (HRA.out _ HI.out.2).nth (n := 3) (fun _ => rfl) (by omega) hx
      have c0 := hc0 j _ _ hx rfl
      have c1 := hc j _ 1 _ hx rfl
      have c2 := hc j _ 2 _ hx rfl
      have hb2 : Below wr.heap.size wr ((wr.alloc (.cells #[.int .i64 x1, .int .i64 x2, .int .i64 x3] 46)).alloc (.cells #[.int .i64 x1] 3)) := below2 _ _ _
      obtain ⟨v', W3, hrun, hown, hgr, hBl⟩ := append_int w.heap.size j u3 _ x1 ((wr.alloc (.cells #[.int .i64 x1, .int .i64 x2, .int .i64 x3] 46)).alloc (.cells #[.int .i64 x1] 3)) (wr.heap.size + 1) (ownsV_keep HI.out.1 hb2) ((Whole.new_at _ _ [_] _ (by simp)).cell_at 0 rfl) (by omega) (Nat.le_trans HI.out.2.size hb2.size)
      have HE : Hid (W3.ownsRow w.heap.size 3 1 v' (j + 1) (nums .i64 ((ns.take (j + 1)).map fun a => a.1)) ∧ Below w.heap.size w W3) := Lib.hid ⟨by
        rw [List.take_add_one, hx]
        simpa [nums] using hown, HI.out.2.trans ((hb2.mono HI.out.2.size).trans hBl)⟩
      rw [hA]
      clear hc0 hc hx hb2 hown hgr hBl hA HI
      go_wp2_with (at_builtin; refine list_append rfl (.tmp 12) (.tmp 15) 38 rfl hrun ?_)
      go_roundw
      case rel => exact ⟨j + 1, hlt, by go_num, HE⟩
      case measure => simp [intOf]; omega
    · obtain rfl : j = ns.length := by omega
      have hown := HI.out.1
      rw [List.take_length] at hown
      have KS := Lib.hid (sort_own hown (by omega))
      have HB := Lib.hid HI.out.2
      have HVB : Hid (∀ b, u3.ownBlock = some b → w.heap.size ≤ b) := Lib.hid fun b hb => (hown.lt b hb).1
      clear hown HI
      go_wp2_with fail
      refine KS.out.mono ?_
      clear KS
      rintro e W2 ⟨rfl, hown, hg2⟩
      have hB2 : Below w.heap.size w W2 := HB.out.grown hg2 HB.out.size (fun b hb => HVB.out b hb)
      have hsl := sorted_len (ns.map fun a => a.1)
      have hown' : W2.ownsRow w.heap.size 3 1 u3 (sorted (ns.map fun a => a.1)).length (nums .i64 (sorted (ns.map fun a => a.1))) := by rw [hsl, List.length_map]; exact hown
      have KC := Lib.hid (compact_own hown' (by rw [hsl, List.length_map]; omega))
      have HB2 := Lib.hid hB2
      clear hown hown' hg2 hB2 hsl
      go_wp2_with fail
      refine KC.out.mono ?_
      clear KC
      rintro e W3 ⟨v', rfl, hown, hg3⟩
      have HE : Hid (W3.ownsRow w.heap.size 3 1 v' (pointsN ns).length (nums .i64 (pointsN ns)) ∧ Below w.heap.size w W3) := Lib.hid ⟨hown, HB2.out.grown hg3 HB2.out.size (fun b hb => HVB.out b hb)⟩
      clear hown hg3
      go_wp2_with fail
      go_ret
      exact ⟨_, rfl, HE.out⟩
end Go.Proofs.YtbdbgoploednbaaDoor
namespace Go.Proofs.YtbdbgoploednbaaDoor
open Go.RowKit Go.Shelf
set_option linter.unusedVariables false
set_option linter.unusedSimpArgs false

set_option maxRecDepth 100000 in
set_option maxHeartbeats 8000000 in
theorem overR10_any {l : Lay} {w : World} (hL : Lies l w) (hO : ∀ x ∈ l.exits, x.over.length ≤ 1000) (x : Int) {ss : List (Int × Int × Int)} (hs : overL10 l x = ss) : Calls Tryd.prog 30 #[l.val, .int .i64 x] w fun e w' => ∃ v, e = .returned v ∧ w'.ownsRow w.heap.size 56 3 v ss.length (ss.flatMap stpCells) ∧ Below w.heap.size w w' := by
  subst hs
  obtain ⟨Q, HQ, HQb, HQl, hq⟩ := keep_box (Closed.below w) (Below.refl _ w) 29 l.cells
  have HTW : Hid (∀ W, Q W → Lies l W) := Lib.hid fun W hW => Lies.closed l _ _ hL (HQb.out W hW)
  rcases at_cases_n l.exits x with h1 | ⟨h0, h1⟩ | ⟨j, y, rfl, hy, hlt⟩
  · rw [over_neg h1]
    have d1 := decide_eq_true h1
    clear hL hO
    have hW := hq
    have m0 := HQl.out _ hW
    have x0 := m0.cell_at 0 rfl
    have x1 := m0.cell_at 1 rfl
    have x2 := m0.cell_at 2 rfl
    have x3 := m0.cell_at 3 rfl
    have x4 := m0.cell_at 4 rfl
    have x5 := m0.cell_at 5 rfl
    have x6 := m0.cell_at 6 rfl
    have x7 := m0.cell_at 7 rfl
    have x8 := m0.cell_at 8 rfl
    have x9 := m0.cell_at 9 rfl
    have x10 := m0.cell_at 10 rfl
    clear m0
    clear hW
    go_enter Tryd.func30, Tryd.ntmps30
    go_wp2_with fail
    go_ret
    exact ⟨_, rfl, World.ownsRow_nil _ _ _ _, HQb.out _ hq⟩
  · rw [over_far h0 h1]
    have d1 : decide (x < 0) = false := decide_eq_false (by omega)
    have d2 : decide ((l.exits.length : Int) ≤ x) = true := decide_eq_true h1
    clear hL hO
    have hW := hq
    have m0 := HQl.out _ hW
    have x0 := m0.cell_at 0 rfl
    have x1 := m0.cell_at 1 rfl
    have x2 := m0.cell_at 2 rfl
    have x3 := m0.cell_at 3 rfl
    have x4 := m0.cell_at 4 rfl
    have x5 := m0.cell_at 5 rfl
    have x6 := m0.cell_at 6 rfl
    have x7 := m0.cell_at 7 rfl
    have x8 := m0.cell_at 8 rfl
    have x9 := m0.cell_at 9 rfl
    have x10 := m0.cell_at 10 rfl
    clear m0
    clear hW
    go_enter Tryd.func30, Tryd.ntmps30
    go_wp2_with fail
    go_ret
    exact ⟨_, rfl, World.ownsRow_nil _ _ _ _, HQb.out _ hq⟩
  · rw [over_at hy]
    have HC : Hid (∃ b off, l.Ae = some ⟨b, off, none⟩ ∧ ∀ W, Q W → W.cell? ⟨b, off + j * 3, none⟩ = some (.int .i64 y.s) ∧ W.cell? ⟨b, off + j * 3 + 1, none⟩ = some (.int .i64 y.q) ∧ W.cell? ⟨b, off + j * 3 + 2, none⟩ = some (.slice y.A y.over.length y.c)) := Lib.hid (by
      obtain ⟨b, off, hA, _, hc0, hc⟩ := (HTW.out _ hq).exits.nth (n := 3) (fun _ => rfl) (by omega) hy
      refine ⟨b, off, hA, fun W hW => ?_⟩
      obtain ⟨b', off', hA', _, hc0, hc⟩ := (HTW.out _ hW).exits.nth (n := 3) (fun _ => rfl) (by omega) hy
      rw [hA] at hA'
      cases hA'
      exact ⟨hc0 j _ _ hy rfl, hc j _ 1 _ hy rfl, hc j _ 2 _ hy rfl⟩)
    obtain ⟨b, off, hA, hC⟩ := HC.out
    have hrow := (HTW.out _ hq).overs y (List.mem_of_getElem? hy)
    have hol := hO y (List.mem_of_getElem? hy)
    have hcc := hC _ hq
    have hxx := HQl.out _ hq
    have hqb := HQb.out _ hq
    have hlt' : j < l.exits.length := by omega
    obtain ⟨W0, hW0⟩ : ∃ W0, w.alloc (.cells l.cells.toArray 29) = W0 := ⟨_, rfl⟩
    have hsz : W0.heap.size = w.heap.size + 1 := by rw [← hW0]; simp
    have HA := Lib.hid hA
    have hxy := hxx.cell_at 2 rfl
    rw [hW0] at hrow hcc hqb hxy
    have HSZ := Lib.hid hsz
    clear hL hO hC hA HC hy hq hxx hsz
    go_enter Tryd.func30, Tryd.ntmps30
    go_upto_region 3 with (fail)
    clear hxy
    try rw [hW0]
    have hxx : Whole W0 w.heap.size 29 l.cells := by rw [← hW0]; exact Whole.new w _ l.cells
    obtain ⟨A', c', w1, hrun, hown, hB⟩ := appendN (P := Tryd.prog) (f := stpCells) (size := 3) (fun _ => rfl) oneStep 30 56 (.agg #[.int .i64 0, .int .i64 0, .int .i64 0]) 24 Tryd.underlying30 infoStep rfl (by omega) (by omega) y.over y.A y.c W0 hrow hol
    have HO : Hid (w1.ownsRow w.heap.size 56 3 (.slice A' y.over.length c') y.over.length (y.over.flatMap stpCells)) := Lib.hid (owns_base hown (by have := HSZ.out; omega))
    have HB : Hid (Below w.heap.size w w1) := Lib.hid (hqb.trans (hB.mono (by have := HSZ.out; omega)))
    have b1 := below1 W0 (.cells #[] 56)
    have x2 := (hxx.alloc (.cells #[] 56)).cell_at 2 rfl
    have c2 := (Closed.cell _ _) _ _ hcc.2.2 b1
    rw [HA.out] at x2
    clear hrow hol hown hB hqb hcc hxx hW0 b1 HTW HQ HQb HQl
    go_wp2_with (at_builtin; refine list_append rfl (.tmp 14) (.tmp 20) 30 rfl hrun ?_)
    go_ret
    exact ⟨_, rfl, HO.out, HB.out⟩
end Go.Proofs.YtbdbgoploednbaaDoor
