/- Package need: Clash, Fine. A row of a layout with one more: append(append([]T{}, row..), one), whichever of its blocks comes first. append(append([]T{}, row..), one), whichever of its blocks comes first: what each append gives. -/
import Derived.Lib.AppendZeros
import Derived.RangeFuncNested
import Derived.RangeFuncBound
import Derived.RangeFuncCalls
import Derived.RangeFuncLeaves
import Derived.RangeFuncBox
import Derived.Shelf.Abstract
import Derived.Shelf.RegionOpen
import Derived.WalkKit
import Derived.OwnWalkIn
import Derived.TacticsInMore
import Derived.LoopNIn
import Derived.LoopIn
import Derived.WalkMore
import Derived.Test.YtljpiafopbfdlaaQAp
import Derived.Test.YtljpiafopbfdlaaQAj
import Derived.Test.YtljpiafopbfdlaaQAs
import Derived.Test.YtljpiafopbfdlaaQAq
import Derived.Test.YtljpiafopbfdlaaQAi
import Derived.Test.YtljpiafopbfdlaaQAa
namespace Go.Proofs.Ytljpiafopbfdlaa
open Go.RowKit Go.Shelf
set_option linter.unusedVariables false
set_option linter.unusedSimpArgs false

attribute [local go_sem] Oper.semAt_some

/-- append(v, b..), v a row of needs of the call's own, nil or not. -/
theorem append_needs13 (base : Nat) (us vs : List (Int × Int × Int)) (v : Value) (A : Option Addr) (c Bd : Nat) (w : World) (hown : w.ownsRow base 40 3 v us.length (us.flatMap needCells)) (hr : Row w Bd A (vs.flatMap needCells)) (hn : us.length ≤ 1000000) (hl : vs.length ≤ 1000000) (hbase : base ≤ w.heap.size) :
    ∃ v' w', (Builtin.append_ #[25, 25] 25 #[v, .slice A vs.length c]).run Try.prog w = .ok v' w' ∧ w'.ownsRow base 40 3 v' (us ++ vs).length ((us ++ vs).flatMap needCells) ∧ w.grownBy w' v.ownBlock := by
  obtain ⟨i, i1, i2, i3, i4⟩ := info_parts infoNeed
  cases A with
  | none =>
    obtain rfl := flat_none (f := needCells) (size := 3) (fun _ => rfl) (by omega) hr
    rcases hown.2 with ⟨rfl, _⟩ | ⟨g, cap, cur, rfl, h3, h4, h5, h6, h7, h8⟩
    · refine ⟨.slice none 0 0, w, ?_, by simpa using hown, World.grownBy.refl _ _⟩
      simp [Builtin.append_, run_underlying Try.underlying25, sizeOf, typeInfo, i1, Builtin.lenOf, Builtin.firstCells, storeCells]
    · exact ⟨_, w, append_none w _ _ _ i Try.underlying25 i1 g _ cap c h5, by simpa using hown, World.grownBy.refl _ _⟩
  | some a =>
    obtain ⟨v', w', r1, r2, r3, r4, r5⟩ := run_append_own_at (P := Try.prog) w base 25 25 40 i (.agg #[.int .i64 0, .int .i64 0, .int .i64 0]) 3 24 Try.underlying25 i1 i2 i3 i4 rfl (by omega) v us.length _ hown a vs.length c (vs.flatMap needCells) (flat_length (f := needCells) (n := 3) (fun _ => rfl) vs) (row_add hr) (fun u hu => by
      obtain ⟨x, _, hx⟩ := List.mem_flatMap.1 hu
      exact oneNeed x u hx) (by unfold maxLen; omega) (by omega) hbase
    exact ⟨v', w', r1, by rw [List.length_append, List.flatMap_append]; exact r2, r3⟩
theorem values13_any (A : Option Addr) (n c : Nat) (w : World) : Calls Try.prog 62 #[.slice A n c] w fun e w' => e = .returned (.func (.func 67) #[] #[.pointer (some ⟨w.heap.size, 0, none⟩)]) ∧ w' = w.alloc (.cells #[.slice A n c] 25) := by
  go_enter Try.func62, Try.ntmps62
  go_wp2_with fail
  go_ret
  exact ⟨rfl, rfl⟩

set_option maxRecDepth 100000 in
set_option maxHeartbeats 32000000 in
theorem values13_iter {wa w0 : World} {g : Nat} {ns : List (Int × Int × Int)} {A : Option Addr} {c : Nat} (hR : Row wa wa.heap.size A (ns.flatMap needCells)) (hn : (ns.length : Int) ≤ 9223372036854775807) (hka : Keeps (· < wa.heap.size) wa w0) (hb : Whole w0 g 25 [.slice A ns.length c]) :
    IterU Try.prog 67 #[.pointer (some ⟨g, 0, none⟩)] (fun x : Int × Int × Int => #[stpV x.1 x.2.1 x.2.2]) ns (fun k => k < wa.heap.size ∨ k = g) w0 := by
  intro L J Jx W hk0 hRl hJ hJx hY h0
  have HF : Hid (∀ W', Keeps (fun k => k < wa.heap.size ∨ k = g) w0 W' → Row W' wa.heap.size A (ns.flatMap needCells)) := Lib.hid fun W' hk =>
    have hk' := hka.trans (hk.sub fun k h => .inl h)
    hR.keeps hk' (fun _ h => h)
  have s0 := (hk0.whole (.inr rfl) hb).cell_at 0 rfl
  obtain ⟨B, hB⟩ : ∃ B, W.heap.size = B := ⟨_, rfl⟩
  have hs0 : B ≤ W.heap.size := by omega
  rw [hB] at hJ hJx hY
  clear hR hka hb hRl hB
  refine (callsIn_wide (n := 3)).1 ?_
  refine callsIn_of_wp Try.func67 rfl trivial ?_ rfl
  simp only [Try.ntmps67, List.size_toArray, List.length_cons, List.length_nil, Nat.reduceAdd, Nat.reduceSub, Array.replicate_succ, Array.replicate_zero, List.push_toArray, List.append_toArray, List.nil_append, List.cons_append]
  gi_wp2_with fail
  clear s0
  gi_loopw [7] (fun i wr => ∃ (j : Nat) (U : Nat → Prop), j ≤ ns.length ∧ i = .int .i64 j ∧ J U j wr ∧ (∀ k, U k → k < wr.heap.size) ∧ Keeps (fun k => k < wa.heap.size ∨ k = g) w0 wr)
    (fun i _ => ns.length - (intOf i).toNat)
  case atStart => exact ⟨0, fun _ => False, by omega, rfl, h0, fun k h => h.elim, hk0⟩
  case round =>
    clear h0 hk0 hs0
    obtain ⟨j, U, hj, rfl, hJj, hUl, hk⟩ := hrel
    by_cases hlt : j < ns.length
    · have hlt' : (j : Int) < ns.length := by omega
      obtain ⟨⟨f1, f2, f3⟩, hx⟩ : ∃ x, ns[j]? = some x := ⟨_, List.getElem?_eq_getElem hlt⟩
      obtain ⟨b, off, hA, _, hc0, hc⟩ := (HF.out _ hk).nth (n := 3) (fun _ => rfl) (by omega) hx
      have HX := Lib.hid hx
      have c0 := hc0 j _ _ hx rfl
      have c1 := hc j _ 1 _ hx rfl
      have c2 := hc j _ 2 _ hx rfl
      clear hx hc0 hc
      have hb4 := below1 wr (.cells #[.int .i64 f1, .int .i64 f2, .int .i64 f3] 40)
      have hJ2 := hJ _ _ _ _ hJj (Stays.below hb4)
      have hk2 := hk.trans (Keeps.below hb4)
      have hU2 : ∀ k, U k → k < (wr.alloc (.cells #[.int .i64 f1, .int .i64 f2, .int .i64 f3] 40)).heap.size := fun k h => Nat.lt_of_lt_of_le (hUl k h) hb4.size
      rw [hA]
      have HA := Lib.hid hA
      obtain ⟨fn, tmps, assign, body, hy, hR⟩ := hY U j _ _ HX.out hJ2 hU2
      have HR := Lib.hid hR
      have HK2 := Lib.hid hk2
      clear hR hJ2 hk2 hJj hk hUl hb4 hA
      gi_wp2_with fail
      refine RoundIn.mono (RoundIn.wide HR.out) ?_
      clear HR hy c0 c1 c2
      rintro e W3 ⟨U', hg', hk', (⟨rfl, hJ3⟩ | ⟨rfl, hJx3⟩)⟩
      · have hk3 := HK2.out.trans hk'.keeps
        have hU3 := hg'.lt
        clear hg' hk' HK2
        gi_wp2_with fail
        go_roundw
        case rel => exact ⟨j + 1, U', hlt, by go_num, hJ3, hU3, hk3⟩
        case measure => simp [intOf]; omega
      · have hU3 := hg'.lt
        gi_wp2
        refine bodyPost_ret (results_none rfl _ _ _) rfl ?_
        exact ⟨⟨_, rfl⟩, U', hU3, .inr hJx3⟩
    · obtain rfl : j = ns.length := by omega
      gi_wp2_with fail
      go_end0
      exact ⟨⟨_, rfl⟩, U, hUl, .inl hJj⟩

set_option maxRecDepth 100000 in
set_option maxHeartbeats 32000000 in
theorem grow13_any {n : Nat} (hn : n ≤ 1000) (w : World) : Calls Try.prog 68 #[.slice none 0 0, .int .i64 (n : Int)] w fun e w' => ∃ v, e = .returned v ∧ w'.ownsRow w.heap.size 40 3 v 0 [] ∧ Below w.heap.size w w' := by
  by_cases h0 : 0 < n
  · obtain ⟨i, i1, i2, i3, i4⟩ := info_parts infoNeed
    have hrun := Lib.run_append_nil_zeros (P := Try.prog) w 25 3 25 40 i _ .i64 .i64 Try.underlying25 (by kernel_rfl) i1 i2 n h0 (by rw [i3]; omega) (by omega) (by rw [i4]; omega)
    have hge := grownCap_ge w n 0 40
    have hle := grownCap_le_maxLen w n 0 40 (by unfold maxLen; omega)
    generalize grownCap w n 0 40 = cp at hrun hge hle
    obtain ⟨W1, hW1⟩ : ∃ W1, (w.drew.alloc (.cells (Builtin.zeroCells (Value.agg #[.int .i64 0, .int .i64 0, .int .i64 0]).cells n ++ Builtin.zeroCells (Value.agg #[.int .i64 0, .int .i64 0, .int .i64 0]).cells (cp - n)) 40)) = W1 := ⟨_, rfl⟩
    have hB : Below w.heap.size w W1 := by rw [← hW1]; exact (Below.refl w.heap.size w).drew.trans (below1 w.drew _)
    have hO : W1.ownsRow w.heap.size 40 3 (.slice (some ⟨w.heap.size, 0, none⟩) 0 cp) 0 [] := ⟨rfl, .inr ⟨w.heap.size, cp, _, rfl, Nat.le_refl _, by rw [← hW1]; exact World.alloc_heap_new w.drew _, by omega, hle, by
      rw [Array.size_append, size_zeroCells, size_zeroCells]
      show n * 3 + (cp - n) * 3 = cp * 3
      omega, by simp⟩⟩
    rw [hW1] at hrun
    have hw0 : IntKind.i64.wrap (n : Int) = n := IntWalk.i64_in _ (by omega)
    have hw1 : wrap64 (n : Int) = n := by unfold wrap64; omega
    have hpos : (0 : Int) < (n : Int) := by omega
    have HB := Lib.hid hB
    have HO := Lib.hid hO
    clear hB hO hW1
    go_enter Try.func68, Try.ntmps68
    go_wp2_with (at_builtin; refine Lib.wpList_append_run _ rfl (.tmp 20) (.tmp 21) 25 3 rfl _ _ rfl rfl _ _ hrun ?_)
    go_ret
    exact ⟨_, rfl, HO.out, HB.out⟩
  · obtain rfl : n = 0 := by omega
    go_enter Try.func68, Try.ntmps68
    go_wp2_with fail
    go_ret
    exact ⟨_, rfl, World.ownsRow_nil _ _ _ _, Below.refl _ _⟩

set_option maxRecDepth 100000 in
set_option maxHeartbeats 32000000 in
theorem concat13_any {us vs : List (Int × Int × Int)} {A Bv : Option Addr} {ca cb g : Nat} {w : World} (hA : Row w w.heap.size A (us.flatMap needCells)) (hB : Row w w.heap.size Bv (vs.flatMap needCells)) (hg : Whole w g 25 [.slice A us.length ca, .slice Bv vs.length cb]) (hn : us.length + vs.length ≤ 1000) :
    Calls Try.prog 63 #[.slice (some ⟨g, 0, none⟩) 2 2] w fun e w' => ∃ A' c', e = .returned (.slice A' (us ++ vs).length c') ∧ Row w' w'.heap.size A' ((us ++ vs).flatMap needCells) ∧ Below w.heap.size w w' := by
  obtain ⟨na, hna⟩ : ∃ n, us.length = n := ⟨_, rfl⟩
  obtain ⟨nb, hnb⟩ : ∃ n, vs.length = n := ⟨_, rfl⟩
  have HNA := Lib.hid hna
  have HNB := Lib.hid hnb
  obtain ⟨n, hnn⟩ : ∃ n, na + nb = n := ⟨_, rfl⟩
  have HNN := Lib.hid hnn
  have KG := Lib.hid (grow13_any (n := n) (by omega) w)
  have HRA := Lib.hid (fun W (h : Below w.heap.size w W) => hA.on h)
  have HRB := Lib.hid (fun W (h : Below w.heap.size w W) => hB.on h)
  have HG := Lib.hid (fun W (h : Below w.heap.size w W) => hg.below h hg.lt)
  have hw1 : IntKind.i64.wrap (na : Int) = na := IntWalk.i64_in _ (by omega)
  have hw2 : IntKind.i64.wrap ((na : Int) + nb) = (n : Int) := by rw [IntWalk.i64_in _ (by omega)]; omega
  have x0 := hg.cell_at 0 rfl
  have x1 := hg.cell_at 1 rfl
  rw [hna] at x0
  rw [hnb] at x1
  have HLE := Lib.hid hn
  rw [hna, hnb, hnn] at hn
  clear hA hB hg hna hnb hnn
  go_enter Try.func63, Try.ntmps63
  go_wp2_with fail
  go_loopw [3, 11] (fun s i wr => ∃ j : Nat, j ≤ 2 ∧ i = .int .i64 j ∧ s = .int .i64 ((match j with | 0 => 0 | 1 => na | _ => n : Nat) : Int) ∧ wr = w)
    (fun _ i _ => 2 - (intOf i).toNat)
  case atStart => exact ⟨0, by omega, rfl, rfl, rfl⟩
  case round =>
    obtain ⟨j, hj, rfl, rfl, rfl⟩ := hrel
    match j, hj with
    | 0, _ =>
      go_wp2_with fail
      go_roundw
      case rel => exact ⟨1, by omega, rfl, by simp [hw1], by trivial⟩
      case measure => simp [intOf]
    | 1, _ =>
      go_wp2_with fail
      go_roundw
      case rel => exact ⟨2, by omega, rfl, by simp [hw2], by trivial⟩
      case measure => simp [intOf]
    | 2, _ =>
      go_wp2_with fail
      obtain ⟨w, rfl⟩ : ∃ W, W = wr := ⟨wr, rfl⟩
      refine KG.out.mono ?_
      clear KG x0 x1
      rintro e w1 ⟨v1, rfl, hown1, hB1⟩
      obtain ⟨A1, c1, rfl, _⟩ := owns_read hown1
      have HO1 := Lib.hid hown1
      have HB1 := Lib.hid hB1
      clear hown1 hB1
      go_wp2_with fail
      go_loopw [6, 27] (fun v i W => ∃ j : Nat, j ≤ 2 ∧ i = .int .i64 j ∧ ∃ A' c', v = .slice A' (match j with | 0 => 0 | 1 => na | _ => n) c' ∧
          Hid (W.ownsRow w.heap.size 40 3 (.slice A' (match j with | 0 => 0 | 1 => na | _ => n) c') (match j with | 0 => 0 | 1 => na | _ => n) (match j with | 0 => [] | 1 => us.flatMap needCells | _ => (us ++ vs).flatMap needCells) ∧ Below w.heap.size w W))
        (fun _ i _ => 2 - (intOf i).toNat)
      case atStart => exact ⟨0, by omega, rfl, _, c1, rfl, Lib.hid ⟨HO1.out, HB1.out⟩⟩
      case round =>
        clear HO1 HB1
        obtain ⟨j, hj, rfl, A', c', rfl, HI⟩ := hrel
        match j, hj with
        | 0, _ =>
          obtain ⟨hO, hB⟩ := HI.out
          obtain ⟨v', W2, hrun, hO2, hg2⟩ := append_needs13 w.heap.size [] us _ A ca wr.heap.size wr hO (HRA.out wr hB) (by simp) (by have := HLE.out; omega) hB.size
          have x0 := (HG.out wr hB).cell_at 0 rfl
          rw [List.nil_append, HNA.out] at hO2
          rw [HNA.out] at hrun x0
          obtain ⟨A2, c2, rfl, _⟩ := owns_read hO2
          have hB2 := hB.grown hg2 hB.size (fun k e => (hO.lt k e).1)
          have HJ := Lib.hid (And.intro hO2 hB2)
          clear hO hB hO2 hg2 hB2 HI
          go_wp2_with (at_builtin; refine list_append rfl (.tmp 31) (.tmp 32) 25 rfl hrun ?_)
          go_roundw
          case rel => exact ⟨1, by omega, rfl, A2, c2, rfl, HJ⟩
          case measure => simp [intOf]
        | 1, _ =>
          obtain ⟨hO, hB⟩ := HI.out
          have hO' : wr.ownsRow w.heap.size 40 3 (.slice A' na c') us.length (us.flatMap needCells) := by rw [HNA.out]; exact hO
          obtain ⟨v', W2, hrun, hO2, hg2⟩ := append_needs13 w.heap.size us vs _ Bv cb wr.heap.size wr hO' (HRB.out wr hB) (by have := HLE.out; omega) (by have := HLE.out; omega) hB.size
          have x1 := (HG.out wr hB).cell_at 1 rfl
          rw [List.length_append, HNA.out, HNB.out, HNN.out] at hO2
          rw [HNB.out] at hrun x1
          obtain ⟨A2, c2, rfl, _⟩ := owns_read hO2
          have hB2 := hB.grown hg2 hB.size (fun k e => (hO'.lt k e).1)
          have HJ := Lib.hid (And.intro hO2 hB2)
          clear hO hO' hB hO2 hg2 hB2 HI
          go_wp2_with (at_builtin; refine list_append rfl (.tmp 31) (.tmp 32) 25 rfl hrun ?_)
          go_roundw
          case rel => exact ⟨2, by omega, rfl, A2, c2, rfl, HJ⟩
          case measure => simp [intOf]
        | 2, _ =>
          have HN2 : Hid (us.length + vs.length = n) := Lib.hid (by rw [HNA.out, HNB.out, HNN.out])
          go_wp2_with fail
          go_ret
          obtain ⟨hO, hB⟩ := HI.out
          have hO' : wr.ownsRow w.heap.size 40 3 (.slice A' n c') n ((us ++ vs).flatMap needCells) := hO
          have hrow := owns_row2 hO'
          refine ⟨A', ⟨c', by rw [HN2.out]; rfl⟩, by simpa using hrow, hB⟩

set_option maxRecDepth 100000 in
set_option maxHeartbeats 32000000 in
theorem clashB_any {us vs : List (Int × Int × Int)} {A Bv : Option Addr} (ca cb : Nat) {w : World} (hA : Row w w.heap.size A (us.flatMap needCells)) (hB : Row w w.heap.size Bv (vs.flatMap needCells)) (hU : ∀ x ∈ us, NWf x) (hV : ∀ x ∈ vs, NWf x) (hn : us.length + vs.length ≤ 1000) {r : Bool} (hr : clashN (us ++ vs) = r) :
    Calls Try.prog 47 #[.slice A us.length ca, .slice Bv vs.length cb] w fun e w' => e = .returned (.bool r) ∧ Below w.heap.size w w' := by
  obtain ⟨W1, hW1⟩ : ∃ W1, w.alloc (.cells #[.slice A us.length ca, .slice Bv vs.length cb] 25) = W1 := ⟨_, rfl⟩
  have hB1 : Below w.heap.size w W1 := by rw [← hW1]; exact below1 _ _
  have KC := Lib.hid (concat13_any (ca := ca) (cb := cb) (hA.on hB1) (hB.on hB1) (g := w.heap.size) (by rw [← hW1]; exact Whole.new _ _ [_, _]) hn)
  have HB1 := Lib.hid hB1
  have HW1 := Lib.hid hW1
  have HNL : Hid ((us ++ vs).length ≤ 1000) := Lib.hid (by rw [List.length_append]; exact hn)
  have HWF : Hid (∀ x ∈ us ++ vs, NWf x) := Lib.hid fun x hx => (List.mem_append.1 hx).elim (hU x) (hV x)
  have HRR := Lib.hid hr
  clear hA hB hU hV hn hr hB1 hW1
  go_enter Try.func47, Try.ntmps47
  go_wp2_with fail
  try rw [HW1.out]
  refine KC.out.mono ?_
  clear KC
  rintro e w2 ⟨A', c', rfl, hrow, hB2⟩
  have hrow2 := Lib.hid hrow
  have HB2 := Lib.hid (HB1.out.trans (hB2.mono HB1.out.size))
  clear hrow hB2
  generalize us ++ vs = ns at *
  go_wp2_with fail
  refine (values13_any A' ns.length c' w2).mono ?_
  rintro e w3 ⟨rfl, rfl⟩
  obtain ⟨W3, hW3⟩ : ∃ W3, w2.alloc (.cells #[.slice A' ns.length c'] 25) = W3 := ⟨_, rfl⟩
  have hB3 : Below w2.heap.size w2 W3 := by rw [← hW3]; exact below1 _ _
  have hb3 : Whole W3 w2.heap.size 25 [.slice A' ns.length c'] := by rw [← hW3]; exact Whole.new _ _ [_]
  have hs3 : W3.heap.size = w2.heap.size + 1 := by rw [← hW3]; simp
  have K := Lib.hid (clash13_any (w0 := W3) (w := W3) (gf := 67) (lb := #[.pointer (some ⟨w2.heap.size, 0, none⟩)]) (ns := ns) (R := fun k => k < w2.heap.size ∨ k = w2.heap.size)
    (fun W hW => values13_iter (c := c') hrow2.out (by have := HNL.out; omega) (fun k o hk ho => ((hB3.trans (hW.mono hB3.size)).block k hk).trans ho) (hb3.below hW hb3.lt))
    (enters_of Try.func67 (by kernel_rfl) rfl) (fun k hk => by rcases hk with hk | hk <;> omega) HWF.out (by have := HNL.out; omega) HRR.out)
  have HB3 := Lib.hid (HB2.out.trans (hB3.mono HB2.out.size))
  have HW3 := Lib.hid hW3
  clear hB3 hb3 hs3 hW3
  go_wp2_with fail
  try rw [HW3.out]
  refine K.out.mono ?_
  clear K
  rintro e w4 ⟨rfl, hB4⟩
  have HB4 := Lib.hid (HB3.out.trans (hB4.mono HB3.out.size))
  clear hB4
  go_wp2_with fail
  go_ret
  exact ⟨rfl, HB4.out⟩

end Go.Proofs.Ytljpiafopbfdlaa
namespace Go.Proofs.Ytljpiafopbfdlaa
open Go.RowKit Go.Shelf
set_option linter.unusedVariables false
set_option linter.unusedSimpArgs false

/-- It stays where a row of the call's own grows. -/
def Stays9 (gb : Nat) (E : World → Prop) : Prop := ∀ W W' k, E W → W.grownBy W' (some k) → gb ≤ k → E W'
theorem whole_diff {W : World} {a b : Nat} {t t' : TypeId} {cs cs' : List Value} (h : Whole W a t cs) (k : Whole W b t' cs') (he : cs.length ≠ cs'.length) : a ≠ b := by
  rintro rfl
  have h5 := h.symm.trans k
  simp only [Option.some.injEq, Obj.cells.injEq] at h5
  exact he (by have := congrArg Array.size h5.1; simpa using this)
section
variable {α : Type} {f : α → List Value} {size : Nat}
end
theorem Closed.owns (gb e size n : Nat) (v : Value) (xs : List Value) : Closed fun W => W.ownsRow gb e size v n xs := fun _ _ h hb => owns_keep h hb
end Go.Proofs.Ytljpiafopbfdlaa
namespace Go.Proofs.Ytljpiafopbfdlaa
open Go.RowKit Go.Shelf
set_option linter.unusedVariables false
set_option linter.unusedSimpArgs false

section
variable {α : Type} {f : α → List Value} {size : Nat}
theorem first11 (hf : ∀ x, (f x).length = size) (one : ∀ x, ∀ u ∈ f x, u.oneCell' = true) (t e : TypeId) (z : Value) (bytes : Nat) (ht : Try.prog.underlying t = some (.slice e)) (hi : (Try.prog.info? e).map (fun i => (i.zero, i.size, i.bytes)) = some (some z, size, bytes)) (hz : z.cells.size = size) (hsz : 0 < size) (hby : bytes ≤ 100)
    {w0 W : World} {g0 : Nat} (hB : Below w0.heap.size w0 W) (h0 : Whole W g0 e []) (hg0 : w0.heap.size ≤ g0) (l : List α) (A : Option Addr) (c : Nat) (hr : Row W W.heap.size A (l.flatMap f)) (hl : l.length ≤ 1000) :
    ∃ A' c' w', (Builtin.append_ #[t, t] t #[.slice (some ⟨g0, 0, none⟩) 0 0, .slice A l.length c]).run Try.prog W = .ok (.slice A' l.length c') w' ∧ Below w0.heap.size w0 w' ∧ w'.ownsRow w0.heap.size e size (.slice A' l.length c') l.length (l.flatMap f) ∧ ∀ g1 t1 us, g1 ≠ g0 → Whole W g1 t1 us → Whole w' g1 t1 us := by
  obtain ⟨v', w', h1, h2, h3⟩ := appendG hf one t e z bytes ht hi hz hsz hby w0.heap.size 0 _ [] l A c W.heap.size W (owns_empty W e w0.heap.size g0 hg0 h0) (.inl (by simp)) hr (by omega) hl (by have := h0.lt; omega)
  rw [Nat.zero_add, List.nil_append] at h2
  obtain ⟨A', c', rfl, _⟩ := owns_read h2
  exact ⟨A', c', w', h1, hB.grown h3 hB.size (fun k e => by cases e; exact hg0), h2, fun g1 t1 us hn hw => hw.kept h3 (by intro e; cases e; exact hn rfl)⟩
theorem next11 (hf : ∀ x, (f x).length = size) (one : ∀ x, ∀ u ∈ f x, u.oneCell' = true) (t e : TypeId) (z : Value) (bytes : Nat) (ht : Try.prog.underlying t = some (.slice e)) (hi : (Try.prog.info? e).map (fun i => (i.zero, i.size, i.bytes)) = some (some z, size, bytes)) (hz : z.cells.size = size) (hsz : 0 < size) (hby : bytes ≤ 100)
    {w0 W : World} {g1 : Nat} (hB : Below w0.heap.size w0 W) {l : List α} {A : Option Addr} {c : Nat} (hown : W.ownsRow w0.heap.size e size (.slice A l.length c) l.length (l.flatMap f)) {y : α} (h1 : Whole W g1 e (f y)) (hl : l.length ≤ 1000) :
    ∃ A' c' w', (Builtin.append_ #[t, t] t #[.slice A l.length c, .slice (some ⟨g1, 0, none⟩) 1 1]).run Try.prog W = .ok (.slice A' (l.length + 1) c') w' ∧ Below w0.heap.size w0 w' ∧ Row w' w'.heap.size A' ((l ++ [y]).flatMap f) ∧ l.length + 1 ≤ c' := by
  obtain ⟨v', w', h2, h3, h4⟩ := appendG hf one t e z bytes ht hi hz hsz hby w0.heap.size l.length _ (l.flatMap f) [y] (some ⟨g1, 0, none⟩) 1 (g1 + 1) W hown (.inr (by simp)) (by simpa using h1.row (Nat.lt_succ_self g1)) hl (by simp) hB.size
  have e2 : (l ++ [y]).flatMap f = l.flatMap f ++ [y].flatMap f := List.flatMap_append
  rw [← e2] at h3
  obtain ⟨A', c', rfl, hr⟩ := owns_read h3
  refine ⟨A', c', w', h2, hB.grown h4 hB.size (fun k e => (hown.lt k e).1), hr, ?_⟩
  rcases h3.2 with ⟨_, e⟩ | ⟨g, cap, cur, e, _, _, h5, _⟩
  · simp at e
  · injection e with _ _ e3
    rw [e3]
    exact h5
end
abbrev intCells (v : Int) : List Value := [.int .i64 v]
theorem nums_flat (vs : List Int) : vs.flatMap intCells = nums .i64 vs := by
  unfold nums
  induction vs with
  | nil => rfl
  | cons v vs ih => rw [List.flatMap_cons, ih]; rfl
theorem oneInt (v : Int) : ∀ u ∈ intCells v, u.oneCell' = true := by intro u hu; simp at hu; subst hu; rfl
theorem infoInt : (Try.prog.info? 3).map (fun i => (i.zero, i.size, i.bytes)) = some (some (.int .i64 0), 1, 8) := by kernel_rfl
end Go.Proofs.Ytljpiafopbfdlaa
