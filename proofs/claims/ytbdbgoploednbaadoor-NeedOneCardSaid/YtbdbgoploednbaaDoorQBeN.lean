/- Rows of needs: the same?, one more; what a step wants, by the document's own answer. -/
import Derived.Test.YtbdbgoploednbaaDoorQBeR
import Derived.Test.YtbdbgoploednbaaDoorQLayOneM
import Derived.Test.YtbdbgoploednbaaDoorQLayTellsM
namespace Go.Proofs.YtbdbgoploednbaaDoor
open Go.RowKit Go.Shelf
set_option linter.unusedVariables false
set_option linter.unusedSimpArgs false

set_option maxHeartbeats 1000000 in
theorem eq_need (w : World) (a b c a' b' c' : Int) : (Op.equalIn 10000 46 (stpV a b c) (stpV a' b' c')).run Tryd.prog w = .ok (a == a' && (b == b' && c == c')) w := by
  cases h1 : (a == a') <;> cases h2 : (b == b') <;> cases h3 : (c == c') <;> go_simp
theorem neq_needD (w : World) (a b c a' b' c' : Int) : (binOp .neq 46 (stpV a b c) (stpV a' b' c')).run Tryd.prog w = .ok (.bool (!decide ((a, b, c) = (a', b', c')))) w := by
  rw [run_neq_struct, eq_need]
  have : (a == a' && (b == b' && c == c')) = decide ((a, b, c) = (a', b', c')) := by rw [Bool.eq_iff_iff]; simp
  rw [this]
  rfl
section
variable {P : World → Prop} {w : World}
end
theorem infoNeed : (Tryd.prog.info? 46).map (fun i => (i.zero, i.size, i.bytes)) = some (some (.agg #[.int .i64 0, .int .i64 0, .int .i64 0]), 3, 24) := by kernel_rfl
theorem oneNeed (x : Int × Int × Int) : ∀ u ∈ needCells x, u.oneCell' = true := by intro u hu; simp at hu; rcases hu with rfl | rfl | rfl <;> rfl
/-- append(v, x), v a row of needs of the call's own, with what is told of the block. -/
theorem append_need (base n : Nat) (v : Value) (xs : List Value) (x : Int × Int × Int) (w : World) (a : Nat) (hown : w.ownsRow base 46 3 v n xs) (hc : Whole w a 46 (needCells x)) (hn : n ≤ 1000) (hbase : base ≤ w.heap.size) :
    ∃ v' w', (Builtin.append_ #[33, 33] 33 #[v, .slice (some ⟨a, 0, none⟩) 1 1]).run Tryd.prog w = .ok v' w' ∧ w'.ownsRow base 46 3 v' (n + 1) (xs ++ needCells x) ∧ w.grownBy w' v.ownBlock ∧ Below base w w' ∧ (v'.ownBlock = v.ownBlock ∨ v'.ownBlock = some w.heap.size) := by
  obtain ⟨i, i1, i2, i3, i4⟩ := info_parts infoNeed
  obtain ⟨v', w', r1, r2, r3, r4, r5⟩ := run_append_own_at (P := Tryd.prog) w base 33 33 46 i (.agg #[.int .i64 0, .int .i64 0, .int .i64 0]) 3 24 Tryd.underlying33 i1 i2 i3 i4 rfl (by omega) v n xs hown ⟨a, 0, none⟩ 1 1 (needCells x) rfl (row_add (hc.row hc.lt)) (oneNeed x) (by unfold maxLen; omega) (by omega) hbase
  exact ⟨v', w', r1, r2, r3, (Below.refl base w).grown r3 hbase (fun k e => (hown.lt k e).1), r5⟩
/-- What is wanted when j flanks have been looked at. -/
def upTo (l : Lay) (s i o k : Int) (j : Nat) : List (Int × Int × Int) := firstV l s i o k ++ ((l.flanks.take j).filter (isFlk l s i o)).map (fun f => (f.2.2.1, f.2.2.2, k))
theorem upTo_zero (l : Lay) (s i o k : Int) : upTo l s i o k 0 = firstV l s i o k := by simp [upTo]
theorem upTo_yes {l : Lay} {s i o k : Int} {j : Nat} {f : Int × Int × Int × Int} (h : l.flanks[j]? = some f) (hp : isFlk l s i o f = true) : upTo l s i o k (j + 1) = upTo l s i o k j ++ [(f.2.2.1, f.2.2.2, k)] := by
  unfold upTo
  rw [List.take_add_one, h, Option.toList_some, List.filter_append, List.filter_cons_of_pos hp, List.filter_nil, List.map_append, List.append_assoc]
  rfl
theorem upTo_no {l : Lay} {s i o k : Int} {j : Nat} {f : Int × Int × Int × Int} (h : l.flanks[j]? = some f) (hp : isFlk l s i o f = false) : upTo l s i o k (j + 1) = upTo l s i o k j := by
  unfold upTo
  rw [List.take_add_one, h, Option.toList_some, List.filter_append, List.filter_cons_of_neg (by simp [hp]), List.filter_nil, List.append_nil]
theorem upTo_all (l : Lay) (s i o k : Int) : upTo l s i o k l.flanks.length = wantsV l s i o k := by unfold upTo wantsV flanksV; rw [List.take_length]
theorem first_le (l : Lay) (s i o k : Int) : (firstV l s i o k).length ≤ 1 := by unfold firstV; split <;> simp
theorem upTo_le (l : Lay) (s i o k : Int) (j : Nat) : (upTo l s i o k j).length ≤ j + 1 := by
  unfold upTo
  have h1 := first_le l s i o k
  have h2 := List.length_filter_le (isFlk l s i o) (l.flanks.take j)
  have h3 : (l.flanks.take j).length ≤ j := by rw [List.length_take]; omega
  rw [List.length_append, List.length_map]
  omega
theorem wants_none {l : Lay} {s i o k : Int} (h : stepV l s i o = false) : wantsV l s i o k = [] := by
  unfold wantsV firstV pointV flanksV
  have : (fun f => isFlk l s i o f) = fun _ => false := funext fun f => by unfold isFlk; rw [h]; rfl
  rw [show isFlk l s i o = fun _ => false from this, h]
  simp
theorem upTo_none {l : Lay} {s i o k : Int} {j : Nat} (h : stepV l s i o = false) : upTo l s i o k j = wantsV l s i o k := by
  unfold wantsV upTo flanksV
  rw [show isFlk l s i o = fun _ => false from funext fun f => by unfold isFlk; rw [h]; rfl, List.filter_eq_nil_iff.2 (by simp), List.filter_eq_nil_iff.2 (by simp)]
/-- Two boxes that lie on wherever what is turned lies behind them. -/
theorem keep_two {w : World} (t t' : TypeId) (vs us : List Value) :
    ∃ Q : World → Prop, Hid (Closed Q) ∧ Hid (∀ W, Q W → Below w.heap.size w W) ∧ Hid (∀ W, Q W → Whole W w.heap.size t vs) ∧ Hid (∀ W, Q W → Whole W (w.heap.size + 1) t' us) ∧ Hid (∀ W W', Q W → Below (w.heap.size + 2) W W' → Q W') ∧ Q ((w.alloc (.cells vs.toArray t)).alloc (.cells us.toArray t')) :=
  ⟨fun W => (Below w.heap.size w W ∧ Whole W w.heap.size t vs) ∧ Whole W (w.heap.size + 1) t' us, Lib.hid (((Closed.below w).and (Closed.whole _ t vs)).and (Closed.whole _ t' us)), Lib.hid (fun _ h => h.1.1), Lib.hid (fun _ h => h.1.2), Lib.hid (fun _ h => h.2),
    Lib.hid (fun W W' h hb => ⟨⟨h.1.1.trans (hb.mono (by omega)), h.1.2.below hb (by omega)⟩, h.2.below hb (by omega)⟩), ⟨below2 w _ _, (Whole.new w t vs).alloc _⟩, Whole.new_at _ t' us _ (by simp)⟩
set_option maxRecDepth 100000 in
set_option maxHeartbeats 8000000 in
theorem wantsR_any {l : Lay} {w : World} (hL : Lies l w) (hF : l.flanks.length ≤ 900) (s i o k : Int) {ns : List (Int × Int × Int)} (hs : wantsV l s i o k = ns) :
    Calls Tryd.prog 24 #[l.val, stpV s i o, .int .i64 k] w fun e w' => ∃ v, e = .returned v ∧ w'.ownsRow w.heap.size 46 3 v ns.length (ns.flatMap needCells) ∧ Below w.heap.size w w' := by
  subst hs
  obtain ⟨Q, HQ, HQb, HQl, HQv, HQG, hq⟩ := keep_two (w := w) 29 56 l.cells (stpCells (s, i, o))
  have HSQ : Hid (∀ W, Q W → w.heap.size + 2 ≤ W.heap.size) := Lib.hid fun W hW => by have := (HQv.out W hW).lt; omega
  have HTW : Hid (∀ W, Q W → Lies l W) := Lib.hid fun W hW => Lies.closed l _ _ hL (HQb.out W hW)
  obtain ⟨⟨p, pos, ok⟩, hpv⟩ : ∃ r, pointV l s i o = r := ⟨_, rfl⟩
  have KP := Lib.hid (fun W hW => keepR HQ.out (pointR_any (w := W) (HTW.out W hW) s i o hpv) hW)
  obtain ⟨st, hst⟩ : ∃ st, stepV l s i o = st := ⟨_, rfl⟩
  obtain ⟨wy, hwy⟩ : ∃ wy, wayK (kindV l s) i o = wy := ⟨_, rfl⟩
  have KS : Hid (∀ W, Q W → Calls Tryd.prog 23 #[l.val, stpV s i o] W fun e w' => e = .returned (.tuple #[.int .i64 wy, .bool st]) ∧ Below W.heap.size W w' ∧ Q w') := Lib.hid (fun W hW => (stepR_B (w := W) (HTW.out W hW) s i o hwy hst).mono fun e w' h => ⟨h.1, h.2, HQ.out _ _ hW h.2⟩)
  have HFV : Hid (firstV l s i o k = if ok = true then [(p, pos, k)] else []) := Lib.hid (by unfold firstV; rw [hpv])
  have HIF : Hid (∀ f, isFlk l s i o f = (st && (decide (f.1 = s) && decide (f.2.1 = wy)))) := Lib.hid (fun f => by unfold isFlk; rw [hst, hwy])
  have HWN : Hid (∀ j, st = false → upTo l s i o k j = wantsV l s i o k) := Lib.hid (fun j h => upTo_none (hst.trans h))
  clear hL hpv hst hwy
  have hW := hq
  have m0 := HQl.out _ hW
  have x0 := m0.cell_at 0 rfl
  have x1 := m0.cell_at 1 rfl
  have x2 := m0.cell_at 2 rfl
  have x3 := m0.cell_at 3 rfl
  have x4 := m0.cell_at 4 rfl
  have x5 := m0.cell_at 5 rfl
  have x6 := m0.cell_at 6 rfl
  have x7 := m0.cell_at 7 rfl
  have x8 := m0.cell_at 8 rfl
  have x9 := m0.cell_at 9 rfl
  have x10 := m0.cell_at 10 rfl
  clear m0
  have m1 := HQv.out _ hW
  have v0 := m1.cell_at 0 rfl
  have v1 := m1.cell_at 1 rfl
  have v2 := m1.cell_at 2 rfl
  clear m1
  clear hW
  go_enter Tryd.func24, Tryd.ntmps24
  go_wp2_with fail
  refine (KP.out _ hq).mono ?_
  clear x0 x1 x2 x3 x4 x5 x6 x7 x8 x9 x10 v0 v1 v2 hq KP
  rintro e w1 ⟨rfl, hq⟩
  cases ok
  · have HFI : Hid (upTo l s i o k 0 = []) := Lib.hid (by rw [upTo_zero, HFV.out]; rfl)
    have hW := hq
    have m0 := HQl.out _ hW
    have x0 := m0.cell_at 0 rfl
    have x1 := m0.cell_at 1 rfl
    have x2 := m0.cell_at 2 rfl
    have x3 := m0.cell_at 3 rfl
    have x4 := m0.cell_at 4 rfl
    have x5 := m0.cell_at 5 rfl
    have x6 := m0.cell_at 6 rfl
    have x7 := m0.cell_at 7 rfl
    have x8 := m0.cell_at 8 rfl
    have x9 := m0.cell_at 9 rfl
    have x10 := m0.cell_at 10 rfl
    clear m0
    have m1 := HQv.out _ hW
    have v0 := m1.cell_at 0 rfl
    have v1 := m1.cell_at 1 rfl
    have v2 := m1.cell_at 2 rfl
    clear m1
    clear hW
    go_wp2_with fail
    refine (KS.out _ hq).mono ?_
    clear x0 x1 x2 x3 x4 x5 x6 x7 x8 x9 x10 v0 v1 v2 hq KS
    rintro e w2 ⟨rfl, _, hq⟩
    have HST : Hid (w2.ownsRow (w.heap.size + 2) 46 3 (.slice none 0 0) (upTo l s i o k 0).length ((upTo l s i o k 0).flatMap needCells)) := Lib.hid (by rw [HFI.out]; exact World.ownsRow_nil _ _ _ _)
    have HST0 := Lib.hid hq
    clear hq
    go_wp2_with fail
    go_loopw [7, 13] (fun v i' wr => ∃ j : Nat, j ≤ l.flanks.length ∧ i' = .int .i64 j ∧ Hid (wr.ownsRow (w.heap.size + 2) 46 3 v (upTo l s i o k j).length ((upTo l s i o k j).flatMap needCells) ∧ Q wr)) (fun _ i' _ => l.flanks.length - (intOf i').toNat)
    case atStart => exact ⟨0, by omega, rfl, Lib.hid ⟨HST.out, HST0.out⟩⟩
    case round =>
      clear HST HST0
      obtain ⟨j, hj, rfl, HM⟩ := hrel
      obtain ⟨wa, rfl⟩ : ∃ W, W = wr := ⟨wr, rfl⟩
      have hq := HM.out.2
      have x3 := (HQl.out _ hq).cell_at 3 rfl
      by_cases hlt : j < l.flanks.length
      · have hlt' : (j : Int) < l.flanks.length := by omega
        cases st
        · have HO : Hid (wa.ownsRow w.heap.size 46 3 _ (wantsV l s i o k).length ((wantsV l s i o k).flatMap needCells) ∧ Below w.heap.size w wa) := Lib.hid (by rw [← HWN.out j rfl]; exact ⟨owns_base HM.out.1 (by omega), HQb.out _ hq⟩)
          clear hq HM
          go_wp2_with fail
          go_ret
          exact ⟨_, rfl, HO.out⟩
        obtain ⟨⟨f1, f2, f3, f4⟩, hx⟩ : ∃ x, l.flanks[j]? = some x := ⟨_, List.getElem?_eq_getElem hlt⟩
        obtain ⟨b, off, hA, _, hc0, hc⟩ := (HTW.out _ hq).flanks.nth (n := 4) (fun _ => rfl) (by omega) hx
        have HX := Lib.hid hx
        have c0 := hc0 j _ _ hx rfl
        have c1 := hc j _ 1 _ hx rfl
        have c2 := hc j _ 2 _ hx rfl
        have c3 := hc j _ 3 _ hx rfl
        have hb4 := below1 wa (.cells #[.int .i64 f1, .int .i64 f2, .int .i64 f3, .int .i64 f4] 59)
        have hwi : IntKind.i64.wrap ((j : Int) + 1) = (j : Int) + 1 := IntWalk.i64_in _ (by omega)
        rw [hA] at x3
        have HUL : Hid ((upTo l s i o k j).length ≤ 1000) := Lib.hid (by have := upTo_le l s i o k j; omega)
        obtain ⟨gf, hgf⟩ : ∃ gf, wa.heap.size = gf := ⟨_, rfl⟩
        obtain ⟨W1, hW1⟩ : ∃ W1, wa.alloc (.cells #[.int .i64 f1, .int .i64 f2, .int .i64 f3, .int .i64 f4] 59) = W1 := ⟨_, rfl⟩
        have hf : Whole W1 gf 59 [.int .i64 f1, .int .i64 f2, .int .i64 f3, .int .i64 f4] := by rw [← hW1]; exact Whole.new_at wa _ [.int .i64 f1, .int .i64 f2, .int .i64 f3, .int .i64 f4] gf hgf.symm
        have HB1 : Hid (Below wa.heap.size wa W1) := Lib.hid (by rw [← hW1]; exact below1 _ _)
        rw [hW1] at hb4
        have HH : Hid (Q W1) := Lib.hid (HQ.out _ _ hq HB1.out)
        have HFF := Lib.hid hf
        have HHG := Lib.hid (And.intro hgf hW1)
        clear hx hc0 hc hA hq hb4 hf hgf hW1
        go_upto_region 10 with (fail)
        try rw [HHG.out.2]
        try rw [HHG.out.1]
        clear x3 c0 c1 c2 c3
        have v0 := (HQv.out _ HH.out).cell_at 0 rfl
        have d0 := HFF.out.cell_at 0 rfl
        have d1 := HFF.out.cell_at 1 rfl
        by_cases e1 : f1 = s
        · by_cases e2 : f2 = wy
          · have HE := Lib.hid (upTo_yes (k := k) HX.out (by rw [HIF.out]; simp [e1, e2]))
            simp only at HE
            have d2 := HFF.out.cell_at 2 rfl
            have d3 := HFF.out.cell_at 3 rfl
            obtain ⟨v', w3, hrun, hown', _, hB3, _⟩ := append_need (w.heap.size + 2) _ _ _ (f3, f4, k) (W1.alloc (.cells #[.int .i64 f3, .int .i64 f4, .int .i64 k] 46)) W1.heap.size (owns_keep (owns_keep HM.out.1 HB1.out) (below1 _ _)) (Whole.new W1 _ (needCells (f3, f4, k))) HUL.out (by have := HSQ.out _ HH.out; simp; omega)
            have HO : Hid (w3.ownsRow (w.heap.size + 2) 46 3 v' (upTo l s i o k (j + 1)).length ((upTo l s i o k (j + 1)).flatMap needCells)) := Lib.hid (by rw [HE.out, List.length_append, List.flatMap_append]; simpa using hown')
            have HB : Hid (Q w3) := Lib.hid (HQG.out _ _ (HQ.out _ _ HH.out (below1 W1 _)) hB3)
            subst e1 e2
            clear hown' hB3 HE
            go_wp2_with (at_builtin; refine list_append rfl (.tmp 62) (.tmp 69) 33 rfl hrun ?_)
            go_roundw
            case rel => exact ⟨j + 1, hlt, by go_num, Lib.hid ⟨HO.out, HB.out⟩⟩
            case measure => simp [intOf]; omega
          · have HE := Lib.hid (upTo_no (k := k) HX.out (by rw [HIF.out]; simp [e2]))
            have HO : Hid (W1.ownsRow (w.heap.size + 2) 46 3 _ (upTo l s i o k (j + 1)).length ((upTo l s i o k (j + 1)).flatMap needCells) ∧ Q W1) := Lib.hid (by rw [HE.out]; exact ⟨owns_keep HM.out.1 HB1.out, HH.out⟩)
            have q1 : (f1 == s) = true := by simp [e1]
            have q2 : (f2 == wy) = false := by simp [e2]
            clear e1 e2 HE
            go_wp2_with fail
            go_roundw
            case rel => exact ⟨j + 1, hlt, by go_num, HO⟩
            case measure => simp [intOf]; omega
        · have HE := Lib.hid (upTo_no (k := k) HX.out (by rw [HIF.out]; simp [e1]))
          have HO : Hid (W1.ownsRow (w.heap.size + 2) 46 3 _ (upTo l s i o k (j + 1)).length ((upTo l s i o k (j + 1)).flatMap needCells) ∧ Q W1) := Lib.hid (by rw [HE.out]; exact ⟨owns_keep HM.out.1 HB1.out, HH.out⟩)
          have q1 : (f1 == s) = false := by simp [e1]
          clear e1 HE
          go_wp2_with fail
          go_roundw
          case rel => exact ⟨j + 1, hlt, by go_num, HO⟩
          case measure => simp [intOf]; omega
      · obtain rfl : j = l.flanks.length := by omega
        have HO : Hid (wa.ownsRow w.heap.size 46 3 _ (wantsV l s i o k).length ((wantsV l s i o k).flatMap needCells) ∧ Below w.heap.size w wa) := Lib.hid (by rw [← upTo_all]; exact ⟨owns_base HM.out.1 (by omega), HQb.out _ hq⟩)
        clear hq HM
        go_wp2_with fail
        go_ret
        exact ⟨_, rfl, HO.out⟩
  · have HFI : Hid (upTo l s i o k 0 = [(p, pos, k)]) := Lib.hid (by rw [upTo_zero, HFV.out]; rfl)
    have hs1 := HSQ.out _ hq
    obtain ⟨v', w3, hrun, hown', _, hB3, _⟩ := append_need (w.heap.size + 2) 0 (.slice none 0 0) [] (p, pos, k) (w1.alloc (.cells #[.int .i64 p, .int .i64 pos, .int .i64 k] 46)) w1.heap.size (World.ownsRow_nil _ _ _ _) (Whole.new w1 _ (needCells (p, pos, k))) (by omega) (by simp; omega)
    have HO3 : Hid (w3.ownsRow (w.heap.size + 2) 46 3 v' (upTo l s i o k 0).length ((upTo l s i o k 0).flatMap needCells)) := Lib.hid (by rw [HFI.out]; simpa using hown')
    have hq := HQG.out _ _ (HQ.out _ _ hq (below1 w1 (.cells #[.int .i64 p, .int .i64 pos, .int .i64 k] 46))) hB3
    clear hown' hB3 hs1
    have hW := hq
    have m0 := HQl.out _ hW
    have x0 := m0.cell_at 0 rfl
    have x1 := m0.cell_at 1 rfl
    have x2 := m0.cell_at 2 rfl
    have x3 := m0.cell_at 3 rfl
    have x4 := m0.cell_at 4 rfl
    have x5 := m0.cell_at 5 rfl
    have x6 := m0.cell_at 6 rfl
    have x7 := m0.cell_at 7 rfl
    have x8 := m0.cell_at 8 rfl
    have x9 := m0.cell_at 9 rfl
    have x10 := m0.cell_at 10 rfl
    clear m0
    have m1 := HQv.out _ hW
    have v0 := m1.cell_at 0 rfl
    have v1 := m1.cell_at 1 rfl
    have v2 := m1.cell_at 2 rfl
    clear m1
    clear hW
    go_wp2_with (at_builtin; refine list_append rfl (.tmp 23) (.tmp 28) 33 rfl hrun ?_)
    refine (KS.out _ hq).mono ?_
    clear x0 x1 x2 x3 x4 x5 x6 x7 x8 x9 x10 v0 v1 v2 hq KS
    rintro e w2 ⟨rfl, hb2, hq⟩
    have HST : Hid (w2.ownsRow (w.heap.size + 2) 46 3 v' (upTo l s i o k 0).length ((upTo l s i o k 0).flatMap needCells)) := Lib.hid (owns_keep HO3.out hb2)
    clear hb2
    have HST0 := Lib.hid hq
    clear hq
    go_wp2_with fail
    go_loopw [7, 13] (fun v i' wr => ∃ j : Nat, j ≤ l.flanks.length ∧ i' = .int .i64 j ∧ Hid (wr.ownsRow (w.heap.size + 2) 46 3 v (upTo l s i o k j).length ((upTo l s i o k j).flatMap needCells) ∧ Q wr)) (fun _ i' _ => l.flanks.length - (intOf i').toNat)
    case atStart => exact ⟨0, by omega, rfl, Lib.hid ⟨HST.out, HST0.out⟩⟩
    case round =>
      clear HST HST0
      obtain ⟨j, hj, rfl, HM⟩ := hrel
      obtain ⟨wa, rfl⟩ : ∃ W, W = wr := ⟨wr, rfl⟩
      have hq := HM.out.2
      have x3 := (HQl.out _ hq).cell_at 3 rfl
      by_cases hlt : j < l.flanks.length
      · have hlt' : (j : Int) < l.flanks.length := by omega
        cases st
        · have HO : Hid (wa.ownsRow w.heap.size 46 3 _ (wantsV l s i o k).length ((wantsV l s i o k).flatMap needCells) ∧ Below w.heap.size w wa) := Lib.hid (by rw [← HWN.out j rfl]; exact ⟨owns_base HM.out.1 (by omega), HQb.out _ hq⟩)
          clear hq HM
          go_wp2_with fail
          go_ret
          exact ⟨_, rfl, HO.out⟩
        obtain ⟨⟨f1, f2, f3, f4⟩, hx⟩ : ∃ x, l.flanks[j]? = some x := ⟨_, List.getElem?_eq_getElem hlt⟩
        obtain ⟨b, off, hA, _, hc0, hc⟩ := (HTW.out _ hq).flanks.nth (n := 4) (fun _ => rfl) (by omega) hx
        have HX := Lib.hid hx
        have c0 := hc0 j _ _ hx rfl
        have c1 := hc j _ 1 _ hx rfl
        have c2 := hc j _ 2 _ hx rfl
        have c3 := hc j _ 3 _ hx rfl
        have hb4 := below1 wa (.cells #[.int .i64 f1, .int .i64 f2, .int .i64 f3, .int .i64 f4] 59)
        have hwi : IntKind.i64.wrap ((j : Int) + 1) = (j : Int) + 1 := IntWalk.i64_in _ (by omega)
        rw [hA] at x3
        have HUL : Hid ((upTo l s i o k j).length ≤ 1000) := Lib.hid (by have := upTo_le l s i o k j; omega)
        obtain ⟨gf, hgf⟩ : ∃ gf, wa.heap.size = gf := ⟨_, rfl⟩
        obtain ⟨W1, hW1⟩ : ∃ W1, wa.alloc (.cells #[.int .i64 f1, .int .i64 f2, .int .i64 f3, .int .i64 f4] 59) = W1 := ⟨_, rfl⟩
        have hf : Whole W1 gf 59 [.int .i64 f1, .int .i64 f2, .int .i64 f3, .int .i64 f4] := by rw [← hW1]; exact Whole.new_at wa _ [.int .i64 f1, .int .i64 f2, .int .i64 f3, .int .i64 f4] gf hgf.symm
        have HB1 : Hid (Below wa.heap.size wa W1) := Lib.hid (by rw [← hW1]; exact below1 _ _)
        rw [hW1] at hb4
        have HH : Hid (Q W1) := Lib.hid (HQ.out _ _ hq HB1.out)
        have HFF := Lib.hid hf
        have HHG := Lib.hid (And.intro hgf hW1)
        clear hx hc0 hc hA hq hb4 hf hgf hW1
        go_upto_region 10 with (fail)
        try rw [HHG.out.2]
        try rw [HHG.out.1]
        clear x3 c0 c1 c2 c3
        have v0 := (HQv.out _ HH.out).cell_at 0 rfl
        have d0 := HFF.out.cell_at 0 rfl
        have d1 := HFF.out.cell_at 1 rfl
        by_cases e1 : f1 = s
        · by_cases e2 : f2 = wy
          · have HE := Lib.hid (upTo_yes (k := k) HX.out (by rw [HIF.out]; simp [e1, e2]))
            simp only at HE
            have d2 := HFF.out.cell_at 2 rfl
            have d3 := HFF.out.cell_at 3 rfl
            obtain ⟨v', w3, hrun, hown', _, hB3, _⟩ := append_need (w.heap.size + 2) _ _ _ (f3, f4, k) (W1.alloc (.cells #[.int .i64 f3, .int .i64 f4, .int .i64 k] 46)) W1.heap.size (owns_keep (owns_keep HM.out.1 HB1.out) (below1 _ _)) (Whole.new W1 _ (needCells (f3, f4, k))) HUL.out (by have := HSQ.out _ HH.out; simp; omega)
            have HO : Hid (w3.ownsRow (w.heap.size + 2) 46 3 v' (upTo l s i o k (j + 1)).length ((upTo l s i o k (j + 1)).flatMap needCells)) := Lib.hid (by rw [HE.out, List.length_append, List.flatMap_append]; simpa using hown')
            have HB : Hid (Q w3) := Lib.hid (HQG.out _ _ (HQ.out _ _ HH.out (below1 W1 _)) hB3)
            subst e1 e2
            clear hown' hB3 HE
            go_wp2_with (at_builtin; refine list_append rfl (.tmp 62) (.tmp 69) 33 rfl hrun ?_)
            go_roundw
            case rel => exact ⟨j + 1, hlt, by go_num, Lib.hid ⟨HO.out, HB.out⟩⟩
            case measure => simp [intOf]; omega
          · have HE := Lib.hid (upTo_no (k := k) HX.out (by rw [HIF.out]; simp [e2]))
            have HO : Hid (W1.ownsRow (w.heap.size + 2) 46 3 _ (upTo l s i o k (j + 1)).length ((upTo l s i o k (j + 1)).flatMap needCells) ∧ Q W1) := Lib.hid (by rw [HE.out]; exact ⟨owns_keep HM.out.1 HB1.out, HH.out⟩)
            have q1 : (f1 == s) = true := by simp [e1]
            have q2 : (f2 == wy) = false := by simp [e2]
            clear e1 e2 HE
            go_wp2_with fail
            go_roundw
            case rel => exact ⟨j + 1, hlt, by go_num, HO⟩
            case measure => simp [intOf]; omega
        · have HE := Lib.hid (upTo_no (k := k) HX.out (by rw [HIF.out]; simp [e1]))
          have HO : Hid (W1.ownsRow (w.heap.size + 2) 46 3 _ (upTo l s i o k (j + 1)).length ((upTo l s i o k (j + 1)).flatMap needCells) ∧ Q W1) := Lib.hid (by rw [HE.out]; exact ⟨owns_keep HM.out.1 HB1.out, HH.out⟩)
          have q1 : (f1 == s) = false := by simp [e1]
          clear e1 HE
          go_wp2_with fail
          go_roundw
          case rel => exact ⟨j + 1, hlt, by go_num, HO⟩
          case measure => simp [intOf]; omega
      · obtain rfl : j = l.flanks.length := by omega
        have HO : Hid (wa.ownsRow w.heap.size 46 3 _ (wantsV l s i o k).length ((wantsV l s i o k).flatMap needCells) ∧ Below w.heap.size w wa) := Lib.hid (by rw [← upTo_all]; exact ⟨owns_base HM.out.1 (by omega), HQb.out _ hq⟩)
        clear hq HM
        go_wp2_with fail
        go_ret
        exact ⟨_, rfl, HO.out⟩
end Go.Proofs.YtbdbgoploednbaaDoor
