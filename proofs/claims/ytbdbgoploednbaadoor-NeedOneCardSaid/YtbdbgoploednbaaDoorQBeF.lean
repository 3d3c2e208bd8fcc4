/- Package beyond: the flanks of a step, one by one. -/
import Derived.RangeFuncNested
import Derived.RangeFuncBound
import Derived.RangeFuncCalls
import Derived.RangeFuncLeaves
import Derived.RangeFuncBox
import Derived.Shelf.Abstract
import Derived.Shelf.RegionOpen
import Derived.WalkKit
import Derived.OwnWalkIn
import Derived.TacticsInMore
import Derived.LoopNIn
import Derived.LoopIn
import Derived.WalkMore
import Derived.Test.YtbdbgoploednbaaDoorQBeA
import Derived.Test.YtbdbgoploednbaaDoorQI
import Derived.Test.YtbdbgoploednbaaDoorQLayOneM
namespace Go.Proofs.YtbdbgoploednbaaDoor
open Go.RowKit Go.Shelf
set_option linter.unusedVariables false
set_option linter.unusedSimpArgs false

attribute [local go_sem] Oper.semAt_some

theorem flanks_any (l : Lay) (s i o : Int) (w : World) : Calls Tryd.prog 70 #[l.val, stpV s i o] w fun e w' => e = .returned (.func (.func 82) #[] #[.pointer (some ⟨w.heap.size, 0, none⟩), .pointer (some ⟨w.heap.size + 1, 0, none⟩)]) ∧
    w' = (w.alloc (.cells #[.slice l.As l.secs.length l.cs, .slice l.Ag l.sigs.length l.cg, .slice l.Ae l.exits.length l.ce, .slice l.Af l.flanks.length l.cf, .int .i64 l.t0, .int .i64 l.t1, .int .i64 l.t2, .int .i64 l.t3, .int .i64 l.t4, .int .i64 l.t5, .int .i64 l.t6] 29)).alloc (.cells #[.int .i64 s, .int .i64 i, .int .i64 o] 56) := by
  go_enter Tryd.func70, Tryd.ntmps70
  go_wp2_with fail
  go_ret
  exact ⟨rfl, rfl⟩
theorem filter_hit {α : Type} {p : α → Bool} {l : List α} {j : Nat} {x : α} (h : l[j]? = some x) (hp : p x = true) : (l.drop j).filter p = x :: (l.drop (j + 1)).filter p := by rw [drop_at h, List.filter_cons_of_pos hp]
theorem filter_miss {α : Type} {p : α → Bool} {l : List α} {j : Nat} {x : α} (h : l[j]? = some x) (hp : p x = false) : (l.drop j).filter p = (l.drop (j + 1)).filter p := by rw [drop_at h, List.filter_cons_of_neg (by simp [hp])]

set_option maxRecDepth 100000 in
set_option maxHeartbeats 8000000 in
theorem flanks_iter {wa w0 : World} {g1 g2 : Nat} {l : Lay} {s i o : Int} (hT : Shapes wa) (hL : Lies l wa) (hka : Keeps (· < wa.heap.size) wa w0) (hsa : wa.heap.size ≤ w0.heap.size) (hb1 : Whole w0 g1 29 l.cells) (hb2 : Whole w0 g2 56 (stpCells (s, i, o))) :
    IterU Tryd.prog 82 #[.pointer (some ⟨g1, 0, none⟩), .pointer (some ⟨g2, 0, none⟩)] (fun f : Int × Int × Int × Int => #[(flkV f.1 f.2.1 f.2.2.1 f.2.2.2)]) (flanksV l s i o) (fun k => k < wa.heap.size ∨ (k = g1 ∨ k = g2)) w0 := by
  intro L J Jx W hk0 hRl hJ hJx hY h0
  have hnW : wa.heap.size ≤ W.heap.size := Nat.le_of_not_lt fun hlt => absurd (hRl _ (.inl hlt)) (Nat.lt_irrefl _)
  have HF : Hid (∀ W', Keeps (fun k => k < wa.heap.size ∨ (k = g1 ∨ k = g2)) w0 W' → W.heap.size ≤ W'.heap.size → Shapes W' ∧ Lies l W') := Lib.hid fun W' hk hs =>
    have hk' := hka.trans (hk.sub fun k h => .inl h)
    ⟨hT.keeps hk' (fun _ h => h), hL.keeps hk' (fun _ h => h) (Nat.le_trans hnW hs)⟩
  have HB1 : Hid (∀ W', Keeps (fun k => k < wa.heap.size ∨ (k = g1 ∨ k = g2)) w0 W' → Whole W' g1 29 l.cells) := Lib.hid fun W' hk => hk.whole (.inr (.inl rfl)) hb1
  have HB2 : Hid (∀ W', Keeps (fun k => k < wa.heap.size ∨ (k = g1 ∨ k = g2)) w0 W' → Whole W' g2 56 (stpCells (s, i, o))) := Lib.hid fun W' hk => hk.whole (.inr (.inr rfl)) hb2
  have hnF := hL.nF
  obtain ⟨xs, hxs⟩ : ∃ xs, flanksV l s i o = xs := ⟨_, rfl⟩
  rw [hxs] at hY ⊢
  obtain ⟨B, hB⟩ : ∃ B, W.heap.size = B := ⟨_, rfl⟩
  have hs0 : B ≤ W.heap.size := by omega
  rw [hB] at HF hJ hJx hY
  obtain ⟨st, hst⟩ : ∃ st, stepV l s i o = st := ⟨_, rfl⟩
  obtain ⟨wy, hwy⟩ : ∃ wy, wayK (kindV l s) i o = wy := ⟨_, rfl⟩
  have HXS : Hid (l.flanks.filter (fun f => st && (decide (f.1 = s) && decide (f.2.1 = wy))) = xs) := Lib.hid (by rw [← hxs, ← hst, ← hwy]; rfl)
  obtain ⟨hTw, hLw⟩ := HF.out _ hk0 hs0
  have KS := Lib.hid (step_B hTw hLw s i o hwy hst)
  have m0 := HB1.out _ hk0
  have x0 := m0.cell_at 0 rfl
  have x1 := m0.cell_at 1 rfl
  have x2 := m0.cell_at 2 rfl
  have x3 := m0.cell_at 3 rfl
  have x4 := m0.cell_at 4 rfl
  have x5 := m0.cell_at 5 rfl
  have x6 := m0.cell_at 6 rfl
  have x7 := m0.cell_at 7 rfl
  have x8 := m0.cell_at 8 rfl
  have x9 := m0.cell_at 9 rfl
  have x10 := m0.cell_at 10 rfl
  clear m0
  have m0 := HB2.out _ hk0
  have v0 := m0.cell_at 0 rfl
  have v1 := m0.cell_at 1 rfl
  have v2 := m0.cell_at 2 rfl
  clear m0
  clear hT hL hka hb1 hb2 hRl hxs hnW hB hst hwy hTw hLw
  refine (callsIn_wide (n := 3)).1 ?_
  refine callsIn_of_wp Tryd.func82 rfl trivial ?_ rfl
  simp only [Tryd.ntmps82, List.size_toArray, List.length_cons, List.length_nil, Nat.reduceAdd, Nat.reduceSub, Array.replicate_succ, Array.replicate_zero, List.push_toArray, List.append_toArray, List.nil_append, List.cons_append]
  gi_wp2_with fail
  refine ⟨trivial, (callsIn_wide.2 KS.out).mono ?_⟩
  clear KS x0 x1 x2 x3 x4 x5 x6 x7 x8 x9 x10 v0 v1 v2
  rintro e w1 ⟨rfl, hB1⟩
  have hJ1 := hJ _ _ _ _ h0 (Stays.below hB1)
  have hk1 := hk0.trans (Keeps.below hB1)
  have hs1 := Nat.le_trans hs0 hB1.size
  clear h0 hk0 hs0 hB1
  cases st
  · have HE : Hid (xs.length = 0) := Lib.hid (by rw [← HXS.out]; simp)
    gi_wp2
    refine bodyPost_ret (results_none rfl _ _ _) rfl ?_
    exact ⟨⟨_, rfl⟩, fun _ => False, fun k h => h.elim, .inl (by rw [HE.out]; exact hJ1)⟩
  have x3 := (HB1.out _ hk1).cell_at 3 rfl
  gi_wp2_with fail
  clear x3
  gi_loopw [19] (fun i wr => ∃ (j : Nat) (pre : List (Int × Int × Int × Int)) (U : Nat → Prop), j ≤ l.flanks.length ∧ i = .int .i64 j ∧ J U pre.length wr ∧ (∀ k, U k → k < wr.heap.size) ∧ Keeps (fun k => k < wa.heap.size ∨ (k = g1 ∨ k = g2)) w0 wr ∧ B ≤ wr.heap.size ∧ Hid (pre ++ (l.flanks.drop j).filter (fun f => true && (decide (f.1 = s) && decide (f.2.1 = wy))) = xs))
    (fun i _ => l.flanks.length - (intOf i).toNat)
  case atStart => exact ⟨0, [], fun _ => False, by omega, rfl, hJ1, fun k h => h.elim, hk1, hs1, Lib.hid (by rw [← HXS.out]; rfl)⟩
  case round =>
    clear hJ1 hk1 hs1
    obtain ⟨j, pre, U, hj, rfl, hJj, hUl, hk, hs, HP⟩ := hrel
    by_cases hlt : j < l.flanks.length
    · have hlt' : (j : Int) < l.flanks.length := by omega
      obtain ⟨⟨f1, f2, f3, f4⟩, hx⟩ : ∃ x, l.flanks[j]? = some x := ⟨_, List.getElem?_eq_getElem hlt⟩
      obtain ⟨b, off, hA, _, hc0, hc⟩ := (HF.out _ hk hs).2.flanks.nth (n := 4) (fun _ => rfl) (by omega) hx
      have HX := Lib.hid hx
      have c0 := hc0 j _ _ hx rfl
      have c1 := hc j _ 1 _ hx rfl
      have c2 := hc j _ 2 _ hx rfl
      have c3 := hc j _ 3 _ hx rfl
      clear hx hc0 hc
      have hb4 := below1 wr (.cells #[.int .i64 f1, .int .i64 f2, .int .i64 f3, .int .i64 f4] 59)
      have hJ2 := hJ _ _ _ _ hJj (Stays.below hb4)
      have hk2 := hk.trans (Keeps.below hb4)
      have hs2 := Nat.le_trans hs hb4.size
      have hU2 : ∀ k, U k → k < (wr.alloc (.cells #[.int .i64 f1, .int .i64 f2, .int .i64 f3, .int .i64 f4] 59)).heap.size := fun k h => Nat.lt_of_lt_of_le (hUl k h) hb4.size
      have v0 := (HB2.out _ hk2).cell_at 0 rfl
      have hwi : IntKind.i64.wrap ((j : Int) + 1) = (j : Int) + 1 := IntWalk.i64_in _ (by omega)
      rw [hA]
      have HA := Lib.hid hA
      clear hJj hk hs hUl hb4 hA
      by_cases e1 : f1 = s
      · by_cases e2 : f2 = wy
        · have HP1 : Hid (pre ++ ((f1, f2, f3, f4) :: (l.flanks.drop (j + 1)).filter (fun f => true && (decide (f.1 = s) && decide (f.2.1 = wy)))) = xs) := Lib.hid (by rw [← HP.out, filter_hit HX.out (by simp [e1, e2])])
          clear HP
          obtain ⟨fn, tmps, assign, body, hy, hR⟩ := hY U pre.length _ _ (at_pre HP1.out) hJ2 hU2
          have HR := Lib.hid hR
          have HK2 := Lib.hid hk2
          clear hR hJ2 hk2
          subst e1 e2
          gi_wp2_with fail
          refine RoundIn.mono (RoundIn.wide HR.out) ?_
          clear HR hy v0 c0 c1 c2 c3
          rintro e W3 ⟨U', hg', hk', (⟨rfl, hJ3⟩ | ⟨rfl, hJx3⟩)⟩
          · have hk3 := HK2.out.trans hk'.keeps
            have hs3 := Nat.le_trans hs2 hk'.size
            have hU3 := hg'.lt
            clear hg' hk' HK2
            gi_wp2_with fail
            go_roundw
            case rel => exact ⟨j + 1, pre ++ [_], U', hlt, by go_num, by rw [List.length_append]; exact hJ3, hU3, hk3, hs3, Lib.hid (push_pre HP1.out)⟩
            case measure => simp [intOf]; omega
          · have hU3 := hg'.lt
            gi_wp2
            refine bodyPost_ret (results_none rfl _ _ _) rfl ?_
            exact ⟨⟨_, rfl⟩, U', hU3, .inr hJx3⟩
        · have HP1 : Hid (pre ++ (l.flanks.drop (j + 1)).filter (fun f => true && (decide (f.1 = s) && decide (f.2.1 = wy))) = xs) := Lib.hid (by rw [← HP.out, filter_miss HX.out (by simp [e2])])
          have d1 : (f1 == s) = true := by simp [e1]
          have d2 : (f2 == wy) = false := by simp [e2]
          have HK2 := Lib.hid (And.intro hJ2 (And.intro hU2 (And.intro hk2 hs2)))
          clear HP hY e1 e2 hJ2 hU2 hk2 hs2
          gi_wp2_with fail
          refine ⟨fun f h => (by cases h), ?_⟩
          gi_wp2_with fail
          go_roundw
          case rel => exact ⟨j + 1, pre, U, hlt, by go_num, HK2.out.1, HK2.out.2.1, HK2.out.2.2.1, HK2.out.2.2.2, HP1⟩
          case measure => simp [intOf]; omega
      · have HP1 : Hid (pre ++ (l.flanks.drop (j + 1)).filter (fun f => true && (decide (f.1 = s) && decide (f.2.1 = wy))) = xs) := Lib.hid (by rw [← HP.out, filter_miss HX.out (by simp [e1])])
        have d1 : (f1 == s) = false := by simp [e1]
        have HK2 := Lib.hid (And.intro hJ2 (And.intro hU2 (And.intro hk2 hs2)))
        clear HP hY e1 hJ2 hU2 hk2 hs2
        gi_wp2_with fail
        refine ⟨fun f h => (by cases h), ?_⟩
        gi_wp2_with fail
        go_roundw
        case rel => exact ⟨j + 1, pre, U, hlt, by go_num, HK2.out.1, HK2.out.2.1, HK2.out.2.2.1, HK2.out.2.2.2, HP1⟩
        case measure => simp [intOf]; omega
    · obtain rfl : j = l.flanks.length := by omega
      have HE : Hid (pre.length = xs.length) := Lib.hid (by rw [← HP.out, List.drop_eq_nil_of_le (Nat.le_refl _)]; simp)
      gi_wp2_with fail
      go_end0
      exact ⟨⟨_, rfl⟩, U, hUl, .inl (HE.out ▸ hJj)⟩
end Go.Proofs.YtbdbgoploednbaaDoor
