/- Package rank: a path's numbers, one by one; Row. -/
import Derived.RangeFuncNested
import Derived.RangeFuncBound
import Derived.RangeFuncCalls
import Derived.RangeFuncLeaves
import Derived.RangeFuncBox
import Derived.Shelf.Abstract
import Derived.Shelf.RegionOpen
import Derived.WalkKit
import Derived.OwnWalkIn
import Derived.TacticsInMore
import Derived.LoopNIn
import Derived.LoopIn
import Derived.WalkMore
import Derived.Test.YtiknjkgioiknnaaDoorQRnkB
import Derived.Test.YtiknjkgioiknnaaDoorQL
import Derived.Test.YtiknjkgioiknnaaDoorQI
import Derived.Test.YtiknjkgioiknnaaDoorQLayOneM
namespace Go.Proofs.YtiknjkgioiknnaaDoor
open Go.RowKit Go.Shelf
set_option linter.unusedVariables false
set_option linter.unusedSimpArgs false
set_option maxRecDepth 100000

attribute [local go_sem] Oper.semAt_some

set_option maxRecDepth 100000 in
set_option maxHeartbeats 32000000 in
theorem numbers_any (l : Lay) (A : Option Addr) (n c : Nat) (w : World) : Calls Tryd.prog 34 #[l.val, .slice A n c] w fun e w' => e = .returned (.func (.func 51) #[] #[.pointer (some ⟨w.heap.size, 0, none⟩), .pointer (some ⟨w.heap.size + 1, 0, none⟩)]) ∧
    w' = (w.alloc (.cells #[.slice l.As l.secs.length l.cs, .slice l.Ag l.sigs.length l.cg, .slice l.Ae l.exits.length l.ce, .slice l.Af l.flanks.length l.cf, .int .i64 l.t0, .int .i64 l.t1, .int .i64 l.t2, .int .i64 l.t3, .int .i64 l.t4, .int .i64 l.t5, .int .i64 l.t6] 29)).alloc (.cells #[.slice A n c] 32) := by
  go_enter Tryd.func34, Tryd.ntmps34
  go_wp2_with fail
  go_ret
  exact ⟨rfl, rfl⟩
set_option maxRecDepth 100000 in
set_option maxHeartbeats 32000000 in
theorem numbers_iter {wa w0 : World} {g1 g2 : Nat} {l : Lay} {ss : List (Int × Int × Int)} {A : Option Addr} {c : Nat} (hT : Shapes wa) (hL : Lies l wa) (hR : Row wa wa.heap.size A (ss.flatMap stpCells)) (hn : ss.length ≤ 1099511627776) (hka : Keeps (· < wa.heap.size) wa w0) (hsa : wa.heap.size ≤ w0.heap.size) (hb1 : Whole w0 g1 29 l.cells) (hb2 : Whole w0 g2 32 [.slice A ss.length c]) :
    IterU Tryd.prog 51 #[.pointer (some ⟨g1, 0, none⟩), .pointer (some ⟨g2, 0, none⟩)] (fun z : Int => #[.int .i64 z]) (rowV l ss) (fun k => k < wa.heap.size ∨ (k = g1 ∨ k = g2)) w0 := by
  intro L J Jx W hk0 hRl hJ hJx hY h0
  have hnW : wa.heap.size ≤ W.heap.size := Nat.le_of_not_lt fun hlt => absurd (hRl _ (.inl hlt)) (Nat.lt_irrefl _)
  have HF : Hid (∀ W', Keeps (fun k => k < wa.heap.size ∨ (k = g1 ∨ k = g2)) w0 W' → W.heap.size ≤ W'.heap.size → (Shapes W' ∧ Lies l W') ∧ Row W' W'.heap.size A (ss.flatMap stpCells)) := Lib.hid fun W' hk hs =>
    have hk' := hka.trans (hk.sub fun k h => .inl h)
    ⟨⟨hT.keeps hk' (fun _ h => h), hL.keeps hk' (fun _ h => h) (Nat.le_trans hnW hs)⟩, (hR.keeps hk' (fun _ h => h)).mono (Nat.le_trans hnW hs)⟩
  have HB1 : Hid (∀ W', Keeps (fun k => k < wa.heap.size ∨ (k = g1 ∨ k = g2)) w0 W' → Whole W' g1 29 l.cells) := Lib.hid fun W' hk => hk.whole (.inr (.inl rfl)) hb1
  have HB2 : Hid (∀ W', Keeps (fun k => k < wa.heap.size ∨ (k = g1 ∨ k = g2)) w0 W' → Whole W' g2 32 [.slice A ss.length c]) := Lib.hid fun W' hk => hk.whole (.inr (.inr rfl)) hb2
  obtain ⟨t, ht⟩ : ∃ t, topV l ss = t := ⟨_, rfl⟩
  obtain ⟨xs, hxs⟩ : ∃ xs, rowV l ss = xs := ⟨_, rfl⟩
  have HXS : Hid ([t, (ss.length : Int)] ++ posL l ss = xs) := Lib.hid (by rw [← hxs, ← ht]; rfl)
  rw [hxs] at hY ⊢
  obtain ⟨B, hB⟩ : ∃ B, W.heap.size = B := ⟨_, rfl⟩
  have hs0 : B ≤ W.heap.size := by omega
  rw [hB] at HF hJ hJx hY
  have hf := HF.out _ hk0 hs0
  have KT := Lib.hid (topClass_any hf.1.1 hf.1.2 c hf.2 hn ht)
  have m0 := HB1.out _ hk0
  have x0 := m0.cell_at 0 rfl
  have x1 := m0.cell_at 1 rfl
  have x2 := m0.cell_at 2 rfl
  have x3 := m0.cell_at 3 rfl
  have x4 := m0.cell_at 4 rfl
  have x5 := m0.cell_at 5 rfl
  have x6 := m0.cell_at 6 rfl
  have x7 := m0.cell_at 7 rfl
  have x8 := m0.cell_at 8 rfl
  have x9 := m0.cell_at 9 rfl
  have x10 := m0.cell_at 10 rfl
  clear m0
  have s0 := (HB2.out _ hk0).cell_at 0 rfl
  clear hT hL hR hka hb1 hb2 hRl hxs hnW hB ht hf
  refine (callsIn_wide (n := 3)).1 ?_
  refine callsIn_of_wp Tryd.func51 rfl trivial ?_ rfl
  simp only [Tryd.ntmps51, List.size_toArray, List.length_cons, List.length_nil, Nat.reduceAdd, Nat.reduceSub, Array.replicate_succ, Array.replicate_zero, List.push_toArray, List.append_toArray, List.nil_append, List.cons_append]
  gi_wp2_with fail
  refine ⟨trivial, (callsIn_wide.2 KT.out).mono ?_⟩
  clear KT x0 x1 x2 x3 x4 x5 x6 x7 x8 x9 x10 s0
  rintro e w1 ⟨rfl, hB1⟩
  have hJ1 := hJ _ _ _ _ h0 (Stays.below hB1)
  have hk1 := hk0.trans (Keeps.below hB1)
  have hs1 := Nat.le_trans hs0 hB1.size
  clear h0 hk0 hs0 hB1
  obtain ⟨fn, tmps, assign, body, hy, hR⟩ := hY (fun _ => False) 0 t _ (by rw [← HXS.out]; rfl) hJ1 (fun k h => h.elim)
  have HR := Lib.hid hR
  have HK1 := Lib.hid hk1
  have hz1 := hs1
  clear hR hJ1 hk1
  gi_wp2_with fail
  refine RoundIn.mono (RoundIn.wide HR.out) ?_
  clear HR hy
  rintro e W3 ⟨U1, hg1, hk', (⟨rfl, hJ3⟩ | ⟨rfl, hJx3⟩)⟩
  rotate_left
  · have hU3 := hg1.lt
    gi_wp2_with fail
    refine ⟨fun f h => (by cases h), ?_⟩
    gi_wp2_with fail
    refine bodyPost_ret (results_none rfl _ _ _) rfl ?_
    exact ⟨⟨_, rfl⟩, U1, hU3, .inr hJx3⟩
  have hk2 := HK1.out.trans hk'.keeps
  have hs2 : B ≤ W3.heap.size := Nat.le_trans hs1 hk'.size
  have hU2 := hg1.lt
  clear hg1 hk' HK1 hs1 hz1
  obtain ⟨fn, tmps, assign, body, hy, hR⟩ := hY U1 1 (ss.length : Int) _ (by rw [← HXS.out]; rfl) hJ3 hU2
  have HR := Lib.hid hR
  have s0 := (HB2.out _ hk2).cell_at 0 rfl
  have HK2 := Lib.hid hk2
  clear hR hJ3 hk2
  gi_wp2_with fail
  refine RoundIn.mono (RoundIn.wide HR.out) ?_
  clear HR hy s0
  rintro e W4 ⟨U2, hg2, hk', (⟨rfl, hJ4⟩ | ⟨rfl, hJx4⟩)⟩
  rotate_left
  · have hU4 := hg2.lt
    gi_wp2_with fail
    refine bodyPost_ret (results_none rfl _ _ _) rfl ?_
    exact ⟨⟨_, rfl⟩, U2, hU4, .inr hJx4⟩
  have hk4 := HK2.out.trans hk'.keeps
  have hs4 : B ≤ W4.heap.size := Nat.le_trans hs2 hk'.size
  have hU4 := hg2.lt
  have s0 := (HB2.out _ hk4).cell_at 0 rfl
  clear hg2 hk' HK2 hs2 hU2
  gi_wp2_with fail
  clear s0
  gi_loopw [24] (fun i wr => ∃ (j : Nat) (pre : List Int) (U : Nat → Prop), j ≤ ss.length ∧ i = .int .i64 j ∧ J U pre.length wr ∧ (∀ k, U k → k < wr.heap.size) ∧ Keeps (fun k => k < wa.heap.size ∨ (k = g1 ∨ k = g2)) w0 wr ∧ B ≤ wr.heap.size ∧ Hid (pre ++ posL l (ss.drop j) = xs))
    (fun i _ => ss.length - (intOf i).toNat)
  case atStart => exact ⟨0, [t, (ss.length : Int)], U2, by omega, rfl, hJ4, hU4, hk4, hs4, Lib.hid HXS.out⟩
  case round =>
    clear hJ4 hk4 hs4 hU4
    obtain ⟨j, pre, U, hj, rfl, hJj, hUl, hk, hs, HP⟩ := hrel
    by_cases hlt : j < ss.length
    · have hlt' : (j : Int) < ss.length := by omega
      obtain ⟨⟨f1, f2, f3⟩, hx⟩ : ∃ x, ss[j]? = some x := ⟨_, List.getElem?_eq_getElem hlt⟩
      obtain ⟨b, off, hA, _, hc0, hc⟩ := (HF.out _ hk hs).2.nth (n := 3) (fun _ => rfl) (by omega) hx
      have HX := Lib.hid hx
      have c0 := hc0 j _ _ hx rfl
      have c1 := hc j _ 1 _ hx rfl
      have c2 := hc j _ 2 _ hx rfl
      clear hx hc0 hc
      have hbs : Whole (wr.alloc (.cells #[.int .i64 f1, .int .i64 f2, .int .i64 f3] 53)) wr.heap.size 53 (stpCells (f1, f2, f3)) := Whole.new _ _ (stpCells (f1, f2, f3))
      have hb4 : Below wr.heap.size wr (wr.alloc (.cells #[.int .i64 f1, .int .i64 f2, .int .i64 f3] 53)) := below1 _ _
      have hJ2 := hJ _ _ _ _ hJj (Stays.below hb4)
      have hk2 := hk.trans (Keeps.below hb4)
      have hs2 := Nat.le_trans hs hb4.size
      have hU2 : ∀ k, U k → k < (wr.alloc (.cells #[.int .i64 f1, .int .i64 f2, .int .i64 f3] 53)).heap.size := fun k h => Nat.lt_of_lt_of_le (hUl k h) hb4.size
      obtain ⟨⟨p1, p2, ok⟩, hpv⟩ : ∃ r, pointV l f1 f2 f3 = r := ⟨_, rfl⟩
      have hf := HF.out _ hk2 hs2
      have KP := Lib.hid (pointB_any hf.1.1 hf.1.2 f1 f2 f3 hpv)
      have m0 := HB1.out _ hk2
      have x0 := m0.cell_at 0 rfl
      have x1 := m0.cell_at 1 rfl
      have x2 := m0.cell_at 2 rfl
      have x3 := m0.cell_at 3 rfl
      have x4 := m0.cell_at 4 rfl
      have x5 := m0.cell_at 5 rfl
      have x6 := m0.cell_at 6 rfl
      have x7 := m0.cell_at 7 rfl
      have x8 := m0.cell_at 8 rfl
      have x9 := m0.cell_at 9 rfl
      have x10 := m0.cell_at 10 rfl
      clear m0
      have m0 := hbs
      have v0 := m0.cell_at 0 rfl
      have v1 := m0.cell_at 1 rfl
      have v2 := m0.cell_at 2 rfl
      clear m0
      have hwi : IntKind.i64.wrap ((j : Int) + 1) = (j : Int) + 1 := IntWalk.i64_in _ (by omega)
      rw [hA]
      have HA := Lib.hid hA
      have HPO : Hid (posOf l (f1, f2, f3) = if ok = true then [p2] else []) := Lib.hid (by
        show (if (pointV l f1 f2 f3).2.2 = true then [(pointV l f1 f2 f3).2.1] else []) = _
        rw [hpv])
      have HS2 := Lib.hid (And.intro hJ2 (And.intro hU2 (And.intro hk2 hs2)))
      clear hJj hk hs hUl hb4 hA hbs hf hpv hJ2 hU2 hk2 hs2
      gi_wp2_with fail
      refine ⟨trivial, (callsIn_wide.2 KP.out).mono ?_⟩
      clear KP x0 x1 x2 x3 x4 x5 x6 x7 x8 x9 x10 v0 v1 v2
      rintro e w5 ⟨rfl, hB5⟩
      have hJ5 := hJ _ _ _ _ HS2.out.1 (Stays.below hB5)
      have hk5 := HS2.out.2.2.1.trans (Keeps.below hB5)
      have hs5 := Nat.le_trans HS2.out.2.2.2 hB5.size
      have hU5 : ∀ k, U k → k < w5.heap.size := fun k h => Nat.lt_of_lt_of_le (HS2.out.2.1 k h) hB5.size
      clear HS2 hB5 c0 c1 c2
      have HD : Hid (posL l (ss.drop j) = posOf l (f1, f2, f3) ++ posL l (ss.drop (j + 1))) := Lib.hid (by rw [drop_at HX.out]; rfl)
      cases ok
      · have HP1 : Hid (pre ++ posL l (ss.drop (j + 1)) = xs) := Lib.hid (by rw [← HP.out, HD.out, HPO.out]; rfl)
        have HK2 := Lib.hid (And.intro hJ5 (And.intro hU5 (And.intro hk5 hs5)))
        clear HP hY hJ5 hU5 hk5 hs5
        gi_wp2_with fail
        refine ⟨fun f h => (by cases h), ?_⟩
        gi_wp2_with fail
        go_roundw
        case rel => exact ⟨j + 1, pre, U, hlt, by go_num, HK2.out.1, HK2.out.2.1, HK2.out.2.2.1, HK2.out.2.2.2, HP1⟩
        case measure => simp [intOf]; omega
      · have HP1 : Hid (pre ++ (p2 :: posL l (ss.drop (j + 1))) = xs) := Lib.hid (by rw [← HP.out, HD.out, HPO.out]; rfl)
        clear HP
        obtain ⟨fn, tmps, assign, body, hy, hR⟩ := hY U pre.length _ _ (at_pre HP1.out) hJ5 hU5
        have HR := Lib.hid hR
        have HK2 := Lib.hid hk5
        clear hR hJ5 hk5
        gi_wp2_with fail
        refine RoundIn.mono (RoundIn.wide HR.out) ?_
        clear HR hy
        rintro e W3 ⟨U', hg', hk', (⟨rfl, hJ3⟩ | ⟨rfl, hJx3⟩)⟩
        · have hk3 := HK2.out.trans hk'.keeps
          have hs3 := Nat.le_trans hs5 hk'.size
          have hU3 := hg'.lt
          clear hg' hk' HK2
          gi_wp2_with fail
          go_roundw
          case rel => exact ⟨j + 1, pre ++ [p2], U', hlt, by go_num, by rw [List.length_append]; exact hJ3, hU3, hk3, hs3, Lib.hid (push_pre HP1.out)⟩
          case measure => simp [intOf]; omega
        · have hU3 := hg'.lt
          gi_wp2_with fail
          refine bodyPost_ret (results_none rfl _ _ _) rfl ?_
          exact ⟨⟨_, rfl⟩, U', hU3, .inr hJx3⟩
    · obtain rfl : j = ss.length := by omega
      have HE : Hid (pre.length = xs.length) := Lib.hid (by rw [← HP.out, List.drop_eq_nil_of_le (Nat.le_refl _)]; simp [posL])
      gi_wp2_with fail
      go_end0
      exact ⟨⟨_, rfl⟩, U, hUl, .inl (HE.out ▸ hJj)⟩
end Go.Proofs.YtiknjkgioiknnaaDoor
