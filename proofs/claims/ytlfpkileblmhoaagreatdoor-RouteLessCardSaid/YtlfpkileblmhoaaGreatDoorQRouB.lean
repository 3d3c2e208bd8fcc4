/- Package route: steps side by side, one by one. -/
import Derived.RangeFuncNested
import Derived.RangeFuncBound
import Derived.RangeFuncCalls
import Derived.RangeFuncLeaves
import Derived.RangeFuncBox
import Derived.Shelf.Abstract
import Derived.Shelf.RegionOpen
import Derived.WalkKit
import Derived.OwnWalkIn
import Derived.TacticsInMore
import Derived.LoopNIn
import Derived.LoopIn
import Derived.WalkMore
import Derived.Test.YtlfpkileblmhoaaGreatDoorQF
import Derived.Test.YtlfpkileblmhoaaGreatDoorQG
namespace Go.Proofs.YtlfpkileblmhoaaGreatDoor
open Go.RowKit Go.Shelf
set_option linter.unusedVariables false
set_option linter.unusedSimpArgs false

attribute [local go_sem] Oper.semAt_some

theorem neighbours_any (A : Option Addr) (n c : Nat) (w : World) : Calls Tryz.prog 35 #[.slice A n c] w fun e w' => e = .returned (.func (.func 56) #[] #[.pointer (some ⟨w.heap.size, 0, none⟩)]) ∧ w' = w.alloc (.cells #[.slice A n c] 30) := by
  go_enter Tryz.func35, Tryz.ntmps35
  go_wp2_with fail
  go_ret
  exact ⟨rfl, rfl⟩

set_option maxRecDepth 100000 in
set_option maxHeartbeats 8000000 in
theorem neigh_iter {w0 : World} {g n0 : Nat} {A : Option Addr} {c : Nat} {ss : List (Int × Int × Int)} (hbox : Whole w0 g 30 [.slice A ss.length c]) (hR : Row w0 n0 A (ss.flatMap stpCells)) (hn : (ss.length : Int) ≤ 9223372036854775807) :
    Iter Tryz.prog 56 #[.pointer (some ⟨g, 0, none⟩)] (fun x : (Int × Int × Int) × (Int × Int × Int) => #[stpV x.1.1 x.1.2.1 x.1.2.2, stpV x.2.1 x.2.2.1 x.2.2.2]) (neighL ss) (fun k => k < n0 ∨ k = g) w0 := by
  intro L S J Jx W hk0 hS hJ hJx hY h0
  have HB : Hid (∀ W', Keeps (fun k => k < n0 ∨ k = g) w0 W' → Whole W' g 30 [.slice A ss.length c]) := Lib.hid fun W' hk => hk.whole (.inr rfl) hbox
  have HRW : Hid (∀ W', Keeps (fun k => k < n0 ∨ k = g) w0 W' → Row W' n0 A (ss.flatMap stpCells)) := Lib.hid fun W' hk => Row.keeps hk (fun k h => .inl h) hR
  have HD : Hid (∀ k, S k → ¬ (k < n0 ∨ k = g)) := Lib.hid (fun k hk => (hS k hk).1)
  obtain ⟨xs, HXS⟩ : ∃ xs, Hid (neighL ss = xs) := ⟨_, Lib.hid rfl⟩
  have HXL : Hid (xs.length = ss.length - 1) := Lib.hid (by rw [← HXS.out, neigh_len])
  rw [HXS.out] at hY ⊢
  clear hbox hS hR
  refine (callsIn_wide (n := 3)).1 ?_
  refine callsIn_of_wp Tryz.func56 rfl trivial ?_ rfl
  simp only [Tryz.ntmps56, List.size_toArray, List.length_cons, List.length_nil, Nat.reduceAdd, Nat.reduceSub, Array.replicate_succ, Array.replicate_zero, List.push_toArray, List.append_toArray, List.nil_append, List.cons_append]
  gi_wp2_with fail
  gi_loopw [3] (fun i wr => ∃ (j : Nat), (j ≤ ss.length - 1) ∧ i = .int .i64 ((j : Int) + 1) ∧ J j wr ∧ Keeps (fun k => k < n0 ∨ k = g) w0 wr)
    (fun i _ => ss.length + 1 - (intOf i).toNat)
  case atStart => exact ⟨0, by omega, by simp, h0, hk0⟩
  case round =>
    clear h0 hk0
    obtain ⟨j, hj, rfl, hJs, hk⟩ := hrel
    have x0 := (HB.out _ hk).cell_at 0 rfl
    by_cases hlt : j + 1 < ss.length
    · have hlt' : (j : Int) + 1 < ss.length := by omega
      obtain ⟨⟨a1, a2, a3⟩, ha⟩ : ∃ x, ss[j]? = some x := ⟨_, List.getElem?_eq_getElem (by omega)⟩
      obtain ⟨⟨b1, b2, b3⟩, hb⟩ : ∃ x, ss[j + 1]? = some x := ⟨_, List.getElem?_eq_getElem hlt⟩
      have HX : Hid (xs[j]? = some ((a1, a2, a3), (b1, b2, b3))) := Lib.hid (by rw [← HXS.out]; exact neigh_at ha hb)
      obtain ⟨b, off, rfl, _, hc0, hc⟩ := (HRW.out _ hk).nth (n := 3) (fun _ => rfl) (by omega) ha
      have c0 := hc0 j _ _ ha rfl
      have c1 := hc j _ 1 _ ha rfl
      have c2 := hc j _ 2 _ ha rfl
      have d0 := hc0 (j + 1) _ _ hb rfl
      have d1 := hc (j + 1) _ 1 _ hb rfl
      have d2 := hc (j + 1) _ 2 _ hb rfl
      clear hc0 hc ha hb
      have hw1 : IntKind.i64.wrap ((j : Int) + 1 - 1) = (j : Int) := by rw [IntWalk.i64_in _ (by omega)]; omega
      have hw2 : IntKind.i64.wrap ((j : Int) + 1 + 1) = (j : Int) + 1 + 1 := IntWalk.i64_in _ (by omega)
      have hw0 : IntKind.i64.wrap (j : Int) = (j : Int) := IntWalk.i64_in _ (by omega)
      have hj1 : (j : Int) < ss.length := by omega
      have hj0 : (0 : Int) ≤ (j : Int) := by omega
      have hp1 : (0 : Int) ≤ (j : Int) + 1 := by omega
      have ht1 : ((j : Int) + 1).toNat = j + 1 := by omega
      have hJd : J j wr.drew := hJ j wr wr.drew none hJs ⟨rfl, rfl, rfl, Nat.le_refl _, fun _ _ _ => rfl⟩ (fun r e => by cases e)
      obtain ⟨fn, tmps, assign, body, hy, hR⟩ := hY j _ wr.drew HX.out hJd
      have HRd := Lib.hid hR
      have HK := Lib.hid hk
      clear hR hJs hk
      gi_wp2_with fail
      refine region_wideIn _ _ 10 (by kernel_rfl) (by kernel_rfl) ?_
      simp only [List.take_succ_cons, List.take_zero, List.drop_succ_cons, List.drop_zero]
      repeat still_step
      refine wpStill_nil ?_
      gi_wp2
      refine RoundIn.mono (RoundIn.wide HRd.out) ?_
      clear HRd hy c0 c1 c2 d0 d1 d2 x0
      rintro e W3 (⟨rfl, hJ3, hk3⟩ | ⟨rfl, hJx3, hk3⟩)
      · gi_wp2
        go_roundw
        case rel => exact ⟨j + 1, by omega, by go_num, hJ3, (HK.out.trans (show Keeps (fun k => k < n0 ∨ k = g) wr wr.drew from fun _ _ _ h => h)).trans (hk3.keeps HD.out)⟩
        case measure => simp [intOf]; omega
      · gi_wp2
        refine bodyPost_ret (results_none rfl _ _ _) rfl ?_
        exact ⟨⟨_, rfl⟩, .inr hJx3⟩
    · have HE : Hid (j = xs.length) := Lib.hid (by rw [HXL.out]; omega)
      have hlt' : ¬ (j : Int) + 1 < ss.length := by omega
      gi_wp2_with fail
      go_end0
      exact ⟨⟨_, rfl⟩, .inl (HE.out ▸ hJs)⟩
end Go.Proofs.YtlfpkileblmhoaaGreatDoor
