/- Iterators over a layout: slices.Values at ints and flanks. -/
import Derived.RangeFuncNested
import Derived.RangeFuncBound
import Derived.RangeFuncCalls
import Derived.RangeFuncLeaves
import Derived.RangeFuncBox
import Derived.Shelf.Abstract
import Derived.Shelf.RegionOpen
import Derived.WalkKit
import Derived.OwnWalkIn
import Derived.TacticsInMore
import Derived.LoopNIn
import Derived.LoopIn
import Derived.WalkMore
import Derived.Test.YtbalcbnlpgekaaaDoorLayF
import Derived.Test.YtbalcbnlpgekaaaDoorIter
namespace Go.Proofs.YtbalcbnlpgekaaaDoor
open Go.RowKit Go.Shelf
set_option linter.unusedVariables false
set_option linter.unusedSimpArgs false

attribute [local go_sem] Oper.semAt_some

set_option maxRecDepth 100000 in
set_option maxHeartbeats 4000000 in
theorem valuesInt_iter {w0 : World} {g n0 c : Nat} {A : Option Addr} {xs : List (Int)} (hbox : Whole w0 g 114 [.slice A xs.length c]) (hrow : Row w0 n0 A (nums .i64 xs)) (hn : (xs.length : Int) ≤ 9223372036854775807) :
    Iter Tryd.prog 88 #[.pointer (some ⟨g, 0, none⟩)] (fun x : Int => #[.int .i64 x]) xs (fun k => k < n0 ∨ k = g) w0 := by
  intro l S J Jx W hk0 hS hJ hJx hY h0
  have hbox := hk0.whole (.inr rfl) hbox
  have HD : Hid (∀ k, S k → ¬ (k < n0 ∨ k = g)) := Lib.hid (fun k hk => (hS k hk).1)
  have x0 := hbox.cell_at 0 rfl
  clear hbox hS
  refine (callsIn_wide (n := 3)).1 ?_
  refine callsIn_of_wp Tryd.func88 rfl trivial ?_ rfl
  simp only [Tryd.ntmps88, List.size_toArray, List.length_cons, List.length_nil, Nat.reduceAdd, Nat.reduceSub, Array.replicate_succ, Array.replicate_zero, List.push_toArray, List.append_toArray, List.nil_append, List.cons_append]
  gi_wp2
  clear x0
  gi_loopw [7] (fun i wr => ∃ j : Nat, j ≤ xs.length ∧ i = .int .i64 j ∧ J j wr ∧ Keeps (fun k => k < n0 ∨ k = g) w0 wr)
    (fun i _ => xs.length - (intOf i).toNat)
  case atStart => exact ⟨0, by omega, rfl, h0, hk0⟩
  case round =>
    obtain ⟨j, hj, rfl, hJs, hk⟩ := hrel
    by_cases hlt : j < xs.length
    · have hlt' : (j : Int) < xs.length := by omega
      obtain ⟨x, hx⟩ : ∃ x, xs[j]? = some x := ⟨_, List.getElem?_eq_getElem hlt⟩
      have HX := Lib.hid hx
      clear hx
      obtain ⟨b, off, rfl, _, c0⟩ : ∃ b off, A = some ⟨b, off, none⟩ ∧ b < n0 ∧ wr.cell? ⟨b, off + j, none⟩ = some (.int .i64 x) := by
        obtain ⟨b, off, e, h1, h2⟩ := (hrow.keeps hk (fun k hk => .inl hk)).num hlt
        rw [HX.out] at h2
        exact ⟨b, off, e, h1, h2⟩
      obtain ⟨fn, tmps, assign, body, hy, hR⟩ := hY j x wr HX.out hJs
      have HR := Lib.hid hR
      clear hR
      gi_wp2
      refine RoundIn.mono (RoundIn.wide HR.out) ?_
      clear HR hy
      rintro e W3 (⟨rfl, hJ3, hk3⟩ | ⟨rfl, hJx3, hk3⟩)
      · gi_wp2
        go_roundw
        case rel => exact ⟨j + 1, hlt, by go_num, hJ3, hk.trans (hk3.keeps HD.out)⟩
        case measure => simp [intOf]; omega
      · gi_wp2
        refine bodyPost_ret (results_none rfl _ _ _) rfl ?_
        exact ⟨⟨_, rfl⟩, .inr hJx3⟩
    · obtain rfl : j = xs.length := by omega
      gi_wp2
      go_end0
      exact ⟨⟨_, rfl⟩, .inl hJs⟩

set_option maxRecDepth 100000 in
set_option maxHeartbeats 4000000 in
theorem valuesFlank_iter {w0 : World} {g n0 c : Nat} {A : Option Addr} {xs : List (Int × Int × Int × Int)} (hbox : Whole w0 g 25 [.slice A xs.length c]) (hrow : Row w0 n0 A (xs.flatMap flkCells)) (hn : (xs.length : Int) ≤ 9223372036854775807) :
    Iter Tryd.prog 83 #[.pointer (some ⟨g, 0, none⟩)] (fun x : Int × Int × Int × Int => #[(flkV x.1 x.2.1 x.2.2.1 x.2.2.2)]) xs (fun k => k < n0 ∨ k = g) w0 := by
  intro l S J Jx W hk0 hS hJ hJx hY h0
  have hbox := hk0.whole (.inr rfl) hbox
  have HD : Hid (∀ k, S k → ¬ (k < n0 ∨ k = g)) := Lib.hid (fun k hk => (hS k hk).1)
  have x0 := hbox.cell_at 0 rfl
  clear hbox hS
  refine (callsIn_wide (n := 3)).1 ?_
  refine callsIn_of_wp Tryd.func83 rfl trivial ?_ rfl
  simp only [Tryd.ntmps83, List.size_toArray, List.length_cons, List.length_nil, Nat.reduceAdd, Nat.reduceSub, Array.replicate_succ, Array.replicate_zero, List.push_toArray, List.append_toArray, List.nil_append, List.cons_append]
  gi_wp2
  clear x0
  gi_loopw [7] (fun i wr => ∃ j : Nat, j ≤ xs.length ∧ i = .int .i64 j ∧ J j wr ∧ Keeps (fun k => k < n0 ∨ k = g) w0 wr)
    (fun i _ => xs.length - (intOf i).toNat)
  case atStart => exact ⟨0, by omega, rfl, h0, hk0⟩
  case round =>
    obtain ⟨j, hj, rfl, hJs, hk⟩ := hrel
    by_cases hlt : j < xs.length
    · have hlt' : (j : Int) < xs.length := by omega
      obtain ⟨x, hx⟩ : ∃ x, xs[j]? = some x := ⟨_, List.getElem?_eq_getElem hlt⟩
      have HX := Lib.hid hx
      clear hx
      obtain ⟨b, off, hA, _, hc0, hc⟩ := (hrow.keeps hk (fun k hk => .inl hk)).nth (n := 4) (fun _ => rfl) (by omega) HX.out
      subst hA
      have c0 := hc0 j x _ HX.out rfl
      have c1 := hc j x 1 _ HX.out rfl
      have c2 := hc j x 2 _ HX.out rfl
      have c3 := hc j x 3 _ HX.out rfl
      clear hc0 hc
      have hJa := hJ.alloc (.cells (flkCells x).toArray 55) hJs
      obtain ⟨fn, tmps, assign, body, hy, hR⟩ := hY j x _ HX.out hJa
      have HR := Lib.hid hR
      clear hR
      gi_wp2
      refine RoundIn.mono (RoundIn.wide HR.out) ?_
      clear HR hy
      rintro e W3 (⟨rfl, hJ3, hk3⟩ | ⟨rfl, hJx3, hk3⟩)
      · gi_wp2
        go_roundw
        case rel => exact ⟨j + 1, hlt, by go_num, hJ3, hk.trans ((Keeps.below (below1 wr _)).trans (hk3.keeps HD.out))⟩
        case measure => simp [intOf]; omega
      · gi_wp2
        refine bodyPost_ret (results_none rfl _ _ _) rfl ?_
        exact ⟨⟨_, rfl⟩, .inr hJx3⟩
    · obtain rfl : j = xs.length := by omega
      gi_wp2
      go_end0
      exact ⟨⟨_, rfl⟩, .inl hJs⟩
end Go.Proofs.YtbalcbnlpgekaaaDoor
