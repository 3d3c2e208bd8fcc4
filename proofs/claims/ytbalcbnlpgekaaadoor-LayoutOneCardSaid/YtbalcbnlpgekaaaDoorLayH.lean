/- Iterators over a layout: the steps of all overlaps; the ports to which sections join. -/
import Derived.RangeFuncNested
import Derived.RangeFuncBound
import Derived.RangeFuncCalls
import Derived.RangeFuncLeaves
import Derived.RangeFuncBox
import Derived.Shelf.Abstract
import Derived.Shelf.RegionOpen
import Derived.WalkKit
import Derived.OwnWalkIn
import Derived.TacticsInMore
import Derived.LoopNIn
import Derived.LoopIn
import Derived.WalkMore
import Derived.Test.YtbalcbnlpgekaaaDoorLayG
namespace Go.Proofs.YtbalcbnlpgekaaaDoor
open Go.RowKit Go.Shelf
set_option linter.unusedVariables false
set_option linter.unusedSimpArgs false

attribute [local go_sem] Oper.semAt_some

theorem at_pre {α : Type} {pre r xs : List α} {y : α} (h : pre ++ (y :: r) = xs) : xs[pre.length]? = some y := by rw [← h, List.getElem?_append_right (Nat.le_refl _), Nat.sub_self]; rfl
theorem drop_at {α : Type} {l : List α} {i : Nat} {x : α} (h : l[i]? = some x) : l.drop i = x :: l.drop (i + 1) := by
  obtain ⟨hi, rfl⟩ := List.getElem?_eq_some_iff.1 h
  exact List.drop_eq_getElem_cons hi
theorem push_pre {α : Type} {pre r xs : List α} {y : α} (h : pre ++ (y :: r) = xs) : (pre ++ [y]) ++ r = xs := by rw [← h]; simp
/-- All steps of overlaps. -/
def stepsL (l : Lay) : List (Int × Int × Int) := l.exits.flatMap Exm.over
/-- The ports to which a section joins; those of all. -/
def Sec.ports4 (s : Sec) : List (Int × Int) := [(s.s0, s.q0), (s.s1, s.q1), (s.s2, s.q2), (s.s3, s.q3)]
def joinsL (l : Lay) : List (Int × Int) := l.secs.flatMap fun s => s.ports4.filter fun p => decide (0 ≤ p.1)

set_option maxRecDepth 100000 in
set_option maxHeartbeats 4000000 in
theorem steps_iter {w0 : World} {g n0 : Nat} {l : Lay} (hbox : Whole w0 g 29 l.cells) (hrow : Row w0 n0 l.Ae (l.exits.flatMap Exm.cells)) (hovers : ∀ x ∈ l.exits, Row w0 n0 x.A (x.over.flatMap stpCells))
    (hn : (l.exits.length : Int) ≤ 9223372036854775807) (hno : ∀ x ∈ l.exits, (x.over.length : Int) ≤ 9223372036854775807) :
    Iter Tryd.prog 82 #[.pointer (some ⟨g, 0, none⟩)] (fun x : Int × Int × Int => #[(stpV x.1 x.2.1 x.2.2)]) (stepsL l) (fun k => k < n0 ∨ k = g) w0 := by
  intro L S J Jx W hk0 hS hJ hJx hY h0
  have hbox := hk0.whole (.inr rfl) hbox
  have HD : Hid (∀ k, S k → ¬ (k < n0 ∨ k = g)) := Lib.hid (fun k hk => (hS k hk).1)
  obtain ⟨xs, HXS⟩ : ∃ xs, Hid (stepsL l = xs) := ⟨_, Lib.hid rfl⟩
  rw [HXS.out] at hY ⊢
  have x2 := hbox.cell_at 2 rfl
  clear hbox hS
  generalize l.Ae = A at hrow x2
  refine (callsIn_wide (n := 3)).1 ?_
  refine callsIn_of_wp Tryd.func82 rfl trivial ?_ rfl
  simp only [Tryd.ntmps82, List.size_toArray, List.length_cons, List.length_nil, Nat.reduceAdd, Nat.reduceSub, Array.replicate_succ, Array.replicate_zero, List.push_toArray, List.append_toArray, List.nil_append, List.cons_append]
  gi_wp2
  clear x2
  gi_loopw [10] (fun i wr => ∃ (j : Nat) (pre : List (Int × Int × Int)), j ≤ l.exits.length ∧ i = .int .i64 j ∧ J pre.length wr ∧ Keeps (fun k => k < n0 ∨ k = g) w0 wr ∧ Hid (pre ++ (l.exits.drop j).flatMap Exm.over = xs))
    (fun i _ => l.exits.length - (intOf i).toNat)
  case atStart => exact ⟨0, [], by omega, rfl, h0, hk0, Lib.hid (by rw [← HXS.out]; rfl)⟩
  case round =>
    obtain ⟨j, pre, hj, rfl, hJs, hk, HP⟩ := hrel
    by_cases hlt : j < l.exits.length
    · have hlt' : (j : Int) < l.exits.length := by omega
      obtain ⟨x, hx⟩ : ∃ x, l.exits[j]? = some x := ⟨_, List.getElem?_eq_getElem hlt⟩
      obtain ⟨rest, HRe⟩ : ∃ rest, Hid ((l.exits.drop (j + 1)).flatMap Exm.over = rest) := ⟨_, Lib.hid rfl⟩
      have HP1 : Hid (pre ++ (x.over ++ rest) = xs) := Lib.hid (by rw [← HP.out, drop_at hx, List.flatMap_cons, HRe.out])
      have hMem := List.mem_of_getElem? hx
      have HOv := Lib.hid (hovers x hMem)
      have hno' := hno x hMem
      clear HP
      obtain ⟨xs', xq, xA, xc, xo⟩ := x
      simp only at HP1 HOv hno' hx
      have HX := Lib.hid hx
      clear hx hMem
      obtain ⟨b, off, rfl, _, hc0, hc⟩ := (hrow.keeps hk (fun k hk => .inl hk)).nth (n := 3) (fun _ => rfl) (by omega) HX.out
      have c0 := hc0 j _ _ HX.out rfl
      have c1 := hc j _ 1 _ HX.out rfl
      have c2 := hc j _ 2 _ HX.out rfl
      clear hc0 hc
      have HJ1 := Lib.hid (hJ.alloc (.cells #[.int .i64 xs', .int .i64 xq, .slice xA xo.length xc] 53) hJs)
      have HK1 := Lib.hid (hk.trans (Keeps.below (below1 wr (.cells #[.int .i64 xs', .int .i64 xq, .slice xA xo.length xc] 53))))
      gi_wp2
      clear c0 c1 c2
      gi_loopw [17] (fun i wr => ∃ (q : Nat) (pre : List (Int × Int × Int)), q ≤ xo.length ∧ i = .int .i64 q ∧ J pre.length wr ∧ Keeps (fun k => k < n0 ∨ k = g) w0 wr ∧ Hid (pre ++ (xo.drop q ++ rest) = xs))
        (fun i _ => xo.length - (intOf i).toNat)
      case atStart => exact ⟨0, pre, by omega, rfl, HJ1.out, HK1.out, HP1⟩
      case round =>
        clear HJ1 HK1 HP1 hJs hk
        obtain ⟨q, pre, hq, rfl, hJs, hk, HP⟩ := hrel
        by_cases hql : q < xo.length
        · have hql' : (q : Int) < xo.length := by omega
          obtain ⟨y, hy0⟩ : ∃ y, xo[q]? = some y := ⟨_, List.getElem?_eq_getElem hql⟩
          have HP1 : Hid (pre ++ (y :: (xo.drop (q + 1) ++ rest)) = xs) := Lib.hid (by rw [← HP.out, drop_at hy0]; rfl)
          clear HP
          have HYY := Lib.hid hy0
          clear hy0
          obtain ⟨b2, off2, rfl, _, hc0, hc⟩ := (HOv.out.keeps hk (fun k hk => .inl hk)).nth (n := 3) (fun _ => rfl) (by omega) HYY.out
          have d0 := hc0 q y _ HYY.out rfl
          have d1 := hc q y 1 _ HYY.out rfl
          have d2 := hc q y 2 _ HYY.out rfl
          clear hc0 hc
          have hJa := hJ.alloc (.cells (stpCells y).toArray 33) hJs
          obtain ⟨fn, tmps, assign, body, hy, hR⟩ := hY pre.length y _ (at_pre HP1.out) hJa
          have HR := Lib.hid hR
          clear hR
          gi_wp2
          refine RoundIn.mono (RoundIn.wide HR.out) ?_
          clear HR hy
          rintro e W3 (⟨rfl, hJ3, hk3⟩ | ⟨rfl, hJx3, hk3⟩)
          · gi_wp2
            go_roundw
            case rel => exact ⟨q + 1, pre ++ [y], hql, by go_num, by rw [List.length_append]; exact hJ3, hk.trans ((Keeps.below (below1 wr _)).trans (hk3.keeps HD.out)), Lib.hid (push_pre HP1.out)⟩
            case measure => simp [intOf]; omega
          · gi_wp2
            refine bodyPost_ret (results_none rfl _ _ _) rfl ?_
            exact ⟨⟨_, rfl⟩, .inr hJx3⟩
        · obtain rfl : q = xo.length := by omega
          have HP1 : Hid (pre ++ rest = xs) := Lib.hid (by rw [← HP.out, List.drop_length]; rfl)
          clear HP
          gi_wp2
          go_roundw
          case rel => exact ⟨j + 1, pre, hlt, by go_num, hJs, hk, Lib.hid (by rw [HRe.out]; exact HP1.out)⟩
          case measure => simp [intOf]; omega
    · obtain rfl : j = l.exits.length := by omega
      have HE : Hid (pre.length = xs.length) := Lib.hid (by rw [← HP.out, List.drop_length]; simp)
      gi_wp2
      go_end0
      exact ⟨⟨_, rfl⟩, .inl (HE.out ▸ hJs)⟩

set_option maxRecDepth 100000 in
set_option maxHeartbeats 4000000 in
theorem joins_iter {w0 : World} {g n0 : Nat} {l : Lay} (hbox : Whole w0 g 29 l.cells) (hrow : Row w0 n0 l.As (l.secs.flatMap Sec.cells)) (hn : (l.secs.length : Int) ≤ 9223372036854775807) :
    Iter Tryd.prog 93 #[.pointer (some ⟨g, 0, none⟩)] (fun x : Int × Int => #[(prtV x.1 x.2)]) (joinsL l) (fun k => k < n0 ∨ k = g) w0 := by
  intro L S J Jx W hk0 hS hJ hJx hY h0
  have hbox := hk0.whole (.inr rfl) hbox
  have HD : Hid (∀ k, S k → ¬ (k < n0 ∨ k = g)) := Lib.hid (fun k hk => (hS k hk).1)
  obtain ⟨xs, HXS⟩ : ∃ xs, Hid (joinsL l = xs) := ⟨_, Lib.hid rfl⟩
  rw [HXS.out] at hY ⊢
  have x0 := hbox.cell_at 0 rfl
  clear hbox hS
  generalize l.As = A at hrow x0
  refine (callsIn_wide (n := 3)).1 ?_
  refine callsIn_of_wp Tryd.func93 rfl trivial ?_ rfl
  simp only [Tryd.ntmps93, List.size_toArray, List.length_cons, List.length_nil, Nat.reduceAdd, Nat.reduceSub, Array.replicate_succ, Array.replicate_zero, List.push_toArray, List.append_toArray, List.nil_append, List.cons_append]
  gi_wp2
  clear x0
  gi_loopw [10] (fun i wr => ∃ (j : Nat) (pre : List (Int × Int)), j ≤ l.secs.length ∧ i = .int .i64 j ∧ J pre.length wr ∧ Keeps (fun k => k < n0 ∨ k = g) w0 wr ∧ Hid (pre ++ ((l.secs.drop j).flatMap fun s => s.ports4.filter fun p => decide (0 ≤ p.1)) = xs))
    (fun i _ => l.secs.length - (intOf i).toNat)
  case atStart => exact ⟨0, [], by omega, rfl, h0, hk0, Lib.hid (by rw [← HXS.out]; rfl)⟩
  case round =>
    obtain ⟨j, pre, hj, rfl, hJs, hk, HP⟩ := hrel
    by_cases hlt : j < l.secs.length
    · have hlt' : (j : Int) < l.secs.length := by omega
      obtain ⟨x, hx⟩ : ∃ x, l.secs[j]? = some x := ⟨_, List.getElem?_eq_getElem hlt⟩
      obtain ⟨rest, HRe⟩ : ∃ rest, Hid (((l.secs.drop (j + 1)).flatMap fun s => s.ports4.filter fun p => decide (0 ≤ p.1)) = rest) := ⟨_, Lib.hid rfl⟩
      have HP1 : Hid (pre ++ ((x.ports4.filter fun p => decide (0 ≤ p.1)) ++ rest) = xs) := Lib.hid (by rw [← HP.out, drop_at hx, List.flatMap_cons, HRe.out])
      clear HP
      have HX := Lib.hid hx
      clear hx
      obtain ⟨b, off, rfl, _, hc0, hc⟩ := (hrow.keeps hk (fun k hk => .inl hk)).nth (n := 11) Sec.len (by omega) HX.out
      have c0 := hc0 j x _ HX.out rfl
      have c1 := hc j x 1 _ HX.out rfl
      have c2 := hc j x 2 _ HX.out rfl
      have c3 := hc j x 3 _ HX.out rfl
      have c4 := hc j x 4 _ HX.out rfl
      have c5 := hc j x 5 _ HX.out rfl
      have c6 := hc j x 6 _ HX.out rfl
      have c7 := hc j x 7 _ HX.out rfl
      have c8 := hc j x 8 _ HX.out rfl
      have c9 := hc j x 9 _ HX.out rfl
      have c10 := hc j x 10 _ HX.out rfl
      clear hc0 hc
      have HJ1 := Lib.hid (hJ.alloc (.cells x.cells.toArray 39) hJs)
      have HK1 := Lib.hid (hk.trans (Keeps.below (below1 wr (.cells x.cells.toArray 39))))
      gi_wp2
      clear c0 c1 c2 c3 c4 c5 c6 c7 c8 c9 c10
      gi_loopw [16] (fun i wr => ∃ (q : Nat) (pre : List (Int × Int)), q ≤ 4 ∧ i = .int .i64 q ∧ J pre.length wr ∧ Keeps (fun k => k < n0 ∨ k = g) w0 wr ∧ Hid (pre ++ (((x.ports4.drop q).filter fun p => decide (0 ≤ p.1)) ++ rest) = xs))
        (fun i _ => 4 - (intOf i).toNat)
      case atStart => exact ⟨0, pre, by omega, rfl, HJ1.out, HK1.out, HP1⟩
      case round =>
        clear HJ1 HK1 HP1 hJs hk
        obtain ⟨q, pre, hq, rfl, hJs, hk, HP⟩ := hrel
        by_cases hql : q < 4
        · have hql' : (q : Int) < 4 := by omega
          obtain ⟨y, hy0, hix⟩ : ∃ y : Int × Int, x.ports4[q]? = some y ∧ ∀ w : World, (Instr.index 36 (.agg #[.int .i64 x.s0, .int .i64 x.q0, .int .i64 x.s1, .int .i64 x.q1, .int .i64 x.s2, .int .i64 x.q2, .int .i64 x.s3, .int .i64 x.q3]) (.int .i64 (q : Int))).run Tryd.prog w = .ok (.agg #[.int .i64 y.1, .int .i64 y.2]) w := by
            have : q = 0 ∨ q = 1 ∨ q = 2 ∨ q = 3 := by omega
            rcases this with rfl | rfl | rfl | rfl
            · exact ⟨(x.s0, x.q0), rfl, fun _ => by kernel_rfl⟩
            · exact ⟨(x.s1, x.q1), rfl, fun _ => by kernel_rfl⟩
            · exact ⟨(x.s2, x.q2), rfl, fun _ => by kernel_rfl⟩
            · exact ⟨(x.s3, x.q3), rfl, fun _ => by kernel_rfl⟩
          have hJa := hJ.alloc (.cells (prtCells y).toArray 31) hJs
          by_cases hpos : 0 ≤ y.1
          · have HP1 : Hid (pre ++ (y :: (((x.ports4.drop (q + 1)).filter fun p => decide (0 ≤ p.1)) ++ rest)) = xs) := Lib.hid (by rw [← HP.out, drop_at hy0, List.filter_cons, if_pos (by simpa using hpos)]; rfl)
            clear HP hy0
            obtain ⟨fn, tmps, assign, body, hy, hR⟩ := hY pre.length y _ (at_pre HP1.out) hJa
            have HR := Lib.hid hR
            clear hR
            gi_wp2
            refine RoundIn.mono (RoundIn.wide HR.out) ?_
            clear HR hy hix
            rintro e W3 (⟨rfl, hJ3, hk3⟩ | ⟨rfl, hJx3, hk3⟩)
            · gi_wp2
              go_roundw
              case rel => exact ⟨q + 1, pre ++ [y], hql, by go_num, by rw [List.length_append]; exact hJ3, hk.trans ((Keeps.below (below1 wr _)).trans (hk3.keeps HD.out)), Lib.hid (push_pre HP1.out)⟩
              case measure => simp [intOf]; omega
            · gi_wp2
              refine bodyPost_ret (results_none rfl _ _ _) rfl ?_
              exact ⟨⟨_, rfl⟩, .inr hJx3⟩
          · have HP1 : Hid (pre ++ (((x.ports4.drop (q + 1)).filter fun p => decide (0 ≤ p.1)) ++ rest) = xs) := Lib.hid (by rw [← HP.out, drop_at hy0, List.filter_cons, if_neg (by simpa using hpos)])
            clear HP hy0
            have hpos' : decide (0 ≤ y.1) = false := decide_eq_false hpos
            clear hpos
            gi_wp2
            all_goals try (refine ⟨fun f h => (by cases h), ?_⟩; gi_wp2)
            go_roundw
            case rel => exact ⟨q + 1, pre, hql, by go_num, hJa, hk.trans (Keeps.below (below1 wr _)), HP1⟩
            case measure => simp [intOf]; omega
        · obtain rfl : q = 4 := by omega
          have HP1 : Hid (pre ++ rest = xs) := Lib.hid (by rw [← HP.out]; rfl)
          clear HP
          rw [show ((4 : Nat) : Int) = 4 from rfl]
          gi_wp2
          go_roundw
          case rel => exact ⟨j + 1, pre, hlt, by go_num, hJs, hk, Lib.hid (by rw [HRe.out]; exact HP1.out)⟩
          case measure => simp [intOf]; omega
    · obtain rfl : j = l.secs.length := by omega
      have HE : Hid (pre.length = xs.length) := Lib.hid (by rw [← HP.out, List.drop_length]; simp)
      gi_wp2
      go_end0
      exact ⟨⟨_, rfl⟩, .inl (HE.out ▸ hJs)⟩
end Go.Proofs.YtbalcbnlpgekaaaDoor
