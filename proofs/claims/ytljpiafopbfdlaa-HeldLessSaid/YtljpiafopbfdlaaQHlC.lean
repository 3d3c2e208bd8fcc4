/- Package held: the needs that still hold, one by one. -/
import Derived.RangeFuncNested
import Derived.RangeFuncBound
import Derived.RangeFuncCalls
import Derived.RangeFuncLeaves
import Derived.RangeFuncBox
import Derived.Shelf.Abstract
import Derived.Shelf.RegionOpen
import Derived.WalkKit
import Derived.OwnWalkIn
import Derived.TacticsInMore
import Derived.LoopNIn
import Derived.LoopIn
import Derived.WalkMore
import Derived.Deep.CutRange
import Derived.Test.YtljpiafopbfdlaaQHlB
namespace Go.Proofs.Ytljpiafopbfdlaa
open Go.RowKit Go.Shelf
set_option linter.unusedVariables false
set_option linter.unusedSimpArgs false

theorem exec_need {o : Oper} {a : Act} {x : Operand} (ho : o.op = .load 40 x) {g : Nat} (hx : a.eval x = .pointer (some ⟨g, 0, none⟩)) {W : World} {x1 x2 x3 : Int} (hb : Whole W g 40 [.int .i64 x1, .int .i64 x2, .int .i64 x3]) : (execOp a.eval o).run Try.prog W = .ok (.value (stpV x1 x2 x3)) W := by
  have x0 := hb.cell_at 0 rfl
  have x1 := hb.cell_at 1 rfl
  have x2 := hb.cell_at 2 rfl
  unfold execOp
  simp only [ho, hx]
  go_simp
theorem filt_yes {α : Type} {p : α → Bool} {l : List α} {j : Nat} {x : α} (hx : l[j]? = some x) (hp : p x = true) {pre xs : List α} (h : pre ++ (l.drop j).filter p = xs) : pre ++ x :: (l.drop (j + 1)).filter p = xs := by
  obtain ⟨hl, rfl⟩ := List.getElem?_eq_some_iff.1 hx
  rw [List.drop_eq_getElem_cons hl, List.filter_cons_of_pos hp] at h
  exact h
theorem filt_no {α : Type} {p : α → Bool} {l : List α} {j : Nat} {x : α} (hx : l[j]? = some x) (hp : p x = false) {pre xs : List α} (h : pre ++ (l.drop j).filter p = xs) : pre ++ (l.drop (j + 1)).filter p = xs := by
  obtain ⟨hl, rfl⟩ := List.getElem?_eq_some_iff.1 hx
  rw [List.drop_eq_getElem_cons hl, List.filter_cons_of_neg (by rw [hp]; decide)] at h
  exact h
theorem filt_at {α : Type} {pre rest xs : List α} {x : α} (h : pre ++ x :: rest = xs) : xs[pre.length]? = some x := by rw [← h, List.getElem?_append_right (Nat.le_refl _), Nat.sub_self]; rfl
theorem filt_push {α : Type} {pre rest xs : List α} {x : α} (h : pre ++ x :: rest = xs) : (pre ++ [x]) ++ rest = xs := by rw [← h, List.append_assoc]; rfl
set_option maxRecDepth 100000 in
set_option maxHeartbeats 32000000 in
theorem needs_iter {wa w0 : World} {g gf n1 n2 : Nat} {h : Hld} (hl : HLies h wa) (hka : Keeps (· < wa.heap.size) wa w0) (hn : NeedsAt h n1 n2 g gf w0) :
    IterU Try.prog 53 #[.pointer (some ⟨g, 0, none⟩), .pointer (some ⟨gf, 0, none⟩)] (fun x : Int × Int × Int => #[stpV x.1 x.2.1 x.2.2]) h.needs (fun k => k < wa.heap.size ∨ (n1 ≤ k ∧ k < n2)) w0 := by
  intro L J Jx W hk0 hRl hJ hJx hY h0
  obtain ⟨R, hR⟩ : ∃ R : Nat → Prop, (fun k => k < wa.heap.size ∨ (n1 ≤ k ∧ k < n2)) = R := ⟨_, rfl⟩
  have HF : Hid (∀ W', Keeps R w0 W' → Row W' wa.heap.size h.nA (h.ns.flatMap needCells)) := Lib.hid fun W' hk => by
    rw [← hR] at hk
    exact hl.nrow.keeps (hka.trans (hk.sub fun k h => .inl h)) (fun _ h => h)
  have HG : Hid (∀ W', Keeps R w0 W' → NeedsAt h n1 n2 g gf W') := Lib.hid fun W' hk => hn.keeps hk (fun k h => by rw [← hR]; exact .inr h)
  have hnl := hl.nlen
  rw [hR] at hk0 hRl hY
  obtain ⟨B, hB⟩ : ∃ B, W.heap.size = B := ⟨_, rfl⟩
  have x5 := (HG.out _ hk0).box.cell_at 5 rfl
  rw [hB] at hJ hJx hY hRl
  obtain ⟨ns, hns⟩ : ∃ ns, h.ns = ns := ⟨_, rfl⟩
  obtain ⟨xs, hxs⟩ : ∃ xs, h.needs = xs := ⟨_, rfl⟩
  have HP0 : Hid ([] ++ (ns.drop 0).filter h.still = xs) := Lib.hid (by rw [← hns, ← hxs]; rfl)
  rw [hns] at HF hnl x5
  rw [hxs] at hY ⊢
  have HBW : Hid (B ≤ W.heap.size) := Lib.hid (by omega)
  clear hR hka hn hRl hl hns hxs hB
  refine (callsIn_wide (n := 3)).1 ?_
  refine callsIn_of_wp Try.func53 rfl trivial ?_ rfl
  simp only [Try.ntmps53, List.size_toArray, List.length_cons, List.length_nil, Nat.reduceAdd, Nat.reduceSub, Array.replicate_succ, Array.replicate_zero, List.push_toArray, List.append_toArray, List.nil_append, List.cons_append]
  gi_wp2_with fail
  clear x5
  gi_loopw [9] (fun i wr => ∃ (j : Nat) (pre : List (Int × Int × Int)) (U : Nat → Prop), j ≤ ns.length ∧ i = .int .i64 j ∧ J U pre.length wr ∧ (∀ k, U k → k < wr.heap.size) ∧ Keeps R w0 wr ∧ Hid (pre ++ (ns.drop j).filter h.still = xs))
    (fun i _ => ns.length - (intOf i).toNat)
  case atStart => exact ⟨0, [], fun _ => False, by omega, rfl, h0, fun k h => h.elim, hk0, HP0⟩
  case round =>
    clear h0 hk0 HP0
    obtain ⟨j, pre, U, hj, rfl, hJj, hUl, hk, HP⟩ := hrel
    by_cases hlt : j < ns.length
    · have hlt' : (j : Int) < ns.length := by omega
      obtain ⟨⟨f1, f2, f3⟩, hx⟩ : ∃ x, ns[j]? = some x := ⟨_, List.getElem?_eq_getElem hlt⟩
      obtain ⟨b, off, hA, _, hc0, hc⟩ := (HF.out _ hk).nth (n := 3) (fun _ => rfl) (by omega) hx
      have HX := Lib.hid hx
      have c0 := hc0 j _ _ hx rfl
      have c1 := hc j _ 1 _ hx rfl
      have c2 := hc j _ 2 _ hx rfl
      clear hx hc0 hc
      have hb4 := below1 wr (.cells #[.int .i64 f1, .int .i64 f2, .int .i64 f3] 40)
      have hbx := Whole.new wr 40 [.int .i64 f1, .int .i64 f2, .int .i64 f3]
      have hJ2 := hJ _ _ _ _ hJj (Stays.below hb4)
      have hk2 := hk.trans (Keeps.below hb4)
      have hU2 : ∀ k, U k → k < (wr.alloc (.cells #[.int .i64 f1, .int .i64 f2, .int .i64 f3] 40)).heap.size := fun k h => Nat.lt_of_lt_of_le (hUl k h) hb4.size
      obtain ⟨v, hv, g1, g2, gb, rfl, _, _, _, s1, s2, s3⟩ := (HG.out _ hk2).fn
      obtain ⟨r, hr⟩ : ∃ r, h.still (f1, f2, f3) = r := ⟨_, rfl⟩
      have KS := Lib.hid (still1_any s1 s2 s3 f1 f2 f3 hr)
      have y0 := hv.cell_at 0 rfl
      have HBX := Lib.hid hbx
      have HR := Lib.hid hr
      have HK2 := Lib.hid hk2
      have HJ2 := Lib.hid hJ2
      have HU2 := Lib.hid hU2
      have z0 := hbx.cell_at 0 rfl
      have z1 := hbx.cell_at 1 rfl
      have z2 := hbx.cell_at 2 rfl
      rw [hA]
      have HA := Lib.hid hA
      clear hA hJj hk hUl hb4 hbx hJ2 hk2 hU2 hv s1 s2 s3 hr
      gi_wp2_with fail
      refine ⟨trivial, (callsIn_wide.2 KS.out).mono ?_⟩
      clear KS y0 z0 z1 z2 c0 c1 c2
      rintro e W3 ⟨rfl, hB3⟩
      have HJ3 := Lib.hid (hJ _ _ _ _ HJ2.out (Stays.below hB3))
      have HK3 := Lib.hid (HK2.out.trans (Keeps.below hB3))
      have HU3 : Hid (∀ k, U k → k < W3.heap.size) := Lib.hid fun k h => Nat.lt_of_lt_of_le (HU2.out k h) hB3.size
      have hbx := HBX.out.below hB3 HBX.out.lt
      clear HJ2 HK2 HU2 hB3
      cases r
      · have HPN := Lib.hid (filt_no HX.out HR.out HP.out)
        clear hbx
        gi_wp2_with fail
        refine ⟨fun f h => (by cases h), ?_⟩
        gi_wp2_with fail
        go_roundw
        case rel => exact ⟨j + 1, pre, U, hlt, by go_num, HJ3.out, HU3.out, HK3.out, HPN⟩
        case measure => simp [intOf]; omega
      · have HPY := Lib.hid (filt_yes HX.out HR.out HP.out)
        have z0 := hbx.cell_at 0 rfl
        have z1 := hbx.cell_at 1 rfl
        have z2 := hbx.cell_at 2 rfl
        obtain ⟨fn, tmps, assign, body, hy, hRd⟩ := hY U _ _ _ (filt_at HPY.out) HJ3.out HU3.out
        have HRD := Lib.hid hRd
        clear hbx hRd HJ3
        gi_wp2_with fail
        refine RoundIn.mono (RoundIn.wide HRD.out) ?_
        clear HRD hy z0 z1 z2
        rintro e W4 ⟨U', hg', hk', (⟨rfl, hJ4⟩ | ⟨rfl, hJx4⟩)⟩
        · have hk4 := HK3.out.trans hk'.keeps
          have hU4 := hg'.lt
          clear hg' hk' HK3
          gi_wp2_with fail
          go_roundw
          case rel => exact ⟨j + 1, pre ++ [(f1, f2, f3)], U', hlt, by go_num, by rw [List.length_append]; exact hJ4, hU4, hk4, Lib.hid (filt_push HPY.out)⟩
          case measure => simp [intOf]; omega
        · have hU4 := hg'.lt
          gi_wp2
          refine bodyPost_ret (results_none rfl _ _ _) rfl ?_
          exact ⟨⟨_, rfl⟩, U', hU4, .inr hJx4⟩
    · obtain rfl : j = ns.length := by omega
      have HE : Hid (pre.length = xs.length) := Lib.hid (by rw [← HP.out, List.drop_eq_nil_of_le (Nat.le_refl _)]; simp)
      rw [HE.out] at hJj
      gi_wp2_with fail
      go_end0
      exact ⟨⟨_, rfl⟩, U, hUl, .inl hJj⟩

end Go.Proofs.Ytljpiafopbfdlaa
