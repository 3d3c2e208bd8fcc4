/- Package layout: the makers of iterators; the ports that are named. -/
import Derived.RangeFuncNested
import Derived.RangeFuncBound
import Derived.RangeFuncCalls
import Derived.RangeFuncLeaves
import Derived.RangeFuncBox
import Derived.Shelf.Abstract
import Derived.Shelf.RegionOpen
import Derived.WalkKit
import Derived.OwnWalkIn
import Derived.TacticsInMore
import Derived.LoopNIn
import Derived.LoopIn
import Derived.WalkMore
import Derived.Test.YtbalcbnlpgekaaaDoorLayI
namespace Go.Proofs.YtbalcbnlpgekaaaDoor
open Go.RowKit Go.Shelf
set_option linter.unusedVariables false
set_option linter.unusedSimpArgs false

attribute [local go_sem] Oper.semAt_some

set_option maxHeartbeats 1000000 in
theorem joins_any (l : Lay) (w : World) : Calls Tryd.prog 81 #[l.val] w fun e w' => e = .returned (.func (.func 93) #[] #[.pointer (some ⟨w.heap.size, 0, none⟩)]) ∧ w' = w.alloc (.cells #[.slice l.As l.secs.length l.cs, .slice l.Ag l.sigs.length l.cg, .slice l.Ae l.exits.length l.ce, .slice l.Af l.flanks.length l.cf, .int .i64 l.t0, .int .i64 l.t1, .int .i64 l.t2, .int .i64 l.t3, .int .i64 l.t4, .int .i64 l.t5, .int .i64 l.t6] 29) := by
  go_enter Tryd.func81, Tryd.ntmps81
  go_wp2_with fail
  go_ret
  exact ⟨rfl, rfl⟩

set_option maxHeartbeats 1000000 in
theorem portsOf_any (l : Lay) (w : World) : Calls Tryd.prog 46 #[l.val] w fun e w' => e = .returned (.func (.func 80) #[] #[.pointer (some ⟨w.heap.size, 0, none⟩)]) ∧ w' = w.alloc (.cells #[.slice l.As l.secs.length l.cs, .slice l.Ag l.sigs.length l.cg, .slice l.Ae l.exits.length l.ce, .slice l.Af l.flanks.length l.cf, .int .i64 l.t0, .int .i64 l.t1, .int .i64 l.t2, .int .i64 l.t3, .int .i64 l.t4, .int .i64 l.t5, .int .i64 l.t6] 29) := by
  go_enter Tryd.func46, Tryd.ntmps46
  go_wp2_with fail
  go_ret
  exact ⟨rfl, rfl⟩

set_option maxHeartbeats 1000000 in
theorem stepsOf_any (l : Lay) (w : World) : Calls Tryd.prog 48 #[l.val] w fun e w' => e = .returned (.func (.func 82) #[] #[.pointer (some ⟨w.heap.size, 0, none⟩)]) ∧ w' = w.alloc (.cells #[.slice l.As l.secs.length l.cs, .slice l.Ag l.sigs.length l.cg, .slice l.Ae l.exits.length l.ce, .slice l.Af l.flanks.length l.cf, .int .i64 l.t0, .int .i64 l.t1, .int .i64 l.t2, .int .i64 l.t3, .int .i64 l.t4, .int .i64 l.t5, .int .i64 l.t6] 29) := by
  go_enter Tryd.func48, Tryd.ntmps48
  go_wp2_with fail
  go_ret
  exact ⟨rfl, rfl⟩

set_option maxHeartbeats 1000000 in
theorem valuesFlank_any (A : Option Addr) (n c : Nat) (w : World) : Calls Tryd.prog 50 #[.slice A n c] w fun e w' => e = .returned (.func (.func 83) #[] #[.pointer (some ⟨w.heap.size, 0, none⟩)]) ∧ w' = w.alloc (.cells #[.slice A n c] 25) := by
  go_enter Tryd.func50, Tryd.ntmps50
  go_wp2_with fail
  go_ret
  exact ⟨rfl, rfl⟩

set_option maxHeartbeats 1000000 in
theorem valuesInt_any (A : Option Addr) (n c : Nat) (w : World) : Calls Tryd.prog 76 #[.slice A n c] w fun e w' => e = .returned (.func (.func 88) #[] #[.pointer (some ⟨w.heap.size, 0, none⟩)]) ∧ w' = w.alloc (.cells #[.slice A n c] 114) := by
  go_enter Tryd.func76, Tryd.ntmps76
  go_wp2_with fail
  go_ret
  exact ⟨rfl, rfl⟩

/-- The ports that are named. -/
def portsL (l : Lay) : List (Int × Int) := joinsL l ++ (l.sigs ++ l.exits.map fun x => (x.s, x.q))
theorem Keeps.lt {R : Nat → Prop} {A B : World} (h : Keeps R A B) {k : Nat} (hk : R k) (hl : k < A.heap.size) : k < B.heap.size :=
  (Array.getElem?_eq_some_iff.1 (h k _ hk (Array.getElem?_eq_getElem hl))).1

set_option maxRecDepth 100000 in
set_option maxHeartbeats 8000000 in
theorem ports_iter {w0 : World} {g n0 : Nat} {l : Lay} (hbox : Whole w0 g 29 l.cells) (hn0 : n0 ≤ w0.heap.size) (hrS : Row w0 n0 l.As (l.secs.flatMap Sec.cells)) (hrG : Row w0 n0 l.Ag (l.sigs.flatMap prtCells)) (hrE : Row w0 n0 l.Ae (l.exits.flatMap Exm.cells))
    (hnS : (l.secs.length : Int) ≤ 9223372036854775807) (hnG : (l.sigs.length : Int) ≤ 9223372036854775807) (hnE : (l.exits.length : Int) ≤ 9223372036854775807) :
    Iter Tryd.prog 80 #[.pointer (some ⟨g, 0, none⟩)] (fun x : Int × Int => #[(prtV x.1 x.2)]) (portsL l) (fun k => k < n0 ∨ k = g) w0 := by
  intro L S J Jx W hk0 hS hJ hJx hY h0
  have HD : Hid (∀ k, S k → ¬ (k < n0 ∨ k = g)) := Lib.hid (fun k hk => (hS k hk).1)
  have HSl : Hid (∀ k, S k → k < W.heap.size) := Lib.hid (fun k hk => (hS k hk).2)
  have HRl : Hid (∀ k, (k < n0 ∨ k = g) → k < W.heap.size) := Lib.hid (fun k hk => hk0.lt hk (hk.elim (fun h => Nat.lt_of_lt_of_le h hn0) (fun h => by subst h; exact hbox.lt)))
  have hbw := hk0.whole (.inr rfl) hbox
  obtain ⟨xs, HXS⟩ : ∃ xs, Hid (portsL l = xs) := ⟨_, Lib.hid rfl⟩
  rw [HXS.out] at hY ⊢
  have HXS2 : Hid (joinsL l ++ (l.sigs ++ l.exits.map fun x => (x.s, x.q)) = xs) := HXS
  clear HXS hS
  have HJo := Lib.hid (fun W0 (h1 : Whole W0 (W.heap.size + 1) 29 l.cells) (h2 : Row W0 n0 l.As (l.secs.flatMap Sec.cells)) => joins_iter (n0 := n0) h1 h2 hnS)
  have HJA := Lib.hid (fun w => joins_any l w)
  obtain ⟨js, HJs⟩ : ∃ js, Hid (joinsL l = js) := ⟨_, Lib.hid rfl⟩
  rw [HJs.out] at HXS2 HJo
  clear HJs
  obtain ⟨secs, As, cs, sigs, Ag, cg, exits, Ae, ce, flanks, Af, cf, t0, t1, t2, t3, t4, t5, t6⟩ := l
  simp only at hrS hrG hrE hnS hnG hnE HXS2
  have hba := hbw.alloc (.cells #[.func (.yield L) #[] #[]] 69)
  have x0 := hba.cell_at 0 rfl
  have x1 := hba.cell_at 1 rfl
  have x2 := hba.cell_at 2 rfl
  have x3 := hba.cell_at 3 rfl
  have x4 := hba.cell_at 4 rfl
  have x5 := hba.cell_at 5 rfl
  have x6 := hba.cell_at 6 rfl
  have x7 := hba.cell_at 7 rfl
  have x8 := hba.cell_at 8 rfl
  have x9 := hba.cell_at 9 rfl
  have x10 := hba.cell_at 10 rfl
  clear hba
  refine (callsIn_wide (n := 5)).1 ?_
  refine callsIn_of_wp_marks Tryd.func80 rfl trivial ?_ rfl
  simp only [Tryd.ntmps80, List.size_toArray, List.length_cons, List.length_nil, Nat.reduceAdd, Nat.reduceSub, Array.replicate_succ, Array.replicate_zero, List.push_toArray, List.append_toArray, List.nil_append, List.cons_append]
  gi_wp2_with fail
  refine ⟨trivial, (callsIn_wide.2 (HJA.out _)).mono ?_⟩
  clear x0 x1 x2 x3 x4 x5 x6 x7 x8 x9 x10
  rintro e w2 ⟨rfl, rfl⟩
  gi_wp2_with fail
  obtain ⟨W0, hW0, hsz, hB0, b0, b1⟩ : ∃ W0, ((W.alloc (.cells #[.func (.yield L) #[] #[]] 69)).alloc (.cells #[.slice As secs.length cs, .slice Ag sigs.length cg, .slice Ae exits.length ce, .slice Af flanks.length cf, .int .i64 t0, .int .i64 t1, .int .i64 t2, .int .i64 t3, .int .i64 t4, .int .i64 t5, .int .i64 t6] 29)) = W0 ∧ W0.heap.size = W.heap.size + 2 ∧ Below W.heap.size W W0 ∧ Whole W0 W.heap.size 69 [.func (.yield L) #[] #[]] ∧ Whole W0 (W.heap.size + 1) 29 [.slice As secs.length cs, .slice Ag sigs.length cg, .slice Ae exits.length ce, .slice Af flanks.length cf, .int .i64 t0, .int .i64 t1, .int .i64 t2, .int .i64 t3, .int .i64 t4, .int .i64 t5, .int .i64 t6] :=
    ⟨_, rfl, by simp, below2 _ _ _, (Whole.new W _ [_]).alloc _, Whole.new_at _ _ [_, _, _, _, _, _, _, _, _, _, _] _ (by simp)⟩
  rw [hW0]
  have hk1 := hk0.trans (Keeps.below (R := fun k => k < n0 ∨ k = g) hB0)
  have hJ0 : J 0 W0 := by rw [← hW0]; exact hJ.alloc _ (hJ.alloc _ h0)
  clear hW0 h0
  have hin := HJo.out W0 b1 (hrS.keeps hk1 (fun k hk => .inl hk))
  clear HJo HJA
  refine range_iter (gf := 93) rfl (enters_of Tryd.func93 (by kernel_rfl) rfl) hin (Keeps.refl _ _) (fun k hk => by
      rcases hk with h | rfl
      · have := HRl.out k (.inl h); omega
      · omega) (fun _ => rfl) (by omega)
    S (fun k hk e => by
      rcases e with h | rfl
      · exact HD.out k hk (.inl h)
      · have := HSl.out _ hk; omega) (fun k hk => by have := HSl.out k hk; omega)
    (fun j W1 => (J j W1 ∧ Whole W1 W.heap.size 69 [.func (.yield L) #[] #[]]) ∧ Keeps (fun k => k < n0 ∨ k = g) w0 W1)
    (fun c W1 => Jx W1 ∧ c = .ret)
    (OwnFrom.and (OwnFrom.and (OwnFrom.up hJ (by omega)) (Own.from (fun s X Y row hs hg hr => hs.abides hg hr) _)) (Keeps.own (fun k hk => by have := HRl.out k hk; omega)))
    (fun c => OwnFrom.and (OwnFrom.up hJx (by omega)) (ownFrom_pure _ _))
    ⟨⟨hJ0, b0⟩, hk1⟩
    (fun _ x a' W1 => ∃ Bx, Whole W1 Bx 31 (prtCells x) ∧ a' = { tmps := #[.func (.yield L) #[] #[], .pointer (some ⟨g, 0, none⟩), .pointer (some ⟨W.heap.size, 0, none⟩), .pointer (some ⟨Bx, 0, none⟩), undef, undef, undef, undef, .agg #[.slice As secs.length cs, .slice Ag sigs.length cg, .slice Ae exits.length ce, .slice Af flanks.length cf, .int .i64 t0, .int .i64 t1, .int .i64 t2, .int .i64 t3, .int .i64 t4, .int .i64 t5, .int .i64 t6], .func (.func 93) #[] #[.pointer (some ⟨W.heap.size + 1, 0, none⟩)], (prtV x.1 x.2), undef, undef, undef, undef, undef, undef, undef, undef, undef, undef, undef, undef, undef, undef, undef, undef, undef, undef, undef, undef, undef, undef, undef, undef, undef, undef, undef, undef, undef, undef], defers := [] })
    (fun _ x a' _ X Y row hs hg hr => by obtain ⟨Bx, h2, h3⟩ := hs; exact ⟨Bx, h2.abides hg (fun r e => (hr r e).2), h3⟩)
    ?assign ?body ?done ?stop
  case assign =>
    rintro l2 j x W1 K hx ⟨⟨hj, b0⟩, hk⟩ hK
    gi_wp2_with fail
    exact hK _ _ (Off.below (below1 _ _)) ⟨⟨hJ.alloc _ hj, b0.alloc _⟩, hk.trans (Keeps.below (below1 _ _))⟩ ⟨W1.heap.size, Whole.new W1 _ (prtCells _), rfl⟩
  case body =>
    rintro l2 j x a' W1 hl hx ⟨⟨hj, b0⟩, hk⟩ ⟨Bx, bX, rfl⟩
    have c0 := b0.cell_at 0 rfl
    have y0 := bX.cell_at 0 rfl
    have y1 := bX.cell_at 1 rfl
    obtain ⟨fn, tmps, assign, body, hy, hR⟩ := hY j x W1 (by rw [← HXS2.out, List.getElem?_append_left (List.getElem?_eq_some_iff.1 hx).1]; exact hx) hj
    have HR := Lib.hid hR
    clear hR
    gi_wp2_with fail
    refine RoundIn.mono (RoundIn.wideAny HR.out) ?_
    clear HR hy c0 y0 y1
    rintro e W3 (⟨rfl, hJ3, hk3⟩ | ⟨rfl, hJx3, hk3⟩)
    · gi_wp2_with fail
      exact ⟨hk3, ⟨hJ3, hk3.whole b0 (fun e => by have := HSl.out _ e; omega)⟩, hk.trans (hk3.keeps HD.out)⟩
    · gi_wp2_with fail
      exact ⟨hk3, hJx3, rfl⟩
  case done =>
    rintro D W1 hD ⟨⟨hj, b0⟩, hk⟩ hK
    have hDS : Hid (¬ S D) := Lib.hid (fun e => by have := HSl.out _ e; omega)
    have hbS : Hid (¬ S W.heap.size) := Lib.hid (fun e => by have := HSl.out _ e; omega)
    have hWD : Hid (W.heap.size ≤ D) := Lib.hid (by omega)
    have x1 := (hk.whole (.inr rfl) hbox).cell_at 1 rfl
    gi_wp2_with fail
    clear x1
    gi_loopw [18] (fun i wr => ∃ q : Nat, q ≤ sigs.length ∧ i = .int .i64 q ∧ J (js.length + q) wr ∧ Whole wr W.heap.size 69 [.func (.yield L) #[] #[]] ∧ Keeps (fun k => k < n0 ∨ k = g) w0 wr ∧ wr.heap[D]? = some (.deferred (some [])))
      (fun i _ => sigs.length - (intOf i).toNat)
    case atStart => exact ⟨0, by omega, rfl, hj, b0, hk, hK⟩
    case round =>
      clear hj b0 hk hK
      obtain ⟨q, hq, rfl, hj, b0, hk, hK⟩ := hrel
      by_cases hlt : q < sigs.length
      · have hlt' : (q : Int) < sigs.length := by omega
        obtain ⟨x, hx⟩ : ∃ x, sigs[q]? = some x := ⟨_, List.getElem?_eq_getElem hlt⟩
        have HX := Lib.hid hx
        clear hx
        obtain ⟨b, off, rfl, _, hc0, hc⟩ := (hrG.keeps hk (fun k hk => .inl hk)).nth (n := 2) (fun _ => rfl) (by omega) HX.out
        have c0 := hc0 q x _ HX.out rfl
        have c1 := hc q x 1 _ HX.out rfl
        clear hc0 hc
        have z0 := (b0.alloc (.cells (prtCells x).toArray 50)).cell_at 0 rfl
        have hJa := hJ.alloc (.cells (prtCells x).toArray 50) hj
        obtain ⟨fn, tmps, assign, body, hy, hR⟩ := hY (js.length + q) x _ (by rw [← HXS2.out, List.getElem?_append_right (by omega), List.getElem?_append_left (by omega), Nat.add_sub_cancel_left]; exact HX.out) hJa
        have HR := Lib.hid hR
        clear hR
        gi_wp2_with fail
        refine RoundIn.mono (RoundIn.wide HR.out) ?_
        clear HR hy c0 c1 z0
        have hB1 := below1 wr (.cells (prtCells x).toArray 50)
        have HB0 := Lib.hid (b0.alloc (.cells (prtCells x).toArray 50))
        have HK0 := Lib.hid ((hB1.block D (Array.getElem?_eq_some_iff.1 hK).1).trans hK)
        rintro e W3 (⟨rfl, hJ3, hk3⟩ | ⟨rfl, hJx3, hk3⟩)
        · gi_wp2_with fail
          go_roundw
          case rel => exact ⟨q + 1, hlt, by go_num, hJ3, hk3.whole HB0.out hbS.out, hk.trans ((Keeps.below hB1).trans (hk3.keeps HD.out)), hk3.rest _ _ HK0.out hDS.out⟩
          case measure => simp [intOf]; omega
        · have hK3 := hk3.rest _ _ HK0.out hDS.out
          gi_wp2_with fail
          refine ⟨by simp, .inl ⟨_, _, rfl, run_takeDeferred hK3, ?_⟩⟩
          exact ⟨_, results_none rfl _ _ _, ⟨_, rfl⟩, .inr (hJx.putObj (s := ()) _ hJx3 hWD.out hK3 rfl)⟩
      · obtain rfl : q = sigs.length := by omega
        have x2 := (hk.whole (.inr rfl) hbox).cell_at 2 rfl
        gi_wp2_with fail
        clear x2
        gi_loopw [31] (fun i wr => ∃ q : Nat, q ≤ exits.length ∧ i = .int .i64 q ∧ J (js.length + sigs.length + q) wr ∧ Whole wr W.heap.size 69 [.func (.yield L) #[] #[]] ∧ Keeps (fun k => k < n0 ∨ k = g) w0 wr ∧ wr.heap[D]? = some (.deferred (some [])))
          (fun i _ => exits.length - (intOf i).toNat)
        case atStart => exact ⟨0, by omega, rfl, hj, b0, hk, hK⟩
        case round =>
          clear hj b0 hk hK
          obtain ⟨q, hq, rfl, hj, b0, hk, hK⟩ := hrel
          by_cases hlt : q < exits.length
          · have hlt' : (q : Int) < exits.length := by omega
            obtain ⟨x, hx⟩ : ∃ x, exits[q]? = some x := ⟨_, List.getElem?_eq_getElem hlt⟩
            have HX := Lib.hid hx
            clear hx
            obtain ⟨b, off, rfl, _, hc0, hc⟩ := (hrE.keeps hk (fun k hk => .inl hk)).nth (n := 3) (fun _ => rfl) (by omega) HX.out
            have c0 := hc0 q x _ HX.out rfl
            have c1 := hc q x 1 _ HX.out rfl
            have c2 := hc q x 2 _ HX.out rfl
            clear hc0 hc
            have z0 := (b0.alloc (.cells x.cells.toArray 53)).cell_at 0 rfl
            have hJa := hJ.alloc (.cells x.cells.toArray 53) hj
            obtain ⟨fn, tmps, assign, body, hy, hR⟩ := hY (js.length + sigs.length + q) (x.s, x.q) _ (by rw [← HXS2.out, List.getElem?_append_right (by omega), List.getElem?_append_right (by omega), List.getElem?_map, show js.length + sigs.length + q - js.length - sigs.length = q by omega, HX.out]; rfl) hJa
            have HR := Lib.hid hR
            clear hR
            simp only at hy
            gi_wp2_with fail
            refine RoundIn.mono (RoundIn.wide HR.out) ?_
            clear HR hy c0 c1 c2 z0
            have hB1 := below1 wr (.cells x.cells.toArray 53)
            have HB0 := Lib.hid (b0.alloc (.cells x.cells.toArray 53))
            have HK0 := Lib.hid ((hB1.block D (Array.getElem?_eq_some_iff.1 hK).1).trans hK)
            rintro e W3 (⟨rfl, hJ3, hk3⟩ | ⟨rfl, hJx3, hk3⟩)
            · gi_wp2_with fail
              go_roundw
              case rel => exact ⟨q + 1, hlt, by go_num, hJ3, hk3.whole HB0.out hbS.out, hk.trans ((Keeps.below hB1).trans (hk3.keeps HD.out)), hk3.rest _ _ HK0.out hDS.out⟩
              case measure => simp [intOf]; omega
            · have hK3 := hk3.rest _ _ HK0.out hDS.out
              gi_wp2_with fail
              refine ⟨by simp, .inl ⟨_, _, rfl, run_takeDeferred hK3, ?_⟩⟩
              exact ⟨_, results_none rfl _ _ _, ⟨_, rfl⟩, .inr (hJx.putObj (s := ()) _ hJx3 hWD.out hK3 rfl)⟩
          · obtain rfl : q = exits.length := by omega
            have HE : Hid (js.length + sigs.length + exits.length = xs.length) := Lib.hid (by rw [← HXS2.out]; simp; omega)
            gi_wp2_with fail
            refine ⟨by simp, .inl ⟨_, _, rfl, run_takeDeferred hK, ?_⟩⟩
            exact ⟨_, results_none rfl _ _ _, ⟨_, rfl⟩, .inl (HE.out ▸ hJ.putObj _ hj hWD.out hK rfl)⟩
  case stop =>
    rintro D c W1 hD ⟨hx, rfl⟩ hK
    gi_wp2_with fail
    refine ⟨by simp, .inl ⟨_, _, rfl, run_takeDeferred hK, ?_⟩⟩
    exact ⟨_, results_none rfl _ _ _, ⟨_, rfl⟩, .inr (hJx.putObj (s := ()) _ hx (by omega) hK rfl)⟩
end Go.Proofs.YtbalcbnlpgekaaaDoor
