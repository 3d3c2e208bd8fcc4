/- Package tick: within, ticks, onBy: what they answer, over the tops as the program lays them. Package tick: what its functions answer; the document's own; what the document says of a few (wakes). -/
import Derived.RangeFuncNested
import Derived.RangeFuncBound
import Derived.RangeFuncCalls
import Derived.RangeFuncLeaves
import Derived.RangeFuncBox
import Derived.Shelf.Abstract
import Derived.Shelf.RegionOpen
import Derived.WalkKit
import Derived.OwnWalkIn
import Derived.TacticsInMore
import Derived.LoopNIn
import Derived.LoopIn
import Derived.Lib.MinMax
import Derived.Test.YtniihmafbeplaaaDoorGen
namespace Go.Proofs.YtniihmafbeplaaaDoor
open Go.RowKit Go.Shelf
set_option linter.unusedVariables false
attribute [local go_sem] Oper.semAt_some

/-- Where clocks and counters stand still, as the table of them lies. -/
structure Tops (w : World) : Prop where
  clock : w.cell? ⟨0, 0, none⟩ = some (.int .i64 1073741824)
  count : w.cell? ⟨0, 1, none⟩ = some (.int .i64 65535)
theorem Tops.pos {w : World} (h : Tops w) : 0 < w.heap.size := World.block_lt_of_cell? w _ h.clock
theorem Tops.below {w w' : World} (h : Tops w) (hb : Below w.heap.size w w') : Tops w' := ⟨(hb.cell h.pos).trans h.clock, (hb.cell h.pos).trans h.count⟩

/-- A kind of number, and its top. -/
def IsTop (k T : Int) : Prop := (k = 0 ∧ T = 1073741824) ∨ (k = 1 ∧ T = 65535)
/-- The number that n counts as. -/
def cutAt (T n : Int) : Int := min (max n 0) T
/-- .. so many ticks on. -/
def onTk (T n b : Int) : Int := cutAt T n + max 0 (min b (T - cutAt T n))
def encTk (x : Int) : Array Value := #[.int .i64 x]

theorem withinTk_any (k T n : Int) (hk : IsTop k T) (w : World) (hT : Tops w) :
    Calls Tryd.prog 45 #[.int .i64 k, .int .i64 n] w fun e w' => e = .returned (.int .i64 (cutAt T n)) ∧ w' = w := by
  obtain ⟨c0, c1⟩ := hT
  rcases hk with ⟨rfl, rfl⟩ | ⟨rfl, rfl⟩
  · go_enter Tryd.func45, Tryd.ntmps45
    go_wp2
    all_goals
      go_ret
      exact ⟨ret_int (by unfold cutAt; omega), rfl⟩
  · go_enter Tryd.func45, Tryd.ntmps45
    go_wp2
    all_goals
      go_ret
      exact ⟨ret_int (by unfold cutAt; omega), rfl⟩

set_option maxRecDepth 100000 in
set_option maxHeartbeats 4000000 in
theorem ticks1_in (F : Fence) (m : Nat) (hF : F.fn 55) (hro : F.round = none) (hm : 1 ≤ m) (l Bb Bt Bn : Nat) (n b T : Int) (h0 : 0 ≤ n) (hn : n ≤ T) (hT : T ≤ 1073741824) (Kp : World → World → Prop) (Pp : Nat → Prop) (hKp : ∀ X Y, Kp X Y → KeepCells Pp X Y) (hBn : Pp Bn) (J Jx : List Int → World → Prop)
    (hY : ∀ pre x W, J pre W → pre.length < (min b (T - n)).toNat → YieldAt F (m - 1) Tryd.prog l #[.int .i64 x] W fun e W' =>
      (e = .returned (.bool true) ∧ J (pre ++ [x]) W' ∧ Kp W W') ∨ (e = .returned (.bool false) ∧ Jx (pre ++ [x]) W'))
    (W : World) (hb : W.cell? ⟨Bb, 0, none⟩ = some (.int .i64 b)) (ht : W.cell? ⟨Bt, 0, none⟩ = some (.int .i64 T)) (hx : W.cell? ⟨Bn, 0, none⟩ = some (.int .i64 n)) (hJ : J [] W) :
    CallsIn F m Tryd.prog 55 #[.func (.yield l) #[] #[], .pointer (some ⟨Bb, 0, none⟩), .pointer (some ⟨Bt, 0, none⟩), .pointer (some ⟨Bn, 0, none⟩)] W fun e W' => (∃ v, e = .returned v) ∧
      ((∃ ys, ys = first (fun j => n + j + 1) (min b (T - n)).toNat ∧ J ys W') ∨ (∃ pre, True ∧ Jx pre W')) := by
  obtain ⟨K, hK⟩ : ∃ K, min b (T - n) = K := ⟨_, rfl⟩
  rw [hK] at hY ⊢
  refine callsIn_of_wp Tryd.func55 rfl hF ?_ hro
  simp only [Tryd.ntmps55, List.size_toArray, List.length_cons, List.length_nil, Nat.reduceAdd, Nat.reduceSub, Array.replicate_succ, Array.replicate_zero, List.push_toArray, List.append_toArray, List.nil_append, List.cons_append]
  gi_wp2
  gi_loopw [11] (fun i wr => ∃ j : Nat, (j : Int) ≤ max K 0 ∧ i = .int .i64 j ∧ J (first (fun j => n + j + 1) j) wr ∧ KeepCells Pp W wr)
    (fun i _ => K.toNat - (intOf i).toNat)
  case atStart => exact ⟨0, by omega, rfl, hJ, KeepCells.refl _ _⟩
  case round =>
    obtain ⟨j, hj, rfl, hJs, hnx⟩ := hrel
    have hx' := (hnx ⟨Bn, 0, none⟩ hBn).trans hx
    by_cases hlt : (j : Int) < K
    · obtain ⟨fn, tmps, assign, body, hy, hR⟩ := hY _ (n + j + 1) wr hJs (by rw [first_length]; omega)
      have hov : n + j + 1 ≤ 1073741824 := by omega
      gi_wp2
      refine hR.mono ?_
      rintro e W3 (⟨rfl, hJ3, hk3⟩ | ⟨rfl, hJx3⟩)
      · gi_wp2
        go_roundw
        case rel => exact ⟨j + 1, by omega, by go_num, by rw [first_succ]; exact hJ3, hnx.trans (hKp _ _ hk3)⟩
        case measure => simp [intOf]; omega
      · gi_wp2
        refine bodyPost_ret (results_none rfl _ _ _) rfl ?_
        exact ⟨⟨_, rfl⟩, .inr ⟨_, trivial, hJx3⟩⟩
    · obtain rfl : j = K.toNat := by omega
      gi_wp2
      go_end0
      exact ⟨⟨_, rfl⟩, .inl hJs⟩

set_option maxHeartbeats 1000000 in
theorem ticks_in (F : Fence) (m : Nat) (hF : F.fn 53) (hro : F.round = none) (n b T : Int) (w : World) :
    CallsIn F m Tryd.prog 53 #[.int .i64 n, .int .i64 b, .int .i64 T] w fun e w' =>
      e = .returned (.func (.func 55) #[] #[.pointer (some ⟨w.heap.size + 1, 0, none⟩), .pointer (some ⟨w.heap.size + 1 + 1, 0, none⟩), .pointer (some ⟨w.heap.size, 0, none⟩)]) ∧
      w' = ((w.alloc (.cells #[.int .i64 n] 3)).alloc (.cells #[.int .i64 b] 3)).alloc (.cells #[.int .i64 T] 3) := by
  refine callsIn_of_wp Tryd.func53 rfl hF ?_ hro
  simp only [Tryd.ntmps53, List.size_toArray, List.length_cons, List.length_nil, Nat.reduceAdd, Nat.reduceSub, Array.replicate_succ, Array.replicate_zero, List.push_toArray, List.append_toArray, List.nil_append, List.cons_append]
  gi_wp2
  go_ret
  exact ⟨rfl, rfl⟩

theorem ticks_stops (F : Fence) (m : Nat) (hF : F.fn 55) (hro : F.round = none) (hm : 1 ≤ m) (Bb Bt Bn : Nat) (n b T : Int) (h0 : 0 ≤ n) (hn : n ≤ T) (hT : T ≤ 1073741824) (Kp : World → World → Prop) (Pp : Nat → Prop) (hKp : ∀ X Y, Kp X Y → KeepCells Pp X Y) (hBn : Pp Bn) (w : World)
    (hb : w.cell? ⟨Bb, 0, none⟩ = some (.int .i64 b)) (ht : w.cell? ⟨Bt, 0, none⟩ = some (.int .i64 T)) (hx : w.cell? ⟨Bn, 0, none⟩ = some (.int .i64 n)) :
    SeqStopsK F m Tryd.prog 55 #[.pointer (some ⟨Bb, 0, none⟩), .pointer (some ⟨Bt, 0, none⟩), .pointer (some ⟨Bn, 0, none⟩)] encTk Kp (fun ys => ys = first (fun j => n + j + 1) (min b (T - n)).toNat) (fun _ => True) (min b (T - n)).toNat w := fun l J Jx W hW _ _ hY hJ =>
  ticks1_in F m hF hro hm l Bb Bt Bn n b T h0 hn hT Kp Pp hKp hBn J Jx hY W ((hW.cell (World.block_lt_of_cell? w _ hb)).trans hb) ((hW.cell (World.block_lt_of_cell? w _ ht)).trans ht) ((hW.cell (World.block_lt_of_cell? w _ hx)).trans hx) hJ

theorem firstTk_last (n : Int) (K : Nat) : ((first (fun j => n + (j : Int) + 1) K).getLast?).getD n = n + K := by
  cases K with
  | zero => simp [first]
  | succ K => rw [first_succ, List.getLast?_append]; simp; omega

set_option maxRecDepth 100000 in
set_option maxHeartbeats 4000000 in
theorem onBy_any (k T n b : Int) (hk : IsTop k T) (w : World) (hT : Tops w) :
    Calls Tryd.prog 49 #[.int .i64 k, .int .i64 n, .int .i64 b] w fun e w' => e = .returned (.int .i64 (onTk T n b)) ∧ Below w.heap.size w w' := by
  refine (callsIn_wide (n := 4)).1 ?_
  refine callsIn_of_wp_marks Tryd.func49 rfl trivial ?_ rfl
  simp only [Tryd.ntmps49, List.size_toArray, List.length_cons, List.length_nil, Nat.reduceAdd, Nat.reduceSub, Array.replicate_succ, Array.replicate_zero, List.push_toArray, List.append_toArray, List.nil_append, List.cons_append]
  have hTB : 0 ≤ cutAt T n ∧ cutAt T n ≤ T ∧ T ≤ 1073741824 := by
    unfold cutAt; rcases hk with ⟨rfl, rfl⟩ | ⟨rfl, rfl⟩ <;> omega
  obtain ⟨N, hN⟩ : ∃ N, cutAt T n = N := ⟨_, rfl⟩
  have HW := Lib.hid (fun w hT => withinTk_any k T n hk w hT)
  unfold onTk
  rw [hN] at hTB HW ⊢
  obtain ⟨hN0, hNT, hT1⟩ := hTB
  have hpos := hT.pos
  have hk2 : 0 ≤ k ∧ k < 2 := by rcases hk with ⟨rfl, rfl⟩ | ⟨rfl, rfl⟩ <;> omega
  have ht : w.cell? ⟨0, k.toNat, none⟩ = some (.int .i64 T) := by
    rcases hk with ⟨rfl, rfl⟩ | ⟨rfl, rfl⟩
    · exact hT.clock
    · exact hT.count
  gi_wp2_with fail
  refine ⟨trivial, (callsIn_wide.2 (HW.out _ (by exact hT.below (below1 w _)))).mono ?_⟩
  rintro e w2 ⟨rfl, rfl⟩
  gi_wp2_with fail
  obtain ⟨W0, hW0, hsz, hb0, hst⟩ : ∃ W0, w.alloc (.cells #[.int .i64 N] 3) = W0 ∧ W0.heap.size = w.heap.size + 1 ∧ Below w.heap.size w W0 ∧ Whole W0 w.heap.size 3 [.int .i64 N] :=
    ⟨_, rfl, by simp, below1 _ _, Whole.new w _ [_]⟩
  rw [hW0]
  clear hW0
  have ht0 : W0.cell? ⟨0, k.toNat, none⟩ = some (.int .i64 T) := (hb0.cell hpos).trans ht
  have hn0 := hst.cell_at 0 rfl
  refine region_wide _ _ 5 (by kernel_rfl) (by kernel_rfl) ?_
  simp only [List.take_succ_cons, List.take_zero, List.drop_succ_cons, List.drop_zero]
  obtain ⟨hk0, hk1⟩ := hk2
  repeat still_step
  refine wpStill_nil ?_
  go_wp2_with fail
  refine (callsIn_wide.1 (ticks_in Fence.wide 3 trivial rfl N b T _)).mono ?_
  rintro e w3 ⟨rfl, rfl⟩
  go_wp2_with fail
  gi_wp2_with fail
  obtain ⟨W1, hW1, hsz1, hb1, hcn, hcb, hct⟩ : ∃ W1, (((W0.alloc (.cells #[.int .i64 N] 3)).alloc (.cells #[.int .i64 b] 3)).alloc (.cells #[.int .i64 T] 3)).drew = W1 ∧ W1.heap.size = w.heap.size + 1 + 1 + 1 + 1 ∧ Below W0.heap.size W0 W1 ∧
      W1.cell? ⟨w.heap.size + 1, 0, none⟩ = some (.int .i64 N) ∧ W1.cell? ⟨w.heap.size + 1 + 1, 0, none⟩ = some (.int .i64 b) ∧ W1.cell? ⟨w.heap.size + 1 + 1 + 1, 0, none⟩ = some (.int .i64 T) := by
    refine ⟨_, rfl, by simp [hsz], ((((Below.refl _ W0).alloc (Nat.le_refl _) _).alloc (by simp) _).alloc (by simp; omega) _).drew, ?_, ?_, ?_⟩
    · exact (((Whole.new_at W0 3 [_] _ (by simp [hsz])).alloc _).alloc _).cell_at 0 rfl
    · exact ((Whole.new_at (W0.alloc _) 3 [_] _ (by simp [hsz])).alloc _).cell_at 0 rfl
    · exact (Whole.new_at ((W0.alloc _).alloc _) 3 [_] _ (by simp [hsz])).cell_at 0 rfl
  rw [hW1]
  clear hW1
  have hst1 := hst.below hb1 (by omega)
  have hb01 : Below w.heap.size w W1 := hb0.trans (hb1.mono (by omega))
  have hseq := ticks_stops Fence.wide 3 trivial rfl (by omega) (w.heap.size + 1 + 1) (w.heap.size + 1 + 1 + 1) (w.heap.size + 1) N b T hN0 hNT hT1
    (BelowBut W1.heap.size w.heap.size) (fun b => b < W1.heap.size ∧ b ≠ w.heap.size) (fun X Y h => h.keeps) (by omega) W1 hcb hct hcn
  have hl0 : w.heap.size < W1.heap.size := by omega
  have HSZ := Lib.hid hsz1
  clear hsz hsz1 hn0 ht0
  refine wpIn_rangeFunc_ownF rfl (by omega) (gf := 55) rfl trivial (enters_of Tryd.func55 (by kernel_rfl) rfl) hseq BelowBut.trans (BelowBut.put (Nat.le_refl _)) (Below.refl _ _) (fun _ => rfl)
    (fun pre W => Whole W w.heap.size 3 [.int .i64 (pre.getLast?.getD N)] ∧ Below w.heap.size w W)
    (fun _ _ _ => False)
    (OwnFrom.and (Own.from (fun s X Y row hs hg hr => hs.abides hg hr) _) (ownFrom_below (Nat.le_refl _) (by omega)))
    (fun _ _ _ _ _ hs _ _ => hs)
    ⟨hst1, hb01⟩ ?a1 ?assign ?body ?done ?stop
  case stop =>
    rintro D c pre W _ _ h _
    exact h.elim
  case assign =>
    intro lr x W K hK
    unfold encTk
    gi_wp2
    exact hK
  case body =>
    rintro lr pre x W ⟨hn, hB⟩ hlt
    have c0 := hn.cell_at 0 rfl
    have f0 := hn.frozen 0
    gi_wp2
    refine ⟨KeepsOthers.setCell _ _ _, BelowBut.set _ _ _, ?_, hB.setCell (p := ⟨w.heap.size, 0, none⟩) (Nat.le_refl _) _⟩
    have h := hn.set 0 (.int .i64 x)
    rw [List.getLast?_append]
    exact h
  case done =>
    rintro D ys W hD rfl ⟨hn, hB⟩ hK
    rw [firstTk_last] at hn
    have c0 := hn.cell_at 0 rfl
    gi_wp2
    refine ⟨by simp, .inl ⟨_, _, rfl, run_takeDeferred hK, ?_⟩⟩
    refine ⟨_, results_tmp (t := 6) rfl _ _ _, ?rv, hB.trans (belowK_b (w := w) (Nat.le_refl _) W D _ _ (by have := HSZ.out; omega) hK rfl rfl)⟩
    case rv => exact ret_int (show N + max (min b (T - N)) 0 = N + max 0 (min b (T - N)) by omega)
end Go.Proofs.YtniihmafbeplaaaDoor
namespace Go.Proofs.YtniihmafbeplaaaDoor
open Go.RowKit Go.Shelf
set_option linter.unusedVariables false

/-- The tops lie as they did, and so does all that lay when w0 was the world. -/
structure Now (w0 w : World) : Prop where
  tops : Tops w
  below : Below w0.heap.size w0 w
theorem Now.on {w0 w w' : World} (h : Now w0 w) (hb : Below w.heap.size w w') : Now w0 w' := ⟨h.tops.below hb, h.below.trans (hb.mono h.below.size)⟩
theorem Now.drew {w0 w : World} (h : Now w0 w) : Now w0 w.drew := h.on (Below.refl _ w).drew
theorem Now.drewN {w0 w : World} (h : Now w0 w) (n : Nat) : Now w0 (w.drewN n) := h.on (below_drawn (Below.refl _ w) n)

def clockTk (n : Int) : Int := min (max n 0) 1073741824
def countTk (n : Int) : Int := min (max n 0) 65535
def nextTk (n : Int) : Int := min (clockTk n + 1) 1073741824
def moreTk (c b : Int) : Int := min (countTk c + countTk b) 65535
def downTk (n : Int) : Int := max (n - 1) 0
def rowTk (t : Bool) (n : Int) : Int := if t then moreTk n 1 else 0

theorem clockTk_eq (n : Int) : cutAt 1073741824 n = clockTk n := rfl
theorem countTk_eq (n : Int) : cutAt 65535 n = countTk n := rfl
theorem nextTk_eq (n : Int) : onTk 1073741824 n 1 = nextTk n := by unfold onTk nextTk clockTk cutAt; omega
theorem moreTk_eq (n b : Int) : onTk 65535 n b = moreTk n b := by unfold onTk moreTk countTk cutAt; omega

section
variable {w0 w : World} {v : Int}

theorem count_now (n : Int) (hv : countTk n = v) (h : Now w0 w) : Calls Tryd.prog 32 #[.int .i64 n] w fun e w' => e = .returned (.int .i64 v) ∧ Now w0 w' := by
  have hw := withinTk_any 1 65535 n (.inr ⟨rfl, rfl⟩) w h.tops
  rw [countTk_eq, hv] at hw
  have HW := Lib.hid hw
  clear hw hv
  go_enter Tryd.func32, Tryd.ntmps32
  go_wp2_with fail
  refine HW.out.mono ?_
  rintro e w' ⟨rfl, rfl⟩
  go_wp2_with fail
  go_ret
  exact ⟨rfl, h⟩
theorem more_now (n b : Int) (hv : moreTk n b = v) (h : Now w0 w) : Calls Tryd.prog 35 #[.int .i64 n, .int .i64 b] w fun e w' => e = .returned (.int .i64 v) ∧ Now w0 w' := by
  have hw := onBy_any 1 65535 n b (.inr ⟨rfl, rfl⟩) w h.tops
  rw [moreTk_eq, hv] at hw
  have HW := Lib.hid hw
  clear hw hv
  go_enter Tryd.func35, Tryd.ntmps35
  go_wp2_with fail
  refine HW.out.mono ?_
  rintro e w' ⟨rfl, hB⟩
  go_wp2_with fail
  go_ret
  exact ⟨rfl, h.on hB⟩
theorem late_now (a t : Int) (r : Bool) (hv : decide (t < a) = r) (h : Now w0 w) : Calls Tryd.prog 37 #[.int .i64 a, .int .i64 t] w fun e w' => e = .returned (.bool r) ∧ Now w0 w' := by
  subst hv
  go_enter Tryd.func37, Tryd.ntmps37
  go_wp2_with fail
  go_ret
  exact ⟨rfl, h⟩
theorem row_now (t : Bool) (n : Int) (hv : rowTk t n = v) (h : Now w0 w) : Calls Tryd.prog 47 #[.bool t, .int .i64 n] w fun e w' => e = .returned (.int .i64 v) ∧ Now w0 w' := by
  cases t with
  | false =>
    obtain rfl : 0 = v := hv
    go_enter Tryd.func47, Tryd.ntmps47
    go_wp2_with fail
    go_ret
    exact ⟨rfl, h⟩
  | true =>
    have hw : moreTk n 1 = v := hv
    have HW := Lib.hid (fun w' (h' : Now w0 w') => more_now n 1 hw h')
    clear hw hv
    go_enter Tryd.func47, Tryd.ntmps47
    go_wp2_with fail
    refine (HW.out _ h).mono ?_
    rintro e w' ⟨rfl, h'⟩
    go_wp2_with fail
    go_ret
    exact ⟨rfl, h'⟩

theorem withinTkR_any (n T : Int) (w : World) : Calls Tryd.prog 54 #[.int .i64 n, .int .i64 T] w fun e w' => e = .returned (.int .i64 (cutAt T n)) ∧ w' = w := by
  go_enter Tryd.func54, Tryd.ntmps54
  go_wp2_with fail
  go_ret
  exact ⟨rfl, rfl⟩
theorem countR_any (n : Int) (w : World) : Calls Tryd.prog 50 #[.int .i64 n] w fun e w' => e = .returned (.int .i64 (countTk n)) ∧ w' = w := by
  go_enter Tryd.func50, Tryd.ntmps50
  go_wp2_with fail
  refine (withinTkR_any _ _ _).mono ?_
  rintro e w' ⟨rfl, rfl⟩
  go_wp2_with fail
  go_ret
  exact ⟨rfl, rfl⟩
theorem countR_now (n : Int) (hv : countTk n = v) (h : Now w0 w) : Calls Tryd.prog 50 #[.int .i64 n] w fun e w' => e = .returned (.int .i64 v) ∧ Now w0 w' :=
  (countR_any n w).mono fun e w' ⟨he, hw⟩ => ⟨by rw [he, hv], by rw [hw]; exact h⟩
theorem moreR_now (n b : Int) (hv : moreTk n b = v) (h : Now w0 w) : Calls Tryd.prog 36 #[.int .i64 n, .int .i64 b] w fun e w' => e = .returned (.int .i64 v) ∧ Now w0 w' := by
  have hc0 : -9223372036854775808 ≤ countTk n + countTk b := by unfold countTk; omega
  have hc1 : countTk n + countTk b ≤ 9223372036854775807 := by unfold countTk; omega
  have hv' : min (countTk n + countTk b) 65535 = v := hv
  clear hv
  go_enter Tryd.func36, Tryd.ntmps36
  go_wp2_with fail
  refine (countR_any _ _).mono ?_
  rintro e w' ⟨rfl, rfl⟩
  go_wp2_with fail
  refine (countR_any _ _).mono ?_
  rintro e w' ⟨rfl, rfl⟩
  go_wp2_with fail
  go_ret
  exact ⟨rfl, h⟩
theorem lateR_now (a t : Int) (r : Bool) (hv : decide (t < a) = r) (h : Now w0 w) : Calls Tryd.prog 38 #[.int .i64 a, .int .i64 t] w fun e w' => e = .returned (.bool r) ∧ Now w0 w' := by
  subst hv
  go_enter Tryd.func38, Tryd.ntmps38
  go_wp2_with fail
  go_ret
  exact ⟨rfl, h⟩
theorem rowR_now (t : Bool) (n : Int) (hv : rowTk t n = v) (h : Now w0 w) : Calls Tryd.prog 48 #[.bool t, .int .i64 n] w fun e w' => e = .returned (.int .i64 v) ∧ Now w0 w' := by
  cases t with
  | false =>
    obtain rfl : 0 = v := hv
    go_enter Tryd.func48, Tryd.ntmps48
    go_wp2_with fail
    go_ret
    exact ⟨rfl, h⟩
  | true =>
    have hw : moreTk n 1 = v := hv
    have HW := Lib.hid (fun w' (h' : Now w0 w') => moreR_now n 1 hw h')
    clear hw hv
    go_enter Tryd.func48, Tryd.ntmps48
    go_wp2_with fail
    refine (HW.out _ h).mono ?_
    rintro e w' ⟨rfl, h'⟩
    go_wp2_with fail
    go_ret
    exact ⟨rfl, h'⟩

end
end Go.Proofs.YtniihmafbeplaaaDoor
