/- Package point and the document's own: machines, equal ones, which may be, what is called. -/
import Derived.Laws.EntriesVeiled
import Derived.Lib.MinMax
import Derived.ChangeKeysEq
import Derived.RangeFuncNested
import Derived.RangeFuncBound
import Derived.RangeFuncCalls
import Derived.RangeFuncLeaves
import Derived.RangeFuncBox
import Derived.Shelf.Abstract
import Derived.Shelf.RegionOpen
import Derived.WalkKit
import Derived.OwnWalkIn
import Derived.TacticsInMore
import Derived.LoopNIn
import Derived.LoopIn
import Derived.WalkMore
import Derived.Test.YtaeooldpmlakhaaMixW
import Derived.Test.YtaeooldpmlakhaaRegIn
namespace Go.Proofs.Ytaeooldpmlakhaa
open Go.RowKit Go.Shelf
set_option linter.unusedVariables false
set_option linter.unusedSimpArgs false

/-- A machine: where it wants to, how long it was driven, whether it has failed. -/
abbrev mcC (a b : Int) (f : Bool) : List Value := [.int .i64 a, .int .i64 b, .bool f]
abbrev mcV (a b : Int) (f : Bool) : Value := .agg #[.int .i64 a, .int .i64 b, .bool f]
def eqM (a b : Int) (f : Bool) (a' b' : Int) (f' : Bool) : Bool := a == a' && (b == b' && f == f')
theorem eqM_iff {a b : Int} {f : Bool} {a' b' : Int} {f' : Bool} : eqM a b f a' b' f' = true ↔ a = a' ∧ b = b' ∧ f = f' := by simp [eqM]
set_option maxHeartbeats 1000000 in
theorem eq_mc (w : World) (a b : Int) (f : Bool) (a' b' : Int) (f' : Bool) : (Op.equalIn 10000 23 (mcV a b f) (mcV a' b' f')).run Try.prog w = .ok (eqM a b f a' b' f') w := by
  unfold eqM
  cases h1 : (a == a') <;> cases h2 : (b == b') <;> cases f <;> cases f' <;> go_simp
theorem eql_mc (w : World) (a b : Int) (f : Bool) (a' b' : Int) (f' : Bool) : (binOp .eql 23 (mcV a b f) (mcV a' b' f')).run Try.prog w = .ok (.bool (eqM a b f a' b' f')) w := by rw [run_eql_struct, eq_mc]; rfl
theorem neq_mc (w : World) (a b : Int) (f : Bool) (a' b' : Int) (f' : Bool) : (binOp .neq 23 (mcV a b f) (mcV a' b' f')).run Try.prog w = .ok (.bool (!eqM a b f a' b' f')) w := by rw [run_neq_struct, eq_mc]; rfl
theorem keep_mc {P : World → Prop} (hP : Closed P) {w : World} (h : P w) (t : TypeId) (vs : List Value) :
    ∃ Q : World → Prop, Hid (Closed Q) ∧ Hid (∀ W, Q W → P W) ∧ Hid (∀ W, Q W → Whole W w.heap.size t vs) ∧ Q (w.alloc (.cells vs.toArray t)) :=
  ⟨fun W => P W ∧ Whole W w.heap.size t vs, Lib.hid (hP.and (Closed.whole _ t vs)), Lib.hid (fun _ h => h.1), Lib.hid (fun _ h => h.2), hP _ _ h (below1 w _), Whole.new w t vs⟩
def posB (n : Int) : Bool := n == 0 || n == 1
theorem posB_iff {n : Int} : posB n = true ↔ n = 0 ∨ n = 1 := by simp [posB]
theorem posB_no {n : Int} : posB n = false ↔ n ≠ 0 ∧ n ≠ 1 := by simp [posB]
/-- Whether a machine may be. -/
def rightM (a b : Int) (f : Bool) : Bool := if posB a then decide (0 ≤ b) && decide (b ≤ 1000) else eqM a b f (-1) 0 false

theorem rest_B (w : World) : Calls Try.prog 11 #[] w fun e w' => e = .returned (mcV (-1) 0 false) ∧ Below w.heap.size w w' := by
  go_enter Try.func11, Try.ntmps11
  go_wp2_with fail
  exact bodyPost_ret (v := mcV (-1) 0 false) (by simp [results, Try.f11, go_sem]) rfl ⟨rfl, below1 _ _⟩
theorem restR_B (w : World) : Calls Try.prog 12 #[] w fun e w' => e = .returned (mcV (-1) 0 false) ∧ Below w.heap.size w w' := by
  go_enter Try.func12, Try.ntmps12
  go_wp2_with fail
  exact bodyPost_ret (v := mcV (-1) 0 false) (by simp [results, Try.f12, go_sem]) rfl ⟨rfl, below1 _ _⟩
theorem position_any (n : Int) {r : Bool} (hr : posB n = r) (w : World) : Calls Try.prog 22 #[.int .i64 n] w fun e w' => e = .returned (.bool r) ∧ w' = w := by
  subst hr
  by_cases h0 : n = 0
  · subst h0
    go_enter Try.func22, Try.ntmps22
    go_wp2_with fail
    go_ret
    exact ⟨rfl, rfl⟩
  · by_cases h1 : n = 1
    · subst h1
      go_enter Try.func22, Try.ntmps22
      go_wp2_with fail
      go_ret
      exact ⟨rfl, rfl⟩
    · have e : posB n = false := posB_no.2 ⟨h0, h1⟩
      have d0 : (n == 0) = false := by simp [h0]
      have d1 : (n == 1) = false := by simp [h1]
      rw [e]
      clear e
      go_enter Try.func22, Try.ntmps22
      go_wp2_with fail
      go_ret
      exact ⟨rfl, rfl⟩
set_option maxRecDepth 100000 in
set_option maxHeartbeats 8000000 in
theorem right_B (a b : Int) (f : Bool) (w : World) {r : Bool} (hr : rightM a b f = r) : Calls Try.prog 13 #[mcV a b f] w fun e w' => e = .returned (.bool r) ∧ Below w.heap.size w w' := by
  obtain ⟨Q, HQ, HQb, HQm, hq⟩ := keep_mc (Closed.below w) (Below.refl _ w) 23 (mcC a b f)
  obtain ⟨pa, hpa⟩ : ∃ p, posB a = p := ⟨_, rfl⟩
  have KP := Lib.hid fun W => position_any a hpa W
  have HR := Lib.hid hr
  have m0 := HQm.out _ hq
  have x0 := m0.cell_at 0 rfl
  have x1 := m0.cell_at 1 rfl
  clear m0 hr
  go_enter Try.func13, Try.ntmps13
  go_wp2_with fail
  refine (KP.out _).mono ?_
  rintro e w1 ⟨rfl, rfl⟩
  cases pa
  · have HE : Hid (eqM a b f (-1) 0 false = r) := Lib.hid (by rw [← HR.out, rightM, hpa]; rfl)
    have hne : ∀ W : World, (binOp .eql 23 (mcV a b f) (mcV (-1) 0 false)).run Try.prog W = .ok (.bool r) W := fun W => by rw [eql_mc, HE.out]
    clear hpa KP HR x0 x1
    go_wp2_with fail
    obtain ⟨W0, hW0⟩ : ∃ W0, w.alloc (.cells #[.int .i64 a, .int .i64 b, .bool f] 23) = W0 := ⟨_, rfl⟩
    have hq : Q W0 := by rw [← hW0]; exact hq
    rw [hW0]
    clear hW0
    go_wp2_with fail
    have HBS : Hid (∀ W, Below W0.heap.size W0 W → Q W) := Lib.hid (fun W hB => HQ.out _ _ hq hB)
    clear hq
    refine region_mix (Below W0.heap.size W0) [(0, false), (1, false), (2, false), (3, false)] (by kernel_rfl) (by kernel_rfl) (Below W0.heap.size W0) ⟨Closed.below W0, fun _ h => h⟩ (Below.refl _ _).drew ?_
    simp only [pickOps, List.getElem?_cons_zero, List.getElem?_cons_succ]
    repeat (first | (refine mix_skip (by rfl) ?_; simp only [Act.put, List.setIfInBounds_toArray, List.set_cons_zero, List.set_cons_succ]) | (refine mix_read _ (by rfl) (fun W hW => by (have hW := HBS.out W hW; have m0 := HQm.out W hW; have y0 := m0.cell_at 0 rfl; have y1 := m0.cell_at 1 rfl; have y2 := m0.cell_at 2 rfl; clear m0;  go_simp; first | done | with_reducible rfl)) ?_; simp only [Act.put, List.setIfInBounds_toArray, List.set_cons_zero, List.set_cons_succ]) | (refine mix_call _ _ _ (by rfl) (fun W hW => by (have hW := HBS.out W hW; have m0 := HQm.out W hW; have y0 := m0.cell_at 0 rfl; have y1 := m0.cell_at 1 rfl; have y2 := m0.cell_at 2 rfl; clear m0;  go_simp; first | done | rfl)) (fun W hW => rest_B _) ?_; simp only [Act.put, List.setIfInBounds_toArray, List.set_cons_zero, List.set_cons_succ]))
    refine mix_nil (fun W hW => ?_)
    have hq := HBS.out W hW
    have HBW := Lib.hid hW
    clear hW HBS
    go_wp2_with fail
    go_ret
    exact ⟨rfl, HQb.out _ hq⟩
  · have HE : Hid ((decide (0 ≤ b) && decide (b ≤ 1000)) = r) := Lib.hid (by rw [← HR.out, rightM, hpa]; rfl)
    clear hpa KP HR
    by_cases h0 : 0 ≤ b
    · by_cases h1 : b ≤ 1000
      · have HT : Hid (true = r) := Lib.hid (by rw [← HE.out]; simp [h0, h1])
        clear HE
        go_wp2_with fail
        go_ret
        exact ⟨ret_bool HT.out, HQb.out _ hq⟩
      · have HT : Hid (decide (b ≤ 1000) = r) := Lib.hid (by rw [← HE.out]; simp [h0])
        clear HE
        go_wp2_with fail
        go_ret
        exact ⟨ret_bool HT.out, HQb.out _ hq⟩
    · have HT : Hid (false = r) := Lib.hid (by rw [← HE.out]; simp [h0])
      clear HE
      go_wp2_with fail
      go_ret
      exact ⟨ret_bool HT.out, HQb.out _ hq⟩

set_option maxRecDepth 100000 in
set_option maxHeartbeats 8000000 in
theorem rightR_B (a b : Int) (f : Bool) (w : World) {r : Bool} (hr : rightM a b f = r) : Calls Try.prog 14 #[mcV a b f] w fun e w' => e = .returned (.bool r) ∧ Below w.heap.size w w' := by
  obtain ⟨Q, HQ, HQb, HQm, hq⟩ := keep_mc (Closed.below w) (Below.refl _ w) 23 (mcC a b f)
  have HR := Lib.hid hr
  have m0 := HQm.out _ hq
  have x0 := m0.cell_at 0 rfl
  have x1 := m0.cell_at 1 rfl
  clear m0 hr
  have hout : (a < -1 ∨ 1 < a ∨ b < 0 ∨ 1000 < b) ∨ (-1 ≤ a ∧ a ≤ 1 ∧ 0 ≤ b ∧ b ≤ 1000) := by omega
  rcases hout with hout | ⟨h0, h1, h2, h3⟩
  · have HE : Hid (false = r) := Lib.hid (by
      rw [← HR.out, rightM]
      cases hp : posB a
      · rw [if_neg (by simp)]
        symm
        rw [Bool.eq_false_iff, ne_eq, eqM_iff]
        rintro ⟨rfl, rfl, _⟩
        omega
      · rw [if_pos rfl]
        have := posB_iff.1 hp
        symm
        rw [Bool.and_eq_false_iff, decide_eq_false_iff_not, decide_eq_false_iff_not]
        omega)
    clear HR
    have hc : a < -1 ∨ (¬ a < -1 ∧ 1 < a) ∨ (¬ a < -1 ∧ ¬ 1 < a ∧ b < 0) ∨ (¬ a < -1 ∧ ¬ 1 < a ∧ ¬ b < 0 ∧ 1000 < b) := by omega
    clear hout
    rcases hc with h0 | ⟨h0, h1⟩ | ⟨h0, h1, h2⟩ | ⟨h0, h1, h2, h3⟩
    all_goals
      go_enter Try.func14, Try.ntmps14
      go_wp2_with fail
      go_ret
      exact ⟨ret_bool HE.out, HQb.out _ hq⟩
  · have n0 : ¬ a < -1 := by omega
    have n1 : ¬ 1 < a := by omega
    have n2 : ¬ b < 0 := by omega
    have n3 : ¬ 1000 < b := by omega
    by_cases ha : 0 ≤ a
    · have HE : Hid (true = r) := Lib.hid (by rw [← HR.out, rightM, posB_iff.2 (by omega)]; simp [h2, h3])
      have d0 : decide (0 ≤ a) = true := decide_eq_true ha
      clear HR h0 h1 h2 h3
      go_enter Try.func14, Try.ntmps14
      go_wp2_with fail
      obtain ⟨W0, hW0⟩ : ∃ W0, w.alloc (.cells #[.int .i64 a, .int .i64 b, .bool f] 23) = W0 := ⟨_, rfl⟩
      have hq : Q W0 := by rw [← hW0]; exact hq
      rw [hW0]
      clear hW0 x0 x1 n0 n1 n2 n3
      go_wp2_with fail
      have HBS : Hid (∀ W, Below W0.heap.size W0 W → Q W) := Lib.hid (fun W hB => HQ.out _ _ hq hB)
      clear hq
      refine region_mix (Below W0.heap.size W0) [(0, false), (1, false), (2, false), (3, false), (4, false), (5, false), (6, false), (7, false), (8, false)] (by kernel_rfl) (by kernel_rfl) (Below W0.heap.size W0) ⟨Closed.below W0, fun _ h => h⟩ (Below.refl _ _).drew ?_
      simp only [pickOps, List.getElem?_cons_zero, List.getElem?_cons_succ]
      repeat (first | (refine mix_skip (by rfl) ?_; simp only [Act.put, List.setIfInBounds_toArray, List.set_cons_zero, List.set_cons_succ]) | (refine mix_read _ (by rfl) (fun W hW => by (have hW := HBS.out W hW; have m0 := HQm.out W hW; have y0 := m0.cell_at 0 rfl; have y1 := m0.cell_at 1 rfl; have y2 := m0.cell_at 2 rfl; clear m0;  go_simp; first | done | with_reducible rfl)) ?_; simp only [Act.put, List.setIfInBounds_toArray, List.set_cons_zero, List.set_cons_succ]) | (refine mix_call _ _ _ (by rfl) (fun W hW => by (have hW := HBS.out W hW; have m0 := HQm.out W hW; have y0 := m0.cell_at 0 rfl; have y1 := m0.cell_at 1 rfl; have y2 := m0.cell_at 2 rfl; clear m0;  go_simp; first | done | rfl)) (fun W hW => restR_B _) ?_; simp only [Act.put, List.setIfInBounds_toArray, List.set_cons_zero, List.set_cons_succ]))
      refine mix_nil (fun W hW => ?_)
      have hq := HBS.out W hW
      have HBW := Lib.hid hW
      clear hW HBS
      go_wp2_with fail
      go_ret
      exact ⟨ret_bool HE.out, HQb.out _ hq⟩
    · have HE : Hid (eqM a b f (-1) 0 false = r) := Lib.hid (by rw [← HR.out, rightM, posB_no.2 (by omega)]; rfl)
      have hne : ∀ W : World, (binOp .eql 23 (mcV a b f) (mcV (-1) 0 false)).run Try.prog W = .ok (.bool r) W := fun W => by rw [eql_mc, HE.out]
      have d0 : decide (0 ≤ a) = false := decide_eq_false ha
      clear HR h0 h1 h2 h3
      go_enter Try.func14, Try.ntmps14
      go_wp2_with fail
      obtain ⟨W0, hW0⟩ : ∃ W0, w.alloc (.cells #[.int .i64 a, .int .i64 b, .bool f] 23) = W0 := ⟨_, rfl⟩
      have hq : Q W0 := by rw [← hW0]; exact hq
      rw [hW0]
      clear hW0 x0 x1 n0 n1 n2 n3
      go_wp2_with fail
      have HBS : Hid (∀ W, Below W0.heap.size W0 W → Q W) := Lib.hid (fun W hB => HQ.out _ _ hq hB)
      clear hq
      refine region_mix (Below W0.heap.size W0) [(0, false), (1, false), (2, false), (3, false), (4, false), (5, false), (6, false), (7, false), (8, false)] (by kernel_rfl) (by kernel_rfl) (Below W0.heap.size W0) ⟨Closed.below W0, fun _ h => h⟩ (Below.refl _ _).drew ?_
      simp only [pickOps, List.getElem?_cons_zero, List.getElem?_cons_succ]
      repeat (first | (refine mix_skip (by rfl) ?_; simp only [Act.put, List.setIfInBounds_toArray, List.set_cons_zero, List.set_cons_succ]) | (refine mix_read _ (by rfl) (fun W hW => by (have hW := HBS.out W hW; have m0 := HQm.out W hW; have y0 := m0.cell_at 0 rfl; have y1 := m0.cell_at 1 rfl; have y2 := m0.cell_at 2 rfl; clear m0;  go_simp; first | done | with_reducible rfl)) ?_; simp only [Act.put, List.setIfInBounds_toArray, List.set_cons_zero, List.set_cons_succ]) | (refine mix_call _ _ _ (by rfl) (fun W hW => by (have hW := HBS.out W hW; have m0 := HQm.out W hW; have y0 := m0.cell_at 0 rfl; have y1 := m0.cell_at 1 rfl; have y2 := m0.cell_at 2 rfl; clear m0;  go_simp; first | done | rfl)) (fun W hW => restR_B _) ?_; simp only [Act.put, List.setIfInBounds_toArray, List.set_cons_zero, List.set_cons_succ]))
      refine mix_nil (fun W hW => ?_)
      have hq := HBS.out W hW
      have HBW := Lib.hid hW
      clear hW HBS
      go_wp2_with fail
      go_ret
      exact ⟨rfl, HQb.out _ hq⟩

end Go.Proofs.Ytaeooldpmlakhaa
