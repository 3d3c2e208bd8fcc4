/- The times' places, one by one. -/
import Derived.Shelf.Abstract
import Derived.Shelf.RegionOpen
import Derived.TacticsInMore
import Derived.LoopNIn
import Derived.LoopIn
import Derived.Test.YtegflmaobmibnaaGreatDoorQIterZ
import Derived.Test.YtegflmaobmibnaaGreatDoorQIterU
import Derived.Test.YtegflmaobmibnaaGreatDoorQPlanV
namespace Go.Proofs.YtegflmaobmibnaaGreatDoor
set_option maxRecDepth 100000
open Go.RowKit Go.Shelf
set_option linter.unusedVariables false
set_option linter.unusedSimpArgs false
attribute [local go_sem] Oper.semAt_some

theorem OwnFrom.grow {β : Type} {B : Nat} {J : β → World → Prop} (h : OwnFrom B J) {s : β} {W W' : World} (hs : J s W) (hb : Below W.heap.size W W') : J s W' :=
  h s W W' none hs ⟨hb.os, hb.tape, hb.output, hb.size, fun k hk _ => hb.block k hk⟩ (fun r e => by cases e)
/-- Where the times stand. -/
abbrev timePs (L o : Nat) : List Value := [.pointer (some ⟨L, o, none⟩), .pointer (some ⟨L, o + 1, none⟩), .pointer (some ⟨L, o + 2, none⟩), .pointer (some ⟨L, o + 3, none⟩), .pointer (some ⟨L, o + 4, none⟩), .pointer (some ⟨L, o + 5, none⟩), .pointer (some ⟨L, o + 6, none⟩)]
theorem times8_any (L o : Nat) (w : World) : Calls Tryz.prog 104 #[.pointer (some ⟨L, o, none⟩)] w fun e w' => e = .returned (.func (.func 125) #[] #[.pointer (some ⟨w.heap.size, 0, none⟩)]) ∧ w' = w.alloc (.cells #[.pointer (some ⟨L, o, none⟩)] 152) := by
  have hmf : ∀ (fn : Fn) (first cap : Array Value) (w : World), (Instr.makeFunc fn first cap).run Tryz.prog w = .ok (.func fn first cap) w := fun _ _ _ _ => rfl
  go_enter Tryz.func104, Tryz.ntmps104
  go_wp2
  go_ret
  exact ⟨rfl, rfl⟩

set_option maxHeartbeats 8000000 in
theorem times_iter {w0 : World} {D L o : Nat} (hbox : Whole w0 D 152 [.pointer (some ⟨L, o, none⟩)]) :
    IterZ Tryz.prog 125 #[.pointer (some ⟨D, 0, none⟩)] (fun i : Nat => #[.pointer (some ⟨L, o + i, none⟩)]) (List.range 7) (fun k => k = D) w0 := by
  intro LL S J Jx Jp W hk0 hS hJ hJx hY h0
  have HS := Lib.hid hS
  clear hS
  refine (callsIn_wide (n := 3)).1 ?_
  refine callsIn_of_wp Tryz.func125 rfl trivial ?_ rfl
  simp only [Tryz.ntmps125, List.size_toArray, List.length_cons, List.length_nil, Nat.reduceAdd, Nat.reduceSub, Array.replicate_succ, Array.replicate_zero, List.push_toArray, List.append_toArray, List.nil_append, List.cons_append]
  gi_wp2_with fail
  refine wpIn_wide.2 ?_
  have HD : Hid (∀ X, Below W.heap.size W X → X.cell? ⟨D, 0, none⟩ = some (.pointer (some ⟨L, o, none⟩))) := Lib.hid (fun X hX => ((hk0.whole rfl hbox).below hX (hk0.whole rfl hbox).lt).cell_at 0 rfl)
  refine region_mix (Below W.heap.size W) [(0, false), (1, false), (2, false), (3, false), (4, false), (5, false), (6, false), (7, false), (8, false), (9, false), (10, false), (11, false), (12, false), (13, false), (14, false), (15, false), (16, false), (17, false), (18, false), (19, false), (20, false), (23, false), (21, true), (22, false)] (by kernel_rfl) (by kernel_rfl) (Below W.heap.size W) ⟨Closed.below W, fun _ h => h⟩ (Below.refl _ _).drew ?_
  simp only [pickOps, List.getElem?_cons_zero, List.getElem?_cons_succ]
  repeat (first | (refine mix_skip (by rfl) ?_; simp only [Act.put, List.setIfInBounds_toArray, List.set_cons_zero, List.set_cons_succ]) | (refine mix_read _ (by rfl) (fun X hX => by (have x0 := HD.out X hX; clear hX; go_simp; first | done | with_reducible rfl)) ?_; simp only [Act.put, List.setIfInBounds_toArray, List.set_cons_zero, List.set_cons_succ]))
  refine mix_make (fun g => .slice (some ⟨g, 0, none⟩) 7 7) W.heap.size 153 (timePs L o) ⟨Closed.below W, fun _ h => h⟩ (fun _ h => h.size) (by rfl) (fun X hX => by (go_simp; first | done | with_reducible rfl)) (fun g hg => ?_)
  simp only [Act.put, List.setIfInBounds_toArray, List.set_cons_zero, List.set_cons_succ]
  repeat (first | (refine mix_skip (by rfl) ?_; simp only [Act.put, List.setIfInBounds_toArray, List.set_cons_zero, List.set_cons_succ]) | (refine mix_read _ (by rfl) (fun X hX => by (have x0 := HD.out X hX; clear hX; go_simp; first | done | with_reducible rfl)) ?_; simp only [Act.put, List.setIfInBounds_toArray, List.set_cons_zero, List.set_cons_succ]))
  refine mix_nil (fun X hX => ?_)
  have HX := Lib.hid hX
  have HJ0 := Lib.hid (OwnFrom.grow hJ h0 hX.1)
  clear hX HD h0
  gi_wp2_with fail
  have HB0 := Lib.hid HX.out.1
  gi_loopw [28] (fun i wr => ∃ j : Nat, j ≤ 7 ∧ i = .int .i64 j ∧ Hid (J j wr ∧ Whole wr g 153 (timePs L o))) (fun i _ => 7 - (intOf i).toNat)
  case atStart => exact ⟨0, by omega, rfl, Lib.hid ⟨HJ0.out, HX.out.2⟩⟩
  case round =>
    clear HX HJ0
    obtain ⟨j, hj, rfl, HM⟩ := hrel
    by_cases hlt : j < 7
    · have hlt' : (j : Int) < 7 := by omega
      obtain ⟨fn, tmps, assign, body, hy, hR⟩ := hY j j wr (by rw [List.getElem?_range hlt]) HM.out.1
      have HR := Lib.hid hR
      clear hR
      have hg0 : (timePs L o)[j]? = some (.pointer (some ⟨L, o + j, none⟩)) := by
        obtain rfl | rfl | rfl | rfl | rfl | rfl | rfl : j = 0 ∨ j = 1 ∨ j = 2 ∨ j = 3 ∨ j = 4 ∨ j = 5 ∨ j = 6 := by omega
        all_goals rfl
      have g0 := HM.out.2.cell_at j hg0
      have g1 : wr.cell? ⟨g, 0 + j, none⟩ = some (.pointer (some ⟨L, o + j, none⟩)) := by rw [Nat.zero_add]; exact g0
      clear hg0
      gi_wp2_with fail
      refine RoundIn.mono (RoundIn.wide HR.out) ?_
      clear HR hy g0 g1
      have HLT := Lib.hid hlt
      rintro e W3 (⟨rfl, hJ3, hk3⟩ | ⟨rfl, hJx3, hk3⟩ | ⟨c, rfl, hp⟩)
      · have HN : Hid (J (j + 1) W3 ∧ Whole W3 g 153 (timePs L o)) := Lib.hid ⟨hJ3, hk3.whole HM.out.2 (fun hs => by have := (HS.out g hs).2; omega)⟩
        clear hJ3 hk3
        gi_wp2_with fail
        go_roundw
        case rel => exact ⟨j + 1, hlt, loop_next1 j, HN⟩
        case measure => exact loop_less1 j 7 hlt
      · gi_wp2_with fail
        refine bodyPost_ret (results_none rfl _ _ _) rfl ?_
        exact .inl ⟨⟨_, rfl⟩, .inr hJx3⟩
      · exact ⟨rfl, .inr ⟨c, rfl, hp⟩⟩
    · obtain rfl : j = 7 := by omega
      gi_wp2_with fail
      go_end0
      exact .inl ⟨⟨_, rfl⟩, .inl HM.out.1⟩
set_option maxHeartbeats 8000000 in
theorem times_iterU {w0 : World} {D L o : Nat} (hbox : Whole w0 D 152 [.pointer (some ⟨L, o, none⟩)]) :
    IterU Tryz.prog 125 #[.pointer (some ⟨D, 0, none⟩)] (fun i : Nat => #[.pointer (some ⟨L, o + i, none⟩)]) (List.range 7) (fun k => k = D) w0 := by
  intro LL J Jx W hk0 hRl hJ hJx hY h0
  refine (callsIn_wide (n := 3)).1 ?_
  refine callsIn_of_wp Tryz.func125 rfl trivial ?_ rfl
  simp only [Tryz.ntmps125, List.size_toArray, List.length_cons, List.length_nil, Nat.reduceAdd, Nat.reduceSub, Array.replicate_succ, Array.replicate_zero, List.push_toArray, List.append_toArray, List.nil_append, List.cons_append]
  gi_wp2_with fail
  refine wpIn_wide.2 ?_
  have HD : Hid (∀ X, Below W.heap.size W X → X.cell? ⟨D, 0, none⟩ = some (.pointer (some ⟨L, o, none⟩))) := Lib.hid (fun X hX => ((hk0.whole rfl hbox).below hX (hk0.whole rfl hbox).lt).cell_at 0 rfl)
  refine region_mix (Below W.heap.size W) [(0, false), (1, false), (2, false), (3, false), (4, false), (5, false), (6, false), (7, false), (8, false), (9, false), (10, false), (11, false), (12, false), (13, false), (14, false), (15, false), (16, false), (17, false), (18, false), (19, false), (20, false), (23, false), (21, true), (22, false)] (by kernel_rfl) (by kernel_rfl) (Below W.heap.size W) ⟨Closed.below W, fun _ h => h⟩ (Below.refl _ _).drew ?_
  simp only [pickOps, List.getElem?_cons_zero, List.getElem?_cons_succ]
  repeat (first | (refine mix_skip (by rfl) ?_; simp only [Act.put, List.setIfInBounds_toArray, List.set_cons_zero, List.set_cons_succ]) | (refine mix_read _ (by rfl) (fun X hX => by (have x0 := HD.out X hX; clear hX; go_simp; first | done | with_reducible rfl)) ?_; simp only [Act.put, List.setIfInBounds_toArray, List.set_cons_zero, List.set_cons_succ]))
  refine mix_make (fun g => .slice (some ⟨g, 0, none⟩) 7 7) W.heap.size 153 (timePs L o) ⟨Closed.below W, fun _ h => h⟩ (fun _ h => h.size) (by rfl) (fun X hX => by (go_simp; first | done | with_reducible rfl)) (fun g hg => ?_)
  simp only [Act.put, List.setIfInBounds_toArray, List.set_cons_zero, List.set_cons_succ]
  repeat (first | (refine mix_skip (by rfl) ?_; simp only [Act.put, List.setIfInBounds_toArray, List.set_cons_zero, List.set_cons_succ]) | (refine mix_read _ (by rfl) (fun X hX => by (have x0 := HD.out X hX; clear hX; go_simp; first | done | with_reducible rfl)) ?_; simp only [Act.put, List.setIfInBounds_toArray, List.set_cons_zero, List.set_cons_succ]))
  refine mix_nil (fun X hX => ?_)
  have HX := Lib.hid hX
  have HJ0 : Hid (J (fun _ => False) 0 X) := Lib.hid (hJ _ _ _ _ h0 (Stays.below hX.1))
  clear hX HD h0
  gi_wp2_with fail
  have HB0 := Lib.hid HX.out.1
  gi_loopw [28] (fun i wr => ∃ (j : Nat) (U : Nat → Prop), j ≤ 7 ∧ i = .int .i64 j ∧ Hid (J U j wr ∧ (∀ k, U k → k < wr.heap.size) ∧ ¬ U g ∧ Whole wr g 153 (timePs L o))) (fun i _ => 7 - (intOf i).toNat)
  case atStart => exact ⟨0, fun _ => False, by omega, rfl, Lib.hid ⟨HJ0.out, fun k hk => hk.elim, fun h => h, HX.out.2⟩⟩
  case round =>
    clear HX HJ0
    obtain ⟨j, U, hj, rfl, HM⟩ := hrel
    by_cases hlt : j < 7
    · have hlt' : (j : Int) < 7 := by omega
      obtain ⟨fn, tmps, assign, body, hy, hR⟩ := hY U j j wr (by rw [List.getElem?_range hlt]) HM.out.1 HM.out.2.1
      have HR := Lib.hid hR
      clear hR
      have hg0 : (timePs L o)[j]? = some (.pointer (some ⟨L, o + j, none⟩)) := by
        obtain rfl | rfl | rfl | rfl | rfl | rfl | rfl : j = 0 ∨ j = 1 ∨ j = 2 ∨ j = 3 ∨ j = 4 ∨ j = 5 ∨ j = 6 := by omega
        all_goals rfl
      have g0 := HM.out.2.2.2.cell_at j hg0
      have g1 : wr.cell? ⟨g, 0 + j, none⟩ = some (.pointer (some ⟨L, o + j, none⟩)) := by rw [Nat.zero_add]; exact g0
      clear hg0
      gi_wp2_with fail
      refine RoundIn.mono (RoundIn.wide HR.out) ?_
      clear HR hy g0 g1
      have HLT := Lib.hid hlt
      rintro e W3 ⟨U', hg', hk', (⟨rfl, hJ3⟩ | ⟨rfl, hJx3⟩)⟩
      · have HN : Hid (J U' (j + 1) W3 ∧ (∀ k, U' k → k < W3.heap.size) ∧ ¬ U' g ∧ Whole W3 g 153 (timePs L o)) := Lib.hid ⟨hJ3, hg'.lt, fun h => (hg'.new g h).elim HM.out.2.2.1 (fun h => by have := HM.out.2.2.2.lt; omega), hk'.whole HM.out.2.2.2 hg HM.out.2.2.1⟩
        clear hJ3 hk' hg'
        gi_wp2_with fail
        go_roundw
        case rel => exact ⟨j + 1, U', hlt, loop_next1 j, HN⟩
        case measure => exact loop_less1 j 7 hlt
      · have HLT' := Lib.hid hg'.lt
        clear hg' hk'
        gi_wp2_with fail
        refine bodyPost_ret (results_none rfl _ _ _) rfl ?_
        exact ⟨⟨_, rfl⟩, U', HLT'.out, .inr hJx3⟩
    · obtain rfl : j = 7 := by omega
      gi_wp2_with fail
      go_end0
      exact ⟨⟨_, rfl⟩, U, HM.out.2.1, .inl HM.out.1⟩
end Go.Proofs.YtegflmaobmibnaaGreatDoor
