/- Package join: the ports of a section, one by one. Package join: its iterator of ports, made; blocks that are new count as its own. -/
import Derived.RangeFuncNested
import Derived.RangeFuncBound
import Derived.RangeFuncCalls
import Derived.RangeFuncLeaves
import Derived.RangeFuncBox
import Derived.Shelf.Abstract
import Derived.Shelf.RegionOpen
import Derived.WalkKit
import Derived.OwnWalkIn
import Derived.TacticsInMore
import Derived.LoopNIn
import Derived.LoopIn
import Derived.WalkMore
import Derived.Test.YtlfpkileblmhoaaGreatDoorQJoinB
import Derived.Test.YtlfpkileblmhoaaGreatDoorQIterU
namespace Go.Proofs.YtlfpkileblmhoaaGreatDoor
open Go.RowKit Go.Shelf
set_option linter.unusedVariables false
set_option linter.unusedSimpArgs false

attribute [local go_sem] Oper.semAt_some

theorem Shapes.keeps {w W : World} {R : Nat → Prop} (h : Shapes w) (hk : Keeps R w W) (hR : ∀ k, k < w.heap.size → R k) : Shapes W := fun i v hv => hk.cell (hR _ (World.block_lt_of_cell? w _ (h i v hv))) (h i v hv)
theorem Lies.keeps {l : Lay} {w W : World} {R : Nat → Prop} (h : Lies l w) (hk : Keeps R w W) (hR : ∀ k, k < w.heap.size → R k) (hs : w.heap.size ≤ W.heap.size) : Lies l W :=
  ⟨(h.secs.keeps hk hR).mono hs, (h.sigs.keeps hk hR).mono hs, (h.exits.keeps hk hR).mono hs, (h.flanks.keeps hk hR).mono hs, fun x hx => ((h.overs x hx).keeps hk hR).mono hs, h.kinds, h.nS, h.nG, h.nE, h.nF, h.nO⟩
theorem Keeps.sub {R S : Nat → Prop} {A B : World} (h : Keeps R A B) (hs : ∀ k, S k → R k) : Keeps S A B := fun k o hk ho => h k o (hs k hk) ho
/-- The ports of section s, rising. -/
def portsS (l : Lay) (s : Int) : List (Int × Int) := (List.range (pK (kindV l s)).toNat).map fun p : Nat => (s, (p : Int))
theorem pK_nn (k : Int) : 0 ≤ pK k := by
  unfold pK
  split
  · omega
  · split
    · omega
    · split <;> omega
theorem portsS_len (l : Lay) (s : Int) : (portsS l s).length = (pK (kindV l s)).toNat := by simp [portsS]
theorem portsS_at {l : Lay} {s : Int} {j : Nat} (h : j < (pK (kindV l s)).toNat) : (portsS l s)[j]? = some (s, (j : Int)) := by simp [portsS, h]
theorem there_at (l : Lay) (s : Int) (j : Nat) : thereV l s j = decide (j < (pK (kindV l s)).toNat) := by
  have := pK_nn (kindV l s)
  rw [Bool.eq_iff_iff, decide_eq_true_iff]
  unfold thereV
  rw [withinA_iff]
  omega
/-- The number in the second cell of where it points to. -/
def secondOf (i : Value) (w : World) : Nat := match i with
  | .pointer (some a) => match w.cell? ⟨a.block, 1, none⟩ with
    | some (.int _ q) => q.toNat
    | _ => 0
  | _ => 0

theorem secondOf_whole {w : World} {g : Nat} {t : TypeId} {a : Value} {q : Int} (h : Whole w g t [a, .int .i64 q]) : secondOf (.pointer (some ⟨g, 0, none⟩)) w = q.toNat := by
  have := h.cell_at 1 rfl
  simp [secondOf, this]

set_option maxRecDepth 100000 in
set_option maxHeartbeats 4000000 in
theorem portsJ_iter {wa w0 : World} {g1 g2 : Nat} {l : Lay} {s : Int} (hT : Shapes wa) (hL : Lies l wa) (hka : Keeps (· < wa.heap.size) wa w0) (hsa : wa.heap.size ≤ w0.heap.size) (hb1 : Whole w0 g1 3 [.int .i64 s]) (hb2 : Whole w0 g2 29 l.cells) :
    IterU Tryz.prog 147 #[.pointer (some ⟨g1, 0, none⟩), .pointer (some ⟨g2, 0, none⟩)] (fun x : Int × Int => #[(prtV x.1 x.2)]) (portsS l s) (fun k => k < wa.heap.size ∨ (k = g1 ∨ k = g2)) w0 := by
  intro L J Jx W hk0 hRl hJ hJx hY h0
  have hnW : wa.heap.size ≤ W.heap.size := Nat.le_of_not_lt fun hlt => absurd (hRl _ (.inl hlt)) (Nat.lt_irrefl _)
  have HF : Hid (∀ W', Keeps (fun k => k < wa.heap.size ∨ (k = g1 ∨ k = g2)) w0 W' → W.heap.size ≤ W'.heap.size → Shapes W' ∧ Lies l W') := Lib.hid fun W' hk hs =>
    have hk' := hka.trans (hk.sub fun k h => .inl h)
    ⟨hT.keeps hk' (fun _ h => h), hL.keeps hk' (fun _ h => h) (Nat.le_trans hnW hs)⟩
  have HB1 : Hid (∀ W', Keeps (fun k => k < wa.heap.size ∨ (k = g1 ∨ k = g2)) w0 W' → Whole W' g1 3 [.int .i64 s]) := Lib.hid fun W' hk => hk.whole (.inr (.inl rfl)) hb1
  have HB2 : Hid (∀ W', Keeps (fun k => k < wa.heap.size ∨ (k = g1 ∨ k = g2)) w0 W' → Whole W' g2 29 l.cells) := Lib.hid fun W' hk => hk.whole (.inr (.inr rfl)) hb2
  have HRl := Lib.hid hRl
  have HTA := Lib.hid (there_at l s)
  have HXL := Lib.hid (portsS_len l s)
  have HXA := Lib.hid (fun j => portsS_at (l := l) (s := s) (j := j))
  obtain ⟨m, hm⟩ : ∃ m, (pK (kindV l s)).toNat = m := ⟨_, rfl⟩
  have hm4 : m ≤ 4 := by have := pK_le4 (kindV l s); omega
  rw [hm] at HTA HXL HXA
  obtain ⟨xs, hxs⟩ : ∃ xs, portsS l s = xs := ⟨_, rfl⟩
  rw [hxs] at HXL HXA hY ⊢
  have y0 := (HB1.out _ hk0).cell_at 0 rfl
  obtain ⟨B, hB⟩ : ∃ B, W.heap.size = B := ⟨_, rfl⟩
  rw [hB] at HF hJ hJx hY
  have HBB := Lib.hid hB
  clear hT hL hka hb1 hb2 hRl hm hxs hnW hB
  refine (callsIn_wide (n := 3)).1 ?_
  refine callsIn_of_wp Tryz.func147 rfl trivial ?_ rfl
  simp only [Tryz.ntmps147, List.size_toArray, List.length_cons, List.length_nil, Nat.reduceAdd, Nat.reduceSub, Array.replicate_succ, Array.replicate_zero, List.push_toArray, List.append_toArray, List.nil_append, List.cons_append]
  gi_wp2_with fail
  gi_loopw [4] (fun i wr => ∃ (j : Nat) (U : Nat → Prop) (gp : Nat), j ≤ m ∧ i = .pointer (some ⟨gp, 0, none⟩) ∧ Whole wr gp 46 [.int .i64 s, .int .i64 (j : Int)] ∧ B ≤ gp ∧ ¬ U gp ∧ J U j wr ∧ (∀ k, U k → k < wr.heap.size) ∧ Keeps (fun k => k < wa.heap.size ∨ (k = g1 ∨ k = g2)) w0 wr ∧ B ≤ wr.heap.size)
    (fun i wr => m - secondOf i wr)
  case atStart =>
    have hb := below1 W (.cells #[.int .i64 s, .int .i64 0] 46)
    have hB := HBB.out
    exact ⟨0, fun _ => False, W.heap.size, by omega, rfl, Whole.new W _ [_, _], by omega, fun h => h, hJ _ _ _ _ h0 (Stays.below hb), fun k h => h.elim, hk0.trans (Keeps.below hb), by simp; omega⟩
  case round =>
    clear y0 h0
    obtain ⟨j, U, gp, hj, rfl, hgp, hBg, hUg, hJj, hUl, hk, hs⟩ := hrel
    have p0 := hgp.cell_at 0 rfl
    have p1 := hgp.cell_at 1 rfl
    obtain ⟨hTw, hLw⟩ := HF.out _ hk hs
    have m0 := HB2.out _ hk
    have x0 := m0.cell_at 0 rfl
    have x1 := m0.cell_at 1 rfl
    have x2 := m0.cell_at 2 rfl
    have x3 := m0.cell_at 3 rfl
    have x4 := m0.cell_at 4 rfl
    have x5 := m0.cell_at 5 rfl
    have x6 := m0.cell_at 6 rfl
    have x7 := m0.cell_at 7 rfl
    have x8 := m0.cell_at 8 rfl
    have x9 := m0.cell_at 9 rfl
    have x10 := m0.cell_at 10 rfl
    clear m0
    have KH := Lib.hid (has_B hTw hLw s j (HTA.out j))
    clear hTw hLw
    gi_wp2_with fail
    refine ⟨trivial, (callsIn_wide.2 KH.out).mono ?_⟩
    clear KH p0 p1 x0 x1 x2 x3 x4 x5 x6 x7 x8 x9 x10
    have hgpm := hgp
    by_cases hjm : j < m
    · have hd : decide (j < m) = true := decide_eq_true hjm
      have HXJ := Lib.hid (HXA.out j hjm)
      rw [hd]
      clear hd
      rintro e w1 ⟨rfl, hB1⟩
      have hgp := hgp.below hB1 hgp.lt
      have hUl1 : ∀ k, U k → k < w1.heap.size := fun k h => Nat.lt_of_lt_of_le (hUl k h) hB1.size
      have hJ1 := hJ _ _ _ _ hJj (Stays.below hB1)
      have hk1 := hk.trans (Keeps.below hB1)
      have hs1 := Nat.le_trans hs hB1.size
      clear hJj hUl hk hs hB1
      have p0 := hgp.cell_at 0 rfl
      have p1 := hgp.cell_at 1 rfl
      obtain ⟨fn, tmps, assign, body, hy, hR⟩ := hY U j (s, (j : Int)) w1 HXJ.out hJ1 hUl1
      have HR := Lib.hid hR
      clear hR hJ1
      gi_wp2_with fail
      refine RoundIn.mono (RoundIn.wide HR.out) ?_
      clear HR hy p0 p1
      rintro e W3 ⟨U', hg', hk', (⟨rfl, hJ3⟩ | ⟨rfl, hJx3⟩)⟩
      · have hgp3 := hk'.whole hgp hBg hUg
        have p0 := hgp3.cell_at 0 rfl
        have p1 := hgp3.cell_at 1 rfl
        have hb4 := fun o => below1 W3 o
        have hs3 := hk'.size
        have hU3 : ¬ U' W3.heap.size := fun h => Nat.lt_irrefl _ (hg'.lt _ h)
        have hJ4 := fun o => hJ _ _ _ _ hJ3 (Stays.below (hb4 o))
        have hk4 := (hk1.trans hk'.keeps).trans (Keeps.below (hb4 (.cells #[.int .i64 s, .int .i64 ((j + 1 : Nat) : Int)] 46)))
        have hw1 : IntKind.i64.wrap ((j : Int) + 1) = ((j + 1 : Nat) : Int) := by rw [wrapI_in _ (by omega)]; omega
        have hj1 : ((j : Int) + 1) = ((j + 1 : Nat) : Int) := by omega
        have hw2 : wrap64 ((j : Int) + 1) = ((j + 1 : Nat) : Int) := by unfold wrap64; omega
        have HJ1 := Lib.hid hj1
        clear hj1 hk1 hJ3 hb4
        gi_wp2_with fail
        go_roundw
        case rel => exact ⟨j + 1, U', W3.heap.size, hjm, rfl, by rw [HJ1.out]; exact Whole.new W3 _ [_, _], by omega, hU3, hJ4 _, fun k h => by have := hg'.lt k h; simp; omega, by rw [HJ1.out]; exact hk4, by simp; omega⟩
        case measure =>
          rw [secondOf_whole (Whole.new W3 46 [.int .i64 s, .int .i64 ((j : Int) + 1)]), secondOf_whole hgpm]
          omega
      · gi_wp2
        refine bodyPost_ret (results_none rfl _ _ _) rfl ?_
        exact ⟨⟨_, rfl⟩, U', hg'.lt, .inr hJx3⟩
    · have hd : decide (j < m) = false := decide_eq_false hjm
      obtain rfl : j = m := by omega
      rw [hd]
      clear hd
      rintro e w1 ⟨rfl, hB1⟩
      have hJ1 := hJ _ _ _ _ hJj (Stays.below hB1)
      gi_wp2_with fail
      go_end0
      exact ⟨⟨_, rfl⟩, U, fun k h => Nat.lt_of_lt_of_le (hUl k h) hB1.size, .inl (HXL.out ▸ hJ1)⟩
end Go.Proofs.YtlfpkileblmhoaaGreatDoor
namespace Go.Proofs.YtlfpkileblmhoaaGreatDoor
open Go.RowKit Go.Shelf
set_option linter.unusedVariables false
set_option linter.unusedSimpArgs false

attribute [local go_sem] Oper.semAt_some

theorem portsJ_any (l : Lay) (s : Int) (w : World) : Calls Tryz.prog 144 #[l.val, .int .i64 s] w fun e w' => e = .returned (.func (.func 147) #[] #[.pointer (some ⟨w.heap.size + 1, 0, none⟩), .pointer (some ⟨w.heap.size, 0, none⟩)]) ∧
    w' = (w.alloc (.cells #[.slice l.As l.secs.length l.cs, .slice l.Ag l.sigs.length l.cg, .slice l.Ae l.exits.length l.ce, .slice l.Af l.flanks.length l.cf, .int .i64 l.t0, .int .i64 l.t1, .int .i64 l.t2, .int .i64 l.t3, .int .i64 l.t4, .int .i64 l.t5, .int .i64 l.t6] 29)).alloc (.cells #[.int .i64 s] 3) := by
  go_enter Tryz.func144, Tryz.ntmps144
  go_wp2_with fail
  go_ret
  exact ⟨rfl, rfl⟩

/-- The blocks that are new count as its own. -/
def With (U : Nat → Prop) (W W' : World) : Nat → Prop := fun k => U k ∨ (W.heap.size ≤ k ∧ k < W'.heap.size)
theorem Grew.with {U : Nat → Prop} {W W' : World} (h : ∀ k, U k → k < W.heap.size) (hs : W.heap.size ≤ W'.heap.size) : Grew U (With U W W') W W' :=
  ⟨fun k hk => hk.imp id (fun h => h.1), fun k hk => hk.elim (fun hu => Nat.lt_of_lt_of_le (h k hu) hs) (fun h => h.2)⟩
end Go.Proofs.YtlfpkileblmhoaaGreatDoor
