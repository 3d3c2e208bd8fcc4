/- The document's own put of a number; its times. -/
import Derived.Test.YtegflmaobmibnaaGreatDoorQPlanH
namespace Go.Proofs.YtegflmaobmibnaaGreatDoor
set_option maxRecDepth 100000
open Go.RowKit Go.Shelf
set_option linter.unusedVariables false
set_option linter.unusedSimpArgs false

/-- Bits by value. -/
abbrev bitsV (A : Option Addr) (n c : Nat) (N : Int) : Value := .agg #[.slice A n c, .int .i64 N]
/-- What a call that hands on bits gives (their bytes lie in a block of the call's own). -/
def OutB (w : World) (l : List Bool) (e : Ending) (w' : World) : Prop :=
  ∃ A c ys M, e = .returned (bitsV A ys.length c M) ∧ Hands w' A ys ∧ Are ys M l ∧ (∀ q, A = some q → w.heap.size ≤ q.block ∧ q.block < w'.heap.size) ∧ Below w.heap.size w w'
theorem putR8_new (A : Option Addr) (cap : Nat) (zs : List Int) (N n : Int) (j : Nat) (l : List Bool) (w : World) (h : Given w A zs N) (hA : Are zs N l) (hn : n ≤ 9223372036854775807) (hF : fitsB n (j : Int) = true) :
    Calls Tryz.prog 70 #[.agg #[.slice A zs.length cap, .int .i64 N], .int .i64 n, .int .i64 (j : Int)] w fun e w' =>
      ∃ g c ys M, e = .returned (.tuple #[.agg #[.slice (some ⟨g, 0, none⟩) ys.length c, .int .i64 M], .int .i64 0]) ∧ w.heap.size ≤ g ∧ g < w'.heap.size ∧ Hands w' (some ⟨g, 0, none⟩) ys ∧ Are ys M (l ++ first (digit n j) j) ∧ Below w.heap.size w w' := by
  obtain ⟨l', hA', hl16, hlen⟩ := h.bits hA.right
  obtain rfl := hA'.inj hA
  obtain ⟨rfl, rfl⟩ := hA
  obtain ⟨j', hj', hj, h0, h1⟩ := fits_nat hF
  obtain rfl : j' = j := by omega
  rw [← hlen]
  refine (putR_ok A cap l' n j' w h.row (by omega) hj h0 h1 (right_pack l')).mono ?_
  rintro e w' ⟨v, rfl, ⟨g, c, rfl, ho⟩, hB⟩
  refine ⟨g, c, pack (bytesFor (l' ++ first (digit n j') j').length) (l' ++ first (digit n j') j'), _, by rw [pack_length], (ho.lt g rfl).1, (ho.lt g rfl).2, Hands.owned ho (pack_byte _ _), ⟨rfl, rfl⟩, hB⟩
set_option maxHeartbeats 8000000 in
theorem putR8_any (A : Option Addr) (c : Nat) (zs : List Int) (N : Int) (l : List Bool) {K : Int} (n : Int) (k : Nat) (w : World) (hK : K = (k : Int)) (hH : Hands w A zs) (hA : Are zs N l) (hl : l.length ≤ 100000) (hf : FitN (n, k)) :
    Calls Tryz.prog 27 #[bitsV A zs.length c N, .int .i64 n, .int .i64 K] w (OutB w (l ++ bitsN (n, k))) := by
  subst hK
  have HFT := Lib.hid (fits_of hf)
  have HN9 : Hid (n ≤ 9223372036854775807) := Lib.hid (by have := hf.2.1; have := pow_most k hf.2.2; simp only at *; omega)
  obtain ⟨W0, hW0⟩ : ∃ W, (w.alloc (.cells #[.slice A zs.length c, .int .i64 N] 54)).alloc (.cells #[.slice none 0 0, .int .i64 0] 54) = W := ⟨_, rfl⟩
  have HB0 : Hid (Below w.heap.size w W0) := Lib.hid (by rw [← hW0]; exact below2 w _ _)
  have HX0 : Hid (Whole W0 w.heap.size 54 [.slice A zs.length c, .int .i64 N]) := Lib.hid (by rw [← hW0]; exact (Whole.new w 54 [.slice A zs.length c, .int .i64 N]).alloc _)
  have HR0 : Hid (Whole W0 (w.heap.size + 1) 54 [.slice none 0 0, .int .i64 0]) := Lib.hid (by rw [← hW0]; exact Whole.new_at (w.alloc (.cells #[.slice A zs.length c, .int .i64 N] 54)) 54 [.slice none 0 0, .int .i64 0] (n := w.heap.size + 1) (by simp))
  have HS0 : Hid (W0.heap.size = w.heap.size + 2) := Lib.hid (by rw [← hW0]; simp)
  have HG : Hid (Given W0 A zs N) := Lib.hid (given_of (hH.on HB0.out) hA (by omega))
  have HA := Lib.hid hA
  have HW0 := Lib.hid hW0
  clear hW0 hH hA
  go_enter Tryz.func27, Tryz.ntmps27
  go_wp2_with fail
  rw [HW0.out]
  clear HW0
  refine (putR8_new A c zs N n k l W0 HG.out HA.out HN9.out HFT.out).mono ?_
  rintro e w1 ⟨gb, c', ys, M, rfl, hgb, hgl, hh, ha', hb⟩
  have hx := HX0.out.below hb HX0.out.lt
  have hr := HR0.out.below hb HR0.out.lt
  have x0 := hx.cell_at 0 rfl
  have x1 := hx.cell_at 1 rfl
  have f0 := hx.frozen 0
  have f1 := hx.frozen 1
  have y0 := hr.cell_at 0 rfl
  have y1 := hr.cell_at 1 rfl
  have g0 := hr.frozen 0
  have g1 := hr.frozen 1
  have hx1 := (hx.set 0 (.slice (some ⟨gb, 0, none⟩) ys.length c')).set 1 (.int .i64 M)
  have v0 := hx1.cell_at 0 rfl
  have v1 := hx1.cell_at 1 rfl
  have hr1 := (hr.far (p := ⟨w.heap.size, 0, none⟩) (by show w.heap.size + 1 ≠ w.heap.size; omega) (.slice (some ⟨gb, 0, none⟩) ys.length c')).far (p := ⟨w.heap.size, 1, none⟩) (by show w.heap.size + 1 ≠ w.heap.size; omega) (.int .i64 M)
  have u0 := hr1.cell_at 0 rfl
  have u1 := hr1.cell_at 1 rfl
  have k0 := hr1.frozen 0
  have k1 := hr1.frozen 1
  have hr2 := (hr1.set 0 (.slice (some ⟨gb, 0, none⟩) ys.length c')).set 1 (.int .i64 M)
  have t0 := hr2.cell_at 0 rfl
  have t1 := hr2.cell_at 1 rfl
  have hg := HS0.out
  have HF : Hid (Hands ((((w1.setCell ⟨w.heap.size, 0, none⟩ (.slice (some ⟨gb, 0, none⟩) ys.length c')).setCell ⟨w.heap.size, 1, none⟩ (.int .i64 M)).setCell ⟨w.heap.size + 1, 0, none⟩ (.slice (some ⟨gb, 0, none⟩) ys.length c')).setCell ⟨w.heap.size + 1, 1, none⟩ (.int .i64 M)) (some ⟨gb, 0, none⟩) ys ∧ Below w.heap.size w ((((w1.setCell ⟨w.heap.size, 0, none⟩ (.slice (some ⟨gb, 0, none⟩) ys.length c')).setCell ⟨w.heap.size, 1, none⟩ (.int .i64 M)).setCell ⟨w.heap.size + 1, 0, none⟩ (.slice (some ⟨gb, 0, none⟩) ys.length c')).setCell ⟨w.heap.size + 1, 1, none⟩ (.int .i64 M))) :=
    Lib.hid ⟨(((hh.far (p := ⟨w.heap.size, 0, none⟩) (fun q hq => by cases hq; show gb ≠ w.heap.size; omega) _).far (p := ⟨w.heap.size, 1, none⟩) (fun q hq => by cases hq; show gb ≠ w.heap.size; omega) _).far (p := ⟨w.heap.size + 1, 0, none⟩) (fun q hq => by cases hq; show gb ≠ w.heap.size + 1; omega) _).far (p := ⟨w.heap.size + 1, 1, none⟩) (fun q hq => by cases hq; show gb ≠ w.heap.size + 1; omega) _,
      ((((HB0.out.trans (hb.mono HB0.out.size)).setCell (p := ⟨w.heap.size, 0, none⟩) (Nat.le_refl _) _).setCell (p := ⟨w.heap.size, 1, none⟩) (Nat.le_refl _) _).setCell (p := ⟨w.heap.size + 1, 0, none⟩) (by show w.heap.size ≤ w.heap.size + 1; omega) _).setCell (p := ⟨w.heap.size + 1, 1, none⟩) (by show w.heap.size ≤ w.heap.size + 1; omega) _⟩
  have HAR := Lib.hid ha'
  have HGB : Hid (w.heap.size ≤ gb ∧ gb < w1.heap.size) := Lib.hid ⟨by omega, hgl⟩
  clear hx hr hx1 hr1 hr2 hh hb ha' hgb hg hgl
  go_wp2_with fail
  refine bodyPost_ret (v := bitsV (some ⟨gb, 0, none⟩) ys.length c' M) (by simp [results, Tryz.results27, go_sem, t0, t1]) rfl ?_
  exact ⟨_, _, ys, M, rfl, HF.out.1, HAR.out, fun q hq => by cases hq; exact ⟨HGB.out.1, by simp [World.setCell]; exact HGB.out.2⟩, HF.out.2⟩
end Go.Proofs.YtegflmaobmibnaaGreatDoor
