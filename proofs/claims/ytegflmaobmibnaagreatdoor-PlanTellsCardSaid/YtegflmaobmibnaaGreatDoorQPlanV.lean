/- What takeSection takes. -/
import Derived.Test.YtegflmaobmibnaaGreatDoorQPlanU
namespace Go.Proofs.YtegflmaobmibnaaGreatDoor
set_option maxRecDepth 100000
open Go.RowKit Go.Shelf
set_option linter.unusedVariables false
set_option linter.unusedSimpArgs false

theorem trackEnd8_any (w : World) : Calls Tryz.prog 124 #[] w fun e w' => e = .returned (prtV (-1) 0) ∧ Below w.heap.size w w' := by
  go_enter Tryz.func124, Tryz.ntmps124
  go_wp2
  exact bodyPost_ret (v := .agg #[.int .i64 (-1), .int .i64 0]) (by simp [results, Tryz.f124, go_sem]) rfl ⟨rfl, below1 _ _⟩
theorem Shapes.bq {n q : Nat} {A B : World} (h : Shapes A) (hb : Bq A.heap.size q A B) (hq : 0 ≠ q) : Shapes B := fun i v hv =>
  (World.cell?_of_block (hb.block 0 (World.block_lt_of_cell? A _ (h i v hv)) hq)).trans (h i v hv)
theorem Shapes.lt {w : World} (h : Shapes w) : 0 < w.heap.size := World.block_lt_of_cell? w _ (h 0 _ rfl)
theorem Shapes.far {w : World} (h : Shapes w) {p : Addr} (hp : 0 ≠ p.block) (u : Value) : Shapes (w.setCell p u) := fun i v hv =>
  (World.cell?_setCell_other w p ⟨0, i, none⟩ u (fun e => hp (congrArg Addr.block e).symm)).trans (h i v hv)
theorem ports_B {w : World} (hT : Shapes w) (k : Int) (h0 : 0 ≤ k) (h1 : k ≤ 255) : Calls Tryz.prog 86 #[.int .u8 k] w fun e w' => e = .returned (.int .i64 (pK k)) ∧ Below w.heap.size w w' :=
  ports_P (P := fun W => Below w.heap.size w W) (Closed.below w) (fun W h => Shapes.closed _ _ hT h) h0 h1 (shapeK k) (Below.refl _ _)
theorem ways_B {w : World} (hT : Shapes w) (k : Int) (h0 : 0 ≤ k) (h1 : k ≤ 255) : Calls Tryz.prog 89 #[.int .u8 k] w fun e w' => e = .returned (.int .i64 (nK k)) ∧ Below w.heap.size w w' :=
  ways_P (P := fun W => Below w.heap.size w W) (Closed.below w) (fun W h => Shapes.closed _ _ hT h) h0 h1 (shapeK k) (Below.refl _ _)

/-- Within takeSection: what lay ahead but the place lies as it lay; the section's own cells; the result's; the closure; the table. -/
structure SS (w : World) (bx ba g : Nat) (zs : List Int) (X : Nat) (cs : List Value) (s : Nat) (W : World) : Prop where
  bq : Bq w.heap.size ba w W
  x : Whole W X 70 cs
  r : Whole W w.heap.size 70 [.int .u8 0, .int .i64 0, .int .i64 0, .int .i64 0, .int .i64 0, .int .i64 0, .int .i64 0, .int .i64 0, .int .i64 0, .int .i64 0, .int .i64 0]
  t : Taker bx ba g zs s W
  sh : Shapes W
  lt : w.heap.size < X
theorem SS.step {w : World} {bx ba g : Nat} {zs : List Int} {X : Nat} {cs : List Value} {s s' : Nat} {W W' : World} (h : SS w bx ba g zs X cs s W) (hb : Bq W.heap.size ba W W') (hba : ba < w.heap.size) (h0 : 0 ≠ ba) (ht : Taker bx ba g zs s' W') : SS w bx ba g zs X cs s' W' :=
  ⟨h.bq.trans (hb.less h.bq.size), h.x.bq hb h.x.lt (by have := h.lt; omega), h.r.bq hb h.r.lt (by omega), ht, Shapes.bq (n := 0) h.sh hb h0, h.lt⟩
theorem SS.keep {w : World} {bx ba g : Nat} {zs : List Int} {X : Nat} {cs : List Value} {s : Nat} {W W' : World} (h : SS w bx ba g zs X cs s W) (hb : Below W.heap.size W W') : SS w bx ba g zs X cs s W' :=
  ⟨h.bq.on hb h.bq.size, h.x.below hb h.x.lt, h.r.below hb h.r.lt, h.t.keep hb, Shapes.closed _ _ h.sh hb, h.lt⟩
theorem SS.store {w : World} {bx ba g : Nat} {zs : List Int} {X : Nat} {cs : List Value} {s : Nat} {W : World} (h : SS w bx ba g zs X cs s W) (hs0 : 0 < w.heap.size) (h1 : bx < w.heap.size) (h2 : ba < w.heap.size) (h3 : g < w.heap.size) (i : Nat) (u : Value) :
    SS w bx ba g zs X (cs.set i u) s (W.setCell ⟨X, i, none⟩ u) := by
  have hl := h.lt
  exact ⟨h.bq.set (p := ⟨X, i, none⟩) (.inl (Nat.le_of_lt hl)) u, h.x.set i u, h.r.far (p := ⟨X, i, none⟩) (by show w.heap.size ≠ X; omega) u, h.t.far (p := ⟨X, i, none⟩) (by show bx ≠ X; omega) (by show ba ≠ X; omega) (by show g ≠ X; omega) u, h.sh.far (p := ⟨X, i, none⟩) (by show 0 ≠ X; omega) u, hl⟩

/-- The first joins are ends. -/
def endsTo (k : Int) : Nat → List Value
  | 0 => [.int .u8 k, .int .i64 0, .int .i64 0, .int .i64 0, .int .i64 0, .int .i64 0, .int .i64 0, .int .i64 0, .int .i64 0, .int .i64 0, .int .i64 0]
  | 1 => [.int .u8 k, .int .i64 (-1), .int .i64 0, .int .i64 0, .int .i64 0, .int .i64 0, .int .i64 0, .int .i64 0, .int .i64 0, .int .i64 0, .int .i64 0]
  | 2 => [.int .u8 k, .int .i64 (-1), .int .i64 0, .int .i64 (-1), .int .i64 0, .int .i64 0, .int .i64 0, .int .i64 0, .int .i64 0, .int .i64 0, .int .i64 0]
  | 3 => [.int .u8 k, .int .i64 (-1), .int .i64 0, .int .i64 (-1), .int .i64 0, .int .i64 (-1), .int .i64 0, .int .i64 0, .int .i64 0, .int .i64 0, .int .i64 0]
  | _ => [.int .u8 k, .int .i64 (-1), .int .i64 0, .int .i64 (-1), .int .i64 0, .int .i64 (-1), .int .i64 0, .int .i64 (-1), .int .i64 0, .int .i64 0, .int .i64 0]
theorem snoc_default {α : Type} (d : α) (js : List α) (i : Nat) : (js ++ [d])[i]?.getD d = js[i]?.getD d := by
  rcases Nat.lt_trichotomy i js.length with h | h | h
  · rw [List.getElem?_append_left h]
  · subst h; simp
  · rw [List.getElem?_eq_none (by simp; omega), List.getElem?_eq_none (by omega)]
theorem mk_end (k : Int) (js : List (Int × Int)) (cs : List Int) : mkSec k (js ++ [(-1, 0)]) cs = mkSec k js cs := by unfold mkSec; simp only [snoc_default]
theorem join_none {l : List Bool} {s : Nat} (h : numP 1 l s = none) : joinP l s = none := bnd_none h
theorem join_end {l : List Bool} {s t : Nat} {b : Int} (h : numP 1 l s = some (b, t)) (hb : b ≠ 1) : joinP l s = some ((-1, 0), t) := (bnd_some h).trans (by rw [if_neg hb]; rfl)
theorem join_port {l : List Bool} {s t : Nat} (h : numP 1 l s = some (1, t)) : joinP l s = portP l t := (bnd_some h).trans (by rw [if_pos rfl])
section
variable {bx ba g : Nat} {zs : List Int} {l : List Bool} (hA : Are zs (8 * (zs.length : Int)) l) (hz : zs.length ≤ 2000)
include hA hz
set_option maxHeartbeats 16000000 in
theorem sec_take (s : Nat) (w : World) (hT : Taker bx ba g zs s w) (hs : s ≤ l.length) (hSh : Shapes w) (h00 : 0 ≠ ba) :
    Calls Tryz.prog 105 #[tkV bx ba] w (Out bx ba g zs w Sec.val (secP l s)) := by
  have hba := hT.a.lt
  have hbx := hT.x.lt
  have hlg := hT.lg
  have hs0 := hSh.lt
  have h0 := hT.alloc (.cells [.int .u8 0, .int .i64 0, .int .i64 0, .int .i64 0, .int .i64 0, .int .i64 0, .int .i64 0, .int .i64 0, .int .i64 0, .int .i64 0, .int .i64 0].toArray 70)
  have hS0 := Shapes.closed _ _ hSh (below1 w (.cells [.int .u8 0, .int .i64 0, .int .i64 0, .int .i64 0, .int .i64 0, .int .i64 0, .int .i64 0, .int .i64 0, .int .i64 0, .int .i64 0, .int .i64 0].toArray 70))
  have hB : Bq w.heap.size ba w (w.alloc (.cells [.int .u8 0, .int .i64 0, .int .i64 0, .int .i64 0, .int .i64 0, .int .i64 0, .int .i64 0, .int .i64 0, .int .i64 0, .int .i64 0, .int .i64 0].toArray 70)) := (Bq.refl _ _ _).alloc (Nat.le_refl _) _
  have hR := Whole.new w 70 [.int .u8 0, .int .i64 0, .int .i64 0, .int .i64 0, .int .i64 0, .int .i64 0, .int .i64 0, .int .i64 0, .int .i64 0, .int .i64 0, .int .i64 0]
  have hsz : w.heap.size + 1 ≤ (w.alloc (.cells [.int .u8 0, .int .i64 0, .int .i64 0, .int .i64 0, .int .i64 0, .int .i64 0, .int .i64 0, .int .i64 0, .int .i64 0, .int .i64 0, .int .i64 0].toArray 70)).heap.size := by simp
  go_enter Tryz.func105, Tryz.ntmps105
  go_wp2_with fail
  obtain ⟨w0, hw0⟩ : ∃ W, w.alloc (.cells [.int .u8 0, .int .i64 0, .int .i64 0, .int .i64 0, .int .i64 0, .int .i64 0, .int .i64 0, .int .i64 0, .int .i64 0, .int .i64 0, .int .i64 0].toArray 70) = W := ⟨_, rfl⟩
  rw [hw0] at h0 hB hR hsz hS0 ⊢
  clear hw0
  go_at_call 110
  refine (take1_any hA hz (K := 2) 2 s w0 rfl (by omega) h0 hs).mono ?_
  rintro e w1 (⟨k, s1, r1, rfl, h1, hb⟩ | ⟨r1, v, rfl, hb⟩)
  rotate_left
  · exact ⟨rfl, .inr ⟨bnd_none r1, _, rfl, hB.trans (hb.less (by omega))⟩⟩
  replace hs := (Good.num 2 l _ _ _ hs r1).2.1
  obtain ⟨hk0, hk3⟩ := Tells.num 2 l _ _ _ r1
  have hk4 : k ≤ 255 := by omega
  have hwk : IntKind.u8.wrap k = k := by rw [IntKind.wrap_u8]; omega
  replace hB := hB.trans (hb.less (by omega))
  replace hS0 := Shapes.bq (n := 0) hS0 hb h00
  replace hR := hR.bq hb (by omega) (by omega)
  replace hsz := Nat.le_trans hsz hb.size
  clear h0 hb hk3
  have hX : SS w bx ba g zs w1.heap.size (endsTo k 0) s1 (w1.alloc (.cells (endsTo k 0).toArray 70)) :=
    ⟨hB.alloc hB.size _, Whole.new _ _ _, hR.alloc _, h1.alloc _, Shapes.closed _ _ hS0 (below1 _ _), by omega⟩
  go_upto_region 2 with (fail)
  obtain ⟨w2, hw2⟩ : ∃ W, w1.alloc (.cells (endsTo k 0).toArray 70) = W := ⟨_, rfl⟩
  rw [hw2] at hX
  simp only [endsTo] at hw2
  rw [hw2]
  obtain ⟨X, HXX⟩ : ∃ X, Hid (X = w1.heap.size) := ⟨_, Lib.hid rfl⟩
  rw [← HXX.out] at hX ⊢
  have HS := Lib.hid hs
  have HR1 := Lib.hid r1
  have HK := Lib.hid (And.intro hk0 hk4)
  clear hw2 h1 hR hB hS0 r1 hs hT hSh hsz hwk HXX
  go_wp2_with fail
  go_loopw [11] (fun i wr => ∃ j : Nat, j ≤ 4 ∧ i = .int .i64 j ∧ Hid (SS w bx ba g zs X (endsTo k j) s1 wr)) (fun i _ => 4 - (intOf i).toNat)
  case atStart => exact ⟨0, by omega, rfl, Lib.hid hX⟩
  case round =>
    clear hX
    obtain ⟨j, hj, rfl, HM⟩ := hrel
    by_cases hlt : j < 4
    · have hlt' : (j : Int) < 4 := by omega
      go_wp2_with fail
      go_at_call 124
      refine (trackEnd8_any wr).mono ?_
      rintro e w3 ⟨rfl, hb⟩
      have hM := HM.out.keep hb
      have hM1 := (hM.store hs0 hbx hba hlg (1 + 2 * j) (.int .i64 (-1))).store hs0 hbx hba hlg (2 + 2 * j) (.int .i64 0)
      have HM1 : Hid (SS w bx ba g zs X (endsTo k (j + 1)) s1 ((w3.setCell ⟨X, 1 + 2 * j, none⟩ (.int .i64 (-1))).setCell ⟨X, 2 + 2 * j, none⟩ (.int .i64 0))) := by
        refine Lib.hid ?_
        obtain rfl | rfl | rfl | rfl : j = 0 ∨ j = 1 ∨ j = 2 ∨ j = 3 := by omega
        all_goals exact hM1
      have HF := Lib.hid hM.x
      clear hM hM1 hb
      obtain rfl | rfl | rfl | rfl : j = 0 ∨ j = 1 ∨ j = 2 ∨ j = 3 := by omega
      all_goals
        have y0 := HF.out.cell_at 1 rfl
        have y1 := HF.out.cell_at 2 rfl
        have y2 := HF.out.cell_at 3 rfl
        have y3 := HF.out.cell_at 4 rfl
        have y4 := HF.out.cell_at 5 rfl
        have y5 := HF.out.cell_at 6 rfl
        have y6 := HF.out.cell_at 7 rfl
        have y7 := HF.out.cell_at 8 rfl
        have f0 := HF.out.frozen 1
        have f1 := HF.out.frozen 2
        have f2 := HF.out.frozen 3
        have f3 := HF.out.frozen 4
        have f4 := HF.out.frozen 5
        have f5 := HF.out.frozen 6
        have f6 := HF.out.frozen 7
        have f7 := HF.out.frozen 8
        go_wp2_with fail
        go_roundw
        case rel => exact ⟨_, hlt, rfl, HM1⟩
        case measure => simp [intOf]
    · obtain rfl : j = 4 := by omega
      have hk0 := HK.out.1
      have hM := HM.out
      have y0 := hM.x.cell_at 0 rfl
      go_wp2_with fail
      generalize hV11 : Value.int .i64 ((4 : Nat) : Int) = V11
      clear hV11
      go_at_call 86
      obtain ⟨Pn, HPn⟩ : ∃ n : Nat, Hid (pK k = (n : Int) ∧ n ≤ 4) := ⟨(pK k).toNat, Lib.hid ⟨by have := pK_top k; omega, by have := pK_top k; omega⟩⟩
      refine (ports_B hM.sh k hk0 hk4).mono ?_
      rintro e w4 ⟨rfl, hb⟩
      rw [HPn.out.1]
      have hM1 := hM.keep hb
      have hP4 := HPn.out.2
      clear hM hb y0 HM hj hlt
      go_wp2_with fail
      go_loopw [22] (fun i wr => ∃ (j : Nat) (js : List (Int × Int)) (s' : Nat), j ≤ Pn ∧ i = .int .i64 j ∧ Hid (manyP joinP j l s1 = some (js, s') ∧ s' ≤ l.length ∧ SS w bx ba g zs X (mkSec k js []).cells s' wr)) (fun i _ => Pn - (intOf i).toNat)
      case atStart => exact ⟨0, [], s1, by omega, rfl, Lib.hid ⟨rfl, HS.out, hM1⟩⟩
      case round =>
        clear hM1
        obtain ⟨j, js, s', hj, rfl, HM⟩ := hrel
        by_cases hlt : j < Pn
        · have hlt' : (j : Int) < (Pn : Int) := by omega
          have HLE : Hid (js.length = j) := Lib.hid (many_length HM.out.1)
          have HNO : Hid (joinP l s' = none → secP l s = none) := Lib.hid (fun hn => (bnd_some HR1.out).trans (bnd_none (by rw [show (pK k).toNat = Pn by have := HPn.out.1; omega]; exact many_stop ((many_succ HM.out.1).trans (by rw [hn]; rfl)) Pn hlt)))
          have HSL := Lib.hid HM.out.2.1
          go_wp2_with fail
          go_at_call 110
          refine (take1_any hA hz (K := 1) 1 s' wr rfl (by omega) HM.out.2.2.t HSL.out).mono ?_
          rintro e w5 (⟨b, t5, q5, rfl, ht, hb⟩ | ⟨q5, v, rfl, hb⟩)
          rotate_left
          · exact ⟨rfl, .inr ⟨HNO.out (join_none q5), _, rfl, HM.out.2.2.bq.trans (hb.less HM.out.2.2.bq.size)⟩⟩
          have hM := HM.out.2.2.step hb hba h00 ht
          have HQ5 := Lib.hid q5
          have HSL5 := Lib.hid ((Good.num 1 l _ _ _ HSL.out q5).2.1)
          clear ht hb q5
          by_cases hb1 : b = 1
          · subst hb1
            go_wp2_with fail
            go_at_call 106
            refine (port_take hA hz t5 w5 hM.t HSL5.out).mono ?_
            rintro e w6 (⟨⟨a, q⟩, t6, q6, rfl, ht, hb⟩ | ⟨q6, v, rfl, hb⟩)
            rotate_left
            · exact ⟨rfl, .inr ⟨HNO.out ((join_port HQ5.out).trans q6), _, rfl, hM.bq.trans (hb.less hM.bq.size)⟩⟩
            have hM6 := hM.step hb hba h00 ht
            have HJ : Hid (joinP l s' = some ((a, q), t6)) := Lib.hid ((join_port HQ5.out).trans q6)
            have HST : Hid (SS w bx ba g zs X (mkSec k (js ++ [(a, q)]) []).cells t6 ((w6.setCell ⟨X, 1 + 2 * j, none⟩ (.int .i64 a)).setCell ⟨X, 2 + 2 * j, none⟩ (.int .i64 q))) := by
              have h6 := (hM6.store hs0 hbx hba hlg (1 + 2 * j) (.int .i64 a)).store hs0 hbx hba hlg (2 + 2 * j) (.int .i64 q)
              have hle := HLE.out
              refine Lib.hid ?_
              subst hle
              rcases js with _ | ⟨j0, _ | ⟨j1, _ | ⟨j2, _ | ⟨j3, js⟩⟩⟩⟩
              · exact h6
              · exact h6
              · exact h6
              · exact h6
              · simp at hlt; omega
            have HF := Lib.hid hM6.x
            have HG := Lib.hid (good_port l _ _ _ HSL5.out q6).2.1
            clear hM hM6 ht hb q6
            have hj4 : j = 0 ∨ j = 1 ∨ j = 2 ∨ j = 3 := by omega
            have HY : Hid (∀ i, i < 11 → ∃ v, w6.cell? ⟨X, i, none⟩ = some v) := Lib.hid (fun i hi => ⟨_, HF.out.cell_at i (List.getElem?_eq_getElem (by simpa using hi))⟩)
            obtain ⟨v1, y1⟩ := HY.out 1 (by omega)
            obtain ⟨v2, y2⟩ := HY.out 2 (by omega)
            obtain ⟨v3, y3⟩ := HY.out 3 (by omega)
            obtain ⟨v4, y4⟩ := HY.out 4 (by omega)
            obtain ⟨v5, y5⟩ := HY.out 5 (by omega)
            obtain ⟨v6, y6⟩ := HY.out 6 (by omega)
            obtain ⟨v7, y7⟩ := HY.out 7 (by omega)
            obtain ⟨v8, y8⟩ := HY.out 8 (by omega)
            have f1 := HF.out.frozen 1
            have f2 := HF.out.frozen 2
            have f3 := HF.out.frozen 3
            have f4 := HF.out.frozen 4
            have f5 := HF.out.frozen 5
            have f6 := HF.out.frozen 6
            have f7 := HF.out.frozen 7
            have f8 := HF.out.frozen 8
            have HRel : Hid (∃ (j' : Nat) (js' : List (Int × Int)) (s'' : Nat), j' ≤ Pn ∧ (j' : Int) = (j : Int) + 1 ∧ Hid (manyP joinP j' l s1 = some (js', s'') ∧ s'' ≤ l.length ∧ SS w bx ba g zs X (mkSec k js' []).cells s'' ((w6.setCell ⟨X, 1 + 2 * j, none⟩ (.int .i64 a)).setCell ⟨X, 2 + 2 * j, none⟩ (.int .i64 q)))) :=
              Lib.hid ⟨j + 1, js ++ [(a, q)], t6, hlt, by omega, Lib.hid ⟨(many_succ HM.out.1).trans (by rw [HJ.out]; rfl), HG.out, HST.out⟩⟩
            have HLT := Lib.hid hlt
            clear HM HLE HNO HY hj hlt HST HJ hlt'
            obtain rfl | rfl | rfl | rfl := hj4
            all_goals
              go_wp2_with fail
              go_roundw
              case rel =>
                obtain ⟨j', js', s'', a1, a2, a3⟩ := HRel.out
                exact ⟨j', js', s'', a1, by rw [a2]; rfl, a3⟩
              case measure => have := HLT.out; simp [intOf]; omega
          · have hb2 : (b == 1) = false := by simpa using hb1
            have HRel : Hid (manyP joinP (j + 1) l s1 = some (js ++ [(-1, 0)], t5) ∧ t5 ≤ l.length ∧ SS w bx ba g zs X (mkSec k (js ++ [(-1, 0)]) []).cells t5 w5) := Lib.hid ⟨(many_succ HM.out.1).trans (by rw [join_end HQ5.out hb1]; rfl), HSL5.out, by rw [mk_end]; exact hM⟩
            clear HM hM
            go_wp2_with fail
            go_roundw
            case rel => exact ⟨j + 1, _, _, hlt, loop_next1 j, HRel⟩
            case measure => exact loop_less1 j Pn hlt
        · obtain rfl : j = Pn := by omega
          have hM := HM.out.2.2
          have hk0 := HK.out.1
          have HQ : Hid (manyP joinP (pK k).toNat l s1 = some (js, s') ∧ s' ≤ l.length) := Lib.hid ⟨by rw [show (pK k).toNat = j by have := HPn.out.1; omega]; exact HM.out.1, HM.out.2.1⟩
          have y0 : wr.cell? ⟨X, 0, none⟩ = some (.int .u8 k) := hM.x.cell_at 0 rfl
          go_wp2_with fail
          generalize hV22 : Value.int .i64 (j : Int) = V22
          clear hV22 HM HPn hP4 hj hlt
          go_at_call 89
          obtain ⟨Pn, HPn⟩ : ∃ n : Nat, Hid (nK k = (n : Int) ∧ n ≤ 2) := ⟨(nK k).toNat, Lib.hid ⟨by have := nK_top k; omega, by have := nK_top k; omega⟩⟩
          refine (ways_B hM.sh k hk0 hk4).mono ?_
          rintro e w7 ⟨rfl, hb⟩
          rw [HPn.out.1]
          have hM1 := hM.keep hb
          have hP4 := HPn.out.2
          clear hM hb y0
          go_wp2_with fail
          go_loopw [37] (fun i wr => ∃ (j : Nat) (cs : List Int) (t : Nat), j ≤ Pn ∧ i = .int .i64 j ∧ Hid (manyP (numP 2) j l s' = some (cs, t) ∧ t ≤ l.length ∧ SS w bx ba g zs X (mkSec k js cs).cells t wr)) (fun i _ => Pn - (intOf i).toNat)
          case atStart => exact ⟨0, [], s', by omega, rfl, Lib.hid ⟨rfl, HQ.out.2, hM1⟩⟩
          case round =>
            clear hM1
            obtain ⟨j, cs, t, hj, rfl, HM⟩ := hrel
            by_cases hlt : j < Pn
            · have hlt' : (j : Int) < (Pn : Int) := by omega
              have HLE : Hid (cs.length = j) := Lib.hid (many_length HM.out.1)
              have HNO : Hid (numP 2 l t = none → secP l s = none) := Lib.hid (fun hn => (bnd_some HR1.out).trans ((bnd_some HQ.out.1).trans (bnd_none (by rw [show (nK k).toNat = Pn by have := HPn.out.1; omega]; exact many_stop ((many_succ HM.out.1).trans (by rw [hn]; rfl)) Pn hlt))))
              have HSL := Lib.hid HM.out.2.1
              go_wp2_with fail
              go_at_call 110
              refine (take1_any hA hz (K := 2) 2 t wr rfl (by omega) HM.out.2.2.t HSL.out).mono ?_
              rintro e w8 (⟨b, t8, q8, rfl, ht, hb⟩ | ⟨q8, v, rfl, hb⟩)
              rotate_left
              · exact ⟨rfl, .inr ⟨HNO.out q8, _, rfl, HM.out.2.2.bq.trans (hb.less HM.out.2.2.bq.size)⟩⟩
              have hM := HM.out.2.2.step hb hba h00 ht
              have HST : Hid (SS w bx ba g zs X (mkSec k js (cs ++ [b])).cells t8 (w8.setCell ⟨X, 9 + j, none⟩ (.int .i64 b))) := by
                have h6 := hM.store hs0 hbx hba hlg (9 + j) (.int .i64 b)
                have hle := HLE.out
                refine Lib.hid ?_
                subst hle
                rcases cs with _ | ⟨c0, _ | ⟨c1, cs⟩⟩
                · exact h6
                · exact h6
                · simp at hlt; omega
              have HF := Lib.hid hM.x
              have HRel : Hid (∃ (j' : Nat) (cs' : List Int) (t' : Nat), j' ≤ Pn ∧ (j' : Int) = (j : Int) + 1 ∧ Hid (manyP (numP 2) j' l s' = some (cs', t') ∧ t' ≤ l.length ∧ SS w bx ba g zs X (mkSec k js cs').cells t' (w8.setCell ⟨X, 9 + j, none⟩ (.int .i64 b)))) :=
                Lib.hid ⟨j + 1, cs ++ [b], t8, hlt, by omega, Lib.hid ⟨(many_succ HM.out.1).trans (by rw [q8]; rfl), (Good.num 2 l _ _ _ HSL.out q8).2.1, HST.out⟩⟩
              clear hM ht hb q8
              have hj4 : j = 0 ∨ j = 1 := by omega
              have y9 := HF.out.cell_at 9 rfl
              have y10 := HF.out.cell_at 10 rfl
              have f9 := HF.out.frozen 9
              have f10 := HF.out.frozen 10
              have HLT := Lib.hid hlt
              clear HM HLE HNO hj hlt HST hlt'
              obtain rfl | rfl := hj4
              all_goals
                go_wp2_with fail
                go_roundw
                case rel =>
                  obtain ⟨j', cs', t', a1, a2, a3⟩ := HRel.out
                  exact ⟨j', cs', t', a1, by rw [a2]; rfl, a3⟩
                case measure => have := HLT.out; simp [intOf]; omega
            · obtain rfl : j = Pn := by omega
              obtain ⟨h1, h2, hx⟩ := HM.out
              have HEX : Hid (secP l s = some (mkSec k js cs, t)) := Lib.hid ((bnd_some HR1.out).trans ((bnd_some HQ.out.1).trans ((bnd_some (by rw [show (nK k).toNat = j by have := HPn.out.1; omega]; exact h1)).trans rfl)))
              obtain ⟨m, HMM⟩ : ∃ m, Hid (m = mkSec k js cs) := ⟨_, Lib.hid rfl⟩
              rw [← HMM.out] at hx
              have hkm : m.k = k := by rw [HMM.out]; rfl
              have hxx := hx.x
              rw [show m.cells = [.int .u8 k, .int .i64 m.s0, .int .i64 m.q0, .int .i64 m.s1, .int .i64 m.q1, .int .i64 m.s2, .int .i64 m.q2, .int .i64 m.s3, .int .i64 m.q3, .int .i64 m.c0, .int .i64 m.c1] by rw [← hkm]] at hxx
              have x0 := hxx.cell_at 0 rfl
              have f0 := hx.r.frozen 0
              have z0 := hx.r.cell_at 0 rfl
              have x1 := hxx.cell_at 1 rfl
              have f1 := hx.r.frozen 1
              have z1 := hx.r.cell_at 1 rfl
              have x2 := hxx.cell_at 2 rfl
              have f2 := hx.r.frozen 2
              have z2 := hx.r.cell_at 2 rfl
              have x3 := hxx.cell_at 3 rfl
              have f3 := hx.r.frozen 3
              have z3 := hx.r.cell_at 3 rfl
              have x4 := hxx.cell_at 4 rfl
              have f4 := hx.r.frozen 4
              have z4 := hx.r.cell_at 4 rfl
              have x5 := hxx.cell_at 5 rfl
              have f5 := hx.r.frozen 5
              have z5 := hx.r.cell_at 5 rfl
              have x6 := hxx.cell_at 6 rfl
              have f6 := hx.r.frozen 6
              have z6 := hx.r.cell_at 6 rfl
              have x7 := hxx.cell_at 7 rfl
              have f7 := hx.r.frozen 7
              have z7 := hx.r.cell_at 7 rfl
              have x8 := hxx.cell_at 8 rfl
              have f8 := hx.r.frozen 8
              have z8 := hx.r.cell_at 8 rfl
              have x9 := hxx.cell_at 9 rfl
              have f9 := hx.r.frozen 9
              have z9 := hx.r.cell_at 9 rfl
              have x10 := hxx.cell_at 10 rfl
              have f10 := hx.r.frozen 10
              have z10 := hx.r.cell_at 10 rfl
              have hWo := over11_whole (.int .u8 k) (.int .i64 m.s0) (.int .i64 m.q0) (.int .i64 m.s1) (.int .i64 m.q1) (.int .i64 m.s2) (.int .i64 m.q2) (.int .i64 m.s3) (.int .i64 m.q3) (.int .i64 m.c0) (.int .i64 m.c1) hx.r
              have hBo := over11_below (Below.refl w.heap.size wr) (Nat.le_refl _) (.int .u8 k) (.int .i64 m.s0) (.int .i64 m.q0) (.int .i64 m.s1) (.int .i64 m.q1) (.int .i64 m.s2) (.int .i64 m.q2) (.int .i64 m.s3) (.int .i64 m.q3) (.int .i64 m.c0) (.int .i64 m.c1)
              have hT' := hx.t.under hBo hbx hba hlg
              have hB' := hx.bq.trans (.of (q := ba) hBo)
              have HFIN := Lib.hid (And.intro hT' hB')
              clear h1 h2 hT' hB' hBo hxx hx
              go_wp2_with fail
              change bodyPost _ _ _ _ _ (over11 wr w.heap.size (.int .u8 k) (.int .i64 m.s0) (.int .i64 m.q0) (.int .i64 m.s1) (.int .i64 m.q1) (.int .i64 m.s2) (.int .i64 m.q2) (.int .i64 m.s3) (.int .i64 m.q3) (.int .i64 m.c0) (.int .i64 m.c1))
              obtain ⟨W9, hW9⟩ : ∃ W9, over11 wr w.heap.size (.int .u8 k) (.int .i64 m.s0) (.int .i64 m.q0) (.int .i64 m.s1) (.int .i64 m.q1) (.int .i64 m.s2) (.int .i64 m.q2) (.int .i64 m.s3) (.int .i64 m.q3) (.int .i64 m.c0) (.int .i64 m.c1) = W9 := ⟨_, rfl⟩
              rw [hW9] at hWo HFIN ⊢
              clear hW9
              have e0 := hWo.cell_at 0 rfl
              have e1 := hWo.cell_at 1 rfl
              have e2 := hWo.cell_at 2 rfl
              have e3 := hWo.cell_at 3 rfl
              have e4 := hWo.cell_at 4 rfl
              have e5 := hWo.cell_at 5 rfl
              have e6 := hWo.cell_at 6 rfl
              have e7 := hWo.cell_at 7 rfl
              have e8 := hWo.cell_at 8 rfl
              have e9 := hWo.cell_at 9 rfl
              have e10 := hWo.cell_at 10 rfl
              refine bodyPost_ret (v := m.val) ?_ rfl (.inl ⟨m, t, by rw [HMM.out]; exact HEX.out, rfl, HFIN.out.1, HFIN.out.2⟩)
              simp [results, Tryz.f105, go_sem, hkm, e0, e1, e2, e3, e4, e5, e6, e7, e8, e9, e10]
end
end Go.Proofs.YtegflmaobmibnaaGreatDoor
