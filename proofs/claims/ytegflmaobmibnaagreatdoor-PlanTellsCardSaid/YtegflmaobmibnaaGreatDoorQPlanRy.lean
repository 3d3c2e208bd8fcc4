/- The document's own reader: sections. -/
import Derived.Test.YtegflmaobmibnaaGreatDoorQPlanRx
import Derived.Test.YtegflmaobmibnaaGreatDoorQPlanRs
namespace Go.Proofs.YtegflmaobmibnaaGreatDoor
set_option maxRecDepth 100000
open Go.RowKit Go.Shelf
set_option linter.unusedVariables false
set_option linter.unusedSimpArgs false

/-- A section's cells while its joins are read: the first j of them are laid. -/
def joinC (j i : Nat) (js : List (Int × Int)) : Int × Int := if i < j then js[i]?.getD (-1, 0) else (0, 0)
def secC (k : Int) (j : Nat) (js : List (Int × Int)) : List Value := [.int .u8 k, .int .i64 (joinC j 0 js).1, .int .i64 (joinC j 0 js).2, .int .i64 (joinC j 1 js).1, .int .i64 (joinC j 1 js).2, .int .i64 (joinC j 2 js).1, .int .i64 (joinC j 2 js).2, .int .i64 (joinC j 3 js).1, .int .i64 (joinC j 3 js).2, .int .i64 0, .int .i64 0]
theorem secC_four (k : Int) (js : List (Int × Int)) : secC k 4 js = (mkSec k js []).cells := by simp [secC, joinC, mkSec, Sec.cells]
theorem joinC_eq {j i : Nat} (js ks : List (Int × Int)) (h : i ≠ j) (hk : ∀ i, i < j → js[i]?.getD (-1, 0) = ks[i]?.getD (-1, 0)) : joinC (j + 1) i ks = joinC j i js := by
  unfold joinC
  by_cases hi : i < j
  · rw [if_pos (by omega), if_pos hi, hk i hi]
  · rw [if_neg (by omega), if_neg hi]
theorem secC_set (k : Int) {j : Nat} (hj : j < 4) (js ks : List (Int × Int)) (a q : Int) (hk : ∀ i, i < j → js[i]?.getD (-1, 0) = ks[i]?.getD (-1, 0)) (hn : ks[j]?.getD (-1, 0) = (a, q)) :
    ((secC k j js).set (1 + j * 2) (.int .i64 a)).set (1 + j * 2 + 1) (.int .i64 q) = secC k (j + 1) ks := by
  have hs : joinC (j + 1) j ks = (a, q) := by unfold joinC; rw [if_pos (by omega)]; exact hn
  obtain rfl | rfl | rfl | rfl : j = 0 ∨ j = 1 ∨ j = 2 ∨ j = 3 := by omega
  · unfold secC
    rw [hs, joinC_eq (j := 0) (i := 1) js ks (by omega) hk, joinC_eq (j := 0) (i := 2) js ks (by omega) hk, joinC_eq (j := 0) (i := 3) js ks (by omega) hk]
    rfl
  · unfold secC
    rw [hs, joinC_eq (j := 1) (i := 0) js ks (by omega) hk, joinC_eq (j := 1) (i := 2) js ks (by omega) hk, joinC_eq (j := 1) (i := 3) js ks (by omega) hk]
    rfl
  · unfold secC
    rw [hs, joinC_eq (j := 2) (i := 0) js ks (by omega) hk, joinC_eq (j := 2) (i := 1) js ks (by omega) hk, joinC_eq (j := 2) (i := 3) js ks (by omega) hk]
    rfl
  · unfold secC
    rw [hs, joinC_eq (j := 3) (i := 0) js ks (by omega) hk, joinC_eq (j := 3) (i := 1) js ks (by omega) hk, joinC_eq (j := 3) (i := 2) js ks (by omega) hk]
    rfl
/-- The join at hand is laid anew. -/
theorem secC_again (k : Int) {j : Nat} (hj : j < 4) (js ks : List (Int × Int)) (a q : Int) (hk : ∀ i, i < j → js[i]?.getD (-1, 0) = ks[i]?.getD (-1, 0)) (hn : ks[j]?.getD (-1, 0) = (a, q)) :
    ((secC k (j + 1) js).set (1 + j * 2) (.int .i64 a)).set (1 + j * 2 + 1) (.int .i64 q) = secC k (j + 1) ks := by
  have hs : joinC (j + 1) j ks = (a, q) := by unfold joinC; rw [if_pos (by omega)]; exact hn
  have he : ∀ i, i ≠ j → joinC (j + 1) i ks = joinC (j + 1) i js := fun i h => by
    unfold joinC
    by_cases hi : i < j + 1
    · rw [if_pos hi, if_pos hi, hk i (by omega)]
    · rw [if_neg hi, if_neg hi]
  obtain rfl | rfl | rfl | rfl : j = 0 ∨ j = 1 ∨ j = 2 ∨ j = 3 := by omega
  · unfold secC
    rw [hs, he 1 (by omega), he 2 (by omega), he 3 (by omega)]
    rfl
  · unfold secC
    rw [hs, he 0 (by omega), he 2 (by omega), he 3 (by omega)]
    rfl
  · unfold secC
    rw [hs, he 0 (by omega), he 1 (by omega), he 3 (by omega)]
    rfl
  · unfold secC
    rw [hs, he 0 (by omega), he 1 (by omega), he 2 (by omega)]
    rfl
theorem secC_same (k : Int) {j : Nat} (hj : j < 4) (js ks : List (Int × Int)) (hk : ∀ i, i ≤ j → js[i]?.getD (-1, 0) = ks[i]?.getD (-1, 0)) : secC k (j + 1) js = secC k (j + 1) ks := by
  have he : ∀ i, joinC (j + 1) i js = joinC (j + 1) i ks := fun i => by
    unfold joinC
    by_cases hi : i < j + 1
    · rw [if_pos hi, if_pos hi, hk i (by omega)]
    · rw [if_neg hi, if_neg hi]
  unfold secC
  rw [he, he, he, he]
theorem secC_len (k : Int) (j : Nat) (js : List (Int × Int)) : (secC k j js).length = 11 := rfl
theorem class_set (k : Int) (js : List (Int × Int)) (cs : List Int) (v : Int) (h : cs.length < 2) : ((mkSec k js cs).cells).set (9 + cs.length) (.int .i64 v) = (mkSec k js (cs ++ [v])).cells := by
  rcases cs with _ | ⟨c0, _ | ⟨c1, cs⟩⟩
  · rfl
  · rfl
  · simp only [List.length_cons] at h; omega

/-- Within takeSection: what lay ahead but the reader lies as it lay; the section's own cells; the result's; the reader. -/
structure SR (w : World) (r g c : Nat) (zs : List Int) (X : Nat) (cs : List Value) (s : Option Nat) (W : World) : Prop where
  bq : Bq w.heap.size r w W
  x : Whole W X 70 cs
  rs : Whole W w.heap.size 70 [.int .u8 0, .int .i64 0, .int .i64 0, .int .i64 0, .int .i64 0, .int .i64 0, .int .i64 0, .int .i64 0, .int .i64 0, .int .i64 0, .int .i64 0]
  t : Rd r g c zs s W
  lt : w.heap.size < X
theorem SR.step {w : World} {r g c : Nat} {zs : List Int} {X : Nat} {cs : List Value} {s s' : Option Nat} {W W' : World} (h : SR w r g c zs X cs s W) (hb : Bq W.heap.size r W W') (hba : r < w.heap.size) (ht : Rd r g c zs s' W') : SR w r g c zs X cs s' W' :=
  ⟨h.bq.trans (hb.less h.bq.size), h.x.bq hb h.x.lt (by have := h.lt; omega), h.rs.bq hb h.rs.lt (by omega), ht, h.lt⟩
theorem SR.keep {w : World} {r g c : Nat} {zs : List Int} {X : Nat} {cs : List Value} {s : Option Nat} {W W' : World} (h : SR w r g c zs X cs s W) (hb : Below W.heap.size W W') : SR w r g c zs X cs s W' :=
  ⟨h.bq.on hb h.bq.size, h.x.below hb h.x.lt, h.rs.below hb h.rs.lt, h.t.keep hb, h.lt⟩
theorem SR.store {w : World} {r g c : Nat} {zs : List Int} {X : Nat} {cs : List Value} {s : Option Nat} {W : World} (h : SR w r g c zs X cs s W) (h1 : r < w.heap.size) (h3 : g < w.heap.size) (i : Nat) (u : Value) : SR w r g c zs X (cs.set i u) s (W.setCell ⟨X, i, none⟩ u) := by
  have hl := h.lt
  exact ⟨h.bq.set (p := ⟨X, i, none⟩) (.inl (Nat.le_of_lt hl)) u, h.x.set i u, h.rs.far (p := ⟨X, i, none⟩) (by show w.heap.size ≠ X; omega) u, h.t.far (p := ⟨X, i, none⟩) (by show r ≠ X; omega) (by show g ≠ X; omega) u, hl⟩
theorem SR.as {w : World} {r g c : Nat} {zs : List Int} {X : Nat} {cs ds : List Value} {s : Option Nat} {W : World} (h : SR w r g c zs X cs s W) (e : cs = ds) : SR w r g c zs X ds s W := e ▸ h

section
variable {r g c : Nat} {zs : List Int} {l : List Bool} (hA : Are zs (8 * (zs.length : Int)) l) (hz : zs.length ≤ 2000)
include hA hz
set_option maxHeartbeats 16000000 in
theorem secR8_any (s : Option Nat) (w : World) (hT : Rd r g c zs s w) :
    Calls Tryz.prog 80 #[.pointer (some ⟨r, 0, none⟩)] w (OutR r g c zs l s w Sec.val secP) := by
  have hba := hT.lt
  have hlg := hT.lg
  have h0 := hT.keep (below1 w (.cells #[.int .u8 0, .int .i64 0, .int .i64 0, .int .i64 0, .int .i64 0, .int .i64 0, .int .i64 0, .int .i64 0, .int .i64 0, .int .i64 0, .int .i64 0] 70))
  have hB : Bq w.heap.size r w (w.alloc (.cells #[.int .u8 0, .int .i64 0, .int .i64 0, .int .i64 0, .int .i64 0, .int .i64 0, .int .i64 0, .int .i64 0, .int .i64 0, .int .i64 0, .int .i64 0] 70)) := (Bq.refl _ _ _).alloc (Nat.le_refl _) _
  have hR := Whole.new w 70 [.int .u8 0, .int .i64 0, .int .i64 0, .int .i64 0, .int .i64 0, .int .i64 0, .int .i64 0, .int .i64 0, .int .i64 0, .int .i64 0, .int .i64 0]
  have hsz : w.heap.size + 1 ≤ (w.alloc (.cells #[.int .u8 0, .int .i64 0, .int .i64 0, .int .i64 0, .int .i64 0, .int .i64 0, .int .i64 0, .int .i64 0, .int .i64 0, .int .i64 0, .int .i64 0] 70)).heap.size := by simp
  go_enter Tryz.func80, Tryz.ntmps80
  go_wp2_with fail
  obtain ⟨w0, hw0⟩ : ∃ W, w.alloc (.cells #[.int .u8 0, .int .i64 0, .int .i64 0, .int .i64 0, .int .i64 0, .int .i64 0, .int .i64 0, .int .i64 0, .int .i64 0, .int .i64 0, .int .i64 0] 70) = W := ⟨_, rfl⟩
  rw [show w.alloc (.cells [.int .u8 0, .int .i64 0, .int .i64 0, .int .i64 0, .int .i64 0, .int .i64 0, .int .i64 0, .int .i64 0, .int .i64 0, .int .i64 0, .int .i64 0].toArray 70) = w0 from hw0] at hR
  rw [hw0] at h0 hB hsz ⊢
  clear hw0
  refine (number_any hA hz (K := 2) 2 s w0 rfl (by omega) h0).mono ?_
  rintro e w1 ⟨k, s1, rfl, h1, a1, hk0, hk3, hb⟩
  have hk4 : k ≤ 255 := by omega
  have hwk : IntKind.u8.wrap k = k := by rw [IntKind.wrap_u8]; omega
  replace hB := hB.trans (hb.less (by omega))
  replace hR := hR.bq hb (by omega) (by omega)
  replace hsz := Nat.le_trans hsz hb.size
  clear h0 hb
  have hX : SR w r g c zs w1.heap.size [.int .u8 k, .int .i64 0, .int .i64 0, .int .i64 0, .int .i64 0, .int .i64 0, .int .i64 0, .int .i64 0, .int .i64 0, .int .i64 0, .int .i64 0] s1 (w1.alloc (.cells [.int .u8 k, .int .i64 0, .int .i64 0, .int .i64 0, .int .i64 0, .int .i64 0, .int .i64 0, .int .i64 0, .int .i64 0, .int .i64 0, .int .i64 0].toArray 70)) :=
    ⟨hB.alloc hB.size _, Whole.new _ _ _, hR.alloc _, h1.keep (below1 _ _), by omega⟩
  go_wp2_with fail
  obtain ⟨w2, hw2⟩ : ∃ W, w1.alloc (.cells #[.int .u8 k, .int .i64 0, .int .i64 0, .int .i64 0, .int .i64 0, .int .i64 0, .int .i64 0, .int .i64 0, .int .i64 0, .int .i64 0, .int .i64 0] 70) = W := ⟨_, rfl⟩
  rw [show w1.alloc (.cells [.int .u8 k, .int .i64 0, .int .i64 0, .int .i64 0, .int .i64 0, .int .i64 0, .int .i64 0, .int .i64 0, .int .i64 0, .int .i64 0, .int .i64 0].toArray 70) = w2 from hw2] at hX
  try rw [hw2]
  obtain ⟨X, HXX⟩ : ∃ X, Hid (X = w1.heap.size) := ⟨_, Lib.hid rfl⟩
  rw [← HXX.out] at hX ⊢
  have HR1 := Lib.hid a1
  have HK := Lib.hid (And.intro hk0 hk4)
  have HX0 := Lib.hid hX
  obtain ⟨Pn, HPn⟩ : ∃ n : Nat, Hid (pK k = (n : Int) ∧ (pK k).toNat = n ∧ n ≤ 4) := ⟨(pK k).toNat, Lib.hid ⟨by have := pK_top k; omega, rfl, by have := pK_top k; omega⟩⟩
  obtain ⟨Cn, HCn⟩ : ∃ n : Nat, Hid (nK k = (n : Int) ∧ (nK k).toNat = n ∧ n ≤ 2) := ⟨(nK k).toNat, Lib.hid ⟨by have := nK_top k; omega, rfl, by have := nK_top k; omega⟩⟩
  have HBA := Lib.hid (And.intro hba hlg)
  clear hw2 h1 hR hB a1 hT hsz hwk HXX hk0 hk3 hk4 hX hba hlg
  go_loopw [4] (fun i wr => ∃ (j : Nat) (js : List (Int × Int)) (s' : Option Nat), j ≤ 4 ∧ i = .int .i64 j ∧ Hid (js.length = min j Pn ∧ After (manyP joinP (min j Pn)) l s1 js s' ∧ SR w r g c zs X (secC k j js) s' wr)) (fun i _ => 4 - (intOf i).toNat)
  case atStart => exact ⟨0, [], s1, by omega, rfl, Lib.hid ⟨by simp, by rw [Nat.zero_min]; exact After.ret _ _ _, HX0.out⟩⟩
  case round =>
    clear HX0
    obtain ⟨j, js, s', hj, rfl, HM⟩ := hrel
    by_cases hlt : j < 4
    · have hlt' : (j : Int) < 4 := by omega
      have hj4 : 0 ≤ (j : Int) ∧ (j : Int) < 4 := by omega
      have hx := HM.out.2.2.x
      obtain ⟨v0, y0⟩ : ∃ v, wr.cell? ⟨X, 1 + j * 2, none⟩ = some v := ⟨_, hx.cell_at (1 + j * 2) (List.getElem?_eq_getElem (by rw [secC_len]; omega))⟩
      obtain ⟨v1, y1⟩ : ∃ v, wr.cell? ⟨X, 1 + j * 2 + 1, none⟩ = some v := ⟨_, hx.cell_at (1 + j * 2 + 1) (List.getElem?_eq_getElem (by rw [secC_len]; omega))⟩
      have f0 := hx.frozen (1 + j * 2)
      have f1 := hx.frozen (1 + j * 2 + 1)
      have yk : wr.cell? ⟨X, 0, none⟩ = some (.int .u8 k) := hx.cell_at 0 rfl
      have HLJ : Hid (js.length ≤ j) := Lib.hid (by have := HM.out.1; omega)
      have HM1 : Hid (SR w r g c zs X (secC k (j + 1) js) s' ((wr.setCell ⟨X, 1 + j * 2, none⟩ (.int .i64 (-1))).setCell ⟨X, 1 + j * 2 + 1, none⟩ (.int .i64 0))) :=
        Lib.hid (((HM.out.2.2.store HBA.out.1 HBA.out.2 (1 + j * 2) (.int .i64 (-1))).store HBA.out.1 HBA.out.2 (1 + j * 2 + 1) (.int .i64 0)).as (secC_set k hlt js js (-1) 0 (fun _ _ => rfl) (by rw [List.getElem?_eq_none HLJ.out]; rfl)))
      have yk1 : ((wr.setCell ⟨X, 1 + j * 2, none⟩ (.int .i64 (-1))).setCell ⟨X, 1 + j * 2 + 1, none⟩ (.int .i64 0)).cell? ⟨X, 0, none⟩ = some (.int .u8 k) := HM1.out.x.cell_at 0 rfl
      have HLT := Lib.hid hlt
      clear hx
      go_wp2_with fail
      refine (portsR8_B k _).mono ?_
      rintro e w3 ⟨rfl, hb⟩
      rw [HPn.out.1]
      have HM2 := Lib.hid (HM1.out.keep hb)
      clear hb y0 y1 f0 f1 yk yk1 HM1
      by_cases hjp : j < Pn
      · have hjp' : (j : Int) < (Pn : Int) := by omega
        have HMIN : Hid (min j Pn = j ∧ min (j + 1) Pn = j + 1) := Lib.hid (by omega)
        go_wp2_with fail
        refine (number_any hA hz (K := 1) 1 s' w3 rfl (by omega) HM2.out.t).mono ?_
        rintro e w4 ⟨b, t4, rfl, h4, b4, _, _, hb⟩
        have HM4 := Lib.hid (HM2.out.step hb HBA.out.1 h4)
        have HB4 := Lib.hid b4
        clear h4 b4 hb
        by_cases hb1 : b = 1
        · subst hb1
          go_wp2_with fail
          refine (portR8_any hA hz t4 w4 HM4.out.t).mono ?_
          rintro e w5 ⟨⟨a, q⟩, t5, rfl, h5, b5, hb⟩
          have hM5 := HM4.out.step hb HBA.out.1 h5
          have HAJ : Hid (After joinP l s' (a, q) t5) := Lib.hid (After.bnd HB4.out (by rw [if_pos rfl]; exact b5))
          have HNJ : Hid ((js ++ [(a, q)])[j]?.getD (-1, 0) = (a, q)) := Lib.hid (by
            have e : js.length = j := by rw [HM.out.1, HMIN.out.1]
            rw [← e]; simp)
          have hx := hM5.x
          obtain ⟨v0, y0⟩ : ∃ v, w5.cell? ⟨X, 1 + j * 2, none⟩ = some v := ⟨_, hx.cell_at (1 + j * 2) (List.getElem?_eq_getElem (by rw [secC_len]; omega))⟩
          obtain ⟨v1, y1⟩ : ∃ v, w5.cell? ⟨X, 1 + j * 2 + 1, none⟩ = some v := ⟨_, hx.cell_at (1 + j * 2 + 1) (List.getElem?_eq_getElem (by rw [secC_len]; omega))⟩
          have f0 := hx.frozen (1 + j * 2)
          have f1 := hx.frozen (1 + j * 2 + 1)
          have HM6 : Hid (SR w r g c zs X (secC k (j + 1) (js ++ [(a, q)])) t5 ((w5.setCell ⟨X, 1 + j * 2, none⟩ (.int .i64 a)).setCell ⟨X, 1 + j * 2 + 1, none⟩ (.int .i64 q))) :=
            Lib.hid (((hM5.store HBA.out.1 HBA.out.2 (1 + j * 2) (.int .i64 a)).store HBA.out.1 HBA.out.2 (1 + j * 2 + 1) (.int .i64 q)).as (secC_again k HLT.out js (js ++ [(a, q)]) a q (fun i hi => by rw [List.getElem?_append_left (by have := HM.out.1; have := HMIN.out.1; omega)]) HNJ.out))
          clear hx hM5 h5 b5 hb
          go_wp2_with fail
          go_roundw
          case rel => exact ⟨j + 1, js ++ [(a, q)], t5, HLT.out, loop_next1 j, Lib.hid ⟨by rw [HMIN.out.2, List.length_append, HM.out.1, HMIN.out.1]; rfl, by rw [HMIN.out.2]; exact After.next (by have h := HM.out.2.1; rw [HMIN.out.1] at h; exact h) HAJ.out, HM6.out⟩⟩
          case measure => exact loop_less1 j 4 HLT.out
        · have HAJ : Hid (After joinP l s' (-1, 0) t4) := Lib.hid (After.bnd HB4.out (by rw [if_neg hb1]; exact After.ret _ _ _))
          have HM6 : Hid (SR w r g c zs X (secC k (j + 1) (js ++ [(-1, 0)])) t4 w4) := Lib.hid (HM4.out.as (secC_same k HLT.out js (js ++ [(-1, 0)]) (fun i _ => (snoc_default (-1, 0) js i).symm)))
          go_wp2_with fail
          go_roundw
          case rel => exact ⟨j + 1, js ++ [(-1, 0)], t4, HLT.out, loop_next1 j, Lib.hid ⟨by rw [HMIN.out.2, List.length_append, HM.out.1, HMIN.out.1]; rfl, by rw [HMIN.out.2]; exact After.next (by have h := HM.out.2.1; rw [HMIN.out.1] at h; exact h) HAJ.out, HM6.out⟩⟩
          case measure => exact loop_less1 j 4 HLT.out
      · have hjp' : ¬ (j : Int) < (Pn : Int) := by omega
        have HMIN : Hid (min j Pn = min (j + 1) Pn) := Lib.hid (by omega)
        go_wp2_with fail
        go_roundw
        case rel => exact ⟨j + 1, js, s', HLT.out, loop_next1 j, Lib.hid ⟨by rw [← HMIN.out]; exact HM.out.1, by rw [← HMIN.out]; exact HM.out.2.1, HM2.out⟩⟩
        case measure => exact loop_less1 j 4 HLT.out
    · obtain rfl : j = 4 := by omega
      have HMIN : Hid (min 4 Pn = Pn) := Lib.hid (by have := HPn.out.2.2; omega)
      have HJS : Hid (After (manyP joinP (pK k).toNat) l s1 js s') := Lib.hid (by have h := HM.out.2.1; rw [HMIN.out] at h; rw [HPn.out.2.1]; exact h)
      have HM5 : Hid (SR w r g c zs X (mkSec k js []).cells s' wr) := Lib.hid (HM.out.2.2.as (secC_four k js))
      clear HM HMIN hj hlt
      go_wp2_with fail
      generalize hV4 : Value.int .i64 ((4 : Nat) : Int) = V4
      clear hV4
      go_loopw [5] (fun i wr => ∃ (m : Nat) (cs : List Int) (t : Option Nat), m ≤ Cn ∧ i = .int .i64 m ∧ Hid (cs.length = m ∧ After (manyP (numP 2) m) l s' cs t ∧ SR w r g c zs X (mkSec k js cs).cells t wr)) (fun i _ => Cn - (intOf i).toNat)
      case atStart => exact ⟨0, [], s', by omega, rfl, Lib.hid ⟨rfl, After.ret _ _ _, HM5.out⟩⟩
      case round =>
        clear HM5
        obtain ⟨m, cs, t, hm, rfl, HM⟩ := hrel
        rename World => wq
        have yk : wq.cell? ⟨X, 0, none⟩ = some (.int .u8 k) := HM.out.2.2.x.cell_at 0 rfl
        go_wp2_with fail
        refine (waysR8_B k _).mono ?_
        rintro e w3 ⟨rfl, hb⟩
        rw [HCn.out.1]
        have HM2 := Lib.hid (HM.out.2.2.keep hb)
        clear hb yk
        by_cases hlm : m < Cn
        · have hlm' : (m : Int) < (Cn : Int) := by omega
          have hm2 : 0 ≤ (m : Int) ∧ (m : Int) < 2 := by have := HCn.out.2.2; omega
          have HLM := Lib.hid hlm
          clear hlm
          go_wp2_with fail
          refine (number_any hA hz (K := 2) 2 t w3 rfl (by omega) HM2.out.t).mono ?_
          rintro e w4 ⟨v, t4, rfl, h4, b4, _, _, hb⟩
          have hM4 := HM2.out.step hb HBA.out.1 h4
          have hx := hM4.x
          obtain ⟨v0, y0⟩ : ∃ v, w4.cell? ⟨X, 9 + m, none⟩ = some v := ⟨_, hx.cell_at (9 + m) (List.getElem?_eq_getElem (by show 9 + m < 11; omega))⟩
          have f0 := hx.frozen (9 + m)
          have HB4 := Lib.hid b4
          have HM6 : Hid (SR w r g c zs X (mkSec k js (cs ++ [v])).cells t4 (w4.setCell ⟨X, 9 + m, none⟩ (.int .i64 v))) := Lib.hid ((hM4.store HBA.out.1 HBA.out.2 (9 + m) (.int .i64 v)).as (by rw [← HM.out.1]; exact class_set k js cs v (by have := HM.out.1; omega)))
          clear hx hM4 h4 b4 hb
          go_wp2_with fail
          go_roundw
          case rel => exact ⟨m + 1, cs ++ [v], t4, HLM.out, loop_next1 m, Lib.hid ⟨by rw [List.length_append, HM.out.1]; rfl, After.next HM.out.2.1 HB4.out, HM6.out⟩⟩
          case measure => exact loop_less1 m Cn HLM.out
        · obtain rfl : m = Cn := by omega
          have hx := HM2.out
          have HEX : Hid (After secP l s (mkSec k js cs) t) := Lib.hid (After.bnd HR1.out (After.bnd HJS.out (After.bnd (by rw [HCn.out.2.1]; exact HM.out.2.1) (After.ret _ _ _))))
          obtain ⟨⟨k', a0, b0, a1, b1, a2, b2, a3, b3, d0, d1⟩, hsc⟩ : ∃ S, mkSec k js cs = S := ⟨_, rfl⟩
          rw [hsc] at hx HEX
          have x0 := hx.x.cell_at 0 rfl
          have z0 := hx.rs.cell_at 0 rfl
          have f0 := hx.rs.frozen 0
          have x1 := hx.x.cell_at 1 rfl
          have z1 := hx.rs.cell_at 1 rfl
          have f1 := hx.rs.frozen 1
          have x2 := hx.x.cell_at 2 rfl
          have z2 := hx.rs.cell_at 2 rfl
          have f2 := hx.rs.frozen 2
          have x3 := hx.x.cell_at 3 rfl
          have z3 := hx.rs.cell_at 3 rfl
          have f3 := hx.rs.frozen 3
          have x4 := hx.x.cell_at 4 rfl
          have z4 := hx.rs.cell_at 4 rfl
          have f4 := hx.rs.frozen 4
          have x5 := hx.x.cell_at 5 rfl
          have z5 := hx.rs.cell_at 5 rfl
          have f5 := hx.rs.frozen 5
          have x6 := hx.x.cell_at 6 rfl
          have z6 := hx.rs.cell_at 6 rfl
          have f6 := hx.rs.frozen 6
          have x7 := hx.x.cell_at 7 rfl
          have z7 := hx.rs.cell_at 7 rfl
          have f7 := hx.rs.frozen 7
          have x8 := hx.x.cell_at 8 rfl
          have z8 := hx.rs.cell_at 8 rfl
          have f8 := hx.rs.frozen 8
          have x9 := hx.x.cell_at 9 rfl
          have z9 := hx.rs.cell_at 9 rfl
          have f9 := hx.rs.frozen 9
          have x10 := hx.x.cell_at 10 rfl
          have z10 := hx.rs.cell_at 10 rfl
          have f10 := hx.rs.frozen 10
          have hR' := (((((((((((hx.rs.set 0 (.int .u8 k')).set 1 (.int .i64 a0)).set 2 (.int .i64 b0)).set 3 (.int .i64 a1)).set 4 (.int .i64 b1)).set 5 (.int .i64 a2)).set 6 (.int .i64 b2)).set 7 (.int .i64 a3)).set 8 (.int .i64 b3)).set 9 (.int .i64 d0)).set 10 (.int .i64 d1))
          have hB' := (((((((((((hx.bq.set (p := ⟨w.heap.size, 0, none⟩) (.inl (Nat.le_refl _)) (.int .u8 k')).set (p := ⟨w.heap.size, 1, none⟩) (.inl (Nat.le_refl _)) (.int .i64 a0)).set (p := ⟨w.heap.size, 2, none⟩) (.inl (Nat.le_refl _)) (.int .i64 b0)).set (p := ⟨w.heap.size, 3, none⟩) (.inl (Nat.le_refl _)) (.int .i64 a1)).set (p := ⟨w.heap.size, 4, none⟩) (.inl (Nat.le_refl _)) (.int .i64 b1)).set (p := ⟨w.heap.size, 5, none⟩) (.inl (Nat.le_refl _)) (.int .i64 a2)).set (p := ⟨w.heap.size, 6, none⟩) (.inl (Nat.le_refl _)) (.int .i64 b2)).set (p := ⟨w.heap.size, 7, none⟩) (.inl (Nat.le_refl _)) (.int .i64 a3)).set (p := ⟨w.heap.size, 8, none⟩) (.inl (Nat.le_refl _)) (.int .i64 b3)).set (p := ⟨w.heap.size, 9, none⟩) (.inl (Nat.le_refl _)) (.int .i64 d0)).set (p := ⟨w.heap.size, 10, none⟩) (.inl (Nat.le_refl _)) (.int .i64 d1))
          have hT' := (((((((((((hx.t.far (p := ⟨w.heap.size, 0, none⟩) (by have := HBA.out.1; show r ≠ w.heap.size; omega) (by have := HBA.out.2; show g ≠ w.heap.size; omega) (.int .u8 k')).far (p := ⟨w.heap.size, 1, none⟩) (by have := HBA.out.1; show r ≠ w.heap.size; omega) (by have := HBA.out.2; show g ≠ w.heap.size; omega) (.int .i64 a0)).far (p := ⟨w.heap.size, 2, none⟩) (by have := HBA.out.1; show r ≠ w.heap.size; omega) (by have := HBA.out.2; show g ≠ w.heap.size; omega) (.int .i64 b0)).far (p := ⟨w.heap.size, 3, none⟩) (by have := HBA.out.1; show r ≠ w.heap.size; omega) (by have := HBA.out.2; show g ≠ w.heap.size; omega) (.int .i64 a1)).far (p := ⟨w.heap.size, 4, none⟩) (by have := HBA.out.1; show r ≠ w.heap.size; omega) (by have := HBA.out.2; show g ≠ w.heap.size; omega) (.int .i64 b1)).far (p := ⟨w.heap.size, 5, none⟩) (by have := HBA.out.1; show r ≠ w.heap.size; omega) (by have := HBA.out.2; show g ≠ w.heap.size; omega) (.int .i64 a2)).far (p := ⟨w.heap.size, 6, none⟩) (by have := HBA.out.1; show r ≠ w.heap.size; omega) (by have := HBA.out.2; show g ≠ w.heap.size; omega) (.int .i64 b2)).far (p := ⟨w.heap.size, 7, none⟩) (by have := HBA.out.1; show r ≠ w.heap.size; omega) (by have := HBA.out.2; show g ≠ w.heap.size; omega) (.int .i64 a3)).far (p := ⟨w.heap.size, 8, none⟩) (by have := HBA.out.1; show r ≠ w.heap.size; omega) (by have := HBA.out.2; show g ≠ w.heap.size; omega) (.int .i64 b3)).far (p := ⟨w.heap.size, 9, none⟩) (by have := HBA.out.1; show r ≠ w.heap.size; omega) (by have := HBA.out.2; show g ≠ w.heap.size; omega) (.int .i64 d0)).far (p := ⟨w.heap.size, 10, none⟩) (by have := HBA.out.1; show r ≠ w.heap.size; omega) (by have := HBA.out.2; show g ≠ w.heap.size; omega) (.int .i64 d1))
          have HFIN := Lib.hid (And.intro hT' hB')
          clear hT' hB' hx hsc HM HM2
          go_wp2_with fail
          have e0 := hR'.cell_at 0 rfl
          have e1 := hR'.cell_at 1 rfl
          have e2 := hR'.cell_at 2 rfl
          have e3 := hR'.cell_at 3 rfl
          have e4 := hR'.cell_at 4 rfl
          have e5 := hR'.cell_at 5 rfl
          have e6 := hR'.cell_at 6 rfl
          have e7 := hR'.cell_at 7 rfl
          have e8 := hR'.cell_at 8 rfl
          have e9 := hR'.cell_at 9 rfl
          have e10 := hR'.cell_at 10 rfl
          refine bodyPost_ret (v := (⟨k', a0, b0, a1, b1, a2, b2, a3, b3, d0, d1⟩ : Sec).val) (by simp [results, Tryz.f80, go_sem, e0, e1, e2, e3, e4, e5, e6, e7, e8, e9, e10]) rfl ⟨⟨k', a0, b0, a1, b1, a2, b2, a3, b3, d0, d1⟩, t, rfl, HFIN.out.1, HEX.out, HFIN.out.2⟩
end
end Go.Proofs.YtegflmaobmibnaaGreatDoor
