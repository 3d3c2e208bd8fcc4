/- The walk of NeedClash. -/
import Derived.Test.YtbdbgoploednbaaDoorQNeeK
namespace Go.Proofs.YtbdbgoploednbaaDoor
open Go.RowKit Go.Shelf
set_option linter.unusedVariables false
set_option linter.unusedSimpArgs false
set_option maxRecDepth 100000

theorem both13 (ns : List (Int × Int × Int)) : (ns.any fun x => ns.any (pairC x)) = clashN ns := rfl
set_option maxRecDepth 100000 in
set_option maxHeartbeats 32000000 in
theorem needClash_walk {us vs : List (Int × Int × Int)} {A Bv : Option Addr} (ca cb : Nat) {w : World} (hT : Shapes w) (hA : Row w w.heap.size A (us.flatMap needCells)) (hB : Row w w.heap.size Bv (vs.flatMap needCells)) (hu : (us.length : Int) ≤ 9223372036854775807) (hv : (vs.length : Int) ≤ 9223372036854775807) (hU : ∀ x ∈ us, NWf x) (hV : ∀ x ∈ vs, NWf x) :
    Calls Tryd.prog 6 #[.slice A us.length ca, .slice Bv vs.length cb] w fun e w' => e = .returned (.bool true) ∧ Below w.heap.size w w' := by
  have HQb : Hid (∀ W, Below w.heap.size w W → Below w.heap.size w W) := Lib.hid fun _ h => h
  have KW := Lib.hid (fun W hW => wakes13_P (P := fun W => Below w.heap.size w W) (w := W) (Closed.below w) (fun W h => Shapes.closed _ _ hT h) hW)
  have hq := Below.refl w.heap.size w
  clear hT
  go_enter Tryd.func6, Tryd.ntmps6
  by_cases hus : us.length ≤ 60
  rotate_left
  · have hus1 : decide (60 < (us.length : Int)) = true := decide_eq_true (by omega)
    have hus2 : 60 < us.length := by omega
    have hus3 : 60 < (us.length : Int) := by omega
    go_wp2_with fail
    refine (KW.out _ hq).mono ?_
    clear hq
    rintro e wz ⟨rfl, hq⟩
    go_wp2_with fail
    go_ret
    exact ⟨rfl, HQb.out _ hq⟩
  have hus1 : decide (60 < (us.length : Int)) = false := decide_eq_false (by omega)
  have hus2 : ¬ 60 < us.length := by omega
  have hus3 : ¬ 60 < (us.length : Int) := by omega
  by_cases hvs : vs.length ≤ 60
  rotate_left
  · have hvs1 : decide (60 < (vs.length : Int)) = true := decide_eq_true (by omega)
    have hvs2 : 60 < vs.length := by omega
    have hvs3 : 60 < (vs.length : Int) := by omega
    go_wp2_with fail
    refine (KW.out _ hq).mono ?_
    clear hq
    rintro e wz ⟨rfl, hq⟩
    go_wp2_with fail
    go_ret
    exact ⟨rfl, HQb.out _ hq⟩
  have hvs1 : decide (60 < (vs.length : Int)) = false := decide_eq_false (by omega)
  have hvs2 : ¬ 60 < vs.length := by omega
  have hvs3 : ¬ 60 < (vs.length : Int) := by omega
  have hnew : (w.alloc (.cells #[] 46)).ownsRow w.heap.size 46 3 (.slice (some ⟨w.heap.size, 0, none⟩) 0 0) ([] : List (Int × Int × Int)).length (([] : List (Int × Int × Int)).flatMap needCells) := owns_empty _ _ _ _ (Nat.le_refl _) (World.alloc_heap_new w _)
  have hb1 := below1 w (.cells #[] 46)
  obtain ⟨v1, W1, hrun1, hO1, hg1⟩ := append_needs13 w.heap.size [] us _ A ca _ _ hnew (hA.on hb1) (by simp) (by omega) hb1.size
  rw [List.nil_append] at hO1
  have hB1 : Below w.heap.size w W1 := hb1.grown hg1 hb1.size (fun k e => (hnew.lt k e).1)
  obtain ⟨v2, W2, hrun2, hO2, hg2⟩ := append_needs13 w.heap.size us vs _ Bv cb _ _ hO1 (hB.on hB1) (by omega) (by omega) hB1.size
  have hB2 : Below w.heap.size w W2 := hB1.grown hg2 hB1.size (fun k e => (hO1.lt k e).1)
  obtain ⟨A2, c2, rfl, hrow⟩ := owns_read hO2
  have hal : (us ++ vs).length ≤ 120 := by rw [List.length_append]; omega
  obtain ⟨c, hc⟩ : ∃ c, clashN (us ++ vs) = c := ⟨_, rfl⟩
  obtain ⟨c1, hc1⟩ : ∃ c, clashN us = c := ⟨_, rfl⟩
  have hcc : c = false → c1 = false := fun e => by
    cases h : c1
    · rfl
    · rw [h] at hc1
      have := clash_sub (ms := us ++ vs) (fun a ha => List.mem_append_left _ ha) hc1
      rw [hc, e] at this
      cases this
  have hWF : ∀ x ∈ us ++ vs, NWf x := fun x hx => (List.mem_append.1 hx).elim (hU x) (hV x)
  obtain ⟨Q, HQ, HQ0, HQr, hq⟩ : ∃ Q : World → Prop, Hid (Closed Q) ∧ Hid (∀ W, Q W → Below w.heap.size w W) ∧ Hid (∀ W, Q W → Row W W.heap.size A2 ((us ++ vs).flatMap needCells)) ∧ Q W2 :=
    ⟨fun W => Below W2.heap.size W2 W, Lib.hid (Closed.below W2), Lib.hid fun W h => hB2.trans (h.mono hB2.size), Lib.hid fun W h => hrow.on h, Below.refl _ _⟩
  have K1 := Lib.hid (fun W hW => keepR HQ.out (clashB_any (w := W) ca cb (hA.on (HQ0.out W hW)) (hB.on (HQ0.out W hW)) hU hV (by omega) hc) hW)
  have K2 := Lib.hid (fun W hW => keepR HQ.out (clashB_any (w := W) cb ca (hB.on (HQ0.out W hW)) (hA.on (HQ0.out W hW)) hV hU (by omega) ((clash_comm vs us).trans hc)) hW)
  have K3 := Lib.hid (fun W hW => keepR HQ.out (clashB_any (w := W) (vs := []) ca 0 (Bv := none) (hA.on (HQ0.out W hW)) (Row.nil _ _ _) hU (fun x hx => by cases hx) (by simp; try omega) (r := c1) (by rw [List.append_nil]; exact hc1)) hW)
  have K4 := Lib.hid (fun W hW => keepR HQ.out (clashB_any (w := W) (us := us ++ vs) (vs := []) c2 0 (Bv := none) (HQr.out W hW) (Row.nil _ _ _) hWF (fun x hx => by cases hx) (by simp; try (rw [List.length_append] at hal; omega)) (r := c) (by rw [List.append_nil]; exact hc)) hW)
  have HHC := Lib.hid hc
  have HCC := Lib.hid hcc
  obtain ⟨ns, hns⟩ : ∃ ns, us ++ vs = ns := ⟨_, rfl⟩
  rw [hns] at hrun2 hal HQr K4 HHC
  clear hA hB hnew hb1 hO1 hg1 hB1 hO2 hg2 hB2 hrow hns hc hc1 hcc hWF hU hV
  go_wp2_with (first | (at_builtin; refine list_append rfl (.tmp 18) (.tmp 19) 33 rfl hrun1 ?_) | (at_builtin; refine list_append rfl (.tmp 20) (.tmp 21) 33 rfl hrun2 ?_))
  clear hrun1 hrun2 hu hv
  go_loopw [6, 7] (fun b i wr => ∃ (j : Nat) (bt : Bool), j ≤ ns.length ∧ b = .bool bt ∧ i = .int .i64 j ∧ Q wr ∧ Hid (((ns.take j).any fun x => ns.any (pairC x)) = bt)) (fun _ i _ => ns.length - (intOf i).toNat)
  case atStart => exact ⟨0, false, by omega, rfl, rfl, hq, Lib.hid rfl⟩
  case round =>
    clear hq
    obtain ⟨i, bt, hi, rfl, rfl, hq, HC1⟩ := hrel
    by_cases hlt : i < ns.length
    · have hlt' : (i : Int) < ns.length := by omega
      obtain ⟨⟨x1, x2, x3⟩, hx⟩ : ∃ x, ns[i]? = some x := ⟨_, List.getElem?_eq_getElem hlt⟩
      obtain ⟨o1, o2, HA, HC0, HC⟩ := row_at (n := 3) (fun _ => rfl) (by omega) HQr.out hq hx
      have HX := Lib.hid hx
      have HNB : Hid (∀ r, (bt || ns.any (pairC (x1, x2, x3))) = r → ((ns.take (i + 1)).any fun x => ns.any (pairC x)) = r) := Lib.hid fun r h => by
        rw [List.take_add_one, hx, Option.toList_some, List.any_append, HC1.out, ← h]
        simp
      clear hx
      obtain rfl := HA.out
      clear HA
      go_wp2_with fail
      go_loopw [6, 8] (fun b k wr => ∃ (j : Nat) (b2 : Bool), j ≤ ns.length ∧ b = .bool b2 ∧ k = .int .i64 j ∧ Hid ((bt || (ns.take j).any (pairC (x1, x2, x3))) = b2) ∧ Q wr) (fun _ k _ => ns.length - (intOf k).toNat)
      case atStart => exact ⟨0, bt, by omega, rfl, rfl, Lib.hid (by simp), hq⟩
      case round =>
        clear hq
        obtain ⟨k, b2, hk, rfl, rfl, HS, hq⟩ := hrel
        by_cases hlt2 : k < ns.length
        · have hlt2' : (k : Int) < (ns.length : Int) := by omega
          obtain ⟨⟨y1, y2, y3⟩, hy⟩ : ∃ y, ns[k]? = some y := ⟨_, List.getElem?_eq_getElem (by omega)⟩
          have HY := Lib.hid hy
          clear hy
          obtain ⟨wb, rfl⟩ : ∃ W, W = wr := ⟨wr, rfl⟩
          cases b2
          rotate_left
          · have HN : Hid ((bt || (ns.take (k + 1)).any (pairC (x1, x2, x3))) = true) := Lib.hid (by rw [List.take_add_one, HY.out, Option.toList_some, List.any_append, ← Bool.or_assoc, HS.out]; rfl)
            go_wp2_with fail
            refine region_mix Q [(0, false), (1, false), (2, false), (3, false), (4, false), (5, false), (6, false), (7, false), (8, false), (9, false), (10, false), (11, false), (12, false), (13, false), (14, false), (15, false), (16, false), (17, false), (18, false), (19, false), (20, false), (21, false), (22, false), (23, false), (24, false), (25, false), (26, false), (27, false)] (by kernel_rfl) (by kernel_rfl) Q ⟨HQ.out, fun _ h => h⟩ (HQ.out.drew hq) ?_
            simp only [pickOps, List.getElem?_cons_zero, List.getElem?_cons_succ]
            repeat (first | (refine mix_skip (by rfl) ?_; simp only [Act.put, List.setIfInBounds_toArray, List.set_cons_zero, List.set_cons_succ]) | (refine mix_read _ (by rfl) (fun W hW => by (have c0 := HC0.out W hW i _ _ HX.out rfl; have c1 := HC.out W hW i _ 1 _ HX.out rfl; have d0 := HC0.out W hW k _ _ HY.out rfl; have d1 := HC.out W hW k _ 1 _ HY.out rfl; clear hW; go_simp; first | done | with_reducible rfl)) ?_; simp only [Act.put, List.setIfInBounds_toArray, List.set_cons_zero, List.set_cons_succ]))
            refine mix_nil (fun W hW => ?_)
            have hq := hW
            clear hW
            go_wp2_with fail
            go_roundw
            case rel => exact ⟨k + 1, true, hlt2, rfl, by go_num, HN, hq⟩
            case measure => simp [intOf]; omega
          cases he : (x1 == y1)
          · have HN : Hid ((bt || (ns.take (k + 1)).any (pairC (x1, x2, x3))) = false) := Lib.hid (by rw [List.take_add_one, HY.out, Option.toList_some, List.any_append, ← Bool.or_assoc, HS.out]; unfold pairC; simp only [he, List.any_cons, List.any_nil, Bool.false_and, Bool.or_false])
            go_wp2_with fail
            refine region_mix Q [(0, false), (1, false), (2, false), (3, false), (4, false), (5, false), (6, false), (7, false), (8, false), (9, false), (10, false), (11, false), (12, false), (13, false), (14, false), (15, false), (16, false), (17, false), (18, false), (19, false), (20, false), (21, false), (22, false), (23, false), (24, false), (25, false), (26, false), (27, false)] (by kernel_rfl) (by kernel_rfl) Q ⟨HQ.out, fun _ h => h⟩ (HQ.out.drew hq) ?_
            simp only [pickOps, List.getElem?_cons_zero, List.getElem?_cons_succ]
            repeat (first | (refine mix_skip (by rfl) ?_; simp only [Act.put, List.setIfInBounds_toArray, List.set_cons_zero, List.set_cons_succ]) | (refine mix_read _ (by rfl) (fun W hW => by (have c0 := HC0.out W hW i _ _ HX.out rfl; have c1 := HC.out W hW i _ 1 _ HX.out rfl; have d0 := HC0.out W hW k _ _ HY.out rfl; have d1 := HC.out W hW k _ 1 _ HY.out rfl; clear hW; go_simp; first | done | with_reducible rfl)) ?_; simp only [Act.put, List.setIfInBounds_toArray, List.set_cons_zero, List.set_cons_succ]))
            refine mix_nil (fun W hW => ?_)
            have hq := hW
            clear hW
            go_wp2_with fail
            go_roundw
            case rel => exact ⟨k + 1, false, hlt2, rfl, by go_num, HN, hq⟩
            case measure => simp [intOf]; omega
          · cases hp : (x2 != y2)
            · have HN : Hid ((bt || (ns.take (k + 1)).any (pairC (x1, x2, x3))) = false) := Lib.hid (by rw [List.take_add_one, HY.out, Option.toList_some, List.any_append, ← Bool.or_assoc, HS.out]; unfold pairC; simp only [he, hp, List.any_cons, List.any_nil, Bool.true_and, Bool.or_false])
              go_wp2_with fail
              refine region_mix Q [(0, false), (1, false), (2, false), (3, false), (4, false), (5, false), (6, false), (7, false), (8, false), (9, false), (10, false), (11, false), (12, false), (13, false), (14, false), (15, false), (16, false), (17, false), (18, false), (19, false), (20, false), (21, false), (22, false), (23, false), (24, false), (25, false), (26, false), (27, false)] (by kernel_rfl) (by kernel_rfl) Q ⟨HQ.out, fun _ h => h⟩ (HQ.out.drew hq) ?_
              simp only [pickOps, List.getElem?_cons_zero, List.getElem?_cons_succ]
              repeat (first | (refine mix_skip (by rfl) ?_; simp only [Act.put, List.setIfInBounds_toArray, List.set_cons_zero, List.set_cons_succ]) | (refine mix_read _ (by rfl) (fun W hW => by (have c0 := HC0.out W hW i _ _ HX.out rfl; have c1 := HC.out W hW i _ 1 _ HX.out rfl; have d0 := HC0.out W hW k _ _ HY.out rfl; have d1 := HC.out W hW k _ 1 _ HY.out rfl; clear hW; go_simp; first | done | with_reducible rfl)) ?_; simp only [Act.put, List.setIfInBounds_toArray, List.set_cons_zero, List.set_cons_succ]))
              refine mix_nil (fun W hW => ?_)
              have hq := hW
              clear hW
              go_wp2_with fail
              go_roundw
              case rel => exact ⟨k + 1, false, hlt2, rfl, by go_num, HN, hq⟩
              case measure => simp [intOf]; omega
            · have HN : Hid ((bt || (ns.take (k + 1)).any (pairC (x1, x2, x3))) = true) := Lib.hid (by rw [List.take_add_one, HY.out, Option.toList_some, List.any_append, ← Bool.or_assoc, HS.out]; unfold pairC; simp only [he, hp, List.any_cons, List.any_nil, Bool.true_and, Bool.or_true, Bool.true_or])
              go_wp2_with fail
              refine region_mix Q [(0, false), (1, false), (2, false), (3, false), (4, false), (5, false), (6, false), (7, false), (8, false), (9, false), (10, false), (11, false), (12, false), (13, false), (14, false), (15, false), (16, false), (17, false), (18, false), (19, false), (20, false), (21, false), (22, false), (23, false), (24, false), (25, false), (26, false), (27, false)] (by kernel_rfl) (by kernel_rfl) Q ⟨HQ.out, fun _ h => h⟩ (HQ.out.drew hq) ?_
              simp only [pickOps, List.getElem?_cons_zero, List.getElem?_cons_succ]
              repeat (first | (refine mix_skip (by rfl) ?_; simp only [Act.put, List.setIfInBounds_toArray, List.set_cons_zero, List.set_cons_succ]) | (refine mix_read _ (by rfl) (fun W hW => by (have c0 := HC0.out W hW i _ _ HX.out rfl; have c1 := HC.out W hW i _ 1 _ HX.out rfl; have d0 := HC0.out W hW k _ _ HY.out rfl; have d1 := HC.out W hW k _ 1 _ HY.out rfl; clear hW; go_simp; first | done | with_reducible rfl)) ?_; simp only [Act.put, List.setIfInBounds_toArray, List.set_cons_zero, List.set_cons_succ]))
              refine mix_nil (fun W hW => ?_)
              have hq := hW
              clear hW
              go_wp2_with fail
              go_roundw
              case rel => exact ⟨k + 1, true, hlt2, rfl, by go_num, HN, hq⟩
              case measure => simp [intOf]; omega
        · obtain rfl : k = ns.length := by omega
          have HN := Lib.hid (HNB.out b2 (by have := HS.out; rw [List.take_length] at this; exact this))
          go_wp2_with fail
          go_roundw
          case rel => exact ⟨i + 1, b2, hlt, rfl, by go_num, hq, HN⟩
          case measure => simp [intOf]; omega
    · obtain rfl : i = ns.length := by omega
      obtain rfl : bt = c := by have := HC1.out; rw [List.take_length, both13, HHC.out] at this; exact this.symm
      have KWQ : Hid (∀ W, Q W → Calls Tryd.prog 9 #[] W fun e w' => e = .returned (.bool true) ∧ Below w.heap.size w w') := Lib.hid fun W hW => KW.out W (HQ0.out W hW)
      clear HC1 HHC KW
      go_wp2_with fail
      refine (K1.out _ hq).mono ?_
      clear hq
      rintro e w3 ⟨rfl, hq⟩
      cases bt
      · have HC1 := Lib.hid (HCC.out rfl)
        obtain rfl : c1 = false := HC1.out
        go_wp2_with fail
        refine (K2.out _ hq).mono ?_
        clear hq
        rintro e w4 ⟨rfl, hq⟩
        go_wp2_with fail
        refine (K3.out _ hq).mono ?_
        clear hq
        rintro e w5 ⟨rfl, hq⟩
        go_wp2_with fail
        refine (K4.out _ hq).mono ?_
        clear hq
        rintro e w6 ⟨rfl, hq⟩
        go_wp2_with fail
        refine (KWQ.out _ hq).mono ?_
        clear hq
        rintro e wz ⟨rfl, hB⟩
        have HBz := Lib.hid hB
        clear hB
        go_wp2_with fail
        go_ret
        exact ⟨rfl, HBz.out⟩
      · cases c1
        · go_wp2_with fail
          refine (K2.out _ hq).mono ?_
          clear hq
          rintro e w4 ⟨rfl, hq⟩
          go_wp2_with fail
          refine (K3.out _ hq).mono ?_
          clear hq
          rintro e w5 ⟨rfl, hq⟩
          go_wp2_with fail
          refine (K4.out _ hq).mono ?_
          clear hq
          rintro e w6 ⟨rfl, hq⟩
          go_wp2_with fail
          refine (KWQ.out _ hq).mono ?_
          clear hq
          rintro e wz ⟨rfl, hB⟩
          have HBz := Lib.hid hB
          clear hB
          go_wp2_with fail
          go_ret
          exact ⟨rfl, HBz.out⟩
        · go_wp2_with fail
          refine (K2.out _ hq).mono ?_
          clear hq
          rintro e w4 ⟨rfl, hq⟩
          go_wp2_with fail
          refine (K3.out _ hq).mono ?_
          clear hq
          rintro e w5 ⟨rfl, hq⟩
          go_wp2_with fail
          refine (K4.out _ hq).mono ?_
          clear hq
          rintro e w6 ⟨rfl, hq⟩
          go_wp2_with fail
          refine (KWQ.out _ hq).mono ?_
          clear hq
          rintro e wz ⟨rfl, hB⟩
          have HBz := Lib.hid hB
          clear hB
          go_wp2_with fail
          go_ret
          exact ⟨rfl, HBz.out⟩
end Go.Proofs.YtbdbgoploednbaaDoor
