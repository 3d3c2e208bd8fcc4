/- The walk of NeedPoints. -/
import Derived.Test.YtbdbgoploednbaaDoorQNeeK
namespace Go.Proofs.YtbdbgoploednbaaDoor
open Go.RowKit Go.Shelf
set_option linter.unusedVariables false
set_option linter.unusedSimpArgs false
set_option maxRecDepth 100000

set_option maxRecDepth 100000 in
set_option maxHeartbeats 32000000 in
theorem needPoints_walk {ns : List (Int × Int × Int)} {A : Option Addr} (ca : Nat) {w : World} (hT : Shapes w) (hA : Row w w.heap.size A (ns.flatMap needCells)) (hn : (ns.length : Int) ≤ 9223372036854775807) (pt : Int) :
    Calls Tryd.prog 7 #[.slice A ns.length ca, .int .i64 pt] w fun e w' => e = .returned (.bool true) ∧ Below w.heap.size w w' := by
  have HQb : Hid (∀ W, Below w.heap.size w W → Below w.heap.size w W) := Lib.hid fun _ h => h
  have KW := Lib.hid (fun W hW => wakes13_P (P := fun W => Below w.heap.size w W) (w := W) (Closed.below w) (fun W h => Shapes.closed _ _ hT h) hW)
  have hq := Below.refl w.heap.size w
  clear hT
  go_enter Tryd.func7, Tryd.ntmps7
  by_cases hns : ns.length ≤ 60
  rotate_left
  · have hns1 : decide (60 < (ns.length : Int)) = true := decide_eq_true (by omega)
    have hns2 : 60 < ns.length := by omega
    have hns3 : 60 < (ns.length : Int) := by omega
    go_wp2_with fail
    refine (KW.out _ hq).mono ?_
    clear hq
    rintro e wz ⟨rfl, hq⟩
    go_wp2_with fail
    go_ret
    exact ⟨rfl, HQb.out _ hq⟩
  have hns1 : decide (60 < (ns.length : Int)) = false := decide_eq_false (by omega)
  have hns2 : ¬ 60 < ns.length := by omega
  have hns3 : ¬ 60 < (ns.length : Int) := by omega
  have KP := Lib.hid (points13_any ca hA (by omega))
  have hrl := points_len ns
  have hps : ∀ x, x ∈ pointsN ns ↔ (at13 ns x).2 = true := fun x => points_at13
  have hrs := points_rising ns
  obtain ⟨rs, hr⟩ : ∃ rs, pointsN ns = rs := ⟨_, rfl⟩
  rw [hr] at KP hrl hps hrs
  have HPS := Lib.hid hps
  have HRI : Hid (∀ (i : Nat) (x y : Int), rs[i]? = some x → rs[i + 1]? = some y → x < y) := Lib.hid fun i x y hx hy => by
    obtain ⟨h1, rfl⟩ := List.getElem?_eq_some_iff.1 hx
    obtain ⟨h2, rfl⟩ := List.getElem?_eq_some_iff.1 hy
    exact List.pairwise_iff_getElem.1 hrs i (i + 1) h1 h2 (by omega)
  have HQA : Hid (∀ W, Below w.heap.size w W → Row W W.heap.size A (ns.flatMap needCells)) := Lib.hid fun W h => hA.on h
  clear hA hq hps hrs hr
  go_wp2_with fail
  refine KP.out.mono ?_
  clear KP
  rintro e w1 ⟨v, rfl, hown, hB1⟩
  obtain ⟨A1, c1, rfl, hrow, _⟩ := owns_slice hown
  obtain ⟨Q, HQ, HQ0, HQr, hq⟩ : ∃ Q : World → Prop, Hid (Closed Q) ∧ Hid (∀ W, Q W → Below w.heap.size w W) ∧ Hid (∀ W, Q W → Row W W.heap.size A1 (nums .i64 rs)) ∧ Q w1 :=
    ⟨fun W => Below w1.heap.size w1 W, Lib.hid (Closed.below w1), Lib.hid fun W h => hB1.trans (h.mono hB1.size), Lib.hid fun W h => hrow.on h, Below.refl _ _⟩
  have KA : Hid (∀ (p x : Int) (ok : Bool), at13 ns p = (x, ok) → ∀ W, Q W → Calls Tryd.prog 10 #[.slice A ns.length ca, .int .i64 p] W fun e w' => e = .returned (.tuple #[.int .i64 x, .bool ok]) ∧ Q w') := Lib.hid fun p x ok h W hW => atB_P (P := Q) (w := W) HQ.out ca (fun W hW => HQA.out W (HQ0.out W hW)) (by omega) p h hW
  have KWQ : Hid (∀ W, Q W → Calls Tryd.prog 9 #[] W fun e w' => e = .returned (.bool true) ∧ Below w.heap.size w w') := Lib.hid fun W hW => KW.out W (HQ0.out W hW)
  clear hown hB1 hrow KW
  go_wp2_with fail
  go_loopw [6, 7] (fun b i wr => ∃ (j : Nat) (bt : Bool), j ≤ rs.length ∧ b = .bool bt ∧ i = .int .i64 j ∧ Q wr ∧ Hid ((rs.take j).any (fun y => y == pt) = bt)) (fun _ i _ => rs.length - (intOf i).toNat)
  case atStart => exact ⟨0, false, by omega, rfl, rfl, hq, Lib.hid rfl⟩
  case round =>
    clear hq
    obtain ⟨j, bt, hj, rfl, rfl, hq, HC1⟩ := hrel
    by_cases hlt : j < rs.length
    · have hlt' : (j : Int) < rs.length := by omega
      obtain ⟨x, hx⟩ : ∃ x, rs[j]? = some x := ⟨_, List.getElem?_eq_getElem hlt⟩
      have HX := Lib.hid hx
      obtain ⟨b1, o1, HA1, HD⟩ := row_num13 HQr.out hq hlt
      have hok : (at13 ns x).2 = true := (HPS.out x).1 (List.mem_of_getElem? hx)
      obtain ⟨⟨px, ok⟩, hat⟩ : ∃ z, at13 ns x = z := ⟨_, rfl⟩
      rw [hat] at hok
      simp only at hok
      subst hok
      have KA1 := Lib.hid (KA.out x px true hat)
      have HR2 := Lib.hid (And.intro HQr.out (fun (i : Nat) (x y : Int) => HRI.out i x y))
      obtain rfl := HA1.out
      clear hx hat HA1 HR2
      have d0 := HD.out _ hq j _ HX.out
      go_wp2_with fail
      refine (KA1.out _ hq).mono ?_
      clear hq d0 KA1
      rintro e w2 ⟨rfl, hq⟩
      go_upto_region 9 with (fail)
      by_cases h0 : j = 0
      · have e0 : decide ((0 : Int) < (j : Int)) = false := decide_eq_false (by omega)
        have e1 : decide (0 < j) = false := decide_eq_false (by omega)
        have e2 : ¬ (0 : Int) < (j : Int) := by omega
        have e3 : ¬ 0 < j := by omega
        clear h0
        refine region_mix Q [(0, false), (1, false), (2, false), (3, false), (4, false), (5, false), (6, false), (7, false), (8, false), (9, false), (10, false), (11, false), (12, false), (13, false), (14, false), (15, false), (16, false), (17, false)] (by kernel_rfl) (by kernel_rfl) Q ⟨HQ.out, fun _ h => h⟩ (HQ.out.drew hq) ?_
        simp only [pickOps, List.getElem?_cons_zero, List.getElem?_cons_succ]
        repeat (first | (refine mix_skip (by rfl) ?_; simp only [Act.put, List.setIfInBounds_toArray, List.set_cons_zero, List.set_cons_succ]) | (refine mix_read _ (by rfl) (fun W hW => by (have d0 := HD.out W hW j _ HX.out; clear hW; go_simp; first | done | with_reducible rfl)) ?_; simp only [Act.put, List.setIfInBounds_toArray, List.set_cons_zero, List.set_cons_succ]))
        refine mix_nil (fun W hW => ?_)
        have hq := hW
        clear hW e0 e1 e2 e3
        cases bt
        rotate_left
        · have HN : Hid ((rs.take (j + 1)).any (fun y => y == pt) = true) := Lib.hid (by rw [List.take_add_one, HX.out, Option.toList_some, List.any_append, HC1.out]; rfl)
          have d0 := HD.out _ hq j _ HX.out
          go_wp2_with fail
          go_roundw
          case rel => exact ⟨j + 1, true, hlt, rfl, by go_num, hq, HN⟩
          case measure => simp [intOf]; omega
        cases he : (x == pt)
        · have HN : Hid ((rs.take (j + 1)).any (fun y => y == pt) = false) := Lib.hid (by rw [List.take_add_one, HX.out, Option.toList_some, List.any_append, HC1.out]; simp [he])
          have d0 := HD.out _ hq j _ HX.out
          go_wp2_with fail
          go_roundw
          case rel => exact ⟨j + 1, false, hlt, rfl, by go_num, hq, HN⟩
          case measure => simp [intOf]; omega
        · have HN : Hid ((rs.take (j + 1)).any (fun y => y == pt) = true) := Lib.hid (by rw [List.take_add_one, HX.out, Option.toList_some, List.any_append, HC1.out]; simp [he])
          have d0 := HD.out _ hq j _ HX.out
          go_wp2_with fail
          go_roundw
          case rel => exact ⟨j + 1, true, hlt, rfl, by go_num, hq, HN⟩
          case measure => simp [intOf]; omega
      · have e0 : decide ((0 : Int) < (j : Int)) = true := decide_eq_true (by omega)
        have e1 : decide (0 < j) = true := decide_eq_true (by omega)
        have e2 : (0 : Int) < (j : Int) := by omega
        have e3 : 0 < j := by omega
        obtain ⟨jm, hjm⟩ : ∃ jm, j = jm + 1 := ⟨j - 1, by omega⟩
        obtain ⟨y, hy⟩ : ∃ y, rs[jm]? = some y := ⟨_, List.getElem?_eq_getElem (by omega)⟩
        have HX2 := Lib.hid hy
        have hlt9 : y < x := HRI.out jm y x hy (by rw [← hjm]; exact HX.out)
        have hle : ¬ x ≤ y := by omega
        have hle2 : decide (x ≤ y) = false := decide_eq_false hle
        have e4 : IntKind.i64.wrap ((j : Int) - 1) = (jm : Int) := by rw [IntWalk.i64_in _ (by omega)]; omega
        have e5 : (jm : Int) < (rs.length : Int) := by omega
        have e6 : jm < rs.length := by omega
        clear h0 hy hjm
        refine region_mix Q [(0, false), (1, false), (2, false), (3, false), (4, false), (5, false), (6, false), (7, false), (8, false), (9, false), (10, false), (11, false), (12, false), (13, false), (14, false), (15, false), (16, false), (17, false)] (by kernel_rfl) (by kernel_rfl) Q ⟨HQ.out, fun _ h => h⟩ (HQ.out.drew hq) ?_
        simp only [pickOps, List.getElem?_cons_zero, List.getElem?_cons_succ]
        repeat (first | (refine mix_skip (by rfl) ?_; simp only [Act.put, List.setIfInBounds_toArray, List.set_cons_zero, List.set_cons_succ]) | (refine mix_read _ (by rfl) (fun W hW => by (have d0 := HD.out W hW j _ HX.out; have d1 := HD.out W hW jm _ HX2.out; clear hW; go_simp; first | done | with_reducible rfl)) ?_; simp only [Act.put, List.setIfInBounds_toArray, List.set_cons_zero, List.set_cons_succ]))
        refine mix_nil (fun W hW => ?_)
        have hq := hW
        clear hW e0 e1 e2 e3 e4 e5 e6 hle hle2 hlt9
        cases bt
        rotate_left
        · have HN : Hid ((rs.take (j + 1)).any (fun y => y == pt) = true) := Lib.hid (by rw [List.take_add_one, HX.out, Option.toList_some, List.any_append, HC1.out]; rfl)
          have d0 := HD.out _ hq j _ HX.out
          go_wp2_with fail
          go_roundw
          case rel => exact ⟨j + 1, true, hlt, rfl, by go_num, hq, HN⟩
          case measure => simp [intOf]; omega
        cases he : (x == pt)
        · have HN : Hid ((rs.take (j + 1)).any (fun y => y == pt) = false) := Lib.hid (by rw [List.take_add_one, HX.out, Option.toList_some, List.any_append, HC1.out]; simp [he])
          have d0 := HD.out _ hq j _ HX.out
          go_wp2_with fail
          go_roundw
          case rel => exact ⟨j + 1, false, hlt, rfl, by go_num, hq, HN⟩
          case measure => simp [intOf]; omega
        · have HN : Hid ((rs.take (j + 1)).any (fun y => y == pt) = true) := Lib.hid (by rw [List.take_add_one, HX.out, Option.toList_some, List.any_append, HC1.out]; simp [he])
          have d0 := HD.out _ hq j _ HX.out
          go_wp2_with fail
          go_roundw
          case rel => exact ⟨j + 1, true, hlt, rfl, by go_num, hq, HN⟩
          case measure => simp [intOf]; omega
    · obtain rfl : j = rs.length := by omega
      obtain ⟨⟨px, ok⟩, hat⟩ : ∃ z, at13 ns pt = z := ⟨_, rfl⟩
      have KA1 := Lib.hid (KA.out pt px ok hat)
      have hbo : bt = ok := by
        have h1 := HC1.out
        have h2 := HPS.out pt
        rw [List.take_length] at h1
        rw [hat] at h2
        rw [Bool.eq_iff_iff, ← h1, List.any_eq_true]
        constructor
        · rintro ⟨y, hy, he⟩
          obtain rfl : y = pt := by simpa using he
          exact h2.1 hy
        · intro h
          exact ⟨pt, h2.2 h, by simp⟩
      have HBO := Lib.hid hbo
      clear hat HC1 hbo
      go_wp2_with fail
      refine (KA1.out _ hq).mono ?_
      clear hq KA1
      rintro e w2 ⟨rfl, hq⟩
      go_wp2_with fail
      go_loopw [12] (fun i wr => ∃ j : Nat, j ≤ ns.length ∧ i = .int .i64 j ∧ Q wr) (fun i _ => ns.length - (intOf i).toNat)
      case atStart => exact ⟨0, by omega, rfl, hq⟩
      case round =>
        clear hq
        obtain ⟨i, hi, rfl, hq⟩ := hrel
        by_cases hlt2 : i < ns.length
        · have hlt2' : (i : Int) < (ns.length : Int) := by omega
          obtain ⟨⟨x1, x2, x3⟩, hx⟩ : ∃ x, ns[i]? = some x := ⟨_, List.getElem?_eq_getElem hlt2⟩
          obtain ⟨o1, o2, HA, HC0, HC⟩ := row_at (Q := fun W => Below w.heap.size w W) (n := 3) (fun _ => rfl) (by omega) HQA.out (HQ0.out _ hq) hx
          have HX := Lib.hid hx
          have hin : x1 ∈ rs := (HPS.out x1).2 (at13_mem (List.mem_of_getElem? hx))
          have HIN : Hid (rs.any (fun y => y == x1) = true) := Lib.hid (List.any_eq_true.2 ⟨x1, hin, by simp⟩)
          have hr0 : 0 < rs.length := List.length_pos_of_mem hin
          obtain ⟨b1, o3, HA1, HD⟩ := row_num13 HQr.out hq hr0
          obtain rfl := HA.out
          obtain rfl := HA1.out
          clear hx HA HA1 hin hr0
          go_wp2_with fail
          go_loopw [13, 14] (fun b k wr => ∃ (j : Nat) (b2 : Bool), j ≤ rs.length ∧ b = .bool b2 ∧ k = .int .i64 j ∧ Hid ((rs.take j).any (fun y => y == x1) = b2) ∧ Q wr) (fun _ k _ => rs.length - (intOf k).toNat)
          case atStart => exact ⟨0, false, by omega, rfl, rfl, Lib.hid rfl, hq⟩
          case round =>
            clear hq
            obtain ⟨k, b2, hk, rfl, rfl, HS, hq⟩ := hrel
            by_cases hlt3 : k < rs.length
            · have hlt3' : (k : Int) < (rs.length : Int) := by omega
              obtain ⟨y, hy⟩ : ∃ y, rs[k]? = some y := ⟨_, List.getElem?_eq_getElem hlt3⟩
              have HY := Lib.hid hy
              clear hy
              cases b2
              rotate_left
              · have HN : Hid ((rs.take (k + 1)).any (fun y => y == x1) = true) := Lib.hid (by rw [List.take_add_one, HY.out, Option.toList_some, List.any_append, HS.out]; rfl)
                go_wp2_with fail
                refine region_mix Q [(0, false), (1, false), (2, false), (3, false), (4, false), (5, false), (6, false), (7, false), (8, false), (9, false), (10, false), (11, false), (12, false), (13, false)] (by kernel_rfl) (by kernel_rfl) Q ⟨HQ.out, fun _ h => h⟩ (HQ.out.drew hq) ?_
                simp only [pickOps, List.getElem?_cons_zero, List.getElem?_cons_succ]
                repeat (first | (refine mix_skip (by rfl) ?_; simp only [Act.put, List.setIfInBounds_toArray, List.set_cons_zero, List.set_cons_succ]) | (refine mix_read _ (by rfl) (fun W hW => by (have c0 := HC0.out W (HQ0.out W hW) i _ _ HX.out rfl; have d0 := HD.out W hW k _ HY.out; clear hW; go_simp; first | done | with_reducible rfl)) ?_; simp only [Act.put, List.setIfInBounds_toArray, List.set_cons_zero, List.set_cons_succ]))
                refine mix_nil (fun W hW => ?_)
                have hq := hW
                clear hW
                go_wp2_with fail
                go_roundw
                case rel => exact ⟨k + 1, true, hlt3, rfl, by go_num, HN, hq⟩
                case measure => simp [intOf]; omega
              cases he : (y == x1)
              · have HN : Hid ((rs.take (k + 1)).any (fun y => y == x1) = false) := Lib.hid (by rw [List.take_add_one, HY.out, Option.toList_some, List.any_append, HS.out]; simp [he])
                go_wp2_with fail
                refine region_mix Q [(0, false), (1, false), (2, false), (3, false), (4, false), (5, false), (6, false), (7, false), (8, false), (9, false), (10, false), (11, false), (12, false), (13, false)] (by kernel_rfl) (by kernel_rfl) Q ⟨HQ.out, fun _ h => h⟩ (HQ.out.drew hq) ?_
                simp only [pickOps, List.getElem?_cons_zero, List.getElem?_cons_succ]
                repeat (first | (refine mix_skip (by rfl) ?_; simp only [Act.put, List.setIfInBounds_toArray, List.set_cons_zero, List.set_cons_succ]) | (refine mix_read _ (by rfl) (fun W hW => by (have c0 := HC0.out W (HQ0.out W hW) i _ _ HX.out rfl; have d0 := HD.out W hW k _ HY.out; clear hW; go_simp; first | done | with_reducible rfl)) ?_; simp only [Act.put, List.setIfInBounds_toArray, List.set_cons_zero, List.set_cons_succ]))
                refine mix_nil (fun W hW => ?_)
                have hq := hW
                clear hW
                go_wp2_with fail
                go_roundw
                case rel => exact ⟨k + 1, false, hlt3, rfl, by go_num, HN, hq⟩
                case measure => simp [intOf]; omega
              · have HN : Hid ((rs.take (k + 1)).any (fun y => y == x1) = true) := Lib.hid (by rw [List.take_add_one, HY.out, Option.toList_some, List.any_append, HS.out]; simp [he])
                go_wp2_with fail
                refine region_mix Q [(0, false), (1, false), (2, false), (3, false), (4, false), (5, false), (6, false), (7, false), (8, false), (9, false), (10, false), (11, false), (12, false), (13, false)] (by kernel_rfl) (by kernel_rfl) Q ⟨HQ.out, fun _ h => h⟩ (HQ.out.drew hq) ?_
                simp only [pickOps, List.getElem?_cons_zero, List.getElem?_cons_succ]
                repeat (first | (refine mix_skip (by rfl) ?_; simp only [Act.put, List.setIfInBounds_toArray, List.set_cons_zero, List.set_cons_succ]) | (refine mix_read _ (by rfl) (fun W hW => by (have c0 := HC0.out W (HQ0.out W hW) i _ _ HX.out rfl; have d0 := HD.out W hW k _ HY.out; clear hW; go_simp; first | done | with_reducible rfl)) ?_; simp only [Act.put, List.setIfInBounds_toArray, List.set_cons_zero, List.set_cons_succ]))
                refine mix_nil (fun W hW => ?_)
                have hq := hW
                clear hW
                go_wp2_with fail
                go_roundw
                case rel => exact ⟨k + 1, true, hlt3, rfl, by go_num, HN, hq⟩
                case measure => simp [intOf]; omega
            · obtain rfl : k = rs.length := by omega
              obtain rfl : b2 = true := by have := HS.out; rw [List.take_length, HIN.out] at this; exact this.symm
              go_wp2_with fail
              go_roundw
              case rel => exact ⟨i + 1, hlt2, by go_num, hq⟩
              case measure => simp [intOf]; omega
        · obtain rfl : i = ns.length := by omega
          obtain rfl := HBO.out
          cases bt
          · go_wp2_with fail
            refine (KWQ.out _ hq).mono ?_
            clear hq
            rintro e wz ⟨rfl, hB⟩
            have HBz := Lib.hid hB
            clear hB
            go_wp2_with fail
            go_ret
            exact ⟨rfl, HBz.out⟩
          · go_wp2_with fail
            refine (KWQ.out _ hq).mono ?_
            clear hq
            rintro e wz ⟨rfl, hB⟩
            have HBz := Lib.hid hB
            clear hB
            go_wp2_with fail
            go_ret
            exact ⟨rfl, HBz.out⟩
end Go.Proofs.YtbdbgoploednbaaDoor
