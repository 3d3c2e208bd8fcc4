/- cmp.Compare at ints; package rank: compare, its goto loop; what order tells. -/
import Derived.Deep.CutRange
import Derived.BigQuiet
import Derived.Lib.MinMax
import Derived.ScopeJumps
import Derived.WalkMore
import Derived.Test.YtiknjkgioiknnaaDoorQK
import Derived.Test.YtiknjkgioiknnaaDoorQBeA
import Derived.Test.YtiknjkgioiknnaaDoorQG
import Derived.Test.YtiknjkgioiknnaaDoorQJoinC
namespace Go.Proofs.YtiknjkgioiknnaaDoor
open Go.RowKit Go.Shelf
set_option linter.unusedVariables false
set_option linter.unusedSimpArgs false
set_option maxRecDepth 100000

/-- Two numbers compared. -/
def cmpI (a b : Int) : Int := if a < b then -1 else if b < a then 1 else 0
set_option maxRecDepth 100000 in
set_option maxHeartbeats 32000000 in
theorem isNaN_any (x : Int) (w : World) : Calls Tryd.prog 66 #[.int .i64 x] w fun e w' => e = .returned (.bool false) ∧ w' = w := by
  go_enter Tryd.func66, Tryd.ntmps66
  go_wp2_with fail
  go_ret
  exact ⟨by simp, rfl⟩
set_option maxRecDepth 100000 in
set_option maxHeartbeats 32000000 in
theorem cmpInt_any (a b : Int) {r : Int} (hr : cmpI a b = r) (w : World) : Calls Tryd.prog 56 #[.int .i64 a, .int .i64 b] w fun e w' => e = .returned (.int .i64 r) ∧ Below w.heap.size w w' := by
  unfold cmpI at hr
  have hB := Below.refl w.heap.size w
  have HB := Lib.hid hB
  clear hB
  by_cases h1 : a < b
  · rw [if_pos h1] at hr
    subst hr
    go_enter Tryd.func56, Tryd.ntmps56
    go_wp2_with fail
    refine (isNaN_any _ _).mono ?_
    rintro e w1 ⟨rfl, rfl⟩
    go_wp2_with fail
    refine (isNaN_any _ _).mono ?_
    rintro e w1 ⟨rfl, rfl⟩
    go_wp2_with fail
    go_ret
    exact ⟨rfl, HB.out⟩
  · rw [if_neg h1] at hr
    by_cases h2 : b < a
    · rw [if_pos h2] at hr
      subst hr
      go_enter Tryd.func56, Tryd.ntmps56
      go_wp2_with fail
      refine (isNaN_any _ _).mono ?_
      rintro e w1 ⟨rfl, rfl⟩
      go_wp2_with fail
      refine (isNaN_any _ _).mono ?_
      rintro e w1 ⟨rfl, rfl⟩
      go_wp2_with fail
      go_ret
      exact ⟨rfl, HB.out⟩
    · rw [if_neg h2] at hr
      subst hr
      go_enter Tryd.func56, Tryd.ntmps56
      go_wp2_with fail
      refine (isNaN_any _ _).mono ?_
      rintro e w1 ⟨rfl, rfl⟩
      go_wp2_with fail
      refine (isNaN_any _ _).mono ?_
      rintro e w1 ⟨rfl, rfl⟩
      go_wp2_with fail
      go_ret
      exact ⟨rfl, HB.out⟩
/-- A scope with jumps back to a label: what holds of the passes may be used on the first way. -/
theorem wp_scope_jumps12 {P : Program} {a : Act} {w : World} {Q : Exit → Act → World → Prop} {c rest : Code} (l : Nat) (J : Act → World → Prop) (μ : Act → World → Nat) (hf : findLabel c l = some (Code.seq .skip rest))
    (pass : ∀ a w, J a w → rest.wp P (Exit.jump l (fun a' w' => J a' w' ∧ μ a' w' < μ a w) Q) a w) (first : (∀ a w, J a w → rest.wp P (Exit.jump l J Q) a w) → c.wp P (Exit.jump l J Q) a w) : (Code.scope c).wp P Q a w :=
  wp_scope_jumps l J μ hf (first fun a w h => Code.wp_mono (fun e a' w' hq => by
    cases e with
    | goto l' => exact ⟨hq.1, hq.2.1⟩
    | _ => exact hq) (pass a w h)) fun a w h => wp_seq (wp_skip (show Exit.then _ _ Exit.normal a w from pass a w h))
theorem cmpR_take {xs ys : List Int} {k : Nat} {a : Int} (ha : xs[k]? = some a) (hb : ys[k]? = some a) (he : xs.take k = ys.take k) : xs.take (k + 1) = ys.take (k + 1) := by
  rw [List.take_add_one, List.take_add_one, ha, hb, he]
set_option maxRecDepth 100000 in
set_option maxHeartbeats 32000000 in
theorem compare_any {xs ys : List Int} {A B : Option Addr} (ca cb : Nat) {w : World} (hA : Row w w.heap.size A (nums .i64 xs)) (hB : Row w w.heap.size B (nums .i64 ys)) (hx : xs.length ≤ 1099511627776) (hy : ys.length ≤ 1099511627776) {r : Int} (hr : cmpR xs ys = r) :
    Calls Tryd.prog 38 #[.slice A xs.length ca, .slice B ys.length cb] w fun e w' => e = .returned (.int .i64 r) ∧ Below w.heap.size w w' := by
  have HA := Lib.hid hA
  have HB := Lib.hid hB
  have HR := Lib.hid hr
  clear hA hB hr
  go_enter Tryd.func38, Tryd.ntmps38
  go_wp2
  refine wp_scope_jumps12 0 (fun a' W => ∃ (k : Nat) (u6 u7 u8 u9 u10 u11 u12 u13 u14 u15 u16 u17 u18 u19 u20 u21 u22 u23 u24 u25 u26 u27 u28 u29 u30 u31 u32 u33 u34 u35 u36 u37 u38 u39 u40 : Value), (k ≤ xs.length ∧ k ≤ ys.length ∧ Below w.heap.size w W ∧ Hid (xs.take k = ys.take k)) ∧
      a' = { tmps := #[.slice A xs.length ca, .slice B ys.length cb, undef, undef, .int .i64 0, .int .i64 (k : Int), u6, u7, u8, u9, u10, u11, u12, u13, u14, u15, u16, u17, u18, u19, u20, u21, u22, u23, u24, u25, u26, u27, u28, u29, u30, u31, u32, u33, u34, u35, u36, u37, u38, u39, u40], defers := [] })
      (fun a' _ => xs.length - (intOf (a'.tmps.getD 5 undef)).toNat) rfl ?pass ?first
  case first =>
    intro htail
    go_wp2_with fail
    go_step3
    rename_i hK
    refine hK _ _ ?_
    exact htail _ _ ⟨0, _, _, _, _, _, _, _, _, _, _, _, _, _, _, _, _, _, _, _, _, _, _, _, _, _, _, _, _, _, _, _, _, _, _, _, ⟨Nat.zero_le _, Nat.zero_le _, Below.refl _ _, Lib.hid rfl⟩, rfl⟩
  case pass =>
    rintro a' wr ⟨k, u6, u7, u8, u9, u10, u11, u12, u13, u14, u15, u16, u17, u18, u19, u20, u21, u22, u23, u24, u25, u26, u27, u28, u29, u30, u31, u32, u33, u34, u35, u36, u37, u38, u39, u40, ⟨hkx, hky, hB, HT⟩, rfl⟩
    by_cases hend : k = xs.length ∨ k = ys.length
    · have HF : Hid (cmpI (xs.length : Int) (ys.length : Int) = r) := Lib.hid (by
        rw [← HR.out, cmpR_end HT.out hkx hky hend]
        unfold cmpI
        by_cases h1 : xs.length < ys.length
        · rw [if_pos h1, if_pos (by omega)]
        · rw [if_neg h1, if_neg (by omega)]
          by_cases h2 : ys.length < xs.length
          · rw [if_pos h2, if_pos (by omega)]
          · rw [if_neg h2, if_neg (by omega)])
      have HBb := Lib.hid hB
      clear HT HA HB hB
      by_cases h1 : k = xs.length
      · have h1' : (k : Int) = (xs.length : Int) := by omega
        go_wp2_with fail
        refine (cmpInt_any _ _ HF.out _).mono ?_
        rintro e w1 ⟨rfl, hB1⟩
        go_wp2_with fail
        simp only [Exit.jump]
        go_ret
        exact ⟨rfl, HBb.out.trans (hB1.mono HBb.out.size)⟩
      · have h1' : ¬ (k : Int) = (xs.length : Int) := by omega
        have h2 : k = ys.length := by omega
        have h2' : (k : Int) = (ys.length : Int) := by omega
        go_wp2_with fail
        refine (cmpInt_any _ _ HF.out _).mono ?_
        rintro e w1 ⟨rfl, hB1⟩
        go_wp2_with fail
        simp only [Exit.jump]
        go_ret
        exact ⟨rfl, HBb.out.trans (hB1.mono HBb.out.size)⟩
    · have h1 : ¬ k = xs.length := by omega
      have h2 : ¬ k = ys.length := by omega
      have h1' : ¬ (k : Int) = (xs.length : Int) := by omega
      have h2' : ¬ (k : Int) = (ys.length : Int) := by omega
      have e1 : ((k : Int) == (xs.length : Int)) = false := beq_false_of_ne h1'
      have e2 : ((k : Int) == (ys.length : Int)) = false := beq_false_of_ne h2'
      have e3 : (k == xs.length) = false := by simpa using h1
      have e4 : (k == ys.length) = false := by simpa using h2
      have h3 : (k : Int) < (xs.length : Int) := by omega
      have h4 : (k : Int) < (ys.length : Int) := by omega
      have h3' : k < xs.length := by omega
      have h4' : k < ys.length := by omega
      obtain ⟨b1, o1, rfl, hb1, _⟩ := (HA.out.on hB).num h3'
      obtain ⟨b2, o2, rfl, hb2, _⟩ := (HB.out.on hB).num h4'
      obtain ⟨x, hxv⟩ : ∃ x, xs[k]? = some x := ⟨_, List.getElem?_eq_getElem h3'⟩
      obtain ⟨y, hyv⟩ : ∃ y, ys[k]? = some y := ⟨_, List.getElem?_eq_getElem h4'⟩
      have HC0 : Hid (∀ W, Below w.heap.size w W → W.cell? ⟨b1, o1 + k, none⟩ = some (.int .i64 x)) := Lib.hid fun W hW => by
        obtain ⟨b, o, e, _, hc⟩ := (HA.out.on hW).num h3'
        cases e
        rw [hxv] at hc
        exact hc
      have HC1 : Hid (∀ W, Below w.heap.size w W → W.cell? ⟨b2, o2 + k, none⟩ = some (.int .i64 y)) := Lib.hid fun W hW => by
        obtain ⟨b, o, e, _, hc⟩ := (HB.out.on hW).num h4'
        cases e
        rw [hyv] at hc
        exact hc
      obtain ⟨Q, HQ, HQb, hq⟩ : ∃ Q : World → Prop, Hid (Closed Q) ∧ Hid (∀ W, Q W → Below w.heap.size w W) ∧ Q wr := ⟨fun W => Below w.heap.size w W, Lib.hid (Closed.below w), Lib.hid fun _ h => h, hB⟩
      clear hB
      have HXY := Lib.hid (And.intro hxv hyv)
      clear hxv hyv hb1 hb2 hend
      obtain ⟨wk, rfl⟩ : ∃ W, W = wr := ⟨wr, rfl⟩
      by_cases hxy : x = y
      · subst hxy
        have hwi : IntKind.i64.wrap ((k : Int) + 1) = (k : Int) + 1 := IntWalk.i64_in _ (by omega)
        go_wp2_with fail
        have HBS : Hid (∀ W, Below wk.heap.size wk W → Q W) := Lib.hid (fun W hB => HQ.out _ _ hq hB)
        clear hq
        refine region_mix (Below wk.heap.size wk) [(0, false), (1, false), (2, false), (3, false), (4, false), (5, false), (6, false), (7, false), (8, false)] (by kernel_rfl) (by kernel_rfl) (Below wk.heap.size wk) ⟨Closed.below wk, fun _ h => h⟩ (Below.refl _ _).drew ?_
        simp only [pickOps, List.getElem?_cons_zero, List.getElem?_cons_succ]
        repeat (first | (refine mix_skip (by rfl) ?_; simp only [Act.put, List.setIfInBounds_toArray, List.set_cons_zero, List.set_cons_succ]) | (refine mix_read _ (by rfl) (fun W hW => by (have hW := HBS.out W hW; have c0 := (HC0.out W (HQb.out W hW)); have c1 := (HC1.out W (HQb.out W hW)); go_simp; first | done | with_reducible rfl)) ?_; simp only [Act.put, List.setIfInBounds_toArray, List.set_cons_zero, List.set_cons_succ]))
        refine mix_nil (fun W hW => ?_)
        have hq := HBS.out W hW
        clear hW HBS
        have HN : Hid (xs.take (k + 1) = ys.take (k + 1)) := Lib.hid (cmpR_take HXY.out.1 HXY.out.2 HT.out)
        go_wp2_with fail
        go_step3
        refine ⟨rfl, ⟨k + 1, _, _, _, _, _, _, _, _, _, _, _, _, _, _, _, _, _, _, _, _, _, _, _, _, _, _, _, _, _, _, _, _, _, _, _, ⟨h3', h4', HQb.out _ hq, HN⟩, rfl⟩, ?_⟩
        simp [intOf]
        omega
      · have hxy' : (x == y) = false := by simpa using hxy
        have HF : Hid (cmpI x y = r) := Lib.hid (by
          rw [← HR.out, cmpR_drop HXY.out.1 HXY.out.2 HT.out]
          unfold cmpI
          by_cases e1 : x < y
          · rw [if_pos e1, if_pos e1]
          · rw [if_neg e1, if_neg e1]
            by_cases e2 : y < x
            · rw [if_pos e2, if_pos e2]
            · omega)
        clear HT HA HB
        go_wp2_with fail
        have HBS : Hid (∀ W, Below wk.heap.size wk W → Q W) := Lib.hid (fun W hB => HQ.out _ _ hq hB)
        clear hq
        refine region_mix (Below wk.heap.size wk) [(0, false), (1, false), (2, false), (3, false), (4, false), (5, false), (6, false), (7, false), (8, false)] (by kernel_rfl) (by kernel_rfl) (Below wk.heap.size wk) ⟨Closed.below wk, fun _ h => h⟩ (Below.refl _ _).drew ?_
        simp only [pickOps, List.getElem?_cons_zero, List.getElem?_cons_succ]
        repeat (first | (refine mix_skip (by rfl) ?_; simp only [Act.put, List.setIfInBounds_toArray, List.set_cons_zero, List.set_cons_succ]) | (refine mix_read _ (by rfl) (fun W hW => by (have hW := HBS.out W hW; have c0 := (HC0.out W (HQb.out W hW)); have c1 := (HC1.out W (HQb.out W hW)); go_simp; first | done | with_reducible rfl)) ?_; simp only [Act.put, List.setIfInBounds_toArray, List.set_cons_zero, List.set_cons_succ]))
        refine mix_nil (fun W hW => ?_)
        have hq := HBS.out W hW
        clear hW HBS hxy hxy'
        obtain ⟨wm, rfl⟩ : ∃ V, V = W := ⟨W, rfl⟩
        go_wp2_with fail
        have HBS : Hid (∀ W, Below wm.heap.size wm W → Q W) := Lib.hid (fun W hB => HQ.out _ _ hq hB)
        clear hq
        refine region_mix (Below wm.heap.size wm) [(0, false), (1, false), (2, false), (3, false), (4, false), (5, false), (6, false), (7, false), (8, false), (9, false)] (by kernel_rfl) (by kernel_rfl) (Below wm.heap.size wm) ⟨Closed.below wm, fun _ h => h⟩ (Below.refl _ _).drew ?_
        simp only [pickOps, List.getElem?_cons_zero, List.getElem?_cons_succ]
        repeat (first | (refine mix_skip (by rfl) ?_; simp only [Act.put, List.setIfInBounds_toArray, List.set_cons_zero, List.set_cons_succ]) | (refine mix_read _ (by rfl) (fun W hW => by (have hW := HBS.out W hW; have c0 := (HC0.out W (HQb.out W hW)); have c1 := (HC1.out W (HQb.out W hW)); go_simp; first | done | with_reducible rfl)) ?_; simp only [Act.put, List.setIfInBounds_toArray, List.set_cons_zero, List.set_cons_succ]) | (refine mix_call _ _ _ (by rfl) (fun W hW => by (have hW := HBS.out W hW; have c0 := (HC0.out W (HQb.out W hW)); have c1 := (HC1.out W (HQb.out W hW)); go_simp; first | done | rfl)) (fun W hW => cmpInt_any _ _ HF.out W) ?_; simp only [Act.put, List.setIfInBounds_toArray, List.set_cons_zero, List.set_cons_succ]))
        refine mix_nil (fun W hW => ?_)
        have hq := HBS.out W hW
        clear hW HBS
        go_wp2_with fail
        simp only [Exit.jump]
        go_ret
        exact ⟨rfl, HQb.out _ hq⟩
end Go.Proofs.YtiknjkgioiknnaaDoor
