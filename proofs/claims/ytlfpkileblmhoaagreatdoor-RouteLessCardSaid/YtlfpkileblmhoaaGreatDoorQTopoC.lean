/- Package topo: the first exit whose overlap is none, the rules, Check, Right, Over. -/
import Derived.Test.YtlfpkileblmhoaaGreatDoorQTopoA
import Derived.Test.YtlfpkileblmhoaaGreatDoorQTopoB
namespace Go.Proofs.YtlfpkileblmhoaaGreatDoor
open Go.RowKit Go.Shelf
set_option linter.unusedVariables false
set_option linter.unusedSimpArgs false

set_option maxRecDepth 100000 in
set_option maxHeartbeats 8000000 in
theorem wrong_any {l : Lay} {w : World} (hT : Shapes w) (hL : Lies l w) (hO : ∀ x ∈ l.exits, (x.over.length : Int) ≤ 1000) {r : Int × Bool} (hr : wrongV l = r) :
    Calls Tryz.prog 110 #[l.val] w fun e w' => e = .returned (.tuple #[.int .i64 r.1, .bool r.2]) ∧ Below w.heap.size w w' := by
  have HTW : Hid (∀ W, Below w.heap.size w W → Shapes W ∧ Lies l W) := Lib.hid fun W hB => ⟨Shapes.closed _ _ hT hB, Lies.closed l _ _ hL hB⟩
  have HR := Lib.hid hr
  have hn := hL.nE
  have HB0 := Lib.hid (below1 w (.cells #[.slice l.As l.secs.length l.cs, .slice l.Ag l.sigs.length l.cg, .slice l.Ae l.exits.length l.ce, .slice l.Af l.flanks.length l.cf, .int .i64 l.t0, .int .i64 l.t1, .int .i64 l.t2, .int .i64 l.t3, .int .i64 l.t4, .int .i64 l.t5, .int .i64 l.t6] 29))
  have b0 := Whole.new w 29 l.cells
  have x2 := b0.cell_at 2 rfl
  clear hT hL hr
  go_enter Tryz.func110, Tryz.ntmps110
  go_wp2_with fail
  clear x2
  have HBX := Lib.hid b0
  clear b0
  go_loopw [9] (fun i wr => ∃ j : Nat, j ≤ l.exits.length ∧ i = .int .i64 j ∧ Hid (Below w.heap.size w wr ∧ Whole wr w.heap.size 29 l.cells ∧ NoneUp (fun x => !overV l x) l.exits j)) (fun i _ => l.exits.length - (intOf i).toNat)
  case atStart => exact ⟨0, by omega, rfl, Lib.hid ⟨HB0.out, HBX.out, NoneUp.zero _ _⟩⟩
  case round =>
    clear HB0 HBX
    obtain ⟨j, hj, rfl, HM⟩ := hrel
    by_cases hlt : j < l.exits.length
    · have hlt' : (j : Int) < l.exits.length := by omega
      obtain ⟨x, hx⟩ : ∃ x, l.exits[j]? = some x := ⟨_, List.getElem?_eq_getElem hlt⟩
      have HX := Lib.hid hx
      have hMem := List.mem_of_getElem? hx
      obtain ⟨b, off, hA, _, hc0, hc⟩ := (HTW.out _ HM.out.1).2.exits.nth (n := 3) (fun _ => rfl) (by omega) hx
      have c0 := hc0 j _ _ hx rfl
      have c1 := hc j _ 1 _ hx rfl
      have c2 := hc j _ 2 _ hx rfl
      clear hx hc0 hc
      rw [hA]
      have HA := Lib.hid hA
      clear hA
      obtain ⟨ov, hov⟩ : ∃ ov, overV l x = ov := ⟨_, rfl⟩
      have hB1 : Below w.heap.size w (wr.alloc (.cells #[.int .i64 x.s, .int .i64 x.q, .slice x.A x.over.length x.c] 59)) := HM.out.1.alloc HM.out.1.size _
      have hba := HM.out.2.1.alloc (.cells #[.int .i64 x.s, .int .i64 x.q, .slice x.A x.over.length x.c] 59)
      have HBA := Lib.hid hba
      have HB1 := Lib.hid hB1
      have KO := Lib.hid (over_any (HTW.out _ hB1).1 (HTW.out _ hB1).2 ((HTW.out _ hB1).2.overs x hMem) (hO x hMem) hov)
      have HOV := Lib.hid hov
      clear hba hB1 hMem hov
      go_upto_region 4 with (fail)
      obtain ⟨W1, hW1⟩ : ∃ W1, wr.alloc (.cells #[.int .i64 x.s, .int .i64 x.q, .slice x.A x.over.length x.c] 59) = W1 := ⟨_, rfl⟩
      obtain ⟨g, hg⟩ : ∃ g, wr.heap.size = g := ⟨_, rfl⟩
      have hgW : Whole W1 g 59 x.cells := by rw [← hW1]; exact Whole.new_at _ _ x.cells _ hg.symm
      rw [hW1] at HBA HB1 KO
      rw [hW1, hg]
      clear hW1 hg c0 c1 c2
      have c0 := hgW.cell_at 0 rfl
      have c1 := hgW.cell_at 1 rfl
      have c2 := hgW.cell_at 2 rfl
      have hba := HBA.out
      have x0 := hba.cell_at 0 rfl
      have x1 := hba.cell_at 1 rfl
      have x2 := hba.cell_at 2 rfl
      have x3 := hba.cell_at 3 rfl
      have x4 := hba.cell_at 4 rfl
      have x5 := hba.cell_at 5 rfl
      have x6 := hba.cell_at 6 rfl
      have x7 := hba.cell_at 7 rfl
      have x8 := hba.cell_at 8 rfl
      have x9 := hba.cell_at 9 rfl
      have x10 := hba.cell_at 10 rfl
      clear hba hgW
      go_wp2_with fail
      refine KO.out.mono ?_
      clear KO c0 c1 c2 x0 x1 x2 x3 x4 x5 x6 x7 x8 x9 x10
      rintro e w3 ⟨rfl, hb3⟩
      cases ov
      · have HW : Hid (wrongV l = ((j : Int), true)) := Lib.hid (by
          unfold wrongV
          have : l.exits.findIdx? (fun x => !overV l x) = some j := by
            obtain ⟨hl, hx'⟩ := List.getElem?_eq_some_iff.1 HX.out
            rw [List.findIdx?_eq_some_iff_getElem]
            refine ⟨hl, by rw [hx', HOV.out]; rfl, fun i hi => ?_⟩
            have := HM.out.2.2 i _ hi (List.getElem?_eq_getElem (by omega))
            simpa using this
          rw [this])
        have HB := Lib.hid (HB1.out.trans (hb3.mono HB1.out.size))
        clear hb3
        go_wp2_with fail
        refine bodyPost_ret (v := .tuple #[.int .i64 j, .bool true]) (by simp [results, Tryz.f110, go_sem]) rfl ⟨by rw [← HR.out, HW.out], HB.out⟩
      · have HN := Lib.hid (HM.out.2.2.succ HX.out (by show (!overV l x) = false; rw [HOV.out]; rfl))
        have HB := Lib.hid (HB1.out.trans (hb3.mono HB1.out.size))
        have HW := Lib.hid (HBA.out.below hb3 HBA.out.lt)
        clear hb3
        go_wp2_with fail
        go_roundw
        case rel => exact ⟨j + 1, hlt, by go_num, Lib.hid ⟨HB.out, HW.out, HN.out⟩⟩
        case measure => simp [intOf]; omega
    · obtain rfl : j = l.exits.length := by omega
      have HW : Hid (wrongV l = (0, false)) := Lib.hid (wrong_no.2 fun x hx => by
        have := HM.out.2.2.any
        rw [List.any_eq_false] at this
        simpa using this x hx)
      have HB := Lib.hid HM.out.1
      clear HM
      go_wp2_with fail
      refine bodyPost_ret (v := .tuple #[.int .i64 0, .bool false]) (by simp [results, Tryz.f110, go_sem]) rfl ⟨by rw [← HR.out, HW.out], HB.out⟩
set_option maxHeartbeats 4000000 in
theorem rule0_any {l : Lay} {w : World} {g : Nat} (hT : Shapes w) (hL : Lies l w) (hg : Whole w g 29 l.cells) (hO : ∀ x ∈ l.exits, (x.over.length : Int) ≤ 1000) :
    Calls Tryz.prog 101 #[.pointer (some ⟨g, 0, none⟩)] w fun e w' => e = .returned (.tuple #[.int .i64 (ruleV l 0).1, .bool (ruleV l 0).2]) ∧ Below w.heap.size w w' := by
  have x0 := hg.cell_at 0 rfl
  have x1 := hg.cell_at 1 rfl
  have x2 := hg.cell_at 2 rfl
  have x3 := hg.cell_at 3 rfl
  have x4 := hg.cell_at 4 rfl
  have x5 := hg.cell_at 5 rfl
  have x6 := hg.cell_at 6 rfl
  have x7 := hg.cell_at 7 rfl
  have x8 := hg.cell_at 8 rfl
  have x9 := hg.cell_at 9 rfl
  have x10 := hg.cell_at 10 rfl
  obtain ⟨r, hr⟩ : ∃ r, joinedL l = r := ⟨_, rfl⟩
  have KC := Lib.hid (joinedL_any hT hL hr)
  have HV : Hid (ruleV l 0 = (0, !r)) := Lib.hid (by rw [← hr]; rfl)
  clear hT hL hg hO hr
  go_enter Tryz.func101, Tryz.ntmps101
  go_wp2_with fail
  refine KC.out.mono ?_
  clear KC x0 x1 x2 x3 x4 x5 x6 x7 x8 x9 x10
  rintro e w1 ⟨rfl, hb⟩
  go_wp2_with fail
  refine bodyPost_ret (v := .tuple #[.int .i64 0, .bool (!r)]) (by simp [results, Tryz.f101, go_sem]) rfl ⟨by rw [HV.out], hb⟩

set_option maxHeartbeats 4000000 in
theorem rule1_any {l : Lay} {w : World} {g : Nat} (hT : Shapes w) (hL : Lies l w) (hg : Whole w g 29 l.cells) (hO : ∀ x ∈ l.exits, (x.over.length : Int) ≤ 1000) :
    Calls Tryz.prog 103 #[.pointer (some ⟨g, 0, none⟩)] w fun e w' => e = .returned (.tuple #[.int .i64 (ruleV l 1).1, .bool (ruleV l 1).2]) ∧ Below w.heap.size w w' := by
  have x1 := hg.cell_at 1 rfl
  obtain ⟨r, hr⟩ : ∃ r, secondV sameG l.sigs = r := ⟨_, rfl⟩
  have KC := Lib.hid (secondSig_any (c := l.cg) hL.sigs hL.nG hr)
  have HV : Hid (ruleV l 1 = r) := Lib.hid (by rw [← hr]; rfl)
  clear hT hL hg hO hr
  go_enter Tryz.func103, Tryz.ntmps103
  go_wp2_with fail
  refine KC.out.mono ?_
  clear KC x1
  rintro e w1 ⟨rfl, hb⟩
  go_wp2_with fail
  refine bodyPost_ret (v := .tuple #[.int .i64 r.1, .bool r.2]) (by simp [results, Tryz.f103, go_sem]) rfl ⟨by rw [HV.out], hb⟩

set_option maxHeartbeats 4000000 in
theorem rule2_any {l : Lay} {w : World} {g : Nat} (hT : Shapes w) (hL : Lies l w) (hg : Whole w g 29 l.cells) (hO : ∀ x ∈ l.exits, (x.over.length : Int) ≤ 1000) :
    Calls Tryz.prog 106 #[.pointer (some ⟨g, 0, none⟩)] w fun e w' => e = .returned (.tuple #[.int .i64 (ruleV l 2).1, .bool (ruleV l 2).2]) ∧ Below w.heap.size w w' := by
  have x2 := hg.cell_at 2 rfl
  obtain ⟨r, hr⟩ : ∃ r, secondV sameE l.exits = r := ⟨_, rfl⟩
  have KC := Lib.hid (secondExm_any (c := l.ce) hL.exits hL.nE hr)
  have HV : Hid (ruleV l 2 = r) := Lib.hid (by rw [← hr]; rfl)
  clear hT hL hg hO hr
  go_enter Tryz.func106, Tryz.ntmps106
  go_wp2_with fail
  refine KC.out.mono ?_
  clear KC x2
  rintro e w1 ⟨rfl, hb⟩
  go_wp2_with fail
  refine bodyPost_ret (v := .tuple #[.int .i64 r.1, .bool r.2]) (by simp [results, Tryz.f106, go_sem]) rfl ⟨by rw [HV.out], hb⟩

set_option maxHeartbeats 4000000 in
theorem rule3_any {l : Lay} {w : World} {g : Nat} (hT : Shapes w) (hL : Lies l w) (hg : Whole w g 29 l.cells) (hO : ∀ x ∈ l.exits, (x.over.length : Int) ≤ 1000) :
    Calls Tryz.prog 109 #[.pointer (some ⟨g, 0, none⟩)] w fun e w' => e = .returned (.tuple #[.int .i64 (ruleV l 3).1, .bool (ruleV l 3).2]) ∧ Below w.heap.size w w' := by
  have x0 := hg.cell_at 0 rfl
  have x1 := hg.cell_at 1 rfl
  have x2 := hg.cell_at 2 rfl
  have x3 := hg.cell_at 3 rfl
  have x4 := hg.cell_at 4 rfl
  have x5 := hg.cell_at 5 rfl
  have x6 := hg.cell_at 6 rfl
  have x7 := hg.cell_at 7 rfl
  have x8 := hg.cell_at 8 rfl
  have x9 := hg.cell_at 9 rfl
  have x10 := hg.cell_at 10 rfl
  obtain ⟨r, hr⟩ : ∃ r, wrongV l = r := ⟨_, rfl⟩
  have KC := Lib.hid (wrong_any hT hL hO hr)
  have HV : Hid (ruleV l 3 = r) := Lib.hid (by rw [← hr]; rfl)
  clear hT hL hg hO hr
  go_enter Tryz.func109, Tryz.ntmps109
  go_wp2_with fail
  refine KC.out.mono ?_
  clear KC x0 x1 x2 x3 x4 x5 x6 x7 x8 x9 x10
  rintro e w1 ⟨rfl, hb⟩
  go_wp2_with fail
  refine bodyPost_ret (v := .tuple #[.int .i64 r.1, .bool r.2]) (by simp [results, Tryz.f109, go_sem]) rfl ⟨by rw [HV.out], hb⟩

set_option maxHeartbeats 4000000 in
theorem rule4_any {l : Lay} {w : World} {g : Nat} (hT : Shapes w) (hL : Lies l w) (hg : Whole w g 29 l.cells) (hO : ∀ x ∈ l.exits, (x.over.length : Int) ≤ 1000) :
    Calls Tryz.prog 111 #[.pointer (some ⟨g, 0, none⟩)] w fun e w' => e = .returned (.tuple #[.int .i64 (ruleV l 4).1, .bool (ruleV l 4).2]) ∧ Below w.heap.size w w' := by
  have x3 := hg.cell_at 3 rfl
  obtain ⟨r, hr⟩ : ∃ r, secondV sameF l.flanks = r := ⟨_, rfl⟩
  have KC := Lib.hid (secondFlk_any (c := l.cf) hL.flanks hL.nF hr)
  have HV : Hid (ruleV l 4 = r) := Lib.hid (by rw [← hr]; rfl)
  clear hT hL hg hO hr
  go_enter Tryz.func111, Tryz.ntmps111
  go_wp2_with fail
  refine KC.out.mono ?_
  clear KC x3
  rintro e w1 ⟨rfl, hb⟩
  go_wp2_with fail
  refine bodyPost_ret (v := .tuple #[.int .i64 r.1, .bool r.2]) (by simp [results, Tryz.f111, go_sem]) rfl ⟨by rw [HV.out], hb⟩

/-- The rules' closures, by their numbers. -/
def fnK (k : Nat) : Nat := if k = 0 then 101 else if k = 1 then 103 else if k = 2 then 106 else if k = 3 then 109 else 111
theorem rule_any {k : Nat} (hk : k < 5) {l : Lay} {w : World} {g : Nat} (hT : Shapes w) (hL : Lies l w) (hg : Whole w g 29 l.cells) (hO : ∀ x ∈ l.exits, (x.over.length : Int) ≤ 1000) {r : Int × Bool} (hr : ruleV l k = r) :
    Calls Tryz.prog (fnK k) #[.pointer (some ⟨g, 0, none⟩)] w fun e w' => e = .returned (.tuple #[.int .i64 r.1, .bool r.2]) ∧ Below w.heap.size w w' := by
  subst hr
  rcases (show k = 0 ∨ k = 1 ∨ k = 2 ∨ k = 3 ∨ k = 4 by omega) with rfl | rfl | rfl | rfl | rfl
  · exact rule0_any hT hL hg hO
  · exact rule1_any hT hL hg hO
  · exact rule2_any hT hL hg hO
  · exact rule3_any hT hL hg hO
  · exact rule4_any hT hL hg hO
/-- The rules, in a row. -/
def rulesC (g : Nat) : List Value := (List.range 5).map fun k => .func (.func (fnK k)) #[] #[.pointer (some ⟨g, 0, none⟩)]
theorem rulesC_at {g k : Nat} (hk : k < 5) : (rulesC g)[k]? = some (.func (.func (fnK k)) #[] #[.pointer (some ⟨g, 0, none⟩)]) := by
  unfold rulesC
  rw [List.getElem?_map, List.getElem?_range hk]
  rfl
theorem rules_any (l : Lay) (w : World) : Calls Tryz.prog 67 #[l.val] w fun e w' => e = .returned (.slice (some ⟨w.heap.size + 1, 0, none⟩) 5 5) ∧ Whole w' w.heap.size 29 l.cells ∧ Whole w' (w.heap.size + 1) 96 (rulesC w.heap.size) ∧ Below w.heap.size w w' := by
  go_enter Tryz.func67, Tryz.ntmps67
  go_wp2_with fail
  go_ret
  exact ⟨rfl, (Whole.new w _ l.cells).alloc _, Whole.new_at _ _ (rulesC w.heap.size) _ (by simp), below2 _ _ _⟩

set_option maxRecDepth 100000 in
set_option maxHeartbeats 8000000 in
theorem check_any {l : Lay} {w : World} (hT : Shapes w) (hL : Lies l w) {r : Int × Int × Int} (hr : checkV l = r) :
    Calls Tryz.prog 47 #[l.val] w fun e w' => e = .returned (.tuple #[.int .i64 r.1, .int .i64 r.2.1, .int .i64 r.2.2]) ∧ Below w.heap.size w w' := by
  have HTW : Hid (∀ W, Below w.heap.size w W → Shapes W ∧ Lies l W) := Lib.hid fun W hB => ⟨Shapes.closed _ _ hT hB, Lies.closed l _ _ hL hB⟩
  have hB0 := below1 w (.cells #[.slice l.As l.secs.length l.cs, .slice l.Ag l.sigs.length l.cg, .slice l.Ae l.exits.length l.ce, .slice l.Af l.flanks.length l.cf, .int .i64 l.t0, .int .i64 l.t1, .int .i64 l.t2, .int .i64 l.t3, .int .i64 l.t4, .int .i64 l.t5, .int .i64 l.t6] 29)
  have b0 := Whole.new w 29 l.cells
  obtain ⟨rv, hrv⟩ : ∃ rv, rightL l = rv := ⟨_, rfl⟩
  have KR := Lib.hid (rightL_any _ (HTW.out _ hB0).1 (HTW.out _ hB0).2 hrv)
  have HB0 := Lib.hid hB0
  have HRV := Lib.hid hrv
  have HBX := Lib.hid b0
  have HR := Lib.hid hr
  have x0 := b0.cell_at 0 rfl
  have x1 := b0.cell_at 1 rfl
  have x2 := b0.cell_at 2 rfl
  have x3 := b0.cell_at 3 rfl
  have x4 := b0.cell_at 4 rfl
  have x5 := b0.cell_at 5 rfl
  have x6 := b0.cell_at 6 rfl
  have x7 := b0.cell_at 7 rfl
  have x8 := b0.cell_at 8 rfl
  have x9 := b0.cell_at 9 rfl
  have x10 := b0.cell_at 10 rfl
  clear hB0 hT hL hr b0 hrv
  go_enter Tryz.func47, Tryz.ntmps47
  go_wp2_with fail
  refine KR.out.mono ?_
  clear KR x0 x1 x2 x3 x4 x5 x6 x7 x8 x9 x10
  rintro e w1 ⟨rfl, hb1⟩
  have HB1 := Lib.hid (HB0.out.trans (hb1.mono HB0.out.size))
  have b1 := HBX.out.below hb1 HBX.out.lt
  clear hb1 HBX HB0
  cases rv
  · have HV := Lib.hid (check_wrong HRV.out)
    clear b1
    go_wp2_with fail
    refine bodyPost_ret (v := .tuple #[.int .i64 0, .int .i64 0, .int .i64 60]) (by simp [results, Tryz.f47, go_sem]) rfl ⟨by rw [← HR.out, HV.out], HB1.out⟩
  · have HO : Hid (∀ x ∈ l.exits, (x.over.length : Int) ≤ 1000) := Lib.hid fun x hx => by have := (own_lens HRV.out).2.2.2.2 x hx; omega
    have x0 := b1.cell_at 0 rfl
    have x1 := b1.cell_at 1 rfl
    have x2 := b1.cell_at 2 rfl
    have x3 := b1.cell_at 3 rfl
    have x4 := b1.cell_at 4 rfl
    have x5 := b1.cell_at 5 rfl
    have x6 := b1.cell_at 6 rfl
    have x7 := b1.cell_at 7 rfl
    have x8 := b1.cell_at 8 rfl
    have x9 := b1.cell_at 9 rfl
    have x10 := b1.cell_at 10 rfl
    clear b1
    go_wp2_with fail
    refine (rules_any l w1).mono ?_
    clear x0 x1 x2 x3 x4 x5 x6 x7 x8 x9 x10
    rintro e w2 ⟨rfl, hbx, hrow, hb2⟩
    obtain ⟨g, hg⟩ : ∃ g, w1.heap.size = g := ⟨_, rfl⟩
    have HM0 : Hid (Below w.heap.size w w2 ∧ Whole w2 g 29 l.cells ∧ Whole w2 (g + 1) 96 (rulesC g) ∧ ∀ i, i < 0 → (ruleV l i).2 = false) := Lib.hid ⟨HB1.out.trans (hb2.mono HB1.out.size), by rw [← hg]; exact hbx, by rw [← hg]; exact hrow, fun i h => by omega⟩
    rw [hg]
    clear hbx hrow hb2 hg
    go_wp2_with fail
    go_loopw [15] (fun i wr => ∃ j : Nat, j ≤ 5 ∧ i = .int .i64 j ∧ Hid (Below w.heap.size w wr ∧ Whole wr g 29 l.cells ∧ Whole wr (g + 1) 96 (rulesC g) ∧ ∀ i, i < j → (ruleV l i).2 = false)) (fun i _ => 5 - (intOf i).toNat)
    case atStart => exact ⟨0, by omega, rfl, HM0⟩
    case round =>
      clear HM0
      obtain ⟨j, hj, rfl, HM⟩ := hrel
      by_cases hlt : j < 5
      · have hlt' : (j : Int) < 5 := by omega
        obtain ⟨⟨a, bv⟩, hav⟩ : ∃ rr, ruleV l j = rr := ⟨_, rfl⟩
        have KA := Lib.hid (rule_any hlt (HTW.out _ HM.out.1).1 (HTW.out _ HM.out.1).2 HM.out.2.1 HO.out hav)
        have c0 := HM.out.2.2.1.cell_at j (rulesC_at hlt)
        have c1 : wr.cell? ⟨g + 1, 0 + j, none⟩ = some (.func (.func (fnK j)) #[] #[.pointer (some ⟨g, 0, none⟩)]) := by rw [Nat.zero_add]; exact c0
        have HAV := Lib.hid hav
        have hwr : IntKind.i64.wrap ((j : Int) + 1) = (j : Int) + 1 := IntWalk.i64_in _ (by omega)
        clear hav
        have hfn : fnK j = 101 ∨ fnK j = 103 ∨ fnK j = 106 ∨ fnK j = 109 ∨ fnK j = 111 := by
          rcases (show j = 0 ∨ j = 1 ∨ j = 2 ∨ j = 3 ∨ j = 4 by omega) with rfl | rfl | rfl | rfl | rfl
          · exact .inl rfl
          · exact .inr (.inl rfl)
          · exact .inr (.inr (.inl rfl))
          · exact .inr (.inr (.inr (.inl rfl)))
          · exact .inr (.inr (.inr (.inr rfl)))
        rcases hfn with hfn | hfn | hfn | hfn | hfn
        all_goals
          rw [hfn] at c0 c1 KA
          clear hfn
          go_wp2_with fail
          refine KA.out.mono ?_
          clear KA c0 c1
          rintro e w4 ⟨rfl, hb4⟩
          cases bv
          · have HM1 : Hid (Below w.heap.size w w4 ∧ Whole w4 g 29 l.cells ∧ Whole w4 (g + 1) 96 (rulesC g) ∧ ∀ i, i < j + 1 → (ruleV l i).2 = false) := Lib.hid ⟨HM.out.1.trans (hb4.mono HM.out.1.size), HM.out.2.1.below hb4 HM.out.2.1.lt, HM.out.2.2.1.below hb4 HM.out.2.2.1.lt, fun i hi => by
              by_cases e : i = j
              · rw [e, HAV.out]
              · exact HM.out.2.2.2 i (by omega)⟩
            clear HM hb4 HAV
            go_wp2_with fail
            go_roundw
            case rel => exact ⟨j + 1, by omega, by go_num, HM1⟩
            case measure => simp [intOf]; omega
          · have HV : Hid (checkV l = ((j : Int) + 1, a, 90)) := Lib.hid (by rw [check_at HRV.out hlt (by rw [HAV.out]) HM.out.2.2.2, HAV.out])
            have HB := Lib.hid (HM.out.1.trans (hb4.mono HM.out.1.size))
            clear HM hb4 HAV
            go_wp2_with fail
            refine bodyPost_ret (v := .tuple #[.int .i64 ((j : Int) + 1), .int .i64 a, .int .i64 90]) (by simp [results, Tryz.f47, go_sem]) rfl ⟨by rw [← HR.out, HV.out], HB.out⟩
      · obtain rfl : j = 5 := by omega
        have HV := Lib.hid (check_no HRV.out HM.out.2.2.2)
        have HB := Lib.hid HM.out.1
        clear HM
        rw [show ((5 : Nat) : Int) = 5 from rfl]
        go_wp2_with fail
        refine bodyPost_ret (v := .tuple #[.int .i64 0, .int .i64 0, .int .i64 0]) (by simp [results, Tryz.f47, go_sem]) rfl ⟨by rw [← HR.out, HV.out], HB.out⟩

end Go.Proofs.YtlfpkileblmhoaaGreatDoor
