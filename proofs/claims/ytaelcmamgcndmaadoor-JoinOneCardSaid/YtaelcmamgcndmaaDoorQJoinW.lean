/- The document's own layer 7: Great; the law's own ints, two. -/
import Derived.Test.YtaelcmamgcndmaaDoorQB
import Derived.Test.YtaelcmamgcndmaaDoorQC
import Derived.Test.YtaelcmamgcndmaaDoorQJoinH
namespace Go.Proofs.YtaelcmamgcndmaaDoor
open Go.RowKit Go.Shelf
set_option linter.unusedVariables false
set_option linter.unusedSimpArgs false

/-- Too great to be asked? -/
def greatJ (l : Lay) : Bool := ((l.exits.take 21).any fun x => decide (20 < (x.over.length : Int))) || (decide (30 < (l.secs.length : Int)) || (decide (20 < (l.sigs.length : Int)) || (decide (20 < (l.exits.length : Int)) || decide (30 < (l.flanks.length : Int)))))
theorem greatJ_no {l : Lay} (h : greatJ l = false) : l.secs.length ≤ 30 ∧ l.sigs.length ≤ 20 ∧ l.exits.length ≤ 20 ∧ l.flanks.length ≤ 30 ∧ ∀ x ∈ l.exits, x.over.length ≤ 20 := by
  unfold greatJ at h
  simp only [Bool.or_eq_false_iff, decide_eq_false_iff_not] at h
  obtain ⟨h0, h1, h2, h3, h4⟩ := h
  refine ⟨by omega, by omega, by omega, by omega, fun x hx => ?_⟩
  rw [List.take_of_length_le (by omega), List.any_eq_false] at h0
  have := h0 x hx
  rw [decide_eq_true_eq] at this
  omega
section
variable {P : World → Prop} {w : World}
set_option maxRecDepth 100000 in
set_option maxHeartbeats 8000000 in
theorem greatJ_P (hP : Closed P) {l : Lay} (hL : ∀ w, P w → Lies l w) {r : Bool} (hr : greatJ l = r) (h : P w) :
    Calls Tryd.prog 8 #[l.val] w fun e w' => e = .returned (.bool r) ∧ P w' := by
  obtain ⟨Q, HQ, HQp, HQl, hq⟩ := keep_box hP h 29 l.cells
  have hnE := (hL _ h).nE
  have HG := Lib.hid hr
  clear hr
  go_enter Tryd.func8, Tryd.ntmps8
  go_wp2_with fail
  go_loopw [3] (fun i wr => ∃ j : Nat, j ≤ l.exits.length ∧ j ≤ 21 ∧ i = .int .i64 j ∧ Q wr ∧ Hid (NoneUp (fun x : Exm => decide (20 < (x.over.length : Int))) (l.exits.take 21) j))
    (fun i _ => l.exits.length - (intOf i).toNat)
  case atStart => exact ⟨0, by omega, by omega, rfl, hq, Lib.hid (NoneUp.zero _ _)⟩
  case round =>
    clear hq
    obtain ⟨j, hj, hj31, rfl, hq, HNo⟩ := hrel
    have x2 := (HQl.out _ hq).cell_at 2 rfl
    by_cases hlt : j < l.exits.length ∧ j ≤ 20
    · obtain ⟨hlt, h30⟩ := hlt
      have hlt' : (j : Int) < l.exits.length := by omega
      have h30' : (j : Int) ≤ 20 := by omega
      obtain ⟨x, hx⟩ : ∃ x, l.exits[j]? = some x := ⟨_, List.getElem?_eq_getElem hlt⟩
      have HX := Lib.hid hx
      have HX2 : Hid ((l.exits.take 21)[j]? = some x) := Lib.hid (by rw [List.getElem?_take, if_pos (by omega)]; exact hx)
      clear hx
      obtain ⟨b, off, hA, hb, hc0, hc⟩ := (hL _ (HQp.out _ hq)).exits.nth (n := 3) (fun _ => rfl) (by omega) HX.out
      have c2 := hc j x 2 _ HX.out rfl
      rw [hA] at x2
      clear hc0 hc
      by_cases h20 : 20 < (x.over.length : Int)
      · have HF : Hid (true = r) := Lib.hid (by
          rw [← HG.out]
          unfold greatJ
          rw [any_hit HX2.out (by simpa using h20)]
          rfl)
        clear hA
        go_wp2_with fail
        go_ret
        exact ⟨ret_bool HF.out, HQp.out _ hq⟩
      · have HN := Lib.hid (HNo.out.succ HX2.out (decide_eq_false h20))
        have h20' := decide_eq_false h20
        clear h20 hA
        go_wp2_with fail
        go_roundw
        case rel => exact ⟨j + 1, hlt, by omega, by go_num, hq, HN⟩
        case measure => simp [intOf]; omega
    · have hend : (j = l.exits.length) ∨ (j < l.exits.length ∧ j = 21) := by omega
      have HA : Hid (((l.exits.take 21).any fun x => decide (20 < (x.over.length : Int))) = false) := Lib.hid (by
        refine NoneUp.any ?_
        have : (l.exits.take 21).length ≤ j := by rw [List.length_take]; omega
        exact fun i x hi hx => HNo.out i x (by omega) hx)
      have HR : Hid ((decide (30 < (l.secs.length : Int)) || (decide (20 < (l.sigs.length : Int)) || (decide (20 < (l.exits.length : Int)) || decide (30 < (l.flanks.length : Int))))) = r) := Lib.hid (by rw [← HG.out]; unfold greatJ; rw [HA.out]; rfl)
      have hp := HQp.out _ hq
      have hcase : (30 < (l.secs.length : Int)) ∨ (¬ 30 < (l.secs.length : Int) ∧ 20 < (l.sigs.length : Int)) ∨ (¬ 30 < (l.secs.length : Int) ∧ ¬ 20 < (l.sigs.length : Int) ∧ 20 < (l.exits.length : Int)) ∨ (¬ 30 < (l.secs.length : Int) ∧ ¬ 20 < (l.sigs.length : Int) ∧ ¬ 20 < (l.exits.length : Int) ∧ 30 < (l.flanks.length : Int)) ∨ (¬ 30 < (l.secs.length : Int) ∧ ¬ 20 < (l.sigs.length : Int) ∧ ¬ 20 < (l.exits.length : Int) ∧ ¬ 30 < (l.flanks.length : Int)) := by omega
      have x0 := (HQl.out _ hq).cell_at 0 rfl
      have x1 := (HQl.out _ hq).cell_at 1 rfl
      have x3 := (HQl.out _ hq).cell_at 3 rfl
      clear hlt HA HNo HG
      rcases hend with rfl | ⟨hl1, rfl⟩
      · clear hj31
        rcases hcase with h1 | ⟨h1, h2⟩ | ⟨h1, h2, h3⟩ | ⟨h1, h2, h3, h4⟩ | ⟨h1, h2, h3, h4⟩
        · have HF := Lib.hid (HR.out.symm.trans (show _ = true by simp [h1]))
          have d1 := decide_eq_true h1
          clear h1
          go_wp2_with fail
          go_ret
          exact ⟨ret_bool HF.out.symm, hp⟩
        · have HF := Lib.hid (HR.out.symm.trans (show _ = true by simp [h1, h2]))
          have d1 := decide_eq_false h1
          clear h1
          have d2 := decide_eq_true h2
          clear h2
          go_wp2_with fail
          go_ret
          exact ⟨ret_bool HF.out.symm, hp⟩
        · have HF := Lib.hid (HR.out.symm.trans (show _ = true by simp [h1, h2, h3]))
          have d1 := decide_eq_false h1
          clear h1
          have d2 := decide_eq_false h2
          clear h2
          have d3 := decide_eq_true h3
          clear h3
          go_wp2_with fail
          go_ret
          exact ⟨ret_bool HF.out.symm, hp⟩
        · have HF := Lib.hid (HR.out.symm.trans (show _ = true by simp [h1, h2, h3, h4]))
          have d1 := decide_eq_false h1
          clear h1
          have d2 := decide_eq_false h2
          clear h2
          have d3 := decide_eq_false h3
          clear h3
          have d4 := decide_eq_true h4
          clear h4
          go_wp2_with fail
          go_ret
          exact ⟨ret_bool HF.out.symm, hp⟩
        · have HF := Lib.hid (HR.out.symm.trans (show _ = false by simp [h1, h2, h3, h4]))
          have d1 := decide_eq_false h1
          clear h1
          have d2 := decide_eq_false h2
          clear h2
          have d3 := decide_eq_false h3
          clear h3
          have d4 := decide_eq_false h4
          clear h4
          go_wp2_with fail
          go_ret
          exact ⟨ret_bool HF.out.symm, hp⟩
      · have hl1' : (21 : Int) < l.exits.length := by omega
        rw [show ((21 : Nat) : Int) = 21 from rfl]
        rcases hcase with h1 | ⟨h1, h2⟩ | ⟨h1, h2, h3⟩ | ⟨h1, h2, h3, h4⟩ | ⟨h1, h2, h3, h4⟩
        · have HF := Lib.hid (HR.out.symm.trans (show _ = true by simp [h1]))
          have d1 := decide_eq_true h1
          clear h1
          go_wp2_with fail
          go_ret
          exact ⟨ret_bool HF.out.symm, hp⟩
        · have HF := Lib.hid (HR.out.symm.trans (show _ = true by simp [h1, h2]))
          have d1 := decide_eq_false h1
          clear h1
          have d2 := decide_eq_true h2
          clear h2
          go_wp2_with fail
          go_ret
          exact ⟨ret_bool HF.out.symm, hp⟩
        · have HF := Lib.hid (HR.out.symm.trans (show _ = true by simp [h1, h2, h3]))
          have d1 := decide_eq_false h1
          clear h1
          have d2 := decide_eq_false h2
          clear h2
          have d3 := decide_eq_true h3
          clear h3
          go_wp2_with fail
          go_ret
          exact ⟨ret_bool HF.out.symm, hp⟩
        · have HF := Lib.hid (HR.out.symm.trans (show _ = true by simp [h1, h2, h3, h4]))
          have d1 := decide_eq_false h1
          clear h1
          have d2 := decide_eq_false h2
          clear h2
          have d3 := decide_eq_false h3
          clear h3
          have d4 := decide_eq_true h4
          clear h4
          go_wp2_with fail
          go_ret
          exact ⟨ret_bool HF.out.symm, hp⟩
        · have HF := Lib.hid (HR.out.symm.trans (show _ = false by simp [h1, h2, h3, h4]))
          have d1 := decide_eq_false h1
          clear h1
          have d2 := decide_eq_false h2
          clear h2
          have d3 := decide_eq_false h3
          clear h3
          have d4 := decide_eq_false h4
          clear h4
          go_wp2_with fail
          go_ret
          exact ⟨ret_bool HF.out.symm, hp⟩

end

section
variable {P : World → Prop} {w : World}
set_option maxRecDepth 100000 in
set_option maxHeartbeats 8000000 in
theorem intsJ_P {a b : List Int} {A B : Option Addr} (c d m n : Nat) (hA : ∀ w, P w → Row w w.heap.size A (nums .i64 a)) (hB : ∀ w, P w → Row w w.heap.size B (nums .i64 b)) (hP : Closed P) (hm : a.length = m) (hn : b.length = n) (hm1 : m ≤ 1000) {r : Bool} (hr : decide (a = b) = r) (h : P w) :
    Calls Tryd.prog 18 #[.slice A m c, .slice B n d] w fun e w' => e = .returned (.bool r) ∧ P w' := by
  go_enter Tryd.func18, Tryd.ntmps18
  by_cases hmn : m = n
  · subst hmn
    have HR := Lib.hid hr
    clear hr
    go_wp2_with fail
    go_loopw [5] (fun i wr => ∃ j : Nat, j ≤ m ∧ i = .int .i64 (j : Int) ∧ P wr ∧ Hid (∀ k : Nat, k < j → a[k]? = b[k]?))
      (fun i _ => m - (intOf i).toNat)
    case atStart => exact ⟨0, by omega, rfl, h, Lib.hid fun k hk => absurd hk (Nat.not_lt_zero _)⟩
    case round =>
      clear h
      obtain ⟨j, hj, rfl, hp, HE⟩ := hrel
      by_cases hlt : j < m
      · have hlt' : (j : Int) < m := by omega
        obtain ⟨x, hx⟩ : ∃ x, a[j]? = some x := ⟨_, List.getElem?_eq_getElem (by omega)⟩
        obtain ⟨y, hy⟩ : ∃ y, b[j]? = some y := ⟨_, List.getElem?_eq_getElem (by omega)⟩
        have HCX : ∀ w, P w → ∃ ab ao, A = some ⟨ab, ao, none⟩ ∧ w.cell? ⟨ab, ao + j, none⟩ = some (.int .i64 x) := fun w hw => by
          obtain ⟨ab, ao, e, _, hc⟩ := hA w hw (by simp [nums]; omega)
          exact ⟨ab, ao, e, hc j _ (by simp [nums, hx])⟩
        have HCY : ∀ w, P w → ∃ bb bo, B = some ⟨bb, bo, none⟩ ∧ w.cell? ⟨bb, bo + j, none⟩ = some (.int .i64 y) := fun w hw => by
          obtain ⟨bb, bo, e, _, hc⟩ := hB w hw (by simp [nums]; omega)
          exact ⟨bb, bo, e, hc j _ (by simp [nums, hy])⟩
        obtain ⟨ab, ao, rfl, _⟩ := HCX _ hp
        obtain ⟨bb, bo, rfl, _⟩ := HCY _ hp
        have HX : Hid (∀ w, P w → w.cell? ⟨ab, ao + j, none⟩ = some (.int .i64 x)) := Lib.hid fun w hw => by obtain ⟨_, _, e, h⟩ := HCX w hw; cases e; exact h
        have HY : Hid (∀ w, P w → w.cell? ⟨bb, bo + j, none⟩ = some (.int .i64 y)) := Lib.hid fun w hw => by obtain ⟨_, _, e, h⟩ := HCY w hw; cases e; exact h
        have HXY := Lib.hid (And.intro hx hy)
        clear HCX HCY hx hy
        by_cases hxy : x = y
        · subst hxy
          have HN : Hid (∀ k : Nat, k < j + 1 → a[k]? = b[k]?) := Lib.hid fun k hk => by
            by_cases e : k < j
            · exact HE.out k e
            · have : k = j := by omega
              subst this
              rw [HXY.out.1, HXY.out.2]
          have hne : (x != x) = false := by simp
          go_wp2_with fail
          have HPc := Lib.hid hP
          have HBS : Hid (∀ W, Below wr.heap.size wr W → P W) := Lib.hid (fun W hB => HPc.out _ _ hp hB)
          clear hp
          refine region_mix (Below wr.heap.size wr) [(0, false), (1, false), (2, false), (3, false), (4, false), (5, false), (6, false), (7, false), (8, false)] (by kernel_rfl) (by kernel_rfl) (Below wr.heap.size wr) ⟨Closed.below wr, fun _ h => h⟩ (Below.refl _ _).drew ?_
          simp only [pickOps, List.getElem?_cons_zero, List.getElem?_cons_succ]
          repeat (first | (refine mix_skip (by rfl) ?_; simp only [Act.put, List.setIfInBounds_toArray, List.set_cons_zero, List.set_cons_succ]) | (refine mix_read _ (by rfl) (fun W hW => by (have hW := HBS.out W hW; have cx := HX.out _ hW; have cy := HY.out _ hW; go_simp; first | done | with_reducible rfl)) ?_; simp only [Act.put, List.setIfInBounds_toArray, List.set_cons_zero, List.set_cons_succ]))
          refine mix_nil (fun W hW => ?_)
          have hq := HBS.out W hW
          clear hW HBS
          go_wp2_with fail
          go_roundw
          case rel => exact ⟨j + 1, hlt, by go_num, hq, HN⟩
          case measure => simp [intOf]; omega
        · have HF : Hid (false = r) := Lib.hid (by
            rw [← HR.out]
            refine (decide_eq_false fun e => hxy ?_).symm
            subst e
            have := HXY.out
            rw [this.1] at this
            exact Option.some.inj this.2)
          have hne : (x != y) = true := by simp [hxy]
          clear hxy
          go_wp2_with fail
          have HPc := Lib.hid hP
          have HBS : Hid (∀ W, Below wr.heap.size wr W → P W) := Lib.hid (fun W hB => HPc.out _ _ hp hB)
          clear hp
          refine region_mix (Below wr.heap.size wr) [(0, false), (1, false), (2, false), (3, false), (4, false), (5, false), (6, false), (7, false), (8, false)] (by kernel_rfl) (by kernel_rfl) (Below wr.heap.size wr) ⟨Closed.below wr, fun _ h => h⟩ (Below.refl _ _).drew ?_
          simp only [pickOps, List.getElem?_cons_zero, List.getElem?_cons_succ]
          repeat (first | (refine mix_skip (by rfl) ?_; simp only [Act.put, List.setIfInBounds_toArray, List.set_cons_zero, List.set_cons_succ]) | (refine mix_read _ (by rfl) (fun W hW => by (have hW := HBS.out W hW; have cx := HX.out _ hW; have cy := HY.out _ hW; go_simp; first | done | with_reducible rfl)) ?_; simp only [Act.put, List.setIfInBounds_toArray, List.set_cons_zero, List.set_cons_succ]))
          refine mix_nil (fun W hW => ?_)
          have hq := HBS.out W hW
          clear hW HBS
          go_wp2_with fail
          go_ret
          exact ⟨ret_bool HF.out, hq⟩
      · obtain rfl : j = m := by omega
        have HF : Hid (true = r) := Lib.hid (by
          rw [← HR.out]
          refine (decide_eq_true (List.ext_getElem? fun k => ?_)).symm
          by_cases hk : k < j
          · exact HE.out k hk
          · rw [List.getElem?_eq_none (by omega), List.getElem?_eq_none (by omega)])
        go_wp2_with fail
        go_ret
        exact ⟨ret_bool HF.out, hp⟩
  · have HF : Hid (false = r) := Lib.hid (by
      rw [← hr]
      exact (decide_eq_false fun e => hmn (by rw [← hm, ← hn, e])).symm)
    have hmn' : ¬ ((m : Int) = (n : Int)) := by omega
    have hne : ((m : Int) != (n : Int)) = true := by simp [hmn']
    clear hr
    go_wp2_with fail
    go_ret
    exact ⟨ret_bool HF.out, h⟩
end

/-- Two plain sections, one behind the other; the same with a join that goes nowhere good. -/
def twoL (g : Nat) : Lay := ⟨[⟨1, -1, 0, 1, 0, -1, 0, -1, 0, 0, 0⟩, ⟨1, 0, 1, -1, 0, -1, 0, -1, 0, 0, 0⟩], some ⟨g, 0, none⟩, 2, [], none, 0, [], none, 0, [], none, 0, 0, 0, 0, 0, 0, 0, 0⟩
def twoBad (g : Nat) : Lay := ⟨[⟨1, -1, 0, 1, 0, -1, 0, -1, 0, 0, 0⟩, ⟨1, 0, 0, -1, 0, -1, 0, -1, 0, 0, 0⟩], some ⟨g, 0, none⟩, 2, [], none, 0, [], none, 0, [], none, 0, 0, 0, 0, 0, 0, 0, 0⟩
theorem two_lies {g : Nat} {w : World} (h : Whole w g 48 ((twoL g).secs.flatMap Sec.cells)) : Lies (twoL g) w :=
  ⟨h.row h.lt, Row.nil _ _ _, Row.nil _ _ _, Row.nil _ _ _, (fun x hx => by cases hx), (fun x hx => by simp [twoL] at hx; rcases hx with rfl | rfl <;> simp), by simp [twoL], by simp [twoL], by simp [twoL], by simp [twoL], (fun x hx => by cases hx)⟩
theorem bad_lies {g : Nat} {w : World} (h : Whole w g 48 ((twoBad g).secs.flatMap Sec.cells)) : Lies (twoBad g) w :=
  ⟨h.row h.lt, Row.nil _ _ _, Row.nil _ _ _, Row.nil _ _ _, (fun x hx => by cases hx), (fun x hx => by simp [twoBad] at hx; rcases hx with rfl | rfl <;> simp), by simp [twoBad], by simp [twoBad], by simp [twoBad], by simp [twoBad], (fun x hx => by cases hx)⟩
set_option maxRecDepth 100000 in
set_option maxHeartbeats 8000000 in
theorem two_any (w : World) : Calls Tryd.prog 25 #[] w fun e w' => e = .returned (twoL (w.heap.size + 1 + 1)).val ∧ Whole w' (w.heap.size + 1 + 1) 48 ((twoL (w.heap.size + 1 + 1)).secs.flatMap Sec.cells) ∧ Below w.heap.size w w' := by
  go_enter Tryd.func25, Tryd.ntmps25
  go_wp2_with fail
  have hW := fun (o1 o2 : Obj) => ((Whole.new w 29 [.slice (some ⟨w.heap.size + 1 + 1, 0, none⟩) 2 2, .slice none 0 0, .slice none 0 0, .slice none 0 0, .int .i64 0, .int .i64 0, .int .i64 0, .int .i64 0, .int .i64 0, .int .i64 0, .int .i64 0]).alloc o1).alloc o2
  have e0 := fun o1 o2 => (hW o1 o2).cell_at 0 rfl
  have e1 := fun o1 o2 => (hW o1 o2).cell_at 1 rfl
  have e2 := fun o1 o2 => (hW o1 o2).cell_at 2 rfl
  have e3 := fun o1 o2 => (hW o1 o2).cell_at 3 rfl
  have e4 := fun o1 o2 => (hW o1 o2).cell_at 4 rfl
  have e5 := fun o1 o2 => (hW o1 o2).cell_at 5 rfl
  have e6 := fun o1 o2 => (hW o1 o2).cell_at 6 rfl
  have e7 := fun o1 o2 => (hW o1 o2).cell_at 7 rfl
  have e8 := fun o1 o2 => (hW o1 o2).cell_at 8 rfl
  have e9 := fun o1 o2 => (hW o1 o2).cell_at 9 rfl
  have e10 := fun o1 o2 => (hW o1 o2).cell_at 10 rfl
  clear hW
  refine bodyPost_ret (v := (twoL (w.heap.size + 1 + 1)).val) ?_ rfl ⟨rfl, Whole.new_at _ _ [_, _, _, _, _, _, _, _, _, _, _, _, _, _, _, _, _, _, _, _, _, _] _ (by simp), below3 w _ _ _⟩
  simp [results, Tryd.f25, go_sem, twoL, e0, e1, e2, e3, e4, e5, e6, e7, e8, e9, e10]
end Go.Proofs.YtaelcmamgcndmaaDoor
