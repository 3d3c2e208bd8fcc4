/- HeldOrder: for every input the Go function returns true. -/
import Derived.Deep.CutRange
import Derived.RangeFuncNested
import Derived.RangeFuncBound
import Derived.RangeFuncCalls
import Derived.RangeFuncLeaves
import Derived.RangeFuncBox
import Derived.Shelf.Abstract
import Derived.Shelf.RegionOpen
import Derived.WalkKit
import Derived.OwnWalkIn
import Derived.TacticsInMore
import Derived.LoopNIn
import Derived.LoopIn
import Derived.WalkMore
import Derived.Test.YtljpiafopbfdlaaQHlR
import Derived.Test.YtljpiafopbfdlaaQHlJ
import Derived.Test.YtljpiafopbfdlaaQHlS
namespace Go.Proofs.Ytljpiafopbfdlaa
open Go.RowKit Go.Shelf
set_option linter.unusedVariables false
set_option linter.unusedSimpArgs false

theorem keep_hb (h : Hld) (w : World) :
    ∃ Q : World → Prop, Hid (Closed Q) ∧ Hid (∀ W, Q W → Below w.heap.size w W) ∧ Hid (∀ W, Q W → Whole W w.heap.size 28 h.cells) ∧ Hid (∀ n W W', w.heap.size < n → Q W → Below n W W' → Q W') ∧ Q (w.alloc (.cells h.cells.toArray 28)) :=
  ⟨fun W => Below w.heap.size w W ∧ Whole W w.heap.size 28 h.cells, Lib.hid ((Closed.below w).and (Closed.whole _ _ _)), Lib.hid (fun _ h => h.1), Lib.hid (fun _ h => h.2), Lib.hid fun n W W' hn ⟨h1, h2⟩ hb => ⟨h1.trans (hb.mono (Nat.le_of_lt hn)), h2.below hb hn⟩, below1 w _, Whole.new w _ h.cells⟩
theorem secs_take {ss : List (Int × Int × Int)} {j : Nat} {x : Int × Int × Int} (h : ss[j]? = some x) : secsS (ss.take (j + 1)) = secsS (ss.take j) ++ [x.1] := by
  rw [List.take_add_one, h, Option.toList_some]
  simp
theorem filt_len {α : Type} {p : α → Bool} {l : List α} {i : Nat} {x : α} (hx : l[i]? = some x) : ((l.take (i + 1)).filter p).length = ((l.take i).filter p).length + (if p x then 1 else 0) := by
  rw [List.take_add_one, hx, Option.toList_some, List.filter_append, List.length_append]
  cases hp : p x <;> simp [hp]
theorem filt_get {α : Type} {p : α → Bool} {l : List α} {i : Nat} {x : α} (hx : l[i]? = some x) (hp : p x = true) : (l.filter p)[((l.take i).filter p).length]? = some x := by
  have e : l.filter p = (l.take i).filter p ++ (l.drop i).filter p := by rw [← List.filter_append, List.take_append_drop]
  obtain ⟨hi, rfl⟩ := List.getElem?_eq_some_iff.1 hx
  rw [e, List.getElem?_append_right (Nat.le_refl _), Nat.sub_self, List.drop_eq_getElem_cons hi, List.filter_cons_of_pos hp]
  rfl
set_option maxRecDepth 100000 in
set_option maxHeartbeats 32000000 in
theorem heldOrder_walk (HWK : Hid (∀ W, Calls Try.prog 9 #[] W fun e w' => e = .returned (.bool true) ∧ Below W.heap.size W w')) {h : Hld} {w : World} (hl : HLies h w) (hw : HWf h) : Calls Try.prog 5 #[h.val] w fun e w' => e = .returned (.bool true) ∧ Below w.heap.size w w' := by
  obtain ⟨Q, HQ, HQb, HQa, HQB, hq⟩ := keep_hb h w
  obtain ⟨W0, hW0⟩ : ∃ W0, w.alloc (.cells h.cells.toArray 28) = W0 := ⟨_, rfl⟩
  rw [hW0] at hq
  have HW0 := Lib.hid hW0
  have HLh := Lib.hid fun W (hW : Q W) => hl.on (HQb.out W hW)
  obtain ⟨sh, hhs⟩ : ∃ s, h.small = s := ⟨_, rfl⟩
  clear hW0 hl hw
  go_enter Try.func5, Try.ntmps5
  go_upto_region 1 with (fail)
  rw [HW0.out]
  clear HW0
  apply wp_region_lit
  repeat (first | (refine wpList_skip (by rfl) ?_; simp only [Act.put, List.setIfInBounds_toArray, List.set_cons_zero, List.set_cons_succ]) | (refine wpList_read _ (by rfl) (exec_move (by rfl) (by rfl)) ?_; simp only [Act.put, List.setIfInBounds_toArray, List.set_cons_zero, List.set_cons_succ]) | (refine wpList_read _ (by rfl) (exec_hld (by rfl) (by rfl) (HQa.out _ hq)) ?_; simp only [Act.put, List.setIfInBounds_toArray, List.set_cons_zero, List.set_cons_succ]) | (refine wpList_read _ (by rfl) (by (go_simp; first | done | with_reducible rfl)) ?_; simp only [Act.put, List.setIfInBounds_toArray, List.set_cons_zero, List.set_cons_succ]))
  refine wpList_callv (by rfl) (by (go_simp; first | done | rfl)) (great_any (h := h) _ hhs) (fun ygh hygh => ?_)
  simp only [Act.put, List.setIfInBounds_toArray, List.set_cons_zero, List.set_cons_succ]
  replace hq := HQ.out _ _ hq hygh
  clear hygh
  cases sh
  · repeat (first | (refine wpList_skip (by rfl) ?_; simp only [Act.put, List.setIfInBounds_toArray, List.set_cons_zero, List.set_cons_succ]) | (refine wpList_read _ (by rfl) (exec_move (by rfl) (by rfl)) ?_; simp only [Act.put, List.setIfInBounds_toArray, List.set_cons_zero, List.set_cons_succ]) | (refine wpList_read _ (by rfl) (exec_hld (by rfl) (by rfl) (HQa.out _ hq)) ?_; simp only [Act.put, List.setIfInBounds_toArray, List.set_cons_zero, List.set_cons_succ]) | (refine wpList_read _ (by rfl) (by (go_simp; first | done | with_reducible rfl)) ?_; simp only [Act.put, List.setIfInBounds_toArray, List.set_cons_zero, List.set_cons_succ]))
    go_wp2_with fail
    refine (HWK.out _).mono ?_
    rintro e wk ⟨rfl, hwk⟩
    have HB := Lib.hid ((HQb.out _ hq).trans (hwk.mono (HQb.out _ hq).size))
    clear hwk
    go_wp2_with fail
    go_ret
    exact ⟨rfl, HB.out⟩
  have HSh := Lib.hid (small_iff.1 hhs)
  clear hhs
  repeat (first | (refine wpList_skip (by rfl) ?_; simp only [Act.put, List.setIfInBounds_toArray, List.set_cons_zero, List.set_cons_succ]) | (refine wpList_read _ (by rfl) (exec_move (by rfl) (by rfl)) ?_; simp only [Act.put, List.setIfInBounds_toArray, List.set_cons_zero, List.set_cons_succ]) | (refine wpList_read _ (by rfl) (exec_hld (by rfl) (by rfl) (HQa.out _ hq)) ?_; simp only [Act.put, List.setIfInBounds_toArray, List.set_cons_zero, List.set_cons_succ]) | (refine wpList_read _ (by rfl) (by (go_simp; first | done | with_reducible rfl)) ?_; simp only [Act.put, List.setIfInBounds_toArray, List.set_cons_zero, List.set_cons_succ]))
  refine wpList_callx (by rfl) (by (go_simp; first | done | rfl)) (right17_any (HLh.out _ hq) HSh.out) (fun e yrh he => ?_)
  obtain ⟨⟨rh, rfl, hmh, hy⟩⟩ := he
  replace hq := HQ.out _ _ hq hy
  have HIh := Lib.hid hmh
  clear hy hmh
  refine ⟨_, rfl, ?_⟩
  simp only [Act.put, List.setIfInBounds_toArray, List.set_cons_zero, List.set_cons_succ]
  cases rh
  · repeat (first | (refine wpList_skip (by rfl) ?_; simp only [Act.put, List.setIfInBounds_toArray, List.set_cons_zero, List.set_cons_succ]) | (refine wpList_read _ (by rfl) (exec_move (by rfl) (by rfl)) ?_; simp only [Act.put, List.setIfInBounds_toArray, List.set_cons_zero, List.set_cons_succ]) | (refine wpList_read _ (by rfl) (exec_hld (by rfl) (by rfl) (HQa.out _ hq)) ?_; simp only [Act.put, List.setIfInBounds_toArray, List.set_cons_zero, List.set_cons_succ]) | (refine wpList_read _ (by rfl) (by (go_simp; first | done | with_reducible rfl)) ?_; simp only [Act.put, List.setIfInBounds_toArray, List.set_cons_zero, List.set_cons_succ]))
    go_wp2_with fail
    refine (HWK.out _).mono ?_
    rintro e wk ⟨rfl, hwk⟩
    have HB := Lib.hid ((HQb.out _ hq).trans (hwk.mono (HQb.out _ hq).size))
    clear hwk
    go_wp2_with fail
    go_ret
    exact ⟨rfl, HB.out⟩
  have HMh : Hid (MayBe h) := Lib.hid (HIh.out (by first | rfl | trivial))
  repeat (first | (refine wpList_skip (by rfl) ?_; simp only [Act.put, List.setIfInBounds_toArray, List.set_cons_zero, List.set_cons_succ]) | (refine wpList_read _ (by rfl) (exec_move (by rfl) (by rfl)) ?_; simp only [Act.put, List.setIfInBounds_toArray, List.set_cons_zero, List.set_cons_succ]) | (refine wpList_read _ (by rfl) (exec_hld (by rfl) (by rfl) (HQa.out _ hq)) ?_; simp only [Act.put, List.setIfInBounds_toArray, List.set_cons_zero, List.set_cons_succ]) | (refine wpList_read _ (by rfl) (by (go_simp; first | done | with_reducible rfl)) ?_; simp only [Act.put, List.setIfInBounds_toArray, List.set_cons_zero, List.set_cons_succ]))
  obtain ⟨N, hN⟩ : ∃ n, h.p.ss.length = n := ⟨_, rfl⟩
  obtain ⟨g, hg⟩ : ∃ g : Nat, h.gone = (g : Int) := ⟨h.gone.toNat, by have := HMh.out.g0; omega⟩
  have hgN : g ≤ N := by have := HMh.out.g1; omega
  have hgn : h.gn = g := by unfold Hld.gn; rw [hg, hN]; omega
  have HX : Hid (∀ W, Q W → W.cell? ⟨w.heap.size, 3, none⟩ = some (.slice h.p.A N h.p.c) ∧ W.cell? ⟨w.heap.size, 4, none⟩ = some (.slice h.oA h.os.length h.oc) ∧ W.cell? ⟨w.heap.size, 5, none⟩ = some (.slice h.nA h.ns.length h.nc) ∧ W.cell? ⟨w.heap.size, 7, none⟩ = some (.int .i64 (g : Int)) ∧ W.cell? ⟨w.heap.size, 20, none⟩ = some (.bool h.op)) := Lib.hid fun W hW => by
    have m0 := HQa.out W hW
    rw [← hN, ← hg]
    exact ⟨m0.cell_at 3 rfl, m0.cell_at 4 rfl, m0.cell_at 5 rfl, m0.cell_at 7 rfl, m0.cell_at 20 rfl⟩
  have HGN := Lib.hid (And.intro hgn (And.intro hN hg))
  have hN30 : N ≤ 30 := by have := HSh.out.p; omega
  clear hg hgn hN
  go_upto_region 4 with (fail)
  obtain ⟨x3, x4, x5, x7, x20⟩ := HX.out _ hq
  obtain ⟨pl, hpl⟩ : ∃ l, h.p.ss.drop g = l := ⟨_, rfl⟩
  have HPL : Hid (h.path = pl ∧ pl.length = N - g ∧ ∀ i x, pl[i]? = some x → h.p.ss[g + i]? = some x) := Lib.hid ⟨by unfold Hld.path; rw [HGN.out.1, hpl], by rw [← hpl, List.length_drop, HGN.out.2.1], fun i x hx => by rw [← hpl, List.getElem?_drop] at hx; exact hx⟩
  obtain ⟨base, hbase⟩ : ∃ n, yrh.heap.size = n := ⟨_, rfl⟩
  have HBL : Hid (w.heap.size < base) := Lib.hid (by rw [← hbase]; exact (HQa.out _ hq).lt)
  have hsz : base ≤ yrh.heap.size := by omega
  have hos : h.os.length ≤ 20 := HSh.out.o
  obtain ⟨op, hop⟩ : ∃ b, h.op = b := ⟨_, rfl⟩
  rw [hop] at HX x20
  have HOP := Lib.hid hop
  clear hpl hbase hop
  go_wp2_with fail
  go_loopw [3, 4] (fun v k wr => ∃ i : Nat, i ≤ N - g ∧ k = .int .i64 ((g + i : Nat) : Int) ∧ Q wr ∧ base ≤ wr.heap.size ∧ wr.ownsRow base 3 1 v (secsS (pl.take i)).length ((secsS (pl.take i)).flatMap oneC)) (fun _ k _ => N - (intOf k).toNat)
  case atStart => exact ⟨0, by omega, rfl, hq, hsz, World.ownsRow_nil _ _ _ _⟩
  case round =>
    clear hq hsz x3 x4 x5 x7 x20
    obtain ⟨i, hi, rfl, hq, hsz, hown⟩ := hrel
    obtain ⟨x3, x4, x5, x7, x20⟩ := HX.out _ hq
    by_cases hlt : i < N - g
    · have hlt' : ((g + i : Nat) : Int) < (N : Int) := by omega
      obtain ⟨⟨x1, x2, x6⟩, hx⟩ : ∃ x, pl[i]? = some x := ⟨_, List.getElem?_eq_getElem (by rw [HPL.out.2.1]; exact hlt)⟩
      have hss := HPL.out.2.2 _ _ hx
      obtain ⟨b, off, hA, _, hc0, _⟩ := (HLh.out _ hq).pl.row.nth (n := 3) (fun _ => rfl) (by omega) hss
      have c0 := hc0 (g + i) _ _ hss rfl
      have hnx : secsS (pl.take (i + 1)) = secsS (pl.take i) ++ [x1] := secs_take hx
      have hle : (secsS (pl.take i)).length ≤ 1000000 := by simp; omega
      have hb4 := below1 wr (.cells #[.int .i64 x1] 3)
      obtain ⟨v', w', hrun, hown', _, hBl, _⟩ := append_int17 base _ _ _ x1 (wr.alloc (.cells #[.int .i64 x1] 3)) wr.heap.size (owns_keep hown hb4) (Whole.new wr _ (oneC x1)) hle (by simp; omega)
      have HN : Hid (Q w' ∧ base ≤ w'.heap.size ∧ w'.ownsRow base 3 1 v' (secsS (pl.take (i + 1))).length ((secsS (pl.take (i + 1))).flatMap oneC)) := Lib.hid ⟨HQB.out base _ _ HBL.out (HQ.out _ _ hq hb4) hBl, Nat.le_trans (by simp; omega) hBl.size, by rw [hnx, List.length_append, List.flatMap_append]; simpa using hown'⟩
      rw [hA] at x3
      have HA := Lib.hid hA
      clear hx hss hc0 hnx hle hb4 hown hown' hBl hq hA
      go_wp2_with (at_builtin; refine list_append rfl (.tmp 30) (.tmp 38) 32 rfl hrun ?_)
      go_roundw
      case rel => exact ⟨i + 1, by omega, by go_num, HN.out.1, HN.out.2.1, HN.out.2.2⟩
      case measure => simp [intOf]; omega
    · obtain rfl : i = N - g := by omega
      rw [List.take_of_length_le (by rw [HPL.out.2.1]; omega)] at hown
      have hgi : ((g + (N - g) : Nat) : Int) = (N : Int) := by omega
      rw [hgi]
      have hn1 : ¬ (N : Int) < (N : Int) := by omega
      clear hgi hlt hi
      go_wp2_with fail
      go_loopw [3, 5] (fun v k wr => ∃ i : Nat, i ≤ h.os.length ∧ (op = true → i = 0) ∧ k = .int .i64 (i : Int) ∧ Q wr ∧ base ≤ wr.heap.size ∧ wr.ownsRow base 3 1 v (secsS pl ++ secsS (h.os.take i)).length ((secsS pl ++ secsS (h.os.take i)).flatMap oneC)) (fun _ k _ => h.os.length - (intOf k).toNat)
      case atStart => exact ⟨0, by omega, fun _ => rfl, rfl, hq, hsz, by simpa using hown⟩
      case round =>
        clear hq hsz x3 x4 x5 x7 x20 hown
        obtain ⟨i, hi, hio, rfl, hq, hsz, hown⟩ := hrel
        obtain ⟨x3, x4, x5, x7, x20⟩ := HX.out _ hq
        by_cases hlt : i < h.os.length ∧ op = false
        · obtain ⟨hlt, hopf⟩ := hlt
          have hlt' : (i : Int) < (h.os.length : Int) := by omega
          rw [hopf] at x20
          obtain ⟨⟨x1, x2, x6⟩, hx⟩ : ∃ x, h.os[i]? = some x := ⟨_, List.getElem?_eq_getElem hlt⟩
          obtain ⟨b, off, hA, _, hc0, _⟩ := (HLh.out _ hq).orow.nth (n := 3) (fun _ => rfl) (by omega) hx
          have c0 := hc0 i _ _ hx rfl
          have hnx : secsS pl ++ secsS (h.os.take (i + 1)) = (secsS pl ++ secsS (h.os.take i)) ++ [x1] := by rw [secs_take hx, List.append_assoc]
          have hpl2 : pl.length ≤ 30 := by rw [HPL.out.2.1]; omega
          have hle : (secsS pl ++ secsS (h.os.take i)).length ≤ 1000000 := by simp; omega
          have hb4 := below1 wr (.cells #[.int .i64 x1] 3)
          obtain ⟨v', w', hrun, hown', _, hBl, _⟩ := append_int17 base _ _ _ x1 (wr.alloc (.cells #[.int .i64 x1] 3)) wr.heap.size (owns_keep hown hb4) (Whole.new wr _ (oneC x1)) hle (by simp; omega)
          have HN : Hid (Q w' ∧ base ≤ w'.heap.size ∧ w'.ownsRow base 3 1 v' (secsS pl ++ secsS (h.os.take (i + 1))).length ((secsS pl ++ secsS (h.os.take (i + 1))).flatMap oneC)) := Lib.hid ⟨HQB.out base _ _ HBL.out (HQ.out _ _ hq hb4) hBl, Nat.le_trans (by simp; omega) hBl.size, by rw [hnx, List.length_append, List.flatMap_append]; simpa using hown'⟩
          have HOF := Lib.hid hopf
          rw [hA] at x4
          have HA := Lib.hid hA
          clear hx hc0 hnx hle hb4 hown hown' hBl hq hA hopf hpl2 hio
          go_wp2_with (at_builtin; refine list_append rfl (.tmp 52) (.tmp 59) 32 rfl hrun ?_)
          go_roundw
          case rel => exact ⟨i + 1, by omega, fun e => by rw [HOF.out] at e; (cases e), by go_num, HN.out.1, HN.out.2.1, HN.out.2.2⟩
          case measure => simp [intOf]; omega
        · have hwant : secsS pl ++ secsS (h.os.take i) = h.secs := by
            unfold Hld.secs
            rw [HPL.out.1]
            congr 1
            unfold Hld.lap
            rw [HOP.out]
            cases hb : op
            · have : ¬ i < h.os.length := fun e => hlt ⟨e, hb⟩
              rw [if_neg (by simp), List.take_of_length_le (by omega)]
            · rw [hio hb, if_pos rfl]
              rfl
          rw [hwant] at hown
          have hor : ((i : Int) < (h.os.length : Int) ∧ op = true) ∨ ¬ (i : Int) < (h.os.length : Int) := by
            by_cases e : i < h.os.length
            · left
              refine ⟨by omega, ?_⟩
              cases hb : op
              · exact absurd ⟨e, hb⟩ hlt
              · rfl
            · right; omega
          obtain ⟨l, hl⟩ : ∃ l, h.secs = l := ⟨_, rfl⟩
          have HLS := Lib.hid hl
          have hln : l.length ≤ 50 := by rw [← hl]; exact secs_le HSh.out
          rw [hl] at hown
          obtain ⟨Aw, Cw, rfl, hroww, _⟩ := owns_nums rfl hown
          have HRW := Lib.hid hroww
          have HQQ := Lib.hid hq
          clear hwant hlt hown hl hio hi hroww hsz
          rcases hor with ⟨e1, e2⟩ | e1
          · subst e2
            go_upto_region 12 with (fail)
            apply wp_region_lit
            repeat (first | (refine wpList_skip (by rfl) ?_; simp only [Act.put, List.setIfInBounds_toArray, List.set_cons_zero, List.set_cons_succ]) | (refine wpList_read _ (by rfl) (exec_move (by rfl) (by rfl)) ?_; simp only [Act.put, List.setIfInBounds_toArray, List.set_cons_zero, List.set_cons_succ]) | (refine wpList_read _ (by rfl) (exec_hld (by rfl) (by rfl) (HQa.out _ hq)) ?_; simp only [Act.put, List.setIfInBounds_toArray, List.set_cons_zero, List.set_cons_succ]) | (refine wpList_read _ (by rfl) (by (go_simp; first | done | with_reducible rfl)) ?_; simp only [Act.put, List.setIfInBounds_toArray, List.set_cons_zero, List.set_cons_succ]))
            refine wpList_callx (by rfl) (by (go_simp; first | done | rfl)) (Sections_any (HLh.out _ hq) HSh.out) (fun e y4 he => ?_)
            obtain ⟨⟨A, C⟩, rfl, hrow, hy⟩ := he
            replace hq := HQ.out _ _ hq hy
            rw [HLS.out] at hrow
            simp only
            rw [HLS.out]
            have HRA := Lib.hid hrow
            have HRW2 := Lib.hid (HRW.out.on hy)
            refine ⟨_, rfl, ?_⟩
            simp only [Act.put, List.setIfInBounds_toArray, List.set_cons_zero, List.set_cons_succ]
            clear hrow hy x3 x4 x5 x7 x20
            repeat (first | (refine wpList_skip (by rfl) ?_; simp only [Act.put, List.setIfInBounds_toArray, List.set_cons_zero, List.set_cons_succ]) | (refine wpList_read _ (by rfl) (exec_move (by rfl) (by rfl)) ?_; simp only [Act.put, List.setIfInBounds_toArray, List.set_cons_zero, List.set_cons_succ]) | (refine wpList_read _ (by rfl) (exec_hld (by rfl) (by rfl) (HQa.out _ hq)) ?_; simp only [Act.put, List.setIfInBounds_toArray, List.set_cons_zero, List.set_cons_succ]) | (refine wpList_read _ (by rfl) (by (go_simp; first | done | with_reducible rfl)) ?_; simp only [Act.put, List.setIfInBounds_toArray, List.set_cons_zero, List.set_cons_succ]))
            obtain ⟨Q2, HQ2, HQ2q, HQ2r, HQ2s, hq2⟩ : ∃ Q2 : World → Prop, Hid (Closed Q2) ∧ Hid (∀ W, Q2 W → Q W) ∧ Hid (∀ W, Q2 W → Row W W.heap.size A (nums .i64 l)) ∧ Hid (∀ W, Q2 W → Row W W.heap.size Aw (nums .i64 l)) ∧ Q2 y4 := ⟨fun W => Q W ∧ Row W W.heap.size A (nums .i64 l) ∧ Row W W.heap.size Aw (nums .i64 l), Lib.hid (HQ.out.and (Closed.and (fun _ _ h hb => h.on hb) (fun _ _ h hb => h.on hb))), Lib.hid fun _ h => h.1, Lib.hid fun _ h => h.2.1, Lib.hid fun _ h => h.2.2, hq, HRA.out, HRW2.out⟩
            clear hq HRA HRW2 HRW HQQ
            obtain ⟨ov, hov⟩ : ∃ o, h.over = o := ⟨_, rfl⟩
            have HOV := Lib.hid hov
            have hov2 : ((g : Int) == (N : Int)) = ov := by
              rw [← hov]
              unfold Hld.over
              rw [HOP.out, path_len, HGN.out.1, HGN.out.2.1]
              rw [Bool.and_true, Bool.eq_iff_iff, beq_iff_eq, decide_eq_true_eq]; omega
            have HO2 := Lib.hid hov2
            clear hov hov2
            go_wp2_with fail
            have HBS : Hid (∀ W, Below y4.heap.size y4 W → Q2 W) := Lib.hid (fun W hB => HQ2.out _ _ hq2 hB)
            clear hq2
            refine region_mix (Below y4.heap.size y4) [(0, false), (1, false), (2, false), (3, false), (4, false), (5, false), (6, false), (7, false), (8, false), (9, false), (10, false), (11, false), (12, false), (13, false), (14, false), (15, false), (16, false), (17, false), (18, false), (19, false), (20, false)] (by kernel_rfl) (by kernel_rfl) (Below y4.heap.size y4) ⟨Closed.below y4, fun _ h => h⟩ (Below.refl _ _).drew ?_
            simp only [pickOps, List.getElem?_cons_zero, List.getElem?_cons_succ]
            repeat (first | (refine mix_skip (by rfl) ?_; simp only [Act.put, List.setIfInBounds_toArray, List.set_cons_zero, List.set_cons_succ]) | (refine mix_read _ (by rfl) (fun W hW => exec_hld (by rfl) (by rfl) (HQa.out W (HQ2q.out W (HBS.out W hW)))) ?_; simp only [Act.put, List.setIfInBounds_toArray, List.set_cons_zero, List.set_cons_succ]) | (refine mix_read _ (by rfl) (fun W hW => by (obtain ⟨x3, x4, x5, x7, x20⟩ := HX.out W (HQ2q.out W (HBS.out W hW)); have hov2 := HO2.out; clear hW; go_simp; first | done | with_reducible rfl)) ?_; simp only [Act.put, List.setIfInBounds_toArray, List.set_cons_zero, List.set_cons_succ]) | (refine mix_call _ _ _ (by rfl) (fun W hW => by (clear hW; go_simp; first | done | rfl)) (fun W hW => over_any (HLh.out W (HQ2q.out W (HBS.out W hW))).pl.len _ HOV.out) ?_; simp only [Act.put, List.setIfInBounds_toArray, List.set_cons_zero, List.set_cons_succ]))
            refine mix_nil (fun W hW => ?_)
            have hq2 := HBS.out W hW
            clear hW HBS
            have hov2 := HO2.out
            go_wp2_with fail
            go_loopw [7] (fun k wr => ∃ i : Nat, i ≤ l.length ∧ k = .int .i64 (i : Int) ∧ Q2 wr) (fun k _ => l.length - (intOf k).toNat)
            case atStart => exact ⟨0, by omega, rfl, hq2⟩
            case round =>
              clear hq2
              obtain ⟨i, hi, rfl, hq2⟩ := hrel
              by_cases hlt : i < l.length
              · have hlt' : (i : Int) < (l.length : Int) := by omega
                obtain ⟨s, hs⟩ : ∃ s, l[i]? = some s := ⟨_, List.getElem?_eq_getElem hlt⟩
                obtain ⟨b1, o1, hA1, _, _⟩ := (HQ2r.out _ hq2).num hlt
                obtain ⟨b2, o2, hA2, _, _⟩ := (HQ2s.out _ hq2).num hlt
                have HC : Hid (∀ W, Q2 W → W.cell? ⟨b1, o1 + i, none⟩ = some (.int .i64 s) ∧ W.cell? ⟨b2, o2 + i, none⟩ = some (.int .i64 s)) := Lib.hid fun W hW => by
                  obtain ⟨b', o', e, _, h2⟩ := (HQ2r.out _ hW).num hlt
                  obtain ⟨b'', o'', e', _, h3⟩ := (HQ2s.out _ hW).num hlt
                  rw [hA1] at e
                  rw [hA2] at e'
                  cases e
                  cases e'
                  rw [hs] at h2 h3
                  exact ⟨h2, h3⟩
                rw [hA1, hA2]
                have HA := Lib.hid (And.intro hA1 (And.intro hA2 hs))
                clear hA1 hA2 hs
                go_wp2_with fail
                have HBS : Hid (∀ W, Below wr.heap.size wr W → Q2 W) := Lib.hid (fun W hB => HQ2.out _ _ hq2 hB)
                clear hq2
                refine region_mix (Below wr.heap.size wr) [(0, false), (1, false), (2, false), (3, false), (4, false), (5, false), (6, false), (7, false), (8, false)] (by kernel_rfl) (by kernel_rfl) (Below wr.heap.size wr) ⟨Closed.below wr, fun _ h => h⟩ (Below.refl _ _).drew ?_
                simp only [pickOps, List.getElem?_cons_zero, List.getElem?_cons_succ]
                repeat (first | (refine mix_read _ (by rfl) (fun W hW => by (obtain ⟨c1, c2⟩ := HC.out W (HBS.out W hW); clear hW; go_simp; first | done | with_reducible rfl)) ?_; simp only [Act.put, List.setIfInBounds_toArray, List.set_cons_zero, List.set_cons_succ]))
                refine mix_nil (fun W hW => ?_)
                have hq2 := HBS.out W hW
                clear hW HBS HC
                go_wp2_with fail
                go_roundw
                case rel => exact ⟨i + 1, hlt, by go_num, hq2⟩
                case measure => simp [intOf]; omega
              · obtain rfl : i = l.length := by omega
                have hq := HQ2q.out _ hq2
                clear hq2 HQ2 HQ2q HQ2r HQ2s hlt hi hov2 HO2
                go_upto_region 21 with (fail)
                apply wp_region_lit
                repeat (first | (refine wpList_skip (by rfl) ?_; simp only [Act.put, List.setIfInBounds_toArray, List.set_cons_zero, List.set_cons_succ]) | (refine wpList_read _ (by rfl) (exec_move (by rfl) (by rfl)) ?_; simp only [Act.put, List.setIfInBounds_toArray, List.set_cons_zero, List.set_cons_succ]) | (refine wpList_read _ (by rfl) (exec_hld (by rfl) (by rfl) (HQa.out _ hq)) ?_; simp only [Act.put, List.setIfInBounds_toArray, List.set_cons_zero, List.set_cons_succ]) | (refine wpList_read _ (by rfl) (by (go_simp; first | done | with_reducible rfl)) ?_; simp only [Act.put, List.setIfInBounds_toArray, List.set_cons_zero, List.set_cons_succ]))
                refine wpList_callx (by rfl) (by (go_simp; first | done | rfl)) (Needs_any (HLh.out _ hq) HSh.out) (fun e y21 he => ?_)
                obtain ⟨⟨An, Cn⟩, rfl, hrow, hy⟩ := he
                replace hq := HQ.out _ _ hq hy
                refine ⟨_, rfl, ?_⟩
                simp only [Act.put, List.setIfInBounds_toArray, List.set_cons_zero, List.set_cons_succ]
                clear hy
                repeat (first | (refine wpList_skip (by rfl) ?_; simp only [Act.put, List.setIfInBounds_toArray, List.set_cons_zero, List.set_cons_succ]) | (refine wpList_read _ (by rfl) (exec_move (by rfl) (by rfl)) ?_; simp only [Act.put, List.setIfInBounds_toArray, List.set_cons_zero, List.set_cons_succ]) | (refine wpList_read _ (by rfl) (exec_hld (by rfl) (by rfl) (HQa.out _ hq)) ?_; simp only [Act.put, List.setIfInBounds_toArray, List.set_cons_zero, List.set_cons_succ]) | (refine wpList_read _ (by rfl) (by (go_simp; first | done | with_reducible rfl)) ?_; simp only [Act.put, List.setIfInBounds_toArray, List.set_cons_zero, List.set_cons_succ]))
                obtain ⟨nd, hnd⟩ : ∃ l, h.needs = l := ⟨_, rfl⟩
                obtain ⟨ns, hns⟩ : ∃ l, h.ns = l := ⟨_, rfl⟩
                have hnn : ns.length ≤ 60 := by rw [← hns]; exact HSh.out.n
                have HND : Hid (nd = ns.filter h.still) := Lib.hid (by rw [← hnd, ← hns]; rfl)
                have HLN : Hid (∀ W, Q W → Row W W.heap.size h.nA (ns.flatMap needCells)) := Lib.hid fun W hW => by rw [← hns]; exact (HLh.out W hW).nrow
                have HX5 : Hid (∀ W, Q W → W.cell? ⟨w.heap.size, 5, none⟩ = some (.slice h.nA ns.length h.nc)) := Lib.hid fun W hW => by rw [← hns]; exact (HX.out W hW).2.2.1
                simp only at hrow ⊢
                rw [hnd] at hrow ⊢
                obtain ⟨Q3, HQ3, HQ3q, HQ3r, hq3⟩ : ∃ Q3 : World → Prop, Hid (Closed Q3) ∧ Hid (∀ W, Q3 W → Q W) ∧ Hid (∀ W, Q3 W → Row W W.heap.size An (nd.flatMap needCells)) ∧ Q3 y21 := ⟨fun W => Q W ∧ Row W W.heap.size An (nd.flatMap needCells), Lib.hid (HQ.out.and (fun _ _ h hb => h.on hb)), Lib.hid fun _ h => h.1, Lib.hid fun _ h => h.2, hq, hrow⟩
                clear hq hrow hnd hns
                have x5 := HX5.out _ (HQ3q.out _ hq3)
                go_wp2_with fail
                go_loopw [8, 10] (fun k i wr => ∃ j : Nat, j ≤ ns.length ∧ k = .int .i64 (((ns.take j).filter h.still).length : Int) ∧ i = .int .i64 (j : Int) ∧ Q3 wr) (fun _ i _ => ns.length - (intOf i).toNat)
                case atStart => exact ⟨0, by omega, rfl, rfl, hq3⟩
                case round =>
                  clear hq3 x5
                  obtain ⟨j, hj, rfl, rfl, hq3⟩ := hrel
                  have x3 := (HX.out _ (HQ3q.out _ hq3)).1
                  have x7 := (HX.out _ (HQ3q.out _ hq3)).2.2.2.1
                  have x20 := (HX.out _ (HQ3q.out _ hq3)).2.2.2.2
                  have x5 := HX5.out _ (HQ3q.out _ hq3)
                  by_cases hlt : j < ns.length
                  · have hlt' : (j : Int) < (ns.length : Int) := by omega
                    obtain ⟨⟨f1, f2, f3⟩, hx⟩ : ∃ x, ns[j]? = some x := ⟨_, List.getElem?_eq_getElem hlt⟩
                    obtain ⟨b, off, hA, _, hc0, hc⟩ := (HLN.out _ (HQ3q.out _ hq3)).nth (n := 3) (fun _ => rfl) (by omega) hx
                    have c0 := hc0 j _ _ hx rfl
                    have c1 := hc j _ 1 _ hx rfl
                    have c2 := hc j _ 2 _ hx rfl
                    have hb4 := below1 wr (.cells #[.int .i64 f1, .int .i64 f2, .int .i64 f3] 40)
                    have hbx := Whole.new wr 40 [.int .i64 f1, .int .i64 f2, .int .i64 f3]
                    have hq4 := HQ3.out _ _ hq3 hb4
                    have X3 := (HX.out _ (HQ3q.out _ hq4)).1
                    have X7 := (HX.out _ (HQ3q.out _ hq4)).2.2.2.1
                    have X20 := (HX.out _ (HQ3q.out _ hq4)).2.2.2.2
                    have z0 := hbx.cell_at 0 rfl
                    have z1 := hbx.cell_at 1 rfl
                    have z2 := hbx.cell_at 2 rfl
                    have HBX := Lib.hid (And.intro hbx hq4)
                    have HXX := Lib.hid hx
                    obtain ⟨k, hk⟩ : ∃ k, ((ns.take j).filter h.still).length = k := ⟨_, rfl⟩
                    have HNX : Hid (((ns.take (j + 1)).filter h.still).length = k + if h.still (f1, f2, f3) then 1 else 0) := Lib.hid (by rw [filt_len hx, hk])
                    have HGT : Hid (h.still (f1, f2, f3) = true → nd[k]? = some (f1, f2, f3)) := Lib.hid fun e => by rw [HND.out, ← hk]; exact filt_get hx e
                    have HST : Hid (h.still (f1, f2, f3) = (decide ((g : Int) ≤ f3) && !(f3 == (N : Int) && true))) := Lib.hid (by
                      unfold Hld.still
                      rw [HGN.out.2.2, HGN.out.2.1, HOP.out]
                      congr 1
                      rw [decide_eq_decide]
                      show max (g : Int) 0 ≤ f3 ↔ _
                      omega)
                    rw [hk]
                    rw [hA] at x5
                    have HA := Lib.hid hA
                    clear hx hc0 hc hb4 hbx hq4 hk hA hq3
                    by_cases e1 : f3 < (g : Int)
                    · have HN0 : Hid (((ns.take (j + 1)).filter h.still).length = k) := Lib.hid (by rw [HNX.out, HST.out]; simp; omega)
                      go_wp2_with fail
                      go_roundw
                      case rel => exact ⟨j + 1, hlt, by rw [HN0.out], by go_num, HBX.out.2⟩
                      case measure => simp [intOf]; omega
                    · by_cases e2 : f3 = (N : Int)
                      · subst e2
                        have HN0 : Hid (((ns.take (j + 1)).filter h.still).length = k) := Lib.hid (by rw [HNX.out, HST.out]; simp)
                        go_wp2_with fail
                        go_roundw
                        case rel => exact ⟨j + 1, hlt, by rw [HN0.out], by go_num, HBX.out.2⟩
                        case measure => simp [intOf]; omega
                      · have e3 : (f3 == (N : Int)) = false := by simp [e2]
                        have HS1 : Hid (h.still (f1, f2, f3) = true) := Lib.hid (by rw [HST.out]; simp; omega)
                        have hget := HGT.out HS1.out
                        have HN1 : Hid (((ns.take (j + 1)).filter h.still).length = k + 1) := Lib.hid (by rw [HNX.out, HS1.out]; rfl)
                        have hkl : (k : Int) < (nd.length : Int) := by have := (List.getElem?_eq_some_iff.1 hget).1; omega
                        have hkn : ¬ (nd.length : Int) ≤ (k : Int) := by omega
                        have hkn2 : ¬ nd.length ≤ k := by omega
                        have hkn3 : decide (nd.length ≤ k) = false := decide_eq_false hkn2
                        have HG2 := Lib.hid hget
                        obtain ⟨b3, o3, hA3, _, _, _⟩ := (HQ3r.out _ HBX.out.2).nth (n := 3) (fun _ => rfl) (by omega) hget
                        have HC : Hid (∀ W, Q3 W → W.cell? ⟨b3, o3 + k * 3, none⟩ = some (.int .i64 f1) ∧ W.cell? ⟨b3, o3 + k * 3 + 1, none⟩ = some (.int .i64 f2) ∧ W.cell? ⟨b3, o3 + k * 3 + 2, none⟩ = some (.int .i64 f3)) := Lib.hid fun W hW => by
                          obtain ⟨b', o', e, _, hc0, hc⟩ := (HQ3r.out _ hW).nth (n := 3) (fun _ => rfl) (by omega) HG2.out
                          rw [hA3] at e
                          cases e
                          exact ⟨hc0 k _ _ HG2.out rfl, hc k _ 1 _ HG2.out rfl, hc k _ 2 _ HG2.out rfl⟩
                        rw [hA3]
                        have HA3 := Lib.hid hA3
                        have hneq : ∀ W : World, (binOp .neq 40 (stpV f1 f2 f3) (stpV f1 f2 f3)).run Try.prog W = .ok (.bool false) W := fun W => by rw [neq_needD]; simp
                        clear hget hA3
                        go_wp2_with fail
                        obtain ⟨W5, hW5⟩ : ∃ W5, wr.alloc (.cells #[.int .i64 f1, .int .i64 f2, .int .i64 f3] 40) = W5 := ⟨_, rfl⟩
                        have HB5 : Hid (Whole W5 wr.heap.size 40 [.int .i64 f1, .int .i64 f2, .int .i64 f3] ∧ Q3 W5 ∧ wr.heap.size < W5.heap.size) := Lib.hid (by rw [← hW5]; exact ⟨HBX.out.1, HBX.out.2, by simp⟩)
                        rw [hW5]
                        clear hW5 z0 z1 z2 X3 X7 X20 x3 x5 x7 x20 c0 c1 c2
                        have HBS : Hid (∀ W, Below W5.heap.size W5 W → Q3 W ∧ Whole W wr.heap.size 40 [.int .i64 f1, .int .i64 f2, .int .i64 f3]) := Lib.hid fun W hB => ⟨HQ3.out _ _ HB5.out.2.1 hB, HB5.out.1.below hB HB5.out.2.2⟩
                        refine region_mix (Below W5.heap.size W5) [(0, false), (1, false), (2, false), (3, false), (4, false), (5, false), (6, false), (7, false), (8, false), (9, false), (10, false), (11, false)] (by kernel_rfl) (by kernel_rfl) (Below W5.heap.size W5) ⟨Closed.below W5, fun _ h => h⟩ (Below.refl _ _).drew ?_
                        simp only [pickOps, List.getElem?_cons_zero, List.getElem?_cons_succ]
                        repeat (first | (refine mix_skip (by rfl) ?_; simp only [Act.put, List.setIfInBounds_toArray, List.set_cons_zero, List.set_cons_succ]) | (refine mix_read _ (by rfl) (fun W hW => by (obtain ⟨c0, c1, c2⟩ := HC.out W (HBS.out W hW).1; have z0 := (HBS.out W hW).2.cell_at 0 rfl; have z1 := (HBS.out W hW).2.cell_at 1 rfl; have z2 := (HBS.out W hW).2.cell_at 2 rfl; clear hW; go_simp; first | done | with_reducible rfl)) ?_; simp only [Act.put, List.setIfInBounds_toArray, List.set_cons_zero, List.set_cons_succ]))
                        refine mix_nil (fun W hW => ?_)
                        have hq5 := (HBS.out W hW).1
                        clear hW HBS HB5 HC hneq
                        go_wp2_with fail
                        go_roundw
                        case rel =>
                          have hk60 : k < 60 := by
                            have e1 := (List.getElem?_eq_some_iff.1 HG2.out).1
                            have e2 : nd.length ≤ ns.length := by rw [HND.out]; exact List.length_filter_le _ _
                            omega
                          exact ⟨j + 1, hlt, by rw [HN1.out]; exact congrArg (Value.int .i64) (by (try rw [IntWalk.wrap64_in ((k : Int) + 1) (by omega)]); rfl), by go_num, hq5⟩
                        case measure => simp [intOf]; omega
                  · obtain rfl : j = ns.length := by omega
                    have hkk : ((ns.take ns.length).filter h.still).length = nd.length := by rw [List.take_length, ← HND.out]
                    rw [hkk]
                    have hq := HQ3q.out _ hq3
                    clear hkk hq3 hlt hj
                    go_wp2_with fail
                    refine (HWK.out _).mono ?_
                    rintro e wk ⟨rfl, hwk⟩
                    have HB := Lib.hid ((HQb.out _ hq).trans (hwk.mono (HQb.out _ hq).size))
                    clear hwk
                    go_wp2_with fail
                    go_ret
                    exact ⟨rfl, HB.out⟩
          · cases op
            · skip
              go_upto_region 12 with (fail)
              apply wp_region_lit
              repeat (first | (refine wpList_skip (by rfl) ?_; simp only [Act.put, List.setIfInBounds_toArray, List.set_cons_zero, List.set_cons_succ]) | (refine wpList_read _ (by rfl) (exec_move (by rfl) (by rfl)) ?_; simp only [Act.put, List.setIfInBounds_toArray, List.set_cons_zero, List.set_cons_succ]) | (refine wpList_read _ (by rfl) (exec_hld (by rfl) (by rfl) (HQa.out _ hq)) ?_; simp only [Act.put, List.setIfInBounds_toArray, List.set_cons_zero, List.set_cons_succ]) | (refine wpList_read _ (by rfl) (by (go_simp; first | done | with_reducible rfl)) ?_; simp only [Act.put, List.setIfInBounds_toArray, List.set_cons_zero, List.set_cons_succ]))
              refine wpList_callx (by rfl) (by (go_simp; first | done | rfl)) (Sections_any (HLh.out _ hq) HSh.out) (fun e y4 he => ?_)
              obtain ⟨⟨A, C⟩, rfl, hrow, hy⟩ := he
              replace hq := HQ.out _ _ hq hy
              rw [HLS.out] at hrow
              simp only
              rw [HLS.out]
              have HRA := Lib.hid hrow
              have HRW2 := Lib.hid (HRW.out.on hy)
              refine ⟨_, rfl, ?_⟩
              simp only [Act.put, List.setIfInBounds_toArray, List.set_cons_zero, List.set_cons_succ]
              clear hrow hy x3 x4 x5 x7 x20
              repeat (first | (refine wpList_skip (by rfl) ?_; simp only [Act.put, List.setIfInBounds_toArray, List.set_cons_zero, List.set_cons_succ]) | (refine wpList_read _ (by rfl) (exec_move (by rfl) (by rfl)) ?_; simp only [Act.put, List.setIfInBounds_toArray, List.set_cons_zero, List.set_cons_succ]) | (refine wpList_read _ (by rfl) (exec_hld (by rfl) (by rfl) (HQa.out _ hq)) ?_; simp only [Act.put, List.setIfInBounds_toArray, List.set_cons_zero, List.set_cons_succ]) | (refine wpList_read _ (by rfl) (by (go_simp; first | done | with_reducible rfl)) ?_; simp only [Act.put, List.setIfInBounds_toArray, List.set_cons_zero, List.set_cons_succ]))
              obtain ⟨Q2, HQ2, HQ2q, HQ2r, HQ2s, hq2⟩ : ∃ Q2 : World → Prop, Hid (Closed Q2) ∧ Hid (∀ W, Q2 W → Q W) ∧ Hid (∀ W, Q2 W → Row W W.heap.size A (nums .i64 l)) ∧ Hid (∀ W, Q2 W → Row W W.heap.size Aw (nums .i64 l)) ∧ Q2 y4 := ⟨fun W => Q W ∧ Row W W.heap.size A (nums .i64 l) ∧ Row W W.heap.size Aw (nums .i64 l), Lib.hid (HQ.out.and (Closed.and (fun _ _ h hb => h.on hb) (fun _ _ h hb => h.on hb))), Lib.hid fun _ h => h.1, Lib.hid fun _ h => h.2.1, Lib.hid fun _ h => h.2.2, hq, HRA.out, HRW2.out⟩
              clear hq HRA HRW2 HRW HQQ
              obtain ⟨ov, hov⟩ : ∃ o, h.over = o := ⟨_, rfl⟩
              have HOV := Lib.hid hov
              have hov2 : ov = false := by
                rw [← hov]
                unfold Hld.over
                rw [HOP.out, path_len, HGN.out.1, HGN.out.2.1]
                simp
              have HO2 := Lib.hid hov2
              clear hov hov2
              go_wp2_with fail
              have HBS : Hid (∀ W, Below y4.heap.size y4 W → Q2 W) := Lib.hid (fun W hB => HQ2.out _ _ hq2 hB)
              clear hq2
              refine region_mix (Below y4.heap.size y4) [(0, false), (1, false), (2, false), (3, false), (4, false), (5, false), (6, false), (7, false), (8, false), (9, false), (10, false), (11, false), (12, false), (13, false), (14, false), (15, false), (16, false), (17, false), (18, false), (19, false), (20, false)] (by kernel_rfl) (by kernel_rfl) (Below y4.heap.size y4) ⟨Closed.below y4, fun _ h => h⟩ (Below.refl _ _).drew ?_
              simp only [pickOps, List.getElem?_cons_zero, List.getElem?_cons_succ]
              repeat (first | (refine mix_skip (by rfl) ?_; simp only [Act.put, List.setIfInBounds_toArray, List.set_cons_zero, List.set_cons_succ]) | (refine mix_read _ (by rfl) (fun W hW => exec_hld (by rfl) (by rfl) (HQa.out W (HQ2q.out W (HBS.out W hW)))) ?_; simp only [Act.put, List.setIfInBounds_toArray, List.set_cons_zero, List.set_cons_succ]) | (refine mix_read _ (by rfl) (fun W hW => by (obtain ⟨x3, x4, x5, x7, x20⟩ := HX.out W (HQ2q.out W (HBS.out W hW)); have hov2 := HO2.out; clear hW; go_simp; first | done | with_reducible rfl)) ?_; simp only [Act.put, List.setIfInBounds_toArray, List.set_cons_zero, List.set_cons_succ]) | (refine mix_call _ _ _ (by rfl) (fun W hW => by (clear hW; go_simp; first | done | rfl)) (fun W hW => over_any (HLh.out W (HQ2q.out W (HBS.out W hW))).pl.len _ HOV.out) ?_; simp only [Act.put, List.setIfInBounds_toArray, List.set_cons_zero, List.set_cons_succ]))
              refine mix_nil (fun W hW => ?_)
              have hq2 := HBS.out W hW
              clear hW HBS
              have hov2 := HO2.out
              go_wp2_with fail
              go_loopw [7] (fun k wr => ∃ i : Nat, i ≤ l.length ∧ k = .int .i64 (i : Int) ∧ Q2 wr) (fun k _ => l.length - (intOf k).toNat)
              case atStart => exact ⟨0, by omega, rfl, hq2⟩
              case round =>
                clear hq2
                obtain ⟨i, hi, rfl, hq2⟩ := hrel
                by_cases hlt : i < l.length
                · have hlt' : (i : Int) < (l.length : Int) := by omega
                  obtain ⟨s, hs⟩ : ∃ s, l[i]? = some s := ⟨_, List.getElem?_eq_getElem hlt⟩
                  obtain ⟨b1, o1, hA1, _, _⟩ := (HQ2r.out _ hq2).num hlt
                  obtain ⟨b2, o2, hA2, _, _⟩ := (HQ2s.out _ hq2).num hlt
                  have HC : Hid (∀ W, Q2 W → W.cell? ⟨b1, o1 + i, none⟩ = some (.int .i64 s) ∧ W.cell? ⟨b2, o2 + i, none⟩ = some (.int .i64 s)) := Lib.hid fun W hW => by
                    obtain ⟨b', o', e, _, h2⟩ := (HQ2r.out _ hW).num hlt
                    obtain ⟨b'', o'', e', _, h3⟩ := (HQ2s.out _ hW).num hlt
                    rw [hA1] at e
                    rw [hA2] at e'
                    cases e
                    cases e'
                    rw [hs] at h2 h3
                    exact ⟨h2, h3⟩
                  rw [hA1, hA2]
                  have HA := Lib.hid (And.intro hA1 (And.intro hA2 hs))
                  clear hA1 hA2 hs
                  go_wp2_with fail
                  have HBS : Hid (∀ W, Below wr.heap.size wr W → Q2 W) := Lib.hid (fun W hB => HQ2.out _ _ hq2 hB)
                  clear hq2
                  refine region_mix (Below wr.heap.size wr) [(0, false), (1, false), (2, false), (3, false), (4, false), (5, false), (6, false), (7, false), (8, false)] (by kernel_rfl) (by kernel_rfl) (Below wr.heap.size wr) ⟨Closed.below wr, fun _ h => h⟩ (Below.refl _ _).drew ?_
                  simp only [pickOps, List.getElem?_cons_zero, List.getElem?_cons_succ]
                  repeat (first | (refine mix_read _ (by rfl) (fun W hW => by (obtain ⟨c1, c2⟩ := HC.out W (HBS.out W hW); clear hW; go_simp; first | done | with_reducible rfl)) ?_; simp only [Act.put, List.setIfInBounds_toArray, List.set_cons_zero, List.set_cons_succ]))
                  refine mix_nil (fun W hW => ?_)
                  have hq2 := HBS.out W hW
                  clear hW HBS HC
                  go_wp2_with fail
                  go_roundw
                  case rel => exact ⟨i + 1, hlt, by go_num, hq2⟩
                  case measure => simp [intOf]; omega
                · obtain rfl : i = l.length := by omega
                  have hq := HQ2q.out _ hq2
                  clear hq2 HQ2 HQ2q HQ2r HQ2s hlt hi hov2 HO2
                  go_upto_region 21 with (fail)
                  apply wp_region_lit
                  repeat (first | (refine wpList_skip (by rfl) ?_; simp only [Act.put, List.setIfInBounds_toArray, List.set_cons_zero, List.set_cons_succ]) | (refine wpList_read _ (by rfl) (exec_move (by rfl) (by rfl)) ?_; simp only [Act.put, List.setIfInBounds_toArray, List.set_cons_zero, List.set_cons_succ]) | (refine wpList_read _ (by rfl) (exec_hld (by rfl) (by rfl) (HQa.out _ hq)) ?_; simp only [Act.put, List.setIfInBounds_toArray, List.set_cons_zero, List.set_cons_succ]) | (refine wpList_read _ (by rfl) (by (go_simp; first | done | with_reducible rfl)) ?_; simp only [Act.put, List.setIfInBounds_toArray, List.set_cons_zero, List.set_cons_succ]))
                  refine wpList_callx (by rfl) (by (go_simp; first | done | rfl)) (Needs_any (HLh.out _ hq) HSh.out) (fun e y21 he => ?_)
                  obtain ⟨⟨An, Cn⟩, rfl, hrow, hy⟩ := he
                  replace hq := HQ.out _ _ hq hy
                  refine ⟨_, rfl, ?_⟩
                  simp only [Act.put, List.setIfInBounds_toArray, List.set_cons_zero, List.set_cons_succ]
                  clear hy
                  repeat (first | (refine wpList_skip (by rfl) ?_; simp only [Act.put, List.setIfInBounds_toArray, List.set_cons_zero, List.set_cons_succ]) | (refine wpList_read _ (by rfl) (exec_move (by rfl) (by rfl)) ?_; simp only [Act.put, List.setIfInBounds_toArray, List.set_cons_zero, List.set_cons_succ]) | (refine wpList_read _ (by rfl) (exec_hld (by rfl) (by rfl) (HQa.out _ hq)) ?_; simp only [Act.put, List.setIfInBounds_toArray, List.set_cons_zero, List.set_cons_succ]) | (refine wpList_read _ (by rfl) (by (go_simp; first | done | with_reducible rfl)) ?_; simp only [Act.put, List.setIfInBounds_toArray, List.set_cons_zero, List.set_cons_succ]))
                  obtain ⟨nd, hnd⟩ : ∃ l, h.needs = l := ⟨_, rfl⟩
                  obtain ⟨ns, hns⟩ : ∃ l, h.ns = l := ⟨_, rfl⟩
                  have hnn : ns.length ≤ 60 := by rw [← hns]; exact HSh.out.n
                  have HND : Hid (nd = ns.filter h.still) := Lib.hid (by rw [← hnd, ← hns]; rfl)
                  have HLN : Hid (∀ W, Q W → Row W W.heap.size h.nA (ns.flatMap needCells)) := Lib.hid fun W hW => by rw [← hns]; exact (HLh.out W hW).nrow
                  have HX5 : Hid (∀ W, Q W → W.cell? ⟨w.heap.size, 5, none⟩ = some (.slice h.nA ns.length h.nc)) := Lib.hid fun W hW => by rw [← hns]; exact (HX.out W hW).2.2.1
                  simp only at hrow ⊢
                  rw [hnd] at hrow ⊢
                  obtain ⟨Q3, HQ3, HQ3q, HQ3r, hq3⟩ : ∃ Q3 : World → Prop, Hid (Closed Q3) ∧ Hid (∀ W, Q3 W → Q W) ∧ Hid (∀ W, Q3 W → Row W W.heap.size An (nd.flatMap needCells)) ∧ Q3 y21 := ⟨fun W => Q W ∧ Row W W.heap.size An (nd.flatMap needCells), Lib.hid (HQ.out.and (fun _ _ h hb => h.on hb)), Lib.hid fun _ h => h.1, Lib.hid fun _ h => h.2, hq, hrow⟩
                  clear hq hrow hnd hns
                  have x5 := HX5.out _ (HQ3q.out _ hq3)
                  go_wp2_with fail
                  go_loopw [8, 10] (fun k i wr => ∃ j : Nat, j ≤ ns.length ∧ k = .int .i64 (((ns.take j).filter h.still).length : Int) ∧ i = .int .i64 (j : Int) ∧ Q3 wr) (fun _ i _ => ns.length - (intOf i).toNat)
                  case atStart => exact ⟨0, by omega, rfl, rfl, hq3⟩
                  case round =>
                    clear hq3 x5
                    obtain ⟨j, hj, rfl, rfl, hq3⟩ := hrel
                    have x3 := (HX.out _ (HQ3q.out _ hq3)).1
                    have x7 := (HX.out _ (HQ3q.out _ hq3)).2.2.2.1
                    have x20 := (HX.out _ (HQ3q.out _ hq3)).2.2.2.2
                    have x5 := HX5.out _ (HQ3q.out _ hq3)
                    by_cases hlt : j < ns.length
                    · have hlt' : (j : Int) < (ns.length : Int) := by omega
                      obtain ⟨⟨f1, f2, f3⟩, hx⟩ : ∃ x, ns[j]? = some x := ⟨_, List.getElem?_eq_getElem hlt⟩
                      obtain ⟨b, off, hA, _, hc0, hc⟩ := (HLN.out _ (HQ3q.out _ hq3)).nth (n := 3) (fun _ => rfl) (by omega) hx
                      have c0 := hc0 j _ _ hx rfl
                      have c1 := hc j _ 1 _ hx rfl
                      have c2 := hc j _ 2 _ hx rfl
                      have hb4 := below1 wr (.cells #[.int .i64 f1, .int .i64 f2, .int .i64 f3] 40)
                      have hbx := Whole.new wr 40 [.int .i64 f1, .int .i64 f2, .int .i64 f3]
                      have hq4 := HQ3.out _ _ hq3 hb4
                      have X3 := (HX.out _ (HQ3q.out _ hq4)).1
                      have X7 := (HX.out _ (HQ3q.out _ hq4)).2.2.2.1
                      have X20 := (HX.out _ (HQ3q.out _ hq4)).2.2.2.2
                      have z0 := hbx.cell_at 0 rfl
                      have z1 := hbx.cell_at 1 rfl
                      have z2 := hbx.cell_at 2 rfl
                      have HBX := Lib.hid (And.intro hbx hq4)
                      have HXX := Lib.hid hx
                      obtain ⟨k, hk⟩ : ∃ k, ((ns.take j).filter h.still).length = k := ⟨_, rfl⟩
                      have HNX : Hid (((ns.take (j + 1)).filter h.still).length = k + if h.still (f1, f2, f3) then 1 else 0) := Lib.hid (by rw [filt_len hx, hk])
                      have HGT : Hid (h.still (f1, f2, f3) = true → nd[k]? = some (f1, f2, f3)) := Lib.hid fun e => by rw [HND.out, ← hk]; exact filt_get hx e
                      have HST : Hid (h.still (f1, f2, f3) = (decide ((g : Int) ≤ f3) && !(f3 == (N : Int) && false))) := Lib.hid (by
                        unfold Hld.still
                        rw [HGN.out.2.2, HGN.out.2.1, HOP.out]
                        congr 1
                        rw [decide_eq_decide]
                        show max (g : Int) 0 ≤ f3 ↔ _
                        omega)
                      rw [hk]
                      rw [hA] at x5
                      have HA := Lib.hid hA
                      clear hx hc0 hc hb4 hbx hq4 hk hA hq3
                      by_cases e1 : f3 < (g : Int)
                      · have HN0 : Hid (((ns.take (j + 1)).filter h.still).length = k) := Lib.hid (by rw [HNX.out, HST.out]; simp; omega)
                        go_wp2_with fail
                        go_roundw
                        case rel => exact ⟨j + 1, hlt, by rw [HN0.out], by go_num, HBX.out.2⟩
                        case measure => simp [intOf]; omega
                      · by_cases e2 : f3 = (N : Int)
                        · have e3 : (f3 == (N : Int)) = true := by simp [e2]
                          clear e2
                          have HS1 : Hid (h.still (f1, f2, f3) = true) := Lib.hid (by rw [HST.out]; simp; omega)
                          have hget := HGT.out HS1.out
                          have HN1 : Hid (((ns.take (j + 1)).filter h.still).length = k + 1) := Lib.hid (by rw [HNX.out, HS1.out]; rfl)
                          have hkl : (k : Int) < (nd.length : Int) := by have := (List.getElem?_eq_some_iff.1 hget).1; omega
                          have hkn : ¬ (nd.length : Int) ≤ (k : Int) := by omega
                          have hkn2 : ¬ nd.length ≤ k := by omega
                          have hkn3 : decide (nd.length ≤ k) = false := decide_eq_false hkn2
                          have HG2 := Lib.hid hget
                          obtain ⟨b3, o3, hA3, _, _, _⟩ := (HQ3r.out _ HBX.out.2).nth (n := 3) (fun _ => rfl) (by omega) hget
                          have HC : Hid (∀ W, Q3 W → W.cell? ⟨b3, o3 + k * 3, none⟩ = some (.int .i64 f1) ∧ W.cell? ⟨b3, o3 + k * 3 + 1, none⟩ = some (.int .i64 f2) ∧ W.cell? ⟨b3, o3 + k * 3 + 2, none⟩ = some (.int .i64 f3)) := Lib.hid fun W hW => by
                            obtain ⟨b', o', e, _, hc0, hc⟩ := (HQ3r.out _ hW).nth (n := 3) (fun _ => rfl) (by omega) HG2.out
                            rw [hA3] at e
                            cases e
                            exact ⟨hc0 k _ _ HG2.out rfl, hc k _ 1 _ HG2.out rfl, hc k _ 2 _ HG2.out rfl⟩
                          rw [hA3]
                          have HA3 := Lib.hid hA3
                          have hneq : ∀ W : World, (binOp .neq 40 (stpV f1 f2 f3) (stpV f1 f2 f3)).run Try.prog W = .ok (.bool false) W := fun W => by rw [neq_needD]; simp
                          clear hget hA3
                          go_wp2_with fail
                          obtain ⟨W5, hW5⟩ : ∃ W5, wr.alloc (.cells #[.int .i64 f1, .int .i64 f2, .int .i64 f3] 40) = W5 := ⟨_, rfl⟩
                          have HB5 : Hid (Whole W5 wr.heap.size 40 [.int .i64 f1, .int .i64 f2, .int .i64 f3] ∧ Q3 W5 ∧ wr.heap.size < W5.heap.size) := Lib.hid (by rw [← hW5]; exact ⟨HBX.out.1, HBX.out.2, by simp⟩)
                          rw [hW5]
                          clear hW5 z0 z1 z2 X3 X7 X20 x3 x5 x7 x20 c0 c1 c2
                          have HBS : Hid (∀ W, Below W5.heap.size W5 W → Q3 W ∧ Whole W wr.heap.size 40 [.int .i64 f1, .int .i64 f2, .int .i64 f3]) := Lib.hid fun W hB => ⟨HQ3.out _ _ HB5.out.2.1 hB, HB5.out.1.below hB HB5.out.2.2⟩
                          refine region_mix (Below W5.heap.size W5) [(0, false), (1, false), (2, false), (3, false), (4, false), (5, false), (6, false), (7, false), (8, false), (9, false), (10, false), (11, false)] (by kernel_rfl) (by kernel_rfl) (Below W5.heap.size W5) ⟨Closed.below W5, fun _ h => h⟩ (Below.refl _ _).drew ?_
                          simp only [pickOps, List.getElem?_cons_zero, List.getElem?_cons_succ]
                          repeat (first | (refine mix_skip (by rfl) ?_; simp only [Act.put, List.setIfInBounds_toArray, List.set_cons_zero, List.set_cons_succ]) | (refine mix_read _ (by rfl) (fun W hW => by (obtain ⟨c0, c1, c2⟩ := HC.out W (HBS.out W hW).1; have z0 := (HBS.out W hW).2.cell_at 0 rfl; have z1 := (HBS.out W hW).2.cell_at 1 rfl; have z2 := (HBS.out W hW).2.cell_at 2 rfl; clear hW; go_simp; first | done | with_reducible rfl)) ?_; simp only [Act.put, List.setIfInBounds_toArray, List.set_cons_zero, List.set_cons_succ]))
                          refine mix_nil (fun W hW => ?_)
                          have hq5 := (HBS.out W hW).1
                          clear hW HBS HB5 HC hneq
                          go_wp2_with fail
                          go_roundw
                          case rel =>
                            have hk60 : k < 60 := by
                              have e1 := (List.getElem?_eq_some_iff.1 HG2.out).1
                              have e2 : nd.length ≤ ns.length := by rw [HND.out]; exact List.length_filter_le _ _
                              omega
                            exact ⟨j + 1, hlt, by rw [HN1.out]; exact congrArg (Value.int .i64) (by (try rw [IntWalk.wrap64_in ((k : Int) + 1) (by omega)]); rfl), by go_num, hq5⟩
                          case measure => simp [intOf]; omega
                        · have e3 : (f3 == (N : Int)) = false := by simp [e2]
                          have HS1 : Hid (h.still (f1, f2, f3) = true) := Lib.hid (by rw [HST.out]; simp; omega)
                          have hget := HGT.out HS1.out
                          have HN1 : Hid (((ns.take (j + 1)).filter h.still).length = k + 1) := Lib.hid (by rw [HNX.out, HS1.out]; rfl)
                          have hkl : (k : Int) < (nd.length : Int) := by have := (List.getElem?_eq_some_iff.1 hget).1; omega
                          have hkn : ¬ (nd.length : Int) ≤ (k : Int) := by omega
                          have hkn2 : ¬ nd.length ≤ k := by omega
                          have hkn3 : decide (nd.length ≤ k) = false := decide_eq_false hkn2
                          have HG2 := Lib.hid hget
                          obtain ⟨b3, o3, hA3, _, _, _⟩ := (HQ3r.out _ HBX.out.2).nth (n := 3) (fun _ => rfl) (by omega) hget
                          have HC : Hid (∀ W, Q3 W → W.cell? ⟨b3, o3 + k * 3, none⟩ = some (.int .i64 f1) ∧ W.cell? ⟨b3, o3 + k * 3 + 1, none⟩ = some (.int .i64 f2) ∧ W.cell? ⟨b3, o3 + k * 3 + 2, none⟩ = some (.int .i64 f3)) := Lib.hid fun W hW => by
                            obtain ⟨b', o', e, _, hc0, hc⟩ := (HQ3r.out _ hW).nth (n := 3) (fun _ => rfl) (by omega) HG2.out
                            rw [hA3] at e
                            cases e
                            exact ⟨hc0 k _ _ HG2.out rfl, hc k _ 1 _ HG2.out rfl, hc k _ 2 _ HG2.out rfl⟩
                          rw [hA3]
                          have HA3 := Lib.hid hA3
                          have hneq : ∀ W : World, (binOp .neq 40 (stpV f1 f2 f3) (stpV f1 f2 f3)).run Try.prog W = .ok (.bool false) W := fun W => by rw [neq_needD]; simp
                          clear hget hA3
                          go_wp2_with fail
                          obtain ⟨W5, hW5⟩ : ∃ W5, wr.alloc (.cells #[.int .i64 f1, .int .i64 f2, .int .i64 f3] 40) = W5 := ⟨_, rfl⟩
                          have HB5 : Hid (Whole W5 wr.heap.size 40 [.int .i64 f1, .int .i64 f2, .int .i64 f3] ∧ Q3 W5 ∧ wr.heap.size < W5.heap.size) := Lib.hid (by rw [← hW5]; exact ⟨HBX.out.1, HBX.out.2, by simp⟩)
                          rw [hW5]
                          clear hW5 z0 z1 z2 X3 X7 X20 x3 x5 x7 x20 c0 c1 c2
                          have HBS : Hid (∀ W, Below W5.heap.size W5 W → Q3 W ∧ Whole W wr.heap.size 40 [.int .i64 f1, .int .i64 f2, .int .i64 f3]) := Lib.hid fun W hB => ⟨HQ3.out _ _ HB5.out.2.1 hB, HB5.out.1.below hB HB5.out.2.2⟩
                          refine region_mix (Below W5.heap.size W5) [(0, false), (1, false), (2, false), (3, false), (4, false), (5, false), (6, false), (7, false), (8, false), (9, false), (10, false), (11, false)] (by kernel_rfl) (by kernel_rfl) (Below W5.heap.size W5) ⟨Closed.below W5, fun _ h => h⟩ (Below.refl _ _).drew ?_
                          simp only [pickOps, List.getElem?_cons_zero, List.getElem?_cons_succ]
                          repeat (first | (refine mix_skip (by rfl) ?_; simp only [Act.put, List.setIfInBounds_toArray, List.set_cons_zero, List.set_cons_succ]) | (refine mix_read _ (by rfl) (fun W hW => by (obtain ⟨c0, c1, c2⟩ := HC.out W (HBS.out W hW).1; have z0 := (HBS.out W hW).2.cell_at 0 rfl; have z1 := (HBS.out W hW).2.cell_at 1 rfl; have z2 := (HBS.out W hW).2.cell_at 2 rfl; clear hW; go_simp; first | done | with_reducible rfl)) ?_; simp only [Act.put, List.setIfInBounds_toArray, List.set_cons_zero, List.set_cons_succ]))
                          refine mix_nil (fun W hW => ?_)
                          have hq5 := (HBS.out W hW).1
                          clear hW HBS HB5 HC hneq
                          go_wp2_with fail
                          go_roundw
                          case rel =>
                            have hk60 : k < 60 := by
                              have e1 := (List.getElem?_eq_some_iff.1 HG2.out).1
                              have e2 : nd.length ≤ ns.length := by rw [HND.out]; exact List.length_filter_le _ _
                              omega
                            exact ⟨j + 1, hlt, by rw [HN1.out]; exact congrArg (Value.int .i64) (by (try rw [IntWalk.wrap64_in ((k : Int) + 1) (by omega)]); rfl), by go_num, hq5⟩
                          case measure => simp [intOf]; omega
                    · obtain rfl : j = ns.length := by omega
                      have hkk : ((ns.take ns.length).filter h.still).length = nd.length := by rw [List.take_length, ← HND.out]
                      rw [hkk]
                      have hq := HQ3q.out _ hq3
                      clear hkk hq3 hlt hj
                      go_wp2_with fail
                      refine (HWK.out _).mono ?_
                      rintro e wk ⟨rfl, hwk⟩
                      have HB := Lib.hid ((HQb.out _ hq).trans (hwk.mono (HQb.out _ hq).size))
                      clear hwk
                      go_wp2_with fail
                      go_ret
                      exact ⟨rfl, HB.out⟩
            · skip
              go_upto_region 12 with (fail)
              apply wp_region_lit
              repeat (first | (refine wpList_skip (by rfl) ?_; simp only [Act.put, List.setIfInBounds_toArray, List.set_cons_zero, List.set_cons_succ]) | (refine wpList_read _ (by rfl) (exec_move (by rfl) (by rfl)) ?_; simp only [Act.put, List.setIfInBounds_toArray, List.set_cons_zero, List.set_cons_succ]) | (refine wpList_read _ (by rfl) (exec_hld (by rfl) (by rfl) (HQa.out _ hq)) ?_; simp only [Act.put, List.setIfInBounds_toArray, List.set_cons_zero, List.set_cons_succ]) | (refine wpList_read _ (by rfl) (by (go_simp; first | done | with_reducible rfl)) ?_; simp only [Act.put, List.setIfInBounds_toArray, List.set_cons_zero, List.set_cons_succ]))
              refine wpList_callx (by rfl) (by (go_simp; first | done | rfl)) (Sections_any (HLh.out _ hq) HSh.out) (fun e y4 he => ?_)
              obtain ⟨⟨A, C⟩, rfl, hrow, hy⟩ := he
              replace hq := HQ.out _ _ hq hy
              rw [HLS.out] at hrow
              simp only
              rw [HLS.out]
              have HRA := Lib.hid hrow
              have HRW2 := Lib.hid (HRW.out.on hy)
              refine ⟨_, rfl, ?_⟩
              simp only [Act.put, List.setIfInBounds_toArray, List.set_cons_zero, List.set_cons_succ]
              clear hrow hy x3 x4 x5 x7 x20
              repeat (first | (refine wpList_skip (by rfl) ?_; simp only [Act.put, List.setIfInBounds_toArray, List.set_cons_zero, List.set_cons_succ]) | (refine wpList_read _ (by rfl) (exec_move (by rfl) (by rfl)) ?_; simp only [Act.put, List.setIfInBounds_toArray, List.set_cons_zero, List.set_cons_succ]) | (refine wpList_read _ (by rfl) (exec_hld (by rfl) (by rfl) (HQa.out _ hq)) ?_; simp only [Act.put, List.setIfInBounds_toArray, List.set_cons_zero, List.set_cons_succ]) | (refine wpList_read _ (by rfl) (by (go_simp; first | done | with_reducible rfl)) ?_; simp only [Act.put, List.setIfInBounds_toArray, List.set_cons_zero, List.set_cons_succ]))
              obtain ⟨Q2, HQ2, HQ2q, HQ2r, HQ2s, hq2⟩ : ∃ Q2 : World → Prop, Hid (Closed Q2) ∧ Hid (∀ W, Q2 W → Q W) ∧ Hid (∀ W, Q2 W → Row W W.heap.size A (nums .i64 l)) ∧ Hid (∀ W, Q2 W → Row W W.heap.size Aw (nums .i64 l)) ∧ Q2 y4 := ⟨fun W => Q W ∧ Row W W.heap.size A (nums .i64 l) ∧ Row W W.heap.size Aw (nums .i64 l), Lib.hid (HQ.out.and (Closed.and (fun _ _ h hb => h.on hb) (fun _ _ h hb => h.on hb))), Lib.hid fun _ h => h.1, Lib.hid fun _ h => h.2.1, Lib.hid fun _ h => h.2.2, hq, HRA.out, HRW2.out⟩
              clear hq HRA HRW2 HRW HQQ
              obtain ⟨ov, hov⟩ : ∃ o, h.over = o := ⟨_, rfl⟩
              have HOV := Lib.hid hov
              have hov2 : ((g : Int) == (N : Int)) = ov := by
                rw [← hov]
                unfold Hld.over
                rw [HOP.out, path_len, HGN.out.1, HGN.out.2.1]
                rw [Bool.and_true, Bool.eq_iff_iff, beq_iff_eq, decide_eq_true_eq]; omega
              have HO2 := Lib.hid hov2
              clear hov hov2
              go_wp2_with fail
              have HBS : Hid (∀ W, Below y4.heap.size y4 W → Q2 W) := Lib.hid (fun W hB => HQ2.out _ _ hq2 hB)
              clear hq2
              refine region_mix (Below y4.heap.size y4) [(0, false), (1, false), (2, false), (3, false), (4, false), (5, false), (6, false), (7, false), (8, false), (9, false), (10, false), (11, false), (12, false), (13, false), (14, false), (15, false), (16, false), (17, false), (18, false), (19, false), (20, false)] (by kernel_rfl) (by kernel_rfl) (Below y4.heap.size y4) ⟨Closed.below y4, fun _ h => h⟩ (Below.refl _ _).drew ?_
              simp only [pickOps, List.getElem?_cons_zero, List.getElem?_cons_succ]
              repeat (first | (refine mix_skip (by rfl) ?_; simp only [Act.put, List.setIfInBounds_toArray, List.set_cons_zero, List.set_cons_succ]) | (refine mix_read _ (by rfl) (fun W hW => exec_hld (by rfl) (by rfl) (HQa.out W (HQ2q.out W (HBS.out W hW)))) ?_; simp only [Act.put, List.setIfInBounds_toArray, List.set_cons_zero, List.set_cons_succ]) | (refine mix_read _ (by rfl) (fun W hW => by (obtain ⟨x3, x4, x5, x7, x20⟩ := HX.out W (HQ2q.out W (HBS.out W hW)); have hov2 := HO2.out; clear hW; go_simp; first | done | with_reducible rfl)) ?_; simp only [Act.put, List.setIfInBounds_toArray, List.set_cons_zero, List.set_cons_succ]) | (refine mix_call _ _ _ (by rfl) (fun W hW => by (clear hW; go_simp; first | done | rfl)) (fun W hW => over_any (HLh.out W (HQ2q.out W (HBS.out W hW))).pl.len _ HOV.out) ?_; simp only [Act.put, List.setIfInBounds_toArray, List.set_cons_zero, List.set_cons_succ]))
              refine mix_nil (fun W hW => ?_)
              have hq2 := HBS.out W hW
              clear hW HBS
              have hov2 := HO2.out
              go_wp2_with fail
              go_loopw [7] (fun k wr => ∃ i : Nat, i ≤ l.length ∧ k = .int .i64 (i : Int) ∧ Q2 wr) (fun k _ => l.length - (intOf k).toNat)
              case atStart => exact ⟨0, by omega, rfl, hq2⟩
              case round =>
                clear hq2
                obtain ⟨i, hi, rfl, hq2⟩ := hrel
                by_cases hlt : i < l.length
                · have hlt' : (i : Int) < (l.length : Int) := by omega
                  obtain ⟨s, hs⟩ : ∃ s, l[i]? = some s := ⟨_, List.getElem?_eq_getElem hlt⟩
                  obtain ⟨b1, o1, hA1, _, _⟩ := (HQ2r.out _ hq2).num hlt
                  obtain ⟨b2, o2, hA2, _, _⟩ := (HQ2s.out _ hq2).num hlt
                  have HC : Hid (∀ W, Q2 W → W.cell? ⟨b1, o1 + i, none⟩ = some (.int .i64 s) ∧ W.cell? ⟨b2, o2 + i, none⟩ = some (.int .i64 s)) := Lib.hid fun W hW => by
                    obtain ⟨b', o', e, _, h2⟩ := (HQ2r.out _ hW).num hlt
                    obtain ⟨b'', o'', e', _, h3⟩ := (HQ2s.out _ hW).num hlt
                    rw [hA1] at e
                    rw [hA2] at e'
                    cases e
                    cases e'
                    rw [hs] at h2 h3
                    exact ⟨h2, h3⟩
                  rw [hA1, hA2]
                  have HA := Lib.hid (And.intro hA1 (And.intro hA2 hs))
                  clear hA1 hA2 hs
                  go_wp2_with fail
                  have HBS : Hid (∀ W, Below wr.heap.size wr W → Q2 W) := Lib.hid (fun W hB => HQ2.out _ _ hq2 hB)
                  clear hq2
                  refine region_mix (Below wr.heap.size wr) [(0, false), (1, false), (2, false), (3, false), (4, false), (5, false), (6, false), (7, false), (8, false)] (by kernel_rfl) (by kernel_rfl) (Below wr.heap.size wr) ⟨Closed.below wr, fun _ h => h⟩ (Below.refl _ _).drew ?_
                  simp only [pickOps, List.getElem?_cons_zero, List.getElem?_cons_succ]
                  repeat (first | (refine mix_read _ (by rfl) (fun W hW => by (obtain ⟨c1, c2⟩ := HC.out W (HBS.out W hW); clear hW; go_simp; first | done | with_reducible rfl)) ?_; simp only [Act.put, List.setIfInBounds_toArray, List.set_cons_zero, List.set_cons_succ]))
                  refine mix_nil (fun W hW => ?_)
                  have hq2 := HBS.out W hW
                  clear hW HBS HC
                  go_wp2_with fail
                  go_roundw
                  case rel => exact ⟨i + 1, hlt, by go_num, hq2⟩
                  case measure => simp [intOf]; omega
                · obtain rfl : i = l.length := by omega
                  have hq := HQ2q.out _ hq2
                  clear hq2 HQ2 HQ2q HQ2r HQ2s hlt hi hov2 HO2
                  go_upto_region 21 with (fail)
                  apply wp_region_lit
                  repeat (first | (refine wpList_skip (by rfl) ?_; simp only [Act.put, List.setIfInBounds_toArray, List.set_cons_zero, List.set_cons_succ]) | (refine wpList_read _ (by rfl) (exec_move (by rfl) (by rfl)) ?_; simp only [Act.put, List.setIfInBounds_toArray, List.set_cons_zero, List.set_cons_succ]) | (refine wpList_read _ (by rfl) (exec_hld (by rfl) (by rfl) (HQa.out _ hq)) ?_; simp only [Act.put, List.setIfInBounds_toArray, List.set_cons_zero, List.set_cons_succ]) | (refine wpList_read _ (by rfl) (by (go_simp; first | done | with_reducible rfl)) ?_; simp only [Act.put, List.setIfInBounds_toArray, List.set_cons_zero, List.set_cons_succ]))
                  refine wpList_callx (by rfl) (by (go_simp; first | done | rfl)) (Needs_any (HLh.out _ hq) HSh.out) (fun e y21 he => ?_)
                  obtain ⟨⟨An, Cn⟩, rfl, hrow, hy⟩ := he
                  replace hq := HQ.out _ _ hq hy
                  refine ⟨_, rfl, ?_⟩
                  simp only [Act.put, List.setIfInBounds_toArray, List.set_cons_zero, List.set_cons_succ]
                  clear hy
                  repeat (first | (refine wpList_skip (by rfl) ?_; simp only [Act.put, List.setIfInBounds_toArray, List.set_cons_zero, List.set_cons_succ]) | (refine wpList_read _ (by rfl) (exec_move (by rfl) (by rfl)) ?_; simp only [Act.put, List.setIfInBounds_toArray, List.set_cons_zero, List.set_cons_succ]) | (refine wpList_read _ (by rfl) (exec_hld (by rfl) (by rfl) (HQa.out _ hq)) ?_; simp only [Act.put, List.setIfInBounds_toArray, List.set_cons_zero, List.set_cons_succ]) | (refine wpList_read _ (by rfl) (by (go_simp; first | done | with_reducible rfl)) ?_; simp only [Act.put, List.setIfInBounds_toArray, List.set_cons_zero, List.set_cons_succ]))
                  obtain ⟨nd, hnd⟩ : ∃ l, h.needs = l := ⟨_, rfl⟩
                  obtain ⟨ns, hns⟩ : ∃ l, h.ns = l := ⟨_, rfl⟩
                  have hnn : ns.length ≤ 60 := by rw [← hns]; exact HSh.out.n
                  have HND : Hid (nd = ns.filter h.still) := Lib.hid (by rw [← hnd, ← hns]; rfl)
                  have HLN : Hid (∀ W, Q W → Row W W.heap.size h.nA (ns.flatMap needCells)) := Lib.hid fun W hW => by rw [← hns]; exact (HLh.out W hW).nrow
                  have HX5 : Hid (∀ W, Q W → W.cell? ⟨w.heap.size, 5, none⟩ = some (.slice h.nA ns.length h.nc)) := Lib.hid fun W hW => by rw [← hns]; exact (HX.out W hW).2.2.1
                  simp only at hrow ⊢
                  rw [hnd] at hrow ⊢
                  obtain ⟨Q3, HQ3, HQ3q, HQ3r, hq3⟩ : ∃ Q3 : World → Prop, Hid (Closed Q3) ∧ Hid (∀ W, Q3 W → Q W) ∧ Hid (∀ W, Q3 W → Row W W.heap.size An (nd.flatMap needCells)) ∧ Q3 y21 := ⟨fun W => Q W ∧ Row W W.heap.size An (nd.flatMap needCells), Lib.hid (HQ.out.and (fun _ _ h hb => h.on hb)), Lib.hid fun _ h => h.1, Lib.hid fun _ h => h.2, hq, hrow⟩
                  clear hq hrow hnd hns
                  have x5 := HX5.out _ (HQ3q.out _ hq3)
                  go_wp2_with fail
                  go_loopw [8, 10] (fun k i wr => ∃ j : Nat, j ≤ ns.length ∧ k = .int .i64 (((ns.take j).filter h.still).length : Int) ∧ i = .int .i64 (j : Int) ∧ Q3 wr) (fun _ i _ => ns.length - (intOf i).toNat)
                  case atStart => exact ⟨0, by omega, rfl, rfl, hq3⟩
                  case round =>
                    clear hq3 x5
                    obtain ⟨j, hj, rfl, rfl, hq3⟩ := hrel
                    have x3 := (HX.out _ (HQ3q.out _ hq3)).1
                    have x7 := (HX.out _ (HQ3q.out _ hq3)).2.2.2.1
                    have x20 := (HX.out _ (HQ3q.out _ hq3)).2.2.2.2
                    have x5 := HX5.out _ (HQ3q.out _ hq3)
                    by_cases hlt : j < ns.length
                    · have hlt' : (j : Int) < (ns.length : Int) := by omega
                      obtain ⟨⟨f1, f2, f3⟩, hx⟩ : ∃ x, ns[j]? = some x := ⟨_, List.getElem?_eq_getElem hlt⟩
                      obtain ⟨b, off, hA, _, hc0, hc⟩ := (HLN.out _ (HQ3q.out _ hq3)).nth (n := 3) (fun _ => rfl) (by omega) hx
                      have c0 := hc0 j _ _ hx rfl
                      have c1 := hc j _ 1 _ hx rfl
                      have c2 := hc j _ 2 _ hx rfl
                      have hb4 := below1 wr (.cells #[.int .i64 f1, .int .i64 f2, .int .i64 f3] 40)
                      have hbx := Whole.new wr 40 [.int .i64 f1, .int .i64 f2, .int .i64 f3]
                      have hq4 := HQ3.out _ _ hq3 hb4
                      have X3 := (HX.out _ (HQ3q.out _ hq4)).1
                      have X7 := (HX.out _ (HQ3q.out _ hq4)).2.2.2.1
                      have X20 := (HX.out _ (HQ3q.out _ hq4)).2.2.2.2
                      have z0 := hbx.cell_at 0 rfl
                      have z1 := hbx.cell_at 1 rfl
                      have z2 := hbx.cell_at 2 rfl
                      have HBX := Lib.hid (And.intro hbx hq4)
                      have HXX := Lib.hid hx
                      obtain ⟨k, hk⟩ : ∃ k, ((ns.take j).filter h.still).length = k := ⟨_, rfl⟩
                      have HNX : Hid (((ns.take (j + 1)).filter h.still).length = k + if h.still (f1, f2, f3) then 1 else 0) := Lib.hid (by rw [filt_len hx, hk])
                      have HGT : Hid (h.still (f1, f2, f3) = true → nd[k]? = some (f1, f2, f3)) := Lib.hid fun e => by rw [HND.out, ← hk]; exact filt_get hx e
                      have HST : Hid (h.still (f1, f2, f3) = (decide ((g : Int) ≤ f3) && !(f3 == (N : Int) && true))) := Lib.hid (by
                        unfold Hld.still
                        rw [HGN.out.2.2, HGN.out.2.1, HOP.out]
                        congr 1
                        rw [decide_eq_decide]
                        show max (g : Int) 0 ≤ f3 ↔ _
                        omega)
                      rw [hk]
                      rw [hA] at x5
                      have HA := Lib.hid hA
                      clear hx hc0 hc hb4 hbx hq4 hk hA hq3
                      by_cases e1 : f3 < (g : Int)
                      · have HN0 : Hid (((ns.take (j + 1)).filter h.still).length = k) := Lib.hid (by rw [HNX.out, HST.out]; simp; omega)
                        go_wp2_with fail
                        go_roundw
                        case rel => exact ⟨j + 1, hlt, by rw [HN0.out], by go_num, HBX.out.2⟩
                        case measure => simp [intOf]; omega
                      · by_cases e2 : f3 = (N : Int)
                        · subst e2
                          have HN0 : Hid (((ns.take (j + 1)).filter h.still).length = k) := Lib.hid (by rw [HNX.out, HST.out]; simp)
                          go_wp2_with fail
                          go_roundw
                          case rel => exact ⟨j + 1, hlt, by rw [HN0.out], by go_num, HBX.out.2⟩
                          case measure => simp [intOf]; omega
                        · have e3 : (f3 == (N : Int)) = false := by simp [e2]
                          have HS1 : Hid (h.still (f1, f2, f3) = true) := Lib.hid (by rw [HST.out]; simp; omega)
                          have hget := HGT.out HS1.out
                          have HN1 : Hid (((ns.take (j + 1)).filter h.still).length = k + 1) := Lib.hid (by rw [HNX.out, HS1.out]; rfl)
                          have hkl : (k : Int) < (nd.length : Int) := by have := (List.getElem?_eq_some_iff.1 hget).1; omega
                          have hkn : ¬ (nd.length : Int) ≤ (k : Int) := by omega
                          have hkn2 : ¬ nd.length ≤ k := by omega
                          have hkn3 : decide (nd.length ≤ k) = false := decide_eq_false hkn2
                          have HG2 := Lib.hid hget
                          obtain ⟨b3, o3, hA3, _, _, _⟩ := (HQ3r.out _ HBX.out.2).nth (n := 3) (fun _ => rfl) (by omega) hget
                          have HC : Hid (∀ W, Q3 W → W.cell? ⟨b3, o3 + k * 3, none⟩ = some (.int .i64 f1) ∧ W.cell? ⟨b3, o3 + k * 3 + 1, none⟩ = some (.int .i64 f2) ∧ W.cell? ⟨b3, o3 + k * 3 + 2, none⟩ = some (.int .i64 f3)) := Lib.hid fun W hW => by
                            obtain ⟨b', o', e, _, hc0, hc⟩ := (HQ3r.out _ hW).nth (n := 3) (fun _ => rfl) (by omega) HG2.out
                            rw [hA3] at e
                            cases e
                            exact ⟨hc0 k _ _ HG2.out rfl, hc k _ 1 _ HG2.out rfl, hc k _ 2 _ HG2.out rfl⟩
                          rw [hA3]
                          have HA3 := Lib.hid hA3
                          have hneq : ∀ W : World, (binOp .neq 40 (stpV f1 f2 f3) (stpV f1 f2 f3)).run Try.prog W = .ok (.bool false) W := fun W => by rw [neq_needD]; simp
                          clear hget hA3
                          go_wp2_with fail
                          obtain ⟨W5, hW5⟩ : ∃ W5, wr.alloc (.cells #[.int .i64 f1, .int .i64 f2, .int .i64 f3] 40) = W5 := ⟨_, rfl⟩
                          have HB5 : Hid (Whole W5 wr.heap.size 40 [.int .i64 f1, .int .i64 f2, .int .i64 f3] ∧ Q3 W5 ∧ wr.heap.size < W5.heap.size) := Lib.hid (by rw [← hW5]; exact ⟨HBX.out.1, HBX.out.2, by simp⟩)
                          rw [hW5]
                          clear hW5 z0 z1 z2 X3 X7 X20 x3 x5 x7 x20 c0 c1 c2
                          have HBS : Hid (∀ W, Below W5.heap.size W5 W → Q3 W ∧ Whole W wr.heap.size 40 [.int .i64 f1, .int .i64 f2, .int .i64 f3]) := Lib.hid fun W hB => ⟨HQ3.out _ _ HB5.out.2.1 hB, HB5.out.1.below hB HB5.out.2.2⟩
                          refine region_mix (Below W5.heap.size W5) [(0, false), (1, false), (2, false), (3, false), (4, false), (5, false), (6, false), (7, false), (8, false), (9, false), (10, false), (11, false)] (by kernel_rfl) (by kernel_rfl) (Below W5.heap.size W5) ⟨Closed.below W5, fun _ h => h⟩ (Below.refl _ _).drew ?_
                          simp only [pickOps, List.getElem?_cons_zero, List.getElem?_cons_succ]
                          repeat (first | (refine mix_skip (by rfl) ?_; simp only [Act.put, List.setIfInBounds_toArray, List.set_cons_zero, List.set_cons_succ]) | (refine mix_read _ (by rfl) (fun W hW => by (obtain ⟨c0, c1, c2⟩ := HC.out W (HBS.out W hW).1; have z0 := (HBS.out W hW).2.cell_at 0 rfl; have z1 := (HBS.out W hW).2.cell_at 1 rfl; have z2 := (HBS.out W hW).2.cell_at 2 rfl; clear hW; go_simp; first | done | with_reducible rfl)) ?_; simp only [Act.put, List.setIfInBounds_toArray, List.set_cons_zero, List.set_cons_succ]))
                          refine mix_nil (fun W hW => ?_)
                          have hq5 := (HBS.out W hW).1
                          clear hW HBS HB5 HC hneq
                          go_wp2_with fail
                          go_roundw
                          case rel =>
                            have hk60 : k < 60 := by
                              have e1 := (List.getElem?_eq_some_iff.1 HG2.out).1
                              have e2 : nd.length ≤ ns.length := by rw [HND.out]; exact List.length_filter_le _ _
                              omega
                            exact ⟨j + 1, hlt, by rw [HN1.out]; exact congrArg (Value.int .i64) (by (try rw [IntWalk.wrap64_in ((k : Int) + 1) (by omega)]); rfl), by go_num, hq5⟩
                          case measure => simp [intOf]; omega
                    · obtain rfl : j = ns.length := by omega
                      have hkk : ((ns.take ns.length).filter h.still).length = nd.length := by rw [List.take_length, ← HND.out]
                      rw [hkk]
                      have hq := HQ3q.out _ hq3
                      clear hkk hq3 hlt hj
                      go_wp2_with fail
                      refine (HWK.out _).mono ?_
                      rintro e wk ⟨rfl, hwk⟩
                      have HB := Lib.hid ((HQb.out _ hq).trans (hwk.mono (HQb.out _ hq).size))
                      clear hwk
                      go_wp2_with fail
                      go_ret
                      exact ⟨rfl, HB.out⟩

end Go.Proofs.Ytljpiafopbfdlaa
