/- Right: package image, the document's own. The document's own image: Right; every answer of both over a layout that is not too great. -/
import Derived.RangeFuncNested
import Derived.RangeFuncBound
import Derived.RangeFuncCalls
import Derived.RangeFuncLeaves
import Derived.RangeFuncBox
import Derived.Shelf.Abstract
import Derived.Shelf.RegionOpen
import Derived.WalkKit
import Derived.OwnWalkIn
import Derived.TacticsInMore
import Derived.LoopNIn
import Derived.LoopIn
import Derived.WalkMore
import Derived.Deep.CutRange
import Derived.Test.YtniihmafbeplaaaDoorQY
import Derived.Test.YtniihmafbeplaaaDoorQG
namespace Go.Proofs.YtniihmafbeplaaaDoor
open Go.RowKit Go.Shelf
set_option linter.unusedVariables false
set_option linter.unusedSimpArgs false

attribute [local go_sem] Oper.semAt_some

def okC (x : Int) : Bool := decide (0 ≤ x ∧ x ≤ 65535)
def rightI (im : Img) : Bool := okC im.age && im.free.all okC
theorem count_self {x : Int} : countTk x = x ↔ okC x = true := by
  unfold countTk okC
  rw [decide_eq_true_eq]
  omega
theorem count_all : ∀ (xs : List Int), xs = xs.map countTk ↔ xs.all okC = true
  | [] => by simp
  | x :: xs => by
    rw [List.map_cons, List.cons.injEq, List.all_cons, Bool.and_eq_true, ← count_all xs, ← count_self]
    constructor
    · rintro ⟨h1, h2⟩; exact ⟨h1.symm, h2⟩
    · rintro ⟨h1, h2⟩; exact ⟨h1.symm, h2⟩
def updC (fs : List Int) (j : Nat) : List Int := (fs.map countTk).take j ++ fs.drop j
theorem updC_zero (fs : List Int) : updC fs 0 = fs := by simp [updC]
theorem updC_all (fs : List Int) {n : Nat} (h : fs.length = n) : updC fs n = fs.map countTk := by
  unfold updC
  rw [List.take_of_length_le (by rw [List.length_map]; omega), List.drop_eq_nil_of_le (by omega), List.append_nil]
theorem updC_len (fs : List Int) {j : Nat} (hj : j ≤ fs.length) : (updC fs j).length = fs.length := by
  unfold updC
  rw [List.length_append, List.length_take, List.length_drop, List.length_map]
  omega
theorem updC_at {fs : List Int} {j : Nat} {x : Int} (hx : fs[j]? = some x) : (updC fs j)[j]? = some x := by
  have hj := (List.getElem?_eq_some_iff.1 hx).1
  unfold updC
  rw [List.getElem?_append_right (by rw [List.length_take]; omega), List.length_take, List.length_map, Nat.min_eq_left (by omega), Nat.sub_self, List.getElem?_drop, Nat.add_zero]
  exact hx
theorem updC_next {fs : List Int} {j : Nat} {x : Int} (hx : fs[j]? = some x) : (updC fs j).set j (countTk x) = updC fs (j + 1) := by
  have hj := (List.getElem?_eq_some_iff.1 hx).1
  unfold updC
  have hlt : (List.take j (fs.map countTk)).length = j := by rw [List.length_take, List.length_map]; omega
  rw [List.set_append_right _ _ (by omega), hlt, Nat.sub_self, List.drop_eq_getElem_cons hj, List.set_cons_zero, List.take_add_one]
  have : (fs.map countTk)[j]? = some (countTk x) := by rw [List.getElem?_map, hx]; rfl
  rw [this, Option.toList_some, List.append_assoc]
  rfl
theorem exec_arr {xs : List Int} (hi : xs.length = 24) {o : Oper} {a : Act} {x : Operand} (ho : o.op = .load 30 x) {g : Nat} (hx : a.eval x = .pointer (some ⟨g, 0, none⟩)) {W : World} (h : Whole W g 30 (nums .i64 xs)) : (execOp a.eval o).run Tryd.prog W = .ok (.value (.agg (nums .i64 xs).toArray)) W := by
  obtain ⟨d, h1, h2⟩ := arr_desc
  have := run_loadAt_mid W g 0 30 (nums .i64 xs) d (fun j v hv => by rw [Nat.zero_add]; exact h.cell_at j hv) h1 h2 (by rw [nums_length, hi]; exact arr_info)
  unfold execOp
  simp only [ho, hx, Sem.run_bind, this, Result.andThen_ok, Sem.run_pure]
theorem wpList_value {P : Program} {ops : Array Oper} {rest : List Oper} {o : Oper} {a : Act} {w : World} {Q : Exit → Act → World → Prop} (v : Value) (w' : World) (hw : Region.wanted o (yielded ops a.tmps) = true) (hv : (execOp a.eval o).run P w = .ok (.value v) w')
    (h : wpList P ops Q rest (a.put o.dst v) w') : wpList P ops Q (o :: rest) a w :=
  wpList_step fun K hK => by
    rw [if_pos hw]
    unfold Oper.wp
    rw [hv]
    exact hK _ _ h
theorem nums_one (k : IntKind) (xs : List Int) : ∀ v ∈ nums k xs, v.oneCell' = true := by
  intro v hv
  simp only [nums, List.mem_map] at hv
  obtain ⟨z, _, rfl⟩ := hv
  rfl
set_option maxRecDepth 100000 in
set_option maxHeartbeats 32000000 in
theorem RightI_B {im : Img} (hi : im.Wf) {w : World} (h : Tops w) {r : Bool} (hr : rightI im = r) : Calls Tryd.prog 12 #[im.val] w fun e w' => e = .returned (.bool r) ∧ Below w.heap.size w w' := by
  have KS := Lib.hid fun W => sect_any 24 W
  have HR := Lib.hid hr
  clear hr
  refine (callsIn_wide (n := 5)).1 ?_
  refine callsIn_of_wp_marks Tryd.func12 rfl trivial ?_ rfl
  simp only [Tryd.ntmps12, List.size_toArray, List.length_cons, List.length_nil, Nat.reduceAdd, Nat.reduceSub, Array.replicate_succ, Array.replicate_zero, List.push_toArray, List.append_toArray, List.nil_append, List.cons_append]
  refine wpIn_wide.2 ?_
  go_upto_region 1 with (fail)
  have hI := Whole.new w 35 im.cells
  apply wp_region_lit
  repeat (first | (refine wpList_skip (by rfl) ?_; simp only [Act.put, List.setIfInBounds_toArray, List.set_cons_zero, List.set_cons_succ]) | (refine wpList_read _ (by rfl) (exec_rows hi.len (by rfl) (by rfl) hI) ?_; simp only [Act.put, List.setIfInBounds_toArray, List.set_cons_zero, List.set_cons_succ]) | (refine wpList_read _ (by rfl) (by (go_simp; first | done | with_reducible rfl)) ?_; simp only [Act.put, List.setIfInBounds_toArray, List.set_cons_zero, List.set_cons_succ]))
  refine wpList_value (.pointer (some ⟨w.heap.size + 1, 0, none⟩)) ((w.alloc (.cells im.cells.toArray 35)).alloc (.cells #[.int .i64 0, .int .i64 0, .int .i64 0, .int .i64 0, .int .i64 0, .int .i64 0, .int .i64 0, .int .i64 0, .int .i64 0, .int .i64 0, .int .i64 0, .int .i64 0, .int .i64 0, .int .i64 0, .int .i64 0, .int .i64 0, .int .i64 0, .int .i64 0, .int .i64 0, .int .i64 0, .int .i64 0, .int .i64 0, .int .i64 0, .int .i64 0] 30)) (by rfl) (by (go_simp; first | done | rfl)) ?_
  simp only [Act.put, List.setIfInBounds_toArray, List.set_cons_zero, List.set_cons_succ]
  refine wpList_fill _ _ _ rfl rfl (vs := nums .i64 im.free) (by rfl) (by rfl) (Whole.new_at (w.alloc (.cells im.cells.toArray 35)) 30 [.int .i64 0, .int .i64 0, .int .i64 0, .int .i64 0, .int .i64 0, .int .i64 0, .int .i64 0, .int .i64 0, .int .i64 0, .int .i64 0, .int .i64 0, .int .i64 0, .int .i64 0, .int .i64 0, .int .i64 0, .int .i64 0, .int .i64 0, .int .i64 0, .int .i64 0, .int .i64 0, .int .i64 0, .int .i64 0, .int .i64 0, .int .i64 0] (w.heap.size + 1) (by simp)) (by rw [nums_length, hi.len]; rfl) (by rw [nums_length, hi.len]; exact arr_info) (nums_one _ _) (fun W1 hR1 hB1 hO1 => ?_)
  simp only [Act.put, List.setIfInBounds_toArray, List.set_cons_zero, List.set_cons_succ]
  have hI1 : Whole W1 w.heap.size 35 im.cells := (hO1 w.heap.size (by omega)).trans (hI.alloc _)
  have hBw : Below w.heap.size w W1 := (below2 w _ _).trans (hB1 _ (by omega))
  have hTw : Hid (∀ W, Below w.heap.size w W → Tops W) := Lib.hid fun W hW => h.below hW
  have hsz : w.heap.size + 2 ≤ W1.heap.size := by have := hR1.lt; omega
  clear hI hB1 hO1 h
  go_wp2_with fail
  refine (KS.out _).mono ?_
  rintro e w2 ⟨rfl, rfl⟩
  go_wp2_with fail
  obtain ⟨k1, hk1⟩ : ∃ k, W1.heap.size = k := ⟨_, rfl⟩
  obtain ⟨gr, hgr⟩ : ∃ k, w.heap.size + 1 = k := ⟨_, rfl⟩
  obtain ⟨W0, hW0⟩ : ∃ W0, W1.alloc (.cells #[.int .i64 24] 3) = W0 := ⟨_, rfl⟩
  have hs0 : W0.heap.size = k1 + 1 := by rw [← hW0]; simp; omega
  have hbx : Whole W0 k1 3 [.int .i64 ((24 : Nat) : Int)] := by rw [← hW0]; exact Whole.new_at _ _ [_] _ hk1.symm
  have hI0 : Whole W0 w.heap.size 35 im.cells := by rw [← hW0]; exact hI1.alloc _
  have hR0 : Whole W0 gr 30 (nums .i64 im.free) := by rw [← hW0, ← hgr]; exact hR1.alloc _
  have hB0 : Below w.heap.size w W0 := by rw [← hW0]; exact hBw.alloc hBw.size _
  rw [hW0, hk1, hgr]
  have hit := sect_iter (n0 := w.heap.size) (n := 24) hbx (by decide)
  clear hW0 hbx hI1 hR1 hBw
  refine (wpIn_wide (n := 5)).1 ?_
  refine range_iter (gf := 44) rfl (enters_of Tryd.func44 (by kernel_rfl) rfl) hit (Keeps.refl _ _) (fun k hk => by rcases hk with hk | hk <;> omega) (fun _ => rfl) (by omega)
    (fun k => k = gr) (fun k hk => by rintro (h | h) <;> omega) (fun k hk => by omega)
    (fun j W => (Whole W w.heap.size 35 im.cells ∧ Whole W gr 30 (nums .i64 (updC im.free j))) ∧ Below w.heap.size w W)
    (fun cd W => False)
    (OwnFrom.and (OwnFrom.and (Own.from (fun s X Y row hs hg hr => hs.abides hg hr) _) (Own.from (fun s X Y row hs hg hr => hs.abides hg hr) _)) (ownFrom_below (Nat.le_refl _) (by omega)))
    (fun cd => fun s W W' row hs hg hr => hs.elim)
    ⟨⟨hI0, by rw [updC_zero]; exact hR0⟩, hB0⟩
    (fun _ x a' W => a' = { tmps := #[im.val, .pointer (some ⟨w.heap.size, 0, none⟩), .bool false, .pointer (some ⟨gr, 0, none⟩), .int .i64 (x : Nat), .pointer (some ⟨w.heap.size, 1, none⟩), .agg (nums .i64 im.free).toArray, .func (.func 44) #[] #[.pointer (some ⟨k1, 0, none⟩)], .int .i64 (x : Nat), undef, undef, undef, undef, undef, undef, undef, undef, undef, undef, undef, undef, undef, undef, undef, undef, undef, undef], defers := [] })
    (fun _ x a' => ownFrom_pure _ _)
    ?assign ?body ?done ?stop
  case assign =>
    rintro lr j x W K hx hI hK
    gi_wp2_with fail
    exact hK _ _ (Off.refl _ _) hI rfl
  case body =>
    rintro lr j x a' Wb hl hx ⟨⟨hJ1, hJ2⟩, hJ3⟩ rfl
    have hj : j < 24 := by have := (List.getElem?_eq_some_iff.1 hx).1; simpa using this
    obtain rfl : x = j := by rw [range_nth hj] at hx; exact (Option.some.inj hx).symm
    obtain ⟨y, hy⟩ : ∃ y, im.free[x]? = some y := ⟨_, List.getElem?_eq_getElem (by rw [hi.len]; exact hj)⟩
    have hyc : (nums .i64 (updC im.free x))[x]? = some (.int .i64 y) := by simp only [nums, List.getElem?_map]; rw [updC_at hy]; rfl
    obtain ⟨v, hv⟩ : ∃ v, countTk y = v := ⟨_, rfl⟩
    have HNX : Hid ((nums .i64 (updC im.free x)).set x (.int .i64 v) = nums .i64 (updC im.free (x + 1))) := Lib.hid (by rw [← updC_next hy, hv]; simp [nums, List.map_set])
    have KC := Lib.hid (count_B y hv (hTw.out _ hJ3))
    have d0 : (0 : Int) ≤ (x : Int) := by omega
    have d1 : (x : Int) < 24 := by omega
    have c1 := hJ2.cell_at x hyc
    have HBox := Lib.hid (And.intro hJ1 (And.intro hJ2 hJ3))
    have HYC := Lib.hid hyc
    clear hx hy hv hyc hJ1 hJ2 hJ3 hI0 hR0 hB0 hit
    gi_wp2_with fail
    refine ⟨trivial, (CallsIn.inRound _ (callsIn_wide.2 KC.out)).mono ?_⟩
    clear c1 KC
    rintro e X ⟨rfl, hBX⟩
    obtain ⟨hJ1, hJ2, hJ3⟩ := HBox.out
    have hX2 := hJ2.below hBX hJ2.lt
    have c1 := hX2.cell_at x HYC.out
    have f1 := hX2.frozen x
    have HEND : Hid (Off (fun k => k = gr) Wb (X.setCell ⟨gr, x, none⟩ (.int .i64 v)) ∧ ((Whole (X.setCell ⟨gr, x, none⟩ (.int .i64 v)) w.heap.size 35 im.cells ∧ Whole (X.setCell ⟨gr, x, none⟩ (.int .i64 v)) gr 30 (nums .i64 (updC im.free (x + 1)))) ∧ Below w.heap.size w (X.setCell ⟨gr, x, none⟩ (.int .i64 v)))) := Lib.hid (by
      refine ⟨(Off.below hBX).trans (Off.set X (p := ⟨gr, x, none⟩) _ rfl), ⟨(hJ1.below hBX hJ1.lt).far (by show w.heap.size ≠ gr; omega) _, ?_⟩, (hJ3.trans (hBX.mono hJ3.size)).setCell (by show w.heap.size ≤ gr; omega) _⟩
      have := hX2.set x (.int .i64 v)
      rw [HNX.out] at this
      exact this)
    clear hJ1 hJ2 hJ3 hX2 HBox hBX
    gi_wp2_with fail
    exact HEND.out
  case done =>
    rintro D W hD ⟨⟨hJ1, hJ2⟩, hJ3⟩ hK
    rw [List.length_range, updC_all _ hi.len] at hJ2
    have hml : (im.free.map countTk).length = 24 := by rw [List.length_map, hi.len]
    obtain ⟨v, hv⟩ : ∃ v, countTk im.age = v := ⟨_, rfl⟩
    obtain ⟨d, hd⟩ : ∃ d, decide (im.free = im.free.map countTk) = d := ⟨_, rfl⟩
    have HEQ : Hid (∀ W, (binOp .eql 30 (.agg (nums .i64 im.free).toArray) (.agg (nums .i64 (im.free.map countTk)).toArray)).run Tryd.prog W = .ok (.bool d) W) := Lib.hid fun W => by rw [eql_rows W _ _ hi.len hml, hd]
    have KC : Hid (∀ X, Below W.heap.size W X → Calls Tryd.prog 32 #[.int .i64 im.age] X fun e w' => e = .returned (.int .i64 v) ∧ Below X.heap.size X w') := Lib.hid fun X hX => count_B _ hv (hTw.out _ (hJ3.trans (hX.mono hJ3.size)))
    have HF : Hid (∀ X, Below W.heap.size W X → Whole X w.heap.size 35 im.cells ∧ Whole X gr 30 (nums .i64 (im.free.map countTk))) := Lib.hid fun X hX => ⟨hJ1.below hX hJ1.lt, hJ2.below hX hJ2.lt⟩
    have HKX : Hid (∀ X, Below W.heap.size W X → X.heap[D]? = some (.deferred (some [])) ∧ Below w.heap.size w X) := Lib.hid fun X hX => ⟨(hX.block D (Array.getElem?_eq_some_iff.1 hK).1).trans hK, hJ3.trans (hX.mono hJ3.size)⟩
    have HRR : Hid ((decide (im.age = v) && d) = r) := Lib.hid (by
      rw [← HR.out, ← hv, ← hd]
      unfold rightI
      congr 1
      · rw [Bool.eq_iff_iff, decide_eq_true_eq, ← count_self]; exact ⟨Eq.symm, Eq.symm⟩
      · rw [Bool.eq_iff_iff, decide_eq_true_eq, count_all])
    clear hv hd hJ1 hJ2 hJ3 hK hI0 hR0 hB0 hit HR
    by_cases ha : im.age = v
    · have HFIN : Hid (d = r) := Lib.hid (by rw [← HRR.out, decide_eq_true ha]; rfl)
      clear HRR
      go_upto_region 5 with (fail)
      refine region_mix (Below W.heap.size W) [(0, false), (1, false), (2, false), (3, false), (4, false), (5, false), (6, false), (7, false), (8, false), (9, false), (10, false), (11, false), (12, false)] (by kernel_rfl) (by kernel_rfl) (Below W.heap.size W) ⟨Closed.below W, fun _ h => h⟩ (Below.refl _ _).drew ?_
      simp only [pickOps, List.getElem?_cons_zero, List.getElem?_cons_succ]
      repeat (first | (refine mix_skip (by rfl) ?_; simp only [Act.put, List.setIfInBounds_toArray, List.set_cons_zero, List.set_cons_succ]) | (refine mix_read _ (by rfl) (fun X hX => exec_rows hi.len (by rfl) (by rfl) (HF.out X hX).1) ?_; simp only [Act.put, List.setIfInBounds_toArray, List.set_cons_zero, List.set_cons_succ]) | (refine mix_read _ (by rfl) (fun X hX => exec_arr hml (by rfl) (by rfl) (HF.out X hX).2) ?_; simp only [Act.put, List.setIfInBounds_toArray, List.set_cons_zero, List.set_cons_succ]) | (refine mix_read _ (by rfl) (fun X hX => by (have y0 := (HF.out X hX).1.cell_at 0 im.c_age; have hq := HEQ.out; have hae := ha; clear hX; go_simp; first | done | with_reducible rfl)) ?_; simp only [Act.put, List.setIfInBounds_toArray, List.set_cons_zero, List.set_cons_succ]) | (refine mix_call _ _ _ (by rfl) (fun X hX => by (have y0 := (HF.out X hX).1.cell_at 0 im.c_age; clear hX; go_simp; first | done | rfl)) (fun X hX => KC.out X hX) ?_; simp only [Act.put, List.setIfInBounds_toArray, List.set_cons_zero, List.set_cons_succ]))
      refine mix_nil (fun X hX => ?_)
      obtain ⟨hK, hB⟩ := HKX.out X hX
      have HK := Lib.hid hK
      have HB := Lib.hid hB
      clear hX hK hB
      go_wp2_with fail
      refine ⟨by simp, .inl ⟨_, _, rfl, run_takeDeferred HK.out, ?_⟩⟩
      exact ⟨_, results_tmp (t := 2) rfl _ _ _, by rw [← HFIN.out]; rfl, HB.out.trans (belowK_b (w := w) (Nat.le_refl _) X D _ _ (by omega) HK.out rfl rfl)⟩
    · have HFIN : Hid (false = r) := Lib.hid (by rw [← HRR.out, decide_eq_false ha]; rfl)
      have HA : Hid ((im.age == v) = false) := Lib.hid (by simpa using ha)
      clear HRR ha
      go_upto_region 5 with (fail)
      refine region_mix (Below W.heap.size W) [(0, false), (1, false), (2, false), (3, false), (4, false), (5, false), (6, false), (7, false), (8, false), (9, false), (10, false), (11, false), (12, false)] (by kernel_rfl) (by kernel_rfl) (Below W.heap.size W) ⟨Closed.below W, fun _ h => h⟩ (Below.refl _ _).drew ?_
      simp only [pickOps, List.getElem?_cons_zero, List.getElem?_cons_succ]
      repeat (first | (refine mix_skip (by rfl) ?_; simp only [Act.put, List.setIfInBounds_toArray, List.set_cons_zero, List.set_cons_succ]) | (refine mix_read _ (by rfl) (fun X hX => by (have y0 := (HF.out X hX).1.cell_at 0 im.c_age; have ha := HA.out; clear hX; go_simp; first | done | with_reducible rfl)) ?_; simp only [Act.put, List.setIfInBounds_toArray, List.set_cons_zero, List.set_cons_succ]) | (refine mix_call _ _ _ (by rfl) (fun X hX => by (have y0 := (HF.out X hX).1.cell_at 0 im.c_age; clear hX; go_simp; first | done | rfl)) (fun X hX => KC.out X hX) ?_; simp only [Act.put, List.setIfInBounds_toArray, List.set_cons_zero, List.set_cons_succ]))
      refine mix_nil (fun X hX => ?_)
      obtain ⟨hK, hB⟩ := HKX.out X hX
      have HK := Lib.hid hK
      have HB := Lib.hid hB
      clear hX hK hB
      go_wp2_with fail
      refine ⟨by simp, .inl ⟨_, _, rfl, run_takeDeferred HK.out, ?_⟩⟩
      exact ⟨_, results_tmp (t := 2) rfl _ _ _, by rw [← HFIN.out]; rfl, HB.out.trans (belowK_b (w := w) (Nat.le_refl _) X D _ _ (by omega) HK.out rfl rfl)⟩
  case stop =>
    rintro D cc W hD h hK
    exact h.elim

end Go.Proofs.YtniihmafbeplaaaDoor
namespace Go.Proofs.YtniihmafbeplaaaDoor
open Go.RowKit Go.Shelf
set_option linter.unusedVariables false
set_option linter.unusedSimpArgs false

theorem take_all {fs : List Int} {j : Nat} {x : Int} (h : ∀ k y, k < j → fs[k]? = some y → okC y = true) (hx : fs[j]? = some x) (hk : okC x = true) : ∀ k y, k < j + 1 → fs[k]? = some y → okC y = true := by
  intro k y hk' hy
  by_cases e : k = j
  · subst e
    rw [hx] at hy
    cases hy
    exact hk
  · exact h k y (by omega) hy
set_option maxRecDepth 100000 in
set_option maxHeartbeats 8000000 in
theorem RightR_B {im : Img} (hi : im.Wf) {w : World} {r : Bool} (hr : rightI im = r) : Calls Tryd.prog 13 #[im.val] w fun e w' => e = .returned (.bool r) ∧ Below w.heap.size w w' := by
  obtain ⟨Q, HQ, HQb, HQi, hq⟩ := keep_box (Closed.below w) (Below.refl _ w) 35 im.cells
  have HR := Lib.hid hr
  clear hr
  go_enter Tryd.func13, Tryd.ntmps13
  go_wp2_with fail
  go_loopw [3] (fun i wr => ∃ j : Nat, j ≤ 24 ∧ i = .int .i64 j ∧ Q wr ∧ Hid (∀ k y, k < j → im.free[k]? = some y → okC y = true)) (fun i _ => 24 - (intOf i).toNat)
  case atStart => exact ⟨0, by omega, rfl, hq, Lib.hid (fun k y h => by omega)⟩
  case round =>
    clear hq
    obtain ⟨j, hj, rfl, hq, HA⟩ := hrel
    by_cases hlt : j < 24
    · have d0 : (0 : Int) ≤ (j : Int) := by omega
      have d1 : (j : Int) < 24 := by omega
      obtain ⟨y, hy⟩ : ∃ y, im.free[j]? = some y := ⟨_, List.getElem?_eq_getElem (by rw [hi.len]; exact hlt)⟩
      have c1 := (HQi.out _ hq).cell_at _ (im.c_free hy)
      have HY := Lib.hid hy
      have HQ1 := Lib.hid hq
      clear hy hq
      by_cases h0 : y < 0
      · have HF : Hid (false = r) := Lib.hid (by
          rw [← HR.out]
          unfold rightI
          rw [List.all_eq_false.2 ⟨y, List.mem_of_getElem? HY.out, by unfold okC; simp; omega⟩, Bool.and_false])
        go_wp2_with fail
        go_ret
        exact ⟨ret_bool HF.out, HQb.out _ HQ1.out⟩
      · by_cases h1 : 65535 < y
        · have HF : Hid (false = r) := Lib.hid (by
            rw [← HR.out]
            unfold rightI
            rw [List.all_eq_false.2 ⟨y, List.mem_of_getElem? HY.out, by unfold okC; simp; omega⟩, Bool.and_false])
          go_wp2_with fail
          go_ret
          exact ⟨ret_bool HF.out, HQb.out _ HQ1.out⟩
        · have HN := Lib.hid (take_all HA.out HY.out (by unfold okC; rw [decide_eq_true_eq]; omega))
          go_wp2_with fail
          go_roundw
          case rel => exact ⟨j + 1, hlt, by go_num, HQ1.out, HN⟩
          case measure => simp [intOf]; omega
    · obtain rfl : j = 24 := by omega
      have HALL : Hid (im.free.all okC = true) := Lib.hid (by
        rw [List.all_eq_true]
        intro x hx
        obtain ⟨k, hk⟩ := List.mem_iff_getElem?.1 hx
        exact HA.out k x (by have := (List.getElem?_eq_some_iff.1 hk).1; rw [hi.len] at this; exact this) hk)
      have HF : Hid (okC im.age = r) := Lib.hid (by rw [← HR.out]; unfold rightI; rw [HALL.out, Bool.and_true])
      have y0 := (HQi.out _ hq).cell_at 0 im.c_age
      have HB := Lib.hid (HQb.out _ hq)
      clear hq
      by_cases h0 : 0 ≤ im.age
      · by_cases h1 : im.age ≤ 65535
        · have HT : Hid (true = r) := Lib.hid (by rw [← HF.out]; unfold okC; simp [h0, h1])
          go_wp2_with fail
          go_ret
          exact ⟨ret_bool HT.out, HB.out⟩
        · have HT : Hid (false = r) := Lib.hid (by rw [← HF.out]; unfold okC; simp [h0, h1])
          go_wp2_with fail
          go_ret
          exact ⟨ret_bool HT.out, HB.out⟩
      · have HT : Hid (false = r) := Lib.hid (by rw [← HF.out]; unfold okC; simp [h0])
        go_wp2_with fail
        go_ret
        exact ⟨ret_bool HT.out, HB.out⟩

end Go.Proofs.YtniihmafbeplaaaDoor
