/- Package image: New, Take, Pass; the document's own New. Package image: Take, Pass. -/
import Derived.Deep.CutRange
import Derived.Test.YtniihmafbeplaaaDoorQImI
import Derived.Test.YtniihmafbeplaaaDoorQL
namespace Go.Proofs.YtniihmafbeplaaaDoor
open Go.RowKit Go.Shelf
set_option linter.unusedVariables false
set_option linter.unusedSimpArgs false

theorem res_img {fn : Func} {p : Tmp} (h : fn.results = #[.cell p 35]) (tmps : Array Value) {w : World} {g : Nat} {im : Img} (hi : im.free.length = 24) (hp : tmps.getD p undef = .pointer (some ⟨g, 0, none⟩)) (hR : Whole w g 35 im.cells) : (results fn tmps).run Tryd.prog w = .ok (.agg im.cells.toArray) w :=
  results_cell_row h tmps w g _ _ (0, 0) _ hp hR Tryd.underlying35 rfl (by rw [List.size_toArray, Img.size _ hi]; exact img_info)
/-- What the field tells. -/
structure Inn where
  o : Int
  n : Int
  r : Int
  p : Int
abbrev Inn.cells (x : Inn) : List Value := [.int .u32 x.o, .int .u32 x.n, .int .u32 x.r, .int .u32 x.p]
abbrev Inn.val (x : Inn) : Value := .agg #[.int .u32 x.o, .int .u32 x.n, .int .u32 x.r, .int .u32 x.p]
structure Inn.Wf (x : Inn) : Prop where
  o : 0 ≤ x.o ∧ x.o ≤ 4294967295
  n : 0 ≤ x.n ∧ x.n ≤ 4294967295
  r : 0 ≤ x.r ∧ x.r ≤ 4294967295
  p : 0 ≤ x.p ∧ x.p ≤ 4294967295
def Img.told (im : Img) (x : Inn) : Img := { im with o := x.o, n := x.n, r := x.r, p := x.p }
def Img.aged (im : Img) (a : Int) : Img := { im with age := a }
def Img.inn (im : Img) : Inn := ⟨im.o, im.n, im.r, im.p⟩
theorem Img.told_wf {im : Img} (hi : im.Wf) {x : Inn} (hx : x.Wf) : (im.told x).Wf := ⟨hi.len, hx.o, hx.n, hx.r, hx.p⟩
theorem Img.aged_wf {im : Img} (hi : im.Wf) (a : Int) : (im.aged a).Wf := ⟨hi.len, hi.o, hi.n, hi.r, hi.p⟩
theorem Img.inn_wf {im : Img} (hi : im.Wf) : im.inn.Wf := ⟨hi.o, hi.n, hi.r, hi.p⟩
theorem Img.store_age {im : Img} {W : World} {g : Nat} (h : Whole W g 35 im.cells) (a : Int) : Whole (W.setCell ⟨g, 0, none⟩ (.int .i64 a)) g 35 (im.aged a).cells := h.set 0 (.int .i64 a)
theorem Img.store_in {im : Img} (hi : im.free.length = 24) {W : World} {g : Nat} (h : Whole W g 35 im.cells) (x : Inn) : Whole (W.setCells g 25 x.cells) g 35 (im.told x).cells := by
  have hl : (Value.int .i64 im.age :: nums .i64 im.free).length = 25 := by rw [List.length_cons, nums_length, hi]
  have := setCells_whole (w := W) (g := g) (t := 35) x.cells (.int .i64 im.age :: nums .i64 im.free) [.int .u32 im.o, .int .u32 im.n, .int .u32 im.r, .int .u32 im.p] rfl h
  rw [hl] at this
  exact this
theorem Img.there_in {im : Img} (hi : im.free.length = 24) {W : World} {g : Nat} (h : Whole W g 35 im.cells) : W.there g 25 4 := fun j hj => by
  have hc := h.cell (25 + j)
  rw [im.c_in hi] at hc
  refine ⟨?_, h.frozen _⟩
  rw [hc]
  match j, hj with
  | 0, _ => rfl
  | 1, _ => rfl
  | 2, _ => rfl
  | 3, _ => rfl
def newI : Img := ⟨65535, List.replicate 24 0, 0, 0, 0, 0⟩
theorem newI_wf : newI.Wf := ⟨rfl, by decide, by decide, by decide, by decide⟩
theorem zs_len : ([.int .i64 0, .int .i64 0, .int .i64 0, .int .i64 0, .int .i64 0, .int .i64 0, .int .i64 0, .int .i64 0, .int .i64 0, .int .i64 0, .int .i64 0, .int .i64 0, .int .i64 0, .int .i64 0, .int .i64 0, .int .i64 0, .int .i64 0, .int .i64 0, .int .i64 0, .int .i64 0, .int .i64 0, .int .i64 0, .int .i64 0, .int .i64 0, .int .i64 0, .int .u32 0, .int .u32 0, .int .u32 0, .int .u32 0] : List Value).length = 29 := rfl
set_option maxRecDepth 100000 in
set_option maxHeartbeats 8000000 in
theorem New_B {w : World} : Calls Tryd.prog 10 #[] w fun e w' => e = .returned newI.val ∧ Below w.heap.size w w' := by
  go_enter Tryd.func10, Tryd.ntmps10
  go_upto_region 1 with (fail)
  apply wp_region_lit
  refine wpList_build rfl 35 _ rfl (by kernel_rfl) ?_
  simp only [Act.put, List.setIfInBounds_toArray, List.set_cons_zero, List.set_cons_succ]
  have hW := Whole.new w 35 [.int .i64 0, .int .i64 0, .int .i64 0, .int .i64 0, .int .i64 0, .int .i64 0, .int .i64 0, .int .i64 0, .int .i64 0, .int .i64 0, .int .i64 0, .int .i64 0, .int .i64 0, .int .i64 0, .int .i64 0, .int .i64 0, .int .i64 0, .int .i64 0, .int .i64 0, .int .i64 0, .int .i64 0, .int .i64 0, .int .i64 0, .int .i64 0, .int .i64 0, .int .u32 0, .int .u32 0, .int .u32 0, .int .u32 0]
  refine wpList_fill _ _ _ rfl rfl (vs := newI.cells) (by rfl) (by kernel_rfl) hW (by rfl) (by exact img_info) newI.one (fun W2 hR2 hB2 hO2 => ?_)
  simp only [Act.put, List.setIfInBounds_toArray, List.set_cons_zero, List.set_cons_succ]
  have HB := Lib.hid ((below1 w _).trans (hB2 _ (Nat.le_refl _)))
  clear hB2 hO2 hW
  go_wp2_with fail
  (try simp only [Exit.inBlock, Exit.then])
  exact bodyPost_ret (res_img rfl _ newI_wf.len rfl hR2) rfl ⟨rfl, HB.out⟩
set_option maxRecDepth 100000 in
set_option maxHeartbeats 8000000 in
theorem NewR_B {w : World} : Calls Tryd.prog 11 #[] w fun e w' => e = .returned newI.val ∧ Below w.heap.size w w' := by
  go_enter Tryd.func11, Tryd.ntmps11
  go_upto_region 1 with (fail)
  apply wp_region_lit
  refine wpList_build rfl 35 _ rfl (by kernel_rfl) ?_
  simp only [Act.put, List.setIfInBounds_toArray, List.set_cons_zero, List.set_cons_succ]
  have hW := Whole.new w 35 [.int .i64 0, .int .i64 0, .int .i64 0, .int .i64 0, .int .i64 0, .int .i64 0, .int .i64 0, .int .i64 0, .int .i64 0, .int .i64 0, .int .i64 0, .int .i64 0, .int .i64 0, .int .i64 0, .int .i64 0, .int .i64 0, .int .i64 0, .int .i64 0, .int .i64 0, .int .i64 0, .int .i64 0, .int .i64 0, .int .i64 0, .int .i64 0, .int .i64 0, .int .u32 0, .int .u32 0, .int .u32 0, .int .u32 0]
  refine wpList_fill _ _ _ rfl rfl (vs := newI.cells) (by rfl) (by kernel_rfl) hW (by rfl) (by exact img_info) newI.one (fun W2 hR2 hB2 hO2 => ?_)
  simp only [Act.put, List.setIfInBounds_toArray, List.set_cons_zero, List.set_cons_succ]
  have HB := Lib.hid ((below1 w _).trans (hB2 _ (Nat.le_refl _)))
  clear hB2 hO2 hW
  go_wp2_with fail
  (try simp only [Exit.inBlock, Exit.then])
  exact bodyPost_ret (res_img rfl _ newI_wf.len rfl hR2) rfl ⟨rfl, HB.out⟩

end Go.Proofs.YtniihmafbeplaaaDoor
namespace Go.Proofs.YtniihmafbeplaaaDoor
open Go.RowKit Go.Shelf
set_option linter.unusedVariables false
set_option linter.unusedSimpArgs false

/-- A layout, an image, what the field tells, what is to be handed back: in boxes of the call's own. -/
structure TSt (l : Lay) (im : Img) (x : Inn) (w W : World) : Prop where
  below : Below w.heap.size w W
  lay : Whole W w.heap.size 29 l.cells
  img : Whole W (w.heap.size + 1) 35 im.cells
  inn : Whole W (w.heap.size + 1 + 1) 33 x.cells
  res : Whole W (w.heap.size + 1 + 1 + 1) 35 [.int .i64 0, .int .i64 0, .int .i64 0, .int .i64 0, .int .i64 0, .int .i64 0, .int .i64 0, .int .i64 0, .int .i64 0, .int .i64 0, .int .i64 0, .int .i64 0, .int .i64 0, .int .i64 0, .int .i64 0, .int .i64 0, .int .i64 0, .int .i64 0, .int .i64 0, .int .i64 0, .int .i64 0, .int .i64 0, .int .i64 0, .int .i64 0, .int .i64 0, .int .u32 0, .int .u32 0, .int .u32 0, .int .u32 0]
theorem TSt.closed (l : Lay) (im : Img) (x : Inn) (w : World) : Closed (TSt l im x w) := fun W W' h hb => ⟨h.below.trans (hb.mono h.below.size), h.lay.below hb h.lay.lt, h.img.below hb h.img.lt, h.inn.below hb h.inn.lt, h.res.below hb h.res.lt⟩
theorem TSt.age {l : Lay} {im : Img} {x : Inn} {w W : World} (h : TSt l im x w W) (a : Int) : TSt l (im.aged a) x w (W.setCell ⟨w.heap.size + 1, 0, none⟩ (.int .i64 a)) :=
  ⟨h.below.setCell (by show w.heap.size ≤ w.heap.size + 1; omega) _, h.lay.far (by show w.heap.size ≠ w.heap.size + 1; omega) _, Img.store_age h.img a, h.inn.far (by show w.heap.size + 1 + 1 ≠ w.heap.size + 1; omega) _, h.res.far (by show w.heap.size + 1 + 1 + 1 ≠ w.heap.size + 1; omega) _⟩
theorem Whole.farC {W : World} {g : Nat} {t : TypeId} {cs : List Value} (h : Whole W g t cs) {g' : Nat} (hg : g ≠ g') (o : Nat) (vs : List Value) : Whole (W.setCells g' o vs) g t cs := (setCells_off vs o g' W g hg).trans h
theorem TSt.told {l : Lay} {im : Img} (hi : im.free.length = 24) {x : Inn} {w W : World} (h : TSt l im x w W) : TSt l (im.told x) x w (W.setCells (w.heap.size + 1) 25 x.cells) :=
  ⟨setCells_below _ _ h.below (by omega), h.lay.farC (by omega) _ _, Img.store_in hi h.img x, h.inn.farC (by omega) _ _, h.res.farC (by omega) _ _⟩
theorem TSt.begin {l : Lay} {im : Img} {x : Inn} {w : World} : TSt l im x w ((((w.alloc (.cells l.cells.toArray 29)).alloc (.cells im.cells.toArray 35)).alloc (.cells x.cells.toArray 33)).alloc (.cells ([.int .i64 0, .int .i64 0, .int .i64 0, .int .i64 0, .int .i64 0, .int .i64 0, .int .i64 0, .int .i64 0, .int .i64 0, .int .i64 0, .int .i64 0, .int .i64 0, .int .i64 0, .int .i64 0, .int .i64 0, .int .i64 0, .int .i64 0, .int .i64 0, .int .i64 0, .int .i64 0, .int .i64 0, .int .i64 0, .int .i64 0, .int .i64 0, .int .i64 0, .int .u32 0, .int .u32 0, .int .u32 0, .int .u32 0] : List Value).toArray 35)) :=
  ⟨(below3 w _ _ _).alloc (by simp; omega) _, (((Whole.new w _ l.cells).alloc _).alloc _).alloc _, ((Whole.new_at _ _ im.cells _ (by simp)).alloc _).alloc _, (Whole.new_at _ _ x.cells _ (by simp)).alloc _, Whole.new_at _ _ _ _ (by simp)⟩
def takeI (l : Lay) (im : Img) (x : Inn) : Img := ((im.aged 0).told x).cnt (clearI l ((im.aged 0).told x))
def passI (l : Lay) (im : Img) : Img := (im.aged (moreTk im.age 1)).cnt (clearI l (im.aged (moreTk im.age 1)))
theorem takeI_wf {l : Lay} {im : Img} (hi : im.Wf) {x : Inn} (hx : x.Wf) : (takeI l im x).Wf := Img.cnt_wf (Img.told_wf (Img.aged_wf hi 0) hx) _
theorem passI_wf {l : Lay} {im : Img} (hi : im.Wf) : (passI l im).Wf := Img.cnt_wf (Img.aged_wf hi _) _
set_option maxRecDepth 100000 in
set_option maxHeartbeats 8000000 in
theorem Take_B {l : Lay} {im : Img} (hi : im.Wf) {x : Inn} (hx : x.Wf) {w : World} (h : Fld l w) : Calls Tryd.prog 14 #[l.val, im.val, x.val] w fun e w' => e = .returned (takeI l im x).val ∧ Below w.heap.size w w' := by
  obtain ⟨W0, hW0⟩ : ∃ W0, (((w.alloc (.cells #[.slice l.As l.secs.length l.cs, .slice l.Ag l.sigs.length l.cg, .slice l.Ae l.exits.length l.ce, .slice l.Af l.flanks.length l.cf, .int .i64 l.t0, .int .i64 l.t1, .int .i64 l.t2, .int .i64 l.t3, .int .i64 l.t4, .int .i64 l.t5, .int .i64 l.t6] 29)).alloc (.cells im.cells.toArray 35)).alloc (.cells #[.int .u32 x.o, .int .u32 x.n, .int .u32 x.r, .int .u32 x.p] 33)).alloc (.cells #[.int .i64 0, .int .i64 0, .int .i64 0, .int .i64 0, .int .i64 0, .int .i64 0, .int .i64 0, .int .i64 0, .int .i64 0, .int .i64 0, .int .i64 0, .int .i64 0, .int .i64 0, .int .i64 0, .int .i64 0, .int .i64 0, .int .i64 0, .int .i64 0, .int .i64 0, .int .i64 0, .int .i64 0, .int .i64 0, .int .i64 0, .int .i64 0, .int .i64 0, .int .u32 0, .int .u32 0, .int .u32 0, .int .u32 0] 35) = W0 := ⟨_, rfl⟩
  have ST : TSt l im x w W0 := by rw [← hW0]; exact TSt.begin
  have KK : Hid (∀ W, TSt l ((im.aged 0).told x) x w W → Calls Tryd.prog 33 #[l.val, ((im.aged 0).told x).val] W fun e w' => e = .returned (takeI l im x).val ∧ Below W.heap.size W w') := Lib.hid fun W hW => counted_B (Img.told_wf (Img.aged_wf hi 0) hx) (h.on hW.below)
  have hil : ((im.aged 0).told x).free.length = 24 := hi.len
  have hol := (takeI_wf (l := l) hi hx).len
  go_enter Tryd.func14, Tryd.ntmps14
  go_upto_region 1 with (fail)
  clear hW0 h
  refine region_mix (fun W => Whole W (w.heap.size + 1 + 1) 33 x.cells) [(0, false), (1, false), (2, true), (3, false), (4, true)] (by kernel_rfl) (by kernel_rfl) (TSt l im x w) ⟨TSt.closed _ _ _ _, fun W h => h.inn⟩ ((TSt.closed _ _ _ _).drew ST) ?_
  simp only [pickOps, List.getElem?_cons_zero, List.getElem?_cons_succ]
  repeat (first | (refine mix_read _ (by rfl) (fun W hW => by (have y0 := hW.cell_at 0 rfl; have y1 := hW.cell_at 1 rfl; have y2 := hW.cell_at 2 rfl; have y3 := hW.cell_at 3 rfl; clear hW; go_simp; first | done | with_reducible rfl)) ?_; simp only [Act.put, List.setIfInBounds_toArray, List.set_cons_zero, List.set_cons_succ]))
  refine mix_store (TSt l (im.aged 0) x w) (fun W => W.setCell ⟨w.heap.size + 1, 0, none⟩ (.int .i64 0)) ⟨TSt.closed _ _ _ _, fun W h => h.inn⟩ (by rfl) (fun W hW => by (have c0 := hW.img.cell_at 0 im.c_age; have f0 := hW.img.frozen 0; clear hW; go_simp; first | done | rfl)) (fun W hW => hW.age 0) ?_
  simp only [Act.put, List.setIfInBounds_toArray, List.set_cons_zero, List.set_cons_succ]
  repeat (first | (refine mix_read _ (by rfl) (fun W hW => by (go_simp; first | done | with_reducible rfl)) ?_; simp only [Act.put, List.setIfInBounds_toArray, List.set_cons_zero, List.set_cons_succ]))
  refine mix_within 33 (.tmp 9) (.tmp 7) (w.heap.size + 1) 25 x.cells (TSt l ((im.aged 0).told x) x w) ⟨TSt.closed _ _ _ _, fun W h => h.inn⟩ rfl (by rfl) (by rfl) (by exact in_info) (by rfl) (by rfl) (fun W hW => Img.there_in (im := im.aged 0) hi.len hW.img) (fun W hW => TSt.told (im := im.aged 0) hi.len hW) ?_
  simp only [Act.put, List.setIfInBounds_toArray, List.set_cons_zero, List.set_cons_succ]
  refine mix_nil (fun W1 ST => ?_)
  clear hi
  go_upto_region 2 with (fail)
  have m0 := ST.lay
  have x0 := m0.cell_at 0 rfl
  have x1 := m0.cell_at 1 rfl
  have x2 := m0.cell_at 2 rfl
  have x3 := m0.cell_at 3 rfl
  have x4 := m0.cell_at 4 rfl
  have x5 := m0.cell_at 5 rfl
  have x6 := m0.cell_at 6 rfl
  have x7 := m0.cell_at 7 rfl
  have x8 := m0.cell_at 8 rfl
  have x9 := m0.cell_at 9 rfl
  have x10 := m0.cell_at 10 rfl
  clear m0
  apply wp_region_lit
  repeat (first | (refine wpList_skip (by rfl) ?_; simp only [Act.put, List.setIfInBounds_toArray, List.set_cons_zero, List.set_cons_succ]) | (refine wpList_read _ (by rfl) (exec_img hil (by rfl) (by rfl) ST.img) ?_; simp only [Act.put, List.setIfInBounds_toArray, List.set_cons_zero, List.set_cons_succ]) | (refine wpList_read _ (by rfl) (by (go_simp; first | done | with_reducible rfl)) ?_; simp only [Act.put, List.setIfInBounds_toArray, List.set_cons_zero, List.set_cons_succ]))
  refine wpList_callv (by rfl) (by (go_simp; first | done | rfl)) (KK.out W1 ST) (fun w3 hB => ?_)
  simp only [Act.put, List.setIfInBounds_toArray, List.set_cons_zero, List.set_cons_succ]
  clear x0 x1 x2 x3 x4 x5 x6 x7 x8 x9 x10
  have ST3 := TSt.closed _ _ _ _ _ _ ST hB
  clear ST hB
  refine wpList_fill _ _ _ rfl rfl (by rfl) (by rfl) ST3.res (by rw [Img.size _ hol]; rfl) (by rw [Img.size _ hol]; exact img_info) (Img.one _) (fun W2 hR2 hB2 hO2 => ?_)
  simp only [Act.put, List.setIfInBounds_toArray, List.set_cons_zero, List.set_cons_succ]
  have HB := Lib.hid (ST3.below.trans (hB2 _ (by omega)))
  clear hB2 hO2 ST3
  go_wp2_with fail
  (try simp only [Exit.inBlock, Exit.then])
  exact bodyPost_ret (res_img rfl _ hol rfl hR2) rfl ⟨rfl, HB.out⟩
set_option maxRecDepth 100000 in
set_option maxHeartbeats 8000000 in
theorem Pass_B {l : Lay} {im : Img} (hi : im.Wf) {w : World} (h : Fld l w) : Calls Tryd.prog 16 #[l.val, im.val] w fun e w' => e = .returned (passI l im).val ∧ Below w.heap.size w w' := by
  obtain ⟨Q, HQ, HQf, HQb, HQl, HQi, HQz, hq⟩ := keep_lib h l.cells im.cells [.int .i64 0, .int .i64 0, .int .i64 0, .int .i64 0, .int .i64 0, .int .i64 0, .int .i64 0, .int .i64 0, .int .i64 0, .int .i64 0, .int .i64 0, .int .i64 0, .int .i64 0, .int .i64 0, .int .i64 0, .int .i64 0, .int .i64 0, .int .i64 0, .int .i64 0, .int .i64 0, .int .i64 0, .int .i64 0, .int .i64 0, .int .i64 0, .int .i64 0, .int .u32 0, .int .u32 0, .int .u32 0, .int .u32 0] 29 35 35
  obtain ⟨v, hv⟩ : ∃ v, moreTk im.age 1 = v := ⟨_, rfl⟩
  have KM : Hid (∀ W, Q W → Calls Tryd.prog 35 #[.int .i64 im.age, .int .i64 1] W fun e w' => e = .returned (.int .i64 v) ∧ Below W.heap.size W w') := Lib.hid fun W hW => more_B _ _ hv (HQf.out W hW).tops
  have HV : Hid (passI l im = (im.aged v).cnt (clearI l (im.aged v))) := Lib.hid (by rw [← hv]; rfl)
  have KK : Hid (∀ W, Fld l W → Calls Tryd.prog 33 #[l.val, (im.aged v).val] W fun e w' => e = .returned ((im.aged v).cnt (clearI l (im.aged v))).val ∧ Below W.heap.size W w') := Lib.hid fun W hW => counted_B (Img.aged_wf hi v) hW
  have hil : (im.aged v).free.length = 24 := hi.len
  have hol : ((im.aged v).cnt (clearI l (im.aged v))).free.length = 24 := (Img.cnt_wf (Img.aged_wf hi v) _).len
  rw [HV.out]
  clear hv HV
  have y0 := (HQi.out _ hq).cell_at 0 im.c_age
  go_enter Tryd.func16, Tryd.ntmps16
  go_wp2_with fail
  refine (KM.out _ hq).mono ?_
  clear y0
  rintro e W1 ⟨rfl, hB⟩
  have hq := HQ.out _ _ hq hB
  have c0 := (HQi.out _ hq).cell_at 0 im.c_age
  have f0 := (HQi.out _ hq).frozen 0
  have HFL := Lib.hid (h.on ((HQb.out _ hq).setCell (p := ⟨w.heap.size + 1, 0, none⟩) (by show w.heap.size ≤ w.heap.size + 1; omega) (.int .i64 v)))
  have HB2 := Lib.hid ((HQb.out _ hq).setCell (p := ⟨w.heap.size + 1, 0, none⟩) (by show w.heap.size ≤ w.heap.size + 1; omega) (.int .i64 v))
  have HL2 := Lib.hid ((HQl.out _ hq).far (p := ⟨w.heap.size + 1, 0, none⟩) (by show w.heap.size ≠ w.heap.size + 1; omega) (.int .i64 v))
  have HI2 := Lib.hid (Img.store_age (HQi.out _ hq) v)
  have HZ2 := Lib.hid ((HQz.out _ hq).far (p := ⟨w.heap.size + 1, 0, none⟩) (by show w.heap.size + 1 + 1 ≠ w.heap.size + 1; omega) (.int .i64 v))
  clear h hi hB hq
  go_upto_region 2 with (fail)
  clear c0 f0
  generalize W1.setCell ⟨w.heap.size + 1, 0, none⟩ (.int .i64 v) = X at *
  have m0 := HL2.out
  have x0 := m0.cell_at 0 rfl
  have x1 := m0.cell_at 1 rfl
  have x2 := m0.cell_at 2 rfl
  have x3 := m0.cell_at 3 rfl
  have x4 := m0.cell_at 4 rfl
  have x5 := m0.cell_at 5 rfl
  have x6 := m0.cell_at 6 rfl
  have x7 := m0.cell_at 7 rfl
  have x8 := m0.cell_at 8 rfl
  have x9 := m0.cell_at 9 rfl
  have x10 := m0.cell_at 10 rfl
  clear m0
  apply wp_region_lit
  repeat (first | (refine wpList_skip (by rfl) ?_; simp only [Act.put, List.setIfInBounds_toArray, List.set_cons_zero, List.set_cons_succ]) | (refine wpList_read _ (by rfl) (exec_img hil (by rfl) (by rfl) HI2.out) ?_; simp only [Act.put, List.setIfInBounds_toArray, List.set_cons_zero, List.set_cons_succ]) | (refine wpList_read _ (by rfl) (by (go_simp; first | done | with_reducible rfl)) ?_; simp only [Act.put, List.setIfInBounds_toArray, List.set_cons_zero, List.set_cons_succ]))
  refine wpList_callv (by rfl) (by (go_simp; first | done | rfl)) (KK.out _ HFL.out) (fun w3 hB => ?_)
  simp only [Act.put, List.setIfInBounds_toArray, List.set_cons_zero, List.set_cons_succ]
  clear x0 x1 x2 x3 x4 x5 x6 x7 x8 x9 x10
  refine wpList_fill _ _ _ rfl rfl (by rfl) (by rfl) (HZ2.out.below hB HZ2.out.lt) (by rw [Img.size _ hol]; rfl) (by rw [Img.size _ hol]; exact img_info) (Img.one _) (fun W2 hR2 hB2 hO2 => ?_)
  simp only [Act.put, List.setIfInBounds_toArray, List.set_cons_zero, List.set_cons_succ]
  have HB := Lib.hid ((HB2.out.trans (hB.mono HB2.out.size)).trans (hB2 _ (by omega)))
  clear hB2 hO2 hB HB2
  go_wp2_with fail
  (try simp only [Exit.inBlock, Exit.then])
  exact bodyPost_ret (res_img rfl _ hol rfl hR2) rfl ⟨rfl, HB.out⟩

end Go.Proofs.YtniihmafbeplaaaDoor
