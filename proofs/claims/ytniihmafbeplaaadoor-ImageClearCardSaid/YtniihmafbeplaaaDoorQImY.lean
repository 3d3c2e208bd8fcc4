/- The law's own: a layout of two sections and a signal; what the document says of its images (wakes). -/
import Derived.Deep.CutRange
import Derived.Test.YtniihmafbeplaaaDoorQZ
import Derived.Test.YtniihmafbeplaaaDoorQImV
namespace Go.Proofs.YtniihmafbeplaaaDoor
open Go.RowKit Go.Shelf
set_option linter.unusedVariables false
set_option linter.unusedSimpArgs false

/-- A variable of the call's own that is laid at once. -/
theorem wpList_var {P : Program} {ops : Array Oper} {rest : List Oper} {o1 o2 : Oper} {a : Act} {w : World} {Q : Exit → Act → World → Prop} (ty : TypeId) (d : Tmp) (y : Operand) (z : Value) (vs : List Value) (h1 : o1.op = .alloc ty) (hd : o1.dst = some d) (hg1 : o1.guard = none) (h2 : o2.op = .store ty (.tmp d) y) (hg2 : o2.guard = none)
    (hz : ∀ w, (zeroValue ty).run P w = .ok z w) (hx : (a.put o1.dst (.pointer (some ⟨w.heap.size, 0, none⟩))).eval (.tmp d) = .pointer (some ⟨w.heap.size, 0, none⟩)) (hy : (a.put o1.dst (.pointer (some ⟨w.heap.size, 0, none⟩))).eval y = .agg vs.toArray)
    (hl : vs.length = z.cells.toList.length) (hi : (P.info? ty).map (·.size) = some vs.length) (hone : ∀ v ∈ vs, v.oneCell' = true)
    (h : ∀ w', Whole w' w.heap.size ty vs → Below w.heap.size w w' → wpList P ops Q rest ((a.put o1.dst (.pointer (some ⟨w.heap.size, 0, none⟩))).put o2.dst undef) w') : wpList P ops Q (o1 :: o2 :: rest) a w := by
  refine wpList_step fun K hK => ?_
  simp only [Region.wanted, hg1, if_true]
  have hrun : (execOp a.eval o1).run P w = .ok (.value (.pointer (some ⟨w.heap.size, 0, none⟩))) (w.alloc (.cells z.cells ty)) := by
    unfold execOp
    simp only [h1, Instr.alloc, newVar, Sem.run_bind, hz w, Result.andThen_ok]
    rfl
  unfold Oper.wp
  rw [hrun]
  refine hK _ _ ?_
  have hW : Whole (w.alloc (.cells z.cells ty)) w.heap.size ty z.cells.toList := Whole.new w ty z.cells.toList
  refine wpList_fill ty (.tmp d) y h2 hg2 hx hy hW hl hi hone (fun w' hw' hB' _ => ?_)
  exact h w' hw' ((below1 w _).trans (hB' _ (Nat.le_refl _)))
theorem run_lay {l : Lay} {g : Nat} {W : World} (h : Whole W g 29 l.cells) : (Instr.loadAt 29 (.pointer (some ⟨g, 0, none⟩))).run Tryd.prog W = .ok l.val W :=
  run_loadAt_mid W g 0 _ l.cells _ (fun j v hv => by rw [Nat.zero_add]; exact h.cell_at j hv) Tryd.underlying29 rfl (by kernel_rfl)
theorem exec_lay {l : Lay} {o : Oper} {a : Act} {x : Operand} (ho : o.op = .load 29 x) {g : Nat} (hx : a.eval x = .pointer (some ⟨g, 0, none⟩)) {W : World} (h : Whole W g 29 l.cells) : (execOp a.eval o).run Tryd.prog W = .ok (.value l.val) W := by
  unfold execOp
  simp only [ho, hx, Sem.run_bind, run_lay h, Result.andThen_ok, Sem.run_pure]
theorem run_inn {x : Inn} {g : Nat} {W : World} (h : Whole W g 33 x.cells) : (Instr.loadAt 33 (.pointer (some ⟨g, 0, none⟩))).run Tryd.prog W = .ok x.val W :=
  run_loadAt_mid W g 0 _ x.cells _ (fun j v hv => by rw [Nat.zero_add]; exact h.cell_at j hv) Tryd.underlying33 rfl (by kernel_rfl)
theorem exec_inn {y : Inn} {o : Oper} {a : Act} {x : Operand} (ho : o.op = .load 33 x) {g : Nat} (hx : a.eval x = .pointer (some ⟨g, 0, none⟩)) {W : World} (h : Whole W g 33 y.cells) : (execOp a.eval o).run Tryd.prog W = .ok (.value y.val) W := by
  unfold execOp
  simp only [ho, hx, Sem.run_bind, run_inn h, Result.andThen_ok, Sem.run_pure]
theorem exec_build {o : Oper} {a : Act} {cells : Array Value} (t : TypeId) (parts : Array (Nat × Operand)) (ho : o.op = .build t parts) (hc : Tryd.prog.built t (parts.map fun (i, x) => (i, a.eval x)).toList = some cells) (W : World) : (execOp a.eval o).run Tryd.prog W = .ok (.value (.agg cells)) W := by
  unfold execOp
  simp only [ho, Sem.run_bind, run_build W t _ cells hc, Result.andThen_ok, Sem.run_pure]

def threeL (gs gg : Nat) : Lay := ⟨[⟨1, 0, 0, 0, 0, 0, 0, 0, 0, 0, 0⟩, ⟨2, 0, 0, 0, 0, 0, 0, 0, 0, 0, 0⟩], some ⟨gs, 0, none⟩, 2, [(0, 0)], some ⟨gg, 0, none⟩, 1, [], none, 0, [], none, 0, 2, 0, 2, 0, 0, 0, 0⟩
theorem three_lies {gs gg : Nat} {w : World} (hs : Whole w gs 53 ((threeL gs gg).secs.flatMap Sec.cells)) (hg : Whole w gg 75 [.int .i64 0, .int .i64 0]) (hT : Tops w) : Fld (threeL gs gg) w :=
  ⟨⟨hs.row hs.lt, hg.row hg.lt, Row.nil _ _ _, Row.nil _ _ _, (fun x hx => by simp [threeL] at hx), (fun x hx => by simp [threeL] at hx; rcases hx with rfl | rfl <;> simp), by simp [threeL], by simp [threeL], by simp [threeL], by simp [threeL], (fun x hx => by simp [threeL] at hx)⟩, hT, by simp [threeL], by simp [threeL]⟩
set_option maxRecDepth 100000 in
set_option maxHeartbeats 8000000 in
theorem three_any {w : World} (hT : Tops w) : Calls Tryd.prog 30 #[] w fun e w' => ∃ v, e = .returned v ∧ (∃ gs gg, v = (threeL gs gg).val ∧ Fld (threeL gs gg) w') ∧ Below w.heap.size w w' := by
  go_enter Tryd.func30, Tryd.ntmps30
  go_wp2_with fail
  have hW := fun (o1 o2 : Obj) => ((Whole.new w 29 [.slice (some ⟨w.heap.size + 1, 0, none⟩) 2 2, .slice (some ⟨w.heap.size + 1 + 1, 0, none⟩) 1 1, .slice none 0 0, .slice none 0 0, .int .i64 2, .int .i64 0, .int .i64 2, .int .i64 0, .int .i64 0, .int .i64 0, .int .i64 0]).alloc o1).alloc o2
  have e0 := fun o1 o2 => (hW o1 o2).cell_at 0 rfl
  have e1 := fun o1 o2 => (hW o1 o2).cell_at 1 rfl
  have e2 := fun o1 o2 => (hW o1 o2).cell_at 2 rfl
  have e3 := fun o1 o2 => (hW o1 o2).cell_at 3 rfl
  have e4 := fun o1 o2 => (hW o1 o2).cell_at 4 rfl
  have e5 := fun o1 o2 => (hW o1 o2).cell_at 5 rfl
  have e6 := fun o1 o2 => (hW o1 o2).cell_at 6 rfl
  have e7 := fun o1 o2 => (hW o1 o2).cell_at 7 rfl
  have e8 := fun o1 o2 => (hW o1 o2).cell_at 8 rfl
  have e9 := fun o1 o2 => (hW o1 o2).cell_at 9 rfl
  have e10 := fun o1 o2 => (hW o1 o2).cell_at 10 rfl
  clear hW
  have hb := below3 w
  refine bodyPost_ret (v := (threeL (w.heap.size + 1) (w.heap.size + 1 + 1)).val) ?_ rfl ⟨_, rfl, ⟨_, _, rfl, three_lies ((Whole.new_at _ _ [_, _, _, _, _, _, _, _, _, _, _, _, _, _, _, _, _, _, _, _, _, _] _ (by simp)).alloc _) (Whole.new_at _ _ [_, _] _ (by simp)) (hT.below (hb _ _ _))⟩, hb _ _ _⟩
  simp [results, Tryd.f30, go_sem, threeL, e0, e1, e2, e3, e4, e5, e6, e7, e8, e9, e10]

def wX : Inn := ⟨1, 0, 2, 1⟩
theorem wX_wf : wX.Wf := ⟨by decide, by decide, by decide, by decide⟩
def wB (gs gg : Nat) : Img := takeI (threeL gs gg) newI wX
def wC (gs gg : Nat) : Img := takeI (threeL gs gg) (wB gs gg) wX
def wD (gs gg : Nat) : Img := passI (threeL gs gg) (passI (threeL gs gg) (passI (threeL gs gg) (wC gs gg)))
def negI : Img := ⟨-1, List.replicate 24 0, 0, 0, 0, 0⟩
theorem wv0 (gs gg : Nat) : staleI (threeL gs gg) newI = true := by kernel_rfl
theorem wv1 (gs gg : Nat) : occI (threeL gs gg) newI 1 = true := by kernel_rfl
theorem wv2 (gs gg : Nat) : atI (threeL gs gg) newI 1 = (-1) := by kernel_rfl
theorem wv3 (gs gg : Nat) : told15 (threeL gs gg) newI 0 (threeL gs gg).sigs.length newI.p = false := by kernel_rfl
theorem wv4 (gs gg : Nat) : maskI (threeL gs gg) newI = 3 := by kernel_rfl
theorem wv5 (gs gg : Nat) : staleI (threeL gs gg) (wB gs gg) = false := by kernel_rfl
theorem wv6 (gs gg : Nat) : occI (threeL gs gg) (wB gs gg) 1 = true := by kernel_rfl
theorem wv7 (gs gg : Nat) : occI (threeL gs gg) (wC gs gg) 0 = true := by kernel_rfl
theorem wv8 (gs gg : Nat) : told15 (threeL gs gg) (wC gs gg) 0 (cntI (threeL gs gg)) (wC gs gg).o = true := by kernel_rfl
theorem wv9 (gs gg : Nat) : told15 (threeL gs gg) (wC gs gg) 1 (cntI (threeL gs gg)) (wC gs gg).o = false := by kernel_rfl
theorem wv10 (gs gg : Nat) : told15 (threeL gs gg) newI 0 (cntI (threeL gs gg)) newI.o = false := by kernel_rfl
theorem wv11 (gs gg : Nat) : occI (threeL gs gg) (wC gs gg) 1 = false := by kernel_rfl
theorem wv12 (gs gg : Nat) : maskI (threeL gs gg) (wC gs gg) = 1 := by kernel_rfl
theorem wv13 (gs gg : Nat) : atI (threeL gs gg) (wC gs gg) 1 = 1 := by kernel_rfl
theorem wv14 (gs gg : Nat) : atI (threeL gs gg) (wC gs gg) 0 = (-1) := by kernel_rfl
theorem wv15 (gs gg : Nat) : told15 (threeL gs gg) (wC gs gg) 0 (threeL gs gg).sigs.length (wC gs gg).p = true := by kernel_rfl
theorem wv16 (gs gg : Nat) : told15 (threeL gs gg) (wC gs gg) 1 (threeL gs gg).sigs.length (wC gs gg).p = false := by kernel_rfl
theorem wv17 (gs gg : Nat) : staleI (threeL gs gg) (wD gs gg) = true := by kernel_rfl
theorem wv18 (gs gg : Nat) : maskI (threeL gs gg) (wD gs gg) = 3 := by kernel_rfl
theorem wv19 (gs gg : Nat) : occI (threeL gs gg) (wC gs gg) 2 = true := by kernel_rfl
theorem wv20 (gs gg : Nat) : rightI (wD gs gg) = true := by kernel_rfl
theorem wv21 : rightI negI = false := by kernel_rfl
theorem negI_wf : negI.Wf := ⟨rfl, by decide, by decide, by decide, by decide⟩
theorem wB_wf (gs gg : Nat) : (wB gs gg).Wf := takeI_wf newI_wf wX_wf
theorem wC_wf (gs gg : Nat) : (wC gs gg).Wf := takeI_wf (wB_wf gs gg) wX_wf
theorem wD_wf (gs gg : Nat) : (wD gs gg).Wf := passI_wf (passI_wf (passI_wf (wC_wf gs gg)))
theorem img_zero (w : World) : (zeroValue 35).run Tryd.prog w = .ok (.agg #[.int .i64 0, .int .i64 0, .int .i64 0, .int .i64 0, .int .i64 0, .int .i64 0, .int .i64 0, .int .i64 0, .int .i64 0, .int .i64 0, .int .i64 0, .int .i64 0, .int .i64 0, .int .i64 0, .int .i64 0, .int .i64 0, .int .i64 0, .int .i64 0, .int .i64 0, .int .i64 0, .int .i64 0, .int .i64 0, .int .i64 0, .int .i64 0, .int .i64 0, .int .u32 0, .int .u32 0, .int .u32 0, .int .u32 0]) w := by kernel_rfl
theorem lay_zero (w : World) : (zeroValue 29).run Tryd.prog w = .ok (.agg #[.slice none 0 0, .slice none 0 0, .slice none 0 0, .slice none 0 0, .int .i64 0, .int .i64 0, .int .i64 0, .int .i64 0, .int .i64 0, .int .i64 0, .int .i64 0]) w := by kernel_rfl
theorem inn_zero (w : World) : (zeroValue 33).run Tryd.prog w = .ok (.agg #[.int .u32 0, .int .u32 0, .int .u32 0, .int .u32 0]) w := by kernel_rfl
theorem lay_info : (Tryd.prog.info? 29).map (·.size) = some 11 := by kernel_rfl
theorem lay_one (l : Lay) : ∀ v ∈ l.cells, v.oneCell' = true := by
  intro v hv
  simp only [List.mem_cons, List.not_mem_nil, or_false] at hv
  rcases hv with rfl | rfl | rfl | rfl | rfl | rfl | rfl | rfl | rfl | rfl | rfl <;> rfl
set_option maxRecDepth 100000 in
set_option maxHeartbeats 32000000 in
theorem wakes15_B {w : World} (hT : Tops w) : Calls Tryd.prog 9 #[] w fun e w' => e = .returned (.bool true) ∧ Below w.heap.size w w' := by
  have H3 := Lib.hid fun (W : World) (hW : Tops W) => three_any hW
  have HT := Lib.hid hT
  clear hT
  go_enter Tryd.func9, Tryd.ntmps9
  go_upto_region 1 with (fail)
  apply wp_region_lit
  refine wpList_calle (by rfl) (by (go_simp; first | done | with_reducible rfl)) (H3.out _ HT.out) (fun v w1 h1 => ?_)
  simp only [Act.put, List.setIfInBounds_toArray, List.set_cons_zero, List.set_cons_succ]
  obtain ⟨⟨gs, gg, rfl, hF⟩, hB⟩ := h1
  have hv0 := wv0 gs gg
  have hv1 := wv1 gs gg
  have hv2 := wv2 gs gg
  have hv3 := wv3 gs gg
  have hv4 := wv4 gs gg
  have hv5 := wv5 gs gg
  have hv6 := wv6 gs gg
  have hv7 := wv7 gs gg
  have hv8 := wv8 gs gg
  have hv9 := wv9 gs gg
  have hv10 := wv10 gs gg
  have hv11 := wv11 gs gg
  have hv12 := wv12 gs gg
  have hv13 := wv13 gs gg
  have hv14 := wv14 gs gg
  have hv15 := wv15 gs gg
  have hv16 := wv16 gs gg
  have hv17 := wv17 gs gg
  have hv18 := wv18 gs gg
  have hv19 := wv19 gs gg
  have hv20 := wv20 gs gg
  have hbw := wB_wf gs gg
  have hcw := wC_wf gs gg
  have hdw := wD_wf gs gg
  have haw := newI_wf
  obtain ⟨ib, hib⟩ : ∃ x, wB gs gg = x := ⟨_, rfl⟩
  obtain ⟨ic, hic⟩ : ∃ x, wC gs gg = x := ⟨_, rfl⟩
  obtain ⟨id, hid⟩ : ∃ x, wD gs gg = x := ⟨_, rfl⟩
  have hbe : takeI (threeL gs gg) newI wX = ib := hib
  have hce : takeI (threeL gs gg) ib wX = ic := by rw [← hic, ← hib]; rfl
  have hde : passI (threeL gs gg) (passI (threeL gs gg) (passI (threeL gs gg) ic)) = id := by rw [← hid, ← hic]; rfl
  rw [hib] at hbw hv5 hv6
  rw [hic] at hcw hv7 hv8 hv9 hv11 hv12 hv13 hv14 hv15 hv16 hv19
  rw [hid] at hdw hv17 hv18 hv20
  generalize threeL gs gg = l at *
  clear hib hic hid
  obtain ⟨ia, hia⟩ : ∃ x, newI = x := ⟨_, rfl⟩
  rw [hia] at haw hbe hv0 hv1 hv2 hv3 hv4 hv10
  refine wpList_var 29 _ _ _ l.cells rfl rfl rfl rfl rfl lay_zero (by rfl) (by rfl) (by rfl) (by exact lay_info) (lay_one l) (fun w2 hL hB2 => ?_)
  simp only [Act.put, List.setIfInBounds_toArray, List.set_cons_zero, List.set_cons_succ]
  have hF := hF.on hB2
  have hB := hB.trans (hB2.mono hB.size)
  clear hB2
  go_upto_region 2 with (fail)
  apply wp_region_lit
  refine wpList_callv (by rfl) (by (go_simp; first | done | with_reducible rfl)) (New_B (w := w2)) (fun w3 hB3 => ?_)
  simp only [Act.put, List.setIfInBounds_toArray, List.set_cons_zero, List.set_cons_succ]
  rw [hia]
  have hF := hF.on hB3
  have hL := hL.below hB3 hL.lt
  have hB := hB.trans (hB3.mono hB.size)
  clear hB3
  refine wpList_var 35 _ _ _ ia.cells rfl rfl rfl rfl rfl img_zero (by rfl) (by rfl) (by rw [ia.size haw.len]; rfl) (by rw [ia.size haw.len]; exact img_info) ia.one (fun w4 hA hB4 => ?_)
  simp only [Act.put, List.setIfInBounds_toArray, List.set_cons_zero, List.set_cons_succ]
  have hF := hF.on hB4
  have hL := hL.below hB4 hL.lt
  have hB := hB.trans (hB4.mono hB.size)
  clear hB4
  go_upto_region 3 with (fail)
  apply wp_region_lit
  refine wpList_read wX.val (by rfl) (exec_build (cells := wX.cells.toArray) _ _ rfl (by kernel_rfl) _) ?_
  simp only [Act.put, List.setIfInBounds_toArray, List.set_cons_zero, List.set_cons_succ]
  refine wpList_var 33 _ _ _ wX.cells rfl rfl rfl rfl rfl inn_zero (by rfl) (by rfl) (by rfl) (by exact in_info) wX.one (fun w5 hX hB5 => ?_)
  simp only [Act.put, List.setIfInBounds_toArray, List.set_cons_zero, List.set_cons_succ]
  have hF := hF.on hB5
  have hL := hL.below hB5 hL.lt
  have hA := hA.below hB5 hA.lt
  have hB := hB.trans (hB5.mono hB.size)
  clear hB5
  obtain ⟨x, hx⟩ : ∃ x, wX = x := ⟨_, rfl⟩
  have hxw := wX_wf
  rw [hx] at hX hxw hbe hce
  clear hx
  go_upto_region 4 with (fail)
  apply wp_region_lit
  refine wpList_read _ (by rfl) (exec_lay (by rfl) (by rfl) hL) ?_
  simp only [Act.put, List.setIfInBounds_toArray, List.set_cons_zero, List.set_cons_succ]
  refine wpList_read _ (by rfl) (exec_img haw.len (by rfl) (by rfl) hA) ?_
  simp only [Act.put, List.setIfInBounds_toArray, List.set_cons_zero, List.set_cons_succ]
  refine wpList_read _ (by rfl) (exec_inn (by rfl) (by rfl) hX) ?_
  simp only [Act.put, List.setIfInBounds_toArray, List.set_cons_zero, List.set_cons_succ]
  refine wpList_callv (by rfl) (by (go_simp; first | done | with_reducible rfl)) (Take_B haw hxw hF) (fun w6 hB6 => ?_)
  simp only [Act.put, List.setIfInBounds_toArray, List.set_cons_zero, List.set_cons_succ]
  rw [hbe]
  have hF := hF.on hB6
  have hL := hL.below hB6 hL.lt
  have hA := hA.below hB6 hA.lt
  have hX := hX.below hB6 hX.lt
  have hB := hB.trans (hB6.mono hB.size)
  clear hB6
  refine wpList_var 35 _ _ _ ib.cells rfl rfl rfl rfl rfl img_zero (by rfl) (by rfl) (by rw [ib.size hbw.len]; rfl) (by rw [ib.size hbw.len]; exact img_info) ib.one (fun w7 hBb hB7 => ?_)
  simp only [Act.put, List.setIfInBounds_toArray, List.set_cons_zero, List.set_cons_succ]
  obtain ⟨gB, hgB⟩ : ∃ g, w6.heap.size = g := ⟨_, rfl⟩
  rw [hgB] at hBb
  rw [hgB]
  have hF := hF.on hB7
  have hL := hL.below hB7 hL.lt
  have hA := hA.below hB7 hA.lt
  have hX := hX.below hB7 hX.lt
  have hB := hB.trans (hB7.mono hB.size)
  clear hB7
  go_upto_region 5 with (fail)
  apply wp_region_lit
  refine wpList_read _ (by rfl) (exec_lay (by rfl) (by rfl) hL) ?_
  simp only [Act.put, List.setIfInBounds_toArray, List.set_cons_zero, List.set_cons_succ]
  refine wpList_read _ (by rfl) (exec_img hbw.len (by rfl) (by rfl) hBb) ?_
  simp only [Act.put, List.setIfInBounds_toArray, List.set_cons_zero, List.set_cons_succ]
  refine wpList_read _ (by rfl) (exec_inn (by rfl) (by rfl) hX) ?_
  simp only [Act.put, List.setIfInBounds_toArray, List.set_cons_zero, List.set_cons_succ]
  refine wpList_callv (by rfl) (by (go_simp; first | done | with_reducible rfl)) (Take_B hbw hxw hF) (fun w6 hB6 => ?_)
  simp only [Act.put, List.setIfInBounds_toArray, List.set_cons_zero, List.set_cons_succ]
  rw [hce]
  have hF := hF.on hB6
  have hL := hL.below hB6 hL.lt
  have hA := hA.below hB6 hA.lt
  have hX := hX.below hB6 hX.lt
  have hBb := hBb.below hB6 hBb.lt
  have hB := hB.trans (hB6.mono hB.size)
  clear hB6
  refine wpList_var 35 _ _ _ ic.cells rfl rfl rfl rfl rfl img_zero (by rfl) (by rfl) (by rw [ic.size hcw.len]; rfl) (by rw [ic.size hcw.len]; exact img_info) ic.one (fun w7 hCc hB7 => ?_)
  simp only [Act.put, List.setIfInBounds_toArray, List.set_cons_zero, List.set_cons_succ]
  obtain ⟨gC, hgC⟩ : ∃ g, w6.heap.size = g := ⟨_, rfl⟩
  rw [hgC] at hCc
  rw [hgC]
  have hF := hF.on hB7
  have hL := hL.below hB7 hL.lt
  have hA := hA.below hB7 hA.lt
  have hX := hX.below hB7 hX.lt
  have hBb := hBb.below hB7 hBb.lt
  have hB := hB.trans (hB7.mono hB.size)
  clear hB7
  go_upto_region 6 with (fail)
  refine region_mix (Below w7.heap.size w7) [(0, false), (1, false), (2, false), (3, false), (4, false), (5, false), (6, false), (7, true), (8, true)] (by kernel_rfl) (by kernel_rfl) (Below w7.heap.size w7) ⟨Closed.below w7, fun _ h => h⟩ (Below.refl _ _).drew ?_
  simp only [pickOps, List.getElem?_cons_zero, List.getElem?_cons_succ]
  refine mix_read _ (by rfl) (fun W hW => exec_lay (by rfl) (by rfl) (hL.below hW hL.lt)) ?_
  simp only [Act.put, List.setIfInBounds_toArray, List.set_cons_zero, List.set_cons_succ]
  refine mix_read _ (by rfl) (fun W hW => exec_lay (by rfl) (by rfl) (hL.below hW hL.lt)) ?_
  simp only [Act.put, List.setIfInBounds_toArray, List.set_cons_zero, List.set_cons_succ]
  refine mix_read _ (by rfl) (fun W hW => exec_lay (by rfl) (by rfl) (hL.below hW hL.lt)) ?_
  simp only [Act.put, List.setIfInBounds_toArray, List.set_cons_zero, List.set_cons_succ]
  refine mix_read _ (by rfl) (fun W hW => exec_img hcw.len (by rfl) (by rfl) (hCc.below hW hCc.lt)) ?_
  simp only [Act.put, List.setIfInBounds_toArray, List.set_cons_zero, List.set_cons_succ]
  refine mix_call _ _ _ (by rfl) (fun W hW => by (go_simp; first | done | with_reducible rfl)) (fun W hW => Pass_B hcw (hF.on hW)) ?_
  simp only [Act.put, List.setIfInBounds_toArray, List.set_cons_zero, List.set_cons_succ]
  refine mix_call _ _ _ (by rfl) (fun W hW => by (go_simp; first | done | with_reducible rfl)) (fun W hW => Pass_B (passI_wf hcw) (hF.on hW)) ?_
  simp only [Act.put, List.setIfInBounds_toArray, List.set_cons_zero, List.set_cons_succ]
  refine mix_call _ _ _ (by rfl) (fun W hW => by (go_simp; first | done | with_reducible rfl)) (fun W hW => Pass_B (passI_wf (passI_wf hcw)) (hF.on hW)) ?_
  simp only [Act.put, List.setIfInBounds_toArray, List.set_cons_zero, List.set_cons_succ]
  rw [hde]
  refine mix_alloc w7.heap.size 35 [.int .i64 0, .int .i64 0, .int .i64 0, .int .i64 0, .int .i64 0, .int .i64 0, .int .i64 0, .int .i64 0, .int .i64 0, .int .i64 0, .int .i64 0, .int .i64 0, .int .i64 0, .int .i64 0, .int .i64 0, .int .i64 0, .int .i64 0, .int .i64 0, .int .i64 0, .int .i64 0, .int .i64 0, .int .i64 0, .int .i64 0, .int .i64 0, .int .i64 0, .int .u32 0, .int .u32 0, .int .u32 0, .int .u32 0] ⟨Closed.below w7, fun _ h => h⟩ (fun _ h => h.size) (by rfl) (fun W hW => by (go_simp; first | done | with_reducible rfl)) (fun g hg => ?_)
  simp only [Act.put, List.setIfInBounds_toArray, List.set_cons_zero, List.set_cons_succ]
  refine mix_fill 35 (.tmp 6) (.tmp 24) g w7.heap.size w7 [.int .i64 0, .int .i64 0, .int .i64 0, .int .i64 0, .int .i64 0, .int .i64 0, .int .i64 0, .int .i64 0, .int .i64 0, .int .i64 0, .int .i64 0, .int .i64 0, .int .i64 0, .int .i64 0, .int .i64 0, .int .i64 0, .int .i64 0, .int .i64 0, .int .i64 0, .int .i64 0, .int .i64 0, .int .i64 0, .int .i64 0, .int .i64 0, .int .i64 0, .int .u32 0, .int .u32 0, .int .u32 0, .int .u32 0] id.cells hg (fun _ h => h) (Nat.le_refl _) (fun _ h => h) rfl (by rfl) (by rfl) (by rw [id.size hdw.len]; exact img_info) (by rw [id.size hdw.len]; rfl) (by exact List.all_eq_true.2 id.one) (by rfl) ?_
  simp only [Act.put, List.setIfInBounds_toArray, List.set_cons_zero, List.set_cons_succ]
  refine mix_nil (fun w8 h8 => ?_)
  obtain ⟨hB8, hD⟩ := h8
  obtain ⟨Q, HQ, HQf, HQb, HQl, HQa, HQB, HQc, HQd, hq⟩ : ∃ Q : World → Prop, Hid (Closed Q) ∧ Hid (∀ W, Q W → Fld l W) ∧ Hid (∀ W, Q W → Below w.heap.size w W) ∧ Hid (∀ W, Q W → Whole W w1.heap.size 29 l.cells) ∧ Hid (∀ W, Q W → Whole W w3.heap.size 35 ia.cells) ∧ Hid (∀ W, Q W → Whole W gB 35 ib.cells) ∧ Hid (∀ W, Q W → Whole W gC 35 ic.cells) ∧ Hid (∀ W, Q W → Whole W g 35 id.cells) ∧ Q w8 :=
    ⟨fun W => Below w7.heap.size w7 W ∧ Whole W g 35 id.cells, Lib.hid ((Closed.below w7).and (Closed.whole _ _ _)), Lib.hid fun W h => hF.on h.1, Lib.hid fun W h => hB.trans (h.1.mono hB.size), Lib.hid fun W h => hL.below h.1 hL.lt, Lib.hid fun W h => hA.below h.1 hA.lt, Lib.hid fun W h => hBb.below h.1 hBb.lt, Lib.hid fun W h => hCc.below h.1 hCc.lt, Lib.hid fun W h => h.2, ⟨hB8, hD⟩⟩
  have K0 : Hid (∀ W, Q W → Calls Tryd.prog 18 #[l.val, ia.val] W fun e w' => e = .returned (.bool true) ∧ Below W.heap.size W w') := Lib.hid fun W hW => staleI_B hv0 (HQf.out W hW)
  have K1 : Hid (∀ W, Q W → Calls Tryd.prog 20 #[l.val, ia.val, .int .i64 1] W fun e w' => e = .returned (.bool true) ∧ Below W.heap.size W w') := Lib.hid fun W hW => Occupied_B haw (HQf.out W hW) 1 hv1
  have K2 : Hid (∀ W, Q W → Calls Tryd.prog 22 #[l.val, ia.val, .int .i64 1] W fun e w' => e = .returned (.int .i64 (-1)) ∧ Below W.heap.size W w') := Lib.hid fun W hW => At_B haw (HQf.out W hW) 1 hv2
  have K3 : Hid (∀ W, Q W → Calls Tryd.prog 26 #[l.val, ia.val, .int .i64 0] W fun e w' => e = .returned (.bool false) ∧ Below W.heap.size W w') := Lib.hid fun W hW => Lit_B haw (HQf.out W hW) 0 hv3
  have K4 : Hid (∀ W, Q W → Calls Tryd.prog 28 #[l.val, ia.val] W fun e w' => e = .returned (.int .u32 (3 : Nat)) ∧ Below W.heap.size W w') := Lib.hid fun W hW => Mask_B haw (HQf.out W hW) hv4
  have K5 : Hid (∀ W, Q W → Calls Tryd.prog 18 #[l.val, ib.val] W fun e w' => e = .returned (.bool false) ∧ Below W.heap.size W w') := Lib.hid fun W hW => staleI_B hv5 (HQf.out W hW)
  have K6 : Hid (∀ W, Q W → Calls Tryd.prog 20 #[l.val, ib.val, .int .i64 1] W fun e w' => e = .returned (.bool true) ∧ Below W.heap.size W w') := Lib.hid fun W hW => Occupied_B hbw (HQf.out W hW) 1 hv6
  have K7 : Hid (∀ W, Q W → Calls Tryd.prog 20 #[l.val, ic.val, .int .i64 0] W fun e w' => e = .returned (.bool true) ∧ Below W.heap.size W w') := Lib.hid fun W hW => Occupied_B hcw (HQf.out W hW) 0 hv7
  have K8 : Hid (∀ W, Q W → Calls Tryd.prog 24 #[l.val, ic.val, .int .i64 0] W fun e w' => e = .returned (.bool true) ∧ Below W.heap.size W w') := Lib.hid fun W hW => Told_B hcw (HQf.out W hW) 0 hv8
  have K9 : Hid (∀ W, Q W → Calls Tryd.prog 24 #[l.val, ic.val, .int .i64 1] W fun e w' => e = .returned (.bool false) ∧ Below W.heap.size W w') := Lib.hid fun W hW => Told_B hcw (HQf.out W hW) 1 hv9
  have K10 : Hid (∀ W, Q W → Calls Tryd.prog 24 #[l.val, ia.val, .int .i64 0] W fun e w' => e = .returned (.bool false) ∧ Below W.heap.size W w') := Lib.hid fun W hW => Told_B haw (HQf.out W hW) 0 hv10
  have K11 : Hid (∀ W, Q W → Calls Tryd.prog 20 #[l.val, ic.val, .int .i64 1] W fun e w' => e = .returned (.bool false) ∧ Below W.heap.size W w') := Lib.hid fun W hW => Occupied_B hcw (HQf.out W hW) 1 hv11
  have K12 : Hid (∀ W, Q W → Calls Tryd.prog 28 #[l.val, ic.val] W fun e w' => e = .returned (.int .u32 (1 : Nat)) ∧ Below W.heap.size W w') := Lib.hid fun W hW => Mask_B hcw (HQf.out W hW) hv12
  have K13 : Hid (∀ W, Q W → Calls Tryd.prog 22 #[l.val, ic.val, .int .i64 1] W fun e w' => e = .returned (.int .i64 1) ∧ Below W.heap.size W w') := Lib.hid fun W hW => At_B hcw (HQf.out W hW) 1 hv13
  have K14 : Hid (∀ W, Q W → Calls Tryd.prog 22 #[l.val, ic.val, .int .i64 0] W fun e w' => e = .returned (.int .i64 (-1)) ∧ Below W.heap.size W w') := Lib.hid fun W hW => At_B hcw (HQf.out W hW) 0 hv14
  have K15 : Hid (∀ W, Q W → Calls Tryd.prog 26 #[l.val, ic.val, .int .i64 0] W fun e w' => e = .returned (.bool true) ∧ Below W.heap.size W w') := Lib.hid fun W hW => Lit_B hcw (HQf.out W hW) 0 hv15
  have K16 : Hid (∀ W, Q W → Calls Tryd.prog 26 #[l.val, ic.val, .int .i64 1] W fun e w' => e = .returned (.bool false) ∧ Below W.heap.size W w') := Lib.hid fun W hW => Lit_B hcw (HQf.out W hW) 1 hv16
  have K17 : Hid (∀ W, Q W → Calls Tryd.prog 18 #[l.val, id.val] W fun e w' => e = .returned (.bool true) ∧ Below W.heap.size W w') := Lib.hid fun W hW => staleI_B hv17 (HQf.out W hW)
  have K18 : Hid (∀ W, Q W → Calls Tryd.prog 28 #[l.val, id.val] W fun e w' => e = .returned (.int .u32 (3 : Nat)) ∧ Below W.heap.size W w') := Lib.hid fun W hW => Mask_B hdw (HQf.out W hW) hv18
  have K19 : Hid (∀ W, Q W → Calls Tryd.prog 20 #[l.val, ic.val, .int .i64 2] W fun e w' => e = .returned (.bool true) ∧ Below W.heap.size W w') := Lib.hid fun W hW => Occupied_B hcw (HQf.out W hW) 2 hv19
  have K20 : Hid (∀ W, Q W → Calls Tryd.prog 12 #[id.val] W fun e w' => e = .returned (.bool true) ∧ Below W.heap.size W w') := Lib.hid fun W hW => RightI_B hdw (HQf.out W hW).tops (hv20)
  have K21 : Hid (∀ W, Q W → Calls Tryd.prog 12 #[negI.val] W fun e w' => e = .returned (.bool false) ∧ Below W.heap.size W w') := Lib.hid fun W hW => RightI_B negI_wf (HQf.out W hW).tops (wv21)
  clear hF hB hL hA hBb hCc hD hB8 hX hbe hce hde hia
  go_upto_region 7 with (fail)
  apply wp_region_lit
  try simp only [List.append_eq, List.cons_append, List.nil_append]
  refine wpList_read _ (by rfl) (exec_lay (by rfl) (by rfl) (HQl.out _ hq)) ?_
  simp only [Act.put, List.setIfInBounds_toArray, List.set_cons_zero, List.set_cons_succ]
  refine wpList_read _ (by rfl) (exec_img haw.len (by rfl) (by rfl) (HQa.out _ hq)) ?_
  simp only [Act.put, List.setIfInBounds_toArray, List.set_cons_zero, List.set_cons_succ]
  refine wpList_callv (by rfl) (by (go_simp; first | done | with_reducible rfl)) (K0.out _ hq) (fun W hB => ?_)
  simp only [Act.put, List.setIfInBounds_toArray, List.set_cons_zero, List.set_cons_succ]
  have hq := HQ.out _ _ hq hB
  clear hB
  refine wpList_read _ (by rfl) (by (go_simp; first | done | with_reducible rfl)) ?_
  simp only [Act.put, List.setIfInBounds_toArray, List.set_cons_zero, List.set_cons_succ]
  refine wpList_read _ (by rfl) (exec_lay (by rfl) (by rfl) (HQl.out _ hq)) ?_
  simp only [Act.put, List.setIfInBounds_toArray, List.set_cons_zero, List.set_cons_succ]
  refine wpList_read _ (by rfl) (exec_img haw.len (by rfl) (by rfl) (HQa.out _ hq)) ?_
  simp only [Act.put, List.setIfInBounds_toArray, List.set_cons_zero, List.set_cons_succ]
  refine wpList_callv (by rfl) (by (go_simp; first | done | with_reducible rfl)) (K1.out _ hq) (fun W hB => ?_)
  simp only [Act.put, List.setIfInBounds_toArray, List.set_cons_zero, List.set_cons_succ]
  have hq := HQ.out _ _ hq hB
  clear hB
  refine wpList_read _ (by rfl) (by (go_simp; first | done | with_reducible rfl)) ?_
  simp only [Act.put, List.setIfInBounds_toArray, List.set_cons_zero, List.set_cons_succ]
  refine wpList_read _ (by rfl) (by (go_simp; first | done | with_reducible rfl)) ?_
  simp only [Act.put, List.setIfInBounds_toArray, List.set_cons_zero, List.set_cons_succ]
  refine wpList_read _ (by rfl) (exec_lay (by rfl) (by rfl) (HQl.out _ hq)) ?_
  simp only [Act.put, List.setIfInBounds_toArray, List.set_cons_zero, List.set_cons_succ]
  refine wpList_read _ (by rfl) (exec_img haw.len (by rfl) (by rfl) (HQa.out _ hq)) ?_
  simp only [Act.put, List.setIfInBounds_toArray, List.set_cons_zero, List.set_cons_succ]
  refine wpList_callv (by rfl) (by (go_simp; first | done | with_reducible rfl)) (K2.out _ hq) (fun W hB => ?_)
  simp only [Act.put, List.setIfInBounds_toArray, List.set_cons_zero, List.set_cons_succ]
  have hq := HQ.out _ _ hq hB
  clear hB
  refine wpList_read _ (by rfl) (by (go_simp; first | done | with_reducible rfl)) ?_
  simp only [Act.put, List.setIfInBounds_toArray, List.set_cons_zero, List.set_cons_succ]
  refine wpList_read _ (by rfl) (by (go_simp; first | done | with_reducible rfl)) ?_
  simp only [Act.put, List.setIfInBounds_toArray, List.set_cons_zero, List.set_cons_succ]
  refine wpList_read _ (by rfl) (by (go_simp; first | done | with_reducible rfl)) ?_
  simp only [Act.put, List.setIfInBounds_toArray, List.set_cons_zero, List.set_cons_succ]
  refine wpList_read _ (by rfl) (exec_lay (by rfl) (by rfl) (HQl.out _ hq)) ?_
  simp only [Act.put, List.setIfInBounds_toArray, List.set_cons_zero, List.set_cons_succ]
  refine wpList_read _ (by rfl) (exec_img haw.len (by rfl) (by rfl) (HQa.out _ hq)) ?_
  simp only [Act.put, List.setIfInBounds_toArray, List.set_cons_zero, List.set_cons_succ]
  refine wpList_callv (by rfl) (by (go_simp; first | done | with_reducible rfl)) (K3.out _ hq) (fun W hB => ?_)
  simp only [Act.put, List.setIfInBounds_toArray, List.set_cons_zero, List.set_cons_succ]
  have hq := HQ.out _ _ hq hB
  clear hB
  refine wpList_read _ (by rfl) (by (go_simp; first | done | with_reducible rfl)) ?_
  simp only [Act.put, List.setIfInBounds_toArray, List.set_cons_zero, List.set_cons_succ]
  refine wpList_read _ (by rfl) (by (go_simp; first | done | with_reducible rfl)) ?_
  simp only [Act.put, List.setIfInBounds_toArray, List.set_cons_zero, List.set_cons_succ]
  refine wpList_read _ (by rfl) (by (go_simp; first | done | with_reducible rfl)) ?_
  simp only [Act.put, List.setIfInBounds_toArray, List.set_cons_zero, List.set_cons_succ]
  refine wpList_read _ (by rfl) (exec_lay (by rfl) (by rfl) (HQl.out _ hq)) ?_
  simp only [Act.put, List.setIfInBounds_toArray, List.set_cons_zero, List.set_cons_succ]
  refine wpList_read _ (by rfl) (exec_img haw.len (by rfl) (by rfl) (HQa.out _ hq)) ?_
  simp only [Act.put, List.setIfInBounds_toArray, List.set_cons_zero, List.set_cons_succ]
  refine wpList_callv (by rfl) (by (go_simp; first | done | with_reducible rfl)) (K4.out _ hq) (fun W hB => ?_)
  simp only [Act.put, List.setIfInBounds_toArray, List.set_cons_zero, List.set_cons_succ]
  have hq := HQ.out _ _ hq hB
  clear hB
  refine wpList_read _ (by rfl) (by (go_simp; first | done | with_reducible rfl)) ?_
  simp only [Act.put, List.setIfInBounds_toArray, List.set_cons_zero, List.set_cons_succ]
  refine wpList_read _ (by rfl) (by (go_simp; first | done | with_reducible rfl)) ?_
  simp only [Act.put, List.setIfInBounds_toArray, List.set_cons_zero, List.set_cons_succ]
  refine wpList_read _ (by rfl) (by (go_simp; first | done | with_reducible rfl)) ?_
  simp only [Act.put, List.setIfInBounds_toArray, List.set_cons_zero, List.set_cons_succ]
  refine wpList_read _ (by rfl) (exec_lay (by rfl) (by rfl) (HQl.out _ hq)) ?_
  simp only [Act.put, List.setIfInBounds_toArray, List.set_cons_zero, List.set_cons_succ]
  refine wpList_read _ (by rfl) (exec_img hbw.len (by rfl) (by rfl) (HQB.out _ hq)) ?_
  simp only [Act.put, List.setIfInBounds_toArray, List.set_cons_zero, List.set_cons_succ]
  refine wpList_callv (by rfl) (by (go_simp; first | done | with_reducible rfl)) (K5.out _ hq) (fun W hB => ?_)
  simp only [Act.put, List.setIfInBounds_toArray, List.set_cons_zero, List.set_cons_succ]
  have hq := HQ.out _ _ hq hB
  clear hB
  refine wpList_read _ (by rfl) (by (go_simp; first | done | with_reducible rfl)) ?_
  simp only [Act.put, List.setIfInBounds_toArray, List.set_cons_zero, List.set_cons_succ]
  refine wpList_read _ (by rfl) (by (go_simp; first | done | with_reducible rfl)) ?_
  simp only [Act.put, List.setIfInBounds_toArray, List.set_cons_zero, List.set_cons_succ]
  refine wpList_read _ (by rfl) (by (go_simp; first | done | with_reducible rfl)) ?_
  simp only [Act.put, List.setIfInBounds_toArray, List.set_cons_zero, List.set_cons_succ]
  refine wpList_read _ (by rfl) (exec_lay (by rfl) (by rfl) (HQl.out _ hq)) ?_
  simp only [Act.put, List.setIfInBounds_toArray, List.set_cons_zero, List.set_cons_succ]
  refine wpList_read _ (by rfl) (exec_img hbw.len (by rfl) (by rfl) (HQB.out _ hq)) ?_
  simp only [Act.put, List.setIfInBounds_toArray, List.set_cons_zero, List.set_cons_succ]
  refine wpList_callv (by rfl) (by (go_simp; first | done | with_reducible rfl)) (K6.out _ hq) (fun W hB => ?_)
  simp only [Act.put, List.setIfInBounds_toArray, List.set_cons_zero, List.set_cons_succ]
  have hq := HQ.out _ _ hq hB
  clear hB
  refine wpList_read _ (by rfl) (by (go_simp; first | done | with_reducible rfl)) ?_
  simp only [Act.put, List.setIfInBounds_toArray, List.set_cons_zero, List.set_cons_succ]
  refine wpList_read _ (by rfl) (by (go_simp; first | done | with_reducible rfl)) ?_
  simp only [Act.put, List.setIfInBounds_toArray, List.set_cons_zero, List.set_cons_succ]
  refine wpList_read _ (by rfl) (exec_lay (by rfl) (by rfl) (HQl.out _ hq)) ?_
  simp only [Act.put, List.setIfInBounds_toArray, List.set_cons_zero, List.set_cons_succ]
  refine wpList_read _ (by rfl) (exec_img hcw.len (by rfl) (by rfl) (HQc.out _ hq)) ?_
  simp only [Act.put, List.setIfInBounds_toArray, List.set_cons_zero, List.set_cons_succ]
  refine wpList_callv (by rfl) (by (go_simp; first | done | with_reducible rfl)) (K7.out _ hq) (fun W hB => ?_)
  simp only [Act.put, List.setIfInBounds_toArray, List.set_cons_zero, List.set_cons_succ]
  have hq := HQ.out _ _ hq hB
  clear hB
  refine wpList_read _ (by rfl) (by (go_simp; first | done | with_reducible rfl)) ?_
  simp only [Act.put, List.setIfInBounds_toArray, List.set_cons_zero, List.set_cons_succ]
  refine wpList_read _ (by rfl) (by (go_simp; first | done | with_reducible rfl)) ?_
  simp only [Act.put, List.setIfInBounds_toArray, List.set_cons_zero, List.set_cons_succ]
  refine wpList_read _ (by rfl) (exec_lay (by rfl) (by rfl) (HQl.out _ hq)) ?_
  simp only [Act.put, List.setIfInBounds_toArray, List.set_cons_zero, List.set_cons_succ]
  refine wpList_read _ (by rfl) (exec_img hcw.len (by rfl) (by rfl) (HQc.out _ hq)) ?_
  simp only [Act.put, List.setIfInBounds_toArray, List.set_cons_zero, List.set_cons_succ]
  refine wpList_callv (by rfl) (by (go_simp; first | done | with_reducible rfl)) (K8.out _ hq) (fun W hB => ?_)
  simp only [Act.put, List.setIfInBounds_toArray, List.set_cons_zero, List.set_cons_succ]
  have hq := HQ.out _ _ hq hB
  clear hB
  refine wpList_read _ (by rfl) (by (go_simp; first | done | with_reducible rfl)) ?_
  simp only [Act.put, List.setIfInBounds_toArray, List.set_cons_zero, List.set_cons_succ]
  refine wpList_read _ (by rfl) (by (go_simp; first | done | with_reducible rfl)) ?_
  simp only [Act.put, List.setIfInBounds_toArray, List.set_cons_zero, List.set_cons_succ]
  refine wpList_read _ (by rfl) (exec_lay (by rfl) (by rfl) (HQl.out _ hq)) ?_
  simp only [Act.put, List.setIfInBounds_toArray, List.set_cons_zero, List.set_cons_succ]
  refine wpList_read _ (by rfl) (exec_img hcw.len (by rfl) (by rfl) (HQc.out _ hq)) ?_
  simp only [Act.put, List.setIfInBounds_toArray, List.set_cons_zero, List.set_cons_succ]
  refine wpList_callv (by rfl) (by (go_simp; first | done | with_reducible rfl)) (K9.out _ hq) (fun W hB => ?_)
  simp only [Act.put, List.setIfInBounds_toArray, List.set_cons_zero, List.set_cons_succ]
  have hq := HQ.out _ _ hq hB
  clear hB
  refine wpList_read _ (by rfl) (by (go_simp; first | done | with_reducible rfl)) ?_
  simp only [Act.put, List.setIfInBounds_toArray, List.set_cons_zero, List.set_cons_succ]
  refine wpList_read _ (by rfl) (by (go_simp; first | done | with_reducible rfl)) ?_
  simp only [Act.put, List.setIfInBounds_toArray, List.set_cons_zero, List.set_cons_succ]
  refine wpList_read _ (by rfl) (by (go_simp; first | done | with_reducible rfl)) ?_
  simp only [Act.put, List.setIfInBounds_toArray, List.set_cons_zero, List.set_cons_succ]
  refine wpList_read _ (by rfl) (exec_lay (by rfl) (by rfl) (HQl.out _ hq)) ?_
  simp only [Act.put, List.setIfInBounds_toArray, List.set_cons_zero, List.set_cons_succ]
  refine wpList_read _ (by rfl) (exec_img haw.len (by rfl) (by rfl) (HQa.out _ hq)) ?_
  simp only [Act.put, List.setIfInBounds_toArray, List.set_cons_zero, List.set_cons_succ]
  refine wpList_callv (by rfl) (by (go_simp; first | done | with_reducible rfl)) (K10.out _ hq) (fun W hB => ?_)
  simp only [Act.put, List.setIfInBounds_toArray, List.set_cons_zero, List.set_cons_succ]
  have hq := HQ.out _ _ hq hB
  clear hB
  refine wpList_read _ (by rfl) (by (go_simp; first | done | with_reducible rfl)) ?_
  simp only [Act.put, List.setIfInBounds_toArray, List.set_cons_zero, List.set_cons_succ]
  refine wpList_read _ (by rfl) (by (go_simp; first | done | with_reducible rfl)) ?_
  simp only [Act.put, List.setIfInBounds_toArray, List.set_cons_zero, List.set_cons_succ]
  refine wpList_read _ (by rfl) (by (go_simp; first | done | with_reducible rfl)) ?_
  simp only [Act.put, List.setIfInBounds_toArray, List.set_cons_zero, List.set_cons_succ]
  refine wpList_read _ (by rfl) (exec_lay (by rfl) (by rfl) (HQl.out _ hq)) ?_
  simp only [Act.put, List.setIfInBounds_toArray, List.set_cons_zero, List.set_cons_succ]
  refine wpList_read _ (by rfl) (exec_img hcw.len (by rfl) (by rfl) (HQc.out _ hq)) ?_
  simp only [Act.put, List.setIfInBounds_toArray, List.set_cons_zero, List.set_cons_succ]
  refine wpList_callv (by rfl) (by (go_simp; first | done | with_reducible rfl)) (K11.out _ hq) (fun W hB => ?_)
  simp only [Act.put, List.setIfInBounds_toArray, List.set_cons_zero, List.set_cons_succ]
  have hq := HQ.out _ _ hq hB
  clear hB
  refine wpList_read _ (by rfl) (by (go_simp; first | done | with_reducible rfl)) ?_
  simp only [Act.put, List.setIfInBounds_toArray, List.set_cons_zero, List.set_cons_succ]
  refine wpList_read _ (by rfl) (by (go_simp; first | done | with_reducible rfl)) ?_
  simp only [Act.put, List.setIfInBounds_toArray, List.set_cons_zero, List.set_cons_succ]
  refine wpList_read _ (by rfl) (by (go_simp; first | done | with_reducible rfl)) ?_
  simp only [Act.put, List.setIfInBounds_toArray, List.set_cons_zero, List.set_cons_succ]
  refine wpList_read _ (by rfl) (exec_lay (by rfl) (by rfl) (HQl.out _ hq)) ?_
  simp only [Act.put, List.setIfInBounds_toArray, List.set_cons_zero, List.set_cons_succ]
  refine wpList_read _ (by rfl) (exec_img hcw.len (by rfl) (by rfl) (HQc.out _ hq)) ?_
  simp only [Act.put, List.setIfInBounds_toArray, List.set_cons_zero, List.set_cons_succ]
  refine wpList_callv (by rfl) (by (go_simp; first | done | with_reducible rfl)) (K12.out _ hq) (fun W hB => ?_)
  simp only [Act.put, List.setIfInBounds_toArray, List.set_cons_zero, List.set_cons_succ]
  have hq := HQ.out _ _ hq hB
  clear hB
  refine wpList_read _ (by rfl) (by (go_simp; first | done | with_reducible rfl)) ?_
  simp only [Act.put, List.setIfInBounds_toArray, List.set_cons_zero, List.set_cons_succ]
  refine wpList_read _ (by rfl) (by (go_simp; first | done | with_reducible rfl)) ?_
  simp only [Act.put, List.setIfInBounds_toArray, List.set_cons_zero, List.set_cons_succ]
  refine wpList_read _ (by rfl) (by (go_simp; first | done | with_reducible rfl)) ?_
  simp only [Act.put, List.setIfInBounds_toArray, List.set_cons_zero, List.set_cons_succ]
  refine wpList_read _ (by rfl) (exec_lay (by rfl) (by rfl) (HQl.out _ hq)) ?_
  simp only [Act.put, List.setIfInBounds_toArray, List.set_cons_zero, List.set_cons_succ]
  refine wpList_read _ (by rfl) (exec_img hcw.len (by rfl) (by rfl) (HQc.out _ hq)) ?_
  simp only [Act.put, List.setIfInBounds_toArray, List.set_cons_zero, List.set_cons_succ]
  refine wpList_callv (by rfl) (by (go_simp; first | done | with_reducible rfl)) (K13.out _ hq) (fun W hB => ?_)
  simp only [Act.put, List.setIfInBounds_toArray, List.set_cons_zero, List.set_cons_succ]
  have hq := HQ.out _ _ hq hB
  clear hB
  refine wpList_read _ (by rfl) (by (go_simp; first | done | with_reducible rfl)) ?_
  simp only [Act.put, List.setIfInBounds_toArray, List.set_cons_zero, List.set_cons_succ]
  refine wpList_read _ (by rfl) (by (go_simp; first | done | with_reducible rfl)) ?_
  simp only [Act.put, List.setIfInBounds_toArray, List.set_cons_zero, List.set_cons_succ]
  refine wpList_read _ (by rfl) (by (go_simp; first | done | with_reducible rfl)) ?_
  simp only [Act.put, List.setIfInBounds_toArray, List.set_cons_zero, List.set_cons_succ]
  refine wpList_read _ (by rfl) (exec_lay (by rfl) (by rfl) (HQl.out _ hq)) ?_
  simp only [Act.put, List.setIfInBounds_toArray, List.set_cons_zero, List.set_cons_succ]
  refine wpList_read _ (by rfl) (exec_img hcw.len (by rfl) (by rfl) (HQc.out _ hq)) ?_
  simp only [Act.put, List.setIfInBounds_toArray, List.set_cons_zero, List.set_cons_succ]
  refine wpList_callv (by rfl) (by (go_simp; first | done | with_reducible rfl)) (K14.out _ hq) (fun W hB => ?_)
  simp only [Act.put, List.setIfInBounds_toArray, List.set_cons_zero, List.set_cons_succ]
  have hq := HQ.out _ _ hq hB
  clear hB
  refine wpList_read _ (by rfl) (by (go_simp; first | done | with_reducible rfl)) ?_
  simp only [Act.put, List.setIfInBounds_toArray, List.set_cons_zero, List.set_cons_succ]
  refine wpList_read _ (by rfl) (by (go_simp; first | done | with_reducible rfl)) ?_
  simp only [Act.put, List.setIfInBounds_toArray, List.set_cons_zero, List.set_cons_succ]
  refine wpList_read _ (by rfl) (by (go_simp; first | done | with_reducible rfl)) ?_
  simp only [Act.put, List.setIfInBounds_toArray, List.set_cons_zero, List.set_cons_succ]
  refine wpList_read _ (by rfl) (exec_lay (by rfl) (by rfl) (HQl.out _ hq)) ?_
  simp only [Act.put, List.setIfInBounds_toArray, List.set_cons_zero, List.set_cons_succ]
  refine wpList_read _ (by rfl) (exec_img hcw.len (by rfl) (by rfl) (HQc.out _ hq)) ?_
  simp only [Act.put, List.setIfInBounds_toArray, List.set_cons_zero, List.set_cons_succ]
  refine wpList_callv (by rfl) (by (go_simp; first | done | with_reducible rfl)) (K15.out _ hq) (fun W hB => ?_)
  simp only [Act.put, List.setIfInBounds_toArray, List.set_cons_zero, List.set_cons_succ]
  have hq := HQ.out _ _ hq hB
  clear hB
  refine wpList_read _ (by rfl) (by (go_simp; first | done | with_reducible rfl)) ?_
  simp only [Act.put, List.setIfInBounds_toArray, List.set_cons_zero, List.set_cons_succ]
  refine wpList_read _ (by rfl) (by (go_simp; first | done | with_reducible rfl)) ?_
  simp only [Act.put, List.setIfInBounds_toArray, List.set_cons_zero, List.set_cons_succ]
  refine wpList_read _ (by rfl) (exec_lay (by rfl) (by rfl) (HQl.out _ hq)) ?_
  simp only [Act.put, List.setIfInBounds_toArray, List.set_cons_zero, List.set_cons_succ]
  refine wpList_read _ (by rfl) (exec_img hcw.len (by rfl) (by rfl) (HQc.out _ hq)) ?_
  simp only [Act.put, List.setIfInBounds_toArray, List.set_cons_zero, List.set_cons_succ]
  refine wpList_callv (by rfl) (by (go_simp; first | done | with_reducible rfl)) (K16.out _ hq) (fun W hB => ?_)
  simp only [Act.put, List.setIfInBounds_toArray, List.set_cons_zero, List.set_cons_succ]
  have hq := HQ.out _ _ hq hB
  clear hB
  refine wpList_read _ (by rfl) (by (go_simp; first | done | with_reducible rfl)) ?_
  simp only [Act.put, List.setIfInBounds_toArray, List.set_cons_zero, List.set_cons_succ]
  refine wpList_read _ (by rfl) (by (go_simp; first | done | with_reducible rfl)) ?_
  simp only [Act.put, List.setIfInBounds_toArray, List.set_cons_zero, List.set_cons_succ]
  refine wpList_read _ (by rfl) (by (go_simp; first | done | with_reducible rfl)) ?_
  simp only [Act.put, List.setIfInBounds_toArray, List.set_cons_zero, List.set_cons_succ]
  refine wpList_read _ (by rfl) (exec_lay (by rfl) (by rfl) (HQl.out _ hq)) ?_
  simp only [Act.put, List.setIfInBounds_toArray, List.set_cons_zero, List.set_cons_succ]
  refine wpList_read _ (by rfl) (exec_img hdw.len (by rfl) (by rfl) (HQd.out _ hq)) ?_
  simp only [Act.put, List.setIfInBounds_toArray, List.set_cons_zero, List.set_cons_succ]
  refine wpList_callv (by rfl) (by (go_simp; first | done | with_reducible rfl)) (K17.out _ hq) (fun W hB => ?_)
  simp only [Act.put, List.setIfInBounds_toArray, List.set_cons_zero, List.set_cons_succ]
  have hq := HQ.out _ _ hq hB
  clear hB
  refine wpList_read _ (by rfl) (by (go_simp; first | done | with_reducible rfl)) ?_
  simp only [Act.put, List.setIfInBounds_toArray, List.set_cons_zero, List.set_cons_succ]
  refine wpList_read _ (by rfl) (by (go_simp; first | done | with_reducible rfl)) ?_
  simp only [Act.put, List.setIfInBounds_toArray, List.set_cons_zero, List.set_cons_succ]
  refine wpList_read _ (by rfl) (exec_lay (by rfl) (by rfl) (HQl.out _ hq)) ?_
  simp only [Act.put, List.setIfInBounds_toArray, List.set_cons_zero, List.set_cons_succ]
  refine wpList_read _ (by rfl) (exec_img hdw.len (by rfl) (by rfl) (HQd.out _ hq)) ?_
  simp only [Act.put, List.setIfInBounds_toArray, List.set_cons_zero, List.set_cons_succ]
  refine wpList_callv (by rfl) (by (go_simp; first | done | with_reducible rfl)) (K18.out _ hq) (fun W hB => ?_)
  simp only [Act.put, List.setIfInBounds_toArray, List.set_cons_zero, List.set_cons_succ]
  have hq := HQ.out _ _ hq hB
  clear hB
  refine wpList_read _ (by rfl) (by (go_simp; first | done | with_reducible rfl)) ?_
  simp only [Act.put, List.setIfInBounds_toArray, List.set_cons_zero, List.set_cons_succ]
  refine wpList_read _ (by rfl) (by (go_simp; first | done | with_reducible rfl)) ?_
  simp only [Act.put, List.setIfInBounds_toArray, List.set_cons_zero, List.set_cons_succ]
  refine wpList_read _ (by rfl) (by (go_simp; first | done | with_reducible rfl)) ?_
  simp only [Act.put, List.setIfInBounds_toArray, List.set_cons_zero, List.set_cons_succ]
  refine wpList_read _ (by rfl) (exec_lay (by rfl) (by rfl) (HQl.out _ hq)) ?_
  simp only [Act.put, List.setIfInBounds_toArray, List.set_cons_zero, List.set_cons_succ]
  refine wpList_read _ (by rfl) (exec_img hcw.len (by rfl) (by rfl) (HQc.out _ hq)) ?_
  simp only [Act.put, List.setIfInBounds_toArray, List.set_cons_zero, List.set_cons_succ]
  refine wpList_callv (by rfl) (by (go_simp; first | done | with_reducible rfl)) (K19.out _ hq) (fun W hB => ?_)
  simp only [Act.put, List.setIfInBounds_toArray, List.set_cons_zero, List.set_cons_succ]
  have hq := HQ.out _ _ hq hB
  clear hB
  refine wpList_read _ (by rfl) (by (go_simp; first | done | with_reducible rfl)) ?_
  simp only [Act.put, List.setIfInBounds_toArray, List.set_cons_zero, List.set_cons_succ]
  refine wpList_read _ (by rfl) (by (go_simp; first | done | with_reducible rfl)) ?_
  simp only [Act.put, List.setIfInBounds_toArray, List.set_cons_zero, List.set_cons_succ]
  refine wpList_read _ (by rfl) (exec_img hdw.len (by rfl) (by rfl) (HQd.out _ hq)) ?_
  simp only [Act.put, List.setIfInBounds_toArray, List.set_cons_zero, List.set_cons_succ]
  refine wpList_callv (by rfl) (by (go_simp; first | done | with_reducible rfl)) (K20.out _ hq) (fun W hB => ?_)
  simp only [Act.put, List.setIfInBounds_toArray, List.set_cons_zero, List.set_cons_succ]
  have hq := HQ.out _ _ hq hB
  clear hB
  refine wpList_read _ (by rfl) (by (go_simp; first | done | with_reducible rfl)) ?_
  simp only [Act.put, List.setIfInBounds_toArray, List.set_cons_zero, List.set_cons_succ]
  refine wpList_read _ (by rfl) (by (go_simp; first | done | with_reducible rfl)) ?_
  simp only [Act.put, List.setIfInBounds_toArray, List.set_cons_zero, List.set_cons_succ]
  refine wpList_read _ (by rfl) (exec_build (cells := negI.cells.toArray) _ _ rfl (by kernel_rfl) _) ?_
  simp only [Act.put, List.setIfInBounds_toArray, List.set_cons_zero, List.set_cons_succ]
  refine wpList_callv (by rfl) (by (go_simp; first | done | with_reducible rfl)) (K21.out _ hq) (fun W hB => ?_)
  simp only [Act.put, List.setIfInBounds_toArray, List.set_cons_zero, List.set_cons_succ]
  have hq := HQ.out _ _ hq hB
  clear hB
  refine wpList_read _ (by rfl) (by (go_simp; first | done | with_reducible rfl)) ?_
  simp only [Act.put, List.setIfInBounds_toArray, List.set_cons_zero, List.set_cons_succ]
  refine wpList_read _ (by rfl) (by (go_simp; first | done | with_reducible rfl)) ?_
  simp only [Act.put, List.setIfInBounds_toArray, List.set_cons_zero, List.set_cons_succ]
  refine wpList_read _ (by rfl) (by (go_simp; first | done | with_reducible rfl)) ?_
  simp only [Act.put, List.setIfInBounds_toArray, List.set_cons_zero, List.set_cons_succ]
  have HB := Lib.hid (HQb.out _ hq)
  clear hq
  go_wp2_with fail
  go_ret
  exact ⟨rfl, HB.out⟩

end Go.Proofs.YtniihmafbeplaaaDoor
