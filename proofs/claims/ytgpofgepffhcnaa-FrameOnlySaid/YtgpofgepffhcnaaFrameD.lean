/- Package frame: Put. -/
import Derived.Test.YtgpofgepffhcnaaFrameC
import Derived.WalkMore
import Derived.Deep.RegionWith
import Derived.RangeFuncNested
namespace Go.Proofs.Ytgpofgepffhcnaa
open Go.RowKit Go.Shelf
set_option linter.unusedVariables false
attribute [local go_sem] Oper.semAt_some

theorem wpIn_scope_fwd' {m : Nat} {P : Program} {l : Nat} {rest c : Code} {Q : Exit → Act → World → Prop} {a : Act} {w : World} (hf : findLabel c l = some rest) (h : c.wpIn Fence.wide m P (Exit.fwd P l rest Q) a w) : (Code.scope c).wpIn Fence.wide m P Q a w :=
  wpIn_wide.2 (wp_scope_fwd hf (wpIn_wide.1 h))

theorem sizeF_no {k : Int} {n : Nat} (h : rightF k n = false) : sizeF k n = 0 := by unfold sizeF; rw [h]; rfl
theorem sizeF_yes {k : Int} {n : Nat} (h : rightF k n = true) : sizeF k n = 5 + (n : Int) := by unfold sizeF; rw [h]; rfl
theorem size_no (k q : Int) (A : Option Addr) (n c : Nat) (w : World) (h0 : 0 ≤ k) (h1 : k ≤ 255) (hn : n ≤ maxLen) (h : rightF k n = false) :
    Calls Try.prog 19 #[frV k q A n c] w fun e w' => e = .returned (.int .i64 0) ∧ Below w.heap.size w w' := by rw [← sizeF_no h]; exact size_any k q A n c w h0 h1 hn
theorem size_yes (k q : Int) (A : Option Addr) (n c : Nat) (w : World) (h0 : 0 ≤ k) (h1 : k ≤ 255) (hn : n ≤ maxLen) (h : rightF k n = true) :
    Calls Try.prog 19 #[frV k q A n c] w fun e w' => e = .returned (.int .i64 (5 + (n : Int))) ∧ Below w.heap.size w w' := by rw [← sizeF_yes h]; exact size_any k q A n c w h0 h1 hn

theorem make_5 (n : Nat) (h : n ≤ 59) (W : World) : (Instr.makeSlice 22 (.int .i64 0) (.int .i64 (5 + (n : Int)))).run Try.prog W = .ok (.slice (some ⟨W.heap.size, 0, none⟩) 0 (5 + n)) (W.alloc (.cells (List.replicate (5 + n) (.int .u8 0)).toArray 5)) := by
  have h := make_cap_run (P := Try.prog) 22 5 _ 1 Try.underlying22 info_u8 rfl 0 (5 + n) (by omega) (by omega) (by omega) W
  have e2 : ((5 + n : Nat) : Int) = 5 + (n : Int) := by simp
  rw [e2] at h
  exact h
theorem make_0 (W : World) : (Instr.makeSlice 22 (.int .i64 0) (.int .i64 0)).run Try.prog W = .ok (.slice (some ⟨W.heap.size, 0, none⟩) 0 0) (W.alloc (.cells #[] 5)) :=
  make_cap_run (P := Try.prog) 22 5 _ 1 Try.underlying22 info_u8 rfl 0 0 (by omega) (by omega) (by omega) W

set_option maxRecDepth 100000 in
set_option maxHeartbeats 4000000 in
theorem put_no (k q : Int) (A : Option Addr) (cap n : Nat) (w : World) (hk : IsByte k) (hl : n ≤ maxLen) (h : rightF k n = false) :
    Calls Try.prog 9 #[frV k q A n cap] w fun e w' => e = .returned (.tuple #[.slice none 0 0, .int .i64 2]) ∧ Below w.heap.size w w' := by
  have H := Lib.hid h
  have HL := Lib.hid hl
  clear h hl
  have hmk := make_0
  go_enter Try.func9, Try.ntmps9
  go_wp2_with fail
  refine wp_scope_fwd (l := 0) rfl ?_
  go_wp2_with fail
  refine (size_no k q A n cap _ hk.1 hk.2 HL.out H.out).mono ?_
  rintro e w1 ⟨rfl, hB1⟩
  have hx := ((Whole.new w 24 [.int .u8 k, .int .u8 q, .slice A n cap])).below hB1 (by simp)
  have hb := fun o o' => hx.below (below2 w1 o o') hx.lt
  have x0 := fun o o' => (hb o o').cell_at 0 rfl
  have x1 := fun o o' => (hb o o').cell_at 1 rfl
  have x2 := fun o o' => (hb o o').cell_at 2 rfl
  go_wp2_with fail
  refine (right_no k q A n cap _ hk.1 hk.2 HL.out H.out).mono ?_
  rintro e w2 ⟨rfl, hB2⟩
  have hB := ((below1 w _).trans (hB1.mono (by simp))).trans (((below2 w1 _ _).trans (hB2.mono (by simp; omega))).mono (by have := hB1.size; simp at this; omega))
  clear x0 x1 x2
  go_wp2
  go_step3
  simp only [Exit.then, fwd_goto]
  refine ⟨trivial, ?_⟩
  go_wp2
  rw [Exit.noGoto_ret]
  go_ret2
  exact ⟨rfl, hB⟩

theorem whole_not_row {W : World} {B : Nat} {t e : TypeId} {cs : List Value} (h : Whole W B t cs) (hte : t ≠ e) {base size k : Nat} {v : Value} {xs : List Value} (hr : W.ownsRow base e size v k xs) : some B ≠ v.ownBlock := by
  rcases hr.2 with ⟨rfl, _⟩ | ⟨g, cap, cur, rfl, _, hgb, _⟩
  · simp [Value.ownBlock]
  · intro e'
    obtain rfl : B = g := by simpa [Value.ownBlock] using e'
    have := (show W.heap[B]? = _ from h).symm.trans hgb
    simp at this
    exact hte this.2
theorem whole_boxed {W : World} {B : Nat} {t : TypeId} {v : Value} (h : Whole W B t [v]) : Boxed W B t v := h

theorem close_n (A : Option Addr) (cap n : Nat) (zs : List Int) (w : World) (hn : n = zs.length) (hr : Row w w.heap.size A (u8s zs)) (hz : ∀ z ∈ zs, IsByte z) (hzl : zs.length ≤ 1099511627776) :
    Calls Try.prog 25 #[.slice A n cap] w fun e w' => ∃ A' c', e = .returned (.slice A' (n + 2) c') ∧ Row w' w'.heap.size A' (u8s (closeB zs)) ∧ n + 2 ≤ c' ∧ Below w.heap.size w w' := by
  subst hn; exact close_any A cap zs w hr hz hzl

set_option maxRecDepth 100000 in
set_option maxHeartbeats 4000000 in
theorem put_yes (k q : Int) (A : Option Addr) (cap : Nat) (zs : List Int) (w : World) (hr : Row w w.heap.size A (u8s zs)) (hz : ∀ z ∈ zs, IsByte z) (hk : IsByte k) (hq : IsByte q) (h : rightF k zs.length = true) :
    Calls Try.prog 9 #[frV k q A zs.length cap] w fun e w' => ∃ A' c', e = .returned (.tuple #[.slice A' (zs.length + 5) c', .int .i64 0]) ∧ Row w' w'.heap.size A' (u8s (closeB (bytesF k q zs))) ∧ zs.length + 5 ≤ c' ∧ Below w.heap.size w w' := by
  have hl59 := rightF_le h
  have H := Lib.hid h
  have HM := Lib.hid (show zs.length ≤ maxLen by unfold maxLen; omega)
  clear h
  have hmk := make_5 zs.length hl59
  obtain ⟨i0, hi, hz0, hz1, hz2⟩ := info_parts info_u8
  have HI := Lib.hid hi
  have HI0 := Lib.hid hz0
  have HI1 := Lib.hid hz1
  have HI2 := Lib.hid hz2
  clear hi hz0 hz1 hz2
  refine (callsIn_wide (n := 4)).1 ?_
  refine callsIn_of_wp_marks Try.func9 rfl trivial ?_ rfl
  simp only [Try.ntmps9, List.size_toArray, List.length_cons, List.length_nil, Nat.reduceAdd, Nat.reduceSub, Array.replicate_succ, Array.replicate_zero, List.push_toArray, List.append_toArray, List.nil_append, List.cons_append]
  gi_wp2
  refine wpIn_scope_fwd' (l := 0) rfl ?_
  gi_wp2_with fail
  refine ⟨trivial, (callsIn_wide.2 (size_yes k q A zs.length cap _ hk.1 hk.2 HM.out H.out)).mono ?_⟩
  rintro e w1 ⟨rfl, hB1⟩
  have hx := ((Whole.new w 24 [.int .u8 k, .int .u8 q, .slice A zs.length cap])).below hB1 (by simp)
  have hBw1 := (below1 w _).trans (hB1.mono (by simp))
  have hs1 : w.heap.size < w1.heap.size := hx.lt
  clear hB1
  have hb := fun o o' => hx.below (below2 w1 o o') hx.lt
  have x0 := fun o o' => (hb o o').cell_at 0 rfl
  have x1 := fun o o' => (hb o o').cell_at 1 rfl
  have x2 := fun o o' => (hb o o').cell_at 2 rfl
  gi_wp2_with fail
  clear hmk x0 x1 x2 hb
  obtain ⟨W1, hW1, hsW1, hbW1, hgW1, hxW1⟩ : ∃ W1, ((w1.alloc (.cells (Array.replicate (5 + zs.length) (.int .u8 0)) 5)).alloc (.cells #[.slice (some ⟨w1.heap.size, 0, none⟩) 0 (5 + zs.length)] 22)) = W1 ∧ W1.heap.size = w1.heap.size + 1 + 1 ∧ Below w1.heap.size w1 W1 ∧
      Whole W1 w1.heap.size 5 (List.replicate (5 + zs.length) (.int .u8 0)) ∧ Whole W1 (w1.heap.size + 1) 22 [.slice (some ⟨w1.heap.size, 0, none⟩) 0 (5 + zs.length)] := by
    refine ⟨_, rfl, by simp, below2 _ _ _, ?_, Whole.new_at _ _ [_] _ (by simp)⟩
    rw [← List.toArray_replicate]
    exact (Whole.new w1 _ _).alloc _
  rw [hW1]
  clear hW1
  refine ⟨trivial, (callsIn_wide.2 (right_yes k q A zs.length cap _ hk.1 hk.2 HM.out H.out)).mono ?_⟩
  rintro e w2 ⟨rfl, hB2⟩
  have hs2 := hB2.size
  have hg2 := hgW1.below hB2 hgW1.lt
  have hx2 := hxW1.below hB2 hxW1.lt
  have hf2 := (hx.below hbW1 hx.lt).below hB2 (by omega)
  have hBw2 := (hBw1.trans (hbW1.mono hBw1.size)).trans (hB2.mono (by omega))
  clear hB2 hgW1 hxW1 hx hbW1
  have x0 := hf2.cell_at 0 rfl
  have x1 := hf2.cell_at 1 rfl
  have x2 := hf2.cell_at 2 rfl
  gi_wp2_with fail
  refine ⟨trivial, (open_in Fence.wide 3 trivial rfl k q A zs.length cap _).mono ?_⟩
  rintro e w3 ⟨rfl, rfl⟩
  gi_wp2_with fail
  clear x0 x1 x2
  obtain ⟨W0, hW0, hsz, hb0, hfr, hg0, hbx⟩ : ∃ W0, (w2.alloc (.cells #[.int .u8 k, .int .u8 q, .slice A zs.length cap] 24)) = W0 ∧ W0.heap.size = w2.heap.size + 1 ∧ Below w2.heap.size w2 W0 ∧ Whole W0 w2.heap.size 24 [.int .u8 k, .int .u8 q, .slice A zs.length cap] ∧
      Whole W0 w1.heap.size 5 (List.replicate (5 + zs.length) (.int .u8 0)) ∧ Whole W0 (w1.heap.size + 1) 22 [.slice (some ⟨w1.heap.size, 0, none⟩) 0 (5 + zs.length)] :=
    ⟨_, rfl, by simp, below1 _ _, Whole.new _ _ [_, _, _], hg2.alloc _, hx2.alloc _⟩
  rw [hW0]
  clear hW0
  have hBW0 := hBw2.trans (hb0.mono hBw2.size)
  have hown0 := owns_of_whole hg0 (Nat.le_refl _) (n := 0) (cap := 5 + zs.length) (by omega) (by unfold maxLen; omega) (by simp)
  have hseq := open_stops Fence.wide 3 trivial rfl (by omega) w2.heap.size w.heap.size cap k q A zs hz hl59 W0
    (KeepB (fun b => b < w.heap.size ∨ b = w2.heap.size)) (fun b => b < w.heap.size ∨ b = w2.heap.size) (fun X Y h => h.keeps) (.inr rfl) (fun b hb => .inl hb) (by omega) (by omega) (hfr.cell_at 0 rfl) (hfr.cell_at 1 rfl) (hfr.cell_at 2 rfl) (hr.below hBW0)
  have HSZ := Lib.hid hsz
  have HS2 := Lib.hid hs2
  have HSW := Lib.hid hsW1
  clear hg2 hx2 hf2 hsz hs2 hsW1
  refine wpIn_rangeFunc_ownF rfl (by omega) (gf := 32) rfl trivial (enters_of Try.func32 (by kernel_rfl) rfl) hseq KeepB.trans (KeepB.put (by have := HSZ.out; have := HS2.out; have := HSW.out; rintro b (hb | rfl) <;> omega)) (Below.refl _ _) (fun _ => rfl)
    (fun pre W => (∃ v, Boxed W (w1.heap.size + 1) 22 v ∧ W.ownsRow w1.heap.size 5 1 v pre.length (u8s pre) ∧ True) ∧ Whole W w2.heap.size 24 [.int .u8 k, .int .u8 q, .slice A zs.length cap] ∧ Below w1.heap.size W0 W ∧ Below w.heap.size w W)
    (fun _ _ _ => False)
    (OwnFrom.and (Own.from (holdsRow_own w1.heap.size (w1.heap.size + 1) 22 5 1 (fun pre : List Int => pre.length) (fun pre => u8s pre) (fun _ _ => True)) _) (OwnFrom.and (Own.from (fun s X Y row hs hg hr => hs.abides hg hr) _) (OwnFrom.and (ownFrom_below (by have := HSZ.out; have := HS2.out; have := HSW.out; omega) (by have := HSZ.out; have := HS2.out; have := HSW.out; omega)) (ownFrom_below (Nat.le_refl _) (by have := HSZ.out; have := HS2.out; have := HSW.out; omega)))))
    (fun _ _ _ _ _ hs _ _ => hs)
    ⟨⟨_, whole_boxed hbx, hown0, trivial⟩, hfr, Below.refl _ _, hBW0⟩ ?a1 ?assign ?body ?done ?stop
  case stop =>
    rintro D c pre W _ _ h _
    exact h.elim
  case assign =>
    intro lr x W K hK
    unfold encU
    gi_wp2
    exact hK
  case body =>
    rintro lr pre x W ⟨⟨v, hv, hrow, _⟩, hfr, hB0, hB⟩ hlt
    have hc := hv.cell
    have hsW : w1.heap.size ≤ W.heap.size := by have := hB0.size; have := HSZ.out; have := HS2.out; have := HSW.out; omega
    gi_wp2_with (gi_at_builtin; refine wpListIn_append_own _ rfl _ _ 22 rfl w1.heap.size 5 i0 (.int .u8 0) 1 1 Try.underlying22 HI.out HI0.out HI1.out HI2.out rfl (by decide) _ _ _ rfl (hrow.alloc _) ⟨W.heap.size, 0, none⟩ 1 1 [.int .u8 x] rfl rfl (cell_one_new _ _ _) (by simp [Value.oneCell']) (by unfold maxLen; omega) (by omega) (by simp; omega) ?_; intro v' w1' hown' hgrow _; obtain ⟨g', cap', rfl⟩ := ownsRow_succ hown'; obtain ⟨hv1, hv2, hr2, hk2, hb2⟩ := hv.appended (by decide) hrow hsW (Nat.le_succ _) hown' hgrow; have hc1 := hv1.cell; have hf1 := hv1.frozen)
    have hne : w2.heap.size ≠ w1.heap.size + 1 := by have := HS2.out; have := HSW.out; omega
    have hfr2 := (((hfr.alloc _).kept hgrow (fun e => whole_not_row hfr (by decide) hrow e)).far (p := ⟨w1.heap.size + 1, 0, none⟩) (fun e => hne e) (.slice (some ⟨g', 0, none⟩) (pre.length + 1) cap'))
    refine ⟨hk2, ⟨by have := hb2.size; simpa using this, ?_⟩, ⟨_, hv2, ?_, trivial⟩, hfr2, hB0.trans hb2, hB.trans (hb2.mono (by have := hs1; omega))⟩
    · rintro b (hb | rfl)
      · exact hb2.block b (by have := hs1; omega)
      · exact (show _ = _ from hfr2).trans (show _ = _ from hfr).symm
    · rw [u8s_append]; simpa [u8s] using hr2
  case done =>
    rintro D ys W hD rfl ⟨⟨v, hv, hrow, _⟩, hfr, hB0, hB⟩ hK
    have hl : (bytesF k q zs).length = zs.length + 2 + 1 := bytesF_length k q zs
    rw [hl] at hrow
    obtain ⟨g, c, rfl⟩ := ownsRow_succ hrow
    have hc := hv.cell
    have hgl := owns_lt hrow
    have HR := Lib.hid (owns_row hrow hgl.2)
    have HLN := Lib.hid hl
    clear hl hfr
    gi_wp2_with fail
    refine ⟨trivial, (callsIn_wide.2 (close_n _ _ _ (bytesF k q zs) _ HLN.out.symm HR.out (bytesF_byte hk hq hl59 hz) (by have := HLN.out; omega))).mono ?_⟩
    rintro e w4 ⟨A', c', rfl, hr4, hc4, hB4⟩
    have hK4 := (hB4.block D (Array.getElem?_eq_some_iff.1 hK).1).trans hK
    gi_wp2
    rw [fwd_ret]
    refine ⟨by simp, .inl ⟨_, _, rfl, run_takeDeferred hK4, ?_⟩⟩
    refine ⟨_, results_tmp2 rfl _ _ _, A', c', rfl, ?_, hc4, (hB.trans (hB4.mono hB.size)).trans (belowK_b (w := w) (Nat.le_refl _) w4 D _ _ (by have := HSZ.out; have := HS2.out; have := HSW.out; omega) hK4 rfl rfl)⟩
    have h5 := row_putObj hr4 (.deferred none) hK4 rfl
    exact h5.mono (by simp [World.putObj])
end Go.Proofs.Ytgpofgepffhcnaa
