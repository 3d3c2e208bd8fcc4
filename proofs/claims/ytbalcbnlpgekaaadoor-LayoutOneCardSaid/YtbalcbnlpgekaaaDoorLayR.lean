/- What the document says of a line, of layer 6 (wakes). -/
import Derived.Test.YtbalcbnlpgekaaaDoorLayQ
import Derived.Test.YtbalcbnlpgekaaaDoorSteady3
import Derived.Deep.CutRange
namespace Go.Proofs.YtbalcbnlpgekaaaDoor
open Go.RowKit Go.Shelf
set_option linter.unusedVariables false
set_option linter.unusedSimpArgs false

section
variable {l : Lay} {w : World} (hT : Shapes w) (hL : Lies l w)
include hT hL
theorem at_B (s p : Int) {x : Sec} {r : Bool} (hx : atV l s p = x) (hr : thereV l s p = r) : Calls Tryd.prog 10 #[l.val, prtV s p] w fun e w' => e = .returned (.tuple #[x.val, .bool r]) ∧ Below w.heap.size w w' :=
  at_P (P := fun W => Below w.heap.size w W) (Closed.below w) (fun W h => Shapes.closed _ _ hT h) (fun W h => Lies.closed l _ _ hL h) s p hx hr (Below.refl _ _)
theorem step_B (s i o : Int) {v : Int} {r : Bool} (hv : wayK (kindV l s) i o = v) (hr : stepV l s i o = r) : Calls Tryd.prog 12 #[l.val, stpV s i o] w fun e w' => e = .returned (.tuple #[.int .i64 v, .bool r]) ∧ Below w.heap.size w w' :=
  step_P (P := fun W => Below w.heap.size w W) (Closed.below w) (fun W h => Shapes.closed _ _ hT h) (fun W h => Lies.closed l _ _ hL h) s i o hv hr (Below.refl _ _)
theorem right_B {r : Bool} (hr : rightL l = r) : Calls Tryd.prog 18 #[l.val] w fun e w' => e = .returned (.bool r) ∧ Below w.heap.size w w' := rightL_any w hT hL hr
omit hT in
theorem signal_B (s p : Int) {r : Int} (hr : signalV l s p = r) : Calls Tryd.prog 14 #[l.val, prtV s p] w fun e w' => e = .returned (.int .i64 r) ∧ Below w.heap.size w w' :=
  signal_P (P := fun W => Below w.heap.size w W) (Closed.below w) (fun W h => Lies.closed l _ _ hL h) s p hr (Below.refl _ _)
omit hT in
theorem exit_B (s p : Int) {r : Int} (hr : exitV l s p = r) : Calls Tryd.prog 16 #[l.val, prtV s p] w fun e w' => e = .returned (.int .i64 r) ∧ Below w.heap.size w w' :=
  exit_P (P := fun W => Below w.heap.size w W) (Closed.below w) (fun W h => Lies.closed l _ _ hL h) s p hr (Below.refl _ _)
omit hT in
theorem same_B {m : Lay} (hM : Lies m w) {r : Bool} (hr : sameV l m = r) : Calls Tryd.prog 20 #[l.val, m.val] w fun e w' => e = .returned (.bool r) ∧ Below w.heap.size w w' :=
  sameL_P (P := fun W => Below w.heap.size w W) (Closed.below w) (fun W h => Lies.closed l _ _ hL h) (fun W h => Lies.closed m _ _ hM h) hr (Below.refl _ _)
end
theorem keepR {R : World → Prop} (hR : Closed R) {f : FuncId} {args : Array Value} {w : World} {v : Value} (h : Calls Tryd.prog f args w fun e w' => e = .returned v ∧ Below w.heap.size w w') (hw : R w) : Calls Tryd.prog f args w fun e w' => e = .returned v ∧ R w' := h.mono fun e w' ⟨he, hB⟩ => ⟨he, hR _ _ hw hB⟩
theorem alike_same {m l : Lay} (h : Alike m l) : sameV m l = true := by
  unfold sameV sameT
  rw [h.secs, h.sigs, h.exits, h.flanks, h.t0, h.t1, h.t2, h.t3, h.t4, h.t5, h.t6]
  simp
/-- A layout without rows. -/
def bareL (l : Lay) : Lay := ⟨[], none, 0, [], none, 0, [], none, 0, [], none, 0, l.t0, l.t1, l.t2, l.t3, l.t4, l.t5, l.t6⟩
def oneSig (l : Lay) (g : Nat) : Lay := ⟨[], none, 0, [(0, 0)], some ⟨g, 0, none⟩, 1, [], none, 0, [], none, 0, l.t0, l.t1, l.t2, l.t3, l.t4, l.t5, l.t6⟩
def zeroL : Lay := ⟨[], none, 0, [], none, 0, [], none, 0, [], none, 0, 0, 0, 0, 0, 0, 0, 0⟩
theorem bare_lies (l : Lay) (w : World) : Lies (bareL l) w := ⟨Row.nil _ _ _, Row.nil _ _ _, Row.nil _ _ _, Row.nil _ _ _, (fun x hx => by cases hx), (fun x hx => by cases hx), by simp [bareL], by simp [bareL], by simp [bareL], by simp [bareL], (fun x hx => by cases hx)⟩
theorem zero_lies (w : World) : Lies zeroL w := ⟨Row.nil _ _ _, Row.nil _ _ _, Row.nil _ _ _, Row.nil _ _ _, (fun x hx => by cases hx), (fun x hx => by cases hx), by simp [zeroL], by simp [zeroL], by simp [zeroL], by simp [zeroL], (fun x hx => by cases hx)⟩
theorem oneSig_lies (l : Lay) {w : World} {g : Nat} (h : Whole w g 50 [.int .i64 0, .int .i64 0]) : Lies (oneSig l g) w := ⟨Row.nil _ _ _, h.row h.lt, Row.nil _ _ _, Row.nil _ _ _, (fun x hx => by cases hx), (fun x hx => by cases hx), by simp [oneSig], by show (1 : Int) ≤ _; omega, by simp [oneSig], by simp [oneSig], (fun x hx => by cases hx)⟩

section
variable {P : World → Prop} {w : World}
set_option maxRecDepth 100000 in
set_option maxHeartbeats 16000000 in
theorem wakes6_P (hP : Closed P) (hT : ∀ w, P w → Shapes w) (h : P w) : Calls Tryd.prog 9 #[] w fun e w' => e = .returned (.bool true) ∧ P w' := by
  have HPP := Lib.hid (fun W (hB : Below w.heap.size w W) => hP _ _ h hB)
  have HTT := Lib.hid (fun W (hB : Below w.heap.size w W) => hT _ (hP _ _ h hB))
  clear hP hT h
  go_enter Tryd.func9, Tryd.ntmps9
  go_wp2_with fail
  refine (line_any w rfl).mono ?_
  rintro e w1 ⟨rfl, hl1, hB1, hs1⟩
  go_wp2_with fail
  refine (line_any w1 rfl).mono ?_
  rintro e w2 ⟨rfl, hl2, hB2, hs2⟩
  have hbv : (lineL w1.heap.size).val = (badL w1.heap.size).val := rfl
  rw [hbv]
  clear hbv
  obtain ⟨gB, hgB⟩ : ∃ gB, w1.heap.size + 1 + 1 + 1 = gB := ⟨_, rfl⟩
  obtain ⟨l, hl⟩ : ∃ l, lineL w.heap.size = l := ⟨_, rfl⟩
  obtain ⟨b, hb⟩ : ∃ b, badL w1.heap.size = b := ⟨_, rfl⟩
  have HA1 : Hid (atV l 1 2 = ⟨2, 0, 1, 2, 0, 3, 0, -1, 0, 0, 1⟩ ∧ thereV l 1 2 = true) := Lib.hid (by rw [← hl]; exact ⟨rfl, rfl⟩)
  have HA2 : Hid (atV l 0 2 = Sec.zero ∧ thereV l 0 2 = false) := Lib.hid (by rw [← hl]; exact ⟨rfl, rfl⟩)
  have HS1 : Hid (wayK (kindV l 1) 2 0 = 1 ∧ stepV l 1 2 0 = true) := Lib.hid (by rw [← hl]; exact ⟨rfl, rfl⟩)
  have HS2 : Hid (wayK (kindV l 1) 2 1 = 0 ∧ stepV l 1 2 1 = false) := Lib.hid (by rw [← hl]; exact ⟨rfl, rfl⟩)
  have HG : Hid (signalV l 0 0 = 0 ∧ signalV l 1 0 = -1 ∧ exitV l 3 1 = 1) := Lib.hid (by rw [← hl]; exact ⟨rfl, rfl, rfl⟩)
  have HRr : Hid (rightL l = true ∧ rightL b = false ∧ rightL (bareL l) = true ∧ (∀ g, rightL (oneSig l g) = false) ∧ rightL zeroL = false) := Lib.hid (by rw [← hl, ← hb]; exact ⟨by kernel_rfl, by kernel_rfl, by kernel_rfl, fun _ => by kernel_rfl, by kernel_rfl⟩)
  have HN : Hid (l.secs.length ≤ 1000 ∧ l.sigs.length ≤ 1000 ∧ l.exits.length ≤ 1000 ∧ l.flanks.length ≤ 1000 ∧ ∀ x ∈ l.exits, x.over.length ≤ 1000) := Lib.hid (by
    rw [← hl]
    refine ⟨by simp [lineL], by simp [lineL], by simp [lineL], by simp [lineL], fun x hx => ?_⟩
    simp only [lineL, List.mem_cons, List.not_mem_nil, or_false] at hx
    rcases hx with rfl | rfl
    · show 1 ≤ 1000; omega
    · show 0 ≤ 1000; omega)
  have HSm : Hid (sameV b l = false) := Lib.hid (by rw [← hl, ← hb]; kernel_rfl)
  have HL1 : Hid (LineAt w.heap.size w1 ∧ Lies l w1) := Lib.hid ⟨hl1, by rw [← hl]; exact hl1.lies⟩
  have HL2 : Hid (LineAt w1.heap.size w2) := Lib.hid hl2
  have HBc : Hid (b.cells = [.slice (some ⟨gB, 0, none⟩) b.secs.length b.cs, .slice b.Ag b.sigs.length b.cg, .slice b.Ae b.exits.length b.ce, .slice b.Af b.flanks.length b.cf, .int .i64 b.t0, .int .i64 b.t1, .int .i64 b.t2, .int .i64 b.t3, .int .i64 b.t4, .int .i64 b.t5, .int .i64 b.t6] ∧ b.secs.length = 4) := Lib.hid (by rw [← hb, ← hgB]; exact ⟨rfl, rfl⟩)
  have hA : b.As = some ⟨gB, 0, none⟩ := by rw [← hb, ← hgB]; rfl
  have h4 : (0 : Int) < b.secs.length := by rw [HBc.out.2]; omega
  have hgW := hl2.secs
  rw [hgB] at hgW
  rw [hl, hb]
  have HB : Hid (badL w1.heap.size = b) := Lib.hid hb
  have HGB : Hid (w1.heap.size + 1 + 1 + 1 = gB) := Lib.hid hgB
  have HSz := Lib.hid (And.intro hs1 hs2)
  clear hb hl hl1 hl2 hgB hs1 hs2
  have k5 := fun o o' => (((hgW.alloc o).alloc o').cell_at 5 rfl)
  have k6 := fun o o' v => ((((hgW.alloc o).alloc o').set 5 v).cell_at 6 rfl)
  have q5 := fun o o' => (((hgW.alloc o).alloc o').frozen 5)
  have q6 := fun o o' v => ((((hgW.alloc o).alloc o').set 5 v).frozen 6)
  go_upto_region 3 with (fail)
  obtain ⟨W4, hW4⟩ : ∃ W4, ((((w2.alloc (.cells #[.slice l.As l.secs.length l.cs, .slice l.Ag l.sigs.length l.cg, .slice l.Ae l.exits.length l.ce, .slice l.Af l.flanks.length l.cf, .int .i64 l.t0, .int .i64 l.t1, .int .i64 l.t2, .int .i64 l.t3, .int .i64 l.t4, .int .i64 l.t5, .int .i64 l.t6] 29)).alloc (.cells #[.slice (some ⟨gB, 0, none⟩) b.secs.length b.cs, .slice b.Ag b.sigs.length b.cg, .slice b.Ae b.exits.length b.ce, .slice b.Af b.flanks.length b.cf, .int .i64 b.t0, .int .i64 b.t1, .int .i64 b.t2, .int .i64 b.t3, .int .i64 b.t4, .int .i64 b.t5, .int .i64 b.t6] 29)).setCell ⟨gB, 5, none⟩ (.int .i64 1)).setCell ⟨gB, 6, none⟩ (.int .i64 0)) = W4 := ⟨_, rfl⟩
  rw [hW4]
  have hbelow : ∀ (n : Nat) (u : World), Below n u w2 → n ≤ gB → n ≤ w2.heap.size → Below n u W4 := fun n u hu h1 h2 => by
    rw [← hW4]
    exact (((hu.alloc h2 _).alloc (by simp; omega) _).setCell (p := ⟨gB, 5, none⟩) h1 _).setCell (p := ⟨gB, 6, none⟩) h1 _
  have KQ : Hid (∀ W, Below W4.heap.size W4 W → P W ∧ Shapes W ∧ Lies l W ∧ Lies b W ∧ Whole W w2.heap.size 29 l.cells ∧ Whole W (w2.heap.size + 1) 29 b.cells) := Lib.hid (fun W hW => by
    have hg := hgW.lt
    obtain ⟨e1, e2⟩ := HSz.out
    have eg := HGB.out
    have h0 := hbelow _ _ (hB1.trans (hB2.mono hB1.size)) (by omega) (by omega)
    have h1 := hbelow _ _ hB2 (by omega) hB2.size
    have hw := h0.trans (hW.mono h0.size)
    refine ⟨HPP.out _ hw, HTT.out _ hw, Lies.closed l _ _ HL1.out.2 (h1.trans (hW.mono h1.size)), Lies.closed b _ _ ?_ hW, ?_, ?_⟩
    · rw [← HB.out]
      refine HL2.out.bad (W := W4) (fun k hk hne => ?_) ?_
      · rw [← hW4, eg] at *
        exact (Below.heap_setCell _ ⟨gB, 6, none⟩ _ k hne).trans ((Below.heap_setCell _ ⟨gB, 5, none⟩ _ k hne).trans ((Below.heap_alloc _ _ k (by simp; omega)).trans (Below.heap_alloc _ _ k hk)))
      · rw [← hW4, eg]
        exact (((hgW.alloc _).alloc _).set 5 (.int .i64 1)).set 6 (.int .i64 0)
    · refine Closed.whole _ _ _ W4 W ?_ hW
      rw [← hW4]
      exact ((((Whole.new w2 _ l.cells).alloc _).far (p := ⟨gB, 5, none⟩) (by show w2.heap.size ≠ gB; omega) _).far (p := ⟨gB, 6, none⟩) (by show w2.heap.size ≠ gB; omega) _)
    · refine Closed.whole _ _ _ W4 W ?_ hW
      rw [← hW4, HBc.out.1]
      exact (((Whole.new_at (w2.alloc _) _ [.slice (some ⟨gB, 0, none⟩) b.secs.length b.cs, .slice b.Ag b.sigs.length b.cg, .slice b.Ae b.exits.length b.ce, .slice b.Af b.flanks.length b.cf, .int .i64 b.t0, .int .i64 b.t1, .int .i64 b.t2, .int .i64 b.t3, .int .i64 b.t4, .int .i64 b.t5, .int .i64 b.t6] _ (by simp)).far (p := ⟨gB, 5, none⟩) (by show w2.heap.size + 1 ≠ gB; omega) _).far (p := ⟨gB, 6, none⟩) (by show w2.heap.size + 1 ≠ gB; omega) _))
  have H4 : Hid (w2.heap.size < W4.heap.size) := Lib.hid (by rw [← hW4]; simp [World.setCell]; omega)
  clear hW4 hbelow k5 k6 q5 q6 hA h4 hgW HB HBc HL1 HL2 HSz HGB HPP HTT hB1 hB2
  have hq : Below W4.heap.size W4 W4 := Below.refl _ _
  have x0 := (KQ.out _ hq).2.2.2.2.1.cell_at 0 rfl
  have x1 := (KQ.out _ hq).2.2.2.2.1.cell_at 1 rfl
  have x2 := (KQ.out _ hq).2.2.2.2.1.cell_at 2 rfl
  have x3 := (KQ.out _ hq).2.2.2.2.1.cell_at 3 rfl
  have x4 := (KQ.out _ hq).2.2.2.2.1.cell_at 4 rfl
  have x5 := (KQ.out _ hq).2.2.2.2.1.cell_at 5 rfl
  have x6 := (KQ.out _ hq).2.2.2.2.1.cell_at 6 rfl
  have x7 := (KQ.out _ hq).2.2.2.2.1.cell_at 7 rfl
  have x8 := (KQ.out _ hq).2.2.2.2.1.cell_at 8 rfl
  have x9 := (KQ.out _ hq).2.2.2.2.1.cell_at 9 rfl
  have x10 := (KQ.out _ hq).2.2.2.2.1.cell_at 10 rfl
  have H3 := fun (v : List Value) => Whole.new W4 29 v
  have hq := below1 W4 (.cells #[.slice none 0 0, .slice none 0 0, .slice none 0 0, .slice none 0 0, .int .i64 l.t0, .int .i64 l.t1, .int .i64 l.t2, .int .i64 l.t3, .int .i64 l.t4, .int .i64 l.t5, .int .i64 l.t6] 29)
  have h3 := H3 [.slice none 0 0, .slice none 0 0, .slice none 0 0, .slice none 0 0, .int .i64 l.t0, .int .i64 l.t1, .int .i64 l.t2, .int .i64 l.t3, .int .i64 l.t4, .int .i64 l.t5, .int .i64 l.t6]
  clear H3
  have u0 := (KQ.out _ hq).2.2.2.2.1.cell_at 0 rfl
  have u1 := (KQ.out _ hq).2.2.2.2.1.cell_at 1 rfl
  have u2 := (KQ.out _ hq).2.2.2.2.1.cell_at 2 rfl
  have u3 := (KQ.out _ hq).2.2.2.2.1.cell_at 3 rfl
  have u4 := (KQ.out _ hq).2.2.2.2.1.cell_at 4 rfl
  have u5 := (KQ.out _ hq).2.2.2.2.1.cell_at 5 rfl
  have u6 := (KQ.out _ hq).2.2.2.2.1.cell_at 6 rfl
  have u7 := (KQ.out _ hq).2.2.2.2.1.cell_at 7 rfl
  have u8 := (KQ.out _ hq).2.2.2.2.1.cell_at 8 rfl
  have u9 := (KQ.out _ hq).2.2.2.2.1.cell_at 9 rfl
  have u10 := (KQ.out _ hq).2.2.2.2.1.cell_at 10 rfl
  go_wp2_with fail
  refine (at_B (KQ.out _ hq).2.1 (KQ.out _ hq).2.2.1 1 2 HA1.out.1 HA1.out.2).mono ?_
  clear x0 x1 x2 x3 x4 x5 x6 x7 x8 x9 x10 u0 u1 u2 u3 u4 u5 u6 u7 u8 u9 u10
  rintro e w3 ⟨rfl, hB⟩
  have hq := hq.trans (hB.mono hq.size)
  have h3 := h3.below hB h3.lt
  clear hB
  have hne := Lib.hid h3.lt
  have hq := hq.alloc hq.size (.cells #[.int .u8 2, .int .i64 0, .int .i64 1, .int .i64 2, .int .i64 0, .int .i64 3, .int .i64 0, .int .i64 (-1), .int .i64 0, .int .i64 0, .int .i64 1] 39)
  have h4 := Whole.new w3 39 [.int .u8 2, .int .i64 0, .int .i64 1, .int .i64 2, .int .i64 0, .int .i64 3, .int .i64 0, .int .i64 (-1), .int .i64 0, .int .i64 0, .int .i64 1]
  have h3 := h3.alloc (.cells #[.int .u8 2, .int .i64 0, .int .i64 1, .int .i64 2, .int .i64 0, .int .i64 3, .int .i64 0, .int .i64 (-1), .int .i64 0, .int .i64 0, .int .i64 1] 39)
  have x0 := (KQ.out _ hq).2.2.2.2.1.cell_at 0 rfl
  have x1 := (KQ.out _ hq).2.2.2.2.1.cell_at 1 rfl
  have x2 := (KQ.out _ hq).2.2.2.2.1.cell_at 2 rfl
  have x3 := (KQ.out _ hq).2.2.2.2.1.cell_at 3 rfl
  have x4 := (KQ.out _ hq).2.2.2.2.1.cell_at 4 rfl
  have x5 := (KQ.out _ hq).2.2.2.2.1.cell_at 5 rfl
  have x6 := (KQ.out _ hq).2.2.2.2.1.cell_at 6 rfl
  have x7 := (KQ.out _ hq).2.2.2.2.1.cell_at 7 rfl
  have x8 := (KQ.out _ hq).2.2.2.2.1.cell_at 8 rfl
  have x9 := (KQ.out _ hq).2.2.2.2.1.cell_at 9 rfl
  have x10 := (KQ.out _ hq).2.2.2.2.1.cell_at 10 rfl
  go_wp2_with fail
  refine (at_B (KQ.out _ hq).2.1 (KQ.out _ hq).2.2.1 0 2 HA2.out.1 HA2.out.2).mono ?_
  clear x0 x1 x2 x3 x4 x5 x6 x7 x8 x9 x10
  rintro e w4 ⟨rfl, hB⟩
  have hq := hq.trans (hB.mono hq.size)
  have h3 := h3.below hB h3.lt
  have h4 := h4.below hB h4.lt
  clear hB
  have hz : Sec.zero.val = .agg #[.int .u8 0, .int .i64 0, .int .i64 0, .int .i64 0, .int .i64 0, .int .i64 0, .int .i64 0, .int .i64 0, .int .i64 0, .int .i64 0, .int .i64 0] := rfl
  have hq := hq.alloc hq.size (.cells #[.int .u8 0, .int .i64 0, .int .i64 0, .int .i64 0, .int .i64 0, .int .i64 0, .int .i64 0, .int .i64 0, .int .i64 0, .int .i64 0, .int .i64 0] 39)
  have h3 := h3.alloc (.cells #[.int .u8 0, .int .i64 0, .int .i64 0, .int .i64 0, .int .i64 0, .int .i64 0, .int .i64 0, .int .i64 0, .int .i64 0, .int .i64 0, .int .i64 0] 39)
  have h4 := h4.alloc (.cells #[.int .u8 0, .int .i64 0, .int .i64 0, .int .i64 0, .int .i64 0, .int .i64 0, .int .i64 0, .int .i64 0, .int .i64 0, .int .i64 0, .int .i64 0] 39)
  have x0 := (KQ.out _ hq).2.2.2.2.1.cell_at 0 rfl
  have x1 := (KQ.out _ hq).2.2.2.2.1.cell_at 1 rfl
  have x2 := (KQ.out _ hq).2.2.2.2.1.cell_at 2 rfl
  have x3 := (KQ.out _ hq).2.2.2.2.1.cell_at 3 rfl
  have x4 := (KQ.out _ hq).2.2.2.2.1.cell_at 4 rfl
  have x5 := (KQ.out _ hq).2.2.2.2.1.cell_at 5 rfl
  have x6 := (KQ.out _ hq).2.2.2.2.1.cell_at 6 rfl
  have x7 := (KQ.out _ hq).2.2.2.2.1.cell_at 7 rfl
  have x8 := (KQ.out _ hq).2.2.2.2.1.cell_at 8 rfl
  have x9 := (KQ.out _ hq).2.2.2.2.1.cell_at 9 rfl
  have x10 := (KQ.out _ hq).2.2.2.2.1.cell_at 10 rfl
  rw [hz]
  clear hz
  go_wp2_with fail
  refine (step_B (KQ.out _ hq).2.1 (KQ.out _ hq).2.2.1 1 2 0 HS1.out.1 HS1.out.2).mono ?_
  clear x0 x1 x2 x3 x4 x5 x6 x7 x8 x9 x10
  rintro e w5 ⟨rfl, hB⟩
  have hq := hq.trans (hB.mono hq.size)
  have h3 := h3.below hB h3.lt
  have h4 := h4.below hB h4.lt
  clear hB
  have x0 := (KQ.out _ hq).2.2.2.2.1.cell_at 0 rfl
  have x1 := (KQ.out _ hq).2.2.2.2.1.cell_at 1 rfl
  have x2 := (KQ.out _ hq).2.2.2.2.1.cell_at 2 rfl
  have x3 := (KQ.out _ hq).2.2.2.2.1.cell_at 3 rfl
  have x4 := (KQ.out _ hq).2.2.2.2.1.cell_at 4 rfl
  have x5 := (KQ.out _ hq).2.2.2.2.1.cell_at 5 rfl
  have x6 := (KQ.out _ hq).2.2.2.2.1.cell_at 6 rfl
  have x7 := (KQ.out _ hq).2.2.2.2.1.cell_at 7 rfl
  have x8 := (KQ.out _ hq).2.2.2.2.1.cell_at 8 rfl
  have x9 := (KQ.out _ hq).2.2.2.2.1.cell_at 9 rfl
  have x10 := (KQ.out _ hq).2.2.2.2.1.cell_at 10 rfl
  go_wp2_with fail
  refine (step_B (KQ.out _ hq).2.1 (KQ.out _ hq).2.2.1 1 2 1 HS2.out.1 HS2.out.2).mono ?_
  clear x0 x1 x2 x3 x4 x5 x6 x7 x8 x9 x10
  rintro e w6 ⟨rfl, hB⟩
  have hq := hq.trans (hB.mono hq.size)
  have h3 := h3.below hB h3.lt
  have h4 := h4.below hB h4.lt
  clear hB
  have y0 := h3.cell_at 0 rfl
  have y1 := h3.cell_at 1 rfl
  have y2 := h3.cell_at 2 rfl
  have y3 := h3.cell_at 3 rfl
  have y4 := h3.cell_at 4 rfl
  have y5 := h3.cell_at 5 rfl
  have y6 := h3.cell_at 6 rfl
  have y7 := h3.cell_at 7 rfl
  have y8 := h3.cell_at 8 rfl
  have y9 := h3.cell_at 9 rfl
  have y10 := h3.cell_at 10 rfl
  go_wp2_with fail
  refine (right_B (l := bareL l) (KQ.out _ hq).2.1 (bare_lies l _) HRr.out.2.2.1).mono ?_
  clear y0 y1 y2 y3 y4 y5 y6 y7 y8 y9 y10
  rintro e w7 ⟨rfl, hB⟩
  have hq := hq.trans (hB.mono hq.size)
  have h3 := h3.below hB h3.lt
  have h4 := h4.below hB h4.lt
  clear hB
  have h3a := h3.alloc (.cells #[.int .i64 0, .int .i64 0] 50)
  have f1 := h3a.frozen 1
  have z1 := h3a.cell_at 1 rfl
  have hlt3 := h3.lt
  have hnew := hne.out
  have hq9 := (hq.alloc hq.size (.cells #[.int .i64 0, .int .i64 0] 50)).setCell (p := ⟨W4.heap.size, 1, none⟩) (Nat.le_refl _) (.slice (some ⟨w7.heap.size, 0, none⟩) 1 1)
  have h39 := h3a.set 1 (.slice (some ⟨w7.heap.size, 0, none⟩) 1 1)
  have hr := (Whole.new w7 50 [.int .i64 0, .int .i64 0]).far (p := ⟨W4.heap.size, 1, none⟩) (by show w7.heap.size ≠ W4.heap.size; omega) (.slice (some ⟨w7.heap.size, 0, none⟩) 1 1)
  have s0 := ((h4.alloc (.cells #[.int .i64 0, .int .i64 0] 50)).far (p := ⟨W4.heap.size, 1, none⟩) (by show w3.heap.size ≠ W4.heap.size; omega) (.slice (some ⟨w7.heap.size, 0, none⟩) 1 1)).cell_at 0 rfl
  have h4 := (h4.alloc (.cells #[.int .i64 0, .int .i64 0] 50)).far (p := ⟨W4.heap.size, 1, none⟩) (by show w3.heap.size ≠ W4.heap.size; omega) (.slice (some ⟨w7.heap.size, 0, none⟩) 1 1)
  clear h3 h3a hlt3 hnew hq s0
  go_wp2_with fail
  simp only [List.append_eq, List.cons_append, List.nil_append]
  obtain ⟨R, HRc, HRq, HR3, HRr2, HRs, hr0⟩ : ∃ R : World → Prop, Hid (Closed R) ∧ Hid (∀ W, R W → Below W4.heap.size W4 W) ∧ Hid (∀ W, R W → Whole W W4.heap.size 29 [.slice none 0 0, .slice (some ⟨w7.heap.size, 0, none⟩) 1 1, .slice none 0 0, .slice none 0 0, .int .i64 l.t0, .int .i64 l.t1, .int .i64 l.t2, .int .i64 l.t3, .int .i64 l.t4, .int .i64 l.t5, .int .i64 l.t6]) ∧ Hid (∀ W, R W → Whole W w7.heap.size 50 [.int .i64 0, .int .i64 0]) ∧ Hid (∀ W, R W → Whole W w3.heap.size 39 [.int .u8 2, .int .i64 0, .int .i64 1, .int .i64 2, .int .i64 0, .int .i64 3, .int .i64 0, .int .i64 (-1), .int .i64 0, .int .i64 0, .int .i64 1]) ∧ R ((w7.alloc (.cells #[.int .i64 0, .int .i64 0] 50)).setCell ⟨W4.heap.size, 1, none⟩ (.slice (some ⟨w7.heap.size, 0, none⟩) 1 1)).drew :=
    ⟨fun W => ((Below W4.heap.size W4 W ∧ Whole W W4.heap.size 29 [.slice none 0 0, .slice (some ⟨w7.heap.size, 0, none⟩) 1 1, .slice none 0 0, .slice none 0 0, .int .i64 l.t0, .int .i64 l.t1, .int .i64 l.t2, .int .i64 l.t3, .int .i64 l.t4, .int .i64 l.t5, .int .i64 l.t6]) ∧ Whole W w7.heap.size 50 [.int .i64 0, .int .i64 0]) ∧ Whole W w3.heap.size 39 [.int .u8 2, .int .i64 0, .int .i64 1, .int .i64 2, .int .i64 0, .int .i64 3, .int .i64 0, .int .i64 (-1), .int .i64 0, .int .i64 0, .int .i64 1], Lib.hid ((((Closed.below W4).and (Closed.whole _ _ _)).and (Closed.whole _ _ _)).and (Closed.whole _ _ _)), Lib.hid (fun _ h => h.1.1.1), Lib.hid (fun _ h => h.1.1.2), Lib.hid (fun _ h => h.1.2), Lib.hid (fun _ h => h.2), ⟨⟨hq9.drew, h39⟩, hr⟩, h4⟩
  clear hq9 h39 hr h4 f1 z1
  have K1 := Lib.hid (fun W (hW : R W) => keepR HRc.out (signal_B (KQ.out _ (HRq.out _ hW)).2.2.1 0 0 HG.out.1) hW)
  have K2 := Lib.hid (fun W (hW : R W) => keepR HRc.out (signal_B (KQ.out _ (HRq.out _ hW)).2.2.1 1 0 HG.out.2.1) hW)
  have K3 := Lib.hid (fun W (hW : R W) => keepR HRc.out (exit_B (KQ.out _ (HRq.out _ hW)).2.2.1 3 1 HG.out.2.2) hW)
  have K4 := Lib.hid (fun W (hW : R W) => keepR HRc.out (right_B (KQ.out _ (HRq.out _ hW)).2.1 (KQ.out _ (HRq.out _ hW)).2.2.1 HRr.out.1) hW)
  have K5 := Lib.hid (fun W (hW : R W) => keepR HRc.out (right_B (KQ.out _ (HRq.out _ hW)).2.1 (KQ.out _ (HRq.out _ hW)).2.2.2.1 HRr.out.2.1) hW)
  have K6 : Hid (∀ W, R W → Calls Tryd.prog 18 #[.agg #[.slice none 0 0, .slice (some ⟨w7.heap.size, 0, none⟩) 1 1, .slice none 0 0, .slice none 0 0, .int .i64 l.t0, .int .i64 l.t1, .int .i64 l.t2, .int .i64 l.t3, .int .i64 l.t4, .int .i64 l.t5, .int .i64 l.t6]] W fun e w' => e = .returned (.bool false) ∧ R w') := Lib.hid (fun W (hW : R W) => keepR HRc.out (right_B (l := oneSig l w7.heap.size) (KQ.out _ (HRq.out _ hW)).2.1 (oneSig_lies l (HRr2.out _ hW)) (HRr.out.2.2.2.1 _)) hW)
  have K7 : Hid (∀ W, R W → Calls Tryd.prog 18 #[.agg #[.slice none 0 0, .slice none 0 0, .slice none 0 0, .slice none 0 0, .int .i64 0, .int .i64 0, .int .i64 0, .int .i64 0, .int .i64 0, .int .i64 0, .int .i64 0]] W fun e w' => e = .returned (.bool false) ∧ R w') := Lib.hid (fun W (hW : R W) => keepR HRc.out (right_B (l := zeroL) (KQ.out _ (HRq.out _ hW)).2.1 (zero_lies _) HRr.out.2.2.2.2) hW)
  refine region_part R (fun W => Below W4.heap.size W4 W) 62 12 (by kernel_rfl) rfl (by kernel_rfl) hr0 ?_
  simp only [List.take_succ_cons, List.take_zero, List.drop_succ_cons, List.drop_zero]
  repeat (first | (refine steady_skip (by rfl) ?_; simp only [Act.put, List.setIfInBounds_toArray, List.set_cons_zero, List.set_cons_succ]) | (refine steady_read _ (by rfl) (fun W hW => by (have m1 := (KQ.out _ (HRq.out _ hW)).2.2.2.2.1; have x0 := m1.cell_at 0 rfl; have x1 := m1.cell_at 1 rfl; have x2 := m1.cell_at 2 rfl; have x3 := m1.cell_at 3 rfl; have x4 := m1.cell_at 4 rfl; have x5 := m1.cell_at 5 rfl; have x6 := m1.cell_at 6 rfl; have x7 := m1.cell_at 7 rfl; have x8 := m1.cell_at 8 rfl; have x9 := m1.cell_at 9 rfl; have x10 := m1.cell_at 10 rfl; have m2 := (KQ.out _ (HRq.out _ hW)).2.2.2.2.2; have y0 := m2.cell_at 0 rfl; have y1 := m2.cell_at 1 rfl; have y2 := m2.cell_at 2 rfl; have y3 := m2.cell_at 3 rfl; have y4 := m2.cell_at 4 rfl; have y5 := m2.cell_at 5 rfl; have y6 := m2.cell_at 6 rfl; have y7 := m2.cell_at 7 rfl; have y8 := m2.cell_at 8 rfl; have y9 := m2.cell_at 9 rfl; have y10 := m2.cell_at 10 rfl; have m3 := HR3.out _ hW; have z0 := m3.cell_at 0 rfl; have z1 := m3.cell_at 1 rfl; have z2 := m3.cell_at 2 rfl; have z3 := m3.cell_at 3 rfl; have z4 := m3.cell_at 4 rfl; have z5 := m3.cell_at 5 rfl; have z6 := m3.cell_at 6 rfl; have z7 := m3.cell_at 7 rfl; have z8 := m3.cell_at 8 rfl; have z9 := m3.cell_at 9 rfl; have z10 := m3.cell_at 10 rfl; have m4 := HRs.out _ hW; have s0 := m4.cell_at 0 rfl; clear m1 m2 m3 m4; go_simp; first | done | with_reducible rfl)) ?_; simp only [Act.put, List.setIfInBounds_toArray, List.set_cons_zero, List.set_cons_succ]) | (refine steady_call _ _ _ (by rfl) (fun W hW => by (have m1 := (KQ.out _ (HRq.out _ hW)).2.2.2.2.1; have x0 := m1.cell_at 0 rfl; have x1 := m1.cell_at 1 rfl; have x2 := m1.cell_at 2 rfl; have x3 := m1.cell_at 3 rfl; have x4 := m1.cell_at 4 rfl; have x5 := m1.cell_at 5 rfl; have x6 := m1.cell_at 6 rfl; have x7 := m1.cell_at 7 rfl; have x8 := m1.cell_at 8 rfl; have x9 := m1.cell_at 9 rfl; have x10 := m1.cell_at 10 rfl; have m2 := (KQ.out _ (HRq.out _ hW)).2.2.2.2.2; have y0 := m2.cell_at 0 rfl; have y1 := m2.cell_at 1 rfl; have y2 := m2.cell_at 2 rfl; have y3 := m2.cell_at 3 rfl; have y4 := m2.cell_at 4 rfl; have y5 := m2.cell_at 5 rfl; have y6 := m2.cell_at 6 rfl; have y7 := m2.cell_at 7 rfl; have y8 := m2.cell_at 8 rfl; have y9 := m2.cell_at 9 rfl; have y10 := m2.cell_at 10 rfl; have m3 := HR3.out _ hW; have z0 := m3.cell_at 0 rfl; have z1 := m3.cell_at 1 rfl; have z2 := m3.cell_at 2 rfl; have z3 := m3.cell_at 3 rfl; have z4 := m3.cell_at 4 rfl; have z5 := m3.cell_at 5 rfl; have z6 := m3.cell_at 6 rfl; have z7 := m3.cell_at 7 rfl; have z8 := m3.cell_at 8 rfl; have z9 := m3.cell_at 9 rfl; have z10 := m3.cell_at 10 rfl; have m4 := HRs.out _ hW; have s0 := m4.cell_at 0 rfl; clear m1 m2 m3 m4; go_simp; first | done | rfl)) (fun W hW => K1.out _ hW) ?_; simp only [Act.put, List.setIfInBounds_toArray, List.set_cons_zero, List.set_cons_succ]) | (refine steady_call _ _ _ (by rfl) (fun W hW => by (have m1 := (KQ.out _ (HRq.out _ hW)).2.2.2.2.1; have x0 := m1.cell_at 0 rfl; have x1 := m1.cell_at 1 rfl; have x2 := m1.cell_at 2 rfl; have x3 := m1.cell_at 3 rfl; have x4 := m1.cell_at 4 rfl; have x5 := m1.cell_at 5 rfl; have x6 := m1.cell_at 6 rfl; have x7 := m1.cell_at 7 rfl; have x8 := m1.cell_at 8 rfl; have x9 := m1.cell_at 9 rfl; have x10 := m1.cell_at 10 rfl; have m2 := (KQ.out _ (HRq.out _ hW)).2.2.2.2.2; have y0 := m2.cell_at 0 rfl; have y1 := m2.cell_at 1 rfl; have y2 := m2.cell_at 2 rfl; have y3 := m2.cell_at 3 rfl; have y4 := m2.cell_at 4 rfl; have y5 := m2.cell_at 5 rfl; have y6 := m2.cell_at 6 rfl; have y7 := m2.cell_at 7 rfl; have y8 := m2.cell_at 8 rfl; have y9 := m2.cell_at 9 rfl; have y10 := m2.cell_at 10 rfl; have m3 := HR3.out _ hW; have z0 := m3.cell_at 0 rfl; have z1 := m3.cell_at 1 rfl; have z2 := m3.cell_at 2 rfl; have z3 := m3.cell_at 3 rfl; have z4 := m3.cell_at 4 rfl; have z5 := m3.cell_at 5 rfl; have z6 := m3.cell_at 6 rfl; have z7 := m3.cell_at 7 rfl; have z8 := m3.cell_at 8 rfl; have z9 := m3.cell_at 9 rfl; have z10 := m3.cell_at 10 rfl; have m4 := HRs.out _ hW; have s0 := m4.cell_at 0 rfl; clear m1 m2 m3 m4; go_simp; first | done | rfl)) (fun W hW => K2.out _ hW) ?_; simp only [Act.put, List.setIfInBounds_toArray, List.set_cons_zero, List.set_cons_succ]) | (refine steady_call _ _ _ (by rfl) (fun W hW => by (have m1 := (KQ.out _ (HRq.out _ hW)).2.2.2.2.1; have x0 := m1.cell_at 0 rfl; have x1 := m1.cell_at 1 rfl; have x2 := m1.cell_at 2 rfl; have x3 := m1.cell_at 3 rfl; have x4 := m1.cell_at 4 rfl; have x5 := m1.cell_at 5 rfl; have x6 := m1.cell_at 6 rfl; have x7 := m1.cell_at 7 rfl; have x8 := m1.cell_at 8 rfl; have x9 := m1.cell_at 9 rfl; have x10 := m1.cell_at 10 rfl; have m2 := (KQ.out _ (HRq.out _ hW)).2.2.2.2.2; have y0 := m2.cell_at 0 rfl; have y1 := m2.cell_at 1 rfl; have y2 := m2.cell_at 2 rfl; have y3 := m2.cell_at 3 rfl; have y4 := m2.cell_at 4 rfl; have y5 := m2.cell_at 5 rfl; have y6 := m2.cell_at 6 rfl; have y7 := m2.cell_at 7 rfl; have y8 := m2.cell_at 8 rfl; have y9 := m2.cell_at 9 rfl; have y10 := m2.cell_at 10 rfl; have m3 := HR3.out _ hW; have z0 := m3.cell_at 0 rfl; have z1 := m3.cell_at 1 rfl; have z2 := m3.cell_at 2 rfl; have z3 := m3.cell_at 3 rfl; have z4 := m3.cell_at 4 rfl; have z5 := m3.cell_at 5 rfl; have z6 := m3.cell_at 6 rfl; have z7 := m3.cell_at 7 rfl; have z8 := m3.cell_at 8 rfl; have z9 := m3.cell_at 9 rfl; have z10 := m3.cell_at 10 rfl; have m4 := HRs.out _ hW; have s0 := m4.cell_at 0 rfl; clear m1 m2 m3 m4; go_simp; first | done | rfl)) (fun W hW => K3.out _ hW) ?_; simp only [Act.put, List.setIfInBounds_toArray, List.set_cons_zero, List.set_cons_succ]) | (refine steady_call _ _ _ (by rfl) (fun W hW => by (have m1 := (KQ.out _ (HRq.out _ hW)).2.2.2.2.1; have x0 := m1.cell_at 0 rfl; have x1 := m1.cell_at 1 rfl; have x2 := m1.cell_at 2 rfl; have x3 := m1.cell_at 3 rfl; have x4 := m1.cell_at 4 rfl; have x5 := m1.cell_at 5 rfl; have x6 := m1.cell_at 6 rfl; have x7 := m1.cell_at 7 rfl; have x8 := m1.cell_at 8 rfl; have x9 := m1.cell_at 9 rfl; have x10 := m1.cell_at 10 rfl; have m2 := (KQ.out _ (HRq.out _ hW)).2.2.2.2.2; have y0 := m2.cell_at 0 rfl; have y1 := m2.cell_at 1 rfl; have y2 := m2.cell_at 2 rfl; have y3 := m2.cell_at 3 rfl; have y4 := m2.cell_at 4 rfl; have y5 := m2.cell_at 5 rfl; have y6 := m2.cell_at 6 rfl; have y7 := m2.cell_at 7 rfl; have y8 := m2.cell_at 8 rfl; have y9 := m2.cell_at 9 rfl; have y10 := m2.cell_at 10 rfl; have m3 := HR3.out _ hW; have z0 := m3.cell_at 0 rfl; have z1 := m3.cell_at 1 rfl; have z2 := m3.cell_at 2 rfl; have z3 := m3.cell_at 3 rfl; have z4 := m3.cell_at 4 rfl; have z5 := m3.cell_at 5 rfl; have z6 := m3.cell_at 6 rfl; have z7 := m3.cell_at 7 rfl; have z8 := m3.cell_at 8 rfl; have z9 := m3.cell_at 9 rfl; have z10 := m3.cell_at 10 rfl; have m4 := HRs.out _ hW; have s0 := m4.cell_at 0 rfl; clear m1 m2 m3 m4; go_simp; first | done | rfl)) (fun W hW => K4.out _ hW) ?_; simp only [Act.put, List.setIfInBounds_toArray, List.set_cons_zero, List.set_cons_succ]) | (refine steady_call _ _ _ (by rfl) (fun W hW => by (have m1 := (KQ.out _ (HRq.out _ hW)).2.2.2.2.1; have x0 := m1.cell_at 0 rfl; have x1 := m1.cell_at 1 rfl; have x2 := m1.cell_at 2 rfl; have x3 := m1.cell_at 3 rfl; have x4 := m1.cell_at 4 rfl; have x5 := m1.cell_at 5 rfl; have x6 := m1.cell_at 6 rfl; have x7 := m1.cell_at 7 rfl; have x8 := m1.cell_at 8 rfl; have x9 := m1.cell_at 9 rfl; have x10 := m1.cell_at 10 rfl; have m2 := (KQ.out _ (HRq.out _ hW)).2.2.2.2.2; have y0 := m2.cell_at 0 rfl; have y1 := m2.cell_at 1 rfl; have y2 := m2.cell_at 2 rfl; have y3 := m2.cell_at 3 rfl; have y4 := m2.cell_at 4 rfl; have y5 := m2.cell_at 5 rfl; have y6 := m2.cell_at 6 rfl; have y7 := m2.cell_at 7 rfl; have y8 := m2.cell_at 8 rfl; have y9 := m2.cell_at 9 rfl; have y10 := m2.cell_at 10 rfl; have m3 := HR3.out _ hW; have z0 := m3.cell_at 0 rfl; have z1 := m3.cell_at 1 rfl; have z2 := m3.cell_at 2 rfl; have z3 := m3.cell_at 3 rfl; have z4 := m3.cell_at 4 rfl; have z5 := m3.cell_at 5 rfl; have z6 := m3.cell_at 6 rfl; have z7 := m3.cell_at 7 rfl; have z8 := m3.cell_at 8 rfl; have z9 := m3.cell_at 9 rfl; have z10 := m3.cell_at 10 rfl; have m4 := HRs.out _ hW; have s0 := m4.cell_at 0 rfl; clear m1 m2 m3 m4; go_simp; first | done | rfl)) (fun W hW => K5.out _ hW) ?_; simp only [Act.put, List.setIfInBounds_toArray, List.set_cons_zero, List.set_cons_succ]) | (refine steady_call _ _ _ (by rfl) (fun W hW => by (have m1 := (KQ.out _ (HRq.out _ hW)).2.2.2.2.1; have x0 := m1.cell_at 0 rfl; have x1 := m1.cell_at 1 rfl; have x2 := m1.cell_at 2 rfl; have x3 := m1.cell_at 3 rfl; have x4 := m1.cell_at 4 rfl; have x5 := m1.cell_at 5 rfl; have x6 := m1.cell_at 6 rfl; have x7 := m1.cell_at 7 rfl; have x8 := m1.cell_at 8 rfl; have x9 := m1.cell_at 9 rfl; have x10 := m1.cell_at 10 rfl; have m2 := (KQ.out _ (HRq.out _ hW)).2.2.2.2.2; have y0 := m2.cell_at 0 rfl; have y1 := m2.cell_at 1 rfl; have y2 := m2.cell_at 2 rfl; have y3 := m2.cell_at 3 rfl; have y4 := m2.cell_at 4 rfl; have y5 := m2.cell_at 5 rfl; have y6 := m2.cell_at 6 rfl; have y7 := m2.cell_at 7 rfl; have y8 := m2.cell_at 8 rfl; have y9 := m2.cell_at 9 rfl; have y10 := m2.cell_at 10 rfl; have m3 := HR3.out _ hW; have z0 := m3.cell_at 0 rfl; have z1 := m3.cell_at 1 rfl; have z2 := m3.cell_at 2 rfl; have z3 := m3.cell_at 3 rfl; have z4 := m3.cell_at 4 rfl; have z5 := m3.cell_at 5 rfl; have z6 := m3.cell_at 6 rfl; have z7 := m3.cell_at 7 rfl; have z8 := m3.cell_at 8 rfl; have z9 := m3.cell_at 9 rfl; have z10 := m3.cell_at 10 rfl; have m4 := HRs.out _ hW; have s0 := m4.cell_at 0 rfl; clear m1 m2 m3 m4; go_simp; first | done | rfl)) (fun W hW => K6.out _ hW) ?_; simp only [Act.put, List.setIfInBounds_toArray, List.set_cons_zero, List.set_cons_succ]) | (refine steady_call _ _ _ (by rfl) (fun W hW => by (have m1 := (KQ.out _ (HRq.out _ hW)).2.2.2.2.1; have x0 := m1.cell_at 0 rfl; have x1 := m1.cell_at 1 rfl; have x2 := m1.cell_at 2 rfl; have x3 := m1.cell_at 3 rfl; have x4 := m1.cell_at 4 rfl; have x5 := m1.cell_at 5 rfl; have x6 := m1.cell_at 6 rfl; have x7 := m1.cell_at 7 rfl; have x8 := m1.cell_at 8 rfl; have x9 := m1.cell_at 9 rfl; have x10 := m1.cell_at 10 rfl; have m2 := (KQ.out _ (HRq.out _ hW)).2.2.2.2.2; have y0 := m2.cell_at 0 rfl; have y1 := m2.cell_at 1 rfl; have y2 := m2.cell_at 2 rfl; have y3 := m2.cell_at 3 rfl; have y4 := m2.cell_at 4 rfl; have y5 := m2.cell_at 5 rfl; have y6 := m2.cell_at 6 rfl; have y7 := m2.cell_at 7 rfl; have y8 := m2.cell_at 8 rfl; have y9 := m2.cell_at 9 rfl; have y10 := m2.cell_at 10 rfl; have m3 := HR3.out _ hW; have z0 := m3.cell_at 0 rfl; have z1 := m3.cell_at 1 rfl; have z2 := m3.cell_at 2 rfl; have z3 := m3.cell_at 3 rfl; have z4 := m3.cell_at 4 rfl; have z5 := m3.cell_at 5 rfl; have z6 := m3.cell_at 6 rfl; have z7 := m3.cell_at 7 rfl; have z8 := m3.cell_at 8 rfl; have z9 := m3.cell_at 9 rfl; have z10 := m3.cell_at 10 rfl; have m4 := HRs.out _ hW; have s0 := m4.cell_at 0 rfl; clear m1 m2 m3 m4; go_simp; first | done | rfl)) (fun W hW => K7.out _ hW) ?_; simp only [Act.put, List.setIfInBounds_toArray, List.set_cons_zero, List.set_cons_succ]))
  refine steady_nil (fun W hW => ?_)
  have hq := HRq.out _ hW
  clear hW hr0 K1 K2 K3 K4 K5 K6 K7 HRc HRq HR3 HRr2 HRs
  have K8 := Lib.hid (fun W hW => keepR (Closed.below W4) (same_B (KQ.out W hW).2.2.2.1 (KQ.out _ hW).2.2.1 HSm.out) hW)
  refine wpAnyH_take (i := 62) (oi := ⟨some 115, _, _, _, _, _⟩) (v := .agg #[.slice l.As l.secs.length l.cs, .slice l.Ag l.sigs.length l.cg, .slice l.Ae l.exits.length l.ce, .slice l.Af l.flanks.length l.cf, .int .i64 l.t0, .int .i64 l.t1, .int .i64 l.t2, .int .i64 l.t3, .int .i64 l.t4, .int .i64 l.t5, .int .i64 l.t6]) rfl (by kernel_rfl) (by kernel_rfl) (by kernel_rfl) (fun _ _ _ h => h) (Or.inl ⟨rfl, fun W hW => by have m1 := (KQ.out _ hW).2.2.2.2.1; have x0 := m1.cell_at 0 rfl; have x1 := m1.cell_at 1 rfl; have x2 := m1.cell_at 2 rfl; have x3 := m1.cell_at 3 rfl; have x4 := m1.cell_at 4 rfl; have x5 := m1.cell_at 5 rfl; have x6 := m1.cell_at 6 rfl; have x7 := m1.cell_at 7 rfl; have x8 := m1.cell_at 8 rfl; have x9 := m1.cell_at 9 rfl; have x10 := m1.cell_at 10 rfl; clear m1; go_simp⟩) hq ?_
  simp only [Act.put, List.setIfInBounds_toArray, List.set_cons_zero, List.set_cons_succ]
  refine wpAnyH_take (i := 64) (oi := ⟨some 117, _, _, _, _, _⟩) (v := .agg #[.slice l.As l.secs.length l.cs, .slice l.Ag l.sigs.length l.cg, .slice l.Ae l.exits.length l.ce, .slice l.Af l.flanks.length l.cf, .int .i64 l.t0, .int .i64 l.t1, .int .i64 l.t2, .int .i64 l.t3, .int .i64 l.t4, .int .i64 l.t5, .int .i64 l.t6]) rfl (by kernel_rfl) (by kernel_rfl) (by kernel_rfl) (fun _ _ _ h => h) (Or.inl ⟨rfl, fun W hW => by have m1 := (KQ.out _ hW).2.2.2.2.1; have x0 := m1.cell_at 0 rfl; have x1 := m1.cell_at 1 rfl; have x2 := m1.cell_at 2 rfl; have x3 := m1.cell_at 3 rfl; have x4 := m1.cell_at 4 rfl; have x5 := m1.cell_at 5 rfl; have x6 := m1.cell_at 6 rfl; have x7 := m1.cell_at 7 rfl; have x8 := m1.cell_at 8 rfl; have x9 := m1.cell_at 9 rfl; have x10 := m1.cell_at 10 rfl; clear m1; go_simp⟩) hq ?_
  simp only [Act.put, List.setIfInBounds_toArray, List.set_cons_zero, List.set_cons_succ]
  refine wpAnyH_ready (rs := [63]) (by kernel_rfl) (by simp) ?_
  refine AllReadyH.cons rfl (fun K hK => ?_) AllReadyH.nil
  go_simp
  refine (own_any _ (KQ.out _ hq).2.2.1 HN.out.1 HN.out.2.1 HN.out.2.2.1 HN.out.2.2.2.1 HN.out.2.2.2.2).mono ?_
  rintro e w15 ⟨m, rfl, hLm, hAl, hB⟩
  have hq := hq.trans (hB.mono hq.size)
  refine hK.out _ _ hq (fun _ => ?_)
  clear hK K hB
  try simp only [Act.put, List.setIfInBounds_toArray, List.set_cons_zero, List.set_cons_succ]
  refine wpAnyH_ready (rs := [65]) (by kernel_rfl) (by simp) ?_
  refine AllReadyH.cons rfl (fun K hK => ?_) AllReadyH.nil
  go_simp
  refine (same_B hLm (KQ.out _ hq).2.2.1 (alike_same hAl)).mono ?_
  rintro e w16 ⟨rfl, hB⟩
  have hq := hq.trans (hB.mono hq.size)
  refine hK.out _ _ hq (fun _ => ?_)
  clear hK K hB hLm hAl
  try simp only [Act.put, List.setIfInBounds_toArray, List.set_cons_zero, List.set_cons_succ]
  refine held_steady 66 (by kernel_rfl) (by rfl) (by kernel_rfl) hq ?_
  clear hq
  simp only [List.drop_succ_cons, List.drop_zero]
  repeat (first | (refine steady_skip (by rfl) ?_; simp only [Act.put, List.setIfInBounds_toArray, List.set_cons_zero, List.set_cons_succ]) | (refine steady_read _ (by rfl) (fun W hW => by (have m1 := (KQ.out _ hW).2.2.2.2.1; have x0 := m1.cell_at 0 rfl; have x1 := m1.cell_at 1 rfl; have x2 := m1.cell_at 2 rfl; have x3 := m1.cell_at 3 rfl; have x4 := m1.cell_at 4 rfl; have x5 := m1.cell_at 5 rfl; have x6 := m1.cell_at 6 rfl; have x7 := m1.cell_at 7 rfl; have x8 := m1.cell_at 8 rfl; have x9 := m1.cell_at 9 rfl; have x10 := m1.cell_at 10 rfl; have m2 := (KQ.out _ hW).2.2.2.2.2; have y0 := m2.cell_at 0 rfl; have y1 := m2.cell_at 1 rfl; have y2 := m2.cell_at 2 rfl; have y3 := m2.cell_at 3 rfl; have y4 := m2.cell_at 4 rfl; have y5 := m2.cell_at 5 rfl; have y6 := m2.cell_at 6 rfl; have y7 := m2.cell_at 7 rfl; have y8 := m2.cell_at 8 rfl; have y9 := m2.cell_at 9 rfl; have y10 := m2.cell_at 10 rfl; clear m1 m2; go_simp; first | done | with_reducible rfl)) ?_; simp only [Act.put, List.setIfInBounds_toArray, List.set_cons_zero, List.set_cons_succ]) | (refine steady_call _ _ _ (by rfl) (fun W hW => by (have m1 := (KQ.out _ hW).2.2.2.2.1; have x0 := m1.cell_at 0 rfl; have x1 := m1.cell_at 1 rfl; have x2 := m1.cell_at 2 rfl; have x3 := m1.cell_at 3 rfl; have x4 := m1.cell_at 4 rfl; have x5 := m1.cell_at 5 rfl; have x6 := m1.cell_at 6 rfl; have x7 := m1.cell_at 7 rfl; have x8 := m1.cell_at 8 rfl; have x9 := m1.cell_at 9 rfl; have x10 := m1.cell_at 10 rfl; have m2 := (KQ.out _ hW).2.2.2.2.2; have y0 := m2.cell_at 0 rfl; have y1 := m2.cell_at 1 rfl; have y2 := m2.cell_at 2 rfl; have y3 := m2.cell_at 3 rfl; have y4 := m2.cell_at 4 rfl; have y5 := m2.cell_at 5 rfl; have y6 := m2.cell_at 6 rfl; have y7 := m2.cell_at 7 rfl; have y8 := m2.cell_at 8 rfl; have y9 := m2.cell_at 9 rfl; have y10 := m2.cell_at 10 rfl; clear m1 m2; go_simp; first | done | rfl)) (fun W hW => K8.out _ hW) ?_; simp only [Act.put, List.setIfInBounds_toArray, List.set_cons_zero, List.set_cons_succ]))
  refine steady_nil (fun W hW => ?_)
  go_wp2_with fail
  go_ret
  exact ⟨rfl, (KQ.out _ hW).1⟩
end
end Go.Proofs.YtbalcbnlpgekaaaDoor
