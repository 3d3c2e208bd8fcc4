/- What Take tells; Size; Most. -/
import Derived.Test.YtegflmaobmibnaaGreatDoorQPlanR
namespace Go.Proofs.YtegflmaobmibnaaGreatDoor
set_option maxRecDepth 100000
open Go.RowKit Go.Shelf
set_option linter.unusedVariables false
set_option linter.unusedSimpArgs false

set_option maxHeartbeats 1000000 in
theorem equal8_any (A A' : Option Addr) (c c' : Nat) (zs zs' : List Int) (w : World) (h : Row w w.heap.size A (u8s zs)) (h' : Row w w.heap.size A' (u8s zs')) (hb : ∀ z ∈ zs, IsByte z) (hb' : ∀ z ∈ zs', IsByte z) :
    Calls Tryz.prog 32 #[.slice A zs.length c, .slice A' zs'.length c'] w fun e w' => e = .returned (.bool (sameB zs zs')) ∧ w = w' := by
  have r1 := text_run w 30 5 Tryz.underlying30 Tryz.underlying5 9 Tryz.underlying9 _ A zs c h
  have r2 := text_run w 30 5 Tryz.underlying30 Tryz.underlying5 9 Tryz.underlying9 _ A' zs' c' h'
  have hs := sameB_text zs zs' hb hb'
  go_enter Tryz.func32, Tryz.ntmps32
  go_wp2
  go_ret
  exact ⟨rfl, rfl⟩

theorem owned_lies {n0 : Nat} {m : Lay} {W : World} (h : Owned n0 m W) (hs : Small m.pl) : Lies m W := by
  refine h.lies (fun s hx => ?_) ?_ ?_ ?_ ?_ ?_
  · have := hs.kinds s hx; omega
  · have := hs.nS; simp only [Lay.pl] at this; omega
  · have := hs.nG; simp only [Lay.pl] at this; omega
  · have := hs.nE; simp only [Lay.pl, List.length_map] at this; omega
  · have := hs.nF; simp only [Lay.pl] at this; omega
  · intro x hx
    have : x.over.length ≤ 3 := hs.overs x.pure (List.mem_map.2 ⟨x, hx, rfl⟩)
    omega

/-- What Take tells of bytes. -/
def TakeGives (w : World) (zs : List Int) (l : List Bool) (e : Ending) (w' : World) : Prop :=
  (layP l 0 = none ∧ e = .returned (.tuple #[zeroL.val, .int .i64 40])) ∨
  (∃ (m : Lay) (s' : Nat), layP l 0 = some (m.pl, s') ∧ ((rightL m = true ∧ bytesL m.pl = zs ∧ e = .returned (.tuple #[m.val, .int .i64 0]) ∧ Owned w.heap.size m w') ∨ (¬ (rightL m = true ∧ bytesL m.pl = zs) ∧ e = .returned (.tuple #[zeroL.val, .int .i64 41]))))

set_option maxHeartbeats 16000000 in
theorem takeL_any (A : Option Addr) (cap : Nat) (zs : List Int) (l : List Bool) (w : World) (hH : Hands w A zs) (hl : zs.length ≤ 2000) (hA : Are zs (8 * (zs.length : Int)) l) (hSh : Shapes w) :
    Calls Tryz.prog 11 #[.slice A zs.length cap] w fun e w' => Below w.heap.size w w' ∧ TakeGives w zs l e w' := by
  have HS0 := Lib.hid hSh.lt
  have HA := Lib.hid hA
  have HH := Lib.hid hH
  obtain ⟨W0, hW0⟩ : ∃ W, w.alloc (.cells #[.slice none 0 0, .slice none 0 0, .slice none 0 0, .slice none 0 0, .int .i64 0, .int .i64 0, .int .i64 0, .int .i64 0, .int .i64 0, .int .i64 0, .int .i64 0] 29) = W := ⟨_, rfl⟩
  have HB0 : Hid (Below w.heap.size w W0) := Lib.hid (by rw [← hW0]; exact below1 w _)
  have HL0 : Hid (Whole W0 w.heap.size 29 [.slice none 0 0, .slice none 0 0, .slice none 0 0, .slice none 0 0, .int .i64 0, .int .i64 0, .int .i64 0, .int .i64 0, .int .i64 0, .int .i64 0, .int .i64 0]) := Lib.hid (by rw [← hW0]; exact (Whole.new w 29 [.slice none 0 0, .slice none 0 0, .slice none 0 0, .slice none 0 0, .int .i64 0, .int .i64 0, .int .i64 0, .int .i64 0, .int .i64 0, .int .i64 0, .int .i64 0]))
  have HN0 : Hid (W0.heap.size = w.heap.size + 1) := Lib.hid (by rw [← hW0]; simp)
  have HSH : Hid (Shapes W0) := Lib.hid (fun i v hv => (HB0.out.cell (p := ⟨0, i, none⟩) HS0.out).trans (hSh i v hv))
  clear hSh hH hA
  go_enter Tryz.func11, Tryz.ntmps11
  go_wp2_with fail
  try rw [hW0]
  clear hW0
  refine (read_any A cap zs l W0 (HH.out.on HB0.out) hl HA.out HSH.out).mono ?_
  rintro e w1 ⟨hb1, h1⟩
  have HB1 : Hid (Below W0.heap.size W0 w1) := Lib.hid hb1
  clear hb1
  rcases h1 with ⟨m, s', hp, rfl, ho⟩ | ⟨hp, rfl⟩
  rotate_left
  · have hL1 := (HL0.out.below HB1.out HL0.out.lt).alloc (.cells #[.slice zeroL.As zeroL.secs.length zeroL.cs, .slice zeroL.Ag zeroL.sigs.length zeroL.cg, .slice zeroL.Ae zeroL.exits.length zeroL.ce, .slice zeroL.Af zeroL.flanks.length zeroL.cf, .int .i64 zeroL.t0, .int .i64 zeroL.t1, .int .i64 zeroL.t2, .int .i64 zeroL.t3, .int .i64 zeroL.t4, .int .i64 zeroL.t5, .int .i64 zeroL.t6] 29)
    have HP := Lib.hid hp
    have x0 := hL1.cell_at 0 rfl
    have f0 := hL1.frozen 0
    have x1 := hL1.cell_at 1 rfl
    have f1 := hL1.frozen 1
    have x2 := hL1.cell_at 2 rfl
    have f2 := hL1.frozen 2
    have x3 := hL1.cell_at 3 rfl
    have f3 := hL1.frozen 3
    have x4 := hL1.cell_at 4 rfl
    have f4 := hL1.frozen 4
    have x5 := hL1.cell_at 5 rfl
    have f5 := hL1.frozen 5
    have x6 := hL1.cell_at 6 rfl
    have f6 := hL1.frozen 6
    have x7 := hL1.cell_at 7 rfl
    have f7 := hL1.frozen 7
    have x8 := hL1.cell_at 8 rfl
    have f8 := hL1.frozen 8
    have x9 := hL1.cell_at 9 rfl
    have f9 := hL1.frozen 9
    have x10 := hL1.cell_at 10 rfl
    have f10 := hL1.frozen 10
    have hF : Hid (Whole ((((((((((((w1.alloc (.cells #[.slice zeroL.As zeroL.secs.length zeroL.cs, .slice zeroL.Ag zeroL.sigs.length zeroL.cg, .slice zeroL.Ae zeroL.exits.length zeroL.ce, .slice zeroL.Af zeroL.flanks.length zeroL.cf, .int .i64 zeroL.t0, .int .i64 zeroL.t1, .int .i64 zeroL.t2, .int .i64 zeroL.t3, .int .i64 zeroL.t4, .int .i64 zeroL.t5, .int .i64 zeroL.t6] 29)).setCell ⟨w.heap.size, 0, none⟩ (.slice none 0 0)).setCell ⟨w.heap.size, 1, none⟩ (.slice none 0 0)).setCell ⟨w.heap.size, 2, none⟩ (.slice none 0 0)).setCell ⟨w.heap.size, 3, none⟩ (.slice none 0 0)).setCell ⟨w.heap.size, 4, none⟩ (.int .i64 0)).setCell ⟨w.heap.size, 5, none⟩ (.int .i64 0)).setCell ⟨w.heap.size, 6, none⟩ (.int .i64 0)).setCell ⟨w.heap.size, 7, none⟩ (.int .i64 0)).setCell ⟨w.heap.size, 8, none⟩ (.int .i64 0)).setCell ⟨w.heap.size, 9, none⟩ (.int .i64 0)).setCell ⟨w.heap.size, 10, none⟩ (.int .i64 0)) w.heap.size 29 [.slice none 0 0, .slice none 0 0, .slice none 0 0, .slice none 0 0, .int .i64 0, .int .i64 0, .int .i64 0, .int .i64 0, .int .i64 0, .int .i64 0, .int .i64 0] ∧ Below w.heap.size w ((((((((((((w1.alloc (.cells #[.slice zeroL.As zeroL.secs.length zeroL.cs, .slice zeroL.Ag zeroL.sigs.length zeroL.cg, .slice zeroL.Ae zeroL.exits.length zeroL.ce, .slice zeroL.Af zeroL.flanks.length zeroL.cf, .int .i64 zeroL.t0, .int .i64 zeroL.t1, .int .i64 zeroL.t2, .int .i64 zeroL.t3, .int .i64 zeroL.t4, .int .i64 zeroL.t5, .int .i64 zeroL.t6] 29)).setCell ⟨w.heap.size, 0, none⟩ (.slice none 0 0)).setCell ⟨w.heap.size, 1, none⟩ (.slice none 0 0)).setCell ⟨w.heap.size, 2, none⟩ (.slice none 0 0)).setCell ⟨w.heap.size, 3, none⟩ (.slice none 0 0)).setCell ⟨w.heap.size, 4, none⟩ (.int .i64 0)).setCell ⟨w.heap.size, 5, none⟩ (.int .i64 0)).setCell ⟨w.heap.size, 6, none⟩ (.int .i64 0)).setCell ⟨w.heap.size, 7, none⟩ (.int .i64 0)).setCell ⟨w.heap.size, 8, none⟩ (.int .i64 0)).setCell ⟨w.heap.size, 9, none⟩ (.int .i64 0)).setCell ⟨w.heap.size, 10, none⟩ (.int .i64 0))) :=
      Lib.hid ⟨set11 hL1, below11 ((HB0.out.trans (HB1.out.mono (by have := HN0.out; omega))).trans ((below1 w1 _).mono (by have := HN0.out; have := HB1.out.size; omega))) (Nat.le_refl _)⟩
    clear hp hL1
    go_wp2_with fail
    obtain ⟨W3, hW3⟩ : ∃ W, ((((((((((((w1.alloc (.cells #[.slice zeroL.As zeroL.secs.length zeroL.cs, .slice zeroL.Ag zeroL.sigs.length zeroL.cg, .slice zeroL.Ae zeroL.exits.length zeroL.ce, .slice zeroL.Af zeroL.flanks.length zeroL.cf, .int .i64 zeroL.t0, .int .i64 zeroL.t1, .int .i64 zeroL.t2, .int .i64 zeroL.t3, .int .i64 zeroL.t4, .int .i64 zeroL.t5, .int .i64 zeroL.t6] 29)).setCell ⟨w.heap.size, 0, none⟩ (.slice none 0 0)).setCell ⟨w.heap.size, 1, none⟩ (.slice none 0 0)).setCell ⟨w.heap.size, 2, none⟩ (.slice none 0 0)).setCell ⟨w.heap.size, 3, none⟩ (.slice none 0 0)).setCell ⟨w.heap.size, 4, none⟩ (.int .i64 0)).setCell ⟨w.heap.size, 5, none⟩ (.int .i64 0)).setCell ⟨w.heap.size, 6, none⟩ (.int .i64 0)).setCell ⟨w.heap.size, 7, none⟩ (.int .i64 0)).setCell ⟨w.heap.size, 8, none⟩ (.int .i64 0)).setCell ⟨w.heap.size, 9, none⟩ (.int .i64 0)).setCell ⟨w.heap.size, 10, none⟩ (.int .i64 0)) = W := ⟨_, rfl⟩
    rw [hW3] at hF ⊢
    clear hW3 x0 f0 x1 f1 x2 f2 x3 f3 x4 f4 x5 f5 x6 f6 x7 f7 x8 f8 x9 f9 x10 f10
    have x0 := hF.out.1.cell_at 0 rfl
    have x1 := hF.out.1.cell_at 1 rfl
    have x2 := hF.out.1.cell_at 2 rfl
    have x3 := hF.out.1.cell_at 3 rfl
    have x4 := hF.out.1.cell_at 4 rfl
    have x5 := hF.out.1.cell_at 5 rfl
    have x6 := hF.out.1.cell_at 6 rfl
    have x7 := hF.out.1.cell_at 7 rfl
    have x8 := hF.out.1.cell_at 8 rfl
    have x9 := hF.out.1.cell_at 9 rfl
    have x10 := hF.out.1.cell_at 10 rfl
    refine bodyPost_ret (v := .tuple #[.agg #[.slice none 0 0, .slice none 0 0, .slice none 0 0, .slice none 0 0, .int .i64 0, .int .i64 0, .int .i64 0, .int .i64 0, .int .i64 0, .int .i64 0, .int .i64 0], .int .i64 40]) (by simp [results, Tryz.results11, go_sem, x0, x1, x2, x3, x4, x5, x6, x7, x8, x9, x10]) rfl ?_
    exact ⟨hF.out.2, .inl ⟨HP.out, rfl⟩⟩
  · have HP := Lib.hid hp
    have HO := Lib.hid ho
    have HLW : Hid (Lies m w1) := Lib.hid (owned_lies ho (tells_lay l 0 _ _ hp))
    have HRB := Lib.hid ((HL0.out.below HB1.out HL0.out.lt).alloc (.cells #[.slice m.As m.secs.length m.cs, .slice m.Ag m.sigs.length m.cg, .slice m.Ae m.exits.length m.ce, .slice m.Af m.flanks.length m.cf, .int .i64 m.t0, .int .i64 m.t1, .int .i64 m.t2, .int .i64 m.t3, .int .i64 m.t4, .int .i64 m.t5, .int .i64 m.t6] 29))
    have HBX := Lib.hid (Whole.new w1 29 [.slice m.As m.secs.length m.cs, .slice m.Ag m.sigs.length m.cg, .slice m.Ae m.exits.length m.ce, .slice m.Af m.flanks.length m.cf, .int .i64 m.t0, .int .i64 m.t1, .int .i64 m.t2, .int .i64 m.t3, .int .i64 m.t4, .int .i64 m.t5, .int .i64 m.t6])
    have HB2 := Lib.hid (below1 w1 (.cells #[.slice m.As m.secs.length m.cs, .slice m.Ag m.sigs.length m.cg, .slice m.Ae m.exits.length m.ce, .slice m.Af m.flanks.length m.cf, .int .i64 m.t0, .int .i64 m.t1, .int .i64 m.t2, .int .i64 m.t3, .int .i64 m.t4, .int .i64 m.t5, .int .i64 m.t6] 29))
    clear hp ho
    go_wp2_with fail
    obtain ⟨W1, hW1⟩ : ∃ W, w1.alloc (.cells #[.slice m.As m.secs.length m.cs, .slice m.Ag m.sigs.length m.cg, .slice m.Ae m.exits.length m.ce, .slice m.Af m.flanks.length m.cf, .int .i64 m.t0, .int .i64 m.t1, .int .i64 m.t2, .int .i64 m.t3, .int .i64 m.t4, .int .i64 m.t5, .int .i64 m.t6] 29) = W := ⟨_, rfl⟩
    rw [hW1] at HRB HBX HB2 ⊢
    clear hW1
    have hSh1 : Shapes W1 := fun i v hv => ((HB1.out.trans (HB2.out.mono HB1.out.size)).cell (p := ⟨0, i, none⟩) HSH.out.lt).trans (HSH.out i v hv)
    obtain ⟨r, hr⟩ : ∃ r, rightL m = r := ⟨_, rfl⟩
    have HR := Lib.hid hr
    refine (putL_any m W1 hSh1 hSh1.lt (Lies.closed m _ _ HLW.out HB2.out) r hr).mono ?_
    clear hSh1 hr
    rintro e w2 ⟨hb2, h2⟩
    have HBW : Hid (Below w.heap.size w w2) := Lib.hid (((HB0.out.trans (HB1.out.mono (by have := HN0.out; omega))).trans (HB2.out.mono (by have := HN0.out; have := HB1.out.size; omega))).trans (hb2.mono (by have := HN0.out; have := HB1.out.size; have := HB2.out.size; omega)))
    have HOW : Hid (Owned W0.heap.size m w2) := Lib.hid ((HO.out.keep HB2.out).keep hb2)
    have hL1 := HRB.out.below hb2 HRB.out.lt
    have hBX := HBX.out.below hb2 HBX.out.lt
    have HHW : Hid (Hands w2 A zs) := Lib.hid (HH.out.on HBW.out)
    clear hb2
    rcases h2 with ⟨rfl, rfl⟩ | ⟨rfl, A', c', rfl, hh2⟩
    · have HNO : Hid (¬ (rightL m = true ∧ bytesL m.pl = zs)) := Lib.hid (fun h => by rw [HR.out] at h; exact Bool.noConfusion h.1)
      have x0 := hL1.cell_at 0 rfl
      have f0 := hL1.frozen 0
      have x1 := hL1.cell_at 1 rfl
      have f1 := hL1.frozen 1
      have x2 := hL1.cell_at 2 rfl
      have f2 := hL1.frozen 2
      have x3 := hL1.cell_at 3 rfl
      have f3 := hL1.frozen 3
      have x4 := hL1.cell_at 4 rfl
      have f4 := hL1.frozen 4
      have x5 := hL1.cell_at 5 rfl
      have f5 := hL1.frozen 5
      have x6 := hL1.cell_at 6 rfl
      have f6 := hL1.frozen 6
      have x7 := hL1.cell_at 7 rfl
      have f7 := hL1.frozen 7
      have x8 := hL1.cell_at 8 rfl
      have f8 := hL1.frozen 8
      have x9 := hL1.cell_at 9 rfl
      have f9 := hL1.frozen 9
      have x10 := hL1.cell_at 10 rfl
      have f10 := hL1.frozen 10
      have hF : Hid (Whole (((((((((((w2.setCell ⟨w.heap.size, 0, none⟩ (.slice none 0 0)).setCell ⟨w.heap.size, 1, none⟩ (.slice none 0 0)).setCell ⟨w.heap.size, 2, none⟩ (.slice none 0 0)).setCell ⟨w.heap.size, 3, none⟩ (.slice none 0 0)).setCell ⟨w.heap.size, 4, none⟩ (.int .i64 0)).setCell ⟨w.heap.size, 5, none⟩ (.int .i64 0)).setCell ⟨w.heap.size, 6, none⟩ (.int .i64 0)).setCell ⟨w.heap.size, 7, none⟩ (.int .i64 0)).setCell ⟨w.heap.size, 8, none⟩ (.int .i64 0)).setCell ⟨w.heap.size, 9, none⟩ (.int .i64 0)).setCell ⟨w.heap.size, 10, none⟩ (.int .i64 0)) w.heap.size 29 [.slice none 0 0, .slice none 0 0, .slice none 0 0, .slice none 0 0, .int .i64 0, .int .i64 0, .int .i64 0, .int .i64 0, .int .i64 0, .int .i64 0, .int .i64 0] ∧ Below w.heap.size w (((((((((((w2.setCell ⟨w.heap.size, 0, none⟩ (.slice none 0 0)).setCell ⟨w.heap.size, 1, none⟩ (.slice none 0 0)).setCell ⟨w.heap.size, 2, none⟩ (.slice none 0 0)).setCell ⟨w.heap.size, 3, none⟩ (.slice none 0 0)).setCell ⟨w.heap.size, 4, none⟩ (.int .i64 0)).setCell ⟨w.heap.size, 5, none⟩ (.int .i64 0)).setCell ⟨w.heap.size, 6, none⟩ (.int .i64 0)).setCell ⟨w.heap.size, 7, none⟩ (.int .i64 0)).setCell ⟨w.heap.size, 8, none⟩ (.int .i64 0)).setCell ⟨w.heap.size, 9, none⟩ (.int .i64 0)).setCell ⟨w.heap.size, 10, none⟩ (.int .i64 0))) := Lib.hid ⟨set11 hL1, below11 HBW.out (Nat.le_refl _)⟩
      clear hL1 hBX
      go_wp2_with fail
      obtain ⟨W3, hW3⟩ : ∃ W, (((((((((((w2.setCell ⟨w.heap.size, 0, none⟩ (.slice none 0 0)).setCell ⟨w.heap.size, 1, none⟩ (.slice none 0 0)).setCell ⟨w.heap.size, 2, none⟩ (.slice none 0 0)).setCell ⟨w.heap.size, 3, none⟩ (.slice none 0 0)).setCell ⟨w.heap.size, 4, none⟩ (.int .i64 0)).setCell ⟨w.heap.size, 5, none⟩ (.int .i64 0)).setCell ⟨w.heap.size, 6, none⟩ (.int .i64 0)).setCell ⟨w.heap.size, 7, none⟩ (.int .i64 0)).setCell ⟨w.heap.size, 8, none⟩ (.int .i64 0)).setCell ⟨w.heap.size, 9, none⟩ (.int .i64 0)).setCell ⟨w.heap.size, 10, none⟩ (.int .i64 0)) = W := ⟨_, rfl⟩
      rw [hW3] at hF ⊢
      clear hW3 x0 f0 x1 f1 x2 f2 x3 f3 x4 f4 x5 f5 x6 f6 x7 f7 x8 f8 x9 f9 x10 f10
      have x0 := hF.out.1.cell_at 0 rfl
      have x1 := hF.out.1.cell_at 1 rfl
      have x2 := hF.out.1.cell_at 2 rfl
      have x3 := hF.out.1.cell_at 3 rfl
      have x4 := hF.out.1.cell_at 4 rfl
      have x5 := hF.out.1.cell_at 5 rfl
      have x6 := hF.out.1.cell_at 6 rfl
      have x7 := hF.out.1.cell_at 7 rfl
      have x8 := hF.out.1.cell_at 8 rfl
      have x9 := hF.out.1.cell_at 9 rfl
      have x10 := hF.out.1.cell_at 10 rfl
      refine bodyPost_ret (v := .tuple #[.agg #[.slice none 0 0, .slice none 0 0, .slice none 0 0, .slice none 0 0, .int .i64 0, .int .i64 0, .int .i64 0, .int .i64 0, .int .i64 0, .int .i64 0, .int .i64 0], .int .i64 41]) (by simp [results, Tryz.results11, go_sem, x0, x1, x2, x3, x4, x5, x6, x7, x8, x9, x10]) rfl ?_
      exact ⟨hF.out.2, .inr ⟨m, s', HP.out, .inr ⟨HNO.out, rfl⟩⟩⟩
    · obtain ⟨q, hq⟩ : ∃ q, sameB (bytesL m.pl) zs = q := ⟨_, rfl⟩
      have HQ := Lib.hid hq
      have HHW2 := Lib.hid hh2
      clear hq hh2
      go_wp2_with fail
      refine (equal8_any A' A c' cap (bytesL m.pl) zs w2 HHW2.out.1 HHW.out.1 HHW2.out.2 HHW.out.2).mono ?_
      rintro e w3 ⟨rfl, rfl⟩
      rw [HQ.out]
      cases q
      · have HNO : Hid (¬ (rightL m = true ∧ bytesL m.pl = zs)) := Lib.hid (fun h => by have := HQ.out; unfold sameB at this; simp [h.2] at this)
        have x0 := hL1.cell_at 0 rfl
        have f0 := hL1.frozen 0
        have x1 := hL1.cell_at 1 rfl
        have f1 := hL1.frozen 1
        have x2 := hL1.cell_at 2 rfl
        have f2 := hL1.frozen 2
        have x3 := hL1.cell_at 3 rfl
        have f3 := hL1.frozen 3
        have x4 := hL1.cell_at 4 rfl
        have f4 := hL1.frozen 4
        have x5 := hL1.cell_at 5 rfl
        have f5 := hL1.frozen 5
        have x6 := hL1.cell_at 6 rfl
        have f6 := hL1.frozen 6
        have x7 := hL1.cell_at 7 rfl
        have f7 := hL1.frozen 7
        have x8 := hL1.cell_at 8 rfl
        have f8 := hL1.frozen 8
        have x9 := hL1.cell_at 9 rfl
        have f9 := hL1.frozen 9
        have x10 := hL1.cell_at 10 rfl
        have f10 := hL1.frozen 10
        have hF : Hid (Whole (((((((((((w2.setCell ⟨w.heap.size, 0, none⟩ (.slice none 0 0)).setCell ⟨w.heap.size, 1, none⟩ (.slice none 0 0)).setCell ⟨w.heap.size, 2, none⟩ (.slice none 0 0)).setCell ⟨w.heap.size, 3, none⟩ (.slice none 0 0)).setCell ⟨w.heap.size, 4, none⟩ (.int .i64 0)).setCell ⟨w.heap.size, 5, none⟩ (.int .i64 0)).setCell ⟨w.heap.size, 6, none⟩ (.int .i64 0)).setCell ⟨w.heap.size, 7, none⟩ (.int .i64 0)).setCell ⟨w.heap.size, 8, none⟩ (.int .i64 0)).setCell ⟨w.heap.size, 9, none⟩ (.int .i64 0)).setCell ⟨w.heap.size, 10, none⟩ (.int .i64 0)) w.heap.size 29 [.slice none 0 0, .slice none 0 0, .slice none 0 0, .slice none 0 0, .int .i64 0, .int .i64 0, .int .i64 0, .int .i64 0, .int .i64 0, .int .i64 0, .int .i64 0] ∧ Below w.heap.size w (((((((((((w2.setCell ⟨w.heap.size, 0, none⟩ (.slice none 0 0)).setCell ⟨w.heap.size, 1, none⟩ (.slice none 0 0)).setCell ⟨w.heap.size, 2, none⟩ (.slice none 0 0)).setCell ⟨w.heap.size, 3, none⟩ (.slice none 0 0)).setCell ⟨w.heap.size, 4, none⟩ (.int .i64 0)).setCell ⟨w.heap.size, 5, none⟩ (.int .i64 0)).setCell ⟨w.heap.size, 6, none⟩ (.int .i64 0)).setCell ⟨w.heap.size, 7, none⟩ (.int .i64 0)).setCell ⟨w.heap.size, 8, none⟩ (.int .i64 0)).setCell ⟨w.heap.size, 9, none⟩ (.int .i64 0)).setCell ⟨w.heap.size, 10, none⟩ (.int .i64 0))) := Lib.hid ⟨set11 hL1, below11 HBW.out (Nat.le_refl _)⟩
        clear hL1 hBX
        go_wp2_with fail
        obtain ⟨W3, hW3⟩ : ∃ W, (((((((((((w2.setCell ⟨w.heap.size, 0, none⟩ (.slice none 0 0)).setCell ⟨w.heap.size, 1, none⟩ (.slice none 0 0)).setCell ⟨w.heap.size, 2, none⟩ (.slice none 0 0)).setCell ⟨w.heap.size, 3, none⟩ (.slice none 0 0)).setCell ⟨w.heap.size, 4, none⟩ (.int .i64 0)).setCell ⟨w.heap.size, 5, none⟩ (.int .i64 0)).setCell ⟨w.heap.size, 6, none⟩ (.int .i64 0)).setCell ⟨w.heap.size, 7, none⟩ (.int .i64 0)).setCell ⟨w.heap.size, 8, none⟩ (.int .i64 0)).setCell ⟨w.heap.size, 9, none⟩ (.int .i64 0)).setCell ⟨w.heap.size, 10, none⟩ (.int .i64 0)) = W := ⟨_, rfl⟩
        rw [hW3] at hF ⊢
        clear hW3 x0 f0 x1 f1 x2 f2 x3 f3 x4 f4 x5 f5 x6 f6 x7 f7 x8 f8 x9 f9 x10 f10
        have x0 := hF.out.1.cell_at 0 rfl
        have x1 := hF.out.1.cell_at 1 rfl
        have x2 := hF.out.1.cell_at 2 rfl
        have x3 := hF.out.1.cell_at 3 rfl
        have x4 := hF.out.1.cell_at 4 rfl
        have x5 := hF.out.1.cell_at 5 rfl
        have x6 := hF.out.1.cell_at 6 rfl
        have x7 := hF.out.1.cell_at 7 rfl
        have x8 := hF.out.1.cell_at 8 rfl
        have x9 := hF.out.1.cell_at 9 rfl
        have x10 := hF.out.1.cell_at 10 rfl
        refine bodyPost_ret (v := .tuple #[.agg #[.slice none 0 0, .slice none 0 0, .slice none 0 0, .slice none 0 0, .int .i64 0, .int .i64 0, .int .i64 0, .int .i64 0, .int .i64 0, .int .i64 0, .int .i64 0], .int .i64 41]) (by simp [results, Tryz.results11, go_sem, x0, x1, x2, x3, x4, x5, x6, x7, x8, x9, x10]) rfl ?_
        exact ⟨hF.out.2, .inr ⟨m, s', HP.out, .inr ⟨HNO.out, rfl⟩⟩⟩
      · have HYES : Hid (rightL m = true ∧ bytesL m.pl = zs) := Lib.hid ⟨HR.out, by have := HQ.out; unfold sameB at this; exact of_decide_eq_true this⟩
        have x0 := hL1.cell_at 0 rfl
        have f0 := hL1.frozen 0
        have x1 := hL1.cell_at 1 rfl
        have f1 := hL1.frozen 1
        have x2 := hL1.cell_at 2 rfl
        have f2 := hL1.frozen 2
        have x3 := hL1.cell_at 3 rfl
        have f3 := hL1.frozen 3
        have x4 := hL1.cell_at 4 rfl
        have f4 := hL1.frozen 4
        have x5 := hL1.cell_at 5 rfl
        have f5 := hL1.frozen 5
        have x6 := hL1.cell_at 6 rfl
        have f6 := hL1.frozen 6
        have x7 := hL1.cell_at 7 rfl
        have f7 := hL1.frozen 7
        have x8 := hL1.cell_at 8 rfl
        have f8 := hL1.frozen 8
        have x9 := hL1.cell_at 9 rfl
        have f9 := hL1.frozen 9
        have x10 := hL1.cell_at 10 rfl
        have f10 := hL1.frozen 10
        have z0 := hBX.cell_at 0 rfl
        have z1 := hBX.cell_at 1 rfl
        have z2 := hBX.cell_at 2 rfl
        have z3 := hBX.cell_at 3 rfl
        have z4 := hBX.cell_at 4 rfl
        have z5 := hBX.cell_at 5 rfl
        have z6 := hBX.cell_at 6 rfl
        have z7 := hBX.cell_at 7 rfl
        have z8 := hBX.cell_at 8 rfl
        have z9 := hBX.cell_at 9 rfl
        have z10 := hBX.cell_at 10 rfl
        have hF : Hid (Whole (((((((((((w2.setCell ⟨w.heap.size, 0, none⟩ (.slice m.As m.secs.length m.cs)).setCell ⟨w.heap.size, 1, none⟩ (.slice m.Ag m.sigs.length m.cg)).setCell ⟨w.heap.size, 2, none⟩ (.slice m.Ae m.exits.length m.ce)).setCell ⟨w.heap.size, 3, none⟩ (.slice m.Af m.flanks.length m.cf)).setCell ⟨w.heap.size, 4, none⟩ (.int .i64 m.t0)).setCell ⟨w.heap.size, 5, none⟩ (.int .i64 m.t1)).setCell ⟨w.heap.size, 6, none⟩ (.int .i64 m.t2)).setCell ⟨w.heap.size, 7, none⟩ (.int .i64 m.t3)).setCell ⟨w.heap.size, 8, none⟩ (.int .i64 m.t4)).setCell ⟨w.heap.size, 9, none⟩ (.int .i64 m.t5)).setCell ⟨w.heap.size, 10, none⟩ (.int .i64 m.t6)) w.heap.size 29 m.cells ∧ Below w.heap.size w (((((((((((w2.setCell ⟨w.heap.size, 0, none⟩ (.slice m.As m.secs.length m.cs)).setCell ⟨w.heap.size, 1, none⟩ (.slice m.Ag m.sigs.length m.cg)).setCell ⟨w.heap.size, 2, none⟩ (.slice m.Ae m.exits.length m.ce)).setCell ⟨w.heap.size, 3, none⟩ (.slice m.Af m.flanks.length m.cf)).setCell ⟨w.heap.size, 4, none⟩ (.int .i64 m.t0)).setCell ⟨w.heap.size, 5, none⟩ (.int .i64 m.t1)).setCell ⟨w.heap.size, 6, none⟩ (.int .i64 m.t2)).setCell ⟨w.heap.size, 7, none⟩ (.int .i64 m.t3)).setCell ⟨w.heap.size, 8, none⟩ (.int .i64 m.t4)).setCell ⟨w.heap.size, 9, none⟩ (.int .i64 m.t5)).setCell ⟨w.heap.size, 10, none⟩ (.int .i64 m.t6)) ∧ Owned w.heap.size m (((((((((((w2.setCell ⟨w.heap.size, 0, none⟩ (.slice m.As m.secs.length m.cs)).setCell ⟨w.heap.size, 1, none⟩ (.slice m.Ag m.sigs.length m.cg)).setCell ⟨w.heap.size, 2, none⟩ (.slice m.Ae m.exits.length m.ce)).setCell ⟨w.heap.size, 3, none⟩ (.slice m.Af m.flanks.length m.cf)).setCell ⟨w.heap.size, 4, none⟩ (.int .i64 m.t0)).setCell ⟨w.heap.size, 5, none⟩ (.int .i64 m.t1)).setCell ⟨w.heap.size, 6, none⟩ (.int .i64 m.t2)).setCell ⟨w.heap.size, 7, none⟩ (.int .i64 m.t3)).setCell ⟨w.heap.size, 8, none⟩ (.int .i64 m.t4)).setCell ⟨w.heap.size, 9, none⟩ (.int .i64 m.t5)).setCell ⟨w.heap.size, 10, none⟩ (.int .i64 m.t6))) :=
          Lib.hid ⟨set11 hL1, below11 HBW.out (Nat.le_refl _), (own11 HOW.out (by have := HN0.out; omega)).low (by have := HN0.out; omega)⟩
        clear hL1 hBX
        go_wp2_with fail
        obtain ⟨W3, hW3⟩ : ∃ W, (((((((((((w2.setCell ⟨w.heap.size, 0, none⟩ (.slice m.As m.secs.length m.cs)).setCell ⟨w.heap.size, 1, none⟩ (.slice m.Ag m.sigs.length m.cg)).setCell ⟨w.heap.size, 2, none⟩ (.slice m.Ae m.exits.length m.ce)).setCell ⟨w.heap.size, 3, none⟩ (.slice m.Af m.flanks.length m.cf)).setCell ⟨w.heap.size, 4, none⟩ (.int .i64 m.t0)).setCell ⟨w.heap.size, 5, none⟩ (.int .i64 m.t1)).setCell ⟨w.heap.size, 6, none⟩ (.int .i64 m.t2)).setCell ⟨w.heap.size, 7, none⟩ (.int .i64 m.t3)).setCell ⟨w.heap.size, 8, none⟩ (.int .i64 m.t4)).setCell ⟨w.heap.size, 9, none⟩ (.int .i64 m.t5)).setCell ⟨w.heap.size, 10, none⟩ (.int .i64 m.t6)) = W := ⟨_, rfl⟩
        rw [hW3] at hF ⊢
        clear hW3 x0 f0 x1 f1 x2 f2 x3 f3 x4 f4 x5 f5 x6 f6 x7 f7 x8 f8 x9 f9 x10 f10 z0 z1 z2 z3 z4 z5 z6 z7 z8 z9 z10
        have x0 := hF.out.1.cell_at 0 rfl
        have x1 := hF.out.1.cell_at 1 rfl
        have x2 := hF.out.1.cell_at 2 rfl
        have x3 := hF.out.1.cell_at 3 rfl
        have x4 := hF.out.1.cell_at 4 rfl
        have x5 := hF.out.1.cell_at 5 rfl
        have x6 := hF.out.1.cell_at 6 rfl
        have x7 := hF.out.1.cell_at 7 rfl
        have x8 := hF.out.1.cell_at 8 rfl
        have x9 := hF.out.1.cell_at 9 rfl
        have x10 := hF.out.1.cell_at 10 rfl
        refine bodyPost_ret (v := .tuple #[m.val, .int .i64 0]) (by simp [results, Tryz.results11, go_sem, x0, x1, x2, x3, x4, x5, x6, x7, x8, x9, x10]) rfl ?_
        exact ⟨hF.out.2.1, .inr ⟨m, s', HP.out, .inl ⟨HYES.out.1, HYES.out.2, rfl, hF.out.2.2⟩⟩⟩

set_option maxHeartbeats 4000000 in
theorem sizeL_any (l : Lay) (w : World) (hT : Shapes w) (hL : Lies l w) (r : Bool) (hr : rightL l = r) :
    Calls Tryz.prog 15 #[l.val] w fun e w' => Below w.heap.size w w' ∧ e = .returned (.int .i64 (if r then ((bytesL l.pl).length : Int) else 0)) := by
  have HT := Lib.hid hT
  have HL := Lib.hid hL
  have HR := Lib.hid hr
  have HT8 : Hid (Shapes (w.alloc (.cells l.cells.toArray 29))) := Lib.hid (fun i v hv => ((below1 w _).cell (p := ⟨0, i, none⟩) hT.lt).trans (hT i v hv))
  clear hT hL hr
  go_enter Tryz.func15, Tryz.ntmps15
  go_wp2_with fail
  refine (putL_any l (w.alloc (.cells l.cells.toArray 29)) HT8.out HT8.out.lt (Lies.closed l _ _ HL.out (below1 w _)) r HR.out).mono ?_
  rintro e w2 ⟨hb2, (⟨rfl, rfl⟩ | ⟨rfl, A', c', rfl, hh2⟩)⟩
  · have HB : Hid (Below w.heap.size w w2) := Lib.hid ((below1 w _).trans (hb2.mono (by simp)))
    clear hb2
    go_wp2_with fail
    go_ret
    exact ⟨HB.out, rfl⟩
  · have HB : Hid (Below w.heap.size w w2) := Lib.hid ((below1 w _).trans (hb2.mono (by simp)))
    clear hb2 hh2
    go_wp2_with fail
    go_ret
    exact ⟨HB.out, rfl⟩
theorem most_any (w : World) : Calls Tryz.prog 17 #[] w fun e w' => e = .returned (.int .i64 200) ∧ w' = w := by
  go_enter Tryz.func17, Tryz.ntmps17
  go_wp2
  go_ret
  exact ⟨rfl, rfl⟩
end Go.Proofs.YtegflmaobmibnaaGreatDoor
