/- The document's own Take, Size, Most. -/
import Derived.Test.YtegflmaobmibnaaGreatDoorQPlanRz
import Derived.Test.YtegflmaobmibnaaGreatDoorQPlanRv
namespace Go.Proofs.YtegflmaobmibnaaGreatDoor
set_option maxRecDepth 100000
open Go.RowKit Go.Shelf
set_option linter.unusedVariables false
set_option linter.unusedSimpArgs false

theorem after_short {α : Type} {p : Par α} {l : List Bool} {s : Nat} {y : α} (h : After p l (some s) y none) : p l s = none := by
  unfold After Agree at h
  simp only [Option.bind_some] at h
  cases hp : p l s with
  | none => rfl
  | some r => obtain ⟨x, t⟩ := r; rw [hp] at h; simp at h
theorem after_there {α : Type} {p : Par α} {l : List Bool} {s t : Nat} {y : α} (h : After p l (some s) y (some t)) : p l s = some (y, t) := by
  unfold After Agree at h
  simp only [Option.bind_some] at h
  cases hp : p l s with
  | none => rw [hp] at h; simp at h
  | some r => obtain ⟨x, u⟩ := r; rw [hp] at h; simp only at h; obtain ⟨rfl, h2⟩ := h; cases h2; rfl

set_option maxHeartbeats 16000000 in
theorem takeR12_any (A : Option Addr) (cap : Nat) (zs : List Int) (l : List Bool) (w : World) (hH : Hands w A zs) (hl : zs.length ≤ 2000) (hA : Are zs (8 * (zs.length : Int)) l) :
    Calls Tryz.prog 12 #[.slice A zs.length cap] w fun e w' => Below w.heap.size w w' ∧ TakeGives w zs l e w' := by
  have HA := Lib.hid hA
  have HH := Lib.hid hH
  obtain ⟨W0, hW0⟩ : ∃ W, w.alloc (.cells #[.slice none 0 0, .slice none 0 0, .slice none 0 0, .slice none 0 0, .int .i64 0, .int .i64 0, .int .i64 0, .int .i64 0, .int .i64 0, .int .i64 0, .int .i64 0] 29) = W := ⟨_, rfl⟩
  have HB0 : Hid (Below w.heap.size w W0) := Lib.hid (by rw [← hW0]; exact below1 w _)
  have HL0 : Hid (Whole W0 w.heap.size 29 [.slice none 0 0, .slice none 0 0, .slice none 0 0, .slice none 0 0, .int .i64 0, .int .i64 0, .int .i64 0, .int .i64 0, .int .i64 0, .int .i64 0, .int .i64 0]) := Lib.hid (by rw [← hW0]; exact (Whole.new w 29 [.slice none 0 0, .slice none 0 0, .slice none 0 0, .slice none 0 0, .int .i64 0, .int .i64 0, .int .i64 0, .int .i64 0, .int .i64 0, .int .i64 0, .int .i64 0]))
  have HN0 : Hid (W0.heap.size = w.heap.size + 1) := Lib.hid (by rw [← hW0]; simp)
  clear hH hA
  go_enter Tryz.func12, Tryz.ntmps12
  go_wp2_with fail
  try rw [hW0]
  clear hW0
  refine (ofR_any A cap zs W0 (HH.out.on HB0.out).1 (by omega)).mono ?_
  rintro e w1 ⟨g, c, rfl, ho, hb1⟩
  have hg := (owns_lt ho).2
  have hh1 := Hands.owned ho HH.out.2
  obtain ⟨r, hr⟩ : ∃ r, w1.heap.size = r := ⟨_, rfl⟩
  obtain ⟨W2, hW2⟩ : ∃ W, w1.alloc (.cells #[.slice (some ⟨g, 0, none⟩) zs.length c, .int .i64 (8 * (zs.length : Int)), .int .i64 0, .bool false] 84) = W := ⟨_, rfl⟩
  have HB2 : Hid (Below W0.heap.size W0 W2) := Lib.hid (hb1.trans (by rw [← hW2]; exact (below1 w1 _).mono hb1.size))
  have HRD : Hid (Rd r g c zs (some 0) W2) := Lib.hid ⟨⟨0, false, by rw [← hW2, ← hr]; exact Whole.new w1 _ _, by omega, .inl ⟨rfl, rfl⟩⟩, by rw [← hW2]; exact hh1.on (below1 w1 _), by rw [← hW2]; simp; omega, by omega⟩
  have HR0 : Hid (W0.heap.size ≤ r) := Lib.hid (by have := hb1.size; omega)
  clear ho hg hh1 hb1
  go_wp2_with fail
  try rw [hW2]
  try rw [hr]
  clear hW2 hr
  refine (layR8_any HA.out hl (some 0) W2 HRD.out).mono ?_
  rintro e w3 ⟨m, s', rfl, hown, hrd, haft, hbq⟩
  have HB3 : Hid (Below w.heap.size w w3) := Lib.hid ((HB0.out.trans (HB2.out.mono (by have := HN0.out; omega))).trans (hbq.below (by have := HN0.out; have := HB2.out.size; omega) (by have := HN0.out; have := HR0.out; omega)))
  have HL3 : Hid (Whole w3 w.heap.size 29 [.slice none 0 0, .slice none 0 0, .slice none 0 0, .slice none 0 0, .int .i64 0, .int .i64 0, .int .i64 0, .int .i64 0, .int .i64 0, .int .i64 0, .int .i64 0]) := Lib.hid ((HL0.out.below HB2.out HL0.out.lt).bq hbq (by have := HN0.out; have := HB2.out.size; omega) (by have := HN0.out; have := HR0.out; omega))
  have HOW3 : Hid (Owned (w.heap.size + 1) m w3) := Lib.hid (hown.low (by have := HN0.out; have := HB2.out.size; omega))
  obtain ⟨W4, hW4⟩ : ∃ W, w3.alloc (.cells #[.slice m.As m.secs.length m.cs, .slice m.Ag m.sigs.length m.cg, .slice m.Ae m.exits.length m.ce, .slice m.Af m.flanks.length m.cf, .int .i64 m.t0, .int .i64 m.t1, .int .i64 m.t2, .int .i64 m.t3, .int .i64 m.t4, .int .i64 m.t5, .int .i64 m.t6] 29) = W := ⟨_, rfl⟩
  have HB34 : Hid (Below w3.heap.size w3 W4) := Lib.hid (by rw [← hW4]; exact below1 w3 _)
  have HBX : Hid (Whole W4 w3.heap.size 29 [.slice m.As m.secs.length m.cs, .slice m.Ag m.sigs.length m.cg, .slice m.Ae m.exits.length m.ce, .slice m.Af m.flanks.length m.cf, .int .i64 m.t0, .int .i64 m.t1, .int .i64 m.t2, .int .i64 m.t3, .int .i64 m.t4, .int .i64 m.t5, .int .i64 m.t6]) := Lib.hid (by rw [← hW4]; exact Whole.new w3 _ _)
  have hrd4 := hrd.keep HB34.out
  obtain ⟨⟨p, b, hx4, hp, hs⟩, _, _, _⟩ := hrd4
  have HS := Lib.hid hs
  have HAF := Lib.hid haft
  have y3 := hx4.cell_at 3 rfl
  have hN : W4.heap.size = w3.heap.size + 1 := by rw [← hW4]; simp
  have HB4 : Hid (Below w.heap.size w W4) := Lib.hid (HB3.out.trans (HB34.out.mono HB3.out.size))
  have HL4 : Hid (Whole W4 w.heap.size 29 [.slice none 0 0, .slice none 0 0, .slice none 0 0, .slice none 0 0, .int .i64 0, .int .i64 0, .int .i64 0, .int .i64 0, .int .i64 0, .int .i64 0, .int .i64 0]) := Lib.hid (HL3.out.below HB34.out HL3.out.lt)
  have HOW4 : Hid (Owned (w.heap.size + 1) m W4) := Lib.hid (HOW3.out.keep HB34.out)
  have HLX : Hid (w.heap.size < w3.heap.size) := Lib.hid HL3.out.lt
  clear hown hrd haft hbq hx4 hp hs hN
  cases b
  rotate_left
  · have HP : Hid (layP l 0 = none) := Lib.hid (by rcases HS.out with h | h; cases h.1; rw [h.2] at HAF; exact after_short HAF.out)
    have hL1 := HL4.out
    have x0 := hL1.cell_at 0 rfl
    have f0 := hL1.frozen 0
    have x1 := hL1.cell_at 1 rfl
    have f1 := hL1.frozen 1
    have x2 := hL1.cell_at 2 rfl
    have f2 := hL1.frozen 2
    have x3 := hL1.cell_at 3 rfl
    have f3 := hL1.frozen 3
    have x4 := hL1.cell_at 4 rfl
    have f4 := hL1.frozen 4
    have x5 := hL1.cell_at 5 rfl
    have f5 := hL1.frozen 5
    have x6 := hL1.cell_at 6 rfl
    have f6 := hL1.frozen 6
    have x7 := hL1.cell_at 7 rfl
    have f7 := hL1.frozen 7
    have x8 := hL1.cell_at 8 rfl
    have f8 := hL1.frozen 8
    have x9 := hL1.cell_at 9 rfl
    have f9 := hL1.frozen 9
    have x10 := hL1.cell_at 10 rfl
    have f10 := hL1.frozen 10
    have hF : Hid (Whole (((((((((((W4.setCell ⟨w.heap.size, 0, none⟩ (.slice none 0 0)).setCell ⟨w.heap.size, 1, none⟩ (.slice none 0 0)).setCell ⟨w.heap.size, 2, none⟩ (.slice none 0 0)).setCell ⟨w.heap.size, 3, none⟩ (.slice none 0 0)).setCell ⟨w.heap.size, 4, none⟩ (.int .i64 0)).setCell ⟨w.heap.size, 5, none⟩ (.int .i64 0)).setCell ⟨w.heap.size, 6, none⟩ (.int .i64 0)).setCell ⟨w.heap.size, 7, none⟩ (.int .i64 0)).setCell ⟨w.heap.size, 8, none⟩ (.int .i64 0)).setCell ⟨w.heap.size, 9, none⟩ (.int .i64 0)).setCell ⟨w.heap.size, 10, none⟩ (.int .i64 0)) w.heap.size 29 [.slice none 0 0, .slice none 0 0, .slice none 0 0, .slice none 0 0, .int .i64 0, .int .i64 0, .int .i64 0, .int .i64 0, .int .i64 0, .int .i64 0, .int .i64 0] ∧ Below w.heap.size w (((((((((((W4.setCell ⟨w.heap.size, 0, none⟩ (.slice none 0 0)).setCell ⟨w.heap.size, 1, none⟩ (.slice none 0 0)).setCell ⟨w.heap.size, 2, none⟩ (.slice none 0 0)).setCell ⟨w.heap.size, 3, none⟩ (.slice none 0 0)).setCell ⟨w.heap.size, 4, none⟩ (.int .i64 0)).setCell ⟨w.heap.size, 5, none⟩ (.int .i64 0)).setCell ⟨w.heap.size, 6, none⟩ (.int .i64 0)).setCell ⟨w.heap.size, 7, none⟩ (.int .i64 0)).setCell ⟨w.heap.size, 8, none⟩ (.int .i64 0)).setCell ⟨w.heap.size, 9, none⟩ (.int .i64 0)).setCell ⟨w.heap.size, 10, none⟩ (.int .i64 0))) := Lib.hid ⟨set11 hL1, below11 HB4.out (Nat.le_refl _)⟩
    clear hL1
    go_wp2_with fail
    try rw [hW4]
    obtain ⟨W5, hW5⟩ : ∃ W, (((((((((((W4.setCell ⟨w.heap.size, 0, none⟩ (.slice none 0 0)).setCell ⟨w.heap.size, 1, none⟩ (.slice none 0 0)).setCell ⟨w.heap.size, 2, none⟩ (.slice none 0 0)).setCell ⟨w.heap.size, 3, none⟩ (.slice none 0 0)).setCell ⟨w.heap.size, 4, none⟩ (.int .i64 0)).setCell ⟨w.heap.size, 5, none⟩ (.int .i64 0)).setCell ⟨w.heap.size, 6, none⟩ (.int .i64 0)).setCell ⟨w.heap.size, 7, none⟩ (.int .i64 0)).setCell ⟨w.heap.size, 8, none⟩ (.int .i64 0)).setCell ⟨w.heap.size, 9, none⟩ (.int .i64 0)).setCell ⟨w.heap.size, 10, none⟩ (.int .i64 0)) = W := ⟨_, rfl⟩
    rw [hW5] at hF ⊢
    clear hW5 x0 f0 x1 f1 x2 f2 x3 f3 x4 f4 x5 f5 x6 f6 x7 f7 x8 f8 x9 f9 x10 f10
    have x0 := hF.out.1.cell_at 0 rfl
    have x1 := hF.out.1.cell_at 1 rfl
    have x2 := hF.out.1.cell_at 2 rfl
    have x3 := hF.out.1.cell_at 3 rfl
    have x4 := hF.out.1.cell_at 4 rfl
    have x5 := hF.out.1.cell_at 5 rfl
    have x6 := hF.out.1.cell_at 6 rfl
    have x7 := hF.out.1.cell_at 7 rfl
    have x8 := hF.out.1.cell_at 8 rfl
    have x9 := hF.out.1.cell_at 9 rfl
    have x10 := hF.out.1.cell_at 10 rfl
    refine bodyPost_ret (v := .tuple #[.agg #[.slice none 0 0, .slice none 0 0, .slice none 0 0, .slice none 0 0, .int .i64 0, .int .i64 0, .int .i64 0, .int .i64 0, .int .i64 0, .int .i64 0, .int .i64 0], .int .i64 40]) (by simp [results, Tryz.results12, go_sem, x0, x1, x2, x3, x4, x5, x6, x7, x8, x9, x10]) rfl ?_
    exact ⟨hF.out.2, .inl ⟨HP.out, rfl⟩⟩
  · have HP : Hid (layP l 0 = some (m.pl, p)) := Lib.hid (by rcases HS.out with h | h; rw [h.2] at HAF; exact after_there HAF.out; cases h.1)
    have HLW : Hid (Lies m W4) := Lib.hid (owned_lies HOW4.out (tells_lay l 0 _ _ HP.out))
    have hb4 := HBX.out
    have x0 := hb4.cell_at 0 rfl
    have x1 := hb4.cell_at 1 rfl
    have x2 := hb4.cell_at 2 rfl
    have x3 := hb4.cell_at 3 rfl
    have x4 := hb4.cell_at 4 rfl
    have x5 := hb4.cell_at 5 rfl
    have x6 := hb4.cell_at 6 rfl
    have x7 := hb4.cell_at 7 rfl
    have x8 := hb4.cell_at 8 rfl
    have x9 := hb4.cell_at 9 rfl
    have x10 := hb4.cell_at 10 rfl
    clear hb4
    go_wp2_with fail
    try rw [hW4]
    clear x0 x1 x2 x3 x4 x5 x6 x7 x8 x9 x10 y3
    obtain ⟨rr, hrr⟩ : ∃ r, rightL m = r := ⟨_, rfl⟩
    have HR := Lib.hid hrr
    refine (putL8_any m W4 HLW.out rr hrr).mono ?_
    clear hrr hW4
    rintro e w5 ⟨hb5, h5⟩
    have HBW : Hid (Below w.heap.size w w5) := Lib.hid (HB4.out.trans (hb5.mono HB4.out.size))
    have HOW : Hid (Owned (w.heap.size + 1) m w5) := Lib.hid (HOW4.out.keep hb5)
    have hL1 := HL4.out.below hb5 HL4.out.lt
    have hBX := HBX.out.below hb5 HBX.out.lt
    have HHW : Hid (Hands w5 A zs) := Lib.hid (HH.out.on HBW.out)
    clear hb5
    rcases h5 with ⟨rfl, rfl⟩ | ⟨rfl, A', c', rfl, hh2⟩
    · have HNO : Hid (¬ (rightL m = true ∧ bytesL m.pl = zs)) := Lib.hid (fun h => by rw [HR.out] at h; exact Bool.noConfusion h.1)
      have x0 := hL1.cell_at 0 rfl
      have f0 := hL1.frozen 0
      have x1 := hL1.cell_at 1 rfl
      have f1 := hL1.frozen 1
      have x2 := hL1.cell_at 2 rfl
      have f2 := hL1.frozen 2
      have x3 := hL1.cell_at 3 rfl
      have f3 := hL1.frozen 3
      have x4 := hL1.cell_at 4 rfl
      have f4 := hL1.frozen 4
      have x5 := hL1.cell_at 5 rfl
      have f5 := hL1.frozen 5
      have x6 := hL1.cell_at 6 rfl
      have f6 := hL1.frozen 6
      have x7 := hL1.cell_at 7 rfl
      have f7 := hL1.frozen 7
      have x8 := hL1.cell_at 8 rfl
      have f8 := hL1.frozen 8
      have x9 := hL1.cell_at 9 rfl
      have f9 := hL1.frozen 9
      have x10 := hL1.cell_at 10 rfl
      have f10 := hL1.frozen 10
      have hF : Hid (Whole (((((((((((w5.setCell ⟨w.heap.size, 0, none⟩ (.slice none 0 0)).setCell ⟨w.heap.size, 1, none⟩ (.slice none 0 0)).setCell ⟨w.heap.size, 2, none⟩ (.slice none 0 0)).setCell ⟨w.heap.size, 3, none⟩ (.slice none 0 0)).setCell ⟨w.heap.size, 4, none⟩ (.int .i64 0)).setCell ⟨w.heap.size, 5, none⟩ (.int .i64 0)).setCell ⟨w.heap.size, 6, none⟩ (.int .i64 0)).setCell ⟨w.heap.size, 7, none⟩ (.int .i64 0)).setCell ⟨w.heap.size, 8, none⟩ (.int .i64 0)).setCell ⟨w.heap.size, 9, none⟩ (.int .i64 0)).setCell ⟨w.heap.size, 10, none⟩ (.int .i64 0)) w.heap.size 29 [.slice none 0 0, .slice none 0 0, .slice none 0 0, .slice none 0 0, .int .i64 0, .int .i64 0, .int .i64 0, .int .i64 0, .int .i64 0, .int .i64 0, .int .i64 0] ∧ Below w.heap.size w (((((((((((w5.setCell ⟨w.heap.size, 0, none⟩ (.slice none 0 0)).setCell ⟨w.heap.size, 1, none⟩ (.slice none 0 0)).setCell ⟨w.heap.size, 2, none⟩ (.slice none 0 0)).setCell ⟨w.heap.size, 3, none⟩ (.slice none 0 0)).setCell ⟨w.heap.size, 4, none⟩ (.int .i64 0)).setCell ⟨w.heap.size, 5, none⟩ (.int .i64 0)).setCell ⟨w.heap.size, 6, none⟩ (.int .i64 0)).setCell ⟨w.heap.size, 7, none⟩ (.int .i64 0)).setCell ⟨w.heap.size, 8, none⟩ (.int .i64 0)).setCell ⟨w.heap.size, 9, none⟩ (.int .i64 0)).setCell ⟨w.heap.size, 10, none⟩ (.int .i64 0))) := Lib.hid ⟨set11 hL1, below11 HBW.out (Nat.le_refl _)⟩
      clear hL1 hBX
      go_wp2_with fail
      obtain ⟨W6, hW6⟩ : ∃ W, (((((((((((w5.setCell ⟨w.heap.size, 0, none⟩ (.slice none 0 0)).setCell ⟨w.heap.size, 1, none⟩ (.slice none 0 0)).setCell ⟨w.heap.size, 2, none⟩ (.slice none 0 0)).setCell ⟨w.heap.size, 3, none⟩ (.slice none 0 0)).setCell ⟨w.heap.size, 4, none⟩ (.int .i64 0)).setCell ⟨w.heap.size, 5, none⟩ (.int .i64 0)).setCell ⟨w.heap.size, 6, none⟩ (.int .i64 0)).setCell ⟨w.heap.size, 7, none⟩ (.int .i64 0)).setCell ⟨w.heap.size, 8, none⟩ (.int .i64 0)).setCell ⟨w.heap.size, 9, none⟩ (.int .i64 0)).setCell ⟨w.heap.size, 10, none⟩ (.int .i64 0)) = W := ⟨_, rfl⟩
      rw [hW6] at hF ⊢
      clear hW6 x0 f0 x1 f1 x2 f2 x3 f3 x4 f4 x5 f5 x6 f6 x7 f7 x8 f8 x9 f9 x10 f10
      have x0 := hF.out.1.cell_at 0 rfl
      have x1 := hF.out.1.cell_at 1 rfl
      have x2 := hF.out.1.cell_at 2 rfl
      have x3 := hF.out.1.cell_at 3 rfl
      have x4 := hF.out.1.cell_at 4 rfl
      have x5 := hF.out.1.cell_at 5 rfl
      have x6 := hF.out.1.cell_at 6 rfl
      have x7 := hF.out.1.cell_at 7 rfl
      have x8 := hF.out.1.cell_at 8 rfl
      have x9 := hF.out.1.cell_at 9 rfl
      have x10 := hF.out.1.cell_at 10 rfl
      refine bodyPost_ret (v := .tuple #[.agg #[.slice none 0 0, .slice none 0 0, .slice none 0 0, .slice none 0 0, .int .i64 0, .int .i64 0, .int .i64 0, .int .i64 0, .int .i64 0, .int .i64 0, .int .i64 0], .int .i64 41]) (by simp [results, Tryz.results12, go_sem, x0, x1, x2, x3, x4, x5, x6, x7, x8, x9, x10]) rfl ?_
      exact ⟨hF.out.2, .inr ⟨m, p, HP.out, .inr ⟨HNO.out, rfl⟩⟩⟩
    · obtain ⟨q, hq⟩ : ∃ q, sameB (bytesL m.pl) zs = q := ⟨_, rfl⟩
      have HQ := Lib.hid hq
      have r1 := text_run w5 30 5 Tryz.underlying30 Tryz.underlying5 9 Tryz.underlying9 _ A' (bytesL m.pl) c' hh2.1
      have r2 := text_run w5 30 5 Tryz.underlying30 Tryz.underlying5 9 Tryz.underlying9 _ A zs cap HHW.out.1
      have hs := sameB_text (bytesL m.pl) zs hh2.2 HHW.out.2
      rw [hq] at hs
      clear hq hh2
      cases q
      · have HNO : Hid (¬ (rightL m = true ∧ bytesL m.pl = zs)) := Lib.hid (fun h => by have := HQ.out; unfold sameB at this; simp [h.2] at this)
        have x0 := hL1.cell_at 0 rfl
        have f0 := hL1.frozen 0
        have x1 := hL1.cell_at 1 rfl
        have f1 := hL1.frozen 1
        have x2 := hL1.cell_at 2 rfl
        have f2 := hL1.frozen 2
        have x3 := hL1.cell_at 3 rfl
        have f3 := hL1.frozen 3
        have x4 := hL1.cell_at 4 rfl
        have f4 := hL1.frozen 4
        have x5 := hL1.cell_at 5 rfl
        have f5 := hL1.frozen 5
        have x6 := hL1.cell_at 6 rfl
        have f6 := hL1.frozen 6
        have x7 := hL1.cell_at 7 rfl
        have f7 := hL1.frozen 7
        have x8 := hL1.cell_at 8 rfl
        have f8 := hL1.frozen 8
        have x9 := hL1.cell_at 9 rfl
        have f9 := hL1.frozen 9
        have x10 := hL1.cell_at 10 rfl
        have f10 := hL1.frozen 10
        have hF : Hid (Whole (((((((((((w5.setCell ⟨w.heap.size, 0, none⟩ (.slice none 0 0)).setCell ⟨w.heap.size, 1, none⟩ (.slice none 0 0)).setCell ⟨w.heap.size, 2, none⟩ (.slice none 0 0)).setCell ⟨w.heap.size, 3, none⟩ (.slice none 0 0)).setCell ⟨w.heap.size, 4, none⟩ (.int .i64 0)).setCell ⟨w.heap.size, 5, none⟩ (.int .i64 0)).setCell ⟨w.heap.size, 6, none⟩ (.int .i64 0)).setCell ⟨w.heap.size, 7, none⟩ (.int .i64 0)).setCell ⟨w.heap.size, 8, none⟩ (.int .i64 0)).setCell ⟨w.heap.size, 9, none⟩ (.int .i64 0)).setCell ⟨w.heap.size, 10, none⟩ (.int .i64 0)) w.heap.size 29 [.slice none 0 0, .slice none 0 0, .slice none 0 0, .slice none 0 0, .int .i64 0, .int .i64 0, .int .i64 0, .int .i64 0, .int .i64 0, .int .i64 0, .int .i64 0] ∧ Below w.heap.size w (((((((((((w5.setCell ⟨w.heap.size, 0, none⟩ (.slice none 0 0)).setCell ⟨w.heap.size, 1, none⟩ (.slice none 0 0)).setCell ⟨w.heap.size, 2, none⟩ (.slice none 0 0)).setCell ⟨w.heap.size, 3, none⟩ (.slice none 0 0)).setCell ⟨w.heap.size, 4, none⟩ (.int .i64 0)).setCell ⟨w.heap.size, 5, none⟩ (.int .i64 0)).setCell ⟨w.heap.size, 6, none⟩ (.int .i64 0)).setCell ⟨w.heap.size, 7, none⟩ (.int .i64 0)).setCell ⟨w.heap.size, 8, none⟩ (.int .i64 0)).setCell ⟨w.heap.size, 9, none⟩ (.int .i64 0)).setCell ⟨w.heap.size, 10, none⟩ (.int .i64 0))) := Lib.hid ⟨set11 hL1, below11 HBW.out (Nat.le_refl _)⟩
        clear hL1 hBX
        go_wp2_with fail
        obtain ⟨W6, hW6⟩ : ∃ W, (((((((((((w5.setCell ⟨w.heap.size, 0, none⟩ (.slice none 0 0)).setCell ⟨w.heap.size, 1, none⟩ (.slice none 0 0)).setCell ⟨w.heap.size, 2, none⟩ (.slice none 0 0)).setCell ⟨w.heap.size, 3, none⟩ (.slice none 0 0)).setCell ⟨w.heap.size, 4, none⟩ (.int .i64 0)).setCell ⟨w.heap.size, 5, none⟩ (.int .i64 0)).setCell ⟨w.heap.size, 6, none⟩ (.int .i64 0)).setCell ⟨w.heap.size, 7, none⟩ (.int .i64 0)).setCell ⟨w.heap.size, 8, none⟩ (.int .i64 0)).setCell ⟨w.heap.size, 9, none⟩ (.int .i64 0)).setCell ⟨w.heap.size, 10, none⟩ (.int .i64 0)) = W := ⟨_, rfl⟩
        rw [hW6] at hF ⊢
        clear hW6 x0 f0 x1 f1 x2 f2 x3 f3 x4 f4 x5 f5 x6 f6 x7 f7 x8 f8 x9 f9 x10 f10
        have x0 := hF.out.1.cell_at 0 rfl
        have x1 := hF.out.1.cell_at 1 rfl
        have x2 := hF.out.1.cell_at 2 rfl
        have x3 := hF.out.1.cell_at 3 rfl
        have x4 := hF.out.1.cell_at 4 rfl
        have x5 := hF.out.1.cell_at 5 rfl
        have x6 := hF.out.1.cell_at 6 rfl
        have x7 := hF.out.1.cell_at 7 rfl
        have x8 := hF.out.1.cell_at 8 rfl
        have x9 := hF.out.1.cell_at 9 rfl
        have x10 := hF.out.1.cell_at 10 rfl
        refine bodyPost_ret (v := .tuple #[.agg #[.slice none 0 0, .slice none 0 0, .slice none 0 0, .slice none 0 0, .int .i64 0, .int .i64 0, .int .i64 0, .int .i64 0, .int .i64 0, .int .i64 0, .int .i64 0], .int .i64 41]) (by simp [results, Tryz.results12, go_sem, x0, x1, x2, x3, x4, x5, x6, x7, x8, x9, x10]) rfl ?_
        exact ⟨hF.out.2, .inr ⟨m, p, HP.out, .inr ⟨HNO.out, rfl⟩⟩⟩
      · have HYES : Hid (rightL m = true ∧ bytesL m.pl = zs) := Lib.hid ⟨HR.out, by have := HQ.out; unfold sameB at this; exact of_decide_eq_true this⟩
        have x0 := hL1.cell_at 0 rfl
        have f0 := hL1.frozen 0
        have x1 := hL1.cell_at 1 rfl
        have f1 := hL1.frozen 1
        have x2 := hL1.cell_at 2 rfl
        have f2 := hL1.frozen 2
        have x3 := hL1.cell_at 3 rfl
        have f3 := hL1.frozen 3
        have x4 := hL1.cell_at 4 rfl
        have f4 := hL1.frozen 4
        have x5 := hL1.cell_at 5 rfl
        have f5 := hL1.frozen 5
        have x6 := hL1.cell_at 6 rfl
        have f6 := hL1.frozen 6
        have x7 := hL1.cell_at 7 rfl
        have f7 := hL1.frozen 7
        have x8 := hL1.cell_at 8 rfl
        have f8 := hL1.frozen 8
        have x9 := hL1.cell_at 9 rfl
        have f9 := hL1.frozen 9
        have x10 := hL1.cell_at 10 rfl
        have f10 := hL1.frozen 10
        have z0 := hBX.cell_at 0 rfl
        have z1 := hBX.cell_at 1 rfl
        have z2 := hBX.cell_at 2 rfl
        have z3 := hBX.cell_at 3 rfl
        have z4 := hBX.cell_at 4 rfl
        have z5 := hBX.cell_at 5 rfl
        have z6 := hBX.cell_at 6 rfl
        have z7 := hBX.cell_at 7 rfl
        have z8 := hBX.cell_at 8 rfl
        have z9 := hBX.cell_at 9 rfl
        have z10 := hBX.cell_at 10 rfl
        have hF : Hid (Whole (((((((((((w5.setCell ⟨w.heap.size, 0, none⟩ (.slice m.As m.secs.length m.cs)).setCell ⟨w.heap.size, 1, none⟩ (.slice m.Ag m.sigs.length m.cg)).setCell ⟨w.heap.size, 2, none⟩ (.slice m.Ae m.exits.length m.ce)).setCell ⟨w.heap.size, 3, none⟩ (.slice m.Af m.flanks.length m.cf)).setCell ⟨w.heap.size, 4, none⟩ (.int .i64 m.t0)).setCell ⟨w.heap.size, 5, none⟩ (.int .i64 m.t1)).setCell ⟨w.heap.size, 6, none⟩ (.int .i64 m.t2)).setCell ⟨w.heap.size, 7, none⟩ (.int .i64 m.t3)).setCell ⟨w.heap.size, 8, none⟩ (.int .i64 m.t4)).setCell ⟨w.heap.size, 9, none⟩ (.int .i64 m.t5)).setCell ⟨w.heap.size, 10, none⟩ (.int .i64 m.t6)) w.heap.size 29 m.cells ∧ Below w.heap.size w (((((((((((w5.setCell ⟨w.heap.size, 0, none⟩ (.slice m.As m.secs.length m.cs)).setCell ⟨w.heap.size, 1, none⟩ (.slice m.Ag m.sigs.length m.cg)).setCell ⟨w.heap.size, 2, none⟩ (.slice m.Ae m.exits.length m.ce)).setCell ⟨w.heap.size, 3, none⟩ (.slice m.Af m.flanks.length m.cf)).setCell ⟨w.heap.size, 4, none⟩ (.int .i64 m.t0)).setCell ⟨w.heap.size, 5, none⟩ (.int .i64 m.t1)).setCell ⟨w.heap.size, 6, none⟩ (.int .i64 m.t2)).setCell ⟨w.heap.size, 7, none⟩ (.int .i64 m.t3)).setCell ⟨w.heap.size, 8, none⟩ (.int .i64 m.t4)).setCell ⟨w.heap.size, 9, none⟩ (.int .i64 m.t5)).setCell ⟨w.heap.size, 10, none⟩ (.int .i64 m.t6)) ∧ Owned w.heap.size m (((((((((((w5.setCell ⟨w.heap.size, 0, none⟩ (.slice m.As m.secs.length m.cs)).setCell ⟨w.heap.size, 1, none⟩ (.slice m.Ag m.sigs.length m.cg)).setCell ⟨w.heap.size, 2, none⟩ (.slice m.Ae m.exits.length m.ce)).setCell ⟨w.heap.size, 3, none⟩ (.slice m.Af m.flanks.length m.cf)).setCell ⟨w.heap.size, 4, none⟩ (.int .i64 m.t0)).setCell ⟨w.heap.size, 5, none⟩ (.int .i64 m.t1)).setCell ⟨w.heap.size, 6, none⟩ (.int .i64 m.t2)).setCell ⟨w.heap.size, 7, none⟩ (.int .i64 m.t3)).setCell ⟨w.heap.size, 8, none⟩ (.int .i64 m.t4)).setCell ⟨w.heap.size, 9, none⟩ (.int .i64 m.t5)).setCell ⟨w.heap.size, 10, none⟩ (.int .i64 m.t6))) :=
          Lib.hid ⟨set11 hL1, below11 HBW.out (Nat.le_refl _), (own11 HOW.out (by omega)).low (by omega)⟩
        clear hL1 hBX
        go_wp2_with fail
        obtain ⟨W6, hW6⟩ : ∃ W, (((((((((((w5.setCell ⟨w.heap.size, 0, none⟩ (.slice m.As m.secs.length m.cs)).setCell ⟨w.heap.size, 1, none⟩ (.slice m.Ag m.sigs.length m.cg)).setCell ⟨w.heap.size, 2, none⟩ (.slice m.Ae m.exits.length m.ce)).setCell ⟨w.heap.size, 3, none⟩ (.slice m.Af m.flanks.length m.cf)).setCell ⟨w.heap.size, 4, none⟩ (.int .i64 m.t0)).setCell ⟨w.heap.size, 5, none⟩ (.int .i64 m.t1)).setCell ⟨w.heap.size, 6, none⟩ (.int .i64 m.t2)).setCell ⟨w.heap.size, 7, none⟩ (.int .i64 m.t3)).setCell ⟨w.heap.size, 8, none⟩ (.int .i64 m.t4)).setCell ⟨w.heap.size, 9, none⟩ (.int .i64 m.t5)).setCell ⟨w.heap.size, 10, none⟩ (.int .i64 m.t6)) = W := ⟨_, rfl⟩
        rw [hW6] at hF ⊢
        clear hW6 x0 f0 x1 f1 x2 f2 x3 f3 x4 f4 x5 f5 x6 f6 x7 f7 x8 f8 x9 f9 x10 f10 z0 z1 z2 z3 z4 z5 z6 z7 z8 z9 z10
        have x0 := hF.out.1.cell_at 0 rfl
        have x1 := hF.out.1.cell_at 1 rfl
        have x2 := hF.out.1.cell_at 2 rfl
        have x3 := hF.out.1.cell_at 3 rfl
        have x4 := hF.out.1.cell_at 4 rfl
        have x5 := hF.out.1.cell_at 5 rfl
        have x6 := hF.out.1.cell_at 6 rfl
        have x7 := hF.out.1.cell_at 7 rfl
        have x8 := hF.out.1.cell_at 8 rfl
        have x9 := hF.out.1.cell_at 9 rfl
        have x10 := hF.out.1.cell_at 10 rfl
        refine bodyPost_ret (v := .tuple #[m.val, .int .i64 0]) (by simp [results, Tryz.results12, go_sem, x0, x1, x2, x3, x4, x5, x6, x7, x8, x9, x10]) rfl ?_
        exact ⟨hF.out.2.1, .inr ⟨m, p, HP.out, .inl ⟨HYES.out.1, HYES.out.2, rfl, hF.out.2.2⟩⟩⟩

set_option maxHeartbeats 4000000 in
theorem sizeR16_any (l : Lay) (w : World) (hL : Lies l w) (r : Bool) (hr : rightL l = r) :
    Calls Tryz.prog 16 #[l.val] w fun e w' => Below w.heap.size w w' ∧ e = .returned (.int .i64 (if r then ((bytesL l.pl).length : Int) else 0)) := by
  have HL := Lib.hid hL
  have HR := Lib.hid hr
  clear hL hr
  go_enter Tryz.func16, Tryz.ntmps16
  go_wp2_with fail
  refine (putL8_any l (w.alloc (.cells l.cells.toArray 29)) (Lies.closed l _ _ HL.out (below1 w _)) r HR.out).mono ?_
  rintro e w2 ⟨hb2, (⟨rfl, rfl⟩ | ⟨rfl, A', c', rfl, hh2⟩)⟩
  · have HB : Hid (Below w.heap.size w w2) := Lib.hid ((below1 w _).trans (hb2.mono (by simp)))
    clear hb2
    go_wp2_with fail
    go_ret
    exact ⟨HB.out, rfl⟩
  · have HB : Hid (Below w.heap.size w w2) := Lib.hid ((below1 w _).trans (hb2.mono (by simp)))
    clear hb2 hh2
    go_wp2_with fail
    go_ret
    exact ⟨HB.out, rfl⟩
theorem mostR18_any (w : World) : Calls Tryz.prog 18 #[] w fun e w' => e = .returned (.int .i64 200) ∧ w' = w := by
  go_enter Tryz.func18, Tryz.ntmps18
  go_wp2
  go_ret
  exact ⟨rfl, rfl⟩
end Go.Proofs.YtegflmaobmibnaaGreatDoor
