/- Layouts' bytes, layouts of bytes, sizes: as the document says. -/
import Derived.Test.YtegflmaobmibnaaGreatDoorQPlanSa
import Derived.Test.YtegflmaobmibnaaGreatDoorQPlanBack
namespace Go.Proofs.YtegflmaobmibnaaGreatDoor
set_option maxRecDepth 100000
open Go.RowKit Go.Shelf
set_option linter.unusedVariables false
set_option linter.unusedSimpArgs false

/-- What Put gives. -/
def putZ (l : Lay) (r : Bool) : List Int := if r then bytesL l.pl else []
def putE (r : Bool) : Int := if r then 0 else 60
theorem put_form {l : Lay} {w w' : World} {r : Bool} {e : Ending} (h : Below w.heap.size w w' ∧ ((r = false ∧ e = .returned (.tuple #[.slice none 0 0, .int .i64 60])) ∨ (r = true ∧ ∃ A c, e = .returned (.tuple #[.slice A (bytesL l.pl).length c, .int .i64 0]) ∧ Hands w' A (bytesL l.pl)))) :
    Below w.heap.size w w' ∧ ∃ A c, e = .returned (.tuple #[.slice A (putZ l r).length c, .int .i64 (putE r)]) ∧ Hands w' A (putZ l r) := by
  refine ⟨h.1, ?_⟩
  rcases h.2 with ⟨rfl, rfl⟩ | ⟨rfl, A, c, rfl, hh⟩
  · exact ⟨none, 0, rfl, Hands.nil _⟩
  · exact ⟨A, c, rfl, hh⟩
/-- What Take gives. -/
def TakeIs (zs : List Int) (l : List Bool) (m : Lay) (er : Int) (w : World) : Prop :=
  Lies m w ∧ ((layP l 0 = none ∧ m = zeroL ∧ er = 40) ∨ (∃ s', layP l 0 = some (m.pl, s') ∧ rightL m = true ∧ bytesL m.pl = zs ∧ er = 0) ∨ (∃ (n : Lay) (s' : Nat), layP l 0 = some (n.pl, s') ∧ ¬ (rightL n = true ∧ bytesL n.pl = zs) ∧ m = zeroL ∧ er = 41))
theorem take_form {zs : List Int} {l : List Bool} {w w' : World} {e : Ending} (h : TakeGives w zs l e w') : ∃ m er, e = .returned (.tuple #[m.val, .int .i64 er]) ∧ TakeIs zs l m er w' := by
  rcases h with ⟨hp, rfl⟩ | ⟨m, s', hp, ⟨hr, hb, rfl, ho⟩ | ⟨hn, rfl⟩⟩
  · exact ⟨zeroL, 40, rfl, zero_lies _, .inl ⟨hp, rfl, rfl⟩⟩
  · exact ⟨m, 0, rfl, owned_lies ho (tells_lay _ _ _ _ hp), .inr (.inl ⟨s', hp, hr, hb, rfl⟩)⟩
  · exact ⟨zeroL, 41, rfl, zero_lies _, .inr (.inr ⟨m, s', hp, hn, rfl, rfl⟩)⟩
theorem take_same {zs : List Int} {l : List Bool} {m m' : Lay} {er er' : Int} {w w' : World} (h : TakeIs zs l m er w) (h' : TakeIs zs l m' er' w') : er' = er ∧ m.pl = m'.pl := by
  rcases h.2 with ⟨hp, rfl, rfl⟩ | ⟨s, hp, hr, hb, rfl⟩ | ⟨n, s, hp, hn, rfl, rfl⟩ <;> rcases h'.2 with ⟨kp, rfl, rfl⟩ | ⟨s', kp, kr, kb, rfl⟩ | ⟨n', s', kp, kn, rfl, rfl⟩ <;> rw [hp] at kp <;> try (cases kp; done)
  · exact ⟨rfl, rfl⟩
  · have e := congrArg Prod.fst (Option.some.inj kp)
    exact ⟨rfl, e⟩
  · have e : m.pl = n'.pl := congrArg Prod.fst (Option.some.inj kp)
    exact absurd ⟨(right_pl e).symm.trans hr, e ▸ hb⟩ kn
  · have e : n.pl = m'.pl := congrArg Prod.fst (Option.some.inj kp)
    exact absurd ⟨(right_pl e).trans kr, e.symm ▸ kb⟩ hn
  · exact ⟨rfl, rfl⟩

set_option maxHeartbeats 16000000 in
theorem planTells_walk (l : Lay) (A : Option Addr) (cap : Nat) (zs : List Int) (w : World) (hT : Shapes w) (hL : Lies l w) (hH : Hands w A zs) :
    Calls Tryz.prog 3 #[l.val, .slice A zs.length cap] w fun e w' => e = .returned (.bool true) ∧ Below w.heap.size w w' := by
  have hSw : Shapes w := hT
  have HTW : Hid (∀ W, On8 w W → Shapes W) := Lib.hid (fun W h => hSw.on h.below)
  have HLW : Hid (∀ W, On8 w W → Lies l W) := Lib.hid (fun W h => Lies.closed l _ _ hL h.below)
  have HHW : Hid (∀ W, On8 w W → Hands W A zs) := Lib.hid (fun W h => hH.on h.below)
  have HBX : Hid (∀ W, Below (w.heap.size + 1) (w.alloc (.cells l.cells.toArray 29)) W → Whole W w.heap.size 29 l.cells ∧ On8 w W) := Lib.hid (fun W h => ⟨(Whole.new w 29 l.cells).below h (by omega), ⟨(below1 w _).trans (h.mono (by omega))⟩⟩)
  have H0 : Hid (On8 w (w.alloc (.cells l.cells.toArray 29))) := Lib.hid ⟨below1 w _⟩
  obtain ⟨W0, hW0⟩ : ∃ W, w.alloc (.cells l.cells.toArray 29) = W := ⟨_, rfl⟩
  have HS0 : Hid (W0.heap.size = w.heap.size + 1) := Lib.hid (by rw [← hW0]; simp)
  rw [hW0] at HBX H0
  obtain ⟨g, hg⟩ : ∃ g, greatV l = g := ⟨_, rfl⟩
  obtain ⟨r, hr⟩ : ∃ r, rightL l = r := ⟨_, rfl⟩
  have HG := Lib.hid hg
  have HR := Lib.hid hr
  have HW0 := Lib.hid hW0
  have HBY : Hid (∀ z ∈ zs, IsByte z) := Lib.hid hH.2
  clear hg hr hT hL hH hSw hW0
  by_cases h3 : (300 : Int) < (zs.length : Int)
  · have h3' : 300 < zs.length := by omega
    go_enter Tryz.func3, Tryz.ntmps3
    go_wp2_with fail
    rw [HW0.out]
    clear HW0
    refine (great_B (HLW.out _ H0.out) HG.out).mono ?_
    rintro e w1 ⟨rfl, hb1⟩
    have HB1 : Hid (Below (w.heap.size + 1) W0 w1) := Lib.hid (by rw [← HS0.out]; exact hb1)
    clear hb1
    cases g
    · go_wp2_with fail
      refine (wakes8_any w1 (HTW.out _ (HBX.out _ HB1.out).2)).mono ?_
      rintro e w2 ⟨rfl, hb2⟩
      have HF := Lib.hid ((HBX.out _ HB1.out).2.on hb2).below
      clear hb2
      go_wp2_with fail
      go_ret
      exact ⟨rfl, HF.out⟩
    · go_wp2_with fail
      refine (wakes8_any w1 (HTW.out _ (HBX.out _ HB1.out).2)).mono ?_
      rintro e w2 ⟨rfl, hb2⟩
      have HF := Lib.hid ((HBX.out _ HB1.out).2.on hb2).below
      clear hb2
      go_wp2_with fail
      go_ret
      exact ⟨rfl, HF.out⟩
  · have h3' : ¬ 300 < zs.length := by omega
    go_enter Tryz.func3, Tryz.ntmps3
    go_wp2_with fail
    rw [HW0.out]
    clear HW0
    refine (great_B (HLW.out _ H0.out) HG.out).mono ?_
    rintro e w1 ⟨rfl, hb1⟩
    have HB1 : Hid (Below (w.heap.size + 1) W0 w1) := Lib.hid (by rw [← HS0.out]; exact hb1)
    clear hb1
    cases g
    rotate_left
    · go_wp2_with fail
      refine (wakes8_any w1 (HTW.out _ (HBX.out _ HB1.out).2)).mono ?_
      rintro e w2 ⟨rfl, hb2⟩
      have HF := Lib.hid ((HBX.out _ HB1.out).2.on hb2).below
      clear hb2
      go_wp2_with fail
      go_ret
      exact ⟨rfl, HF.out⟩
    · obtain ⟨lb, hlb⟩ := bits_of zs HBY.out
      have HA := Lib.hid hlb
      have HN : Hid (zs.length ≤ 2000) := Lib.hid (by omega)
      clear hlb
      obtain ⟨zp, hzp⟩ : ∃ z, putZ l r = z := ⟨_, rfl⟩
      obtain ⟨ep, hep⟩ : ∃ z, putE r = z := ⟨_, rfl⟩
      have HZP := Lib.hid hzp
      have HEP := Lib.hid hep
      clear hzp hep
      have hbx := (HBX.out _ HB1.out).1
      have x0 := hbx.cell_at 0 rfl
      have x1 := hbx.cell_at 1 rfl
      have x2 := hbx.cell_at 2 rfl
      have x3 := hbx.cell_at 3 rfl
      have x4 := hbx.cell_at 4 rfl
      have x5 := hbx.cell_at 5 rfl
      have x6 := hbx.cell_at 6 rfl
      have x7 := hbx.cell_at 7 rfl
      have x8 := hbx.cell_at 8 rfl
      have x9 := hbx.cell_at 9 rfl
      have x10 := hbx.cell_at 10 rfl
      go_wp2_with fail
      clear h3 h3'
      refine (putL_any l w1 (HTW.out _ (HBX.out _ HB1.out).2) (HTW.out _ (HBX.out _ HB1.out).2).lt (HLW.out _ (HBX.out _ HB1.out).2) r HR.out).mono ?_
      rintro e w2 hpt
      obtain ⟨hb2, A1, c1, rfl, hh1⟩ := put_form hpt
      rw [HZP.out, HEP.out]
      rw [HZP.out] at hh1
      have HB2 : Hid (Below (w.heap.size + 1) W0 w2) := Lib.hid (HB1.out.trans (hb2.mono (by have := HB1.out.size; have := HS0.out; omega)))
      have HH1 := Lib.hid hh1
      clear hpt hb2 hh1 hbx x0 x1 x2 x3 x4 x5 x6 x7 x8 x9 x10
      have hbx := (HBX.out _ HB2.out).1
      have x0 := hbx.cell_at 0 rfl
      have x1 := hbx.cell_at 1 rfl
      have x2 := hbx.cell_at 2 rfl
      have x3 := hbx.cell_at 3 rfl
      have x4 := hbx.cell_at 4 rfl
      have x5 := hbx.cell_at 5 rfl
      have x6 := hbx.cell_at 6 rfl
      have x7 := hbx.cell_at 7 rfl
      have x8 := hbx.cell_at 8 rfl
      have x9 := hbx.cell_at 9 rfl
      have x10 := hbx.cell_at 10 rfl
      go_wp2_with fail
      refine (putL8_any l w2 (HLW.out _ (HBX.out _ HB2.out).2) r HR.out).mono ?_
      rintro e w3 hpt
      obtain ⟨hb3, A2, c2, rfl, hh2⟩ := put_form hpt
      rw [HZP.out, HEP.out]
      rw [HZP.out] at hh2
      have HB3 : Hid (Below (w.heap.size + 1) W0 w3) := Lib.hid (HB2.out.trans (hb3.mono (by have := HB2.out.size; have := HS0.out; omega)))
      have HH1' : Hid (Hands w3 A1 zp) := Lib.hid (HH1.out.on hb3)
      have HH2 := Lib.hid hh2
      clear hpt hb3 hh2 hbx x0 x1 x2 x3 x4 x5 x6 x7 x8 x9 x10 HH1
      go_wp2_with fail
      refine (takeL_any A cap zs lb w3 (HHW.out _ (HBX.out _ HB3.out).2) HN.out HA.out (HTW.out _ (HBX.out _ HB3.out).2)).mono ?_
      rintro e w4 ⟨hb4, hg4⟩
      obtain ⟨mx, er, rfl, htx⟩ := take_form hg4
      obtain ⟨W4, hW4⟩ : ∃ W, w4.alloc (.cells #[.slice mx.As mx.secs.length mx.cs, .slice mx.Ag mx.sigs.length mx.cg, .slice mx.Ae mx.exits.length mx.ce, .slice mx.Af mx.flanks.length mx.cf, .int .i64 mx.t0, .int .i64 mx.t1, .int .i64 mx.t2, .int .i64 mx.t3, .int .i64 mx.t4, .int .i64 mx.t5, .int .i64 mx.t6] 29) = W := ⟨_, rfl⟩
      have HX4 : Hid (Whole W4 w4.heap.size 29 mx.cells) := Lib.hid (by rw [← hW4]; exact Whole.new w4 _ _)
      have HB34 : Hid (Below w3.heap.size w3 W4) := Lib.hid (by rw [← hW4]; exact hb4.trans ((below1 w4 _).mono hb4.size))
      have HB4 : Hid (Below (w.heap.size + 1) W0 W4) := Lib.hid (HB3.out.trans (HB34.out.mono (by have := HB3.out.size; have := HS0.out; omega)))
      have HLX : Hid (Lies mx W4) := Lib.hid (by rw [← hW4]; exact Lies.closed mx _ _ htx.1 (below1 w4 _))
      have HTX := Lib.hid htx
      have HW4 := Lib.hid hW4
      have HZ4 : Hid (w4.heap.size < W4.heap.size) := Lib.hid (by rw [← hW4]; simp)
      clear hg4 hb4 htx hW4
      go_wp2_with fail
      rw [HW4.out]
      obtain ⟨N4, hN4⟩ : ∃ n, w4.heap.size = n := ⟨_, rfl⟩
      rw [hN4] at HX4 HZ4
      try rw [hN4]
      clear HW4 hN4
      refine (takeR12_any A cap zs lb W4 (HHW.out _ (HBX.out _ HB4.out).2) HN.out HA.out).mono ?_
      rintro e w5 ⟨hb5, hg5⟩
      obtain ⟨my, er', rfl, hty⟩ := take_form hg5
      obtain ⟨rfl, hpl⟩ := take_same HTX.out hty
      obtain ⟨W5, hW5⟩ : ∃ W, w5.alloc (.cells #[.slice my.As my.secs.length my.cs, .slice my.Ag my.sigs.length my.cg, .slice my.Ae my.exits.length my.ce, .slice my.Af my.flanks.length my.cf, .int .i64 my.t0, .int .i64 my.t1, .int .i64 my.t2, .int .i64 my.t3, .int .i64 my.t4, .int .i64 my.t5, .int .i64 my.t6] 29) = W := ⟨_, rfl⟩
      have HX5 : Hid (Whole W5 w5.heap.size 29 my.cells) := Lib.hid (by rw [← hW5]; exact Whole.new w5 _ _)
      have HB45 : Hid (Below W4.heap.size W4 W5) := Lib.hid (by rw [← hW5]; exact hb5.trans ((below1 w5 _).mono hb5.size))
      have HB5 : Hid (Below (w.heap.size + 1) W0 W5) := Lib.hid (HB4.out.trans (HB45.out.mono (by have := HB4.out.size; have := HS0.out; omega)))
      have HLY : Hid (Lies my W5) := Lib.hid (by rw [← hW5]; exact Lies.closed my _ _ hty.1 (below1 w5 _))
      have HLX5 : Hid (Lies mx W5) := Lib.hid (Lies.closed mx _ _ HLX.out HB45.out)
      have HX45 : Hid (Whole W5 N4 29 mx.cells) := Lib.hid (HX4.out.below HB45.out HZ4.out)
      have HSV : Hid (sameV mx my = true) := Lib.hid ((sameV_pl mx my).2 hpl)
      have HH15 : Hid (Hands W5 A1 zp ∧ Hands W5 A2 zp) := Lib.hid ⟨(HH1'.out.on HB34.out).on HB45.out, (HH2.out.on HB34.out).on HB45.out⟩
      have HW5 := Lib.hid hW5
      clear hg5 hb5 hty hW5 hpl HLX HX4 HH1' HH2 HTX
      go_wp2_with fail
      rw [HW5.out]
      obtain ⟨N5, hN5⟩ : ∃ n, w5.heap.size = n := ⟨_, rfl⟩
      rw [hN5] at HX5
      try rw [hN5]
      clear HW5 hN5
      obtain ⟨sz, hsz⟩ : ∃ z : Int, (if r then ((bytesL l.pl).length : Int) else 0) = z := ⟨_, rfl⟩
      have HBW : Hid (∀ W, Below W5.heap.size W5 W → Whole W w.heap.size 29 l.cells ∧ Whole W N4 29 mx.cells ∧ Whole W N5 29 my.cells ∧ On8 w W) := Lib.hid (fun W hW =>
        have hb := HB5.out.trans (hW.mono (by have := HB5.out.size; have := HS0.out; omega))
        ⟨(HBX.out _ hb).1, HX45.out.below hW HX45.out.lt, HX5.out.below hW HX5.out.lt, (HBX.out _ hb).2⟩)
      have K1 : Hid (∀ W, Below W5.heap.size W5 W → Calls Tryz.prog 13 #[.slice A1 zp.length c1, .slice A2 zp.length c2] W fun e w' => e = .returned (.bool true) ∧ Below W.heap.size W w') := Lib.hid (fun W hW => (same8_any A1 A2 c1 c2 zp zp W (HH15.out.1.on hW) (HH15.out.2.on hW)).mono (fun e w' h => ⟨by rw [h.1]; unfold sameB; simp, h.2⟩))
      have K2 : Hid (∀ W, Below W5.heap.size W5 W → Calls Tryz.prog 14 #[mx.val, my.val] W fun e w' => e = .returned (.bool true) ∧ Below W.heap.size W w') := Lib.hid (fun W hW => sameR_B (Lies.closed mx _ _ HLX5.out hW) (Lies.closed my _ _ HLY.out hW) HSV.out)
      have K3 : Hid (∀ W, Below W5.heap.size W5 W → Calls Tryz.prog 15 #[l.val] W fun e w' => e = .returned (.int .i64 sz) ∧ Below W.heap.size W w') := Lib.hid (fun W hW => (sizeL_any l W (HTW.out _ (HBW.out W hW).2.2.2) (HLW.out _ (HBW.out W hW).2.2.2) r HR.out).mono (fun e w' h => ⟨by rw [h.2, hsz], h.1⟩))
      have K4 : Hid (∀ W, Below W5.heap.size W5 W → Calls Tryz.prog 16 #[l.val] W fun e w' => e = .returned (.int .i64 sz) ∧ Below W.heap.size W w') := Lib.hid (fun W hW => (sizeR16_any l W (HLW.out _ (HBW.out W hW).2.2.2) r HR.out).mono (fun e w' h => ⟨by rw [h.2, hsz], h.1⟩))
      have K5 : Hid (∀ W, Below W5.heap.size W5 W → Calls Tryz.prog 17 #[] W fun e w' => e = .returned (.int .i64 200) ∧ Below W.heap.size W w') := Lib.hid (fun W hW => (most_any W).mono (fun e w' h => ⟨h.1, by rw [h.2]; exact Below.refl _ _⟩))
      have K6 : Hid (∀ W, Below W5.heap.size W5 W → Calls Tryz.prog 18 #[] W fun e w' => e = .returned (.int .i64 200) ∧ Below W.heap.size W w') := Lib.hid (fun W hW => (mostR18_any W).mono (fun e w' h => ⟨h.1, by rw [h.2]; exact Below.refl _ _⟩))
      have K7 : Hid (∀ W, Below W5.heap.size W5 W → Calls Tryz.prog 8 #[] W fun e w' => e = .returned (.bool true) ∧ Below W.heap.size W w') := Lib.hid (fun W hW => wakes8_any W (HTW.out _ (HBW.out W hW).2.2.2))
      clear hsz
      refine region_mix (Below W5.heap.size W5) [(0, false), (1, false), (2, false), (3, false), (4, false), (5, false), (6, false), (7, false), (8, false), (9, false), (10, false), (11, false), (12, false), (13, false), (14, false), (15, false), (16, false), (17, false), (18, false), (19, false), (20, false), (21, false), (22, false), (23, false), (24, false), (25, false), (26, false), (27, false), (28, false), (29, false), (30, false), (31, false), (32, false), (33, false)] (by kernel_rfl) (by kernel_rfl) (Below W5.heap.size W5) ⟨Closed.below W5, fun _ h => h⟩ (Below.refl _ _).drew ?_
      simp only [pickOps, List.getElem?_cons_zero, List.getElem?_cons_succ]
      repeat (first | (refine mix_skip (by rfl) ?_; simp only [Act.put, List.setIfInBounds_toArray, List.set_cons_zero, List.set_cons_succ]) | (refine mix_read _ (by rfl) (fun W hW => by (have hq := HBW.out W hW; have q0 := hq.1; have q1 := hq.2.1; have q2 := hq.2.2.1; clear hq hW; have x0 := q0.cell_at 0 rfl; have x1 := q0.cell_at 1 rfl; have x2 := q0.cell_at 2 rfl; have x3 := q0.cell_at 3 rfl; have x4 := q0.cell_at 4 rfl; have x5 := q0.cell_at 5 rfl; have x6 := q0.cell_at 6 rfl; have x7 := q0.cell_at 7 rfl; have x8 := q0.cell_at 8 rfl; have x9 := q0.cell_at 9 rfl; have x10 := q0.cell_at 10 rfl; have y0 := q1.cell_at 0 rfl; have y1 := q1.cell_at 1 rfl; have y2 := q1.cell_at 2 rfl; have y3 := q1.cell_at 3 rfl; have y4 := q1.cell_at 4 rfl; have y5 := q1.cell_at 5 rfl; have y6 := q1.cell_at 6 rfl; have y7 := q1.cell_at 7 rfl; have y8 := q1.cell_at 8 rfl; have y9 := q1.cell_at 9 rfl; have y10 := q1.cell_at 10 rfl; have z0 := q2.cell_at 0 rfl; have z1 := q2.cell_at 1 rfl; have z2 := q2.cell_at 2 rfl; have z3 := q2.cell_at 3 rfl; have z4 := q2.cell_at 4 rfl; have z5 := q2.cell_at 5 rfl; have z6 := q2.cell_at 6 rfl; have z7 := q2.cell_at 7 rfl; have z8 := q2.cell_at 8 rfl; have z9 := q2.cell_at 9 rfl; have z10 := q2.cell_at 10 rfl; clear q0 q1 q2; go_simp; first | done | with_reducible rfl)) ?_; simp only [Act.put, List.setIfInBounds_toArray, List.set_cons_zero, List.set_cons_succ]) | (refine mix_call _ _ _ (by rfl) (fun W hW => by (clear hW; go_simp; first | done | rfl)) (fun W hW => K1.out W hW) ?_; simp only [Act.put, List.setIfInBounds_toArray, List.set_cons_zero, List.set_cons_succ]) | (refine mix_call _ _ _ (by rfl) (fun W hW => by (clear hW; go_simp; first | done | rfl)) (fun W hW => K2.out W hW) ?_; simp only [Act.put, List.setIfInBounds_toArray, List.set_cons_zero, List.set_cons_succ]) | (refine mix_call _ _ _ (by rfl) (fun W hW => by (clear hW; go_simp; first | done | rfl)) (fun W hW => K3.out W hW) ?_; simp only [Act.put, List.setIfInBounds_toArray, List.set_cons_zero, List.set_cons_succ]) | (refine mix_call _ _ _ (by rfl) (fun W hW => by (clear hW; go_simp; first | done | rfl)) (fun W hW => K4.out W hW) ?_; simp only [Act.put, List.setIfInBounds_toArray, List.set_cons_zero, List.set_cons_succ]) | (refine mix_call _ _ _ (by rfl) (fun W hW => by (clear hW; go_simp; first | done | rfl)) (fun W hW => K5.out W hW) ?_; simp only [Act.put, List.setIfInBounds_toArray, List.set_cons_zero, List.set_cons_succ]) | (refine mix_call _ _ _ (by rfl) (fun W hW => by (clear hW; go_simp; first | done | rfl)) (fun W hW => K6.out W hW) ?_; simp only [Act.put, List.setIfInBounds_toArray, List.set_cons_zero, List.set_cons_succ]) | (refine mix_call _ _ _ (by rfl) (fun W hW => by (clear hW; go_simp; first | done | rfl)) (fun W hW => K7.out W hW) ?_; simp only [Act.put, List.setIfInBounds_toArray, List.set_cons_zero, List.set_cons_succ]))
      refine mix_nil (fun W hW => ?_)
      have HFB : Hid (Below w.heap.size w W) := Lib.hid (HBW.out W hW).2.2.2.below
      clear hW
      go_wp2_with fail
      go_ret
      exact ⟨rfl, HFB.out⟩
end Go.Proofs.YtegflmaobmibnaaGreatDoor
