/- What is put is taken; one byte fewer; one more. -/
import Derived.Test.YtegflmaobmibnaaGreatDoorQPlanC
import Derived.Test.YtegflmaobmibnaaGreatDoorQPlanWk
namespace Go.Proofs.YtegflmaobmibnaaGreatDoor
set_option maxRecDepth 100000
open Go.RowKit Go.Shelf
set_option linter.unusedVariables false
set_option linter.unusedSimpArgs false

theorem great_B {w : World} {l : Lay} (hL : Lies l w) {r : Bool} (hr : greatV l = r) : Calls Tryz.prog 7 #[l.val] w fun e w' => e = .returned (.bool r) ∧ Below w.heap.size w w' :=
  great_P (P := fun W => Below w.heap.size w W) (Closed.below w) (fun W h => Lies.closed l _ _ hL h) hr (Below.refl _ _)
/-- What a law of layer 8 knows on its way. -/
structure On8 (w0 w : World) : Prop where
  below : Below w0.heap.size w0 w
theorem Hands.take {w : World} {A : Option Addr} {zs : List Int} (h : Hands w A zs) (k : Nat) : Hands w A (zs.take k) := by
  have e : u8s (zs.take k) = (u8s zs).take k := by simp [u8s]
  refine ⟨fun hp => ?_, fun z hz => h.2 z (List.mem_of_mem_take hz)⟩
  rw [e] at hp
  obtain ⟨b, off, e1, hb, hc⟩ := h.1 (by rw [List.length_take] at hp; omega)
  refine ⟨b, off, e1, hb, fun j u hu => hc j u ?_⟩
  rw [e, List.getElem?_take] at hu
  split at hu
  · exact hu
  · cases hu
theorem On8.on {w0 w w' : World} (h : On8 w0 w) (hb : Below w.heap.size w w') : On8 w0 w' := ⟨h.below.trans (hb.mono h.below.size)⟩

set_option maxHeartbeats 16000000 in
theorem planBack_walk (l : Lay) (more : Int) (w : World) (hT : Shapes w) (hL : Lies l w) (hm : IsByte more) :
    Calls Tryz.prog 4 #[l.val, .int .u8 more] w fun e w' => e = .returned (.bool true) ∧ Below w.heap.size w w' := by
  have hSw : Shapes w := hT
  have HTW : Hid (∀ W, On8 w W → Shapes W) := Lib.hid (fun W h => hSw.on h.below)
  have HLW : Hid (∀ W, On8 w W → Lies l W) := Lib.hid (fun W h => Lies.closed l _ _ hL h.below)
  have HM := Lib.hid hm
  have HBX : Hid (∀ W, Below (w.heap.size + 1) (w.alloc (.cells l.cells.toArray 29)) W → Whole W w.heap.size 29 l.cells ∧ On8 w W) := Lib.hid (fun W h => ⟨(Whole.new w 29 l.cells).below h (by omega), ⟨(below1 w _).trans (h.mono (by omega))⟩⟩)
  have H0 : Hid (On8 w (w.alloc (.cells l.cells.toArray 29))) := Lib.hid ⟨below1 w _⟩
  obtain ⟨W0, hW0⟩ : ∃ W, w.alloc (.cells l.cells.toArray 29) = W := ⟨_, rfl⟩
  have HS0 : Hid (W0.heap.size = w.heap.size + 1) := Lib.hid (by rw [← hW0]; simp)
  rw [hW0] at HBX H0
  obtain ⟨g, hg⟩ : ∃ g, greatV l = g := ⟨_, rfl⟩
  obtain ⟨r, hr⟩ : ∃ r, rightL l = r := ⟨_, rfl⟩
  have HG := Lib.hid hg
  have HR := Lib.hid hr
  have HW0 := Lib.hid hW0
  clear hg hr hT hL hm hSw hW0
  go_enter Tryz.func4, Tryz.ntmps4
  go_wp2_with fail
  rw [HW0.out]
  clear HW0
  refine (great_B (HLW.out _ H0.out) HG.out).mono ?_
  rintro e w1 ⟨rfl, hb1⟩
  have HB1 : Hid (Below (w.heap.size + 1) W0 w1) := Lib.hid (by rw [← HS0.out]; exact hb1)
  clear hb1
  cases g
  rotate_left
  · go_wp2_with fail
    refine (wakes8_any w1 (HTW.out _ (HBX.out _ HB1.out).2)).mono ?_
    rintro e w2 ⟨rfl, hb2⟩
    have HF := Lib.hid ((HBX.out _ HB1.out).2.on hb2).below
    clear hb2
    go_wp2_with fail
    go_ret
    exact ⟨rfl, HF.out⟩
  · have hbx := (HBX.out _ HB1.out).1
    have x0 := hbx.cell_at 0 rfl
    have x1 := hbx.cell_at 1 rfl
    have x2 := hbx.cell_at 2 rfl
    have x3 := hbx.cell_at 3 rfl
    have x4 := hbx.cell_at 4 rfl
    have x5 := hbx.cell_at 5 rfl
    have x6 := hbx.cell_at 6 rfl
    have x7 := hbx.cell_at 7 rfl
    have x8 := hbx.cell_at 8 rfl
    have x9 := hbx.cell_at 9 rfl
    have x10 := hbx.cell_at 10 rfl
    go_wp2_with fail
    refine (putL_cap l w1 (HTW.out _ (HBX.out _ HB1.out).2) (HTW.out _ (HBX.out _ HB1.out).2).lt (HLW.out _ (HBX.out _ HB1.out).2) r HR.out).mono ?_
    rintro e w2 ⟨hb2, h2⟩
    have HB2 : Hid (Below (w.heap.size + 1) W0 w2) := Lib.hid (HB1.out.trans (hb2.mono (by have := HB1.out.size; have := HS0.out; omega)))
    clear hb2 hbx x0 x1 x2 x3 x4 x5 x6 x7 x8 x9 x10
    have hbx := (HBX.out _ HB2.out).1
    have x0 := hbx.cell_at 0 rfl
    have x1 := hbx.cell_at 1 rfl
    have x2 := hbx.cell_at 2 rfl
    have x3 := hbx.cell_at 3 rfl
    have x4 := hbx.cell_at 4 rfl
    have x5 := hbx.cell_at 5 rfl
    have x6 := hbx.cell_at 6 rfl
    have x7 := hbx.cell_at 7 rfl
    have x8 := hbx.cell_at 8 rfl
    have x9 := hbx.cell_at 9 rfl
    have x10 := hbx.cell_at 10 rfl
    rcases h2 with ⟨rfl, rfl⟩ | ⟨rfl, A, c, rfl, hh, hc⟩
    · go_wp2_with fail
      refine (rightR_B (HLW.out _ (HBX.out _ HB2.out).2) HR.out).mono ?_
      rintro e w3 ⟨rfl, hb3⟩
      have HO3 := Lib.hid ((HBX.out _ HB2.out).2.on hb3)
      clear hb3 hbx x0 x1 x2 x3 x4 x5 x6 x7 x8 x9 x10
      go_wp2_with fail
      refine (wakes8_any w3 (HTW.out _ HO3.out)).mono ?_
      rintro e w4 ⟨rfl, hb4⟩
      have HF := Lib.hid (HO3.out.on hb4).below
      clear hb4
      go_wp2_with fail
      go_ret
      exact ⟨rfl, HF.out⟩
    · obtain ⟨zs, hzs⟩ : ∃ zs, bytesL l.pl = zs := ⟨_, rfl⟩
      have HLEN : Hid (11 ≤ zs.length ∧ zs.length ≤ 200) := Lib.hid (hzs ▸ bytes_len (fine_of_right HR.out))
      rw [hzs] at hh hc
      rw [hzs]
      have HZS := Lib.hid hzs
      have HH := Lib.hid hh
      have HC := Lib.hid hc
      clear hzs hh hc
      go_wp2_with fail
      refine (rightR_B (HLW.out _ (HBX.out _ HB2.out).2) HR.out).mono ?_
      rintro e w3 ⟨rfl, hb3⟩
      have HB3 : Hid (Below (w.heap.size + 1) W0 w3) := Lib.hid (HB2.out.trans (hb3.mono (by have := HB2.out.size; have := HS0.out; omega)))
      have HH3 : Hid (Hands w3 A zs) := Lib.hid (HH.out.on hb3)
      clear hb3 hbx x0 x1 x2 x3 x4 x5 x6 x7 x8 x9 x10
      go_wp2_with fail
      refine (show Calls Tryz.prog 11 #[.slice A zs.length c] w3 _ from by rw [← HZS.out]; exact takeBack_any l HR.out A c w3 (by rw [HZS.out]; exact HH3.out) (HTW.out _ (HBX.out _ HB3.out).2)).mono ?_
      rintro e w4 ⟨hb4, m, hpl, rfl, _, hlm⟩
      obtain ⟨W4, hW4⟩ : ∃ W, w4.alloc (.cells m.cells.toArray 29) = W := ⟨_, rfl⟩
      have HB4 : Hid (Below (w.heap.size + 1) W0 W4) := Lib.hid (by rw [← hW4]; exact (HB3.out.trans (hb4.mono (by have := HB3.out.size; have := HS0.out; omega))).trans ((below1 w4 _).mono (by have := hb4.size; have := HB3.out.size; have := HS0.out; omega)))
      have HH4 : Hid (Hands W4 A zs) := Lib.hid (by rw [← hW4]; exact (HH3.out.on hb4).on (below1 w4 _))
      have HMX : Hid (Whole W4 w4.heap.size 29 m.cells) := Lib.hid (by rw [← hW4]; exact Whole.new w4 29 m.cells)
      have HLM : Hid (Lies m W4) := Lib.hid (by rw [← hW4]; exact Lies.closed m _ _ hlm (below1 w4 _))
      have HSM : Hid (sameV m l = true) := Lib.hid ((sameV_pl m l).2 hpl)
      clear hb4 hpl hlm
      have hbx := (HBX.out _ HB4.out).1
      have hmx := HMX.out
      rw [← hW4] at hbx hmx
      have x0 := hbx.cell_at 0 rfl
      have x1 := hbx.cell_at 1 rfl
      have x2 := hbx.cell_at 2 rfl
      have x3 := hbx.cell_at 3 rfl
      have x4 := hbx.cell_at 4 rfl
      have x5 := hbx.cell_at 5 rfl
      have x6 := hbx.cell_at 6 rfl
      have x7 := hbx.cell_at 7 rfl
      have x8 := hbx.cell_at 8 rfl
      have x9 := hbx.cell_at 9 rfl
      have x10 := hbx.cell_at 10 rfl
      have y0 := hmx.cell_at 0 rfl
      have y1 := hmx.cell_at 1 rfl
      have y2 := hmx.cell_at 2 rfl
      have y3 := hmx.cell_at 3 rfl
      have y4 := hmx.cell_at 4 rfl
      have y5 := hmx.cell_at 5 rfl
      have y6 := hmx.cell_at 6 rfl
      have y7 := hmx.cell_at 7 rfl
      have y8 := hmx.cell_at 8 rfl
      have y9 := hmx.cell_at 9 rfl
      have y10 := hmx.cell_at 10 rfl
      have n1 : ¬ (zs.length : Int) < 11 := by have := HLEN.out; omega
      have n1' : ¬ zs.length < 11 := by have := HLEN.out; omega
      have n2 : ¬ (200 : Int) < (zs.length : Int) := by have := HLEN.out; omega
      have n2' : ¬ 200 < zs.length := by have := HLEN.out; omega
      have HW4 := Lib.hid hW4
      clear hbx hmx hW4
      go_wp2_with fail
      rw [HW4.out]
      clear x0 x1 x2 x3 x4 x5 x6 x7 x8 x9 x10 y0 y1 y2 y3 y4 y5 y6 y7 y8 y9 y10 HW4
      refine (sameR_B HLM.out (HLW.out _ (HBX.out _ HB4.out).2) HSM.out).mono ?_
      rintro e w5 ⟨rfl, hb5⟩
      have HB5 : Hid (Below (w.heap.size + 1) W0 w5) := Lib.hid (HB4.out.trans (hb5.mono (by have := HB4.out.size; have := HS0.out; omega)))
      have HH5 : Hid (Hands w5 A zs) := Lib.hid (HH4.out.on hb5)
      clear hb5
      have hbx := (HBX.out _ HB5.out).1
      have x0 := hbx.cell_at 0 rfl
      have x1 := hbx.cell_at 1 rfl
      have x2 := hbx.cell_at 2 rfl
      have x3 := hbx.cell_at 3 rfl
      have x4 := hbx.cell_at 4 rfl
      have x5 := hbx.cell_at 5 rfl
      have x6 := hbx.cell_at 6 rfl
      have x7 := hbx.cell_at 7 rfl
      have x8 := hbx.cell_at 8 rfl
      have x9 := hbx.cell_at 9 rfl
      have x10 := hbx.cell_at 10 rfl
      clear hbx
      go_wp2_with fail
      refine (most_any w5).mono ?_
      rintro e w6 ⟨rfl, rfl⟩
      go_wp2_with fail
      refine (sizeL_any l w6 (HTW.out _ (HBX.out _ HB5.out).2) (HLW.out _ (HBX.out _ HB5.out).2) true HR.out).mono ?_
      rintro e w7 ⟨hb7, he⟩
      rw [if_pos rfl, HZS.out] at he
      obtain rfl := he
      have HB7 : Hid (Below (w.heap.size + 1) W0 w7) := Lib.hid (HB5.out.trans (hb7.mono (by have := HB5.out.size; have := HS0.out; omega)))
      have HH7 : Hid (Hands w7 A zs) := Lib.hid (HH5.out.on hb7)
      clear hb7 n1 n1' n2 n2' x0 x1 x2 x3 x4 x5 x6 x7 x8 x9 x10
      obtain ⟨k, hk⟩ : ∃ k, zs.length = k + 1 := ⟨zs.length - 1, by have := HLEN.out; omega⟩
      have HK := Lib.hid hk
      have hw : IntKind.i64.wrap ((zs.length : Int) - 1) = (k : Int) := by rw [wrap_id _ (by omega) (by have := HLEN.out; omega)]; omega
      have hw2 : wrap64 ((zs.length : Int) - 1) = (k : Int) := by unfold wrap64; have := HLEN.out; omega
      have hne : ((zs.length : Int) != (zs.length : Int)) = false := by simp
      have hc1 : ¬ (c : Int) < (k : Int) := by have := HC.out; omega
      have hc2 : ¬ c < k := by have := HC.out; omega
      have n3 : (11 : Int) ≤ (zs.length : Int) := by have := HLEN.out; omega
      have n4 : (zs.length : Int) ≤ 200 := by have := HLEN.out; omega
      have hrow := HH7.out.1
      obtain ⟨bb, off, rfl, hbb, hcells⟩ := hrow (by rw [u8s_length]; omega)
      clear hk hrow hcells
      go_wp2_with fail
      have hk1 : (zs.take k).length = k := by rw [List.length_take, HK.out]; omega
      have hk2 : zs.length - 1 = k := by rw [HK.out]; omega
      have K8 := takeShort_any (some ⟨bb, off, none⟩) c (zs.take k) _ (by have hl := less_bits (fine_of_right HR.out); rw [HZS.out, hk2] at hl; exact hl) (by have hn := read_less (fine_of_right HR.out); rw [HZS.out, hk2] at hn; exact hn) (by rw [hk1]; have := HLEN.out; omega) w7 (HH7.out.take k) (HTW.out _ (HBX.out _ HB7.out).2)
      rw [hk1] at K8
      refine K8.mono ?_
      clear K8 hk1 hk2 hw hw2 hne n3 n4 hc1 hc2
      rintro e w8 ⟨hb8, he⟩
      obtain rfl : e = .returned (.tuple #[.agg #[.slice none 0 0, .slice none 0 0, .slice none 0 0, .slice none 0 0, .int .i64 0, .int .i64 0, .int .i64 0, .int .i64 0, .int .i64 0, .int .i64 0, .int .i64 0], .int .i64 40]) := he
      obtain ⟨W8, hW8⟩ : ∃ W, w8.alloc (.cells #[.slice none 0 0, .slice none 0 0, .slice none 0 0, .slice none 0 0, .int .i64 0, .int .i64 0, .int .i64 0, .int .i64 0, .int .i64 0, .int .i64 0, .int .i64 0] 29) = W := ⟨_, rfl⟩
      have HB8 : Hid (Below (w.heap.size + 1) W0 W8) := Lib.hid (by rw [← hW8]; exact (HB7.out.trans (hb8.mono (by have := HB7.out.size; have := HS0.out; omega))).trans ((below1 w8 _).mono (by have := hb8.size; have := HB7.out.size; have := HS0.out; omega)))
      have HH8 : Hid (Hands W8 (some ⟨bb, off, none⟩) zs) := Lib.hid (by rw [← hW8]; exact (HH7.out.on hb8).on (below1 w8 _))
      have HX8 : Hid (Whole W8 w8.heap.size 29 [.slice none 0 0, .slice none 0 0, .slice none 0 0, .slice none 0 0, .int .i64 0, .int .i64 0, .int .i64 0, .int .i64 0, .int .i64 0, .int .i64 0, .int .i64 0]) := Lib.hid (by rw [← hW8]; exact Whole.new w8 29 [.slice none 0 0, .slice none 0 0, .slice none 0 0, .slice none 0 0, .int .i64 0, .int .i64 0, .int .i64 0, .int .i64 0, .int .i64 0, .int .i64 0, .int .i64 0])
      obtain ⟨g1, c1, w9, g2, c2, wa, ha1, ha2, hha, hba⟩ := two_appends (some ⟨bb, off, none⟩) c zs more W8 HH8.out (by have := HLEN.out; omega) HM.out
      have hS8 : W8.heap.size = w8.heap.size + 1 := by rw [← hW8]; simp
      have HB9 : Hid (Below W8.heap.size W8 wa) := Lib.hid hba
      rw [hS8, ← hW8] at ha1
      have HHA := Lib.hid hha
      clear hS8 hW8 hha hba hb8
      go_wp2_with (at_builtin; first | refine list_append rfl (.tmp 79) (.tmp 80) 30 rfl ha1 ?_ | refine list_append rfl (.tmp 81) (.tmp 83) 30 rfl ha2 ?_)
      have HBA : Hid (Below (w.heap.size + 1) W0 wa) := Lib.hid (HB8.out.trans (HB9.out.mono (by have := HB8.out.size; have := HS0.out; omega)))
      refine (show Calls Tryz.prog 11 #[.slice (some ⟨g2, 0, none⟩) (zs.length + 1) c2] wa (fun e w' => Below wa.heap.size wa w' ∧ e = .returned (.tuple #[zeroL.val, .int .i64 41])) from by
        have hk := takeMore_any l HR.out [more] (by simp) (by simp) (some ⟨g2, 0, none⟩) c2 wa (by rw [HZS.out]; exact HHA.out) (HTW.out _ (HBX.out _ HBA.out).2)
        rw [HZS.out, List.length_append] at hk
        exact hk).mono ?_
      clear ha1 ha2
      rintro e wb ⟨hbb2, he⟩
      obtain rfl : e = .returned (.tuple #[.agg #[.slice none 0 0, .slice none 0 0, .slice none 0 0, .slice none 0 0, .int .i64 0, .int .i64 0, .int .i64 0, .int .i64 0, .int .i64 0, .int .i64 0, .int .i64 0], .int .i64 41]) := he
      have hxb := ((HX8.out.below HB9.out HX8.out.lt).below hbb2 (by have := HX8.out.lt; have := HB9.out.size; omega)).alloc (.cells #[.slice none 0 0, .slice none 0 0, .slice none 0 0, .slice none 0 0, .int .i64 0, .int .i64 0, .int .i64 0, .int .i64 0, .int .i64 0, .int .i64 0, .int .i64 0] 29)
      have z0 := hxb.cell_at 0 rfl
      have HOB : Hid (∀ o, On8 w (wb.alloc o)) := Lib.hid (fun o => ((HBX.out _ HBA.out).2.on hbb2).on (below1 wb o))
      clear hxb hbb2
      go_wp2_with fail
      refine (wakes8_any _ (HTW.out _ (HOB.out _))).mono ?_
      rintro e wc ⟨rfl, hbc⟩
      have HF := Lib.hid ((HOB.out _).on hbc).below
      clear hbc z0
      go_wp2_with fail
      go_ret
      exact ⟨rfl, HF.out⟩
end Go.Proofs.YtegflmaobmibnaaGreatDoor
