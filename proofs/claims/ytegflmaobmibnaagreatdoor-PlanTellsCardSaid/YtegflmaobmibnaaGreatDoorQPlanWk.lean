/- What the laws of layer 8 ask of Take; the law's own wakes. -/
import Derived.Test.YtegflmaobmibnaaGreatDoorQPlanZ
import Derived.Test.YtegflmaobmibnaaGreatDoorQLayTellsM
import Derived.Test.YtegflmaobmibnaaGreatDoorQLayOneM
namespace Go.Proofs.YtegflmaobmibnaaGreatDoor
set_option maxRecDepth 100000
open Go.RowKit Go.Shelf
set_option linter.unusedVariables false
set_option linter.unusedSimpArgs false

theorem takeBack_any (l : Lay) (hR : rightL l = true) (A : Option Addr) (cap : Nat) (w : World) (hH : Hands w A (bytesL l.pl)) (hSh : Shapes w) :
    Calls Tryz.prog 11 #[.slice A (bytesL l.pl).length cap] w fun e w' => Below w.heap.size w w' ∧ ∃ m : Lay, m.pl = l.pl ∧ e = .returned (.tuple #[m.val, .int .i64 0]) ∧ Owned w.heap.size m w' ∧ Lies m w' := by
  have hF := fine_of_right hR
  have hb := bytes_len hF
  refine (takeL_any A cap _ (bitsL l.pl) w hH (by omega) (are_bytes _) hSh).mono ?_
  have hr := read_bytes hF []
  rw [List.append_nil] at hr
  rintro e w' ⟨hB, (⟨h, _⟩ | ⟨m, s', h, hm⟩)⟩
  · rw [hr] at h; cases h
  · have hpl : m.pl = l.pl := by rw [hr] at h; exact (congrArg Prod.fst (Option.some.inj h)).symm
    have hLm : ∀ W, Owned w.heap.size m W → Lies m W := fun W ho => owned_lies ho (tells_lay _ _ _ _ h)
    rcases hm with ⟨_, _, he, ho⟩ | ⟨hn, _⟩
    · exact ⟨hB, m, hpl, he, ho, hLm _ ho⟩
    · exact absurd ⟨(right_pl hpl).trans hR, by rw [hpl]⟩ hn
theorem takeShort_any (A : Option Addr) (cap : Nat) (zs : List Int) (l : List Bool) (hA : Are zs (8 * (zs.length : Int)) l) (hn : layP l 0 = none) (hl : zs.length ≤ 2000) (w : World) (hH : Hands w A zs) (hSh : Shapes w) :
    Calls Tryz.prog 11 #[.slice A zs.length cap] w fun e w' => Below w.heap.size w w' ∧ e = .returned (.tuple #[zeroL.val, .int .i64 40]) := by
  refine (takeL_any A cap _ l w hH hl hA hSh).mono ?_
  rintro e w' ⟨hB, (⟨_, h⟩ | ⟨m, s', h, _⟩)⟩
  · exact ⟨hB, h⟩
  · rw [hn] at h; cases h
theorem takeMore_any (l : Lay) (hR : rightL l = true) (ys : List Int) (hy : ys ≠ []) (hyl : ys.length ≤ 100) (A : Option Addr) (cap : Nat) (w : World) (hH : Hands w A (bytesL l.pl ++ ys)) (hSh : Shapes w) :
    Calls Tryz.prog 11 #[.slice A (bytesL l.pl ++ ys).length cap] w fun e w' => Below w.heap.size w w' ∧ e = .returned (.tuple #[zeroL.val, .int .i64 41]) := by
  have hF := fine_of_right hR
  have hb := bytes_len hF
  obtain ⟨L, hL⟩ := bits_of _ hH.2
  obtain ⟨x, rfl⟩ := more_bits hL
  refine (takeL_any A cap _ _ w hH (by rw [List.length_append]; omega) hL hSh).mono ?_
  have hr := read_bytes hF x
  rintro e w' ⟨hB, (⟨h, _⟩ | ⟨m, s', h, hm⟩)⟩
  · rw [hr] at h; cases h
  · have hpl : m.pl = l.pl := by rw [hr] at h; exact (congrArg Prod.fst (Option.some.inj h)).symm
    rcases hm with ⟨_, h2, _⟩ | ⟨_, he⟩
    · rw [hpl] at h2
      have h3 := congrArg List.length h2
      rw [List.length_append] at h3
      have : ys.length ≠ 0 := fun e => hy (List.length_eq_zero_iff.1 e)
      omega
    · exact ⟨hB, he⟩
/-- append(append([]byte{}, b..), more) -/
theorem two_appends (A : Option Addr) (cap : Nat) (zs : List Int) (more : Int) (w : World) (h : Hands w A zs) (hz : zs.length ≤ 2000) (hm : IsByte more) :
    ∃ g c w2 g' c' w4, (Builtin.append_ #[30, 30] 30 #[.slice (some ⟨w.heap.size, 0, none⟩) 0 0, .slice A zs.length cap]).run Tryz.prog (w.alloc (.cells #[] 5)) = .ok (.slice (some ⟨g, 0, none⟩) zs.length c) w2 ∧
      (Builtin.append_ #[30, 30] 30 #[.slice (some ⟨g, 0, none⟩) zs.length c, .slice (some ⟨w2.heap.size, 0, none⟩) 1 1]).run Tryz.prog (w2.alloc (.cells #[.int .u8 more] 5)) = .ok (.slice (some ⟨g', 0, none⟩) (zs ++ [more]).length c') w4 ∧
      Hands w4 (some ⟨g', 0, none⟩) (zs ++ [more]) ∧ Below w.heap.size w w4 := by
  obtain ⟨g, c, w2, h1, h2, h3⟩ := append_empty A cap zs w h.1 (by omega)
  have hown := owns_keep h2 (below1 w2 (.cells #[.int .u8 more] 5))
  obtain ⟨g', c', w4, k1, k2, k3, k4⟩ := append_run (P := Tryz.prog) 30 30 5 (.int .u8 0) 1 Tryz.underlying30 info_u8 rfl w.heap.size g zs.length c (u8s zs) [.int .u8 more] _ hown (w2.heap.size + 1) 1 (some ⟨w2.heap.size, 0, none⟩) ((Whole.new w2 5 [.int .u8 more]).row (by omega)) (by simp [Value.oneCell']) (by simp; unfold maxLen; omega) (by simp; omega) (by have := h3.size; simp; omega)
  refine ⟨g, c, w2, g', c', w4, h1, ?_, ?_, ?_⟩
  · rw [List.length_append]; exact k1
  · have hz : u8s (zs ++ [more]) = u8s zs ++ [.int .u8 more] := by simp [u8s]
    have k2' : w4.ownsRow w.heap.size 5 1 (.slice (some ⟨g', 0, none⟩) (zs ++ [more]).length c') (zs ++ [more]).length (u8s (zs ++ [more])) := by rw [hz, List.length_append]; exact k2
    refine Hands.owned k2' (fun z hz => ?_)
    rcases List.mem_append.1 hz with h' | h'
    · exact h.2 z h'
    · rw [List.mem_singleton.1 h']; exact hm
  · exact (h3.trans ((below1 w2 _).mono h3.size)).grown k3 (by have := h3.size; simp; omega) (fun k e => by cases e; exact (hown.lt g rfl).1)

set_option maxHeartbeats 1000000 in
theorem same8_any (A A' : Option Addr) (c c' : Nat) (zs zs' : List Int) (w : World) (h : Hands w A zs) (h' : Hands w A' zs') :
    Calls Tryz.prog 13 #[.slice A zs.length c, .slice A' zs'.length c'] w fun e w' => e = .returned (.bool (sameB zs zs')) ∧ Below w.heap.size w w' := by
  have r1 := text_run w 30 5 Tryz.underlying30 Tryz.underlying5 9 Tryz.underlying9 _ A zs c h.1
  have r2 := text_run w 30 5 Tryz.underlying30 Tryz.underlying5 9 Tryz.underlying9 _ A' zs' c' h'.1
  have hs := sameB_text zs zs' h.2 h'.2
  go_enter Tryz.func13, Tryz.ntmps13
  go_wp2
  go_ret
  exact ⟨rfl, Below.refl _ _⟩
def emptyL : Lay := ⟨[], none, 0, [], none, 0, [], none, 0, [], none, 0, 1, 1, 1, 1, 1, 1, 1⟩
theorem empty_lies (w : World) : Lies emptyL w := ⟨Row.nil _ _ _, Row.nil _ _ _, Row.nil _ _ _, Row.nil _ _ _, (fun x hx => by cases hx), (fun x hx => by cases hx), by simp [emptyL], by simp [emptyL], by simp [emptyL], by simp [emptyL], (fun x hx => by cases hx)⟩
theorem empty_right : rightL emptyL = true := by rfl
theorem zero_right : rightL zeroL = false := by rfl
theorem empty_bytes : bytesL emptyL.pl = List.replicate 11 0 := by decide +kernel
theorem empty_any (w : World) : Calls Tryz.prog 21 #[] w fun e w' => e = .returned emptyL.val ∧ Below w.heap.size w w' := by
  go_enter Tryz.func21, Tryz.ntmps21
  go_wp2
  refine bodyPost_ret (v := emptyL.val) (by simp [results, Tryz.results21, go_sem, emptyL]) rfl ?_
  exact ⟨rfl, below1 w _⟩
theorem short_one : ∀ l : List Bool, l.length = 8 → layP l 0 = none := fun l hl => by
  cases h : layP l 0 with
  | none => rfl
  | some r =>
    have h1 := eats_lay l 0 r.1 r.2 h
    have h2 := (good_lay l 0 r.1 r.2 (Nat.zero_le _) h).2.1
    omega
theorem Shapes.on {w w' : World} (h : Shapes w) (hb : Below w.heap.size w w') : Shapes w' := Shapes.closed _ _ h hb

set_option maxHeartbeats 32000000 in
theorem wakes8_any (w : World) (hT : Shapes w) : Calls Tryz.prog 8 #[] w fun e w' => e = .returned (.bool true) ∧ Below w.heap.size w w' := by
  obtain ⟨zs, hzs⟩ : ∃ zs, bytesL emptyL.pl = zs := ⟨_, rfl⟩
  have hz11 : zs = List.replicate 11 0 := hzs.symm.trans empty_bytes
  have hzl : zs.length = 11 := by rw [hz11]; simp
  have HZS := Lib.hid hzs
  have HZ11 := Lib.hid hz11
  have HZL := Lib.hid hzl
  have HT := Lib.hid hT
  clear hzs hz11 hzl hT
  go_enter Tryz.func8, Tryz.ntmps8
  go_wp2_with fail
  refine (empty_any w).mono ?_
  rintro e w1 ⟨rfl, hb1⟩
  go_wp2_with fail
  refine (putL_any emptyL w1 (HT.out.on hb1) (HT.out.on hb1).lt (empty_lies _) true empty_right).mono ?_
  rintro e w2 ⟨hb2, (⟨h, _⟩ | ⟨_, A, c, rfl, hh⟩)⟩
  · cases h
  rw [HZS.out] at hh ⊢
  have HH := Lib.hid hh
  have HB2 : Hid (Below w.heap.size w w2) := Lib.hid (hb1.trans (hb2.mono hb1.size))
  clear hb1 hb2 hh
  go_wp2_with fail
  refine (show Calls Tryz.prog 11 #[.slice A zs.length c] w2 _ from by rw [← HZS.out]; exact takeBack_any emptyL empty_right A c w2 (by rw [HZS.out]; exact HH.out) (HT.out.on HB2.out)).mono ?_
  rintro e w3 ⟨hb3, m, hm, rfl, ho, hlm⟩
  obtain ⟨W3, hW3⟩ : ∃ W, (w3.alloc (.cells m.cells.toArray 29)).alloc (.cells #[.int .u8 0] 5) = W := ⟨_, rfl⟩
  have HX3 : Hid (Whole W3 w3.heap.size 29 m.cells) := Lib.hid (by rw [← hW3]; exact (Whole.new w3 29 m.cells).alloc _)
  have HO3 : Hid (Hands W3 (some ⟨w3.heap.size + 1, 0, none⟩) [0]) := Lib.hid (by
    rw [← hW3]
    exact ⟨(Whole.new_at (w3.alloc (.cells m.cells.toArray 29)) 5 [.int .u8 0] (n := w3.heap.size + 1) (by simp)).row (by simp), fun z hz => by rw [List.mem_singleton.1 hz]; exact ⟨by decide, by decide⟩⟩)
  have HB3 : Hid (Below w3.heap.size w3 W3) := Lib.hid (by rw [← hW3]; exact below2 w3 _ _)
  have HB23 : Hid (Below w2.heap.size w2 w3) := Lib.hid hb3
  have HBW3 : Hid (Below w.heap.size w W3) := Lib.hid (HB2.out.trans ((hb3.trans (HB3.out.mono hb3.size)).mono HB2.out.size))
  have HM := Lib.hid hm
  have HLM : Hid (Lies m W3) := Lib.hid (Lies.closed m _ _ hlm HB3.out)
  have HH3 : Hid (Hands W3 A zs) := Lib.hid ((HH.out.on HB23.out).on HB3.out)
  clear ho hlm hb3 hm
  go_wp2_with fail
  try rw [hW3]
  clear hW3
  obtain ⟨l1, hl1⟩ := bits_of [0] HO3.out.2
  refine (takeShort_any _ 1 [0] l1 hl1 (short_one l1 (by have := hl1.1; simp at this; omega)) (by simp) W3 HO3.out (HT.out.on HBW3.out)).mono ?_
  clear hl1
  rintro e w4 ⟨hb4, rfl⟩
  obtain ⟨W4, hW4⟩ : ∃ W, w4.alloc (.cells zeroL.cells.toArray 29) = W := ⟨_, rfl⟩
  have HB4 : Hid (Below W3.heap.size W3 W4) := Lib.hid (by rw [← hW4]; exact hb4.trans ((below1 w4 _).mono hb4.size))
  clear hb4
  obtain ⟨g1, c1, w5, g2, c2, w6, ha1, ha2, hh6, hb6⟩ := two_appends A c zs 0 W4 (HH3.out.on HB4.out) (by have := HZL.out; omega) ⟨by decide, by decide⟩
  have hS4 : W4.heap.size = w4.heap.size + 1 := by rw [← hW4]; simp
  rw [hS4, ← hW4] at ha1
  have HB6 : Hid (Below W4.heap.size W4 w6) := Lib.hid hb6
  have HH6 := Lib.hid hh6
  clear hh6 hb6
  clear hS4 hW4
  go_wp2_with (at_builtin; first | refine list_append rfl (.tmp 27) (.tmp 28) 30 rfl ha1 ?_ | refine list_append rfl (.tmp 29) (.tmp 30) 30 rfl ha2 ?_)
  have HT6 : Hid (Shapes w6) := Lib.hid (HT.out.on (HBW3.out.trans ((HB4.out.trans (HB6.out.mono HB4.out.size)).mono HBW3.out.size)))
  refine (show Calls Tryz.prog 11 #[.slice (some ⟨g2, 0, none⟩) (zs.length + 1) c2] w6 (fun e w' => Below w6.heap.size w6 w' ∧ e = .returned (.tuple #[zeroL.val, .int .i64 41])) from by
    have hk := takeMore_any emptyL empty_right [0] (by simp) (by simp) (some ⟨g2, 0, none⟩) c2 w6 (by rw [HZS.out]; exact HH6.out) HT6.out
    rw [HZS.out, List.length_append] at hk
    exact hk).mono ?_
  rintro e w7 ⟨hb7, rfl⟩
  obtain ⟨W7, hW7⟩ : ∃ W, w7.alloc (.cells zeroL.cells.toArray 29) = W := ⟨_, rfl⟩
  have HB7 : Hid (Below w6.heap.size w6 W7) := Lib.hid (by rw [← hW7]; exact hb7.trans ((below1 w7 _).mono hb7.size))
  clear ha1 ha2 hb7
  go_wp2_with fail
  try rw [hW7]
  clear hW7
  refine (putL_any zeroL W7 (HT6.out.on HB7.out) (HT6.out.on HB7.out).lt (zero_lies _) false zero_right).mono ?_
  rintro e w8 ⟨hb8, (⟨_, rfl⟩ | ⟨h, _⟩)⟩
  rotate_left
  · cases h
  have HB38 : Hid (Below W3.heap.size W3 w8) := Lib.hid ((HB4.out.trans (HB6.out.mono HB4.out.size)).trans ((HB7.out.trans (hb8.mono HB7.out.size)).mono (HB4.out.trans (HB6.out.mono HB4.out.size)).size))
  have HBW8 : Hid (Below w.heap.size w w8) := Lib.hid (HBW3.out.trans (HB38.out.mono HBW3.out.size))
  clear hb8
  go_wp2_with fail
  have HD : Hid (∀ W, Below w8.heap.size w8 W → Below W3.heap.size W3 W) := Lib.hid (fun W h => HB38.out.trans (h.mono HB38.out.size))
  have HBX : Hid (∀ W, Below w8.heap.size w8 W → Whole W w3.heap.size 29 m.cells) := Lib.hid (fun W h => HX3.out.below (HD.out W h) HX3.out.lt)
  have HSH : Hid (∀ W, Below w8.heap.size w8 W → Shapes W) := Lib.hid (fun W h => HT.out.on (HBW8.out.trans (h.mono HBW8.out.size)))
  have KE := Lib.hid (fun (W : World) => empty_any W)
  have KS : Hid (∀ W, Below w8.heap.size w8 W → Calls Tryz.prog 14 #[m.val, emptyL.val] W fun e w' => e = .returned (.bool true) ∧ Below W.heap.size W w') := Lib.hid (fun W h => sameR_B (Lies.closed m _ _ HLM.out (HD.out W h)) (empty_lies W) ((sameV_pl m emptyL).2 HM.out))
  have KZ1 : Hid (∀ W, Below w8.heap.size w8 W → Calls Tryz.prog 15 #[emptyL.val] W fun e w' => e = .returned (.int .i64 11) ∧ Below W.heap.size W w') := Lib.hid (fun W h => (sizeL_any emptyL W (HSH.out W h) (empty_lies W) true empty_right).mono (fun e w' h => ⟨by rw [h.2, if_pos rfl, HZS.out, HZL.out]; rfl, h.1⟩))
  have KZ0 : Hid (∀ W, Below w8.heap.size w8 W → Calls Tryz.prog 15 #[.agg #[.slice none 0 0, .slice none 0 0, .slice none 0 0, .slice none 0 0, .int .i64 0, .int .i64 0, .int .i64 0, .int .i64 0, .int .i64 0, .int .i64 0, .int .i64 0]] W fun e w' => e = .returned (.int .i64 0) ∧ Below W.heap.size W w') := Lib.hid (fun W h => (sizeL_any zeroL W (HSH.out W h) (zero_lies W) false zero_right).mono (fun e w' h => ⟨by rw [h.2, if_neg (by decide)], h.1⟩))
  have KM : Hid (∀ (W : World), Calls Tryz.prog 17 #[] W fun e w' => e = .returned (.int .i64 200) ∧ Below W.heap.size W w') := Lib.hid (fun W => (most_any W).mono (fun e w' h => ⟨h.1, by rw [h.2]; exact Below.refl _ _⟩))
  refine region_mix (Below w8.heap.size w8) [(0, false), (1, false), (2, false), (3, false), (4, true), (5, true), (6, false), (7, false), (8, false), (9, false), (10, false), (11, false), (12, false), (13, false), (14, false), (15, false), (16, false), (17, false), (18, false), (19, false), (20, false), (21, false), (22, false), (23, false), (24, false), (25, false), (26, false), (27, false), (28, false), (29, false), (30, false), (31, false), (32, false), (33, false), (34, false), (35, false), (36, false), (37, false), (38, false), (39, false), (40, false), (41, false), (42, false)] (by kernel_rfl) (by kernel_rfl) (Below w8.heap.size w8) ⟨Closed.below w8, fun _ h => h⟩ (Below.refl _ _).drew ?_
  simp only [pickOps, List.getElem?_cons_zero, List.getElem?_cons_succ]
  repeat (first | (refine mix_skip (by rfl) ?_; simp only [Act.put, List.setIfInBounds_toArray, List.set_cons_zero, List.set_cons_succ]) | (refine mix_read _ (by rfl) (fun W hW => by (have hx := HBX.out W hW; have x0 := hx.cell_at 0 rfl; have x1 := hx.cell_at 1 rfl; have x2 := hx.cell_at 2 rfl; have x3 := hx.cell_at 3 rfl; have x4 := hx.cell_at 4 rfl; have x5 := hx.cell_at 5 rfl; have x6 := hx.cell_at 6 rfl; have x7 := hx.cell_at 7 rfl; have x8 := hx.cell_at 8 rfl; have x9 := hx.cell_at 9 rfl; have x10 := hx.cell_at 10 rfl; clear hx hW; go_simp; first | done | with_reducible rfl)) ?_; simp only [Act.put, List.setIfInBounds_toArray, List.set_cons_zero, List.set_cons_succ]) | (refine mix_call _ _ _ (by rfl) (fun W hW => by (have hx := HBX.out W hW; have x0 := hx.cell_at 0 rfl; have x1 := hx.cell_at 1 rfl; have x2 := hx.cell_at 2 rfl; have x3 := hx.cell_at 3 rfl; have x4 := hx.cell_at 4 rfl; have x5 := hx.cell_at 5 rfl; have x6 := hx.cell_at 6 rfl; have x7 := hx.cell_at 7 rfl; have x8 := hx.cell_at 8 rfl; have x9 := hx.cell_at 9 rfl; have x10 := hx.cell_at 10 rfl; clear hx hW; go_simp; first | done | rfl)) (fun W hW => KE.out W) ?_; simp only [Act.put, List.setIfInBounds_toArray, List.set_cons_zero, List.set_cons_succ]) | (refine mix_call _ _ _ (by rfl) (fun W hW => by (have hx := HBX.out W hW; have x0 := hx.cell_at 0 rfl; have x1 := hx.cell_at 1 rfl; have x2 := hx.cell_at 2 rfl; have x3 := hx.cell_at 3 rfl; have x4 := hx.cell_at 4 rfl; have x5 := hx.cell_at 5 rfl; have x6 := hx.cell_at 6 rfl; have x7 := hx.cell_at 7 rfl; have x8 := hx.cell_at 8 rfl; have x9 := hx.cell_at 9 rfl; have x10 := hx.cell_at 10 rfl; clear hx hW; go_simp; first | done | rfl)) (fun W hW => KS.out W hW) ?_; simp only [Act.put, List.setIfInBounds_toArray, List.set_cons_zero, List.set_cons_succ]) | (refine mix_call _ _ _ (by rfl) (fun W hW => by (have hx := HBX.out W hW; have x0 := hx.cell_at 0 rfl; have x1 := hx.cell_at 1 rfl; have x2 := hx.cell_at 2 rfl; have x3 := hx.cell_at 3 rfl; have x4 := hx.cell_at 4 rfl; have x5 := hx.cell_at 5 rfl; have x6 := hx.cell_at 6 rfl; have x7 := hx.cell_at 7 rfl; have x8 := hx.cell_at 8 rfl; have x9 := hx.cell_at 9 rfl; have x10 := hx.cell_at 10 rfl; clear hx hW; go_simp; first | done | rfl)) (fun W hW => KZ1.out W hW) ?_; simp only [Act.put, List.setIfInBounds_toArray, List.set_cons_zero, List.set_cons_succ]) | (refine mix_call _ _ _ (by rfl) (fun W hW => by (have hx := HBX.out W hW; have x0 := hx.cell_at 0 rfl; have x1 := hx.cell_at 1 rfl; have x2 := hx.cell_at 2 rfl; have x3 := hx.cell_at 3 rfl; have x4 := hx.cell_at 4 rfl; have x5 := hx.cell_at 5 rfl; have x6 := hx.cell_at 6 rfl; have x7 := hx.cell_at 7 rfl; have x8 := hx.cell_at 8 rfl; have x9 := hx.cell_at 9 rfl; have x10 := hx.cell_at 10 rfl; clear hx hW; go_simp; first | done | rfl)) (fun W hW => KZ0.out W hW) ?_; simp only [Act.put, List.setIfInBounds_toArray, List.set_cons_zero, List.set_cons_succ]) | (refine mix_call _ _ _ (by rfl) (fun W hW => by (have hx := HBX.out W hW; have x0 := hx.cell_at 0 rfl; have x1 := hx.cell_at 1 rfl; have x2 := hx.cell_at 2 rfl; have x3 := hx.cell_at 3 rfl; have x4 := hx.cell_at 4 rfl; have x5 := hx.cell_at 5 rfl; have x6 := hx.cell_at 6 rfl; have x7 := hx.cell_at 7 rfl; have x8 := hx.cell_at 8 rfl; have x9 := hx.cell_at 9 rfl; have x10 := hx.cell_at 10 rfl; clear hx hW; go_simp; first | done | rfl)) (fun W hW => KM.out W) ?_; simp only [Act.put, List.setIfInBounds_toArray, List.set_cons_zero, List.set_cons_succ]))
  refine mix_make (fun g => .slice (some ⟨g, 0, none⟩) 11 11) w8.heap.size 5 (List.replicate 11 (.int .u8 0)) ⟨Closed.below w8, fun _ h => h⟩ (fun _ h => h.size) (by rfl) (fun W hW => by (have hmk : (Instr.makeSlice 30 (.int .i64 11) (.int .i64 11)).run Tryz.prog W = .ok (.slice (some ⟨W.heap.size, 0, none⟩) 11 11) (W.alloc (.cells #[.int .u8 0, .int .u8 0, .int .u8 0, .int .u8 0, .int .u8 0, .int .u8 0, .int .u8 0, .int .u8 0, .int .u8 0, .int .u8 0, .int .u8 0] 5)) := make_u8 11 (by decide) W; go_simp; first | done | with_reducible rfl | rfl)) (fun g hg => ?_)
  simp only [Act.put, List.setIfInBounds_toArray, List.set_cons_zero, List.set_cons_succ]
  refine mix_ask 13 #[.slice A zs.length c, .slice (some ⟨g, 0, none⟩) 11 11] (.bool true) ⟨(Closed.below w8).and (Closed.whole _ _ _), fun _ h => h.1⟩ (by rfl) (fun W hW => by (go_simp; first | done | rfl)) (fun W hW => by
    have hz : Hands W (some ⟨g, 0, none⟩) (List.replicate 11 0) := ⟨hW.2.row hW.2.lt, fun z hz => by rw [List.eq_of_mem_replicate hz]; exact ⟨by decide, by decide⟩⟩
    have hk := same8_any A (some ⟨g, 0, none⟩) c 11 zs (List.replicate 11 0) W (HH3.out.on (HD.out W hW.1)) hz
    have hs : sameB zs (List.replicate 11 0) = true := by unfold sameB; exact decide_eq_true HZ11.out
    rw [hs] at hk
    exact hk) ?_
  simp only [Act.put, List.setIfInBounds_toArray, List.set_cons_zero, List.set_cons_succ]
  repeat (first | (refine mix_skip (by rfl) ?_; simp only [Act.put, List.setIfInBounds_toArray, List.set_cons_zero, List.set_cons_succ]) | (refine mix_read _ (by rfl) (fun W hW => by (have hx := HBX.out W hW; have x0 := hx.cell_at 0 rfl; have x1 := hx.cell_at 1 rfl; have x2 := hx.cell_at 2 rfl; have x3 := hx.cell_at 3 rfl; have x4 := hx.cell_at 4 rfl; have x5 := hx.cell_at 5 rfl; have x6 := hx.cell_at 6 rfl; have x7 := hx.cell_at 7 rfl; have x8 := hx.cell_at 8 rfl; have x9 := hx.cell_at 9 rfl; have x10 := hx.cell_at 10 rfl; clear hx hW; go_simp; first | done | with_reducible rfl)) ?_; simp only [Act.put, List.setIfInBounds_toArray, List.set_cons_zero, List.set_cons_succ]) | (refine mix_call _ _ _ (by rfl) (fun W hW => by (have hx := HBX.out W hW; have x0 := hx.cell_at 0 rfl; have x1 := hx.cell_at 1 rfl; have x2 := hx.cell_at 2 rfl; have x3 := hx.cell_at 3 rfl; have x4 := hx.cell_at 4 rfl; have x5 := hx.cell_at 5 rfl; have x6 := hx.cell_at 6 rfl; have x7 := hx.cell_at 7 rfl; have x8 := hx.cell_at 8 rfl; have x9 := hx.cell_at 9 rfl; have x10 := hx.cell_at 10 rfl; clear hx hW; go_simp; first | done | rfl)) (fun W hW => KE.out W) ?_; simp only [Act.put, List.setIfInBounds_toArray, List.set_cons_zero, List.set_cons_succ]) | (refine mix_call _ _ _ (by rfl) (fun W hW => by (have hx := HBX.out W hW; have x0 := hx.cell_at 0 rfl; have x1 := hx.cell_at 1 rfl; have x2 := hx.cell_at 2 rfl; have x3 := hx.cell_at 3 rfl; have x4 := hx.cell_at 4 rfl; have x5 := hx.cell_at 5 rfl; have x6 := hx.cell_at 6 rfl; have x7 := hx.cell_at 7 rfl; have x8 := hx.cell_at 8 rfl; have x9 := hx.cell_at 9 rfl; have x10 := hx.cell_at 10 rfl; clear hx hW; go_simp; first | done | rfl)) (fun W hW => KS.out W hW) ?_; simp only [Act.put, List.setIfInBounds_toArray, List.set_cons_zero, List.set_cons_succ]) | (refine mix_call _ _ _ (by rfl) (fun W hW => by (have hx := HBX.out W hW; have x0 := hx.cell_at 0 rfl; have x1 := hx.cell_at 1 rfl; have x2 := hx.cell_at 2 rfl; have x3 := hx.cell_at 3 rfl; have x4 := hx.cell_at 4 rfl; have x5 := hx.cell_at 5 rfl; have x6 := hx.cell_at 6 rfl; have x7 := hx.cell_at 7 rfl; have x8 := hx.cell_at 8 rfl; have x9 := hx.cell_at 9 rfl; have x10 := hx.cell_at 10 rfl; clear hx hW; go_simp; first | done | rfl)) (fun W hW => KZ1.out W hW) ?_; simp only [Act.put, List.setIfInBounds_toArray, List.set_cons_zero, List.set_cons_succ]) | (refine mix_call _ _ _ (by rfl) (fun W hW => by (have hx := HBX.out W hW; have x0 := hx.cell_at 0 rfl; have x1 := hx.cell_at 1 rfl; have x2 := hx.cell_at 2 rfl; have x3 := hx.cell_at 3 rfl; have x4 := hx.cell_at 4 rfl; have x5 := hx.cell_at 5 rfl; have x6 := hx.cell_at 6 rfl; have x7 := hx.cell_at 7 rfl; have x8 := hx.cell_at 8 rfl; have x9 := hx.cell_at 9 rfl; have x10 := hx.cell_at 10 rfl; clear hx hW; go_simp; first | done | rfl)) (fun W hW => KZ0.out W hW) ?_; simp only [Act.put, List.setIfInBounds_toArray, List.set_cons_zero, List.set_cons_succ]) | (refine mix_call _ _ _ (by rfl) (fun W hW => by (have hx := HBX.out W hW; have x0 := hx.cell_at 0 rfl; have x1 := hx.cell_at 1 rfl; have x2 := hx.cell_at 2 rfl; have x3 := hx.cell_at 3 rfl; have x4 := hx.cell_at 4 rfl; have x5 := hx.cell_at 5 rfl; have x6 := hx.cell_at 6 rfl; have x7 := hx.cell_at 7 rfl; have x8 := hx.cell_at 8 rfl; have x9 := hx.cell_at 9 rfl; have x10 := hx.cell_at 10 rfl; clear hx hW; go_simp; first | done | rfl)) (fun W hW => KM.out W) ?_; simp only [Act.put, List.setIfInBounds_toArray, List.set_cons_zero, List.set_cons_succ]))
  refine mix_nil (fun W hW => ?_)
  have hbw : Below w.heap.size w W := HBW8.out.trans (hW.1.mono HBW8.out.size)
  clear hW
  go_wp2_with fail
  go_ret
  exact ⟨rfl, hbw⟩
end Go.Proofs.YtegflmaobmibnaaGreatDoor
