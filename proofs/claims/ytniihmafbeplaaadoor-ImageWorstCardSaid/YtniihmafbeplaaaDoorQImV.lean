/- Package image: Mask. -/
import Derived.RangeFuncNested
import Derived.RangeFuncBound
import Derived.RangeFuncCalls
import Derived.RangeFuncLeaves
import Derived.RangeFuncBox
import Derived.Shelf.Abstract
import Derived.Shelf.RegionOpen
import Derived.WalkKit
import Derived.OwnWalkIn
import Derived.TacticsInMore
import Derived.LoopNIn
import Derived.LoopIn
import Derived.WalkMore
import Derived.Deep.CutRange
import Derived.Test.YtniihmafbeplaaaDoorQImM
import Derived.Test.YtniihmafbeplaaaDoorQY
import Derived.Test.YtniihmafbeplaaaDoorQG
namespace Go.Proofs.YtniihmafbeplaaaDoor
open Go.RowKit Go.Shelf
set_option linter.unusedVariables false
set_option linter.unusedSimpArgs false

attribute [local go_sem] Oper.semAt_some

set_option maxRecDepth 100000 in
set_option maxHeartbeats 32000000 in
theorem Mask_B {l : Lay} {im : Img} (hi : im.Wf) {w : World} (h : Fld l w) {r : Nat} (hr : maskI l im = r) : Calls Tryd.prog 28 #[l.val, im.val] w fun e w' => e = .returned (.int .u32 (r : Nat)) ∧ Below w.heap.size w w' := by
  subst hr
  obtain ⟨Q, HQ, HQf, HQb, HQl, HQi, HQz, hq⟩ := keep_lib h l.cells im.cells [.int .u32 0] 29 35 31
  have KO := Lib.hid fun W (hW : Q W) => occupied_F hi (HQf.out W hW)
  have KC := Lib.hid fun W => counts_B (l := l) (w := W)
  have KS := Lib.hid fun W => sect_any (cntI l : Nat) W
  have HC24 := Lib.hid (cnt_le l)
  have HT0 : Hid (∀ W, Below w.heap.size w W → Fld l W) := Lib.hid fun W hW => h.on hW
  clear h
  refine (callsIn_wide (n := 5)).1 ?_
  refine callsIn_of_wp_marks Tryd.func28 rfl trivial ?_ rfl
  simp only [Tryd.ntmps28, List.size_toArray, List.length_cons, List.length_nil, Nat.reduceAdd, Nat.reduceSub, Array.replicate_succ, Array.replicate_zero, List.push_toArray, List.append_toArray, List.nil_append, List.cons_append]
  refine wpIn_wide.2 ?_
  go_upto_region 2 with (fail)
  have hz0 : (HQz.out _ hq).lt = (HQz.out _ hq).lt := rfl
  have m0 := HQl.out _ hq
  have x0 := m0.cell_at 0 rfl
  have x1 := m0.cell_at 1 rfl
  have x2 := m0.cell_at 2 rfl
  have x3 := m0.cell_at 3 rfl
  have x4 := m0.cell_at 4 rfl
  have x5 := m0.cell_at 5 rfl
  have x6 := m0.cell_at 6 rfl
  have x7 := m0.cell_at 7 rfl
  have x8 := m0.cell_at 8 rfl
  have x9 := m0.cell_at 9 rfl
  have x10 := m0.cell_at 10 rfl
  clear m0
  apply wp_region_lit
  repeat (first | (refine wpList_skip (by rfl) ?_; simp only [Act.put, List.setIfInBounds_toArray, List.set_cons_zero, List.set_cons_succ]) | (refine wpList_read _ (by rfl) (exec_img hi.len (by rfl) (by rfl) (HQi.out _ hq)) ?_; simp only [Act.put, List.setIfInBounds_toArray, List.set_cons_zero, List.set_cons_succ]) | (refine wpList_read _ (by rfl) (by (go_simp; first | done | with_reducible rfl)) ?_; simp only [Act.put, List.setIfInBounds_toArray, List.set_cons_zero, List.set_cons_succ]))
  refine wpList_calle (by rfl) (by (go_simp; first | done | rfl)) (KO.out _ hq) (fun v w1 ⟨⟨oa, of, oi, vt, hv, ⟨ha, hf, hI⟩, ⟨la, lf, li⟩, ⟨ga, gb, hvt, ⟨hga, hgb⟩, lga, lgb⟩⟩, hB⟩ => ?_)
  simp only [Act.put, List.setIfInBounds_toArray, List.set_cons_zero, List.set_cons_succ]
  subst hv
  subst hvt
  have hlow : w.heap.size + 3 ≤ w1.heap.size := by have := hB.size; simp at this; omega
  simp only [World.size_alloc] at la lf li lga lgb
  have hq := HQ.out _ _ hq hB
  have HBox := Lib.hid (And.intro ha (And.intro hf (And.intro hI (And.intro hga hgb))))
  clear x0 x1 x2 x3 x4 x5 x6 x7 x8 x9 x10 hB ha hf hI hga hgb KO hz0
  go_upto_region 3 with (fail)
  obtain ⟨k1, hk1⟩ : ∃ k, w1.heap.size = k := ⟨_, rfl⟩
  obtain ⟨W1, hW1⟩ : ∃ W1, w1.alloc (.cells #[.func (.func 51) #[] #[.pointer (some ⟨oa, 0, none⟩), .pointer (some ⟨of, 0, none⟩), .pointer (some ⟨oi, 0, none⟩)]] 69) = W1 := ⟨_, rfl⟩
  have hs1 : W1.heap.size = k1 + 1 := by rw [← hW1]; simp; omega
  have hfo : Whole W1 k1 69 [.func (.func 51) #[] #[.pointer (some ⟨oa, 0, none⟩), .pointer (some ⟨of, 0, none⟩), .pointer (some ⟨oi, 0, none⟩)]] := by rw [← hW1]; exact Whole.new_at w1 _ [_] _ hk1.symm
  have hbox : (Whole W1 oa 29 l.cells ∧ Whole W1 of 69 [.func (.func 52) #[] #[.pointer (some ⟨ga, 0, none⟩), .pointer (some ⟨gb, 0, none⟩)]] ∧ Whole W1 oi 35 im.cells ∧ Whole W1 ga 4 [.bool (staleI l im)] ∧ Whole W1 gb 31 [.int .u32 (4294967295 - im.o)]) := by
    rw [← hW1]
    exact ⟨HBox.out.1.alloc _, HBox.out.2.1.alloc _, HBox.out.2.2.1.alloc _, HBox.out.2.2.2.1.alloc _, HBox.out.2.2.2.2.alloc _⟩
  have hla : oa < k1 ∧ of < k1 ∧ oi < k1 ∧ ga < k1 ∧ gb < k1 := ⟨by have := HBox.out.1.lt; omega, by have := HBox.out.2.1.lt; omega, by have := HBox.out.2.2.1.lt; omega, by have := HBox.out.2.2.2.1.lt; omega, by have := HBox.out.2.2.2.2.lt; omega⟩
  have hq1 : Q W1 := by rw [← hW1]; exact HQ.out _ _ hq (below1 w1 _)
  rw [hW1, hk1]
  clear hW1 HBox hq
  have m0 := HQl.out _ hq1
  have x0 := m0.cell_at 0 rfl
  have x1 := m0.cell_at 1 rfl
  have x2 := m0.cell_at 2 rfl
  have x3 := m0.cell_at 3 rfl
  have x4 := m0.cell_at 4 rfl
  have x5 := m0.cell_at 5 rfl
  have x6 := m0.cell_at 6 rfl
  have x7 := m0.cell_at 7 rfl
  have x8 := m0.cell_at 8 rfl
  have x9 := m0.cell_at 9 rfl
  have x10 := m0.cell_at 10 rfl
  clear m0
  go_wp2_with fail
  refine (KC.out _).mono ?_
  clear x0 x1 x2 x3 x4 x5 x6 x7 x8 x9 x10
  rintro e W2 ⟨rfl, hB2⟩
  have hq2 := HQ.out _ _ hq1 hB2
  have hfo := hfo.below hB2 hfo.lt
  obtain ⟨b1, b2, b3, b4, b5⟩ := hbox
  have b1 := b1.below hB2 b1.lt
  have b2 := b2.below hB2 b2.lt
  have b3 := b3.below hB2 b3.lt
  have b4 := b4.below hB2 b4.lt
  have b5 := b5.below hB2 b5.lt
  have hs2 := hB2.size
  clear hq1 hB2
  go_wp2_with fail
  refine (KS.out _).mono ?_
  rintro e W3 ⟨rfl, rfl⟩
  go_wp2_with fail
  obtain ⟨k2, hk2⟩ : ∃ k, W2.heap.size = k := ⟨_, rfl⟩
  obtain ⟨W0, hW0⟩ : ∃ W0, W2.alloc (.cells #[.int .i64 (cntI l : Nat)] 3) = W0 := ⟨_, rfl⟩
  have hsz : W0.heap.size = k2 + 1 := by rw [← hW0]; simp; omega
  have hq0 : Q W0 := by rw [← hW0]; exact HQ.out _ _ hq2 (below1 W2 _)
  have hfo0 : Whole W0 k1 69 [.func (.func 51) #[] #[.pointer (some ⟨oa, 0, none⟩), .pointer (some ⟨of, 0, none⟩), .pointer (some ⟨oi, 0, none⟩)]] := by rw [← hW0]; exact hfo.alloc _
  have hbx : Whole W0 k2 3 [.int .i64 ((cntI l : Nat) : Int)] := by rw [← hW0]; exact Whole.new_at _ _ [_] _ hk2.symm
  have c1 : Whole W0 oa 29 l.cells := by rw [← hW0]; exact b1.alloc _
  have c2 : Whole W0 of 69 [.func (.func 52) #[] #[.pointer (some ⟨ga, 0, none⟩), .pointer (some ⟨gb, 0, none⟩)]] := by rw [← hW0]; exact b2.alloc _
  have c3 : Whole W0 oi 35 im.cells := by rw [← hW0]; exact b3.alloc _
  have c4 : Whole W0 ga 4 [.bool (staleI l im)] := by rw [← hW0]; exact b4.alloc _
  have c5 : Whole W0 gb 31 [.int .u32 (4294967295 - im.o)] := by rw [← hW0]; exact b5.alloc _
  obtain ⟨gm, hgm⟩ : ∃ k, w.heap.size + 1 + 1 = k := ⟨_, rfl⟩
  have hm0 := HQz.out _ hq0
  have hB0 := HQb.out _ hq0
  rw [hgm] at hm0
  rw [hW0, hk2, hgm]
  have hit := sect_iter (n0 := w.heap.size) (n := cntI l) hbx (by have := HC24.out; omega)
  clear hW0 hbx hfo b1 b2 b3 b4 b5 hq2 HQz
  refine (wpIn_wide (n := 5)).1 ?_
  refine range_iter (gf := 44) rfl (enters_of Tryd.func44 (by kernel_rfl) rfl) hit (Keeps.refl _ _) (fun k hk => by rcases hk with hk | hk <;> omega) (fun _ => rfl) (by omega)
    (fun k => k = gm) (fun k hk => by rintro (h | h) <;> omega) (fun k hk => by omega)
    (fun j W => Whole W gm 31 [.int .u32 (maskJ (occN l im) j : Nat)] ∧ (Whole W k1 69 [.func (.func 51) #[] #[.pointer (some ⟨oa, 0, none⟩), .pointer (some ⟨of, 0, none⟩), .pointer (some ⟨oi, 0, none⟩)]] ∧ ((Whole W oa 29 l.cells ∧ Whole W of 69 [.func (.func 52) #[] #[.pointer (some ⟨ga, 0, none⟩), .pointer (some ⟨gb, 0, none⟩)]]) ∧ (Whole W oi 35 im.cells ∧ (Whole W ga 4 [.bool (staleI l im)] ∧ Whole W gb 31 [.int .u32 (4294967295 - im.o)])))) ∧ Below w.heap.size w W)
    (fun cd W => False)
    (OwnFrom.and (Own.from (fun s X Y row hs hg hr => hs.abides hg hr) _) (OwnFrom.and (OwnFrom.and (Own.from (fun s X Y row hs hg hr => hs.abides hg hr) _) (OwnFrom.and (OwnFrom.and (Own.from (fun s X Y row hs hg hr => hs.abides hg hr) _) (Own.from (fun s X Y row hs hg hr => hs.abides hg hr) _)) (OwnFrom.and (Own.from (fun s X Y row hs hg hr => hs.abides hg hr) _) (OwnFrom.and (Own.from (fun s X Y row hs hg hr => hs.abides hg hr) _) (Own.from (fun s X Y row hs hg hr => hs.abides hg hr) _))))) (ownFrom_below (Nat.le_refl _) (by omega))))
    (fun cd => fun s W W' row hs hg hr => hs.elim)
    ⟨hm0, ⟨hfo0, ⟨c1, c2⟩, c3, c4, c5⟩, hB0⟩
    (fun _ x a' W => a' = { tmps := #[l.val, im.val, .pointer (some ⟨w.heap.size, 0, none⟩), .pointer (some ⟨w.heap.size + 1, 0, none⟩), .int .u32 0, .pointer (some ⟨gm, 0, none⟩), .pointer (some ⟨k1, 0, none⟩), .int .i64 (x : Nat), l.val, im.val, .func (.func 51) #[] #[.pointer (some ⟨oa, 0, none⟩), .pointer (some ⟨of, 0, none⟩), .pointer (some ⟨oi, 0, none⟩)], l.val, .int .i64 (cntI l : Nat), .func (.func 44) #[] #[.pointer (some ⟨k2, 0, none⟩)], .int .i64 (x : Nat), undef, undef, undef, undef, undef, undef, undef, undef], defers := [] })
    (fun _ x a' => ownFrom_pure _ _)
    ?assign ?body ?done ?stop
  case assign =>
    rintro lr j x W K hx hI hK
    gi_wp2_with fail
    exact hK _ _ (Off.refl _ _) hI rfl
  case body =>
    rintro lr j x a' Wb hl hx ⟨hI1, ⟨hI2, ⟨hI3, hI4⟩, hI5, hI6, hI7⟩, hI8⟩ rfl
    have hj : j < cntI l := by have := (List.getElem?_eq_some_iff.1 hx).1; simpa using this
    obtain rfl : x = j := by rw [range_nth hj] at hx; exact (Option.some.inj hx).symm
    have h24 := HC24.out
    obtain ⟨b, hb⟩ : ∃ b, occN l im x = b := ⟨_, rfl⟩
    obtain ⟨m', HM'⟩ : ∃ m', Hid (maskJ (occN l im) (x + 1) = m') := ⟨_, Lib.hid rfl⟩
    have HN : Hid (m' = maskJ (occN l im) x + if b then 2 ^ x else 0) := Lib.hid (by rw [← HM'.out, ← hb]; rfl)
    have HOR := Lib.hid (or_mask (maskJ_lt (occN l im) x) (show x < 24 by omega))
    have KK := Lib.hid (occ1_any hi hI3 hI4 hI5 ⟨⟨ga, gb, rfl, hI6, hI7⟩⟩ (x : Nat) hb)
    have cF := hI2.cell_at 0 rfl
    generalize maskJ (occN l im) x = m at *
    have H0 : Hid ((0 : Int) ≤ (x : Int)) := Lib.hid (by omega)
    have H3 : Hid ((x : Int) ≤ 32) := Lib.hid (by omega)
    have HBox := Lib.hid (And.intro hI1 (And.intro (And.intro hI2 (And.intro (And.intro hI3 hI4) (And.intro hI5 (And.intro hI6 hI7)))) hI8))
    clear hx hb hI1 hI2 hI3 hI4 hI5 hI6 hI7 hI8 hfo0 c1 c2 c3 c4 c5 hm0 hB0 hq0 hit h24
    gi_wp2_with fail
    refine ⟨trivial, (CallsIn.inRound _ (callsIn_wide.2 KK.out)).mono ?_⟩
    clear cF KK
    rintro e X ⟨rfl, hBX⟩
    obtain ⟨hI1, ⟨hI2, ⟨hI3, hI4⟩, hI5, hI6, hI7⟩, hI8⟩ := HBox.out
    have hJ1 := hI1.below hBX hI1.lt
    have hJ2 := hI2.below hBX hI2.lt
    have hJ3 := hI3.below hBX hI3.lt
    have hJ4 := hI4.below hBX hI4.lt
    have hJ5 := hI5.below hBX hI5.lt
    have hJ6 := hI6.below hBX hI6.lt
    have hJ7 := hI7.below hBX hI7.lt
    have hJ8 := hI8.trans (hBX.mono hI8.size)
    have HOFF : Hid (Off (fun k => k = gm) Wb X) := Lib.hid (Off.below hBX)
    clear hI1 hI2 hI3 hI4 hI5 hI6 hI7 hI8 HBox hBX
    cases b
    · have HE : Hid (m' = m) := Lib.hid (by rw [HN.out]; rfl)
      have HALL : Hid (Off (fun k => k = gm) Wb X ∧ (Whole X gm 31 [.int .u32 (maskJ (occN l im) (x + 1) : Nat)] ∧ (Whole X k1 69 [.func (.func 51) #[] #[.pointer (some ⟨oa, 0, none⟩), .pointer (some ⟨of, 0, none⟩), .pointer (some ⟨oi, 0, none⟩)]] ∧ ((Whole X oa 29 l.cells ∧ Whole X of 69 [.func (.func 52) #[] #[.pointer (some ⟨ga, 0, none⟩), .pointer (some ⟨gb, 0, none⟩)]]) ∧ (Whole X oi 35 im.cells ∧ (Whole X ga 4 [.bool (staleI l im)] ∧ Whole X gb 31 [.int .u32 (4294967295 - im.o)])))) ∧ Below w.heap.size w X)) := Lib.hid ⟨HOFF.out, by rw [HM'.out, HE.out]; exact hJ1, ⟨hJ2, ⟨hJ3, hJ4⟩, hJ5, hJ6, hJ7⟩, hJ8⟩
      clear hJ1 hJ2 hJ3 hJ4 hJ5 hJ6 hJ7 hJ8
      gi_wp2_with fail
      exact HALL.out
    · have HE : Hid (m' = m + 2 ^ x) := Lib.hid (by rw [HN.out]; rfl)
      obtain ⟨S2, HS2, HF2, HQ2⟩ : ∃ S2 : World → Prop, Hid (∀ Y, Below X.heap.size X Y → S2 (Y.setCell ⟨gm, 0, none⟩ (.int .u32 (m' : Nat)))) ∧ Closed S2 ∧ Hid (∀ Y, S2 Y → (Off (fun k => k = gm) Wb Y ∧ (Whole Y gm 31 [.int .u32 (maskJ (occN l im) (x + 1) : Nat)] ∧ (Whole Y k1 69 [.func (.func 51) #[] #[.pointer (some ⟨oa, 0, none⟩), .pointer (some ⟨of, 0, none⟩), .pointer (some ⟨oi, 0, none⟩)]] ∧ ((Whole Y oa 29 l.cells ∧ Whole Y of 69 [.func (.func 52) #[] #[.pointer (some ⟨ga, 0, none⟩), .pointer (some ⟨gb, 0, none⟩)]]) ∧ (Whole Y oi 35 im.cells ∧ (Whole Y ga 4 [.bool (staleI l im)] ∧ Whole Y gb 31 [.int .u32 (4294967295 - im.o)])))) ∧ Below w.heap.size w Y))) := by
        refine ⟨fun Y => (Off (fun k => k = gm) Wb Y ∧ (Whole Y gm 31 [.int .u32 (maskJ (occN l im) (x + 1) : Nat)] ∧ (Whole Y k1 69 [.func (.func 51) #[] #[.pointer (some ⟨oa, 0, none⟩), .pointer (some ⟨of, 0, none⟩), .pointer (some ⟨oi, 0, none⟩)]] ∧ ((Whole Y oa 29 l.cells ∧ Whole Y of 69 [.func (.func 52) #[] #[.pointer (some ⟨ga, 0, none⟩), .pointer (some ⟨gb, 0, none⟩)]]) ∧ (Whole Y oi 35 im.cells ∧ (Whole Y ga 4 [.bool (staleI l im)] ∧ Whole Y gb 31 [.int .u32 (4294967295 - im.o)])))) ∧ Below w.heap.size w Y)), Lib.hid fun Y hBY => ?_, ?_, Lib.hid fun Y h => h⟩
        · exact ⟨(HOFF.out.trans (Off.below hBY)).trans (Off.set Y (p := ⟨gm, 0, none⟩) _ rfl), by rw [HM'.out]; exact (hJ1.below hBY hJ1.lt).set 0 _, ⟨(hJ2.below hBY hJ2.lt).far (by show k1 ≠ gm; omega) _, ⟨(hJ3.below hBY hJ3.lt).far (by show oa ≠ gm; omega) _, (hJ4.below hBY hJ4.lt).far (by show of ≠ gm; omega) _⟩, (hJ5.below hBY hJ5.lt).far (by show oi ≠ gm; omega) _, (hJ6.below hBY hJ6.lt).far (by show ga ≠ gm; omega) _, (hJ7.below hBY hJ7.lt).far (by show gb ≠ gm; omega) _⟩, (hJ8.trans (hBY.mono hJ8.size)).setCell (by show w.heap.size ≤ gm; omega) _⟩
        · exact fun Y Z h hb => ⟨h.1.trans (Off.below hb), h.2.1.below hb h.2.1.lt, ⟨h.2.2.1.1.below hb h.2.2.1.1.lt, ⟨h.2.2.1.2.1.1.below hb h.2.2.1.2.1.1.lt, h.2.2.1.2.1.2.below hb h.2.2.1.2.1.2.lt⟩, h.2.2.1.2.2.1.below hb h.2.2.1.2.2.1.lt, h.2.2.1.2.2.2.1.below hb h.2.2.1.2.2.2.1.lt, h.2.2.1.2.2.2.2.below hb h.2.2.1.2.2.2.2.lt⟩, h.2.2.2.trans (hb.mono h.2.2.2.size)⟩
      have HCM : Hid (∀ Y, Below X.heap.size X Y → Y.cell? ⟨gm, 0, none⟩ = some (.int .u32 (m : Nat)) ∧ Y.frozen? ⟨gm, 0, none⟩ = false) := Lib.hid fun Y hBY => ⟨(hJ1.below hBY hJ1.lt).cell_at 0 rfl, (hJ1.below hBY hJ1.lt).frozen 0⟩
      have HOE : Hid (bits BinOp.or IntKind.u32 (m : Int) ((2 : Int) ^ x % 4294967296) = (m' : Int)) := Lib.hid (by rw [HOR.out, HE.out])
      have HOE2 : Hid (bits BinOp.or IntKind.u32 (m : Int) (IntKind.u32.wrap ((2 : Int) ^ x)) = (m' : Int)) := Lib.hid (by rw [show IntKind.u32.wrap ((2 : Int) ^ x) = (2 : Int) ^ x % 4294967296 from rfl]; exact HOE.out)
      clear hJ1 hJ2 hJ3 hJ4 hJ5 hJ6 hJ7 hJ8
      gi_wp2_with fail
      refine region_mixR lr 3 (fun _ => True) [(1, false), (2, false), (0, true), (3, false), (4, true)] (by kernel_rfl) (by kernel_rfl) (by kernel_rfl) (fun h => by obtain ⟨_, _, h⟩ := h; exact h) (Below X.heap.size X) ⟨Closed.below X, fun _ _ => trivial⟩ (Below.refl _ _).drew ?_
      simp only [pickOps, List.getElem?_cons_zero, List.getElem?_cons_succ]
      repeat (first | (refine mix_read _ (by rfl) (fun W hW => by (have d0 := H0.out; have d3 := H3.out; go_simp; first | done | with_reducible rfl)) ?_; simp only [Act.put, List.setIfInBounds_toArray, List.set_cons_zero, List.set_cons_succ]))
      refine mix_look (.int .u32 (m : Nat)) ⟨Closed.below X, fun _ _ => trivial⟩ (by rfl) (fun W hW => by (obtain ⟨c0, f0⟩ := HCM.out W hW; go_simp; first | done | with_reducible rfl)) ?_
      simp only [Act.put, List.setIfInBounds_toArray, List.set_cons_zero, List.set_cons_succ]
      refine mix_read (.int .u32 (m' : Nat)) (by rfl) (fun W hW => by (have ho := HOE.out; have ho2 := HOE2.out; go_simp; first | done | with_reducible rfl)) ?_
      simp only [Act.put, List.setIfInBounds_toArray, List.set_cons_zero, List.set_cons_succ]
      refine mix_store S2 (fun Y => Y.setCell ⟨gm, 0, none⟩ (.int .u32 (m' : Nat))) ⟨HF2, fun _ _ => trivial⟩ (by rfl) (fun W hW => by (obtain ⟨c0, f0⟩ := HCM.out W hW; go_simp; first | done | rfl)) (fun W hW => HS2.out W hW) ?_
      simp only [Act.put, List.setIfInBounds_toArray, List.set_cons_zero, List.set_cons_succ]
      exact mix_nil (fun Y hY => HQ2.out Y hY)
  case done =>
    rintro D W hD ⟨hI1, ⟨hI2, ⟨hI3, hI4⟩, hI5, hI6, hI7⟩, hI8⟩ hK
    rw [List.length_range] at hI1
    have c0 := hI1.cell_at 0 rfl
    have HE : Hid (maskJ (occN l im) (cntI l) = maskI l im) := Lib.hid rfl
    have HB8 := Lib.hid hI8
    have HK := Lib.hid hK
    clear hI1 hI2 hI3 hI4 hI5 hI6 hI7 hI8 hfo0 c1 c2 c3 c4 c5 hm0 hB0 hq0 hit hK
    go_wp2_with fail
    refine ⟨by simp, .inl ⟨_, _, rfl, run_takeDeferred HK.out, ?_⟩⟩
    exact ⟨_, results_tmp (t := 4) rfl _ _ _, by rw [← HE.out]; rfl, HB8.out.trans (belowK_b (w := w) (Nat.le_refl _) W D _ _ (by omega) HK.out rfl rfl)⟩
  case stop =>
    rintro D cc W hD h hK
    exact h.elim

end Go.Proofs.YtniihmafbeplaaaDoor
