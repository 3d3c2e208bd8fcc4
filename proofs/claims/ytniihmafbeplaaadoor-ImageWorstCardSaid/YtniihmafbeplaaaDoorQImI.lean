/- Package image: counted; Take, Pass. -/
import Derived.RangeFuncNested
import Derived.RangeFuncBound
import Derived.RangeFuncCalls
import Derived.RangeFuncLeaves
import Derived.RangeFuncBox
import Derived.Shelf.Abstract
import Derived.Shelf.RegionOpen
import Derived.WalkKit
import Derived.OwnWalkIn
import Derived.TacticsInMore
import Derived.LoopNIn
import Derived.LoopIn
import Derived.WalkMore
import Derived.Deep.CutRange
import Derived.Test.YtniihmafbeplaaaDoorQV
import Derived.Test.YtniihmafbeplaaaDoorQG
namespace Go.Proofs.YtniihmafbeplaaaDoor
open Go.RowKit Go.Shelf
set_option linter.unusedVariables false
set_option linter.unusedSimpArgs false

attribute [local go_sem] Oper.semAt_some

set_option maxRecDepth 100000 in
set_option maxHeartbeats 32000000 in
theorem counted_B {l : Lay} {im : Img} (hi : im.Wf) {w : World} (h : Fld l w) : Calls Tryd.prog 33 #[l.val, im.val] w fun e w' => e = .returned (im.cnt (clearI l im)).val ∧ Below w.heap.size w w' := by
  obtain ⟨Q, HQ, HQf, HQb, HQl, HQi, HQz, hq⟩ := keep_lib h l.cells im.cells [.int .i64 0, .int .i64 0, .int .i64 0, .int .i64 0, .int .i64 0, .int .i64 0, .int .i64 0, .int .i64 0, .int .i64 0, .int .i64 0, .int .i64 0, .int .i64 0, .int .i64 0, .int .i64 0, .int .i64 0, .int .i64 0, .int .i64 0, .int .i64 0, .int .i64 0, .int .i64 0, .int .i64 0, .int .i64 0, .int .i64 0, .int .i64 0, .int .i64 0, .int .u32 0, .int .u32 0, .int .u32 0, .int .u32 0] 29 35 35
  have KT := Lib.hid fun W (hW : Q W) => toldClear_B hi (HQf.out W hW)
  have KS := Lib.hid fun W => sect_any 24 W
  have m0 := HQl.out _ hq
  have x0 := m0.cell_at 0 rfl
  have x1 := m0.cell_at 1 rfl
  have x2 := m0.cell_at 2 rfl
  have x3 := m0.cell_at 3 rfl
  have x4 := m0.cell_at 4 rfl
  have x5 := m0.cell_at 5 rfl
  have x6 := m0.cell_at 6 rfl
  have x7 := m0.cell_at 7 rfl
  have x8 := m0.cell_at 8 rfl
  have x9 := m0.cell_at 9 rfl
  have x10 := m0.cell_at 10 rfl
  clear m0
  have hTw := h.tops
  clear h
  refine (callsIn_wide (n := 5)).1 ?_
  refine callsIn_of_wp_marks Tryd.func33 rfl trivial ?_ rfl
  simp only [Tryd.ntmps33, List.size_toArray, List.length_cons, List.length_nil, Nat.reduceAdd, Nat.reduceSub, Array.replicate_succ, Array.replicate_zero, List.push_toArray, List.append_toArray, List.nil_append, List.cons_append]
  refine wpIn_wide.2 ?_
  go_upto_region 1 with (fail)
  apply wp_region_lit
  repeat (first | (refine wpList_skip (by rfl) ?_; simp only [Act.put, List.setIfInBounds_toArray, List.set_cons_zero, List.set_cons_succ]) | (refine wpList_read _ (by rfl) (exec_img hi.len (by rfl) (by rfl) (HQi.out _ hq)) ?_; simp only [Act.put, List.setIfInBounds_toArray, List.set_cons_zero, List.set_cons_succ]) | (refine wpList_read _ (by rfl) (by (go_simp; first | done | with_reducible rfl)) ?_; simp only [Act.put, List.setIfInBounds_toArray, List.set_cons_zero, List.set_cons_succ]))
  refine wpList_calle (by rfl) (by (go_simp; first | done | rfl)) (KT.out _ hq) (fun v w1 ⟨⟨⟨ga, gb, hv, ha, hb⟩⟩, hB⟩ => ?_)
  simp only [Act.put, List.setIfInBounds_toArray, List.set_cons_zero, List.set_cons_succ]
  subst hv
  have hq := HQ.out _ _ hq hB
  have HA := Lib.hid ha
  have HBb := Lib.hid hb
  clear x0 x1 x2 x3 x4 x5 x6 x7 x8 x9 x10 hB ha hb KT
  go_wp2_with fail
  refine (KS.out _).mono ?_
  rintro e w2 ⟨rfl, rfl⟩
  go_wp2_with fail
  obtain ⟨k1, hk1⟩ : ∃ k, w1.heap.size = k := ⟨_, rfl⟩
  obtain ⟨W0, hW0⟩ : ∃ W0, (w1.alloc (.cells #[.func (.func 52) #[] #[.pointer (some ⟨ga, 0, none⟩), .pointer (some ⟨gb, 0, none⟩)]] 69)).alloc (.cells #[.int .i64 24] 3) = W0 := ⟨_, rfl⟩
  have hsz : W0.heap.size = k1 + 2 := by rw [← hW0]; simp; omega
  have hw3 : w.heap.size + 2 < k1 := by have := (HQz.out _ hq).lt; omega
  have hq0 : Q W0 := by rw [← hW0]; exact HQ.out _ _ hq (below2 w1 _ _)
  have hfn : Whole W0 k1 69 [.func (.func 52) #[] #[.pointer (some ⟨ga, 0, none⟩), .pointer (some ⟨gb, 0, none⟩)]] := by rw [← hW0]; exact (Whole.new_at w1 _ [_] _ hk1.symm).alloc _
  have hbx : Whole W0 (k1 + 1) 3 [.int .i64 ((24 : Nat) : Int)] := by rw [← hW0]; exact Whole.new_at _ _ [_] _ (by simp; omega)
  have ha0 : Whole W0 ga 4 [.bool (staleI l im)] := by rw [← hW0]; exact (HA.out.alloc _).alloc _
  have hb0 : Whole W0 gb 31 [.int .u32 (4294967295 - im.o)] := by rw [← hW0]; exact (HBb.out.alloc _).alloc _
  have hla : ga < k1 := by have := HA.out.lt; omega
  have hlb : gb < k1 := by have := HBb.out.lt; omega
  obtain ⟨gi, hgi⟩ : ∃ k, w.heap.size + 1 = k := ⟨_, rfl⟩
  obtain ⟨gr, hgr⟩ : ∃ k, gi + 1 = k := ⟨_, rfl⟩
  have hI0 := HQi.out _ hq0
  have hR0 := HQz.out _ hq0
  have hB0 := HQb.out _ hq0
  have HT0 : Hid (∀ W, Below w.heap.size w W → Tops W) := Lib.hid fun W hW => hTw.below hW
  rw [hgi] at hI0
  rw [hgi, hgr] at hR0
  have hna : ga ≠ gi := by
    rintro rfl
    have h1 : W0.heap[ga]? = _ := ha0
    have h2 : W0.heap[ga]? = _ := hI0
    rw [h1] at h2
    simp at h2
  have hnb : gb ≠ gi := by
    rintro rfl
    have h1 : W0.heap[gb]? = _ := hb0
    have h2 : W0.heap[gb]? = _ := hI0
    rw [h1] at h2
    simp at h2
  rw [hW0, hk1, hgi, hgr]
  have hit := sect_iter (n0 := w.heap.size) (n := 24) hbx (by decide)
  clear hW0 hbx hq HA HBb HQz
  refine (wpIn_wide (n := 5)).1 ?_
  refine range_iter (gf := 44) rfl (enters_of Tryd.func44 (by kernel_rfl) rfl) hit (Keeps.refl _ _) (fun k hk => by rcases hk with hk | hk <;> omega) (fun _ => rfl) (by omega)
    (fun k => k = gi) (fun k hk => by rintro (h | h) <;> omega) (fun k hk => by omega)
    (fun j W => (Whole W gi 35 (im.mid (clearI l im) j).cells ∧ Whole W gr 35 [.int .i64 0, .int .i64 0, .int .i64 0, .int .i64 0, .int .i64 0, .int .i64 0, .int .i64 0, .int .i64 0, .int .i64 0, .int .i64 0, .int .i64 0, .int .i64 0, .int .i64 0, .int .i64 0, .int .i64 0, .int .i64 0, .int .i64 0, .int .i64 0, .int .i64 0, .int .i64 0, .int .i64 0, .int .i64 0, .int .i64 0, .int .i64 0, .int .i64 0, .int .u32 0, .int .u32 0, .int .u32 0, .int .u32 0]) ∧ (Whole W k1 69 [.func (.func 52) #[] #[.pointer (some ⟨ga, 0, none⟩), .pointer (some ⟨gb, 0, none⟩)]] ∧ (Whole W ga 4 [.bool (staleI l im)] ∧ Whole W gb 31 [.int .u32 (4294967295 - im.o)])) ∧ Below w.heap.size w W)
    (fun cd W => False)
    (OwnFrom.and (OwnFrom.and (Own.from (fun s X Y row hs hg hr => hs.abides hg hr) _) (Own.from (fun s X Y row hs hg hr => hs.abides hg hr) _)) (OwnFrom.and (OwnFrom.and (Own.from (fun s X Y row hs hg hr => hs.abides hg hr) _) (OwnFrom.and (Own.from (fun s X Y row hs hg hr => hs.abides hg hr) _) (Own.from (fun s X Y row hs hg hr => hs.abides hg hr) _))) (ownFrom_below (Nat.le_refl _) (by omega))))
    (fun cd => fun s W W' row hs hg hr => hs.elim)
    ⟨⟨by rw [Img.mid_zero]; exact hI0, hR0⟩, ⟨hfn, ha0, hb0⟩, hB0⟩
    (fun _ x a' W => a' = { tmps := #[l.val, im.val, .pointer (some ⟨w.heap.size, 0, none⟩), .pointer (some ⟨gi, 0, none⟩), .pointer (some ⟨gr, 0, none⟩), .pointer (some ⟨k1, 0, none⟩), .int .i64 (x : Nat), l.val, im.val, .func (.func 52) #[] #[.pointer (some ⟨ga, 0, none⟩), .pointer (some ⟨gb, 0, none⟩)], .func (.func 44) #[] #[.pointer (some ⟨k1 + 1, 0, none⟩)], .int .i64 (x : Nat), undef, undef, undef, undef, undef, undef, undef, undef, undef, undef, undef, undef], defers := [] })
    (fun _ x a' => ownFrom_pure _ _)
    ?assign ?body ?done ?stop
  case assign =>
    rintro lr j x W K hx hI hK
    gi_wp2_with fail
    exact hK _ _ (Off.refl _ _) hI rfl
  case body =>
    rintro lr j x a' Wb hl hx ⟨⟨hI1, hI2⟩, ⟨hI3, hI4, hI5⟩, hI6⟩ rfl
    have hj : j < 24 := by have := (List.getElem?_eq_some_iff.1 hx).1; simpa using this
    obtain rfl : x = j := by rw [range_nth hj] at hx; exact (Option.some.inj hx).symm
    obtain ⟨y, hy⟩ : ∃ y, im.free[x]? = some y := ⟨_, List.getElem?_eq_getElem (by rw [hi.len]; exact hj)⟩
    obtain ⟨b, hb⟩ : ∃ b, clearI l im x = b := ⟨_, rfl⟩
    obtain ⟨v, hv⟩ : ∃ v, rowTk b y = v := ⟨_, rfl⟩
    have HY := Lib.hid ((im.mid (clearI l im) x).c_free (Img.mid_at hi.len _ hy))
    have HNX : Hid ((im.mid (clearI l im) x).cells.set (1 + x) (.int .i64 v) = (im.mid (clearI l im) (x + 1)).cells) := Lib.hid (by
      rw [Img.put_cells _ _ _ (Img.mid_len hi.len _ (by omega)) hj, ← Img.mid_next hi.len _ hy, hb, hv])
    have HTP : Hid (∀ W, Below Wb.heap.size Wb W → Tops W) := Lib.hid fun W hW => HT0.out W (hI6.trans (hW.mono hI6.size))
    have HF : Hid (∀ W, Below Wb.heap.size Wb W → W.cell? ⟨gi, 1 + x, none⟩ = some (.int .i64 y) ∧ W.frozen? ⟨gi, 1 + x, none⟩ = false) := Lib.hid fun W hW => ⟨(hI1.below hW hI1.lt).cell_at _ HY.out, (hI1.below hW hI1.lt).frozen _⟩
    have H0 : Hid ((0 : Int) ≤ (x : Int)) := Lib.hid (by omega)
    have H1 : Hid ((x : Int) < 24) := Lib.hid (by omega)
    obtain ⟨B, HBq, HBc⟩ : ∃ B : World → Prop, Hid (∀ W, B W → (W.cell? ⟨k1, 0, none⟩ = some (.func (.func 52) #[] #[.pointer (some ⟨ga, 0, none⟩), .pointer (some ⟨gb, 0, none⟩)]) ∧ (Whole W ga 4 [.bool (staleI l im)] ∧ Whole W gb 31 [.int .u32 (4294967295 - im.o)]) ∧ Tops W)) ∧ Hid (∀ W, Whole W k1 69 [.func (.func 52) #[] #[.pointer (some ⟨ga, 0, none⟩), .pointer (some ⟨gb, 0, none⟩)]] → Whole W ga 4 [.bool (staleI l im)] → Whole W gb 31 [.int .u32 (4294967295 - im.o)] → Tops W → B W) :=
      ⟨fun W => W.cell? ⟨k1, 0, none⟩ = some (.func (.func 52) #[] #[.pointer (some ⟨ga, 0, none⟩), .pointer (some ⟨gb, 0, none⟩)]) ∧ (Whole W ga 4 [.bool (staleI l im)] ∧ Whole W gb 31 [.int .u32 (4294967295 - im.o)]) ∧ Tops W, Lib.hid fun W h => h, Lib.hid fun W h1 h2 h3 h4 => ⟨h1.cell_at 0 rfl, ⟨h2, h3⟩, h4⟩⟩
    have KC : Hid (∀ W, B W → Calls Tryd.prog 52 #[.int .i64 (x : Nat), .pointer (some ⟨ga, 0, none⟩), .pointer (some ⟨gb, 0, none⟩)] W fun e w' => e = .returned (.bool b) ∧ Below W.heap.size W w') := Lib.hid fun W hW => (told1_any (HBq.out W hW).2.1.1 (HBq.out W hW).2.1.2 (not_range hi.o) x (by omega) ((told_clear hi (by omega)).trans hb)).mono fun e w' h => ⟨h.1, by rw [h.2]; exact Below.refl _ _⟩
    have KR : Hid (∀ W, B W → Calls Tryd.prog 47 #[.bool b, .int .i64 y] W fun e w' => e = .returned (.int .i64 v) ∧ Below W.heap.size W w') := Lib.hid fun W hW => row_B b y hv (HBq.out W hW).2.2
    have HSB : Fam B (Below Wb.heap.size Wb) := ⟨Closed.below Wb, fun W hW => HBc.out W (hI3.below hW hI3.lt) (hI4.below hW hI4.lt) (hI5.below hW hI5.lt) (HTP.out W hW)⟩
    obtain ⟨S2, HS2, HF2, HQ2⟩ : ∃ S2 : World → Prop, Hid (∀ X, Below Wb.heap.size Wb X → S2 (X.setCell ⟨gi, 1 + x, none⟩ (.int .i64 v))) ∧ Fam B S2 ∧ Hid (∀ W, S2 W → (Off (fun k => k = gi) Wb W ∧ ((Whole W gi 35 (im.mid (clearI l im) (x + 1)).cells ∧ Whole W gr 35 [.int .i64 0, .int .i64 0, .int .i64 0, .int .i64 0, .int .i64 0, .int .i64 0, .int .i64 0, .int .i64 0, .int .i64 0, .int .i64 0, .int .i64 0, .int .i64 0, .int .i64 0, .int .i64 0, .int .i64 0, .int .i64 0, .int .i64 0, .int .i64 0, .int .i64 0, .int .i64 0, .int .i64 0, .int .i64 0, .int .i64 0, .int .i64 0, .int .i64 0, .int .u32 0, .int .u32 0, .int .u32 0, .int .u32 0]) ∧ (Whole W k1 69 [.func (.func 52) #[] #[.pointer (some ⟨ga, 0, none⟩), .pointer (some ⟨gb, 0, none⟩)]] ∧ (Whole W ga 4 [.bool (staleI l im)] ∧ Whole W gb 31 [.int .u32 (4294967295 - im.o)])) ∧ Below w.heap.size w W))) := by
      refine ⟨fun W => Off (fun k => k = gi) Wb W ∧ ((Whole W gi 35 (im.mid (clearI l im) (x + 1)).cells ∧ Whole W gr 35 [.int .i64 0, .int .i64 0, .int .i64 0, .int .i64 0, .int .i64 0, .int .i64 0, .int .i64 0, .int .i64 0, .int .i64 0, .int .i64 0, .int .i64 0, .int .i64 0, .int .i64 0, .int .i64 0, .int .i64 0, .int .i64 0, .int .i64 0, .int .i64 0, .int .i64 0, .int .i64 0, .int .i64 0, .int .i64 0, .int .i64 0, .int .i64 0, .int .i64 0, .int .u32 0, .int .u32 0, .int .u32 0, .int .u32 0]) ∧ (Whole W k1 69 [.func (.func 52) #[] #[.pointer (some ⟨ga, 0, none⟩), .pointer (some ⟨gb, 0, none⟩)]] ∧ (Whole W ga 4 [.bool (staleI l im)] ∧ Whole W gb 31 [.int .u32 (4294967295 - im.o)])) ∧ Below w.heap.size w W), Lib.hid fun X hBX => ?_, ⟨fun W W' h hb => ⟨h.1.trans (Off.below hb), ⟨h.2.1.1.below hb h.2.1.1.lt, h.2.1.2.below hb h.2.1.2.lt⟩, ⟨h.2.2.1.1.below hb h.2.2.1.1.lt, h.2.2.1.2.1.below hb h.2.2.1.2.1.lt, h.2.2.1.2.2.below hb h.2.2.1.2.2.lt⟩, h.2.2.2.trans (hb.mono h.2.2.2.size)⟩, fun W h => HBc.out W h.2.2.1.1 h.2.2.1.2.1 h.2.2.1.2.2 (HT0.out W h.2.2.2)⟩, Lib.hid fun W h => h⟩
      refine ⟨(Off.below hBX).trans (Off.set X (p := ⟨gi, 1 + x, none⟩) _ rfl), ⟨?_, (hI2.below hBX hI2.lt).far (by show gr ≠ gi; omega) _⟩, ⟨(hI3.below hBX hI3.lt).far (by show k1 ≠ gi; omega) _, (hI4.below hBX hI4.lt).far hna _, (hI5.below hBX hI5.lt).far hnb _⟩, (hI6.trans (hBX.mono hI6.size)).setCell (by show w.heap.size ≤ gi; omega) _⟩
      have := (hI1.below hBX hI1.lt).set (1 + x) (.int .i64 v)
      rw [HNX.out] at this
      exact this
    clear hx hy hb hv hI1 hI2 hI3 hI4 hI5 hI6 hfn ha0 hb0 hI0 hR0 hB0 hq0 hit hTw
    gi_wp2_with fail
    refine region_mixR lr 3 B [(0, false), (1, false), (2, false), (4, false), (5, false), (6, false), (9, false), (3, false), (7, true), (8, false), (10, false), (11, true)] (by kernel_rfl) (by kernel_rfl) (by kernel_rfl) (fun h => by obtain ⟨_, _, h⟩ := h; exact h) (Below Wb.heap.size Wb) HSB (Below.refl _ _).drew ?_
    simp only [pickOps, List.getElem?_cons_zero, List.getElem?_cons_succ]
    repeat (first | (refine mix_read _ (by rfl) (fun W hW => by (have c0 := (HBq.out W hW).1; have d0 := H0.out; have d1 := H1.out; go_simp; first | done | with_reducible rfl)) ?_; simp only [Act.put, List.setIfInBounds_toArray, List.set_cons_zero, List.set_cons_succ]) | (refine mix_call _ _ _ (by rfl) (fun W hW => by (have c0 := (HBq.out W hW).1; have d0 := H0.out; have d1 := H1.out; go_simp; first | done | rfl)) (fun W hW => KC.out W hW) ?_; simp only [Act.put, List.setIfInBounds_toArray, List.set_cons_zero, List.set_cons_succ]))
    refine mix_look (.int .i64 y) HSB (by rfl) (fun W hW => by (obtain ⟨c1, f1⟩ := HF.out W hW; have d0 := H0.out; have d1 := H1.out; go_simp; first | done | with_reducible rfl)) ?_
    simp only [Act.put, List.setIfInBounds_toArray, List.set_cons_zero, List.set_cons_succ]
    refine mix_call _ _ _ (by rfl) (fun W hW => by (have c0 := (HBq.out W hW).1; have d0 := H0.out; have d1 := H1.out; go_simp; first | done | rfl)) (fun W hW => KR.out W hW) ?_
    simp only [Act.put, List.setIfInBounds_toArray, List.set_cons_zero, List.set_cons_succ]
    repeat (first | (refine mix_read _ (by rfl) (fun W hW => by (have c0 := (HBq.out W hW).1; have d0 := H0.out; have d1 := H1.out; go_simp; first | done | with_reducible rfl)) ?_; simp only [Act.put, List.setIfInBounds_toArray, List.set_cons_zero, List.set_cons_succ]))
    refine mix_store S2 (fun X => X.setCell ⟨gi, 1 + x, none⟩ (.int .i64 v)) HF2 (by rfl) (fun W hW => by (obtain ⟨c1, f1⟩ := HF.out W hW; have d0 := H0.out; have d1 := H1.out; go_simp; first | done | rfl)) (fun W hW => HS2.out W hW) ?_
    simp only [Act.put, List.setIfInBounds_toArray, List.set_cons_zero, List.set_cons_succ]
    exact mix_nil (fun X hX => HQ2.out X hX)
  case done =>
    rintro D W hD ⟨⟨hI1, hI2⟩, ⟨hI3, hI4, hI5⟩, hI6⟩ hK
    rw [List.length_range, Img.mid_all hi.len] at hI1
    have hcl := (Img.cnt_wf hi (clearI l im)).len
    clear hI3 hI4 hI5 hfn ha0 hb0 hI0 hR0 hB0 hq0 hit
    go_upto_region 5 with (fail)
    apply wp_region_lit
    repeat (first | (refine wpList_skip (by rfl) ?_; simp only [Act.put, List.setIfInBounds_toArray, List.set_cons_zero, List.set_cons_succ]) | (refine wpList_read _ (by rfl) (exec_img hcl (by rfl) (by rfl) hI1) ?_; simp only [Act.put, List.setIfInBounds_toArray, List.set_cons_zero, List.set_cons_succ]) | (refine wpList_read _ (by rfl) (by (go_simp; first | done | with_reducible rfl)) ?_; simp only [Act.put, List.setIfInBounds_toArray, List.set_cons_zero, List.set_cons_succ]))
    refine wpList_fill _ _ _ rfl rfl (by rfl) (by rfl) hI2 (by rw [Img.size _ hcl]; rfl) (by rw [Img.size _ hcl]; exact img_info) (Img.one _) (fun W2 hR2 hB2 hO2 => ?_)
    simp only [Act.put, List.setIfInBounds_toArray, List.set_cons_zero, List.set_cons_succ]
    have HB2 := Lib.hid (hI6.trans (hB2 _ (by omega)))
    have hK2 : W2.heap[D]? = some (.deferred (some [])) := (hO2 D (by omega)).trans hK
    clear hB2 hI6 hO2 hI2 hI1 hK
    go_wp2_with fail
    refine ⟨by simp, .inl ⟨_, _, rfl, run_takeDeferred hK2, ?_⟩⟩
    exact ⟨_, results_cell_row (p := 4) rfl _ _ gr _ _ (0, 0) _ rfl (hR2.putDone hK2) Tryd.underlying35 rfl (by rw [List.size_toArray, Img.size _ hcl]; exact img_info), rfl, HB2.out.trans (belowK_b (w := w) (Nat.le_refl _) W2 D _ _ (by omega) hK2 rfl rfl)⟩
  case stop =>
    rintro D cc W hD h hK
    exact h.elim

end Go.Proofs.YtniihmafbeplaaaDoor
