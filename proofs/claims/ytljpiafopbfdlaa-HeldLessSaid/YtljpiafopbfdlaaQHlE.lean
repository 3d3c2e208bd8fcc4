/- Package held: Has, Wants. -/
import Derived.RangeFuncNested
import Derived.RangeFuncBound
import Derived.RangeFuncCalls
import Derived.RangeFuncLeaves
import Derived.RangeFuncBox
import Derived.Shelf.Abstract
import Derived.Shelf.RegionOpen
import Derived.WalkKit
import Derived.OwnWalkIn
import Derived.TacticsInMore
import Derived.LoopNIn
import Derived.LoopIn
import Derived.WalkMore
import Derived.Deep.CutRange
import Derived.Test.YtljpiafopbfdlaaQHlD
namespace Go.Proofs.Ytljpiafopbfdlaa
open Go.Maps Go.RowKit Go.Shelf
set_option linter.unusedVariables false
set_option linter.unusedSimpArgs false
attribute [local go_sem] Oper.semAt_some
/-- What a round of Has knows. -/
structure HsI (w : World) (xs : List Int) (s : Int) (j : Nat) (W : World) : Prop where
  below : Below w.heap.size w W
  size : w.heap.size + 1 + 1 + 1 + 1 ≤ W.heap.size
  sb : Whole W (w.heap.size + 1) 3 [.int .i64 s]
  rb : Whole W (w.heap.size + 1 + 1) 4 [.bool false]
  no : NoneUp (fun x => s == x) xs j
theorem HsI.safe (w : World) (xs : List Int) (s : Int) : Safe (w.heap.size + 1 + 1 + 1 + 1) (fun (_ : Nat → Prop) => HsI w xs s) := by
  rintro U j W W' ⟨h1, h2, h3, h4, h5⟩ ht
  exact ⟨Safe.below (β := Unit) (B := w.heap.size + 1 + 1 + 1 + 1) (by omega) (Nat.le_refl _) U () W W' h1 ht, Nat.le_trans h2 ht.size, ht.whole h3 (.inl (by omega)), ht.whole h4 (.inl (by omega)), h5⟩
theorem mem_any {xs : List Int} {s : Int} : decide (s ∈ xs) = xs.any (fun x => s == x) := by
  rw [Bool.eq_iff_iff, decide_eq_true_eq, List.any_eq_true]
  exact ⟨fun h => ⟨s, h, by simp⟩, fun ⟨x, hx, e⟩ => by rw [beq_iff_eq] at e; exact e ▸ hx⟩
set_option maxRecDepth 100000 in
set_option maxHeartbeats 32000000 in
theorem Has_any {h : Hld} (s : Int) {w : World} (hl : HLies h w) {r : Bool} (hr : decide (s ∈ h.secs) = r) : Calls Try.prog 13 #[h.val, .int .i64 s] w fun e w' => e = .returned (.bool r) ∧ Below w.heap.size w w' := by
  have HL := Lib.hid hl
  obtain ⟨xs, hxs⟩ : ∃ xs, h.secs = xs := ⟨_, rfl⟩
  have HXS := Lib.hid hxs
  have HR : Hid (xs.any (fun x => s == x) = r) := Lib.hid (by rw [← mem_any, ← hxs]; exact hr)
  obtain ⟨W3, hW3, hs3, hB3, b0, b1, b2⟩ : ∃ W3, ((w.alloc (.cells h.cells.toArray 28)).alloc (.cells #[.int .i64 s] 3)).alloc (.cells #[.bool false] 4) = W3 ∧ W3.heap.size = w.heap.size + 1 + 1 + 1 ∧ Below w.heap.size w W3 ∧ Whole W3 w.heap.size 28 h.cells ∧ Whole W3 (w.heap.size + 1) 3 [.int .i64 s] ∧ Whole W3 (w.heap.size + 1 + 1) 4 [.bool false] :=
    ⟨_, rfl, by simp, below3 w _ _ _, ((Whole.new w _ h.cells).alloc _).alloc _, (Whole.new_at _ _ [_] _ (by simp)).alloc _, Whole.new_at _ _ [_] _ (by simp)⟩
  have HW3 := Lib.hid hW3
  have HS3 := Lib.hid hs3
  have HB3 := Lib.hid (And.intro hB3 (And.intro b0 (And.intro b1 b2)))
  clear hl hr hxs hW3 hs3 hB3 b0 b1 b2
  refine (callsIn_wide (n := 5)).1 ?_
  refine callsIn_of_wp_marks Try.func13 rfl trivial ?_ rfl
  simp only [Try.ntmps13, List.size_toArray, List.length_cons, List.length_nil, Nat.reduceAdd, Nat.reduceSub, Array.replicate_succ, Array.replicate_zero, List.push_toArray, List.append_toArray, List.nil_append, List.cons_append]
  refine wpIn_wide.2 ?_
  go_upto_region 1 with (fail)
  rw [HW3.out]
  try simp only [World.size_alloc]
  apply wp_region_lit
  repeat (first | (refine wpList_skip (by rfl) ?_; simp only [Act.put, List.setIfInBounds_toArray, List.set_cons_zero, List.set_cons_succ]) | (refine wpList_read _ (by rfl) (exec_hld (by rfl) (by rfl) HB3.out.2.1) ?_; simp only [Act.put, List.setIfInBounds_toArray, List.set_cons_zero, List.set_cons_succ]) | (refine wpList_read _ (by rfl) (by (go_simp; first | done | with_reducible rfl)) ?_; simp only [Act.put, List.setIfInBounds_toArray, List.set_cons_zero, List.set_cons_succ]))
  refine wpList_callv (by rfl) (by (go_simp; first | done | rfl)) (sections_any _) (fun w4 hw4 => ?_)
  simp only [Act.put, List.setIfInBounds_toArray, List.set_cons_zero, List.set_cons_succ]
  obtain ⟨W0, hW0⟩ : ∃ W0, W3.alloc (.cells h.cells.toArray 28) = W0 := ⟨_, rfl⟩
  have hsz : W0.heap.size = w.heap.size + 1 + 1 + 1 + 1 := by rw [← hW0]; simp [HS3.out]
  have hB : Below W3.heap.size W3 W0 := by rw [← hW0]; exact below1 _ _
  have hB0 : Below w.heap.size w W0 := HB3.out.1.trans (hB.mono HB3.out.1.size)
  have b3 : Whole W0 (w.heap.size + 1 + 1 + 1) 28 h.cells := by rw [← hW0]; exact Whole.new_at _ _ h.cells _ HS3.out.symm
  have b1 := HB3.out.2.2.1.below hB HB3.out.2.2.1.lt
  have b2 := HB3.out.2.2.2.below hB HB3.out.2.2.2.lt
  rw [hW0] at hw4
  obtain rfl : W0 = w4 := hw4.symm
  rw [HS3.out]
  have hit := secs_iter (w0 := W0) (n1 := w.heap.size + 1 + 1 + 1) (n2 := w.heap.size + 1 + 1 + 1 + 1) HL.out (fun k o hk ho => (hB0.block k hk).trans ho) ⟨Nat.le_refl _, by omega⟩ b3
  rw [HXS.out] at hit
  have HSZ := Lib.hid hsz
  have HI0 : Hid (HsI w xs s 0 W0) := Lib.hid ⟨hB0, by omega, b1, b2, NoneUp.zero _ _⟩
  clear hW0 hB hB0 b3 b1 b2 HL HB3
  go_wp2_with fail
  refine (wpIn_wide (n := 5)).1 ?_
  refine range_iterU (gf := 49) rfl (enters_of Try.func49 (by kernel_rfl) rfl) hit (Keeps.refl _ _) (fun k hk => by have := HSZ.out; rcases hk with h | h <;> omega) (fun _ => rfl) (by omega)
    (fun _ => HsI w xs s)
    (fun c _ W => c = .ret ∧ (Below w.heap.size w W ∧ Whole W (w.heap.size + 1 + 1) 4 [.bool true] ∧ xs.any (fun x => s == x) = true))
    (by rw [hsz]; exact HsI.safe w xs s)
    (fun c => by
      rw [hsz]
      rintro U u W W' ⟨h1, h2, h3, h4⟩ ht
      exact ⟨h1, Safe.below (β := Unit) (B := w.heap.size + 1 + 1 + 1 + 1) (by omega) (Nat.le_refl _) U () W W' h2 ht, ht.whole h3 (.inl (by omega)), h4⟩)
    HI0.out
    (fun U j x a' W => HsI w xs s j W ∧ a' = { tmps := #[h.val, .int .i64 s, .pointer (some ⟨w.heap.size, 0, none⟩), .pointer (some ⟨w.heap.size + 1, 0, none⟩), .pointer (some ⟨w.heap.size + 1 + 1, 0, none⟩), .int .i64 x, h.val, .func (.func 49) #[] #[.pointer (some ⟨w.heap.size + 1 + 1 + 1, 0, none⟩)], .int .i64 x, undef, undef, undef], defers := [] })
    (fun j x a' => by
      rw [hsz]
      rintro U u W W' ⟨h1, h2⟩ ht
      exact ⟨HsI.safe w xs s U _ _ _ h1 ht, h2⟩)
    ?assign ?body ?done ?stop
  case assign =>
    rintro lr U j x W K hx hI hsW hU hK
    gi_wp2_with fail
    exact hK _ _ U (Grew.refl hU (Nat.le_refl _)) (Kept.below (Below.refl _ _)) ⟨hI, rfl⟩
  case body =>
    rintro lr U j x a' W hl hx ⟨hI, rfl⟩ hU
    have y0 := hI.sb.cell_at 0 rfl
    have hb : ∃ b, (s == x) = b := ⟨_, rfl⟩
    obtain ⟨b, hb⟩ := hb
    have hb2 : (x == s) = b := by rw [← hb]; exact Bool.beq_comm
    have HX := Lib.hid hx
    have HU := Lib.hid hU
    have HI := Lib.hid hI
    cases b
    · have HN : Hid (HsI w xs s (j + 1) W) := Lib.hid ⟨hI.below, hI.size, hI.sb, hI.rb, hI.no.succ hx hb⟩
      have hne : ¬ x = s := by rw [beq_eq_false_iff_ne] at hb2; exact hb2
      clear hI hx hU hb hit
      gi_wp2_with fail
      exact ⟨U, Grew.refl HU.out (Nat.le_refl _), Kept.below (Below.refl _ _), HN.out⟩
    · obtain rfl : s = x := by simpa using hb
      have HC : Hid (xs.any (fun y => s == y) = true) := Lib.hid (any_hit hx hb)
      have f0 := hI.rb.frozen 0
      have y1 := hI.rb.cell_at 0 rfl
      clear hI hx hU hb hb2 hit
      gi_wp2_with fail
      have hI := HI.out
      exact ⟨U, Grew.refl HU.out (by simp [World.setCell]), Kept.set (p := ⟨w.heap.size + 1 + 1, 0, none⟩) _ _ (fun hr => by simp at hr; omega) (.inl (by show w.heap.size + 1 + 1 < W0.heap.size; have := HSZ.out; omega)), rfl,
        hI.below.setCell (p := ⟨w.heap.size + 1 + 1, 0, none⟩) (by show w.heap.size ≤ w.heap.size + 1 + 1; omega) _, hI.rb.set 0 (.bool true), HC.out⟩
  case done =>
    rintro D U W hD hUD hI hK
    have HA : Hid (false = r) := Lib.hid (by rw [← HR.out]; exact (NoneUp.any hI.no).symm)
    have b1 := hI.rb
    have f1 := b1.frozen 0
    have y1 := b1.cell_at 0 rfl
    have HB := Lib.hid hI.below
    have hsz := HSZ.out
    have HK := Lib.hid hK
    clear hI hit hK
    go_wp2_with fail
    have hK := HK.out
    have hK2 := (Below.heap_setCell W ⟨w.heap.size + 1 + 1, 0, none⟩ (.bool false) D (by show D ≠ w.heap.size + 1 + 1; omega)).trans hK
    have e1 := ((b1.set 0 (.bool false)).putDone (o' := .deferred none) hK2).cell_at 0 rfl
    have hB2 := HB.out.setCell (p := ⟨w.heap.size + 1 + 1, 0, none⟩) (by show w.heap.size ≤ w.heap.size + 1 + 1; omega) (.bool false)
    refine ⟨by simp, .inl ⟨_, _, rfl, run_takeDeferred hK2, ?_⟩⟩
    refine ⟨.bool false, by simp [results, Try.f13, go_sem, e1], ret_bool HA.out, hB2.trans (belowK_b (w := w) (Nat.le_refl _) _ D _ _ (by omega) hK2 rfl rfl)⟩
  case stop =>
    rintro D c U W hD hUD ⟨rfl, hB, b1, hA⟩ hK
    have HA : Hid (true = r) := Lib.hid (by rw [← HR.out]; exact hA.symm)
    have hsz := HSZ.out
    clear hA
    have e1 := (b1.putDone (o' := .deferred none) hK).cell_at 0 rfl
    gi_wp2_with fail
    refine ⟨by simp, .inl ⟨_, _, rfl, run_takeDeferred hK, ?_⟩⟩
    refine ⟨.bool true, by simp [results, Try.f13, go_sem, e1], ret_bool HA.out, hB.trans (belowK_b (w := w) (Nat.le_refl _) _ D _ _ (by omega) hK rfl rfl)⟩

/-- What a round of Wants knows. -/
structure WtI (w : World) (n : Nat) (xs : List (Int × Int × Int)) (p : Int) (j : Nat) (W : World) : Prop where
  below : Below w.heap.size w W
  size : n ≤ W.heap.size
  pb : Whole W (w.heap.size + 1) 3 [.int .i64 p]
  qb : Whole W (w.heap.size + 1 + 1) 3 [.int .i64 0]
  rb : Whole W (w.heap.size + 1 + 1 + 1) 4 [.bool false]
  no : NoneUp (fun x => x.1 == p) xs j
theorem WtI.safe (w : World) (n : Nat) (hn : w.heap.size + 1 + 1 + 1 + 1 ≤ n) (xs : List (Int × Int × Int)) (p : Int) : Safe n (fun (_ : Nat → Prop) => WtI w n xs p) := by
  rintro U j W W' ⟨h1, h2, h3, h4, h5, h6⟩ ht
  exact ⟨Safe.below (β := Unit) (B := n) (by omega) (Nat.le_refl _) U () W W' h1 ht, Nat.le_trans h2 ht.size, ht.whole h3 (.inl (by omega)), ht.whole h4 (.inl (by omega)), ht.whole h5 (.inl (by omega)), h6⟩
set_option maxRecDepth 100000 in
set_option maxHeartbeats 32000000 in
theorem Wants_any {h : Hld} (p : Int) {w : World} (hl : HLies h w) {c : Int} {ok : Bool} (hr : at13 h.needs p = (c, ok)) : Calls Try.prog 15 #[h.val, .int .i64 p] w fun e w' => e = .returned (.tuple #[.int .i64 c, .bool ok]) ∧ Below w.heap.size w w' := by
  have HL := Lib.hid hl
  obtain ⟨xs, hxs⟩ : ∃ xs, h.needs = xs := ⟨_, rfl⟩
  have HXS := Lib.hid hxs
  have HR : Hid (at13 xs p = (c, ok)) := Lib.hid (by rw [← hxs]; exact hr)
  obtain ⟨W3, hW3, hs3, hB3, b0, b1, b2, b3⟩ : ∃ W3, (((w.alloc (.cells h.cells.toArray 28)).alloc (.cells #[.int .i64 p] 3)).alloc (.cells #[.int .i64 0] 3)).alloc (.cells #[.bool false] 4) = W3 ∧ W3.heap.size = w.heap.size + 1 + 1 + 1 + 1 ∧ Below w.heap.size w W3 ∧ Whole W3 w.heap.size 28 h.cells ∧ Whole W3 (w.heap.size + 1) 3 [.int .i64 p] ∧ Whole W3 (w.heap.size + 1 + 1) 3 [.int .i64 0] ∧ Whole W3 (w.heap.size + 1 + 1 + 1) 4 [.bool false] :=
    ⟨_, rfl, by simp, (below3 w _ _ _).alloc (by simp; omega) _, (((Whole.new w _ h.cells).alloc _).alloc _).alloc _, ((Whole.new_at _ _ [_] _ (by simp)).alloc _).alloc _, (Whole.new_at _ _ [_] _ (by simp)).alloc _, Whole.new_at _ _ [_] _ (by simp)⟩
  have HW3 := Lib.hid hW3
  have HS3 := Lib.hid hs3
  have HB3 := Lib.hid (And.intro hB3 (And.intro b0 (And.intro b1 (And.intro b2 b3))))
  clear hl hr hxs hW3 hs3 hB3 b0 b1 b2 b3
  refine (callsIn_wide (n := 5)).1 ?_
  refine callsIn_of_wp_marks Try.func15 rfl trivial ?_ rfl
  simp only [Try.ntmps15, List.size_toArray, List.length_cons, List.length_nil, Nat.reduceAdd, Nat.reduceSub, Array.replicate_succ, Array.replicate_zero, List.push_toArray, List.append_toArray, List.nil_append, List.cons_append]
  refine wpIn_wide.2 ?_
  go_upto_region 1 with (fail)
  rw [HW3.out]
  try simp only [World.size_alloc]
  apply wp_region_lit
  repeat (first | (refine wpList_skip (by rfl) ?_; simp only [Act.put, List.setIfInBounds_toArray, List.set_cons_zero, List.set_cons_succ]) | (refine wpList_read _ (by rfl) (exec_hld (by rfl) (by rfl) HB3.out.2.1) ?_; simp only [Act.put, List.setIfInBounds_toArray, List.set_cons_zero, List.set_cons_succ]) | (refine wpList_read _ (by rfl) (by (go_simp; first | done | with_reducible rfl)) ?_; simp only [Act.put, List.setIfInBounds_toArray, List.set_cons_zero, List.set_cons_succ]))
  refine wpList_callx (by rfl) (by (go_simp; first | done | rfl)) (needs_any _) (fun e W0 he => ?_)
  obtain ⟨g, gf, rfl, hn, hB⟩ := he
  refine ⟨_, rfl, ?_⟩
  simp only [Act.put, List.setIfInBounds_toArray, List.set_cons_zero, List.set_cons_succ]
  have hB0 : Below w.heap.size w W0 := HB3.out.1.trans (hB.mono HB3.out.1.size)
  have b1 := HB3.out.2.2.1.below hB HB3.out.2.2.1.lt
  have b2 := HB3.out.2.2.2.1.below hB HB3.out.2.2.2.1.lt
  have b3 := HB3.out.2.2.2.2.below hB HB3.out.2.2.2.2.lt
  have hs := hB.size
  rw [HS3.out] at hn hs
  have hit := needs_iter (w0 := W0) (n1 := w.heap.size + 1 + 1 + 1 + 1) (n2 := W0.heap.size) HL.out (fun k o hk ho => (hB0.block k hk).trans ho) hn
  rw [HXS.out] at hit
  obtain ⟨n, hsz⟩ : ∃ n, W0.heap.size = n := ⟨_, rfl⟩
  rw [hsz] at hit hs
  have HSZ := Lib.hid hsz
  have HN := Lib.hid hs
  have HI0 : Hid (WtI w n xs p 0 W0) := Lib.hid ⟨hB0, by omega, b1, b2, b3, NoneUp.zero _ _⟩
  clear hB hB0 b1 b2 b3 HL HB3 hn hs
  go_wp2_with fail
  refine (wpIn_wide (n := 5)).1 ?_
  refine range_iterU (gf := 53) rfl (enters_of Try.func53 (by kernel_rfl) rfl) hit (Keeps.refl _ _) (fun k hk => by have := HSZ.out; have := HN.out; rcases hk with h | h <;> omega) (fun _ => rfl) (by omega)
    (fun _ => WtI w n xs p)
    (fun cd _ W => cd = .ret ∧ (Below w.heap.size w W ∧ Whole W (w.heap.size + 1 + 1) 3 [.int .i64 c] ∧ Whole W (w.heap.size + 1 + 1 + 1) 4 [.bool true] ∧ ok = true))
    (by rw [hsz]; exact WtI.safe w n HN.out xs p)
    (fun cd => by
      rw [hsz]
      have := HN.out
      rintro U u W W' ⟨h1, h2, h3, h4, h5⟩ ht
      exact ⟨h1, Safe.below (β := Unit) (B := n) (by omega) (Nat.le_refl _) U () W W' h2 ht, ht.whole h3 (.inl (by omega)), ht.whole h4 (.inl (by omega)), h5⟩)
    HI0.out
    (fun U j x a' W => WtI w n xs p j W ∧ ∃ gp, Whole W gp 40 (needCells x) ∧ U gp ∧ a' = { tmps := #[h.val, .int .i64 p, .pointer (some ⟨w.heap.size, 0, none⟩), .pointer (some ⟨w.heap.size + 1, 0, none⟩), .pointer (some ⟨w.heap.size + 1 + 1, 0, none⟩), .pointer (some ⟨w.heap.size + 1 + 1 + 1, 0, none⟩), .pointer (some ⟨gp, 0, none⟩), h.val, .func (.func 53) #[] #[.pointer (some ⟨g, 0, none⟩), .pointer (some ⟨gf, 0, none⟩)], stpV x.1 x.2.1 x.2.2, undef, undef, undef, undef, undef, undef], defers := [] })
    (fun j x a' => by
      rw [hsz]
      rintro U u W W' ⟨h1, gp, h2, h3, h4⟩ ht
      exact ⟨WtI.safe w n HN.out xs p U _ _ _ h1 ht, gp, ht.whole h2 (.inr h3), h3, h4⟩)
    ?assign ?body ?done ?stop
  case assign =>
    rintro lr U j x W K hx hI hsW hU hK
    have hb := below1 W (.cells (needCells x).toArray 40)
    gi_wp2_with fail
    exact hK _ _ (With U W (W.alloc (.cells (needCells x).toArray 40))) (Grew.with hU hb.size) (Kept.below hb) ⟨WtI.safe w n HN.out xs p U _ _ _ hI (Stays.below hb), W.heap.size, Whole.new W _ (needCells x), .inr ⟨Nat.le_refl _, by simp⟩, rfl⟩
  case body =>
    rintro lr U j x a' W hl hx ⟨hI, gp, hgp, hUg, rfl⟩ hU
    have p0 := hgp.cell_at 0 rfl
    have p1 := hgp.cell_at 1 rfl
    have y0 := hI.pb.cell_at 0 rfl
    obtain ⟨b, hb⟩ : ∃ b, (x.1 == p) = b := ⟨_, rfl⟩
    have HU := Lib.hid hU
    have HI := Lib.hid hI
    cases b
    · have HN : Hid (WtI w n xs p (j + 1) W) := Lib.hid ⟨hI.below, hI.size, hI.pb, hI.qb, hI.rb, hI.no.succ hx hb⟩
      have hne : ¬ x.1 = p := by rw [beq_eq_false_iff_ne] at hb; exact hb
      clear hI hx hU hit hgp
      gi_wp2_with fail
      exact ⟨U, Grew.refl HU.out (Nat.le_refl _), Kept.below (Below.refl _ _), HN.out⟩
    · have hC := at13_hit hI.no hx hb
      rw [HR.out] at hC
      obtain ⟨x1, x2, x3⟩ := x
      obtain ⟨rfl, hok⟩ : c = x2 ∧ ok = true := Prod.mk.inj hC
      have HOK := Lib.hid hok
      clear hok
      obtain rfl : x1 = p := by simpa using hb
      have f0 := hI.qb.frozen 0
      have y1 := hI.qb.cell_at 0 rfl
      have f1 := (hI.rb.far (p := ⟨w.heap.size + 1 + 1, 0, none⟩) (by show w.heap.size + 1 + 1 + 1 ≠ w.heap.size + 1 + 1; omega) (.int .i64 c)).frozen 0
      have y2 := (hI.rb.far (p := ⟨w.heap.size + 1 + 1, 0, none⟩) (by show w.heap.size + 1 + 1 + 1 ≠ w.heap.size + 1 + 1; omega) (.int .i64 c)).cell_at 0 rfl
      clear hI hx hU hb hC hit hgp
      gi_wp2_with fail
      have hI := HI.out
      have hN := HN.out
      have k1 : Kept (fun k => k < w.heap.size ∨ (w.heap.size + 1 + 1 + 1 + 1 ≤ k ∧ k < n)) n U W (W.setCell ⟨w.heap.size + 1 + 1, 0, none⟩ (.int .i64 c)) := Kept.set (p := ⟨w.heap.size + 1 + 1, 0, none⟩) _ _ (fun hr => by simp at hr; omega) (.inl (by show w.heap.size + 1 + 1 < n; omega))
      have k2 : Kept (fun k => k < w.heap.size ∨ (w.heap.size + 1 + 1 + 1 + 1 ≤ k ∧ k < n)) n U (W.setCell ⟨w.heap.size + 1 + 1, 0, none⟩ (.int .i64 c)) ((W.setCell ⟨w.heap.size + 1 + 1, 0, none⟩ (.int .i64 c)).setCell ⟨w.heap.size + 1 + 1 + 1, 0, none⟩ (.bool true)) := Kept.set (p := ⟨w.heap.size + 1 + 1 + 1, 0, none⟩) _ _ (fun hr => by simp at hr; omega) (.inl (by show w.heap.size + 1 + 1 + 1 < n; omega))
      exact ⟨U, Grew.refl HU.out (by simp [World.setCell]), k1.trans (Grew.refl HU.out (by simp [World.setCell])) k2, rfl,
        (hI.below.setCell (p := ⟨w.heap.size + 1 + 1, 0, none⟩) (by show w.heap.size ≤ w.heap.size + 1 + 1; omega) _).setCell (p := ⟨w.heap.size + 1 + 1 + 1, 0, none⟩) (by show w.heap.size ≤ w.heap.size + 1 + 1 + 1; omega) _,
        (hI.qb.set 0 (.int .i64 c)).far (p := ⟨w.heap.size + 1 + 1 + 1, 0, none⟩) (by show w.heap.size + 1 + 1 ≠ w.heap.size + 1 + 1 + 1; omega) _,
        (hI.rb.far (p := ⟨w.heap.size + 1 + 1, 0, none⟩) (by show w.heap.size + 1 + 1 + 1 ≠ w.heap.size + 1 + 1; omega) _).set 0 (.bool true), HOK.out⟩
  case done =>
    rintro D U W hD hUD hI hK
    have hM := at13_miss hI.no
    rw [HR.out] at hM
    obtain ⟨rfl, rfl⟩ := Prod.mk.inj hM
    have b1 := hI.qb
    have b2 := hI.rb
    have f1 := b1.frozen 0
    have y1 := b1.cell_at 0 rfl
    have b2' := b2.far (p := ⟨w.heap.size + 1 + 1, 0, none⟩) (by show w.heap.size + 1 + 1 + 1 ≠ w.heap.size + 1 + 1; omega) (.int .i64 0)
    have f2 := b2'.frozen 0
    have y2 := b2'.cell_at 0 rfl
    have HB := Lib.hid hI.below
    have hsz := HSZ.out
    have hN := HN.out
    have HK := Lib.hid hK
    clear hI hit hK hM b2'
    go_wp2_with fail
    have hK := HK.out
    have hK1 := (Below.heap_setCell W ⟨w.heap.size + 1 + 1, 0, none⟩ (.int .i64 0) D (by show D ≠ w.heap.size + 1 + 1; omega)).trans hK
    have hK2 := (Below.heap_setCell (W.setCell ⟨w.heap.size + 1 + 1, 0, none⟩ (.int .i64 0)) ⟨w.heap.size + 1 + 1 + 1, 0, none⟩ (.bool false) D (by show D ≠ w.heap.size + 1 + 1 + 1; omega)).trans hK1
    have e1 := (((b1.set 0 (.int .i64 0)).far (p := ⟨w.heap.size + 1 + 1 + 1, 0, none⟩) (by show w.heap.size + 1 + 1 ≠ w.heap.size + 1 + 1 + 1; omega) (.bool false)).putDone (o' := .deferred none) hK2).cell_at 0 rfl
    have e2 := (((b2.far (p := ⟨w.heap.size + 1 + 1, 0, none⟩) (by show w.heap.size + 1 + 1 + 1 ≠ w.heap.size + 1 + 1; omega) (.int .i64 0)).set 0 (.bool false)).putDone (o' := .deferred none) hK2).cell_at 0 rfl
    have hB2 := (HB.out.setCell (p := ⟨w.heap.size + 1 + 1, 0, none⟩) (by show w.heap.size ≤ w.heap.size + 1 + 1; omega) (.int .i64 0)).setCell (p := ⟨w.heap.size + 1 + 1 + 1, 0, none⟩) (by show w.heap.size ≤ w.heap.size + 1 + 1 + 1; omega) (.bool false)
    refine ⟨by simp, .inl ⟨_, _, rfl, run_takeDeferred hK2, ?_⟩⟩
    refine ⟨.tuple #[.int .i64 0, .bool false], by simp [results, Try.f15, go_sem, e1, e2], rfl, hB2.trans (belowK_b (w := w) (Nat.le_refl _) _ D _ _ (by omega) hK2 rfl rfl)⟩
  case stop =>
    rintro D cd U W hD hUD ⟨rfl, hB, b1, b2, rfl⟩ hK
    have hsz := HSZ.out
    have hN := HN.out
    have e1 := (b1.putDone (o' := .deferred none) hK).cell_at 0 rfl
    have e2 := (b2.putDone (o' := .deferred none) hK).cell_at 0 rfl
    gi_wp2_with fail
    refine ⟨by simp, .inl ⟨_, _, rfl, run_takeDeferred hK, ?_⟩⟩
    refine ⟨.tuple #[.int .i64 c, .bool true], by simp [results, Try.f15, go_sem, e1, e2], rfl, hB.trans (belowK_b (w := w) (Nat.le_refl _) _ D _ _ (by omega) hK rfl rfl)⟩

end Go.Proofs.Ytljpiafopbfdlaa
