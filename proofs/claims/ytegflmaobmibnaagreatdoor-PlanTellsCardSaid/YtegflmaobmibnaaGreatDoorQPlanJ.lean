/- The times' numbers. -/
import Derived.Test.YtegflmaobmibnaaGreatDoorQPlanM
import Derived.Test.YtegflmaobmibnaaGreatDoorQIterUs
import Derived.Test.YtegflmaobmibnaaGreatDoorQIterV
namespace Go.Proofs.YtegflmaobmibnaaGreatDoor
set_option maxRecDepth 100000
open Go.RowKit Go.Shelf
set_option linter.unusedVariables false
set_option linter.unusedSimpArgs false
attribute [local go_sem] Oper.semAt_some

theorem Off.under {S : Nat → Prop} {A B w : World} {n : Nat} (h : Off S A B) (hb : Below n w A) (hS : ∀ k, S k → n ≤ k) (hn : n ≤ w.heap.size) : Below n w B :=
  ⟨h.same.1.trans hb.os, h.same.2.1.trans hb.tape, h.same.2.2.trans hb.output, Nat.le_trans hb.size h.size, fun i hi => by
    have h1 := hb.block i hi
    obtain ⟨o, ho⟩ : ∃ o, w.heap[i]? = some o := ⟨_, Array.getElem?_eq_getElem (by omega)⟩
    rw [ho] at h1 ⊢
    exact h.rest i o h1 (fun e => by have := hS i e; omega)⟩
theorem Off.grown {S : Nat → Prop} {A B C : World} (h : Off S A B) {r : Option Nat} (hg : B.grownBy C r) (hr : ∀ k, r = some k → S k ∨ A.heap.size ≤ k) : Off S A C :=
  ⟨h.same.trans ⟨hg.os, hg.tape, hg.output⟩, Nat.le_trans h.size hg.size, fun k o ho hs => by
    have h1 := h.rest k o ho hs
    refine (hg.block k (Array.getElem?_eq_some_iff.1 h1).1 (fun e => ?_)).trans h1
    rcases hr k e.symm with h2 | h2
    · exact hs h2
    · have := (Array.getElem?_eq_some_iff.1 ho).1; omega⟩
/-- Of the times a row is laid, of the loop's own blocks. -/
structure TimeS (w : World) (n0 : Nat) (cs : List Value) (ps : List (Int × Nat)) (U : Nat → Prop) (W : World) : Prop where
  below : Below w.heap.size w W
  box : Whole W w.heap.size 27 cs
  mine : ∀ k, U k → n0 ≤ k
  big : n0 ≤ W.heap.size
  row : ∃ A c, Whole W (w.heap.size + 1) 63 [.slice A ps.length c] ∧ W.ownsRow n0 56 2 (.slice A ps.length c) ps.length (ps.flatMap numCells) ∧ ∀ g, (Value.slice A ps.length c).ownBlock = some g → U g
theorem TimeS.safe {w : World} {n0 : Nat} {cs : List Value} {ps : List (Int × Nat)} (hn : w.heap.size + 2 ≤ n0) {U : Nat → Prop} {W W' : World} (h : TimeS w n0 cs ps U W) (ht : Stays n0 U W W') : TimeS w n0 cs ps U W' := by
  obtain ⟨A, c, h1, h2, h3⟩ := h.row
  refine ⟨(Safe.below (β := Unit) (by omega) (Nat.le_refl _)) U () W W' h.below ht, ht.whole h.box (.inl (by omega)), h.mine, Nat.le_trans h.big ht.size, A, c, ht.whole h1 (.inl (by omega)), ?_, h3⟩
  refine ⟨h2.1, ?_⟩
  rcases h2.2 with h4 | ⟨g, cap, cur, hv, h5, h6, r⟩
  · exact .inl h4
  · exact .inr ⟨g, cap, cur, hv, h5, ht.rest g _ h6 (.inr (h3 g (by rw [hv]; rfl))), r⟩
theorem append_block (base : Nat) (ps qs : List (Int × Nat)) (A A' : Option Addr) (c c' B : Nat) (W : World) (hown : W.ownsRow base 56 2 (.slice A ps.length c) ps.length (ps.flatMap numCells)) (hr : Row W B A' (qs.flatMap numCells)) (hA : A' ≠ none) (hn : ps.length ≤ 1000) (hl : qs.length ≤ 1000) (hbase : base ≤ W.heap.size) :
    ∃ A2 c2 w', (Builtin.append_ #[63, 63] 63 #[.slice A ps.length c, .slice A' qs.length c']).run Tryz.prog W = .ok (.slice A2 (ps.length + qs.length) c2) w' ∧ w'.ownsRow base 56 2 (.slice A2 (ps.length + qs.length) c2) (ps.length + qs.length) ((ps ++ qs).flatMap numCells) ∧ W.grownBy w' (Value.slice A ps.length c).ownBlock ∧
      ((Value.slice A2 (ps.length + qs.length) c2).ownBlock = (Value.slice A ps.length c).ownBlock ∨ (Value.slice A2 (ps.length + qs.length) c2).ownBlock = some W.heap.size) := by
  obtain ⟨i, i1, i2, i3, i4⟩ := info_parts infoNumber
  cases A' with
  | none => exact absurd rfl hA
  | some a =>
    have hb : (ps.length + qs.length) * 16 ≤ 2000 * 100 := Nat.mul_le_mul (by omega) (by omega)
    obtain ⟨v', w', r1, r2, r3, r4, r5⟩ := run_append_own_at (P := Tryz.prog) W base 63 63 56 i (.agg #[.int .i64 0, .int .i64 0]) 2 16 Tryz.underlying63 i1 i2 i3 i4 rfl (by omega) (.slice A ps.length c) ps.length _ hown a qs.length c' (qs.flatMap numCells) (flat2 qs) (row_add hr) (fun u hu => by
      obtain ⟨x, _, hx⟩ := List.mem_flatMap.1 hu
      exact oneNumber x u hx) (by unfold maxLen; omega) (by omega) hbase
    obtain ⟨A2, c2, rfl, _⟩ := owns_read r2
    refine ⟨A2, c2, w', r1, ?_, r3, r5⟩
    rw [List.flatMap_append]
    exact r2
theorem times_len : ∀ l : List Int, (l.flatMap numsTime).length = l.length
  | [] => rfl
  | a :: l => by rw [List.flatMap_cons, List.length_append, times_len l]; simp [numsTime]; omega
abbrev timeVs (ts : List Int) : List Value := ts.map fun t => .int .i64 t
set_option maxHeartbeats 16000000 in
theorem ofTimes_any (a0 a1 a2 a3 a4 a5 a6 : Int) (w : World) (hr : ∀ t ∈ [a0, a1, a2, a3, a4, a5, a6], 1 ≤ t ∧ t ≤ 1000) :
    Calls Tryz.prog 69 #[.agg #[.int .i64 a0, .int .i64 a1, .int .i64 a2, .int .i64 a3, .int .i64 a4, .int .i64 a5, .int .i64 a6]] w fun e w' => Nums w.heap.size ([a0, a1, a2, a3, a4, a5, a6].flatMap numsTime) e w' ∧ Below w.heap.size w w' := by
  refine (callsIn_wide (n := 9)).1 ?_
  refine callsIn_of_wp_marks Tryz.func69 rfl trivial ?_ rfl
  simp only [Tryz.ntmps69, List.size_toArray, List.length_cons, List.length_nil, Nat.reduceAdd, Nat.reduceSub, Array.replicate_succ, Array.replicate_zero, List.push_toArray, List.append_toArray, List.nil_append, List.cons_append]
  gi_wp2_with fail
  refine ⟨trivial, callsIn_wide.2 ((times8_any w.heap.size 0 _).mono ?_)⟩
  rintro e w1 ⟨rfl, rfl⟩
  gi_wp2_with fail
  obtain ⟨ts, HTS⟩ : ∃ ts : List Int, Hid ([a0, a1, a2, a3, a4, a5, a6] = ts) := ⟨_, Lib.hid rfl⟩
  obtain ⟨w1, hw1⟩ : ∃ W, (((w.alloc (.cells #[.int .i64 a0, .int .i64 a1, .int .i64 a2, .int .i64 a3, .int .i64 a4, .int .i64 a5, .int .i64 a6] 27)).alloc (.cells #[.slice none 0 0] 63)).alloc (.cells #[.pointer (some ⟨w.heap.size, 0, none⟩)] 152)) = W := ⟨_, rfl⟩
  have HSZ : Hid (w1.heap.size = w.heap.size + 3) := Lib.hid (by rw [← hw1]; simp)
  have hD : Whole w1 (w.heap.size + 2) 152 [.pointer (some ⟨w.heap.size, 0, none⟩)] := by rw [← hw1]; exact Whole.new_at _ _ [_] _ (by simp)
  have h0 : TimeS w w1.heap.size (timeVs ts) [] (fun _ => False) w1 := by
    rw [HSZ.out, ← hw1, ← HTS.out]
    exact ⟨below3 w _ _ _, ((Whole.new w _ (timeVs [a0, a1, a2, a3, a4, a5, a6])).alloc _).alloc _, fun k hk => hk.elim, by simp, none, 0, (Whole.new_at _ _ [_] _ (by simp)).alloc _, World.ownsRow_nil _ _ _ _, fun g hg => by cases hg⟩
  rw [hw1]
  try simp only [World.size_alloc]
  clear hw1
  rw [HTS.out] at hr
  have HLN : Hid (ts.length = 7) := Lib.hid (by rw [← HTS.out]; rfl)
  have HR := Lib.hid hr
  clear hr
  refine range_iterUs (asg := ?asg) (R := fun k => k = w.heap.size + 2) (w0 := w1) (gf := 125) (xs := List.range 7) rfl (enters_of Tryz.func125 (by kernel_rfl) rfl) (times_iterU hD) (Keeps.refl _ _) (fun k hk => by have := HSZ.out; omega) (fun _ => rfl) (by omega)
    (fun U j W => TimeS w w1.heap.size (timeVs ts) ((ts.take j).flatMap numsTime) U W) (fun _ _ _ => False)
    (fun U j W W' h ht => h.safe (by have := HSZ.out; omega) ht) (fun _ _ _ _ _ h _ => h) h0 ?assign ?body ?done ?stop
  case assign =>
    rintro L j x W K hK
    gi_wp2_with fail
    exact hK
  case body =>
    rintro L U j x W hl hx hi hu
    have hj7 : j < 7 := by have := (List.getElem?_eq_some_iff.1 hx).1; simpa using this
    rw [List.getElem?_range hj7] at hx
    obtain rfl : j = x := Option.some.inj hx
    obtain ⟨t, htj⟩ : ∃ t, ts[j]? = some t := ⟨_, List.getElem?_eq_getElem (by have := HLN.out; omega)⟩
    obtain ⟨ht0, ht1⟩ := HR.out t (List.mem_of_getElem? htj)
    have hwt : IntKind.i64.wrap (t - 1) = t - 1 := wrap_id _ (by omega) (by omega)
    obtain ⟨ps, HPS⟩ : ∃ ps, Hid ((ts.take j).flatMap numsTime = ps) := ⟨_, Lib.hid rfl⟩
    rw [HPS.out] at hi
    obtain ⟨A, c, hr1, hr2, hr3⟩ := hi.row
    have HI := Lib.hid hi
    have HN0 : Hid (0 + j = j) := Lib.hid (by omega)
    have HLP : Hid (ps.length = j) := Lib.hid (by rw [← HPS.out, times_len, List.length_take, HLN.out]; omega)
    have HBX : Hid (∀ W', Below W.heap.size W W' → W'.cell? ⟨w.heap.size, 0 + j, none⟩ = some (.int .i64 t)) := Lib.hid (fun W' hW => by
      have hb := (hi.box.below hW hi.box.lt).cell_at j (v := .int .i64 t) (by show (ts.map _)[j]? = _; rw [List.getElem?_map, htj]; rfl)
      rw [Nat.zero_add]; exact hb)
    have HBR : Hid (∀ W', Below W.heap.size W W' → W'.cell? ⟨w.heap.size + 1, 0, none⟩ = some (.slice A ps.length c)) := Lib.hid (fun W' hW => (hr1.below hW hr1.lt).cell_at 0 rfl)
    have HRW := Lib.hid (And.intro hr1 (And.intro hr2 hr3))
    clear hi hr1 hr2 hr3
    gi_wp2_with fail
    refine region_mixtR L 3 (fun W' => W'.cell? ⟨w.heap.size, 0 + j, none⟩ = some (.int .i64 t) ∧ W'.cell? ⟨w.heap.size + 1, 0, none⟩ = some (.slice A ps.length c)) [(0, false), (1, false), (2, false), (3, false), (4, false), (5, false), (6, true), (7, true)] 1 8 (by kernel_rfl) (by kernel_rfl) (fun h => by obtain ⟨_, _, h⟩ := h; exact h) rfl (by kernel_rfl) (Below W.heap.size W) ⟨Closed.below W, fun W' hW => ⟨HBX.out W' hW, HBR.out W' hW⟩⟩ (Below.refl _ _).drew ?_
    simp only [pickOps, List.getElem?_cons_zero, List.getElem?_cons_succ]
    repeat (first | (refine mix_skip (by rfl) ?_; simp only [Act.put, List.setIfInBounds_toArray, List.set_cons_zero, List.set_cons_succ]) | (refine mix_read _ (by rfl) (fun W' hW => by (obtain ⟨y0, y1⟩ := hW; have y2 := y0; rw [HN0.out] at y2; go_simp; first | done | with_reducible rfl)) ?_; simp only [Act.put, List.setIfInBounds_toArray, List.set_cons_zero, List.set_cons_succ]))
    refine mix_make (fun g => .slice (some ⟨g, 0, none⟩) 1 1) W.heap.size 56 [.int .i64 (t - 1), .int .i64 10] ⟨Closed.below W, fun W' hW => ⟨HBX.out W' hW, HBR.out W' hW⟩⟩ (fun _ h => h.size) (by rfl) (fun W' hW => by (go_simp; first | done | with_reducible rfl)) (fun g hg => ?_)
    simp only [Act.put, List.setIfInBounds_toArray, List.set_cons_zero, List.set_cons_succ]
    refine mix_yield (X := Option Addr × Nat) (fun B => .slice B.1 (ps.length + 1) B.2) (fun B X => Off U W X ∧ X.ownsRow w1.heap.size 56 2 (.slice B.1 (ps.length + 1) B.2) (ps.length + 1) ((ps ++ [(t - 1, 10)]).flatMap numCells) ∧ (∀ g, (Value.slice B.1 (ps.length + 1) B.2).ownBlock = some g → U g ∨ W.heap.size ≤ g) ∧ (X.cell? ⟨w.heap.size, 0 + j, none⟩ = some (.int .i64 t) ∧ X.cell? ⟨w.heap.size + 1, 0, none⟩ = some (.slice A ps.length c))) (fun B => ⟨fun X Y h hb => ⟨h.1.trans (Off.below hb), owns_keep h.2.1 hb, h.2.2.1, (hb.cell (World.block_lt_of_cell? _ _ h.2.2.2.1)).trans h.2.2.2.1, (hb.cell (World.block_lt_of_cell? _ _ h.2.2.2.2)).trans h.2.2.2.2⟩, fun X h => h.2.2.2⟩) (by rfl) (fun X hX => ?_) (fun B => ?_)
    · obtain ⟨hb, hg0⟩ := hX
      have hown := owns_keep HRW.out.2.1 hb
      obtain ⟨A', c', w', h1, h2, h3, h4⟩ := append_block w1.heap.size ps [(t - 1, 10)] A (some ⟨g, 0, none⟩) c 1 (g + 1) X hown (hg0.row (by omega)) (by simp) (by have := HLP.out; omega) (show 1 ≤ 1000 by decide) (Nat.le_trans HI.out.big hb.size)
      have hb2 : Below w1.heap.size X w' := (Below.refl _ X).grown h3 (Nat.le_trans HI.out.big hb.size) (fun k e => (hown.lt k e).1)
      have hsz := HSZ.out
      refine ⟨(A', c'), w', exec_append (.tmp 7) (.tmp 13) 63 rfl h1, (Off.below hb).grown h3 (fun k e => .inl (HRW.out.2.2 k e)), h2, fun g e => ?_, (hb2.cell (p := ⟨w.heap.size, 0 + j, none⟩) (by show w.heap.size < _; omega)).trans (HBX.out X hb), (hb2.cell (p := ⟨w.heap.size + 1, 0, none⟩) (by show w.heap.size + 1 < _; omega)).trans (HBR.out X hb)⟩
      rcases h4 with h4 | h4
      · exact .inl (HRW.out.2.2 g (h4 ▸ e))
      · have e2 := h4.symm.trans e
        cases e2
        exact .inr hb.size
    simp only [Act.put, List.setIfInBounds_toArray, List.set_cons_zero, List.set_cons_succ]
    refine mix_nil (fun X hX => ?_)
    simp only [List.drop_succ_cons, List.drop_zero]
    obtain ⟨hO, ho, hbk, y0, y1⟩ := hX
    have hsz := Lib.hid HSZ.out
    have hR1 : Whole X (w.heap.size + 1) 63 [.slice A ps.length c] := hO.whole HRW.out.1 (fun hk => by have := HI.out.mine _ hk; have := HSZ.out; omega)
    have f1 := hR1.frozen 0
    have hFin : Hid (∃ U', Grew U U' W (X.setCell ⟨w.heap.size + 1, 0, none⟩ (.slice B.1 (ps.length + 1) B.2)) ∧ Kept (fun k => k = w.heap.size + 2) w1.heap.size U W (X.setCell ⟨w.heap.size + 1, 0, none⟩ (.slice B.1 (ps.length + 1) B.2)) ∧ TimeS w w1.heap.size (timeVs ts) ((ts.take (j + 1)).flatMap numsTime) U' (X.setCell ⟨w.heap.size + 1, 0, none⟩ (.slice B.1 (ps.length + 1) B.2))) := by
      have hs := HSZ.out
      have hsx : (X.setCell ⟨w.heap.size + 1, 0, none⟩ (.slice B.1 (ps.length + 1) B.2)).heap.size = X.heap.size := by simp [World.setCell]
      have hO2 : Off (fun k => U k ∨ k = w.heap.size + 1) W (X.setCell ⟨w.heap.size + 1, 0, none⟩ (.slice B.1 (ps.length + 1) B.2)) := (hO.mono (fun k h => .inl h)).trans (Off.set X (p := ⟨w.heap.size + 1, 0, none⟩) _ (.inr rfl))
      refine Lib.hid ⟨fun k => U k ∨ (W.heap.size ≤ k ∧ k < X.heap.size), ⟨fun k hk => hk.imp id (fun h => h.1), fun k hk => ?_⟩, ⟨hO2.size, fun k o ho hk => hO2.rest k o ho ?_⟩, hO2.under HI.out.below (fun k hk => ?_) (Nat.le_refl _), ?_, fun k hk => ?_, Nat.le_trans HI.out.big hO2.size, ?_⟩
      · rw [hsx]
        rcases hk with hk | hk
        · exact Nat.lt_of_lt_of_le (hu k hk) hO.size
        · exact hk.2
      · rintro (h | h)
        · rcases hk with hk | hk
          · have := HI.out.mine k h; subst hk; omega
          · exact hk.2 h
        · rcases hk with hk | hk
          · omega
          · have := hk.1; omega
      · rcases hk with hk | hk
        · have := HI.out.mine k hk; omega
        · omega
      · exact (hO.whole HI.out.box (fun hk => by have := HI.out.mine _ hk; omega)).far (p := ⟨w.heap.size + 1, 0, none⟩) (by show w.heap.size ≠ w.heap.size + 1; omega) _
      · rcases hk with hk | hk
        · exact HI.out.mine k hk
        · have := HI.out.big; omega
      · rw [take_flat numsTime _ _ _ htj, HPS.out]
        have hlen : (ps ++ numsTime t).length = ps.length + 1 := by simp [numsTime]
        refine ⟨B.1, B.2, ?_, ?_, fun g hg => ?_⟩
        · rw [hlen]; exact hR1.set 0 _
        · rw [hlen]; exact owns_wset ho hR1 (by decide) 0 _
        · rw [hlen] at hg
          rcases hbk g hg with h | h
          · exact .inl h
          · refine .inr ⟨h, ?_⟩
            exact (ho.lt g hg).2
    clear hO ho hbk hR1
    go_wp2_with fail
    exact hFin.out
  case done =>
    rintro D U W hD hU hi hK
    rw [List.length_range, List.take_of_length_le (by rw [HLN.out]; omega)] at hi
    obtain ⟨A, c, hr1, hr2, hr3⟩ := hi.row
    have y0 := hr1.cell_at 0 rfl
    have hN : Hid (Nums w.heap.size ([a0, a1, a2, a3, a4, a5, a6].flatMap numsTime) (.returned (.slice A (ts.flatMap numsTime).length c)) (W.putObj D (.deferred none)) ∧ Below w.heap.size w (W.putObj D (.deferred none))) := by
      rw [HTS.out]
      have hs := HSZ.out
      refine Lib.hid ⟨⟨A, c, rfl, owns_base (owns_cellsOn hr2 (CellsOn.put (w := w) _ D _ _ (by omega) hK rfl rfl)) (by omega)⟩, hi.below.grown (grownBy_putObj' _ D _) hi.below.size (fun k e => by cases e; omega)⟩
    clear hr1 hr2 hr3 hi
    gi_wp2_with fail
    refine ⟨by simp, .inl ⟨_, _, rfl, run_takeDeferred hK, ?_⟩⟩
    exact ⟨_, by simp [results, Tryz.f69, go_sem], hN.out⟩
  case stop => exact fun _ _ _ _ _ _ h _ => h.elim
end Go.Proofs.YtegflmaobmibnaaGreatDoor
