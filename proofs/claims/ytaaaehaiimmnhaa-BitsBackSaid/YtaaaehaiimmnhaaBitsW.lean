/- The document's own bits: with one more behind. -/
import Derived.Test.YtaaaehaiimmnhaaBitsR
import Derived.StillTailTactics
namespace Go.Proofs.Ytaaaehaiimmnhaa
open Go.RowKit Go.Shelf
set_option linter.unusedVariables false

/-- A region that draws its order, all but its last operations only reading: the world behind the draw under its name. -/
theorem region_plain {P : Program} (id : Nat) {Q : Exit → Act → World → Prop} {a : Act} {w : World} {L : List Oper} (n : Nat) (hm : P.follows .mixedOrders = true) (hB : Region.lexTailB .any L.toArray n = true)
    (h : wpStill P L.toArray w.drew (fun a' => wpList P L.toArray Q (L.drop n) a' w.drew) (L.take n) a) : (Code.region id L.toArray true).wp P Q a w := wp_region_still_tail n hm hB h

/-- v are bits of the call's own, which tell l. -/
def OwnBits (w : World) (base : Nat) (v : Value) (l : List Bool) : Prop :=
  ∃ g cap, v = .agg #[.slice (some ⟨g, 0, none⟩) (bytesFor l.length) cap, .int .i64 l.length] ∧ w.ownsRow base 5 1 (.slice (some ⟨g, 0, none⟩) (bytesFor l.length) cap) (bytesFor l.length) (u8s (pack (bytesFor l.length) l))

set_option maxRecDepth 100000 in
set_option maxHeartbeats 4000000 in
theorem with_room (base g cap : Nat) (l : List Bool) (b : Bool) (w : World) (hl : l.length ≤ 549755813888) (h8 : l.length % 8 ≠ 0) (hown : w.ownsRow base 5 1 (.slice (some ⟨g, 0, none⟩) (bytesFor l.length) cap) (bytesFor l.length) (u8s (pack (bytesFor l.length) l))) (hbase : base ≤ w.heap.size) :
    Calls Try.prog 28 #[.agg #[.slice (some ⟨g, 0, none⟩) (bytesFor l.length) cap, .int .i64 l.length], .bool b] w fun e w' =>
      ∃ v, e = .returned v ∧ OwnBits w' base v (l ++ [b]) ∧ Below base w w' := by
  have hb : bytesFor (l ++ [b]).length = bytesFor l.length := by rw [List.length_append, List.length_singleton]; unfold bytesFor; omega
  have hq : l.length / 8 < bytesFor l.length := by unfold bytesFor; omega
  have hm : ((l.length : Int) % 8 == 0) = false := by simp; omega
  obtain ⟨hgb, hglt⟩ := owns_lt hown
  have hqi : (l.length : Int) / 8 < (bytesFor l.length : Int) := by omega
  go_enter Try.func28, Try.ntmps28
  cases b with
  | false =>
    go_wp2_with fail
    refine bodyPost_ret (v := .agg #[.slice (some ⟨g, 0, none⟩) (bytesFor l.length) cap, .int .i64 ((l.length : Int) + 1)]) (by simp [results, Try.f28, go_sem]) rfl ⟨_, rfl, ⟨g, cap, ?_, ?_⟩, ?_⟩
    · rw [hb]; simp
    · rw [hb, pack_false]; exact owns_below hown (below2 _ _ _) hglt
    · exact ((Below.refl base w).alloc hbase _).alloc (by simp; omega) _
  | true =>
    have hcell : ∀ o o', ((w.alloc o).alloc o').cell? ⟨g, l.length / 8, none⟩ = some (.int .u8 (byteOf l (l.length / 8))) := fun o o' =>
      ((below2 w o o').cell (p := ⟨g, l.length / 8, none⟩) hglt).trans ((hown.cellAt _ (by omega)).trans (by simp [u8s, pack, first, hq]))
    have hfro : ∀ o o', ((w.alloc o).alloc o').frozen? ⟨g, l.length / 8, none⟩ = false := fun o o' =>
      ((below2 w o o').frozen (p := ⟨g, l.length / 8, none⟩) hglt).trans (hown.frozenAt _)
    have hq0 : (0 : Int) ≤ (l.length : Int) / 8 := by omega
    go_wp2_with fail
    have hd : IntKind.i64.wrap ((l.length : Int) / 8) = (l.length : Int) / 8 := IntWalk.i64_in _ (by omega)
    have hmw : IntKind.i64.wrap ((l.length : Int) % 8) = (l.length : Int) % 8 := IntWalk.i64_in _ (by omega)
    have htm : (l.length : Int).tmod 8 = (l.length : Int) % 8 := Int.tmod_eq_emod_of_nonneg (by omega)
    have hm0 : (0 : Int) ≤ (l.length : Int) % 8 := by omega
    have hqn : ((l.length : Int) / 8).toNat = l.length / 8 := by omega
    have hsh : (128 : Int) / 2 ^ min (IntKind.u64.wrap ((l.length : Int) % 8)).toNat 8 = 128 / 2 ^ (l.length % 8) := by
      have e : (IntKind.u64.wrap ((l.length : Int) % 8)).toNat = l.length % 8 := by
        have : IntKind.u64.wrap ((l.length : Int) % 8) = (l.length : Int) % 8 := by simp [IntKind.wrap, IntKind.bits, IntKind.signed]; omega
        rw [this]; omega
      rw [e, Nat.min_eq_left (by omega)]
    refine region_plain _ 19 (by kernel_rfl) (by kernel_rfl) ?_
    simp only [List.take_succ_cons, List.take_zero, List.drop_succ_cons, List.drop_zero]
    repeat still_step
    refine wpStill_nil ?_
    go_wp2_with fail
    refine bodyPost_ret (v := .agg #[.slice (some ⟨g, 0, none⟩) (bytesFor l.length) cap, .int .i64 ((l.length : Int) + 1)]) (by simp [results, Try.f28, go_sem]) rfl ⟨_, rfl, ⟨g, cap, ?_, ?_⟩, ?_⟩
    · rw [hb]; simp
    · rw [hb, pack_true, show u8s ((pack (bytesFor l.length) l).set (l.length / 8) _) = (u8s (pack (bytesFor l.length) l)).set (l.length / 8) (.int .u8 _) from List.map_set ..]
      exact (((hown.stored (l.length / 8) _).1.alloc _).alloc _)
    · exact ((((Below.refl base w).setCell (p := ⟨g, l.length / 8, none⟩) hgb _).alloc (by simpa [World.setCell] using hbase) _).alloc (by simp [World.setCell]; omega) _).drew

set_option maxRecDepth 100000 in
set_option maxHeartbeats 4000000 in
theorem with_more (base g cap : Nat) (l : List Bool) (b : Bool) (w : World) (hl : l.length ≤ 549755813888) (h8 : l.length % 8 = 0) (hown : w.ownsRow base 5 1 (.slice (some ⟨g, 0, none⟩) (bytesFor l.length) cap) (bytesFor l.length) (u8s (pack (bytesFor l.length) l))) (hbase : base ≤ w.heap.size) :
    Calls Try.prog 28 #[.agg #[.slice (some ⟨g, 0, none⟩) (bytesFor l.length) cap, .int .i64 l.length], .bool b] w fun e w' =>
      ∃ v, e = .returned v ∧ OwnBits w' base v (l ++ [b]) ∧ Below base w w' := by
  have hb : bytesFor (l ++ [b]).length = bytesFor l.length + 1 := by rw [List.length_append, List.length_singleton]; unfold bytesFor; omega
  have hk : bytesFor l.length = l.length / 8 := by unfold bytesFor; omega
  have hm : ((l.length : Int) % 8 == 0) = true := by simp; omega
  obtain ⟨hgb, hglt⟩ := owns_lt hown
  obtain ⟨W, hW, hsz, hbel, hbox, hres, hone⟩ : ∃ W, (((w.alloc (.cells #[.slice (some ⟨g, 0, none⟩) (bytesFor l.length) cap, .int .i64 l.length] 24)).alloc (.cells #[.slice none 0 0, .int .i64 0] 24)).alloc (.cells #[.int .u8 0] 5)) = W ∧ W.heap.size = w.heap.size + 1 + 1 + 1 ∧ Below w.heap.size w W ∧
      Whole W w.heap.size 24 [.slice (some ⟨g, 0, none⟩) (bytesFor l.length) cap, .int .i64 l.length] ∧ Whole W (w.heap.size + 1) 24 [.slice none 0 0, .int .i64 0] ∧ Whole W (w.heap.size + 1 + 1) 5 [.int .u8 0] :=
    ⟨_, rfl, by simp, below3 _ _ _ _, ((Whole.new w _ [_, _]).alloc _).alloc _, (Whole.new_at _ _ [_, _] _ (by simp)).alloc _, Whole.new_at _ _ [_] _ (by simp)⟩
  obtain ⟨g', c', w2, happ, hown2, hG2, hg'⟩ := append_run (P := Try.prog) 22 22 5 (.int .u8 0) 1 Try.underlying22 info_u8 rfl base g (bytesFor l.length) cap _ [.int .u8 0] W (owns_below hown hbel hglt) (W.heap.size + 1) 1 (some ⟨w.heap.size + 1 + 1, 0, none⟩) (hone.row (by omega)) (by simp [Value.oneCell']) (by simp [maxLen, bytesFor]; omega) (by simp [bytesFor]; omega) (by omega)
  rw [← hW] at happ
  clear hW
  have hpk : u8s (pack (bytesFor l.length) l) ++ [.int .u8 0] = u8s (pack (bytesFor l.length + 1) l) := by
    rw [pack_more _ 1 l (by omega)]; simp [u8s]
  rw [hpk, List.length_singleton] at hown2
  rw [List.length_singleton] at happ
  have hbox2 := hbox.kept hG2 (by intro e; injection e with e; omega)
  have hres2 := hres.kept hG2 (by intro e; injection e with e; omega)
  have hgb' : base ≤ g' ∧ g' < w2.heap.size := owns_lt hown2
  have hgx : g' ≠ w.heap.size := by rcases hg' with h | h <;> omega
  have hgx1 : g' ≠ w.heap.size + 1 := by rcases hg' with h | h <;> omega
  have hB2 : Below base w w2 := (hbel.mono (by omega)).grown hG2 (by omega) (fun k e => by cases e; exact hgb)
  have y0 := hbox2.cell_at 0 rfl
  have y1 := hbox2.cell_at 1 rfl
  have z0 := hres2.cell_at 0 rfl
  have z1 := hres2.cell_at 1 rfl
  have fy0 := hbox2.frozen 0
  have fy1 := hbox2.frozen 1
  have fz0 := hres2.frozen 0
  have fz1 := hres2.frozen 1
  have hqi : (l.length : Int) / 8 < (bytesFor l.length : Int) + 1 := by omega
  have hq0 : (0 : Int) ≤ (l.length : Int) / 8 := by omega
  have HK := Lib.hid hk
  clear hk hpk h8
  go_enter Try.func28, Try.ntmps28
  cases b with
  | false =>
    go_wp2_with (at_builtin; refine list_append rfl (.tmp 10) (.tmp 11) 22 rfl happ ?_)
    refine bodyPost_ret (v := .agg #[.slice (some ⟨g', 0, none⟩) (bytesFor l.length + 1) c', .int .i64 ((l.length : Int) + 1)]) (by simp [results, Try.f28, go_sem, z0, z1]) rfl ⟨_, rfl, ⟨g', c', ?_, ?_⟩, ?_⟩
    · rw [hb]; simp
    · rw [hb, pack_false]
      exact owns_far (owns_far (owns_far (owns_far hown2 (p := ⟨w.heap.size, 0, none⟩) hgx _) (p := ⟨w.heap.size, 1, none⟩) hgx _) (p := ⟨w.heap.size + 1, 0, none⟩) hgx1 _) (p := ⟨w.heap.size + 1, 1, none⟩) hgx1 _
    · exact (((hB2.setCell (p := ⟨w.heap.size, 0, none⟩) hbase _).setCell (p := ⟨w.heap.size, 1, none⟩) hbase _).setCell (p := ⟨w.heap.size + 1, 0, none⟩) (Nat.le_succ_of_le hbase) _).setCell (p := ⟨w.heap.size + 1, 1, none⟩) (Nat.le_succ_of_le hbase) _
  | true =>
    have hcell : w2.cell? ⟨g', l.length / 8, none⟩ = some (.int .u8 (byteOf l (l.length / 8))) := (hown2.cellAt _ (by rw [HK.out]; omega)).trans (by simp [u8s, pack, first, HK.out])
    have hfro : w2.frozen? ⟨g', l.length / 8, none⟩ = false := hown2.frozenAt _
    have hgx' : w.heap.size ≠ g' := fun e => hgx e.symm
    have hgx1' : w.heap.size + 1 ≠ g' := fun e => hgx1 e.symm
    go_wp2_with (at_builtin; refine list_append rfl (.tmp 10) (.tmp 11) 22 rfl happ ?_)
    have hd : IntKind.i64.wrap ((l.length : Int) / 8) = (l.length : Int) / 8 := IntWalk.i64_in _ (by omega)
    have hmw : IntKind.i64.wrap ((l.length : Int) % 8) = (l.length : Int) % 8 := IntWalk.i64_in _ (by omega)
    have htm : (l.length : Int).tmod 8 = (l.length : Int) % 8 := Int.tmod_eq_emod_of_nonneg (by omega)
    have hm0 : (0 : Int) ≤ (l.length : Int) % 8 := by omega
    have hqn : ((l.length : Int) / 8).toNat = l.length / 8 := by omega
    have hsh : (128 : Int) / 2 ^ min (IntKind.u64.wrap ((l.length : Int) % 8)).toNat 8 = 128 / 2 ^ (l.length % 8) := by
      have e : (IntKind.u64.wrap ((l.length : Int) % 8)).toNat = l.length % 8 := by
        have : IntKind.u64.wrap ((l.length : Int) % 8) = (l.length : Int) % 8 := by simp [IntKind.wrap, IntKind.bits, IntKind.signed]; omega
        rw [this]; omega
      rw [e, Nat.min_eq_left (by omega)]
    refine region_plain _ 19 (by kernel_rfl) (by kernel_rfl) ?_
    simp only [List.take_succ_cons, List.take_zero, List.drop_succ_cons, List.drop_zero]
    repeat still_step
    refine wpStill_nil ?_
    go_wp2_with fail
    refine bodyPost_ret (v := .agg #[.slice (some ⟨g', 0, none⟩) (bytesFor l.length + 1) c', .int .i64 ((l.length : Int) + 1)]) (by simp [results, Try.f28, go_sem, z0, z1]) rfl ⟨_, rfl, ⟨g', c', ?_, ?_⟩, ?_⟩
    · rw [hb]; simp
    · rw [hb, pack_true, show u8s ((pack (bytesFor l.length + 1) l).set (l.length / 8) _) = (u8s (pack (bytesFor l.length + 1) l)).set (l.length / 8) (.int .u8 _) from List.map_set ..]
      exact owns_far (owns_far (owns_far ((owns_far hown2 (p := ⟨w.heap.size, 0, none⟩) hgx _).stored (l.length / 8) _).1 (p := ⟨w.heap.size, 1, none⟩) hgx _) (p := ⟨w.heap.size + 1, 0, none⟩) hgx1 _) (p := ⟨w.heap.size + 1, 1, none⟩) hgx1 _
    · exact (((((hB2.setCell (p := ⟨w.heap.size, 0, none⟩) hbase _).setCell (p := ⟨g', l.length / 8, none⟩) hgb'.1 _).setCell (p := ⟨w.heap.size, 1, none⟩) hbase _).setCell (p := ⟨w.heap.size + 1, 0, none⟩) (Nat.le_succ_of_le hbase) _).setCell (p := ⟨w.heap.size + 1, 1, none⟩) (Nat.le_succ_of_le hbase) _).drew

theorem with_any (base : Nat) (v : Value) (l : List Bool) (b : Bool) (w : World) (hl : l.length ≤ 549755813888) (h : OwnBits w base v l) (hbase : base ≤ w.heap.size) :
    Calls Try.prog 28 #[v, .bool b] w fun e w' => ∃ v', e = .returned v' ∧ OwnBits w' base v' (l ++ [b]) ∧ Below base w w' := by
  obtain ⟨g, cap, rfl, hown⟩ := h
  by_cases h8 : l.length % 8 = 0
  · exact with_more base g cap l b w hl h8 hown hbase
  · exact with_room base g cap l b w hl h8 hown hbase
end Go.Proofs.Ytaaaehaiimmnhaa
