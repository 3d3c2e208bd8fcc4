/- Package rank: topClass; a table of rows, and what order tells of two of them. -/
import Derived.Test.YtiknjkgioiknnaaDoorQRnkA
import Derived.Test.YtiknjkgioiknnaaDoorQA
namespace Go.Proofs.YtiknjkgioiknnaaDoor
open Go.RowKit Go.Shelf
set_option linter.unusedVariables false
set_option linter.unusedSimpArgs false
set_option maxRecDepth 100000

set_option maxRecDepth 100000 in
set_option maxHeartbeats 32000000 in
theorem topClass_any {l : Lay} {w : World} (hT : Shapes w) (hL : Lies l w) {ss : List (Int × Int × Int)} {A : Option Addr} (c : Nat) (hR : Row w w.heap.size A (ss.flatMap stpCells)) (hn : ss.length ≤ 1099511627776) {r : Int} (hr : topV l ss = r) :
    Calls Tryd.prog 52 #[l.val, .slice A ss.length c] w fun e w' => e = .returned (.int .i64 r) ∧ Below w.heap.size w w' := by
  obtain ⟨Q, HQ, HQb, HQl, hq⟩ : ∃ Q : World → Prop, Hid (Closed Q) ∧ Hid (∀ W, Q W → Below w.heap.size w W) ∧ Hid (∀ W, Q W → Whole W w.heap.size 29 l.cells) ∧ Q (w.alloc (.cells l.cells.toArray 29)) :=
    ⟨fun W => Below w.heap.size w W ∧ Whole W w.heap.size 29 l.cells, Lib.hid ((Closed.below w).and (Closed.whole _ _ _)), Lib.hid fun _ h => h.1, Lib.hid fun _ h => h.2, below1 w _, Whole.new w _ l.cells⟩
  have HTW : Hid (∀ W, Q W → Shapes W ∧ Lies l W) := Lib.hid fun W hW => ⟨Shapes.closed _ _ hT (HQb.out W hW), Lies.closed l _ _ hL (HQb.out W hW)⟩
  have HRW : Hid (∀ W, Q W → Row W W.heap.size A (ss.flatMap stpCells)) := Lib.hid fun W hW => hR.on (HQb.out W hW)
  have HR := Lib.hid hr
  clear hT hL hR hr
  go_enter Tryd.func52, Tryd.ntmps52
  go_wp2_with fail
  go_loopw [5, 10] (fun vt vi wr => ∃ (j : Nat) (t : Int), vt = .int .i64 t ∧ vi = .int .i64 j ∧ j ≤ ss.length ∧ Q wr ∧ Hid (topV l (ss.take j) = t))
    (fun _ vi _ => ss.length - (intOf vi).toNat)
  case atStart => exact ⟨0, 0, rfl, rfl, Nat.zero_le _, hq, Lib.hid rfl⟩
  case round =>
    clear hq
    obtain ⟨j, t, rfl, rfl, hj, hq, HT⟩ := hrel
    by_cases hlt : j < ss.length
    · have hlt' : (j : Int) < ss.length := by omega
      obtain ⟨⟨y1, y2, y3⟩, hx⟩ : ∃ x, ss[j]? = some x := ⟨_, List.getElem?_eq_getElem hlt⟩
      obtain ⟨b, off, rfl, _, hc0, hc⟩ := (HRW.out _ hq).nth (n := 3) (fun _ => rfl) (by omega) hx
      have c0 := hc0 j _ _ hx rfl
      have c1 := hc j _ 1 _ hx rfl
      have c2 := hc j _ 2 _ hx rfl
      obtain ⟨W1, hW1⟩ : ∃ W1, wr.alloc (.cells #[.int .i64 y1, .int .i64 y2, .int .i64 y3] 53) = W1 := ⟨_, rfl⟩
      have hb1 : Whole W1 wr.heap.size 53 (stpCells (y1, y2, y3)) := by rw [← hW1]; exact Whole.new _ _ (stpCells (y1, y2, y3))
      have hq1 : Q W1 := by rw [← hW1]; exact HQ.out _ _ hq (below1 _ _)
      obtain ⟨cl, hcl⟩ : ∃ cl, classV l y1 y2 y3 = cl := ⟨_, rfl⟩
      have HN : Hid (topV l (ss.take (j + 1)) = max t cl) := Lib.hid (by rw [List.take_add_one, hx, Option.toList_some, top_snoc, HT.out, ← hcl])
      have KC := Lib.hid (keepR HQ.out (classB_any (HTW.out _ hq1).1 (HTW.out _ hq1).2 y1 y2 y3 hcl) hq1)
      have hwi : IntKind.i64.wrap ((j : Int) + 1) = (j : Int) + 1 := IntWalk.i64_in _ (by omega)
      have m0 := HQl.out _ hq1
      have x0 := m0.cell_at 0 rfl
      have x1 := m0.cell_at 1 rfl
      have x2 := m0.cell_at 2 rfl
      have x3 := m0.cell_at 3 rfl
      have x4 := m0.cell_at 4 rfl
      have x5 := m0.cell_at 5 rfl
      have x6 := m0.cell_at 6 rfl
      have x7 := m0.cell_at 7 rfl
      have x8 := m0.cell_at 8 rfl
      have x9 := m0.cell_at 9 rfl
      have x10 := m0.cell_at 10 rfl
      clear m0
      have m0 := hb1
      have v0 := m0.cell_at 0 rfl
      have v1 := m0.cell_at 1 rfl
      have v2 := m0.cell_at 2 rfl
      clear m0
      clear hc0 hc hx hb1 hq1 hcl HT hq
      go_upto_region 5 with (fail)
      try rw [hW1]
      clear c0 c1 c2
      go_wp2_with fail
      refine KC.out.mono ?_
      clear KC x0 x1 x2 x3 x4 x5 x6 x7 x8 x9 x10 v0 v1 v2
      rintro e w1 ⟨rfl, hq⟩
      go_wp2_with fail
      go_roundw
      case rel => exact ⟨j + 1, max t cl, rfl, by go_num, hlt, hq, HN⟩
      case measure => simp [intOf]; omega
    · obtain rfl : j = ss.length := by omega
      have HF : Hid (t = r) := Lib.hid (by rw [← HT.out, List.take_length, HR.out])
      go_wp2_with fail
      go_ret
      exact ⟨ret_int HF.out, HQb.out _ hq⟩
/-- Rows in a table: where each lies, its room, its numbers. -/
abbrev Ent := Option Addr × Nat × List Int
def entCell (t : Ent) : Value := .slice t.1 t.2.2.length t.2.1
def entCells (ts : List Ent) : List Value := ts.map entCell
def entRows (ts : List Ent) : List (List Int) := ts.map (fun t => t.2.2)
theorem owns_rowE {W : World} {base : Nat} {A : Option Addr} {n c : Nat} {xs : List Value} (h : W.ownsRow base 3 1 (.slice A n c) n xs) : Row W W.heap.size A xs := by
  obtain ⟨A', c', e, hr, _⟩ := owns_slice h
  cases e
  exact hr
theorem owns_base12 {W : World} {base base' e k n : Nat} {v : Value} {xs : List Value} (h : W.ownsRow base e k v n xs) (hb : base' ≤ base) : W.ownsRow base' e k v n xs := by
  refine ⟨h.1, ?_⟩
  rcases h.2 with h2 | ⟨g, cap, cur, hv, h3, r⟩
  · exact .inl h2
  · exact .inr ⟨g, cap, cur, hv, Nat.le_trans hb h3, r⟩
theorem owns_setFar {W : World} {base e k n g : Nat} {v : Value} {xs : List Value} (h : W.ownsRow base e k v n xs) (o : Nat) (hg : ∀ b, v.ownBlock = some b → b ≠ g) (u : Value) : (W.setCell ⟨g, o, none⟩ u).ownsRow base e k v n xs := by
  refine ⟨h.1, ?_⟩
  rcases h.2 with h2 | ⟨g', cap, cur, rfl, h3, h4, r⟩
  · exact .inl h2
  · exact .inr ⟨g', cap, cur, rfl, h3, (Below.heap_setCell W ⟨g, o, none⟩ u g' (hg g' rfl)).trans h4, r⟩
/-- The box of the table, the table, its rows. -/
structure RowsAt (base gq gr : Nat) (ts : List Ent) (W : World) : Prop where
  box : Whole W gq 77 [.slice (some ⟨gr, 0, none⟩) ts.length ts.length]
  tab : Whole W gr 58 (entCells ts)
  rows : ∀ t ∈ ts, W.ownsRow base 3 1 (entCell t) t.2.2.length (nums .i64 t.2.2) ∧ t.2.2.length ≤ 1099511627776
  lo : base ≤ gq ∧ base ≤ gr
theorem RowsAt.closed (base gq gr : Nat) (ts : List Ent) : Closed (RowsAt base gq gr ts) := fun w w' h hb => ⟨h.box.below hb h.box.lt, h.tab.below hb h.tab.lt, fun t ht => ⟨ownsV_keep (h.rows t ht).1 hb, (h.rows t ht).2⟩, h.lo⟩
theorem RowsAt.far {base gq gr : Nat} {ts : List Ent} {W : World} (h : RowsAt base gq gr ts W) {g : Nat} (hg : g < base) (o : Nat) (u : Value) : RowsAt base gq gr ts (W.setCell ⟨g, o, none⟩ u) :=
  ⟨h.box.far (p := ⟨g, o, none⟩) (by have := h.lo.1; show gq ≠ g; omega) u, h.tab.far (p := ⟨g, o, none⟩) (by have := h.lo.2; show gr ≠ g; omega) u, fun t ht => ⟨owns_setFar (h.rows t ht).1 o (fun b hb => by have := ((h.rows t ht).1.lt b hb).1; omega) u, (h.rows t ht).2⟩, h.lo⟩
set_option maxRecDepth 100000 in
set_option maxHeartbeats 32000000 in
theorem order1_any {base gq gr : Nat} {ts : List Ent} {w : World} (h : RowsAt base gq gr ts w) {x y : Nat} (hx : x < ts.length) (hy : y < ts.length) (hn : ts.length ≤ 1099511627776) {r : Int} (hr : cvOf (entRows ts) x y = r) :
    Calls Tryd.prog 37 #[.int .i64 x, .int .i64 y, .pointer (some ⟨gq, 0, none⟩)] w fun e w' => e = .returned (.int .i64 r) ∧ Below w.heap.size w w' := by
  obtain ⟨⟨A, ca, xs⟩, hxt⟩ : ∃ t, ts[x]? = some t := ⟨_, List.getElem?_eq_getElem hx⟩
  obtain ⟨⟨B, cb, ys⟩, hyt⟩ : ∃ t, ts[y]? = some t := ⟨_, List.getElem?_eq_getElem hy⟩
  obtain ⟨Q, HQ, HQb, HC, HRW, hq⟩ : ∃ Q : World → Prop, Hid (Closed Q) ∧ Hid (∀ W, Q W → Below w.heap.size w W) ∧ Hid (∀ W, Q W → W.cell? ⟨gq, 0, none⟩ = some (.slice (some ⟨gr, 0, none⟩) ts.length ts.length) ∧ W.cell? ⟨gr, x, none⟩ = some (.slice A xs.length ca) ∧ W.cell? ⟨gr, y, none⟩ = some (.slice B ys.length cb)) ∧
      Hid (∀ W, Q W → (Row W W.heap.size A (nums .i64 xs) ∧ xs.length ≤ 1099511627776) ∧ (Row W W.heap.size B (nums .i64 ys) ∧ ys.length ≤ 1099511627776)) ∧ Q w :=
    ⟨fun W => Below w.heap.size w W ∧ RowsAt base gq gr ts W, Lib.hid ((Closed.below w).and (RowsAt.closed base gq gr ts)), Lib.hid fun _ h => h.1, Lib.hid fun W hW => ⟨hW.2.box.cell_at 0 rfl, hW.2.tab.cell_at x (by unfold entCells; rw [List.getElem?_map, hxt]; rfl), hW.2.tab.cell_at y (by unfold entCells; rw [List.getElem?_map, hyt]; rfl)⟩,
      Lib.hid fun W hW => ⟨⟨owns_rowE (hW.2.rows _ (List.mem_of_getElem? hxt)).1, (hW.2.rows _ (List.mem_of_getElem? hxt)).2⟩, owns_rowE (hW.2.rows _ (List.mem_of_getElem? hyt)).1, (hW.2.rows _ (List.mem_of_getElem? hyt)).2⟩, Below.refl _ _, h⟩
  have HV : Hid (cmpR xs ys = r) := Lib.hid (by
    rw [← hr]
    unfold cvOf entRows
    rw [List.getElem?_map, List.getElem?_map, hxt, hyt]; rfl)
  have KC : Hid (∀ W, Q W → Calls Tryd.prog 38 #[.slice A xs.length ca, .slice B ys.length cb] W fun e w' => e = .returned (.int .i64 r) ∧ Below W.heap.size W w') := Lib.hid fun W hW => compare_any ca cb (HRW.out W hW).1.1 (HRW.out W hW).2.1 (HRW.out W hW).1.2 (HRW.out W hW).2.2 HV.out
  have hx' : (x : Int) < (ts.length : Int) := by omega
  have hy' : (y : Int) < (ts.length : Int) := by omega
  obtain ⟨n, hn'⟩ : ∃ n, ts.length = n := ⟨_, rfl⟩
  rw [hn'] at hx hy hx' hy' hn HC
  clear h hr hxt hyt hn'
  go_enter Tryd.func37, Tryd.ntmps37
  go_wp2_with fail
  have HBS : Hid (∀ W, Below w.heap.size w W → Q W) := Lib.hid (fun W hB => HQ.out _ _ hq hB)
  clear hq
  refine region_mix (Below w.heap.size w) [(0, false), (1, false), (2, false), (3, false), (4, false), (5, false), (6, false), (7, false), (8, false), (9, false)] (by kernel_rfl) (by kernel_rfl) (Below w.heap.size w) ⟨Closed.below w, fun _ h => h⟩ (Below.refl _ _).drew ?_
  simp only [pickOps, List.getElem?_cons_zero, List.getElem?_cons_succ]
  repeat (first | (refine mix_skip (by rfl) ?_; simp only [Act.put, List.setIfInBounds_toArray, List.set_cons_zero, List.set_cons_succ]) | (refine mix_read _ (by rfl) (fun W hW => by (have hW := HBS.out W hW; obtain ⟨h0, h1, h2⟩ := HC.out W hW; go_simp; first | done | with_reducible rfl)) ?_; simp only [Act.put, List.setIfInBounds_toArray, List.set_cons_zero, List.set_cons_succ]) | (refine mix_call _ _ _ (by rfl) (fun W hW => by (have hW := HBS.out W hW; obtain ⟨h0, h1, h2⟩ := HC.out W hW; go_simp; first | done | rfl)) (fun W hW => KC.out W (HBS.out W hW)) ?_; simp only [Act.put, List.setIfInBounds_toArray, List.set_cons_zero, List.set_cons_succ]))
  refine mix_nil (fun W hW => ?_)
  have hq := HBS.out W hW
  clear hW HBS
  go_wp2_with fail
  go_ret
  exact ⟨rfl, HQb.out _ hq⟩
end Go.Proofs.YtiknjkgioiknnaaDoor
