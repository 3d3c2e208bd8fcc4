/- Package rank: order: the table of rows is made. -/
import Derived.Test.YtiknjkgioiknnaaDoorQRnkD
import Derived.Test.YtiknjkgioiknnaaDoorQL
import Derived.Deep.CutRange
namespace Go.Proofs.YtiknjkgioiknnaaDoor
open Go.RowKit Go.Shelf
set_option linter.unusedVariables false
set_option linter.unusedSimpArgs false
set_option maxRecDepth 100000

/-- Paths that came in: where they lie, each path's own steps. -/
structure PsLies (ps : List Pth) (A : Option Addr) (W : World) : Prop where
  row : Row W W.heap.size A (ps.flatMap Pth.cells)
  each : ∀ p ∈ ps, PLies p W
theorem PsLies.closed (ps : List Pth) (A : Option Addr) : Closed (PsLies ps A) := fun w w' h hb => ⟨h.row.on hb, fun p hp => PLies.closed p _ _ (h.each p hp) hb⟩
theorem info_ints : (Tryd.prog.info? 58).map (fun i => (i.zero, i.size, i.bytes)) = some (some (Value.slice none 0 0), 1, 24) := by kernel_rfl
/-- j rows have been made. -/
structure OrdS (w : World) (l : Lay) (ps : List Pth) (j : Nat) (ts : List Ent) (W : World) : Prop where
  below : Below w.heap.size w W
  lay : Whole W w.heap.size 29 l.cells
  box : Whole W (w.heap.size + 1 + 1) 77 [.slice (some ⟨w.heap.size + 1, 0, none⟩) ps.length ps.length]
  tab : Whole W (w.heap.size + 1) 58 (entCells ts ++ List.replicate (ps.length - j) (Value.slice none 0 0))
  rows : ∀ t ∈ ts, W.ownsRow (w.heap.size + 3) 3 1 (entCell t) t.2.2.length (nums .i64 t.2.2) ∧ t.2.2.length ≤ 1099511627776
  vals : entRows ts = (ps.take j).map (fun p => rowV l p.ss)
theorem OrdS.closed (w : World) (l : Lay) (ps : List Pth) (j : Nat) (ts : List Ent) : Closed (OrdS w l ps j ts) := fun W W' h hb =>
  ⟨h.below.trans (hb.mono h.below.size), h.lay.below hb h.lay.lt, h.box.below hb h.box.lt, h.tab.below hb h.tab.lt, fun t ht => ⟨ownsV_keep (h.rows t ht).1 hb, (h.rows t ht).2⟩, h.vals⟩
theorem OrdS.len {w : World} {l : Lay} {ps : List Pth} {j : Nat} {ts : List Ent} {W : World} (h : OrdS w l ps j ts W) (hj : j ≤ ps.length) : ts.length = j := by
  have e := congrArg List.length h.vals
  unfold entRows at e
  rw [List.length_map, List.length_map, List.length_take] at e
  omega
theorem rep_succ {α : Type} {n j : Nat} (h : j < n) (x : α) : List.replicate (n - j) x = x :: List.replicate (n - (j + 1)) x := by
  rw [show n - j = (n - (j + 1)) + 1 by omega, List.replicate_succ]
/-- A row more is laid into the table. -/
theorem OrdS.next {w : World} {l : Lay} {ps : List Pth} {j : Nat} {ts : List Ent} {W : World} (h : OrdS w l ps j ts W) (hj : j < ps.length) {p : Pth} (hp : ps[j]? = some p) {A : Option Addr} {c : Nat} (hown : W.ownsRow (w.heap.size + 3) 3 1 (.slice A (rowV l p.ss).length c) (rowV l p.ss).length (nums .i64 (rowV l p.ss))) (hn : (rowV l p.ss).length ≤ 1099511627776) :
    OrdS w l ps (j + 1) (ts ++ [(A, c, rowV l p.ss)]) (W.setCell ⟨w.heap.size + 1, j, none⟩ (.slice A (rowV l p.ss).length c)) := by
  have hl := h.len (Nat.le_of_lt hj)
  refine ⟨h.below.setCell (p := ⟨w.heap.size + 1, j, none⟩) (by show w.heap.size ≤ w.heap.size + 1; omega) _, h.lay.far (p := ⟨w.heap.size + 1, j, none⟩) (by show w.heap.size ≠ w.heap.size + 1; omega) _, h.box.far (p := ⟨w.heap.size + 1, j, none⟩) (by show w.heap.size + 1 + 1 ≠ w.heap.size + 1; omega) _, ?_, fun t ht => ?_, ?_⟩
  · have hs := h.tab.set j (.slice A (rowV l p.ss).length c)
    rw [rep_succ hj] at hs
    have e : (entCells ts ++ (Value.slice none 0 0) :: List.replicate (ps.length - (j + 1)) (Value.slice none 0 0)).set j (.slice A (rowV l p.ss).length c) = entCells (ts ++ [(A, c, rowV l p.ss)]) ++ List.replicate (ps.length - (j + 1)) (Value.slice none 0 0) := by
      have e1 : (entCells ts).length = j := by unfold entCells; rw [List.length_map, hl]
      rw [List.set_append_right _ _ (by omega), e1, Nat.sub_self]
      unfold entCells
      rw [List.map_append]
      simp [entCell]
    rw [e] at hs
    exact hs
  · rcases List.mem_append.1 ht with ht | ht
    · exact ⟨owns_setFar (h.rows t ht).1 j (fun b hb => by have := ((h.rows t ht).1.lt b hb).1; omega) _, (h.rows t ht).2⟩
    · obtain rfl : t = (A, c, rowV l p.ss) := by simpa using ht
      exact ⟨owns_setFar hown j (fun b hb => by have := (hown.lt b hb).1; omega) _, hn⟩
  · unfold entRows
    rw [List.map_append, List.take_add_one, hp, Option.toList_some, List.map_append]
    have := h.vals
    unfold entRows at this
    rw [this]
    rfl
set_option maxRecDepth 100000 in
set_option maxHeartbeats 32000000 in
theorem order_any {l : Lay} {ps : List Pth} {A : Option Addr} (c : Nat) {w : World} (hT : Shapes w) (hL : Lies l w) (hP : PsLies ps A w) (hs : ∀ p ∈ ps, p.ss.length ≤ 1000) (hn : ps.length ≤ 1000000) :
    Calls Tryd.prog 23 #[l.val, .slice A ps.length c] w fun e w' => ∃ gq gr ts, e = .returned (.func (.func 37) #[] #[.pointer (some ⟨gq, 0, none⟩)]) ∧ RowsAt w.heap.size gq gr ts w' ∧ entRows ts = ps.map (fun p => rowV l p.ss) ∧ Below w.heap.size w w' := by
  have hmk := make_run (P := Tryd.prog) 77 58 _ 24 Tryd.underlying77 info_ints rfl ps.length (by omega) (by omega) (w.alloc (.cells #[.slice l.As l.secs.length l.cs, .slice l.Ag l.sigs.length l.cg, .slice l.Ae l.exits.length l.ce, .slice l.Af l.flanks.length l.cf, .int .i64 l.t0, .int .i64 l.t1, .int .i64 l.t2, .int .i64 l.t3, .int .i64 l.t4, .int .i64 l.t5, .int .i64 l.t6] 29))
  obtain ⟨W2, hW2⟩ : ∃ W2, ((w.alloc (.cells #[.slice l.As l.secs.length l.cs, .slice l.Ag l.sigs.length l.cg, .slice l.Ae l.exits.length l.ce, .slice l.Af l.flanks.length l.cf, .int .i64 l.t0, .int .i64 l.t1, .int .i64 l.t2, .int .i64 l.t3, .int .i64 l.t4, .int .i64 l.t5, .int .i64 l.t6] 29)).alloc (.cells (Array.replicate ps.length (Value.slice none 0 0)) 58)).alloc (.cells #[.slice (some ⟨w.heap.size + 1, 0, none⟩) ps.length ps.length] 77) = W2 := ⟨_, rfl⟩
  have HS0 : Hid (OrdS w l ps 0 [] W2) := Lib.hid (by
    rw [← hW2, ← List.toArray_replicate]
    exact ⟨below3 w _ _ _, ((Whole.new w _ l.cells).alloc _).alloc _, Whole.new_at _ _ [_] _ (by simp), (Whole.new_at (w.alloc (.cells #[.slice l.As l.secs.length l.cs, .slice l.Ag l.sigs.length l.cg, .slice l.Ae l.exits.length l.ce, .slice l.Af l.flanks.length l.cf, .int .i64 l.t0, .int .i64 l.t1, .int .i64 l.t2, .int .i64 l.t3, .int .i64 l.t4, .int .i64 l.t5, .int .i64 l.t6] 29)) _ (List.replicate ps.length (Value.slice none 0 0)) _ (by simp)).alloc _, fun t ht => (by cases ht), rfl⟩)
  have HW2 := Lib.hid hW2
  have HTW : Hid (∀ W, Below w.heap.size w W → (Shapes W ∧ Lies l W) ∧ PsLies ps A W) := Lib.hid fun W hB => ⟨⟨Shapes.closed _ _ hT hB, Lies.closed l _ _ hL hB⟩, PsLies.closed ps A _ _ hP hB⟩
  have HSL := Lib.hid hs
  clear hW2 hT hL hP hs
  rw [show (w.alloc (.cells #[.slice l.As l.secs.length l.cs, .slice l.Ag l.sigs.length l.cg, .slice l.Ae l.exits.length l.ce, .slice l.Af l.flanks.length l.cf, .int .i64 l.t0, .int .i64 l.t1, .int .i64 l.t2, .int .i64 l.t3, .int .i64 l.t4, .int .i64 l.t5, .int .i64 l.t6] 29)).heap.size = w.heap.size + 1 by simp] at hmk
  go_enter Tryd.func23, Tryd.ntmps23
  go_wp2_with fail
  rw [HW2.out]
  clear hmk
  go_loopw [6, 7, 13] (fun vn vp vi wr => ∃ (j : Nat) (ts : List Ent), vi = .int .i64 j ∧ j ≤ ps.length ∧ OrdS w l ps j ts wr)
    (fun _ _ vi _ => ps.length - (intOf vi).toNat)
  case atStart => exact ⟨0, [], rfl, Nat.zero_le _, HS0.out⟩
  case round =>
    clear HS0 HW2
    obtain ⟨j, ts, rfl, hj, hS⟩ := hrel
    by_cases hlt : j < ps.length
    · have hlt' : (j : Int) < ps.length := by omega
      obtain ⟨p, hp⟩ : ∃ p, ps[j]? = some p := ⟨_, List.getElem?_eq_getElem hlt⟩
      obtain ⟨b, off, rfl, _, hc0, hc⟩ := (HTW.out _ hS.below).2.row.nth (n := 3) (fun _ => rfl) (by omega) hp
      have c0 := hc0 j _ _ hp rfl
      have c1 := hc j _ 1 _ hp rfl
      have c2 := hc j _ 2 _ hp rfl
      obtain ⟨xs, hxs⟩ : ∃ xs, rowV l p.ss = xs := ⟨_, rfl⟩
      have hsl := HSL.out p (List.mem_of_getElem? hp)
      have hxl : xs.length ≤ 1099511627776 := by rw [← hxs]; have := row_len l p.ss; omega
      have HP := Lib.hid (And.intro hp (And.intro hxs (And.intro hsl hxl)))
      have hwi : IntKind.i64.wrap ((j : Int) + 1) = (j : Int) + 1 := IntWalk.i64_in _ (by omega)
      have HS := Lib.hid hS
      clear hc0 hc hp hxs hsl hxl hS
      go_upto_region 5 with (fail)
      clear c0 c1 c2
      obtain ⟨W3, hW3⟩ : ∃ W3, wr.alloc (.cells #[.int .i64 p.s, .int .i64 p.x, .slice p.A p.ss.length p.c] 34) = W3 := ⟨_, rfl⟩
      have hS3 : OrdS w l ps j ts W3 ∧ Whole W3 wr.heap.size 34 p.cells := by rw [← hW3]; exact ⟨OrdS.closed _ _ _ _ _ _ _ HS.out (below1 _ _), Whole.new _ _ p.cells⟩
      have hgp : w.heap.size + 3 ≤ wr.heap.size := by have := HS.out.box.lt; omega
      try rw [hW3]
      obtain ⟨gp, hgp'⟩ : ∃ gp, wr.heap.size = gp := ⟨_, rfl⟩
      rw [hgp'] at hS3 hgp
      try rw [hgp']
      clear hW3 hgp' HS
      have HC : Hid (Closed fun W => OrdS w l ps j ts W ∧ Whole W gp 34 p.cells) := Lib.hid ((OrdS.closed _ _ _ _ _).and (Closed.whole _ _ _))
      have KR : Hid (∀ W, OrdS w l ps j ts W → Calls Tryd.prog 20 #[l.val, p.val] W fun e w' => ∃ x : Option Addr × Nat, e = .returned (.slice x.1 xs.length x.2) ∧ w'.ownsRow (w.heap.size + 3) 3 1 (.slice x.1 xs.length x.2) xs.length (nums .i64 xs) ∧ Below W.heap.size W w') := Lib.hid fun W hW => by
        have hh := HTW.out _ hW.below
        refine (row_any hh.1.1 hh.1.2 (hh.2.each p (List.mem_of_getElem? HP.out.1)) HP.out.2.2.1 HP.out.2.1).mono ?_
        rintro e w' ⟨A1, c1, rfl, hown, hB⟩
        exact ⟨(A1, c1), rfl, owns_base12 hown (by have := hW.box.lt; omega), hB⟩
      refine region_mix (fun W => (Whole W (w.heap.size + 1 + 1) 77 [.slice (some ⟨w.heap.size + 1, 0, none⟩) ps.length ps.length] ∧ Whole W w.heap.size 29 l.cells) ∧ Whole W gp 34 p.cells) [(0, false), (1, false), (2, false), (3, false), (4, true), (5, false), (6, true)] (by kernel_rfl) (by kernel_rfl) (fun W => OrdS w l ps j ts W ∧ Whole W gp 34 p.cells) ⟨HC.out, fun W h => ⟨⟨h.1.box, h.1.lay⟩, h.2⟩⟩ (HC.out.drew hS3) ?_
      clear hS3
      simp only [pickOps, List.getElem?_cons_zero, List.getElem?_cons_succ]
      repeat (first | (refine mix_skip (by rfl) ?_; simp only [Act.put, List.setIfInBounds_toArray, List.set_cons_zero, List.set_cons_succ]) | (refine mix_read _ (by rfl) (fun W hW => by (have q0 := hW.1.1.cell_at 0 rfl; have x0 := hW.1.2.cell_at 0 rfl; have x1 := hW.1.2.cell_at 1 rfl; have x2 := hW.1.2.cell_at 2 rfl; have x3 := hW.1.2.cell_at 3 rfl; have x4 := hW.1.2.cell_at 4 rfl; have x5 := hW.1.2.cell_at 5 rfl; have x6 := hW.1.2.cell_at 6 rfl; have x7 := hW.1.2.cell_at 7 rfl; have x8 := hW.1.2.cell_at 8 rfl; have x9 := hW.1.2.cell_at 9 rfl; have x10 := hW.1.2.cell_at 10 rfl; have y0 := hW.2.cell_at 0 rfl; have y1 := hW.2.cell_at 1 rfl; have y2 := hW.2.cell_at 2 rfl; clear hW; go_simp; first | done | with_reducible rfl)) ?_; simp only [Act.put, List.setIfInBounds_toArray, List.set_cons_zero, List.set_cons_succ]))
      refine mix_meet (fun x : Option Addr × Nat => .slice x.1 xs.length x.2) (fun x W => W.ownsRow (w.heap.size + 3) 3 1 (.slice x.1 xs.length x.2) xs.length (nums .i64 xs)) ⟨HC.out, fun W h => ⟨⟨h.1.box, h.1.lay⟩, h.2⟩⟩ (fun x W W' h hb => ownsV_keep h hb) _ _ (by rfl) (fun W hW => by (clear hW; go_simp; first | done | rfl)) (fun W hW => KR.out W hW.1) (fun x => ?_)
      simp only [Act.put, List.setIfInBounds_toArray, List.set_cons_zero, List.set_cons_succ]
      repeat (first | (refine mix_read _ (by rfl) (fun W hW => by (clear hW; go_simp; first | done | with_reducible rfl)) ?_; simp only [Act.put, List.setIfInBounds_toArray, List.set_cons_zero, List.set_cons_succ]))
      refine mix_store (fun W => OrdS w l ps (j + 1) (ts ++ [(x.1, x.2, xs)]) W ∧ Whole W gp 34 p.cells) (fun W => W.setCell ⟨w.heap.size + 1, j, none⟩ (.slice x.1 xs.length x.2)) ⟨(OrdS.closed _ _ _ _ _).and (Closed.whole _ _ _), fun W h => ⟨⟨h.1.box, h.1.lay⟩, h.2⟩⟩ (by rfl) (fun W hW => by
        have hlj := hW.1.1.len (Nat.le_of_lt hlt)
        have c0 := hW.1.1.tab.cell_at j (v := (Value.slice none 0 0)) (by rw [List.getElem?_append_right (by unfold entCells; rw [List.length_map]; omega), rep_succ hlt]; unfold entCells; rw [List.length_map, hlj, Nat.sub_self]; rfl)
        have f0 := hW.1.1.tab.frozen j
        clear hW hlj
        go_simp
        first | done | with_reducible rfl) (fun W hW => ⟨by
          have hN := hW.1.1.next hlt HP.out.1 (A := x.1) (c := x.2) (by rw [HP.out.2.1]; exact hW.2) (by rw [HP.out.2.1]; exact HP.out.2.2.2)
          rw [HP.out.2.1] at hN
          exact hN, hW.1.2.far (p := ⟨w.heap.size + 1, j, none⟩) (by show gp ≠ w.heap.size + 1; omega) _⟩) ?_
      simp only [Act.put, List.setIfInBounds_toArray, List.set_cons_zero, List.set_cons_succ]
      refine mix_nil (fun W hW => ?_)
      have HN := Lib.hid hW.1
      clear hW
      go_wp2_with fail
      go_roundw
      case rel => exact ⟨j + 1, ts ++ [(x.1, x.2, xs)], by go_num, hlt, HN.out⟩
      case measure => simp [intOf]; omega
    · obtain rfl : j = ps.length := by omega
      have HF : Hid (RowsAt w.heap.size (w.heap.size + 1 + 1) (w.heap.size + 1) ts wr ∧ entRows ts = ps.map (fun p => rowV l p.ss) ∧ Below w.heap.size w wr) := Lib.hid (by
        have hl := hS.len (Nat.le_refl _)
        refine ⟨⟨by rw [hl]; exact hS.box, ?_, fun t ht => ⟨owns_base12 (hS.rows t ht).1 (by omega), (hS.rows t ht).2⟩, by omega⟩, by rw [hS.vals, List.take_length], hS.below⟩
        have := hS.tab
        rw [Nat.sub_self, List.replicate_zero, List.append_nil] at this
        exact this)
      clear hS
      go_wp2_with fail
      go_ret
      exact ⟨_, _, ts, rfl, HF.out.1, HF.out.2.1, HF.out.2.2⟩
end Go.Proofs.YtiknjkgioiknnaaDoor
