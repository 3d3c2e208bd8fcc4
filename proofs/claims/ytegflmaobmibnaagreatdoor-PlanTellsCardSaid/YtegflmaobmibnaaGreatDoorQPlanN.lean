/- The numbers of a layout's things, each a row of the call's own. -/
import Derived.Test.YtegflmaobmibnaaGreatDoorQPlanX
namespace Go.Proofs.YtegflmaobmibnaaGreatDoor
set_option maxRecDepth 100000
open Go.RowKit Go.Shelf
set_option linter.unusedVariables false
set_option linter.unusedSimpArgs false

abbrev numCells (p : Int × Nat) : List Value := [.int .i64 p.1, .int .i64 (p.2 : Int)]
theorem infoNumber : (Tryz.prog.info? 56).map (fun i => (i.zero, i.size, i.bytes)) = some (some (.agg #[.int .i64 0, .int .i64 0]), 2, 16) := by kernel_rfl
theorem oneNumber (x : Int × Nat) : ∀ u ∈ numCells x, u.oneCell' = true := by intro u hu; simp at hu; rcases hu with rfl | rfl <;> rfl
theorem flat2 (ps : List (Int × Nat)) : (ps.flatMap numCells).length = ps.length * 2 := by
  induction ps with
  | nil => rfl
  | cons p ps ih => rw [List.flatMap_cons, List.length_append, ih]; simp; omega
theorem owns_whole {W : World} {base g e size n : Nat} {cs : List Value} (h : Whole W g e cs) (hb : base ≤ g) (hn : cs.length = n * size) (hm : n ≤ maxLen) : W.ownsRow base e size (.slice (some ⟨g, 0, none⟩) n n) n cs :=
  ⟨hn, .inr ⟨g, n, cs.toArray, rfl, hb, h, Nat.le_refl _, hm, by simpa using hn, by rw [← hn]; simp⟩⟩
/-- A row of numbers of the call's own. -/
def Nums (base : Nat) (ps : List (Int × Nat)) (e : Ending) (w' : World) : Prop :=
  ∃ A c, e = .returned (.slice A ps.length c) ∧ w'.ownsRow base 56 2 (.slice A ps.length c) ps.length (ps.flatMap numCells)

set_option maxHeartbeats 4000000 in
theorem ofPort_any (s q : Int) (w : World) : Calls Tryz.prog 66 #[prtV s q] w fun e w' => Nums w.heap.size (numsPort (s, q)) e w' ∧ Below w.heap.size w w' := by
  have hW := Whole.new_at (w.alloc (.cells #[.int .i64 s, .int .i64 q] 48)) 56 ((numsPort (s, q)).flatMap numCells) (w.heap.size + 1) (by simp)
  go_enter Tryz.func66, Tryz.ntmps66
  go_wp2
  refine bodyPost_ret (v := .slice (some ⟨w.heap.size + 1, 0, none⟩) 2 2) (by simp [results, Tryz.f66, go_sem]) rfl ⟨⟨_, _, rfl, owns_whole hW (by omega) rfl (show 2 ≤ maxLen by decide)⟩, below2 w _ _⟩
set_option maxHeartbeats 4000000 in
theorem ofFlank_any (a b c d : Int) (w : World) : Calls Tryz.prog 68 #[flkV a b c d] w fun e w' => Nums w.heap.size (numsFlank (a, b, c, d)) e w' ∧ Below w.heap.size w w' := by
  have hW := Whole.new_at (w.alloc (.cells #[.int .i64 a, .int .i64 b, .int .i64 c, .int .i64 d] 76)) 56 ((numsFlank (a, b, c, d)).flatMap numCells) (w.heap.size + 1) (by simp)
  go_enter Tryz.func68, Tryz.ntmps68
  go_wp2
  refine bodyPost_ret (v := .slice (some ⟨w.heap.size + 1, 0, none⟩) 4 4) (by simp [results, Tryz.f68, go_sem]) rfl ⟨⟨_, _, rfl, owns_whole hW (by omega) rfl (show 4 ≤ maxLen by decide)⟩, below2 w _ _⟩
set_option maxHeartbeats 4000000 in
theorem counts_any (l : Lay) (w : World) : Calls Tryz.prog 64 #[l.val] w fun e w' => Nums w.heap.size (numsHead l.pl) e w' ∧ Below w.heap.size w w' := by
  have hW := Whole.new_at (w.alloc (.cells l.cells.toArray 29)) 56 ([((l.secs.length : Int), 5), ((l.sigs.length : Int), 4), ((l.exits.length : Int), 4), ((l.flanks.length : Int), 5)].flatMap numCells) (w.heap.size + 1) (by simp)
  have he : numsHead l.pl = [((l.secs.length : Int), 5), ((l.sigs.length : Int), 4), ((l.exits.length : Int), 4), ((l.flanks.length : Int), 5)] := by unfold numsHead Lay.pl; simp
  rw [he]
  clear he
  go_enter Tryz.func64, Tryz.ntmps64
  go_wp2
  refine bodyPost_ret (v := .slice (some ⟨w.heap.size + 1, 0, none⟩) 4 4) (by simp [results, Tryz.f64, go_sem]) rfl ⟨⟨_, _, rfl, owns_whole hW (by omega) rfl (show 4 ≤ maxLen by decide)⟩, below2 w _ _⟩
theorem append_nums (base : Nat) (ps qs : List (Int × Nat)) (A A' : Option Addr) (c c' B : Nat) (W : World) (hown : W.ownsRow base 56 2 (.slice A ps.length c) ps.length (ps.flatMap numCells)) (hr : Row W B A' (qs.flatMap numCells)) (hA : A' ≠ none) (hn : ps.length ≤ 1000) (hl : qs.length ≤ 1000) (hbase : base ≤ W.heap.size) :
    ∃ A2 c2 w', (Builtin.append_ #[63, 63] 63 #[.slice A ps.length c, .slice A' qs.length c']).run Tryz.prog W = .ok (.slice A2 (ps ++ qs).length c2) w' ∧ w'.ownsRow base 56 2 (.slice A2 (ps ++ qs).length c2) (ps ++ qs).length ((ps ++ qs).flatMap numCells) ∧ W.grownBy w' (Value.slice A ps.length c).ownBlock := by
  obtain ⟨v', w', h1, h2, h3⟩ := appendG (P := Tryz.prog) (f := numCells) (size := 2) (fun _ => rfl) oneNumber 63 56 (.agg #[.int .i64 0, .int .i64 0]) 16 Tryz.underlying63 infoNumber rfl (by omega) (by omega) base ps.length _ _ qs A' c' B W hown (.inr hA) hr hn hl hbase
  obtain ⟨A2, c2, rfl, _⟩ := owns_read h2
  refine ⟨A2, c2, w', ?_, ?_, h3⟩
  · rw [List.length_append]; exact h1
  · rw [List.length_append, List.flatMap_append]; exact h2
theorem owns_some {W : World} {base e size n c : Nat} {A : Option Addr} {xs : List Value} (h : W.ownsRow base e size (.slice A n c) n xs) (hn : 0 < n) : A ≠ none := by
  rintro rfl
  rcases h.2 with ⟨_, h0⟩ | ⟨g, cap, cur, hv, _⟩
  · omega
  · cases hv
set_option maxHeartbeats 4000000 in
theorem ofJoin_any (s q : Int) (w : World) (hJ : JoinIs (s, q)) : Calls Tryz.prog 103 #[prtV s q] w fun e w' => Nums w.heap.size (numsJoin (s, q)) e w' ∧ Below w.heap.size w w' := by
  have hB1 := below1 w (.cells #[.int .i64 s, .int .i64 q] 48)
  have hP := Whole.new w 48 [.int .i64 s, .int .i64 q]
  go_enter Tryz.func103, Tryz.ntmps103
  go_wp2_with fail
  obtain ⟨w1, hw1⟩ : ∃ W, w.alloc (.cells #[.int .i64 s, .int .i64 q] 48) = W := ⟨_, rfl⟩
  have hsz : w1.heap.size = w.heap.size + 1 := by rw [← hw1]; simp
  rw [hw1] at hB1 hP ⊢
  clear hw1
  obtain ⟨b, hb⟩ : ∃ b, (s == -1 && q == 0) = b := ⟨_, rfl⟩
  have HE : Hid (∀ W, (binOp .eql 48 (prtV s q) (prtV (-1) 0)).run Tryz.prog W = .ok (.bool b) W) := Lib.hid (fun W => by rw [eql_prt W, hb])
  have HBX : Hid (∀ W, Below w1.heap.size w1 W → W.cell? ⟨w.heap.size, 0, none⟩ = some (.int .i64 s) ∧ W.cell? ⟨w.heap.size, 1, none⟩ = some (.int .i64 q)) := Lib.hid (fun W hW => ⟨(hP.below hW hP.lt).cell_at 0 rfl, (hP.below hW hP.lt).cell_at 1 rfl⟩)
  have HB : Hid ((s == -1 && q == 0) = b) := Lib.hid hb
  have HB1 := Lib.hid hB1
  clear hb hP hB1
  refine region_mix (Below w1.heap.size w1) [(0, false), (1, false), (2, false)] (by kernel_rfl) (by kernel_rfl) (Below w1.heap.size w1) ⟨Closed.below w1, fun _ h => h⟩ (Below.refl _ _).drew ?_
  simp only [pickOps, List.getElem?_cons_zero, List.getElem?_cons_succ]
  repeat (first | (refine mix_read _ (by rfl) (fun W hW => by (obtain ⟨x0, x1⟩ := HBX.out W hW; clear hW; go_simp; first | done | with_reducible rfl)) ?_; simp only [Act.put, List.setIfInBounds_toArray, List.set_cons_zero, List.set_cons_succ]) | (refine mix_call _ _ _ (by rfl) (fun W hW => by (go_simp; first | done | rfl)) (fun W hW => trackEnd8_any W) ?_; simp only [Act.put, List.setIfInBounds_toArray, List.set_cons_zero, List.set_cons_succ]))
  refine mix_read (.bool b) (by rfl) (fun W hW => by (clear hW; have d := HB.out; go_simp; rw [← d]; by_cases h1 : s = -1 <;> by_cases h2 : q = 0 <;> simp [h1, h2])) ?_
  simp only [Act.put, List.setIfInBounds_toArray, List.set_cons_zero, List.set_cons_succ]
  refine mix_nil (fun W hW => ?_)
  have hB2 := HB1.out.trans (hW.mono HB1.out.size)
  obtain ⟨x0, x1⟩ := HBX.out W hW
  have hsz2 := hW.size
  cases b
  · have hs : ¬ s < 0 := by
      have := HB.out
      rcases hJ with ⟨a, c⟩ | ⟨a, c⟩
      · simp only at a c; subst a; subst c; simp at this
      · simp only at a; omega
    have hW1 := Whole.new W 56 ([((1 : Int), 1)].flatMap numCells)
    have hB3 := hB2.trans ((below1 W (.cells ([((1 : Int), 1)].flatMap numCells).toArray 56)).mono hB2.size)
    have ho := owns_whole (base := w.heap.size) (n := 1) (size := 2) hW1 hB2.size rfl (by decide)
    have y0 : (W.alloc (.cells #[.int .i64 1, .int .i64 1] 56)).cell? ⟨w.heap.size, 0, none⟩ = some (.int .i64 s) := ((below1 W _).cell (p := ⟨w.heap.size, 0, none⟩) (by show w.heap.size < _; omega)).trans x0
    have y1 : (W.alloc (.cells #[.int .i64 1, .int .i64 1] 56)).cell? ⟨w.heap.size, 1, none⟩ = some (.int .i64 q) := ((below1 W _).cell (p := ⟨w.heap.size, 1, none⟩) (by show w.heap.size < _; omega)).trans x1
    clear hW1
    go_wp2_with fail
    go_at_call 66
    refine (ofPort_any s q _).mono ?_
    rintro e w4 ⟨⟨A, c, rfl, ho4⟩, hb4⟩
    have ho5 := owns_keep ho hb4
    have hB5 := hB3.trans (hb4.mono hB3.size)
    obtain ⟨A2, c2, w6, h1, h2, h3⟩ := append_nums w.heap.size [((1 : Int), 1)] (numsPort (s, q)) _ A _ c _ w4 ho5 (owns_row2 ho4) (owns_some ho4 (show 0 < 2 by decide)) (show 1 ≤ 1000 by decide) (show 2 ≤ 1000 by decide) hB5.size
    have hB6 := hB5.grown h3 hB5.size (fun k e => (ho5.lt k e).1)
    have hN : Nums w.heap.size (numsJoin (s, q)) (.returned (.slice A2 3 c2)) w6 := by
      unfold numsJoin
      rw [if_neg (show ¬ s < 0 by omega)]
      exact ⟨A2, c2, rfl, h2⟩
    go_wp2_with (at_builtin; refine list_append rfl (.tmp 9) (.tmp 11) 63 rfl h1 ?_)
    go_ret
    exact ⟨hN, hB6⟩
  · have hs : s < 0 := by have := HB.out; simp at this; omega
    have hW1 := Whole.new W 56 ([((0 : Int), 1)].flatMap numCells)
    have hB3 := hB2.trans ((below1 W (.cells ([((0 : Int), 1)].flatMap numCells).toArray 56)).mono hB2.size)
    have hN : Nums w.heap.size (numsJoin (s, q)) (.returned (.slice (some ⟨W.heap.size, 0, none⟩) 1 1)) (W.alloc (.cells ([((0 : Int), 1)].flatMap numCells).toArray 56)) := by
      unfold numsJoin
      rw [if_pos (show s < 0 by omega)]
      exact ⟨_, _, rfl, owns_whole hW1 hB2.size rfl (by decide)⟩
    clear hW1
    go_wp2_with fail
    go_ret
    exact ⟨hN, hB3⟩
end Go.Proofs.YtegflmaobmibnaaGreatDoor
