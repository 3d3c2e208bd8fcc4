/- What the document says of 5 and 300: all of it. -/
import Derived.Test.YtaaaehaiimmnhaaBitsX
import Derived.Deep.RegionHeld3
namespace Go.Proofs.Ytaaaehaiimmnhaa
open Go.RowKit Go.Shelf
set_option linter.unusedVariables false

/-- Variable b holds bits whose bytes are these. -/
def VarIs (w : World) (b g : Nat) (zs : List Int) (k n : Nat) : Prop := Whole w b 24 [.slice (some ⟨g, 0, none⟩) k k, .int .i64 n] ∧ Row w w.heap.size (some ⟨g, 0, none⟩) (u8s zs)
theorem VarIs.on {w w' : World} {b g : Nat} {zs : List Int} {k n : Nat} (h : VarIs w b g zs k n) (hb : Below w.heap.size w w') : VarIs w' b g zs k n := ⟨h.1.below hb h.1.lt, h.2.on hb⟩
theorem VarIs.new {w : World} {g : Nat} {zs : List Int} {k n : Nat} (h : Row w w.heap.size (some ⟨g, 0, none⟩) (u8s zs)) : VarIs (w.alloc (.cells #[.slice (some ⟨g, 0, none⟩) k k, .int .i64 n] 24)) w.heap.size g zs k n :=
  ⟨Whole.new w _ [_, _], h.on (below1 _ _)⟩
theorem VarIs.conc {w : World} {b g : Nat} {zs : List Int} {k n : Nat} (h : VarIs w b g zs k n) : Conc w (.agg #[.slice (some ⟨g, 0, none⟩) k k, .int .i64 n]) zs k n := ⟨g, rfl, h.2⟩
theorem new_row_at (w : World) (t : TypeId) (cs : List Value) (n : Nat) (hn : n = w.heap.size) : Row (w.alloc (.cells cs.toArray t)) (w.alloc (.cells cs.toArray t)).heap.size (some ⟨n, 0, none⟩) cs := (Whole.new_at w t cs n hn).row (by subst hn; simp)
theorem new_row_drew (w : World) (t : TypeId) (cs : List Value) (n : Nat) (hn : n = w.heap.size) : Row (w.alloc (.cells cs.toArray t)).drew (w.alloc (.cells cs.toArray t)).drew.heap.size (some ⟨n, 0, none⟩) cs := (new_row_at w t cs n hn).on (Below.refl _ _).drew
theorem new_row (w : World) (t : TypeId) (cs : List Value) : Row (w.alloc (.cells cs.toArray t)) (w.alloc (.cells cs.toArray t)).heap.size (some ⟨w.heap.size, 0, none⟩) cs := (Whole.new w t cs).row (by simp)

/-- The four variables, and that nothing that lay has turned. -/
structure Inv (w : World) (ba bb bc bd ga gb gc gd : Nat) (W : World) : Prop where
  A : VarIs W ba ga [160] 1 3
  B : VarIs W bb gb [178, 192] 2 12
  C : VarIs W bc gc [182, 128] 2 9
  D : VarIs W bd gd [160] 1 8
  S : Below w.heap.size w W
theorem Inv.on {w W W' : World} {ba bb bc bd ga gb gc gd : Nat} (h : Inv w ba bb bc bd ga gb gc gd W) (hb : Below W.heap.size W W') : Inv w ba bb bc bd ga gb gc gd W' :=
  ⟨h.A.on hb, h.B.on hb, h.C.on hb, h.D.on hb, h.S.trans (hb.mono h.S.size)⟩
theorem Inv.drew {w W : World} {ba bb bc bd ga gb gc gd : Nat} (h : Inv w ba bb bc bd ga gb gc gd W) : Inv w ba bb bc bd ga gb gc gd W.drew := h.on (Below.refl _ _).drew
theorem Inv.all {w W : World} {ba bb bc bd ga gb gc gd : Nat} (h : Inv w ba bb bc bd ga gb gc gd W) : Inv w ba bb bc bd ga gb gc gd W ∧ W.cell? ⟨ba, 0, none⟩ = some (.slice (some ⟨ga, 0, none⟩) 1 1) ∧ W.cell? ⟨ba, 1, none⟩ = some (.int .i64 3) ∧ W.cell? ⟨bb, 0, none⟩ = some (.slice (some ⟨gb, 0, none⟩) 2 2) ∧ W.cell? ⟨bb, 1, none⟩ = some (.int .i64 12) ∧
    W.cell? ⟨bc, 0, none⟩ = some (.slice (some ⟨gc, 0, none⟩) 2 2) ∧ W.cell? ⟨bc, 1, none⟩ = some (.int .i64 9) ∧ W.cell? ⟨bd, 0, none⟩ = some (.slice (some ⟨gd, 0, none⟩) 1 1) ∧ W.cell? ⟨bd, 1, none⟩ = some (.int .i64 8) :=
  ⟨h, h.A.1.cell_at 0 rfl, h.A.1.cell_at 1 rfl, h.B.1.cell_at 0 rfl, h.B.1.cell_at 1 rfl, h.C.1.cell_at 0 rfl, h.C.1.cell_at 1 rfl, h.D.1.cell_at 0 rfl, h.D.1.cell_at 1 rfl⟩

theorem wk_sameR (g g' : Nat) (a b : List Int) (k n : Nat) (N : Int) (hN : N = (n : Int)) (w : World) (hk : a.length = k) (hb' : b.length = k) (h : Row w w.heap.size (some ⟨g, 0, none⟩) (u8s a)) (h' : Row w w.heap.size (some ⟨g', 0, none⟩) (u8s b)) (hb : ∀ z ∈ a, IsByte z) (he : a = b) (c c' : Nat) :
    Calls Try.prog 13 #[.agg #[.slice (some ⟨g, 0, none⟩) k c, .int .i64 N], .agg #[.slice (some ⟨g', 0, none⟩) k c', .int .i64 N]] w fun e w' => e = .returned (.bool true) ∧ Below w.heap.size w w' := by
  subst hN
  subst he
  have h := sameR_any (some ⟨g, 0, none⟩) (some ⟨g', 0, none⟩) c c' a a n n w h h' hb hb
  rw [hk] at h
  simpa [sameB] using h
theorem wk_same (g g' : Nat) (a : List Int) (k n : Nat) (N : Int) (hN : N = (n : Int)) (w : World) (hk : a.length = k) (h : Row w w.heap.size (some ⟨g, 0, none⟩) (u8s a)) (h' : Row w w.heap.size (some ⟨g', 0, none⟩) (u8s a)) (hb : ∀ z ∈ a, IsByte z) (c c' : Nat) :
    Calls Try.prog 20 #[.agg #[.slice (some ⟨g, 0, none⟩) k c, .int .i64 N], .agg #[.slice (some ⟨g', 0, none⟩) k c', .int .i64 N]] w fun e w' => e = .returned (.bool true) ∧ Below w.heap.size w w' := by
  subst hN
  have h := same_any (some ⟨g, 0, none⟩) (some ⟨g', 0, none⟩) c c' a a n n w h h' hb hb
  rw [hk] at h
  simpa [sameB] using h
theorem wk_unlike (g g' : Nat) (w : World) (h : Row w w.heap.size (some ⟨g, 0, none⟩) (u8s [160])) (h' : Row w w.heap.size (some ⟨g', 0, none⟩) (u8s [178, 192])) (c c' : Nat) :
    Calls Try.prog 20 #[.agg #[.slice (some ⟨g, 0, none⟩) 1 c, .int .i64 3], .agg #[.slice (some ⟨g', 0, none⟩) 2 c', .int .i64 12]] w fun e w' => e = .returned (.bool false) ∧ Below w.heap.size w w' := by
  have h := same_any (some ⟨g, 0, none⟩) (some ⟨g', 0, none⟩) c c' [160] [178, 192] 3 12 w h h' (byte_one _ ⟨by omega, by omega⟩) (byte_list _ _ ⟨by omega, by omega⟩ ⟨by omega, by omega⟩)
  simpa using h
theorem bA : ∀ z ∈ [(160 : Int)], IsByte z := byte_one _ ⟨by omega, by omega⟩
theorem bB : ∀ z ∈ [(178 : Int), 192], IsByte z := byte_list _ _ ⟨by omega, by omega⟩ ⟨by omega, by omega⟩
theorem bC : ∀ z ∈ [(182 : Int), 128], IsByte z := byte_list _ _ ⟨by omega, by omega⟩ ⟨by omega, by omega⟩
theorem wk_right (g c : Nat) (w : World) (h : Row w w.heap.size (some ⟨g, 0, none⟩) (u8s [178, 192])) :
    Calls Try.prog 18 #[.agg #[.slice (some ⟨g, 0, none⟩) 2 c, .int .i64 12]] w fun e w' => e = .returned (.bool true) ∧ Below w.heap.size w w' := by
  have h := right_any (some ⟨g, 0, none⟩) c [178, 192] 12 w h (byte_list _ _ ⟨by omega, by omega⟩ ⟨by omega, by omega⟩) (by decide) (by omega) (by omega)
  rw [show rightB [178, 192] 12 = true by decide +kernel] at h
  exact h
theorem wk_wrong (w : World) :
    Calls Try.prog 18 #[.agg #[.slice none 0 0, .int .i64 1]] w fun e w' => e = .returned (.bool false) ∧ Below w.heap.size w w' := by
  have h := right_any none 0 [] 1 w (Row.nil _ _ _) (by simp) (by decide) (by omega) (by omega)
  rw [show rightB [] 1 = false by decide +kernel] at h
  exact h

/-- What a call was handed lies on as it lay, behind the caller's new blocks. -/
theorem on1 {w w' : World} {o : Obj} (h : Below (w.alloc o).heap.size (w.alloc o) w') : Below w.heap.size w w' := (below1 w o).trans (h.mono (by simp))
theorem on2 {w w' : World} {o o' : Obj} (h : Below ((w.alloc o).alloc o').heap.size ((w.alloc o).alloc o') w') : Below w.heap.size w w' := (below2 w o o').trans (h.mono (by simp; omega))

set_option maxRecDepth 100000 in
set_option maxHeartbeats 8000000 in
theorem wakes_any (w : World) : Calls Try.prog 8 #[] w fun e w' => e = .returned (.bool true) ∧ Below w.heap.size w w' := by
  go_enter Try.func8, Try.ntmps8
  go_wp2_with fail
  refine (wk_put1 _).mono ?_
  rintro e w1 ⟨v1, rfl, ⟨ga, rfl, ra⟩, hB1⟩
  go_wp2_with fail
  refine (wk_put2 _ _ (by exact (VarIs.new ra).conc)).mono ?_
  rintro e w2 ⟨v2, rfl, ⟨gb, rfl, rb⟩, hB2⟩
  have A2 := (VarIs.new ra (k := 1) (n := 3)).on hB2
  have S2 := hB1.trans ((on1 hB2).mono hB1.size)
  clear hB1 hB2 ra
  have a0 := A2.1.cell_at 0 rfl
  have a1 := A2.1.cell_at 1 rfl
  go_wp2_with fail
  refine (wk_take1 _ _ (by exact (VarIs.new rb).conc)).mono ?_
  rintro e w3 ⟨rfl, hB3⟩
  have A3 := A2.on (on1 hB3)
  have B3 := (VarIs.new rb (k := 2) (n := 12)).on hB3
  have S3 := S2.trans ((on1 hB3).mono S2.size)
  clear S2 hB3 A2 a0 a1 rb
  have a0 := A3.1.cell_at 0 rfl
  have a1 := A3.1.cell_at 1 rfl
  have b0 := B3.1.cell_at 0 rfl
  have b1 := B3.1.cell_at 1 rfl
  go_wp2_with fail
  refine (wk_take2 _ _ (by exact B3.conc)).mono ?_
  rintro e w4 ⟨rfl, hB4⟩
  have A4 := A3.on hB4
  have B4 := B3.on hB4
  have S4 := S3.trans (hB4.mono S3.size)
  clear S3 hB4 A3 B3 a0 a1 b0 b1
  have a0 := A4.1.cell_at 0 rfl
  have a1 := A4.1.cell_at 1 rfl
  have b0 := B4.1.cell_at 0 rfl
  have b1 := B4.1.cell_at 1 rfl
  go_wp2_with fail
  refine (wk_put3 _ _ (by exact A4.conc)).mono ?_
  rintro e w5 ⟨rfl, hB5⟩
  have A5 := A4.on hB5
  have B5 := B4.on hB5
  have S5 := S4.trans (hB5.mono S4.size)
  clear S4 hB5 A4 B4 a0 a1 b0 b1
  have hw5 : w5.heap.size < w5.heap.size + 1 := Nat.lt_succ_self _
  have A5' := fun o => A5.on (below1 w5 o)
  have a0 := fun o => (A5' o).1.cell_at 0 rfl
  have a1 := fun o => (A5' o).1.cell_at 1 rfl
  go_wp2_with fail
  refine (wk_flags _ _ (by exact (A5.on (below2 _ _ _)).conc) _ _ (by exact new_row_at (w5.alloc _) _ [_, _, _, _, _, _] _ (by simp))).mono ?_
  rintro e w6 ⟨v6, rfl, ⟨gc, rfl, rc⟩, hB6⟩
  have A6 := A5.on (on2 hB6)
  have B6 := B5.on (on2 hB6)
  have S6 := S5.trans ((on2 hB6).mono S5.size)
  clear S5 hB6 A5 B5 A5' a0 a1 hw5
  have a0 := fun o => (A6.on (below1 w6 o)).1.cell_at 0 rfl
  have a1 := fun o => (A6.on (below1 w6 o)).1.cell_at 1 rfl
  go_wp2_with fail
  refine (wk_pad _ _ (by exact (A6.on (below1 _ _)).conc)).mono ?_
  rintro e w7 ⟨v7, rfl, ⟨gd, rfl, rd⟩, hB7⟩
  have A7 := A6.on (on1 hB7)
  have B7 := B6.on (on1 hB7)
  have C7 := (VarIs.new rc (k := 2) (n := 9)).on hB7
  have S7 := S6.trans ((on1 hB7).mono S6.size)
  clear S6 hB7 A6 B6 rc a0 a1
  have D8 := VarIs.new rd (k := 1) (n := 8)
  have I8 : Inv w w1.heap.size w2.heap.size w6.heap.size w7.heap.size ga gb gc gd _ := ⟨A7.on (below1 _ _), B7.on (below1 _ _), C7.on (below1 _ _), D8, S7.trans ((below1 _ _).mono S7.size)⟩
  clear A7 B7 C7 D8 S7 rd
  go_wp2_with fail
  obtain ⟨W8, hW8⟩ : ∃ W, W = w7.alloc (.cells #[.slice (some ⟨gd, 0, none⟩) 1 1, .int .i64 8] 24) := ⟨_, rfl⟩
  rw [← hW8]
  have I8 : Inv w w1.heap.size w2.heap.size w6.heap.size w7.heap.size ga gb gc gd W8 := hW8 ▸ I8
  clear hW8
  simp only [List.append_eq, List.cons_append, List.nil_append]
  go_region_held3 (fun W => Inv w w1.heap.size w2.heap.size w6.heap.size w7.heap.size ga gb gc gd W ∧ W.cell? ⟨w1.heap.size, 0, none⟩ = some (.slice (some ⟨ga, 0, none⟩) 1 1) ∧ W.cell? ⟨w1.heap.size, 1, none⟩ = some (.int .i64 3) ∧ W.cell? ⟨w2.heap.size, 0, none⟩ = some (.slice (some ⟨gb, 0, none⟩) 2 2) ∧ W.cell? ⟨w2.heap.size, 1, none⟩ = some (.int .i64 12) ∧
      W.cell? ⟨w6.heap.size, 0, none⟩ = some (.slice (some ⟨gc, 0, none⟩) 2 2) ∧ W.cell? ⟨w6.heap.size, 1, none⟩ = some (.int .i64 9) ∧ W.cell? ⟨w7.heap.size, 0, none⟩ = some (.slice (some ⟨gd, 0, none⟩) 1 1) ∧ W.cell? ⟨w7.heap.size, 1, none⟩ = some (.int .i64 8))
    (first
      | exact I8.drew.all
      | exact ((‹Inv _ _ _ _ _ _ _ _ _ _ ∧ _›).1.on hB).all
      | exact ((‹Inv _ _ _ _ _ _ _ _ _ _ ∧ _›).1.on (below1 _ _)).all)
    (first
      | (go_at_call 13; (with_reducible refine (wk_sameR _ _ [160] [160] 1 3 _ ?_ _ rfl rfl ?_ ?_ bA rfl _ _).mono ?_); (next => rfl); (next => exact ((‹Inv _ _ _ _ _ _ _ _ _ _ ∧ _›).1).A.2); (next => first | exact new_row_at _ _ [_] _ (by simp) | exact new_row_drew _ _ [_] _ (by simp)); rintro e w' ⟨rfl, hB⟩)
      | (go_at_call 13; (with_reducible refine (wk_sameR _ _ [178, 192] [178, 192] 2 12 _ ?_ _ rfl rfl ?_ ?_ bB rfl _ _).mono ?_); (next => rfl); (next => exact ((‹Inv _ _ _ _ _ _ _ _ _ _ ∧ _›).1).B.2); (next => first | exact new_row_at _ _ [_, _] _ (by simp) | exact new_row_drew _ _ [_, _] _ (by simp)); rintro e w' ⟨rfl, hB⟩)
      | (go_at_call 13; (with_reducible refine (wk_sameR _ _ [182, 128] [182, 128] 2 9 _ ?_ _ rfl rfl ?_ ?_ bC rfl _ _).mono ?_); (next => rfl); (next => exact ((‹Inv _ _ _ _ _ _ _ _ _ _ ∧ _›).1).C.2); (next => first | exact new_row_at _ _ [_, _] _ (by simp) | exact new_row_drew _ _ [_, _] _ (by simp)); rintro e w' ⟨rfl, hB⟩)
      | (go_at_call 22; (with_reducible refine (wk_of _ _ _ ?_).mono ?_); (next => first | exact new_row_at _ _ [_] _ (by simp) | exact new_row_drew _ _ [_] _ (by simp)); rintro e w' ⟨v', rfl, ⟨go, rfl, ro⟩, hB⟩)
      | (go_at_call 13; (with_reducible refine (wk_sameR _ _ [160] [160] 1 8 _ ?_ _ rfl rfl ?_ ?_ bA rfl _ _).mono ?_); (next => rfl); (next => exact ((‹Inv _ _ _ _ _ _ _ _ _ _ ∧ _›).1).D.2); (next => exact ro); rintro e w' ⟨rfl, hB⟩)
      | (go_at_call 18; (with_reducible refine (wk_right _ _ _ ?_).mono ?_); (next => exact ((‹Inv _ _ _ _ _ _ _ _ _ _ ∧ _›).1).B.2); rintro e w' ⟨rfl, hB⟩)
      | (go_at_call 18; (with_reducible refine (wk_wrong _).mono ?_); rintro e w' ⟨rfl, hB⟩)
      | (go_at_call 21; (with_reducible refine (wk_own _ _ ?_).mono ?_); (next => exact ((‹Inv _ _ _ _ _ _ _ _ _ _ ∧ _›).1).B.conc); rintro e w' ⟨v', rfl, ⟨gw, rfl, rw_⟩, hB⟩)
      | (go_at_call 20; (with_reducible refine (wk_same _ _ [178, 192] 2 12 _ ?_ _ rfl ?_ ?_ bB _ _).mono ?_); (next => rfl); (next => exact ((‹Inv _ _ _ _ _ _ _ _ _ _ ∧ _›).1).B.2); (next => exact rw_); rintro e w' ⟨rfl, hB⟩)
      | (go_at_call 20; (with_reducible refine (wk_unlike _ _ _ ?_ ?_ _ _).mono ?_); (next => exact ((‹Inv _ _ _ _ _ _ _ _ _ _ ∧ _›).1).A.2); (next => exact ((‹Inv _ _ _ _ _ _ _ _ _ _ ∧ _›).1).B.2); rintro e w' ⟨rfl, hB⟩; have hS := ((‹Inv _ _ _ _ _ _ _ _ _ _ ∧ _›).1.on hB).S))
  all_goals (go_wp2_with fail; first | (go_ret; exact ⟨rfl, hS⟩) | exact ⟨rfl, hS⟩)
end Go.Proofs.Ytaaaehaiimmnhaa
