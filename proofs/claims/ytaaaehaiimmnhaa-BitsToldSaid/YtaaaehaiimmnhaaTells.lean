/- Which bits may be, what is put, taken, padded, the same: as the document's own say. -/
import Derived.Test.YtaaaehaiimmnhaaBitsY
import Derived.Test.YtaaaehaiimmnhaaSumsR
import Derived.Deep.RegionHeld3
namespace Go.Proofs.Ytaaaehaiimmnhaa
open Go.RowKit Go.Shelf
set_option linter.unusedVariables false

/-- The two inputs in their variables, and that nothing that lay has turned. -/
structure Two (w : World) (bx by_ : Nat) (A A' : Option Addr) (c c' : Nat) (zs ys : List Int) (N M : Int) (W : World) : Prop where
  X : Var W bx A c zs N
  Y : Var W by_ A' c' ys M
  S : Below w.heap.size w W
theorem Two.on {w W W' : World} {bx by_ : Nat} {A A' : Option Addr} {c c' : Nat} {zs ys : List Int} {N M : Int} (h : Two w bx by_ A A' c c' zs ys N M W) (hb : Below W.heap.size W W') : Two w bx by_ A A' c c' zs ys N M W' :=
  ⟨h.X.on hb, h.Y.on hb, h.S.trans (hb.mono h.S.size)⟩
theorem Two.all {w W : World} {bx by_ : Nat} {A A' : Option Addr} {c c' : Nat} {zs ys : List Int} {N M : Int} (h : Two w bx by_ A A' c c' zs ys N M W) : Two w bx by_ A A' c c' zs ys N M W ∧ W.cell? ⟨bx, 0, none⟩ = some (.slice A zs.length c) ∧ W.cell? ⟨bx, 1, none⟩ = some (.int .i64 N) ∧ W.cell? ⟨by_, 0, none⟩ = some (.slice A' ys.length c') ∧ W.cell? ⟨by_, 1, none⟩ = some (.int .i64 M) :=
  ⟨h, h.X.1.cell_at 0 rfl, h.X.1.cell_at 1 rfl, h.Y.1.cell_at 0 rfl, h.Y.1.cell_at 1 rfl⟩

set_option maxRecDepth 100000 in
set_option maxHeartbeats 8000000 in
theorem tells_walk (A A' L : Option Addr) (cx cy cl : Nat) (zs ys : List Int) (N M n k a : Int) (fl : List Bool) (w : World) (hr : Row w w.heap.size A (u8s zs)) (hb : ∀ z ∈ zs, IsByte z) (hr' : Row w w.heap.size A' (u8s ys)) (hb' : ∀ z ∈ ys, IsByte z)
    (hN0 : -9223372036854775808 ≤ N) (hN1 : N ≤ 9223372036854775807) (hn : n ≤ 9223372036854775807) (ha : a ≤ 9223372036854775807) (hrl : Row w w.heap.size L (bools fl)) :
    Calls Try.prog 3 #[.agg #[.slice A zs.length cx, .int .i64 N], .agg #[.slice A' ys.length cy, .int .i64 M], .int .i64 n, .int .i64 k, .int .i64 a, .slice L fl.length cl] w fun e w' => e = .returned (.bool true) ∧ Below w.heap.size w w' := by
  by_cases h1 : 1000 < zs.length
  · have c1 : (1000 : Int) < (zs.length : Int) := by omega
    go_enter Try.func3, Try.ntmps3
    go_wp2_with fail
    refine (wakes_any _).mono ?_
    rintro e w' ⟨rfl, hB⟩
    go_wp2_with fail
    go_ret
    exact ⟨rfl, on2 hB⟩
  by_cases h2 : 1000 < ys.length
  · have c1 : ¬ (1000 : Int) < (zs.length : Int) := by omega
    have c2 : (1000 : Int) < (ys.length : Int) := by omega
    go_enter Try.func3, Try.ntmps3
    go_wp2_with fail
    refine (wakes_any _).mono ?_
    rintro e w' ⟨rfl, hB⟩
    go_wp2_with fail
    go_ret
    exact ⟨rfl, on2 hB⟩
  by_cases h3 : 1000 < fl.length
  · have c1 : ¬ (1000 : Int) < (zs.length : Int) := by omega
    have c2 : ¬ (1000 : Int) < (ys.length : Int) := by omega
    have c3 : (1000 : Int) < (fl.length : Int) := by omega
    go_enter Try.func3, Try.ntmps3
    go_wp2_with fail
    refine (wakes_any _).mono ?_
    rintro e w' ⟨rfl, hB⟩
    go_wp2_with fail
    go_ret
    exact ⟨rfl, on2 hB⟩
  have G : Given w A zs N := ⟨hr, hb, by omega, hN0, hN1⟩
  have c1 : ¬ (1000 : Int) < (zs.length : Int) := by omega
  have c2 : ¬ (1000 : Int) < (ys.length : Int) := by omega
  have c3 : ¬ (1000 : Int) < (fl.length : Int) := by omega
  have T0 : Two w w.heap.size (w.heap.size + 1) A A' cx cy zs ys N M ((w.alloc (.cells #[.slice A zs.length cx, .int .i64 N] 24)).alloc (.cells #[.slice A' ys.length cy, .int .i64 M] 24)) :=
    ⟨(Var.new ⟨hr, hb⟩ cx N).on (below1 _ _), Var.new_at (Hands.on ⟨hr', hb'⟩ (below1 _ _)) cy M _ (by simp), below2 _ _ _⟩
  go_enter Try.func3, Try.ntmps3
  go_wp2_with fail
  refine (put_all A cx zs N n k _ (by exact G.on (below2 _ _ _)) hn).mono ?_
  rintro e w1 ⟨A1, k1, y1, M1, e1, rfl, H1, P1, hB⟩
  have T1 := T0.on hB
  clear hB T0
  have x0 := fun o => (T1.on (below1 w1 o)).X.1.cell_at 0 rfl
  have x1 := fun o => (T1.on (below1 w1 o)).X.1.cell_at 1 rfl
  go_wp2_with fail
  refine (putR_all A cx zs N n k _ (by exact (G.on T1.S).on (below1 _ _)) hn).mono ?_
  rintro e w2 ⟨A2, k2, y2, M2, e2, rfl, H2, P2, hB⟩
  obtain ⟨rfl, rfl, rfl⟩ := P1.det P2
  have T2 := T1.on (on1 hB)
  have V2 := (Var.new H1 k1 M1).on hB
  have lt1 : w.heap.size + 1 < w1.heap.size := T1.Y.1.lt
  clear hB T1 x0 x1 H1 P1 P2
  have x0 := fun o => (T2.on (below1 w2 o)).X.1.cell_at 0 rfl
  have x1 := fun o => (T2.on (below1 w2 o)).X.1.cell_at 1 rfl
  go_wp2_with fail
  refine (flags_all A L cx cl zs N fl _ (by exact (G.on T2.S).on (below1 _ _)) (by exact (hrl.on T2.S).on (below1 _ _)) (by omega)).mono ?_
  rintro e w3 ⟨A3, k3, y3, M3, e3, rfl, H3, P3, hB⟩
  have T3 := T2.on (on1 hB)
  have V3 := V2.on (on1 hB)
  have U3 := (Var.new H2 k2 M1).on hB
  have lt2 : w1.heap.size < w2.heap.size := V2.1.lt
  clear hB T2 V2 x0 x1 H2
  have x0 := fun o => (T3.on (below1 w3 o)).X.1.cell_at 0 rfl
  have x1 := fun o => (T3.on (below1 w3 o)).X.1.cell_at 1 rfl
  go_wp2_with fail
  refine (flagsR_all A L cx cl zs N fl _ (by exact (G.on T3.S).on (below1 _ _)) (by exact (hrl.on T3.S).on (below1 _ _)) (by omega)).mono ?_
  rintro e w4 ⟨A4, k4, y4, M4, e4, rfl, H4, P4, hB⟩
  obtain ⟨rfl, rfl, rfl⟩ := P3.det P4
  have T4 := (T3.on (on1 hB))
  have V4 := V3.on (on1 hB)
  have U4 := U3.on (on1 hB)
  have R4 := (Var.new H3 k3 M3).on hB
  clear hB T3 V3 U3 x0 x1 H3 P3 P4
  have S4' := T4.S
  have va0 := fun o => (V4.on (below1 w4 o)).1.cell_at 0 rfl
  have va1 := fun o => (V4.on (below1 w4 o)).1.cell_at 1 rfl
  have vb0 := fun o => (U4.on (below1 w4 o)).1.cell_at 0 rfl
  have vb1 := fun o => (U4.on (below1 w4 o)).1.cell_at 1 rfl
  go_wp2_with fail
  refine (like A1 A2 k1 k2 y1 M1 _ (by exact (V4.on (below1 _ _)).2) (by exact (U4.on (below1 _ _)).2)).mono ?_
  rintro e w5 ⟨rfl, hB⟩
  have T5 := T4.on (on1 hB)
  have V5 := V4.on (on1 hB)
  have U5 := U4.on (on1 hB)
  have R5 := R4.on (on1 hB)
  have Q5 := (Var.new H4 k4 M3).on hB
  clear hB T4 V4 U4 R4 va0 va1 vb0 vb1 H4 S4'
  have vc0 := R5.1.cell_at 0 rfl
  have vc1 := R5.1.cell_at 1 rfl
  have vd0 := Q5.1.cell_at 0 rfl
  have vd1 := Q5.1.cell_at 1 rfl
  go_wp2_with fail
  refine (like A3 A4 k3 k4 y3 M3 _ (by exact R5.2) (by exact Q5.2)).mono ?_
  rintro e w6 ⟨rfl, hB⟩
  have T6 := T5.on hB
  have V6 := V5.on hB
  have U6 := U5.on hB
  clear hB T5 V5 U5 R5 Q5 vc0 vc1 vd0 vd1
  have x0 := T6.X.1.cell_at 0 rfl
  have x1 := T6.X.1.cell_at 1 rfl
  go_wp2_with fail
  refine (pad_new A cx zs N _ (by exact G.on T6.S)).mono ?_
  rintro e w7 ⟨A7, k7, y7, M7, e7, rfl, H7, F7, P7, hB⟩
  have T7 := T6.on hB
  have V7 := V6.on hB
  have U7 := U6.on hB
  have l1 : w1.heap.size < w6.heap.size := V6.1.lt
  have l2 : w2.heap.size < w6.heap.size := U6.1.lt
  have g1 : ∀ q, A7 = some q → w1.heap.size < q.block := fun q hq => by have := F7 q hq; omega
  have g2 : ∀ q, A7 = some q → w2.heap.size < q.block := fun q hq => by have := F7 q hq; omega
  clear hB T6 V6 U6 x0 x1
  have f0 := V7.1.frozen 0
  have va0 := V7.1.cell_at 0 rfl
  have va1 := fun u => (V7.1.set 0 u).cell_at 1 rfl
  have f1 := fun u => (V7.1.set 0 u).frozen 1
  have V8 := Var.put (cap' := k7) (M' := M7) V7.1 H7 g1
  obtain ⟨W8, hW8⟩ : ∃ W, W = ((w7.setCell ⟨w1.heap.size, 0, none⟩ (.slice A7 y7.length k7)).setCell ⟨w1.heap.size, 1, none⟩ (.int .i64 M7)) := ⟨_, rfl⟩
  have S8 : Below w.heap.size w W8 := hW8 ▸ below_put T7.S (by omega) _ _
  have X8 : Whole W8 w.heap.size 24 [.slice A zs.length cx, .int .i64 N] := hW8 ▸ (T7.X.1.far (p := ⟨w1.heap.size, 0, none⟩) (by simp; omega) _).far (p := ⟨w1.heap.size, 1, none⟩) (by simp; omega) _
  have Y8 : Whole W8 (w.heap.size + 1) 24 [.slice A' ys.length cy, .int .i64 M] := hW8 ▸ (T7.Y.1.far (p := ⟨w1.heap.size, 0, none⟩) (by simp; omega) _).far (p := ⟨w1.heap.size, 1, none⟩) (by simp; omega) _
  have U8 : Whole W8 w2.heap.size 24 [.slice A2 y1.length k2, .int .i64 M1] := hW8 ▸ (U7.1.far (p := ⟨w1.heap.size, 0, none⟩) (by simp; omega) _).far (p := ⟨w1.heap.size, 1, none⟩) (by simp; omega) _
  have V8 : Var W8 w1.heap.size A7 k7 y7 M7 := hW8 ▸ V8
  have T8 : Two w w.heap.size (w.heap.size + 1) A A' cx cy zs ys N M W8 := ⟨⟨X8, Hands.on ⟨hr, hb⟩ S8⟩, ⟨Y8, Hands.on ⟨hr', hb'⟩ S8⟩, S8⟩
  have x0 := X8.cell_at 0 rfl
  have x1 := X8.cell_at 1 rfl
  rw [hW8] at x0 x1
  go_wp2_with fail
  rw [← hW8]
  clear hW8 x0 x1 f0 f1 va0 va1 T7 V7 U7 H7 F7 X8 Y8
  refine (padR_new A cx zs N _ (by exact G.on T8.S)).mono ?_
  rintro e w9 ⟨A9, k9, y9, M9, e9, rfl, H9, F9, P9, hB⟩
  obtain ⟨rfl, rfl, rfl⟩ := P7.det P9
  have T9 := T8.on hB
  have V9 := V8.on hB
  have U9 := U8.below hB U8.lt
  have l3 : w2.heap.size < W8.heap.size := U8.lt
  have g3 : ∀ q, A9 = some q → w2.heap.size < q.block := fun q hq => by have := F9 q hq; omega
  clear hB T8 V8 U8 g1
  have f0 := U9.frozen 0
  have f1 := fun u => (U9.set 0 u).frozen 1
  have va0 := U9.cell_at 0 rfl
  have va1 := fun u => (U9.set 0 u).cell_at 1 rfl
  obtain ⟨W10, hW10⟩ : ∃ W, W = ((w9.setCell ⟨w2.heap.size, 0, none⟩ (.slice A9 y7.length k9)).setCell ⟨w2.heap.size, 1, none⟩ (.int .i64 M7)) := ⟨_, rfl⟩
  have S10 : Below w.heap.size w W10 := hW10 ▸ below_put T9.S (by omega) _ _
  have X10 : Whole W10 w.heap.size 24 [.slice A zs.length cx, .int .i64 N] := hW10 ▸ (T9.X.1.far (p := ⟨w2.heap.size, 0, none⟩) (by simp; omega) _).far (p := ⟨w2.heap.size, 1, none⟩) (by simp; omega) _
  have Y10 : Whole W10 (w.heap.size + 1) 24 [.slice A' ys.length cy, .int .i64 M] := hW10 ▸ (T9.Y.1.far (p := ⟨w2.heap.size, 0, none⟩) (by simp; omega) _).far (p := ⟨w2.heap.size, 1, none⟩) (by simp; omega) _
  have V10 : Var W10 w1.heap.size A7 k7 y7 M7 := hW10 ▸ V9.away (by omega) g2 _ _
  have U10 : Var W10 w2.heap.size A9 k9 y7 M7 := hW10 ▸ Var.put U9 H9 g3
  have T10 : Two w w.heap.size (w.heap.size + 1) A A' cx cy zs ys N M W10 := ⟨⟨X10, Hands.on ⟨hr, hb⟩ S10⟩, ⟨Y10, Hands.on ⟨hr', hb'⟩ S10⟩, S10⟩
  have x0 := X10.cell_at 0 rfl
  have x1 := X10.cell_at 1 rfl
  rw [hW10] at x0 x1
  go_wp2_with fail
  rw [← hW10]
  clear hW10 x0 x1 f0 f1 va0 va1 T9 V9 U9 H9 F9 X10 Y10 S10 S8 P7 P9
  refine (take_all A cx zs N a k _ (by exact G.on T10.S)).mono ?_
  rintro e w11 ⟨m, e11, rfl, P11, hB⟩
  have T11 := T10.on hB
  have V11 := V10.on hB
  have U11 := U10.on hB
  clear hB T10 V10 U10
  have x0 := T11.X.1.cell_at 0 rfl
  have x1 := T11.X.1.cell_at 1 rfl
  go_wp2_with fail
  refine (takeR_all A cx zs N a k _ (by exact G.on T11.S) ha).mono ?_
  rintro e w12 ⟨m', e12, rfl, P12, hB⟩
  obtain ⟨rfl, rfl⟩ := P11.det P12
  have T12 := T11.on hB
  have V12 := V11.on hB
  have U12 := U11.on hB
  clear hB T11 V11 U11 x0 x1 P11 P12
  have va0 := V12.1.cell_at 0 rfl
  have va1 := V12.1.cell_at 1 rfl
  have vb0 := U12.1.cell_at 0 rfl
  have vb1 := U12.1.cell_at 1 rfl
  go_wp2_with fail
  refine (like A7 A9 k7 k9 y7 M7 _ (by exact V12.2) (by exact U12.2)).mono ?_
  rintro e w13 ⟨rfl, hB⟩
  have T13 := T12.on hB
  clear hB T12 V12 U12 va0 va1 vb0 vb1 g2 g3
  clear lt1 lt2 l1 l2 l3
  have hzl : zs.length ≤ 2000000 := by omega
  clear c1 c2 c3 h1 h2 h3 hr hb hr' hb' hN0 hN1 hn ha hrl
  go_wp2_with fail
  go_region_held3 (fun W => Two w w.heap.size (w.heap.size + 1) A A' cx cy zs ys N M W ∧ W.cell? ⟨w.heap.size, 0, none⟩ = some (.slice A zs.length cx) ∧ W.cell? ⟨w.heap.size, 1, none⟩ = some (.int .i64 N) ∧ W.cell? ⟨w.heap.size + 1, 0, none⟩ = some (.slice A' ys.length cy) ∧ W.cell? ⟨w.heap.size + 1, 1, none⟩ = some (.int .i64 M))
    (first
      | exact (T13.on (Below.refl _ _).drew).all
      | exact ((‹Two _ _ _ _ _ _ _ _ _ _ _ _ ∧ _›).1.on hB).all)
    (first
      | (go_at_call 18; (with_reducible refine (right_given (A := A) (zs := zs) (N := N) ?_ cx).mono ?_); (next => exact G.on (‹Two _ _ _ _ _ _ _ _ _ _ _ _ ∧ _›).1.S); rintro e w' ⟨rfl, hB⟩)
      | (go_at_call 19; (with_reducible refine (rightR_given (A := A) (zs := zs) (N := N) ?_ cx).mono ?_); (next => exact G.on (‹Two _ _ _ _ _ _ _ _ _ _ _ _ ∧ _›).1.S); rintro e w' ⟨rfl, hB⟩)
      | (go_at_call 20; (with_reducible refine (likeB A A' cx cy zs ys N M _ ?_ ?_).mono ?_); (next => exact (‹Two _ _ _ _ _ _ _ _ _ _ _ _ ∧ _›).1.X.2); (next => exact (‹Two _ _ _ _ _ _ _ _ _ _ _ _ ∧ _›).1.Y.2); rintro e w' ⟨rfl, hB⟩)
      | (go_at_call 21; (with_reducible refine (own_given A cx zs N _ ?_ hzl).mono ?_); (next => exact (‹Two _ _ _ _ _ _ _ _ _ _ _ _ ∧ _›).1.X.2); rintro e w' ⟨go, rfl, ro, hB⟩)
      | (go_at_call 22; (with_reducible refine (of_given A cx zs _ ?_ hzl).mono ?_); (next => exact (‹Two _ _ _ _ _ _ _ _ _ _ _ _ ∧ _›).1.X.2); rintro e w' ⟨gf, rfl, rf, hB⟩)
      | (go_at_call 23; (with_reducible refine (ofR_given A cx zs _ ?_ hzl).mono ?_); (next => exact (‹Two _ _ _ _ _ _ _ _ _ _ _ _ ∧ _›).1.X.2); rintro e w' ⟨gr, cr, rfl, rr, hB⟩; have rf := rf.on hB)
      | (go_at_call 13; (with_reducible refine (likeR A A' cx cy zs ys N M _ ?_ ?_).mono ?_); (next => exact (‹Two _ _ _ _ _ _ _ _ _ _ _ _ ∧ _›).1.X.2); (next => exact (‹Two _ _ _ _ _ _ _ _ _ _ _ _ ∧ _›).1.Y.2); rintro e w' ⟨rfl, hB⟩)
      | (go_at_call 13; (with_reducible refine (like _ A _ cx zs N _ ?_ ?_).mono ?_); (next => exact ro); (next => exact (‹Two _ _ _ _ _ _ _ _ _ _ _ _ ∧ _›).1.X.2); rintro e w' ⟨rfl, hB⟩)
      | (go_at_call 13; (with_reducible refine (like _ _ _ _ zs (8 * (zs.length : Int)) _ ?_ ?_).mono ?_); (next => exact rf); (next => exact rr); rintro e w' ⟨rfl, hB⟩)
      | (go_at_call 8; (with_reducible refine (wakes_any _).mono ?_); rintro e w' ⟨rfl, hB⟩; have hS := ((‹Two _ _ _ _ _ _ _ _ _ _ _ _ ∧ _›).1.on hB).S))
  all_goals (go_wp2_with fail; first | (go_ret; exact ⟨rfl, hS⟩) | exact ⟨rfl, hS⟩)
end Go.Proofs.Ytaaaehaiimmnhaa
