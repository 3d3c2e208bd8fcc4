/- What takePort, takeFlank take. -/
import Derived.Test.YtegflmaobmibnaaGreatDoorQPlanS
namespace Go.Proofs.YtegflmaobmibnaaGreatDoor
set_option maxRecDepth 100000
open Go.RowKit Go.Shelf
set_option linter.unusedVariables false
set_option linter.unusedSimpArgs false

section
variable {bx ba g : Nat} {zs : List Int} {l : List Bool} (hA : Are zs (8 * (zs.length : Int)) l) (hz : zs.length ≤ 2000)
include hA hz
set_option maxHeartbeats 4000000 in
theorem port_take (s : Nat) (w : World) (hT : Taker bx ba g zs s w) (hs : s ≤ l.length) :
    Calls Tryz.prog 106 #[tkV bx ba] w (Out bx ba g zs w (fun p => prtV p.1 p.2) (portP l s)) := by
  have h0 := hT.alloc (.cells [.int .i64 0, .int .i64 0].toArray 48)
  have hB : Bq w.heap.size ba w (w.alloc (.cells [.int .i64 0, .int .i64 0].toArray 48)) := (Bq.refl _ _ _).alloc (Nat.le_refl _) _
  have hR := Whole.new w 48 [.int .i64 0, .int .i64 0]
  have hn : w.heap.size ≠ ba := by have := hT.a.lt; omega
  have hsz : w.heap.size + 1 ≤ (w.alloc (.cells [.int .i64 0, .int .i64 0].toArray 48)).heap.size := by simp
  go_enter Tryz.func106, Tryz.ntmps106
  go_wp2_with fail
  obtain ⟨w0, hw0⟩ : ∃ W, w.alloc (.cells [.int .i64 0, .int .i64 0].toArray 48) = W := ⟨_, rfl⟩
  rw [hw0] at h0 hB hR hsz ⊢
  clear hw0
  go_at_call 110
  refine (take1_any hA hz (K := 5) 5 s w0 rfl (by omega) h0 hs).mono ?_
  rintro e w1 (⟨x1, s1, r1, rfl, h1, hb⟩ | ⟨r1, v, rfl, hb⟩)
  rotate_left
  · exact ⟨rfl, .inr ⟨bnd_none r1, _, rfl, hB.trans (hb.less (by omega))⟩⟩
  replace hs := (Good.num 5 l _ _ _ hs r1).2.1
  replace hB := hB.trans (hb.less (by omega))
  replace hR := hR.bq hb (by omega) hn
  replace hsz := Nat.le_trans hsz hb.size
  clear h0 hb
  have h0 := h1
  clear h1
  go_wp2_with fail
  go_at_call 110
  refine (take1_any hA hz (K := 2) 2 s1 w1 rfl (by omega) h0 hs).mono ?_
  rintro e w2 (⟨x2, s2, r2, rfl, h1, hb⟩ | ⟨r2, v, rfl, hb⟩)
  rotate_left
  · exact ⟨rfl, .inr ⟨((bnd_some r1).trans (bnd_none r2)), _, rfl, hB.trans (hb.less (by omega))⟩⟩
  replace hs := (Good.num 2 l _ _ _ hs r2).2.1
  replace hB := hB.trans (hb.less (by omega))
  replace hR := hR.bq hb (by omega) hn
  replace hsz := Nat.le_trans hsz hb.size
  clear h0 hb
  have h0 := h1
  clear h1
  have z0 := hR.cell_at 0 rfl
  have f0 := hR.frozen 0
  have z1 := hR.cell_at 1 rfl
  have f1 := hR.frozen 1
  have hxb := hT.x.lt
  have hgb := hT.lg
  have hB' := ((hB.set (p := ⟨w.heap.size, 0, none⟩) (.inl (Nat.le_refl _)) (.int .i64 x1)).set (p := ⟨w.heap.size, 1, none⟩) (.inl (Nat.le_refl _)) (.int .i64 x2))
  have hT' := ((h0.far (p := ⟨w.heap.size, 0, none⟩) (by show bx ≠ w.heap.size; omega) hn.symm (by show g ≠ w.heap.size; omega) (.int .i64 x1)).far (p := ⟨w.heap.size, 1, none⟩) (by show bx ≠ w.heap.size; omega) hn.symm (by show g ≠ w.heap.size; omega) (.int .i64 x2))
  have hR' := ((hR.set 0 (.int .i64 x1)).set 1 (.int .i64 x2))
  go_wp2_with fail
  have e0 := hR'.cell_at 0 rfl
  have e1 := hR'.cell_at 1 rfl
  refine bodyPost_ret (v := .agg #[.int .i64 x1, .int .i64 x2]) (by simp [results, Tryz.f106, go_sem, e0, e1]) rfl (.inl ⟨(x1, x2), s2, ((bnd_some r1).trans ((bnd_some r2).trans (show retP _ l s2 = _ from rfl))), rfl, hT', hB'⟩)
set_option maxHeartbeats 4000000 in
theorem flank_take (s : Nat) (w : World) (hT : Taker bx ba g zs s w) (hs : s ≤ l.length) :
    Calls Tryz.prog 108 #[tkV bx ba] w (Out bx ba g zs w (fun f => flkV f.1 f.2.1 f.2.2.1 f.2.2.2) (flankP l s)) := by
  have h0 := hT.alloc (.cells [.int .i64 0, .int .i64 0, .int .i64 0, .int .i64 0].toArray 76)
  have hB : Bq w.heap.size ba w (w.alloc (.cells [.int .i64 0, .int .i64 0, .int .i64 0, .int .i64 0].toArray 76)) := (Bq.refl _ _ _).alloc (Nat.le_refl _) _
  have hR := Whole.new w 76 [.int .i64 0, .int .i64 0, .int .i64 0, .int .i64 0]
  have hn : w.heap.size ≠ ba := by have := hT.a.lt; omega
  have hsz : w.heap.size + 1 ≤ (w.alloc (.cells [.int .i64 0, .int .i64 0, .int .i64 0, .int .i64 0].toArray 76)).heap.size := by simp
  go_enter Tryz.func108, Tryz.ntmps108
  go_wp2_with fail
  obtain ⟨w0, hw0⟩ : ∃ W, w.alloc (.cells [.int .i64 0, .int .i64 0, .int .i64 0, .int .i64 0].toArray 76) = W := ⟨_, rfl⟩
  rw [hw0] at h0 hB hR hsz ⊢
  clear hw0
  go_at_call 110
  refine (take1_any hA hz (K := 5) 5 s w0 rfl (by omega) h0 hs).mono ?_
  rintro e w1 (⟨x1, s1, r1, rfl, h1, hb⟩ | ⟨r1, v, rfl, hb⟩)
  rotate_left
  · exact ⟨rfl, .inr ⟨bnd_none r1, _, rfl, hB.trans (hb.less (by omega))⟩⟩
  replace hs := (Good.num 5 l _ _ _ hs r1).2.1
  replace hB := hB.trans (hb.less (by omega))
  replace hR := hR.bq hb (by omega) hn
  replace hsz := Nat.le_trans hsz hb.size
  clear h0 hb
  have h0 := h1
  clear h1
  go_wp2_with fail
  go_at_call 110
  refine (take1_any hA hz (K := 1) 1 s1 w1 rfl (by omega) h0 hs).mono ?_
  rintro e w2 (⟨x2, s2, r2, rfl, h1, hb⟩ | ⟨r2, v, rfl, hb⟩)
  rotate_left
  · exact ⟨rfl, .inr ⟨((bnd_some r1).trans (bnd_none r2)), _, rfl, hB.trans (hb.less (by omega))⟩⟩
  replace hs := (Good.num 1 l _ _ _ hs r2).2.1
  replace hB := hB.trans (hb.less (by omega))
  replace hR := hR.bq hb (by omega) hn
  replace hsz := Nat.le_trans hsz hb.size
  clear h0 hb
  have h0 := h1
  clear h1
  go_wp2_with fail
  go_at_call 110
  refine (take1_any hA hz (K := 5) 5 s2 w2 rfl (by omega) h0 hs).mono ?_
  rintro e w3 (⟨x3, s3, r3, rfl, h1, hb⟩ | ⟨r3, v, rfl, hb⟩)
  rotate_left
  · exact ⟨rfl, .inr ⟨((bnd_some r1).trans (((bnd_some r2).trans (bnd_none r3)))), _, rfl, hB.trans (hb.less (by omega))⟩⟩
  replace hs := (Good.num 5 l _ _ _ hs r3).2.1
  replace hB := hB.trans (hb.less (by omega))
  replace hR := hR.bq hb (by omega) hn
  replace hsz := Nat.le_trans hsz hb.size
  clear h0 hb
  have h0 := h1
  clear h1
  go_wp2_with fail
  go_at_call 110
  refine (take1_any hA hz (K := 1) 1 s3 w3 rfl (by omega) h0 hs).mono ?_
  rintro e w4 (⟨x4, s4, r4, rfl, h1, hb⟩ | ⟨r4, v, rfl, hb⟩)
  rotate_left
  · exact ⟨rfl, .inr ⟨((bnd_some r1).trans (((bnd_some r2).trans (((bnd_some r3).trans (bnd_none r4)))))), _, rfl, hB.trans (hb.less (by omega))⟩⟩
  replace hs := (Good.num 1 l _ _ _ hs r4).2.1
  replace hB := hB.trans (hb.less (by omega))
  replace hR := hR.bq hb (by omega) hn
  replace hsz := Nat.le_trans hsz hb.size
  clear h0 hb
  have h0 := h1
  clear h1
  have z0 := hR.cell_at 0 rfl
  have f0 := hR.frozen 0
  have z1 := hR.cell_at 1 rfl
  have f1 := hR.frozen 1
  have z2 := hR.cell_at 2 rfl
  have f2 := hR.frozen 2
  have z3 := hR.cell_at 3 rfl
  have f3 := hR.frozen 3
  have hxb := hT.x.lt
  have hgb := hT.lg
  have hB' := ((((hB.set (p := ⟨w.heap.size, 0, none⟩) (.inl (Nat.le_refl _)) (.int .i64 x1)).set (p := ⟨w.heap.size, 1, none⟩) (.inl (Nat.le_refl _)) (.int .i64 x2)).set (p := ⟨w.heap.size, 2, none⟩) (.inl (Nat.le_refl _)) (.int .i64 x3)).set (p := ⟨w.heap.size, 3, none⟩) (.inl (Nat.le_refl _)) (.int .i64 x4))
  have hT' := ((((h0.far (p := ⟨w.heap.size, 0, none⟩) (by show bx ≠ w.heap.size; omega) hn.symm (by show g ≠ w.heap.size; omega) (.int .i64 x1)).far (p := ⟨w.heap.size, 1, none⟩) (by show bx ≠ w.heap.size; omega) hn.symm (by show g ≠ w.heap.size; omega) (.int .i64 x2)).far (p := ⟨w.heap.size, 2, none⟩) (by show bx ≠ w.heap.size; omega) hn.symm (by show g ≠ w.heap.size; omega) (.int .i64 x3)).far (p := ⟨w.heap.size, 3, none⟩) (by show bx ≠ w.heap.size; omega) hn.symm (by show g ≠ w.heap.size; omega) (.int .i64 x4))
  have hR' := ((((hR.set 0 (.int .i64 x1)).set 1 (.int .i64 x2)).set 2 (.int .i64 x3)).set 3 (.int .i64 x4))
  go_wp2_with fail
  have e0 := hR'.cell_at 0 rfl
  have e1 := hR'.cell_at 1 rfl
  have e2 := hR'.cell_at 2 rfl
  have e3 := hR'.cell_at 3 rfl
  refine bodyPost_ret (v := .agg #[.int .i64 x1, .int .i64 x2, .int .i64 x3, .int .i64 x4]) (by simp [results, Tryz.f108, go_sem, e0, e1, e2, e3]) rfl (.inl ⟨(x1, x2, x3, x4), s4, ((bnd_some r1).trans ((bnd_some r2).trans ((bnd_some r3).trans ((bnd_some r4).trans (show retP _ l s4 = _ from rfl))))), rfl, hT', hB'⟩)
end
end Go.Proofs.YtegflmaobmibnaaGreatDoor
