/- The document's own reader: exits. -/
import Derived.Test.YtegflmaobmibnaaGreatDoorQPlanRe
import Derived.Test.YtegflmaobmibnaaGreatDoorQPlanX
namespace Go.Proofs.YtegflmaobmibnaaGreatDoor
set_option maxRecDepth 100000
open Go.RowKit Go.Shelf
set_option linter.unusedVariables false
set_option linter.unusedSimpArgs false

theorem Rd.under {r g c : Nat} {zs : List Int} {s : Option Nat} {n : Nat} {w w' : World} (h : Rd r g c zs s w) (hb : Below n w w') (h1 : r < n) (h2 : g < n) : Rd r g c zs s w' := by
  obtain ⟨⟨p, b, k1, k2⟩, h3, h4, h5⟩ := h
  exact ⟨⟨p, b, k1.below hb h1, k2⟩, ⟨fun hp => by
    obtain ⟨b, off, e, hlt, hc⟩ := h3.1 hp
    cases e
    exact ⟨g, 0, rfl, Nat.lt_of_lt_of_le hlt hb.size, fun j u hu => (hb.cell (p := ⟨g, 0 + j, none⟩) h2).trans (hc j u hu)⟩, h3.2⟩, Nat.lt_of_lt_of_le h4 hb.size, h5⟩
/-- Within takeExit: what lay ahead but the reader lies as it lay; the exit's own cells; the result's; the reader; the overlap so far. -/
structure XR (w : World) (r g c : Nat) (zs : List Int) (X : Nat) (cs : List Value) (s : Option Nat) (v : Value) (ov : List (Int × Int × Int)) (W : World) : Prop where
  bq : Bq w.heap.size r w W
  x : Whole W X 51 cs
  rs : Whole W w.heap.size 51 [.int .i64 0, .int .i64 0, .slice none 0 0]
  t : Rd r g c zs s W
  own : W.ownsRow w.heap.size 74 3 v ov.length (ov.flatMap stpCells)
  lt : w.heap.size < X
theorem XR.step {w : World} {r g c : Nat} {zs : List Int} {X : Nat} {cs : List Value} {s s' : Option Nat} {v : Value} {ov : List (Int × Int × Int)} {W W' : World} (h : XR w r g c zs X cs s v ov W) (hb : Bq W.heap.size r W W') (hba : r < w.heap.size) (ht : Rd r g c zs s' W') : XR w r g c zs X cs s' v ov W' :=
  ⟨h.bq.trans (hb.less h.bq.size), h.x.bq hb h.x.lt (by have := h.lt; omega), h.rs.bq hb h.rs.lt (by omega), ht, owns_bq h.own hb hba, h.lt⟩
theorem XR.keep {w : World} {r g c : Nat} {zs : List Int} {X : Nat} {cs : List Value} {s : Option Nat} {v : Value} {ov : List (Int × Int × Int)} {W W' : World} (h : XR w r g c zs X cs s v ov W) (hb : Below W.heap.size W W') : XR w r g c zs X cs s v ov W' :=
  ⟨h.bq.on hb h.bq.size, h.x.below hb h.x.lt, h.rs.below hb h.rs.lt, h.t.keep hb, owns_keep h.own hb, h.lt⟩
theorem XR.closed (w : World) (r g c : Nat) (zs : List Int) (X : Nat) (cs : List Value) (s : Option Nat) (v : Value) (ov : List (Int × Int × Int)) : Closed (XR w r g c zs X cs s v ov) := fun _ _ h hb => h.keep hb
theorem XR.grown {w : World} {r g c : Nat} {zs : List Int} {X : Nat} {cs : List Value} {s : Option Nat} {v v' : Value} {ov ov' : List (Int × Int × Int)} {W W' : World} (h : XR w r g c zs X cs s v ov W) (hg : W.grownBy W' v.ownBlock) (h1 : r < w.heap.size) (h3 : g < w.heap.size)
    (ho : W'.ownsRow w.heap.size 74 3 v' ov'.length (ov'.flatMap stpCells)) : XR w r g c zs X cs s v' ov' W' :=
  ⟨h.bq.grown hg h.bq.size (fun k e => .inl (h.own.lt k e).1), h.x.kept hg (whole_not_own h.x h.own (by decide)), h.rs.kept hg (whole_not_own h.rs h.own (by decide)),
    h.t.under ((Below.refl _ W).grown hg h.bq.size (fun k e => (h.own.lt k e).1)) h1 h3, ho, h.lt⟩
theorem XR.store {w : World} {r g c : Nat} {zs : List Int} {X : Nat} {cs : List Value} {s : Option Nat} {v : Value} {ov : List (Int × Int × Int)} {W : World} (h : XR w r g c zs X cs s v ov W) (h1 : r < w.heap.size) (h3 : g < w.heap.size) (i : Nat) (u : Value) :
    XR w r g c zs X (cs.set i u) s v ov (W.setCell ⟨X, i, none⟩ u) := by
  have hl := h.lt
  exact ⟨h.bq.set (p := ⟨X, i, none⟩) (.inl (Nat.le_of_lt hl)) u, h.x.set i u, h.rs.far (p := ⟨X, i, none⟩) (by show w.heap.size ≠ X; omega) u, h.t.far (p := ⟨X, i, none⟩) (by show r ≠ X; omega) (by show g ≠ X; omega) u, owns_wset h.own h.x (by decide) i u, hl⟩
/-- What comes of the document's takeExit. -/
def OutXR (r g c : Nat) (zs : List Int) (l : List Bool) (s : Option Nat) (w : World) (e : Ending) (w' : World) : Prop :=
  ∃ (x : Exm) (s' : Option Nat), e = .returned x.val ∧ w'.ownsRow w.heap.size 74 3 (.slice x.A x.over.length x.c) x.over.length (x.over.flatMap stpCells) ∧ Rd r g c zs s' w' ∧ After exitP l s x.pure s' ∧ Bq w.heap.size r w w'
theorem After.next {α : Type} {p : Par α} {l : List Bool} {n : Nat} {s t u : Option Nat} {xs : List α} {x : α} (h : After (manyP p n) l s xs t) (k : After p l t x u) : After (manyP p (n + 1)) l s (xs ++ [x]) u := After.bnd h (After.bnd k (After.ret _ _ _))

section
variable {r g c : Nat} {zs : List Int} {l : List Bool} (hA : Are zs (8 * (zs.length : Int)) l) (hz : zs.length ≤ 2000)
include hA hz
set_option maxHeartbeats 8000000 in
theorem exitR8_any (s : Option Nat) (w : World) (hT : Rd r g c zs s w) :
    Calls Tryz.prog 82 #[.pointer (some ⟨r, 0, none⟩)] w (OutXR r g c zs l s w) := by
  have hba := hT.lt
  have hlg := hT.lg
  have h0 := hT.keep (below1 w (.cells #[.int .i64 0, .int .i64 0, .slice none 0 0] 51))
  have hB : Bq w.heap.size r w (w.alloc (.cells #[.int .i64 0, .int .i64 0, .slice none 0 0] 51)) := (Bq.refl _ _ _).alloc (Nat.le_refl _) _
  have hR := Whole.new w 51 [.int .i64 0, .int .i64 0, .slice none 0 0]
  have hsz : w.heap.size + 1 ≤ (w.alloc (.cells #[.int .i64 0, .int .i64 0, .slice none 0 0] 51)).heap.size := by simp
  go_enter Tryz.func82, Tryz.ntmps82
  go_wp2_with fail
  obtain ⟨w0, hw0⟩ : ∃ W, w.alloc (.cells #[.int .i64 0, .int .i64 0, .slice none 0 0] 51) = W := ⟨_, rfl⟩
  rw [show w.alloc (.cells [.int .i64 0, .int .i64 0, .slice none 0 0].toArray 51) = w0 from hw0] at hR
  rw [hw0] at h0 hB hsz ⊢
  clear hw0
  refine (portR8_any hA hz s w0 h0).mono ?_
  rintro e w1 ⟨⟨ps, pq⟩, s1, rfl, h1, a1, hb⟩
  replace hB := hB.trans (hb.less (by omega))
  replace hR := hR.bq hb (by omega) (by omega)
  replace hsz := Nat.le_trans hsz hb.size
  clear h0 hb
  have hX : XR w r g c zs w1.heap.size [.int .i64 ps, .int .i64 pq, .slice none 0 0] s1 (.slice none 0 0) [] (w1.alloc (.cells [.int .i64 ps, .int .i64 pq, .slice none 0 0].toArray 51)) :=
    ⟨hB.alloc hB.size _, Whole.new _ _ _, hR.alloc _, h1.keep (below1 _ _), World.ownsRow_nil _ _ _ _, by omega⟩
  go_wp2_with fail
  obtain ⟨w2, hw2⟩ : ∃ W, w1.alloc (.cells #[.int .i64 ps, .int .i64 pq, .slice none 0 0] 51) = W := ⟨_, rfl⟩
  rw [show w1.alloc (.cells [.int .i64 ps, .int .i64 pq, .slice none 0 0].toArray 51) = w2 from hw2] at hX
  try rw [hw2]
  clear hw2 h1 hR hB
  refine (number_any hA hz (K := 2) 2 s1 w2 rfl (by omega) hX.t).mono ?_
  rintro e w3 ⟨m, s2, rfl, h1, a2, hm0, hm3, hb⟩
  obtain ⟨M, rfl⟩ : ∃ M : Nat, m = M := ⟨m.toNat, by omega⟩
  have hX1 := hX.step hb hba h1
  have HS : Hid (M ≤ 3) := Lib.hid (by omega)
  have HR1 := Lib.hid a1
  have HR2 := Lib.hid a2
  obtain ⟨X, HXX⟩ : ∃ X, Hid (X = w1.heap.size) := ⟨_, Lib.hid rfl⟩
  rw [← HXX.out] at hX1 ⊢
  clear hX hb h1 hm0 hm3 a1 a2 hT hsz HXX
  go_wp2_with fail
  go_loopw [5] (fun i wr => ∃ (j : Nat) (ov : List (Int × Int × Int)) (A : Option Addr) (ca : Nat) (s' : Option Nat), j ≤ M ∧ i = .int .i64 j ∧ Hid (ov.length = j ∧ After (manyP stepP j) l s2 ov s' ∧ XR w r g c zs X [.int .i64 ps, .int .i64 pq, .slice A ov.length ca] s' (.slice A ov.length ca) ov wr)) (fun i _ => M - (intOf i).toNat)
  case atStart => exact ⟨0, [], none, 0, s2, by omega, rfl, Lib.hid ⟨rfl, After.ret _ _ _, hX1⟩⟩
  case round =>
    clear hX1
    obtain ⟨j, ov, A, ca, s', hj, rfl, HM⟩ := hrel
    by_cases hlt : j < M
    · have hlt' : (j : Int) < (M : Int) := by omega
      have HX2 : Hid (∀ W, Whole W X 51 [.int .i64 ps, .int .i64 pq, .slice A ov.length ca] → W.cell? ⟨X, 2, none⟩ = some (.slice A ov.length ca)) := Lib.hid (fun W h => h.cell_at 2 rfl)
      have HLT := Lib.hid hlt
      clear hlt
      go_wp2_with fail
      refine (number_any hA hz (K := 5) 5 s' wr rfl (by omega) HM.out.2.2.t).mono ?_
      rintro e w4 ⟨sa, t1, rfl, h4, b1, _, _, hb⟩
      have H4 := Lib.hid (HM.out.2.2.step hb hba h4)
      have HB1 := Lib.hid b1
      clear h4 b1 hb
      go_wp2_with fail
      refine (number_any hA hz (K := 2) 2 t1 w4 rfl (by omega) H4.out.t).mono ?_
      rintro e w5 ⟨sb, t2, rfl, h5, b2, _, _, hb⟩
      have H5 := Lib.hid (H4.out.step hb hba h5)
      have HB2 := Lib.hid b2
      clear h5 b2 hb H4
      go_wp2_with fail
      refine region_mixtZ (fun c D W => False) (fun c a' W hq => hq.elim) (fun W => Whole W X 51 [.int .i64 ps, .int .i64 pq, .slice A ov.length ca]) [(0, false), (1, false), (2, false), (3, false), (4, false), (5, true), (6, false), (7, true), (8, true)] 2 9 (by kernel_rfl) rfl (by kernel_rfl) (XR w r g c zs X [.int .i64 ps, .int .i64 pq, .slice A ov.length ca] t2 (.slice A ov.length ca) ov) ⟨XR.closed _ _ _ _ _ _ _ _ _ _, fun W h => h.x⟩ (H5.out.keep (Below.refl _ _).drew) ?_
      simp only [pickOps, List.getElem?_cons_zero, List.getElem?_cons_succ]
      repeat (first | (refine mix_skipZ (by rfl) ?_; simp only [Act.put, List.setIfInBounds_toArray, List.set_cons_zero, List.set_cons_succ]) | (refine mix_readZ _ (by rfl) (fun W hW => by (have x2 := HX2.out W hW; clear hW; go_simp; first | done | with_reducible rfl)) ?_; simp only [Act.put, List.setIfInBounds_toArray, List.set_cons_zero, List.set_cons_succ]))
      refine mix_tryZ (X := Int × Option Nat) (fun x => .int .i64 x.1) (fun x W => After (numP 2) l t2 x.1 x.2 ∧ XR w r g c zs X [.int .i64 ps, .int .i64 pq, .slice A ov.length ca] x.2 (.slice A ov.length ca) ov W) (fun x => ⟨fun _ _ h hb => ⟨h.1, h.2.keep hb⟩, fun W h => h.2.x⟩) 79 #[.pointer (some ⟨r, 0, none⟩), .int .i64 2] (by rfl) (fun W hW => by (go_simp; first | done | rfl)) (fun W hW => ?_) (fun x => ?_)
      · refine (number_any hA hz (K := 2) 2 t2 W rfl (by omega) hW.t).mono ?_
        rintro e W' ⟨u, t, rfl, ht, b, _, _, hb⟩
        exact .inl ⟨(u, t), rfl, b, hW.step hb hba ht⟩
      simp only [Act.put, List.setIfInBounds_toArray, List.set_cons_zero, List.set_cons_succ]
      repeat (first | (refine mix_skipZ (by rfl) ?_; simp only [Act.put, List.setIfInBounds_toArray, List.set_cons_zero, List.set_cons_succ]) | (refine mix_readZ _ (by rfl) (fun W hW => by (have x2 := HX2.out W hW; clear hW; go_simp; first | done | with_reducible rfl)) ?_; simp only [Act.put, List.setIfInBounds_toArray, List.set_cons_zero, List.set_cons_succ]))
      refine mix_makeZ (fun g => .slice (some ⟨g, 0, none⟩) 1 1) w.heap.size 74 (stpCells (sa, sb, x.1)) ⟨fun _ _ h hb => ⟨h.1, h.2.keep hb⟩, fun W h => h.2.x⟩ (fun _ h => h.2.bq.size) (by rfl) (fun W hW => by (go_simp; first | done | with_reducible rfl)) (fun g2 hg2 => ?_)
      simp only [Act.put, List.setIfInBounds_toArray, List.set_cons_zero, List.set_cons_succ]
      refine mix_yieldZ (X := Option Addr × Nat) (fun B => .slice B.1 (ov.length + 1) B.2) (fun B W => After (numP 2) l t2 x.1 x.2 ∧ XR w r g c zs X [.int .i64 ps, .int .i64 pq, .slice A ov.length ca] x.2 (.slice B.1 (ov.length + 1) B.2) (ov ++ [(sa, sb, x.1)]) W) (fun B => ⟨fun _ _ h hb => ⟨h.1, h.2.keep hb⟩, fun W h => h.2.x⟩) (by rfl) (fun W hW => ?_) (fun B => ?_)
      · obtain ⟨⟨q1, hW⟩, hg0⟩ := hW
        obtain ⟨v', w', h1, h2, h3⟩ := appendG (P := Tryz.prog) (f := stpCells) (size := 3) (fun _ => rfl) oneStep 49 74 (.agg #[.int .i64 0, .int .i64 0, .int .i64 0]) 24 Tryz.underlying49 infoStep rfl (by omega) (by omega) w.heap.size ov.length _ _ [(sa, sb, x.1)] (some ⟨g2, 0, none⟩) 1 (g2 + 1) W hW.own (.inr (by simp)) (by
          have := hg0.row (B := g2 + 1) (by omega)
          simpa using this) (by have := HM.out.1; have := HS.out; have := HLT.out; omega) (by simp) hW.bq.size
        obtain ⟨A', c', rfl, _⟩ := owns_read h2
        refine ⟨(A', c'), w', exec_append (.tmp 23) (.tmp 29) 49 rfl h1, q1, hW.grown h3 hba hlg ?_⟩
        rw [List.length_append, List.flatMap_append]
        exact h2
      simp only [Act.put, List.setIfInBounds_toArray, List.set_cons_zero, List.set_cons_succ]
      refine mix_nilZ (fun W hW => ?_)
      simp only [List.drop_succ_cons, List.drop_zero]
      have x2 := HX2.out W hW.2.x
      have f2 := hW.2.x.frozen 2
      have HW := Lib.hid hW
      clear hW
      go_wp2_with fail
      go_roundw
      case rel =>
        have hst : After stepP l s' (sa, sb, x.1) x.2 := After.bnd HB1.out (After.bnd HB2.out (After.bnd HW.out.1 (After.ret _ _ _)))
        refine ⟨j + 1, ov ++ [(sa, sb, x.1)], B.1, B.2, x.2, HLT.out, loop_next j M HLT.out (Nat.le_trans HS.out (by decide)), Lib.hid ⟨by simp [HM.out.1], After.next HM.out.2.1 hst, ?_⟩⟩
        have e : (ov ++ [(sa, sb, x.1)]).length = ov.length + 1 := by simp
        rw [e]
        exact HW.out.2.store hba hlg 2 (.slice B.1 (ov.length + 1) B.2)
      case measure => exact loop_less j M HLT.out (Nat.le_trans HS.out (by decide))
    · obtain rfl : j = M := by omega
      obtain ⟨h1, h2, hx⟩ := HM.out
      have hex : After exitP l s (ps, pq, ov) s' := After.bnd HR1.out (After.bnd HR2.out (After.bnd (by rw [Int.toNat_natCast]; exact h2) (After.ret _ _ _)))
      have HEX := Lib.hid hex
      clear hex h1 h2
      have x0 := hx.x.cell_at 0 rfl
      have x1 := hx.x.cell_at 1 rfl
      have x2 := hx.x.cell_at 2 rfl
      have z0 := hx.rs.cell_at 0 rfl
      have z1 := hx.rs.cell_at 1 rfl
      have z2 := hx.rs.cell_at 2 rfl
      have f0 := hx.rs.frozen 0
      have f1 := hx.rs.frozen 1
      have f2 := hx.rs.frozen 2
      have hR1 := hx.rs.set 0 (.int .i64 ps)
      have hR2 := hR1.set 1 (.int .i64 pq)
      have hR' := hR2.set 2 (.slice A ov.length ca)
      have o3 := owns_wset (owns_wset (owns_wset hx.own hx.rs (by decide) 0 (.int .i64 ps)) hR1 (by decide) 1 (.int .i64 pq)) hR2 (by decide) 2 (.slice A ov.length ca)
      have hB' := ((hx.bq.set (p := ⟨w.heap.size, 0, none⟩) (.inl (Nat.le_refl _)) (.int .i64 ps)).set (p := ⟨w.heap.size, 1, none⟩) (.inl (Nat.le_refl _)) (.int .i64 pq)).set (p := ⟨w.heap.size, 2, none⟩) (.inl (Nat.le_refl _)) (.slice A ov.length ca)
      have hT' := ((hx.t.far (p := ⟨w.heap.size, 0, none⟩) (by show r ≠ w.heap.size; omega) (by show g ≠ w.heap.size; omega) (.int .i64 ps)).far (p := ⟨w.heap.size, 1, none⟩) (by show r ≠ w.heap.size; omega) (by show g ≠ w.heap.size; omega) (.int .i64 pq)).far (p := ⟨w.heap.size, 2, none⟩) (by show r ≠ w.heap.size; omega) (by show g ≠ w.heap.size; omega) (.slice A ov.length ca)
      have HFIN := Lib.hid (And.intro o3 (And.intro hT' hB'))
      clear o3 hT' hB' hR1 hR2 hx
      go_wp2_with fail
      have e0 := hR'.cell_at 0 rfl
      have e1 := hR'.cell_at 1 rfl
      have e2 := hR'.cell_at 2 rfl
      refine bodyPost_ret (v := (⟨ps, pq, A, ca, ov⟩ : Exm).val) (by simp [results, Tryz.f82, go_sem, e0, e1, e2]) rfl ⟨⟨ps, pq, A, ca, ov⟩, s', rfl, HFIN.out.1, HFIN.out.2.1, HEX.out, HFIN.out.2.2⟩
end
end Go.Proofs.YtegflmaobmibnaaGreatDoor
