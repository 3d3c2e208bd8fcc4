/- The document's own reader: a layout. -/
import Derived.Test.YtegflmaobmibnaaGreatDoorQPlanRy
namespace Go.Proofs.YtegflmaobmibnaaGreatDoor
set_option maxRecDepth 100000
open Go.RowKit Go.Shelf
set_option linter.unusedVariables false
set_option linter.unusedSimpArgs false

/-- Within read: what lay ahead but the reader lies as it lay; the result; the layout's own cells; the reader; the rows, of the call's own. -/
structure LR (w : World) (r g c : Nat) (zs : List Int) (cs : List Value) (m : Lay) (s : Option Nat) (W : World) : Prop where
  bq : Bq w.heap.size r w W
  rs : Whole W w.heap.size 29 [.slice none 0 0, .slice none 0 0, .slice none 0 0, .slice none 0 0, .int .i64 0, .int .i64 0, .int .i64 0, .int .i64 0, .int .i64 0, .int .i64 0, .int .i64 0]
  x : Whole W (w.heap.size + 1) 29 cs
  t : Rd r g c zs s W
  own : Owned (w.heap.size + 2) m W
theorem LR.size {w : World} {r g c : Nat} {zs : List Int} {cs : List Value} {m : Lay} {s : Option Nat} {W : World} (h : LR w r g c zs cs m s W) : w.heap.size + 2 ≤ W.heap.size := h.x.lt
theorem LR.step {w : World} {r g c : Nat} {zs : List Int} {cs : List Value} {m : Lay} {s s' : Option Nat} {W W' : World} (h : LR w r g c zs cs m s W) (hb : Bq W.heap.size r W W') (hba : r < w.heap.size) (ht : Rd r g c zs s' W') : LR w r g c zs cs m s' W' :=
  ⟨h.bq.trans (hb.less h.bq.size), h.rs.bq hb h.rs.lt (by omega), h.x.bq hb h.x.lt (by omega), ht, h.own.bq hb (by omega)⟩
theorem LR.keep {w : World} {r g c : Nat} {zs : List Int} {cs : List Value} {m : Lay} {s : Option Nat} {W W' : World} (h : LR w r g c zs cs m s W) (hb : Below W.heap.size W W') : LR w r g c zs cs m s W' :=
  ⟨h.bq.on hb h.bq.size, h.rs.below hb h.rs.lt, h.x.below hb h.x.lt, h.t.keep hb, h.own.keep hb⟩
theorem LR.closed (w : World) (r g c : Nat) (zs : List Int) (cs : List Value) (m : Lay) (s : Option Nat) : Closed (LR w r g c zs cs m s) := fun _ _ h hb => h.keep hb
theorem LR.grown {w : World} {r g c : Nat} {zs : List Int} {cs : List Value} {m m' : Lay} {s : Option Nat} {W W' : World} (h : LR w r g c zs cs m s W) {q : Option Nat} (hg : W.grownBy W' q) (hr : ∀ k, q = some k → w.heap.size + 2 ≤ k) (h1 : r < w.heap.size) (h3 : g < w.heap.size)
    (ho : Owned (w.heap.size + 2) m' W') : LR w r g c zs cs m' s W' := by
  have hb : Below (w.heap.size + 2) W W' := (Below.refl _ W).grown hg h.size hr
  exact ⟨h.bq.grown hg h.bq.size (fun k e => .inl (by have := hr k e; omega)), h.rs.below hb (by omega), h.x.below hb (by omega), h.t.under hb (by omega) (by omega), ho⟩
theorem LR.store {w : World} {r g c : Nat} {zs : List Int} {cs : List Value} {m : Lay} {s : Option Nat} {W : World} (h : LR w r g c zs cs m s W) (h1 : r < w.heap.size) (h3 : g < w.heap.size) (i : Nat) (u : Value) :
    LR w r g c zs (cs.set i u) m s (W.setCell ⟨w.heap.size + 1, i, none⟩ u) :=
  ⟨h.bq.set (p := ⟨w.heap.size + 1, i, none⟩) (.inl (by show w.heap.size ≤ w.heap.size + 1; omega)) u, h.rs.far (p := ⟨w.heap.size + 1, i, none⟩) (by show w.heap.size ≠ w.heap.size + 1; omega) u, h.x.set i u,
    h.t.far (p := ⟨w.heap.size + 1, i, none⟩) (by show r ≠ w.heap.size + 1; omega) (by show g ≠ w.heap.size + 1; omega) u, h.own.set (p := ⟨w.heap.size + 1, i, none⟩) (by show w.heap.size + 1 < w.heap.size + 2; omega) u⟩
theorem LR.as {w : World} {r g c : Nat} {zs : List Int} {cs cs' : List Value} {m m' : Lay} {s : Option Nat} {W : World} (h : LR w r g c zs cs m s W) (hc : cs = cs') (hm : m = m') : LR w r g c zs cs' m' s W := by subst hc; subst hm; exact h
/-- What comes of the document's read. -/
def OutLR (r g c : Nat) (zs : List Int) (l : List Bool) (s : Option Nat) (w : World) (e : Ending) (w' : World) : Prop :=
  ∃ (m : Lay) (s' : Option Nat), e = .returned m.val ∧ Owned w.heap.size m w' ∧ Rd r g c zs s' w' ∧ After layP l s m.pl s' ∧ Bq w.heap.size r w w'

/-- Seven times in an array. -/
def arr7 (ts : List Int) : List Value := [.int .i64 (ts[0]?.getD 0), .int .i64 (ts[1]?.getD 0), .int .i64 (ts[2]?.getD 0), .int .i64 (ts[3]?.getD 0), .int .i64 (ts[4]?.getD 0), .int .i64 (ts[5]?.getD 0), .int .i64 (ts[6]?.getD 0)]
theorem arr7_len (ts : List Int) : (arr7 ts).length = 7 := rfl
theorem arr7_set (ts : List Int) (t : Int) (h : ts.length < 7) : (arr7 ts).set ts.length (.int .i64 t) = arr7 (ts ++ [t]) := by
  rcases ts with _ | ⟨t0, _ | ⟨t1, _ | ⟨t2, _ | ⟨t3, _ | ⟨t4, _ | ⟨t5, _ | ⟨t6, ts⟩⟩⟩⟩⟩⟩⟩
  · rfl
  · rfl
  · rfl
  · rfl
  · rfl
  · rfl
  · rfl
  · simp at h; omega
structure TR (w : World) (r g c : Nat) (zs : List Int) (cs : List Value) (m : Lay) (T : Nat) (ts : List Int) (s : Option Nat) (W : World) : Prop where
  lr : LR w r g c zs cs m s W
  t : Whole W T 77 (arr7 ts)
  ge : w.heap.size + 2 ≤ T
theorem TR.step {w : World} {r g c : Nat} {zs : List Int} {cs : List Value} {m : Lay} {T : Nat} {ts : List Int} {s s' : Option Nat} {W W' : World} (h : TR w r g c zs cs m T ts s W) (hb : Bq W.heap.size r W W') (hba : r < w.heap.size) (ht : Rd r g c zs s' W') : TR w r g c zs cs m T ts s' W' :=
  ⟨h.lr.step hb hba ht, h.t.bq hb h.t.lt (by have := h.ge; omega), h.ge⟩
theorem TR.store {w : World} {r g c : Nat} {zs : List Int} {cs : List Value} {m : Lay} {T : Nat} {ts ts' : List Int} {s : Option Nat} {W : World} (h : TR w r g c zs cs m T ts s W) (hba : r < w.heap.size) (hg : g < w.heap.size) (i : Nat) (u : Value) (he : (arr7 ts).set i u = arr7 ts') : TR w r g c zs cs m T ts' s (W.setCell ⟨T, i, none⟩ u) := by
  have hge := h.ge
  have ho := h.lr.own
  refine ⟨⟨h.lr.bq.set (p := ⟨T, i, none⟩) (.inl (by show w.heap.size ≤ T; omega)) u, h.lr.rs.far (p := ⟨T, i, none⟩) (by show w.heap.size ≠ T; omega) u, h.lr.x.far (p := ⟨T, i, none⟩) (by show w.heap.size + 1 ≠ T; omega) u,
    h.lr.t.far (p := ⟨T, i, none⟩) (by show r ≠ T; omega) (by show g ≠ T; omega) u, owns_wset ho.secs h.t (by decide) i u, owns_wset ho.sigs h.t (by decide) i u, owns_wset ho.exits h.t (by decide) i u, owns_wset ho.flanks h.t (by decide) i u, fun x hx => owns_wset (ho.overs x hx) h.t (by decide) i u⟩, ?_, hge⟩
  have := h.t.set i u
  rw [he] at this
  exact this

section
variable {r g c : Nat} {zs : List Int} {l : List Bool} (hA : Are zs (8 * (zs.length : Int)) l) (hz : zs.length ≤ 2000)
include hA hz
set_option maxHeartbeats 32000000 in
theorem layR8_any (s : Option Nat) (w : World) (hT : Rd r g c zs s w) :
    Calls Tryz.prog 34 #[.pointer (some ⟨r, 0, none⟩)] w (OutLR r g c zs l s w) := by
  have hba := hT.lt
  have hlg := hT.lg
  have hB2 : Below w.heap.size w ((w.alloc (.cells [.slice none 0 0, .slice none 0 0, .slice none 0 0, .slice none 0 0, .int .i64 0, .int .i64 0, .int .i64 0, .int .i64 0, .int .i64 0, .int .i64 0, .int .i64 0].toArray 29)).alloc (.cells [.slice none 0 0, .slice none 0 0, .slice none 0 0, .slice none 0 0, .int .i64 0, .int .i64 0, .int .i64 0, .int .i64 0, .int .i64 0, .int .i64 0, .int .i64 0].toArray 29)) := below2 w _ _
  have h0 : LR w r g c zs (mkL [] none 0 [] none 0 [] none 0 [] none 0 []).cells (mkL [] none 0 [] none 0 [] none 0 [] none 0 []) s ((w.alloc (.cells [.slice none 0 0, .slice none 0 0, .slice none 0 0, .slice none 0 0, .int .i64 0, .int .i64 0, .int .i64 0, .int .i64 0, .int .i64 0, .int .i64 0, .int .i64 0].toArray 29)).alloc (.cells [.slice none 0 0, .slice none 0 0, .slice none 0 0, .slice none 0 0, .int .i64 0, .int .i64 0, .int .i64 0, .int .i64 0, .int .i64 0, .int .i64 0, .int .i64 0].toArray 29)) :=
    ⟨.of hB2, (Whole.new w _ _).alloc _, Whole.new_at _ _ _ _ (by simp), hT.keep hB2, owned_none _ _ _⟩
  go_enter Tryz.func34, Tryz.ntmps34
  go_wp2_with fail
  obtain ⟨w0, hw0⟩ : ∃ W, (w.alloc (.cells [.slice none 0 0, .slice none 0 0, .slice none 0 0, .slice none 0 0, .int .i64 0, .int .i64 0, .int .i64 0, .int .i64 0, .int .i64 0, .int .i64 0, .int .i64 0].toArray 29)).alloc (.cells [.slice none 0 0, .slice none 0 0, .slice none 0 0, .slice none 0 0, .int .i64 0, .int .i64 0, .int .i64 0, .int .i64 0, .int .i64 0, .int .i64 0, .int .i64 0].toArray 29) = W := ⟨_, rfl⟩
  rw [hw0] at h0 hB2
  try rw [hw0]
  clear hw0 hB2 hT
  refine (number_any hA hz (K := 5) 5 s w0 rfl (by omega) h0.t).mono ?_
  rintro e w1 ⟨ya, s1, rfl, k1, a1, lo1, hi1, hb⟩
  have h1 := h0.step hb hba k1
  have HA1 := Lib.hid a1
  clear h0 k1 a1 hb
  go_wp2_with fail
  refine (number_any hA hz (K := 4) 4 s1 w1 rfl (by omega) h1.t).mono ?_
  rintro e w2 ⟨yb, s2, rfl, k2, a2, lo2, hi2, hb⟩
  have h2 := h1.step hb hba k2
  have HA2 := Lib.hid a2
  clear h1 k2 a2 hb
  go_wp2_with fail
  refine (number_any hA hz (K := 4) 4 s2 w2 rfl (by omega) h2.t).mono ?_
  rintro e w3 ⟨yc, s3, rfl, k3, a3, lo3, hi3, hb⟩
  have h3 := h2.step hb hba k3
  have HA3 := Lib.hid a3
  clear h2 k3 a3 hb
  go_wp2_with fail
  refine (number_any hA hz (K := 5) 5 s3 w3 rfl (by omega) h3.t).mono ?_
  rintro e w4 ⟨yd, s4, rfl, k4, a4, lo4, hi4, hb⟩
  have h4 := h3.step hb hba k4
  have HA4 := Lib.hid a4
  clear h3 k4 a4 hb
  obtain ⟨NS, HNS⟩ : ∃ n : Nat, Hid (ya = (n : Int) ∧ ya.toNat = n ∧ n ≤ 31) := ⟨ya.toNat, Lib.hid ⟨by omega, rfl, by omega⟩⟩
  obtain ⟨NG, HNG⟩ : ∃ n : Nat, Hid (yb = (n : Int) ∧ yb.toNat = n ∧ n ≤ 15) := ⟨yb.toNat, Lib.hid ⟨by omega, rfl, by omega⟩⟩
  obtain ⟨NE, HNE⟩ : ∃ n : Nat, Hid (yc = (n : Int) ∧ yc.toNat = n ∧ n ≤ 15) := ⟨yc.toNat, Lib.hid ⟨by omega, rfl, by omega⟩⟩
  obtain ⟨NF, HNF⟩ : ∃ n : Nat, Hid (yd = (n : Int) ∧ yd.toNat = n ∧ n ≤ 31) := ⟨yd.toNat, Lib.hid ⟨by omega, rfl, by omega⟩⟩
  rw [HNS.out.1, HNG.out.1, HNE.out.1, HNF.out.1]
  have HBA := Lib.hid (And.intro hba hlg)
  have HS0 := Lib.hid h4
  clear h4 hba hlg lo1 hi1 lo2 hi2 lo3 hi3 lo4 hi4
  go_wp2_with fail
  go_loopw [8] (fun i wr => ∃ (j : Nat) (xsS : List (Sec)) (AS : Option Addr) (kS : Nat) (tS : Option Nat), j ≤ NS ∧ i = .int .i64 j ∧ Hid (xsS.length = j ∧ After (manyP secP j) l s4 xsS tS ∧ LR w r g c zs (mkL xsS AS kS [] none 0 [] none 0 [] none 0 []).cells (mkL xsS AS kS [] none 0 [] none 0 [] none 0 []) tS wr)) (fun i _ => NS - (intOf i).toNat)
  case atStart => exact ⟨0, [], none, 0, s4, by omega, rfl, Lib.hid ⟨rfl, After.ret _ _ _, HS0.out⟩⟩
  case round =>
    clear HS0
    obtain ⟨j, xsS, AS, kS, tS, hj, rfl, HM⟩ := hrel
    rename World => wr0
    by_cases hlt : j < NS
    · have hlt' : (j : Int) < (NS : Int) := by omega
      have HLT := Lib.hid hlt
      clear hlt
      go_wp2_with fail
      refine region_mixtZ (fun c D W => False) (fun c a' W hq => hq.elim) (fun W => Whole W (w.heap.size + 1) 29 (mkL xsS AS kS [] none 0 [] none 0 [] none 0 []).cells) [(0, false), (1, false), (2, false), (3, true), (4, true), (5, true)] 2 6 (by kernel_rfl) rfl (by kernel_rfl) (LR w r g c zs (mkL xsS AS kS [] none 0 [] none 0 [] none 0 []).cells (mkL xsS AS kS [] none 0 [] none 0 [] none 0 []) tS) ⟨LR.closed _ _ _ _ _ _ _ _, fun W h => h.x⟩ (HM.out.2.2.keep (Below.refl _ _).drew) ?_
      simp only [pickOps, List.getElem?_cons_zero, List.getElem?_cons_succ]
      repeat (first | (refine mix_skipZ (by rfl) ?_; simp only [Act.put, List.setIfInBounds_toArray, List.set_cons_zero, List.set_cons_succ]) | (refine mix_readZ _ (by rfl) (fun W hW => by (have x0 := hW.cell_at 0 rfl; clear hW; go_simp; first | done | with_reducible rfl)) ?_; simp only [Act.put, List.setIfInBounds_toArray, List.set_cons_zero, List.set_cons_succ]))
      refine mix_tryZ (X := (Sec) × Option Nat) (fun x => x.1.val) (fun x W => After secP l tS x.1 x.2 ∧ LR w r g c zs (mkL xsS AS kS [] none 0 [] none 0 [] none 0 []).cells (mkL xsS AS kS [] none 0 [] none 0 [] none 0 []) x.2 W) (fun x => ⟨fun _ _ h hb => ⟨h.1, h.2.keep hb⟩, fun W h => h.2.x⟩) 80 #[.pointer (some ⟨r, 0, none⟩)] (by rfl) (fun W hW => by (go_simp; first | done | rfl)) (fun W hW => ?_) (fun x => ?_)
      · refine (secR8_any hA hz tS W hW.t).mono ?_
        rintro e W' ⟨y, t, rfl, ht, b, hb⟩
        exact .inl ⟨(y, t), rfl, b, hW.step hb HBA.out.1 ht⟩
      simp only [Act.put, List.setIfInBounds_toArray, List.set_cons_zero, List.set_cons_succ]
      repeat (first | (refine mix_skipZ (by rfl) ?_; simp only [Act.put, List.setIfInBounds_toArray, List.set_cons_zero, List.set_cons_succ]) | (refine mix_readZ _ (by rfl) (fun W hW => by (have x0 := hW.cell_at 0 rfl; clear hW; go_simp; first | done | with_reducible rfl)) ?_; simp only [Act.put, List.setIfInBounds_toArray, List.set_cons_zero, List.set_cons_succ]))
      refine mix_makeZ (fun g => .slice (some ⟨g, 0, none⟩) 1 1) w.heap.size 70 (Sec.cells x.1) ⟨fun _ _ h hb => ⟨h.1, h.2.keep hb⟩, fun W h => h.2.x⟩ (fun _ h => h.2.bq.size) (by rfl) (fun W hW => by (go_simp; first | done | with_reducible rfl)) (fun g2 hg2 => ?_)
      simp only [Act.put, List.setIfInBounds_toArray, List.set_cons_zero, List.set_cons_succ]
      refine mix_yieldZ (X := Option Addr × Nat) (fun B => .slice B.1 (xsS.length + 1) B.2) (fun B W => After secP l tS x.1 x.2 ∧ LR w r g c zs (mkL xsS AS kS [] none 0 [] none 0 [] none 0 []).cells (mkL (xsS ++ [x.1]) B.1 B.2 [] none 0 [] none 0 [] none 0 []) x.2 W) (fun B => ⟨fun _ _ h hb => ⟨h.1, h.2.keep hb⟩, fun W h => h.2.x⟩) (by rfl) (fun W hW => ?_) (fun B => ?_)
      · obtain ⟨⟨q1, hW⟩, hg0⟩ := hW
        have hown := hW.own
        obtain ⟨v', w', h1, h2, h3⟩ := appendG (P := Tryz.prog) (f := Sec.cells) (size := 11) Sec.len oneSection 22 70 (.agg #[.int .u8 0, .int .i64 0, .int .i64 0, .int .i64 0, .int .i64 0, .int .i64 0, .int .i64 0, .int .i64 0, .int .i64 0, .int .i64 0, .int .i64 0]) 88 Tryz.underlying22 infoSection rfl (by omega) (by omega) (w.heap.size + 2) xsS.length _ _ [x.1] (some ⟨g2, 0, none⟩) 1 (g2 + 1) W hown.secs (.inr (by simp)) (by
          have := hg0.row (B := g2 + 1) (by omega)
          simpa using this) (by have := HM.out.1; have := HLT.out; have := HNS.out.2.2; omega) (by simp) hW.size
        obtain ⟨A', c', rfl, _⟩ := owns_read h2
        refine ⟨(A', c'), w', exec_append (.tmp 31) (.tmp 34) 22 rfl h1, q1, hW.grown (m' := (mkL (xsS ++ [x.1]) A' c' [] none 0 [] none 0 [] none 0 [])) h3 (fun k e => (hown.secs.lt k e).1) HBA.out.1 HBA.out.2 ⟨?_, hown.sigs.kept h3 (owns_apart hown.sigs hown.secs (by decide)), hown.exits.kept h3 (owns_apart hown.exits hown.secs (by decide)), hown.flanks.kept h3 (owns_apart hown.flanks hown.secs (by decide)), fun y hy => (hown.overs y hy).kept h3 (owns_apart (hown.overs y hy) hown.secs (by decide))⟩⟩
        · show w'.ownsRow _ _ _ (.slice A' (xsS ++ [x.1]).length c') (xsS ++ [x.1]).length ((xsS ++ [x.1]).flatMap Sec.cells)
          rw [List.length_append, List.flatMap_append]
          exact h2
      simp only [Act.put, List.setIfInBounds_toArray, List.set_cons_zero, List.set_cons_succ]
      refine mix_nilZ (fun W hW => ?_)
      simp only [List.drop_succ_cons, List.drop_zero]
      have x0 := hW.2.x.cell_at 0 rfl
      have f0 := hW.2.x.frozen 0
      have HW := Lib.hid hW
      clear hW
      go_wp2_with fail
      go_roundw
      case rel =>
        refine ⟨j + 1, xsS ++ [x.1], B.1, B.2, x.2, HLT.out, (by first | with_reducible exact loop_next1 j | exact loop_next j NS HLT.out (Nat.le_trans HNS.out.2.2 (by decide))), Lib.hid ⟨by rw [List.length_append, HM.out.1]; rfl, After.next HM.out.2.1 HW.out.1, ?_⟩⟩
        exact (HW.out.2.store HBA.out.1 HBA.out.2 0 (.slice B.1 (xsS.length + 1) B.2)).as (by simp [Lay.cells]) rfl
      case measure => exact (by first | with_reducible exact loop_less1 j NS HLT.out | exact loop_less j NS HLT.out (Nat.le_trans HNS.out.2.2 (by decide)))
    · obtain rfl : j = NS := by omega
      have HAS : Hid (After (manyP secP ya.toNat) l s4 xsS tS) := Lib.hid (by rw [HNS.out.2.1]; exact HM.out.2.1)
      have HS1 := Lib.hid HM.out.2.2
      clear HM hj hlt
      go_wp2_with fail
      go_loopw [9] (fun i wr => ∃ (j : Nat) (xsG : List (Int × Int)) (AG : Option Addr) (kG : Nat) (tG : Option Nat), j ≤ NG ∧ i = .int .i64 j ∧ Hid (xsG.length = j ∧ After (manyP portP j) l tS xsG tG ∧ LR w r g c zs (mkL xsS AS kS xsG AG kG [] none 0 [] none 0 []).cells (mkL xsS AS kS xsG AG kG [] none 0 [] none 0 []) tG wr)) (fun i _ => NG - (intOf i).toNat)
      case atStart => exact ⟨0, [], none, 0, tS, by omega, rfl, Lib.hid ⟨rfl, After.ret _ _ _, HS1.out⟩⟩
      case round =>
        clear HS1
        obtain ⟨j, xsG, AG, kG, tG, hj, rfl, HM⟩ := hrel
        rename World => wr1
        by_cases hlt : j < NG
        · have hlt' : (j : Int) < (NG : Int) := by omega
          have HLT := Lib.hid hlt
          clear hlt
          go_wp2_with fail
          refine region_mixtZ (fun c D W => False) (fun c a' W hq => hq.elim) (fun W => Whole W (w.heap.size + 1) 29 (mkL xsS AS kS xsG AG kG [] none 0 [] none 0 []).cells) [(0, false), (1, false), (2, false), (3, true), (4, false), (5, true), (6, true)] 2 7 (by kernel_rfl) rfl (by kernel_rfl) (LR w r g c zs (mkL xsS AS kS xsG AG kG [] none 0 [] none 0 []).cells (mkL xsS AS kS xsG AG kG [] none 0 [] none 0 []) tG) ⟨LR.closed _ _ _ _ _ _ _ _, fun W h => h.x⟩ (HM.out.2.2.keep (Below.refl _ _).drew) ?_
          simp only [pickOps, List.getElem?_cons_zero, List.getElem?_cons_succ]
          repeat (first | (refine mix_skipZ (by rfl) ?_; simp only [Act.put, List.setIfInBounds_toArray, List.set_cons_zero, List.set_cons_succ]) | (refine mix_readZ _ (by rfl) (fun W hW => by (have x0 := hW.cell_at 1 rfl; clear hW; go_simp; first | done | with_reducible rfl)) ?_; simp only [Act.put, List.setIfInBounds_toArray, List.set_cons_zero, List.set_cons_succ]))
          refine mix_tryZ (X := (Int × Int) × Option Nat) (fun x => prtV x.1.1 x.1.2) (fun x W => After portP l tG x.1 x.2 ∧ LR w r g c zs (mkL xsS AS kS xsG AG kG [] none 0 [] none 0 []).cells (mkL xsS AS kS xsG AG kG [] none 0 [] none 0 []) x.2 W) (fun x => ⟨fun _ _ h hb => ⟨h.1, h.2.keep hb⟩, fun W h => h.2.x⟩) 81 #[.pointer (some ⟨r, 0, none⟩)] (by rfl) (fun W hW => by (go_simp; first | done | rfl)) (fun W hW => ?_) (fun x => ?_)
          · refine (portR8_any hA hz tG W hW.t).mono ?_
            rintro e W' ⟨y, t, rfl, ht, b, hb⟩
            exact .inl ⟨(y, t), rfl, b, hW.step hb HBA.out.1 ht⟩
          simp only [Act.put, List.setIfInBounds_toArray, List.set_cons_zero, List.set_cons_succ]
          repeat (first | (refine mix_skipZ (by rfl) ?_; simp only [Act.put, List.setIfInBounds_toArray, List.set_cons_zero, List.set_cons_succ]) | (refine mix_readZ _ (by rfl) (fun W hW => by (have x0 := hW.cell_at 1 rfl; clear hW; go_simp; first | done | with_reducible rfl)) ?_; simp only [Act.put, List.setIfInBounds_toArray, List.set_cons_zero, List.set_cons_succ]))
          refine mix_makeZ (fun g => .slice (some ⟨g, 0, none⟩) 1 1) w.heap.size 72 (prtCells x.1) ⟨fun _ _ h hb => ⟨h.1, h.2.keep hb⟩, fun W h => h.2.x⟩ (fun _ h => h.2.bq.size) (by rfl) (fun W hW => by (go_simp; first | done | with_reducible rfl)) (fun g2 hg2 => ?_)
          simp only [Act.put, List.setIfInBounds_toArray, List.set_cons_zero, List.set_cons_succ]
          refine mix_yieldZ (X := Option Addr × Nat) (fun B => .slice B.1 (xsG.length + 1) B.2) (fun B W => After portP l tG x.1 x.2 ∧ LR w r g c zs (mkL xsS AS kS xsG AG kG [] none 0 [] none 0 []).cells (mkL xsS AS kS (xsG ++ [x.1]) B.1 B.2 [] none 0 [] none 0 []) x.2 W) (fun B => ⟨fun _ _ h hb => ⟨h.1, h.2.keep hb⟩, fun W h => h.2.x⟩) (by rfl) (fun W hW => ?_) (fun B => ?_)
          · obtain ⟨⟨q1, hW⟩, hg0⟩ := hW
            have hown := hW.own
            obtain ⟨v', w', h1, h2, h3⟩ := appendG (P := Tryz.prog) (f := prtCells) (size := 2) (fun _ => rfl) oneSignal 23 72 (.agg #[.int .i64 0, .int .i64 0]) 16 Tryz.underlying23 infoSignal rfl (by omega) (by omega) (w.heap.size + 2) xsG.length _ _ [x.1] (some ⟨g2, 0, none⟩) 1 (g2 + 1) W hown.sigs (.inr (by simp)) (by
              have := hg0.row (B := g2 + 1) (by omega)
              simpa using this) (by have := HM.out.1; have := HLT.out; have := HNG.out.2.2; omega) (by simp) hW.size
            obtain ⟨A', c', rfl, _⟩ := owns_read h2
            refine ⟨(A', c'), w', exec_append (.tmp 43) (.tmp 47) 23 rfl h1, q1, hW.grown (m' := (mkL xsS AS kS (xsG ++ [x.1]) A' c' [] none 0 [] none 0 [])) h3 (fun k e => (hown.sigs.lt k e).1) HBA.out.1 HBA.out.2 ⟨hown.secs.kept h3 (owns_apart hown.secs hown.sigs (by decide)), ?_, hown.exits.kept h3 (owns_apart hown.exits hown.sigs (by decide)), hown.flanks.kept h3 (owns_apart hown.flanks hown.sigs (by decide)), fun y hy => (hown.overs y hy).kept h3 (owns_apart (hown.overs y hy) hown.sigs (by decide))⟩⟩
            · show w'.ownsRow _ _ _ (.slice A' (xsG ++ [x.1]).length c') (xsG ++ [x.1]).length ((xsG ++ [x.1]).flatMap prtCells)
              rw [List.length_append, List.flatMap_append]
              exact h2
          simp only [Act.put, List.setIfInBounds_toArray, List.set_cons_zero, List.set_cons_succ]
          refine mix_nilZ (fun W hW => ?_)
          simp only [List.drop_succ_cons, List.drop_zero]
          have x0 := hW.2.x.cell_at 1 rfl
          have f0 := hW.2.x.frozen 1
          have HW := Lib.hid hW
          clear hW
          go_wp2_with fail
          go_roundw
          case rel =>
            refine ⟨j + 1, xsG ++ [x.1], B.1, B.2, x.2, HLT.out, (by first | with_reducible exact loop_next1 j | exact loop_next j NG HLT.out (Nat.le_trans HNG.out.2.2 (by decide))), Lib.hid ⟨by rw [List.length_append, HM.out.1]; rfl, After.next HM.out.2.1 HW.out.1, ?_⟩⟩
            exact (HW.out.2.store HBA.out.1 HBA.out.2 1 (.slice B.1 (xsG.length + 1) B.2)).as (by simp [Lay.cells]) rfl
          case measure => exact (by first | with_reducible exact loop_less1 j NG HLT.out | exact loop_less j NG HLT.out (Nat.le_trans HNG.out.2.2 (by decide)))
        · obtain rfl : j = NG := by omega
          have HAG : Hid (After (manyP portP yb.toNat) l tS xsG tG) := Lib.hid (by rw [HNG.out.2.1]; exact HM.out.2.1)
          have HS2 := Lib.hid HM.out.2.2
          clear HM hj hlt
          go_wp2_with fail
          go_loopw [10] (fun i wr => ∃ (j : Nat) (xsE : List (Exm)) (AE : Option Addr) (kE : Nat) (tE : Option Nat), j ≤ NE ∧ i = .int .i64 j ∧ Hid (xsE.length = j ∧ After (manyP exitP j) l tG (xsE.map Exm.pure) tE ∧ LR w r g c zs (mkL xsS AS kS xsG AG kG xsE AE kE [] none 0 []).cells (mkL xsS AS kS xsG AG kG xsE AE kE [] none 0 []) tE wr)) (fun i _ => NE - (intOf i).toNat)
          case atStart => exact ⟨0, [], none, 0, tG, by omega, rfl, Lib.hid ⟨rfl, After.ret _ _ _, HS2.out⟩⟩
          case round =>
            clear HS2
            obtain ⟨j, xsE, AE, kE, tE, hj, rfl, HM⟩ := hrel
            rename World => wr2
            by_cases hlt : j < NE
            · have hlt' : (j : Int) < (NE : Int) := by omega
              have HLT := Lib.hid hlt
              clear hlt
              go_wp2_with fail
              refine region_mixtZ (fun c D W => False) (fun c a' W hq => hq.elim) (fun W => Whole W (w.heap.size + 1) 29 (mkL xsS AS kS xsG AG kG xsE AE kE [] none 0 []).cells) [(0, false), (1, false), (2, false), (3, true), (4, true), (5, true)] 2 6 (by kernel_rfl) rfl (by kernel_rfl) (LR w r g c zs (mkL xsS AS kS xsG AG kG xsE AE kE [] none 0 []).cells (mkL xsS AS kS xsG AG kG xsE AE kE [] none 0 []) tE) ⟨LR.closed _ _ _ _ _ _ _ _, fun W h => h.x⟩ (HM.out.2.2.keep (Below.refl _ _).drew) ?_
              simp only [pickOps, List.getElem?_cons_zero, List.getElem?_cons_succ]
              repeat (first | (refine mix_skipZ (by rfl) ?_; simp only [Act.put, List.setIfInBounds_toArray, List.set_cons_zero, List.set_cons_succ]) | (refine mix_readZ _ (by rfl) (fun W hW => by (have x0 := hW.cell_at 2 rfl; clear hW; go_simp; first | done | with_reducible rfl)) ?_; simp only [Act.put, List.setIfInBounds_toArray, List.set_cons_zero, List.set_cons_succ]))
              refine mix_tryZ (X := (Exm) × Option Nat) (fun x => x.1.val) (fun x W => After exitP l tE x.1.pure x.2 ∧ W.ownsRow (w.heap.size + 2) 74 3 (.slice x.1.A x.1.over.length x.1.c) x.1.over.length (x.1.over.flatMap stpCells) ∧ LR w r g c zs (mkL xsS AS kS xsG AG kG xsE AE kE [] none 0 []).cells (mkL xsS AS kS xsG AG kG xsE AE kE [] none 0 []) x.2 W) (fun x => ⟨fun _ _ h hb => ⟨h.1, owns_keep h.2.1 hb, h.2.2.keep hb⟩, fun W h => h.2.2.x⟩) 82 #[.pointer (some ⟨r, 0, none⟩)] (by rfl) (fun W hW => by (go_simp; first | done | rfl)) (fun W hW => ?_) (fun x => ?_)
              · refine (exitR8_any hA hz tE W hW.t).mono ?_
                rintro e W' ⟨y, t, rfl, hov, ht, b, hb⟩
                exact .inl ⟨(y, t), rfl, b, owns_base hov hW.size, hW.step hb HBA.out.1 ht⟩
              simp only [Act.put, List.setIfInBounds_toArray, List.set_cons_zero, List.set_cons_succ]
              repeat (first | (refine mix_skipZ (by rfl) ?_; simp only [Act.put, List.setIfInBounds_toArray, List.set_cons_zero, List.set_cons_succ]) | (refine mix_readZ _ (by rfl) (fun W hW => by (have x0 := hW.cell_at 2 rfl; clear hW; go_simp; first | done | with_reducible rfl)) ?_; simp only [Act.put, List.setIfInBounds_toArray, List.set_cons_zero, List.set_cons_succ]))
              refine mix_makeZ (fun g => .slice (some ⟨g, 0, none⟩) 1 1) w.heap.size 51 (Exm.cells x.1) ⟨fun _ _ h hb => ⟨h.1, owns_keep h.2.1 hb, h.2.2.keep hb⟩, fun W h => h.2.2.x⟩ (fun _ h => h.2.2.bq.size) (by rfl) (fun W hW => by (go_simp; first | done | with_reducible rfl)) (fun g2 hg2 => ?_)
              simp only [Act.put, List.setIfInBounds_toArray, List.set_cons_zero, List.set_cons_succ]
              refine mix_yieldZ (X := Option Addr × Nat) (fun B => .slice B.1 (xsE.length + 1) B.2) (fun B W => After exitP l tE x.1.pure x.2 ∧ LR w r g c zs (mkL xsS AS kS xsG AG kG xsE AE kE [] none 0 []).cells (mkL xsS AS kS xsG AG kG (xsE ++ [x.1]) B.1 B.2 [] none 0 []) x.2 W) (fun B => ⟨fun _ _ h hb => ⟨h.1, h.2.keep hb⟩, fun W h => h.2.x⟩) (by rfl) (fun W hW => ?_) (fun B => ?_)
              · obtain ⟨⟨q1, hov, hW⟩, hg0⟩ := hW
                have hown := hW.own
                obtain ⟨v', w', h1, h2, h3⟩ := appendG (P := Tryz.prog) (f := Exm.cells) (size := 3) (fun _ => rfl) oneExit 24 51 (.agg #[.int .i64 0, .int .i64 0, .slice none 0 0]) 40 Tryz.underlying24 infoExit rfl (by omega) (by omega) (w.heap.size + 2) xsE.length _ _ [x.1] (some ⟨g2, 0, none⟩) 1 (g2 + 1) W hown.exits (.inr (by simp)) (by
                  have := hg0.row (B := g2 + 1) (by omega)
                  simpa using this) (by have := HM.out.1; have := HLT.out; have := HNE.out.2.2; omega) (by simp) hW.size
                obtain ⟨A', c', rfl, _⟩ := owns_read h2
                refine ⟨(A', c'), w', exec_append (.tmp 56) (.tmp 59) 24 rfl h1, q1, hW.grown (m' := (mkL xsS AS kS xsG AG kG (xsE ++ [x.1]) A' c' [] none 0 [])) h3 (fun k e => (hown.exits.lt k e).1) HBA.out.1 HBA.out.2 ⟨hown.secs.kept h3 (owns_apart hown.secs hown.exits (by decide)), hown.sigs.kept h3 (owns_apart hown.sigs hown.exits (by decide)), ?_, hown.flanks.kept h3 (owns_apart hown.flanks hown.exits (by decide)), fun y hy => ?_⟩⟩
                · show w'.ownsRow _ _ _ (.slice A' (xsE ++ [x.1]).length c') (xsE ++ [x.1]).length ((xsE ++ [x.1]).flatMap Exm.cells)
                  rw [List.length_append, List.flatMap_append]
                  exact h2
                · rcases List.mem_append.1 hy with hy | hy
                  · exact (hown.overs y hy).kept h3 (owns_apart (hown.overs y hy) hown.exits (by decide))
                  · obtain rfl := List.mem_singleton.1 hy
                    exact hov.kept h3 (owns_apart hov hown.exits (by decide))
              simp only [Act.put, List.setIfInBounds_toArray, List.set_cons_zero, List.set_cons_succ]
              refine mix_nilZ (fun W hW => ?_)
              simp only [List.drop_succ_cons, List.drop_zero]
              have x0 := hW.2.x.cell_at 2 rfl
              have f0 := hW.2.x.frozen 2
              have HW := Lib.hid hW
              clear hW
              go_wp2_with fail
              go_roundw
              case rel =>
                refine ⟨j + 1, xsE ++ [x.1], B.1, B.2, x.2, HLT.out, (by first | with_reducible exact loop_next1 j | exact loop_next j NE HLT.out (Nat.le_trans HNE.out.2.2 (by decide))), Lib.hid ⟨by rw [List.length_append, HM.out.1]; rfl, by rw [List.map_append]; exact After.next HM.out.2.1 HW.out.1, ?_⟩⟩
                exact (HW.out.2.store HBA.out.1 HBA.out.2 2 (.slice B.1 (xsE.length + 1) B.2)).as (by simp [Lay.cells]) rfl
              case measure => exact (by first | with_reducible exact loop_less1 j NE HLT.out | exact loop_less j NE HLT.out (Nat.le_trans HNE.out.2.2 (by decide)))
            · obtain rfl : j = NE := by omega
              have HAE : Hid (After (manyP exitP yc.toNat) l tG (xsE.map Exm.pure) tE) := Lib.hid (by rw [HNE.out.2.1]; exact HM.out.2.1)
              have HS3 := Lib.hid HM.out.2.2
              clear HM hj hlt
              go_wp2_with fail
              go_loopw [11] (fun i wr => ∃ (j : Nat) (xsF : List (Int × Int × Int × Int)) (AF : Option Addr) (kF : Nat) (tF : Option Nat), j ≤ NF ∧ i = .int .i64 j ∧ Hid (xsF.length = j ∧ After (manyP flankP j) l tE xsF tF ∧ LR w r g c zs (mkL xsS AS kS xsG AG kG xsE AE kE xsF AF kF []).cells (mkL xsS AS kS xsG AG kG xsE AE kE xsF AF kF []) tF wr)) (fun i _ => NF - (intOf i).toNat)
              case atStart => exact ⟨0, [], none, 0, tE, by omega, rfl, Lib.hid ⟨rfl, After.ret _ _ _, HS3.out⟩⟩
              case round =>
                clear HS3
                obtain ⟨j, xsF, AF, kF, tF, hj, rfl, HM⟩ := hrel
                rename World => wr3
                by_cases hlt : j < NF
                · have hlt' : (j : Int) < (NF : Int) := by omega
                  have HLT := Lib.hid hlt
                  clear hlt
                  go_wp2_with fail
                  refine (number_any hA hz (K := 5) 5 tF wr3 rfl (by omega) HM.out.2.2.t).mono ?_
                  rintro e w5 ⟨fa, u1, rfl, h5, b5, _, _, hb⟩
                  have HM5 := Lib.hid (HM.out.2.2.step hb HBA.out.1 h5)
                  have HB5 := Lib.hid b5
                  clear h5 b5 hb
                  go_wp2_with fail
                  refine (number_any hA hz (K := 1) 1 u1 w5 rfl (by omega) HM5.out.t).mono ?_
                  rintro e w6 ⟨fb, u2, rfl, h6, b6, _, _, hb⟩
                  have HM6 := Lib.hid (HM5.out.step hb HBA.out.1 h6)
                  have HB6 := Lib.hid b6
                  clear h6 b6 hb HM5
                  go_wp2_with fail
                  refine (number_any hA hz (K := 5) 5 u2 w6 rfl (by omega) HM6.out.t).mono ?_
                  rintro e w7 ⟨fc, u3, rfl, h7, b7, _, _, hb⟩
                  have HM7 := Lib.hid (HM6.out.step hb HBA.out.1 h7)
                  have HB7 := Lib.hid b7
                  clear h7 b7 hb HM6
                  go_wp2_with fail
                  refine region_mixtZ (fun c D W => False) (fun c a' W hq => hq.elim) (fun W => Whole W (w.heap.size + 1) 29 (mkL xsS AS kS xsG AG kG xsE AE kE xsF AF kF []).cells) [(0, false), (1, false), (2, false), (3, false), (4, false), (5, false), (6, true), (7, false), (8, true), (9, true)] 2 10 (by kernel_rfl) rfl (by kernel_rfl) (LR w r g c zs (mkL xsS AS kS xsG AG kG xsE AE kE xsF AF kF []).cells (mkL xsS AS kS xsG AG kG xsE AE kE xsF AF kF []) u3) ⟨LR.closed _ _ _ _ _ _ _ _, fun W h => h.x⟩ (HM7.out.keep (Below.refl _ _).drew) ?_
                  simp only [pickOps, List.getElem?_cons_zero, List.getElem?_cons_succ]
                  repeat (first | (refine mix_skipZ (by rfl) ?_; simp only [Act.put, List.setIfInBounds_toArray, List.set_cons_zero, List.set_cons_succ]) | (refine mix_readZ _ (by rfl) (fun W hW => by (have x0 := hW.cell_at 3 rfl; clear hW; go_simp; first | done | with_reducible rfl)) ?_; simp only [Act.put, List.setIfInBounds_toArray, List.set_cons_zero, List.set_cons_succ]))
                  refine mix_tryZ (X := (Int) × Option Nat) (fun x => .int .i64 x.1) (fun x W => After (numP 1) l u3 x.1 x.2 ∧ LR w r g c zs (mkL xsS AS kS xsG AG kG xsE AE kE xsF AF kF []).cells (mkL xsS AS kS xsG AG kG xsE AE kE xsF AF kF []) x.2 W) (fun x => ⟨fun _ _ h hb => ⟨h.1, h.2.keep hb⟩, fun W h => h.2.x⟩) 79 #[.pointer (some ⟨r, 0, none⟩), .int .i64 1] (by rfl) (fun W hW => by (go_simp; first | done | rfl)) (fun W hW => ?_) (fun x => ?_)
                  · refine (number_any hA hz (K := 1) 1 u3 W rfl (by omega) hW.t).mono ?_
                    rintro e W' ⟨y, t, rfl, ht, b, _, _, hb⟩
                    exact .inl ⟨(y, t), rfl, b, hW.step hb HBA.out.1 ht⟩
                  simp only [Act.put, List.setIfInBounds_toArray, List.set_cons_zero, List.set_cons_succ]
                  repeat (first | (refine mix_skipZ (by rfl) ?_; simp only [Act.put, List.setIfInBounds_toArray, List.set_cons_zero, List.set_cons_succ]) | (refine mix_readZ _ (by rfl) (fun W hW => by (have x0 := hW.cell_at 3 rfl; clear hW; go_simp; first | done | with_reducible rfl)) ?_; simp only [Act.put, List.setIfInBounds_toArray, List.set_cons_zero, List.set_cons_succ]))
                  refine mix_makeZ (fun g => .slice (some ⟨g, 0, none⟩) 1 1) w.heap.size 76 (flkCells (fa, fb, fc, x.1)) ⟨fun _ _ h hb => ⟨h.1, h.2.keep hb⟩, fun W h => h.2.x⟩ (fun _ h => h.2.bq.size) (by rfl) (fun W hW => by (go_simp; first | done | with_reducible rfl)) (fun g2 hg2 => ?_)
                  simp only [Act.put, List.setIfInBounds_toArray, List.set_cons_zero, List.set_cons_succ]
                  refine mix_yieldZ (X := Option Addr × Nat) (fun B => .slice B.1 (xsF.length + 1) B.2) (fun B W => After (numP 1) l u3 x.1 x.2 ∧ LR w r g c zs (mkL xsS AS kS xsG AG kG xsE AE kE xsF AF kF []).cells (mkL xsS AS kS xsG AG kG xsE AE kE (xsF ++ [(fa, fb, fc, x.1)]) B.1 B.2 []) x.2 W) (fun B => ⟨fun _ _ h hb => ⟨h.1, h.2.keep hb⟩, fun W h => h.2.x⟩) (by rfl) (fun W hW => ?_) (fun B => ?_)
                  · obtain ⟨⟨q1, hW⟩, hg0⟩ := hW
                    have hown := hW.own
                    obtain ⟨v', w', h1, h2, h3⟩ := appendG (P := Tryz.prog) (f := flkCells) (size := 4) (fun _ => rfl) oneFlank 25 76 (.agg #[.int .i64 0, .int .i64 0, .int .i64 0, .int .i64 0]) 32 Tryz.underlying25 infoFlank rfl (by omega) (by omega) (w.heap.size + 2) xsF.length _ _ [(fa, fb, fc, x.1)] (some ⟨g2, 0, none⟩) 1 (g2 + 1) W hown.flanks (.inr (by simp)) (by
                      have := hg0.row (B := g2 + 1) (by omega)
                      simpa using this) (by have := HM.out.1; have := HLT.out; have := HNF.out.2.2; omega) (by simp) hW.size
                    obtain ⟨A', c', rfl, _⟩ := owns_read h2
                    refine ⟨(A', c'), w', exec_append (.tmp 74) (.tmp 81) 25 rfl h1, q1, hW.grown (m' := (mkL xsS AS kS xsG AG kG xsE AE kE (xsF ++ [(fa, fb, fc, x.1)]) A' c' [])) h3 (fun k e => (hown.flanks.lt k e).1) HBA.out.1 HBA.out.2 ⟨hown.secs.kept h3 (owns_apart hown.secs hown.flanks (by decide)), hown.sigs.kept h3 (owns_apart hown.sigs hown.flanks (by decide)), hown.exits.kept h3 (owns_apart hown.exits hown.flanks (by decide)), ?_, fun y hy => (hown.overs y hy).kept h3 (owns_apart (hown.overs y hy) hown.flanks (by decide))⟩⟩
                    · show w'.ownsRow _ _ _ (.slice A' (xsF ++ [(fa, fb, fc, x.1)]).length c') (xsF ++ [(fa, fb, fc, x.1)]).length ((xsF ++ [(fa, fb, fc, x.1)]).flatMap flkCells)
                      rw [List.length_append, List.flatMap_append]
                      exact h2
                  simp only [Act.put, List.setIfInBounds_toArray, List.set_cons_zero, List.set_cons_succ]
                  refine mix_nilZ (fun W hW => ?_)
                  simp only [List.drop_succ_cons, List.drop_zero]
                  have x0 := hW.2.x.cell_at 3 rfl
                  have f0 := hW.2.x.frozen 3
                  have HW := Lib.hid hW
                  clear hW
                  go_wp2_with fail
                  go_roundw
                  case rel =>
                    refine ⟨j + 1, xsF ++ [(fa, fb, fc, x.1)], B.1, B.2, x.2, HLT.out, (by first | with_reducible exact loop_next1 j | exact loop_next j NF HLT.out (Nat.le_trans HNF.out.2.2 (by decide))), Lib.hid ⟨by rw [List.length_append, HM.out.1]; rfl, After.next HM.out.2.1 (After.bnd HB5.out (After.bnd HB6.out (After.bnd HB7.out (After.bnd HW.out.1 (After.ret _ _ _)))) : After flankP l tF (fa, fb, fc, x.1) x.2), ?_⟩⟩
                    exact (HW.out.2.store HBA.out.1 HBA.out.2 3 (.slice B.1 (xsF.length + 1) B.2)).as (by simp [Lay.cells]) rfl
                  case measure => exact (by first | with_reducible exact loop_less1 j NF HLT.out | exact loop_less j NF HLT.out (Nat.le_trans HNF.out.2.2 (by decide)))
                · obtain rfl : j = NF := by omega
                  have HAF : Hid (After (manyP flankP yd.toNat) l tE xsF tF) := Lib.hid (by rw [HNF.out.2.1]; exact HM.out.2.1)
                  have HS4 := Lib.hid HM.out.2.2
                  clear HM hj hlt
                  go_wp2_with fail
                  obtain ⟨T, hT⟩ : ∃ T, wr3.heap.size = T := ⟨_, rfl⟩
                  have HT0 : Hid (TR w r g c zs (mkL xsS AS kS xsG AG kG xsE AE kE xsF AF kF []).cells (mkL xsS AS kS xsG AG kG xsE AE kE xsF AF kF []) T [] tF (wr3.alloc (.cells (arr7 []).toArray 77))) := Lib.hid ⟨HS4.out.keep (below1 _ _), by rw [← hT]; exact Whole.new _ _ _, by rw [← hT]; exact HS4.out.size⟩
                  obtain ⟨wt, hwt⟩ : ∃ W, wr3.alloc (.cells (arr7 []).toArray 77) = W := ⟨_, rfl⟩
                  rw [hwt] at HT0
                  simp only [arr7, List.getElem?_nil, Option.getD_none] at hwt
                  try rw [hwt]
                  try rw [hT]
                  clear hwt hT HS4
                  go_loopw [16] (fun i wr => ∃ (j : Nat) (ts : List Int) (t : Option Nat), j ≤ 7 ∧ i = .int .i64 j ∧ Hid (ts.length = j ∧ After (manyP timeP j) l tF ts t ∧ TR w r g c zs (mkL xsS AS kS xsG AG kG xsE AE kE xsF AF kF []).cells (mkL xsS AS kS xsG AG kG xsE AE kE xsF AF kF []) T ts t wr)) (fun i _ => 7 - (intOf i).toNat)
                  case atStart => exact ⟨0, [], tF, by omega, rfl, Lib.hid ⟨rfl, After.ret _ _ _, HT0.out⟩⟩
                  case round =>
                    clear HT0
                    obtain ⟨j, ts, t, hj, rfl, HM⟩ := hrel
                    rename World => wr4
                    by_cases hlt : j < 7
                    · have hlt' : (j : Int) < 7 := by omega
                      have hj7 : 0 ≤ (j : Int) ∧ (j : Int) < 7 := by omega
                      have HLT := Lib.hid hlt
                      go_wp2_with fail
                      refine (number_any hA hz (K := 10) 10 t wr4 rfl (by omega) HM.out.2.2.lr.t).mono ?_
                      rintro e w5 ⟨x, t5, rfl, h5, b5, lo, hi, hb⟩
                      have hM5 := HM.out.2.2.step hb HBA.out.1 h5
                      have HB5 := Lib.hid b5
                      have hwx : wrap64 (x + 1) = x + 1 := IntWalk.wrap64_in _ ⟨by omega, by omega⟩
                      have hwy : IntKind.i64.wrap (x + 1) = x + 1 := by rw [wrap_id _ (by omega) (by omega)]
                      obtain ⟨v0, y0⟩ : ∃ v, w5.cell? ⟨T, j, none⟩ = some v := ⟨_, hM5.t.cell_at j (List.getElem?_eq_getElem (by rw [arr7_len]; omega))⟩
                      have f0 := hM5.t.frozen j
                      have HM6 : Hid (TR w r g c zs (mkL xsS AS kS xsG AG kG xsE AE kE xsF AF kF []).cells (mkL xsS AS kS xsG AG kG xsE AE kE xsF AF kF []) T (ts ++ [x + 1]) t5 (w5.setCell ⟨T, j, none⟩ (.int .i64 (x + 1)))) := Lib.hid (hM5.store HBA.out.1 HBA.out.2 j (.int .i64 (x + 1)) (by rw [← HM.out.1]; exact arr7_set ts (x + 1) (by have := HM.out.1; omega)))
                      clear hM5 h5 b5 hb lo hi
                      go_wp2_with fail
                      go_roundw
                      case rel => exact ⟨j + 1, ts ++ [x + 1], t5, HLT.out, (by first | with_reducible exact loop_next1 j | exact loop_next j 7 HLT.out (by decide)), Lib.hid ⟨by rw [List.length_append, HM.out.1]; rfl, After.next HM.out.2.1 (After.bnd HB5.out (After.ret _ _ _)), HM6.out⟩⟩
                      case measure => exact (by first | with_reducible exact loop_less1 j 7 HLT.out | exact loop_less j 7 HLT.out (by decide))
                    · obtain rfl : j = 7 := by omega
                      have HEX : Hid (After layP l s ⟨xsS, xsG, xsE.map Exm.pure, xsF, ts⟩ t) := Lib.hid (After.bnd HA1.out (After.bnd HA2.out (After.bnd HA3.out (After.bnd HA4.out (After.bnd HAS.out (After.bnd HAG.out (After.bnd HAE.out (After.bnd HAF.out (After.bnd HM.out.2.1 (After.ret _ _ _))))))))))
                      have hlen := HM.out.1
                      have HTB := Lib.hid (times_back ts hlen)
                      have ht := HM.out.2.2.t
                      have hlr := HM.out.2.2.lr
                      unfold arr7 at ht
                      obtain ⟨c0, hc0⟩ : ∃ c, c = ts[0]?.getD 0 := ⟨_, rfl⟩
                      obtain ⟨c1, hc1⟩ : ∃ c, c = ts[1]?.getD 0 := ⟨_, rfl⟩
                      obtain ⟨c2, hc2⟩ : ∃ c, c = ts[2]?.getD 0 := ⟨_, rfl⟩
                      obtain ⟨c3, hc3⟩ : ∃ c, c = ts[3]?.getD 0 := ⟨_, rfl⟩
                      obtain ⟨c4, hc4⟩ : ∃ c, c = ts[4]?.getD 0 := ⟨_, rfl⟩
                      obtain ⟨c5, hc5⟩ : ∃ c, c = ts[5]?.getD 0 := ⟨_, rfl⟩
                      obtain ⟨c6, hc6⟩ : ∃ c, c = ts[6]?.getD 0 := ⟨_, rfl⟩
                      replace HEX : Hid (After layP l s (⟨xsS, AS, kS, xsG, AG, kG, xsE, AE, kE, xsF, AF, kF, c0, c1, c2, c3, c4, c5, c6⟩ : Lay).pl t) := Lib.hid (by
                        have e : (⟨xsS, AS, kS, xsG, AG, kG, xsE, AE, kE, xsF, AF, kF, c0, c1, c2, c3, c4, c5, c6⟩ : Lay).pl = ⟨xsS, xsG, xsE.map Exm.pure, xsF, ts⟩ := by unfold Lay.pl timesL; simp only [hc0, hc1, hc2, hc3, hc4, hc5, hc6]; rw [HTB.out]
                        rw [e]; exact HEX.out)
                      rw [← hc0, ← hc1, ← hc2, ← hc3, ← hc4, ← hc5, ← hc6] at ht
                      clear hlen hc0 hc1 hc2 hc3 hc4 hc5 hc6 HTB HM
                      have y0 := ht.cell_at 0 rfl
                      have y1 := ht.cell_at 1 rfl
                      have y2 := ht.cell_at 2 rfl
                      have y3 := ht.cell_at 3 rfl
                      have y4 := ht.cell_at 4 rfl
                      have y5 := ht.cell_at 5 rfl
                      have y6 := ht.cell_at 6 rfl
                      have x0 := hlr.x.cell_at 4 rfl
                      have f0 := hlr.x.frozen 4
                      have x1 := hlr.x.cell_at 5 rfl
                      have f1 := hlr.x.frozen 5
                      have x2 := hlr.x.cell_at 6 rfl
                      have f2 := hlr.x.frozen 6
                      have x3 := hlr.x.cell_at 7 rfl
                      have f3 := hlr.x.frozen 7
                      have x4 := hlr.x.cell_at 8 rfl
                      have f4 := hlr.x.frozen 8
                      have x5 := hlr.x.cell_at 9 rfl
                      have f5 := hlr.x.frozen 9
                      have x6 := hlr.x.cell_at 10 rfl
                      have f6 := hlr.x.frozen 10
                      have hN := (((((((hlr.store HBA.out.1 HBA.out.2 4 (.int .i64 c0)).store HBA.out.1 HBA.out.2 5 (.int .i64 c1)).store HBA.out.1 HBA.out.2 6 (.int .i64 c2)).store HBA.out.1 HBA.out.2 7 (.int .i64 c3)).store HBA.out.1 HBA.out.2 8 (.int .i64 c4)).store HBA.out.1 HBA.out.2 9 (.int .i64 c5)).store HBA.out.1 HBA.out.2 10 (.int .i64 c6)).as (cs' := [.slice AS xsS.length kS, .slice AG xsG.length kG, .slice AE xsE.length kE, .slice AF xsF.length kF, .int .i64 c0, .int .i64 c1, .int .i64 c2, .int .i64 c3, .int .i64 c4, .int .i64 c5, .int .i64 c6]) rfl rfl
                      have HN : Hid (LR w r g c zs [.slice AS xsS.length kS, .slice AG xsG.length kG, .slice AE xsE.length kE, .slice AF xsF.length kF, .int .i64 c0, .int .i64 c1, .int .i64 c2, .int .i64 c3, .int .i64 c4, .int .i64 c5, .int .i64 c6] (⟨xsS, AS, kS, xsG, AG, kG, xsE, AE, kE, xsF, AF, kF, c0, c1, c2, c3, c4, c5, c6⟩ : Lay) t (((((((wr4.setCell ⟨w.heap.size + 1, 4, none⟩ (.int .i64 c0)).setCell ⟨w.heap.size + 1, 5, none⟩ (.int .i64 c1)).setCell ⟨w.heap.size + 1, 6, none⟩ (.int .i64 c2)).setCell ⟨w.heap.size + 1, 7, none⟩ (.int .i64 c3)).setCell ⟨w.heap.size + 1, 8, none⟩ (.int .i64 c4)).setCell ⟨w.heap.size + 1, 9, none⟩ (.int .i64 c5)).setCell ⟨w.heap.size + 1, 10, none⟩ (.int .i64 c6))) := Lib.hid ⟨hN.bq, hN.rs, hN.x, hN.t, hN.own.secs, hN.own.sigs, hN.own.exits, hN.own.flanks, hN.own.overs⟩
                      clear hN hlr ht hj hlt
    
                      go_upto_region 31 with (fail)
                      obtain ⟨W5, hW5⟩ : ∃ W, (((((((wr4.setCell ⟨w.heap.size + 1, 4, none⟩ (.int .i64 c0)).setCell ⟨w.heap.size + 1, 5, none⟩ (.int .i64 c1)).setCell ⟨w.heap.size + 1, 6, none⟩ (.int .i64 c2)).setCell ⟨w.heap.size + 1, 7, none⟩ (.int .i64 c3)).setCell ⟨w.heap.size + 1, 8, none⟩ (.int .i64 c4)).setCell ⟨w.heap.size + 1, 9, none⟩ (.int .i64 c5)).setCell ⟨w.heap.size + 1, 10, none⟩ (.int .i64 c6)) = W := ⟨_, rfl⟩
                      rw [hW5] at HN
                      rw [hW5]
                      clear hW5 x0 x1 x2 x3 x4 x5 x6 f0 f1 f2 f3 f4 f5 f6 y0 y1 y2 y3 y4 y5 y6
                      have x0 := HN.out.x.cell_at 0 rfl
                      have z0 := HN.out.rs.cell_at 0 rfl
                      have f0 := HN.out.rs.frozen 0
                      have x1 := HN.out.x.cell_at 1 rfl
                      have z1 := HN.out.rs.cell_at 1 rfl
                      have f1 := HN.out.rs.frozen 1
                      have x2 := HN.out.x.cell_at 2 rfl
                      have z2 := HN.out.rs.cell_at 2 rfl
                      have f2 := HN.out.rs.frozen 2
                      have x3 := HN.out.x.cell_at 3 rfl
                      have z3 := HN.out.rs.cell_at 3 rfl
                      have f3 := HN.out.rs.frozen 3
                      have x4 := HN.out.x.cell_at 4 rfl
                      have z4 := HN.out.rs.cell_at 4 rfl
                      have f4 := HN.out.rs.frozen 4
                      have x5 := HN.out.x.cell_at 5 rfl
                      have z5 := HN.out.rs.cell_at 5 rfl
                      have f5 := HN.out.rs.frozen 5
                      have x6 := HN.out.x.cell_at 6 rfl
                      have z6 := HN.out.rs.cell_at 6 rfl
                      have f6 := HN.out.rs.frozen 6
                      have x7 := HN.out.x.cell_at 7 rfl
                      have z7 := HN.out.rs.cell_at 7 rfl
                      have f7 := HN.out.rs.frozen 7
                      have x8 := HN.out.x.cell_at 8 rfl
                      have z8 := HN.out.rs.cell_at 8 rfl
                      have f8 := HN.out.rs.frozen 8
                      have x9 := HN.out.x.cell_at 9 rfl
                      have z9 := HN.out.rs.cell_at 9 rfl
                      have f9 := HN.out.rs.frozen 9
                      have x10 := HN.out.x.cell_at 10 rfl
                      have z10 := HN.out.rs.cell_at 10 rfl
                      have f10 := HN.out.rs.frozen 10
                      have hWo := over11_whole (.slice AS xsS.length kS) (.slice AG xsG.length kG) (.slice AE xsE.length kE) (.slice AF xsF.length kF) (.int .i64 c0) (.int .i64 c1) (.int .i64 c2) (.int .i64 c3) (.int .i64 c4) (.int .i64 c5) (.int .i64 c6) HN.out.rs
                      have HFIN : Hid (Owned w.heap.size (⟨xsS, AS, kS, xsG, AG, kG, xsE, AE, kE, xsF, AF, kF, c0, c1, c2, c3, c4, c5, c6⟩ : Lay) (over11 W5 w.heap.size (.slice AS xsS.length kS) (.slice AG xsG.length kG) (.slice AE xsE.length kE) (.slice AF xsF.length kF) (.int .i64 c0) (.int .i64 c1) (.int .i64 c2) (.int .i64 c3) (.int .i64 c4) (.int .i64 c5) (.int .i64 c6)) ∧ Rd r g c zs t (over11 W5 w.heap.size (.slice AS xsS.length kS) (.slice AG xsG.length kG) (.slice AE xsE.length kE) (.slice AF xsF.length kF) (.int .i64 c0) (.int .i64 c1) (.int .i64 c2) (.int .i64 c3) (.int .i64 c4) (.int .i64 c5) (.int .i64 c6)) ∧ Bq w.heap.size r w (over11 W5 w.heap.size (.slice AS xsS.length kS) (.slice AG xsG.length kG) (.slice AE xsE.length kE) (.slice AF xsF.length kF) (.int .i64 c0) (.int .i64 c1) (.int .i64 c2) (.int .i64 c3) (.int .i64 c4) (.int .i64 c5) (.int .i64 c6))) := Lib.hid ⟨Owned.base (Owned.set (Owned.set (Owned.set (Owned.set (Owned.set (Owned.set (Owned.set (Owned.set (Owned.set (Owned.set (Owned.set (HN.out.own) (p := ⟨w.heap.size, 0, none⟩) (by show w.heap.size < w.heap.size + 2; omega) (.slice AS xsS.length kS)) (p := ⟨w.heap.size, 1, none⟩) (by show w.heap.size < w.heap.size + 2; omega) (.slice AG xsG.length kG)) (p := ⟨w.heap.size, 2, none⟩) (by show w.heap.size < w.heap.size + 2; omega) (.slice AE xsE.length kE)) (p := ⟨w.heap.size, 3, none⟩) (by show w.heap.size < w.heap.size + 2; omega) (.slice AF xsF.length kF)) (p := ⟨w.heap.size, 4, none⟩) (by show w.heap.size < w.heap.size + 2; omega) (.int .i64 c0)) (p := ⟨w.heap.size, 5, none⟩) (by show w.heap.size < w.heap.size + 2; omega) (.int .i64 c1)) (p := ⟨w.heap.size, 6, none⟩) (by show w.heap.size < w.heap.size + 2; omega) (.int .i64 c2)) (p := ⟨w.heap.size, 7, none⟩) (by show w.heap.size < w.heap.size + 2; omega) (.int .i64 c3)) (p := ⟨w.heap.size, 8, none⟩) (by show w.heap.size < w.heap.size + 2; omega) (.int .i64 c4)) (p := ⟨w.heap.size, 9, none⟩) (by show w.heap.size < w.heap.size + 2; omega) (.int .i64 c5)) (p := ⟨w.heap.size, 10, none⟩) (by show w.heap.size < w.heap.size + 2; omega) (.int .i64 c6)) (by omega), (((((((((((HN.out.t.far (p := ⟨w.heap.size, 0, none⟩) (by have := HBA.out.1; show r ≠ w.heap.size; omega) (by have := HBA.out.2; show g ≠ w.heap.size; omega) (.slice AS xsS.length kS)).far (p := ⟨w.heap.size, 1, none⟩) (by have := HBA.out.1; show r ≠ w.heap.size; omega) (by have := HBA.out.2; show g ≠ w.heap.size; omega) (.slice AG xsG.length kG)).far (p := ⟨w.heap.size, 2, none⟩) (by have := HBA.out.1; show r ≠ w.heap.size; omega) (by have := HBA.out.2; show g ≠ w.heap.size; omega) (.slice AE xsE.length kE)).far (p := ⟨w.heap.size, 3, none⟩) (by have := HBA.out.1; show r ≠ w.heap.size; omega) (by have := HBA.out.2; show g ≠ w.heap.size; omega) (.slice AF xsF.length kF)).far (p := ⟨w.heap.size, 4, none⟩) (by have := HBA.out.1; show r ≠ w.heap.size; omega) (by have := HBA.out.2; show g ≠ w.heap.size; omega) (.int .i64 c0)).far (p := ⟨w.heap.size, 5, none⟩) (by have := HBA.out.1; show r ≠ w.heap.size; omega) (by have := HBA.out.2; show g ≠ w.heap.size; omega) (.int .i64 c1)).far (p := ⟨w.heap.size, 6, none⟩) (by have := HBA.out.1; show r ≠ w.heap.size; omega) (by have := HBA.out.2; show g ≠ w.heap.size; omega) (.int .i64 c2)).far (p := ⟨w.heap.size, 7, none⟩) (by have := HBA.out.1; show r ≠ w.heap.size; omega) (by have := HBA.out.2; show g ≠ w.heap.size; omega) (.int .i64 c3)).far (p := ⟨w.heap.size, 8, none⟩) (by have := HBA.out.1; show r ≠ w.heap.size; omega) (by have := HBA.out.2; show g ≠ w.heap.size; omega) (.int .i64 c4)).far (p := ⟨w.heap.size, 9, none⟩) (by have := HBA.out.1; show r ≠ w.heap.size; omega) (by have := HBA.out.2; show g ≠ w.heap.size; omega) (.int .i64 c5)).far (p := ⟨w.heap.size, 10, none⟩) (by have := HBA.out.1; show r ≠ w.heap.size; omega) (by have := HBA.out.2; show g ≠ w.heap.size; omega) (.int .i64 c6)), HN.out.bq.trans (.of (over11_below (g := w.heap.size) (Below.refl w.heap.size W5) (Nat.le_refl _) (.slice AS xsS.length kS) (.slice AG xsG.length kG) (.slice AE xsE.length kE) (.slice AF xsF.length kF) (.int .i64 c0) (.int .i64 c1) (.int .i64 c2) (.int .i64 c3) (.int .i64 c4) (.int .i64 c5) (.int .i64 c6)))⟩
                      go_wp2_with fail
                      change bodyPost _ _ _ _ _ (over11 W5 w.heap.size (.slice AS xsS.length kS) (.slice AG xsG.length kG) (.slice AE xsE.length kE) (.slice AF xsF.length kF) (.int .i64 c0) (.int .i64 c1) (.int .i64 c2) (.int .i64 c3) (.int .i64 c4) (.int .i64 c5) (.int .i64 c6))
                      obtain ⟨W6, hW6⟩ : ∃ W, over11 W5 w.heap.size (.slice AS xsS.length kS) (.slice AG xsG.length kG) (.slice AE xsE.length kE) (.slice AF xsF.length kF) (.int .i64 c0) (.int .i64 c1) (.int .i64 c2) (.int .i64 c3) (.int .i64 c4) (.int .i64 c5) (.int .i64 c6) = W := ⟨_, rfl⟩
                      rw [hW6] at hWo HFIN ⊢
                      clear hW6
                      have e0 := hWo.cell_at 0 rfl
                      have e1 := hWo.cell_at 1 rfl
                      have e2 := hWo.cell_at 2 rfl
                      have e3 := hWo.cell_at 3 rfl
                      have e4 := hWo.cell_at 4 rfl
                      have e5 := hWo.cell_at 5 rfl
                      have e6 := hWo.cell_at 6 rfl
                      have e7 := hWo.cell_at 7 rfl
                      have e8 := hWo.cell_at 8 rfl
                      have e9 := hWo.cell_at 9 rfl
                      have e10 := hWo.cell_at 10 rfl
                      exact bodyPost_ret (v := (⟨xsS, AS, kS, xsG, AG, kG, xsE, AE, kE, xsF, AF, kF, c0, c1, c2, c3, c4, c5, c6⟩ : Lay).val) (by simp [results, Tryz.f34, go_sem, e0, e1, e2, e3, e4, e5, e6, e7, e8, e9, e10]) rfl ⟨(⟨xsS, AS, kS, xsG, AG, kG, xsE, AE, kE, xsF, AF, kF, c0, c1, c2, c3, c4, c5, c6⟩ : Lay), t, rfl, HFIN.out.1, HFIN.out.2.1, HEX.out, HFIN.out.2.2⟩
end
end Go.Proofs.YtegflmaobmibnaaGreatDoor
