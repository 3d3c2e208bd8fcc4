/- What takeExit takes. -/
import Derived.Test.YtegflmaobmibnaaGreatDoorQPlanT
import Derived.Test.YtegflmaobmibnaaGreatDoorQMixTP
namespace Go.Proofs.YtegflmaobmibnaaGreatDoor
set_option maxRecDepth 100000
open Go.RowKit Go.Shelf
set_option linter.unusedVariables false
set_option linter.unusedSimpArgs false

theorem Bq.grows {q : Nat} {A B : World} (h : Bq A.heap.size q A B) : A.grownBy B (some q) := ⟨h.os, h.tape, h.output, h.size, fun k hk hne => h.block k hk (fun e => hne (by rw [e]))⟩
theorem owns_bq {A B : World} {base e size n q : Nat} {v : Value} {xs : List Value} (h : A.ownsRow base e size v n xs) (hb : Bq A.heap.size q A B) (hq : q < base) : B.ownsRow base e size v n xs :=
  h.kept hb.grows (by
    rcases h.2 with ⟨rfl, _⟩ | ⟨g, cap, cur, rfl, h3, _⟩
    · exact .inl rfl
    · refine .inr (fun e => ?_)
      have : g = q := by simpa [Value.ownBlock] using e
      omega)

/-- Within takeExit: what lay ahead but the place lies as it lay; the exit's own cells; the result's; the closure; the overlap so far. -/
structure XS (w : World) (bx ba g : Nat) (zs : List Int) (X : Nat) (cs : List Value) (s : Nat) (v : Value) (ov : List (Int × Int × Int)) (W : World) : Prop where
  bq : Bq w.heap.size ba w W
  x : Whole W X 51 cs
  r : Whole W w.heap.size 51 [.int .i64 0, .int .i64 0, .slice none 0 0]
  t : Taker bx ba g zs s W
  own : W.ownsRow w.heap.size 74 3 v ov.length (ov.flatMap stpCells)
  lt : w.heap.size < X
theorem XS.step {w : World} {bx ba g : Nat} {zs : List Int} {X : Nat} {cs : List Value} {s s' : Nat} {v : Value} {ov : List (Int × Int × Int)} {W W' : World} (h : XS w bx ba g zs X cs s v ov W) (hb : Bq W.heap.size ba W W') (hba : ba < w.heap.size) (ht : Taker bx ba g zs s' W') : XS w bx ba g zs X cs s' v ov W' :=
  ⟨h.bq.trans (hb.less h.bq.size), h.x.bq hb h.x.lt (by have := h.lt; omega), h.r.bq hb h.r.lt (by omega), ht, owns_bq h.own hb hba, h.lt⟩
theorem XS.keep {w : World} {bx ba g : Nat} {zs : List Int} {X : Nat} {cs : List Value} {s : Nat} {v : Value} {ov : List (Int × Int × Int)} {W W' : World} (h : XS w bx ba g zs X cs s v ov W) (hb : Below W.heap.size W W') : XS w bx ba g zs X cs s v ov W' :=
  ⟨h.bq.on hb h.bq.size, h.x.below hb h.x.lt, h.r.below hb h.r.lt, h.t.keep hb, owns_keep h.own hb, h.lt⟩
theorem XS.closed (w : World) (bx ba g : Nat) (zs : List Int) (X : Nat) (cs : List Value) (s : Nat) (v : Value) (ov : List (Int × Int × Int)) : Closed (XS w bx ba g zs X cs s v ov) := fun _ _ h hb => h.keep hb

theorem whole_not_own {W : World} {g t base e size n : Nat} {cs : List Value} {v : Value} {xs : List Value} (h : Whole W g t cs) (ho : W.ownsRow base e size v n xs) (hte : t ≠ e) : some g ≠ v.ownBlock := by
  rcases ho.2 with ⟨rfl, _⟩ | ⟨g', cap, cur, rfl, h3, h4, _⟩
  · intro e'; cases e'
  · intro e'
    have : g = g' := by simpa [Value.ownBlock] using e'
    subst this
    rw [show W.heap[g]? = _ from h] at h4
    cases h4
    exact hte rfl
theorem owns_wset {W : World} {g t base e size n : Nat} {cs : List Value} {v : Value} {xs : List Value} (ho : W.ownsRow base e size v n xs) (h : Whole W g t cs) (hte : t ≠ e) (i : Nat) (u : Value) : (W.setCell ⟨g, i, none⟩ u).ownsRow base e size v n xs :=
  ho.kept (row := some g) ⟨rfl, rfl, rfl, by simp [World.setCell], fun k _ hk => Below.heap_setCell _ _ _ _ (fun e => hk (by rw [e]))⟩ (.inr (Ne.symm (whole_not_own h ho hte)))
theorem Taker.under {bx ba g : Nat} {zs : List Int} {s n : Nat} {w w' : World} (h : Taker bx ba g zs s w) (hb : Below n w w') (h1 : bx < n) (h2 : ba < n) (h3 : g < n) : Taker bx ba g zs s w' :=
  ⟨h.x.below hb h1, h.a.below hb h2, ⟨fun hp => by
    obtain ⟨b, off, e, hlt, hc⟩ := h.h.1 hp
    cases e
    exact ⟨g, 0, rfl, Nat.lt_of_lt_of_le hlt hb.size, fun j u hu => (hb.cell (p := ⟨g, 0 + j, none⟩) h3).trans (hc j u hu)⟩, h.h.2⟩, Nat.lt_of_lt_of_le h.lg hb.size, h.d1, h.d2⟩
theorem XS.grown {w : World} {bx ba g : Nat} {zs : List Int} {X : Nat} {cs : List Value} {s : Nat} {v v' : Value} {ov ov' : List (Int × Int × Int)} {W W' : World} (h : XS w bx ba g zs X cs s v ov W) (hg : W.grownBy W' v.ownBlock) (h1 : bx < w.heap.size) (h2 : ba < w.heap.size) (h3 : g < w.heap.size)
    (ho : W'.ownsRow w.heap.size 74 3 v' ov'.length (ov'.flatMap stpCells)) : XS w bx ba g zs X cs s v' ov' W' :=
  ⟨h.bq.grown hg h.bq.size (fun k e => .inl (h.own.lt k e).1), h.x.kept hg (whole_not_own h.x h.own (by decide)), h.r.kept hg (whole_not_own h.r h.own (by decide)),
    h.t.under ((Below.refl _ W).grown hg h.bq.size (fun k e => (h.own.lt k e).1)) h1 h2 h3, ho, h.lt⟩
theorem XS.store {w : World} {bx ba g : Nat} {zs : List Int} {X : Nat} {cs : List Value} {s : Nat} {v : Value} {ov : List (Int × Int × Int)} {W : World} (h : XS w bx ba g zs X cs s v ov W) (h1 : bx < w.heap.size) (h2 : ba < w.heap.size) (h3 : g < w.heap.size) (i : Nat) (u : Value) :
    XS w bx ba g zs X (cs.set i u) s v ov (W.setCell ⟨X, i, none⟩ u) := by
  have hl := h.lt
  exact ⟨h.bq.set (p := ⟨X, i, none⟩) (.inl (Nat.le_of_lt hl)) u, h.x.set i u, h.r.far (p := ⟨X, i, none⟩) (by show w.heap.size ≠ X; omega) u, h.t.far (p := ⟨X, i, none⟩) (by show bx ≠ X; omega) (by show ba ≠ X; omega) (by show g ≠ X; omega) u, owns_wset h.own h.x (by decide) i u, hl⟩

theorem loop_next (j M : Nat) (h : j < M) (hM : M ≤ 1000) : Value.int .i64 (wrap64 ((j : Int) + 1)) = .int .i64 ((j + 1 : Nat) : Int) := by
  have e1 : ((j + 1 : Nat) : Int) = (j : Int) + 1 := Int.natCast_succ j
  have h1 : (j : Int) ≤ 1000 := by omega
  rw [e1, IntWalk.wrap64_in ((j : Int) + 1) ⟨by omega, by omega⟩]
theorem loop_next1 (j : Nat) : Value.int .i64 ((j : Int) + 1) = .int .i64 ((j + 1 : Nat) : Int) := by rw [Int.natCast_succ]
theorem loop_less1 (j M : Nat) (h : j < M) : M - (intOf (.int .i64 ((j : Int) + 1))).toNat < M - (intOf (.int .i64 (j : Int))).toNat := by
  rw [show ((j : Int) + 1) = ((j + 1 : Nat) : Int) from (Int.natCast_succ j).symm]
  show M - (((j + 1 : Nat) : Int)).toNat < M - ((j : Int)).toNat
  rw [Int.toNat_natCast, Int.toNat_natCast]
  omega
theorem loop_less (j M : Nat) (h : j < M) (hM : M ≤ 1000) : M - (intOf (.int .i64 (wrap64 ((j : Int) + 1)))).toNat < M - (intOf (.int .i64 (j : Int))).toNat := by
  have e1 : ((j : Int) + 1) = ((j + 1 : Nat) : Int) := (Int.natCast_succ j).symm
  have h1 : (j : Int) ≤ 1000 := by omega
  rw [IntWalk.wrap64_in ((j : Int) + 1) ⟨by omega, by omega⟩, e1]
  show M - (((j + 1 : Nat) : Int)).toNat < M - ((j : Int)).toNat
  rw [Int.toNat_natCast, Int.toNat_natCast]
  omega
/-- What comes of takeExit. -/
def OutX (bx ba g : Nat) (zs : List Int) (w : World) (r : Option (XL × Nat)) (e : Ending) (w' : World) : Prop :=
  (∃ (x : Exm) (s' : Nat), r = some (x.pure, s') ∧ e = .returned x.val ∧ w'.ownsRow w.heap.size 74 3 (.slice x.A x.over.length x.c) x.over.length (x.over.flatMap stpCells) ∧ Taker bx ba g zs s' w' ∧ Bq w.heap.size ba w w') ∨ (r = none ∧ ∃ v : ShortV, e = .panicked [{ v := v.1, recovered := false }] ∧ Bq w.heap.size ba w w')

section
variable {bx ba g : Nat} {zs : List Int} {l : List Bool} (hA : Are zs (8 * (zs.length : Int)) l) (hz : zs.length ≤ 2000)
include hA hz
set_option maxHeartbeats 8000000 in
theorem exit_take (s : Nat) (w : World) (hT : Taker bx ba g zs s w) (hs : s ≤ l.length) :
    Calls Tryz.prog 107 #[tkV bx ba] w (OutX bx ba g zs w (exitP l s)) := by
  have hba := hT.a.lt
  have hbx := hT.x.lt
  have hlg := hT.lg
  have h0 := hT.alloc (.cells [.int .i64 0, .int .i64 0, .slice none 0 0].toArray 51)
  have hB : Bq w.heap.size ba w (w.alloc (.cells [.int .i64 0, .int .i64 0, .slice none 0 0].toArray 51)) := (Bq.refl _ _ _).alloc (Nat.le_refl _) _
  have hR := Whole.new w 51 [.int .i64 0, .int .i64 0, .slice none 0 0]
  have hsz : w.heap.size + 1 ≤ (w.alloc (.cells [.int .i64 0, .int .i64 0, .slice none 0 0].toArray 51)).heap.size := by simp
  go_enter Tryz.func107, Tryz.ntmps107
  go_wp2_with fail
  obtain ⟨w0, hw0⟩ : ∃ W, w.alloc (.cells [.int .i64 0, .int .i64 0, .slice none 0 0].toArray 51) = W := ⟨_, rfl⟩
  rw [hw0] at h0 hB hR hsz ⊢
  clear hw0
  go_at_call 106
  refine (port_take hA hz s w0 h0 hs).mono ?_
  rintro e w1 (⟨⟨ps, pq⟩, s1, r1, rfl, h1, hb⟩ | ⟨r1, v, rfl, hb⟩)
  rotate_left
  · exact ⟨rfl, .inr ⟨bnd_none r1, _, rfl, hB.trans (hb.less (by omega))⟩⟩
  replace hs := (good_port l _ _ _ hs r1).2.1
  replace hB := hB.trans (hb.less (by omega))
  replace hR := hR.bq hb (by omega) (by omega)
  replace hsz := Nat.le_trans hsz hb.size
  clear h0 hb
  -- the exit's own cells
  have hX : XS w bx ba g zs w1.heap.size [.int .i64 ps, .int .i64 pq, .slice none 0 0] s1 (.slice none 0 0) [] (w1.alloc (.cells [.int .i64 ps, .int .i64 pq, .slice none 0 0].toArray 51)) :=
    ⟨hB.alloc hB.size _, Whole.new _ _ _, hR.alloc _, h1.alloc _, World.ownsRow_nil _ _ _ _, by omega⟩
  go_upto_region 1 with (fail)
  obtain ⟨w2, hw2⟩ : ∃ W, w1.alloc (.cells [.int .i64 ps, .int .i64 pq, .slice none 0 0].toArray 51) = W := ⟨_, rfl⟩
  rw [hw2] at hX
  rw [hw2]
  clear hw2 h1 hR hB
  refine (take1_any hA hz (K := 2) 2 s1 w2 rfl (by omega) hX.t hs).mono ?_
  rintro e w3 (⟨m, s2, r2, rfl, h1, hb⟩ | ⟨r2, v, rfl, hb⟩)
  rotate_left
  · exact ⟨rfl, .inr ⟨(bnd_some r1).trans (bnd_none r2), _, rfl, hX.bq.trans (hb.less hX.bq.size)⟩⟩
  replace hs := (Good.num 2 l _ _ _ hs r2).2.1
  obtain ⟨hm0, hm3⟩ := Tells.num 2 l _ _ _ r2
  obtain ⟨M, rfl⟩ : ∃ M : Nat, m = M := ⟨m.toNat, by omega⟩
  have hX1 := hX.step hb hba h1
  have HS : Hid (s2 ≤ l.length ∧ M ≤ 3) := Lib.hid ⟨hs, by omega⟩
  have HR1 := Lib.hid r1
  have HR2 := Lib.hid r2
  obtain ⟨X, HXX⟩ : ∃ X, Hid (X = w1.heap.size) := ⟨_, Lib.hid rfl⟩
  rw [← HXX.out] at hX1 ⊢
  clear hX hb h1 hs hm0 hm3 r1 r2 hT hsz HXX
  go_wp2_with fail
  go_loopw [9] (fun i wr => ∃ (j : Nat) (ov : List (Int × Int × Int)) (A : Option Addr) (c : Nat) (s' : Nat), j ≤ M ∧ i = .int .i64 j ∧ Hid (manyP stepP j l s2 = some (ov, s') ∧ s' ≤ l.length ∧ XS w bx ba g zs X [.int .i64 ps, .int .i64 pq, .slice A ov.length c] s' (.slice A ov.length c) ov wr)) (fun i _ => M - (intOf i).toNat)
  case atStart => exact ⟨0, [], none, 0, s2, by omega, rfl, Lib.hid ⟨rfl, HS.out.1, hX1⟩⟩
  case round =>
    clear hX1
    obtain ⟨j, ov, A, c, s', hj, rfl, HM⟩ := hrel
    by_cases hlt : j < M
    · have hlt' : (j : Int) < (M : Int) := by omega
      have HLE : Hid (ov.length = j) := Lib.hid (many_length HM.out.1)
      have HX2 : Hid (∀ W, Whole W X 51 [.int .i64 ps, .int .i64 pq, .slice A ov.length c] → W.cell? ⟨X, 2, none⟩ = some (.slice A ov.length c)) := Lib.hid (fun W h => h.cell_at 2 rfl)
      have HNO : Hid (stepP l s' = none → exitP l s = none) := Lib.hid (fun hn => (bnd_some HR1.out).trans ((bnd_some HR2.out).trans (bnd_none (by rw [Int.toNat_natCast]; exact many_stop ((many_succ HM.out.1).trans (by rw [hn]; rfl)) M hlt))))
      have HMM := Lib.hid HM.out.2.2
      have HSL := Lib.hid HM.out.2.1
      go_wp2_with fail
      refine region_mixtZ (fun c D W => D = [] ∧ stepP l s' = none ∧ (∃ v : ShortV, c = [{ v := v.1, recovered := false }]) ∧ Bq w.heap.size ba w W) (fun c a' W hq => ?_) (fun W => Whole W X 51 [.int .i64 ps, .int .i64 pq, .slice A ov.length c]) [(0, false), (1, false), (2, false), (4, false), (6, false), (3, true), (5, true), (7, true), (8, false), (9, true), (10, true)] 2 11 (by kernel_rfl) rfl (by kernel_rfl) (XS w bx ba g zs X [.int .i64 ps, .int .i64 pq, .slice A ov.length c] s' (.slice A ov.length c) ov) ⟨XS.closed _ _ _ _ _ _ _ _ _ _, fun W h => h.x⟩ (HMM.out.keep (Below.refl _ _).drew) ?_
      · obtain ⟨hd, hn, ⟨v, rfl⟩, hb⟩ := hq
        exact ⟨hd, .inr ⟨HNO.out hn, _, rfl, hb⟩⟩
      simp only [pickOps, List.getElem?_cons_zero, List.getElem?_cons_succ]
      repeat (first | (refine mix_skipZ (by rfl) ?_; simp only [Act.put, List.setIfInBounds_toArray, List.set_cons_zero, List.set_cons_succ]) | (refine mix_readZ _ (by rfl) (fun W hW => by (have x2 := HX2.out W hW; clear hW; go_simp; first | done | with_reducible rfl)) ?_; simp only [Act.put, List.setIfInBounds_toArray, List.set_cons_zero, List.set_cons_succ]))
      refine mix_tryZ (X := Int × Nat) (fun x => .int .i64 x.1) (fun x W => numP 5 l s' = some x ∧ XS w bx ba g zs X [.int .i64 ps, .int .i64 pq, .slice A ov.length c] x.2 (.slice A ov.length c) ov W) (fun x => ⟨fun _ _ h hb => ⟨h.1, h.2.keep hb⟩, fun W h => h.2.x⟩) 110 #[.int .i64 5, .pointer (some ⟨bx, 0, none⟩), .pointer (some ⟨ba, 0, none⟩)] (by rfl) (fun W hW => by (go_simp; first | done | rfl)) (fun W hW => ?_) (fun x => ?_)
      · refine (take1_any hA hz (K := 5) 5 s' W rfl (by omega) hW.t HSL.out).mono ?_
        rintro e W' (⟨u, t, r, rfl, ht, hb⟩ | ⟨r, v, rfl, hb⟩)
        · exact .inl ⟨(u, t), rfl, r, hW.step hb hba ht⟩
        · exact .inr ⟨_, rfl, rfl, bnd_none r, ⟨_, rfl⟩, hW.bq.trans (hb.less hW.bq.size)⟩
      simp only [Act.put, List.setIfInBounds_toArray, List.set_cons_zero, List.set_cons_succ]
      refine mix_tryZ (X := Int × Nat) (fun x => .int .i64 x.1) (fun y W => numP 2 l x.2 = some y ∧ numP 5 l s' = some x ∧ XS w bx ba g zs X [.int .i64 ps, .int .i64 pq, .slice A ov.length c] y.2 (.slice A ov.length c) ov W) (fun x => ⟨fun _ _ h hb => ⟨h.1, h.2.1, h.2.2.keep hb⟩, fun W h => h.2.2.x⟩) 110 #[.int .i64 2, .pointer (some ⟨bx, 0, none⟩), .pointer (some ⟨ba, 0, none⟩)] (by rfl) (fun W hW => by (go_simp; first | done | rfl)) (fun W hW => ?_) (fun y => ?_)
      · refine (take1_any hA hz (K := 2) 2 x.2 W rfl (by omega) hW.2.t ((Good.num 5 l _ _ _ HSL.out hW.1).2.1)).mono ?_
        rintro e W' (⟨u, t, r, rfl, ht, hb⟩ | ⟨r, v, rfl, hb⟩)
        · exact .inl ⟨(u, t), rfl, r, hW.1, hW.2.step hb hba ht⟩
        · exact .inr ⟨_, rfl, rfl, (bnd_some hW.1).trans (bnd_none r), ⟨_, rfl⟩, hW.2.bq.trans (hb.less hW.2.bq.size)⟩
      simp only [Act.put, List.setIfInBounds_toArray, List.set_cons_zero, List.set_cons_succ]
      refine mix_tryZ (X := Int × Nat) (fun x => .int .i64 x.1) (fun z W => numP 2 l y.2 = some z ∧ numP 2 l x.2 = some y ∧ numP 5 l s' = some x ∧ XS w bx ba g zs X [.int .i64 ps, .int .i64 pq, .slice A ov.length c] z.2 (.slice A ov.length c) ov W) (fun x => ⟨fun _ _ h hb => ⟨h.1, h.2.1, h.2.2.1, h.2.2.2.keep hb⟩, fun W h => h.2.2.2.x⟩) 110 #[.int .i64 2, .pointer (some ⟨bx, 0, none⟩), .pointer (some ⟨ba, 0, none⟩)] (by rfl) (fun W hW => by (go_simp; first | done | rfl)) (fun W hW => ?_) (fun z => ?_)
      · refine (take1_any hA hz (K := 2) 2 y.2 W rfl (by omega) hW.2.2.t ((Good.num 2 l _ _ _ (Good.num 5 l _ _ _ HSL.out hW.2.1).2.1 hW.1).2.1)).mono ?_
        rintro e W' (⟨u, t, r, rfl, ht, hb⟩ | ⟨r, v, rfl, hb⟩)
        · exact .inl ⟨(u, t), rfl, r, hW.1, hW.2.1, hW.2.2.step hb hba ht⟩
        · exact .inr ⟨_, rfl, rfl, (bnd_some hW.2.1).trans ((bnd_some hW.1).trans (bnd_none r)), ⟨_, rfl⟩, hW.2.2.bq.trans (hb.less hW.2.2.bq.size)⟩
      simp only [Act.put, List.setIfInBounds_toArray, List.set_cons_zero, List.set_cons_succ]
      repeat (first | (refine mix_skipZ (by rfl) ?_; simp only [Act.put, List.setIfInBounds_toArray, List.set_cons_zero, List.set_cons_succ]) | (refine mix_readZ _ (by rfl) (fun W hW => by (have x2 := HX2.out W hW; clear hW; go_simp; first | done | with_reducible rfl)) ?_; simp only [Act.put, List.setIfInBounds_toArray, List.set_cons_zero, List.set_cons_succ]))
      refine mix_makeZ (fun g => .slice (some ⟨g, 0, none⟩) 1 1) w.heap.size 74 (stpCells (x.1, y.1, z.1)) ⟨fun _ _ h hb => ⟨h.1, h.2.1, h.2.2.1, h.2.2.2.keep hb⟩, fun W h => h.2.2.2.x⟩ (fun _ h => h.2.2.2.bq.size) (by rfl) (fun W hW => by (go_simp; first | done | with_reducible rfl)) (fun g2 hg2 => ?_)
      simp only [Act.put, List.setIfInBounds_toArray, List.set_cons_zero, List.set_cons_succ]
      refine mix_yieldZ (X := Option Addr × Nat) (fun B => .slice B.1 (ov.length + 1) B.2) (fun B W => (numP 2 l y.2 = some z ∧ numP 2 l x.2 = some y ∧ numP 5 l s' = some x) ∧ XS w bx ba g zs X [.int .i64 ps, .int .i64 pq, .slice A ov.length c] z.2 (.slice B.1 (ov.length + 1) B.2) (ov ++ [(x.1, y.1, z.1)]) W) (fun B => ⟨fun _ _ h hb => ⟨h.1, h.2.keep hb⟩, fun W h => h.2.x⟩) (by rfl) (fun W hW => ?_) (fun B => ?_)
      · obtain ⟨⟨q1, q2, q3, hW⟩, hg0⟩ := hW
        obtain ⟨v', w', h1, h2, h3⟩ := appendG (P := Tryz.prog) (f := stpCells) (size := 3) (fun _ => rfl) oneStep 49 74 (.agg #[.int .i64 0, .int .i64 0, .int .i64 0]) 24 Tryz.underlying49 infoStep rfl (by omega) (by omega) w.heap.size ov.length _ _ [(x.1, y.1, z.1)] (some ⟨g2, 0, none⟩) 1 (g2 + 1) W hW.own (.inr (by simp)) (by
          have := hg0.row (B := g2 + 1) (by omega)
          simpa using this) (by have := HLE.out; have := HS.out; omega) (by simp) hW.bq.size
        obtain ⟨A', c', rfl, _⟩ := owns_read h2
        refine ⟨(A', c'), w', exec_append (.tmp 12) (.tmp 20) 49 rfl h1, ⟨q1, q2, q3⟩, hW.grown h3 hbx hba hlg ?_⟩
        rw [List.length_append, List.flatMap_append]
        exact h2
      simp only [Act.put, List.setIfInBounds_toArray, List.set_cons_zero, List.set_cons_succ]
      refine mix_nilZ (fun W hW => ?_)
      simp only [List.drop_succ_cons, List.drop_zero]
      have x2 := HX2.out W hW.2.x
      have f2 := hW.2.x.frozen 2
      have HW := Lib.hid hW
      clear hW
      go_wp2_with fail
      go_roundw
      case rel =>
        obtain ⟨q1, q2, q3⟩ := HW.out.1
        have hst : stepP l s' = some ((x.1, y.1, z.1), z.2) := (bnd_some q3).trans ((bnd_some q2).trans (bnd_some q1))
        refine ⟨j + 1, ov ++ [(x.1, y.1, z.1)], B.1, B.2, z.2, hlt, loop_next j M hlt (Nat.le_trans HS.out.2 (by decide)), Lib.hid ⟨(many_succ HM.out.1).trans (by rw [hst]; rfl), (good_step l _ _ _ HSL.out hst).2.1, ?_⟩⟩
        have e : (ov ++ [(x.1, y.1, z.1)]).length = ov.length + 1 := by simp
        rw [e]
        exact HW.out.2.store hbx hba hlg 2 (.slice B.1 (ov.length + 1) B.2)
      case measure => exact loop_less j M hlt (Nat.le_trans HS.out.2 (by decide))
    · obtain rfl : j = M := by omega
      obtain ⟨h1, h2, hx⟩ := HM.out
      have hex : exitP l s = some ((ps, pq, ov), s') := (bnd_some HR1.out).trans ((bnd_some HR2.out).trans ((bnd_some (by rw [Int.toNat_natCast]; exact h1)).trans rfl))
      have HEX := Lib.hid hex
      clear hex h1 h2
      have x0 := hx.x.cell_at 0 rfl
      have x1 := hx.x.cell_at 1 rfl
      have x2 := hx.x.cell_at 2 rfl
      have z0 := hx.r.cell_at 0 rfl
      have z1 := hx.r.cell_at 1 rfl
      have z2 := hx.r.cell_at 2 rfl
      have f0 := hx.r.frozen 0
      have f1 := hx.r.frozen 1
      have f2 := hx.r.frozen 2
      have hR1 := hx.r.set 0 (.int .i64 ps)
      have hR2 := hR1.set 1 (.int .i64 pq)
      have hR' := hR2.set 2 (.slice A ov.length c)
      have o3 := owns_wset (owns_wset (owns_wset hx.own hx.r (by decide) 0 (.int .i64 ps)) hR1 (by decide) 1 (.int .i64 pq)) hR2 (by decide) 2 (.slice A ov.length c)
      have hB' := ((hx.bq.set (p := ⟨w.heap.size, 0, none⟩) (.inl (Nat.le_refl _)) (.int .i64 ps)).set (p := ⟨w.heap.size, 1, none⟩) (.inl (Nat.le_refl _)) (.int .i64 pq)).set (p := ⟨w.heap.size, 2, none⟩) (.inl (Nat.le_refl _)) (.slice A ov.length c)
      have hT' := ((hx.t.far (p := ⟨w.heap.size, 0, none⟩) (by show bx ≠ w.heap.size; omega) (by show ba ≠ w.heap.size; omega) (by show g ≠ w.heap.size; omega) (.int .i64 ps)).far (p := ⟨w.heap.size, 1, none⟩) (by show bx ≠ w.heap.size; omega) (by show ba ≠ w.heap.size; omega) (by show g ≠ w.heap.size; omega) (.int .i64 pq)).far (p := ⟨w.heap.size, 2, none⟩) (by show bx ≠ w.heap.size; omega) (by show ba ≠ w.heap.size; omega) (by show g ≠ w.heap.size; omega) (.slice A ov.length c)
      have HFIN := Lib.hid (And.intro o3 (And.intro hT' hB'))
      clear o3 hT' hB' hR1 hR2 hx
      go_wp2_with fail
      have e0 := hR'.cell_at 0 rfl
      have e1 := hR'.cell_at 1 rfl
      have e2 := hR'.cell_at 2 rfl
      refine bodyPost_ret (v := (⟨ps, pq, A, c, ov⟩ : Exm).val) (by simp [results, Tryz.f107, go_sem, e0, e1, e2]) rfl (.inl ⟨⟨ps, pq, A, c, ov⟩, s', HEX.out, rfl, HFIN.out.1, HFIN.out.2.1, HFIN.out.2.2⟩)
end
end Go.Proofs.YtegflmaobmibnaaGreatDoor
