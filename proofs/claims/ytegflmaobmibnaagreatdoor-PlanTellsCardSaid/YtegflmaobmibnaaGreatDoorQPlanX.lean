/- What takeLayout takes. -/
import Derived.Test.YtegflmaobmibnaaGreatDoorQPlanW
namespace Go.Proofs.YtegflmaobmibnaaGreatDoor
set_option maxRecDepth 100000
open Go.RowKit Go.Shelf
set_option linter.unusedVariables false
set_option linter.unusedSimpArgs false
attribute [local go_sem] Oper.semAt_some

/-- Within takeLayout: what lay ahead but the place lies as it lay; the closure's box; the result; the layout's own cells; its rows, of the call's own. -/
structure LS (w : World) (bx ba g : Nat) (zs : List Int) (cs : List Value) (m : Lay) (s : Nat) (W : World) : Prop where
  bq : Bq w.heap.size ba w W
  tb : Whole W w.heap.size 131 [tkV bx ba]
  r : Whole W (w.heap.size + 1) 29 [.slice none 0 0, .slice none 0 0, .slice none 0 0, .slice none 0 0, .int .i64 0, .int .i64 0, .int .i64 0, .int .i64 0, .int .i64 0, .int .i64 0, .int .i64 0]
  x : Whole W (w.heap.size + 2) 29 cs
  t : Taker bx ba g zs s W
  sh : Shapes W
  own : Owned (w.heap.size + 3) m W
theorem LS.size {w : World} {bx ba g : Nat} {zs : List Int} {cs : List Value} {m : Lay} {s : Nat} {W : World} (h : LS w bx ba g zs cs m s W) : w.heap.size + 3 ≤ W.heap.size := h.x.lt
theorem Owned.bq {n0 q : Nat} {m : Lay} {A B : World} (h : Owned n0 m A) (hb : Bq A.heap.size q A B) (hq : q < n0) : Owned n0 m B :=
  ⟨owns_bq h.secs hb hq, owns_bq h.sigs hb hq, owns_bq h.exits hb hq, owns_bq h.flanks hb hq, fun x hx => owns_bq (h.overs x hx) hb hq⟩
theorem LS.step {w : World} {bx ba g : Nat} {zs : List Int} {cs : List Value} {m : Lay} {s s' : Nat} {W W' : World} (h : LS w bx ba g zs cs m s W) (hb : Bq W.heap.size ba W W') (hba : ba < w.heap.size) (h0 : 0 ≠ ba) (ht : Taker bx ba g zs s' W') : LS w bx ba g zs cs m s' W' :=
  ⟨h.bq.trans (hb.less h.bq.size), h.tb.bq hb h.tb.lt (by omega), h.r.bq hb h.r.lt (by omega), h.x.bq hb h.x.lt (by omega), ht, Shapes.bq (n := 0) h.sh hb h0, h.own.bq hb (by omega)⟩
theorem LS.keep {w : World} {bx ba g : Nat} {zs : List Int} {cs : List Value} {m : Lay} {s : Nat} {W W' : World} (h : LS w bx ba g zs cs m s W) (hb : Below W.heap.size W W') : LS w bx ba g zs cs m s W' :=
  ⟨h.bq.on hb h.bq.size, h.tb.below hb h.tb.lt, h.r.below hb h.r.lt, h.x.below hb h.x.lt, h.t.keep hb, Shapes.closed _ _ h.sh hb, h.own.keep hb⟩
theorem LS.closed (w : World) (bx ba g : Nat) (zs : List Int) (cs : List Value) (m : Lay) (s : Nat) : Closed (LS w bx ba g zs cs m s) := fun _ _ h hb => h.keep hb
theorem LS.grown {w : World} {bx ba g : Nat} {zs : List Int} {cs : List Value} {m m' : Lay} {s : Nat} {W W' : World} (h : LS w bx ba g zs cs m s W) {r : Option Nat} (hg : W.grownBy W' r) (hr : ∀ k, r = some k → w.heap.size + 3 ≤ k) (h1 : bx < w.heap.size) (h2 : ba < w.heap.size) (h3 : g < w.heap.size)
    (ho : Owned (w.heap.size + 3) m' W') : LS w bx ba g zs cs m' s W' := by
  have hb : Below (w.heap.size + 3) W W' := (Below.refl _ W).grown hg h.size hr
  have hs := h.sh
  exact ⟨h.bq.grown hg h.bq.size (fun k e => .inl (by have := hr k e; omega)), h.tb.below hb (by omega), h.r.below hb (by omega), h.x.below hb (by omega), h.t.under hb (by omega) (by omega) (by omega), fun i v hv => (hb.cell (p := ⟨0, i, none⟩) (by show 0 < _; omega)).trans (hs i v hv), ho⟩
theorem LS.store {w : World} {bx ba g : Nat} {zs : List Int} {cs : List Value} {m : Lay} {s : Nat} {W : World} (h : LS w bx ba g zs cs m s W) (hs0 : 0 < w.heap.size) (h1 : bx < w.heap.size) (h2 : ba < w.heap.size) (h3 : g < w.heap.size) (i : Nat) (u : Value) :
    LS w bx ba g zs (cs.set i u) m s (W.setCell ⟨w.heap.size + 2, i, none⟩ u) :=
  ⟨h.bq.set (p := ⟨w.heap.size + 2, i, none⟩) (.inl (by show w.heap.size ≤ w.heap.size + 2; omega)) u, h.tb.far (p := ⟨w.heap.size + 2, i, none⟩) (by show w.heap.size ≠ w.heap.size + 2; omega) u, h.r.far (p := ⟨w.heap.size + 2, i, none⟩) (by show w.heap.size + 1 ≠ w.heap.size + 2; omega) u, h.x.set i u,
    h.t.far (p := ⟨w.heap.size + 2, i, none⟩) (by show bx ≠ w.heap.size + 2; omega) (by show ba ≠ w.heap.size + 2; omega) (by show g ≠ w.heap.size + 2; omega) u, h.sh.far (p := ⟨w.heap.size + 2, i, none⟩) (by show 0 ≠ w.heap.size + 2; omega) u, h.own.set (p := ⟨w.heap.size + 2, i, none⟩) (by show w.heap.size + 2 < w.heap.size + 3; omega) u⟩
theorem LS.as {w : World} {bx ba g : Nat} {zs : List Int} {cs cs' : List Value} {m m' : Lay} {s : Nat} {W : World} (h : LS w bx ba g zs cs m s W) (hc : cs = cs') (hm : m = m') : LS w bx ba g zs cs' m' s W := by subst hc; subst hm; exact h
abbrev mkL (ss : List Sec) (AS : Option Addr) (kS : Nat) (gs : List (Int × Int)) (AG : Option Addr) (kG : Nat) (ex : List Exm) (AE : Option Addr) (kE : Nat) (fs : List (Int × Int × Int × Int)) (AF : Option Addr) (kF : Nat) (ts : List Int) : Lay :=
  ⟨ss, AS, kS, gs, AG, kG, ex, AE, kE, fs, AF, kF, ts[0]?.getD 0, ts[1]?.getD 0, ts[2]?.getD 0, ts[3]?.getD 0, ts[4]?.getD 0, ts[5]?.getD 0, ts[6]?.getD 0⟩
theorem owned_none (n0 : Nat) (W : World) (ts : List Int) : Owned n0 (mkL [] none 0 [] none 0 [] none 0 [] none 0 ts) W :=
  ⟨World.ownsRow_nil _ _ _ _, World.ownsRow_nil _ _ _ _, World.ownsRow_nil _ _ _ _, World.ownsRow_nil _ _ _ _, fun x hx => by cases hx⟩

theorem owns_cellsOn {A B : World} {base e size n : Nat} {v : Value} {xs : List Value} (h : A.ownsRow base e size v n xs) (hc : CellsOn A B) : B.ownsRow base e size v n xs := by
  refine ⟨h.1, ?_⟩
  rcases h.2 with h2 | ⟨g, cap, cur, hv, h3, h4, r⟩
  · exact .inl h2
  · exact .inr ⟨g, cap, cur, hv, h3, hc.block g _ h4 rfl, r⟩
theorem Owned.cellsOn {n0 : Nat} {m : Lay} {A B : World} (h : Owned n0 m A) (hc : CellsOn A B) : Owned n0 m B :=
  ⟨owns_cellsOn h.secs hc, owns_cellsOn h.sigs hc, owns_cellsOn h.exits hc, owns_cellsOn h.flanks hc, fun x hx => owns_cellsOn (h.overs x hx) hc⟩
theorem LS.firm (w : World) (bx ba g : Nat) (zs : List Int) (cs : List Value) (m : Lay) (s : Nat) : Firm w.heap.size (LS w bx ba g zs cs m s) := fun W W' h h3 hs hk => by
  have hc : CellsOn W W' := ⟨hs, fun k o ho hc => hk k o ho (.inr hc)⟩
  have hw : ∀ {g t : Nat} {cs : List Value}, Whole W g t cs → Whole W' g t cs := fun h => hc.block _ _ h rfl
  refine ⟨⟨h3.1.trans h.bq.os, h3.2.1.trans h.bq.tape, h3.2.2.trans h.bq.output, Nat.le_trans h.bq.size hs, fun k hlt hq => ?_⟩, hw h.tb, hw h.r, hw h.x, ⟨hw h.t.x, hw h.t.a, ⟨h.t.h.1.cellsOn hc, h.t.h.2⟩, Nat.lt_of_lt_of_le h.t.lg hs, h.t.d1, h.t.d2⟩, fun i v hv => hc.cell (h.sh i v hv), h.own.cellsOn hc⟩
  have hb := h.bq.block k hlt hq
  obtain ⟨o, ho⟩ : ∃ o, w.heap[k]? = some o := ⟨_, Array.getElem?_eq_getElem hlt⟩
  rw [ho] at hb ⊢
  exact hk k o hb (.inl hlt)
theorem time_cells (ts : List Int) (t : Int) (a b c d : Value) (h : ts.length < 7) :
    ([a, b, c, d, .int .i64 (ts[0]?.getD 0), .int .i64 (ts[1]?.getD 0), .int .i64 (ts[2]?.getD 0), .int .i64 (ts[3]?.getD 0), .int .i64 (ts[4]?.getD 0), .int .i64 (ts[5]?.getD 0), .int .i64 (ts[6]?.getD 0)] : List Value).set (4 + ts.length) (.int .i64 t) =
    [a, b, c, d, .int .i64 ((ts ++ [t])[0]?.getD 0), .int .i64 ((ts ++ [t])[1]?.getD 0), .int .i64 ((ts ++ [t])[2]?.getD 0), .int .i64 ((ts ++ [t])[3]?.getD 0), .int .i64 ((ts ++ [t])[4]?.getD 0), .int .i64 ((ts ++ [t])[5]?.getD 0), .int .i64 ((ts ++ [t])[6]?.getD 0)] := by
  rcases ts with _ | ⟨t0, _ | ⟨t1, _ | ⟨t2, _ | ⟨t3, _ | ⟨t4, _ | ⟨t5, _ | ⟨t6, ts⟩⟩⟩⟩⟩⟩⟩
  · rfl
  · rfl
  · rfl
  · rfl
  · rfl
  · rfl
  · rfl
  · simp at h; omega
theorem times_back (ts : List Int) (h : ts.length = 7) : [ts[0]?.getD 0, ts[1]?.getD 0, ts[2]?.getD 0, ts[3]?.getD 0, ts[4]?.getD 0, ts[5]?.getD 0, ts[6]?.getD 0] = ts := by
  rcases ts with _ | ⟨t0, _ | ⟨t1, _ | ⟨t2, _ | ⟨t3, _ | ⟨t4, _ | ⟨t5, _ | ⟨t6, _ | ⟨t7, ts⟩⟩⟩⟩⟩⟩⟩⟩ <;> first | rfl | (simp at h)

theorem Bq.off {n q : Nat} {A B : World} {S : Nat → Prop} (h : Bq n q A B) (hn : n = A.heap.size) (hq : S q) : Off S A B :=
  ⟨⟨h.os, h.tape, h.output⟩, h.size, fun k o ho hs => (h.block k (by have := (Array.getElem?_eq_some_iff.1 ho).1; omega) (fun e => hs (e ▸ hq))).trans ho⟩
theorem LS.times {w : World} {bx ba g : Nat} {zs : List Int} {cs : List Value} {ss : List Sec} {AS : Option Addr} {kS : Nat} {gs : List (Int × Int)} {AG : Option Addr} {kG : Nat} {ex : List Exm} {AE : Option Addr} {kE : Nat} {fs : List (Int × Int × Int × Int)} {AF : Option Addr} {kF : Nat} {ts : List Int} {s : Nat} {W : World}
    (h : LS w bx ba g zs cs (mkL ss AS kS gs AG kG ex AE kE fs AF kF ts) s W) (ts' : List Int) : LS w bx ba g zs cs (mkL ss AS kS gs AG kG ex AE kE fs AF kF ts') s W :=
  ⟨h.bq, h.tb, h.r, h.x, h.t, h.sh, h.own.secs, h.own.sigs, h.own.exits, h.own.flanks, h.own.overs⟩

/-- What comes of takeLayout. -/
def OutL (bx ba g : Nat) (zs : List Int) (w : World) (r : Option (PL × Nat)) (e : Ending) (w' : World) : Prop :=
  (∃ (m : Lay) (s' : Nat), r = some (m.pl, s') ∧ e = .returned m.val ∧ Owned w.heap.size m w' ∧ Bq w.heap.size ba w w') ∨ (r = none ∧ ∃ v : ShortV, e = .panicked [{ v := v.1, recovered := false }] ∧ Bq w.heap.size ba w w')

section
variable {bx ba g : Nat} {zs : List Int} {l : List Bool} (hA : Are zs (8 * (zs.length : Int)) l) (hz : zs.length ≤ 2000)
include hA hz
set_option maxHeartbeats 32000000 in
theorem lay_take (s : Nat) (w : World) (hT : Taker bx ba g zs s w) (hs : s ≤ l.length) (hSh : Shapes w) (h00 : 0 ≠ ba) :
    Calls Tryz.prog 77 #[tkV bx ba] w (OutL bx ba g zs w (layP l s)) := by
  have hba := hT.a.lt
  have hbx := hT.x.lt
  have hlg := hT.lg
  have hs0 := hSh.lt
  have hB3 : Below w.heap.size w (((w.alloc (.cells [tkV bx ba].toArray 131)).alloc (.cells [.slice none 0 0, .slice none 0 0, .slice none 0 0, .slice none 0 0, .int .i64 0, .int .i64 0, .int .i64 0, .int .i64 0, .int .i64 0, .int .i64 0, .int .i64 0].toArray 29)).alloc (.cells [.slice none 0 0, .slice none 0 0, .slice none 0 0, .slice none 0 0, .int .i64 0, .int .i64 0, .int .i64 0, .int .i64 0, .int .i64 0, .int .i64 0, .int .i64 0].toArray 29)) := below3 w _ _ _
  have h0 : LS w bx ba g zs (mkL [] none 0 [] none 0 [] none 0 [] none 0 []).cells (mkL [] none 0 [] none 0 [] none 0 [] none 0 []) s (((w.alloc (.cells [tkV bx ba].toArray 131)).alloc (.cells [.slice none 0 0, .slice none 0 0, .slice none 0 0, .slice none 0 0, .int .i64 0, .int .i64 0, .int .i64 0, .int .i64 0, .int .i64 0, .int .i64 0, .int .i64 0].toArray 29)).alloc (.cells [.slice none 0 0, .slice none 0 0, .slice none 0 0, .slice none 0 0, .int .i64 0, .int .i64 0, .int .i64 0, .int .i64 0, .int .i64 0, .int .i64 0, .int .i64 0].toArray 29)) :=
    ⟨.of hB3, ((Whole.new w _ _).alloc _).alloc _, (Whole.new_at _ _ _ _ (by simp)).alloc _, Whole.new_at _ _ _ _ (by simp), hT.keep hB3, Shapes.closed _ _ hSh hB3, owned_none _ _ _⟩
  refine calls_of_wpF Tryz.func77 rfl ?_
  simp only [Tryz.ntmps77, List.size_toArray, List.length_cons, List.length_nil, Nat.reduceAdd, Nat.reduceSub, Array.replicate_succ, Array.replicate_zero, List.push_toArray, List.append_toArray, List.nil_append, List.cons_append]
  obtain ⟨QQ, HQQ⟩ : ∃ QQ, Hid (bodyPostM Fence.wide 9 Tryz.prog Tryz.f77 (OutL bx ba g zs w (layP l s)) = QQ) := ⟨_, Lib.hid rfl⟩
  rw [HQQ.out]
  have HQP : Hid (∀ (c : List PanicEntry) (a : Act) (W : World), a.defers = [] → layP l s = none → (∃ v : ShortV, c = [{ v := v.1, recovered := false }]) → Bq w.heap.size ba w W → QQ (.panic c) a W) := Lib.hid (fun c a W hd hn hc hb => by
    obtain ⟨v, rfl⟩ := hc
    rw [← HQQ.out]
    show LeavesInM _ _ _ _ _ _ a.defers _ _
    rw [hd]
    exact .inr ⟨hn, v, rfl, hb⟩)
  clear hB3 hT hSh
  refine wpF_seq_k fun K hK => ?_
  go_wp2_with fail
  try clear hK
  refine wpF_seq_k fun K hK => ?_
  go_wp2_with fail
  try clear hK
  obtain ⟨w3, hw3⟩ : ∃ W, ((w.alloc (.cells #[tkV bx ba] 131)).alloc (.cells #[.slice none 0 0, .slice none 0 0, .slice none 0 0, .slice none 0 0, .int .i64 0, .int .i64 0, .int .i64 0, .int .i64 0, .int .i64 0, .int .i64 0, .int .i64 0] 29)).alloc (.cells #[.slice none 0 0, .slice none 0 0, .slice none 0 0, .slice none 0 0, .int .i64 0, .int .i64 0, .int .i64 0, .int .i64 0, .int .i64 0, .int .i64 0, .int .i64 0] 29) = W := ⟨_, rfl⟩
  rw [hw3] at h0 ⊢
  clear hw3
  -- how many there are
  refine wpF_seq_k fun K hK => ?_
  refine region_mixZ (fun c D W => D = [] ∧ layP l s = none ∧ (∃ v : ShortV, c = [{ v := v.1, recovered := false }]) ∧ Bq w.heap.size ba w W) (fun c a' W hq => ?_) (fun W => Whole W w.heap.size 131 [tkV bx ba]) [(0, false), (2, false), (1, true), (3, true), (4, false), (5, false)] (by kernel_rfl) (by kernel_rfl) (LS w bx ba g zs (mkL [] none 0 [] none 0 [] none 0 [] none 0 []).cells (mkL [] none 0 [] none 0 [] none 0 [] none 0 []) s) ⟨LS.closed _ _ _ _ _ _ _ _, fun W h => h.tb⟩ (h0.keep (Below.refl _ _).drew) ?_
  · exact HQP.out c a' W hq.1 hq.2.1 hq.2.2.1 hq.2.2.2
  simp only [pickOps, List.getElem?_cons_zero, List.getElem?_cons_succ]
  repeat (first | (refine mix_skipZ (by rfl) ?_; simp only [Act.put, List.setIfInBounds_toArray, List.set_cons_zero, List.set_cons_succ]) | (refine mix_readZ _ (by rfl) (fun W hW => by (have t0 := hW.cell_at 0 rfl; clear hW; go_simp; first | done | with_reducible rfl)) ?_; simp only [Act.put, List.setIfInBounds_toArray, List.set_cons_zero, List.set_cons_succ]))
  refine mix_tryZ (X := Int × Nat) (fun x => .int .i64 x.1) (fun x W => numP 5 l s = some x ∧ LS w bx ba g zs (mkL [] none 0 [] none 0 [] none 0 [] none 0 []).cells (mkL [] none 0 [] none 0 [] none 0 [] none 0 []) x.2 W) (fun x => ⟨fun _ _ h hb => ⟨h.1, h.2.keep hb⟩, fun W h => h.2.tb⟩) 110 #[.int .i64 5, .pointer (some ⟨bx, 0, none⟩), .pointer (some ⟨ba, 0, none⟩)] (by rfl) (fun W hW => by (go_simp; first | done | rfl)) (fun W hW => ?_) (fun xa => ?_)
  · refine (take1_any hA hz (K := 5) 5 s W rfl (by omega) hW.t hs).mono ?_
    rintro e W' (⟨u, t, r, rfl, ht, hb⟩ | ⟨r, v, rfl, hb⟩)
    · exact .inl ⟨(u, t), rfl, r, hW.step hb hba h00 ht⟩
    · exact .inr ⟨_, rfl, rfl, bnd_none r, ⟨_, rfl⟩, hW.bq.trans (hb.less hW.bq.size)⟩
  simp only [Act.put, List.setIfInBounds_toArray, List.set_cons_zero, List.set_cons_succ]
  refine mix_tryZ (X := Int × Nat) (fun x => .int .i64 x.1) (fun x W => numP 4 l xa.2 = some x ∧ numP 5 l s = some xa ∧ LS w bx ba g zs (mkL [] none 0 [] none 0 [] none 0 [] none 0 []).cells (mkL [] none 0 [] none 0 [] none 0 [] none 0 []) x.2 W) (fun x => ⟨fun _ _ h hb => ⟨h.1, h.2.1, h.2.2.keep hb⟩, fun W h => h.2.2.tb⟩) 110 #[.int .i64 4, .pointer (some ⟨bx, 0, none⟩), .pointer (some ⟨ba, 0, none⟩)] (by rfl) (fun W hW => by (go_simp; first | done | rfl)) (fun W hW => ?_) (fun xb => ?_)
  · refine (take1_any hA hz (K := 4) 4 xa.2 W rfl (by omega) hW.2.t ((Good.num 5 l _ _ _ hs hW.1).2.1)).mono ?_
    rintro e W' (⟨u, t, r, rfl, ht, hb⟩ | ⟨r, v, rfl, hb⟩)
    · exact .inl ⟨(u, t), rfl, r, hW.1, hW.2.step hb hba h00 ht⟩
    · exact .inr ⟨_, rfl, rfl, (bnd_some hW.1).trans (bnd_none r), ⟨_, rfl⟩, hW.2.bq.trans (hb.less hW.2.bq.size)⟩
  simp only [Act.put, List.setIfInBounds_toArray, List.set_cons_zero, List.set_cons_succ]
  repeat (first | (refine mix_skipZ (by rfl) ?_; simp only [Act.put, List.setIfInBounds_toArray, List.set_cons_zero, List.set_cons_succ]) | (refine mix_readZ _ (by rfl) (fun W hW => by (have t0 := hW.cell_at 0 rfl; clear hW; go_simp; first | done | with_reducible rfl)) ?_; simp only [Act.put, List.setIfInBounds_toArray, List.set_cons_zero, List.set_cons_succ]))
  refine mix_nilZ (fun W hW => ?_)
  obtain ⟨w4, hw4⟩ : ∃ V, V = W := ⟨_, rfl⟩
  rw [← hw4] at hW ⊢
  obtain ⟨qxb, qxa, h1⟩ := hW
  have Hxa := Lib.hid qxa
  have Hxb := Lib.hid qxb
  have hsxb := (Good.num 4 l _ _ _ ((Good.num 5 l _ _ _ hs qxa).2.1) qxb).2.1
  clear h0 qxb qxa
  have h0 := h1
  clear h1 hw4 W
  refine hK _ _ ?_
  clear hK K
  refine wpF_seq_k fun K hK => ?_
  refine region_mixZ (fun c D W => D = [] ∧ layP l s = none ∧ (∃ v : ShortV, c = [{ v := v.1, recovered := false }]) ∧ Bq w.heap.size ba w W) (fun c a' W hq => ?_) (fun W => Whole W w.heap.size 131 [tkV bx ba]) [(0, false), (2, false), (1, true), (3, true), (4, false), (5, false)] (by kernel_rfl) (by kernel_rfl) (LS w bx ba g zs (mkL [] none 0 [] none 0 [] none 0 [] none 0 []).cells (mkL [] none 0 [] none 0 [] none 0 [] none 0 []) xb.2) ⟨LS.closed _ _ _ _ _ _ _ _, fun W h => h.tb⟩ (h0.keep (Below.refl _ _).drew) ?_
  · exact HQP.out c a' W hq.1 hq.2.1 hq.2.2.1 hq.2.2.2
  simp only [pickOps, List.getElem?_cons_zero, List.getElem?_cons_succ]
  repeat (first | (refine mix_skipZ (by rfl) ?_; simp only [Act.put, List.setIfInBounds_toArray, List.set_cons_zero, List.set_cons_succ]) | (refine mix_readZ _ (by rfl) (fun W hW => by (have t0 := hW.cell_at 0 rfl; clear hW; go_simp; first | done | with_reducible rfl)) ?_; simp only [Act.put, List.setIfInBounds_toArray, List.set_cons_zero, List.set_cons_succ]))
  refine mix_tryZ (X := Int × Nat) (fun x => .int .i64 x.1) (fun x W => numP 4 l xb.2 = some x ∧ LS w bx ba g zs (mkL [] none 0 [] none 0 [] none 0 [] none 0 []).cells (mkL [] none 0 [] none 0 [] none 0 [] none 0 []) x.2 W) (fun x => ⟨fun _ _ h hb => ⟨h.1, h.2.keep hb⟩, fun W h => h.2.tb⟩) 110 #[.int .i64 4, .pointer (some ⟨bx, 0, none⟩), .pointer (some ⟨ba, 0, none⟩)] (by rfl) (fun W hW => by (go_simp; first | done | rfl)) (fun W hW => ?_) (fun xc => ?_)
  · refine (take1_any hA hz (K := 4) 4 xb.2 W rfl (by omega) hW.t hsxb).mono ?_
    rintro e W' (⟨u, t, r, rfl, ht, hb⟩ | ⟨r, v, rfl, hb⟩)
    · exact .inl ⟨(u, t), rfl, r, hW.step hb hba h00 ht⟩
    · exact .inr ⟨_, rfl, rfl, (bnd_some Hxa.out).trans ((bnd_some Hxb.out).trans (bnd_none r)), ⟨_, rfl⟩, hW.bq.trans (hb.less hW.bq.size)⟩
  simp only [Act.put, List.setIfInBounds_toArray, List.set_cons_zero, List.set_cons_succ]
  refine mix_tryZ (X := Int × Nat) (fun x => .int .i64 x.1) (fun x W => numP 5 l xc.2 = some x ∧ numP 4 l xb.2 = some xc ∧ LS w bx ba g zs (mkL [] none 0 [] none 0 [] none 0 [] none 0 []).cells (mkL [] none 0 [] none 0 [] none 0 [] none 0 []) x.2 W) (fun x => ⟨fun _ _ h hb => ⟨h.1, h.2.1, h.2.2.keep hb⟩, fun W h => h.2.2.tb⟩) 110 #[.int .i64 5, .pointer (some ⟨bx, 0, none⟩), .pointer (some ⟨ba, 0, none⟩)] (by rfl) (fun W hW => by (go_simp; first | done | rfl)) (fun W hW => ?_) (fun xd => ?_)
  · refine (take1_any hA hz (K := 5) 5 xc.2 W rfl (by omega) hW.2.t ((Good.num 4 l _ _ _ hsxb hW.1).2.1)).mono ?_
    rintro e W' (⟨u, t, r, rfl, ht, hb⟩ | ⟨r, v, rfl, hb⟩)
    · exact .inl ⟨(u, t), rfl, r, hW.1, hW.2.step hb hba h00 ht⟩
    · exact .inr ⟨_, rfl, rfl, (bnd_some Hxa.out).trans ((bnd_some Hxb.out).trans ((bnd_some hW.1).trans (bnd_none r))), ⟨_, rfl⟩, hW.2.bq.trans (hb.less hW.2.bq.size)⟩
  simp only [Act.put, List.setIfInBounds_toArray, List.set_cons_zero, List.set_cons_succ]
  repeat (first | (refine mix_skipZ (by rfl) ?_; simp only [Act.put, List.setIfInBounds_toArray, List.set_cons_zero, List.set_cons_succ]) | (refine mix_readZ _ (by rfl) (fun W hW => by (have t0 := hW.cell_at 0 rfl; clear hW; go_simp; first | done | with_reducible rfl)) ?_; simp only [Act.put, List.setIfInBounds_toArray, List.set_cons_zero, List.set_cons_succ]))
  refine mix_nilZ (fun W hW => ?_)
  obtain ⟨w5, hw5⟩ : ∃ V, V = W := ⟨_, rfl⟩
  rw [← hw5] at hW ⊢
  obtain ⟨qxd, qxc, h1⟩ := hW
  have Hxc := Lib.hid qxc
  have Hxd := Lib.hid qxd
  have hsxd := (Good.num 5 l _ _ _ ((Good.num 4 l _ _ _ hsxb qxc).2.1) qxd).2.1
  clear h0 qxd qxc
  have h0 := h1
  clear h1 hw5 W
  refine hK _ _ ?_
  clear hK K
  obtain ⟨Nsecs, HNsecs⟩ : ∃ n : Nat, Hid (xa.1 = (n : Int) ∧ xa.1.toNat = n ∧ n ≤ 31) := ⟨xa.1.toNat, Lib.hid (by have := Tells.num _ l _ _ _ Hxa.out; exact ⟨by omega, rfl, by omega⟩)⟩
  rw [HNsecs.out.1]
  refine wpF_seq_k fun K hK => ?_
  go_wp2_with fail
  have hMsecs := HNsecs.out.2.2
  have HS0 := Lib.hid h0
  have HSP := Lib.hid hsxd
  clear h0
  go_loopw [18] (fun i wr => ∃ (j : Nat) (xsS : List (Sec)) (AS : Option Addr) (kS : Nat) (tS : Nat), j ≤ Nsecs ∧ i = .int .i64 j ∧ Hid (manyP secP j l xd.2 = some (xsS, tS) ∧ tS ≤ l.length ∧ LS w bx ba g zs (mkL xsS AS kS [] none 0 [] none 0 [] none 0 []).cells (mkL xsS AS kS [] none 0 [] none 0 [] none 0 []) tS wr)) (fun i _ => Nsecs - (intOf i).toNat)
  case atStart => exact ⟨0, [], none, 0, xd.2, by omega, rfl, Lib.hid ⟨rfl, HSP.out, HS0.out⟩⟩
  case round =>
    clear HS0
    obtain ⟨j, xsS, AS, kS, tS, hj, rfl, HM⟩ := hrel
    by_cases hlt : j < Nsecs
    · have hlt' : (j : Int) < (Nsecs : Int) := by omega
      have HLE : Hid (xsS.length = j) := Lib.hid (many_length HM.out.1)
      have HNO : Hid (secP l tS = none → layP l s = none) := Lib.hid (fun hn => (bnd_some Hxa.out).trans ((bnd_some Hxb.out).trans ((bnd_some Hxc.out).trans ((bnd_some Hxd.out).trans (bnd_none (by rw [HNsecs.out.2.1]; exact many_stop ((many_succ HM.out.1).trans (by rw [hn]; rfl)) Nsecs hlt))))))
      have HMM := Lib.hid HM.out.2.2
      have HSL := Lib.hid HM.out.2.1
      go_wp2_with fail
      refine region_mixtZ (fun c D W => D = [] ∧ layP l s = none ∧ (∃ v : ShortV, c = [{ v := v.1, recovered := false }]) ∧ Bq w.heap.size ba w W) (fun c a' W hq => ?_) (fun W => Whole W w.heap.size 131 [tkV bx ba] ∧ Whole W (w.heap.size + 2) 29 (mkL xsS AS kS [] none 0 [] none 0 [] none 0 []).cells) [(0, false), (1, false), (2, false), (3, true), (4, true), (5, true)] 2 6 (by kernel_rfl) rfl (by kernel_rfl) (LS w bx ba g zs (mkL xsS AS kS [] none 0 [] none 0 [] none 0 []).cells (mkL xsS AS kS [] none 0 [] none 0 [] none 0 []) tS) ⟨LS.closed _ _ _ _ _ _ _ _, fun W h => ⟨h.tb, h.x⟩⟩ (HMM.out.keep (Below.refl _ _).drew) ?_
      · exact HQP.out c a' W hq.1 hq.2.1 hq.2.2.1 hq.2.2.2
      simp only [pickOps, List.getElem?_cons_zero, List.getElem?_cons_succ]
      repeat (first | (refine mix_skipZ (by rfl) ?_; simp only [Act.put, List.setIfInBounds_toArray, List.set_cons_zero, List.set_cons_succ]) | (refine mix_readZ _ (by rfl) (fun W hW => by (have t0 := hW.1.cell_at 0 rfl; have x0 := hW.2.cell_at 0 rfl; clear hW; go_simp; first | done | with_reducible rfl)) ?_; simp only [Act.put, List.setIfInBounds_toArray, List.set_cons_zero, List.set_cons_succ]))
      refine mix_tryZ (X := (Sec) × Nat) (fun x => x.1.val) (fun x W => secP l tS = some x ∧ LS w bx ba g zs (mkL xsS AS kS [] none 0 [] none 0 [] none 0 []).cells (mkL xsS AS kS [] none 0 [] none 0 [] none 0 []) x.2 W) (fun x => ⟨fun _ _ h hb => ⟨h.1, h.2.keep hb⟩, fun W h => ⟨h.2.tb, h.2.x⟩⟩) 105 #[tkV bx ba] (by rfl) (fun W hW => by (go_simp; first | done | rfl)) (fun W hW => ?_) (fun x => ?_)
      · refine (sec_take hA hz tS W hW.t HSL.out hW.sh h00).mono ?_
        rintro e W' (⟨u, t, r, rfl, ht, hb⟩ | ⟨r, v, rfl, hb⟩)
        · exact .inl ⟨(u, t), rfl, r, hW.step hb hba h00 ht⟩
        · exact .inr ⟨_, rfl, rfl, HNO.out r, ⟨_, rfl⟩, hW.bq.trans (hb.less hW.bq.size)⟩
      simp only [Act.put, List.setIfInBounds_toArray, List.set_cons_zero, List.set_cons_succ]
      repeat (first | (refine mix_skipZ (by rfl) ?_; simp only [Act.put, List.setIfInBounds_toArray, List.set_cons_zero, List.set_cons_succ]) | (refine mix_readZ _ (by rfl) (fun W hW => by (have t0 := hW.1.cell_at 0 rfl; have x0 := hW.2.cell_at 0 rfl; clear hW; go_simp; first | done | with_reducible rfl)) ?_; simp only [Act.put, List.setIfInBounds_toArray, List.set_cons_zero, List.set_cons_succ]))
      refine mix_makeZ (fun g => .slice (some ⟨g, 0, none⟩) 1 1) w.heap.size 70 (Sec.cells x.1) ⟨fun _ _ h hb => ⟨h.1, h.2.keep hb⟩, fun W h => ⟨h.2.tb, h.2.x⟩⟩ (fun _ h => h.2.bq.size) (by rfl) (fun W hW => by (go_simp; first | done | with_reducible rfl)) (fun g2 hg2 => ?_)
      simp only [Act.put, List.setIfInBounds_toArray, List.set_cons_zero, List.set_cons_succ]
      refine mix_yieldZ (X := Option Addr × Nat) (fun B => .slice B.1 (xsS.length + 1) B.2) (fun B W => secP l tS = some x ∧ LS w bx ba g zs (mkL xsS AS kS [] none 0 [] none 0 [] none 0 []).cells (mkL (xsS ++ [x.1]) B.1 B.2 [] none 0 [] none 0 [] none 0 []) x.2 W) (fun B => ⟨fun _ _ h hb => ⟨h.1, h.2.keep hb⟩, fun W h => ⟨h.2.tb, h.2.x⟩⟩) (by rfl) (fun W hW => ?_) (fun B => ?_)
      · obtain ⟨⟨q1, hW⟩, hg0⟩ := hW
        have hown := hW.own
        obtain ⟨v', w', h1, h2, h3⟩ := appendG (P := Tryz.prog) (f := Sec.cells) (size := 11) Sec.len oneSection 22 70 (.agg #[.int .u8 0, .int .i64 0, .int .i64 0, .int .i64 0, .int .i64 0, .int .i64 0, .int .i64 0, .int .i64 0, .int .i64 0, .int .i64 0, .int .i64 0]) 88 Tryz.underlying22 infoSection rfl (by omega) (by omega) (w.heap.size + 3) xsS.length _ _ [x.1] (some ⟨g2, 0, none⟩) 1 (g2 + 1) W hown.secs (.inr (by simp)) (by
          have := hg0.row (B := g2 + 1) (by omega)
          simpa using this) (Nat.le_trans (Nat.le_of_eq HLE.out) (by omega)) (by simp) hW.size
        obtain ⟨A', c', rfl, _⟩ := owns_read h2
        refine ⟨(A', c'), w', exec_append (.tmp 21) (.tmp 24) 22 rfl h1, q1, hW.grown (m' := (mkL (xsS ++ [x.1]) A' c' [] none 0 [] none 0 [] none 0 [])) h3 (fun k e => (hown.secs.lt k e).1) hbx hba hlg ⟨?_, hown.sigs.kept h3 (owns_apart hown.sigs hown.secs (by decide)), hown.exits.kept h3 (owns_apart hown.exits hown.secs (by decide)), hown.flanks.kept h3 (owns_apart hown.flanks hown.secs (by decide)), fun y hy => (hown.overs y hy).kept h3 (owns_apart (hown.overs y hy) hown.secs (by decide))⟩⟩
        · show w'.ownsRow _ _ _ (.slice A' (xsS ++ [x.1]).length c') (xsS ++ [x.1]).length ((xsS ++ [x.1]).flatMap Sec.cells)
          rw [List.length_append, List.flatMap_append]
          exact h2
      simp only [Act.put, List.setIfInBounds_toArray, List.set_cons_zero, List.set_cons_succ]
      refine mix_nilZ (fun W hW => ?_)
      simp only [List.drop_succ_cons, List.drop_zero]
      have x0 := hW.2.x.cell_at 0 rfl
      have f0 := hW.2.x.frozen 0
      have HW := Lib.hid hW
      clear hW
      go_wp2_with fail
      go_roundw
      case rel =>
        refine ⟨j + 1, xsS ++ [x.1], B.1, B.2, x.2, hlt, loop_next1 j, Lib.hid ⟨(many_succ HM.out.1).trans (by rw [HW.out.1]; rfl), (good_sec l _ _ _ HSL.out HW.out.1).2.1, ?_⟩⟩
        exact (HW.out.2.store hs0 hbx hba hlg 0 (.slice B.1 (xsS.length + 1) B.2)).as (by simp [Lay.cells]) rfl
      case measure => exact loop_less1 j Nsecs hlt
    · obtain rfl : j = Nsecs := by omega
      obtain ⟨h1, hstS, h0⟩ := HM.out
      clear hj hlt
      have HRsecs : Hid (manyP secP xa.1.toNat l xd.2 = some (xsS, tS)) := Lib.hid (by rw [HNsecs.out.2.1]; exact h1)
      clear HM h1
      obtain ⟨w6, rfl⟩ : ∃ W, W = wr := ⟨wr, rfl⟩
      go_wp2_with fail
      obtain ⟨Nsigs, HNsigs⟩ : ∃ n : Nat, Hid (xb.1 = (n : Int) ∧ xb.1.toNat = n ∧ n ≤ 15) := ⟨xb.1.toNat, Lib.hid (by have := Tells.num _ l _ _ _ Hxb.out; exact ⟨by omega, rfl, by omega⟩)⟩
      rw [HNsigs.out.1]
      refine wpF_seq_k fun K hK => ?_
      go_wp2_with fail
      have hMsigs := HNsigs.out.2.2
      have HS0 := Lib.hid h0
      have HSP := Lib.hid hstS
      clear h0
      go_loopw [29] (fun i wr => ∃ (j : Nat) (xsG : List (Int × Int)) (AG : Option Addr) (kG : Nat) (tG : Nat), j ≤ Nsigs ∧ i = .int .i64 j ∧ Hid (manyP portP j l tS = some (xsG, tG) ∧ tG ≤ l.length ∧ LS w bx ba g zs (mkL xsS AS kS xsG AG kG [] none 0 [] none 0 []).cells (mkL xsS AS kS xsG AG kG [] none 0 [] none 0 []) tG wr)) (fun i _ => Nsigs - (intOf i).toNat)
      case atStart => exact ⟨0, [], none, 0, tS, by omega, rfl, Lib.hid ⟨rfl, HSP.out, HS0.out⟩⟩
      case round =>
        clear HS0
        obtain ⟨j, xsG, AG, kG, tG, hj, rfl, HM⟩ := hrel
        by_cases hlt : j < Nsigs
        · have hlt' : (j : Int) < (Nsigs : Int) := by omega
          have HLE : Hid (xsG.length = j) := Lib.hid (many_length HM.out.1)
          have HNO : Hid (portP l tG = none → layP l s = none) := Lib.hid (fun hn => (bnd_some Hxa.out).trans ((bnd_some Hxb.out).trans ((bnd_some Hxc.out).trans ((bnd_some Hxd.out).trans ((bnd_some HRsecs.out).trans (bnd_none (by rw [HNsigs.out.2.1]; exact many_stop ((many_succ HM.out.1).trans (by rw [hn]; rfl)) Nsigs hlt)))))))
          have HMM := Lib.hid HM.out.2.2
          have HSL := Lib.hid HM.out.2.1
          go_wp2_with fail
          refine region_mixtZ (fun c D W => D = [] ∧ layP l s = none ∧ (∃ v : ShortV, c = [{ v := v.1, recovered := false }]) ∧ Bq w.heap.size ba w W) (fun c a' W hq => ?_) (fun W => Whole W w.heap.size 131 [tkV bx ba] ∧ Whole W (w.heap.size + 2) 29 (mkL xsS AS kS xsG AG kG [] none 0 [] none 0 []).cells) [(0, false), (1, false), (2, false), (3, true), (4, false), (5, true), (6, true)] 2 7 (by kernel_rfl) rfl (by kernel_rfl) (LS w bx ba g zs (mkL xsS AS kS xsG AG kG [] none 0 [] none 0 []).cells (mkL xsS AS kS xsG AG kG [] none 0 [] none 0 []) tG) ⟨LS.closed _ _ _ _ _ _ _ _, fun W h => ⟨h.tb, h.x⟩⟩ (HMM.out.keep (Below.refl _ _).drew) ?_
          · exact HQP.out c a' W hq.1 hq.2.1 hq.2.2.1 hq.2.2.2
          simp only [pickOps, List.getElem?_cons_zero, List.getElem?_cons_succ]
          repeat (first | (refine mix_skipZ (by rfl) ?_; simp only [Act.put, List.setIfInBounds_toArray, List.set_cons_zero, List.set_cons_succ]) | (refine mix_readZ _ (by rfl) (fun W hW => by (have t0 := hW.1.cell_at 0 rfl; have x0 := hW.2.cell_at 1 rfl; clear hW; go_simp; first | done | with_reducible rfl)) ?_; simp only [Act.put, List.setIfInBounds_toArray, List.set_cons_zero, List.set_cons_succ]))
          refine mix_tryZ (X := (Int × Int) × Nat) (fun x => prtV x.1.1 x.1.2) (fun x W => portP l tG = some x ∧ LS w bx ba g zs (mkL xsS AS kS xsG AG kG [] none 0 [] none 0 []).cells (mkL xsS AS kS xsG AG kG [] none 0 [] none 0 []) x.2 W) (fun x => ⟨fun _ _ h hb => ⟨h.1, h.2.keep hb⟩, fun W h => ⟨h.2.tb, h.2.x⟩⟩) 106 #[tkV bx ba] (by rfl) (fun W hW => by (go_simp; first | done | rfl)) (fun W hW => ?_) (fun x => ?_)
          · refine (port_take hA hz tG W hW.t HSL.out).mono ?_
            rintro e W' (⟨u, t, r, rfl, ht, hb⟩ | ⟨r, v, rfl, hb⟩)
            · exact .inl ⟨(u, t), rfl, r, hW.step hb hba h00 ht⟩
            · exact .inr ⟨_, rfl, rfl, HNO.out r, ⟨_, rfl⟩, hW.bq.trans (hb.less hW.bq.size)⟩
          simp only [Act.put, List.setIfInBounds_toArray, List.set_cons_zero, List.set_cons_succ]
          repeat (first | (refine mix_skipZ (by rfl) ?_; simp only [Act.put, List.setIfInBounds_toArray, List.set_cons_zero, List.set_cons_succ]) | (refine mix_readZ _ (by rfl) (fun W hW => by (have t0 := hW.1.cell_at 0 rfl; have x0 := hW.2.cell_at 1 rfl; clear hW; go_simp; first | done | with_reducible rfl)) ?_; simp only [Act.put, List.setIfInBounds_toArray, List.set_cons_zero, List.set_cons_succ]))
          refine mix_makeZ (fun g => .slice (some ⟨g, 0, none⟩) 1 1) w.heap.size 72 (prtCells x.1) ⟨fun _ _ h hb => ⟨h.1, h.2.keep hb⟩, fun W h => ⟨h.2.tb, h.2.x⟩⟩ (fun _ h => h.2.bq.size) (by rfl) (fun W hW => by (go_simp; first | done | with_reducible rfl)) (fun g2 hg2 => ?_)
          simp only [Act.put, List.setIfInBounds_toArray, List.set_cons_zero, List.set_cons_succ]
          refine mix_yieldZ (X := Option Addr × Nat) (fun B => .slice B.1 (xsG.length + 1) B.2) (fun B W => portP l tG = some x ∧ LS w bx ba g zs (mkL xsS AS kS xsG AG kG [] none 0 [] none 0 []).cells (mkL xsS AS kS (xsG ++ [x.1]) B.1 B.2 [] none 0 [] none 0 []) x.2 W) (fun B => ⟨fun _ _ h hb => ⟨h.1, h.2.keep hb⟩, fun W h => ⟨h.2.tb, h.2.x⟩⟩) (by rfl) (fun W hW => ?_) (fun B => ?_)
          · obtain ⟨⟨q1, hW⟩, hg0⟩ := hW
            have hown := hW.own
            obtain ⟨v', w', h1, h2, h3⟩ := appendG (P := Tryz.prog) (f := prtCells) (size := 2) (fun _ => rfl) oneSignal 23 72 (.agg #[.int .i64 0, .int .i64 0]) 16 Tryz.underlying23 infoSignal rfl (by omega) (by omega) (w.heap.size + 3) xsG.length _ _ [x.1] (some ⟨g2, 0, none⟩) 1 (g2 + 1) W hown.sigs (.inr (by simp)) (by
              have := hg0.row (B := g2 + 1) (by omega)
              simpa using this) (Nat.le_trans (Nat.le_of_eq HLE.out) (by omega)) (by simp) hW.size
            obtain ⟨A', c', rfl, _⟩ := owns_read h2
            refine ⟨(A', c'), w', exec_append (.tmp 32) (.tmp 36) 23 rfl h1, q1, hW.grown (m' := (mkL xsS AS kS (xsG ++ [x.1]) A' c' [] none 0 [] none 0 [])) h3 (fun k e => (hown.sigs.lt k e).1) hbx hba hlg ⟨hown.secs.kept h3 (owns_apart hown.secs hown.sigs (by decide)), ?_, hown.exits.kept h3 (owns_apart hown.exits hown.sigs (by decide)), hown.flanks.kept h3 (owns_apart hown.flanks hown.sigs (by decide)), fun y hy => (hown.overs y hy).kept h3 (owns_apart (hown.overs y hy) hown.sigs (by decide))⟩⟩
            · show w'.ownsRow _ _ _ (.slice A' (xsG ++ [x.1]).length c') (xsG ++ [x.1]).length ((xsG ++ [x.1]).flatMap prtCells)
              rw [List.length_append, List.flatMap_append]
              exact h2
          simp only [Act.put, List.setIfInBounds_toArray, List.set_cons_zero, List.set_cons_succ]
          refine mix_nilZ (fun W hW => ?_)
          simp only [List.drop_succ_cons, List.drop_zero]
          have x0 := hW.2.x.cell_at 1 rfl
          have f0 := hW.2.x.frozen 1
          have HW := Lib.hid hW
          clear hW
          go_wp2_with fail
          go_roundw
          case rel =>
            refine ⟨j + 1, xsG ++ [x.1], B.1, B.2, x.2, hlt, loop_next1 j, Lib.hid ⟨(many_succ HM.out.1).trans (by rw [HW.out.1]; rfl), (good_port l _ _ _ HSL.out HW.out.1).2.1, ?_⟩⟩
            exact (HW.out.2.store hs0 hbx hba hlg 1 (.slice B.1 (xsG.length + 1) B.2)).as (by simp [Lay.cells]) rfl
          case measure => exact loop_less1 j Nsigs hlt
        · obtain rfl : j = Nsigs := by omega
          obtain ⟨h1, hstG, h0⟩ := HM.out
          clear hj hlt
          have HRsigs : Hid (manyP portP xb.1.toNat l tS = some (xsG, tG)) := Lib.hid (by rw [HNsigs.out.2.1]; exact h1)
          clear HM h1
          obtain ⟨w7, rfl⟩ : ∃ W, W = wr := ⟨wr, rfl⟩
          go_wp2_with fail
          obtain ⟨Nexits, HNexits⟩ : ∃ n : Nat, Hid (xc.1 = (n : Int) ∧ xc.1.toNat = n ∧ n ≤ 15) := ⟨xc.1.toNat, Lib.hid (by have := Tells.num _ l _ _ _ Hxc.out; exact ⟨by omega, rfl, by omega⟩)⟩
          rw [HNexits.out.1]
          refine wpF_seq_k fun K hK => ?_
          go_wp2_with fail
          have hMexits := HNexits.out.2.2
          have HS0 := Lib.hid h0
          have HSP := Lib.hid hstG
          clear h0
          go_loopw [41] (fun i wr => ∃ (j : Nat) (xsE : List (Exm)) (AE : Option Addr) (kE : Nat) (tE : Nat), j ≤ Nexits ∧ i = .int .i64 j ∧ Hid (manyP exitP j l tG = some (xsE.map Exm.pure, tE) ∧ tE ≤ l.length ∧ LS w bx ba g zs (mkL xsS AS kS xsG AG kG xsE AE kE [] none 0 []).cells (mkL xsS AS kS xsG AG kG xsE AE kE [] none 0 []) tE wr)) (fun i _ => Nexits - (intOf i).toNat)
          case atStart => exact ⟨0, [], none, 0, tG, by omega, rfl, Lib.hid ⟨rfl, HSP.out, HS0.out⟩⟩
          case round =>
            clear HS0
            obtain ⟨j, xsE, AE, kE, tE, hj, rfl, HM⟩ := hrel
            by_cases hlt : j < Nexits
            · have hlt' : (j : Int) < (Nexits : Int) := by omega
              have HLE : Hid (xsE.length = j) := Lib.hid (by have := many_length HM.out.1; rw [List.length_map] at this; exact this)
              have HNO : Hid (exitP l tE = none → layP l s = none) := Lib.hid (fun hn => (bnd_some Hxa.out).trans ((bnd_some Hxb.out).trans ((bnd_some Hxc.out).trans ((bnd_some Hxd.out).trans ((bnd_some HRsecs.out).trans ((bnd_some HRsigs.out).trans (bnd_none (by rw [HNexits.out.2.1]; exact many_stop ((many_succ HM.out.1).trans (by rw [hn]; rfl)) Nexits hlt))))))))
              have HMM := Lib.hid HM.out.2.2
              have HSL := Lib.hid HM.out.2.1
              go_wp2_with fail
              refine region_mixtZ (fun c D W => D = [] ∧ layP l s = none ∧ (∃ v : ShortV, c = [{ v := v.1, recovered := false }]) ∧ Bq w.heap.size ba w W) (fun c a' W hq => ?_) (fun W => Whole W w.heap.size 131 [tkV bx ba] ∧ Whole W (w.heap.size + 2) 29 (mkL xsS AS kS xsG AG kG xsE AE kE [] none 0 []).cells) [(0, false), (1, false), (2, false), (3, true), (4, true), (5, true)] 2 6 (by kernel_rfl) rfl (by kernel_rfl) (LS w bx ba g zs (mkL xsS AS kS xsG AG kG xsE AE kE [] none 0 []).cells (mkL xsS AS kS xsG AG kG xsE AE kE [] none 0 []) tE) ⟨LS.closed _ _ _ _ _ _ _ _, fun W h => ⟨h.tb, h.x⟩⟩ (HMM.out.keep (Below.refl _ _).drew) ?_
              · exact HQP.out c a' W hq.1 hq.2.1 hq.2.2.1 hq.2.2.2
              simp only [pickOps, List.getElem?_cons_zero, List.getElem?_cons_succ]
              repeat (first | (refine mix_skipZ (by rfl) ?_; simp only [Act.put, List.setIfInBounds_toArray, List.set_cons_zero, List.set_cons_succ]) | (refine mix_readZ _ (by rfl) (fun W hW => by (have t0 := hW.1.cell_at 0 rfl; have x0 := hW.2.cell_at 2 rfl; clear hW; go_simp; first | done | with_reducible rfl)) ?_; simp only [Act.put, List.setIfInBounds_toArray, List.set_cons_zero, List.set_cons_succ]))
              refine mix_tryZ (X := (Exm) × Nat) (fun x => Exm.val x.1) (fun x W => exitP l tE = some (x.1.pure, x.2) ∧ W.ownsRow (w.heap.size + 3) 74 3 (.slice x.1.A x.1.over.length x.1.c) x.1.over.length (x.1.over.flatMap stpCells) ∧ LS w bx ba g zs (mkL xsS AS kS xsG AG kG xsE AE kE [] none 0 []).cells (mkL xsS AS kS xsG AG kG xsE AE kE [] none 0 []) x.2 W) (fun x => ⟨fun _ _ h hb => ⟨h.1, owns_keep h.2.1 hb, h.2.2.keep hb⟩, fun W h => ⟨h.2.2.tb, h.2.2.x⟩⟩) 107 #[tkV bx ba] (by rfl) (fun W hW => by (go_simp; first | done | rfl)) (fun W hW => ?_) (fun x => ?_)
              · refine (exit_take hA hz tE W hW.t HSL.out).mono ?_
                rintro e W' (⟨u, t, r, rfl, hov, ht, hb⟩ | ⟨r, v, rfl, hb⟩)
                · exact .inl ⟨(u, t), rfl, r, owns_base hov hW.size, hW.step hb hba h00 ht⟩
                · exact .inr ⟨_, rfl, rfl, HNO.out r, ⟨_, rfl⟩, hW.bq.trans (hb.less hW.bq.size)⟩
              simp only [Act.put, List.setIfInBounds_toArray, List.set_cons_zero, List.set_cons_succ]
              repeat (first | (refine mix_skipZ (by rfl) ?_; simp only [Act.put, List.setIfInBounds_toArray, List.set_cons_zero, List.set_cons_succ]) | (refine mix_readZ _ (by rfl) (fun W hW => by (have t0 := hW.1.cell_at 0 rfl; have x0 := hW.2.cell_at 2 rfl; clear hW; go_simp; first | done | with_reducible rfl)) ?_; simp only [Act.put, List.setIfInBounds_toArray, List.set_cons_zero, List.set_cons_succ]))
              refine mix_makeZ (fun g => .slice (some ⟨g, 0, none⟩) 1 1) w.heap.size 51 (Exm.cells x.1) ⟨fun _ _ h hb => ⟨h.1, owns_keep h.2.1 hb, h.2.2.keep hb⟩, fun W h => ⟨h.2.2.tb, h.2.2.x⟩⟩ (fun _ h => h.2.2.bq.size) (by rfl) (fun W hW => by (go_simp; first | done | with_reducible rfl)) (fun g2 hg2 => ?_)
              simp only [Act.put, List.setIfInBounds_toArray, List.set_cons_zero, List.set_cons_succ]
              refine mix_yieldZ (X := Option Addr × Nat) (fun B => .slice B.1 (xsE.length + 1) B.2) (fun B W => exitP l tE = some (x.1.pure, x.2) ∧ LS w bx ba g zs (mkL xsS AS kS xsG AG kG xsE AE kE [] none 0 []).cells (mkL xsS AS kS xsG AG kG (xsE ++ [x.1]) B.1 B.2 [] none 0 []) x.2 W) (fun B => ⟨fun _ _ h hb => ⟨h.1, h.2.keep hb⟩, fun W h => ⟨h.2.tb, h.2.x⟩⟩) (by rfl) (fun W hW => ?_) (fun B => ?_)
              · obtain ⟨⟨q1, hov, hW⟩, hg0⟩ := hW
                have hown := hW.own
                obtain ⟨v', w', h1, h2, h3⟩ := appendG (P := Tryz.prog) (f := Exm.cells) (size := 3) (fun _ => rfl) oneExit 24 51 (.agg #[.int .i64 0, .int .i64 0, .slice none 0 0]) 40 Tryz.underlying24 infoExit rfl (by omega) (by omega) (w.heap.size + 3) xsE.length _ _ [x.1] (some ⟨g2, 0, none⟩) 1 (g2 + 1) W hown.exits (.inr (by simp)) (by
                  have := hg0.row (B := g2 + 1) (by omega)
                  simpa using this) (Nat.le_trans (Nat.le_of_eq HLE.out) (by omega)) (by simp) hW.size
                obtain ⟨A', c', rfl, _⟩ := owns_read h2
                refine ⟨(A', c'), w', exec_append (.tmp 44) (.tmp 47) 24 rfl h1, q1, hW.grown (m' := (mkL xsS AS kS xsG AG kG (xsE ++ [x.1]) A' c' [] none 0 [])) h3 (fun k e => (hown.exits.lt k e).1) hbx hba hlg ⟨hown.secs.kept h3 (owns_apart hown.secs hown.exits (by decide)), hown.sigs.kept h3 (owns_apart hown.sigs hown.exits (by decide)), ?_, hown.flanks.kept h3 (owns_apart hown.flanks hown.exits (by decide)), fun y hy => ?_⟩⟩
                · show w'.ownsRow _ _ _ (.slice A' (xsE ++ [x.1]).length c') (xsE ++ [x.1]).length ((xsE ++ [x.1]).flatMap Exm.cells)
                  rw [List.length_append, List.flatMap_append]
                  exact h2
                · rcases List.mem_append.1 hy with hy | hy
                  · exact (hown.overs y hy).kept h3 (owns_apart (hown.overs y hy) hown.exits (by decide))
                  · obtain rfl := List.mem_singleton.1 hy
                    exact hov.kept h3 (owns_apart hov hown.exits (by decide))
              simp only [Act.put, List.setIfInBounds_toArray, List.set_cons_zero, List.set_cons_succ]
              refine mix_nilZ (fun W hW => ?_)
              simp only [List.drop_succ_cons, List.drop_zero]
              have x0 := hW.2.x.cell_at 2 rfl
              have f0 := hW.2.x.frozen 2
              have HW := Lib.hid hW
              clear hW
              go_wp2_with fail
              go_roundw
              case rel =>
                refine ⟨j + 1, xsE ++ [x.1], B.1, B.2, x.2, hlt, loop_next1 j, Lib.hid ⟨(many_succ HM.out.1).trans (by rw [HW.out.1]; simp), (good_exit l _ _ _ HSL.out HW.out.1).2.1, ?_⟩⟩
                exact (HW.out.2.store hs0 hbx hba hlg 2 (.slice B.1 (xsE.length + 1) B.2)).as (by simp [Lay.cells]) rfl
              case measure => exact loop_less1 j Nexits hlt
            · obtain rfl : j = Nexits := by omega
              obtain ⟨h1, hstE, h0⟩ := HM.out
              clear hj hlt
              have HRexits : Hid (manyP exitP xc.1.toNat l tG = some (xsE.map Exm.pure, tE)) := Lib.hid (by rw [HNexits.out.2.1]; exact h1)
              clear HM h1
              obtain ⟨w8, rfl⟩ : ∃ W, W = wr := ⟨wr, rfl⟩
              go_wp2_with fail
              obtain ⟨Nflanks, HNflanks⟩ : ∃ n : Nat, Hid (xd.1 = (n : Int) ∧ xd.1.toNat = n ∧ n ≤ 31) := ⟨xd.1.toNat, Lib.hid (by have := Tells.num _ l _ _ _ Hxd.out; exact ⟨by omega, rfl, by omega⟩)⟩
              rw [HNflanks.out.1]
              refine wpF_seq_k fun K hK => ?_
              go_wp2_with fail
              have hMflanks := HNflanks.out.2.2
              have HS0 := Lib.hid h0
              have HSP := Lib.hid hstE
              clear h0
              go_loopw [52] (fun i wr => ∃ (j : Nat) (xsF : List (Int × Int × Int × Int)) (AF : Option Addr) (kF : Nat) (tF : Nat), j ≤ Nflanks ∧ i = .int .i64 j ∧ Hid (manyP flankP j l tE = some (xsF, tF) ∧ tF ≤ l.length ∧ LS w bx ba g zs (mkL xsS AS kS xsG AG kG xsE AE kE xsF AF kF []).cells (mkL xsS AS kS xsG AG kG xsE AE kE xsF AF kF []) tF wr)) (fun i _ => Nflanks - (intOf i).toNat)
              case atStart => exact ⟨0, [], none, 0, tE, by omega, rfl, Lib.hid ⟨rfl, HSP.out, HS0.out⟩⟩
              case round =>
                clear HS0
                obtain ⟨j, xsF, AF, kF, tF, hj, rfl, HM⟩ := hrel
                by_cases hlt : j < Nflanks
                · have hlt' : (j : Int) < (Nflanks : Int) := by omega
                  have HLE : Hid (xsF.length = j) := Lib.hid (many_length HM.out.1)
                  have HNO : Hid (flankP l tF = none → layP l s = none) := Lib.hid (fun hn => (bnd_some Hxa.out).trans ((bnd_some Hxb.out).trans ((bnd_some Hxc.out).trans ((bnd_some Hxd.out).trans ((bnd_some HRsecs.out).trans ((bnd_some HRsigs.out).trans ((bnd_some HRexits.out).trans (bnd_none (by rw [HNflanks.out.2.1]; exact many_stop ((many_succ HM.out.1).trans (by rw [hn]; rfl)) Nflanks hlt)))))))))
                  have HMM := Lib.hid HM.out.2.2
                  have HSL := Lib.hid HM.out.2.1
                  go_wp2_with fail
                  refine region_mixtZ (fun c D W => D = [] ∧ layP l s = none ∧ (∃ v : ShortV, c = [{ v := v.1, recovered := false }]) ∧ Bq w.heap.size ba w W) (fun c a' W hq => ?_) (fun W => Whole W w.heap.size 131 [tkV bx ba] ∧ Whole W (w.heap.size + 2) 29 (mkL xsS AS kS xsG AG kG xsE AE kE xsF AF kF []).cells) [(0, false), (1, false), (2, false), (3, true), (4, true), (5, true)] 2 6 (by kernel_rfl) rfl (by kernel_rfl) (LS w bx ba g zs (mkL xsS AS kS xsG AG kG xsE AE kE xsF AF kF []).cells (mkL xsS AS kS xsG AG kG xsE AE kE xsF AF kF []) tF) ⟨LS.closed _ _ _ _ _ _ _ _, fun W h => ⟨h.tb, h.x⟩⟩ (HMM.out.keep (Below.refl _ _).drew) ?_
                  · exact HQP.out c a' W hq.1 hq.2.1 hq.2.2.1 hq.2.2.2
                  simp only [pickOps, List.getElem?_cons_zero, List.getElem?_cons_succ]
                  repeat (first | (refine mix_skipZ (by rfl) ?_; simp only [Act.put, List.setIfInBounds_toArray, List.set_cons_zero, List.set_cons_succ]) | (refine mix_readZ _ (by rfl) (fun W hW => by (have t0 := hW.1.cell_at 0 rfl; have x0 := hW.2.cell_at 3 rfl; clear hW; go_simp; first | done | with_reducible rfl)) ?_; simp only [Act.put, List.setIfInBounds_toArray, List.set_cons_zero, List.set_cons_succ]))
                  refine mix_tryZ (X := (Int × Int × Int × Int) × Nat) (fun x => flkV x.1.1 x.1.2.1 x.1.2.2.1 x.1.2.2.2) (fun x W => flankP l tF = some x ∧ LS w bx ba g zs (mkL xsS AS kS xsG AG kG xsE AE kE xsF AF kF []).cells (mkL xsS AS kS xsG AG kG xsE AE kE xsF AF kF []) x.2 W) (fun x => ⟨fun _ _ h hb => ⟨h.1, h.2.keep hb⟩, fun W h => ⟨h.2.tb, h.2.x⟩⟩) 108 #[tkV bx ba] (by rfl) (fun W hW => by (go_simp; first | done | rfl)) (fun W hW => ?_) (fun x => ?_)
                  · refine (flank_take hA hz tF W hW.t HSL.out).mono ?_
                    rintro e W' (⟨u, t, r, rfl, ht, hb⟩ | ⟨r, v, rfl, hb⟩)
                    · exact .inl ⟨(u, t), rfl, r, hW.step hb hba h00 ht⟩
                    · exact .inr ⟨_, rfl, rfl, HNO.out r, ⟨_, rfl⟩, hW.bq.trans (hb.less hW.bq.size)⟩
                  simp only [Act.put, List.setIfInBounds_toArray, List.set_cons_zero, List.set_cons_succ]
                  repeat (first | (refine mix_skipZ (by rfl) ?_; simp only [Act.put, List.setIfInBounds_toArray, List.set_cons_zero, List.set_cons_succ]) | (refine mix_readZ _ (by rfl) (fun W hW => by (have t0 := hW.1.cell_at 0 rfl; have x0 := hW.2.cell_at 3 rfl; clear hW; go_simp; first | done | with_reducible rfl)) ?_; simp only [Act.put, List.setIfInBounds_toArray, List.set_cons_zero, List.set_cons_succ]))
                  refine mix_makeZ (fun g => .slice (some ⟨g, 0, none⟩) 1 1) w.heap.size 76 (flkCells x.1) ⟨fun _ _ h hb => ⟨h.1, h.2.keep hb⟩, fun W h => ⟨h.2.tb, h.2.x⟩⟩ (fun _ h => h.2.bq.size) (by rfl) (fun W hW => by (go_simp; first | done | with_reducible rfl)) (fun g2 hg2 => ?_)
                  simp only [Act.put, List.setIfInBounds_toArray, List.set_cons_zero, List.set_cons_succ]
                  refine mix_yieldZ (X := Option Addr × Nat) (fun B => .slice B.1 (xsF.length + 1) B.2) (fun B W => flankP l tF = some x ∧ LS w bx ba g zs (mkL xsS AS kS xsG AG kG xsE AE kE xsF AF kF []).cells (mkL xsS AS kS xsG AG kG xsE AE kE (xsF ++ [x.1]) B.1 B.2 []) x.2 W) (fun B => ⟨fun _ _ h hb => ⟨h.1, h.2.keep hb⟩, fun W h => ⟨h.2.tb, h.2.x⟩⟩) (by rfl) (fun W hW => ?_) (fun B => ?_)
                  · obtain ⟨⟨q1, hW⟩, hg0⟩ := hW
                    have hown := hW.own
                    obtain ⟨v', w', h1, h2, h3⟩ := appendG (P := Tryz.prog) (f := flkCells) (size := 4) (fun _ => rfl) oneFlank 25 76 (.agg #[.int .i64 0, .int .i64 0, .int .i64 0, .int .i64 0]) 32 Tryz.underlying25 infoFlank rfl (by omega) (by omega) (w.heap.size + 3) xsF.length _ _ [x.1] (some ⟨g2, 0, none⟩) 1 (g2 + 1) W hown.flanks (.inr (by simp)) (by
                      have := hg0.row (B := g2 + 1) (by omega)
                      simpa using this) (Nat.le_trans (Nat.le_of_eq HLE.out) (by omega)) (by simp) hW.size
                    obtain ⟨A', c', rfl, _⟩ := owns_read h2
                    refine ⟨(A', c'), w', exec_append (.tmp 55) (.tmp 58) 25 rfl h1, q1, hW.grown (m' := (mkL xsS AS kS xsG AG kG xsE AE kE (xsF ++ [x.1]) A' c' [])) h3 (fun k e => (hown.flanks.lt k e).1) hbx hba hlg ⟨hown.secs.kept h3 (owns_apart hown.secs hown.flanks (by decide)), hown.sigs.kept h3 (owns_apart hown.sigs hown.flanks (by decide)), hown.exits.kept h3 (owns_apart hown.exits hown.flanks (by decide)), ?_, fun y hy => (hown.overs y hy).kept h3 (owns_apart (hown.overs y hy) hown.flanks (by decide))⟩⟩
                    · show w'.ownsRow _ _ _ (.slice A' (xsF ++ [x.1]).length c') (xsF ++ [x.1]).length ((xsF ++ [x.1]).flatMap flkCells)
                      rw [List.length_append, List.flatMap_append]
                      exact h2
                  simp only [Act.put, List.setIfInBounds_toArray, List.set_cons_zero, List.set_cons_succ]
                  refine mix_nilZ (fun W hW => ?_)
                  simp only [List.drop_succ_cons, List.drop_zero]
                  have x0 := hW.2.x.cell_at 3 rfl
                  have f0 := hW.2.x.frozen 3
                  have HW := Lib.hid hW
                  clear hW
                  go_wp2_with fail
                  go_roundw
                  case rel =>
                    refine ⟨j + 1, xsF ++ [x.1], B.1, B.2, x.2, hlt, loop_next1 j, Lib.hid ⟨(many_succ HM.out.1).trans (by rw [HW.out.1]; rfl), (good_flank l _ _ _ HSL.out HW.out.1).2.1, ?_⟩⟩
                    exact (HW.out.2.store hs0 hbx hba hlg 3 (.slice B.1 (xsF.length + 1) B.2)).as (by simp [Lay.cells]) rfl
                  case measure => exact loop_less1 j Nflanks hlt
                · obtain rfl : j = Nflanks := by omega
                  obtain ⟨h1, hstF, h0⟩ := HM.out
                  clear hj hlt
                  have HRflanks : Hid (manyP flankP xd.1.toNat l tE = some (xsF, tF)) := Lib.hid (by rw [HNflanks.out.2.1]; exact h1)
                  clear HM h1
                  obtain ⟨w9, rfl⟩ : ∃ W, W = wr := ⟨wr, rfl⟩
                  go_wp2_with fail
                  have HS9 := Lib.hid h0
                  have HSP9 := Lib.hid hstF
                  clear h0
                  refine wpF_seq ?_
                  refine wpF_seq_k fun K hK => ?_
                  go_wp2_with fail
                  go_at_call 104
                  refine (times8_any (w.heap.size + 2) 4 w9).mono ?_
                  rintro e w10 ⟨rfl, rfl⟩
                  go_wp2_with fail
                  have hsz9 := HS9.out.size
                  have hD := Whole.new w9 152 [.pointer (some ⟨w.heap.size + 2, 4, none⟩)]
                  have h10 := HS9.out.keep (below1 w9 (.cells #[.pointer (some ⟨w.heap.size + 2, 4, none⟩)] 152))
                  have hsz10 : w9.heap.size + 1 ≤ (w9.alloc (.cells #[.pointer (some ⟨w.heap.size + 2, 4, none⟩)] 152)).heap.size := by simp
                  obtain ⟨w10, hw10⟩ : ∃ W, w9.alloc (.cells #[.pointer (some ⟨w.heap.size + 2, 4, none⟩)] 152) = W := ⟨_, rfl⟩
                  rw [hw10] at h10 hsz10 ⊢
                  have hD : Whole w10 w9.heap.size 152 [.pointer (some ⟨w.heap.size + 2, 4, none⟩)] := by rw [← hw10]; exact hD
                  clear hw10
                  try clear hK
                  refine wpF_block ?_
                  refine range_iterZs (asg := ?asg) (fn := Tryz.f77) (R := fun k => k = w9.heap.size) (w0 := w10) Tryz.func77 (gf := 125) rfl (enters_of Tryz.func125 (by kernel_rfl) rfl) (times_iter hD) (Keeps.refl _ _) (fun k hk => by subst hk; omega) (fun _ => rfl)
                    (fun k => k = ba ∨ k = w.heap.size + 2) (fun k hk e => by subst e; omega) (fun k hk => by omega)
                    (fun j W => ∃ (ts : List Int) (t : Nat), manyP timeP j l tF = some (ts, t) ∧ t ≤ l.length ∧ LS w bx ba g zs (mkL xsS AS kS xsG AG kG xsE AE kE xsF AF kF ts).cells (mkL xsS AS kS xsG AG kG xsE AE kE xsF AF kF ts) t W) (fun _ _ => False)
                    (fun j W W' row hs hg hr => by obtain ⟨ts, t, a1, a2, a3⟩ := hs; exact ⟨ts, t, a1, a2, (LS.firm w bx ba g zs _ _ _).own (β := Unit) (by have := HS9.out.bq.size; omega) () W W' row a3 hg hr⟩) (fun _ _ _ _ _ hs _ _ => hs)
                    ⟨[], tF, rfl, HSP9.out, h10⟩ (fun c W => (∃ v : ShortV, c = [{ v := v.1, recovered := false }]) ∧ layP l s = none ∧ Bq w.heap.size ba w W)
                    ?assign ?body ?done ?stop ?panic
                  case assign =>
                    rintro L j x W K hK
                    gi_wp2_with fail
                    exact hK
                  case body =>
                    rintro L j x W hl hx ⟨ts, t, q1, q2, hi⟩
                    have hj7 : j < 7 := by have := (List.getElem?_eq_some_iff.1 hx).1; simpa using this
                    rw [List.getElem?_range hj7] at hx
                    obtain rfl : j = x := Option.some.inj hx
                    have t0 := hi.tb.cell_at 0 rfl
                    have HI := Lib.hid hi
                    have HLE : Hid (ts.length = j) := Lib.hid (many_length q1)
                    clear hi
                    gi_wp2_with fail
                    refine ⟨trivial, CallsIn.inRound L (callsIn_wide.2 ((take1_any hA hz (K := 10) 10 t W rfl (by omega) HI.out.t q2).mono ?_))⟩
                    rintro e W1 (⟨x, t1, r, rfl, ht, hb⟩ | ⟨r, v, rfl, hb⟩)
                    rotate_left
                    · exact ⟨rfl, hb.off rfl (.inl rfl), ⟨_, rfl⟩, (bnd_some Hxa.out).trans ((bnd_some Hxb.out).trans ((bnd_some Hxc.out).trans ((bnd_some Hxd.out).trans ((bnd_some HRsecs.out).trans ((bnd_some HRsigs.out).trans ((bnd_some HRexits.out).trans ((bnd_some HRflanks.out).trans (bnd_none (many_stop ((many_succ q1).trans (by rw [show timeP l t = none from bnd_none r]; rfl)) 7 hj7))))))))), HI.out.bq.trans (hb.less HI.out.bq.size)⟩
                    have hM := HI.out.step hb hba h00 ht
                    obtain ⟨hx0, hx1⟩ := Tells.num 10 l _ _ _ r
                    have hwx : wrap64 (x + 1) = x + 1 := IntWalk.wrap64_in _ ⟨by omega, by omega⟩
                    have f0 := hM.x.frozen (4 + j)
                    obtain ⟨v0, y0⟩ : ∃ v, W1.cell? ⟨w.heap.size + 2, 4 + j, none⟩ = some v := ⟨_, hM.x.cell_at (4 + j) (List.getElem?_eq_getElem (by show 4 + j < 11; omega))⟩
                    have HO1 : Hid (Off (fun k => k = ba ∨ k = w.heap.size + 2) W (W1.setCell ⟨w.heap.size + 2, 4 + j, none⟩ (.int .i64 (x + 1)))) := Lib.hid ((hb.off rfl (.inl rfl)).trans (Off.set W1 (p := ⟨w.heap.size + 2, 4 + j, none⟩) _ (.inr rfl)))
                    have HN : Hid (LS w bx ba g zs (mkL xsS AS kS xsG AG kG xsE AE kE xsF AF kF (ts ++ [x + 1])).cells (mkL xsS AS kS xsG AG kG xsE AE kE xsF AF kF (ts ++ [x + 1])) t1 (W1.setCell ⟨w.heap.size + 2, 4 + j, none⟩ (.int .i64 (x + 1)))) := by
                      have h2 := (hM.store hs0 hbx hba hlg (4 + j) (.int .i64 (x + 1))).times (ts ++ [x + 1])
                      have hle := HLE.out
                      subst hle
                      rw [show (mkL xsS AS kS xsG AG kG xsE AE kE xsF AF kF ts).cells.set (4 + ts.length) (.int .i64 (x + 1)) = (mkL xsS AS kS xsG AG kG xsE AE kE xsF AF kF (ts ++ [x + 1])).cells from time_cells ts (x + 1) _ _ _ _ hj7] at h2
                      exact Lib.hid h2
                    have HT : Hid (manyP timeP (j + 1) l tF = some (ts ++ [x + 1], t1) ∧ t1 ≤ l.length) := Lib.hid ⟨(many_succ q1).trans (by rw [show timeP l t = some (x + 1, t1) from (bnd_some r).trans rfl]; rfl), (Good.num 10 l _ _ _ q2 r).2.1⟩
                    clear hM hb ht r hx1
                    gi_wp2_with fail
                    exact ⟨HO1.out, ts ++ [x + 1], t1, HT.out.1, HT.out.2, HN.out⟩
                  case done =>
                    rintro D W hD ⟨ts, t, q1, q2, hi⟩ hK
                    have hlen : ts.length = 7 := many_length q1
                    have HEX : Hid (layP l s = some ((mkL xsS AS kS xsG AG kG xsE AE kE xsF AF kF ts).pl, t)) := Lib.hid (by
                      refine ((bnd_some Hxa.out).trans ((bnd_some Hxb.out).trans ((bnd_some Hxc.out).trans ((bnd_some Hxd.out).trans ((bnd_some HRsecs.out).trans ((bnd_some HRsigs.out).trans ((bnd_some HRexits.out).trans ((bnd_some HRflanks.out).trans (bnd_some q1))))))))).trans ?_
                      show some ((⟨xsS, xsG, xsE.map Exm.pure, xsF, ts⟩ : PL), t) = _
                      unfold Lay.pl timesL
                      simp only [times_back ts hlen])
                    obtain ⟨c0, hc0⟩ : ∃ c, c = ts[0]?.getD 0 := ⟨_, rfl⟩
                    obtain ⟨c1, hc1⟩ : ∃ c, c = ts[1]?.getD 0 := ⟨_, rfl⟩
                    obtain ⟨c2, hc2⟩ : ∃ c, c = ts[2]?.getD 0 := ⟨_, rfl⟩
                    obtain ⟨c3, hc3⟩ : ∃ c, c = ts[3]?.getD 0 := ⟨_, rfl⟩
                    obtain ⟨c4, hc4⟩ : ∃ c, c = ts[4]?.getD 0 := ⟨_, rfl⟩
                    obtain ⟨c5, hc5⟩ : ∃ c, c = ts[5]?.getD 0 := ⟨_, rfl⟩
                    obtain ⟨c6, hc6⟩ : ∃ c, c = ts[6]?.getD 0 := ⟨_, rfl⟩
                    replace hi : LS w bx ba g zs (⟨xsS, AS, kS, xsG, AG, kG, xsE, AE, kE, xsF, AF, kF, c0, c1, c2, c3, c4, c5, c6⟩ : Lay).cells (⟨xsS, AS, kS, xsG, AG, kG, xsE, AE, kE, xsF, AF, kF, c0, c1, c2, c3, c4, c5, c6⟩ : Lay) t W := by rw [hc0, hc1, hc2, hc3, hc4, hc5, hc6]; exact hi
                    replace HEX : Hid (layP l s = some ((⟨xsS, AS, kS, xsG, AG, kG, xsE, AE, kE, xsF, AF, kF, c0, c1, c2, c3, c4, c5, c6⟩ : Lay).pl, t)) := by rw [hc0, hc1, hc2, hc3, hc4, hc5, hc6]; exact HEX
                    clear hlen q1 hc0 hc1 hc2 hc3 hc4 hc5 hc6
                    have hxx := hi.x
                    have x0 := hxx.cell_at 0 rfl
                    have f0 := hi.r.frozen 0
                    have z0 := hi.r.cell_at 0 rfl
                    have x1 := hxx.cell_at 1 rfl
                    have f1 := hi.r.frozen 1
                    have z1 := hi.r.cell_at 1 rfl
                    have x2 := hxx.cell_at 2 rfl
                    have f2 := hi.r.frozen 2
                    have z2 := hi.r.cell_at 2 rfl
                    have x3 := hxx.cell_at 3 rfl
                    have f3 := hi.r.frozen 3
                    have z3 := hi.r.cell_at 3 rfl
                    have x4 := hxx.cell_at 4 rfl
                    have f4 := hi.r.frozen 4
                    have z4 := hi.r.cell_at 4 rfl
                    have x5 := hxx.cell_at 5 rfl
                    have f5 := hi.r.frozen 5
                    have z5 := hi.r.cell_at 5 rfl
                    have x6 := hxx.cell_at 6 rfl
                    have f6 := hi.r.frozen 6
                    have z6 := hi.r.cell_at 6 rfl
                    have x7 := hxx.cell_at 7 rfl
                    have f7 := hi.r.frozen 7
                    have z7 := hi.r.cell_at 7 rfl
                    have x8 := hxx.cell_at 8 rfl
                    have f8 := hi.r.frozen 8
                    have z8 := hi.r.cell_at 8 rfl
                    have x9 := hxx.cell_at 9 rfl
                    have f9 := hi.r.frozen 9
                    have z9 := hi.r.cell_at 9 rfl
                    have x10 := hxx.cell_at 10 rfl
                    have f10 := hi.r.frozen 10
                    have z10 := hi.r.cell_at 10 rfl
                    have hWo := (over11_whole (.slice AS xsS.length kS) (.slice AG xsG.length kG) (.slice AE xsE.length kE) (.slice AF xsF.length kF) (.int .i64 c0) (.int .i64 c1) (.int .i64 c2) (.int .i64 c3) (.int .i64 c4) (.int .i64 c5) (.int .i64 c6) hi.r)
                    have hBo := over11_below (g := w.heap.size + 1) (Below.refl w.heap.size W) (by omega) (.slice AS xsS.length kS) (.slice AG xsG.length kG) (.slice AE xsE.length kE) (.slice AF xsF.length kF) (.int .i64 c0) (.int .i64 c1) (.int .i64 c2) (.int .i64 c3) (.int .i64 c4) (.int .i64 c5) (.int .i64 c6)
                    have hK2 : (over11 W (w.heap.size + 1) (.slice AS xsS.length kS) (.slice AG xsG.length kG) (.slice AE xsE.length kE) (.slice AF xsF.length kF) (.int .i64 c0) (.int .i64 c1) (.int .i64 c2) (.int .i64 c3) (.int .i64 c4) (.int .i64 c5) (.int .i64 c6)).heap[D]? = some (.deferred (some [])) := (over11_heap W (w.heap.size + 1) (.slice AS xsS.length kS) (.slice AG xsG.length kG) (.slice AE xsE.length kE) (.slice AF xsF.length kF) (.int .i64 c0) (.int .i64 c1) (.int .i64 c2) (.int .i64 c3) (.int .i64 c4) (.int .i64 c5) (.int .i64 c6) D (by have := HS9.out.size; omega)).trans hK
                    have hOw : Owned w.heap.size (⟨xsS, AS, kS, xsG, AG, kG, xsE, AE, kE, xsF, AF, kF, c0, c1, c2, c3, c4, c5, c6⟩ : Lay) (over11 W (w.heap.size + 1) (.slice AS xsS.length kS) (.slice AG xsG.length kG) (.slice AE xsE.length kE) (.slice AF xsF.length kF) (.int .i64 c0) (.int .i64 c1) (.int .i64 c2) (.int .i64 c3) (.int .i64 c4) (.int .i64 c5) (.int .i64 c6)) := Owned.base (Owned.set (Owned.set (Owned.set (Owned.set (Owned.set (Owned.set (Owned.set (Owned.set (Owned.set (Owned.set (Owned.set (hi.own) (by show w.heap.size + 1 < w.heap.size + 3; omega) _) (by show w.heap.size + 1 < w.heap.size + 3; omega) _) (by show w.heap.size + 1 < w.heap.size + 3; omega) _) (by show w.heap.size + 1 < w.heap.size + 3; omega) _) (by show w.heap.size + 1 < w.heap.size + 3; omega) _) (by show w.heap.size + 1 < w.heap.size + 3; omega) _) (by show w.heap.size + 1 < w.heap.size + 3; omega) _) (by show w.heap.size + 1 < w.heap.size + 3; omega) _) (by show w.heap.size + 1 < w.heap.size + 3; omega) _) (by show w.heap.size + 1 < w.heap.size + 3; omega) _) (by show w.heap.size + 1 < w.heap.size + 3; omega) _) (by omega)
                    have hB' := hi.bq.trans (.of (q := ba) hBo)
                    have HFIN := Lib.hid (And.intro hOw (And.intro hB' hK2))
                    have hDw : w.heap.size ≤ D := by have := HS9.out.size; omega
                    clear hBo hOw hB' hK2 hxx hi q2
                    refine wpF_of (wpIn_wide.2 ?_)
                    go_wp2_with fail
                    change QQ _ _ (over11 W (w.heap.size + 1) (.slice AS xsS.length kS) (.slice AG xsG.length kG) (.slice AE xsE.length kE) (.slice AF xsF.length kF) (.int .i64 c0) (.int .i64 c1) (.int .i64 c2) (.int .i64 c3) (.int .i64 c4) (.int .i64 c5) (.int .i64 c6))
                    obtain ⟨W9, hW9⟩ : ∃ W9, over11 W (w.heap.size + 1) (.slice AS xsS.length kS) (.slice AG xsG.length kG) (.slice AE xsE.length kE) (.slice AF xsF.length kF) (.int .i64 c0) (.int .i64 c1) (.int .i64 c2) (.int .i64 c3) (.int .i64 c4) (.int .i64 c5) (.int .i64 c6) = W9 := ⟨_, rfl⟩
                    rw [hW9] at hWo HFIN ⊢
                    clear hW9
                    rw [← HQQ.out]
                    have hWp := hWo.putDone (o' := .deferred none) HFIN.out.2.2
                    have e0 := hWp.cell_at 0 rfl
                    have e1 := hWp.cell_at 1 rfl
                    have e2 := hWp.cell_at 2 rfl
                    have e3 := hWp.cell_at 3 rfl
                    have e4 := hWp.cell_at 4 rfl
                    have e5 := hWp.cell_at 5 rfl
                    have e6 := hWp.cell_at 6 rfl
                    have e7 := hWp.cell_at 7 rfl
                    have e8 := hWp.cell_at 8 rfl
                    have e9 := hWp.cell_at 9 rfl
                    have e10 := hWp.cell_at 10 rfl
                    refine ⟨by simp, .inl ⟨_, _, rfl, run_takeDeferred HFIN.out.2.2, ?_⟩⟩
                    refine ⟨(⟨xsS, AS, kS, xsG, AG, kG, xsE, AE, kE, xsF, AF, kF, c0, c1, c2, c3, c4, c5, c6⟩ : Lay).val, by simp [results, Tryz.f77, go_sem, e0, e1, e2, e3, e4, e5, e6, e7, e8, e9, e10], .inl ⟨(⟨xsS, AS, kS, xsG, AG, kG, xsE, AE, kE, xsF, AF, kF, c0, c1, c2, c3, c4, c5, c6⟩ : Lay), t, HEX.out, rfl, HFIN.out.1.cellsOn (CellsOn.put (w := w) _ D _ _ hDw HFIN.out.2.2 rfl rfl), HFIN.out.2.1.grown (grownBy_putObj' _ D _) HFIN.out.2.1.size (fun k e => by cases e; exact .inl hDw)⟩⟩
                  case stop => exact fun _ _ _ _ h _ => h.elim
                  case panic =>
                    rintro D c W hD ⟨⟨v, rfl⟩, hn, hb⟩ hK
                    show QQ _ _ _
                    rw [← HQQ.out]
                    have hDw : w.heap.size ≤ D := by have := HS9.out.size; omega
                    refine ⟨by simp, .inl ⟨_, _, rfl, run_takeDeferred hK, ?_⟩⟩
                    exact .inr ⟨hn, v, rfl, hb.grown (grownBy_putObj' _ D _) hb.size (fun k e => by cases e; exact .inl hDw)⟩
end
end Go.Proofs.YtegflmaobmibnaaGreatDoor
