/- HeldOwn: what is known of a route that is held in memory of its own, when its rows are written (pure). -/
import Derived.Deep.CutRange
import Derived.Deep.MidRow
import Derived.RangeFuncNested
import Derived.RangeFuncBound
import Derived.RangeFuncCalls
import Derived.RangeFuncLeaves
import Derived.RangeFuncBox
import Derived.Shelf.Abstract
import Derived.Shelf.RegionOpen
import Derived.WalkKit
import Derived.OwnWalkIn
import Derived.TacticsInMore
import Derived.LoopNIn
import Derived.LoopIn
import Derived.WalkMore
import Derived.Test.YtljpiafopbfdlaaQHlN
namespace Go.Proofs.Ytljpiafopbfdlaa
open Go.RowKit Go.Shelf
set_option linter.unusedVariables false
set_option linter.unusedSimpArgs false

theorem owns_blk {W : World} {base e k n c : Nat} {A : Option Addr} {xs : List Value} (h : W.ownsRow base e k (.slice A n c) n xs) (hn : 0 < n) : ∃ g, A = some ⟨g, 0, none⟩ ∧ base ≤ g ∧ ∃ cur, W.heap[g]? = some (.cells cur e (0, 0)) := by
  rcases h.2 with ⟨_, e0⟩ | ⟨g, cap, cur, hv, h3, h4, _⟩
  · omega
  · cases hv
    exact ⟨g, rfl, h3, cur, h4⟩
theorem owns_live {W : World} {base e k n : Nat} {v : Value} {xs : List Value} (h : W.ownsRow base e k v n xs) : ∀ b, v.ownBlock = some b → b < W.heap.size := by
  intro b hb
  rcases h.2 with ⟨rfl, _⟩ | ⟨g, cap, cur, rfl, _, h4, _⟩
  · cases hb
  · cases hb
    exact (Array.getElem?_eq_some_iff.1 h4).1
theorem owns_off {W W' : World} {gx : Nat} {t : TypeId} {cs : List Value} (hx : Whole W gx t cs) {base e k n : Nat} (ht : t ≠ e) (hk : ∀ g, g ≠ gx → W'.heap[g]? = W.heap[g]?) {v : Value} {xs : List Value} (h : W.ownsRow base e k v n xs) : W'.ownsRow base e k v n xs := by
  refine ⟨h.1, ?_⟩
  rcases h.2 with h2 | ⟨g, cap, cur, hv, h3, h4, h5⟩
  · exact .inl h2
  · refine .inr ⟨g, cap, cur, hv, h3, ?_, h5⟩
    rw [hk g ?_, h4]
    rintro rfl
    have e1 := Option.some.inj (h4.symm.trans hx)
    injection e1 with _ e2
    exact ht e2.symm
theorem owns_far17 {W : World} {base e k n g : Nat} {v : Value} {xs : List Value} (h : W.ownsRow base e k v n xs) (hg : ∀ b, v.ownBlock = some b → b ≠ g) (o : Nat) (u : Value) : (W.setCell ⟨g, o, none⟩ u).ownsRow base e k v n xs := by
  refine ⟨h.1, ?_⟩
  rcases h.2 with h2 | ⟨g', cap, cur, rfl, h3, h4, h5⟩
  · exact .inl h2
  · refine .inr ⟨g', cap, cur, rfl, h3, ?_, h5⟩
    rw [Below.heap_setCell W ⟨g, o, none⟩ u g' (hg g' rfl), h4]
theorem whole_cur {W : World} {g gx : Nat} {t t' : TypeId} {cur : Array Value} {cs : List Value} (h : Whole W gx t cs) (hc : W.heap[g]? = some (.cells cur t' (0, 0))) (ht : t ≠ t') : gx ≠ g := by
  rintro rfl
  have e1 := Option.some.inj (hc.symm.trans h)
  injection e1 with _ e2
  exact ht e2.symm
/-- In memory of its own, from n0 on; each row ahead of the next one, all ahead of n3. -/
structure XOwn (h : Hld) (n0 n1 n2 n3 : Nat) (W : World) : Prop where
  o1 : W.ownsRow n0 44 3 (own1 h) h.p.ss.length (h.p.ss.flatMap stpCells)
  o2 : W.ownsRow n1 44 3 (own2 h) h.os.length (h.os.flatMap stpCells)
  o3 : W.ownsRow n2 40 3 (own3 h) h.ns.length (h.ns.flatMap needCells)
  l1 : ∀ b, (own1 h).ownBlock = some b → b < n1 ∧ b < n3
  l2 : ∀ b, (own2 h).ownBlock = some b → b < n2 ∧ b < n3
  l3 : ∀ b, (own3 h).ownBlock = some b → b < n3
  le : n0 ≤ n1 ∧ n1 ≤ n2 ∧ n3 ≤ W.heap.size
theorem XOwn.closed (h : Hld) (n0 n1 n2 n3 : Nat) : Closed (XOwn h n0 n1 n2 n3) := fun W W' ⟨a, b, c, d, e, f, g⟩ hb => ⟨owns_keep a hb, owns_keep b hb, owns_keep c hb, d, e, f, g.1, g.2.1, Nat.le_trans g.2.2 hb.size⟩
theorem XOwn.lies {h : Hld} {n0 n1 n2 n3 : Nat} {w : World} (ho : XOwn h n0 n1 n2 n3 w) (hs : Small h) : HLies h w :=
  ⟨⟨owns_row2 ho.o1, by have := hs.p; omega⟩, owns_cap ho.o1, owns_row2 ho.o2, by have := hs.o; omega, owns_cap ho.o2, owns_row2 ho.o3, by have := hs.n; omega, owns_cap ho.o3⟩
theorem XOwn.off {h : Hld} {n0 n1 n2 n3 gx : Nat} {cs : List Value} {W W' : World} (ho : XOwn h n0 n1 n2 n3 W) (hx : Whole W gx 28 cs) (hk : ∀ g, g ≠ gx → W'.heap[g]? = W.heap[g]?) (hsz : W.heap.size ≤ W'.heap.size) : XOwn h n0 n1 n2 n3 W' :=
  ⟨owns_off hx (by decide) hk ho.o1, owns_off hx (by decide) hk ho.o2, owns_off hx (by decide) hk ho.o3, ho.l1, ho.l2, ho.l3, ho.le.1, ho.le.2.1, Nat.le_trans ho.le.2.2 hsz⟩
theorem OwnB.off {h : Hld} {n gx : Nat} {cs : List Value} {W W' : World} (ho : OwnB h n W) (hx : Whole W gx 28 cs) (hk : ∀ g, g ≠ gx → W'.heap[g]? = W.heap[g]?) : OwnB h n W' :=
  ⟨owns_off hx (by decide) hk ho.o1, owns_off hx (by decide) hk ho.o2, owns_off hx (by decide) hk ho.o3⟩
theorem OwnB.base {h : Hld} {n m : Nat} {W : World} (ho : OwnB h n W) (hm : m ≤ n) : OwnB h m W := ⟨owns_base17 ho.o1 hm, owns_base17 ho.o2 hm, owns_base17 ho.o3 hm⟩
theorem ownX_any {h : Hld} {w : World} (hl : HLies h w) (hs : Small h) {n0 : Nat} (hn : n0 ≤ w.heap.size) : Calls Try.prog 10 #[h.val] w fun e w' => ∃ X : Rm × Nat × Nat × Nat, e = .returned (h.re X.1).val ∧ XOwn (h.re X.1) n0 X.2.1 X.2.2.1 X.2.2.2 w' ∧ Below w.heap.size w w' :=
  (ownR17_any hl hs).mono fun e w' ⟨x, n1, n2, he, ho, hb⟩ => ⟨(x, n1, n2, w'.heap.size), he, ⟨owns_base17 ho.o1 hn, ho.o2, ho.o3, fun b e => ⟨ho.l1 b e, owns_live ho.o1 b e⟩, fun b e => ⟨ho.l2 b e, owns_live ho.o2 b e⟩, fun b e => owns_live ho.o3 b e, Nat.le_trans hn ho.le.1, ho.le.2, Nat.le_refl _⟩, hb⟩
theorem ownY_any {h : Hld} {w : World} (hl : HLies h w) (hs : Small h) {n3 : Nat} (hn : n3 ≤ w.heap.size) : Calls Try.prog 10 #[h.val] w fun e w' => ∃ y : Rm, e = .returned (h.re y).val ∧ OwnB (h.re y) n3 w' ∧ Below w.heap.size w w' :=
  (ownR17_any hl hs).mono fun e w' ⟨x, n1, n2, he, ho, hb⟩ => ⟨x, he, ho.toB.base hn, hb⟩
theorem ownZ_any {h : Hld} {w : World} (hl : HLies h w) (hs : Small h) {n3 : Nat} (hn : n3 ≤ w.heap.size) : Calls Try.prog 18 #[h.val] w fun e w' => ∃ y : Rm, e = .returned (h.re y).val ∧ OwnB (h.re y) n3 w' ∧ Below w.heap.size w w' :=
  (own17_any hl hs).mono fun e w' ⟨x, he, ho, hb⟩ => ⟨x, he, ho.base hn, hb⟩
/-- What is known where both stand in memory of their own. -/
structure OwR (h : Hld) (W1 : World) (X : Rm × Nat × Nat × Nat) (y : Rm) (gx gy : Nat) (cx cy : List Value) (W : World) : Prop where
  below : Below W1.heap.size W1 W
  ox : XOwn (h.re X.1) W1.heap.size X.2.1 X.2.2.1 X.2.2.2 W
  oy : OwnB (h.re y) X.2.2.2 W
  bx : Whole W gx 28 cx
  by' : Whole W gy 28 cy
  lx : W1.heap.size ≤ gx
  ly : W1.heap.size ≤ gy
  ne : gx ≠ gy
theorem OwR.closed (h : Hld) (W1 : World) (X : Rm × Nat × Nat × Nat) (y : Rm) (gx gy : Nat) (cx cy : List Value) : Closed (OwR h W1 X y gx gy cx cy) := fun W W' ⟨a, b, c, d, e, f, g, i⟩ hb => ⟨a.trans (hb.mono a.size), XOwn.closed _ _ _ _ _ _ _ b hb, OwnB.closed _ _ _ _ c hb, d.below hb d.lt, e.below hb e.lt, f, g, i⟩
theorem OwR.setx {h : Hld} {W1 : World} {X : Rm × Nat × Nat × Nat} {y : Rm} {gx gy : Nat} {cx cy : List Value} {W : World} (hr : OwR h W1 X y gx gy cx cy W) (vs : List Value) (hv : vs.length = cx.length) : OwR h W1 X y gx gy vs cy (W.setCells gx 0 vs) :=
  have hk : ∀ g, g ≠ gx → (W.setCells gx 0 vs).heap[g]? = W.heap[g]? := fun g hg => setCells_off vs 0 gx W g hg
  have hb : Below W.heap.size W W := Below.refl _ _
  ⟨setCells_below vs 0 hr.below hr.lx, hr.ox.off hr.bx hk (setCells_below vs 0 (Below.refl 0 W) (Nat.zero_le _)).size, hr.oy.off hr.bx hk, setCells_whole vs [] cx hv hr.bx, (hk gy (fun e => hr.ne e.symm)).trans hr.by', hr.lx, hr.ly, hr.ne⟩
theorem OwR.sety {h : Hld} {W1 : World} {X : Rm × Nat × Nat × Nat} {y : Rm} {gx gy : Nat} {cx cy : List Value} {W : World} (hr : OwR h W1 X y gx gy cx cy W) (vs : List Value) (hv : vs.length = cy.length) : OwR h W1 X y gx gy cx vs (W.setCells gy 0 vs) :=
  have hk : ∀ g, g ≠ gy → (W.setCells gy 0 vs).heap[g]? = W.heap[g]? := fun g hg => setCells_off vs 0 gy W g hg
  ⟨setCells_below vs 0 hr.below hr.ly, hr.ox.off hr.by' hk (setCells_below vs 0 (Below.refl 0 W) (Nat.zero_le _)).size, hr.oy.off hr.by' hk, (hk gx (fun e => hr.ne e)).trans hr.bx, setCells_whole vs [] cy hv hr.by', hr.lx, hr.ly, hr.ne⟩
theorem hld_there {h : Hld} {g : Nat} {W : World} {cs : List Value} (hb : Whole W g 28 cs) (hc : cs.length = 23) : W.there g 0 h.cells.length := by
  have := hb.there
  rwa [hc, ← hld_len h] at this
theorem hld_all (h : Hld) : h.cells.all (·.oneCell') = true := List.all_eq_true.2 (hld_one h)
/-- What no store of the loops turns. -/
structure OwK (a b : Hld) (x y z : Rm) (w : World) (gx gy gz n3 : Nat) (W : World) : Prop where
  below : Below w.heap.size w W
  ba : Whole W w.heap.size 28 a.cells
  bb : Whole W (w.heap.size + 1) 28 b.cells
  bx : Whole W gx 28 (a.re x).cells
  by' : Whole W gy 28 (a.re y).cells
  bz : Whole W gz 28 (a.re z).cells
  oy : OwnB (a.re y) n3 W
  oz : OwnB (a.re z) n3 W
theorem OwK.closed (a b : Hld) (x y z : Rm) (w : World) (gx gy gz n3 : Nat) : Closed (OwK a b x y z w gx gy gz n3) := fun W W' ⟨c, d, e, f, g, i, j, k⟩ hb => ⟨c.trans (hb.mono c.size), d.below hb d.lt, e.below hb e.lt, f.below hb f.lt, g.below hb g.lt, i.below hb i.lt, OwnB.closed _ _ _ _ j hb, OwnB.closed _ _ _ _ k hb⟩
theorem OwK.set {a b : Hld} {x y z : Rm} {w : World} {gx gy gz n3 : Nat} {W : World} (h : OwK a b x y z w gx gy gz n3 W) {g : Nat} {cur : Array Value} {t : TypeId} (hc : W.heap[g]? = some (.cells cur t (0, 0))) (ht : 28 ≠ t) (hw : w.heap.size ≤ g) (hn : g < n3) (k : Nat) (v : Value) : OwK a b x y z w gx gy gz n3 (W.setCell ⟨g, k, none⟩ v) :=
  ⟨h.below.setCell (p := ⟨g, k, none⟩) hw _, h.ba.far (p := ⟨g, k, none⟩) (whole_cur h.ba hc ht) _, h.bb.far (p := ⟨g, k, none⟩) (whole_cur h.bb hc ht) _, h.bx.far (p := ⟨g, k, none⟩) (whole_cur h.bx hc ht) _, h.by'.far (p := ⟨g, k, none⟩) (whole_cur h.by' hc ht) _, h.bz.far (p := ⟨g, k, none⟩) (whole_cur h.bz hc ht) _, h.oy.set (p := ⟨g, k, none⟩) hn _, h.oz.set (p := ⟨g, k, none⟩) hn _⟩
/-- And its rows, whatever they hold. -/
structure OwL (a b : Hld) (x y z : Rm) (w : World) (gx gy gz n0 n1 n2 n3 : Nat) (x1 x2 x3 : List (Int × Int × Int)) (W : World) : Prop where
  k : OwK a b x y z w gx gy gz n3 W
  r1 : W.ownsRow n0 44 3 (.slice x.A1 a.p.ss.length x.c1) a.p.ss.length (x1.flatMap stpCells)
  r2 : W.ownsRow n1 44 3 (.slice x.A2 a.os.length x.c2) a.os.length (x2.flatMap stpCells)
  r3 : W.ownsRow n2 40 3 (.slice x.A3 a.ns.length x.c3) a.ns.length (x3.flatMap needCells)
theorem OwL.closed (a b : Hld) (x y z : Rm) (w : World) (gx gy gz n0 n1 n2 n3 : Nat) (x1 x2 x3 : List (Int × Int × Int)) : Closed (OwL a b x y z w gx gy gz n0 n1 n2 n3 x1 x2 x3) := fun W W' ⟨c, d, e, f⟩ hb => ⟨OwK.closed _ _ _ _ _ _ _ _ _ _ _ _ c hb, owns_keep d hb, owns_keep e hb, owns_keep f hb⟩
/-- What stays so all the while. -/
structure OwF (a : Hld) (x : Rm) (w : World) (n0 n1 n2 n3 : Nat) : Prop where
  l1 : ∀ b, (Value.slice x.A1 a.p.ss.length x.c1).ownBlock = some b → b < n1 ∧ b < n3
  l2 : ∀ b, (Value.slice x.A2 a.os.length x.c2).ownBlock = some b → b < n2 ∧ b < n3
  l3 : ∀ b, (Value.slice x.A3 a.ns.length x.c3).ownBlock = some b → b < n3
  le : w.heap.size ≤ n0 ∧ n0 ≤ n1 ∧ n1 ≤ n2
theorem own_blk {A : Option Addr} {g n c : Nat} (h : A = some ⟨g, 0, none⟩) : (Value.slice A n c).ownBlock = some g := by rw [h]; rfl
section
variable {a b : Hld} {x y z : Rm} {w : World} {gx gy gz n0 n1 n2 n3 : Nat} {x1 x2 x3 : List (Int × Int × Int)} {W : World}
theorem OwL.set1 (h : OwL a b x y z w gx gy gz n0 n1 n2 n3 x1 x2 x3 W) (hf : OwF a x w n0 n1 n2 n3) (hn : x1.length = a.p.ss.length) {g : Nat} (hA : x.A1 = some ⟨g, 0, none⟩) {j : Nat} {s : Int × Int × Int} (hx : x1[j]? = some s) (u : Int) :
    OwL a b x y z w gx gy gz n0 n1 n2 n3 (x1.set j (u, s.2)) x2 x3 (W.setCell ⟨g, j * 3, none⟩ (.int .i64 u)) := by
  obtain ⟨hk, h1, h2, h3⟩ := h
  have hl := hf.l1 g (own_blk hA)
  have hj := (List.getElem?_eq_some_iff.1 hx).1
  obtain ⟨g', e, hg, cur, hc⟩ := owns_blk h1 (by omega)
  rw [hA] at e
  cases e
  have hle := hf.le
  refine ⟨hk.set hc (by decide) (by omega) hl.2 _ _, ?_, owns_set (B := 0) (p := ⟨g, j * 3, none⟩) h2 (by show g < n1; omega) _, owns_set (B := 0) (p := ⟨g, j * 3, none⟩) h3 (by show g < n2; omega) _⟩
  rw [hA, ← hn] at h1
  have := owns_setIn (f := stpCells) (size := 3) (fun _ => rfl) h1 (j := j) (k := 0) (x := s) (y := (u, s.2)) (v := .int .i64 u) hx rfl (by omega)
  rw [List.length_set, hn] at this
  rw [hA]
  exact this
theorem OwL.set2 (h : OwL a b x y z w gx gy gz n0 n1 n2 n3 x1 x2 x3 W) (hf : OwF a x w n0 n1 n2 n3) (hn : x2.length = a.os.length) {g : Nat} (hA : x.A2 = some ⟨g, 0, none⟩) {j : Nat} {s : Int × Int × Int} (hx : x2[j]? = some s) (u : Int) :
    OwL a b x y z w gx gy gz n0 n1 n2 n3 x1 (x2.set j (u, s.2)) x3 (W.setCell ⟨g, j * 3, none⟩ (.int .i64 u)) := by
  obtain ⟨hk, h1, h2, h3⟩ := h
  have hl := hf.l2 g (own_blk hA)
  have hj := (List.getElem?_eq_some_iff.1 hx).1
  obtain ⟨g', e, hg, cur, hc⟩ := owns_blk h2 (by omega)
  rw [hA] at e
  cases e
  have hle := hf.le
  refine ⟨hk.set hc (by decide) (by omega) hl.2 _ _, owns_far17 h1 (fun b hb => by have := (hf.l1 b hb).1; omega) _ _, ?_, owns_set (B := 0) (p := ⟨g, j * 3, none⟩) h3 (by show g < n2; omega) _⟩
  rw [hA, ← hn] at h2
  have := owns_setIn (f := stpCells) (size := 3) (fun _ => rfl) h2 (j := j) (k := 0) (x := s) (y := (u, s.2)) (v := .int .i64 u) hx rfl (by omega)
  rw [List.length_set, hn] at this
  rw [hA]
  exact this
theorem OwL.set3 (h : OwL a b x y z w gx gy gz n0 n1 n2 n3 x1 x2 x3 W) (hf : OwF a x w n0 n1 n2 n3) (hn : x3.length = a.ns.length) {g : Nat} (hA : x.A3 = some ⟨g, 0, none⟩) {j : Nat} {s : Int × Int × Int} (hx : x3[j]? = some s) (u : Int) :
    OwL a b x y z w gx gy gz n0 n1 n2 n3 x1 x2 (x3.set j (u, s.2)) (W.setCell ⟨g, j * 3, none⟩ (.int .i64 u)) := by
  obtain ⟨hk, h1, h2, h3⟩ := h
  have hl := hf.l3 g (own_blk hA)
  have hj := (List.getElem?_eq_some_iff.1 hx).1
  obtain ⟨g', e, hg, cur, hc⟩ := owns_blk h3 (by omega)
  rw [hA] at e
  cases e
  have hle := hf.le
  refine ⟨hk.set hc (by decide) (by omega) hl _ _, owns_far17 h1 (fun b hb => by have := (hf.l1 b hb).1; omega) _ _, owns_far17 h2 (fun b hb => by have := (hf.l2 b hb).1; omega) _ _, ?_⟩
  rw [hA, ← hn] at h3
  have := owns_setIn (f := needCells) (size := 3) (fun _ => rfl) h3 (j := j) (k := 0) (x := s) (y := (u, s.2)) (v := .int .i64 u) hx rfl (by omega)
  rw [List.length_set, hn] at this
  rw [hA]
  exact this
end

end Go.Proofs.Ytljpiafopbfdlaa
