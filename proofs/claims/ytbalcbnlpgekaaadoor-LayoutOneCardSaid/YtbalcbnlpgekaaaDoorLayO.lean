/- Package layout: Own. -/
import Derived.Test.YtbalcbnlpgekaaaDoorLayN
import Derived.Test.YtbalcbnlpgekaaaDoorSteady2
import Derived.Deep.CutRange
namespace Go.Proofs.YtbalcbnlpgekaaaDoor
open Go.RowKit Go.Shelf
set_option linter.unusedVariables false
set_option linter.unusedSimpArgs false

/-- Two layouts that tell the same. -/
structure Alike (m l : Lay) : Prop where
  secs : m.secs = l.secs
  sigs : m.sigs = l.sigs
  exits : m.exits.map Exm.pure = l.exits.map Exm.pure
  flanks : m.flanks = l.flanks
  t0 : m.t0 = l.t0
  t1 : m.t1 = l.t1
  t2 : m.t2 = l.t2
  t3 : m.t3 = l.t3
  t4 : m.t4 = l.t4
  t5 : m.t5 = l.t5
  t6 : m.t6 = l.t6
theorem owns_block {w : World} {base e size n c : Nat} {A : Option Addr} {xs : List Value} (h : w.ownsRow base e size (.slice A n c) n xs) : ∀ a, A = some a → base ≤ a.block ∧ a.block < w.heap.size := by
  intro a ha
  subst ha
  exact h.lt a.block rfl
/-- Eleven cells are laid over eleven. -/
abbrev over11 (W : World) (g : Nat) (v0 v1 v2 v3 v4 v5 v6 v7 v8 v9 v10 : Value) : World := (((((((((((W.setCell ⟨g, 0, none⟩ v0).setCell ⟨g, 1, none⟩ v1).setCell ⟨g, 2, none⟩ v2).setCell ⟨g, 3, none⟩ v3).setCell ⟨g, 4, none⟩ v4).setCell ⟨g, 5, none⟩ v5).setCell ⟨g, 6, none⟩ v6).setCell ⟨g, 7, none⟩ v7).setCell ⟨g, 8, none⟩ v8).setCell ⟨g, 9, none⟩ v9).setCell ⟨g, 10, none⟩ v10)
theorem over11_whole {W : World} {g : Nat} {t : TypeId} {c0 c1 c2 c3 c4 c5 c6 c7 c8 c9 c10 : Value} (v0 v1 v2 v3 v4 v5 v6 v7 v8 v9 v10 : Value) (h : Whole W g t [c0, c1, c2, c3, c4, c5, c6, c7, c8, c9, c10]) : Whole (over11 W g v0 v1 v2 v3 v4 v5 v6 v7 v8 v9 v10) g t [v0, v1, v2, v3, v4, v5, v6, v7, v8, v9, v10] :=
  ((((((((((h.set 0 v0).set 1 v1).set 2 v2).set 3 v3).set 4 v4).set 5 v5).set 6 v6).set 7 v7).set 8 v8).set 9 v9).set 10 v10
theorem over11_heap (W : World) (g : Nat) (v0 v1 v2 v3 v4 v5 v6 v7 v8 v9 v10 : Value) (k : Nat) (hk : k ≠ g) : (over11 W g v0 v1 v2 v3 v4 v5 v6 v7 v8 v9 v10).heap[k]? = W.heap[k]? := by
  exact (Below.heap_setCell _ ⟨g, 10, none⟩ v10 k hk).trans ((Below.heap_setCell _ ⟨g, 9, none⟩ v9 k hk).trans ((Below.heap_setCell _ ⟨g, 8, none⟩ v8 k hk).trans ((Below.heap_setCell _ ⟨g, 7, none⟩ v7 k hk).trans ((Below.heap_setCell _ ⟨g, 6, none⟩ v6 k hk).trans ((Below.heap_setCell _ ⟨g, 5, none⟩ v5 k hk).trans ((Below.heap_setCell _ ⟨g, 4, none⟩ v4 k hk).trans ((Below.heap_setCell _ ⟨g, 3, none⟩ v3 k hk).trans ((Below.heap_setCell _ ⟨g, 2, none⟩ v2 k hk).trans ((Below.heap_setCell _ ⟨g, 1, none⟩ v1 k hk).trans ((Below.heap_setCell _ ⟨g, 0, none⟩ v0 k hk).trans rfl))))))))))
theorem over11_size (W : World) (g : Nat) (v0 v1 v2 v3 v4 v5 v6 v7 v8 v9 v10 : Value) : (over11 W g v0 v1 v2 v3 v4 v5 v6 v7 v8 v9 v10).heap.size = W.heap.size := by simp [over11, World.setCell]
theorem over11_below {w W : World} {n : Nat} (h : Below n w W) {g : Nat} (hg : n ≤ g) (v0 v1 v2 v3 v4 v5 v6 v7 v8 v9 v10 : Value) : Below n w (over11 W g v0 v1 v2 v3 v4 v5 v6 v7 v8 v9 v10) :=
  (((((((((((h.setCell (p := ⟨g, 0, none⟩) hg v0).setCell (p := ⟨g, 1, none⟩) hg v1).setCell (p := ⟨g, 2, none⟩) hg v2).setCell (p := ⟨g, 3, none⟩) hg v3).setCell (p := ⟨g, 4, none⟩) hg v4).setCell (p := ⟨g, 5, none⟩) hg v5).setCell (p := ⟨g, 6, none⟩) hg v6).setCell (p := ⟨g, 7, none⟩) hg v7).setCell (p := ⟨g, 8, none⟩) hg v8).setCell (p := ⟨g, 9, none⟩) hg v9).setCell (p := ⟨g, 10, none⟩) hg v10)
/-- A row that lies elsewhere lies on. -/
theorem Row.elsewhere {W W' : World} {B : Nat} {A : Option Addr} {vs : List Value} (h : Row W B A vs) {g : Nat} (hA : ∀ a, A = some a → a.block ≠ g) (hk : ∀ k, k ≠ g → W'.heap[k]? = W.heap[k]?) : Row W' B A vs := fun hp => by
  obtain ⟨b, off, e, hb, hc⟩ := h hp
  exact ⟨b, off, e, hb, fun j u hu => (World.cell?_of_block (hk b (hA _ e))).trans (hc j u hu)⟩
theorem owns_elsewhere {W W' : World} {base e size n c : Nat} {A : Option Addr} {xs : List Value} (h : W.ownsRow base e size (.slice A n c) n xs) {g : Nat} (hA : ∀ a, A = some a → a.block ≠ g) (hk : ∀ k, k ≠ g → W'.heap[k]? = W.heap[k]?) : W'.ownsRow base e size (.slice A n c) n xs := by
  refine ⟨h.1, ?_⟩
  rcases h.2 with h2 | ⟨g', cap', cur, hv, h3, h4, r⟩
  · exact .inl h2
  · cases hv
    exact .inr ⟨g', _, cur, rfl, h3, (hk g' (hA _ rfl)).trans h4, r⟩
/-- Half way through Own: the copy's own block, its rows. -/
structure OwnMid (w : World) (l : Lay) (go : Nat) (AS : Option Addr) (kS : Nat) (AG : Option Addr) (kG : Nat) (AE : Option Addr) (kE : Nat) (AF : Option Addr) (kF : Nat) (W : World) : Prop where
  go_le : w.heap.size + 2 ≤ go
  own : Whole W go 29 [.slice AS l.secs.length kS, .slice AG l.sigs.length kG, .slice AE l.exits.length kE, .slice AF l.flanks.length kF, .int .i64 l.t0, .int .i64 l.t1, .int .i64 l.t2, .int .i64 l.t3, .int .i64 l.t4, .int .i64 l.t5, .int .i64 l.t6]
  S : Row W W.heap.size AS (l.secs.flatMap Sec.cells)
  G : Row W W.heap.size AG (l.sigs.flatMap prtCells)
  F : Row W W.heap.size AF (l.flanks.flatMap flkCells)
  E : W.ownsRow (w.heap.size + 2) 53 3 (.slice AE l.exits.length kE) l.exits.length (l.exits.flatMap Exm.cells)
  apart : ∀ a, AE = some a → a.block ≠ go ∧ (∀ b, AS = some b → b.block ≠ a.block) ∧ (∀ b, AG = some b → b.block ≠ a.block) ∧ (∀ b, AF = some b → b.block ≠ a.block)
  lowS : ∀ b, AS = some b → w.heap.size + 2 ≤ b.block
  lowG : ∀ b, AG = some b → w.heap.size + 2 ≤ b.block
  lowF : ∀ b, AF = some b → w.heap.size + 2 ≤ b.block
  res : Whole W (w.heap.size + 1) 29 [.slice none 0 0, .slice none 0 0, .slice none 0 0, .slice none 0 0, .int .i64 0, .int .i64 0, .int .i64 0, .int .i64 0, .int .i64 0, .int .i64 0, .int .i64 0]
  below : Below w.heap.size w W
theorem owns_row2 {w : World} {base e size n c : Nat} {A : Option Addr} {xs : List Value} (h : w.ownsRow base e size (.slice A n c) n xs) : Row w w.heap.size A xs := by
  obtain ⟨A', c', e, hr⟩ := owns_read h
  cases e
  exact hr
theorem own_mid {w W : World} {l : Lay} {go kS kG kE kF : Nat} {AS AG AE AF : Option Addr} (hgo : w.heap.size + 2 ≤ go) (hz : Whole W go 29 [.slice none 0 0, .slice none 0 0, .slice none 0 0, .slice none 0 0, .int .i64 0, .int .i64 0, .int .i64 0, .int .i64 0, .int .i64 0, .int .i64 0, .int .i64 0])
    (oS : Row W W.heap.size AS (l.secs.flatMap Sec.cells)) (oG : Row W W.heap.size AG (l.sigs.flatMap prtCells)) (oF : Row W W.heap.size AF (l.flanks.flatMap flkCells)) (oE : W.ownsRow (w.heap.size + 2) 53 3 (.slice AE l.exits.length kE) l.exits.length (l.exits.flatMap Exm.cells))
    (nS : ∀ a, AS = some a → a.block ≠ go ∧ w.heap.size + 2 ≤ a.block) (nG : ∀ a, AG = some a → a.block ≠ go ∧ w.heap.size + 2 ≤ a.block) (nF : ∀ a, AF = some a → a.block ≠ go ∧ w.heap.size + 2 ≤ a.block)
    (nE : ∀ a, AE = some a → a.block ≠ go ∧ (∀ b, AS = some b → b.block ≠ a.block) ∧ (∀ b, AG = some b → b.block ≠ a.block) ∧ (∀ b, AF = some b → b.block ≠ a.block))
    (hr : Whole W (w.heap.size + 1) 29 [.slice none 0 0, .slice none 0 0, .slice none 0 0, .slice none 0 0, .int .i64 0, .int .i64 0, .int .i64 0, .int .i64 0, .int .i64 0, .int .i64 0, .int .i64 0]) (hb : Below w.heap.size w W) :
    OwnMid w l go AS kS AG kG AE kE AF kF (over11 W go (.slice AS l.secs.length kS) (.slice AG l.sigs.length kG) (.slice AE l.exits.length kE) (.slice AF l.flanks.length kF) (.int .i64 l.t0) (.int .i64 l.t1) (.int .i64 l.t2) (.int .i64 l.t3) (.int .i64 l.t4) (.int .i64 l.t5) (.int .i64 l.t6)) := by
  have hk := over11_heap W go (.slice AS l.secs.length kS) (.slice AG l.sigs.length kG) (.slice AE l.exits.length kE) (.slice AF l.flanks.length kF) (.int .i64 l.t0) (.int .i64 l.t1) (.int .i64 l.t2) (.int .i64 l.t3) (.int .i64 l.t4) (.int .i64 l.t5) (.int .i64 l.t6)
  have hs := over11_size W go (.slice AS l.secs.length kS) (.slice AG l.sigs.length kG) (.slice AE l.exits.length kE) (.slice AF l.flanks.length kF) (.int .i64 l.t0) (.int .i64 l.t1) (.int .i64 l.t2) (.int .i64 l.t3) (.int .i64 l.t4) (.int .i64 l.t5) (.int .i64 l.t6)
  refine ⟨hgo, over11_whole _ _ _ _ _ _ _ _ _ _ _ hz, ?_, ?_, ?_, owns_elsewhere oE (fun a ha => (nE a ha).1) hk, nE, fun a ha => (nS a ha).2, fun a ha => (nG a ha).2, fun a ha => (nF a ha).2, (hk _ (by omega)).trans hr, over11_below hb (by omega) _ _ _ _ _ _ _ _ _ _ _⟩
  · rw [hs]; exact oS.elsewhere (fun a ha => (nS a ha).1) hk
  · rw [hs]; exact oG.elsewhere (fun a ha => (nG a ha).1) hk
  · rw [hs]; exact oF.elsewhere (fun a ha => (nF a ha).1) hk

theorem Row.elsewhere2 {W W' : World} {B : Nat} {A : Option Addr} {vs : List Value} (h : Row W B A vs) {g : Nat} (hA : 0 < vs.length → ∀ a, A = some a → a.block ≠ g) (hk : ∀ k, k ≠ g → W'.heap[k]? = W.heap[k]?) : Row W' B A vs := fun hp => by
  obtain ⟨b, off, e, hb, hc⟩ := h hp
  exact ⟨b, off, e, hb, fun j u hu => (World.cell?_of_block (hk b (hA hp _ e))).trans (hc j u hu)⟩
theorem flat_set {v : Value} {y : Exm} {tail : List Value} : ∀ (ex : List Exm) (j : Nat) (x : Exm), ex[j]? = some x → y.cells = x.cells.set 2 v → (ex.flatMap Exm.cells ++ tail).set (j * 3 + 2) v = (ex.set j y).flatMap Exm.cells ++ tail
  | [], j, x, h, _ => by simp at h
  | z :: ex, 0, x, h, hy => by
    simp only [List.getElem?_cons_zero, Option.some.injEq] at h
    subst h
    rw [List.set_cons_zero, List.flatMap_cons, List.flatMap_cons, hy]
    rfl
  | z :: ex, j + 1, x, h, hy => by
    rw [List.set_cons_succ, List.flatMap_cons, List.flatMap_cons, List.append_assoc, List.append_assoc, ← flat_set ex j x (by simpa using h) hy]
    have e : (j + 1) * 3 + 2 = z.cells.length + (j * 3 + 2) := by show _ = 3 + _; omega
    rw [e, List.set_append_right _ _ (Nat.le_add_right _ _), Nat.add_sub_cancel_left]
theorem map_set_same {α β : Type} (f : α → β) : ∀ (ex : List α) (j : Nat) (x y : α), ex[j]? = some x → f y = f x → (ex.set j y).map f = ex.map f
  | [], j, x, y, h, _ => rfl
  | z :: ex, 0, x, y, h, hy => by
    simp only [List.getElem?_cons_zero, Option.some.injEq] at h
    subst h
    rw [List.set_cons_zero, List.map_cons, List.map_cons, hy]
  | z :: ex, j + 1, x, y, h, hy => by rw [List.set_cons_succ, List.map_cons, List.map_cons, map_set_same f ex j x y (by simpa using h) hy]
/-- The copy under way: the exits ex as they lie now. -/
structure OwnLoop (w : World) (l : Lay) (go : Nat) (AS : Option Addr) (kS : Nat) (AG : Option Addr) (kG : Nat) (AE : Option Addr) (kE : Nat) (AF : Option Addr) (kF : Nat) (ex : List Exm) (W : World) : Prop where
  go_le : w.heap.size + 2 ≤ go
  own : Whole W go 29 [.slice AS l.secs.length kS, .slice AG l.sigs.length kG, .slice AE l.exits.length kE, .slice AF l.flanks.length kF, .int .i64 l.t0, .int .i64 l.t1, .int .i64 l.t2, .int .i64 l.t3, .int .i64 l.t4, .int .i64 l.t5, .int .i64 l.t6]
  S : Row W W.heap.size AS (l.secs.flatMap Sec.cells)
  G : Row W W.heap.size AG (l.sigs.flatMap prtCells)
  F : Row W W.heap.size AF (l.flanks.flatMap flkCells)
  len : ex.length = l.exits.length
  pure : ex.map Exm.pure = l.exits.map Exm.pure
  overs : ∀ x ∈ ex, Row W W.heap.size x.A (x.over.flatMap stpCells)
  nil : AE = Option.none → ex = []
  blk : ∀ a, AE = some a → ∃ g tail, a = ⟨g, 0, Option.none⟩ ∧ w.heap.size + 2 ≤ g ∧ Whole W g 53 (ex.flatMap Exm.cells ++ tail)
  apart : ∀ a, AE = some a → a.block ≠ go ∧ (∀ b, AS = some b → b.block ≠ a.block) ∧ (∀ b, AG = some b → b.block ≠ a.block) ∧ (∀ b, AF = some b → b.block ≠ a.block)
  far : ∀ x ∈ ex, 0 < x.over.length → ∀ b, x.A = some b → (b.block < w.heap.size ∨ w.heap.size + 2 ≤ b.block) ∧ ∀ a, AE = some a → b.block ≠ a.block
  lowS : ∀ b, AS = some b → w.heap.size + 2 ≤ b.block
  lowG : ∀ b, AG = some b → w.heap.size + 2 ≤ b.block
  lowF : ∀ b, AF = some b → w.heap.size + 2 ≤ b.block
  res : Whole W (w.heap.size + 1) 29 [.slice none 0 0, .slice none 0 0, .slice none 0 0, .slice none 0 0, .int .i64 0, .int .i64 0, .int .i64 0, .int .i64 0, .int .i64 0, .int .i64 0, .int .i64 0]
  below : Below w.heap.size w W
theorem OwnMid.loop {w W : World} {l : Lay} {go kS kG kE kF : Nat} {AS AG AE AF : Option Addr} (h : OwnMid w l go AS kS AG kG AE kE AF kF W) (hL : Lies l w) : OwnLoop w l go AS kS AG kG AE kE AF kF l.exits W := by
  have hLW := Lies.closed l _ _ hL h.below
  have hlow : ∀ a, AE = some a → w.heap.size + 2 ≤ a.block := fun a ha => by subst ha; exact (h.E.lt a.block rfl).1
  refine ⟨h.go_le, h.own, h.S, h.G, h.F, rfl, rfl, hLW.overs, fun e => ?_, fun a ha => ?_, h.apart, fun x hx hp b hb => ?_, h.lowS, h.lowG, h.lowF, h.res, h.below⟩
  · subst e
    rcases h.E.2 with ⟨_, h0⟩ | ⟨g, cap, cur, hv, _⟩
    · exact List.eq_nil_of_length_eq_zero h0
    · cases hv
  · subst ha
    rcases h.E.2 with ⟨hv, _⟩ | ⟨g, cap, cur, hv, h1, h2, h3, h4, h5, h6⟩
    · cases hv
    · cases hv
      refine ⟨g, cur.toList.drop (l.exits.length * 3), rfl, h1, ?_⟩
      rw [← h6, List.take_append_drop]
      show W.heap[g]? = _
      rw [h2]
  · obtain ⟨b', off, e, hlt, _⟩ := hL.overs x hx (by rw [flat_length (n := 3) (fun _ => rfl)]; omega)
    rw [hb] at e
    cases e
    exact ⟨.inl hlt, fun a ha => by have := hlow a ha; show b' ≠ _; omega⟩
/-- Behind one exit more. -/
theorem OwnLoop.next {w W W3 : World} {l : Lay} {go kS kG kE kF : Nat} {AS AG AE AF : Option Addr} {ex : List Exm} (h : OwnLoop w l go AS kS AG kG AE kE AF kF ex W) {j : Nat} {x : Exm} (hx : ex[j]? = some x) {g : Nat} (hg : AE = some ⟨g, 0, Option.none⟩) (hB : Below W.heap.size W W3) {An : Option Addr} {cn : Nat}
    (ho : W3.ownsRow W.heap.size 33 3 (.slice An x.over.length cn) x.over.length (x.over.flatMap stpCells)) : OwnLoop w l go AS kS AG kG AE kE AF kF (ex.set j { x with A := An, c := cn }) (W3.setCell ⟨g, j * 3 + 2, Option.none⟩ (.slice An x.over.length cn)) := by
  obtain ⟨g', tail, e, hgl, hW⟩ := h.blk _ hg
  cases e
  have hk : ∀ k, k ≠ g → (W3.setCell ⟨g, j * 3 + 2, Option.none⟩ (.slice An x.over.length cn)).heap[k]? = W3.heap[k]? := fun k hk => Below.heap_setCell _ _ _ _ hk
  have hsz : (W3.setCell ⟨g, j * 3 + 2, Option.none⟩ (.slice An x.over.length cn)).heap.size = W3.heap.size := by simp [World.setCell]
  have hAp := h.apart _ hg
  have hgW := hW.lt
  have hblk := owns_block ho
  have hWs := h.below.size
  have hres := h.res.lt
  refine ⟨h.go_le, (hk _ (fun e => hAp.1 e.symm)).trans (h.own.below hB h.own.lt), ?_, ?_, ?_, by simp [h.len], ?_, ?_, (fun e => by rw [hg] at e; cases e), fun a ha => ?_, h.apart, ?_, h.lowS, h.lowG, h.lowF, (hk _ (by omega)).trans (h.res.below hB h.res.lt), (h.below.trans (hB.mono h.below.size)).setCell (p := ⟨g, j * 3 + 2, Option.none⟩) (by show w.heap.size ≤ g; omega) _⟩
  · rw [hsz]; exact (h.S.on hB).elsewhere hAp.2.1 hk
  · rw [hsz]; exact (h.G.on hB).elsewhere hAp.2.2.1 hk
  · rw [hsz]; exact (h.F.on hB).elsewhere hAp.2.2.2 hk
  · rw [map_set_same Exm.pure ex j x { x with A := An, c := cn } hx rfl, h.pure]
  · intro y hy
    rw [hsz]
    rcases List.mem_or_eq_of_mem_set hy with hy | rfl
    · exact ((h.overs y hy).on hB).elsewhere2 (fun hp b hb => (h.far y hy (by rw [flat_length (n := 3) (fun _ => rfl)] at hp; omega) b hb).2 _ hg) hk
    · exact (owns_row2 ho).elsewhere (fun b hb => by have := hblk b hb; omega) hk
  · rw [hg] at ha
    cases ha
    refine ⟨g, tail, rfl, hgl, ?_⟩
    have := (hW.below hB hW.lt).set (j * 3 + 2) (.slice An x.over.length cn)
    rw [flat_set (v := .slice An x.over.length cn) (y := { x with A := An, c := cn }) ex j x hx rfl] at this
    exact this
  · intro y hy hp b hb
    rcases List.mem_or_eq_of_mem_set hy with hy | rfl
    · exact h.far y hy hp b hb
    · have := hblk b hb
      exact ⟨.inr (by omega), fun a ha => by rw [hg] at ha; cases ha; show b.block ≠ g; omega⟩

theorem own_end {w W : World} {l : Lay} {go kS kG kE kF : Nat} {AS AG AE AF : Option Addr} {ex : List Exm} (h : OwnLoop w l go AS kS AG kG AE kE AF kF ex W) (hL : Lies l w) {v0 v1 v2 v3 v4 v5 v6 v7 v8 v9 v10 : Value} :
    ∃ m : Lay, Ending.returned (.agg #[.slice AS l.secs.length kS, .slice AG l.sigs.length kG, .slice AE l.exits.length kE, .slice AF l.flanks.length kF, .int .i64 l.t0, .int .i64 l.t1, .int .i64 l.t2, .int .i64 l.t3, .int .i64 l.t4, .int .i64 l.t5, .int .i64 l.t6]) = .returned m.val ∧ Lies m (over11 W (w.heap.size + 1) v0 v1 v2 v3 v4 v5 v6 v7 v8 v9 v10) ∧ Alike m l ∧ Below w.heap.size w (over11 W (w.heap.size + 1) v0 v1 v2 v3 v4 v5 v6 v7 v8 v9 v10) := by
  have hk := over11_heap W (w.heap.size + 1) v0 v1 v2 v3 v4 v5 v6 v7 v8 v9 v10
  have hs := over11_size W (w.heap.size + 1) v0 v1 v2 v3 v4 v5 v6 v7 v8 v9 v10
  have hbl := over11_below h.below (show w.heap.size ≤ w.heap.size + 1 by omega) v0 v1 v2 v3 v4 v5 v6 v7 v8 v9 v10
  generalize over11 W (w.heap.size + 1) v0 v1 v2 v3 v4 v5 v6 v7 v8 v9 v10 = Wf at *
  have hlen := h.len
  refine ⟨⟨l.secs, AS, kS, l.sigs, AG, kG, ex, AE, kE, l.flanks, AF, kF, l.t0, l.t1, l.t2, l.t3, l.t4, l.t5, l.t6⟩, by show _ = Ending.returned (.agg #[_, _, .slice AE ex.length kE, _, _, _, _, _, _, _, _]); rw [hlen], ⟨?_, ?_, ?_, ?_, ?_, hL.kinds, hL.nS, hL.nG, by show (ex.length : Int) ≤ _; rw [hlen]; exact hL.nE, hL.nF, ?_⟩, ⟨rfl, rfl, h.pure, rfl, rfl, rfl, rfl, rfl, rfl, rfl, rfl⟩, hbl⟩
  · rw [hs]; exact h.S.elsewhere (fun a ha => by have := h.lowS a ha; omega) hk
  · rw [hs]; exact h.G.elsewhere (fun a ha => by have := h.lowG a ha; omega) hk
  · rw [hs]
    show Row _ _ AE (ex.flatMap Exm.cells)
    cases AE with
    | none => rw [h.nil rfl]; exact Row.nil _ _ _
    | some a =>
      obtain ⟨g, tail, rfl, hg, hW⟩ := h.blk _ rfl
      intro hp
      refine ⟨g, 0, rfl, hW.lt, fun j u hu => ?_⟩
      rw [Nat.zero_add]
      refine (World.cell?_of_block (hk g (by omega))).trans (hW.cell_at j ?_)
      rw [List.getElem?_append_left (List.getElem?_eq_some_iff.1 hu).1]
      exact hu
  · rw [hs]; exact h.F.elsewhere (fun a ha => by have := h.lowF a ha; omega) hk
  · intro x hx
    rw [hs]
    exact (h.overs x hx).elsewhere2 (fun hp b hb => by
      have := (h.far x hx (by rw [flat_length (n := 3) (fun _ => rfl)] at hp; omega) b hb).1
      omega) hk
  · intro x hx
    have h1 : x.pure ∈ l.exits.map Exm.pure := by rw [← h.pure]; exact List.mem_map_of_mem hx
    obtain ⟨y, hy, e⟩ := List.mem_map.1 h1
    have h3 : y.over = x.over := congrArg (fun p => p.2.2) e
    rw [← h3]
    exact hL.nO y hy

set_option maxRecDepth 100000 in
set_option maxHeartbeats 16000000 in
theorem own_any {l : Lay} (w : World) (hL : Lies l w) (hnS : l.secs.length ≤ 1000) (hnG : l.sigs.length ≤ 1000) (hnE : l.exits.length ≤ 1000) (hnF : l.flanks.length ≤ 1000) (hnO : ∀ x ∈ l.exits, x.over.length ≤ 1000) :
    Calls Tryd.prog 22 #[l.val] w fun e w' => ∃ m : Lay, e = .returned m.val ∧ Lies m w' ∧ Alike m l ∧ Below w.heap.size w w' := by
  obtain ⟨Q, HQ, HQl, HQL, HQr, HQb, HQs, HQo, hq0⟩ : ∃ Q : World → Prop, Hid (Closed Q) ∧ Hid (∀ W, Q W → Whole W w.heap.size 29 l.cells) ∧ Hid (∀ W, Q W → Lies l W) ∧ Hid (∀ W, Q W → Whole W (w.heap.size + 1) 29 [.slice none 0 0, .slice none 0 0, .slice none 0 0, .slice none 0 0, .int .i64 0, .int .i64 0, .int .i64 0, .int .i64 0, .int .i64 0, .int .i64 0, .int .i64 0]) ∧ Hid (∀ W, Q W → Below w.heap.size w W) ∧ Hid (∀ W, Q W → w.heap.size + 2 ≤ W.heap.size) ∧
      Hid (∀ W go (v0 v1 v2 v3 v4 v5 v6 v7 v8 v9 v10 : Value), w.heap.size + 2 ≤ go → Q W → Q (over11 W go v0 v1 v2 v3 v4 v5 v6 v7 v8 v9 v10)) ∧ Q ((w.alloc (.cells l.cells.toArray 29)).alloc (.cells #[.slice none 0 0, .slice none 0 0, .slice none 0 0, .slice none 0 0, .int .i64 0, .int .i64 0, .int .i64 0, .int .i64 0, .int .i64 0, .int .i64 0, .int .i64 0] 29)) :=
    ⟨fun W => (Whole W w.heap.size 29 l.cells ∧ Whole W (w.heap.size + 1) 29 [.slice none 0 0, .slice none 0 0, .slice none 0 0, .slice none 0 0, .int .i64 0, .int .i64 0, .int .i64 0, .int .i64 0, .int .i64 0, .int .i64 0, .int .i64 0]) ∧ Below w.heap.size w W, Lib.hid (((Closed.whole _ _ _).and (Closed.whole _ _ _)).and (Closed.below w)), Lib.hid (fun _ h => h.1.1), Lib.hid (fun W h => Lies.closed l _ _ hL h.2), Lib.hid (fun _ h => h.1.2), Lib.hid (fun _ h => h.2), Lib.hid (fun _ h => h.1.2.lt),
     Lib.hid (fun W go v0 v1 v2 v3 v4 v5 v6 v7 v8 v9 v10 hgo h => ⟨⟨(over11_heap W go v0 v1 v2 v3 v4 v5 v6 v7 v8 v9 v10 _ (by omega)).trans h.1.1, (over11_heap W go v0 v1 v2 v3 v4 v5 v6 v7 v8 v9 v10 _ (by omega)).trans h.1.2⟩, over11_below h.2 (by omega) v0 v1 v2 v3 v4 v5 v6 v7 v8 v9 v10⟩),
     ⟨(Whole.new w _ l.cells).alloc _, Whole.new_at _ _ [.slice none 0 0, .slice none 0 0, .slice none 0 0, .slice none 0 0, .int .i64 0, .int .i64 0, .int .i64 0, .int .i64 0, .int .i64 0, .int .i64 0, .int .i64 0] _ (by simp)⟩, below2 w _ _⟩
  have HnS := Lib.hid hnS
  have HnG := Lib.hid hnG
  have HnE := Lib.hid hnE
  have HnF := Lib.hid hnF
  clear hnS hnG hnE hnF
  go_enter Tryd.func22, Tryd.ntmps22
  go_wp2_with fail
  obtain ⟨W1, hW1⟩ : ∃ W1, ((w.alloc (.cells l.cells.toArray 29)).alloc (.cells #[.slice none 0 0, .slice none 0 0, .slice none 0 0, .slice none 0 0, .int .i64 0, .int .i64 0, .int .i64 0, .int .i64 0, .int .i64 0, .int .i64 0, .int .i64 0] 29)) = W1 := ⟨_, rfl⟩
  rw [hW1] at hq0
  simp only [Lay.cells] at hW1
  rw [hW1]
  clear hW1
  have hq0 := HQ.out.drew hq0
  go_cut [3] from 6 to 20 (fun o wx => ∃ go AS kS AG kG AE kE AF kF, o = .pointer (some ⟨go, 0, none⟩) ∧ OwnMid w l go AS kS AG kG AE kE AF kF wx)
  case first =>
    refine wp_region_held_drew (S := Q) (by kernel_rfl) hq0 (fun _ => ?_)
    obtain ⟨Wd, hWd⟩ : ∃ Wd, W1.drew = Wd := ⟨_, rfl⟩
    rw [hWd] at hq0 ⊢
    clear hWd
    have hq := hq0
    refine wpAnyH_take (i := 0) (oi := ⟨some 6, _, _, _, _, _⟩) (v := .pointer (some ⟨w.heap.size, 0, none⟩)) rfl (by kernel_rfl) (by kernel_rfl) (by kernel_rfl) (fun _ _ _ h => h) (Or.inl ⟨rfl, fun w hS => rfl⟩) hq ?_
    simp only [Act.put, List.setIfInBounds_toArray, List.set_cons_zero, List.set_cons_succ]
    refine wpAnyH_take (i := 1) (oi := ⟨some 7, _, _, _, _, _⟩) (v := .slice l.As l.secs.length l.cs) rfl (by kernel_rfl) (by kernel_rfl) (by kernel_rfl) (fun _ _ _ h => h) (Or.inl ⟨rfl, fun W hW => by have m1 := HQl.out _ hW; have x0 := m1.cell_at 0 rfl; have x1 := m1.cell_at 1 rfl; have x2 := m1.cell_at 2 rfl; have x3 := m1.cell_at 3 rfl; have x4 := m1.cell_at 4 rfl; have x5 := m1.cell_at 5 rfl; have x6 := m1.cell_at 6 rfl; have x7 := m1.cell_at 7 rfl; have x8 := m1.cell_at 8 rfl; have x9 := m1.cell_at 9 rfl; have x10 := m1.cell_at 10 rfl; clear m1; go_simp⟩) hq ?_
    simp only [Act.put, List.setIfInBounds_toArray, List.set_cons_zero, List.set_cons_succ]
    refine wpAnyH_take (i := 3) (oi := ⟨some 9, _, _, _, _, _⟩) (v := .pointer (some ⟨w.heap.size, 1, none⟩)) rfl (by kernel_rfl) (by kernel_rfl) (by kernel_rfl) (fun _ _ _ h => h) (Or.inl ⟨rfl, fun w hS => rfl⟩) hq ?_
    simp only [Act.put, List.setIfInBounds_toArray, List.set_cons_zero, List.set_cons_succ]
    refine wpAnyH_take (i := 4) (oi := ⟨some 10, _, _, _, _, _⟩) (v := .slice l.Ag l.sigs.length l.cg) rfl (by kernel_rfl) (by kernel_rfl) (by kernel_rfl) (fun _ _ _ h => h) (Or.inl ⟨rfl, fun W hW => by have m1 := HQl.out _ hW; have x0 := m1.cell_at 0 rfl; have x1 := m1.cell_at 1 rfl; have x2 := m1.cell_at 2 rfl; have x3 := m1.cell_at 3 rfl; have x4 := m1.cell_at 4 rfl; have x5 := m1.cell_at 5 rfl; have x6 := m1.cell_at 6 rfl; have x7 := m1.cell_at 7 rfl; have x8 := m1.cell_at 8 rfl; have x9 := m1.cell_at 9 rfl; have x10 := m1.cell_at 10 rfl; clear m1; go_simp⟩) hq ?_
    simp only [Act.put, List.setIfInBounds_toArray, List.set_cons_zero, List.set_cons_succ]
    refine wpAnyH_take (i := 6) (oi := ⟨some 12, _, _, _, _, _⟩) (v := .pointer (some ⟨w.heap.size, 2, none⟩)) rfl (by kernel_rfl) (by kernel_rfl) (by kernel_rfl) (fun _ _ _ h => h) (Or.inl ⟨rfl, fun w hS => rfl⟩) hq ?_
    simp only [Act.put, List.setIfInBounds_toArray, List.set_cons_zero, List.set_cons_succ]
    refine wpAnyH_take (i := 7) (oi := ⟨some 13, _, _, _, _, _⟩) (v := .slice l.Ae l.exits.length l.ce) rfl (by kernel_rfl) (by kernel_rfl) (by kernel_rfl) (fun _ _ _ h => h) (Or.inl ⟨rfl, fun W hW => by have m1 := HQl.out _ hW; have x0 := m1.cell_at 0 rfl; have x1 := m1.cell_at 1 rfl; have x2 := m1.cell_at 2 rfl; have x3 := m1.cell_at 3 rfl; have x4 := m1.cell_at 4 rfl; have x5 := m1.cell_at 5 rfl; have x6 := m1.cell_at 6 rfl; have x7 := m1.cell_at 7 rfl; have x8 := m1.cell_at 8 rfl; have x9 := m1.cell_at 9 rfl; have x10 := m1.cell_at 10 rfl; clear m1; go_simp⟩) hq ?_
    simp only [Act.put, List.setIfInBounds_toArray, List.set_cons_zero, List.set_cons_succ]
    refine wpAnyH_take (i := 9) (oi := ⟨some 15, _, _, _, _, _⟩) (v := .pointer (some ⟨w.heap.size, 3, none⟩)) rfl (by kernel_rfl) (by kernel_rfl) (by kernel_rfl) (fun _ _ _ h => h) (Or.inl ⟨rfl, fun w hS => rfl⟩) hq ?_
    simp only [Act.put, List.setIfInBounds_toArray, List.set_cons_zero, List.set_cons_succ]
    refine wpAnyH_take (i := 10) (oi := ⟨some 16, _, _, _, _, _⟩) (v := .slice l.Af l.flanks.length l.cf) rfl (by kernel_rfl) (by kernel_rfl) (by kernel_rfl) (fun _ _ _ h => h) (Or.inl ⟨rfl, fun W hW => by have m1 := HQl.out _ hW; have x0 := m1.cell_at 0 rfl; have x1 := m1.cell_at 1 rfl; have x2 := m1.cell_at 2 rfl; have x3 := m1.cell_at 3 rfl; have x4 := m1.cell_at 4 rfl; have x5 := m1.cell_at 5 rfl; have x6 := m1.cell_at 6 rfl; have x7 := m1.cell_at 7 rfl; have x8 := m1.cell_at 8 rfl; have x9 := m1.cell_at 9 rfl; have x10 := m1.cell_at 10 rfl; clear m1; go_simp⟩) hq ?_
    simp only [Act.put, List.setIfInBounds_toArray, List.set_cons_zero, List.set_cons_succ]
    refine wpAnyH_take (i := 12) (oi := ⟨some 18, _, _, _, _, _⟩) (v := .pointer (some ⟨w.heap.size, 4, none⟩)) rfl (by kernel_rfl) (by kernel_rfl) (by kernel_rfl) (fun _ _ _ h => h) (Or.inl ⟨rfl, fun w hS => rfl⟩) hq ?_
    simp only [Act.put, List.setIfInBounds_toArray, List.set_cons_zero, List.set_cons_succ]
    refine wpAnyH_take (i := 13) (oi := ⟨some 19, _, _, _, _, _⟩) (v := .agg #[.int .i64 l.t0, .int .i64 l.t1, .int .i64 l.t2, .int .i64 l.t3, .int .i64 l.t4, .int .i64 l.t5, .int .i64 l.t6]) rfl (by kernel_rfl) (by kernel_rfl) (by kernel_rfl) (fun _ _ _ h => h) (Or.inl ⟨rfl, fun W hW => by have m1 := HQl.out _ hW; have x0 := m1.cell_at 0 rfl; have x1 := m1.cell_at 1 rfl; have x2 := m1.cell_at 2 rfl; have x3 := m1.cell_at 3 rfl; have x4 := m1.cell_at 4 rfl; have x5 := m1.cell_at 5 rfl; have x6 := m1.cell_at 6 rfl; have x7 := m1.cell_at 7 rfl; have x8 := m1.cell_at 8 rfl; have x9 := m1.cell_at 9 rfl; have x10 := m1.cell_at 10 rfl; clear m1; go_simp⟩) hq ?_
    simp only [Act.put, List.setIfInBounds_toArray, List.set_cons_zero, List.set_cons_succ]
    refine wpAnyH_ready (rs := [2, 15]) (by kernel_rfl) (by simp) ?_
    refine AllReadyH.cons rfl (fun K hK => ?_) (AllReadyH.cons rfl (fun K hK => ?_) (AllReadyH.nil))
    · go_simp
      refine (cloneSection_any l.As l.cs _ (HQL.out _ hq).secs HnS.out).mono ?_
      rintro e w1 ⟨v, rfl, oS, hB1⟩
      obtain ⟨AS, kS, rfl, _⟩ := owns_read oS
      have bS := owns_block oS
      have hsz1 := hB1.size
      have hq := HQ.out _ _ hq hB1
      refine hK.out _ _ hq (fun _ => ?_)
      clear hK K
      try simp only [Act.put, List.setIfInBounds_toArray, List.set_cons_zero, List.set_cons_succ]
      refine wpAnyH_ready (rs := [5, 15]) (by kernel_rfl) (by simp) ?_
      refine AllReadyH.cons rfl (fun K hK => ?_) (AllReadyH.cons rfl (fun K hK => ?_) (AllReadyH.nil))
      · go_simp
        refine (cloneSignal_any l.Ag l.cg _ (HQL.out _ hq).sigs HnG.out).mono ?_
        rintro e w2 ⟨v, rfl, oG, hB2⟩
        obtain ⟨AG, kG, rfl, _⟩ := owns_read oG
        have bG := owns_block oG
        have oS := owns_keep oS hB2
        have hsz2 := hB2.size
        have hq := HQ.out _ _ hq hB2
        refine hK.out _ _ hq (fun _ => ?_)
        clear hK K
        try simp only [Act.put, List.setIfInBounds_toArray, List.set_cons_zero, List.set_cons_succ]
        refine wpAnyH_ready (rs := [8, 15]) (by kernel_rfl) (by simp) ?_
        refine AllReadyH.cons rfl (fun K hK => ?_) (AllReadyH.cons rfl (fun K hK => ?_) (AllReadyH.nil))
        · go_simp
          refine (cloneExit_any l.Ae l.ce _ (HQL.out _ hq).exits HnE.out).mono ?_
          rintro e w3 ⟨v, rfl, oE, hB3⟩
          obtain ⟨AE, kE, rfl, _⟩ := owns_read oE
          have bE := owns_block oE
          have oS := owns_keep oS hB3
          have oG := owns_keep oG hB3
          have hsz3 := hB3.size
          have hq := HQ.out _ _ hq hB3
          refine hK.out _ _ hq (fun _ => ?_)
          clear hK K
          try simp only [Act.put, List.setIfInBounds_toArray, List.set_cons_zero, List.set_cons_succ]
          refine wpAnyH_ready (rs := [11, 15]) (by kernel_rfl) (by simp) ?_
          refine AllReadyH.cons rfl (fun K hK => ?_) (AllReadyH.cons rfl (fun K hK => ?_) (AllReadyH.nil))
          · go_simp
            refine (cloneFlank_any l.Af l.cf _ (HQL.out _ hq).flanks HnF.out).mono ?_
            rintro e w4 ⟨v, rfl, oF, hB4⟩
            obtain ⟨AF, kF, rfl, _⟩ := owns_read oF
            have bF := owns_block oF
            have oS := owns_keep oS hB4
            have oG := owns_keep oG hB4
            have oE := owns_keep oE hB4
            have hsz4 := hB4.size
            have hq := HQ.out _ _ hq hB4
            refine hK.out _ _ hq (fun _ => ?_)
            clear hK K
            try simp only [Act.put, List.setIfInBounds_toArray, List.set_cons_zero, List.set_cons_succ]
            refine wpAnyH_take (i := 14) (oi := ⟨some 20, _, _, _, _, _⟩) (v := .agg #[.slice AS l.secs.length kS, .slice AG l.sigs.length kG, .slice AE l.exits.length kE, .slice AF l.flanks.length kF, .int .i64 l.t0, .int .i64 l.t1, .int .i64 l.t2, .int .i64 l.t3, .int .i64 l.t4, .int .i64 l.t5, .int .i64 l.t6]) rfl (by kernel_rfl) (by kernel_rfl) (by kernel_rfl) (fun _ _ _ h => h) (Or.inl ⟨rfl, fun w hS => by go_simp⟩) hq ?_
            simp only [Act.put, List.setIfInBounds_toArray, List.set_cons_zero, List.set_cons_succ]
            refine wpAnyH_ready (rs := [15]) (by kernel_rfl) (by simp) ?_
            refine AllReadyH.cons rfl (fun K hK => ?_) (AllReadyH.nil)
            · go_simp
              have hBz := below1 w4 (.cells #[.slice none 0 0, .slice none 0 0, .slice none 0 0, .slice none 0 0, .int .i64 0, .int .i64 0, .int .i64 0, .int .i64 0, .int .i64 0, .int .i64 0, .int .i64 0] 29)
              have hz := Whole.new w4 29 [.slice none 0 0, .slice none 0 0, .slice none 0 0, .slice none 0 0, .int .i64 0, .int .i64 0, .int .i64 0, .int .i64 0, .int .i64 0, .int .i64 0, .int .i64 0]
              have oS := owns_keep oS hBz
              have oG := owns_keep oG hBz
              have oE := owns_keep oE hBz
              have oF := owns_keep oF hBz
              have hgo := HQs.out _ hq
              have hq := HQ.out _ _ hq hBz
              obtain ⟨go, hgoe⟩ : ∃ go, w4.heap.size = go := ⟨_, rfl⟩
              have hszz : (w4.alloc (.cells #[.slice none 0 0, .slice none 0 0, .slice none 0 0, .slice none 0 0, .int .i64 0, .int .i64 0, .int .i64 0, .int .i64 0, .int .i64 0, .int .i64 0, .int .i64 0] 29)).heap.size = go + 1 := by rw [World.size_alloc, hgoe]
              obtain ⟨wz, HWz⟩ : ∃ wz, w4.alloc (.cells #[.slice none 0 0, .slice none 0 0, .slice none 0 0, .slice none 0 0, .int .i64 0, .int .i64 0, .int .i64 0, .int .i64 0, .int .i64 0, .int .i64 0, .int .i64 0] 29) = wz := ⟨_, rfl⟩
              refine hK.out _ _ hq (fun _ => ?_)
              clear hK K
              try simp only [Act.put, List.setIfInBounds_toArray, List.set_cons_zero, List.set_cons_succ]
              rw [hgoe] at hz hgo ⊢
              rw [HWz] at hz hq hszz ⊢
              rw [HWz] at oS
              rw [HWz] at oG
              rw [HWz] at oE
              rw [HWz] at oF
              refine wpAnyH_ready (rs := [16]) (by kernel_rfl) (by simp) ?_
              refine AllReadyH.cons rfl (fun K hK => ?_) AllReadyH.nil
              have f0 := hz.frozen 0
              have z0 := hz.cell_at 0 rfl
              have f1 := hz.frozen 1
              have z1 := hz.cell_at 1 rfl
              have f2 := hz.frozen 2
              have z2 := hz.cell_at 2 rfl
              have f3 := hz.frozen 3
              have z3 := hz.cell_at 3 rfl
              have f4 := hz.frozen 4
              have z4 := hz.cell_at 4 rfl
              have f5 := hz.frozen 5
              have z5 := hz.cell_at 5 rfl
              have f6 := hz.frozen 6
              have z6 := hz.cell_at 6 rfl
              have f7 := hz.frozen 7
              have z7 := hz.cell_at 7 rfl
              have f8 := hz.frozen 8
              have z8 := hz.cell_at 8 rfl
              have f9 := hz.frozen 9
              have z9 := hz.cell_at 9 rfl
              have f10 := hz.frozen 10
              have z10 := hz.cell_at 10 rfl
              go_simp
              clear f0 z0
              clear f1 z1
              clear f2 z2
              clear f3 z3
              clear f4 z4
              clear f5 z5
              clear f6 z6
              clear f7 z7
              clear f8 z8
              clear f9 z9
              clear f10 z10
              refine hK.out _ _ (HQo.out _ go _ _ _ _ _ _ _ _ _ _ _ hgo hq) (fun _ => ?_)
              refine wpAnyH_done (by kernel_rfl) ?_ _
              go_wp2_with fail
              go_meet
              case rel =>
                exact ⟨go, AS, kS, AG, kG, AE, kE, AF, kF, rfl, own_mid hgo hz (owns_row2 oS) (owns_row2 oG) (owns_row2 oF) (owns_base oE (by have := HQs.out _ hq0; omega)) (fun a ha => by have h1 := bS a ha; have h2 := HQs.out _ hq0; omega) (fun a ha => by have h1 := bG a ha; have h2 := HQs.out _ hq0; omega) (fun a ha => by have h1 := bF a ha; have h2 := HQs.out _ hq0; omega)
                  (fun a ha => by have h1 := bE a ha; exact ⟨by omega, fun b hb => by have := bS b hb; omega, fun b hb => by have := bG b hb; omega, fun b hb => by have := bF b hb; omega⟩) (HQr.out _ hq) (HQb.out _ hq)⟩
          · go_simp
            have hBz := below1 w3 (.cells #[.slice none 0 0, .slice none 0 0, .slice none 0 0, .slice none 0 0, .int .i64 0, .int .i64 0, .int .i64 0, .int .i64 0, .int .i64 0, .int .i64 0, .int .i64 0] 29)
            have hz := Whole.new w3 29 [.slice none 0 0, .slice none 0 0, .slice none 0 0, .slice none 0 0, .int .i64 0, .int .i64 0, .int .i64 0, .int .i64 0, .int .i64 0, .int .i64 0, .int .i64 0]
            have oS := owns_keep oS hBz
            have oG := owns_keep oG hBz
            have oE := owns_keep oE hBz
            have hgo := HQs.out _ hq
            have hq := HQ.out _ _ hq hBz
            obtain ⟨go, hgoe⟩ : ∃ go, w3.heap.size = go := ⟨_, rfl⟩
            have hszz : (w3.alloc (.cells #[.slice none 0 0, .slice none 0 0, .slice none 0 0, .slice none 0 0, .int .i64 0, .int .i64 0, .int .i64 0, .int .i64 0, .int .i64 0, .int .i64 0, .int .i64 0] 29)).heap.size = go + 1 := by rw [World.size_alloc, hgoe]
            obtain ⟨wz, HWz⟩ : ∃ wz, w3.alloc (.cells #[.slice none 0 0, .slice none 0 0, .slice none 0 0, .slice none 0 0, .int .i64 0, .int .i64 0, .int .i64 0, .int .i64 0, .int .i64 0, .int .i64 0, .int .i64 0] 29) = wz := ⟨_, rfl⟩
            refine hK.out _ _ hq (fun _ => ?_)
            clear hK K
            try simp only [Act.put, List.setIfInBounds_toArray, List.set_cons_zero, List.set_cons_succ]
            rw [hgoe] at hz hgo ⊢
            rw [HWz] at hz hq hszz ⊢
            rw [HWz] at oS
            rw [HWz] at oG
            rw [HWz] at oE
            refine wpAnyH_ready (rs := [11]) (by kernel_rfl) (by simp) ?_
            refine AllReadyH.cons rfl (fun K hK => ?_) (AllReadyH.nil)
            · go_simp
              refine (cloneFlank_any l.Af l.cf _ (HQL.out _ hq).flanks HnF.out).mono ?_
              rintro e w7 ⟨v, rfl, oF, hB7⟩
              obtain ⟨AF, kF, rfl, _⟩ := owns_read oF
              have bF := owns_block oF
              have oS := owns_keep oS hB7
              have oG := owns_keep oG hB7
              have oE := owns_keep oE hB7
              have hz := hz.below hB7 hz.lt
              have hsz7 := hB7.size
              have hq := HQ.out _ _ hq hB7
              refine hK.out _ _ hq (fun _ => ?_)
              clear hK K
              try simp only [Act.put, List.setIfInBounds_toArray, List.set_cons_zero, List.set_cons_succ]
              refine wpAnyH_take (i := 14) (oi := ⟨some 20, _, _, _, _, _⟩) (v := .agg #[.slice AS l.secs.length kS, .slice AG l.sigs.length kG, .slice AE l.exits.length kE, .slice AF l.flanks.length kF, .int .i64 l.t0, .int .i64 l.t1, .int .i64 l.t2, .int .i64 l.t3, .int .i64 l.t4, .int .i64 l.t5, .int .i64 l.t6]) rfl (by kernel_rfl) (by kernel_rfl) (by kernel_rfl) (fun _ _ _ h => h) (Or.inl ⟨rfl, fun w hS => by go_simp⟩) hq ?_
              simp only [Act.put, List.setIfInBounds_toArray, List.set_cons_zero, List.set_cons_succ]
              refine wpAnyH_ready (rs := [16]) (by kernel_rfl) (by simp) ?_
              refine AllReadyH.cons rfl (fun K hK => ?_) AllReadyH.nil
              have f0 := hz.frozen 0
              have z0 := hz.cell_at 0 rfl
              have f1 := hz.frozen 1
              have z1 := hz.cell_at 1 rfl
              have f2 := hz.frozen 2
              have z2 := hz.cell_at 2 rfl
              have f3 := hz.frozen 3
              have z3 := hz.cell_at 3 rfl
              have f4 := hz.frozen 4
              have z4 := hz.cell_at 4 rfl
              have f5 := hz.frozen 5
              have z5 := hz.cell_at 5 rfl
              have f6 := hz.frozen 6
              have z6 := hz.cell_at 6 rfl
              have f7 := hz.frozen 7
              have z7 := hz.cell_at 7 rfl
              have f8 := hz.frozen 8
              have z8 := hz.cell_at 8 rfl
              have f9 := hz.frozen 9
              have z9 := hz.cell_at 9 rfl
              have f10 := hz.frozen 10
              have z10 := hz.cell_at 10 rfl
              go_simp
              clear f0 z0
              clear f1 z1
              clear f2 z2
              clear f3 z3
              clear f4 z4
              clear f5 z5
              clear f6 z6
              clear f7 z7
              clear f8 z8
              clear f9 z9
              clear f10 z10
              refine hK.out _ _ (HQo.out _ go _ _ _ _ _ _ _ _ _ _ _ hgo hq) (fun _ => ?_)
              refine wpAnyH_done (by kernel_rfl) ?_ _
              go_wp2_with fail
              go_meet
              case rel =>
                exact ⟨go, AS, kS, AG, kG, AE, kE, AF, kF, rfl, own_mid hgo hz (owns_row2 oS) (owns_row2 oG) (owns_row2 oF) (owns_base oE (by have := HQs.out _ hq0; omega)) (fun a ha => by have h1 := bS a ha; have h2 := HQs.out _ hq0; omega) (fun a ha => by have h1 := bG a ha; have h2 := HQs.out _ hq0; omega) (fun a ha => by have h1 := bF a ha; have h2 := HQs.out _ hq0; omega)
                  (fun a ha => by have h1 := bE a ha; exact ⟨by omega, fun b hb => by have := bS b hb; omega, fun b hb => by have := bG b hb; omega, fun b hb => by have := bF b hb; omega⟩) (HQr.out _ hq) (HQb.out _ hq)⟩
        · go_simp
          have hBz := below1 w2 (.cells #[.slice none 0 0, .slice none 0 0, .slice none 0 0, .slice none 0 0, .int .i64 0, .int .i64 0, .int .i64 0, .int .i64 0, .int .i64 0, .int .i64 0, .int .i64 0] 29)
          have hz := Whole.new w2 29 [.slice none 0 0, .slice none 0 0, .slice none 0 0, .slice none 0 0, .int .i64 0, .int .i64 0, .int .i64 0, .int .i64 0, .int .i64 0, .int .i64 0, .int .i64 0]
          have oS := owns_keep oS hBz
          have oG := owns_keep oG hBz
          have hgo := HQs.out _ hq
          have hq := HQ.out _ _ hq hBz
          obtain ⟨go, hgoe⟩ : ∃ go, w2.heap.size = go := ⟨_, rfl⟩
          have hszz : (w2.alloc (.cells #[.slice none 0 0, .slice none 0 0, .slice none 0 0, .slice none 0 0, .int .i64 0, .int .i64 0, .int .i64 0, .int .i64 0, .int .i64 0, .int .i64 0, .int .i64 0] 29)).heap.size = go + 1 := by rw [World.size_alloc, hgoe]
          obtain ⟨wz, HWz⟩ : ∃ wz, w2.alloc (.cells #[.slice none 0 0, .slice none 0 0, .slice none 0 0, .slice none 0 0, .int .i64 0, .int .i64 0, .int .i64 0, .int .i64 0, .int .i64 0, .int .i64 0, .int .i64 0] 29) = wz := ⟨_, rfl⟩
          refine hK.out _ _ hq (fun _ => ?_)
          clear hK K
          try simp only [Act.put, List.setIfInBounds_toArray, List.set_cons_zero, List.set_cons_succ]
          rw [hgoe] at hz hgo ⊢
          rw [HWz] at hz hq hszz ⊢
          rw [HWz] at oS
          rw [HWz] at oG
          refine wpAnyH_ready (rs := [8]) (by kernel_rfl) (by simp) ?_
          refine AllReadyH.cons rfl (fun K hK => ?_) (AllReadyH.nil)
          · go_simp
            refine (cloneExit_any l.Ae l.ce _ (HQL.out _ hq).exits HnE.out).mono ?_
            rintro e w9 ⟨v, rfl, oE, hB9⟩
            obtain ⟨AE, kE, rfl, _⟩ := owns_read oE
            have bE := owns_block oE
            have oS := owns_keep oS hB9
            have oG := owns_keep oG hB9
            have hz := hz.below hB9 hz.lt
            have hsz9 := hB9.size
            have hq := HQ.out _ _ hq hB9
            refine hK.out _ _ hq (fun _ => ?_)
            clear hK K
            try simp only [Act.put, List.setIfInBounds_toArray, List.set_cons_zero, List.set_cons_succ]
            refine wpAnyH_ready (rs := [11]) (by kernel_rfl) (by simp) ?_
            refine AllReadyH.cons rfl (fun K hK => ?_) (AllReadyH.nil)
            · go_simp
              refine (cloneFlank_any l.Af l.cf _ (HQL.out _ hq).flanks HnF.out).mono ?_
              rintro e w10 ⟨v, rfl, oF, hB10⟩
              obtain ⟨AF, kF, rfl, _⟩ := owns_read oF
              have bF := owns_block oF
              have oS := owns_keep oS hB10
              have oG := owns_keep oG hB10
              have oE := owns_keep oE hB10
              have hz := hz.below hB10 hz.lt
              have hsz10 := hB10.size
              have hq := HQ.out _ _ hq hB10
              refine hK.out _ _ hq (fun _ => ?_)
              clear hK K
              try simp only [Act.put, List.setIfInBounds_toArray, List.set_cons_zero, List.set_cons_succ]
              refine wpAnyH_take (i := 14) (oi := ⟨some 20, _, _, _, _, _⟩) (v := .agg #[.slice AS l.secs.length kS, .slice AG l.sigs.length kG, .slice AE l.exits.length kE, .slice AF l.flanks.length kF, .int .i64 l.t0, .int .i64 l.t1, .int .i64 l.t2, .int .i64 l.t3, .int .i64 l.t4, .int .i64 l.t5, .int .i64 l.t6]) rfl (by kernel_rfl) (by kernel_rfl) (by kernel_rfl) (fun _ _ _ h => h) (Or.inl ⟨rfl, fun w hS => by go_simp⟩) hq ?_
              simp only [Act.put, List.setIfInBounds_toArray, List.set_cons_zero, List.set_cons_succ]
              refine wpAnyH_ready (rs := [16]) (by kernel_rfl) (by simp) ?_
              refine AllReadyH.cons rfl (fun K hK => ?_) AllReadyH.nil
              have f0 := hz.frozen 0
              have z0 := hz.cell_at 0 rfl
              have f1 := hz.frozen 1
              have z1 := hz.cell_at 1 rfl
              have f2 := hz.frozen 2
              have z2 := hz.cell_at 2 rfl
              have f3 := hz.frozen 3
              have z3 := hz.cell_at 3 rfl
              have f4 := hz.frozen 4
              have z4 := hz.cell_at 4 rfl
              have f5 := hz.frozen 5
              have z5 := hz.cell_at 5 rfl
              have f6 := hz.frozen 6
              have z6 := hz.cell_at 6 rfl
              have f7 := hz.frozen 7
              have z7 := hz.cell_at 7 rfl
              have f8 := hz.frozen 8
              have z8 := hz.cell_at 8 rfl
              have f9 := hz.frozen 9
              have z9 := hz.cell_at 9 rfl
              have f10 := hz.frozen 10
              have z10 := hz.cell_at 10 rfl
              go_simp
              clear f0 z0
              clear f1 z1
              clear f2 z2
              clear f3 z3
              clear f4 z4
              clear f5 z5
              clear f6 z6
              clear f7 z7
              clear f8 z8
              clear f9 z9
              clear f10 z10
              refine hK.out _ _ (HQo.out _ go _ _ _ _ _ _ _ _ _ _ _ hgo hq) (fun _ => ?_)
              refine wpAnyH_done (by kernel_rfl) ?_ _
              go_wp2_with fail
              go_meet
              case rel =>
                exact ⟨go, AS, kS, AG, kG, AE, kE, AF, kF, rfl, own_mid hgo hz (owns_row2 oS) (owns_row2 oG) (owns_row2 oF) (owns_base oE (by have := HQs.out _ hq0; omega)) (fun a ha => by have h1 := bS a ha; have h2 := HQs.out _ hq0; omega) (fun a ha => by have h1 := bG a ha; have h2 := HQs.out _ hq0; omega) (fun a ha => by have h1 := bF a ha; have h2 := HQs.out _ hq0; omega)
                  (fun a ha => by have h1 := bE a ha; exact ⟨by omega, fun b hb => by have := bS b hb; omega, fun b hb => by have := bG b hb; omega, fun b hb => by have := bF b hb; omega⟩) (HQr.out _ hq) (HQb.out _ hq)⟩
      · go_simp
        have hBz := below1 w1 (.cells #[.slice none 0 0, .slice none 0 0, .slice none 0 0, .slice none 0 0, .int .i64 0, .int .i64 0, .int .i64 0, .int .i64 0, .int .i64 0, .int .i64 0, .int .i64 0] 29)
        have hz := Whole.new w1 29 [.slice none 0 0, .slice none 0 0, .slice none 0 0, .slice none 0 0, .int .i64 0, .int .i64 0, .int .i64 0, .int .i64 0, .int .i64 0, .int .i64 0, .int .i64 0]
        have oS := owns_keep oS hBz
        have hgo := HQs.out _ hq
        have hq := HQ.out _ _ hq hBz
        obtain ⟨go, hgoe⟩ : ∃ go, w1.heap.size = go := ⟨_, rfl⟩
        have hszz : (w1.alloc (.cells #[.slice none 0 0, .slice none 0 0, .slice none 0 0, .slice none 0 0, .int .i64 0, .int .i64 0, .int .i64 0, .int .i64 0, .int .i64 0, .int .i64 0, .int .i64 0] 29)).heap.size = go + 1 := by rw [World.size_alloc, hgoe]
        obtain ⟨wz, HWz⟩ : ∃ wz, w1.alloc (.cells #[.slice none 0 0, .slice none 0 0, .slice none 0 0, .slice none 0 0, .int .i64 0, .int .i64 0, .int .i64 0, .int .i64 0, .int .i64 0, .int .i64 0, .int .i64 0] 29) = wz := ⟨_, rfl⟩
        refine hK.out _ _ hq (fun _ => ?_)
        clear hK K
        try simp only [Act.put, List.setIfInBounds_toArray, List.set_cons_zero, List.set_cons_succ]
        rw [hgoe] at hz hgo ⊢
        rw [HWz] at hz hq hszz ⊢
        rw [HWz] at oS
        refine wpAnyH_ready (rs := [5]) (by kernel_rfl) (by simp) ?_
        refine AllReadyH.cons rfl (fun K hK => ?_) (AllReadyH.nil)
        · go_simp
          refine (cloneSignal_any l.Ag l.cg _ (HQL.out _ hq).sigs HnG.out).mono ?_
          rintro e w12 ⟨v, rfl, oG, hB12⟩
          obtain ⟨AG, kG, rfl, _⟩ := owns_read oG
          have bG := owns_block oG
          have oS := owns_keep oS hB12
          have hz := hz.below hB12 hz.lt
          have hsz12 := hB12.size
          have hq := HQ.out _ _ hq hB12
          refine hK.out _ _ hq (fun _ => ?_)
          clear hK K
          try simp only [Act.put, List.setIfInBounds_toArray, List.set_cons_zero, List.set_cons_succ]
          refine wpAnyH_ready (rs := [8]) (by kernel_rfl) (by simp) ?_
          refine AllReadyH.cons rfl (fun K hK => ?_) (AllReadyH.nil)
          · go_simp
            refine (cloneExit_any l.Ae l.ce _ (HQL.out _ hq).exits HnE.out).mono ?_
            rintro e w13 ⟨v, rfl, oE, hB13⟩
            obtain ⟨AE, kE, rfl, _⟩ := owns_read oE
            have bE := owns_block oE
            have oS := owns_keep oS hB13
            have oG := owns_keep oG hB13
            have hz := hz.below hB13 hz.lt
            have hsz13 := hB13.size
            have hq := HQ.out _ _ hq hB13
            refine hK.out _ _ hq (fun _ => ?_)
            clear hK K
            try simp only [Act.put, List.setIfInBounds_toArray, List.set_cons_zero, List.set_cons_succ]
            refine wpAnyH_ready (rs := [11]) (by kernel_rfl) (by simp) ?_
            refine AllReadyH.cons rfl (fun K hK => ?_) (AllReadyH.nil)
            · go_simp
              refine (cloneFlank_any l.Af l.cf _ (HQL.out _ hq).flanks HnF.out).mono ?_
              rintro e w14 ⟨v, rfl, oF, hB14⟩
              obtain ⟨AF, kF, rfl, _⟩ := owns_read oF
              have bF := owns_block oF
              have oS := owns_keep oS hB14
              have oG := owns_keep oG hB14
              have oE := owns_keep oE hB14
              have hz := hz.below hB14 hz.lt
              have hsz14 := hB14.size
              have hq := HQ.out _ _ hq hB14
              refine hK.out _ _ hq (fun _ => ?_)
              clear hK K
              try simp only [Act.put, List.setIfInBounds_toArray, List.set_cons_zero, List.set_cons_succ]
              refine wpAnyH_take (i := 14) (oi := ⟨some 20, _, _, _, _, _⟩) (v := .agg #[.slice AS l.secs.length kS, .slice AG l.sigs.length kG, .slice AE l.exits.length kE, .slice AF l.flanks.length kF, .int .i64 l.t0, .int .i64 l.t1, .int .i64 l.t2, .int .i64 l.t3, .int .i64 l.t4, .int .i64 l.t5, .int .i64 l.t6]) rfl (by kernel_rfl) (by kernel_rfl) (by kernel_rfl) (fun _ _ _ h => h) (Or.inl ⟨rfl, fun w hS => by go_simp⟩) hq ?_
              simp only [Act.put, List.setIfInBounds_toArray, List.set_cons_zero, List.set_cons_succ]
              refine wpAnyH_ready (rs := [16]) (by kernel_rfl) (by simp) ?_
              refine AllReadyH.cons rfl (fun K hK => ?_) AllReadyH.nil
              have f0 := hz.frozen 0
              have z0 := hz.cell_at 0 rfl
              have f1 := hz.frozen 1
              have z1 := hz.cell_at 1 rfl
              have f2 := hz.frozen 2
              have z2 := hz.cell_at 2 rfl
              have f3 := hz.frozen 3
              have z3 := hz.cell_at 3 rfl
              have f4 := hz.frozen 4
              have z4 := hz.cell_at 4 rfl
              have f5 := hz.frozen 5
              have z5 := hz.cell_at 5 rfl
              have f6 := hz.frozen 6
              have z6 := hz.cell_at 6 rfl
              have f7 := hz.frozen 7
              have z7 := hz.cell_at 7 rfl
              have f8 := hz.frozen 8
              have z8 := hz.cell_at 8 rfl
              have f9 := hz.frozen 9
              have z9 := hz.cell_at 9 rfl
              have f10 := hz.frozen 10
              have z10 := hz.cell_at 10 rfl
              go_simp
              clear f0 z0
              clear f1 z1
              clear f2 z2
              clear f3 z3
              clear f4 z4
              clear f5 z5
              clear f6 z6
              clear f7 z7
              clear f8 z8
              clear f9 z9
              clear f10 z10
              refine hK.out _ _ (HQo.out _ go _ _ _ _ _ _ _ _ _ _ _ hgo hq) (fun _ => ?_)
              refine wpAnyH_done (by kernel_rfl) ?_ _
              go_wp2_with fail
              go_meet
              case rel =>
                exact ⟨go, AS, kS, AG, kG, AE, kE, AF, kF, rfl, own_mid hgo hz (owns_row2 oS) (owns_row2 oG) (owns_row2 oF) (owns_base oE (by have := HQs.out _ hq0; omega)) (fun a ha => by have h1 := bS a ha; have h2 := HQs.out _ hq0; omega) (fun a ha => by have h1 := bG a ha; have h2 := HQs.out _ hq0; omega) (fun a ha => by have h1 := bF a ha; have h2 := HQs.out _ hq0; omega)
                  (fun a ha => by have h1 := bE a ha; exact ⟨by omega, fun b hb => by have := bS b hb; omega, fun b hb => by have := bG b hb; omega, fun b hb => by have := bF b hb; omega⟩) (HQr.out _ hq) (HQb.out _ hq)⟩
    · go_simp
      have hBz := below1 Wd (.cells #[.slice none 0 0, .slice none 0 0, .slice none 0 0, .slice none 0 0, .int .i64 0, .int .i64 0, .int .i64 0, .int .i64 0, .int .i64 0, .int .i64 0, .int .i64 0] 29)
      have hz := Whole.new Wd 29 [.slice none 0 0, .slice none 0 0, .slice none 0 0, .slice none 0 0, .int .i64 0, .int .i64 0, .int .i64 0, .int .i64 0, .int .i64 0, .int .i64 0, .int .i64 0]
      have hgo := HQs.out _ hq
      have hq := HQ.out _ _ hq hBz
      obtain ⟨go, hgoe⟩ : ∃ go, Wd.heap.size = go := ⟨_, rfl⟩
      have hszz : (Wd.alloc (.cells #[.slice none 0 0, .slice none 0 0, .slice none 0 0, .slice none 0 0, .int .i64 0, .int .i64 0, .int .i64 0, .int .i64 0, .int .i64 0, .int .i64 0, .int .i64 0] 29)).heap.size = go + 1 := by rw [World.size_alloc, hgoe]
      obtain ⟨wz, HWz⟩ : ∃ wz, Wd.alloc (.cells #[.slice none 0 0, .slice none 0 0, .slice none 0 0, .slice none 0 0, .int .i64 0, .int .i64 0, .int .i64 0, .int .i64 0, .int .i64 0, .int .i64 0, .int .i64 0] 29) = wz := ⟨_, rfl⟩
      refine hK.out _ _ hq (fun _ => ?_)
      clear hK K
      try simp only [Act.put, List.setIfInBounds_toArray, List.set_cons_zero, List.set_cons_succ]
      rw [hgoe] at hz hgo ⊢
      rw [HWz] at hz hq hszz ⊢
      refine wpAnyH_ready (rs := [2]) (by kernel_rfl) (by simp) ?_
      refine AllReadyH.cons rfl (fun K hK => ?_) (AllReadyH.nil)
      · go_simp
        refine (cloneSection_any l.As l.cs _ (HQL.out _ hq).secs HnS.out).mono ?_
        rintro e w16 ⟨v, rfl, oS, hB16⟩
        obtain ⟨AS, kS, rfl, _⟩ := owns_read oS
        have bS := owns_block oS
        have hz := hz.below hB16 hz.lt
        have hsz16 := hB16.size
        have hq := HQ.out _ _ hq hB16
        refine hK.out _ _ hq (fun _ => ?_)
        clear hK K
        try simp only [Act.put, List.setIfInBounds_toArray, List.set_cons_zero, List.set_cons_succ]
        refine wpAnyH_ready (rs := [5]) (by kernel_rfl) (by simp) ?_
        refine AllReadyH.cons rfl (fun K hK => ?_) (AllReadyH.nil)
        · go_simp
          refine (cloneSignal_any l.Ag l.cg _ (HQL.out _ hq).sigs HnG.out).mono ?_
          rintro e w17 ⟨v, rfl, oG, hB17⟩
          obtain ⟨AG, kG, rfl, _⟩ := owns_read oG
          have bG := owns_block oG
          have oS := owns_keep oS hB17
          have hz := hz.below hB17 hz.lt
          have hsz17 := hB17.size
          have hq := HQ.out _ _ hq hB17
          refine hK.out _ _ hq (fun _ => ?_)
          clear hK K
          try simp only [Act.put, List.setIfInBounds_toArray, List.set_cons_zero, List.set_cons_succ]
          refine wpAnyH_ready (rs := [8]) (by kernel_rfl) (by simp) ?_
          refine AllReadyH.cons rfl (fun K hK => ?_) (AllReadyH.nil)
          · go_simp
            refine (cloneExit_any l.Ae l.ce _ (HQL.out _ hq).exits HnE.out).mono ?_
            rintro e w18 ⟨v, rfl, oE, hB18⟩
            obtain ⟨AE, kE, rfl, _⟩ := owns_read oE
            have bE := owns_block oE
            have oS := owns_keep oS hB18
            have oG := owns_keep oG hB18
            have hz := hz.below hB18 hz.lt
            have hsz18 := hB18.size
            have hq := HQ.out _ _ hq hB18
            refine hK.out _ _ hq (fun _ => ?_)
            clear hK K
            try simp only [Act.put, List.setIfInBounds_toArray, List.set_cons_zero, List.set_cons_succ]
            refine wpAnyH_ready (rs := [11]) (by kernel_rfl) (by simp) ?_
            refine AllReadyH.cons rfl (fun K hK => ?_) (AllReadyH.nil)
            · go_simp
              refine (cloneFlank_any l.Af l.cf _ (HQL.out _ hq).flanks HnF.out).mono ?_
              rintro e w19 ⟨v, rfl, oF, hB19⟩
              obtain ⟨AF, kF, rfl, _⟩ := owns_read oF
              have bF := owns_block oF
              have oS := owns_keep oS hB19
              have oG := owns_keep oG hB19
              have oE := owns_keep oE hB19
              have hz := hz.below hB19 hz.lt
              have hsz19 := hB19.size
              have hq := HQ.out _ _ hq hB19
              refine hK.out _ _ hq (fun _ => ?_)
              clear hK K
              try simp only [Act.put, List.setIfInBounds_toArray, List.set_cons_zero, List.set_cons_succ]
              refine wpAnyH_take (i := 14) (oi := ⟨some 20, _, _, _, _, _⟩) (v := .agg #[.slice AS l.secs.length kS, .slice AG l.sigs.length kG, .slice AE l.exits.length kE, .slice AF l.flanks.length kF, .int .i64 l.t0, .int .i64 l.t1, .int .i64 l.t2, .int .i64 l.t3, .int .i64 l.t4, .int .i64 l.t5, .int .i64 l.t6]) rfl (by kernel_rfl) (by kernel_rfl) (by kernel_rfl) (fun _ _ _ h => h) (Or.inl ⟨rfl, fun w hS => by go_simp⟩) hq ?_
              simp only [Act.put, List.setIfInBounds_toArray, List.set_cons_zero, List.set_cons_succ]
              refine wpAnyH_ready (rs := [16]) (by kernel_rfl) (by simp) ?_
              refine AllReadyH.cons rfl (fun K hK => ?_) AllReadyH.nil
              have f0 := hz.frozen 0
              have z0 := hz.cell_at 0 rfl
              have f1 := hz.frozen 1
              have z1 := hz.cell_at 1 rfl
              have f2 := hz.frozen 2
              have z2 := hz.cell_at 2 rfl
              have f3 := hz.frozen 3
              have z3 := hz.cell_at 3 rfl
              have f4 := hz.frozen 4
              have z4 := hz.cell_at 4 rfl
              have f5 := hz.frozen 5
              have z5 := hz.cell_at 5 rfl
              have f6 := hz.frozen 6
              have z6 := hz.cell_at 6 rfl
              have f7 := hz.frozen 7
              have z7 := hz.cell_at 7 rfl
              have f8 := hz.frozen 8
              have z8 := hz.cell_at 8 rfl
              have f9 := hz.frozen 9
              have z9 := hz.cell_at 9 rfl
              have f10 := hz.frozen 10
              have z10 := hz.cell_at 10 rfl
              go_simp
              clear f0 z0
              clear f1 z1
              clear f2 z2
              clear f3 z3
              clear f4 z4
              clear f5 z5
              clear f6 z6
              clear f7 z7
              clear f8 z8
              clear f9 z9
              clear f10 z10
              refine hK.out _ _ (HQo.out _ go _ _ _ _ _ _ _ _ _ _ _ hgo hq) (fun _ => ?_)
              refine wpAnyH_done (by kernel_rfl) ?_ _
              go_wp2_with fail
              go_meet
              case rel =>
                exact ⟨go, AS, kS, AG, kG, AE, kE, AF, kF, rfl, own_mid hgo hz (owns_row2 oS) (owns_row2 oG) (owns_row2 oF) (owns_base oE (by have := HQs.out _ hq0; omega)) (fun a ha => by have h1 := bS a ha; have h2 := HQs.out _ hq0; omega) (fun a ha => by have h1 := bG a ha; have h2 := HQs.out _ hq0; omega) (fun a ha => by have h1 := bF a ha; have h2 := HQs.out _ hq0; omega)
                  (fun a ha => by have h1 := bE a ha; exact ⟨by omega, fun b hb => by have := bS b hb; omega, fun b hb => by have := bG b hb; omega, fun b hb => by have := bF b hb; omega⟩) (HQr.out _ hq) (HQb.out _ hq)⟩
  case rest =>
    obtain ⟨go, AS, kS, AG, kG, AE, kE, AF, kF, rfl, hM⟩ := hcut
    have hM := hM.loop hL
    have x2 := hM.own.cell_at 2 rfl
    go_wp2_with fail
    clear x2
    go_loopw [24] (fun i wr => ∃ (j : Nat) (ex : List Exm), j ≤ l.exits.length ∧ i = .int .i64 j ∧ OwnLoop w l go AS kS AG kG AE kE AF kF ex wr)
      (fun i _ => l.exits.length - (intOf i).toNat)
    case atStart => exact ⟨0, l.exits, by omega, rfl, hM⟩
    case round =>
      clear hM
      obtain ⟨j, ex, hj, rfl, hM⟩ := hrel
      by_cases hlt : j < l.exits.length
      · have hlt' : (j : Int) < l.exits.length := by omega
        have hnb : (l.exits.length : Int) ≤ 9223372036854775807 := hL.nE
        obtain ⟨x, hx⟩ : ∃ x, ex[j]? = some x := ⟨_, List.getElem?_eq_getElem (by rw [hM.len]; exact hlt)⟩
        have HX := Lib.hid hx
        have HM := Lib.hid hM
        have hxl : Hid (x.over.length ≤ 1000) := Lib.hid (by
          have h1 : x.pure ∈ l.exits.map Exm.pure := by rw [← hM.pure]; exact List.mem_map_of_mem (List.mem_of_getElem? hx)
          obtain ⟨y, hy, e⟩ := List.mem_map.1 h1
          have h2 := hnO y hy
          have h3 : y.over = x.over := congrArg (fun p => p.2.2) e
          rw [← h3]; exact h2)
        have HOv := Lib.hid (hM.overs x (List.mem_of_getElem? hx))
        cases AE with
        | none => have := HM.out.nil rfl; subst this; simp at hx
        | some a =>
        obtain ⟨gE, tail, rfl, hgl, hW⟩ := hM.blk _ rfl
        have hat : ∀ k v, (Exm.cells x)[k]? = some v → wr.cell? ⟨gE, j * 3 + k, none⟩ = some v := fun k v hv => hW.cell_at _ (by
          have h1 := flat_at Exm.cells 3 (fun _ => rfl) ex j x k v HX.out hv
          rw [List.getElem?_append_left (List.getElem?_eq_some_iff.1 h1).1]
          exact h1)
        have c0 := hat 0 _ rfl
        have c1 := hat 1 _ rfl
        have c2 := hat 2 _ rfl
        simp only [Nat.add_zero] at c0
        clear hat hx hM hW
        go_wp2_with fail
        obtain ⟨Wx, hWx, hBx, hxx, hox⟩ : ∃ Wx, wr.alloc (.cells #[.int .i64 x.s, .int .i64 x.q, .slice x.A x.over.length x.c] 53) = Wx ∧ Below wr.heap.size wr Wx ∧ Whole Wx wr.heap.size 53 x.cells ∧ Whole Wx go 29 [.slice AS l.secs.length kS, .slice AG l.sigs.length kG, .slice (some ⟨gE, 0, none⟩) l.exits.length kE, .slice AF l.flanks.length kF, .int .i64 l.t0, .int .i64 l.t1, .int .i64 l.t2, .int .i64 l.t3, .int .i64 l.t4, .int .i64 l.t5, .int .i64 l.t6] :=
          ⟨_, rfl, below1 _ _, Whole.new wr _ x.cells, HM.out.own.alloc _⟩
        rw [hWx]
        clear hWx c0 c1 c2
        obtain ⟨R, HR, HRx, HRo, HRb, hr0⟩ : ∃ R : World → Prop, Hid (∀ W W', R W → Below W.heap.size W W' → R W') ∧ Hid (∀ W, R W → Whole W wr.heap.size 53 x.cells) ∧ Hid (∀ W, R W → Whole W go 29 [.slice AS l.secs.length kS, .slice AG l.sigs.length kG, .slice (some ⟨gE, 0, none⟩) l.exits.length kE, .slice AF l.flanks.length kF, .int .i64 l.t0, .int .i64 l.t1, .int .i64 l.t2, .int .i64 l.t3, .int .i64 l.t4, .int .i64 l.t5, .int .i64 l.t6]) ∧ Hid (∀ W v, R W → R (W.setCell ⟨gE, j * 3 + 2, none⟩ v)) ∧ R Wx.drew := by
          have hne := (HM.out.apart _ rfl).1
          have hgE := (HM.out.blk _ rfl)
          obtain ⟨g', tl, e, _, hWg⟩ := hgE
          cases e
          have hlt := hWg.lt
          exact ⟨fun W => Whole W wr.heap.size 53 x.cells ∧ Whole W go 29 [.slice AS l.secs.length kS, .slice AG l.sigs.length kG, .slice (some ⟨gE, 0, none⟩) l.exits.length kE, .slice AF l.flanks.length kF, .int .i64 l.t0, .int .i64 l.t1, .int .i64 l.t2, .int .i64 l.t3, .int .i64 l.t4, .int .i64 l.t5, .int .i64 l.t6], Lib.hid ((Closed.whole _ _ _).and (Closed.whole _ _ _)), Lib.hid (fun _ h => h.1), Lib.hid (fun _ h => h.2), Lib.hid (fun W v h => ⟨h.1.far (p := ⟨gE, j * 3 + 2, none⟩) (by show wr.heap.size ≠ gE; omega) v, h.2.far (p := ⟨gE, j * 3 + 2, none⟩) (fun e => hne e.symm) v⟩), hxx, hox⟩
        refine wp_region_held_drew (S := R) (by kernel_rfl) hr0 (fun _ => ?_)
        have hBd := hBx.drew
        obtain ⟨Wd, hWd⟩ : ∃ Wd, Wx.drew = Wd := ⟨_, rfl⟩
        rw [hWd] at hr0 hBd ⊢
        clear hWd hxx hox hBx
        have hq := hr0
        refine wpAnyH_take (i := 0) (oi := ⟨some 29, _, _, _, _, _⟩) (v := .pointer (some ⟨go, 2, none⟩)) rfl (by kernel_rfl) (by kernel_rfl) (by kernel_rfl) (fun _ _ _ h => h) (Or.inl ⟨rfl, fun w hS => rfl⟩) hq ?_
        simp only [Act.put, List.setIfInBounds_toArray, List.set_cons_zero, List.set_cons_succ]
        refine wpAnyH_take (i := 1) (oi := ⟨some 30, _, _, _, _, _⟩) (v := .slice (some ⟨gE, 0, none⟩) l.exits.length kE) rfl (by kernel_rfl) (by kernel_rfl) (by kernel_rfl) (fun _ _ _ h => h) (Or.inl ⟨rfl, fun W hW => by have m1 := HRo.out _ hW; have x0 := m1.cell_at 0 rfl; have x1 := m1.cell_at 1 rfl; have x2 := m1.cell_at 2 rfl; have x3 := m1.cell_at 3 rfl; have x4 := m1.cell_at 4 rfl; have x5 := m1.cell_at 5 rfl; have x6 := m1.cell_at 6 rfl; have x7 := m1.cell_at 7 rfl; have x8 := m1.cell_at 8 rfl; have x9 := m1.cell_at 9 rfl; have x10 := m1.cell_at 10 rfl; clear m1; go_simp⟩) hq ?_
        simp only [Act.put, List.setIfInBounds_toArray, List.set_cons_zero, List.set_cons_succ]
        refine wpAnyH_take (i := 2) (oi := ⟨some 31, _, _, _, _, _⟩) (v := .int .i64 (j : Int)) rfl (by kernel_rfl) (by kernel_rfl) (by kernel_rfl) (fun _ _ _ h => h) (Or.inl ⟨rfl, fun w hS => rfl⟩) hq ?_
        simp only [Act.put, List.setIfInBounds_toArray, List.set_cons_zero, List.set_cons_succ]
        refine wpAnyH_take (i := 3) (oi := ⟨some 32, _, _, _, _, _⟩) (v := .pointer (some ⟨wr.heap.size, 2, none⟩)) rfl (by kernel_rfl) (by kernel_rfl) (by kernel_rfl) (fun _ _ _ h => h) (Or.inl ⟨rfl, fun w hS => rfl⟩) hq ?_
        simp only [Act.put, List.setIfInBounds_toArray, List.set_cons_zero, List.set_cons_succ]
        refine wpAnyH_take (i := 4) (oi := ⟨some 33, _, _, _, _, _⟩) (v := .slice x.A x.over.length x.c) rfl (by kernel_rfl) (by kernel_rfl) (by kernel_rfl) (fun _ _ _ h => h) (Or.inl ⟨rfl, fun W hW => by have m1 := HRx.out _ hW; have y0 := m1.cell_at 0 rfl; have y1 := m1.cell_at 1 rfl; have y2 := m1.cell_at 2 rfl; clear m1; go_simp⟩) hq ?_
        simp only [Act.put, List.setIfInBounds_toArray, List.set_cons_zero, List.set_cons_succ]
        refine wpAnyH_ready (rs := [5]) (by kernel_rfl) (by simp) ?_
        refine AllReadyH.cons rfl (fun K hK => ?_) AllReadyH.nil
        go_simp
        refine (cloneStep_any x.A x.c _ (HOv.out.on hBd) hxl.out).mono ?_
        rintro e w3 ⟨v, rfl, hown, hB3⟩
        obtain ⟨An, cn, rfl, _⟩ := owns_read hown
        have hq := HR.out _ _ hq hB3
        have hBw := hBd.trans (hB3.mono hBd.size)
        have HNx := Lib.hid (HM.out.next HX.out rfl hBw (owns_base hown hBd.size))
        refine hK.out _ _ hq (fun _ => ?_)
        clear hK K hown hr0
        try simp only [Act.put, List.setIfInBounds_toArray, List.set_cons_zero, List.set_cons_succ]
        refine wpAnyH_take (i := 6) (oi := ⟨some 35, _, _, _, _, _⟩) (v := .pointer (some ⟨gE, j * 3, none⟩)) rfl (by kernel_rfl) (by kernel_rfl) (by kernel_rfl) (fun _ _ _ h => h) (Or.inl ⟨rfl, fun w hS => by go_simp⟩) hq ?_
        simp only [Act.put, List.setIfInBounds_toArray, List.set_cons_zero, List.set_cons_succ]
        refine wpAnyH_take (i := 7) (oi := ⟨some 36, _, _, _, _, _⟩) (v := .pointer (some ⟨gE, j * 3 + 2, none⟩)) rfl (by kernel_rfl) (by kernel_rfl) (by kernel_rfl) (fun _ _ _ h => h) (Or.inl ⟨rfl, fun w hS => by go_simp⟩) hq ?_
        simp only [Act.put, List.setIfInBounds_toArray, List.set_cons_zero, List.set_cons_succ]
        refine wpAnyH_ready (rs := [8]) (by kernel_rfl) (by simp) ?_
        refine AllReadyH.cons rfl (fun K hK => ?_) AllReadyH.nil
        obtain ⟨g', tl, e, _, hWg⟩ := HM.out.blk _ rfl
        cases e
        have hWg3 := hWg.below hBw hWg.lt
        have f0 := hWg3.frozen (j * 3 + 2)
        obtain ⟨v0, hv0⟩ : ∃ v0, w3.cell? ⟨gE, j * 3 + 2, none⟩ = some v0 := ⟨_, hWg3.cell_at _ (by
          have h1 := flat_at Exm.cells 3 (fun _ => rfl) ex j x 2 _ HX.out rfl
          rw [List.getElem?_append_left (List.getElem?_eq_some_iff.1 h1).1]
          exact h1)⟩
        clear hWg hWg3
        go_simp
        refine hK.out _ _ (HRb.out _ _ hq) (fun _ => ?_)
        refine wpAnyH_done (by kernel_rfl) ?_ _
        clear hv0 f0 hK K
        go_wp2_with fail
        go_roundw
        case rel => exact ⟨j + 1, _, hlt, by go_num, HNx.out⟩
        case measure => simp [intOf]; omega
      · obtain rfl : j = l.exits.length := by omega
        have HM := Lib.hid hM
        have hW := hM.res
        have hO := hM.own
        have x0 := hO.cell_at 0 rfl
        have f0 := hW.frozen 0
        have z0 := hW.cell_at 0 rfl
        have x1 := hO.cell_at 1 rfl
        have f1 := hW.frozen 1
        have z1 := hW.cell_at 1 rfl
        have x2 := hO.cell_at 2 rfl
        have f2 := hW.frozen 2
        have z2 := hW.cell_at 2 rfl
        have x3 := hO.cell_at 3 rfl
        have f3 := hW.frozen 3
        have z3 := hW.cell_at 3 rfl
        have x4 := hO.cell_at 4 rfl
        have f4 := hW.frozen 4
        have z4 := hW.cell_at 4 rfl
        have x5 := hO.cell_at 5 rfl
        have f5 := hW.frozen 5
        have z5 := hW.cell_at 5 rfl
        have x6 := hO.cell_at 6 rfl
        have f6 := hW.frozen 6
        have z6 := hW.cell_at 6 rfl
        have x7 := hO.cell_at 7 rfl
        have f7 := hW.frozen 7
        have z7 := hW.cell_at 7 rfl
        have x8 := hO.cell_at 8 rfl
        have f8 := hW.frozen 8
        have z8 := hW.cell_at 8 rfl
        have x9 := hO.cell_at 9 rfl
        have f9 := hW.frozen 9
        have z9 := hW.cell_at 9 rfl
        have x10 := hO.cell_at 10 rfl
        have f10 := hW.frozen 10
        have z10 := hW.cell_at 10 rfl
        clear hM hO
        go_wp2_with fail
        have hWo := over11_whole (.slice AS l.secs.length kS) (.slice AG l.sigs.length kG) (.slice AE l.exits.length kE) (.slice AF l.flanks.length kF) (.int .i64 l.t0) (.int .i64 l.t1) (.int .i64 l.t2) (.int .i64 l.t3) (.int .i64 l.t4) (.int .i64 l.t5) (.int .i64 l.t6) hW
        have e0 := hWo.cell_at 0 rfl
        have e1 := hWo.cell_at 1 rfl
        have e2 := hWo.cell_at 2 rfl
        have e3 := hWo.cell_at 3 rfl
        have e4 := hWo.cell_at 4 rfl
        have e5 := hWo.cell_at 5 rfl
        have e6 := hWo.cell_at 6 rfl
        have e7 := hWo.cell_at 7 rfl
        have e8 := hWo.cell_at 8 rfl
        have e9 := hWo.cell_at 9 rfl
        have e10 := hWo.cell_at 10 rfl
        refine bodyPost_ret (v := .agg #[.slice AS l.secs.length kS, .slice AG l.sigs.length kG, .slice AE l.exits.length kE, .slice AF l.flanks.length kF, .int .i64 l.t0, .int .i64 l.t1, .int .i64 l.t2, .int .i64 l.t3, .int .i64 l.t4, .int .i64 l.t5, .int .i64 l.t6]) (by simp [results, Tryd.f22, go_sem, e0, e1, e2, e3, e4, e5, e6, e7, e8, e9, e10]) rfl ?_
        exact own_end HM.out hL
end Go.Proofs.YtbalcbnlpgekaaaDoor
