/- A layout's copy whose rows are all of the call's own. The document's own layer 6: Own. One number out of its bounds: whose numbers may not be; a copy's cells that are filled anew. A copy that is turned at one place: its rows are of the call's own still. The walk of LayoutOne: a layout with one number out of its bounds may not be. -/
import Derived.Test.YtegflmaobmibnaaGreatDoorQGen
import Derived.Test.YtegflmaobmibnaaGreatDoorQC
import Derived.Deep.CutRange
import Derived.Deep.CutBlock
namespace Go.Proofs.YtegflmaobmibnaaGreatDoor
open Go.RowKit Go.Shelf
set_option linter.unusedVariables false
set_option linter.unusedSimpArgs false

section
variable {P : Program} {α : Type} {f : α → List Value} {size : Nat}
theorem flat_none (hf : ∀ x, (f x).length = size) (hsz : 0 < size) {w : World} {B : Nat} {l : List α} (hr : Row w B none (l.flatMap f)) : l = [] := by
  cases l with
  | nil => rfl
  | cons x l =>
    obtain ⟨b, off, e, _⟩ := hr (by rw [List.flatMap_cons, List.length_append, hf]; omega)
    cases e
theorem appendG (hf : ∀ x, (f x).length = size) (one : ∀ x, ∀ u ∈ f x, u.oneCell' = true) (t e : TypeId) (z : Value) (bytes : Nat) (ht : P.underlying t = some (.slice e)) (hi : (P.info? e).map (fun i => (i.zero, i.size, i.bytes)) = some (some z, size, bytes)) (hz : z.cells.size = size) (hsz : 0 < size) (hby : bytes ≤ 100)
    (base n : Nat) (v : Value) (xs : List Value) (l : List α) (A : Option Addr) (c B : Nat) (w : World) (hown : w.ownsRow base e size v n xs) (hv : v ≠ .slice none 0 0 ∨ A ≠ none) (hr : Row w B A (l.flatMap f)) (hn : n ≤ 1000) (hl : l.length ≤ 1000) (hbase : base ≤ w.heap.size) :
    ∃ v' w', (Builtin.append_ #[t, t] t #[v, .slice A l.length c]).run P w = .ok v' w' ∧ w'.ownsRow base e size v' (n + l.length) (xs ++ l.flatMap f) ∧ w.grownBy w' v.ownBlock := by
  obtain ⟨i, i1, i2, i3, i4⟩ := info_parts hi
  cases A with
  | none =>
    obtain rfl := flat_none hf hsz hr
    rcases hown.2 with ⟨h, _⟩ | ⟨g, cap, cur, rfl, h3, h4, h5, h6, h7, h8⟩
    · rcases hv with hv | hv
      · exact absurd h hv
      · exact absurd rfl hv
    · exact ⟨_, w, append_none w t t e i ht i1 g n cap c h5, by simpa using hown, World.grownBy.refl _ _⟩
  | some a =>
    have hb : (n + l.length) * bytes ≤ 2000 * 100 := Nat.mul_le_mul (by omega) hby
    obtain ⟨v', w', r1, r2, r3, r4, r5⟩ := run_append_own_at (P := P) w base t t e i z size bytes ht i1 i2 i3 i4 hz hsz v n xs hown a l.length c (l.flatMap f) (flat_length hf l) (row_add hr) (fun u hu => by
      obtain ⟨x, _, hx⟩ := List.mem_flatMap.1 hu
      exact one x u hx) (by unfold maxLen; omega) (by omega) hbase
    exact ⟨v', w', r1, r2, r3⟩
end
theorem exec_append {P : Program} {o : Oper} {a : Act} {w w' : World} (s x : Operand) (t : TypeId) (ho : o.op = .call { callee := .builtin .append, args := #[s, x], argTypes := #[t, t] }) {v' : Value}
    (hrun : (Builtin.append_ #[t, t] o.type #[a.eval s, a.eval x]).run P w = .ok v' w') : (execOp a.eval o).run P w = .ok (.value v') w' := by
  unfold execOp
  simp only [ho, resolve, invoke, builtin, Sem.run_bind, Sem.run_pure, Result.andThen_ok, List.map_toArray, List.map_cons, List.map_nil, hrun]
theorem owns_apart {W : World} {b e s n b' e' s' n' : Nat} {v v' : Value} {xs xs' : List Value} (h : W.ownsRow b e s v n xs) (k : W.ownsRow b' e' s' v' n' xs') (he : e ≠ e') : v.ownBlock = none ∨ v.ownBlock ≠ v'.ownBlock := by
  rcases h.2 with ⟨rfl, _⟩ | ⟨g, cap, cur, rfl, h3, h4, _⟩
  · exact .inl rfl
  · refine .inr ?_
    rcases k.2 with ⟨rfl, _⟩ | ⟨g', cap', cur', rfl, k3, k4, _⟩
    · intro e; cases e
    · intro e
      have : g = g' := by simpa [Value.ownBlock] using e
      subst this
      rw [h4] at k4
      cases k4
      exact he rfl
/-- What is owned is owned behind a store below. -/
theorem owns_set {w : World} {base e size n B : Nat} {v : Value} {xs : List Value} (h : w.ownsRow base e size v n xs) {p : Addr} (hp : p.block < base) (u : Value) : (w.setCell p u).ownsRow base e size v n xs :=
  h.kept (row := some p.block) ⟨rfl, rfl, rfl, by simp [World.setCell], fun k _ hk => Below.heap_setCell _ _ _ _ (fun e => hk (by rw [e]))⟩ (by
    rcases h.2 with ⟨rfl, _⟩ | ⟨g, cap, cur, rfl, h3, _⟩
    · exact .inl rfl
    · refine .inr (fun e => ?_)
      have : g = p.block := by simpa [Value.ownBlock] using e
      omega)

/-- All rows of a layout are of the call's own. -/
structure Owned (n0 : Nat) (m : Lay) (W : World) : Prop where
  secs : W.ownsRow n0 70 11 (.slice m.As m.secs.length m.cs) m.secs.length (m.secs.flatMap Sec.cells)
  sigs : W.ownsRow n0 72 2 (.slice m.Ag m.sigs.length m.cg) m.sigs.length (m.sigs.flatMap prtCells)
  exits : W.ownsRow n0 51 3 (.slice m.Ae m.exits.length m.ce) m.exits.length (m.exits.flatMap Exm.cells)
  flanks : W.ownsRow n0 76 4 (.slice m.Af m.flanks.length m.cf) m.flanks.length (m.flanks.flatMap flkCells)
  overs : ∀ x ∈ m.exits, W.ownsRow n0 74 3 (.slice x.A x.over.length x.c) x.over.length (x.over.flatMap stpCells)
theorem Owned.keep {n0 : Nat} {m : Lay} {W W' : World} (h : Owned n0 m W) (hb : Below W.heap.size W W') : Owned n0 m W' :=
  ⟨owns_keep h.secs hb, owns_keep h.sigs hb, owns_keep h.exits hb, owns_keep h.flanks hb, fun x hx => owns_keep (h.overs x hx) hb⟩
theorem Owned.closed (n0 : Nat) (m : Lay) : Closed (Owned n0 m) := fun w w' h hb => h.keep hb
theorem Owned.set {n0 : Nat} {m : Lay} {W : World} (h : Owned n0 m W) {p : Addr} (hp : p.block < n0) (u : Value) : Owned n0 m (W.setCell p u) :=
  ⟨owns_set (B := 0) h.secs hp u, owns_set (B := 0) h.sigs hp u, owns_set (B := 0) h.exits hp u, owns_set (B := 0) h.flanks hp u, fun x hx => owns_set (B := 0) (h.overs x hx) hp u⟩
theorem Owned.lies {n0 : Nat} {m : Lay} {W : World} (h : Owned n0 m W) (hk : ∀ s ∈ m.secs, 0 ≤ s.k ∧ s.k ≤ 255) (h1 : m.secs.length ≤ 1001) (h2 : m.sigs.length ≤ 1001) (h3 : m.exits.length ≤ 1001) (h4 : m.flanks.length ≤ 1001) (h5 : ∀ x ∈ m.exits, x.over.length ≤ 1001) : Lies m W :=
  ⟨owns_row2 h.secs, owns_row2 h.sigs, owns_row2 h.exits, owns_row2 h.flanks, fun x hx => owns_row2 (h.overs x hx), hk, by omega, by omega, by omega, by omega, fun x hx => by have := h5 x hx; omega⟩
theorem Owned.base {n0 n1 : Nat} {m : Lay} {W : World} (h : Owned n0 m W) (hn : n1 ≤ n0) : Owned n1 m W :=
  ⟨owns_base h.secs hn, owns_base h.sigs hn, owns_base h.exits hn, owns_base h.flanks hn, fun x hx => owns_base (h.overs x hx) hn⟩

/-- Within the document's own Own: what came in stands; the copy's own cells; the result's. -/
structure St (w : World) (cs : List Value) (W : World) : Prop where
  below : Below w.heap.size w W
  box : Whole W w.heap.size 29 cs
  res : Whole W (w.heap.size + 1) 29 [.slice none 0 0, .slice none 0 0, .slice none 0 0, .slice none 0 0, .int .i64 0, .int .i64 0, .int .i64 0, .int .i64 0, .int .i64 0, .int .i64 0, .int .i64 0]
theorem St.keep {w W W' : World} {cs : List Value} (h : St w cs W) (hb : Below W.heap.size W W') : St w cs W' :=
  ⟨h.below.trans (hb.mono h.below.size), h.box.below hb h.box.lt, h.res.below hb h.res.lt⟩
theorem St.closed (w : World) (cs : List Value) : Closed (St w cs) := fun W W' h hb => h.keep hb
theorem St.size {w W : World} {cs : List Value} (h : St w cs W) : w.heap.size + 2 ≤ W.heap.size := h.res.lt
theorem St.store {w W : World} {cs : List Value} (h : St w cs W) (i : Nat) (v : Value) : St w (cs.set i v) (W.setCell ⟨w.heap.size, i, none⟩ v) :=
  ⟨h.below.setCell (p := ⟨w.heap.size, i, none⟩) (Nat.le_refl _) v, h.box.set i v, h.res.far (p := ⟨w.heap.size, i, none⟩) (by show w.heap.size + 1 ≠ w.heap.size; omega) v⟩
theorem St.grown {w W W' : World} {cs : List Value} (h : St w cs W) {r : Option Nat} (hg : W.grownBy W' r) (hr : ∀ k, r = some k → w.heap.size + 2 ≤ k) : St w cs W' :=
  ⟨h.below.grown hg h.below.size (fun k e => by have := hr k e; omega), h.box.kept hg (fun e => by have := hr _ e.symm; omega), h.res.kept hg (fun e => by have := hr _ e.symm; omega)⟩

section
variable {P : Program} {ops : Array Oper} {B S : World → Prop} {L : (World → Prop) → Act → Prop} {o : Oper} {l : List (Oper × Bool)} {a : Act}
theorem mix_yield {X : Type} (val : X → Value) (S' : X → World → Prop) (hF' : ∀ x, Fam B (S' x)) (hw : Region.wanted o (yielded ops a.tmps) = true) (hv : ∀ w, S w → ∃ x w', (execOp a.eval o).run P w = .ok (.value (val x)) w' ∧ S' x w')
    (h : ∀ x, wpMix P ops (Fam B) L l (S' x) (a.put o.dst (val x))) : wpMix P ops (Fam B) L ((o, true) :: l) S a :=
  ⟨hw, fun w hS => by
    obtain ⟨x, w', hr, hs⟩ := hv w hS
    unfold Oper.wp
    rw [hr]
    exact ⟨val x, S' x, rfl, hF' x, hs, h x⟩⟩
theorem mix_make (val : Nat → Value) (n : Nat) (t : TypeId) (zs : List Value) (hF : Fam B S) (hn : ∀ w, S w → n ≤ w.heap.size) (hw : Region.wanted o (yielded ops a.tmps) = true)
    (hv : ∀ w, S w → (execOp a.eval o).run P w = .ok (.value (val w.heap.size)) (w.alloc (.cells zs.toArray t)))
    (h : ∀ g, n ≤ g → wpMix P ops (Fam B) L l (fun w => S w ∧ Whole w g t zs) (a.put o.dst (val g))) : wpMix P ops (Fam B) L ((o, true) :: l) S a :=
  ⟨hw, fun w hS => by
    unfold Oper.wp
    rw [hv w hS]
    exact ⟨_, _, rfl, ⟨hF.1.and (Closed.whole _ _ _), fun w hw => hF.2 w hw.1⟩, ⟨hF.1 _ _ hS (below1 w _), Whole.new w t zs⟩, h _ (hn w hS)⟩⟩
end
end Go.Proofs.YtegflmaobmibnaaGreatDoor
namespace Go.Proofs.YtegflmaobmibnaaGreatDoor
open Go.RowKit Go.Shelf
set_option linter.unusedVariables false
set_option linter.unusedSimpArgs false

end Go.Proofs.YtegflmaobmibnaaGreatDoor
namespace Go.Proofs.YtegflmaobmibnaaGreatDoor
open Go.RowKit Go.Shelf
set_option linter.unusedVariables false
set_option linter.unusedSimpArgs false

end Go.Proofs.YtegflmaobmibnaaGreatDoor
namespace Go.Proofs.YtegflmaobmibnaaGreatDoor
open Go.RowKit Go.Shelf
set_option linter.unusedVariables false
set_option linter.unusedSimpArgs false

end Go.Proofs.YtegflmaobmibnaaGreatDoor
namespace Go.Proofs.YtegflmaobmibnaaGreatDoor
open Go.RowKit Go.Shelf
set_option linter.unusedVariables false
set_option linter.unusedSimpArgs false

end Go.Proofs.YtegflmaobmibnaaGreatDoor
