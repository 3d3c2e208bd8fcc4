/- A row of a layout with one more: append(append([]T{}, row..), one), whichever of its blocks comes first. -/
import Derived.Test.YtiknjkgioiknnaaDoorQTopoG
import Derived.Test.YtiknjkgioiknnaaDoorQG
import Derived.Test.YtiknjkgioiknnaaDoorQL
namespace Go.Proofs.YtiknjkgioiknnaaDoor
open Go.RowKit Go.Shelf
set_option linter.unusedVariables false
set_option linter.unusedSimpArgs false

/-- The layout's own block; something besides. -/
structure At9 (w2 : World) (gm : Nat) (cs : List Value) (E : World → Prop) (W : World) : Prop where
  below : Below gm w2 W
  box : Whole W gm 29 cs
  ext : E W
theorem At9.closed (w2 : World) (gm : Nat) (cs : List Value) {E : World → Prop} (hE : Closed E) : Closed (At9 w2 gm cs E) := fun W W' h hb =>
  ⟨h.below.trans (hb.mono (Nat.le_of_lt h.box.lt)), h.box.below hb h.box.lt, hE _ _ h.ext hb⟩
/-- It stays where a row of the call's own grows. -/
def Stays9 (gb : Nat) (E : World → Prop) : Prop := ∀ W W' k, E W → W.grownBy W' (some k) → gb ≤ k → E W'
theorem At9.grown {w2 W W' : World} {gm gb k : Nat} {cs : List Value} {E : World → Prop} (hE : Stays9 gb E) (hg : gm < gb) (h : At9 w2 gm cs E W) (hgr : W.grownBy W' (some k)) (hk : gb ≤ k) : At9 w2 gm cs E W' :=
  ⟨h.below.grown hgr (Nat.le_of_lt h.box.lt) (fun j e => by cases e; omega), h.box.kept hgr (by intro e; cases e; omega), hE _ _ _ h.ext hgr hk⟩
theorem whole_diff {W : World} {a b : Nat} {t t' : TypeId} {cs cs' : List Value} (h : Whole W a t cs) (k : Whole W b t' cs') (he : cs.length ≠ cs'.length) : a ≠ b := by
  rintro rfl
  have h5 := h.symm.trans k
  simp only [Option.some.injEq, Obj.cells.injEq] at h5
  exact he (by have := congrArg Array.size h5.1; simpa using this)
section
variable {α : Type} {f : α → List Value} {size : Nat}
theorem app_first (hf : ∀ x, (f x).length = size) (one : ∀ x, ∀ u ∈ f x, u.oneCell' = true) (t e : TypeId) (z : Value) (bytes : Nat) (ht : Tryd.prog.underlying t = some (.slice e)) (hi : (Tryd.prog.info? e).map (fun i => (i.zero, i.size, i.bytes)) = some (some z, size, bytes)) (hz : z.cells.size = size) (hsz : 0 < size) (hby : bytes ≤ 100)
    {w2 W : World} {gm gb g0 : Nat} {cs : List Value} {E : World → Prop} (hE : Stays9 gb E) (hg : gm < gb) (h : At9 w2 gm cs E W) (h0 : Whole W g0 e []) (hg0 : gb ≤ g0) (l : List α) (A : Option Addr) (c : Nat) (hr : Row W W.heap.size A (l.flatMap f)) (hl : l.length ≤ 1000) :
    ∃ A' c' w', (Builtin.append_ #[t, t] t #[.slice (some ⟨g0, 0, none⟩) 0 0, .slice A l.length c]).run Tryd.prog W = .ok (.slice A' l.length c') w' ∧ At9 w2 gm cs E w' ∧ w'.ownsRow gb e size (.slice A' l.length c') l.length (l.flatMap f) ∧ ∀ g1 t1 us, g1 ≠ g0 → Whole W g1 t1 us → Whole w' g1 t1 us := by
  obtain ⟨v', w', h1, h2, h3⟩ := appendG hf one t e z bytes ht hi hz hsz hby gb 0 _ [] l A c W.heap.size W (owns_empty W e gb g0 hg0 h0) (.inl (by simp)) hr (by omega) hl (by have := h0.lt; omega)
  rw [Nat.zero_add, List.nil_append] at h2
  obtain ⟨A', c', rfl, _⟩ := owns_read h2
  exact ⟨A', c', w', h1, h.grown hE hg h3 hg0, h2, fun g1 t1 us hn hw => hw.kept h3 (by intro e; cases e; exact hn rfl)⟩
theorem app_next (hf : ∀ x, (f x).length = size) (one : ∀ x, ∀ u ∈ f x, u.oneCell' = true) (t e : TypeId) (z : Value) (bytes : Nat) (ht : Tryd.prog.underlying t = some (.slice e)) (hi : (Tryd.prog.info? e).map (fun i => (i.zero, i.size, i.bytes)) = some (some z, size, bytes)) (hz : z.cells.size = size) (hsz : 0 < size) (hby : bytes ≤ 100)
    {w2 W : World} {gm gb g1 : Nat} {cs : List Value} {E : World → Prop} (hE : Stays9 gb E) (hg : gm < gb) (h : At9 w2 gm cs E W) {l : List α} {A : Option Addr} {c : Nat} (hown : W.ownsRow gb e size (.slice A l.length c) l.length (l.flatMap f)) (hne : l ≠ []) {y : α} (h1 : Whole W g1 e (f y)) (hg1 : gb ≤ g1) (hl : l.length ≤ 1000) :
    ∃ A' c' w', (Builtin.append_ #[t, t] t #[.slice A l.length c, .slice (some ⟨g1, 0, none⟩) 1 1]).run Tryd.prog W = .ok (.slice A' (l ++ [y]).length c') w' ∧ At9 w2 gm cs E w' ∧ w'.ownsRow gb e size (.slice A' (l ++ [y]).length c') (l ++ [y]).length ((l ++ [y]).flatMap f) := by
  obtain ⟨v', w', h2, h3, h4⟩ := appendG hf one t e z bytes ht hi hz hsz hby gb l.length _ (l.flatMap f) [y] (some ⟨g1, 0, none⟩) 1 (g1 + 1) W hown (.inr (by simp)) (by simpa using h1.row (Nat.lt_succ_self g1)) hl (by simp) (by have := h1.lt; omega)
  have e1 : (l ++ [y]).length = l.length + [y].length := List.length_append
  have e2 : (l ++ [y]).flatMap f = l.flatMap f ++ [y].flatMap f := List.flatMap_append
  rw [← e1, ← e2] at h3
  obtain ⟨A', c', rfl, _⟩ := owns_read h3
  obtain ⟨k, hk⟩ : ∃ k, (Value.slice A l.length c).ownBlock = some k := by
    rcases hown.2 with ⟨ha, hn⟩ | ⟨g, cap, cur, ha, _⟩
    · exact absurd (List.eq_nil_of_length_eq_zero hn) hne
    · exact ⟨g, by rw [ha]; rfl⟩
  rw [hk] at h4
  exact ⟨A', c', w', h2, h.grown hE hg h4 (hown.lt k hk).1, h3⟩
end
/-- The layout's row is turned. -/
theorem At9.store {w2 W : World} {gm gb i : Nat} {cs : List Value} {E : World → Prop} (hE : ∀ W v, E W → E (W.setCell ⟨gm, i, none⟩ v)) (hg : gm < gb) (h : At9 w2 gm cs E W) {e size n : Nat} {v : Value} {xs : List Value} (hown : W.ownsRow gb e size v n xs) (u : Value) :
    At9 w2 gm (cs.set i u) E (W.setCell ⟨gm, i, none⟩ u) ∧ (W.setCell ⟨gm, i, none⟩ u).ownsRow gb e size v n xs :=
  ⟨⟨h.below.setCell (p := ⟨gm, i, none⟩) (Nat.le_refl _) _, h.box.set i u, hE _ _ h.ext⟩, owns_set (B := 0) (p := ⟨gm, i, none⟩) hown hg u⟩
theorem Closed.owns (gb e size n : Nat) (v : Value) (xs : List Value) : Closed fun W => W.ownsRow gb e size v n xs := fun _ _ h hb => owns_keep h hb
end Go.Proofs.YtiknjkgioiknnaaDoor
