/- Package topo: is an exit's overlap one? -/
import Derived.Deep.CutRange
import Derived.Test.YtiknjkgioiknnaaDoorQH
import Derived.Test.YtiknjkgioiknnaaDoorQLayOneM
import Derived.Test.YtiknjkgioiknnaaDoorQL
import Derived.Test.YtiknjkgioiknnaaDoorQA
namespace Go.Proofs.YtiknjkgioiknnaaDoor
open Go.RowKit Go.Shelf
set_option linter.unusedVariables false
set_option linter.unusedSimpArgs false

theorem idx_contains (l : List Int) (v : Int) : (decide (0 ≤ idxV (fun x => v == x) l)) = l.contains v := by
  rw [Bool.eq_iff_iff, decide_eq_true_eq, List.contains_iff_mem]
  unfold idxV
  cases e : l.findIdx? (fun x => v == x) with
  | none =>
    simp only [List.findIdx?_eq_none_iff] at e
    constructor
    · intro h
      simp at h
    · intro h
      have := e v h
      simp at this
  | some i =>
    obtain ⟨hi, hp, _⟩ := List.findIdx?_eq_some_iff_getElem.1 e
    constructor
    · intro _
      have : v = l[i] := by simpa using hp
      rw [this]
      exact List.getElem_mem hi
    · intro _
      simp
/-- What a round of overRight knows: where it stands, what it went through. -/
structure OvI (l : Lay) (x : Exm) (w : World) (gf : Nat) (p : Int × Int) (A : Option Addr) (c : Nat) (seen : List Int) (W : World) : Prop where
  below : Below w.heap.size w W
  boxL : Whole W w.heap.size 29 l.cells
  boxX : Whole W (w.heap.size + 1) 48 x.cells
  boxF : Whole W gf 31 (prtCells p)
  low : w.heap.size + 2 ≤ gf
  own : W.ownsRow (w.heap.size + 2) 3 1 (.slice A seen.length c) seen.length (nums .i64 seen)
theorem OvI.keep {l : Lay} {x : Exm} {w W W' : World} {gf : Nat} {p : Int × Int} {A : Option Addr} {c : Nat} {seen : List Int} (h : OvI l x w gf p A c seen W) (hb : Below W.heap.size W W') : OvI l x w gf p A c seen W' :=
  ⟨h.below.trans (hb.mono h.below.size), h.boxL.below hb h.boxL.lt, h.boxX.below hb h.boxX.lt, h.boxF.below hb h.boxF.lt, h.low, owns_keep h.own hb⟩
theorem OvI.closed (l : Lay) (x : Exm) (w : World) (gf : Nat) (p : Int × Int) (A : Option Addr) (c : Nat) (seen : List Int) : Closed (OvI l x w gf p A c seen) := fun _ _ h hb => h.keep hb

theorem owns_one {W : World} {base g : Nat} {e : TypeId} {v : Value} (h : Whole W g e [v]) (hb : base ≤ g) : W.ownsRow base e 1 (.slice (some ⟨g, 0, none⟩) 1 1) 1 [v] :=
  owns_of_whole h hb (Nat.le_refl _) (by unfold maxLen; omega) rfl
theorem OvI.start {l : Lay} {x : Exm} {w W0 W : World} {gf ga : Nat} (hB : Below w.heap.size w W0) (b0 : Whole W0 w.heap.size 29 l.cells) (b1 : Whole W0 (w.heap.size + 1) 48 x.cells) (hsz : W0.heap.size = w.heap.size + 2)
    (hW : Below W0.heap.size W0 W) (hF : Whole W gf 31 (prtCells (x.s, x.q))) (hA : Whole W ga 3 [.int .i64 x.s]) (hf : W0.heap.size ≤ gf) (ha : W0.heap.size ≤ ga) : OvI l x w gf (x.s, x.q) (some ⟨ga, 0, none⟩) 1 [x.s] W :=
  ⟨hB.trans (hW.mono hB.size), b0.below hW b0.lt, b1.below hW b1.lt, hF, by omega, owns_one hA (by omega)⟩
theorem owns_not {W : World} {base e s n g : Nat} {v : Value} {xs : List Value} {t : TypeId} {cs : List Value} (h : W.ownsRow base e s v n xs) (hF : Whole W g t cs) (he : e ≠ t) : v.ownBlock ≠ some g := by
  rcases h.2 with ⟨rfl, _⟩ | ⟨g', cap, cur, rfl, h3, h4, _⟩
  · intro e; cases e
  · intro e
    have : g' = g := by simpa [Value.ownBlock] using e
    subst this
    have h5 := h4.symm.trans hF
    cases h5
    exact he rfl
theorem whole_ne {W : World} {a b : Nat} {t t' : TypeId} {cs cs' : List Value} (h : Whole W a t cs) (k : Whole W b t' cs') (he : t ≠ t') : a ≠ b := by
  rintro rfl
  have h5 := h.symm.trans k
  cases h5
  exact he rfl
theorem owns_past {w : World} {base e size n : Nat} {v : Value} {xs : List Value} (h : w.ownsRow base e size v n xs) {p : Addr} (hp : v.ownBlock ≠ some p.block) (u : Value) : (w.setCell p u).ownsRow base e size v n xs :=
  h.kept (row := some p.block) ⟨rfl, rfl, rfl, by simp [World.setCell], fun k _ hk => Below.heap_setCell _ _ _ _ (fun e => hk (by rw [e]))⟩ (by
    rcases h.2 with ⟨rfl, _⟩ | ⟨g, cap, cur, rfl, h3, _⟩
    · exact .inl rfl
    · exact .inr hp)
/-- A section more is seen. -/
theorem OvI.append {l : Lay} {x : Exm} {w W : World} {gf : Nat} {p : Int × Int} {A : Option Addr} {c : Nat} {seen : List Int} (h : OvI l x w gf p A c seen W) {m : Int} {a : Nat} (ha : Whole W a 3 [.int .i64 m]) (hn : seen.length ≤ 1000) {g : Nat} {cs : List Value} (hg : Whole W g 53 cs) :
    ∃ A' c' w', (Builtin.append_ #[58, 58] 58 #[.slice A seen.length c, .slice (some ⟨a, 0, none⟩) 1 1]).run Tryd.prog W = .ok (.slice A' (seen ++ [m]).length c') w' ∧ OvI l x w gf p A' c' (seen ++ [m]) w' ∧ Whole w' g 53 cs := by
  have hlo : w.heap.size + 2 ≤ W.heap.size := h.boxX.lt
  obtain ⟨v', w', hrun, hown, hgr, hB⟩ := append_int (w.heap.size + 2) seen.length _ (nums .i64 seen) m W a h.own (ha.cell_at 0 rfl) hn hlo
  obtain ⟨A', c', rfl, _, _⟩ := owns_slice hown
  have e : (nums .i64 (seen ++ [m])) = nums .i64 seen ++ [.int .i64 m] := by simp [nums]
  refine ⟨A', c', w', by rw [List.length_append]; exact hrun, ⟨h.below.trans (hB.mono (by omega)), h.boxL.below hB (by omega), h.boxX.below hB (by omega), h.boxF.kept hgr (owns_not h.own h.boxF (by decide)).symm, h.low, ?_⟩, hg.kept hgr (owns_not h.own hg (by decide)).symm⟩
  rw [e, List.length_append]
  exact hown
/-- The port from which it goes on is turned. -/
theorem OvI.store {l : Lay} {x : Exm} {w W : World} {gf : Nat} {p : Int × Int} {A : Option Addr} {c : Nat} {seen : List Int} (h : OvI l x w gf p A c seen W) (a b : Int) : OvI l x w gf (a, b) A c seen ((W.setCell ⟨gf, 0, none⟩ (.int .i64 a)).setCell ⟨gf, 1, none⟩ (.int .i64 b)) := by
  have hl := h.low
  have hb : ∀ v u, Below (w.heap.size + 2) W ((W.setCell ⟨gf, 0, none⟩ v).setCell ⟨gf, 1, none⟩ u) := fun v u => ((Below.refl _ W).setCell (p := ⟨gf, 0, none⟩) hl v).setCell (p := ⟨gf, 1, none⟩) hl u
  have hn := owns_not h.own h.boxF (by decide)
  exact ⟨h.below.trans ((hb _ _).mono (by omega)), h.boxL.below (hb _ _) (by omega), h.boxX.below (hb _ _) (by omega), (h.boxF.set 0 _).set 1 _, h.low, owns_past (p := ⟨gf, 1, none⟩) (owns_past (p := ⟨gf, 0, none⟩) h.own hn _) hn _⟩

end Go.Proofs.YtiknjkgioiknnaaDoor
