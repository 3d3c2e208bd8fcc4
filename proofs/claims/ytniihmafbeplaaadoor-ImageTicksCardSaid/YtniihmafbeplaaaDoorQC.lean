/- Rows of structs of the call's own; slices.Clone at a layout's rows. Package layout: Own. The line of which the document's words are told; what the document says of it (wakes), of layer 6. -/
import Derived.Test.YtniihmafbeplaaaDoorQB
import Derived.Test.YtniihmafbeplaaaDoorGen
import Derived.Deep.CutRange
namespace Go.Proofs.YtniihmafbeplaaaDoor
open Go.RowKit Go.Shelf
set_option linter.unusedVariables false
set_option linter.unusedSimpArgs false

theorem flat_length {α : Type} {f : α → List Value} {n : Nat} (hf : ∀ x, (f x).length = n) : ∀ l : List α, (l.flatMap f).length = l.length * n
  | [] => by simp
  | x :: l => by rw [List.flatMap_cons, List.length_append, hf, flat_length hf l, List.length_cons, Nat.add_mul]; omega
/-- What is owned is owned in whatever grows out of the world. -/
theorem owns_keep {w w' : World} {base e size n : Nat} {v : Value} {xs : List Value} (h : w.ownsRow base e size v n xs) (hb : Below w.heap.size w w') : w'.ownsRow base e size v n xs := by
  refine ⟨h.1, ?_⟩
  rcases h.2 with h2 | ⟨g', cap', cur, hv, h3, h4, r⟩
  · exact .inl h2
  · exact .inr ⟨g', cap', cur, hv, h3, (hb.block g' (Array.getElem?_eq_some_iff.1 h4).1).trans h4, r⟩
theorem owns_base {w : World} {base base' e size n : Nat} {v : Value} {xs : List Value} (h : w.ownsRow base e size v n xs) (hb : base' ≤ base) : w.ownsRow base' e size v n xs := by
  refine ⟨h.1, ?_⟩
  rcases h.2 with h2 | ⟨g', cap', cur, hv, h3, r⟩
  · exact .inl h2
  · exact .inr ⟨g', cap', cur, hv, by omega, r⟩
/-- What is owned, read as a slice. -/
theorem owns_read {w : World} {base e size n : Nat} {v : Value} {xs : List Value} (h : w.ownsRow base e size v n xs) : ∃ A c, v = .slice A n c ∧ Row w w.heap.size A xs := by
  rcases h.2 with ⟨rfl, rfl⟩ | ⟨g, cap, cur, rfl, h3, h4, h5, h6, h7, h8⟩
  · have : xs = [] := List.eq_nil_of_length_eq_zero (by simpa using h.1)
    subst this
    exact ⟨none, 0, rfl, Row.nil _ _ _⟩
  · refine ⟨_, _, rfl, fun hp => ⟨g, 0, rfl, (Array.getElem?_eq_some_iff.1 h4).1, fun j u hu => ?_⟩⟩
    rw [← h8, List.getElem?_take] at hu
    split at hu
    · simpa [World.cell?, h4] using hu
    · cases hu

theorem infoSection : (Tryd.prog.info? 53).map (fun i => (i.zero, i.size, i.bytes)) = some (some (.agg #[.int .u8 0, .int .i64 0, .int .i64 0, .int .i64 0, .int .i64 0, .int .i64 0, .int .i64 0, .int .i64 0, .int .i64 0, .int .i64 0, .int .i64 0]), 11, 88) := by kernel_rfl
theorem oneSection (x : Sec) : ∀ u ∈ Sec.cells x, u.oneCell' = true := by intro u hu; simp at hu; rcases hu with rfl | rfl | rfl | rfl | rfl | rfl | rfl | rfl | rfl | rfl | rfl <;> rfl
/-- append(v, src..), v a row of the call's own, whatever is appended. -/
theorem appendSection (base n m : Nat) (v : Value) (xs : List Value) (l : List (Sec)) (A : Option Addr) (c B : Nat) (w : World) (hown : w.ownsRow base 53 11 v n xs) (hA : A ≠ none) (hr : Row w B A (l.flatMap Sec.cells)) (hm : m = l.length) (hn : n ≤ 1000) (hl : l.length ≤ 1000) (hbase : base ≤ w.heap.size) :
    ∃ v' w', (Builtin.append_ #[22, 22] 22 #[v, .slice A m c]).run Tryd.prog w = .ok v' w' ∧ w'.ownsRow base 53 11 v' (n + m) (xs ++ l.flatMap Sec.cells) ∧ Below base w w' ∧ v' ≠ .slice none 0 0 ∨ v = .slice none 0 0 := by
  subst hm
  obtain ⟨i, i1, i2, i3, i4⟩ := info_parts infoSection
  obtain ⟨a, rfl⟩ : ∃ a, A = some a := Option.ne_none_iff_exists'.1 hA
  obtain ⟨v', w', r1, r2, r3, r4, r5⟩ := run_append_own_at (P := Tryd.prog) w base 22 22 53 i (.agg #[.int .u8 0, .int .i64 0, .int .i64 0, .int .i64 0, .int .i64 0, .int .i64 0, .int .i64 0, .int .i64 0, .int .i64 0, .int .i64 0, .int .i64 0]) 11 88 Tryd.underlying22 i1 i2 i3 i4 rfl (by omega) v n xs hown a l.length c (l.flatMap Sec.cells) (flat_length (n := 11) Sec.len l) (row_add hr) (fun u hu => by
    obtain ⟨x, _, hx⟩ := List.mem_flatMap.1 hu
    exact oneSection x u hx) (by unfold maxLen; omega) (by omega) hbase
  by_cases h0 : v = .slice none 0 0
  · exact ⟨v, w, .inr h0⟩
  · exact ⟨v', w', .inl ⟨r1, r2, (Below.refl base w).grown r3 hbase (fun k e => (hown.lt k e).1), fun e => h0 (r4.1 e).1⟩⟩

theorem infoSignal : (Tryd.prog.info? 75).map (fun i => (i.zero, i.size, i.bytes)) = some (some (.agg #[.int .i64 0, .int .i64 0]), 2, 16) := by kernel_rfl
theorem oneSignal (x : Int × Int) : ∀ u ∈ prtCells x, u.oneCell' = true := by intro u hu; simp at hu; rcases hu with rfl | rfl <;> rfl
/-- append(v, src..), v a row of the call's own, whatever is appended. -/
theorem appendSignal (base n m : Nat) (v : Value) (xs : List Value) (l : List (Int × Int)) (A : Option Addr) (c B : Nat) (w : World) (hown : w.ownsRow base 75 2 v n xs) (hA : A ≠ none) (hr : Row w B A (l.flatMap prtCells)) (hm : m = l.length) (hn : n ≤ 1000) (hl : l.length ≤ 1000) (hbase : base ≤ w.heap.size) :
    ∃ v' w', (Builtin.append_ #[23, 23] 23 #[v, .slice A m c]).run Tryd.prog w = .ok v' w' ∧ w'.ownsRow base 75 2 v' (n + m) (xs ++ l.flatMap prtCells) ∧ Below base w w' ∧ v' ≠ .slice none 0 0 ∨ v = .slice none 0 0 := by
  subst hm
  obtain ⟨i, i1, i2, i3, i4⟩ := info_parts infoSignal
  obtain ⟨a, rfl⟩ : ∃ a, A = some a := Option.ne_none_iff_exists'.1 hA
  obtain ⟨v', w', r1, r2, r3, r4, r5⟩ := run_append_own_at (P := Tryd.prog) w base 23 23 75 i (.agg #[.int .i64 0, .int .i64 0]) 2 16 Tryd.underlying23 i1 i2 i3 i4 rfl (by omega) v n xs hown a l.length c (l.flatMap prtCells) (flat_length (n := 2) (fun _ => rfl) l) (row_add hr) (fun u hu => by
    obtain ⟨x, _, hx⟩ := List.mem_flatMap.1 hu
    exact oneSignal x u hx) (by unfold maxLen; omega) (by omega) hbase
  by_cases h0 : v = .slice none 0 0
  · exact ⟨v, w, .inr h0⟩
  · exact ⟨v', w', .inl ⟨r1, r2, (Below.refl base w).grown r3 hbase (fun k e => (hown.lt k e).1), fun e => h0 (r4.1 e).1⟩⟩

theorem infoExit : (Tryd.prog.info? 61).map (fun i => (i.zero, i.size, i.bytes)) = some (some (.agg #[.int .i64 0, .int .i64 0, .slice none 0 0]), 3, 40) := by kernel_rfl
theorem oneExit (x : Exm) : ∀ u ∈ Exm.cells x, u.oneCell' = true := by intro u hu; simp at hu; rcases hu with rfl | rfl | rfl <;> rfl
/-- append(v, src..), v a row of the call's own, whatever is appended. -/
theorem appendExit (base n m : Nat) (v : Value) (xs : List Value) (l : List (Exm)) (A : Option Addr) (c B : Nat) (w : World) (hown : w.ownsRow base 61 3 v n xs) (hA : A ≠ none) (hr : Row w B A (l.flatMap Exm.cells)) (hm : m = l.length) (hn : n ≤ 1000) (hl : l.length ≤ 1000) (hbase : base ≤ w.heap.size) :
    ∃ v' w', (Builtin.append_ #[24, 24] 24 #[v, .slice A m c]).run Tryd.prog w = .ok v' w' ∧ w'.ownsRow base 61 3 v' (n + m) (xs ++ l.flatMap Exm.cells) ∧ Below base w w' ∧ v' ≠ .slice none 0 0 ∨ v = .slice none 0 0 := by
  subst hm
  obtain ⟨i, i1, i2, i3, i4⟩ := info_parts infoExit
  obtain ⟨a, rfl⟩ : ∃ a, A = some a := Option.ne_none_iff_exists'.1 hA
  obtain ⟨v', w', r1, r2, r3, r4, r5⟩ := run_append_own_at (P := Tryd.prog) w base 24 24 61 i (.agg #[.int .i64 0, .int .i64 0, .slice none 0 0]) 3 40 Tryd.underlying24 i1 i2 i3 i4 rfl (by omega) v n xs hown a l.length c (l.flatMap Exm.cells) (flat_length (n := 3) (fun _ => rfl) l) (row_add hr) (fun u hu => by
    obtain ⟨x, _, hx⟩ := List.mem_flatMap.1 hu
    exact oneExit x u hx) (by unfold maxLen; omega) (by omega) hbase
  by_cases h0 : v = .slice none 0 0
  · exact ⟨v, w, .inr h0⟩
  · exact ⟨v', w', .inl ⟨r1, r2, (Below.refl base w).grown r3 hbase (fun k e => (hown.lt k e).1), fun e => h0 (r4.1 e).1⟩⟩

theorem infoFlank : (Tryd.prog.info? 95).map (fun i => (i.zero, i.size, i.bytes)) = some (some (.agg #[.int .i64 0, .int .i64 0, .int .i64 0, .int .i64 0]), 4, 32) := by kernel_rfl
theorem oneFlank (x : Int × Int × Int × Int) : ∀ u ∈ flkCells x, u.oneCell' = true := by intro u hu; simp at hu; rcases hu with rfl | rfl | rfl | rfl <;> rfl
/-- append(v, src..), v a row of the call's own, whatever is appended. -/
theorem appendFlank (base n m : Nat) (v : Value) (xs : List Value) (l : List (Int × Int × Int × Int)) (A : Option Addr) (c B : Nat) (w : World) (hown : w.ownsRow base 95 4 v n xs) (hA : A ≠ none) (hr : Row w B A (l.flatMap flkCells)) (hm : m = l.length) (hn : n ≤ 1000) (hl : l.length ≤ 1000) (hbase : base ≤ w.heap.size) :
    ∃ v' w', (Builtin.append_ #[25, 25] 25 #[v, .slice A m c]).run Tryd.prog w = .ok v' w' ∧ w'.ownsRow base 95 4 v' (n + m) (xs ++ l.flatMap flkCells) ∧ Below base w w' ∧ v' ≠ .slice none 0 0 ∨ v = .slice none 0 0 := by
  subst hm
  obtain ⟨i, i1, i2, i3, i4⟩ := info_parts infoFlank
  obtain ⟨a, rfl⟩ : ∃ a, A = some a := Option.ne_none_iff_exists'.1 hA
  obtain ⟨v', w', r1, r2, r3, r4, r5⟩ := run_append_own_at (P := Tryd.prog) w base 25 25 95 i (.agg #[.int .i64 0, .int .i64 0, .int .i64 0, .int .i64 0]) 4 32 Tryd.underlying25 i1 i2 i3 i4 rfl (by omega) v n xs hown a l.length c (l.flatMap flkCells) (flat_length (n := 4) (fun _ => rfl) l) (row_add hr) (fun u hu => by
    obtain ⟨x, _, hx⟩ := List.mem_flatMap.1 hu
    exact oneFlank x u hx) (by unfold maxLen; omega) (by omega) hbase
  by_cases h0 : v = .slice none 0 0
  · exact ⟨v, w, .inr h0⟩
  · exact ⟨v', w', .inl ⟨r1, r2, (Below.refl base w).grown r3 hbase (fun k e => (hown.lt k e).1), fun e => h0 (r4.1 e).1⟩⟩

theorem infoStep : (Tryd.prog.info? 97).map (fun i => (i.zero, i.size, i.bytes)) = some (some (.agg #[.int .i64 0, .int .i64 0, .int .i64 0]), 3, 24) := by kernel_rfl
theorem oneStep (x : Int × Int × Int) : ∀ u ∈ stpCells x, u.oneCell' = true := by intro u hu; simp at hu; rcases hu with rfl | rfl | rfl <;> rfl
/-- append(v, src..), v a row of the call's own, whatever is appended. -/
theorem appendStep (base n m : Nat) (v : Value) (xs : List Value) (l : List (Int × Int × Int)) (A : Option Addr) (c B : Nat) (w : World) (hown : w.ownsRow base 97 3 v n xs) (hA : A ≠ none) (hr : Row w B A (l.flatMap stpCells)) (hm : m = l.length) (hn : n ≤ 1000) (hl : l.length ≤ 1000) (hbase : base ≤ w.heap.size) :
    ∃ v' w', (Builtin.append_ #[59, 59] 59 #[v, .slice A m c]).run Tryd.prog w = .ok v' w' ∧ w'.ownsRow base 97 3 v' (n + m) (xs ++ l.flatMap stpCells) ∧ Below base w w' ∧ v' ≠ .slice none 0 0 ∨ v = .slice none 0 0 := by
  subst hm
  obtain ⟨i, i1, i2, i3, i4⟩ := info_parts infoStep
  obtain ⟨a, rfl⟩ : ∃ a, A = some a := Option.ne_none_iff_exists'.1 hA
  obtain ⟨v', w', r1, r2, r3, r4, r5⟩ := run_append_own_at (P := Tryd.prog) w base 59 59 97 i (.agg #[.int .i64 0, .int .i64 0, .int .i64 0]) 3 24 Tryd.underlying59 i1 i2 i3 i4 rfl (by omega) v n xs hown a l.length c (l.flatMap stpCells) (flat_length (n := 3) (fun _ => rfl) l) (row_add hr) (fun u hu => by
    obtain ⟨x, _, hx⟩ := List.mem_flatMap.1 hu
    exact oneStep x u hx) (by unfold maxLen; omega) (by omega) hbase
  by_cases h0 : v = .slice none 0 0
  · exact ⟨v, w, .inr h0⟩
  · exact ⟨v', w', .inl ⟨r1, r2, (Below.refl base w).grown r3 hbase (fun k e => (hown.lt k e).1), fun e => h0 (r4.1 e).1⟩⟩

end Go.Proofs.YtniihmafbeplaaaDoor
namespace Go.Proofs.YtniihmafbeplaaaDoor
open Go.RowKit Go.Shelf
set_option linter.unusedVariables false
set_option linter.unusedSimpArgs false

/-- Two layouts that tell the same. -/
structure Alike (m l : Lay) : Prop where
  secs : m.secs = l.secs
  sigs : m.sigs = l.sigs
  exits : m.exits.map Exm.pure = l.exits.map Exm.pure
  flanks : m.flanks = l.flanks
  t0 : m.t0 = l.t0
  t1 : m.t1 = l.t1
  t2 : m.t2 = l.t2
  t3 : m.t3 = l.t3
  t4 : m.t4 = l.t4
  t5 : m.t5 = l.t5
  t6 : m.t6 = l.t6
theorem owns_block {w : World} {base e size n c : Nat} {A : Option Addr} {xs : List Value} (h : w.ownsRow base e size (.slice A n c) n xs) : ∀ a, A = some a → base ≤ a.block ∧ a.block < w.heap.size := by
  intro a ha
  subst ha
  exact h.lt a.block rfl
/-- Eleven cells are laid over eleven. -/
abbrev over11 (W : World) (g : Nat) (v0 v1 v2 v3 v4 v5 v6 v7 v8 v9 v10 : Value) : World := (((((((((((W.setCell ⟨g, 0, none⟩ v0).setCell ⟨g, 1, none⟩ v1).setCell ⟨g, 2, none⟩ v2).setCell ⟨g, 3, none⟩ v3).setCell ⟨g, 4, none⟩ v4).setCell ⟨g, 5, none⟩ v5).setCell ⟨g, 6, none⟩ v6).setCell ⟨g, 7, none⟩ v7).setCell ⟨g, 8, none⟩ v8).setCell ⟨g, 9, none⟩ v9).setCell ⟨g, 10, none⟩ v10)
theorem over11_whole {W : World} {g : Nat} {t : TypeId} {c0 c1 c2 c3 c4 c5 c6 c7 c8 c9 c10 : Value} (v0 v1 v2 v3 v4 v5 v6 v7 v8 v9 v10 : Value) (h : Whole W g t [c0, c1, c2, c3, c4, c5, c6, c7, c8, c9, c10]) : Whole (over11 W g v0 v1 v2 v3 v4 v5 v6 v7 v8 v9 v10) g t [v0, v1, v2, v3, v4, v5, v6, v7, v8, v9, v10] :=
  ((((((((((h.set 0 v0).set 1 v1).set 2 v2).set 3 v3).set 4 v4).set 5 v5).set 6 v6).set 7 v7).set 8 v8).set 9 v9).set 10 v10
theorem over11_heap (W : World) (g : Nat) (v0 v1 v2 v3 v4 v5 v6 v7 v8 v9 v10 : Value) (k : Nat) (hk : k ≠ g) : (over11 W g v0 v1 v2 v3 v4 v5 v6 v7 v8 v9 v10).heap[k]? = W.heap[k]? := by
  exact (Below.heap_setCell _ ⟨g, 10, none⟩ v10 k hk).trans ((Below.heap_setCell _ ⟨g, 9, none⟩ v9 k hk).trans ((Below.heap_setCell _ ⟨g, 8, none⟩ v8 k hk).trans ((Below.heap_setCell _ ⟨g, 7, none⟩ v7 k hk).trans ((Below.heap_setCell _ ⟨g, 6, none⟩ v6 k hk).trans ((Below.heap_setCell _ ⟨g, 5, none⟩ v5 k hk).trans ((Below.heap_setCell _ ⟨g, 4, none⟩ v4 k hk).trans ((Below.heap_setCell _ ⟨g, 3, none⟩ v3 k hk).trans ((Below.heap_setCell _ ⟨g, 2, none⟩ v2 k hk).trans ((Below.heap_setCell _ ⟨g, 1, none⟩ v1 k hk).trans ((Below.heap_setCell _ ⟨g, 0, none⟩ v0 k hk).trans rfl))))))))))
theorem over11_size (W : World) (g : Nat) (v0 v1 v2 v3 v4 v5 v6 v7 v8 v9 v10 : Value) : (over11 W g v0 v1 v2 v3 v4 v5 v6 v7 v8 v9 v10).heap.size = W.heap.size := by simp [over11, World.setCell]
theorem over11_below {w W : World} {n : Nat} (h : Below n w W) {g : Nat} (hg : n ≤ g) (v0 v1 v2 v3 v4 v5 v6 v7 v8 v9 v10 : Value) : Below n w (over11 W g v0 v1 v2 v3 v4 v5 v6 v7 v8 v9 v10) :=
  (((((((((((h.setCell (p := ⟨g, 0, none⟩) hg v0).setCell (p := ⟨g, 1, none⟩) hg v1).setCell (p := ⟨g, 2, none⟩) hg v2).setCell (p := ⟨g, 3, none⟩) hg v3).setCell (p := ⟨g, 4, none⟩) hg v4).setCell (p := ⟨g, 5, none⟩) hg v5).setCell (p := ⟨g, 6, none⟩) hg v6).setCell (p := ⟨g, 7, none⟩) hg v7).setCell (p := ⟨g, 8, none⟩) hg v8).setCell (p := ⟨g, 9, none⟩) hg v9).setCell (p := ⟨g, 10, none⟩) hg v10)
/-- A row that lies elsewhere lies on. -/
theorem Row.elsewhere {W W' : World} {B : Nat} {A : Option Addr} {vs : List Value} (h : Row W B A vs) {g : Nat} (hA : ∀ a, A = some a → a.block ≠ g) (hk : ∀ k, k ≠ g → W'.heap[k]? = W.heap[k]?) : Row W' B A vs := fun hp => by
  obtain ⟨b, off, e, hb, hc⟩ := h hp
  exact ⟨b, off, e, hb, fun j u hu => (World.cell?_of_block (hk b (hA _ e))).trans (hc j u hu)⟩
theorem owns_elsewhere {W W' : World} {base e size n c : Nat} {A : Option Addr} {xs : List Value} (h : W.ownsRow base e size (.slice A n c) n xs) {g : Nat} (hA : ∀ a, A = some a → a.block ≠ g) (hk : ∀ k, k ≠ g → W'.heap[k]? = W.heap[k]?) : W'.ownsRow base e size (.slice A n c) n xs := by
  refine ⟨h.1, ?_⟩
  rcases h.2 with h2 | ⟨g', cap', cur, hv, h3, h4, r⟩
  · exact .inl h2
  · cases hv
    exact .inr ⟨g', _, cur, rfl, h3, (hk g' (hA _ rfl)).trans h4, r⟩
/-- Half way through Own: the copy's own block, its rows. -/
structure OwnMid (w : World) (l : Lay) (go : Nat) (AS : Option Addr) (kS : Nat) (AG : Option Addr) (kG : Nat) (AE : Option Addr) (kE : Nat) (AF : Option Addr) (kF : Nat) (W : World) : Prop where
  go_le : w.heap.size + 2 ≤ go
  own : Whole W go 29 [.slice AS l.secs.length kS, .slice AG l.sigs.length kG, .slice AE l.exits.length kE, .slice AF l.flanks.length kF, .int .i64 l.t0, .int .i64 l.t1, .int .i64 l.t2, .int .i64 l.t3, .int .i64 l.t4, .int .i64 l.t5, .int .i64 l.t6]
  S : Row W W.heap.size AS (l.secs.flatMap Sec.cells)
  G : Row W W.heap.size AG (l.sigs.flatMap prtCells)
  F : Row W W.heap.size AF (l.flanks.flatMap flkCells)
  E : W.ownsRow (w.heap.size + 2) 61 3 (.slice AE l.exits.length kE) l.exits.length (l.exits.flatMap Exm.cells)
  apart : ∀ a, AE = some a → a.block ≠ go ∧ (∀ b, AS = some b → b.block ≠ a.block) ∧ (∀ b, AG = some b → b.block ≠ a.block) ∧ (∀ b, AF = some b → b.block ≠ a.block)
  lowS : ∀ b, AS = some b → w.heap.size + 2 ≤ b.block
  lowG : ∀ b, AG = some b → w.heap.size + 2 ≤ b.block
  lowF : ∀ b, AF = some b → w.heap.size + 2 ≤ b.block
  res : Whole W (w.heap.size + 1) 29 [.slice none 0 0, .slice none 0 0, .slice none 0 0, .slice none 0 0, .int .i64 0, .int .i64 0, .int .i64 0, .int .i64 0, .int .i64 0, .int .i64 0, .int .i64 0]
  below : Below w.heap.size w W
theorem owns_row2 {w : World} {base e size n c : Nat} {A : Option Addr} {xs : List Value} (h : w.ownsRow base e size (.slice A n c) n xs) : Row w w.heap.size A xs := by
  obtain ⟨A', c', e, hr⟩ := owns_read h
  cases e
  exact hr
theorem own_mid {w W : World} {l : Lay} {go kS kG kE kF : Nat} {AS AG AE AF : Option Addr} (hgo : w.heap.size + 2 ≤ go) (hz : Whole W go 29 [.slice none 0 0, .slice none 0 0, .slice none 0 0, .slice none 0 0, .int .i64 0, .int .i64 0, .int .i64 0, .int .i64 0, .int .i64 0, .int .i64 0, .int .i64 0])
    (oS : Row W W.heap.size AS (l.secs.flatMap Sec.cells)) (oG : Row W W.heap.size AG (l.sigs.flatMap prtCells)) (oF : Row W W.heap.size AF (l.flanks.flatMap flkCells)) (oE : W.ownsRow (w.heap.size + 2) 61 3 (.slice AE l.exits.length kE) l.exits.length (l.exits.flatMap Exm.cells))
    (nS : ∀ a, AS = some a → a.block ≠ go ∧ w.heap.size + 2 ≤ a.block) (nG : ∀ a, AG = some a → a.block ≠ go ∧ w.heap.size + 2 ≤ a.block) (nF : ∀ a, AF = some a → a.block ≠ go ∧ w.heap.size + 2 ≤ a.block)
    (nE : ∀ a, AE = some a → a.block ≠ go ∧ (∀ b, AS = some b → b.block ≠ a.block) ∧ (∀ b, AG = some b → b.block ≠ a.block) ∧ (∀ b, AF = some b → b.block ≠ a.block))
    (hr : Whole W (w.heap.size + 1) 29 [.slice none 0 0, .slice none 0 0, .slice none 0 0, .slice none 0 0, .int .i64 0, .int .i64 0, .int .i64 0, .int .i64 0, .int .i64 0, .int .i64 0, .int .i64 0]) (hb : Below w.heap.size w W) :
    OwnMid w l go AS kS AG kG AE kE AF kF (over11 W go (.slice AS l.secs.length kS) (.slice AG l.sigs.length kG) (.slice AE l.exits.length kE) (.slice AF l.flanks.length kF) (.int .i64 l.t0) (.int .i64 l.t1) (.int .i64 l.t2) (.int .i64 l.t3) (.int .i64 l.t4) (.int .i64 l.t5) (.int .i64 l.t6)) := by
  have hk := over11_heap W go (.slice AS l.secs.length kS) (.slice AG l.sigs.length kG) (.slice AE l.exits.length kE) (.slice AF l.flanks.length kF) (.int .i64 l.t0) (.int .i64 l.t1) (.int .i64 l.t2) (.int .i64 l.t3) (.int .i64 l.t4) (.int .i64 l.t5) (.int .i64 l.t6)
  have hs := over11_size W go (.slice AS l.secs.length kS) (.slice AG l.sigs.length kG) (.slice AE l.exits.length kE) (.slice AF l.flanks.length kF) (.int .i64 l.t0) (.int .i64 l.t1) (.int .i64 l.t2) (.int .i64 l.t3) (.int .i64 l.t4) (.int .i64 l.t5) (.int .i64 l.t6)
  refine ⟨hgo, over11_whole _ _ _ _ _ _ _ _ _ _ _ hz, ?_, ?_, ?_, owns_elsewhere oE (fun a ha => (nE a ha).1) hk, nE, fun a ha => (nS a ha).2, fun a ha => (nG a ha).2, fun a ha => (nF a ha).2, (hk _ (by omega)).trans hr, over11_below hb (by omega) _ _ _ _ _ _ _ _ _ _ _⟩
  · rw [hs]; exact oS.elsewhere (fun a ha => (nS a ha).1) hk
  · rw [hs]; exact oG.elsewhere (fun a ha => (nG a ha).1) hk
  · rw [hs]; exact oF.elsewhere (fun a ha => (nF a ha).1) hk

theorem Row.elsewhere2 {W W' : World} {B : Nat} {A : Option Addr} {vs : List Value} (h : Row W B A vs) {g : Nat} (hA : 0 < vs.length → ∀ a, A = some a → a.block ≠ g) (hk : ∀ k, k ≠ g → W'.heap[k]? = W.heap[k]?) : Row W' B A vs := fun hp => by
  obtain ⟨b, off, e, hb, hc⟩ := h hp
  exact ⟨b, off, e, hb, fun j u hu => (World.cell?_of_block (hk b (hA hp _ e))).trans (hc j u hu)⟩
theorem flat_set {v : Value} {y : Exm} {tail : List Value} : ∀ (ex : List Exm) (j : Nat) (x : Exm), ex[j]? = some x → y.cells = x.cells.set 2 v → (ex.flatMap Exm.cells ++ tail).set (j * 3 + 2) v = (ex.set j y).flatMap Exm.cells ++ tail
  | [], j, x, h, _ => by simp at h
  | z :: ex, 0, x, h, hy => by
    simp only [List.getElem?_cons_zero, Option.some.injEq] at h
    subst h
    rw [List.set_cons_zero, List.flatMap_cons, List.flatMap_cons, hy]
    rfl
  | z :: ex, j + 1, x, h, hy => by
    rw [List.set_cons_succ, List.flatMap_cons, List.flatMap_cons, List.append_assoc, List.append_assoc, ← flat_set ex j x (by simpa using h) hy]
    have e : (j + 1) * 3 + 2 = z.cells.length + (j * 3 + 2) := by show _ = 3 + _; omega
    rw [e, List.set_append_right _ _ (Nat.le_add_right _ _), Nat.add_sub_cancel_left]
theorem map_set_same {α β : Type} (f : α → β) : ∀ (ex : List α) (j : Nat) (x y : α), ex[j]? = some x → f y = f x → (ex.set j y).map f = ex.map f
  | [], j, x, y, h, _ => rfl
  | z :: ex, 0, x, y, h, hy => by
    simp only [List.getElem?_cons_zero, Option.some.injEq] at h
    subst h
    rw [List.set_cons_zero, List.map_cons, List.map_cons, hy]
  | z :: ex, j + 1, x, y, h, hy => by rw [List.set_cons_succ, List.map_cons, List.map_cons, map_set_same f ex j x y (by simpa using h) hy]
/-- The copy under way: the exits ex as they lie now. -/
structure OwnLoop (w : World) (l : Lay) (go : Nat) (AS : Option Addr) (kS : Nat) (AG : Option Addr) (kG : Nat) (AE : Option Addr) (kE : Nat) (AF : Option Addr) (kF : Nat) (ex : List Exm) (W : World) : Prop where
  go_le : w.heap.size + 2 ≤ go
  own : Whole W go 29 [.slice AS l.secs.length kS, .slice AG l.sigs.length kG, .slice AE l.exits.length kE, .slice AF l.flanks.length kF, .int .i64 l.t0, .int .i64 l.t1, .int .i64 l.t2, .int .i64 l.t3, .int .i64 l.t4, .int .i64 l.t5, .int .i64 l.t6]
  S : Row W W.heap.size AS (l.secs.flatMap Sec.cells)
  G : Row W W.heap.size AG (l.sigs.flatMap prtCells)
  F : Row W W.heap.size AF (l.flanks.flatMap flkCells)
  len : ex.length = l.exits.length
  pure : ex.map Exm.pure = l.exits.map Exm.pure
  overs : ∀ x ∈ ex, Row W W.heap.size x.A (x.over.flatMap stpCells)
  nil : AE = Option.none → ex = []
  blk : ∀ a, AE = some a → ∃ g tail, a = ⟨g, 0, Option.none⟩ ∧ w.heap.size + 2 ≤ g ∧ Whole W g 61 (ex.flatMap Exm.cells ++ tail)
  apart : ∀ a, AE = some a → a.block ≠ go ∧ (∀ b, AS = some b → b.block ≠ a.block) ∧ (∀ b, AG = some b → b.block ≠ a.block) ∧ (∀ b, AF = some b → b.block ≠ a.block)
  far : ∀ x ∈ ex, 0 < x.over.length → ∀ b, x.A = some b → (b.block < w.heap.size ∨ w.heap.size + 2 ≤ b.block) ∧ ∀ a, AE = some a → b.block ≠ a.block
  lowS : ∀ b, AS = some b → w.heap.size + 2 ≤ b.block
  lowG : ∀ b, AG = some b → w.heap.size + 2 ≤ b.block
  lowF : ∀ b, AF = some b → w.heap.size + 2 ≤ b.block
  res : Whole W (w.heap.size + 1) 29 [.slice none 0 0, .slice none 0 0, .slice none 0 0, .slice none 0 0, .int .i64 0, .int .i64 0, .int .i64 0, .int .i64 0, .int .i64 0, .int .i64 0, .int .i64 0]
  below : Below w.heap.size w W
theorem OwnMid.loop {w W : World} {l : Lay} {go kS kG kE kF : Nat} {AS AG AE AF : Option Addr} (h : OwnMid w l go AS kS AG kG AE kE AF kF W) (hL : Lies l w) : OwnLoop w l go AS kS AG kG AE kE AF kF l.exits W := by
  have hLW := Lies.closed l _ _ hL h.below
  have hlow : ∀ a, AE = some a → w.heap.size + 2 ≤ a.block := fun a ha => by subst ha; exact (h.E.lt a.block rfl).1
  refine ⟨h.go_le, h.own, h.S, h.G, h.F, rfl, rfl, hLW.overs, fun e => ?_, fun a ha => ?_, h.apart, fun x hx hp b hb => ?_, h.lowS, h.lowG, h.lowF, h.res, h.below⟩
  · subst e
    rcases h.E.2 with ⟨_, h0⟩ | ⟨g, cap, cur, hv, _⟩
    · exact List.eq_nil_of_length_eq_zero h0
    · cases hv
  · subst ha
    rcases h.E.2 with ⟨hv, _⟩ | ⟨g, cap, cur, hv, h1, h2, h3, h4, h5, h6⟩
    · cases hv
    · cases hv
      refine ⟨g, cur.toList.drop (l.exits.length * 3), rfl, h1, ?_⟩
      rw [← h6, List.take_append_drop]
      show W.heap[g]? = _
      rw [h2]
  · obtain ⟨b', off, e, hlt, _⟩ := hL.overs x hx (by rw [flat_length (n := 3) (fun _ => rfl)]; omega)
    rw [hb] at e
    cases e
    exact ⟨.inl hlt, fun a ha => by have := hlow a ha; show b' ≠ _; omega⟩
/-- Behind one exit more. -/
theorem OwnLoop.next {w W W3 : World} {l : Lay} {go kS kG kE kF : Nat} {AS AG AE AF : Option Addr} {ex : List Exm} (h : OwnLoop w l go AS kS AG kG AE kE AF kF ex W) {j : Nat} {x : Exm} (hx : ex[j]? = some x) {g : Nat} (hg : AE = some ⟨g, 0, Option.none⟩) (hB : Below W.heap.size W W3) {An : Option Addr} {cn : Nat}
    (ho : W3.ownsRow W.heap.size 97 3 (.slice An x.over.length cn) x.over.length (x.over.flatMap stpCells)) : OwnLoop w l go AS kS AG kG AE kE AF kF (ex.set j { x with A := An, c := cn }) (W3.setCell ⟨g, j * 3 + 2, Option.none⟩ (.slice An x.over.length cn)) := by
  obtain ⟨g', tail, e, hgl, hW⟩ := h.blk _ hg
  cases e
  have hk : ∀ k, k ≠ g → (W3.setCell ⟨g, j * 3 + 2, Option.none⟩ (.slice An x.over.length cn)).heap[k]? = W3.heap[k]? := fun k hk => Below.heap_setCell _ _ _ _ hk
  have hsz : (W3.setCell ⟨g, j * 3 + 2, Option.none⟩ (.slice An x.over.length cn)).heap.size = W3.heap.size := by simp [World.setCell]
  have hAp := h.apart _ hg
  have hgW := hW.lt
  have hblk := owns_block ho
  have hWs := h.below.size
  have hres := h.res.lt
  refine ⟨h.go_le, (hk _ (fun e => hAp.1 e.symm)).trans (h.own.below hB h.own.lt), ?_, ?_, ?_, by simp [h.len], ?_, ?_, (fun e => by rw [hg] at e; cases e), fun a ha => ?_, h.apart, ?_, h.lowS, h.lowG, h.lowF, (hk _ (by omega)).trans (h.res.below hB h.res.lt), (h.below.trans (hB.mono h.below.size)).setCell (p := ⟨g, j * 3 + 2, Option.none⟩) (by show w.heap.size ≤ g; omega) _⟩
  · rw [hsz]; exact (h.S.on hB).elsewhere hAp.2.1 hk
  · rw [hsz]; exact (h.G.on hB).elsewhere hAp.2.2.1 hk
  · rw [hsz]; exact (h.F.on hB).elsewhere hAp.2.2.2 hk
  · rw [map_set_same Exm.pure ex j x { x with A := An, c := cn } hx rfl, h.pure]
  · intro y hy
    rw [hsz]
    rcases List.mem_or_eq_of_mem_set hy with hy | rfl
    · exact ((h.overs y hy).on hB).elsewhere2 (fun hp b hb => (h.far y hy (by rw [flat_length (n := 3) (fun _ => rfl)] at hp; omega) b hb).2 _ hg) hk
    · exact (owns_row2 ho).elsewhere (fun b hb => by have := hblk b hb; omega) hk
  · rw [hg] at ha
    cases ha
    refine ⟨g, tail, rfl, hgl, ?_⟩
    have := (hW.below hB hW.lt).set (j * 3 + 2) (.slice An x.over.length cn)
    rw [flat_set (v := .slice An x.over.length cn) (y := { x with A := An, c := cn }) ex j x hx rfl] at this
    exact this
  · intro y hy hp b hb
    rcases List.mem_or_eq_of_mem_set hy with hy | rfl
    · exact h.far y hy hp b hb
    · have := hblk b hb
      exact ⟨.inr (by omega), fun a ha => by rw [hg] at ha; cases ha; show b.block ≠ g; omega⟩

theorem own_end {w W : World} {l : Lay} {go kS kG kE kF : Nat} {AS AG AE AF : Option Addr} {ex : List Exm} (h : OwnLoop w l go AS kS AG kG AE kE AF kF ex W) (hL : Lies l w) {v0 v1 v2 v3 v4 v5 v6 v7 v8 v9 v10 : Value} :
    ∃ m : Lay, Ending.returned (.agg #[.slice AS l.secs.length kS, .slice AG l.sigs.length kG, .slice AE l.exits.length kE, .slice AF l.flanks.length kF, .int .i64 l.t0, .int .i64 l.t1, .int .i64 l.t2, .int .i64 l.t3, .int .i64 l.t4, .int .i64 l.t5, .int .i64 l.t6]) = .returned m.val ∧ Lies m (over11 W (w.heap.size + 1) v0 v1 v2 v3 v4 v5 v6 v7 v8 v9 v10) ∧ Alike m l ∧ Below w.heap.size w (over11 W (w.heap.size + 1) v0 v1 v2 v3 v4 v5 v6 v7 v8 v9 v10) := by
  have hk := over11_heap W (w.heap.size + 1) v0 v1 v2 v3 v4 v5 v6 v7 v8 v9 v10
  have hs := over11_size W (w.heap.size + 1) v0 v1 v2 v3 v4 v5 v6 v7 v8 v9 v10
  have hbl := over11_below h.below (show w.heap.size ≤ w.heap.size + 1 by omega) v0 v1 v2 v3 v4 v5 v6 v7 v8 v9 v10
  generalize over11 W (w.heap.size + 1) v0 v1 v2 v3 v4 v5 v6 v7 v8 v9 v10 = Wf at *
  have hlen := h.len
  refine ⟨⟨l.secs, AS, kS, l.sigs, AG, kG, ex, AE, kE, l.flanks, AF, kF, l.t0, l.t1, l.t2, l.t3, l.t4, l.t5, l.t6⟩, by show _ = Ending.returned (.agg #[_, _, .slice AE ex.length kE, _, _, _, _, _, _, _, _]); rw [hlen], ⟨?_, ?_, ?_, ?_, ?_, hL.kinds, hL.nS, hL.nG, by show (ex.length : Int) ≤ _; rw [hlen]; exact hL.nE, hL.nF, ?_⟩, ⟨rfl, rfl, h.pure, rfl, rfl, rfl, rfl, rfl, rfl, rfl, rfl⟩, hbl⟩
  · rw [hs]; exact h.S.elsewhere (fun a ha => by have := h.lowS a ha; omega) hk
  · rw [hs]; exact h.G.elsewhere (fun a ha => by have := h.lowG a ha; omega) hk
  · rw [hs]
    show Row _ _ AE (ex.flatMap Exm.cells)
    cases AE with
    | none => rw [h.nil rfl]; exact Row.nil _ _ _
    | some a =>
      obtain ⟨g, tail, rfl, hg, hW⟩ := h.blk _ rfl
      intro hp
      refine ⟨g, 0, rfl, hW.lt, fun j u hu => ?_⟩
      rw [Nat.zero_add]
      refine (World.cell?_of_block (hk g (by omega))).trans (hW.cell_at j ?_)
      rw [List.getElem?_append_left (List.getElem?_eq_some_iff.1 hu).1]
      exact hu
  · rw [hs]; exact h.F.elsewhere (fun a ha => by have := h.lowF a ha; omega) hk
  · intro x hx
    rw [hs]
    exact (h.overs x hx).elsewhere2 (fun hp b hb => by
      have := (h.far x hx (by rw [flat_length (n := 3) (fun _ => rfl)] at hp; omega) b hb).1
      omega) hk
  · intro x hx
    have h1 : x.pure ∈ l.exits.map Exm.pure := by rw [← h.pure]; exact List.mem_map_of_mem hx
    obtain ⟨y, hy, e⟩ := List.mem_map.1 h1
    have h3 : y.over = x.over := congrArg (fun p => p.2.2) e
    rw [← h3]
    exact hL.nO y hy

end Go.Proofs.YtniihmafbeplaaaDoor
namespace Go.Proofs.YtniihmafbeplaaaDoor
open Go.RowKit Go.Shelf
set_option linter.unusedVariables false
set_option linter.unusedSimpArgs false

def lineL (s : Nat) : Lay := ⟨[⟨1, (-1), 0, 1, 0, (-1), 0, (-1), 0, 0, 0⟩, ⟨2, 0, 1, 2, 0, 3, 0, (-1), 0, 0, 1⟩, ⟨1, 1, 1, (-1), 0, (-1), 0, (-1), 0, 0, 0⟩, ⟨1, 1, 2, (-1), 0, (-1), 0, (-1), 0, 0, 0⟩], some ⟨s + 1 + 1 + 1, 0, none⟩, 4, [(0, 0)], some ⟨s + 1 + 1 + 1 + 1, 0, none⟩, 1, [⟨1, 1, some ⟨s + 1 + 1 + 1 + 1 + 1, 0, none⟩, 1, [(2, 0, 1)]⟩, ⟨3, 1, none, 0, []⟩], some ⟨s + 1 + 1 + 1 + 1 + 1 + 1, 0, none⟩, 2, [], none, 0, 1, 1, 1, 1, 1, 1, 1⟩
/-- The line with a port too many. -/
def badL (s : Nat) : Lay := ⟨[⟨1, (-1), 0, 1, 0, 1, 0, (-1), 0, 0, 0⟩, ⟨2, 0, 1, 2, 0, 3, 0, (-1), 0, 0, 1⟩, ⟨1, 1, 1, (-1), 0, (-1), 0, (-1), 0, 0, 0⟩, ⟨1, 1, 2, (-1), 0, (-1), 0, (-1), 0, 0, 0⟩], some ⟨s + 1 + 1 + 1, 0, none⟩, 4, [(0, 0)], some ⟨s + 1 + 1 + 1 + 1, 0, none⟩, 1, [⟨1, 1, some ⟨s + 1 + 1 + 1 + 1 + 1, 0, none⟩, 1, [(2, 0, 1)]⟩, ⟨3, 1, none, 0, []⟩], some ⟨s + 1 + 1 + 1 + 1 + 1 + 1, 0, none⟩, 2, [], none, 0, 1, 1, 1, 1, 1, 1, 1⟩
theorem bad_cells (s : Nat) : (badL s).cells = (lineL s).cells := rfl
structure LineAt (s : Nat) (w : World) : Prop where
  secs : Whole w (s + 1 + 1 + 1) 53 [.int .u8 1, .int .i64 (-1), .int .i64 0, .int .i64 1, .int .i64 0, .int .i64 (-1), .int .i64 0, .int .i64 (-1), .int .i64 0, .int .i64 0, .int .i64 0, .int .u8 2, .int .i64 0, .int .i64 1, .int .i64 2, .int .i64 0, .int .i64 3, .int .i64 0, .int .i64 (-1), .int .i64 0, .int .i64 0, .int .i64 1, .int .u8 1, .int .i64 1, .int .i64 1, .int .i64 (-1), .int .i64 0, .int .i64 (-1), .int .i64 0, .int .i64 (-1), .int .i64 0, .int .i64 0, .int .i64 0, .int .u8 1, .int .i64 1, .int .i64 2, .int .i64 (-1), .int .i64 0, .int .i64 (-1), .int .i64 0, .int .i64 (-1), .int .i64 0, .int .i64 0, .int .i64 0]
  sigs : Whole w (s + 1 + 1 + 1 + 1) 75 [.int .i64 0, .int .i64 0]
  over : Whole w (s + 1 + 1 + 1 + 1 + 1) 97 [.int .i64 2, .int .i64 0, .int .i64 1]
  exits : Whole w (s + 1 + 1 + 1 + 1 + 1 + 1) 61 [.int .i64 1, .int .i64 1, .slice (some ⟨s + 1 + 1 + 1 + 1 + 1, 0, none⟩) 1 1, .int .i64 3, .int .i64 1, .slice none 0 0]
theorem LineAt.lies {s : Nat} {w : World} (h : LineAt s w) : Lies (lineL s) w :=
  ⟨h.secs.row h.secs.lt, h.sigs.row h.sigs.lt, h.exits.row h.exits.lt, Row.nil _ _ _, fun x hx => by
    simp only [lineL, List.mem_cons, List.not_mem_nil, or_false] at hx
    rcases hx with rfl | rfl
    · exact h.over.row h.over.lt
    · exact Row.nil _ _ _, by intro x hx; simp only [lineL, List.mem_cons, List.not_mem_nil, or_false] at hx; rcases hx with rfl | rfl | rfl | rfl <;> decide, by simp [lineL], by simp [lineL], by simp [lineL], by simp [lineL], fun x hx => by
    simp only [lineL, List.mem_cons, List.not_mem_nil, or_false] at hx
    rcases hx with rfl | rfl
    · show (1 : Int) ≤ _; omega
    · show (0 : Int) ≤ _; omega⟩
/-- Behind the store of a port too many. -/
theorem LineAt.bad {s : Nat} {w W : World} (h : LineAt s w) (hk : ∀ k, k < w.heap.size → k ≠ s + 1 + 1 + 1 → W.heap[k]? = w.heap[k]?) (hW : Whole W (s + 1 + 1 + 1) 53 [.int .u8 1, .int .i64 (-1), .int .i64 0, .int .i64 1, .int .i64 0, .int .i64 1, .int .i64 0, .int .i64 (-1), .int .i64 0, .int .i64 0, .int .i64 0, .int .u8 2, .int .i64 0, .int .i64 1, .int .i64 2, .int .i64 0, .int .i64 3, .int .i64 0, .int .i64 (-1), .int .i64 0, .int .i64 0, .int .i64 1, .int .u8 1, .int .i64 1, .int .i64 1, .int .i64 (-1), .int .i64 0, .int .i64 (-1), .int .i64 0, .int .i64 (-1), .int .i64 0, .int .i64 0, .int .i64 0, .int .u8 1, .int .i64 1, .int .i64 2, .int .i64 (-1), .int .i64 0, .int .i64 (-1), .int .i64 0, .int .i64 (-1), .int .i64 0, .int .i64 0, .int .i64 0]) : Lies (badL s) W := by
  have h1 : Whole W (s + 1 + 1 + 1 + 1) 75 [.int .i64 0, .int .i64 0] := (hk _ h.sigs.lt (by omega)).trans h.sigs
  have h2 : Whole W (s + 1 + 1 + 1 + 1 + 1) 97 [.int .i64 2, .int .i64 0, .int .i64 1] := (hk _ h.over.lt (by omega)).trans h.over
  have h3 : Whole W (s + 1 + 1 + 1 + 1 + 1 + 1) 61 [.int .i64 1, .int .i64 1, .slice (some ⟨s + 1 + 1 + 1 + 1 + 1, 0, none⟩) 1 1, .int .i64 3, .int .i64 1, .slice none 0 0] := (hk _ h.exits.lt (by omega)).trans h.exits
  exact ⟨hW.row hW.lt, h1.row h1.lt, h3.row h3.lt, Row.nil _ _ _, fun x hx => by
    simp only [badL, List.mem_cons, List.not_mem_nil, or_false] at hx
    rcases hx with rfl | rfl
    · exact h2.row h2.lt
    · exact Row.nil _ _ _, by intro x hx; simp only [badL, List.mem_cons, List.not_mem_nil, or_false] at hx; rcases hx with rfl | rfl | rfl | rfl <;> decide, by simp [badL], by simp [badL], by simp [badL], by simp [badL], fun x hx => by
    simp only [badL, List.mem_cons, List.not_mem_nil, or_false] at hx
    rcases hx with rfl | rfl
    · show (1 : Int) ≤ _; omega
    · show (0 : Int) ≤ _; omega⟩

theorem seven (w : World) (o0 o1 o2 o3 o4 o5 o6 : Obj) : ∃ W, (((((((w.alloc o0).alloc o1).alloc o2).alloc o3).alloc o4).alloc o5).alloc o6) = W ∧ Below w.heap.size w W ∧ W.heap.size = w.heap.size + 1 + 1 + 1 + 1 + 1 + 1 + 1 ∧
    W.heap[w.heap.size]? = some o0 ∧ W.heap[w.heap.size + 1 + 1 + 1]? = some o3 ∧ W.heap[w.heap.size + 1 + 1 + 1 + 1]? = some o4 ∧ W.heap[w.heap.size + 1 + 1 + 1 + 1 + 1]? = some o5 ∧ W.heap[w.heap.size + 1 + 1 + 1 + 1 + 1 + 1]? = some o6 := by
  have hn : ∀ (u : World) (o : Obj) (n : Nat), n = u.heap.size → (u.alloc o).heap[n]? = some o := fun u o n hn => by subst hn; exact World.alloc_heap_new u o
  have hk : ∀ (u : World) (o o' : Obj) (n : Nat), u.heap[n]? = some o' → (u.alloc o).heap[n]? = some o' := fun u o o' n h => (Below.heap_alloc u o n (Array.getElem?_eq_some_iff.1 h).1).trans h
  refine ⟨_, rfl, ((((((below1 w _).alloc (by simp; try omega) _).alloc (by simp; try omega) _).alloc (by simp; try omega) _).alloc (by simp; try omega) _).alloc (by simp; try omega) _).alloc (by simp; try omega) _, by simp, ?_, ?_, ?_, ?_, ?_⟩
  · exact hk _ _ _ _ (hk _ _ _ _ (hk _ _ _ _ (hk _ _ _ _ (hk _ _ _ _ (hk _ _ _ _ (hn w o0 _ rfl))))))
  · exact hk _ _ _ _ (hk _ _ _ _ (hk _ _ _ _ (hn _ o3 _ (by simp))))
  · exact hk _ _ _ _ (hk _ _ _ _ (hn _ o4 _ (by simp)))
  · exact hk _ _ _ _ (hn _ o5 _ (by simp))
  · exact hn _ o6 _ (by simp)

end Go.Proofs.YtniihmafbeplaaaDoor
