/- Rows of structs of the call's own; slices.Clone at a layout's rows. Package layout: Own. The line of which the document's words are told; what the document says of it (wakes), of layer 6. What the document says of a line, of layer 6 (wakes). The walk of LayoutSteps: a step goes both ways about; its ends are ports of its section. The walk of LayoutFinds: the first signal, the first exit at a port. The document's own layer 6: the section of a port, the way of a step; the first signal, exit. The document's own layer 6: whose numbers may be: a section, an exit, a flank, the times. The document's own layer 6: Right. -/
import Derived.Test.YtbdbgoploednbaaDoorQB
import Derived.Test.YtbdbgoploednbaaDoorGen
import Derived.Deep.CutRange
namespace Go.Proofs.YtbdbgoploednbaaDoor
open Go.RowKit Go.Shelf
set_option linter.unusedVariables false
set_option linter.unusedSimpArgs false

theorem flat_length {α : Type} {f : α → List Value} {n : Nat} (hf : ∀ x, (f x).length = n) : ∀ l : List α, (l.flatMap f).length = l.length * n
  | [] => by simp
  | x :: l => by rw [List.flatMap_cons, List.length_append, hf, flat_length hf l, List.length_cons, Nat.add_mul]; omega
/-- What is owned is owned in whatever grows out of the world. -/
theorem owns_keep {w w' : World} {base e size n : Nat} {v : Value} {xs : List Value} (h : w.ownsRow base e size v n xs) (hb : Below w.heap.size w w') : w'.ownsRow base e size v n xs := by
  refine ⟨h.1, ?_⟩
  rcases h.2 with h2 | ⟨g', cap', cur, hv, h3, h4, r⟩
  · exact .inl h2
  · exact .inr ⟨g', cap', cur, hv, h3, (hb.block g' (Array.getElem?_eq_some_iff.1 h4).1).trans h4, r⟩
theorem owns_base {w : World} {base base' e size n : Nat} {v : Value} {xs : List Value} (h : w.ownsRow base e size v n xs) (hb : base' ≤ base) : w.ownsRow base' e size v n xs := by
  refine ⟨h.1, ?_⟩
  rcases h.2 with h2 | ⟨g', cap', cur, hv, h3, r⟩
  · exact .inl h2
  · exact .inr ⟨g', cap', cur, hv, by omega, r⟩
/-- What is owned, read as a slice. -/
theorem owns_read {w : World} {base e size n : Nat} {v : Value} {xs : List Value} (h : w.ownsRow base e size v n xs) : ∃ A c, v = .slice A n c ∧ Row w w.heap.size A xs := by
  rcases h.2 with ⟨rfl, rfl⟩ | ⟨g, cap, cur, rfl, h3, h4, h5, h6, h7, h8⟩
  · have : xs = [] := List.eq_nil_of_length_eq_zero (by simpa using h.1)
    subst this
    exact ⟨none, 0, rfl, Row.nil _ _ _⟩
  · refine ⟨_, _, rfl, fun hp => ⟨g, 0, rfl, (Array.getElem?_eq_some_iff.1 h4).1, fun j u hu => ?_⟩⟩
    rw [← h8, List.getElem?_take] at hu
    split at hu
    · simpa [World.cell?, h4] using hu
    · cases hu

theorem infoSection : (Tryd.prog.info? 52).map (fun i => (i.zero, i.size, i.bytes)) = some (some (.agg #[.int .u8 0, .int .i64 0, .int .i64 0, .int .i64 0, .int .i64 0, .int .i64 0, .int .i64 0, .int .i64 0, .int .i64 0, .int .i64 0, .int .i64 0]), 11, 88) := by kernel_rfl
theorem oneSection (x : Sec) : ∀ u ∈ Sec.cells x, u.oneCell' = true := by intro u hu; simp at hu; rcases hu with rfl | rfl | rfl | rfl | rfl | rfl | rfl | rfl | rfl | rfl | rfl <;> rfl
/-- append(v, src..), v a row of the call's own, whatever is appended. -/
theorem appendSection (base n m : Nat) (v : Value) (xs : List Value) (l : List (Sec)) (A : Option Addr) (c B : Nat) (w : World) (hown : w.ownsRow base 52 11 v n xs) (hA : A ≠ none) (hr : Row w B A (l.flatMap Sec.cells)) (hm : m = l.length) (hn : n ≤ 1000) (hl : l.length ≤ 1000) (hbase : base ≤ w.heap.size) :
    ∃ v' w', (Builtin.append_ #[22, 22] 22 #[v, .slice A m c]).run Tryd.prog w = .ok v' w' ∧ w'.ownsRow base 52 11 v' (n + m) (xs ++ l.flatMap Sec.cells) ∧ Below base w w' ∧ v' ≠ .slice none 0 0 ∨ v = .slice none 0 0 := by
  subst hm
  obtain ⟨i, i1, i2, i3, i4⟩ := info_parts infoSection
  obtain ⟨a, rfl⟩ : ∃ a, A = some a := Option.ne_none_iff_exists'.1 hA
  obtain ⟨v', w', r1, r2, r3, r4, r5⟩ := run_append_own_at (P := Tryd.prog) w base 22 22 52 i (.agg #[.int .u8 0, .int .i64 0, .int .i64 0, .int .i64 0, .int .i64 0, .int .i64 0, .int .i64 0, .int .i64 0, .int .i64 0, .int .i64 0, .int .i64 0]) 11 88 Tryd.underlying22 i1 i2 i3 i4 rfl (by omega) v n xs hown a l.length c (l.flatMap Sec.cells) (flat_length (n := 11) Sec.len l) (row_add hr) (fun u hu => by
    obtain ⟨x, _, hx⟩ := List.mem_flatMap.1 hu
    exact oneSection x u hx) (by unfold maxLen; omega) (by omega) hbase
  by_cases h0 : v = .slice none 0 0
  · exact ⟨v, w, .inr h0⟩
  · exact ⟨v', w', .inl ⟨r1, r2, (Below.refl base w).grown r3 hbase (fun k e => (hown.lt k e).1), fun e => h0 (r4.1 e).1⟩⟩

theorem infoSignal : (Tryd.prog.info? 76).map (fun i => (i.zero, i.size, i.bytes)) = some (some (.agg #[.int .i64 0, .int .i64 0]), 2, 16) := by kernel_rfl
theorem oneSignal (x : Int × Int) : ∀ u ∈ prtCells x, u.oneCell' = true := by intro u hu; simp at hu; rcases hu with rfl | rfl <;> rfl
/-- append(v, src..), v a row of the call's own, whatever is appended. -/
theorem appendSignal (base n m : Nat) (v : Value) (xs : List Value) (l : List (Int × Int)) (A : Option Addr) (c B : Nat) (w : World) (hown : w.ownsRow base 76 2 v n xs) (hA : A ≠ none) (hr : Row w B A (l.flatMap prtCells)) (hm : m = l.length) (hn : n ≤ 1000) (hl : l.length ≤ 1000) (hbase : base ≤ w.heap.size) :
    ∃ v' w', (Builtin.append_ #[23, 23] 23 #[v, .slice A m c]).run Tryd.prog w = .ok v' w' ∧ w'.ownsRow base 76 2 v' (n + m) (xs ++ l.flatMap prtCells) ∧ Below base w w' ∧ v' ≠ .slice none 0 0 ∨ v = .slice none 0 0 := by
  subst hm
  obtain ⟨i, i1, i2, i3, i4⟩ := info_parts infoSignal
  obtain ⟨a, rfl⟩ : ∃ a, A = some a := Option.ne_none_iff_exists'.1 hA
  obtain ⟨v', w', r1, r2, r3, r4, r5⟩ := run_append_own_at (P := Tryd.prog) w base 23 23 76 i (.agg #[.int .i64 0, .int .i64 0]) 2 16 Tryd.underlying23 i1 i2 i3 i4 rfl (by omega) v n xs hown a l.length c (l.flatMap prtCells) (flat_length (n := 2) (fun _ => rfl) l) (row_add hr) (fun u hu => by
    obtain ⟨x, _, hx⟩ := List.mem_flatMap.1 hu
    exact oneSignal x u hx) (by unfold maxLen; omega) (by omega) hbase
  by_cases h0 : v = .slice none 0 0
  · exact ⟨v, w, .inr h0⟩
  · exact ⟨v', w', .inl ⟨r1, r2, (Below.refl base w).grown r3 hbase (fun k e => (hown.lt k e).1), fun e => h0 (r4.1 e).1⟩⟩

theorem infoExit : (Tryd.prog.info? 54).map (fun i => (i.zero, i.size, i.bytes)) = some (some (.agg #[.int .i64 0, .int .i64 0, .slice none 0 0]), 3, 40) := by kernel_rfl
theorem oneExit (x : Exm) : ∀ u ∈ Exm.cells x, u.oneCell' = true := by intro u hu; simp at hu; rcases hu with rfl | rfl | rfl <;> rfl
/-- append(v, src..), v a row of the call's own, whatever is appended. -/
theorem appendExit (base n m : Nat) (v : Value) (xs : List Value) (l : List (Exm)) (A : Option Addr) (c B : Nat) (w : World) (hown : w.ownsRow base 54 3 v n xs) (hA : A ≠ none) (hr : Row w B A (l.flatMap Exm.cells)) (hm : m = l.length) (hn : n ≤ 1000) (hl : l.length ≤ 1000) (hbase : base ≤ w.heap.size) :
    ∃ v' w', (Builtin.append_ #[24, 24] 24 #[v, .slice A m c]).run Tryd.prog w = .ok v' w' ∧ w'.ownsRow base 54 3 v' (n + m) (xs ++ l.flatMap Exm.cells) ∧ Below base w w' ∧ v' ≠ .slice none 0 0 ∨ v = .slice none 0 0 := by
  subst hm
  obtain ⟨i, i1, i2, i3, i4⟩ := info_parts infoExit
  obtain ⟨a, rfl⟩ : ∃ a, A = some a := Option.ne_none_iff_exists'.1 hA
  obtain ⟨v', w', r1, r2, r3, r4, r5⟩ := run_append_own_at (P := Tryd.prog) w base 24 24 54 i (.agg #[.int .i64 0, .int .i64 0, .slice none 0 0]) 3 40 Tryd.underlying24 i1 i2 i3 i4 rfl (by omega) v n xs hown a l.length c (l.flatMap Exm.cells) (flat_length (n := 3) (fun _ => rfl) l) (row_add hr) (fun u hu => by
    obtain ⟨x, _, hx⟩ := List.mem_flatMap.1 hu
    exact oneExit x u hx) (by unfold maxLen; omega) (by omega) hbase
  by_cases h0 : v = .slice none 0 0
  · exact ⟨v, w, .inr h0⟩
  · exact ⟨v', w', .inl ⟨r1, r2, (Below.refl base w).grown r3 hbase (fun k e => (hown.lt k e).1), fun e => h0 (r4.1 e).1⟩⟩

theorem infoFlank : (Tryd.prog.info? 59).map (fun i => (i.zero, i.size, i.bytes)) = some (some (.agg #[.int .i64 0, .int .i64 0, .int .i64 0, .int .i64 0]), 4, 32) := by kernel_rfl
theorem oneFlank (x : Int × Int × Int × Int) : ∀ u ∈ flkCells x, u.oneCell' = true := by intro u hu; simp at hu; rcases hu with rfl | rfl | rfl | rfl <;> rfl
/-- append(v, src..), v a row of the call's own, whatever is appended. -/
theorem appendFlank (base n m : Nat) (v : Value) (xs : List Value) (l : List (Int × Int × Int × Int)) (A : Option Addr) (c B : Nat) (w : World) (hown : w.ownsRow base 59 4 v n xs) (hA : A ≠ none) (hr : Row w B A (l.flatMap flkCells)) (hm : m = l.length) (hn : n ≤ 1000) (hl : l.length ≤ 1000) (hbase : base ≤ w.heap.size) :
    ∃ v' w', (Builtin.append_ #[25, 25] 25 #[v, .slice A m c]).run Tryd.prog w = .ok v' w' ∧ w'.ownsRow base 59 4 v' (n + m) (xs ++ l.flatMap flkCells) ∧ Below base w w' ∧ v' ≠ .slice none 0 0 ∨ v = .slice none 0 0 := by
  subst hm
  obtain ⟨i, i1, i2, i3, i4⟩ := info_parts infoFlank
  obtain ⟨a, rfl⟩ : ∃ a, A = some a := Option.ne_none_iff_exists'.1 hA
  obtain ⟨v', w', r1, r2, r3, r4, r5⟩ := run_append_own_at (P := Tryd.prog) w base 25 25 59 i (.agg #[.int .i64 0, .int .i64 0, .int .i64 0, .int .i64 0]) 4 32 Tryd.underlying25 i1 i2 i3 i4 rfl (by omega) v n xs hown a l.length c (l.flatMap flkCells) (flat_length (n := 4) (fun _ => rfl) l) (row_add hr) (fun u hu => by
    obtain ⟨x, _, hx⟩ := List.mem_flatMap.1 hu
    exact oneFlank x u hx) (by unfold maxLen; omega) (by omega) hbase
  by_cases h0 : v = .slice none 0 0
  · exact ⟨v, w, .inr h0⟩
  · exact ⟨v', w', .inl ⟨r1, r2, (Below.refl base w).grown r3 hbase (fun k e => (hown.lt k e).1), fun e => h0 (r4.1 e).1⟩⟩

theorem infoStep : (Tryd.prog.info? 56).map (fun i => (i.zero, i.size, i.bytes)) = some (some (.agg #[.int .i64 0, .int .i64 0, .int .i64 0]), 3, 24) := by kernel_rfl
theorem oneStep (x : Int × Int × Int) : ∀ u ∈ stpCells x, u.oneCell' = true := by intro u hu; simp at hu; rcases hu with rfl | rfl | rfl <;> rfl
/-- append(v, src..), v a row of the call's own, whatever is appended. -/
theorem appendStep (base n m : Nat) (v : Value) (xs : List Value) (l : List (Int × Int × Int)) (A : Option Addr) (c B : Nat) (w : World) (hown : w.ownsRow base 56 3 v n xs) (hA : A ≠ none) (hr : Row w B A (l.flatMap stpCells)) (hm : m = l.length) (hn : n ≤ 1000) (hl : l.length ≤ 1000) (hbase : base ≤ w.heap.size) :
    ∃ v' w', (Builtin.append_ #[30, 30] 30 #[v, .slice A m c]).run Tryd.prog w = .ok v' w' ∧ w'.ownsRow base 56 3 v' (n + m) (xs ++ l.flatMap stpCells) ∧ Below base w w' ∧ v' ≠ .slice none 0 0 ∨ v = .slice none 0 0 := by
  subst hm
  obtain ⟨i, i1, i2, i3, i4⟩ := info_parts infoStep
  obtain ⟨a, rfl⟩ : ∃ a, A = some a := Option.ne_none_iff_exists'.1 hA
  obtain ⟨v', w', r1, r2, r3, r4, r5⟩ := run_append_own_at (P := Tryd.prog) w base 30 30 56 i (.agg #[.int .i64 0, .int .i64 0, .int .i64 0]) 3 24 Tryd.underlying30 i1 i2 i3 i4 rfl (by omega) v n xs hown a l.length c (l.flatMap stpCells) (flat_length (n := 3) (fun _ => rfl) l) (row_add hr) (fun u hu => by
    obtain ⟨x, _, hx⟩ := List.mem_flatMap.1 hu
    exact oneStep x u hx) (by unfold maxLen; omega) (by omega) hbase
  by_cases h0 : v = .slice none 0 0
  · exact ⟨v, w, .inr h0⟩
  · exact ⟨v', w', .inl ⟨r1, r2, (Below.refl base w).grown r3 hbase (fun k e => (hown.lt k e).1), fun e => h0 (r4.1 e).1⟩⟩

set_option maxRecDepth 100000 in
set_option maxHeartbeats 4000000 in
theorem cloneStep_any {l : List (Int × Int × Int)} (A : Option Addr) (c : Nat) (w : World) (hr : Row w w.heap.size A (l.flatMap stpCells)) (hl : l.length ≤ 1000) :
    Calls Tryd.prog 79 #[.slice A l.length c] w fun e w' => ∃ v, e = .returned v ∧ w'.ownsRow w.heap.size 56 3 v l.length (l.flatMap stpCells) ∧ Below w.heap.size w w' := by
  cases A with
  | none =>
    have h0 : l = [] := by
      cases l with
      | nil => rfl
      | cons x l =>
        obtain ⟨b, off, e, _⟩ := hr (by rw [List.flatMap_cons, List.length_append]; have : (stpCells x).length = 3 := rfl; omega)
        cases e
    subst h0
    have hnil : ∀ w : World, (binOp .eql 30 (.slice none 0 c) (.slice none 0 0)).run Tryd.prog w = .ok (.bool true) w := fun _ => rfl
    go_enter Tryd.func79, Tryd.ntmps79
    go_wp2_with fail
    go_ret
    exact ⟨_, rfl, World.ownsRow_nil _ _ _ _, Below.refl _ _⟩
  | some a =>
    have hown : (w.alloc (.cells #[] 56)).ownsRow w.heap.size 56 3 (.slice (some ⟨w.heap.size, 0, none⟩) 0 0) 0 [] := ⟨by simp, .inr ⟨w.heap.size, 0, #[], rfl, Nat.le_refl _, World.alloc_heap_new w _, Nat.le_refl _, by simp, by simp, by simp⟩⟩
    obtain ⟨v', w1, hap⟩ := appendStep w.heap.size 0 l.length _ [] l (some a) c w.heap.size _ hown (by simp) (hr.below (below1 w _)) rfl (by omega) hl (by simp)
    rcases hap with ⟨hrun, hown1, hB, _⟩ | h
    · have HO := Lib.hid hown1
      have HB := Lib.hid ((below1 w (.cells #[] 56)).trans hB)
      clear hown hown1 hB hr
      have hnil : ∀ w : World, (binOp .eql 30 (.slice (some a) l.length c) (.slice none 0 0)).run Tryd.prog w = .ok (.bool false) w := fun _ => rfl
      go_enter Tryd.func79, Tryd.ntmps79
      go_wp2_with (at_builtin; refine list_append rfl (.tmp 5) (.tmp 6) 30 rfl hrun ?_)
      go_ret
      exact ⟨_, rfl, by simpa using HO.out, HB.out⟩
    · cases h
end Go.Proofs.YtbdbgoploednbaaDoor
namespace Go.Proofs.YtbdbgoploednbaaDoor
open Go.RowKit Go.Shelf
set_option linter.unusedVariables false
set_option linter.unusedSimpArgs false

/-- Two layouts that tell the same. -/
structure Alike (m l : Lay) : Prop where
  secs : m.secs = l.secs
  sigs : m.sigs = l.sigs
  exits : m.exits.map Exm.pure = l.exits.map Exm.pure
  flanks : m.flanks = l.flanks
  t0 : m.t0 = l.t0
  t1 : m.t1 = l.t1
  t2 : m.t2 = l.t2
  t3 : m.t3 = l.t3
  t4 : m.t4 = l.t4
  t5 : m.t5 = l.t5
  t6 : m.t6 = l.t6
theorem owns_block {w : World} {base e size n c : Nat} {A : Option Addr} {xs : List Value} (h : w.ownsRow base e size (.slice A n c) n xs) : ∀ a, A = some a → base ≤ a.block ∧ a.block < w.heap.size := by
  intro a ha
  subst ha
  exact h.lt a.block rfl
/-- Eleven cells are laid over eleven. -/
abbrev over11 (W : World) (g : Nat) (v0 v1 v2 v3 v4 v5 v6 v7 v8 v9 v10 : Value) : World := (((((((((((W.setCell ⟨g, 0, none⟩ v0).setCell ⟨g, 1, none⟩ v1).setCell ⟨g, 2, none⟩ v2).setCell ⟨g, 3, none⟩ v3).setCell ⟨g, 4, none⟩ v4).setCell ⟨g, 5, none⟩ v5).setCell ⟨g, 6, none⟩ v6).setCell ⟨g, 7, none⟩ v7).setCell ⟨g, 8, none⟩ v8).setCell ⟨g, 9, none⟩ v9).setCell ⟨g, 10, none⟩ v10)
theorem over11_whole {W : World} {g : Nat} {t : TypeId} {c0 c1 c2 c3 c4 c5 c6 c7 c8 c9 c10 : Value} (v0 v1 v2 v3 v4 v5 v6 v7 v8 v9 v10 : Value) (h : Whole W g t [c0, c1, c2, c3, c4, c5, c6, c7, c8, c9, c10]) : Whole (over11 W g v0 v1 v2 v3 v4 v5 v6 v7 v8 v9 v10) g t [v0, v1, v2, v3, v4, v5, v6, v7, v8, v9, v10] :=
  ((((((((((h.set 0 v0).set 1 v1).set 2 v2).set 3 v3).set 4 v4).set 5 v5).set 6 v6).set 7 v7).set 8 v8).set 9 v9).set 10 v10
theorem over11_heap (W : World) (g : Nat) (v0 v1 v2 v3 v4 v5 v6 v7 v8 v9 v10 : Value) (k : Nat) (hk : k ≠ g) : (over11 W g v0 v1 v2 v3 v4 v5 v6 v7 v8 v9 v10).heap[k]? = W.heap[k]? := by
  exact (Below.heap_setCell _ ⟨g, 10, none⟩ v10 k hk).trans ((Below.heap_setCell _ ⟨g, 9, none⟩ v9 k hk).trans ((Below.heap_setCell _ ⟨g, 8, none⟩ v8 k hk).trans ((Below.heap_setCell _ ⟨g, 7, none⟩ v7 k hk).trans ((Below.heap_setCell _ ⟨g, 6, none⟩ v6 k hk).trans ((Below.heap_setCell _ ⟨g, 5, none⟩ v5 k hk).trans ((Below.heap_setCell _ ⟨g, 4, none⟩ v4 k hk).trans ((Below.heap_setCell _ ⟨g, 3, none⟩ v3 k hk).trans ((Below.heap_setCell _ ⟨g, 2, none⟩ v2 k hk).trans ((Below.heap_setCell _ ⟨g, 1, none⟩ v1 k hk).trans ((Below.heap_setCell _ ⟨g, 0, none⟩ v0 k hk).trans rfl))))))))))
theorem over11_size (W : World) (g : Nat) (v0 v1 v2 v3 v4 v5 v6 v7 v8 v9 v10 : Value) : (over11 W g v0 v1 v2 v3 v4 v5 v6 v7 v8 v9 v10).heap.size = W.heap.size := by simp [over11, World.setCell]
theorem over11_below {w W : World} {n : Nat} (h : Below n w W) {g : Nat} (hg : n ≤ g) (v0 v1 v2 v3 v4 v5 v6 v7 v8 v9 v10 : Value) : Below n w (over11 W g v0 v1 v2 v3 v4 v5 v6 v7 v8 v9 v10) :=
  (((((((((((h.setCell (p := ⟨g, 0, none⟩) hg v0).setCell (p := ⟨g, 1, none⟩) hg v1).setCell (p := ⟨g, 2, none⟩) hg v2).setCell (p := ⟨g, 3, none⟩) hg v3).setCell (p := ⟨g, 4, none⟩) hg v4).setCell (p := ⟨g, 5, none⟩) hg v5).setCell (p := ⟨g, 6, none⟩) hg v6).setCell (p := ⟨g, 7, none⟩) hg v7).setCell (p := ⟨g, 8, none⟩) hg v8).setCell (p := ⟨g, 9, none⟩) hg v9).setCell (p := ⟨g, 10, none⟩) hg v10)
/-- A row that lies elsewhere lies on. -/
theorem Row.elsewhere {W W' : World} {B : Nat} {A : Option Addr} {vs : List Value} (h : Row W B A vs) {g : Nat} (hA : ∀ a, A = some a → a.block ≠ g) (hk : ∀ k, k ≠ g → W'.heap[k]? = W.heap[k]?) : Row W' B A vs := fun hp => by
  obtain ⟨b, off, e, hb, hc⟩ := h hp
  exact ⟨b, off, e, hb, fun j u hu => (World.cell?_of_block (hk b (hA _ e))).trans (hc j u hu)⟩
theorem owns_elsewhere {W W' : World} {base e size n c : Nat} {A : Option Addr} {xs : List Value} (h : W.ownsRow base e size (.slice A n c) n xs) {g : Nat} (hA : ∀ a, A = some a → a.block ≠ g) (hk : ∀ k, k ≠ g → W'.heap[k]? = W.heap[k]?) : W'.ownsRow base e size (.slice A n c) n xs := by
  refine ⟨h.1, ?_⟩
  rcases h.2 with h2 | ⟨g', cap', cur, hv, h3, h4, r⟩
  · exact .inl h2
  · cases hv
    exact .inr ⟨g', _, cur, rfl, h3, (hk g' (hA _ rfl)).trans h4, r⟩
/-- Half way through Own: the copy's own block, its rows. -/
structure OwnMid (w : World) (l : Lay) (go : Nat) (AS : Option Addr) (kS : Nat) (AG : Option Addr) (kG : Nat) (AE : Option Addr) (kE : Nat) (AF : Option Addr) (kF : Nat) (W : World) : Prop where
  go_le : w.heap.size + 2 ≤ go
  own : Whole W go 29 [.slice AS l.secs.length kS, .slice AG l.sigs.length kG, .slice AE l.exits.length kE, .slice AF l.flanks.length kF, .int .i64 l.t0, .int .i64 l.t1, .int .i64 l.t2, .int .i64 l.t3, .int .i64 l.t4, .int .i64 l.t5, .int .i64 l.t6]
  S : Row W W.heap.size AS (l.secs.flatMap Sec.cells)
  G : Row W W.heap.size AG (l.sigs.flatMap prtCells)
  F : Row W W.heap.size AF (l.flanks.flatMap flkCells)
  E : W.ownsRow (w.heap.size + 2) 54 3 (.slice AE l.exits.length kE) l.exits.length (l.exits.flatMap Exm.cells)
  apart : ∀ a, AE = some a → a.block ≠ go ∧ (∀ b, AS = some b → b.block ≠ a.block) ∧ (∀ b, AG = some b → b.block ≠ a.block) ∧ (∀ b, AF = some b → b.block ≠ a.block)
  lowS : ∀ b, AS = some b → w.heap.size + 2 ≤ b.block
  lowG : ∀ b, AG = some b → w.heap.size + 2 ≤ b.block
  lowF : ∀ b, AF = some b → w.heap.size + 2 ≤ b.block
  res : Whole W (w.heap.size + 1) 29 [.slice none 0 0, .slice none 0 0, .slice none 0 0, .slice none 0 0, .int .i64 0, .int .i64 0, .int .i64 0, .int .i64 0, .int .i64 0, .int .i64 0, .int .i64 0]
  below : Below w.heap.size w W
theorem owns_row2 {w : World} {base e size n c : Nat} {A : Option Addr} {xs : List Value} (h : w.ownsRow base e size (.slice A n c) n xs) : Row w w.heap.size A xs := by
  obtain ⟨A', c', e, hr⟩ := owns_read h
  cases e
  exact hr
theorem own_mid {w W : World} {l : Lay} {go kS kG kE kF : Nat} {AS AG AE AF : Option Addr} (hgo : w.heap.size + 2 ≤ go) (hz : Whole W go 29 [.slice none 0 0, .slice none 0 0, .slice none 0 0, .slice none 0 0, .int .i64 0, .int .i64 0, .int .i64 0, .int .i64 0, .int .i64 0, .int .i64 0, .int .i64 0])
    (oS : Row W W.heap.size AS (l.secs.flatMap Sec.cells)) (oG : Row W W.heap.size AG (l.sigs.flatMap prtCells)) (oF : Row W W.heap.size AF (l.flanks.flatMap flkCells)) (oE : W.ownsRow (w.heap.size + 2) 54 3 (.slice AE l.exits.length kE) l.exits.length (l.exits.flatMap Exm.cells))
    (nS : ∀ a, AS = some a → a.block ≠ go ∧ w.heap.size + 2 ≤ a.block) (nG : ∀ a, AG = some a → a.block ≠ go ∧ w.heap.size + 2 ≤ a.block) (nF : ∀ a, AF = some a → a.block ≠ go ∧ w.heap.size + 2 ≤ a.block)
    (nE : ∀ a, AE = some a → a.block ≠ go ∧ (∀ b, AS = some b → b.block ≠ a.block) ∧ (∀ b, AG = some b → b.block ≠ a.block) ∧ (∀ b, AF = some b → b.block ≠ a.block))
    (hr : Whole W (w.heap.size + 1) 29 [.slice none 0 0, .slice none 0 0, .slice none 0 0, .slice none 0 0, .int .i64 0, .int .i64 0, .int .i64 0, .int .i64 0, .int .i64 0, .int .i64 0, .int .i64 0]) (hb : Below w.heap.size w W) :
    OwnMid w l go AS kS AG kG AE kE AF kF (over11 W go (.slice AS l.secs.length kS) (.slice AG l.sigs.length kG) (.slice AE l.exits.length kE) (.slice AF l.flanks.length kF) (.int .i64 l.t0) (.int .i64 l.t1) (.int .i64 l.t2) (.int .i64 l.t3) (.int .i64 l.t4) (.int .i64 l.t5) (.int .i64 l.t6)) := by
  have hk := over11_heap W go (.slice AS l.secs.length kS) (.slice AG l.sigs.length kG) (.slice AE l.exits.length kE) (.slice AF l.flanks.length kF) (.int .i64 l.t0) (.int .i64 l.t1) (.int .i64 l.t2) (.int .i64 l.t3) (.int .i64 l.t4) (.int .i64 l.t5) (.int .i64 l.t6)
  have hs := over11_size W go (.slice AS l.secs.length kS) (.slice AG l.sigs.length kG) (.slice AE l.exits.length kE) (.slice AF l.flanks.length kF) (.int .i64 l.t0) (.int .i64 l.t1) (.int .i64 l.t2) (.int .i64 l.t3) (.int .i64 l.t4) (.int .i64 l.t5) (.int .i64 l.t6)
  refine ⟨hgo, over11_whole _ _ _ _ _ _ _ _ _ _ _ hz, ?_, ?_, ?_, owns_elsewhere oE (fun a ha => (nE a ha).1) hk, nE, fun a ha => (nS a ha).2, fun a ha => (nG a ha).2, fun a ha => (nF a ha).2, (hk _ (by omega)).trans hr, over11_below hb (by omega) _ _ _ _ _ _ _ _ _ _ _⟩
  · rw [hs]; exact oS.elsewhere (fun a ha => (nS a ha).1) hk
  · rw [hs]; exact oG.elsewhere (fun a ha => (nG a ha).1) hk
  · rw [hs]; exact oF.elsewhere (fun a ha => (nF a ha).1) hk

theorem Row.elsewhere2 {W W' : World} {B : Nat} {A : Option Addr} {vs : List Value} (h : Row W B A vs) {g : Nat} (hA : 0 < vs.length → ∀ a, A = some a → a.block ≠ g) (hk : ∀ k, k ≠ g → W'.heap[k]? = W.heap[k]?) : Row W' B A vs := fun hp => by
  obtain ⟨b, off, e, hb, hc⟩ := h hp
  exact ⟨b, off, e, hb, fun j u hu => (World.cell?_of_block (hk b (hA hp _ e))).trans (hc j u hu)⟩
theorem flat_set {v : Value} {y : Exm} {tail : List Value} : ∀ (ex : List Exm) (j : Nat) (x : Exm), ex[j]? = some x → y.cells = x.cells.set 2 v → (ex.flatMap Exm.cells ++ tail).set (j * 3 + 2) v = (ex.set j y).flatMap Exm.cells ++ tail
  | [], j, x, h, _ => by simp at h
  | z :: ex, 0, x, h, hy => by
    simp only [List.getElem?_cons_zero, Option.some.injEq] at h
    subst h
    rw [List.set_cons_zero, List.flatMap_cons, List.flatMap_cons, hy]
    rfl
  | z :: ex, j + 1, x, h, hy => by
    rw [List.set_cons_succ, List.flatMap_cons, List.flatMap_cons, List.append_assoc, List.append_assoc, ← flat_set ex j x (by simpa using h) hy]
    have e : (j + 1) * 3 + 2 = z.cells.length + (j * 3 + 2) := by show _ = 3 + _; omega
    rw [e, List.set_append_right _ _ (Nat.le_add_right _ _), Nat.add_sub_cancel_left]
theorem map_set_same {α β : Type} (f : α → β) : ∀ (ex : List α) (j : Nat) (x y : α), ex[j]? = some x → f y = f x → (ex.set j y).map f = ex.map f
  | [], j, x, y, h, _ => rfl
  | z :: ex, 0, x, y, h, hy => by
    simp only [List.getElem?_cons_zero, Option.some.injEq] at h
    subst h
    rw [List.set_cons_zero, List.map_cons, List.map_cons, hy]
  | z :: ex, j + 1, x, y, h, hy => by rw [List.set_cons_succ, List.map_cons, List.map_cons, map_set_same f ex j x y (by simpa using h) hy]
/-- The copy under way: the exits ex as they lie now. -/
structure OwnLoop (w : World) (l : Lay) (go : Nat) (AS : Option Addr) (kS : Nat) (AG : Option Addr) (kG : Nat) (AE : Option Addr) (kE : Nat) (AF : Option Addr) (kF : Nat) (ex : List Exm) (W : World) : Prop where
  go_le : w.heap.size + 2 ≤ go
  own : Whole W go 29 [.slice AS l.secs.length kS, .slice AG l.sigs.length kG, .slice AE l.exits.length kE, .slice AF l.flanks.length kF, .int .i64 l.t0, .int .i64 l.t1, .int .i64 l.t2, .int .i64 l.t3, .int .i64 l.t4, .int .i64 l.t5, .int .i64 l.t6]
  S : Row W W.heap.size AS (l.secs.flatMap Sec.cells)
  G : Row W W.heap.size AG (l.sigs.flatMap prtCells)
  F : Row W W.heap.size AF (l.flanks.flatMap flkCells)
  len : ex.length = l.exits.length
  pure : ex.map Exm.pure = l.exits.map Exm.pure
  overs : ∀ x ∈ ex, Row W W.heap.size x.A (x.over.flatMap stpCells)
  nil : AE = Option.none → ex = []
  blk : ∀ a, AE = some a → ∃ g tail, a = ⟨g, 0, Option.none⟩ ∧ w.heap.size + 2 ≤ g ∧ Whole W g 54 (ex.flatMap Exm.cells ++ tail)
  apart : ∀ a, AE = some a → a.block ≠ go ∧ (∀ b, AS = some b → b.block ≠ a.block) ∧ (∀ b, AG = some b → b.block ≠ a.block) ∧ (∀ b, AF = some b → b.block ≠ a.block)
  far : ∀ x ∈ ex, 0 < x.over.length → ∀ b, x.A = some b → (b.block < w.heap.size ∨ w.heap.size + 2 ≤ b.block) ∧ ∀ a, AE = some a → b.block ≠ a.block
  lowS : ∀ b, AS = some b → w.heap.size + 2 ≤ b.block
  lowG : ∀ b, AG = some b → w.heap.size + 2 ≤ b.block
  lowF : ∀ b, AF = some b → w.heap.size + 2 ≤ b.block
  res : Whole W (w.heap.size + 1) 29 [.slice none 0 0, .slice none 0 0, .slice none 0 0, .slice none 0 0, .int .i64 0, .int .i64 0, .int .i64 0, .int .i64 0, .int .i64 0, .int .i64 0, .int .i64 0]
  below : Below w.heap.size w W
theorem OwnMid.loop {w W : World} {l : Lay} {go kS kG kE kF : Nat} {AS AG AE AF : Option Addr} (h : OwnMid w l go AS kS AG kG AE kE AF kF W) (hL : Lies l w) : OwnLoop w l go AS kS AG kG AE kE AF kF l.exits W := by
  have hLW := Lies.closed l _ _ hL h.below
  have hlow : ∀ a, AE = some a → w.heap.size + 2 ≤ a.block := fun a ha => by subst ha; exact (h.E.lt a.block rfl).1
  refine ⟨h.go_le, h.own, h.S, h.G, h.F, rfl, rfl, hLW.overs, fun e => ?_, fun a ha => ?_, h.apart, fun x hx hp b hb => ?_, h.lowS, h.lowG, h.lowF, h.res, h.below⟩
  · subst e
    rcases h.E.2 with ⟨_, h0⟩ | ⟨g, cap, cur, hv, _⟩
    · exact List.eq_nil_of_length_eq_zero h0
    · cases hv
  · subst ha
    rcases h.E.2 with ⟨hv, _⟩ | ⟨g, cap, cur, hv, h1, h2, h3, h4, h5, h6⟩
    · cases hv
    · cases hv
      refine ⟨g, cur.toList.drop (l.exits.length * 3), rfl, h1, ?_⟩
      rw [← h6, List.take_append_drop]
      show W.heap[g]? = _
      rw [h2]
  · obtain ⟨b', off, e, hlt, _⟩ := hL.overs x hx (by rw [flat_length (n := 3) (fun _ => rfl)]; omega)
    rw [hb] at e
    cases e
    exact ⟨.inl hlt, fun a ha => by have := hlow a ha; show b' ≠ _; omega⟩
/-- Behind one exit more. -/
theorem OwnLoop.next {w W W3 : World} {l : Lay} {go kS kG kE kF : Nat} {AS AG AE AF : Option Addr} {ex : List Exm} (h : OwnLoop w l go AS kS AG kG AE kE AF kF ex W) {j : Nat} {x : Exm} (hx : ex[j]? = some x) {g : Nat} (hg : AE = some ⟨g, 0, Option.none⟩) (hB : Below W.heap.size W W3) {An : Option Addr} {cn : Nat}
    (ho : W3.ownsRow W.heap.size 56 3 (.slice An x.over.length cn) x.over.length (x.over.flatMap stpCells)) : OwnLoop w l go AS kS AG kG AE kE AF kF (ex.set j { x with A := An, c := cn }) (W3.setCell ⟨g, j * 3 + 2, Option.none⟩ (.slice An x.over.length cn)) := by
  obtain ⟨g', tail, e, hgl, hW⟩ := h.blk _ hg
  cases e
  have hk : ∀ k, k ≠ g → (W3.setCell ⟨g, j * 3 + 2, Option.none⟩ (.slice An x.over.length cn)).heap[k]? = W3.heap[k]? := fun k hk => Below.heap_setCell _ _ _ _ hk
  have hsz : (W3.setCell ⟨g, j * 3 + 2, Option.none⟩ (.slice An x.over.length cn)).heap.size = W3.heap.size := by simp [World.setCell]
  have hAp := h.apart _ hg
  have hgW := hW.lt
  have hblk := owns_block ho
  have hWs := h.below.size
  have hres := h.res.lt
  refine ⟨h.go_le, (hk _ (fun e => hAp.1 e.symm)).trans (h.own.below hB h.own.lt), ?_, ?_, ?_, by simp [h.len], ?_, ?_, (fun e => by rw [hg] at e; cases e), fun a ha => ?_, h.apart, ?_, h.lowS, h.lowG, h.lowF, (hk _ (by omega)).trans (h.res.below hB h.res.lt), (h.below.trans (hB.mono h.below.size)).setCell (p := ⟨g, j * 3 + 2, Option.none⟩) (by show w.heap.size ≤ g; omega) _⟩
  · rw [hsz]; exact (h.S.on hB).elsewhere hAp.2.1 hk
  · rw [hsz]; exact (h.G.on hB).elsewhere hAp.2.2.1 hk
  · rw [hsz]; exact (h.F.on hB).elsewhere hAp.2.2.2 hk
  · rw [map_set_same Exm.pure ex j x { x with A := An, c := cn } hx rfl, h.pure]
  · intro y hy
    rw [hsz]
    rcases List.mem_or_eq_of_mem_set hy with hy | rfl
    · exact ((h.overs y hy).on hB).elsewhere2 (fun hp b hb => (h.far y hy (by rw [flat_length (n := 3) (fun _ => rfl)] at hp; omega) b hb).2 _ hg) hk
    · exact (owns_row2 ho).elsewhere (fun b hb => by have := hblk b hb; omega) hk
  · rw [hg] at ha
    cases ha
    refine ⟨g, tail, rfl, hgl, ?_⟩
    have := (hW.below hB hW.lt).set (j * 3 + 2) (.slice An x.over.length cn)
    rw [flat_set (v := .slice An x.over.length cn) (y := { x with A := An, c := cn }) ex j x hx rfl] at this
    exact this
  · intro y hy hp b hb
    rcases List.mem_or_eq_of_mem_set hy with hy | rfl
    · exact h.far y hy hp b hb
    · have := hblk b hb
      exact ⟨.inr (by omega), fun a ha => by rw [hg] at ha; cases ha; show b.block ≠ g; omega⟩

theorem own_end {w W : World} {l : Lay} {go kS kG kE kF : Nat} {AS AG AE AF : Option Addr} {ex : List Exm} (h : OwnLoop w l go AS kS AG kG AE kE AF kF ex W) (hL : Lies l w) {v0 v1 v2 v3 v4 v5 v6 v7 v8 v9 v10 : Value} :
    ∃ m : Lay, Ending.returned (.agg #[.slice AS l.secs.length kS, .slice AG l.sigs.length kG, .slice AE l.exits.length kE, .slice AF l.flanks.length kF, .int .i64 l.t0, .int .i64 l.t1, .int .i64 l.t2, .int .i64 l.t3, .int .i64 l.t4, .int .i64 l.t5, .int .i64 l.t6]) = .returned m.val ∧ Lies m (over11 W (w.heap.size + 1) v0 v1 v2 v3 v4 v5 v6 v7 v8 v9 v10) ∧ Alike m l ∧ Below w.heap.size w (over11 W (w.heap.size + 1) v0 v1 v2 v3 v4 v5 v6 v7 v8 v9 v10) := by
  have hk := over11_heap W (w.heap.size + 1) v0 v1 v2 v3 v4 v5 v6 v7 v8 v9 v10
  have hs := over11_size W (w.heap.size + 1) v0 v1 v2 v3 v4 v5 v6 v7 v8 v9 v10
  have hbl := over11_below h.below (show w.heap.size ≤ w.heap.size + 1 by omega) v0 v1 v2 v3 v4 v5 v6 v7 v8 v9 v10
  generalize over11 W (w.heap.size + 1) v0 v1 v2 v3 v4 v5 v6 v7 v8 v9 v10 = Wf at *
  have hlen := h.len
  refine ⟨⟨l.secs, AS, kS, l.sigs, AG, kG, ex, AE, kE, l.flanks, AF, kF, l.t0, l.t1, l.t2, l.t3, l.t4, l.t5, l.t6⟩, by show _ = Ending.returned (.agg #[_, _, .slice AE ex.length kE, _, _, _, _, _, _, _, _]); rw [hlen], ⟨?_, ?_, ?_, ?_, ?_, hL.kinds, hL.nS, hL.nG, by show (ex.length : Int) ≤ _; rw [hlen]; exact hL.nE, hL.nF, ?_⟩, ⟨rfl, rfl, h.pure, rfl, rfl, rfl, rfl, rfl, rfl, rfl, rfl⟩, hbl⟩
  · rw [hs]; exact h.S.elsewhere (fun a ha => by have := h.lowS a ha; omega) hk
  · rw [hs]; exact h.G.elsewhere (fun a ha => by have := h.lowG a ha; omega) hk
  · rw [hs]
    show Row _ _ AE (ex.flatMap Exm.cells)
    cases AE with
    | none => rw [h.nil rfl]; exact Row.nil _ _ _
    | some a =>
      obtain ⟨g, tail, rfl, hg, hW⟩ := h.blk _ rfl
      intro hp
      refine ⟨g, 0, rfl, hW.lt, fun j u hu => ?_⟩
      rw [Nat.zero_add]
      refine (World.cell?_of_block (hk g (by omega))).trans (hW.cell_at j ?_)
      rw [List.getElem?_append_left (List.getElem?_eq_some_iff.1 hu).1]
      exact hu
  · rw [hs]; exact h.F.elsewhere (fun a ha => by have := h.lowF a ha; omega) hk
  · intro x hx
    rw [hs]
    exact (h.overs x hx).elsewhere2 (fun hp b hb => by
      have := (h.far x hx (by rw [flat_length (n := 3) (fun _ => rfl)] at hp; omega) b hb).1
      omega) hk
  · intro x hx
    have h1 : x.pure ∈ l.exits.map Exm.pure := by rw [← h.pure]; exact List.mem_map_of_mem hx
    obtain ⟨y, hy, e⟩ := List.mem_map.1 h1
    have h3 : y.over = x.over := congrArg (fun p => p.2.2) e
    rw [← h3]
    exact hL.nO y hy

end Go.Proofs.YtbdbgoploednbaaDoor
namespace Go.Proofs.YtbdbgoploednbaaDoor
open Go.RowKit Go.Shelf
set_option linter.unusedVariables false
set_option linter.unusedSimpArgs false

def lineL (s : Nat) : Lay := ⟨[⟨1, (-1), 0, 1, 0, (-1), 0, (-1), 0, 0, 0⟩, ⟨2, 0, 1, 2, 0, 3, 0, (-1), 0, 0, 1⟩, ⟨1, 1, 1, (-1), 0, (-1), 0, (-1), 0, 0, 0⟩, ⟨1, 1, 2, (-1), 0, (-1), 0, (-1), 0, 0, 0⟩], some ⟨s + 1 + 1 + 1, 0, none⟩, 4, [(0, 0)], some ⟨s + 1 + 1 + 1 + 1, 0, none⟩, 1, [⟨1, 1, some ⟨s + 1 + 1 + 1 + 1 + 1, 0, none⟩, 1, [(2, 0, 1)]⟩, ⟨3, 1, none, 0, []⟩], some ⟨s + 1 + 1 + 1 + 1 + 1 + 1, 0, none⟩, 2, [], none, 0, 1, 1, 1, 1, 1, 1, 1⟩
/-- The line with a port too many. -/
def badL (s : Nat) : Lay := ⟨[⟨1, (-1), 0, 1, 0, 1, 0, (-1), 0, 0, 0⟩, ⟨2, 0, 1, 2, 0, 3, 0, (-1), 0, 0, 1⟩, ⟨1, 1, 1, (-1), 0, (-1), 0, (-1), 0, 0, 0⟩, ⟨1, 1, 2, (-1), 0, (-1), 0, (-1), 0, 0, 0⟩], some ⟨s + 1 + 1 + 1, 0, none⟩, 4, [(0, 0)], some ⟨s + 1 + 1 + 1 + 1, 0, none⟩, 1, [⟨1, 1, some ⟨s + 1 + 1 + 1 + 1 + 1, 0, none⟩, 1, [(2, 0, 1)]⟩, ⟨3, 1, none, 0, []⟩], some ⟨s + 1 + 1 + 1 + 1 + 1 + 1, 0, none⟩, 2, [], none, 0, 1, 1, 1, 1, 1, 1, 1⟩
theorem bad_cells (s : Nat) : (badL s).cells = (lineL s).cells := rfl
structure LineAt (s : Nat) (w : World) : Prop where
  secs : Whole w (s + 1 + 1 + 1) 52 [.int .u8 1, .int .i64 (-1), .int .i64 0, .int .i64 1, .int .i64 0, .int .i64 (-1), .int .i64 0, .int .i64 (-1), .int .i64 0, .int .i64 0, .int .i64 0, .int .u8 2, .int .i64 0, .int .i64 1, .int .i64 2, .int .i64 0, .int .i64 3, .int .i64 0, .int .i64 (-1), .int .i64 0, .int .i64 0, .int .i64 1, .int .u8 1, .int .i64 1, .int .i64 1, .int .i64 (-1), .int .i64 0, .int .i64 (-1), .int .i64 0, .int .i64 (-1), .int .i64 0, .int .i64 0, .int .i64 0, .int .u8 1, .int .i64 1, .int .i64 2, .int .i64 (-1), .int .i64 0, .int .i64 (-1), .int .i64 0, .int .i64 (-1), .int .i64 0, .int .i64 0, .int .i64 0]
  sigs : Whole w (s + 1 + 1 + 1 + 1) 76 [.int .i64 0, .int .i64 0]
  over : Whole w (s + 1 + 1 + 1 + 1 + 1) 56 [.int .i64 2, .int .i64 0, .int .i64 1]
  exits : Whole w (s + 1 + 1 + 1 + 1 + 1 + 1) 54 [.int .i64 1, .int .i64 1, .slice (some ⟨s + 1 + 1 + 1 + 1 + 1, 0, none⟩) 1 1, .int .i64 3, .int .i64 1, .slice none 0 0]
theorem LineAt.lies {s : Nat} {w : World} (h : LineAt s w) : Lies (lineL s) w :=
  ⟨h.secs.row h.secs.lt, h.sigs.row h.sigs.lt, h.exits.row h.exits.lt, Row.nil _ _ _, fun x hx => by
    simp only [lineL, List.mem_cons, List.not_mem_nil, or_false] at hx
    rcases hx with rfl | rfl
    · exact h.over.row h.over.lt
    · exact Row.nil _ _ _, by intro x hx; simp only [lineL, List.mem_cons, List.not_mem_nil, or_false] at hx; rcases hx with rfl | rfl | rfl | rfl <;> decide, by simp [lineL], by simp [lineL], by simp [lineL], by simp [lineL], fun x hx => by
    simp only [lineL, List.mem_cons, List.not_mem_nil, or_false] at hx
    rcases hx with rfl | rfl
    · show (1 : Int) ≤ _; omega
    · show (0 : Int) ≤ _; omega⟩
/-- Behind the store of a port too many. -/
theorem LineAt.bad {s : Nat} {w W : World} (h : LineAt s w) (hk : ∀ k, k < w.heap.size → k ≠ s + 1 + 1 + 1 → W.heap[k]? = w.heap[k]?) (hW : Whole W (s + 1 + 1 + 1) 52 [.int .u8 1, .int .i64 (-1), .int .i64 0, .int .i64 1, .int .i64 0, .int .i64 1, .int .i64 0, .int .i64 (-1), .int .i64 0, .int .i64 0, .int .i64 0, .int .u8 2, .int .i64 0, .int .i64 1, .int .i64 2, .int .i64 0, .int .i64 3, .int .i64 0, .int .i64 (-1), .int .i64 0, .int .i64 0, .int .i64 1, .int .u8 1, .int .i64 1, .int .i64 1, .int .i64 (-1), .int .i64 0, .int .i64 (-1), .int .i64 0, .int .i64 (-1), .int .i64 0, .int .i64 0, .int .i64 0, .int .u8 1, .int .i64 1, .int .i64 2, .int .i64 (-1), .int .i64 0, .int .i64 (-1), .int .i64 0, .int .i64 (-1), .int .i64 0, .int .i64 0, .int .i64 0]) : Lies (badL s) W := by
  have h1 : Whole W (s + 1 + 1 + 1 + 1) 76 [.int .i64 0, .int .i64 0] := (hk _ h.sigs.lt (by omega)).trans h.sigs
  have h2 : Whole W (s + 1 + 1 + 1 + 1 + 1) 56 [.int .i64 2, .int .i64 0, .int .i64 1] := (hk _ h.over.lt (by omega)).trans h.over
  have h3 : Whole W (s + 1 + 1 + 1 + 1 + 1 + 1) 54 [.int .i64 1, .int .i64 1, .slice (some ⟨s + 1 + 1 + 1 + 1 + 1, 0, none⟩) 1 1, .int .i64 3, .int .i64 1, .slice none 0 0] := (hk _ h.exits.lt (by omega)).trans h.exits
  exact ⟨hW.row hW.lt, h1.row h1.lt, h3.row h3.lt, Row.nil _ _ _, fun x hx => by
    simp only [badL, List.mem_cons, List.not_mem_nil, or_false] at hx
    rcases hx with rfl | rfl
    · exact h2.row h2.lt
    · exact Row.nil _ _ _, by intro x hx; simp only [badL, List.mem_cons, List.not_mem_nil, or_false] at hx; rcases hx with rfl | rfl | rfl | rfl <;> decide, by simp [badL], by simp [badL], by simp [badL], by simp [badL], fun x hx => by
    simp only [badL, List.mem_cons, List.not_mem_nil, or_false] at hx
    rcases hx with rfl | rfl
    · show (1 : Int) ≤ _; omega
    · show (0 : Int) ≤ _; omega⟩

theorem seven (w : World) (o0 o1 o2 o3 o4 o5 o6 : Obj) : ∃ W, (((((((w.alloc o0).alloc o1).alloc o2).alloc o3).alloc o4).alloc o5).alloc o6) = W ∧ Below w.heap.size w W ∧ W.heap.size = w.heap.size + 1 + 1 + 1 + 1 + 1 + 1 + 1 ∧
    W.heap[w.heap.size]? = some o0 ∧ W.heap[w.heap.size + 1 + 1 + 1]? = some o3 ∧ W.heap[w.heap.size + 1 + 1 + 1 + 1]? = some o4 ∧ W.heap[w.heap.size + 1 + 1 + 1 + 1 + 1]? = some o5 ∧ W.heap[w.heap.size + 1 + 1 + 1 + 1 + 1 + 1]? = some o6 := by
  have hn : ∀ (u : World) (o : Obj) (n : Nat), n = u.heap.size → (u.alloc o).heap[n]? = some o := fun u o n hn => by subst hn; exact World.alloc_heap_new u o
  have hk : ∀ (u : World) (o o' : Obj) (n : Nat), u.heap[n]? = some o' → (u.alloc o).heap[n]? = some o' := fun u o o' n h => (Below.heap_alloc u o n (Array.getElem?_eq_some_iff.1 h).1).trans h
  refine ⟨_, rfl, ((((((below1 w _).alloc (by simp; try omega) _).alloc (by simp; try omega) _).alloc (by simp; try omega) _).alloc (by simp; try omega) _).alloc (by simp; try omega) _).alloc (by simp; try omega) _, by simp, ?_, ?_, ?_, ?_, ?_⟩
  · exact hk _ _ _ _ (hk _ _ _ _ (hk _ _ _ _ (hk _ _ _ _ (hk _ _ _ _ (hk _ _ _ _ (hn w o0 _ rfl))))))
  · exact hk _ _ _ _ (hk _ _ _ _ (hk _ _ _ _ (hn _ o3 _ (by simp))))
  · exact hk _ _ _ _ (hk _ _ _ _ (hn _ o4 _ (by simp)))
  · exact hk _ _ _ _ (hn _ o5 _ (by simp))
  · exact hn _ o6 _ (by simp)

end Go.Proofs.YtbdbgoploednbaaDoor
namespace Go.Proofs.YtbdbgoploednbaaDoor
open Go.RowKit Go.Shelf
set_option linter.unusedVariables false
set_option linter.unusedSimpArgs false

section
variable {l : Lay} {w : World} (hT : Shapes w) (hL : Lies l w)
include hT hL
theorem step_B (s i o : Int) {v : Int} {r : Bool} (hv : wayK (kindV l s) i o = v) (hr : stepV l s i o = r) : Calls Tryd.prog 80 #[l.val, stpV s i o] w fun e w' => e = .returned (.tuple #[.int .i64 v, .bool r]) ∧ Below w.heap.size w w' :=
  step_P (P := fun W => Below w.heap.size w W) (Closed.below w) (fun W h => Shapes.closed _ _ hT h) (fun W h => Lies.closed l _ _ hL h) s i o hv hr (Below.refl _ _)
end
theorem keepR {R : World → Prop} (hR : Closed R) {f : FuncId} {args : Array Value} {w : World} {v : Value} (h : Calls Tryd.prog f args w fun e w' => e = .returned v ∧ Below w.heap.size w w') (hw : R w) : Calls Tryd.prog f args w fun e w' => e = .returned v ∧ R w' := h.mono fun e w' ⟨he, hB⟩ => ⟨he, hR _ _ hw hB⟩
theorem alike_same {m l : Lay} (h : Alike m l) : sameV m l = true := by
  unfold sameV sameT
  rw [h.secs, h.sigs, h.exits, h.flanks, h.t0, h.t1, h.t2, h.t3, h.t4, h.t5, h.t6]
  simp
/-- A layout without rows. -/
def bareL (l : Lay) : Lay := ⟨[], none, 0, [], none, 0, [], none, 0, [], none, 0, l.t0, l.t1, l.t2, l.t3, l.t4, l.t5, l.t6⟩
def oneSig (l : Lay) (g : Nat) : Lay := ⟨[], none, 0, [(0, 0)], some ⟨g, 0, none⟩, 1, [], none, 0, [], none, 0, l.t0, l.t1, l.t2, l.t3, l.t4, l.t5, l.t6⟩
def zeroL : Lay := ⟨[], none, 0, [], none, 0, [], none, 0, [], none, 0, 0, 0, 0, 0, 0, 0, 0⟩
theorem bare_lies (l : Lay) (w : World) : Lies (bareL l) w := ⟨Row.nil _ _ _, Row.nil _ _ _, Row.nil _ _ _, Row.nil _ _ _, (fun x hx => by cases hx), (fun x hx => by cases hx), by simp [bareL], by simp [bareL], by simp [bareL], by simp [bareL], (fun x hx => by cases hx)⟩
theorem zero_lies (w : World) : Lies zeroL w := ⟨Row.nil _ _ _, Row.nil _ _ _, Row.nil _ _ _, Row.nil _ _ _, (fun x hx => by cases hx), (fun x hx => by cases hx), by simp [zeroL], by simp [zeroL], by simp [zeroL], by simp [zeroL], (fun x hx => by cases hx)⟩
theorem oneSig_lies (l : Lay) {w : World} {g : Nat} (h : Whole w g 76 [.int .i64 0, .int .i64 0]) : Lies (oneSig l g) w := ⟨Row.nil _ _ _, h.row h.lt, Row.nil _ _ _, Row.nil _ _ _, (fun x hx => by cases hx), (fun x hx => by cases hx), by simp [oneSig], by show (1 : Int) ≤ _; omega, by simp [oneSig], by simp [oneSig], (fun x hx => by cases hx)⟩

section
variable {P : World → Prop} {w : World}
end
end Go.Proofs.YtbdbgoploednbaaDoor
namespace Go.Proofs.YtbdbgoploednbaaDoor
open Go.RowKit Go.Shelf
set_option linter.unusedVariables false
set_option linter.unusedSimpArgs false

theorem keep_lay {l : Lay} {w : World} (hT : Shapes w) (hL : Lies l w) : ∃ P : World → Prop, Hid (Closed P) ∧ Hid (∀ W, P W → Shapes W) ∧ Hid (∀ W, P W → Lies l W) ∧ Hid (∀ W, P W → Below w.heap.size w W) ∧ P w :=
  ⟨fun W => (Shapes W ∧ Lies l W) ∧ Below w.heap.size w W, Lib.hid ((Closed.and (fun _ _ => Shapes.closed _ _) (fun _ _ => Lies.closed l _ _)).and (Closed.below w)), Lib.hid (fun _ h => h.1.1), Lib.hid (fun _ h => h.1.2), Lib.hid (fun _ h => h.2), ⟨⟨hT, hL⟩, Below.refl _ _⟩⟩
theorem goesK_cases {k i o : Int} (h : goesK k i o = true) : 0 ≤ i ∧ i < pK k ∧ 0 ≤ o ∧ o < pK k := by
  have hs := shapeK k
  unfold goesK at h
  revert h hs
  generalize pK k = p
  generalize nK k = n
  generalize bK k = b
  generalize cK k = c
  generalize dK k = d
  intro h hs
  unfold IsShape at hs
  rcases hs with ⟨_, rfl, rfl, _, rfl, rfl, rfl⟩ | ⟨_, rfl, rfl, _, rfl, rfl, rfl⟩ | ⟨_, rfl, rfl, _, rfl, rfl, rfl⟩ | ⟨_, rfl, rfl, _, rfl, rfl, rfl⟩
  · simp [goesV, joinV] at h; omega
  · simp [goesV, joinV] at h; omega
  · simp [goesV, joinV] at h; omega
  · simp [goesV] at h
theorem step_there {l : Lay} {s i o : Int} (h : stepV l s i o = true) : thereV l s i = true ∧ thereV l s o = true := by
  obtain ⟨h1, h2, h3, h4⟩ := goesK_cases h
  unfold thereV
  rw [withinA_iff, withinA_iff]
  omega
theorem wayK_none {k i o : Int} (h : goesK k i o = false) : wayK k i o = 0 := wayV_none h
theorem joinV_comm' (a b i o : Int) : joinV a b o i = joinV a b i o := by unfold joinV; exact Bool.or_comm _ _
theorem wayK_comm (k i o : Int) : wayK k o i = wayK k i o := by unfold wayK wayV; rw [joinV_comm' 0 (bK k) i o, joinV_comm' (cK k) (dK k) i o]
theorem goesK_comm (k i o : Int) : goesK k o i = goesK k i o := by unfold goesK goesV; rw [joinV_comm' 0 (bK k) i o, joinV_comm' (cK k) (dK k) i o]
theorem atV_kind {l : Lay} {s p : Int} (h : thereV l s p = true) : (atV l s p).k = kindV l s := by
  obtain ⟨j, rfl, hx⟩ := atV_yes h
  exact (kindV_at hx).symm

end Go.Proofs.YtbdbgoploednbaaDoor
namespace Go.Proofs.YtbdbgoploednbaaDoor
open Go.RowKit Go.Shelf
set_option linter.unusedVariables false
set_option linter.unusedSimpArgs false

theorem eql_prt (w : World) (a b c e : Int) : (binOp .eql 48 (prtV a b) (prtV c e)).run Tryd.prog w = .ok (.bool (a == c && b == e)) w := by rw [run_eql_struct, eq_prt w 9998]; rfl
theorem neq_prt (w : World) (a b c e : Int) : (binOp .neq 48 (prtV a b) (prtV c e)).run Tryd.prog w = .ok (.bool (!(a == c && b == e))) w := by rw [run_neq_struct, eq_prt w 9998]; rfl
theorem isP_eq {s p : Int} {x : Int × Int} (h : isP s p x = true) : x = (s, p) := by
  unfold isP at h
  rw [Bool.and_eq_true, beq_iff_eq, beq_iff_eq] at h
  exact Prod.ext h.1 h.2

theorem neq_self (w : World) (a b : Int) : (binOp .neq 48 (prtV a b) (prtV a b)).run Tryd.prog w = .ok (.bool false) w := by rw [neq_prt]; simp
theorem sig_cells {Q : World → Prop} {l : Lay} (hQL : ∀ W, Q W → Lies l W) {W0 : World} (h0 : Q W0) {j : Nat} {x : Int × Int} (hx : l.sigs[j]? = some x) :
    ∃ o1 o2, Hid (l.Ag = some ⟨o1, o2, none⟩) ∧ Hid (∀ W, Q W → W.cell? ⟨o1, o2 + j * 2, none⟩ = some (.int .i64 x.1)) ∧ Hid (∀ W, Q W → W.cell? ⟨o1, o2 + j * 2 + 1, none⟩ = some (.int .i64 x.2)) := by
  obtain ⟨o1, o2, hA, _, _, _⟩ := (hQL _ h0).sigs.nth (n := 2) (fun _ => rfl) (by omega) hx
  refine ⟨o1, o2, Lib.hid hA, Lib.hid fun W hW => ?_, Lib.hid fun W hW => ?_⟩
  all_goals
    obtain ⟨p1, p2, hA', ho', hc0', hc'⟩ := (hQL _ hW).sigs.nth (n := 2) (fun _ => rfl) (by omega) hx
    rw [hA] at hA'
    cases hA'
  · exact hc0' j x _ hx rfl
  · exact hc' j x 1 _ hx rfl
theorem exit_cells {Q : World → Prop} {l : Lay} (hQL : ∀ W, Q W → Lies l W) {W0 : World} (h0 : Q W0) {j : Nat} {x : Exm} (hx : l.exits[j]? = some x) :
    ∃ o1 o2, Hid (l.Ae = some ⟨o1, o2, none⟩) ∧ Hid (∀ W, Q W → W.cell? ⟨o1, o2 + j * 3, none⟩ = some (.int .i64 x.s)) ∧ Hid (∀ W, Q W → W.cell? ⟨o1, o2 + j * 3 + 1, none⟩ = some (.int .i64 x.q)) := by
  obtain ⟨o1, o2, hA, _, _, _⟩ := (hQL _ h0).exits.nth (n := 3) (fun _ => rfl) (by omega) hx
  refine ⟨o1, o2, Lib.hid hA, Lib.hid fun W hW => ?_, Lib.hid fun W hW => ?_⟩
  all_goals
    obtain ⟨p1, p2, hA', ho', hc0', hc'⟩ := (hQL _ hW).exits.nth (n := 3) (fun _ => rfl) (by omega) hx
    rw [hA] at hA'
    cases hA'
  · exact hc0' j x _ hx rfl
  · exact hc' j x 1 _ hx rfl

end Go.Proofs.YtbdbgoploednbaaDoor
namespace Go.Proofs.YtbdbgoploednbaaDoor
open Go.RowKit Go.Shelf
set_option linter.unusedVariables false
set_option linter.unusedSimpArgs false

theorem at_cases (l : Lay) (s p : Int) : (thereV l s p = false ∧ s < 0) ∨ (thereV l s p = false ∧ 0 ≤ s ∧ (l.secs.length : Int) ≤ s) ∨ ∃ (j : Nat) (y : Sec), s = j ∧ l.secs[j]? = some y ∧ (j : Int) < l.secs.length ∧
    ((thereV l s p = false ∧ p < 0) ∨ (thereV l s p = false ∧ 0 ≤ p ∧ pK y.k ≤ p) ∨ (thereV l s p = true ∧ atV l s p = y ∧ 0 ≤ p ∧ p < pK y.k)) := by
  have hz : ∀ q, kindV l s = 0 → thereV l s q = false := fun q h => by
    cases hh : thereV l s q
    · rfl
    · unfold thereV at hh
      rw [h, withinA_iff] at hh
      have : pK 0 = 0 := rfl
      omega
  by_cases h0 : s < 0
  · exact .inl ⟨hz _ (kindV_no (by omega)), h0⟩
  by_cases h1 : (l.secs.length : Int) ≤ s
  · exact .inr (.inl ⟨hz _ (kindV_no (by omega)), by omega, h1⟩)
  obtain ⟨j, rfl⟩ : ∃ j : Nat, s = j := ⟨s.toNat, by omega⟩
  have hy : l.secs[j]? = some (l.secs[j]'(by omega)) := List.getElem?_eq_getElem (by omega)
  refine .inr (.inr ⟨j, _, rfl, hy, by omega, ?_⟩)
  generalize l.secs[j]'(by omega) = y at hy
  have hk := kindV_at hy
  by_cases h2 : 0 ≤ p ∧ p < pK y.k
  · have ht : thereV l j p = true := by unfold thereV; rw [hk, withinA_iff]; omega
    refine .inr (.inr ⟨ht, ?_, h2.1, h2.2⟩)
    unfold atV
    rw [if_pos ht, Int.toNat_natCast, hy]
    rfl
  · have ht : thereV l j p = false := by
      cases hh : thereV l j p
      · rfl
      · unfold thereV at hh
        rw [hk, withinA_iff] at hh
        omega
    by_cases h3 : p < 0
    · exact .inl ⟨ht, h3⟩
    · exact .inr (.inl ⟨ht, by omega, by omega⟩)

section
variable {P : World → Prop} {w : World}
set_option maxRecDepth 100000 in
set_option maxHeartbeats 8000000 in
theorem atR_P (hP : Closed P) {l : Lay} (hL : ∀ w, P w → Lies l w) (s p : Int) {x : Sec} {r : Bool} (hx : atV l s p = x) (hr : thereV l s p = r) (h : P w) :
    Calls Tryd.prog 51 #[l.val, prtV s p] w fun e w' => e = .returned (.tuple #[x.val, .bool r]) ∧ P w' := by
  obtain ⟨Q, HQ, HQp, HQl, HQv, HQr, HQb, hq⟩ := keep_box3 hP h 29 48 52 l.cells (prtCells (s, p)) [.int .u8 0, .int .i64 0, .int .i64 0, .int .i64 0, .int .i64 0, .int .i64 0, .int .i64 0, .int .i64 0, .int .i64 0, .int .i64 0, .int .i64 0]
  have HQL : Hid (∀ W, Q W → Lies l W) := Lib.hid fun W hW => hL _ (HQp.out _ hW)
  have HPP := Lib.hid (fun W (hB : Below w.heap.size w W) => hP _ _ h hB)
  clear h
  have hcase := at_cases l s p
  have hzz := fun h => atV_no (l := l) (s := s) (p := p) h
  rw [hx, hr] at hcase
  rw [hx, hr] at hzz
  clear hx hr hL hP
  rcases hcase with ⟨rfl, h1⟩ | ⟨rfl, h1, h2⟩ | ⟨j, y, rfl, hy, hlt, ⟨rfl, h1⟩ | ⟨rfl, h1, h2⟩ | ⟨rfl, exy, h1, h2⟩⟩
  · obtain rfl := hzz rfl
    clear hzz
    have d1 := decide_eq_true h1
    clear h1
    have HS := Lib.hid (HQ.out.drew hq)
    clear hq
    go_enter Tryd.func51, Tryd.ntmps51
    go_wp2_with fail
    refine region_steady (Q) 28 (by kernel_rfl) (by kernel_rfl) HS.out ?_
    simp only [List.take_succ_cons, List.take_zero, List.drop_succ_cons, List.drop_zero]
    repeat (first | (refine steady_skip (by rfl) ?_; simp only [Act.put, List.setIfInBounds_toArray, List.set_cons_zero, List.set_cons_succ]) | (refine steady_read _ (by rfl) (fun W hW => by (have m0 := HQl.out _ hW; have x0 := m0.cell_at 0 rfl; have x1 := m0.cell_at 1 rfl; have x2 := m0.cell_at 2 rfl; have x3 := m0.cell_at 3 rfl; have x4 := m0.cell_at 4 rfl; have x5 := m0.cell_at 5 rfl; have x6 := m0.cell_at 6 rfl; have x7 := m0.cell_at 7 rfl; have x8 := m0.cell_at 8 rfl; have x9 := m0.cell_at 9 rfl; have x10 := m0.cell_at 10 rfl; clear m0; have m1 := HQv.out _ hW; have v0 := m1.cell_at 0 rfl; have v1 := m1.cell_at 1 rfl; clear m1; go_simp; first | done | with_reducible rfl)) ?_; simp only [Act.put, List.setIfInBounds_toArray, List.set_cons_zero, List.set_cons_succ]))
    refine steady_nil (fun W hW => ?_)
    have hq := hW
    clear hW
    have hW := HQr.out _ hq
    have f0 := hW.frozen 0
    have f1 := hW.frozen 1
    have f2 := hW.frozen 2
    have f3 := hW.frozen 3
    have f4 := hW.frozen 4
    have f5 := hW.frozen 5
    have f6 := hW.frozen 6
    have f7 := hW.frozen 7
    have f8 := hW.frozen 8
    have f9 := hW.frozen 9
    have f10 := hW.frozen 10
    have z0 := hW.cell_at 0 rfl
    have z1 := hW.cell_at 1 rfl
    have z2 := hW.cell_at 2 rfl
    have z3 := hW.cell_at 3 rfl
    have z4 := hW.cell_at 4 rfl
    have z5 := hW.cell_at 5 rfl
    have z6 := hW.cell_at 6 rfl
    have z7 := hW.cell_at 7 rfl
    have z8 := hW.cell_at 8 rfl
    have z9 := hW.cell_at 9 rfl
    have z10 := hW.cell_at 10 rfl
    go_wp2_with fail
    have hWo := whole_over (a := Sec.zero) (b := Sec.zero) hW
    have hBo := below_over (b := Sec.zero) (HQb.out _ hq) (show w.heap.size ≤ w.heap.size + 1 + 1 by omega)
    have e0 := hWo.cell_at 0 rfl
    have e1 := hWo.cell_at 1 rfl
    have e2 := hWo.cell_at 2 rfl
    have e3 := hWo.cell_at 3 rfl
    have e4 := hWo.cell_at 4 rfl
    have e5 := hWo.cell_at 5 rfl
    have e6 := hWo.cell_at 6 rfl
    have e7 := hWo.cell_at 7 rfl
    have e8 := hWo.cell_at 8 rfl
    have e9 := hWo.cell_at 9 rfl
    have e10 := hWo.cell_at 10 rfl
    refine bodyPost_ret (v := .tuple #[Sec.zero.val, .bool false]) ?_ rfl ⟨rfl, HPP.out _ hBo⟩
    unfold Sec.zero at *
    simp [results, Tryd.f51, go_sem, e0, e1, e2, e3, e4, e5, e6, e7, e8, e9, e10]
  · obtain rfl := hzz rfl
    clear hzz
    have d1 : decide (s < 0) = false := decide_eq_false (by omega)
    have d2 := decide_eq_true h2
    clear h1 h2
    have HS := Lib.hid (HQ.out.drew hq)
    clear hq
    go_enter Tryd.func51, Tryd.ntmps51
    go_wp2_with fail
    refine region_steady (Q) 28 (by kernel_rfl) (by kernel_rfl) HS.out ?_
    simp only [List.take_succ_cons, List.take_zero, List.drop_succ_cons, List.drop_zero]
    repeat (first | (refine steady_skip (by rfl) ?_; simp only [Act.put, List.setIfInBounds_toArray, List.set_cons_zero, List.set_cons_succ]) | (refine steady_read _ (by rfl) (fun W hW => by (have m0 := HQl.out _ hW; have x0 := m0.cell_at 0 rfl; have x1 := m0.cell_at 1 rfl; have x2 := m0.cell_at 2 rfl; have x3 := m0.cell_at 3 rfl; have x4 := m0.cell_at 4 rfl; have x5 := m0.cell_at 5 rfl; have x6 := m0.cell_at 6 rfl; have x7 := m0.cell_at 7 rfl; have x8 := m0.cell_at 8 rfl; have x9 := m0.cell_at 9 rfl; have x10 := m0.cell_at 10 rfl; clear m0; have m1 := HQv.out _ hW; have v0 := m1.cell_at 0 rfl; have v1 := m1.cell_at 1 rfl; clear m1; go_simp; first | done | with_reducible rfl)) ?_; simp only [Act.put, List.setIfInBounds_toArray, List.set_cons_zero, List.set_cons_succ]))
    refine steady_nil (fun W hW => ?_)
    have hq := hW
    clear hW
    have hW := HQr.out _ hq
    have f0 := hW.frozen 0
    have f1 := hW.frozen 1
    have f2 := hW.frozen 2
    have f3 := hW.frozen 3
    have f4 := hW.frozen 4
    have f5 := hW.frozen 5
    have f6 := hW.frozen 6
    have f7 := hW.frozen 7
    have f8 := hW.frozen 8
    have f9 := hW.frozen 9
    have f10 := hW.frozen 10
    have z0 := hW.cell_at 0 rfl
    have z1 := hW.cell_at 1 rfl
    have z2 := hW.cell_at 2 rfl
    have z3 := hW.cell_at 3 rfl
    have z4 := hW.cell_at 4 rfl
    have z5 := hW.cell_at 5 rfl
    have z6 := hW.cell_at 6 rfl
    have z7 := hW.cell_at 7 rfl
    have z8 := hW.cell_at 8 rfl
    have z9 := hW.cell_at 9 rfl
    have z10 := hW.cell_at 10 rfl
    go_wp2_with fail
    have hWo := whole_over (a := Sec.zero) (b := Sec.zero) hW
    have hBo := below_over (b := Sec.zero) (HQb.out _ hq) (show w.heap.size ≤ w.heap.size + 1 + 1 by omega)
    have e0 := hWo.cell_at 0 rfl
    have e1 := hWo.cell_at 1 rfl
    have e2 := hWo.cell_at 2 rfl
    have e3 := hWo.cell_at 3 rfl
    have e4 := hWo.cell_at 4 rfl
    have e5 := hWo.cell_at 5 rfl
    have e6 := hWo.cell_at 6 rfl
    have e7 := hWo.cell_at 7 rfl
    have e8 := hWo.cell_at 8 rfl
    have e9 := hWo.cell_at 9 rfl
    have e10 := hWo.cell_at 10 rfl
    refine bodyPost_ret (v := .tuple #[Sec.zero.val, .bool false]) ?_ rfl ⟨rfl, HPP.out _ hBo⟩
    unfold Sec.zero at *
    simp [results, Tryd.f51, go_sem, e0, e1, e2, e3, e4, e5, e6, e7, e8, e9, e10]
  · obtain rfl := hzz rfl
    clear hzz
    have d1 : decide ((j : Int) < 0) = false := decide_eq_false (by omega)
    have d2 : decide ((l.secs.length : Int) ≤ j) = false := decide_eq_false (by omega)
    have d2n : decide (l.secs.length ≤ j) = false := decide_eq_false (by omega)
    have d3 := decide_eq_true h1
    clear h1 hy
    have HS := Lib.hid (HQ.out.drew hq)
    clear hq
    go_enter Tryd.func51, Tryd.ntmps51
    go_wp2_with fail
    refine region_steady (Q) 28 (by kernel_rfl) (by kernel_rfl) HS.out ?_
    simp only [List.take_succ_cons, List.take_zero, List.drop_succ_cons, List.drop_zero]
    repeat (first | (refine steady_skip (by rfl) ?_; simp only [Act.put, List.setIfInBounds_toArray, List.set_cons_zero, List.set_cons_succ]) | (refine steady_read _ (by rfl) (fun W hW => by (have m0 := HQl.out _ hW; have x0 := m0.cell_at 0 rfl; have x1 := m0.cell_at 1 rfl; have x2 := m0.cell_at 2 rfl; have x3 := m0.cell_at 3 rfl; have x4 := m0.cell_at 4 rfl; have x5 := m0.cell_at 5 rfl; have x6 := m0.cell_at 6 rfl; have x7 := m0.cell_at 7 rfl; have x8 := m0.cell_at 8 rfl; have x9 := m0.cell_at 9 rfl; have x10 := m0.cell_at 10 rfl; clear m0; have m1 := HQv.out _ hW; have v0 := m1.cell_at 0 rfl; have v1 := m1.cell_at 1 rfl; clear m1; go_simp; first | done | with_reducible rfl)) ?_; simp only [Act.put, List.setIfInBounds_toArray, List.set_cons_zero, List.set_cons_succ]))
    refine steady_nil (fun W hW => ?_)
    have hq := hW
    clear hW
    have hW := HQr.out _ hq
    have f0 := hW.frozen 0
    have f1 := hW.frozen 1
    have f2 := hW.frozen 2
    have f3 := hW.frozen 3
    have f4 := hW.frozen 4
    have f5 := hW.frozen 5
    have f6 := hW.frozen 6
    have f7 := hW.frozen 7
    have f8 := hW.frozen 8
    have f9 := hW.frozen 9
    have f10 := hW.frozen 10
    have z0 := hW.cell_at 0 rfl
    have z1 := hW.cell_at 1 rfl
    have z2 := hW.cell_at 2 rfl
    have z3 := hW.cell_at 3 rfl
    have z4 := hW.cell_at 4 rfl
    have z5 := hW.cell_at 5 rfl
    have z6 := hW.cell_at 6 rfl
    have z7 := hW.cell_at 7 rfl
    have z8 := hW.cell_at 8 rfl
    have z9 := hW.cell_at 9 rfl
    have z10 := hW.cell_at 10 rfl
    go_wp2_with fail
    have hWo := whole_over (a := Sec.zero) (b := Sec.zero) hW
    have hBo := below_over (b := Sec.zero) (HQb.out _ hq) (show w.heap.size ≤ w.heap.size + 1 + 1 by omega)
    have e0 := hWo.cell_at 0 rfl
    have e1 := hWo.cell_at 1 rfl
    have e2 := hWo.cell_at 2 rfl
    have e3 := hWo.cell_at 3 rfl
    have e4 := hWo.cell_at 4 rfl
    have e5 := hWo.cell_at 5 rfl
    have e6 := hWo.cell_at 6 rfl
    have e7 := hWo.cell_at 7 rfl
    have e8 := hWo.cell_at 8 rfl
    have e9 := hWo.cell_at 9 rfl
    have e10 := hWo.cell_at 10 rfl
    refine bodyPost_ret (v := .tuple #[Sec.zero.val, .bool false]) ?_ rfl ⟨rfl, HPP.out _ hBo⟩
    unfold Sec.zero at *
    simp [results, Tryd.f51, go_sem, e0, e1, e2, e3, e4, e5, e6, e7, e8, e9, e10]
  · obtain rfl := hzz rfl
    clear hzz
    have d1 : decide ((j : Int) < 0) = false := decide_eq_false (by omega)
    have d2 : decide ((l.secs.length : Int) ≤ j) = false := decide_eq_false (by omega)
    have d2n : decide (l.secs.length ≤ j) = false := decide_eq_false (by omega)
    obtain ⟨b, off, hA, hb, hc0, hc⟩ := (HQL.out _ hq).secs.nth Sec.len (by omega) hy
    have HAl := Lib.hid hA
    have HC0 : Hid (∀ W, Q W → W.cell? ⟨b, off + j * 11, none⟩ = some (.int .u8 y.k)) := Lib.hid fun W hW => by
      obtain ⟨b', off', hA', hb', hc0', hc'⟩ := (HQL.out _ hW).secs.nth Sec.len (by omega) hy
      rw [hA] at hA'
      cases hA'
      exact hc0' j y _ hy rfl
    clear hA hb hc0 hc
    have KP := Lib.hid (fun W hW => portsR_P (P := Q) (w := W) (shapeK y.k) hW)
    have d3 : decide (p < 0) = false := decide_eq_false (by omega)
    have d4 := decide_eq_true h2
    clear h1 h2 hy
    generalize pK y.k = pk at *
    have HS := Lib.hid (HQ.out.drew hq)
    clear hq
    go_enter Tryd.func51, Tryd.ntmps51
    go_wp2_with fail
    refine region_steady (Q) 28 (by kernel_rfl) (by kernel_rfl) HS.out ?_
    simp only [List.take_succ_cons, List.take_zero, List.drop_succ_cons, List.drop_zero]
    repeat (first | (refine steady_skip (by rfl) ?_; simp only [Act.put, List.setIfInBounds_toArray, List.set_cons_zero, List.set_cons_succ]) | (refine steady_read _ (by rfl) (fun W hW => by (have m0 := HQl.out _ hW; have x0 := m0.cell_at 0 rfl; have x1 := m0.cell_at 1 rfl; have x2 := m0.cell_at 2 rfl; have x3 := m0.cell_at 3 rfl; have x4 := m0.cell_at 4 rfl; have x5 := m0.cell_at 5 rfl; have x6 := m0.cell_at 6 rfl; have x7 := m0.cell_at 7 rfl; have x8 := m0.cell_at 8 rfl; have x9 := m0.cell_at 9 rfl; have x10 := m0.cell_at 10 rfl; clear m0; have m1 := HQv.out _ hW; have v0 := m1.cell_at 0 rfl; have v1 := m1.cell_at 1 rfl; clear m1; rw [HAl.out] at x0; have c0 := HC0.out _ hW; go_simp; first | done | with_reducible rfl)) ?_; simp only [Act.put, List.setIfInBounds_toArray, List.set_cons_zero, List.set_cons_succ]) | (refine steady_call _ _ _ (by rfl) (fun W hW => by (have m0 := HQl.out _ hW; have x0 := m0.cell_at 0 rfl; have x1 := m0.cell_at 1 rfl; have x2 := m0.cell_at 2 rfl; have x3 := m0.cell_at 3 rfl; have x4 := m0.cell_at 4 rfl; have x5 := m0.cell_at 5 rfl; have x6 := m0.cell_at 6 rfl; have x7 := m0.cell_at 7 rfl; have x8 := m0.cell_at 8 rfl; have x9 := m0.cell_at 9 rfl; have x10 := m0.cell_at 10 rfl; clear m0; have m1 := HQv.out _ hW; have v0 := m1.cell_at 0 rfl; have v1 := m1.cell_at 1 rfl; clear m1; rw [HAl.out] at x0; have c0 := HC0.out _ hW; go_simp; first | done | rfl)) (fun W hW => KP.out _ hW) ?_; simp only [Act.put, List.setIfInBounds_toArray, List.set_cons_zero, List.set_cons_succ]))
    refine steady_nil (fun W hW => ?_)
    have hq := hW
    clear hW
    have hW := HQr.out _ hq
    have f0 := hW.frozen 0
    have f1 := hW.frozen 1
    have f2 := hW.frozen 2
    have f3 := hW.frozen 3
    have f4 := hW.frozen 4
    have f5 := hW.frozen 5
    have f6 := hW.frozen 6
    have f7 := hW.frozen 7
    have f8 := hW.frozen 8
    have f9 := hW.frozen 9
    have f10 := hW.frozen 10
    have z0 := hW.cell_at 0 rfl
    have z1 := hW.cell_at 1 rfl
    have z2 := hW.cell_at 2 rfl
    have z3 := hW.cell_at 3 rfl
    have z4 := hW.cell_at 4 rfl
    have z5 := hW.cell_at 5 rfl
    have z6 := hW.cell_at 6 rfl
    have z7 := hW.cell_at 7 rfl
    have z8 := hW.cell_at 8 rfl
    have z9 := hW.cell_at 9 rfl
    have z10 := hW.cell_at 10 rfl
    go_wp2_with fail
    have hWo := whole_over (a := Sec.zero) (b := Sec.zero) hW
    have hBo := below_over (b := Sec.zero) (HQb.out _ hq) (show w.heap.size ≤ w.heap.size + 1 + 1 by omega)
    have e0 := hWo.cell_at 0 rfl
    have e1 := hWo.cell_at 1 rfl
    have e2 := hWo.cell_at 2 rfl
    have e3 := hWo.cell_at 3 rfl
    have e4 := hWo.cell_at 4 rfl
    have e5 := hWo.cell_at 5 rfl
    have e6 := hWo.cell_at 6 rfl
    have e7 := hWo.cell_at 7 rfl
    have e8 := hWo.cell_at 8 rfl
    have e9 := hWo.cell_at 9 rfl
    have e10 := hWo.cell_at 10 rfl
    refine bodyPost_ret (v := .tuple #[Sec.zero.val, .bool false]) ?_ rfl ⟨rfl, HPP.out _ hBo⟩
    unfold Sec.zero at *
    simp [results, Tryd.f51, go_sem, e0, e1, e2, e3, e4, e5, e6, e7, e8, e9, e10]
  · clear hzz
    have exy := exy.symm
    subst exy
    have d1 : decide ((j : Int) < 0) = false := decide_eq_false (by omega)
    have d2 : decide ((l.secs.length : Int) ≤ j) = false := decide_eq_false (by omega)
    have d2n : decide (l.secs.length ≤ j) = false := decide_eq_false (by omega)
    obtain ⟨b, off, hA, hb, hc0, hc⟩ := (HQL.out _ hq).secs.nth Sec.len (by omega) hy
    have HAl := Lib.hid hA
    have HC0 : Hid (∀ W, Q W → W.cell? ⟨b, off + j * 11, none⟩ = some (.int .u8 y.k)) := Lib.hid fun W hW => by
      obtain ⟨b', off', hA', hb', hc0', hc'⟩ := (HQL.out _ hW).secs.nth Sec.len (by omega) hy
      rw [hA] at hA'
      cases hA'
      exact hc0' j y _ hy rfl
    clear hA hb hc0 hc
    have KP := Lib.hid (fun W hW => portsR_P (P := Q) (w := W) (shapeK y.k) hW)
    have d3 : decide (p < 0) = false := decide_eq_false (by omega)
    have d4 : decide (pK y.k ≤ p) = false := decide_eq_false (by omega)
    have HX := Lib.hid hy
    clear h1 h2 hy
    generalize pK y.k = pk at *
    have HS := Lib.hid (HQ.out.drew hq)
    clear hq
    go_enter Tryd.func51, Tryd.ntmps51
    go_wp2_with fail
    refine region_steady (Q) 28 (by kernel_rfl) (by kernel_rfl) HS.out ?_
    simp only [List.take_succ_cons, List.take_zero, List.drop_succ_cons, List.drop_zero]
    repeat (first | (refine steady_skip (by rfl) ?_; simp only [Act.put, List.setIfInBounds_toArray, List.set_cons_zero, List.set_cons_succ]) | (refine steady_read _ (by rfl) (fun W hW => by (have m0 := HQl.out _ hW; have x0 := m0.cell_at 0 rfl; have x1 := m0.cell_at 1 rfl; have x2 := m0.cell_at 2 rfl; have x3 := m0.cell_at 3 rfl; have x4 := m0.cell_at 4 rfl; have x5 := m0.cell_at 5 rfl; have x6 := m0.cell_at 6 rfl; have x7 := m0.cell_at 7 rfl; have x8 := m0.cell_at 8 rfl; have x9 := m0.cell_at 9 rfl; have x10 := m0.cell_at 10 rfl; clear m0; have m1 := HQv.out _ hW; have v0 := m1.cell_at 0 rfl; have v1 := m1.cell_at 1 rfl; clear m1; rw [HAl.out] at x0; have c0 := HC0.out _ hW; go_simp; first | done | with_reducible rfl)) ?_; simp only [Act.put, List.setIfInBounds_toArray, List.set_cons_zero, List.set_cons_succ]) | (refine steady_call _ _ _ (by rfl) (fun W hW => by (have m0 := HQl.out _ hW; have x0 := m0.cell_at 0 rfl; have x1 := m0.cell_at 1 rfl; have x2 := m0.cell_at 2 rfl; have x3 := m0.cell_at 3 rfl; have x4 := m0.cell_at 4 rfl; have x5 := m0.cell_at 5 rfl; have x6 := m0.cell_at 6 rfl; have x7 := m0.cell_at 7 rfl; have x8 := m0.cell_at 8 rfl; have x9 := m0.cell_at 9 rfl; have x10 := m0.cell_at 10 rfl; clear m0; have m1 := HQv.out _ hW; have v0 := m1.cell_at 0 rfl; have v1 := m1.cell_at 1 rfl; clear m1; rw [HAl.out] at x0; have c0 := HC0.out _ hW; go_simp; first | done | rfl)) (fun W hW => KP.out _ hW) ?_; simp only [Act.put, List.setIfInBounds_toArray, List.set_cons_zero, List.set_cons_succ]))
    refine steady_nil (fun W hW => ?_)
    have hq := hW
    clear hW
    have hW := HQr.out _ hq
    have x0 := (HQl.out _ hq).cell_at 0 rfl
    have v0 := (HQv.out _ hq).cell_at 0 rfl
    clear HAl HC0
    obtain ⟨b, off, hA, hb, hc0, hc⟩ := (HQL.out _ hq).secs.nth Sec.len (by omega) HX.out
    have c0 := hc0 j y _ HX.out rfl
    have c1 := hc j y 1 _ HX.out rfl
    have c2 := hc j y 2 _ HX.out rfl
    have c3 := hc j y 3 _ HX.out rfl
    have c4 := hc j y 4 _ HX.out rfl
    have c5 := hc j y 5 _ HX.out rfl
    have c6 := hc j y 6 _ HX.out rfl
    have c7 := hc j y 7 _ HX.out rfl
    have c8 := hc j y 8 _ HX.out rfl
    have c9 := hc j y 9 _ HX.out rfl
    have c10 := hc j y 10 _ HX.out rfl
    clear hc0 hc
    have f0 := hW.frozen 0
    have f1 := hW.frozen 1
    have f2 := hW.frozen 2
    have f3 := hW.frozen 3
    have f4 := hW.frozen 4
    have f5 := hW.frozen 5
    have f6 := hW.frozen 6
    have f7 := hW.frozen 7
    have f8 := hW.frozen 8
    have f9 := hW.frozen 9
    have f10 := hW.frozen 10
    have z0 := hW.cell_at 0 rfl
    have z1 := hW.cell_at 1 rfl
    have z2 := hW.cell_at 2 rfl
    have z3 := hW.cell_at 3 rfl
    have z4 := hW.cell_at 4 rfl
    have z5 := hW.cell_at 5 rfl
    have z6 := hW.cell_at 6 rfl
    have z7 := hW.cell_at 7 rfl
    have z8 := hW.cell_at 8 rfl
    have z9 := hW.cell_at 9 rfl
    have z10 := hW.cell_at 10 rfl
    go_wp2_with fail
    have hWo := whole_over (a := Sec.zero) (b := y) hW
    have hBo := below_over (b := y) (HQb.out _ hq) (show w.heap.size ≤ w.heap.size + 1 + 1 by omega)
    clear c0 c1 c2 c3 c4 c5 c6 c7 c8 c9 c10 z0 z1 z2 z3 z4 z5 z6 z7 z8 z9 z10
    have e0 := hWo.cell_at 0 rfl
    have e1 := hWo.cell_at 1 rfl
    have e2 := hWo.cell_at 2 rfl
    have e3 := hWo.cell_at 3 rfl
    have e4 := hWo.cell_at 4 rfl
    have e5 := hWo.cell_at 5 rfl
    have e6 := hWo.cell_at 6 rfl
    have e7 := hWo.cell_at 7 rfl
    have e8 := hWo.cell_at 8 rfl
    have e9 := hWo.cell_at 9 rfl
    have e10 := hWo.cell_at 10 rfl
    refine bodyPost_ret (v := .tuple #[y.val, .bool true]) ?_ rfl ⟨rfl, HPP.out _ hBo⟩
    simp [results, Tryd.f51, go_sem, e0, e1, e2, e3, e4, e5, e6, e7, e8, e9, e10]

set_option maxRecDepth 100000 in
set_option maxHeartbeats 4000000 in
theorem thereR_P (hP : Closed P) {l : Lay} (hL : ∀ w, P w → Lies l w) (s p : Int) {r : Bool} (hr : thereV l s p = r) (h : P w) :
    Calls Tryd.prog 36 #[l.val, prtV s p] w fun e w' => e = .returned (.bool r) ∧ P w' := by
  obtain ⟨Q, HQ, HQp, HQl, HQv, hq⟩ := keep_box2 hP h 29 48 l.cells (prtCells (s, p))
  obtain ⟨x, hx⟩ : ∃ x, atV l s p = x := ⟨_, rfl⟩
  have KA := Lib.hid (fun W hW => atR_P (P := Q) (w := W) HQ.out (fun W hW => hL _ (HQp.out _ hW)) s p hx hr hW)
  clear hx hr h
  have hW := hq
  have m0 := HQl.out _ hW
  have x0 := m0.cell_at 0 rfl
  have x1 := m0.cell_at 1 rfl
  have x2 := m0.cell_at 2 rfl
  have x3 := m0.cell_at 3 rfl
  have x4 := m0.cell_at 4 rfl
  have x5 := m0.cell_at 5 rfl
  have x6 := m0.cell_at 6 rfl
  have x7 := m0.cell_at 7 rfl
  have x8 := m0.cell_at 8 rfl
  have x9 := m0.cell_at 9 rfl
  have x10 := m0.cell_at 10 rfl
  clear m0
  have m1 := HQv.out _ hW
  have v0 := m1.cell_at 0 rfl
  have v1 := m1.cell_at 1 rfl
  clear m1
  clear hW
  go_enter Tryd.func36, Tryd.ntmps36
  go_wp2_with fail
  refine (KA.out _ hq).mono ?_
  clear x0 x1 x2 x3 x4 x5 x6 x7 x8 x9 x10 v0 v1 hq
  rintro e w1 ⟨rfl, hq⟩
  have hq := HQ.out _ _ hq (below1 w1 (.cells x.cells.toArray 52))
  go_wp2_with fail
  go_ret
  exact ⟨rfl, HQp.out _ hq⟩

set_option maxRecDepth 100000 in
set_option maxHeartbeats 4000000 in
theorem stepR_P (hP : Closed P) {l : Lay} (hL : ∀ w, P w → Lies l w) (s i o : Int) {v : Int} {r : Bool} (hv : wayK (kindV l s) i o = v) (hr : stepV l s i o = r) (h : P w) :
    Calls Tryd.prog 23 #[l.val, stpV s i o] w fun e w' => e = .returned (.tuple #[.int .i64 v, .bool r]) ∧ P w' := by
  obtain ⟨Q, HQ, HQp, HQl, HQv, hq⟩ := keep_box2 hP h 29 56 l.cells (stpCells (s, i, o))
  have HQL : Hid (∀ W, Q W → Lies l W) := Lib.hid fun W hW => hL _ (HQp.out _ hW)
  unfold stepV at hr
  clear h
  by_cases hs : 0 ≤ s ∧ s < l.secs.length
  · obtain ⟨j, rfl⟩ : ∃ j : Nat, s = j := ⟨s.toNat, by omega⟩
    have hlt : (j : Int) < l.secs.length := hs.2
    obtain ⟨y, hy⟩ : ∃ y, l.secs[j]? = some y := ⟨_, List.getElem?_eq_getElem (by omega)⟩
    rw [kindV_at hy] at hv hr
    have KW := Lib.hid (fun W hW => wayR_P (P := Q) (w := W) i o (shapeK y.k) hv hr hW)
    clear hv hr hs
    have d1 : decide ((j : Int) < 0) = false := decide_eq_false (by omega)
    have d2 : decide ((l.secs.length : Int) ≤ j) = false := decide_eq_false (by omega)
    have d2n : decide (l.secs.length ≤ j) = false := decide_eq_false (by omega)
    obtain ⟨b, off, hA, hb, hc0, hc⟩ := (HQL.out _ hq).secs.nth Sec.len (by omega) hy
    have HAl := Lib.hid hA
    have HC0 : Hid (∀ W, Q W → W.cell? ⟨b, off + j * 11, none⟩ = some (.int .u8 y.k)) := Lib.hid fun W hW => by
      obtain ⟨b', off', hA', hb', hc0', hc'⟩ := (HQL.out _ hW).secs.nth Sec.len (by omega) hy
      rw [hA] at hA'
      cases hA'
      exact hc0' j y _ hy rfl
    clear hA hb hc0 hc
    have hW := hq
    have m0 := HQl.out _ hW
    have x0 := m0.cell_at 0 rfl
    have x1 := m0.cell_at 1 rfl
    have x2 := m0.cell_at 2 rfl
    have x3 := m0.cell_at 3 rfl
    have x4 := m0.cell_at 4 rfl
    have x5 := m0.cell_at 5 rfl
    have x6 := m0.cell_at 6 rfl
    have x7 := m0.cell_at 7 rfl
    have x8 := m0.cell_at 8 rfl
    have x9 := m0.cell_at 9 rfl
    have x10 := m0.cell_at 10 rfl
    clear m0
    have m1 := HQv.out _ hW
    have v0 := m1.cell_at 0 rfl
    have v1 := m1.cell_at 1 rfl
    have v2 := m1.cell_at 2 rfl
    clear m1
    clear hW
    clear hy
    go_enter Tryd.func23, Tryd.ntmps23
    go_wp2_with fail
    have HS := Lib.hid (HQ.out.drew hq)
    clear x0 x1 x2 x3 x4 x5 x6 x7 x8 x9 x10 v0 v1 v2 hq
    refine region_steady (Q) 14 (by kernel_rfl) (by kernel_rfl) HS.out ?_
    simp only [List.take_succ_cons, List.take_zero, List.drop_succ_cons, List.drop_zero]
    repeat (first | (refine steady_skip (by rfl) ?_; simp only [Act.put, List.setIfInBounds_toArray, List.set_cons_zero, List.set_cons_succ]) | (refine steady_read _ (by rfl) (fun W hW => by (have m0 := HQl.out _ hW; have x0 := m0.cell_at 0 rfl; have x1 := m0.cell_at 1 rfl; have x2 := m0.cell_at 2 rfl; have x3 := m0.cell_at 3 rfl; have x4 := m0.cell_at 4 rfl; have x5 := m0.cell_at 5 rfl; have x6 := m0.cell_at 6 rfl; have x7 := m0.cell_at 7 rfl; have x8 := m0.cell_at 8 rfl; have x9 := m0.cell_at 9 rfl; have x10 := m0.cell_at 10 rfl; clear m0; have m1 := HQv.out _ hW; have v0 := m1.cell_at 0 rfl; have v1 := m1.cell_at 1 rfl; have v2 := m1.cell_at 2 rfl; clear m1; rw [HAl.out] at x0; have c0 := HC0.out _ hW; go_simp; first | done | with_reducible rfl)) ?_; simp only [Act.put, List.setIfInBounds_toArray, List.set_cons_zero, List.set_cons_succ]) | (refine steady_call _ _ _ (by rfl) (fun W hW => by (have m0 := HQl.out _ hW; have x0 := m0.cell_at 0 rfl; have x1 := m0.cell_at 1 rfl; have x2 := m0.cell_at 2 rfl; have x3 := m0.cell_at 3 rfl; have x4 := m0.cell_at 4 rfl; have x5 := m0.cell_at 5 rfl; have x6 := m0.cell_at 6 rfl; have x7 := m0.cell_at 7 rfl; have x8 := m0.cell_at 8 rfl; have x9 := m0.cell_at 9 rfl; have x10 := m0.cell_at 10 rfl; clear m0; have m1 := HQv.out _ hW; have v0 := m1.cell_at 0 rfl; have v1 := m1.cell_at 1 rfl; have v2 := m1.cell_at 2 rfl; clear m1; rw [HAl.out] at x0; have c0 := HC0.out _ hW; go_simp; first | done | rfl)) (fun W hW => KW.out _ hW) ?_; simp only [Act.put, List.setIfInBounds_toArray, List.set_cons_zero, List.set_cons_succ]))
    refine steady_nil (fun W hW => ?_)
    go_wp2_with fail
    go_ret2
    exact ⟨rfl, HQp.out _ hW⟩
  · rw [kindV_no hs] at hv hr
    have hv0 : wayK 0 i o = 0 := rfl
    have hr0 : goesK 0 i o = false := rfl
    obtain rfl := hv0.symm.trans hv
    obtain rfl := hr0.symm.trans hr
    clear hv hr hv0 hr0
    have hW := hq
    have m0 := HQl.out _ hW
    have x0 := m0.cell_at 0 rfl
    have x1 := m0.cell_at 1 rfl
    have x2 := m0.cell_at 2 rfl
    have x3 := m0.cell_at 3 rfl
    have x4 := m0.cell_at 4 rfl
    have x5 := m0.cell_at 5 rfl
    have x6 := m0.cell_at 6 rfl
    have x7 := m0.cell_at 7 rfl
    have x8 := m0.cell_at 8 rfl
    have x9 := m0.cell_at 9 rfl
    have x10 := m0.cell_at 10 rfl
    clear m0
    have m1 := HQv.out _ hW
    have v0 := m1.cell_at 0 rfl
    have v1 := m1.cell_at 1 rfl
    have v2 := m1.cell_at 2 rfl
    clear m1
    clear hW
    by_cases h1 : s < 0
    · have d1 := decide_eq_true h1
      clear h1 hs
      go_enter Tryd.func23, Tryd.ntmps23
      go_wp2_with fail
      go_ret2
      exact ⟨rfl, HQp.out _ hq⟩
    · have d2 : decide ((l.secs.length : Int) ≤ s) = true := decide_eq_true (by omega)
      have d1 := decide_eq_false h1
      clear h1 hs
      go_enter Tryd.func23, Tryd.ntmps23
      go_wp2_with fail
      go_ret2
      exact ⟨rfl, HQp.out _ hq⟩

end
end Go.Proofs.YtbdbgoploednbaaDoor
namespace Go.Proofs.YtbdbgoploednbaaDoor
open Go.RowKit Go.Shelf
set_option linter.unusedVariables false
set_option linter.unusedSimpArgs false

theorem row_at {Q : World → Prop} {α : Type} {f : α → List Value} {n : Nat} (hf : ∀ x, (f x).length = n) (hn : 0 < n) {A : Option Addr} {l : List α} (hQ : ∀ W, Q W → Row W W.heap.size A (l.flatMap f)) {W0 : World} (h0 : Q W0) {j : Nat} {x : α} (hx : l[j]? = some x) :
    ∃ o1 o2, Hid (A = some ⟨o1, o2, none⟩) ∧ Hid (∀ W, Q W → ∀ (j : Nat) (y : α) (v : Value), l[j]? = some y → (f y)[0]? = some v → W.cell? ⟨o1, o2 + j * n, none⟩ = some v) ∧
      Hid (∀ W, Q W → ∀ (j : Nat) (y : α) (k : Nat) (v : Value), l[j]? = some y → (f y)[k]? = some v → W.cell? ⟨o1, o2 + j * n + k, none⟩ = some v) := by
  obtain ⟨o1, o2, hA, _, _, _⟩ := (hQ _ h0).nth hf hn hx
  refine ⟨o1, o2, Lib.hid hA, Lib.hid fun W hW => ?_, Lib.hid fun W hW => ?_⟩
  all_goals
    obtain ⟨p1, p2, hA', _, hc0, hc⟩ := (hQ _ hW).nth hf hn hx
    rw [hA] at hA'
    cases hA'
  · exact hc0
  · exact hc
theorem join_at {W : World} {g : Nat} {x : Sec} (h : Whole W g 52 x.cells) {e : Nat} {p : Int × Int} (hp : x.ports4[e]? = some p) : W.cell? ⟨g, 1 + e * 2, none⟩ = some (.int .i64 p.1) ∧ W.cell? ⟨g, 1 + e * 2 + 1, none⟩ = some (.int .i64 p.2) := by
  match e, hp with
  | 0, hp => cases hp; exact ⟨h.cell_at 1 rfl, h.cell_at 2 rfl⟩
  | 1, hp => cases hp; exact ⟨h.cell_at 3 rfl, h.cell_at 4 rfl⟩
  | 2, hp => cases hp; exact ⟨h.cell_at 5 rfl, h.cell_at 6 rfl⟩
  | 3, hp => cases hp; exact ⟨h.cell_at 7 rfl, h.cell_at 8 rfl⟩
  | n + 4, hp => cases hp
theorem thereR_B {l : Lay} {w : World} (hL : Lies l w) (s p : Int) {r : Bool} (hr : thereV l s p = r) : Calls Tryd.prog 36 #[l.val, prtV s p] w fun e w' => e = .returned (.bool r) ∧ Below w.heap.size w w' :=
  thereR_P (P := fun W => Below w.heap.size w W) (Closed.below w) (fun W h => Lies.closed l _ _ hL h) s p hr (Below.refl _ _)
theorem stepR_B {l : Lay} {w : World} (hL : Lies l w) (s i o : Int) {v : Int} {r : Bool} (hv : wayK (kindV l s) i o = v) (hr : stepV l s i o = r) : Calls Tryd.prog 23 #[l.val, stpV s i o] w fun e w' => e = .returned (.tuple #[.int .i64 v, .bool r]) ∧ Below w.heap.size w w' :=
  stepR_P (P := fun W => Below w.heap.size w W) (Closed.below w) (fun W h => Lies.closed l _ _ hL h) s i o hv hr (Below.refl _ _)
theorem waysR_B {w : World} {k p n a b c d : Int} (hk : IsShape k p n a b c d) : Calls Tryd.prog 52 #[.int .u8 k] w fun e w' => e = .returned (.int .i64 n) ∧ Below w.heap.size w w' :=
  waysR_P (P := fun W => Below w.heap.size w W) hk (Below.refl _ _)

/-- A port to which is joined, and that is not there; may a section be, an exit? -/
def noJ (l : Lay) (p : Int × Int) : Bool := decide (0 ≤ p.1) && !thereV l p.1 p.2
def secOk (l : Lay) (x : Sec) : Bool := !(x.ports4.any (noJ l)) && rightK x
def noS (l : Lay) (s : Int × Int × Int) : Bool := !stepV l s.1 s.2.1 s.2.2
def exitOk (l : Lay) (x : Exm) : Bool := !(x.over.any (noS l)) && (thereV l x.s x.q && decide ((x.over.length : Int) ≤ 2))
theorem flank_cases (l : Lay) (a b c d : Int) : (flankV l a b c d = false ∧ a < 0) ∨ (flankV l a b c d = false ∧ 0 ≤ a ∧ (l.secs.length : Int) ≤ a) ∨ ∃ (i : Nat) (x : Sec), a = i ∧ l.secs[i]? = some x ∧ (i : Int) < l.secs.length ∧
    ((flankV l a b c d = false ∧ c < 0) ∨ (flankV l a b c d = false ∧ 0 ≤ c ∧ (l.secs.length : Int) ≤ c) ∨ ∃ (j : Nat) (y : Sec), c = j ∧ l.secs[j]? = some y ∧ (j : Int) < l.secs.length ∧
      ((flankV l a b c d = false ∧ i = j) ∨ (i ≠ j ∧ ((flankV l a b c d = false ∧ d < 0) ∨ (flankV l a b c d = false ∧ 0 ≤ d ∧ 1 < d) ∨ (0 ≤ d ∧ d ≤ 1 ∧
        ((flankV l a b c d = false ∧ b < 0) ∨ (0 ≤ b ∧ ((flankV l a b c d = false ∧ nK x.k ≤ b) ∨ (b < nK x.k ∧ flankV l a b c d = (y.k == 2)))))))))) := by
  have hz : ∀ s, kindV l s = 0 → nK (kindV l s) = 0 := fun s h => by rw [h]; rfl
  unfold flankV
  by_cases h0 : a < 0
  · refine .inl ⟨?_, h0⟩
    have := hz a (kindV_no (by omega))
    rw [this]
    unfold withinA
    by_cases hb : 0 ≤ b
    · rw [decide_eq_false (show ¬ b ≤ 0 - 1 by omega)]; simp
    · rw [decide_eq_false hb]; simp
  by_cases h1 : (l.secs.length : Int) ≤ a
  · refine .inr (.inl ⟨?_, by omega, h1⟩)
    have := hz a (kindV_no (by omega))
    rw [this]
    unfold withinA
    by_cases hb : 0 ≤ b
    · rw [decide_eq_false (show ¬ b ≤ 0 - 1 by omega)]; simp
    · rw [decide_eq_false hb]; simp
  obtain ⟨i, rfl⟩ : ∃ i : Nat, a = i := ⟨a.toNat, by omega⟩
  have hx : l.secs[i]? = some (l.secs[i]'(by omega)) := List.getElem?_eq_getElem (by omega)
  refine .inr (.inr ⟨i, _, rfl, hx, by omega, ?_⟩)
  generalize l.secs[i]'(by omega) = x at hx
  rw [kindV_at hx]
  have hk2 : ∀ s, kindV l s = 0 → (kindV l s == 2) = false := fun s h => by rw [h]; rfl
  by_cases h2 : c < 0
  · exact .inl ⟨by rw [hk2 c (kindV_no (by omega))]; simp, h2⟩
  by_cases h3 : (l.secs.length : Int) ≤ c
  · exact .inr (.inl ⟨by rw [hk2 c (kindV_no (by omega))]; simp, by omega, h3⟩)
  obtain ⟨j, rfl⟩ : ∃ j : Nat, c = j := ⟨c.toNat, by omega⟩
  have hy : l.secs[j]? = some (l.secs[j]'(by omega)) := List.getElem?_eq_getElem (by omega)
  refine .inr (.inr ⟨j, _, rfl, hy, by omega, ?_⟩)
  generalize l.secs[j]'(by omega) = y at hy
  rw [kindV_at hy]
  by_cases h4 : i = j
  · subst h4; exact .inl ⟨by simp, rfl⟩
  refine .inr ⟨h4, ?_⟩
  have e4 : (((j : Nat) : Int) == ((i : Nat) : Int)) = false := by rw [beq_eq_false_iff_ne]; omega
  rw [e4]
  unfold withinA
  by_cases h5 : d < 0
  · exact .inl ⟨by rw [decide_eq_false (show ¬ 0 ≤ d by omega)]; simp, h5⟩
  by_cases h6 : 1 < d
  · exact .inr (.inl ⟨by rw [decide_eq_false (show ¬ d ≤ 1 by omega)]; simp, by omega, h6⟩)
  refine .inr (.inr ⟨by omega, by omega, ?_⟩)
  rw [decide_eq_true (show 0 ≤ d by omega), decide_eq_true (show d ≤ 1 by omega)]
  by_cases h7 : b < 0
  · exact .inl ⟨by rw [decide_eq_false (show ¬ 0 ≤ b by omega)]; simp, h7⟩
  refine .inr ⟨by omega, ?_⟩
  by_cases h8 : nK x.k ≤ b
  · exact .inl ⟨by rw [decide_eq_false (show ¬ b ≤ nK x.k - 1 by omega)]; simp, h8⟩
  · exact .inr ⟨by omega, by rw [decide_eq_true (show 0 ≤ b by omega), decide_eq_true (show b ≤ nK x.k - 1 by omega)]; simp⟩

section
variable {P : World → Prop} {w : World}
set_option maxRecDepth 100000 in
set_option maxHeartbeats 8000000 in
theorem sectionR_P (hP : Closed P) {l : Lay} (hL : ∀ w, P w → Lies l w) (x : Sec) {r : Bool} (hr : secOk l x = r) (h : P w) :
    Calls Tryd.prog 35 #[l.val, x.val] w fun e w' => e = .returned (.bool r) ∧ P w' := by
  obtain ⟨Q, HQ, HQp, HQl, HQx, hq⟩ := keep_box2 hP h 29 52 l.cells x.cells
  have HQL : Hid (∀ W, Q W → Lies l W) := Lib.hid fun W hW => hL _ (HQp.out _ hW)
  obtain ⟨rk, hrk⟩ : ∃ z, rightK x = z := ⟨_, rfl⟩
  have KR := Lib.hid (fun W hW => rightR_P (P := Q) (w := W) HQ.out x.k x.s0 x.q0 x.s1 x.q1 x.s2 x.q2 x.s3 x.q3 x.c0 x.c1 (shapeK x.k) hrk hW)
  have HR : Hid (secOk l x = r) := Lib.hid hr
  have HRK : Hid (rightK x = rk) := Lib.hid hrk
  clear h hr hL hP hrk
  go_enter Tryd.func35, Tryd.ntmps35
  go_wp2_with fail
  go_loopw [5] (fun i wr => ∃ e : Nat, e ≤ 4 ∧ i = .int .i64 e ∧ Q wr ∧ Hid (NoneUp (noJ l) x.ports4 e)) (fun i _ => 4 - (intOf i).toNat)
  case atStart => exact ⟨0, by omega, rfl, hq, Lib.hid (NoneUp.zero _ _)⟩
  case round =>
    clear hq
    obtain ⟨e, he, rfl, hq, HNo⟩ := hrel
    by_cases hel : e < 4
    · have hel' : (e : Int) < 4 := by omega
      obtain ⟨⟨ps, pq⟩, hp⟩ : ∃ p, x.ports4[e]? = some p := ⟨_, List.getElem?_eq_getElem (by show e < 4; exact hel)⟩
      have HJ := Lib.hid (fun W hW => (join_at (HQx.out W hW) hp).1)
      have HJ1 := Lib.hid (fun W hW => (join_at (HQx.out W hW) hp).2)
      have HX := Lib.hid hp
      simp only at HJ HJ1
      clear hp
      by_cases hd : 0 ≤ ps
      · have d0 := decide_eq_true hd
        obtain ⟨b, ht⟩ : ∃ b, thereV l ps pq = b := ⟨_, rfl⟩
        have KT := Lib.hid (fun W hW => thereR_B (HQL.out W hW) ps pq ht)
        have HB : Hid (noJ l (ps, pq) = !b) := Lib.hid (by unfold noJ; simp only [d0, ht, Bool.true_and])
        clear hd ht
        cases b
        · have HF : Hid (false = r) := Lib.hid (by rw [← HR.out]; unfold secOk; rw [any_hit HX.out HB.out]; rfl)
          clear HX HB
          go_wp2_with fail
          have HBS : Hid (∀ W, Below wr.heap.size wr W → Q W) := Lib.hid (fun W hB => HQ.out _ _ hq hB)
          clear hq
          refine region_mix (Below wr.heap.size wr) [(0, false), (1, false), (2, false), (3, false), (4, false), (5, false), (6, false), (7, false), (8, false), (9, false), (10, false), (11, false), (12, false), (13, false), (14, false)] (by kernel_rfl) (by kernel_rfl) (Below wr.heap.size wr) ⟨Closed.below wr, fun _ h => h⟩ (Below.refl _ _).drew ?_
          simp only [pickOps, List.getElem?_cons_zero, List.getElem?_cons_succ]
          repeat (first | (refine mix_skip (by rfl) ?_; simp only [Act.put, List.setIfInBounds_toArray, List.set_cons_zero, List.set_cons_succ]) | (refine mix_read _ (by rfl) (fun W hW => by (have hW := HBS.out W hW; have m0 := HQl.out _ hW; have x0 := m0.cell_at 0 rfl; have x1 := m0.cell_at 1 rfl; have x2 := m0.cell_at 2 rfl; have x3 := m0.cell_at 3 rfl; have x4 := m0.cell_at 4 rfl; have x5 := m0.cell_at 5 rfl; have x6 := m0.cell_at 6 rfl; have x7 := m0.cell_at 7 rfl; have x8 := m0.cell_at 8 rfl; have x9 := m0.cell_at 9 rfl; have x10 := m0.cell_at 10 rfl; clear m0; have c0 := HJ.out _ hW; have c1 := HJ1.out _ hW; go_simp; first | done | with_reducible rfl)) ?_; simp only [Act.put, List.setIfInBounds_toArray, List.set_cons_zero, List.set_cons_succ]) | (refine mix_call _ _ _ (by rfl) (fun W hW => by (have hW := HBS.out W hW; have m0 := HQl.out _ hW; have x0 := m0.cell_at 0 rfl; have x1 := m0.cell_at 1 rfl; have x2 := m0.cell_at 2 rfl; have x3 := m0.cell_at 3 rfl; have x4 := m0.cell_at 4 rfl; have x5 := m0.cell_at 5 rfl; have x6 := m0.cell_at 6 rfl; have x7 := m0.cell_at 7 rfl; have x8 := m0.cell_at 8 rfl; have x9 := m0.cell_at 9 rfl; have x10 := m0.cell_at 10 rfl; clear m0; have c0 := HJ.out _ hW; have c1 := HJ1.out _ hW; go_simp; first | done | rfl)) (fun W hW => KT.out W (HBS.out W hW)) ?_; simp only [Act.put, List.setIfInBounds_toArray, List.set_cons_zero, List.set_cons_succ]))
          refine mix_nil (fun W hW => ?_)
          have hq := HBS.out W hW
          clear hW HBS
          go_wp2_with fail
          go_ret
          exact ⟨ret_bool HF.out, HQp.out _ hq⟩
        · have HN := Lib.hid (HNo.out.succ HX.out HB.out)
          clear HX HB
          go_wp2_with fail
          have HBS : Hid (∀ W, Below wr.heap.size wr W → Q W) := Lib.hid (fun W hB => HQ.out _ _ hq hB)
          clear hq
          refine region_mix (Below wr.heap.size wr) [(0, false), (1, false), (2, false), (3, false), (4, false), (5, false), (6, false), (7, false), (8, false), (9, false), (10, false), (11, false), (12, false), (13, false), (14, false)] (by kernel_rfl) (by kernel_rfl) (Below wr.heap.size wr) ⟨Closed.below wr, fun _ h => h⟩ (Below.refl _ _).drew ?_
          simp only [pickOps, List.getElem?_cons_zero, List.getElem?_cons_succ]
          repeat (first | (refine mix_skip (by rfl) ?_; simp only [Act.put, List.setIfInBounds_toArray, List.set_cons_zero, List.set_cons_succ]) | (refine mix_read _ (by rfl) (fun W hW => by (have hW := HBS.out W hW; have m0 := HQl.out _ hW; have x0 := m0.cell_at 0 rfl; have x1 := m0.cell_at 1 rfl; have x2 := m0.cell_at 2 rfl; have x3 := m0.cell_at 3 rfl; have x4 := m0.cell_at 4 rfl; have x5 := m0.cell_at 5 rfl; have x6 := m0.cell_at 6 rfl; have x7 := m0.cell_at 7 rfl; have x8 := m0.cell_at 8 rfl; have x9 := m0.cell_at 9 rfl; have x10 := m0.cell_at 10 rfl; clear m0; have c0 := HJ.out _ hW; have c1 := HJ1.out _ hW; go_simp; first | done | with_reducible rfl)) ?_; simp only [Act.put, List.setIfInBounds_toArray, List.set_cons_zero, List.set_cons_succ]) | (refine mix_call _ _ _ (by rfl) (fun W hW => by (have hW := HBS.out W hW; have m0 := HQl.out _ hW; have x0 := m0.cell_at 0 rfl; have x1 := m0.cell_at 1 rfl; have x2 := m0.cell_at 2 rfl; have x3 := m0.cell_at 3 rfl; have x4 := m0.cell_at 4 rfl; have x5 := m0.cell_at 5 rfl; have x6 := m0.cell_at 6 rfl; have x7 := m0.cell_at 7 rfl; have x8 := m0.cell_at 8 rfl; have x9 := m0.cell_at 9 rfl; have x10 := m0.cell_at 10 rfl; clear m0; have c0 := HJ.out _ hW; have c1 := HJ1.out _ hW; go_simp; first | done | rfl)) (fun W hW => KT.out W (HBS.out W hW)) ?_; simp only [Act.put, List.setIfInBounds_toArray, List.set_cons_zero, List.set_cons_succ]))
          refine mix_nil (fun W hW => ?_)
          have hq := HBS.out W hW
          clear hW HBS
          go_wp2_with fail
          go_roundw
          case rel => exact ⟨e + 1, hel, by go_num, hq, HN⟩
          case measure => simp [intOf]; omega
      · have d0 := decide_eq_false hd
        have HN := Lib.hid (HNo.out.succ HX.out (by unfold noJ; simp only [d0, Bool.false_and]))
        clear hd HX
        go_wp2_with fail
        have HBS : Hid (∀ W, Below wr.heap.size wr W → Q W) := Lib.hid (fun W hB => HQ.out _ _ hq hB)
        clear hq
        refine region_mix (Below wr.heap.size wr) [(0, false), (1, false), (2, false), (3, false), (4, false), (5, false), (6, false), (7, false), (8, false), (9, false), (10, false), (11, false), (12, false), (13, false), (14, false)] (by kernel_rfl) (by kernel_rfl) (Below wr.heap.size wr) ⟨Closed.below wr, fun _ h => h⟩ (Below.refl _ _).drew ?_
        simp only [pickOps, List.getElem?_cons_zero, List.getElem?_cons_succ]
        repeat (first | (refine mix_skip (by rfl) ?_; simp only [Act.put, List.setIfInBounds_toArray, List.set_cons_zero, List.set_cons_succ]) | (refine mix_read _ (by rfl) (fun W hW => by (have hW := HBS.out W hW; have m0 := HQl.out _ hW; have x0 := m0.cell_at 0 rfl; have x1 := m0.cell_at 1 rfl; have x2 := m0.cell_at 2 rfl; have x3 := m0.cell_at 3 rfl; have x4 := m0.cell_at 4 rfl; have x5 := m0.cell_at 5 rfl; have x6 := m0.cell_at 6 rfl; have x7 := m0.cell_at 7 rfl; have x8 := m0.cell_at 8 rfl; have x9 := m0.cell_at 9 rfl; have x10 := m0.cell_at 10 rfl; clear m0; have c0 := HJ.out _ hW; have c1 := HJ1.out _ hW; go_simp; first | done | with_reducible rfl)) ?_; simp only [Act.put, List.setIfInBounds_toArray, List.set_cons_zero, List.set_cons_succ]))
        refine mix_nil (fun W hW => ?_)
        have hq := HBS.out W hW
        clear hW HBS
        go_wp2_with fail
        go_roundw
        case rel => exact ⟨e + 1, hel, by go_num, hq, HN⟩
        case measure => simp [intOf]; omega
    · obtain rfl : e = 4 := by omega
      have HF : Hid (rk = r) := Lib.hid (by rw [← HR.out, ← HRK.out]; unfold secOk; rw [NoneUp.any (l := x.ports4) HNo.out]; rfl)
      have m := HQx.out _ hq
      have y0 := m.cell_at 0 rfl
      have y1 := m.cell_at 1 rfl
      have y2 := m.cell_at 2 rfl
      have y3 := m.cell_at 3 rfl
      have y4 := m.cell_at 4 rfl
      have y5 := m.cell_at 5 rfl
      have y6 := m.cell_at 6 rfl
      have y7 := m.cell_at 7 rfl
      have y8 := m.cell_at 8 rfl
      have y9 := m.cell_at 9 rfl
      have y10 := m.cell_at 10 rfl
      clear m
      go_wp2_with fail
      refine (KR.out _ hq).mono ?_
      clear y0 y1 y2 y3 y4 y5 y6 y7 y8 y9 y10 hq
      rintro e w1 ⟨rfl, hq⟩
      go_wp2_with fail
      go_ret
      exact ⟨ret_bool HF.out, HQp.out _ hq⟩

set_option maxRecDepth 100000 in
set_option maxHeartbeats 8000000 in
theorem exitR1_P (hP : Closed P) {l : Lay} (hL : ∀ w, P w → Lies l w) (x : Exm) (hO : ∀ w, P w → Row w w.heap.size x.A (x.over.flatMap stpCells)) (hn : (x.over.length : Int) ≤ 9223372036854775807) {r : Bool} (hr : exitOk l x = r) (h : P w) :
    Calls Tryd.prog 37 #[l.val, x.val] w fun e w' => e = .returned (.bool r) ∧ P w' := by
  obtain ⟨Q, HQ, HQp, HQl, HQx, hq⟩ := keep_box2 hP h 29 54 l.cells x.cells
  have HQL : Hid (∀ W, Q W → Lies l W) := Lib.hid fun W hW => hL _ (HQp.out _ hW)
  have HQO : Hid (∀ W, Q W → Row W W.heap.size x.A (x.over.flatMap stpCells)) := Lib.hid fun W hW => hO _ (HQp.out _ hW)
  obtain ⟨tb, htb⟩ : ∃ z, thereV l x.s x.q = z := ⟨_, rfl⟩
  have KT := Lib.hid (fun W hW => thereR_P (P := Q) (w := W) HQ.out HQL.out x.s x.q htb hW)
  have HR : Hid (exitOk l x = r) := Lib.hid hr
  have HTB : Hid (thereV l x.s x.q = tb) := Lib.hid htb
  clear h hr hL hP htb hO
  go_enter Tryd.func37, Tryd.ntmps37
  go_wp2_with fail
  go_loopw [5] (fun i wr => ∃ j : Nat, j ≤ x.over.length ∧ i = .int .i64 j ∧ Q wr ∧ Hid (NoneUp (noS l) x.over j)) (fun i _ => x.over.length - (intOf i).toNat)
  case atStart => exact ⟨0, by omega, rfl, hq, Lib.hid (NoneUp.zero _ _)⟩
  case round =>
    clear hq
    obtain ⟨j, hj, rfl, hq, HNo⟩ := hrel
    have v2 := (HQx.out _ hq).cell_at 2 rfl
    by_cases hlt : j < x.over.length
    · have hlt' : (j : Int) < x.over.length := by omega
      obtain ⟨⟨ys, yi, yo⟩, hy⟩ : ∃ y, x.over[j]? = some y := ⟨_, List.getElem?_eq_getElem hlt⟩
      obtain ⟨o1, o2, HA, HC0, HC⟩ := row_at (n := 3) (fun _ => rfl) (by omega) HQO.out hq hy
      have HX := Lib.hid hy
      clear hy
      obtain ⟨v, hv⟩ : ∃ v, wayK (kindV l ys) yi yo = v := ⟨_, rfl⟩
      obtain ⟨b, hb⟩ : ∃ b, stepV l ys yi yo = b := ⟨_, rfl⟩
      have KS := Lib.hid (fun W hW => stepR_B (HQL.out W hW) ys yi yo hv hb)
      have HB : Hid (noS l (ys, yi, yo) = !b) := Lib.hid (by unfold noS; simp only [hb])
      clear hv hb
      cases b
      · have HF : Hid (false = r) := Lib.hid (by rw [← HR.out]; unfold exitOk; rw [any_hit HX.out HB.out]; rfl)
        go_wp2_with fail
        clear v2
        have HBS : Hid (∀ W, Below wr.heap.size wr W → Q W) := Lib.hid (fun W hB => HQ.out _ _ hq hB)
        clear hq
        refine region_mix (Below wr.heap.size wr) [(0, false), (1, false), (2, false), (3, false), (4, false), (5, false), (6, false), (7, false), (8, false), (9, false), (10, false), (11, false)] (by kernel_rfl) (by kernel_rfl) (Below wr.heap.size wr) ⟨Closed.below wr, fun _ h => h⟩ (Below.refl _ _).drew ?_
        simp only [pickOps, List.getElem?_cons_zero, List.getElem?_cons_succ]
        repeat (first | (refine mix_skip (by rfl) ?_; simp only [Act.put, List.setIfInBounds_toArray, List.set_cons_zero, List.set_cons_succ]) | (refine mix_read _ (by rfl) (fun W hW => by (have hW := HBS.out W hW; have m0 := HQl.out _ hW; have x0 := m0.cell_at 0 rfl; have x1 := m0.cell_at 1 rfl; have x2 := m0.cell_at 2 rfl; have x3 := m0.cell_at 3 rfl; have x4 := m0.cell_at 4 rfl; have x5 := m0.cell_at 5 rfl; have x6 := m0.cell_at 6 rfl; have x7 := m0.cell_at 7 rfl; have x8 := m0.cell_at 8 rfl; have x9 := m0.cell_at 9 rfl; have x10 := m0.cell_at 10 rfl; clear m0; have m1 := HQx.out _ hW; have v0 := m1.cell_at 0 rfl; have v1 := m1.cell_at 1 rfl; have v2 := m1.cell_at 2 rfl; clear m1; rw [HA.out] at v2; have c0 := HC0.out _ hW j _ _ HX.out rfl; have c1 := HC.out _ hW j _ 1 _ HX.out rfl; have c2 := HC.out _ hW j _ 2 _ HX.out rfl; go_simp; first | done | with_reducible rfl)) ?_; simp only [Act.put, List.setIfInBounds_toArray, List.set_cons_zero, List.set_cons_succ]) | (refine mix_call _ _ _ (by rfl) (fun W hW => by (have hW := HBS.out W hW; have m0 := HQl.out _ hW; have x0 := m0.cell_at 0 rfl; have x1 := m0.cell_at 1 rfl; have x2 := m0.cell_at 2 rfl; have x3 := m0.cell_at 3 rfl; have x4 := m0.cell_at 4 rfl; have x5 := m0.cell_at 5 rfl; have x6 := m0.cell_at 6 rfl; have x7 := m0.cell_at 7 rfl; have x8 := m0.cell_at 8 rfl; have x9 := m0.cell_at 9 rfl; have x10 := m0.cell_at 10 rfl; clear m0; have m1 := HQx.out _ hW; have v0 := m1.cell_at 0 rfl; have v1 := m1.cell_at 1 rfl; have v2 := m1.cell_at 2 rfl; clear m1; rw [HA.out] at v2; have c0 := HC0.out _ hW j _ _ HX.out rfl; have c1 := HC.out _ hW j _ 1 _ HX.out rfl; have c2 := HC.out _ hW j _ 2 _ HX.out rfl; go_simp; first | done | rfl)) (fun W hW => KS.out W (HBS.out W hW)) ?_; simp only [Act.put, List.setIfInBounds_toArray, List.set_cons_zero, List.set_cons_succ]))
        refine mix_nil (fun W hW => ?_)
        have hq := HBS.out W hW
        clear hW HBS
        go_wp2_with fail
        go_ret
        exact ⟨ret_bool HF.out, HQp.out _ hq⟩
      · have HN := Lib.hid (HNo.out.succ HX.out HB.out)
        go_wp2_with fail
        clear v2
        have HBS : Hid (∀ W, Below wr.heap.size wr W → Q W) := Lib.hid (fun W hB => HQ.out _ _ hq hB)
        clear hq
        refine region_mix (Below wr.heap.size wr) [(0, false), (1, false), (2, false), (3, false), (4, false), (5, false), (6, false), (7, false), (8, false), (9, false), (10, false), (11, false)] (by kernel_rfl) (by kernel_rfl) (Below wr.heap.size wr) ⟨Closed.below wr, fun _ h => h⟩ (Below.refl _ _).drew ?_
        simp only [pickOps, List.getElem?_cons_zero, List.getElem?_cons_succ]
        repeat (first | (refine mix_skip (by rfl) ?_; simp only [Act.put, List.setIfInBounds_toArray, List.set_cons_zero, List.set_cons_succ]) | (refine mix_read _ (by rfl) (fun W hW => by (have hW := HBS.out W hW; have m0 := HQl.out _ hW; have x0 := m0.cell_at 0 rfl; have x1 := m0.cell_at 1 rfl; have x2 := m0.cell_at 2 rfl; have x3 := m0.cell_at 3 rfl; have x4 := m0.cell_at 4 rfl; have x5 := m0.cell_at 5 rfl; have x6 := m0.cell_at 6 rfl; have x7 := m0.cell_at 7 rfl; have x8 := m0.cell_at 8 rfl; have x9 := m0.cell_at 9 rfl; have x10 := m0.cell_at 10 rfl; clear m0; have m1 := HQx.out _ hW; have v0 := m1.cell_at 0 rfl; have v1 := m1.cell_at 1 rfl; have v2 := m1.cell_at 2 rfl; clear m1; rw [HA.out] at v2; have c0 := HC0.out _ hW j _ _ HX.out rfl; have c1 := HC.out _ hW j _ 1 _ HX.out rfl; have c2 := HC.out _ hW j _ 2 _ HX.out rfl; go_simp; first | done | with_reducible rfl)) ?_; simp only [Act.put, List.setIfInBounds_toArray, List.set_cons_zero, List.set_cons_succ]) | (refine mix_call _ _ _ (by rfl) (fun W hW => by (have hW := HBS.out W hW; have m0 := HQl.out _ hW; have x0 := m0.cell_at 0 rfl; have x1 := m0.cell_at 1 rfl; have x2 := m0.cell_at 2 rfl; have x3 := m0.cell_at 3 rfl; have x4 := m0.cell_at 4 rfl; have x5 := m0.cell_at 5 rfl; have x6 := m0.cell_at 6 rfl; have x7 := m0.cell_at 7 rfl; have x8 := m0.cell_at 8 rfl; have x9 := m0.cell_at 9 rfl; have x10 := m0.cell_at 10 rfl; clear m0; have m1 := HQx.out _ hW; have v0 := m1.cell_at 0 rfl; have v1 := m1.cell_at 1 rfl; have v2 := m1.cell_at 2 rfl; clear m1; rw [HA.out] at v2; have c0 := HC0.out _ hW j _ _ HX.out rfl; have c1 := HC.out _ hW j _ 1 _ HX.out rfl; have c2 := HC.out _ hW j _ 2 _ HX.out rfl; go_simp; first | done | rfl)) (fun W hW => KS.out W (HBS.out W hW)) ?_; simp only [Act.put, List.setIfInBounds_toArray, List.set_cons_zero, List.set_cons_succ]))
        refine mix_nil (fun W hW => ?_)
        have hq := HBS.out W hW
        clear hW HBS
        go_wp2_with fail
        go_roundw
        case rel => exact ⟨j + 1, hlt, by go_num, hq, HN⟩
        case measure => simp [intOf]; omega
    · obtain rfl : j = x.over.length := by omega
      have HF : Hid ((tb && decide ((x.over.length : Int) ≤ 2)) = r) := Lib.hid (by rw [← HR.out, ← HTB.out]; unfold exitOk; rw [NoneUp.any HNo.out]; rfl)
      clear hj hlt HNo v2
      have hW := hq
      have m0 := HQl.out _ hW
      have x0 := m0.cell_at 0 rfl
      have x1 := m0.cell_at 1 rfl
      have x2 := m0.cell_at 2 rfl
      have x3 := m0.cell_at 3 rfl
      have x4 := m0.cell_at 4 rfl
      have x5 := m0.cell_at 5 rfl
      have x6 := m0.cell_at 6 rfl
      have x7 := m0.cell_at 7 rfl
      have x8 := m0.cell_at 8 rfl
      have x9 := m0.cell_at 9 rfl
      have x10 := m0.cell_at 10 rfl
      clear m0
      have m1 := HQx.out _ hW
      have v0 := m1.cell_at 0 rfl
      have v1 := m1.cell_at 1 rfl
      have v2 := m1.cell_at 2 rfl
      clear m1
      clear hW
      go_wp2_with fail
      refine (KT.out _ hq).mono ?_
      clear x0 x1 x2 x3 x4 x5 x6 x7 x8 x9 x10 v0 v1 v2 hq
      rintro e w1 ⟨rfl, hq⟩
      have v2 := (HQx.out _ hq).cell_at 2 rfl
      cases tb
      · go_wp2_with fail
        go_ret
        exact ⟨ret_bool HF.out, HQp.out _ hq⟩
      · by_cases h2 : (x.over.length : Int) ≤ 2
        · have d2 := decide_eq_true h2
          rw [d2] at HF
          clear h2
          go_wp2_with fail
          go_ret
          exact ⟨ret_bool HF.out, HQp.out _ hq⟩
        · have d2 := decide_eq_false h2
          rw [d2] at HF
          clear h2
          go_wp2_with fail
          go_ret
          exact ⟨ret_bool HF.out, HQp.out _ hq⟩

set_option maxRecDepth 100000 in
set_option maxHeartbeats 8000000 in
theorem flankR_P (hP : Closed P) {l : Lay} (hL : ∀ w, P w → Lies l w) (a b c d : Int) {r : Bool} (hr : flankV l a b c d = r) (h : P w) :
    Calls Tryd.prog 38 #[l.val, flkV a b c d] w fun e w' => e = .returned (.bool r) ∧ P w' := by
  obtain ⟨Q, HQ, HQp, HQl, HQv, hq⟩ := keep_box2 hP h 29 59 l.cells (flkCells (a, b, c, d))
  have HQL : Hid (∀ W, Q W → Row W W.heap.size l.As (l.secs.flatMap Sec.cells)) := Lib.hid fun W hW => (hL _ (HQp.out _ hW)).secs
  have hcase := flank_cases l a b c d
  rw [hr] at hcase
  clear h hr hL hP
  rcases hcase with ⟨rfl, h1⟩ | ⟨rfl, h1, h2⟩ | ⟨i, x, rfl, hx, hi, ⟨rfl, h3⟩ | ⟨rfl, h3, h4⟩ | ⟨j, y, rfl, hy, hj, ⟨rfl, h5⟩ | ⟨hne, ⟨rfl, h6⟩ | ⟨rfl, h6, h7⟩ | ⟨h6, h7, ⟨rfl, h8⟩ | ⟨h8, ⟨rfl, h9⟩ | ⟨h9, h10⟩⟩⟩⟩⟩⟩
  · go_enter Tryd.func38, Tryd.ntmps38
    have e1 := decide_eq_true h1
    clear h1
    have hW := hq
    have m0 := HQl.out _ hW
    have x0 := m0.cell_at 0 rfl
    have x1 := m0.cell_at 1 rfl
    have x2 := m0.cell_at 2 rfl
    have x3 := m0.cell_at 3 rfl
    have x4 := m0.cell_at 4 rfl
    have x5 := m0.cell_at 5 rfl
    have x6 := m0.cell_at 6 rfl
    have x7 := m0.cell_at 7 rfl
    have x8 := m0.cell_at 8 rfl
    have x9 := m0.cell_at 9 rfl
    have x10 := m0.cell_at 10 rfl
    clear m0
    have m1 := HQv.out _ hW
    have v0 := m1.cell_at 0 rfl
    have v1 := m1.cell_at 1 rfl
    have v2 := m1.cell_at 2 rfl
    have v3 := m1.cell_at 3 rfl
    clear m1
    clear hW
    go_wp2_with fail
    go_ret
    exact ⟨rfl, HQp.out _ hq⟩
  · go_enter Tryd.func38, Tryd.ntmps38
    have e1 : decide (a < 0) = false := decide_eq_false (by omega)
    have e2 := decide_eq_true h2
    clear h1 h2
    have hW := hq
    have m0 := HQl.out _ hW
    have x0 := m0.cell_at 0 rfl
    have x1 := m0.cell_at 1 rfl
    have x2 := m0.cell_at 2 rfl
    have x3 := m0.cell_at 3 rfl
    have x4 := m0.cell_at 4 rfl
    have x5 := m0.cell_at 5 rfl
    have x6 := m0.cell_at 6 rfl
    have x7 := m0.cell_at 7 rfl
    have x8 := m0.cell_at 8 rfl
    have x9 := m0.cell_at 9 rfl
    have x10 := m0.cell_at 10 rfl
    clear m0
    have m1 := HQv.out _ hW
    have v0 := m1.cell_at 0 rfl
    have v1 := m1.cell_at 1 rfl
    have v2 := m1.cell_at 2 rfl
    have v3 := m1.cell_at 3 rfl
    clear m1
    clear hW
    go_wp2_with fail
    go_ret
    exact ⟨rfl, HQp.out _ hq⟩
  · go_enter Tryd.func38, Tryd.ntmps38
    have e1 : decide ((i : Int) < 0) = false := decide_eq_false (by omega)
    have e2 : decide ((l.secs.length : Int) ≤ i) = false := decide_eq_false (by omega)
    have e2n : decide (l.secs.length ≤ i) = false := decide_eq_false (by omega)
    have e3 := decide_eq_true h3
    clear h3
    have hW := hq
    have m0 := HQl.out _ hW
    have x0 := m0.cell_at 0 rfl
    have x1 := m0.cell_at 1 rfl
    have x2 := m0.cell_at 2 rfl
    have x3 := m0.cell_at 3 rfl
    have x4 := m0.cell_at 4 rfl
    have x5 := m0.cell_at 5 rfl
    have x6 := m0.cell_at 6 rfl
    have x7 := m0.cell_at 7 rfl
    have x8 := m0.cell_at 8 rfl
    have x9 := m0.cell_at 9 rfl
    have x10 := m0.cell_at 10 rfl
    clear m0
    have m1 := HQv.out _ hW
    have v0 := m1.cell_at 0 rfl
    have v1 := m1.cell_at 1 rfl
    have v2 := m1.cell_at 2 rfl
    have v3 := m1.cell_at 3 rfl
    clear m1
    clear hW
    go_wp2_with fail
    go_ret
    exact ⟨rfl, HQp.out _ hq⟩
  · go_enter Tryd.func38, Tryd.ntmps38
    have e1 : decide ((i : Int) < 0) = false := decide_eq_false (by omega)
    have e2 : decide ((l.secs.length : Int) ≤ i) = false := decide_eq_false (by omega)
    have e2n : decide (l.secs.length ≤ i) = false := decide_eq_false (by omega)
    have e3 : decide (c < 0) = false := decide_eq_false (by omega)
    have e4 := decide_eq_true h4
    clear h3 h4
    have hW := hq
    have m0 := HQl.out _ hW
    have x0 := m0.cell_at 0 rfl
    have x1 := m0.cell_at 1 rfl
    have x2 := m0.cell_at 2 rfl
    have x3 := m0.cell_at 3 rfl
    have x4 := m0.cell_at 4 rfl
    have x5 := m0.cell_at 5 rfl
    have x6 := m0.cell_at 6 rfl
    have x7 := m0.cell_at 7 rfl
    have x8 := m0.cell_at 8 rfl
    have x9 := m0.cell_at 9 rfl
    have x10 := m0.cell_at 10 rfl
    clear m0
    have m1 := HQv.out _ hW
    have v0 := m1.cell_at 0 rfl
    have v1 := m1.cell_at 1 rfl
    have v2 := m1.cell_at 2 rfl
    have v3 := m1.cell_at 3 rfl
    clear m1
    clear hW
    go_wp2_with fail
    go_ret
    exact ⟨rfl, HQp.out _ hq⟩
  · subst h5
    go_enter Tryd.func38, Tryd.ntmps38
    have e1 : decide ((i : Int) < 0) = false := decide_eq_false (by omega)
    have e2 : decide ((l.secs.length : Int) ≤ i) = false := decide_eq_false (by omega)
    have e2n : decide (l.secs.length ≤ i) = false := decide_eq_false (by omega)
    have hW := hq
    have m0 := HQl.out _ hW
    have x0 := m0.cell_at 0 rfl
    have x1 := m0.cell_at 1 rfl
    have x2 := m0.cell_at 2 rfl
    have x3 := m0.cell_at 3 rfl
    have x4 := m0.cell_at 4 rfl
    have x5 := m0.cell_at 5 rfl
    have x6 := m0.cell_at 6 rfl
    have x7 := m0.cell_at 7 rfl
    have x8 := m0.cell_at 8 rfl
    have x9 := m0.cell_at 9 rfl
    have x10 := m0.cell_at 10 rfl
    clear m0
    have m1 := HQv.out _ hW
    have v0 := m1.cell_at 0 rfl
    have v1 := m1.cell_at 1 rfl
    have v2 := m1.cell_at 2 rfl
    have v3 := m1.cell_at 3 rfl
    clear m1
    clear hW
    go_wp2_with fail
    go_ret
    exact ⟨rfl, HQp.out _ hq⟩
  · go_enter Tryd.func38, Tryd.ntmps38
    have e1 : decide ((i : Int) < 0) = false := decide_eq_false (by omega)
    have e2 : decide ((l.secs.length : Int) ≤ i) = false := decide_eq_false (by omega)
    have e2n : decide (l.secs.length ≤ i) = false := decide_eq_false (by omega)
    have e3 : decide ((j : Int) < 0) = false := decide_eq_false (by omega)
    have e4 : decide ((l.secs.length : Int) ≤ j) = false := decide_eq_false (by omega)
    have e4n : decide (l.secs.length ≤ j) = false := decide_eq_false (by omega)
    have e5 : ((i : Int) == (j : Int)) = false := by rw [beq_eq_false_iff_ne]; omega
    have e5n : (i == j) = false := by rw [beq_eq_false_iff_ne]; exact hne
    have e6 := decide_eq_true h6
    clear h6
    have hW := hq
    have m0 := HQl.out _ hW
    have x0 := m0.cell_at 0 rfl
    have x1 := m0.cell_at 1 rfl
    have x2 := m0.cell_at 2 rfl
    have x3 := m0.cell_at 3 rfl
    have x4 := m0.cell_at 4 rfl
    have x5 := m0.cell_at 5 rfl
    have x6 := m0.cell_at 6 rfl
    have x7 := m0.cell_at 7 rfl
    have x8 := m0.cell_at 8 rfl
    have x9 := m0.cell_at 9 rfl
    have x10 := m0.cell_at 10 rfl
    clear m0
    have m1 := HQv.out _ hW
    have v0 := m1.cell_at 0 rfl
    have v1 := m1.cell_at 1 rfl
    have v2 := m1.cell_at 2 rfl
    have v3 := m1.cell_at 3 rfl
    clear m1
    clear hW
    go_wp2_with fail
    go_ret
    exact ⟨rfl, HQp.out _ hq⟩
  · go_enter Tryd.func38, Tryd.ntmps38
    have e1 : decide ((i : Int) < 0) = false := decide_eq_false (by omega)
    have e2 : decide ((l.secs.length : Int) ≤ i) = false := decide_eq_false (by omega)
    have e2n : decide (l.secs.length ≤ i) = false := decide_eq_false (by omega)
    have e3 : decide ((j : Int) < 0) = false := decide_eq_false (by omega)
    have e4 : decide ((l.secs.length : Int) ≤ j) = false := decide_eq_false (by omega)
    have e4n : decide (l.secs.length ≤ j) = false := decide_eq_false (by omega)
    have e5 : ((i : Int) == (j : Int)) = false := by rw [beq_eq_false_iff_ne]; omega
    have e5n : (i == j) = false := by rw [beq_eq_false_iff_ne]; exact hne
    have e6 : decide (d < 0) = false := decide_eq_false (by omega)
    have e7 := decide_eq_true h7
    clear h6 h7
    have hW := hq
    have m0 := HQl.out _ hW
    have x0 := m0.cell_at 0 rfl
    have x1 := m0.cell_at 1 rfl
    have x2 := m0.cell_at 2 rfl
    have x3 := m0.cell_at 3 rfl
    have x4 := m0.cell_at 4 rfl
    have x5 := m0.cell_at 5 rfl
    have x6 := m0.cell_at 6 rfl
    have x7 := m0.cell_at 7 rfl
    have x8 := m0.cell_at 8 rfl
    have x9 := m0.cell_at 9 rfl
    have x10 := m0.cell_at 10 rfl
    clear m0
    have m1 := HQv.out _ hW
    have v0 := m1.cell_at 0 rfl
    have v1 := m1.cell_at 1 rfl
    have v2 := m1.cell_at 2 rfl
    have v3 := m1.cell_at 3 rfl
    clear m1
    clear hW
    go_wp2_with fail
    go_ret
    exact ⟨rfl, HQp.out _ hq⟩
  · go_enter Tryd.func38, Tryd.ntmps38
    obtain ⟨o1, o2, HA, HC0, HC⟩ := row_at (n := 11) Sec.len (by omega) HQL.out hq hx
    have HX := Lib.hid hx
    have HY := Lib.hid hy
    clear hx hy
    have e1 : decide ((i : Int) < 0) = false := decide_eq_false (by omega)
    have e2 : decide ((l.secs.length : Int) ≤ i) = false := decide_eq_false (by omega)
    have e2n : decide (l.secs.length ≤ i) = false := decide_eq_false (by omega)
    have e3 : decide ((j : Int) < 0) = false := decide_eq_false (by omega)
    have e4 : decide ((l.secs.length : Int) ≤ j) = false := decide_eq_false (by omega)
    have e4n : decide (l.secs.length ≤ j) = false := decide_eq_false (by omega)
    have e5 : ((i : Int) == (j : Int)) = false := by rw [beq_eq_false_iff_ne]; omega
    have e5n : (i == j) = false := by rw [beq_eq_false_iff_ne]; exact hne
    have e6 : decide (d < 0) = false := decide_eq_false (by omega)
    have e7 : decide (1 < d) = false := decide_eq_false (by omega)
    have e8 : decide (0 ≤ b) = false := decide_eq_false (by omega)
    clear h6 h7 h8
    have hW := hq
    have m0 := HQl.out _ hW
    have x0 := m0.cell_at 0 rfl
    have x1 := m0.cell_at 1 rfl
    have x2 := m0.cell_at 2 rfl
    have x3 := m0.cell_at 3 rfl
    have x4 := m0.cell_at 4 rfl
    have x5 := m0.cell_at 5 rfl
    have x6 := m0.cell_at 6 rfl
    have x7 := m0.cell_at 7 rfl
    have x8 := m0.cell_at 8 rfl
    have x9 := m0.cell_at 9 rfl
    have x10 := m0.cell_at 10 rfl
    clear m0
    have m1 := HQv.out _ hW
    have v0 := m1.cell_at 0 rfl
    have v1 := m1.cell_at 1 rfl
    have v2 := m1.cell_at 2 rfl
    have v3 := m1.cell_at 3 rfl
    clear m1
    clear hW
    go_wp2_with fail
    clear x0 x1 x2 x3 x4 x5 x6 x7 x8 x9 x10 v0 v1 v2 v3
    have HBS : Hid (∀ W, Below ((w.alloc (.cells l.cells.toArray 29)).alloc (.cells (flkCells ((i : Int), b, (j : Int), d)).toArray 59)).heap.size ((w.alloc (.cells l.cells.toArray 29)).alloc (.cells (flkCells ((i : Int), b, (j : Int), d)).toArray 59)) W → Q W) := Lib.hid (fun W hB => HQ.out _ _ hq hB)
    clear hq
    refine region_mix (Below ((w.alloc (.cells l.cells.toArray 29)).alloc (.cells (flkCells ((i : Int), b, (j : Int), d)).toArray 59)).heap.size ((w.alloc (.cells l.cells.toArray 29)).alloc (.cells (flkCells ((i : Int), b, (j : Int), d)).toArray 59))) [(0, false), (1, false), (2, false), (3, false), (4, false), (5, false), (6, false), (7, false), (8, false), (9, false), (10, false), (11, false), (12, false), (13, false), (14, false), (15, false), (16, false), (17, false), (18, false), (19, false), (20, false), (21, false), (22, false), (23, false), (24, false), (25, false), (26, false)] (by kernel_rfl) (by kernel_rfl) (Below ((w.alloc (.cells l.cells.toArray 29)).alloc (.cells (flkCells ((i : Int), b, (j : Int), d)).toArray 59)).heap.size ((w.alloc (.cells l.cells.toArray 29)).alloc (.cells (flkCells ((i : Int), b, (j : Int), d)).toArray 59))) ⟨Closed.below ((w.alloc (.cells l.cells.toArray 29)).alloc (.cells (flkCells ((i : Int), b, (j : Int), d)).toArray 59)), fun _ h => h⟩ (Below.refl _ _).drew ?_
    simp only [pickOps, List.getElem?_cons_zero, List.getElem?_cons_succ]
    repeat (first | (refine mix_skip (by rfl) ?_; simp only [Act.put, List.setIfInBounds_toArray, List.set_cons_zero, List.set_cons_succ]) | (refine mix_read _ (by rfl) (fun W hW => by (have hW := HBS.out W hW; have m0 := HQl.out _ hW; have x0 := m0.cell_at 0 rfl; have x1 := m0.cell_at 1 rfl; have x2 := m0.cell_at 2 rfl; have x3 := m0.cell_at 3 rfl; have x4 := m0.cell_at 4 rfl; have x5 := m0.cell_at 5 rfl; have x6 := m0.cell_at 6 rfl; have x7 := m0.cell_at 7 rfl; have x8 := m0.cell_at 8 rfl; have x9 := m0.cell_at 9 rfl; have x10 := m0.cell_at 10 rfl; clear m0; have m1 := HQv.out _ hW; have v0 := m1.cell_at 0 rfl; have v1 := m1.cell_at 1 rfl; have v2 := m1.cell_at 2 rfl; have v3 := m1.cell_at 3 rfl; clear m1; rw [HA.out] at x0; have c0 := HC0.out _ hW i _ _ HX.out rfl; have c1 := HC0.out _ hW j _ _ HY.out rfl; go_simp; first | done | with_reducible rfl)) ?_; simp only [Act.put, List.setIfInBounds_toArray, List.set_cons_zero, List.set_cons_succ]))
    refine mix_nil (fun W hW => ?_)
    have hq := HBS.out W hW
    clear hW HBS
    go_wp2_with fail
    go_ret
    exact ⟨ret_bool rfl, HQp.out _ hq⟩
  · go_enter Tryd.func38, Tryd.ntmps38
    obtain ⟨o1, o2, HA, HC0, HC⟩ := row_at (n := 11) Sec.len (by omega) HQL.out hq hx
    have HX := Lib.hid hx
    have HY := Lib.hid hy
    clear hx hy
    have KW := Lib.hid (fun (W : World) (hW : Q W) => waysR_B (w := W) (shapeK x.k))
    generalize nK x.k = nk at *
    have e1 : decide ((i : Int) < 0) = false := decide_eq_false (by omega)
    have e2 : decide ((l.secs.length : Int) ≤ i) = false := decide_eq_false (by omega)
    have e2n : decide (l.secs.length ≤ i) = false := decide_eq_false (by omega)
    have e3 : decide ((j : Int) < 0) = false := decide_eq_false (by omega)
    have e4 : decide ((l.secs.length : Int) ≤ j) = false := decide_eq_false (by omega)
    have e4n : decide (l.secs.length ≤ j) = false := decide_eq_false (by omega)
    have e5 : ((i : Int) == (j : Int)) = false := by rw [beq_eq_false_iff_ne]; omega
    have e5n : (i == j) = false := by rw [beq_eq_false_iff_ne]; exact hne
    have e6 : decide (d < 0) = false := decide_eq_false (by omega)
    have e7 : decide (1 < d) = false := decide_eq_false (by omega)
    have e8 : decide (0 ≤ b) = true := decide_eq_true h8
    have e9 : decide (b < nk) = false := decide_eq_false (by omega)
    clear h6 h7 h8 h9
    have hW := hq
    have m0 := HQl.out _ hW
    have x0 := m0.cell_at 0 rfl
    have x1 := m0.cell_at 1 rfl
    have x2 := m0.cell_at 2 rfl
    have x3 := m0.cell_at 3 rfl
    have x4 := m0.cell_at 4 rfl
    have x5 := m0.cell_at 5 rfl
    have x6 := m0.cell_at 6 rfl
    have x7 := m0.cell_at 7 rfl
    have x8 := m0.cell_at 8 rfl
    have x9 := m0.cell_at 9 rfl
    have x10 := m0.cell_at 10 rfl
    clear m0
    have m1 := HQv.out _ hW
    have v0 := m1.cell_at 0 rfl
    have v1 := m1.cell_at 1 rfl
    have v2 := m1.cell_at 2 rfl
    have v3 := m1.cell_at 3 rfl
    clear m1
    clear hW
    go_wp2_with fail
    clear x0 x1 x2 x3 x4 x5 x6 x7 x8 x9 x10 v0 v1 v2 v3
    have HBS : Hid (∀ W, Below ((w.alloc (.cells l.cells.toArray 29)).alloc (.cells (flkCells ((i : Int), b, (j : Int), d)).toArray 59)).heap.size ((w.alloc (.cells l.cells.toArray 29)).alloc (.cells (flkCells ((i : Int), b, (j : Int), d)).toArray 59)) W → Q W) := Lib.hid (fun W hB => HQ.out _ _ hq hB)
    clear hq
    refine region_mix (Below ((w.alloc (.cells l.cells.toArray 29)).alloc (.cells (flkCells ((i : Int), b, (j : Int), d)).toArray 59)).heap.size ((w.alloc (.cells l.cells.toArray 29)).alloc (.cells (flkCells ((i : Int), b, (j : Int), d)).toArray 59))) [(0, false), (1, false), (2, false), (3, false), (4, false), (5, false), (6, false), (7, false), (8, false), (9, false), (10, false), (11, false), (12, false), (13, false), (14, false), (15, false), (16, false), (17, false), (18, false), (19, false), (20, false), (21, false), (22, false), (23, false), (24, false), (25, false), (26, false)] (by kernel_rfl) (by kernel_rfl) (Below ((w.alloc (.cells l.cells.toArray 29)).alloc (.cells (flkCells ((i : Int), b, (j : Int), d)).toArray 59)).heap.size ((w.alloc (.cells l.cells.toArray 29)).alloc (.cells (flkCells ((i : Int), b, (j : Int), d)).toArray 59))) ⟨Closed.below ((w.alloc (.cells l.cells.toArray 29)).alloc (.cells (flkCells ((i : Int), b, (j : Int), d)).toArray 59)), fun _ h => h⟩ (Below.refl _ _).drew ?_
    simp only [pickOps, List.getElem?_cons_zero, List.getElem?_cons_succ]
    repeat (first | (refine mix_skip (by rfl) ?_; simp only [Act.put, List.setIfInBounds_toArray, List.set_cons_zero, List.set_cons_succ]) | (refine mix_read _ (by rfl) (fun W hW => by (have hW := HBS.out W hW; have m0 := HQl.out _ hW; have x0 := m0.cell_at 0 rfl; have x1 := m0.cell_at 1 rfl; have x2 := m0.cell_at 2 rfl; have x3 := m0.cell_at 3 rfl; have x4 := m0.cell_at 4 rfl; have x5 := m0.cell_at 5 rfl; have x6 := m0.cell_at 6 rfl; have x7 := m0.cell_at 7 rfl; have x8 := m0.cell_at 8 rfl; have x9 := m0.cell_at 9 rfl; have x10 := m0.cell_at 10 rfl; clear m0; have m1 := HQv.out _ hW; have v0 := m1.cell_at 0 rfl; have v1 := m1.cell_at 1 rfl; have v2 := m1.cell_at 2 rfl; have v3 := m1.cell_at 3 rfl; clear m1; rw [HA.out] at x0; have c0 := HC0.out _ hW i _ _ HX.out rfl; have c1 := HC0.out _ hW j _ _ HY.out rfl; go_simp; first | done | with_reducible rfl)) ?_; simp only [Act.put, List.setIfInBounds_toArray, List.set_cons_zero, List.set_cons_succ]) | (refine mix_call _ _ _ (by rfl) (fun W hW => by (have hW := HBS.out W hW; have m0 := HQl.out _ hW; have x0 := m0.cell_at 0 rfl; have x1 := m0.cell_at 1 rfl; have x2 := m0.cell_at 2 rfl; have x3 := m0.cell_at 3 rfl; have x4 := m0.cell_at 4 rfl; have x5 := m0.cell_at 5 rfl; have x6 := m0.cell_at 6 rfl; have x7 := m0.cell_at 7 rfl; have x8 := m0.cell_at 8 rfl; have x9 := m0.cell_at 9 rfl; have x10 := m0.cell_at 10 rfl; clear m0; have m1 := HQv.out _ hW; have v0 := m1.cell_at 0 rfl; have v1 := m1.cell_at 1 rfl; have v2 := m1.cell_at 2 rfl; have v3 := m1.cell_at 3 rfl; clear m1; rw [HA.out] at x0; have c0 := HC0.out _ hW i _ _ HX.out rfl; have c1 := HC0.out _ hW j _ _ HY.out rfl; go_simp; first | done | rfl)) (fun W hW => KW.out W (HBS.out W hW)) ?_; simp only [Act.put, List.setIfInBounds_toArray, List.set_cons_zero, List.set_cons_succ]))
    refine mix_nil (fun W hW => ?_)
    have hq := HBS.out W hW
    clear hW HBS
    go_wp2_with fail
    go_ret
    exact ⟨ret_bool rfl, HQp.out _ hq⟩
  · go_enter Tryd.func38, Tryd.ntmps38
    obtain ⟨o1, o2, HA, HC0, HC⟩ := row_at (n := 11) Sec.len (by omega) HQL.out hq hx
    have HX := Lib.hid hx
    have HY := Lib.hid hy
    clear hx hy
    have KW := Lib.hid (fun (W : World) (hW : Q W) => waysR_B (w := W) (shapeK x.k))
    generalize nK x.k = nk at *
    have e1 : decide ((i : Int) < 0) = false := decide_eq_false (by omega)
    have e2 : decide ((l.secs.length : Int) ≤ i) = false := decide_eq_false (by omega)
    have e2n : decide (l.secs.length ≤ i) = false := decide_eq_false (by omega)
    have e3 : decide ((j : Int) < 0) = false := decide_eq_false (by omega)
    have e4 : decide ((l.secs.length : Int) ≤ j) = false := decide_eq_false (by omega)
    have e4n : decide (l.secs.length ≤ j) = false := decide_eq_false (by omega)
    have e5 : ((i : Int) == (j : Int)) = false := by rw [beq_eq_false_iff_ne]; omega
    have e5n : (i == j) = false := by rw [beq_eq_false_iff_ne]; exact hne
    have e6 : decide (d < 0) = false := decide_eq_false (by omega)
    have e7 : decide (1 < d) = false := decide_eq_false (by omega)
    have e8 : decide (0 ≤ b) = true := decide_eq_true h8
    have e9 : decide (b < nk) = true := decide_eq_true h9
    have H10 := Lib.hid h10.symm
    clear h6 h7 h8 h9 h10
    obtain ⟨yb, hyb⟩ : ∃ z, (y.k == 2) = z := ⟨_, rfl⟩
    rw [hyb] at H10
    have hW := hq
    have m0 := HQl.out _ hW
    have x0 := m0.cell_at 0 rfl
    have x1 := m0.cell_at 1 rfl
    have x2 := m0.cell_at 2 rfl
    have x3 := m0.cell_at 3 rfl
    have x4 := m0.cell_at 4 rfl
    have x5 := m0.cell_at 5 rfl
    have x6 := m0.cell_at 6 rfl
    have x7 := m0.cell_at 7 rfl
    have x8 := m0.cell_at 8 rfl
    have x9 := m0.cell_at 9 rfl
    have x10 := m0.cell_at 10 rfl
    clear m0
    have m1 := HQv.out _ hW
    have v0 := m1.cell_at 0 rfl
    have v1 := m1.cell_at 1 rfl
    have v2 := m1.cell_at 2 rfl
    have v3 := m1.cell_at 3 rfl
    clear m1
    clear hW
    go_wp2_with fail
    clear x0 x1 x2 x3 x4 x5 x6 x7 x8 x9 x10 v0 v1 v2 v3
    have HBS : Hid (∀ W, Below ((w.alloc (.cells l.cells.toArray 29)).alloc (.cells (flkCells ((i : Int), b, (j : Int), d)).toArray 59)).heap.size ((w.alloc (.cells l.cells.toArray 29)).alloc (.cells (flkCells ((i : Int), b, (j : Int), d)).toArray 59)) W → Q W) := Lib.hid (fun W hB => HQ.out _ _ hq hB)
    clear hq
    refine region_mix (Below ((w.alloc (.cells l.cells.toArray 29)).alloc (.cells (flkCells ((i : Int), b, (j : Int), d)).toArray 59)).heap.size ((w.alloc (.cells l.cells.toArray 29)).alloc (.cells (flkCells ((i : Int), b, (j : Int), d)).toArray 59))) [(0, false), (1, false), (2, false), (3, false), (4, false), (5, false), (6, false), (7, false), (8, false), (9, false), (10, false), (11, false), (12, false), (13, false), (14, false), (15, false), (16, false), (17, false), (18, false), (19, false), (20, false), (21, false), (22, false), (23, false), (24, false), (25, false), (26, false)] (by kernel_rfl) (by kernel_rfl) (Below ((w.alloc (.cells l.cells.toArray 29)).alloc (.cells (flkCells ((i : Int), b, (j : Int), d)).toArray 59)).heap.size ((w.alloc (.cells l.cells.toArray 29)).alloc (.cells (flkCells ((i : Int), b, (j : Int), d)).toArray 59))) ⟨Closed.below ((w.alloc (.cells l.cells.toArray 29)).alloc (.cells (flkCells ((i : Int), b, (j : Int), d)).toArray 59)), fun _ h => h⟩ (Below.refl _ _).drew ?_
    simp only [pickOps, List.getElem?_cons_zero, List.getElem?_cons_succ]
    repeat (first | (refine mix_skip (by rfl) ?_; simp only [Act.put, List.setIfInBounds_toArray, List.set_cons_zero, List.set_cons_succ]) | (refine mix_read _ (by rfl) (fun W hW => by (have hW := HBS.out W hW; have m0 := HQl.out _ hW; have x0 := m0.cell_at 0 rfl; have x1 := m0.cell_at 1 rfl; have x2 := m0.cell_at 2 rfl; have x3 := m0.cell_at 3 rfl; have x4 := m0.cell_at 4 rfl; have x5 := m0.cell_at 5 rfl; have x6 := m0.cell_at 6 rfl; have x7 := m0.cell_at 7 rfl; have x8 := m0.cell_at 8 rfl; have x9 := m0.cell_at 9 rfl; have x10 := m0.cell_at 10 rfl; clear m0; have m1 := HQv.out _ hW; have v0 := m1.cell_at 0 rfl; have v1 := m1.cell_at 1 rfl; have v2 := m1.cell_at 2 rfl; have v3 := m1.cell_at 3 rfl; clear m1; rw [HA.out] at x0; have c0 := HC0.out _ hW i _ _ HX.out rfl; have c1 := HC0.out _ hW j _ _ HY.out rfl; go_simp; first | done | with_reducible rfl)) ?_; simp only [Act.put, List.setIfInBounds_toArray, List.set_cons_zero, List.set_cons_succ]) | (refine mix_call _ _ _ (by rfl) (fun W hW => by (have hW := HBS.out W hW; have m0 := HQl.out _ hW; have x0 := m0.cell_at 0 rfl; have x1 := m0.cell_at 1 rfl; have x2 := m0.cell_at 2 rfl; have x3 := m0.cell_at 3 rfl; have x4 := m0.cell_at 4 rfl; have x5 := m0.cell_at 5 rfl; have x6 := m0.cell_at 6 rfl; have x7 := m0.cell_at 7 rfl; have x8 := m0.cell_at 8 rfl; have x9 := m0.cell_at 9 rfl; have x10 := m0.cell_at 10 rfl; clear m0; have m1 := HQv.out _ hW; have v0 := m1.cell_at 0 rfl; have v1 := m1.cell_at 1 rfl; have v2 := m1.cell_at 2 rfl; have v3 := m1.cell_at 3 rfl; clear m1; rw [HA.out] at x0; have c0 := HC0.out _ hW i _ _ HX.out rfl; have c1 := HC0.out _ hW j _ _ HY.out rfl; go_simp; first | done | rfl)) (fun W hW => KW.out W (HBS.out W hW)) ?_; simp only [Act.put, List.setIfInBounds_toArray, List.set_cons_zero, List.set_cons_succ]))
    refine mix_nil (fun W hW => ?_)
    have hq := HBS.out W hW
    clear hW HBS
    go_wp2_with fail
    go_ret
    exact ⟨ret_bool H10.out, HQp.out _ hq⟩

set_option maxRecDepth 100000 in
set_option maxHeartbeats 8000000 in
theorem timesR_P (hP : Closed P) (l : Lay) {r : Bool} (hr : (!((timesL l).any fun n => !withinA n 1 1000)) = r) (h : P w) :
    Calls Tryd.prog 39 #[l.tval] w fun e w' => e = .returned (.bool r) ∧ P w' := by
  have HPP := Lib.hid (fun W (hB : Below w.heap.size w W) => hP _ _ h hB)
  have HR := Lib.hid hr
  clear hP hr h
  obtain ⟨t, ht⟩ : ∃ t, timesL l = t := ⟨_, rfl⟩
  have hb := Whole.new w 27 [.int .i64 l.t0, .int .i64 l.t1, .int .i64 l.t2, .int .i64 l.t3, .int .i64 l.t4, .int .i64 l.t5, .int .i64 l.t6]
  have b0 := hb.cell_at 0 rfl
  have b1 := hb.cell_at 1 rfl
  have b2 := hb.cell_at 2 rfl
  have b3 := hb.cell_at 3 rfl
  have b4 := hb.cell_at 4 rfl
  have b5 := hb.cell_at 5 rfl
  have b6 := hb.cell_at 6 rfl
  have hB1 := below1 w (.cells #[.int .i64 l.t0, .int .i64 l.t1, .int .i64 l.t2, .int .i64 l.t3, .int .i64 l.t4, .int .i64 l.t5, .int .i64 l.t6] 27)
  clear hb
  obtain ⟨w1, hw1⟩ : ∃ w1, w.alloc (.cells #[.int .i64 l.t0, .int .i64 l.t1, .int .i64 l.t2, .int .i64 l.t3, .int .i64 l.t4, .int .i64 l.t5, .int .i64 l.t6] 27) = w1 := ⟨_, rfl⟩
  have h2 := Whole.new w1 97 [.int .i64 l.t0, .int .i64 l.t1, .int .i64 l.t2, .int .i64 l.t3, .int .i64 l.t4, .int .i64 l.t5, .int .i64 l.t6]
  have hB2 := below1 w1 (.cells #[.int .i64 l.t0, .int .i64 l.t1, .int .i64 l.t2, .int .i64 l.t3, .int .i64 l.t4, .int .i64 l.t5, .int .i64 l.t6] 97)
  rw [hw1] at b0 b1 b2 b3 b4 b5 b6 hB1
  go_enter Tryd.func39, Tryd.ntmps39
  try rw [hw1]
  go_upto_region 2 with (fail)
  clear b0 b1 b2 b3 b4 b5 b6
  obtain ⟨w2, hw2⟩ : ∃ w2, (w1.alloc (.cells #[.int .i64 l.t0, .int .i64 l.t1, .int .i64 l.t2, .int .i64 l.t3, .int .i64 l.t4, .int .i64 l.t5, .int .i64 l.t6] 97)) = w2 := ⟨_, rfl⟩
  have hw2' : (w1.alloc (.cells [.int .i64 l.t0, .int .i64 l.t1, .int .i64 l.t2, .int .i64 l.t3, .int .i64 l.t4, .int .i64 l.t5, .int .i64 l.t6].toArray 97)) = w2 := hw2
  rw [hw2'] at h2
  rw [hw2] at hB2 ⊢
  have HC : Hid (∀ (j : Nat) v, t[j]? = some v → w2.cell? ⟨w1.heap.size, j, none⟩ = some (.int .i64 v)) := Lib.hid (fun j v hv => by
    rw [h2.cell j]
    have e : [Value.int .i64 l.t0, .int .i64 l.t1, .int .i64 l.t2, .int .i64 l.t3, .int .i64 l.t4, .int .i64 l.t5, .int .i64 l.t6] = t.map (fun v => Value.int .i64 v) := by rw [← ht]; rfl
    rw [e, List.getElem?_map, hv]
    rfl)
  have HP2 : Hid (P w2) := Lib.hid (HPP.out _ (hB1.trans (hB2.mono hB1.size)))
  have ht7 : t.length = 7 := by rw [← ht]; rfl
  rw [ht] at HR
  clear ht hw1 hw2 hw2' h2 hB1 hB2 HPP
  generalize w1.heap.size = g at *
  generalize w.heap.size = g0 at *
  go_wp2_with fail
  go_loopw [4] (fun i wr => ∃ j : Nat, j ≤ 7 ∧ i = .int .i64 j ∧ wr = w2 ∧ Hid (NoneUp (fun n => !withinA n 1 1000) t j)) (fun i _ => 7 - (intOf i).toNat)
  case atStart => exact ⟨0, by omega, rfl, rfl, Lib.hid (NoneUp.zero _ _)⟩
  case round =>
    obtain ⟨j, hj, rfl, rfl, HNo⟩ := hrel
    by_cases hlt : j < 7
    · have hlt' : (j : Int) < 7 := by omega
      obtain ⟨v, hv⟩ : ∃ v, t[j]? = some v := ⟨_, List.getElem?_eq_getElem (by omega)⟩
      have c0 := HC.out _ _ hv
      have HX := Lib.hid hv
      clear hv
      by_cases h1 : v < 1
      · have HF : Hid (false = r) := Lib.hid (by
          rw [← HR.out, any_hit HX.out (by unfold withinA; rw [decide_eq_false (show ¬ 1 ≤ v by omega)]; rfl)]
          rfl)
        have d1 := decide_eq_true h1
        clear h1 HX
        go_wp2_with fail
        go_ret
        exact ⟨ret_bool HF.out, HP2.out⟩
      · by_cases h2 : 1000 < v
        · have HF : Hid (false = r) := Lib.hid (by
            rw [← HR.out, any_hit HX.out (by unfold withinA; rw [decide_eq_false (show ¬ v ≤ 1000 by omega), Bool.and_false]; rfl)]
            rfl)
          have d1 := decide_eq_false h1
          have d2 := decide_eq_true h2
          clear h1 h2 HX
          go_wp2_with fail
          go_ret
          exact ⟨ret_bool HF.out, HP2.out⟩
        · have HN := Lib.hid (HNo.out.succ HX.out (by unfold withinA; rw [decide_eq_true (show 1 ≤ v by omega), decide_eq_true (show v ≤ 1000 by omega)]; rfl))
          have d1 := decide_eq_false h1
          have d2 := decide_eq_false h2
          clear h1 h2 HX
          go_wp2_with fail
          go_roundw
          case rel => exact ⟨j + 1, hlt, by go_num, by trivial, HN⟩
          case measure => simp [intOf]; omega
    · obtain rfl : j = 7 := by omega
      have HF : Hid (true = r) := Lib.hid (by
        have hn := HNo.out
        rw [← ht7] at hn
        rw [← HR.out, hn.any]
        rfl)
      go_wp2_with fail
      go_ret
      exact ⟨ret_bool HF.out, HP2.out⟩
end
end Go.Proofs.YtbdbgoploednbaaDoor
namespace Go.Proofs.YtbdbgoploednbaaDoor
open Go.RowKit Go.Shelf
set_option linter.unusedVariables false
set_option linter.unusedSimpArgs false

theorem not_any {α : Type} {f : α → Bool} {l : List α} : (!(l.any fun x => !f x)) = true ↔ ∀ x ∈ l, f x = true := by simp
theorem secOk_iff {l : Lay} {x : Sec} : secOk l x = true ↔ (∀ p ∈ x.ports4, 0 ≤ p.1 → thereV l p.1 p.2 = true) ∧ rightK x = true := by
  unfold secOk noJ
  rw [Bool.and_eq_true, Bool.not_eq_true', List.any_eq_false]
  refine and_congr_left fun _ => ⟨fun h p hp h0 => ?_, fun h p hp => ?_⟩
  · have := h p hp
    rw [decide_eq_true h0] at this
    simpa using this
  · intro hh
    rw [Bool.and_eq_true, decide_eq_true_eq] at hh
    rw [h p hp hh.1] at hh
    simp at hh
theorem exitOk_iff {l : Lay} {x : Exm} : exitOk l x = true ↔ (∀ s ∈ x.over, stepV l s.1 s.2.1 s.2.2 = true) ∧ thereV l x.s x.q = true ∧ (x.over.length : Int) ≤ 2 := by
  unfold exitOk noS
  rw [Bool.and_eq_true, not_any, Bool.and_eq_true, decide_eq_true_eq]
/-- As the document asks it. -/
def rightR (l : Lay) : Bool := !(l.secs.any fun x => !secOk l x) && (!(l.sigs.any fun p => !thereV l p.1 p.2) && (!(l.exits.any fun x => !exitOk l x) && (!(l.flanks.any fun f => !flankV l f.1 f.2.1 f.2.2.1 f.2.2.2) &&
  (decide ((l.secs.length : Int) ≤ 24) && (decide ((l.sigs.length : Int) ≤ 12) && (decide ((l.exits.length : Int) ≤ 12) && (decide ((l.flanks.length : Int) ≤ 16) && !((timesL l).any fun n => !withinA n 1 1000))))))))
theorem rightR_iff {l : Lay} : rightR l = true ↔ (∀ x ∈ l.secs, secOk l x = true) ∧ (∀ p ∈ l.sigs, thereV l p.1 p.2 = true) ∧ (∀ x ∈ l.exits, exitOk l x = true) ∧ (∀ f ∈ l.flanks, flankV l f.1 f.2.1 f.2.2.1 f.2.2.2 = true) ∧
    (l.secs.length : Int) ≤ 24 ∧ (l.sigs.length : Int) ≤ 12 ∧ (l.exits.length : Int) ≤ 12 ∧ (l.flanks.length : Int) ≤ 16 ∧ (∀ n ∈ timesL l, withinA n 1 1000 = true) := by
  unfold rightR
  simp only [Bool.and_eq_true, not_any, decide_eq_true_eq]
theorem too_iff {l : Lay} : (!tooV l) = true ↔ (l.secs.length : Int) ≤ 24 ∧ (l.sigs.length : Int) ≤ 12 ∧ (l.exits.length : Int) ≤ 12 ∧ (l.flanks.length : Int) ≤ 16 ∧ (∀ x ∈ l.exits, (x.over.length : Int) ≤ 2) := by
  unfold tooV
  simp only [Bool.not_eq_true', Bool.or_eq_false_iff, decide_eq_false_iff_not, Int.not_lt, List.any_eq_false, decide_eq_true_eq]
theorem rightL_iff {l : Lay} : rightL l = true ↔ ((l.secs.length : Int) ≤ 24 ∧ (l.sigs.length : Int) ≤ 12 ∧ (l.exits.length : Int) ≤ 12 ∧ (l.flanks.length : Int) ≤ 16 ∧ (∀ x ∈ l.exits, (x.over.length : Int) ≤ 2)) ∧
    (∀ n ∈ timesL l, withinA n 1 1000 = true) ∧ (∀ x ∈ l.secs, rightK x = true) ∧ (∀ p ∈ portsL l, thereV l p.1 p.2 = true) ∧ (∀ s ∈ stepsL l, stepV l s.1 s.2.1 s.2.2 = true) ∧ (∀ f ∈ l.flanks, flankV l f.1 f.2.1 f.2.2.1 f.2.2.2 = true) := by
  unfold rightL
  rw [Bool.and_eq_true, too_iff]
  simp only [Bool.and_eq_true, not_any]
theorem rightR_eq (l : Lay) : rightR l = rightL l := by
  rw [Bool.eq_iff_iff, rightR_iff, rightL_iff]
  constructor
  · rintro ⟨h1, h2, h3, h4, h5, h6, h7, h8, h9⟩
    refine ⟨⟨h5, h6, h7, h8, fun x hx => (exitOk_iff.1 (h3 x hx)).2.2⟩, h9, fun x hx => (secOk_iff.1 (h1 x hx)).2, fun p hp => ?_, fun s hs => ?_, h4⟩
    · unfold portsL joinsL at hp
      rcases List.mem_append.1 hp with hp | hp
      · obtain ⟨x, hx, hp⟩ := List.mem_flatMap.1 hp
        obtain ⟨hp, h0⟩ := List.mem_filter.1 hp
        exact (secOk_iff.1 (h1 x hx)).1 p hp (by simpa using h0)
      · rcases List.mem_append.1 hp with hp | hp
        · exact h2 p hp
        · obtain ⟨x, hx, rfl⟩ := List.mem_map.1 hp
          exact (exitOk_iff.1 (h3 x hx)).2.1
    · obtain ⟨x, hx, hs⟩ := List.mem_flatMap.1 hs
      exact (exitOk_iff.1 (h3 x hx)).1 s hs
  · rintro ⟨⟨h1, h2, h3, h4, h5⟩, h6, h7, h8, h9, h10⟩
    refine ⟨fun x hx => secOk_iff.2 ⟨fun p hp h0 => h8 p ?_, h7 x hx⟩, fun p hp => h8 p ?_, fun x hx => exitOk_iff.2 ⟨fun s hs => h9 s (List.mem_flatMap.2 ⟨x, hx, hs⟩), h8 (x.s, x.q) ?_, h5 x hx⟩, h10, h1, h2, h3, h4, h6⟩
    · exact List.mem_append_left _ (List.mem_flatMap.2 ⟨x, hx, List.mem_filter.2 ⟨hp, by simpa using h0⟩⟩)
    · exact List.mem_append_right _ (List.mem_append_left _ hp)
    · exact List.mem_append_right _ (List.mem_append_right _ (List.mem_map.2 ⟨x, hx, rfl⟩))

section
variable {l : Lay} {w : World}
theorem section_B (hL : Lies l w) (x : Sec) {r : Bool} (hr : secOk l x = r) : Calls Tryd.prog 35 #[l.val, x.val] w fun e w' => e = .returned (.bool r) ∧ Below w.heap.size w w' :=
  sectionR_P (P := fun W => Below w.heap.size w W) (Closed.below w) (fun W h => Lies.closed l _ _ hL h) x hr (Below.refl _ _)
theorem exit1_B (hL : Lies l w) (x : Exm) (hm : x ∈ l.exits) {r : Bool} (hr : exitOk l x = r) : Calls Tryd.prog 37 #[l.val, x.val] w fun e w' => e = .returned (.bool r) ∧ Below w.heap.size w w' :=
  exitR1_P (P := fun W => Below w.heap.size w W) (Closed.below w) (fun W h => Lies.closed l _ _ hL h) x (fun W h => (Lies.closed l _ _ hL h).overs x hm) (hL.nO x hm) hr (Below.refl _ _)
theorem flank_B (hL : Lies l w) (f : Int × Int × Int × Int) {r : Bool} (hr : flankV l f.1 f.2.1 f.2.2.1 f.2.2.2 = r) : Calls Tryd.prog 38 #[l.val, flkV f.1 f.2.1 f.2.2.1 f.2.2.2] w fun e w' => e = .returned (.bool r) ∧ Below w.heap.size w w' :=
  flankR_P (P := fun W => Below w.heap.size w W) (Closed.below w) (fun W h => Lies.closed l _ _ hL h) f.1 f.2.1 f.2.2.1 f.2.2.2 hr (Below.refl _ _)
end

section
variable {P : World → Prop} {w : World}
set_option maxRecDepth 100000 in
set_option maxHeartbeats 8000000 in
theorem rightR1_P (hP : Closed P) {l : Lay} (hL : ∀ w, P w → Lies l w) {r : Bool} (hr : rightR l = r) (h : P w) :
    Calls Tryd.prog 22 #[l.val] w fun e w' => e = .returned (.bool r) ∧ P w' := by
  obtain ⟨Q, HQ, HQp, HQl, hq⟩ := keep_box hP h 29 l.cells
  have HQL : Hid (∀ W, Q W → Lies l W) := Lib.hid fun W hW => hL _ (HQp.out _ hW)
  have hnS := (hL _ h).nS
  have hnG := (hL _ h).nG
  have hnE := (hL _ h).nE
  have hnF := (hL _ h).nF
  obtain ⟨tb, htb⟩ : ∃ z, (!((timesL l).any fun n => !withinA n 1 1000)) = z := ⟨_, rfl⟩
  have KT := Lib.hid (fun W hW => timesR_P (P := Q) (w := W) HQ.out l htb hW)
  have HR : Hid (rightR l = r) := Lib.hid hr
  have HTB := Lib.hid htb
  clear h hr hL hP htb
  go_enter Tryd.func22, Tryd.ntmps22
  go_wp2_with fail
  go_loopw [3] (fun i wr => ∃ j : Nat, j ≤ l.secs.length ∧ i = .int .i64 j ∧ Q wr ∧ Hid (NoneUp (fun x => !secOk l x) l.secs j)) (fun i _ => l.secs.length - (intOf i).toNat)
  case atStart => exact ⟨0, by omega, rfl, hq, Lib.hid (NoneUp.zero _ _)⟩
  case round =>
    clear hq
    obtain ⟨j, hj, rfl, hq, HNo⟩ := hrel
    have x0 := (HQl.out _ hq).cell_at 0 rfl
    by_cases hlt : j < l.secs.length
    · have hlt' : (j : Int) < l.secs.length := by omega
      obtain ⟨x, hx⟩ : ∃ x, l.secs[j]? = some x := ⟨_, List.getElem?_eq_getElem hlt⟩
      obtain ⟨o1, o2, HA, HC0, HC⟩ := row_at (n := 11) Sec.len (by omega) (fun W hW => (HQL.out W hW).secs) hq hx
      have HX := Lib.hid hx
      have HM := Lib.hid (List.mem_of_getElem? hx)
      clear hx
      obtain ⟨b, hb⟩ : ∃ b, secOk l x = b := ⟨_, rfl⟩
      have KS : Hid (∀ W, Q W → Calls Tryd.prog 35 #[.agg #[.slice (some ⟨o1, o2, none⟩) l.secs.length l.cs, .slice l.Ag l.sigs.length l.cg, .slice l.Ae l.exits.length l.ce, .slice l.Af l.flanks.length l.cf, .int .i64 l.t0, .int .i64 l.t1, .int .i64 l.t2, .int .i64 l.t3, .int .i64 l.t4, .int .i64 l.t5, .int .i64 l.t6], x.val] W fun e w' => e = .returned (.bool b) ∧ Below W.heap.size W w') := Lib.hid (by rw [← HA.out]; exact fun W hW => section_B (HQL.out W hW) x hb)
      have HB : Hid ((!secOk l x) = !b) := Lib.hid (by rw [hb])
      clear hb
      go_wp2_with fail
      clear x0
      cases b
      · have HF : Hid (false = r) := Lib.hid (by rw [← HR.out]; unfold rightR; rw [any_hit (l := l.secs) HX.out HB.out]; simp)
        have HBS : Hid (∀ W, Below wr.heap.size wr W → Q W) := Lib.hid (fun W hB => HQ.out _ _ hq hB)
        clear hq
        refine region_mix (Below wr.heap.size wr) [(0, false), (1, false), (2, false), (3, false), (4, false), (5, false), (6, false), (7, false)] (by kernel_rfl) (by kernel_rfl) (Below wr.heap.size wr) ⟨Closed.below wr, fun _ h => h⟩ (Below.refl _ _).drew ?_
        simp only [pickOps, List.getElem?_cons_zero, List.getElem?_cons_succ]
        repeat (first | (refine mix_skip (by rfl) ?_; simp only [Act.put, List.setIfInBounds_toArray, List.set_cons_zero, List.set_cons_succ]) | (refine mix_read _ (by rfl) (fun W hW => by (have hW := HBS.out W hW; have m0 := HQl.out _ hW; have x0 := m0.cell_at 0 rfl; have x1 := m0.cell_at 1 rfl; have x2 := m0.cell_at 2 rfl; have x3 := m0.cell_at 3 rfl; have x4 := m0.cell_at 4 rfl; have x5 := m0.cell_at 5 rfl; have x6 := m0.cell_at 6 rfl; have x7 := m0.cell_at 7 rfl; have x8 := m0.cell_at 8 rfl; have x9 := m0.cell_at 9 rfl; have x10 := m0.cell_at 10 rfl; clear m0; rw [HA.out] at x0; have c0 := HC0.out _ hW j _ _ HX.out rfl; have c1 := HC.out _ hW j _ 1 _ HX.out rfl; have c2 := HC.out _ hW j _ 2 _ HX.out rfl; have c3 := HC.out _ hW j _ 3 _ HX.out rfl; have c4 := HC.out _ hW j _ 4 _ HX.out rfl; have c5 := HC.out _ hW j _ 5 _ HX.out rfl; have c6 := HC.out _ hW j _ 6 _ HX.out rfl; have c7 := HC.out _ hW j _ 7 _ HX.out rfl; have c8 := HC.out _ hW j _ 8 _ HX.out rfl; have c9 := HC.out _ hW j _ 9 _ HX.out rfl; have c10 := HC.out _ hW j _ 10 _ HX.out rfl; go_simp; first | done | with_reducible rfl)) ?_; simp only [Act.put, List.setIfInBounds_toArray, List.set_cons_zero, List.set_cons_succ]) | (refine mix_call _ _ _ (by rfl) (fun W hW => by (have hW := HBS.out W hW; have m0 := HQl.out _ hW; have x0 := m0.cell_at 0 rfl; have x1 := m0.cell_at 1 rfl; have x2 := m0.cell_at 2 rfl; have x3 := m0.cell_at 3 rfl; have x4 := m0.cell_at 4 rfl; have x5 := m0.cell_at 5 rfl; have x6 := m0.cell_at 6 rfl; have x7 := m0.cell_at 7 rfl; have x8 := m0.cell_at 8 rfl; have x9 := m0.cell_at 9 rfl; have x10 := m0.cell_at 10 rfl; clear m0; rw [HA.out] at x0; have c0 := HC0.out _ hW j _ _ HX.out rfl; have c1 := HC.out _ hW j _ 1 _ HX.out rfl; have c2 := HC.out _ hW j _ 2 _ HX.out rfl; have c3 := HC.out _ hW j _ 3 _ HX.out rfl; have c4 := HC.out _ hW j _ 4 _ HX.out rfl; have c5 := HC.out _ hW j _ 5 _ HX.out rfl; have c6 := HC.out _ hW j _ 6 _ HX.out rfl; have c7 := HC.out _ hW j _ 7 _ HX.out rfl; have c8 := HC.out _ hW j _ 8 _ HX.out rfl; have c9 := HC.out _ hW j _ 9 _ HX.out rfl; have c10 := HC.out _ hW j _ 10 _ HX.out rfl; go_simp; first | done | rfl)) (fun W hW => KS.out W (HBS.out W hW)) ?_; simp only [Act.put, List.setIfInBounds_toArray, List.set_cons_zero, List.set_cons_succ]))
        refine mix_nil (fun W hW => ?_)
        have hq := HBS.out W hW
        clear hW HBS
        go_wp2_with fail
        go_ret
        exact ⟨ret_bool HF.out, HQp.out _ hq⟩
      · have HN := Lib.hid (HNo.out.succ HX.out HB.out)
        have HBS : Hid (∀ W, Below wr.heap.size wr W → Q W) := Lib.hid (fun W hB => HQ.out _ _ hq hB)
        clear hq
        refine region_mix (Below wr.heap.size wr) [(0, false), (1, false), (2, false), (3, false), (4, false), (5, false), (6, false), (7, false)] (by kernel_rfl) (by kernel_rfl) (Below wr.heap.size wr) ⟨Closed.below wr, fun _ h => h⟩ (Below.refl _ _).drew ?_
        simp only [pickOps, List.getElem?_cons_zero, List.getElem?_cons_succ]
        repeat (first | (refine mix_skip (by rfl) ?_; simp only [Act.put, List.setIfInBounds_toArray, List.set_cons_zero, List.set_cons_succ]) | (refine mix_read _ (by rfl) (fun W hW => by (have hW := HBS.out W hW; have m0 := HQl.out _ hW; have x0 := m0.cell_at 0 rfl; have x1 := m0.cell_at 1 rfl; have x2 := m0.cell_at 2 rfl; have x3 := m0.cell_at 3 rfl; have x4 := m0.cell_at 4 rfl; have x5 := m0.cell_at 5 rfl; have x6 := m0.cell_at 6 rfl; have x7 := m0.cell_at 7 rfl; have x8 := m0.cell_at 8 rfl; have x9 := m0.cell_at 9 rfl; have x10 := m0.cell_at 10 rfl; clear m0; rw [HA.out] at x0; have c0 := HC0.out _ hW j _ _ HX.out rfl; have c1 := HC.out _ hW j _ 1 _ HX.out rfl; have c2 := HC.out _ hW j _ 2 _ HX.out rfl; have c3 := HC.out _ hW j _ 3 _ HX.out rfl; have c4 := HC.out _ hW j _ 4 _ HX.out rfl; have c5 := HC.out _ hW j _ 5 _ HX.out rfl; have c6 := HC.out _ hW j _ 6 _ HX.out rfl; have c7 := HC.out _ hW j _ 7 _ HX.out rfl; have c8 := HC.out _ hW j _ 8 _ HX.out rfl; have c9 := HC.out _ hW j _ 9 _ HX.out rfl; have c10 := HC.out _ hW j _ 10 _ HX.out rfl; go_simp; first | done | with_reducible rfl)) ?_; simp only [Act.put, List.setIfInBounds_toArray, List.set_cons_zero, List.set_cons_succ]) | (refine mix_call _ _ _ (by rfl) (fun W hW => by (have hW := HBS.out W hW; have m0 := HQl.out _ hW; have x0 := m0.cell_at 0 rfl; have x1 := m0.cell_at 1 rfl; have x2 := m0.cell_at 2 rfl; have x3 := m0.cell_at 3 rfl; have x4 := m0.cell_at 4 rfl; have x5 := m0.cell_at 5 rfl; have x6 := m0.cell_at 6 rfl; have x7 := m0.cell_at 7 rfl; have x8 := m0.cell_at 8 rfl; have x9 := m0.cell_at 9 rfl; have x10 := m0.cell_at 10 rfl; clear m0; rw [HA.out] at x0; have c0 := HC0.out _ hW j _ _ HX.out rfl; have c1 := HC.out _ hW j _ 1 _ HX.out rfl; have c2 := HC.out _ hW j _ 2 _ HX.out rfl; have c3 := HC.out _ hW j _ 3 _ HX.out rfl; have c4 := HC.out _ hW j _ 4 _ HX.out rfl; have c5 := HC.out _ hW j _ 5 _ HX.out rfl; have c6 := HC.out _ hW j _ 6 _ HX.out rfl; have c7 := HC.out _ hW j _ 7 _ HX.out rfl; have c8 := HC.out _ hW j _ 8 _ HX.out rfl; have c9 := HC.out _ hW j _ 9 _ HX.out rfl; have c10 := HC.out _ hW j _ 10 _ HX.out rfl; go_simp; first | done | rfl)) (fun W hW => KS.out W (HBS.out W hW)) ?_; simp only [Act.put, List.setIfInBounds_toArray, List.set_cons_zero, List.set_cons_succ]))
        refine mix_nil (fun W hW => ?_)
        have hq := HBS.out W hW
        clear hW HBS
        go_wp2_with fail
        go_roundw
        case rel => exact ⟨j + 1, hlt, by go_num, hq, HN⟩
        case measure => simp [intOf]; omega
    · obtain rfl : j = l.secs.length := by omega
      have HH1 := Lib.hid (NoneUp.any HNo.out)
      clear HNo hj hlt
      go_wp2_with fail
      clear x0
      go_loopw [4] (fun i wr => ∃ j : Nat, j ≤ l.sigs.length ∧ i = .int .i64 j ∧ Q wr ∧ Hid (NoneUp (fun x => !thereV l x.1 x.2) l.sigs j)) (fun i _ => l.sigs.length - (intOf i).toNat)
      case atStart => exact ⟨0, by omega, rfl, hq, Lib.hid (NoneUp.zero _ _)⟩
      case round =>
        clear hq
        obtain ⟨j, hj, rfl, hq, HNo⟩ := hrel
        have x1 := (HQl.out _ hq).cell_at 1 rfl
        by_cases hlt : j < l.sigs.length
        · have hlt' : (j : Int) < l.sigs.length := by omega
          obtain ⟨x, hx⟩ : ∃ x, l.sigs[j]? = some x := ⟨_, List.getElem?_eq_getElem hlt⟩
          obtain ⟨o1, o2, HA, HC0, HC⟩ := row_at (n := 2) (fun _ => rfl) (by omega) (fun W hW => (HQL.out W hW).sigs) hq hx
          have HX := Lib.hid hx
          have HM := Lib.hid (List.mem_of_getElem? hx)
          clear hx
          obtain ⟨b, hb⟩ : ∃ b, thereV l x.1 x.2 = b := ⟨_, rfl⟩
          have KS : Hid (∀ W, Q W → Calls Tryd.prog 36 #[.agg #[.slice l.As l.secs.length l.cs, .slice (some ⟨o1, o2, none⟩) l.sigs.length l.cg, .slice l.Ae l.exits.length l.ce, .slice l.Af l.flanks.length l.cf, .int .i64 l.t0, .int .i64 l.t1, .int .i64 l.t2, .int .i64 l.t3, .int .i64 l.t4, .int .i64 l.t5, .int .i64 l.t6], prtV x.1 x.2] W fun e w' => e = .returned (.bool b) ∧ Below W.heap.size W w') := Lib.hid (by rw [← HA.out]; exact fun W hW => thereR_B (HQL.out W hW) x.1 x.2 hb)
          have HB : Hid ((!thereV l x.1 x.2) = !b) := Lib.hid (by rw [hb])
          clear hb
          go_wp2_with fail
          clear x1
          cases b
          · have HF : Hid (false = r) := Lib.hid (by rw [← HR.out]; unfold rightR; rw [any_hit (l := l.sigs) HX.out HB.out]; simp)
            have HBS : Hid (∀ W, Below wr.heap.size wr W → Q W) := Lib.hid (fun W hB => HQ.out _ _ hq hB)
            clear hq
            refine region_mix (Below wr.heap.size wr) [(0, false), (1, false), (2, false), (3, false), (4, false), (5, false), (6, false), (7, false), (8, false)] (by kernel_rfl) (by kernel_rfl) (Below wr.heap.size wr) ⟨Closed.below wr, fun _ h => h⟩ (Below.refl _ _).drew ?_
            simp only [pickOps, List.getElem?_cons_zero, List.getElem?_cons_succ]
            repeat (first | (refine mix_skip (by rfl) ?_; simp only [Act.put, List.setIfInBounds_toArray, List.set_cons_zero, List.set_cons_succ]) | (refine mix_read _ (by rfl) (fun W hW => by (have hW := HBS.out W hW; have m0 := HQl.out _ hW; have x0 := m0.cell_at 0 rfl; have x1 := m0.cell_at 1 rfl; have x2 := m0.cell_at 2 rfl; have x3 := m0.cell_at 3 rfl; have x4 := m0.cell_at 4 rfl; have x5 := m0.cell_at 5 rfl; have x6 := m0.cell_at 6 rfl; have x7 := m0.cell_at 7 rfl; have x8 := m0.cell_at 8 rfl; have x9 := m0.cell_at 9 rfl; have x10 := m0.cell_at 10 rfl; clear m0; rw [HA.out] at x1; have c0 := HC0.out _ hW j _ _ HX.out rfl; have c1 := HC.out _ hW j _ 1 _ HX.out rfl; go_simp; first | done | with_reducible rfl)) ?_; simp only [Act.put, List.setIfInBounds_toArray, List.set_cons_zero, List.set_cons_succ]) | (refine mix_call _ _ _ (by rfl) (fun W hW => by (have hW := HBS.out W hW; have m0 := HQl.out _ hW; have x0 := m0.cell_at 0 rfl; have x1 := m0.cell_at 1 rfl; have x2 := m0.cell_at 2 rfl; have x3 := m0.cell_at 3 rfl; have x4 := m0.cell_at 4 rfl; have x5 := m0.cell_at 5 rfl; have x6 := m0.cell_at 6 rfl; have x7 := m0.cell_at 7 rfl; have x8 := m0.cell_at 8 rfl; have x9 := m0.cell_at 9 rfl; have x10 := m0.cell_at 10 rfl; clear m0; rw [HA.out] at x1; have c0 := HC0.out _ hW j _ _ HX.out rfl; have c1 := HC.out _ hW j _ 1 _ HX.out rfl; go_simp; first | done | rfl)) (fun W hW => KS.out W (HBS.out W hW)) ?_; simp only [Act.put, List.setIfInBounds_toArray, List.set_cons_zero, List.set_cons_succ]))
            refine mix_nil (fun W hW => ?_)
            have hq := HBS.out W hW
            clear hW HBS
            go_wp2_with fail
            go_ret
            exact ⟨ret_bool HF.out, HQp.out _ hq⟩
          · have HN := Lib.hid (HNo.out.succ HX.out HB.out)
            have HBS : Hid (∀ W, Below wr.heap.size wr W → Q W) := Lib.hid (fun W hB => HQ.out _ _ hq hB)
            clear hq
            refine region_mix (Below wr.heap.size wr) [(0, false), (1, false), (2, false), (3, false), (4, false), (5, false), (6, false), (7, false), (8, false)] (by kernel_rfl) (by kernel_rfl) (Below wr.heap.size wr) ⟨Closed.below wr, fun _ h => h⟩ (Below.refl _ _).drew ?_
            simp only [pickOps, List.getElem?_cons_zero, List.getElem?_cons_succ]
            repeat (first | (refine mix_skip (by rfl) ?_; simp only [Act.put, List.setIfInBounds_toArray, List.set_cons_zero, List.set_cons_succ]) | (refine mix_read _ (by rfl) (fun W hW => by (have hW := HBS.out W hW; have m0 := HQl.out _ hW; have x0 := m0.cell_at 0 rfl; have x1 := m0.cell_at 1 rfl; have x2 := m0.cell_at 2 rfl; have x3 := m0.cell_at 3 rfl; have x4 := m0.cell_at 4 rfl; have x5 := m0.cell_at 5 rfl; have x6 := m0.cell_at 6 rfl; have x7 := m0.cell_at 7 rfl; have x8 := m0.cell_at 8 rfl; have x9 := m0.cell_at 9 rfl; have x10 := m0.cell_at 10 rfl; clear m0; rw [HA.out] at x1; have c0 := HC0.out _ hW j _ _ HX.out rfl; have c1 := HC.out _ hW j _ 1 _ HX.out rfl; go_simp; first | done | with_reducible rfl)) ?_; simp only [Act.put, List.setIfInBounds_toArray, List.set_cons_zero, List.set_cons_succ]) | (refine mix_call _ _ _ (by rfl) (fun W hW => by (have hW := HBS.out W hW; have m0 := HQl.out _ hW; have x0 := m0.cell_at 0 rfl; have x1 := m0.cell_at 1 rfl; have x2 := m0.cell_at 2 rfl; have x3 := m0.cell_at 3 rfl; have x4 := m0.cell_at 4 rfl; have x5 := m0.cell_at 5 rfl; have x6 := m0.cell_at 6 rfl; have x7 := m0.cell_at 7 rfl; have x8 := m0.cell_at 8 rfl; have x9 := m0.cell_at 9 rfl; have x10 := m0.cell_at 10 rfl; clear m0; rw [HA.out] at x1; have c0 := HC0.out _ hW j _ _ HX.out rfl; have c1 := HC.out _ hW j _ 1 _ HX.out rfl; go_simp; first | done | rfl)) (fun W hW => KS.out W (HBS.out W hW)) ?_; simp only [Act.put, List.setIfInBounds_toArray, List.set_cons_zero, List.set_cons_succ]))
            refine mix_nil (fun W hW => ?_)
            have hq := HBS.out W hW
            clear hW HBS
            go_wp2_with fail
            go_roundw
            case rel => exact ⟨j + 1, hlt, by go_num, hq, HN⟩
            case measure => simp [intOf]; omega
        · obtain rfl : j = l.sigs.length := by omega
          have HH2 := Lib.hid (NoneUp.any HNo.out)
          clear HNo hj hlt
          go_wp2_with fail
          clear x1
          go_loopw [5] (fun i wr => ∃ j : Nat, j ≤ l.exits.length ∧ i = .int .i64 j ∧ Q wr ∧ Hid (NoneUp (fun x => !exitOk l x) l.exits j)) (fun i _ => l.exits.length - (intOf i).toNat)
          case atStart => exact ⟨0, by omega, rfl, hq, Lib.hid (NoneUp.zero _ _)⟩
          case round =>
            clear hq
            obtain ⟨j, hj, rfl, hq, HNo⟩ := hrel
            have x2 := (HQl.out _ hq).cell_at 2 rfl
            by_cases hlt : j < l.exits.length
            · have hlt' : (j : Int) < l.exits.length := by omega
              obtain ⟨x, hx⟩ : ∃ x, l.exits[j]? = some x := ⟨_, List.getElem?_eq_getElem hlt⟩
              obtain ⟨o1, o2, HA, HC0, HC⟩ := row_at (n := 3) (fun _ => rfl) (by omega) (fun W hW => (HQL.out W hW).exits) hq hx
              have HX := Lib.hid hx
              have HM := Lib.hid (List.mem_of_getElem? hx)
              clear hx
              obtain ⟨b, hb⟩ : ∃ b, exitOk l x = b := ⟨_, rfl⟩
              have KS : Hid (∀ W, Q W → Calls Tryd.prog 37 #[.agg #[.slice l.As l.secs.length l.cs, .slice l.Ag l.sigs.length l.cg, .slice (some ⟨o1, o2, none⟩) l.exits.length l.ce, .slice l.Af l.flanks.length l.cf, .int .i64 l.t0, .int .i64 l.t1, .int .i64 l.t2, .int .i64 l.t3, .int .i64 l.t4, .int .i64 l.t5, .int .i64 l.t6], x.val] W fun e w' => e = .returned (.bool b) ∧ Below W.heap.size W w') := Lib.hid (by rw [← HA.out]; exact fun W hW => exit1_B (HQL.out W hW) x HM.out hb)
              have HB : Hid ((!exitOk l x) = !b) := Lib.hid (by rw [hb])
              clear hb
              go_wp2_with fail
              clear x2
              cases b
              · have HF : Hid (false = r) := Lib.hid (by rw [← HR.out]; unfold rightR; rw [any_hit (l := l.exits) HX.out HB.out]; simp)
                have HBS : Hid (∀ W, Below wr.heap.size wr W → Q W) := Lib.hid (fun W hB => HQ.out _ _ hq hB)
                clear hq
                refine region_mix (Below wr.heap.size wr) [(0, false), (1, false), (2, false), (3, false), (4, false), (5, false), (6, false), (7, false)] (by kernel_rfl) (by kernel_rfl) (Below wr.heap.size wr) ⟨Closed.below wr, fun _ h => h⟩ (Below.refl _ _).drew ?_
                simp only [pickOps, List.getElem?_cons_zero, List.getElem?_cons_succ]
                repeat (first | (refine mix_skip (by rfl) ?_; simp only [Act.put, List.setIfInBounds_toArray, List.set_cons_zero, List.set_cons_succ]) | (refine mix_read _ (by rfl) (fun W hW => by (have hW := HBS.out W hW; have m0 := HQl.out _ hW; have x0 := m0.cell_at 0 rfl; have x1 := m0.cell_at 1 rfl; have x2 := m0.cell_at 2 rfl; have x3 := m0.cell_at 3 rfl; have x4 := m0.cell_at 4 rfl; have x5 := m0.cell_at 5 rfl; have x6 := m0.cell_at 6 rfl; have x7 := m0.cell_at 7 rfl; have x8 := m0.cell_at 8 rfl; have x9 := m0.cell_at 9 rfl; have x10 := m0.cell_at 10 rfl; clear m0; rw [HA.out] at x2; have c0 := HC0.out _ hW j _ _ HX.out rfl; have c1 := HC.out _ hW j _ 1 _ HX.out rfl; have c2 := HC.out _ hW j _ 2 _ HX.out rfl; go_simp; first | done | with_reducible rfl)) ?_; simp only [Act.put, List.setIfInBounds_toArray, List.set_cons_zero, List.set_cons_succ]) | (refine mix_call _ _ _ (by rfl) (fun W hW => by (have hW := HBS.out W hW; have m0 := HQl.out _ hW; have x0 := m0.cell_at 0 rfl; have x1 := m0.cell_at 1 rfl; have x2 := m0.cell_at 2 rfl; have x3 := m0.cell_at 3 rfl; have x4 := m0.cell_at 4 rfl; have x5 := m0.cell_at 5 rfl; have x6 := m0.cell_at 6 rfl; have x7 := m0.cell_at 7 rfl; have x8 := m0.cell_at 8 rfl; have x9 := m0.cell_at 9 rfl; have x10 := m0.cell_at 10 rfl; clear m0; rw [HA.out] at x2; have c0 := HC0.out _ hW j _ _ HX.out rfl; have c1 := HC.out _ hW j _ 1 _ HX.out rfl; have c2 := HC.out _ hW j _ 2 _ HX.out rfl; go_simp; first | done | rfl)) (fun W hW => KS.out W (HBS.out W hW)) ?_; simp only [Act.put, List.setIfInBounds_toArray, List.set_cons_zero, List.set_cons_succ]))
                refine mix_nil (fun W hW => ?_)
                have hq := HBS.out W hW
                clear hW HBS
                go_wp2_with fail
                go_ret
                exact ⟨ret_bool HF.out, HQp.out _ hq⟩
              · have HN := Lib.hid (HNo.out.succ HX.out HB.out)
                have HBS : Hid (∀ W, Below wr.heap.size wr W → Q W) := Lib.hid (fun W hB => HQ.out _ _ hq hB)
                clear hq
                refine region_mix (Below wr.heap.size wr) [(0, false), (1, false), (2, false), (3, false), (4, false), (5, false), (6, false), (7, false)] (by kernel_rfl) (by kernel_rfl) (Below wr.heap.size wr) ⟨Closed.below wr, fun _ h => h⟩ (Below.refl _ _).drew ?_
                simp only [pickOps, List.getElem?_cons_zero, List.getElem?_cons_succ]
                repeat (first | (refine mix_skip (by rfl) ?_; simp only [Act.put, List.setIfInBounds_toArray, List.set_cons_zero, List.set_cons_succ]) | (refine mix_read _ (by rfl) (fun W hW => by (have hW := HBS.out W hW; have m0 := HQl.out _ hW; have x0 := m0.cell_at 0 rfl; have x1 := m0.cell_at 1 rfl; have x2 := m0.cell_at 2 rfl; have x3 := m0.cell_at 3 rfl; have x4 := m0.cell_at 4 rfl; have x5 := m0.cell_at 5 rfl; have x6 := m0.cell_at 6 rfl; have x7 := m0.cell_at 7 rfl; have x8 := m0.cell_at 8 rfl; have x9 := m0.cell_at 9 rfl; have x10 := m0.cell_at 10 rfl; clear m0; rw [HA.out] at x2; have c0 := HC0.out _ hW j _ _ HX.out rfl; have c1 := HC.out _ hW j _ 1 _ HX.out rfl; have c2 := HC.out _ hW j _ 2 _ HX.out rfl; go_simp; first | done | with_reducible rfl)) ?_; simp only [Act.put, List.setIfInBounds_toArray, List.set_cons_zero, List.set_cons_succ]) | (refine mix_call _ _ _ (by rfl) (fun W hW => by (have hW := HBS.out W hW; have m0 := HQl.out _ hW; have x0 := m0.cell_at 0 rfl; have x1 := m0.cell_at 1 rfl; have x2 := m0.cell_at 2 rfl; have x3 := m0.cell_at 3 rfl; have x4 := m0.cell_at 4 rfl; have x5 := m0.cell_at 5 rfl; have x6 := m0.cell_at 6 rfl; have x7 := m0.cell_at 7 rfl; have x8 := m0.cell_at 8 rfl; have x9 := m0.cell_at 9 rfl; have x10 := m0.cell_at 10 rfl; clear m0; rw [HA.out] at x2; have c0 := HC0.out _ hW j _ _ HX.out rfl; have c1 := HC.out _ hW j _ 1 _ HX.out rfl; have c2 := HC.out _ hW j _ 2 _ HX.out rfl; go_simp; first | done | rfl)) (fun W hW => KS.out W (HBS.out W hW)) ?_; simp only [Act.put, List.setIfInBounds_toArray, List.set_cons_zero, List.set_cons_succ]))
                refine mix_nil (fun W hW => ?_)
                have hq := HBS.out W hW
                clear hW HBS
                go_wp2_with fail
                go_roundw
                case rel => exact ⟨j + 1, hlt, by go_num, hq, HN⟩
                case measure => simp [intOf]; omega
            · obtain rfl : j = l.exits.length := by omega
              have HH3 := Lib.hid (NoneUp.any HNo.out)
              clear HNo hj hlt
              go_wp2_with fail
              clear x2
              go_loopw [6] (fun i wr => ∃ j : Nat, j ≤ l.flanks.length ∧ i = .int .i64 j ∧ Q wr ∧ Hid (NoneUp (fun x => !flankV l x.1 x.2.1 x.2.2.1 x.2.2.2) l.flanks j)) (fun i _ => l.flanks.length - (intOf i).toNat)
              case atStart => exact ⟨0, by omega, rfl, hq, Lib.hid (NoneUp.zero _ _)⟩
              case round =>
                clear hq
                obtain ⟨j, hj, rfl, hq, HNo⟩ := hrel
                have x3 := (HQl.out _ hq).cell_at 3 rfl
                by_cases hlt : j < l.flanks.length
                · have hlt' : (j : Int) < l.flanks.length := by omega
                  obtain ⟨x, hx⟩ : ∃ x, l.flanks[j]? = some x := ⟨_, List.getElem?_eq_getElem hlt⟩
                  obtain ⟨o1, o2, HA, HC0, HC⟩ := row_at (n := 4) (fun _ => rfl) (by omega) (fun W hW => (HQL.out W hW).flanks) hq hx
                  have HX := Lib.hid hx
                  have HM := Lib.hid (List.mem_of_getElem? hx)
                  clear hx
                  obtain ⟨b, hb⟩ : ∃ b, flankV l x.1 x.2.1 x.2.2.1 x.2.2.2 = b := ⟨_, rfl⟩
                  have KS : Hid (∀ W, Q W → Calls Tryd.prog 38 #[.agg #[.slice l.As l.secs.length l.cs, .slice l.Ag l.sigs.length l.cg, .slice l.Ae l.exits.length l.ce, .slice (some ⟨o1, o2, none⟩) l.flanks.length l.cf, .int .i64 l.t0, .int .i64 l.t1, .int .i64 l.t2, .int .i64 l.t3, .int .i64 l.t4, .int .i64 l.t5, .int .i64 l.t6], flkV x.1 x.2.1 x.2.2.1 x.2.2.2] W fun e w' => e = .returned (.bool b) ∧ Below W.heap.size W w') := Lib.hid (by rw [← HA.out]; exact fun W hW => flank_B (HQL.out W hW) x hb)
                  have HB : Hid ((!flankV l x.1 x.2.1 x.2.2.1 x.2.2.2) = !b) := Lib.hid (by rw [hb])
                  clear hb
                  go_wp2_with fail
                  clear x3
                  cases b
                  · have HF : Hid (false = r) := Lib.hid (by rw [← HR.out]; unfold rightR; rw [any_hit (l := l.flanks) HX.out HB.out]; simp)
                    have HBS : Hid (∀ W, Below wr.heap.size wr W → Q W) := Lib.hid (fun W hB => HQ.out _ _ hq hB)
                    clear hq
                    refine region_mix (Below wr.heap.size wr) [(0, false), (1, false), (2, false), (3, false), (4, false), (5, false), (6, false), (7, false)] (by kernel_rfl) (by kernel_rfl) (Below wr.heap.size wr) ⟨Closed.below wr, fun _ h => h⟩ (Below.refl _ _).drew ?_
                    simp only [pickOps, List.getElem?_cons_zero, List.getElem?_cons_succ]
                    repeat (first | (refine mix_skip (by rfl) ?_; simp only [Act.put, List.setIfInBounds_toArray, List.set_cons_zero, List.set_cons_succ]) | (refine mix_read _ (by rfl) (fun W hW => by (have hW := HBS.out W hW; have m0 := HQl.out _ hW; have x0 := m0.cell_at 0 rfl; have x1 := m0.cell_at 1 rfl; have x2 := m0.cell_at 2 rfl; have x3 := m0.cell_at 3 rfl; have x4 := m0.cell_at 4 rfl; have x5 := m0.cell_at 5 rfl; have x6 := m0.cell_at 6 rfl; have x7 := m0.cell_at 7 rfl; have x8 := m0.cell_at 8 rfl; have x9 := m0.cell_at 9 rfl; have x10 := m0.cell_at 10 rfl; clear m0; rw [HA.out] at x3; have c0 := HC0.out _ hW j _ _ HX.out rfl; have c1 := HC.out _ hW j _ 1 _ HX.out rfl; have c2 := HC.out _ hW j _ 2 _ HX.out rfl; have c3 := HC.out _ hW j _ 3 _ HX.out rfl; go_simp; first | done | with_reducible rfl)) ?_; simp only [Act.put, List.setIfInBounds_toArray, List.set_cons_zero, List.set_cons_succ]) | (refine mix_call _ _ _ (by rfl) (fun W hW => by (have hW := HBS.out W hW; have m0 := HQl.out _ hW; have x0 := m0.cell_at 0 rfl; have x1 := m0.cell_at 1 rfl; have x2 := m0.cell_at 2 rfl; have x3 := m0.cell_at 3 rfl; have x4 := m0.cell_at 4 rfl; have x5 := m0.cell_at 5 rfl; have x6 := m0.cell_at 6 rfl; have x7 := m0.cell_at 7 rfl; have x8 := m0.cell_at 8 rfl; have x9 := m0.cell_at 9 rfl; have x10 := m0.cell_at 10 rfl; clear m0; rw [HA.out] at x3; have c0 := HC0.out _ hW j _ _ HX.out rfl; have c1 := HC.out _ hW j _ 1 _ HX.out rfl; have c2 := HC.out _ hW j _ 2 _ HX.out rfl; have c3 := HC.out _ hW j _ 3 _ HX.out rfl; go_simp; first | done | rfl)) (fun W hW => KS.out W (HBS.out W hW)) ?_; simp only [Act.put, List.setIfInBounds_toArray, List.set_cons_zero, List.set_cons_succ]))
                    refine mix_nil (fun W hW => ?_)
                    have hq := HBS.out W hW
                    clear hW HBS
                    go_wp2_with fail
                    go_ret
                    exact ⟨ret_bool HF.out, HQp.out _ hq⟩
                  · have HN := Lib.hid (HNo.out.succ HX.out HB.out)
                    have HBS : Hid (∀ W, Below wr.heap.size wr W → Q W) := Lib.hid (fun W hB => HQ.out _ _ hq hB)
                    clear hq
                    refine region_mix (Below wr.heap.size wr) [(0, false), (1, false), (2, false), (3, false), (4, false), (5, false), (6, false), (7, false)] (by kernel_rfl) (by kernel_rfl) (Below wr.heap.size wr) ⟨Closed.below wr, fun _ h => h⟩ (Below.refl _ _).drew ?_
                    simp only [pickOps, List.getElem?_cons_zero, List.getElem?_cons_succ]
                    repeat (first | (refine mix_skip (by rfl) ?_; simp only [Act.put, List.setIfInBounds_toArray, List.set_cons_zero, List.set_cons_succ]) | (refine mix_read _ (by rfl) (fun W hW => by (have hW := HBS.out W hW; have m0 := HQl.out _ hW; have x0 := m0.cell_at 0 rfl; have x1 := m0.cell_at 1 rfl; have x2 := m0.cell_at 2 rfl; have x3 := m0.cell_at 3 rfl; have x4 := m0.cell_at 4 rfl; have x5 := m0.cell_at 5 rfl; have x6 := m0.cell_at 6 rfl; have x7 := m0.cell_at 7 rfl; have x8 := m0.cell_at 8 rfl; have x9 := m0.cell_at 9 rfl; have x10 := m0.cell_at 10 rfl; clear m0; rw [HA.out] at x3; have c0 := HC0.out _ hW j _ _ HX.out rfl; have c1 := HC.out _ hW j _ 1 _ HX.out rfl; have c2 := HC.out _ hW j _ 2 _ HX.out rfl; have c3 := HC.out _ hW j _ 3 _ HX.out rfl; go_simp; first | done | with_reducible rfl)) ?_; simp only [Act.put, List.setIfInBounds_toArray, List.set_cons_zero, List.set_cons_succ]) | (refine mix_call _ _ _ (by rfl) (fun W hW => by (have hW := HBS.out W hW; have m0 := HQl.out _ hW; have x0 := m0.cell_at 0 rfl; have x1 := m0.cell_at 1 rfl; have x2 := m0.cell_at 2 rfl; have x3 := m0.cell_at 3 rfl; have x4 := m0.cell_at 4 rfl; have x5 := m0.cell_at 5 rfl; have x6 := m0.cell_at 6 rfl; have x7 := m0.cell_at 7 rfl; have x8 := m0.cell_at 8 rfl; have x9 := m0.cell_at 9 rfl; have x10 := m0.cell_at 10 rfl; clear m0; rw [HA.out] at x3; have c0 := HC0.out _ hW j _ _ HX.out rfl; have c1 := HC.out _ hW j _ 1 _ HX.out rfl; have c2 := HC.out _ hW j _ 2 _ HX.out rfl; have c3 := HC.out _ hW j _ 3 _ HX.out rfl; go_simp; first | done | rfl)) (fun W hW => KS.out W (HBS.out W hW)) ?_; simp only [Act.put, List.setIfInBounds_toArray, List.set_cons_zero, List.set_cons_succ]))
                    refine mix_nil (fun W hW => ?_)
                    have hq := HBS.out W hW
                    clear hW HBS
                    go_wp2_with fail
                    go_roundw
                    case rel => exact ⟨j + 1, hlt, by go_num, hq, HN⟩
                    case measure => simp [intOf]; omega
                · obtain rfl : j = l.flanks.length := by omega
                  have HH4 := Lib.hid (NoneUp.any HNo.out)
                  clear HNo hj hlt
                  clear x3
                  by_cases h0 : (l.secs.length : Int) ≤ 24
                  · have d0 := decide_eq_true h0
                    clear h0
                    by_cases h1 : (l.sigs.length : Int) ≤ 12
                    · have d1 := decide_eq_true h1
                      clear h1
                      by_cases h2 : (l.exits.length : Int) ≤ 12
                      · have d2 := decide_eq_true h2
                        clear h2
                        by_cases h3 : (l.flanks.length : Int) ≤ 16
                        · have d3 := decide_eq_true h3
                          clear h3
                          have HF : Hid (tb = r) := Lib.hid (by
                            have e1 := HH1.out
                            have e2 := HH2.out
                            have e3 := HH3.out
                            have e4 := HH4.out
                            rw [← HR.out, ← HTB.out]
                            unfold rightR
                            rw [e1, e2, e3, e4, d0, d1, d2, d3]
                            rfl)
                          have hW := hq
                          have m0 := HQl.out _ hW
                          have x0 := m0.cell_at 0 rfl
                          have x1 := m0.cell_at 1 rfl
                          have x2 := m0.cell_at 2 rfl
                          have x3 := m0.cell_at 3 rfl
                          have x4 := m0.cell_at 4 rfl
                          have x5 := m0.cell_at 5 rfl
                          have x6 := m0.cell_at 6 rfl
                          have x7 := m0.cell_at 7 rfl
                          have x8 := m0.cell_at 8 rfl
                          have x9 := m0.cell_at 9 rfl
                          have x10 := m0.cell_at 10 rfl
                          clear m0
                          clear hW
                          go_wp2_with fail
                          refine (KT.out _ hq).mono ?_
                          clear x0 x1 x2 x3 x4 x5 x6 x7 x8 x9 x10 hq
                          rintro e w1 ⟨rfl, hq⟩
                          go_wp2_with fail
                          go_ret
                          exact ⟨ret_bool HF.out, HQp.out _ hq⟩
                        · have d3 := decide_eq_false h3
                          clear h3
                          have HF : Hid (false = r) := Lib.hid (by rw [← HR.out]; unfold rightR; rw [d3]; simp)
                          have hW := hq
                          have m0 := HQl.out _ hW
                          have x0 := m0.cell_at 0 rfl
                          have x1 := m0.cell_at 1 rfl
                          have x2 := m0.cell_at 2 rfl
                          have x3 := m0.cell_at 3 rfl
                          have x4 := m0.cell_at 4 rfl
                          have x5 := m0.cell_at 5 rfl
                          have x6 := m0.cell_at 6 rfl
                          have x7 := m0.cell_at 7 rfl
                          have x8 := m0.cell_at 8 rfl
                          have x9 := m0.cell_at 9 rfl
                          have x10 := m0.cell_at 10 rfl
                          clear m0
                          clear hW
                          go_wp2_with fail
                          go_ret
                          exact ⟨ret_bool HF.out, HQp.out _ hq⟩
                      · have d2 := decide_eq_false h2
                        clear h2
                        have HF : Hid (false = r) := Lib.hid (by rw [← HR.out]; unfold rightR; rw [d2]; simp)
                        have hW := hq
                        have m0 := HQl.out _ hW
                        have x0 := m0.cell_at 0 rfl
                        have x1 := m0.cell_at 1 rfl
                        have x2 := m0.cell_at 2 rfl
                        have x3 := m0.cell_at 3 rfl
                        have x4 := m0.cell_at 4 rfl
                        have x5 := m0.cell_at 5 rfl
                        have x6 := m0.cell_at 6 rfl
                        have x7 := m0.cell_at 7 rfl
                        have x8 := m0.cell_at 8 rfl
                        have x9 := m0.cell_at 9 rfl
                        have x10 := m0.cell_at 10 rfl
                        clear m0
                        clear hW
                        go_wp2_with fail
                        go_ret
                        exact ⟨ret_bool HF.out, HQp.out _ hq⟩
                    · have d1 := decide_eq_false h1
                      clear h1
                      have HF : Hid (false = r) := Lib.hid (by rw [← HR.out]; unfold rightR; rw [d1]; simp)
                      have hW := hq
                      have m0 := HQl.out _ hW
                      have x0 := m0.cell_at 0 rfl
                      have x1 := m0.cell_at 1 rfl
                      have x2 := m0.cell_at 2 rfl
                      have x3 := m0.cell_at 3 rfl
                      have x4 := m0.cell_at 4 rfl
                      have x5 := m0.cell_at 5 rfl
                      have x6 := m0.cell_at 6 rfl
                      have x7 := m0.cell_at 7 rfl
                      have x8 := m0.cell_at 8 rfl
                      have x9 := m0.cell_at 9 rfl
                      have x10 := m0.cell_at 10 rfl
                      clear m0
                      clear hW
                      go_wp2_with fail
                      go_ret
                      exact ⟨ret_bool HF.out, HQp.out _ hq⟩
                  · have d0 := decide_eq_false h0
                    clear h0
                    have HF : Hid (false = r) := Lib.hid (by rw [← HR.out]; unfold rightR; rw [d0]; simp)
                    have hW := hq
                    have m0 := HQl.out _ hW
                    have x0 := m0.cell_at 0 rfl
                    have x1 := m0.cell_at 1 rfl
                    have x2 := m0.cell_at 2 rfl
                    have x3 := m0.cell_at 3 rfl
                    have x4 := m0.cell_at 4 rfl
                    have x5 := m0.cell_at 5 rfl
                    have x6 := m0.cell_at 6 rfl
                    have x7 := m0.cell_at 7 rfl
                    have x8 := m0.cell_at 8 rfl
                    have x9 := m0.cell_at 9 rfl
                    have x10 := m0.cell_at 10 rfl
                    clear m0
                    clear hW
                    go_wp2_with fail
                    go_ret
                    exact ⟨ret_bool HF.out, HQp.out _ hq⟩
end
end Go.Proofs.YtbdbgoploednbaaDoor
