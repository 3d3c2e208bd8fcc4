/- Rows of structs of the call's own; slices.Clone at a layout's rows. -/
import Derived.Test.YtbalcbnlpgekaaaDoorLayF
import Derived.Test.YtbalcbnlpgekaaaDoorAppend
namespace Go.Proofs.YtbalcbnlpgekaaaDoor
open Go.RowKit Go.Shelf
set_option linter.unusedVariables false
set_option linter.unusedSimpArgs false

theorem flat_length {α : Type} {f : α → List Value} {n : Nat} (hf : ∀ x, (f x).length = n) : ∀ l : List α, (l.flatMap f).length = l.length * n
  | [] => by simp
  | x :: l => by rw [List.flatMap_cons, List.length_append, hf, flat_length hf l, List.length_cons, Nat.add_mul]; omega
/-- What is owned is owned in whatever grows out of the world. -/
theorem owns_keep {w w' : World} {base e size n : Nat} {v : Value} {xs : List Value} (h : w.ownsRow base e size v n xs) (hb : Below w.heap.size w w') : w'.ownsRow base e size v n xs := by
  refine ⟨h.1, ?_⟩
  rcases h.2 with h2 | ⟨g', cap', cur, hv, h3, h4, r⟩
  · exact .inl h2
  · exact .inr ⟨g', cap', cur, hv, h3, (hb.block g' (Array.getElem?_eq_some_iff.1 h4).1).trans h4, r⟩
theorem owns_base {w : World} {base base' e size n : Nat} {v : Value} {xs : List Value} (h : w.ownsRow base e size v n xs) (hb : base' ≤ base) : w.ownsRow base' e size v n xs := by
  refine ⟨h.1, ?_⟩
  rcases h.2 with h2 | ⟨g', cap', cur, hv, h3, r⟩
  · exact .inl h2
  · exact .inr ⟨g', cap', cur, hv, by omega, r⟩
/-- What is owned, read as a slice. -/
theorem owns_read {w : World} {base e size n : Nat} {v : Value} {xs : List Value} (h : w.ownsRow base e size v n xs) : ∃ A c, v = .slice A n c ∧ Row w w.heap.size A xs := by
  rcases h.2 with ⟨rfl, rfl⟩ | ⟨g, cap, cur, rfl, h3, h4, h5, h6, h7, h8⟩
  · have : xs = [] := List.eq_nil_of_length_eq_zero (by simpa using h.1)
    subst this
    exact ⟨none, 0, rfl, Row.nil _ _ _⟩
  · refine ⟨_, _, rfl, fun hp => ⟨g, 0, rfl, (Array.getElem?_eq_some_iff.1 h4).1, fun j u hu => ?_⟩⟩
    rw [← h8, List.getElem?_take] at hu
    split at hu
    · simpa [World.cell?, h4] using hu
    · cases hu

theorem infoSection : (Tryd.prog.info? 39).map (fun i => (i.zero, i.size, i.bytes)) = some (some (.agg #[.int .u8 0, .int .i64 0, .int .i64 0, .int .i64 0, .int .i64 0, .int .i64 0, .int .i64 0, .int .i64 0, .int .i64 0, .int .i64 0, .int .i64 0]), 11, 88) := by kernel_rfl
theorem oneSection (x : Sec) : ∀ u ∈ Sec.cells x, u.oneCell' = true := by intro u hu; simp at hu; rcases hu with rfl | rfl | rfl | rfl | rfl | rfl | rfl | rfl | rfl | rfl | rfl <;> rfl
/-- append(v, src..), v a row of the call's own, whatever is appended. -/
theorem appendSection (base n m : Nat) (v : Value) (xs : List Value) (l : List (Sec)) (A : Option Addr) (c B : Nat) (w : World) (hown : w.ownsRow base 39 11 v n xs) (hA : A ≠ none) (hr : Row w B A (l.flatMap Sec.cells)) (hm : m = l.length) (hn : n ≤ 1000) (hl : l.length ≤ 1000) (hbase : base ≤ w.heap.size) :
    ∃ v' w', (Builtin.append_ #[22, 22] 22 #[v, .slice A m c]).run Tryd.prog w = .ok v' w' ∧ w'.ownsRow base 39 11 v' (n + m) (xs ++ l.flatMap Sec.cells) ∧ Below base w w' ∧ v' ≠ .slice none 0 0 ∨ v = .slice none 0 0 := by
  subst hm
  obtain ⟨i, i1, i2, i3, i4⟩ := info_parts infoSection
  obtain ⟨a, rfl⟩ : ∃ a, A = some a := Option.ne_none_iff_exists'.1 hA
  obtain ⟨v', w', r1, r2, r3, r4, r5⟩ := run_append_own_at (P := Tryd.prog) w base 22 22 39 i (.agg #[.int .u8 0, .int .i64 0, .int .i64 0, .int .i64 0, .int .i64 0, .int .i64 0, .int .i64 0, .int .i64 0, .int .i64 0, .int .i64 0, .int .i64 0]) 11 88 Tryd.underlying22 i1 i2 i3 i4 rfl (by omega) v n xs hown a l.length c (l.flatMap Sec.cells) (flat_length (n := 11) Sec.len l) (row_add hr) (fun u hu => by
    obtain ⟨x, _, hx⟩ := List.mem_flatMap.1 hu
    exact oneSection x u hx) (by unfold maxLen; omega) (by omega) hbase
  by_cases h0 : v = .slice none 0 0
  · exact ⟨v, w, .inr h0⟩
  · exact ⟨v', w', .inl ⟨r1, r2, (Below.refl base w).grown r3 hbase (fun k e => (hown.lt k e).1), fun e => h0 (r4.1 e).1⟩⟩

set_option maxRecDepth 100000 in
set_option maxHeartbeats 4000000 in
theorem cloneSection_any {l : List (Sec)} (A : Option Addr) (c : Nat) (w : World) (hr : Row w w.heap.size A (l.flatMap Sec.cells)) (hl : l.length ≤ 1000) :
    Calls Tryd.prog 63 #[.slice A l.length c] w fun e w' => ∃ v, e = .returned v ∧ w'.ownsRow w.heap.size 39 11 v l.length (l.flatMap Sec.cells) ∧ Below w.heap.size w w' := by
  cases A with
  | none =>
    have h0 : l = [] := by
      cases l with
      | nil => rfl
      | cons x l =>
        obtain ⟨b, off, e, _⟩ := hr (by rw [List.flatMap_cons, List.length_append]; have : (Sec.cells x).length = 11 := rfl; omega)
        cases e
    subst h0
    have hnil : ∀ w : World, (binOp .eql 22 (.slice none 0 c) (.slice none 0 0)).run Tryd.prog w = .ok (.bool true) w := fun _ => rfl
    go_enter Tryd.func63, Tryd.ntmps63
    go_wp2_with fail
    go_ret
    exact ⟨_, rfl, World.ownsRow_nil _ _ _ _, Below.refl _ _⟩
  | some a =>
    have hown : (w.alloc (.cells #[] 39)).ownsRow w.heap.size 39 11 (.slice (some ⟨w.heap.size, 0, none⟩) 0 0) 0 [] := ⟨by simp, .inr ⟨w.heap.size, 0, #[], rfl, Nat.le_refl _, World.alloc_heap_new w _, Nat.le_refl _, by simp, by simp, by simp⟩⟩
    obtain ⟨v', w1, hap⟩ := appendSection w.heap.size 0 l.length _ [] l (some a) c w.heap.size _ hown (by simp) (hr.below (below1 w _)) rfl (by omega) hl (by simp)
    rcases hap with ⟨hrun, hown1, hB, _⟩ | h
    · have HO := Lib.hid hown1
      have HB := Lib.hid ((below1 w (.cells #[] 39)).trans hB)
      clear hown hown1 hB hr
      have hnil : ∀ w : World, (binOp .eql 22 (.slice (some a) l.length c) (.slice none 0 0)).run Tryd.prog w = .ok (.bool false) w := fun _ => rfl
      go_enter Tryd.func63, Tryd.ntmps63
      go_wp2_with (at_builtin; refine list_append rfl (.tmp 5) (.tmp 6) 22 rfl hrun ?_)
      go_ret
      exact ⟨_, rfl, by simpa using HO.out, HB.out⟩
    · cases h

theorem infoSignal : (Tryd.prog.info? 50).map (fun i => (i.zero, i.size, i.bytes)) = some (some (.agg #[.int .i64 0, .int .i64 0]), 2, 16) := by kernel_rfl
theorem oneSignal (x : Int × Int) : ∀ u ∈ prtCells x, u.oneCell' = true := by intro u hu; simp at hu; rcases hu with rfl | rfl <;> rfl
/-- append(v, src..), v a row of the call's own, whatever is appended. -/
theorem appendSignal (base n m : Nat) (v : Value) (xs : List Value) (l : List (Int × Int)) (A : Option Addr) (c B : Nat) (w : World) (hown : w.ownsRow base 50 2 v n xs) (hA : A ≠ none) (hr : Row w B A (l.flatMap prtCells)) (hm : m = l.length) (hn : n ≤ 1000) (hl : l.length ≤ 1000) (hbase : base ≤ w.heap.size) :
    ∃ v' w', (Builtin.append_ #[23, 23] 23 #[v, .slice A m c]).run Tryd.prog w = .ok v' w' ∧ w'.ownsRow base 50 2 v' (n + m) (xs ++ l.flatMap prtCells) ∧ Below base w w' ∧ v' ≠ .slice none 0 0 ∨ v = .slice none 0 0 := by
  subst hm
  obtain ⟨i, i1, i2, i3, i4⟩ := info_parts infoSignal
  obtain ⟨a, rfl⟩ : ∃ a, A = some a := Option.ne_none_iff_exists'.1 hA
  obtain ⟨v', w', r1, r2, r3, r4, r5⟩ := run_append_own_at (P := Tryd.prog) w base 23 23 50 i (.agg #[.int .i64 0, .int .i64 0]) 2 16 Tryd.underlying23 i1 i2 i3 i4 rfl (by omega) v n xs hown a l.length c (l.flatMap prtCells) (flat_length (n := 2) (fun _ => rfl) l) (row_add hr) (fun u hu => by
    obtain ⟨x, _, hx⟩ := List.mem_flatMap.1 hu
    exact oneSignal x u hx) (by unfold maxLen; omega) (by omega) hbase
  by_cases h0 : v = .slice none 0 0
  · exact ⟨v, w, .inr h0⟩
  · exact ⟨v', w', .inl ⟨r1, r2, (Below.refl base w).grown r3 hbase (fun k e => (hown.lt k e).1), fun e => h0 (r4.1 e).1⟩⟩

set_option maxRecDepth 100000 in
set_option maxHeartbeats 4000000 in
theorem cloneSignal_any {l : List (Int × Int)} (A : Option Addr) (c : Nat) (w : World) (hr : Row w w.heap.size A (l.flatMap prtCells)) (hl : l.length ≤ 1000) :
    Calls Tryd.prog 64 #[.slice A l.length c] w fun e w' => ∃ v, e = .returned v ∧ w'.ownsRow w.heap.size 50 2 v l.length (l.flatMap prtCells) ∧ Below w.heap.size w w' := by
  cases A with
  | none =>
    have h0 : l = [] := by
      cases l with
      | nil => rfl
      | cons x l =>
        obtain ⟨b, off, e, _⟩ := hr (by rw [List.flatMap_cons, List.length_append]; have : (prtCells x).length = 2 := rfl; omega)
        cases e
    subst h0
    have hnil : ∀ w : World, (binOp .eql 23 (.slice none 0 c) (.slice none 0 0)).run Tryd.prog w = .ok (.bool true) w := fun _ => rfl
    go_enter Tryd.func64, Tryd.ntmps64
    go_wp2_with fail
    go_ret
    exact ⟨_, rfl, World.ownsRow_nil _ _ _ _, Below.refl _ _⟩
  | some a =>
    have hown : (w.alloc (.cells #[] 50)).ownsRow w.heap.size 50 2 (.slice (some ⟨w.heap.size, 0, none⟩) 0 0) 0 [] := ⟨by simp, .inr ⟨w.heap.size, 0, #[], rfl, Nat.le_refl _, World.alloc_heap_new w _, Nat.le_refl _, by simp, by simp, by simp⟩⟩
    obtain ⟨v', w1, hap⟩ := appendSignal w.heap.size 0 l.length _ [] l (some a) c w.heap.size _ hown (by simp) (hr.below (below1 w _)) rfl (by omega) hl (by simp)
    rcases hap with ⟨hrun, hown1, hB, _⟩ | h
    · have HO := Lib.hid hown1
      have HB := Lib.hid ((below1 w (.cells #[] 50)).trans hB)
      clear hown hown1 hB hr
      have hnil : ∀ w : World, (binOp .eql 23 (.slice (some a) l.length c) (.slice none 0 0)).run Tryd.prog w = .ok (.bool false) w := fun _ => rfl
      go_enter Tryd.func64, Tryd.ntmps64
      go_wp2_with (at_builtin; refine list_append rfl (.tmp 5) (.tmp 6) 23 rfl hrun ?_)
      go_ret
      exact ⟨_, rfl, by simpa using HO.out, HB.out⟩
    · cases h

theorem infoExit : (Tryd.prog.info? 53).map (fun i => (i.zero, i.size, i.bytes)) = some (some (.agg #[.int .i64 0, .int .i64 0, .slice none 0 0]), 3, 40) := by kernel_rfl
theorem oneExit (x : Exm) : ∀ u ∈ Exm.cells x, u.oneCell' = true := by intro u hu; simp at hu; rcases hu with rfl | rfl | rfl <;> rfl
/-- append(v, src..), v a row of the call's own, whatever is appended. -/
theorem appendExit (base n m : Nat) (v : Value) (xs : List Value) (l : List (Exm)) (A : Option Addr) (c B : Nat) (w : World) (hown : w.ownsRow base 53 3 v n xs) (hA : A ≠ none) (hr : Row w B A (l.flatMap Exm.cells)) (hm : m = l.length) (hn : n ≤ 1000) (hl : l.length ≤ 1000) (hbase : base ≤ w.heap.size) :
    ∃ v' w', (Builtin.append_ #[24, 24] 24 #[v, .slice A m c]).run Tryd.prog w = .ok v' w' ∧ w'.ownsRow base 53 3 v' (n + m) (xs ++ l.flatMap Exm.cells) ∧ Below base w w' ∧ v' ≠ .slice none 0 0 ∨ v = .slice none 0 0 := by
  subst hm
  obtain ⟨i, i1, i2, i3, i4⟩ := info_parts infoExit
  obtain ⟨a, rfl⟩ : ∃ a, A = some a := Option.ne_none_iff_exists'.1 hA
  obtain ⟨v', w', r1, r2, r3, r4, r5⟩ := run_append_own_at (P := Tryd.prog) w base 24 24 53 i (.agg #[.int .i64 0, .int .i64 0, .slice none 0 0]) 3 40 Tryd.underlying24 i1 i2 i3 i4 rfl (by omega) v n xs hown a l.length c (l.flatMap Exm.cells) (flat_length (n := 3) (fun _ => rfl) l) (row_add hr) (fun u hu => by
    obtain ⟨x, _, hx⟩ := List.mem_flatMap.1 hu
    exact oneExit x u hx) (by unfold maxLen; omega) (by omega) hbase
  by_cases h0 : v = .slice none 0 0
  · exact ⟨v, w, .inr h0⟩
  · exact ⟨v', w', .inl ⟨r1, r2, (Below.refl base w).grown r3 hbase (fun k e => (hown.lt k e).1), fun e => h0 (r4.1 e).1⟩⟩

set_option maxRecDepth 100000 in
set_option maxHeartbeats 4000000 in
theorem cloneExit_any {l : List (Exm)} (A : Option Addr) (c : Nat) (w : World) (hr : Row w w.heap.size A (l.flatMap Exm.cells)) (hl : l.length ≤ 1000) :
    Calls Tryd.prog 65 #[.slice A l.length c] w fun e w' => ∃ v, e = .returned v ∧ w'.ownsRow w.heap.size 53 3 v l.length (l.flatMap Exm.cells) ∧ Below w.heap.size w w' := by
  cases A with
  | none =>
    have h0 : l = [] := by
      cases l with
      | nil => rfl
      | cons x l =>
        obtain ⟨b, off, e, _⟩ := hr (by rw [List.flatMap_cons, List.length_append]; have : (Exm.cells x).length = 3 := rfl; omega)
        cases e
    subst h0
    have hnil : ∀ w : World, (binOp .eql 24 (.slice none 0 c) (.slice none 0 0)).run Tryd.prog w = .ok (.bool true) w := fun _ => rfl
    go_enter Tryd.func65, Tryd.ntmps65
    go_wp2_with fail
    go_ret
    exact ⟨_, rfl, World.ownsRow_nil _ _ _ _, Below.refl _ _⟩
  | some a =>
    have hown : (w.alloc (.cells #[] 53)).ownsRow w.heap.size 53 3 (.slice (some ⟨w.heap.size, 0, none⟩) 0 0) 0 [] := ⟨by simp, .inr ⟨w.heap.size, 0, #[], rfl, Nat.le_refl _, World.alloc_heap_new w _, Nat.le_refl _, by simp, by simp, by simp⟩⟩
    obtain ⟨v', w1, hap⟩ := appendExit w.heap.size 0 l.length _ [] l (some a) c w.heap.size _ hown (by simp) (hr.below (below1 w _)) rfl (by omega) hl (by simp)
    rcases hap with ⟨hrun, hown1, hB, _⟩ | h
    · have HO := Lib.hid hown1
      have HB := Lib.hid ((below1 w (.cells #[] 53)).trans hB)
      clear hown hown1 hB hr
      have hnil : ∀ w : World, (binOp .eql 24 (.slice (some a) l.length c) (.slice none 0 0)).run Tryd.prog w = .ok (.bool false) w := fun _ => rfl
      go_enter Tryd.func65, Tryd.ntmps65
      go_wp2_with (at_builtin; refine list_append rfl (.tmp 5) (.tmp 6) 24 rfl hrun ?_)
      go_ret
      exact ⟨_, rfl, by simpa using HO.out, HB.out⟩
    · cases h

theorem infoFlank : (Tryd.prog.info? 55).map (fun i => (i.zero, i.size, i.bytes)) = some (some (.agg #[.int .i64 0, .int .i64 0, .int .i64 0, .int .i64 0]), 4, 32) := by kernel_rfl
theorem oneFlank (x : Int × Int × Int × Int) : ∀ u ∈ flkCells x, u.oneCell' = true := by intro u hu; simp at hu; rcases hu with rfl | rfl | rfl | rfl <;> rfl
/-- append(v, src..), v a row of the call's own, whatever is appended. -/
theorem appendFlank (base n m : Nat) (v : Value) (xs : List Value) (l : List (Int × Int × Int × Int)) (A : Option Addr) (c B : Nat) (w : World) (hown : w.ownsRow base 55 4 v n xs) (hA : A ≠ none) (hr : Row w B A (l.flatMap flkCells)) (hm : m = l.length) (hn : n ≤ 1000) (hl : l.length ≤ 1000) (hbase : base ≤ w.heap.size) :
    ∃ v' w', (Builtin.append_ #[25, 25] 25 #[v, .slice A m c]).run Tryd.prog w = .ok v' w' ∧ w'.ownsRow base 55 4 v' (n + m) (xs ++ l.flatMap flkCells) ∧ Below base w w' ∧ v' ≠ .slice none 0 0 ∨ v = .slice none 0 0 := by
  subst hm
  obtain ⟨i, i1, i2, i3, i4⟩ := info_parts infoFlank
  obtain ⟨a, rfl⟩ : ∃ a, A = some a := Option.ne_none_iff_exists'.1 hA
  obtain ⟨v', w', r1, r2, r3, r4, r5⟩ := run_append_own_at (P := Tryd.prog) w base 25 25 55 i (.agg #[.int .i64 0, .int .i64 0, .int .i64 0, .int .i64 0]) 4 32 Tryd.underlying25 i1 i2 i3 i4 rfl (by omega) v n xs hown a l.length c (l.flatMap flkCells) (flat_length (n := 4) (fun _ => rfl) l) (row_add hr) (fun u hu => by
    obtain ⟨x, _, hx⟩ := List.mem_flatMap.1 hu
    exact oneFlank x u hx) (by unfold maxLen; omega) (by omega) hbase
  by_cases h0 : v = .slice none 0 0
  · exact ⟨v, w, .inr h0⟩
  · exact ⟨v', w', .inl ⟨r1, r2, (Below.refl base w).grown r3 hbase (fun k e => (hown.lt k e).1), fun e => h0 (r4.1 e).1⟩⟩

set_option maxRecDepth 100000 in
set_option maxHeartbeats 4000000 in
theorem cloneFlank_any {l : List (Int × Int × Int × Int)} (A : Option Addr) (c : Nat) (w : World) (hr : Row w w.heap.size A (l.flatMap flkCells)) (hl : l.length ≤ 1000) :
    Calls Tryd.prog 66 #[.slice A l.length c] w fun e w' => ∃ v, e = .returned v ∧ w'.ownsRow w.heap.size 55 4 v l.length (l.flatMap flkCells) ∧ Below w.heap.size w w' := by
  cases A with
  | none =>
    have h0 : l = [] := by
      cases l with
      | nil => rfl
      | cons x l =>
        obtain ⟨b, off, e, _⟩ := hr (by rw [List.flatMap_cons, List.length_append]; have : (flkCells x).length = 4 := rfl; omega)
        cases e
    subst h0
    have hnil : ∀ w : World, (binOp .eql 25 (.slice none 0 c) (.slice none 0 0)).run Tryd.prog w = .ok (.bool true) w := fun _ => rfl
    go_enter Tryd.func66, Tryd.ntmps66
    go_wp2_with fail
    go_ret
    exact ⟨_, rfl, World.ownsRow_nil _ _ _ _, Below.refl _ _⟩
  | some a =>
    have hown : (w.alloc (.cells #[] 55)).ownsRow w.heap.size 55 4 (.slice (some ⟨w.heap.size, 0, none⟩) 0 0) 0 [] := ⟨by simp, .inr ⟨w.heap.size, 0, #[], rfl, Nat.le_refl _, World.alloc_heap_new w _, Nat.le_refl _, by simp, by simp, by simp⟩⟩
    obtain ⟨v', w1, hap⟩ := appendFlank w.heap.size 0 l.length _ [] l (some a) c w.heap.size _ hown (by simp) (hr.below (below1 w _)) rfl (by omega) hl (by simp)
    rcases hap with ⟨hrun, hown1, hB, _⟩ | h
    · have HO := Lib.hid hown1
      have HB := Lib.hid ((below1 w (.cells #[] 55)).trans hB)
      clear hown hown1 hB hr
      have hnil : ∀ w : World, (binOp .eql 25 (.slice (some a) l.length c) (.slice none 0 0)).run Tryd.prog w = .ok (.bool false) w := fun _ => rfl
      go_enter Tryd.func66, Tryd.ntmps66
      go_wp2_with (at_builtin; refine list_append rfl (.tmp 5) (.tmp 6) 25 rfl hrun ?_)
      go_ret
      exact ⟨_, rfl, by simpa using HO.out, HB.out⟩
    · cases h

theorem infoStep : (Tryd.prog.info? 33).map (fun i => (i.zero, i.size, i.bytes)) = some (some (.agg #[.int .i64 0, .int .i64 0, .int .i64 0]), 3, 24) := by kernel_rfl
theorem oneStep (x : Int × Int × Int) : ∀ u ∈ stpCells x, u.oneCell' = true := by intro u hu; simp at hu; rcases hu with rfl | rfl | rfl <;> rfl
/-- append(v, src..), v a row of the call's own, whatever is appended. -/
theorem appendStep (base n m : Nat) (v : Value) (xs : List Value) (l : List (Int × Int × Int)) (A : Option Addr) (c B : Nat) (w : World) (hown : w.ownsRow base 33 3 v n xs) (hA : A ≠ none) (hr : Row w B A (l.flatMap stpCells)) (hm : m = l.length) (hn : n ≤ 1000) (hl : l.length ≤ 1000) (hbase : base ≤ w.heap.size) :
    ∃ v' w', (Builtin.append_ #[51, 51] 51 #[v, .slice A m c]).run Tryd.prog w = .ok v' w' ∧ w'.ownsRow base 33 3 v' (n + m) (xs ++ l.flatMap stpCells) ∧ Below base w w' ∧ v' ≠ .slice none 0 0 ∨ v = .slice none 0 0 := by
  subst hm
  obtain ⟨i, i1, i2, i3, i4⟩ := info_parts infoStep
  obtain ⟨a, rfl⟩ : ∃ a, A = some a := Option.ne_none_iff_exists'.1 hA
  obtain ⟨v', w', r1, r2, r3, r4, r5⟩ := run_append_own_at (P := Tryd.prog) w base 51 51 33 i (.agg #[.int .i64 0, .int .i64 0, .int .i64 0]) 3 24 Tryd.underlying51 i1 i2 i3 i4 rfl (by omega) v n xs hown a l.length c (l.flatMap stpCells) (flat_length (n := 3) (fun _ => rfl) l) (row_add hr) (fun u hu => by
    obtain ⟨x, _, hx⟩ := List.mem_flatMap.1 hu
    exact oneStep x u hx) (by unfold maxLen; omega) (by omega) hbase
  by_cases h0 : v = .slice none 0 0
  · exact ⟨v, w, .inr h0⟩
  · exact ⟨v', w', .inl ⟨r1, r2, (Below.refl base w).grown r3 hbase (fun k e => (hown.lt k e).1), fun e => h0 (r4.1 e).1⟩⟩

set_option maxRecDepth 100000 in
set_option maxHeartbeats 4000000 in
theorem cloneStep_any {l : List (Int × Int × Int)} (A : Option Addr) (c : Nat) (w : World) (hr : Row w w.heap.size A (l.flatMap stpCells)) (hl : l.length ≤ 1000) :
    Calls Tryd.prog 67 #[.slice A l.length c] w fun e w' => ∃ v, e = .returned v ∧ w'.ownsRow w.heap.size 33 3 v l.length (l.flatMap stpCells) ∧ Below w.heap.size w w' := by
  cases A with
  | none =>
    have h0 : l = [] := by
      cases l with
      | nil => rfl
      | cons x l =>
        obtain ⟨b, off, e, _⟩ := hr (by rw [List.flatMap_cons, List.length_append]; have : (stpCells x).length = 3 := rfl; omega)
        cases e
    subst h0
    have hnil : ∀ w : World, (binOp .eql 51 (.slice none 0 c) (.slice none 0 0)).run Tryd.prog w = .ok (.bool true) w := fun _ => rfl
    go_enter Tryd.func67, Tryd.ntmps67
    go_wp2_with fail
    go_ret
    exact ⟨_, rfl, World.ownsRow_nil _ _ _ _, Below.refl _ _⟩
  | some a =>
    have hown : (w.alloc (.cells #[] 33)).ownsRow w.heap.size 33 3 (.slice (some ⟨w.heap.size, 0, none⟩) 0 0) 0 [] := ⟨by simp, .inr ⟨w.heap.size, 0, #[], rfl, Nat.le_refl _, World.alloc_heap_new w _, Nat.le_refl _, by simp, by simp, by simp⟩⟩
    obtain ⟨v', w1, hap⟩ := appendStep w.heap.size 0 l.length _ [] l (some a) c w.heap.size _ hown (by simp) (hr.below (below1 w _)) rfl (by omega) hl (by simp)
    rcases hap with ⟨hrun, hown1, hB, _⟩ | h
    · have HO := Lib.hid hown1
      have HB := Lib.hid ((below1 w (.cells #[] 33)).trans hB)
      clear hown hown1 hB hr
      have hnil : ∀ w : World, (binOp .eql 51 (.slice (some a) l.length c) (.slice none 0 0)).run Tryd.prog w = .ok (.bool false) w := fun _ => rfl
      go_enter Tryd.func67, Tryd.ntmps67
      go_wp2_with (at_builtin; refine list_append rfl (.tmp 5) (.tmp 6) 51 rfl hrun ?_)
      go_ret
      exact ⟨_, rfl, by simpa using HO.out, HB.out⟩
    · cases h
end Go.Proofs.YtbalcbnlpgekaaaDoor
