/- Rows of structs that came in: where they lie, their cells. Package route: within, enters, leaves, Same, Own, Through; the document's own Steps, Same, Through. As XMix: a store into a part of a block. -/
import Derived.Test.YtljpiafopbfdlaaGen
import Derived.Test.YtljpiafopbfdlaaRows
import Derived.DataShut
import Derived.Deep.Slices
import Derived.DataElems
import Derived.Deep.CutRange
import Derived.BigQuiet
import Derived.Test.YtljpiafopbfdlaaQAl
import Derived.Test.YtljpiafopbfdlaaQAc
import Derived.Test.YtljpiafopbfdlaaQAm
namespace Go.Proofs.Ytljpiafopbfdlaa
open Go.ChangeShapes Go.WideShapes Go.ChangeAt Go.RowKit Go.Deep
open Go.Joins
set_option linter.unusedVariables false
set_option maxRecDepth 100000

theorem field_of {P : Program} {t : TypeId} {i ty off : Nat} (h : ((P.fieldsOf t)[i]?).map (fun f => (f.type, f.offset)) = some (ty, off)) : ∃ f : Field, (P.fieldsOf t)[i]? = some f ∧ f.type = ty ∧ f.offset = off := by
  cases hf : (P.fieldsOf t)[i]? with
  | none => rw [hf] at h; cases h
  | some f => rw [hf] at h; simp at h; exact ⟨f, rfl, h.1, h.2⟩
theorem fits_num {k : IntKind} {ls : List Leaf} {cs : List Value} (h : Fits (.num k :: ls) cs) : ∃ (n : Int) (vs : List Value), cs = .int k n :: vs ∧ (Lit.int k n).wf = true ∧ Fits ls vs := by
  cases cs with
  | nil => exact h.elim
  | cons v vs =>
    obtain ⟨⟨n, rfl, hw⟩, h2⟩ := h
    exact ⟨n, vs, rfl, hw, h2⟩
theorem fits_nil {cs : List Value} (h : Fits [] cs) : cs = [] := by
  cases cs with
  | nil => rfl
  | cons v vs => exact h.elim
theorem list_choose {α : Type} {p : Nat → α → Prop} : ∀ (n : Nat), (∀ i, i < n → ∃ x, p i x) → ∃ l : List α, l.length = n ∧ ∀ i x, l[i]? = some x → p i x
  | 0, _ => ⟨[], rfl, fun i x h => by simp at h⟩
  | n + 1, h => by
    obtain ⟨l, hl, hp⟩ := list_choose n (fun i hi => h i (by omega))
    obtain ⟨x, hx⟩ := h n (by omega)
    refine ⟨l ++ [x], by simp [hl], fun i y hy => ?_⟩
    by_cases hi : i < l.length
    · rw [List.getElem?_append_left hi] at hy; exact hp i y hy
    · have hlt := (List.getElem?_eq_some_iff.1 hy).1
      simp at hlt
      obtain rfl : i = l.length := by omega
      rw [List.getElem?_append_right (Nat.le_refl _), Nat.sub_self] at hy
      simp at hy
      subst hy
      rw [hl]
      exact hx
theorem flat_inv {α : Type} {f : α → List Value} {c : Nat} (hf : ∀ x, (f x).length = c) : ∀ (l : List α) (j : Nat) (u : Value), (l.flatMap f)[j]? = some u → ∃ i x k, l[i]? = some x ∧ (f x)[k]? = some u ∧ j = i * c + k
  | [], j, u, h => by simp at h
  | y :: l, j, u, h => by
    rw [List.flatMap_cons] at h
    by_cases hj : j < (f y).length
    · rw [List.getElem?_append_left hj] at h
      exact ⟨0, y, j, rfl, h, by omega⟩
    · rw [List.getElem?_append_right (by omega)] at h
      obtain ⟨i, x, k, h1, h2, h3⟩ := flat_inv hf l _ u h
      refine ⟨i + 1, x, k, by simpa using h1, h2, ?_⟩
      rw [hf] at h3 hj
      rw [Nat.add_mul]
      omega
section
variable {H : Type} {enc : TypeId × Value → H} {w : World} {base : Nat} {spare : Nat → Bool} {held : Bool}
/-- A row of structs. -/
theorem row_open {α : Type} {f : α → List Value} {G : α → Prop} {t e : TypeId} {c : Nat} (hf : ∀ x, (f x).length = c) (hc0 : 0 < c) (ht : Try.prog.underlying t = some (.slice e)) (hc : Try.prog.cellsOf e = c)
    (hel : ∀ n cs x, DataW.trod enc Try.prog w base spare held n e cs = some x → ∃ a : α, cs = f a ∧ G a) {fuel : Nat} {v : Value} {y : DataW H × List MemPlace} (h : DataW.trod enc Try.prog w base spare held fuel t [v] = some y) :
    ∃ (A : Option Addr) (cap : Nat) (l : List α), v = .slice A l.length cap ∧ Row w w.heap.size A (l.flatMap f) ∧ (∀ a ∈ l, G a) ∧ (l.length : Int) ≤ 9223372036854775807 := by
  rcases open_slice ht h with ⟨hcs, _⟩ | ⟨a, len, cap, m, n, D, Pl, hcs, hb, hl, hm, hmm, _, hx⟩
  · simp at hcs
    subst hcs
    exact ⟨none, 0, [], rfl, Row.nil _ _ _, by simp, by simp⟩
  · simp at hcs
    subst hcs
    have hlm : len ≤ m := by rw [hmm]; split <;> omega
    obtain ⟨l, hll, hp⟩ := list_choose (α := α) (p := fun i x => w.cells? base (a.add (i * c)) c = some (f x) ∧ G x) len (fun i hi => by
      obtain ⟨cs', h1, h2⟩ := hx i (by omega)
      rw [hc] at h1
      obtain ⟨x, rfl, hg⟩ := hel _ _ _ h2
      exact ⟨x, h1, hg⟩)
    refine ⟨some a, cap, l, by rw [hll], row_of_cells ?_, fun x hx => ?_, by rw [hll]; unfold maxLen at hm; omega⟩
    · intro j u hu
      obtain ⟨i, x, k, h1, h2, rfl⟩ := flat_inv hf l j u hu
      obtain ⟨_, _, hcell⟩ := World.cells?_some (hp i x h1).1
      have hk : k < c := by rw [← hf x]; exact (List.getElem?_eq_some_iff.1 h2).1
      have := hcell k hk
      rw [Addr.add_add] at this
      rw [this]
      exact h2
    · obtain ⟨i, hi, e⟩ := List.getElem_of_mem hx
      exact (hp i x (by rw [List.getElem?_eq_getElem hi, e])).2

theorem plain_el {n : Nat} {t : TypeId} {ls : List Leaf} {cs : List Value} {x : DataW H × List MemPlace} (m : Nat) (hl : leaves Try.prog m t = some ls) (h : DataW.trod enc Try.prog w base spare held n t cs = some x) : Fits ls cs := (plain_open m t ls n cs x hl h).1
/-- A row of structs. -/
theorem row_openC {α : Type} {f : α → List Value} {G : α → Prop} {t e : TypeId} {c : Nat} (hf : ∀ x, (f x).length = c) (hc0 : 0 < c) (ht : Try.prog.underlying t = some (.slice e)) (hc : Try.prog.cellsOf e = c)
    (hel : ∀ n cs x, DataW.trod enc Try.prog w base spare held n e cs = some x → ∃ a : α, cs = f a ∧ G a) {fuel : Nat} {v : Value} {y : DataW H × List MemPlace} (h : DataW.trod enc Try.prog w base spare held fuel t [v] = some y) :
    ∃ (A : Option Addr) (cap : Nat) (l : List α), v = .slice A l.length cap ∧ Row w w.heap.size A (l.flatMap f) ∧ (∀ a ∈ l, G a) ∧ (l.length : Int) ≤ 9223372036854775807 ∧ l.length ≤ cap := by
  rcases open_slice ht h with ⟨hcs, _⟩ | ⟨a, len, cap, m, n, D, Pl, hcs, hb, hl, hm, hmm, _, hx⟩
  · simp at hcs
    subst hcs
    exact ⟨none, 0, [], rfl, Row.nil _ _ _, by simp, by simp, by simp⟩
  · simp at hcs
    subst hcs
    have hlm : len ≤ m := by rw [hmm]; split <;> omega
    obtain ⟨l, hll, hp⟩ := list_choose (α := α) (p := fun i x => w.cells? base (a.add (i * c)) c = some (f x) ∧ G x) len (fun i hi => by
      obtain ⟨cs', h1, h2⟩ := hx i (by omega)
      rw [hc] at h1
      obtain ⟨x, rfl, hg⟩ := hel _ _ _ h2
      exact ⟨x, h1, hg⟩)
    refine ⟨some a, cap, l, by rw [hll], row_of_cells ?_, fun x hx => ?_, by rw [hll]; unfold maxLen at hm; omega, by rw [hll]; exact hl⟩
    · intro j u hu
      obtain ⟨i, x, k, h1, h2, rfl⟩ := flat_inv hf l j u hu
      obtain ⟨_, _, hcell⟩ := World.cells?_some (hp i x h1).1
      have hk : k < c := by rw [← hf x]; exact (List.getElem?_eq_some_iff.1 h2).1
      have := hcell k hk
      rw [Addr.add_add] at this
      rw [this]
      exact h2
    · obtain ⟨i, hi, e⟩ := List.getElem_of_mem hx
      exact (hp i x (by rw [List.getElem?_eq_getElem hi, e])).2

end
end Go.Proofs.Ytljpiafopbfdlaa
namespace Go.Proofs.Ytljpiafopbfdlaa
open Go.RowKit Go.Shelf
set_option linter.unusedVariables false
set_option linter.unusedSimpArgs false

section
variable {P : World → Prop} {w : World}
set_option maxRecDepth 100000 in
set_option maxHeartbeats 8000000 in
theorem stepsR11_P (hP : Closed P) {a b : List (Int × Int × Int)} {A B : Option Addr} (ca cb : Nat) (hA : ∀ w, P w → Row w w.heap.size A (a.flatMap stpCells)) (hB : ∀ w, P w → Row w w.heap.size B (b.flatMap stpCells)) (hn : (a.length : Int) ≤ 9223372036854775807) {r : Bool} (hr : decide (a = b) = r) (h : P w) :
    Calls Try.prog 21 #[.slice A a.length ca, .slice B b.length cb] w fun e w' => e = .returned (.bool r) ∧ P w' := by
  have HR := Lib.hid hr
  have HQ := Lib.hid hP
  have HA0 := Lib.hid hA
  have HB0 := Lib.hid hB
  have hq := h
  clear hr hP hA hB h
  by_cases hlen : a.length = b.length
  · have HLe := Lib.hid hlen
    have hm : ∀ j, j < a.length → j < b.length := fun j hj => hlen ▸ hj
    rw [← hlen]
    clear hlen
    go_enter Try.func21, Try.ntmps21
    go_wp2_with fail
    go_loopw [5] (fun i wr => ∃ j : Nat, j ≤ a.length ∧ i = .int .i64 j ∧ P wr ∧ Hid (a.take j = b.take j)) (fun i _ => a.length - (intOf i).toNat)
    case atStart => exact ⟨0, by omega, rfl, hq, Lib.hid rfl⟩
    case round =>
      clear hq
      obtain ⟨j, hj, rfl, hq, HNo⟩ := hrel
      by_cases hlt : j < a.length
      · have hlt' : (j : Int) < a.length := by omega
        obtain ⟨⟨x1, x2, x3⟩, hx⟩ : ∃ x, a[j]? = some x := ⟨_, List.getElem?_eq_getElem hlt⟩
        obtain ⟨⟨y1, y2, y3⟩, hy⟩ : ∃ y, b[j]? = some y := ⟨_, List.getElem?_eq_getElem (hm j hlt)⟩
        obtain ⟨o1, o2, HA, HC0, HC⟩ := row_at (n := 3) (fun _ => rfl) (by omega) HA0.out hq hx
        obtain ⟨p1, p2, HB, HD0, HD⟩ := row_at (n := 3) (fun _ => rfl) (by omega) HB0.out hq hy
        have HX := Lib.hid hx
        have HY := Lib.hid hy
        clear hx hy
        obtain rfl := HA.out
        obtain rfl := HB.out
        clear HA HB
        obtain ⟨bb, hbb⟩ : ∃ z, decide ((x1, x2, x3) = (y1, y2, y3)) = z := ⟨_, rfl⟩
        have hneq := fun W => neq_stpD W x1 x2 x3 y1 y2 y3
        rw [hbb] at hneq
        cases bb
        · have HF : Hid (false = r) := Lib.hid (by rw [← HR.out]; exact (decide_eq_false (ne_of_at HX.out HY.out (of_decide_eq_false hbb))).symm)
          clear hbb
          go_wp2_with fail
          have HBS : Hid (∀ W, Below wr.heap.size wr W → P W) := Lib.hid (fun W hB => HQ.out _ _ hq hB)
          clear hq
          refine region_mix (Below wr.heap.size wr) [(0, false), (1, false), (2, false), (3, false), (4, false), (5, false), (6, false), (7, false), (8, false)] (by kernel_rfl) (by kernel_rfl) (Below wr.heap.size wr) ⟨Closed.below wr, fun _ h => h⟩ (Below.refl _ _).drew ?_
          simp only [pickOps, List.getElem?_cons_zero, List.getElem?_cons_succ]
          repeat (first | (refine mix_skip (by rfl) ?_; simp only [Act.put, List.setIfInBounds_toArray, List.set_cons_zero, List.set_cons_succ]) | (refine mix_read _ (by rfl) (fun W hW => by (have hW := HBS.out W hW; have c0 := HC0.out _ hW j _ _ HX.out rfl; have c1 := HC.out _ hW j _ 1 _ HX.out rfl; have c2 := HC.out _ hW j _ 2 _ HX.out rfl; have d0 := HD0.out _ hW j _ _ HY.out rfl; have d1 := HD.out _ hW j _ 1 _ HY.out rfl; have d2 := HD.out _ hW j _ 2 _ HY.out rfl; go_simp; first | done | with_reducible rfl)) ?_; simp only [Act.put, List.setIfInBounds_toArray, List.set_cons_zero, List.set_cons_succ]))
          refine mix_nil (fun W hW => ?_)
          have hq := HBS.out W hW
          clear hW HBS
          go_wp2_with fail
          go_ret
          exact ⟨ret_bool HF.out, hq⟩
        · have HN : Hid (a.take (j + 1) = b.take (j + 1)) := Lib.hid (take_next HNo.out HX.out (by rw [of_decide_eq_true hbb]; exact HY.out))
          clear hbb
          go_wp2_with fail
          have HBS : Hid (∀ W, Below wr.heap.size wr W → P W) := Lib.hid (fun W hB => HQ.out _ _ hq hB)
          clear hq
          refine region_mix (Below wr.heap.size wr) [(0, false), (1, false), (2, false), (3, false), (4, false), (5, false), (6, false), (7, false), (8, false)] (by kernel_rfl) (by kernel_rfl) (Below wr.heap.size wr) ⟨Closed.below wr, fun _ h => h⟩ (Below.refl _ _).drew ?_
          simp only [pickOps, List.getElem?_cons_zero, List.getElem?_cons_succ]
          repeat (first | (refine mix_skip (by rfl) ?_; simp only [Act.put, List.setIfInBounds_toArray, List.set_cons_zero, List.set_cons_succ]) | (refine mix_read _ (by rfl) (fun W hW => by (have hW := HBS.out W hW; have c0 := HC0.out _ hW j _ _ HX.out rfl; have c1 := HC.out _ hW j _ 1 _ HX.out rfl; have c2 := HC.out _ hW j _ 2 _ HX.out rfl; have d0 := HD0.out _ hW j _ _ HY.out rfl; have d1 := HD.out _ hW j _ 1 _ HY.out rfl; have d2 := HD.out _ hW j _ 2 _ HY.out rfl; go_simp; first | done | with_reducible rfl)) ?_; simp only [Act.put, List.setIfInBounds_toArray, List.set_cons_zero, List.set_cons_succ]))
          refine mix_nil (fun W hW => ?_)
          have hq := HBS.out W hW
          clear hW HBS
          go_wp2_with fail
          go_roundw
          case rel => exact ⟨j + 1, hlt, by go_num, hq, HN⟩
          case measure => simp [intOf]; omega
      · obtain rfl : j = a.length := by omega
        have HF : Hid (true = r) := Lib.hid (by rw [← HR.out]; exact (decide_eq_true (take_done HLe.out HNo.out)).symm)
        go_wp2_with fail
        go_ret
        exact ⟨ret_bool HF.out, hq⟩
  · have HF : Hid (false = r) := Lib.hid (by rw [← HR.out]; exact (decide_eq_false (fun e => hlen (by rw [e]))).symm)
    have hlen' : ((a.length : Int) != (b.length : Int)) = true := by rw [bne_iff_ne]; omega
    clear hlen
    go_enter Try.func21, Try.ntmps21
    go_wp2_with fail
    go_ret
    exact ⟨ret_bool HF.out, hq⟩
end

set_option maxRecDepth 100000 in
set_option maxHeartbeats 8000000 in
theorem same11_any {p q : Pth} {w : World} (hp : PLies p w) (hq : PLies q w) {r : Bool} (hr : sameP p q = r) : Calls Try.prog 38 #[p.val, q.val] w fun e w' => e = .returned (.bool r) ∧ Below w.heap.size w w' := by
  obtain ⟨Q, HQ, HQb, HQp, HQq, hw⟩ := keep_box2 (Closed.below w) (Below.refl _ w) 24 24 p.cells q.cells
  obtain ⟨d, hd⟩ : ∃ d, decide (p.ss = q.ss) = d := ⟨_, rfl⟩
  have KE := Lib.hid (fun W hW => equalStep_P (P := Q) (w := W) HQ.out p.c q.c (fun W hW => hp.row.on (HQb.out W hW)) (fun W hW => hq.row.on (HQb.out W hW)) hp.len hd hW)
  obtain ⟨b1, h1⟩ : ∃ b, (p.s == q.s) = b := ⟨_, rfl⟩
  obtain ⟨b2, h2⟩ : ∃ b, (p.x == q.x) = b := ⟨_, rfl⟩
  have HR : Hid ((b1 && (b2 && d)) = r) := Lib.hid (by rw [← hr, ← h1, ← h2, ← hd]; rfl)
  clear hr hd hp hq
  have m0 := HQp.out _ hw
  have x0 := m0.cell_at 0 rfl
  have x1 := m0.cell_at 1 rfl
  have x2 := m0.cell_at 2 rfl
  clear m0
  have m0 := HQq.out _ hw
  have y0 := m0.cell_at 0 rfl
  have y1 := m0.cell_at 1 rfl
  have y2 := m0.cell_at 2 rfl
  clear m0
  cases b1
  · go_enter Try.func38, Try.ntmps38
    go_wp2_with fail
    go_ret
    exact ⟨ret_bool HR.out, HQb.out _ hw⟩
  cases b2
  · go_enter Try.func38, Try.ntmps38
    go_wp2_with fail
    go_ret
    exact ⟨ret_bool HR.out, HQb.out _ hw⟩
  go_enter Try.func38, Try.ntmps38
  go_wp2_with fail
  refine (KE.out _ hw).mono ?_
  clear hw x0 x1 x2 y0 y1 y2 h1 h2
  rintro e w1 ⟨rfl, hw⟩
  go_wp2_with fail
  go_ret
  exact ⟨ret_bool (by rw [← HR.out]; rfl), HQb.out _ hw⟩

set_option maxRecDepth 100000 in
set_option maxHeartbeats 8000000 in
theorem sameR11_any {p q : Pth} {w : World} (hp : PLies p w) (hq : PLies q w) {r : Bool} (hr : sameP p q = r) : Calls Try.prog 20 #[p.val, q.val] w fun e w' => e = .returned (.bool r) ∧ Below w.heap.size w w' := by
  obtain ⟨Q, HQ, HQb, HQp, HQq, hw⟩ := keep_box2 (Closed.below w) (Below.refl _ w) 24 24 p.cells q.cells
  obtain ⟨d, hd⟩ : ∃ d, decide (p.ss = q.ss) = d := ⟨_, rfl⟩
  have KE := Lib.hid (fun W hW => stepsR11_P (P := Q) (w := W) HQ.out p.c q.c (fun W hW => hp.row.on (HQb.out W hW)) (fun W hW => hq.row.on (HQb.out W hW)) hp.len hd hW)
  obtain ⟨b1, h1⟩ : ∃ b, (p.s == q.s) = b := ⟨_, rfl⟩
  obtain ⟨b2, h2⟩ : ∃ b, (p.x == q.x) = b := ⟨_, rfl⟩
  have HR : Hid ((b1 && (b2 && d)) = r) := Lib.hid (by rw [← hr, ← h1, ← h2, ← hd]; rfl)
  clear hr hd hp hq
  have m0 := HQp.out _ hw
  have x0 := m0.cell_at 0 rfl
  have x1 := m0.cell_at 1 rfl
  have x2 := m0.cell_at 2 rfl
  clear m0
  have m0 := HQq.out _ hw
  have y0 := m0.cell_at 0 rfl
  have y1 := m0.cell_at 1 rfl
  have y2 := m0.cell_at 2 rfl
  clear m0
  cases b1
  · go_enter Try.func20, Try.ntmps20
    go_wp2_with fail
    go_ret
    exact ⟨ret_bool HR.out, HQb.out _ hw⟩
  cases b2
  · go_enter Try.func20, Try.ntmps20
    go_wp2_with fail
    go_ret
    exact ⟨ret_bool HR.out, HQb.out _ hw⟩
  go_enter Try.func20, Try.ntmps20
  go_wp2_with fail
  refine (KE.out _ hw).mono ?_
  clear hw x0 x1 x2 y0 y1 y2 h1 h2
  rintro e w1 ⟨rfl, hw⟩
  go_wp2_with fail
  go_ret
  exact ⟨ret_bool (by rw [← HR.out]; rfl), HQb.out _ hw⟩

set_option maxRecDepth 100000 in
set_option maxHeartbeats 8000000 in
theorem own11_any {p : Pth} {w : World} (hp : PLies p w) (hl : p.ss.length ≤ 1000) : Calls Try.prog 35 #[p.val] w fun e w' => ∃ A c, e = .returned (Pth.val ⟨p.s, p.x, A, c, p.ss⟩) ∧ PLies ⟨p.s, p.x, A, c, p.ss⟩ w' ∧ Below w.heap.size w w' := by
  obtain ⟨W0, hW0⟩ : ∃ W0, (w.alloc (.cells #[.int .i64 p.s, .int .i64 p.x, .slice p.A p.ss.length p.c] 24)).alloc (.cells #[.int .i64 0, .int .i64 0, .slice none 0 0] 24) = W0 := ⟨_, rfl⟩
  have hB0 : Below w.heap.size w W0 := by rw [← hW0]; exact below2 w _ _
  have hb0 : Whole W0 w.heap.size 24 p.cells := by rw [← hW0]; exact (Whole.new w _ p.cells).alloc _
  have hb1 : Whole W0 (w.heap.size + 1) 24 [.int .i64 0, .int .i64 0, .slice none 0 0] := by rw [← hW0]; exact Whole.new_at _ _ [_, _, _] _ (by simp)
  have KC := Lib.hid (cloneStep_any p.A p.c W0 (hp.row.on hB0) hl)
  have HB0 := Lib.hid (And.intro hB0 (And.intro hb0 hb1))
  have HLN := Lib.hid hp.len
  have x2 := hb0.cell_at 2 rfl
  have HW0 := Lib.hid hW0
  clear hW0 hB0 hb0 hb1 hp hl
  go_enter Try.func35, Try.ntmps35
  go_upto_region 1 with (fail)
  rw [HW0.out]
  go_wp2_with fail
  refine KC.out.mono ?_
  clear x2 KC
  rintro e w1 ⟨v, rfl, hown, hB1⟩
  obtain ⟨hB0, hb0, hb1⟩ := HB0.out
  have hs := hb1.lt
  have c0 := hb0.below hB1 hb0.lt
  have c1 := hb1.below hB1 hb1.lt
  have f2 := c0.frozen 2
  have x2 := c0.cell_at 2 rfl
  have c0' := c0.set 2 v
  have c1' := c1.far (p := ⟨w.heap.size, 2, none⟩) (by show w.heap.size + 1 ≠ w.heap.size; omega) v
  have y0 := c0'.cell_at 0 rfl
  have y1 := c0'.cell_at 1 rfl
  have y2 := c0'.cell_at 2 rfl
  have g0 := c1'.frozen 0
  have g1 := c1'.frozen 1
  have g2 := c1'.frozen 2
  have z0 := c1'.cell_at 0 rfl
  have z1 := c1'.cell_at 1 rfl
  have z2 := c1'.cell_at 2 rfl
  have HD := Lib.hid (((c1'.set 0 (.int .i64 p.s)).set 1 (.int .i64 p.x)).set 2 v)
  obtain ⟨A, c, hv, hr⟩ := owns_read hown
  have HBB := Lib.hid (((((hB0.trans (hB1.mono hB0.size)).setCell (p := ⟨w.heap.size, 2, none⟩) (Nat.le_refl _) v).setCell (p := ⟨w.heap.size + 1, 0, none⟩) (by show w.heap.size ≤ w.heap.size + 1; omega) (.int .i64 p.s)).setCell (p := ⟨w.heap.size + 1, 1, none⟩) (by show w.heap.size ≤ w.heap.size + 1; omega) (.int .i64 p.x)).setCell (p := ⟨w.heap.size + 1, 2, none⟩) (by show w.heap.size ≤ w.heap.size + 1; omega) v)
  have hs0 : W0.heap.size = w.heap.size + 2 := by rw [← HW0.out]; simp
  have HS := Lib.hid hs0
  have HO := Lib.hid hown
  clear hown hr c0 c1 c0' c1' hB0 hb0 hb1 hB1 hs hs0
  subst hv
  go_wp2_with fail
  have e0 := HD.out.cell_at 0 rfl
  have e1 := HD.out.cell_at 1 rfl
  have e2 := HD.out.cell_at 2 rfl
  have hfar : ∀ (W : World), W.ownsRow W0.heap.size 44 3 (.slice A p.ss.length c) p.ss.length (p.ss.flatMap stpCells) → ∀ (q : Addr) (u : Value), q.block < W0.heap.size → (W.setCell q u).ownsRow W0.heap.size 44 3 (.slice A p.ss.length c) p.ss.length (p.ss.flatMap stpCells) := fun W h q u hq => owns_set (B := 0) h hq u
  have hO := hfar _ (hfar _ (hfar _ (hfar _ HO.out ⟨w.heap.size, 2, none⟩ (.slice A p.ss.length c) (by show w.heap.size < _; rw [HS.out]; omega)) ⟨w.heap.size + 1, 0, none⟩ (.int .i64 p.s) (by show w.heap.size + 1 < _; rw [HS.out]; omega)) ⟨w.heap.size + 1, 1, none⟩ (.int .i64 p.x) (by show w.heap.size + 1 < _; rw [HS.out]; omega)) ⟨w.heap.size + 1, 2, none⟩ (.slice A p.ss.length c) (by show w.heap.size + 1 < _; rw [HS.out]; omega)
  refine bodyPost_ret (v := Pth.val ⟨p.s, p.x, A, c, p.ss⟩) ?_ rfl ⟨A, c, rfl, ⟨?_, HLN.out⟩, HBB.out⟩
  · simp [results, Try.f35, go_sem, e0, e1, e2]
  · exact owns_row2 hO

end Go.Proofs.Ytljpiafopbfdlaa
namespace Go.Proofs.Ytljpiafopbfdlaa
open Go.RowKit
set_option linter.unusedVariables false

section
variable {P : Program} {ops : Array Oper} {B S : World → Prop} {L : (World → Prop) → Act → Prop} {o : Oper} {l : List (Oper × Bool)} {a : Act}
/-- A store within a block. -/
theorem mix_within (t : TypeId) (x y : Operand) (g off : Nat) (vs : List Value) (S' : World → Prop) (hF' : Fam B S') (ho : o.op = .store t x y) (hx : a.eval x = .pointer (some ⟨g, off, none⟩)) (hy : a.eval y = .agg vs.toArray)
    (hi : (P.info? t).map (·.size) = some vs.length) (h1 : vs.all (·.oneCell') = true) (hw : Region.wanted o (yielded ops a.tmps) = true) (hth : ∀ w, S w → w.there g off vs.length) (hS' : ∀ w, S w → S' (w.setCells g off vs))
    (h : wpMix P ops (Fam B) L l S' (a.put o.dst undef)) : wpMix P ops (Fam B) L ((o, true) :: l) S a := by
  refine mix_store S' (fun w => w.setCells g off vs) hF' hw (fun w hS => ?_) hS' h
  have := run_storeAt_mid (P := P) w g off t vs.toArray (by simpa using hth w hS) (by simpa using hi) (by simpa using h1)
  unfold execOp
  simp only [ho, hx, hy, Sem.run_bind, this, Result.andThen_ok, Sem.run_pure]
end
end Go.Proofs.Ytljpiafopbfdlaa
