/- The table of shapes: what it holds when a call begins; the door's own heap meets it. Package port: shapes of kinds, how many ports and ways, a way's ends one by one. Package port: the small ones: where the track ends, within, whether a way joins, a step turned. Package port: Way. A way's ends, looked up: plain. Package port: May. Package port: Right. Rows of ints of the call's own: one number more; what such a row reads as. What the walks of layer 5's laws share: what they keep; the shape of a kind; both ways about. A row of structs, one of them: its cells. -/
import Derived.Test.YtljpiafopbfdlaaRows
import Derived.Test.YtljpiafopbfdlaaGen
import Derived.ProofKit
import Derived.LaidMore
import Derived.OpenShut
import Derived.Stop.Joined
import Derived.RangeFuncNested
import Derived.RangeFuncBound
import Derived.RangeFuncCalls
import Derived.RangeFuncLeaves
import Derived.RangeFuncBox
import Derived.Shelf.Abstract
import Derived.Shelf.RegionOpen
import Derived.WalkKit
import Derived.OwnWalkIn
import Derived.TacticsInMore
import Derived.LoopNIn
import Derived.LoopIn
import Derived.WalkMore
import Derived.Deep.RegionHeld3
namespace Go.Proofs.Ytljpiafopbfdlaa
open Go.ChangeShapes Go.WideShapes Go.ChangeAt Go.WideMaps Go.WideElems Go.RowKit
set_option linter.unusedVariables false

/-- The table's cells: of each kind its ports, its ways, their ends. -/
def shapeCells : List Value :=
  [.int .i64 0, .int .i64 0, .int .i64 0, .int .i64 0, .int .i64 0, .int .i64 0,
   .int .i64 2, .int .i64 1, .int .i64 0, .int .i64 1, .int .i64 0, .int .i64 0,
   .int .i64 3, .int .i64 2, .int .i64 0, .int .i64 1, .int .i64 0, .int .i64 2,
   .int .i64 4, .int .i64 2, .int .i64 0, .int .i64 1, .int .i64 2, .int .i64 3]
end Go.Proofs.Ytljpiafopbfdlaa
namespace Go.Proofs.Ytljpiafopbfdlaa
open Go.RowKit Go.Shelf
set_option linter.unusedVariables false
attribute [local go_sem] Oper.semAt_some

/-- A kind, how many ports and ways it has, their ends. -/
def IsShape (k p n a b c d : Int) : Prop :=
  (k = 1 ∧ p = 2 ∧ n = 1 ∧ a = 0 ∧ b = 1 ∧ c = 0 ∧ d = 0) ∨ (k = 2 ∧ p = 3 ∧ n = 2 ∧ a = 0 ∧ b = 1 ∧ c = 0 ∧ d = 2) ∨ (k = 3 ∧ p = 4 ∧ n = 2 ∧ a = 0 ∧ b = 1 ∧ c = 2 ∧ d = 3) ∨
  ((k < 1 ∨ 3 < k) ∧ p = 0 ∧ n = 0 ∧ a = 0 ∧ b = 0 ∧ c = 0 ∧ d = 0)
def shapeV (p n a b c d : Int) : Value := .agg #[.int .i64 p, .int .i64 n, .int .i64 a, .int .i64 b, .int .i64 c, .int .i64 d]

section
variable {P : World → Prop} {w : World} {k p n a b c d : Int}
end

/-- A way with its ends, for a round. -/
def encW (x : Int × Int × Int) : Array Value := #[.int .i64 x.1, .agg #[.int .i64 x.2.1, .int .i64 x.2.2]]
/-- The ways of a shape. -/
def waysL (n a b c d : Int) : List (Int × Int × Int) := [(0, a, b), (1, c, d)].take n.toNat
theorem isShape_n {k p n a b c d : Int} (h : IsShape k p n a b c d) : n = 0 ∨ n = 1 ∨ n = 2 := by unfold IsShape at h; omega

end Go.Proofs.Ytljpiafopbfdlaa
namespace Go.Proofs.Ytljpiafopbfdlaa
open Go.RowKit Go.Shelf
set_option linter.unusedVariables false
attribute [local go_sem] Oper.semAt_some

/-- Is n from 0 to t? -/
def withinV (n t : Int) : Bool := decide (0 ≤ n) && decide (n ≤ t)
section
variable {P : World → Prop} {w : World}
end

/-- Does a way of the ends a, b go from i to o? -/
def joinV (a b i o : Int) : Bool := (a == i && b == o) || (a == o && b == i)
/-- The way of a shape that goes from i to o: is there one, and which. -/
def goesV (n a b c d i o : Int) : Bool := (decide (1 ≤ n) && joinV a b i o) || (decide (2 ≤ n) && joinV c d i o)
def wayV (n a b c d i o : Int) : Int := if (decide (1 ≤ n) && joinV a b i o) = true then 0 else if (decide (2 ≤ n) && joinV c d i o) = true then 1 else 0
theorem wayV_none {n a b c d i o : Int} (h : goesV n a b c d i o = false) : wayV n a b c d i o = 0 := by
  unfold goesV at h
  rw [Bool.or_eq_false_iff] at h
  unfold wayV
  rw [h.1, h.2]
  rfl
/-- The same, looked up in a row of ways. -/
def findW (i o : Int) : List (Int × Int × Int) → Option Int
  | [] => none
  | x :: r => if joinV x.2.1 x.2.2 i o = true then some x.1 else findW i o r
theorem findW_snoc {i o : Int} : ∀ {l : List (Int × Int × Int)} {x : Int × Int × Int}, findW i o l = none → findW i o (l ++ [x]) = if joinV x.2.1 x.2.2 i o = true then some x.1 else none
  | [], x, _ => rfl
  | y :: l, x, h => by
    unfold findW at h
    rw [List.cons_append]
    unfold findW
    split at h
    · cases h
    · rename_i hy
      rw [if_neg hy]
      exact findW_snoc h
theorem findW_take {i o v : Int} : ∀ {l : List (Int × Int × Int)} {j : Nat}, findW i o (l.take j) = some v → findW i o l = some v
  | [], _, h => by simpa using h
  | x :: l, 0, h => by simp [findW] at h
  | x :: l, j + 1, h => by
    rw [List.take_succ_cons] at h
    unfold findW at h ⊢
    split
    · rename_i hx; rw [if_pos hx] at h; exact h
    · rename_i hx; rw [if_neg hx] at h; exact findW_take h
theorem findW_ways {n a b c d i o : Int} (hn : n = 0 ∨ n = 1 ∨ n = 2) : findW i o (waysL n a b c d) = if goesV n a b c d i o = true then some (wayV n a b c d i o) else none := by
  rcases hn with rfl | rfl | rfl
  · rfl
  · show findW i o [(0, a, b)] = _
    cases h : joinV a b i o <;> simp [findW, goesV, wayV, h]
  · show findW i o [(0, a, b), (1, c, d)] = _
    cases h : joinV a b i o <;> cases h' : joinV c d i o <;> simp [findW, goesV, wayV, h, h']
end Go.Proofs.Ytljpiafopbfdlaa
namespace Go.Proofs.Ytljpiafopbfdlaa
open Go.RowKit Go.Shelf
set_option linter.unusedVariables false
attribute [local go_sem] Oper.semAt_some

end Go.Proofs.Ytljpiafopbfdlaa
namespace Go.Proofs.Ytljpiafopbfdlaa
open Go.RowKit Go.Shelf
set_option linter.unusedVariables false
set_option linter.unusedSimpArgs false

/-- A way's ends, looked up in a row of ways. -/
def endsW (y : Int) : List (Int × Int × Int) → Option (Int × Int)
  | [] => none
  | x :: r => if (x.1 == y) = true then some x.2 else endsW y r
theorem endsW_snoc {y : Int} : ∀ {l : List (Int × Int × Int)} {x : Int × Int × Int}, endsW y l = none → endsW y (l ++ [x]) = if (x.1 == y) = true then some x.2 else none
  | [], x, _ => rfl
  | z :: l, x, h => by
    unfold endsW at h
    rw [List.cons_append]
    unfold endsW
    split at h
    · cases h
    · rename_i hy
      rw [if_neg hy]
      exact endsW_snoc h
theorem endsW_take {y : Int} {v : Int × Int} : ∀ {l : List (Int × Int × Int)} {j : Nat}, endsW y (l.take j) = some v → endsW y l = some v
  | [], _, h => by simpa using h
  | x :: l, 0, h => by simp [endsW] at h
  | x :: l, j + 1, h => by
    rw [List.take_succ_cons] at h
    unfold endsW at h ⊢
    split
    · rename_i hx; rw [if_pos hx] at h; exact h
    · rename_i hx; rw [if_neg hx] at h; exact endsW_take h
/-- What Ends tells of a shape. -/
def hasV (n y : Int) : Bool := decide (0 ≤ y) && decide (y < n)
def endA (n a c y : Int) : Int := if hasV n y = true then (if y = 0 then a else c) else 0
theorem endsW_ways {n a b c d y : Int} (hn : n = 0 ∨ n = 1 ∨ n = 2) : endsW y (waysL n a b c d) = if hasV n y = true then some (endA n a c y, endA n b d y) else none := by
  have e0 : (0 == y) = decide (y = 0) := by rw [Bool.eq_iff_iff, beq_iff_eq, decide_eq_true_eq]; omega
  have e1 : (1 == y) = decide (y = 1) := by rw [Bool.eq_iff_iff, beq_iff_eq, decide_eq_true_eq]; omega
  rcases hn with rfl | rfl | rfl
  · have : hasV 0 y = false := by unfold hasV; simp; try omega
    rw [this]; rfl
  · show endsW y [(0, a, b)] = _
    by_cases h : y = 0
    · subst h; rfl
    · have : hasV 1 y = false := by unfold hasV; simp; try omega
      rw [this]
      simp [endsW, e0, h]
  · show endsW y [(0, a, b), (1, c, d)] = _
    by_cases h : y = 0
    · subst h; rfl
    · by_cases h' : y = 1
      · subst h'; rfl
      · have : hasV 2 y = false := by unfold hasV; simp; try omega
        rw [this]
        simp [endsW, e0, e1, h, h']

end Go.Proofs.Ytljpiafopbfdlaa
namespace Go.Proofs.Ytljpiafopbfdlaa
open Go.RowKit Go.Shelf
set_option linter.unusedVariables false
set_option linter.unusedSimpArgs false

section
variable {P : World → Prop} {w : World}
end

/-- May this port be? -/
def mayV (s p : Int) : Bool := (s == -1 && p == 0) || (withinV s 23 && withinV p 3)

end Go.Proofs.Ytljpiafopbfdlaa
namespace Go.Proofs.Ytljpiafopbfdlaa
open Go.RowKit Go.Shelf
set_option linter.unusedVariables false
set_option linter.unusedSimpArgs false

/-- Is this join, or this class, as it may be: of a port, a way, that the kind has, or has not? -/
def joinOk (p : Int) (j : Nat) (s q : Int) : Bool := if (j : Int) < p then mayV s q else (s == -1 && q == 0)
def classOk (n : Int) (j : Nat) (c : Int) : Bool := if (j : Int) < n then withinV c 3 else c == 0
/-- May this section be? -/
def rightV (p n s0 q0 s1 q1 s2 q2 s3 q3 c0 c1 : Int) : Bool :=
  (p != 0) && (joinOk p 0 s0 q0 && joinOk p 1 s1 q1 && joinOk p 2 s2 q2 && joinOk p 3 s3 q3) && (classOk n 0 c0 && classOk n 1 c1)
abbrev secV (k s0 q0 s1 q1 s2 q2 s3 q3 c0 c1 : Int) : Value :=
  .agg #[.int .u8 k, .int .i64 s0, .int .i64 q0, .int .i64 s1, .int .i64 q1, .int .i64 s2, .int .i64 q2, .int .i64 s3, .int .i64 q3, .int .i64 c0, .int .i64 c1]

/-- Those of the first j joins, classes. -/
def allOk (p : Int) (js : Nat → Int × Int) : Nat → Bool
  | 0 => true
  | j + 1 => allOk p js j && joinOk p j (js j).1 (js j).2
def allCl (n : Int) (cl : Nat → Int) : Nat → Bool
  | 0 => true
  | j + 1 => allCl n cl j && classOk n j (cl j)
theorem allOk_no {p : Int} {js : Nat → Int × Int} {j : Nat} (h : joinOk p j (js j).1 (js j).2 = false) : ∀ m, j < m → allOk p js m = false
  | 0, hj => by omega
  | m + 1, hj => by
    unfold allOk
    by_cases e : j = m
    · subst e; rw [h, Bool.and_false]
    · rw [allOk_no h m (by omega)]; rfl
theorem allCl_no {n : Int} {cl : Nat → Int} {j : Nat} (h : classOk n j (cl j) = false) : ∀ m, j < m → allCl n cl m = false
  | 0, hj => by omega
  | m + 1, hj => by
    unfold allCl
    by_cases e : j = m
    · subst e; rw [h, Bool.and_false]
    · rw [allCl_no h m (by omega)]; rfl

theorem sh0 : IsShape 0 0 0 0 0 0 0 := by unfold IsShape; decide
theorem sh1 : IsShape 1 2 1 0 1 0 0 := by unfold IsShape; decide
theorem sh2 : IsShape 2 3 2 0 1 0 2 := by unfold IsShape; decide
theorem sh3 : IsShape 3 4 2 0 1 2 3 := by unfold IsShape; decide
theorem sh9 : IsShape 9 0 0 0 0 0 0 := by unfold IsShape; decide

theorem isShape_p {k p n a b c d : Int} (h : IsShape k p n a b c d) : 0 ≤ p ∧ p ≤ 4 := by unfold IsShape at h; omega
section
variable {P : World → Prop} {w : World}
end
end Go.Proofs.Ytljpiafopbfdlaa
namespace Go.Proofs.Ytljpiafopbfdlaa
open Go.RowKit
set_option linter.unusedVariables false

theorem ints_info : (Try.prog.info? 3).map (fun i => (i.zero, i.size, i.bytes)) = some (some (.int .i64 0), 1, 8) := by kernel_rfl
/-- What is owned is owned in whatever grows out of the world. -/
theorem ownsV_keep {w w' : World} {base e n : Nat} {v : Value} {xs : List Value} (h : w.ownsRow base e 1 v n xs) (hb : Below w.heap.size w w') : w'.ownsRow base e 1 v n xs := by
  refine ⟨h.1, ?_⟩
  rcases h.2 with h2 | ⟨g', cap', cur, hv, h3, h4, r⟩
  · exact .inl h2
  · exact .inr ⟨g', cap', cur, hv, h3, (hb.block g' (Array.getElem?_eq_some_iff.1 h4).1).trans h4, r⟩
/-- append(v, m), v a row of ints of the call's own, nil or not. -/
theorem append_int (base n : Nat) (v : Value) (xs : List Value) (m : Int) (w : World) (a : Nat) (hown : w.ownsRow base 3 1 v n xs) (hc : w.cell? ⟨a, 0, none⟩ = some (.int .i64 m)) (hn : n ≤ 1000) (hbase : base ≤ w.heap.size) :
    ∃ v' w', (Builtin.append_ #[32, 32] 32 #[v, .slice (some ⟨a, 0, none⟩) 1 1]).run Try.prog w = .ok v' w' ∧ w'.ownsRow base 3 1 v' (n + 1) (xs ++ [.int .i64 m]) ∧ w.grownBy w' v.ownBlock ∧ Below base w w' := by
  obtain ⟨i, i1, i2, i3, i4⟩ := info_parts ints_info
  obtain ⟨v', w', r1, r2, r3, r4, r5⟩ := run_append_own_at (P := Try.prog) w base 32 32 3 i (.int .i64 0) 1 8 Try.underlying32 i1 i2 i3 i4 rfl (by omega) v n xs hown ⟨a, 0, none⟩ 1 1 [.int .i64 m] rfl
    (by
      intro j u hu
      match j, hu with
      | 0, hu => simpa [Addr.add] using (by rw [hc]; exact hu)) (by simp [Value.oneCell']) (by unfold maxLen; omega) (by omega) hbase
  refine ⟨v', w', r1, r2, r3, (Below.refl base w).grown r3 hbase (fun k e => ?_)⟩
  exact (hown.lt k e).1
/-- What is owned, read as a slice. -/
theorem owns_slice {w : World} {base e n : Nat} {v : Value} {xs : List Value} (h : w.ownsRow base e 1 v n xs) : ∃ A c, v = .slice A n c ∧ Row w w.heap.size A xs ∧ n ≤ c := by
  rcases h.2 with ⟨rfl, rfl⟩ | ⟨g, cap, cur, rfl, hg, _, hn, _⟩
  · have : xs = [] := List.eq_nil_of_length_eq_zero (by have := h.1; omega)
    subst this
    exact ⟨none, 0, rfl, Row.nil _ _ _, Nat.le_refl _⟩
  · exact ⟨_, cap, rfl, owns_row h (owns_lt h).2, hn⟩
end Go.Proofs.Ytljpiafopbfdlaa
namespace Go.Proofs.Ytljpiafopbfdlaa
open Go.RowKit Go.Shelf
set_option linter.unusedVariables false

/-- A block that is known whole is kept besides. -/
theorem keep_whole {P : World → Prop} (hP : Closed P) {W0 : World} {g : Nat} {t : TypeId} {vs : List Value} (h : P W0) (hw : Whole W0 g t vs) :
    ∃ Q : World → Prop, Hid (Closed Q) ∧ Hid (∀ W, Q W → P W) ∧ Hid (∀ W, Q W → Whole W g t vs) ∧ Q W0 :=
  ⟨fun W => P W ∧ Whole W g t vs, Lib.hid (hP.and (Closed.whole g t vs)), Lib.hid (fun _ h => h.1), Lib.hid (fun _ h => h.2), h, hw⟩
theorem Row.num_at {w : World} {B b off : Nat} {k : IntKind} {zs : List Int} (h : Row w B (some ⟨b, off, none⟩) (nums k zs)) (j : Nat) {z : Int} (hj : zs[j]? = some z) : w.cell? ⟨b, off + j, none⟩ = some (.int k z) := by
  have hl := (List.getElem?_eq_some_iff.1 hj).1
  obtain ⟨b', off', e, _, hc⟩ := h.num hl
  cases e
  rw [hj] at hc
  exact hc
/-- A row is kept besides. -/
theorem keep_row {P : World → Prop} (hP : Closed P) {W0 : World} {A : Option Addr} {vs : List Value} (h : P W0) (hw : Row W0 W0.heap.size A vs) :
    ∃ Q : World → Prop, Hid (Closed Q) ∧ Hid (∀ W, Q W → P W) ∧ Hid (∀ W, Q W → Row W W.heap.size A vs) ∧ Q W0 :=
  ⟨fun W => P W ∧ Row W W.heap.size A vs, Lib.hid (hP.and (Closed.row A vs)), Lib.hid (fun _ h => h.1), Lib.hid (fun _ h => h.2), h, hw⟩
theorem joinV_comm (a b i o : Int) : joinV a b i o = joinV a b o i := by unfold joinV; exact Bool.or_comm _ _
theorem goesV_comm (n a b c d i o : Int) : goesV n a b c d i o = goesV n a b c d o i := by unfold goesV; rw [joinV_comm a b, joinV_comm c d]
theorem wayV_comm (n a b c d i o : Int) : wayV n a b c d i o = wayV n a b c d o i := by unfold wayV; rw [joinV_comm a b, joinV_comm c d]
theorem endA_no {n a c y : Int} (h : hasV n y = false) : endA n a c y = 0 := by unfold endA; rw [h]; rfl
theorem hasV_no {n y : Int} (h : y < 0 ∨ n ≤ y) : hasV n y = false := by unfold hasV; rw [Bool.and_eq_false_iff, decide_eq_false_iff_not, decide_eq_false_iff_not]; omega
theorem shape_of (k : Int) : ∃ p n a b c d, IsShape k p n a b c d := by
  by_cases h1 : k = 1
  · exact ⟨2, 1, 0, 1, 0, 0, .inl ⟨h1, rfl, rfl, rfl, rfl, rfl, rfl⟩⟩
  · by_cases h2 : k = 2
    · exact ⟨3, 2, 0, 1, 0, 2, .inr (.inl ⟨h2, rfl, rfl, rfl, rfl, rfl, rfl⟩)⟩
    · by_cases h3 : k = 3
      · exact ⟨4, 2, 0, 1, 2, 3, .inr (.inr (.inl ⟨h3, rfl, rfl, rfl, rfl, rfl, rfl⟩))⟩
      · exact ⟨0, 0, 0, 0, 0, 0, .inr (.inr (.inr ⟨by omega, rfl, rfl, rfl, rfl, rfl, rfl⟩))⟩
end Go.Proofs.Ytljpiafopbfdlaa
namespace Go.Proofs.Ytljpiafopbfdlaa
set_option linter.unusedVariables false

theorem flat_at {α : Type} (f : α → List Value) (n : Nat) (hf : ∀ x, (f x).length = n) : ∀ (l : List α) (i : Nat) (x : α) (k : Nat) (v : Value), l[i]? = some x → (f x)[k]? = some v → (l.flatMap f)[i * n + k]? = some v
  | [], i, x, k, v, h, _ => by simp at h
  | y :: l, 0, x, k, v, h, hk => by
    simp only [List.getElem?_cons_zero, Option.some.injEq] at h
    subst h
    rw [List.flatMap_cons, Nat.zero_mul, Nat.zero_add, List.getElem?_append_left (List.getElem?_eq_some_iff.1 hk).1]
    exact hk
  | y :: l, i + 1, x, k, v, h, hk => by
    have e : (i + 1) * n + k = (f y).length + (i * n + k) := by rw [hf, Nat.add_mul, Nat.one_mul]; omega
    rw [List.flatMap_cons, e, List.getElem?_append_right (Nat.le_add_right _ _), Nat.add_sub_cancel_left]
    exact flat_at f n hf l i x k v (by simpa using h) hk
/-- A row of structs, one of them: its cells. -/
theorem Row.nth {α : Type} {f : α → List Value} {n : Nat} (hf : ∀ x, (f x).length = n) (hn : 0 < n) {w : World} {B : Nat} {A : Option Addr} {l : List α} (h : Row w B A (l.flatMap f)) {i : Nat} {x : α} (hi : l[i]? = some x) :
    ∃ b off, A = some ⟨b, off, none⟩ ∧ b < B ∧ (∀ (j : Nat) (y : α) (v : Value), l[j]? = some y → (f y)[0]? = some v → w.cell? ⟨b, off + j * n, none⟩ = some v) ∧
      ∀ (j : Nat) (y : α) (k : Nat) (v : Value), l[j]? = some y → (f y)[k]? = some v → w.cell? ⟨b, off + j * n + k, none⟩ = some v := by
  have h0 : ∃ v, (f x)[0]? = some v := ⟨_, List.getElem?_eq_getElem (by rw [hf]; exact hn)⟩
  obtain ⟨v, hv⟩ := h0
  have hlt := (List.getElem?_eq_some_iff.1 (flat_at f n hf l i x 0 v hi hv)).1
  obtain ⟨b, off, e, hb, hc⟩ := h (by omega)
  have hc' : ∀ (j : Nat) (y : α) (k : Nat) (v : Value), l[j]? = some y → (f y)[k]? = some v → w.cell? ⟨b, off + j * n + k, none⟩ = some v := fun j y k v hj hk => by
    have := hc _ _ (flat_at f n hf l j y k v hj hk)
    rwa [← Nat.add_assoc] at this
  exact ⟨b, off, e, hb, fun j y v hj hk => hc' j y 0 v hj hk, hc'⟩

end Go.Proofs.Ytljpiafopbfdlaa
