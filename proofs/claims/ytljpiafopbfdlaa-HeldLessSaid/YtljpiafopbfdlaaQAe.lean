/- Package port: a step turned about, by the program and by the document. Package port: Pos, Outs. Package join: the end of a track, which ports there are, what lies beyond. What goes with a step, in numbers: its point, what it wants, its class, overlaps, what lies beyond, masks, what goes on. Masks of steps: of numbers, by package beyond, by the document's own answer. A step turned about; which bits a mask has (pure). -/
import Derived.Test.YtljpiafopbfdlaaQAa
import Derived.Test.YtljpiafopbfdlaaQAd
import Derived.Test.YtljpiafopbfdlaaQAb
namespace Go.Proofs.Ytljpiafopbfdlaa
open Go.RowKit Go.Shelf
set_option linter.unusedVariables false
set_option linter.unusedSimpArgs false

attribute [local go_sem] Oper.semAt_some
section
variable {P : World → Prop} {w : World}
end
end Go.Proofs.Ytljpiafopbfdlaa
namespace Go.Proofs.Ytljpiafopbfdlaa
open Go.RowKit Go.Shelf
set_option linter.unusedVariables false
set_option linter.unusedSimpArgs false

/-- A way's position. -/
def posV (k n a b c d i o : Int) : Int := if goesV n a b c d i o = true then (if k = 2 then wayV n a b c d i o else -1) else 0
/-- The ports below j to which a way goes. -/
def outsTo (n a b c d i : Int) : Nat → List Int
  | 0 => []
  | j + 1 => outsTo n a b c d i j ++ (if goesV n a b c d i j = true then [(j : Int)] else [])
theorem outsTo_le (n a b c d i : Int) : ∀ j, (outsTo n a b c d i j).length ≤ j
  | 0 => by simp [outsTo]
  | j + 1 => by
    have := outsTo_le n a b c d i j
    unfold outsTo
    rw [List.length_append]
    split <;> simp <;> omega

end Go.Proofs.Ytljpiafopbfdlaa
namespace Go.Proofs.Ytljpiafopbfdlaa
open Go.RowKit Go.Shelf
set_option linter.unusedVariables false
set_option linter.unusedSimpArgs false

theorem keep_boxV {P : World → Prop} (hP : Closed P) {w : World} (h : P w) (t : TypeId) (vs : List Value) :
    ∃ Q : World → Prop, Hid (Closed Q) ∧ Hid (∀ W, Q W → P W) ∧ Hid (∀ W, Q W → Whole W w.heap.size t vs) ∧ Q (w.alloc (.cells vs.toArray t)) :=
  ⟨fun W => P W ∧ Whole W w.heap.size t vs, Lib.hid (hP.and (Closed.whole _ t vs)), Lib.hid (fun _ h => h.1), Lib.hid (fun _ h => h.2), hP _ _ h (below1 w _), Whole.new w t vs⟩
/-- Is it a section's number? -/
def hasSec (l : Lay) (s : Int) : Bool := decide (0 ≤ s) && decide (s < (l.secs.length : Int))
/-- Does the track end there, or is that joined? -/
def joinedP (l : Lay) (s p : Int) : Bool := (((beyondV l s p).1 == -1) && ((beyondV l s p).2 == 0)) || (!((beyondV l s p).1 == s) && (((beyondV l (beyondV l s p).1 (beyondV l s p).2).1 == s) && ((beyondV l (beyondV l s p).1 (beyondV l s p).2).2 == p)))

section
variable {P : World → Prop} {w : World}
end
end Go.Proofs.Ytljpiafopbfdlaa
namespace Go.Proofs.Ytljpiafopbfdlaa
open Go.RowKit Go.Shelf
set_option linter.unusedVariables false
set_option linter.unusedSimpArgs false

def pointV (l : Lay) (s i o : Int) : Int × Int × Bool := if stepV l s i o = true ∧ kindV l s = 2 then (s, wayK 2 i o, true) else (0, 0, false)
/-- Its flanks, as far as j. -/
def isFlk (l : Lay) (s i o : Int) (f : Int × Int × Int × Int) : Bool := stepV l s i o && (decide (f.1 = s) && decide (f.2.1 = wayK (kindV l s) i o))
def flanksV (l : Lay) (s i o : Int) : List (Int × Int × Int × Int) := l.flanks.filter (isFlk l s i o)
/-- Needs: point, position, K. -/
abbrev needCells (n : Int × Int × Int) : List Value := [.int .i64 n.1, .int .i64 n.2.1, .int .i64 n.2.2]
def firstV (l : Lay) (s i o k : Int) : List (Int × Int × Int) := if (pointV l s i o).2.2 = true then [((pointV l s i o).1, (pointV l s i o).2.1, k)] else []
def wantsV (l : Lay) (s i o k : Int) : List (Int × Int × Int) := firstV l s i o k ++ (flanksV l s i o).map (fun f => (f.2.2.1, f.2.2.2, k))
def classV (l : Lay) (s i o : Int) : Int := if stepV l s i o = true then ((l.secs[s.toNat]?).map (fun y => if wayK (kindV l s) i o = 0 then y.c0 else y.c1)).getD 0 else 0
def overL10 (l : Lay) (x : Int) : List (Int × Int × Int) := if 0 ≤ x then ((l.exits[x.toNat]?).map Exm.over).getD [] else []
def nextV (l : Lay) (s i o : Int) : Int × Int := if stepV l s i o = true then beyondV l s o else (-1, 0)
def rearV (l : Lay) (x : Int) : Int × Int := if 0 ≤ x then ((l.sigs[x.toNat]?).map (fun p => beyondV l p.1 p.2)).getD (-1, 0) else (-1, 0)
def goesL (l : Lay) : Int × Int → List (Int × Int × Int) → Bool
  | _, [] => true
  | p, x :: r => stepV l x.1 x.2.1 x.2.2 && (decide (p = (x.1, x.2.1)) && goesL l (nextV l x.1 x.2.1 x.2.2) r)

theorem way_two (k i o : Int) : wayK k i o = 0 ∨ wayK k i o = 1 := by
  unfold wayK wayV
  split
  · exact .inl rfl
  · split
    · exact .inr rfl
    · exact .inl rfl
theorem step_some {l : Lay} {s i o : Int} (h : stepV l s i o = true) : ∃ (j : Nat) (y : Sec), s = j ∧ l.secs[j]? = some y ∧ kindV l s = y.k ∧ goesK y.k i o = true := by
  unfold stepV at h
  by_cases h0 : kindV l s = 0
  · rw [h0, goesK_no] at h; cases h
  · obtain ⟨j, y, e, hy, hk⟩ := kindV_some h0
    exact ⟨j, y, e, hy, hk, by rw [← hk]; exact h⟩
theorem pos_two {i o : Int} (h : goesK 2 i o = true) : posV 2 (nK 2) 0 (bK 2) (cK 2) (dK 2) i o = wayK 2 i o := by
  unfold posV
  rw [if_pos (show goesV (nK 2) 0 (bK 2) (cK 2) (dK 2) i o = true from h), if_pos rfl]
  rfl
theorem point_cases (l : Lay) (s i o : Int) : (stepV l s i o = false ∧ pointV l s i o = (0, 0, false)) ∨
    (∃ (j : Nat) (y : Sec), s = j ∧ l.secs[j]? = some y ∧ stepV l j i o = true ∧ ¬ y.k = 2 ∧ pointV l s i o = (0, 0, false)) ∨
    (∃ (j : Nat) (y : Sec), s = j ∧ l.secs[j]? = some y ∧ stepV l j i o = true ∧ y.k = 2 ∧ goesK 2 i o = true ∧ pointV l s i o = ((j : Int), wayK 2 i o, true)) := by
  unfold pointV
  cases h : stepV l s i o
  · exact .inl ⟨rfl, by simp⟩
  · obtain ⟨j, y, rfl, hy, hk, hg⟩ := step_some h
    by_cases h2 : y.k = 2
    · exact .inr (.inr ⟨j, y, rfl, hy, h, h2, by rw [← h2]; exact hg, by rw [hk, h2]; simp⟩)
    · exact .inr (.inl ⟨j, y, rfl, hy, h, h2, by rw [hk]; simp [h2]⟩)
theorem class_cases (l : Lay) (s i o : Int) : (stepV l s i o = false ∧ classV l s i o = 0) ∨
    (∃ (j : Nat) (y : Sec) (e : Nat), s = j ∧ l.secs[j]? = some y ∧ stepV l j i o = true ∧ wayK (kindV l j) i o = e ∧ e < 2 ∧ ([y.c0, y.c1] : List Int)[e]? = some (classV l s i o)) := by
  unfold classV
  cases h : stepV l s i o
  · exact .inl ⟨rfl, by simp⟩
  · obtain ⟨j, y, rfl, hy, hk, hg⟩ := step_some h
    right
    rcases way_two (kindV l j) i o with e | e
    · exact ⟨j, y, 0, rfl, hy, h, e, by omega, by rw [if_pos rfl, Int.toNat_natCast, hy, e]; rfl⟩
    · exact ⟨j, y, 1, rfl, hy, h, e, by omega, by rw [if_pos rfl, Int.toNat_natCast, hy, e]; rfl⟩
theorem at_cases_n {α : Type} (l : List α) (x : Int) : x < 0 ∨ (0 ≤ x ∧ (l.length : Int) ≤ x) ∨ ∃ (j : Nat) (y : α), x = j ∧ l[j]? = some y ∧ (j : Int) < l.length := by
  by_cases h0 : x < 0
  · exact .inl h0
  by_cases h1 : (l.length : Int) ≤ x
  · exact .inr (.inl ⟨by omega, h1⟩)
  obtain ⟨j, rfl⟩ : ∃ j : Nat, x = j := ⟨x.toNat, by omega⟩
  exact .inr (.inr ⟨j, l[j]'(by omega), rfl, List.getElem?_eq_getElem (by omega), by omega⟩)
theorem over_neg {l : Lay} {x : Int} (h : x < 0) : overL10 l x = [] := if_neg (by omega)
theorem over_far {l : Lay} {x : Int} (h0 : 0 ≤ x) (h : (l.exits.length : Int) ≤ x) : overL10 l x = [] := by unfold overL10; rw [if_pos h0, List.getElem?_eq_none (by omega)]; rfl
theorem over_at {l : Lay} {j : Nat} {y : Exm} (h : l.exits[j]? = some y) : overL10 l j = y.over := by unfold overL10; rw [if_pos (by omega), Int.toNat_natCast, h]; rfl
theorem rear_neg {l : Lay} {x : Int} (h : x < 0) : rearV l x = (-1, 0) := if_neg (by omega)
theorem rear_far {l : Lay} {x : Int} (h0 : 0 ≤ x) (h : (l.sigs.length : Int) ≤ x) : rearV l x = (-1, 0) := by unfold rearV; rw [if_pos h0, List.getElem?_eq_none (by omega)]; rfl
theorem rear_at {l : Lay} {j : Nat} {y : Int × Int} (h : l.sigs[j]? = some y) : rearV l j = beyondV l y.1 y.2 := by unfold rearV; rw [if_pos (by omega), Int.toNat_natCast, h]; rfl
end Go.Proofs.Ytljpiafopbfdlaa
namespace Go.Proofs.Ytljpiafopbfdlaa
open Go.RowKit Go.Shelf
set_option linter.unusedVariables false
set_option linter.unusedSimpArgs false

def maskBit (s : Int) : Nat := if 0 ≤ s ∧ s < 24 then 2 ^ s.toNat else 0
def maskN (l : List (Int × Int × Int)) : Nat := l.foldl (fun m x => m ||| maskBit x.1) 0
theorem maskBit_lt (s : Int) : maskBit s < 2 ^ 24 := by
  unfold maskBit
  split
  · exact Nat.pow_lt_pow_right (by omega) (by omega)
  · decide
theorem fold_or (l : List (Int × Int × Int)) : ∀ m : Nat, l.foldl (fun m x => m ||| maskBit x.1) m = m ||| maskN l := by
  induction l with
  | nil => intro m; simp [maskN]
  | cons x l ih =>
    intro m
    unfold maskN
    rw [List.foldl_cons, List.foldl_cons, ih, ih, Nat.or_assoc, Nat.zero_or]
theorem maskN_append (a b : List (Int × Int × Int)) : maskN (a ++ b) = maskN a ||| maskN b := by
  unfold maskN
  rw [List.foldl_append, fold_or]
  rfl
theorem maskN_one (x : Int × Int × Int) : maskN [x] = maskBit x.1 := by simp [maskN]
theorem maskN_next {l : List (Int × Int × Int)} {j : Nat} {x : Int × Int × Int} (h : l[j]? = some x) : maskN (l.take (j + 1)) = maskN (l.take j) ||| maskBit x.1 := by
  rw [List.take_add_one, h, Option.toList_some, maskN_append, maskN_one]
theorem maskN_lt (l : List (Int × Int × Int)) : maskN l < 2 ^ 24 := by
  induction l with
  | nil => decide
  | cons x l ih =>
    rw [show x :: l = [x] ++ l from rfl, maskN_append, maskN_one]
    exact Nat.or_lt_two_pow (maskBit_lt _) ih
theorem or_u32 {m n : Nat} (hm : m < 2 ^ 24) (hn : n < 2 ^ 24) : bits BinOp.or IntKind.u32 (m : Int) (n : Int) = ((m ||| n : Nat) : Int) := by
  have hmn : m ||| n < 2 ^ 24 := Nat.or_lt_two_pow hm hn
  show IntKind.u32.wrap ((BitVec.ofInt 32 (m : Int) ||| BitVec.ofInt 32 (n : Int)).toNat : Int) = _
  rw [BitVec.ofInt_natCast, BitVec.ofInt_natCast, BitVec.toNat_or, BitVec.toNat_ofNat, BitVec.toNat_ofNat, Nat.mod_eq_of_lt (by omega), Nat.mod_eq_of_lt (by omega)]
  show ((m ||| n : Nat) : Int) % 4294967296 = _
  omega
theorem bit_in {s : Int} (h0 : 0 ≤ s) (h1 : s < 24) : maskBit s = 2 ^ s.toNat := if_pos ⟨h0, h1⟩
theorem bit_out {s : Int} (h : ¬ (0 ≤ s ∧ s < 24)) : maskBit s = 0 := if_neg h

end Go.Proofs.Ytljpiafopbfdlaa
namespace Go.Proofs.Ytljpiafopbfdlaa
open Go.RowKit Go.Shelf
set_option linter.unusedVariables false
set_option linter.unusedSimpArgs false

theorem joinV_symm (a b i o : Int) : joinV a b i o = joinV a b o i := by unfold joinV; rw [Bool.or_comm]
theorem wayK_turned (k i o : Int) : wayK k i o = wayK k o i := by unfold wayK wayV; rw [joinV_symm, joinV_symm (cK k)]
theorem goesK_turned (k i o : Int) : goesK k i o = goesK k o i := by unfold goesK goesV; rw [joinV_symm, joinV_symm (cK k)]
theorem stepV_turned (l : Lay) (s i o : Int) : stepV l s i o = stepV l s o i := goesK_turned _ _ _
theorem point_turned (l : Lay) (s i o : Int) : pointV l s i o = pointV l s o i := by unfold pointV; rw [stepV_turned, wayK_turned]
theorem isFlk_turned (l : Lay) (s i o : Int) : isFlk l s i o = isFlk l s o i := funext fun f => by unfold isFlk; rw [stepV_turned, wayK_turned]
theorem wants_turned (l : Lay) (s i o k : Int) : wantsV l s i o k = wantsV l s o i k := by unfold wantsV firstV flanksV; rw [point_turned, isFlk_turned]
theorem class_turned (l : Lay) (s i o : Int) : classV l s i o = classV l s o i := by unfold classV; rw [stepV_turned, wayK_turned]
theorem maskBit_test (s : Int) (k : Nat) : (maskBit s).testBit k = (decide (k < 24) && decide (s = (k : Int))) := by
  unfold maskBit
  split
  · rename_i h
    rw [Nat.testBit_two_pow]
    by_cases hk : s = (k : Int)
    · rw [decide_eq_true (by omega), decide_eq_true (by omega), decide_eq_true hk]; rfl
    · rw [decide_eq_false (by omega), decide_eq_false hk, Bool.and_false]
  · rename_i h
    rw [Nat.zero_testBit]
    by_cases hk : s = (k : Int)
    · rw [decide_eq_false (by omega)]; rfl
    · rw [decide_eq_false hk, Bool.and_false]
theorem maskN_test {l : List (Int × Int × Int)} {k : Nat} (hk : k < 24) : (maskN l).testBit k = l.any (fun x => x.1 == (k : Int)) := by
  induction l with
  | nil => simp [maskN]
  | cons x l ih =>
    rw [show x :: l = [x] ++ l from rfl, maskN_append, maskN_one, Nat.testBit_or, ih, maskBit_test, decide_eq_true hk, Bool.true_and, List.any_append]
    simp
    rfl
theorem and_one {m k : Nat} (hm : m < 2 ^ 24) : bits BinOp.and IntKind.u32 ((m / 2 ^ k : Nat) : Int) 1 = if m.testBit k = true then 1 else 0 := by
  have hd : m / 2 ^ k < 2 ^ 24 := Nat.lt_of_le_of_lt (Nat.div_le_self _ _) hm
  show IntKind.u32.wrap ((BitVec.ofInt 32 ((m / 2 ^ k : Nat) : Int) &&& 1#32).toNat : Int) = _
  rw [BitVec.ofInt_natCast, BitVec.toNat_and, BitVec.toNat_ofNat, Nat.mod_eq_of_lt (by omega)]
  have h1 : (m / 2 ^ k) &&& (1#32).toNat = (m / 2 ^ k) % 2 := by show _ &&& 1 = _; rw [Nat.and_one_is_mod]
  rw [h1, Nat.testBit_eq_decide_div_mod_eq]
  have h2 := Nat.mod_lt (m / 2 ^ k) (show 0 < 2 by omega)
  show (((m / 2 ^ k % 2 : Nat) : Int)) % 4294967296 = _
  by_cases h3 : m / 2 ^ k % 2 = 1
  · rw [h3]; simp
  · have : m / 2 ^ k % 2 = 0 := by omega
    rw [this]; simp
end Go.Proofs.Ytljpiafopbfdlaa
