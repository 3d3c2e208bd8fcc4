/- What is read of plain data by value (numbers and bools, arrays and structs of such, however they lie in one another): its cells, each of its kind. -/
import Derived.Test.YtbalcbnlpgekaaaDoorChecked
import Derived.OpenShut
import Derived.ChangeArms
import Derived.DataReads
import Derived.WideShapes
import Derived.ProofKit
namespace Go.Proofs.YtbalcbnlpgekaaaDoor
open Go.ChangeShapes Go.WideShapes
set_option linter.unusedVariables false

/-- What one cell is: a number of a kind, or a bool. -/
inductive Leaf where
  | num (k : IntKind)
  | yes
def Leaf.is : Leaf → Value → Prop
  | .num k, v => ∃ n, v = .int k n ∧ (Lit.int k n).wf = true
  | .yes, v => ∃ b, v = .bool b

/-- Cells, each of its kind. -/
def Fits : List Leaf → List Value → Prop
  | [], [] => True
  | l :: ls, v :: vs => l.is v ∧ Fits ls vs
  | _, _ => False
theorem Fits.append : ∀ {a : List Leaf} {b : List Value} {c : List Leaf} {d : List Value}, Fits a b → Fits c d → Fits (a ++ c) (b ++ d)
  | [], [], _, _, _, h => h
  | _ :: _, _ :: _, _, _, ⟨h1, h2⟩, h => ⟨h1, Fits.append h2 h⟩
theorem Fits.length : ∀ {a : List Leaf} {b : List Value}, Fits a b → b.length = a.length
  | [], [], _ => rfl
  | _ :: _, _ :: _, ⟨_, h⟩ => by simp [Fits.length h]

mutual
/-- The cells of a datum that is plain. -/
def flat {H : Type} : DataW H → List Value
  | .lit (.int k n) => [.int k n]
  | .lit (.bool b) => [.bool b]
  | .agg ds => flatAll ds
  | _ => []
def flatAll {H : Type} : List (DataW H) → List Value
  | [] => []
  | d :: ds => flat d ++ flatAll ds
end

/-- Do the fields lie one behind the other, from cell o on? -/
def sideBySide (P : Program) : List Field → List (List Leaf) → Nat → Bool
  | [], [], _ => true
  | f :: fs, l :: ls, o => f.offset == o && P.cellsOf f.type == l.length && sideBySide P fs ls (o + l.length)
  | _, _, _ => false
/-- The kinds of a type's cells, where it is plain. -/
def leaves (P : Program) : Nat → TypeId → Option (List Leaf)
  | 0, _ => none
  | n + 1, t =>
    match P.underlying t with
    | some (.int k) => some [.num k]
    | some .bool => some [.yes]
    | some (.array m e) =>
      match leaves P n e with
      | some l => if P.cellsOf e == l.length && P.cellsOf t == m * l.length then some (List.replicate m l).flatten else none
      | none => none
    | some (.struct fs) =>
      match fs.toList.mapM (fun f => leaves P n f.type) with
      | some segs => if sideBySide P fs.toList segs 0 && P.cellsOf t == (segs.map List.length).sum then some segs.flatten else none
      | none => none
    | _ => none

theorem sideBySide_at {P : Program} : ∀ {fs : List Field} {segs : List (List Leaf)} {o : Nat}, sideBySide P fs segs o = true → fs.length = segs.length ∧
    ∀ (i : Nat) (f : Field) (l : List Leaf), fs[i]? = some f → segs[i]? = some l → f.offset = o + ((segs.take i).map List.length).sum ∧ P.cellsOf f.type = l.length
  | [], [], _, _ => ⟨rfl, fun i f l h _ => by simp at h⟩
  | f :: fs, l :: ls, o, h => by
    simp only [sideBySide, Bool.and_eq_true, beq_iff_eq] at h
    obtain ⟨⟨h1, h2⟩, h3⟩ := h
    obtain ⟨h4, h5⟩ := sideBySide_at h3
    refine ⟨by simp [h4], fun i g m hg hm => ?_⟩
    cases i with
    | zero => simp at hg hm; subst hg; subst hm; exact ⟨by simp [h1], h2⟩
    | succ i =>
      obtain ⟨h6, h7⟩ := h5 i g m (by simpa using hg) (by simpa using hm)
      exact ⟨by rw [List.take_succ_cons, List.map_cons, List.sum_cons]; omega, h7⟩

section
variable {H : Type} {enc : TypeId × Value → H} {P : Program} {w : World} {base : Nat} {spare : Nat → Bool} {held : Bool}

theorem open_parts : ∀ (segs : List (List Leaf)) (cs : List Value) (ys : List (DataW H × List MemPlace)) (off : Nat → Nat), cs.length = (segs.map List.length).sum → ys.length = segs.length →
    (∀ i, i < segs.length → off i = ((segs.take i).map List.length).sum) →
    (∀ i l y, segs[i]? = some l → ys[i]? = some y → Fits l ((cs.drop (off i)).take l.length) ∧ (cs.drop (off i)).take l.length = flat y.1) →
    Fits segs.flatten cs ∧ cs = flatAll (ys.map (·.1))
  | [], cs, ys, off, hl, hy, ho, h => by
    have h1 : cs = [] := List.eq_nil_of_length_eq_zero (by simpa using hl)
    have h2 : ys = [] := List.eq_nil_of_length_eq_zero (by simpa using hy)
    subst h1; subst h2
    exact ⟨trivial, rfl⟩
  | l :: segs, cs, y :: ys, off, hl, hy, ho, h => by
    have h0 := h 0 l y rfl rfl
    rw [ho 0 (by simp)] at h0
    simp only [List.take_zero, List.map_nil, List.sum_nil, List.drop_zero] at h0
    simp only [List.map_cons, List.sum_cons] at hl
    have hr := open_parts segs (cs.drop l.length) ys (fun i => off (i + 1) - l.length) (by simp; omega) (by simpa using hy) (fun i hi => by
      have := ho (i + 1) (by simpa using hi)
      rw [List.take_succ_cons, List.map_cons, List.sum_cons] at this
      show off (i + 1) - l.length = _
      omega) (fun i m z hm hz => by
      have := h (i + 1) m z (by simpa using hm) (by simpa using hz)
      have hi : i < segs.length := (List.getElem?_eq_some_iff.1 hm).1
      have ho' := ho (i + 1) (by simpa using hi)
      simp only [List.take_succ_cons, List.map_cons, List.sum_cons] at ho'
      rw [List.drop_drop]
      have e : l.length + (off (i + 1) - l.length) = off (i + 1) := by omega
      rw [e]
      exact this)
    refine ⟨?_, ?_⟩
    · have := h0.1.append hr.1
      rw [List.take_append_drop] at this
      exact this
    · simp only [List.map_cons, flatAll]
      rw [← h0.2, ← hr.2, List.take_append_drop]
  | l :: segs, cs, [], off, hl, hy, ho, h => by simp at hy

theorem plain_open : ∀ (n : Nat) (t : TypeId) (ls : List Leaf) (fuel : Nat) (cs : List Value) (x : DataW H × List MemPlace), leaves P n t = some ls → DataW.trod enc P w base spare held fuel t cs = some x → Fits ls cs ∧ cs = flat x.1
  | 0, _, _, _, _, _, h, _ => by simp [leaves] at h
  | n + 1, t, ls, fuel, cs, x, h, hx => by
    unfold leaves at h
    split at h
    · rename_i k ht
      obtain ⟨m, rfl, rfl, hw⟩ := DataW.trod_int ht hx
      cases h
      exact ⟨⟨⟨m, rfl, hw⟩, trivial⟩, rfl⟩
    · rename_i ht
      obtain ⟨b, rfl, rfl⟩ := DataW.trod_bool ht hx
      cases h
      exact ⟨⟨⟨b, rfl⟩, trivial⟩, rfl⟩
    · rename_i m e ht
      split at h
      · rename_i l hl
        split at h
        · rename_i hc
          simp only [Bool.and_eq_true, beq_iff_eq] at hc
          cases h
          obtain ⟨xs, fu, _, rfl, hlen, hxs, hel⟩ := DataW.trod_array ht hx
          refine open_parts (List.replicate m l) cs xs (fun i => i * l.length) ?_ (by simpa using hxs) (fun i hi => ?_) (fun i l' y hl' hy => ?_)
          · rw [hlen, hc.2]; simp
          · simp at hi
            simp [List.take_replicate, Nat.min_eq_left (Nat.le_of_lt hi)]
          · have hi : i < m := by have := (List.getElem?_eq_some_iff.1 hl').1; simpa using this
            simp [hi] at hl'
            subst hl'
            have := hel i hi
            rw [hc.1] at this
            exact plain_open n e l fu _ y hl (this.trans hy)
        · cases h
      · cases h
    · rename_i fs ht
      split at h
      · rename_i segs hsegs
        split at h
        · rename_i hc
          simp only [Bool.and_eq_true, beq_iff_eq] at hc
          cases h
          obtain ⟨xs, fu, _, rfl, hlen, hxs, hel⟩ := DataW.trod_struct ht hx
          obtain ⟨h1, h2⟩ := sideBySide_at hc.1
          have hsl : segs.length = fs.size := by rw [← h1]; simp
          refine open_parts segs cs xs (fun i => ((segs.take i).map List.length).sum) ?_ (by omega) (fun i hi => rfl) (fun i l y hl hy => ?_)
          · rw [hlen, hc.2]
          · have hi : i < fs.toList.length := by have := (List.getElem?_eq_some_iff.1 hl).1; omega
            have hf : fs.toList[i]? = some fs.toList[i] := List.getElem?_eq_getElem hi
            obtain ⟨h3, h4⟩ := h2 i _ l hf hl
            have hle := (mapM_some_get hsegs i _ hf).trans hl
            have := hel i _ (by rw [← Array.getElem?_toList]; exact hf)
            rw [h3, h4, Nat.zero_add] at this
            exact plain_open n _ l fu _ y hle (this.trans hy)
        · cases h
      · cases h
    · cases h

/-- A struct that came in, by value: its cells. -/
theorem open_plain {r : Reach} {b0 : Nat} {t : TypeId} {fs : Array Field} {v : Value} {d : DataW H} {p : List MemPlace} (n : Nat) (ls : List Leaf) (hs : P.underlying t = some (.struct fs)) (hl : leaves P n t = some ls)
    (hv : Value.okWide P w r b0 t v) (h : DataW.Trod enc P w base spare held t v d p) : ∃ cs : List Value, v = .agg cs.toArray ∧ Fits ls cs := by
  obtain ⟨cs, rfl, _⟩ := okWide_struct hs hv
  obtain ⟨fuel, hf⟩ := h
  exact ⟨cs.toList, by simp, (plain_open n t ls fuel _ _ hl hf).1⟩

/-- What a variable holds that lies as a plain datum: its cells. -/
theorem laid_plain {fuel n : Nat} {t : TypeId} {ls : List Leaf} {cs : List Value} {x : DataW H × List MemPlace} (hl : leaves P n t = some ls) (h : DataW.trod enc P w base spare held fuel t cs = some x) : cs = flat x.1 :=
  (plain_open n t ls fuel cs x hl h).2
end
end Go.Proofs.YtbalcbnlpgekaaaDoor
