/- A region that draws its order: the first n operations steadily; what follows in whatever order it may come. -/
import Derived.Test.YtbalcbnlpgekaaaDoorSteady2
namespace Go.Proofs.YtbalcbnlpgekaaaDoor
open Go.RowKit
set_option linter.unusedVariables false
section
variable {P : Program} {md : Region.Mode} {ops : Array Oper} {S : World → Prop}

/-- Each from n on waits for n - 1, or for one from n on. -/
def lateB (md : Region.Mode) (ops : Array Oper) (n : Nat) : Bool :=
  Region.sinkB md ops (n - 1) && (List.range ops.size).all fun t => decide (t < n) || (List.range t).any fun s => decide (n ≤ s + 1) && Region.waitsFor md ops t s
theorem late_waits {n : Nat} {listed : Array Bool} (h1 : 1 ≤ n) (hn : n < ops.size) (h : lateB md ops n = true) (inv : HeadInv md ops n listed) {i : Nat} (hi : i < n) (hun : listed.getD i true = false) : ∀ t, n ≤ t → t ∉ Region.ready md ops listed := by
  unfold lateB at h
  rw [Bool.and_eq_true] at h
  obtain ⟨hs, hc⟩ := h
  have hup : ∀ (d i : Nat), (n - 1) - i = d → i < n → listed.getD i true = false → listed.getD (n - 1) true = false := by
    intro d
    induction d using Nat.strongRecOn with
    | _ d ih =>
      intro i hd hi hun
      by_cases he : i = n - 1
      · rw [← he]; exact hun
      · have h1 := List.all_eq_true.1 hs i (List.mem_range.2 (by omega))
        obtain ⟨j, hj, hj2⟩ := List.any_eq_true.1 h1
        simp only [Bool.and_eq_true, decide_eq_true_eq] at hj2
        obtain ⟨oj, hoj, e, he, hb, hon⟩ := Region.waitsFor_spec hj2.2
        have hjle : j ≤ n - 1 := by have := List.mem_range.1 hj; omega
        cases hl : listed.getD j false with
        | true =>
          have h2 := inv.closed j oj hoj hl e he hb
          rw [hon, getD_both hun] at h2
          cases h2
        | false => exact ih ((n - 1) - j) (by omega) j rfl (by omega) (getD_in (by rw [inv.size]; omega) hl)
  have hlast := hup _ i rfl hi hun
  intro t ht hr
  obtain ⟨_, ot, hot, hall⟩ := mem_ready.1 hr
  have htlt : t < ops.size := (Array.getElem?_eq_some_iff.1 hot).1
  have h1 := List.all_eq_true.1 hc t (List.mem_range.2 htlt)
  simp only [Bool.or_eq_true, decide_eq_true_eq] at h1
  rcases h1 with h1 | h1
  · omega
  · obtain ⟨s, hs1, hs2⟩ := List.any_eq_true.1 h1
    simp only [Bool.and_eq_true, decide_eq_true_eq] at hs2
    obtain ⟨o', ho', e, he, hb, hon⟩ := Region.waitsFor_spec hs2.2
    have : o' = ot := Option.some.inj (ho'.symm.trans hot)
    subst this
    have h2 := hall e he hb
    rw [hon] at h2
    have hslt := List.mem_range.1 hs1
    by_cases hsn : s = n - 1
    · subst hsn
      rw [getD_both hlast] at h2
      cases h2
    · rw [getD_both (inv.tail s (by omega) (by omega))] at h2
      cases h2

theorem allS_first2 {n i : Nat} {oi : Oper} {v : Value} {L : Array Bool → Act → Prop} (hi : ops[i]? = some oi) (hsel : ∀ (j : Nat) (o : Oper) cs b, ops[j]? = some o → o.op ≠ .select cs b)
    (h1n : 1 ≤ n) (hn : n < ops.size) (hlate : lateB md ops n = true) (hin : i < n)
    (hdone : ∀ listed a, L listed a → ∀ j ∈ Region.ready md ops listed, n ≤ j) :
    ∀ (f : Nat) (listed : Array Bool) (a : Act), HeadInv md ops n listed →
      (∀ j oj, ops[j]? = some oj → j ≠ i → listed.getD j true = false → (∀ e ∈ oj.after, Region.binds md e = true → e.on ≠ i) → oi.apart ops oj = true) →
      i ∈ Region.ready md ops listed → SteadyAt P ops S oi v a →
      allS P md ops S n L f (listed.setIfInBounds i true) (a.put oi.dst v) → allS P md ops S n L (f + 1) listed a := by
  intro f
  induction f with
  | zero =>
    intro listed a inv _ hr hy H
    have hun := (mem_ready.1 hr).1
    refine ⟨fun h => (by rw [h] at hr; cases hr), fun j hj => ?_⟩
    have hjn : j < n := Nat.lt_of_not_le fun h => late_waits h1n hn hlate inv hin hun j h hj
    refine ⟨hjn, ?_⟩
    by_cases hji : j = i
    · subst hji; unfold stOpS; simp only [hi]; exact ⟨v, hy, H⟩
    · have := hdone _ _ H j (ready_mono hj hji)
      omega
  | succ f ih =>
    intro listed a inv hfree hr hy H
    have hun := (mem_ready.1 hr).1
    refine ⟨fun h => (by rw [h] at hr; cases hr), fun j hj => ?_⟩
    have hjn : j < n := Nat.lt_of_not_le fun h => late_waits h1n hn hlate inv hin hun j h hj
    refine ⟨hjn, ?_⟩
    by_cases hji : j = i
    · subst hji; unfold stOpS; simp only [hi]; exact ⟨v, hy, H⟩
    · have h1 := (H.2 j (ready_mono hj hji)).2
      obtain ⟨hjun, oj, hoj, hall⟩ := mem_ready.1 hj
      have hnot : ∀ e ∈ oj.after, Region.binds md e = true → e.on ≠ i := fun e he hb heq => by
        have h1 := hall e he hb
        rw [heq, getD_both hun] at h1
        cases h1
      have h2 := stOpS_put hoj (hfree j oj hoj hji hjun hnot) (fun cs b => hsel i oi cs b hi) (fun cs b => hsel j oj cs b hoj) hy h1
      refine stOpS_mono (fun a' h3 => ih (listed.setIfInBounds j true) a' (inv.set hj hjn) (fun k ok hk hki hun' hno => hfree k ok hk hki ?_ hno) (ready_mono hr (Ne.symm hji)) h3.1 ?_) h2
      · by_cases hjk : j = k
        · subst hjk; exact hjun
        · rw [getD_set_ne true hjk] at hun'; exact hun'
      · rw [Array.setIfInBounds_comm _ _ hji]
        exact h3.2

/-- From number k on f of them, one behind the other; then just X are listed. -/
def lexTo (md : Region.Mode) (ops : Array Oper) (X : Array Bool) : Nat → Nat → Array Bool → Bool
  | 0, _, listed => decide (listed = X)
  | f + 1, k, listed => (Region.ready md ops listed).contains k && Region.free md ops listed k && lexTo md ops X f (k + 1) (listed.setIfInBounds k true)
/-- The first n of m. -/
def firstN (m n : Nat) : Array Bool := ((List.range m).map fun i => decide (i < n)).toArray

theorem allS_lex2 {n : Nat} {X : Array Bool} {Lq : Act → Prop} (hsel : Region.noSelect ops = true) (h1n : 1 ≤ n) (hn : n < ops.size) (hlate : lateB md ops n = true) (hX : ∀ j ∈ Region.ready md ops X, n ≤ j) :
    ∀ (l : List Oper) (k : Nat) (listed : Array Bool) (a : Act), (∀ j, j < l.length → l[j]? = ops[k + j]?) → k + l.length = n → HeadInv md ops n listed →
    lexTo md ops X l.length k listed = true → wpSteady P ops S Lq l a → allS P md ops S n (fun listed' a' => listed' = X ∧ Lq a') l.length listed a
  | [], k, listed, a, _, hk, _, hB, h => ⟨by simpa [lexTo] using hB, h⟩
  | o :: l, k, listed, a, hl, hk, inv, hB, h => by
    have h0 : ops[k]? = some o := by simpa using (hl 0 (by simp)).symm
    simp only [List.length_cons, lexTo, Bool.and_eq_true] at hB
    obtain ⟨⟨hr, hf⟩, hB'⟩ := hB
    have hkn : k < n := by simp only [List.length_cons] at hk; omega
    have hr' : k ∈ Region.ready md ops listed := by simpa using hr
    obtain ⟨v, hy, hK⟩ := h
    exact allS_first2 h0 (Region.noSelect_spec hsel) h1n hn hlate hkn (fun listed' a' hL => by rw [hL.1]; exact hX) l.length listed a inv (Region.free_spec h0 hf) hr' hy
      (allS_lex2 hsel h1n hn hlate hX l (k + 1) _ _ (fun j hj => by have := hl (j + 1) (by simp; omega); simpa [Nat.add_assoc, Nat.add_comm 1 j] using this) (by simp only [List.length_cons] at hk; omega) (inv.set hr' hkn) hB' hK)

def partB (ops : Array Oper) (n : Nat) : Bool :=
  Region.noSelect ops && (decide (1 ≤ n) && (decide (n < ops.size) && (lateB .any ops n && (((Region.ready .any ops (firstN ops.size n)).all fun j => decide (n ≤ j)) && lexTo .any ops (firstN ops.size n) n 0 (Array.replicate ops.size false)))))

/-- The first n steadily; then g more, in the held form. -/
theorem region_part {id : Nat} {Q : Exit → Act → World → Prop} {a : Act} {w : World} {l : List Oper} (S T : World → Prop) (n g : Nat) (hm : P.follows .mixedOrders = true) (hg : n + g = l.length) (hB : partB l.toArray n = true) (hS : S w.drew)
    (h : wpSteady P l.toArray S (fun a' => ∀ w', S w' → wpAnyH P .any l.toArray Q T g (firstN l.toArray.size n) a' w') (l.take n) a) : (Code.region id l.toArray true).wp P Q a w := by
  unfold partB at hB
  simp only [Bool.and_eq_true, decide_eq_true_eq] at hB
  obtain ⟨hsel, h1, hn, hlate, hX, hlex⟩ := hB
  have hX' : ∀ j ∈ Region.ready .any l.toArray (firstN l.toArray.size n), n ≤ j := fun j hj => by simpa using List.all_eq_true.1 hX j hj
  have hn' : n < l.length := by simpa using hn
  have htl : (l.take n).length = n := by simp; omega
  have inv0 : HeadInv .any l.toArray n (Array.replicate l.toArray.size false) :=
    ⟨by simp, fun j oj _ hl => (by rw [getD_replicate_false] at hl; cases hl), fun t _ ht => getD_in (by simpa using ht) (getD_replicate_false _ _)⟩
  have H := allS_lex2 (md := .any) (X := firstN l.toArray.size n) hsel h1 hn hlate hX' (l.take n) 0 _ a (fun j hj => by
    have hj' : j < n := by rw [htl] at hj; exact hj
    simp [hj']) (by simpa using htl) inv0 (by rw [htl]; exact hlex) h
  refine wp_region_any hm ?_
  have := any_of_allS (Q := Q) (g := g) (fun listed a' hL w' hw => by
    obtain ⟨rfl, hL2⟩ := hL
    exact wpAny_of_held _ _ _ _ (hL2 w' hw)) _ _ _ H w.drew hS
  rw [htl, show n + g = l.toArray.size by simpa using hg] at this
  exact this
end
end Go.Proofs.YtbalcbnlpgekaaaDoor
