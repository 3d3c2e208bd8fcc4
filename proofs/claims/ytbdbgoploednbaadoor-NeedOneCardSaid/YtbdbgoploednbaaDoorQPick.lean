/- Rising rows of numbers: those below n that are such; what hangs together. -/
import Derived.Test.YtbdbgoploednbaaDoorGen
namespace Go.Proofs.YtbdbgoploednbaaDoor
set_option linter.unusedVariables false

/-- The numbers below n that are such, rising. -/
def pick (p : Nat → Bool) : Nat → List Int
  | 0 => []
  | j + 1 => pick p j ++ (if p j = true then [(j : Int)] else [])
theorem pick_le (p : Nat → Bool) : ∀ n, (pick p n).length ≤ n
  | 0 => by simp [pick]
  | n + 1 => by
    have := pick_le p n
    unfold pick
    rw [List.length_append]
    split <;> simp <;> omega
theorem mem_pick {p : Nat → Bool} {x : Int} : ∀ {n : Nat}, x ∈ pick p n ↔ ∃ i : Nat, i < n ∧ x = i ∧ p i = true
  | 0 => by simp [pick]
  | n + 1 => by
    unfold pick
    rw [List.mem_append, mem_pick]
    constructor
    · rintro (⟨i, h1, h2, h3⟩ | h)
      · exact ⟨i, by omega, h2, h3⟩
      · by_cases hp : p n = true
        · rw [if_pos hp] at h
          exact ⟨n, by omega, by simpa using h, hp⟩
        · rw [if_neg hp] at h
          cases h
    · rintro ⟨i, h1, rfl, h3⟩
      by_cases hi : i < n
      · exact .inl ⟨i, hi, rfl, h3⟩
      · obtain rfl : i = n := by omega
        exact .inr (by rw [if_pos h3]; simp)
theorem pick_lt {p : Nat → Bool} {n : Nat} {x : Int} (h : x ∈ pick p n) : 0 ≤ x ∧ x < n := by
  obtain ⟨i, h1, rfl, _⟩ := mem_pick.1 h
  omega
/-- It rises. -/
def Rising (l : List Int) : Prop := l.Pairwise (· < ·)
theorem pick_rising (p : Nat → Bool) : ∀ n, Rising (pick p n)
  | 0 => List.Pairwise.nil
  | n + 1 => by
    show List.Pairwise _ (pick p n ++ _)
    refine List.pairwise_append.2 ⟨pick_rising p n, ?_, ?_⟩
    · split
      · exact List.pairwise_singleton _ _
      · exact List.Pairwise.nil
    · intro x hx y hy
      have h1 := pick_lt hx
      split at hy
      · have : y = n := by simpa using hy
        omega
      · cases hy
/-- What rises is told by what is in it. -/
theorem rising_eq : ∀ {l m : List Int}, Rising l → Rising m → (∀ x, x ∈ l ↔ x ∈ m) → l = m
  | [], [], _, _, _ => rfl
  | [], b :: m, _, _, h => by have := (h b).2 (by simp); cases this
  | a :: l, [], _, _, h => by have := (h a).1 (by simp); cases this
  | a :: l, b :: m, hl, hm, h => by
    have hl' := List.pairwise_cons.1 hl
    have hm' := List.pairwise_cons.1 hm
    have hab : a = b := by
      have h1 := (h a).1 (by simp)
      have h2 := (h b).2 (by simp)
      rcases List.mem_cons.1 h1 with e | h1
      · exact e
      rcases List.mem_cons.1 h2 with e | h2
      · exact e.symm
      have := hl'.1 b h2
      have := hm'.1 a h1
      omega
    subst hab
    rw [rising_eq hl'.2 hm'.2 (fun x => ?_)]
    constructor
    · intro hx
      have h1 := (h x).1 (by simp [hx])
      rcases List.mem_cons.1 h1 with e | h1
      · have := hl'.1 x hx; omega
      · exact h1
    · intro hx
      have h1 := (h x).2 (by simp [hx])
      rcases List.mem_cons.1 h1 with e | h1
      · have := hm'.1 x hx; omega
      · exact h1
theorem pick_congr {p q : Nat → Bool} : ∀ {n : Nat}, (∀ i, i < n → p i = q i) → pick p n = pick q n
  | 0, _ => rfl
  | n + 1, h => by
    unfold pick
    rw [pick_congr (fun i hi => h i (by omega)), h n (by omega)]
theorem eq_pick {l : List Int} {p : Nat → Bool} {n : Nat} (hl : Rising l) (h : ∀ x, x ∈ l ↔ ∃ i : Nat, i < n ∧ x = i ∧ p i = true) : l = pick p n :=
  rising_eq hl (pick_rising p n) fun x => (h x).trans mem_pick.symm
theorem pick_mono {p q : Nat → Bool} (h : ∀ i, p i = true → q i = true) : ∀ n, (pick p n).length ≤ (pick q n).length
  | 0 => Nat.le_refl _
  | n + 1 => by
    have := pick_mono h n
    unfold pick
    rw [List.length_append, List.length_append]
    by_cases hp : p n = true
    · rw [if_pos hp, if_pos (h n hp)]; simp; omega
    · rw [if_neg hp]; simp; omega
theorem pick_more {p q : Nat → Bool} (h : ∀ i, p i = true → q i = true) {b : Nat} (h1 : p b = false) (h2 : q b = true) : ∀ {n}, b < n → (pick p n).length + 1 ≤ (pick q n).length
  | 0, hb => by omega
  | n + 1, hb => by
    unfold pick
    rw [List.length_append, List.length_append]
    by_cases hbn : b < n
    · have := pick_more h h1 h2 hbn
      by_cases hp : p n = true
      · rw [if_pos hp, if_pos (h n hp)]; simp; omega
      · rw [if_neg hp]; simp; omega
    · obtain rfl : b = n := by omega
      have := pick_mono h b
      rw [if_neg (by rw [h1]; simp), if_pos h2]
      simp
      omega

/-- Who hangs together with s: the least that holds s, and whoever is near one of it. -/
def Reach (near : Nat → Nat → Bool) (n s : Nat) (i : Nat) : Prop := ∀ S : Nat → Prop, S s → (∀ a b, a < n → b < n → S a → near a b = true → S b) → S i
theorem Reach.self {near : Nat → Nat → Bool} {n s : Nat} : Reach near n s s := fun S h _ => h
theorem Reach.next {near : Nat → Nat → Bool} {n s a b : Nat} (h : Reach near n s a) (ha : a < n) (hb : b < n) (hn : near a b = true) : Reach near n s b := fun S h0 hS => hS a b ha hb (h S h0 hS) hn
theorem Reach.lt {near : Nat → Nat → Bool} {n s i : Nat} (h : Reach near n s i) (hs : s < n) : i < n := h (· < n) hs fun _ _ _ hb _ _ => hb
theorem Reach.trans {near : Nat → Nat → Bool} {n s a b : Nat} (h : Reach near n s a) (k : Reach near n a b) : Reach near n s b := k (Reach near n s) h fun x y hx hy hr hn => hr.next hx hy hn
theorem Reach.symm {near : Nat → Nat → Bool} {n s i : Nat} (hs : s < n) (hsym : ∀ a b, a < n → b < n → near a b = true → near b a = true) (h : Reach near n s i) : Reach near n i s :=
  (h (fun x => x < n ∧ Reach near n x s) ⟨hs, Reach.self⟩ fun a b ha hb hr hn => ⟨hb, (Reach.next (a := b) (b := a) Reach.self hb ha (hsym a b ha hb hn)).trans hr.2⟩).2
/-- It is closed: whoever is near one of it is of it. -/
def Shut (near : Nat → Nat → Bool) (n : Nat) (f : Nat → Bool) : Prop := ∀ a b, a < n → b < n → f a = true → near a b = true → f b = true
theorem reach_of_shut {near : Nat → Nat → Bool} {n s : Nat} {f : Nat → Bool} (hs : f s = true) (hf : Shut near n f) (hr : ∀ i, f i = true → Reach near n s i) (i : Nat) : f i = true ↔ Reach near n s i :=
  ⟨hr i, fun h => h (fun x => f x = true) hs fun a b ha hb h1 h2 => hf a b ha hb h1 h2⟩
open Classical in
/-- All that hang together with s, rising. -/
noncomputable def allOf (near : Nat → Nat → Bool) (n s : Nat) : List Int := pick (fun i => decide (Reach near n s i)) n
open Classical in
theorem allOf_eq {near : Nat → Nat → Bool} {n s : Nat} {f : Nat → Bool} (hs : f s = true) (hf : Shut near n f) (hr : ∀ i, f i = true → Reach near n s i) : allOf near n s = pick f n :=
  pick_congr fun i _ => by
    have := reach_of_shut hs hf hr i
    by_cases h : Reach near n s i
    · rw [decide_eq_true h, this.2 h]
    · rw [decide_eq_false h]
      cases hfi : f i
      · rfl
      · exact absurd (this.1 hfi) h
open Classical in
theorem mem_allOf {near : Nat → Nat → Bool} {n s : Nat} {x : Int} : x ∈ allOf near n s ↔ ∃ i : Nat, i < n ∧ x = i ∧ Reach near n s i := by
  unfold allOf
  rw [mem_pick]
  simp
theorem allOf_symm {near : Nat → Nat → Bool} {n s i : Nat} (hs : s < n) (hsym : ∀ a b, a < n → b < n → near a b = true → near b a = true) (h : Reach near n s i) : allOf near n i = allOf near n s := by
  refine rising_eq (pick_rising _ _) (pick_rising _ _) fun x => ?_
  show x ∈ allOf near n i ↔ x ∈ allOf near n s
  rw [mem_allOf, mem_allOf]
  constructor
  · rintro ⟨j, h1, h2, h3⟩; exact ⟨j, h1, h2, h.trans h3⟩
  · rintro ⟨j, h1, h2, h3⟩; exact ⟨j, h1, h2, (h.symm hs hsym).trans h3⟩

/-- Rounds: after k of them it is shut, or holds more than k. -/
def Rounds (near : Nat → Nat → Bool) (n s k : Nat) (f : Nat → Bool) : Prop := f s = true ∧ (∀ i, f i = true → Reach near n s i) ∧ (Shut near n f ∨ k + 1 ≤ (pick f n).length)
theorem Rounds.start {near : Nat → Nat → Bool} {n s : Nat} (hs : s < n) : Rounds near n s 0 (fun i => i == s) := by
  refine ⟨by simp, fun i h => ?_, .inr ?_⟩
  · have : i = s := by simpa using h
    subst this
    exact Reach.self
  · have := pick_more (p := fun _ => false) (q := fun i => i == s) (fun _ h => by cases h) (b := s) rfl (by simp) hs
    omega
/-- A round: whoever is near one of those that were there is there behind it. -/
structure Round (near : Nat → Nat → Bool) (n s : Nat) (f g : Nat → Bool) : Prop where
  up : ∀ i, f i = true → g i = true
  reach : ∀ i, g i = true → Reach near n s i
theorem Rounds.next {near : Nat → Nat → Bool} {n s k : Nat} {f g : Nat → Bool} (h : Rounds near n s k f) (r : Round near n s f g) (hall : ∀ a b, a < n → b < n → f a = true → near a b = true → g b = true) : Rounds near n s (k + 1) g := by
  refine ⟨r.up _ h.1, r.reach, ?_⟩
  rcases h.2.2 with hs | hc
  · left
    have hfr := reach_of_shut h.1 hs h.2.1
    intro a b ha hb hga hn
    have hra := r.reach a hga
    exact r.up _ ((hfr b).2 (hra.next ha hb hn))
  · by_cases hsh : Shut near n g
    · exact .inl hsh
    · right
      have : ∃ b, b < n ∧ f b = false ∧ g b = true := by
        apply Classical.byContradiction
        intro hno
        have hsame : ∀ b, b < n → g b = true → f b = true := fun b hb hg => by
          cases hfb : f b
          · exact absurd ⟨b, hb, hfb, hg⟩ hno
          · rfl
        exact hsh fun a b ha hb hga hn => hall a b ha hb (hsame a ha hga) hn
      obtain ⟨b, hb, h1, h2⟩ := this
      have := pick_more r.up h1 h2 hb
      omega
theorem Rounds.shut {near : Nat → Nat → Bool} {n s : Nat} {f : Nat → Bool} (h : Rounds near n s n f) : Shut near n f := by
  rcases h.2.2 with hs | hc
  · exact hs
  · have := pick_le f n
    omega
end Go.Proofs.YtbdbgoploednbaaDoor
