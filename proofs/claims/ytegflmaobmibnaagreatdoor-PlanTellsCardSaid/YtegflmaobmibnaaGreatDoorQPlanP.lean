/- What numbers in a row of bits are, and what is read of bits, number by number. No program here. -/
import Derived.Test.YtegflmaobmibnaaGreatDoorQBits8B
namespace Go.Proofs.YtegflmaobmibnaaGreatDoor
set_option linter.unusedVariables false

/-- A number in so many bits; numbers, one behind the other. -/
def bitsN (p : Int × Nat) : List Bool := first (digit p.1 p.2) p.2
def bitsOf (ps : List (Int × Nat)) : List Bool := ps.flatMap bitsN
theorem bitsN_length (p : Int × Nat) : (bitsN p).length = p.2 := first_length _ _
theorem bitsOf_nil : bitsOf [] = [] := rfl
theorem bitsOf_append (a b : List (Int × Nat)) : bitsOf (a ++ b) = bitsOf a ++ bitsOf b := by unfold bitsOf; rw [List.flatMap_append]
theorem bitsOf_one (n : Int) (k : Nat) : bitsOf [(n, k)] = first (digit n k) k := by simp [bitsOf, bitsN]
theorem bitsOf_snoc (a : List (Int × Nat)) (n : Int) (k : Nat) : bitsOf (a ++ [(n, k)]) = bitsOf a ++ first (digit n k) k := by rw [bitsOf_append, bitsOf_one]
theorem bitsOf_length : ∀ ps : List (Int × Nat), (bitsOf ps).length = (ps.map Prod.snd).sum
  | [] => rfl
  | p :: ps => by
    have := bitsOf_length ps
    unfold bitsOf at this ⊢
    rw [List.flatMap_cons, List.length_append, this, bitsN_length, List.map_cons, List.sum_cons]

/-- What is read from a place on: what was read, and the place behind; none: the bits ended. -/
abbrev Par (α : Type) := List Bool → Nat → Option (α × Nat)
def numP (k : Nat) : Par Int := fun l s => if s + k ≤ l.length then some (numOf (bitsAt l s k), s + k) else none
def retP {α : Type} (x : α) : Par α := fun _ s => some (x, s)
def bnd {α β : Type} (p : Par α) (q : α → Par β) : Par β := fun l s => match p l s with | some (x, s') => q x l s' | none => none
def manyP {α : Type} (p : Par α) : Nat → Par (List α)
  | 0 => retP []
  | n + 1 => bnd (manyP p n) fun xs => bnd p fun x => retP (xs ++ [x])
theorem bnd_some {α β : Type} {p : Par α} {q : α → Par β} {l : List Bool} {s s' : Nat} {x : α} (h : p l s = some (x, s')) : bnd p q l s = q x l s' := by simp [bnd, h]
theorem bnd_none {α β : Type} {p : Par α} {q : α → Par β} {l : List Bool} {s : Nat} (h : p l s = none) : bnd p q l s = none := by simp [bnd, h]
theorem bnd_inv {α β : Type} {p : Par α} {q : α → Par β} {l : List Bool} {s t : Nat} {y : β} (h : bnd p q l s = some (y, t)) : ∃ x s', p l s = some (x, s') ∧ q x l s' = some (y, t) := by
  cases hp : p l s with
  | none => rw [bnd_none hp] at h; cases h
  | some r =>
    obtain ⟨x, s'⟩ := r
    rw [bnd_some hp] at h
    exact ⟨x, s', rfl, h⟩
theorem bnd_ret {α β : Type} (p : Par α) (f : α → β) (l : List Bool) (s : Nat) : bnd p (fun x => retP (f x)) l s = (p l s).map fun r => (f r.1, r.2) := by
  cases hp : p l s with
  | none => rw [bnd_none hp]; rfl
  | some r => obtain ⟨x, s'⟩ := r; rw [bnd_some hp]; rfl
theorem many_succ {α : Type} {p : Par α} {n : Nat} {l : List Bool} {s : Nat} {xs : List α} {s' : Nat} (h : manyP p n l s = some (xs, s')) : manyP p (n + 1) l s = (p l s').map fun r => (xs ++ [r.1], r.2) := by
  show bnd (manyP p n) _ l s = _
  rw [bnd_some h, bnd_ret]
/-- Once the bits have ended more is not read. -/
theorem many_stop {α : Type} {p : Par α} {n : Nat} {l : List Bool} {s : Nat} (h : manyP p n l s = none) : ∀ m, n ≤ m → manyP p m l s = none
  | 0, hm => by obtain rfl : n = 0 := by omega
                exact h
  | m + 1, hm => by
    rcases Nat.lt_or_ge m n with hlt | hge
    · obtain rfl : n = m + 1 := by omega
      exact h
    · exact bnd_none (many_stop h m hge)
theorem many_length {α : Type} {p : Par α} : ∀ {n : Nat} {l : List Bool} {s : Nat} {xs : List α} {s' : Nat}, manyP p n l s = some (xs, s') → xs.length = n
  | 0, l, s, xs, s', h => by cases h; rfl
  | n + 1, l, s, xs, s', h => by
    obtain ⟨ys, t, h1, h2⟩ := bnd_inv h
    obtain ⟨y, t', h3, h4⟩ := bnd_inv h2
    cases h4
    rw [List.length_append, many_length h1]
    rfl

/-- These numbers are read as x. -/
def Gets {α : Type} (p : Par α) (x : α) (ps : List (Int × Nat)) : Prop := ∀ l m, p (l ++ bitsOf ps ++ m) l.length = some (x, l.length + (bitsOf ps).length)
theorem Gets.num {n : Int} {k : Nat} (h0 : 0 ≤ n) (h1 : n < 2 ^ k) : Gets (numP k) n [(n, k)] := fun l m => by
  have hl : (bitsOf [(n, k)]).length = k := by rw [bitsOf_one, first_length]
  unfold numP
  rw [if_pos (by simp only [List.length_append, hl]; omega), bitsAt_in _ _ _ _ (by simp only [List.length_append, hl]; omega), hl]
  have hb := bitsAt_behind l (bitsOf [(n, k)])
  rw [hl] at hb
  rw [hb, bitsOf_one, numOf_digits n k h0 h1]
theorem Gets.ret {α : Type} (x : α) : Gets (retP x) x [] := fun l m => rfl
theorem Gets.bnd {α β : Type} {p : Par α} {q : α → Par β} {x : α} {y : β} {ps qs : List (Int × Nat)} (h : Gets p x ps) (k : Gets (q x) y qs) : Gets (bnd p q) y (ps ++ qs) := fun l m => by
  have h1 := h l (bitsOf qs ++ m)
  have h2 := k (l ++ bitsOf ps) m
  rw [bitsOf_append]
  rw [← List.append_assoc] at h1
  have e : l ++ (bitsOf ps ++ bitsOf qs) ++ m = l ++ bitsOf ps ++ bitsOf qs ++ m := by simp
  rw [e, bnd_some h1]
  rw [List.length_append] at h2 ⊢
  rw [h2, Nat.add_assoc]
theorem Gets.cast {α : Type} {p : Par α} {x y : α} {ps qs : List (Int × Nat)} (h : Gets p x ps) (hx : x = y) (hp : ps = qs) : Gets p y qs := by subst hx; subst hp; exact h
theorem Gets.many {α : Type} {p : Par α} {f : α → List (Int × Nat)} : ∀ (n : Nat) (xs : List α), xs.length = n → (∀ x ∈ xs, Gets p x (f x)) → Gets (manyP p n) xs (xs.flatMap f)
  | 0, xs, hn, h => by
    obtain rfl := List.eq_nil_of_length_eq_zero hn
    exact Gets.ret _
  | n + 1, xs, hn, h => by
    rcases List.eq_nil_or_concat xs with rfl | ⟨ys, y, rfl⟩
    · simp at hn
    · have h1 := Gets.many n ys (by simpa using hn) (fun x hx => h x (by simp [hx]))
      exact (Gets.bnd h1 (Gets.bnd (h y (by simp)) (Gets.ret (ys ++ [y])))).cast (by simp) (by simp)

/-- What is read goes on, stays within, and is read whatever lies behind. -/
def Good {α : Type} (p : Par α) : Prop := ∀ l s x s', s ≤ l.length → p l s = some (x, s') → s ≤ s' ∧ s' ≤ l.length ∧ ∀ m, p (l ++ m) s = some (x, s')
theorem Good.num (k : Nat) : Good (numP k) := fun l s x s' hs h => by
  unfold numP at h
  split at h
  · rename_i hk
    cases h
    refine ⟨by omega, hk, fun m => ?_⟩
    unfold numP
    rw [if_pos (by rw [List.length_append]; omega), bitsAt_in _ _ _ _ hk]
  · cases h
theorem Good.ret {α : Type} (x : α) : Good (retP x) := fun l s y s' hs h => by cases h; exact ⟨Nat.le_refl _, hs, fun m => rfl⟩
theorem Good.bnd {α β : Type} {p : Par α} {q : α → Par β} (h : Good p) (k : ∀ x, Good (q x)) : Good (bnd p q) := fun l s y t hs hh => by
  obtain ⟨x, s', h1, h2⟩ := bnd_inv hh
  obtain ⟨a1, a2, a3⟩ := h l s x s' hs h1
  obtain ⟨b1, b2, b3⟩ := k x l s' y t a2 h2
  exact ⟨by omega, b2, fun m => by rw [bnd_some (a3 m)]; exact b3 m⟩
theorem Good.many {α : Type} {p : Par α} (h : Good p) : ∀ n, Good (manyP p n)
  | 0 => Good.ret _
  | n + 1 => Good.bnd (Good.many h n) fun xs => Good.bnd h fun x => Good.ret _

/-- At least so many bits are read. -/
def Eats {α : Type} (p : Par α) (k : Nat) : Prop := ∀ l s x s', p l s = some (x, s') → s + k ≤ s'
theorem Eats.num (k : Nat) : Eats (numP k) k := fun l s x s' h => by
  unfold numP at h
  split at h
  · cases h; exact Nat.le_refl _
  · cases h
theorem Eats.ret {α : Type} (x : α) : Eats (retP x) 0 := fun l s y s' h => by cases h; exact Nat.le_refl _
theorem Eats.bnd {α β : Type} {p : Par α} {q : α → Par β} {j k : Nat} (h : Eats p j) (hk : ∀ x, Eats (q x) k) : Eats (bnd p q) (j + k) := fun l s y t hh => by
  obtain ⟨x, s', h1, h2⟩ := bnd_inv hh
  have := h l s x s' h1
  have := hk x l s' y t h2
  omega
theorem Eats.many {α : Type} {p : Par α} {k : Nat} (h : Eats p k) : ∀ n, Eats (manyP p n) (n * k)
  | 0 => by rw [Nat.zero_mul]; exact Eats.ret _
  | n + 1 => by
    have := Eats.bnd (Eats.many h n) fun xs => Eats.bnd h fun x => Eats.ret (xs ++ [x])
    rw [Nat.add_mul, Nat.one_mul]
    exact this
theorem Eats.less {α : Type} {p : Par α} {j k : Nat} (h : Eats p k) (hj : j ≤ k) : Eats p j := fun l s x s' hh => by have := h l s x s' hh; omega

/-- Whatever is read is so. -/
def Tells {α : Type} (p : Par α) (R : α → Prop) : Prop := ∀ l s x s', p l s = some (x, s') → R x
theorem Tells.num (k : Nat) : Tells (numP k) fun n => 0 ≤ n ∧ n < 2 ^ k := fun l s x s' h => by
  unfold numP at h
  split at h
  · cases h; exact numOf_lt l s k
  · cases h
theorem Tells.ret {α : Type} {x : α} {R : α → Prop} (h : R x) : Tells (retP x) R := fun l s y s' hh => by cases hh; exact h
theorem Tells.bnd {α β : Type} {p : Par α} {q : α → Par β} {R : α → Prop} {T : β → Prop} (h : Tells p R) (k : ∀ x, R x → Tells (q x) T) : Tells (bnd p q) T := fun l s y t hh => by
  obtain ⟨x, s', h1, h2⟩ := bnd_inv hh
  exact k x (h l s x s' h1) l s' y t h2
theorem Tells.any {α : Type} (p : Par α) : Tells p fun _ => True := fun _ _ _ _ _ => trivial
theorem Tells.many {α : Type} {p : Par α} {R : α → Prop} (h : Tells p R) : ∀ n, Tells (manyP p n) fun xs => xs.length = n ∧ ∀ x ∈ xs, R x
  | 0 => Tells.ret ⟨rfl, by simp⟩
  | n + 1 => Tells.bnd (Tells.many h n) fun xs hx => Tells.bnd h fun x hr => Tells.ret ⟨by rw [List.length_append, hx.1]; rfl, fun y hy => by
    rcases List.mem_append.1 hy with hy | hy
    · exact hx.2 y hy
    · rw [List.mem_singleton.1 hy]; exact hr⟩

/-- A reader that goes on behind the bits' end: no place; what it tells there is whatever. -/
def Agree {α : Type} (r : Option (α × Nat)) (y : α) (t : Option Nat) : Prop := match r with | some (x, s) => y = x ∧ t = some s | none => t = none
def After {α : Type} (p : Par α) (l : List Bool) (s : Option Nat) (y : α) (t : Option Nat) : Prop := Agree (s.bind (p l)) y t
theorem After.ret {α : Type} (x : α) (l : List Bool) (s : Option Nat) : After (retP x) l s x s := by
  cases s with
  | none => rfl
  | some s => exact ⟨rfl, rfl⟩
theorem After.bnd {α β : Type} {p : Par α} {q : α → Par β} {l : List Bool} {s t u : Option Nat} {x : α} {y : β} (h : After p l s x t) (k : After (q x) l t y u) : After (bnd p q) l s y u := by
  unfold After at *
  cases s with
  | none =>
    have ht : t = none := h
    subst ht
    exact k
  | some s =>
    simp only [Option.bind_some] at h ⊢
    cases hp : p l s with
    | none =>
      rw [hp] at h
      have ht : t = none := h
      subst ht
      rw [bnd_none hp]
      exact k
    | some r =>
      obtain ⟨x', s'⟩ := r
      rw [hp] at h
      obtain ⟨rfl, rfl⟩ := h
      rw [bnd_some hp]
      exact k
theorem After.num_some {k : Nat} {l : List Bool} {s : Nat} (h : s + k ≤ l.length) : After (numP k) l (some s) (numOf (bitsAt l s k)) (some (s + k)) := by
  show Agree (numP k l s) _ _
  unfold numP
  rw [if_pos h]
  exact ⟨rfl, rfl⟩
theorem After.num_none {k : Nat} {l : List Bool} {s : Nat} (h : ¬ s + k ≤ l.length) (y : Int) : After (numP k) l (some s) y none := by
  show Agree (numP k l s) _ _
  unfold numP
  rw [if_neg h]
  rfl
theorem After.none {α : Type} (p : Par α) (l : List Bool) (y : α) : After p l none y none := rfl
end Go.Proofs.YtegflmaobmibnaaGreatDoor
