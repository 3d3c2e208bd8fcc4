/- A queue of those that hang together, and marks of them. -/
import Derived.Test.YtaelcmamgcndmaaDoorQJoinS
namespace Go.Proofs.YtaelcmamgcndmaaDoor
open Go.RowKit
set_option linter.unusedVariables false

def upd (f : Nat → Bool) (b : Nat) : Nat → Bool := fun i => if i = b then true else f i
theorem upd_same (f : Nat → Bool) (b : Nat) : upd f b b = true := if_pos rfl
theorem upd_up {f : Nat → Bool} {b i : Nat} (h : f i = true) : upd f b i = true := by unfold upd; split; rfl; exact h
theorem upd_iff {f : Nat → Bool} {b i : Nat} : upd f b i = true ↔ i = b ∨ f i = true := by unfold upd; split <;> simp [*]
/-- Marks, as a row of bools. -/
def marksB (f : Nat → Bool) (n : Nat) : List Value := (List.range n).map fun i => .bool (f i)
theorem marksB_len (f : Nat → Bool) (n : Nat) : (marksB f n).length = n := by simp [marksB]
theorem marksB_at {f : Nat → Bool} {n i : Nat} (h : i < n) : (marksB f n)[i]? = some (.bool (f i)) := by simp [marksB, h]
theorem marksB_none (n : Nat) : List.replicate n (Value.bool false) = marksB (fun _ => false) n := by
  apply List.ext_getElem
  · simp [marksB]
  · intro i h1 h2
    simp [marksB]
theorem marksB_set (f : Nat → Bool) (n b : Nat) : (marksB f n).set b (.bool true) = marksB (upd f b) n := by
  apply List.ext_getElem?
  intro i
  rw [List.getElem?_set]
  by_cases hi : i < n
  · by_cases hb : b = i
    · subst hb
      rw [if_pos rfl, if_pos (by rw [marksB_len]; exact hi), marksB_at hi, upd_same]
    · rw [if_neg hb, marksB_at hi, marksB_at hi]
      have : upd f b i = f i := if_neg (fun e => hb e.symm)
      rw [this]
  · have h1 : (marksB f n)[i]? = none := List.getElem?_eq_none (by rw [marksB_len]; omega)
    have h2 : (marksB (upd f b) n)[i]? = none := List.getElem?_eq_none (by rw [marksB_len]; omega)
    rw [h1, h2]
    split
    · rename_i h; subst h; rw [if_neg (by rw [marksB_len]; exact hi)]
    · rfl

/-- k of the queue have been looked at: whoever is near one of them is marked. -/
structure Bfs (near : Nat → Nat → Bool) (n s : Nat) (k : Nat) (qs : List Int) (f : Nat → Bool) : Prop where
  mem : ∀ x, x ∈ qs ↔ ∃ i : Nat, i < n ∧ x = i ∧ f i = true
  once : qs.Nodup
  start : f s = true
  reach : ∀ i, f i = true → Reach near n s i
  done : ∀ i, i < k → ∀ a : Nat, qs[i]? = some (a : Int) → ∀ b, b < n → near a b = true → f b = true
variable {near : Nat → Nat → Bool} {n s k : Nat} {qs : List Int} {f : Nat → Bool}
theorem Bfs.srt (h : Bfs near n s k qs f) : sorted qs = pick f n := sorted_of_perm (pick_rising f n) h.once fun x => (h.mem x).trans mem_pick.symm
theorem Bfs.len (h : Bfs near n s k qs f) : qs.length = (pick f n).length := by rw [← h.srt, sorted_len]
theorem Bfs.le (h : Bfs near n s k qs f) : qs.length ≤ n := h.len ▸ pick_le f n
theorem Bfs.begin (hs : s < n) : Bfs near n s 0 [(s : Int)] (upd (fun _ => false) s) := by
  refine ⟨fun x => ?_, by simp, upd_same _ _, fun i h => ?_, fun i h => absurd h (Nat.not_lt_zero _)⟩
  · constructor
    · intro h
      exact ⟨s, hs, by simpa using h, upd_same _ _⟩
    · rintro ⟨i, _, rfl, h⟩
      rcases upd_iff.1 h with e | h
      · subst e; simp
      · cases h
  · rcases upd_iff.1 h with e | h
    · subst e; exact Reach.self
    · cases h
theorem Bfs.add (h : Bfs near n s k qs f) (hs : s < n) {a b : Nat} (ha : f a = true) (hb : b < n) (hn : near a b = true) (hf : f b = false) (hk : k ≤ qs.length) : Bfs near n s k (qs ++ [(b : Int)]) (upd f b) := by
  have hnb : (b : Int) ∉ qs := fun hm => by
    obtain ⟨i, _, e, hi⟩ := (h.mem _).1 hm
    have : b = i := by omega
    subst this
    rw [hf] at hi
    cases hi
  refine ⟨fun x => ?_, ?_, upd_up h.start, fun i hi => ?_, fun i hi c hc d hd hcd => ?_⟩
  · rw [List.mem_append, h.mem]
    constructor
    · rintro (⟨i, h1, h2, h3⟩ | hx)
      · exact ⟨i, h1, h2, upd_up h3⟩
      · exact ⟨b, hb, by simpa using hx, upd_same _ _⟩
    · rintro ⟨i, h1, rfl, h3⟩
      rcases upd_iff.1 h3 with e | h3
      · subst e; exact .inr (by simp)
      · exact .inl ⟨i, h1, rfl, h3⟩
  · rw [List.nodup_append]
    refine ⟨h.once, by simp, fun x hx y hy => ?_⟩
    have : y = b := by simpa using hy
    subst this
    exact fun e => hnb (e ▸ hx)
  · rcases upd_iff.1 hi with e | hi
    · subst e; exact (h.reach a ha).next ((h.reach a ha).lt hs) hb hn
    · exact h.reach i hi
  · rw [List.getElem?_append_left (by omega)] at hc
    exact upd_up (h.done i hi c hc d hd hcd)
theorem Bfs.more (h : Bfs near n s k qs f) {a : Nat} (hk : qs[k]? = some (a : Int)) (hall : ∀ b, b < n → near a b = true → f b = true) : Bfs near n s (k + 1) qs f := by
  refine ⟨h.mem, h.once, h.start, h.reach, fun i hi c hc d hd hcd => ?_⟩
  by_cases e : i < k
  · exact h.done i e c hc d hd hcd
  · obtain rfl : i = k := by omega
    rw [hk] at hc
    have : a = c := by have := Option.some.inj hc; omega
    subst this
    exact hall d hd hcd
theorem Bfs.shut (h : Bfs near n s k qs f) (hk : qs.length ≤ k) : Shut near n f := by
  intro a b ha hb hfa hn
  have hm := (h.mem (a : Int)).2 ⟨a, ha, rfl, hfa⟩
  obtain ⟨i, hi, e⟩ := List.mem_iff_getElem.1 hm
  exact h.done i (by omega) a (by rw [List.getElem?_eq_getElem hi, e]) b hb hn
theorem Bfs.all (h : Bfs near n s k qs f) (hk : qs.length ≤ k) : allOf near n s = sorted qs := by
  rw [h.srt]
  exact allOf_eq h.start (h.shut hk) h.reach
end Go.Proofs.YtaelcmamgcndmaaDoor
