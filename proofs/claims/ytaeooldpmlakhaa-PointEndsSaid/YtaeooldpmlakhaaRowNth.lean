/- A row of structs, one of them: its cells. -/
import Derived.Test.YtaeooldpmlakhaaGen
namespace Go.Proofs.Ytaeooldpmlakhaa
set_option linter.unusedVariables false

theorem flat_at {α : Type} (f : α → List Value) (n : Nat) (hf : ∀ x, (f x).length = n) : ∀ (l : List α) (i : Nat) (x : α) (k : Nat) (v : Value), l[i]? = some x → (f x)[k]? = some v → (l.flatMap f)[i * n + k]? = some v
  | [], i, x, k, v, h, _ => by simp at h
  | y :: l, 0, x, k, v, h, hk => by
    simp only [List.getElem?_cons_zero, Option.some.injEq] at h
    subst h
    rw [List.flatMap_cons, Nat.zero_mul, Nat.zero_add, List.getElem?_append_left (List.getElem?_eq_some_iff.1 hk).1]
    exact hk
  | y :: l, i + 1, x, k, v, h, hk => by
    have e : (i + 1) * n + k = (f y).length + (i * n + k) := by rw [hf, Nat.add_mul, Nat.one_mul]; omega
    rw [List.flatMap_cons, e, List.getElem?_append_right (Nat.le_add_right _ _), Nat.add_sub_cancel_left]
    exact flat_at f n hf l i x k v (by simpa using h) hk
/-- A row of structs, one of them: its cells. -/
theorem Row.nth {α : Type} {f : α → List Value} {n : Nat} (hf : ∀ x, (f x).length = n) (hn : 0 < n) {w : World} {B : Nat} {A : Option Addr} {l : List α} (h : Row w B A (l.flatMap f)) {i : Nat} {x : α} (hi : l[i]? = some x) :
    ∃ b off, A = some ⟨b, off, none⟩ ∧ b < B ∧ (∀ (j : Nat) (y : α) (v : Value), l[j]? = some y → (f y)[0]? = some v → w.cell? ⟨b, off + j * n, none⟩ = some v) ∧
      ∀ (j : Nat) (y : α) (k : Nat) (v : Value), l[j]? = some y → (f y)[k]? = some v → w.cell? ⟨b, off + j * n + k, none⟩ = some v := by
  have h0 : ∃ v, (f x)[0]? = some v := ⟨_, List.getElem?_eq_getElem (by rw [hf]; exact hn)⟩
  obtain ⟨v, hv⟩ := h0
  have hlt := (List.getElem?_eq_some_iff.1 (flat_at f n hf l i x 0 v hi hv)).1
  obtain ⟨b, off, e, hb, hc⟩ := h (by omega)
  have hc' : ∀ (j : Nat) (y : α) (k : Nat) (v : Value), l[j]? = some y → (f y)[k]? = some v → w.cell? ⟨b, off + j * n + k, none⟩ = some v := fun j y k v hj hk => by
    have := hc _ _ (flat_at f n hf l j y k v hj hk)
    rwa [← Nat.add_assoc] at this
  exact ⟨b, off, e, hb, fun j y v hj hk => hc' j y 0 v hj hk, hc'⟩

end Go.Proofs.Ytaeooldpmlakhaa
