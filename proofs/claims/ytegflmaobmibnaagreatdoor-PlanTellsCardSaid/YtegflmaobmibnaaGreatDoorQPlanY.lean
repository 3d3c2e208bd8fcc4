/- How many bits a layout has; its bytes; what is told of bytes. No program here. -/
import Derived.Test.YtegflmaobmibnaaGreatDoorQPlanQ
namespace Go.Proofs.YtegflmaobmibnaaGreatDoor
set_option linter.unusedVariables false
set_option linter.unusedSimpArgs false

def FitN (p : Int × Nat) : Prop := 0 ≤ p.1 ∧ p.1 < 2 ^ p.2 ∧ p.2 ≤ 32
theorem fit_port {p : Int × Int} (h : 0 ≤ p.1 ∧ p.1 < 2 ^ 5 ∧ 0 ≤ p.2 ∧ p.2 < 2 ^ 2) : ∀ q ∈ numsPort p, FitN q := by
  intro q hq
  simp only [numsPort, List.mem_cons, List.not_mem_nil, or_false] at hq
  rcases hq with rfl | rfl
  · exact ⟨h.1, h.2.1, by simp⟩
  · exact ⟨h.2.2.1, h.2.2.2, by simp⟩
theorem fit_join {p : Int × Int} (h : JoinIs p) : ∀ q ∈ numsJoin p, FitN q := by
  intro q hq
  unfold numsJoin at hq
  split at hq
  · rw [List.mem_singleton.1 hq]; exact ⟨by decide, by decide, by decide⟩
  · rename_i hs
    rcases h with ⟨a, b⟩ | ⟨a, b, c, d⟩
    · omega
    · rcases List.mem_cons.1 hq with rfl | hq
      · exact ⟨by decide, by decide, by decide⟩
      · exact fit_port ⟨a, by omega, c, by omega⟩ q hq
theorem fit_sec {s : Sec} (h : SecIs s) : ∀ q ∈ numsSec s, FitN q := by
  intro q hq
  unfold numsSec at hq
  rcases List.mem_cons.1 hq with rfl | hq
  · refine ⟨?_, ?_, by simp⟩ <;> rcases h.kind with e | e | e <;> simp only [e] <;> decide
  · rcases List.mem_append.1 hq with hq | hq
    · obtain ⟨p, hp, hq⟩ := List.mem_flatMap.1 hq
      exact fit_join (h.joins p (List.mem_of_mem_take hp)) q hq
    · obtain ⟨c, hc, hq⟩ := List.mem_flatMap.1 hq
      have hc := List.mem_of_mem_take hc
      rw [List.mem_singleton.1 (show q ∈ [(c, 2)] from hq)]
      simp only [List.mem_cons, List.not_mem_nil, or_false] at hc
      have a := h.class0
      have b := h.class1
      rcases hc with rfl | rfl
      · exact ⟨a.1, by show _ < (2 : Int) ^ 2; omega, by simp⟩
      · exact ⟨b.1, by show _ < (2 : Int) ^ 2; omega, by simp⟩
theorem fine_fit {l : PL} (h : Fine l) : ∀ p ∈ numsL l, FitN p := by
  intro p hp
  have a1 := h.nS
  have a2 := h.nG
  have a3 := h.nE
  have a4 := h.nF
  rw [numsL_eq] at hp
  simp only [List.mem_append, List.mem_flatMap] at hp
  rcases hp with hp | ⟨x, hx, hp⟩ | ⟨x, hx, hp⟩ | ⟨x, hx, hp⟩ | ⟨x, hx, hp⟩ | ⟨x, hx, hp⟩
  · simp only [numsHead, List.mem_cons, List.not_mem_nil, or_false] at hp
    rcases hp with rfl | rfl | rfl | rfl
    · exact ⟨by omega, by show _ < (2 : Int) ^ 5; omega, by simp⟩
    · exact ⟨by omega, by show _ < (2 : Int) ^ 4; omega, by simp⟩
    · exact ⟨by omega, by show _ < (2 : Int) ^ 4; omega, by simp⟩
    · exact ⟨by omega, by show _ < (2 : Int) ^ 5; omega, by simp⟩
  · exact fit_sec (h.secs x hx) p hp
  · exact fit_port (h.sigs x hx) p hp
  · obtain ⟨h1, h2, h3⟩ := h.exits x hx
    unfold numsExit at hp
    rcases List.mem_append.1 hp with hp | hp
    · exact fit_port h1 p hp
    · rcases List.mem_cons.1 hp with rfl | hp
      · exact ⟨by show (0 : Int) ≤ (x.2.2.length : Int); omega, by show (x.2.2.length : Int) < (2 : Int) ^ 2; omega, by simp⟩
      · obtain ⟨s, hs, hp⟩ := List.mem_flatMap.1 hp
        have h4 := h3 s hs
        simp only [numsStep, List.mem_cons, List.not_mem_nil, or_false] at hp
        rcases hp with rfl | rfl | rfl
        · exact ⟨h4.1, h4.2.1, by simp⟩
        · exact ⟨h4.2.2.1, h4.2.2.2.1, by simp⟩
        · exact ⟨h4.2.2.2.2.1, h4.2.2.2.2.2, by simp⟩
  · have h4 := h.flanks x hx
    simp only [numsFlank, List.mem_cons, List.not_mem_nil, or_false] at hp
    rcases hp with rfl | rfl | rfl | rfl
    · exact ⟨h4.1, h4.2.1, by simp⟩
    · exact ⟨h4.2.2.1, h4.2.2.2.1, by simp⟩
    · exact ⟨h4.2.2.2.2.1, h4.2.2.2.2.2.1, by simp⟩
    · exact ⟨h4.2.2.2.2.2.2.1, h4.2.2.2.2.2.2.2, by simp⟩
  · have h4 := h.ts x hx
    rw [List.mem_singleton.1 (show p ∈ [(x - 1, 10)] from hp)]
    exact ⟨by show 0 ≤ x - 1; omega, by show x - 1 < (2 : Int) ^ 10; omega, by simp⟩

theorem bits_flat {α : Type} (f : α → List (Int × Nat)) (c : Nat) : ∀ xs : List α, (∀ x ∈ xs, (bitsOf (f x)).length ≤ c) → (bitsOf (xs.flatMap f)).length ≤ xs.length * c
  | [], _ => by simp [bitsOf]
  | x :: xs, h => by
    rw [List.flatMap_cons, bitsOf_append, List.length_append, List.length_cons, Nat.add_mul, Nat.one_mul]
    have h1 := h x (by simp)
    have h2 := bits_flat f c xs (fun y hy => h y (by simp [hy]))
    omega
theorem bits_join (p : Int × Int) : (bitsOf (numsJoin p)).length ≤ 8 := by
  rw [bitsOf_length]
  unfold numsJoin
  split <;> simp [numsPort]
theorem bits_sec (s : Sec) : (bitsOf (numsSec s)).length ≤ 38 := by
  have h1 := bits_flat numsJoin 8 (s.ports4.take (pK s.k).toNat) (fun p _ => bits_join p)
  have h2 := bits_flat numsClass 2 ([s.c0, s.c1].take (nK s.k).toNat) (fun c _ => by rw [bitsOf_length]; simp [numsClass])
  have h3 : (s.ports4.take (pK s.k).toNat).length ≤ 4 := by rw [List.length_take]; show min _ 4 ≤ 4; omega
  have h4 : ([s.c0, s.c1].take (nK s.k).toNat).length ≤ 2 := by rw [List.length_take]; show min _ 2 ≤ 2; omega
  have e : numsSec s = [(s.k, 2)] ++ ((s.ports4.take (pK s.k).toNat).flatMap numsJoin ++ ([s.c0, s.c1].take (nK s.k).toNat).flatMap numsClass) := rfl
  rw [e, bitsOf_append, bitsOf_append, List.length_append, List.length_append, bitsOf_one, first_length]
  omega
theorem fine_bits {l : PL} (h : Fine l) : (bitsOf (numsL l)).length ≤ 1600 ∧ 88 ≤ (bitsOf (numsL l)).length := by
  have a1 := h.nS
  have a2 := h.nG
  have a3 := h.nE
  have a4 := h.nF
  have a5 := h.nT
  have h1 := bits_flat numsSec 38 l.secs (fun s _ => bits_sec s)
  have h2 := bits_flat numsPort 7 l.sigs (fun s _ => by rw [bitsOf_length]; simp [numsPort])
  have h3 := bits_flat numsExit 27 l.exits (fun x hx => by
    have hn := (h.exits x hx).2.1
    have h4 := bits_flat numsStep 9 x.2.2 (fun s _ => by rw [bitsOf_length]; simp [numsStep])
    have e : numsExit x = numsPort (x.1, x.2.1) ++ ([((x.2.2.length : Int), 2)] ++ x.2.2.flatMap numsStep) := rfl
    rw [e, bitsOf_append, bitsOf_append, List.length_append, List.length_append, bitsOf_one, first_length, bitsOf_length (numsPort _)]
    simp only [numsPort, List.map_cons, List.map_nil, List.sum_cons, List.sum_nil]
    omega)
  have h4 := bits_flat numsFlank 12 l.flanks (fun s _ => by rw [bitsOf_length]; simp [numsFlank])
  have h5 : (bitsOf (l.ts.flatMap numsTime)).length = l.ts.length * 10 := by
    have : ∀ ts : List Int, (bitsOf (ts.flatMap numsTime)).length = ts.length * 10 := fun ts => by
      induction ts with
      | nil => rfl
      | cons t ts ih => rw [List.flatMap_cons, bitsOf_append, List.length_append, ih, List.length_cons]; simp [numsTime, bitsOf_length]; omega
    exact this _
  have h6 : (bitsOf (numsHead l)).length = 18 := by rw [bitsOf_length]; rfl
  rw [numsL_eq, bitsOf_append, bitsOf_append, bitsOf_append, bitsOf_append, bitsOf_append]
  simp only [List.length_append]
  omega
/-- A beginning of the rows has no more bits. -/
theorem bits_prefix (ps qs : List (Int × Nat)) : (bitsOf ps).length ≤ (bitsOf (ps ++ qs)).length := by rw [bitsOf_append, List.length_append]; omega
theorem rows_prefix (l : PL) (j : Nat) : (bitsOf ((rowsOf l).take j).flatten).length ≤ (bitsOf (numsL l)).length := by
  have e : numsL l = ((rowsOf l).take j).flatten ++ ((rowsOf l).drop j).flatten := by rw [← List.flatten_append, List.take_append_drop]; rfl
  rw [e]
  exact bits_prefix _ _
end Go.Proofs.YtegflmaobmibnaaGreatDoor
