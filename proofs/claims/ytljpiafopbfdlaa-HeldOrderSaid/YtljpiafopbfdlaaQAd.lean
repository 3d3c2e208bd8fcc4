/- The line of which the document's words are told; what the document says of it (wakes), of layer 6. What the document says of a line, of layer 6 (wakes). The walk of LayoutSteps: a step goes both ways about; its ends are ports of its section. The walk of LayoutFinds: the first signal, the first exit at a port. The document's own layer 6: the section of a port, the way of a step; the first signal, exit. The document's own layer 6: whose numbers may be: a section, an exit, a flank, the times. The document's own layer 6: Right. The document's own layer 7: which ports there are, what lies beyond, who is near. Package port: Ends. -/
import Derived.Test.YtljpiafopbfdlaaQAb
import Derived.Test.YtljpiafopbfdlaaQAc
import Derived.Test.YtljpiafopbfdlaaGen
import Derived.Deep.CutRange
import Derived.Test.YtljpiafopbfdlaaQAa
import Derived.Deep.RegionHeld3
namespace Go.Proofs.Ytljpiafopbfdlaa
open Go.RowKit Go.Shelf
set_option linter.unusedVariables false
set_option linter.unusedSimpArgs false

def lineL (s : Nat) : Lay := ⟨[⟨1, (-1), 0, 1, 0, (-1), 0, (-1), 0, 0, 0⟩, ⟨2, 0, 1, 2, 0, 3, 0, (-1), 0, 0, 1⟩, ⟨1, 1, 1, (-1), 0, (-1), 0, (-1), 0, 0, 0⟩, ⟨1, 1, 2, (-1), 0, (-1), 0, (-1), 0, 0, 0⟩], some ⟨s + 1 + 1 + 1, 0, none⟩, 4, [(0, 0)], some ⟨s + 1 + 1 + 1 + 1, 0, none⟩, 1, [⟨1, 1, some ⟨s + 1 + 1 + 1 + 1 + 1, 0, none⟩, 1, [(2, 0, 1)]⟩, ⟨3, 1, none, 0, []⟩], some ⟨s + 1 + 1 + 1 + 1 + 1 + 1, 0, none⟩, 2, [], none, 0, 1, 1, 1, 1, 1, 1, 1⟩
/-- The line with a port too many. -/
def badL (s : Nat) : Lay := ⟨[⟨1, (-1), 0, 1, 0, 1, 0, (-1), 0, 0, 0⟩, ⟨2, 0, 1, 2, 0, 3, 0, (-1), 0, 0, 1⟩, ⟨1, 1, 1, (-1), 0, (-1), 0, (-1), 0, 0, 0⟩, ⟨1, 1, 2, (-1), 0, (-1), 0, (-1), 0, 0, 0⟩], some ⟨s + 1 + 1 + 1, 0, none⟩, 4, [(0, 0)], some ⟨s + 1 + 1 + 1 + 1, 0, none⟩, 1, [⟨1, 1, some ⟨s + 1 + 1 + 1 + 1 + 1, 0, none⟩, 1, [(2, 0, 1)]⟩, ⟨3, 1, none, 0, []⟩], some ⟨s + 1 + 1 + 1 + 1 + 1 + 1, 0, none⟩, 2, [], none, 0, 1, 1, 1, 1, 1, 1, 1⟩
theorem bad_cells (s : Nat) : (badL s).cells = (lineL s).cells := rfl
theorem seven (w : World) (o0 o1 o2 o3 o4 o5 o6 : Obj) : ∃ W, (((((((w.alloc o0).alloc o1).alloc o2).alloc o3).alloc o4).alloc o5).alloc o6) = W ∧ Below w.heap.size w W ∧ W.heap.size = w.heap.size + 1 + 1 + 1 + 1 + 1 + 1 + 1 ∧
    W.heap[w.heap.size]? = some o0 ∧ W.heap[w.heap.size + 1 + 1 + 1]? = some o3 ∧ W.heap[w.heap.size + 1 + 1 + 1 + 1]? = some o4 ∧ W.heap[w.heap.size + 1 + 1 + 1 + 1 + 1]? = some o5 ∧ W.heap[w.heap.size + 1 + 1 + 1 + 1 + 1 + 1]? = some o6 := by
  have hn : ∀ (u : World) (o : Obj) (n : Nat), n = u.heap.size → (u.alloc o).heap[n]? = some o := fun u o n hn => by subst hn; exact World.alloc_heap_new u o
  have hk : ∀ (u : World) (o o' : Obj) (n : Nat), u.heap[n]? = some o' → (u.alloc o).heap[n]? = some o' := fun u o o' n h => (Below.heap_alloc u o n (Array.getElem?_eq_some_iff.1 h).1).trans h
  refine ⟨_, rfl, ((((((below1 w _).alloc (by simp; try omega) _).alloc (by simp; try omega) _).alloc (by simp; try omega) _).alloc (by simp; try omega) _).alloc (by simp; try omega) _).alloc (by simp; try omega) _, by simp, ?_, ?_, ?_, ?_, ?_⟩
  · exact hk _ _ _ _ (hk _ _ _ _ (hk _ _ _ _ (hk _ _ _ _ (hk _ _ _ _ (hk _ _ _ _ (hn w o0 _ rfl))))))
  · exact hk _ _ _ _ (hk _ _ _ _ (hk _ _ _ _ (hn _ o3 _ (by simp))))
  · exact hk _ _ _ _ (hk _ _ _ _ (hn _ o4 _ (by simp)))
  · exact hk _ _ _ _ (hn _ o5 _ (by simp))
  · exact hn _ o6 _ (by simp)

end Go.Proofs.Ytljpiafopbfdlaa
namespace Go.Proofs.Ytljpiafopbfdlaa
open Go.RowKit Go.Shelf
set_option linter.unusedVariables false
set_option linter.unusedSimpArgs false

section
end
theorem keepR {R : World → Prop} (hR : Closed R) {f : FuncId} {args : Array Value} {w : World} {v : Value} (h : Calls Try.prog f args w fun e w' => e = .returned v ∧ Below w.heap.size w w') (hw : R w) : Calls Try.prog f args w fun e w' => e = .returned v ∧ R w' := h.mono fun e w' ⟨he, hB⟩ => ⟨he, hR _ _ hw hB⟩
theorem alike_same {m l : Lay} (h : Alike m l) : sameV m l = true := by
  unfold sameV sameT
  rw [h.secs, h.sigs, h.exits, h.flanks, h.t0, h.t1, h.t2, h.t3, h.t4, h.t5, h.t6]
  simp
/-- A layout without rows. -/
def bareL (l : Lay) : Lay := ⟨[], none, 0, [], none, 0, [], none, 0, [], none, 0, l.t0, l.t1, l.t2, l.t3, l.t4, l.t5, l.t6⟩
def oneSig (l : Lay) (g : Nat) : Lay := ⟨[], none, 0, [(0, 0)], some ⟨g, 0, none⟩, 1, [], none, 0, [], none, 0, l.t0, l.t1, l.t2, l.t3, l.t4, l.t5, l.t6⟩
def zeroL : Lay := ⟨[], none, 0, [], none, 0, [], none, 0, [], none, 0, 0, 0, 0, 0, 0, 0, 0⟩
theorem bare_lies (l : Lay) (w : World) : Lies (bareL l) w := ⟨Row.nil _ _ _, Row.nil _ _ _, Row.nil _ _ _, Row.nil _ _ _, (fun x hx => by cases hx), (fun x hx => by cases hx), by simp [bareL], by simp [bareL], by simp [bareL], by simp [bareL], (fun x hx => by cases hx)⟩
theorem zero_lies (w : World) : Lies zeroL w := ⟨Row.nil _ _ _, Row.nil _ _ _, Row.nil _ _ _, Row.nil _ _ _, (fun x hx => by cases hx), (fun x hx => by cases hx), by simp [zeroL], by simp [zeroL], by simp [zeroL], by simp [zeroL], (fun x hx => by cases hx)⟩
section
variable {P : World → Prop} {w : World}
end
end Go.Proofs.Ytljpiafopbfdlaa
namespace Go.Proofs.Ytljpiafopbfdlaa
open Go.RowKit Go.Shelf
set_option linter.unusedVariables false
set_option linter.unusedSimpArgs false

theorem goesK_cases {k i o : Int} (h : goesK k i o = true) : 0 ≤ i ∧ i < pK k ∧ 0 ≤ o ∧ o < pK k := by
  have hs := shapeK k
  unfold goesK at h
  revert h hs
  generalize pK k = p
  generalize nK k = n
  generalize bK k = b
  generalize cK k = c
  generalize dK k = d
  intro h hs
  unfold IsShape at hs
  rcases hs with ⟨_, rfl, rfl, _, rfl, rfl, rfl⟩ | ⟨_, rfl, rfl, _, rfl, rfl, rfl⟩ | ⟨_, rfl, rfl, _, rfl, rfl, rfl⟩ | ⟨_, rfl, rfl, _, rfl, rfl, rfl⟩
  · simp [goesV, joinV] at h; omega
  · simp [goesV, joinV] at h; omega
  · simp [goesV, joinV] at h; omega
  · simp [goesV] at h
theorem step_there {l : Lay} {s i o : Int} (h : stepV l s i o = true) : thereV l s i = true ∧ thereV l s o = true := by
  obtain ⟨h1, h2, h3, h4⟩ := goesK_cases h
  unfold thereV
  rw [withinA_iff, withinA_iff]
  omega
theorem wayK_none {k i o : Int} (h : goesK k i o = false) : wayK k i o = 0 := wayV_none h
theorem joinV_comm' (a b i o : Int) : joinV a b o i = joinV a b i o := by unfold joinV; exact Bool.or_comm _ _
theorem wayK_comm (k i o : Int) : wayK k o i = wayK k i o := by unfold wayK wayV; rw [joinV_comm' 0 (bK k) i o, joinV_comm' (cK k) (dK k) i o]
theorem goesK_comm (k i o : Int) : goesK k o i = goesK k i o := by unfold goesK goesV; rw [joinV_comm' 0 (bK k) i o, joinV_comm' (cK k) (dK k) i o]
theorem atV_kind {l : Lay} {s p : Int} (h : thereV l s p = true) : (atV l s p).k = kindV l s := by
  obtain ⟨j, rfl, hx⟩ := atV_yes h
  exact (kindV_at hx).symm

end Go.Proofs.Ytljpiafopbfdlaa
namespace Go.Proofs.Ytljpiafopbfdlaa
open Go.RowKit Go.Shelf
set_option linter.unusedVariables false
set_option linter.unusedSimpArgs false

theorem isP_eq {s p : Int} {x : Int × Int} (h : isP s p x = true) : x = (s, p) := by
  unfold isP at h
  rw [Bool.and_eq_true, beq_iff_eq, beq_iff_eq] at h
  exact Prod.ext h.1 h.2

theorem sig_cells {Q : World → Prop} {l : Lay} (hQL : ∀ W, Q W → Lies l W) {W0 : World} (h0 : Q W0) {j : Nat} {x : Int × Int} (hx : l.sigs[j]? = some x) :
    ∃ o1 o2, Hid (l.Ag = some ⟨o1, o2, none⟩) ∧ Hid (∀ W, Q W → W.cell? ⟨o1, o2 + j * 2, none⟩ = some (.int .i64 x.1)) ∧ Hid (∀ W, Q W → W.cell? ⟨o1, o2 + j * 2 + 1, none⟩ = some (.int .i64 x.2)) := by
  obtain ⟨o1, o2, hA, _, _, _⟩ := (hQL _ h0).sigs.nth (n := 2) (fun _ => rfl) (by omega) hx
  refine ⟨o1, o2, Lib.hid hA, Lib.hid fun W hW => ?_, Lib.hid fun W hW => ?_⟩
  all_goals
    obtain ⟨p1, p2, hA', ho', hc0', hc'⟩ := (hQL _ hW).sigs.nth (n := 2) (fun _ => rfl) (by omega) hx
    rw [hA] at hA'
    cases hA'
  · exact hc0' j x _ hx rfl
  · exact hc' j x 1 _ hx rfl
theorem exit_cells {Q : World → Prop} {l : Lay} (hQL : ∀ W, Q W → Lies l W) {W0 : World} (h0 : Q W0) {j : Nat} {x : Exm} (hx : l.exits[j]? = some x) :
    ∃ o1 o2, Hid (l.Ae = some ⟨o1, o2, none⟩) ∧ Hid (∀ W, Q W → W.cell? ⟨o1, o2 + j * 3, none⟩ = some (.int .i64 x.s)) ∧ Hid (∀ W, Q W → W.cell? ⟨o1, o2 + j * 3 + 1, none⟩ = some (.int .i64 x.q)) := by
  obtain ⟨o1, o2, hA, _, _, _⟩ := (hQL _ h0).exits.nth (n := 3) (fun _ => rfl) (by omega) hx
  refine ⟨o1, o2, Lib.hid hA, Lib.hid fun W hW => ?_, Lib.hid fun W hW => ?_⟩
  all_goals
    obtain ⟨p1, p2, hA', ho', hc0', hc'⟩ := (hQL _ hW).exits.nth (n := 3) (fun _ => rfl) (by omega) hx
    rw [hA] at hA'
    cases hA'
  · exact hc0' j x _ hx rfl
  · exact hc' j x 1 _ hx rfl

end Go.Proofs.Ytljpiafopbfdlaa
namespace Go.Proofs.Ytljpiafopbfdlaa
open Go.RowKit Go.Shelf
set_option linter.unusedVariables false
set_option linter.unusedSimpArgs false

theorem at_cases (l : Lay) (s p : Int) : (thereV l s p = false ∧ s < 0) ∨ (thereV l s p = false ∧ 0 ≤ s ∧ (l.secs.length : Int) ≤ s) ∨ ∃ (j : Nat) (y : Sec), s = j ∧ l.secs[j]? = some y ∧ (j : Int) < l.secs.length ∧
    ((thereV l s p = false ∧ p < 0) ∨ (thereV l s p = false ∧ 0 ≤ p ∧ pK y.k ≤ p) ∨ (thereV l s p = true ∧ atV l s p = y ∧ 0 ≤ p ∧ p < pK y.k)) := by
  have hz : ∀ q, kindV l s = 0 → thereV l s q = false := fun q h => by
    cases hh : thereV l s q
    · rfl
    · unfold thereV at hh
      rw [h, withinA_iff] at hh
      have : pK 0 = 0 := rfl
      omega
  by_cases h0 : s < 0
  · exact .inl ⟨hz _ (kindV_no (by omega)), h0⟩
  by_cases h1 : (l.secs.length : Int) ≤ s
  · exact .inr (.inl ⟨hz _ (kindV_no (by omega)), by omega, h1⟩)
  obtain ⟨j, rfl⟩ : ∃ j : Nat, s = j := ⟨s.toNat, by omega⟩
  have hy : l.secs[j]? = some (l.secs[j]'(by omega)) := List.getElem?_eq_getElem (by omega)
  refine .inr (.inr ⟨j, _, rfl, hy, by omega, ?_⟩)
  generalize l.secs[j]'(by omega) = y at hy
  have hk := kindV_at hy
  by_cases h2 : 0 ≤ p ∧ p < pK y.k
  · have ht : thereV l j p = true := by unfold thereV; rw [hk, withinA_iff]; omega
    refine .inr (.inr ⟨ht, ?_, h2.1, h2.2⟩)
    unfold atV
    rw [if_pos ht, Int.toNat_natCast, hy]
    rfl
  · have ht : thereV l j p = false := by
      cases hh : thereV l j p
      · rfl
      · unfold thereV at hh
        rw [hk, withinA_iff] at hh
        omega
    by_cases h3 : p < 0
    · exact .inl ⟨ht, h3⟩
    · exact .inr (.inl ⟨ht, by omega, by omega⟩)

section
variable {P : World → Prop} {w : World}
end
end Go.Proofs.Ytljpiafopbfdlaa
namespace Go.Proofs.Ytljpiafopbfdlaa
open Go.RowKit Go.Shelf
set_option linter.unusedVariables false
set_option linter.unusedSimpArgs false

theorem row_at {Q : World → Prop} {α : Type} {f : α → List Value} {n : Nat} (hf : ∀ x, (f x).length = n) (hn : 0 < n) {A : Option Addr} {l : List α} (hQ : ∀ W, Q W → Row W W.heap.size A (l.flatMap f)) {W0 : World} (h0 : Q W0) {j : Nat} {x : α} (hx : l[j]? = some x) :
    ∃ o1 o2, Hid (A = some ⟨o1, o2, none⟩) ∧ Hid (∀ W, Q W → ∀ (j : Nat) (y : α) (v : Value), l[j]? = some y → (f y)[0]? = some v → W.cell? ⟨o1, o2 + j * n, none⟩ = some v) ∧
      Hid (∀ W, Q W → ∀ (j : Nat) (y : α) (k : Nat) (v : Value), l[j]? = some y → (f y)[k]? = some v → W.cell? ⟨o1, o2 + j * n + k, none⟩ = some v) := by
  obtain ⟨o1, o2, hA, _, _, _⟩ := (hQ _ h0).nth hf hn hx
  refine ⟨o1, o2, Lib.hid hA, Lib.hid fun W hW => ?_, Lib.hid fun W hW => ?_⟩
  all_goals
    obtain ⟨p1, p2, hA', _, hc0, hc⟩ := (hQ _ hW).nth hf hn hx
    rw [hA] at hA'
    cases hA'
  · exact hc0
  · exact hc
/-- A port to which is joined, and that is not there; may a section be, an exit? -/
def noJ (l : Lay) (p : Int × Int) : Bool := decide (0 ≤ p.1) && !thereV l p.1 p.2
def secOk (l : Lay) (x : Sec) : Bool := !(x.ports4.any (noJ l)) && rightK x
def noS (l : Lay) (s : Int × Int × Int) : Bool := !stepV l s.1 s.2.1 s.2.2
def exitOk (l : Lay) (x : Exm) : Bool := !(x.over.any (noS l)) && (thereV l x.s x.q && decide ((x.over.length : Int) ≤ 2))
theorem flank_cases (l : Lay) (a b c d : Int) : (flankV l a b c d = false ∧ a < 0) ∨ (flankV l a b c d = false ∧ 0 ≤ a ∧ (l.secs.length : Int) ≤ a) ∨ ∃ (i : Nat) (x : Sec), a = i ∧ l.secs[i]? = some x ∧ (i : Int) < l.secs.length ∧
    ((flankV l a b c d = false ∧ c < 0) ∨ (flankV l a b c d = false ∧ 0 ≤ c ∧ (l.secs.length : Int) ≤ c) ∨ ∃ (j : Nat) (y : Sec), c = j ∧ l.secs[j]? = some y ∧ (j : Int) < l.secs.length ∧
      ((flankV l a b c d = false ∧ i = j) ∨ (i ≠ j ∧ ((flankV l a b c d = false ∧ d < 0) ∨ (flankV l a b c d = false ∧ 0 ≤ d ∧ 1 < d) ∨ (0 ≤ d ∧ d ≤ 1 ∧
        ((flankV l a b c d = false ∧ b < 0) ∨ (0 ≤ b ∧ ((flankV l a b c d = false ∧ nK x.k ≤ b) ∨ (b < nK x.k ∧ flankV l a b c d = (y.k == 2)))))))))) := by
  have hz : ∀ s, kindV l s = 0 → nK (kindV l s) = 0 := fun s h => by rw [h]; rfl
  unfold flankV
  by_cases h0 : a < 0
  · refine .inl ⟨?_, h0⟩
    have := hz a (kindV_no (by omega))
    rw [this]
    unfold withinA
    by_cases hb : 0 ≤ b
    · rw [decide_eq_false (show ¬ b ≤ 0 - 1 by omega)]; simp
    · rw [decide_eq_false hb]; simp
  by_cases h1 : (l.secs.length : Int) ≤ a
  · refine .inr (.inl ⟨?_, by omega, h1⟩)
    have := hz a (kindV_no (by omega))
    rw [this]
    unfold withinA
    by_cases hb : 0 ≤ b
    · rw [decide_eq_false (show ¬ b ≤ 0 - 1 by omega)]; simp
    · rw [decide_eq_false hb]; simp
  obtain ⟨i, rfl⟩ : ∃ i : Nat, a = i := ⟨a.toNat, by omega⟩
  have hx : l.secs[i]? = some (l.secs[i]'(by omega)) := List.getElem?_eq_getElem (by omega)
  refine .inr (.inr ⟨i, _, rfl, hx, by omega, ?_⟩)
  generalize l.secs[i]'(by omega) = x at hx
  rw [kindV_at hx]
  have hk2 : ∀ s, kindV l s = 0 → (kindV l s == 2) = false := fun s h => by rw [h]; rfl
  by_cases h2 : c < 0
  · exact .inl ⟨by rw [hk2 c (kindV_no (by omega))]; simp, h2⟩
  by_cases h3 : (l.secs.length : Int) ≤ c
  · exact .inr (.inl ⟨by rw [hk2 c (kindV_no (by omega))]; simp, by omega, h3⟩)
  obtain ⟨j, rfl⟩ : ∃ j : Nat, c = j := ⟨c.toNat, by omega⟩
  have hy : l.secs[j]? = some (l.secs[j]'(by omega)) := List.getElem?_eq_getElem (by omega)
  refine .inr (.inr ⟨j, _, rfl, hy, by omega, ?_⟩)
  generalize l.secs[j]'(by omega) = y at hy
  rw [kindV_at hy]
  by_cases h4 : i = j
  · subst h4; exact .inl ⟨by simp, rfl⟩
  refine .inr ⟨h4, ?_⟩
  have e4 : (((j : Nat) : Int) == ((i : Nat) : Int)) = false := by rw [beq_eq_false_iff_ne]; omega
  rw [e4]
  unfold withinA
  by_cases h5 : d < 0
  · exact .inl ⟨by rw [decide_eq_false (show ¬ 0 ≤ d by omega)]; simp, h5⟩
  by_cases h6 : 1 < d
  · exact .inr (.inl ⟨by rw [decide_eq_false (show ¬ d ≤ 1 by omega)]; simp, by omega, h6⟩)
  refine .inr (.inr ⟨by omega, by omega, ?_⟩)
  rw [decide_eq_true (show 0 ≤ d by omega), decide_eq_true (show d ≤ 1 by omega)]
  by_cases h7 : b < 0
  · exact .inl ⟨by rw [decide_eq_false (show ¬ 0 ≤ b by omega)]; simp, h7⟩
  refine .inr ⟨by omega, ?_⟩
  by_cases h8 : nK x.k ≤ b
  · exact .inl ⟨by rw [decide_eq_false (show ¬ b ≤ nK x.k - 1 by omega)]; simp, h8⟩
  · exact .inr ⟨by omega, by rw [decide_eq_true (show 0 ≤ b by omega), decide_eq_true (show b ≤ nK x.k - 1 by omega)]; simp⟩

section
variable {P : World → Prop} {w : World}
end
end Go.Proofs.Ytljpiafopbfdlaa
namespace Go.Proofs.Ytljpiafopbfdlaa
open Go.RowKit Go.Shelf
set_option linter.unusedVariables false
set_option linter.unusedSimpArgs false

theorem not_any {α : Type} {f : α → Bool} {l : List α} : (!(l.any fun x => !f x)) = true ↔ ∀ x ∈ l, f x = true := by simp
theorem secOk_iff {l : Lay} {x : Sec} : secOk l x = true ↔ (∀ p ∈ x.ports4, 0 ≤ p.1 → thereV l p.1 p.2 = true) ∧ rightK x = true := by
  unfold secOk noJ
  rw [Bool.and_eq_true, Bool.not_eq_true', List.any_eq_false]
  refine and_congr_left fun _ => ⟨fun h p hp h0 => ?_, fun h p hp => ?_⟩
  · have := h p hp
    rw [decide_eq_true h0] at this
    simpa using this
  · intro hh
    rw [Bool.and_eq_true, decide_eq_true_eq] at hh
    rw [h p hp hh.1] at hh
    simp at hh
theorem exitOk_iff {l : Lay} {x : Exm} : exitOk l x = true ↔ (∀ s ∈ x.over, stepV l s.1 s.2.1 s.2.2 = true) ∧ thereV l x.s x.q = true ∧ (x.over.length : Int) ≤ 2 := by
  unfold exitOk noS
  rw [Bool.and_eq_true, not_any, Bool.and_eq_true, decide_eq_true_eq]
/-- As the document asks it. -/
def rightR (l : Lay) : Bool := !(l.secs.any fun x => !secOk l x) && (!(l.sigs.any fun p => !thereV l p.1 p.2) && (!(l.exits.any fun x => !exitOk l x) && (!(l.flanks.any fun f => !flankV l f.1 f.2.1 f.2.2.1 f.2.2.2) &&
  (decide ((l.secs.length : Int) ≤ 24) && (decide ((l.sigs.length : Int) ≤ 12) && (decide ((l.exits.length : Int) ≤ 12) && (decide ((l.flanks.length : Int) ≤ 16) && !((timesL l).any fun n => !withinA n 1 1000))))))))
theorem rightR_iff {l : Lay} : rightR l = true ↔ (∀ x ∈ l.secs, secOk l x = true) ∧ (∀ p ∈ l.sigs, thereV l p.1 p.2 = true) ∧ (∀ x ∈ l.exits, exitOk l x = true) ∧ (∀ f ∈ l.flanks, flankV l f.1 f.2.1 f.2.2.1 f.2.2.2 = true) ∧
    (l.secs.length : Int) ≤ 24 ∧ (l.sigs.length : Int) ≤ 12 ∧ (l.exits.length : Int) ≤ 12 ∧ (l.flanks.length : Int) ≤ 16 ∧ (∀ n ∈ timesL l, withinA n 1 1000 = true) := by
  unfold rightR
  simp only [Bool.and_eq_true, not_any, decide_eq_true_eq]
theorem too_iff {l : Lay} : (!tooV l) = true ↔ (l.secs.length : Int) ≤ 24 ∧ (l.sigs.length : Int) ≤ 12 ∧ (l.exits.length : Int) ≤ 12 ∧ (l.flanks.length : Int) ≤ 16 ∧ (∀ x ∈ l.exits, (x.over.length : Int) ≤ 2) := by
  unfold tooV
  simp only [Bool.not_eq_true', Bool.or_eq_false_iff, decide_eq_false_iff_not, Int.not_lt, List.any_eq_false, decide_eq_true_eq]
theorem rightL_iff {l : Lay} : rightL l = true ↔ ((l.secs.length : Int) ≤ 24 ∧ (l.sigs.length : Int) ≤ 12 ∧ (l.exits.length : Int) ≤ 12 ∧ (l.flanks.length : Int) ≤ 16 ∧ (∀ x ∈ l.exits, (x.over.length : Int) ≤ 2)) ∧
    (∀ n ∈ timesL l, withinA n 1 1000 = true) ∧ (∀ x ∈ l.secs, rightK x = true) ∧ (∀ p ∈ portsL l, thereV l p.1 p.2 = true) ∧ (∀ s ∈ stepsL l, stepV l s.1 s.2.1 s.2.2 = true) ∧ (∀ f ∈ l.flanks, flankV l f.1 f.2.1 f.2.2.1 f.2.2.2 = true) := by
  unfold rightL
  rw [Bool.and_eq_true, too_iff]
  simp only [Bool.and_eq_true, not_any]
theorem rightR_eq (l : Lay) : rightR l = rightL l := by
  rw [Bool.eq_iff_iff, rightR_iff, rightL_iff]
  constructor
  · rintro ⟨h1, h2, h3, h4, h5, h6, h7, h8, h9⟩
    refine ⟨⟨h5, h6, h7, h8, fun x hx => (exitOk_iff.1 (h3 x hx)).2.2⟩, h9, fun x hx => (secOk_iff.1 (h1 x hx)).2, fun p hp => ?_, fun s hs => ?_, h4⟩
    · unfold portsL joinsL at hp
      rcases List.mem_append.1 hp with hp | hp
      · obtain ⟨x, hx, hp⟩ := List.mem_flatMap.1 hp
        obtain ⟨hp, h0⟩ := List.mem_filter.1 hp
        exact (secOk_iff.1 (h1 x hx)).1 p hp (by simpa using h0)
      · rcases List.mem_append.1 hp with hp | hp
        · exact h2 p hp
        · obtain ⟨x, hx, rfl⟩ := List.mem_map.1 hp
          exact (exitOk_iff.1 (h3 x hx)).2.1
    · obtain ⟨x, hx, hs⟩ := List.mem_flatMap.1 hs
      exact (exitOk_iff.1 (h3 x hx)).1 s hs
  · rintro ⟨⟨h1, h2, h3, h4, h5⟩, h6, h7, h8, h9, h10⟩
    refine ⟨fun x hx => secOk_iff.2 ⟨fun p hp h0 => h8 p ?_, h7 x hx⟩, fun p hp => h8 p ?_, fun x hx => exitOk_iff.2 ⟨fun s hs => h9 s (List.mem_flatMap.2 ⟨x, hx, hs⟩), h8 (x.s, x.q) ?_, h5 x hx⟩, h10, h1, h2, h3, h4, h6⟩
    · exact List.mem_append_left _ (List.mem_flatMap.2 ⟨x, hx, List.mem_filter.2 ⟨hp, by simpa using h0⟩⟩)
    · exact List.mem_append_right _ (List.mem_append_left _ hp)
    · exact List.mem_append_right _ (List.mem_append_right _ (List.mem_map.2 ⟨x, hx, rfl⟩))

section
variable {l : Lay} {w : World}
end

section
variable {P : World → Prop} {w : World}
end
end Go.Proofs.Ytljpiafopbfdlaa
namespace Go.Proofs.Ytljpiafopbfdlaa
open Go.RowKit Go.Shelf
set_option linter.unusedVariables false
set_option linter.unusedSimpArgs false

/-- What lies beyond a port. -/
def beyondV (l : Lay) (s p : Int) : Int × Int := if thereV l s p = true then ((atV l s p).ports4[p.toNat]?).getD (-1, 0) else (-1, 0)
theorem beyondV_no {l : Lay} {s p : Int} (h : thereV l s p = false) : beyondV l s p = (-1, 0) := by unfold beyondV; rw [h]; rfl
theorem pK_le4 (k : Int) : pK k ≤ 4 := by
  unfold pK
  split
  · omega
  · split
    · omega
    · split <;> omega
/-- Is b beyond a port of a? -/
def nearV (l : Lay) (a b : Int) : Bool := [0, 1, 2, 3].any fun p => (beyondV l a p).1 == b

section
variable {P : World → Prop} {w : World}
end
section
variable {P : World → Prop} {w : World}
end
section
variable {P : World → Prop} {w : World}
end
end Go.Proofs.Ytljpiafopbfdlaa
namespace Go.Proofs.Ytljpiafopbfdlaa
open Go.RowKit Go.Shelf
set_option linter.unusedVariables false
attribute [local go_sem] Oper.semAt_some

section
variable {P : World → Prop} {w : World}
end
end Go.Proofs.Ytljpiafopbfdlaa
