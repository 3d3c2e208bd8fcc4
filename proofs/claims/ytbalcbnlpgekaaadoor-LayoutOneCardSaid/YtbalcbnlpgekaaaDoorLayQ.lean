/- The line of which the document's words are told; what the document says of it (wakes), of layer 6. -/
import Derived.Test.YtbalcbnlpgekaaaDoorLayP
import Derived.Test.YtbalcbnlpgekaaaDoorLayK
import Derived.Test.YtbalcbnlpgekaaaDoorLayM
import Derived.Test.YtbalcbnlpgekaaaDoorLayO
namespace Go.Proofs.YtbalcbnlpgekaaaDoor
open Go.RowKit Go.Shelf
set_option linter.unusedVariables false
set_option linter.unusedSimpArgs false

def lineL (s : Nat) : Lay := ⟨[⟨1, (-1), 0, 1, 0, (-1), 0, (-1), 0, 0, 0⟩, ⟨2, 0, 1, 2, 0, 3, 0, (-1), 0, 0, 1⟩, ⟨1, 1, 1, (-1), 0, (-1), 0, (-1), 0, 0, 0⟩, ⟨1, 1, 2, (-1), 0, (-1), 0, (-1), 0, 0, 0⟩], some ⟨s + 1 + 1 + 1, 0, none⟩, 4, [(0, 0)], some ⟨s + 1 + 1 + 1 + 1, 0, none⟩, 1, [⟨1, 1, some ⟨s + 1 + 1 + 1 + 1 + 1, 0, none⟩, 1, [(2, 0, 1)]⟩, ⟨3, 1, none, 0, []⟩], some ⟨s + 1 + 1 + 1 + 1 + 1 + 1, 0, none⟩, 2, [], none, 0, 1, 1, 1, 1, 1, 1, 1⟩
/-- The line with a port too many. -/
def badL (s : Nat) : Lay := ⟨[⟨1, (-1), 0, 1, 0, 1, 0, (-1), 0, 0, 0⟩, ⟨2, 0, 1, 2, 0, 3, 0, (-1), 0, 0, 1⟩, ⟨1, 1, 1, (-1), 0, (-1), 0, (-1), 0, 0, 0⟩, ⟨1, 1, 2, (-1), 0, (-1), 0, (-1), 0, 0, 0⟩], some ⟨s + 1 + 1 + 1, 0, none⟩, 4, [(0, 0)], some ⟨s + 1 + 1 + 1 + 1, 0, none⟩, 1, [⟨1, 1, some ⟨s + 1 + 1 + 1 + 1 + 1, 0, none⟩, 1, [(2, 0, 1)]⟩, ⟨3, 1, none, 0, []⟩], some ⟨s + 1 + 1 + 1 + 1 + 1 + 1, 0, none⟩, 2, [], none, 0, 1, 1, 1, 1, 1, 1, 1⟩
theorem bad_cells (s : Nat) : (badL s).cells = (lineL s).cells := rfl
structure LineAt (s : Nat) (w : World) : Prop where
  secs : Whole w (s + 1 + 1 + 1) 39 [.int .u8 1, .int .i64 (-1), .int .i64 0, .int .i64 1, .int .i64 0, .int .i64 (-1), .int .i64 0, .int .i64 (-1), .int .i64 0, .int .i64 0, .int .i64 0, .int .u8 2, .int .i64 0, .int .i64 1, .int .i64 2, .int .i64 0, .int .i64 3, .int .i64 0, .int .i64 (-1), .int .i64 0, .int .i64 0, .int .i64 1, .int .u8 1, .int .i64 1, .int .i64 1, .int .i64 (-1), .int .i64 0, .int .i64 (-1), .int .i64 0, .int .i64 (-1), .int .i64 0, .int .i64 0, .int .i64 0, .int .u8 1, .int .i64 1, .int .i64 2, .int .i64 (-1), .int .i64 0, .int .i64 (-1), .int .i64 0, .int .i64 (-1), .int .i64 0, .int .i64 0, .int .i64 0]
  sigs : Whole w (s + 1 + 1 + 1 + 1) 50 [.int .i64 0, .int .i64 0]
  over : Whole w (s + 1 + 1 + 1 + 1 + 1) 33 [.int .i64 2, .int .i64 0, .int .i64 1]
  exits : Whole w (s + 1 + 1 + 1 + 1 + 1 + 1) 53 [.int .i64 1, .int .i64 1, .slice (some ⟨s + 1 + 1 + 1 + 1 + 1, 0, none⟩) 1 1, .int .i64 3, .int .i64 1, .slice none 0 0]
theorem LineAt.lies {s : Nat} {w : World} (h : LineAt s w) : Lies (lineL s) w :=
  ⟨h.secs.row h.secs.lt, h.sigs.row h.sigs.lt, h.exits.row h.exits.lt, Row.nil _ _ _, fun x hx => by
    simp only [lineL, List.mem_cons, List.not_mem_nil, or_false] at hx
    rcases hx with rfl | rfl
    · exact h.over.row h.over.lt
    · exact Row.nil _ _ _, by intro x hx; simp only [lineL, List.mem_cons, List.not_mem_nil, or_false] at hx; rcases hx with rfl | rfl | rfl | rfl <;> decide, by simp [lineL], by simp [lineL], by simp [lineL], by simp [lineL], fun x hx => by
    simp only [lineL, List.mem_cons, List.not_mem_nil, or_false] at hx
    rcases hx with rfl | rfl
    · show (1 : Int) ≤ _; omega
    · show (0 : Int) ≤ _; omega⟩
/-- Behind the store of a port too many. -/
theorem LineAt.bad {s : Nat} {w W : World} (h : LineAt s w) (hk : ∀ k, k < w.heap.size → k ≠ s + 1 + 1 + 1 → W.heap[k]? = w.heap[k]?) (hW : Whole W (s + 1 + 1 + 1) 39 [.int .u8 1, .int .i64 (-1), .int .i64 0, .int .i64 1, .int .i64 0, .int .i64 1, .int .i64 0, .int .i64 (-1), .int .i64 0, .int .i64 0, .int .i64 0, .int .u8 2, .int .i64 0, .int .i64 1, .int .i64 2, .int .i64 0, .int .i64 3, .int .i64 0, .int .i64 (-1), .int .i64 0, .int .i64 0, .int .i64 1, .int .u8 1, .int .i64 1, .int .i64 1, .int .i64 (-1), .int .i64 0, .int .i64 (-1), .int .i64 0, .int .i64 (-1), .int .i64 0, .int .i64 0, .int .i64 0, .int .u8 1, .int .i64 1, .int .i64 2, .int .i64 (-1), .int .i64 0, .int .i64 (-1), .int .i64 0, .int .i64 (-1), .int .i64 0, .int .i64 0, .int .i64 0]) : Lies (badL s) W := by
  have h1 : Whole W (s + 1 + 1 + 1 + 1) 50 [.int .i64 0, .int .i64 0] := (hk _ h.sigs.lt (by omega)).trans h.sigs
  have h2 : Whole W (s + 1 + 1 + 1 + 1 + 1) 33 [.int .i64 2, .int .i64 0, .int .i64 1] := (hk _ h.over.lt (by omega)).trans h.over
  have h3 : Whole W (s + 1 + 1 + 1 + 1 + 1 + 1) 53 [.int .i64 1, .int .i64 1, .slice (some ⟨s + 1 + 1 + 1 + 1 + 1, 0, none⟩) 1 1, .int .i64 3, .int .i64 1, .slice none 0 0] := (hk _ h.exits.lt (by omega)).trans h.exits
  exact ⟨hW.row hW.lt, h1.row h1.lt, h3.row h3.lt, Row.nil _ _ _, fun x hx => by
    simp only [badL, List.mem_cons, List.not_mem_nil, or_false] at hx
    rcases hx with rfl | rfl
    · exact h2.row h2.lt
    · exact Row.nil _ _ _, by intro x hx; simp only [badL, List.mem_cons, List.not_mem_nil, or_false] at hx; rcases hx with rfl | rfl | rfl | rfl <;> decide, by simp [badL], by simp [badL], by simp [badL], by simp [badL], fun x hx => by
    simp only [badL, List.mem_cons, List.not_mem_nil, or_false] at hx
    rcases hx with rfl | rfl
    · show (1 : Int) ≤ _; omega
    · show (0 : Int) ≤ _; omega⟩

theorem seven (w : World) (o0 o1 o2 o3 o4 o5 o6 : Obj) : ∃ W, (((((((w.alloc o0).alloc o1).alloc o2).alloc o3).alloc o4).alloc o5).alloc o6) = W ∧ Below w.heap.size w W ∧ W.heap.size = w.heap.size + 1 + 1 + 1 + 1 + 1 + 1 + 1 ∧
    W.heap[w.heap.size]? = some o0 ∧ W.heap[w.heap.size + 1 + 1 + 1]? = some o3 ∧ W.heap[w.heap.size + 1 + 1 + 1 + 1]? = some o4 ∧ W.heap[w.heap.size + 1 + 1 + 1 + 1 + 1]? = some o5 ∧ W.heap[w.heap.size + 1 + 1 + 1 + 1 + 1 + 1]? = some o6 := by
  have hn : ∀ (u : World) (o : Obj) (n : Nat), n = u.heap.size → (u.alloc o).heap[n]? = some o := fun u o n hn => by subst hn; exact World.alloc_heap_new u o
  have hk : ∀ (u : World) (o o' : Obj) (n : Nat), u.heap[n]? = some o' → (u.alloc o).heap[n]? = some o' := fun u o o' n h => (Below.heap_alloc u o n (Array.getElem?_eq_some_iff.1 h).1).trans h
  refine ⟨_, rfl, ((((((below1 w _).alloc (by simp; try omega) _).alloc (by simp; try omega) _).alloc (by simp; try omega) _).alloc (by simp; try omega) _).alloc (by simp; try omega) _).alloc (by simp; try omega) _, by simp, ?_, ?_, ?_, ?_, ?_⟩
  · exact hk _ _ _ _ (hk _ _ _ _ (hk _ _ _ _ (hk _ _ _ _ (hk _ _ _ _ (hk _ _ _ _ (hn w o0 _ rfl))))))
  · exact hk _ _ _ _ (hk _ _ _ _ (hk _ _ _ _ (hn _ o3 _ (by simp))))
  · exact hk _ _ _ _ (hk _ _ _ _ (hn _ o4 _ (by simp)))
  · exact hk _ _ _ _ (hn _ o5 _ (by simp))
  · exact hn _ o6 _ (by simp)

set_option maxRecDepth 100000 in
set_option maxHeartbeats 8000000 in
theorem line_any (w : World) {s : Nat} (hs : s = w.heap.size) : Calls Tryd.prog 26 #[] w fun e w' => e = .returned (lineL s).val ∧ LineAt s w' ∧ Below w.heap.size w w' ∧ w'.heap.size = s + 1 + 1 + 1 + 1 + 1 + 1 + 1 := by
  subst hs
  go_enter Tryd.func26, Tryd.ntmps26
  go_wp2_with fail
  obtain ⟨W, hW, hB, hsz, h0, h3, h4, h5, h6⟩ := seven w (.cells #[.slice (some ⟨w.heap.size + 1 + 1 + 1, 0, none⟩) 4 4, .slice (some ⟨w.heap.size + 1 + 1 + 1 + 1, 0, none⟩) 1 1, .slice (some ⟨w.heap.size + 1 + 1 + 1 + 1 + 1 + 1, 0, none⟩) 2 2, .slice none 0 0, .int .i64 1, .int .i64 1, .int .i64 1, .int .i64 1, .int .i64 1, .int .i64 1, .int .i64 1] 29) (.cells #[.int .i64 (-1), .int .i64 0] 31) (.cells #[.slice (some ⟨w.heap.size + 1 + 1 + 1, 0, none⟩) 4 4, .slice (some ⟨w.heap.size + 1 + 1 + 1 + 1, 0, none⟩) 1 1, .slice (some ⟨w.heap.size + 1 + 1 + 1 + 1 + 1 + 1, 0, none⟩) 2 2, .slice none 0 0, .int .i64 1, .int .i64 1, .int .i64 1, .int .i64 1, .int .i64 1, .int .i64 1, .int .i64 1] 29) (.cells #[.int .u8 1, .int .i64 (-1), .int .i64 0, .int .i64 1, .int .i64 0, .int .i64 (-1), .int .i64 0, .int .i64 (-1), .int .i64 0, .int .i64 0, .int .i64 0, .int .u8 2, .int .i64 0, .int .i64 1, .int .i64 2, .int .i64 0, .int .i64 3, .int .i64 0, .int .i64 (-1), .int .i64 0, .int .i64 0, .int .i64 1, .int .u8 1, .int .i64 1, .int .i64 1, .int .i64 (-1), .int .i64 0, .int .i64 (-1), .int .i64 0, .int .i64 (-1), .int .i64 0, .int .i64 0, .int .i64 0, .int .u8 1, .int .i64 1, .int .i64 2, .int .i64 (-1), .int .i64 0, .int .i64 (-1), .int .i64 0, .int .i64 (-1), .int .i64 0, .int .i64 0, .int .i64 0] 39) (.cells #[.int .i64 0, .int .i64 0] 50) (.cells #[.int .i64 2, .int .i64 0, .int .i64 1] 33) (.cells #[.int .i64 1, .int .i64 1, .slice (some ⟨w.heap.size + 1 + 1 + 1 + 1 + 1, 0, none⟩) 1 1, .int .i64 3, .int .i64 1, .slice none 0 0] 53)
  change bodyPost _ _ _ _ _ (((((((w.alloc (.cells #[.slice (some ⟨w.heap.size + 1 + 1 + 1, 0, none⟩) 4 4, .slice (some ⟨w.heap.size + 1 + 1 + 1 + 1, 0, none⟩) 1 1, .slice (some ⟨w.heap.size + 1 + 1 + 1 + 1 + 1 + 1, 0, none⟩) 2 2, .slice none 0 0, .int .i64 1, .int .i64 1, .int .i64 1, .int .i64 1, .int .i64 1, .int .i64 1, .int .i64 1] 29)).alloc (.cells #[.int .i64 (-1), .int .i64 0] 31)).alloc (.cells #[.slice (some ⟨w.heap.size + 1 + 1 + 1, 0, none⟩) 4 4, .slice (some ⟨w.heap.size + 1 + 1 + 1 + 1, 0, none⟩) 1 1, .slice (some ⟨w.heap.size + 1 + 1 + 1 + 1 + 1 + 1, 0, none⟩) 2 2, .slice none 0 0, .int .i64 1, .int .i64 1, .int .i64 1, .int .i64 1, .int .i64 1, .int .i64 1, .int .i64 1] 29)).alloc (.cells #[.int .u8 1, .int .i64 (-1), .int .i64 0, .int .i64 1, .int .i64 0, .int .i64 (-1), .int .i64 0, .int .i64 (-1), .int .i64 0, .int .i64 0, .int .i64 0, .int .u8 2, .int .i64 0, .int .i64 1, .int .i64 2, .int .i64 0, .int .i64 3, .int .i64 0, .int .i64 (-1), .int .i64 0, .int .i64 0, .int .i64 1, .int .u8 1, .int .i64 1, .int .i64 1, .int .i64 (-1), .int .i64 0, .int .i64 (-1), .int .i64 0, .int .i64 (-1), .int .i64 0, .int .i64 0, .int .i64 0, .int .u8 1, .int .i64 1, .int .i64 2, .int .i64 (-1), .int .i64 0, .int .i64 (-1), .int .i64 0, .int .i64 (-1), .int .i64 0, .int .i64 0, .int .i64 0] 39)).alloc (.cells #[.int .i64 0, .int .i64 0] 50)).alloc (.cells #[.int .i64 2, .int .i64 0, .int .i64 1] 33)).alloc (.cells #[.int .i64 1, .int .i64 1, .slice (some ⟨w.heap.size + 1 + 1 + 1 + 1 + 1, 0, none⟩) 1 1, .int .i64 3, .int .i64 1, .slice none 0 0] 53))
  rw [hW]
  clear hW
  have hres : Whole W w.heap.size 29 [.slice (some ⟨w.heap.size + 1 + 1 + 1, 0, none⟩) 4 4, .slice (some ⟨w.heap.size + 1 + 1 + 1 + 1, 0, none⟩) 1 1, .slice (some ⟨w.heap.size + 1 + 1 + 1 + 1 + 1 + 1, 0, none⟩) 2 2, .slice none 0 0, .int .i64 1, .int .i64 1, .int .i64 1, .int .i64 1, .int .i64 1, .int .i64 1, .int .i64 1] := h0
  have e0 := hres.cell_at 0 rfl
  have e1 := hres.cell_at 1 rfl
  have e2 := hres.cell_at 2 rfl
  have e3 := hres.cell_at 3 rfl
  have e4 := hres.cell_at 4 rfl
  have e5 := hres.cell_at 5 rfl
  have e6 := hres.cell_at 6 rfl
  have e7 := hres.cell_at 7 rfl
  have e8 := hres.cell_at 8 rfl
  have e9 := hres.cell_at 9 rfl
  have e10 := hres.cell_at 10 rfl
  clear hres h0
  refine bodyPost_ret (v := (lineL w.heap.size).val) ?_ rfl ⟨rfl, ⟨h3, h4, h5, h6⟩, hB, hsz⟩
  simp [results, Tryd.f26, go_sem, e0, e1, e2, e3, e4, e5, e6, e7, e8, e9, e10, lineL]
end Go.Proofs.YtbalcbnlpgekaaaDoor
