/- The line of which the document's words are told, of layer 10; what the document says of it (wakes). -/
import Derived.Test.YthjnhigcheakaaaDoorQBeG
import Derived.Test.YthjnhigcheakaaaDoorQBeW
import Derived.Test.YthjnhigcheakaaaDoorQBeM
namespace Go.Proofs.YthjnhigcheakaaaDoor
open Go.RowKit Go.Shelf
set_option linter.unusedVariables false
set_option linter.unusedSimpArgs false

def line10 (s : Nat) : Lay := ⟨[⟨1, (-1), 0, 1, 0, (-1), 0, (-1), 0, 0, 0⟩, ⟨2, 0, 1, 2, 0, 3, 0, (-1), 0, 0, 1⟩, ⟨1, 1, 1, (-1), 0, (-1), 0, (-1), 0, 0, 0⟩, ⟨1, 1, 2, (-1), 0, (-1), 0, (-1), 0, 0, 0⟩], some ⟨s + 1 + 1 + 1, 0, none⟩, 4, [(1, 0)], some ⟨s + 1 + 1 + 1 + 1, 0, none⟩, 1, [⟨1, 1, some ⟨s + 1 + 1 + 1 + 1 + 1, 0, none⟩, 1, [(2, 0, 1)]⟩, ⟨3, 1, none, 0, []⟩], some ⟨s + 1 + 1 + 1 + 1 + 1 + 1, 0, none⟩, 2, [(2, 0, 1, 1), (0, 0, 1, 0)], some ⟨s + 1 + 1 + 1 + 1 + 1 + 1 + 1, 0, none⟩, 2, 1, 1, 1, 1, 1, 1, 1⟩
structure LineAt10 (s : Nat) (w : World) : Prop where
  secs : Whole w (s + 1 + 1 + 1) 63 [.int .u8 1, .int .i64 (-1), .int .i64 0, .int .i64 1, .int .i64 0, .int .i64 (-1), .int .i64 0, .int .i64 (-1), .int .i64 0, .int .i64 0, .int .i64 0, .int .u8 2, .int .i64 0, .int .i64 1, .int .i64 2, .int .i64 0, .int .i64 3, .int .i64 0, .int .i64 (-1), .int .i64 0, .int .i64 0, .int .i64 1, .int .u8 1, .int .i64 1, .int .i64 1, .int .i64 (-1), .int .i64 0, .int .i64 (-1), .int .i64 0, .int .i64 (-1), .int .i64 0, .int .i64 0, .int .i64 0, .int .u8 1, .int .i64 1, .int .i64 2, .int .i64 (-1), .int .i64 0, .int .i64 (-1), .int .i64 0, .int .i64 (-1), .int .i64 0, .int .i64 0, .int .i64 0]
  sigs : Whole w (s + 1 + 1 + 1 + 1) 69 [.int .i64 1, .int .i64 0]
  over : Whole w (s + 1 + 1 + 1 + 1 + 1) 31 [.int .i64 2, .int .i64 0, .int .i64 1]
  exits : Whole w (s + 1 + 1 + 1 + 1 + 1 + 1) 54 [.int .i64 1, .int .i64 1, .slice (some ⟨s + 1 + 1 + 1 + 1 + 1, 0, none⟩) 1 1, .int .i64 3, .int .i64 1, .slice none 0 0]
  flanks : Whole w (s + 1 + 1 + 1 + 1 + 1 + 1 + 1) 65 [.int .i64 2, .int .i64 0, .int .i64 1, .int .i64 1, .int .i64 0, .int .i64 0, .int .i64 1, .int .i64 0]
theorem LineAt10.closed (s : Nat) : Closed (LineAt10 s) := fun w w' h hb => ⟨h.secs.below hb h.secs.lt, h.sigs.below hb h.sigs.lt, h.over.below hb h.over.lt, h.exits.below hb h.exits.lt, h.flanks.below hb h.flanks.lt⟩
theorem LineAt10.lies {s : Nat} {w : World} (h : LineAt10 s w) : Lies (line10 s) w :=
  ⟨h.secs.row h.secs.lt, h.sigs.row h.sigs.lt, h.exits.row h.exits.lt, h.flanks.row h.flanks.lt, fun x hx => by
    simp only [line10, List.mem_cons, List.not_mem_nil, or_false] at hx
    rcases hx with rfl | rfl
    · exact h.over.row h.over.lt
    · exact Row.nil _ _ _, by intro x hx; simp only [line10, List.mem_cons, List.not_mem_nil, or_false] at hx; rcases hx with rfl | rfl | rfl | rfl <;> decide, by simp [line10], by simp [line10], by simp [line10], by simp [line10], fun x hx => by
    simp only [line10, List.mem_cons, List.not_mem_nil, or_false] at hx
    rcases hx with rfl | rfl
    · show (1 : Int) ≤ _; omega
    · show (0 : Int) ≤ _; omega⟩
theorem eight (w : World) (o0 o1 o2 o3 o4 o5 o6 o7 : Obj) : ∃ W, ((((((((w.alloc o0).alloc o1).alloc o2).alloc o3).alloc o4).alloc o5).alloc o6).alloc o7) = W ∧ Below w.heap.size w W ∧ W.heap.size = w.heap.size + 1 + 1 + 1 + 1 + 1 + 1 + 1 + 1 ∧
    W.heap[w.heap.size]? = some o0 ∧ W.heap[w.heap.size + 1 + 1 + 1]? = some o3 ∧ W.heap[w.heap.size + 1 + 1 + 1 + 1]? = some o4 ∧ W.heap[w.heap.size + 1 + 1 + 1 + 1 + 1]? = some o5 ∧ W.heap[w.heap.size + 1 + 1 + 1 + 1 + 1 + 1]? = some o6 ∧ W.heap[w.heap.size + 1 + 1 + 1 + 1 + 1 + 1 + 1]? = some o7 := by
  have hn : ∀ (u : World) (o : Obj) (n : Nat), n = u.heap.size → (u.alloc o).heap[n]? = some o := fun u o n hn => by subst hn; exact World.alloc_heap_new u o
  have hk : ∀ (u : World) (o o' : Obj) (n : Nat), u.heap[n]? = some o' → (u.alloc o).heap[n]? = some o' := fun u o o' n h => (Below.heap_alloc u o n (Array.getElem?_eq_some_iff.1 h).1).trans h
  refine ⟨_, rfl, (((((((below1 w _).alloc (by simp; try omega) _).alloc (by simp; try omega) _).alloc (by simp; try omega) _).alloc (by simp; try omega) _).alloc (by simp; try omega) _).alloc (by simp; try omega) _).alloc (by simp; try omega) _, by simp, ?_, ?_, ?_, ?_, ?_, ?_⟩
  · exact hk _ _ _ _ (hk _ _ _ _ (hk _ _ _ _ (hk _ _ _ _ (hk _ _ _ _ (hk _ _ _ _ (hk _ _ _ _ (hn w o0 _ rfl)))))))
  · exact hk _ _ _ _ (hk _ _ _ _ (hk _ _ _ _ (hk _ _ _ _ (hn _ o3 _ (by simp)))))
  · exact hk _ _ _ _ (hk _ _ _ _ (hk _ _ _ _ (hn _ o4 _ (by simp))))
  · exact hk _ _ _ _ (hk _ _ _ _ (hn _ o5 _ (by simp)))
  · exact hk _ _ _ _ (hn _ o6 _ (by simp))
  · exact hn _ o7 _ (by simp)

set_option maxRecDepth 100000 in
set_option maxHeartbeats 8000000 in
theorem line10_any (w : World) {s : Nat} (hs : s = w.heap.size) : Calls Tryd.prog 31 #[] w fun e w' => e = .returned (line10 s).val ∧ LineAt10 s w' ∧ Below w.heap.size w w' ∧ w'.heap.size = s + 1 + 1 + 1 + 1 + 1 + 1 + 1 + 1 := by
  subst hs
  go_enter Tryd.func31, Tryd.ntmps31
  go_wp2_with fail
  obtain ⟨W, hW, hB, hsz, h0, h3, h4, h5, h6, h7⟩ := eight w (.cells #[.slice (some ⟨w.heap.size + 1 + 1 + 1, 0, none⟩) 4 4, .slice (some ⟨w.heap.size + 1 + 1 + 1 + 1, 0, none⟩) 1 1, .slice (some ⟨w.heap.size + 1 + 1 + 1 + 1 + 1 + 1, 0, none⟩) 2 2, .slice (some ⟨w.heap.size + 1 + 1 + 1 + 1 + 1 + 1 + 1, 0, none⟩) 2 2, .int .i64 1, .int .i64 1, .int .i64 1, .int .i64 1, .int .i64 1, .int .i64 1, .int .i64 1] 29) (.cells #[.int .i64 (-1), .int .i64 0] 33) (.cells #[.slice (some ⟨w.heap.size + 1 + 1 + 1, 0, none⟩) 4 4, .slice (some ⟨w.heap.size + 1 + 1 + 1 + 1, 0, none⟩) 1 1, .slice (some ⟨w.heap.size + 1 + 1 + 1 + 1 + 1 + 1, 0, none⟩) 2 2, .slice (some ⟨w.heap.size + 1 + 1 + 1 + 1 + 1 + 1 + 1, 0, none⟩) 2 2, .int .i64 1, .int .i64 1, .int .i64 1, .int .i64 1, .int .i64 1, .int .i64 1, .int .i64 1] 29) (.cells #[.int .u8 1, .int .i64 (-1), .int .i64 0, .int .i64 1, .int .i64 0, .int .i64 (-1), .int .i64 0, .int .i64 (-1), .int .i64 0, .int .i64 0, .int .i64 0, .int .u8 2, .int .i64 0, .int .i64 1, .int .i64 2, .int .i64 0, .int .i64 3, .int .i64 0, .int .i64 (-1), .int .i64 0, .int .i64 0, .int .i64 1, .int .u8 1, .int .i64 1, .int .i64 1, .int .i64 (-1), .int .i64 0, .int .i64 (-1), .int .i64 0, .int .i64 (-1), .int .i64 0, .int .i64 0, .int .i64 0, .int .u8 1, .int .i64 1, .int .i64 2, .int .i64 (-1), .int .i64 0, .int .i64 (-1), .int .i64 0, .int .i64 (-1), .int .i64 0, .int .i64 0, .int .i64 0] 63) (.cells #[.int .i64 1, .int .i64 0] 69) (.cells #[.int .i64 2, .int .i64 0, .int .i64 1] 31) (.cells #[.int .i64 1, .int .i64 1, .slice (some ⟨w.heap.size + 1 + 1 + 1 + 1 + 1, 0, none⟩) 1 1, .int .i64 3, .int .i64 1, .slice none 0 0] 54) (.cells #[.int .i64 2, .int .i64 0, .int .i64 1, .int .i64 1, .int .i64 0, .int .i64 0, .int .i64 1, .int .i64 0] 65)
  change bodyPost _ _ _ _ _ ((((((((w.alloc (.cells #[.slice (some ⟨w.heap.size + 1 + 1 + 1, 0, none⟩) 4 4, .slice (some ⟨w.heap.size + 1 + 1 + 1 + 1, 0, none⟩) 1 1, .slice (some ⟨w.heap.size + 1 + 1 + 1 + 1 + 1 + 1, 0, none⟩) 2 2, .slice (some ⟨w.heap.size + 1 + 1 + 1 + 1 + 1 + 1 + 1, 0, none⟩) 2 2, .int .i64 1, .int .i64 1, .int .i64 1, .int .i64 1, .int .i64 1, .int .i64 1, .int .i64 1] 29)).alloc (.cells #[.int .i64 (-1), .int .i64 0] 33)).alloc (.cells #[.slice (some ⟨w.heap.size + 1 + 1 + 1, 0, none⟩) 4 4, .slice (some ⟨w.heap.size + 1 + 1 + 1 + 1, 0, none⟩) 1 1, .slice (some ⟨w.heap.size + 1 + 1 + 1 + 1 + 1 + 1, 0, none⟩) 2 2, .slice (some ⟨w.heap.size + 1 + 1 + 1 + 1 + 1 + 1 + 1, 0, none⟩) 2 2, .int .i64 1, .int .i64 1, .int .i64 1, .int .i64 1, .int .i64 1, .int .i64 1, .int .i64 1] 29)).alloc (.cells #[.int .u8 1, .int .i64 (-1), .int .i64 0, .int .i64 1, .int .i64 0, .int .i64 (-1), .int .i64 0, .int .i64 (-1), .int .i64 0, .int .i64 0, .int .i64 0, .int .u8 2, .int .i64 0, .int .i64 1, .int .i64 2, .int .i64 0, .int .i64 3, .int .i64 0, .int .i64 (-1), .int .i64 0, .int .i64 0, .int .i64 1, .int .u8 1, .int .i64 1, .int .i64 1, .int .i64 (-1), .int .i64 0, .int .i64 (-1), .int .i64 0, .int .i64 (-1), .int .i64 0, .int .i64 0, .int .i64 0, .int .u8 1, .int .i64 1, .int .i64 2, .int .i64 (-1), .int .i64 0, .int .i64 (-1), .int .i64 0, .int .i64 (-1), .int .i64 0, .int .i64 0, .int .i64 0] 63)).alloc (.cells #[.int .i64 1, .int .i64 0] 69)).alloc (.cells #[.int .i64 2, .int .i64 0, .int .i64 1] 31)).alloc (.cells #[.int .i64 1, .int .i64 1, .slice (some ⟨w.heap.size + 1 + 1 + 1 + 1 + 1, 0, none⟩) 1 1, .int .i64 3, .int .i64 1, .slice none 0 0] 54)).alloc (.cells #[.int .i64 2, .int .i64 0, .int .i64 1, .int .i64 1, .int .i64 0, .int .i64 0, .int .i64 1, .int .i64 0] 65))
  rw [hW]
  clear hW
  have hres : Whole W w.heap.size 29 [.slice (some ⟨w.heap.size + 1 + 1 + 1, 0, none⟩) 4 4, .slice (some ⟨w.heap.size + 1 + 1 + 1 + 1, 0, none⟩) 1 1, .slice (some ⟨w.heap.size + 1 + 1 + 1 + 1 + 1 + 1, 0, none⟩) 2 2, .slice (some ⟨w.heap.size + 1 + 1 + 1 + 1 + 1 + 1 + 1, 0, none⟩) 2 2, .int .i64 1, .int .i64 1, .int .i64 1, .int .i64 1, .int .i64 1, .int .i64 1, .int .i64 1] := h0
  have e0 := hres.cell_at 0 rfl
  have e1 := hres.cell_at 1 rfl
  have e2 := hres.cell_at 2 rfl
  have e3 := hres.cell_at 3 rfl
  have e4 := hres.cell_at 4 rfl
  have e5 := hres.cell_at 5 rfl
  have e6 := hres.cell_at 6 rfl
  have e7 := hres.cell_at 7 rfl
  have e8 := hres.cell_at 8 rfl
  have e9 := hres.cell_at 9 rfl
  have e10 := hres.cell_at 10 rfl
  clear hres h0
  refine bodyPost_ret (v := (line10 w.heap.size).val) ?_ rfl ⟨rfl, ⟨h3, h4, h5, h6, h7⟩, hB, hsz⟩
  simp [results, Tryd.f31, go_sem, e0, e1, e2, e3, e4, e5, e6, e7, e8, e9, e10, line10]

theorem l10_p1 (s : Nat) : pointV (line10 s) 1 2 0 = (1, 1, true) := by rfl
theorem l10_p2 (s : Nat) : pointV (line10 s) 0 0 1 = (0, 0, false) := by rfl
theorem l10_w1 (s : Nat) : wantsV (line10 s) 1 0 2 4 = [(1, 1, 4)] := by rfl
theorem l10_w2 (s : Nat) : wantsV (line10 s) 2 1 0 7 = [(1, 1, 7)] := by rfl
theorem l10_c (s : Nat) : classV (line10 s) 1 0 2 = 1 := by rfl
theorem l10_o0 (s : Nat) : overL10 (line10 s) 0 = [(2, 0, 1)] := by rfl
theorem l10_o2 (s : Nat) : overL10 (line10 s) 2 = [] := by rfl
theorem l10_n1 (s : Nat) : nextV (line10 s) 1 0 2 = (3, 0) := by rfl
theorem l10_n2 (s : Nat) : nextV (line10 s) 2 0 1 = (-1, 0) := by rfl
theorem l10_r0 (s : Nat) : rearV (line10 s) 0 = (0, 1) := by rfl
theorem l10_r1 (s : Nat) : rearV (line10 s) 1 = (-1, 0) := by rfl
theorem l10_m : maskN [(0, 0, 0), (3, 0, 0), (-1, 0, 0)] = 9 := by rfl
theorem l10_g1 (s : Nat) : goesL (line10 s) (0, 0) [(0, 0, 1), (1, 0, 1), (2, 0, 1)] = true := by rfl
theorem l10_g2 (s : Nat) : goesL (line10 s) (0, 0) [(0, 0, 1), (2, 0, 1)] = false := by rfl
theorem l10_g3 (s : Nat) : goesL (line10 s) (9, 0) [] = true := by rfl
theorem l10_f (s : Nat) : (line10 s).flanks.length ≤ 900 := by show 2 ≤ 900; omega
theorem l10_x (s : Nat) : ∀ x ∈ (line10 s).exits, x.over.length ≤ 1000 := by
  intro x hx
  simp only [line10, List.mem_cons, List.not_mem_nil, or_false] at hx
  rcases hx with rfl | rfl
  · show 1 ≤ 1000; omega
  · show 0 ≤ 1000; omega
end Go.Proofs.YthjnhigcheakaaaDoor
