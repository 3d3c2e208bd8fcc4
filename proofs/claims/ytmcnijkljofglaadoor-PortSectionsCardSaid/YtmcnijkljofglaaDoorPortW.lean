/- What the document says of a few (wakes), of layer 5. -/
import Derived.Test.YtmcnijkljofglaaDoorPortG
namespace Go.Proofs.YtmcnijkljofglaaDoor
open Go.RowKit Go.Shelf
set_option linter.unusedVariables false
set_option linter.unusedSimpArgs false

theorem sh0 : IsShape 0 0 0 0 0 0 0 := by unfold IsShape; decide
theorem sh1 : IsShape 1 2 1 0 1 0 0 := by unfold IsShape; decide
theorem sh2 : IsShape 2 3 2 0 1 0 2 := by unfold IsShape; decide
theorem sh3 : IsShape 3 4 2 0 1 2 3 := by unfold IsShape; decide
theorem sh9 : IsShape 9 0 0 0 0 0 0 := by unfold IsShape; decide

section
variable {P : World → Prop} {w : World}
theorem right_Pr (hP : Closed P) (hT : ∀ w, P w → Shapes w) (k s0 q0 s1 q1 s2 q2 s3 q3 c0 c1 : Int) (h0 : 0 ≤ k) (h1 : k ≤ 255) {p n a b c d : Int} {r : Bool} (hs : IsShape k p n a b c d) (hr : rightV p n s0 q0 s1 q1 s2 q2 s3 q3 c0 c1 = r) (h : P w) :
    Calls Tryd.prog 25 #[secV k s0 q0 s1 q1 s2 q2 s3 q3 c0 c1] w fun e w' => e = .returned (.bool r) ∧ P w' := by
  rw [← hr]; exact right_P hP hT k s0 q0 s1 q1 s2 q2 s3 q3 c0 c1 h0 h1 hs h
theorem outs_Pm (hP : Closed P) (hT : ∀ w, P w → Shapes w) (k i : Int) (h0 : 0 ≤ k) (h1 : k ≤ 255) {p n a b c d : Int} {l : List Int} {m : Nat} (hs : IsShape k p n a b c d) (hl : outsTo n a b c d i p.toNat = l) (hm : l.length = m) (h : P w) :
    Calls Tryd.prog 19 #[.int .u8 k, .int .i64 i] w fun e w' => ∃ A cap, e = .returned (.slice A m cap) ∧ m ≤ cap ∧ Row w' w'.heap.size A (nums .i64 l) ∧ P w' := by
  subst hm; exact outs_P hP hT k i h0 h1 hs hl h

set_option maxRecDepth 100000 in
set_option maxHeartbeats 4000000 in
theorem wakes5_P (hP : Closed P) (hT : ∀ w, P w → Shapes w) (h : P w) : Calls Tryd.prog 27 #[] w fun e w' => e = .returned (.bool true) ∧ P w' := by
  go_enter Tryd.func27, Tryd.ntmps27
  go_wp2_with fail
  refine (way_P hP hT 2 2 0 (by decide) (by decide) (v := 1) (r := true) sh2 (by decide) (by decide) h).mono ?_
  clear h
  rintro e w' ⟨rfl, h⟩
  go_wp2_with fail
  refine (pos_P hP hT 2 2 0 (by decide) (by decide) (v := 1) (r := true) sh2 (by decide) (by decide) h).mono ?_
  clear h
  rintro e w' ⟨rfl, h⟩
  go_wp2_with fail
  refine (way_P hP hT 2 1 2 (by decide) (by decide) (v := 0) (r := false) sh2 (by decide) (by decide) h).mono ?_
  clear h
  rintro e w' ⟨rfl, h⟩
  go_wp2_with fail
  refine (pos_P hP hT 1 1 0 (by decide) (by decide) (v := -1) (r := true) sh1 (by decide) (by decide) h).mono ?_
  clear h
  rintro e w' ⟨rfl, h⟩
  go_wp2_with fail
  refine (ends_P hP hT 3 1 (by decide) (by decide) (u := 2) (v := 3) (r := true) sh3 (by decide) (by decide) (by decide) h).mono ?_
  clear h
  rintro e w' ⟨rfl, h⟩
  go_wp2_with fail
  refine (outs_Pm hP hT 2 0 (by decide) (by decide) (l := [1, 2]) (m := 2) sh2 (by decide) rfl h).mono ?_
  clear h
  rintro e w1 ⟨A, cap, rfl, hcap, hr, h⟩
  obtain ⟨bl, off, rfl, hbl, hc⟩ := hr (by simp [nums])
  have hH : Has P [(⟨bl, off + 1, none⟩, .int .i64 2)] w1 := (Has.nil h).cons (hc 1 _ rfl)
  obtain ⟨cs, HCS⟩ : ∃ cs : List (Addr × Value), Hid (cs = [(⟨w1.heap.size, 0, none⟩, .int .u8 1), (⟨w1.heap.size, 1, none⟩, .int .i64 3), (⟨w1.heap.size, 2, none⟩, .int .i64 2), (⟨w1.heap.size, 3, none⟩, .int .i64 (-1)), (⟨w1.heap.size, 4, none⟩, .int .i64 0), (⟨w1.heap.size, 5, none⟩, .int .i64 (-1)), (⟨w1.heap.size, 6, none⟩, .int .i64 0), (⟨w1.heap.size, 7, none⟩, .int .i64 (-1)), (⟨w1.heap.size, 8, none⟩, .int .i64 0), (⟨w1.heap.size, 9, none⟩, .int .i64 3), (⟨w1.heap.size, 10, none⟩, .int .i64 0)]) := ⟨_, Lib.hid rfl⟩
  have hQ : Has (Has P [(⟨bl, off + 1, none⟩, .int .i64 2)]) cs (w1.alloc (.cells #[.int .u8 1, .int .i64 3, .int .i64 2, .int .i64 (-1), .int .i64 0, .int .i64 (-1), .int .i64 0, .int .i64 (-1), .int .i64 0, .int .i64 3, .int .i64 0] 27)) := by
    rw [HCS.out]
    have hw := Whole.new w1 27 [.int .u8 1, .int .i64 3, .int .i64 2, .int .i64 (-1), .int .i64 0, .int .i64 (-1), .int .i64 0, .int .i64 (-1), .int .i64 0, .int .i64 3, .int .i64 0]
    exact (((((((((((Has.nil ((hP.has _) _ _ hH (below1 w1 _))).cons (hw.cell_at 10 rfl)).cons (hw.cell_at 9 rfl)).cons (hw.cell_at 8 rfl)).cons (hw.cell_at 7 rfl)).cons (hw.cell_at 6 rfl)).cons (hw.cell_at 5 rfl)).cons (hw.cell_at 4 rfl)).cons (hw.cell_at 3 rfl)).cons (hw.cell_at 2 rfl)).cons (hw.cell_at 1 rfl)).cons (hw.cell_at 0 rfl)
  have HQ := Lib.hid hQ
  obtain ⟨Q, hQP, hQT, hQ1, hQ2, hQ3, HQQ⟩ : ∃ Q : World → Prop, Hid (Closed Q) ∧ Hid (∀ w, Q w → Shapes w) ∧ Hid (∀ w, Q w → P w) ∧ Hid (∀ w, Q w → w.cell? ⟨bl, off + 1, none⟩ = some (.int .i64 2)) ∧ Hid (∀ w, Q w → ∀ i a v, cs[i]? = some (a, v) → w.cell? a = some v) ∧ Hid (Q (w1.alloc (.cells #[.int .u8 1, .int .i64 3, .int .i64 2, .int .i64 (-1), .int .i64 0, .int .i64 (-1), .int .i64 0, .int .i64 (-1), .int .i64 0, .int .i64 3, .int .i64 0] 27))) :=
    ⟨_, Lib.hid ((hP.has _).has cs), Lib.hid (fun w hw => hT w hw.1.1), Lib.hid (fun w hw => hw.1.1), Lib.hid (fun w hw => hw.1.at rfl 0 rfl), Lib.hid (fun w hw i a v hv => hw.2 (a, v) (List.mem_of_getElem? hv)), HQ⟩
  clear hH hQ HQ hc hr h
  go_wp2_with fail
  refine (outs_Pm hQP.out hQT.out 3 3 (by decide) (by decide) (l := [2]) (m := 1) sh3 (by decide) rfl HQQ.out).mono ?_
  rintro e w2 ⟨A2, cap2, rfl, hcap2, hr2, h⟩
  clear hr2
  have q1 := hQ1.out _ h
  have q2 := hQ2.out _ h
  go_wp2_with fail
  refine (turned_P hQP.out 4 0 2 h).mono ?_
  clear h
  rintro e w3 ⟨rfl, h⟩
  go_wp2_with fail
  refine (ports_P hQP.out hQT.out (by decide) (by decide) sh2 h).mono ?_
  clear h
  rintro e w3 ⟨rfl, h⟩
  go_wp2_with fail
  refine (ways_P hQP.out hQT.out (by decide) (by decide) sh1 h).mono ?_
  clear h
  rintro e w3 ⟨rfl, h⟩
  go_wp2_with fail
  refine (ports_P hQP.out hQT.out (by decide) (by decide) sh9 h).mono ?_
  clear h
  rintro e w3 ⟨rfl, h⟩
  go_wp2_with fail
  refine (may_Pr hQP.out (-1) 0 (r := true) (by decide) h).mono ?_
  clear h
  rintro e w3 ⟨rfl, h⟩
  go_wp2_with fail
  refine (may_Pr hQP.out (-1) 1 (r := false) (by decide) h).mono ?_
  clear h
  rintro e w3 ⟨rfl, h⟩
  have s0 := hQ3.out _ h 0 _ _ (by rw [HCS.out]; rfl)
  have s1 := hQ3.out _ h 1 _ _ (by rw [HCS.out]; rfl)
  have s2 := hQ3.out _ h 2 _ _ (by rw [HCS.out]; rfl)
  have s3 := hQ3.out _ h 3 _ _ (by rw [HCS.out]; rfl)
  have s4 := hQ3.out _ h 4 _ _ (by rw [HCS.out]; rfl)
  have s5 := hQ3.out _ h 5 _ _ (by rw [HCS.out]; rfl)
  have s6 := hQ3.out _ h 6 _ _ (by rw [HCS.out]; rfl)
  have s7 := hQ3.out _ h 7 _ _ (by rw [HCS.out]; rfl)
  have s8 := hQ3.out _ h 8 _ _ (by rw [HCS.out]; rfl)
  have s9 := hQ3.out _ h 9 _ _ (by rw [HCS.out]; rfl)
  have s10 := hQ3.out _ h 10 _ _ (by rw [HCS.out]; rfl)
  go_wp2_with fail
  refine (right_Pr hQP.out hQT.out 1 3 2 (-1) 0 (-1) 0 (-1) 0 3 0 (by decide) (by decide) (r := true) sh1 (by decide) h).mono ?_
  clear h s0 s1 s2 s3 s4 s5 s6 s7 s8 s9 s10
  rintro e w3 ⟨rfl, h⟩
  go_wp2_with fail
  refine (right_Pr hQP.out hQT.out 0 0 0 0 0 0 0 0 0 0 0 (by decide) (by decide) (r := false) sh0 (by decide) h).mono ?_
  clear h
  rintro e w3 ⟨rfl, h⟩
  go_wp2_with fail
  go_ret
  exact ⟨rfl, hQ1.out _ h⟩
end
end Go.Proofs.YtmcnijkljofglaaDoor
