/- The point of which the document's words are told, of layer 13; what it says of it (wakes); what is too great. -/
import Derived.Test.YtbdbgoploednbaaDoorQNeeJ
import Derived.Test.YtbdbgoploednbaaDoorQGreatJ
namespace Go.Proofs.YtbdbgoploednbaaDoor
open Go.RowKit Go.Shelf
set_option linter.unusedVariables false
set_option linter.unusedSimpArgs false
set_option maxRecDepth 100000

def pl13 (s : Nat) : Lay := ⟨[⟨2, -1, 0, -1, 0, -1, 0, -1, 0, 0, 0⟩], some ⟨s + 1 + 1, 0, none⟩, 1, [(0, 0)], some ⟨s + 1 + 1 + 1, 0, none⟩, 1, [⟨0, 2, none, 0, []⟩], some ⟨s + 1 + 1 + 1 + 1, 0, none⟩, 1, [], none, 0, 1, 1, 1, 1, 1, 1, 1⟩
structure PtAt (s : Nat) (w : World) : Prop where
  secs : Whole w (s + 1 + 1) 52 [.int .u8 2, .int .i64 (-1), .int .i64 0, .int .i64 (-1), .int .i64 0, .int .i64 (-1), .int .i64 0, .int .i64 (-1), .int .i64 0, .int .i64 0, .int .i64 0]
  sigs : Whole w (s + 1 + 1 + 1) 76 [.int .i64 0, .int .i64 0]
  exits : Whole w (s + 1 + 1 + 1 + 1) 54 [.int .i64 0, .int .i64 2, .slice none 0 0]
theorem PtAt.closed (s : Nat) : Closed (PtAt s) := fun w w' h hb => ⟨h.secs.below hb h.secs.lt, h.sigs.below hb h.sigs.lt, h.exits.below hb h.exits.lt⟩
theorem PtAt.lies {s : Nat} {w : World} (h : PtAt s w) : Lies (pl13 s) w :=
  ⟨h.secs.row h.secs.lt, h.sigs.row h.sigs.lt, h.exits.row h.exits.lt, Row.nil _ _ _, fun x hx => by
    simp only [pl13, List.mem_cons, List.not_mem_nil, or_false] at hx
    subst hx
    exact Row.nil _ _ _, by intro x hx; simp only [pl13, List.mem_cons, List.not_mem_nil, or_false] at hx; subst hx; decide, by simp [pl13], by simp [pl13], by simp [pl13], by simp [pl13], fun x hx => by
    simp only [pl13, List.mem_cons, List.not_mem_nil, or_false] at hx
    subst hx
    show (0 : Int) ≤ _; omega⟩
theorem five13 (w : World) (o0 o1 o2 o3 o4 : Obj) : ∃ W, (((((w.alloc o0).alloc o1).alloc o2).alloc o3).alloc o4) = W ∧ Below w.heap.size w W ∧
    W.heap[w.heap.size]? = some o0 ∧ W.heap[w.heap.size + 1 + 1]? = some o2 ∧ W.heap[w.heap.size + 1 + 1 + 1]? = some o3 ∧ W.heap[w.heap.size + 1 + 1 + 1 + 1]? = some o4 := by
  have hn : ∀ (u : World) (o : Obj) (n : Nat), n = u.heap.size → (u.alloc o).heap[n]? = some o := fun u o n hn => by subst hn; exact World.alloc_heap_new u o
  have hk : ∀ (u : World) (o o' : Obj) (n : Nat), u.heap[n]? = some o' → (u.alloc o).heap[n]? = some o' := fun u o o' n h => (Below.heap_alloc u o n (Array.getElem?_eq_some_iff.1 h).1).trans h
  refine ⟨_, rfl, ((((below1 w _).alloc (by simp; try omega) _).alloc (by simp; try omega) _).alloc (by simp; try omega) _).alloc (by simp; try omega) _, ?_, ?_, ?_, ?_⟩
  · exact hk _ _ _ _ (hk _ _ _ _ (hk _ _ _ _ (hk _ _ _ _ (hn w o0 _ rfl))))
  · exact hk _ _ _ _ (hk _ _ _ _ (hn _ o2 _ (by simp)))
  · exact hk _ _ _ _ (hn _ o3 _ (by simp))
  · exact hn _ o4 _ (by simp)

set_option maxRecDepth 100000 in
set_option maxHeartbeats 32000000 in
theorem point13_any (w : World) {s : Nat} (hs : s = w.heap.size) : Calls Tryd.prog 26 #[] w fun e w' => e = .returned (pl13 s).val ∧ PtAt s w' ∧ Below w.heap.size w w' := by
  subst hs
  go_enter Tryd.func26, Tryd.ntmps26
  go_wp2_with fail
  obtain ⟨W, hW, hB, h0, h2, h3, h4⟩ := five13 w (.cells #[.slice (some ⟨w.heap.size + 1 + 1, 0, none⟩) 1 1, .slice (some ⟨w.heap.size + 1 + 1 + 1, 0, none⟩) 1 1, .slice (some ⟨w.heap.size + 1 + 1 + 1 + 1, 0, none⟩) 1 1, .slice none 0 0, .int .i64 1, .int .i64 1, .int .i64 1, .int .i64 1, .int .i64 1, .int .i64 1, .int .i64 1] 29) (.cells #[.int .i64 (-1), .int .i64 0] 48) (.cells #[.int .u8 2, .int .i64 (-1), .int .i64 0, .int .i64 (-1), .int .i64 0, .int .i64 (-1), .int .i64 0, .int .i64 (-1), .int .i64 0, .int .i64 0, .int .i64 0] 52) (.cells #[.int .i64 0, .int .i64 0] 76) (.cells #[.int .i64 0, .int .i64 2, .slice none 0 0] 54)
  change bodyPost _ _ _ _ _ (((((w.alloc (.cells #[.slice (some ⟨w.heap.size + 1 + 1, 0, none⟩) 1 1, .slice (some ⟨w.heap.size + 1 + 1 + 1, 0, none⟩) 1 1, .slice (some ⟨w.heap.size + 1 + 1 + 1 + 1, 0, none⟩) 1 1, .slice none 0 0, .int .i64 1, .int .i64 1, .int .i64 1, .int .i64 1, .int .i64 1, .int .i64 1, .int .i64 1] 29)).alloc (.cells #[.int .i64 (-1), .int .i64 0] 48)).alloc (.cells #[.int .u8 2, .int .i64 (-1), .int .i64 0, .int .i64 (-1), .int .i64 0, .int .i64 (-1), .int .i64 0, .int .i64 (-1), .int .i64 0, .int .i64 0, .int .i64 0] 52)).alloc (.cells #[.int .i64 0, .int .i64 0] 76)).alloc (.cells #[.int .i64 0, .int .i64 2, .slice none 0 0] 54))
  rw [hW]
  clear hW
  have hres : Whole W w.heap.size 29 [.slice (some ⟨w.heap.size + 1 + 1, 0, none⟩) 1 1, .slice (some ⟨w.heap.size + 1 + 1 + 1, 0, none⟩) 1 1, .slice (some ⟨w.heap.size + 1 + 1 + 1 + 1, 0, none⟩) 1 1, .slice none 0 0, .int .i64 1, .int .i64 1, .int .i64 1, .int .i64 1, .int .i64 1, .int .i64 1, .int .i64 1] := h0
  have e0 := hres.cell_at 0 rfl
  have e1 := hres.cell_at 1 rfl
  have e2 := hres.cell_at 2 rfl
  have e3 := hres.cell_at 3 rfl
  have e4 := hres.cell_at 4 rfl
  have e5 := hres.cell_at 5 rfl
  have e6 := hres.cell_at 6 rfl
  have e7 := hres.cell_at 7 rfl
  have e8 := hres.cell_at 8 rfl
  have e9 := hres.cell_at 9 rfl
  have e10 := hres.cell_at 10 rfl
  clear hres h0
  refine bodyPost_ret (v := (pl13 w.heap.size).val) ?_ rfl ⟨rfl, ⟨h2, h3, h4⟩, hB⟩
  simp [results, Tryd.f26, go_sem, e0, e1, e2, e3, e4, e5, e6, e7, e8, e9, e10, pl13]

/-- A layout, a path that are too great to be asked. -/
def great13 (l : Lay) (p : Pth) : Bool := greatJ l || decide (30 < (p.ss.length : Int))
theorem great13_no {l : Lay} {p : Pth} (h : great13 l p = false) : greatJ l = false ∧ p.ss.length ≤ 30 := by
  unfold great13 at h
  rw [Bool.or_eq_false_iff, decide_eq_false_iff_not] at h
  exact ⟨h.1, by omega⟩

set_option maxRecDepth 100000 in
set_option maxHeartbeats 32000000 in
theorem great13_any {l : Lay} {p : Pth} {w : World} (hL : Lies l w) (hp : PLies p w) {r : Bool} (hr : great13 l p = r) :
    Calls Tryd.prog 8 #[l.val, p.val] w fun e w' => e = .returned (.bool r) ∧ Below w.heap.size w w' := by
  obtain ⟨Q, HQ, HQb, HQl, HQv, hq⟩ := keep_box2 (Closed.below w) (Below.refl _ w) 29 32 l.cells p.cells
  obtain ⟨g, hg⟩ : ∃ g, greatJ l = g := ⟨_, rfl⟩
  have KG := Lib.hid (fun W hW => greatJ_P (P := Q) (w := W) HQ.out (fun W hW => Lies.closed l _ _ hL (HQb.out W hW)) hg hW)
  have hnP := hp.len
  unfold great13 at hr
  rw [hg] at hr
  have HR := Lib.hid hr
  clear hL hp hg hr
  have m0 := HQl.out _ hq
  have x0 := m0.cell_at 0 rfl
  have x1 := m0.cell_at 1 rfl
  have x2 := m0.cell_at 2 rfl
  have x3 := m0.cell_at 3 rfl
  have x4 := m0.cell_at 4 rfl
  have x5 := m0.cell_at 5 rfl
  have x6 := m0.cell_at 6 rfl
  have x7 := m0.cell_at 7 rfl
  have x8 := m0.cell_at 8 rfl
  have x9 := m0.cell_at 9 rfl
  have x10 := m0.cell_at 10 rfl
  clear m0
  go_enter Tryd.func8, Tryd.ntmps8
  go_wp2_with fail
  refine (KG.out _ hq).mono ?_
  clear hq x0 x1 x2 x3 x4 x5 x6 x7 x8 x9 x10
  rintro e w1 ⟨rfl, hq⟩
  cases g
  · have y2 := (HQv.out _ hq).cell_at 2 rfl
    have HB := Lib.hid (HQb.out _ hq)
    by_cases hlt : p.ss.length ≤ 30
    · have hF : Hid (false = r) := Lib.hid (by rw [← HR.out]; simp; omega)
      have h1 : decide (30 < (p.ss.length : Int)) = false := decide_eq_false (by omega)
      have h2 : ¬ (30 < p.ss.length) := by omega
      have h3 : ¬ (30 < (p.ss.length : Int)) := by omega
      clear hq
      go_wp2_with fail
      go_ret
      exact ⟨ret_bool hF.out, HB.out⟩
    · have hF : Hid (true = r) := Lib.hid (by rw [← HR.out]; simp; omega)
      have h1 : decide (30 < (p.ss.length : Int)) = true := decide_eq_true (by omega)
      have h2 : 30 < p.ss.length := by omega
      have h3 : 30 < (p.ss.length : Int) := by omega
      clear hq
      go_wp2_with fail
      go_ret
      exact ⟨ret_bool hF.out, HB.out⟩
  · have hF : Hid (true = r) := Lib.hid (by rw [← HR.out]; rfl)
    have HB := Lib.hid (HQb.out _ hq)
    clear hq
    go_wp2_with fail
    go_ret
    exact ⟨ret_bool hF.out, HB.out⟩

theorem pl_of (s : Nat) (A : Option Addr) (c : Nat) : ofV (pl13 s) ⟨0, 0, A, c, [(0, 0, 2)]⟩ = [(0, 1, 0)] := by rfl
theorem pl_none (s : Nat) (A : Option Addr) (c : Nat) : ofV (pl13 s) ⟨0, 0, A, c, []⟩ = [] := by rfl
theorem pl_x (s : Nat) : ∀ x ∈ (pl13 s).exits, x.over.length ≤ 1000 := by
  intro x hx
  simp only [pl13, List.mem_cons, List.not_mem_nil, or_false] at hx
  subst hx
  show 0 ≤ 1000; omega
theorem pl_f (s : Nat) : (pl13 s).flanks.length ≤ 900 := by show 0 ≤ 900; omega
theorem pts_13 : pointsN [(3, 0, 0), (1, 1, 2), (3, 0, 0)] = [1, 3] := by
  refine rising_eq (points_rising _) (by simp [Rising]) fun x => ?_
  rw [mem_points]
  constructor
  · rintro ⟨a, ha, rfl⟩
    simp only [List.mem_cons, List.not_mem_nil, or_false] at ha
    rcases ha with rfl | rfl | rfl <;> simp
  · intro h
    simp only [List.mem_cons, List.not_mem_nil, or_false] at h
    rcases h with rfl | rfl
    · exact ⟨(1, 1, 2), by simp, rfl⟩
    · exact ⟨(3, 0, 0), by simp, rfl⟩
theorem nwf_a : ∀ x ∈ [((3 : Int), (0 : Int), (0 : Int)), (1, 1, 2)], NWf x := by
  intro x hx
  simp only [List.mem_cons, List.not_mem_nil, or_false] at hx
  rcases hx with rfl | rfl <;> exact ⟨by decide, by decide⟩
theorem nwf_b : ∀ x ∈ [((3 : Int), (1 : Int), (0 : Int))], NWf x := by
  intro x hx
  simp only [List.mem_cons, List.not_mem_nil, or_false] at hx
  subst hx
  exact ⟨by decide, by decide⟩

set_option maxRecDepth 100000 in
set_option maxHeartbeats 32000000 in
theorem wakes13_P {P : World → Prop} {w : World} (hP : Closed P) (hT : ∀ w, P w → Shapes w) (h : P w) : Calls Tryd.prog 9 #[] w fun e w' => e = .returned (.bool true) ∧ P w' := by
  obtain ⟨ga, hga⟩ : ∃ g, w.heap.size = g := ⟨_, rfl⟩
  obtain ⟨W1, hW1⟩ : ∃ W1, w.alloc (.cells #[.int .i64 3, .int .i64 0, .int .i64 0, .int .i64 1, .int .i64 1, .int .i64 2] 46) = W1 := ⟨_, rfl⟩
  obtain ⟨Q, HQ, HQp, HQT, HQa, hq⟩ : ∃ Q : World → Prop, Hid (Closed Q) ∧ Hid (∀ W, Q W → P W) ∧ Hid (∀ W, Q W → Shapes W) ∧ Hid (∀ W, Q W → Whole W ga 46 [.int .i64 3, .int .i64 0, .int .i64 0, .int .i64 1, .int .i64 1, .int .i64 2]) ∧ Q W1 :=
    ⟨fun W => P W ∧ Whole W ga 46 [.int .i64 3, .int .i64 0, .int .i64 0, .int .i64 1, .int .i64 1, .int .i64 2], Lib.hid (hP.and (Closed.whole _ _ _)), Lib.hid fun _ h => h.1, Lib.hid fun W h => hT W h.1, Lib.hid fun _ h => h.2, by rw [← hW1]; exact ⟨hP _ _ h (below1 _ _), Whole.new_at _ _ [.int .i64 3, .int .i64 0, .int .i64 0, .int .i64 1, .int .i64 1, .int .i64 2] _ hga.symm⟩⟩
  have HQr : Hid (∀ W, Q W → Row W W.heap.size (some ⟨ga, 0, none⟩) ([((3 : Int), (0 : Int), (0 : Int)), (1, 1, 2)].flatMap needCells)) := Lib.hid fun W hW => (HQa.out W hW).row (HQa.out W hW).lt
  have KA1 := Lib.hid (fun W hW => atB_P (P := Q) (w := W) HQ.out (ns := [((3 : Int), (0 : Int), (0 : Int)), (1, 1, 2)]) 2 HQr.out (by decide) 1 (x := 1) (ok := true) rfl hW)
  have KA2 := Lib.hid (fun W hW => atB_P (P := Q) (w := W) HQ.out (ns := [((3 : Int), (0 : Int), (0 : Int)), (1, 1, 2)]) 2 HQr.out (by decide) 2 (x := 0) (ok := false) rfl hW)
  have KPT : Hid (∀ W, Q W → Calls Tryd.prog 26 #[] W fun e w' => e = .returned (pl13 W.heap.size).val ∧ PtAt W.heap.size w' ∧ Q w') := Lib.hid fun W hW => (point13_any W rfl).mono (by
    rintro e w' ⟨rfl, h1, h2⟩
    exact ⟨rfl, h1, HQ.out _ _ hW h2⟩)
  have KCL2 : Hid (∀ W, Q W → Calls Tryd.prog 19 #[.slice (some ⟨ga, 0, none⟩) 2 2, .slice (some ⟨ga, 0, none⟩) 2 2] W fun e w' => e = .returned (.bool false) ∧ Q w') := Lib.hid fun W hW => keepR HQ.out (clashB_any (us := [((3 : Int), (0 : Int), (0 : Int)), (1, 1, 2)]) (vs := [((3 : Int), (0 : Int), (0 : Int)), (1, 1, 2)]) 2 2 (HQr.out W hW) (HQr.out W hW) nwf_a nwf_a (by decide) (r := false) (by rfl)) hW
  have KS1 := Lib.hid (fun W hW => sameB_P (P := Q) (w := W) HQ.out (a := [((3 : Int), (0 : Int), (0 : Int)), (1, 1, 2)]) (b := [((3 : Int), (0 : Int), (0 : Int)), (1, 1, 2)]) 2 2 HQr.out HQr.out (by decide) (r := true) (by decide) hW)
  have KS2 := Lib.hid (fun W hW => sameB_P (P := Q) (w := W) HQ.out (a := [((3 : Int), (0 : Int), (0 : Int)), (1, 1, 2)]) (b := []) 2 0 (Bv := none) HQr.out (fun W _ => Row.nil _ _ _) (by decide) (r := false) (by decide) hW)
  have KCL1 : Hid (∀ W g, Q W → Whole W g 46 [.int .i64 3, .int .i64 1, .int .i64 0] → Calls Tryd.prog 19 #[.slice (some ⟨ga, 0, none⟩) 2 2, .slice (some ⟨g, 0, none⟩) 1 1] W fun e w' => e = .returned (.bool true) ∧ Q w') := Lib.hid fun W g hW hg => keepR HQ.out (clashB_any (us := [((3 : Int), (0 : Int), (0 : Int)), (1, 1, 2)]) (vs := [(3, 1, 0)]) 2 1 (HQr.out W hW) (hg.row hg.lt) nwf_a nwf_b (by decide) (r := true) (by rfl)) hW
  have HW1 := Lib.hid (And.intro hga hW1)
  clear hP hT h hga hW1
  go_enter Tryd.func9, Tryd.ntmps9
  go_wp2_with fail
  try rw [HW1.out.2]
  try rw [HW1.out.1]
  clear HW1
  refine (KPT.out _ hq).mono ?_
  clear hq
  rintro e w1 ⟨rfl, hpt, hq⟩
  obtain ⟨s, hs⟩ : ∃ s, W1.heap.size = s := ⟨_, rfl⟩
  rw [hs] at hpt ⊢
  obtain ⟨W2, hW2⟩ : ∃ W2, w1.alloc (.cells #[.int .i64 0, .int .i64 0, .int .i64 2] 56) = W2 := ⟨_, rfl⟩
  have hq2 : Q W2 := by rw [← hW2]; exact HQ.out _ _ hq (below1 _ _)
  have hb2 : Whole W2 w1.heap.size 56 [.int .i64 0, .int .i64 0, .int .i64 2] := by rw [← hW2]; exact Whole.new _ _ [_, _, _]
  have hpt2 : PtAt s W2 := by rw [← hW2]; exact PtAt.closed _ _ _ hpt (below1 _ _)
  have KOF : Hid (Calls Tryd.prog 15 #[(pl13 s).val, .agg #[.int .i64 0, .int .i64 0, .slice (some ⟨w1.heap.size, 0, none⟩) 1 1]] W2 fun e w' => ∃ A c, e = .returned (.slice A 1 c) ∧ Row w' w'.heap.size A [.int .i64 0, .int .i64 1, .int .i64 0] ∧ Q w') := Lib.hid ((of13_any (p := ⟨0, 0, some ⟨w1.heap.size, 0, none⟩, 1, [(0, 0, 2)]⟩) (HQT.out _ hq2) hpt2.lies ⟨hb2.row hb2.lt, by show (1 : Int) ≤ _; omega⟩ (pl_x s) (pl_f s) (by rw [pl_of]; decide) (pl_of s _ _)).mono (by
    rintro e w' ⟨v, rfl, hown, hB⟩
    obtain ⟨A, c, rfl, hr⟩ := owns_read hown
    exact ⟨A, c, rfl, hr, HQ.out _ _ hq2 hB⟩))
  have HW2 := Lib.hid hW2
  clear hq hq2 hb2 hpt hpt2 hs hW2
  go_wp2_with fail
  try rw [HW2.out]
  refine KOF.out.mono ?_
  clear KOF HW2
  rintro e w2 ⟨An, cn, rfl, hrn, hq⟩
  have HRN := Lib.hid hrn
  obtain ⟨bn, on, hAn, _, hcn⟩ := hrn (by decide)
  subst hAn
  obtain ⟨Q2, HQ2, HQ2q, HQ2n, hq2⟩ : ∃ Q2 : World → Prop, Hid (Closed Q2) ∧ Hid (∀ W, Q2 W → Q W) ∧ Hid (∀ W, Q2 W → W.cell? ⟨bn, on, none⟩ = some (.int .i64 0) ∧ W.cell? ⟨bn, on + 1, none⟩ = some (.int .i64 1) ∧ W.cell? ⟨bn, on + 2, none⟩ = some (.int .i64 0)) ∧ Q2 w2 :=
    ⟨fun W => Q W ∧ Row W W.heap.size (some ⟨bn, on, none⟩) [.int .i64 0, .int .i64 1, .int .i64 0], Lib.hid (HQ.out.and (fun _ _ h hB => h.on hB)), Lib.hid fun _ h => h.1, Lib.hid (fun W h => by
      obtain ⟨b, o, e, _, hc⟩ := h.2 (by decide)
      cases e
      exact ⟨hc 0 _ rfl, hc 1 _ rfl, hc 2 _ rfl⟩), hq, HRN.out⟩
  have K1 : Hid (∀ W, Q2 W → Calls Tryd.prog 10 #[.slice (some ⟨ga, 0, none⟩) 2 2, .int .i64 1] W fun e w' => e = .returned (.tuple #[.int .i64 1, .bool true]) ∧ Q2 w') := Lib.hid fun W hW => atB_P (P := Q2) (w := W) HQ2.out (ns := [((3 : Int), (0 : Int), (0 : Int)), (1, 1, 2)]) 2 (fun W hW => HQr.out W (HQ2q.out W hW)) (by decide) 1 (x := 1) (ok := true) rfl hW
  have K2 : Hid (∀ W, Q2 W → Calls Tryd.prog 10 #[.slice (some ⟨ga, 0, none⟩) 2 2, .int .i64 2] W fun e w' => e = .returned (.tuple #[.int .i64 0, .bool false]) ∧ Q2 w') := Lib.hid fun W hW => atB_P (P := Q2) (w := W) HQ2.out (ns := [((3 : Int), (0 : Int), (0 : Int)), (1, 1, 2)]) 2 (fun W hW => HQr.out W (HQ2q.out W hW)) (by decide) 2 (x := 0) (ok := false) rfl hW
  clear hrn hcn hq KA1 KA2
  go_wp2_with fail
  refine (K1.out _ hq2).mono ?_
  clear hq2
  rintro e w3 ⟨rfl, hq2⟩
  go_wp2_with fail
  refine (K2.out _ hq2).mono ?_
  clear hq2 K1 K2
  rintro e w4 ⟨rfl, hq2⟩
  go_upto_region 5 with (fail)
  have HQ2a := Lib.hid (fun W hW => HQa.out W (HQ2q.out W hW))
  refine region_mix Q2 [(0, false), (1, false), (2, false), (3, false), (4, false), (5, false), (6, false), (7, false), (8, false), (9, true), (10, true), (11, false)] (by kernel_rfl) (by kernel_rfl) (fun W => Q2 W ∧ w4.heap.size ≤ W.heap.size) ⟨fun W W' h hb => ⟨HQ2.out _ _ h.1 hb, Nat.le_trans h.2 hb.size⟩, fun _ h => h.1⟩ ⟨HQ2.out.drew hq2, Nat.le_refl _⟩ ?_
  simp only [pickOps, List.getElem?_cons_zero, List.getElem?_cons_succ]
  iterate 9 (refine mix_read _ (by rfl) (fun W hW => by (have m0 := HQ2a.out W hW; have a0 := m0.cell_at 0 rfl; have a1 := m0.cell_at 1 rfl; have a2 := m0.cell_at 2 rfl; have a3 := m0.cell_at 3 rfl; have a4 := m0.cell_at 4 rfl; have a5 := m0.cell_at 5 rfl; clear m0; clear hW; go_simp; first | done | with_reducible rfl)) ?_; simp only [Act.put, List.setIfInBounds_toArray, List.set_cons_zero, List.set_cons_succ])
  refine mix_make (fun n => .slice (some ⟨n, 0, none⟩) 3 3) w4.heap.size 46 [.int .i64 3, .int .i64 0, .int .i64 0, .int .i64 1, .int .i64 1, .int .i64 2, .int .i64 3, .int .i64 0, .int .i64 0] ⟨fun W W' h hb => ⟨HQ2.out _ _ h.1 hb, Nat.le_trans h.2 hb.size⟩, fun _ h => h.1⟩ (fun W hW => hW.2) (by rfl) (fun W hW => by (clear hW; go_simp; first | done | with_reducible rfl)) (fun g hg => ?_)
  simp only [Act.put, List.setIfInBounds_toArray, List.set_cons_zero, List.set_cons_succ]
  refine mix_meet (fun x : Option Addr × Nat => .slice x.1 2 x.2) (fun x W => Row W W.heap.size x.1 (nums .i64 [1, 3])) ⟨fun W W' h hb => ⟨⟨HQ2.out _ _ h.1.1 hb, Nat.le_trans h.1.2 hb.size⟩, h.2.below hb h.2.lt⟩, fun _ h => h.1.1⟩ (fun x W W' h hB => h.on hB) _ _ (by rfl) (fun W hW => by (clear hW; go_simp; first | done | rfl)) (fun W hW => (points13_any (ns := [(3, 0, 0), (1, 1, 2), (3, 0, 0)]) 3 (hW.2.row hW.2.lt) (by decide)).mono (by
    rintro e w' ⟨v, rfl, hown, hB⟩
    rw [pts_13] at hown
    obtain ⟨A, c, rfl, hr⟩ := owns_read hown
    exact ⟨(A, c), rfl, hr, hB⟩)) (fun x => ?_)
  simp only [Act.put, List.setIfInBounds_toArray, List.set_cons_zero, List.set_cons_succ]
  refine mix_read _ (by rfl) (fun W hW => by (clear hW; go_simp; first | done | with_reducible rfl)) ?_
  simp only [Act.put, List.setIfInBounds_toArray, List.set_cons_zero, List.set_cons_succ]
  refine mix_nil (fun W hW => ?_)
  obtain ⟨⟨⟨hq2', _⟩, _⟩, hrl⟩ := hW
  obtain ⟨Al, cl⟩ := x
  simp only at hrl ⊢
  have HRL := Lib.hid hrl
  obtain ⟨bl, ol, hAl, _, _⟩ := hrl (by decide)
  subst hAl
  obtain ⟨Q3, HQ3, HQ3q, HQ3l, hq3⟩ : ∃ Q3 : World → Prop, Hid (Closed Q3) ∧ Hid (∀ W, Q3 W → Q2 W) ∧ Hid (∀ W, Q3 W → W.cell? ⟨bl, ol, none⟩ = some (.int .i64 1) ∧ W.cell? ⟨bl, ol + 1, none⟩ = some (.int .i64 3)) ∧ Q3 W :=
    ⟨fun W => Q2 W ∧ Row W W.heap.size (some ⟨bl, ol, none⟩) (nums .i64 [1, 3]), Lib.hid (HQ2.out.and (fun _ _ h hB => h.on hB)), Lib.hid fun _ h => h.1, Lib.hid (fun W h => by
      obtain ⟨b, o, e, _, hc⟩ := h.2 (by decide)
      cases e
      exact ⟨hc 0 _ rfl, hc 1 _ rfl⟩), hq2', HRL.out⟩
  clear hrl hq2' hq2 hg
  have HQ3r : Hid (∀ W, Q3 W → Row W W.heap.size (some ⟨ga, 0, none⟩) ([((3 : Int), (0 : Int), (0 : Int)), (1, 1, 2)].flatMap needCells)) := Lib.hid fun W hW => HQr.out W (HQ2q.out W (HQ3q.out W hW))
  have KC1 : Hid (∀ W g, Q3 W → Whole W g 46 [.int .i64 3, .int .i64 1, .int .i64 0] → Calls Tryd.prog 19 #[.slice (some ⟨ga, 0, none⟩) 2 2, .slice (some ⟨g, 0, none⟩) 1 1] W fun e w' => e = .returned (.bool true) ∧ Q3 w') := Lib.hid fun W g hW hg => keepR HQ3.out (clashB_any (us := [((3 : Int), (0 : Int), (0 : Int)), (1, 1, 2)]) (vs := [(3, 1, 0)]) 2 1 (HQ3r.out W hW) (hg.row hg.lt) nwf_a nwf_b (by decide) (r := true) (by rfl)) hW
  have KC2 : Hid (∀ W, Q3 W → Calls Tryd.prog 19 #[.slice (some ⟨ga, 0, none⟩) 2 2, .slice (some ⟨ga, 0, none⟩) 2 2] W fun e w' => e = .returned (.bool false) ∧ Q3 w') := Lib.hid fun W hW => keepR HQ3.out (clashB_any (us := [((3 : Int), (0 : Int), (0 : Int)), (1, 1, 2)]) (vs := [((3 : Int), (0 : Int), (0 : Int)), (1, 1, 2)]) 2 2 (HQ3r.out W hW) (HQ3r.out W hW) nwf_a nwf_a (by decide) (r := false) (by rfl)) hW
  have KPT3 : Hid (∀ W, Q3 W → Calls Tryd.prog 26 #[] W fun e w' => e = .returned (pl13 W.heap.size).val ∧ PtAt W.heap.size w' ∧ Q3 w') := Lib.hid fun W hW => (point13_any W rfl).mono (by
    rintro e w' ⟨rfl, h1, h2⟩
    exact ⟨rfl, h1, HQ3.out _ _ hW h2⟩)
  have KF : Hid (∀ W s, Q3 W → PtAt s W → Calls Tryd.prog 17 #[(pl13 s).val, .agg #[.int .i64 0, .int .i64 0, .slice none 0 0]] W fun e w' => e = .returned (.bool true) ∧ Q3 w') := Lib.hid fun W s hW hpt => keepR HQ3.out (fineB_any (p := ⟨0, 0, none, 0, []⟩) (HQT.out _ (HQ2q.out _ (HQ3q.out _ hW))) hpt.lies ⟨Row.nil _ _ _, by show (0 : Int) ≤ _; omega⟩ (pl_x s) (pl_f s) (by rw [pl_none]; decide) (fun x hx => by rw [pl_none] at hx; cases hx) (by rw [pl_none]; rfl)) hW
  have KS1 := Lib.hid (fun W hW => sameB_P (P := Q3) (w := W) HQ3.out (a := [((3 : Int), (0 : Int), (0 : Int)), (1, 1, 2)]) (b := [((3 : Int), (0 : Int), (0 : Int)), (1, 1, 2)]) 2 2 HQ3r.out HQ3r.out (by decide) (r := true) (by decide) hW)
  have KS2 := Lib.hid (fun W hW => sameB_P (P := Q3) (w := W) HQ3.out (a := [((3 : Int), (0 : Int), (0 : Int)), (1, 1, 2)]) (b := []) 2 0 (Bv := none) HQ3r.out (fun W _ => Row.nil _ _ _) (by decide) (r := false) (by decide) hW)
  clear KPT KCL2 KCL1 HQr
  obtain ⟨W6, hW6⟩ : ∃ W6, W.alloc (.cells #[.int .i64 3, .int .i64 1, .int .i64 0] 46) = W6 := ⟨_, rfl⟩
  have K6 : Hid (Calls Tryd.prog 19 #[.slice (some ⟨ga, 0, none⟩) 2 2, .slice (some ⟨W.heap.size, 0, none⟩) 1 1] W6 fun e w' => e = .returned (.bool true) ∧ Q3 w') := Lib.hid (KC1.out W6 _ (by rw [← hW6]; exact HQ3.out _ _ hq3 (below1 _ _)) (by rw [← hW6]; exact Whole.new _ _ [_, _, _]))
  have HW6 := Lib.hid hW6
  clear hW6 hq3
  go_wp2_with fail
  try rw [HW6.out]
  refine K6.out.mono ?_
  clear K6 HW6
  rintro e w6 ⟨rfl, hq⟩
  go_wp2_with fail
  refine (KC2.out _ hq).mono ?_
  clear hq
  rintro e w7 ⟨rfl, hq⟩
  have n0 := (HQ2n.out _ (HQ3q.out _ hq)).1
  have n1 := (HQ2n.out _ (HQ3q.out _ hq)).2.1
  have n2 := (HQ2n.out _ (HQ3q.out _ hq)).2.2
  have heq := fun W => eq_need W 0 1 0 0 1 0
  go_wp2_with fail
  refine (KPT3.out _ hq).mono ?_
  clear hq n0 n1 n2 heq
  rintro e w8 ⟨rfl, hpt, hq⟩
  obtain ⟨s8, hs8⟩ : ∃ s, w7.heap.size = s := ⟨_, rfl⟩
  rw [hs8] at hpt ⊢
  have K8 := Lib.hid (KF.out w8 s8 hq hpt)
  clear hpt hq hs8
  go_wp2_with fail
  refine K8.out.mono ?_
  clear K8
  rintro e w9 ⟨rfl, hq⟩
  have l0 := (HQ3l.out _ hq).1
  have l1 := (HQ3l.out _ hq).2
  go_wp2_with fail
  refine (KS1.out _ hq).mono ?_
  clear hq l0 l1
  rintro e w10 ⟨rfl, hq⟩
  go_wp2_with fail
  refine (KS2.out _ hq).mono ?_
  clear hq
  rintro e w11 ⟨rfl, hq⟩
  go_wp2_with fail
  go_ret
  exact ⟨rfl, HQp.out _ (HQ2q.out _ (HQ3q.out _ hq))⟩
end Go.Proofs.YtbdbgoploednbaaDoor
