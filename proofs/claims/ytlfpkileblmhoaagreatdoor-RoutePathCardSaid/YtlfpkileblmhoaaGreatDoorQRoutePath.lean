/- The walk of RoutePath: what a Route path is. -/
import Derived.Test.YtlfpkileblmhoaaGreatDoorQRouM
import Derived.Test.YtlfpkileblmhoaaGreatDoorQTopoR
import Derived.Test.YtlfpkileblmhoaaGreatDoorQC
namespace Go.Proofs.YtlfpkileblmhoaaGreatDoor
open Go.RowKit Go.Shelf
set_option linter.unusedVariables false
set_option linter.unusedSimpArgs false

/-- Where a path's step enters. -/
theorem enter_first {l : Lay} {p : Pth} {a : Int × Int × Int} (h : isPathV l p = true) (ha : p.ss[0]? = some a) : l.sigs[p.s.toNat]? = some (a.1, a.2.1) := by
  unfold isPathV at h
  simp only [Bool.and_eq_true] at h
  have hb := h.2.2.1
  unfold beginV at hb
  rw [List.head?_eq_getElem?, ha] at hb
  cases hy : l.sigs[p.s.toNat]? with
  | none => rw [hy] at hb; cases hb
  | some y =>
    rw [hy] at hb
    obtain ⟨y1, y2⟩ := y
    simp only [Bool.and_eq_true, beq_iff_eq] at hb
    rw [hb.1, hb.2]
theorem enter_next {l : Lay} {p : Pth} {j : Nat} {z a : Int × Int × Int} (h : isPathV l p = true) (hz : p.ss[j]? = some z) (ha : p.ss[j + 1]? = some a) : beyondV l z.1 z.2.2 = (a.1, a.2.1) := by
  unfold isPathV at h
  simp only [Bool.and_eq_true] at h
  have hg := h.2.1
  rw [goesS_parts, Bool.and_eq_true, List.all_eq_true, List.all_eq_true] at hg
  have := hg.2 _ (List.mem_of_getElem? (neigh_at hz ha))
  unfold hangS at this
  exact of_decide_eq_true this
theorem path_step {l : Lay} {p : Pth} {j : Nat} {a : Int × Int × Int} (h : isPathV l p = true) (ha : p.ss[j]? = some a) : stepV l a.1 a.2.1 a.2.2 = true := by
  unfold isPathV at h
  simp only [Bool.and_eq_true] at h
  have hg := h.2.1
  rw [goesS_parts, Bool.and_eq_true, List.all_eq_true] at hg
  exact hg.1 _ (List.mem_of_getElem? ha)
theorem path_size {l : Lay} {p : Pth} (h : isPathV l p = true) : 1 ≤ p.ss.length ∧ p.ss.length ≤ 12 := by
  unfold isPathV at h
  simp only [Bool.and_eq_true] at h
  have h1 := h.1
  unfold sizeP at h1
  rw [Bool.and_eq_true, decide_eq_true_eq, decide_eq_true_eq] at h1
  exact h1
theorem path_once {l : Lay} {p : Pth} (h : isPathV l p = true) : Once p.ss ∧ ∀ x ∈ p.ss, ∀ y ∈ overL10 l p.x, y.1 ≠ x.1 := by
  unfold isPathV at h
  simp only [Bool.and_eq_true] at h
  exact simple_iff.1 h.2.2.2.2.1
theorem path_pass {l : Lay} {p : Pth} {k : Nat} {x : Int × Int × Int} (h : isPathV l p = true) (hk : 0 < k) (hx : p.ss[k]? = some x) : signalV l x.1 x.2.1 < 0 := by
  unfold isPathV at h
  simp only [Bool.and_eq_true, Bool.not_eq_true'] at h
  have h1 := h.2.2.2.2.2
  unfold passV at h1
  rw [List.any_eq_false] at h1
  have hm : x ∈ p.ss.drop 1 := List.mem_of_getElem? (i := k - 1) (by rw [List.getElem?_drop, show 1 + (k - 1) = k by omega]; exact hx)
  have h2 := h1 x hm
  unfold sigAt at h2
  rw [decide_eq_true_eq] at h2
  omega
theorem path_end {l : Lay} {p : Pth} {x : Int × Int × Int} {y : Exm} (h : isPathV l p = true) (hx : p.ss[p.ss.length - 1]? = some x) (hy : l.exits[p.x.toNat]? = some y) : (x.1, x.2.2) = (y.s, y.q) := by
  unfold isPathV at h
  simp only [Bool.and_eq_true] at h
  have h1 := h.2.2.2.1
  rw [endV_at hx hy] at h1
  exact of_decide_eq_true h1

set_option maxRecDepth 100000 in
set_option maxHeartbeats 32000000 in
theorem routePath_walk (l : Lay) (p : Pth) (vs : List Int) (A : Option Addr) (c : Nat) (w : World) (hT : Shapes w) (hL : Lies l w) (hp : PLies p w) (hR : Row w w.heap.size A (nums .i64 vs)) (hcap : vs.length ≤ c) (hm : c ≤ maxLen) :
    Calls Tryz.prog 4 #[l.val, p.val, .slice A vs.length c] w fun e w' => e = .returned (.bool true) ∧ Below w.heap.size w w' := by
  obtain ⟨ps, px, Ap, cp, ss⟩ := p
  obtain ⟨Q, HQ, HQb, HQl, HQp, HQ0, hq⟩ : ∃ Q : World → Prop, Hid (Closed Q) ∧ Hid (∀ W, Q W → Below w.heap.size w W) ∧ Hid (∀ W, Q W → Whole W w.heap.size 29 l.cells) ∧ Hid (∀ W, Q W → Whole W (w.heap.size + 1) 32 (Pth.cells ⟨ps, px, Ap, cp, ss⟩)) ∧ Hid (∀ W, Below w.heap.size w W → Whole W w.heap.size 29 l.cells → Whole W (w.heap.size + 1) 32 (Pth.cells ⟨ps, px, Ap, cp, ss⟩) → Q W) ∧ Q ((w.alloc (.cells l.cells.toArray 29)).alloc (.cells (Pth.cells ⟨ps, px, Ap, cp, ss⟩).toArray 32)) :=
    ⟨fun W => Below w.heap.size w W ∧ Whole W w.heap.size 29 l.cells ∧ Whole W (w.heap.size + 1) 32 (Pth.cells ⟨ps, px, Ap, cp, ss⟩), Lib.hid ((Closed.below w).and ((Closed.whole _ _ _).and (Closed.whole _ _ _))), Lib.hid fun _ h => h.1, Lib.hid fun _ h => h.2.1, Lib.hid fun _ h => h.2.2, Lib.hid fun _ a b c => ⟨a, b, c⟩, below2 w _ _, (Whole.new w _ l.cells).alloc _, Whole.new_at _ _ (Pth.cells ⟨ps, px, Ap, cp, ss⟩) _ (by simp)⟩
  have hn : (vs.length : Int) ≤ 9223372036854775807 := by unfold maxLen at hm; omega
  have hT0 := Lib.hid hT
  have HTW : Hid (∀ W, Q W → Shapes W ∧ Lies l W) := Lib.hid fun W hW => ⟨Shapes.closed _ _ hT (HQb.out W hW), Lies.closed l _ _ hL (HQb.out W hW)⟩
  have HPW : Hid (∀ W, Q W → PLies ⟨ps, px, Ap, cp, ss⟩ W ∧ Row W W.heap.size A (nums .i64 vs)) := Lib.hid fun W hW => ⟨PLies.closed _ _ _ hp (HQb.out W hW), hR.on (HQb.out W hW)⟩
  have HRW : Hid (∀ W, Q W → Row W W.heap.size Ap (ss.flatMap stpCells)) := Lib.hid fun W hW => (HPW.out W hW).1.row
  have hln := hp.len
  simp only at hln
  obtain ⟨gp, hgp⟩ : ∃ g, great11 l ⟨ps, px, Ap, cp, ss⟩ = g := ⟨_, rfl⟩
  obtain ⟨ip, hip⟩ : ∃ b, (check11 l ⟨ps, px, Ap, cp, ss⟩ vs == 0) = b := ⟨_, rfl⟩
  have KGP : Hid (∀ W, Q W → Calls Tryz.prog 8 #[l.val, Pth.val ⟨ps, px, Ap, cp, ss⟩] W fun e w' => e = .returned (.bool gp) ∧ Q w') := Lib.hid (fun W hW => keepR HQ.out (great11_any (w := W) (HTW.out W hW).2 hgp) hW)
  have KIP : Hid (∀ W, Q W → Calls Tryz.prog 12 #[l.val, Pth.val ⟨ps, px, Ap, cp, ss⟩, .slice A vs.length c] W fun e w' => e = .returned (.bool ip) ∧ Q w') := Lib.hid (fun W hW => keepR HQ.out (is11_any (w := W) (HTW.out W hW).1 (HTW.out W hW).2 (HPW.out W hW).1 (HPW.out W hW).2 hcap hn hip) hW)
  have KW : Hid (∀ W, Q W → Calls Tryz.prog 9 #[] W fun e w' => e = .returned (.bool true) ∧ Below w.heap.size w w') := Lib.hid fun W hW => wakes11_P (P := fun W' => Below w.heap.size w W') (Closed.below w) (fun W' h => Shapes.closed _ _ hT0.out h) (HQb.out W hW)
  have HIP := Lib.hid hip
  clear hT hL hp hR hgp hip hcap hm
  go_enter Tryz.func4, Tryz.ntmps4
  have m0 := HQl.out _ hq
  have x0 := m0.cell_at 0 rfl
  have x1 := m0.cell_at 1 rfl
  have x2 := m0.cell_at 2 rfl
  have x3 := m0.cell_at 3 rfl
  have x4 := m0.cell_at 4 rfl
  have x5 := m0.cell_at 5 rfl
  have x6 := m0.cell_at 6 rfl
  have x7 := m0.cell_at 7 rfl
  have x8 := m0.cell_at 8 rfl
  have x9 := m0.cell_at 9 rfl
  have x10 := m0.cell_at 10 rfl
  clear m0
  have m0 := HQp.out _ hq
  have y0 := m0.cell_at 0 rfl
  have y1 := m0.cell_at 1 rfl
  have y2 := m0.cell_at 2 rfl
  clear m0
  go_wp2_with fail
  refine (KGP.out _ hq).mono ?_
  clear hq x0 x1 x2 x3 x4 x5 x6 x7 x8 x9 x10 y0 y1 y2
  rintro e w1 ⟨rfl, hq⟩
  cases gp
  rotate_left
  · go_wp2_with fail
    refine (KW.out _ hq).mono ?_
    clear hq
    rintro e wz ⟨rfl, hB⟩
    have HBz := Lib.hid hB
    clear hB
    go_wp2_with fail
    go_ret
    exact ⟨rfl, HBz.out⟩
  by_cases h10 : (10 : Int) < vs.length
  · go_wp2_with fail
    refine (KW.out _ hq).mono ?_
    clear hq
    rintro e wz ⟨rfl, hB⟩
    have HBz := Lib.hid hB
    clear hB
    go_wp2_with fail
    go_ret
    exact ⟨rfl, HBz.out⟩
  have m0 := HQl.out _ hq
  have x0 := m0.cell_at 0 rfl
  have x1 := m0.cell_at 1 rfl
  have x2 := m0.cell_at 2 rfl
  have x3 := m0.cell_at 3 rfl
  have x4 := m0.cell_at 4 rfl
  have x5 := m0.cell_at 5 rfl
  have x6 := m0.cell_at 6 rfl
  have x7 := m0.cell_at 7 rfl
  have x8 := m0.cell_at 8 rfl
  have x9 := m0.cell_at 9 rfl
  have x10 := m0.cell_at 10 rfl
  clear m0
  have m0 := HQp.out _ hq
  have y0 := m0.cell_at 0 rfl
  have y1 := m0.cell_at 1 rfl
  have y2 := m0.cell_at 2 rfl
  clear m0
  go_wp2_with fail
  refine (KIP.out _ hq).mono ?_
  clear hq x0 x1 x2 x3 x4 x5 x6 x7 x8 x9 x10 y0 y1 y2
  rintro e w2 ⟨rfl, hq⟩
  cases ip
  · go_wp2_with fail
    refine (KW.out _ hq).mono ?_
    clear hq
    rintro e wz ⟨rfl, hB⟩
    have HBz := Lib.hid hB
    clear hB
    go_wp2_with fail
    go_ret
    exact ⟨rfl, HBz.out⟩
  obtain ⟨⟨HRT, HKN, _⟩, HPV, HTH⟩ : (Hid (rightT l = true) ∧ Hid (knownV l ⟨ps, px, Ap, cp, ss⟩ = true) ∧ True) ∧ Hid (isPathV l ⟨ps, px, Ap, cp, ss⟩ = true) ∧ Hid (throughV ((secsS ss).drop 0) (vs.drop 0) = true) := by
    have h := check11_ok.1 (beq_iff_eq.1 HIP.out)
    exact ⟨⟨Lib.hid h.1.1, Lib.hid h.1.2.1, trivial⟩, Lib.hid h.2.1, Lib.hid h.2.2⟩
  obtain ⟨⟨hs0, hs1⟩, ht0, ht1⟩ : (0 ≤ ps ∧ ps < l.sigs.length) ∧ 0 ≤ px ∧ px < l.exits.length := by
    have h := HKN.out
    unfold knownV at h
    simp only [Bool.and_eq_true, decide_eq_true_eq] at h
    exact h
  obtain ⟨js, rfl⟩ : ∃ n : Nat, ps = n := ⟨ps.toNat, by omega⟩
  obtain ⟨jx, rfl⟩ : ∃ n : Nat, px = n := ⟨px.toNat, by omega⟩
  have hz := path_size HPV.out
  simp only at hz
  have h1 : ¬ (ss.length : Int) < 1 := by omega
  have h0n : 0 < ss.length := by omega
  have hne : ss ≠ [] := by intro e; rw [e] at h0n; simp at h0n
  have hnl : ¬ ss.length = 0 := by omega
  have q1 : decide (ss = []) = false := decide_eq_false hne
  have q2 : decide ((ss.length : Int) < 1) = false := decide_eq_false h1
  have q3 : decide (ss.length = 0) = false := decide_eq_false hnl
  have q4 : decide (ss.length < 1) = false := decide_eq_false (by omega)
  have h12 : ¬ (12 : Int) < ss.length := by omega
  have p1 : decide ((12 : Int) < ss.length) = false := decide_eq_false h12
  have p2 : ¬ 12 < ss.length := by omega
  have p3 : decide (12 < ss.length) = false := decide_eq_false p2
  have d1 : decide ((js : Int) < 0) = false := decide_eq_false (by omega)
  have d2 : decide ((l.sigs.length : Int) ≤ js) = false := decide_eq_false (by omega)
  have d2n : decide (l.sigs.length ≤ js) = false := decide_eq_false (by omega)
  have d3 : decide ((jx : Int) < 0) = false := decide_eq_false (by omega)
  have d4 : decide ((l.exits.length : Int) ≤ jx) = false := decide_eq_false (by omega)
  have d4n : decide (l.exits.length ≤ jx) = false := decide_eq_false (by omega)
  obtain ⟨⟨g1, g2⟩, hsg⟩ : ∃ y, l.sigs[js]? = some y := ⟨_, List.getElem?_eq_getElem (by omega)⟩
  obtain ⟨ex, hex⟩ : ∃ y, l.exits[jx]? = some y := ⟨_, List.getElem?_eq_getElem (by omega)⟩
  obtain ⟨bg, og, HAG, HG, HG'⟩ := row_at (f := prtCells) (n := 2) (fun _ => rfl) (by omega) (fun W hW => (HTW.out W hW).2.sigs) hq hsg
  obtain ⟨be, oe, HAE, HE, HE'⟩ := row_at (f := Exm.cells) (n := 3) (fun _ => rfl) (by omega) (fun W hW => (HTW.out W hW).2.exits) hq hex
  have HEC : Hid (∀ W, Q W → W.cell? ⟨be, oe + jx * 3, none⟩ = some (.int .i64 ex.s) ∧ W.cell? ⟨be, oe + jx * 3 + 1, none⟩ = some (.int .i64 ex.q) ∧ W.cell? ⟨be, oe + jx * 3 + 2, none⟩ = some (.slice ex.A ex.over.length ex.c)) := Lib.hid fun W hW => ⟨HE.out W hW jx _ _ hex rfl, HE'.out W hW jx _ 1 _ hex rfl, HE'.out W hW jx _ 2 _ hex rfl⟩
  have HOW : Hid (∀ W, Q W → Row W W.heap.size ex.A (ex.over.flatMap stpCells)) := Lib.hid fun W hW => (HTW.out W hW).2.overs ex (List.mem_of_getElem? hex)
  have hol := (HTW.out _ hq).2.nO ex (List.mem_of_getElem? hex)
  have HON := path_once HPV.out
  rw [show overL10 l (Pth.x ⟨js, jx, Ap, cp, ss⟩) = ex.over from over_at hex] at HON
  have HON := Lib.hid HON
  have HEN : Hid (∀ x, ss[ss.length - 1]? = some x → (x.1, x.2.2) = (ex.s, ex.q)) := Lib.hid fun x hx => path_end HPV.out hx hex
  have HBG : Hid (∀ x, ss[0]? = some x → (g1, g2) = (x.1, x.2.1)) := Lib.hid fun x hx => by
    have h := enter_first HPV.out (a := x) hx
    have h2 : l.sigs[js]? = some (x.1, x.2.1) := h
    rw [hsg] at h2
    exact Option.some.inj h2
  have KR : Hid (∀ W, Q W → Calls Tryz.prog 21 #[l.val] W fun e w' => e = .returned (.bool true) ∧ Q w') := Lib.hid (fun W hW => keepR HQ.out (rightRT_any (w := W) (HTW.out W hW).2 HRT.out) hW)
  have hjs : (js : Int) < l.sigs.length := hs1
  have hjx : (jx : Int) < l.exits.length := ht1
  clear hex hs0 hs1 ht0 ht1 HKN HIP HE HE' hz KGP KIP
  have m0 := HQl.out _ hq
  have x0 := m0.cell_at 0 rfl
  have x1 := m0.cell_at 1 rfl
  have x2 := m0.cell_at 2 rfl
  have x3 := m0.cell_at 3 rfl
  have x4 := m0.cell_at 4 rfl
  have x5 := m0.cell_at 5 rfl
  have x6 := m0.cell_at 6 rfl
  have x7 := m0.cell_at 7 rfl
  have x8 := m0.cell_at 8 rfl
  have x9 := m0.cell_at 9 rfl
  have x10 := m0.cell_at 10 rfl
  clear m0
  have m0 := HQp.out _ hq
  have y0 := m0.cell_at 0 rfl
  have y1 := m0.cell_at 1 rfl
  have y2 := m0.cell_at 2 rfl
  clear m0
  go_wp2_with fail
  refine (KR.out _ hq).mono ?_
  clear hq x0 x1 x2 x3 x4 x5 x6 x7 x8 x9 x10 y0 y1 y2
  rintro e w3 ⟨rfl, hq⟩
  have t0 := HG.out _ hq js _ _ hsg rfl
  have t1 := HG'.out _ hq js _ 1 _ hsg rfl
  have m0 := HQl.out _ hq
  have x0 := m0.cell_at 0 rfl
  have x1 := m0.cell_at 1 rfl
  have x2 := m0.cell_at 2 rfl
  have x3 := m0.cell_at 3 rfl
  have x4 := m0.cell_at 4 rfl
  have x5 := m0.cell_at 5 rfl
  have x6 := m0.cell_at 6 rfl
  have x7 := m0.cell_at 7 rfl
  have x8 := m0.cell_at 8 rfl
  have x9 := m0.cell_at 9 rfl
  have x10 := m0.cell_at 10 rfl
  clear m0
  have m0 := HQp.out _ hq
  have y0 := m0.cell_at 0 rfl
  have y1 := m0.cell_at 1 rfl
  have y2 := m0.cell_at 2 rfl
  clear m0
  rw [HAG.out] at x1
  obtain ⟨g8, hg8⟩ : ∃ g, w3.heap.size = g := ⟨_, rfl⟩
  obtain ⟨W5, hW5⟩ : ∃ W5, w3.alloc (.cells #[.int .i64 g1, .int .i64 g2] 46) = W5 := ⟨_, rfl⟩
  have hq5 : Q W5 := by rw [← hW5]; exact HQ.out _ _ hq (below1 _ _)
  have hgl : w.heap.size + 2 ≤ g8 := by have := (HQp.out _ hq).lt; omega
  have HA0 : Hid (∃ a b : Int, Whole W5 g8 46 (prtCells (a, b)) ∧ ∀ x, ss[0]? = some x → (a, b) = (x.1, x.2.1)) := Lib.hid ⟨g1, g2, by rw [← hW5]; exact Whole.new_at _ _ (prtCells (g1, g2)) _ hg8.symm, HBG.out⟩
  have HQS : Hid (∀ (W : World) (a b : Value), Q W → Q ((W.setCell ⟨g8, 0, none⟩ a).setCell ⟨g8, 1, none⟩ b)) := Lib.hid fun W a b hW => HQ0.out _ (((HQb.out _ hW).setCell (p := ⟨g8, 0, none⟩) (by show w.heap.size ≤ g8; omega) a).setCell (p := ⟨g8, 1, none⟩) (by show w.heap.size ≤ g8; omega) b) (((HQl.out _ hW).far (p := ⟨g8, 0, none⟩) (by show w.heap.size ≠ g8; omega) a).far (p := ⟨g8, 1, none⟩) (by show w.heap.size ≠ g8; omega) b) (((HQp.out _ hW).far (p := ⟨g8, 0, none⟩) (by show w.heap.size + 1 ≠ g8; omega) a).far (p := ⟨g8, 1, none⟩) (by show w.heap.size + 1 ≠ g8; omega) b)
  go_upto_region 7 with (fail)
  try rw [hW5]
  try rw [hg8]
  clear t0 t1 HG HG' hsg HBG hW5 hg8 hgl hq x0 x1 x2 x3 x4 x5 x6 x7 x8 x9 x10 y0 y1 y2 d1 d2 d2n d3 d4 d4n q1 q2 q3 q4 p1 p2 p3 h1 h12 hnl hne h0n
  go_wp2_with fail
  go_loopw [9] (fun i wr => ∃ k : Nat, k ≤ ss.length ∧ i = .int .i64 k ∧ Q wr ∧ Hid (∃ a b : Int, Whole wr g8 46 (prtCells (a, b)) ∧ ∀ x, ss[k]? = some x → (a, b) = (x.1, x.2.1))) (fun i _ => ss.length - (intOf i).toNat)
  case atStart => exact ⟨0, by omega, rfl, hq5, HA0⟩
  case round =>
    clear hq5 HA0
    obtain ⟨k, hk, rfl, hq, HA0⟩ := hrel
    obtain ⟨wa, rfl⟩ : ∃ W, W = wr := ⟨wr, rfl⟩
    by_cases hlt : k < ss.length
    rotate_left
    · have hlt' : ¬ (k : Int) < ss.length := by omega
      clear HA0
      go_wp2_with fail
      go_loopw [16, 17] (fun q i wr => ∃ (a i0 : Nat), a ≤ vs.length ∧ i0 ≤ ss.length ∧ q = .int .i64 a ∧ i = .int .i64 i0 ∧ Q wr ∧ Hid (throughV ((secsS ss).drop i0) (vs.drop a) = true)) (fun _ i _ => ss.length - (intOf i).toNat)
      case atStart => exact ⟨0, 0, by omega, by omega, rfl, rfl, hq, HTH⟩
      case round =>
        clear hq HTH
        obtain ⟨a, i0, ha, hi0, rfl, rfl, hq, HI⟩ := hrel
        obtain ⟨wv, rfl⟩ : ∃ W, W = wr := ⟨wr, rfl⟩
        by_cases hil : i0 < ss.length
        rotate_left
        · have hil' : ¬ (i0 : Int) < ss.length := by omega
          obtain rfl : a = vs.length := by
            have h := HI.out
            rw [List.drop_eq_nil_of_le (by simp; omega)] at h
            cases hd : vs.drop a with
            | nil => have := congrArg List.length hd; rw [List.length_drop] at this; simp at this; omega
            | cons v r => rw [hd] at h; cases h
          have hee : ((vs.length : Int) == (vs.length : Int)) = true := by simp
          clear HI
          go_wp2_with fail
          refine (KW.out _ hq).mono ?_
          clear hq
          rintro e wz ⟨rfl, hB⟩
          have HBz := Lib.hid hB
          clear hB
          go_wp2_with fail
          go_ret
          exact ⟨rfl, HBz.out⟩
        have hil' : (i0 : Int) < ss.length := by omega
        obtain ⟨⟨x1, x2, x3⟩, hx⟩ : ∃ x, ss[i0]? = some x := ⟨_, List.getElem?_eq_getElem hil⟩
        obtain ⟨b, off, HPA, HC, HC'⟩ := row_at (f := stpCells) (n := 3) (fun _ => rfl) (by omega) HRW.out hq hx
        have HXC : Hid (∀ W, Q W → W.cell? ⟨b, off + i0 * 3, none⟩ = some (.int .i64 x1) ∧ W.cell? ⟨b, off + i0 * 3 + 1, none⟩ = some (.int .i64 x2) ∧ W.cell? ⟨b, off + i0 * 3 + 2, none⟩ = some (.int .i64 x3)) := Lib.hid fun W hW => ⟨HC.out W hW i0 _ _ hx rfl, HC'.out W hW i0 _ 1 _ hx rfl, HC'.out W hW i0 _ 2 _ hx rfl⟩
        have HE := Lib.hid (secs_at hx)
        clear hx HC HC'
        by_cases hal : a < vs.length
        rotate_left
        · have ha1 : ¬ (a : Int) < vs.length := by omega
          have ha2 : decide ((a : Int) < vs.length) = false := decide_eq_false ha1
          have ha3 : decide (a < vs.length) = false := decide_eq_false hal
          have HN : Hid (throughV ((secsS ss).drop (i0 + 1)) (vs.drop a) = true) := Lib.hid (by rw [List.drop_eq_nil_of_le (by omega : vs.length ≤ a), through_nil])
          clear HI hal
          go_wp2_with fail
          have HBS : Hid (∀ W, Below wv.heap.size wv W → Q W) := Lib.hid (fun W hB => HQ.out _ _ hq hB)
          clear hq
          refine region_mix (Below wv.heap.size wv) [(0, false), (1, false), (2, false), (3, false), (4, false), (5, false), (6, false), (7, false), (8, false), (9, false), (10, false), (11, false), (12, false), (13, false), (14, false), (15, false), (16, false)] (by kernel_rfl) (by kernel_rfl) (Below wv.heap.size wv) ⟨Closed.below wv, fun _ h => h⟩ (Below.refl _ _).drew ?_
          simp only [pickOps, List.getElem?_cons_zero, List.getElem?_cons_succ]
          repeat (first | (refine mix_skip (by rfl) ?_; simp only [Act.put, List.setIfInBounds_toArray, List.set_cons_zero, List.set_cons_succ]) | (refine mix_read _ (by rfl) (fun W hW => by (have hW := HBS.out W hW; have m0 := HQl.out W hW; have x0 := m0.cell_at 0 rfl; have x1 := m0.cell_at 1 rfl; have x2 := m0.cell_at 2 rfl; have x3 := m0.cell_at 3 rfl; have x4 := m0.cell_at 4 rfl; have x5 := m0.cell_at 5 rfl; have x6 := m0.cell_at 6 rfl; have x7 := m0.cell_at 7 rfl; have x8 := m0.cell_at 8 rfl; have x9 := m0.cell_at 9 rfl; have x10 := m0.cell_at 10 rfl; clear m0; have m0 := HQp.out W hW; have y0 := m0.cell_at 0 rfl; have y1 := m0.cell_at 1 rfl; have y2 := m0.cell_at 2 rfl; clear m0; obtain ⟨c0, c1, c2⟩ := HXC.out W hW; go_simp; first | done | with_reducible rfl)) ?_; simp only [Act.put, List.setIfInBounds_toArray, List.set_cons_zero, List.set_cons_succ]) | (refine mix_read _ (by rfl) (fun W hW => by (have hW := HBS.out W hW; have m0 := HQl.out W hW; have x0 := m0.cell_at 0 rfl; have x1 := m0.cell_at 1 rfl; have x2 := m0.cell_at 2 rfl; have x3 := m0.cell_at 3 rfl; have x4 := m0.cell_at 4 rfl; have x5 := m0.cell_at 5 rfl; have x6 := m0.cell_at 6 rfl; have x7 := m0.cell_at 7 rfl; have x8 := m0.cell_at 8 rfl; have x9 := m0.cell_at 9 rfl; have x10 := m0.cell_at 10 rfl; clear m0; have m0 := HQp.out W hW; have y0 := m0.cell_at 0 rfl; have y1 := m0.cell_at 1 rfl; have y2 := m0.cell_at 2 rfl; clear m0; obtain ⟨c0, c1, c2⟩ := HXC.out W hW; rw [HPA.out]; go_simp; first | done | with_reducible rfl)) ?_; simp only [Act.put, List.setIfInBounds_toArray, List.set_cons_zero, List.set_cons_succ]))
          refine mix_nil (fun W hW => ?_)
          have hq := HBS.out W hW
          clear hW HBS
          go_wp2_with fail
          go_roundw
          case rel => exact ⟨a, i0 + 1, ha, hil, rfl, by go_num, hq, HN⟩
          case measure => simp [intOf]; omega
        have ha1 : (a : Int) < vs.length := by omega
        have ha2 : decide ((a : Int) < vs.length) = true := decide_eq_true ha1
        have ha3 : decide (a < vs.length) = true := decide_eq_true hal
        obtain ⟨v, hv⟩ : ∃ v, vs[a]? = some v := ⟨_, List.getElem?_eq_getElem hal⟩
        obtain ⟨b2, o2, hA, _, _⟩ := (HPW.out _ hq).2.num hal
        have HD0 : Hid (∀ W, Q W → W.cell? ⟨b2, o2 + a, none⟩ = some (.int .i64 v)) := Lib.hid fun W hW => by
          obtain ⟨b', o', e, _, h⟩ := (HPW.out _ hW).2.num hal
          rw [hA] at e
          cases e
          rw [hv] at h
          exact h
        have HA := Lib.hid hA
        have HI1 : Hid (throughV (x1 :: (secsS ss).drop (i0 + 1)) (v :: vs.drop (a + 1)) = true) := Lib.hid (by rw [← HI.out, drop_at hv, HE.out])
        clear HI hA HE
        by_cases hxv : x1 = v
        · have HN : Hid (throughV ((secsS ss).drop (i0 + 1)) (vs.drop (a + 1)) = true) := Lib.hid (by have := HI1.out; rw [through_cons, if_pos hxv] at this; exact this)
          have hee : (x1 == v) = true := by simp [hxv]
          clear hxv HI1 hv
          go_wp2_with fail
          have HBS : Hid (∀ W, Below wv.heap.size wv W → Q W) := Lib.hid (fun W hB => HQ.out _ _ hq hB)
          clear hq
          refine region_mix (Below wv.heap.size wv) [(0, false), (1, false), (2, false), (3, false), (4, false), (5, false), (6, false), (7, false), (8, false), (9, false), (10, false), (11, false), (12, false), (13, false), (14, false), (15, false), (16, false)] (by kernel_rfl) (by kernel_rfl) (Below wv.heap.size wv) ⟨Closed.below wv, fun _ h => h⟩ (Below.refl _ _).drew ?_
          simp only [pickOps, List.getElem?_cons_zero, List.getElem?_cons_succ]
          repeat (first | (refine mix_skip (by rfl) ?_; simp only [Act.put, List.setIfInBounds_toArray, List.set_cons_zero, List.set_cons_succ]) | (refine mix_read _ (by rfl) (fun W hW => by (have hW := HBS.out W hW; have m0 := HQl.out W hW; have x0 := m0.cell_at 0 rfl; have x1 := m0.cell_at 1 rfl; have x2 := m0.cell_at 2 rfl; have x3 := m0.cell_at 3 rfl; have x4 := m0.cell_at 4 rfl; have x5 := m0.cell_at 5 rfl; have x6 := m0.cell_at 6 rfl; have x7 := m0.cell_at 7 rfl; have x8 := m0.cell_at 8 rfl; have x9 := m0.cell_at 9 rfl; have x10 := m0.cell_at 10 rfl; clear m0; have m0 := HQp.out W hW; have y0 := m0.cell_at 0 rfl; have y1 := m0.cell_at 1 rfl; have y2 := m0.cell_at 2 rfl; clear m0; obtain ⟨c0, c1, c2⟩ := HXC.out W hW; have e0 := HD0.out W hW; go_simp; first | done | with_reducible rfl)) ?_; simp only [Act.put, List.setIfInBounds_toArray, List.set_cons_zero, List.set_cons_succ]) | (refine mix_read _ (by rfl) (fun W hW => by (have hW := HBS.out W hW; have m0 := HQl.out W hW; have x0 := m0.cell_at 0 rfl; have x1 := m0.cell_at 1 rfl; have x2 := m0.cell_at 2 rfl; have x3 := m0.cell_at 3 rfl; have x4 := m0.cell_at 4 rfl; have x5 := m0.cell_at 5 rfl; have x6 := m0.cell_at 6 rfl; have x7 := m0.cell_at 7 rfl; have x8 := m0.cell_at 8 rfl; have x9 := m0.cell_at 9 rfl; have x10 := m0.cell_at 10 rfl; clear m0; have m0 := HQp.out W hW; have y0 := m0.cell_at 0 rfl; have y1 := m0.cell_at 1 rfl; have y2 := m0.cell_at 2 rfl; clear m0; obtain ⟨c0, c1, c2⟩ := HXC.out W hW; have e0 := HD0.out W hW; rw [HPA.out]; go_simp; first | done | with_reducible rfl)) ?_; simp only [Act.put, List.setIfInBounds_toArray, List.set_cons_zero, List.set_cons_succ]) | (refine mix_read _ (by rfl) (fun W hW => by (have hW := HBS.out W hW; have m0 := HQl.out W hW; have x0 := m0.cell_at 0 rfl; have x1 := m0.cell_at 1 rfl; have x2 := m0.cell_at 2 rfl; have x3 := m0.cell_at 3 rfl; have x4 := m0.cell_at 4 rfl; have x5 := m0.cell_at 5 rfl; have x6 := m0.cell_at 6 rfl; have x7 := m0.cell_at 7 rfl; have x8 := m0.cell_at 8 rfl; have x9 := m0.cell_at 9 rfl; have x10 := m0.cell_at 10 rfl; clear m0; have m0 := HQp.out W hW; have y0 := m0.cell_at 0 rfl; have y1 := m0.cell_at 1 rfl; have y2 := m0.cell_at 2 rfl; clear m0; obtain ⟨c0, c1, c2⟩ := HXC.out W hW; have e0 := HD0.out W hW; rw [HA.out]; go_simp; first | done | with_reducible rfl)) ?_; simp only [Act.put, List.setIfInBounds_toArray, List.set_cons_zero, List.set_cons_succ]))
          refine mix_nil (fun W hW => ?_)
          have hq := HBS.out W hW
          clear hW HBS
          go_wp2_with fail
          go_roundw
          case rel => exact ⟨a + 1, i0 + 1, hal, hil, by go_num, by go_num, hq, HN⟩
          case measure => simp [intOf]; omega
        have HN : Hid (throughV ((secsS ss).drop (i0 + 1)) (vs.drop a) = true) := Lib.hid (by have := HI1.out; rw [through_cons, if_neg hxv] at this; rw [drop_at hv]; exact this)
        have hee : (x1 == v) = false := by simp [hxv]
        clear hxv HI1 hv
        go_wp2_with fail
        have HBS : Hid (∀ W, Below wv.heap.size wv W → Q W) := Lib.hid (fun W hB => HQ.out _ _ hq hB)
        clear hq
        refine region_mix (Below wv.heap.size wv) [(0, false), (1, false), (2, false), (3, false), (4, false), (5, false), (6, false), (7, false), (8, false), (9, false), (10, false), (11, false), (12, false), (13, false), (14, false), (15, false), (16, false)] (by kernel_rfl) (by kernel_rfl) (Below wv.heap.size wv) ⟨Closed.below wv, fun _ h => h⟩ (Below.refl _ _).drew ?_
        simp only [pickOps, List.getElem?_cons_zero, List.getElem?_cons_succ]
        repeat (first | (refine mix_skip (by rfl) ?_; simp only [Act.put, List.setIfInBounds_toArray, List.set_cons_zero, List.set_cons_succ]) | (refine mix_read _ (by rfl) (fun W hW => by (have hW := HBS.out W hW; have m0 := HQl.out W hW; have x0 := m0.cell_at 0 rfl; have x1 := m0.cell_at 1 rfl; have x2 := m0.cell_at 2 rfl; have x3 := m0.cell_at 3 rfl; have x4 := m0.cell_at 4 rfl; have x5 := m0.cell_at 5 rfl; have x6 := m0.cell_at 6 rfl; have x7 := m0.cell_at 7 rfl; have x8 := m0.cell_at 8 rfl; have x9 := m0.cell_at 9 rfl; have x10 := m0.cell_at 10 rfl; clear m0; have m0 := HQp.out W hW; have y0 := m0.cell_at 0 rfl; have y1 := m0.cell_at 1 rfl; have y2 := m0.cell_at 2 rfl; clear m0; obtain ⟨c0, c1, c2⟩ := HXC.out W hW; have e0 := HD0.out W hW; go_simp; first | done | with_reducible rfl)) ?_; simp only [Act.put, List.setIfInBounds_toArray, List.set_cons_zero, List.set_cons_succ]) | (refine mix_read _ (by rfl) (fun W hW => by (have hW := HBS.out W hW; have m0 := HQl.out W hW; have x0 := m0.cell_at 0 rfl; have x1 := m0.cell_at 1 rfl; have x2 := m0.cell_at 2 rfl; have x3 := m0.cell_at 3 rfl; have x4 := m0.cell_at 4 rfl; have x5 := m0.cell_at 5 rfl; have x6 := m0.cell_at 6 rfl; have x7 := m0.cell_at 7 rfl; have x8 := m0.cell_at 8 rfl; have x9 := m0.cell_at 9 rfl; have x10 := m0.cell_at 10 rfl; clear m0; have m0 := HQp.out W hW; have y0 := m0.cell_at 0 rfl; have y1 := m0.cell_at 1 rfl; have y2 := m0.cell_at 2 rfl; clear m0; obtain ⟨c0, c1, c2⟩ := HXC.out W hW; have e0 := HD0.out W hW; rw [HPA.out]; go_simp; first | done | with_reducible rfl)) ?_; simp only [Act.put, List.setIfInBounds_toArray, List.set_cons_zero, List.set_cons_succ]) | (refine mix_read _ (by rfl) (fun W hW => by (have hW := HBS.out W hW; have m0 := HQl.out W hW; have x0 := m0.cell_at 0 rfl; have x1 := m0.cell_at 1 rfl; have x2 := m0.cell_at 2 rfl; have x3 := m0.cell_at 3 rfl; have x4 := m0.cell_at 4 rfl; have x5 := m0.cell_at 5 rfl; have x6 := m0.cell_at 6 rfl; have x7 := m0.cell_at 7 rfl; have x8 := m0.cell_at 8 rfl; have x9 := m0.cell_at 9 rfl; have x10 := m0.cell_at 10 rfl; clear m0; have m0 := HQp.out W hW; have y0 := m0.cell_at 0 rfl; have y1 := m0.cell_at 1 rfl; have y2 := m0.cell_at 2 rfl; clear m0; obtain ⟨c0, c1, c2⟩ := HXC.out W hW; have e0 := HD0.out W hW; rw [HA.out]; go_simp; first | done | with_reducible rfl)) ?_; simp only [Act.put, List.setIfInBounds_toArray, List.set_cons_zero, List.set_cons_succ]))
        refine mix_nil (fun W hW => ?_)
        have hq := HBS.out W hW
        clear hW HBS
        go_wp2_with fail
        go_roundw
        case rel => exact ⟨a, i0 + 1, ha, hil, rfl, by go_num, hq, HN⟩
        case measure => simp [intOf]; omega
    have hlt' : (k : Int) < ss.length := by omega
    obtain ⟨⟨x1, x2, x3⟩, hx⟩ : ∃ x, ss[k]? = some x := ⟨_, List.getElem?_eq_getElem hlt⟩
    obtain ⟨j, y, e, hy, hky, hgk⟩ := step_some (path_step (p := ⟨js, jx, Ap, cp, ss⟩) HPV.out hx)
    simp only at e hky hgk
    subst e
    have hat : Whole wa g8 46 (prtCells ((j : Int), x2)) := by
      obtain ⟨a, b, h1, h2⟩ := HA0.out
      have h3 := h2 _ hx
      simp only [Prod.mk.injEq] at h3
      rw [h3.1, h3.2] at h1
      exact h1
    obtain ⟨b, off, HPA, HC, HC'⟩ := row_at (f := stpCells) (n := 3) (fun _ => rfl) (by omega) HRW.out hq hx
    obtain ⟨bs, os, HAS, HS0, HS1⟩ := row_at (f := Sec.cells) (n := 11) Sec.len (by omega) (fun W hW => (HTW.out W hW).2.secs) hq hy
    have hjl : (j : Int) < l.secs.length := by have := (List.getElem?_eq_some_iff.1 hy).1; omega
    have hj0 : decide ((j : Int) < 0) = false := decide_eq_false (by omega)
    have hj1 : decide ((l.secs.length : Int) ≤ (j : Int)) = false := decide_eq_false (by omega)
    have hj2 : decide (l.secs.length ≤ j) = false := decide_eq_false (by omega)
    have c0 := HC.out _ hq k _ _ hx rfl
    have c1 := HC'.out _ hq k _ 1 _ hx rfl
    have c2 := HC'.out _ hq k _ 2 _ hx rfl
    have y2 := (HQp.out _ hq).cell_at 2 rfl
    rw [HPA.out] at y2
    obtain ⟨g10, hg10⟩ : ∃ g, wa.heap.size = g := ⟨_, rfl⟩
    obtain ⟨W6, hW6⟩ : ∃ W6, wa.alloc (.cells #[.int .i64 (j : Int), .int .i64 x2, .int .i64 x3] 50) = W6 := ⟨_, rfl⟩
    have hq6 : Q W6 := by rw [← hW6]; exact HQ.out _ _ hq (below1 _ _)
    have ha6 : Whole W6 g8 46 (prtCells ((j : Int), x2)) := by rw [← hW6]; exact hat.alloc _
    have hb6 : Whole W6 g10 50 (stpCells ((j : Int), x2, x3)) := by rw [← hW6]; exact Whole.new_at _ _ (stpCells ((j : Int), x2, x3)) _ hg10.symm
    go_upto_region 11 with (fail)
    try rw [hW6]
    try rw [hg10]
    clear c0 c1 c2 y2 hW6 hg10 hat HA0 hq
    obtain ⟨T, HT, HTq, HTa, HTs, ht⟩ : ∃ T : World → Prop, Hid (Closed T) ∧ Hid (∀ W, T W → Q W) ∧ Hid (∀ W, T W → Whole W g8 46 (prtCells ((j : Int), x2))) ∧ Hid (∀ W, T W → Whole W g10 50 (stpCells ((j : Int), x2, x3))) ∧ T W6 :=
      ⟨fun W => Q W ∧ Whole W g8 46 (prtCells ((j : Int), x2)) ∧ Whole W g10 50 (stpCells ((j : Int), x2, x3)), Lib.hid (HQ.out.and ((Closed.whole _ _ _).and (Closed.whole _ _ _))), Lib.hid fun _ h => h.1, Lib.hid fun _ h => h.2.1, Lib.hid fun _ h => h.2.2, hq6, ha6, hb6⟩
    clear hq6 ha6 hb6
    have HTl : Hid (∀ W, T W → Whole W w.heap.size 29 l.cells) := Lib.hid fun W hW => HQl.out W (HTq.out W hW)
    have HTp : Hid (∀ W, T W → Whole W (w.heap.size + 1) 32 (Pth.cells ⟨js, jx, Ap, cp, ss⟩)) := Lib.hid fun W hW => HQp.out W (HTq.out W hW)
    have HSK : Hid (∀ W, T W → W.cell? ⟨bs, os + j * 11, none⟩ = some (.int .u8 y.k)) := Lib.hid fun W hW => HS0.out W (HTq.out W hW) j _ _ hy rfl
    obtain ⟨wy, hwy⟩ : ∃ v, wayK y.k x2 x3 = v := ⟨_, rfl⟩
    have KY : Hid (∀ W, T W → Calls Tryz.prog 22 #[.int .u8 y.k, .int .i64 x2, .int .i64 x3] W fun e w' => e = .returned (.tuple #[.int .i64 wy, .bool true]) ∧ Below W.heap.size W w') := Lib.hid fun W hW => wayR_P (P := fun W' => Below W.heap.size W W') (w := W) x2 x3 (shapeK y.k) hwy hgk (Below.refl _ _)
    obtain ⟨sg, hsg⟩ : ∃ s, signalV l (j : Int) x2 = s := ⟨_, rfl⟩
    have HSG : Hid (0 < k → sg < 0) := Lib.hid fun h => by rw [← hsg]; exact path_pass (p := ⟨js, jx, Ap, cp, ss⟩) HPV.out h hx
    have KSG : Hid (∀ W, T W → Calls Tryz.prog 23 #[l.val, prtV j x2] W fun e w' => e = .returned (.int .i64 sg) ∧ T w') := Lib.hid fun W hW => keepR HT.out (signalR_P (P := fun W' => Below W.heap.size W W') (Closed.below W) (fun W' h => Lies.closed l _ _ (HTW.out W (HTq.out W hW)).2 h) j x2 hsg (Below.refl _ _)) hW
    obtain ⟨⟨q1, q2⟩, hbv⟩ : ∃ q, beyondV l (j : Int) x3 = q := ⟨_, rfl⟩
    have KB : Hid (∀ W, T W → Calls Tryz.prog 24 #[l.val, prtV j x3] W fun e w' => e = .returned (prtV q1 q2) ∧ T w') := Lib.hid fun W hW => keepR HT.out (beyondJ_B (HTW.out W (HTq.out W hW)).2 j x3 hbv) hW
    have HNE : Hid (∀ x, ss[k + 1]? = some x → (q1, q2) = (x.1, x.2.1)) := Lib.hid fun x h => by rw [← hbv]; exact enter_next (p := ⟨js, jx, Ap, cp, ss⟩) HPV.out hx h
    have HNO : Hid (∀ (a : Nat) (z : Int × Int × Int), a < k → ss[a]? = some z → z.1 ≠ (j : Int)) := Lib.hid fun a z h hz => HON.out.1 a k _ _ h hz hx
    have HNV : Hid (∀ z ∈ ex.over, z.1 ≠ (j : Int)) := Lib.hid fun z hz => HON.out.2 _ (List.mem_of_getElem? hx) z hz
    have HLE : Hid (k + 1 = ss.length → (j : Int) = ex.s ∧ x3 = ex.q) := Lib.hid fun h => by
      have := HEN.out _ (show ss[ss.length - 1]? = some ((j : Int), x2, x3) by rw [← h]; exact hx)
      simpa using this
    have HHX := Lib.hid hx
    clear hx hy hky hgk hwy hsg hbv
    have hnq : ∀ W, (binOp .neq 46 (prtV (j : Int) x2) (prtV (j : Int) x2)).run Tryz.prog W = .ok (.bool false) W := fun W => by rw [neq_prtD]; simp
    have m0 := HTl.out _ ht
    have x0 := m0.cell_at 0 rfl
    have x1 := m0.cell_at 1 rfl
    have x2 := m0.cell_at 2 rfl
    have x3 := m0.cell_at 3 rfl
    have x4 := m0.cell_at 4 rfl
    have x5 := m0.cell_at 5 rfl
    have x6 := m0.cell_at 6 rfl
    have x7 := m0.cell_at 7 rfl
    have x8 := m0.cell_at 8 rfl
    have x9 := m0.cell_at 9 rfl
    have x10 := m0.cell_at 10 rfl
    clear m0
    have m0 := HTp.out _ ht
    have y0 := m0.cell_at 0 rfl
    have y1 := m0.cell_at 1 rfl
    have y2 := m0.cell_at 2 rfl
    clear m0
    have m0 := HTa.out _ ht
    have v0 := m0.cell_at 0 rfl
    have v1 := m0.cell_at 1 rfl
    clear m0
    have m0 := HTs.out _ ht
    have u0 := m0.cell_at 0 rfl
    have u1 := m0.cell_at 1 rfl
    have u2 := m0.cell_at 2 rfl
    clear m0
    go_upto_region 13 with (fail)
    clear hnq x0 x1 x2 x3 x4 x5 x6 x7 x8 x9 x10 y0 y1 y2 v0 v1 u0 u1 u2
    go_wp2_with fail
    have HBS : Hid (∀ W, Below W6.heap.size W6 W → T W) := Lib.hid (fun W hB => HT.out _ _ ht hB)
    clear ht
    refine region_mix (Below W6.heap.size W6) [(0, false), (1, false), (2, false), (3, false), (4, false), (5, false), (6, false), (7, false), (8, false), (9, false), (10, false), (11, false), (12, false), (13, false), (14, false), (15, false), (16, false)] (by kernel_rfl) (by kernel_rfl) (Below W6.heap.size W6) ⟨Closed.below W6, fun _ h => h⟩ (Below.refl _ _).drew ?_
    simp only [pickOps, List.getElem?_cons_zero, List.getElem?_cons_succ]
    repeat (first | (refine mix_skip (by rfl) ?_; simp only [Act.put, List.setIfInBounds_toArray, List.set_cons_zero, List.set_cons_succ]) | (refine mix_read _ (by rfl) (fun W hW => by (have hW := HBS.out W hW; have m0 := HTl.out W hW; have x0 := m0.cell_at 0 rfl; have x1 := m0.cell_at 1 rfl; have x2 := m0.cell_at 2 rfl; have x3 := m0.cell_at 3 rfl; have x4 := m0.cell_at 4 rfl; have x5 := m0.cell_at 5 rfl; have x6 := m0.cell_at 6 rfl; have x7 := m0.cell_at 7 rfl; have x8 := m0.cell_at 8 rfl; have x9 := m0.cell_at 9 rfl; have x10 := m0.cell_at 10 rfl; clear m0; have m0 := HTs.out W hW; have u0 := m0.cell_at 0 rfl; have u1 := m0.cell_at 1 rfl; have u2 := m0.cell_at 2 rfl; clear m0; have s0 := HSK.out W hW; go_simp; first | done | with_reducible rfl)) ?_; simp only [Act.put, List.setIfInBounds_toArray, List.set_cons_zero, List.set_cons_succ]) | (refine mix_read _ (by rfl) (fun W hW => by (have hW := HBS.out W hW; have m0 := HTl.out W hW; have x0 := m0.cell_at 0 rfl; have x1 := m0.cell_at 1 rfl; have x2 := m0.cell_at 2 rfl; have x3 := m0.cell_at 3 rfl; have x4 := m0.cell_at 4 rfl; have x5 := m0.cell_at 5 rfl; have x6 := m0.cell_at 6 rfl; have x7 := m0.cell_at 7 rfl; have x8 := m0.cell_at 8 rfl; have x9 := m0.cell_at 9 rfl; have x10 := m0.cell_at 10 rfl; clear m0; have m0 := HTs.out W hW; have u0 := m0.cell_at 0 rfl; have u1 := m0.cell_at 1 rfl; have u2 := m0.cell_at 2 rfl; clear m0; have s0 := HSK.out W hW; rw [HAS.out]; go_simp; first | done | with_reducible rfl)) ?_; simp only [Act.put, List.setIfInBounds_toArray, List.set_cons_zero, List.set_cons_succ]) | (refine mix_call _ _ _ (by rfl) (fun W hW => by (have hW := HBS.out W hW; have m0 := HTl.out W hW; have x0 := m0.cell_at 0 rfl; have x1 := m0.cell_at 1 rfl; have x2 := m0.cell_at 2 rfl; have x3 := m0.cell_at 3 rfl; have x4 := m0.cell_at 4 rfl; have x5 := m0.cell_at 5 rfl; have x6 := m0.cell_at 6 rfl; have x7 := m0.cell_at 7 rfl; have x8 := m0.cell_at 8 rfl; have x9 := m0.cell_at 9 rfl; have x10 := m0.cell_at 10 rfl; clear m0; have m0 := HTs.out W hW; have u0 := m0.cell_at 0 rfl; have u1 := m0.cell_at 1 rfl; have u2 := m0.cell_at 2 rfl; clear m0; have s0 := HSK.out W hW; go_simp; first | done | rfl)) (fun W hW => KY.out W (HBS.out W hW)) ?_; simp only [Act.put, List.setIfInBounds_toArray, List.set_cons_zero, List.set_cons_succ]))
    refine mix_nil (fun W hW => ?_)
    have ht := HBS.out W hW
    clear hW HBS
    obtain ⟨wb, rfl⟩ : ∃ X, X = W := ⟨W, rfl⟩
    go_upto_region 14 with (fail)
    go_cut [137] from 126 to 137 (fun v wx => v = .bool false ∧ Hid (T wx))
    case first =>
      by_cases hk0 : 0 < k
      rotate_left
      · have hz2 : decide ((0 : Int) < (k : Int)) = false := decide_eq_false (by omega)
        have hz3 : decide (0 < k) = false := decide_eq_false hk0
        have hz4 : ¬ (0 : Int) < (k : Int) := by omega
        go_wp2_with fail
        go_meet
        exact ⟨rfl, Lib.hid ht⟩
      · have hz2 : decide ((0 : Int) < (k : Int)) = true := decide_eq_true (by omega)
        have hz3 : decide (0 < k) = true := decide_eq_true hk0
        have hz4 : (0 : Int) < (k : Int) := by omega
        have hsn := HSG.out hk0
        have hs1 : decide (0 ≤ sg) = false := decide_eq_false (by omega)
        have hs2 : ¬ 0 ≤ sg := by omega
        have m0 := HTl.out _ ht
        have x0 := m0.cell_at 0 rfl
        have x1 := m0.cell_at 1 rfl
        have x2 := m0.cell_at 2 rfl
        have x3 := m0.cell_at 3 rfl
        have x4 := m0.cell_at 4 rfl
        have x5 := m0.cell_at 5 rfl
        have x6 := m0.cell_at 6 rfl
        have x7 := m0.cell_at 7 rfl
        have x8 := m0.cell_at 8 rfl
        have x9 := m0.cell_at 9 rfl
        have x10 := m0.cell_at 10 rfl
        clear m0
        have m0 := HTa.out _ ht
        have v0 := m0.cell_at 0 rfl
        have v1 := m0.cell_at 1 rfl
        clear m0
        go_wp2_with fail
        refine (KSG.out _ ht).mono ?_
        clear ht x0 x1 x2 x3 x4 x5 x6 x7 x8 x9 x10 v0 v1
        rintro e w4 ⟨rfl, ht⟩
        go_wp2_with fail
        go_meet
        exact ⟨rfl, Lib.hid ht⟩
    case rest =>
    obtain ⟨rfl, HC14⟩ := hcut
    obtain ⟨wf, rfl⟩ : ∃ W, W = wc := ⟨wc, rfl⟩
    have ht := HC14.out
    clear HC14 KSG KY
    go_wp2_with fail
    go_loopw [13] (fun i wr => ∃ a : Nat, a ≤ k ∧ i = .int .i64 a ∧ T wr) (fun i _ => k - (intOf i).toNat)
    case atStart => exact ⟨0, by omega, rfl, ht⟩
    case round =>
      clear ht
      obtain ⟨a, ha, rfl, ht⟩ := hrel
      obtain ⟨wi, rfl⟩ : ∃ W, W = wr := ⟨wr, rfl⟩
      by_cases hak : a < k
      · have hak' : (a : Int) < (k : Int) := by omega
        have hk2 : (a : Int) < ss.length := by omega
        obtain ⟨⟨y1, y2, y3⟩, hyy⟩ : ∃ x, ss[a]? = some x := ⟨_, List.getElem?_eq_getElem (by omega)⟩
        have HYC : Hid (∀ W, Q W → W.cell? ⟨b, off + a * 3, none⟩ = some (.int .i64 y1) ∧ W.cell? ⟨b, off + a * 3 + 1, none⟩ = some (.int .i64 y2) ∧ W.cell? ⟨b, off + a * 3 + 2, none⟩ = some (.int .i64 y3)) := Lib.hid fun W hW => ⟨HC.out W hW a _ _ hyy rfl, HC'.out W hW a _ 1 _ hyy rfl, HC'.out W hW a _ 2 _ hyy rfl⟩
        have hne : (y1 == (j : Int)) = false := beq_eq_false_iff_ne.2 (HNO.out a _ hak hyy)
        clear hyy
        go_wp2_with fail
        have HBS : Hid (∀ W, Below wi.heap.size wi W → T W) := Lib.hid (fun W hB => HT.out _ _ ht hB)
        clear ht
        refine region_mix (Below wi.heap.size wi) [(0, false), (1, false), (2, false), (3, false), (4, false), (5, false), (6, false), (7, false), (8, false)] (by kernel_rfl) (by kernel_rfl) (Below wi.heap.size wi) ⟨Closed.below wi, fun _ h => h⟩ (Below.refl _ _).drew ?_
        simp only [pickOps, List.getElem?_cons_zero, List.getElem?_cons_succ]
        repeat (first | (refine mix_skip (by rfl) ?_; simp only [Act.put, List.setIfInBounds_toArray, List.set_cons_zero, List.set_cons_succ]) | (refine mix_read _ (by rfl) (fun W hW => by (have hW := HBS.out W hW; have m0 := HTp.out W hW; have y0 := m0.cell_at 0 rfl; have y1 := m0.cell_at 1 rfl; have y2 := m0.cell_at 2 rfl; clear m0; have m0 := HTs.out W hW; have u0 := m0.cell_at 0 rfl; have u1 := m0.cell_at 1 rfl; have u2 := m0.cell_at 2 rfl; clear m0; obtain ⟨d0, d1, d2⟩ := HYC.out W (HTq.out W hW); go_simp; first | done | with_reducible rfl)) ?_; simp only [Act.put, List.setIfInBounds_toArray, List.set_cons_zero, List.set_cons_succ]) | (refine mix_read _ (by rfl) (fun W hW => by (have hW := HBS.out W hW; have m0 := HTp.out W hW; have y0 := m0.cell_at 0 rfl; have y1 := m0.cell_at 1 rfl; have y2 := m0.cell_at 2 rfl; clear m0; have m0 := HTs.out W hW; have u0 := m0.cell_at 0 rfl; have u1 := m0.cell_at 1 rfl; have u2 := m0.cell_at 2 rfl; clear m0; obtain ⟨d0, d1, d2⟩ := HYC.out W (HTq.out W hW); rw [HPA.out]; go_simp; first | done | with_reducible rfl)) ?_; simp only [Act.put, List.setIfInBounds_toArray, List.set_cons_zero, List.set_cons_succ]))
        refine mix_nil (fun W hW => ?_)
        have ht := HBS.out W hW
        clear hW HBS
        go_wp2_with fail
        go_roundw
        case rel => exact ⟨a + 1, hak, by go_num, ht⟩
        case measure => simp [intOf]; omega
      obtain rfl : a = k := by omega
      have hak' : ¬ (a : Int) < (a : Int) := by omega
      have m0 := HTl.out _ ht
      have x0 := m0.cell_at 0 rfl
      have x1 := m0.cell_at 1 rfl
      have x2 := m0.cell_at 2 rfl
      have x3 := m0.cell_at 3 rfl
      have x4 := m0.cell_at 4 rfl
      have x5 := m0.cell_at 5 rfl
      have x6 := m0.cell_at 6 rfl
      have x7 := m0.cell_at 7 rfl
      have x8 := m0.cell_at 8 rfl
      have x9 := m0.cell_at 9 rfl
      have x10 := m0.cell_at 10 rfl
      clear m0
      have m0 := HTp.out _ ht
      have y0 := m0.cell_at 0 rfl
      have y1 := m0.cell_at 1 rfl
      have y2 := m0.cell_at 2 rfl
      clear m0
      rw [HAE.out] at x2
      obtain ⟨s0, s1, s2⟩ := HEC.out _ (HTq.out _ ht)
      have HQ1 := Lib.hid ht
      go_wp2_with fail
      clear ht s0 s1 s2 hak' x0 x1 x2 x3 x4 x5 x6 x7 x8 x9 x10 y0 y1 y2
      go_loopw [15] (fun i wr => ∃ t : Nat, t ≤ ex.over.length ∧ i = .int .i64 t ∧ T wr) (fun i _ => ex.over.length - (intOf i).toNat)
      case atStart => exact ⟨0, by omega, rfl, HQ1.out⟩
      case round =>
        clear HQ1
        obtain ⟨t, htl, rfl, ht⟩ := hrel
        obtain ⟨wo, rfl⟩ : ∃ W, W = wr := ⟨wr, rfl⟩
        by_cases hto : t < ex.over.length
        · have hto' : (t : Int) < ex.over.length := by omega
          obtain ⟨⟨y1, y2, y3⟩, hyy⟩ : ∃ x, ex.over[t]? = some x := ⟨_, List.getElem?_eq_getElem hto⟩
          obtain ⟨b2, o2, HB2, HD, HD'⟩ := row_at (f := stpCells) (n := 3) (fun _ => rfl) (by omega) HOW.out (HTq.out _ ht) hyy
          have HVC : Hid (∀ W, Q W → W.cell? ⟨b2, o2 + t * 3, none⟩ = some (.int .i64 y1) ∧ W.cell? ⟨b2, o2 + t * 3 + 1, none⟩ = some (.int .i64 y2) ∧ W.cell? ⟨b2, o2 + t * 3 + 2, none⟩ = some (.int .i64 y3)) := Lib.hid fun W hW => ⟨HD.out W hW t _ _ hyy rfl, HD'.out W hW t _ 1 _ hyy rfl, HD'.out W hW t _ 2 _ hyy rfl⟩
          have hne : (y1 == (j : Int)) = false := beq_eq_false_iff_ne.2 (HNV.out _ (List.mem_of_getElem? hyy))
          clear hyy HD HD'
          go_wp2_with fail
          have HBS : Hid (∀ W, Below wo.heap.size wo W → T W) := Lib.hid (fun W hB => HT.out _ _ ht hB)
          clear ht
          refine region_mix (Below wo.heap.size wo) [(0, false), (1, false), (2, false), (3, false), (4, false), (5, false), (6, false), (7, false)] (by kernel_rfl) (by kernel_rfl) (Below wo.heap.size wo) ⟨Closed.below wo, fun _ h => h⟩ (Below.refl _ _).drew ?_
          simp only [pickOps, List.getElem?_cons_zero, List.getElem?_cons_succ]
          repeat (first | (refine mix_skip (by rfl) ?_; simp only [Act.put, List.setIfInBounds_toArray, List.set_cons_zero, List.set_cons_succ]) | (refine mix_read _ (by rfl) (fun W hW => by (have hW := HBS.out W hW; have m0 := HTs.out W hW; have u0 := m0.cell_at 0 rfl; have u1 := m0.cell_at 1 rfl; have u2 := m0.cell_at 2 rfl; clear m0; obtain ⟨d0, d1, d2⟩ := HVC.out W (HTq.out W hW); go_simp; first | done | with_reducible rfl)) ?_; simp only [Act.put, List.setIfInBounds_toArray, List.set_cons_zero, List.set_cons_succ]) | (refine mix_read _ (by rfl) (fun W hW => by (have hW := HBS.out W hW; have m0 := HTs.out W hW; have u0 := m0.cell_at 0 rfl; have u1 := m0.cell_at 1 rfl; have u2 := m0.cell_at 2 rfl; clear m0; obtain ⟨d0, d1, d2⟩ := HVC.out W (HTq.out W hW); rw [HB2.out]; go_simp; first | done | with_reducible rfl)) ?_; simp only [Act.put, List.setIfInBounds_toArray, List.set_cons_zero, List.set_cons_succ]))
          refine mix_nil (fun W hW => ?_)
          have ht := HBS.out W hW
          clear hW HBS
          go_wp2_with fail
          go_roundw
          case rel => exact ⟨t + 1, hto, by go_num, ht⟩
          case measure => simp [intOf]; omega
        have hto' : ¬ (t : Int) < ex.over.length := by omega
        obtain ⟨m, hm⟩ : ∃ m, ss.length = m + 1 := ⟨ss.length - 1, by omega⟩
        have hwm : IntKind.i64.wrap ((ss.length : Int) - 1) = (m : Int) := by rw [IntWalk.i64_in _ (by omega)]; omega
        by_cases hkm : a = m
        · have hkm1 : ((a : Int) == (m : Int)) = true := by simp [hkm]
          have hkm2 : decide (a = m) = true := decide_eq_true hkm
          have hkm3 : (a == m) = true := by simp [hkm]
          have HXQ := HLE.out (by omega)
          have HN2 : Hid (∀ W, (binOp .neq 46 (prtV ex.s ex.q) (prtV (j : Int) x3)).run Tryz.prog W = .ok (.bool false) W) := Lib.hid fun W => by rw [neq_prtD, HXQ.1, HXQ.2]; simp
          clear HXQ hkm hm
          go_wp2_with fail
          have HBS : Hid (∀ W, Below wo.heap.size wo W → T W) := Lib.hid (fun W hB => HT.out _ _ ht hB)
          clear ht
          refine region_mix (Below wo.heap.size wo) [(0, false), (1, false), (2, false), (3, false), (4, false), (5, false), (6, false), (7, false), (8, false), (9, false), (10, false), (11, false), (12, false), (13, false), (14, false), (15, false), (16, false), (17, false), (18, false)] (by kernel_rfl) (by kernel_rfl) (Below wo.heap.size wo) ⟨Closed.below wo, fun _ h => h⟩ (Below.refl _ _).drew ?_
          simp only [pickOps, List.getElem?_cons_zero, List.getElem?_cons_succ]
          repeat (first | (refine mix_skip (by rfl) ?_; simp only [Act.put, List.setIfInBounds_toArray, List.set_cons_zero, List.set_cons_succ]) | (refine mix_read _ (by rfl) (fun W hW => by (have hW := HBS.out W hW; have m0 := HTl.out W hW; have x0 := m0.cell_at 0 rfl; have x1 := m0.cell_at 1 rfl; have x2 := m0.cell_at 2 rfl; have x3 := m0.cell_at 3 rfl; have x4 := m0.cell_at 4 rfl; have x5 := m0.cell_at 5 rfl; have x6 := m0.cell_at 6 rfl; have x7 := m0.cell_at 7 rfl; have x8 := m0.cell_at 8 rfl; have x9 := m0.cell_at 9 rfl; have x10 := m0.cell_at 10 rfl; clear m0; have m0 := HTp.out W hW; have y0 := m0.cell_at 0 rfl; have y1 := m0.cell_at 1 rfl; have y2 := m0.cell_at 2 rfl; clear m0; have m0 := HTs.out W hW; have u0 := m0.cell_at 0 rfl; have u1 := m0.cell_at 1 rfl; have u2 := m0.cell_at 2 rfl; clear m0; obtain ⟨s0, s1, s2⟩ := HEC.out W (HTq.out W hW); have hn2 := HN2.out; go_simp; first | done | with_reducible rfl)) ?_; simp only [Act.put, List.setIfInBounds_toArray, List.set_cons_zero, List.set_cons_succ]) | (refine mix_read _ (by rfl) (fun W hW => by (have hW := HBS.out W hW; have m0 := HTl.out W hW; have x0 := m0.cell_at 0 rfl; have x1 := m0.cell_at 1 rfl; have x2 := m0.cell_at 2 rfl; have x3 := m0.cell_at 3 rfl; have x4 := m0.cell_at 4 rfl; have x5 := m0.cell_at 5 rfl; have x6 := m0.cell_at 6 rfl; have x7 := m0.cell_at 7 rfl; have x8 := m0.cell_at 8 rfl; have x9 := m0.cell_at 9 rfl; have x10 := m0.cell_at 10 rfl; clear m0; have m0 := HTp.out W hW; have y0 := m0.cell_at 0 rfl; have y1 := m0.cell_at 1 rfl; have y2 := m0.cell_at 2 rfl; clear m0; have m0 := HTs.out W hW; have u0 := m0.cell_at 0 rfl; have u1 := m0.cell_at 1 rfl; have u2 := m0.cell_at 2 rfl; clear m0; obtain ⟨s0, s1, s2⟩ := HEC.out W (HTq.out W hW); have hn2 := HN2.out; rw [HAE.out]; go_simp; first | done | with_reducible rfl)) ?_; simp only [Act.put, List.setIfInBounds_toArray, List.set_cons_zero, List.set_cons_succ]))
          refine mix_nil (fun W hW => ?_)
          have ht := HBS.out W hW
          clear hW HBS
          have m0 := HTl.out _ ht
          have x0 := m0.cell_at 0 rfl
          have x1 := m0.cell_at 1 rfl
          have x2 := m0.cell_at 2 rfl
          have x3 := m0.cell_at 3 rfl
          have x4 := m0.cell_at 4 rfl
          have x5 := m0.cell_at 5 rfl
          have x6 := m0.cell_at 6 rfl
          have x7 := m0.cell_at 7 rfl
          have x8 := m0.cell_at 8 rfl
          have x9 := m0.cell_at 9 rfl
          have x10 := m0.cell_at 10 rfl
          clear m0
          have m0 := HTs.out _ ht
          have u0 := m0.cell_at 0 rfl
          have u1 := m0.cell_at 1 rfl
          have u2 := m0.cell_at 2 rfl
          clear m0
          go_wp2_with fail
          refine (KB.out _ ht).mono ?_
          clear ht x0 x1 x2 x3 x4 x5 x6 x7 x8 x9 x10 u0 u1 u2
          rintro e w7 ⟨rfl, ht⟩
          have hbm := HTa.out _ ht
          have f0 := hbm.frozen 0
          have f1 := hbm.frozen 1
          have z0 := hbm.cell_at 0 rfl
          have z1 := hbm.cell_at 1 rfl
          have HF : Hid (Q ((w7.setCell ⟨g8, 0, none⟩ (.int .i64 q1)).setCell ⟨g8, 1, none⟩ (.int .i64 q2)) ∧ Hid (∃ s i : Int, Whole ((w7.setCell ⟨g8, 0, none⟩ (.int .i64 q1)).setCell ⟨g8, 1, none⟩ (.int .i64 q2)) g8 46 (prtCells (s, i)) ∧ ∀ x, ss[a + 1]? = some x → (s, i) = (x.1, x.2.1))) := Lib.hid ⟨HQS.out _ _ _ (HTq.out _ ht), Lib.hid ⟨q1, q2, (hbm.set 0 _).set 1 _, HNE.out⟩⟩
          clear ht hbm
          go_wp2_with fail
          go_roundw
          case rel => exact ⟨a + 1, hlt, by go_num, HF.out.1, HF.out.2⟩
          case measure => simp [intOf]; omega
        have hkm1 : ((a : Int) == (m : Int)) = false := by rw [beq_eq_false_iff_ne]; omega
        have hkm2 : decide (a = m) = false := decide_eq_false hkm
        have hkm3 : (a == m) = false := by simp [hkm]
        clear hkm hm
        go_wp2_with fail
        have HBS : Hid (∀ W, Below wo.heap.size wo W → T W) := Lib.hid (fun W hB => HT.out _ _ ht hB)
        clear ht
        refine region_mix (Below wo.heap.size wo) [(0, false), (1, false), (2, false), (3, false), (4, false), (5, false), (6, false), (7, false), (8, false), (9, false), (10, false), (11, false), (12, false), (13, false), (14, false), (15, false), (16, false), (17, false), (18, false)] (by kernel_rfl) (by kernel_rfl) (Below wo.heap.size wo) ⟨Closed.below wo, fun _ h => h⟩ (Below.refl _ _).drew ?_
        simp only [pickOps, List.getElem?_cons_zero, List.getElem?_cons_succ]
        repeat (first | (refine mix_skip (by rfl) ?_; simp only [Act.put, List.setIfInBounds_toArray, List.set_cons_zero, List.set_cons_succ]) | (refine mix_read _ (by rfl) (fun W hW => by (have hW := HBS.out W hW; have m0 := HTl.out W hW; have x0 := m0.cell_at 0 rfl; have x1 := m0.cell_at 1 rfl; have x2 := m0.cell_at 2 rfl; have x3 := m0.cell_at 3 rfl; have x4 := m0.cell_at 4 rfl; have x5 := m0.cell_at 5 rfl; have x6 := m0.cell_at 6 rfl; have x7 := m0.cell_at 7 rfl; have x8 := m0.cell_at 8 rfl; have x9 := m0.cell_at 9 rfl; have x10 := m0.cell_at 10 rfl; clear m0; have m0 := HTp.out W hW; have y0 := m0.cell_at 0 rfl; have y1 := m0.cell_at 1 rfl; have y2 := m0.cell_at 2 rfl; clear m0; have m0 := HTs.out W hW; have u0 := m0.cell_at 0 rfl; have u1 := m0.cell_at 1 rfl; have u2 := m0.cell_at 2 rfl; clear m0; obtain ⟨s0, s1, s2⟩ := HEC.out W (HTq.out W hW); go_simp; first | done | with_reducible rfl)) ?_; simp only [Act.put, List.setIfInBounds_toArray, List.set_cons_zero, List.set_cons_succ]) | (refine mix_read _ (by rfl) (fun W hW => by (have hW := HBS.out W hW; have m0 := HTl.out W hW; have x0 := m0.cell_at 0 rfl; have x1 := m0.cell_at 1 rfl; have x2 := m0.cell_at 2 rfl; have x3 := m0.cell_at 3 rfl; have x4 := m0.cell_at 4 rfl; have x5 := m0.cell_at 5 rfl; have x6 := m0.cell_at 6 rfl; have x7 := m0.cell_at 7 rfl; have x8 := m0.cell_at 8 rfl; have x9 := m0.cell_at 9 rfl; have x10 := m0.cell_at 10 rfl; clear m0; have m0 := HTp.out W hW; have y0 := m0.cell_at 0 rfl; have y1 := m0.cell_at 1 rfl; have y2 := m0.cell_at 2 rfl; clear m0; have m0 := HTs.out W hW; have u0 := m0.cell_at 0 rfl; have u1 := m0.cell_at 1 rfl; have u2 := m0.cell_at 2 rfl; clear m0; obtain ⟨s0, s1, s2⟩ := HEC.out W (HTq.out W hW); rw [HAE.out]; go_simp; first | done | with_reducible rfl)) ?_; simp only [Act.put, List.setIfInBounds_toArray, List.set_cons_zero, List.set_cons_succ]))
        refine mix_nil (fun W hW => ?_)
        have ht := HBS.out W hW
        clear hW HBS
        have m0 := HTl.out _ ht
        have x0 := m0.cell_at 0 rfl
        have x1 := m0.cell_at 1 rfl
        have x2 := m0.cell_at 2 rfl
        have x3 := m0.cell_at 3 rfl
        have x4 := m0.cell_at 4 rfl
        have x5 := m0.cell_at 5 rfl
        have x6 := m0.cell_at 6 rfl
        have x7 := m0.cell_at 7 rfl
        have x8 := m0.cell_at 8 rfl
        have x9 := m0.cell_at 9 rfl
        have x10 := m0.cell_at 10 rfl
        clear m0
        have m0 := HTs.out _ ht
        have u0 := m0.cell_at 0 rfl
        have u1 := m0.cell_at 1 rfl
        have u2 := m0.cell_at 2 rfl
        clear m0
        go_wp2_with fail
        refine (KB.out _ ht).mono ?_
        clear ht x0 x1 x2 x3 x4 x5 x6 x7 x8 x9 x10 u0 u1 u2
        rintro e w7 ⟨rfl, ht⟩
        have hbm := HTa.out _ ht
        have f0 := hbm.frozen 0
        have f1 := hbm.frozen 1
        have z0 := hbm.cell_at 0 rfl
        have z1 := hbm.cell_at 1 rfl
        have HF : Hid (Q ((w7.setCell ⟨g8, 0, none⟩ (.int .i64 q1)).setCell ⟨g8, 1, none⟩ (.int .i64 q2)) ∧ Hid (∃ s i : Int, Whole ((w7.setCell ⟨g8, 0, none⟩ (.int .i64 q1)).setCell ⟨g8, 1, none⟩ (.int .i64 q2)) g8 46 (prtCells (s, i)) ∧ ∀ x, ss[a + 1]? = some x → (s, i) = (x.1, x.2.1))) := Lib.hid ⟨HQS.out _ _ _ (HTq.out _ ht), Lib.hid ⟨q1, q2, (hbm.set 0 _).set 1 _, HNE.out⟩⟩
        clear ht hbm
        go_wp2_with fail
        go_roundw
        case rel => exact ⟨a + 1, hlt, by go_num, HF.out.1, HF.out.2⟩
        case measure => simp [intOf]; omega

end Go.Proofs.YtlfpkileblmhoaaGreatDoor
