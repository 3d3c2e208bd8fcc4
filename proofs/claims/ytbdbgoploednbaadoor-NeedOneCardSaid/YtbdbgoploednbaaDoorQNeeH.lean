/- The document's own layer 13: Of, Clash, Fine. -/
import Derived.Test.YtbdbgoploednbaaDoorQO
import Derived.Test.YtbdbgoploednbaaDoorQLayOneM
namespace Go.Proofs.YtbdbgoploednbaaDoor
open Go.RowKit Go.Shelf
set_option linter.unusedVariables false
set_option linter.unusedSimpArgs false
set_option maxRecDepth 100000

def pairC (a b : Int × Int × Int) : Bool := a.1 == b.1 && a.2.1 != b.2.1
theorem owns_base13 {W : World} {base base' e k n : Nat} {v : Value} {xs : List Value} (h : W.ownsRow base e k v n xs) (hb : base' ≤ base) : W.ownsRow base' e k v n xs := by
  refine ⟨h.1, ?_⟩
  rcases h.2 with h2 | ⟨g, cap, cur, hv, h3, r⟩
  · exact .inl h2
  · exact .inr ⟨g, cap, cur, hv, Nat.le_trans hb h3, r⟩
theorem clash_hit {ns : List (Int × Int × Int)} {i k : Nat} {x y : Int × Int × Int} (hx : ns[i]? = some x) (hy : ns[k]? = some y) (h : pairC x y = true) : clashN ns = true := by
  unfold pairC at h
  rw [Bool.and_eq_true, beq_iff_eq, bne_iff_ne] at h
  exact clash_iff.2 ⟨x, List.mem_of_getElem? hx, y, List.mem_of_getElem? hy, h.1, h.2⟩
theorem clash_next {ns : List (Int × Int × Int)} {i : Nat} {x : Int × Int × Int} (hx : ns[i]? = some x) (hc : clashN (ns.take i) = false) (h : NoneUp (pairC x) ns i) : clashN (ns.take (i + 1)) = false := by
  rw [List.take_add_one, hx, Option.toList_some, clash_snoc, hc, Bool.false_or, Bool.and_eq_false_iff, bne_eq_false_iff_eq]
  cases hh : (at13 (ns.take i) x.1).2
  · exact .inl rfl
  · right
    obtain ⟨a, ha, h1, h2⟩ := at13_yes hh
    obtain ⟨k, hk⟩ := List.getElem?_of_mem ha
    have hki : k < i := by
      have := (List.getElem?_eq_some_iff.1 hk).1
      rw [List.length_take] at this
      omega
    rw [List.getElem?_take, if_pos hki] at hk
    have := h k a hki hk
    unfold pairC at this
    rw [← h2]
    simp [h1] at this
    exact this.symm

set_option maxRecDepth 100000 in
set_option maxHeartbeats 32000000 in
theorem of13R_any {l : Lay} {p : Pth} {w : World} (hL : Lies l w) (hp : PLies p w) (hO : ∀ x ∈ l.exits, x.over.length ≤ 1000) (hF : l.flanks.length ≤ 900) (hS : p.ss.length ≤ 100) {ns : List (Int × Int × Int)} (hns : ofV l p = ns) :
    Calls Tryd.prog 16 #[l.val, p.val] w fun e w' => ∃ v, e = .returned v ∧ w'.ownsRow w.heap.size 46 3 v ns.length (ns.flatMap needCells) ∧ Below w.heap.size w w' := by
  subst hns
  obtain ⟨W2, hW2⟩ : ∃ W2, (w.alloc (.cells #[.slice l.As l.secs.length l.cs, .slice l.Ag l.sigs.length l.cg, .slice l.Ae l.exits.length l.ce, .slice l.Af l.flanks.length l.cf, .int .i64 l.t0, .int .i64 l.t1, .int .i64 l.t2, .int .i64 l.t3, .int .i64 l.t4, .int .i64 l.t5, .int .i64 l.t6] 29)).alloc (.cells #[.int .i64 p.s, .int .i64 p.x, .slice p.A p.ss.length p.c] 32) = W2 := ⟨_, rfl⟩
  obtain ⟨B, hB⟩ : ∃ B, w.heap.size + 2 = B := ⟨_, rfl⟩
  have hs2 : W2.heap.size = B := by rw [← hW2]; simp; omega
  obtain ⟨Q, HQ, HQB, HQ0, HQl, HQv, hq⟩ : ∃ Q : World → Prop, Hid (Closed Q) ∧ Hid (∀ W W', Q W → Below B W W' → Q W') ∧ Hid (∀ W, Q W → B ≤ W.heap.size ∧ Below w.heap.size w W) ∧ Hid (∀ W, Q W → Whole W w.heap.size 29 l.cells) ∧ Hid (∀ W, Q W → Whole W (w.heap.size + 1) 32 p.cells) ∧ Q W2 :=
    ⟨fun W => Below B W2 W ∧ B ≤ W.heap.size, Lib.hid (fun W W' h hb => ⟨h.1.trans (hb.mono h.2), Nat.le_trans h.2 hb.size⟩), Lib.hid (fun W W' h hb => ⟨h.1.trans hb, Nat.le_trans h.2 hb.size⟩), Lib.hid (fun W h => ⟨h.2, by
      have : Below w.heap.size w W2 := by rw [← hW2]; exact below2 _ _ _
      exact this.trans (h.1.mono (by omega))⟩), Lib.hid (fun W h => by
      have : Whole W2 w.heap.size 29 l.cells := by rw [← hW2]; exact (Whole.new w _ l.cells).alloc _
      exact this.below h.1 (by omega)), Lib.hid (fun W h => by
      have : Whole W2 (w.heap.size + 1) 32 p.cells := by rw [← hW2]; exact Whole.new_at _ _ p.cells _ (by simp)
      exact this.below h.1 (by omega)), ⟨Below.refl _ _, by omega⟩⟩
  have HTW : Hid (∀ W, Q W → Lies l W ∧ PLies p W) := Lib.hid fun W hW => ⟨Lies.closed l _ _ hL (HQ0.out W hW).2, PLies.closed p _ _ hp (HQ0.out W hW).2⟩
  obtain ⟨os, hos⟩ : ∃ os, overL10 l p.x = os := ⟨_, rfl⟩
  have hol : os.length ≤ 1000 := by rw [← hos]; exact over_le13 hO _
  have KW : Hid (∀ (s i o k : Int) (ws : List (Int × Int × Int)), wantsV l s i o k = ws → ∀ W, Q W → Calls Tryd.prog 24 #[l.val, stpV s i o, .int .i64 k] W fun e w' => ∃ x : Option Addr × Nat, e = .returned (.slice x.1 ws.length x.2) ∧ Row w' w'.heap.size x.1 (ws.flatMap needCells) ∧ Below W.heap.size W w') := Lib.hid fun s i o k ws hws W hW => (wantsR_any (HTW.out W hW).1 hF s i o k hws).mono (by
    rintro e w' ⟨v, rfl, hown, hB⟩
    obtain ⟨A, c, rfl, hr⟩ := owns_read hown
    exact ⟨(A, c), rfl, hr, hB⟩)
  have KO : Hid (∀ W, Q W → Calls Tryd.prog 30 #[l.val, .int .i64 p.x] W fun e w' => ∃ v, e = .returned v ∧ w'.ownsRow W.heap.size 56 3 v os.length (os.flatMap stpCells) ∧ Below W.heap.size W w') := Lib.hid fun W hW => overR10_any (HTW.out W hW).1 hO p.x hos
  have HWL : Hid (∀ s i o k, (wantsV l s i o k).length ≤ 901) := Lib.hid fun s i o k => want_len hF (k, s, i, o)
  have HLS : Hid (∀ j, (ofS l (p.ss.take j) 0).length ≤ j * 901) := Lib.hid fun j => by
    have h := of_len (l := l) (p := { p with ss := p.ss.take j, x := -1 }) (F := 900) (S := j) hF (by show (p.ss.take j).length + (overL10 l (-1)).length ≤ j; rw [show overL10 l (-1) = [] from rfl, List.length_take]; simp; omega)
    unfold ofV at h
    rw [List.length_append] at h
    exact Nat.le_trans (Nat.le_add_right _ _) h
  have HLO : Hid (∀ j k, (ofO l (os.take j) k).length ≤ j * 901) := Lib.hid fun j k => by
    induction j with
    | zero => simp [ofO]
    | succ j ih =>
      cases ho : os[j]? with
      | none => rw [List.take_add_one, ho]; simpa using Nat.le_trans ih (by omega)
      | some s => rw [ofO_next ho, List.length_append]; have := HWL.out s.1 s.2.1 s.2.2 k; omega
  have HOF : Hid (ofS l (p.ss.take p.ss.length) 0 ++ ofO l (os.take os.length) p.ss.length = ofV l p) := Lib.hid (by unfold ofV; rw [List.take_length, List.take_length, hos])
  have HWe := Lib.hid hW2
  have hx0 := HQl.out _ hq
  have hy0 := HQv.out _ hq
  rw [← hW2] at hx0 hy0
  have m0 := hx0
  have x0 := m0.cell_at 0 rfl
  have x1 := m0.cell_at 1 rfl
  have x2 := m0.cell_at 2 rfl
  have x3 := m0.cell_at 3 rfl
  have x4 := m0.cell_at 4 rfl
  have x5 := m0.cell_at 5 rfl
  have x6 := m0.cell_at 6 rfl
  have x7 := m0.cell_at 7 rfl
  have x8 := m0.cell_at 8 rfl
  have x9 := m0.cell_at 9 rfl
  have x10 := m0.cell_at 10 rfl
  clear m0
  have m0 := hy0
  have y0 := m0.cell_at 0 rfl
  have y1 := m0.cell_at 1 rfl
  have y2 := m0.cell_at 2 rfl
  clear m0
  clear hx0 hy0 hL hp hO hF hos hs2 hW2
  have hB2 : w.heap.size ≤ B := by omega
  go_enter Tryd.func16, Tryd.ntmps16
  go_wp2_with fail
  try rw [HWe.out]
  clear x0 x1 x2 x3 x4 x5 x6 x7 x8 x9 x10 y0 y1 y2 HWe
  go_loopw [5, 7] (fun v i wr => ∃ j : Nat, j ≤ p.ss.length ∧ i = .int .i64 j ∧ Hid (Q wr ∧ wr.ownsRow B 46 3 v (ofS l (p.ss.take j) 0).length ((ofS l (p.ss.take j) 0).flatMap needCells))) (fun _ i _ => p.ss.length - (intOf i).toNat)
  case atStart => exact ⟨0, by omega, rfl, Lib.hid ⟨hq, World.ownsRow_nil _ _ _ _⟩⟩
  case round =>
    clear hq
    obtain ⟨j, hj, rfl, HI⟩ := hrel
    by_cases hlt : j < p.ss.length
    · have hlt' : (j : Int) < p.ss.length := by omega
      obtain ⟨⟨f1, f2, f3⟩, hx⟩ : ∃ x, p.ss[j]? = some x := ⟨_, List.getElem?_eq_getElem hlt⟩
      obtain ⟨o1, o2, HA, HC0, HC⟩ := row_at (Q := Q) (n := 3) (fun _ => rfl) (by omega) (fun W hW => (HTW.out W hW).2.row) HI.out.1 hx
      have HX := Lib.hid hx
      obtain ⟨ws, hws⟩ : ∃ ws, wantsV l f1 f2 f3 (j : Int) = ws := ⟨_, rfl⟩
      have HN : Hid (ofS l (p.ss.take (j + 1)) 0 = ofS l (p.ss.take j) 0 ++ ws) := Lib.hid (by rw [ofS_next hx, ← hws])
      have KW1 := Lib.hid (KW.out f1 f2 f3 j ws hws)
      have HL1 : Hid ((ofS l (p.ss.take j) 0).length ≤ 1000000 ∧ ws.length ≤ 1000000) := Lib.hid ⟨by have := HLS.out j; omega, by rw [← hws]; have := HWL.out f1 f2 f3 j; omega⟩
      obtain ⟨us, hus⟩ : ∃ us, ofS l (p.ss.take j) 0 = us := ⟨_, rfl⟩
      rw [hus] at HN HL1 HI
      clear hx hws hus
      obtain ⟨WB, rfl⟩ : ∃ W, W = wr := ⟨wr, rfl⟩
      have hFam : Fam Q (fun W => Q W ∧ W.ownsRow B 46 3 u5 us.length (us.flatMap needCells)) := ⟨fun W W' h hb => ⟨HQ.out _ _ h.1 hb, owns_keep h.2 hb⟩, fun _ h => h.1⟩
      go_wp2_with fail
      refine region_mix Q [(0, false), (1, false), (2, false), (3, false), (4, false), (5, false), (6, false), (7, false), (8, true), (9, true), (10, false)] (by kernel_rfl) (by kernel_rfl) (fun W => Q W ∧ W.ownsRow B 46 3 u5 us.length (us.flatMap needCells)) hFam (hFam.1 _ _ HI.out ((Below.refl _ _).drew)) ?_
      simp only [pickOps, List.getElem?_cons_zero, List.getElem?_cons_succ]
      iterate 8 (first | (refine mix_read _ (by rfl) (fun W hW => by (have m0 := HQl.out W hW; have x0 := m0.cell_at 0 rfl; have x1 := m0.cell_at 1 rfl; have x2 := m0.cell_at 2 rfl; have x3 := m0.cell_at 3 rfl; have x4 := m0.cell_at 4 rfl; have x5 := m0.cell_at 5 rfl; have x6 := m0.cell_at 6 rfl; have x7 := m0.cell_at 7 rfl; have x8 := m0.cell_at 8 rfl; have x9 := m0.cell_at 9 rfl; have x10 := m0.cell_at 10 rfl; clear m0; have m0 := HQv.out W hW; have y0 := m0.cell_at 0 rfl; have y1 := m0.cell_at 1 rfl; have y2 := m0.cell_at 2 rfl; clear m0; have c0 := HC0.out W hW j _ _ HX.out rfl; have c1 := HC.out W hW j _ 1 _ HX.out rfl; have c2 := HC.out W hW j _ 2 _ HX.out rfl; clear hW; go_simp; first | done | with_reducible rfl)) ?_; simp only [Act.put, List.setIfInBounds_toArray, List.set_cons_zero, List.set_cons_succ]) | (refine mix_read _ (by rfl) (fun W hW => by (have m0 := HQl.out W hW; have x0 := m0.cell_at 0 rfl; have x1 := m0.cell_at 1 rfl; have x2 := m0.cell_at 2 rfl; have x3 := m0.cell_at 3 rfl; have x4 := m0.cell_at 4 rfl; have x5 := m0.cell_at 5 rfl; have x6 := m0.cell_at 6 rfl; have x7 := m0.cell_at 7 rfl; have x8 := m0.cell_at 8 rfl; have x9 := m0.cell_at 9 rfl; have x10 := m0.cell_at 10 rfl; clear m0; have m0 := HQv.out W hW; have y0 := m0.cell_at 0 rfl; have y1 := m0.cell_at 1 rfl; have y2 := m0.cell_at 2 rfl; clear m0; have c0 := HC0.out W hW j _ _ HX.out rfl; have c1 := HC.out W hW j _ 1 _ HX.out rfl; have c2 := HC.out W hW j _ 2 _ HX.out rfl; clear hW; rw [HA.out]; go_simp; first | done | with_reducible rfl)) ?_; simp only [Act.put, List.setIfInBounds_toArray, List.set_cons_zero, List.set_cons_succ]))
      refine mix_meet (fun x : Option Addr × Nat => .slice x.1 ws.length x.2) (fun x W => Row W W.heap.size x.1 (ws.flatMap needCells)) hFam (fun x W W' h hB => h.on hB) _ _ (by rfl) (fun W hW => by (go_simp; first | done | rfl)) (fun W hW => KW1.out W hW.1) (fun x => ?_)
      simp only [Act.put, List.setIfInBounds_toArray, List.set_cons_zero, List.set_cons_succ]
      refine mix_yield (X := Value) (fun v => v) (fun v W => Q W ∧ W.ownsRow B 46 3 v (us ++ ws).length ((us ++ ws).flatMap needCells)) (fun v => ⟨fun W W' h hb => ⟨HQ.out _ _ h.1 hb, owns_keep h.2 hb⟩, fun _ h => h.1⟩) (by rfl) (fun W hW => ?_) (fun v => ?_)
      · have hq := hW.1.1
        obtain ⟨v', W', hrun, hO, hg⟩ := append_needs13 B us ws u5 x.1 x.2 W.heap.size W hW.1.2 hW.2 HL1.out.1 HL1.out.2 (HQ0.out W hq).1
        have hq' : Q W' := HQB.out _ _ hq ((Below.refl B W).grown hg (HQ0.out W hq).1 (fun k e => (hW.1.2.lt k e).1))
        exact ⟨v', W', exec_append (.tmp 18) (.tmp 26) 33 rfl hrun, hq', hO⟩
      simp only [Act.put, List.setIfInBounds_toArray, List.set_cons_zero, List.set_cons_succ]
      refine mix_read _ (by rfl) (fun W hW => by (clear hW; go_simp; first | done | with_reducible rfl)) ?_
      simp only [Act.put, List.setIfInBounds_toArray, List.set_cons_zero, List.set_cons_succ]
      refine mix_nil (fun W hW => ?_)
      have HE := Lib.hid hW
      clear hW HI hFam
      go_wp2_with fail
      go_roundw
      case rel => exact ⟨j + 1, hlt, by go_num, by rw [HN.out]; exact HE⟩
      case measure => simp [intOf]; omega
    · obtain rfl : j = p.ss.length := by omega
      have hq := HI.out.1
      have m0 := HQl.out _ hq
      have x0 := m0.cell_at 0 rfl
      have x1 := m0.cell_at 1 rfl
      have x2 := m0.cell_at 2 rfl
      have x3 := m0.cell_at 3 rfl
      have x4 := m0.cell_at 4 rfl
      have x5 := m0.cell_at 5 rfl
      have x6 := m0.cell_at 6 rfl
      have x7 := m0.cell_at 7 rfl
      have x8 := m0.cell_at 8 rfl
      have x9 := m0.cell_at 9 rfl
      have x10 := m0.cell_at 10 rfl
      clear m0
      have m0 := HQv.out _ hq
      have y0 := m0.cell_at 0 rfl
      have y1 := m0.cell_at 1 rfl
      have y2 := m0.cell_at 2 rfl
      clear m0
      clear hq
      go_wp2_with fail
      refine (KO.out _ HI.out.1).mono ?_
      clear x0 x1 x2 x3 x4 x5 x6 x7 x8 x9 x10 y0 y1 y2
      rintro e w5 ⟨v5, rfl, hown5, hB5⟩
      obtain ⟨A5, c5, rfl, _⟩ := owns_read hown5
      obtain ⟨vO, hvO⟩ : ∃ v, u5 = v := ⟨_, rfl⟩
      have HI5 : Hid (Q w5 ∧ w5.ownsRow B 46 3 u5 (ofS l (p.ss.take p.ss.length) 0).length ((ofS l (p.ss.take p.ss.length) 0).flatMap needCells) ∧ w5.ownsRow B 56 3 (.slice A5 os.length c5) os.length (os.flatMap stpCells)) := Lib.hid ⟨HQ.out _ _ HI.out.1 hB5, owns_keep HI.out.2 hB5, owns_base13 hown5 (HQ0.out _ HI.out.1).1⟩
      obtain ⟨hd, hhd⟩ : ∃ hd, ofS l (p.ss.take p.ss.length) 0 = hd := ⟨_, rfl⟩
      have HLD : Hid (hd.length ≤ 91000) := Lib.hid (by rw [← hhd]; have := HLS.out p.ss.length; omega)
      rw [hhd] at HI5 HOF
      clear hown5 hB5 HI hvO hhd
      go_wp2_with fail
      go_loopw [5, 9] (fun v i wr => ∃ j : Nat, j ≤ os.length ∧ i = .int .i64 j ∧ Hid (Q wr ∧ wr.ownsRow B 46 3 v (hd ++ ofO l (os.take j) p.ss.length).length ((hd ++ ofO l (os.take j) p.ss.length).flatMap needCells) ∧ wr.ownsRow B 56 3 (.slice A5 os.length c5) os.length (os.flatMap stpCells))) (fun _ i _ => os.length - (intOf i).toNat)
      case atStart => exact ⟨0, by omega, rfl, Lib.hid (by simpa [ofO] using HI5.out)⟩
      case round =>
        clear HI5
        obtain ⟨j, hj, rfl, HI⟩ := hrel
        by_cases hlt : j < os.length
        · have hlt' : (j : Int) < os.length := by omega
          obtain ⟨⟨f1, f2, f3⟩, hx⟩ : ∃ x, os[j]? = some x := ⟨_, List.getElem?_eq_getElem hlt⟩
          obtain ⟨ws, hws⟩ : ∃ ws, wantsV l f1 f2 f3 (p.ss.length : Int) = ws := ⟨_, rfl⟩
          have HN : Hid (hd ++ ofO l (os.take (j + 1)) p.ss.length = (hd ++ ofO l (os.take j) p.ss.length) ++ ws) := Lib.hid (by rw [ofO_next hx, ← hws, List.append_assoc])
          have KW1 := Lib.hid (KW.out f1 f2 f3 p.ss.length ws hws)
          have HL1 : Hid ((hd ++ ofO l (os.take j) p.ss.length).length ≤ 1000000 ∧ ws.length ≤ 1000000) := Lib.hid ⟨by rw [List.length_append]; have := HLD.out; have := HLO.out j p.ss.length; have : j * 901 ≤ 1000 * 901 := Nat.mul_le_mul_right _ (by omega); omega, by rw [← hws]; have := HWL.out f1 f2 f3 p.ss.length; omega⟩
          obtain ⟨us, hus⟩ : ∃ us, hd ++ ofO l (os.take j) p.ss.length = us := ⟨_, rfl⟩
          rw [hus] at HN HL1 HI
          obtain ⟨o1, o2, HA, HC0, HC⟩ := row_at (Q := fun W => W.ownsRow B 56 3 (.slice A5 os.length c5) os.length (os.flatMap stpCells)) (n := 3) (fun _ => rfl) (by omega) (fun W hW => owns_row2 hW) HI.out.2.2 hx
          have HX := Lib.hid hx
          clear hx hws hus
          obtain ⟨WB, rfl⟩ : ∃ W, W = wr := ⟨wr, rfl⟩
          have hFam : Fam (fun W => Q W ∧ W.ownsRow B 56 3 (.slice A5 os.length c5) os.length (os.flatMap stpCells)) (fun W => (Q W ∧ W.ownsRow B 56 3 (.slice A5 os.length c5) os.length (os.flatMap stpCells)) ∧ W.ownsRow B 46 3 u5 us.length (us.flatMap needCells)) := ⟨fun W W' h hb => ⟨⟨HQ.out _ _ h.1.1 hb, owns_keep h.1.2 hb⟩, owns_keep h.2 hb⟩, fun _ h => h.1⟩
          go_wp2_with fail
          refine region_mix (fun W => Q W ∧ W.ownsRow B 56 3 (.slice A5 os.length c5) os.length (os.flatMap stpCells)) [(0, false), (1, false), (2, false), (3, false), (4, false), (5, false), (6, false), (7, true), (8, true), (9, false)] (by kernel_rfl) (by kernel_rfl) (fun W => (Q W ∧ W.ownsRow B 56 3 (.slice A5 os.length c5) os.length (os.flatMap stpCells)) ∧ W.ownsRow B 46 3 u5 us.length (us.flatMap needCells)) hFam (hFam.1 _ _ ⟨⟨HI.out.1, HI.out.2.2⟩, HI.out.2.1⟩ ((Below.refl _ _).drew)) ?_
          simp only [pickOps, List.getElem?_cons_zero, List.getElem?_cons_succ]
          iterate 7 (first | (refine mix_read _ (by rfl) (fun W hW => by (have m0 := HQl.out W hW.1; have x0 := m0.cell_at 0 rfl; have x1 := m0.cell_at 1 rfl; have x2 := m0.cell_at 2 rfl; have x3 := m0.cell_at 3 rfl; have x4 := m0.cell_at 4 rfl; have x5 := m0.cell_at 5 rfl; have x6 := m0.cell_at 6 rfl; have x7 := m0.cell_at 7 rfl; have x8 := m0.cell_at 8 rfl; have x9 := m0.cell_at 9 rfl; have x10 := m0.cell_at 10 rfl; clear m0; have m0 := HQv.out W hW.1; have y0 := m0.cell_at 0 rfl; have y1 := m0.cell_at 1 rfl; have y2 := m0.cell_at 2 rfl; clear m0; have c0 := HC0.out W hW.2 j _ _ HX.out rfl; have c1 := HC.out W hW.2 j _ 1 _ HX.out rfl; have c2 := HC.out W hW.2 j _ 2 _ HX.out rfl; clear hW; go_simp; first | done | with_reducible rfl)) ?_; simp only [Act.put, List.setIfInBounds_toArray, List.set_cons_zero, List.set_cons_succ]) | (refine mix_read _ (by rfl) (fun W hW => by (have m0 := HQl.out W hW.1; have x0 := m0.cell_at 0 rfl; have x1 := m0.cell_at 1 rfl; have x2 := m0.cell_at 2 rfl; have x3 := m0.cell_at 3 rfl; have x4 := m0.cell_at 4 rfl; have x5 := m0.cell_at 5 rfl; have x6 := m0.cell_at 6 rfl; have x7 := m0.cell_at 7 rfl; have x8 := m0.cell_at 8 rfl; have x9 := m0.cell_at 9 rfl; have x10 := m0.cell_at 10 rfl; clear m0; have m0 := HQv.out W hW.1; have y0 := m0.cell_at 0 rfl; have y1 := m0.cell_at 1 rfl; have y2 := m0.cell_at 2 rfl; clear m0; have c0 := HC0.out W hW.2 j _ _ HX.out rfl; have c1 := HC.out W hW.2 j _ 1 _ HX.out rfl; have c2 := HC.out W hW.2 j _ 2 _ HX.out rfl; clear hW; rw [HA.out]; go_simp; first | done | with_reducible rfl)) ?_; simp only [Act.put, List.setIfInBounds_toArray, List.set_cons_zero, List.set_cons_succ]))
          refine mix_meet (fun x : Option Addr × Nat => .slice x.1 ws.length x.2) (fun x W => Row W W.heap.size x.1 (ws.flatMap needCells)) hFam (fun x W W' h hB => h.on hB) _ _ (by rfl) (fun W hW => by (go_simp; first | done | rfl)) (fun W hW => KW1.out W hW.1.1) (fun x => ?_)
          simp only [Act.put, List.setIfInBounds_toArray, List.set_cons_zero, List.set_cons_succ]
          refine mix_yield (X := Value) (fun v => v) (fun v W => (Q W ∧ W.ownsRow B 56 3 (.slice A5 os.length c5) os.length (os.flatMap stpCells)) ∧ W.ownsRow B 46 3 v (us ++ ws).length ((us ++ ws).flatMap needCells)) (fun v => ⟨fun W W' h hb => ⟨⟨HQ.out _ _ h.1.1 hb, owns_keep h.1.2 hb⟩, owns_keep h.2 hb⟩, fun _ h => h.1⟩) (by rfl) (fun W hW => ?_) (fun v => ?_)
          · have hq := hW.1.1.1
            obtain ⟨v', W', hrun, hO, hg⟩ := append_needs13 B us ws u5 x.1 x.2 W.heap.size W hW.1.2 hW.2 HL1.out.1 HL1.out.2 (HQ0.out W hq).1
            have hq' : Q W' := HQB.out _ _ hq ((Below.refl B W).grown hg (HQ0.out W hq).1 (fun k e => (hW.1.2.lt k e).1))
            exact ⟨v', W', exec_append (.tmp 38) (.tmp 45) 33 rfl hrun, ⟨hq', hW.1.1.2.kept hg (owns_apart hW.1.1.2 hW.1.2 (by decide))⟩, hO⟩
          simp only [Act.put, List.setIfInBounds_toArray, List.set_cons_zero, List.set_cons_succ]
          refine mix_read _ (by rfl) (fun W hW => by (clear hW; go_simp; first | done | with_reducible rfl)) ?_
          simp only [Act.put, List.setIfInBounds_toArray, List.set_cons_zero, List.set_cons_succ]
          refine mix_nil (fun W hW => ?_)
          have HE := Lib.hid hW
          clear hW HI hFam
          go_wp2_with fail
          go_roundw
          case rel => exact ⟨j + 1, hlt, by go_num, by rw [HN.out]; exact Lib.hid ⟨HE.out.1.1, HE.out.2, HE.out.1.2⟩⟩
          case measure => simp [intOf]; omega
        · obtain rfl : j = os.length := by omega
          rw [HOF.out] at HI
          go_wp2_with fail
          go_ret
          exact ⟨_, rfl, owns_base13 HI.out.2.1 hB2, (HQ0.out _ HI.out.1).2⟩


end Go.Proofs.YtbdbgoploednbaaDoor
