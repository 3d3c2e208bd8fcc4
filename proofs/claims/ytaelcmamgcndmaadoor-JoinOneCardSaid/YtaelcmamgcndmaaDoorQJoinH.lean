/- The document's own layer 7: Steps, Near. -/
import Derived.Test.YtaelcmamgcndmaaDoorQJoinN
import Derived.Test.YtaelcmamgcndmaaDoorQJoinC
import Derived.Test.YtaelcmamgcndmaaDoorQD
namespace Go.Proofs.YtaelcmamgcndmaaDoor
open Go.RowKit Go.Shelf
set_option linter.unusedVariables false
set_option linter.unusedSimpArgs false

section
variable {P : Program} {ops : Array Oper} {B S : World → Prop} {L : (World → Prop) → Act → Prop} {o : Oper} {l : List (Oper × Bool)} {a : Act}
theorem mix_yieldJ {X : Type} (val : X → Value) (S' : X → World → Prop) (hF' : ∀ x, Fam B (S' x)) (hw : Region.wanted o (yielded ops a.tmps) = true) (hv : ∀ w, S w → ∃ x w', (execOp a.eval o).run P w = .ok (.value (val x)) w' ∧ S' x w')
    (h : ∀ x, wpMix P ops (Fam B) L l (S' x) (a.put o.dst (val x))) : wpMix P ops (Fam B) L ((o, true) :: l) S a :=
  ⟨hw, fun w hS => by
    obtain ⟨x, w', hr, hs⟩ := hv w hS
    unfold Oper.wp
    rw [hr]
    exact ⟨val x, S' x, rfl, hF' x, hs, h x⟩⟩
theorem mix_makeJ (val : Nat → Value) (n : Nat) (t : TypeId) (zs : List Value) (hF : Fam B S) (hn : ∀ w, S w → n ≤ w.heap.size) (hw : Region.wanted o (yielded ops a.tmps) = true)
    (hv : ∀ w, S w → (execOp a.eval o).run P w = .ok (.value (val w.heap.size)) (w.alloc (.cells zs.toArray t)))
    (h : ∀ g, n ≤ g → wpMix P ops (Fam B) L l (fun w => S w ∧ Whole w g t zs) (a.put o.dst (val g))) : wpMix P ops (Fam B) L ((o, true) :: l) S a :=
  ⟨hw, fun w hS => by
    unfold Oper.wp
    rw [hv w hS]
    exact ⟨_, _, rfl, ⟨hF.1.and (Closed.whole _ _ _), fun w hw => hF.2 w hw.1⟩, ⟨hF.1 _ _ hS (below1 w _), Whole.new w t zs⟩, h _ (hn w hS)⟩⟩
theorem exec_appendJ {P : Program} {o : Oper} {a : Act} {w w' : World} (s x : Operand) (t : TypeId)
    (ho : o.op = .call { callee := .builtin .append, args := #[s, x], argTypes := #[t, t] }) {v' : Value} (hrun : (Builtin.append_ #[t, t] o.type #[a.eval s, a.eval x]).run P w = .ok v' w') : (execOp a.eval o).run P w = .ok (.value v') w' := by
  unfold execOp
  simp only [ho, resolve, invoke, builtin, Sem.run_bind, Sem.run_pure, Result.andThen_ok, List.map_toArray, List.map_cons, List.map_nil, hrun]
end
theorem pick_no {p : Nat → Bool} {j : Nat} (h : p j = false) : pick p (j + 1) = pick p j := by show pick p j ++ _ = _; rw [h]; simp
theorem pick_yes {p : Nat → Bool} {j : Nat} (h : p j = true) : pick p (j + 1) = pick p j ++ [(j : Int)] := by show pick p j ++ _ = _; rw [h]; simp
theorem nearJ_B {l : Lay} {w : World} (hL : Lies l w) (a b : Int) {r : Bool} (hr : nearV l a b = r) : Calls Tryd.prog 41 #[l.val, .int .i64 a, .int .i64 b] w fun e w' => e = .returned (.bool r) ∧ Below w.heap.size w w' :=
  nearJ_P (P := fun W => Below w.heap.size w W) (Closed.below w) (fun W h => Lies.closed l _ _ hL h) a b hr (Below.refl _ _)
section
variable {P : World → Prop} {w : World}
set_option maxRecDepth 100000 in
set_option maxHeartbeats 8000000 in
theorem nearR_P (hP : Closed P) {l : Lay} (hL : ∀ w, P w → Lies l w) (s : Int) (hn : l.secs.length ≤ 1000) (h : P w) :
    Calls Tryd.prog 20 #[l.val, .int .i64 s] w fun e w' => ∃ v, e = .returned v ∧ w'.ownsRow w.heap.size 3 1 v (nearL l s).length (nums .i64 (nearL l s)) ∧ P w' ∧ Below w.heap.size w w' := by
  obtain ⟨Q, HQ, HQp, HQl, hq⟩ := keep_box (P := fun W => P W ∧ Below w.heap.size w W) (hP.and (Closed.below w)) ⟨h, Below.refl _ _⟩ 29 l.cells
  have HN := Lib.hid (fun (W : World) (hW : Q W) (b : Int) (r : Bool) (hr : nearV l s b = r) => nearJ_B (w := W) (hL _ (HQp.out _ hW).1) s b hr)
  have HPW := Lib.hid (fun W (hB : Below (w.alloc (.cells l.cells.toArray 29)).heap.size (w.alloc (.cells l.cells.toArray 29)) W) => HQ.out _ _ hq hB)
  have hb0 := below1 w (.cells l.cells.toArray 29)
  show Calls _ _ _ _ (fun e w' => ∃ v, e = .returned v ∧ w'.ownsRow w.heap.size 3 1 v (pick (fun i => !((i : Int) == s) && nearV l s i) l.secs.length).length (nums .i64 (pick (fun i => !((i : Int) == s) && nearV l s i) l.secs.length)) ∧ P w' ∧ Below w.heap.size w w')
  obtain ⟨pr, HPR⟩ : ∃ pr : Nat → Bool, Hid (∀ i : Nat, pr i = (!((i : Int) == s) && nearV l s i)) := ⟨fun i => !((i : Int) == s) && nearV l s i, Lib.hid fun _ => rfl⟩
  rw [show (fun i : Nat => !((i : Int) == s) && nearV l s i) = pr from funext fun i => (HPR.out i).symm]
  clear h hP hL
  go_enter Tryd.func20, Tryd.ntmps20
  go_wp2_with fail
  obtain ⟨W0, hW0⟩ : ∃ W0, w.alloc (.cells l.cells.toArray 29) = W0 := ⟨_, rfl⟩
  have hsz0 : W0.heap.size = w.heap.size + 1 := by rw [← hW0]; simp
  rw [hW0] at hq HPW hb0
  try rw [hW0]
  clear hW0
  go_loopw [5, 6] (fun v i wr => ∃ j : Nat, j ≤ l.secs.length ∧ i = .int .i64 (j : Int) ∧ wr.ownsRow W0.heap.size 3 1 v (pick pr j).length (nums .i64 (pick pr j)) ∧ Below W0.heap.size W0 wr)
    (fun _ i _ => l.secs.length - (intOf i).toNat)
  case atStart => exact ⟨0, by omega, rfl, World.ownsRow_nil _ _ _ _, Below.refl _ _⟩
  case round =>
    clear hq
    obtain ⟨j, hj, rfl, hown, hB⟩ := hrel
    have hq := HPW.out _ hB
    have x0 := (HQl.out _ hq).cell_at 0 rfl
    have hpl := pick_le pr j
    by_cases hlt : j < l.secs.length
    · have hlt' : (j : Int) < l.secs.length := by omega
      by_cases hjs : (j : Int) = s
      · have HE : Hid (pick pr (j + 1) = pick pr j) := Lib.hid (pick_no (by rw [HPR.out]; simp [hjs]))
        have hne : ((j : Int) != s) = false := by simp [hjs]
        clear hjs
        go_wp2_with fail
        go_roundw
        case rel => exact ⟨j + 1, hlt, by go_num, by rw [HE.out]; exact hown, hB⟩
        case measure => simp [intOf]; omega
      · have hne : ((j : Int) != s) = true := by simp [hjs]
        have HJS := Lib.hid hjs
        clear hjs
        have m0 := HQl.out _ hq
        have x0 := m0.cell_at 0 rfl
        have x1 := m0.cell_at 1 rfl
        have x2 := m0.cell_at 2 rfl
        have x3 := m0.cell_at 3 rfl
        have x4 := m0.cell_at 4 rfl
        have x5 := m0.cell_at 5 rfl
        have x6 := m0.cell_at 6 rfl
        have x7 := m0.cell_at 7 rfl
        have x8 := m0.cell_at 8 rfl
        have x9 := m0.cell_at 9 rfl
        have x10 := m0.cell_at 10 rfl
        clear m0
        cases hnv : nearV l s j
        · have HE : Hid (pick pr (j + 1) = pick pr j) := Lib.hid (pick_no (by rw [HPR.out, hnv]; simp))
          have KN := Lib.hid (HN.out _ hq (j : Int) false hnv)
          clear hnv
          go_wp2_with fail
          refine KN.out.mono ?_
          clear x0 x1 x2 x3 x4 x5 x6 x7 x8 x9 x10 hq KN
          rintro e w2 ⟨rfl, hB2⟩
          go_wp2_with fail
          go_roundw
          case rel => exact ⟨j + 1, hlt, by go_num, by rw [HE.out]; exact ownsV_keep hown hB2, hB.trans (hB2.mono hB.size)⟩
          case measure => simp [intOf]; omega
        · have HE : Hid (pick pr (j + 1) = pick pr j ++ [(j : Int)]) := Lib.hid (pick_yes (by rw [HPR.out, hnv]; simp [HJS.out]))
          have KN := Lib.hid (HN.out _ hq (j : Int) true hnv)
          clear hnv
          go_wp2_with fail
          refine KN.out.mono ?_
          clear x0 x1 x2 x3 x4 x5 x6 x7 x8 x9 x10 hq KN
          rintro e w2 ⟨rfl, hB2⟩
          have hs2 := hB2.size
          have hsw := hB.size
          obtain ⟨v', w3, hrun, hown', hgr, hB3⟩ := append_int W0.heap.size _ _ _ (j : Int) (w2.alloc (.cells #[.int .i64 (j : Int)] 3)) w2.heap.size (ownsV_keep (ownsV_keep hown hB2) (below1 _ _)) ((Whole.new w2 _ [_]).cell_at 0 rfl) (Nat.le_trans hpl (Nat.le_trans hj hn)) (by simp; omega)
          have HO := Lib.hid hown'
          clear hown' hown
          go_wp2_with (at_builtin; refine list_append rfl (.tmp 23) (.tmp 25) 41 rfl hrun ?_)
          go_roundw
          case rel => exact ⟨j + 1, hlt, by go_num, by rw [HE.out, List.length_append]; simpa [nums] using HO.out, (hB.trans (hB2.mono hB.size)).trans (((below1 w2 _).mono (by omega)).trans hB3)⟩
          case measure => simp [intOf]; omega
    · obtain rfl : j = l.secs.length := by omega
      have HO : Hid (wr.ownsRow w.heap.size 3 1 u5 (pick pr l.secs.length).length (nums .i64 (pick pr l.secs.length))) := Lib.hid (by
        refine ⟨hown.1, ?_⟩
        rcases hown.2 with e | ⟨g', cap', cur', e, p1, r⟩
        · exact .inl e
        · exact .inr ⟨g', cap', cur', e, by omega, r⟩)
      clear hown
      go_wp2_with fail
      go_ret
      exact ⟨_, rfl, HO.out, (HQp.out _ hq).1, (HQp.out _ hq).2⟩

set_option maxRecDepth 100000 in
set_option maxHeartbeats 8000000 in
theorem stepsJR_P (hP : Closed P) {l : Lay} (hL : ∀ w, P w → Lies l w) (s p : Int) {ss : List (Int × Int × Int)} {m : Nat} (hr : stepsV l s p = ss) (hm : ss.length = m) (h : P w) :
    Calls Tryd.prog 11 #[l.val, prtV s p] w fun e w' => ∃ A cap, e = .returned (.slice A m cap) ∧ m ≤ cap ∧ Row w' w'.heap.size A (ss.flatMap stpCells) ∧ P w' := by
  subst hm hr
  obtain ⟨Q0, HQ0, HQ0p, HQ0l, HQ0v, hq⟩ := keep_box2 (P := fun W => P W ∧ Below w.heap.size w W) (hP.and (Closed.below w)) ⟨h, Below.refl _ _⟩ 29 31 l.cells (prtCells (s, p))
  have HL := Lib.hid (fun W hW => hL W (HQ0p.out W hW).1)
  obtain ⟨q, hqv⟩ : ∃ q, beyondV l s p = q := ⟨_, rfl⟩
  obtain ⟨x, hx⟩ : ∃ x, atV l q.1 q.2 = x := ⟨_, rfl⟩
  obtain ⟨tr, htr⟩ : ∃ tr, thereV l q.1 q.2 = tr := ⟨_, rfl⟩
  have hxr := atV_range (hL _ h) q.1 q.2
  obtain ⟨os, hos⟩ : ∃ os, outsK x.k q.2 = os := ⟨_, rfl⟩
  have hol := outsK_le x.k q.2
  have HV : Hid (stepsV l s p = os.map (onward q)) := Lib.hid (by unfold stepsV; rw [hqv, hx, hos])
  rw [hos] at hol
  rw [hx] at hxr
  unfold outsK at hos
  have KB := Lib.hid (fun W hW => beyondJ_P (P := Q0) (w := W) HQ0.out HL.out s p hqv hW)
  clear h hP hqv
  rw [HV.out]
  obtain ⟨qs, qq⟩ := q
  simp only at hx htr hos
  go_enter Tryd.func11, Tryd.ntmps11
  have v0 := (HQ0v.out _ hq).cell_at 0 rfl
  have v1 := (HQ0v.out _ hq).cell_at 1 rfl
  have m0 := HQ0l.out _ hq
  have x0 := m0.cell_at 0 rfl
  have x1 := m0.cell_at 1 rfl
  have x2 := m0.cell_at 2 rfl
  have x3 := m0.cell_at 3 rfl
  have x4 := m0.cell_at 4 rfl
  have x5 := m0.cell_at 5 rfl
  have x6 := m0.cell_at 6 rfl
  have x7 := m0.cell_at 7 rfl
  have x8 := m0.cell_at 8 rfl
  have x9 := m0.cell_at 9 rfl
  have x10 := m0.cell_at 10 rfl
  clear m0
  go_wp2_with fail
  refine (KB.out _ hq).mono ?_
  clear x0 x1 x2 x3 x4 x5 x6 x7 x8 x9 x10 v0 v1 hq KB
  rintro e w1 ⟨rfl, hq0⟩
  obtain ⟨Q1, HQ1, HQ1p, HQ1r, hq⟩ := keep_boxV HQ0.out hq0 31 (prtCells (qs, qq))
  clear hq0
  have KH := Lib.hid (fun W hW => hasJ_P (P := Q1) (w := W) HQ1.out (fun W hW => HL.out W (HQ1p.out W hW)) qs qq htr hW)
  have r0 := (HQ1r.out _ hq).cell_at 0 rfl
  have r1 := (HQ1r.out _ hq).cell_at 1 rfl
  have m0 := HQ0l.out _ (HQ1p.out _ hq)
  have x0 := m0.cell_at 0 rfl
  have x1 := m0.cell_at 1 rfl
  have x2 := m0.cell_at 2 rfl
  have x3 := m0.cell_at 3 rfl
  have x4 := m0.cell_at 4 rfl
  have x5 := m0.cell_at 5 rfl
  have x6 := m0.cell_at 6 rfl
  have x7 := m0.cell_at 7 rfl
  have x8 := m0.cell_at 8 rfl
  have x9 := m0.cell_at 9 rfl
  have x10 := m0.cell_at 10 rfl
  clear m0
  go_wp2_with fail
  refine (KH.out _ hq).mono ?_
  clear x0 x1 x2 x3 x4 x5 x6 x7 x8 x9 x10 r0 r1 hq KH
  rintro e w2 ⟨rfl, hq⟩
  cases tr
  · have hos0 : os = [] := by
      rw [atV_no htr] at hx
      subst hx
      exact hos.symm
    subst hos0
    go_wp2_with fail
    go_ret
    exact ⟨none, 0, rfl, Nat.le_refl _, Row.nil _ _ _, (HQ0p.out _ (HQ1p.out _ hq)).1⟩
  · obtain ⟨n, rfl, hxn⟩ := atV_yes htr
    try simp only at hxn
    rw [hx] at hxn
    have hlt : (n : Int) < l.secs.length := by have := (List.getElem?_eq_some_iff.1 hxn).1; omega
    obtain ⟨o1, o2, HA, HC0, HC⟩ := row_at (n := 11) Sec.len (by omega) (fun W hW => (HL.out W (HQ1p.out W hW)).secs) hq hxn
    have HXN := Lib.hid hxn
    have KO := Lib.hid (fun (W : World) (hW : Q1 W) => outsR_P (P := fun W' => Below W.heap.size W W') (w := W) (Closed.below W) qq (shapeK x.k) hos (Below.refl _ _))
    clear hxn hx htr hos HC
    have HQl := Lib.hid (fun W hW => HQ0l.out W (HQ1p.out W hW))
    go_wp2_with fail
    have HBS : Hid (∀ W, Below w2.heap.size w2 W → Q1 W) := Lib.hid (fun W hB => HQ1.out _ _ hq hB)
    have hq1 := hq
    clear hq
    refine region_mix (Below w2.heap.size w2) [(0, false), (1, false), (2, false), (3, false), (4, false), (5, false), (6, false), (7, false), (8, false), (9, true), (10, false)] (by kernel_rfl) (by kernel_rfl) (Below w2.heap.size w2) ⟨Closed.below w2, fun _ h => h⟩ (Below.refl _ _).drew ?_
    simp only [pickOps, List.getElem?_cons_zero, List.getElem?_cons_succ]
    repeat (first | (refine mix_skip (by rfl) ?_; simp only [Act.put, List.setIfInBounds_toArray, List.set_cons_zero, List.set_cons_succ]) | (refine mix_read _ (by rfl) (fun W hW => by (have hW := HBS.out W hW; have m0 := HQl.out _ hW; have x0 := m0.cell_at 0 rfl; have x1 := m0.cell_at 1 rfl; have x2 := m0.cell_at 2 rfl; have x3 := m0.cell_at 3 rfl; have x4 := m0.cell_at 4 rfl; have x5 := m0.cell_at 5 rfl; have x6 := m0.cell_at 6 rfl; have x7 := m0.cell_at 7 rfl; have x8 := m0.cell_at 8 rfl; have x9 := m0.cell_at 9 rfl; have x10 := m0.cell_at 10 rfl; clear m0; have m1 := HQ1r.out _ hW; have r0 := m1.cell_at 0 rfl; have r1 := m1.cell_at 1 rfl; clear m1; rw [HA.out] at x0; have c0 := HC0.out _ hW n _ _ HXN.out rfl; go_simp; first | done | with_reducible rfl)) ?_; simp only [Act.put, List.setIfInBounds_toArray, List.set_cons_zero, List.set_cons_succ]))
    refine mix_meet (fun x : Option Addr × Nat => .slice x.1 os.length x.2) (fun x W => Row W W.heap.size x.1 (nums .i64 os) ∧ os.length ≤ x.2) ⟨Closed.below w2, fun _ h => h⟩ (fun x W W' h hB => ⟨h.1.on hB, h.2⟩) _ _ (by rfl) (fun W hW => by (have hW := HBS.out W hW; have m0 := HQl.out _ hW; have x0 := m0.cell_at 0 rfl; have x1 := m0.cell_at 1 rfl; have x2 := m0.cell_at 2 rfl; have x3 := m0.cell_at 3 rfl; have x4 := m0.cell_at 4 rfl; have x5 := m0.cell_at 5 rfl; have x6 := m0.cell_at 6 rfl; have x7 := m0.cell_at 7 rfl; have x8 := m0.cell_at 8 rfl; have x9 := m0.cell_at 9 rfl; have x10 := m0.cell_at 10 rfl; clear m0; have m1 := HQ1r.out _ hW; have r0 := m1.cell_at 0 rfl; have r1 := m1.cell_at 1 rfl; clear m1; rw [HA.out] at x0; have c0 := HC0.out _ hW n _ _ HXN.out rfl; go_simp; first | done | rfl)) (fun W hW => (KO.out W (HBS.out W hW)).mono (fun e w' ⟨A, c, h1, h2, h3, h4⟩ => ⟨(A, c), h1, ⟨h3, h2⟩, h4⟩)) (fun xx => ?_)
    simp only [Act.put, List.setIfInBounds_toArray, List.set_cons_zero, List.set_cons_succ]
    repeat (first | (refine mix_skip (by rfl) ?_; simp only [Act.put, List.setIfInBounds_toArray, List.set_cons_zero, List.set_cons_succ]) | (refine mix_read _ (by rfl) (fun W hW => by (have hW := HBS.out W hW; have m0 := HQl.out _ hW; have x0 := m0.cell_at 0 rfl; have x1 := m0.cell_at 1 rfl; have x2 := m0.cell_at 2 rfl; have x3 := m0.cell_at 3 rfl; have x4 := m0.cell_at 4 rfl; have x5 := m0.cell_at 5 rfl; have x6 := m0.cell_at 6 rfl; have x7 := m0.cell_at 7 rfl; have x8 := m0.cell_at 8 rfl; have x9 := m0.cell_at 9 rfl; have x10 := m0.cell_at 10 rfl; clear m0; have m1 := HQ1r.out _ hW; have r0 := m1.cell_at 0 rfl; have r1 := m1.cell_at 1 rfl; clear m1; rw [HA.out] at x0; have c0 := HC0.out _ hW n _ _ HXN.out rfl; go_simp; first | done | with_reducible rfl)) ?_; simp only [Act.put, List.setIfInBounds_toArray, List.set_cons_zero, List.set_cons_succ]))
    refine mix_nil (fun W hW => ?_)
    obtain ⟨A, cap⟩ := xx
    obtain ⟨hB, hrow, hcap⟩ := hW
    try simp only at hrow hcap
    have hq2 := HQ1.out _ _ hq1 hB
    obtain ⟨Q, HQ, HQp, HQw, hq⟩ := keep_row HQ1.out hq2 hrow
    clear hq2 hrow hB HBS
    have HQ3 := Lib.hid (fun W' hB => HQ.out W W' hq hB)
    go_wp2_with fail
    go_loopw [7, 8] (fun v i wr => ∃ j : Nat, j ≤ os.length ∧ i = .int .i64 (j : Int) ∧ wr.ownsRow W.heap.size 37 3 v j (((os.take j).map (onward ((n : Int), qq))).flatMap stpCells) ∧ Below W.heap.size W wr)
      (fun _ i _ => os.length - (intOf i).toNat)
    case atStart => exact ⟨0, by omega, rfl, World.ownsRow_nil _ _ _ _, Below.refl _ _⟩
    case round =>
      clear hq
      obtain ⟨j, hj, rfl, hown, hB⟩ := hrel
      have hq := HQ3.out _ hB
      have hsz := hB.size
      by_cases hlo : j < os.length
      · have hlt' : (j : Int) < os.length := by omega
        obtain ⟨o, ho⟩ : ∃ o, os[j]? = some o := ⟨_, List.getElem?_eq_getElem hlo⟩
        have HO := Lib.hid (steps_cells (q := ((n : Int), qq)) ho)
        obtain ⟨b, off, rfl, hb, hc⟩ := HQw.out _ hq (by simp [nums]; omega)
        have HCC : Hid (∀ W, Q W → W.cell? ⟨b, off + j, none⟩ = some (.int .i64 o)) := Lib.hid fun W hW => by
          obtain ⟨b', off', e, _, hc'⟩ := HQw.out _ hW (by simp [nums]; omega)
          cases e
          exact hc' j (.int .i64 o) (by simp [nums, ho])
        have HR1 := Lib.hid (fun W hW => HQ1r.out W (HQp.out W hW))
        have HBS : Hid (∀ X, Below W.heap.size W X → Q X) := Lib.hid fun X hX => HQ3.out X hX
        have HOW := Lib.hid hown
        clear hc hb ho hq hown
        go_wp2_with fail
        refine region_mix (Below W.heap.size W) [(0, false), (1, false), (2, false), (3, false), (4, false), (5, false), (6, false), (7, false), (8, false), (9, false), (10, true), (11, true), (12, false)] (by kernel_rfl) (by kernel_rfl) (Below wr.heap.size wr) ⟨Closed.below wr, fun X h => hB.trans (h.mono hsz)⟩ (Below.refl _ _).drew ?_
        simp only [pickOps, List.getElem?_cons_zero, List.getElem?_cons_succ]
        repeat (first | (refine mix_skip (by rfl) ?_; simp only [Act.put, List.setIfInBounds_toArray, List.set_cons_zero, List.set_cons_succ]) | (refine mix_read _ (by rfl) (fun W hW => by (have hW := HBS.out W hW; have m1 := HR1.out _ hW; have r0 := m1.cell_at 0 rfl; have r1 := m1.cell_at 1 rfl; clear m1; have c0 := HCC.out _ hW; go_simp; first | done | with_reducible rfl)) ?_; simp only [Act.put, List.setIfInBounds_toArray, List.set_cons_zero, List.set_cons_succ]))
        refine mix_makeJ (fun g => .slice (some ⟨g, 0, none⟩) 1 1) wr.heap.size 37 [.int .i64 (n : Int), .int .i64 qq, .int .i64 o] ⟨Closed.below wr, fun X h => hB.trans (h.mono hsz)⟩ (fun _ h => h.size) (by rfl) (fun X hX => by (go_simp; first | done | with_reducible rfl)) (fun g hg => ?_)
        simp only [Act.put, List.setIfInBounds_toArray, List.set_cons_zero, List.set_cons_succ]
        refine mix_yieldJ (X := Value) (fun v => v) (fun v X => Below W.heap.size W X ∧ X.ownsRow W.heap.size 37 3 v (j + 1) (((os.take (j + 1)).map (onward ((n : Int), qq))).flatMap stpCells)) (fun v => ⟨fun X X' h hb => ⟨h.1.trans (hb.mono h.1.size), ownsS_keep h.2 hb⟩, fun X h => h.1⟩) (by rfl) (fun X hX => ?_) (fun v' => ?_)
        · obtain ⟨hX1, hX2⟩ := hX
          obtain ⟨v', X', hrun, hown', hB5⟩ := append_step W.heap.size j _ _ (onward ((n : Int), qq) o) X g (ownsS_keep HOW.out hX1) hX2 (by omega) (Nat.le_trans hsz hX1.size)
          exact ⟨v', X', exec_appendJ (.tmp 32) (.tmp 42) 34 rfl hrun, (hB.trans (hX1.mono hsz)).trans hB5, by rw [HO.out]; exact hown'⟩
        simp only [Act.put, List.setIfInBounds_toArray, List.set_cons_zero, List.set_cons_succ]
        repeat (first | (refine mix_skip (by rfl) ?_; simp only [Act.put, List.setIfInBounds_toArray, List.set_cons_zero, List.set_cons_succ]) | (refine mix_read _ (by rfl) (fun W hW => by (have hW := HBS.out W hW; have m1 := HR1.out _ hW; have r0 := m1.cell_at 0 rfl; have r1 := m1.cell_at 1 rfl; clear m1; have c0 := HCC.out _ hW; go_simp; first | done | with_reducible rfl)) ?_; simp only [Act.put, List.setIfInBounds_toArray, List.set_cons_zero, List.set_cons_succ]))
        refine mix_nil (fun X hX => ?_)
        clear HBS
        go_wp2_with fail
        go_roundw
        case rel => exact ⟨j + 1, by omega, by go_num, hX.2, hX.1⟩
        case measure => simp [intOf]; omega
      · obtain rfl : j = os.length := by omega
        obtain ⟨A, cap, rfl, hr, hc⟩ := ownsS_slice hown
        have HC := Lib.hid hc
        clear hown hc
        go_wp2_with fail
        go_ret
        exact ⟨A, cap, by rw [List.length_map]; rfl, by rw [List.length_map]; exact HC.out, by rw [List.take_length] at hr; exact hr, (HQ0p.out _ (HQ1p.out _ (HQp.out _ hq))).1⟩
end
end Go.Proofs.YtaelcmamgcndmaaDoor
