/- The walk of LayoutFinds: the first signal, the first exit at a port. -/
import Derived.Test.YtbalcbnlpgekaaaDoorLayR
import Derived.Test.YtbalcbnlpgekaaaDoorLaySteps
namespace Go.Proofs.YtbalcbnlpgekaaaDoor
open Go.RowKit Go.Shelf
set_option linter.unusedVariables false
set_option linter.unusedSimpArgs false

theorem eql_prt (w : World) (a b c e : Int) : (binOp .eql 31 (prtV a b) (prtV c e)).run Tryd.prog w = .ok (.bool (a == c && b == e)) w := by rw [run_eql_struct, eq_prt w 9998]; rfl
theorem neq_prt (w : World) (a b c e : Int) : (binOp .neq 31 (prtV a b) (prtV c e)).run Tryd.prog w = .ok (.bool (!(a == c && b == e))) w := by rw [run_neq_struct, eq_prt w 9998]; rfl
theorem isP_eq {s p : Int} {x : Int × Int} (h : isP s p x = true) : x = (s, p) := by
  unfold isP at h
  rw [Bool.and_eq_true, beq_iff_eq, beq_iff_eq] at h
  exact Prod.ext h.1 h.2

theorem neq_self (w : World) (a b : Int) : (binOp .neq 31 (prtV a b) (prtV a b)).run Tryd.prog w = .ok (.bool false) w := by rw [neq_prt]; simp
theorem sig_cells {Q : World → Prop} {l : Lay} (hQL : ∀ W, Q W → Lies l W) {W0 : World} (h0 : Q W0) {j : Nat} {x : Int × Int} (hx : l.sigs[j]? = some x) :
    ∃ o1 o2, Hid (l.Ag = some ⟨o1, o2, none⟩) ∧ Hid (∀ W, Q W → W.cell? ⟨o1, o2 + j * 2, none⟩ = some (.int .i64 x.1)) ∧ Hid (∀ W, Q W → W.cell? ⟨o1, o2 + j * 2 + 1, none⟩ = some (.int .i64 x.2)) := by
  obtain ⟨o1, o2, hA, _, _, _⟩ := (hQL _ h0).sigs.nth (n := 2) (fun _ => rfl) (by omega) hx
  refine ⟨o1, o2, Lib.hid hA, Lib.hid fun W hW => ?_, Lib.hid fun W hW => ?_⟩
  all_goals
    obtain ⟨p1, p2, hA', ho', hc0', hc'⟩ := (hQL _ hW).sigs.nth (n := 2) (fun _ => rfl) (by omega) hx
    rw [hA] at hA'
    cases hA'
  · exact hc0' j x _ hx rfl
  · exact hc' j x 1 _ hx rfl
theorem exit_cells {Q : World → Prop} {l : Lay} (hQL : ∀ W, Q W → Lies l W) {W0 : World} (h0 : Q W0) {j : Nat} {x : Exm} (hx : l.exits[j]? = some x) :
    ∃ o1 o2, Hid (l.Ae = some ⟨o1, o2, none⟩) ∧ Hid (∀ W, Q W → W.cell? ⟨o1, o2 + j * 3, none⟩ = some (.int .i64 x.s)) ∧ Hid (∀ W, Q W → W.cell? ⟨o1, o2 + j * 3 + 1, none⟩ = some (.int .i64 x.q)) := by
  obtain ⟨o1, o2, hA, _, _, _⟩ := (hQL _ h0).exits.nth (n := 3) (fun _ => rfl) (by omega) hx
  refine ⟨o1, o2, Lib.hid hA, Lib.hid fun W hW => ?_, Lib.hid fun W hW => ?_⟩
  all_goals
    obtain ⟨p1, p2, hA', ho', hc0', hc'⟩ := (hQL _ hW).exits.nth (n := 3) (fun _ => rfl) (by omega) hx
    rw [hA] at hA'
    cases hA'
  · exact hc0' j x _ hx rfl
  · exact hc' j x 1 _ hx rfl

set_option maxRecDepth 100000 in
set_option maxHeartbeats 16000000 in
theorem layoutFinds_walk (l : Lay) (s p : Int) (w : World) (hT : Shapes w) (hL : Lies l w) :
    Calls Tryd.prog 6 #[l.val, prtV s p] w fun e w' => e = .returned (.bool true) ∧ Below w.heap.size w w' := by
  obtain ⟨P, HP, HPT, HPL, HPB, hp⟩ := keep_lay hT hL
  have hnG := hL.nG
  have hnE := hL.nE
  obtain ⟨Q, HQ, HQp, HQl, HQv, hq⟩ := keep_box2 HP.out hp 29 31 l.cells (prtCells (s, p))
  have HQT : Hid (∀ W, Q W → Shapes W) := Lib.hid fun W h => HPT.out _ (HQp.out _ h)
  have HQL : Hid (∀ W, Q W → Lies l W) := Lib.hid fun W h => HPL.out _ (HQp.out _ h)
  have HQB : Hid (∀ W, Q W → Below w.heap.size w W) := Lib.hid fun W h => HPB.out _ (HQp.out _ h)
  obtain ⟨g, hg⟩ : ∃ g, greatV l = g := ⟨_, rfl⟩
  have KG := Lib.hid (fun W hW => great_P (P := Q) (w := W) HQ.out HQL.out hg hW)
  obtain ⟨a, ha⟩ : ∃ r, signalV l s p = r := ⟨_, rfl⟩
  obtain ⟨b, hb⟩ : ∃ r, exitV l s p = r := ⟨_, rfl⟩
  have K1 := Lib.hid (fun W hW => signal_P (P := Q) (w := W) HQ.out HQL.out s p ha hW)
  have K2 := Lib.hid (fun W hW => exit_P (P := Q) (w := W) HQ.out HQL.out s p hb hW)
  have hca := idxV_cases (isP s p) l.sigs
  have hcb := idxV_cases (fun x : Exm => isP s p (x.s, x.q)) l.exits
  rw [show idxV (isP s p) l.sigs = a from ha] at hca
  rw [show idxV (fun x : Exm => isP s p (x.s, x.q)) l.exits = b from hb] at hcb
  clear ha hb hT hL hp
  cases g
  case true =>
    clear hca hcb hg hnG hnE
    go_enter Tryd.func6, Tryd.ntmps6
    have hW := hq
    have m0 := HQl.out _ hW
    have x0 := m0.cell_at 0 rfl
    have x1 := m0.cell_at 1 rfl
    have x2 := m0.cell_at 2 rfl
    have x3 := m0.cell_at 3 rfl
    have x4 := m0.cell_at 4 rfl
    have x5 := m0.cell_at 5 rfl
    have x6 := m0.cell_at 6 rfl
    have x7 := m0.cell_at 7 rfl
    have x8 := m0.cell_at 8 rfl
    have x9 := m0.cell_at 9 rfl
    have x10 := m0.cell_at 10 rfl
    clear m0
    have m1 := HQv.out _ hW
    have v0 := m1.cell_at 0 rfl
    have v1 := m1.cell_at 1 rfl
    clear m1
    clear hW
    go_wp2_with fail
    refine (KG.out _ hq).mono ?_
    clear x0 x1 x2 x3 x4 x5 x6 x7 x8 x9 x10 v0 v1 hq
    rintro e w1 ⟨rfl, hq⟩
    go_wp2_with fail
    refine (wakes6_P HQ.out HQT.out hq).mono ?_
    rintro e w9 ⟨rfl, hq⟩
    go_wp2_with fail
    go_ret
    exact ⟨rfl, HQB.out _ hq⟩
  case false =>
    go_enter Tryd.func6, Tryd.ntmps6
    have hW := hq
    have m0 := HQl.out _ hW
    have x0 := m0.cell_at 0 rfl
    have x1 := m0.cell_at 1 rfl
    have x2 := m0.cell_at 2 rfl
    have x3 := m0.cell_at 3 rfl
    have x4 := m0.cell_at 4 rfl
    have x5 := m0.cell_at 5 rfl
    have x6 := m0.cell_at 6 rfl
    have x7 := m0.cell_at 7 rfl
    have x8 := m0.cell_at 8 rfl
    have x9 := m0.cell_at 9 rfl
    have x10 := m0.cell_at 10 rfl
    clear m0
    have m1 := HQv.out _ hW
    have v0 := m1.cell_at 0 rfl
    have v1 := m1.cell_at 1 rfl
    clear m1
    clear hW
    go_wp2_with fail
    refine (KG.out _ hq).mono ?_
    clear x0 x1 x2 x3 x4 x5 x6 x7 x8 x9 x10 v0 v1 hq
    rintro e w1 ⟨rfl, hq⟩
    have hW := hq
    have m0 := HQl.out _ hW
    have x0 := m0.cell_at 0 rfl
    have x1 := m0.cell_at 1 rfl
    have x2 := m0.cell_at 2 rfl
    have x3 := m0.cell_at 3 rfl
    have x4 := m0.cell_at 4 rfl
    have x5 := m0.cell_at 5 rfl
    have x6 := m0.cell_at 6 rfl
    have x7 := m0.cell_at 7 rfl
    have x8 := m0.cell_at 8 rfl
    have x9 := m0.cell_at 9 rfl
    have x10 := m0.cell_at 10 rfl
    clear m0
    have m1 := HQv.out _ hW
    have v0 := m1.cell_at 0 rfl
    have v1 := m1.cell_at 1 rfl
    clear m1
    clear hW
    go_wp2_with fail
    have HS := Lib.hid (HQ.out.drew hq)
    have hq0 := HQ.out.drew hq
    clear x0 x1 x2 x3 x4 x5 x6 x7 x8 x9 x10 v0 v1 hq
    refine region_steady (Q) 6 (by kernel_rfl) (by kernel_rfl) HS.out ?_
    simp only [List.take_succ_cons, List.take_zero, List.drop_succ_cons, List.drop_zero]
    repeat (first | (refine steady_skip (by rfl) ?_; simp only [Act.put, List.setIfInBounds_toArray, List.set_cons_zero, List.set_cons_succ]) | (refine steady_read _ (by rfl) (fun W hW => by (have m0 := HQl.out _ hW; have x0 := m0.cell_at 0 rfl; have x1 := m0.cell_at 1 rfl; have x2 := m0.cell_at 2 rfl; have x3 := m0.cell_at 3 rfl; have x4 := m0.cell_at 4 rfl; have x5 := m0.cell_at 5 rfl; have x6 := m0.cell_at 6 rfl; have x7 := m0.cell_at 7 rfl; have x8 := m0.cell_at 8 rfl; have x9 := m0.cell_at 9 rfl; have x10 := m0.cell_at 10 rfl; clear m0; have m1 := HQv.out _ hW; have v0 := m1.cell_at 0 rfl; have v1 := m1.cell_at 1 rfl; clear m1; go_simp; first | done | with_reducible rfl)) ?_; simp only [Act.put, List.setIfInBounds_toArray, List.set_cons_zero, List.set_cons_succ]) | (refine steady_call _ _ _ (by rfl) (fun W hW => by (have m0 := HQl.out _ hW; have x0 := m0.cell_at 0 rfl; have x1 := m0.cell_at 1 rfl; have x2 := m0.cell_at 2 rfl; have x3 := m0.cell_at 3 rfl; have x4 := m0.cell_at 4 rfl; have x5 := m0.cell_at 5 rfl; have x6 := m0.cell_at 6 rfl; have x7 := m0.cell_at 7 rfl; have x8 := m0.cell_at 8 rfl; have x9 := m0.cell_at 9 rfl; have x10 := m0.cell_at 10 rfl; clear m0; have m1 := HQv.out _ hW; have v0 := m1.cell_at 0 rfl; have v1 := m1.cell_at 1 rfl; clear m1; go_simp; first | done | rfl)) (fun W hW => K1.out _ hW) ?_; simp only [Act.put, List.setIfInBounds_toArray, List.set_cons_zero, List.set_cons_succ]) | (refine steady_call _ _ _ (by rfl) (fun W hW => by (have m0 := HQl.out _ hW; have x0 := m0.cell_at 0 rfl; have x1 := m0.cell_at 1 rfl; have x2 := m0.cell_at 2 rfl; have x3 := m0.cell_at 3 rfl; have x4 := m0.cell_at 4 rfl; have x5 := m0.cell_at 5 rfl; have x6 := m0.cell_at 6 rfl; have x7 := m0.cell_at 7 rfl; have x8 := m0.cell_at 8 rfl; have x9 := m0.cell_at 9 rfl; have x10 := m0.cell_at 10 rfl; clear m0; have m1 := HQv.out _ hW; have v0 := m1.cell_at 0 rfl; have v1 := m1.cell_at 1 rfl; clear m1; go_simp; first | done | rfl)) (fun W hW => K2.out _ hW) ?_; simp only [Act.put, List.setIfInBounds_toArray, List.set_cons_zero, List.set_cons_succ]))
    refine steady_nil (fun W hW => ?_)
    go_wp2_with fail
    clear HS K1 K2 KG hg
    rcases hca with ⟨rfl, hNa⟩ | ⟨ja, xa, rfl, hxa, hpa, hNa⟩ <;> rcases hcb with ⟨rfl, hNb⟩ | ⟨jb, xb, rfl, hxb, hpb, hNb⟩
    · have HNa := Lib.hid hNa
      clear hNa
      have da2 : decide ((l.sigs.length : Int) ≤ -1) = false := decide_eq_false (by omega)
      have HNb := Lib.hid hNb
      clear hNb
      have db2 : decide ((l.exits.length : Int) ≤ -1) = false := decide_eq_false (by omega)
      clear hq0
      have HS := Lib.hid (HQ.out.drew hW)
      clear hW
      refine region_steady (Q) 47 (by kernel_rfl) (by kernel_rfl) HS.out ?_
      simp only [List.take_succ_cons, List.take_zero, List.drop_succ_cons, List.drop_zero]
      repeat (first | (refine steady_skip (by rfl) ?_; simp only [Act.put, List.setIfInBounds_toArray, List.set_cons_zero, List.set_cons_succ]) | (refine steady_read _ (by rfl) (fun W hW => by (have m0 := HQl.out _ hW; have x1 := m0.cell_at 1 rfl; have x2 := m0.cell_at 2 rfl; clear m0; have m1 := HQv.out _ hW; have v0 := m1.cell_at 0 rfl; have v1 := m1.cell_at 1 rfl; clear m1; have hne := fun W => neq_self W s p; go_simp; first | done | with_reducible rfl)) ?_; simp only [Act.put, List.setIfInBounds_toArray, List.set_cons_zero, List.set_cons_succ]))
      refine steady_nil (fun W hW => ?_)
      go_wp2_with fail
      clear HS da2 db2 
      have hq := hW
      clear hW
      go_loopw [7] (fun i wr => ∃ j : Nat, j ≤ l.sigs.length ∧ i = .int .i64 j ∧ Q wr) (fun i _ => l.sigs.length - (intOf i).toNat)
      case atStart => exact ⟨0, by omega, rfl, hq⟩
      case round =>
        clear hq
        obtain ⟨j, hj, rfl, hq⟩ := hrel
        by_cases hlt : j < l.sigs.length
        · have hlt' : (j : Int) < l.sigs.length := by omega
          obtain ⟨xx, hx⟩ : ∃ x, l.sigs[j]? = some x := ⟨_, List.getElem?_eq_getElem hlt⟩
          have hcj := HNa.out xx (List.mem_of_getElem? hx)
          obtain ⟨o1, o2, HAl, HC0, HC1⟩ := sig_cells HQL.out hq hx
          clear hx
          obtain ⟨px, hpx⟩ : ∃ z, xx.1 = z := ⟨_, rfl⟩
          obtain ⟨py, hpy⟩ : ∃ z, xx.2 = z := ⟨_, rfl⟩
          rw [hpx] at HC0
          rw [hpy] at HC1
          have heq : ∀ W : World, (binOp .eql 31 (prtV px py) (prtV s p)).run Tryd.prog W = .ok (.bool false) W := fun W => by
            rw [eql_prt, ← hpx, ← hpy]
            exact congrArg (fun b => Result.ok (Value.bool b) W) hcj
          clear hcj hpx hpy xx
          have x1 := (HQl.out _ hq).cell_at 1 rfl
          go_wp2_with fail
          have HS := Lib.hid (HQ.out.drew hq)
          clear x1 hq
          refine region_steady (Q) 16 (by kernel_rfl) (by kernel_rfl) HS.out ?_
          simp only [List.take_succ_cons, List.take_zero, List.drop_succ_cons, List.drop_zero]
          repeat (first | (refine steady_skip (by rfl) ?_; simp only [Act.put, List.setIfInBounds_toArray, List.set_cons_zero, List.set_cons_succ]) | (refine steady_read _ (by rfl) (fun W hW => by (have m0 := HQl.out _ hW; have x1 := m0.cell_at 1 rfl; clear m0; rw [HAl.out] at x1; have m1 := HQv.out _ hW; have v0 := m1.cell_at 0 rfl; have v1 := m1.cell_at 1 rfl; clear m1; have c0 := HC0.out _ hW; have c1 := HC1.out _ hW; go_simp; first | done | with_reducible rfl)) ?_; simp only [Act.put, List.setIfInBounds_toArray, List.set_cons_zero, List.set_cons_succ]))
          refine steady_nil (fun W hW => ?_)
          go_wp2_with fail
          go_roundw
          case rel => exact ⟨j + 1, hlt, by go_num, hW⟩
          case measure => simp [intOf]; omega
        · obtain rfl : j = l.sigs.length := by omega
          clear hj hlt
          have x1 := (HQl.out _ hq).cell_at 1 rfl
          go_wp2_with fail
          clear x1
          go_loopw [8] (fun i wr => ∃ j : Nat, j ≤ l.exits.length ∧ i = .int .i64 j ∧ Q wr) (fun i _ => l.exits.length - (intOf i).toNat)
          case atStart => exact ⟨0, by omega, rfl, hq⟩
          case round =>
            clear hq
            obtain ⟨j, hj, rfl, hq⟩ := hrel
            by_cases hlt : j < l.exits.length
            · have hlt' : (j : Int) < l.exits.length := by omega
              obtain ⟨xx, hx⟩ : ∃ x, l.exits[j]? = some x := ⟨_, List.getElem?_eq_getElem hlt⟩
              have hcj := HNb.out xx (List.mem_of_getElem? hx)
              obtain ⟨o1, o2, HAl, HC0, HC1⟩ := exit_cells HQL.out hq hx
              clear hx
              obtain ⟨px, hpx⟩ : ∃ z, xx.s = z := ⟨_, rfl⟩
              obtain ⟨py, hpy⟩ : ∃ z, xx.q = z := ⟨_, rfl⟩
              rw [hpx] at HC0
              rw [hpy] at HC1
              have heq : ∀ W : World, (binOp .eql 31 (prtV px py) (prtV s p)).run Tryd.prog W = .ok (.bool false) W := fun W => by
                rw [eql_prt, ← hpx, ← hpy]
                exact congrArg (fun b => Result.ok (Value.bool b) W) hcj
              clear hcj hpx hpy xx
              have x2 := (HQl.out _ hq).cell_at 2 rfl
              go_wp2_with fail
              have HS := Lib.hid (HQ.out.drew hq)
              clear x2 hq
              refine region_steady (Q) 16 (by kernel_rfl) (by kernel_rfl) HS.out ?_
              simp only [List.take_succ_cons, List.take_zero, List.drop_succ_cons, List.drop_zero]
              repeat (first | (refine steady_skip (by rfl) ?_; simp only [Act.put, List.setIfInBounds_toArray, List.set_cons_zero, List.set_cons_succ]) | (refine steady_read _ (by rfl) (fun W hW => by (have m0 := HQl.out _ hW; have x2 := m0.cell_at 2 rfl; clear m0; rw [HAl.out] at x2; have m1 := HQv.out _ hW; have v0 := m1.cell_at 0 rfl; have v1 := m1.cell_at 1 rfl; clear m1; have c0 := HC0.out _ hW; have c1 := HC1.out _ hW; go_simp; first | done | with_reducible rfl)) ?_; simp only [Act.put, List.setIfInBounds_toArray, List.set_cons_zero, List.set_cons_succ]))
              refine steady_nil (fun W hW => ?_)
              go_wp2_with fail
              go_roundw
              case rel => exact ⟨j + 1, hlt, by go_num, hW⟩
              case measure => simp [intOf]; omega
            · obtain rfl : j = l.exits.length := by omega
              clear hj hlt
              have x2 := (HQl.out _ hq).cell_at 2 rfl
              go_wp2_with fail
              clear x2
              go_wp2_with fail
              refine (wakes6_P HQ.out HQT.out hq).mono ?_
              rintro e w9 ⟨rfl, hq⟩
              go_wp2_with fail
              go_ret
              exact ⟨rfl, HQB.out _ hq⟩
    · have HNa := Lib.hid hNa
      clear hNa
      have da2 : decide ((l.sigs.length : Int) ≤ -1) = false := decide_eq_false (by omega)
      have HNb := Lib.hid hNb
      clear hNb
      obtain ⟨b1, b2, HAb, Hb0, Hb1⟩ := exit_cells HQL.out hq0 hxb
      have hpp := Prod.ext_iff.1 (isP_eq hpb)
      rw [show xb.s = s from hpp.1] at Hb0
      rw [show xb.q = p from hpp.2] at Hb1
      have qb1 := (List.getElem?_eq_some_iff.1 hxb).1
      have qb : (jb : Int) < l.exits.length := by omega
      have db1 : decide ((jb : Int) < -1) = false := decide_eq_false (by omega)
      have db2 : decide ((l.exits.length : Int) ≤ jb) = false := decide_eq_false (by omega)
      have db3 : decide ((0 : Int) ≤ jb) = true := decide_eq_true (by omega)
      have db4 : decide (l.exits.length ≤ jb) = false := decide_eq_false (by omega)
      clear hpp hxb hpb qb1
      clear hq0
      have HS := Lib.hid (HQ.out.drew hW)
      clear hW
      refine region_steady (Q) 47 (by kernel_rfl) (by kernel_rfl) HS.out ?_
      simp only [List.take_succ_cons, List.take_zero, List.drop_succ_cons, List.drop_zero]
      repeat (first | (refine steady_skip (by rfl) ?_; simp only [Act.put, List.setIfInBounds_toArray, List.set_cons_zero, List.set_cons_succ]) | (refine steady_read _ (by rfl) (fun W hW => by (have m0 := HQl.out _ hW; have x1 := m0.cell_at 1 rfl; have x2 := m0.cell_at 2 rfl; clear m0; have m1 := HQv.out _ hW; have v0 := m1.cell_at 0 rfl; have v1 := m1.cell_at 1 rfl; clear m1; have hne := fun W => neq_self W s p; rw [HAb.out] at x2; have bc0 := Hb0.out _ hW; have bc1 := Hb1.out _ hW; go_simp; first | done | with_reducible rfl)) ?_; simp only [Act.put, List.setIfInBounds_toArray, List.set_cons_zero, List.set_cons_succ]))
      refine steady_nil (fun W hW => ?_)
      go_wp2_with fail
      clear HS da2 db1 db2 db3 db4 qb 
      have hq := hW
      clear hW
      go_loopw [7] (fun i wr => ∃ j : Nat, j ≤ l.sigs.length ∧ i = .int .i64 j ∧ Q wr) (fun i _ => l.sigs.length - (intOf i).toNat)
      case atStart => exact ⟨0, by omega, rfl, hq⟩
      case round =>
        clear hq
        obtain ⟨j, hj, rfl, hq⟩ := hrel
        by_cases hlt : j < l.sigs.length
        · have hlt' : (j : Int) < l.sigs.length := by omega
          obtain ⟨xx, hx⟩ : ∃ x, l.sigs[j]? = some x := ⟨_, List.getElem?_eq_getElem hlt⟩
          have hcj := HNa.out xx (List.mem_of_getElem? hx)
          obtain ⟨o1, o2, HAl, HC0, HC1⟩ := sig_cells HQL.out hq hx
          clear hx
          obtain ⟨px, hpx⟩ : ∃ z, xx.1 = z := ⟨_, rfl⟩
          obtain ⟨py, hpy⟩ : ∃ z, xx.2 = z := ⟨_, rfl⟩
          rw [hpx] at HC0
          rw [hpy] at HC1
          have heq : ∀ W : World, (binOp .eql 31 (prtV px py) (prtV s p)).run Tryd.prog W = .ok (.bool false) W := fun W => by
            rw [eql_prt, ← hpx, ← hpy]
            exact congrArg (fun b => Result.ok (Value.bool b) W) hcj
          clear hcj hpx hpy xx
          have x1 := (HQl.out _ hq).cell_at 1 rfl
          go_wp2_with fail
          have HS := Lib.hid (HQ.out.drew hq)
          clear x1 hq
          refine region_steady (Q) 16 (by kernel_rfl) (by kernel_rfl) HS.out ?_
          simp only [List.take_succ_cons, List.take_zero, List.drop_succ_cons, List.drop_zero]
          repeat (first | (refine steady_skip (by rfl) ?_; simp only [Act.put, List.setIfInBounds_toArray, List.set_cons_zero, List.set_cons_succ]) | (refine steady_read _ (by rfl) (fun W hW => by (have m0 := HQl.out _ hW; have x1 := m0.cell_at 1 rfl; clear m0; rw [HAl.out] at x1; have m1 := HQv.out _ hW; have v0 := m1.cell_at 0 rfl; have v1 := m1.cell_at 1 rfl; clear m1; have c0 := HC0.out _ hW; have c1 := HC1.out _ hW; go_simp; first | done | with_reducible rfl)) ?_; simp only [Act.put, List.setIfInBounds_toArray, List.set_cons_zero, List.set_cons_succ]))
          refine steady_nil (fun W hW => ?_)
          go_wp2_with fail
          go_roundw
          case rel => exact ⟨j + 1, hlt, by go_num, hW⟩
          case measure => simp [intOf]; omega
        · obtain rfl : j = l.sigs.length := by omega
          clear hj hlt
          have x1 := (HQl.out _ hq).cell_at 1 rfl
          go_wp2_with fail
          clear x1
          go_loopw [8] (fun i wr => ∃ j : Nat, j ≤ l.exits.length ∧ i = .int .i64 j ∧ Q wr) (fun i _ => l.exits.length - (intOf i).toNat)
          case atStart => exact ⟨0, by omega, rfl, hq⟩
          case round =>
            clear hq
            obtain ⟨j, hj, rfl, hq⟩ := hrel
            by_cases hlt : j < l.exits.length
            · have hlt' : (j : Int) < l.exits.length := by omega
              obtain ⟨xx, hx⟩ : ∃ x, l.exits[j]? = some x := ⟨_, List.getElem?_eq_getElem hlt⟩
              have hcj : isP s p (xx.s, xx.q) = false ∨ ((xx.s, xx.q) = (s, p) ∧ ¬ (j : Int) < jb) := by
                by_cases hi : isP s p (xx.s, xx.q) = true
                · refine .inr ⟨isP_eq hi, fun hlt => ?_⟩
                  exact absurd (hi.symm.trans (HNb.out j xx (by omega) hx)) (by decide)
                · exact .inl (by simpa using hi)
              obtain ⟨o1, o2, HAl, HC0, HC1⟩ := exit_cells HQL.out hq hx
              clear hx
              obtain ⟨px, hpx⟩ : ∃ z, xx.s = z := ⟨_, rfl⟩
              obtain ⟨py, hpy⟩ : ∃ z, xx.q = z := ⟨_, rfl⟩
              rw [hpx] at HC0
              rw [hpy] at HC1
              rcases hcj with hcj | hcj
              · have heq : ∀ W : World, (binOp .eql 31 (prtV px py) (prtV s p)).run Tryd.prog W = .ok (.bool false) W := fun W => by
                  rw [eql_prt, ← hpx, ← hpy]
                  exact congrArg (fun b => Result.ok (Value.bool b) W) hcj
                clear hcj hpx hpy xx
                have x2 := (HQl.out _ hq).cell_at 2 rfl
                go_wp2_with fail
                have HS := Lib.hid (HQ.out.drew hq)
                clear x2 hq
                refine region_steady (Q) 16 (by kernel_rfl) (by kernel_rfl) HS.out ?_
                simp only [List.take_succ_cons, List.take_zero, List.drop_succ_cons, List.drop_zero]
                repeat (first | (refine steady_skip (by rfl) ?_; simp only [Act.put, List.setIfInBounds_toArray, List.set_cons_zero, List.set_cons_succ]) | (refine steady_read _ (by rfl) (fun W hW => by (have m0 := HQl.out _ hW; have x2 := m0.cell_at 2 rfl; clear m0; rw [HAl.out] at x2; have m1 := HQv.out _ hW; have v0 := m1.cell_at 0 rfl; have v1 := m1.cell_at 1 rfl; clear m1; have c0 := HC0.out _ hW; have c1 := HC1.out _ hW; go_simp; first | done | with_reducible rfl)) ?_; simp only [Act.put, List.setIfInBounds_toArray, List.set_cons_zero, List.set_cons_succ]))
                refine steady_nil (fun W hW => ?_)
                go_wp2_with fail
                go_roundw
                case rel => exact ⟨j + 1, hlt, by go_num, hW⟩
                case measure => simp [intOf]; omega
              · obtain ⟨hcj, hnl⟩ := hcj
                have hpp := Prod.ext_iff.1 hcj
                rw [show px = s from hpx.symm.trans hpp.1] at HC0
                rw [show py = p from hpy.symm.trans hpp.2] at HC1
                have heq : ∀ W : World, (binOp .eql 31 (prtV s p) (prtV s p)).run Tryd.prog W = .ok (.bool true) W := fun W => by rw [eql_prt]; simp
                have d1 : decide ((jb : Int) < 0) = false := by simp
                have d2 : decide ((j : Int) < jb) = false := decide_eq_false hnl
                have d3 : decide (j < jb) = false := decide_eq_false (by omega)
                clear hcj hpp hpx hpy hnl
                have x2 := (HQl.out _ hq).cell_at 2 rfl
                go_wp2_with fail
                have HS := Lib.hid (HQ.out.drew hq)
                clear x2 hq
                refine region_steady (Q) 16 (by kernel_rfl) (by kernel_rfl) HS.out ?_
                simp only [List.take_succ_cons, List.take_zero, List.drop_succ_cons, List.drop_zero]
                repeat (first | (refine steady_skip (by rfl) ?_; simp only [Act.put, List.setIfInBounds_toArray, List.set_cons_zero, List.set_cons_succ]) | (refine steady_read _ (by rfl) (fun W hW => by (have m0 := HQl.out _ hW; have x2 := m0.cell_at 2 rfl; clear m0; rw [HAl.out] at x2; have m1 := HQv.out _ hW; have v0 := m1.cell_at 0 rfl; have v1 := m1.cell_at 1 rfl; clear m1; have c0 := HC0.out _ hW; have c1 := HC1.out _ hW; go_simp; first | done | with_reducible rfl)) ?_; simp only [Act.put, List.setIfInBounds_toArray, List.set_cons_zero, List.set_cons_succ]))
                refine steady_nil (fun W hW => ?_)
                go_wp2_with fail
                go_roundw
                case rel => exact ⟨j + 1, hlt, by go_num, hW⟩
                case measure => simp [intOf]; omega
            · obtain rfl : j = l.exits.length := by omega
              clear hj hlt
              have x2 := (HQl.out _ hq).cell_at 2 rfl
              go_wp2_with fail
              clear x2
              go_wp2_with fail
              refine (wakes6_P HQ.out HQT.out hq).mono ?_
              rintro e w9 ⟨rfl, hq⟩
              go_wp2_with fail
              go_ret
              exact ⟨rfl, HQB.out _ hq⟩
    · have HNa := Lib.hid hNa
      clear hNa
      obtain ⟨a1, a2, HAa, Ha0, Ha1⟩ := sig_cells HQL.out hq0 hxa
      have hpp := Prod.ext_iff.1 (isP_eq hpa)
      rw [show xa.1 = s from hpp.1] at Ha0
      rw [show xa.2 = p from hpp.2] at Ha1
      have qa1 := (List.getElem?_eq_some_iff.1 hxa).1
      have qa : (ja : Int) < l.sigs.length := by omega
      have da1 : decide ((ja : Int) < -1) = false := decide_eq_false (by omega)
      have da2 : decide ((l.sigs.length : Int) ≤ ja) = false := decide_eq_false (by omega)
      have da3 : decide ((0 : Int) ≤ ja) = true := decide_eq_true (by omega)
      have da4 : decide (l.sigs.length ≤ ja) = false := decide_eq_false (by omega)
      clear hpp hxa hpa qa1
      have HNb := Lib.hid hNb
      clear hNb
      have db2 : decide ((l.exits.length : Int) ≤ -1) = false := decide_eq_false (by omega)
      clear hq0
      have HS := Lib.hid (HQ.out.drew hW)
      clear hW
      refine region_steady (Q) 47 (by kernel_rfl) (by kernel_rfl) HS.out ?_
      simp only [List.take_succ_cons, List.take_zero, List.drop_succ_cons, List.drop_zero]
      repeat (first | (refine steady_skip (by rfl) ?_; simp only [Act.put, List.setIfInBounds_toArray, List.set_cons_zero, List.set_cons_succ]) | (refine steady_read _ (by rfl) (fun W hW => by (have m0 := HQl.out _ hW; have x1 := m0.cell_at 1 rfl; have x2 := m0.cell_at 2 rfl; clear m0; have m1 := HQv.out _ hW; have v0 := m1.cell_at 0 rfl; have v1 := m1.cell_at 1 rfl; clear m1; have hne := fun W => neq_self W s p; rw [HAa.out] at x1; have ac0 := Ha0.out _ hW; have ac1 := Ha1.out _ hW; go_simp; first | done | with_reducible rfl)) ?_; simp only [Act.put, List.setIfInBounds_toArray, List.set_cons_zero, List.set_cons_succ]))
      refine steady_nil (fun W hW => ?_)
      go_wp2_with fail
      clear HS da1 da2 da3 da4 qa db2 
      have hq := hW
      clear hW
      go_loopw [7] (fun i wr => ∃ j : Nat, j ≤ l.sigs.length ∧ i = .int .i64 j ∧ Q wr) (fun i _ => l.sigs.length - (intOf i).toNat)
      case atStart => exact ⟨0, by omega, rfl, hq⟩
      case round =>
        clear hq
        obtain ⟨j, hj, rfl, hq⟩ := hrel
        by_cases hlt : j < l.sigs.length
        · have hlt' : (j : Int) < l.sigs.length := by omega
          obtain ⟨xx, hx⟩ : ∃ x, l.sigs[j]? = some x := ⟨_, List.getElem?_eq_getElem hlt⟩
          have hcj : isP s p xx = false ∨ ((xx) = (s, p) ∧ ¬ (j : Int) < ja) := by
            by_cases hi : isP s p xx = true
            · refine .inr ⟨isP_eq hi, fun hlt => ?_⟩
              exact absurd (hi.symm.trans (HNa.out j xx (by omega) hx)) (by decide)
            · exact .inl (by simpa using hi)
          obtain ⟨o1, o2, HAl, HC0, HC1⟩ := sig_cells HQL.out hq hx
          clear hx
          obtain ⟨px, hpx⟩ : ∃ z, xx.1 = z := ⟨_, rfl⟩
          obtain ⟨py, hpy⟩ : ∃ z, xx.2 = z := ⟨_, rfl⟩
          rw [hpx] at HC0
          rw [hpy] at HC1
          rcases hcj with hcj | hcj
          · have heq : ∀ W : World, (binOp .eql 31 (prtV px py) (prtV s p)).run Tryd.prog W = .ok (.bool false) W := fun W => by
              rw [eql_prt, ← hpx, ← hpy]
              exact congrArg (fun b => Result.ok (Value.bool b) W) hcj
            clear hcj hpx hpy xx
            have x1 := (HQl.out _ hq).cell_at 1 rfl
            go_wp2_with fail
            have HS := Lib.hid (HQ.out.drew hq)
            clear x1 hq
            refine region_steady (Q) 16 (by kernel_rfl) (by kernel_rfl) HS.out ?_
            simp only [List.take_succ_cons, List.take_zero, List.drop_succ_cons, List.drop_zero]
            repeat (first | (refine steady_skip (by rfl) ?_; simp only [Act.put, List.setIfInBounds_toArray, List.set_cons_zero, List.set_cons_succ]) | (refine steady_read _ (by rfl) (fun W hW => by (have m0 := HQl.out _ hW; have x1 := m0.cell_at 1 rfl; clear m0; rw [HAl.out] at x1; have m1 := HQv.out _ hW; have v0 := m1.cell_at 0 rfl; have v1 := m1.cell_at 1 rfl; clear m1; have c0 := HC0.out _ hW; have c1 := HC1.out _ hW; go_simp; first | done | with_reducible rfl)) ?_; simp only [Act.put, List.setIfInBounds_toArray, List.set_cons_zero, List.set_cons_succ]))
            refine steady_nil (fun W hW => ?_)
            go_wp2_with fail
            go_roundw
            case rel => exact ⟨j + 1, hlt, by go_num, hW⟩
            case measure => simp [intOf]; omega
          · obtain ⟨hcj, hnl⟩ := hcj
            have hpp := Prod.ext_iff.1 hcj
            rw [show px = s from hpx.symm.trans hpp.1] at HC0
            rw [show py = p from hpy.symm.trans hpp.2] at HC1
            have heq : ∀ W : World, (binOp .eql 31 (prtV s p) (prtV s p)).run Tryd.prog W = .ok (.bool true) W := fun W => by rw [eql_prt]; simp
            have d1 : decide ((ja : Int) < 0) = false := by simp
            have d2 : decide ((j : Int) < ja) = false := decide_eq_false hnl
            have d3 : decide (j < ja) = false := decide_eq_false (by omega)
            clear hcj hpp hpx hpy hnl
            have x1 := (HQl.out _ hq).cell_at 1 rfl
            go_wp2_with fail
            have HS := Lib.hid (HQ.out.drew hq)
            clear x1 hq
            refine region_steady (Q) 16 (by kernel_rfl) (by kernel_rfl) HS.out ?_
            simp only [List.take_succ_cons, List.take_zero, List.drop_succ_cons, List.drop_zero]
            repeat (first | (refine steady_skip (by rfl) ?_; simp only [Act.put, List.setIfInBounds_toArray, List.set_cons_zero, List.set_cons_succ]) | (refine steady_read _ (by rfl) (fun W hW => by (have m0 := HQl.out _ hW; have x1 := m0.cell_at 1 rfl; clear m0; rw [HAl.out] at x1; have m1 := HQv.out _ hW; have v0 := m1.cell_at 0 rfl; have v1 := m1.cell_at 1 rfl; clear m1; have c0 := HC0.out _ hW; have c1 := HC1.out _ hW; go_simp; first | done | with_reducible rfl)) ?_; simp only [Act.put, List.setIfInBounds_toArray, List.set_cons_zero, List.set_cons_succ]))
            refine steady_nil (fun W hW => ?_)
            go_wp2_with fail
            go_roundw
            case rel => exact ⟨j + 1, hlt, by go_num, hW⟩
            case measure => simp [intOf]; omega
        · obtain rfl : j = l.sigs.length := by omega
          clear hj hlt
          have x1 := (HQl.out _ hq).cell_at 1 rfl
          go_wp2_with fail
          clear x1
          go_loopw [8] (fun i wr => ∃ j : Nat, j ≤ l.exits.length ∧ i = .int .i64 j ∧ Q wr) (fun i _ => l.exits.length - (intOf i).toNat)
          case atStart => exact ⟨0, by omega, rfl, hq⟩
          case round =>
            clear hq
            obtain ⟨j, hj, rfl, hq⟩ := hrel
            by_cases hlt : j < l.exits.length
            · have hlt' : (j : Int) < l.exits.length := by omega
              obtain ⟨xx, hx⟩ : ∃ x, l.exits[j]? = some x := ⟨_, List.getElem?_eq_getElem hlt⟩
              have hcj := HNb.out xx (List.mem_of_getElem? hx)
              obtain ⟨o1, o2, HAl, HC0, HC1⟩ := exit_cells HQL.out hq hx
              clear hx
              obtain ⟨px, hpx⟩ : ∃ z, xx.s = z := ⟨_, rfl⟩
              obtain ⟨py, hpy⟩ : ∃ z, xx.q = z := ⟨_, rfl⟩
              rw [hpx] at HC0
              rw [hpy] at HC1
              have heq : ∀ W : World, (binOp .eql 31 (prtV px py) (prtV s p)).run Tryd.prog W = .ok (.bool false) W := fun W => by
                rw [eql_prt, ← hpx, ← hpy]
                exact congrArg (fun b => Result.ok (Value.bool b) W) hcj
              clear hcj hpx hpy xx
              have x2 := (HQl.out _ hq).cell_at 2 rfl
              go_wp2_with fail
              have HS := Lib.hid (HQ.out.drew hq)
              clear x2 hq
              refine region_steady (Q) 16 (by kernel_rfl) (by kernel_rfl) HS.out ?_
              simp only [List.take_succ_cons, List.take_zero, List.drop_succ_cons, List.drop_zero]
              repeat (first | (refine steady_skip (by rfl) ?_; simp only [Act.put, List.setIfInBounds_toArray, List.set_cons_zero, List.set_cons_succ]) | (refine steady_read _ (by rfl) (fun W hW => by (have m0 := HQl.out _ hW; have x2 := m0.cell_at 2 rfl; clear m0; rw [HAl.out] at x2; have m1 := HQv.out _ hW; have v0 := m1.cell_at 0 rfl; have v1 := m1.cell_at 1 rfl; clear m1; have c0 := HC0.out _ hW; have c1 := HC1.out _ hW; go_simp; first | done | with_reducible rfl)) ?_; simp only [Act.put, List.setIfInBounds_toArray, List.set_cons_zero, List.set_cons_succ]))
              refine steady_nil (fun W hW => ?_)
              go_wp2_with fail
              go_roundw
              case rel => exact ⟨j + 1, hlt, by go_num, hW⟩
              case measure => simp [intOf]; omega
            · obtain rfl : j = l.exits.length := by omega
              clear hj hlt
              have x2 := (HQl.out _ hq).cell_at 2 rfl
              go_wp2_with fail
              clear x2
              go_wp2_with fail
              refine (wakes6_P HQ.out HQT.out hq).mono ?_
              rintro e w9 ⟨rfl, hq⟩
              go_wp2_with fail
              go_ret
              exact ⟨rfl, HQB.out _ hq⟩
    · have HNa := Lib.hid hNa
      clear hNa
      obtain ⟨a1, a2, HAa, Ha0, Ha1⟩ := sig_cells HQL.out hq0 hxa
      have hpp := Prod.ext_iff.1 (isP_eq hpa)
      rw [show xa.1 = s from hpp.1] at Ha0
      rw [show xa.2 = p from hpp.2] at Ha1
      have qa1 := (List.getElem?_eq_some_iff.1 hxa).1
      have qa : (ja : Int) < l.sigs.length := by omega
      have da1 : decide ((ja : Int) < -1) = false := decide_eq_false (by omega)
      have da2 : decide ((l.sigs.length : Int) ≤ ja) = false := decide_eq_false (by omega)
      have da3 : decide ((0 : Int) ≤ ja) = true := decide_eq_true (by omega)
      have da4 : decide (l.sigs.length ≤ ja) = false := decide_eq_false (by omega)
      clear hpp hxa hpa qa1
      have HNb := Lib.hid hNb
      clear hNb
      obtain ⟨b1, b2, HAb, Hb0, Hb1⟩ := exit_cells HQL.out hq0 hxb
      have hpp := Prod.ext_iff.1 (isP_eq hpb)
      rw [show xb.s = s from hpp.1] at Hb0
      rw [show xb.q = p from hpp.2] at Hb1
      have qb1 := (List.getElem?_eq_some_iff.1 hxb).1
      have qb : (jb : Int) < l.exits.length := by omega
      have db1 : decide ((jb : Int) < -1) = false := decide_eq_false (by omega)
      have db2 : decide ((l.exits.length : Int) ≤ jb) = false := decide_eq_false (by omega)
      have db3 : decide ((0 : Int) ≤ jb) = true := decide_eq_true (by omega)
      have db4 : decide (l.exits.length ≤ jb) = false := decide_eq_false (by omega)
      clear hpp hxb hpb qb1
      clear hq0
      have HS := Lib.hid (HQ.out.drew hW)
      clear hW
      refine region_steady (Q) 47 (by kernel_rfl) (by kernel_rfl) HS.out ?_
      simp only [List.take_succ_cons, List.take_zero, List.drop_succ_cons, List.drop_zero]
      repeat (first | (refine steady_skip (by rfl) ?_; simp only [Act.put, List.setIfInBounds_toArray, List.set_cons_zero, List.set_cons_succ]) | (refine steady_read _ (by rfl) (fun W hW => by (have m0 := HQl.out _ hW; have x1 := m0.cell_at 1 rfl; have x2 := m0.cell_at 2 rfl; clear m0; have m1 := HQv.out _ hW; have v0 := m1.cell_at 0 rfl; have v1 := m1.cell_at 1 rfl; clear m1; have hne := fun W => neq_self W s p; rw [HAa.out] at x1; have ac0 := Ha0.out _ hW; have ac1 := Ha1.out _ hW; rw [HAb.out] at x2; have bc0 := Hb0.out _ hW; have bc1 := Hb1.out _ hW; go_simp; first | done | with_reducible rfl)) ?_; simp only [Act.put, List.setIfInBounds_toArray, List.set_cons_zero, List.set_cons_succ]))
      refine steady_nil (fun W hW => ?_)
      go_wp2_with fail
      clear HS da1 da2 da3 da4 qa db1 db2 db3 db4 qb 
      have hq := hW
      clear hW
      go_loopw [7] (fun i wr => ∃ j : Nat, j ≤ l.sigs.length ∧ i = .int .i64 j ∧ Q wr) (fun i _ => l.sigs.length - (intOf i).toNat)
      case atStart => exact ⟨0, by omega, rfl, hq⟩
      case round =>
        clear hq
        obtain ⟨j, hj, rfl, hq⟩ := hrel
        by_cases hlt : j < l.sigs.length
        · have hlt' : (j : Int) < l.sigs.length := by omega
          obtain ⟨xx, hx⟩ : ∃ x, l.sigs[j]? = some x := ⟨_, List.getElem?_eq_getElem hlt⟩
          have hcj : isP s p xx = false ∨ ((xx) = (s, p) ∧ ¬ (j : Int) < ja) := by
            by_cases hi : isP s p xx = true
            · refine .inr ⟨isP_eq hi, fun hlt => ?_⟩
              exact absurd (hi.symm.trans (HNa.out j xx (by omega) hx)) (by decide)
            · exact .inl (by simpa using hi)
          obtain ⟨o1, o2, HAl, HC0, HC1⟩ := sig_cells HQL.out hq hx
          clear hx
          obtain ⟨px, hpx⟩ : ∃ z, xx.1 = z := ⟨_, rfl⟩
          obtain ⟨py, hpy⟩ : ∃ z, xx.2 = z := ⟨_, rfl⟩
          rw [hpx] at HC0
          rw [hpy] at HC1
          rcases hcj with hcj | hcj
          · have heq : ∀ W : World, (binOp .eql 31 (prtV px py) (prtV s p)).run Tryd.prog W = .ok (.bool false) W := fun W => by
              rw [eql_prt, ← hpx, ← hpy]
              exact congrArg (fun b => Result.ok (Value.bool b) W) hcj
            clear hcj hpx hpy xx
            have x1 := (HQl.out _ hq).cell_at 1 rfl
            go_wp2_with fail
            have HS := Lib.hid (HQ.out.drew hq)
            clear x1 hq
            refine region_steady (Q) 16 (by kernel_rfl) (by kernel_rfl) HS.out ?_
            simp only [List.take_succ_cons, List.take_zero, List.drop_succ_cons, List.drop_zero]
            repeat (first | (refine steady_skip (by rfl) ?_; simp only [Act.put, List.setIfInBounds_toArray, List.set_cons_zero, List.set_cons_succ]) | (refine steady_read _ (by rfl) (fun W hW => by (have m0 := HQl.out _ hW; have x1 := m0.cell_at 1 rfl; clear m0; rw [HAl.out] at x1; have m1 := HQv.out _ hW; have v0 := m1.cell_at 0 rfl; have v1 := m1.cell_at 1 rfl; clear m1; have c0 := HC0.out _ hW; have c1 := HC1.out _ hW; go_simp; first | done | with_reducible rfl)) ?_; simp only [Act.put, List.setIfInBounds_toArray, List.set_cons_zero, List.set_cons_succ]))
            refine steady_nil (fun W hW => ?_)
            go_wp2_with fail
            go_roundw
            case rel => exact ⟨j + 1, hlt, by go_num, hW⟩
            case measure => simp [intOf]; omega
          · obtain ⟨hcj, hnl⟩ := hcj
            have hpp := Prod.ext_iff.1 hcj
            rw [show px = s from hpx.symm.trans hpp.1] at HC0
            rw [show py = p from hpy.symm.trans hpp.2] at HC1
            have heq : ∀ W : World, (binOp .eql 31 (prtV s p) (prtV s p)).run Tryd.prog W = .ok (.bool true) W := fun W => by rw [eql_prt]; simp
            have d1 : decide ((ja : Int) < 0) = false := by simp
            have d2 : decide ((j : Int) < ja) = false := decide_eq_false hnl
            have d3 : decide (j < ja) = false := decide_eq_false (by omega)
            clear hcj hpp hpx hpy hnl
            have x1 := (HQl.out _ hq).cell_at 1 rfl
            go_wp2_with fail
            have HS := Lib.hid (HQ.out.drew hq)
            clear x1 hq
            refine region_steady (Q) 16 (by kernel_rfl) (by kernel_rfl) HS.out ?_
            simp only [List.take_succ_cons, List.take_zero, List.drop_succ_cons, List.drop_zero]
            repeat (first | (refine steady_skip (by rfl) ?_; simp only [Act.put, List.setIfInBounds_toArray, List.set_cons_zero, List.set_cons_succ]) | (refine steady_read _ (by rfl) (fun W hW => by (have m0 := HQl.out _ hW; have x1 := m0.cell_at 1 rfl; clear m0; rw [HAl.out] at x1; have m1 := HQv.out _ hW; have v0 := m1.cell_at 0 rfl; have v1 := m1.cell_at 1 rfl; clear m1; have c0 := HC0.out _ hW; have c1 := HC1.out _ hW; go_simp; first | done | with_reducible rfl)) ?_; simp only [Act.put, List.setIfInBounds_toArray, List.set_cons_zero, List.set_cons_succ]))
            refine steady_nil (fun W hW => ?_)
            go_wp2_with fail
            go_roundw
            case rel => exact ⟨j + 1, hlt, by go_num, hW⟩
            case measure => simp [intOf]; omega
        · obtain rfl : j = l.sigs.length := by omega
          clear hj hlt
          have x1 := (HQl.out _ hq).cell_at 1 rfl
          go_wp2_with fail
          clear x1
          go_loopw [8] (fun i wr => ∃ j : Nat, j ≤ l.exits.length ∧ i = .int .i64 j ∧ Q wr) (fun i _ => l.exits.length - (intOf i).toNat)
          case atStart => exact ⟨0, by omega, rfl, hq⟩
          case round =>
            clear hq
            obtain ⟨j, hj, rfl, hq⟩ := hrel
            by_cases hlt : j < l.exits.length
            · have hlt' : (j : Int) < l.exits.length := by omega
              obtain ⟨xx, hx⟩ : ∃ x, l.exits[j]? = some x := ⟨_, List.getElem?_eq_getElem hlt⟩
              have hcj : isP s p (xx.s, xx.q) = false ∨ ((xx.s, xx.q) = (s, p) ∧ ¬ (j : Int) < jb) := by
                by_cases hi : isP s p (xx.s, xx.q) = true
                · refine .inr ⟨isP_eq hi, fun hlt => ?_⟩
                  exact absurd (hi.symm.trans (HNb.out j xx (by omega) hx)) (by decide)
                · exact .inl (by simpa using hi)
              obtain ⟨o1, o2, HAl, HC0, HC1⟩ := exit_cells HQL.out hq hx
              clear hx
              obtain ⟨px, hpx⟩ : ∃ z, xx.s = z := ⟨_, rfl⟩
              obtain ⟨py, hpy⟩ : ∃ z, xx.q = z := ⟨_, rfl⟩
              rw [hpx] at HC0
              rw [hpy] at HC1
              rcases hcj with hcj | hcj
              · have heq : ∀ W : World, (binOp .eql 31 (prtV px py) (prtV s p)).run Tryd.prog W = .ok (.bool false) W := fun W => by
                  rw [eql_prt, ← hpx, ← hpy]
                  exact congrArg (fun b => Result.ok (Value.bool b) W) hcj
                clear hcj hpx hpy xx
                have x2 := (HQl.out _ hq).cell_at 2 rfl
                go_wp2_with fail
                have HS := Lib.hid (HQ.out.drew hq)
                clear x2 hq
                refine region_steady (Q) 16 (by kernel_rfl) (by kernel_rfl) HS.out ?_
                simp only [List.take_succ_cons, List.take_zero, List.drop_succ_cons, List.drop_zero]
                repeat (first | (refine steady_skip (by rfl) ?_; simp only [Act.put, List.setIfInBounds_toArray, List.set_cons_zero, List.set_cons_succ]) | (refine steady_read _ (by rfl) (fun W hW => by (have m0 := HQl.out _ hW; have x2 := m0.cell_at 2 rfl; clear m0; rw [HAl.out] at x2; have m1 := HQv.out _ hW; have v0 := m1.cell_at 0 rfl; have v1 := m1.cell_at 1 rfl; clear m1; have c0 := HC0.out _ hW; have c1 := HC1.out _ hW; go_simp; first | done | with_reducible rfl)) ?_; simp only [Act.put, List.setIfInBounds_toArray, List.set_cons_zero, List.set_cons_succ]))
                refine steady_nil (fun W hW => ?_)
                go_wp2_with fail
                go_roundw
                case rel => exact ⟨j + 1, hlt, by go_num, hW⟩
                case measure => simp [intOf]; omega
              · obtain ⟨hcj, hnl⟩ := hcj
                have hpp := Prod.ext_iff.1 hcj
                rw [show px = s from hpx.symm.trans hpp.1] at HC0
                rw [show py = p from hpy.symm.trans hpp.2] at HC1
                have heq : ∀ W : World, (binOp .eql 31 (prtV s p) (prtV s p)).run Tryd.prog W = .ok (.bool true) W := fun W => by rw [eql_prt]; simp
                have d1 : decide ((jb : Int) < 0) = false := by simp
                have d2 : decide ((j : Int) < jb) = false := decide_eq_false hnl
                have d3 : decide (j < jb) = false := decide_eq_false (by omega)
                clear hcj hpp hpx hpy hnl
                have x2 := (HQl.out _ hq).cell_at 2 rfl
                go_wp2_with fail
                have HS := Lib.hid (HQ.out.drew hq)
                clear x2 hq
                refine region_steady (Q) 16 (by kernel_rfl) (by kernel_rfl) HS.out ?_
                simp only [List.take_succ_cons, List.take_zero, List.drop_succ_cons, List.drop_zero]
                repeat (first | (refine steady_skip (by rfl) ?_; simp only [Act.put, List.setIfInBounds_toArray, List.set_cons_zero, List.set_cons_succ]) | (refine steady_read _ (by rfl) (fun W hW => by (have m0 := HQl.out _ hW; have x2 := m0.cell_at 2 rfl; clear m0; rw [HAl.out] at x2; have m1 := HQv.out _ hW; have v0 := m1.cell_at 0 rfl; have v1 := m1.cell_at 1 rfl; clear m1; have c0 := HC0.out _ hW; have c1 := HC1.out _ hW; go_simp; first | done | with_reducible rfl)) ?_; simp only [Act.put, List.setIfInBounds_toArray, List.set_cons_zero, List.set_cons_succ]))
                refine steady_nil (fun W hW => ?_)
                go_wp2_with fail
                go_roundw
                case rel => exact ⟨j + 1, hlt, by go_num, hW⟩
                case measure => simp [intOf]; omega
            · obtain rfl : j = l.exits.length := by omega
              clear hj hlt
              have x2 := (HQl.out _ hq).cell_at 2 rfl
              go_wp2_with fail
              clear x2
              go_wp2_with fail
              refine (wakes6_P HQ.out HQT.out hq).mono ?_
              rintro e w9 ⟨rfl, hq⟩
              go_wp2_with fail
              go_ret
              exact ⟨rfl, HQB.out _ hq⟩
end Go.Proofs.YtbalcbnlpgekaaaDoor
