/- The walk of BeyondGoes: overlaps go from beyond their exits; what goes does so in parts, and back. -/
import Derived.Deep.CutRange
import Derived.Test.YthjnhigcheakaaaDoorQBeK
import Derived.Test.YthjnhigcheakaaaDoorQBeGoP
import Derived.Test.YthjnhigcheakaaaDoorQTopoR
import Derived.Test.YthjnhigcheakaaaDoorQJoinC
import Derived.Test.YthjnhigcheakaaaDoorQLayOneM
namespace Go.Proofs.YthjnhigcheakaaaDoor
open Go.RowKit Go.Shelf
set_option linter.unusedVariables false
set_option linter.unusedSimpArgs false

/-- The last ones, from number r on, backwards, turned about. -/
def backs (ss : List (Int × Int × Int)) (r : Nat) : List (Int × Int × Int) := (ss.drop r).reverse.map turn
theorem backs_all (ss : List (Int × Int × Int)) : backs ss ss.length = [] := by unfold backs; rw [List.drop_length]; rfl
theorem backs_next {ss : List (Int × Int × Int)} {r : Nat} {x : Int × Int × Int} (h : ss[r]? = some x) : backs ss r = backs ss (r + 1) ++ [turn x] := by
  unfold backs
  rw [drop_at h, List.reverse_cons, List.map_append]
  rfl
theorem at_value (x : Int) {n : Nat} (h : n ≤ 20) : ∃ a : Nat, a ≤ n ∧ (wrap64 (wrap64 (x.tmod ((n : Int) + 1) + (n : Int)) + 1)).tmod ((n : Int) + 1) = (a : Int) := by
  have hlt := Int.tmod_lt_of_pos x (show (0 : Int) < (n : Int) + 1 by omega)
  have hgt := Int.lt_tmod_of_pos x (show (0 : Int) < (n : Int) + 1 by omega)
  have hw1 : wrap64 (x.tmod ((n : Int) + 1) + (n : Int)) = x.tmod ((n : Int) + 1) + (n : Int) := by unfold wrap64; omega
  have hw2 : wrap64 (x.tmod ((n : Int) + 1) + (n : Int) + 1) = x.tmod ((n : Int) + 1) + (n : Int) + 1 := by unfold wrap64; omega
  rw [hw1, hw2]
  have h2 := Int.tmod_lt_of_pos (x.tmod ((n : Int) + 1) + (n : Int) + 1) (show (0 : Int) < (n : Int) + 1 by omega)
  have h3 : 0 ≤ Int.tmod (x.tmod ((n : Int) + 1) + (n : Int) + 1) ((n : Int) + 1) := Int.tmod_nonneg _ (by omega)
  exact ⟨(Int.tmod (x.tmod ((n : Int) + 1) + (n : Int) + 1) ((n : Int) + 1)).toNat, by omega, by omega⟩
theorem exec_slice {P : Program} {o : Oper} {ρ : Operand → Value} {w : World} (t : TypeId) (x : Operand) (lo hi mx : Option Operand) (ho : o.op = .slice t x lo hi mx) {v : Value}
    (hrun : (Instr.sliceAt t (ρ x) (lo.map ρ) (hi.map ρ) (mx.map ρ)).run P w = .ok v w) : (execOp ρ o).run P w = .ok (.value v) w := by
  unfold execOp
  simp only [ho, Sem.run_bind, Sem.run_pure, Result.andThen_ok, hrun]
theorem und_steps : Tryd.prog.underlying 34 = some (.slice (Tryd.prog.elem 34)) := by kernel_rfl
theorem size_steps (W : World) : (sizeOf (Tryd.prog.elem 34)).run Tryd.prog W = .ok 3 W := by kernel_rfl
theorem slice_to (A : Option Addr) (n c a : Nat) (ha : a ≤ c) (W : World) : (Instr.sliceAt 34 (.slice A n c) none (some (.int .i64 (a : Int))) none).run Tryd.prog W = .ok (.slice A a c) W := by
  have h : (Instr.sliceAt 34 (.slice A n c) none (some (.int .i64 (a : Int))) none).run Tryd.prog W = .ok (sliced A 0 a c 3) W := by
    have h1 : (a : Int) ≤ (c : Int) := by omega
    have h2 : (0 : Int) ≤ (a : Int) := by omega
    rw [run_sliceAt_slice (h := und_steps), run_slice_h (ht := und_steps) (h0 := h2) (h2 := h1), size_steps]
    rfl
  rw [h]
  cases A <;> simp [sliced, Addr.add]
/-- Where s[a:] lies. -/
def fromA (A : Option Addr) (c a : Nat) : Option Addr := if c = a then A else A.map (·.add (a * 3))
theorem slice_from (A : Option Addr) (n c a : Nat) (ha : a ≤ n) (W : World) : (Instr.sliceAt 34 (.slice A n c) (some (.int .i64 (a : Int))) none none).run Tryd.prog W = .ok (.slice (fromA A c a) (n - a) (c - a)) W := by
  have h1 : (a : Int) ≤ (n : Int) := by omega
  have h2 : (0 : Int) ≤ (a : Int) := by omega
  rw [run_sliceAt_slice (h := und_steps), run_slice_l (ht := und_steps) (h0 := h2) (h1 := h1), size_steps]
  rfl
theorem row_to {w : World} {Bd : Nat} {A : Option Addr} {ss : List (Int × Int × Int)} (h : Row w Bd A (ss.flatMap stpCells)) (a : Nat) : Row w Bd A ((ss.take a).flatMap stpCells) := by
  intro hp
  have e : ss.flatMap stpCells = (ss.take a).flatMap stpCells ++ (ss.drop a).flatMap stpCells := by rw [← List.flatMap_append, List.take_append_drop]
  rw [e] at h
  obtain ⟨b, off, e1, hb, hc⟩ := h (by rw [List.length_append]; omega)
  exact ⟨b, off, e1, hb, fun j u hu => hc j u (by rw [List.getElem?_append_left (List.getElem?_eq_some_iff.1 hu).1]; exact hu)⟩
theorem row_from {w : World} {Bd : Nat} {A : Option Addr} {ss : List (Int × Int × Int)} (h : Row w Bd A (ss.flatMap stpCells)) {a c : Nat} (ha : a ≤ ss.length) (hcap : ss.length ≤ c) : Row w Bd (fromA A c a) ((ss.drop a).flatMap stpCells) := by
  intro hp
  have e : ss.flatMap stpCells = (ss.take a).flatMap stpCells ++ (ss.drop a).flatMap stpCells := by rw [← List.flatMap_append, List.take_append_drop]
  have hl : ((ss.take a).flatMap stpCells).length = a * 3 := by rw [flat_length (n := 3) (fun _ => rfl), List.length_take, Nat.min_eq_left ha]
  have hdl : ((ss.drop a).flatMap stpCells).length = (ss.length - a) * 3 := by rw [flat_length (n := 3) (fun _ => rfl), List.length_drop]
  have hac : ¬ c = a := by intro e2; rw [hdl] at hp; omega
  rw [e] at h
  obtain ⟨b, off, rfl, hb, hc⟩ := h (by rw [List.length_append]; omega)
  have hfa : fromA (some ⟨b, off, none⟩) c a = some ⟨b, off + a * 3, none⟩ := by
    unfold fromA
    rw [if_neg hac]
    cases a with
    | zero => simp [Addr.add]
    | succ a => simp [Addr.add]
  refine ⟨b, off + a * 3, hfa, hb, fun j u hu => ?_⟩
  have := hc (a * 3 + j) u (by rw [List.getElem?_append_right (by omega), hl, Nat.add_sub_cancel_left]; exact hu)
  rwa [← Nat.add_assoc] at this

set_option maxRecDepth 100000 in
set_option maxHeartbeats 8000000 in
theorem beyondGoes_walk (l : Lay) (f1 f2 : Int) (ss : List (Int × Int × Int)) (A : Option Addr) (c : Nat) (at' : Int) (w : World) (hT : Shapes w) (hL : Lies l w) (hA : Row w w.heap.size A (ss.flatMap stpCells)) (hn : (ss.length : Int) ≤ 9223372036854775807) (hcap : ss.length ≤ c) :
    Calls Tryd.prog 4 #[l.val, prtV f1 f2, .slice A ss.length c, .int .i64 at'] w fun e w' => e = .returned (.bool true) ∧ Below w.heap.size w w' := by
  obtain ⟨Q, HQ, HQb, HQl, HQv, HQ0, hq⟩ : ∃ Q : World → Prop, Hid (Closed Q) ∧ Hid (∀ W, Q W → Below w.heap.size w W) ∧ Hid (∀ W, Q W → Whole W w.heap.size 29 l.cells) ∧ Hid (∀ W, Q W → Whole W (w.heap.size + 1) 33 (prtCells (f1, f2))) ∧ Hid (∀ W, (Below w.heap.size w W ∧ Whole W w.heap.size 29 l.cells) ∧ Whole W (w.heap.size + 1) 33 (prtCells (f1, f2)) → Q W) ∧ Q ((w.alloc (.cells l.cells.toArray 29)).alloc (.cells (prtCells (f1, f2)).toArray 33)) :=
    ⟨fun W => (Below w.heap.size w W ∧ Whole W w.heap.size 29 l.cells) ∧ Whole W (w.heap.size + 1) 33 (prtCells (f1, f2)), Lib.hid (((Closed.below w).and (Closed.whole _ _ _)).and (Closed.whole _ _ _)), Lib.hid fun _ h => h.1.1, Lib.hid fun _ h => h.1.2, Lib.hid fun _ h => h.2, Lib.hid fun _ h => h, ⟨below2 w _ _, (Whole.new w _ l.cells).alloc _⟩, Whole.new_at _ _ (prtCells (f1, f2)) _ (by simp)⟩
  have HTW : Hid (∀ W, Q W → Shapes W ∧ Lies l W) := Lib.hid fun W hW => ⟨Shapes.closed _ _ hT (HQb.out W hW), Lies.closed l _ _ hL (HQb.out W hW)⟩
  have HRA : Hid (∀ W, Q W → Row W W.heap.size A (ss.flatMap stpCells)) := Lib.hid fun W hW => hA.on (HQb.out W hW)
  have KW := Lib.hid (fun W hW => wakes10_P (P := Q) (w := W) HQ.out (fun W hW => (HTW.out W hW).1) hW)
  have HCAP := Lib.hid hcap
  have HNN := Lib.hid hn
  have hnE := hL.nE
  have hnS := hL.nS
  obtain ⟨g, hg⟩ : ∃ g, greatV l = g := ⟨_, rfl⟩
  obtain ⟨rt, hrt⟩ : ∃ r, rightT l = r := ⟨_, rfl⟩
  have KG := Lib.hid (fun W hW => great_P (P := Q) (w := W) HQ.out (fun W hW => (HTW.out W hW).2) hg hW)
  have KR := Lib.hid (fun W hW => keepR HQ.out (rightRT_any (w := W) (HTW.out W hW).2 hrt) hW)
  have HRT := Lib.hid hrt
  have HGR := Lib.hid hg
  clear hT hL hg hrt hA hn hcap
  go_enter Tryd.func4, Tryd.ntmps4
  have m0 := HQl.out _ hq
  have x0 := m0.cell_at 0 rfl
  have x1 := m0.cell_at 1 rfl
  have x2 := m0.cell_at 2 rfl
  have x3 := m0.cell_at 3 rfl
  have x4 := m0.cell_at 4 rfl
  have x5 := m0.cell_at 5 rfl
  have x6 := m0.cell_at 6 rfl
  have x7 := m0.cell_at 7 rfl
  have x8 := m0.cell_at 8 rfl
  have x9 := m0.cell_at 9 rfl
  have x10 := m0.cell_at 10 rfl
  clear m0
  go_wp2_with fail
  refine (KG.out _ hq).mono ?_
  clear hq x0 x1 x2 x3 x4 x5 x6 x7 x8 x9 x10
  rintro e w1 ⟨rfl, hq⟩
  cases g
  rotate_left
  · go_wp2_with fail
    refine (KW.out _ hq).mono ?_
    clear hq
    rintro e w9 ⟨rfl, hq⟩
    go_wp2_with fail
    go_ret
    exact ⟨rfl, HQb.out _ hq⟩
  have m0 := HQl.out _ hq
  have x0 := m0.cell_at 0 rfl
  have x1 := m0.cell_at 1 rfl
  have x2 := m0.cell_at 2 rfl
  have x3 := m0.cell_at 3 rfl
  have x4 := m0.cell_at 4 rfl
  have x5 := m0.cell_at 5 rfl
  have x6 := m0.cell_at 6 rfl
  have x7 := m0.cell_at 7 rfl
  have x8 := m0.cell_at 8 rfl
  have x9 := m0.cell_at 9 rfl
  have x10 := m0.cell_at 10 rfl
  clear m0
  go_wp2_with fail
  refine (KR.out _ hq).mono ?_
  clear hq x0 x1 x2 x3 x4 x5 x6 x7 x8 x9 x10
  rintro e w2 ⟨rfl, hq⟩
  cases rt
  · go_wp2_with fail
    refine (KW.out _ hq).mono ?_
    clear hq
    rintro e w9 ⟨rfl, hq⟩
    go_wp2_with fail
    go_ret
    exact ⟨rfl, HQb.out _ hq⟩
  by_cases hl : ss.length ≤ 20
  rotate_left
  · have hl' : ¬ (ss.length : Int) ≤ 20 := by omega
    have hl2 : (20 : Int) < (ss.length : Int) := by omega
    go_wp2_with fail
    refine (KW.out _ hq).mono ?_
    clear hq
    rintro e w9 ⟨rfl, hq⟩
    go_wp2_with fail
    go_ret
    exact ⟨rfl, HQb.out _ hq⟩
  have hl' : (ss.length : Int) ≤ 20 := by omega
  have HG := Lib.hid (hangs_iff.1 HRT.out)
  have HLN := Lib.hid (own_lens HG.out.right)
  have HXO : Hid (∀ y ∈ l.exits, y.over.length ≤ 1000) := Lib.hid (fun y hy => by have := HLN.out.2.2.2.2 y hy; omega)
  go_wp2_with fail
  go_loopw [9] (fun i' wr => ∃ j : Nat, j ≤ l.exits.length ∧ i' = .int .i64 j ∧ Hid (Q wr)) (fun i' _ => l.exits.length - (intOf i').toNat)
  case atStart => exact ⟨0, by omega, rfl, Lib.hid hq⟩
  case round =>
    clear hq
    obtain ⟨j, hj, rfl, HM⟩ := hrel
    obtain ⟨wa, rfl⟩ : ∃ W, W = wr := ⟨wr, rfl⟩
    have hq := HM.out
    clear HM
    by_cases hlt : j < l.exits.length
    · have hlt' : (j : Int) < (l.exits.length : Int) := by omega
      obtain ⟨e, he⟩ : ∃ e, l.exits[j]? = some e := ⟨_, List.getElem?_eq_getElem hlt⟩
      have hMem := List.mem_of_getElem? he
      have HOG := Lib.hid (over_goes HRT.out hMem)
      obtain ⟨os, HOS⟩ : ∃ os, Hid (e.over = os) := ⟨_, Lib.hid rfl⟩
      rw [HOS.out] at HOG
      have HOL : Hid (os.length ≤ 2) := Lib.hid (by rw [← HOS.out]; exact HLN.out.2.2.2.2 e hMem)
      have KO : Hid (∀ W, Q W → Calls Tryd.prog 18 #[l.val, .int .i64 (j : Int)] W fun e' w' => ∃ A1 c1, e' = .returned (.slice A1 os.length c1) ∧ Row w' w'.heap.size A1 (os.flatMap stpCells) ∧ Q w') := Lib.hid fun W hW =>
        (overB10_any (HTW.out W hW).1 (HTW.out W hW).2 HXO.out (j : Int) (ss := os) (by rw [over_at he, HOS.out])).mono fun e' w' ⟨v, hv, hown, hB⟩ => by
          obtain ⟨A1, c1, rfl, hr⟩ := owns_read hown
          exact ⟨A1, c1, hv, hr, HQ.out _ _ hW hB⟩
      have HCC : Hid (∃ b off, l.Ae = some ⟨b, off, none⟩ ∧ ∀ W, Q W → W.cell? ⟨b, off + j * 3, none⟩ = some (.int .i64 e.s) ∧ W.cell? ⟨b, off + j * 3 + 1, none⟩ = some (.int .i64 e.q) ∧ W.cell? ⟨b, off + j * 3 + 2, none⟩ = some (.slice e.A e.over.length e.c)) := Lib.hid (by
        obtain ⟨b, off, hA, _, hc0, hc⟩ := (HTW.out _ hq).2.exits.nth (n := 3) (fun _ => rfl) (by omega) he
        refine ⟨b, off, hA, fun W hW => ?_⟩
        obtain ⟨b', off', hA', _, hc0, hc⟩ := (HTW.out _ hW).2.exits.nth (n := 3) (fun _ => rfl) (by omega) he
        rw [hA] at hA'
        cases hA'
        exact ⟨hc0 j _ _ he rfl, hc j _ 1 _ he rfl, hc j _ 2 _ he rfl⟩)
      obtain ⟨b, off, hA, hC⟩ := HCC.out
      have HA := Lib.hid hA
      have HC := Lib.hid hC
      obtain ⟨⟨b1, b2⟩, hbv⟩ : ∃ q, beyondV l e.s e.q = q := ⟨_, rfl⟩
      rw [hbv] at HOG
      have HBV := Lib.hid hbv
      clear he hMem hA hC HCC hbv
      have m0 := HQl.out _ hq
      have x0 := m0.cell_at 0 rfl
      have x1 := m0.cell_at 1 rfl
      have x2 := m0.cell_at 2 rfl
      have x3 := m0.cell_at 3 rfl
      have x4 := m0.cell_at 4 rfl
      have x5 := m0.cell_at 5 rfl
      have x6 := m0.cell_at 6 rfl
      have x7 := m0.cell_at 7 rfl
      have x8 := m0.cell_at 8 rfl
      have x9 := m0.cell_at 9 rfl
      have x10 := m0.cell_at 10 rfl
      clear m0
      go_wp2_with fail
      refine (KO.out _ hq).mono ?_
      clear hq KO x0 x1 x2 x3 x4 x5 x6 x7 x8 x9 x10
      rintro e' w5 ⟨A1, c1, rfl, hrow, hq⟩
      obtain ⟨R, HRc, HRq, HRr, hr⟩ : ∃ R : World → Prop, Hid (Closed R) ∧ Hid (∀ W, R W → Q W) ∧ Hid (∀ W, R W → Row W W.heap.size A1 (os.flatMap stpCells)) ∧ R w5 :=
        ⟨fun W => Q W ∧ Row W W.heap.size A1 (os.flatMap stpCells), Lib.hid (HQ.out.and (fun _ _ h hB => h.on hB)), Lib.hid fun _ h => h.1, Lib.hid fun _ h => h.2, hq, hrow⟩
      obtain ⟨m, HM⟩ : ∃ m, Hid (maskN os = m) := ⟨_, Lib.hid rfl⟩
      rw [HM.out] at HOG
      have HML : Hid (m < 2 ^ 24) := Lib.hid (by rw [← HM.out]; exact maskN_lt os)
      have KM : Hid (∀ W, R W → Calls Tryd.prog 24 #[.slice A1 os.length c1] W fun e w' => e = .returned (.int .u32 (m : Nat)) ∧ R w') := Lib.hid fun W hW => keepR HRc.out (maskB_any c1 (HRr.out W hW) (by have := HOL.out; omega) HM.out) hW
      clear hrow hq
      go_wp2_with fail
      go_loopw [11, 12] (fun v s' wr => ∃ t : Nat, t ≤ l.secs.length ∧ s' = .int .i64 t ∧ v = .int .i64 (cntP (fun j => m.testBit j) t : Nat) ∧ Hid (R wr)) (fun _ s' _ => l.secs.length - (intOf s').toNat)
      case atStart => exact ⟨0, by omega, rfl, rfl, Lib.hid hr⟩
      case round =>
        clear hr
        obtain ⟨t, ht, rfl, rfl, HRW⟩ := hrel
        have hr := HRW.out
        clear HRW
        have x0 := (HQl.out _ (HRq.out _ hr)).cell_at 0 rfl
        by_cases htl : t < l.secs.length
        · have htl' : (t : Int) < (l.secs.length : Int) := by omega
          have ht24 : t < 24 := by have := HLN.out.1; omega
          have ht24' : (t : Int) < 24 := by omega
          have HCT : Hid (cntP (fun j => m.testBit j) (t + 1) = cntP (fun j => m.testBit j) t + (if m.testBit t = true then 1 else 0)) := Lib.hid rfl
          have HCL := Lib.hid (cnt_le (fun j => m.testBit j) t)
          obtain ⟨q, HQQ⟩ : ∃ q, Hid (cntP (fun j => m.testBit j) t = q) := ⟨_, Lib.hid rfl⟩
          rw [HQQ.out] at HCT HCL ⊢
          obtain ⟨bb, HBB⟩ : ∃ bb, Hid (m.testBit t = bb) := ⟨_, Lib.hid rfl⟩
          rw [HBB.out] at HCT
          have hwi : IntKind.i64.wrap ((t : Int) + 1) = (t : Int) + 1 := IntWalk.i64_in _ (by omega)
          have hwq : IntKind.i64.wrap ((q : Int) + 1) = (q : Int) + 1 := IntWalk.i64_in _ (by have := HCL.out; omega)
          have hbit : (bits BinOp.and IntKind.u32 ((m : Int) / 2 ^ t) 1 == 1) = bb := by
            have h := and_one (m := m) (k := t) HML.out
            rw [show ((m / 2 ^ t : Nat) : Int) = (m : Int) / 2 ^ t by rw [Int.natCast_ediv, Int.natCast_pow]; rfl] at h
            rw [h, HBB.out]
            cases bb <;> rfl
          go_wp2_with fail
          refine (KM.out _ hr).mono ?_
          clear hr x0
          rintro e' w6 ⟨rfl, hr⟩
          have HR6 := Lib.hid hr
          clear hr
          cases bb
          · go_wp2_with fail
            go_roundw
            case rel => exact ⟨t + 1, htl, by go_num, by rw [HCT.out]; rfl, HR6⟩
            case measure => simp [intOf]; omega
          · go_wp2_with fail
            go_roundw
            case rel => exact ⟨t + 1, htl, by go_num, by rw [HCT.out]; go_num, HR6⟩
            case measure => simp [intOf]; omega
        · obtain rfl : t = l.secs.length := by omega
          rw [HOG.out.2]
          have KB : Hid (∀ W, R W → Calls Tryd.prog 29 #[l.val, prtV e.s e.q] W fun e' w' => e' = .returned (prtV b1 b2) ∧ Below W.heap.size W w') := Lib.hid fun W hW => beyondJ_B (w := W) (HTW.out W (HRq.out W hW)).2 e.s e.q HBV.out
          have KGo : Hid (∀ W, R W → Calls Tryd.prog 26 #[l.val, prtV b1 b2, .slice A1 os.length c1] W fun e' w' => e' = .returned (.bool true) ∧ Below W.heap.size W w') := Lib.hid fun W hW => goesB_any (HTW.out W (HRq.out W hW)).1 (HTW.out W (HRq.out W hW)).2 b1 b2 c1 (HRr.out W hW) (by have := HOL.out; omega) HOG.out.1
          have hwj : IntKind.i64.wrap ((j : Int) + 1) = (j : Int) + 1 := IntWalk.i64_in _ (by omega)
          go_upto_region 13 with (fail)
          clear x0
          have HBS : Hid (∀ W, Below wr.heap.size wr W → R W) := Lib.hid (fun W hB => HRc.out _ _ hr hB)
          clear hr
          refine region_mix (Below wr.heap.size wr) [(0, false), (1, false), (2, false), (3, false), (4, false), (5, false), (6, false), (7, false), (8, false), (9, false), (10, false), (11, false), (12, false), (13, false), (14, false), (15, false), (16, false), (17, false)] (by kernel_rfl) (by kernel_rfl) (Below wr.heap.size wr) ⟨Closed.below wr, fun _ h => h⟩ (Below.refl _ _).drew ?_
          simp only [pickOps, List.getElem?_cons_zero, List.getElem?_cons_succ]
          repeat (first | (refine mix_skip (by rfl) ?_; simp only [Act.put, List.setIfInBounds_toArray, List.set_cons_zero, List.set_cons_succ]) | (refine mix_read _ (by rfl) (fun W hW => by (have hW := HBS.out W hW; have hQ5 := HRq.out W hW; have m0 := HQl.out W hQ5; have x0 := m0.cell_at 0 rfl; have x1 := m0.cell_at 1 rfl; have x2 := m0.cell_at 2 rfl; have x3 := m0.cell_at 3 rfl; have x4 := m0.cell_at 4 rfl; have x5 := m0.cell_at 5 rfl; have x6 := m0.cell_at 6 rfl; have x7 := m0.cell_at 7 rfl; have x8 := m0.cell_at 8 rfl; have x9 := m0.cell_at 9 rfl; have x10 := m0.cell_at 10 rfl; clear m0; obtain ⟨c0, c1, c2⟩ := HC.out W hQ5; clear hQ5; go_simp; first | done | with_reducible rfl)) ?_; simp only [Act.put, List.setIfInBounds_toArray, List.set_cons_zero, List.set_cons_succ]) | (refine mix_read _ (by rfl) (fun W hW => by (have hW := HBS.out W hW; have hQ5 := HRq.out W hW; have m0 := HQl.out W hQ5; have x0 := m0.cell_at 0 rfl; have x1 := m0.cell_at 1 rfl; have x2 := m0.cell_at 2 rfl; have x3 := m0.cell_at 3 rfl; have x4 := m0.cell_at 4 rfl; have x5 := m0.cell_at 5 rfl; have x6 := m0.cell_at 6 rfl; have x7 := m0.cell_at 7 rfl; have x8 := m0.cell_at 8 rfl; have x9 := m0.cell_at 9 rfl; have x10 := m0.cell_at 10 rfl; clear m0; obtain ⟨c0, c1, c2⟩ := HC.out W hQ5; clear hQ5; rw [HA.out]; go_simp; first | done | with_reducible rfl)) ?_; simp only [Act.put, List.setIfInBounds_toArray, List.set_cons_zero, List.set_cons_succ]) | (refine mix_call _ _ _ (by rfl) (fun W hW => by (have hW := HBS.out W hW; have hQ5 := HRq.out W hW; have m0 := HQl.out W hQ5; have x0 := m0.cell_at 0 rfl; have x1 := m0.cell_at 1 rfl; have x2 := m0.cell_at 2 rfl; have x3 := m0.cell_at 3 rfl; have x4 := m0.cell_at 4 rfl; have x5 := m0.cell_at 5 rfl; have x6 := m0.cell_at 6 rfl; have x7 := m0.cell_at 7 rfl; have x8 := m0.cell_at 8 rfl; have x9 := m0.cell_at 9 rfl; have x10 := m0.cell_at 10 rfl; clear m0; obtain ⟨c0, c1, c2⟩ := HC.out W hQ5; clear hQ5; go_simp; first | done | rfl)) (fun W hW => KB.out W (HBS.out W hW)) ?_; simp only [Act.put, List.setIfInBounds_toArray, List.set_cons_zero, List.set_cons_succ]) | (refine mix_call _ _ _ (by rfl) (fun W hW => by (have hW := HBS.out W hW; have hQ5 := HRq.out W hW; have m0 := HQl.out W hQ5; have x0 := m0.cell_at 0 rfl; have x1 := m0.cell_at 1 rfl; have x2 := m0.cell_at 2 rfl; have x3 := m0.cell_at 3 rfl; have x4 := m0.cell_at 4 rfl; have x5 := m0.cell_at 5 rfl; have x6 := m0.cell_at 6 rfl; have x7 := m0.cell_at 7 rfl; have x8 := m0.cell_at 8 rfl; have x9 := m0.cell_at 9 rfl; have x10 := m0.cell_at 10 rfl; clear m0; obtain ⟨c0, c1, c2⟩ := HC.out W hQ5; clear hQ5; go_simp; first | done | rfl)) (fun W hW => KGo.out W (HBS.out W hW)) ?_; simp only [Act.put, List.setIfInBounds_toArray, List.set_cons_zero, List.set_cons_succ]))
          refine mix_nil (fun W hW => ?_)
          have HQ7 := Lib.hid (HRq.out _ (HBS.out W hW))
          clear hW HBS
          go_wp2_with fail
          go_roundw
          case rel => exact ⟨j + 1, hlt, by go_num, HQ7⟩
          case measure => simp [intOf]; omega
    · obtain rfl : j = l.exits.length := by omega
      obtain ⟨gr, hgr⟩ : ∃ gr, goesL l (f1, f2) ss = gr := ⟨_, rfl⟩
      have KGA : Hid (∀ W, Q W → Calls Tryd.prog 26 #[l.val, prtV f1 f2, .slice A ss.length c] W fun e' w' => e' = .returned (.bool gr) ∧ Q w') := Lib.hid fun W hW => keepR HQ.out (goesB_any (HTW.out W hW).1 (HTW.out W hW).2 f1 f2 c (HRA.out W hW) HNN.out hgr) hW
      have HGO := Lib.hid hgr
      clear hgr
      have m0 := HQl.out _ hq
      have x0 := m0.cell_at 0 rfl
      have x1 := m0.cell_at 1 rfl
      have x2 := m0.cell_at 2 rfl
      have x3 := m0.cell_at 3 rfl
      have x4 := m0.cell_at 4 rfl
      have x5 := m0.cell_at 5 rfl
      have x6 := m0.cell_at 6 rfl
      have x7 := m0.cell_at 7 rfl
      have x8 := m0.cell_at 8 rfl
      have x9 := m0.cell_at 9 rfl
      have x10 := m0.cell_at 10 rfl
      clear m0
      have m0 := HQv.out _ hq
      have v0 := m0.cell_at 0 rfl
      have v1 := m0.cell_at 1 rfl
      clear m0
      go_wp2_with fail
      refine (KGA.out _ hq).mono ?_
      clear hq KGA x0 x1 x2 x3 x4 x5 x6 x7 x8 x9 x10 v0 v1
      rintro e' w8 ⟨rfl, hq⟩
      cases gr
      · go_wp2_with fail
        refine (KW.out _ hq).mono ?_
        clear hq
        rintro e w9 ⟨rfl, hq⟩
        go_wp2_with fail
        go_ret
        exact ⟨rfl, HQb.out _ hq⟩
      obtain ⟨a, hal, hav⟩ := at_value at' hl
      have HAL := Lib.hid hal
      have HAC : Hid (a ≤ c) := Lib.hid (by have := HCAP.out; omega)
      have HGP := Lib.hid (goes_parts hal HGO.out)
      obtain ⟨⟨m1, m2⟩, hmv⟩ : ∃ q, midV l (f1, f2) ss a = q := ⟨_, rfl⟩
      rw [hmv] at HGP
      have v0 := (HQv.out _ hq).cell_at 0 rfl
      have v1 := (HQv.out _ hq).cell_at 1 rfl
      go_upto_region 18 with (fail)
      try rw [hav]
      obtain ⟨gm, hgm⟩ : ∃ gm, w8.heap.size = gm := ⟨_, rfl⟩
      obtain ⟨W9, hW9⟩ : ∃ W9, w8.alloc (.cells #[.int .i64 f1, .int .i64 f2] 33) = W9 := ⟨_, rfl⟩
      have hgl : w.heap.size + 2 ≤ gm := by have := (HQv.out _ hq).lt; omega
      have HGL := Lib.hid hgl
      have HQS : Hid (∀ (W : World) (a b : Value), Q W → Q ((W.setCell ⟨gm, 0, none⟩ a).setCell ⟨gm, 1, none⟩ b)) := Lib.hid fun W a b hW => HQ0.out _ ⟨⟨((HQb.out _ hW).setCell (p := ⟨gm, 0, none⟩) (by show w.heap.size ≤ gm; omega) a).setCell (p := ⟨gm, 1, none⟩) (by show w.heap.size ≤ gm; omega) b, ((HQl.out _ hW).far (p := ⟨gm, 0, none⟩) (by show w.heap.size ≠ gm; omega) a).far (p := ⟨gm, 1, none⟩) (by show w.heap.size ≠ gm; omega) b⟩, ((HQv.out _ hW).far (p := ⟨gm, 0, none⟩) (by show w.heap.size + 1 ≠ gm; omega) a).far (p := ⟨gm, 1, none⟩) (by show w.heap.size + 1 ≠ gm; omega) b⟩
      have HH := Lib.hid (And.intro hgm hW9)
      have HBX : Hid (Whole W9 gm 33 (prtCells (f1, f2))) := Lib.hid (by rw [← hW9]; exact Whole.new_at _ _ (prtCells (f1, f2)) _ hgm.symm)
      have hq := HQ.out _ _ hq (below1 w8 (.cells #[.int .i64 f1, .int .i64 f2] 33))
      rw [hW9] at hq
      have HQ9 := Lib.hid hq
      have HMV := Lib.hid hmv
      clear hgm hW9 hgl hav hmv
      go_upto_region 19 with (fail)
      try rw [HH.out.2]
      try rw [HH.out.1]
      clear v0 v1 HH
      go_cut [94] from 93 to 94 (fun v wx => ∃ nb : Bool, v = .bool nb ∧ (wx = W9 ∧ Hid (nb = decide (0 < a))))
      case first =>
        go_wp2_with fail
        go_meet
        exact ⟨_, rfl, rfl, Lib.hid (by first | rfl | (rw [Bool.eq_iff_iff]; simp))⟩
      case rest =>
      obtain ⟨nb, rfl, hwc, HNB⟩ := hcut
      rw [hwc]
      clear hwc
      go_upto_if 94 with (fail)
      go_cut [] from 95 to 101 (fun wx => Hid (Q wx ∧ Whole wx gm 33 (prtCells (m1, m2))))
      case first =>
        cases nb
        · have ha0 : a = 0 := by have := of_decide_eq_false HNB.out.symm; omega
          have he : (m1, m2) = (f1, f2) := by rw [← HMV.out, ha0]; rfl
          obtain ⟨rfl, rfl⟩ : m1 = f1 ∧ m2 = f2 := by simpa using he
          have HF : Hid (Q W9 ∧ Whole W9 gm 33 (prtCells (m1, m2))) := Lib.hid ⟨HQ9.out, HBX.out⟩
          clear hq ha0
          go_wp2_with fail
          go_meet
          exact HF
        · have hap : 0 < a := of_decide_eq_true HNB.out.symm
          obtain ⟨b0, hb0⟩ : ∃ b, a = b + 1 := ⟨a - 1, by omega⟩
          have hal : b0 + 1 ≤ ss.length := by rw [← hb0]; exact HAL.out
          obtain ⟨⟨x1, x2, x3⟩, hx⟩ : ∃ x, ss[b0]? = some x := ⟨_, List.getElem?_eq_getElem (by omega)⟩
          have HNX : Hid (nextV l x1 x2 x3 = (m1, m2)) := Lib.hid (by rw [← HMV.out, hb0]; show _ = ((ss[b0]?).map (fun x => nextV l x.1 x.2.1 x.2.2)).getD (f1, f2); rw [hx]; rfl)
          obtain ⟨b, off, HAA, HC0, HC⟩ := row_at (n := 3) (fun _ => rfl) (by omega) HRA.out hq hx
          have HX := Lib.hid hx
          have HCX : Hid (∀ W, Q W → W.cell? ⟨b, off + b0 * 3, none⟩ = some (.int .i64 x1) ∧ W.cell? ⟨b, off + b0 * 3 + 1, none⟩ = some (.int .i64 x2) ∧ W.cell? ⟨b, off + b0 * 3 + 2, none⟩ = some (.int .i64 x3)) := Lib.hid fun W hW =>
            ⟨HC0.out W hW b0 _ _ HX.out rfl, HC.out W hW b0 _ 1 _ HX.out rfl, HC.out W hW b0 _ 2 _ HX.out rfl⟩
          have KNX : Hid (∀ W, Q W → Calls Tryd.prog 20 #[l.val, stpV x1 x2 x3] W fun e' w' => e' = .returned (prtV m1 m2) ∧ Below W.heap.size W w') := Lib.hid fun W hW => nextB_any (HTW.out W hW).1 (HTW.out W hW).2 x1 x2 x3 HNX.out
          have ha1 : wrap64 ((a : Int) - 1) = (b0 : Int) := by unfold wrap64; omega
          have ha3 : IntKind.i64.wrap ((a : Int) - 1) = (b0 : Int) := by rw [IntKind.wrap_i64]; omega
          have hltn : b0 < ss.length := by omega
          have hlti : (b0 : Int) < (ss.length : Int) := by omega
          have HB0 := Lib.hid hb0
          clear hb0 hap
          clear hx
          go_wp2_with fail
          have HBS : Hid (∀ W, Below W9.heap.size W9 W → Q W) := Lib.hid (fun W hB => HQ.out _ _ hq hB)
          clear hq
          refine region_mixt (Below W9.heap.size W9) [(0, false), (1, false), (2, false), (3, false), (4, false), (5, false), (6, false)] 1 7 (by kernel_rfl) (by kernel_rfl) (by kernel_rfl) (Below W9.heap.size W9) ⟨Closed.below W9, fun _ h => h⟩ (Below.refl _ _).drew ?_
          simp only [pickOps, List.getElem?_cons_zero, List.getElem?_cons_succ]
          repeat (first | (refine mix_skip (by rfl) ?_; simp only [Act.put, List.setIfInBounds_toArray, List.set_cons_zero, List.set_cons_succ]) | (refine mix_read _ (by rfl) (fun W hW => by (have hW := HBS.out W hW; have m0 := HQl.out W hW; have x0 := m0.cell_at 0 rfl; have x1 := m0.cell_at 1 rfl; have x2 := m0.cell_at 2 rfl; have x3 := m0.cell_at 3 rfl; have x4 := m0.cell_at 4 rfl; have x5 := m0.cell_at 5 rfl; have x6 := m0.cell_at 6 rfl; have x7 := m0.cell_at 7 rfl; have x8 := m0.cell_at 8 rfl; have x9 := m0.cell_at 9 rfl; have x10 := m0.cell_at 10 rfl; clear m0; obtain ⟨c0, c1, c2⟩ := HCX.out W hW; go_simp; first | done | with_reducible rfl)) ?_; simp only [Act.put, List.setIfInBounds_toArray, List.set_cons_zero, List.set_cons_succ]) | (refine mix_read _ (by rfl) (fun W hW => by (have hW := HBS.out W hW; have m0 := HQl.out W hW; have x0 := m0.cell_at 0 rfl; have x1 := m0.cell_at 1 rfl; have x2 := m0.cell_at 2 rfl; have x3 := m0.cell_at 3 rfl; have x4 := m0.cell_at 4 rfl; have x5 := m0.cell_at 5 rfl; have x6 := m0.cell_at 6 rfl; have x7 := m0.cell_at 7 rfl; have x8 := m0.cell_at 8 rfl; have x9 := m0.cell_at 9 rfl; have x10 := m0.cell_at 10 rfl; clear m0; obtain ⟨c0, c1, c2⟩ := HCX.out W hW; rw [HAA.out]; go_simp; first | done | with_reducible rfl)) ?_; simp only [Act.put, List.setIfInBounds_toArray, List.set_cons_zero, List.set_cons_succ]) | (refine mix_call _ _ _ (by rfl) (fun W hW => by (have hW := HBS.out W hW; have m0 := HQl.out W hW; have x0 := m0.cell_at 0 rfl; have x1 := m0.cell_at 1 rfl; have x2 := m0.cell_at 2 rfl; have x3 := m0.cell_at 3 rfl; have x4 := m0.cell_at 4 rfl; have x5 := m0.cell_at 5 rfl; have x6 := m0.cell_at 6 rfl; have x7 := m0.cell_at 7 rfl; have x8 := m0.cell_at 8 rfl; have x9 := m0.cell_at 9 rfl; have x10 := m0.cell_at 10 rfl; clear m0; obtain ⟨c0, c1, c2⟩ := HCX.out W hW; go_simp; first | done | rfl)) (fun W hW => KNX.out W (HBS.out W hW)) ?_; simp only [Act.put, List.setIfInBounds_toArray, List.set_cons_zero, List.set_cons_succ]))
          refine mix_nil (fun W hW => ?_)
          have hqW := HBS.out W hW
          have hbm := HBX.out.below hW HBX.out.lt
          have f0 := hbm.frozen 0
          have f1' := hbm.frozen 1
          have z0 := hbm.cell_at 0 rfl
          have z1 := hbm.cell_at 1 rfl
          have HF : Hid (Q ((W.setCell ⟨gm, 0, none⟩ (.int .i64 m1)).setCell ⟨gm, 1, none⟩ (.int .i64 m2)) ∧ Whole ((W.setCell ⟨gm, 0, none⟩ (.int .i64 m1)).setCell ⟨gm, 1, none⟩ (.int .i64 m2)) gm 33 (prtCells (m1, m2))) := Lib.hid ⟨HQS.out _ _ _ hqW, (hbm.set 0 _).set 1 _⟩
          clear hW HBS hqW hbm ha1 ha3
          go_wp2_with fail
          go_meet
          exact HF
      case rest =>
      obtain ⟨w9, rfl⟩ : ∃ W, W = wc := ⟨wc, rfl⟩
      obtain ⟨R, HRc, HRq, HRm, hr⟩ : ∃ R : World → Prop, Hid (Closed R) ∧ Hid (∀ W, R W → Q W) ∧ Hid (∀ W, R W → Whole W gm 33 (prtCells (m1, m2))) ∧ R w9 :=
        ⟨fun W => Q W ∧ Whole W gm 33 (prtCells (m1, m2)), Lib.hid (HQ.out.and (Closed.whole _ _ _)), Lib.hid fun _ h => h.1, Lib.hid fun _ h => h.2, hcut.out⟩
      have HTL : Hid ((ss.take a).length = a ∧ (ss.drop a).length = ss.length - a) := Lib.hid ⟨by rw [List.length_take, Nat.min_eq_left HAL.out], List.length_drop⟩
      have KG1 : Hid (∀ W, R W → Calls Tryd.prog 26 #[l.val, prtV f1 f2, .slice A a c] W fun e' w' => e' = .returned (.bool true) ∧ Below W.heap.size W w') := Lib.hid fun W hW => by
        have h := goesB_any (HTW.out W (HRq.out W hW)).1 (HTW.out W (HRq.out W hW)).2 f1 f2 (ss := ss.take a) c (row_to (HRA.out W (HRq.out W hW)) a) (by rw [HTL.out.1]; have := HAL.out; omega) HGP.out.1
        rw [HTL.out.1] at h
        exact h
      have KG2 : Hid (∀ W, R W → Calls Tryd.prog 26 #[l.val, prtV m1 m2, .slice (fromA A c a) (ss.length - a) (c - a)] W fun e' w' => e' = .returned (.bool true) ∧ Below W.heap.size W w') := Lib.hid fun W hW => by
        have h := goesB_any (HTW.out W (HRq.out W hW)).1 (HTW.out W (HRq.out W hW)).2 m1 m2 (ss := ss.drop a) (c - a) (row_from (HRA.out W (HRq.out W hW)) HAL.out HCAP.out) (by rw [HTL.out.2]; omega) HGP.out.2
        rw [HTL.out.2] at h
        exact h
      clear hcut hq
      obtain ⟨en, hen⟩ : ∃ en, decide (ss.length = 0) = en := ⟨_, rfl⟩
      have hez : ((ss.length : Int) == 0) = en := by rw [← hen, Bool.eq_iff_iff]; simp
      have hez2 : decide (ss = []) = en := by rw [← hen, Bool.eq_iff_iff]; simp [List.length_eq_zero_iff]
      have HEN := Lib.hid hen
      clear hen
      cases en
      rotate_left
      · have HNIL : Hid (ss = []) := Lib.hid (List.eq_nil_of_length_eq_zero (of_decide_eq_true HEN.out))
        clear hez hez2
        go_upto_region 21 with (fail)
        have HBS : Hid (∀ W, Below w9.heap.size w9 W → R W) := Lib.hid (fun W hB => HRc.out _ _ hr hB)
        clear hr
        refine region_mix (Below w9.heap.size w9) [(0, false), (1, false), (2, false), (3, false), (4, false), (5, false), (6, false), (7, false), (8, false), (9, false), (10, false), (11, false), (12, false), (13, false), (14, false), (15, false), (16, false), (17, false), (18, false), (19, false), (20, false)] (by kernel_rfl) (by kernel_rfl) (Below w9.heap.size w9) ⟨Closed.below w9, fun _ h => h⟩ (Below.refl _ _).drew ?_
        simp only [pickOps, List.getElem?_cons_zero, List.getElem?_cons_succ]
        iterate 4 (first | (refine mix_skip (by rfl) ?_; simp only [Act.put, List.setIfInBounds_toArray, List.set_cons_zero, List.set_cons_succ]) | (refine mix_read _ (by rfl) (fun W hW => by (have hW := HBS.out W hW; have hQ5 := HRq.out W hW; have m0 := HQl.out W hQ5; have x0 := m0.cell_at 0 rfl; have x1 := m0.cell_at 1 rfl; have x2 := m0.cell_at 2 rfl; have x3 := m0.cell_at 3 rfl; have x4 := m0.cell_at 4 rfl; have x5 := m0.cell_at 5 rfl; have x6 := m0.cell_at 6 rfl; have x7 := m0.cell_at 7 rfl; have x8 := m0.cell_at 8 rfl; have x9 := m0.cell_at 9 rfl; have x10 := m0.cell_at 10 rfl; clear m0; have m1 := HQv.out W hQ5; have v0 := m1.cell_at 0 rfl; have v1 := m1.cell_at 1 rfl; clear m1; have m2 := HRm.out W hW; have y0 := m2.cell_at 0 rfl; have y1 := m2.cell_at 1 rfl; clear m2 hQ5; go_simp; first | done | with_reducible rfl)) ?_; simp only [Act.put, List.setIfInBounds_toArray, List.set_cons_zero, List.set_cons_succ]) | (refine mix_call _ _ _ (by rfl) (fun W hW => by (have hW := HBS.out W hW; have hQ5 := HRq.out W hW; have m0 := HQl.out W hQ5; have x0 := m0.cell_at 0 rfl; have x1 := m0.cell_at 1 rfl; have x2 := m0.cell_at 2 rfl; have x3 := m0.cell_at 3 rfl; have x4 := m0.cell_at 4 rfl; have x5 := m0.cell_at 5 rfl; have x6 := m0.cell_at 6 rfl; have x7 := m0.cell_at 7 rfl; have x8 := m0.cell_at 8 rfl; have x9 := m0.cell_at 9 rfl; have x10 := m0.cell_at 10 rfl; clear m0; have m1 := HQv.out W hQ5; have v0 := m1.cell_at 0 rfl; have v1 := m1.cell_at 1 rfl; clear m1; have m2 := HRm.out W hW; have y0 := m2.cell_at 0 rfl; have y1 := m2.cell_at 1 rfl; clear m2 hQ5; go_simp; first | done | rfl)) (fun W hW => KG1.out W (HBS.out W hW)) ?_; simp only [Act.put, List.setIfInBounds_toArray, List.set_cons_zero, List.set_cons_succ]) | (refine mix_call _ _ _ (by rfl) (fun W hW => by (have hW := HBS.out W hW; have hQ5 := HRq.out W hW; have m0 := HQl.out W hQ5; have x0 := m0.cell_at 0 rfl; have x1 := m0.cell_at 1 rfl; have x2 := m0.cell_at 2 rfl; have x3 := m0.cell_at 3 rfl; have x4 := m0.cell_at 4 rfl; have x5 := m0.cell_at 5 rfl; have x6 := m0.cell_at 6 rfl; have x7 := m0.cell_at 7 rfl; have x8 := m0.cell_at 8 rfl; have x9 := m0.cell_at 9 rfl; have x10 := m0.cell_at 10 rfl; clear m0; have m1 := HQv.out W hQ5; have v0 := m1.cell_at 0 rfl; have v1 := m1.cell_at 1 rfl; clear m1; have m2 := HRm.out W hW; have y0 := m2.cell_at 0 rfl; have y1 := m2.cell_at 1 rfl; clear m2 hQ5; go_simp; first | done | rfl)) (fun W hW => KG2.out W (HBS.out W hW)) ?_; simp only [Act.put, List.setIfInBounds_toArray, List.set_cons_zero, List.set_cons_succ]))
        refine mix_read (.slice A a c) (by rfl) (fun W hW => exec_slice 34 (.tmp 104) none (some (.tmp 105)) none rfl (slice_to A ss.length c a HAC.out W)) ?_
        simp only [Act.put, List.setIfInBounds_toArray, List.set_cons_zero, List.set_cons_succ]
        iterate 7 (first | (refine mix_skip (by rfl) ?_; simp only [Act.put, List.setIfInBounds_toArray, List.set_cons_zero, List.set_cons_succ]) | (refine mix_read _ (by rfl) (fun W hW => by (have hW := HBS.out W hW; have hQ5 := HRq.out W hW; have m0 := HQl.out W hQ5; have x0 := m0.cell_at 0 rfl; have x1 := m0.cell_at 1 rfl; have x2 := m0.cell_at 2 rfl; have x3 := m0.cell_at 3 rfl; have x4 := m0.cell_at 4 rfl; have x5 := m0.cell_at 5 rfl; have x6 := m0.cell_at 6 rfl; have x7 := m0.cell_at 7 rfl; have x8 := m0.cell_at 8 rfl; have x9 := m0.cell_at 9 rfl; have x10 := m0.cell_at 10 rfl; clear m0; have m1 := HQv.out W hQ5; have v0 := m1.cell_at 0 rfl; have v1 := m1.cell_at 1 rfl; clear m1; have m2 := HRm.out W hW; have y0 := m2.cell_at 0 rfl; have y1 := m2.cell_at 1 rfl; clear m2 hQ5; go_simp; first | done | with_reducible rfl)) ?_; simp only [Act.put, List.setIfInBounds_toArray, List.set_cons_zero, List.set_cons_succ]) | (refine mix_call _ _ _ (by rfl) (fun W hW => by (have hW := HBS.out W hW; have hQ5 := HRq.out W hW; have m0 := HQl.out W hQ5; have x0 := m0.cell_at 0 rfl; have x1 := m0.cell_at 1 rfl; have x2 := m0.cell_at 2 rfl; have x3 := m0.cell_at 3 rfl; have x4 := m0.cell_at 4 rfl; have x5 := m0.cell_at 5 rfl; have x6 := m0.cell_at 6 rfl; have x7 := m0.cell_at 7 rfl; have x8 := m0.cell_at 8 rfl; have x9 := m0.cell_at 9 rfl; have x10 := m0.cell_at 10 rfl; clear m0; have m1 := HQv.out W hQ5; have v0 := m1.cell_at 0 rfl; have v1 := m1.cell_at 1 rfl; clear m1; have m2 := HRm.out W hW; have y0 := m2.cell_at 0 rfl; have y1 := m2.cell_at 1 rfl; clear m2 hQ5; go_simp; first | done | rfl)) (fun W hW => KG1.out W (HBS.out W hW)) ?_; simp only [Act.put, List.setIfInBounds_toArray, List.set_cons_zero, List.set_cons_succ]) | (refine mix_call _ _ _ (by rfl) (fun W hW => by (have hW := HBS.out W hW; have hQ5 := HRq.out W hW; have m0 := HQl.out W hQ5; have x0 := m0.cell_at 0 rfl; have x1 := m0.cell_at 1 rfl; have x2 := m0.cell_at 2 rfl; have x3 := m0.cell_at 3 rfl; have x4 := m0.cell_at 4 rfl; have x5 := m0.cell_at 5 rfl; have x6 := m0.cell_at 6 rfl; have x7 := m0.cell_at 7 rfl; have x8 := m0.cell_at 8 rfl; have x9 := m0.cell_at 9 rfl; have x10 := m0.cell_at 10 rfl; clear m0; have m1 := HQv.out W hQ5; have v0 := m1.cell_at 0 rfl; have v1 := m1.cell_at 1 rfl; clear m1; have m2 := HRm.out W hW; have y0 := m2.cell_at 0 rfl; have y1 := m2.cell_at 1 rfl; clear m2 hQ5; go_simp; first | done | rfl)) (fun W hW => KG2.out W (HBS.out W hW)) ?_; simp only [Act.put, List.setIfInBounds_toArray, List.set_cons_zero, List.set_cons_succ]))
        refine mix_read (.slice (fromA A c a) (ss.length - a) (c - a)) (by rfl) (fun W hW => exec_slice 34 (.tmp 112) (some (.tmp 113)) none none rfl (slice_from A ss.length c a HAL.out W)) ?_
        simp only [Act.put, List.setIfInBounds_toArray, List.set_cons_zero, List.set_cons_succ]
        iterate 6 (first | (refine mix_skip (by rfl) ?_; simp only [Act.put, List.setIfInBounds_toArray, List.set_cons_zero, List.set_cons_succ]) | (refine mix_read _ (by rfl) (fun W hW => by (have hW := HBS.out W hW; have hQ5 := HRq.out W hW; have m0 := HQl.out W hQ5; have x0 := m0.cell_at 0 rfl; have x1 := m0.cell_at 1 rfl; have x2 := m0.cell_at 2 rfl; have x3 := m0.cell_at 3 rfl; have x4 := m0.cell_at 4 rfl; have x5 := m0.cell_at 5 rfl; have x6 := m0.cell_at 6 rfl; have x7 := m0.cell_at 7 rfl; have x8 := m0.cell_at 8 rfl; have x9 := m0.cell_at 9 rfl; have x10 := m0.cell_at 10 rfl; clear m0; have m1 := HQv.out W hQ5; have v0 := m1.cell_at 0 rfl; have v1 := m1.cell_at 1 rfl; clear m1; have m2 := HRm.out W hW; have y0 := m2.cell_at 0 rfl; have y1 := m2.cell_at 1 rfl; clear m2 hQ5; go_simp; first | done | with_reducible rfl)) ?_; simp only [Act.put, List.setIfInBounds_toArray, List.set_cons_zero, List.set_cons_succ]) | (refine mix_call _ _ _ (by rfl) (fun W hW => by (have hW := HBS.out W hW; have hQ5 := HRq.out W hW; have m0 := HQl.out W hQ5; have x0 := m0.cell_at 0 rfl; have x1 := m0.cell_at 1 rfl; have x2 := m0.cell_at 2 rfl; have x3 := m0.cell_at 3 rfl; have x4 := m0.cell_at 4 rfl; have x5 := m0.cell_at 5 rfl; have x6 := m0.cell_at 6 rfl; have x7 := m0.cell_at 7 rfl; have x8 := m0.cell_at 8 rfl; have x9 := m0.cell_at 9 rfl; have x10 := m0.cell_at 10 rfl; clear m0; have m1 := HQv.out W hQ5; have v0 := m1.cell_at 0 rfl; have v1 := m1.cell_at 1 rfl; clear m1; have m2 := HRm.out W hW; have y0 := m2.cell_at 0 rfl; have y1 := m2.cell_at 1 rfl; clear m2 hQ5; go_simp; first | done | rfl)) (fun W hW => KG1.out W (HBS.out W hW)) ?_; simp only [Act.put, List.setIfInBounds_toArray, List.set_cons_zero, List.set_cons_succ]) | (refine mix_call _ _ _ (by rfl) (fun W hW => by (have hW := HBS.out W hW; have hQ5 := HRq.out W hW; have m0 := HQl.out W hQ5; have x0 := m0.cell_at 0 rfl; have x1 := m0.cell_at 1 rfl; have x2 := m0.cell_at 2 rfl; have x3 := m0.cell_at 3 rfl; have x4 := m0.cell_at 4 rfl; have x5 := m0.cell_at 5 rfl; have x6 := m0.cell_at 6 rfl; have x7 := m0.cell_at 7 rfl; have x8 := m0.cell_at 8 rfl; have x9 := m0.cell_at 9 rfl; have x10 := m0.cell_at 10 rfl; clear m0; have m1 := HQv.out W hQ5; have v0 := m1.cell_at 0 rfl; have v1 := m1.cell_at 1 rfl; clear m1; have m2 := HRm.out W hW; have y0 := m2.cell_at 0 rfl; have y1 := m2.cell_at 1 rfl; clear m2 hQ5; go_simp; first | done | rfl)) (fun W hW => KG2.out W (HBS.out W hW)) ?_; simp only [Act.put, List.setIfInBounds_toArray, List.set_cons_zero, List.set_cons_succ]))
        refine mix_read (.bool true) (by rfl) (fun W hW => by (have hW := HBS.out W hW; have hQ5 := HRq.out W hW; have m0 := HQl.out W hQ5; have x0 := m0.cell_at 0 rfl; have x1 := m0.cell_at 1 rfl; have x2 := m0.cell_at 2 rfl; have x3 := m0.cell_at 3 rfl; have x4 := m0.cell_at 4 rfl; have x5 := m0.cell_at 5 rfl; have x6 := m0.cell_at 6 rfl; have x7 := m0.cell_at 7 rfl; have x8 := m0.cell_at 8 rfl; have x9 := m0.cell_at 9 rfl; have x10 := m0.cell_at 10 rfl; clear m0; have m1 := HQv.out W hQ5; have v0 := m1.cell_at 0 rfl; have v1 := m1.cell_at 1 rfl; clear m1; have m2 := HRm.out W hW; have y0 := m2.cell_at 0 rfl; have y1 := m2.cell_at 1 rfl; clear m2 hQ5; go_simp; first | done | exact HNIL.out)) ?_
        simp only [Act.put, List.setIfInBounds_toArray, List.set_cons_zero, List.set_cons_succ]
        iterate 1 (first | (refine mix_skip (by rfl) ?_; simp only [Act.put, List.setIfInBounds_toArray, List.set_cons_zero, List.set_cons_succ]) | (refine mix_read _ (by rfl) (fun W hW => by (have hW := HBS.out W hW; have hQ5 := HRq.out W hW; have m0 := HQl.out W hQ5; have x0 := m0.cell_at 0 rfl; have x1 := m0.cell_at 1 rfl; have x2 := m0.cell_at 2 rfl; have x3 := m0.cell_at 3 rfl; have x4 := m0.cell_at 4 rfl; have x5 := m0.cell_at 5 rfl; have x6 := m0.cell_at 6 rfl; have x7 := m0.cell_at 7 rfl; have x8 := m0.cell_at 8 rfl; have x9 := m0.cell_at 9 rfl; have x10 := m0.cell_at 10 rfl; clear m0; have m1 := HQv.out W hQ5; have v0 := m1.cell_at 0 rfl; have v1 := m1.cell_at 1 rfl; clear m1; have m2 := HRm.out W hW; have y0 := m2.cell_at 0 rfl; have y1 := m2.cell_at 1 rfl; clear m2 hQ5; go_simp; first | done | with_reducible rfl)) ?_; simp only [Act.put, List.setIfInBounds_toArray, List.set_cons_zero, List.set_cons_succ]) | (refine mix_call _ _ _ (by rfl) (fun W hW => by (have hW := HBS.out W hW; have hQ5 := HRq.out W hW; have m0 := HQl.out W hQ5; have x0 := m0.cell_at 0 rfl; have x1 := m0.cell_at 1 rfl; have x2 := m0.cell_at 2 rfl; have x3 := m0.cell_at 3 rfl; have x4 := m0.cell_at 4 rfl; have x5 := m0.cell_at 5 rfl; have x6 := m0.cell_at 6 rfl; have x7 := m0.cell_at 7 rfl; have x8 := m0.cell_at 8 rfl; have x9 := m0.cell_at 9 rfl; have x10 := m0.cell_at 10 rfl; clear m0; have m1 := HQv.out W hQ5; have v0 := m1.cell_at 0 rfl; have v1 := m1.cell_at 1 rfl; clear m1; have m2 := HRm.out W hW; have y0 := m2.cell_at 0 rfl; have y1 := m2.cell_at 1 rfl; clear m2 hQ5; go_simp; first | done | rfl)) (fun W hW => KG1.out W (HBS.out W hW)) ?_; simp only [Act.put, List.setIfInBounds_toArray, List.set_cons_zero, List.set_cons_succ]) | (refine mix_call _ _ _ (by rfl) (fun W hW => by (have hW := HBS.out W hW; have hQ5 := HRq.out W hW; have m0 := HQl.out W hQ5; have x0 := m0.cell_at 0 rfl; have x1 := m0.cell_at 1 rfl; have x2 := m0.cell_at 2 rfl; have x3 := m0.cell_at 3 rfl; have x4 := m0.cell_at 4 rfl; have x5 := m0.cell_at 5 rfl; have x6 := m0.cell_at 6 rfl; have x7 := m0.cell_at 7 rfl; have x8 := m0.cell_at 8 rfl; have x9 := m0.cell_at 9 rfl; have x10 := m0.cell_at 10 rfl; clear m0; have m1 := HQv.out W hQ5; have v0 := m1.cell_at 0 rfl; have v1 := m1.cell_at 1 rfl; clear m1; have m2 := HRm.out W hW; have y0 := m2.cell_at 0 rfl; have y1 := m2.cell_at 1 rfl; clear m2 hQ5; go_simp; first | done | rfl)) (fun W hW => KG2.out W (HBS.out W hW)) ?_; simp only [Act.put, List.setIfInBounds_toArray, List.set_cons_zero, List.set_cons_succ]))
        refine mix_nil (fun W hW => ?_)
        have hq := HRq.out _ (HBS.out W hW)
        clear hW HBS
        have hez2 : decide (ss = []) = true := decide_eq_true HNIL.out
        have hez3 := HNIL.out
        go_wp2_with fail
        refine (KW.out _ hq).mono ?_
        clear hq
        rintro e w10 ⟨rfl, hq⟩
        go_wp2_with fail
        go_ret
        exact ⟨rfl, HQb.out _ hq⟩
      have hnz : ¬ ss.length = 0 := of_decide_eq_false HEN.out
      have hnn : ss ≠ [] := fun e => hnz (by rw [e]; rfl)
      go_upto_region 21 with (fail)
      have HBS : Hid (∀ W, Below w9.heap.size w9 W → R W) := Lib.hid (fun W hB => HRc.out _ _ hr hB)
      clear hr
      refine region_mix (Below w9.heap.size w9) [(0, false), (1, false), (2, false), (3, false), (4, false), (5, false), (6, false), (7, false), (8, false), (9, false), (10, false), (11, false), (12, false), (13, false), (14, false), (15, false), (16, false), (17, false), (18, false), (19, false), (20, false)] (by kernel_rfl) (by kernel_rfl) (Below w9.heap.size w9) ⟨Closed.below w9, fun _ h => h⟩ (Below.refl _ _).drew ?_
      simp only [pickOps, List.getElem?_cons_zero, List.getElem?_cons_succ]
      iterate 4 (first | (refine mix_skip (by rfl) ?_; simp only [Act.put, List.setIfInBounds_toArray, List.set_cons_zero, List.set_cons_succ]) | (refine mix_read _ (by rfl) (fun W hW => by (have hW := HBS.out W hW; have hQ5 := HRq.out W hW; have m0 := HQl.out W hQ5; have x0 := m0.cell_at 0 rfl; have x1 := m0.cell_at 1 rfl; have x2 := m0.cell_at 2 rfl; have x3 := m0.cell_at 3 rfl; have x4 := m0.cell_at 4 rfl; have x5 := m0.cell_at 5 rfl; have x6 := m0.cell_at 6 rfl; have x7 := m0.cell_at 7 rfl; have x8 := m0.cell_at 8 rfl; have x9 := m0.cell_at 9 rfl; have x10 := m0.cell_at 10 rfl; clear m0; have m1 := HQv.out W hQ5; have v0 := m1.cell_at 0 rfl; have v1 := m1.cell_at 1 rfl; clear m1; have m2 := HRm.out W hW; have y0 := m2.cell_at 0 rfl; have y1 := m2.cell_at 1 rfl; clear m2 hQ5; go_simp; first | done | with_reducible rfl)) ?_; simp only [Act.put, List.setIfInBounds_toArray, List.set_cons_zero, List.set_cons_succ]) | (refine mix_call _ _ _ (by rfl) (fun W hW => by (have hW := HBS.out W hW; have hQ5 := HRq.out W hW; have m0 := HQl.out W hQ5; have x0 := m0.cell_at 0 rfl; have x1 := m0.cell_at 1 rfl; have x2 := m0.cell_at 2 rfl; have x3 := m0.cell_at 3 rfl; have x4 := m0.cell_at 4 rfl; have x5 := m0.cell_at 5 rfl; have x6 := m0.cell_at 6 rfl; have x7 := m0.cell_at 7 rfl; have x8 := m0.cell_at 8 rfl; have x9 := m0.cell_at 9 rfl; have x10 := m0.cell_at 10 rfl; clear m0; have m1 := HQv.out W hQ5; have v0 := m1.cell_at 0 rfl; have v1 := m1.cell_at 1 rfl; clear m1; have m2 := HRm.out W hW; have y0 := m2.cell_at 0 rfl; have y1 := m2.cell_at 1 rfl; clear m2 hQ5; go_simp; first | done | rfl)) (fun W hW => KG1.out W (HBS.out W hW)) ?_; simp only [Act.put, List.setIfInBounds_toArray, List.set_cons_zero, List.set_cons_succ]) | (refine mix_call _ _ _ (by rfl) (fun W hW => by (have hW := HBS.out W hW; have hQ5 := HRq.out W hW; have m0 := HQl.out W hQ5; have x0 := m0.cell_at 0 rfl; have x1 := m0.cell_at 1 rfl; have x2 := m0.cell_at 2 rfl; have x3 := m0.cell_at 3 rfl; have x4 := m0.cell_at 4 rfl; have x5 := m0.cell_at 5 rfl; have x6 := m0.cell_at 6 rfl; have x7 := m0.cell_at 7 rfl; have x8 := m0.cell_at 8 rfl; have x9 := m0.cell_at 9 rfl; have x10 := m0.cell_at 10 rfl; clear m0; have m1 := HQv.out W hQ5; have v0 := m1.cell_at 0 rfl; have v1 := m1.cell_at 1 rfl; clear m1; have m2 := HRm.out W hW; have y0 := m2.cell_at 0 rfl; have y1 := m2.cell_at 1 rfl; clear m2 hQ5; go_simp; first | done | rfl)) (fun W hW => KG2.out W (HBS.out W hW)) ?_; simp only [Act.put, List.setIfInBounds_toArray, List.set_cons_zero, List.set_cons_succ]))
      refine mix_read (.slice A a c) (by rfl) (fun W hW => exec_slice 34 (.tmp 104) none (some (.tmp 105)) none rfl (slice_to A ss.length c a HAC.out W)) ?_
      simp only [Act.put, List.setIfInBounds_toArray, List.set_cons_zero, List.set_cons_succ]
      iterate 7 (first | (refine mix_skip (by rfl) ?_; simp only [Act.put, List.setIfInBounds_toArray, List.set_cons_zero, List.set_cons_succ]) | (refine mix_read _ (by rfl) (fun W hW => by (have hW := HBS.out W hW; have hQ5 := HRq.out W hW; have m0 := HQl.out W hQ5; have x0 := m0.cell_at 0 rfl; have x1 := m0.cell_at 1 rfl; have x2 := m0.cell_at 2 rfl; have x3 := m0.cell_at 3 rfl; have x4 := m0.cell_at 4 rfl; have x5 := m0.cell_at 5 rfl; have x6 := m0.cell_at 6 rfl; have x7 := m0.cell_at 7 rfl; have x8 := m0.cell_at 8 rfl; have x9 := m0.cell_at 9 rfl; have x10 := m0.cell_at 10 rfl; clear m0; have m1 := HQv.out W hQ5; have v0 := m1.cell_at 0 rfl; have v1 := m1.cell_at 1 rfl; clear m1; have m2 := HRm.out W hW; have y0 := m2.cell_at 0 rfl; have y1 := m2.cell_at 1 rfl; clear m2 hQ5; go_simp; first | done | with_reducible rfl)) ?_; simp only [Act.put, List.setIfInBounds_toArray, List.set_cons_zero, List.set_cons_succ]) | (refine mix_call _ _ _ (by rfl) (fun W hW => by (have hW := HBS.out W hW; have hQ5 := HRq.out W hW; have m0 := HQl.out W hQ5; have x0 := m0.cell_at 0 rfl; have x1 := m0.cell_at 1 rfl; have x2 := m0.cell_at 2 rfl; have x3 := m0.cell_at 3 rfl; have x4 := m0.cell_at 4 rfl; have x5 := m0.cell_at 5 rfl; have x6 := m0.cell_at 6 rfl; have x7 := m0.cell_at 7 rfl; have x8 := m0.cell_at 8 rfl; have x9 := m0.cell_at 9 rfl; have x10 := m0.cell_at 10 rfl; clear m0; have m1 := HQv.out W hQ5; have v0 := m1.cell_at 0 rfl; have v1 := m1.cell_at 1 rfl; clear m1; have m2 := HRm.out W hW; have y0 := m2.cell_at 0 rfl; have y1 := m2.cell_at 1 rfl; clear m2 hQ5; go_simp; first | done | rfl)) (fun W hW => KG1.out W (HBS.out W hW)) ?_; simp only [Act.put, List.setIfInBounds_toArray, List.set_cons_zero, List.set_cons_succ]) | (refine mix_call _ _ _ (by rfl) (fun W hW => by (have hW := HBS.out W hW; have hQ5 := HRq.out W hW; have m0 := HQl.out W hQ5; have x0 := m0.cell_at 0 rfl; have x1 := m0.cell_at 1 rfl; have x2 := m0.cell_at 2 rfl; have x3 := m0.cell_at 3 rfl; have x4 := m0.cell_at 4 rfl; have x5 := m0.cell_at 5 rfl; have x6 := m0.cell_at 6 rfl; have x7 := m0.cell_at 7 rfl; have x8 := m0.cell_at 8 rfl; have x9 := m0.cell_at 9 rfl; have x10 := m0.cell_at 10 rfl; clear m0; have m1 := HQv.out W hQ5; have v0 := m1.cell_at 0 rfl; have v1 := m1.cell_at 1 rfl; clear m1; have m2 := HRm.out W hW; have y0 := m2.cell_at 0 rfl; have y1 := m2.cell_at 1 rfl; clear m2 hQ5; go_simp; first | done | rfl)) (fun W hW => KG2.out W (HBS.out W hW)) ?_; simp only [Act.put, List.setIfInBounds_toArray, List.set_cons_zero, List.set_cons_succ]))
      refine mix_read (.slice (fromA A c a) (ss.length - a) (c - a)) (by rfl) (fun W hW => exec_slice 34 (.tmp 112) (some (.tmp 113)) none none rfl (slice_from A ss.length c a HAL.out W)) ?_
      simp only [Act.put, List.setIfInBounds_toArray, List.set_cons_zero, List.set_cons_succ]
      iterate 8 (first | (refine mix_skip (by rfl) ?_; simp only [Act.put, List.setIfInBounds_toArray, List.set_cons_zero, List.set_cons_succ]) | (refine mix_read _ (by rfl) (fun W hW => by (have hW := HBS.out W hW; have hQ5 := HRq.out W hW; have m0 := HQl.out W hQ5; have x0 := m0.cell_at 0 rfl; have x1 := m0.cell_at 1 rfl; have x2 := m0.cell_at 2 rfl; have x3 := m0.cell_at 3 rfl; have x4 := m0.cell_at 4 rfl; have x5 := m0.cell_at 5 rfl; have x6 := m0.cell_at 6 rfl; have x7 := m0.cell_at 7 rfl; have x8 := m0.cell_at 8 rfl; have x9 := m0.cell_at 9 rfl; have x10 := m0.cell_at 10 rfl; clear m0; have m1 := HQv.out W hQ5; have v0 := m1.cell_at 0 rfl; have v1 := m1.cell_at 1 rfl; clear m1; have m2 := HRm.out W hW; have y0 := m2.cell_at 0 rfl; have y1 := m2.cell_at 1 rfl; clear m2 hQ5; go_simp; first | done | with_reducible rfl)) ?_; simp only [Act.put, List.setIfInBounds_toArray, List.set_cons_zero, List.set_cons_succ]) | (refine mix_call _ _ _ (by rfl) (fun W hW => by (have hW := HBS.out W hW; have hQ5 := HRq.out W hW; have m0 := HQl.out W hQ5; have x0 := m0.cell_at 0 rfl; have x1 := m0.cell_at 1 rfl; have x2 := m0.cell_at 2 rfl; have x3 := m0.cell_at 3 rfl; have x4 := m0.cell_at 4 rfl; have x5 := m0.cell_at 5 rfl; have x6 := m0.cell_at 6 rfl; have x7 := m0.cell_at 7 rfl; have x8 := m0.cell_at 8 rfl; have x9 := m0.cell_at 9 rfl; have x10 := m0.cell_at 10 rfl; clear m0; have m1 := HQv.out W hQ5; have v0 := m1.cell_at 0 rfl; have v1 := m1.cell_at 1 rfl; clear m1; have m2 := HRm.out W hW; have y0 := m2.cell_at 0 rfl; have y1 := m2.cell_at 1 rfl; clear m2 hQ5; go_simp; first | done | rfl)) (fun W hW => KG1.out W (HBS.out W hW)) ?_; simp only [Act.put, List.setIfInBounds_toArray, List.set_cons_zero, List.set_cons_succ]) | (refine mix_call _ _ _ (by rfl) (fun W hW => by (have hW := HBS.out W hW; have hQ5 := HRq.out W hW; have m0 := HQl.out W hQ5; have x0 := m0.cell_at 0 rfl; have x1 := m0.cell_at 1 rfl; have x2 := m0.cell_at 2 rfl; have x3 := m0.cell_at 3 rfl; have x4 := m0.cell_at 4 rfl; have x5 := m0.cell_at 5 rfl; have x6 := m0.cell_at 6 rfl; have x7 := m0.cell_at 7 rfl; have x8 := m0.cell_at 8 rfl; have x9 := m0.cell_at 9 rfl; have x10 := m0.cell_at 10 rfl; clear m0; have m1 := HQv.out W hQ5; have v0 := m1.cell_at 0 rfl; have v1 := m1.cell_at 1 rfl; clear m1; have m2 := HRm.out W hW; have y0 := m2.cell_at 0 rfl; have y1 := m2.cell_at 1 rfl; clear m2 hQ5; go_simp; first | done | rfl)) (fun W hW => KG2.out W (HBS.out W hW)) ?_; simp only [Act.put, List.setIfInBounds_toArray, List.set_cons_zero, List.set_cons_succ]))
      refine mix_nil (fun W hW => ?_)
      have hq := HRq.out _ (HBS.out W hW)
      obtain ⟨wz, rfl⟩ : ∃ W', W' = W := ⟨W, rfl⟩
      clear hW HBS
      have hws : wrap64 ((ss.length : Int) - 1) = (ss.length : Int) - 1 := by unfold wrap64; omega
      have hws2 : IntKind.i64.wrap ((ss.length : Int) - 1) = (ss.length : Int) - 1 := by rw [IntKind.wrap_i64]; omega
      have HQZ := Lib.hid (fun W (hB : Below wz.heap.size wz W) => HQ.out _ _ hq hB)
      clear hq
      go_wp2_with fail
      clear hez hez2
      go_loopw [14, 15] (fun v i' wr => ∃ (r : Nat) (i0 : Int), r ≤ ss.length ∧ i0 = (r : Int) - 1 ∧ i' = .int .i64 i0 ∧ Hid (wr.ownsRow wz.heap.size 31 3 v (backs ss r).length ((backs ss r).flatMap stpCells) ∧ Below wz.heap.size wz wr)) (fun _ i' _ => (intOf i' + 1).toNat)
      case atStart => exact ⟨ss.length, (ss.length : Int) - 1, by omega, rfl, rfl, Lib.hid ⟨by rw [backs_all]; exact World.ownsRow_nil _ _ _ _, Below.refl _ _⟩⟩
      case round =>
        obtain ⟨r, i0, hr, hi0, rfl, HM⟩ := hrel
        clear hws hws2
        cases r with
        | zero =>
          have hi1 : ¬ 0 ≤ i0 := by omega
          have hi2 : decide (0 ≤ i0) = false := decide_eq_false hi1
          clear hi0
          obtain ⟨A5, c5, hv5, hrow5⟩ := owns_read HM.out.1
          have hu0 := HQZ.out _ HM.out.2
          obtain ⟨bs, HBSX⟩ : ∃ bs, Hid (backs ss 0 = bs) := ⟨_, Lib.hid rfl⟩
          rw [HBSX.out] at hv5 hrow5
          subst hv5
          obtain ⟨z, HZ0, HZG⟩ : ∃ z, Hid (bs[0]? = some (turn z)) ∧ Hid (goesL l (z.1, z.2.2) bs = true) := by
            obtain ⟨x, r', hxr⟩ : ∃ x r', ss = x :: r' := by
              cases hss : ss with
              | nil => exact absurd hss hnn
              | cons x r' => exact ⟨x, r', rfl⟩
            have hgo := HGO.out
            rw [hxr] at hgo
            obtain ⟨z, h1, h2, _⟩ := goes_back HRT.out r' (f1, f2) x hgo
            have hb : bs = (x :: r').reverse.map turn := by rw [← HBSX.out, hxr]; rfl
            refine ⟨z, Lib.hid ?_, Lib.hid (by rw [hb]; exact h2)⟩
            rw [hb, List.getElem?_map, ← List.head?_eq_getElem?, List.head?_reverse, h1]
            rfl
          obtain ⟨z1, z2, z3⟩ := z
          have HBL : Hid (0 < bs.length ∧ bs.length ≤ 20) := Lib.hid ⟨(List.getElem?_eq_some_iff.1 HZ0.out).1, by rw [← HBSX.out]; show ((ss.drop 0).reverse.map turn).length ≤ 20; rw [List.length_map, List.length_reverse]; simpa using hl⟩
          obtain ⟨wy, rfl⟩ : ∃ W, W = wr := ⟨wr, rfl⟩
          obtain ⟨U, HUc, HUq, HUr, hu⟩ : ∃ U : World → Prop, Hid (Closed U) ∧ Hid (∀ W, U W → Q W) ∧ Hid (∀ W, U W → Row W W.heap.size A5 (bs.flatMap stpCells)) ∧ U wy :=
            ⟨fun W => Q W ∧ Row W W.heap.size A5 (bs.flatMap stpCells), Lib.hid (HQ.out.and (fun _ _ h hB => h.on hB)), Lib.hid fun _ h => h.1, Lib.hid fun _ h => h.2, hu0, hrow5⟩
          have KGB : Hid (∀ W, U W → Calls Tryd.prog 26 #[l.val, prtV z1 z3, .slice A5 bs.length c5] W fun e' w' => e' = .returned (.bool true) ∧ Below W.heap.size W w') := Lib.hid fun W hW => goesB_any (HTW.out W (HUq.out W hW)).1 (HTW.out W (HUq.out W hW)).2 z1 z3 c5 (HUr.out W hW) (by have := HBL.out.2; omega) HZG.out
          have KWB : Hid (∀ W, U W → Calls Tryd.prog 9 #[] W fun e w' => e = .returned (.bool true) ∧ Below W.heap.size W w') := Lib.hid fun W hW => wakes10_P (P := fun W' => Below W.heap.size W W') (Closed.below W) (fun W' h => Shapes.closed _ _ (HTW.out W (HUq.out W hW)).1 h) (Below.refl _ _)
          obtain ⟨b, off, HAA, HC0, HC⟩ := row_at (n := 3) (fun _ => rfl) (by omega) HUr.out hu HZ0.out
          cases HAA.out
          have HBC : Hid (∀ W, U W → W.cell? ⟨b, off, none⟩ = some (.int .i64 z1) ∧ W.cell? ⟨b, off + 1, none⟩ = some (.int .i64 z3)) := Lib.hid fun W hW => by
            have h0 := HC0.out W hW 0 _ _ HZ0.out rfl
            have h1 := HC.out W hW 0 _ 1 _ HZ0.out rfl
            simp only [Nat.zero_mul, Nat.add_zero] at h0 h1
            exact ⟨h0, h1⟩
          have hbl := HBL.out.1
          have hbl' : (0 : Int) < (bs.length : Int) := by omega
          clear HM hrow5 hu0 HAA
          go_wp2_with fail
          have HBS : Hid (∀ W, Below wy.heap.size wy W → U W) := Lib.hid (fun W hB => HUc.out _ _ hu hB)
          clear hu
          refine region_mix (Below wy.heap.size wy) [(0, false), (1, false), (2, false), (3, false), (4, false), (5, false), (6, false), (7, false), (8, false), (9, false), (10, false), (11, false), (12, false), (13, false), (14, false), (15, false)] (by kernel_rfl) (by kernel_rfl) (Below wy.heap.size wy) ⟨Closed.below wy, fun _ h => h⟩ (Below.refl _ _).drew ?_
          simp only [pickOps, List.getElem?_cons_zero, List.getElem?_cons_succ]
          repeat (first | (refine mix_skip (by rfl) ?_; simp only [Act.put, List.setIfInBounds_toArray, List.set_cons_zero, List.set_cons_succ]) | (refine mix_read _ (by rfl) (fun W hW => by (have hW := HBS.out W hW; have hQ5 := HUq.out W hW; have m0 := HQl.out W hQ5; have x0 := m0.cell_at 0 rfl; have x1 := m0.cell_at 1 rfl; have x2 := m0.cell_at 2 rfl; have x3 := m0.cell_at 3 rfl; have x4 := m0.cell_at 4 rfl; have x5 := m0.cell_at 5 rfl; have x6 := m0.cell_at 6 rfl; have x7 := m0.cell_at 7 rfl; have x8 := m0.cell_at 8 rfl; have x9 := m0.cell_at 9 rfl; have x10 := m0.cell_at 10 rfl; clear m0 hQ5; obtain ⟨b0, b1⟩ := HBC.out W hW; go_simp; first | done | with_reducible rfl)) ?_; simp only [Act.put, List.setIfInBounds_toArray, List.set_cons_zero, List.set_cons_succ]) | (refine mix_call _ _ _ (by rfl) (fun W hW => by (have hW := HBS.out W hW; have hQ5 := HUq.out W hW; have m0 := HQl.out W hQ5; have x0 := m0.cell_at 0 rfl; have x1 := m0.cell_at 1 rfl; have x2 := m0.cell_at 2 rfl; have x3 := m0.cell_at 3 rfl; have x4 := m0.cell_at 4 rfl; have x5 := m0.cell_at 5 rfl; have x6 := m0.cell_at 6 rfl; have x7 := m0.cell_at 7 rfl; have x8 := m0.cell_at 8 rfl; have x9 := m0.cell_at 9 rfl; have x10 := m0.cell_at 10 rfl; clear m0 hQ5; obtain ⟨b0, b1⟩ := HBC.out W hW; go_simp; first | done | rfl)) (fun W hW => KGB.out W (HBS.out W hW)) ?_; simp only [Act.put, List.setIfInBounds_toArray, List.set_cons_zero, List.set_cons_succ]) | (refine mix_call _ _ _ (by rfl) (fun W hW => by (have hW := HBS.out W hW; have hQ5 := HUq.out W hW; have m0 := HQl.out W hQ5; have x0 := m0.cell_at 0 rfl; have x1 := m0.cell_at 1 rfl; have x2 := m0.cell_at 2 rfl; have x3 := m0.cell_at 3 rfl; have x4 := m0.cell_at 4 rfl; have x5 := m0.cell_at 5 rfl; have x6 := m0.cell_at 6 rfl; have x7 := m0.cell_at 7 rfl; have x8 := m0.cell_at 8 rfl; have x9 := m0.cell_at 9 rfl; have x10 := m0.cell_at 10 rfl; clear m0 hQ5; obtain ⟨b0, b1⟩ := HBC.out W hW; go_simp; first | done | rfl)) (fun W hW => KWB.out W (HBS.out W hW)) ?_; simp only [Act.put, List.setIfInBounds_toArray, List.set_cons_zero, List.set_cons_succ]))
          refine mix_nil (fun W hW => ?_)
          have HF := Lib.hid (HQb.out _ (HUq.out _ (HBS.out W hW)))
          clear hW HBS
          go_wp2_with fail
          go_ret
          exact ⟨rfl, HF.out⟩
        | succ r =>
          obtain rfl : i0 = (r : Int) := by omega
          clear hi0
          have hrl : r < ss.length := by omega
          have hrl' : (r : Int) < (ss.length : Int) := by omega
          obtain ⟨⟨x1, x2, x3⟩, hx⟩ : ∃ x, ss[r]? = some x := ⟨_, List.getElem?_eq_getElem hrl⟩
          have HBN := Lib.hid (backs_next hx)
          have HBL : Hid ((backs ss (r + 1)).length ≤ 1000) := Lib.hid (by show ((ss.drop (r + 1)).reverse.map turn).length ≤ 1000; rw [List.length_map, List.length_reverse, List.length_drop]; omega)
          have hB := HM.out.2
          have hsz := hB.size
          have HOW := Lib.hid HM.out.1
          obtain ⟨b, off, HAA, HC0, HC⟩ := row_at (n := 3) (fun _ => rfl) (by omega) HRA.out (HQZ.out _ hB) hx
          have HX := Lib.hid hx
          cases HAA.out
          have HCX : Hid (∀ W, Q W → W.cell? ⟨b, off + r * 3, none⟩ = some (.int .i64 x1) ∧ W.cell? ⟨b, off + r * 3 + 1, none⟩ = some (.int .i64 x2) ∧ W.cell? ⟨b, off + r * 3 + 2, none⟩ = some (.int .i64 x3)) := Lib.hid fun W hW =>
            ⟨HC0.out W hW r _ _ HX.out rfl, HC.out W hW r _ 1 _ HX.out rfl, HC.out W hW r _ 2 _ HX.out rfl⟩
          have HBS : Hid (∀ W, Below wz.heap.size wz W → Q W) := HQZ
          clear hx HM HAA
          go_wp2_with fail
          refine region_mix (Below wz.heap.size wz) [(0, false), (1, false), (2, false), (3, false), (4, false), (5, false), (6, false), (7, false), (8, false), (9, false), (10, false), (11, false), (12, false), (13, false), (14, false), (15, false), (16, false), (17, true), (18, true), (19, false)] (by kernel_rfl) (by kernel_rfl) (Below wr.heap.size wr) ⟨Closed.below wr, fun X h => hB.trans (h.mono hsz)⟩ (Below.refl _ _).drew ?_
          simp only [pickOps, List.getElem?_cons_zero, List.getElem?_cons_succ]
          repeat (first | (refine mix_skip (by rfl) ?_; simp only [Act.put, List.setIfInBounds_toArray, List.set_cons_zero, List.set_cons_succ]) | (refine mix_read _ (by rfl) (fun W hW => by (have hW := HBS.out W hW; obtain ⟨c0, c1, c2⟩ := HCX.out W hW; go_simp; first | done | with_reducible rfl)) ?_; simp only [Act.put, List.setIfInBounds_toArray, List.set_cons_zero, List.set_cons_succ]))
          refine mix_make (fun g => .slice (some ⟨g, 0, none⟩) 1 1) wr.heap.size 31 [.int .i64 x1, .int .i64 x3, .int .i64 x2] ⟨Closed.below wr, fun X h => hB.trans (h.mono hsz)⟩ (fun _ h => h.size) (by rfl) (fun X hX => by (go_simp; first | done | with_reducible rfl)) (fun g hg => ?_)
          simp only [Act.put, List.setIfInBounds_toArray, List.set_cons_zero, List.set_cons_succ]
          refine mix_yield (X := Value) (fun v => v) (fun v X => Below wz.heap.size wz X ∧ X.ownsRow wz.heap.size 31 3 v (backs ss r).length ((backs ss r).flatMap stpCells)) (fun v => ⟨fun X X' h hb => ⟨h.1.trans (hb.mono h.1.size), owns_keep h.2 hb⟩, fun X h => h.1⟩) (by rfl) (fun X hX => ?_) (fun v' => ?_)
          · obtain ⟨hX1, hX2⟩ := hX
            obtain ⟨v', X', hrun, hown', hB5⟩ := append_step wz.heap.size _ _ _ (turn (x1, x2, x3)) X g (owns_keep HOW.out hX1) hX2 HBL.out (Nat.le_trans hsz hX1.size)
            exact ⟨v', X', exec_append (.tmp 136) (.tmp 153) 34 rfl hrun, (hB.trans (hX1.mono hsz)).trans hB5, by rw [HBN.out, List.length_append, List.flatMap_append]; simpa using hown'⟩
          simp only [Act.put, List.setIfInBounds_toArray, List.set_cons_zero, List.set_cons_succ]
          repeat (first | (refine mix_skip (by rfl) ?_; simp only [Act.put, List.setIfInBounds_toArray, List.set_cons_zero, List.set_cons_succ]) | (refine mix_read _ (by rfl) (fun W hW => by (have hW := HBS.out W hW; obtain ⟨c0, c1, c2⟩ := HCX.out W hW; go_simp; first | done | with_reducible rfl)) ?_; simp only [Act.put, List.setIfInBounds_toArray, List.set_cons_zero, List.set_cons_succ]))
          refine mix_nil (fun X hX => ?_)
          have hwr : wrap64 ((r : Int) - 1) = (r : Int) - 1 := by unfold wrap64; omega
          have hwr2 : IntKind.i64.wrap ((r : Int) - 1) = (r : Int) - 1 := by rw [IntKind.wrap_i64]; omega
          clear HBS
          go_wp2_with fail
          go_roundw
          case rel => exact ⟨r, (r : Int) - 1, by omega, rfl, by first | rfl | (rw [hwr]) | (rw [hwr2]), Lib.hid ⟨hX.2, hX.1⟩⟩
          case measure => first | (simp [intOf]; done) | (simp [intOf]; omega)
end Go.Proofs.YthjnhigcheakaaaDoor
