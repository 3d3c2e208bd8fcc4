/- The walk of NeedParts. -/
import Derived.Lib.MinMax
import Derived.Test.YtbdbgoploednbaaDoorQNeeL
namespace Go.Proofs.YtbdbgoploednbaaDoor
open Go.RowKit Go.Shelf
set_option linter.unusedVariables false
set_option linter.unusedSimpArgs false
set_option maxRecDepth 100000

theorem list_slice13 {P : Program} {ops : Array Oper} {rest : List Oper} {o : Oper} {a : Act} {w : World} {Q : Exit → Act → World → Prop} (hgd : o.guard = none) (t : TypeId) (x : Operand) (lo hi mx : Option Operand)
    (ho : o.op = .slice t x lo hi mx) {v : Value} (hrun : (Instr.sliceAt t (a.eval x) (lo.map a.eval) (hi.map a.eval) (mx.map a.eval)).run P w = .ok v w) (h : wpList P ops Q rest (a.put o.dst v) w) : wpList P ops Q (o :: rest) a w :=
  wpList_plain hgd fun K hK => by
    unfold Oper.wp execOp
    simp only [ho, Sem.run_bind, Sem.run_pure, Result.andThen_ok, hrun]
    exact hK _ _ h
theorem undSt13 : Tryd.prog.underlying 30 = some (.slice (Tryd.prog.elem 30)) := by kernel_rfl
theorem sizeSt13 (W : World) : (sizeOf (Tryd.prog.elem 30)).run Tryd.prog W = .ok 3 W := by kernel_rfl
theorem sliceSt13 (A : Option Addr) (n c a : Nat) (ha : a ≤ c) (W : World) : (Instr.sliceAt 30 (.slice A n c) none (some (.int .i64 (a : Int))) none).run Tryd.prog W = .ok (.slice A a c) W := by
  have h : (Instr.sliceAt 30 (.slice A n c) none (some (.int .i64 (a : Int))) none).run Tryd.prog W = .ok (sliced A 0 a c 3) W := by
    have h1 : (a : Int) ≤ (c : Int) := by omega
    have h2 : (0 : Int) ≤ (a : Int) := by omega
    rw [run_sliceAt_slice (h := undSt13), run_slice_h (ht := undSt13) (h0 := h2) (h2 := h1), sizeSt13]
    rfl
  rw [h]
  cases A <;> simp [sliced, Addr.add]
theorem undNe13 : Tryd.prog.underlying 33 = some (.slice (Tryd.prog.elem 33)) := by kernel_rfl
theorem sizeNe13 (W : World) : (sizeOf (Tryd.prog.elem 33)).run Tryd.prog W = .ok 3 W := by kernel_rfl
theorem sliceNe13 (A : Option Addr) (n c a : Nat) (ha : a ≤ c) (W : World) : (Instr.sliceAt 33 (.slice A n c) none (some (.int .i64 (a : Int))) none).run Tryd.prog W = .ok (.slice A a c) W := by
  have h : (Instr.sliceAt 33 (.slice A n c) none (some (.int .i64 (a : Int))) none).run Tryd.prog W = .ok (sliced A 0 a c 3) W := by
    have h1 : (a : Int) ≤ (c : Int) := by omega
    have h2 : (0 : Int) ≤ (a : Int) := by omega
    rw [run_sliceAt_slice (h := undNe13), run_slice_h (ht := undNe13) (h0 := h2) (h2 := h1), sizeNe13]
    rfl
  rw [h]
  cases A <;> simp [sliced, Addr.add]
theorem row_take13 {w : World} {B : Nat} {A : Option Addr} {f : (Int × Int × Int) → List Value} {xs ys : List (Int × Int × Int)} (h : Row w B A ((xs ++ ys).flatMap f)) : Row w B A (xs.flatMap f) := fun hp => by
  obtain ⟨b, o, e, hb, hc⟩ := h (by rw [List.flatMap_append, List.length_append]; omega)
  refine ⟨b, o, e, hb, fun j u hu => hc j u ?_⟩
  rw [List.flatMap_append, List.getElem?_append_left (List.getElem?_eq_some_iff.1 hu).1]
  exact hu
theorem cut13 (a : Int) (n : Nat) : ∃ k : Nat, min (max a 0) (n : Int) = k ∧ k ≤ n := ⟨(min (max a 0) (n : Int)).toNat, by omega, by omega⟩
/-- The beginning of a path, to no exit. -/
def beg13 (p : Pth) (m : Nat) : Pth := ⟨p.s, -1, p.A, p.c, p.ss.take m⟩
theorem beg_lies {p : Pth} {m : Nat} {w : World} (h : PLies p w) : PLies (beg13 p m) w := by
  have e := List.take_append_drop m p.ss
  have hr : Row w w.heap.size p.A ((p.ss.take m).flatMap stpCells) := row_take13 (ys := p.ss.drop m) (by rw [e]; exact h.row)
  refine ⟨hr, ?_⟩
  have := h.len
  show ((p.ss.take m).length : Int) ≤ _
  rw [List.length_take]
  omega
theorem beg_of (l : Lay) (p : Pth) (m : Nat) : ∃ r, ofV l p = ofV l (beg13 p m) ++ r := of_begin (n := m) rfl rfl
theorem of_tail {l : Lay} {p : Pth} {i : Nat} {x : Int × Int × Int} (hi : (ofS l p.ss 0).length ≤ i) (hx : (ofV l p)[i]? = some x) : x.2.2 = (p.ss.length : Int) := by
  unfold ofV at hx
  rw [List.getElem?_append_right hi] at hx
  have hm := List.mem_of_getElem? hx
  unfold ofO at hm
  obtain ⟨s, _, h⟩ := List.mem_flatMap.1 hm
  exact wants_k h

set_option maxRecDepth 100000 in
set_option maxHeartbeats 32000000 in
theorem needParts_walk {l : Lay} {p : Pth} (pt : Int) {w : World} (hT : Shapes w) (hL : Lies l w) (hF : FWf l) (hp : PLies p w) (hpc : p.ss.length ≤ p.c) :
    Calls Tryd.prog 5 #[l.val, p.val, .int .i64 pt] w fun e w' => e = .returned (.bool true) ∧ Below w.heap.size w w' := by
  obtain ⟨Q, HQ, HQb, HQl, HQv, hq⟩ := keep_box2 (Closed.below w) (Below.refl _ w) 29 32 l.cells p.cells
  have HTW : Hid (∀ W, Q W → Shapes W ∧ Lies l W ∧ PLies p W) := Lib.hid fun W hW => ⟨Shapes.closed _ _ hT (HQb.out W hW), Lies.closed l _ _ hL (HQb.out W hW), PLies.closed p _ _ hp (HQb.out W hW)⟩
  have KW := Lib.hid (fun W hW => wakes13_P (P := Q) (w := W) HQ.out (fun W hW => (HTW.out W hW).1) hW)
  obtain ⟨g, hg⟩ : ∃ g, great13 l p = g := ⟨_, rfl⟩
  have KG := Lib.hid (fun W hW => keepR HQ.out (great13_any (w := W) (HTW.out W hW).2.1 (HTW.out W hW).2.2 hg) hW)
  have hnP := hp.len
  have HG := Lib.hid hg
  obtain ⟨m, hmn, hml⟩ := cut13 pt p.ss.length
  have HML := Lib.hid hml
  clear hT hL hp hg
  go_enter Tryd.func5, Tryd.ntmps5
  have m0 := HQl.out _ hq
  have x0 := m0.cell_at 0 rfl
  have x1 := m0.cell_at 1 rfl
  have x2 := m0.cell_at 2 rfl
  have x3 := m0.cell_at 3 rfl
  have x4 := m0.cell_at 4 rfl
  have x5 := m0.cell_at 5 rfl
  have x6 := m0.cell_at 6 rfl
  have x7 := m0.cell_at 7 rfl
  have x8 := m0.cell_at 8 rfl
  have x9 := m0.cell_at 9 rfl
  have x10 := m0.cell_at 10 rfl
  clear m0
  have m0 := HQv.out _ hq
  have y0 := m0.cell_at 0 rfl
  have y1 := m0.cell_at 1 rfl
  have y2 := m0.cell_at 2 rfl
  clear m0
  go_wp2_with fail
  refine (KG.out _ hq).mono ?_
  clear hq x0 x1 x2 x3 x4 x5 x6 x7 x8 x9 x10 y0 y1 y2
  rintro e w1 ⟨rfl, hq⟩
  cases g
  rotate_left
  · go_wp2_with fail
    refine (KW.out _ hq).mono ?_
    clear hq
    rintro e wz ⟨rfl, hq⟩
    go_wp2_with fail
    go_ret
    exact ⟨rfl, HQb.out _ hq⟩
  have hgn := great13_no HG.out
  have hgj := greatJ_no hgn.1
  have hnF : l.flanks.length ≤ 900 := by omega
  have hnO : ∀ x ∈ l.exits, x.over.length ≤ 1000 := fun x hx => by have := hgj.2.2.2.2 x hx; omega
  have hnS : p.ss.length ≤ 100 := by omega
  have hol : (overL10 l p.x).length ≤ 20 := over_most hgj.2.2.2.2 p.x
  have hnN : (ofV l p).length ≤ 1550 := of_len (F := 30) (S := 50) (by omega) (by omega)
  have hWN : ∀ x ∈ ofV l p, NWf x := ofV_wf hF (by omega)
  obtain ⟨q, hqq⟩ : ∃ q, beg13 p m = q := ⟨_, rfl⟩
  have hqs : q.ss.length = m := by rw [← hqq]; show (p.ss.take m).length = m; rw [List.length_take]; omega
  have hqo : (overL10 l q.x).length = 0 := by rw [← hqq]; rfl
  have hnM : (ofV l q).length ≤ 1550 := of_len (F := 30) (S := 50) (by omega) (by omega)
  have hWM : ∀ x ∈ ofV l q, NWf x := ofV_wf hF (by omega)
  obtain ⟨r, hr⟩ : ∃ r, ofV l p = ofV l q ++ r := by rw [← hqq]; exact beg_of l p m
  obtain ⟨fi, hfi⟩ : ∃ z, (!clashN (ofV l p)) = z := ⟨_, rfl⟩
  obtain ⟨fq, hfq⟩ : ∃ z, (!clashN (ofV l q)) = z := ⟨_, rfl⟩
  have hff : fi = true → fq = true := fun e => by
    rw [← hfi, Bool.not_eq_true'] at e
    rw [← hfq, Bool.not_eq_true']
    cases hc : clashN (ofV l q)
    · rfl
    · rw [clash_sub (ms := ofV l p) (fun a ha => by rw [hr]; exact List.mem_append_left _ ha) hc] at e
      cases e
  have HFF := Lib.hid hff
  obtain ⟨nn, hnn⟩ : ∃ z, ofV l p = z := ⟨_, rfl⟩
  obtain ⟨mm, hmm⟩ : ∃ z, ofV l q = z := ⟨_, rfl⟩
  have HTL : Hid (∀ (i : Nat) (x : Int × Int × Int), (ofS l p.ss 0).length ≤ i → nn[i]? = some x → x.2.2 = (p.ss.length : Int)) := Lib.hid fun i x h1 h2 => of_tail h1 (by rw [hnn]; exact h2)
  have HHS : Hid (∃ t, nn = ofS l p.ss 0 ++ t) := Lib.hid ⟨_, by rw [← hnn]; rfl⟩
  have HNM : Hid (nn = mm ++ r) := Lib.hid (by rw [← hnn, ← hmm]; exact hr)
  have HLS : Hid (∀ j, (ofS l (p.ss.take j) 0).length ≤ j * 901) := Lib.hid fun j => by
    have h := of_len (l := l) (p := { p with ss := p.ss.take j, x := -1 }) (F := 900) (S := j) hnF (by show (p.ss.take j).length + (overL10 l (-1)).length ≤ j; rw [show overL10 l (-1) = [] from rfl, List.length_take]; simp; omega)
    unfold ofV at h
    rw [List.length_append] at h
    exact Nat.le_trans (Nat.le_add_right _ _) h
  have HWL : Hid (∀ s i o k, (wantsV l s i o k).length ≤ 901) := Lib.hid fun s i o k => want_len hnF (k, s, i, o)
  have hnl : nn.length ≤ 1550 := by rw [← hnn]; exact hnN
  have hmml : mm.length ≤ nn.length := by rw [HNM.out, List.length_append]; omega
  have hQV : q.val = .agg #[.int .i64 p.s, .int .i64 (-1), .slice p.A m p.c] := by
    have e : q.val = .agg #[.int .i64 p.s, .int .i64 (-1), .slice p.A q.ss.length p.c] := by rw [← hqq]; rfl
    rw [e, hqs]
  have hQC : q.cells = [.int .i64 p.s, .int .i64 (-1), .slice p.A m p.c] := by
    have e : q.cells = [.int .i64 p.s, .int .i64 (-1), .slice p.A q.ss.length p.c] := by rw [← hqq]; rfl
    rw [e, hqs]
  obtain ⟨W3, hW3⟩ : ∃ W3, w1.alloc (.cells #[.int .i64 p.s, .int .i64 (-1), .slice p.A m p.c] 32) = W3 := ⟨_, rfl⟩
  obtain ⟨gz, hgz⟩ : ∃ g, w1.heap.size = g := ⟨_, rfl⟩
  have hz : Whole W3 gz 32 q.cells := by rw [hQC, ← hW3, ← hgz]; exact Whole.new _ _ [_, _, _]
  have hB3 : Below w1.heap.size w1 W3 := by rw [← hW3]; exact below1 _ _
  have hqX := HQ.out _ _ hq (below1 w1 (.cells #[.int .i64 p.s, .int .i64 (-1), .slice p.A p.ss.length p.c] 32))
  have hq3 := HQ.out _ _ hq hB3
  have HQ_ := HQ; have HQb_ := HQb; have HQl_ := HQl; have HQv_ := HQv; have HTW_ := HTW
  obtain ⟨Q', HQ', HQq, HQz, hq'⟩ : ∃ Q' : World → Prop, Hid (Closed Q') ∧ Hid (∀ W, Q' W → Q W) ∧ Hid (∀ W, Q' W → Whole W gz 32 q.cells) ∧ Q' W3 :=
    ⟨fun W => Q W ∧ Whole W gz 32 q.cells, Lib.hid (HQ.out.and (Closed.whole _ _ _)), Lib.hid fun _ h => h.1, Lib.hid fun _ h => h.2, hq3, hz⟩
  have HSL := Lib.hid (sliceSt13 p.A p.ss.length p.c m (by omega))
  have HW3 := Lib.hid (And.intro hW3 hgz)
  have m0 := HQl.out _ hq
  have x0 := m0.cell_at 0 rfl
  have x1 := m0.cell_at 1 rfl
  have x2 := m0.cell_at 2 rfl
  have x3 := m0.cell_at 3 rfl
  have x4 := m0.cell_at 4 rfl
  have x5 := m0.cell_at 5 rfl
  have x6 := m0.cell_at 6 rfl
  have x7 := m0.cell_at 7 rfl
  have x8 := m0.cell_at 8 rfl
  have x9 := m0.cell_at 9 rfl
  have x10 := m0.cell_at 10 rfl
  clear m0
  have m0 := HQv.out _ hq
  have y0 := m0.cell_at 0 rfl
  have y1 := m0.cell_at 1 rfl
  have y2 := m0.cell_at 2 rfl
  clear m0
  have hrun := HSL.out (w1.alloc (.cells #[.int .i64 p.s, .int .i64 (-1), .slice p.A p.ss.length p.c] 32))
  have yy2 := (HQv.out _ hqX).cell_at 2 rfl
  have hmx : IntKind.i64.wrap (m : Int) = (m : Int) := IntWalk.i64_in _ (by omega)
  clear hqX hz hB3 hq3 hW3 hgz hqs hqo hr hff HQ_ HQb_ HQl_ HQv_ HTW_ HQ hQC
  go_upto_region 7 with (refine list_slice13 rfl 30 (.tmp 26) none (some (.tmp 27)) none rfl hrun ?_)
  try rw [HW3.out.1]
  try rw [HW3.out.2]
  clear HW3 hrun yy2 hmn hmx x0 x1 x2 x3 x4 x5 x6 x7 x8 x9 x10 y0 y1 y2 hq
  have HTZ : Hid (∀ W, Q' W → Shapes W ∧ Lies l W ∧ PLies p W ∧ PLies q W) := Lib.hid fun W hW => by
    have h := HTW.out W (HQq.out W hW)
    exact ⟨h.1, h.2.1, h.2.2, by rw [← hqq]; exact beg_lies h.2.2⟩
  have HQl' : Hid (∀ W, Q' W → Whole W w.heap.size 29 l.cells) := Lib.hid fun W hW => HQl.out W (HQq.out W hW)
  have HQv' : Hid (∀ W, Q' W → Whole W (w.heap.size + 1) 32 p.cells) := Lib.hid fun W hW => HQv.out W (HQq.out W hW)
  have HQb' : Hid (∀ W, Q' W → Below w.heap.size w W) := Lib.hid fun W hW => HQb.out W (HQq.out W hW)
  have KWZ : Hid (∀ W, Q' W → Calls Tryd.prog 9 #[] W fun e w' => e = .returned (.bool true) ∧ Q w') := Lib.hid fun W hW => KW.out W (HQq.out W hW)
  have HQbb := HQb
  clear HQl HQv HQb HQq HTW KW KG
  have HQ := HQ'; have HQl := HQl'; have HQv := HQv'; have HQb := HQb'
  clear HQ' HQl' HQv' HQb'
  have hq := hq'
  clear hq'
  obtain ⟨w7, hw7⟩ : ∃ W, W3 = W := ⟨_, rfl⟩
  rw [hw7] at hq ⊢
  clear hw7
  have KO1 : Hid (∀ W, Q' W → Calls Tryd.prog 15 #[l.val, p.val] W fun e w' => ∃ x : Option Addr × Nat, e = .returned (.slice x.1 nn.length x.2) ∧ (Row w' w'.heap.size x.1 (nn.flatMap needCells) ∧ nn.length ≤ x.2) ∧ Below W.heap.size W w') := Lib.hid fun W hW =>
    (of13_any (HTZ.out W hW).1 (HTZ.out W hW).2.1 (HTZ.out W hW).2.2.1 hnO hnF (by omega) hnn).mono fun e w' ⟨v, he, hown, hB⟩ => by
      obtain ⟨A, c, rfl, hr, hc⟩ := ownsS_slice hown
      exact ⟨(A, c), he, ⟨hr, hc⟩, hB⟩
  have KO2 : Hid (∀ W, Q' W → Calls Tryd.prog 15 #[l.val, q.val] W fun e w' => ∃ x : Option Addr × Nat, e = .returned (.slice x.1 mm.length x.2) ∧ (Row w' w'.heap.size x.1 (mm.flatMap needCells) ∧ mm.length ≤ x.2) ∧ Below W.heap.size W w') := Lib.hid fun W hW =>
    (of13_any (HTZ.out W hW).1 (HTZ.out W hW).2.1 (HTZ.out W hW).2.2.2 hnO hnF (by omega) hmm).mono fun e w' ⟨v, he, hown, hB⟩ => by
      obtain ⟨A, c, rfl, hr, hc⟩ := ownsS_slice hown
      exact ⟨(A, c), he, ⟨hr, hc⟩, hB⟩
  have KF1 : Hid (∀ W, Q' W → Calls Tryd.prog 17 #[l.val, p.val] W fun e w' => e = .returned (.bool fi) ∧ Q' w') := Lib.hid fun W hW => keepR HQ.out (fineB_any (HTZ.out W hW).1 (HTZ.out W hW).2.1 (HTZ.out W hW).2.2.1 hnO hnF (by omega) (by rw [hnn] at hWN ⊢; exact hWN) hfi) hW
  have KF2 : Hid (∀ W, Q' W → Calls Tryd.prog 17 #[l.val, q.val] W fun e w' => e = .returned (.bool fq) ∧ Q' w') := Lib.hid fun W hW => keepR HQ.out (fineB_any (HTZ.out W hW).1 (HTZ.out W hW).2.1 (HTZ.out W hW).2.2.2 hnO hnF (by omega) (by rw [hmm] at hWM ⊢; exact hWM) hfq) hW
  have KWA : Hid (∀ (s i o k : Int) (ws : List (Int × Int × Int)), wantsV l s i o k = ws → ∀ W, Q' W → Calls Tryd.prog 24 #[l.val, stpV s i o, .int .i64 k] W fun e w' => ∃ x : Option Addr × Nat, e = .returned (.slice x.1 ws.length x.2) ∧ Row w' w'.heap.size x.1 (ws.flatMap needCells) ∧ Below W.heap.size W w') := Lib.hid fun s i o k ws hws W hW => (wantsR_any (HTZ.out W hW).2.1 hnF s i o k hws).mono (by
    rintro e w' ⟨v, rfl, hown, hB⟩
    obtain ⟨A, c, rfl, hr⟩ := owns_read hown
    exact ⟨(A, c), rfl, hr, hB⟩)
  have HRP : Hid (∀ W, Q' W → Row W W.heap.size p.A (p.ss.flatMap stpCells)) := Lib.hid fun W hW => (HTZ.out W hW).2.2.1.row
  clear hnn hmm hfi hfq hnN hnM hWN hWM hnO hnF hgn hgj hol hF
  rw [hQV] at KO2 KF2
  have HQz : Hid (∀ W, Q' W → Whole W gz 32 [.int .i64 p.s, .int .i64 (-1), .slice p.A m p.c]) := Lib.hid fun W hW => by
    have h := HQz.out W hW
    have e : q.cells = [.int .i64 p.s, .int .i64 (-1), .slice p.A m p.c] := by
      have := hQV
      unfold Pth.val at this
      injection this with this
      have e2 : (#[Value.int .i64 q.s, .int .i64 q.x, .slice q.A q.ss.length q.c] : Array Value).toList = (#[Value.int .i64 p.s, .int .i64 (-1), .slice p.A m p.c] : Array Value).toList := by rw [this]
      exact e2
    rw [e] at h
    exact h
  clear hQV hqq
  have HBS : Hid (∀ W, Below w7.heap.size w7 W → Q' W) := Lib.hid (fun W hB => HQ.out _ _ hq hB)
  clear hq
  refine region_mix (Below w7.heap.size w7) [(0, false), (1, false), (3, false), (4, false), (2, true), (5, true), (6, false), (7, false)] (by kernel_rfl) (by kernel_rfl) (Below w7.heap.size w7) ⟨Closed.below w7, fun _ h => h⟩ (Below.refl _ _).drew ?_
  simp only [pickOps, List.getElem?_cons_zero, List.getElem?_cons_succ]
  repeat (first | (refine mix_skip (by rfl) ?_; simp only [Act.put, List.setIfInBounds_toArray, List.set_cons_zero, List.set_cons_succ]) | (refine mix_read _ (by rfl) (fun W hW => by (have hW := HBS.out W hW; have m0 := HQl.out W hW; have x0 := m0.cell_at 0 rfl; have x1 := m0.cell_at 1 rfl; have x2 := m0.cell_at 2 rfl; have x3 := m0.cell_at 3 rfl; have x4 := m0.cell_at 4 rfl; have x5 := m0.cell_at 5 rfl; have x6 := m0.cell_at 6 rfl; have x7 := m0.cell_at 7 rfl; have x8 := m0.cell_at 8 rfl; have x9 := m0.cell_at 9 rfl; have x10 := m0.cell_at 10 rfl; clear m0; have m0 := HQv.out W hW; have y0 := m0.cell_at 0 rfl; have y1 := m0.cell_at 1 rfl; have y2 := m0.cell_at 2 rfl; clear m0; have m0 := HQz.out W hW; have z0 := m0.cell_at 0 rfl; have z1 := m0.cell_at 1 rfl; have z2 := m0.cell_at 2 rfl; clear m0; go_simp; first | done | with_reducible rfl)) ?_; simp only [Act.put, List.setIfInBounds_toArray, List.set_cons_zero, List.set_cons_succ]))
  refine mix_meet (fun x : Option Addr × Nat => .slice x.1 nn.length x.2) (fun x W => Row W W.heap.size x.1 (nn.flatMap needCells) ∧ nn.length ≤ x.2) ⟨Closed.below w7, fun _ h => h⟩ (fun x W W' h hB => ⟨h.1.on hB, h.2⟩) _ _ (by rfl) (fun W hW => by (have hW := HBS.out W hW; have m0 := HQl.out W hW; have x0 := m0.cell_at 0 rfl; have x1 := m0.cell_at 1 rfl; have x2 := m0.cell_at 2 rfl; have x3 := m0.cell_at 3 rfl; have x4 := m0.cell_at 4 rfl; have x5 := m0.cell_at 5 rfl; have x6 := m0.cell_at 6 rfl; have x7 := m0.cell_at 7 rfl; have x8 := m0.cell_at 8 rfl; have x9 := m0.cell_at 9 rfl; have x10 := m0.cell_at 10 rfl; clear m0; have m0 := HQv.out W hW; have y0 := m0.cell_at 0 rfl; have y1 := m0.cell_at 1 rfl; have y2 := m0.cell_at 2 rfl; clear m0; have m0 := HQz.out W hW; have z0 := m0.cell_at 0 rfl; have z1 := m0.cell_at 1 rfl; have z2 := m0.cell_at 2 rfl; clear m0; go_simp; first | done | rfl)) (fun W hW => KO1.out W (HBS.out W hW)) (fun xa => ?_)
  simp only [Act.put, List.setIfInBounds_toArray, List.set_cons_zero, List.set_cons_succ]
  refine mix_meet (fun x : Option Addr × Nat => .slice x.1 mm.length x.2) (fun x W => Row W W.heap.size x.1 (mm.flatMap needCells) ∧ mm.length ≤ x.2) ⟨Closed.and (Closed.below w7) (fun _ _ h hB => ⟨h.1.on hB, h.2⟩), fun _ h => h.1⟩ (fun x W W' h hB => ⟨h.1.on hB, h.2⟩) _ _ (by rfl) (fun W hW => by (have hW := HBS.out W hW.1; have m0 := HQl.out W hW; have x0 := m0.cell_at 0 rfl; have x1 := m0.cell_at 1 rfl; have x2 := m0.cell_at 2 rfl; have x3 := m0.cell_at 3 rfl; have x4 := m0.cell_at 4 rfl; have x5 := m0.cell_at 5 rfl; have x6 := m0.cell_at 6 rfl; have x7 := m0.cell_at 7 rfl; have x8 := m0.cell_at 8 rfl; have x9 := m0.cell_at 9 rfl; have x10 := m0.cell_at 10 rfl; clear m0; have m0 := HQv.out W hW; have y0 := m0.cell_at 0 rfl; have y1 := m0.cell_at 1 rfl; have y2 := m0.cell_at 2 rfl; clear m0; have m0 := HQz.out W hW; have z0 := m0.cell_at 0 rfl; have z1 := m0.cell_at 1 rfl; have z2 := m0.cell_at 2 rfl; clear m0; go_simp; first | done | rfl)) (fun W hW => KO2.out W (HBS.out W hW.1)) (fun xb => ?_)
  simp only [Act.put, List.setIfInBounds_toArray, List.set_cons_zero, List.set_cons_succ]
  repeat (first | (refine mix_skip (by rfl) ?_; simp only [Act.put, List.setIfInBounds_toArray, List.set_cons_zero, List.set_cons_succ]) | (refine mix_read _ (by rfl) (fun W hW => by (have hW := HBS.out W hW; have m0 := HQl.out W hW; have x0 := m0.cell_at 0 rfl; have x1 := m0.cell_at 1 rfl; have x2 := m0.cell_at 2 rfl; have x3 := m0.cell_at 3 rfl; have x4 := m0.cell_at 4 rfl; have x5 := m0.cell_at 5 rfl; have x6 := m0.cell_at 6 rfl; have x7 := m0.cell_at 7 rfl; have x8 := m0.cell_at 8 rfl; have x9 := m0.cell_at 9 rfl; have x10 := m0.cell_at 10 rfl; clear m0; have m0 := HQv.out W hW; have y0 := m0.cell_at 0 rfl; have y1 := m0.cell_at 1 rfl; have y2 := m0.cell_at 2 rfl; clear m0; have m0 := HQz.out W hW; have z0 := m0.cell_at 0 rfl; have z1 := m0.cell_at 1 rfl; have z2 := m0.cell_at 2 rfl; clear m0; go_simp; first | done | with_reducible rfl)) ?_; simp only [Act.put, List.setIfInBounds_toArray, List.set_cons_zero, List.set_cons_succ]))
  refine mix_nil (fun W hW => ?_)
  have hq2 := HBS.out W hW.1.1
  obtain ⟨A1, c1⟩ := xa
  obtain ⟨A2, c2⟩ := xb
  obtain ⟨⟨_, hr1, hc1⟩, hr2, hc2⟩ := hW
  simp only at hr1 hc1 hr2 hc2 ⊢
  obtain ⟨Q4, HQ4, HQ4q, HQr1, HQr2, hq4⟩ : ∃ Q4 : World → Prop, Hid (Closed Q4) ∧ Hid (∀ W, Q4 W → Q' W) ∧ Hid (∀ W, Q4 W → Row W W.heap.size A1 (nn.flatMap needCells)) ∧ Hid (∀ W, Q4 W → Row W W.heap.size A2 (mm.flatMap needCells)) ∧ Q4 W :=
    ⟨fun W => Q' W ∧ (Row W W.heap.size A1 (nn.flatMap needCells) ∧ Row W W.heap.size A2 (mm.flatMap needCells)), Lib.hid (HQ.out.and (fun _ _ h hB => ⟨h.1.on hB, h.2.on hB⟩)), Lib.hid fun _ h => h.1, Lib.hid fun _ h => h.2.1, Lib.hid fun _ h => h.2.2, hq2, hr1, hr2⟩
  clear HBS hr1 hr2 hq2 KO1 KO2
  have HRM : Hid (∀ W, Q4 W → Row W W.heap.size A1 (mm.flatMap needCells)) := Lib.hid fun W hW => row_take13 (ys := r) (by rw [← HNM.out]; exact HQr1.out W hW)
  have KS1 := Lib.hid (fun W hW => same13R_P (P := Q4) (w := W) HQ4.out (a := mm) (b := mm) c1 c2 HRM.out HQr2.out (by omega) (r := true) (decide_eq_true rfl) hW)
  have hrun := sliceNe13 A1 nn.length c1 mm.length (by omega) W
  have e1 : decide ((nn.length : Int) < (mm.length : Int)) = false := decide_eq_false (by omega)
  have e2 : ¬ (nn.length : Int) < (mm.length : Int) := by omega
  have e3 : ¬ nn.length < mm.length := by omega
  go_wp2_with (refine list_slice13 rfl 33 (.tmp 42) none (some (.tmp 44)) none rfl hrun ?_)
  refine (KS1.out _ hq4).mono ?_
  clear hq4 hrun KS1 e1 e2 e3
  rintro e w8 ⟨rfl, hq4⟩
  obtain ⟨B8, hB8⟩ : ∃ B8, w8.heap.size = B8 := ⟨_, rfl⟩
  obtain ⟨Q5, HQ5, HQB, HQ50, HQ5q, hq5⟩ : ∃ Q5 : World → Prop, Hid (Closed Q5) ∧ Hid (∀ W W', Q5 W → Below B8 W W' → Q5 W') ∧ Hid (∀ W, Q5 W → B8 ≤ W.heap.size) ∧ Hid (∀ W, Q5 W → Q4 W) ∧ Q5 w8 :=
    ⟨fun W => Below B8 w8 W ∧ B8 ≤ W.heap.size, Lib.hid (fun W W' h hb => ⟨h.1.trans (hb.mono h.2), Nat.le_trans h.2 hb.size⟩), Lib.hid (fun W W' h hb => ⟨h.1.trans hb, Nat.le_trans h.2 hb.size⟩), Lib.hid (fun W h => h.2), Lib.hid (fun W h => HQ4.out _ _ hq4 (by rw [hB8]; exact h.1)), ⟨Below.refl _ _, by omega⟩⟩
  clear hq4 hB8
  have m0 := HQv.out _ (HQ4q.out _ (HQ5q.out _ hq5))
  have y0 := m0.cell_at 0 rfl
  have y1 := m0.cell_at 1 rfl
  have y2 := m0.cell_at 2 rfl
  clear m0
  go_wp2_with fail
  clear y0 y1 y2
  go_loopw [10, 11] (fun v i wr => ∃ j : Nat, j ≤ p.ss.length ∧ i = .int .i64 j ∧ Hid (Q5 wr ∧ wr.ownsRow B8 46 3 v (ofS l (p.ss.take j) 0).length ((ofS l (p.ss.take j) 0).flatMap needCells))) (fun _ i _ => p.ss.length - (intOf i).toNat)
  case atStart => exact ⟨0, by omega, rfl, Lib.hid ⟨hq5, World.ownsRow_nil _ _ _ _⟩⟩
  case round =>
    clear hq5
    obtain ⟨j, hj, rfl, HI⟩ := hrel
    have y2 := (HQv.out _ (HQ4q.out _ (HQ5q.out _ HI.out.1))).cell_at 2 rfl
    by_cases hlt : j < p.ss.length
    · have hlt' : (j : Int) < p.ss.length := by omega
      obtain ⟨⟨f1, f2, f3⟩, hx⟩ : ∃ x, p.ss[j]? = some x := ⟨_, List.getElem?_eq_getElem hlt⟩
      obtain ⟨o1, o2, HA, HC0, HC⟩ := row_at (Q := Q5) (n := 3) (fun _ => rfl) (by omega) (fun W hW => HRP.out W (HQ4q.out W (HQ5q.out W hW))) HI.out.1 hx
      have HX := Lib.hid hx
      obtain ⟨ws, hws⟩ : ∃ ws, wantsV l f1 f2 f3 (j : Int) = ws := ⟨_, rfl⟩
      have HN : Hid (ofS l (p.ss.take (j + 1)) 0 = ofS l (p.ss.take j) 0 ++ ws) := Lib.hid (by rw [ofS_next hx, ← hws])
      have KW1 := Lib.hid (KWA.out f1 f2 f3 j ws hws)
      have HL1 : Hid ((ofS l (p.ss.take j) 0).length ≤ 1000000 ∧ ws.length ≤ 1000000) := Lib.hid ⟨by have := HLS.out j; omega, by rw [← hws]; have := HWL.out f1 f2 f3 j; omega⟩
      obtain ⟨us, hus⟩ : ∃ us, ofS l (p.ss.take j) 0 = us := ⟨_, rfl⟩
      rw [hus] at HN HL1 HI
      clear hx hws hus
      obtain ⟨WB, rfl⟩ : ∃ W, W = wr := ⟨wr, rfl⟩
      have hFam : Fam Q5 (fun W => Q5 W ∧ W.ownsRow B8 46 3 u10 us.length (us.flatMap needCells)) := ⟨fun W W' h hb => ⟨HQ5.out _ _ h.1 hb, owns_keep h.2 hb⟩, fun _ h => h.1⟩
      go_wp2_with fail
      clear y2
      refine region_mix Q5 [(0, false), (1, false), (2, false), (3, false), (4, false), (5, false), (6, false), (7, false), (8, true), (9, true), (10, false)] (by kernel_rfl) (by kernel_rfl) (fun W => Q5 W ∧ W.ownsRow B8 46 3 u10 us.length (us.flatMap needCells)) hFam (hFam.1 _ _ HI.out ((Below.refl _ _).drew)) ?_
      simp only [pickOps, List.getElem?_cons_zero, List.getElem?_cons_succ]
      iterate 8 (first | (refine mix_read _ (by rfl) (fun W hW => by (have m0 := HQl.out W (HQ4q.out _ (HQ5q.out _ hW)); have x0 := m0.cell_at 0 rfl; have x1 := m0.cell_at 1 rfl; have x2 := m0.cell_at 2 rfl; have x3 := m0.cell_at 3 rfl; have x4 := m0.cell_at 4 rfl; have x5 := m0.cell_at 5 rfl; have x6 := m0.cell_at 6 rfl; have x7 := m0.cell_at 7 rfl; have x8 := m0.cell_at 8 rfl; have x9 := m0.cell_at 9 rfl; have x10 := m0.cell_at 10 rfl; clear m0; have m0 := HQv.out W (HQ4q.out _ (HQ5q.out _ hW)); have y0 := m0.cell_at 0 rfl; have y1 := m0.cell_at 1 rfl; have y2 := m0.cell_at 2 rfl; clear m0; have c0 := HC0.out W hW j _ _ HX.out rfl; have c1 := HC.out W hW j _ 1 _ HX.out rfl; have c2 := HC.out W hW j _ 2 _ HX.out rfl; clear hW; go_simp; first | done | with_reducible rfl)) ?_; simp only [Act.put, List.setIfInBounds_toArray, List.set_cons_zero, List.set_cons_succ]) | (refine mix_read _ (by rfl) (fun W hW => by (have m0 := HQl.out W (HQ4q.out _ (HQ5q.out _ hW)); have x0 := m0.cell_at 0 rfl; have x1 := m0.cell_at 1 rfl; have x2 := m0.cell_at 2 rfl; have x3 := m0.cell_at 3 rfl; have x4 := m0.cell_at 4 rfl; have x5 := m0.cell_at 5 rfl; have x6 := m0.cell_at 6 rfl; have x7 := m0.cell_at 7 rfl; have x8 := m0.cell_at 8 rfl; have x9 := m0.cell_at 9 rfl; have x10 := m0.cell_at 10 rfl; clear m0; have m0 := HQv.out W (HQ4q.out _ (HQ5q.out _ hW)); have y0 := m0.cell_at 0 rfl; have y1 := m0.cell_at 1 rfl; have y2 := m0.cell_at 2 rfl; clear m0; have c0 := HC0.out W hW j _ _ HX.out rfl; have c1 := HC.out W hW j _ 1 _ HX.out rfl; have c2 := HC.out W hW j _ 2 _ HX.out rfl; clear hW; rw [HA.out]; go_simp; first | done | with_reducible rfl)) ?_; simp only [Act.put, List.setIfInBounds_toArray, List.set_cons_zero, List.set_cons_succ]))
      refine mix_meet (fun x : Option Addr × Nat => .slice x.1 ws.length x.2) (fun x W => Row W W.heap.size x.1 (ws.flatMap needCells)) hFam (fun x W W' h hB => h.on hB) _ _ (by rfl) (fun W hW => by (go_simp; first | done | rfl)) (fun W hW => KW1.out W (HQ4q.out _ (HQ5q.out _ hW.1))) (fun x => ?_)
      simp only [Act.put, List.setIfInBounds_toArray, List.set_cons_zero, List.set_cons_succ]
      refine mix_yield (X := Value) (fun v => v) (fun v W => Q5 W ∧ W.ownsRow B8 46 3 v (us ++ ws).length ((us ++ ws).flatMap needCells)) (fun v => ⟨fun W W' h hb => ⟨HQ5.out _ _ h.1 hb, owns_keep h.2 hb⟩, fun _ h => h.1⟩) (by rfl) (fun W hW => ?_) (fun v => ?_)
      · have hq := hW.1.1
        obtain ⟨v', W', hrun, hO, hg⟩ := append_needs13 B8 us ws u10 x.1 x.2 W.heap.size W hW.1.2 hW.2 HL1.out.1 HL1.out.2 (HQ50.out W hq)
        have hq' : Q5 W' := HQB.out _ _ hq ((Below.refl B8 W).grown hg (HQ50.out W hq) (fun k e => (hW.1.2.lt k e).1))
        exact ⟨v', W', exec_append (.tmp 57) (.tmp 65) 33 rfl hrun, hq', hO⟩
      simp only [Act.put, List.setIfInBounds_toArray, List.set_cons_zero, List.set_cons_succ]
      refine mix_read _ (by rfl) (fun W hW => by (clear hW; go_simp; first | done | with_reducible rfl)) ?_
      simp only [Act.put, List.setIfInBounds_toArray, List.set_cons_zero, List.set_cons_succ]
      refine mix_nil (fun W hW => ?_)
      have HE := Lib.hid hW
      clear hW HI hFam
      go_wp2_with fail
      go_roundw
      case rel => exact ⟨j + 1, hlt, by go_num, by rw [HN.out]; exact HE⟩
      case measure => simp [intOf]; omega
    · obtain rfl : j = p.ss.length := by omega
      have hown := HI.out.2
      rw [List.take_length] at hown
      obtain ⟨A3, c3, rfl, hr3⟩ := owns_read hown
      obtain ⟨hs, hhs⟩ : ∃ hs, ofS l p.ss 0 = hs := ⟨_, rfl⟩
      rw [hhs] at hr3 HTL HHS
      have hsl : (ofS l p.ss 0).length = hs.length := by rw [hhs]
      obtain ⟨t, ht⟩ := HHS.out
      have hle : hs.length ≤ nn.length := by rw [ht, List.length_append]; omega
      obtain ⟨Q6, HQ6, HQ6q, HQr3, hq6⟩ : ∃ Q6 : World → Prop, Hid (Closed Q6) ∧ Hid (∀ W, Q6 W → Q4 W) ∧ Hid (∀ W, Q6 W → Row W W.heap.size A3 (hs.flatMap needCells)) ∧ Q6 wr :=
        ⟨fun W => Q5 W ∧ Row W W.heap.size A3 (hs.flatMap needCells), Lib.hid (HQ5.out.and (fun _ _ h hB => h.on hB)), Lib.hid fun W h => HQ5q.out W h.1, Lib.hid fun _ h => h.2, HI.out.1, hr3⟩
      have HRS : Hid (∀ W, Q6 W → Row W W.heap.size A1 (hs.flatMap needCells)) := Lib.hid fun W hW => row_take13 (ys := t) (by rw [← ht]; exact HQr1.out W (HQ6q.out W hW))
      have KS2 := Lib.hid (fun W hW => same13R_P (P := Q6) (w := W) HQ6.out (a := hs) (b := hs) c1 c3 HRS.out HQr3.out (by omega) (r := true) (decide_eq_true rfl) hW)
      have hrun := sliceNe13 A1 nn.length c1 hs.length (by omega) wr
      have e1 : decide ((nn.length : Int) < (hs.length : Int)) = false := decide_eq_false (by omega)
      have e2 : ¬ (nn.length : Int) < (hs.length : Int) := by omega
      have e3 : ¬ nn.length < hs.length := by omega
      try rw [hhs]
      clear hown hr3 ht HI hsl hhs
      go_wp2_with (refine list_slice13 rfl 33 (.tmp 73) none (some (.tmp 75)) none rfl hrun ?_)
      refine (KS2.out _ hq6).mono ?_
      clear hq6 hrun KS2 e1 e2 e3
      rintro e w9 ⟨rfl, hq6⟩
      go_wp2_with fail
      go_loopw [12] (fun i wr => ∃ j : Nat, j ≤ nn.length ∧ hs.length ≤ j ∧ i = .int .i64 j ∧ Q6 wr) (fun i _ => nn.length - (intOf i).toNat)
      case atStart => exact ⟨hs.length, hle, Nat.le_refl _, rfl, hq6⟩
      case round =>
        clear hq6
        obtain ⟨i, hi, hsi, rfl, hq⟩ := hrel
        by_cases hlt2 : i < nn.length
        · have hlt2' : (i : Int) < (nn.length : Int) := by omega
          obtain ⟨⟨x1, x2, x3⟩, hx⟩ : ∃ x, nn[i]? = some x := ⟨_, List.getElem?_eq_getElem hlt2⟩
          obtain ⟨o1, o2, HA, HC0, HC⟩ := row_at (Q := Q6) (n := 3) (fun _ => rfl) (by omega) (fun W hW => HQr1.out W (HQ6q.out W hW)) hq hx
          have HX := Lib.hid hx
          obtain rfl : x3 = (p.ss.length : Int) := HTL.out i _ hsi hx
          obtain rfl := HA.out
          clear hx HA
          go_wp2_with fail
          refine region_mix Q6 [(0, false), (1, false), (2, false), (3, false), (4, false), (5, false), (6, false), (7, false), (8, false)] (by kernel_rfl) (by kernel_rfl) Q6 ⟨HQ6.out, fun _ h => h⟩ (HQ6.out.drew hq) ?_
          simp only [pickOps, List.getElem?_cons_zero, List.getElem?_cons_succ]
          repeat (first | (refine mix_skip (by rfl) ?_; simp only [Act.put, List.setIfInBounds_toArray, List.set_cons_zero, List.set_cons_succ]) | (refine mix_read _ (by rfl) (fun W hW => by (have c2 := HC.out W hW i _ 2 _ HX.out rfl; have y2 := (HQv.out _ (HQ4q.out _ (HQ6q.out _ hW))).cell_at 2 rfl; clear hW; go_simp; first | done | with_reducible rfl)) ?_; simp only [Act.put, List.setIfInBounds_toArray, List.set_cons_zero, List.set_cons_succ]))
          refine mix_nil (fun W hW => ?_)
          have hq := hW
          clear hW
          go_wp2_with fail
          go_roundw
          case rel => exact ⟨i + 1, hlt2, by omega, by go_num, hq⟩
          case measure => simp [intOf]; omega
        · obtain rfl : i = nn.length := by omega
          have hq := HQ4q.out _ (HQ6q.out _ hq)
          have m0 := HQl.out _ hq
          have x0 := m0.cell_at 0 rfl
          have x1 := m0.cell_at 1 rfl
          have x2 := m0.cell_at 2 rfl
          have x3 := m0.cell_at 3 rfl
          have x4 := m0.cell_at 4 rfl
          have x5 := m0.cell_at 5 rfl
          have x6 := m0.cell_at 6 rfl
          have x7 := m0.cell_at 7 rfl
          have x8 := m0.cell_at 8 rfl
          have x9 := m0.cell_at 9 rfl
          have x10 := m0.cell_at 10 rfl
          clear m0
          have m0 := HQv.out _ hq
          have y0 := m0.cell_at 0 rfl
          have y1 := m0.cell_at 1 rfl
          have y2 := m0.cell_at 2 rfl
          clear m0
          clear HQr1 HQr2 HQ6 HQ6q HQr3 HRS HTL HHS HNM
          go_wp2_with fail
          refine (KF1.out _ hq).mono ?_
          clear hq x0 x1 x2 x3 x4 x5 x6 x7 x8 x9 x10 y0 y1 y2
          rintro e w10 ⟨rfl, hq⟩
          cases fi
          · go_wp2_with fail
            refine (KWZ.out _ hq).mono ?_
            clear hq
            rintro e wz ⟨rfl, hq⟩
            have HBz := Lib.hid (HQbb.out _ hq)
            clear hq
            go_wp2_with fail
            go_ret
            exact ⟨rfl, HBz.out⟩
          · obtain rfl := HFF.out rfl
            have m0 := HQl.out _ hq
            have x0 := m0.cell_at 0 rfl
            have x1 := m0.cell_at 1 rfl
            have x2 := m0.cell_at 2 rfl
            have x3 := m0.cell_at 3 rfl
            have x4 := m0.cell_at 4 rfl
            have x5 := m0.cell_at 5 rfl
            have x6 := m0.cell_at 6 rfl
            have x7 := m0.cell_at 7 rfl
            have x8 := m0.cell_at 8 rfl
            have x9 := m0.cell_at 9 rfl
            have x10 := m0.cell_at 10 rfl
            clear m0
            have m0 := HQv.out _ hq
            have y0 := m0.cell_at 0 rfl
            have y1 := m0.cell_at 1 rfl
            have y2 := m0.cell_at 2 rfl
            clear m0
            have m0 := HQz.out _ hq
            have z0 := m0.cell_at 0 rfl
            have z1 := m0.cell_at 1 rfl
            have z2 := m0.cell_at 2 rfl
            clear m0
            go_wp2_with fail
            refine (KF2.out _ hq).mono ?_
            clear hq x0 x1 x2 x3 x4 x5 x6 x7 x8 x9 x10 y0 y1 y2 z0 z1 z2
            rintro e w11 ⟨rfl, hq⟩
            go_wp2_with fail
            refine (KWZ.out _ hq).mono ?_
            clear hq
            rintro e wz ⟨rfl, hq⟩
            have HBz := Lib.hid (HQbb.out _ hq)
            clear hq
            go_wp2_with fail
            go_ret
            exact ⟨rfl, HBz.out⟩
end Go.Proofs.YtbdbgoploednbaaDoor
