/- A layout's rows of numbers, one by one. -/
import Derived.Test.YtegflmaobmibnaaGreatDoorQPlanJ
import Derived.Test.YtegflmaobmibnaaGreatDoorQPlanK
namespace Go.Proofs.YtegflmaobmibnaaGreatDoor
set_option maxRecDepth 100000
open Go.RowKit Go.Shelf
set_option linter.unusedVariables false
set_option linter.unusedSimpArgs false
attribute [local go_sem] Oper.semAt_some

theorem keeps_size {R : Nat → Prop} {A B : World} {n0 : Nat} (hn : n0 ≤ A.heap.size) (h : Keeps R A B) (hR : ∀ k, k < n0 → R k) : n0 ≤ B.heap.size := by
  rcases Nat.eq_zero_or_pos n0 with h0 | h0
  · omega
  · have hk := h (n0 - 1) _ (hR _ (by omega)) (Array.getElem?_eq_getElem (by omega))
    have := (Array.getElem?_eq_some_iff.1 hk).1
    omega
/-- A row of numbers is handed on. -/
def EncN (n0 : Nat) (ps : List (Int × Nat)) (vs : Array Value) (W : World) : Prop := ∃ A c, vs = #[.slice A ps.length c] ∧ Row W W.heap.size A (ps.flatMap numCells) ∧ ∀ q, A = some q → n0 ≤ q.block
theorem EncN.on (n0 : Nat) (ps : List (Int × Nat)) (vs : Array Value) (W W' : World) (h : EncN n0 ps vs W) (hc : CellsOn W W') : EncN n0 ps vs W' := by
  obtain ⟨A, c, rfl, hr, hq⟩ := h
  exact ⟨A, c, rfl, hr.cellsOn hc, hq⟩
theorem owns_from {W : World} {base e size n c : Nat} {A : Option Addr} {xs : List Value} (h : W.ownsRow base e size (.slice A n c) n xs) {n0 : Nat} (hn : n0 ≤ base) : ∀ q, A = some q → n0 ≤ q.block := fun q hq => by
  subst hq
  exact Nat.le_trans hn (h.lt q.block rfl).1
theorem rows8_any (l : Lay) (w : World) : Calls Tryz.prog 25 #[l.val] w fun e w' => e = .returned (.func (.func 63) #[] #[.pointer (some ⟨w.heap.size, 0, none⟩)]) ∧ w' = w.alloc (.cells l.cells.toArray 29) := by
  have hmf : ∀ (fn : Fn) (first cap : Array Value) (w : World), (Instr.makeFunc fn first cap).run Tryz.prog w = .ok (.func fn first cap) w := fun _ _ _ _ => rfl
  go_enter Tryz.func25, Tryz.ntmps25
  go_wp2
  go_ret
  exact ⟨rfl, rfl⟩
section
variable (l : PL)
theorem rows_head : (rowsOf l)[0]? = some (numsHead l) := rfl
theorem rows_secs {j : Nat} {x : Sec} (h : l.secs[j]? = some x) : (rowsOf l)[1 + j]? = some (numsSec x) := by
  have hj := (List.getElem?_eq_some_iff.1 h).1
  unfold rowsOf
  rw [Nat.add_comm, List.getElem?_cons_succ, List.getElem?_append_left (by simpa using hj), List.getElem?_map, h]; rfl
theorem rows_sigs {j : Nat} {x : Int × Int} (h : l.sigs[j]? = some x) : (rowsOf l)[1 + l.secs.length + j]? = some (numsPort x) := by
  have hj := (List.getElem?_eq_some_iff.1 h).1
  unfold rowsOf
  rw [show 1 + l.secs.length + j = (l.secs.length + j) + 1 by omega, List.getElem?_cons_succ, List.getElem?_append_right (by simp), List.getElem?_append_left (by simp; omega), List.getElem?_map]
  simp [h]
theorem rows_exits {j : Nat} {x : XL} (h : l.exits[j]? = some x) : (rowsOf l)[1 + l.secs.length + l.sigs.length + j]? = some (numsExit x) := by
  have hj := (List.getElem?_eq_some_iff.1 h).1
  unfold rowsOf
  rw [show 1 + l.secs.length + l.sigs.length + j = (l.secs.length + (l.sigs.length + j)) + 1 by omega, List.getElem?_cons_succ, List.getElem?_append_right (by simp), List.getElem?_append_right (by simp), List.getElem?_append_left (by simp; omega), List.getElem?_map]
  simp [h]
theorem rows_flanks {j : Nat} {x : Int × Int × Int × Int} (h : l.flanks[j]? = some x) : (rowsOf l)[1 + l.secs.length + l.sigs.length + l.exits.length + j]? = some (numsFlank x) := by
  have hj := (List.getElem?_eq_some_iff.1 h).1
  unfold rowsOf
  rw [show 1 + l.secs.length + l.sigs.length + l.exits.length + j = (l.secs.length + (l.sigs.length + (l.exits.length + j))) + 1 by omega, List.getElem?_cons_succ, List.getElem?_append_right (by simp), List.getElem?_append_right (by simp), List.getElem?_append_right (by simp), List.getElem?_append_left (by simp; omega), List.getElem?_map]
  simp [h]
theorem rowsL_flanks (l : Lay) {j : Nat} {x : Int × Int × Int × Int} (h : l.flanks[j]? = some x) : (rowsOf l.pl)[1 + l.secs.length + l.sigs.length + l.exits.length + j]? = some (numsFlank x) := by have := rows_flanks l.pl h; simpa [Lay.pl] using this
theorem rows_times : (rowsOf l)[1 + l.secs.length + l.sigs.length + l.exits.length + l.flanks.length]? = some (l.ts.flatMap numsTime) := by
  unfold rowsOf
  rw [show 1 + l.secs.length + l.sigs.length + l.exits.length + l.flanks.length = (l.secs.length + (l.sigs.length + (l.exits.length + l.flanks.length))) + 1 by omega, List.getElem?_cons_succ, List.getElem?_append_right (by simp), List.getElem?_append_right (by simp), List.getElem?_append_right (by simp), List.getElem?_append_right (by simp)]
  simp
theorem rows_length : (rowsOf l).length = 1 + l.secs.length + l.sigs.length + l.exits.length + l.flanks.length + 1 := by unfold rowsOf; simp; omega
end

set_option maxHeartbeats 32000000 in
theorem rows_iter {w0 : World} {g n0 : Nat} {l : Lay} (hbox : Whole w0 g 29 l.cells) (hn0 : n0 ≤ w0.heap.size) (hL1 : Row w0 n0 l.As (l.secs.flatMap Sec.cells)) (hL2 : Row w0 n0 l.Ag (l.sigs.flatMap prtCells)) (hL3 : Row w0 n0 l.Ae (l.exits.flatMap Exm.cells)) (hL4 : Row w0 n0 l.Af (l.flanks.flatMap flkCells)) (hL5 : ∀ x ∈ l.exits, Row w0 n0 x.A (x.over.flatMap stpCells))
    (hF : Fine l.pl) (hSh : Shapes w0) (h00 : 0 < n0) :
    IterV Tryz.prog 63 #[.pointer (some ⟨g, 0, none⟩)] (EncN w0.heap.size) (rowsOf l.pl) (fun k => k < n0 ∨ k = g) w0 := by
  intro LL S J Jx W hk0 hz0 hS hJ hJx hY h0
  have HBOX : Hid (∀ X, Keeps (fun k => k < n0 ∨ k = g) w0 X → Whole X g 29 l.cells) := Lib.hid (fun X hX => hX.whole (.inr rfl) hbox)
  have HSH : Hid (∀ X, Keeps (fun k => k < n0 ∨ k = g) w0 X → Shapes X) := Lib.hid (fun X hX i v hv => hX.cell (.inl h00) (hSh i v hv))
  have hx1 := hbox
  obtain ⟨ss, AS, kS, gs, AG, kG, ex, AE, kE, fs, AF, kF, a0, a1, a2, a3, a4, a5, a6⟩ := l
  simp only at hL1 hL2 hL3 hL4 hL5
  have hnS : ss.length ≤ 24 := hF.nS
  have hnG : gs.length ≤ 12 := hF.nG
  have hnE : ex.length ≤ 12 := by have := hF.nE; simpa [Lay.pl] using this
  have hnF : fs.length ≤ 16 := hF.nF
  have HFI := Lib.hid hF
  have HLEN : Hid ((rowsOf (⟨ss, AS, kS, gs, AG, kG, ex, AE, kE, fs, AF, kF, a0, a1, a2, a3, a4, a5, a6⟩ : Lay).pl).length = 1 + ss.length + gs.length + ex.length + fs.length + 1) := Lib.hid (by rw [rows_length]; simp [Lay.pl])
  have HTI : Hid ((rowsOf (⟨ss, AS, kS, gs, AG, kG, ex, AE, kE, fs, AF, kF, a0, a1, a2, a3, a4, a5, a6⟩ : Lay).pl)[1 + ss.length + gs.length + ex.length + fs.length]? = some ([a0, a1, a2, a3, a4, a5, a6].flatMap numsTime)) := Lib.hid (by have := rows_times (⟨ss, AS, kS, gs, AG, kG, ex, AE, kE, fs, AF, kF, a0, a1, a2, a3, a4, a5, a6⟩ : Lay).pl; simpa [Lay.pl, timesL] using this)
  have HEX : Hid (∀ (j : Nat) (x : Exm), ex[j]? = some x → (ex.map Exm.pure)[j]? = some x.pure) := Lib.hid (fun j x h => by rw [List.getElem?_map, h]; rfl)
  obtain ⟨RR, HRR⟩ : ∃ R : Nat → Prop, Hid ((fun k => k < n0 ∨ k = g) = R) := ⟨_, Lib.hid rfl⟩
  have HRn : Hid (∀ k, k < n0 → RR k) := Lib.hid (fun k h => by rw [← HRR.out]; exact .inl h)
  have HD : Hid (∀ k, S k → ¬ RR k) := Lib.hid (fun k hk => by rw [← HRR.out]; exact (hS k hk).1)
  rw [HRR.out] at hk0 HBOX HSH
  refine (callsIn_wide (n := 3)).1 ?_
  refine callsIn_of_wp Tryz.func63 rfl trivial ?_ rfl
  simp only [Tryz.ntmps63, List.size_toArray, List.length_cons, List.length_nil, Nat.reduceAdd, Nat.reduceSub, Array.replicate_succ, Array.replicate_zero, List.push_toArray, List.append_toArray, List.nil_append, List.cons_append]
  have hbx := HBOX.out W hk0
  have x0 := hbx.cell_at 0 rfl
  have x1 := hbx.cell_at 1 rfl
  have x2 := hbx.cell_at 2 rfl
  have x3 := hbx.cell_at 3 rfl
  have x4 := hbx.cell_at 4 rfl
  have x5 := hbx.cell_at 5 rfl
  have x6 := hbx.cell_at 6 rfl
  have x7 := hbx.cell_at 7 rfl
  have x8 := hbx.cell_at 8 rfl
  have x9 := hbx.cell_at 9 rfl
  have x10 := hbx.cell_at 10 rfl
  gi_wp2_with fail
  refine ⟨trivial, callsIn_wide.2 ((counts_any ⟨ss, AS, kS, gs, AG, kG, ex, AE, kE, fs, AF, kF, a0, a1, a2, a3, a4, a5, a6⟩ W).mono ?_)⟩
  rintro e w1 ⟨⟨A, c, rfl, ho⟩, hb⟩
  have hJ1 := OwnFrom.grow hJ h0 hb
  have hk1 := hk0.trans (Keeps.below hb)
  obtain ⟨fn, tmps, assign, body, hy, hR⟩ := hY 0 _ _ w1 (rows_head _) ⟨A, c, rfl, owns_row2 ho, owns_from ho hz0⟩ hJ1
  have HR := Lib.hid hR
  clear hR h0 ho x0 x1 x2 x3 x4 x5 x6 x7 x8 x9 x10
  gi_wp2_with fail
  refine RoundIn.mono (RoundIn.wide HR.out) ?_
  have hbz := hb.size
  clear HR hy hb hJ1
  rintro e W3 (⟨rfl, hJ3, hk3⟩ | ⟨rfl, hJx3, hk3⟩)
  rotate_left
  · gi_wp2_with fail
    refine bodyPost_ret (results_none rfl _ _ _) rfl ?_
    exact ⟨⟨_, rfl⟩, .inr hJx3⟩
  have hkk := hk1.trans (hk3.keeps HD.out)
  have hwk : w0.heap.size ≤ W3.heap.size := Nat.le_trans hz0 (Nat.le_trans hbz hk3.size)
  clear hk1 hk3 hk0
  have hbx := HBOX.out W3 hkk
  have x0 := hbx.cell_at 0 rfl
  have x1 := hbx.cell_at 1 rfl
  have x2 := hbx.cell_at 2 rfl
  have x3 := hbx.cell_at 3 rfl
  have x4 := hbx.cell_at 4 rfl
  have x5 := hbx.cell_at 5 rfl
  have x6 := hbx.cell_at 6 rfl
  have x7 := hbx.cell_at 7 rfl
  have x8 := hbx.cell_at 8 rfl
  have x9 := hbx.cell_at 9 rfl
  have x10 := hbx.cell_at 10 rfl
  gi_wp2_with fail
  clear hbx x0 x1 x2 x3 x4 x5 x6 x7 x8 x9 x10
  gi_loopw [19] (fun i wr => ∃ j : Nat, j ≤ ss.length ∧ i = .int .i64 j ∧ Hid (J (1 + j) wr ∧ Keeps RR w0 wr ∧ w0.heap.size ≤ wr.heap.size)) (fun i _ => ss.length - (intOf i).toNat)
  case atStart => exact ⟨0, by omega, rfl, Lib.hid ⟨hJ3, hkk, hwk⟩⟩
  case round =>
    clear hJ3 hkk
    obtain ⟨j, hj, rfl, HM⟩ := hrel
    by_cases hlt : j < ss.length
    · have hlt' : (j : Int) < (ss.length : Int) := by omega
      obtain ⟨y, hyj⟩ : ∃ y, ss[j]? = some y := ⟨_, List.getElem?_eq_getElem hlt⟩
      obtain ⟨b2, off2, rfl, _, hc0, hc⟩ := (hL1.keeps HM.out.2.1 HRn.out).nth (n := 11) Sec.len (by omega) hyj
      have d0 := hc0 j _ _ hyj rfl
      have d1 := hc j _ 1 _ hyj rfl
      have d2 := hc j _ 2 _ hyj rfl
      have d3 := hc j _ 3 _ hyj rfl
      have d4 := hc j _ 4 _ hyj rfl
      have d5 := hc j _ 5 _ hyj rfl
      have d6 := hc j _ 6 _ hyj rfl
      have d7 := hc j _ 7 _ hyj rfl
      have d8 := hc j _ 8 _ hyj rfl
      have d9 := hc j _ 9 _ hyj rfl
      have d10 := hc j _ 10 _ hyj rfl
      have hJ4 := OwnFrom.grow hJ HM.out.1 (below1 wr (.cells y.cells.toArray 70))
      have hk4 := HM.out.2.1.trans (Keeps.below (below1 wr (.cells y.cells.toArray 70)))
      clear hc0 hc
      gi_wp2_with fail
      refine ⟨trivial, callsIn_wide.2 ((ofSection_any y (HFI.out.secs y (List.mem_of_getElem? hyj)) _ (HSH.out _ hk4)).mono ?_)⟩
      rintro e w4 ⟨⟨A, c, rfl, ho⟩, hb⟩
      have hJ5 := OwnFrom.grow hJ hJ4 hb
      have hk5 := hk4.trans (Keeps.below hb)
      obtain ⟨fn, tmps, assign, body, hy, hR⟩ := hY (1 + j) _ _ w4 (rows_secs _ hyj) ⟨A, c, rfl, owns_row2 ho, owns_from ho (by have := HM.out.2.2; simp; omega)⟩ hJ5
      have hbz := hb.size
      have HR := Lib.hid hR
      have HLT := Lib.hid hlt
      clear hR ho hJ4 hk4 d0 d1 d2 d3 d4 d5 d6 d7 d8 d9 d10 hyj
      gi_wp2_with fail
      refine RoundIn.mono (RoundIn.wide HR.out) ?_
      clear HR hy hJ5
      rintro e W4 (⟨rfl, hJ3, hk3⟩ | ⟨rfl, hJx3, hk3⟩)
      · have HN : Hid (J (1 + (j + 1)) W4 ∧ Keeps RR w0 W4 ∧ w0.heap.size ≤ W4.heap.size) := Lib.hid ⟨hJ3, hk5.trans (hk3.keeps HD.out), by have h1 := HM.out.2.2; have h2 := hk3.size; simp at hbz; omega⟩
        clear hJ3 hk3 hk5 hb
        gi_wp2_with fail
        go_roundw
        case rel => exact ⟨j + 1, HLT.out, loop_next1 j, HN⟩
        case measure => exact loop_less1 j _ HLT.out
      · clear hk3 hk5 hb
        gi_wp2_with fail
        refine bodyPost_ret (results_none rfl _ _ _) rfl ?_
        exact ⟨⟨_, rfl⟩, .inr hJx3⟩
    · obtain rfl : j = ss.length := by omega
      have hJ3 := HM.out.1
      have hkk := HM.out.2.1
      have hwk := HM.out.2.2
      obtain ⟨W3, rfl⟩ : ∃ W, W = wr := ⟨wr, rfl⟩
      clear HM hj hlt
      have hbx := HBOX.out W3 hkk
      have x0 := hbx.cell_at 0 rfl
      have x1 := hbx.cell_at 1 rfl
      have x2 := hbx.cell_at 2 rfl
      have x3 := hbx.cell_at 3 rfl
      have x4 := hbx.cell_at 4 rfl
      have x5 := hbx.cell_at 5 rfl
      have x6 := hbx.cell_at 6 rfl
      have x7 := hbx.cell_at 7 rfl
      have x8 := hbx.cell_at 8 rfl
      have x9 := hbx.cell_at 9 rfl
      have x10 := hbx.cell_at 10 rfl
      gi_wp2_with fail
      clear hbx x0 x1 x2 x3 x4 x5 x6 x7 x8 x9 x10
      gi_loopw [32] (fun i wr => ∃ j : Nat, j ≤ gs.length ∧ i = .int .i64 j ∧ Hid (J (1 + ss.length + j) wr ∧ Keeps RR w0 wr ∧ w0.heap.size ≤ wr.heap.size)) (fun i _ => gs.length - (intOf i).toNat)
      case atStart => exact ⟨0, by omega, rfl, Lib.hid ⟨hJ3, hkk, hwk⟩⟩
      case round =>
        clear hJ3 hkk
        obtain ⟨j, hj, rfl, HM⟩ := hrel
        by_cases hlt : j < gs.length
        · have hlt' : (j : Int) < (gs.length : Int) := by omega
          obtain ⟨y, hyj⟩ : ∃ y, gs[j]? = some y := ⟨_, List.getElem?_eq_getElem hlt⟩
          obtain ⟨b2, off2, rfl, _, hc0, hc⟩ := (hL2.keeps HM.out.2.1 HRn.out).nth (n := 2) (fun _ => rfl) (by omega) hyj
          have d0 := hc0 j _ _ hyj rfl
          have d1 := hc j _ 1 _ hyj rfl
          have hJ4 := OwnFrom.grow hJ HM.out.1 (below1 wr (.cells (prtCells y).toArray 72))
          have hk4 := HM.out.2.1.trans (Keeps.below (below1 wr (.cells (prtCells y).toArray 72)))
          clear hc0 hc
          gi_wp2_with fail
          refine ⟨trivial, callsIn_wide.2 ((ofPort_any y.1 y.2 _).mono ?_)⟩
          rintro e w4 ⟨⟨A, c, rfl, ho⟩, hb⟩
          have hJ5 := OwnFrom.grow hJ hJ4 hb
          have hk5 := hk4.trans (Keeps.below hb)
          obtain ⟨fn, tmps, assign, body, hy, hR⟩ := hY (1 + ss.length + j) _ _ w4 (rows_sigs _ hyj) ⟨A, c, rfl, owns_row2 ho, owns_from ho (by have := HM.out.2.2; simp; omega)⟩ hJ5
          have hbz := hb.size
          have HR := Lib.hid hR
          have HLT := Lib.hid hlt
          clear hR ho hJ4 hk4 d0 d1 hyj
          gi_wp2_with fail
          refine RoundIn.mono (RoundIn.wide HR.out) ?_
          clear HR hy hJ5
          rintro e W4 (⟨rfl, hJ3, hk3⟩ | ⟨rfl, hJx3, hk3⟩)
          · have HN : Hid (J (1 + ss.length + (j + 1)) W4 ∧ Keeps RR w0 W4 ∧ w0.heap.size ≤ W4.heap.size) := Lib.hid ⟨hJ3, hk5.trans (hk3.keeps HD.out), by have h1 := HM.out.2.2; have h2 := hk3.size; simp at hbz; omega⟩
            clear hJ3 hk3 hk5 hb
            gi_wp2_with fail
            go_roundw
            case rel => exact ⟨j + 1, HLT.out, loop_next1 j, HN⟩
            case measure => exact loop_less1 j _ HLT.out
          · clear hk3 hk5 hb
            gi_wp2_with fail
            refine bodyPost_ret (results_none rfl _ _ _) rfl ?_
            exact ⟨⟨_, rfl⟩, .inr hJx3⟩
        · obtain rfl : j = gs.length := by omega
          have hJ3 := HM.out.1
          have hkk := HM.out.2.1
          have hwk := HM.out.2.2
          obtain ⟨W3, rfl⟩ : ∃ W, W = wr := ⟨wr, rfl⟩
          clear HM hj hlt
          have hbx := HBOX.out W3 hkk
          have x0 := hbx.cell_at 0 rfl
          have x1 := hbx.cell_at 1 rfl
          have x2 := hbx.cell_at 2 rfl
          have x3 := hbx.cell_at 3 rfl
          have x4 := hbx.cell_at 4 rfl
          have x5 := hbx.cell_at 5 rfl
          have x6 := hbx.cell_at 6 rfl
          have x7 := hbx.cell_at 7 rfl
          have x8 := hbx.cell_at 8 rfl
          have x9 := hbx.cell_at 9 rfl
          have x10 := hbx.cell_at 10 rfl
          gi_wp2_with fail
          clear hbx x0 x1 x2 x3 x4 x5 x6 x7 x8 x9 x10
          gi_loopw [46] (fun i wr => ∃ j : Nat, j ≤ ex.length ∧ i = .int .i64 j ∧ Hid (J (1 + ss.length + gs.length + j) wr ∧ Keeps RR w0 wr ∧ w0.heap.size ≤ wr.heap.size)) (fun i _ => ex.length - (intOf i).toNat)
          case atStart => exact ⟨0, by omega, rfl, Lib.hid ⟨hJ3, hkk, hwk⟩⟩
          case round =>
            clear hJ3 hkk
            obtain ⟨j, hj, rfl, HM⟩ := hrel
            by_cases hlt : j < ex.length
            · have hlt' : (j : Int) < (ex.length : Int) := by omega
              obtain ⟨y, hyj⟩ : ∃ y, ex[j]? = some y := ⟨_, List.getElem?_eq_getElem hlt⟩
              obtain ⟨b2, off2, rfl, _, hc0, hc⟩ := (hL3.keeps HM.out.2.1 HRn.out).nth (n := 3) (fun _ => rfl) (by omega) hyj
              have d0 := hc0 j _ _ hyj rfl
              have d1 := hc j _ 1 _ hyj rfl
              have d2 := hc j _ 2 _ hyj rfl
              have hJ4 := OwnFrom.grow hJ HM.out.1 (below1 wr (.cells y.cells.toArray 51))
              have hk4 := HM.out.2.1.trans (Keeps.below (below1 wr (.cells y.cells.toArray 51)))
              clear hc0 hc
              gi_wp2_with fail
              refine ⟨trivial, callsIn_wide.2 ((ofExit_any y _ (((hL5 y (List.mem_of_getElem? hyj)).keeps hk4 HRn.out).mono (keeps_size hn0 hk4 HRn.out)) (by have := (HFI.out.exits y.pure (List.mem_map.2 ⟨y, List.mem_of_getElem? hyj, rfl⟩)).2.1; exact Nat.le_trans this (by decide))).mono ?_)⟩
              rintro e w4 ⟨⟨A, c, rfl, ho⟩, hb⟩
              have hJ5 := OwnFrom.grow hJ hJ4 hb
              have hk5 := hk4.trans (Keeps.below hb)
              obtain ⟨fn, tmps, assign, body, hy, hR⟩ := hY (1 + ss.length + gs.length + j) _ _ w4 (rows_exits _ (HEX.out _ _ hyj)) ⟨A, c, rfl, owns_row2 ho, owns_from ho (by have := HM.out.2.2; simp; omega)⟩ hJ5
              have hbz := hb.size
              have HR := Lib.hid hR
              have HLT := Lib.hid hlt
              clear hR ho hJ4 hk4 d0 d1 d2 hyj
              gi_wp2_with fail
              refine RoundIn.mono (RoundIn.wide HR.out) ?_
              clear HR hy hJ5
              rintro e W4 (⟨rfl, hJ3, hk3⟩ | ⟨rfl, hJx3, hk3⟩)
              · have HN : Hid (J (1 + ss.length + gs.length + (j + 1)) W4 ∧ Keeps RR w0 W4 ∧ w0.heap.size ≤ W4.heap.size) := Lib.hid ⟨hJ3, hk5.trans (hk3.keeps HD.out), by have h1 := HM.out.2.2; have h2 := hk3.size; simp at hbz; omega⟩
                clear hJ3 hk3 hk5 hb
                gi_wp2_with fail
                go_roundw
                case rel => exact ⟨j + 1, HLT.out, loop_next1 j, HN⟩
                case measure => exact loop_less1 j _ HLT.out
              · clear hk3 hk5 hb
                gi_wp2_with fail
                refine bodyPost_ret (results_none rfl _ _ _) rfl ?_
                exact ⟨⟨_, rfl⟩, .inr hJx3⟩
            · obtain rfl : j = ex.length := by omega
              have hJ3 := HM.out.1
              have hkk := HM.out.2.1
              have hwk := HM.out.2.2
              obtain ⟨W3, rfl⟩ : ∃ W, W = wr := ⟨wr, rfl⟩
              clear HM hj hlt
              have hbx := HBOX.out W3 hkk
              have x0 := hbx.cell_at 0 rfl
              have x1 := hbx.cell_at 1 rfl
              have x2 := hbx.cell_at 2 rfl
              have x3 := hbx.cell_at 3 rfl
              have x4 := hbx.cell_at 4 rfl
              have x5 := hbx.cell_at 5 rfl
              have x6 := hbx.cell_at 6 rfl
              have x7 := hbx.cell_at 7 rfl
              have x8 := hbx.cell_at 8 rfl
              have x9 := hbx.cell_at 9 rfl
              have x10 := hbx.cell_at 10 rfl
              gi_wp2_with fail
              clear hbx x0 x1 x2 x3 x4 x5 x6 x7 x8 x9 x10
              gi_loopw [59] (fun i wr => ∃ j : Nat, j ≤ fs.length ∧ i = .int .i64 j ∧ Hid (J (1 + ss.length + gs.length + ex.length + j) wr ∧ Keeps RR w0 wr ∧ w0.heap.size ≤ wr.heap.size)) (fun i _ => fs.length - (intOf i).toNat)
              case atStart => exact ⟨0, by omega, rfl, Lib.hid ⟨hJ3, hkk, hwk⟩⟩
              case round =>
                clear hJ3 hkk
                obtain ⟨j, hj, rfl, HM⟩ := hrel
                by_cases hlt : j < fs.length
                · have hlt' : (j : Int) < (fs.length : Int) := by omega
                  obtain ⟨y, hyj⟩ : ∃ y, fs[j]? = some y := ⟨_, List.getElem?_eq_getElem hlt⟩
                  obtain ⟨b2, off2, rfl, _, hc0, hc⟩ := (hL4.keeps HM.out.2.1 HRn.out).nth (n := 4) (fun _ => rfl) (by omega) hyj
                  have d0 := hc0 j _ _ hyj rfl
                  have d1 := hc j _ 1 _ hyj rfl
                  have d2 := hc j _ 2 _ hyj rfl
                  have d3 := hc j _ 3 _ hyj rfl
                  have hJ4 := OwnFrom.grow hJ HM.out.1 (below1 wr (.cells (flkCells y).toArray 76))
                  have hk4 := HM.out.2.1.trans (Keeps.below (below1 wr (.cells (flkCells y).toArray 76)))
                  clear hc0 hc
                  gi_wp2_with fail
                  refine ⟨trivial, callsIn_wide.2 ((ofFlank_any y.1 y.2.1 y.2.2.1 y.2.2.2 _).mono ?_)⟩
                  rintro e w4 ⟨⟨A, c, rfl, ho⟩, hb⟩
                  have hJ5 := OwnFrom.grow hJ hJ4 hb
                  have hk5 := hk4.trans (Keeps.below hb)
                  obtain ⟨fn, tmps, assign, body, hy, hR⟩ := hY (1 + ss.length + gs.length + ex.length + j) _ _ w4 (rowsL_flanks _ hyj) ⟨A, c, rfl, owns_row2 ho, owns_from ho (by have := HM.out.2.2; simp; omega)⟩ hJ5
                  have hbz := hb.size
                  have HR := Lib.hid hR
                  have HLT := Lib.hid hlt
                  clear hR ho hJ4 hk4 d0 d1 d2 d3 hyj
                  gi_wp2_with fail
                  refine RoundIn.mono (RoundIn.wide HR.out) ?_
                  clear HR hy hJ5
                  rintro e W4 (⟨rfl, hJ3, hk3⟩ | ⟨rfl, hJx3, hk3⟩)
                  · have HN : Hid (J (1 + ss.length + gs.length + ex.length + (j + 1)) W4 ∧ Keeps RR w0 W4 ∧ w0.heap.size ≤ W4.heap.size) := Lib.hid ⟨hJ3, hk5.trans (hk3.keeps HD.out), by have h1 := HM.out.2.2; have h2 := hk3.size; simp at hbz; omega⟩
                    clear hJ3 hk3 hk5 hb
                    gi_wp2_with fail
                    go_roundw
                    case rel => exact ⟨j + 1, HLT.out, loop_next1 j, HN⟩
                    case measure => exact loop_less1 j _ HLT.out
                  · clear hk3 hk5 hb
                    gi_wp2_with fail
                    refine bodyPost_ret (results_none rfl _ _ _) rfl ?_
                    exact ⟨⟨_, rfl⟩, .inr hJx3⟩
                · obtain rfl : j = fs.length := by omega
                  have hJ3 := HM.out.1
                  have hkk := HM.out.2.1
                  have hwk := HM.out.2.2
                  obtain ⟨W3, rfl⟩ : ∃ W, W = wr := ⟨wr, rfl⟩
                  clear HM hj hlt
                  have hbx := HBOX.out W3 hkk
                  have x0 := hbx.cell_at 0 rfl
                  have x1 := hbx.cell_at 1 rfl
                  have x2 := hbx.cell_at 2 rfl
                  have x3 := hbx.cell_at 3 rfl
                  have x4 := hbx.cell_at 4 rfl
                  have x5 := hbx.cell_at 5 rfl
                  have x6 := hbx.cell_at 6 rfl
                  have x7 := hbx.cell_at 7 rfl
                  have x8 := hbx.cell_at 8 rfl
                  have x9 := hbx.cell_at 9 rfl
                  have x10 := hbx.cell_at 10 rfl
                  gi_wp2_with fail
                  refine ⟨trivial, callsIn_wide.2 ((ofTimes_any a0 a1 a2 a3 a4 a5 a6 W3 (fun t ht => HFI.out.ts t ht)).mono ?_)⟩
                  rintro e w4 ⟨⟨A, c, rfl, ho⟩, hb⟩
                  obtain ⟨nt, hnt⟩ : ∃ n, ([a0, a1, a2, a3, a4, a5, a6].flatMap numsTime).length = n := ⟨_, rfl⟩
                  have hrow := owns_row2 ho
                  rw [hnt]
                  clear hbx x0 x1 x2 x3 x4 x5 x6 x7 x8 x9 x10
                  have hJ5 := OwnFrom.grow hJ hJ3 hb
                  obtain ⟨fn, tmps, assign, body, hy, hR⟩ := hY (1 + ss.length + gs.length + ex.length + fs.length) _ #[.slice A nt c] w4 (HTI.out) ⟨A, c, by rw [hnt], hrow, owns_from ho hwk⟩ hJ5
                  have HR := Lib.hid hR
                  clear hR ho hJ3 hkk hb hrow hnt
                  gi_wp2_with fail
                  refine RoundIn.mono (RoundIn.wide HR.out) ?_
                  clear HR hy hJ5
                  rintro e W4 (⟨rfl, hJ3, hk3⟩ | ⟨rfl, hJx3, hk3⟩)
                  · clear hk3
                    gi_wp2_with fail
                    go_end0
                    exact ⟨⟨_, rfl⟩, .inl (by rw [HLEN.out]; exact hJ3)⟩
                  · clear hk3
                    gi_wp2_with fail
                    go_end0
                    exact ⟨⟨_, rfl⟩, .inr hJx3⟩
end Go.Proofs.YtegflmaobmibnaaGreatDoor
