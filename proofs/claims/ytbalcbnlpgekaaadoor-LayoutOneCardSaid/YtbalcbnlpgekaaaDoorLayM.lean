/- Package slices at a layout's rows: EqualFunc; package layout: Same. -/
import Derived.Test.YtbalcbnlpgekaaaDoorLayL
namespace Go.Proofs.YtbalcbnlpgekaaaDoor
open Go.RowKit Go.Shelf
set_option linter.unusedVariables false
set_option linter.unusedSimpArgs false

section
variable {P : World → Prop} {w : World}
set_option maxRecDepth 100000 in
set_option maxHeartbeats 4000000 in
theorem sameSection_P (hP : Closed P) (x y : Sec) (h : P w) : Calls Tryd.prog 57 #[x.val, y.val] w fun e w' => e = .returned (.bool (decide (x = y))) ∧ P w' := by
  have hp := hP _ _ h (below2 w (.cells x.cells.toArray 39) (.cells y.cells.toArray 39))
  clear hP h
  rw [← Sec.same_eq]
  have e4 : ∀ w : World, (binOp .eql 36 (.agg #[.int .i64 x.s0, .int .i64 x.q0, .int .i64 x.s1, .int .i64 x.q1, .int .i64 x.s2, .int .i64 x.q2, .int .i64 x.s3, .int .i64 x.q3]) (.agg #[.int .i64 y.s0, .int .i64 y.q0, .int .i64 y.s1, .int .i64 y.q1, .int .i64 y.s2, .int .i64 y.q2, .int .i64 y.s3, .int .i64 y.q3])).run Tryd.prog w = .ok (.bool ((x.s0 == y.s0 && x.q0 == y.q0) && ((x.s1 == y.s1 && x.q1 == y.q1) && ((x.s2 == y.s2 && x.q2 == y.q2) && (x.s3 == y.s3 && x.q3 == y.q3))))) w := fun w => by rw [run_eql_struct, eq_arr4 w 9997]; rfl
  have e2 : ∀ w : World, (binOp .eql 37 (.agg #[.int .i64 x.c0, .int .i64 x.c1]) (.agg #[.int .i64 y.c0, .int .i64 y.c1])).run Tryd.prog w = .ok (.bool (x.c0 == y.c0 && x.c1 == y.c1)) w := fun w => by rw [run_eql_struct, eq_arr2 w 9998]; rfl
  unfold Sec.same
  generalize ((x.s0 == y.s0 && x.q0 == y.q0) && ((x.s1 == y.s1 && x.q1 == y.q1) && ((x.s2 == y.s2 && x.q2 == y.q2) && (x.s3 == y.s3 && x.q3 == y.q3)))) = b4 at *
  generalize (x.c0 == y.c0 && x.c1 == y.c1) = b2 at *
  have hcase : (x.k == y.k) = false ∨ (x.k == y.k) = true := by cases (x.k == y.k) <;> simp
  rcases hcase with h1 | h1
  · go_enter Tryd.func57, Tryd.ntmps57
    go_wp2_with fail
    go_ret
    exact ⟨ret_bool (by rw [h1]; rfl), hp⟩
  · cases b4
    all_goals cases b2
    all_goals
      go_enter Tryd.func57, Tryd.ntmps57
      go_wp2_with fail
      go_ret
      exact ⟨ret_bool (by rw [h1]; rfl), hp⟩

set_option maxRecDepth 100000 in
set_option maxHeartbeats 4000000 in
theorem sameExit_P (hP : Closed P) (x y : Exm) (hx : ∀ w, P w → Row w w.heap.size x.A (x.over.flatMap stpCells)) (hy : ∀ w, P w → Row w w.heap.size y.A (y.over.flatMap stpCells)) (hn : (x.over.length : Int) ≤ 9223372036854775807) (h : P w) : Calls Tryd.prog 60 #[x.val, y.val] w fun e w' => e = .returned (.bool (decide (x.pure = y.pure))) ∧ P w' := by
  have hp := hP _ _ h (below2 w (.cells x.cells.toArray 53) (.cells y.cells.toArray 53))
  have HC := Lib.hid (equalStep_P (l := x.over) (m := y.over) hP x.c y.c hx hy hn rfl hp)
  clear hP h hx hy hn
  have e1 : ∀ w : World, (binOp .eql 31 (prtV x.s x.q) (prtV y.s y.q)).run Tryd.prog w = .ok (.bool (x.s == y.s && x.q == y.q)) w := fun w => by rw [run_eql_struct, eq_prt w 9998]; rfl
  have HD : Hid (decide (x.pure = y.pure) = ((x.s == y.s && x.q == y.q) && decide (x.over = y.over))) := Lib.hid (by
    unfold Exm.pure
    rw [Bool.eq_iff_iff]
    simp only [Prod.mk.injEq, decide_eq_true_eq, Bool.and_eq_true, beq_iff_eq, and_assoc])
  rw [HD.out]
  clear HD
  generalize (x.s == y.s && x.q == y.q) = b1 at *
  generalize decide (x.over = y.over) = b2 at *
  cases b1
  · go_enter Tryd.func60, Tryd.ntmps60
    go_wp2_with fail
    go_ret
    exact ⟨rfl, hp⟩
  · go_enter Tryd.func60, Tryd.ntmps60
    go_wp2_with fail
    refine HC.out.mono ?_
    clear hp
    rintro e w1 ⟨rfl, hp⟩
    go_wp2_with fail
    go_ret
    exact ⟨rfl, hp⟩

set_option maxRecDepth 100000 in
set_option maxHeartbeats 8000000 in
theorem equalSections_P (hP : Closed P) {l m : List Sec} {A B : Option Addr} (ca cb : Nat) (hA : ∀ w, P w → Row w w.heap.size A (l.flatMap Sec.cells)) (hB : ∀ w, P w → Row w w.heap.size B (m.flatMap Sec.cells)) (hn : (l.length : Int) ≤ 9223372036854775807)
    (hf : ∀ x ∈ l, ∀ y ∈ m, ∀ w, P w → Calls Tryd.prog 57 #[x.val, y.val] w fun e w' => e = .returned (.bool (decide (id x = id y))) ∧ P w') {r : Bool} (hr : decide (l.map id = m.map id) = r) (h : P w) :
    Calls Tryd.prog 56 #[.slice A l.length ca, .slice B m.length cb, .func (.func 57) #[] #[]] w fun e w' => e = .returned (.bool r) ∧ P w' := by
  have HR := Lib.hid hr
  have HF := Lib.hid hf
  clear hr hf
  by_cases hlen : l.length = m.length
  · have HLe := Lib.hid hlen
    rw [← hlen]
    have hm : ∀ j, j < l.length → j < m.length := fun j hj => hlen ▸ hj
    clear hlen
    go_enter Tryd.func56, Tryd.ntmps56
    go_wp2_with fail
    go_loopw [17] (fun i wr => ∃ j : Nat, j ≤ l.length ∧ i = .int .i64 j ∧ P wr ∧ Hid ((l.take j).map id = (m.take j).map id))
      (fun i _ => l.length - (intOf i).toNat)
    case atStart => exact ⟨0, by omega, rfl, h, Lib.hid rfl⟩
    case round =>
      obtain ⟨j, hj, rfl, hp, HNo⟩ := hrel
      by_cases hlt : j < l.length
      · have hlt' : (j : Int) < l.length := by omega
        obtain ⟨x, hx⟩ : ∃ x, l[j]? = some x := ⟨_, List.getElem?_eq_getElem hlt⟩
        obtain ⟨y, hy⟩ : ∃ y, m[j]? = some y := ⟨_, List.getElem?_eq_getElem (hm j hlt)⟩
        have HX := Lib.hid hx
        have HY := Lib.hid hy
        clear hx hy
        have hp1 := hP _ _ hp (below1 wr (.cells x.cells.toArray 39))
        have hp2 := hP _ _ hp (below2 wr (.cells x.cells.toArray 39) (.cells y.cells.toArray 39))
        have HCall := Lib.hid (HF.out x (List.mem_of_getElem? HX.out) y (List.mem_of_getElem? HY.out) _ hp2)
        obtain ⟨b1, o1, rfl, _, hc0, hc⟩ := (hA _ hp).nth (n := 11) Sec.len (by omega) HX.out
        have c0 := hc0 j x _ HX.out rfl
        have c1 := hc j x 1 _ HX.out rfl
        have c2 := hc j x 2 _ HX.out rfl
        have c3 := hc j x 3 _ HX.out rfl
        have c4 := hc j x 4 _ HX.out rfl
        have c5 := hc j x 5 _ HX.out rfl
        have c6 := hc j x 6 _ HX.out rfl
        have c7 := hc j x 7 _ HX.out rfl
        have c8 := hc j x 8 _ HX.out rfl
        have c9 := hc j x 9 _ HX.out rfl
        have c10 := hc j x 10 _ HX.out rfl
        clear hc0 hc
        obtain ⟨b2, o2, rfl, _, hc0, hc⟩ := (hB _ hp1).nth (n := 11) Sec.len (by omega) HY.out
        have d0 := hc0 j y _ HY.out rfl
        have d1 := hc j y 1 _ HY.out rfl
        have d2 := hc j y 2 _ HY.out rfl
        have d3 := hc j y 3 _ HY.out rfl
        have d4 := hc j y 4 _ HY.out rfl
        have d5 := hc j y 5 _ HY.out rfl
        have d6 := hc j y 6 _ HY.out rfl
        have d7 := hc j y 7 _ HY.out rfl
        have d8 := hc j y 8 _ HY.out rfl
        have d9 := hc j y 9 _ HY.out rfl
        have d10 := hc j y 10 _ HY.out rfl
        clear hc0 hc
        clear hp hp1 hp2
        obtain ⟨b, HB⟩ : ∃ b, Hid (decide (id x = id y) = b) := ⟨_, Lib.hid rfl⟩
        rw [HB.out] at HCall
        go_wp2_with fail
        refine HCall.out.mono ?_
        clear HCall c0 c1 c2 c3 c4 c5 c6 c7 c8 c9 c10 d0 d1 d2 d3 d4 d5 d6 d7 d8 d9 d10
        rintro e w1 ⟨rfl, hp⟩
        cases b
        · have HF : Hid (false = r) := Lib.hid (by
            rw [← HR.out, eq_comm, decide_eq_false_iff_not]
            intro e
            have h1 : (l.map id)[j]? = (m.map id)[j]? := by rw [e]
            rw [List.getElem?_map, List.getElem?_map, HX.out, HY.out] at h1
            have h2 := HB.out
            rw [decide_eq_false_iff_not] at h2
            exact h2 (Option.some.inj h1))
          go_wp2_with fail
          go_ret
          exact ⟨ret_bool HF.out, hp⟩
        · have HN : Hid ((l.take (j + 1)).map id = (m.take (j + 1)).map id) := Lib.hid (by
            rw [take_at HX.out, take_at HY.out, List.map_append, List.map_append, HNo.out]
            have h2 := HB.out
            rw [decide_eq_true_eq] at h2
            simp only [List.map_cons, List.map_nil, h2])
          go_wp2_with fail
          go_roundw
          case rel => exact ⟨j + 1, hlt, by go_num, hp, HN⟩
          case measure => simp [intOf]; omega
      · obtain rfl : j = l.length := by omega
        have HF : Hid (true = r) := Lib.hid (by
          rw [← HR.out, eq_comm, decide_eq_true_eq]
          have := HNo.out
          rw [List.take_length, HLe.out, List.take_length] at this
          exact this)
        go_wp2_with fail
        go_ret
        exact ⟨ret_bool HF.out, hp⟩
  · have HF : Hid (false = r) := Lib.hid (by
      rw [← HR.out, eq_comm, decide_eq_false_iff_not]
      exact fun e => hlen (by have := congrArg List.length e; simpa using this))
    have hlen' : ((l.length : Int) != (m.length : Int)) = true := by rw [bne_iff_ne]; omega
    clear hlen
    go_enter Tryd.func56, Tryd.ntmps56
    go_wp2_with fail
    go_ret
    exact ⟨ret_bool HF.out, h⟩

set_option maxRecDepth 100000 in
set_option maxHeartbeats 8000000 in
theorem equalExits_P (hP : Closed P) {l m : List Exm} {A B : Option Addr} (ca cb : Nat) (hA : ∀ w, P w → Row w w.heap.size A (l.flatMap Exm.cells)) (hB : ∀ w, P w → Row w w.heap.size B (m.flatMap Exm.cells)) (hn : (l.length : Int) ≤ 9223372036854775807)
    (hf : ∀ x ∈ l, ∀ y ∈ m, ∀ w, P w → Calls Tryd.prog 60 #[x.val, y.val] w fun e w' => e = .returned (.bool (decide (Exm.pure x = Exm.pure y))) ∧ P w') {r : Bool} (hr : decide (l.map Exm.pure = m.map Exm.pure) = r) (h : P w) :
    Calls Tryd.prog 59 #[.slice A l.length ca, .slice B m.length cb, .func (.func 60) #[] #[]] w fun e w' => e = .returned (.bool r) ∧ P w' := by
  have HR := Lib.hid hr
  have HF := Lib.hid hf
  clear hr hf
  by_cases hlen : l.length = m.length
  · have HLe := Lib.hid hlen
    rw [← hlen]
    have hm : ∀ j, j < l.length → j < m.length := fun j hj => hlen ▸ hj
    clear hlen
    go_enter Tryd.func59, Tryd.ntmps59
    go_wp2_with fail
    go_loopw [17] (fun i wr => ∃ j : Nat, j ≤ l.length ∧ i = .int .i64 j ∧ P wr ∧ Hid ((l.take j).map Exm.pure = (m.take j).map Exm.pure))
      (fun i _ => l.length - (intOf i).toNat)
    case atStart => exact ⟨0, by omega, rfl, h, Lib.hid rfl⟩
    case round =>
      obtain ⟨j, hj, rfl, hp, HNo⟩ := hrel
      by_cases hlt : j < l.length
      · have hlt' : (j : Int) < l.length := by omega
        obtain ⟨x, hx⟩ : ∃ x, l[j]? = some x := ⟨_, List.getElem?_eq_getElem hlt⟩
        obtain ⟨y, hy⟩ : ∃ y, m[j]? = some y := ⟨_, List.getElem?_eq_getElem (hm j hlt)⟩
        have HX := Lib.hid hx
        have HY := Lib.hid hy
        clear hx hy
        have hp1 := hP _ _ hp (below1 wr (.cells x.cells.toArray 53))
        have hp2 := hP _ _ hp (below2 wr (.cells x.cells.toArray 53) (.cells y.cells.toArray 53))
        have HCall := Lib.hid (HF.out x (List.mem_of_getElem? HX.out) y (List.mem_of_getElem? HY.out) _ hp2)
        obtain ⟨b1, o1, rfl, _, hc0, hc⟩ := (hA _ hp).nth (n := 3) (fun _ => rfl) (by omega) HX.out
        have c0 := hc0 j x _ HX.out rfl
        have c1 := hc j x 1 _ HX.out rfl
        have c2 := hc j x 2 _ HX.out rfl
        clear hc0 hc
        obtain ⟨b2, o2, rfl, _, hc0, hc⟩ := (hB _ hp1).nth (n := 3) (fun _ => rfl) (by omega) HY.out
        have d0 := hc0 j y _ HY.out rfl
        have d1 := hc j y 1 _ HY.out rfl
        have d2 := hc j y 2 _ HY.out rfl
        clear hc0 hc
        clear hp hp1 hp2
        obtain ⟨b, HB⟩ : ∃ b, Hid (decide (Exm.pure x = Exm.pure y) = b) := ⟨_, Lib.hid rfl⟩
        rw [HB.out] at HCall
        go_wp2_with fail
        refine HCall.out.mono ?_
        clear HCall c0 c1 c2 d0 d1 d2
        rintro e w1 ⟨rfl, hp⟩
        cases b
        · have HF : Hid (false = r) := Lib.hid (by
            rw [← HR.out, eq_comm, decide_eq_false_iff_not]
            intro e
            have h1 : (l.map Exm.pure)[j]? = (m.map Exm.pure)[j]? := by rw [e]
            rw [List.getElem?_map, List.getElem?_map, HX.out, HY.out] at h1
            have h2 := HB.out
            rw [decide_eq_false_iff_not] at h2
            exact h2 (Option.some.inj h1))
          go_wp2_with fail
          go_ret
          exact ⟨ret_bool HF.out, hp⟩
        · have HN : Hid ((l.take (j + 1)).map Exm.pure = (m.take (j + 1)).map Exm.pure) := Lib.hid (by
            rw [take_at HX.out, take_at HY.out, List.map_append, List.map_append, HNo.out]
            have h2 := HB.out
            rw [decide_eq_true_eq] at h2
            simp only [List.map_cons, List.map_nil, h2])
          go_wp2_with fail
          go_roundw
          case rel => exact ⟨j + 1, hlt, by go_num, hp, HN⟩
          case measure => simp [intOf]; omega
      · obtain rfl : j = l.length := by omega
        have HF : Hid (true = r) := Lib.hid (by
          rw [← HR.out, eq_comm, decide_eq_true_eq]
          have := HNo.out
          rw [List.take_length, HLe.out, List.take_length] at this
          exact this)
        go_wp2_with fail
        go_ret
        exact ⟨ret_bool HF.out, hp⟩
  · have HF : Hid (false = r) := Lib.hid (by
      rw [← HR.out, eq_comm, decide_eq_false_iff_not]
      exact fun e => hlen (by have := congrArg List.length e; simpa using this))
    have hlen' : ((l.length : Int) != (m.length : Int)) = true := by rw [bne_iff_ne]; omega
    clear hlen
    go_enter Tryd.func59, Tryd.ntmps59
    go_wp2_with fail
    go_ret
    exact ⟨ret_bool HF.out, h⟩

/-- Are two layouts the same in all? -/
def sameV (l m : Lay) : Bool := sameT l m && (decide (l.secs.map id = m.secs.map id) && (decide (l.sigs = m.sigs) && (decide (l.exits.map Exm.pure = m.exits.map Exm.pure) && decide (l.flanks = m.flanks))))
set_option maxRecDepth 100000 in
set_option maxHeartbeats 8000000 in
theorem sameL_P (hP : Closed P) {l m : Lay} (hL : ∀ w, P w → Lies l w) (hM : ∀ w, P w → Lies m w) {r : Bool} (hr : sameV l m = r) (h : P w) : Calls Tryd.prog 20 #[l.val, m.val] w fun e w' => e = .returned (.bool r) ∧ P w' := by
  obtain ⟨Q, HQ, HQp, HQl, HQm, hq⟩ := keep_box2 hP h 29 29 l.cells m.cells
  have l0 := hL _ h
  have m0 := hM _ h
  have eT : ∀ w : World, (binOp .eql 27 l.tval m.tval).run Tryd.prog w = .ok (.bool (sameT l m)) w := fun w => by rw [run_eql_struct, eq_times]; rfl
  have K1 := Lib.hid (fun W (hW : Q W) => equalSections_P (w := W) (l := l.secs) (m := m.secs) HQ.out l.cs m.cs (fun w hw => (hL _ (HQp.out _ hw)).secs) (fun w hw => (hM _ (HQp.out _ hw)).secs) l0.nS (fun x _ y _ w hw => sameSection_P HQ.out x y hw) rfl hW)
  have K2 := Lib.hid (fun W (hW : Q W) => equalSignal_P (w := W) (l := l.sigs) (m := m.sigs) HQ.out l.cg m.cg (fun w hw => (hL _ (HQp.out _ hw)).sigs) (fun w hw => (hM _ (HQp.out _ hw)).sigs) l0.nG rfl hW)
  have K3 := Lib.hid (fun W (hW : Q W) => equalExits_P (w := W) (l := l.exits) (m := m.exits) HQ.out l.ce m.ce (fun w hw => (hL _ (HQp.out _ hw)).exits) (fun w hw => (hM _ (HQp.out _ hw)).exits) l0.nE (fun x hx y hy w hw => sameExit_P HQ.out x y (fun w hw => (hL _ (HQp.out _ hw)).overs x hx) (fun w hw => (hM _ (HQp.out _ hw)).overs y hy) (l0.nO x hx) hw) rfl hW)
  have K4 := Lib.hid (fun W (hW : Q W) => equalFlank_P (w := W) (l := l.flanks) (m := m.flanks) HQ.out l.cf m.cf (fun w hw => (hL _ (HQp.out _ hw)).flanks) (fun w hw => (hM _ (HQp.out _ hw)).flanks) l0.nF rfl hW)
  have HR := Lib.hid hr
  clear hr l0 m0 hL hM h
  unfold sameV at HR
  generalize sameT l m = b0 at *
  generalize decide (l.secs.map id = m.secs.map id) = b1 at *
  generalize decide (l.sigs = m.sigs) = b2 at *
  generalize decide (l.exits.map Exm.pure = m.exits.map Exm.pure) = b3 at *
  generalize decide (l.flanks = m.flanks) = b4 at *
  go_enter Tryd.func20, Tryd.ntmps20
  have hW := hq
  have m0 := HQl.out _ hW
  have x0 := m0.cell_at 0 rfl
  have x1 := m0.cell_at 1 rfl
  have x2 := m0.cell_at 2 rfl
  have x3 := m0.cell_at 3 rfl
  have x4 := m0.cell_at 4 rfl
  have x5 := m0.cell_at 5 rfl
  have x6 := m0.cell_at 6 rfl
  have x7 := m0.cell_at 7 rfl
  have x8 := m0.cell_at 8 rfl
  have x9 := m0.cell_at 9 rfl
  have x10 := m0.cell_at 10 rfl
  clear m0
  have m1 := HQm.out _ hW
  have y0 := m1.cell_at 0 rfl
  have y1 := m1.cell_at 1 rfl
  have y2 := m1.cell_at 2 rfl
  have y3 := m1.cell_at 3 rfl
  have y4 := m1.cell_at 4 rfl
  have y5 := m1.cell_at 5 rfl
  have y6 := m1.cell_at 6 rfl
  have y7 := m1.cell_at 7 rfl
  have y8 := m1.cell_at 8 rfl
  have y9 := m1.cell_at 9 rfl
  have y10 := m1.cell_at 10 rfl
  clear m1
  clear hW
  cases b0
  · go_wp2_with fail
    go_ret
    exact ⟨ret_bool (by rw [← HR.out]; rfl), HQp.out _ hq⟩
  go_wp2_with fail
  refine (K1.out _ hq).mono ?_
  clear hq x0 x1 x2 x3 x4 x5 x6 x7 x8 x9 x10 y0 y1 y2 y3 y4 y5 y6 y7 y8 y9 y10
  rintro e w1 ⟨rfl, hq⟩
  have hW := hq
  have m0 := HQl.out _ hW
  have x0 := m0.cell_at 0 rfl
  have x1 := m0.cell_at 1 rfl
  have x2 := m0.cell_at 2 rfl
  have x3 := m0.cell_at 3 rfl
  have x4 := m0.cell_at 4 rfl
  have x5 := m0.cell_at 5 rfl
  have x6 := m0.cell_at 6 rfl
  have x7 := m0.cell_at 7 rfl
  have x8 := m0.cell_at 8 rfl
  have x9 := m0.cell_at 9 rfl
  have x10 := m0.cell_at 10 rfl
  clear m0
  have m1 := HQm.out _ hW
  have y0 := m1.cell_at 0 rfl
  have y1 := m1.cell_at 1 rfl
  have y2 := m1.cell_at 2 rfl
  have y3 := m1.cell_at 3 rfl
  have y4 := m1.cell_at 4 rfl
  have y5 := m1.cell_at 5 rfl
  have y6 := m1.cell_at 6 rfl
  have y7 := m1.cell_at 7 rfl
  have y8 := m1.cell_at 8 rfl
  have y9 := m1.cell_at 9 rfl
  have y10 := m1.cell_at 10 rfl
  clear m1
  clear hW
  cases b1
  · go_wp2_with fail
    go_ret
    exact ⟨ret_bool (by rw [← HR.out]; rfl), HQp.out _ hq⟩
  go_wp2_with fail
  refine (K2.out _ hq).mono ?_
  clear hq x0 x1 x2 x3 x4 x5 x6 x7 x8 x9 x10 y0 y1 y2 y3 y4 y5 y6 y7 y8 y9 y10
  rintro e w2 ⟨rfl, hq⟩
  have hW := hq
  have m0 := HQl.out _ hW
  have x0 := m0.cell_at 0 rfl
  have x1 := m0.cell_at 1 rfl
  have x2 := m0.cell_at 2 rfl
  have x3 := m0.cell_at 3 rfl
  have x4 := m0.cell_at 4 rfl
  have x5 := m0.cell_at 5 rfl
  have x6 := m0.cell_at 6 rfl
  have x7 := m0.cell_at 7 rfl
  have x8 := m0.cell_at 8 rfl
  have x9 := m0.cell_at 9 rfl
  have x10 := m0.cell_at 10 rfl
  clear m0
  have m1 := HQm.out _ hW
  have y0 := m1.cell_at 0 rfl
  have y1 := m1.cell_at 1 rfl
  have y2 := m1.cell_at 2 rfl
  have y3 := m1.cell_at 3 rfl
  have y4 := m1.cell_at 4 rfl
  have y5 := m1.cell_at 5 rfl
  have y6 := m1.cell_at 6 rfl
  have y7 := m1.cell_at 7 rfl
  have y8 := m1.cell_at 8 rfl
  have y9 := m1.cell_at 9 rfl
  have y10 := m1.cell_at 10 rfl
  clear m1
  clear hW
  cases b2
  · go_wp2_with fail
    go_ret
    exact ⟨ret_bool (by rw [← HR.out]; rfl), HQp.out _ hq⟩
  go_wp2_with fail
  refine (K3.out _ hq).mono ?_
  clear hq x0 x1 x2 x3 x4 x5 x6 x7 x8 x9 x10 y0 y1 y2 y3 y4 y5 y6 y7 y8 y9 y10
  rintro e w3 ⟨rfl, hq⟩
  have hW := hq
  have m0 := HQl.out _ hW
  have x0 := m0.cell_at 0 rfl
  have x1 := m0.cell_at 1 rfl
  have x2 := m0.cell_at 2 rfl
  have x3 := m0.cell_at 3 rfl
  have x4 := m0.cell_at 4 rfl
  have x5 := m0.cell_at 5 rfl
  have x6 := m0.cell_at 6 rfl
  have x7 := m0.cell_at 7 rfl
  have x8 := m0.cell_at 8 rfl
  have x9 := m0.cell_at 9 rfl
  have x10 := m0.cell_at 10 rfl
  clear m0
  have m1 := HQm.out _ hW
  have y0 := m1.cell_at 0 rfl
  have y1 := m1.cell_at 1 rfl
  have y2 := m1.cell_at 2 rfl
  have y3 := m1.cell_at 3 rfl
  have y4 := m1.cell_at 4 rfl
  have y5 := m1.cell_at 5 rfl
  have y6 := m1.cell_at 6 rfl
  have y7 := m1.cell_at 7 rfl
  have y8 := m1.cell_at 8 rfl
  have y9 := m1.cell_at 9 rfl
  have y10 := m1.cell_at 10 rfl
  clear m1
  clear hW
  cases b3
  · go_wp2_with fail
    go_ret
    exact ⟨ret_bool (by rw [← HR.out]; rfl), HQp.out _ hq⟩
  go_wp2_with fail
  refine (K4.out _ hq).mono ?_
  clear hq x0 x1 x2 x3 x4 x5 x6 x7 x8 x9 x10 y0 y1 y2 y3 y4 y5 y6 y7 y8 y9 y10
  rintro e w4 ⟨rfl, hq⟩
  go_wp2_with fail
  go_ret
  exact ⟨ret_bool (by rw [← HR.out]; rfl), HQp.out _ hq⟩
end
end Go.Proofs.YtbalcbnlpgekaaaDoor
