/- The document's own layer 6: Steps, Same. The walk of LayoutTells: package layout says what the document says. -/
import Derived.Test.YtiknjkgioiknnaaDoorQC
import Derived.Test.YtiknjkgioiknnaaDoorQB
namespace Go.Proofs.YtiknjkgioiknnaaDoor
open Go.RowKit Go.Shelf
set_option linter.unusedVariables false
set_option linter.unusedSimpArgs false

theorem ne_of_at {α : Type} {l m : List α} {j : Nat} {x y : α} (hx : l[j]? = some x) (hy : m[j]? = some y) (hne : x ≠ y) : l ≠ m := fun e => by
  subst e
  rw [hx] at hy
  exact hne (Option.some.inj hy)
theorem take_next {α : Type} {l m : List α} {j : Nat} {x : α} (h : l.take j = m.take j) (hx : l[j]? = some x) (hy : m[j]? = some x) : l.take (j + 1) = m.take (j + 1) := by
  rw [List.take_add_one, List.take_add_one, h, hx, hy]
theorem take_done {α : Type} {l m : List α} (hl : l.length = m.length) (h : l.take l.length = m.take l.length) : l = m := by
  rw [List.take_length, hl, List.take_length] at h
  exact h
theorem neq_stpD (w : World) (a b c a' b' c' : Int) : (binOp .neq 53 (stpV a b c) (stpV a' b' c')).run Tryd.prog w = .ok (.bool (!decide ((a, b, c) = (a', b', c')))) w := by
  rw [run_neq_struct, eq_stp]
  have : (a == a' && (b == b' && c == c')) = decide ((a, b, c) = (a', b', c')) := by rw [Bool.eq_iff_iff]; simp
  rw [this]
  rfl
theorem neq_sigD (w : World) (a b a' b' : Int) : (binOp .neq 83 (prtV a b) (prtV a' b')).run Tryd.prog w = .ok (.bool (!decide ((a, b) = (a', b')))) w := by
  rw [run_neq_struct, eq_sig]
  have : (a == a' && b == b') = decide ((a, b) = (a', b')) := by rw [Bool.eq_iff_iff]; simp
  rw [this]
  rfl
theorem neq_flkD (w : World) (a b c d a' b' c' d' : Int) : (binOp .neq 87 (flkV a b c d) (flkV a' b' c' d')).run Tryd.prog w = .ok (.bool (!decide ((a, b, c, d) = (a', b', c', d')))) w := by
  rw [run_neq_struct, eq_flk]
  have : (a == a' && (b == b' && (c == c' && d == d'))) = decide ((a, b, c, d) = (a', b', c', d')) := by rw [Bool.eq_iff_iff]; simp
  rw [this]
  rfl
theorem neq_secD (w : World) (x y : Sec) : (binOp .neq 73 x.val y.val).run Tryd.prog w = .ok (.bool (!decide (x = y))) w := by rw [neq_sec, Sec.same_eq]
theorem neq_prtD (w : World) (a b a' b' : Int) : (binOp .neq 31 (prtV a b) (prtV a' b')).run Tryd.prog w = .ok (.bool (!decide ((a, b) = (a', b')))) w := by
  rw [run_neq_struct, eq_prt w 9998]
  have : (a == a' && b == b') = decide ((a, b) = (a', b')) := by rw [Bool.eq_iff_iff]; simp
  rw [this]
  rfl
theorem neq_timesD (w : World) (l m : Lay) : (binOp .neq 27 l.tval m.tval).run Tryd.prog w = .ok (.bool (!sameT l m)) w := by rw [run_neq_struct, eq_times]; rfl
theorem same_no1 {l m : Lay} (h : l.secs ≠ m.secs) : sameV l m = false := by unfold sameV; rw [decide_eq_false (by simpa using h)]; simp
theorem same_no2 {l m : Lay} (h : l.sigs ≠ m.sigs) : sameV l m = false := by unfold sameV; rw [decide_eq_false h]; simp
theorem same_no3 {l m : Lay} (h : l.exits.map Exm.pure ≠ m.exits.map Exm.pure) : sameV l m = false := by unfold sameV; rw [decide_eq_false h]; simp
theorem same_no4 {l m : Lay} (h : l.flanks ≠ m.flanks) : sameV l m = false := by unfold sameV; rw [decide_eq_false h]; simp
theorem same_no5 {l m : Lay} (h : sameT l m = false) : sameV l m = false := by unfold sameV; rw [h]; rfl
theorem same_yes {l m : Lay} (h0 : sameT l m = true) (h1 : l.secs = m.secs) (h2 : l.sigs = m.sigs) (h3 : l.exits.map Exm.pure = m.exits.map Exm.pure) (h4 : l.flanks = m.flanks) : sameV l m = true := by
  unfold sameV; rw [h0, h1, h2, h3, h4]; simp

section
variable {P : World → Prop} {w : World}
set_option maxRecDepth 100000 in
set_option maxHeartbeats 8000000 in
theorem stepsR_P (hP : Closed P) {a b : List (Int × Int × Int)} {A B : Option Addr} (ca cb : Nat) (hA : ∀ w, P w → Row w w.heap.size A (a.flatMap stpCells)) (hB : ∀ w, P w → Row w w.heap.size B (b.flatMap stpCells)) (hn : (a.length : Int) ≤ 9223372036854775807) {r : Bool} (hr : decide (a = b) = r) (h : P w) :
    Calls Tryd.prog 11 #[.slice A a.length ca, .slice B b.length cb] w fun e w' => e = .returned (.bool r) ∧ P w' := by
  have HR := Lib.hid hr
  have HQ := Lib.hid hP
  have HA0 := Lib.hid hA
  have HB0 := Lib.hid hB
  have hq := h
  clear hr hP hA hB h
  by_cases hlen : a.length = b.length
  · have HLe := Lib.hid hlen
    have hm : ∀ j, j < a.length → j < b.length := fun j hj => hlen ▸ hj
    rw [← hlen]
    clear hlen
    go_enter Tryd.func11, Tryd.ntmps11
    go_wp2_with fail
    go_loopw [5] (fun i wr => ∃ j : Nat, j ≤ a.length ∧ i = .int .i64 j ∧ P wr ∧ Hid (a.take j = b.take j)) (fun i _ => a.length - (intOf i).toNat)
    case atStart => exact ⟨0, by omega, rfl, hq, Lib.hid rfl⟩
    case round =>
      clear hq
      obtain ⟨j, hj, rfl, hq, HNo⟩ := hrel
      by_cases hlt : j < a.length
      · have hlt' : (j : Int) < a.length := by omega
        obtain ⟨⟨x1, x2, x3⟩, hx⟩ : ∃ x, a[j]? = some x := ⟨_, List.getElem?_eq_getElem hlt⟩
        obtain ⟨⟨y1, y2, y3⟩, hy⟩ : ∃ y, b[j]? = some y := ⟨_, List.getElem?_eq_getElem (hm j hlt)⟩
        obtain ⟨o1, o2, HA, HC0, HC⟩ := row_at (n := 3) (fun _ => rfl) (by omega) HA0.out hq hx
        obtain ⟨p1, p2, HB, HD0, HD⟩ := row_at (n := 3) (fun _ => rfl) (by omega) HB0.out hq hy
        have HX := Lib.hid hx
        have HY := Lib.hid hy
        clear hx hy
        obtain rfl := HA.out
        obtain rfl := HB.out
        clear HA HB
        obtain ⟨bb, hbb⟩ : ∃ z, decide ((x1, x2, x3) = (y1, y2, y3)) = z := ⟨_, rfl⟩
        have hneq := fun W => neq_stpD W x1 x2 x3 y1 y2 y3
        rw [hbb] at hneq
        cases bb
        · have HF : Hid (false = r) := Lib.hid (by rw [← HR.out]; exact (decide_eq_false (ne_of_at HX.out HY.out (of_decide_eq_false hbb))).symm)
          clear hbb
          go_wp2_with fail
          have HBS : Hid (∀ W, Below wr.heap.size wr W → P W) := Lib.hid (fun W hB => HQ.out _ _ hq hB)
          clear hq
          refine region_mix (Below wr.heap.size wr) [(0, false), (1, false), (2, false), (3, false), (4, false), (5, false), (6, false), (7, false), (8, false)] (by kernel_rfl) (by kernel_rfl) (Below wr.heap.size wr) ⟨Closed.below wr, fun _ h => h⟩ (Below.refl _ _).drew ?_
          simp only [pickOps, List.getElem?_cons_zero, List.getElem?_cons_succ]
          repeat (first | (refine mix_skip (by rfl) ?_; simp only [Act.put, List.setIfInBounds_toArray, List.set_cons_zero, List.set_cons_succ]) | (refine mix_read _ (by rfl) (fun W hW => by (have hW := HBS.out W hW; have c0 := HC0.out _ hW j _ _ HX.out rfl; have c1 := HC.out _ hW j _ 1 _ HX.out rfl; have c2 := HC.out _ hW j _ 2 _ HX.out rfl; have d0 := HD0.out _ hW j _ _ HY.out rfl; have d1 := HD.out _ hW j _ 1 _ HY.out rfl; have d2 := HD.out _ hW j _ 2 _ HY.out rfl; go_simp; first | done | with_reducible rfl)) ?_; simp only [Act.put, List.setIfInBounds_toArray, List.set_cons_zero, List.set_cons_succ]))
          refine mix_nil (fun W hW => ?_)
          have hq := HBS.out W hW
          clear hW HBS
          go_wp2_with fail
          go_ret
          exact ⟨ret_bool HF.out, hq⟩
        · have HN : Hid (a.take (j + 1) = b.take (j + 1)) := Lib.hid (take_next HNo.out HX.out (by rw [of_decide_eq_true hbb]; exact HY.out))
          clear hbb
          go_wp2_with fail
          have HBS : Hid (∀ W, Below wr.heap.size wr W → P W) := Lib.hid (fun W hB => HQ.out _ _ hq hB)
          clear hq
          refine region_mix (Below wr.heap.size wr) [(0, false), (1, false), (2, false), (3, false), (4, false), (5, false), (6, false), (7, false), (8, false)] (by kernel_rfl) (by kernel_rfl) (Below wr.heap.size wr) ⟨Closed.below wr, fun _ h => h⟩ (Below.refl _ _).drew ?_
          simp only [pickOps, List.getElem?_cons_zero, List.getElem?_cons_succ]
          repeat (first | (refine mix_skip (by rfl) ?_; simp only [Act.put, List.setIfInBounds_toArray, List.set_cons_zero, List.set_cons_succ]) | (refine mix_read _ (by rfl) (fun W hW => by (have hW := HBS.out W hW; have c0 := HC0.out _ hW j _ _ HX.out rfl; have c1 := HC.out _ hW j _ 1 _ HX.out rfl; have c2 := HC.out _ hW j _ 2 _ HX.out rfl; have d0 := HD0.out _ hW j _ _ HY.out rfl; have d1 := HD.out _ hW j _ 1 _ HY.out rfl; have d2 := HD.out _ hW j _ 2 _ HY.out rfl; go_simp; first | done | with_reducible rfl)) ?_; simp only [Act.put, List.setIfInBounds_toArray, List.set_cons_zero, List.set_cons_succ]))
          refine mix_nil (fun W hW => ?_)
          have hq := HBS.out W hW
          clear hW HBS
          go_wp2_with fail
          go_roundw
          case rel => exact ⟨j + 1, hlt, by go_num, hq, HN⟩
          case measure => simp [intOf]; omega
      · obtain rfl : j = a.length := by omega
        have HF : Hid (true = r) := Lib.hid (by rw [← HR.out]; exact (decide_eq_true (take_done HLe.out HNo.out)).symm)
        go_wp2_with fail
        go_ret
        exact ⟨ret_bool HF.out, hq⟩
  · have HF : Hid (false = r) := Lib.hid (by rw [← HR.out]; exact (decide_eq_false (fun e => hlen (by rw [e]))).symm)
    have hlen' : ((a.length : Int) != (b.length : Int)) = true := by rw [bne_iff_ne]; omega
    clear hlen
    go_enter Tryd.func11, Tryd.ntmps11
    go_wp2_with fail
    go_ret
    exact ⟨ret_bool HF.out, hq⟩
end
theorem stepsR_B {w : World} {a b : List (Int × Int × Int)} {A B : Option Addr} (ca cb : Nat) (hA : Row w w.heap.size A (a.flatMap stpCells)) (hB : Row w w.heap.size B (b.flatMap stpCells)) (hn : (a.length : Int) ≤ 9223372036854775807) {r : Bool} (hr : decide (a = b) = r) :
    Calls Tryd.prog 11 #[.slice A a.length ca, .slice B b.length cb] w fun e w' => e = .returned (.bool r) ∧ Below w.heap.size w w' :=
  stepsR_P (P := fun W => Below w.heap.size w W) (Closed.below w) ca cb (fun W h => hA.on h) (fun W h => hB.on h) hn hr (Below.refl _ _)

section
variable {P : World → Prop} {w : World}
end
end Go.Proofs.YtiknjkgioiknnaaDoor
namespace Go.Proofs.YtiknjkgioiknnaaDoor
open Go.RowKit Go.Shelf
set_option linter.unusedVariables false
set_option linter.unusedSimpArgs false

theorem keep_box4 {P : World → Prop} (hP : Closed P) {w : World} (h : P w) (t0 t1 t2 t3 : TypeId) (v0 v1 v2 v3 : List Value) :
    ∃ Q : World → Prop, Hid (Closed Q) ∧ Hid (∀ W, Q W → P W) ∧ Hid (∀ W, Q W → Whole W w.heap.size t0 v0) ∧ Hid (∀ W, Q W → Whole W (w.heap.size + 1) t1 v1) ∧ Hid (∀ W, Q W → Whole W (w.heap.size + 1 + 1) t2 v2) ∧ Hid (∀ W, Q W → Whole W (w.heap.size + 1 + 1 + 1) t3 v3) ∧
      Q ((((w.alloc (.cells v0.toArray t0)).alloc (.cells v1.toArray t1)).alloc (.cells v2.toArray t2)).alloc (.cells v3.toArray t3)) :=
  ⟨fun W => (((P W ∧ Whole W w.heap.size t0 v0) ∧ Whole W (w.heap.size + 1) t1 v1) ∧ Whole W (w.heap.size + 1 + 1) t2 v2) ∧ Whole W (w.heap.size + 1 + 1 + 1) t3 v3,
   Lib.hid ((((hP.and (Closed.whole _ t0 v0)).and (Closed.whole _ t1 v1)).and (Closed.whole _ t2 v2)).and (Closed.whole _ t3 v3)), Lib.hid (fun _ h => h.1.1.1.1), Lib.hid (fun _ h => h.1.1.1.2), Lib.hid (fun _ h => h.1.1.2), Lib.hid (fun _ h => h.1.2), Lib.hid (fun _ h => h.2),
   ⟨⟨⟨hP _ _ h ((below3 w _ _ _).alloc (by simp; omega) _), (((Whole.new w t0 v0).alloc _).alloc _).alloc _⟩, ((Whole.new_at _ t1 v1 _ (by simp)).alloc _).alloc _⟩, (Whole.new_at _ t2 v2 _ (by simp)).alloc _⟩, Whole.new_at _ t3 v3 _ (by simp)⟩
section
variable {l : Lay} {w : World}
theorem rightR_B (hL : Lies l w) {r : Bool} (hr : rightL l = r) : Calls Tryd.prog 25 #[l.val] w fun e w' => e = .returned (.bool r) ∧ Below w.heap.size w w' :=
  rightR1_P (P := fun W => Below w.heap.size w W) (Closed.below w) (fun W h => Lies.closed l _ _ hL h) ((rightR_eq l).trans hr) (Below.refl _ _)
end
section
variable {P : Program} {ops : Array Oper} {B S : World → Prop} {L : (World → Prop) → Act → Prop} {o : Oper} {l : List (Oper × Bool)} {a : Act}
/-- A call of what only this kind of world tells: it comes alone. -/
theorem mix_ask (f : FuncId) (args : Array Value) (v : Value) (hF : Fam B S) (hw : Region.wanted o (yielded ops a.tmps) = true) (hv : ∀ w, S w → (execOp a.eval o).run P w = .ok (.enter f args) w)
    (hc : ∀ w, S w → Calls P f args w fun e w' => e = .returned v ∧ Below w.heap.size w w') (h : wpMix P ops (Fam B) L l S (a.put o.dst v)) : wpMix P ops (Fam B) L ((o, true) :: l) S a :=
  ⟨hw, fun w hS => by
    unfold Oper.wp
    rw [hv w hS]
    refine (hc w hS).mono ?_
    rintro e w' ⟨rfl, hb⟩
    exact ⟨v, S, rfl, hF, hF.1 _ _ hS hb, h⟩⟩
end
end Go.Proofs.YtiknjkgioiknnaaDoor
