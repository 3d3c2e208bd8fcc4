/- Rows of needs: where a point is wanted; the same needs? By package need, and by the document's own answer. -/
import Derived.BigQuiet
import Derived.Test.YtbdbgoploednbaaDoorQNeeP
import Derived.Test.YtbdbgoploednbaaDoorQBeN
import Derived.Test.YtbdbgoploednbaaDoorQC
import Derived.Test.YtbdbgoploednbaaDoorQB
namespace Go.Proofs.YtbdbgoploednbaaDoor
open Go.RowKit Go.Shelf
set_option linter.unusedVariables false
set_option linter.unusedSimpArgs false
set_option maxRecDepth 100000

/-- Where a point is wanted, and whether. -/
def at13 (ns : List (Int × Int × Int)) (p : Int) : Int × Bool := ((atN ns p).map fun a => (a.2.1, true)).getD (0, false)
theorem at13_hit {ns : List (Int × Int × Int)} {p : Int} {j : Nat} {x : Int × Int × Int} (h : NoneUp (fun a => a.1 == p) ns j) (hx : ns[j]? = some x) (hp : (x.1 == p) = true) : at13 ns p = (x.2.1, true) := by
  obtain ⟨hj, rfl⟩ := List.getElem?_eq_some_iff.1 hx
  have : atN ns p = some ns[j] := by
    unfold atN
    rw [List.find?_eq_some_iff_getElem]
    refine ⟨hp, j, hj, rfl, fun i hi => ?_⟩
    have := h i ns[i] hi (List.getElem?_eq_getElem (by omega))
    simp at this
    simpa using this
  unfold at13
  rw [this]
  rfl
theorem at13_miss {ns : List (Int × Int × Int)} {p : Int} (h : NoneUp (fun a => a.1 == p) ns ns.length) : at13 ns p = (0, false) := by
  have : atN ns p = none := by
    rw [at_none]
    intro a ha e
    obtain ⟨j, hj⟩ := List.getElem?_of_mem ha
    have := h j a (List.getElem?_eq_some_iff.1 hj).1 hj
    simp [e] at this
  unfold at13
  rw [this]
  rfl
section
variable {P : World → Prop} {w : World}
set_option maxRecDepth 100000 in
set_option maxHeartbeats 32000000 in
theorem atB_P (hP : Closed P) {ns : List (Int × Int × Int)} {A : Option Addr} (c : Nat) (hA : ∀ w, P w → Row w w.heap.size A (ns.flatMap needCells)) (hn : (ns.length : Int) ≤ 9223372036854775807) (p : Int) {x : Int} {ok : Bool} (hr : at13 ns p = (x, ok)) (h : P w) :
    Calls Tryd.prog 10 #[.slice A ns.length c, .int .i64 p] w fun e w' => e = .returned (.tuple #[.int .i64 x, .bool ok]) ∧ P w' := by
  have HR := Lib.hid hr
  have HQ := Lib.hid hP
  have HA0 := Lib.hid hA
  have hq := h
  clear hr hP hA h
  go_enter Tryd.func10, Tryd.ntmps10
  go_wp2_with fail
  refine wp_scope_fwd (l := 0) rfl ?_
  go_wp2_with fail
  go_loopw [10] (fun i wr => ∃ j : Nat, j ≤ ns.length ∧ i = .int .i64 j ∧ P wr ∧ Hid (NoneUp (fun a => a.1 == p) ns j)) (fun i _ => ns.length - (intOf i).toNat)
  case atStart => exact ⟨0, by omega, rfl, hq, Lib.hid (NoneUp.zero _ _)⟩
  case round =>
    clear hq
    obtain ⟨j, hj, rfl, hq, HNo⟩ := hrel
    by_cases hlt : j < ns.length
    · have hlt' : (j : Int) < ns.length := by omega
      obtain ⟨⟨x1, x2, x3⟩, hx⟩ : ∃ x, ns[j]? = some x := ⟨_, List.getElem?_eq_getElem hlt⟩
      obtain ⟨o1, o2, HA, HC0, HC⟩ := row_at (n := 3) (fun _ => rfl) (by omega) HA0.out hq hx
      have HX := Lib.hid hx
      clear hx
      obtain rfl := HA.out
      clear HA
      have c0 := HC0.out _ hq j _ _ HX.out rfl
      have c1 := HC.out _ hq j _ 1 _ HX.out rfl
      have c2 := HC.out _ hq j _ 2 _ HX.out rfl
      have hq2 := HQ.out _ _ hq (below1 wr (.cells #[.int .i64 x1, .int .i64 x2, .int .i64 x3] 46))
      have HQ2 := Lib.hid hq2
      clear hq2 hq
      cases he : (x1 == p)
      · have HN := Lib.hid (HNo.out.succ HX.out he)
        go_wp2_with fail
        go_roundw
        case rel => exact ⟨j + 1, hlt, by go_num, HQ2.out, HN⟩
        case measure => simp [intOf]; omega
      · have HF : Hid (x2 = x ∧ true = ok) := Lib.hid (by
          have := (at13_hit HNo.out HX.out he).symm.trans HR.out
          exact ⟨congrArg Prod.fst this, congrArg Prod.snd this⟩)
        go_wp2_with fail
        go_step3
        simp +zetaDelta only [Exit.inBlock, Exit.then, fwd_goto]
        refine ⟨trivial, ?_⟩
        go_wp2_with fail
        rw [Exit.noGoto_ret]
        go_ret2
        obtain ⟨rfl, rfl⟩ := HF.out
        exact ⟨rfl, HQ2.out⟩
    · obtain rfl : j = ns.length := by omega
      have HF : Hid (0 = x ∧ false = ok) := Lib.hid (by
        have := (at13_miss HNo.out).symm.trans HR.out
        exact ⟨congrArg Prod.fst this, congrArg Prod.snd this⟩)
      go_wp2_with fail
      try rw [fwd_ret]
      go_ret2
      obtain ⟨rfl, rfl⟩ := HF.out
      exact ⟨rfl, hq⟩

set_option maxRecDepth 100000 in
set_option maxHeartbeats 32000000 in
theorem atR_P13 (hP : Closed P) {ns : List (Int × Int × Int)} {A : Option Addr} (c : Nat) (hA : ∀ w, P w → Row w w.heap.size A (ns.flatMap needCells)) (hn : (ns.length : Int) ≤ 9223372036854775807) (p : Int) {x : Int} {ok : Bool} (hr : at13 ns p = (x, ok)) (h : P w) :
    Calls Tryd.prog 11 #[.slice A ns.length c, .int .i64 p] w fun e w' => e = .returned (.tuple #[.int .i64 x, .bool ok]) ∧ P w' := by
  have HR := Lib.hid hr
  have HQ := Lib.hid hP
  have HA0 := Lib.hid hA
  have hq := h
  clear hr hP hA h
  go_enter Tryd.func11, Tryd.ntmps11
  go_wp2_with fail
  go_loopw [6] (fun i wr => ∃ j : Nat, j ≤ ns.length ∧ i = .int .i64 j ∧ P wr ∧ Hid (NoneUp (fun a => a.1 == p) ns j)) (fun i _ => ns.length - (intOf i).toNat)
  case atStart => exact ⟨0, by omega, rfl, hq, Lib.hid (NoneUp.zero _ _)⟩
  case round =>
    clear hq
    obtain ⟨j, hj, rfl, hq, HNo⟩ := hrel
    by_cases hlt : j < ns.length
    · have hlt' : (j : Int) < ns.length := by omega
      obtain ⟨⟨x1, x2, x3⟩, hx⟩ : ∃ x, ns[j]? = some x := ⟨_, List.getElem?_eq_getElem hlt⟩
      obtain ⟨o1, o2, HA, HC0, HC⟩ := row_at (n := 3) (fun _ => rfl) (by omega) HA0.out hq hx
      have HX := Lib.hid hx
      clear hx
      obtain rfl := HA.out
      clear HA
      have c0 := HC0.out _ hq j _ _ HX.out rfl
      have c1 := HC.out _ hq j _ 1 _ HX.out rfl
      have c2 := HC.out _ hq j _ 2 _ HX.out rfl
      have hq2 := hq
      have HQ2 := Lib.hid hq2
      clear hq2 hq
      cases he : (x1 == p)
      · have HN := Lib.hid (HNo.out.succ HX.out he)
        go_wp2_with fail
        go_roundw
        case rel => exact ⟨j + 1, hlt, by go_num, HQ2.out, HN⟩
        case measure => simp [intOf]; omega
      · have HF : Hid (x2 = x ∧ true = ok) := Lib.hid (by
          have := (at13_hit HNo.out HX.out he).symm.trans HR.out
          exact ⟨congrArg Prod.fst this, congrArg Prod.snd this⟩)
        go_wp2_with fail
        go_ret2
        obtain ⟨rfl, rfl⟩ := HF.out
        exact ⟨rfl, HQ2.out⟩
    · obtain rfl : j = ns.length := by omega
      have HF : Hid (0 = x ∧ false = ok) := Lib.hid (by
        have := (at13_miss HNo.out).symm.trans HR.out
        exact ⟨congrArg Prod.fst this, congrArg Prod.snd this⟩)
      go_wp2_with fail
      go_ret2
      obtain ⟨rfl, rfl⟩ := HF.out
      exact ⟨rfl, hq⟩

set_option maxRecDepth 100000 in
set_option maxHeartbeats 32000000 in
theorem equalNeed_P (hP : Closed P) {l m : List (Int × Int × Int)} {A B : Option Addr} (ca cb : Nat) (hA : ∀ w, P w → Row w w.heap.size A (l.flatMap needCells)) (hB : ∀ w, P w → Row w w.heap.size B (m.flatMap needCells)) (hn : (l.length : Int) ≤ 9223372036854775807) {r : Bool} (hr : decide (l = m) = r) (h : P w) :
    Calls Tryd.prog 34 #[.slice A l.length ca, .slice B m.length cb] w fun e w' => e = .returned (.bool r) ∧ P w' := by
  have HR := Lib.hid hr
  clear hr
  by_cases hlen : l.length = m.length
  · have HLe := Lib.hid hlen
    rw [← hlen]
    have hm : ∀ j, j < l.length → j < m.length := fun j hj => hlen ▸ hj
    clear hlen
    go_enter Tryd.func34, Tryd.ntmps34
    go_wp2_with fail
    go_loopw [13] (fun i wr => ∃ j : Nat, j ≤ l.length ∧ i = .int .i64 j ∧ P wr ∧ Hid (l.take j = m.take j))
      (fun i _ => l.length - (intOf i).toNat)
    case atStart => exact ⟨0, by omega, rfl, h, Lib.hid rfl⟩
    case round =>
      obtain ⟨j, hj, rfl, hp, HNo⟩ := hrel
      by_cases hlt : j < l.length
      · have hlt' : (j : Int) < l.length := by omega
        obtain ⟨x, hx⟩ : ∃ x, l[j]? = some x := ⟨_, List.getElem?_eq_getElem hlt⟩
        obtain ⟨y, hy⟩ : ∃ y, m[j]? = some y := ⟨_, List.getElem?_eq_getElem (hm j hlt)⟩
        have HX := Lib.hid hx
        have HY := Lib.hid hy
        clear hx hy
        obtain ⟨b1, o1, rfl, _, hc0, hc⟩ := (hA _ hp).nth (n := 3) (fun _ => rfl) (by omega) HX.out
        have c0 := hc0 j x _ HX.out rfl
        have c1 := hc j x 1 _ HX.out rfl
        have c2 := hc j x 2 _ HX.out rfl
        clear hc0 hc
        obtain ⟨b2, o2, rfl, _, hc0, hc⟩ := (hB _ hp).nth (n := 3) (fun _ => rfl) (by omega) HY.out
        have d0 := hc0 j y _ HY.out rfl
        have d1 := hc j y 1 _ HY.out rfl
        have d2 := hc j y 2 _ HY.out rfl
        clear hc0 hc
        obtain ⟨b, HB⟩ : ∃ b, Hid ((fun x y : Int × Int × Int => x.1 == y.1 && (x.2.1 == y.2.1 && x.2.2 == y.2.2)) x y = b) := ⟨_, Lib.hid rfl⟩
        have hne : ∀ w : World, (binOp .neq 46 (stpV x.1 x.2.1 x.2.2) (stpV y.1 y.2.1 y.2.2)).run Tryd.prog w = .ok (.bool (!b)) w := fun w => by rw [run_neq_struct, eq_need w x.1 x.2.1 x.2.2 y.1 y.2.1 y.2.2, ← HB.out]; rfl
        have HPd := Lib.hid (fun n => hP _ _ hp (below_drawn (Below.refl _ wr) n))
        cases b
        · have HF : Hid (false = r) := Lib.hid (by
            rw [← HR.out, eq_comm, decide_eq_false_iff_not]
            intro e
            subst e
            have := HX.out.symm.trans HY.out
            cases this
            have := HB.out
            simp at this)
          go_wp2_with fail
          go_quiet (fail)
          go_wp2_with fail
          go_ret
          exact ⟨ret_bool HF.out, HPd.out _⟩
        · have HN : Hid (l.take (j + 1) = m.take (j + 1)) := Lib.hid (by
            rw [take_at HX.out, take_at HY.out, HNo.out]
            have hxy : x = y := by
              have := HB.out
              simp only [Bool.and_eq_true, beq_iff_eq] at this
              exact Prod.ext this.1 (Prod.ext this.2.1 this.2.2)
            rw [hxy])
          go_wp2_with fail
          go_quiet (fail)
          go_wp2_with fail
          go_roundw
          case rel => exact ⟨j + 1, hlt, by go_num, HPd.out _, HN⟩
          case measure => simp [intOf]; omega
      · obtain rfl : j = l.length := by omega
        have HF : Hid (true = r) := Lib.hid (by
          rw [← HR.out, eq_comm, decide_eq_true_eq]
          have := HNo.out
          rw [List.take_length, HLe.out, List.take_length] at this
          exact this)
        go_wp2_with fail
        go_ret
        exact ⟨ret_bool HF.out, hp⟩
  · have HF : Hid (false = r) := Lib.hid (by
      rw [← HR.out, eq_comm, decide_eq_false_iff_not]
      exact fun e => hlen (by rw [e]))
    have hlen' : ((l.length : Int) != (m.length : Int)) = true := by rw [bne_iff_ne]; omega
    clear hlen
    go_enter Tryd.func34, Tryd.ntmps34
    go_wp2_with fail
    go_ret
    exact ⟨ret_bool HF.out, h⟩
set_option maxRecDepth 100000 in
set_option maxHeartbeats 32000000 in
theorem sameB_P (hP : Closed P) {a b : List (Int × Int × Int)} {A Bv : Option Addr} (ca cb : Nat) (hA : ∀ w, P w → Row w w.heap.size A (a.flatMap needCells)) (hB : ∀ w, P w → Row w w.heap.size Bv (b.flatMap needCells)) (hn : (a.length : Int) ≤ 9223372036854775807) {r : Bool} (hr : decide (a = b) = r) (h : P w) :
    Calls Tryd.prog 21 #[.slice A a.length ca, .slice Bv b.length cb] w fun e w' => e = .returned (.bool r) ∧ P w' := by
  have K := Lib.hid (equalNeed_P (P := P) (w := w) hP ca cb hA hB hn hr h)
  clear hr h hA hB hP
  go_enter Tryd.func21, Tryd.ntmps21
  go_wp2_with fail
  refine K.out.mono ?_
  rintro e w1 ⟨rfl, hq⟩
  go_wp2_with fail
  go_ret
  exact ⟨rfl, hq⟩
end
section
variable {P : World → Prop} {w : World}
set_option maxRecDepth 100000 in
set_option maxHeartbeats 8000000 in
theorem same13R_P (hP : Closed P) {a b : List (Int × Int × Int)} {A B : Option Addr} (ca cb : Nat) (hA : ∀ w, P w → Row w w.heap.size A (a.flatMap needCells)) (hB : ∀ w, P w → Row w w.heap.size B (b.flatMap needCells)) (hn : (a.length : Int) ≤ 9223372036854775807) {r : Bool} (hr : decide (a = b) = r) (h : P w) :
    Calls Tryd.prog 14 #[.slice A a.length ca, .slice B b.length cb] w fun e w' => e = .returned (.bool r) ∧ P w' := by
  have HR := Lib.hid hr
  have HQ := Lib.hid hP
  have HA0 := Lib.hid hA
  have HB0 := Lib.hid hB
  have hq := h
  clear hr hP hA hB h
  by_cases hlen : a.length = b.length
  · have HLe := Lib.hid hlen
    have hm : ∀ j, j < a.length → j < b.length := fun j hj => hlen ▸ hj
    rw [← hlen]
    clear hlen
    go_enter Tryd.func14, Tryd.ntmps14
    go_wp2_with fail
    go_loopw [5] (fun i wr => ∃ j : Nat, j ≤ a.length ∧ i = .int .i64 j ∧ P wr ∧ Hid (a.take j = b.take j)) (fun i _ => a.length - (intOf i).toNat)
    case atStart => exact ⟨0, by omega, rfl, hq, Lib.hid rfl⟩
    case round =>
      clear hq
      obtain ⟨j, hj, rfl, hq, HNo⟩ := hrel
      by_cases hlt : j < a.length
      · have hlt' : (j : Int) < a.length := by omega
        obtain ⟨⟨x1, x2, x3⟩, hx⟩ : ∃ x, a[j]? = some x := ⟨_, List.getElem?_eq_getElem hlt⟩
        obtain ⟨⟨y1, y2, y3⟩, hy⟩ : ∃ y, b[j]? = some y := ⟨_, List.getElem?_eq_getElem (hm j hlt)⟩
        obtain ⟨o1, o2, HA, HC0, HC⟩ := row_at (n := 3) (fun _ => rfl) (by omega) HA0.out hq hx
        obtain ⟨p1, p2, HB, HD0, HD⟩ := row_at (n := 3) (fun _ => rfl) (by omega) HB0.out hq hy
        have HX := Lib.hid hx
        have HY := Lib.hid hy
        clear hx hy
        obtain rfl := HA.out
        obtain rfl := HB.out
        clear HA HB
        obtain ⟨bb, hbb⟩ : ∃ z, decide ((x1, x2, x3) = (y1, y2, y3)) = z := ⟨_, rfl⟩
        have hneq := fun W => neq_needD W x1 x2 x3 y1 y2 y3
        rw [hbb] at hneq
        cases bb
        · have HF : Hid (false = r) := Lib.hid (by rw [← HR.out]; exact (decide_eq_false (ne_of_at HX.out HY.out (of_decide_eq_false hbb))).symm)
          clear hbb
          go_wp2_with fail
          have HBS : Hid (∀ W, Below wr.heap.size wr W → P W) := Lib.hid (fun W hB => HQ.out _ _ hq hB)
          clear hq
          refine region_mix (Below wr.heap.size wr) [(0, false), (1, false), (2, false), (3, false), (4, false), (5, false), (6, false), (7, false), (8, false)] (by kernel_rfl) (by kernel_rfl) (Below wr.heap.size wr) ⟨Closed.below wr, fun _ h => h⟩ (Below.refl _ _).drew ?_
          simp only [pickOps, List.getElem?_cons_zero, List.getElem?_cons_succ]
          repeat (first | (refine mix_skip (by rfl) ?_; simp only [Act.put, List.setIfInBounds_toArray, List.set_cons_zero, List.set_cons_succ]) | (refine mix_read _ (by rfl) (fun W hW => by (have hW := HBS.out W hW; have c0 := HC0.out _ hW j _ _ HX.out rfl; have c1 := HC.out _ hW j _ 1 _ HX.out rfl; have c2 := HC.out _ hW j _ 2 _ HX.out rfl; have d0 := HD0.out _ hW j _ _ HY.out rfl; have d1 := HD.out _ hW j _ 1 _ HY.out rfl; have d2 := HD.out _ hW j _ 2 _ HY.out rfl; go_simp; first | done | with_reducible rfl)) ?_; simp only [Act.put, List.setIfInBounds_toArray, List.set_cons_zero, List.set_cons_succ]))
          refine mix_nil (fun W hW => ?_)
          have hq := HBS.out W hW
          clear hW HBS
          go_wp2_with fail
          go_ret
          exact ⟨ret_bool HF.out, hq⟩
        · have HN : Hid (a.take (j + 1) = b.take (j + 1)) := Lib.hid (take_next HNo.out HX.out (by rw [of_decide_eq_true hbb]; exact HY.out))
          clear hbb
          go_wp2_with fail
          have HBS : Hid (∀ W, Below wr.heap.size wr W → P W) := Lib.hid (fun W hB => HQ.out _ _ hq hB)
          clear hq
          refine region_mix (Below wr.heap.size wr) [(0, false), (1, false), (2, false), (3, false), (4, false), (5, false), (6, false), (7, false), (8, false)] (by kernel_rfl) (by kernel_rfl) (Below wr.heap.size wr) ⟨Closed.below wr, fun _ h => h⟩ (Below.refl _ _).drew ?_
          simp only [pickOps, List.getElem?_cons_zero, List.getElem?_cons_succ]
          repeat (first | (refine mix_skip (by rfl) ?_; simp only [Act.put, List.setIfInBounds_toArray, List.set_cons_zero, List.set_cons_succ]) | (refine mix_read _ (by rfl) (fun W hW => by (have hW := HBS.out W hW; have c0 := HC0.out _ hW j _ _ HX.out rfl; have c1 := HC.out _ hW j _ 1 _ HX.out rfl; have c2 := HC.out _ hW j _ 2 _ HX.out rfl; have d0 := HD0.out _ hW j _ _ HY.out rfl; have d1 := HD.out _ hW j _ 1 _ HY.out rfl; have d2 := HD.out _ hW j _ 2 _ HY.out rfl; go_simp; first | done | with_reducible rfl)) ?_; simp only [Act.put, List.setIfInBounds_toArray, List.set_cons_zero, List.set_cons_succ]))
          refine mix_nil (fun W hW => ?_)
          have hq := HBS.out W hW
          clear hW HBS
          go_wp2_with fail
          go_roundw
          case rel => exact ⟨j + 1, hlt, by go_num, hq, HN⟩
          case measure => simp [intOf]; omega
      · obtain rfl : j = a.length := by omega
        have HF : Hid (true = r) := Lib.hid (by rw [← HR.out]; exact (decide_eq_true (take_done HLe.out HNo.out)).symm)
        go_wp2_with fail
        go_ret
        exact ⟨ret_bool HF.out, hq⟩
  · have HF : Hid (false = r) := Lib.hid (by rw [← HR.out]; exact (decide_eq_false (fun e => hlen (by rw [e]))).symm)
    have hlen' : ((a.length : Int) != (b.length : Int)) = true := by rw [bne_iff_ne]; omega
    clear hlen
    go_enter Tryd.func14, Tryd.ntmps14
    go_wp2_with fail
    go_ret
    exact ⟨ret_bool HF.out, hq⟩
end
theorem same13R_B {w : World} {a b : List (Int × Int × Int)} {A B : Option Addr} (ca cb : Nat) (hA : Row w w.heap.size A (a.flatMap needCells)) (hB : Row w w.heap.size B (b.flatMap needCells)) (hn : (a.length : Int) ≤ 9223372036854775807) {r : Bool} (hr : decide (a = b) = r) :
    Calls Tryd.prog 14 #[.slice A a.length ca, .slice B b.length cb] w fun e w' => e = .returned (.bool r) ∧ Below w.heap.size w w' :=
  same13R_P (P := fun W => Below w.heap.size w W) (Closed.below w) ca cb (fun W h => hA.on h) (fun W h => hB.on h) hn hr (Below.refl _ _)
end Go.Proofs.YtbdbgoploednbaaDoor
