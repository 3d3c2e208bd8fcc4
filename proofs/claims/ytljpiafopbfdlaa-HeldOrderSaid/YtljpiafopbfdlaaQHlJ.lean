/- Package held: Apart. -/
import Derived.RangeFuncNested
import Derived.RangeFuncBound
import Derived.RangeFuncCalls
import Derived.RangeFuncLeaves
import Derived.RangeFuncBox
import Derived.Shelf.Abstract
import Derived.Shelf.RegionOpen
import Derived.WalkKit
import Derived.OwnWalkIn
import Derived.TacticsInMore
import Derived.LoopNIn
import Derived.LoopIn
import Derived.WalkMore
import Derived.Deep.CutRange
import Derived.ScopeJumps
import Derived.Test.YtljpiafopbfdlaaQHlI
namespace Go.Proofs.Ytljpiafopbfdlaa
open Go.Maps Go.RowKit Go.Shelf
set_option linter.unusedVariables false
set_option linter.unusedSimpArgs false
attribute [local go_sem] Oper.semAt_some
/-- What Apart's rounds know. -/
structure ApC (a b : Hld) (w : World) (g5 g6 g1 g3 b1 b3 n : Nat) (W : World) : Prop where
  below : Below w.heap.size w W
  size : n ≤ W.heap.size
  box : Whole W (w.heap.size + 1) 28 b.cells
  b5 : Whole W g5 58 [cntV g1]
  b6 : Whole W g6 60 [oppV g3]
  m1 : Whole W g1 74 [.map (some b1)]
  c1 : CntIs W b1 a.secs
  m3 : Whole W g3 75 [.map (some b3)]
  c3 : WayIs W b3 a.needs
  lt : w.heap.size + 1 < n ∧ g5 < n ∧ g6 < n ∧ g1 < n ∧ b1 < n ∧ g3 < n ∧ b3 < n
theorem ApC.stays {a b : Hld} {w : World} {g5 g6 g1 g3 b1 b3 n : Nat} {U : Nat → Prop} {W W' : World} (h : ApC a b w g5 g6 g1 g3 b1 b3 n W) (ht : Stays n U W W') : ApC a b w g5 g6 g1 g3 b1 b3 n W' := by
  obtain ⟨h1, h2, h3, h4, h5, h6, h7, h8, h9, l0, l1, l2, l3, l4, l5, l6⟩ := h
  exact ⟨Safe.below (β := Unit) (B := n) (by omega) (Nat.le_refl _) U () W W' h1 ht, Nat.le_trans h2 ht.size, ht.whole h3 (.inl l0), ht.whole h4 (.inl l1), ht.whole h5 (.inl l2), ht.whole h6 (.inl l3), h7.same (fun o ho => ht.rest _ o ho (.inl l4)), ht.whole h8 (.inl l5), h9.same (fun o ho => ht.rest _ o ho (.inl l6)), l0, l1, l2, l3, l4, l5, l6⟩
theorem ApC.grow {a b : Hld} {w : World} {g5 g6 g1 g3 b1 b3 n m : Nat} {W W' : World} (h : ApC a b w g5 g6 g1 g3 b1 b3 n W) (hb : Below W.heap.size W W') (hm : W'.heap.size = m) : ApC a b w g5 g6 g1 g3 b1 b3 m W' := by
  obtain ⟨h1, h2, h3, h4, h5, h6, h7, h8, h9, l0, l1, l2, l3, l4, l5, l6⟩ := h
  have := hb.size
  exact ⟨h1.trans (hb.mono h1.size), by omega, h3.below hb h3.lt, h4.below hb h4.lt, h5.below hb h5.lt, h6.below hb h6.lt, h7.below hb, h8.below hb h8.lt, h9.below hb, by omega, by omega, by omega, by omega, by omega, by omega, by omega⟩
theorem ApB.toC {a b : Hld} {w : World} {g5 g6 g1 g3 m : Nat} {W : World} (h : Below w.heap.size w W) (hbx : Whole W (w.heap.size + 1) 28 b.cells) (b5 : Whole W g5 58 [cntV g1]) (b6 : Whole W g6 60 [oppV g3]) (k1 : CntG a.secs g1 W) (k3 : OppG a.needs g3 W) (hm : W.heap.size = m) : ∃ b1 b3, ApC a b w g5 g6 g1 g3 b1 b3 m W := by
  obtain ⟨b1, m1, c1⟩ := k1.at'
  obtain ⟨b3, m3, c3⟩ := k3.at'
  have l0 := hbx.lt
  have l1 := b5.lt
  have l2 := b6.lt
  have l3 := m1.lt
  have l4 := c1.lt
  have l5 := m3.lt
  have l6 := c3.lt
  exact ⟨b1, b3, h, by omega, hbx, b5, b6, m1, c1, m3, c3, by omega, by omega, by omega, by omega, by omega, by omega, by omega⟩
theorem below_of_stays {w W W' : World} (h : Below w.heap.size w W) (ht : Stays w.heap.size (fun _ => False) W W') : Below w.heap.size w W' := Safe.below (β := Unit) (B := w.heap.size) (Nat.le_refl _) (Nat.le_refl _) (fun _ => False) () W W' h ht
set_option maxRecDepth 100000 in
set_option maxHeartbeats 32000000 in
theorem Apart_any {a b : Hld} {w : World} (ha : HLies a w) (hb : HLies b w) (wa : HWf a) (wb : HWf b) (sa : Small a) (sb : Small b) {r : Bool} (hr : apartH a b = r) : Calls Try.prog 16 #[a.val, b.val] w fun e w' => e = .returned (.bool r) ∧ Below w.heap.size w w' := by
  have HA := Lib.hid (And.intro ha (And.intro wa sa))
  have HB := Lib.hid hb
  obtain ⟨W1, hW1, hs1, hB1, x0, x1⟩ : ∃ W1, (w.alloc (.cells a.cells.toArray 28)).alloc (.cells b.cells.toArray 28) = W1 ∧ W1.heap.size = w.heap.size + 1 + 1 ∧ Below w.heap.size w W1 ∧ Whole W1 w.heap.size 28 a.cells ∧ Whole W1 (w.heap.size + 1) 28 b.cells :=
    ⟨_, rfl, by simp, below2 w _ _, (Whole.new w _ a.cells).alloc _, Whole.new_at _ _ b.cells _ (by simp)⟩
  have HW1 := Lib.hid hW1
  have HX1 := Lib.hid (And.intro hs1 (And.intro hB1 (And.intro x0 x1)))
  have HSW : Hid (∀ x ∈ b.secs, (Lit.int .i64 x).wf = true) := Lib.hid (secs_wf wb)
  have HNW : Hid (∀ x ∈ b.needs, NWf x) := Lib.hid (needs_wf wb)
  obtain ⟨xs, hxs⟩ : ∃ xs, b.secs = xs := ⟨_, rfl⟩
  obtain ⟨ns, hns⟩ : ∃ ns, b.needs = ns := ⟨_, rfl⟩
  have HXS := Lib.hid hxs
  have HNS := Lib.hid hns
  obtain ⟨p, hp⟩ : ∃ p, anyS b.secs a.secs = p := ⟨_, rfl⟩
  obtain ⟨q, hq⟩ : ∃ q, anyN b.needs a.needs = q := ⟨_, rfl⟩
  have HR : Hid ((!p && !q) = r) := Lib.hid (by rw [← hr, ← hp, ← hq]; rfl)
  have HP : Hid (xs.any (fun s => a.secs.any fun t => s == t) = p) := Lib.hid (by rw [← hp, ← hxs]; rfl)
  have HQ : Hid (ns.any (fun x => a.needs.any fun y => meetN x y) = q) := Lib.hid (by rw [← hq, ← hns]; rfl)
  rw [hxs] at HSW
  rw [hns] at HNW
  clear ha hb wa wb sa sb hr hW1 hs1 hB1 x0 x1 hxs hns hp hq
  refine (callsIn_wide (n := 3)).1 ?_
  refine callsIn_of_wp_marks Try.func16 rfl trivial ?_ rfl
  simp only [Try.ntmps16, List.size_toArray, List.length_cons, List.length_nil, Nat.reduceAdd, Nat.reduceSub, Array.replicate_succ, Array.replicate_zero, List.push_toArray, List.append_toArray, List.nil_append, List.cons_append]
  refine wpIn_wide.2 ?_
  go_wp2
  refine wp_scope_jumps17 0 (fun a' W => ∃ (u0 u1 u2 u3 u4 u5 u6 u7 u8 u9 u10 u11 u12 u13 u14 u15 u16 u17 u18 u19 u20 u21 u22 u23 u24 : Value) (Ds : List Nat), a' = { tmps := #[u0, u1, u2, u3, u4, u5, u6, u7, u8, u9, u10, u11, u12, u13, u14, u15, u16, u17, u18, u19, u20, u21, u22, u23, u24], defers := marks Ds } ∧ Marks w.heap.size (fun _ => False) Ds W ∧ Below w.heap.size w W ∧ (p || q) = true) rfl ?pass ?first
  case pass =>
    rintro a' W ⟨u0, u1, u2, u3, u4, u5, u6, u7, u8, u9, u10, u11, u12, u13, u14, u15, u16, u17, u18, u19, u20, u21, u22, u23, u24, Ds, rfl, hM, hB, hpq⟩
    have HF : Hid (false = r) := Lib.hid (by rw [← HR.out, ← Bool.not_or, hpq]; rfl)
    have HM := Lib.hid (And.intro hM hB)
    clear hM hB hpq HR HP HQ
    go_wp2_with fail
    simp only [Exit.jump]
    exact leaves_marks (v := .bool r) (B := w.heap.size) (U := fun _ => False) (fun w' => by rw [← HF.out]; exact results_tmp (t := 4) rfl _ _ _) Ds W HM.out.1 fun W' hW' => ⟨rfl, below_of_stays HM.out.2 hW'⟩
  case first =>
    go_upto_region 1 with (fail)
    rw [HW1.out]
    refine apart_begin (b := b) HA.out.1 HA.out.2.1 HA.out.2.2 HX1.out.2.1 HX1.out.2.2.1 (fun g5 g6 g1 g3 W2 hW2 => ?_)
    obtain ⟨hB2, k1, k3, b5, b6⟩ := hW2
    obtain ⟨n1, hn1⟩ : ∃ n, W2.heap.size = n := ⟨_, rfl⟩
    obtain ⟨b1, b3, hC2⟩ := ApB.toC (a := a) (b := b) (HX1.out.2.1.trans (hB2.mono HX1.out.2.1.size)) (HX1.out.2.2.2.below hB2 HX1.out.2.2.2.lt) b5 b6 k1 k3 hn1
    have HN1 := Lib.hid hn1
    clear hB2 k1 k3 b5 b6 HX1 HA
    go_upto_region 2 with (fail)
    apply wp_region_lit
    repeat (first | (refine wpList_skip (by rfl) ?_; simp only [Act.put, List.setIfInBounds_toArray, List.set_cons_zero, List.set_cons_succ]) | (refine wpList_read _ (by rfl) (exec_hld (by rfl) (by rfl) hC2.box) ?_; simp only [Act.put, List.setIfInBounds_toArray, List.set_cons_zero, List.set_cons_succ]) | (refine wpList_read _ (by rfl) (by (go_simp; first | done | with_reducible rfl)) ?_; simp only [Act.put, List.setIfInBounds_toArray, List.set_cons_zero, List.set_cons_succ]))
    refine wpList_callv (by rfl) (by (go_simp; first | done | rfl)) (sections_any _) (fun w4 hw4 => ?_)
    simp only [Act.put, List.setIfInBounds_toArray, List.set_cons_zero, List.set_cons_succ]
    obtain ⟨W0, hW0⟩ : ∃ W0, W2.alloc (.cells b.cells.toArray 28) = W0 := ⟨_, rfl⟩
    have hsz : W0.heap.size = n1 + 1 := by rw [← hW0]; simp [hn1]
    have hB : Below W2.heap.size W2 W0 := by rw [← hW0]; exact below1 _ _
    have hC0 := hC2.grow hB hsz
    have b3' : Whole W0 n1 28 b.cells := by rw [← hW0]; exact Whole.new_at _ _ b.cells _ hn1.symm
    rw [hW0] at hw4
    obtain rfl : W0 = w4 := hw4.symm
    rw [hn1]
    have hit := secs_iter (w0 := W0) (n1 := n1) (n2 := n1 + 1) HB.out (fun k o hk ho => (hC0.below.block k hk).trans ho) ⟨Nat.le_refl _, by omega⟩ b3'
    rw [HXS.out] at hit
    have HSZ := Lib.hid hsz
    have HWN : Hid (w.heap.size + 1 < n1) := Lib.hid (by have := hC2.box.lt; omega)
    have HI0 := Lib.hid hC0
    clear hW0 hB hC0 b3' hC2 hn1
    go_wp2_with fail
    refine (wpIn_wide (n := 3)).1 ?_
    refine range_iterU (gf := 49) rfl (enters_of Try.func49 (by kernel_rfl) rfl) hit (Keeps.refl _ _) (fun k hk => by have := HSZ.out; have := HWN.out; rcases hk with h | h <;> omega) (fun _ => rfl) (by omega)
      (fun _ j W => ApC a b w g5 g6 g1 g3 b1 b3 (n1 + 1) W ∧ NoneUp (fun s => a.secs.any fun t => s == t) xs j)
      (fun c _ W => c = .goto 0 ∧ (Below w.heap.size w W ∧ Hid (p = true)))
      (by rw [hsz]; rintro U j W W' ⟨h1, h2⟩ ht; exact ⟨h1.stays ht, h2⟩)
      (fun c => by
        rw [hsz]
        rintro U u W W' ⟨h1, h2, h3⟩ ht
        exact ⟨h1, Safe.below (β := Unit) (B := n1 + 1) (by have := HWN.out; omega) (Nat.le_refl _) U () W W' h2 ht, h3⟩)
      ⟨HI0.out, NoneUp.zero _ _⟩
      (fun U j x a' W => (ApC a b w g5 g6 g1 g3 b1 b3 (n1 + 1) W ∧ NoneUp (fun s => a.secs.any fun t => s == t) xs j) ∧ a' = { tmps := #[a.val, b.val, .pointer (some ⟨w.heap.size, 0, none⟩), .pointer (some ⟨w.heap.size + 1, 0, none⟩), .bool false, .pointer (some ⟨g5, 0, none⟩), .pointer (some ⟨g6, 0, none⟩), .int .i64 x, undef, a.val, cntV g1, a.val, oppV g3, b.val, .func (.func 49) #[] #[.pointer (some ⟨n1, 0, none⟩)], .int .i64 x, undef, undef, undef, undef, undef, undef, undef, undef, undef], defers := [] })
      (fun j x a' => by
        rw [hsz]
        rintro U u W W' ⟨⟨h1, h3⟩, h2⟩ ht
        exact ⟨⟨h1.stays ht, h3⟩, h2⟩)
      ?assign ?body ?done ?stop
    case assign =>
      rintro lr U j x W K hx hI hsW hU hK
      gi_wp2_with fail
      exact hK _ _ U (Grew.refl hU (Nat.le_refl _)) (Kept.below (Below.refl _ _)) ⟨hI, rfl⟩
    case body =>
      rintro lr U j x a' W hl hx ⟨⟨hI, hno⟩, rfl⟩ hU
      obtain ⟨t, ht⟩ : ∃ t, (a.secs.any fun t => x == t) = t := ⟨_, rfl⟩
      have KS := Lib.hid (holds1_any hI.m1 hI.c1 (HSW.out x (List.mem_of_getElem? hx)) ht)
      have y0 := hI.b5.cell_at 0 rfl
      have HI := Lib.hid (And.intro hI hno)
      have HX := Lib.hid hx
      have HT := Lib.hid ht
      have HU := Lib.hid hU
      clear hI hno hx ht hU hit HI0
      gi_wp2_with fail
      refine ⟨trivial, (CallsIn.inRound _ (callsIn_wide.2 KS.out)).mono ?_⟩
      clear KS y0
      rintro e W3 ⟨rfl, rfl⟩
      cases t
      · have HN := Lib.hid (HI.out.2.succ HX.out HT.out)
        gi_wp2_with fail
        exact ⟨U, Grew.refl HU.out (Nat.le_refl _), Kept.below (Below.refl _ _), HI.out.1, HN.out⟩
      · have HPT : Hid (p = true) := Lib.hid (by rw [← HP.out]; exact any_hit HX.out HT.out)
        gi_wp2_with fail
        refine wpIn_goto ?_
        exact ⟨U, Grew.refl HU.out (Nat.le_refl _), Kept.below (Below.refl _ _), rfl, HI.out.1.below, HPT⟩
    case stop =>
      rintro D c U W hD hUD ⟨rfl, hB, hP⟩ hK
      have HM : Hid (Marks w.heap.size (fun _ => False) [D] W ∧ Below w.heap.size w W ∧ (p || q) = true) := Lib.hid ⟨⟨List.nodup_cons.2 ⟨by simp, List.nodup_nil⟩, fun E hE => by
        obtain rfl : E = D := by simpa using hE
        exact ⟨hK, by have := HSZ.out; have := HWN.out; omega, fun h => h⟩⟩, hB, by rw [hP.out]; rfl⟩
      clear hB hP hK hit HI0
      refine wpIn_goto ?_
      exact ⟨rfl, _, _, _, _, _, _, _, _, _, _, _, _, _, _, _, _, _, _, _, _, _, _, _, _, _, [D], rfl, HM.out⟩
    case done =>
      rintro D U W hD hUD ⟨hC, hno⟩ hK
      have HPF : Hid (p = false) := Lib.hid (by rw [← HP.out]; exact NoneUp.any hno)
      have hD1 : n1 + 1 ≤ D := by have := HSZ.out; omega
      have HC := Lib.hid (And.intro hC (And.intro hK hD1))
      clear hC hno hK hit HI0 hD1
      go_upto_region 5 with (fail)
      apply wp_region_lit
      repeat (first | (refine wpList_skip (by rfl) ?_; simp only [Act.put, List.setIfInBounds_toArray, List.set_cons_zero, List.set_cons_succ]) | (refine wpList_read _ (by rfl) (exec_hld (by rfl) (by rfl) HC.out.1.box) ?_; simp only [Act.put, List.setIfInBounds_toArray, List.set_cons_zero, List.set_cons_succ]) | (refine wpList_read _ (by rfl) (by (go_simp; first | done | with_reducible rfl)) ?_; simp only [Act.put, List.setIfInBounds_toArray, List.set_cons_zero, List.set_cons_succ]))
      refine wpList_callx (by rfl) (by (go_simp; first | done | rfl)) (needs_any _) (fun e W5 he => ?_)
      obtain ⟨g, gf, rfl, hn, hB5⟩ := he
      refine ⟨_, rfl, ?_⟩
      simp only [Act.put, List.setIfInBounds_toArray, List.set_cons_zero, List.set_cons_succ]
      obtain ⟨n2, hn2⟩ : ∃ n, W5.heap.size = n := ⟨_, rfl⟩
      obtain ⟨m2, hm2⟩ : ∃ n, W.heap.size = n := ⟨_, rfl⟩
      have hC5 := HC.out.1.grow hB5 hn2
      have hDW : D < W.heap.size := (Array.getElem?_eq_some_iff.1 HC.out.2.1).1
      have hK5 : W5.heap[D]? = some (.deferred (some [])) := (hB5.block D hDW).trans HC.out.2.1
      have hD2 : D < n2 := by have := hB5.size; omega
      have hmn : m2 ≤ n2 := by have := hB5.size; omega
      have hnm : n1 + 1 ≤ m2 := by have := HC.out.1.size; omega
      rw [hm2, hn2] at hn
      have hit := needs_iter (w0 := W5) (n1 := m2) (n2 := n2) HB.out (fun k o hk ho => (hC5.below.block k hk).trans ho) hn
      rw [HNS.out] at hit
      have HSZ2 := Lib.hid hn2
      have HLT := Lib.hid (And.intro hD2 (And.intro hmn (And.intro hnm HC.out.2.2)))
      have HI5 := Lib.hid (And.intro hC5 hK5)
      clear hB5 hm2 hC5 hK5 hDW hn hD2 hmn hnm HC
      go_wp2_with fail
      refine (wpIn_wide (n := 3)).1 ?_
      refine range_iterU (gf := 53) rfl (enters_of Try.func53 (by kernel_rfl) rfl) hit (Keeps.refl _ _) (fun k hk => by have := HSZ2.out; have := HWN.out; have := HLT.out; rcases hk with h | h <;> omega) (fun _ => rfl) (by omega)
        (fun _ j W => (ApC a b w g5 g6 g1 g3 b1 b3 n2 W ∧ W.heap[D]? = some (.deferred (some []))) ∧ NoneUp (fun x => a.needs.any fun y => meetN x y) ns j)
        (fun c _ W => c = .goto 0 ∧ (Below w.heap.size w W ∧ W.heap[D]? = some (.deferred (some [])) ∧ Hid (q = true)))
        (by rw [hn2]; rintro U j W W' ⟨⟨h1, h2⟩, h3⟩ ht; exact ⟨⟨h1.stays ht, ht.rest _ _ h2 (.inl HLT.out.1)⟩, h3⟩)
        (fun c => by
          rw [hn2]
          rintro U u W W' ⟨h1, h2, h3, h4⟩ ht
          exact ⟨h1, Safe.below (β := Unit) (B := n2) (by have := HWN.out; have := HLT.out; omega) (Nat.le_refl _) U () W W' h2 ht, ht.rest _ _ h3 (.inl HLT.out.1), h4⟩)
        ⟨HI5.out, NoneUp.zero _ _⟩
        (fun U j x a' W => ((ApC a b w g5 g6 g1 g3 b1 b3 n2 W ∧ W.heap[D]? = some (.deferred (some []))) ∧ NoneUp (fun x => a.needs.any fun y => meetN x y) ns j) ∧ ∃ gp, Whole W gp 40 (needCells x) ∧ U gp ∧ a' = { tmps := #[a.val, b.val, .pointer (some ⟨w.heap.size, 0, none⟩), .pointer (some ⟨w.heap.size + 1, 0, none⟩), .bool false, .pointer (some ⟨g5, 0, none⟩), .pointer (some ⟨g6, 0, none⟩), undef, .pointer (some ⟨gp, 0, none⟩), a.val, cntV g1, a.val, oppV g3, b.val, .func (.func 49) #[] #[.pointer (some ⟨n1, 0, none⟩)], undef, undef, undef, undef, b.val, .func (.func 53) #[] #[.pointer (some ⟨g, 0, none⟩), .pointer (some ⟨gf, 0, none⟩)], stpV x.1 x.2.1 x.2.2, undef, undef, undef], defers := [] })
        (fun j x a' => by
          rw [hn2]
          rintro U u W W' ⟨⟨⟨h1, h2⟩, h3⟩, gp, h4, h5, h6⟩ ht
          exact ⟨⟨⟨h1.stays ht, ht.rest _ _ h2 (.inl HLT.out.1)⟩, h3⟩, gp, ht.whole h4 (.inr h5), h5, h6⟩)
        ?assign ?body ?done ?stop
      case assign =>
        rintro lr U j x W K hx ⟨⟨h1, h2⟩, h3⟩ hsW hU hK
        have hb := below1 W (.cells (needCells x).toArray 40)
        have hd : (W.alloc (.cells (needCells x).toArray 40)).heap[D]? = some (.deferred (some [])) := (hb.block D (Array.getElem?_eq_some_iff.1 h2).1).trans h2
        have h1' := h1.stays (U := U) (Stays.below hb)
        have HH := Lib.hid (And.intro (And.intro h1' hd) h3)
        clear h1 h2 h3 hd h1' hit HI5
        gi_wp2_with fail
        exact hK _ _ (With U W (W.alloc (.cells (needCells x).toArray 40))) (Grew.with hU hb.size) (Kept.below hb) ⟨HH.out, W.heap.size, Whole.new W _ (needCells x), .inr ⟨Nat.le_refl _, by simp⟩, rfl⟩
      case body =>
        rintro lr U j x a' W hl hx ⟨⟨⟨hI, hDk⟩, hno⟩, gp, hgp, hUg, rfl⟩ hU
        obtain ⟨x1, x2, x3⟩ := x
        obtain ⟨t, ht⟩ : ∃ t, (a.needs.any fun y => meetN (x1, x2, x3) y) = t := ⟨_, rfl⟩
        have KS := Lib.hid (opposes1_any hI.m3 hI.c3 (HNW.out _ (List.mem_of_getElem? hx)) ht)
        have y0 := hI.b6.cell_at 0 rfl
        have p0 := hgp.cell_at 0 rfl
        have p1 := hgp.cell_at 1 rfl
        have p2 := hgp.cell_at 2 rfl
        have HI := Lib.hid (And.intro (And.intro hI hDk) hno)
        have HX := Lib.hid hx
        have HT := Lib.hid ht
        have HU := Lib.hid hU
        clear hI hno hx ht hU hit HI5 hDk hgp
        gi_wp2_with fail
        refine ⟨trivial, (CallsIn.inRound _ (callsIn_wide.2 KS.out)).mono ?_⟩
        clear KS y0 p0 p1 p2
        rintro e W3 ⟨rfl, hB3⟩
        have HS3 := Lib.hid hB3
        have hI3 := HI.out.1.1.stays (U := U) (Stays.below hB3)
        have hD3 : W3.heap[D]? = some (.deferred (some [])) := (hB3.block D (Array.getElem?_eq_some_iff.1 HI.out.1.2).1).trans HI.out.1.2
        have HI3 := Lib.hid (And.intro hI3 hD3)
        clear hB3 hI3 hD3
        cases t
        · have HN := Lib.hid (HI.out.2.succ HX.out HT.out)
          gi_wp2_with fail
          exact ⟨U, Grew.refl HU.out HS3.out.size, Kept.below HS3.out, HI3.out, HN.out⟩
        · have HQT : Hid (q = true) := Lib.hid (by rw [← HQ.out]; exact any_hit HX.out HT.out)
          gi_wp2_with fail
          refine wpIn_goto ?_
          exact ⟨U, Grew.refl HU.out HS3.out.size, Kept.below HS3.out, rfl, HI3.out.1.below, HI3.out.2, HQT⟩
      case stop =>
        rintro D2 c U W hD hUD ⟨rfl, hB, hDk, hQ⟩ hK
        have HM : Hid (Marks w.heap.size (fun _ => False) [D2, D] W ∧ Below w.heap.size w W ∧ (p || q) = true) := Lib.hid ⟨⟨List.nodup_cons.2 ⟨by simp; have := HSZ2.out; have := HLT.out; omega, List.nodup_cons.2 ⟨by simp, List.nodup_nil⟩⟩, fun E hE => by
          have h1 := HSZ2.out
          have h2 := HLT.out
          have h3 := HWN.out
          simp only [List.mem_cons, List.not_mem_nil, or_false] at hE
          rcases hE with rfl | rfl
          · exact ⟨hK, by omega, fun h => h⟩
          · exact ⟨hDk, by omega, fun h => h⟩⟩, hB, by rw [hQ.out, Bool.or_true]⟩
        clear hB hQ hK hit HI5 hDk
        refine wpIn_goto ?_
        exact ⟨rfl, _, _, _, _, _, _, _, _, _, _, _, _, _, _, _, _, _, _, _, _, _, _, _, _, _, [D2, D], rfl, HM.out⟩
      case done =>
        rintro D2 U W hD hUD ⟨⟨hC, hDk⟩, hno⟩ hK
        have HF : Hid (true = r) := Lib.hid (by
          have hq : q = false := by rw [← HQ.out]; exact NoneUp.any hno
          rw [← HR.out, HPF.out, hq]
          rfl)
        have HM : Hid (Marks w.heap.size (fun _ => False) [D2, D] W ∧ Below w.heap.size w W) := Lib.hid ⟨⟨List.nodup_cons.2 ⟨by simp; have := HSZ2.out; have := HLT.out; omega, List.nodup_cons.2 ⟨by simp, List.nodup_nil⟩⟩, fun E hE => by
          have h1 := HSZ2.out
          have h2 := HLT.out
          have h3 := HWN.out
          simp only [List.mem_cons, List.not_mem_nil, or_false] at hE
          rcases hE with rfl | rfl
          · exact ⟨hK, by omega, fun h => h⟩
          · exact ⟨hDk, by omega, fun h => h⟩⟩, hC.below⟩
        clear hC hno hK hDk hit HI5
        go_wp2_with fail
        simp only [Exit.jump]
        exact leaves_marks (v := .bool r) (B := w.heap.size) (U := fun _ => False) (fun w' => by rw [← HF.out]; exact results_tmp (t := 4) rfl _ _ _) [D2, D] W HM.out.1 fun W' hW' => ⟨rfl, below_of_stays HM.out.2 hW'⟩

end Go.Proofs.Ytljpiafopbfdlaa
