/- Package held: opposes. -/
import Derived.RangeFuncNested
import Derived.RangeFuncBound
import Derived.RangeFuncCalls
import Derived.RangeFuncLeaves
import Derived.RangeFuncBox
import Derived.Shelf.Abstract
import Derived.Shelf.RegionOpen
import Derived.WalkKit
import Derived.OwnWalkIn
import Derived.TacticsInMore
import Derived.LoopNIn
import Derived.LoopIn
import Derived.WalkMore
import Derived.Deep.CutRange
import Derived.Maps.OwnSet
import Derived.Maps.OwnIn
import Derived.Laws.EntriesVeiled
import Derived.Lib.MinMax
import Derived.Test.YtljpiafopbfdlaaQHlG
namespace Go.Proofs.Ytljpiafopbfdlaa
open Go.Maps Go.RowKit Go.Shelf
set_option linter.unusedVariables false
set_option linter.unusedSimpArgs false
attribute [local go_sem] Oper.semAt_some
/-- What tells whether a need is opposed, and what it holds. -/
structure OppAt (ns : List (Int × Int × Int)) (n : Nat) (v : Value) (W : World) : Prop where
  at' : ∃ g b : Nat, v = .func (.func 55) #[] #[.pointer (some ⟨g, 0, none⟩)] ∧ n ≤ g ∧ n ≤ b ∧ Whole W g 75 [.map (some b)] ∧ WayIs W b ns
theorem OppAt.closed (ns : List (Int × Int × Int)) (n : Nat) (v : Value) : Closed (OppAt ns n v) := fun w w' ⟨g, b, hv, n1, n2, h1, h2⟩ hb => ⟨g, b, hv, n1, n2, h1.below hb h1.lt, h2.below hb⟩
set_option maxRecDepth 100000 in
set_option maxHeartbeats 8000000 in
theorem opposes1_any {ns : List (Int × Int × Int)} {g b : Nat} {w : World} (hb : Whole w g 75 [.map (some b)]) (hc : WayIs w b ns) {x1 x2 x3 : Int} (hx : NWf (x1, x2, x3)) {r : Bool} (hr : ns.any (fun y => meetN (x1, x2, x3) y) = r) :
    Calls Try.prog 55 #[stpV x1 x2 x3, .pointer (some ⟨g, 0, none⟩)] w fun e w' => e = .returned (.bool r) ∧ Below w.heap.size w w' := by
  have hB1 := below1 w (.cells #[.int .i64 x1, .int .i64 x2, .int .i64 x3] 40)
  have hbx := Whole.new w 40 [.int .i64 x1, .int .i64 x2, .int .i64 x3]
  obtain ⟨ok, hok⟩ : ∃ b, wayB ns x1 = b := ⟨_, rfl⟩
  obtain ⟨⟨c, d⟩, hcd⟩ : ∃ a, wayD ns x1 = a := ⟨_, rfl⟩
  have hlk := (hc.below hB1).look hx.1 hok hcd
  have c0 := (hb.below hB1 hb.lt).cell_at 0 rfl
  have y0 := hbx.cell_at 0 rfl
  have y1 := hbx.cell_at 1 rfl
  have HR : Hid ((ok && !(c == x2 && d == x2)) = r) := Lib.hid (by rw [← hr, ← way_meets ns (x1, x2, x3)]; show _ = (wayB ns x1 && !((wayD ns x1).1 == x2 && (wayD ns x1).2 == x2)); rw [hok, hcd])
  have HB1 := Lib.hid hB1
  clear hb hc hx hr hB1 hbx hok hcd
  cases ok
  · have HE : Hid (false = r) := Lib.hid (by rw [← HR.out]; rfl)
    clear HR
    go_enter Try.func55, Try.ntmps55
    go_wp2_with fail
    go_ret
    exact ⟨ret_bool HE.out, below2 w _ _⟩
  · obtain ⟨q, hq⟩ : ∃ q, (!(c == x2 && d == x2)) = q := ⟨_, rfl⟩
    have hne : ∀ W : World, (binOp .neq 77 (wayU c d) (wayU x2 x2)).run Try.prog W = .ok (.bool q) W := fun W => by rw [neq_way, hq]
    have HE : Hid (q = r) := Lib.hid (by rw [← HR.out, ← hq]; rfl)
    clear HR hq
    go_enter Try.func55, Try.ntmps55
    go_wp2_with fail
    go_ret
    exact ⟨ret_bool HE.out, below2 w _ _⟩

/-- What a round of opposes knows. -/
structure OpI (w : World) (n : Nat) (xs : List (Int × Int × Int)) (j : Nat) (W : World) : Prop where
  below : Below w.heap.size w W
  size : n ≤ W.heap.size
  mb : Whole W (w.heap.size + 1 + 1) 75 [.map (some (w.heap.size + 1))]
  mp : WayIs W (w.heap.size + 1) (xs.take j)
theorem OpI.safe (w : World) (n : Nat) (hn : w.heap.size + 1 + 1 + 1 ≤ n) (xs : List (Int × Int × Int)) : Safe n (fun (_ : Nat → Prop) => OpI w n xs) := by
  rintro U j W W' ⟨h1, h2, h3, h4⟩ ht
  exact ⟨Safe.below (β := Unit) (B := n) (by omega) (Nat.le_refl _) U () W W' h1 ht, Nat.le_trans h2 ht.size, ht.whole h3 (.inl (by omega)), h4.same (fun o ho => ht.rest _ o ho (.inl (by omega)))⟩
theorem OpI.next {w W W' : World} {n : Nat} {xs : List (Int × Int × Int)} {j : Nat} {x : Int × Int × Int} (hn : w.heap.size + 1 + 1 + 1 ≤ n) (h : OpI w n xs j W) (hx : xs[j]? = some x) (hm : WayIs W' (w.heap.size + 1) (xs.take j ++ [x])) (hg : W.grownBy W' (some (w.heap.size + 1))) : OpI w n xs (j + 1) W' := by
  obtain ⟨h1, h2, h3, h4⟩ := h
  have e : xs.take (j + 1) = xs.take j ++ [x] := by rw [List.take_add_one, hx]; rfl
  exact ⟨h1.grown hg (by omega) (fun b hb => by have := Option.some.inj hb; omega), Nat.le_trans h2 hg.size, h3.kept hg (fun e => by have := Option.some.inj e; omega), by rw [e]; exact hm⟩
theorem OpI.round {w W : World} {n : Nat} {xs : List (Int × Int × Int)} {j : Nat} {x : Int × Int × Int} (hn : w.heap.size + 1 + 1 + 1 ≤ n) (h : OpI w n xs j W) (hx : xs[j]? = some x) (hxw : NWf x) (hl : (xs.take j).length ≤ 1000000) (a b : Int) {c d : Int} (hd : wayP (xs.take j) x = (c, d)) :
    ∃ W', (Instr.mapUpdate 75 (.map (some (w.heap.size + 1))) (.int .i64 x.1) (wayU c d)).run Try.prog (W.alloc (.cells #[.int .i64 a, .int .i64 b] 77)) = .ok () W' ∧ OpI w n xs (j + 1) W' ∧ W.grownBy W' (some (w.heap.size + 1)) := by
  have hB1 : W.grownBy (W.alloc (.cells #[.int .i64 a, .int .i64 b] 77)) none := World.grownBy_alloc W _ none
  have hm := h.mp.below (below1 W (.cells #[.int .i64 a, .int .i64 b] 77))
  obtain ⟨W', hput, hm', hg⟩ := hm.put hxw hl hd
  have hg' : W.grownBy W' (some (w.heap.size + 1)) := (show W.grownBy (W.alloc (.cells #[.int .i64 a, .int .i64 b] 77)) (some (w.heap.size + 1)) from ⟨hB1.os, hB1.tape, hB1.output, hB1.size, fun k hk _ => hB1.block k hk (by simp)⟩).trans hg
  exact ⟨W', hput, h.next hn hx hm' hg', hg'⟩
set_option maxRecDepth 100000 in
set_option maxHeartbeats 32000000 in
theorem opposes_any {h : Hld} {w : World} (hl : HLies h w) (hw : HWf h) (hsm : Small h) : Calls Try.prog 33 #[h.val] w fun e w' => ∃ v, e = .returned v ∧ OppAt h.needs w.heap.size v w' ∧ Below w.heap.size w w' := by
  have HL := Lib.hid hl
  have hlen := needs_le hsm
  have hwf := needs_wf hw
  obtain ⟨xs, hxs⟩ : ∃ xs, h.needs = xs := ⟨_, rfl⟩
  have HXS := Lib.hid hxs
  rw [hxs] at hlen hwf ⊢
  have HWF := Lib.hid hwf
  have HLN := Lib.hid hlen
  obtain ⟨W3, hW3, hs3, hB3, b0, b1, b2⟩ : ∃ W3, ((w.alloc (.cells h.cells.toArray 28)).alloc (.map #[] 0)).alloc (.cells #[.map (some (w.heap.size + 1))] 75) = W3 ∧ W3.heap.size = w.heap.size + 1 + 1 + 1 ∧ Below w.heap.size w W3 ∧ Whole W3 w.heap.size 28 h.cells ∧ WayIs W3 (w.heap.size + 1) [] ∧ Whole W3 (w.heap.size + 1 + 1) 75 [.map (some (w.heap.size + 1))] :=
    ⟨_, rfl, by simp, below3 w _ _ _, ((Whole.new w _ h.cells).alloc _).alloc _, by
      have h0 := WayIs.made (w.alloc (.cells h.cells.toArray 28))
      rw [World.size_alloc] at h0
      exact h0.below (below1 _ _), Whole.new_at _ _ [_] _ (by simp)⟩
  have HW3 := Lib.hid hW3
  have HS3 := Lib.hid hs3
  have HB3 := Lib.hid (And.intro hB3 (And.intro b0 (And.intro b1 b2)))
  clear hl hxs hW3 hs3 hB3 b0 b1 b2 hwf hlen hw hsm
  have hmm := @run_makeMap Try.prog
  refine (callsIn_wide (n := 5)).1 ?_
  refine callsIn_of_wp_marks Try.func33 rfl trivial ?_ rfl
  simp only [Try.ntmps33, List.size_toArray, List.length_cons, List.length_nil, Nat.reduceAdd, Nat.reduceSub, Array.replicate_succ, Array.replicate_zero, List.push_toArray, List.append_toArray, List.nil_append, List.cons_append]
  refine wpIn_wide.2 ?_
  go_upto_region 2 with (fail)
  try simp only [World.size_alloc]
  rw [HW3.out]
  clear hmm
  apply wp_region_lit
  repeat (first | (refine wpList_skip (by rfl) ?_; simp only [Act.put, List.setIfInBounds_toArray, List.set_cons_zero, List.set_cons_succ]) | (refine wpList_read _ (by rfl) (exec_hld (by rfl) (by rfl) HB3.out.2.1) ?_; simp only [Act.put, List.setIfInBounds_toArray, List.set_cons_zero, List.set_cons_succ]) | (refine wpList_read _ (by rfl) (by (go_simp; first | done | with_reducible rfl)) ?_; simp only [Act.put, List.setIfInBounds_toArray, List.set_cons_zero, List.set_cons_succ]))
  refine wpList_callx (by rfl) (by (go_simp; first | done | rfl)) (needs_any _) (fun e W0 he => ?_)
  obtain ⟨g, gf, rfl, hn, hB⟩ := he
  refine ⟨_, rfl, ?_⟩
  simp only [Act.put, List.setIfInBounds_toArray, List.set_cons_zero, List.set_cons_succ]
  have hB0 : Below w.heap.size w W0 := HB3.out.1.trans (hB.mono HB3.out.1.size)
  have b1 := HB3.out.2.2.1.below hB
  have b2 := HB3.out.2.2.2.below hB HB3.out.2.2.2.lt
  have hs := hB.size
  rw [HS3.out] at hn hs
  have hit := needs_iter (w0 := W0) (n1 := w.heap.size + 1 + 1 + 1) (n2 := W0.heap.size) HL.out (fun k o hk ho => (hB0.block k hk).trans ho) hn
  rw [HXS.out] at hit
  obtain ⟨n, hsz⟩ : ∃ n, W0.heap.size = n := ⟨_, rfl⟩
  rw [hsz] at hit hs
  have HSZ := Lib.hid hsz
  have HN := Lib.hid hs
  have HI0 : Hid (OpI w n xs 0 W0) := Lib.hid ⟨hB0, by omega, b2, b1⟩
  clear hB hB0 b1 b2 HL HB3 hn hs
  go_wp2_with fail
  refine (wpIn_wide (n := 5)).1 ?_
  refine range_iterU (gf := 53) rfl (enters_of Try.func53 (by kernel_rfl) rfl) hit (Keeps.refl _ _) (fun k hk => by have := HSZ.out; have := HN.out; rcases hk with h | h <;> omega) (fun _ => rfl) (by omega)
    (fun _ => OpI w n xs) (fun _ _ _ => False)
    (by rw [hsz]; exact OpI.safe w n HN.out xs)
    (fun _ => by rw [hsz]; exact fun _ _ _ _ h _ => h.elim)
    HI0.out
    (fun U j x a' W => OpI w n xs j W ∧ ∃ gp, Whole W gp 40 (needCells x) ∧ U gp ∧ a' = { tmps := #[h.val, .pointer (some ⟨w.heap.size, 0, none⟩), .nilFunc, .pointer (some ⟨w.heap.size + 1 + 1, 0, none⟩), .pointer (some ⟨gp, 0, none⟩), undef, undef, .map (some (w.heap.size + 1)), h.val, .func (.func 53) #[] #[.pointer (some ⟨g, 0, none⟩), .pointer (some ⟨gf, 0, none⟩)], stpV x.1 x.2.1 x.2.2, undef, undef, undef, undef, undef, undef, undef, undef, undef, undef, undef, undef, undef, undef, undef, undef, undef, undef, undef, undef, undef, undef, undef, undef, undef, undef, undef, undef, undef], defers := [] })
    (fun j x a' => by
      rw [hsz]
      rintro U u W W' ⟨h1, gp, h2, h3, h4⟩ ht
      exact ⟨OpI.safe w n HN.out xs U _ _ _ h1 ht, gp, ht.whole h2 (.inr h3), h3, h4⟩)
    ?assign ?body ?done ?stop
  case assign =>
    rintro lr U j x W K hx hI hsW hU hK
    have hb := below1 W (.cells (needCells x).toArray 40)
    gi_wp2_with fail
    exact hK _ _ (With U W (W.alloc (.cells (needCells x).toArray 40))) (Grew.with hU hb.size) (Kept.below hb) ⟨OpI.safe w n HN.out xs U _ _ _ hI (Stays.below hb), W.heap.size, Whole.new W _ (needCells x), .inr ⟨Nat.le_refl _, by simp⟩, rfl⟩
  case body =>
    rintro lr U j x a' W hl hx ⟨hI, gp, hgp, hUg, rfl⟩ hU
    have hxw := HWF.out x (List.mem_of_getElem? hx)
    have hjl : (xs.take j).length ≤ 1000000 := by rw [List.length_take]; have := HLN.out; omega
    obtain ⟨ok, hok⟩ : ∃ b, wayB (xs.take j) x.1 = b := ⟨_, rfl⟩
    obtain ⟨⟨c, d⟩, hcd⟩ : ∃ a, wayD (xs.take j) x.1 = a := ⟨_, rfl⟩
    have hlk := hI.mp.look hxw.1 hok hcd
    have y0 := hI.mb.cell_at 0 rfl
    have p0 := hgp.cell_at 0 rfl
    have p1 := hgp.cell_at 1 rfl
    have hb1 := below1 W (.cells #[.int .i64 c, .int .i64 d] 77)
    have y0' := (hI.mb.below hb1 hI.mb.lt).cell_at 0 rfl
    have p0' := (hgp.below hb1 hgp.lt).cell_at 0 rfl
    have p1' := (hgp.below hb1 hgp.lt).cell_at 1 rfl
    have hb2 := below1 W (.cells #[.int .i64 x.2.1, .int .i64 x.2.1] 77)
    have z0' := (hI.mb.below hb2 hI.mb.lt).cell_at 0 rfl
    have q0' := (hgp.below hb2 hgp.lt).cell_at 0 rfl
    have q1' := (hgp.below hb2 hgp.lt).cell_at 1 rfl
    have HU := Lib.hid hU
    have hN := HN.out
    have hkept : ∀ W', W.grownBy W' (some (w.heap.size + 1)) → Kept (fun k => k < w.heap.size ∨ (w.heap.size + 1 + 1 + 1 ≤ k ∧ k < n)) n U W W' := fun W' hg => ⟨hg.size, fun k o ho hr => (hg.block k (Array.getElem?_eq_some_iff.1 ho).1 (fun e => by
      have e' := Option.some.inj e
      rcases hr with hr | hr
      · rcases hr with hr | hr <;> omega
      · omega)).trans ho⟩
    cases ok
    · have hP : wayP (xs.take j) x = (x.2.1, x.2.1) := by unfold wayP; rw [hok]; rfl
      obtain ⟨W', hput, hI', hg⟩ := hI.round HN.out hx hxw hjl x.2.1 x.2.1 hP
      have HK := Lib.hid (And.intro (hkept W' hg) (And.intro hI' hg.size))
      have e1 : min x.2.1 x.2.1 = x.2.1 := by omega
      have e2 : max x.2.1 x.2.1 = x.2.1 := by omega
      clear hI hx hU hgp hxw hjl hok hcd hit hb1 hb2 hkept hP hI' hg hN
      gi_wp2_with fail
      exact ⟨U, Grew.refl HU.out HK.out.2.2, by rw [HSZ.out]; exact HK.out.1, HK.out.2.1⟩
    · have hP : wayP (xs.take j) x = (min c x.2.1, max d x.2.1) := by unfold wayP; rw [hok, hcd]; rfl
      obtain ⟨W', hput, hI', hg⟩ := hI.round HN.out hx hxw hjl c d hP
      have HK := Lib.hid (And.intro (hkept W' hg) (And.intro hI' hg.size))
      clear hI hx hU hgp hxw hjl hok hcd hit hb1 hb2 hkept hP hI' hg hN z0' q0' q1'
      gi_wp2_with fail
      exact ⟨U, Grew.refl HU.out HK.out.2.2, by rw [HSZ.out]; exact HK.out.1, HK.out.2.1⟩
  case stop =>
    rintro D c U W _ _ h _
    exact h.elim
  case done =>
    rintro D U W hD hUD hI hK
    have hmp := hI.mp
    rw [List.take_length] at hmp
    have hmb := hI.mb
    have hsz := HSZ.out
    have hN := HN.out
    have HB := Lib.hid hI.below
    have HE : Hid (OppAt xs w.heap.size (.func (.func 55) #[] #[.pointer (some ⟨w.heap.size + 1 + 1, 0, none⟩)]) (W.putObj D (.deferred none))) := Lib.hid ⟨w.heap.size + 1 + 1, w.heap.size + 1, rfl, by omega, by omega, hmb.putDone (o' := .deferred none) hK, hmp.same (fun o ho => (World.putObj_heap_other (by omega)).trans ho)⟩
    have HK := Lib.hid hK
    clear hI hit hK hmp hmb
    go_wp2_with fail
    have hK := HK.out
    refine ⟨by simp, .inl ⟨_, _, rfl, run_takeDeferred hK, ?_⟩⟩
    refine ⟨_, results_tmp (t := 2) rfl _ _ _, ⟨_, rfl, HE.out, HB.out.trans (belowK_b (w := w) (Nat.le_refl _) _ D _ _ (by omega) hK rfl rfl)⟩⟩

end Go.Proofs.Ytljpiafopbfdlaa
