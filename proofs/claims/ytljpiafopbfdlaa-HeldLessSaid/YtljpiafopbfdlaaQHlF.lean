/- Package held: how often sections are held: a map; holds. -/
import Derived.RangeFuncNested
import Derived.RangeFuncBound
import Derived.RangeFuncCalls
import Derived.RangeFuncLeaves
import Derived.RangeFuncBox
import Derived.Shelf.Abstract
import Derived.Shelf.RegionOpen
import Derived.WalkKit
import Derived.OwnWalkIn
import Derived.TacticsInMore
import Derived.LoopNIn
import Derived.LoopIn
import Derived.WalkMore
import Derived.Deep.CutRange
import Derived.Maps.OwnSet
import Derived.Test.YtljpiafopbfdlaaQHlE
namespace Go.Proofs.Ytljpiafopbfdlaa
open Go.Maps Go.RowKit Go.Shelf
set_option linter.unusedVariables false
set_option linter.unusedSimpArgs false
attribute [local go_sem] Oper.semAt_some
/-- The map in block b counts these numbers. -/
def CntIs (W : World) (b : Nat) (xs : List Int) : Prop := ∃ D : DataW Unit, W.ownsMap Try.prog 3 (plainElem Try.prog 3) b xs.length D ∧ ∀ p, (Lit.int .i64 p).wf = true → D.atKey (.int .i64 p) (.lit (.int .i64 0)) = .lit (.int .i64 (xs.count p : Nat))
theorem CntIs.made (w : World) : CntIs (w.alloc (.map #[] 0)) w.heap.size [] := ⟨_, World.ownsMap_made _ _ _ _, fun p _ => rfl⟩
theorem CntIs.same {W W' : World} {b : Nat} {xs : List Int} (h : CntIs W b xs) (hb : ∀ o, W.heap[b]? = some o → W'.heap[b]? = some o) : CntIs W' b xs := by
  obtain ⟨D, ⟨es, clock, h1, h2⟩, h3⟩ := h
  exact ⟨D, ⟨es, clock, hb _ h1, h2⟩, h3⟩
theorem CntIs.lt {W : World} {b : Nat} {xs : List Int} (h : CntIs W b xs) : b < W.heap.size := let ⟨_, h1, _⟩ := h; h1.lt
theorem CntIs.below {W W' : World} {b : Nat} {xs : List Int} (h : CntIs W b xs) (hb : Below W.heap.size W W') : CntIs W' b xs := h.same fun o ho => (hb.block b h.lt).trans ho
theorem CntIs.look {W : World} {b : Nat} {xs : List Int} (h : CntIs W b xs) {p : Int} (hp : (Lit.int .i64 p).wf = true) : (Instr.lookup 74 (.map (some b)) (.int .i64 p) false).run Try.prog W = .ok (.int .i64 (xs.count p : Nat)) W := by
  obtain ⟨D, h1, h2⟩ := h
  obtain ⟨c, hrun, hat, _⟩ := h1.lookup_int lawK13 Try.underlying74 Try.underlying3 (zero13 _) (keyOf_int_mk Try.underlying3 hp)
  rw [h2 p hp] at hat
  cases hat
  exact hrun
theorem CntIs.put {W : World} {b : Nat} {xs : List Int} (h : CntIs W b xs) {x : Int} (hx : (Lit.int .i64 x).wf = true) (hn : xs.length ≤ 1000000) : ∃ W', (Instr.mapUpdate 74 (.map (some b)) (.int .i64 x) (.int .i64 ((xs.count x : Nat) + 1))).run Try.prog W = .ok () W' ∧ CntIs W' b (xs ++ [x]) ∧ W.grownBy W' (some b) := by
  obtain ⟨D, h1, h2⟩ := h
  have hc : xs.count x ≤ xs.length := List.count_le_length
  have hw : (Lit.int .i64 ((xs.count x : Nat) + 1)).wf = true := (Lit.wf_int_iff .i64 _).2 ⟨by show (-9223372036854775808 : Int) ≤ _; omega, by show _ ≤ (9223372036854775807 : Int); omega⟩
  obtain ⟨W', hrun, hown, hg⟩ := h1.update lawK13 Try.underlying74 (by unfold maxLen; omega) (keyOf_int_mk Try.underlying3 hx) (plainElem_int Try.underlying3 hw)
  refine ⟨W', hrun, ⟨_, by rw [List.length_append]; exact hown, fun p hp => ?_⟩, hg⟩
  have hk : ∀ q : Int, WideAt.IsKeyLit (.int .i64 q) := fun q => trivial
  by_cases e : p = x
  · subst e
    rw [atKey_put_same h1.isMap (hk _) _ _, List.count_append]
    simp
  · have hne : (Lit.int .i64 p) ≠ .int .i64 x := fun h => e (by injection h)
    rw [atKey_put_other hne _ _, h2 p hp, List.count_append]
    simp [List.count_cons, Ne.symm e]
/-- What tells whether a section is still held, and what it holds. -/
structure CntAt (xs : List Int) (n : Nat) (v : Value) (W : World) : Prop where
  at' : ∃ g b : Nat, v = .func (.func 54) #[] #[.pointer (some ⟨g, 0, none⟩)] ∧ n ≤ g ∧ n ≤ b ∧ Whole W g 74 [.map (some b)] ∧ CntIs W b xs
theorem CntAt.closed (xs : List Int) (n : Nat) (v : Value) : Closed (CntAt xs n v) := fun w w' ⟨g, b, hv, n1, n2, h1, h2⟩ hb => ⟨g, b, hv, n1, n2, h1.below hb h1.lt, h2.below hb⟩
set_option maxRecDepth 100000 in
set_option maxHeartbeats 8000000 in
theorem holds1_any {xs : List Int} {g b : Nat} {w : World} (hb : Whole w g 74 [.map (some b)]) (hc : CntIs w b xs) {s : Int} (hs : (Lit.int .i64 s).wf = true) {r : Bool} (hr : xs.any (fun t => s == t) = r) :
    Calls Try.prog 54 #[.int .i64 s, .pointer (some ⟨g, 0, none⟩)] w fun e w' => e = .returned (.bool r) ∧ w' = w := by
  have hlk := hc.look hs
  have c0 := hb.cell_at 0 rfl
  obtain ⟨n, hn⟩ : ∃ n, xs.count s = n := ⟨_, rfl⟩
  have HR : Hid (decide (0 < n) = r) := Lib.hid (by
    rw [← hr, ← hn, Bool.eq_iff_iff, decide_eq_true_eq, List.count_pos_iff, List.any_eq_true]
    exact ⟨fun h => ⟨s, h, by simp⟩, fun ⟨t, ht, e⟩ => by rw [beq_iff_eq] at e; exact e ▸ ht⟩)
  rw [hn] at hlk
  clear hb hc hs hr hn
  go_enter Try.func54, Try.ntmps54
  go_wp2_with fail
  go_ret
  exact ⟨ret_bool HR.out, rfl⟩
/-- What a round of holds knows. -/
structure HoI (w : World) (xs : List Int) (j : Nat) (W : World) : Prop where
  below : Below w.heap.size w W
  size : w.heap.size + 1 + 1 + 1 + 1 ≤ W.heap.size
  mb : Whole W (w.heap.size + 1 + 1) 74 [.map (some (w.heap.size + 1))]
  mp : CntIs W (w.heap.size + 1) (xs.take j)
theorem HoI.safe (w : World) (xs : List Int) : Safe (w.heap.size + 1 + 1 + 1 + 1) (fun (_ : Nat → Prop) => HoI w xs) := by
  rintro U j W W' ⟨h1, h2, h3, h4⟩ ht
  exact ⟨Safe.below (β := Unit) (B := w.heap.size + 1 + 1 + 1 + 1) (by omega) (Nat.le_refl _) U () W W' h1 ht, Nat.le_trans h2 ht.size, ht.whole h3 (.inl (by omega)), h4.same (fun o ho => ht.rest _ o ho (.inl (by omega)))⟩
theorem HoI.next {w W W' : World} {xs : List Int} {j : Nat} {x : Int} (h : HoI w xs j W) (hx : xs[j]? = some x) (hm : CntIs W' (w.heap.size + 1) (xs.take j ++ [x])) (hg : W.grownBy W' (some (w.heap.size + 1))) : HoI w xs (j + 1) W' := by
  obtain ⟨h1, h2, h3, h4⟩ := h
  have e : xs.take (j + 1) = xs.take j ++ [x] := by rw [List.take_add_one, hx]; rfl
  exact ⟨h1.grown hg (by omega) (fun b hb => by have := Option.some.inj hb; omega), Nat.le_trans h2 hg.size, h3.kept hg (fun e => by have := Option.some.inj e; omega), by rw [e]; exact hm⟩
set_option maxRecDepth 100000 in
set_option maxHeartbeats 32000000 in
theorem holds_any {h : Hld} {w : World} (hl : HLies h w) (hw : HWf h) (hsm : Small h) : Calls Try.prog 32 #[h.val] w fun e w' => ∃ v, e = .returned v ∧ CntAt h.secs w.heap.size v w' ∧ Below w.heap.size w w' := by
  have HL := Lib.hid hl
  have hlen := secs_le hsm
  have hwf := secs_wf hw
  obtain ⟨xs, hxs⟩ : ∃ xs, h.secs = xs := ⟨_, rfl⟩
  have HXS := Lib.hid hxs
  rw [hxs] at hlen hwf ⊢
  have HWF := Lib.hid hwf
  have HLN := Lib.hid hlen
  obtain ⟨W3, hW3, hs3, hB3, b0, b1, b2⟩ : ∃ W3, ((w.alloc (.cells h.cells.toArray 28)).alloc (.map #[] 0)).alloc (.cells #[.map (some (w.heap.size + 1))] 74) = W3 ∧ W3.heap.size = w.heap.size + 1 + 1 + 1 ∧ Below w.heap.size w W3 ∧ Whole W3 w.heap.size 28 h.cells ∧ CntIs W3 (w.heap.size + 1) [] ∧ Whole W3 (w.heap.size + 1 + 1) 74 [.map (some (w.heap.size + 1))] :=
    ⟨_, rfl, by simp, below3 w _ _ _, ((Whole.new w _ h.cells).alloc _).alloc _, by
      have h0 := CntIs.made (w.alloc (.cells h.cells.toArray 28))
      rw [World.size_alloc] at h0
      exact h0.below (below1 _ _), Whole.new_at _ _ [_] _ (by simp)⟩
  have HW3 := Lib.hid hW3
  have HS3 := Lib.hid hs3
  have HB3 := Lib.hid (And.intro hB3 (And.intro b0 (And.intro b1 b2)))
  clear hl hxs hW3 hs3 hB3 b0 b1 b2 hwf hlen hw hsm
  have hmm := @run_makeMap Try.prog
  refine (callsIn_wide (n := 5)).1 ?_
  refine callsIn_of_wp_marks Try.func32 rfl trivial ?_ rfl
  simp only [Try.ntmps32, List.size_toArray, List.length_cons, List.length_nil, Nat.reduceAdd, Nat.reduceSub, Array.replicate_succ, Array.replicate_zero, List.push_toArray, List.append_toArray, List.nil_append, List.cons_append]
  refine wpIn_wide.2 ?_
  go_upto_region 2 with (fail)
  try simp only [World.size_alloc]
  rw [HW3.out]
  clear hmm
  apply wp_region_lit
  repeat (first | (refine wpList_skip (by rfl) ?_; simp only [Act.put, List.setIfInBounds_toArray, List.set_cons_zero, List.set_cons_succ]) | (refine wpList_read _ (by rfl) (exec_hld (by rfl) (by rfl) HB3.out.2.1) ?_; simp only [Act.put, List.setIfInBounds_toArray, List.set_cons_zero, List.set_cons_succ]) | (refine wpList_read _ (by rfl) (by (go_simp; first | done | with_reducible rfl)) ?_; simp only [Act.put, List.setIfInBounds_toArray, List.set_cons_zero, List.set_cons_succ]))
  refine wpList_callv (by rfl) (by (go_simp; first | done | rfl)) (sections_any _) (fun w4 hw4 => ?_)
  simp only [Act.put, List.setIfInBounds_toArray, List.set_cons_zero, List.set_cons_succ]
  obtain ⟨W0, hW0⟩ : ∃ W0, W3.alloc (.cells h.cells.toArray 28) = W0 := ⟨_, rfl⟩
  have hsz : W0.heap.size = w.heap.size + 1 + 1 + 1 + 1 := by rw [← hW0]; simp [HS3.out]
  have hB : Below W3.heap.size W3 W0 := by rw [← hW0]; exact below1 _ _
  have hB0 : Below w.heap.size w W0 := HB3.out.1.trans (hB.mono HB3.out.1.size)
  have b3 : Whole W0 (w.heap.size + 1 + 1 + 1) 28 h.cells := by rw [← hW0]; exact Whole.new_at _ _ h.cells _ HS3.out.symm
  have b1 := HB3.out.2.2.1.below hB
  have b2 := HB3.out.2.2.2.below hB HB3.out.2.2.2.lt
  rw [hW0] at hw4
  obtain rfl : W0 = w4 := hw4.symm
  rw [HS3.out]
  have hit := secs_iter (w0 := W0) (n1 := w.heap.size + 1 + 1 + 1) (n2 := w.heap.size + 1 + 1 + 1 + 1) HL.out (fun k o hk ho => (hB0.block k hk).trans ho) ⟨Nat.le_refl _, by omega⟩ b3
  rw [HXS.out] at hit
  have HSZ := Lib.hid hsz
  have HI0 : Hid (HoI w xs 0 W0) := Lib.hid ⟨hB0, by omega, b2, b1⟩
  clear hW0 hB hB0 b3 b1 b2 HL HB3
  go_wp2_with fail
  refine (wpIn_wide (n := 5)).1 ?_
  refine range_iterU (gf := 49) rfl (enters_of Try.func49 (by kernel_rfl) rfl) hit (Keeps.refl _ _) (fun k hk => by have := HSZ.out; rcases hk with h | h <;> omega) (fun _ => rfl) (by omega)
    (fun _ => HoI w xs) (fun _ _ _ => False)
    (by rw [hsz]; exact HoI.safe w xs)
    (fun _ => by rw [hsz]; exact fun _ _ _ _ h _ => h.elim)
    HI0.out
    (fun U j x a' W => HoI w xs j W ∧ a' = { tmps := #[h.val, .pointer (some ⟨w.heap.size, 0, none⟩), .nilFunc, .pointer (some ⟨w.heap.size + 1 + 1, 0, none⟩), .int .i64 x, .map (some (w.heap.size + 1)), h.val, .func (.func 49) #[] #[.pointer (some ⟨w.heap.size + 1 + 1 + 1, 0, none⟩)], .int .i64 x, undef, undef, undef, undef, undef], defers := [] })
    (fun j x a' => by
      rw [hsz]
      rintro U u W W' ⟨h1, h2⟩ ht
      exact ⟨HoI.safe w xs U _ _ _ h1 ht, h2⟩)
    ?assign ?body ?done ?stop
  case assign =>
    rintro lr U j x W K hx hI hsW hU hK
    gi_wp2_with fail
    exact hK _ _ U (Grew.refl hU (Nat.le_refl _)) (Kept.below (Below.refl _ _)) ⟨hI, rfl⟩
  case body =>
    rintro lr U j x a' W hl hx ⟨hI, rfl⟩ hU
    have hxw := HWF.out x (List.mem_of_getElem? hx)
    have y0 := hI.mb.cell_at 0 rfl
    have hlk := hI.mp.look hxw
    obtain ⟨n, hn⟩ : ∃ n, (xs.take j).count x = n := ⟨_, rfl⟩
    have hnle : n ≤ 50 := by
      have h1 : (xs.take j).count x ≤ (xs.take j).length := List.count_le_length
      have h2 := HLN.out
      rw [List.length_take] at h1
      omega
    obtain ⟨W', hput, hm, hg⟩ := hI.mp.put hxw (by rw [List.length_take]; have := HLN.out; omega)
    rw [hn] at hlk hput
    have HIN := Lib.hid (hI.next hx hm hg)
    have HU := Lib.hid hU
    have hsI := hI.size
    have HKept : Hid (Kept (fun k => k < w.heap.size ∨ (w.heap.size + 1 + 1 + 1 ≤ k ∧ k < w.heap.size + 1 + 1 + 1 + 1)) (w.heap.size + 1 + 1 + 1 + 1) U W W') := Lib.hid ⟨hg.size, fun k o ho hr => (hg.block k (Array.getElem?_eq_some_iff.1 ho).1 (fun e => by
      have e' := Option.some.inj e
      rcases hr with hr | hr
      · rcases hr with hr | hr <;> omega
      · omega)).trans ho⟩
    have HS := Lib.hid hg.size
    have hadd : IntKind.i64.wrap ((n : Int) + 1) = (n : Int) + 1 := IntWalk.i64_in _ (by omega)
    clear hI hx hU hm hg hit hn hsI hxw
    gi_wp2_with fail
    exact ⟨U, Grew.refl HU.out HS.out, by rw [HSZ.out]; exact HKept.out, HIN.out⟩
  case stop =>
    rintro D c U W _ _ h _
    exact h.elim
  case done =>
    rintro D U W hD hUD hI hK
    have hmp := hI.mp
    rw [List.take_length] at hmp
    have hmb := hI.mb
    have hsz := HSZ.out
    have HB := Lib.hid hI.below
    have HE : Hid (CntAt xs w.heap.size (.func (.func 54) #[] #[.pointer (some ⟨w.heap.size + 1 + 1, 0, none⟩)]) (W.putObj D (.deferred none))) := Lib.hid ⟨w.heap.size + 1 + 1, w.heap.size + 1, rfl, by omega, by omega, hmb.putDone (o' := .deferred none) hK, hmp.same (fun o ho => (World.putObj_heap_other (by omega)).trans ho)⟩
    have HK := Lib.hid hK
    clear hI hit hK hmp hmb
    go_wp2_with fail
    have hK := HK.out
    refine ⟨by simp, .inl ⟨_, _, rfl, run_takeDeferred hK, ?_⟩⟩
    refine ⟨_, results_tmp (t := 2) rfl _ _ _, ⟨_, rfl, HE.out, HB.out.trans (belowK_b (w := w) (Nat.le_refl _) _ D _ _ (by omega) hK rfl rfl)⟩⟩

end Go.Proofs.Ytljpiafopbfdlaa
