/- Package need: do needs that are given one by one clash? -/
import Derived.Maps.OwnSet
import Derived.Laws.EntriesVeiled
import Derived.RangeFuncNested
import Derived.RangeFuncBound
import Derived.RangeFuncCalls
import Derived.RangeFuncLeaves
import Derived.RangeFuncBox
import Derived.Shelf.Abstract
import Derived.Shelf.RegionOpen
import Derived.WalkKit
import Derived.OwnWalkIn
import Derived.TacticsInMore
import Derived.LoopNIn
import Derived.LoopIn
import Derived.WalkMore
import Derived.Test.YtljpiafopbfdlaaQAo
namespace Go.Proofs.Ytljpiafopbfdlaa
open Go.Maps Go.RowKit Go.Shelf
set_option linter.unusedVariables false
set_option linter.unusedSimpArgs false

attribute [local go_sem] Oper.semAt_some

/-- The numbers of a need are such as int holds. -/
def NWf (x : Int × Int × Int) : Prop := (Lit.int .i64 x.1).wf = true ∧ (Lit.int .i64 x.2.1).wf = true
theorem atN_snoc (ns : List (Int × Int × Int)) (x : Int × Int × Int) (p : Int) : atN (ns ++ [x]) p = (atN ns p).or (if x.1 == p then some x else none) := by
  unfold atN
  rw [List.find?_append]
  cases h : (x.1 == p) <;> simp [h]
theorem at13_snoc {ns : List (Int × Int × Int)} {x : Int × Int × Int} (h : (at13 ns x.1).2 = true) (p : Int) : at13 (ns ++ [x]) p = at13 ns p := by
  unfold at13 at *
  rw [atN_snoc]
  cases ha : atN ns p with
  | some a => rfl
  | none =>
    by_cases e : x.1 = p
    · subst e
      rw [ha] at h
      cases h
    · simp [e]
theorem at13_new {ns : List (Int × Int × Int)} {x : Int × Int × Int} (h : (at13 ns x.1).2 = false) : at13 (ns ++ [x]) x.1 = (x.2.1, true) := by
  unfold at13 at *
  rw [atN_snoc]
  cases ha : atN ns x.1 with
  | some a => rw [ha] at h; cases h
  | none => simp
theorem at13_other {ns : List (Int × Int × Int)} {x : Int × Int × Int} {p : Int} (h : p ≠ x.1) : at13 (ns ++ [x]) p = at13 ns p := by
  unfold at13
  rw [atN_snoc]
  have : (x.1 == p) = false := by simp; exact fun e => h e.symm
  rw [this]
  simp
theorem at13_yes {ns : List (Int × Int × Int)} {p : Int} (h : (at13 ns p).2 = true) : ∃ a ∈ ns, a.1 = p ∧ a.2.1 = (at13 ns p).1 := by
  unfold at13 at *
  cases ha : atN ns p with
  | some a => exact ⟨a, (at_some ha).1, (at_some ha).2, rfl⟩
  | none => rw [ha] at h; cases h
theorem at13_no {ns : List (Int × Int × Int)} {p : Int} (h : (at13 ns p).2 = false) : ∀ a ∈ ns, a.1 ≠ p := by
  unfold at13 at h
  cases ha : atN ns p with
  | some a => rw [ha] at h; cases h
  | none => exact at_none.1 ha
theorem at13_mem {ns : List (Int × Int × Int)} {a : Int × Int × Int} (h : a ∈ ns) : (at13 ns a.1).2 = true := by
  cases hb : (at13 ns a.1).2
  · exact absurd rfl (at13_no hb a h)
  · rfl
theorem clash_snoc (ns : List (Int × Int × Int)) (x : Int × Int × Int) : clashN (ns ++ [x]) = (clashN ns || ((at13 ns x.1).2 && ((at13 ns x.1).1 != x.2.1))) := by
  rw [Bool.eq_iff_iff, Bool.or_eq_true, Bool.and_eq_true, bne_iff_ne]
  constructor
  · intro h
    cases hc : clashN ns
    · right
      obtain ⟨a, ha, b, hb, h1, h2⟩ := clash_iff.1 h
      have key : ∀ a ∈ ns, a.1 = x.1 → a.2.1 ≠ x.2.1 → (at13 ns x.1).2 = true ∧ (at13 ns x.1).1 ≠ x.2.1 := fun a ha h1 h2 => by
        have h3 : (at13 ns x.1).2 = true := by rw [← h1]; exact at13_mem ha
        refine ⟨h3, fun e => ?_⟩
        obtain ⟨b, hb, hb1, hb2⟩ := at13_yes h3
        rw [clash_iff.2 ⟨a, ha, b, hb, by rw [h1, hb1], by rw [hb2, e]; exact h2⟩] at hc
        cases hc
      rw [List.mem_append] at ha hb
      rcases ha with ha | ha <;> rcases hb with hb | hb
      · rw [clash_iff.2 ⟨a, ha, b, hb, h1, h2⟩] at hc; cases hc
      · obtain rfl : b = x := by simpa using hb
        exact key a ha h1 h2
      · obtain rfl : a = x := by simpa using ha
        exact key b hb h1.symm (Ne.symm h2)
      · obtain rfl : a = x := by simpa using ha
        obtain rfl : b = a := by simpa using hb
        exact absurd rfl h2
    · exact .inl rfl
  · rintro (h | ⟨h1, h2⟩)
    · exact clash_sub (fun a ha => List.mem_append_left _ ha) h
    · obtain ⟨a, ha, ha1, ha2⟩ := at13_yes h1
      exact clash_iff.2 ⟨a, List.mem_append_left _ ha, x, List.mem_append_right _ (by simp), ha1, by rw [ha2]; exact h2⟩

theorem lawK13 : Keyed Try.prog 3 := int_keyed Try.underlying3
theorem zero13 (w : World) : (zeroValue 3).run Try.prog w = .ok (.int .i64 0) w := by kernel_rfl
/-- The map in block b tells where each point is first wanted. -/
def MapIs (W : World) (b : Nat) (ns : List (Int × Int × Int)) : Prop := ∃ D : DataW Unit, W.ownsMap Try.prog 3 (plainElem Try.prog 3) b ns.length D ∧ ∀ p, (Lit.int .i64 p).wf = true → Maps.has D (.int .i64 p) = (at13 ns p).2 ∧ D.atKey (.int .i64 p) (.lit (.int .i64 0)) = .lit (.int .i64 (at13 ns p).1)
theorem MapIs.made (w : World) : MapIs (w.alloc (.map #[] 0)) w.heap.size [] := ⟨_, World.ownsMap_made _ _ _ _, fun p _ => ⟨rfl, rfl⟩⟩
theorem MapIs.same {W W' : World} {b : Nat} {ns : List (Int × Int × Int)} (h : MapIs W b ns) (hb : ∀ o, W.heap[b]? = some o → W'.heap[b]? = some o) : MapIs W' b ns := by
  obtain ⟨D, ⟨es, clock, h1, h2⟩, h3⟩ := h
  exact ⟨D, ⟨es, clock, hb _ h1, h2⟩, h3⟩
theorem MapIs.lt {W : World} {b : Nat} {ns : List (Int × Int × Int)} (h : MapIs W b ns) : b < W.heap.size := let ⟨_, h1, _⟩ := h; h1.lt
theorem MapIs.look {W : World} {b : Nat} {ns : List (Int × Int × Int)} (h : MapIs W b ns) {p : Int} (hp : (Lit.int .i64 p).wf = true) {c : Int} {ok : Bool} (hat : at13 ns p = (c, ok)) : (Instr.lookup 74 (.map (some b)) (.int .i64 p) true).run Try.prog W = .ok (.tuple #[.int .i64 c, .bool ok]) W := by
  obtain ⟨D, h1, h2⟩ := h
  obtain ⟨v, ps, hrun, hv⟩ := h1.look_ok lawK13 Try.underlying74 (zero13 _) (plainElem_int Try.underlying3 (by decide)) (keyOf_int_mk Try.underlying3 hp)
  obtain ⟨h3, h4⟩ := h2 p hp
  rw [h4, hat] at hv
  rw [h3, hat] at hrun
  obtain ⟨c', rfl, hc, _⟩ := plainElem_int_inv Try.underlying3 hv
  have : (DataW.lit (Lit.int .i64 c) : DataW Unit) = .lit (.int .i64 c') := congrArg Prod.fst hc
  cases this
  exact hrun
theorem MapIs.put {W : World} {b : Nat} {ns : List (Int × Int × Int)} (h : MapIs W b ns) {x : Int × Int × Int} (hx : NWf x) (hno : (at13 ns x.1).2 = false) (hn : ns.length ≤ 1000000) : ∃ W', (Instr.mapUpdate 74 (.map (some b)) (.int .i64 x.1) (.int .i64 x.2.1)).run Try.prog W = .ok () W' ∧ MapIs W' b (ns ++ [x]) ∧ W.grownBy W' (some b) := by
  obtain ⟨D, h1, h2⟩ := h
  obtain ⟨W', hrun, hown, hg⟩ := h1.update lawK13 Try.underlying74 (by unfold maxLen; omega) (keyOf_int_mk Try.underlying3 hx.1) (plainElem_int Try.underlying3 hx.2)
  refine ⟨W', hrun, ⟨_, by rw [List.length_append]; exact hown, fun p hp => ?_⟩, hg⟩
  have hk : ∀ q : Int, WideAt.IsKeyLit (.int .i64 q) := fun q => trivial
  by_cases e : p = x.1
  · subst e
    rw [at13_new hno]
    exact ⟨has_put_same h1.isMap (hk _) _, atKey_put_same h1.isMap (hk _) _ _⟩
  · have hne : (Lit.int .i64 p) ≠ .int .i64 x.1 := fun h => e (by injection h)
    rw [at13_other e]
    exact ⟨(has_put_other hne _).trans (h2 p hp).1, (atKey_put_other hne _ _).trans (h2 p hp).2⟩

set_option maxRecDepth 100000 in
set_option maxHeartbeats 32000000 in
theorem other13_any {b g : Nat} {ns : List (Int × Int × Int)} {w : World} (x1 x2 x3 : Int) (hx : NWf (x1, x2, x3)) (hbox : Whole w g 74 [.map (some b)]) (hM : MapIs w b ns) (hn : ns.length ≤ 1000000) {r : Bool} (hr : ((at13 ns x1).2 && ((at13 ns x1).1 != x2)) = r) :
    Calls Try.prog 66 #[stpV x1 x2 x3, .pointer (some ⟨g, 0, none⟩)] w fun e w' => e = .returned (.bool r) ∧ MapIs w' b (ns ++ [(x1, x2, x3)]) ∧ w.grownBy w' (some b) := by
  obtain ⟨W1, hW1⟩ : ∃ W1, w.alloc (.cells #[.int .i64 x1, .int .i64 x2, .int .i64 x3] 40) = W1 := ⟨_, rfl⟩
  have hB1 : w.grownBy W1 none := by rw [← hW1]; exact World.grownBy_alloc w _ none
  have hM1 : MapIs W1 b ns := hM.same fun o ho => (hB1.block b hM.lt (by simp)).trans ho
  have hb1 : Whole W1 g 74 [.map (some b)] := hbox.kept hB1 (by simp)
  have hbw : Whole W1 w.heap.size 40 [.int .i64 x1, .int .i64 x2, .int .i64 x3] := by rw [← hW1]; exact Whole.new _ _ [_, _, _]
  obtain ⟨⟨c, ok⟩, hat⟩ : ∃ z, at13 ns x1 = z := ⟨_, rfl⟩
  have hlk := hM1.look (p := x1) hx.1 hat
  rw [hat] at hr
  cases ok
  · obtain ⟨W2, hput, hM2, hg2⟩ := hM1.put hx (by rw [hat]) hn
    have HE : Hid (MapIs W2 b (ns ++ [(x1, x2, x3)]) ∧ w.grownBy W2 (some b)) := Lib.hid ⟨hM2, (show w.grownBy W1 (some b) from ⟨hB1.os, hB1.tape, hB1.output, hB1.size, fun k hk _ => hB1.block k hk (by simp)⟩).trans hg2⟩
    have HF : Hid (false = r) := Lib.hid (by rw [← hr]; rfl)
    rw [← hW1] at hb1 hbw hlk hput
    have g0 := hb1.cell_at 0 rfl
    have x0 := hbw.cell_at 0 rfl
    have x1 := hbw.cell_at 1 rfl
    have x2 := hbw.cell_at 2 rfl
    clear hb1 hbw hM hM1 hM2 hg2 hB1 hW1 hbox hat hr
    go_enter Try.func66, Try.ntmps66
    go_wp2_with fail
    go_ret
    exact ⟨ret_bool HF.out, HE.out⟩
  · have HE : Hid (MapIs W1 b (ns ++ [(x1, x2, x3)]) ∧ w.grownBy W1 (some b)) := Lib.hid ⟨by
      obtain ⟨D, ⟨es, clock, h0, h1, h2, h3⟩, h4⟩ := hM1
      exact ⟨D, ⟨es, clock, h0, h1, by rw [List.length_append]; omega, h3⟩, fun p hp => by rw [at13_snoc (by rw [hat])]; exact h4 p hp⟩, ⟨hB1.os, hB1.tape, hB1.output, hB1.size, fun k hk _ => hB1.block k hk (by simp)⟩⟩
    have HF : Hid ((c != x2) = r) := Lib.hid (by rw [← hr]; rfl)
    rw [← hW1] at hb1 hbw hlk HE
    have g0 := hb1.cell_at 0 rfl
    have y0 := hbw.cell_at 0 rfl
    have y1 := hbw.cell_at 1 rfl
    have y2 := hbw.cell_at 2 rfl
    clear hb1 hbw hM hM1 hB1 hW1 hbox hat hr
    go_enter Try.func66, Try.ntmps66
    go_wp2_with fail
    go_ret
    exact ⟨ret_bool HF.out, HE.out⟩
/-- What a round of clash knows. -/
structure ClI (w : World) (ns : List (Int × Int × Int)) (j : Nat) (W : World) : Prop where
  below : Below w.heap.size w W
  size : w.heap.size + 4 ≤ W.heap.size
  rb : Whole W w.heap.size 4 [.bool false]
  mb : Whole W (w.heap.size + 1 + 1) 74 [.map (some (w.heap.size + 1))]
  fb : Whole W (w.heap.size + 1 + 1 + 1) 60 [.func (.func 66) #[] #[.pointer (some ⟨w.heap.size + 1 + 1, 0, none⟩)]]
  mp : MapIs W (w.heap.size + 1) (ns.take j)
  no : clashN (ns.take j) = false
theorem ClI.safe (w : World) (ns : List (Int × Int × Int)) : Safe (w.heap.size + 4) (fun (_ : Nat → Prop) => ClI w ns) := by
  rintro U j W W' ⟨h1, h2, h3, h4, h5, h6, h7⟩ ht
  exact ⟨Safe.below (β := Unit) (B := w.heap.size + 4) (by omega) (Nat.le_refl _) U () W W' h1 ht, Nat.le_trans h2 ht.size, ht.whole h3 (.inl (by omega)), ht.whole h4 (.inl (by omega)), ht.whole h5 (.inl (by omega)), h6.same (fun o ho => ht.rest _ o ho (.inl (by omega))), h7⟩
theorem ClI.next {w W W' : World} {ns : List (Int × Int × Int)} {j : Nat} {x : Int × Int × Int} (h : ClI w ns j W) (hx : ns[j]? = some x) (hm : MapIs W' (w.heap.size + 1) (ns.take j ++ [x])) (hg : W.grownBy W' (some (w.heap.size + 1))) (hr : ((at13 (ns.take j) x.1).2 && ((at13 (ns.take j) x.1).1 != x.2.1)) = false) : ClI w ns (j + 1) W' := by
  obtain ⟨h1, h2, h3, h4, h5, h6, h7⟩ := h
  have e : ns.take (j + 1) = ns.take j ++ [x] := by rw [List.take_add_one, hx]; rfl
  refine ⟨h1.grown hg (by omega) (fun b hb => by have := Option.some.inj hb; omega), Nat.le_trans h2 hg.size, h3.kept hg (fun e => by have := Option.some.inj e; omega), h4.kept hg (fun e => by have := Option.some.inj e; omega), h5.kept hg (fun e => by have := Option.some.inj e; omega), by rw [e]; exact hm, ?_⟩
  rw [e, clash_snoc, h7, hr]
  rfl

set_option maxRecDepth 100000 in
set_option maxHeartbeats 32000000 in
theorem clash13_any {w0 w : World} {gf : Nat} {lb : Array Value} {ns : List (Int × Int × Int)} {R : Nat → Prop} (hit : ∀ W, Below w.heap.size w W → IterU Try.prog gf lb (fun x : Int × Int × Int => #[stpV x.1 x.2.1 x.2.2]) ns R W) (eg : ∀ args w, (callFunc gf args).run Try.prog w = .ok (.enter gf args) w) (hRl : ∀ k, R k → k < w.heap.size) (hW : ∀ x ∈ ns, NWf x) (hn : ns.length ≤ 1000000) {r : Bool} (hr : clashN ns = r) :
    Calls Try.prog 61 #[.func (.func gf) #[] lb] w fun e w' => e = .returned (.bool r) ∧ Below w.heap.size w w' := by
  have HHR := Lib.hid hr
  have HEG := Lib.hid eg
  have HRl := Lib.hid hRl
  have HWF := Lib.hid hW
  have HNL := Lib.hid hn
  have hmm := @run_makeMap Try.prog
  clear hr eg hRl hW hn
  refine (callsIn_wide (n := 5)).1 ?_
  refine callsIn_of_wp_marks Try.func61 rfl trivial ?_ rfl
  simp only [Try.ntmps61, List.size_toArray, List.length_cons, List.length_nil, Nat.reduceAdd, Nat.reduceSub, Array.replicate_succ, Array.replicate_zero, List.push_toArray, List.append_toArray, List.nil_append, List.cons_append]
  gi_wp2_with fail
  obtain ⟨W0, hW0, hsz, hB0, b0, b1, b2, b3⟩ : ∃ W0, (((w.alloc (.cells #[.bool false] 4)).alloc (.map #[] 0)).alloc (.cells #[.map (some (w.heap.size + 1))] 74)).alloc (.cells #[.func (.func 66) #[] #[.pointer (some ⟨w.heap.size + 1 + 1, 0, none⟩)]] 60) = W0 ∧ W0.heap.size = w.heap.size + 4 ∧ Below w.heap.size w W0 ∧ Whole W0 w.heap.size 4 [.bool false] ∧ MapIs W0 (w.heap.size + 1) [] ∧ Whole W0 (w.heap.size + 1 + 1) 74 [.map (some (w.heap.size + 1))] ∧ Whole W0 (w.heap.size + 1 + 1 + 1) 60 [.func (.func 66) #[] #[.pointer (some ⟨w.heap.size + 1 + 1, 0, none⟩)]] :=
    ⟨_, rfl, by simp, (below3 w _ _ _).alloc (by simp; omega) _, (((Whole.new w _ [_]).alloc _).alloc _).alloc _, by
      have h := MapIs.made (w.alloc (.cells #[.bool false] 4))
      have e : (w.alloc (.cells #[.bool false] 4)).heap.size = w.heap.size + 1 := by simp
      rw [e] at h
      exact h.same (fun o ho => by
        have hl := (Array.getElem?_eq_some_iff.1 ho).1
        exact ((below2 ((w.alloc (.cells #[.bool false] 4)).alloc (.map #[] 0)) _ _).block _ hl).trans ho), (Whole.new_at _ _ [_] _ (by simp)).alloc _, Whole.new_at _ _ [_] _ (by simp)⟩
  rw [hW0]
  have hit0 := hit W0 hB0
  have HSZ := Lib.hid hsz
  clear hW0 hit hmm
  refine range_iterU (gf := gf) rfl HEG.out hit0 (Keeps.refl _ _) (fun k hk => by have := HRl.out k hk; have := HSZ.out; omega) (fun _ => rfl) (by omega)
    (fun _ => ClI w ns)
    (fun c _ W => c = .ret ∧ (Below w.heap.size w W ∧ Whole W w.heap.size 4 [.bool true] ∧ clashN ns = true))
    (by rw [hsz]; exact ClI.safe w ns)
    (fun c => by
      rw [hsz]
      rintro U u W W' ⟨h1, h2, h3, h4⟩ ht
      exact ⟨h1, Safe.below (β := Unit) (B := w.heap.size + 4) (by omega) (Nat.le_refl _) U () W W' h2 ht, ht.whole h3 (.inl (by omega)), h4⟩)
    ⟨hB0, by omega, b0, b2, b3, b1, rfl⟩
    (fun U j x a' W => ClI w ns j W ∧ ∃ gp, Whole W gp 40 (needCells x) ∧ U gp ∧ a' = { tmps := #[.func (.func gf) #[] lb, undef, .pointer (some ⟨w.heap.size, 0, none⟩), .pointer (some ⟨w.heap.size + 1 + 1, 0, none⟩), .pointer (some ⟨w.heap.size + 1 + 1 + 1, 0, none⟩), .pointer (some ⟨gp, 0, none⟩), .map (some (w.heap.size + 1)), .func (.func 66) #[] #[.pointer (some ⟨w.heap.size + 1 + 1, 0, none⟩)], .func (.func gf) #[] lb, stpV x.1 x.2.1 x.2.2, undef, undef, undef], defers := [] })
    (fun j x a' => by
      rw [hsz]
      rintro U u W W' ⟨h1, gp, h4, h5, h6⟩ ht
      exact ⟨ClI.safe w ns U _ _ _ h1 ht, gp, ht.whole h4 (.inr h5), h5, h6⟩)
    ?assign ?body ?done ?stop
  case assign =>
    rintro lr U j x W K hx hI hsW hU hK
    have hb := below1 W (.cells (needCells x).toArray 40)
    have hI' := ClI.safe w ns U _ _ _ hI (Stays.below hb)
    gi_wp2_with fail
    exact hK _ _ (With U W (W.alloc (.cells (needCells x).toArray 40))) (Grew.with hU hb.size) (Kept.below hb) ⟨hI', W.heap.size, Whole.new W _ (needCells x), .inr ⟨Nat.le_refl _, by simp⟩, rfl⟩
  case body =>
    rintro lr U j x a' W hl hx ⟨hI, gp, hgp, hUg, rfl⟩ hU
    obtain ⟨b, hb⟩ : ∃ b, ((at13 (ns.take j) x.1).2 && ((at13 (ns.take j) x.1).1 != x.2.1)) = b := ⟨_, rfl⟩
    have KO := Lib.hid (other13_any x.1 x.2.1 x.2.2 (HWF.out x (List.mem_of_getElem? hx)) hI.mb hI.mp (by rw [List.length_take]; have := HNL.out; omega) hb)
    have HX := Lib.hid hx
    have HBX := Lib.hid hb
    have p0 := hgp.cell_at 0 rfl
    have p1 := hgp.cell_at 1 rfl
    have p2 := hgp.cell_at 2 rfl
    have f0 := hI.fb.cell_at 0 rfl
    clear hx hb hgp
    gi_wp2_with fail
    refine ⟨trivial, (CallsIn.inRound _ (callsIn_wide.2 KO.out)).mono ?_⟩
    clear KO p0 p1 p2 f0
    rintro e w3 ⟨rfl, hm, hg⟩
    have HKept : Hid (Kept R W0.heap.size U W w3) := Lib.hid ⟨hg.size, fun k o ho hr => (hg.block k (Array.getElem?_eq_some_iff.1 ho).1 (fun e => by
      have e' := Option.some.inj e
      have := HSZ.out
      rcases hr with hr | hr
      · have := HRl.out k hr; omega
      · omega)).trans ho⟩
    have HS3 := Lib.hid hg.size
    cases b
    · have HN := Lib.hid (hI.next HX.out hm hg HBX.out)
      clear hm hg hI
      gi_wp2_with fail
      exact ⟨U, Grew.refl hU HS3.out, HKept.out, HN.out⟩
    · have HC : Hid (clashN ns = true) := Lib.hid (by
        refine clash_sub (ns := ns.take j ++ [x]) (fun a ha => ?_) (by rw [clash_snoc, HBX.out, Bool.or_true])
        rw [List.mem_append] at ha
        rcases ha with ha | ha
        · exact List.mem_of_mem_take ha
        · obtain rfl : a = x := by simpa using ha
          exact List.mem_of_getElem? HX.out)
      have b0 := hI.rb.kept hg (by simp)
      have hB3 := hI.below.grown hg (by have := hI.size; omega) (fun b hb => by have := Option.some.inj hb; omega)
      have f0 := b0.frozen 0
      have y0 := b0.cell_at 0 rfl
      clear hm hg hI
      gi_wp2_with fail
      exact ⟨U, Grew.refl hU (by simp [World.setCell]; exact HS3.out), HKept.out.trans (Grew.refl hU HS3.out) (Kept.set (p := ⟨w.heap.size, 0, none⟩) _ _ (fun hr => by have := HRl.out _ hr; simp at this) (.inl (by show w.heap.size < W0.heap.size; have := HSZ.out; omega))), rfl,
        hB3.setCell (p := ⟨w.heap.size, 0, none⟩) (Nat.le_refl _) _, b0.set 0 (.bool true), HC.out⟩
  case done =>
    rintro D U W hD hUD hI hK
    have HA : Hid (clashN ns = false) := Lib.hid (by have := hI.no; rwa [List.take_length] at this)
    have b1 := hI.rb
    have f1 := b1.frozen 0
    have y1 := b1.cell_at 0 rfl
    have HB := Lib.hid hI.below
    have hsz := HSZ.out
    clear hI
    gi_wp2_with fail
    have hK2 := (Below.heap_setCell W ⟨w.heap.size, 0, none⟩ (.bool false) D (by show D ≠ w.heap.size; omega)).trans hK
    have e1 := ((b1.set 0 (.bool false)).putDone (o' := .deferred none) hK2).cell_at 0 rfl
    have hB2 := HB.out.setCell (p := ⟨w.heap.size, 0, none⟩) (Nat.le_refl _) (.bool false)
    refine ⟨by simp, .inl ⟨_, _, rfl, run_takeDeferred hK2, ?_⟩⟩
    refine ⟨.bool false, by simp [results, Try.f61, go_sem, e1], ret_bool (by rw [← HHR.out, HA.out]), hB2.trans (belowK_b (w := w) (Nat.le_refl _) _ D _ _ (by omega) hK2 rfl rfl)⟩
  case stop =>
    rintro D c U W hD hUD ⟨rfl, hB, b1, hA⟩ hK
    have HA := Lib.hid hA
    have hsz := HSZ.out
    clear hA
    have e1 := (b1.putDone (o' := .deferred none) hK).cell_at 0 rfl
    gi_wp2_with fail
    refine ⟨by simp, .inl ⟨_, _, rfl, run_takeDeferred hK, ?_⟩⟩
    refine ⟨.bool true, by simp [results, Try.f61, go_sem, e1], ret_bool (by rw [← HHR.out, HA.out]), hB.trans (belowK_b (w := w) (Nat.le_refl _) _ D _ _ (by omega) hK rfl rfl)⟩
end Go.Proofs.Ytljpiafopbfdlaa
