/- Package join: Near. -/
import Derived.RangeFuncNested
import Derived.RangeFuncBound
import Derived.RangeFuncCalls
import Derived.RangeFuncLeaves
import Derived.RangeFuncBox
import Derived.Shelf.Abstract
import Derived.Shelf.RegionOpen
import Derived.WalkKit
import Derived.OwnWalkIn
import Derived.TacticsInMore
import Derived.LoopNIn
import Derived.LoopIn
import Derived.WalkMore
import Derived.Test.YtaelcmamgcndmaaDoorQJoinD
import Derived.Test.YtaelcmamgcndmaaDoorQJoinS
import Derived.Test.YtaelcmamgcndmaaDoorQA
namespace Go.Proofs.YtaelcmamgcndmaaDoor
open Go.RowKit Go.Shelf
set_option linter.unusedVariables false
set_option linter.unusedSimpArgs false

attribute [local go_sem] Oper.semAt_some

/-- append at an operation inside a fence, by its run. -/
theorem listIn_append {F : Fence} {n : Nat} {P : Program} {ops : Array Oper} {rest : List Oper} {o : Oper} {a : Act} {w w' : World} {Q : Exit → Act → World → Prop} (hg : o.guard = none) (s x : Operand) (t : TypeId)
    (hop : o.op = .call { callee := .builtin .append, args := #[s, x], argTypes := #[t, t] }) {v' : Value} (hrun : (Builtin.append_ #[t, t] o.type #[a.eval s, a.eval x]).run P w = .ok v' w') (h : wpListIn F n P ops Q rest (a.put o.dst v') w') : wpListIn F n P ops Q (o :: rest) a w := by
  refine wpListIn_plain hg fun K hK' => ?_
  unfold Oper.wpIn
  refine ⟨?_, ?_⟩
  · simp [Oper.about, hop, resolve, Target.leads, Sem.run_pure]
  · rw [Oper.semAt_plain F _ _ (by rw [hop]; intro c hc'; cases hc')]
    simp [execOp, hop, resolve, invoke, builtin, hrun, Result.andThen]
    exact hK' _ _ h
/-- append(v, m), with what is told of the block. -/
theorem append_int2 (base n : Nat) (v : Value) (xs : List Value) (m : Int) (w : World) (a : Nat) (hown : w.ownsRow base 3 1 v n xs) (hc : w.cell? ⟨a, 0, none⟩ = some (.int .i64 m)) (hn : n ≤ 1000) (hbase : base ≤ w.heap.size) :
    ∃ v' w', (Builtin.append_ #[41, 41] 41 #[v, .slice (some ⟨a, 0, none⟩) 1 1]).run Tryd.prog w = .ok v' w' ∧ w'.ownsRow base 3 1 v' (n + 1) (xs ++ [.int .i64 m]) ∧ w.grownBy w' v.ownBlock ∧ Below base w w' ∧ (v'.ownBlock = v.ownBlock ∨ v'.ownBlock = some w.heap.size) := by
  obtain ⟨i, i1, i2, i3, i4⟩ := info_parts ints_info
  obtain ⟨v', w', r1, r2, r3, r4, r5⟩ := run_append_own_at (P := Tryd.prog) w base 41 41 3 i (.int .i64 0) 1 8 Tryd.underlying41 i1 i2 i3 i4 rfl (by omega) v n xs hown ⟨a, 0, none⟩ 1 1 [.int .i64 m] rfl
    (by
      intro j u hu
      match j, hu with
      | 0, hu => simpa [Addr.add] using (by rw [hc]; exact hu)) (by simp [Value.oneCell']) (by unfold maxLen; omega) (by omega) hbase
  refine ⟨v', w', r1, r2, r3, (Below.refl base w).grown r3 hbase (fun k e => ?_), r5⟩
  exact (hown.lt k e).1
theorem owns_stays {B : Nat} {U : Nat → Prop} {W W' : World} (h : Stays B U W W') {base e k n : Nat} {v : Value} {xs : List Value} (hown : W.ownsRow base e k v n xs) (hU : ∀ b, v.ownBlock = some b → U b) : W'.ownsRow base e k v n xs := by
  refine ⟨hown.1, ?_⟩
  rcases hown.2 with h2 | ⟨g, cap, cur, rfl, h3, h4, r⟩
  · exact .inl h2
  · exact .inr ⟨g, cap, cur, rfl, h3, h.rest g _ h4 (.inr (hU g rfl)), r⟩

/-- Where one comes by port p of section s, if that is another section of the layout's; whom one comes to by the ports. -/
def hopL (l : Lay) (s : Int) (x : Int × Int) : List Int := if ((beyondV l x.1 x.2).1 != s && hasSec l (beyondV l x.1 x.2).1) = true then [(beyondV l x.1 x.2).1] else []
def hops (l : Lay) (s : Int) (j : Nat) : List Int := ((portsS l s).take j).flatMap (hopL l s)
theorem hops_next {l : Lay} {s : Int} {j : Nat} {x : Int × Int} (h : (portsS l s)[j]? = some x) : hops l s (j + 1) = hops l s j ++ hopL l s x := by
  unfold hops
  rw [List.take_add_one, h, List.flatMap_append]
  simp
theorem hopL_le (l : Lay) (s : Int) (x : Int × Int) : (hopL l s x).length ≤ 1 := by unfold hopL; split <;> simp
theorem hops_le (l : Lay) (s : Int) : ∀ j, (hops l s j).length ≤ j
  | 0 => by simp [hops]
  | j + 1 => by
    have := hops_le l s j
    cases h : (portsS l s)[j]? with
    | none =>
      have : hops l s (j + 1) = hops l s j := by unfold hops; rw [List.take_add_one, h]; simp
      rw [this]; omega
    | some x =>
      have := hopL_le l s x
      rw [hops_next h, List.length_append]; omega
/-- The sections near s, rising. -/
def nearN (l : Lay) (a b : Nat) : Bool := nearV l a b
def nearL (l : Lay) (s : Int) : List Int := pick (fun i => !((i : Int) == s) && nearV l s i) l.secs.length
theorem nearV_iff {l : Lay} {s : Int} {i : Nat} : nearV l s i = true ↔ ∃ x, x ∈ portsS l s ∧ (beyondV l x.1 x.2).1 = i := by
  unfold nearV
  constructor
  · intro h
    obtain ⟨p, hp, hb⟩ := List.any_eq_true.1 h
    have hb' : (beyondV l s p).1 = i := by simpa using hb
    obtain ⟨k, rfl⟩ : ∃ k : Nat, p = k := by
      simp at hp
      rcases hp with rfl | rfl | rfl | rfl
      · exact ⟨0, rfl⟩
      · exact ⟨1, rfl⟩
      · exact ⟨2, rfl⟩
      · exact ⟨3, rfl⟩
    by_cases hk : k < (pK (kindV l s)).toNat
    · exact ⟨(s, (k : Int)), List.mem_of_getElem? (portsS_at hk), hb'⟩
    · exfalso
      have hno : thereV l s k = false := by rw [there_at]; exact decide_eq_false hk
      rw [beyondV_no hno] at hb'
      simp at hb'
      try omega
  · rintro ⟨x, hx, hb⟩
    unfold portsS at hx
    obtain ⟨k, hk, rfl⟩ := List.mem_map.1 hx
    have hk4 : k < 4 := by have := List.mem_range.1 hk; have := pK_le4 (kindV l s); omega
    refine List.any_eq_true.2 ⟨(k : Int), ?_, by simpa using hb⟩
    have : k = 0 ∨ k = 1 ∨ k = 2 ∨ k = 3 := by omega
    rcases this with rfl | rfl | rfl | rfl <;> simp
theorem hops_near (l : Lay) (s : Int) : Lib.compact (sorted (hops l s (portsS l s).length)) = nearL l s := by
  refine compact_sorted (pick_rising _ _) fun x => ?_
  show _ ↔ x ∈ pick _ _
  unfold hops
  rw [List.take_length, List.mem_flatMap, mem_pick]
  constructor
  · rintro ⟨p, hp, hx⟩
    unfold hopL at hx
    split at hx
    · rename_i hc
      have hx' : x = (beyondV l p.1 p.2).1 := by simpa using hx
      rw [← hx'] at hc
      simp [hasSec] at hc
      obtain ⟨i, rfl⟩ : ∃ i : Nat, x = i := ⟨x.toNat, by omega⟩
      refine ⟨i, by omega, rfl, ?_⟩
      rw [nearV_iff.2 ⟨p, hp, hx'.symm⟩]
      simp
      exact hc.1
    · cases hx
  · rintro ⟨i, hi, rfl, hc⟩
    simp at hc
    obtain ⟨p, hp, hb⟩ := nearV_iff.1 hc.2
    refine ⟨p, hp, ?_⟩
    unfold hopL
    rw [hb, if_pos (by simp [hasSec]; exact ⟨hc.1, by omega⟩)]
    simp
theorem portsJ_any (l : Lay) (s : Int) (w : World) : Calls Tryd.prog 37 #[l.val, .int .i64 s] w fun e w' => e = .returned (.func (.func 54) #[] #[.pointer (some ⟨w.heap.size + 1, 0, none⟩), .pointer (some ⟨w.heap.size, 0, none⟩)]) ∧
    w' = (w.alloc (.cells #[.slice l.As l.secs.length l.cs, .slice l.Ag l.sigs.length l.cg, .slice l.Ae l.exits.length l.ce, .slice l.Af l.flanks.length l.cf, .int .i64 l.t0, .int .i64 l.t1, .int .i64 l.t2, .int .i64 l.t3, .int .i64 l.t4, .int .i64 l.t5, .int .i64 l.t6] 29)).alloc (.cells #[.int .i64 s] 3) := by
  go_enter Tryd.func37, Tryd.ntmps37
  go_wp2_with fail
  go_ret
  exact ⟨rfl, rfl⟩

/-- What a round of Near knows. -/
structure NearI (l : Lay) (s : Int) (w : World) (U : Nat → Prop) (j : Nat) (W : World) : Prop where
  below : Below w.heap.size w W
  size : w.heap.size + 5 ≤ W.heap.size
  box0 : Whole W w.heap.size 29 l.cells
  box1 : Whole W (w.heap.size + 1) 3 [.int .i64 s]
  row : ∃ v, Whole W (w.heap.size + 1 + 1) 41 [v] ∧ W.ownsRow (w.heap.size + 5) 3 1 v (hops l s j).length (nums .i64 (hops l s j)) ∧ ∀ b, v.ownBlock = some b → U b
theorem NearI.safe (l : Lay) (s : Int) (w : World) : Safe (w.heap.size + 5) (NearI l s w) := by
  rintro U j W W' ⟨h1, h2, h3, h4, v, h5, h6, h7⟩ ht
  exact ⟨Safe.below (β := Unit) (B := w.heap.size + 5) (by omega) (Nat.le_refl _) U () W W' h1 ht, Nat.le_trans h2 ht.size, ht.whole h3 (.inl (by omega)), ht.whole h4 (.inl (by omega)), v, ht.whole h5 (.inl (by omega)), owns_stays ht h6 h7, h7⟩
/-- The blocks that are new count as its own. -/
def With (U : Nat → Prop) (W W' : World) : Nat → Prop := fun k => U k ∨ (W.heap.size ≤ k ∧ k < W'.heap.size)
theorem Grew.with {U : Nat → Prop} {W W' : World} (h : ∀ k, U k → k < W.heap.size) (hs : W.heap.size ≤ W'.heap.size) : Grew U (With U W W') W W' :=
  ⟨fun k hk => hk.imp id (fun h => h.1), fun k hk => hk.elim (fun hu => Nat.lt_of_lt_of_le (h k hu) hs) (fun h => h.2)⟩
theorem NearI.up {l : Lay} {s : Int} {w W : World} {U U' : Nat → Prop} {j : Nat} (h : NearI l s w U j W) (hU : ∀ k, U k → U' k) : NearI l s w U' j W :=
  ⟨h.1, h.2, h.3, h.4, let ⟨v, h5, h6, h7⟩ := h.5; ⟨v, h5, h6, fun b hb => hU b (h7 b hb)⟩⟩
/-- A number more is appended. -/
theorem NearI.append {l : Lay} {s : Int} {w W W2 : World} {U : Nat → Prop} {j : Nat} {m : Int} (h : NearI l s w U j W2) (hj : hops l s (j + 1) = hops l s j ++ [m]) (hB : Below W.heap.size W W2) (hUl : ∀ k, U k → k < W.heap.size) (hn : (hops l s j).length ≤ 1000) :
    ∃ v, W2.cell? ⟨w.heap.size + 1 + 1, 0, none⟩ = some v ∧ ∃ v' W3, (Builtin.append_ #[41, 41] 41 #[v, .slice (some ⟨W2.heap.size, 0, none⟩) 1 1]).run Tryd.prog (W2.alloc (.cells #[.int .i64 m] 3)) = .ok v' W3 ∧
      Whole W3 (w.heap.size + 1 + 1) 41 [v] ∧ (∃ A n c, v' = .slice A n c) ∧
      NearI l s w (With U W (W3.setCell ⟨w.heap.size + 1 + 1, 0, none⟩ v')) (j + 1) (W3.setCell ⟨w.heap.size + 1 + 1, 0, none⟩ v') ∧
      W.heap.size ≤ (W3.setCell ⟨w.heap.size + 1 + 1, 0, none⟩ v').heap.size ∧ Kept (fun k => k < w.heap.size ∨ (k = w.heap.size + 1 + 1 + 1 + 1 ∨ k = w.heap.size + 1 + 1 + 1)) (w.heap.size + 5) U W (W3.setCell ⟨w.heap.size + 1 + 1, 0, none⟩ v') := by
  obtain ⟨h1, h2, h3, h4, v, h5, h6, h7⟩ := h
  refine ⟨v, h5.cell_at 0 rfl, ?_⟩
  have hb1 := below1 W2 (.cells #[.int .i64 m] 3)
  obtain ⟨v', W3, hrun, hown, hgr, hBl, hblk⟩ := append_int2 (w.heap.size + 5) (hops l s j).length v (nums .i64 (hops l s j)) m (W2.alloc (.cells #[.int .i64 m] 3)) W2.heap.size (ownsV_keep h6 hb1) ((Whole.new W2 _ [_]).cell_at 0 rfl) hn (by simp; omega)
  have hvb : ∀ b, v.ownBlock = some b → w.heap.size + 5 ≤ b := fun b hb => (h6.lt b hb).1
  have hs3 : W2.heap.size + 1 ≤ W3.heap.size := by have := hgr.size; simpa using this
  have hkeep : ∀ k o, W2.heap[k]? = some o → (∀ b, v.ownBlock = some b → k ≠ b) → W3.heap[k]? = some o := fun k o ho hne => by
    have hlt := (Array.getElem?_eq_some_iff.1 ho).1
    exact (hgr.block k (by simp; omega) (fun e => hne k e.symm rfl)).trans ((hb1.block k hlt).trans ho)
  have hset : ∀ k o, W3.heap[k]? = some o → k ≠ w.heap.size + 1 + 1 → (W3.setCell ⟨w.heap.size + 1 + 1, 0, none⟩ v').heap[k]? = some o := fun k o ho hne => (Below.heap_setCell W3 ⟨w.heap.size + 1 + 1, 0, none⟩ v' k hne).trans ho
  have hbox3 : Whole W3 (w.heap.size + 1 + 1) 41 [v] := hkeep _ _ h5 (fun b hb => by have := hvb b hb; omega)
  have hsz : (W3.setCell ⟨w.heap.size + 1 + 1, 0, none⟩ v').heap.size = W3.heap.size := by simp [World.setCell]
  have hW := hB.size
  refine ⟨v', W3, hrun, hbox3, (let ⟨A, c, e, _⟩ := owns_slice hown; ⟨A, _, c, e⟩), ⟨?_, by rw [hsz]; omega, hset _ _ (hkeep _ _ h3 (fun b hb => by have := hvb b hb; omega)) (by omega), hset _ _ (hkeep _ _ h4 (fun b hb => by have := hvb b hb; omega)) (by omega), v', hbox3.set 0 v', ?_, ?_⟩, by rw [hsz]; omega, ⟨by rw [hsz]; omega, ?_⟩⟩
  · exact (h1.trans ((hb1.mono (by omega)).trans (hBl.mono (by omega)))).setCell (p := ⟨w.heap.size + 1 + 1, 0, none⟩) (by show w.heap.size ≤ w.heap.size + 1 + 1; omega) _
  · rw [hj, List.length_append]
    have := hown.kept (grownBy_setCell' W3 (w.heap.size + 1 + 1) v') (.inr (fun e => by have := (hown.lt _ e).1; omega))
    simpa [nums] using this
  · intro b hb
    rcases hblk with e | e
    · exact .inl (h7 b (e ▸ hb))
    · rw [hb] at e
      have e' := Option.some.inj e
      refine .inr ⟨by rw [e']; simp; omega, by rw [hsz]; exact (hown.lt b hb).2⟩
  · intro k o ho hr
    have hlt := (Array.getElem?_eq_some_iff.1 ho).1
    refine hset _ _ (hkeep _ _ ((hB.block k hlt).trans ho) (fun b hb e => ?_)) (fun e => ?_)
    · have := hvb b hb
      rcases hr with hr | hr
      · omega
      · exact hr.2 (e ▸ h7 b hb)
    · rcases hr with hr | hr <;> omega

set_option maxRecDepth 100000 in
set_option maxHeartbeats 8000000 in
theorem near_any {l : Lay} {w : World} (hT : Shapes w) (hL : Lies l w) (s : Int) :
    Calls Tryd.prog 19 #[l.val, .int .i64 s] w fun e w' => ∃ v, e = .returned v ∧ w'.ownsRow w.heap.size 3 1 v (nearL l s).length (nums .i64 (nearL l s)) ∧ Below w.heap.size w w' := by
  have HTW : Hid (∀ W, Below w.heap.size w W → Shapes W ∧ Lies l W) := Lib.hid fun W hB => ⟨Shapes.closed _ _ hT hB, Lies.closed l _ _ hL hB⟩
  have HHN := Lib.hid (hops_near l s)
  have HHL := Lib.hid (hops_le l s)
  refine (callsIn_wide (n := 5)).1 ?_
  refine callsIn_of_wp_marks Tryd.func19 rfl trivial ?_ rfl
  simp only [Tryd.ntmps19, List.size_toArray, List.length_cons, List.length_nil, Nat.reduceAdd, Nat.reduceSub, Array.replicate_succ, Array.replicate_zero, List.push_toArray, List.append_toArray, List.nil_append, List.cons_append]
  gi_wp2_with fail
  refine ⟨trivial, (callsIn_wide.2 (portsJ_any l s _)).mono ?_⟩
  rintro e w2 ⟨rfl, rfl⟩
  gi_wp2_with fail
  obtain ⟨W0, hW0, hsz, hB0, b0, b1, b2, b3, b4⟩ : ∃ W0, (((((w.alloc (.cells #[.slice l.As l.secs.length l.cs, .slice l.Ag l.sigs.length l.cg, .slice l.Ae l.exits.length l.ce, .slice l.Af l.flanks.length l.cf, .int .i64 l.t0, .int .i64 l.t1, .int .i64 l.t2, .int .i64 l.t3, .int .i64 l.t4, .int .i64 l.t5, .int .i64 l.t6] 29)).alloc (.cells #[.int .i64 s] 3)).alloc (.cells #[.slice none 0 0] 41)).alloc (.cells #[.slice l.As l.secs.length l.cs, .slice l.Ag l.sigs.length l.cg, .slice l.Ae l.exits.length l.ce, .slice l.Af l.flanks.length l.cf, .int .i64 l.t0, .int .i64 l.t1, .int .i64 l.t2, .int .i64 l.t3, .int .i64 l.t4, .int .i64 l.t5, .int .i64 l.t6] 29)).alloc (.cells #[.int .i64 s] 3)) = W0 ∧ W0.heap.size = w.heap.size + 5 ∧ Below w.heap.size w W0 ∧ Whole W0 w.heap.size 29 l.cells ∧ Whole W0 (w.heap.size + 1) 3 [.int .i64 s] ∧ Whole W0 (w.heap.size + 1 + 1) 41 [.slice none 0 0] ∧ Whole W0 (w.heap.size + 1 + 1 + 1) 29 l.cells ∧ Whole W0 (w.heap.size + 1 + 1 + 1 + 1) 3 [.int .i64 s] :=
    ⟨_, rfl, by simp, ((below3 w _ _ _).alloc (by simp; omega) _).alloc (by simp; omega) _, ((((Whole.new w _ l.cells).alloc _).alloc _).alloc _).alloc _, (((Whole.new_at _ _ [_] _ (by simp)).alloc _).alloc _).alloc _, ((Whole.new_at _ _ [_] _ (by simp)).alloc _).alloc _, (Whole.new_at _ _ l.cells _ (by simp)).alloc _, Whole.new_at _ _ [_] _ (by simp)⟩
  rw [hW0]
  clear hW0
  have hit := portsJ_iter (w0 := W0) hT hL (fun k o hk ho => (hB0.block k hk).trans ho) hB0.size b4 b3
  have HXA : Hid (∀ j x, (portsS l s)[j]? = some x → hops l s (j + 1) = hops l s j ++ hopL l s x) := Lib.hid fun j x h => hops_next h
  have HXL : Hid ((portsS l s).length ≤ 4) := Lib.hid (by rw [portsS_len]; have := pK_le4 (kindV l s); omega)
  obtain ⟨xs, hxs⟩ : ∃ xs, portsS l s = xs := ⟨_, rfl⟩
  rw [hxs] at hit HHN HXA HXL
  have HSZ := Lib.hid hsz
  clear hT hL hxs b3 b4
  refine range_iterU (gf := 54) rfl (enters_of Tryd.func54 (by kernel_rfl) rfl) hit (Keeps.refl _ _) (fun k hk => by have := HSZ.out; rcases hk with h | h | h <;> omega) (fun _ => rfl) (by omega)
    (NearI l s w) (fun _ _ _ => False) (by rw [hsz]; exact NearI.safe l s w) (fun _ => by rw [hsz]; exact fun _ _ _ _ h _ => h.elim)
    ⟨hB0, by omega, b0, b1, _, b2, by unfold hops; exact World.ownsRow_nil _ _ _ _, fun b hb => by cases hb⟩
    (fun U j x a' W => NearI l s w U j W ∧ ∃ gp, Whole W gp 31 (prtCells x) ∧ U gp ∧ a' = { tmps := #[l.val, .int .i64 s, .pointer (some ⟨w.heap.size, 0, none⟩), .pointer (some ⟨w.heap.size + 1, 0, none⟩), .slice none 0 0, .pointer (some ⟨w.heap.size + 1 + 1, 0, none⟩), .pointer (some ⟨gp, 0, none⟩), undef, .agg #[.slice l.As l.secs.length l.cs, .slice l.Ag l.sigs.length l.cg, .slice l.Ae l.exits.length l.ce, .slice l.Af l.flanks.length l.cf, .int .i64 l.t0, .int .i64 l.t1, .int .i64 l.t2, .int .i64 l.t3, .int .i64 l.t4, .int .i64 l.t5, .int .i64 l.t6], .int .i64 s, .func (.func 54) #[] #[.pointer (some ⟨w.heap.size + 1 + 1 + 1 + 1, 0, none⟩), .pointer (some ⟨w.heap.size + 1 + 1 + 1, 0, none⟩)], prtV x.1 x.2, undef, undef, undef, undef, undef, undef, undef, undef, undef, undef, undef, undef, undef, undef, undef, undef, undef, undef, undef, undef], defers := [] })
    (fun j x a' => by
      rw [hsz]
      rintro U u W W' ⟨h1, gp, h2, h3, h4⟩ ht
      exact ⟨NearI.safe l s w _ _ _ _ h1 ht, gp, ht.whole h2 (.inr h3), h3, h4⟩)
    ?assign ?body ?done ?stop
  case assign =>
    rintro lr U j x W K hx hI hsW hU hK
    have hb := below1 W (.cells (prtCells x).toArray 31)
    gi_wp2_with fail
    exact hK _ _ (With U W (W.alloc (.cells (prtCells x).toArray 31))) (Grew.with hU hb.size) (Kept.below hb) ⟨(NearI.safe l s w _ _ _ _ hI (Stays.below hb)).up (fun k h => .inl h), W.heap.size, Whole.new W _ (prtCells x), .inr ⟨Nat.le_refl _, by simp⟩, rfl⟩
  case body =>
    rintro lr U j x a' W hl hx ⟨hI, gp, hgp, hUg, rfl⟩ hU
    have HX := Lib.hid (HXA.out j x hx)
    have hjn : (hops l s j).length ≤ 1000 := by have := HHL.out j; have := (List.getElem?_eq_some_iff.1 hx).1; have := HXL.out; omega
    clear hx
    obtain ⟨hTw, hLw⟩ := HTW.out _ hI.below
    obtain ⟨q, hq⟩ : ∃ q, beyondV l x.1 x.2 = q := ⟨_, rfl⟩
    have KB := Lib.hid (beyond_B hTw hLw x.1 x.2 hq)
    have HH : Hid (hopL l s x = if (q.1 != s && hasSec l q.1) = true then [q.1] else []) := Lib.hid (by unfold hopL; rw [hq])
    clear hTw hLw hq
    obtain ⟨qs, qq⟩ := q
    simp only at HH KB
    have p0 := hgp.cell_at 0 rfl
    have p1 := hgp.cell_at 1 rfl
    have m0 := hI.box0
    have x0 := m0.cell_at 0 rfl
    have x1 := m0.cell_at 1 rfl
    have x2 := m0.cell_at 2 rfl
    have x3 := m0.cell_at 3 rfl
    have x4 := m0.cell_at 4 rfl
    have x5 := m0.cell_at 5 rfl
    have x6 := m0.cell_at 6 rfl
    have x7 := m0.cell_at 7 rfl
    have x8 := m0.cell_at 8 rfl
    have x9 := m0.cell_at 9 rfl
    have x10 := m0.cell_at 10 rfl
    clear m0
    gi_wp2_with fail
    refine ⟨trivial, (CallsIn.inRound _ (callsIn_wide.2 KB.out)).mono ?_⟩
    clear KB p0 p1 x0 x1 x2 x3 x4 x5 x6 x7 x8 x9 x10 hgp hUg
    rintro e w3 ⟨rfl, hB3⟩
    have hfd : ∀ w : World, (Instr.field 31 (.agg #[.int .i64 qs, .int .i64 qq]) 0).run Tryd.prog w = .ok (.int .i64 qs) w := fun _ => by kernel_rfl
    have hI3 := NearI.safe l s w _ _ _ _ hI (Stays.below hB3)
    have v1 := hI3.box1.cell_at 0 rfl
    cases hne : (qs != s)
    · have HE : Hid (hops l s (j + 1) = hops l s j) := Lib.hid (by rw [HX.out, HH.out, hne]; simp)
      clear HH HX
      gi_wp2_with fail
      refine ⟨trivial, ?_⟩
      gi_wp2_with fail
      exact ⟨U, Grew.refl hU hB3.size, Kept.below hB3, ⟨hI3.1, hI3.2, hI3.3, hI3.4, by rw [HE.out]; exact hI3.5⟩⟩
    · obtain ⟨b, hb⟩ : ∃ b, hasSec l qs = b := ⟨_, rfl⟩
      have KS := Lib.hid (fun w => hasSection_B (w := w) qs hb)
      have m0 := hI3.box0
      have x0 := m0.cell_at 0 rfl
      have x1 := m0.cell_at 1 rfl
      have x2 := m0.cell_at 2 rfl
      have x3 := m0.cell_at 3 rfl
      have x4 := m0.cell_at 4 rfl
      have x5 := m0.cell_at 5 rfl
      have x6 := m0.cell_at 6 rfl
      have x7 := m0.cell_at 7 rfl
      have x8 := m0.cell_at 8 rfl
      have x9 := m0.cell_at 9 rfl
      have x10 := m0.cell_at 10 rfl
      clear m0
      cases b
      · have HE : Hid (hops l s (j + 1) = hops l s j) := Lib.hid (by rw [HX.out, HH.out, hb]; simp)
        clear HH HX hb
        gi_wp2_with fail
        refine ⟨trivial, (CallsIn.inRound _ (callsIn_wide.2 (KS.out _))).mono ?_⟩
        clear x0 x1 x2 x3 x4 x5 x6 x7 x8 x9 x10 v1 KS
        rintro e w4 ⟨rfl, hB4⟩
        have hI4 := NearI.safe l s w _ _ _ _ hI3 (Stays.below hB4)
        have hB5 := hB3.trans (hB4.mono hB3.size)
        gi_wp2_with fail
        exact ⟨U, Grew.refl hU hB5.size, Kept.below hB5, ⟨hI4.1, hI4.2, hI4.3, hI4.4, by rw [HE.out]; exact hI4.5⟩⟩
      · have HE : Hid (hops l s (j + 1) = hops l s j ++ [qs]) := Lib.hid (by rw [HX.out, HH.out, hb, hne]; rfl)
        clear HH HX hb
        gi_wp2_with fail
        refine ⟨trivial, (CallsIn.inRound _ (callsIn_wide.2 (KS.out _))).mono ?_⟩
        clear x0 x1 x2 x3 x4 x5 x6 x7 x8 x9 x10 v1 KS
        rintro e w4 ⟨rfl, hB4⟩
        have hI4 := NearI.safe l s w _ _ _ _ hI3 (Stays.below hB4)
        have hB5 := hB3.trans (hB4.mono hB3.size)
        obtain ⟨v, c0, v', W5, hrun, hbx5, ⟨A', n', c', rfl⟩, hI5, hs5, hk5⟩ := hI4.append HE.out hB5 hU hjn
        have f0 := hbx5.frozen 0
        have c5 := hbx5.cell_at 0 rfl
        have HK5 := Lib.hid hk5
        have HI5 := Lib.hid hI5
        clear hI hI3 hI4 hk5 hI5 hbx5 HE
        gi_wp2_with (gi_at_builtin; refine listIn_append rfl (.tmp 24) (.tmp 26) 41 rfl hrun ?_)
        exact ⟨_, Grew.with hU hs5, by rw [HSZ.out]; exact HK5.out, HI5.out⟩
  case stop =>
    rintro D c U W _ _ h _
    exact h.elim
  case done =>
    rintro D U W hD hUD ⟨hB, hsW, b0, b1, v, b2, hown, hvU⟩ hK
    have hl : (hops l s xs.length).length ≤ 1000 := by have := HHL.out xs.length; have := HXL.out; omega
    have HCO := Lib.hid (Lib.compact_length_le (sorted (hops l s xs.length)))
    have hsl := sorted_len (hops l s xs.length)
    have hvb : ∀ b, v.ownBlock = some b → w.heap.size + 5 ≤ b := fun b hb => (hown.lt b hb).1
    have c0 := b2.cell_at 0 rfl
    have KS := Lib.hid (sort_own hown hl)
    clear hown b0 b1
    gi_wp2_with fail
    refine ⟨trivial, (callsIn_wide.2 KS.out).mono ?_⟩
    clear KS c0
    rintro e W2 ⟨rfl, hown, hg2⟩
    have b2 := b2.kept hg2 (fun e => by have := hvb _ e.symm; omega)
    have c0 := b2.cell_at 0 rfl
    have hK2 : W2.heap[D]? = some (.deferred (some [])) := (hg2.block D (Array.getElem?_eq_some_iff.1 hK).1 (fun e => hUD (hvU D e.symm))).trans hK
    have hB2 : Below w.heap.size w W2 := hB.grown hg2 (Nat.le_trans (by omega) hsW) (fun b hb => by have := hvb b hb; omega)
    have hown' : W2.ownsRow (w.heap.size + 5) 3 1 v (sorted (hops l s xs.length)).length (nums .i64 (sorted (hops l s xs.length))) := by rw [hsl]; exact hown
    have KC := Lib.hid (compact_own hown' (by rw [hsl]; exact hl))
    clear hown hown' hB hK hg2
    gi_wp2_with fail
    refine ⟨trivial, (callsIn_wide.2 KC.out).mono ?_⟩
    clear KC c0 b2
    rintro e W3 ⟨v', rfl, hown, hg3⟩
    rw [HHN.out] at hown
    have hK3 : W3.heap[D]? = some (.deferred (some [])) := (hg3.block D (Array.getElem?_eq_some_iff.1 hK2).1 (fun e => hUD (hvU D e.symm))).trans hK2
    have hB3 : Below w.heap.size w W3 := hB2.grown hg3 (Nat.le_trans (by omega) hB2.size) (fun b hb => by have := hvb b hb; omega)
    have hsz := HSZ.out
    have HO : Hid ((W3.putObj D (.deferred none)).ownsRow w.heap.size 3 1 v' (nearL l s).length (nums .i64 (nearL l s))) := Lib.hid (by
      refine ⟨hown.1, ?_⟩
      rcases hown.2 with h | ⟨g, cap, cur, rfl, h3, h4, r⟩
      · exact .inl h
      · refine .inr ⟨g, cap, cur, rfl, by omega, (World.putObj_heap_other (fun e => ?_)).trans h4, r⟩
        subst e
        rw [hK3] at h4
        cases h4)
    clear hown hg3 hK2 hB2
    gi_wp2_with fail
    refine ⟨by simp, .inl ⟨_, _, rfl, run_takeDeferred hK3, ?_⟩⟩
    refine ⟨v', by simp [results, Tryd.f19, go_sem], ⟨v', rfl, HO.out, hB3.trans (belowK_b (w := w) (Nat.le_refl _) _ D _ _ (by omega) hK3 rfl rfl)⟩⟩
end Go.Proofs.YtaelcmamgcndmaaDoor
