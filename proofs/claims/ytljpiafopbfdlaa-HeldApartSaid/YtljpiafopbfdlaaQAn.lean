/- Package beyond: Wants. Package beyond: Goes, Over. Package need: a path's steps by their numbers, then its overlap's, one by one. Package need: what a path needs, one by one. -/
import Derived.RangeFuncNested
import Derived.RangeFuncBound
import Derived.RangeFuncCalls
import Derived.RangeFuncLeaves
import Derived.RangeFuncBox
import Derived.Shelf.Abstract
import Derived.Shelf.RegionOpen
import Derived.WalkKit
import Derived.OwnWalkIn
import Derived.TacticsInMore
import Derived.LoopNIn
import Derived.LoopIn
import Derived.WalkMore
import Derived.Test.YtljpiafopbfdlaaQAm
import Derived.Test.YtljpiafopbfdlaaQAc
import Derived.Test.YtljpiafopbfdlaaQAg
namespace Go.Proofs.Ytljpiafopbfdlaa
open Go.RowKit Go.Shelf
set_option linter.unusedVariables false
set_option linter.unusedSimpArgs false

attribute [local go_sem] Oper.semAt_some

/-- append at an operation inside a fence, by its run. -/
theorem listIn_append {F : Fence} {n : Nat} {P : Program} {ops : Array Oper} {rest : List Oper} {o : Oper} {a : Act} {w w' : World} {Q : Exit → Act → World → Prop} (hg : o.guard = none) (s x : Operand) (t : TypeId)
    (hop : o.op = .call { callee := .builtin .append, args := #[s, x], argTypes := #[t, t] }) {v' : Value} (hrun : (Builtin.append_ #[t, t] o.type #[a.eval s, a.eval x]).run P w = .ok v' w') (h : wpListIn F n P ops Q rest (a.put o.dst v') w') : wpListIn F n P ops Q (o :: rest) a w := by
  refine wpListIn_plain hg fun K hK' => ?_
  unfold Oper.wpIn
  refine ⟨?_, ?_⟩
  · simp [Oper.about, hop, resolve, Target.leads, Sem.run_pure]
  · rw [Oper.semAt_plain F _ _ (by rw [hop]; intro c hc'; cases hc')]
    simp [execOp, hop, resolve, invoke, builtin, hrun, Result.andThen]
    exact hK' _ _ h
theorem owns_stays {B : Nat} {U : Nat → Prop} {W W' : World} (h : Stays B U W W') {base e k n : Nat} {v : Value} {xs : List Value} (hown : W.ownsRow base e k v n xs) (hU : ∀ b, v.ownBlock = some b → b < B ∨ U b) : W'.ownsRow base e k v n xs := by
  refine ⟨hown.1, ?_⟩
  rcases hown.2 with h2 | ⟨g, cap, cur, rfl, h3, h4, r⟩
  · exact .inl h2
  · exact .inr ⟨g, cap, cur, rfl, h3, h.rest g _ h4 (hU g rfl), r⟩
theorem slice_of {w : World} {base e n : Nat} {v : Value} {xs : List Value} (h : w.ownsRow base e 3 v n xs) : ∃ A c, v = .slice A n c := by
  rcases h.2 with ⟨rfl, rfl⟩ | ⟨g, cap, cur, rfl, hg, _, hn, _⟩
  · exact ⟨none, 0, rfl⟩
  · exact ⟨_, cap, rfl⟩
/-- What a round of Wants knows. -/
structure WantI (w : World) (k : Int) (g : Nat) (us : Nat → List (Int × Int × Int)) (U : Nat → Prop) (j : Nat) (W : World) : Prop where
  below : Below w.heap.size w W
  size : g + 2 ≤ W.heap.size
  kbox : Whole W (w.heap.size + 1 + 1) 3 [.int .i64 k]
  row : ∃ v, Whole W (w.heap.size + 1 + 1 + 1) 25 [v] ∧ W.ownsRow (w.heap.size + 4) 40 3 v (us j).length ((us j).flatMap needCells) ∧ ∀ b, v.ownBlock = some b → b < g ∨ (g + 2 ≤ b ∧ U b)
theorem WantI.safe (w : World) (k : Int) (g : Nat) (us : Nat → List (Int × Int × Int)) (hg : w.heap.size + 4 ≤ g) : Safe (g + 2) (WantI w k g us) := by
  rintro U j W W' ⟨h1, h2, h3, v, h4, h5, h6⟩ ht
  exact ⟨Safe.below (β := Unit) (B := g + 2) (by omega) (Nat.le_refl _) U () W W' h1 ht, Nat.le_trans h2 ht.size, ht.whole h3 (.inl (by omega)), v, ht.whole h4 (.inl (by omega)), owns_stays ht h5 (fun b hb => by rcases h6 b hb with h | h; exact .inl (by omega); exact .inr h.2), h6⟩
theorem WantI.up {w W : World} {k : Int} {g : Nat} {us : Nat → List (Int × Int × Int)} {U U' : Nat → Prop} {j : Nat} (h : WantI w k g us U j W) (hU : ∀ k, U k → U' k) : WantI w k g us U' j W :=
  ⟨h.1, h.2, h.3, let ⟨v, h5, h6, h7⟩ := h.4; ⟨v, h5, h6, fun b hb => (h7 b hb).imp id (fun x => ⟨x.1, hU b x.2⟩)⟩⟩
/-- A need more is appended. -/
theorem WantI.append {w W : World} {k : Int} {g : Nat} {us : Nat → List (Int × Int × Int)} {U : Nat → Prop} {j : Nat} {m : Int × Int × Int} (hg : w.heap.size + 4 ≤ g) (h : WantI w k g us U j W) (hj : us (j + 1) = us j ++ [m]) (hn : (us j).length ≤ 1000) (hUl : ∀ k, U k → k < W.heap.size) :
    ∃ v, W.cell? ⟨w.heap.size + 1 + 1 + 1, 0, none⟩ = some v ∧ ∃ v' W3, (Builtin.append_ #[25, 25] 25 #[v, .slice (some ⟨W.heap.size, 0, none⟩) 1 1]).run Try.prog (W.alloc (.cells #[.int .i64 m.1, .int .i64 m.2.1, .int .i64 m.2.2] 40)) = .ok v' W3 ∧
      Whole W3 (w.heap.size + 1 + 1 + 1) 25 [v] ∧ (∃ A n c, v' = .slice A n c) ∧
      WantI w k g us (With U W (W3.setCell ⟨w.heap.size + 1 + 1 + 1, 0, none⟩ v')) (j + 1) (W3.setCell ⟨w.heap.size + 1 + 1 + 1, 0, none⟩ v') ∧
      W.heap.size ≤ (W3.setCell ⟨w.heap.size + 1 + 1 + 1, 0, none⟩ v').heap.size ∧ Kept (fun q => q < w.heap.size ∨ (q = g ∨ q = g + 1)) (g + 2) U W (W3.setCell ⟨w.heap.size + 1 + 1 + 1, 0, none⟩ v') := by
  obtain ⟨h1, h2, h3, v, h5, h6, h7⟩ := h
  refine ⟨v, h5.cell_at 0 rfl, ?_⟩
  have hb1 := below1 W (.cells #[.int .i64 m.1, .int .i64 m.2.1, .int .i64 m.2.2] 40)
  obtain ⟨v', W3, hrun, hown, hgr, hBl, hblk⟩ := append_need (w.heap.size + 4) (us j).length v ((us j).flatMap needCells) m (W.alloc (.cells #[.int .i64 m.1, .int .i64 m.2.1, .int .i64 m.2.2] 40)) W.heap.size (owns_keep h6 hb1) (Whole.new W _ (needCells m)) hn (by simp; omega)
  have hvb : ∀ b, v.ownBlock = some b → w.heap.size + 4 ≤ b := fun b hb => (h6.lt b hb).1
  have hs3 : W.heap.size + 1 ≤ W3.heap.size := by have := hgr.size; simpa using this
  have hkeep : ∀ k o, W.heap[k]? = some o → (∀ b, v.ownBlock = some b → k ≠ b) → W3.heap[k]? = some o := fun k o ho hne => by
    have hlt := (Array.getElem?_eq_some_iff.1 ho).1
    exact (hgr.block k (by simp; omega) (fun e => hne k e.symm rfl)).trans ((hb1.block k hlt).trans ho)
  have hset : ∀ k o, W3.heap[k]? = some o → k ≠ w.heap.size + 1 + 1 + 1 → (W3.setCell ⟨w.heap.size + 1 + 1 + 1, 0, none⟩ v').heap[k]? = some o := fun k o ho hne => (Below.heap_setCell W3 ⟨w.heap.size + 1 + 1 + 1, 0, none⟩ v' k hne).trans ho
  have hbox3 : Whole W3 (w.heap.size + 1 + 1 + 1) 25 [v] := hkeep _ _ h5 (fun b hb => by have := hvb b hb; omega)
  have hsz : (W3.setCell ⟨w.heap.size + 1 + 1 + 1, 0, none⟩ v').heap.size = W3.heap.size := by simp [World.setCell]
  refine ⟨v', W3, hrun, hbox3, (let ⟨A, c, e⟩ := slice_of hown; ⟨A, _, c, e⟩), ⟨?_, by rw [hsz]; omega, hset _ _ (hkeep _ _ h3 (fun b hb => by have := hvb b hb; omega)) (by omega), v', hbox3.set 0 v', ?_, ?_⟩, by rw [hsz]; omega, ⟨by rw [hsz]; omega, ?_⟩⟩
  · exact (h1.trans ((hb1.mono (by omega)).trans (hBl.mono (by omega)))).setCell (p := ⟨w.heap.size + 1 + 1 + 1, 0, none⟩) (by show w.heap.size ≤ w.heap.size + 1 + 1 + 1; omega) _
  · rw [hj, List.length_append, List.flatMap_append]
    have := hown.kept (grownBy_setCell' W3 (w.heap.size + 1 + 1 + 1) v') (.inr (fun e => by have := (hown.lt _ e).1; omega))
    simpa using this
  · intro b hb
    rcases hblk with e | e
    · exact (h7 b (e ▸ hb)).imp id (fun x => ⟨x.1, .inl x.2⟩)
    · rw [hb] at e
      have e' := Option.some.inj e
      simp at e'
      refine .inr ⟨by omega, .inr ⟨by omega, by rw [hsz]; exact (hown.lt b hb).2⟩⟩
  · intro k o ho hr
    refine hset _ _ (hkeep _ _ ho (fun b hb e => ?_)) (fun e => ?_)
    · have q1 := hvb b hb
      have q2 := h7 b hb
      rcases hr with hr | hr
      · omega
      · rcases q2 with q2 | q2
        · omega
        · exact hr.2 (e ▸ q2.2)
    · rcases hr with hr | hr <;> omega
/-- What is wanted, the step's flanks being given one by one. -/
def usV (l : Lay) (s i o k : Int) (j : Nat) : List (Int × Int × Int) := firstV l s i o k ++ ((flanksV l s i o).take j).map (fun f => (f.2.2.1, f.2.2.2, k))
theorem us_zero (l : Lay) (s i o k : Int) : usV l s i o k 0 = firstV l s i o k := by simp [usV]
theorem us_next {l : Lay} {s i o k : Int} {j : Nat} {f : Int × Int × Int × Int} (h : (flanksV l s i o)[j]? = some f) : usV l s i o k (j + 1) = usV l s i o k j ++ [(f.2.2.1, f.2.2.2, k)] := by
  unfold usV
  rw [List.take_add_one, h, Option.toList_some, List.map_append, List.append_assoc]
  rfl
theorem us_all (l : Lay) (s i o k : Int) : usV l s i o k (flanksV l s i o).length = wantsV l s i o k := by unfold usV wantsV; rw [List.take_length]
theorem us_le (l : Lay) (s i o k : Int) (j : Nat) : (usV l s i o k j).length ≤ j + 1 := by
  unfold usV
  have h1 := first_le l s i o k
  rw [List.length_append, List.length_map, List.length_take]
  omega
end Go.Proofs.Ytljpiafopbfdlaa
namespace Go.Proofs.Ytljpiafopbfdlaa
open Go.RowKit Go.Shelf
set_option linter.unusedVariables false
set_option linter.unusedSimpArgs false

end Go.Proofs.Ytljpiafopbfdlaa
namespace Go.Proofs.Ytljpiafopbfdlaa
open Go.RowKit Go.Shelf
set_option linter.unusedVariables false
set_option linter.unusedSimpArgs false

attribute [local go_sem] Oper.semAt_some

/-- A path's steps by their numbers, then those of its exit's overlap by how many steps it has. -/
def numF : List (Int × Int × Int) → Int → List (Int × Int × Int × Int)
  | [], _ => []
  | s :: r, k => (k, s) :: numF r (k + 1)
theorem numF_len : ∀ (ss : List (Int × Int × Int)) (k : Int), (numF ss k).length = ss.length
  | [], _ => rfl
  | s :: r, k => by show (numF r (k + 1)).length + 1 = r.length + 1; rw [numF_len r (k + 1)]
theorem numF_at : ∀ (ss : List (Int × Int × Int)) (k : Int) (j : Nat), (numF ss k)[j]? = (ss[j]?).map fun s => (k + j, s)
  | [], _, _ => rfl
  | s :: r, k, 0 => by simp [numF]
  | s :: r, k, j + 1 => by
    show (numF r (k + 1))[j]? = (r[j]?).map _
    rw [numF_at r (k + 1) j, show k + 1 + (j : Int) = k + ((j + 1 : Nat) : Int) by omega]
def stepsN (l : Lay) (p : Pth) : List (Int × Int × Int × Int) := numF p.ss 0 ++ (overL10 l p.x).map fun s => ((p.ss.length : Int), s)
theorem stepsN_len (l : Lay) (p : Pth) : (stepsN l p).length = p.ss.length + (overL10 l p.x).length := by unfold stepsN; rw [List.length_append, numF_len, List.length_map]
theorem stepsN_at1 {l : Lay} {p : Pth} {j : Nat} {s : Int × Int × Int} (h : p.ss[j]? = some s) : (stepsN l p)[j]? = some ((j : Int), s) := by
  have hj := (List.getElem?_eq_some_iff.1 h).1
  unfold stepsN
  rw [List.getElem?_append_left (by rw [numF_len]; exact hj), numF_at, h]
  simp
theorem stepsN_at2 {l : Lay} {p : Pth} {j : Nat} {s : Int × Int × Int} (h : (overL10 l p.x)[j]? = some s) : (stepsN l p)[p.ss.length + j]? = some ((p.ss.length : Int), s) := by
  unfold stepsN
  rw [List.getElem?_append_right (by rw [numF_len]; omega), numF_len, Nat.add_sub_cancel_left, List.getElem?_map, h]
  rfl
theorem over_le13 {l : Lay} (hO : ∀ x ∈ l.exits, x.over.length ≤ 1000) (x : Int) : (overL10 l x).length ≤ 1000 := by
  unfold overL10
  split
  · cases h : l.exits[x.toNat]? with
    | none => simp
    | some e => simpa using hO e (List.mem_of_getElem? h)
  · simp
theorem PLies.keeps {p : Pth} {w W : World} {R : Nat → Prop} (h : PLies p w) (hk : Keeps R w W) (hR : ∀ k, k < w.heap.size → R k) (hs : w.heap.size ≤ W.heap.size) : PLies p W := ⟨(h.row.keeps hk hR).mono hs, h.len⟩
theorem owns_kept13 {R : Nat → Prop} {B : Nat} {U : Nat → Prop} {W W' : World} (h : Kept R B U W W') {base e k n : Nat} {v : Value} {xs : List Value} (hown : W.ownsRow base e k v n xs) (hU : ∀ b, v.ownBlock = some b → B ≤ b ∧ ¬ U b) : W'.ownsRow base e k v n xs := by
  refine ⟨hown.1, ?_⟩
  rcases hown.2 with h2 | ⟨g, cap, cur, rfl, h3, h4, r⟩
  · exact .inl h2
  · exact .inr ⟨g, cap, cur, rfl, h3, h.rest g _ h4 (.inr (hU g rfl)), r⟩
end Go.Proofs.Ytljpiafopbfdlaa
namespace Go.Proofs.Ytljpiafopbfdlaa
open Go.RowKit Go.Shelf
set_option linter.unusedVariables false
set_option linter.unusedSimpArgs false

attribute [local go_sem] Oper.semAt_some

/-- What one step wants; what the first n of them do. -/
def wantN (l : Lay) (x : Int × Int × Int × Int) : List (Int × Int × Int) := wantsV l x.2.1 x.2.2.1 x.2.2.2 x.1
def needTo (l : Lay) (xs : List (Int × Int × Int × Int)) (n : Nat) : List (Int × Int × Int) := (xs.take n).flatMap (wantN l)
theorem numF_flat (l : Lay) : ∀ (ss : List (Int × Int × Int)) (k : Int), (numF ss k).flatMap (wantN l) = ofS l ss k
  | [], _ => rfl
  | s :: r, k => by
    show ((k, s) :: numF r (k + 1)).flatMap (wantN l) = wantsV l s.1 s.2.1 s.2.2 k ++ ofS l r (k + 1)
    rw [List.flatMap_cons, numF_flat l r (k + 1)]
    rfl
theorem of_flat (l : Lay) (p : Pth) : (stepsN l p).flatMap (wantN l) = ofV l p := by
  unfold stepsN ofV ofO
  rw [List.flatMap_append, numF_flat, List.flatMap_map]
  rfl
theorem needTo_next {l : Lay} {xs : List (Int × Int × Int × Int)} {j : Nat} {x : Int × Int × Int × Int} (h : xs[j]? = some x) : needTo l xs (j + 1) = needTo l xs j ++ wantN l x := by
  unfold needTo
  rw [List.take_add_one, h, Option.toList_some, List.flatMap_append]
  simp
theorem needTo_at {l : Lay} {xs : List (Int × Int × Int × Int)} {j k : Nat} {x : Int × Int × Int × Int} {y : Int × Int × Int} (hx : xs[j]? = some x) (hy : (wantN l x)[k]? = some y) : (xs.flatMap (wantN l))[(needTo l xs j).length + k]? = some y := by
  have hk := (List.getElem?_eq_some_iff.1 hy).1
  have e : xs.flatMap (wantN l) = needTo l xs j ++ (wantN l x ++ (xs.drop (j + 1)).flatMap (wantN l)) := by
    unfold needTo
    have := List.take_append_drop j xs
    rw [drop_at hx] at this
    conv => lhs; rw [← this]
    rw [List.flatMap_append, List.flatMap_cons]
  rw [e, List.getElem?_append_right (by omega), Nat.add_sub_cancel_left, List.getElem?_append_left hk]
  exact hy
theorem want_len {l : Lay} {F : Nat} (hF : l.flanks.length ≤ F) (x : Int × Int × Int × Int) : (wantN l x).length ≤ F + 1 := by
  unfold wantN wantsV flanksV
  have h1 := first_le l x.2.1 x.2.2.1 x.2.2.2 x.1
  have h2 := List.length_filter_le (isFlk l x.2.1 x.2.2.1 x.2.2.2) l.flanks
  rw [List.length_append, List.length_map]
  omega
theorem of_len {l : Lay} {p : Pth} {F S : Nat} (hF : l.flanks.length ≤ F) (hS : p.ss.length + (overL10 l p.x).length ≤ S) : (ofV l p).length ≤ S * (F + 1) := by
  rw [← of_flat]
  have hs := stepsN_len l p
  generalize stepsN l p = xs at hs
  have : ∀ xs : List (Int × Int × Int × Int), (xs.flatMap (wantN l)).length ≤ xs.length * (F + 1) := fun xs => by
    induction xs with
    | nil => simp
    | cons x r ih =>
      rw [List.flatMap_cons, List.length_append, List.length_cons, Nat.add_mul, Nat.one_mul]
      have := want_len hF x
      omega
  exact Nat.le_trans (this xs) (Nat.mul_le_mul_right _ (by omega))

/-- What the walk over all steps knows, having given i needs. -/
structure NeeI (J : (Nat → Prop) → Nat → World → Prop) (R : Nat → Prop) (w0 : World) (B : Nat) (yv : Value) (U : Nat → Prop) (i : Nat) (W : World) : Prop where
  j : J U i W
  lt : ∀ k, U k → k < W.heap.size
  keeps : Keeps R w0 W
  box : Whole W B 60 [yv]
  boxU : ¬ U B
theorem NeeI.stays {J : (Nat → Prop) → Nat → World → Prop} {R : Nat → Prop} {w0 : World} {B : Nat} {yv : Value} {U : Nat → Prop} {i : Nat} {W W' : World} (h : NeeI J R w0 B yv U i W) (hJ : Safe B J) (hR : ∀ k, R k → k < B) {C : Nat} {V : Nat → Prop} (hs : Stays C V W W') (hBC : B < C) (hU : ∀ k, U k → k < C ∨ V k) : NeeI J R w0 B yv U i W' :=
  ⟨hJ _ _ _ _ h.j ⟨hs.same, hs.size, fun k o ho hk => hs.rest k o ho (hk.elim (fun h => .inl (by omega)) (hU k))⟩, fun k hk => Nat.lt_of_lt_of_le (h.lt k hk) hs.size, fun k o hk ho => hs.rest k o (h.keeps k o hk ho) (.inl (by have := hR k hk; omega)), hs.whole h.box (.inl hBC), h.boxU⟩
/-- What a round over one step's wants knows: W0: as the round began; v: the row of what it wants. -/
structure NeeR (J : (Nat → Prop) → Nat → World → Prop) (R : Nat → Prop) (w0 : World) (B h n : Nat) (yv : Value) (U0 : Nat → Prop) (W0 : World) (v : Value) (m : Nat) (xs : List Value) (V : Nat → Prop) (i : Nat) (W : World) : Prop where
  nee : NeeI J R w0 B yv V i W
  sub : ∀ k, V k → k < h + 2 ∨ With U0 W0 W k
  noh : ¬ V h ∧ ¬ V (h + 1)
  kept : Kept (fun k => k < n ∨ (k = h + 1 ∨ k = h)) (h + 2) U0 W0 W
  own : ∃ base, W.ownsRow base 40 3 v m xs
  ownV : ∀ b, v.ownBlock = some b → B ≤ b ∧ ¬ V b
theorem NeeR.below {J : (Nat → Prop) → Nat → World → Prop} {R : Nat → Prop} {w0 : World} {B h n : Nat} {yv : Value} {U0 : Nat → Prop} {W0 : World} {v : Value} {m : Nat} {xs : List Value} {V : Nat → Prop} {i : Nat} {W W' : World} (hh : NeeR J R w0 B h n yv U0 W0 v m xs V i W) (hJ : Safe B J) (hR : ∀ k, R k → k < B) (hb : Below W.heap.size W W') : NeeR J R w0 B h n yv U0 W0 v m xs V i W' := by
  obtain ⟨h1, h2, h3, h4, ⟨base, h5⟩, h6⟩ := hh
  have hB := h1.box.lt
  refine ⟨h1.stays hJ hR (C := W.heap.size) (V := fun _ => False) (Stays.below hb) hB (fun k hk => .inl (h1.lt k hk)), fun k hk => (h2 k hk).imp id (fun hw => hw.imp id (fun x => ⟨x.1, Nat.lt_of_lt_of_le x.2 hb.size⟩)), h3, ⟨Nat.le_trans h4.size hb.size, fun k o ho hr => ?_⟩, ⟨base, owns_keep h5 hb⟩, h6⟩
  have := h4.rest k o ho hr
  exact (hb.block k (Array.getElem?_eq_some_iff.1 this).1).trans this
theorem NeeR.next {J : (Nat → Prop) → Nat → World → Prop} {R : Nat → Prop} {w0 : World} {B h n : Nat} {yv : Value} {U0 : Nat → Prop} {W0 : World} {v : Value} {m : Nat} {xs : List Value} {V V' : Nat → Prop} {i i' : Nat} {W W' : World} (hh : NeeR J R w0 B h n yv U0 W0 v m xs V i W) (hRn : ∀ k, k < n → R k) (hBh : B < h) (hW0 : h + 2 ≤ W0.heap.size) (hg : Grew V V' W W') (hk : Kept R B V W W') (hj : J V' i' W') : NeeR J R w0 B h n yv U0 W0 v m xs V' i' W' := by
  obtain ⟨h1, h2, h3, h4, ⟨base, h5⟩, h6⟩ := hh
  have hs := h4.size
  refine ⟨⟨hj, hg.lt, h1.keeps.trans hk.keeps, hk.whole h1.box (Nat.le_refl _) h1.boxU, fun hv => (hg.new B hv).elim h1.boxU (fun hh => by have := h1.box.lt; omega)⟩, fun k hv => ?_, ⟨fun hv => (hg.new _ hv).elim h3.1 (fun hh => by omega), fun hv => (hg.new _ hv).elim h3.2 (fun hh => by omega)⟩, ⟨Nat.le_trans hs hk.size, fun k o ho hr => hk.rest k o (h4.rest k o ho hr) ?_⟩, ⟨base, owns_kept13 hk h5 h6⟩, fun b hb => ⟨(h6 b hb).1, fun hv => (hg.new b hv).elim (h6 b hb).2 (fun hh => by have := (h5.lt b hb).2; omega)⟩⟩
  · rcases hg.new k hv with hv' | hv'
    · exact (h2 k hv').imp id (fun hw => hw.imp id (fun x => ⟨x.1, Nat.lt_of_lt_of_le x.2 hk.size⟩))
    · exact .inr (.inr ⟨by omega, hg.lt k hv⟩)
  · have hlt := (Array.getElem?_eq_some_iff.1 ho).1
    rcases hr with (hr | rfl | rfl) | hr
    · exact .inl (hRn k hr)
    · exact .inr ⟨by omega, h3.2⟩
    · exact .inr ⟨by omega, h3.1⟩
    · exact .inr ⟨by omega, fun hv => (h2 k hv).elim (fun hh => by omega) (fun hw => hw.elim hr.2 (fun x => by omega))⟩
end Go.Proofs.Ytljpiafopbfdlaa
