/- Package held: Apart's beginning: what tells of the one's sections, of its needs (in whatever order the region is taken). -/
import Derived.RangeFuncNested
import Derived.RangeFuncBound
import Derived.RangeFuncCalls
import Derived.RangeFuncLeaves
import Derived.RangeFuncBox
import Derived.Shelf.Abstract
import Derived.Shelf.RegionOpen
import Derived.WalkKit
import Derived.OwnWalkIn
import Derived.TacticsInMore
import Derived.LoopNIn
import Derived.LoopIn
import Derived.WalkMore
import Derived.Deep.CutRange
import Derived.ScopeJumps
import Derived.Test.YtljpiafopbfdlaaQHlH
import Derived.Test.YtljpiafopbfdlaaQTree3
import Derived.Test.YtljpiafopbfdlaaQAg
namespace Go.Proofs.Ytljpiafopbfdlaa
open Go.Maps Go.RowKit Go.Shelf
set_option linter.unusedVariables false
set_option linter.unusedSimpArgs false
theorem whole_ne17 {W : World} {g g' : Nat} {t t' : TypeId} {cs cs' : List Value} (h : Whole W g t cs) (h' : Whole W g' t' cs') (hne : t ≠ t') : g ≠ g' := by
  rintro rfl
  have e := Option.some.inj (h.symm.trans h')
  injection e with e1 e2
  exact hne e2
structure CntG (xs : List Int) (g : Nat) (W : World) : Prop where
  at' : ∃ b, Whole W g 74 [.map (some b)] ∧ CntIs W b xs
structure OppG (ns : List (Int × Int × Int)) (g : Nat) (W : World) : Prop where
  at' : ∃ b, Whole W g 75 [.map (some b)] ∧ WayIs W b ns
theorem CntG.closed (xs : List Int) (g : Nat) : Closed (CntG xs g) := fun w w' ⟨b, h1, h2⟩ hb => ⟨b, h1.below hb h1.lt, h2.below hb⟩
theorem OppG.closed (ns : List (Int × Int × Int)) (g : Nat) : Closed (OppG ns g) := fun w w' ⟨b, h1, h2⟩ hb => ⟨b, h1.below hb h1.lt, h2.below hb⟩
theorem CntG.stays {xs : List Int} {g B : Nat} {U : Nat → Prop} {w w' : World} (h : CntG xs g w) (ht : Stays B U w w') (hB : w.heap.size ≤ B) : CntG xs g w' :=
  let ⟨b, h1, h2⟩ := h.at'; ⟨b, ht.whole h1 (.inl (by have := h1.lt; omega)), h2.same fun o ho => ht.rest _ o ho (.inl (by have := h2.lt; omega))⟩
theorem map_ne {W : World} {g b : Nat} {t : TypeId} {cs : List Value} {es : Array MapEntry} {c : Nat} (h : Whole W g t cs) (hb : W.heap[b]? = some (.map es c)) : b ≠ g := by
  rintro rfl
  have e := Option.some.inj (h.symm.trans hb)
  cases e
theorem CntG.store {xs : List Int} {g g5 : Nat} {W : World} {t : TypeId} {cs : List Value} (h : CntG xs g W) (h5 : Whole W g5 t cs) (ht : t ≠ 74) (v : Value) : CntG xs g (W.setCell ⟨g5, 0, none⟩ v) := by
  obtain ⟨b, h1, D, ⟨es, c, h2, h3⟩, h4⟩ := h.at'
  have n1 : g ≠ g5 := (whole_ne17 h5 h1 ht).symm
  have n2 : b ≠ g5 := map_ne h5 h2
  exact ⟨b, h1.far (p := ⟨g5, 0, none⟩) n1 v, D, ⟨es, c, (Below.heap_setCell W ⟨g5, 0, none⟩ v b n2).trans h2, h3⟩, h4⟩
theorem OppG.store {ns : List (Int × Int × Int)} {g g5 : Nat} {W : World} {t : TypeId} {cs : List Value} (h : OppG ns g W) (h5 : Whole W g5 t cs) (ht : t ≠ 75) (v : Value) : OppG ns g (W.setCell ⟨g5, 0, none⟩ v) := by
  obtain ⟨b, h1, D, ⟨es, c, h2, h3⟩, h4⟩ := h.at'
  have n1 : g ≠ g5 := (whole_ne17 h5 h1 ht).symm
  have n2 : b ≠ g5 := map_ne h5 h2
  exact ⟨b, h1.far (p := ⟨g5, 0, none⟩) n1 v, D, ⟨es, c, (Below.heap_setCell W ⟨g5, 0, none⟩ v b n2).trans h2, h3⟩, h4⟩
abbrev cntV (g : Nat) : Value := .func (.func 54) #[] #[.pointer (some ⟨g, 0, none⟩)]
abbrev oppV (g : Nat) : Value := .func (.func 55) #[] #[.pointer (some ⟨g, 0, none⟩)]
theorem holdsG_any {h : Hld} {w : World} (hl : HLies h w) (hw : HWf h) (hsm : Small h) : Calls Try.prog 32 #[h.val] w fun e w' => ∃ g, e = .returned (cntV g) ∧ CntG h.secs g w' ∧ Below w.heap.size w w' :=
  (holds_any hl hw hsm).mono fun e w' ⟨v, he, ⟨⟨g, b, hv, _, _, h1, h2⟩⟩, hb⟩ => ⟨g, by rw [he, hv], ⟨b, h1, h2⟩, hb⟩
theorem opposesG_any {h : Hld} {w : World} (hl : HLies h w) (hw : HWf h) (hsm : Small h) : Calls Try.prog 33 #[h.val] w fun e w' => ∃ g, e = .returned (oppV g) ∧ OppG h.needs g w' ∧ Below w.heap.size w w' :=
  (opposes_any hl hw hsm).mono fun e w' ⟨v, he, ⟨⟨g, b, hv, _, _, h1, h2⟩⟩, hb⟩ => ⟨g, by rw [he, hv], ⟨b, h1, h2⟩, hb⟩
/-- What Apart knows behind its beginning. -/
structure ApB (a b : Hld) (w : World) (g5 g6 g1 g3 : Nat) (W : World) : Prop where
  below : Below w.heap.size w W
  box : Whole W (w.heap.size + 1) 28 b.cells
  b5 : Whole W g5 58 [cntV g1]
  b6 : Whole W g6 60 [oppV g3]
  k1 : CntG a.secs g1 W
  k3 : OppG a.needs g3 W
theorem ApB.stays {a b : Hld} {w : World} {g5 g6 g1 g3 B : Nat} {U : Nat → Prop} {W W' : World} (h : ApB a b w g5 g6 g1 g3 W) (hw : w.heap.size ≤ B) (ht : Stays B U W W') (hlt : ∀ k, k < B ↔ k < B) (h1 : w.heap.size + 1 < B) (h5 : g5 < B) (h6 : g6 < B)
    (k1 : ∀ c, Whole W g1 74 [.map (some c)] → g1 < B ∧ c < B) (k3 : ∀ c, Whole W g3 75 [.map (some c)] → g3 < B ∧ c < B) : ApB a b w g5 g6 g1 g3 W' :=
  ⟨Safe.below (β := Unit) (B := B) hw (Nat.le_refl _) U () W W' h.below ht, ht.whole h.box (.inl h1), ht.whole h.b5 (.inl h5), ht.whole h.b6 (.inl h6),
   let ⟨c, x1, x2⟩ := h.k1.at'; ⟨c, ht.whole x1 (.inl (k1 c x1).1), x2.same fun o ho => ht.rest _ o ho (.inl (k1 c x1).2)⟩,
   let ⟨c, x1, x2⟩ := h.k3.at'; ⟨c, ht.whole x1 (.inl (k3 c x1).1), x2.same fun o ho => ht.rest _ o ho (.inl (k3 c x1).2)⟩⟩
theorem apart_st5 {a : Hld} {W1 W : World} {g5 g6 g1 g3 : Nat} (hg : W1.heap.size ≤ g5) (h : Below W1.heap.size W1 W ∧ CntG a.secs g1 W ∧ OppG a.needs g3 W ∧ Whole W g5 58 [.nilFunc] ∧ Whole W g6 60 [.nilFunc]) : Below W1.heap.size W1 (W.setCell ⟨g5, 0, none⟩ (cntV g1)) ∧ CntG a.secs g1 (W.setCell ⟨g5, 0, none⟩ (cntV g1)) ∧ OppG a.needs g3 (W.setCell ⟨g5, 0, none⟩ (cntV g1)) ∧ Whole (W.setCell ⟨g5, 0, none⟩ (cntV g1)) g5 58 [cntV g1] ∧ Whole (W.setCell ⟨g5, 0, none⟩ (cntV g1)) g6 60 [.nilFunc] := by
  obtain ⟨hB, k1, k3, b5, b6⟩ := h
  exact ⟨hB.setCell (p := ⟨g5, 0, none⟩) hg _, k1.store b5 (by decide) _, k3.store b5 (by decide) _, b5.set 0 _, b6.far (p := ⟨g5, 0, none⟩) (whole_ne17 b6 b5 (by decide)) _⟩
theorem apart_st6 {a : Hld} {W1 W : World} {g5 g6 g1 g3 : Nat} (hg : W1.heap.size ≤ g6) (h : Below W1.heap.size W1 W ∧ CntG a.secs g1 W ∧ OppG a.needs g3 W ∧ Whole W g5 58 [cntV g1] ∧ Whole W g6 60 [.nilFunc]) : Below W1.heap.size W1 (W.setCell ⟨g6, 0, none⟩ (oppV g3)) ∧ CntG a.secs g1 (W.setCell ⟨g6, 0, none⟩ (oppV g3)) ∧ OppG a.needs g3 (W.setCell ⟨g6, 0, none⟩ (oppV g3)) ∧ Whole (W.setCell ⟨g6, 0, none⟩ (oppV g3)) g5 58 [cntV g1] ∧ Whole (W.setCell ⟨g6, 0, none⟩ (oppV g3)) g6 60 [oppV g3] := by
  obtain ⟨hB, k1, k3, b5, b6⟩ := h
  exact ⟨hB.setCell (p := ⟨g6, 0, none⟩) hg _, k1.store b6 (by decide) _, k3.store b6 (by decide) _, b5.far (p := ⟨g6, 0, none⟩) (whole_ne17 b5 b6 (by decide)) _, b6.set 0 _⟩
/-- A scope with jumps back to a label: what holds of the passes may be used on the first way. -/
theorem wp_scope_jumps17 {P : Program} {a : Act} {w : World} {Q : Exit → Act → World → Prop} {c rest : Code} (l : Nat) (J : Act → World → Prop) (hf : findLabel c l = some (Code.seq .skip rest))
    (pass : ∀ a w, J a w → rest.wp P (Exit.jump l (fun _ _ => False) Q) a w) (first : c.wp P (Exit.jump l J Q) a w) : (Code.scope c).wp P Q a w :=
  wp_scope_jumps l J (fun _ _ => 0) hf first fun a w h => wp_seq (wp_skip (show Exit.then _ _ Exit.normal a w from Code.wp_mono (fun e a' w' hq => by
    cases e with
    | goto l' => exact hq.2.elim
    | _ => exact hq) (pass a w h)))
set_option maxRecDepth 100000 in
set_option maxHeartbeats 32000000 in
theorem apart_begin {a b : Hld} {w W1 : World} (hl : HLies a w) (hw : HWf a) (hsm : Small a) (hB1 : Below w.heap.size w W1) (hbx : Whole W1 w.heap.size 28 a.cells) {Q : Exit → Act → World → Prop}
    (hQ : ∀ g5 g6 g1 g3 W, Below W1.heap.size W1 W ∧ CntG a.secs g1 W ∧ OppG a.needs g3 W ∧ Whole W g5 58 [cntV g1] ∧ Whole W g6 60 [oppV g3] → Q .normal { tmps := #[a.val, b.val, .pointer (some ⟨w.heap.size, 0, none⟩), .pointer (some ⟨w.heap.size + 1, 0, none⟩), .bool false, .pointer (some ⟨g5, 0, none⟩), .pointer (some ⟨g6, 0, none⟩), undef, undef, a.val, cntV g1, a.val, oppV g3, undef, undef, undef, undef, undef, undef, undef, undef, undef, undef, undef, undef], defers := [] } W) :
    (Code.region 1 #[{ dst := some 9, op := Op.load 28 (Operand.tmp 2), type := 28, pos := "held.go:74", after := #[], guard := none }, { dst := some 10, op := Op.call { callee := Callee.value (Operand.func 32), args := #[Operand.tmp 9], argTypes := #[28] }, type := 58, pos := "held.go:74", after := #[{ on := 0, ground := Ground.data }], guard := none }, { dst := some 11, op := Op.load 28 (Operand.tmp 2), type := 28, pos := "held.go:74", after := #[], guard := none }, { dst := some 12, op := Op.call { callee := Callee.value (Operand.func 33), args := #[Operand.tmp 11], argTypes := #[28] }, type := 60, pos := "held.go:74", after := #[{ on := 2, ground := Ground.data }, { on := 1, ground := Ground.chain }], guard := none }, { dst := some 5, op := Op.alloc 58, type := 0, pos := "held.go:74", after := #[], guard := none }, { dst := some 6, op := Op.alloc 60, type := 0, pos := "held.go:74", after := #[], guard := none }, { dst := none, op := Op.store 58 (Operand.tmp 5) (Operand.tmp 10), type := 0, pos := "held.go:74", after := #[{ on := 4, ground := Ground.data }, { on := 1, ground := Ground.data }, { on := 3, ground := Ground.chain }, { on := 0, ground := Ground.phase }, { on := 1, ground := Ground.phase }, { on := 2, ground := Ground.textOnly Departure.lateStores }, { on := 3, ground := Ground.textOnly Departure.lateStoresUnsure }, { on := 4, ground := Ground.phase }, { on := 5, ground := Ground.phase }], guard := none }, { dst := none, op := Op.store 60 (Operand.tmp 6) (Operand.tmp 12), type := 0, pos := "held.go:74", after := #[{ on := 5, ground := Ground.data }, { on := 3, ground := Ground.data }, { on := 6, ground := Ground.chain }, { on := 0, ground := Ground.phase }, { on := 1, ground := Ground.phase }, { on := 2, ground := Ground.phase }, { on := 3, ground := Ground.phase }, { on := 4, ground := Ground.phase }, { on := 5, ground := Ground.phase }, { on := 6, ground := Ground.phase }], guard := none }] true).wp Try.prog Q { tmps := #[a.val, b.val, .pointer (some ⟨w.heap.size, 0, none⟩), .pointer (some ⟨w.heap.size + 1, 0, none⟩), .bool false, undef, undef, undef, undef, undef, undef, undef, undef, undef, undef, undef, undef, undef, undef, undef, undef, undef, undef, undef, undef], defers := [] } W1 := by
  have KH := Lib.hid fun W (hW : Below W1.heap.size W1 W) => holdsG_any (hl.on (hB1.trans (hW.mono hB1.size))) hw hsm
  have KO := Lib.hid fun W (hW : Below W1.heap.size W1 W) => opposesG_any (hl.on (hB1.trans (hW.mono hB1.size))) hw hsm
  have HBX := Lib.hid fun W (hW : Below W1.heap.size W1 W) => hbx.below hW hbx.lt
  clear hl hw hsm hbx
  refine Code.wp_mono (Q := fun e a' W => e = .normal ∧ ∃ g5 g6 g1 g3, a' = { tmps := #[a.val, b.val, .pointer (some ⟨w.heap.size, 0, none⟩), .pointer (some ⟨w.heap.size + 1, 0, none⟩), .bool false, .pointer (some ⟨g5, 0, none⟩), .pointer (some ⟨g6, 0, none⟩), undef, undef, a.val, cntV g1, a.val, oppV g3, undef, undef, undef, undef, undef, undef, undef, undef, undef, undef, undef, undef], defers := [] } ∧ (Below W1.heap.size W1 W ∧ CntG a.secs g1 W ∧ OppG a.needs g3 W ∧ Whole W g5 58 [cntV g1] ∧ Whole W g6 60 [oppV g3])) (fun e a' W ⟨h1, g5, g6, g1, g3, h2, h3⟩ => by subst h1 h2; exact hQ g5 g6 g1 g3 W h3) ?_
  clear hQ
  refine region_tree3 (fun W => Below W1.heap.size W1 W) (.fork3 [(0, false), (2, false)] 1 4 5 (.fork3 [] 3 4 5 (.fork [] 4 5 (.last [(5, true), (6, true), (7, true)]) (.last [(4, true), (6, true), (7, true)])) (.fork [] 3 5 (.last [(5, true), (6, true), (7, true)]) (.last [(3, true), (6, true), (7, true)])) (.fork [] 3 4 (.last [(4, true), (6, true), (7, true)]) (.last [(3, true), (6, true), (7, true)]))) (.fork [] 1 5 (.fork [] 3 5 (.last [(5, true), (6, true), (7, true)]) (.last [(3, true), (6, true), (7, true)])) (.last [(1, true), (3, true), (6, true), (7, true)])) (.fork [] 1 4 (.fork [] 3 4 (.last [(4, true), (6, true), (7, true)]) (.last [(3, true), (6, true), (7, true)])) (.last [(1, true), (3, true), (6, true), (7, true)]))) (by kernel_rfl) (by kernel_rfl) (fun W => Below W1.heap.size W1 W) ⟨Closed.below W1, fun _ h => h⟩ (Below.refl _ _).drew ?_
  simp only [wpTree3, pickOps, List.getElem?_cons_zero, List.getElem?_cons_succ]
  repeat (first | (refine mix_read _ (by rfl) (fun W hW => exec_hld (by rfl) (by rfl) (HBX.out W hW)) ?_; simp only [Act.put, List.setIfInBounds_toArray, List.set_cons_zero, List.set_cons_succ]))
  refine mix_nil (fun hF => ⟨?_, ?_, ?_⟩)
  · refine mix_meet (fun g : Nat => cntV g) (fun g => CntG a.secs g) ⟨(Closed.below W1), fun _ h => h⟩ (fun g => CntG.closed _ g) _ _ (by rfl) (fun W hW => by (clear hW; go_simp; first | done | rfl)) (fun W hW => KH.out W hW) (fun g1 => ?_)
    simp only [Act.put, List.setIfInBounds_toArray, List.set_cons_zero, List.set_cons_succ]
    refine mix_nil ?_
    refine mix_nil (fun hF => ⟨?_, ?_, ?_⟩)
    · refine mix_meet (fun g : Nat => oppV g) (fun g => OppG a.needs g) ⟨((Closed.below W1).and (CntG.closed _ _)), fun _ h => h.1⟩ (fun g => OppG.closed _ g) _ _ (by rfl) (fun W hW => by (clear hW; go_simp; first | done | rfl)) (fun W hW => KO.out W hW.1) (fun g3 => ?_)
      simp only [Act.put, List.setIfInBounds_toArray, List.set_cons_zero, List.set_cons_succ]
      refine mix_nil ?_
      refine mix_nil (fun hF => ⟨?_, ?_⟩)
      · refine mix_alloc W1.heap.size 58 [.nilFunc] ⟨(((Closed.below W1).and (CntG.closed _ _)).and (OppG.closed _ _)), fun _ h => h.1.1⟩ (fun W hW => (hW.1.1).size) (by rfl) (fun W hW => by (clear hW; go_simp; first | done | with_reducible rfl)) (fun g5 hg5 => ?_)
        simp only [Act.put, List.setIfInBounds_toArray, List.set_cons_zero, List.set_cons_succ]
        refine mix_nil ?_
        refine mix_alloc W1.heap.size 60 [.nilFunc] ⟨((((Closed.below W1).and (CntG.closed _ _)).and (OppG.closed _ _)).and (Closed.whole _ _ _)), fun _ h => h.1.1.1⟩ (fun W hW => (hW.1.1.1).size) (by rfl) (fun W hW => by (clear hW; go_simp; first | done | with_reducible rfl)) (fun g6 hg6 => ?_)
        simp only [Act.put, List.setIfInBounds_toArray, List.set_cons_zero, List.set_cons_succ]
        refine mix_store (fun W => Below W1.heap.size W1 W ∧ CntG a.secs g1 W ∧ OppG a.needs g3 W ∧ Whole W g5 58 [cntV g1] ∧ Whole W g6 60 [.nilFunc]) (fun W => W.setCell ⟨g5, 0, none⟩ (cntV g1)) ⟨(Closed.below W1).and ((CntG.closed _ _).and ((OppG.closed _ _).and ((Closed.whole _ _ _).and (Closed.whole _ _ _)))), fun _ h => h.1⟩ (by rfl) (fun W hW => by (obtain ⟨hB, k1, k3, b5, b6⟩ : Below W1.heap.size W1 W ∧ CntG a.secs g1 W ∧ OppG a.needs g3 W ∧ Whole W g5 58 [.nilFunc] ∧ Whole W g6 60 [.nilFunc] := ⟨hW.1.1.1.1, hW.1.1.1.2, hW.1.1.2, hW.1.2, hW.2⟩; have c0 := b5.cell_at 0 rfl; have f0 := b5.frozen 0; clear hW hB k1 k3 b5 b6; go_simp; first | done | rfl)) (fun W hW => apart_st5 hg5 ⟨hW.1.1.1.1, hW.1.1.1.2, hW.1.1.2, hW.1.2, hW.2⟩) ?_
        simp only [Act.put, List.setIfInBounds_toArray, List.set_cons_zero, List.set_cons_succ]
        refine mix_store (fun W => Below W1.heap.size W1 W ∧ CntG a.secs g1 W ∧ OppG a.needs g3 W ∧ Whole W g5 58 [cntV g1] ∧ Whole W g6 60 [oppV g3]) (fun W => W.setCell ⟨g6, 0, none⟩ (oppV g3)) ⟨(Closed.below W1).and ((CntG.closed _ _).and ((OppG.closed _ _).and ((Closed.whole _ _ _).and (Closed.whole _ _ _)))), fun _ h => h.1⟩ (by rfl) (fun W hW => by (obtain ⟨hB, k1, k3, b5, b6⟩ := hW; have c0 := b6.cell_at 0 rfl; have f0 := b6.frozen 0; clear hB k1 k3 b5 b6; go_simp; first | done | rfl)) (fun W hW => apart_st6 hg6 hW) ?_
        simp only [Act.put, List.setIfInBounds_toArray, List.set_cons_zero, List.set_cons_succ]
        exact mix_nil (fun W hW => ⟨trivial, g5, g6, g1, g3, rfl, hW⟩)
      · refine mix_alloc W1.heap.size 60 [.nilFunc] ⟨(((Closed.below W1).and (CntG.closed _ _)).and (OppG.closed _ _)), fun _ h => h.1.1⟩ (fun W hW => (hW.1.1).size) (by rfl) (fun W hW => by (clear hW; go_simp; first | done | with_reducible rfl)) (fun g6 hg6 => ?_)
        simp only [Act.put, List.setIfInBounds_toArray, List.set_cons_zero, List.set_cons_succ]
        refine mix_nil ?_
        refine mix_alloc W1.heap.size 58 [.nilFunc] ⟨((((Closed.below W1).and (CntG.closed _ _)).and (OppG.closed _ _)).and (Closed.whole _ _ _)), fun _ h => h.1.1.1⟩ (fun W hW => (hW.1.1.1).size) (by rfl) (fun W hW => by (clear hW; go_simp; first | done | with_reducible rfl)) (fun g5 hg5 => ?_)
        simp only [Act.put, List.setIfInBounds_toArray, List.set_cons_zero, List.set_cons_succ]
        refine mix_store (fun W => Below W1.heap.size W1 W ∧ CntG a.secs g1 W ∧ OppG a.needs g3 W ∧ Whole W g5 58 [cntV g1] ∧ Whole W g6 60 [.nilFunc]) (fun W => W.setCell ⟨g5, 0, none⟩ (cntV g1)) ⟨(Closed.below W1).and ((CntG.closed _ _).and ((OppG.closed _ _).and ((Closed.whole _ _ _).and (Closed.whole _ _ _)))), fun _ h => h.1⟩ (by rfl) (fun W hW => by (obtain ⟨hB, k1, k3, b5, b6⟩ : Below W1.heap.size W1 W ∧ CntG a.secs g1 W ∧ OppG a.needs g3 W ∧ Whole W g5 58 [.nilFunc] ∧ Whole W g6 60 [.nilFunc] := ⟨hW.1.1.1.1, hW.1.1.1.2, hW.1.1.2, hW.2, hW.1.2⟩; have c0 := b5.cell_at 0 rfl; have f0 := b5.frozen 0; clear hW hB k1 k3 b5 b6; go_simp; first | done | rfl)) (fun W hW => apart_st5 hg5 ⟨hW.1.1.1.1, hW.1.1.1.2, hW.1.1.2, hW.2, hW.1.2⟩) ?_
        simp only [Act.put, List.setIfInBounds_toArray, List.set_cons_zero, List.set_cons_succ]
        refine mix_store (fun W => Below W1.heap.size W1 W ∧ CntG a.secs g1 W ∧ OppG a.needs g3 W ∧ Whole W g5 58 [cntV g1] ∧ Whole W g6 60 [oppV g3]) (fun W => W.setCell ⟨g6, 0, none⟩ (oppV g3)) ⟨(Closed.below W1).and ((CntG.closed _ _).and ((OppG.closed _ _).and ((Closed.whole _ _ _).and (Closed.whole _ _ _)))), fun _ h => h.1⟩ (by rfl) (fun W hW => by (obtain ⟨hB, k1, k3, b5, b6⟩ := hW; have c0 := b6.cell_at 0 rfl; have f0 := b6.frozen 0; clear hB k1 k3 b5 b6; go_simp; first | done | rfl)) (fun W hW => apart_st6 hg6 hW) ?_
        simp only [Act.put, List.setIfInBounds_toArray, List.set_cons_zero, List.set_cons_succ]
        exact mix_nil (fun W hW => ⟨trivial, g5, g6, g1, g3, rfl, hW⟩)
    · refine mix_alloc W1.heap.size 58 [.nilFunc] ⟨((Closed.below W1).and (CntG.closed _ _)), fun _ h => h.1⟩ (fun W hW => (hW.1).size) (by rfl) (fun W hW => by (clear hW; go_simp; first | done | with_reducible rfl)) (fun g5 hg5 => ?_)
      simp only [Act.put, List.setIfInBounds_toArray, List.set_cons_zero, List.set_cons_succ]
      refine mix_nil ?_
      refine mix_nil (fun hF => ⟨?_, ?_⟩)
      · refine mix_meet (fun g : Nat => oppV g) (fun g => OppG a.needs g) ⟨(((Closed.below W1).and (CntG.closed _ _)).and (Closed.whole _ _ _)), fun _ h => h.1.1⟩ (fun g => OppG.closed _ g) _ _ (by rfl) (fun W hW => by (clear hW; go_simp; first | done | rfl)) (fun W hW => KO.out W hW.1.1) (fun g3 => ?_)
        simp only [Act.put, List.setIfInBounds_toArray, List.set_cons_zero, List.set_cons_succ]
        refine mix_nil ?_
        refine mix_alloc W1.heap.size 60 [.nilFunc] ⟨((((Closed.below W1).and (CntG.closed _ _)).and (Closed.whole _ _ _)).and (OppG.closed _ _)), fun _ h => h.1.1.1⟩ (fun W hW => (hW.1.1.1).size) (by rfl) (fun W hW => by (clear hW; go_simp; first | done | with_reducible rfl)) (fun g6 hg6 => ?_)
        simp only [Act.put, List.setIfInBounds_toArray, List.set_cons_zero, List.set_cons_succ]
        refine mix_store (fun W => Below W1.heap.size W1 W ∧ CntG a.secs g1 W ∧ OppG a.needs g3 W ∧ Whole W g5 58 [cntV g1] ∧ Whole W g6 60 [.nilFunc]) (fun W => W.setCell ⟨g5, 0, none⟩ (cntV g1)) ⟨(Closed.below W1).and ((CntG.closed _ _).and ((OppG.closed _ _).and ((Closed.whole _ _ _).and (Closed.whole _ _ _)))), fun _ h => h.1⟩ (by rfl) (fun W hW => by (obtain ⟨hB, k1, k3, b5, b6⟩ : Below W1.heap.size W1 W ∧ CntG a.secs g1 W ∧ OppG a.needs g3 W ∧ Whole W g5 58 [.nilFunc] ∧ Whole W g6 60 [.nilFunc] := ⟨hW.1.1.1.1, hW.1.1.1.2, hW.1.2, hW.1.1.2, hW.2⟩; have c0 := b5.cell_at 0 rfl; have f0 := b5.frozen 0; clear hW hB k1 k3 b5 b6; go_simp; first | done | rfl)) (fun W hW => apart_st5 hg5 ⟨hW.1.1.1.1, hW.1.1.1.2, hW.1.2, hW.1.1.2, hW.2⟩) ?_
        simp only [Act.put, List.setIfInBounds_toArray, List.set_cons_zero, List.set_cons_succ]
        refine mix_store (fun W => Below W1.heap.size W1 W ∧ CntG a.secs g1 W ∧ OppG a.needs g3 W ∧ Whole W g5 58 [cntV g1] ∧ Whole W g6 60 [oppV g3]) (fun W => W.setCell ⟨g6, 0, none⟩ (oppV g3)) ⟨(Closed.below W1).and ((CntG.closed _ _).and ((OppG.closed _ _).and ((Closed.whole _ _ _).and (Closed.whole _ _ _)))), fun _ h => h.1⟩ (by rfl) (fun W hW => by (obtain ⟨hB, k1, k3, b5, b6⟩ := hW; have c0 := b6.cell_at 0 rfl; have f0 := b6.frozen 0; clear hB k1 k3 b5 b6; go_simp; first | done | rfl)) (fun W hW => apart_st6 hg6 hW) ?_
        simp only [Act.put, List.setIfInBounds_toArray, List.set_cons_zero, List.set_cons_succ]
        exact mix_nil (fun W hW => ⟨trivial, g5, g6, g1, g3, rfl, hW⟩)
      · refine mix_alloc W1.heap.size 60 [.nilFunc] ⟨(((Closed.below W1).and (CntG.closed _ _)).and (Closed.whole _ _ _)), fun _ h => h.1.1⟩ (fun W hW => (hW.1.1).size) (by rfl) (fun W hW => by (clear hW; go_simp; first | done | with_reducible rfl)) (fun g6 hg6 => ?_)
        simp only [Act.put, List.setIfInBounds_toArray, List.set_cons_zero, List.set_cons_succ]
        refine mix_nil ?_
        refine mix_meet (fun g : Nat => oppV g) (fun g => OppG a.needs g) ⟨((((Closed.below W1).and (CntG.closed _ _)).and (Closed.whole _ _ _)).and (Closed.whole _ _ _)), fun _ h => h.1.1.1⟩ (fun g => OppG.closed _ g) _ _ (by rfl) (fun W hW => by (clear hW; go_simp; first | done | rfl)) (fun W hW => KO.out W hW.1.1.1) (fun g3 => ?_)
        simp only [Act.put, List.setIfInBounds_toArray, List.set_cons_zero, List.set_cons_succ]
        refine mix_store (fun W => Below W1.heap.size W1 W ∧ CntG a.secs g1 W ∧ OppG a.needs g3 W ∧ Whole W g5 58 [cntV g1] ∧ Whole W g6 60 [.nilFunc]) (fun W => W.setCell ⟨g5, 0, none⟩ (cntV g1)) ⟨(Closed.below W1).and ((CntG.closed _ _).and ((OppG.closed _ _).and ((Closed.whole _ _ _).and (Closed.whole _ _ _)))), fun _ h => h.1⟩ (by rfl) (fun W hW => by (obtain ⟨hB, k1, k3, b5, b6⟩ : Below W1.heap.size W1 W ∧ CntG a.secs g1 W ∧ OppG a.needs g3 W ∧ Whole W g5 58 [.nilFunc] ∧ Whole W g6 60 [.nilFunc] := ⟨hW.1.1.1.1, hW.1.1.1.2, hW.2, hW.1.1.2, hW.1.2⟩; have c0 := b5.cell_at 0 rfl; have f0 := b5.frozen 0; clear hW hB k1 k3 b5 b6; go_simp; first | done | rfl)) (fun W hW => apart_st5 hg5 ⟨hW.1.1.1.1, hW.1.1.1.2, hW.2, hW.1.1.2, hW.1.2⟩) ?_
        simp only [Act.put, List.setIfInBounds_toArray, List.set_cons_zero, List.set_cons_succ]
        refine mix_store (fun W => Below W1.heap.size W1 W ∧ CntG a.secs g1 W ∧ OppG a.needs g3 W ∧ Whole W g5 58 [cntV g1] ∧ Whole W g6 60 [oppV g3]) (fun W => W.setCell ⟨g6, 0, none⟩ (oppV g3)) ⟨(Closed.below W1).and ((CntG.closed _ _).and ((OppG.closed _ _).and ((Closed.whole _ _ _).and (Closed.whole _ _ _)))), fun _ h => h.1⟩ (by rfl) (fun W hW => by (obtain ⟨hB, k1, k3, b5, b6⟩ := hW; have c0 := b6.cell_at 0 rfl; have f0 := b6.frozen 0; clear hB k1 k3 b5 b6; go_simp; first | done | rfl)) (fun W hW => apart_st6 hg6 hW) ?_
        simp only [Act.put, List.setIfInBounds_toArray, List.set_cons_zero, List.set_cons_succ]
        exact mix_nil (fun W hW => ⟨trivial, g5, g6, g1, g3, rfl, hW⟩)
    · refine mix_alloc W1.heap.size 60 [.nilFunc] ⟨((Closed.below W1).and (CntG.closed _ _)), fun _ h => h.1⟩ (fun W hW => (hW.1).size) (by rfl) (fun W hW => by (clear hW; go_simp; first | done | with_reducible rfl)) (fun g6 hg6 => ?_)
      simp only [Act.put, List.setIfInBounds_toArray, List.set_cons_zero, List.set_cons_succ]
      refine mix_nil ?_
      refine mix_nil (fun hF => ⟨?_, ?_⟩)
      · refine mix_meet (fun g : Nat => oppV g) (fun g => OppG a.needs g) ⟨(((Closed.below W1).and (CntG.closed _ _)).and (Closed.whole _ _ _)), fun _ h => h.1.1⟩ (fun g => OppG.closed _ g) _ _ (by rfl) (fun W hW => by (clear hW; go_simp; first | done | rfl)) (fun W hW => KO.out W hW.1.1) (fun g3 => ?_)
        simp only [Act.put, List.setIfInBounds_toArray, List.set_cons_zero, List.set_cons_succ]
        refine mix_nil ?_
        refine mix_alloc W1.heap.size 58 [.nilFunc] ⟨((((Closed.below W1).and (CntG.closed _ _)).and (Closed.whole _ _ _)).and (OppG.closed _ _)), fun _ h => h.1.1.1⟩ (fun W hW => (hW.1.1.1).size) (by rfl) (fun W hW => by (clear hW; go_simp; first | done | with_reducible rfl)) (fun g5 hg5 => ?_)
        simp only [Act.put, List.setIfInBounds_toArray, List.set_cons_zero, List.set_cons_succ]
        refine mix_store (fun W => Below W1.heap.size W1 W ∧ CntG a.secs g1 W ∧ OppG a.needs g3 W ∧ Whole W g5 58 [cntV g1] ∧ Whole W g6 60 [.nilFunc]) (fun W => W.setCell ⟨g5, 0, none⟩ (cntV g1)) ⟨(Closed.below W1).and ((CntG.closed _ _).and ((OppG.closed _ _).and ((Closed.whole _ _ _).and (Closed.whole _ _ _)))), fun _ h => h.1⟩ (by rfl) (fun W hW => by (obtain ⟨hB, k1, k3, b5, b6⟩ : Below W1.heap.size W1 W ∧ CntG a.secs g1 W ∧ OppG a.needs g3 W ∧ Whole W g5 58 [.nilFunc] ∧ Whole W g6 60 [.nilFunc] := ⟨hW.1.1.1.1, hW.1.1.1.2, hW.1.2, hW.2, hW.1.1.2⟩; have c0 := b5.cell_at 0 rfl; have f0 := b5.frozen 0; clear hW hB k1 k3 b5 b6; go_simp; first | done | rfl)) (fun W hW => apart_st5 hg5 ⟨hW.1.1.1.1, hW.1.1.1.2, hW.1.2, hW.2, hW.1.1.2⟩) ?_
        simp only [Act.put, List.setIfInBounds_toArray, List.set_cons_zero, List.set_cons_succ]
        refine mix_store (fun W => Below W1.heap.size W1 W ∧ CntG a.secs g1 W ∧ OppG a.needs g3 W ∧ Whole W g5 58 [cntV g1] ∧ Whole W g6 60 [oppV g3]) (fun W => W.setCell ⟨g6, 0, none⟩ (oppV g3)) ⟨(Closed.below W1).and ((CntG.closed _ _).and ((OppG.closed _ _).and ((Closed.whole _ _ _).and (Closed.whole _ _ _)))), fun _ h => h.1⟩ (by rfl) (fun W hW => by (obtain ⟨hB, k1, k3, b5, b6⟩ := hW; have c0 := b6.cell_at 0 rfl; have f0 := b6.frozen 0; clear hB k1 k3 b5 b6; go_simp; first | done | rfl)) (fun W hW => apart_st6 hg6 hW) ?_
        simp only [Act.put, List.setIfInBounds_toArray, List.set_cons_zero, List.set_cons_succ]
        exact mix_nil (fun W hW => ⟨trivial, g5, g6, g1, g3, rfl, hW⟩)
      · refine mix_alloc W1.heap.size 58 [.nilFunc] ⟨(((Closed.below W1).and (CntG.closed _ _)).and (Closed.whole _ _ _)), fun _ h => h.1.1⟩ (fun W hW => (hW.1.1).size) (by rfl) (fun W hW => by (clear hW; go_simp; first | done | with_reducible rfl)) (fun g5 hg5 => ?_)
        simp only [Act.put, List.setIfInBounds_toArray, List.set_cons_zero, List.set_cons_succ]
        refine mix_nil ?_
        refine mix_meet (fun g : Nat => oppV g) (fun g => OppG a.needs g) ⟨((((Closed.below W1).and (CntG.closed _ _)).and (Closed.whole _ _ _)).and (Closed.whole _ _ _)), fun _ h => h.1.1.1⟩ (fun g => OppG.closed _ g) _ _ (by rfl) (fun W hW => by (clear hW; go_simp; first | done | rfl)) (fun W hW => KO.out W hW.1.1.1) (fun g3 => ?_)
        simp only [Act.put, List.setIfInBounds_toArray, List.set_cons_zero, List.set_cons_succ]
        refine mix_store (fun W => Below W1.heap.size W1 W ∧ CntG a.secs g1 W ∧ OppG a.needs g3 W ∧ Whole W g5 58 [cntV g1] ∧ Whole W g6 60 [.nilFunc]) (fun W => W.setCell ⟨g5, 0, none⟩ (cntV g1)) ⟨(Closed.below W1).and ((CntG.closed _ _).and ((OppG.closed _ _).and ((Closed.whole _ _ _).and (Closed.whole _ _ _)))), fun _ h => h.1⟩ (by rfl) (fun W hW => by (obtain ⟨hB, k1, k3, b5, b6⟩ : Below W1.heap.size W1 W ∧ CntG a.secs g1 W ∧ OppG a.needs g3 W ∧ Whole W g5 58 [.nilFunc] ∧ Whole W g6 60 [.nilFunc] := ⟨hW.1.1.1.1, hW.1.1.1.2, hW.2, hW.1.2, hW.1.1.2⟩; have c0 := b5.cell_at 0 rfl; have f0 := b5.frozen 0; clear hW hB k1 k3 b5 b6; go_simp; first | done | rfl)) (fun W hW => apart_st5 hg5 ⟨hW.1.1.1.1, hW.1.1.1.2, hW.2, hW.1.2, hW.1.1.2⟩) ?_
        simp only [Act.put, List.setIfInBounds_toArray, List.set_cons_zero, List.set_cons_succ]
        refine mix_store (fun W => Below W1.heap.size W1 W ∧ CntG a.secs g1 W ∧ OppG a.needs g3 W ∧ Whole W g5 58 [cntV g1] ∧ Whole W g6 60 [oppV g3]) (fun W => W.setCell ⟨g6, 0, none⟩ (oppV g3)) ⟨(Closed.below W1).and ((CntG.closed _ _).and ((OppG.closed _ _).and ((Closed.whole _ _ _).and (Closed.whole _ _ _)))), fun _ h => h.1⟩ (by rfl) (fun W hW => by (obtain ⟨hB, k1, k3, b5, b6⟩ := hW; have c0 := b6.cell_at 0 rfl; have f0 := b6.frozen 0; clear hB k1 k3 b5 b6; go_simp; first | done | rfl)) (fun W hW => apart_st6 hg6 hW) ?_
        simp only [Act.put, List.setIfInBounds_toArray, List.set_cons_zero, List.set_cons_succ]
        exact mix_nil (fun W hW => ⟨trivial, g5, g6, g1, g3, rfl, hW⟩)
  · refine mix_alloc W1.heap.size 58 [.nilFunc] ⟨(Closed.below W1), fun _ h => h⟩ (fun W hW => (hW).size) (by rfl) (fun W hW => by (clear hW; go_simp; first | done | with_reducible rfl)) (fun g5 hg5 => ?_)
    simp only [Act.put, List.setIfInBounds_toArray, List.set_cons_zero, List.set_cons_succ]
    refine mix_nil ?_
    refine mix_nil (fun hF => ⟨?_, ?_⟩)
    · refine mix_meet (fun g : Nat => cntV g) (fun g => CntG a.secs g) ⟨((Closed.below W1).and (Closed.whole _ _ _)), fun _ h => h.1⟩ (fun g => CntG.closed _ g) _ _ (by rfl) (fun W hW => by (clear hW; go_simp; first | done | rfl)) (fun W hW => KH.out W hW.1) (fun g1 => ?_)
      simp only [Act.put, List.setIfInBounds_toArray, List.set_cons_zero, List.set_cons_succ]
      refine mix_nil ?_
      refine mix_nil (fun hF => ⟨?_, ?_⟩)
      · refine mix_meet (fun g : Nat => oppV g) (fun g => OppG a.needs g) ⟨(((Closed.below W1).and (Closed.whole _ _ _)).and (CntG.closed _ _)), fun _ h => h.1.1⟩ (fun g => OppG.closed _ g) _ _ (by rfl) (fun W hW => by (clear hW; go_simp; first | done | rfl)) (fun W hW => KO.out W hW.1.1) (fun g3 => ?_)
        simp only [Act.put, List.setIfInBounds_toArray, List.set_cons_zero, List.set_cons_succ]
        refine mix_nil ?_
        refine mix_alloc W1.heap.size 60 [.nilFunc] ⟨((((Closed.below W1).and (Closed.whole _ _ _)).and (CntG.closed _ _)).and (OppG.closed _ _)), fun _ h => h.1.1.1⟩ (fun W hW => (hW.1.1.1).size) (by rfl) (fun W hW => by (clear hW; go_simp; first | done | with_reducible rfl)) (fun g6 hg6 => ?_)
        simp only [Act.put, List.setIfInBounds_toArray, List.set_cons_zero, List.set_cons_succ]
        refine mix_store (fun W => Below W1.heap.size W1 W ∧ CntG a.secs g1 W ∧ OppG a.needs g3 W ∧ Whole W g5 58 [cntV g1] ∧ Whole W g6 60 [.nilFunc]) (fun W => W.setCell ⟨g5, 0, none⟩ (cntV g1)) ⟨(Closed.below W1).and ((CntG.closed _ _).and ((OppG.closed _ _).and ((Closed.whole _ _ _).and (Closed.whole _ _ _)))), fun _ h => h.1⟩ (by rfl) (fun W hW => by (obtain ⟨hB, k1, k3, b5, b6⟩ : Below W1.heap.size W1 W ∧ CntG a.secs g1 W ∧ OppG a.needs g3 W ∧ Whole W g5 58 [.nilFunc] ∧ Whole W g6 60 [.nilFunc] := ⟨hW.1.1.1.1, hW.1.1.2, hW.1.2, hW.1.1.1.2, hW.2⟩; have c0 := b5.cell_at 0 rfl; have f0 := b5.frozen 0; clear hW hB k1 k3 b5 b6; go_simp; first | done | rfl)) (fun W hW => apart_st5 hg5 ⟨hW.1.1.1.1, hW.1.1.2, hW.1.2, hW.1.1.1.2, hW.2⟩) ?_
        simp only [Act.put, List.setIfInBounds_toArray, List.set_cons_zero, List.set_cons_succ]
        refine mix_store (fun W => Below W1.heap.size W1 W ∧ CntG a.secs g1 W ∧ OppG a.needs g3 W ∧ Whole W g5 58 [cntV g1] ∧ Whole W g6 60 [oppV g3]) (fun W => W.setCell ⟨g6, 0, none⟩ (oppV g3)) ⟨(Closed.below W1).and ((CntG.closed _ _).and ((OppG.closed _ _).and ((Closed.whole _ _ _).and (Closed.whole _ _ _)))), fun _ h => h.1⟩ (by rfl) (fun W hW => by (obtain ⟨hB, k1, k3, b5, b6⟩ := hW; have c0 := b6.cell_at 0 rfl; have f0 := b6.frozen 0; clear hB k1 k3 b5 b6; go_simp; first | done | rfl)) (fun W hW => apart_st6 hg6 hW) ?_
        simp only [Act.put, List.setIfInBounds_toArray, List.set_cons_zero, List.set_cons_succ]
        exact mix_nil (fun W hW => ⟨trivial, g5, g6, g1, g3, rfl, hW⟩)
      · refine mix_alloc W1.heap.size 60 [.nilFunc] ⟨(((Closed.below W1).and (Closed.whole _ _ _)).and (CntG.closed _ _)), fun _ h => h.1.1⟩ (fun W hW => (hW.1.1).size) (by rfl) (fun W hW => by (clear hW; go_simp; first | done | with_reducible rfl)) (fun g6 hg6 => ?_)
        simp only [Act.put, List.setIfInBounds_toArray, List.set_cons_zero, List.set_cons_succ]
        refine mix_nil ?_
        refine mix_meet (fun g : Nat => oppV g) (fun g => OppG a.needs g) ⟨((((Closed.below W1).and (Closed.whole _ _ _)).and (CntG.closed _ _)).and (Closed.whole _ _ _)), fun _ h => h.1.1.1⟩ (fun g => OppG.closed _ g) _ _ (by rfl) (fun W hW => by (clear hW; go_simp; first | done | rfl)) (fun W hW => KO.out W hW.1.1.1) (fun g3 => ?_)
        simp only [Act.put, List.setIfInBounds_toArray, List.set_cons_zero, List.set_cons_succ]
        refine mix_store (fun W => Below W1.heap.size W1 W ∧ CntG a.secs g1 W ∧ OppG a.needs g3 W ∧ Whole W g5 58 [cntV g1] ∧ Whole W g6 60 [.nilFunc]) (fun W => W.setCell ⟨g5, 0, none⟩ (cntV g1)) ⟨(Closed.below W1).and ((CntG.closed _ _).and ((OppG.closed _ _).and ((Closed.whole _ _ _).and (Closed.whole _ _ _)))), fun _ h => h.1⟩ (by rfl) (fun W hW => by (obtain ⟨hB, k1, k3, b5, b6⟩ : Below W1.heap.size W1 W ∧ CntG a.secs g1 W ∧ OppG a.needs g3 W ∧ Whole W g5 58 [.nilFunc] ∧ Whole W g6 60 [.nilFunc] := ⟨hW.1.1.1.1, hW.1.1.2, hW.2, hW.1.1.1.2, hW.1.2⟩; have c0 := b5.cell_at 0 rfl; have f0 := b5.frozen 0; clear hW hB k1 k3 b5 b6; go_simp; first | done | rfl)) (fun W hW => apart_st5 hg5 ⟨hW.1.1.1.1, hW.1.1.2, hW.2, hW.1.1.1.2, hW.1.2⟩) ?_
        simp only [Act.put, List.setIfInBounds_toArray, List.set_cons_zero, List.set_cons_succ]
        refine mix_store (fun W => Below W1.heap.size W1 W ∧ CntG a.secs g1 W ∧ OppG a.needs g3 W ∧ Whole W g5 58 [cntV g1] ∧ Whole W g6 60 [oppV g3]) (fun W => W.setCell ⟨g6, 0, none⟩ (oppV g3)) ⟨(Closed.below W1).and ((CntG.closed _ _).and ((OppG.closed _ _).and ((Closed.whole _ _ _).and (Closed.whole _ _ _)))), fun _ h => h.1⟩ (by rfl) (fun W hW => by (obtain ⟨hB, k1, k3, b5, b6⟩ := hW; have c0 := b6.cell_at 0 rfl; have f0 := b6.frozen 0; clear hB k1 k3 b5 b6; go_simp; first | done | rfl)) (fun W hW => apart_st6 hg6 hW) ?_
        simp only [Act.put, List.setIfInBounds_toArray, List.set_cons_zero, List.set_cons_succ]
        exact mix_nil (fun W hW => ⟨trivial, g5, g6, g1, g3, rfl, hW⟩)
    · refine mix_alloc W1.heap.size 60 [.nilFunc] ⟨((Closed.below W1).and (Closed.whole _ _ _)), fun _ h => h.1⟩ (fun W hW => (hW.1).size) (by rfl) (fun W hW => by (clear hW; go_simp; first | done | with_reducible rfl)) (fun g6 hg6 => ?_)
      simp only [Act.put, List.setIfInBounds_toArray, List.set_cons_zero, List.set_cons_succ]
      refine mix_nil ?_
      refine mix_meet (fun g : Nat => cntV g) (fun g => CntG a.secs g) ⟨(((Closed.below W1).and (Closed.whole _ _ _)).and (Closed.whole _ _ _)), fun _ h => h.1.1⟩ (fun g => CntG.closed _ g) _ _ (by rfl) (fun W hW => by (clear hW; go_simp; first | done | rfl)) (fun W hW => KH.out W hW.1.1) (fun g1 => ?_)
      simp only [Act.put, List.setIfInBounds_toArray, List.set_cons_zero, List.set_cons_succ]
      refine mix_meet (fun g : Nat => oppV g) (fun g => OppG a.needs g) ⟨((((Closed.below W1).and (Closed.whole _ _ _)).and (Closed.whole _ _ _)).and (CntG.closed _ _)), fun _ h => h.1.1.1⟩ (fun g => OppG.closed _ g) _ _ (by rfl) (fun W hW => by (clear hW; go_simp; first | done | rfl)) (fun W hW => KO.out W hW.1.1.1) (fun g3 => ?_)
      simp only [Act.put, List.setIfInBounds_toArray, List.set_cons_zero, List.set_cons_succ]
      refine mix_store (fun W => Below W1.heap.size W1 W ∧ CntG a.secs g1 W ∧ OppG a.needs g3 W ∧ Whole W g5 58 [cntV g1] ∧ Whole W g6 60 [.nilFunc]) (fun W => W.setCell ⟨g5, 0, none⟩ (cntV g1)) ⟨(Closed.below W1).and ((CntG.closed _ _).and ((OppG.closed _ _).and ((Closed.whole _ _ _).and (Closed.whole _ _ _)))), fun _ h => h.1⟩ (by rfl) (fun W hW => by (obtain ⟨hB, k1, k3, b5, b6⟩ : Below W1.heap.size W1 W ∧ CntG a.secs g1 W ∧ OppG a.needs g3 W ∧ Whole W g5 58 [.nilFunc] ∧ Whole W g6 60 [.nilFunc] := ⟨hW.1.1.1.1, hW.1.2, hW.2, hW.1.1.1.2, hW.1.1.2⟩; have c0 := b5.cell_at 0 rfl; have f0 := b5.frozen 0; clear hW hB k1 k3 b5 b6; go_simp; first | done | rfl)) (fun W hW => apart_st5 hg5 ⟨hW.1.1.1.1, hW.1.2, hW.2, hW.1.1.1.2, hW.1.1.2⟩) ?_
      simp only [Act.put, List.setIfInBounds_toArray, List.set_cons_zero, List.set_cons_succ]
      refine mix_store (fun W => Below W1.heap.size W1 W ∧ CntG a.secs g1 W ∧ OppG a.needs g3 W ∧ Whole W g5 58 [cntV g1] ∧ Whole W g6 60 [oppV g3]) (fun W => W.setCell ⟨g6, 0, none⟩ (oppV g3)) ⟨(Closed.below W1).and ((CntG.closed _ _).and ((OppG.closed _ _).and ((Closed.whole _ _ _).and (Closed.whole _ _ _)))), fun _ h => h.1⟩ (by rfl) (fun W hW => by (obtain ⟨hB, k1, k3, b5, b6⟩ := hW; have c0 := b6.cell_at 0 rfl; have f0 := b6.frozen 0; clear hB k1 k3 b5 b6; go_simp; first | done | rfl)) (fun W hW => apart_st6 hg6 hW) ?_
      simp only [Act.put, List.setIfInBounds_toArray, List.set_cons_zero, List.set_cons_succ]
      exact mix_nil (fun W hW => ⟨trivial, g5, g6, g1, g3, rfl, hW⟩)
  · refine mix_alloc W1.heap.size 60 [.nilFunc] ⟨(Closed.below W1), fun _ h => h⟩ (fun W hW => (hW).size) (by rfl) (fun W hW => by (clear hW; go_simp; first | done | with_reducible rfl)) (fun g6 hg6 => ?_)
    simp only [Act.put, List.setIfInBounds_toArray, List.set_cons_zero, List.set_cons_succ]
    refine mix_nil ?_
    refine mix_nil (fun hF => ⟨?_, ?_⟩)
    · refine mix_meet (fun g : Nat => cntV g) (fun g => CntG a.secs g) ⟨((Closed.below W1).and (Closed.whole _ _ _)), fun _ h => h.1⟩ (fun g => CntG.closed _ g) _ _ (by rfl) (fun W hW => by (clear hW; go_simp; first | done | rfl)) (fun W hW => KH.out W hW.1) (fun g1 => ?_)
      simp only [Act.put, List.setIfInBounds_toArray, List.set_cons_zero, List.set_cons_succ]
      refine mix_nil ?_
      refine mix_nil (fun hF => ⟨?_, ?_⟩)
      · refine mix_meet (fun g : Nat => oppV g) (fun g => OppG a.needs g) ⟨(((Closed.below W1).and (Closed.whole _ _ _)).and (CntG.closed _ _)), fun _ h => h.1.1⟩ (fun g => OppG.closed _ g) _ _ (by rfl) (fun W hW => by (clear hW; go_simp; first | done | rfl)) (fun W hW => KO.out W hW.1.1) (fun g3 => ?_)
        simp only [Act.put, List.setIfInBounds_toArray, List.set_cons_zero, List.set_cons_succ]
        refine mix_nil ?_
        refine mix_alloc W1.heap.size 58 [.nilFunc] ⟨((((Closed.below W1).and (Closed.whole _ _ _)).and (CntG.closed _ _)).and (OppG.closed _ _)), fun _ h => h.1.1.1⟩ (fun W hW => (hW.1.1.1).size) (by rfl) (fun W hW => by (clear hW; go_simp; first | done | with_reducible rfl)) (fun g5 hg5 => ?_)
        simp only [Act.put, List.setIfInBounds_toArray, List.set_cons_zero, List.set_cons_succ]
        refine mix_store (fun W => Below W1.heap.size W1 W ∧ CntG a.secs g1 W ∧ OppG a.needs g3 W ∧ Whole W g5 58 [cntV g1] ∧ Whole W g6 60 [.nilFunc]) (fun W => W.setCell ⟨g5, 0, none⟩ (cntV g1)) ⟨(Closed.below W1).and ((CntG.closed _ _).and ((OppG.closed _ _).and ((Closed.whole _ _ _).and (Closed.whole _ _ _)))), fun _ h => h.1⟩ (by rfl) (fun W hW => by (obtain ⟨hB, k1, k3, b5, b6⟩ : Below W1.heap.size W1 W ∧ CntG a.secs g1 W ∧ OppG a.needs g3 W ∧ Whole W g5 58 [.nilFunc] ∧ Whole W g6 60 [.nilFunc] := ⟨hW.1.1.1.1, hW.1.1.2, hW.1.2, hW.2, hW.1.1.1.2⟩; have c0 := b5.cell_at 0 rfl; have f0 := b5.frozen 0; clear hW hB k1 k3 b5 b6; go_simp; first | done | rfl)) (fun W hW => apart_st5 hg5 ⟨hW.1.1.1.1, hW.1.1.2, hW.1.2, hW.2, hW.1.1.1.2⟩) ?_
        simp only [Act.put, List.setIfInBounds_toArray, List.set_cons_zero, List.set_cons_succ]
        refine mix_store (fun W => Below W1.heap.size W1 W ∧ CntG a.secs g1 W ∧ OppG a.needs g3 W ∧ Whole W g5 58 [cntV g1] ∧ Whole W g6 60 [oppV g3]) (fun W => W.setCell ⟨g6, 0, none⟩ (oppV g3)) ⟨(Closed.below W1).and ((CntG.closed _ _).and ((OppG.closed _ _).and ((Closed.whole _ _ _).and (Closed.whole _ _ _)))), fun _ h => h.1⟩ (by rfl) (fun W hW => by (obtain ⟨hB, k1, k3, b5, b6⟩ := hW; have c0 := b6.cell_at 0 rfl; have f0 := b6.frozen 0; clear hB k1 k3 b5 b6; go_simp; first | done | rfl)) (fun W hW => apart_st6 hg6 hW) ?_
        simp only [Act.put, List.setIfInBounds_toArray, List.set_cons_zero, List.set_cons_succ]
        exact mix_nil (fun W hW => ⟨trivial, g5, g6, g1, g3, rfl, hW⟩)
      · refine mix_alloc W1.heap.size 58 [.nilFunc] ⟨(((Closed.below W1).and (Closed.whole _ _ _)).and (CntG.closed _ _)), fun _ h => h.1.1⟩ (fun W hW => (hW.1.1).size) (by rfl) (fun W hW => by (clear hW; go_simp; first | done | with_reducible rfl)) (fun g5 hg5 => ?_)
        simp only [Act.put, List.setIfInBounds_toArray, List.set_cons_zero, List.set_cons_succ]
        refine mix_nil ?_
        refine mix_meet (fun g : Nat => oppV g) (fun g => OppG a.needs g) ⟨((((Closed.below W1).and (Closed.whole _ _ _)).and (CntG.closed _ _)).and (Closed.whole _ _ _)), fun _ h => h.1.1.1⟩ (fun g => OppG.closed _ g) _ _ (by rfl) (fun W hW => by (clear hW; go_simp; first | done | rfl)) (fun W hW => KO.out W hW.1.1.1) (fun g3 => ?_)
        simp only [Act.put, List.setIfInBounds_toArray, List.set_cons_zero, List.set_cons_succ]
        refine mix_store (fun W => Below W1.heap.size W1 W ∧ CntG a.secs g1 W ∧ OppG a.needs g3 W ∧ Whole W g5 58 [cntV g1] ∧ Whole W g6 60 [.nilFunc]) (fun W => W.setCell ⟨g5, 0, none⟩ (cntV g1)) ⟨(Closed.below W1).and ((CntG.closed _ _).and ((OppG.closed _ _).and ((Closed.whole _ _ _).and (Closed.whole _ _ _)))), fun _ h => h.1⟩ (by rfl) (fun W hW => by (obtain ⟨hB, k1, k3, b5, b6⟩ : Below W1.heap.size W1 W ∧ CntG a.secs g1 W ∧ OppG a.needs g3 W ∧ Whole W g5 58 [.nilFunc] ∧ Whole W g6 60 [.nilFunc] := ⟨hW.1.1.1.1, hW.1.1.2, hW.2, hW.1.2, hW.1.1.1.2⟩; have c0 := b5.cell_at 0 rfl; have f0 := b5.frozen 0; clear hW hB k1 k3 b5 b6; go_simp; first | done | rfl)) (fun W hW => apart_st5 hg5 ⟨hW.1.1.1.1, hW.1.1.2, hW.2, hW.1.2, hW.1.1.1.2⟩) ?_
        simp only [Act.put, List.setIfInBounds_toArray, List.set_cons_zero, List.set_cons_succ]
        refine mix_store (fun W => Below W1.heap.size W1 W ∧ CntG a.secs g1 W ∧ OppG a.needs g3 W ∧ Whole W g5 58 [cntV g1] ∧ Whole W g6 60 [oppV g3]) (fun W => W.setCell ⟨g6, 0, none⟩ (oppV g3)) ⟨(Closed.below W1).and ((CntG.closed _ _).and ((OppG.closed _ _).and ((Closed.whole _ _ _).and (Closed.whole _ _ _)))), fun _ h => h.1⟩ (by rfl) (fun W hW => by (obtain ⟨hB, k1, k3, b5, b6⟩ := hW; have c0 := b6.cell_at 0 rfl; have f0 := b6.frozen 0; clear hB k1 k3 b5 b6; go_simp; first | done | rfl)) (fun W hW => apart_st6 hg6 hW) ?_
        simp only [Act.put, List.setIfInBounds_toArray, List.set_cons_zero, List.set_cons_succ]
        exact mix_nil (fun W hW => ⟨trivial, g5, g6, g1, g3, rfl, hW⟩)
    · refine mix_alloc W1.heap.size 58 [.nilFunc] ⟨((Closed.below W1).and (Closed.whole _ _ _)), fun _ h => h.1⟩ (fun W hW => (hW.1).size) (by rfl) (fun W hW => by (clear hW; go_simp; first | done | with_reducible rfl)) (fun g5 hg5 => ?_)
      simp only [Act.put, List.setIfInBounds_toArray, List.set_cons_zero, List.set_cons_succ]
      refine mix_nil ?_
      refine mix_meet (fun g : Nat => cntV g) (fun g => CntG a.secs g) ⟨(((Closed.below W1).and (Closed.whole _ _ _)).and (Closed.whole _ _ _)), fun _ h => h.1.1⟩ (fun g => CntG.closed _ g) _ _ (by rfl) (fun W hW => by (clear hW; go_simp; first | done | rfl)) (fun W hW => KH.out W hW.1.1) (fun g1 => ?_)
      simp only [Act.put, List.setIfInBounds_toArray, List.set_cons_zero, List.set_cons_succ]
      refine mix_meet (fun g : Nat => oppV g) (fun g => OppG a.needs g) ⟨((((Closed.below W1).and (Closed.whole _ _ _)).and (Closed.whole _ _ _)).and (CntG.closed _ _)), fun _ h => h.1.1.1⟩ (fun g => OppG.closed _ g) _ _ (by rfl) (fun W hW => by (clear hW; go_simp; first | done | rfl)) (fun W hW => KO.out W hW.1.1.1) (fun g3 => ?_)
      simp only [Act.put, List.setIfInBounds_toArray, List.set_cons_zero, List.set_cons_succ]
      refine mix_store (fun W => Below W1.heap.size W1 W ∧ CntG a.secs g1 W ∧ OppG a.needs g3 W ∧ Whole W g5 58 [cntV g1] ∧ Whole W g6 60 [.nilFunc]) (fun W => W.setCell ⟨g5, 0, none⟩ (cntV g1)) ⟨(Closed.below W1).and ((CntG.closed _ _).and ((OppG.closed _ _).and ((Closed.whole _ _ _).and (Closed.whole _ _ _)))), fun _ h => h.1⟩ (by rfl) (fun W hW => by (obtain ⟨hB, k1, k3, b5, b6⟩ : Below W1.heap.size W1 W ∧ CntG a.secs g1 W ∧ OppG a.needs g3 W ∧ Whole W g5 58 [.nilFunc] ∧ Whole W g6 60 [.nilFunc] := ⟨hW.1.1.1.1, hW.1.2, hW.2, hW.1.1.2, hW.1.1.1.2⟩; have c0 := b5.cell_at 0 rfl; have f0 := b5.frozen 0; clear hW hB k1 k3 b5 b6; go_simp; first | done | rfl)) (fun W hW => apart_st5 hg5 ⟨hW.1.1.1.1, hW.1.2, hW.2, hW.1.1.2, hW.1.1.1.2⟩) ?_
      simp only [Act.put, List.setIfInBounds_toArray, List.set_cons_zero, List.set_cons_succ]
      refine mix_store (fun W => Below W1.heap.size W1 W ∧ CntG a.secs g1 W ∧ OppG a.needs g3 W ∧ Whole W g5 58 [cntV g1] ∧ Whole W g6 60 [oppV g3]) (fun W => W.setCell ⟨g6, 0, none⟩ (oppV g3)) ⟨(Closed.below W1).and ((CntG.closed _ _).and ((OppG.closed _ _).and ((Closed.whole _ _ _).and (Closed.whole _ _ _)))), fun _ h => h.1⟩ (by rfl) (fun W hW => by (obtain ⟨hB, k1, k3, b5, b6⟩ := hW; have c0 := b6.cell_at 0 rfl; have f0 := b6.frozen 0; clear hB k1 k3 b5 b6; go_simp; first | done | rfl)) (fun W hW => apart_st6 hg6 hW) ?_
      simp only [Act.put, List.setIfInBounds_toArray, List.set_cons_zero, List.set_cons_succ]
      exact mix_nil (fun W hW => ⟨trivial, g5, g6, g1, g3, rfl, hW⟩)

end Go.Proofs.Ytljpiafopbfdlaa
