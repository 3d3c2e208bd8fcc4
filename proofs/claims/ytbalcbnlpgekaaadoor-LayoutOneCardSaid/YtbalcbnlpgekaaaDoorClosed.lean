/- What goes on to hold wherever memory grows and nothing old turns. -/
import Derived.Test.YtbalcbnlpgekaaaDoorCore
import Derived.Test.YtbalcbnlpgekaaaDoorSteady
namespace Go.Proofs.YtbalcbnlpgekaaaDoor
open Go.RowKit
set_option linter.unusedVariables false

/-- It goes on to hold in whatever grows out of a world. -/
def Closed (P : World → Prop) : Prop := ∀ w w', P w → Below w.heap.size w w' → P w'
theorem Closed.drew {P : World → Prop} (h : Closed P) {w : World} (hp : P w) : P w.drew := h w _ hp (Below.refl _ w).drew
theorem Closed.and {P Q : World → Prop} (h : Closed P) (k : Closed Q) : Closed fun w => P w ∧ Q w := fun w w' hp hb => ⟨h w w' hp.1 hb, k w w' hp.2 hb⟩
theorem Closed.below (w0 : World) : Closed fun w => Below w0.heap.size w0 w := fun w w' hp hb => hp.trans (hb.mono hp.size)
theorem Closed.cell (p : Addr) (v : Value) : Closed fun w => w.cell? p = some v := fun w w' hp hb => (hb.cell (World.block_lt_of_cell? w _ hp)).trans hp
theorem Closed.whole (g : Nat) (t : TypeId) (cs : List Value) : Closed fun w => Whole w g t cs := fun w w' hp hb => hp.below hb hp.lt
theorem Closed.row (A : Option Addr) (vs : List Value) : Closed fun w => Row w w.heap.size A vs := fun w w' hp hb => hp.on hb

/-- P, and these cells hold these values. -/
def Has (P : World → Prop) (cs : List (Addr × Value)) (w : World) : Prop := P w ∧ ∀ x ∈ cs, w.cell? x.1 = some x.2
theorem Closed.has {P : World → Prop} (h : Closed P) (cs : List (Addr × Value)) : Closed (Has P cs) := fun w w' hp hb =>
  ⟨h w w' hp.1 hb, fun x hx => (hb.cell (World.block_lt_of_cell? w _ (hp.2 x hx))).trans (hp.2 x hx)⟩
theorem Has.at {P : World → Prop} {cs l : List (Addr × Value)} {w : World} (h : Has P cs w) (e : cs = l) (i : Nat) {a : Addr} {v : Value} (hi : l[i]? = some (a, v)) : w.cell? a = some v := h.2 (a, v) (by rw [e]; exact List.mem_of_getElem? hi)
theorem Has.nil {P : World → Prop} {w : World} (h : P w) : Has P [] w := ⟨h, fun _ hx => by cases hx⟩
theorem Has.cons {P : World → Prop} {cs : List (Addr × Value)} {w : World} {a : Addr} {v : Value} (h : Has P cs w) (hc : w.cell? a = some v) : Has P ((a, v) :: cs) w := ⟨h.1, fun x hx => by
  rcases List.mem_cons.1 hx with rfl | hx
  · exact hc
  · exact h.2 x hx⟩

/-- All cells lie as they lay; what is no cells may have turned. -/
structure CellsOn (w w' : World) : Prop where
  size : w.heap.size ≤ w'.heap.size
  block : ∀ (k : Nat) (o : Obj), w.heap[k]? = some o → o.isCells = true → w'.heap[k]? = some o
theorem CellsOn.refl (w : World) : CellsOn w w := ⟨Nat.le_refl _, fun _ _ h _ => h⟩
theorem CellsOn.trans {a b c : World} (h : CellsOn a b) (k : CellsOn b c) : CellsOn a c := ⟨Nat.le_trans h.size k.size, fun i o hi ho => k.block i o (h.block i o hi ho) ho⟩
theorem CellsOn.put {w : World} (W : World) (l : Nat) (o o' : Obj) (_ : w.heap.size ≤ l) (h : W.heap[l]? = some o) (hc : o.isCells = false) (_ : o.isWalk = false) : CellsOn W (W.putObj l o') :=
  ⟨(grownBy_putObj' W l o').size, fun k x hk hx => by
    refine (World.putObj_heap_other (fun e => ?_)).trans hk
    subst e
    rw [hk] at h
    cases h
    rw [hx] at hc
    cases hc⟩
theorem CellsOn.of_below {w w' : World} (h : Below w.heap.size w w') : CellsOn w w' := ⟨h.size, fun k o hk _ => (h.block k (Array.getElem?_eq_some_iff.1 hk).1).trans hk⟩
theorem cells_of_cell {w : World} {p : Addr} {v : Value} (h : w.cell? p = some v) : ∃ o, w.heap[p.block]? = some o ∧ o.isCells = true := by
  unfold World.cell? at h
  cases ho : w.heap[p.block]? with
  | none => simp [ho] at h
  | some o => refine ⟨o, rfl, ?_⟩; cases o <;> simp [ho] at h ⊢ <;> rfl
theorem CellsOn.cell {w w' : World} (h : CellsOn w w') {p : Addr} {v : Value} (hv : w.cell? p = some v) : w'.cell? p = some v := by
  obtain ⟨o, h1, h2⟩ := cells_of_cell hv
  rw [← hv]
  exact World.cell?_of_block ((h.block _ o h1 h2).trans h1.symm)
theorem CellsOn.whole {w w' : World} (h : CellsOn w w') {g : Nat} {t : TypeId} {cs : List Value} (hw : Whole w g t cs) : Whole w' g t cs := h.block g _ hw rfl
theorem Whole.putDone {W : World} {g : Nat} {t : TypeId} {cs : List Value} (h : Whole W g t cs) {D : Nat} {ds : Option (List Deferred)} {o' : Obj} (hD : W.heap[D]? = some (.deferred ds)) : Whole (W.putObj D o') g t cs :=
  (World.putObj_heap_other (fun e => by subst e; rw [show W.heap[g]? = _ from h] at hD; cases hD)).trans h
end Go.Proofs.YtbalcbnlpgekaaaDoor
