/- What the laws' walks share. -/
import Derived.Deep.CutRange
import Derived.Test.YtniihmafbeplaaaDoorQImY
namespace Go.Proofs.YtniihmafbeplaaaDoor
open Go.RowKit Go.Shelf
set_option linter.unusedVariables false
set_option linter.unusedSimpArgs false

theorem eql_self {im : Img} (hi : im.free.length = 24) (W : World) : (binOp .eql 35 (.agg im.cells.toArray) (.agg im.cells.toArray)).run Tryd.prog W = .ok (.bool true) W := by rw [eql_img W im im hi hi, im.same_self]
theorem great15_B {l : Lay} {w : World} (hL : Lies l w) {g : Bool} (hg : greatJ l = g) : Calls Tryd.prog 8 #[l.val] w fun e w' => e = .returned (.bool g) ∧ Below w.heap.size w w' :=
  greatJ_P (P := fun W => Below w.heap.size w W) (Closed.below w) (fun W h => Lies.closed l _ _ hL h) hg (Below.refl _ _)
theorem fld_of {l : Lay} {w : World} (hL : Lies l w) (hT : Tops w) (hg : greatJ l = false) : Fld l w := by
  obtain ⟨h1, h2, _⟩ := greatJ_no hg
  exact ⟨hL, hT, h1, by omega⟩
/-- Three boxes of a call's own. -/
theorem keep3 {w : World} (vs us zs : List Value) (t t' t'' : TypeId) :
    ∃ Q : World → Prop, Hid (Closed Q) ∧ Hid (∀ W, Q W → Below w.heap.size w W) ∧ Hid (∀ W, Q W → Whole W w.heap.size t vs) ∧ Hid (∀ W, Q W → Whole W (w.heap.size + 1) t' us) ∧ Hid (∀ W, Q W → Whole W (w.heap.size + 1 + 1) t'' zs) ∧
      Q (((w.alloc (.cells vs.toArray t)).alloc (.cells us.toArray t')).alloc (.cells zs.toArray t'')) := by
  have hb : Below w.heap.size w (((w.alloc (.cells vs.toArray t)).alloc (.cells us.toArray t')).alloc (.cells zs.toArray t'')) := below3 w _ _ _
  exact ⟨fun W => (Below w.heap.size w W ∧ (Whole W w.heap.size t vs ∧ Whole W (w.heap.size + 1) t' us)) ∧ Whole W (w.heap.size + 1 + 1) t'' zs,
    Lib.hid (((Closed.below w).and ((Closed.whole _ t vs).and (Closed.whole _ t' us))).and (Closed.whole _ t'' zs)), Lib.hid fun W h => h.1.1, Lib.hid fun W h => h.1.2.1, Lib.hid fun W h => h.1.2.2, Lib.hid fun W h => h.2,
    ⟨hb, ⟨((Whole.new w t vs).alloc _).alloc _, (Whole.new_at _ t' us _ (by simp)).alloc _⟩⟩, Whole.new_at _ t'' zs _ (by simp)⟩
theorem keep2 {w : World} (vs us : List Value) (t t' : TypeId) :
    ∃ Q : World → Prop, Hid (Closed Q) ∧ Hid (∀ W, Q W → Below w.heap.size w W) ∧ Hid (∀ W, Q W → Whole W w.heap.size t vs) ∧ Hid (∀ W, Q W → Whole W (w.heap.size + 1) t' us) ∧ Q ((w.alloc (.cells vs.toArray t)).alloc (.cells us.toArray t')) :=
  keep_box2 (Closed.below w) (Below.refl _ w) t t' vs us
/-- A region's operations, out of a function's code. -/
def findRegL (n : Nat) : Code → Option (Array Oper)
  | .region id ops _ => if id = n then some ops else none
  | .seq a b => match findRegL n a with
    | some c => some c
    | none => findRegL n b
  | .cond _ a b => match findRegL n a with
    | some c => some c
    | none => findRegL n b
  | .block _ c => findRegL n c
  | .loop c => findRegL n c
  | .scope c => findRegL n c
  | _ => none
noncomputable def regL (f : Func) (n : Nat) : Array Oper := (f.body.bind (findRegL n)).getD #[]
/-- The order of a region's operations, looked over in parts. -/
def lexSeg (md : Region.Mode) (ops : Array Oper) : List (Nat × Bool) → Array Bool → Option (Array Bool)
  | [], listed => some listed
  | (k, b) :: is, listed => if (decide (k < ops.size) && (if b then decide (Region.ready md ops listed = [k]) else (Region.ready md ops listed).contains k && Region.free md ops listed k)) = true then lexSeg md ops is (listed.setIfInBounds k true) else none
theorem lexMix_seg {md : Region.Mode} {ops : Array Oper} {is2 : List (Nat × Bool)} : ∀ (is1 : List (Nat × Bool)) (a b : Array Bool), lexSeg md ops is1 a = some b → lexMix md ops is2 b = true → lexMix md ops (is1 ++ is2) a = true
  | [], a, b, h, h2 => by
    simp only [lexSeg, Option.some.injEq] at h
    subst h
    exact h2
  | (k, c) :: is1, a, b, h, h2 => by
    unfold lexSeg at h
    by_cases hc : (decide (k < ops.size) && (if c then decide (Region.ready md ops a = [k]) else (Region.ready md ops a).contains k && Region.free md ops a k)) = true
    · rw [if_pos hc] at h
      have ih := lexMix_seg is1 _ b h h2
      rw [List.cons_append]
      unfold lexMix
      rw [hc, ih]
      rfl
    · rw [if_neg hc] at h
      cases h
def preL (n k : Nat) : Array Bool := ((List.range n).map fun i => decide (i < k)).toArray
theorem mixB_of {ops ops' : Array Oper} {is : List (Nat × Bool)} (hs : Region.noSelect ops = true) (hl : is.length = ops.size) (h : lexMix .any ops is (Array.replicate ops.size false) = true) (he : ops = ops') : mixB ops' is = true := by
  subst he
  unfold mixB
  rw [hs, h, decide_eq_true hl]
  rfl

end Go.Proofs.YtniihmafbeplaaaDoor
