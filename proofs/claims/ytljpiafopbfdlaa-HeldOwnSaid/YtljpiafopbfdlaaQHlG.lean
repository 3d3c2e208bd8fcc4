/- Package held: the ways in which points are wanted: a map; opposes. -/
import Derived.RangeFuncNested
import Derived.RangeFuncBound
import Derived.RangeFuncCalls
import Derived.RangeFuncLeaves
import Derived.RangeFuncBox
import Derived.Shelf.Abstract
import Derived.Shelf.RegionOpen
import Derived.WalkKit
import Derived.OwnWalkIn
import Derived.TacticsInMore
import Derived.LoopNIn
import Derived.LoopIn
import Derived.WalkMore
import Derived.Deep.CutRange
import Derived.Maps.OwnSet
import Derived.Laws.EntriesVeiled
import Derived.Lib.MinMax
import Derived.ChangeKeysEq
import Derived.Test.YtljpiafopbfdlaaQHlF
namespace Go.Proofs.Ytljpiafopbfdlaa
open Go.Maps Go.RowKit Go.Shelf
set_option linter.unusedVariables false
set_option linter.unusedSimpArgs false
attribute [local go_sem] Oper.semAt_some
/-- The least and the most position in which a point is wanted. -/
def wayS (acc : Option (Int × Int)) (p : Int) (x : Int × Int × Int) : Option (Int × Int) := if x.1 == p then some (match acc with | none => (x.2.1, x.2.1) | some a => (min a.1 x.2.1, max a.2 x.2.1)) else acc
def wayN (ns : List (Int × Int × Int)) (p : Int) : Option (Int × Int) := ns.foldl (fun acc x => wayS acc p x) none
theorem wayN_snoc (ns : List (Int × Int × Int)) (x : Int × Int × Int) (p : Int) : wayN (ns ++ [x]) p = wayS (wayN ns p) p x := by
  unfold wayN
  rw [List.foldl_append]
  rfl
theorem snoc_ind {α : Type} {P : List α → Prop} (h0 : P []) (h1 : ∀ l x, P l → P (l ++ [x])) (l : List α) : P l := by
  have h : ∀ r : List α, P r.reverse := by
    intro r
    induction r with
    | nil => exact h0
    | cons x r ih => rw [List.reverse_cons]; exact h1 _ _ ih
  have := h l.reverse
  rwa [List.reverse_reverse] at this
theorem wayN_is (ns : List (Int × Int × Int)) (p : Int) : (wayN ns p = none → ∀ x ∈ ns, x.1 ≠ p) ∧ ∀ a, wayN ns p = some a → (∃ x ∈ ns, x.1 = p ∧ x.2.1 = a.1) ∧ (∃ x ∈ ns, x.1 = p ∧ x.2.1 = a.2) ∧ ∀ x ∈ ns, x.1 = p → a.1 ≤ x.2.1 ∧ x.2.1 ≤ a.2 := by
  induction ns using snoc_ind with
  | h0 => exact ⟨fun _ x hx => (by cases hx), fun a h => (by cases h)⟩
  | h1 ns y ih =>
    rw [wayN_snoc]
    unfold wayS
    by_cases he : y.1 = p
    · rw [if_pos (by simp [he])]
      refine ⟨fun h => (by cases h), fun a ha => ?_⟩
      have ha := Option.some.inj ha
      cases hw : wayN ns p with
      | none =>
        rw [hw] at ha
        subst ha
        refine ⟨⟨y, by simp, he, rfl⟩, ⟨y, by simp, he, rfl⟩, fun x hx hp => ?_⟩
        rw [List.mem_append] at hx
        rcases hx with hx | hx
        · exact absurd hp (ih.1 hw x hx)
        · obtain rfl : x = y := by simpa using hx
          exact ⟨Int.le_refl _, Int.le_refl _⟩
      | some b =>
        rw [hw] at ha
        subst ha
        obtain ⟨⟨x1, m1, e1, f1⟩, ⟨x2, m2, e2, f2⟩, hall⟩ := ih.2 b hw
        refine ⟨?_, ?_, fun x hx hp => ?_⟩
        · by_cases hle : b.1 ≤ y.2.1
          · exact ⟨x1, List.mem_append_left _ m1, e1, by rw [f1]; show b.1 = min b.1 y.2.1; omega⟩
          · exact ⟨y, by simp, he, by show y.2.1 = min b.1 y.2.1; omega⟩
        · by_cases hle : y.2.1 ≤ b.2
          · exact ⟨x2, List.mem_append_left _ m2, e2, by rw [f2]; show b.2 = max b.2 y.2.1; omega⟩
          · exact ⟨y, by simp, he, by show y.2.1 = max b.2 y.2.1; omega⟩
        · show min b.1 y.2.1 ≤ x.2.1 ∧ x.2.1 ≤ max b.2 y.2.1
          rw [List.mem_append] at hx
          rcases hx with hx | hx
          · have := hall x hx hp
            omega
          · obtain rfl : x = y := by simpa using hx
            omega
    · rw [if_neg (by simp [he])]
      refine ⟨fun h x hx hp => ?_, fun a ha => ?_⟩
      · rw [List.mem_append] at hx
        rcases hx with hx | hx
        · exact ih.1 h x hx hp
        · obtain rfl : x = y := by simpa using hx
          exact he hp
      · obtain ⟨⟨x1, m1, e1, f1⟩, ⟨x2, m2, e2, f2⟩, hall⟩ := ih.2 a ha
        refine ⟨⟨x1, List.mem_append_left _ m1, e1, f1⟩, ⟨x2, List.mem_append_left _ m2, e2, f2⟩, fun x hx hp => ?_⟩
        rw [List.mem_append] at hx
        rcases hx with hx | hx
        · exact hall x hx hp
        · obtain rfl : x = y := by simpa using hx
          exact absurd hp he
/-- The values that the map tells. -/
def wayD (ns : List (Int × Int × Int)) (p : Int) : Int × Int := (wayN ns p).getD (0, 0)
def wayB (ns : List (Int × Int × Int)) (p : Int) : Bool := (wayN ns p).isSome
theorem way_meets (ns : List (Int × Int × Int)) (x : Int × Int × Int) : (wayB ns x.1 && !((wayD ns x.1).1 == x.2.1 && (wayD ns x.1).2 == x.2.1)) = ns.any (fun y => meetN x y) := by
  obtain ⟨h1, h2⟩ := wayN_is ns x.1
  unfold wayB wayD
  cases hw : wayN ns x.1 with
  | none =>
    have := h1 hw
    symm
    show ns.any _ = false
    rw [List.any_eq_false]
    intro y hy hm
    exact this y hy (meetN_iff.1 hm).1.symm
  | some a =>
    obtain ⟨⟨x1, m1, e1, f1⟩, ⟨x2, m2, e2, f2⟩, hall⟩ := h2 a hw
    show (!(a.1 == x.2.1 && a.2 == x.2.1)) = _
    rw [Bool.eq_iff_iff, List.any_eq_true, Bool.not_eq_true', Bool.and_eq_false_iff, beq_eq_false_iff_ne, beq_eq_false_iff_ne]
    constructor
    · rintro (h | h)
      · exact ⟨x1, m1, meetN_iff.2 ⟨e1.symm, fun e => h (by rw [← f1, e])⟩⟩
      · exact ⟨x2, m2, meetN_iff.2 ⟨e2.symm, fun e => h (by rw [← f2, e])⟩⟩
    · rintro ⟨y, hy, hm⟩
      obtain ⟨g1, g2⟩ := meetN_iff.1 hm
      have := hall y hy g1.symm
      by_cases h : a.1 = x.2.1
      · right
        omega
      · exact .inl h
theorem way_wf {ns : List (Int × Int × Int)} (h : ∀ x ∈ ns, NWf x) (p : Int) : (Lit.int .i64 (wayD ns p).1).wf = true ∧ (Lit.int .i64 (wayD ns p).2).wf = true := by
  unfold wayD
  cases hw : wayN ns p with
  | none => exact ⟨rfl, rfl⟩
  | some a =>
    obtain ⟨⟨x1, m1, e1, f1⟩, ⟨x2, m2, e2, f2⟩, _⟩ := (wayN_is ns p).2 a hw
    show (Lit.int .i64 a.1).wf = true ∧ (Lit.int .i64 a.2).wf = true
    rw [← f1, ← f2]
    exact ⟨(h x1 m1).2, (h x2 m2).2⟩
/-- What is stored for a need's point. -/
def wayP (ns : List (Int × Int × Int)) (x : Int × Int × Int) : Int × Int := if wayB ns x.1 then (min (wayD ns x.1).1 x.2.1, max (wayD ns x.1).2 x.2.1) else (x.2.1, x.2.1)
theorem way_new (ns : List (Int × Int × Int)) (x : Int × Int × Int) : wayN (ns ++ [x]) x.1 = some (wayP ns x) := by
  rw [wayN_snoc]
  unfold wayS wayP wayB wayD
  rw [if_pos (by simp)]
  cases wayN ns x.1 <;> rfl
theorem way_other {ns : List (Int × Int × Int)} {x : Int × Int × Int} {p : Int} (h : p ≠ x.1) : wayN (ns ++ [x]) p = wayN ns p := by
  rw [wayN_snoc]
  unfold wayS
  rw [if_neg (by simp; exact fun e => h e.symm)]
theorem wayP_wf {ns : List (Int × Int × Int)} (h : ∀ x ∈ ns, NWf x) {x : Int × Int × Int} (hx : NWf x) : (Lit.int .i64 (wayP ns x).1).wf = true ∧ (Lit.int .i64 (wayP ns x).2).wf = true := by
  have h2 : ∀ y ∈ ns ++ [x], NWf y := by
    intro y hy
    rcases List.mem_append.1 hy with hy | hy
    · exact h y hy
    · rw [List.mem_singleton] at hy
      rw [hy]
      exact hx
  have := way_wf h2 x.1
  unfold wayD at this
  rw [way_new] at this
  exact this
abbrev wayU (a b : Int) : Value := .agg #[.int .i64 a, .int .i64 b]
def wayR : Value → Option (DataW Unit × List MemPlace)
  | .agg ⟨[.int .i64 a, .int .i64 b]⟩ => some (.agg [.lit (.int .i64 a), .lit (.int .i64 b)], [])
  | _ => none
theorem wayR_mk (a b : Int) : wayR (wayU a b) = some (.agg [.lit (.int .i64 a), .lit (.int .i64 b)], []) := rfl
theorem wayR_inv {v : Value} {a b : Int} {ps : List MemPlace} (h : wayR v = some (.agg [.lit (.int .i64 a), .lit (.int .i64 b)], ps)) : v = wayU a b := by
  unfold wayR at h
  split at h
  · rename_i a' b'
    cases h
    rfl
  · cases h
theorem zeroW (w : World) : (zeroValue 77).run Try.prog w = .ok (wayU 0 0) w := by kernel_rfl
abbrev wayL (a : Int × Int) : DataW Unit := .agg [.lit (.int .i64 a.1), .lit (.int .i64 a.2)]
/-- The map in block b tells in which ways each point is wanted. -/
def WayIs (W : World) (b : Nat) (ns : List (Int × Int × Int)) : Prop := ∃ D : DataW Unit, W.ownsMap Try.prog 3 wayR b ns.length D ∧ ∀ p, (Lit.int .i64 p).wf = true → Maps.has D (.int .i64 p) = wayB ns p ∧ D.atKey (.int .i64 p) (wayL (0, 0)) = wayL (wayD ns p)
theorem WayIs.made (w : World) : WayIs (w.alloc (.map #[] 0)) w.heap.size [] := ⟨_, World.ownsMap_made _ _ _ _, fun p _ => ⟨rfl, rfl⟩⟩
theorem WayIs.same {W W' : World} {b : Nat} {ns : List (Int × Int × Int)} (h : WayIs W b ns) (hb : ∀ o, W.heap[b]? = some o → W'.heap[b]? = some o) : WayIs W' b ns := by
  obtain ⟨D, ⟨es, clock, h1, h2⟩, h3⟩ := h
  exact ⟨D, ⟨es, clock, hb _ h1, h2⟩, h3⟩
theorem WayIs.lt {W : World} {b : Nat} {ns : List (Int × Int × Int)} (h : WayIs W b ns) : b < W.heap.size := let ⟨_, h1, _⟩ := h; h1.lt
theorem WayIs.below {W W' : World} {b : Nat} {ns : List (Int × Int × Int)} (h : WayIs W b ns) (hb : Below W.heap.size W W') : WayIs W' b ns := h.same fun o ho => (hb.block b h.lt).trans ho
theorem WayIs.look {W : World} {b : Nat} {ns : List (Int × Int × Int)} (h : WayIs W b ns) {p : Int} (hp : (Lit.int .i64 p).wf = true) {c d : Int} {ok : Bool} (hb : wayB ns p = ok) (hd : wayD ns p = (c, d)) : (Instr.lookup 75 (.map (some b)) (.int .i64 p) true).run Try.prog W = .ok (.tuple #[wayU c d, .bool ok]) W := by
  obtain ⟨D, h1, h2⟩ := h
  obtain ⟨v, ps, hrun, hv⟩ := h1.look_ok lawK13 Try.underlying75 (zeroW _) (wayR_mk 0 0) (keyOf_int_mk Try.underlying3 hp)
  obtain ⟨h3, h4⟩ := h2 p hp
  rw [h4, hd] at hv
  rw [h3, hb] at hrun
  rw [wayR_inv hv] at hrun
  exact hrun
theorem WayIs.put {W : World} {b : Nat} {ns : List (Int × Int × Int)} (h : WayIs W b ns) {x : Int × Int × Int} (hx : NWf x) (hn : ns.length ≤ 1000000) {c d : Int} (hd : wayP ns x = (c, d)) : ∃ W', (Instr.mapUpdate 75 (.map (some b)) (.int .i64 x.1) (wayU c d)).run Try.prog W = .ok () W' ∧ WayIs W' b (ns ++ [x]) ∧ W.grownBy W' (some b) := by
  obtain ⟨D, h1, h2⟩ := h
  obtain ⟨W', hrun, hown, hg⟩ := h1.update lawK13 Try.underlying75 (by unfold maxLen; omega) (keyOf_int_mk Try.underlying3 hx.1) (wayR_mk c d)
  refine ⟨W', hrun, ⟨_, by rw [List.length_append]; exact hown, fun p hp => ?_⟩, hg⟩
  have hk : ∀ q : Int, WideAt.IsKeyLit (.int .i64 q) := fun q => trivial
  by_cases e : p = x.1
  · subst e
    unfold wayB wayD
    rw [way_new, hd]
    exact ⟨has_put_same h1.isMap (hk _) _, atKey_put_same h1.isMap (hk _) _ _⟩
  · have hne : (Lit.int .i64 p) ≠ .int .i64 x.1 := fun h => e (by injection h)
    unfold wayB wayD
    rw [way_other e]
    exact ⟨(has_put_other hne _).trans (h2 p hp).1, (atKey_put_other hne _ _).trans (h2 p hp).2⟩
theorem eq_way (w : World) (a b a' b' : Int) : (Op.equalIn 10000 77 (wayU a b) (wayU a' b')).run Try.prog w = .ok (a == a' && b == b') w := by
  cases h1 : (a == a') <;> cases h2 : (b == b') <;> go_simp
theorem neq_way (w : World) (a b a' b' : Int) : (binOp .neq 77 (wayU a b) (wayU a' b')).run Try.prog w = .ok (.bool (!(a == a' && b == b'))) w := by rw [run_neq_struct, eq_way]; rfl

end Go.Proofs.Ytljpiafopbfdlaa
