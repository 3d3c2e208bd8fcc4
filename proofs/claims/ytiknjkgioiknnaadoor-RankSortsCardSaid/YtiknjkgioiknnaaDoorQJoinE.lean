/- Package join: all ports of all sections, one by one. -/
import Derived.RangeFuncNested
import Derived.RangeFuncBound
import Derived.RangeFuncCalls
import Derived.RangeFuncLeaves
import Derived.RangeFuncBox
import Derived.Shelf.Abstract
import Derived.Shelf.RegionOpen
import Derived.WalkKit
import Derived.OwnWalkIn
import Derived.TacticsInMore
import Derived.LoopNIn
import Derived.LoopIn
import Derived.WalkMore
import Derived.Test.YtiknjkgioiknnaaDoorQI
namespace Go.Proofs.YtiknjkgioiknnaaDoor
open Go.RowKit Go.Shelf
set_option linter.unusedVariables false
set_option linter.unusedSimpArgs false

attribute [local go_sem] Oper.semAt_some

/-- The ports of all sections, in order. -/
def portsTo (l : Lay) (n : Nat) : List (Int × Int) := (List.range n).flatMap fun s : Nat => portsS l s
def portsAll (l : Lay) : List (Int × Int) := portsTo l l.secs.length
theorem portsTo_next (l : Lay) (n : Nat) : portsTo l (n + 1) = portsTo l n ++ portsS l n := by
  unfold portsTo
  rw [List.range_succ, List.flatMap_append]
  simp
theorem portsTo_split (l : Lay) : ∀ (n m : Nat), n ≤ m → ∃ r, portsTo l m = portsTo l n ++ r
  | n, 0, h => ⟨[], by have : n = 0 := by omega
                       subst this; simp⟩
  | n, m + 1, h => by
    by_cases e : n = m + 1
    · subst e; exact ⟨[], by simp⟩
    · obtain ⟨r, hr⟩ := portsTo_split l n m (by omega)
      exact ⟨r ++ portsS l m, by rw [portsTo_next, hr, List.append_assoc]⟩
theorem portsAll_at {l : Lay} {s j : Nat} {x : Int × Int} (hs : s < l.secs.length) (hx : (portsS l s)[j]? = some x) : (portsAll l)[(portsTo l s).length + j]? = some x := by
  obtain ⟨r, hr⟩ := portsTo_split l (s + 1) l.secs.length (by omega)
  unfold portsAll
  have hlt := (List.getElem?_eq_some_iff.1 hx).1
  rw [hr, portsTo_next, List.append_assoc, List.getElem?_append_right (by omega), Nat.add_sub_cancel_left, List.getElem?_append_left hlt]
  exact hx

/-- The marks that ranges over a function have left. -/
def marks (Ds : List Nat) : List Deferred := Ds.map fun D => { target := .collected D, args := #[] }
/-- They lie beyond B, each once, and are none of the loop's own. -/
structure Marks (B : Nat) (U : Nat → Prop) (Ds : List Nat) (W : World) : Prop where
  once : Ds.Nodup
  all : ∀ D ∈ Ds, W.heap[D]? = some (.deferred (some [])) ∧ B ≤ D ∧ ¬ U D
theorem leaves_marks {P : Program} {fn : Func} {tmps : Array Value} {R : Ending → World → Prop} {v : Value} {B : Nat} {U : Nat → Prop} (hres : ∀ w, (results fn tmps).run P w = .ok v w) : ∀ (Ds : List Nat) (W : World), Marks B U Ds W → (∀ W', Stays B U W W' → R (.returned v) W') → LeavesInM Fence.wide 3 P fn tmps R (marks Ds) .returning W
  | [], W, _, h => ⟨v, hres W, h W ⟨⟨rfl, rfl, rfl⟩, Nat.le_refl _, fun _ _ h _ => h⟩⟩
  | D :: Ds, W, hm, h => by
    obtain ⟨h1, h2, h3⟩ := hm.all D (by simp)
    have hn := List.nodup_cons.1 hm.once
    refine ⟨by simp, .inl ⟨D, _, rfl, run_takeDeferred h1, leaves_marks hres Ds _ ⟨hn.2, fun E hE => ?_⟩ fun W' hW' => h W' ((Stays.put W _ h2 h3).trans hW')⟩⟩
    obtain ⟨k1, k2, k3⟩ := hm.all E (by simp [hE])
    exact ⟨(World.putObj_heap_other (fun e => by subst e; exact hn.1 hE)).trans k1, k2, k3⟩
theorem Marks.stays {B : Nat} {U : Nat → Prop} {Ds : List Nat} {W W' : World} (h : Marks B U Ds W) {C : Nat} {V : Nat → Prop} (hs : Stays C V W W') (hC : ∀ D ∈ Ds, D < C) : Marks B U Ds W' :=
  ⟨h.once, fun D hD => let ⟨h1, h2, h3⟩ := h.all D hD; ⟨hs.rest D _ h1 (.inl (hC D hD)), h2, h3⟩⟩
theorem Marks.kept {B : Nat} {U U' : Nat → Prop} {Ds : List Nat} {W W' : World} (h : Marks B U Ds W) {R : Nat → Prop} (hg : Grew U U' W W') (hs : Kept R B U W W') : Marks B U' Ds W' :=
  ⟨h.once, fun D hD => let ⟨h1, h2, h3⟩ := h.all D hD; ⟨hs.rest D _ h1 (.inr ⟨h2, h3⟩), h2, fun hu => (hg.new D hu).elim h3 fun hl => by have := (Array.getElem?_eq_some_iff.1 h1).1; omega⟩⟩

/-- What the walk over all sections knows, having given i ports. -/
structure AllI (J : (Nat → Prop) → Nat → World → Prop) (R : Nat → Prop) (w0 : World) (B : Nat) (yv : Value) (Ds : List Nat) (U : Nat → Prop) (i : Nat) (W : World) : Prop where
  j : J U i W
  lt : ∀ k, U k → k < W.heap.size
  keeps : Keeps R w0 W
  box : Whole W B 103 [yv]
  boxU : ¬ U B
  marks : Marks B U Ds W
theorem AllI.stays {J : (Nat → Prop) → Nat → World → Prop} {R : Nat → Prop} {w0 : World} {B : Nat} {yv : Value} {Ds : List Nat} {U : Nat → Prop} {i : Nat} {W W' : World} (h : AllI J R w0 B yv Ds U i W) (hJ : Safe B J) (hR : ∀ k, R k → k < B) {C : Nat} {V : Nat → Prop} (hs : Stays C V W W') (hBC : B < C) (hU : ∀ k, U k → k < C ∨ V k) (hD : ∀ D ∈ Ds, D < C) : AllI J R w0 B yv Ds U i W' :=
  ⟨hJ _ _ _ _ h.j ⟨hs.same, hs.size, fun k o ho hk => hs.rest k o ho (hk.elim (fun h => .inl (by omega)) (hU k))⟩, fun k hk => Nat.lt_of_lt_of_le (h.lt k hk) hs.size, fun k o hk ho => hs.rest k o (h.keeps k o hk ho) (.inl (by have := hR k hk; omega)), hs.whole h.box (.inl hBC), h.boxU, h.marks.stays hs hD⟩

end Go.Proofs.YtiknjkgioiknnaaDoor
