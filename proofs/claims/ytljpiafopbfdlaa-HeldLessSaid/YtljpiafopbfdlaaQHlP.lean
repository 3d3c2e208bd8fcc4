/- A route that is held, in numbers: what it holds, what holds (pure). -/
import Derived.RangeFuncNested
import Derived.RangeFuncBound
import Derived.RangeFuncCalls
import Derived.RangeFuncLeaves
import Derived.RangeFuncBox
import Derived.Shelf.Abstract
import Derived.Shelf.RegionOpen
import Derived.WalkKit
import Derived.OwnWalkIn
import Derived.TacticsInMore
import Derived.LoopNIn
import Derived.LoopIn
import Derived.WalkMore
import Derived.Test.YtljpiafopbfdlaaQAp
namespace Go.Proofs.Ytljpiafopbfdlaa
open Go.RowKit Go.Shelf
set_option linter.unusedVariables false
set_option linter.unusedSimpArgs false

/-- A route that is held. -/
structure Hld where
  id : Int
  p : Pth
  oA : Option Addr
  oc : Nat
  os : List (Int × Int × Int)
  nA : Option Addr
  nc : Nat
  ns : List (Int × Int × Int)
  st : Int
  gone : Int
  w0 : Bool
  w1 : Bool
  w2 : Bool
  w3 : Bool
  w4 : Bool
  w5 : Bool
  w6 : Bool
  w7 : Bool
  w8 : Bool
  w9 : Bool
  wA : Bool
  wB : Bool
  op : Bool
  tm : Int
  sh : Bool
def Hld.was (h : Hld) : List Bool := [h.w0, h.w1, h.w2, h.w3, h.w4, h.w5, h.w6, h.w7, h.w8, h.w9, h.wA, h.wB]
def Hld.cells (h : Hld) : List Value := [.int .i64 h.id, .int .i64 h.p.s, .int .i64 h.p.x, .slice h.p.A h.p.ss.length h.p.c, .slice h.oA h.os.length h.oc, .slice h.nA h.ns.length h.nc, .int .u8 h.st, .int .i64 h.gone,
  .bool h.w0, .bool h.w1, .bool h.w2, .bool h.w3, .bool h.w4, .bool h.w5, .bool h.w6, .bool h.w7, .bool h.w8, .bool h.w9, .bool h.wA, .bool h.wB, .bool h.op, .int .i64 h.tm, .bool h.sh]
abbrev Hld.val (h : Hld) : Value := .agg h.cells.toArray
def SWf (x : Int × Int × Int) : Prop := (Lit.int .i64 x.1).wf = true
structure HLies (h : Hld) (w : World) : Prop where
  pl : PLies h.p w
  pc : h.p.ss.length ≤ h.p.c
  orow : Row w w.heap.size h.oA (h.os.flatMap stpCells)
  olen : (h.os.length : Int) ≤ 9223372036854775807
  oc : h.os.length ≤ h.oc
  nrow : Row w w.heap.size h.nA (h.ns.flatMap needCells)
  nlen : (h.ns.length : Int) ≤ 9223372036854775807
  nc : h.ns.length ≤ h.nc
theorem HLies.closed (h : Hld) : Closed (HLies h) := fun w w' ⟨a, b, c, d, e, f, g, i⟩ hb => ⟨PLies.closed _ _ _ a hb, b, c.on hb, d, e, f.on hb, g, i⟩
theorem HLies.on {h : Hld} {w w' : World} (hl : HLies h w) (hb : Below w.heap.size w w') : HLies h w' := HLies.closed h w w' hl hb
/-- Its numbers are such as int holds. -/
structure HWf (h : Hld) : Prop where
  p : ∀ x ∈ h.p.ss, SWf x
  o : ∀ x ∈ h.os, SWf x
  n : ∀ x ∈ h.ns, NWf x
  g : -9223372036854775808 ≤ h.gone ∧ h.gone ≤ 9223372036854775807
/-- Not too great to be asked. -/
def Hld.small (h : Hld) : Bool := decide (h.p.ss.length ≤ 30) && (decide (h.os.length ≤ 20) && decide (h.ns.length ≤ 60))
structure Small (h : Hld) : Prop where
  p : h.p.ss.length ≤ 30
  o : h.os.length ≤ 20
  n : h.ns.length ≤ 60
theorem small_iff {h : Hld} : h.small = true ↔ Small h := by
  unfold Hld.small
  simp only [Bool.and_eq_true, decide_eq_true_eq]
  exact ⟨fun ⟨a, b, c⟩ => ⟨a, b, c⟩, fun ⟨a, b, c⟩ => ⟨a, b, c⟩⟩

/-- How many of the path's steps are gone. -/
def Hld.gn (h : Hld) : Nat := min h.gone.toNat h.p.ss.length
def Hld.path (h : Hld) : List (Int × Int × Int) := h.p.ss.drop h.gn
def Hld.lap (h : Hld) : List (Int × Int × Int) := if h.op then [] else h.os
def Hld.secs (h : Hld) : List Int := secsS h.path ++ secsS h.lap
def Hld.still (h : Hld) (x : Int × Int × Int) : Bool := decide (max h.gone 0 ≤ x.2.2) && !(x.2.2 == h.p.ss.length && h.op)
def Hld.needs (h : Hld) : List (Int × Int × Int) := h.ns.filter h.still
def Hld.over (h : Hld) : Bool := decide (h.path.length = 0) && h.op
def anyS (us vs : List Int) : Bool := us.any fun s => vs.any fun t => s == t
def meetN (x y : Int × Int × Int) : Bool := x.1 == y.1 && x.2.1 != y.2.1
def anyN (xs ys : List (Int × Int × Int)) : Bool := xs.any fun x => ys.any fun y => meetN x y
def apartH (a b : Hld) : Bool := !anyS b.secs a.secs && !anyN b.needs a.needs
theorem gn_le (h : Hld) : h.gn ≤ h.p.ss.length := Nat.min_le_right _ _
theorem path_len (h : Hld) : h.path.length = h.p.ss.length - h.gn := by unfold Hld.path; rw [List.length_drop]
theorem secs_len (h : Hld) : h.secs.length = h.path.length + h.lap.length := by unfold Hld.secs; simp
theorem lap_le (h : Hld) : h.lap.length ≤ h.os.length := by unfold Hld.lap; split <;> simp
theorem secs_le {h : Hld} (hs : Small h) : h.secs.length ≤ 50 := by
  rw [secs_len, path_len]
  have := lap_le h
  have := hs.p
  have := hs.o
  omega
theorem needs_le {h : Hld} (hs : Small h) : h.needs.length ≤ 60 := Nat.le_trans (List.length_filter_le _ _) hs.n
theorem secs_wf {h : Hld} (hw : HWf h) : ∀ x ∈ h.secs, (Lit.int .i64 x).wf = true := by
  intro x hx
  unfold Hld.secs secsS at hx
  rw [List.mem_append, List.mem_map, List.mem_map] at hx
  rcases hx with ⟨y, hy, rfl⟩ | ⟨y, hy, rfl⟩
  · exact hw.p y (List.mem_of_mem_drop hy)
  · unfold Hld.lap at hy
    split at hy
    · cases hy
    · exact hw.o y hy
theorem needs_mem {h : Hld} {x : Int × Int × Int} : x ∈ h.needs ↔ x ∈ h.ns ∧ h.still x = true := List.mem_filter
theorem needs_wf {h : Hld} (hw : HWf h) : ∀ x ∈ h.needs, NWf x := fun x hx => hw.n x (needs_mem.1 hx).1

theorem anyS_iff {us vs : List Int} : anyS us vs = true ↔ ∃ s, s ∈ us ∧ s ∈ vs := by
  unfold anyS
  rw [List.any_eq_true]
  constructor
  · rintro ⟨s, hs, h⟩
    obtain ⟨t, ht, e⟩ := List.any_eq_true.1 h
    rw [beq_iff_eq] at e
    exact ⟨s, hs, e ▸ ht⟩
  · rintro ⟨s, hs, h⟩
    exact ⟨s, hs, List.any_eq_true.2 ⟨s, h, by simp⟩⟩
theorem meetN_iff {x y : Int × Int × Int} : meetN x y = true ↔ x.1 = y.1 ∧ x.2.1 ≠ y.2.1 := by
  unfold meetN
  rw [Bool.and_eq_true, beq_iff_eq, bne_iff_ne]
theorem anyN_iff {xs ys : List (Int × Int × Int)} : anyN xs ys = true ↔ ∃ x ∈ xs, ∃ y ∈ ys, x.1 = y.1 ∧ x.2.1 ≠ y.2.1 := by
  unfold anyN
  simp only [List.any_eq_true, meetN_iff]
theorem apart_iff {a b : Hld} : apartH a b = true ↔ (∀ s, ¬ (s ∈ b.secs ∧ s ∈ a.secs)) ∧ ∀ x ∈ b.needs, ∀ y ∈ a.needs, x.1 = y.1 → x.2.1 = y.2.1 := by
  unfold apartH
  rw [Bool.and_eq_true, Bool.not_eq_true', Bool.not_eq_true', Bool.eq_false_iff, Bool.eq_false_iff, ne_eq, ne_eq, anyS_iff, anyN_iff]
  constructor
  · rintro ⟨h1, h2⟩
    exact ⟨fun s hs => h1 ⟨s, hs⟩, fun x hx y hy e => Classical.byContradiction fun ne => h2 ⟨x, hx, y, hy, e, ne⟩⟩
  · rintro ⟨h1, h2⟩
    exact ⟨fun ⟨s, hs⟩ => h1 s hs, fun ⟨x, hx, y, hy, e, ne⟩ => ne (h2 x hx y hy e)⟩

/-- What the laws ask of one that may be. -/
structure MayBe (h : Hld) : Prop where
  g0 : 0 ≤ h.gone
  g1 : h.gone ≤ h.p.ss.length
  k0 : ∀ x ∈ h.ns, x.2.2 ≤ h.p.ss.length
  p0 : ∀ x ∈ h.ns, 0 ≤ x.1 ∧ x.1 < 24
  nc : clashN h.ns = false
theorem clash_needs {h : Hld} (hm : clashN h.ns = false) : clashN h.needs = false := by
  cases hc : clashN h.needs
  · rfl
  · rw [clash_sub (fun a ha => (needs_mem.1 ha).1) hc] at hm
    cases hm
/-- Later: more is gone, or it is open. -/
structure Later (a c : Hld) : Prop where
  ss : c.p.ss = a.p.ss
  os : c.os = a.os
  ns : c.ns = a.ns
  g : a.gone ≤ c.gone
  o : a.op = true → c.op = true
theorem drop_sub {α : Type} {l : List α} {i j : Nat} (h : i ≤ j) : ∀ x ∈ l.drop j, x ∈ l.drop i := fun x hx => by
  rw [show j = i + (j - i) by omega, ← List.drop_drop] at hx
  exact List.mem_of_mem_drop hx
theorem Later.gn {a c : Hld} (h : Later a c) : a.gn ≤ c.gn := by
  unfold Hld.gn
  rw [h.ss]
  have := h.g
  omega
theorem Later.lap {a c : Hld} (h : Later a c) : (∀ x ∈ c.lap, x ∈ a.lap) ∧ c.lap.length ≤ a.lap.length := by
  unfold Hld.lap
  rw [h.os]
  cases hc : c.op
  · cases ha : a.op
    · exact ⟨fun x hx => hx, Nat.le_refl _⟩
    · rw [h.o ha] at hc; cases hc
  · exact ⟨fun x hx => (by cases hx), Nat.zero_le _⟩
theorem Later.secs {a c : Hld} (h : Later a c) : (∀ x ∈ c.secs, x ∈ a.secs) ∧ c.secs.length ≤ a.secs.length := by
  constructor
  · intro x hx
    unfold Hld.secs secsS at *
    rw [List.mem_append, List.mem_map, List.mem_map] at *
    rcases hx with ⟨y, hy, rfl⟩ | ⟨y, hy, rfl⟩
    · refine .inl ⟨y, ?_, rfl⟩
      unfold Hld.path at *
      rw [h.ss] at hy
      exact drop_sub h.gn y hy
    · exact .inr ⟨y, h.lap.1 y hy, rfl⟩
  · rw [secs_len, secs_len, path_len, path_len, h.ss]
    have := h.gn
    have := h.lap.2
    omega
theorem Later.still {a c : Hld} (h : Later a c) (x : Int × Int × Int) (hx : c.still x = true) : a.still x = true := by
  unfold Hld.still at *
  rw [h.ss] at hx
  rw [Bool.and_eq_true, decide_eq_true_eq, Bool.not_eq_true'] at *
  refine ⟨by have := h.g; have := hx.1; omega, ?_⟩
  cases ha : a.op
  · rw [Bool.and_false]
  · rw [h.o ha] at hx
    exact hx.2
theorem Later.needs {a c : Hld} (h : Later a c) : (∀ x ∈ c.needs, x ∈ a.needs) ∧ c.needs.length ≤ a.needs.length := by
  constructor
  · intro x hx
    rw [needs_mem, h.ns] at hx
    exact needs_mem.2 ⟨hx.1, h.still x hx.2⟩
  · unfold Hld.needs
    rw [h.ns]
    rw [← List.countP_eq_length_filter, ← List.countP_eq_length_filter]
    exact List.countP_mono_left fun x _ hx => h.still x hx
theorem Later.apart {a b c : Hld} (h : Later a c) (hp : apartH a b = true) : apartH c b = true := by
  rw [apart_iff] at *
  exact ⟨fun s hs => hp.1 s ⟨hs.1, h.secs.1 s hs.2⟩, fun x hx y hy e => hp.2 x hx y (h.needs.1 y hy) e⟩
theorem over_iff {h : Hld} : h.over = true ↔ h.path = [] ∧ h.op = true := by
  unfold Hld.over
  rw [Bool.and_eq_true, decide_eq_true_eq, List.length_eq_zero_iff]
theorem Later.over {a c : Hld} (h : Later a c) (hp : a.over = true) : c.over = true := by
  rw [over_iff] at *
  refine ⟨List.eq_nil_of_length_eq_zero ?_, h.o hp.2⟩
  have h1 := path_len a
  rw [hp.1] at h1
  rw [path_len, h.ss]
  have h2 := h.gn
  have : (0 : Nat) = a.p.ss.length - a.gn := h1
  omega
/-- All is gone, and it is open: nothing is held. -/
structure Gone (h : Hld) : Prop where
  g : h.gone = h.p.ss.length
  o : h.op = true
  k : ∀ x ∈ h.ns, x.2.2 ≤ h.p.ss.length
theorem Gone.path {h : Hld} (hg : Gone h) : h.path = [] := by
  refine List.eq_nil_of_length_eq_zero ?_
  rw [path_len]
  unfold Hld.gn
  rw [hg.g]
  omega
theorem Gone.secs {h : Hld} (hg : Gone h) : h.secs = [] := by
  unfold Hld.secs Hld.lap
  rw [hg.path, hg.o]
  rfl
theorem Gone.needs {h : Hld} (hg : Gone h) : h.needs = [] := by
  refine List.eq_nil_iff_forall_not_mem.2 fun x hx => ?_
  obtain ⟨h1, h2⟩ := needs_mem.1 hx
  have hk := hg.k x h1
  unfold Hld.still at h2
  rw [Bool.and_eq_true, decide_eq_true_eq, hg.g, hg.o, Bool.and_true, Bool.not_eq_true', beq_eq_false_iff_ne] at h2
  omega
theorem Gone.over {h : Hld} (hg : Gone h) : h.over = true := over_iff.2 ⟨hg.path, hg.o⟩
theorem Gone.apart {h : Hld} (hg : Gone h) (b : Hld) : apartH h b = true := apart_iff.2 ⟨fun s hs => by rw [hg.secs] at hs; exact absurd hs.2 (by simp), fun x hx y hy => by rw [hg.needs] at hy; cases hy⟩
/-- Where nothing clashes the first need of a point tells what each tells. -/
theorem at13_fine {ns : List (Int × Int × Int)} (hc : clashN ns = false) {x : Int × Int × Int} (h : x ∈ ns) : at13 ns x.1 = (x.2.1, true) := by
  obtain ⟨b, hb, e⟩ := at_fine hc h
  unfold at13
  rw [hb]
  simp [e]
/-- Apart goes both ways. -/
theorem apart_comm (a b : Hld) : apartH a b = apartH b a := by
  rw [Bool.eq_iff_iff, apart_iff, apart_iff]
  exact ⟨fun ⟨h1, h2⟩ => ⟨fun s hs => h1 s hs.symm, fun x hx y hy e => (h2 y hy x hx e.symm).symm⟩, fun ⟨h1, h2⟩ => ⟨fun s hs => h1 s hs.symm, fun x hx y hy e => (h2 y hy x hx e.symm).symm⟩⟩
theorem apart_self {a : Hld} (hc : clashN a.ns = false) : apartH a a = decide (a.secs.length = 0) := by
  rw [Bool.eq_iff_iff, apart_iff, decide_eq_true_eq, List.length_eq_zero_iff]
  constructor
  · rintro ⟨h1, _⟩
    exact List.eq_nil_iff_forall_not_mem.2 fun s hs => h1 s ⟨hs, hs⟩
  · intro h
    refine ⟨fun s hs => by rw [h] at hs; exact absurd hs.1 (by simp), fun x hx y hy e => Classical.byContradiction fun ne => ?_⟩
    have := clash_needs hc
    rw [clash_iff.2 ⟨x, hx, y, hy, e, ne⟩] at this
    cases this
/-- Do two meet: a section of the one is the other's, or a point from 0 to below n is wanted both ways. -/
def meetP (a b : Hld) (p : Nat) : Bool := (at13 a.needs p).2 && ((at13 b.needs p).2 && ((at13 a.needs p).1 != (at13 b.needs p).1))
def meetsH (a b : Hld) (i k : Nat) : Bool := (a.secs.take i).any (fun s => decide (s ∈ b.secs)) || (List.range k).any (meetP a b)
theorem meets_all {a b : Hld} (ha : MayBe a) (hb : MayBe b) : apartH a b = !meetsH a b a.secs.length 24 := by
  have hna := clash_needs ha.nc
  have hnb := clash_needs hb.nc
  rw [Bool.eq_iff_iff, apart_iff, Bool.not_eq_true', Bool.eq_false_iff, ne_eq]
  unfold meetsH
  rw [Bool.or_eq_true, List.any_eq_true, List.any_eq_true, List.take_length]
  simp only [decide_eq_true_eq, List.mem_range]
  constructor
  · rintro ⟨h1, h2⟩ (⟨s, hs, ht⟩ | ⟨k, hk, hm⟩)
    · exact h1 s ⟨ht, hs⟩
    · unfold meetP at hm
      rw [Bool.and_eq_true, Bool.and_eq_true, bne_iff_ne] at hm
      obtain ⟨x, hx, ex, hx2⟩ := at13_yes hm.1
      obtain ⟨y, hy, ey, hy2⟩ := at13_yes hm.2.1
      refine hm.2.2 ?_
      rw [← hx2, ← hy2]
      exact (h2 y hy x hx (by rw [ex, ey])).symm
  · intro h
    refine ⟨fun s hs => h (.inl ⟨s, hs.2, hs.1⟩), fun x hx y hy e => Classical.byContradiction fun ne => h (.inr ⟨x.1.toNat, ?_, ?_⟩)⟩
    · have := hb.p0 x (needs_mem.1 hx).1
      omega
    · have hp := hb.p0 x (needs_mem.1 hx).1
      have e2 : ((x.1.toNat : Nat) : Int) = x.1 := by omega
      unfold meetP
      rw [e2]
      have a1 := at13_fine hna hy
      rw [← e] at a1
      rw [a1, at13_fine hnb hx]
      simp only [Bool.true_and, bne_iff_ne]
      exact fun e => ne e.symm

end Go.Proofs.Ytljpiafopbfdlaa
