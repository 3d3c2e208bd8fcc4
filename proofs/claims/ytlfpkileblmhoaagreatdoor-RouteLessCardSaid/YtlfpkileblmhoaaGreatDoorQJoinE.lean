/- Package join: all ports of all sections, one by one. -/
import Derived.RangeFuncNested
import Derived.RangeFuncBound
import Derived.RangeFuncCalls
import Derived.RangeFuncLeaves
import Derived.RangeFuncBox
import Derived.Shelf.Abstract
import Derived.Shelf.RegionOpen
import Derived.WalkKit
import Derived.OwnWalkIn
import Derived.TacticsInMore
import Derived.LoopNIn
import Derived.LoopIn
import Derived.WalkMore
import Derived.Test.YtlfpkileblmhoaaGreatDoorQI
namespace Go.Proofs.YtlfpkileblmhoaaGreatDoor
open Go.RowKit Go.Shelf
set_option linter.unusedVariables false
set_option linter.unusedSimpArgs false

attribute [local go_sem] Oper.semAt_some

/-- The ports of all sections, in order. -/
def portsTo (l : Lay) (n : Nat) : List (Int × Int) := (List.range n).flatMap fun s : Nat => portsS l s
def portsAll (l : Lay) : List (Int × Int) := portsTo l l.secs.length
theorem portsTo_next (l : Lay) (n : Nat) : portsTo l (n + 1) = portsTo l n ++ portsS l n := by
  unfold portsTo
  rw [List.range_succ, List.flatMap_append]
  simp
theorem portsTo_split (l : Lay) : ∀ (n m : Nat), n ≤ m → ∃ r, portsTo l m = portsTo l n ++ r
  | n, 0, h => ⟨[], by have : n = 0 := by omega
                       subst this; simp⟩
  | n, m + 1, h => by
    by_cases e : n = m + 1
    · subst e; exact ⟨[], by simp⟩
    · obtain ⟨r, hr⟩ := portsTo_split l n m (by omega)
      exact ⟨r ++ portsS l m, by rw [portsTo_next, hr, List.append_assoc]⟩
theorem portsAll_at {l : Lay} {s j : Nat} {x : Int × Int} (hs : s < l.secs.length) (hx : (portsS l s)[j]? = some x) : (portsAll l)[(portsTo l s).length + j]? = some x := by
  obtain ⟨r, hr⟩ := portsTo_split l (s + 1) l.secs.length (by omega)
  unfold portsAll
  have hlt := (List.getElem?_eq_some_iff.1 hx).1
  rw [hr, portsTo_next, List.append_assoc, List.getElem?_append_right (by omega), Nat.add_sub_cancel_left, List.getElem?_append_left hlt]
  exact hx

/-- The marks that ranges over a function have left. -/
def marks (Ds : List Nat) : List Deferred := Ds.map fun D => { target := .collected D, args := #[] }
/-- They lie beyond B, each once, and are none of the loop's own. -/
structure Marks (B : Nat) (U : Nat → Prop) (Ds : List Nat) (W : World) : Prop where
  once : Ds.Nodup
  all : ∀ D ∈ Ds, W.heap[D]? = some (.deferred (some [])) ∧ B ≤ D ∧ ¬ U D
theorem leaves_marks {P : Program} {fn : Func} {tmps : Array Value} {R : Ending → World → Prop} {v : Value} {B : Nat} {U : Nat → Prop} (hres : ∀ w, (results fn tmps).run P w = .ok v w) : ∀ (Ds : List Nat) (W : World), Marks B U Ds W → (∀ W', Stays B U W W' → R (.returned v) W') → LeavesInM Fence.wide 3 P fn tmps R (marks Ds) .returning W
  | [], W, _, h => ⟨v, hres W, h W ⟨⟨rfl, rfl, rfl⟩, Nat.le_refl _, fun _ _ h _ => h⟩⟩
  | D :: Ds, W, hm, h => by
    obtain ⟨h1, h2, h3⟩ := hm.all D (by simp)
    have hn := List.nodup_cons.1 hm.once
    refine ⟨by simp, .inl ⟨D, _, rfl, run_takeDeferred h1, leaves_marks hres Ds _ ⟨hn.2, fun E hE => ?_⟩ fun W' hW' => h W' ((Stays.put W _ h2 h3).trans hW')⟩⟩
    obtain ⟨k1, k2, k3⟩ := hm.all E (by simp [hE])
    exact ⟨(World.putObj_heap_other (fun e => by subst e; exact hn.1 hE)).trans k1, k2, k3⟩
theorem Marks.stays {B : Nat} {U : Nat → Prop} {Ds : List Nat} {W W' : World} (h : Marks B U Ds W) {C : Nat} {V : Nat → Prop} (hs : Stays C V W W') (hC : ∀ D ∈ Ds, D < C) : Marks B U Ds W' :=
  ⟨h.once, fun D hD => let ⟨h1, h2, h3⟩ := h.all D hD; ⟨hs.rest D _ h1 (.inl (hC D hD)), h2, h3⟩⟩
theorem Marks.kept {B : Nat} {U U' : Nat → Prop} {Ds : List Nat} {W W' : World} (h : Marks B U Ds W) {R : Nat → Prop} (hg : Grew U U' W W') (hs : Kept R B U W W') : Marks B U' Ds W' :=
  ⟨h.once, fun D hD => let ⟨h1, h2, h3⟩ := h.all D hD; ⟨hs.rest D _ h1 (.inr ⟨h2, h3⟩), h2, fun hu => (hg.new D hu).elim h3 fun hl => by have := (Array.getElem?_eq_some_iff.1 h1).1; omega⟩⟩

/-- What the walk over all sections knows, having given i ports. -/
structure AllI (J : (Nat → Prop) → Nat → World → Prop) (R : Nat → Prop) (w0 : World) (B : Nat) (yv : Value) (Ds : List Nat) (U : Nat → Prop) (i : Nat) (W : World) : Prop where
  j : J U i W
  lt : ∀ k, U k → k < W.heap.size
  keeps : Keeps R w0 W
  box : Whole W B 118 [yv]
  boxU : ¬ U B
  marks : Marks B U Ds W
theorem AllI.stays {J : (Nat → Prop) → Nat → World → Prop} {R : Nat → Prop} {w0 : World} {B : Nat} {yv : Value} {Ds : List Nat} {U : Nat → Prop} {i : Nat} {W W' : World} (h : AllI J R w0 B yv Ds U i W) (hJ : Safe B J) (hR : ∀ k, R k → k < B) {C : Nat} {V : Nat → Prop} (hs : Stays C V W W') (hBC : B < C) (hU : ∀ k, U k → k < C ∨ V k) (hD : ∀ D ∈ Ds, D < C) : AllI J R w0 B yv Ds U i W' :=
  ⟨hJ _ _ _ _ h.j ⟨hs.same, hs.size, fun k o ho hk => hs.rest k o ho (hk.elim (fun h => .inl (by omega)) (hU k))⟩, fun k hk => Nat.lt_of_lt_of_le (h.lt k hk) hs.size, fun k o hk ho => hs.rest k o (h.keeps k o hk ho) (.inl (by have := hR k hk; omega)), hs.whole h.box (.inl hBC), h.boxU, h.marks.stays hs hD⟩

set_option maxRecDepth 100000 in
set_option maxHeartbeats 8000000 in
theorem allPorts_iter {wa w0 : World} {g : Nat} {l : Lay} (hT : Shapes wa) (hL : Lies l wa) (hka : Keeps (· < wa.heap.size) wa w0) (hsa : wa.heap.size ≤ w0.heap.size) (hb : Whole w0 g 29 l.cells) :
    IterU Tryz.prog 143 #[.pointer (some ⟨g, 0, none⟩)] (fun x : Int × Int => #[(prtV x.1 x.2)]) (portsAll l) (fun k => k < wa.heap.size ∨ k = g) w0 := by
  intro L J Jx W hk0 hRl hJ hJx hY h0
  have hnW : wa.heap.size ≤ W.heap.size := Nat.le_of_not_lt fun hlt => absurd (hRl _ (.inl hlt)) (Nat.lt_irrefl _)
  have hbW := hk0.whole (.inr rfl) hb
  have HBB : Hid (∀ W', Keeps (fun k => k < wa.heap.size ∨ k = g) w0 W' → Whole W' g 29 l.cells) := Lib.hid fun W' hk => hk.whole (.inr rfl) hb
  have HKA : Hid (∀ W', Keeps (fun k => k < wa.heap.size ∨ k = g) w0 W' → Keeps (· < wa.heap.size) wa W') := Lib.hid fun W' hk => hka.trans (hk.sub fun k h => .inl h)
  have HRl := Lib.hid hRl
  have HIT := Lib.hid (fun (w1 : World) (g1 g2 : Nat) (s : Int) (h1 : Keeps (· < wa.heap.size) wa w1) (h2 : wa.heap.size ≤ w1.heap.size) (h3 : Whole w1 g1 3 [.int .i64 s]) (h4 : Whole w1 g2 29 l.cells) => portsJ_iter hT hL h1 h2 h3 h4)
  have HAT := Lib.hid (fun (s j : Nat) (x : Int × Int) (hs : s < l.secs.length) (hx : (portsS l s)[j]? = some x) => portsAll_at hs hx)
  have HPT := Lib.hid (fun s : Nat => show (portsTo l (s + 1)).length = (portsTo l s).length + (portsS l s).length by rw [portsTo_next, List.length_append])
  have HPE : Hid (portsTo l l.secs.length = portsAll l) := Lib.hid rfl
  have HNW := Lib.hid hnW
  have x0 := (hbW.alloc (.cells #[.func (.yield L) #[] #[]] 118)).cell_at 0 rfl
  obtain ⟨B, hB⟩ : ∃ B, W.heap.size = B := ⟨_, rfl⟩
  have hnS := hL.nS
  rw [hB] at hJ hJx hY HRl HNW
  have HBe := Lib.hid hB
  have hstart : AllI J (fun k => k < wa.heap.size ∨ k = g) w0 B (.func (.yield L) #[] #[]) [] (fun _ => False) 0 (W.alloc (.cells #[.func (.yield L) #[] #[]] 118)) :=
    ⟨hJ _ _ _ _ h0 (Stays.below (below1 W _)), fun k h => h.elim, hk0.trans (Keeps.below (below1 W _)), Whole.new_at W _ [_] _ hB.symm, fun h => h, ⟨List.nodup_nil, fun D hD => by cases hD⟩⟩
  have HST := Lib.hid hstart
  clear hT hL hka hsa hb hRl hbW hk0 h0 hstart hB hnW
  refine (callsIn_wide (n := 3)).1 ?_
  refine callsIn_of_wp_marks Tryz.func143 rfl trivial ?_ rfl
  simp only [Tryz.ntmps143, List.size_toArray, List.length_cons, List.length_nil, Nat.reduceAdd, Nat.reduceSub, Array.replicate_succ, Array.replicate_zero, List.push_toArray, List.append_toArray, List.nil_append, List.cons_append]
  gi_wp2_with fail
  clear x0
  rw [HBe.out]
  refine wpIn_loop (fun a' w' => ∃ (s : Nat) (Ds : List Nat) (U : Nat → Prop) (u3 u9 u10 u11 u12 u13 u19 : Value), (s ≤ l.secs.length ∧ B < w'.heap.size ∧ AllI J (fun k => k < wa.heap.size ∨ k = g) w0 B (.func (.yield L) #[] #[]) Ds U (portsTo l s).length w') ∧
    a' = { tmps := #[.func (.yield L) #[] #[], .pointer (some ⟨g, 0, none⟩), .pointer (some ⟨B, 0, none⟩), u3, undef, .pointer (some ⟨g, 0, none⟩), .slice l.As l.secs.length l.cs, .int .i64 l.secs.length, .int .i64 (s : Int), u9, u10, u11, u12, u13, undef, undef, undef, undef, undef, u19], defers := marks Ds })
    (fun a' _ => l.secs.length - (intOf (a'.tmps.getD 8 undef)).toNat) ?start ?round
  case start => exact ⟨0, [], fun _ => False, _, _, _, _, _, _, _, ⟨by omega, by simp; have := HBe.out; omega, HST.out⟩, rfl⟩
  case round =>
    clear HST
    rintro a' wr ⟨s, Ds, U, u3, u9, u10, u11, u12, u13, u19, ⟨hs, hsz, hI⟩, rfl⟩
    have hRB : ∀ k, (k < wa.heap.size ∨ k = g) → k < B := fun k hk => HRl.out k hk
    by_cases hlt : s < l.secs.length
    · have hlt' : (s : Int) < l.secs.length := by omega
      have m0 := HBB.out _ hI.keeps
      have x0 := m0.cell_at 0 rfl
      have x1 := m0.cell_at 1 rfl
      have x2 := m0.cell_at 2 rfl
      have x3 := m0.cell_at 3 rfl
      have x4 := m0.cell_at 4 rfl
      have x5 := m0.cell_at 5 rfl
      have x6 := m0.cell_at 6 rfl
      have x7 := m0.cell_at 7 rfl
      have x8 := m0.cell_at 8 rfl
      have x9 := m0.cell_at 9 rfl
      have x10 := m0.cell_at 10 rfl
      clear m0
      gi_wp2_with fail
      refine ⟨trivial, (callsIn_wide.2 (portsJ_any l s _)).mono ?_⟩
      rintro e w2 ⟨rfl, rfl⟩
      gi_wp2_with fail
      clear x0 x1 x2 x3 x4 x5 x6 x7 x8 x9 x10
      obtain ⟨h, hh⟩ : ∃ h, wr.heap.size = h := ⟨_, rfl⟩
      have hDlt : ∀ D ∈ Ds, D < wr.heap.size := fun D hD => (Array.getElem?_eq_some_iff.1 (hI.marks.all D hD).1).1
      have hUlt := hI.lt
      obtain ⟨W2, hW2, hsz2, hB2, b3, b4⟩ : ∃ W2, ((wr.alloc (.cells #[.slice l.As l.secs.length l.cs, .slice l.Ag l.sigs.length l.cg, .slice l.Ae l.exits.length l.ce, .slice l.Af l.flanks.length l.cf, .int .i64 l.t0, .int .i64 l.t1, .int .i64 l.t2, .int .i64 l.t3, .int .i64 l.t4, .int .i64 l.t5, .int .i64 l.t6] 29)).alloc (.cells #[.int .i64 (s : Int)] 3)) = W2 ∧ W2.heap.size = h + 2 ∧ Below wr.heap.size wr W2 ∧ Whole W2 h 29 l.cells ∧ Whole W2 (h + 1) 3 [.int .i64 (s : Int)] :=
        ⟨_, rfl, by simp; omega, below2 _ _ _, (Whole.new_at _ _ l.cells _ hh.symm).alloc _, Whole.new_at _ _ [_] _ (by simp; omega)⟩
      rw [hW2, hh]
      have hI2 := hI.stays hJ hRB (C := wr.heap.size) (V := fun _ => False) (Stays.below hB2) hsz (fun k hk => .inl (hUlt k hk)) hDlt
      have hit := HIT.out W2 (h + 1) h (s : Int) (HKA.out _ hI2.keeps) (by have := HNW.out; omega) b4 b3
      have HXJ : Hid (∀ j x, (portsS l s)[j]? = some x → (portsAll l)[(portsTo l s).length + j]? = some x) := Lib.hid fun j x hx => HAT.out s j x hlt hx
      have HPS := Lib.hid (HPT.out s)
      obtain ⟨xs, hxs⟩ : ∃ xs, portsS l s = xs := ⟨_, rfl⟩
      rw [hxs] at hit HXJ HPS
      have HH := Lib.hid hh
      have HS2 := Lib.hid hsz2
      have hDh : ∀ D ∈ Ds, D < h := fun D hD => by have := hDlt D hD; omega
      have hUh : ∀ k, U k → k < h := fun k hk => by have := hUlt k hk; omega
      have hBh : B < h := by omega
      clear hW2 hI hB2 b3 b4 hxs hDlt hUlt hh hsz
      have hstep : ∀ (U' : Nat → Prop) (i : Nat) (V : Nat → Prop) (W' W'' : World), AllI J (fun k => k < wa.heap.size ∨ k = g) w0 B (.func (.yield L) #[] #[]) Ds V i W' → Stays (h + 2) U' W' W'' → (∀ k, V k → k < h + 2 ∨ U' k) → AllI J (fun k => k < wa.heap.size ∨ k = g) w0 B (.func (.yield L) #[] #[]) Ds V i W'' := fun U' i V W' W'' hi ht hv =>
        hi.stays hJ hRB ht (by omega) hv (fun D hD => by have := hDh D hD; omega)
      have HST := Lib.hid hstep
      clear hstep
      refine range_iterU (gf := 147) rfl (enters_of Tryz.func147 (by kernel_rfl) rfl) hit (Keeps.refl _ _) (fun k hk => by have := HS2.out; have := HRl.out; rcases hk with hk | hk | hk; (have := HRl.out k (.inl hk); omega); omega; omega) (fun _ => rfl) (by omega)
        (fun U' j W' => ∃ V, AllI J (fun k => k < wa.heap.size ∨ k = g) w0 B (.func (.yield L) #[] #[]) Ds V ((portsTo l s).length + j) W' ∧ (∀ k, V k → k < h + 2 ∨ U' k) ∧ (¬ V h ∧ ¬ V (h + 1) ∧ h + 2 ≤ W'.heap.size))
        (fun c U' W' => c = .ret ∧ ∃ V, (Jx V W' ∧ (∀ k, V k → k < W'.heap.size)) ∧ Marks B V Ds W' ∧ (∀ k, V k → k < h + 2 ∨ U' k))
        (by
          rw [hsz2]
          rintro U' j W' W'' ⟨V, h1, h2, h3⟩ ht
          exact ⟨V, HST.out _ _ _ _ _ h1 ht h2, h2, h3.1, h3.2.1, Nat.le_trans h3.2.2 ht.size⟩)
        (fun c => by
          rw [hsz2]
          rintro U' u W' W'' ⟨h0, V, ⟨h1, h2⟩, h3, h4⟩ ht
          refine ⟨h0, V, ⟨hJx V () _ _ h1 ⟨ht.same, ht.size, fun k o ho hk => ht.rest k o ho (hk.elim (fun h => .inl (by omega)) (h4 k))⟩, fun k hk => Nat.lt_of_lt_of_le (h2 k hk) ht.size⟩, h3.stays ht (fun D hD => by have := hDh D hD; omega), h4⟩)
        ⟨U, hI2, fun k hk => .inl (by have := hUh k hk; omega), fun hk => by have := hUh _ hk; omega, fun hk => by have := hUh _ hk; omega, by omega⟩
        (fun U' j x a' W' => (∃ V, AllI J (fun k => k < wa.heap.size ∨ k = g) w0 B (.func (.yield L) #[] #[]) Ds V ((portsTo l s).length + j) W' ∧ (∀ k, V k → k < h + 2 ∨ U' k) ∧ (¬ V h ∧ ¬ V (h + 1) ∧ h + 2 ≤ W'.heap.size)) ∧ ∃ gp, Whole W' gp 46 (prtCells x) ∧ U' gp ∧
          a' = { tmps := #[.func (.yield L) #[] #[], .pointer (some ⟨g, 0, none⟩), .pointer (some ⟨B, 0, none⟩), .int .i64 (s : Int), .pointer (some ⟨gp, 0, none⟩), .pointer (some ⟨g, 0, none⟩), .slice l.As l.secs.length l.cs, .int .i64 l.secs.length, .int .i64 (s : Int), .bool true, .int .i64 (s : Int), .agg #[.slice l.As l.secs.length l.cs, .slice l.Ag l.sigs.length l.cg, .slice l.Ae l.exits.length l.ce, .slice l.Af l.flanks.length l.cf, .int .i64 l.t0, .int .i64 l.t1, .int .i64 l.t2, .int .i64 l.t3, .int .i64 l.t4, .int .i64 l.t5, .int .i64 l.t6], .int .i64 (s : Int), .func (.func 147) #[] #[.pointer (some ⟨h + 1, 0, none⟩), .pointer (some ⟨h, 0, none⟩)], prtV x.1 x.2, undef, undef, undef, undef, u19], defers := [] })
        (fun j x a' => by
          rw [hsz2]
          rintro U' u W' W'' ⟨⟨V, h1, h2, h3⟩, gp, h4, h5, h6⟩ ht
          exact ⟨⟨V, HST.out _ _ _ _ _ h1 ht h2, h2, h3.1, h3.2.1, Nat.le_trans h3.2.2 ht.size⟩, gp, ht.whole h4 (.inr h5), h5, h6⟩)
        ?assign ?body ?done ?stop
      case assign =>
        rintro lr U' j x W' K hx ⟨V, h1, h2, h3⟩ hsW hU' hK
        have hb := below1 W' (.cells (prtCells x).toArray 46)
        have h1' := HST.out _ _ _ _ _ h1 (Stays.below hb) h2
        gi_wp2_with fail
        exact hK _ _ (With U' W' (W'.alloc (.cells (prtCells x).toArray 46))) (Grew.with hU' hb.size) (Kept.below hb) ⟨⟨V, h1', fun k hk => (h2 k hk).imp id .inl, h3.1, h3.2.1, Nat.le_trans h3.2.2 hb.size⟩, W'.heap.size, Whole.new W' _ (prtCells x), .inr ⟨Nat.le_refl _, by simp⟩, rfl⟩
      case body =>
        rintro lr U' j x a' W' hl hx ⟨⟨V, h1, h2, h3⟩, gp, hgp, hUg, rfl⟩ hU'
        have hxj := HXJ.out j x hx
        obtain ⟨fn, tmps, assign, body, hy, hR⟩ := hY V _ x W' hxj h1.j h1.lt
        have HR := Lib.hid hR
        have p0 := hgp.cell_at 0 rfl
        have p1 := hgp.cell_at 1 rfl
        have c0 := h1.box.cell_at 0 rfl
        clear hR hx hxj hgp
        gi_wp2_with fail
        refine RoundIn.mono (RoundIn.wideAny HR.out) ?_
        clear HR hy p0 p1 c0
        rintro e W3 ⟨V', hg', hk', (⟨rfl, hJ3⟩ | ⟨rfl, hJx3⟩)⟩
        · have hrest : ∀ k, V' k → k < h + 2 ∨ With U' W' W3 k := fun k hk => (hg'.new k hk).elim (fun hv => (h2 k hv).imp id .inl) (fun hv => .inr (.inr ⟨hv, hg'.lt k hk⟩))
          have hsW : h + 2 ≤ W'.heap.size := h3.2.2
          have hkept : Kept (fun k => k < wa.heap.size ∨ (k = h + 1 ∨ k = h)) (h + 2) U' W' W3 := ⟨hk'.size, fun k o ho hr => hk'.rest k o ho (by
            rcases hr with (hr | rfl | rfl) | hr
            · exact .inl (.inl hr)
            · exact .inr ⟨by omega, h3.2.1⟩
            · exact .inr ⟨by omega, h3.1⟩
            · exact .inr ⟨by omega, fun hv => (h2 k hv).elim (fun hh => by omega) hr.2⟩)⟩
          gi_wp2_with fail
          rw [HS2.out]
          exact ⟨With U' W' W3, Grew.with hU' hk'.size, hkept, V', ⟨hJ3, hg'.lt, h1.keeps.trans hk'.keeps, hk'.whole h1.box (Nat.le_refl _) h1.boxU, fun hv => (hg'.new B hv).elim h1.boxU (fun hh => by omega), h1.marks.kept hg' hk'⟩, hrest,
            fun hv => (hg'.new _ hv).elim h3.1 (fun hh => by omega), fun hv => (hg'.new _ hv).elim h3.2.1 (fun hh => by omega), Nat.le_trans hsW hk'.size⟩
        · have hrest : ∀ k, V' k → k < h + 2 ∨ With U' W' W3 k := fun k hk => (hg'.new k hk).elim (fun hv => (h2 k hv).imp id .inl) (fun hv => .inr (.inr ⟨hv, hg'.lt k hk⟩))
          have hkept : Kept (fun k => k < wa.heap.size ∨ (k = h + 1 ∨ k = h)) (h + 2) U' W' W3 := ⟨hk'.size, fun k o ho hr => hk'.rest k o ho (by
            rcases hr with (hr | rfl | rfl) | hr
            · exact .inl (.inl hr)
            · exact .inr ⟨by omega, h3.2.1⟩
            · exact .inr ⟨by omega, h3.1⟩
            · exact .inr ⟨by omega, fun hv => (h2 k hv).elim (fun hh => by omega) hr.2⟩)⟩
          gi_wp2_with fail
          rw [HS2.out]
          exact ⟨With U' W' W3, Grew.with hU' hk'.size, hkept, rfl, V', ⟨hJx3, hg'.lt⟩, h1.marks.kept hg' hk', hrest⟩
      case done =>
        rintro D U' W' hD hUD ⟨V, h1, h2, h3⟩ hK
        rw [hsz2] at hD
        rw [← HPS.out] at h1
        have hVD : ¬ V D := fun hv => (h2 D hv).elim (fun hh => by omega) hUD
        have hDs : D ∉ Ds := fun hm => by have := hDh D hm; omega
        have hlD := (Array.getElem?_eq_some_iff.1 hK).1
        have hM : Marks B V (D :: Ds) W' := ⟨List.nodup_cons.2 ⟨hDs, h1.marks.once⟩, fun E hE => by
          rcases List.mem_cons.1 hE with rfl | hE
          · exact ⟨hK, by omega, hVD⟩
          · exact h1.marks.all E hE⟩
        have HM := Lib.hid hM
        have HI1 := Lib.hid h1
        clear hM h1 hK
        gi_wp2_with fail
        refine ⟨⟨s + 1, D :: Ds, V, _, _, _, _, _, _, _, ⟨hlt, by omega, HI1.out.j, HI1.out.lt, HI1.out.keeps, HI1.out.box, HI1.out.boxU, HM.out⟩, rfl⟩, ?_⟩
        simp [intOf]
        omega
      case stop =>
        rintro D c U' W' hD hUD ⟨rfl, V, ⟨h1, h2⟩, h3, h4⟩ hK
        rw [hsz2] at hD
        have hVD : ¬ V D := fun hv => (h4 D hv).elim (fun hh => by omega) hUD
        have hDs : D ∉ Ds := fun hm => by have := hDh D hm; omega
        have hM : Marks B V (D :: Ds) W' := ⟨List.nodup_cons.2 ⟨hDs, h3.once⟩, fun E hE => by
          rcases List.mem_cons.1 hE with rfl | hE
          · exact ⟨hK, by omega, hVD⟩
          · exact h3.all E hE⟩
        have HM := Lib.hid hM
        have H1 := Lib.hid h1
        clear hM h1 hK
        gi_wp2_with fail
        exact leaves_marks (v := .tuple #[]) (B := B) (U := V) (fun w => results_none rfl _ _ _) (D :: Ds) W' HM.out fun W'' hW' => ⟨⟨_, rfl⟩, V, fun k hk => Nat.lt_of_lt_of_le (h2 k hk) hW'.size, .inr (hJx V () _ _ H1.out hW')⟩
    · obtain rfl : s = l.secs.length := by omega
      have hII := Lib.hid hI
      clear hI
      gi_wp2_with fail
      refine leaves_marks (v := .tuple #[]) (B := B) (U := U) (fun w => results_none rfl _ _ _) Ds wr hII.out.marks fun W' hW' => ⟨⟨_, rfl⟩, U, fun k hk => Nat.lt_of_lt_of_le (hII.out.lt k hk) hW'.size, .inl ?_⟩
      rw [← HPE.out]
      exact hJ _ _ _ _ hII.out.j hW'
end Go.Proofs.YtlfpkileblmhoaaGreatDoor
