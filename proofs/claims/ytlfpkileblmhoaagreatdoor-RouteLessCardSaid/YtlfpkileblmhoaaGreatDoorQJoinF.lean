/- Package join: Joined. -/
import Derived.RangeFuncNested
import Derived.RangeFuncBound
import Derived.RangeFuncCalls
import Derived.RangeFuncLeaves
import Derived.RangeFuncBox
import Derived.Shelf.Abstract
import Derived.Shelf.RegionOpen
import Derived.WalkKit
import Derived.OwnWalkIn
import Derived.TacticsInMore
import Derived.LoopNIn
import Derived.LoopIn
import Derived.WalkMore
import Derived.Test.YtlfpkileblmhoaaGreatDoorQJoinE
import Derived.Test.YtlfpkileblmhoaaGreatDoorQJoinC
namespace Go.Proofs.YtlfpkileblmhoaaGreatDoor
open Go.RowKit Go.Shelf
set_option linter.unusedVariables false
set_option linter.unusedSimpArgs false

attribute [local go_sem] Oper.semAt_some
section
variable {P : World → Prop} {w : World}
set_option maxRecDepth 100000 in
set_option maxHeartbeats 4000000 in
theorem indexSecJ_P (hP : Closed P) {l : List (Sec)} {A : Option Addr} (c : Nat) (hR : ∀ w, P w → Row w w.heap.size A (l.flatMap Sec.cells)) (hn : (l.length : Int) ≤ 9223372036854775807) {pr : Sec → Bool} {r : Int}
    (hf : ∀ x ∈ l, ∀ w, P w → Calls Tryz.prog 131 #[x.val] w fun e w' => e = .returned (.bool (pr x)) ∧ P w') (hr : idxV pr l = r) (h : P w) :
    Calls Tryz.prog 138 #[.slice A l.length c, .func (.func 131) #[] #[]] w fun e w' => e = .returned (.int .i64 r) ∧ P w' := by
  have HF := Lib.hid hf
  have HR := Lib.hid hr
  clear hf hr
  go_enter Tryz.func138, Tryz.ntmps138
  go_wp2_with fail
  go_loopw [8] (fun i wr => ∃ j : Nat, j ≤ l.length ∧ i = .int .i64 j ∧ P wr ∧ Hid (NoneUp pr l j))
    (fun i _ => l.length - (intOf i).toNat)
  case atStart => exact ⟨0, by omega, rfl, h, Lib.hid (NoneUp.zero _ _)⟩
  case round =>
    obtain ⟨j, hj, rfl, hp, HNo⟩ := hrel
    by_cases hlt : j < l.length
    · have hlt' : (j : Int) < l.length := by omega
      obtain ⟨x, hx⟩ : ∃ x, l[j]? = some x := ⟨_, List.getElem?_eq_getElem hlt⟩
      have HX := Lib.hid hx
      have HM := Lib.hid (List.mem_of_getElem? hx)
      clear hx
      obtain ⟨b, off, hA, hb, hc0, hc⟩ := (hR _ hp).nth (n := 11) Sec.len (by omega) HX.out
      subst hA
      have c0 := hc0 j x _ HX.out rfl
      have c1 := hc j x 1 _ HX.out rfl
      have c2 := hc j x 2 _ HX.out rfl
      have c3 := hc j x 3 _ HX.out rfl
      have c4 := hc j x 4 _ HX.out rfl
      have c5 := hc j x 5 _ HX.out rfl
      have c6 := hc j x 6 _ HX.out rfl
      have c7 := hc j x 7 _ HX.out rfl
      have c8 := hc j x 8 _ HX.out rfl
      have c9 := hc j x 9 _ HX.out rfl
      have c10 := hc j x 10 _ HX.out rfl
      clear hc0 hc
      go_wp2_with fail
      refine (HF.out x HM.out _ hp).mono ?_
      clear hp c0 c1 c2 c3 c4 c5 c6 c7 c8 c9 c10
      cases hpr : pr x
      · have HN := Lib.hid (HNo.out.succ HX.out hpr)
        clear hpr
        rintro e w1 ⟨rfl, hp⟩
        go_wp2_with fail
        go_roundw
        case rel => exact ⟨j + 1, hlt, by go_num, hp, HN⟩
        case measure => simp [intOf]; omega
      · have HI := Lib.hid (HNo.out.idx HX.out hpr)
        clear hpr
        rintro e w1 ⟨rfl, hp⟩
        go_wp2_with fail
        go_ret
        exact ⟨ret_int (by rw [← HR.out, HI.out]), hp⟩
    · obtain rfl : j = l.length := by omega
      have HI := Lib.hid HNo.out.idx_no
      go_wp2_with fail
      go_ret
      exact ⟨ret_int (by rw [← HR.out, HI.out]), hp⟩

set_option maxHeartbeats 1000000 in
theorem containsSecJ_P (hP : Closed P) {l : List (Sec)} {A : Option Addr} (c : Nat) (hR : ∀ w, P w → Row w w.heap.size A (l.flatMap Sec.cells)) (hn : (l.length : Int) ≤ 9223372036854775807) {pr : Sec → Bool} {r : Bool}
    (hf : ∀ x ∈ l, ∀ w, P w → Calls Tryz.prog 131 #[x.val] w fun e w' => e = .returned (.bool (pr x)) ∧ P w') (hr : l.any pr = r) (h : P w) :
    Calls Tryz.prog 124 #[.slice A l.length c, .func (.func 131) #[] #[]] w fun e w' => e = .returned (.bool r) ∧ P w' := by
  have HC := Lib.hid (indexSecJ_P hP c hR hn  hf rfl h)
  have HR : Hid (decide (0 ≤ idxV pr l) = r) := Lib.hid (by rw [idxV_any, hr])
  clear hf hr
  generalize idxV pr l = i at *
  go_enter Tryz.func124, Tryz.ntmps124
  go_wp2_with fail
  refine HC.out.mono ?_
  rintro e w1 ⟨rfl, hp⟩
  go_wp2_with fail
  go_ret
  exact ⟨ret_bool HR.out, hp⟩

set_option maxHeartbeats 2000000 in
theorem sectionJ_P (hP : Closed P) (hT : ∀ w, P w → Shapes w) (x : Sec) (hx : 0 ≤ x.k ∧ x.k ≤ 255) (h : P w) :
    Calls Tryz.prog 131 #[x.val] w fun e w' => e = .returned (.bool (!(rightK x))) ∧ P w' := by
  have hp := hP _ _ h (below1 w (.cells x.cells.toArray 56))
  have HC := Lib.hid (right_Pr hP hT x.k x.s0 x.q0 x.s1 x.q1 x.s2 x.q2 x.s3 x.q3 x.c0 x.c1 hx.1 hx.2 (r := rightK x) (shapeK x.k) rfl hp)
  clear hP hT h hx hp
  generalize rightK x = r at *
  go_enter Tryz.func131, Tryz.ntmps131
  go_wp2_with fail
  refine HC.out.mono ?_
  rintro e w1 ⟨rfl, hp⟩
  go_wp2_with fail
  go_ret
  exact ⟨rfl, hp⟩

end
/-- Are the sections joined? -/
def joinedL (l : Lay) : Bool := decide ((l.secs.length : Int) ≤ 24) && (!(l.secs.any fun x => !rightK x) && !((portsAll l).any fun x => !joinedP l x.1 x.2))
theorem joined_B {l : Lay} {w : World} (hT : Shapes w) (hL : Lies l w) (s p : Int) {r : Bool} (hr : joinedP l s p = r) : Calls Tryz.prog 133 #[l.val, prtV s p] w fun e w' => e = .returned (.bool r) ∧ Below w.heap.size w w' :=
  joined_P (P := fun W => Below w.heap.size w W) (Closed.below w) (fun W h => Shapes.closed _ _ hT h) (fun W h => Lies.closed l _ _ hL h) s p hr (Below.refl _ _)
theorem allPorts_any (l : Lay) (w : World) : Calls Tryz.prog 132 #[l.val] w fun e w' => e = .returned (.func (.func 143) #[] #[.pointer (some ⟨w.heap.size, 0, none⟩)]) ∧ w' = w.alloc (.cells #[.slice l.As l.secs.length l.cs, .slice l.Ag l.sigs.length l.cg, .slice l.Ae l.exits.length l.ce, .slice l.Af l.flanks.length l.cf, .int .i64 l.t0, .int .i64 l.t1, .int .i64 l.t2, .int .i64 l.t3, .int .i64 l.t4, .int .i64 l.t5, .int .i64 l.t6] 29) := by
  go_enter Tryz.func132, Tryz.ntmps132
  go_wp2_with fail
  go_ret
  exact ⟨rfl, rfl⟩

/-- What a round of Joined knows. -/
structure JoI (l : Lay) (w : World) (j : Nat) (W : World) : Prop where
  below : Below w.heap.size w W
  box0 : Whole W w.heap.size 29 l.cells
  box1 : Whole W (w.heap.size + 1) 4 [.bool false]
  none : NoneUp (fun x : Int × Int => !joinedP l x.1 x.2) (portsAll l) j
theorem JoI.safe (l : Lay) (w : World) {B : Nat} (hB : w.heap.size + 2 ≤ B) : Safe B (fun (_ : Nat → Prop) => JoI l w) := by
  rintro U j W W' ⟨h1, h2, h3, h4⟩ ht
  exact ⟨Safe.below (β := Unit) (B := B) (by omega) (Nat.le_refl _) U () W W' h1 ht, ht.whole h2 (.inl (by omega)), ht.whole h3 (.inl (by omega)), h4⟩

set_option maxRecDepth 100000 in
set_option maxHeartbeats 8000000 in
theorem joinedL_any {l : Lay} {w : World} (hT : Shapes w) (hL : Lies l w) {r : Bool} (hr : joinedL l = r) :
    Calls Tryz.prog 102 #[l.val] w fun e w' => e = .returned (.bool r) ∧ Below w.heap.size w w' := by
  have HTW : Hid (∀ W, Below w.heap.size w W → Shapes W ∧ Lies l W) := Lib.hid fun W hB => ⟨Shapes.closed _ _ hT hB, Lies.closed l _ _ hL hB⟩
  unfold joinedL at hr
  have hn := hL.nS
  refine (callsIn_wide (n := 5)).1 ?_
  refine callsIn_of_wp_marks Tryz.func102 rfl trivial ?_ rfl
  simp only [Tryz.ntmps102, List.size_toArray, List.length_cons, List.length_nil, Nat.reduceAdd, Nat.reduceSub, Array.replicate_succ, Array.replicate_zero, List.push_toArray, List.append_toArray, List.nil_append, List.cons_append]
  obtain ⟨W0, hW0⟩ : ∃ W0, (w.alloc (.cells #[.slice l.As l.secs.length l.cs, .slice l.Ag l.sigs.length l.cg, .slice l.Ae l.exits.length l.ce, .slice l.Af l.flanks.length l.cf, .int .i64 l.t0, .int .i64 l.t1, .int .i64 l.t2, .int .i64 l.t3, .int .i64 l.t4, .int .i64 l.t5, .int .i64 l.t6] 29)).alloc (.cells #[.bool false] 4) = W0 := ⟨_, rfl⟩
  have hsz : W0.heap.size = w.heap.size + 2 := by rw [← hW0]; simp
  have hB0 : Below w.heap.size w W0 := by rw [← hW0]; exact below2 _ _ _
  have b0 : Whole W0 w.heap.size 29 l.cells := by rw [← hW0]; exact (Whole.new w _ l.cells).alloc _
  have b1 : Whole W0 (w.heap.size + 1) 4 [.bool false] := by rw [← hW0]; exact Whole.new_at _ _ [_] _ (by simp)
  have HW0 := Lib.hid hW0
  clear hW0
  have x0 := b0.cell_at 0 rfl
  have f1 := b1.frozen 0
  have y1 := b1.cell_at 0 rfl
  by_cases h24 : 24 < (l.secs.length : Int)
  · have HR : Hid (false = r) := Lib.hid (by rw [← hr, decide_eq_false (by omega)]; rfl)
    clear hr
    gi_wp2_with fail
    refine ⟨trivial, ?_⟩
    rw [HW0.out]
    gi_wp2_with fail
    have e1 := (b1.set 0 (.bool false)).cell_at 0 rfl
    exact ⟨.bool false, by simp [results, Tryz.f102, go_sem, e1], ret_bool HR.out, hB0.setCell (p := ⟨w.heap.size + 1, 0, none⟩) (by show w.heap.size ≤ w.heap.size + 1; omega) _⟩
  · have hle : (l.secs.length : Int) ≤ 24 := by omega
    rw [decide_eq_true hle, Bool.true_and] at hr
    obtain ⟨sb, hsb⟩ : ∃ sb, (l.secs.any fun x => !rightK x) = sb := ⟨_, rfl⟩
    rw [hsb] at hr
    have hcl : Closed fun W => (Below w.heap.size w W ∧ Whole W w.heap.size 29 l.cells) ∧ Whole W (w.heap.size + 1) 4 [.bool false] := ((Closed.below w).and (Closed.whole _ _ _)).and (Closed.whole _ _ _)
    have KC := Lib.hid (containsSecJ_P (w := W0) (A := l.As) (l := l.secs) hcl l.cs (fun W hB => (HTW.out W hB.1.1).2.secs) hn (fun x hx W hB => sectionJ_P hcl (fun W hB => (HTW.out W hB.1.1).1) x (hL.kinds x hx) hB) hsb ⟨⟨hB0, b0⟩, b1⟩)
    have HHR := Lib.hid hr
    clear hr hsb hle hcl
    gi_wp2_with fail
    rw [HW0.out]
    refine ⟨trivial, (callsIn_wide.2 KC.out).mono ?_⟩
    clear KC x0 f1 y1 b0 b1 hsz hB0 HW0
    rintro e w1 ⟨rfl, ⟨hB1, b0⟩, b1⟩
    have x0 := b0.cell_at 0 rfl
    have f1 := b1.frozen 0
    have y1 := b1.cell_at 0 rfl
    cases sb
    · rw [Bool.not_false, Bool.true_and] at HHR
      have m0 := b0
      have x0 := m0.cell_at 0 rfl
      have x1 := m0.cell_at 1 rfl
      have x2 := m0.cell_at 2 rfl
      have x3 := m0.cell_at 3 rfl
      have x4 := m0.cell_at 4 rfl
      have x5 := m0.cell_at 5 rfl
      have x6 := m0.cell_at 6 rfl
      have x7 := m0.cell_at 7 rfl
      have x8 := m0.cell_at 8 rfl
      have x9 := m0.cell_at 9 rfl
      have x10 := m0.cell_at 10 rfl
      clear m0
      gi_wp2_with fail
      refine ⟨trivial, (callsIn_wide.2 (allPorts_any l _)).mono ?_⟩
      rintro e w2 ⟨rfl, rfl⟩
      gi_wp2_with fail
      clear x0 x1 x2 x3 x4 x5 x6 x7 x8 x9 x10 f1 y1
      obtain ⟨h, hh⟩ : ∃ h, w1.heap.size = h := ⟨_, rfl⟩
      have hlt1 := b1.lt
      obtain ⟨W2, hW2, hsz2, hB2, c0, c1, c2⟩ : ∃ W2, w1.alloc (.cells #[.slice l.As l.secs.length l.cs, .slice l.Ag l.sigs.length l.cg, .slice l.Ae l.exits.length l.ce, .slice l.Af l.flanks.length l.cf, .int .i64 l.t0, .int .i64 l.t1, .int .i64 l.t2, .int .i64 l.t3, .int .i64 l.t4, .int .i64 l.t5, .int .i64 l.t6] 29) = W2 ∧ W2.heap.size = h + 1 ∧ Below w.heap.size w W2 ∧ Whole W2 w.heap.size 29 l.cells ∧ Whole W2 (w.heap.size + 1) 4 [.bool false] ∧ Whole W2 h 29 l.cells :=
        ⟨_, rfl, by simp; omega, hB1.alloc hB1.size _, b0.alloc _, b1.alloc _, Whole.new_at _ _ l.cells _ hh.symm⟩
      rw [hW2, hh]
      have hh2 : w.heap.size + 2 ≤ h := by omega
      have hit := allPorts_iter (w0 := W2) hT hL (fun k o hk ho => (hB2.block k hk).trans ho) hB2.size c2
      have hnone := NoneUp.zero (fun x : Int × Int => !joinedP l x.1 x.2) (portsAll l)
      have HSUC := Lib.hid (fun (j : Nat) (x : Int × Int) (h : NoneUp (fun x : Int × Int => !joinedP l x.1 x.2) (portsAll l) j) (hx : (portsAll l)[j]? = some x) (hp : joinedP l x.1 x.2 = true) => h.succ hx (by rw [hp]; rfl))
      have HSAF := Lib.hid (fun B hB => JoI.safe l w (B := B) hB)
      have HEND := Lib.hid (fun (x : JoI l w (portsAll l).length W2) => x.none.any)
      clear hW2 b0 b1 hB1 c2 hlt1 hh HEND
      refine range_iterU (gf := 143) rfl (enters_of Tryz.func143 (by kernel_rfl) rfl) hit (Keeps.refl _ _) (fun k hk => by rcases hk with hk | hk <;> omega) (fun _ => rfl) (by omega)
        (fun _ => JoI l w)
        (fun c _ W => c = .ret ∧ (Below w.heap.size w W ∧ Whole W (w.heap.size + 1) 4 [.bool false] ∧ (portsAll l).any (fun x => !joinedP l x.1 x.2) = true))
        (HSAF.out _ (by omega))
        (fun c => by
          rintro U u W W' ⟨h1, h2, h3, h4⟩ ht
          exact ⟨h1, Safe.below (β := Unit) (B := W2.heap.size) (by omega) (Nat.le_refl _) U () W W' h2 ht, ht.whole h3 (.inl (by omega)), h4⟩)
        ⟨hB2, c0, c1, hnone⟩
        (fun U j x a' W => JoI l w j W ∧ ∃ gp, Whole W gp 46 (prtCells x) ∧ U gp ∧
          a' = { tmps := #[l.val, .pointer (some ⟨w.heap.size, 0, none⟩), .pointer (some ⟨w.heap.size + 1, 0, none⟩), .func (.func 131) #[] #[], .pointer (some ⟨gp, 0, none⟩), .pointer (some ⟨w.heap.size, 0, none⟩), .slice l.As l.secs.length l.cs, .int .i64 l.secs.length, .bool false, .bool false, .pointer (some ⟨w.heap.size, 0, none⟩), .slice l.As l.secs.length l.cs, .func (.func 131) #[] #[], .bool false, .bool false, .agg #[.slice l.As l.secs.length l.cs, .slice l.Ag l.sigs.length l.cg, .slice l.Ae l.exits.length l.ce, .slice l.Af l.flanks.length l.cf, .int .i64 l.t0, .int .i64 l.t1, .int .i64 l.t2, .int .i64 l.t3, .int .i64 l.t4, .int .i64 l.t5, .int .i64 l.t6], .func (.func 143) #[] #[.pointer (some ⟨h, 0, none⟩)], prtV x.1 x.2, undef, undef, undef, undef], defers := [] })
        (fun j x a' => by
          rintro U u W W' ⟨h1, gp, h4, h5, h6⟩ ht
          exact ⟨HSAF.out _ (by omega) U _ _ _ h1 ht, gp, ht.whole h4 (.inr h5), h5, h6⟩)
        ?assign ?body ?done ?stop
      case assign =>
        rintro lr U j x W K hx hI hsW hU hK
        have hb := below1 W (.cells (prtCells x).toArray 46)
        have hI' := HSAF.out W2.heap.size (by omega) U _ _ _ hI (Stays.below hb)
        gi_wp2_with fail
        exact hK _ _ (With U W (W.alloc (.cells (prtCells x).toArray 46))) (Grew.with hU hb.size) (Kept.below hb) ⟨hI', W.heap.size, Whole.new W _ (prtCells x), .inr ⟨Nat.le_refl _, by simp⟩, rfl⟩
      case body =>
        rintro lr U j x a' W hl hx ⟨hI, gp, hgp, hUg, rfl⟩ hU
        obtain ⟨hTw, hLw⟩ := HTW.out _ hI.below
        obtain ⟨b, hb⟩ : ∃ b, joinedP l x.1 x.2 = b := ⟨_, rfl⟩
        have KJ := Lib.hid (joined_B hTw hLw x.1 x.2 hb)
        have p0 := hgp.cell_at 0 rfl
        have p1 := hgp.cell_at 1 rfl
        have m0 := hI.box0
        have x0 := m0.cell_at 0 rfl
        have x1 := m0.cell_at 1 rfl
        have x2 := m0.cell_at 2 rfl
        have x3 := m0.cell_at 3 rfl
        have x4 := m0.cell_at 4 rfl
        have x5 := m0.cell_at 5 rfl
        have x6 := m0.cell_at 6 rfl
        have x7 := m0.cell_at 7 rfl
        have x8 := m0.cell_at 8 rfl
        have x9 := m0.cell_at 9 rfl
        have x10 := m0.cell_at 10 rfl
        clear m0
        clear hTw hLw hgp
        have HX := Lib.hid hx
        have HBX := Lib.hid hb
        clear hx hb
        gi_wp2_with fail
        refine ⟨trivial, (CallsIn.inRound _ (callsIn_wide.2 KJ.out)).mono ?_⟩
        clear KJ p0 p1 x0 x1 x2 x3 x4 x5 x6 x7 x8 x9 x10
        rintro e w3 ⟨rfl, hB3⟩
        have hI3 := HSAF.out W2.heap.size (by omega) U _ _ _ hI (Stays.below hB3)
        cases b
        · have HAN := Lib.hid (any_hit (pr := fun x : Int × Int => !joinedP l x.1 x.2) HX.out (by show (!joinedP l x.1 x.2) = true; rw [HBX.out]; rfl))
          have b1 := hI3.box1
          have f1 := b1.frozen 0
          have y1 := b1.cell_at 0 rfl
          gi_wp2_with fail
          exact ⟨U, Grew.refl hU (by simp [World.setCell]; exact hB3.size), (Kept.below hB3).trans (Grew.refl hU hB3.size) (Kept.set (p := ⟨w.heap.size + 1, 0, none⟩) _ _ (fun hr => by rcases hr with hr | hr <;> simp at hr <;> omega) (.inl (by show w.heap.size + 1 < W2.heap.size; omega))), rfl,
            hI3.below.setCell (p := ⟨w.heap.size + 1, 0, none⟩) (by show w.heap.size ≤ w.heap.size + 1; omega) _, b1.set 0 (.bool false), HAN.out⟩
        · have HN := Lib.hid (HSUC.out j x hI3.none HX.out HBX.out)
          gi_wp2_with fail
          exact ⟨U, Grew.refl hU hB3.size, Kept.below hB3, hI3.below, hI3.box0, hI3.box1, HN.out⟩
      case done =>
        rintro D U W hD hUD hI hK
        have HA := Lib.hid hI.none.any
        have b1 := hI.box1
        have f1 := b1.frozen 0
        have y1 := b1.cell_at 0 rfl
        have HB := Lib.hid hI.below
        clear hI
        gi_wp2_with fail
        have hK2 := (Below.heap_setCell W ⟨w.heap.size + 1, 0, none⟩ (.bool true) D (by show D ≠ w.heap.size + 1; omega)).trans hK
        have e1 := ((b1.set 0 (.bool true)).putDone (o' := .deferred none) hK2).cell_at 0 rfl
        have hB2 := HB.out.setCell (p := ⟨w.heap.size + 1, 0, none⟩) (by show w.heap.size ≤ w.heap.size + 1; omega) (.bool true)
        refine ⟨by simp, .inl ⟨_, _, rfl, run_takeDeferred hK2, ?_⟩⟩
        refine ⟨.bool true, by simp [results, Tryz.f102, go_sem, e1], ret_bool (by rw [← HHR.out, HA.out]; rfl), hB2.trans (belowK_b (w := w) (Nat.le_refl _) _ D _ _ (by omega) hK2 rfl rfl)⟩
      case stop =>
        rintro D c U W hD hUD ⟨rfl, hB, b1, hA⟩ hK
        have HA := Lib.hid hA
        clear hA
        have e1 := (b1.putDone (o' := .deferred none) hK).cell_at 0 rfl
        gi_wp2_with fail
        refine ⟨by simp, .inl ⟨_, _, rfl, run_takeDeferred hK, ?_⟩⟩
        refine ⟨.bool false, by simp [results, Tryz.f102, go_sem, e1], ret_bool (by rw [← HHR.out, HA.out]; rfl), hB.trans (belowK_b (w := w) (Nat.le_refl _) _ D _ _ (by omega) hK rfl rfl)⟩
    · have HR : Hid (false = r) := Lib.hid (by rw [← HHR.out]; rfl)
      clear HHR
      gi_wp2_with fail
      have e1 := (b1.set 0 (.bool false)).cell_at 0 rfl
      exact ⟨.bool false, by simp [results, Tryz.f102, go_sem, e1], ret_bool HR.out, hB1.setCell (p := ⟨w.heap.size + 1, 0, none⟩) (by show w.heap.size ≤ w.heap.size + 1; omega) _⟩
end Go.Proofs.YtlfpkileblmhoaaGreatDoor
