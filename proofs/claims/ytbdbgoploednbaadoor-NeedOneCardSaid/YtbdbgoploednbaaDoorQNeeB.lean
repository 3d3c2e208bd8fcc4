/- Package need: a path's steps by their numbers, then its overlap's, one by one. -/
import Derived.RangeFuncNested
import Derived.RangeFuncBound
import Derived.RangeFuncCalls
import Derived.RangeFuncLeaves
import Derived.RangeFuncBox
import Derived.Shelf.Abstract
import Derived.Shelf.RegionOpen
import Derived.WalkKit
import Derived.OwnWalkIn
import Derived.TacticsInMore
import Derived.LoopNIn
import Derived.LoopIn
import Derived.WalkMore
import Derived.Test.YtbdbgoploednbaaDoorQNeeA
import Derived.Test.YtbdbgoploednbaaDoorQBeW
import Derived.Test.YtbdbgoploednbaaDoorQBeG
import Derived.Test.YtbdbgoploednbaaDoorQM
namespace Go.Proofs.YtbdbgoploednbaaDoor
open Go.RowKit Go.Shelf
set_option linter.unusedVariables false
set_option linter.unusedSimpArgs false

attribute [local go_sem] Oper.semAt_some

/-- A path's steps by their numbers, then those of its exit's overlap by how many steps it has. -/
def numF : List (Int × Int × Int) → Int → List (Int × Int × Int × Int)
  | [], _ => []
  | s :: r, k => (k, s) :: numF r (k + 1)
theorem numF_len : ∀ (ss : List (Int × Int × Int)) (k : Int), (numF ss k).length = ss.length
  | [], _ => rfl
  | s :: r, k => by show (numF r (k + 1)).length + 1 = r.length + 1; rw [numF_len r (k + 1)]
theorem numF_at : ∀ (ss : List (Int × Int × Int)) (k : Int) (j : Nat), (numF ss k)[j]? = (ss[j]?).map fun s => (k + j, s)
  | [], _, _ => rfl
  | s :: r, k, 0 => by simp [numF]
  | s :: r, k, j + 1 => by
    show (numF r (k + 1))[j]? = (r[j]?).map _
    rw [numF_at r (k + 1) j, show k + 1 + (j : Int) = k + ((j + 1 : Nat) : Int) by omega]
def stepsN (l : Lay) (p : Pth) : List (Int × Int × Int × Int) := numF p.ss 0 ++ (overL10 l p.x).map fun s => ((p.ss.length : Int), s)
theorem stepsN_len (l : Lay) (p : Pth) : (stepsN l p).length = p.ss.length + (overL10 l p.x).length := by unfold stepsN; rw [List.length_append, numF_len, List.length_map]
theorem stepsN_at1 {l : Lay} {p : Pth} {j : Nat} {s : Int × Int × Int} (h : p.ss[j]? = some s) : (stepsN l p)[j]? = some ((j : Int), s) := by
  have hj := (List.getElem?_eq_some_iff.1 h).1
  unfold stepsN
  rw [List.getElem?_append_left (by rw [numF_len]; exact hj), numF_at, h]
  simp
theorem stepsN_at2 {l : Lay} {p : Pth} {j : Nat} {s : Int × Int × Int} (h : (overL10 l p.x)[j]? = some s) : (stepsN l p)[p.ss.length + j]? = some ((p.ss.length : Int), s) := by
  unfold stepsN
  rw [List.getElem?_append_right (by rw [numF_len]; omega), numF_len, Nat.add_sub_cancel_left, List.getElem?_map, h]
  rfl
theorem over_le13 {l : Lay} (hO : ∀ x ∈ l.exits, x.over.length ≤ 1000) (x : Int) : (overL10 l x).length ≤ 1000 := by
  unfold overL10
  split
  · cases h : l.exits[x.toNat]? with
    | none => simp
    | some e => simpa using hO e (List.mem_of_getElem? h)
  · simp
theorem PLies.keeps {p : Pth} {w W : World} {R : Nat → Prop} (h : PLies p w) (hk : Keeps R w W) (hR : ∀ k, k < w.heap.size → R k) (hs : w.heap.size ≤ W.heap.size) : PLies p W := ⟨(h.row.keeps hk hR).mono hs, h.len⟩
theorem owns_kept13 {R : Nat → Prop} {B : Nat} {U : Nat → Prop} {W W' : World} (h : Kept R B U W W') {base e k n : Nat} {v : Value} {xs : List Value} (hown : W.ownsRow base e k v n xs) (hU : ∀ b, v.ownBlock = some b → B ≤ b ∧ ¬ U b) : W'.ownsRow base e k v n xs := by
  refine ⟨hown.1, ?_⟩
  rcases hown.2 with h2 | ⟨g, cap, cur, rfl, h3, h4, r⟩
  · exact .inl h2
  · exact .inr ⟨g, cap, cur, rfl, h3, h.rest g _ h4 (.inr (hU g rfl)), r⟩
theorem steps13_any (l : Lay) (p : Pth) (w : World) : Calls Tryd.prog 45 #[l.val, p.val] w fun e w' => e = .returned (.func (.func 67) #[] #[.pointer (some ⟨w.heap.size + 1, 0, none⟩), .pointer (some ⟨w.heap.size, 0, none⟩)]) ∧
    w' = (w.alloc (.cells #[.slice l.As l.secs.length l.cs, .slice l.Ag l.sigs.length l.cg, .slice l.Ae l.exits.length l.ce, .slice l.Af l.flanks.length l.cf, .int .i64 l.t0, .int .i64 l.t1, .int .i64 l.t2, .int .i64 l.t3, .int .i64 l.t4, .int .i64 l.t5, .int .i64 l.t6] 29)).alloc (.cells #[.int .i64 p.s, .int .i64 p.x, .slice p.A p.ss.length p.c] 32) := by
  go_enter Tryd.func45, Tryd.ntmps45
  go_wp2_with fail
  go_ret
  exact ⟨rfl, rfl⟩

set_option maxRecDepth 100000 in
set_option maxHeartbeats 32000000 in
theorem steps13_iter {wa w0 : World} {g1 g2 : Nat} {l : Lay} {p : Pth} (hT : Shapes wa) (hL : Lies l wa) (hp : PLies p wa) (hO : ∀ x ∈ l.exits, x.over.length ≤ 1000) (hka : Keeps (· < wa.heap.size) wa w0) (hsa : wa.heap.size ≤ w0.heap.size) (hb1 : Whole w0 g1 32 p.cells) (hb2 : Whole w0 g2 29 l.cells) :
    IterU Tryd.prog 67 #[.pointer (some ⟨g1, 0, none⟩), .pointer (some ⟨g2, 0, none⟩)] (fun x : Int × Int × Int × Int => #[.int .i64 x.1, stpV x.2.1 x.2.2.1 x.2.2.2]) (stepsN l p) (fun k => k < wa.heap.size ∨ (k = g1 ∨ k = g2)) w0 := by
  intro L J Jx W hk0 hRl hJ hJx hY h0
  have hnW : wa.heap.size ≤ W.heap.size := Nat.le_of_not_lt fun hlt => absurd (hRl _ (.inl hlt)) (Nat.lt_irrefl _)
  have HF : Hid (∀ W', Keeps (fun k => k < wa.heap.size ∨ (k = g1 ∨ k = g2)) w0 W' → W.heap.size ≤ W'.heap.size → (Shapes W' ∧ Lies l W') ∧ PLies p W') := Lib.hid fun W' hk hs =>
    have hk' := hka.trans (hk.sub fun k h => .inl h)
    ⟨⟨hT.keeps hk' (fun _ h => h), hL.keeps hk' (fun _ h => h) (Nat.le_trans hnW hs)⟩, hp.keeps hk' (fun _ h => h) (Nat.le_trans hnW hs)⟩
  have HB1 : Hid (∀ W', Keeps (fun k => k < wa.heap.size ∨ (k = g1 ∨ k = g2)) w0 W' → Whole W' g1 32 p.cells) := Lib.hid fun W' hk => hk.whole (.inr (.inl rfl)) hb1
  have HB2 : Hid (∀ W', Keeps (fun k => k < wa.heap.size ∨ (k = g1 ∨ k = g2)) w0 W' → Whole W' g2 29 l.cells) := Lib.hid fun W' hk => hk.whole (.inr (.inr rfl)) hb2
  have hnP := hp.len
  obtain ⟨os, hos⟩ : ∃ os, overL10 l p.x = os := ⟨_, rfl⟩
  have HX1 : Hid (∀ (j : Nat) s, p.ss[j]? = some s → (stepsN l p)[j]? = some ((j : Int), s)) := Lib.hid fun j s h => stepsN_at1 h
  have HX2 : Hid (∀ (j : Nat) s, os[j]? = some s → (stepsN l p)[p.ss.length + j]? = some ((p.ss.length : Int), s)) := Lib.hid fun j s h => stepsN_at2 (by rw [hos]; exact h)
  have HXL : Hid ((stepsN l p).length = p.ss.length + os.length) := Lib.hid (by rw [stepsN_len, hos])
  have hol : os.length ≤ 1000 := by rw [← hos]; exact over_le13 hO _
  obtain ⟨xs, hxs⟩ : ∃ xs, stepsN l p = xs := ⟨_, rfl⟩
  rw [hxs] at hY HX1 HX2 HXL ⊢
  obtain ⟨B, hB⟩ : ∃ B, W.heap.size = B := ⟨_, rfl⟩
  have hs0 : B ≤ W.heap.size := by omega
  rw [hB] at HF hJ hJx hY
  have KO : Hid (∀ W', Shapes W' → Lies l W' → Calls Tryd.prog 68 #[l.val, .int .i64 p.x] W' fun e w' => ∃ v, e = .returned v ∧ w'.ownsRow W'.heap.size 56 3 v os.length (os.flatMap stpCells) ∧ Below W'.heap.size W' w') := Lib.hid fun W' h1 h2 => overB10_any h1 h2 hO p.x hos
  have s2 := (HB1.out _ hk0).cell_at 2 rfl
  clear hT hL hp hO hka hb1 hb2 hRl hxs hnW hB hos
  refine (callsIn_wide (n := 3)).1 ?_
  refine callsIn_of_wp Tryd.func67 rfl trivial ?_ rfl
  simp only [Tryd.ntmps67, List.size_toArray, List.length_cons, List.length_nil, Nat.reduceAdd, Nat.reduceSub, Array.replicate_succ, Array.replicate_zero, List.push_toArray, List.append_toArray, List.nil_append, List.cons_append]
  gi_wp2_with fail
  clear s2
  gi_loopw [11] (fun i wr => ∃ (j : Nat) (U : Nat → Prop), j ≤ p.ss.length ∧ i = .int .i64 j ∧ J U j wr ∧ (∀ k, U k → k < wr.heap.size) ∧ Keeps (fun k => k < wa.heap.size ∨ (k = g1 ∨ k = g2)) w0 wr ∧ B ≤ wr.heap.size)
    (fun i _ => p.ss.length - (intOf i).toNat)
  case atStart => exact ⟨0, fun _ => False, by omega, rfl, h0, fun k h => h.elim, hk0, hs0⟩
  case round =>
    clear h0 hk0 hs0
    obtain ⟨j, U, hj, rfl, hJj, hUl, hk, hs⟩ := hrel
    by_cases hlt : j < p.ss.length
    · have hlt' : (j : Int) < p.ss.length := by omega
      obtain ⟨⟨f1, f2, f3⟩, hx⟩ : ∃ x, p.ss[j]? = some x := ⟨_, List.getElem?_eq_getElem hlt⟩
      obtain ⟨b, off, hA, _, hc0, hc⟩ := (HF.out _ hk hs).2.row.nth (n := 3) (fun _ => rfl) (by omega) hx
      have HX := Lib.hid hx
      have c0 := hc0 j _ _ hx rfl
      have c1 := hc j _ 1 _ hx rfl
      have c2 := hc j _ 2 _ hx rfl
      clear hx hc0 hc
      have hb4 := below1 wr (.cells #[.int .i64 f1, .int .i64 f2, .int .i64 f3] 56)
      have hJ2 := hJ _ _ _ _ hJj (Stays.below hb4)
      have hk2 := hk.trans (Keeps.below hb4)
      have hs2 := Nat.le_trans hs hb4.size
      have hU2 : ∀ k, U k → k < (wr.alloc (.cells #[.int .i64 f1, .int .i64 f2, .int .i64 f3] 56)).heap.size := fun k h => Nat.lt_of_lt_of_le (hUl k h) hb4.size
      rw [hA]
      have HA := Lib.hid hA
      obtain ⟨fn, tmps, assign, body, hy, hR⟩ := hY U j _ _ (HX1.out j _ HX.out) hJ2 hU2
      have HR := Lib.hid hR
      have HK2 := Lib.hid hk2
      clear hR hJ2 hk2 hJj hk hs hUl hb4 hA
      gi_wp2_with fail
      refine RoundIn.mono (RoundIn.wide HR.out) ?_
      clear HR hy c0 c1 c2
      rintro e W3 ⟨U', hg', hk', (⟨rfl, hJ3⟩ | ⟨rfl, hJx3⟩)⟩
      · have hk3 := HK2.out.trans hk'.keeps
        have hs3 := Nat.le_trans hs2 hk'.size
        have hU3 := hg'.lt
        clear hg' hk' HK2
        gi_wp2_with fail
        go_roundw
        case rel => exact ⟨j + 1, U', hlt, by go_num, hJ3, hU3, hk3, hs3⟩
        case measure => simp [intOf]; omega
      · have hU3 := hg'.lt
        gi_wp2
        refine bodyPost_ret (results_none rfl _ _ _) rfl ?_
        exact ⟨⟨_, rfl⟩, U', hU3, .inr hJx3⟩
    · obtain rfl : j = p.ss.length := by omega
      have m0 := HB2.out _ hk
      have x0 := m0.cell_at 0 rfl
      have x1 := m0.cell_at 1 rfl
      have x2 := m0.cell_at 2 rfl
      have x3 := m0.cell_at 3 rfl
      have x4 := m0.cell_at 4 rfl
      have x5 := m0.cell_at 5 rfl
      have x6 := m0.cell_at 6 rfl
      have x7 := m0.cell_at 7 rfl
      have x8 := m0.cell_at 8 rfl
      have x9 := m0.cell_at 9 rfl
      have x10 := m0.cell_at 10 rfl
      clear m0
      have s1 := (HB1.out _ hk).cell_at 1 rfl
      have hf := HF.out _ hk hs
      have KO1 := Lib.hid (KO.out _ hf.1.1 hf.1.2)
      clear hf KO hj hlt
      gi_wp2_with fail
      refine ⟨trivial, (callsIn_wide.2 KO1.out).mono ?_⟩
      clear KO1 s1 x0 x1 x2 x3 x4 x5 x6 x7 x8 x9 x10
      rintro e w2 ⟨v, rfl, hown, hB2⟩
      have hJ1 := hJ _ _ _ _ hJj (Stays.below hB2)
      have hk1 := hk.trans (Keeps.below hB2)
      have hs1 := Nat.le_trans hs hB2.size
      have hU1 : ∀ k, U k → k < w2.heap.size := fun k h => Nat.lt_of_lt_of_le (hUl k h) hB2.size
      have hown' : ∀ b, v.ownBlock = some b → B ≤ b ∧ ¬ U b := fun b hb => ⟨Nat.le_trans hs (hown.lt b hb).1, fun hu => by have := hUl b hu; have := (hown.lt b hb).1; omega⟩
      obtain ⟨A, c, rfl, _, _⟩ := ownsS_slice hown
      have HOW := Lib.hid (And.intro hown hown')
      clear hJj hk hs hUl hB2 hown hown'
      gi_wp2_with fail
      gi_loopw [27] (fun i wr => ∃ (j : Nat) (U : Nat → Prop), j ≤ os.length ∧ i = .int .i64 j ∧ J U (p.ss.length + j) wr ∧ (∀ k, U k → k < wr.heap.size) ∧ Keeps (fun k => k < wa.heap.size ∨ (k = g1 ∨ k = g2)) w0 wr ∧ B ≤ wr.heap.size ∧ Hid (∃ base, wr.ownsRow base 56 3 (.slice A os.length c) os.length (os.flatMap stpCells) ∧ ∀ b, (Value.slice A os.length c).ownBlock = some b → B ≤ b ∧ ¬ U b))
        (fun i _ => os.length - (intOf i).toNat)
      case atStart => exact ⟨0, U, by omega, rfl, hJ1, hU1, hk1, hs1, Lib.hid ⟨_, HOW.out⟩⟩
      case round =>
        clear hJ1 hU1 hk1 hs1 HOW
        obtain ⟨j, U, hj, rfl, hJj, hUl, hk, hs, HOW⟩ := hrel
        by_cases hlt : j < os.length
        · have hlt' : (j : Int) < os.length := by omega
          obtain ⟨⟨f1, f2, f3⟩, hx⟩ : ∃ x, os[j]? = some x := ⟨_, List.getElem?_eq_getElem hlt⟩
          have HX := Lib.hid hx
          have hrow : Row wr wr.heap.size A (os.flatMap stpCells) := by
            obtain ⟨base, ho, _⟩ := HOW.out
            obtain ⟨A', c', e, hr, _⟩ := ownsS_slice ho
            cases e
            exact hr
          obtain ⟨b, off, hA, _, hc0, hc⟩ := hrow.nth (n := 3) (fun _ => rfl) (by omega) hx
          have c0 := hc0 j _ _ hx rfl
          have c1 := hc j _ 1 _ hx rfl
          have c2 := hc j _ 2 _ hx rfl
          clear hx hc0 hc hrow
          have hb4 := below1 wr (.cells #[.int .i64 f1, .int .i64 f2, .int .i64 f3] 56)
          have hJ2 := hJ _ _ _ _ hJj (Stays.below hb4)
          have hk2 := hk.trans (Keeps.below hb4)
          have hs2 := Nat.le_trans hs hb4.size
          have hU2 : ∀ k, U k → k < (wr.alloc (.cells #[.int .i64 f1, .int .i64 f2, .int .i64 f3] 56)).heap.size := fun k h => Nat.lt_of_lt_of_le (hUl k h) hb4.size
          have HOW2 : Hid (∃ base, (wr.alloc (.cells #[.int .i64 f1, .int .i64 f2, .int .i64 f3] 56)).ownsRow base 56 3 (.slice A os.length c) os.length (os.flatMap stpCells) ∧ ∀ b, (Value.slice A os.length c).ownBlock = some b → B ≤ b ∧ ¬ U b) := Lib.hid (by
            obtain ⟨base, ho, hu⟩ := HOW.out
            exact ⟨base, owns_keep ho hb4, hu⟩)
          have s2 := (HB1.out _ hk2).cell_at 2 rfl
          rw [hA]
          have HA := Lib.hid hA
          obtain ⟨fn, tmps, assign, body, hy, hR⟩ := hY U (p.ss.length + j) _ _ (HX2.out j _ HX.out) hJ2 hU2
          have HR := Lib.hid hR
          have HK2 := Lib.hid hk2
          have HU2 := Lib.hid hU2
          clear hR hJ2 hk2 hJj hk hs hUl hb4 hA HOW hU2
          gi_wp2_with fail
          refine RoundIn.mono (RoundIn.wide HR.out) ?_
          clear HR hy c0 c1 c2 s2
          rintro e W3 ⟨U', hg', hk', (⟨rfl, hJ3⟩ | ⟨rfl, hJx3⟩)⟩
          · have hk3 := HK2.out.trans hk'.keeps
            have hs3 := Nat.le_trans hs2 hk'.size
            have hU3 := hg'.lt
            have HOW3 : Hid (∃ base, W3.ownsRow base 56 3 (.slice A os.length c) os.length (os.flatMap stpCells) ∧ ∀ b, (Value.slice A os.length c).ownBlock = some b → B ≤ b ∧ ¬ U' b) := Lib.hid (by
              obtain ⟨base, ho, hu⟩ := HOW2.out
              exact ⟨base, owns_kept13 hk' ho hu, fun b hb => ⟨(hu b hb).1, fun h => (hg'.new b h).elim (hu b hb).2 fun hh => by have := (ho.lt b hb).2; omega⟩⟩)
            clear hg' hk' HK2 HOW2
            gi_wp2_with fail
            go_roundw
            case rel => exact ⟨j + 1, U', hlt, by go_num, hJ3, hU3, hk3, hs3, by rw [← HA.out]; exact HOW3⟩
            case measure => simp [intOf]; omega
          · have hU3 := hg'.lt
            gi_wp2
            refine bodyPost_ret (results_none rfl _ _ _) rfl ?_
            exact ⟨⟨_, rfl⟩, U', hU3, .inr hJx3⟩
        · obtain rfl : j = os.length := by omega
          gi_wp2_with fail
          go_end0
          exact ⟨⟨_, rfl⟩, U, hUl, .inl (by rw [HXL.out]; exact hJj)⟩
end Go.Proofs.YtbdbgoploednbaaDoor
