/- Package image: sections: the numbers from 0 on, one by one. Package image: rows behind a tick (counted). -/
import Derived.RangeFuncNested
import Derived.RangeFuncBound
import Derived.RangeFuncCalls
import Derived.RangeFuncLeaves
import Derived.RangeFuncBox
import Derived.Shelf.Abstract
import Derived.Shelf.RegionOpen
import Derived.WalkKit
import Derived.OwnWalkIn
import Derived.TacticsInMore
import Derived.LoopNIn
import Derived.LoopIn
import Derived.WalkMore
import Derived.Test.YtniihmafbeplaaaDoorQImF
import Derived.Deep.CutRange
import Derived.Test.YtniihmafbeplaaaDoorQL
namespace Go.Proofs.YtniihmafbeplaaaDoor
open Go.RowKit Go.Shelf
set_option linter.unusedVariables false
set_option linter.unusedSimpArgs false

attribute [local go_sem] Oper.semAt_some

theorem sect_any (n : Int) (w : World) : Calls Tryd.prog 31 #[.int .i64 n] w fun e w' => e = .returned (.func (.func 44) #[] #[.pointer (some ⟨w.heap.size, 0, none⟩)]) ∧ w' = w.alloc (.cells #[.int .i64 n] 3) := by
  go_enter Tryd.func31, Tryd.ntmps31
  go_wp2_with fail
  go_ret
  exact ⟨rfl, rfl⟩
theorem range_nth {n j : Nat} (h : j < n) : (List.range n)[j]? = some j := List.getElem?_range h
set_option maxRecDepth 100000 in
set_option maxHeartbeats 8000000 in
theorem sect_iter {w0 : World} {g n0 n : Nat} (hbox : Whole w0 g 3 [.int .i64 n]) (hn : (n : Int) ≤ 9223372036854775807) :
    Iter Tryd.prog 44 #[.pointer (some ⟨g, 0, none⟩)] (fun k : Nat => #[.int .i64 k]) (List.range n) (fun k => k < n0 ∨ k = g) w0 := by
  intro L S J Jx W hk0 hS hJ hJx hY h0
  have hbox := hk0.whole (.inr rfl) hbox
  have HD : Hid (∀ k, S k → ¬ (k < n0 ∨ k = g)) := Lib.hid (fun k hk => (hS k hk).1)
  have x0 := hbox.cell_at 0 rfl
  clear hbox hS
  refine (callsIn_wide (n := 3)).1 ?_
  refine callsIn_of_wp Tryd.func44 rfl trivial ?_ rfl
  simp only [Tryd.ntmps44, List.size_toArray, List.length_cons, List.length_nil, Nat.reduceAdd, Nat.reduceSub, Array.replicate_succ, Array.replicate_zero, List.push_toArray, List.append_toArray, List.nil_append, List.cons_append]
  gi_wp2
  clear x0
  gi_loopw [5] (fun i wr => ∃ (j : Nat), j ≤ n ∧ i = .int .i64 j ∧ J j wr)
    (fun i _ => n - (intOf i).toNat)
  case atStart => exact ⟨0, by omega, rfl, h0⟩
  case round =>
    obtain ⟨j, hj, rfl, hJs⟩ := hrel
    by_cases hlt : j < n
    · have hlt' : (j : Int) < n := by omega
      obtain ⟨fn, tmps, assign, body, hy, hR⟩ := hY j j _ (range_nth hlt) hJs
      have HR := Lib.hid hR
      clear hR
      gi_wp2
      refine RoundIn.mono (RoundIn.wide HR.out) ?_
      clear HR hy
      rintro e W3 (⟨rfl, hJ3, hk3⟩ | ⟨rfl, hJx3, hk3⟩)
      · gi_wp2
        go_roundw
        case rel => exact ⟨j + 1, by omega, by go_num, hJ3⟩
        case measure => simp [intOf]; omega
      · gi_wp2
        refine bodyPost_ret (results_none rfl _ _ _) rfl ?_
        exact ⟨⟨_, rfl⟩, .inr hJx3⟩
    · obtain rfl : j = n := by omega
      gi_wp2
      go_end0
      exact ⟨⟨_, rfl⟩, .inl (by rw [List.length_range]; exact hJs)⟩

end Go.Proofs.YtniihmafbeplaaaDoor
namespace Go.Proofs.YtniihmafbeplaaaDoor
open Go.RowKit Go.Shelf
set_option linter.unusedVariables false
set_option linter.unusedSimpArgs false

attribute [local go_sem] Oper.semAt_some

theorem setCells_off : ∀ (vs : List Value) (o g : Nat) (w : World) (k : Nat), k ≠ g → (w.setCells g o vs).heap[k]? = w.heap[k]?
  | [], _, _, _, _, _ => rfl
  | v :: vs, o, g, w, k, h => (setCells_off vs (o + 1) g _ k h).trans (Below.heap_setCell w ⟨g, o, none⟩ v k (fun e => h e))
theorem wpList_fill {P : Program} {ops : Array Oper} {rest : List Oper} {o : Oper} {a : Act} {w : World} {Q : Exit → Act → World → Prop} (ty : TypeId) (x y : Operand) (ho : o.op = .store ty x y) (hg : o.guard = none) {g : Nat} {old vs : List Value} {t : TypeId} (hx : a.eval x = .pointer (some ⟨g, 0, none⟩)) (hy : a.eval y = .agg vs.toArray)
    (hw : Whole w g t old) (hl : vs.length = old.length) (hi : (P.info? ty).map (·.size) = some vs.length) (h1 : ∀ v ∈ vs, v.oneCell' = true)
    (h : ∀ w', Whole w' g t vs → (∀ n, n ≤ g → Below n w w') → (∀ k, k ≠ g → w'.heap[k]? = w.heap[k]?) → wpList P ops Q rest (a.put o.dst undef) w') : wpList P ops Q (o :: rest) a w := by
  have hth : w.there g 0 vs.toArray.size := by
    have := hw.there
    rw [← hl] at this
    simpa using this
  refine wpList_store_mid hg ty x y ho g 0 vs.toArray hx hy hth (by simpa using hi) (all_oneCell_toArray h1) ?_
  refine h _ ?_ (fun n hn => ?_) (fun k hk => setCells_off vs 0 g w k hk)
  · exact setCells_whole vs [] old hl hw
  · exact setCells_below vs 0 (Below.refl n w) hn
/-- Told clear? -/
def clearI (l : Lay) (im : Img) (k : Nat) : Bool := !staleI l im && !bitU im.o k
theorem told_clear {l : Lay} {im : Img} (hi : im.Wf) {k : Nat} (hk : k < 32) : toldI (staleI l im) (4294967295 - im.o) k = clearI l im k := by
  unfold toldI clearI
  rw [bit_not hi.o hk]
def cntF (c : Nat → Bool) (fs : List Int) : List Int := fs.mapIdx fun i x => rowTk (c i) x
theorem cntF_len (c : Nat → Bool) (fs : List Int) : (cntF c fs).length = fs.length := by simp [cntF]
theorem cntF_at {c : Nat → Bool} {fs : List Int} {k : Nat} {x : Int} (h : fs[k]? = some x) : (cntF c fs)[k]? = some (rowTk (c k) x) := by simp [cntF, h]
/-- Behind the first j rows. -/
def Img.mid (im : Img) (c : Nat → Bool) (j : Nat) : Img := { im with free := (cntF c im.free).take j ++ im.free.drop j }
def Img.cnt (im : Img) (c : Nat → Bool) : Img := { im with free := cntF c im.free }
theorem Img.mid_zero (im : Img) (c : Nat → Bool) : im.mid c 0 = im := by simp [Img.mid]
theorem Img.mid_all {im : Img} (h : im.free.length = 24) (c : Nat → Bool) : im.mid c 24 = im.cnt c := by
  unfold Img.mid Img.cnt
  rw [List.take_of_length_le (by rw [cntF_len]; omega), List.drop_eq_nil_of_le (by omega), List.append_nil]
theorem Img.mid_len {im : Img} (h : im.free.length = 24) (c : Nat → Bool) {j : Nat} (hj : j ≤ 24) : (im.mid c j).free.length = 24 := by
  show ((cntF c im.free).take j ++ im.free.drop j).length = 24
  rw [List.length_append, List.length_take, List.length_drop, cntF_len]
  omega
theorem Img.mid_wf {im : Img} (h : im.Wf) (c : Nat → Bool) {j : Nat} (hj : j ≤ 24) : (im.mid c j).Wf := ⟨Img.mid_len h.len c hj, h.o, h.n, h.r, h.p⟩
theorem Img.cnt_wf {im : Img} (h : im.Wf) (c : Nat → Bool) : (im.cnt c).Wf := ⟨by show (cntF c im.free).length = 24; rw [cntF_len, h.len], h.o, h.n, h.r, h.p⟩
theorem Img.mid_at {im : Img} (h : im.free.length = 24) (c : Nat → Bool) {j : Nat} {x : Int} (hx : im.free[j]? = some x) : (im.mid c j).free[j]? = some x := by
  show ((cntF c im.free).take j ++ im.free.drop j)[j]? = some x
  have hj := (List.getElem?_eq_some_iff.1 hx).1
  rw [List.getElem?_append_right (by rw [List.length_take]; omega), List.length_take, cntF_len, Nat.min_eq_left (by omega), Nat.sub_self, List.getElem?_drop, Nat.add_zero]
  exact hx
theorem Img.mid_next {im : Img} (h : im.free.length = 24) (c : Nat → Bool) {j : Nat} {x : Int} (hx : im.free[j]? = some x) : (im.mid c j).put j (rowTk (c j) x) = im.mid c (j + 1) := by
  have hj := (List.getElem?_eq_some_iff.1 hx).1
  unfold Img.mid Img.put
  simp only [Img.mk.injEq, true_and, and_true]
  have hlt : (List.take j (cntF c im.free)).length = j := by rw [List.length_take, cntF_len]; omega
  rw [List.set_append_right _ _ (by omega), hlt, Nat.sub_self, List.drop_eq_getElem_cons hj, List.set_cons_zero, List.take_add_one, cntF_at hx, Option.toList_some, List.append_assoc]
  rfl
def zeroI : Img := ⟨0, List.replicate 24 0, 0, 0, 0, 0⟩

end Go.Proofs.YtniihmafbeplaaaDoor
