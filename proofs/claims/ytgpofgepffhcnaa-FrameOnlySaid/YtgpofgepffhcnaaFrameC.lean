/- Package frame: the bytes of a frame, one by one; Put. -/
import Derived.Test.YtgpofgepffhcnaaFrameB
import Derived.Test.YtgpofgepffhcnaaCrcC
import Derived.Test.YtgpofgepffhcnaaRound
import Derived.RangeFuncBox
import Derived.OwnWalkIn
namespace Go.Proofs.Ytgpofgepffhcnaa
open Go.RowKit Go.Shelf
set_option linter.unusedVariables false
attribute [local go_sem] Oper.semAt_some

/-- A frame's bytes, ahead of their sum. -/
def bytesF (k q : Int) (zs : List Int) : List Int := [k, q, (zs.length : Int)] ++ zs
theorem bytesF_length (k q : Int) (zs : List Int) : (bytesF k q zs).length = zs.length + 3 := by simp [bytesF]
theorem bytesF_byte {k q : Int} {zs : List Int} (hk : IsByte k) (hq : IsByte q) (hl : zs.length ≤ 59) (hz : ∀ z ∈ zs, IsByte z) : ∀ z ∈ bytesF k q zs, IsByte z := by
  intro z h
  unfold bytesF at h
  simp only [List.mem_append, List.mem_cons, List.not_mem_nil, or_false] at h
  rcases h with (rfl | rfl | rfl) | h
  · exact hk
  · exact hq
  · exact ⟨by omega, by omega⟩
  · exact hz z h

/-- A byte, for a round. -/
def encU (x : Int) : Array Value := #[.int .u8 x]

/-- These blocks lie as they lay. -/
structure KeepB (Pp : Nat → Prop) (w w' : World) : Prop where
  size : w.heap.size ≤ w'.heap.size
  block : ∀ k, Pp k → w'.heap[k]? = w.heap[k]?
theorem KeepB.trans {Pp : Nat → Prop} {a b c : World} (h : KeepB Pp a b) (k : KeepB Pp b c) : KeepB Pp a c := ⟨Nat.le_trans h.size k.size, fun i hi => (k.block i hi).trans (h.block i hi)⟩
theorem KeepB.put {Pp : Nat → Prop} {w : World} (hn : ∀ b, Pp b → b < w.heap.size) (W : World) (l : Nat) (o o' : Obj) (hl : w.heap.size ≤ l) (_ : W.heap[l]? = some o) (_ : o.isCells = false) (_ : o.isWalk = false) : KeepB Pp W (W.putObj l o') :=
  ⟨(grownBy_putObj' W l o').size, fun k hk => World.putObj_heap_other (by have := hn k hk; omega)⟩
theorem KeepB.keeps {Pp : Nat → Prop} {w w' : World} (h : KeepB Pp w w') : KeepCells Pp w w' := fun p hp => World.cell?_of_block (h.block p.block hp)

theorem row_putObj {w : World} {B : Nat} {A : Option Addr} {vs : List Value} (h : Row w B A vs) {D : Nat} {o : Obj} (o' : Obj) (hD : w.heap[D]? = some o) (ho : o.isCells = false) : Row (w.putObj D o') B A vs := fun hv => by
  obtain ⟨b, off, e, hb, hc⟩ := h hv
  refine ⟨b, off, e, hb, fun j u hu => ?_⟩
  have hcell := hc j u hu
  have hne : b ≠ D := by
    rintro rfl
    cases o with
    | cells _ _ _ => cases ho
    | _ => simp [World.cell?, hD] at hcell
  exact (World.cell?_of_block (a := ⟨b, off + j, none⟩) (World.putObj_heap_other (show b ≠ D from hne))).trans hcell

set_option maxRecDepth 100000 in
set_option maxHeartbeats 4000000 in
theorem open1_in (F : Fence) (m : Nat) (hF : F.fn 32) (hro : F.round = none) (hm : 1 ≤ m) (l Bx n₀ cap : Nat) (k q : Int) (A : Option Addr) (zs : List Int) (hz : ∀ z ∈ zs, IsByte z) (hzl : zs.length ≤ 59) (Kp : World → World → Prop) (Pp : Nat → Prop) (hKp : ∀ X Y, Kp X Y → KeepCells Pp X Y) (hBx : Pp Bx) (hPn : ∀ b, b < n₀ → Pp b) (J Jx : List Int → World → Prop)
    (hY : ∀ pre x W, J pre W → pre.length < zs.length + 3 → YieldAt F (m - 1) Try.prog l #[.int .u8 x] W fun e W' =>
      (e = .returned (.bool true) ∧ J (pre ++ [x]) W' ∧ Kp W W') ∨ (e = .returned (.bool false) ∧ Jx (pre ++ [x]) W'))
    (W : World) (hx0 : W.cell? ⟨Bx, 0, none⟩ = some (.int .u8 k)) (hx1 : W.cell? ⟨Bx, 1, none⟩ = some (.int .u8 q)) (hx2 : W.cell? ⟨Bx, 2, none⟩ = some (.slice A zs.length cap)) (hr : Row W n₀ A (u8s zs)) (h0 : J [] W) :
    CallsIn F m Try.prog 32 #[.func (.yield l) #[] #[], .pointer (some ⟨Bx, 0, none⟩)] W fun e W' => (∃ v, e = .returned v) ∧
      ((∃ ys, ys = bytesF k q zs ∧ J ys W') ∨ (∃ pre, True ∧ Jx pre W')) := by
  refine callsIn_of_wp Try.func32 rfl hF ?_ hro
  simp only [Try.ntmps32, List.size_toArray, List.length_cons, List.length_nil, Nat.reduceAdd, Nat.reduceSub, Array.replicate_succ, Array.replicate_zero, List.push_toArray, List.append_toArray, List.nil_append, List.cons_append]
  have hc59 : (zs.length : Int) ≤ 59 := by omega
  obtain ⟨fn, tmps, assign, body, hy, hR⟩ := hY [] k W h0 (by simp)
  gi_wp2
  refine hR.mono ?_
  rintro e W1 (⟨rfl, hJ1, hk1⟩ | ⟨rfl, hJx1⟩)
  rotate_left
  · clear hy
    gi_wp2
    refine ⟨fun f h => (by cases h), ?_⟩
    gi_wp2
    refine bodyPost_ret (results_none rfl _ _ _) rfl ?_
    exact ⟨⟨_, rfl⟩, .inr ⟨_, trivial, hJx1⟩⟩
  have n1 := hKp _ _ hk1
  have y1 := (n1 ⟨Bx, 1, none⟩ hBx).trans hx1
  clear hR hy hk1
  obtain ⟨fn, tmps, assign, body, hy, hR⟩ := hY _ q W1 hJ1 (by simp)
  gi_wp2
  refine hR.mono ?_
  rintro e W2 (⟨rfl, hJ2, hk2⟩ | ⟨rfl, hJx2⟩)
  rotate_left
  · clear hy
    gi_wp2
    refine ⟨fun f h => (by cases h), ?_⟩
    gi_wp2
    refine bodyPost_ret (results_none rfl _ _ _) rfl ?_
    exact ⟨⟨_, rfl⟩, .inr ⟨_, trivial, hJx2⟩⟩
  have n2 := n1.trans (hKp _ _ hk2)
  have y2 := (n2 ⟨Bx, 2, none⟩ hBx).trans hx2
  clear hR hy hk2 n1 y1
  obtain ⟨fn, tmps, assign, body, hy, hR⟩ := hY _ (zs.length : Int) W2 hJ2 (by simp)
  gi_wp2
  refine hR.mono ?_
  rintro e W3 (⟨rfl, hJ3, hk3⟩ | ⟨rfl, hJx3⟩)
  rotate_left
  · clear hy
    gi_wp2
    refine bodyPost_ret (results_none rfl _ _ _) rfl ?_
    exact ⟨⟨_, rfl⟩, .inr ⟨_, trivial, hJx3⟩⟩
  have n3 := n2.trans (hKp _ _ hk3)
  have y2 := (n3 ⟨Bx, 2, none⟩ hBx).trans hx2
  clear hR hy hk3 n2
  gi_wp2
  gi_loopw [29] (fun i wr => ∃ j : Nat, j ≤ zs.length ∧ i = .int .i64 j ∧ J ([k, q, (zs.length : Int)] ++ zs.take j) wr ∧ KeepCells Pp W wr)
    (fun i _ => zs.length - (intOf i).toNat)
  case atStart => exact ⟨0, Nat.zero_le _, by simp, by rw [List.take_zero]; exact hJ3, n3⟩
  case round =>
    obtain ⟨j, hj, rfl, hJs, hnx⟩ := hrel
    by_cases hlt : j < zs.length
    · obtain ⟨b, off, rfl, hbl, hc⟩ := (hr.keep (Nat.le_refl _) (fun p hp => hnx p (hPn _ hp))).byte (k := j) hlt
      have hlt' : (j : Int) < zs.length := by omega
      have HLT := Lib.hid hlt
      obtain ⟨fn, tmps, assign, body, hy, hR⟩ := hY _ (zs[j]?.getD 0) _ hJs (by simp; omega)
      have hsn : [k, q, (zs.length : Int)] ++ zs.take j ++ [zs[j]?.getD 0] = [k, q, (zs.length : Int)] ++ zs.take (j + 1) := by
        rw [List.append_assoc, List.take_succ_eq_append_getElem hlt, List.getElem?_eq_getElem hlt]; rfl
      have HSN := Lib.hid hsn
      generalize zs[j]?.getD 0 = zv at hc hy hR HSN
      clear hlt hsn
      gi_wp2
      refine hR.mono ?_
      rintro e W4 (⟨rfl, hJ4, hk4⟩ | ⟨rfl, hJx4⟩)
      · gi_wp2
        go_roundw
        case rel => exact ⟨j + 1, HLT.out, by go_num, by rw [← HSN.out]; exact hJ4, hnx.trans (hKp _ _ hk4)⟩
        case measure => simp [intOf]; omega
      · gi_wp2
        refine bodyPost_ret (results_none rfl _ _ _) rfl ?_
        exact ⟨⟨_, rfl⟩, .inr ⟨_, trivial, hJx4⟩⟩
    · obtain rfl : j = zs.length := by omega
      rw [List.take_length] at hJs
      gi_wp2
      go_end0
      exact ⟨⟨_, rfl⟩, .inl ⟨_, rfl, hJs⟩⟩

set_option maxHeartbeats 1000000 in
theorem open_in (F : Fence) (m : Nat) (hF : F.fn 24) (hro : F.round = none) (k q : Int) (A : Option Addr) (len cap : Nat) (w : World) :
    CallsIn F m Try.prog 24 #[frV k q A len cap] w fun e w' =>
      e = .returned (.func (.func 32) #[] #[.pointer (some ⟨w.heap.size, 0, none⟩)]) ∧ w' = w.alloc (.cells #[.int .u8 k, .int .u8 q, .slice A len cap] 24) := by
  refine callsIn_of_wp Try.func24 rfl hF ?_ hro
  simp only [Try.ntmps24, List.size_toArray, List.length_cons, List.length_nil, Nat.reduceAdd, Nat.reduceSub, Array.replicate_succ, Array.replicate_zero, List.push_toArray, List.append_toArray, List.nil_append, List.cons_append]
  gi_wp2
  go_ret
  exact ⟨rfl, rfl⟩

theorem open_stops (F : Fence) (m : Nat) (hF : F.fn 32) (hro : F.round = none) (hm : 1 ≤ m) (Bx n₀ cap : Nat) (k q : Int) (A : Option Addr) (zs : List Int) (hz : ∀ z ∈ zs, IsByte z) (hzl : zs.length ≤ 59) (w : World) (Kp : World → World → Prop) (Pp : Nat → Prop) (hKp : ∀ X Y, Kp X Y → KeepCells Pp X Y) (hBx : Pp Bx) (hPn : ∀ b, b < n₀ → Pp b) (hn₀ : n₀ ≤ w.heap.size) (hBx' : Bx < w.heap.size)
    (hx0 : w.cell? ⟨Bx, 0, none⟩ = some (.int .u8 k)) (hx1 : w.cell? ⟨Bx, 1, none⟩ = some (.int .u8 q)) (hx2 : w.cell? ⟨Bx, 2, none⟩ = some (.slice A zs.length cap)) (hr : Row w n₀ A (u8s zs)) :
    SeqStopsK F m Try.prog 32 #[.pointer (some ⟨Bx, 0, none⟩)] encU Kp (fun ys => ys = bytesF k q zs) (fun _ => True) (zs.length + 3) w := fun l J Jx W hW _ _ hY h0 =>
  open1_in F m hF hro hm l Bx n₀ cap k q A zs hz hzl Kp Pp hKp hBx hPn J Jx hY W ((hW.cell (p := ⟨Bx, 0, none⟩) hBx').trans hx0) ((hW.cell (p := ⟨Bx, 1, none⟩) hBx').trans hx1) ((hW.cell (p := ⟨Bx, 2, none⟩) hBx').trans hx2) (hr.below (hW.mono hn₀)) h0

/-- What Put gives. -/
def putL (k q : Int) (zs : List Int) : List Int := if rightF k zs.length = true then closeB (bytesF k q zs) else []
def putE (k : Int) (n : Nat) : Int := if rightF k n = true then 0 else 2
def PutGives (w : World) (k q : Int) (zs : List Int) (e : Ending) (w' : World) : Prop :=
  ∃ A' c', e = .returned (.tuple #[.slice A' (putL k q zs).length c', .int .i64 (putE k zs.length)]) ∧ Row w' w'.heap.size A' (u8s (putL k q zs)) ∧ (putL k q zs).length ≤ c' ∧ Below w.heap.size w w'
theorem rightF_le {k : Int} {n : Nat} (h : rightF k n = true) : n ≤ 59 := by unfold rightF at h; simp at h; omega
end Go.Proofs.Ytgpofgepffhcnaa
