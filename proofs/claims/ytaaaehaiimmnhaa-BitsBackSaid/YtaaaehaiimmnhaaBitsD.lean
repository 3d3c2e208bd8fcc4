/- A span of bits; a list of flags. -/
import Derived.Test.YtaaaehaiimmnhaaBitsC
namespace Go.Proofs.Ytaaaehaiimmnhaa
open Go.RowKit Go.Shelf
set_option linter.unusedVariables false
attribute [local go_sem] Oper.semAt_some

/-- The cells of these blocks read as they did. -/
def KeepCells (Pp : Nat → Prop) (W W' : World) : Prop := ∀ p : Addr, Pp p.block → W'.cell? p = W.cell? p
theorem KeepCells.refl (Pp : Nat → Prop) (W : World) : KeepCells Pp W W := fun _ _ => rfl
theorem KeepCells.trans {Pp : Nat → Prop} {A B C : World} (h : KeepCells Pp A B) (k : KeepCells Pp B C) : KeepCells Pp A C := fun p hp => (k p hp).trans (h p hp)

set_option maxRecDepth 100000 in
set_option maxHeartbeats 4000000 in
theorem span1_in (F : Fence) (m : Nat) (hF : F.fn 37) (hro : F.round = none) (hm : 1 ≤ m) (l Ba Bk Bx n₀ at_ k cap : Nat) (A : Option Addr) (zs : List Int) (N : Int) (hN : ((at_ + k : Nat) : Int) ≤ 8 * zs.length) (hz : ∀ z ∈ zs, IsByte z) (hzl : zs.length ≤ 1152921504606846975) (Kp : World → World → Prop) (Pp : Nat → Prop) (hKp : ∀ X Y, Kp X Y → KeepCells Pp X Y) (hBa : Pp Ba) (hBk : Pp Bk) (hBx : Pp Bx) (hPn : ∀ b, b < n₀ → Pp b) (J Jx : List Bool → World → Prop)
    (hY : ∀ pre x W, J pre W → pre.length < k → YieldAt F (m - 1) Try.prog l #[.bool x] W fun e W' =>
      (e = .returned (.bool true) ∧ J (pre ++ [x]) W' ∧ Kp W W') ∨ (e = .returned (.bool false) ∧ Jx (pre ++ [x]) W'))
    (W : World) (hca : W.cell? ⟨Ba, 0, none⟩ = some (.int .i64 at_)) (hck : W.cell? ⟨Bk, 0, none⟩ = some (.int .i64 k)) (hx0 : W.cell? ⟨Bx, 0, none⟩ = some (.slice A zs.length cap)) (hx1 : W.cell? ⟨Bx, 1, none⟩ = some (.int .i64 N)) (hr : Row W n₀ A (u8s zs)) (h0 : J [] W) :
    CallsIn F m Try.prog 37 #[.func (.yield l) #[] #[], .pointer (some ⟨Ba, 0, none⟩), .pointer (some ⟨Bk, 0, none⟩), .pointer (some ⟨Bx, 0, none⟩)] W fun e W' => (∃ v, e = .returned v) ∧
      ((∃ ys, ys = first (fun j => bitZ zs (at_ + j)) k ∧ J ys W') ∨ (∃ pre, (∃ j, j ≤ k ∧ pre = first (fun j => bitZ zs (at_ + j)) j) ∧ Jx pre W')) := by
  refine callsIn_of_wp Try.func37 rfl hF ?_ hro
  simp only [Try.ntmps37, List.size_toArray, List.length_cons, List.length_nil, Nat.reduceAdd, Nat.reduceSub, Array.replicate_succ, Array.replicate_zero, List.push_toArray, List.append_toArray, List.nil_append, List.cons_append]
  gi_wp2
  gi_loopw [5] (fun i wr => ∃ j : Nat, j ≤ k ∧ i = .int .i64 ((at_ : Int) + j) ∧ J (first (fun j => bitZ zs (at_ + j)) j) wr ∧ KeepCells Pp W wr)
    (fun i _ => (at_ + k) - (intOf i).toNat)
  case atStart => exact ⟨0, Nat.zero_le _, by simp, h0, KeepCells.refl _ _⟩
  case round =>
    obtain ⟨j, hj, rfl, hJs, hnx⟩ := hrel
    have hca' := (hnx ⟨Ba, 0, none⟩ hBa).trans hca
    have hck' := (hnx ⟨Bk, 0, none⟩ hBk).trans hck
    have hx0' := (hnx ⟨Bx, 0, none⟩ hBx).trans hx0
    by_cases hlt : j < k
    · obtain ⟨fn, tmps, assign, body, hy, hR⟩ := hY _ (bitZ zs (at_ + j)) wr hJs (by rw [first_length]; exact hlt)
      obtain ⟨b, off, rfl, hbl, hc⟩ := (hr.keep (Nat.le_refl _) (fun p hp => hnx p (hPn _ hp))).byte (k := (at_ + j) / 8) (by omega)
      have hbz : IsByte (zs[(at_ + j) / 8]?.getD 0) := hz _ (by rw [List.getElem?_eq_getElem (by omega)]; exact List.getElem_mem _)
      obtain ⟨hz0, hz1⟩ := hbz
      have hq : ((at_ : Int) + j) / 8 < zs.length := by omega
      have hdig : (bits BinOp.and IntKind.u8 (zs[(at_ + j) / 8]?.getD 0 / 2 ^ (7 - (at_ + j) % 8)) 1 == 1) = bitZ zs (at_ + j) := by
        rw [low_bit_u8 _ (Int.ediv_nonneg hz0 (Int.le_of_lt (Int.pow_pos (by omega)))) (Int.le_trans (Int.ediv_le_self _ hz0) hz1)]; rfl
      have hlt' : (at_ : Int) + j < at_ + k := by omega
      gi_wp2
      refine hR.mono ?_
      rintro e W3 (⟨rfl, hJ3, hk3⟩ | ⟨rfl, hJx3⟩)
      · gi_wp2
        go_roundw
        case rel => exact ⟨j + 1, by omega, by go_num, by rw [first_succ]; exact hJ3, hnx.trans (hKp _ _ hk3)⟩
        case measure => simp [intOf]; omega
      · gi_wp2
        refine bodyPost_ret (results_none rfl _ _ _) rfl ?_
        exact ⟨⟨_, rfl⟩, .inr ⟨_, ⟨j + 1, by omega, (first_succ _ _).symm⟩, hJx3⟩⟩
    · obtain rfl : j = k := by omega
      gi_wp2
      go_end0
      exact ⟨⟨_, rfl⟩, .inl ⟨_, rfl, hJs⟩⟩

set_option maxHeartbeats 1000000 in
/-- span(x, at, k): the three are boxed, in order; the function value captures them. -/
theorem span_in (F : Fence) (m : Nat) (hF : F.fn 31) (hro : F.round = none) (A : Option Addr) (len cap : Nat) (N a k : Int) (w : World) :
    CallsIn F m Try.prog 31 #[.agg #[.slice A len cap, .int .i64 N], .int .i64 a, .int .i64 k] w fun e w' =>
      e = .returned (.func (.func 37) #[] #[.pointer (some ⟨w.heap.size + 1, 0, none⟩), .pointer (some ⟨w.heap.size + 1 + 1, 0, none⟩), .pointer (some ⟨w.heap.size, 0, none⟩)]) ∧ w' = ((w.alloc (.cells #[.slice A len cap, .int .i64 N] 24)).alloc (.cells #[.int .i64 a] 3)).alloc (.cells #[.int .i64 k] 3) := by
  refine callsIn_of_wp Try.func31 rfl hF ?_ hro
  simp only [Try.ntmps31, List.size_toArray, List.length_cons, List.length_nil, Nat.reduceAdd, Nat.reduceSub, Array.replicate_succ, Array.replicate_zero, List.push_toArray, List.append_toArray, List.nil_append, List.cons_append]
  gi_wp2
  go_ret
  exact ⟨rfl, rfl⟩

theorem span_stops (F : Fence) (m : Nat) (hF : F.fn 37) (hro : F.round = none) (hm : 1 ≤ m) (Ba Bk Bx n₀ at_ k cap : Nat) (A : Option Addr) (zs : List Int) (N : Int) (hN : ((at_ + k : Nat) : Int) ≤ 8 * zs.length) (hz : ∀ z ∈ zs, IsByte z) (hzl : zs.length ≤ 1152921504606846975) (w : World) (Kp : World → World → Prop) (Pp : Nat → Prop) (hKp : ∀ X Y, Kp X Y → KeepCells Pp X Y) (hBa : Pp Ba) (hBk : Pp Bk) (hBx : Pp Bx) (hPn : ∀ b, b < n₀ → Pp b) (hn₀ : n₀ ≤ w.heap.size) (hBa' : Ba < w.heap.size) (hBk' : Bk < w.heap.size) (hBx' : Bx < w.heap.size)
    (hca : w.cell? ⟨Ba, 0, none⟩ = some (.int .i64 at_)) (hck : w.cell? ⟨Bk, 0, none⟩ = some (.int .i64 k)) (hx0 : w.cell? ⟨Bx, 0, none⟩ = some (.slice A zs.length cap)) (hx1 : w.cell? ⟨Bx, 1, none⟩ = some (.int .i64 N)) (hr : Row w n₀ A (u8s zs)) :
    SeqStopsK F m Try.prog 37 #[.pointer (some ⟨Ba, 0, none⟩), .pointer (some ⟨Bk, 0, none⟩), .pointer (some ⟨Bx, 0, none⟩)] encB Kp (fun ys => ys = first (fun j => bitZ zs (at_ + j)) k)
      (fun pre => ∃ j, j ≤ k ∧ pre = first (fun j => bitZ zs (at_ + j)) j) k w := fun l J Jx W hW _ _ hY h0 =>
  span1_in F m hF hro hm l Ba Bk Bx n₀ at_ k cap A zs N hN hz hzl Kp Pp hKp hBa hBk hBx hPn J Jx hY W ((hW.cell (p := ⟨Ba, 0, none⟩) hBa').trans hca) ((hW.cell (p := ⟨Bk, 0, none⟩) hBk').trans hck)
    ((hW.cell (p := ⟨Bx, 0, none⟩) hBx').trans hx0) ((hW.cell (p := ⟨Bx, 1, none⟩) hBx').trans hx1) (hr.below (hW.mono hn₀)) h0

/-- Flags as cells. -/
def bools (l : List Bool) : List Value := l.map .bool

set_option maxRecDepth 100000 in
set_option maxHeartbeats 4000000 in
theorem values1_in (F : Fence) (m : Nat) (hF : F.fn 36) (hro : F.round = none) (hm : 1 ≤ m) (l Bs n₀ cap : Nat) (A : Option Addr) (fl : List Bool) (hfl : fl.length ≤ 1099511627776) (hBs : Bs < n₀) (J Jx : List Bool → World → Prop)
    (hY : ∀ pre x W, J pre W → pre.length < fl.length → YieldAt F (m - 1) Try.prog l #[.bool x] W fun e W' =>
      (e = .returned (.bool true) ∧ J (pre ++ [x]) W' ∧ Below n₀ W W') ∨ (e = .returned (.bool false) ∧ Jx (pre ++ [x]) W'))
    (W : World) (hcs : W.cell? ⟨Bs, 0, none⟩ = some (.slice A fl.length cap)) (hr : Row W n₀ A (bools fl)) (h0 : J [] W) :
    CallsIn F m Try.prog 36 #[.func (.yield l) #[] #[], .pointer (some ⟨Bs, 0, none⟩)] W fun e W' => (∃ v, e = .returned v) ∧
      ((∃ ys, ys = first (fun j => fl[j]?.getD false) fl.length ∧ J ys W') ∨ (∃ pre, (∃ j, j ≤ fl.length ∧ pre = first (fun j => fl[j]?.getD false) j) ∧ Jx pre W')) := by
  refine callsIn_of_wp Try.func36 rfl hF ?_ hro
  simp only [Try.ntmps36, List.size_toArray, List.length_cons, List.length_nil, Nat.reduceAdd, Nat.reduceSub, Array.replicate_succ, Array.replicate_zero, List.push_toArray, List.append_toArray, List.nil_append, List.cons_append]
  gi_wp2
  gi_loopw [7] (fun i wr => ∃ j : Nat, j ≤ fl.length ∧ i = .int .i64 j ∧ J (first (fun j => fl[j]?.getD false) j) wr ∧ Below n₀ W wr)
    (fun i _ => fl.length - (intOf i).toNat)
  case atStart => exact ⟨0, Nat.zero_le _, by simp, h0, Below.refl _ _⟩
  case round =>
    obtain ⟨j, hj, rfl, hJs, hnx⟩ := hrel
    by_cases hlt : j < fl.length
    · obtain ⟨fn, tmps, assign, body, hy, hR⟩ := hY _ (fl[j]?.getD false) wr hJs (by rw [first_length]; exact hlt)
      obtain ⟨b, off, rfl, hbl, hc⟩ := hr (by simp [bools]; omega)
      have hc' : wr.cell? ⟨b, off + j, none⟩ = some (.bool (fl[j]?.getD false)) := (hnx.cell (p := ⟨b, off + j, none⟩) hbl).trans (hc j _ (by simp [bools, hlt]))
      have hlt' : (j : Int) < fl.length := by omega
      clear hlt hc
      gi_wp2
      refine hR.mono ?_
      rintro e W3 (⟨rfl, hJ3, hk3⟩ | ⟨rfl, hJx3⟩)
      · gi_wp2
        go_roundw
        case rel => exact ⟨j + 1, by omega, by go_num, by rw [first_succ]; exact hJ3, hnx.trans hk3⟩
        case measure => simp [intOf]; omega
      · gi_wp2
        refine bodyPost_ret (results_none rfl _ _ _) rfl ?_
        exact ⟨⟨_, rfl⟩, .inr ⟨_, ⟨j + 1, by omega, (first_succ _ _).symm⟩, hJx3⟩⟩
    · obtain rfl : j = fl.length := by omega
      gi_wp2
      go_end0
      exact ⟨⟨_, rfl⟩, .inl ⟨_, rfl, hJs⟩⟩

set_option maxHeartbeats 1000000 in
theorem values_in (F : Fence) (m : Nat) (hF : F.fn 29) (hro : F.round = none) (A : Option Addr) (len cap : Nat) (w : World) :
    CallsIn F m Try.prog 29 #[.slice A len cap] w fun e w' =>
      e = .returned (.func (.func 36) #[] #[.pointer (some ⟨w.heap.size, 0, none⟩)]) ∧ w' = w.alloc (.cells #[.slice A len cap] 25) := by
  refine callsIn_of_wp Try.func29 rfl hF ?_ hro
  simp only [Try.ntmps29, List.size_toArray, List.length_cons, List.length_nil, Nat.reduceAdd, Nat.reduceSub, Array.replicate_succ, Array.replicate_zero, List.push_toArray, List.append_toArray, List.nil_append, List.cons_append]
  gi_wp2
  go_ret
  exact ⟨rfl, rfl⟩

theorem first_get (fl : List Bool) : first (fun j => fl[j]?.getD false) fl.length = fl := by
  apply List.ext_getElem
  · simp [first]
  · intro i h1 h2
    simp [first, h2]

theorem values_stops (F : Fence) (m : Nat) (hF : F.fn 36) (hro : F.round = none) (hm : 1 ≤ m) (Bs n₀ cap : Nat) (A : Option Addr) (fl : List Bool) (hfl : fl.length ≤ 1099511627776) (w : World) (hBs : Bs < n₀) (hn₀ : n₀ ≤ w.heap.size)
    (hcs : w.cell? ⟨Bs, 0, none⟩ = some (.slice A fl.length cap)) (hr : Row w n₀ A (bools fl)) :
    SeqStopsK F m Try.prog 36 #[.pointer (some ⟨Bs, 0, none⟩)] encB (Below n₀) (fun ys => ys = fl)
      (fun pre => ∃ j, j ≤ fl.length ∧ pre = first (fun j => fl[j]?.getD false) j) fl.length w := fun l J Jx W hW _ _ hY h0 => by
  have h := values1_in F m hF hro hm l Bs n₀ cap A fl hfl hBs J Jx hY W ((hW.cell (p := ⟨Bs, 0, none⟩) (by show Bs < _; omega)).trans hcs) (hr.below (hW.mono hn₀)) h0
  rw [first_get] at h
  exact h
end Go.Proofs.Ytaaaehaiimmnhaa
