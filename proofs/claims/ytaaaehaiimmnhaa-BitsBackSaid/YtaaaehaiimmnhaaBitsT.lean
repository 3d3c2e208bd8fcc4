/- Package bits: Take, where the bits are there. -/
import Derived.Test.YtaaaehaiimmnhaaBitsK
namespace Go.Proofs.Ytaaaehaiimmnhaa
open Go.RowKit Go.Shelf
set_option linter.unusedVariables false
attribute [local go_sem] Oper.semAt_some

/-- The k bits from at on. -/
def bitsAt (l : List Bool) (at_ k : Nat) : List Bool := first (fun j => l[at_ + j]?.getD false) k
theorem wpIn_scope_fwd {n : Nat} {P : Program} {c rest : Code} {l : Nat} {Q : Exit → Act → World → Prop} {a : Act} {w : World} (hf : findLabel c l = some rest) (h : c.wpIn Fence.wide n P (Exit.fwd P l rest Q) a w) : (Code.scope c).wpIn Fence.wide n P Q a w :=
  wpIn_wide.2 (wp_scope_fwd hf (wpIn_wide.1 h))
theorem or_one (x : Int) (h0 : 0 ≤ x) (h1 : x ≤ 4611686018427387903) : bits BinOp.or IntKind.i64 (x * 2) 1 = x * 2 + 1 := by
  obtain ⟨a, rfl⟩ := Int.eq_ofNat_of_zero_le h0
  have ha : (BitVec.ofInt 64 ((a : Int) * 2)).toNat = a * 2 := by
    rw [show ((a : Int) * 2) = ((a * 2 : Nat) : Int) by simp, BitVec.ofInt_natCast, BitVec.toNat_ofNat]; omega
  show IntKind.i64.wrap ((BitVec.ofInt 64 ((a : Int) * 2) ||| 1#64).toNat : Int) = _
  have e : a * 2 ||| 1 = a * 2 + 1 := by
    have := Nat.two_pow_add_eq_or_of_lt (i := 1) (b := 1) (by omega) a
    rw [Nat.mul_comm a 2]
    simpa using this.symm
  rw [BitVec.toNat_or, ha, show (1#64 : BitVec 64).toNat = 1 from rfl, e, IntKind.wrap_i64]
  omega

theorem numOf_true (l : List Bool) : numOf (l ++ [true]) = numOf l * 2 + 1 := by rw [numOf_snoc]; simp; omega
theorem numOf_false (l : List Bool) : numOf (l ++ [false]) = numOf l * 2 := by rw [numOf_snoc]; simp; omega

/-- Below n₀ nothing has turned but block X. -/
structure BelowBut (n₀ X : Nat) (w w' : World) : Prop where
  size : w.heap.size ≤ w'.heap.size
  block : ∀ k, k < n₀ → k ≠ X → w'.heap[k]? = w.heap[k]?
theorem BelowBut.trans {n₀ X : Nat} {a b c : World} (h : BelowBut n₀ X a b) (k : BelowBut n₀ X b c) : BelowBut n₀ X a c := ⟨Nat.le_trans h.size k.size, fun i hi hx => (k.block i hi hx).trans (h.block i hi hx)⟩
theorem BelowBut.put {n₀ X : Nat} {w : World} (hn : n₀ ≤ w.heap.size) (W : World) (l : Nat) (o o' : Obj) (hl : w.heap.size ≤ l) (_ : W.heap[l]? = some o) (_ : o.isCells = false) (_ : o.isWalk = false) : BelowBut n₀ X W (W.putObj l o') :=
  ⟨(grownBy_putObj' W l o').size, fun k hk _ => World.putObj_heap_other (by omega)⟩
theorem BelowBut.keeps {n₀ X : Nat} {w w' : World} (h : BelowBut n₀ X w w') : KeepCells (fun b => b < n₀ ∧ b ≠ X) w w' := fun p hp => World.cell?_of_block (h.block p.block hp.1 hp.2)
theorem BelowBut.set {n₀ X : Nat} (w : World) (i : Nat) (u : Value) : BelowBut n₀ X w (w.setCell ⟨X, i, none⟩ u) := ⟨by simp [World.setCell], fun k _ hx => Below.heap_setCell _ _ _ _ hx⟩

set_option maxRecDepth 100000 in
set_option maxHeartbeats 4000000 in
theorem take_ok (A : Option Addr) (cap : Nat) (l : List Bool) (a k : Nat) (w : World) (hr : Row w w.heap.size A (u8s (pack (bytesFor l.length) l))) (hl : l.length ≤ 549755813888) (hk : k ≤ 32) (hak : a + k ≤ l.length) (hok : rightB (pack (bytesFor l.length) l) l.length = true) :
    Calls Try.prog 16 #[.agg #[.slice A (bytesFor l.length) cap, .int .i64 l.length], .int .i64 (a : Int), .int .i64 (k : Int)] w fun e w' =>
      e = .returned (.tuple #[.int .i64 (numOf (bitsAt l a k)), .int .i64 0]) ∧ Below w.heap.size w w' := by
  have hlen : (pack (bytesFor l.length) l).length = bytesFor l.length := pack_length _ _
  have hRight := fun W hr' => right_any A cap (pack (bytesFor l.length) l) l.length W hr' (pack_byte _ _) (by rw [hlen]; unfold maxLen bytesFor; omega) (by omega) (by omega)
  rw [hlen, hok] at hRight
  have HRight := Lib.hid hRight
  have HW := Lib.hid (show wideB (k : Int) = true by simp [wideB]; omega)
  clear hRight hok hlen
  refine (callsIn_wide (n := 4)).1 ?_
  refine callsIn_of_wp_marks Try.func16 rfl trivial ?_ rfl
  simp only [Try.ntmps16, List.size_toArray, List.length_cons, List.length_nil, Nat.reduceAdd, Nat.reduceSub, Array.replicate_succ, Array.replicate_zero, List.push_toArray, List.append_toArray, List.nil_append, List.cons_append]
  gi_wp2
  refine wpIn_scope_fwd (l := 0) rfl ?_
  gi_wp2_with fail
  refine ⟨trivial, (callsIn_wide.2 (HRight.out _ (by exact hr.on (below2 _ _ _)))).mono ?_⟩
  rintro e w1 ⟨rfl, hB⟩
  have hbox := ((Whole.new w 24 [.slice A (bytesFor l.length) cap, .int .i64 l.length]).alloc _).below hB (by first | (simp; omega) | simp)
  have hnum := (Whole.new_at (w.alloc _) 3 [.int .i64 0] (w.heap.size + 1) (by simp)).below hB (by simp)
  have hBw := (below2 _ _ _).trans (hB.mono (by first | (simp; omega) | simp))
  have hs1 : w.heap.size + 1 < w1.heap.size := hnum.lt
  clear hB
  have x0 := hbox.cell_at 0 rfl
  have x1 := hbox.cell_at 1 rfl
  gi_wp2_with fail
  refine ⟨trivial, (callsIn_wide.2 (wide_any _ _)).mono ?_⟩
  rw [HW.out]
  rintro e w'' ⟨rfl, rfl⟩
  have hle : (a : Int) ≤ (l.length : Int) - k := by omega
  gi_wp2_with fail
  refine ⟨trivial, (span_in Fence.wide 3 trivial rfl A (bytesFor l.length) cap l.length a k _).mono ?_⟩
  rintro e w2 ⟨rfl, rfl⟩
  gi_wp2_with fail
  obtain ⟨W0, hW0, hsz, hb0, hnum0, hxx, hxa, hxk⟩ : ∃ W0, (((w1.alloc (.cells #[.slice A (bytesFor l.length) cap, .int .i64 l.length] 24)).alloc (.cells #[.int .i64 a] 3)).alloc (.cells #[.int .i64 k] 3)) = W0 ∧ W0.heap.size = w1.heap.size + 1 + 1 + 1 ∧ Below w1.heap.size w1 W0 ∧ Whole W0 (w.heap.size + 1) 3 [.int .i64 0] ∧
      Whole W0 w1.heap.size 24 [.slice A (bytesFor l.length) cap, .int .i64 l.length] ∧ Whole W0 (w1.heap.size + 1) 3 [.int .i64 a] ∧ Whole W0 (w1.heap.size + 1 + 1) 3 [.int .i64 k] :=
    ⟨_, rfl, by simp, below3 _ _ _ _, ((hnum.alloc _).alloc _).alloc _, ((Whole.new w1 _ [_, _]).alloc _).alloc _, (Whole.new_at _ _ [_] _ (by simp)).alloc _, Whole.new_at _ _ [_] _ (by simp)⟩
  rw [hW0]
  clear hW0
  have hBW := hBw.trans (hb0.mono hBw.size)
  have hlen : (pack (bytesFor l.length) l).length = bytesFor l.length := pack_length _ _
  have hseq := span_stops Fence.wide 3 trivial rfl (by omega) (w1.heap.size + 1) (w1.heap.size + 1 + 1) w1.heap.size w.heap.size a k cap A (pack (bytesFor l.length) l) l.length (by rw [hlen]; unfold bytesFor; omega) (pack_byte _ _) (by rw [hlen]; unfold bytesFor; omega) W0
    (BelowBut W0.heap.size (w.heap.size + 1)) (fun b => b < W0.heap.size ∧ b ≠ w.heap.size + 1) (fun X Y h => h.keeps) (by omega) (by omega) (by omega) (fun b hb => by omega) hBW.size (by omega) (by omega) (by omega)
    (hxa.cell_at 0 rfl) (hxk.cell_at 0 rfl) (by rw [hlen]; exact hxx.cell_at 0 rfl) (hxx.cell_at 1 rfl) (hr.below hBW)
  have hl0 : w.heap.size + 1 < W0.heap.size := by omega
  have hseen : first (fun j => bitZ (pack (bytesFor l.length) l) (a + j)) k = bitsAt l a k := by
    unfold bitsAt first
    refine List.map_congr_left fun j hj => ?_
    have hj' : j < k := by simpa using hj
    exact bit_of_pack _ _ _ (by unfold bytesFor; omega)
  have HSN := Lib.hid hseen
  have HSZ := Lib.hid hsz
  clear hsz hseen
  clear hxx hxa hxk hnum hbox x0 x1
  refine wpIn_rangeFunc_ownF rfl (by omega) (gf := 37) rfl trivial (enters_of Try.func37 (by kernel_rfl) rfl) hseq BelowBut.trans (BelowBut.put (Nat.le_refl _)) (Below.refl _ _) (fun _ => rfl)
    (fun pre W => Whole W (w.heap.size + 1) 3 [.int .i64 (numOf pre)] ∧ Below w.heap.size w W)
    (fun _ _ _ => False)
    (OwnFrom.and (Own.from (fun s X Y row hs hg hr => hs.abides hg hr) _) (ownFrom_below (Nat.le_refl _) (by omega)))
    (fun _ _ _ _ _ hs _ _ => hs)
    ⟨hnum0, hBW⟩ ?a1 ?assign ?body ?done ?stop
  case stop =>
    rintro D c pre W _ _ h _
    exact h.elim
  case assign =>
    intro lr x W K hK
    unfold encB
    gi_wp2
    exact hK
  case body =>
    rintro lr pre x W ⟨hn, hB⟩ hlt
    have hp : (2 : Int) ^ pre.length ≤ 4294967296 := by
      have h1 : (2 : Nat) ^ pre.length ≤ 2 ^ 32 := Nat.pow_le_pow_right (by omega) (by omega)
      have h2 : (((2 : Nat) ^ pre.length : Nat) : Int) = (2 : Int) ^ pre.length := by simp
      rw [← h2]; omega
    obtain ⟨hn0, hn1⟩ := numOf_bd pre
    have hn2 : numOf pre ≤ 4294967296 := by omega
    have hor := or_one (numOf pre) hn0 (by omega)
    clear hn1 hp
    have c0 := hn.cell_at 0 rfl
    have f0 := hn.frozen 0
    cases x with
    | false =>
      gi_wp2
      refine ⟨KeepsOthers.setCell _ _ _, BelowBut.set _ _ _, ?_, hB.setCell (p := ⟨w.heap.size + 1, 0, none⟩) (Nat.le_succ _) _⟩
      have h := hn.set 0 (.int .i64 (numOf pre * 2))
      rw [numOf_false]
      exact h
    | true =>
      gi_wp2
      refine ⟨(KeepsOthers.setCell _ _ _).trans (KeepsOthers.setCell _ _ _), (BelowBut.set _ _ _).trans (BelowBut.set _ _ _), ?_, (hB.setCell (p := ⟨w.heap.size + 1, 0, none⟩) (Nat.le_succ _) _).setCell (p := ⟨w.heap.size + 1, 0, none⟩) (Nat.le_succ _) _⟩
      have h := (hn.set 0 (.int .i64 (numOf pre * 2))).set 0 (.int .i64 (numOf pre * 2 + 1))
      rw [numOf_true]
      exact h
  case done =>
    rintro D ys W hD rfl ⟨hn, hB⟩ hK
    have c0 := hn.cell_at 0 rfl
    gi_wp2
    rw [fwd_ret]
    refine ⟨by simp, .inl ⟨_, _, rfl, run_takeDeferred hK, ?_⟩⟩
    refine ⟨_, results_tmp2 rfl _ _ _, ?_, hB.trans (belowK_b (w := w) (Nat.le_refl _) W D _ _ (by have := HSZ.out; omega) hK rfl rfl)⟩
    rw [← HSN.out]
    rfl
end Go.Proofs.Ytaaaehaiimmnhaa
