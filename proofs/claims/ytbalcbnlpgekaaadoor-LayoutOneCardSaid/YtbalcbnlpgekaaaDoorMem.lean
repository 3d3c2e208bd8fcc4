/- What a slice that came in holds, cell by cell; kept by whatever leaves old blocks alone. -/
import Derived.WalkKit
import Derived.Lib.Hide
import Derived.Deep.QuietTactic
import Derived.Laws.CopyOwn
import Derived.Laws.MakeOwn
import Derived.BigQuiet
import Derived.RangeFuncBox
import Derived.Test.YtbalcbnlpgekaaaDoorPack
namespace Go.Proofs.YtbalcbnlpgekaaaDoor
open Go.RowKit
set_option linter.unusedVariables false

/-- The address A leads to the cells vs, side by side, in a block below B (nothing is said of A where there are none). -/
def Row (w : World) (B : Nat) (A : Option Addr) (vs : List Value) : Prop :=
  0 < vs.length → ∃ b off, A = some ⟨b, off, none⟩ ∧ b < B ∧ ∀ j u, vs[j]? = some u → w.cell? ⟨b, off + j, none⟩ = some u

theorem Row.nil (w : World) (B : Nat) (A : Option Addr) : Row w B A [] := fun h => absurd h (by simp)

theorem Row.keep {w w' : World} {B B' : Nat} {A : Option Addr} {vs : List Value} (h : Row w B A vs) (hB : B ≤ B') (hk : ∀ p : Addr, p.block < B → w'.cell? p = w.cell? p) : Row w' B' A vs := fun hp => by
  obtain ⟨b, off, e, hb, hc⟩ := h hp
  exact ⟨b, off, e, by omega, fun j u hu => (hk _ hb).trans (hc j u hu)⟩

theorem Row.below {w w' : World} {B : Nat} {A : Option Addr} {vs : List Value} (h : Row w B A vs) (hb : Below B w w') : Row w' B A vs :=
  h.keep (Nat.le_refl _) fun _ hp => hb.cell hp

theorem Row.mono {w : World} {B B' : Nat} {A : Option Addr} {vs : List Value} (h : Row w B A vs) (hB : B ≤ B') : Row w B' A vs :=
  h.keep hB fun _ _ => rfl

theorem Row.alloc {w : World} {B : Nat} {A : Option Addr} {vs : List Value} (h : Row w B A vs) (hB : B ≤ w.heap.size) (o : Obj) : Row (w.alloc o) B A vs :=
  h.below ((Below.refl B w).alloc hB o)

theorem Row.setCell {w : World} {B : Nat} {A : Option Addr} {vs : List Value} (h : Row w B A vs) {p : Addr} (hp : B ≤ p.block) (u : Value) : Row (w.setCell p u) B A vs :=
  h.below ((Below.refl B w).setCell hp u)

/-- What a caller had is there in whatever world has grown out of his. -/
theorem Row.on {w w' : World} {A : Option Addr} {vs : List Value} (h : Row w w.heap.size A vs) (hb : Below w.heap.size w w') : Row w' w'.heap.size A vs := (h.below hb).mono hb.size
theorem below2 (w : World) (o o' : Obj) : Below w.heap.size w ((w.alloc o).alloc o') := ((Below.refl _ w).alloc (Nat.le_refl _) o).alloc (by simp) o'
theorem below1 (w : World) (o : Obj) : Below w.heap.size w (w.alloc o) := (Below.refl _ w).alloc (Nat.le_refl _) o
theorem below3 (w : World) (o o' o'' : Obj) : Below w.heap.size w (((w.alloc o).alloc o').alloc o'') := (below2 w o o').alloc (by simp; omega) o''

/-- Bytes as the cells of a block. -/
def u8s (zs : List Int) : List Value := zs.map (.int .u8)
theorem u8s_length (zs : List Int) : (u8s zs).length = zs.length := by simp [u8s]

theorem Row.byte {w : World} {B : Nat} {A : Option Addr} {zs : List Int} (h : Row w B A (u8s zs)) {k : Nat} (hk : k < zs.length) :
    ∃ b off, A = some ⟨b, off, none⟩ ∧ b < B ∧ w.cell? ⟨b, off + k, none⟩ = some (.int .u8 (zs[k]?.getD 0)) := by
  obtain ⟨b, off, e, hb, hc⟩ := h (by rw [u8s_length]; omega)
  exact ⟨b, off, e, hb, hc k _ (by simp [u8s, hk])⟩
theorem Row.bytes {w : World} {B : Nat} {A : Option Addr} {zs : List Int} (h : Row w B A (u8s zs)) (hk : 0 < zs.length) :
    ∃ b off, A = some ⟨b, off, none⟩ ∧ b < B ∧ ∀ k, k < zs.length → w.cell? ⟨b, off + k, none⟩ = some (.int .u8 (zs[k]?.getD 0)) := by
  obtain ⟨b, off, e, hb, hc⟩ := h (by rw [u8s_length]; omega)
  exact ⟨b, off, e, hb, fun k hk => hc k _ (by simp [u8s, hk])⟩

/-- Block g is just these cells of type t, none frozen. -/
def Whole (w : World) (g : Nat) (t : TypeId) (cs : List Value) : Prop := w.heap[g]? = some (.cells cs.toArray t (0, 0))
theorem Whole.lt {w : World} {g : Nat} {t : TypeId} {cs : List Value} (h : Whole w g t cs) : g < w.heap.size := (Array.getElem?_eq_some_iff.1 h).1
theorem Whole.cell {w : World} {g : Nat} {t : TypeId} {cs : List Value} (h : Whole w g t cs) (i : Nat) : w.cell? ⟨g, i, none⟩ = cs[i]? := by
  simp [World.cell?, show w.heap[g]? = _ from h]
theorem Whole.cell_at {w : World} {g : Nat} {t : TypeId} {cs : List Value} (h : Whole w g t cs) (i : Nat) {v : Value} (hv : cs[i]? = some v) : w.cell? ⟨g, i, none⟩ = some v := (h.cell i).trans hv
theorem Whole.frozen {w : World} {g : Nat} {t : TypeId} {cs : List Value} (h : Whole w g t cs) (i : Nat) : w.frozen? ⟨g, i, none⟩ = false := by
  simp [World.frozen?, show w.heap[g]? = _ from h]
theorem Whole.new (w : World) (t : TypeId) (cs : List Value) : Whole (w.alloc (.cells cs.toArray t)) w.heap.size t cs := World.alloc_heap_new w _
theorem Whole.new_at (w : World) (t : TypeId) (cs : List Value) (n : Nat) (hn : n = w.heap.size) : Whole (w.alloc (.cells cs.toArray t)) n t cs := by subst hn; exact Whole.new w t cs
theorem Whole.kept {w w' : World} {g : Nat} {t : TypeId} {cs : List Value} (h : Whole w g t cs) {row : Option Nat} (hg : w.grownBy w' row) (hne : some g ≠ row) : Whole w' g t cs := (hg.block g h.lt hne).trans h
theorem Whole.below {w w' : World} {B g : Nat} {t : TypeId} {cs : List Value} (h : Whole w g t cs) (hb : Below B w w') (hg : g < B) : Whole w' g t cs := (hb.block g hg).trans h
theorem Whole.alloc {w : World} {g : Nat} {t : TypeId} {cs : List Value} (h : Whole w g t cs) (o : Obj) : Whole (w.alloc o) g t cs := (Below.heap_alloc w o g h.lt).trans h
theorem Whole.far {w : World} {g : Nat} {t : TypeId} {cs : List Value} (h : Whole w g t cs) {p : Addr} (hp : g ≠ p.block) (u : Value) : Whole (w.setCell p u) g t cs := (Below.heap_setCell w p u g hp).trans h
theorem Whole.set {w : World} {g : Nat} {t : TypeId} {cs : List Value} (h : Whole w g t cs) (i : Nat) (u : Value) : Whole (w.setCell ⟨g, i, none⟩ u) g t (cs.set i u) := by
  unfold Whole at h ⊢
  simp [World.setCell, Array.getElem?_modify, h]
theorem Whole.drawn {w : World} {g : Nat} {t : TypeId} {cs : List Value} (h : Whole w g t cs) (n : Nat) : Whole (w.drewN n) g t cs := h
theorem Whole.row {w : World} {g : Nat} {t : TypeId} {cs : List Value} (h : Whole w g t cs) {B : Nat} (hB : g < B) : Row w B (some ⟨g, 0, none⟩) cs :=
  fun _ => ⟨g, 0, rfl, hB, fun j u hu => by rw [Nat.zero_add]; exact h.cell_at j hu⟩
/-- That block g is so abides the turn of whatever is no cells. -/
theorem Whole.abides {w w' : World} {g : Nat} {t : TypeId} {cs : List Value} (h : Whole w g t cs) {row : Option Nat} (hg : w.grownBy w' row) (hr : ∀ r, row = some r → ∃ o : Obj, w.heap[r]? = some o ∧ o.isCells = false) : Whole w' g t cs :=
  (hg.block g h.lt (fun e => by
    obtain ⟨o, ho, hc⟩ := hr g e.symm
    rw [show w.heap[g]? = _ from h] at ho; cases ho; cases hc)).trans h

theorem replicate_cells (z : Value) (hz : z.cells = #[z]) (n : Nat) : madeCells z.cells n = (List.replicate n z).toArray := by
  rw [hz]
  apply Array.ext
  · simp [madeCells]
  · intro i h1 h2
    simp [madeCells, Nat.mod_one]

/-- make([]T, c), T of one cell. -/
theorem make_run {P : Program} (t e : TypeId) (z : Value) (bytes : Nat) (ht : P.underlying t = some (.slice e)) (hi : (P.info? e).map (fun i => (i.zero, i.size, i.bytes)) = some (some z, 1, bytes)) (hz : z.cells = #[z])
    (c : Nat) (hb : (bytes : Int) * c ≤ 281474976710656) (hc : c ≤ 9223372036854775807) (w : World) :
    (Instr.makeSlice t (.int .i64 (c : Int)) (.int .i64 (c : Int))).run P w = .ok (.slice (some ⟨w.heap.size, 0, none⟩) c c) (w.alloc (.cells (List.replicate c z).toArray e)) := by
  obtain ⟨i, h1, h2, h3, h4⟩ := info_parts hi
  have hr := run_make (P := P) w t e i z ht h1 h2 .i64 .i64 (c : Int) (c : Int) (by omega) (by omega) (by rw [h4]; exact hb) (by omega)
  rw [h3, Nat.mul_one, Int.toNat_natCast, replicate_cells z hz] at hr
  exact hr

/-- copy of a row onto the head of a block of the call's own, which has room for all of it. -/
theorem copy_run {P : Program} (t t' e : TypeId) (ht : P.underlying t = some (.slice e)) (hs : (P.info? e).map (·.size) = some 1) (g : Nat) (cur vs : List Value) (A : Option Addr) (cap B S C : Nat) (w : World)
    (hg : Whole w g e cur) (hS : cur.length = S) (hr : Row w B A vs) (hn : vs.length ≤ S) (h1 : ∀ v ∈ vs, v.oneCell' = true) :
    ∃ w', (∀ ty, (Builtin.copy_ #[t, t'] ty #[.slice (some ⟨g, 0, none⟩) S C, .slice A vs.length cap]).run P w = .ok (goInt vs.length) w') ∧ Whole w' g e (vs ++ cur.drop vs.length) ∧ w.grownBy w' (some g) := by
  by_cases h0 : vs.length = 0
  · obtain rfl : vs = [] := List.eq_nil_of_length_eq_zero h0
    exact ⟨w, fun ty => run_copy_none w t t' ty e _ A S C 0 cap ht hs (by simp), by simpa using hg, World.grownBy.refl _ _⟩
  · obtain ⟨b, off, rfl, hb, hc⟩ := hr (by omega)
    refine ⟨_, fun ty => run_copy_row P w t t' ty e g 0 S C ⟨b, off, none⟩ vs.length cap cur.toArray e vs ht hs hg (by simp only [Nat.min_def]; split <;> omega) (fun j v hv => ?_) (by simp; omega) h1, ?_, ⟨rfl, rfl, rfl, by simp [World.setRow], fun k hk hne => setRow_other w g k _ (fun e => hne (by rw [e]))⟩⟩
    · have := hc j v hv
      unfold Addr.add
      split
      · subst_vars; simpa using this
      · simpa using this
    · show _ = _
      simpa using setRow_heap w g _ _ e _ hg

theorem u8s_one (zs : List Int) : ∀ v ∈ u8s zs, v.oneCell' = true := by
  intro v hv
  simp only [u8s, List.mem_map] at hv
  obtain ⟨z, _, rfl⟩ := hv
  rfl
/-- Bits in k bytes, and 0s behind them, are these bits in more bytes. -/
theorem pack_pad (k S : Nat) (l : List Bool) (h : l.length ≤ 8 * k) (hk : k ≤ S) : u8s (pack k l) ++ (List.replicate S (.int .u8 0)).drop (u8s (pack k l)).length = u8s (pack S l) := by
  obtain ⟨d, rfl⟩ := Nat.exists_eq_add_of_le hk
  rw [pack_more k d l h, u8s_length, pack_length]
  simp [u8s]

/-- Two new blocks: a struct of a slice of S cells, each z, of the call's own, and of x beside it. -/
def Fresh2 (W : World) (n S : Nat) (tb te : TypeId) (z x o : Value) (X : World) : Prop :=
  ∃ Bo g, o = .pointer (some ⟨Bo, 0, none⟩) ∧ Bo ≠ g ∧ n ≤ Bo ∧ n ≤ g ∧ Whole X Bo tb [.slice (some ⟨g, 0, none⟩) S S, x] ∧ Whole X g te (List.replicate S z) ∧ Below n W X
theorem fresh2_row_first (W : World) (n S : Nat) (tb te : TypeId) (z x : Value) (hn : n = W.heap.size) :
    Fresh2 W n S tb te z x (.pointer (some ⟨n + 1, 0, none⟩)) ((W.alloc (.cells (Array.replicate S z) te)).alloc (.cells #[.slice (some ⟨n, 0, none⟩) S S, x] tb)).drew := by
  subst hn
  refine ⟨_, W.heap.size, rfl, by omega, by omega, Nat.le_refl _, Whole.new_at _ _ [_, _] _ (by simp), ?_, (((Below.refl _ _).alloc (Nat.le_refl _) _).alloc (by simp) _).drew⟩
  have h := (Whole.new W te (List.replicate S z)).alloc (.cells #[.slice (some ⟨W.heap.size, 0, none⟩) S S, x] tb)
  rw [List.toArray_replicate] at h
  exact h
theorem fresh2_row_last (W : World) (n S : Nat) (tb te : TypeId) (z x : Value) (hn : n = W.heap.size) :
    Fresh2 W n S tb te z x (.pointer (some ⟨n, 0, none⟩)) ((W.alloc (.cells #[.slice (some ⟨n + 1, 0, none⟩) S S, x] tb)).alloc (.cells (Array.replicate S z) te)).drew := by
  subst hn
  refine ⟨_, W.heap.size + 1, rfl, by omega, Nat.le_refl _, by omega, (Whole.new_at _ _ [_, _] _ rfl).alloc _, ?_, (((Below.refl _ _).alloc (Nat.le_refl _) _).alloc (by simp) _).drew⟩
  have h := Whole.new_at (W.alloc (.cells #[.slice (some ⟨W.heap.size + 1, 0, none⟩) S S, x] tb)) te (List.replicate S z) (W.heap.size + 1) (by simp)
  rw [List.toArray_replicate] at h
  exact h

theorem below_drawn {B : Nat} {a w : World} (h : Below B a w) (n : Nat) : Below B a (w.drewN n) := ⟨h.os, h.tape, h.output, h.size, h.block⟩
theorem Row.drewN {w : World} {B : Nat} {A : Option Addr} {vs : List Value} (h : Row w B A vs) (n : Nat) : Row (w.drewN n) B A vs := h
end Go.Proofs.YtbalcbnlpgekaaaDoor
