/- The document's own reader: ports. -/
import Derived.Test.YtegflmaobmibnaaGreatDoorQPlanRd
namespace Go.Proofs.YtegflmaobmibnaaGreatDoor
set_option maxRecDepth 100000
open Go.RowKit Go.Shelf
set_option linter.unusedVariables false
set_option linter.unusedSimpArgs false

theorem Rd.far {r g c : Nat} {zs : List Int} {s : Option Nat} {w : World} (h : Rd r g c zs s w) {p : Addr} (h1 : r ≠ p.block) (h2 : g ≠ p.block) (u : Value) : Rd r g c zs s (w.setCell p u) := by
  obtain ⟨⟨q, b, k1, k2⟩, h3, h4, h5⟩ := h
  exact ⟨⟨q, b, k1.far h1 u, k2⟩, h3.far (fun q hq => by cases hq; exact h2) u, by simpa [World.setCell] using h4, h5⟩
theorem Rd.lt {r g c : Nat} {zs : List Int} {s : Option Nat} {w : World} (h : Rd r g c zs s w) : r < w.heap.size := by
  obtain ⟨⟨q, b, k1, k2⟩, _⟩ := h
  exact k1.lt
/-- What comes of a reader of the document's. -/
def OutR {α : Type} (r g c : Nat) (zs : List Int) (l : List Bool) (s : Option Nat) (w : World) (val : α → Value) (p : Par α) (e : Ending) (w' : World) : Prop :=
  ∃ (y : α) (s' : Option Nat), e = .returned (val y) ∧ Rd r g c zs s' w' ∧ After p l s y s' ∧ Bq w.heap.size r w w'

section
variable {r g c : Nat} {zs : List Int} {l : List Bool} (hA : Are zs (8 * (zs.length : Int)) l) (hz : zs.length ≤ 2000)
include hA hz
set_option maxHeartbeats 8000000 in
theorem portR8_any (s : Option Nat) (w : World) (h : Rd r g c zs s w) :
    Calls Tryz.prog 81 #[.pointer (some ⟨r, 0, none⟩)] w (OutR r g c zs l s w (fun y : Int × Int => prtV y.1 y.2) portP) := by
  have hrl := h.lt
  have hgl := h.lg
  have h0 := h.keep (below1 w (.cells #[.int .i64 0, .int .i64 0] 48))
  have HBX : Hid (Whole (w.alloc (.cells #[.int .i64 0, .int .i64 0] 48)) w.heap.size 48 [.int .i64 0, .int .i64 0]) := Lib.hid (Whole.new w _ _)
  have HB0 : Hid (Bq w.heap.size r w (w.alloc (.cells #[.int .i64 0, .int .i64 0] 48))) := Lib.hid (.of (below1 w _))
  have H0 := Lib.hid h0
  clear h h0
  go_enter Tryz.func81, Tryz.ntmps81
  go_wp2_with fail
  refine (number_any hA hz 5 s _ rfl (by omega) H0.out).mono ?_
  rintro e w1 ⟨y1, s1, rfl, h1, a1, b1, c1, q1⟩
  have HX1 : Hid (Whole w1 w.heap.size 48 [.int .i64 0, .int .i64 0]) := Lib.hid (HBX.out.bq q1 (by simp) (by omega))
  have HB1 : Hid (Bq w.heap.size r w w1) := Lib.hid (HB0.out.trans (q1.less (by simp)))
  have H1 := Lib.hid h1
  have hs1 := q1.size
  rw [World.size_alloc] at hs1
  clear h1 q1 HBX HB0 H0
  go_wp2_with fail
  refine (number_any hA hz 2 s1 w1 rfl (by omega) H1.out).mono ?_
  rintro e w2 ⟨y2, s2, rfl, h2, a2, b2, c2, q2⟩
  have hx2 := HX1.out.bq q2 (by omega) (by omega)
  have z0 := hx2.cell_at 0 rfl
  have z1 := hx2.cell_at 1 rfl
  have f0 := hx2.frozen 0
  have f1 := hx2.frozen 1
  have hx3 := (hx2.set 0 (.int .i64 y1)).set 1 (.int .i64 y2)
  have e0 := hx3.cell_at 0 rfl
  have e1 := hx3.cell_at 1 rfl
  have hs2 := q2.size
  have HF : Hid (Rd r g c zs s2 ((w2.setCell ⟨w.heap.size, 0, none⟩ (.int .i64 y1)).setCell ⟨w.heap.size, 1, none⟩ (.int .i64 y2)) ∧ Bq w.heap.size r w ((w2.setCell ⟨w.heap.size, 0, none⟩ (.int .i64 y1)).setCell ⟨w.heap.size, 1, none⟩ (.int .i64 y2))) :=
    Lib.hid ⟨(h2.far (p := ⟨w.heap.size, 0, none⟩) (by show r ≠ w.heap.size; omega) (by show g ≠ w.heap.size; omega) _).far (p := ⟨w.heap.size, 1, none⟩) (by show r ≠ w.heap.size; omega) (by show g ≠ w.heap.size; omega) _,
      ((HB1.out.trans (q2.less (by omega))).set (p := ⟨w.heap.size, 0, none⟩) (.inl (Nat.le_refl _)) _).set (p := ⟨w.heap.size, 1, none⟩) (.inl (Nat.le_refl _)) _⟩
  have HAF : Hid (After portP l s (y1, y2) s2) := Lib.hid (After.bnd a1 (After.bnd a2 (After.ret _ _ _)))
  clear hx2 hx3 h2 q2 a1 a2 hs1 hs2
  go_wp2_with fail
  refine bodyPost_ret (v := prtV y1 y2) (by simp [results, Tryz.results81, go_sem, e0, e1]) rfl ?_
  exact ⟨(y1, y2), s2, rfl, HF.out.1, HAF.out, HF.out.2⟩
end
end Go.Proofs.YtegflmaobmibnaaGreatDoor
