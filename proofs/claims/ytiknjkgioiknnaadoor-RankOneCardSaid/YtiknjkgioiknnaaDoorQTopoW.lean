/- The law's own: one section; what the document says of it. -/
import Derived.Test.YtiknjkgioiknnaaDoorQTopoD
namespace Go.Proofs.YtiknjkgioiknnaaDoor
open Go.RowKit Go.Shelf
set_option linter.unusedVariables false
set_option linter.unusedSimpArgs false

def oneL (gs ge : Nat) : Lay := ⟨[⟨1, -1, 0, -1, 0, -1, 0, -1, 0, 0, 0⟩], some ⟨gs, 0, none⟩, 1, [], none, 0, [⟨0, 1, none, 0, []⟩], some ⟨ge, 0, none⟩, 1, [], none, 0, 1, 1, 1, 1, 1, 1, 1⟩
/-- The same with two signals at one port; with an overlap that is none. -/
def sigsL (l : Lay) (g : Nat) : Lay := { l with sigs := [(0, 0), (0, 0)], Ag := some ⟨g, 0, none⟩, cg := 2 }
def overL (gs ge go : Nat) : Lay := { oneL gs ge with exits := [⟨0, 1, some ⟨go, 0, none⟩, 1, [(0, 0, 1)]⟩] }
structure OneAt (gs ge : Nat) (w : World) : Prop where
  secs : Whole w gs 73 ((oneL gs ge).secs.flatMap Sec.cells)
  exits : Whole w ge 48 ((oneL gs ge).exits.flatMap Exm.cells)
theorem OneAt.closed (gs ge : Nat) : Closed (OneAt gs ge) := fun w w' h hb => ⟨h.secs.below hb h.secs.lt, h.exits.below hb h.exits.lt⟩
theorem one_lies {gs ge : Nat} {w : World} (h : OneAt gs ge w) : Lies (oneL gs ge) w :=
  ⟨h.secs.row h.secs.lt, Row.nil _ _ _, h.exits.row h.exits.lt, Row.nil _ _ _, (fun x hx => by simp [oneL] at hx; subst hx; exact Row.nil _ _ _), (fun x hx => by simp [oneL] at hx; subst hx; simp), by simp [oneL], by simp [oneL], by simp [oneL], by simp [oneL], (fun x hx => by simp [oneL] at hx; subst hx; simp)⟩
theorem sigs_lies {gs ge g : Nat} {w : World} (h : OneAt gs ge w) (hg : Whole w g 83 [.int .i64 0, .int .i64 0, .int .i64 0, .int .i64 0]) : Lies (sigsL (oneL gs ge) g) w :=
  ⟨h.secs.row h.secs.lt, hg.row hg.lt, h.exits.row h.exits.lt, Row.nil _ _ _, (fun x hx => by simp [oneL, sigsL] at hx; subst hx; exact Row.nil _ _ _), (fun x hx => by simp [oneL, sigsL] at hx; subst hx; simp), by simp [oneL, sigsL], by simp [oneL, sigsL], by simp [oneL, sigsL], by simp [oneL, sigsL], (fun x hx => by simp [oneL, sigsL] at hx; subst hx; simp)⟩
theorem over_lies {gs ge go : Nat} {w : World} (h : Whole w gs 73 ((oneL gs ge).secs.flatMap Sec.cells)) (he : Whole w ge 48 [.int .i64 0, .int .i64 1, .slice (some ⟨go, 0, none⟩) 1 1]) (ho : Whole w go 53 [.int .i64 0, .int .i64 0, .int .i64 1]) : Lies (overL gs ge go) w :=
  ⟨h.row h.lt, Row.nil _ _ _, he.row he.lt, Row.nil _ _ _, (fun x hx => by simp [overL] at hx; subst hx; exact ho.row ho.lt), (fun x hx => by simp [oneL, overL] at hx; subst hx; simp), by simp [oneL, overL], by simp [oneL, overL], by simp [oneL, overL], by simp [oneL, overL], (fun x hx => by simp [oneL, overL] at hx; subst hx; simp)⟩
theorem one_check (gs ge : Nat) : checkV (oneL gs ge) = (0, 0, 0) := by kernel_rfl
theorem sigs_check (gs ge g : Nat) : checkV (sigsL (oneL gs ge) g) = (2, 1, 90) := by kernel_rfl
theorem over_check (gs ge go : Nat) : checkV (overL gs ge go) = (4, 0, 90) := by kernel_rfl
theorem zero_check : checkV zeroL = (0, 0, 60) := by kernel_rfl
theorem one_right (gs ge : Nat) : rightT (oneL gs ge) = true := by kernel_rfl
theorem sigs_right (gs ge g : Nat) : rightT (sigsL (oneL gs ge) g) = false := by kernel_rfl
theorem one_over (gs ge : Nat) : overT (oneL gs ge) 0 = true := by kernel_rfl
theorem one_over1 (gs ge : Nat) : overT (oneL gs ge) 1 = false := by kernel_rfl
theorem over_over (gs ge go : Nat) : overT (overL gs ge go) 0 = false := by kernel_rfl
end Go.Proofs.YtiknjkgioiknnaaDoor
