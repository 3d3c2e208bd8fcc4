/- Package frame, and the document's own: the same; memory of its own. -/
import Derived.Test.YtgpofgepffhcnaaFrameA
import Derived.Test.YtgpofgepffhcnaaCrcS
namespace Go.Proofs.Ytgpofgepffhcnaa
open Go.RowKit Go.Shelf
set_option linter.unusedVariables false

set_option maxHeartbeats 1000000 in
theorem equal_any (A A' : Option Addr) (c c' : Nat) (zs zs' : List Int) (w : World) (h : Row w w.heap.size A (u8s zs)) (h' : Row w w.heap.size A' (u8s zs')) (hb : ∀ z ∈ zs, IsByte z) (hb' : ∀ z ∈ zs', IsByte z) :
    Calls Try.prog 29 #[.slice A zs.length c, .slice A' zs'.length c'] w fun e w' => e = .returned (.bool (sameB zs zs')) ∧ w = w' := by
  have r1 := text_run w 22 5 Try.underlying22 Try.underlying5 9 Try.underlying9 _ A zs c h
  have r2 := text_run w 22 5 Try.underlying22 Try.underlying5 9 Try.underlying9 _ A' zs' c' h'
  have hs := sameB_text zs zs' hb hb'
  go_enter Try.func29, Try.ntmps29
  go_wp2
  go_ret
  exact ⟨rfl, rfl⟩

set_option maxHeartbeats 1000000 in
theorem same_any (A A' : Option Addr) (c c' : Nat) (zs zs' : List Int) (w : World) (h : Row w w.heap.size A (u8s zs)) (h' : Row w w.heap.size A' (u8s zs')) (hb : ∀ z ∈ zs, IsByte z) (hb' : ∀ z ∈ zs', IsByte z) :
    Calls Try.prog 13 #[.slice A zs.length c, .slice A' zs'.length c'] w fun e w' => e = .returned (.bool (sameB zs zs')) ∧ w = w' := by
  have r1 := text_run w 22 5 Try.underlying22 Try.underlying5 9 Try.underlying9 _ A zs c h
  have r2 := text_run w 22 5 Try.underlying22 Try.underlying5 9 Try.underlying9 _ A' zs' c' h'
  have hs := sameB_text zs zs' hb hb'
  go_enter Try.func13, Try.ntmps13
  go_wp2
  go_ret
  exact ⟨rfl, rfl⟩

theorem sameF_no1 (k q k' q' : Int) (a b : List Int) (h : k ≠ k') : sameF k q k' q' a b = false := by unfold sameF; rw [decide_eq_false (fun e => h e.1)]; rfl
theorem sameF_no2 (k q q' : Int) (a b : List Int) (h : q ≠ q') : sameF k q k q' a b = false := by unfold sameF; rw [decide_eq_false (fun e => h e.2)]; rfl
theorem sameF_yes (k q : Int) (a b : List Int) : sameF k q k q a b = sameB a b := by unfold sameF; rw [decide_eq_true ⟨rfl, rfl⟩]; rfl

set_option maxHeartbeats 2000000 in
theorem sameF_any (k q k' q' : Int) (A A' : Option Addr) (c c' : Nat) (zs zs' : List Int) (w : World) (h : Row w w.heap.size A (u8s zs)) (h' : Row w w.heap.size A' (u8s zs')) (hb : ∀ z ∈ zs, IsByte z) (hb' : ∀ z ∈ zs', IsByte z) :
    Calls Try.prog 21 #[frV k q A zs.length c, frV k' q' A' zs'.length c'] w fun e w' => e = .returned (.bool (sameF k q k' q' zs zs')) ∧ Below w.heap.size w w' := by
  by_cases hk : k = k'
  · subst hk
    by_cases hq : q = q'
    · subst hq
      rw [sameF_yes]
      go_enter Try.func21, Try.ntmps21
      go_wp2_with fail
      refine (equal_any A A' c c' zs zs' _ (by exact h.on (below2 _ _ _)) (by exact h'.on (below2 _ _ _)) hb hb').mono ?_
      rintro e w' ⟨rfl, rfl⟩
      go_wp2_with fail
      go_ret
      exact ⟨rfl, below2 _ _ _⟩
    · rw [sameF_no2 _ _ _ _ _ hq]
      have c1 : (q == q') = false := by simpa using hq
      clear hq
      go_enter Try.func21, Try.ntmps21
      go_wp2_with fail
      go_ret
      exact ⟨rfl, below2 _ _ _⟩
  · rw [sameF_no1 _ _ _ _ _ _ hk]
    have c1 : (k == k') = false := by simpa using hk
    clear hk
    go_enter Try.func21, Try.ntmps21
    go_wp2_with fail
    go_ret
    exact ⟨rfl, below2 _ _ _⟩

set_option maxHeartbeats 2000000 in
theorem sameR_any (k q k' q' : Int) (A A' : Option Addr) (c c' : Nat) (zs zs' : List Int) (w : World) (h : Row w w.heap.size A (u8s zs)) (h' : Row w w.heap.size A' (u8s zs')) (hb : ∀ z ∈ zs, IsByte z) (hb' : ∀ z ∈ zs', IsByte z) :
    Calls Try.prog 14 #[frV k q A zs.length c, frV k' q' A' zs'.length c'] w fun e w' => e = .returned (.bool (sameF k q k' q' zs zs')) ∧ Below w.heap.size w w' := by
  by_cases hk : k = k'
  · subst hk
    by_cases hq : q = q'
    · subst hq
      rw [sameF_yes]
      have r1 := fun o o' => text_run ((w.alloc o).alloc o') 22 5 Try.underlying22 Try.underlying5 9 Try.underlying9 _ A zs c (h.on (below2 _ _ _))
      have r2 := fun o o' => text_run ((w.alloc o).alloc o') 22 5 Try.underlying22 Try.underlying5 9 Try.underlying9 _ A' zs' c' (h'.on (below2 _ _ _))
      have hs := sameB_text zs zs' hb hb'
      go_enter Try.func14, Try.ntmps14
      go_wp2_with fail
      go_ret
      exact ⟨rfl, below2 _ _ _⟩
    · rw [sameF_no2 _ _ _ _ _ hq]
      have c1 : (q == q') = false := by simpa using hq
      clear hq
      go_enter Try.func14, Try.ntmps14
      go_wp2_with fail
      go_ret
      exact ⟨rfl, below2 _ _ _⟩
  · rw [sameF_no1 _ _ _ _ _ _ hk]
    have c1 : (k == k') = false := by simpa using hk
    clear hk
    go_enter Try.func14, Try.ntmps14
    go_wp2_with fail
    go_ret
    exact ⟨rfl, below2 _ _ _⟩

/-- What lies elsewhere reads on behind a store. -/
theorem row_far {w : World} {B : Nat} {A : Option Addr} {vs : List Value} {p : Addr} (h : Row w B A vs) (hp : ∀ x, A = some x → x.block ≠ p.block) (u : Value) : Row (w.setCell p u) B A vs := fun hv => by
  obtain ⟨b, off, e, hb, hc⟩ := h hv
  refine ⟨b, off, e, hb, fun j v hj => ?_⟩
  have hne : b ≠ p.block := hp _ e
  exact (World.cell?_of_block (Below.heap_setCell w p u b hne)).trans (hc j v hj)
theorem row_set {w : World} {A : Option Addr} {vs : List Value} {p : Addr} (h : Row w w.heap.size A vs) (hp : ∀ x, A = some x → x.block ≠ p.block) (u : Value) : Row (w.setCell p u) (w.setCell p u).heap.size A vs := by
  have := row_far h hp u
  simpa [World.setCell] using this
theorem row_grow {w w' : World} {A : Option Addr} {vs : List Value} (h : Row w w.heap.size A vs) (hs : w.heap.size ≤ w'.heap.size) (hc : ∀ b o u, w.cell? ⟨b, o, none⟩ = some u → b < w.heap.size → w'.cell? ⟨b, o, none⟩ = some u) : Row w' w'.heap.size A vs := fun hv => by
  obtain ⟨b, off, e, hb, hcc⟩ := h hv
  exact ⟨b, off, e, by omega, fun j v hj => hc _ _ _ (hcc j v hj) hb⟩

set_option maxHeartbeats 1000000 in
theorem clone_all (A : Option Addr) (cap : Nat) (zs : List Int) (w : World) (hr : Row w w.heap.size A (u8s zs)) (hzl : zs.length ≤ 1099511627776) :
    Calls Try.prog 30 #[.slice A zs.length cap] w fun e w' => ∃ A' c', e = .returned (.slice A' zs.length c') ∧ Row w' w'.heap.size A' (u8s zs) ∧ Below w.heap.size w w' ∧ ∀ x, A' = some x → w.heap.size ≤ x.block := by
  cases A with
  | none =>
    have h0 : zs = [] := by
      cases zs with
      | nil => rfl
      | cons z zs => obtain ⟨_, _, e, _⟩ := hr (by simp [u8s]); cases e
    subst h0
    have hnil : ∀ W : World, (binOp .eql 22 (.slice none 0 cap) (.slice none 0 0)).run Try.prog W = .ok (.bool true) W := fun _ => rfl
    go_enter Try.func30, Try.ntmps30
    go_wp2_with fail
    go_ret
    exact ⟨none, 0, rfl, Row.nil _ _ _, Below.refl _ _, fun x h => by cases h⟩
  | some a =>
    obtain ⟨b, off, spot⟩ := a
    obtain ⟨g', c', w2, happ, hown, hB⟩ := append_empty (some ⟨b, off, spot⟩) cap zs w hr hzl
    have HA := Lib.hid happ
    clear happ
    have hnil : ∀ W : World, (binOp .eql 22 (.slice (some ⟨b, off, spot⟩) zs.length cap) (.slice none 0 0)).run Try.prog W = .ok (.bool false) W := fun _ => rfl
    go_enter Try.func30, Try.ntmps30
    go_wp2_with (at_builtin; refine list_append rfl (.tmp 5) (.tmp 6) 22 rfl HA.out ?_)
    go_ret
    exact ⟨_, _, rfl, owns_row hown (owns_lt hown).2, hB, fun x h => by cases h; exact (owns_lt hown).1⟩

set_option maxHeartbeats 1000000 in
theorem own_any (k q : Int) (A : Option Addr) (cap : Nat) (zs : List Int) (w : World) (hr : Row w w.heap.size A (u8s zs)) (hl : zs.length ≤ 1099511627776) :
    Calls Try.prog 22 #[frV k q A zs.length cap] w fun e w' =>
      ∃ A' c', e = .returned (frV k q A' zs.length c') ∧ Row w' w'.heap.size A' (u8s zs) ∧ Below w.heap.size w w' := by
  go_enter Try.func22, Try.ntmps22
  go_wp2_with fail
  refine (clone_all A cap zs _ (by exact hr.on (below2 _ _ _)) hl).mono ?_
  rintro e w1 ⟨A', c', rfl, hr1, hB, hf⟩
  have hbox := (((Whole.new w 24 [.int .u8 k, .int .u8 q, .slice A zs.length cap])).alloc (.cells #[.int .u8 0, .int .u8 0, .slice none 0 0] 24)).below hB (by first | (simp; omega) | simp)
  have hres := (Whole.new_at (w.alloc (.cells #[.int .u8 k, .int .u8 q, .slice A zs.length cap] 24)) 24 [.int .u8 0, .int .u8 0, .slice none 0 0] (w.heap.size + 1) (by simp)).below hB (by first | (simp; omega) | simp)
  have x0 := hbox.cell_at 0 rfl
  have x1 := hbox.cell_at 1 rfl
  have x2 := hbox.cell_at 2 rfl
  have fx2 := hbox.frozen 2
  have c0 := hres.cell_at 0 rfl
  have c1 := hres.cell_at 1 rfl
  have c2 := hres.cell_at 2 rfl
  have f0 := hres.frozen 0
  have f1 := hres.frozen 1
  have f2 := hres.frozen 2
  go_wp2_with fail
  refine bodyPost_ret (v := frV k q A' zs.length c') (by simp [results, Try.f22, go_sem, c0, c1, c2]) rfl ⟨_, _, rfl, ?_, ?_⟩
  · have hd : ∀ x, A' = some x → w.heap.size + 1 < x.block := fun x h => by have := hf x h; simp at this; omega
    exact row_set (row_set (row_set (row_set hr1 (fun x h => by have := hd x h; show x.block ≠ w.heap.size; omega) _) (fun x h => by have := hd x h; show x.block ≠ w.heap.size + 1; omega) _) (fun x h => by have := hd x h; show x.block ≠ w.heap.size + 1; omega) _) (fun x h => by have := hd x h; show x.block ≠ w.heap.size + 1; omega) _
  · exact ((((((below2 _ _ _).trans (hB.mono (by simp; omega))).setCell (p := ⟨w.heap.size, 2, none⟩) (Nat.le_refl _) _).setCell (p := ⟨w.heap.size + 1, 0, none⟩) (Nat.le_succ _) _).setCell (p := ⟨w.heap.size + 1, 1, none⟩) (Nat.le_succ _) _).setCell (p := ⟨w.heap.size + 1, 2, none⟩) (Nat.le_succ _) _)
end Go.Proofs.Ytgpofgepffhcnaa
