/- The law's own fork of three sections; rows of numbers held against one another. -/
import Derived.Test.YtiknjkgioiknnaaDoorQRnkG
import Derived.Deep.CutRange
namespace Go.Proofs.YtiknjkgioiknnaaDoor
open Go.RowKit Go.Shelf
set_option linter.unusedVariables false
set_option linter.unusedSimpArgs false
set_option maxRecDepth 100000

def fork12 (gs : Nat) : Lay := ⟨[⟨2, -1, 0, 1, 0, 2, 0, -1, 0, 0, 2⟩, ⟨1, 0, 1, -1, 0, -1, 0, -1, 0, 0, 0⟩, ⟨1, 0, 2, -1, 0, -1, 0, -1, 0, 0, 0⟩], some ⟨gs, 0, none⟩, 3, [], none, 0, [], none, 0, [], none, 0, 1, 1, 1, 1, 1, 1, 1⟩
theorem fork_lies {gs : Nat} {w : World} (h : Whole w gs 73 ((fork12 gs).secs.flatMap Sec.cells)) : Lies (fork12 gs) w :=
  ⟨h.row h.lt, Row.nil _ _ _, Row.nil _ _ _, Row.nil _ _ _, (fun x hx => by simp [fork12] at hx), (fun x hx => by simp [fork12] at hx; rcases hx with rfl | rfl | rfl <;> simp), by simp [fork12], by simp [fork12], by simp [fork12], by simp [fork12], (fun x hx => by simp [fork12] at hx)⟩
theorem fork_rowA (gs : Nat) : rowV (fork12 gs) [(0, 0, 1), (1, 0, 1)] = [0, 2, 0] := by kernel_rfl
theorem fork_rowB (gs : Nat) : rowV (fork12 gs) [(0, 0, 2)] = [2, 1, 1] := by kernel_rfl
theorem fork_rowZ (gs : Nat) : rowV (fork12 gs) [] = [0, 0] := by kernel_rfl
theorem srt_pairwise {lt : Nat → Nat → Bool} {d : List Nat} (h : Srt lt d 0 d.length) : d.Pairwise (LL lt) := by
  rw [List.pairwise_iff_getElem]
  intro i j hi hj hij
  have := h i j (Nat.zero_le _) hij hj
  rw [at_lt hi, at_lt hj] at this
  exact this
theorem fork_sorted {d : List Nat} (hp : d.Perm (List.range 3)) (hs : Srt (ltOf12 (cvOf [[2, 1, 1], [0, 2, 0], [0, 0]])) d 0 3) : d = [2, 1, 0] := by
  have O : Ord12 (ltOf12 (cvOf [[2, 1, 1], [0, 2, 0], [0, 0]])) := ord_rows _
  have hl : d.length = 3 := by rw [hp.length_eq, List.length_range]
  refine List.Perm.eq_of_pairwise (le := LL (ltOf12 (cvOf [[2, 1, 1], [0, 2, 0], [0, 0]]))) (fun a b _ _ h1 h2 => (LL.irrefl O (LL.trans O h1 h2)).elim) (srt_pairwise (by rw [hl]; exact hs)) ?_ (hp.trans (by decide))
  refine List.pairwise_cons.2 ⟨fun x hx => ?_, List.pairwise_cons.2 ⟨fun x hx => ?_, List.pairwise_singleton _ _⟩⟩
  · simp only [List.mem_cons, List.not_mem_nil, or_false] at hx
    rcases hx with rfl | rfl
    · exact .inl (by decide)
    · exact .inl (by decide)
  · obtain rfl : x = 0 := by simpa using hx
    exact .inl (by decide)
theorem fork_least {r : Int} (h : IsLeast (ltOf12 (cvOf [[2, 1, 1], [0, 2, 0]])) 2 r) : r = 1 := by
  have O : Ord12 (ltOf12 (cvOf [[2, 1, 1], [0, 2, 0]])) := ord_rows _
  rcases h with ⟨h, _⟩ | ⟨a, rfl, ha, h⟩
  · omega
  · rcases (by omega : a = 0 ∨ a = 1) with rfl | rfl
    · have h1 : LL (ltOf12 (cvOf [[2, 1, 1], [0, 2, 0]])) 1 0 := .inl (by decide)
      exact (LL.irrefl O (LL.trans O h1 (h 1 (by omega) (by omega)))).elim
    · rfl
set_option maxRecDepth 100000 in
set_option maxHeartbeats 32000000 in
theorem fork_any (w : World) : Calls Tryd.prog 18 #[] w fun e w' => ∃ gs, e = .returned (fork12 gs).val ∧ Whole w' gs 73 ((fork12 gs).secs.flatMap Sec.cells) ∧ Below w.heap.size w w' := by
  go_enter Tryd.func18, Tryd.ntmps18
  go_wp2_with fail
  have hW := fun (o1 o2 o3 : Obj) => (((Whole.new w 29 [.slice (some ⟨w.heap.size + 1 + 1 + 1, 0, none⟩) 3 3, .slice none 0 0, .slice none 0 0, .slice none 0 0, .int .i64 1, .int .i64 1, .int .i64 1, .int .i64 1, .int .i64 1, .int .i64 1, .int .i64 1]).alloc o1).alloc o2).alloc o3
  have e0 := fun o1 o2 o3 => (hW o1 o2 o3).cell_at 0 rfl
  have e1 := fun o1 o2 o3 => (hW o1 o2 o3).cell_at 1 rfl
  have e2 := fun o1 o2 o3 => (hW o1 o2 o3).cell_at 2 rfl
  have e3 := fun o1 o2 o3 => (hW o1 o2 o3).cell_at 3 rfl
  have e4 := fun o1 o2 o3 => (hW o1 o2 o3).cell_at 4 rfl
  have e5 := fun o1 o2 o3 => (hW o1 o2 o3).cell_at 5 rfl
  have e6 := fun o1 o2 o3 => (hW o1 o2 o3).cell_at 6 rfl
  have e7 := fun o1 o2 o3 => (hW o1 o2 o3).cell_at 7 rfl
  have e8 := fun o1 o2 o3 => (hW o1 o2 o3).cell_at 8 rfl
  have e9 := fun o1 o2 o3 => (hW o1 o2 o3).cell_at 9 rfl
  have e10 := fun o1 o2 o3 => (hW o1 o2 o3).cell_at 10 rfl
  clear hW
  refine bodyPost_ret (v := (fork12 (w.heap.size + 1 + 1 + 1)).val) ?_ rfl ⟨_, rfl, Whole.new_at _ _ [_, _, _, _, _, _, _, _, _, _, _, _, _, _, _, _, _, _, _, _, _, _, _, _, _, _, _, _, _, _, _, _, _] _ (by simp), (below3 w _ _ _).alloc (by simp; omega) _⟩
  simp [results, Tryd.f18, go_sem, fork12, e0, e1, e2, e3, e4, e5, e6, e7, e8, e9, e10]
theorem take_all_eq {xs ys : List Int} (hl : xs.length = ys.length) (h : xs.take xs.length = ys.take xs.length) : xs = ys := by
  rw [List.take_length, hl, List.take_length] at h
  exact h
set_option maxRecDepth 100000 in
set_option maxHeartbeats 32000000 in
theorem ints_any {xs ys : List Int} {A B : Option Addr} (ca cb : Nat) {w : World} (hA : Row w w.heap.size A (nums .i64 xs)) (hB : Row w w.heap.size B (nums .i64 ys)) (hx : xs.length ≤ 1099511627776) (hy : ys.length ≤ 1099511627776) {r : Bool} (hr : decide (xs = ys) = r) :
    Calls Tryd.prog 19 #[.slice A xs.length ca, .slice B ys.length cb] w fun e w' => e = .returned (.bool r) ∧ Below w.heap.size w w' := by
  have HA := Lib.hid hA
  have HB := Lib.hid hB
  have HR := Lib.hid hr
  clear hA hB hr
  by_cases hl : xs.length = ys.length
  rotate_left
  · have HF : Hid (false = r) := Lib.hid (by rw [← HR.out, decide_eq_false (fun e => hl (by rw [e]))])
    have hne : ((xs.length : Int) != (ys.length : Int)) = true := by rw [bne_iff_ne]; omega
    have hB0 := Lib.hid (Below.refl w.heap.size w)
    clear hl
    go_enter Tryd.func19, Tryd.ntmps19
    go_wp2_with fail
    go_ret
    exact ⟨ret_bool HF.out, hB0.out⟩
  have HL := Lib.hid hl
  have hne : ((xs.length : Int) != (ys.length : Int)) = false := by rw [bne_eq_false_iff_eq]; omega
  have hlz : (xs.length : Int) = (ys.length : Int) := by omega
  have HLZ := Lib.hid hlz
  clear hl hlz
  go_enter Tryd.func19, Tryd.ntmps19
  go_wp2_with fail
  clear hne
  go_loopw [5] (fun vi wr => ∃ j : Nat, vi = .int .i64 j ∧ j ≤ xs.length ∧ Below w.heap.size w wr ∧ Hid (xs.take j = ys.take j))
    (fun vi _ => xs.length - (intOf vi).toNat)
  case atStart => exact ⟨0, rfl, Nat.zero_le _, Below.refl _ _, Lib.hid rfl⟩
  case round =>
    obtain ⟨k, rfl, hk, hB, HT⟩ := hrel
    by_cases hlt : k < xs.length
    · have h3 : (k : Int) < (xs.length : Int) := by omega
      have h4 : (k : Int) < (ys.length : Int) := by have := HLZ.out; omega
      have h4' : k < ys.length := by omega
      obtain ⟨b1, o1, rfl, hb1, _⟩ := (HA.out.on hB).num hlt
      obtain ⟨b2, o2, rfl, hb2, _⟩ := (HB.out.on hB).num h4'
      obtain ⟨x, hxv⟩ : ∃ x, xs[k]? = some x := ⟨_, List.getElem?_eq_getElem hlt⟩
      obtain ⟨y, hyv⟩ : ∃ y, ys[k]? = some y := ⟨_, List.getElem?_eq_getElem h4'⟩
      have HC0 : Hid (∀ W, Below w.heap.size w W → W.cell? ⟨b1, o1 + k, none⟩ = some (.int .i64 x)) := Lib.hid fun W hW => by
        obtain ⟨b, o, e, _, hc⟩ := (HA.out.on hW).num hlt
        cases e
        rw [hxv] at hc
        exact hc
      have HC1 : Hid (∀ W, Below w.heap.size w W → W.cell? ⟨b2, o2 + k, none⟩ = some (.int .i64 y)) := Lib.hid fun W hW => by
        obtain ⟨b, o, e, _, hc⟩ := (HB.out.on hW).num h4'
        cases e
        rw [hyv] at hc
        exact hc
      obtain ⟨Q, HQ, HQb, hq⟩ : ∃ Q : World → Prop, Hid (Closed Q) ∧ Hid (∀ W, Q W → Below w.heap.size w W) ∧ Q wr := ⟨fun W => Below w.heap.size w W, Lib.hid (Closed.below w), Lib.hid fun _ h => h, hB⟩
      clear hB
      have HXY := Lib.hid (And.intro hxv hyv)
      have hwi : IntKind.i64.wrap ((k : Int) + 1) = (k : Int) + 1 := IntWalk.i64_in _ (by omega)
      clear hxv hyv hb1 hb2
      obtain ⟨wk, rfl⟩ : ∃ W, W = wr := ⟨wr, rfl⟩
      by_cases hxy : x = y
      · subst hxy
        go_wp2_with fail
        have HBS : Hid (∀ W, Below wk.heap.size wk W → Q W) := Lib.hid (fun W hB => HQ.out _ _ hq hB)
        clear hq
        refine region_mix (Below wk.heap.size wk) [(0, false), (1, false), (2, false), (3, false), (4, false), (5, false), (6, false), (7, false), (8, false)] (by kernel_rfl) (by kernel_rfl) (Below wk.heap.size wk) ⟨Closed.below wk, fun _ h => h⟩ (Below.refl _ _).drew ?_
        simp only [pickOps, List.getElem?_cons_zero, List.getElem?_cons_succ]
        repeat (first | (refine mix_skip (by rfl) ?_; simp only [Act.put, List.setIfInBounds_toArray, List.set_cons_zero, List.set_cons_succ]) | (refine mix_read _ (by rfl) (fun W hW => by (have hW := HBS.out W hW; have c0 := HC0.out W (HQb.out W hW); have c1 := HC1.out W (HQb.out W hW); go_simp; first | done | with_reducible rfl)) ?_; simp only [Act.put, List.setIfInBounds_toArray, List.set_cons_zero, List.set_cons_succ]))
        refine mix_nil (fun W hW => ?_)
        have hq := HBS.out W hW
        clear hW HBS
        have HN : Hid (xs.take (k + 1) = ys.take (k + 1)) := Lib.hid (cmpR_take HXY.out.1 HXY.out.2 HT.out)
        go_wp2_with fail
        go_roundw
        case rel => exact ⟨k + 1, by go_num, hlt, HQb.out _ hq, HN⟩
        case measure => simp [intOf]; omega
      · have hxy' : (x != y) = true := by rw [bne_iff_ne]; exact hxy
        have HF : Hid (false = r) := Lib.hid (by
          rw [← HR.out, decide_eq_false]
          intro e
          have h1 := HXY.out.1
          rw [e, HXY.out.2] at h1
          exact hxy (Option.some.inj h1).symm)
        clear HT HA HB
        go_wp2_with fail
        have HBS : Hid (∀ W, Below wk.heap.size wk W → Q W) := Lib.hid (fun W hB => HQ.out _ _ hq hB)
        clear hq
        refine region_mix (Below wk.heap.size wk) [(0, false), (1, false), (2, false), (3, false), (4, false), (5, false), (6, false), (7, false), (8, false)] (by kernel_rfl) (by kernel_rfl) (Below wk.heap.size wk) ⟨Closed.below wk, fun _ h => h⟩ (Below.refl _ _).drew ?_
        simp only [pickOps, List.getElem?_cons_zero, List.getElem?_cons_succ]
        repeat (first | (refine mix_skip (by rfl) ?_; simp only [Act.put, List.setIfInBounds_toArray, List.set_cons_zero, List.set_cons_succ]) | (refine mix_read _ (by rfl) (fun W hW => by (have hW := HBS.out W hW; have c0 := HC0.out W (HQb.out W hW); have c1 := HC1.out W (HQb.out W hW); go_simp; first | done | with_reducible rfl)) ?_; simp only [Act.put, List.setIfInBounds_toArray, List.set_cons_zero, List.set_cons_succ]))
        refine mix_nil (fun W hW => ?_)
        have hq := HBS.out W hW
        clear hW HBS hxy hxy'
        go_wp2_with fail
        go_ret
        exact ⟨ret_bool HF.out, HQb.out _ hq⟩
    · obtain rfl : k = xs.length := by omega
      have HF : Hid (true = r) := Lib.hid (by rw [← HR.out, decide_eq_true (take_all_eq HL.out HT.out)])
      have HBB := Lib.hid hB
      go_wp2_with fail
      go_ret
      exact ⟨ret_bool HF.out, HBB.out⟩
end Go.Proofs.YtiknjkgioiknnaaDoor
