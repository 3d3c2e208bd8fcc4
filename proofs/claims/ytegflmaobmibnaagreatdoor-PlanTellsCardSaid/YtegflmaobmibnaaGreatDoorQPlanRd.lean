/- The document's own reader of numbers. -/
import Derived.Test.YtegflmaobmibnaaGreatDoorQPlanE
import Derived.Test.YtegflmaobmibnaaGreatDoorQC
namespace Go.Proofs.YtegflmaobmibnaaGreatDoor
set_option maxRecDepth 100000
open Go.RowKit Go.Shelf
set_option linter.unusedVariables false
set_option linter.unusedSimpArgs false

/-- Where a reader stands: its place, or none once it is short. -/
structure Rd (r g c : Nat) (zs : List Int) (s : Option Nat) (w : World) : Prop where
  x : ∃ (p : Nat) (b : Bool), Whole w r 84 [.slice (some ⟨g, 0, none⟩) zs.length c, .int .i64 (8 * (zs.length : Int)), .int .i64 (p : Int), .bool b] ∧ p ≤ 8 * zs.length ∧ ((b = false ∧ s = some p) ∨ (b = true ∧ s = none))
  h : Hands w (some ⟨g, 0, none⟩) zs
  lg : g < w.heap.size
  ne : g ≠ r
theorem Rd.keep {r g c : Nat} {zs : List Int} {s : Option Nat} {w w' : World} (h : Rd r g c zs s w) (hb : Below w.heap.size w w') : Rd r g c zs s w' := by
  obtain ⟨⟨p, b, h1, h2⟩, h3, h4, h5⟩ := h
  exact ⟨⟨p, b, h1.below hb h1.lt, h2⟩, h3.on hb, Nat.lt_of_lt_of_le h4 hb.size, h5⟩
theorem takeR_at {w : World} {A : Option Addr} {zs : List Int} {l : List Bool} (hA : Are zs (8 * (zs.length : Int)) l) (hz : zs.length ≤ 2000) (hH : Hands w A zs) (c p k : Nat) (hk : k ≤ 32) (hp : p ≤ 8 * zs.length) :
    Calls Tryz.prog 112 #[.agg #[.slice A zs.length c, .int .i64 (8 * (zs.length : Int))], .int .i64 (p : Int), .int .i64 (k : Int)] w fun e w' => e = .returned (.tuple #[.int .i64 (if p + k ≤ l.length then numOf (bitsAt l p k) else 0), .int .i64 (if p + k ≤ l.length then 0 else 40)]) ∧ Below w.heap.size w w' := by
  have hl : l.length = 8 * zs.length := by have := hA.1; omega
  refine (takeR_all A c zs _ p k w (are_given hH hz) (by omega)).mono ?_
  rintro e w1 ⟨m, er, rfl, ht, hB⟩
  refine ⟨?_, hB⟩
  rcases ht with ⟨hbad, rfl, rfl⟩ | ⟨hw2, ha, l', hl', ⟨hs2, rfl, rfl⟩ | ⟨hs2, rfl, rfl⟩⟩
  · exfalso
    have h1 : wideB k = true := by unfold wideB; simp; omega
    simp [hA.right, h1] at hbad
  · rw [if_neg (by omega), if_neg (by omega)]
  · obtain rfl := hl'.inj hA
    rw [if_pos (by omega), if_pos (by omega)]
    rfl

set_option maxHeartbeats 8000000 in
theorem number_any {r g c : Nat} {zs : List Int} {l : List Bool} (hA : Are zs (8 * (zs.length : Int)) l) (hz : zs.length ≤ 2000) {K : Int} (k : Nat) (s : Option Nat) (w : World) (hK : K = (k : Int)) (hk : k ≤ 32) (h : Rd r g c zs s w) :
    Calls Tryz.prog 79 #[.pointer (some ⟨r, 0, none⟩), .int .i64 K] w fun e w' => ∃ (y : Int) (s' : Option Nat), e = .returned (.int .i64 y) ∧ Rd r g c zs s' w' ∧ After (numP k) l s y s' ∧ 0 ≤ y ∧ y < 2 ^ k ∧ Bq w.heap.size r w w' := by
  subst hK
  have hl : l.length = 8 * zs.length := by have := hA.1; omega
  have HL := Lib.hid hl
  obtain ⟨⟨p, b, hW, hp, hs⟩, hH, hlg, hne⟩ := h
  have HW := Lib.hid hW
  have HH := Lib.hid hH
  have HLG := Lib.hid hlg
  have HNE := Lib.hid hne
  have HP := Lib.hid hp
  have HS := Lib.hid hs
  have HBX : Hid (∀ W, Below w.heap.size w W → Whole W r 84 [.slice (some ⟨g, 0, none⟩) zs.length c, .int .i64 (8 * (zs.length : Int)), .int .i64 (p : Int), .bool b]) := Lib.hid (fun W h => HW.out.below h HW.out.lt)
  obtain ⟨m, hm⟩ : ∃ m, (if p + k ≤ l.length then numOf (bitsAt l p k) else 0) = m := ⟨_, rfl⟩
  obtain ⟨er, her⟩ : ∃ m : Int, (if p + k ≤ l.length then 0 else 40) = m := ⟨_, rfl⟩
  have K : Hid (∀ W, Below w.heap.size w W → Calls Tryz.prog 112 #[.agg #[.slice (some ⟨g, 0, none⟩) zs.length c, .int .i64 (8 * (zs.length : Int))], .int .i64 (p : Int), .int .i64 (k : Int)] W fun e w' => e = .returned (.tuple #[.int .i64 m, .int .i64 er]) ∧ Below W.heap.size W w') := Lib.hid (fun W h => by
    have hk' := takeR_at hA hz (HH.out.on h) c p k hk hp
    rw [hm, her] at hk'
    exact hk')
  have HM := Lib.hid hm
  have HE := Lib.hid her
  clear hm her hW hH hlg hne hp hs hl
  go_enter Tryz.func79, Tryz.ntmps79
  go_wp2_with fail
  refine region_mix (Below w.heap.size w) [(0, false), (1, false), (2, false), (3, false), (4, false), (5, false), (6, false), (7, false), (8, false), (9, false), (10, false), (11, false), (12, false), (13, false), (14, false)] (by kernel_rfl) (by kernel_rfl) (Below w.heap.size w) ⟨Closed.below w, fun _ h => h⟩ (Below.refl _ _).drew ?_
  simp only [pickOps, List.getElem?_cons_zero, List.getElem?_cons_succ]
  repeat (first | (refine mix_skip (by rfl) ?_; simp only [Act.put, List.setIfInBounds_toArray, List.set_cons_zero, List.set_cons_succ]) | (refine mix_read _ (by rfl) (fun W hW => by (have hx := HBX.out W hW; have x0 := hx.cell_at 0 rfl; have x1 := hx.cell_at 1 rfl; have x2 := hx.cell_at 2 rfl; have x3 := hx.cell_at 3 rfl; clear hx hW; go_simp; first | done | with_reducible rfl)) ?_; simp only [Act.put, List.setIfInBounds_toArray, List.set_cons_zero, List.set_cons_succ]) | (refine mix_call _ _ _ (by rfl) (fun W hW => by (have hx := HBX.out W hW; have x0 := hx.cell_at 0 rfl; have x1 := hx.cell_at 1 rfl; have x2 := hx.cell_at 2 rfl; have x3 := hx.cell_at 3 rfl; clear hx hW; go_simp; first | done | rfl)) (fun W hW => K.out W hW) ?_; simp only [Act.put, List.setIfInBounds_toArray, List.set_cons_zero, List.set_cons_succ]))
  refine mix_nil (fun W hW => ?_)
  have HB := Lib.hid hW
  have hx := HBX.out W hW
  have x2 := hx.cell_at 2 rfl
  have x3 := hx.cell_at 3 rfl
  have f2 := hx.frozen 2
  have f3 := hx.frozen 3
  have HX := Lib.hid hx
  have HHW := Lib.hid (HH.out.on hW)
  clear hx hW
  have hno : ∀ (hq : s = none ∨ ¬ p + k ≤ l.length), ∀ W', W' = W.setCell ⟨r, 3, none⟩ (.bool true) → ∃ (y : Int) (s' : Option Nat), Ending.returned (.int .i64 0) = .returned (.int .i64 y) ∧ Rd r g c zs s' W' ∧ After (numP k) l s y s' ∧ 0 ≤ y ∧ y < 2 ^ k ∧ Bq w.heap.size r w W' := fun hq W' hW' => by
    subst hW'
    refine ⟨0, none, rfl, ⟨⟨p, true, HX.out.set 3 _, HP.out, .inr ⟨rfl, rfl⟩⟩, HHW.out.far (p := ⟨r, 3, none⟩) (fun q hq => by cases hq; exact HNE.out) _, by have := HB.out.size; have := HLG.out; simp [World.setCell]; omega, HNE.out⟩, ?_, by omega, Int.pow_pos (by omega), (Bq.of HB.out).set (p := ⟨r, 3, none⟩) (.inr rfl) _⟩
    rcases HS.out with ⟨_, h2⟩ | ⟨_, h2⟩
    · rcases hq with h3 | h3
      · rw [h2] at h3; cases h3
      · rw [h2]; exact After.num_none h3 0
    · rw [h2]; exact After.none _ _ _
  have HNO := Lib.hid hno
  clear hno
  by_cases hk2 : p + k ≤ l.length
  · obtain rfl : m = _ := HM.out.symm
    obtain rfl : er = _ := HE.out.symm
    rw [if_pos hk2, if_pos hk2]
    cases b
    · have HSP : Hid (s = some p) := Lib.hid (by rcases HS.out with h | h; exact h.2; cases h.1)
      have hw : IntKind.i64.wrap ((p : Int) + (k : Int)) = ((p + k : Nat) : Int) := by rw [wrap_id _ (by omega) (by have := HL.out; omega)]; omega
      have hw2 : wrap64 ((p : Int) + (k : Int)) = ((p + k : Nat) : Int) := by unfold wrap64; have := HL.out; omega
      have HK2 := Lib.hid hk2
      clear hk2
      go_wp2_with fail
      go_ret
      have hB := HX.out.set 2 (.int .i64 ((p + k : Nat) : Int))
      have hn := numOf_lt l p k
      refine ⟨_, rfl, some (p + k), ⟨⟨p + k, false, hB, by have := HL.out; have := HK2.out; omega, .inl ⟨rfl, rfl⟩⟩, HHW.out.far (p := ⟨r, 2, none⟩) (fun q hq => by cases hq; exact HNE.out) _, by have := HB.out.size; have := HLG.out; simp [World.setCell]; omega, HNE.out⟩, ?_, ?_, ?_, (Bq.of HB.out).set (p := ⟨r, 2, none⟩) (.inr rfl) _⟩
      · rw [HSP.out]; exact After.num_some HK2.out
      · exact hn.1
      · exact hn.2
    · have HSP : Hid (s = none) := Lib.hid (by rcases HS.out with h | h; cases h.1; exact h.2)
      clear hk2
      go_wp2_with fail
      go_ret
      obtain ⟨y, s', h1, h2⟩ := HNO.out (.inl HSP.out) _ rfl
      exact ⟨y, h1, s', h2⟩
  · obtain rfl : m = _ := HM.out.symm
    obtain rfl : er = _ := HE.out.symm
    rw [if_neg hk2, if_neg hk2]
    have HK2 := Lib.hid hk2
    clear hk2
    go_wp2_with fail
    go_ret
    obtain ⟨y, s', h1, h2⟩ := HNO.out (.inr HK2.out) _ rfl
    exact ⟨y, h1, s', h2⟩
end Go.Proofs.YtegflmaobmibnaaGreatDoor
