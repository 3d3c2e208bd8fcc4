/- The document's own layer 7: All. -/
import Derived.Test.YtaelcmamgcndmaaDoorQJoinH
import Derived.Test.YtaelcmamgcndmaaDoorQBfs
import Derived.Test.YtaelcmamgcndmaaDoorQJoinG
namespace Go.Proofs.YtaelcmamgcndmaaDoor
open Go.RowKit Go.Shelf
set_option linter.unusedVariables false
set_option linter.unusedSimpArgs false

/-- Marks, as a row of ones and noughts. -/
def marksI (f : Nat → Bool) (n : Nat) : List Int := (List.range n).map fun i => if f i = true then 1 else 0
theorem marksI_len (f : Nat → Bool) (n : Nat) : (marksI f n).length = n := by simp [marksI]
theorem marksI_at {f : Nat → Bool} {n i : Nat} (h : i < n) : (marksI f n)[i]? = some (if f i = true then 1 else 0) := by simp [marksI, h]
theorem marksI_next (f : Nat → Bool) (n : Nat) : marksI f (n + 1) = marksI f n ++ [if f n = true then 1 else 0] := by simp [marksI, List.range_succ]
theorem marksI_set (f : Nat → Bool) (n b : Nat) : (marksI f n).set b 1 = marksI (upd f b) n := by
  apply List.ext_getElem?
  intro i
  rw [List.getElem?_set]
  by_cases hi : i < n
  · by_cases hb : b = i
    · subst hb
      rw [if_pos rfl, if_pos (by rw [marksI_len]; exact hi), marksI_at hi, upd_same]
      rfl
    · rw [if_neg hb, marksI_at hi, marksI_at hi]
      have : upd f b i = f i := if_neg (fun e => hb e.symm)
      rw [this]
  · have h1 : (marksI f n)[i]? = none := List.getElem?_eq_none (by rw [marksI_len]; omega)
    have h2 : (marksI (upd f b) n)[i]? = none := List.getElem?_eq_none (by rw [marksI_len]; omega)
    rw [h1, h2]
    split
    · rename_i h; subst h; rw [if_neg (by rw [marksI_len]; exact hi)]
    · rfl
theorem nums_set (zs : List Int) (b : Nat) (x : Int) : (nums .i64 zs).set b (.int .i64 x) = nums .i64 (zs.set b x) := by simp [nums, List.map_set]
theorem ones_iff (f : Nat → Bool) (i : Nat) : ((if f i = true then (1 : Int) else 0) == 1) = f i := by cases f i <;> rfl
/-- The marks are the row of the call's own, in a block with room. -/
structure Mk (w : World) (g cap : Nat) (f : Nat → Bool) (n : Nat) (W : World) : Prop where
  below : Below w.heap.size w W
  blk : ∃ cur : List Value, Whole W g 3 cur ∧ cur.length = cap ∧ n ≤ cap ∧ cur.take n = nums .i64 (marksI f n)
theorem Mk.at {w : World} {g cap n : Nat} {f : Nat → Bool} {W : World} (h : Mk w g cap f n W) {i : Nat} (hi : i < n) : W.cell? ⟨g, i, none⟩ = some (.int .i64 (if f i = true then 1 else 0)) ∧ W.frozen? ⟨g, i, none⟩ = false := by
  obtain ⟨cur, h1, h2, h3, h4⟩ := h.blk
  refine ⟨?_, h1.frozen i⟩
  rw [h1.cell i, ← List.getElem?_take_of_lt hi, h4]
  simp [nums, marksI_at hi]
theorem Mk.grown {w : World} {g cap n : Nat} {f : Nat → Bool} {W W' : World} (h : Mk w g cap f n W) (hB : Below W.heap.size W W') : Mk w g cap f n W' :=
  ⟨h.1.trans (hB.mono h.1.size), let ⟨cur, h1, h2⟩ := h.2; ⟨cur, h1.below hB h1.lt, h2⟩⟩
theorem Mk.mark {w : World} {g cap n : Nat} {f : Nat → Bool} {W : World} (h : Mk w g cap f n W) (hg : w.heap.size ≤ g) (b : Nat) : Mk w g cap (upd f b) n (W.setCell ⟨g, b, none⟩ (.int .i64 1)) := by
  obtain ⟨h0, cur, h1, h2, h3, h4⟩ := h
  refine ⟨h0.setCell (p := ⟨g, b, none⟩) hg _, cur.set b (.int .i64 1), h1.set b _, by simp [h2], h3, ?_⟩
  rw [List.take_set, h4, nums_set, marksI_set]
theorem Mk.append {w : World} {g cap n : Nat} {f : Nat → Bool} {W : World} (h : Mk w g cap f n W) (hg : w.heap.size ≤ g) {v : Value} {zs : List Int} (hown : W.ownsRow w.heap.size 3 1 v zs.length (nums .i64 zs)) (hv : ∀ b, v.ownBlock = some b → b ≠ g) (m : Int) (hn : zs.length ≤ 1000) :
    ∃ v' W3, (Builtin.append_ #[41, 41] 41 #[v, .slice (some ⟨W.heap.size, 0, none⟩) 1 1]).run Tryd.prog (W.alloc (.cells #[.int .i64 m] 3)) = .ok v' W3 ∧ Mk w g cap f n W3 ∧ W3.ownsRow w.heap.size 3 1 v' (zs ++ [m]).length (nums .i64 (zs ++ [m])) ∧ ∀ b, v'.ownBlock = some b → b ≠ g := by
  obtain ⟨h0, cur, h1, h2⟩ := h
  have hb := below1 W (.cells #[.int .i64 m] 3)
  have hs := h0.size
  obtain ⟨v', W3, hrun, hown', hgr, hBl, hblk⟩ := append_int2 w.heap.size zs.length v (nums .i64 zs) m (W.alloc (.cells #[.int .i64 m] 3)) W.heap.size (ownsV_keep hown hb) ((Whole.new W _ [_]).cell_at 0 rfl) hn (by simp; omega)
  refine ⟨v', W3, hrun, ⟨h0.trans ((hb.mono hs).trans hBl), cur, ?_, h2⟩, by rw [List.length_append]; simpa [nums] using hown', fun b hb' e => ?_⟩
  · exact (hgr.block g (by simp; have := h1.lt; omega) (fun e => hv g e.symm rfl)).trans (h1.alloc _)
  · subst e
    rcases hblk with e | e
    · exact hv b (e ▸ hb') rfl
    · rw [hb'] at e
      have := h1.lt
      have := Option.some.inj e
      simp at this
      omega
theorem upd_start (s : Nat) : upd (fun _ => false) s = fun i => i == s := by funext i; unfold upd; by_cases h : i = s <;> simp [h]
theorem rounds_all {near : Nat → Nat → Bool} {n s : Nat} {f : Nat → Bool} (h : Rounds near n s n f) : pick f n = allOf near n s := (allOf_eq h.1 h.shut h.2.1).symm
theorem not_has {l : Lay} {s : Int} (h : hasSec l s = false) : s < 0 ∨ (0 ≤ s ∧ (l.secs.length : Int) ≤ s) := by
  unfold hasSec at h
  simp at h
  by_cases h0 : s < 0
  · exact .inl h0
  · exact .inr ⟨by omega, h (by omega)⟩

set_option maxRecDepth 100000 in
set_option maxHeartbeats 8000000 in
theorem allR_any {l : Lay} {w : World} (hL : Lies l w) (hn : l.secs.length ≤ 100) (s : Int) :
    Calls Tryd.prog 22 #[l.val, .int .i64 s] w fun e w' => ∃ v, e = .returned v ∧ w'.ownsRow w.heap.size 3 1 v (allL l s).length (nums .i64 (allL l s)) ∧ Below w.heap.size w w' := by
  obtain ⟨Q, HQ, HQp, HQl, hq⟩ := keep_box (P := fun W => Below w.heap.size w W) (Closed.below w) (Below.refl _ _) 29 l.cells
  have HLi := Lib.hid (fun W hW => Lies.closed l _ _ hL (HQp.out W hW))
  have HN := Lib.hid (fun (W : World) (hW : Q W) (a b : Nat) (r : Bool) (hr : nearV l a b = r) => nearJ_B (w := W) (HLi.out W hW) a b hr)
  obtain ⟨hb, hhb⟩ : ∃ b, hasSec l s = b := ⟨_, rfl⟩
  clear hL
  have x0 := (HQl.out _ hq).cell_at 0 rfl
  cases hb
  · have HE : Hid (allL l s = []) := Lib.hid (by unfold allL; rw [hhb]; rfl)
    have hcase := not_has hhb
    have hp := HQp.out _ hq
    clear hhb
    go_enter Tryd.func22, Tryd.ntmps22
    rcases hcase with h0 | ⟨h0, h1⟩
    · go_wp2_with fail
      go_ret
      exact ⟨_, rfl, by rw [HE.out]; exact World.ownsRow_nil _ _ _ _, hp⟩
    · have h0' : ¬ s < 0 := by omega
      go_wp2_with fail
      go_ret
      exact ⟨_, rfl, by rw [HE.out]; exact World.ownsRow_nil _ _ _ _, hp⟩
  have hsn : 0 ≤ s ∧ s < (l.secs.length : Int) := by unfold hasSec at hhb; simp at hhb; exact hhb
  obtain ⟨sn, rfl⟩ : ∃ sn : Nat, s = sn := ⟨s.toNat, by omega⟩
  have hsl : sn < l.secs.length := by omega
  have HE : Hid (allL l sn = allOf (fun a b : Nat => nearV l a b) l.secs.length sn) := Lib.hid (by unfold allL; rw [hhb]; rfl)
  obtain ⟨W0, hW0⟩ : ∃ W0, w.alloc (.cells l.cells.toArray 29) = W0 := ⟨_, rfl⟩
  have hsz0 : W0.heap.size = w.heap.size + 1 := by rw [← hW0]; simp
  rw [hW0] at hq x0
  have HPW := Lib.hid (fun W (hB : Below W0.heap.size W0 W) => HQ.out _ _ hq hB)
  have HW0 := Lib.hid hW0
  clear hhb hW0 hq
  have hs0 : ¬ ((sn : Int) < 0) := by omega
  have hs1 : ¬ ((l.secs.length : Int) ≤ sn) := by omega
  go_enter Tryd.func22, Tryd.ntmps22
  go_wp2_with fail
  try rw [HW0.out]
  clear x0
  go_loopw [5, 6] (fun v i wr => ∃ j : Nat, j ≤ l.secs.length ∧ i = .int .i64 (j : Int) ∧ wr.ownsRow W0.heap.size 3 1 v j (nums .i64 (List.replicate j 0)) ∧ Below W0.heap.size W0 wr)
    (fun _ i _ => l.secs.length - (intOf i).toNat)
  case atStart => exact ⟨0, by omega, rfl, World.ownsRow_nil _ _ _ _, Below.refl _ _⟩
  case round =>
    obtain ⟨j, hj, rfl, hown, hB⟩ := hrel
    have hq := HPW.out _ hB
    have x0 := (HQl.out _ hq).cell_at 0 rfl
    have hsw := hB.size
    by_cases hlt : j < l.secs.length
    · have hlt' : (j : Int) < l.secs.length := by omega
      obtain ⟨v', w3, hrun, hown', hgr, hB3⟩ := append_int W0.heap.size _ _ _ 0 (wr.alloc (.cells #[.int .i64 0] 3)) wr.heap.size (ownsV_keep hown (below1 _ _)) ((Whole.new wr _ [_]).cell_at 0 rfl) (Nat.le_trans hj (Nat.le_trans hn (by decide))) (by simp; omega)
      have HO := Lib.hid hown'
      clear hown' hown
      go_wp2_with (at_builtin; refine list_append rfl (.tmp 28) (.tmp 29) 41 rfl hrun ?_)
      go_roundw
      case rel => exact ⟨j + 1, hlt, by go_num, by rw [List.replicate_succ']; simpa [nums] using HO.out, hB.trans (((below1 wr _).mono hsw).trans hB3)⟩
      case measure => simp [intOf]; omega
    · obtain rfl : j = l.secs.length := by omega
      obtain ⟨g, cap, rfl, hMk, hg0⟩ : ∃ g cap, u5 = .slice (some ⟨g, 0, none⟩) l.secs.length cap ∧ Mk W0 g cap (fun _ => false) l.secs.length wr ∧ W0.heap.size ≤ g := by
        rcases hown.2 with ⟨e, e0⟩ | ⟨g, cap, cur, rfl, h1, h2, h3, h4, h5, h6⟩
        · omega
        · refine ⟨g, cap, rfl, ⟨hB, cur.toList, by simpa [Whole] using h2, by simpa using h5, h3, ?_⟩, h1⟩
          rw [Nat.mul_one] at h6
          rw [h6]
          congr 1
          apply List.ext_getElem <;> simp [marksI]
      obtain ⟨y0, f0⟩ := hMk.at hsl
      have hsl' : (sn : Int) < l.secs.length := by omega
      have hM1 := hMk.mark hg0 sn
      rw [upd_start] at hM1
      have HR0 := Lib.hid (Rounds.start (near := (fun a b : Nat => nearV l a b)) hsl)
      have HM1 := Lib.hid hM1
      have HG0 := Lib.hid hg0
      clear hown hM1 hMk hB hs0 hs1 hg0 hq hsw
      go_wp2_with fail
      go_loopw [7] (fun i wr => ∃ (k : Nat) (f : Nat → Bool), k ≤ l.secs.length ∧ i = .int .i64 (k : Int) ∧ Mk W0 g cap f l.secs.length wr ∧ Hid (Rounds (fun a b : Nat => nearV l a b) l.secs.length sn k f))
        (fun i _ => l.secs.length - (intOf i).toNat)
      case atStart => exact ⟨0, _, by omega, rfl, HM1.out, HR0⟩
      case round =>
        clear HM1 HR0 y0 f0 x0
        obtain ⟨k, f, hk, rfl, hMk, HRo⟩ := hrel
        have x0 := (HQl.out _ (HPW.out _ hMk.below)).cell_at 0 rfl
        by_cases hkl : k < l.secs.length
        · have hkl' : (k : Int) < l.secs.length := by omega
          go_wp2_with fail
          clear x0
          go_loopw [8] (fun i wr => ∃ (a : Nat) (h : Nat → Bool), a ≤ l.secs.length ∧ i = .int .i64 (a : Int) ∧ Mk W0 g cap h l.secs.length wr ∧ Hid (Round (fun a b : Nat => nearV l a b) l.secs.length sn f h) ∧ Hid (∀ a' b : Nat, a' < a → b < l.secs.length → f a' = true → nearV l a' b = true → h b = true))
            (fun i _ => l.secs.length - (intOf i).toNat)
          case atStart => exact ⟨0, f, by omega, rfl, hMk, Lib.hid ⟨fun _ h => h, HRo.out.2.1⟩, Lib.hid fun a' b h => absurd h (Nat.not_lt_zero _)⟩
          case round =>
            clear hMk
            obtain ⟨a, h, ha, rfl, hMk, HRd, HDn⟩ := hrel
            have x0 := (HQl.out _ (HPW.out _ hMk.below)).cell_at 0 rfl
            by_cases hal : a < l.secs.length
            · have hal' : (a : Int) < l.secs.length := by omega
              go_wp2_with fail
              clear x0
              go_loopw [9] (fun i wr => ∃ (b : Nat) (h : Nat → Bool), b ≤ l.secs.length ∧ i = .int .i64 (b : Int) ∧ Mk W0 g cap h l.secs.length wr ∧ Hid (Round (fun a b : Nat => nearV l a b) l.secs.length sn f h) ∧ Hid (∀ a' b : Nat, a' < a → b < l.secs.length → f a' = true → nearV l a' b = true → h b = true) ∧ Hid (∀ b' : Nat, b' < b → nearV l a b' = true → h b' = true))
                (fun i _ => l.secs.length - (intOf i).toNat)
              case atStart => exact ⟨0, h, by omega, rfl, hMk, HRd, HDn, Lib.hid fun b' hb' => absurd hb' (Nat.not_lt_zero _)⟩
              case round =>
                clear hMk HRd HDn
                obtain ⟨b, h, hb, rfl, hMk, HRd, HDn, HDb⟩ := hrel
                have x0 := (HQl.out _ (HPW.out _ hMk.below)).cell_at 0 rfl
                obtain ⟨ya, _⟩ := hMk.at hal
                by_cases hbl : b < l.secs.length
                · have hbl' : (b : Int) < l.secs.length := by omega
                  cases hha : h a
                  · rw [hha] at ya
                    have HN2 : Hid (∀ a' b : Nat, a' < a + 1 → b < l.secs.length → f a' = true → nearV l a' b = true → h b = true) := Lib.hid fun a' b' ha' hb' hf hnr => by
                      by_cases e : a' < a
                      · exact HDn.out a' b' e hb' hf hnr
                      · have : a' = a := by omega
                        subst this
                        have := HRd.out.up a' hf
                        rw [hha] at this
                        cases this
                    simp only [Bool.false_eq_true, if_false] at ya
                    clear hha
                    go_wp2_with fail
                    go_roundw
                    case rel => exact ⟨a + 1, h, hal, by go_num, hMk, HRd, HN2⟩
                    case measure => simp [intOf]; omega
                  · rw [hha, if_pos rfl] at ya
                    have HHA := Lib.hid hha
                    clear hha
                    cases hnv : nearV l a b
                    · have KN := Lib.hid (HN.out wr (HPW.out _ hMk.below) a b false hnv)
                      have HDb2 : Hid (∀ b' : Nat, b' < b + 1 → nearV l a b' = true → h b' = true) := Lib.hid fun b' hb' hnr => by
                        by_cases e : b' < b
                        · exact HDb.out b' e hnr
                        · have : b' = b := by omega
                          subst this
                          rw [hnv] at hnr
                          cases hnr
                      have HQx := Lib.hid (HQl.out _ (HPW.out _ hMk.below))
                      clear hnv
                      have m0 := HQx.out
                      have x0 := m0.cell_at 0 rfl
                      have x1 := m0.cell_at 1 rfl
                      have x2 := m0.cell_at 2 rfl
                      have x3 := m0.cell_at 3 rfl
                      have x4 := m0.cell_at 4 rfl
                      have x5 := m0.cell_at 5 rfl
                      have x6 := m0.cell_at 6 rfl
                      have x7 := m0.cell_at 7 rfl
                      have x8 := m0.cell_at 8 rfl
                      have x9 := m0.cell_at 9 rfl
                      have x10 := m0.cell_at 10 rfl
                      clear m0
                      go_wp2_with fail
                      refine KN.out.mono ?_
                      clear x0 x1 x2 x3 x4 x5 x6 x7 x8 x9 x10 ya KN
                      rintro e w2 ⟨rfl, hB2⟩
                      go_wp2_with fail
                      go_roundw
                      case rel => exact ⟨b + 1, h, hbl, by go_num, hMk.grown hB2, HRd, HDn, HDb2⟩
                      case measure => simp [intOf]; omega
                    · have KN := Lib.hid (HN.out wr (HPW.out _ hMk.below) a b true hnv)
                      have HDb2 : Hid (∀ b' : Nat, b' < b + 1 → nearV l a b' = true → upd h b b' = true) := Lib.hid fun b' hb' hnr => by
                        by_cases e : b' < b
                        · exact upd_up (HDb.out b' e hnr)
                        · have : b' = b := by omega
                          subst this
                          exact upd_same _ _
                      have HDn2 : Hid (∀ a' b' : Nat, a' < a → b' < l.secs.length → f a' = true → nearV l a' b' = true → upd h b b' = true) := Lib.hid fun a' b' h1 h2 h3 h4 => upd_up (HDn.out a' b' h1 h2 h3 h4)
                      have HRd2 : Hid (Round (fun a b : Nat => nearV l a b) l.secs.length sn f (upd h b)) := Lib.hid ⟨fun i hi => upd_up (HRd.out.up i hi), fun i hi => by
                        rcases upd_iff.1 hi with e | hi
                        · subst e; exact (HRd.out.reach a HHA.out).next hal hbl hnv
                        · exact HRd.out.reach i hi⟩
                      have HQx := Lib.hid (HQl.out _ (HPW.out _ hMk.below))
                      clear hnv
                      have m0 := HQx.out
                      have x0 := m0.cell_at 0 rfl
                      have x1 := m0.cell_at 1 rfl
                      have x2 := m0.cell_at 2 rfl
                      have x3 := m0.cell_at 3 rfl
                      have x4 := m0.cell_at 4 rfl
                      have x5 := m0.cell_at 5 rfl
                      have x6 := m0.cell_at 6 rfl
                      have x7 := m0.cell_at 7 rfl
                      have x8 := m0.cell_at 8 rfl
                      have x9 := m0.cell_at 9 rfl
                      have x10 := m0.cell_at 10 rfl
                      clear m0
                      go_wp2_with fail
                      refine KN.out.mono ?_
                      clear x0 x1 x2 x3 x4 x5 x6 x7 x8 x9 x10 ya KN
                      rintro e w2 ⟨rfl, hB2⟩
                      have hMk2 := hMk.grown hB2
                      obtain ⟨yb, fb⟩ := hMk2.at hbl
                      have HM3 := Lib.hid (hMk2.mark HG0.out b)
                      clear hMk hMk2
                      go_wp2_with fail
                      go_roundw
                      case rel => exact ⟨b + 1, upd h b, hbl, by go_num, HM3.out, HRd2, HDn2, HDb2⟩
                      case measure => simp [intOf]; omega
                · obtain rfl : b = l.secs.length := by omega
                  have HN2 : Hid (∀ a' b : Nat, a' < a + 1 → b < l.secs.length → f a' = true → nearV l a' b = true → h b = true) := Lib.hid fun a' b' ha' hb' hf hnr => by
                    by_cases e : a' < a
                    · exact HDn.out a' b' e hb' hf hnr
                    · have : a' = a := by omega
                      subst this
                      exact HDb.out b' hb' hnr
                  clear ya
                  go_wp2_with fail
                  go_roundw
                  case rel => exact ⟨a + 1, h, hal, by go_num, hMk, HRd, HN2⟩
                  case measure => simp [intOf]; omega
            · obtain rfl : a = l.secs.length := by omega
              have HRn : Hid (Rounds (fun a b : Nat => nearV l a b) l.secs.length sn (k + 1) h) := Lib.hid (HRo.out.next HRd.out fun a b ha hb hf hnr => HDn.out a b ha hb hf hnr)
              go_wp2_with fail
              go_roundw
              case rel => exact ⟨k + 1, h, hkl, by go_num, hMk, HRn⟩
              case measure => simp [intOf]; omega
        · obtain rfl : k = l.secs.length := by omega
          have HFI : Hid (allL l sn = pick f l.secs.length) := Lib.hid (by rw [HE.out]; exact (rounds_all HRo.out).symm)
          go_wp2_with fail
          clear x0
          go_loopw [10, 11] (fun v i wr => ∃ j : Nat, j ≤ l.secs.length ∧ i = .int .i64 (j : Int) ∧ wr.ownsRow W0.heap.size 3 1 v (pick f j).length (nums .i64 (pick f j)) ∧ Mk W0 g cap f l.secs.length wr ∧ ∀ b, v.ownBlock = some b → b ≠ g)
            (fun _ i _ => l.secs.length - (intOf i).toNat)
          case atStart => exact ⟨0, by omega, rfl, World.ownsRow_nil _ _ _ _, hMk, fun b hb => by cases hb⟩
          case round =>
            clear hMk
            obtain ⟨j, hj, rfl, hown, hMk, hv⟩ := hrel
            by_cases hlt : j < l.secs.length
            · have hlt' : (j : Int) < l.secs.length := by omega
              obtain ⟨yj, _⟩ := hMk.at hlt
              cases hfj : f j
              · rw [hfj] at yj
                have HP : Hid (pick f (j + 1) = pick f j) := Lib.hid (pick_no hfj)
                simp only [Bool.false_eq_true, if_false] at yj
                clear hfj
                go_wp2_with fail
                go_roundw
                case rel => exact ⟨j + 1, hlt, by go_num, by rw [HP.out]; exact hown, hMk, hv⟩
                case measure => simp [intOf]; omega
              · rw [hfj, if_pos rfl] at yj
                have HP : Hid (pick f (j + 1) = pick f j ++ [(j : Int)]) := Lib.hid (pick_yes hfj)
                obtain ⟨v', w3, hrun, hMk3, hown3, hv3⟩ := hMk.append HG0.out hown hv (j : Int) (Nat.le_trans (pick_le f j) (Nat.le_trans hj (Nat.le_trans hn (by decide))))
                have HM3 := Lib.hid hMk3
                have HO3 := Lib.hid hown3
                have HV3 := Lib.hid hv3
                clear hfj hMk hown hv hMk3 hown3 hv3
                go_wp2_with (at_builtin; refine list_append rfl (.tmp 80) (.tmp 82) 41 rfl hrun ?_)
                go_roundw
                case rel => exact ⟨j + 1, hlt, by go_num, by rw [HP.out]; exact HO3.out, HM3.out, HV3.out⟩
                case measure => simp [intOf]; omega
            · obtain rfl : j = l.secs.length := by omega
              have HO : Hid (wr.ownsRow w.heap.size 3 1 u10 (allL l sn).length (nums .i64 (allL l sn)) ∧ Below w.heap.size w wr) := Lib.hid (by
                refine ⟨?_, HQp.out _ (HPW.out _ hMk.below)⟩
                rw [HFI.out]
                refine ⟨hown.1, ?_⟩
                rcases hown.2 with e | ⟨g', cap', cur', e, p1, r⟩
                · exact .inl e
                · exact .inr ⟨g', cap', cur', e, by omega, r⟩)
              clear hown hMk hv
              go_wp2_with fail
              go_ret
              exact ⟨_, rfl, HO.out.1, HO.out.2⟩
end Go.Proofs.YtaelcmamgcndmaaDoor
