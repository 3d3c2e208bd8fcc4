/- The document's own section's bits. -/
import Derived.Test.YtegflmaobmibnaaGreatDoorQPlanRq
import Derived.Test.YtegflmaobmibnaaGreatDoorQB
import Derived.Test.YtegflmaobmibnaaGreatDoorQC
namespace Go.Proofs.YtegflmaobmibnaaGreatDoor
set_option maxRecDepth 100000
open Go.RowKit Go.Shelf
set_option linter.unusedVariables false
set_option linter.unusedSimpArgs false

theorem portsR8_B (k : Int) (w : World) : Calls Tryz.prog 71 #[.int .u8 k] w fun e w' => e = .returned (.int .i64 (pK k)) ∧ Below w.heap.size w w' :=
  portsR_P (P := fun W => Below w.heap.size w W) (shapeK k) (Below.refl _ _)
theorem waysR8_B (k : Int) (w : World) : Calls Tryz.prog 72 #[.int .u8 k] w fun e w' => e = .returned (.int .i64 (nK k)) ∧ Below w.heap.size w w' :=
  waysR_P (P := fun W => Below w.heap.size w W) (shapeK k) (Below.refl _ _)
theorem sec_room {l : List Bool} (hl : l.length ≤ 90000) (s : Sec) (j : Nat) : (l ++ bitsOf ((s.k, 2) :: (s.ports4.take j).flatMap numsJoin)).length ≤ 99000 := by
  have h1 := bits_flat numsJoin 8 (s.ports4.take j) (fun p _ => bits_join p)
  have h2 : (s.ports4.take j).length ≤ 4 := by rw [List.length_take]; show min _ 4 ≤ 4; omega
  have e : ((s.k, 2) :: (s.ports4.take j).flatMap numsJoin) = [(s.k, 2)] ++ (s.ports4.take j).flatMap numsJoin := rfl
  rw [e, bitsOf_append, List.length_append, List.length_append, bitsOf_one, first_length]
  omega

set_option maxHeartbeats 16000000 in
theorem sectionR8_any (A : Option Addr) (c : Nat) (zs : List Int) (N : Int) (l : List Bool) (s : Sec) (w : World) (hS : SecIs s) (hH : Hands w A zs) (hA : Are zs N l) (hl : l.length ≤ 90000) (hq : ∀ q, A = some q → q.block < w.heap.size) :
    Calls Tryz.prog 28 #[bitsV A zs.length c N, s.val] w (OutB w (l ++ bitsOf (numsSec s))) := by
  obtain ⟨n, hn⟩ : ∃ n, w.heap.size = n := ⟨_, rfl⟩
  obtain ⟨W0, hW0⟩ : ∃ W, ((w.alloc (.cells #[.slice A zs.length c, .int .i64 N] 54)).alloc (.cells s.cells.toArray 70)).alloc (.cells #[.slice none 0 0, .int .i64 0] 54) = W := ⟨_, rfl⟩
  have HP0 : Hid (SecP w n 0 s l W0) := Lib.hid (by
    rw [← hW0]
    exact ⟨below3 w _ _ _, (Whole.new_at (w.alloc (.cells #[.slice A zs.length c, .int .i64 N] 54)) 70 s.cells (n := n + 1) (by simp [hn])).alloc _, Whole.new_at ((w.alloc (.cells #[.slice A zs.length c, .int .i64 N] 54)).alloc (.cells s.cells.toArray 70)) 54 [.slice none 0 0, .int .i64 0] (n := n + 2) (by simp [hn]), A, c, zs, N, by have := ((Whole.new w 54 [.slice A zs.length c, .int .i64 N]).alloc (.cells s.cells.toArray 70)).alloc (.cells #[.slice none 0 0, .int .i64 0] 54); rw [hn] at this; exact this, hH.on (below3 w _ _ _), hA, fun q hq' => by have h6 := hq q hq'; have h7 := (below3 w (.cells #[.slice A zs.length c, .int .i64 N] 54) (.cells s.cells.toArray 70) (.cells #[.slice none 0 0, .int .i64 0] 54)).size; exact ⟨⟨Nat.zero_le _, by omega⟩, by omega, by omega, by omega⟩⟩)
  have HIN := Lib.hid (And.intro hH (And.intro hA hq))
  have HS := Lib.hid hS
  have HW0 := Lib.hid hW0
  have HN := Lib.hid hn
  clear hW0 hH hA hq hS hn
  have hwk : wrap64 s.k = s.k := by rcases HS.out.kind with e | e | e <;> rw [e] <;> simp [wrap64]
  have hkk : 0 ≤ s.k ∧ s.k ≤ 3 := by rcases HS.out.kind with e | e | e <;> rw [e] <;> decide
  have HKK := Lib.hid hkk
  clear hkk
  go_enter Tryz.func28, Tryz.ntmps28
  go_wp2_with fail
  rw [HW0.out]
  clear HW0
  have HB00 : Hid (Below w.heap.size w W0) := Lib.hid HP0.out.below
  refine (putR8_any A c zs N l s.k 2 W0 rfl (HIN.out.1.on HB00.out) HIN.out.2.1 (by omega) ⟨HKK.out.1, by have := HKK.out.2; show s.k < 2 ^ 2; omega, by simp⟩).mono ?_
  rintro e w1 ⟨A1, c1, ys, M, rfl, hh, ha, hf, hb⟩
  rw [HN.out]
  have HP1 := Lib.hid (HP0.out.put HN.out.symm hb hh ha hf (c := c1))
  obtain ⟨_, _, _, A0, c0, zs0, N0, hbx, _, _, _⟩ := HP0.out.keep hb
  have y0 := hbx.cell_at 0 rfl
  have y1 := hbx.cell_at 1 rfl
  have g0 := hbx.frozen 0
  have g1 := hbx.frozen 1
  clear hbx hh ha hf hb
  go_wp2_with fail
  obtain ⟨W1, hW1⟩ : ∃ W, (w1.setCell ⟨n, 0, none⟩ (.slice A1 ys.length c1)).setCell ⟨n, 1, none⟩ (.int .i64 M) = W := ⟨_, rfl⟩
  rw [hW1] at HP1 ⊢
  clear hW1 y0 y1 g0 g1 hwk HP0
  obtain ⟨Pn, HPn⟩ : ∃ n : Nat, Hid (pK s.k = (n : Int) ∧ (pK s.k).toNat = n ∧ n ≤ 4) := ⟨(pK s.k).toNat, Lib.hid ⟨by have := pK_top s.k; omega, rfl, by have := pK_top s.k; omega⟩⟩
  obtain ⟨Cn, HCn⟩ : ∃ n : Nat, Hid (nK s.k = (n : Int) ∧ (nK s.k).toNat = n ∧ n ≤ 2) := ⟨(nK s.k).toNat, Lib.hid ⟨by have := nK_top s.k; omega, rfl, by have := nK_top s.k; omega⟩⟩
  have HL9 := Lib.hid hl
  clear hl
  go_loopw [5] (fun i wr => ∃ j : Nat, j ≤ Pn ∧ i = .int .i64 j ∧ Hid (SecP w n (n + 3) s (l ++ bitsOf ((s.k, 2) :: (s.ports4.take j).flatMap numsJoin)) wr)) (fun i _ => Pn - (intOf i).toNat)
  case atStart => exact ⟨0, by omega, rfl, Lib.hid (by have h := HP1.out; rw [show bitsOf ((s.k, 2) :: (s.ports4.take 0).flatMap numsJoin) = bitsN (s.k, 2) by simp [bitsOf]]; exact h)⟩
  case round =>
    clear HP1
    obtain ⟨j, hj, rfl, HM⟩ := hrel
    have x0 := HM.out.sx.cell_at 0 rfl
    go_wp2_with fail
    refine (portsR8_B s.k wr).mono ?_
    rintro e w2 ⟨rfl, hb⟩
    rw [HPn.out.1]
    have HM2 := Lib.hid (HM.out.keep hb)
    clear hb x0 HM
    by_cases hlt : j < Pn
    · have hlt' : (j : Int) < (Pn : Int) := by omega
      obtain ⟨⟨a, q⟩, hpj⟩ : ∃ p, s.ports4[j]? = some p := ⟨_, List.getElem?_eq_getElem (by have := HPn.out.2.2; show j < 4; omega)⟩
      have d0 := (join_at HM2.out.sx hpj).1
      have d1 := (join_at HM2.out.sx hpj).2
      have hj4 : 0 ≤ (j : Int) ∧ (j : Int) < 4 := by have := HPn.out.2.2; omega
      have hj5 : j < 4 := by omega
      have HJ : Hid (JoinIs (a, q)) := Lib.hid (HS.out.joins _ (List.mem_of_getElem? hpj))
      have HPJ := Lib.hid hpj
      have HLT := Lib.hid hlt
      clear hpj hlt
      obtain ⟨A2, c2, zs2, N2, hbx, hh2, ha2, _⟩ := HM2.out.b
      have HLB : Hid ((l ++ bitsOf ((s.k, 2) :: (s.ports4.take j).flatMap numsJoin)).length ≤ 99000) := Lib.hid (sec_room HL9.out s j)
      have HNEXT : Hid (bitsOf ((s.k, 2) :: (s.ports4.take (j + 1)).flatMap numsJoin) = bitsOf ((s.k, 2) :: (s.ports4.take j).flatMap numsJoin) ++ bitsOf (numsJoin (a, q))) := Lib.hid (by rw [take_flat numsJoin _ _ _ HPJ.out, ← List.cons_append, bitsOf_append])
      have b0 := hbx.cell_at 0 rfl
      have b1 := hbx.cell_at 1 rfl
      have HBX := Lib.hid hbx
      have HIN2 := Lib.hid (And.intro hh2 ha2)
      clear hbx hh2 ha2
      by_cases ha : a < 0
      · have hnj : bitsOf (numsJoin (a, q)) = bitsN (0, 1) := by unfold numsJoin; rw [if_pos ha]; simp [bitsOf]
        go_wp2_with fail
        refine (putR8_any A2 c2 zs2 N2 _ 0 1 w2 rfl HIN2.out.1 HIN2.out.2 (by have := HLB.out; omega) ⟨by decide, by decide, by decide⟩).mono ?_
        rintro e w4 ⟨A3, c3, ys3, M3, rfl, hh3, ha3, hf3, hb3⟩
        have HP3 := HM2.out.put HN.out.symm hb3 hh3 ha3 hf3 (c := c3)
        rw [List.append_assoc, ← hnj, ← HNEXT.out] at HP3
        have HP4 := Lib.hid HP3
        have hx4 := HBX.out.below hb3 HBX.out.lt
        have y0 := hx4.cell_at 0 rfl
        have y1 := hx4.cell_at 1 rfl
        have g0 := hx4.frozen 0
        have g1 := hx4.frozen 1
        clear HP3 hx4 hh3 ha3 hf3 hb3 d0 d1 b0 b1 hnj
        go_wp2_with fail
        go_roundw
        case rel => exact ⟨j + 1, HLT.out, loop_next1 j, HP4⟩
        case measure => exact loop_less1 j _ HLT.out
      · have hnj : bitsOf (numsJoin (a, q)) = bitsN (1, 1) ++ (bitsN (a, 5) ++ bitsN (q, 2)) := by unfold numsJoin; rw [if_neg ha]; simp [bitsOf, numsPort]
        have HNJ := Lib.hid hnj
        have hja : 0 ≤ a ∧ a ≤ 23 ∧ 0 ≤ q ∧ q ≤ 3 := by rcases HJ.out with ⟨h1, _⟩ | h1; exact absurd h1 (by simp only; omega); exact h1
        have HJA := Lib.hid hja
        clear hnj hja
        go_wp2_with fail
        have HBW : Hid (∀ W, Below w2.heap.size w2 W → W.cell? ⟨n, 0, none⟩ = some (.slice A2 zs2.length c2) ∧ W.cell? ⟨n, 1, none⟩ = some (.int .i64 N2) ∧ W.cell? ⟨n + 1, 1 + j * 2, none⟩ = some (.int .i64 a) ∧ W.cell? ⟨n + 1, 1 + j * 2 + 1, none⟩ = some (.int .i64 q)) := Lib.hid (fun W hW =>
          have hb := HBX.out.below hW HBX.out.lt
          have hs := HM2.out.sx.below hW HM2.out.sx.lt
          ⟨hb.cell_at 0 rfl, hb.cell_at 1 rfl, (join_at hs HPJ.out).1, (join_at hs HPJ.out).2⟩)
        refine region_mixt (Below w2.heap.size w2) [(0, false), (2, false), (3, false), (4, false), (5, false), (6, false), (8, false), (9, false), (10, false), (11, false), (12, false), (1, true), (7, true), (13, true)] 1 14 (by kernel_rfl) rfl (by kernel_rfl) (Below w2.heap.size w2) ⟨Closed.below w2, fun _ h => h⟩ (Below.refl _ _).drew ?_
        simp only [pickOps, List.getElem?_cons_zero, List.getElem?_cons_succ]
        repeat (first | (refine mix_skip (by rfl) ?_; simp only [Act.put, List.setIfInBounds_toArray, List.set_cons_zero, List.set_cons_succ]) | (refine mix_read _ (by rfl) (fun W hW => by (have hq := HBW.out W hW; have x0 := hq.1; have x1 := hq.2.1; have x2 := hq.2.2.1; have x3 := hq.2.2.2; clear hq hW; go_simp; first | done | with_reducible rfl)) ?_; simp only [Act.put, List.setIfInBounds_toArray, List.set_cons_zero, List.set_cons_succ]))
        refine mix_meet (X := Option Addr × Nat × List Int × Int) (fun u => bitsV u.1 u.2.2.1.length u.2.1 u.2.2.2) (fun u W => Hands W u.1 u.2.2.1 ∧ Are u.2.2.1 u.2.2.2 ((l ++ bitsOf ((s.k, 2) :: (s.ports4.take j).flatMap numsJoin)) ++ bitsN (1, 1)) ∧ ∀ q, u.1 = some q → w2.heap.size ≤ q.block ∧ q.block < W.heap.size) ⟨Closed.below w2, fun _ h => h⟩ (fun u W W' h hb => ⟨h.1.on hb, h.2.1, fun q hq => ⟨(h.2.2 q hq).1, Nat.lt_of_lt_of_le (h.2.2 q hq).2 hb.size⟩⟩) 27 #[bitsV A2 zs2.length c2 N2, .int .i64 1, .int .i64 1] (by rfl) (fun W hW => by (go_simp; first | done | rfl)) (fun W hW => (putR8_any _ _ _ _ _ 1 1 W rfl (HIN2.out.1.on hW) HIN2.out.2 (by have := HLB.out; omega) ⟨by decide, by decide, by decide⟩).mono (fun e w' h => by
          obtain ⟨A', c', ys, M, rfl, h1, h2, h3, h4⟩ := h
          exact ⟨(A', c', ys, M), rfl, ⟨h1, h2, fun q hq => ⟨Nat.le_trans hW.size (h3 q hq).1, (h3 q hq).2⟩⟩, h4⟩)) (fun u1 => ?_)
        simp only [Act.put, List.setIfInBounds_toArray, List.set_cons_zero, List.set_cons_succ]
        refine mix_meet (X := Option Addr × Nat × List Int × Int) (fun u => bitsV u.1 u.2.2.1.length u.2.1 u.2.2.2) (fun u W => Hands W u.1 u.2.2.1 ∧ Are u.2.2.1 u.2.2.2 (((l ++ bitsOf ((s.k, 2) :: (s.ports4.take j).flatMap numsJoin)) ++ bitsN (1, 1)) ++ bitsN (a, 5)) ∧ ∀ q, u.1 = some q → w2.heap.size ≤ q.block ∧ q.block < W.heap.size) ⟨(Closed.below w2).and (fun _ _ h hb => ⟨h.1.on hb, h.2.1, fun q hq => ⟨(h.2.2 q hq).1, Nat.lt_of_lt_of_le (h.2.2 q hq).2 hb.size⟩⟩), fun _ h => h.1⟩ (fun u W W' h hb => ⟨h.1.on hb, h.2.1, fun q hq => ⟨(h.2.2 q hq).1, Nat.lt_of_lt_of_le (h.2.2 q hq).2 hb.size⟩⟩) 27 #[bitsV u1.1 u1.2.2.1.length u1.2.1 u1.2.2.2, .int .i64 a, .int .i64 5] (by rfl) (fun W hW => by (go_simp; first | done | rfl)) (fun W hW => (putR8_any _ _ _ _ _ a 5 W rfl hW.2.1 hW.2.2.1 (by have := HLB.out; rw [List.length_append, bitsN_length]; omega) ⟨HJA.out.1, by have := HJA.out.2.1; show a < 2 ^ 5; omega, by simp⟩).mono (fun e w' h => by
          obtain ⟨A', c', ys, M, rfl, h1, h2, h3, h4⟩ := h
          exact ⟨(A', c', ys, M), rfl, ⟨h1, h2, fun q hq => ⟨Nat.le_trans hW.1.size (h3 q hq).1, (h3 q hq).2⟩⟩, h4⟩)) (fun u2 => ?_)
        simp only [Act.put, List.setIfInBounds_toArray, List.set_cons_zero, List.set_cons_succ]
        refine mix_meet (X := Option Addr × Nat × List Int × Int) (fun u => bitsV u.1 u.2.2.1.length u.2.1 u.2.2.2) (fun u W => Hands W u.1 u.2.2.1 ∧ Are u.2.2.1 u.2.2.2 ((((l ++ bitsOf ((s.k, 2) :: (s.ports4.take j).flatMap numsJoin)) ++ bitsN (1, 1)) ++ bitsN (a, 5)) ++ bitsN (q, 2)) ∧ ∀ q, u.1 = some q → w2.heap.size ≤ q.block ∧ q.block < W.heap.size) ⟨((Closed.below w2).and (fun _ _ h hb => ⟨h.1.on hb, h.2.1, fun q hq => ⟨(h.2.2 q hq).1, Nat.lt_of_lt_of_le (h.2.2 q hq).2 hb.size⟩⟩)).and (fun _ _ h hb => ⟨h.1.on hb, h.2.1, fun q hq => ⟨(h.2.2 q hq).1, Nat.lt_of_lt_of_le (h.2.2 q hq).2 hb.size⟩⟩), fun _ h => h.1.1⟩ (fun u W W' h hb => ⟨h.1.on hb, h.2.1, fun q hq => ⟨(h.2.2 q hq).1, Nat.lt_of_lt_of_le (h.2.2 q hq).2 hb.size⟩⟩) 27 #[bitsV u2.1 u2.2.2.1.length u2.2.1 u2.2.2.2, .int .i64 q, .int .i64 2] (by rfl) (fun W hW => by (go_simp; first | done | rfl)) (fun W hW => (putR8_any _ _ _ _ _ q 2 W rfl hW.2.1 hW.2.2.1 (by have := HLB.out; rw [List.length_append, List.length_append, bitsN_length, bitsN_length]; omega) ⟨HJA.out.2.2.1, by have := HJA.out.2.2.2; show q < 2 ^ 2; omega, by simp⟩).mono (fun e w' h => by
          obtain ⟨A', c', ys, M, rfl, h1, h2, h3, h4⟩ := h
          exact ⟨(A', c', ys, M), rfl, ⟨h1, h2, fun q hq => ⟨Nat.le_trans hW.1.1.size (h3 q hq).1, (h3 q hq).2⟩⟩, h4⟩)) (fun u3 => ?_)
        simp only [Act.put, List.setIfInBounds_toArray, List.set_cons_zero, List.set_cons_succ]
        refine mix_nil (fun W hW => ?_)
        simp only [List.drop_succ_cons, List.drop_zero]
        obtain ⟨⟨⟨hb3, _⟩, _⟩, hh3, ha3, hf3⟩ := hW
        obtain ⟨A3, c3, ys3, M3⟩ := u3
        simp only at hh3 ha3 hf3
        have HP3 := HM2.out.put HN.out.symm hb3 hh3 ha3 hf3 (c := c3)
        rw [List.append_assoc, List.append_assoc, List.append_assoc, ← HNJ.out, ← HNEXT.out] at HP3
        have HP4 := Lib.hid HP3
        have hx4 := HBX.out.below hb3 HBX.out.lt
        have y0 := hx4.cell_at 0 rfl
        have y1 := hx4.cell_at 1 rfl
        have g0 := hx4.frozen 0
        have g1 := hx4.frozen 1
        clear HP3 hx4 hh3 ha3 hf3 hb3 d0 d1 b0 b1
        go_wp2_with fail
        go_roundw
        case rel => exact ⟨j + 1, HLT.out, loop_next1 j, HP4⟩
        case measure => exact loop_less1 j _ HLT.out
    · obtain rfl : j = Pn := by omega
      have HP5 : Hid (SecP w n (n + 3) s (l ++ bitsOf (((s.k, 2) :: (s.ports4.take j).flatMap numsJoin) ++ ([s.c0, s.c1].take 0).flatMap numsClass)) w2) := Lib.hid (by rw [List.take_zero]; have h := HM2.out; simpa using h)
      have HJP := Lib.hid hj
      clear HM2 hj hlt
      go_wp2_with fail
      go_loopw [6] (fun i wr => ∃ k : Nat, k ≤ Cn ∧ i = .int .i64 k ∧ Hid (SecP w n (n + 3) s (l ++ bitsOf (((s.k, 2) :: (s.ports4.take j).flatMap numsJoin) ++ ([s.c0, s.c1].take k).flatMap numsClass)) wr)) (fun i _ => Cn - (intOf i).toNat)
      case atStart => exact ⟨0, by omega, rfl, HP5⟩
      case round =>
        clear HP5
        obtain ⟨k, hk, rfl, HM⟩ := hrel
        rename World => wq
        have x0 := HM.out.sx.cell_at 0 rfl
        go_wp2_with fail
        refine (waysR8_B s.k _).mono ?_
        rintro e w3 ⟨rfl, hb⟩
        rw [HCn.out.1]
        have HM2 := Lib.hid (HM.out.keep hb)
        clear hb x0 HM
        obtain ⟨A2, c2, zs2, N2, hbx, hh2, ha2, hfr⟩ := HM2.out.b
        have HFR := Lib.hid hfr
        clear hfr
        have b0 := hbx.cell_at 0 rfl
        have b1 := hbx.cell_at 1 rfl
        have g0 := hbx.frozen 0
        have g1 := hbx.frozen 1
        have HBX := Lib.hid hbx
        have HIN2 := Lib.hid (And.intro hh2 ha2)
        clear hbx hh2 ha2
        by_cases hlt : k < Cn
        · have hlt' : (k : Int) < (Cn : Int) := by omega
          obtain ⟨v, hv⟩ : ∃ v, [s.c0, s.c1][k]? = some v := ⟨_, List.getElem?_eq_getElem (by have := HCn.out.2.2; show k < 2; omega)⟩
          have HV := Lib.hid hv
          have hk2 : 0 ≤ (k : Int) ∧ (k : Int) < 2 := by have := HCn.out.2.2; omega
          have HVV : Hid (0 ≤ v ∧ v ≤ 3) := Lib.hid (by
            rcases List.mem_cons.1 (List.mem_of_getElem? hv) with h | h
            · rw [h]; exact HS.out.class0
            · rw [List.mem_singleton.1 h]; exact HS.out.class1)
          have HLT := Lib.hid hlt
          have HLB : Hid ((l ++ bitsOf (((s.k, 2) :: (s.ports4.take j).flatMap numsJoin) ++ ([s.c0, s.c1].take k).flatMap numsClass)).length ≤ 99900) := Lib.hid (by
            have h1 := sec_room HL9.out s j
            have h2 := bits_flat numsClass 2 ([s.c0, s.c1].take k) (fun c _ => by rw [bitsOf_length]; simp [numsClass])
            have h3 : ([s.c0, s.c1].take k).length ≤ 2 := by rw [List.length_take]; show min _ 2 ≤ 2; omega
            rw [bitsOf_append, ← List.append_assoc, List.length_append]
            omega)
          have HNX : Hid (bitsOf (((s.k, 2) :: (s.ports4.take j).flatMap numsJoin) ++ ([s.c0, s.c1].take (k + 1)).flatMap numsClass) = bitsOf (((s.k, 2) :: (s.ports4.take j).flatMap numsJoin) ++ ([s.c0, s.c1].take k).flatMap numsClass) ++ bitsN (v, 2)) := Lib.hid (by
            rw [take_flat numsClass _ _ _ hv, ← List.append_assoc, bitsOf_append]
            rw [show bitsOf (numsClass v) = bitsN (v, 2) by simp [numsClass, bitsOf]])
          clear hv hlt
          go_wp2_with fail
          have HBW : Hid (∀ W, Below w3.heap.size w3 W → W.cell? ⟨n, 0, none⟩ = some (.slice A2 zs2.length c2) ∧ W.cell? ⟨n, 1, none⟩ = some (.int .i64 N2) ∧ W.cell? ⟨n + 1, 9 + k, none⟩ = some (.int .i64 v) ∧ True) := Lib.hid (fun W hW =>
            have hb := HBX.out.below hW HBX.out.lt
            have hs := HM2.out.sx.below hW HM2.out.sx.lt
            ⟨hb.cell_at 0 rfl, hb.cell_at 1 rfl, class8_at hs HV.out, trivial⟩)
          refine region_mixt (Below w3.heap.size w3) [(0, false), (1, false), (2, false), (3, false), (4, false), (5, true)] 1 6 (by kernel_rfl) rfl (by kernel_rfl) (Below w3.heap.size w3) ⟨Closed.below w3, fun _ h => h⟩ (Below.refl _ _).drew ?_
          simp only [pickOps, List.getElem?_cons_zero, List.getElem?_cons_succ]
          repeat (first | (refine mix_skip (by rfl) ?_; simp only [Act.put, List.setIfInBounds_toArray, List.set_cons_zero, List.set_cons_succ]) | (refine mix_read _ (by rfl) (fun W hW => by (have hq := HBW.out W hW; have x0 := hq.1; have x1 := hq.2.1; have x2 := hq.2.2.1; have x3 := hq.2.2.2; clear hq hW; go_simp; first | done | with_reducible rfl)) ?_; simp only [Act.put, List.setIfInBounds_toArray, List.set_cons_zero, List.set_cons_succ]))
          refine mix_meet (X := Option Addr × Nat × List Int × Int) (fun u => bitsV u.1 u.2.2.1.length u.2.1 u.2.2.2) (fun u W => Hands W u.1 u.2.2.1 ∧ Are u.2.2.1 u.2.2.2 ((l ++ bitsOf (((s.k, 2) :: (s.ports4.take j).flatMap numsJoin) ++ ([s.c0, s.c1].take k).flatMap numsClass)) ++ bitsN (v, 2)) ∧ ∀ q, u.1 = some q → w3.heap.size ≤ q.block ∧ q.block < W.heap.size) ⟨Closed.below w3, fun _ h => h⟩ (fun u W W' h hb => ⟨h.1.on hb, h.2.1, fun q hq => ⟨(h.2.2 q hq).1, Nat.lt_of_lt_of_le (h.2.2 q hq).2 hb.size⟩⟩) 27 #[bitsV A2 zs2.length c2 N2, .int .i64 v, .int .i64 2] (by rfl) (fun W hW => by (go_simp; first | done | rfl)) (fun W hW => (putR8_any _ _ _ _ _ v 2 W rfl (HIN2.out.1.on hW) HIN2.out.2 (by have := HLB.out; omega) ⟨HVV.out.1, by have := HVV.out.2; show v < 2 ^ 2; omega, by simp⟩).mono (fun e w' h => by
          obtain ⟨A', c', ys, M, rfl, h1, h2, h3, h4⟩ := h
          exact ⟨(A', c', ys, M), rfl, ⟨h1, h2, fun q hq => ⟨Nat.le_trans hW.size (h3 q hq).1, (h3 q hq).2⟩⟩, h4⟩)) (fun u1 => ?_)
          simp only [Act.put, List.setIfInBounds_toArray, List.set_cons_zero, List.set_cons_succ]
          refine mix_nil (fun W hW => ?_)
          simp only [List.drop_succ_cons, List.drop_zero]
          obtain ⟨hb3, hh3, ha3, hf3⟩ := hW
          obtain ⟨A3, c3, ys3, M3⟩ := u1
          simp only at hh3 ha3 hf3
          have HP3 := HM2.out.put HN.out.symm hb3 hh3 ha3 hf3 (c := c3)
          rw [List.append_assoc, ← HNX.out] at HP3
          have HP4 := Lib.hid HP3
          have hx4 := HBX.out.below hb3 HBX.out.lt
          have y0 := hx4.cell_at 0 rfl
          have y1 := hx4.cell_at 1 rfl
          have g0 := hx4.frozen 0
          have g1 := hx4.frozen 1
          clear HP3 hx4 hh3 ha3 hf3 hb3 b0 b1
          go_wp2_with fail
          go_roundw
          case rel => exact ⟨k + 1, HLT.out, loop_next1 k, HP4⟩
          case measure => exact loop_less1 k _ HLT.out
        · obtain rfl : k = Cn := by omega
          have hr := HM2.out.rx
          have r0 := hr.cell_at 0 rfl
          have r1 := hr.cell_at 1 rfl
          have f0 := hr.frozen 0
          have f1 := hr.frozen 1
          have hr2 := (hr.set 0 (.slice A2 zs2.length c2)).set 1 (.int .i64 N2)
          have t0 := hr2.cell_at 0 rfl
          have t1 := hr2.cell_at 1 rfl
          have HEQ : Hid (bitsOf (((s.k, 2) :: (s.ports4.take j).flatMap numsJoin) ++ ([s.c0, s.c1].take k).flatMap numsClass) = bitsOf (numsSec s)) := Lib.hid (by unfold numsSec; rw [HPn.out.2.1, HCn.out.2.1]; rfl)
          have HF : Hid (Hands ((w3.setCell ⟨n + 2, 0, none⟩ (.slice A2 zs2.length c2)).setCell ⟨n + 2, 1, none⟩ (.int .i64 N2)) A2 zs2 ∧ Below w.heap.size w ((w3.setCell ⟨n + 2, 0, none⟩ (.slice A2 zs2.length c2)).setCell ⟨n + 2, 1, none⟩ (.int .i64 N2)) ∧ ∀ q, A2 = some q → w.heap.size ≤ q.block ∧ q.block < ((w3.setCell ⟨n + 2, 0, none⟩ (.slice A2 zs2.length c2)).setCell ⟨n + 2, 1, none⟩ (.int .i64 N2)).heap.size) :=
            Lib.hid ⟨(HIN2.out.1.far (p := ⟨n + 2, 0, none⟩) (fun q hq => (HFR.out q hq).2.2.2) _).far (p := ⟨n + 2, 1, none⟩) (fun q hq => (HFR.out q hq).2.2.2) _, (HM2.out.below.setCell (p := ⟨n + 2, 0, none⟩) (by have := HN.out; show w.heap.size ≤ n + 2; omega) _).setCell (p := ⟨n + 2, 1, none⟩) (by have := HN.out; show w.heap.size ≤ n + 2; omega) _, fun q hq => ⟨by have := HFR.out q hq; have := HN.out; omega, by have := (HFR.out q hq).1.2; simp [World.setCell]; exact this⟩⟩
          clear hr hr2
          go_wp2_with fail
          refine bodyPost_ret (v := bitsV A2 zs2.length c2 N2) (by simp [results, Tryz.results28, go_sem, t0, t1]) rfl ?_
          exact ⟨A2, c2, zs2, N2, rfl, HF.out.1, by have h := HIN2.out.2; rw [HEQ.out] at h; exact h, HF.out.2.2, HF.out.2.1⟩
end Go.Proofs.YtegflmaobmibnaaGreatDoor
