/- The document's own Put. -/
import Derived.Test.YtegflmaobmibnaaGreatDoorQPlanRu
import Derived.Test.YtegflmaobmibnaaGreatDoorQPlanRg
import Derived.Test.YtegflmaobmibnaaGreatDoorQPlanZ
namespace Go.Proofs.YtegflmaobmibnaaGreatDoor
set_option maxRecDepth 100000
open Go.RowKit Go.Shelf
set_option linter.unusedVariables false
set_option linter.unusedSimpArgs false
theorem flank_eq4 (s : Int × Int × Int × Int) : bitsOf (numsFlank s) = bitsN (s.1, 5) ++ (bitsN (s.2.1, 1) ++ (bitsN (s.2.2.1, 5) ++ bitsN (s.2.2.2, 1))) := by rw [flank_bits]; simp

set_option maxHeartbeats 16000000 in
theorem putL8_any (m : Lay) (w : World) (hL : Lies m w) (r : Bool) (hr : rightL m = r) :
    Calls Tryz.prog 10 #[m.val] w fun e w' => Below w.heap.size w w' ∧ ((r = false ∧ e = .returned (.tuple #[.slice none 0 0, .int .i64 60])) ∨ (r = true ∧ ∃ A c, e = .returned (.tuple #[.slice A (bytesL m.pl).length c, .int .i64 0]) ∧ Hands w' A (bytesL m.pl))) := by
  have HFF : Hid (r = true → Fine m.pl) := Lib.hid (fun h => fine_of_right (hr.trans h))
  have HL := Lib.hid (fun W (h : Below w.heap.size w W) => Lies.closed m _ _ hL h)
  have HR := Lib.hid hr
  have HL0 : Hid (Lies m (w.alloc (.cells m.cells.toArray 29))) := Lib.hid (HL.out _ (below1 w _))
  clear hL hr
  go_enter Tryz.func10, Tryz.ntmps10
  go_wp2_with fail
  refine (rightR_B HL0.out HR.out).mono ?_
  rintro e w1 ⟨rfl, hb1⟩
  have hbox := (Whole.new w 29 m.cells).below hb1 (by simp)
  have HB1 : Hid (Below w.heap.size w w1) := Lib.hid ((below1 w _).trans (hb1.mono (by simp)))
  have HS1 : Hid (w.heap.size + 1 ≤ w1.heap.size) := Lib.hid (by have := hb1.size; simpa using this)
  clear hb1
  cases r
  · go_wp2_with fail
    refine bodyPost_ret (v := .tuple #[.slice none 0 0, .int .i64 60]) (by simp [results, Tryz.results10, go_sem]) rfl ?_
    exact ⟨HB1.out, rfl⟩
  · have HF := Lib.hid (HFF.out rfl)
    obtain ⟨n, hn⟩ : ∃ n, w.heap.size = n := ⟨_, rfl⟩
    obtain ⟨X, hX⟩ : ∃ X, w1.heap.size = X := ⟨_, rfl⟩
    have HQ0 : Hid (PutQ w n X m [] (w1.alloc (.cells #[.slice none 0 0, .int .i64 0] 54))) := Lib.hid ⟨HB1.out.trans ((below1 w1 _).mono HB1.out.size), by have := hbox.alloc (.cells #[.slice none 0 0, .int .i64 0] 54); rw [hn] at this; exact this, none, 0, [], 0, by rw [← hX]; exact Whole.new w1 _ _, Hands.nil _, ⟨rfl, rfl⟩, fun q hq => by cases hq⟩
    have HNX : Hid (w.heap.size = n ∧ n + 1 ≤ X) := Lib.hid ⟨hn, by have := HS1.out; omega⟩
    obtain ⟨W0, hW0⟩ : ∃ W, w1.alloc (.cells #[.slice none 0 0, .int .i64 0] 54) = W := ⟨_, rfl⟩
    have HW0 := Lib.hid hW0
    have HZ : Hid (Whole W0 X 54 [.slice none 0 0, .int .i64 0]) := Lib.hid (by rw [← hW0, ← hX]; exact Whole.new w1 _ _)
    rw [hW0] at HQ0
    clear hW0 hbox
    go_wp2_with fail
    rw [HW0.out]
    try rw [hn]
    try rw [hX]
    clear hn hX
    have HFT : Hid (FitN ((m.secs.length : Int), 5) ∧ FitN ((m.sigs.length : Int), 4) ∧ FitN ((m.exits.length : Int), 4) ∧ FitN ((m.flanks.length : Int), 5)) := Lib.hid (by
      have h : ∀ q ∈ numsHead m.pl, FitN q := fun q hq => fine_fit HF.out q (by rw [numsL_eq]; exact List.mem_append_left _ hq)
      have h3 : m.pl.exits.length = m.exits.length := by simp [Lay.pl]
      exact ⟨h _ (by simp [numsHead, Lay.pl]), h _ (by simp [numsHead, Lay.pl]), h _ (by simp [numsHead, Lay.pl]), h _ (by simp [numsHead, Lay.pl])⟩)
    have HPT0 := Lib.hid (part_secs HF.out)
    have HPT1 := Lib.hid (part_sigs HF.out)
    have HPT2 := Lib.hid (part_exits HF.out)
    have HPT3 := Lib.hid (part_flanks HF.out)
    have HPT4 := Lib.hid (part_times HF.out)
    have HLM : Hid (m.secs.length ≤ 1000 ∧ m.sigs.length ≤ 1000 ∧ m.exits.length ≤ 1000 ∧ m.flanks.length ≤ 1000) := Lib.hid (by
      have h1 : m.secs.length ≤ 24 := HF.out.nS
      have h2 : m.sigs.length ≤ 12 := HF.out.nG
      have h3 := HF.out.nE
      have h4 : m.flanks.length ≤ 16 := HF.out.nF
      have h5 : m.pl.exits.length = m.exits.length := by simp [Lay.pl]
      omega)
    have HBW : Hid (∀ W, Below W0.heap.size W0 W → W.cell? ⟨n, 0, none⟩ = some (.slice m.As m.secs.length m.cs) ∧ W.cell? ⟨n, 1, none⟩ = some (.slice m.Ag m.sigs.length m.cg) ∧ W.cell? ⟨n, 2, none⟩ = some (.slice m.Ae m.exits.length m.ce) ∧ W.cell? ⟨n, 3, none⟩ = some (.slice m.Af m.flanks.length m.cf) ∧ W.cell? ⟨X, 0, none⟩ = some (.slice none 0 0) ∧ W.cell? ⟨X, 1, none⟩ = some (.int .i64 0)) := Lib.hid (fun W hW =>
      have h1 := HQ0.out.sx.below hW HQ0.out.sx.lt
      have h2 := HZ.out.below hW HZ.out.lt
      ⟨h1.cell_at 0 rfl, h1.cell_at 1 rfl, h1.cell_at 2 rfl, h1.cell_at 3 rfl, h2.cell_at 0 rfl, h2.cell_at 1 rfl⟩)
    refine region_mixt (Below W0.heap.size W0) [(0, false), (1, false), (2, false), (3, false), (5, false), (6, false), (7, false), (9, false), (10, false), (11, false), (13, false), (14, false), (15, false), (4, true), (8, true), (12, true), (16, true)] 1 17 (by kernel_rfl) rfl (by kernel_rfl) (Below W0.heap.size W0) ⟨Closed.below W0, fun _ h => h⟩ (Below.refl _ _).drew ?_
    simp only [pickOps, List.getElem?_cons_zero, List.getElem?_cons_succ]
    repeat (first | (refine mix_skip (by rfl) ?_; simp only [Act.put, List.setIfInBounds_toArray, List.set_cons_zero, List.set_cons_succ]) | (refine mix_read _ (by rfl) (fun W hW => by (have hq := HBW.out W hW; obtain ⟨x0, x1, x2, x3, z0, z1⟩ := hq; clear hW; go_simp; first | done | with_reducible rfl)) ?_; simp only [Act.put, List.setIfInBounds_toArray, List.set_cons_zero, List.set_cons_succ]))
    refine mix_meet (X := Option Addr × Nat × List Int × Int) (fun u => bitsV u.1 u.2.2.1.length u.2.1 u.2.2.2) (fun u W => Hands W u.1 u.2.2.1 ∧ Are u.2.2.1 u.2.2.2 (([] : List Bool) ++ bitsN ((m.secs.length : Int), 5)) ∧ ∀ q, u.1 = some q → W0.heap.size ≤ q.block ∧ q.block < W.heap.size) ⟨Closed.below W0, fun _ h => h⟩ (fun u W W' h hb => ⟨h.1.on hb, h.2.1, fun q hq => ⟨(h.2.2 q hq).1, Nat.lt_of_lt_of_le (h.2.2 q hq).2 hb.size⟩⟩) 27 #[.agg #[.slice none 0 0, .int .i64 0], .int .i64 (m.secs.length : Int), .int .i64 5] (by rfl) (fun W hW => by (go_simp; first | done | rfl)) (fun W hW => (putR8_any _ _ _ _ _ (m.secs.length : Int) 5 W rfl (Hands.nil W : Hands W none []) (⟨rfl, rfl⟩ : Are [] 0 []) (by simp only [List.length_append, bitsN_length, List.length_nil]; omega) HFT.out.1).mono (fun e w' h => by
          obtain ⟨A', c', ys, M, rfl, h1, h2, h3, h4⟩ := h
          exact ⟨(A', c', ys, M), rfl, ⟨h1, h2, fun q hq => ⟨Nat.le_trans hW.size (h3 q hq).1, (h3 q hq).2⟩⟩, h4⟩)) (fun u1 => ?_)
    simp only [Act.put, List.setIfInBounds_toArray, List.set_cons_zero, List.set_cons_succ]
    refine mix_meet (X := Option Addr × Nat × List Int × Int) (fun u => bitsV u.1 u.2.2.1.length u.2.1 u.2.2.2) (fun u W => Hands W u.1 u.2.2.1 ∧ Are u.2.2.1 u.2.2.2 ((([] : List Bool) ++ bitsN ((m.secs.length : Int), 5)) ++ bitsN ((m.sigs.length : Int), 4)) ∧ ∀ q, u.1 = some q → W0.heap.size ≤ q.block ∧ q.block < W.heap.size) ⟨(Closed.below W0).and (fun _ _ h hb => ⟨h.1.on hb, h.2.1, fun q hq => ⟨(h.2.2 q hq).1, Nat.lt_of_lt_of_le (h.2.2 q hq).2 hb.size⟩⟩), fun _ h => h.1⟩ (fun u W W' h hb => ⟨h.1.on hb, h.2.1, fun q hq => ⟨(h.2.2 q hq).1, Nat.lt_of_lt_of_le (h.2.2 q hq).2 hb.size⟩⟩) 27 #[bitsV u1.1 u1.2.2.1.length u1.2.1 u1.2.2.2, .int .i64 (m.sigs.length : Int), .int .i64 4] (by rfl) (fun W hW => by (go_simp; first | done | rfl)) (fun W hW => (putR8_any _ _ _ _ _ (m.sigs.length : Int) 4 W rfl hW.2.1 hW.2.2.1 (by simp only [List.length_append, bitsN_length, List.length_nil]; omega) HFT.out.2.1).mono (fun e w' h => by
          obtain ⟨A', c', ys, M, rfl, h1, h2, h3, h4⟩ := h
          exact ⟨(A', c', ys, M), rfl, ⟨h1, h2, fun q hq => ⟨Nat.le_trans hW.1.size (h3 q hq).1, (h3 q hq).2⟩⟩, h4⟩)) (fun u2 => ?_)
    simp only [Act.put, List.setIfInBounds_toArray, List.set_cons_zero, List.set_cons_succ]
    refine mix_meet (X := Option Addr × Nat × List Int × Int) (fun u => bitsV u.1 u.2.2.1.length u.2.1 u.2.2.2) (fun u W => Hands W u.1 u.2.2.1 ∧ Are u.2.2.1 u.2.2.2 (((([] : List Bool) ++ bitsN ((m.secs.length : Int), 5)) ++ bitsN ((m.sigs.length : Int), 4)) ++ bitsN ((m.exits.length : Int), 4)) ∧ ∀ q, u.1 = some q → W0.heap.size ≤ q.block ∧ q.block < W.heap.size) ⟨((Closed.below W0).and (fun _ _ h hb => ⟨h.1.on hb, h.2.1, fun q hq => ⟨(h.2.2 q hq).1, Nat.lt_of_lt_of_le (h.2.2 q hq).2 hb.size⟩⟩)).and (fun _ _ h hb => ⟨h.1.on hb, h.2.1, fun q hq => ⟨(h.2.2 q hq).1, Nat.lt_of_lt_of_le (h.2.2 q hq).2 hb.size⟩⟩), fun _ h => h.1.1⟩ (fun u W W' h hb => ⟨h.1.on hb, h.2.1, fun q hq => ⟨(h.2.2 q hq).1, Nat.lt_of_lt_of_le (h.2.2 q hq).2 hb.size⟩⟩) 27 #[bitsV u2.1 u2.2.2.1.length u2.2.1 u2.2.2.2, .int .i64 (m.exits.length : Int), .int .i64 4] (by rfl) (fun W hW => by (go_simp; first | done | rfl)) (fun W hW => (putR8_any _ _ _ _ _ (m.exits.length : Int) 4 W rfl hW.2.1 hW.2.2.1 (by simp only [List.length_append, bitsN_length, List.length_nil]; omega) HFT.out.2.2.1).mono (fun e w' h => by
          obtain ⟨A', c', ys, M, rfl, h1, h2, h3, h4⟩ := h
          exact ⟨(A', c', ys, M), rfl, ⟨h1, h2, fun q hq => ⟨Nat.le_trans hW.1.1.size (h3 q hq).1, (h3 q hq).2⟩⟩, h4⟩)) (fun u3 => ?_)
    simp only [Act.put, List.setIfInBounds_toArray, List.set_cons_zero, List.set_cons_succ]
    refine mix_meet (X := Option Addr × Nat × List Int × Int) (fun u => bitsV u.1 u.2.2.1.length u.2.1 u.2.2.2) (fun u W => Hands W u.1 u.2.2.1 ∧ Are u.2.2.1 u.2.2.2 ((((([] : List Bool) ++ bitsN ((m.secs.length : Int), 5)) ++ bitsN ((m.sigs.length : Int), 4)) ++ bitsN ((m.exits.length : Int), 4)) ++ bitsN ((m.flanks.length : Int), 5)) ∧ ∀ q, u.1 = some q → W0.heap.size ≤ q.block ∧ q.block < W.heap.size) ⟨(((Closed.below W0).and (fun _ _ h hb => ⟨h.1.on hb, h.2.1, fun q hq => ⟨(h.2.2 q hq).1, Nat.lt_of_lt_of_le (h.2.2 q hq).2 hb.size⟩⟩)).and (fun _ _ h hb => ⟨h.1.on hb, h.2.1, fun q hq => ⟨(h.2.2 q hq).1, Nat.lt_of_lt_of_le (h.2.2 q hq).2 hb.size⟩⟩)).and (fun _ _ h hb => ⟨h.1.on hb, h.2.1, fun q hq => ⟨(h.2.2 q hq).1, Nat.lt_of_lt_of_le (h.2.2 q hq).2 hb.size⟩⟩), fun _ h => h.1.1.1⟩ (fun u W W' h hb => ⟨h.1.on hb, h.2.1, fun q hq => ⟨(h.2.2 q hq).1, Nat.lt_of_lt_of_le (h.2.2 q hq).2 hb.size⟩⟩) 27 #[bitsV u3.1 u3.2.2.1.length u3.2.1 u3.2.2.2, .int .i64 (m.flanks.length : Int), .int .i64 5] (by rfl) (fun W hW => by (go_simp; first | done | rfl)) (fun W hW => (putR8_any _ _ _ _ _ (m.flanks.length : Int) 5 W rfl hW.2.1 hW.2.2.1 (by simp only [List.length_append, bitsN_length, List.length_nil]; omega) HFT.out.2.2.2).mono (fun e w' h => by
          obtain ⟨A', c', ys, M, rfl, h1, h2, h3, h4⟩ := h
          exact ⟨(A', c', ys, M), rfl, ⟨h1, h2, fun q hq => ⟨Nat.le_trans hW.1.1.1.size (h3 q hq).1, (h3 q hq).2⟩⟩, h4⟩)) (fun u4 => ?_)
    simp only [Act.put, List.setIfInBounds_toArray, List.set_cons_zero, List.set_cons_succ]
    refine mix_nil (fun W hW => ?_)
    simp only [List.drop_succ_cons, List.drop_zero]
    obtain ⟨⟨⟨⟨hb, _⟩, _⟩, _⟩, hh, ha, hf⟩ := hW
    obtain ⟨A4, c4, ys4, M4⟩ := u4
    simp only at hh ha hf
    have HP3 := HQ0.out.put (by have := HNX.out; omega) (by have := HNX.out; omega) hb hh ha hf (c := c4)
    have HP4 : Hid (PutQ w n X m (bitsOf (numsHead m.pl ++ (m.secs.take 0).flatMap numsSec)) ((W.setCell ⟨X, 0, none⟩ (.slice A4 ys4.length c4)).setCell ⟨X, 1, none⟩ (.int .i64 M4))) := Lib.hid (by
      have e : bitsOf (numsHead m.pl ++ (m.secs.take 0).flatMap numsSec) = ((([] ++ bitsN ((m.secs.length : Int), 5)) ++ bitsN ((m.sigs.length : Int), 4)) ++ bitsN ((m.exits.length : Int), 4)) ++ bitsN ((m.flanks.length : Int), 5) := by simp [bitsOf, numsHead, Lay.pl]
      rw [e]
      exact HP3)
    have hx4 := HZ.out.below hb HZ.out.lt
    have y0 := hx4.cell_at 0 rfl
    have y1 := hx4.cell_at 1 rfl
    have g0 := hx4.frozen 0
    have g1 := hx4.frozen 1
    clear HP3 hx4 hh ha hf hb HBW HZ HFT
    go_wp2_with fail
    obtain ⟨W1, hW1⟩ : ∃ Y, (W.setCell ⟨X, 0, none⟩ (.slice A4 ys4.length c4)).setCell ⟨X, 1, none⟩ (.int .i64 M4) = Y := ⟨_, rfl⟩
    rw [hW1] at HP4 ⊢
    clear hW1 y0 y1 g0 g1 HQ0
    go_loopw [5] (fun i wr => ∃ j : Nat, j ≤ m.secs.length ∧ i = .int .i64 j ∧ Hid (PutQ w n X m (bitsOf (numsHead m.pl ++ (m.secs.take j).flatMap numsSec)) wr)) (fun i _ => m.secs.length - (intOf i).toNat)
    case atStart => exact ⟨0, by omega, rfl, HP4⟩
    case round =>
      clear HP4
      obtain ⟨j, hj, rfl, HM⟩ := hrel
      have x0 := HM.out.sx.cell_at 0 rfl
      by_cases hlt : j < m.secs.length
      · have hlt' : (j : Int) < (m.secs.length : Int) := by omega
        have HLT := Lib.hid hlt
        obtain ⟨y, hyj⟩ : ∃ y, m.secs[j]? = some y := ⟨_, List.getElem?_eq_getElem hlt⟩
        obtain ⟨b2, off2, hAS, hb2, hc0, hc⟩ := (HL.out _ HM.out.below).secs.nth (n := 11) Sec.len (by omega) hyj
        have HAS := Lib.hid hAS
        have HB2 := Lib.hid hb2
        have HC0 := Lib.hid hc0
        have HC := Lib.hid hc
        have HYJ := Lib.hid hyj
        have HROOM := Lib.hid (HPT0.out.room j)
        have HNEXT := Lib.hid (HPT0.out.next j _ hyj)
        have HFIT := Lib.hid (HPT0.out.fit j _ hyj)
        clear hAS hb2 hc0 hc hyj hlt
        obtain ⟨A2, c2, zs2, N2, hbx, hh2, ha2, hq2⟩ := HM.out.b
        have HBX := Lib.hid hbx
        have HIN := Lib.hid (And.intro hh2 ha2)
        have HQ2 : Hid (∀ q, A2 = some q → q.block < wr.heap.size) := Lib.hid (fun q hq => (hq2 q hq).2)
        clear hbx hh2 ha2 hq2
        have HSI := Lib.hid (HF.out.secs y (List.mem_of_getElem? HYJ.out))
        go_wp2_with fail
        clear x0
        have HBW : Hid (∀ W, Below wr.heap.size wr W → W.cell? ⟨n, 0, none⟩ = some (.slice (some ⟨b2, off2, none⟩) m.secs.length m.cs) ∧ W.cell? ⟨X, 0, none⟩ = some (.slice A2 zs2.length c2) ∧ W.cell? ⟨X, 1, none⟩ = some (.int .i64 N2) ∧ W.cell? ⟨b2, off2 + j * 11, none⟩ = some (.int .u8 y.k) ∧ W.cell? ⟨b2, off2 + j * 11 + 1, none⟩ = some (.int .i64 y.s0) ∧ W.cell? ⟨b2, off2 + j * 11 + 2, none⟩ = some (.int .i64 y.q0) ∧ W.cell? ⟨b2, off2 + j * 11 + 3, none⟩ = some (.int .i64 y.s1) ∧ W.cell? ⟨b2, off2 + j * 11 + 4, none⟩ = some (.int .i64 y.q1) ∧ W.cell? ⟨b2, off2 + j * 11 + 5, none⟩ = some (.int .i64 y.s2) ∧ W.cell? ⟨b2, off2 + j * 11 + 6, none⟩ = some (.int .i64 y.q2) ∧ W.cell? ⟨b2, off2 + j * 11 + 7, none⟩ = some (.int .i64 y.s3) ∧ W.cell? ⟨b2, off2 + j * 11 + 8, none⟩ = some (.int .i64 y.q3) ∧ W.cell? ⟨b2, off2 + j * 11 + 9, none⟩ = some (.int .i64 y.c0) ∧ W.cell? ⟨b2, off2 + j * 11 + 10, none⟩ = some (.int .i64 y.c1)) := Lib.hid (fun W hW =>
          have hB := HBX.out.below hW HBX.out.lt
          have hS := HM.out.sx.below hW HM.out.sx.lt
          ⟨by rw [← HAS.out]; exact hS.cell_at 0 rfl, hB.cell_at 0 rfl, hB.cell_at 1 rfl, (hW.cell (p := ⟨b2, off2 + j * 11, none⟩) HB2.out).trans (HC0.out j _ _ HYJ.out rfl), (hW.cell (p := ⟨b2, off2 + j * 11 + 1, none⟩) HB2.out).trans (HC.out j _ 1 _ HYJ.out rfl), (hW.cell (p := ⟨b2, off2 + j * 11 + 2, none⟩) HB2.out).trans (HC.out j _ 2 _ HYJ.out rfl), (hW.cell (p := ⟨b2, off2 + j * 11 + 3, none⟩) HB2.out).trans (HC.out j _ 3 _ HYJ.out rfl), (hW.cell (p := ⟨b2, off2 + j * 11 + 4, none⟩) HB2.out).trans (HC.out j _ 4 _ HYJ.out rfl), (hW.cell (p := ⟨b2, off2 + j * 11 + 5, none⟩) HB2.out).trans (HC.out j _ 5 _ HYJ.out rfl), (hW.cell (p := ⟨b2, off2 + j * 11 + 6, none⟩) HB2.out).trans (HC.out j _ 6 _ HYJ.out rfl), (hW.cell (p := ⟨b2, off2 + j * 11 + 7, none⟩) HB2.out).trans (HC.out j _ 7 _ HYJ.out rfl), (hW.cell (p := ⟨b2, off2 + j * 11 + 8, none⟩) HB2.out).trans (HC.out j _ 8 _ HYJ.out rfl), (hW.cell (p := ⟨b2, off2 + j * 11 + 9, none⟩) HB2.out).trans (HC.out j _ 9 _ HYJ.out rfl), (hW.cell (p := ⟨b2, off2 + j * 11 + 10, none⟩) HB2.out).trans (HC.out j _ 10 _ HYJ.out rfl)⟩)
        refine region_mixt (Below wr.heap.size wr) [(0, false), (1, false), (2, false), (3, false), (4, false), (5, false), (6, true)] 1 7 (by kernel_rfl) rfl (by kernel_rfl) (Below wr.heap.size wr) ⟨Closed.below wr, fun _ h => h⟩ (Below.refl _ _).drew ?_
        simp only [pickOps, List.getElem?_cons_zero, List.getElem?_cons_succ]
        repeat (first | (refine mix_skip (by rfl) ?_; simp only [Act.put, List.setIfInBounds_toArray, List.set_cons_zero, List.set_cons_succ]) | (refine mix_read _ (by rfl) (fun W hW => by (have hq := HBW.out W hW; obtain ⟨x0, x1, x2, x3, x4, x5, x6, x7, x8, x9, x10, x11, x12, x13⟩ := hq; clear hW; go_simp; first | done | with_reducible rfl)) ?_; simp only [Act.put, List.setIfInBounds_toArray, List.set_cons_zero, List.set_cons_succ]))
        refine mix_meet (X := Option Addr × Nat × List Int × Int) (fun u => bitsV u.1 u.2.2.1.length u.2.1 u.2.2.2) (fun u W => Hands W u.1 u.2.2.1 ∧ Are u.2.2.1 u.2.2.2 ((bitsOf (numsHead m.pl ++ (m.secs.take j).flatMap numsSec)) ++ bitsOf (numsSec y)) ∧ ∀ q, u.1 = some q → wr.heap.size ≤ q.block ∧ q.block < W.heap.size) ⟨Closed.below wr, fun _ h => h⟩ (fun u W W' h hb => ⟨h.1.on hb, h.2.1, fun q hq => ⟨(h.2.2 q hq).1, Nat.lt_of_lt_of_le (h.2.2 q hq).2 hb.size⟩⟩) 28 #[bitsV A2 zs2.length c2 N2, y.val] (by rfl) (fun W hW => by (go_simp; first | done | rfl)) (fun W hW => (sectionR8_any _ _ _ _ _ y W HSI.out (HIN.out.1.on hW) HIN.out.2 (by have := HROOM.out; omega) (fun q hq => Nat.lt_of_lt_of_le (HQ2.out q hq) hW.size)).mono (fun e w' h => by
            obtain ⟨A', c', ys, M, rfl, h1, h2, h3, h4⟩ := h
            exact ⟨(A', c', ys, M), rfl, ⟨h1, h2, fun q hq => ⟨Nat.le_trans hW.size (h3 q hq).1, (h3 q hq).2⟩⟩, h4⟩)) (fun u1 => ?_)
        simp only [Act.put, List.setIfInBounds_toArray, List.set_cons_zero, List.set_cons_succ]
        refine mix_nil (fun W hW => ?_)
        simp only [List.drop_succ_cons, List.drop_zero]
        obtain ⟨hb, hh, ha, hf⟩ := hW
        obtain ⟨A3, c3, ys3, M3⟩ := u1
        simp only at hh ha hf
        have HP3 := HM.out.put (by have := HNX.out; omega) (by have := HNX.out; omega) hb hh ha hf (c := c3)
        rw [← HNEXT.out] at HP3
        have HP4 := Lib.hid HP3
        have hx4 := HBX.out.below hb HBX.out.lt
        have y0 := hx4.cell_at 0 rfl
        have y1 := hx4.cell_at 1 rfl
        have g0 := hx4.frozen 0
        have g1 := hx4.frozen 1
        clear HP3 hx4 hh ha hf hb
        go_wp2_with fail
        go_roundw
        case rel => exact ⟨j + 1, HLT.out, (by first | with_reducible exact loop_next1 j | exact loop_next j _ HLT.out HLM.out.1), HP4⟩
        case measure => exact (by first | with_reducible exact loop_less1 j _ HLT.out | exact loop_less j _ HLT.out HLM.out.1)
      · obtain rfl : j = m.secs.length := by omega
        clear hj hlt
        go_wp2_with fail
        have HPN : Hid (PutQ w n X m (bitsOf (baseG m.pl ++ (m.sigs.take 0).flatMap numsPort)) wr) := Lib.hid (by have h := HM.out; rw [base_secs] at h; exact h)
        clear HM
        go_loopw [6] (fun i wr => ∃ j : Nat, j ≤ m.sigs.length ∧ i = .int .i64 j ∧ Hid (PutQ w n X m (bitsOf (baseG m.pl ++ (m.sigs.take j).flatMap numsPort)) wr)) (fun i _ => m.sigs.length - (intOf i).toNat)
        case atStart => exact ⟨0, by omega, rfl, HPN⟩
        case round =>
          clear HPN
          obtain ⟨j, hj, rfl, HM⟩ := hrel
          have x0 := HM.out.sx.cell_at 1 rfl
          by_cases hlt : j < m.sigs.length
          · have hlt' : (j : Int) < (m.sigs.length : Int) := by omega
            have HLT := Lib.hid hlt
            obtain ⟨y, hyj⟩ : ∃ y, m.sigs[j]? = some y := ⟨_, List.getElem?_eq_getElem hlt⟩
            obtain ⟨b2, off2, hAS, hb2, hc0, hc⟩ := (HL.out _ HM.out.below).sigs.nth (n := 2) (fun _ => rfl) (by omega) hyj
            have HAS := Lib.hid hAS
            have HB2 := Lib.hid hb2
            have HC0 := Lib.hid hc0
            have HC := Lib.hid hc
            have HYJ := Lib.hid hyj
            have HROOM := Lib.hid (HPT1.out.room j)
            have HNEXT := Lib.hid (HPT1.out.next j _ hyj)
            have HFIT := Lib.hid (HPT1.out.fit j _ hyj)
            clear hAS hb2 hc0 hc hyj hlt
            obtain ⟨A2, c2, zs2, N2, hbx, hh2, ha2, hq2⟩ := HM.out.b
            have HBX := Lib.hid hbx
            have HIN := Lib.hid (And.intro hh2 ha2)
            have HQ2 : Hid (∀ q, A2 = some q → q.block < wr.heap.size) := Lib.hid (fun q hq => (hq2 q hq).2)
            clear hbx hh2 ha2 hq2
            obtain ⟨ya, yb⟩ := y
            go_wp2_with fail
            clear x0
            have HBW : Hid (∀ W, Below wr.heap.size wr W → W.cell? ⟨n, 1, none⟩ = some (.slice (some ⟨b2, off2, none⟩) m.sigs.length m.cg) ∧ W.cell? ⟨X, 0, none⟩ = some (.slice A2 zs2.length c2) ∧ W.cell? ⟨X, 1, none⟩ = some (.int .i64 N2) ∧ W.cell? ⟨b2, off2 + j * 2, none⟩ = some (.int .i64 ya) ∧ W.cell? ⟨b2, off2 + j * 2 + 1, none⟩ = some (.int .i64 yb)) := Lib.hid (fun W hW =>
              have hB := HBX.out.below hW HBX.out.lt
              have hS := HM.out.sx.below hW HM.out.sx.lt
              ⟨by rw [← HAS.out]; exact hS.cell_at 1 rfl, hB.cell_at 0 rfl, hB.cell_at 1 rfl, (hW.cell (p := ⟨b2, off2 + j * 2, none⟩) HB2.out).trans (HC0.out j _ _ HYJ.out rfl), (hW.cell (p := ⟨b2, off2 + j * 2 + 1, none⟩) HB2.out).trans (HC.out j _ 1 _ HYJ.out rfl)⟩)
            refine region_mixt (Below wr.heap.size wr) [(0, false), (1, false), (2, false), (3, false), (4, false), (5, false), (6, false), (7, false), (9, false), (10, false), (11, false), (12, false), (13, false), (14, false), (15, false), (8, true), (16, true)] 1 17 (by kernel_rfl) rfl (by kernel_rfl) (Below wr.heap.size wr) ⟨Closed.below wr, fun _ h => h⟩ (Below.refl _ _).drew ?_
            simp only [pickOps, List.getElem?_cons_zero, List.getElem?_cons_succ]
            repeat (first | (refine mix_skip (by rfl) ?_; simp only [Act.put, List.setIfInBounds_toArray, List.set_cons_zero, List.set_cons_succ]) | (refine mix_read _ (by rfl) (fun W hW => by (have hq := HBW.out W hW; obtain ⟨x0, x1, x2, x3, x4⟩ := hq; clear hW; go_simp; first | done | with_reducible rfl)) ?_; simp only [Act.put, List.setIfInBounds_toArray, List.set_cons_zero, List.set_cons_succ]))
            refine mix_meet (X := Option Addr × Nat × List Int × Int) (fun u => bitsV u.1 u.2.2.1.length u.2.1 u.2.2.2) (fun u W => Hands W u.1 u.2.2.1 ∧ Are u.2.2.1 u.2.2.2 (bitsOf (baseG m.pl ++ (m.sigs.take j).flatMap numsPort) ++ bitsN (ya, 5)) ∧ ∀ q, u.1 = some q → wr.heap.size ≤ q.block ∧ q.block < W.heap.size) ⟨Closed.below wr, fun _ h => h⟩ (fun u W W' h hb => ⟨h.1.on hb, h.2.1, fun q hq => ⟨(h.2.2 q hq).1, Nat.lt_of_lt_of_le (h.2.2 q hq).2 hb.size⟩⟩) 27 #[bitsV A2 zs2.length c2 N2, .int .i64 ya, .int .i64 5] (by rfl) (fun W hW => by (go_simp; first | done | rfl)) (fun W hW => (putR8_any _ _ _ _ _ ya 5 W rfl (HIN.out.1.on hW) HIN.out.2 (by have := HROOM.out; omega) (HFIT.out (ya, 5) (by simp [numsPort]))).mono (fun e w' h => by
                      obtain ⟨A', c', ys, M, rfl, h1, h2, h3, h4⟩ := h
                      exact ⟨(A', c', ys, M), rfl, ⟨h1, h2, fun q hq => ⟨Nat.le_trans hW.size (h3 q hq).1, (h3 q hq).2⟩⟩, h4⟩)) (fun u1 => ?_)
            simp only [Act.put, List.setIfInBounds_toArray, List.set_cons_zero, List.set_cons_succ]
            refine mix_meet (X := Option Addr × Nat × List Int × Int) (fun u => bitsV u.1 u.2.2.1.length u.2.1 u.2.2.2) (fun u W => Hands W u.1 u.2.2.1 ∧ Are u.2.2.1 u.2.2.2 ((bitsOf (baseG m.pl ++ (m.sigs.take j).flatMap numsPort) ++ bitsN (ya, 5)) ++ bitsN (yb, 2)) ∧ ∀ q, u.1 = some q → wr.heap.size ≤ q.block ∧ q.block < W.heap.size) ⟨(Closed.below wr).and (fun _ _ h hb => ⟨h.1.on hb, h.2.1, fun q hq => ⟨(h.2.2 q hq).1, Nat.lt_of_lt_of_le (h.2.2 q hq).2 hb.size⟩⟩), fun _ h => h.1⟩ (fun u W W' h hb => ⟨h.1.on hb, h.2.1, fun q hq => ⟨(h.2.2 q hq).1, Nat.lt_of_lt_of_le (h.2.2 q hq).2 hb.size⟩⟩) 27 #[bitsV u1.1 u1.2.2.1.length u1.2.1 u1.2.2.2, .int .i64 yb, .int .i64 2] (by rfl) (fun W hW => by (go_simp; first | done | rfl)) (fun W hW => (putR8_any _ _ _ _ _ yb 2 W rfl hW.2.1 hW.2.2.1 (by have := HROOM.out; simp only [List.length_append, bitsN_length]; omega) (HFIT.out (yb, 2) (by simp [numsPort]))).mono (fun e w' h => by
                      obtain ⟨A', c', ys, M, rfl, h1, h2, h3, h4⟩ := h
                      exact ⟨(A', c', ys, M), rfl, ⟨h1, h2, fun q hq => ⟨Nat.le_trans hW.1.size (h3 q hq).1, (h3 q hq).2⟩⟩, h4⟩)) (fun u2 => ?_)
            simp only [Act.put, List.setIfInBounds_toArray, List.set_cons_zero, List.set_cons_succ]
            refine mix_nil (fun W hW => ?_)
            simp only [List.drop_succ_cons, List.drop_zero]
            obtain ⟨⟨hb, _⟩, hh, ha, hf⟩ := hW
            obtain ⟨A3, c3, ys3, M3⟩ := u2
            simp only at hh ha hf
            have HP3 := HM.out.put (by have := HNX.out; omega) (by have := HNX.out; omega) hb hh ha hf (c := c3)
            rw [List.append_assoc, ← port_bits (ya, yb), ← HNEXT.out] at HP3
            have HP4 := Lib.hid HP3
            have hx4 := HBX.out.below hb HBX.out.lt
            have y0 := hx4.cell_at 0 rfl
            have y1 := hx4.cell_at 1 rfl
            have g0 := hx4.frozen 0
            have g1 := hx4.frozen 1
            clear HP3 hx4 hh ha hf hb
            go_wp2_with fail
            go_roundw
            case rel => exact ⟨j + 1, HLT.out, (by first | with_reducible exact loop_next1 j | exact loop_next j _ HLT.out HLM.out.2.1), HP4⟩
            case measure => exact (by first | with_reducible exact loop_less1 j _ HLT.out | exact loop_less j _ HLT.out HLM.out.2.1)
          · obtain rfl : j = m.sigs.length := by omega
            clear hj hlt
            go_wp2_with fail
            have HPN : Hid (PutQ w n X m (bitsOf (baseE m.pl ++ (m.exits.take 0).flatMap numsExm)) wr) := Lib.hid (by have h := HM.out; rw [base_sigs] at h; exact h)
            clear HM
            go_loopw [7] (fun i wr => ∃ j : Nat, j ≤ m.exits.length ∧ i = .int .i64 j ∧ Hid (PutQ w n X m (bitsOf (baseE m.pl ++ (m.exits.take j).flatMap numsExm)) wr)) (fun i _ => m.exits.length - (intOf i).toNat)
            case atStart => exact ⟨0, by omega, rfl, HPN⟩
            case round =>
              clear HPN
              obtain ⟨j, hj, rfl, HM⟩ := hrel
              have x0 := HM.out.sx.cell_at 2 rfl
              by_cases hlt : j < m.exits.length
              · have hlt' : (j : Int) < (m.exits.length : Int) := by omega
                have HLT := Lib.hid hlt
                obtain ⟨y, hyj⟩ : ∃ y, m.exits[j]? = some y := ⟨_, List.getElem?_eq_getElem hlt⟩
                obtain ⟨b2, off2, hAS, hb2, hc0, hc⟩ := (HL.out _ HM.out.below).exits.nth (n := 3) (fun _ => rfl) (by omega) hyj
                have HAS := Lib.hid hAS
                have HB2 := Lib.hid hb2
                have HC0 := Lib.hid hc0
                have HC := Lib.hid hc
                have HYJ := Lib.hid hyj
                have HROOM := Lib.hid (HPT2.out.room j)
                have HNEXT := Lib.hid (HPT2.out.next j _ hyj)
                have HFIT := Lib.hid (HPT2.out.fit j _ hyj)
                clear hAS hb2 hc0 hc hyj hlt
                obtain ⟨ea, eb, eA, ec, ov⟩ := y
                rw [HAS.out] at x0
                have d0 := HC0.out j _ _ HYJ.out rfl
                have d1 := HC.out j _ 1 _ HYJ.out rfl
                have d2 := HC.out j _ 2 _ HYJ.out rfl
                have HPO := Lib.hid (part_over HF.out HYJ.out)
                simp only at HPO
                have HMEM := Lib.hid (List.mem_of_getElem? HYJ.out)
                go_wp2_with fail
                clear x0 d0 d1 d2
                obtain ⟨wb, hwb⟩ : ∃ W, wr.alloc (.cells #[.int .i64 ea, .int .i64 eb, .slice eA ov.length ec] 51) = W := ⟨_, rfl⟩
                try rw [hwb]
                have HM2 := HM.out.keep (W' := wb) (by rw [← hwb]; exact below1 _ _)
                have HEX : Hid (Whole wb wr.heap.size 51 [.int .i64 ea, .int .i64 eb, .slice eA ov.length ec]) := Lib.hid (by rw [← hwb]; exact Whole.new wr _ _)
                have HEN : Hid (X < wr.heap.size ∧ n < wr.heap.size) := Lib.hid ⟨by obtain ⟨A, c, zs, N, k1, _⟩ := HM.out.b; exact k1.lt, HM.out.sx.lt⟩
                obtain ⟨E, hE⟩ : ∃ E, wr.heap.size = E := ⟨_, rfl⟩
                rw [hE] at HEX HEN ⊢
                clear HM hwb hE
                have HM := Lib.hid HM2
                clear HM2
                obtain ⟨A2, c2, zs2, N2, hbx, hh2, ha2, hq2⟩ := HM.out.b
                have HBX := Lib.hid hbx
                have HIN := Lib.hid (And.intro hh2 ha2)
                have HQ2 : Hid (∀ q, A2 = some q → q.block < wb.heap.size) := Lib.hid (fun q hq => (hq2 q hq).2)
                clear hbx hh2 ha2 hq2
                have HBW : Hid (∀ W, Below wb.heap.size wb W → W.cell? ⟨X, 0, none⟩ = some (.slice A2 zs2.length c2) ∧ W.cell? ⟨X, 1, none⟩ = some (.int .i64 N2) ∧ W.cell? ⟨E, 0, none⟩ = some (.int .i64 ea) ∧ W.cell? ⟨E, 1, none⟩ = some (.int .i64 eb) ∧ W.cell? ⟨E, 2, none⟩ = some (.slice eA ov.length ec)) := Lib.hid (fun W hW =>
                  have hB := HBX.out.below hW HBX.out.lt
                  have hE := HEX.out.below hW HEX.out.lt
                  ⟨hB.cell_at 0 rfl, hB.cell_at 1 rfl, hE.cell_at 0 rfl, hE.cell_at 1 rfl, hE.cell_at 2 rfl⟩)
                refine region_mixt (Below wb.heap.size wb) [(0, false), (1, false), (2, false), (3, false), (5, false), (6, false), (7, false), (9, false), (10, false), (11, false), (4, true), (8, true), (12, true)] 1 13 (by kernel_rfl) rfl (by kernel_rfl) (Below wb.heap.size wb) ⟨Closed.below wb, fun _ h => h⟩ (Below.refl _ _).drew ?_
                simp only [pickOps, List.getElem?_cons_zero, List.getElem?_cons_succ]
                repeat (first | (refine mix_skip (by rfl) ?_; simp only [Act.put, List.setIfInBounds_toArray, List.set_cons_zero, List.set_cons_succ]) | (refine mix_read _ (by rfl) (fun W hW => by (have hq := HBW.out W hW; obtain ⟨x0, x1, x2, x3, x4⟩ := hq; clear hW; go_simp; first | done | with_reducible rfl)) ?_; simp only [Act.put, List.setIfInBounds_toArray, List.set_cons_zero, List.set_cons_succ]))
                refine mix_meet (X := Option Addr × Nat × List Int × Int) (fun u => bitsV u.1 u.2.2.1.length u.2.1 u.2.2.2) (fun u W => Hands W u.1 u.2.2.1 ∧ Are u.2.2.1 u.2.2.2 (bitsOf (baseE m.pl ++ (m.exits.take j).flatMap numsExm) ++ bitsN (ea, 5)) ∧ ∀ q, u.1 = some q → wb.heap.size ≤ q.block ∧ q.block < W.heap.size) ⟨Closed.below wb, fun _ h => h⟩ (fun u W W' h hb => ⟨h.1.on hb, h.2.1, fun q hq => ⟨(h.2.2 q hq).1, Nat.lt_of_lt_of_le (h.2.2 q hq).2 hb.size⟩⟩) 27 #[bitsV A2 zs2.length c2 N2, .int .i64 ea, .int .i64 5] (by rfl) (fun W hW => by (go_simp; first | done | rfl)) (fun W hW => (putR8_any _ _ _ _ _ ea 5 W rfl (HIN.out.1.on hW) HIN.out.2 (by have := HROOM.out; omega) (HFIT.out (ea, 5) (by simp [numsExm, numsExit, numsPort, Exm.pure]))).mono (fun e w' h => by
                          obtain ⟨A', c', ys, M, rfl, h1, h2, h3, h4⟩ := h
                          exact ⟨(A', c', ys, M), rfl, ⟨h1, h2, fun q hq => ⟨Nat.le_trans hW.size (h3 q hq).1, (h3 q hq).2⟩⟩, h4⟩)) (fun u1 => ?_)
                simp only [Act.put, List.setIfInBounds_toArray, List.set_cons_zero, List.set_cons_succ]
                refine mix_meet (X := Option Addr × Nat × List Int × Int) (fun u => bitsV u.1 u.2.2.1.length u.2.1 u.2.2.2) (fun u W => Hands W u.1 u.2.2.1 ∧ Are u.2.2.1 u.2.2.2 ((bitsOf (baseE m.pl ++ (m.exits.take j).flatMap numsExm) ++ bitsN (ea, 5)) ++ bitsN (eb, 2)) ∧ ∀ q, u.1 = some q → wb.heap.size ≤ q.block ∧ q.block < W.heap.size) ⟨(Closed.below wb).and (fun _ _ h hb => ⟨h.1.on hb, h.2.1, fun q hq => ⟨(h.2.2 q hq).1, Nat.lt_of_lt_of_le (h.2.2 q hq).2 hb.size⟩⟩), fun _ h => h.1⟩ (fun u W W' h hb => ⟨h.1.on hb, h.2.1, fun q hq => ⟨(h.2.2 q hq).1, Nat.lt_of_lt_of_le (h.2.2 q hq).2 hb.size⟩⟩) 27 #[bitsV u1.1 u1.2.2.1.length u1.2.1 u1.2.2.2, .int .i64 eb, .int .i64 2] (by rfl) (fun W hW => by (go_simp; first | done | rfl)) (fun W hW => (putR8_any _ _ _ _ _ eb 2 W rfl hW.2.1 hW.2.2.1 (by have := HROOM.out; simp only [List.length_append, bitsN_length]; omega) (HFIT.out (eb, 2) (by simp [numsExm, numsExit, numsPort, Exm.pure]))).mono (fun e w' h => by
                          obtain ⟨A', c', ys, M, rfl, h1, h2, h3, h4⟩ := h
                          exact ⟨(A', c', ys, M), rfl, ⟨h1, h2, fun q hq => ⟨Nat.le_trans hW.1.size (h3 q hq).1, (h3 q hq).2⟩⟩, h4⟩)) (fun u2 => ?_)
                simp only [Act.put, List.setIfInBounds_toArray, List.set_cons_zero, List.set_cons_succ]
                refine mix_meet (X := Option Addr × Nat × List Int × Int) (fun u => bitsV u.1 u.2.2.1.length u.2.1 u.2.2.2) (fun u W => Hands W u.1 u.2.2.1 ∧ Are u.2.2.1 u.2.2.2 (((bitsOf (baseE m.pl ++ (m.exits.take j).flatMap numsExm) ++ bitsN (ea, 5)) ++ bitsN (eb, 2)) ++ bitsN ((ov.length : Int), 2)) ∧ ∀ q, u.1 = some q → wb.heap.size ≤ q.block ∧ q.block < W.heap.size) ⟨((Closed.below wb).and (fun _ _ h hb => ⟨h.1.on hb, h.2.1, fun q hq => ⟨(h.2.2 q hq).1, Nat.lt_of_lt_of_le (h.2.2 q hq).2 hb.size⟩⟩)).and (fun _ _ h hb => ⟨h.1.on hb, h.2.1, fun q hq => ⟨(h.2.2 q hq).1, Nat.lt_of_lt_of_le (h.2.2 q hq).2 hb.size⟩⟩), fun _ h => h.1.1⟩ (fun u W W' h hb => ⟨h.1.on hb, h.2.1, fun q hq => ⟨(h.2.2 q hq).1, Nat.lt_of_lt_of_le (h.2.2 q hq).2 hb.size⟩⟩) 27 #[bitsV u2.1 u2.2.2.1.length u2.2.1 u2.2.2.2, .int .i64 (ov.length : Int), .int .i64 2] (by rfl) (fun W hW => by (go_simp; first | done | rfl)) (fun W hW => (putR8_any _ _ _ _ _ (ov.length : Int) 2 W rfl hW.2.1 hW.2.2.1 (by have := HROOM.out; simp only [List.length_append, bitsN_length]; omega) (HFIT.out ((ov.length : Int), 2) (by simp [numsExm, numsExit, numsPort, Exm.pure]))).mono (fun e w' h => by
                          obtain ⟨A', c', ys, M, rfl, h1, h2, h3, h4⟩ := h
                          exact ⟨(A', c', ys, M), rfl, ⟨h1, h2, fun q hq => ⟨Nat.le_trans hW.1.1.size (h3 q hq).1, (h3 q hq).2⟩⟩, h4⟩)) (fun u3 => ?_)
                simp only [Act.put, List.setIfInBounds_toArray, List.set_cons_zero, List.set_cons_succ]
                refine mix_nil (fun W hW => ?_)
                simp only [List.drop_succ_cons, List.drop_zero]
                obtain ⟨⟨⟨hb, _⟩, _⟩, hh, ha, hf⟩ := hW
                obtain ⟨A3, c3, ys3, M3⟩ := u3
                simp only at hh ha hf
                have HP3 := HM.out.put (by have := HNX.out; omega) (by have := HNX.out; omega) hb hh ha hf (c := c3)
                have HP5 : Hid (PutQ w n X m (bitsOf (((baseE m.pl ++ (m.exits.take j).flatMap numsExm) ++ [(ea, 5), (eb, 2), ((ov.length : Int), 2)]) ++ (ov.take 0).flatMap numsStep)) ((W.setCell ⟨X, 0, none⟩ (.slice A3 ys3.length c3)).setCell ⟨X, 1, none⟩ (.int .i64 M3))) := Lib.hid (by
                  have e : bitsOf (((baseE m.pl ++ (m.exits.take j).flatMap numsExm) ++ [(ea, 5), (eb, 2), ((ov.length : Int), 2)]) ++ (ov.take 0).flatMap numsStep) = ((bitsOf (baseE m.pl ++ (m.exits.take j).flatMap numsExm) ++ bitsN (ea, 5)) ++ bitsN (eb, 2)) ++ bitsN ((ov.length : Int), 2) := by rw [List.take_zero, bitsOf_append, bitsOf_append]; simp [bitsOf]
                  rw [e]
                  exact HP3)
                have HEX2 : Hid (Whole ((W.setCell ⟨X, 0, none⟩ (.slice A3 ys3.length c3)).setCell ⟨X, 1, none⟩ (.int .i64 M3)) E 51 [.int .i64 ea, .int .i64 eb, .slice eA ov.length ec]) := Lib.hid (((HEX.out.below hb HEX.out.lt).far (p := ⟨X, 0, none⟩) (by have := HEN.out.1; show E ≠ X; omega) _).far (p := ⟨X, 1, none⟩) (by have := HEN.out.1; show E ≠ X; omega) _)
                have hx4 := HBX.out.below hb HBX.out.lt
                have y0 := hx4.cell_at 0 rfl
                have y1 := hx4.cell_at 1 rfl
                have g0 := hx4.frozen 0
                have g1 := hx4.frozen 1
                clear HP3 hx4 hh ha hf hb
                go_wp2_with fail
                obtain ⟨wc, hwc⟩ : ∃ W1, (W.setCell ⟨X, 0, none⟩ (.slice A3 ys3.length c3)).setCell ⟨X, 1, none⟩ (.int .i64 M3) = W1 := ⟨_, rfl⟩
                rw [hwc] at HP5 HEX2 ⊢
                clear hwc y0 y1 g0 g1
                go_loopw [9] (fun i wr => ∃ k : Nat, k ≤ ov.length ∧ i = .int .i64 k ∧ Hid (PutQ w n X m (bitsOf (((baseE m.pl ++ (m.exits.take j).flatMap numsExm) ++ [(ea, 5), (eb, 2), ((ov.length : Int), 2)]) ++ (ov.take k).flatMap numsStep)) wr ∧ Whole wr E 51 [.int .i64 ea, .int .i64 eb, .slice eA ov.length ec])) (fun i _ => ov.length - (intOf i).toNat)
                case atStart => exact ⟨0, by omega, rfl, Lib.hid ⟨HP5.out, HEX2.out⟩⟩
                case round =>
                  clear HP5 HEX2
                  obtain ⟨k, hk, rfl, HMI⟩ := hrel
                  rename World => wq
                  have x2 : wq.cell? ⟨E, 2, none⟩ = some (.slice eA ov.length ec) := HMI.out.2.cell_at 2 rfl
                  by_cases hlk : k < ov.length
                  · have hlk' : (k : Int) < (ov.length : Int) := by omega
                    have HLK := Lib.hid hlk
                    obtain ⟨⟨sa, sb, sc⟩, hsk⟩ : ∃ s, ov[k]? = some s := ⟨_, List.getElem?_eq_getElem hlk⟩
                    obtain ⟨b3, off3, hAO, hb3, hd0, hd⟩ := ((HL.out _ HMI.out.1.below).overs _ HMEM.out).nth (n := 3) (fun _ => rfl) (by omega) hsk
                    simp only at hAO
                    have HAO := Lib.hid hAO
                    have HB3 := Lib.hid hb3
                    have HD0 := Lib.hid hd0
                    have HD := Lib.hid hd
                    have HSK := Lib.hid hsk
                    have HROOM3 := Lib.hid (HPO.out.room k)
                    have HNEXT3 := Lib.hid (HPO.out.next k _ hsk)
                    have HFIT3 := Lib.hid (HPO.out.fit k _ hsk)
                    have HOV : Hid (ov.length ≤ 1000) := Lib.hid (by have h := (HF.out.exits _ (List.mem_map_of_mem HMEM.out)).2.1; simp only [Exm.pure] at h; omega)
                    clear hAO hb3 hd0 hd hsk hlk
                    obtain ⟨A2, c2, zs2, N2, hbx, hh2, ha2, hq2⟩ := HMI.out.1.b
                    have HBX := Lib.hid hbx
                    have HIN := Lib.hid (And.intro hh2 ha2)
                    have HQ2 : Hid (∀ q, A2 = some q → q.block < wq.heap.size) := Lib.hid (fun q hq => (hq2 q hq).2)
                    clear hbx hh2 ha2 hq2
                    go_wp2_with fail
                    clear x2
                    have HBW : Hid (∀ W, Below wq.heap.size wq W → W.cell? ⟨X, 0, none⟩ = some (.slice A2 zs2.length c2) ∧ W.cell? ⟨X, 1, none⟩ = some (.int .i64 N2) ∧ W.cell? ⟨E, 2, none⟩ = some (.slice (some ⟨b3, off3, none⟩) ov.length ec) ∧ W.cell? ⟨b3, off3 + k * 3, none⟩ = some (.int .i64 sa) ∧ W.cell? ⟨b3, off3 + k * 3 + 1, none⟩ = some (.int .i64 sb) ∧ W.cell? ⟨b3, off3 + k * 3 + 2, none⟩ = some (.int .i64 sc)) := Lib.hid (fun W hW =>
                      have hB := HBX.out.below hW HBX.out.lt
                      have hE := HMI.out.2.below hW HMI.out.2.lt
                      ⟨hB.cell_at 0 rfl, hB.cell_at 1 rfl, by rw [← HAO.out]; exact hE.cell_at 2 rfl, (hW.cell (p := ⟨b3, off3 + k * 3, none⟩) HB3.out).trans (HD0.out k _ _ HSK.out rfl), (hW.cell (p := ⟨b3, off3 + k * 3 + 1, none⟩) HB3.out).trans (HD.out k _ 1 _ HSK.out rfl), (hW.cell (p := ⟨b3, off3 + k * 3 + 2, none⟩) HB3.out).trans (HD.out k _ 2 _ HSK.out rfl)⟩)
                    refine region_mixt (Below wq.heap.size wq) [(0, false), (1, false), (2, false), (3, false), (4, false), (5, false), (6, false), (8, false), (9, false), (10, false), (11, false), (12, false), (13, false), (15, false), (16, false), (17, false), (18, false), (19, false), (20, false), (7, true), (14, true), (21, true)] 1 22 (by kernel_rfl) rfl (by kernel_rfl) (Below wq.heap.size wq) ⟨Closed.below wq, fun _ h => h⟩ (Below.refl _ _).drew ?_
                    simp only [pickOps, List.getElem?_cons_zero, List.getElem?_cons_succ]
                    repeat (first | (refine mix_skip (by rfl) ?_; simp only [Act.put, List.setIfInBounds_toArray, List.set_cons_zero, List.set_cons_succ]) | (refine mix_read _ (by rfl) (fun W hW => by (have hq := HBW.out W hW; obtain ⟨x0, x1, x2, x3, x4, x5⟩ := hq; clear hW; go_simp; first | done | with_reducible rfl)) ?_; simp only [Act.put, List.setIfInBounds_toArray, List.set_cons_zero, List.set_cons_succ]))
                    refine mix_meet (X := Option Addr × Nat × List Int × Int) (fun u => bitsV u.1 u.2.2.1.length u.2.1 u.2.2.2) (fun u W => Hands W u.1 u.2.2.1 ∧ Are u.2.2.1 u.2.2.2 (bitsOf (((baseE m.pl ++ (m.exits.take j).flatMap numsExm) ++ [(ea, 5), (eb, 2), ((ov.length : Int), 2)]) ++ (ov.take k).flatMap numsStep) ++ bitsN (sa, 5)) ∧ ∀ q, u.1 = some q → wq.heap.size ≤ q.block ∧ q.block < W.heap.size) ⟨Closed.below wq, fun _ h => h⟩ (fun u W W' h hb => ⟨h.1.on hb, h.2.1, fun q hq => ⟨(h.2.2 q hq).1, Nat.lt_of_lt_of_le (h.2.2 q hq).2 hb.size⟩⟩) 27 #[bitsV A2 zs2.length c2 N2, .int .i64 sa, .int .i64 5] (by rfl) (fun W hW => by (go_simp; first | done | rfl)) (fun W hW => (putR8_any _ _ _ _ _ sa 5 W rfl (HIN.out.1.on hW) HIN.out.2 (by have := HROOM3.out; omega) (HFIT3.out (sa, 5) (by simp [numsStep]))).mono (fun e w' h => by
                              obtain ⟨A', c', ys, M, rfl, h1, h2, h3, h4⟩ := h
                              exact ⟨(A', c', ys, M), rfl, ⟨h1, h2, fun q hq => ⟨Nat.le_trans hW.size (h3 q hq).1, (h3 q hq).2⟩⟩, h4⟩)) (fun u1 => ?_)
                    simp only [Act.put, List.setIfInBounds_toArray, List.set_cons_zero, List.set_cons_succ]
                    refine mix_meet (X := Option Addr × Nat × List Int × Int) (fun u => bitsV u.1 u.2.2.1.length u.2.1 u.2.2.2) (fun u W => Hands W u.1 u.2.2.1 ∧ Are u.2.2.1 u.2.2.2 ((bitsOf (((baseE m.pl ++ (m.exits.take j).flatMap numsExm) ++ [(ea, 5), (eb, 2), ((ov.length : Int), 2)]) ++ (ov.take k).flatMap numsStep) ++ bitsN (sa, 5)) ++ bitsN (sb, 2)) ∧ ∀ q, u.1 = some q → wq.heap.size ≤ q.block ∧ q.block < W.heap.size) ⟨(Closed.below wq).and (fun _ _ h hb => ⟨h.1.on hb, h.2.1, fun q hq => ⟨(h.2.2 q hq).1, Nat.lt_of_lt_of_le (h.2.2 q hq).2 hb.size⟩⟩), fun _ h => h.1⟩ (fun u W W' h hb => ⟨h.1.on hb, h.2.1, fun q hq => ⟨(h.2.2 q hq).1, Nat.lt_of_lt_of_le (h.2.2 q hq).2 hb.size⟩⟩) 27 #[bitsV u1.1 u1.2.2.1.length u1.2.1 u1.2.2.2, .int .i64 sb, .int .i64 2] (by rfl) (fun W hW => by (go_simp; first | done | rfl)) (fun W hW => (putR8_any _ _ _ _ _ sb 2 W rfl hW.2.1 hW.2.2.1 (by have := HROOM3.out; simp only [List.length_append, bitsN_length]; omega) (HFIT3.out (sb, 2) (by simp [numsStep]))).mono (fun e w' h => by
                              obtain ⟨A', c', ys, M, rfl, h1, h2, h3, h4⟩ := h
                              exact ⟨(A', c', ys, M), rfl, ⟨h1, h2, fun q hq => ⟨Nat.le_trans hW.1.size (h3 q hq).1, (h3 q hq).2⟩⟩, h4⟩)) (fun u2 => ?_)
                    simp only [Act.put, List.setIfInBounds_toArray, List.set_cons_zero, List.set_cons_succ]
                    refine mix_meet (X := Option Addr × Nat × List Int × Int) (fun u => bitsV u.1 u.2.2.1.length u.2.1 u.2.2.2) (fun u W => Hands W u.1 u.2.2.1 ∧ Are u.2.2.1 u.2.2.2 (((bitsOf (((baseE m.pl ++ (m.exits.take j).flatMap numsExm) ++ [(ea, 5), (eb, 2), ((ov.length : Int), 2)]) ++ (ov.take k).flatMap numsStep) ++ bitsN (sa, 5)) ++ bitsN (sb, 2)) ++ bitsN (sc, 2)) ∧ ∀ q, u.1 = some q → wq.heap.size ≤ q.block ∧ q.block < W.heap.size) ⟨((Closed.below wq).and (fun _ _ h hb => ⟨h.1.on hb, h.2.1, fun q hq => ⟨(h.2.2 q hq).1, Nat.lt_of_lt_of_le (h.2.2 q hq).2 hb.size⟩⟩)).and (fun _ _ h hb => ⟨h.1.on hb, h.2.1, fun q hq => ⟨(h.2.2 q hq).1, Nat.lt_of_lt_of_le (h.2.2 q hq).2 hb.size⟩⟩), fun _ h => h.1.1⟩ (fun u W W' h hb => ⟨h.1.on hb, h.2.1, fun q hq => ⟨(h.2.2 q hq).1, Nat.lt_of_lt_of_le (h.2.2 q hq).2 hb.size⟩⟩) 27 #[bitsV u2.1 u2.2.2.1.length u2.2.1 u2.2.2.2, .int .i64 sc, .int .i64 2] (by rfl) (fun W hW => by (go_simp; first | done | rfl)) (fun W hW => (putR8_any _ _ _ _ _ sc 2 W rfl hW.2.1 hW.2.2.1 (by have := HROOM3.out; simp only [List.length_append, bitsN_length]; omega) (HFIT3.out (sc, 2) (by simp [numsStep]))).mono (fun e w' h => by
                              obtain ⟨A', c', ys, M, rfl, h1, h2, h3, h4⟩ := h
                              exact ⟨(A', c', ys, M), rfl, ⟨h1, h2, fun q hq => ⟨Nat.le_trans hW.1.1.size (h3 q hq).1, (h3 q hq).2⟩⟩, h4⟩)) (fun u3 => ?_)
                    simp only [Act.put, List.setIfInBounds_toArray, List.set_cons_zero, List.set_cons_succ]
                    refine mix_nil (fun W hW => ?_)
                    simp only [List.drop_succ_cons, List.drop_zero]
                    obtain ⟨⟨⟨hb, _⟩, _⟩, hh, ha, hf⟩ := hW
                    obtain ⟨A3, c3, ys3, M3⟩ := u3
                    simp only at hh ha hf
                    have HP3 := HMI.out.1.put (by have := HNX.out; omega) (by have := HNX.out; omega) hb hh ha hf (c := c3)
                    have HE9 : Whole ((W.setCell ⟨X, 0, none⟩ (.slice A3 ys3.length c3)).setCell ⟨X, 1, none⟩ (.int .i64 M3)) E 51 [.int .i64 ea, .int .i64 eb, .slice eA ov.length ec] := ((HMI.out.2.below hb HMI.out.2.lt).far (p := ⟨X, 0, none⟩) (by have := HEN.out.1; show E ≠ X; omega) _).far (p := ⟨X, 1, none⟩) (by have := HEN.out.1; show E ≠ X; omega) _
                    rw [List.append_assoc, List.append_assoc, ← List.append_assoc (bitsN _), ← step_bits (sa, sb, sc), ← HNEXT3.out] at HP3
                    have HP4 := Lib.hid (And.intro HP3 HE9)
                    have hx4 := HBX.out.below hb HBX.out.lt
                    have y0 := hx4.cell_at 0 rfl
                    have y1 := hx4.cell_at 1 rfl
                    have g0 := hx4.frozen 0
                    have g1 := hx4.frozen 1
                    clear HP3 HE9 hx4 hh ha hf hb
                    go_wp2_with fail
                    go_roundw
                    case rel => exact ⟨k + 1, HLK.out, (by first | with_reducible exact loop_next1 k | exact loop_next k _ HLK.out HOV.out), HP4⟩
                    case measure => exact (by first | with_reducible exact loop_less1 k _ HLK.out | exact loop_less k _ HLK.out HOV.out)
                  · obtain rfl : k = ov.length := by omega
                    have HP6 : Hid (PutQ w n X m (bitsOf (baseE m.pl ++ (m.exits.take (j + 1)).flatMap numsExm)) wq) := Lib.hid (by
                      have h := HMI.out.1
                      rw [List.take_length] at h
                      rw [HNEXT.out]
                      have e : bitsOf (((baseE m.pl ++ (m.exits.take j).flatMap numsExm) ++ [(ea, 5), (eb, 2), ((ov.length : Int), 2)]) ++ ov.flatMap numsStep) = bitsOf (baseE m.pl ++ (m.exits.take j).flatMap numsExm) ++ bitsOf (numsExm ⟨ea, eb, eA, ec, ov⟩) := by rw [← bitsOf_append]; simp [numsExm, numsExit, numsPort, Exm.pure]
                      rw [← e]
                      exact h)
                    clear hk hlk HMI
                    go_wp2_with fail
                    go_roundw
                    case rel => exact ⟨j + 1, HLT.out, (by first | with_reducible exact loop_next1 j | exact loop_next j _ HLT.out HLM.out.2.2.1), HP6⟩
                    case measure => exact (by first | with_reducible exact loop_less1 j _ HLT.out | exact loop_less j _ HLT.out HLM.out.2.2.1)
              · obtain rfl : j = m.exits.length := by omega
                clear hj hlt
                go_wp2_with fail
                have HPN : Hid (PutQ w n X m (bitsOf (baseF m.pl ++ (m.flanks.take 0).flatMap numsFlank)) wr) := Lib.hid (by have h := HM.out; rw [base_exits] at h; exact h)
                clear HM
                go_loopw [10] (fun i wr => ∃ j : Nat, j ≤ m.flanks.length ∧ i = .int .i64 j ∧ Hid (PutQ w n X m (bitsOf (baseF m.pl ++ (m.flanks.take j).flatMap numsFlank)) wr)) (fun i _ => m.flanks.length - (intOf i).toNat)
                case atStart => exact ⟨0, by omega, rfl, HPN⟩
                case round =>
                  clear HPN
                  obtain ⟨j, hj, rfl, HM⟩ := hrel
                  have x0 := HM.out.sx.cell_at 3 rfl
                  by_cases hlt : j < m.flanks.length
                  · have hlt' : (j : Int) < (m.flanks.length : Int) := by omega
                    have HLT := Lib.hid hlt
                    obtain ⟨y, hyj⟩ : ∃ y, m.flanks[j]? = some y := ⟨_, List.getElem?_eq_getElem hlt⟩
                    obtain ⟨b2, off2, hAS, hb2, hc0, hc⟩ := (HL.out _ HM.out.below).flanks.nth (n := 4) (fun _ => rfl) (by omega) hyj
                    have HAS := Lib.hid hAS
                    have HB2 := Lib.hid hb2
                    have HC0 := Lib.hid hc0
                    have HC := Lib.hid hc
                    have HYJ := Lib.hid hyj
                    have HROOM := Lib.hid (HPT3.out.room j)
                    have HNEXT := Lib.hid (HPT3.out.next j _ hyj)
                    have HFIT := Lib.hid (HPT3.out.fit j _ hyj)
                    clear hAS hb2 hc0 hc hyj hlt
                    obtain ⟨fa, fb, fc, fd⟩ := y
                    rw [HAS.out] at x0
                    have d0 := HC0.out j _ _ HYJ.out rfl
                    have d1 := HC.out j _ 1 _ HYJ.out rfl
                    have d2 := HC.out j _ 2 _ HYJ.out rfl
                    have d3 := HC.out j _ 3 _ HYJ.out rfl
                    go_wp2_with fail
                    clear x0 d0 d1 d2 d3
                    obtain ⟨wb, hwb⟩ : ∃ W, wr.alloc (.cells #[.int .i64 fa, .int .i64 fb, .int .i64 fc, .int .i64 fd] 76) = W := ⟨_, rfl⟩
                    try rw [hwb]
                    have HM2 := HM.out.keep (W' := wb) (by rw [← hwb]; exact below1 _ _)
                    have HEX : Hid (Whole wb wr.heap.size 76 [.int .i64 fa, .int .i64 fb, .int .i64 fc, .int .i64 fd]) := Lib.hid (by rw [← hwb]; exact Whole.new wr _ _)
                    have HEN : Hid (X < wr.heap.size ∧ n < wr.heap.size) := Lib.hid ⟨by obtain ⟨A, c, zs, N, k1, _⟩ := HM.out.b; exact k1.lt, HM.out.sx.lt⟩
                    obtain ⟨E, hE⟩ : ∃ E, wr.heap.size = E := ⟨_, rfl⟩
                    rw [hE] at HEX HEN ⊢
                    clear HM hwb hE
                    have HM := Lib.hid HM2
                    clear HM2
                    obtain ⟨A2, c2, zs2, N2, hbx, hh2, ha2, hq2⟩ := HM.out.b
                    have HBX := Lib.hid hbx
                    have HIN := Lib.hid (And.intro hh2 ha2)
                    have HQ2 : Hid (∀ q, A2 = some q → q.block < wb.heap.size) := Lib.hid (fun q hq => (hq2 q hq).2)
                    clear hbx hh2 ha2 hq2
                    have HBW : Hid (∀ W, Below wb.heap.size wb W → W.cell? ⟨X, 0, none⟩ = some (.slice A2 zs2.length c2) ∧ W.cell? ⟨X, 1, none⟩ = some (.int .i64 N2) ∧ W.cell? ⟨E, 0, none⟩ = some (.int .i64 fa) ∧ W.cell? ⟨E, 1, none⟩ = some (.int .i64 fb) ∧ W.cell? ⟨E, 2, none⟩ = some (.int .i64 fc) ∧ W.cell? ⟨E, 3, none⟩ = some (.int .i64 fd)) := Lib.hid (fun W hW =>
                      have hB := HBX.out.below hW HBX.out.lt
                      have hE := HEX.out.below hW HEX.out.lt
                      ⟨hB.cell_at 0 rfl, hB.cell_at 1 rfl, hE.cell_at 0 rfl, hE.cell_at 1 rfl, hE.cell_at 2 rfl, hE.cell_at 3 rfl⟩)
                    refine region_mixt (Below wb.heap.size wb) [(0, false), (1, false), (2, false), (4, false), (5, false), (7, false), (8, false), (10, false), (11, false), (3, true), (6, true), (9, true), (12, true)] 1 13 (by kernel_rfl) rfl (by kernel_rfl) (Below wb.heap.size wb) ⟨Closed.below wb, fun _ h => h⟩ (Below.refl _ _).drew ?_
                    simp only [pickOps, List.getElem?_cons_zero, List.getElem?_cons_succ]
                    repeat (first | (refine mix_skip (by rfl) ?_; simp only [Act.put, List.setIfInBounds_toArray, List.set_cons_zero, List.set_cons_succ]) | (refine mix_read _ (by rfl) (fun W hW => by (have hq := HBW.out W hW; obtain ⟨x0, x1, x2, x3, x4, x5⟩ := hq; clear hW; go_simp; first | done | with_reducible rfl)) ?_; simp only [Act.put, List.setIfInBounds_toArray, List.set_cons_zero, List.set_cons_succ]))
                    refine mix_meet (X := Option Addr × Nat × List Int × Int) (fun u => bitsV u.1 u.2.2.1.length u.2.1 u.2.2.2) (fun u W => Hands W u.1 u.2.2.1 ∧ Are u.2.2.1 u.2.2.2 (bitsOf (baseF m.pl ++ (m.flanks.take j).flatMap numsFlank) ++ bitsN (fa, 5)) ∧ ∀ q, u.1 = some q → wb.heap.size ≤ q.block ∧ q.block < W.heap.size) ⟨Closed.below wb, fun _ h => h⟩ (fun u W W' h hb => ⟨h.1.on hb, h.2.1, fun q hq => ⟨(h.2.2 q hq).1, Nat.lt_of_lt_of_le (h.2.2 q hq).2 hb.size⟩⟩) 27 #[bitsV A2 zs2.length c2 N2, .int .i64 fa, .int .i64 5] (by rfl) (fun W hW => by (go_simp; first | done | rfl)) (fun W hW => (putR8_any _ _ _ _ _ fa 5 W rfl (HIN.out.1.on hW) HIN.out.2 (by have := HROOM.out; omega) (HFIT.out (fa, 5) (by simp [numsFlank]))).mono (fun e w' h => by
                              obtain ⟨A', c', ys, M, rfl, h1, h2, h3, h4⟩ := h
                              exact ⟨(A', c', ys, M), rfl, ⟨h1, h2, fun q hq => ⟨Nat.le_trans hW.size (h3 q hq).1, (h3 q hq).2⟩⟩, h4⟩)) (fun u1 => ?_)
                    simp only [Act.put, List.setIfInBounds_toArray, List.set_cons_zero, List.set_cons_succ]
                    refine mix_meet (X := Option Addr × Nat × List Int × Int) (fun u => bitsV u.1 u.2.2.1.length u.2.1 u.2.2.2) (fun u W => Hands W u.1 u.2.2.1 ∧ Are u.2.2.1 u.2.2.2 ((bitsOf (baseF m.pl ++ (m.flanks.take j).flatMap numsFlank) ++ bitsN (fa, 5)) ++ bitsN (fb, 1)) ∧ ∀ q, u.1 = some q → wb.heap.size ≤ q.block ∧ q.block < W.heap.size) ⟨(Closed.below wb).and (fun _ _ h hb => ⟨h.1.on hb, h.2.1, fun q hq => ⟨(h.2.2 q hq).1, Nat.lt_of_lt_of_le (h.2.2 q hq).2 hb.size⟩⟩), fun _ h => h.1⟩ (fun u W W' h hb => ⟨h.1.on hb, h.2.1, fun q hq => ⟨(h.2.2 q hq).1, Nat.lt_of_lt_of_le (h.2.2 q hq).2 hb.size⟩⟩) 27 #[bitsV u1.1 u1.2.2.1.length u1.2.1 u1.2.2.2, .int .i64 fb, .int .i64 1] (by rfl) (fun W hW => by (go_simp; first | done | rfl)) (fun W hW => (putR8_any _ _ _ _ _ fb 1 W rfl hW.2.1 hW.2.2.1 (by have := HROOM.out; simp only [List.length_append, bitsN_length]; omega) (HFIT.out (fb, 1) (by simp [numsFlank]))).mono (fun e w' h => by
                              obtain ⟨A', c', ys, M, rfl, h1, h2, h3, h4⟩ := h
                              exact ⟨(A', c', ys, M), rfl, ⟨h1, h2, fun q hq => ⟨Nat.le_trans hW.1.size (h3 q hq).1, (h3 q hq).2⟩⟩, h4⟩)) (fun u2 => ?_)
                    simp only [Act.put, List.setIfInBounds_toArray, List.set_cons_zero, List.set_cons_succ]
                    refine mix_meet (X := Option Addr × Nat × List Int × Int) (fun u => bitsV u.1 u.2.2.1.length u.2.1 u.2.2.2) (fun u W => Hands W u.1 u.2.2.1 ∧ Are u.2.2.1 u.2.2.2 (((bitsOf (baseF m.pl ++ (m.flanks.take j).flatMap numsFlank) ++ bitsN (fa, 5)) ++ bitsN (fb, 1)) ++ bitsN (fc, 5)) ∧ ∀ q, u.1 = some q → wb.heap.size ≤ q.block ∧ q.block < W.heap.size) ⟨((Closed.below wb).and (fun _ _ h hb => ⟨h.1.on hb, h.2.1, fun q hq => ⟨(h.2.2 q hq).1, Nat.lt_of_lt_of_le (h.2.2 q hq).2 hb.size⟩⟩)).and (fun _ _ h hb => ⟨h.1.on hb, h.2.1, fun q hq => ⟨(h.2.2 q hq).1, Nat.lt_of_lt_of_le (h.2.2 q hq).2 hb.size⟩⟩), fun _ h => h.1.1⟩ (fun u W W' h hb => ⟨h.1.on hb, h.2.1, fun q hq => ⟨(h.2.2 q hq).1, Nat.lt_of_lt_of_le (h.2.2 q hq).2 hb.size⟩⟩) 27 #[bitsV u2.1 u2.2.2.1.length u2.2.1 u2.2.2.2, .int .i64 fc, .int .i64 5] (by rfl) (fun W hW => by (go_simp; first | done | rfl)) (fun W hW => (putR8_any _ _ _ _ _ fc 5 W rfl hW.2.1 hW.2.2.1 (by have := HROOM.out; simp only [List.length_append, bitsN_length]; omega) (HFIT.out (fc, 5) (by simp [numsFlank]))).mono (fun e w' h => by
                              obtain ⟨A', c', ys, M, rfl, h1, h2, h3, h4⟩ := h
                              exact ⟨(A', c', ys, M), rfl, ⟨h1, h2, fun q hq => ⟨Nat.le_trans hW.1.1.size (h3 q hq).1, (h3 q hq).2⟩⟩, h4⟩)) (fun u3 => ?_)
                    simp only [Act.put, List.setIfInBounds_toArray, List.set_cons_zero, List.set_cons_succ]
                    refine mix_meet (X := Option Addr × Nat × List Int × Int) (fun u => bitsV u.1 u.2.2.1.length u.2.1 u.2.2.2) (fun u W => Hands W u.1 u.2.2.1 ∧ Are u.2.2.1 u.2.2.2 ((((bitsOf (baseF m.pl ++ (m.flanks.take j).flatMap numsFlank) ++ bitsN (fa, 5)) ++ bitsN (fb, 1)) ++ bitsN (fc, 5)) ++ bitsN (fd, 1)) ∧ ∀ q, u.1 = some q → wb.heap.size ≤ q.block ∧ q.block < W.heap.size) ⟨(((Closed.below wb).and (fun _ _ h hb => ⟨h.1.on hb, h.2.1, fun q hq => ⟨(h.2.2 q hq).1, Nat.lt_of_lt_of_le (h.2.2 q hq).2 hb.size⟩⟩)).and (fun _ _ h hb => ⟨h.1.on hb, h.2.1, fun q hq => ⟨(h.2.2 q hq).1, Nat.lt_of_lt_of_le (h.2.2 q hq).2 hb.size⟩⟩)).and (fun _ _ h hb => ⟨h.1.on hb, h.2.1, fun q hq => ⟨(h.2.2 q hq).1, Nat.lt_of_lt_of_le (h.2.2 q hq).2 hb.size⟩⟩), fun _ h => h.1.1.1⟩ (fun u W W' h hb => ⟨h.1.on hb, h.2.1, fun q hq => ⟨(h.2.2 q hq).1, Nat.lt_of_lt_of_le (h.2.2 q hq).2 hb.size⟩⟩) 27 #[bitsV u3.1 u3.2.2.1.length u3.2.1 u3.2.2.2, .int .i64 fd, .int .i64 1] (by rfl) (fun W hW => by (go_simp; first | done | rfl)) (fun W hW => (putR8_any _ _ _ _ _ fd 1 W rfl hW.2.1 hW.2.2.1 (by have := HROOM.out; simp only [List.length_append, bitsN_length]; omega) (HFIT.out (fd, 1) (by simp [numsFlank]))).mono (fun e w' h => by
                              obtain ⟨A', c', ys, M, rfl, h1, h2, h3, h4⟩ := h
                              exact ⟨(A', c', ys, M), rfl, ⟨h1, h2, fun q hq => ⟨Nat.le_trans hW.1.1.1.size (h3 q hq).1, (h3 q hq).2⟩⟩, h4⟩)) (fun u4 => ?_)
                    simp only [Act.put, List.setIfInBounds_toArray, List.set_cons_zero, List.set_cons_succ]
                    refine mix_nil (fun W hW => ?_)
                    simp only [List.drop_succ_cons, List.drop_zero]
                    obtain ⟨⟨⟨⟨hb, _⟩, _⟩, _⟩, hh, ha, hf⟩ := hW
                    obtain ⟨A3, c3, ys3, M3⟩ := u4
                    simp only at hh ha hf
                    have HP3 := HM.out.put (by have := HNX.out; omega) (by have := HNX.out; omega) hb hh ha hf (c := c3)
                    simp only [List.append_assoc] at HP3
                    rw [← flank_eq4 (fa, fb, fc, fd), ← HNEXT.out] at HP3
                    have HP4 := Lib.hid HP3
                    have hx4 := HBX.out.below hb HBX.out.lt
                    have y0 := hx4.cell_at 0 rfl
                    have y1 := hx4.cell_at 1 rfl
                    have g0 := hx4.frozen 0
                    have g1 := hx4.frozen 1
                    clear HP3 hx4 hh ha hf hb
                    go_wp2_with fail
                    go_roundw
                    case rel => exact ⟨j + 1, HLT.out, (by first | with_reducible exact loop_next1 j | exact loop_next j _ HLT.out HLM.out.2.2.2), HP4⟩
                    case measure => exact (by first | with_reducible exact loop_less1 j _ HLT.out | exact loop_less j _ HLT.out HLM.out.2.2.2)
                  · obtain rfl : j = m.flanks.length := by omega
                    clear hj hlt
                    have z0 : wr.cell? ⟨n, 4, none⟩ = some (.int .i64 m.t0) := HM.out.sx.cell_at 4 rfl
                    have z1 : wr.cell? ⟨n, 5, none⟩ = some (.int .i64 m.t1) := HM.out.sx.cell_at 5 rfl
                    have z2 : wr.cell? ⟨n, 6, none⟩ = some (.int .i64 m.t2) := HM.out.sx.cell_at 6 rfl
                    have z3 : wr.cell? ⟨n, 7, none⟩ = some (.int .i64 m.t3) := HM.out.sx.cell_at 7 rfl
                    have z4 : wr.cell? ⟨n, 8, none⟩ = some (.int .i64 m.t4) := HM.out.sx.cell_at 8 rfl
                    have z5 : wr.cell? ⟨n, 9, none⟩ = some (.int .i64 m.t5) := HM.out.sx.cell_at 9 rfl
                    have z6 : wr.cell? ⟨n, 10, none⟩ = some (.int .i64 m.t6) := HM.out.sx.cell_at 10 rfl
                    go_wp2_with fail
                    have HPN : Hid (PutQ w n X m (bitsOf (baseT m.pl ++ ((timesL m).take 0).flatMap numsTime)) wr) := Lib.hid (by have h := HM.out; rw [base_flanks] at h; exact h)
                    clear HM
                    refine (timesR8_any _ _ _ _ _ _ _ wr).mono ?_
                    rintro e wt ⟨rfl, hb⟩
                    have HPT := Lib.hid (HPN.out.keep hb)
                    clear hb z0 z1 z2 z3 z4 z5 z6 HPN
                    go_wp2_with fail
                    obtain ⟨T, hT⟩ : ∃ T, wt.heap.size = T := ⟨_, rfl⟩
                    have HEN : Hid (X < T) := Lib.hid (by rw [← hT]; obtain ⟨A, c, zs, N, k1, _⟩ := HPT.out.b; exact k1.lt)
                    have HPA : Hid (PutQ w n X m (bitsOf (baseT m.pl ++ ((timesL m).take 0).flatMap numsTime)) (wt.alloc (.cells #[.int .i64 m.t0, .int .i64 m.t1, .int .i64 m.t2, .int .i64 m.t3, .int .i64 m.t4, .int .i64 m.t5, .int .i64 m.t6] 77)) ∧ Whole (wt.alloc (.cells #[.int .i64 m.t0, .int .i64 m.t1, .int .i64 m.t2, .int .i64 m.t3, .int .i64 m.t4, .int .i64 m.t5, .int .i64 m.t6] 77)) T 77 ((timesL m).map (Value.int .i64))) := Lib.hid ⟨HPT.out.keep (below1 _ _), by rw [← hT]; exact Whole.new wt 77 ((timesL m).map (Value.int .i64))⟩
                    obtain ⟨wa, hwa⟩ : ∃ W, wt.alloc (.cells #[.int .i64 m.t0, .int .i64 m.t1, .int .i64 m.t2, .int .i64 m.t3, .int .i64 m.t4, .int .i64 m.t5, .int .i64 m.t6] 77) = W := ⟨_, rfl⟩
                    rw [hwa] at HPA ⊢
                    try rw [hT]
                    clear hwa hT HPT
                    go_loopw [13] (fun i wr => ∃ j : Nat, j ≤ 7 ∧ i = .int .i64 j ∧ Hid (PutQ w n X m (bitsOf (baseT m.pl ++ ((timesL m).take j).flatMap numsTime)) wr ∧ Whole wr T 77 ((timesL m).map (Value.int .i64)))) (fun i _ => 7 - (intOf i).toNat)
                    case atStart => exact ⟨0, by omega, rfl, HPA⟩
                    case round =>
                      clear HPA
                      obtain ⟨j, hj, rfl, HMI⟩ := hrel
                      by_cases hlt : j < 7
                      · have hlt' : (j : Int) < 7 := by omega
                        have HLT := Lib.hid hlt
                        have hj7 : 0 ≤ (j : Int) ∧ (j : Int) < 7 := by omega
                        have hj8 : j < 7 := hlt
                        obtain ⟨t, htj⟩ : ∃ t, (timesL m)[j]? = some t := ⟨_, List.getElem?_eq_getElem (by show j < 7; omega)⟩
                        have HTC : Hid (((timesL m).map (Value.int .i64))[j]? = some (.int .i64 t)) := Lib.hid (by rw [List.getElem?_map, htj]; rfl)
                        have HROOM := Lib.hid (HPT4.out.room j)
                        have HNEXT := Lib.hid (HPT4.out.next j _ htj)
                        have HFIT := Lib.hid (HPT4.out.fit j _ htj)
                        have htb := HF.out.ts t (List.mem_of_getElem? htj)
                        have hw1 : IntKind.i64.wrap (t - 1) = t - 1 := by rw [wrap_id _ (by omega) (by omega)]
                        have hw2 : wrap64 (t - 1) = t - 1 := IntWalk.wrap64_in _ ⟨by omega, by omega⟩
                        clear htj hlt htb
                        obtain ⟨A2, c2, zs2, N2, hbx, hh2, ha2, hq2⟩ := HMI.out.1.b
                        have HBX := Lib.hid hbx
                        have HIN := Lib.hid (And.intro hh2 ha2)
                        have HQ2 : Hid (∀ q, A2 = some q → q.block < wr.heap.size) := Lib.hid (fun q hq => (hq2 q hq).2)
                        clear hbx hh2 ha2 hq2
                        go_wp2_with fail
                        have HBW : Hid (∀ W, Below wr.heap.size wr W → W.cell? ⟨X, 0, none⟩ = some (.slice A2 zs2.length c2) ∧ W.cell? ⟨X, 1, none⟩ = some (.int .i64 N2) ∧ W.cell? ⟨T, j, none⟩ = some (.int .i64 t)) := Lib.hid (fun W hW =>
                          have hB := HBX.out.below hW HBX.out.lt
                          have hE := HMI.out.2.below hW HMI.out.2.lt
                          ⟨hB.cell_at 0 rfl, hB.cell_at 1 rfl, hE.cell_at j HTC.out⟩)
                        refine region_mixt (Below wr.heap.size wr) [(0, false), (1, false), (2, false), (3, false), (4, false), (5, true)] 1 6 (by kernel_rfl) rfl (by kernel_rfl) (Below wr.heap.size wr) ⟨Closed.below wr, fun _ h => h⟩ (Below.refl _ _).drew ?_
                        simp only [pickOps, List.getElem?_cons_zero, List.getElem?_cons_succ]
                        repeat (first | (refine mix_skip (by rfl) ?_; simp only [Act.put, List.setIfInBounds_toArray, List.set_cons_zero, List.set_cons_succ]) | (refine mix_read _ (by rfl) (fun W hW => by (have hq := HBW.out W hW; obtain ⟨x0, x1, x2⟩ := hq; clear hW; go_simp; first | done | with_reducible rfl)) ?_; simp only [Act.put, List.setIfInBounds_toArray, List.set_cons_zero, List.set_cons_succ]))
                        refine mix_meet (X := Option Addr × Nat × List Int × Int) (fun u => bitsV u.1 u.2.2.1.length u.2.1 u.2.2.2) (fun u W => Hands W u.1 u.2.2.1 ∧ Are u.2.2.1 u.2.2.2 (bitsOf (baseT m.pl ++ ((timesL m).take j).flatMap numsTime) ++ bitsN ((t - 1), 10)) ∧ ∀ q, u.1 = some q → wr.heap.size ≤ q.block ∧ q.block < W.heap.size) ⟨Closed.below wr, fun _ h => h⟩ (fun u W W' h hb => ⟨h.1.on hb, h.2.1, fun q hq => ⟨(h.2.2 q hq).1, Nat.lt_of_lt_of_le (h.2.2 q hq).2 hb.size⟩⟩) 27 #[bitsV A2 zs2.length c2 N2, .int .i64 (t - 1), .int .i64 10] (by rfl) (fun W hW => by (go_simp; first | done | rfl)) (fun W hW => (putR8_any _ _ _ _ _ (t - 1) 10 W rfl (HIN.out.1.on hW) HIN.out.2 (by have := HROOM.out; omega) (HFIT.out (t - 1, 10) (by simp [numsTime]))).mono (fun e w' h => by
                                  obtain ⟨A', c', ys, M, rfl, h1, h2, h3, h4⟩ := h
                                  exact ⟨(A', c', ys, M), rfl, ⟨h1, h2, fun q hq => ⟨Nat.le_trans hW.size (h3 q hq).1, (h3 q hq).2⟩⟩, h4⟩)) (fun u1 => ?_)
                        simp only [Act.put, List.setIfInBounds_toArray, List.set_cons_zero, List.set_cons_succ]
                        refine mix_nil (fun W hW => ?_)
                        simp only [List.drop_succ_cons, List.drop_zero]
                        obtain ⟨hb, hh, ha, hf⟩ := hW
                        obtain ⟨A3, c3, ys3, M3⟩ := u1
                        simp only at hh ha hf
                        have HP3 := HMI.out.1.put (by have := HNX.out; omega) (by have := HNX.out; omega) hb hh ha hf (c := c3)
                        have HE9 : Whole ((W.setCell ⟨X, 0, none⟩ (.slice A3 ys3.length c3)).setCell ⟨X, 1, none⟩ (.int .i64 M3)) T 77 ((timesL m).map (Value.int .i64)) := ((HMI.out.2.below hb HMI.out.2.lt).far (p := ⟨X, 0, none⟩) (by have := HEN.out; show T ≠ X; omega) _).far (p := ⟨X, 1, none⟩) (by have := HEN.out; show T ≠ X; omega) _
                        rw [← time_bits t, ← HNEXT.out] at HP3
                        have HP4 := Lib.hid (And.intro HP3 HE9)
                        have hx4 := HBX.out.below hb HBX.out.lt
                        have y0 := hx4.cell_at 0 rfl
                        have y1 := hx4.cell_at 1 rfl
                        have g0 := hx4.frozen 0
                        have g1 := hx4.frozen 1
                        clear HP3 HE9 hx4 hh ha hf hb
                        go_wp2_with fail
                        go_roundw
                        case rel => exact ⟨j + 1, HLT.out, (by first | with_reducible exact loop_next1 j | exact loop_next j 7 HLT.out (by decide)), HP4⟩
                        case measure => exact (by first | with_reducible exact loop_less1 j 7 HLT.out | exact loop_less j 7 HLT.out (by decide))
                      · obtain rfl : j = 7 := by omega
                        have HPE : Hid (PutQ w n X m (bitsOf (numsL m.pl)) wr) := Lib.hid (by have h := HMI.out.1; rw [base_times] at h; exact h)
                        clear HMI hj hlt
                        obtain ⟨A2, c2, zs2, N2, hbx, hh2, ha2, hq2⟩ := HPE.out.b
                        have b0 := hbx.cell_at 0 rfl
                        have b1 := hbx.cell_at 1 rfl
                        have HBX := Lib.hid hbx
                        have HIN := Lib.hid (And.intro hh2 ha2)
                        clear hbx hh2 ha2 hq2
                        go_wp2_with fail
                        refine (padR_new A2 c2 zs2 N2 _ (given_of HIN.out.1 HIN.out.2 (by have := (fine_bits HF.out).1; omega))).mono ?_
                        rintro e W4 ⟨A', cap, ys, M, er, rfl, hh, hnew, hgr, hb⟩
                        have hX4 := HBX.out.below hb HBX.out.lt
                        have HA : Hid (er = 0 ∧ ys = bytesL m.pl ∧ Hands W4 A' (bytesL m.pl) ∧ ∀ q, A' = some q → q.block ≠ X) := by
                          rcases hgr with ⟨h1, _⟩ | ⟨_, h2, l', ha', hb'⟩
                          · rw [HIN.out.2.right] at h1; cases h1
                          · obtain rfl := ha'.inj HIN.out.2
                            obtain ⟨hM, hy⟩ := hb'
                            have hy2 : ys = bytesL m.pl := hy
                            exact Lib.hid ⟨h2, hy2, hy2 ▸ hh, fun q hq => by have := hnew q hq; have := HBX.out.lt; omega⟩
                        obtain rfl := HA.out.1
                        obtain rfl := HA.out.2.1
                        have y0 := hX4.cell_at 0 rfl
                        have y1 := hX4.cell_at 1 rfl
                        have g0 := hX4.frozen 0
                        have g1 := hX4.frozen 1
                        have hWX := (hX4.set 0 (.slice A' (bytesL m.pl).length cap)).set 1 (.int .i64 M)
                        have v0 := hWX.cell_at 0 rfl
                        have v9 := (hWX.alloc (.cells #[] 5)).cell_at 0 rfl
                        have HH5 : Hid (Hands ((W4.setCell ⟨X, 0, none⟩ (.slice A' (bytesL m.pl).length cap)).setCell ⟨X, 1, none⟩ (.int .i64 M)) A' (bytesL m.pl)) := Lib.hid ((HA.out.2.2.1.far (p := ⟨X, 0, none⟩) HA.out.2.2.2 _).far (p := ⟨X, 1, none⟩) HA.out.2.2.2 _)
                        have HB5 : Hid (Below w.heap.size w ((W4.setCell ⟨X, 0, none⟩ (.slice A' (bytesL m.pl).length cap)).setCell ⟨X, 1, none⟩ (.int .i64 M))) := Lib.hid (((HPE.out.below.trans (hb.mono HPE.out.below.size)).setCell (p := ⟨X, 0, none⟩) (by have := HNX.out; show w.heap.size ≤ X; omega) _).setCell (p := ⟨X, 1, none⟩) (by have := HNX.out; show w.heap.size ≤ X; omega) _)
                        have HLB : Hid ((bytesL m.pl).length ≤ 1099511627776) := Lib.hid (by have := (bytes_len HF.out).2; omega)
                        obtain ⟨g', c', w6, happ, hown, hBB⟩ := append_empty A' cap (bytesL m.pl) _ HH5.out.1 HLB.out
                        have hsz : ((W4.setCell ⟨X, 0, none⟩ (.slice A' (bytesL m.pl).length cap)).setCell ⟨X, 1, none⟩ (.int .i64 M)).heap.size = W4.heap.size := by simp [World.setCell]
                        rw [hsz] at happ
                        have HAP := Lib.hid happ
                        clear hsz
                        clear hX4 hWX hh hnew hgr hb b0 b1 happ
                        go_wp2_with (at_builtin; refine list_append rfl (.tmp 169) (.tmp 171) 30 rfl HAP.out ?_)
                        refine bodyPost_ret (v := .tuple #[.slice (some ⟨g', 0, none⟩) (bytesL m.pl).length c', .int .i64 0]) (by simp [results, Tryz.results10, go_sem]) rfl ?_
                        exact ⟨HB5.out.trans (hBB.mono HB5.out.size), _, ⟨_, rfl⟩, Hands.owned hown HA.out.2.2.1.2⟩
end Go.Proofs.YtegflmaobmibnaaGreatDoor
