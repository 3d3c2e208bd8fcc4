/- The walk of PortWays: ways go both ways about, between their ends; what goes out of a port. -/
import Derived.Test.YtmcnijkljofglaaDoorPortK
namespace Go.Proofs.YtmcnijkljofglaaDoor
open Go.RowKit Go.Shelf
set_option linter.unusedVariables false
set_option linter.unusedSimpArgs false

theorem wrap00 : IntKind.i64.wrap 0 = 0 := by rw [IntKind.wrap_i64]; rfl
theorem goes_facts {k p n a b c d i o : Int} (hs : IsShape k p n a b c d) (h : goesV n a b c d i o = true) :
    0 ≤ wayV n a b c d i o ∧ wayV n a b c d i o < n ∧ hasV n (wayV n a b c d i o) = true ∧ 0 ≤ i ∧ i < p ∧ 0 ≤ o ∧ o < p ∧
      ((i < o ∧ endA n a c (wayV n a b c d i o) = i ∧ endA n b d (wayV n a b c d i o) = o) ∨ (o < i ∧ endA n a c (wayV n a b c d i o) = o ∧ endA n b d (wayV n a b c d i o) = i)) := by
  unfold IsShape at hs
  rcases hs with ⟨_, rfl, rfl, rfl, rfl, rfl, rfl⟩ | ⟨_, rfl, rfl, rfl, rfl, rfl, rfl⟩ | ⟨_, rfl, rfl, rfl, rfl, rfl, rfl⟩ | ⟨_, rfl, rfl, rfl, rfl, rfl, rfl⟩
  · have hc : (i = 0 ∧ o = 1) ∨ (i = 1 ∧ o = 0) := by simp [goesV, joinV] at h; omega
    rcases hc with ⟨rfl, rfl⟩ | ⟨rfl, rfl⟩ <;> decide
  · have hc : (i = 0 ∧ o = 1) ∨ (i = 1 ∧ o = 0) ∨ (i = 0 ∧ o = 2) ∨ (i = 2 ∧ o = 0) := by simp [goesV, joinV] at h; omega
    rcases hc with ⟨rfl, rfl⟩ | ⟨rfl, rfl⟩ | ⟨rfl, rfl⟩ | ⟨rfl, rfl⟩ <;> decide
  · have hc : (i = 0 ∧ o = 1) ∨ (i = 1 ∧ o = 0) ∨ (i = 2 ∧ o = 3) ∨ (i = 3 ∧ o = 2) := by simp [goesV, joinV] at h; omega
    rcases hc with ⟨rfl, rfl⟩ | ⟨rfl, rfl⟩ | ⟨rfl, rfl⟩ | ⟨rfl, rfl⟩ <;> decide
  · simp [goesV] at h
theorem outs_cases {k p n a b c d i : Int} (hs : IsShape k p n a b c d) :
    (outsTo n a b c d i p.toNat = [] ∧ (i < 0 ∨ (0 ≤ i ∧ p ≤ i)) ∧ ¬ (k = 2 ∧ i = 0)) ∨
    (∃ x, outsTo n a b c d i p.toNat = [x] ∧ 0 ≤ i ∧ i < p ∧ ¬ (k = 2 ∧ i = 0) ∧ goesV n a b c d i x = true) ∨
    (k = 2 ∧ i = 0 ∧ outsTo n a b c d i p.toNat = [1, 2]) := by
  unfold IsShape at hs
  rcases hs with ⟨rfl, rfl, rfl, rfl, rfl, rfl, rfl⟩ | ⟨rfl, rfl, rfl, rfl, rfl, rfl, rfl⟩ | ⟨rfl, rfl, rfl, rfl, rfl, rfl, rfl⟩ | ⟨hk, rfl, rfl, rfl, rfl, rfl, rfl⟩
  · have hc : (i < 0 ∨ 2 ≤ i) ∨ i = 0 ∨ i = 1 := by omega
    rcases hc with hc | rfl | rfl
    · have h0 : (0 == i) = false := by rw [beq_eq_false_iff_ne]; omega
      have h1 : (1 == i) = false := by rw [beq_eq_false_iff_ne]; omega
      exact .inl ⟨by simp [outsTo, goesV, joinV, h0, h1], by omega, by omega⟩
    · exact .inr (.inl ⟨1, by decide, by decide, by decide, by decide, by decide⟩)
    · exact .inr (.inl ⟨0, by decide, by decide, by decide, by decide, by decide⟩)
  · have hc : (i < 0 ∨ 3 ≤ i) ∨ i = 0 ∨ i = 1 ∨ i = 2 := by omega
    rcases hc with hc | rfl | rfl | rfl
    · have h0 : (0 == i) = false := by rw [beq_eq_false_iff_ne]; omega
      have h1 : (1 == i) = false := by rw [beq_eq_false_iff_ne]; omega
      have h2 : (2 == i) = false := by rw [beq_eq_false_iff_ne]; omega
      exact .inl ⟨by simp [outsTo, goesV, joinV, h0, h1, h2], by omega, by omega⟩
    · exact .inr (.inr ⟨rfl, rfl, by decide⟩)
    · exact .inr (.inl ⟨0, by decide, by decide, by decide, by decide, by decide⟩)
    · exact .inr (.inl ⟨0, by decide, by decide, by decide, by decide, by decide⟩)
  · have hc : (i < 0 ∨ 4 ≤ i) ∨ i = 0 ∨ i = 1 ∨ i = 2 ∨ i = 3 := by omega
    rcases hc with hc | rfl | rfl | rfl | rfl
    · have h0 : (0 == i) = false := by rw [beq_eq_false_iff_ne]; omega
      have h1 : (1 == i) = false := by rw [beq_eq_false_iff_ne]; omega
      have h2 : (2 == i) = false := by rw [beq_eq_false_iff_ne]; omega
      have h3 : (3 == i) = false := by rw [beq_eq_false_iff_ne]; omega
      exact .inl ⟨by simp [outsTo, goesV, joinV, h0, h1, h2, h3], by omega, by omega⟩
    · exact .inr (.inl ⟨1, by decide, by decide, by decide, by decide, by decide⟩)
    · exact .inr (.inl ⟨0, by decide, by decide, by decide, by decide, by decide⟩)
    · exact .inr (.inl ⟨3, by decide, by decide, by decide, by decide, by decide⟩)
    · exact .inr (.inl ⟨2, by decide, by decide, by decide, by decide, by decide⟩)
  · exact .inl ⟨rfl, by omega, by omega⟩

set_option maxRecDepth 100000 in
set_option maxHeartbeats 16000000 in
theorem portWays_walk (k i o : Int) (w : World) (h0 : 0 ≤ k ∧ k ≤ 255) (hT : Shapes w) :
    Calls Tryd.prog 4 #[.int .u8 k, .int .i64 i, .int .i64 o] w fun e w' => e = .returned (.bool true) ∧ Below w.heap.size w w' := by
  obtain ⟨p, n, a, b, c, d, hs⟩ := shape_of k
  obtain ⟨P, HP, HT, HPb, hp⟩ := keep_first hT
  obtain ⟨hk0, hk1⟩ := h0
  have HS := Lib.hid hs
  have hgo := fun h => goes_facts (i := i) (o := o) hs h
  have hou := outs_cases (i := i) hs
  obtain ⟨hp0, hp4⟩ := isShape_p hs
  obtain ⟨v, hv⟩ : ∃ v, wayV n a b c d i o = v := ⟨_, rfl⟩
  obtain ⟨r, hr⟩ : ∃ v, goesV n a b c d i o = v := ⟨_, rfl⟩
  have hz : r = false → v = 0 := by rw [← hv, ← hr]; exact wayV_none
  rw [hv, hr] at hgo
  have K1 := Lib.hid (fun W h => way_P (P := P) (w := W) HP.out HT.out k i o hk0 hk1 hs hv hr h)
  have K2 := Lib.hid (fun W h => way_P (P := P) (w := W) HP.out HT.out k o i hk0 hk1 hs ((wayV_comm n a b c d o i).trans hv) ((goesV_comm n a b c d o i).trans hr) h)
  have K3 := Lib.hid (fun W h => ports_P (P := P) (w := W) HP.out HT.out hk0 hk1 hs h)
  have K4 := Lib.hid (fun W h => ways_P (P := P) (w := W) HP.out HT.out hk0 hk1 hs h)
  clear hv hr hs hT
  have hmain : (r = false ∧ v = 0) ∨ (r = true ∧ 0 ≤ v ∧ v < n ∧ hasV n v = true ∧ 0 ≤ i ∧ i < p ∧ 0 ≤ o ∧ o < p ∧ i < o ∧ endA n a c v = i ∧ endA n b d v = o) ∨ (r = true ∧ 0 ≤ v ∧ v < n ∧ hasV n v = true ∧ 0 ≤ i ∧ i < p ∧ 0 ≤ o ∧ o < p ∧ o < i ∧ endA n a c v = o ∧ endA n b d v = i) := by
    cases r
    · exact .inl ⟨rfl, hz rfl⟩
    · obtain ⟨g1, g2, g3, g4, g5, g6, g7, g8 | g8⟩ := hgo rfl
      · exact .inr (.inl ⟨rfl, g1, g2, g3, g4, g5, g6, g7, g8⟩)
      · exact .inr (.inr ⟨rfl, g1, g2, g3, g4, g5, g6, g7, g8⟩)
  clear hgo hz
  rcases hmain with ⟨rfl, rfl⟩ | ⟨rfl, hv0, hvn, hh, hi0, hip, ho0, hop, hio, hA, hB⟩ | ⟨rfl, hv0, hvn, hh, hi0, hip, ho0, hop, hio, hA, hB⟩
  · rcases hou with ⟨hO, hi, hki⟩ | ⟨x, hO, hi0, hip, hki, hG⟩ | ⟨rfl, rfl, hO⟩
    · have HO := Lib.hid hO
      clear hO
      have hki2 : ¬ k = 2 ∨ (k = 2 ∧ ¬ i = 0) := by omega
      clear hki
      rcases hi with hi | ⟨hi0, hi⟩
      · have d1 : decide (0 ≤ i) = false := by simp; omega
        rcases hki2 with hk2 | ⟨rfl, hk2⟩
        · have e2 : (k == 2) = false := by simpa using hk2
          go_enter Tryd.func4, Tryd.ntmps4
          go_wp2_with fail
          refine (K1.out _ hp).mono ?_
          clear hp
          rintro e w1 ⟨rfl, hp⟩
          go_wp2_with fail
          refine (K2.out _ hp).mono ?_
          clear hp
          rintro e w1 ⟨rfl, hp⟩
          go_wp2_with fail
          refine (K3.out _ hp).mono ?_
          clear hp
          rintro e w1 ⟨rfl, hp⟩
          go_wp2_with fail
          refine (outs_Pm (m := 0) HP.out HT.out _ _ hk0 hk1 HS.out HO.out rfl hp).mono ?_
          clear hp
          rintro e w2 ⟨A, cap, rfl, hcap, hrow, hp⟩
          go_wp2_with fail
          go_loopw [16] (fun x wr => x = .int .i64 0 ∧ P wr) (fun x _ => 0)
          case atStart => exact ⟨rfl, hp⟩
          case round =>
            obtain ⟨rfl, hp⟩ := hrel
            go_wp2_with fail
            refine (wakes5_P HP.out HT.out hp).mono ?_
            rintro e w9 ⟨rfl, hW9⟩
            go_wp2_with fail
            go_ret
            exact ⟨rfl, HPb.out _ (hW9)⟩
        · have e2 : (i == 0) = false := by simpa using hk2
          go_enter Tryd.func4, Tryd.ntmps4
          go_wp2_with fail
          refine (K1.out _ hp).mono ?_
          clear hp
          rintro e w1 ⟨rfl, hp⟩
          go_wp2_with fail
          refine (K2.out _ hp).mono ?_
          clear hp
          rintro e w1 ⟨rfl, hp⟩
          go_wp2_with fail
          refine (K3.out _ hp).mono ?_
          clear hp
          rintro e w1 ⟨rfl, hp⟩
          go_wp2_with fail
          refine (outs_Pm (m := 0) HP.out HT.out _ _ hk0 hk1 HS.out HO.out rfl hp).mono ?_
          clear hp
          rintro e w2 ⟨A, cap, rfl, hcap, hrow, hp⟩
          go_wp2_with fail
          go_loopw [16] (fun x wr => x = .int .i64 0 ∧ P wr) (fun x _ => 0)
          case atStart => exact ⟨rfl, hp⟩
          case round =>
            obtain ⟨rfl, hp⟩ := hrel
            go_wp2_with fail
            refine (wakes5_P HP.out HT.out hp).mono ?_
            rintro e w9 ⟨rfl, hW9⟩
            go_wp2_with fail
            go_ret
            exact ⟨rfl, HPb.out _ (hW9)⟩
      · have d1 : decide (i < p) = false := by simp; omega
        rcases hki2 with hk2 | ⟨rfl, hk2⟩
        · have e2 : (k == 2) = false := by simpa using hk2
          go_enter Tryd.func4, Tryd.ntmps4
          go_wp2_with fail
          refine (K1.out _ hp).mono ?_
          clear hp
          rintro e w1 ⟨rfl, hp⟩
          go_wp2_with fail
          refine (K2.out _ hp).mono ?_
          clear hp
          rintro e w1 ⟨rfl, hp⟩
          go_wp2_with fail
          refine (K3.out _ hp).mono ?_
          clear hp
          rintro e w1 ⟨rfl, hp⟩
          go_wp2_with fail
          refine (outs_Pm (m := 0) HP.out HT.out _ _ hk0 hk1 HS.out HO.out rfl hp).mono ?_
          clear hp
          rintro e w2 ⟨A, cap, rfl, hcap, hrow, hp⟩
          go_wp2_with fail
          go_loopw [16] (fun x wr => x = .int .i64 0 ∧ P wr) (fun x _ => 0)
          case atStart => exact ⟨rfl, hp⟩
          case round =>
            obtain ⟨rfl, hp⟩ := hrel
            go_wp2_with fail
            refine (wakes5_P HP.out HT.out hp).mono ?_
            rintro e w9 ⟨rfl, hW9⟩
            go_wp2_with fail
            go_ret
            exact ⟨rfl, HPb.out _ (hW9)⟩
        · have e2 : (i == 0) = false := by simpa using hk2
          go_enter Tryd.func4, Tryd.ntmps4
          go_wp2_with fail
          refine (K1.out _ hp).mono ?_
          clear hp
          rintro e w1 ⟨rfl, hp⟩
          go_wp2_with fail
          refine (K2.out _ hp).mono ?_
          clear hp
          rintro e w1 ⟨rfl, hp⟩
          go_wp2_with fail
          refine (K3.out _ hp).mono ?_
          clear hp
          rintro e w1 ⟨rfl, hp⟩
          go_wp2_with fail
          refine (outs_Pm (m := 0) HP.out HT.out _ _ hk0 hk1 HS.out HO.out rfl hp).mono ?_
          clear hp
          rintro e w2 ⟨A, cap, rfl, hcap, hrow, hp⟩
          go_wp2_with fail
          go_loopw [16] (fun x wr => x = .int .i64 0 ∧ P wr) (fun x _ => 0)
          case atStart => exact ⟨rfl, hp⟩
          case round =>
            obtain ⟨rfl, hp⟩ := hrel
            go_wp2_with fail
            refine (wakes5_P HP.out HT.out hp).mono ?_
            rintro e w9 ⟨rfl, hW9⟩
            go_wp2_with fail
            go_ret
            exact ⟨rfl, HPb.out _ (hW9)⟩
    · have HO := Lib.hid hO
      have HG := Lib.hid hG
      clear hO hG
      have hki2 : ¬ k = 2 ∨ (k = 2 ∧ ¬ i = 0) := by omega
      clear hki
      rcases hki2 with hk2 | ⟨rfl, hk2⟩
      · have e2 : (k == 2) = false := by simpa using hk2
        go_enter Tryd.func4, Tryd.ntmps4
        go_wp2_with fail
        refine (K1.out _ hp).mono ?_
        clear hp
        rintro e w1 ⟨rfl, hp⟩
        go_wp2_with fail
        refine (K2.out _ hp).mono ?_
        clear hp
        rintro e w1 ⟨rfl, hp⟩
        go_wp2_with fail
        refine (K3.out _ hp).mono ?_
        clear hp
        rintro e w1 ⟨rfl, hp⟩
        go_wp2_with fail
        refine (outs_Pm (m := 1) HP.out HT.out _ _ hk0 hk1 HS.out HO.out rfl hp).mono ?_
        clear hp
        rintro e w2 ⟨A, cap, rfl, hcap, hrow, hp⟩
        obtain ⟨bl, off, rfl, hbl, _⟩ := hrow (by simp [nums])
        obtain ⟨R, HR, HRp, HRw, hR⟩ := keep_row HP.out hp hrow
        have HTR : Hid (∀ W, R W → Shapes W) := Lib.hid fun W h => HT.out _ (HRp.out _ h)
        clear hp hrow hbl
        go_wp2_with fail
        go_loopw [16] (fun x wr => (x = .int .i64 0 ∨ x = .int .i64 1) ∧ R wr) (fun x _ => 2 - (intOf x).toNat)
        case atStart => exact ⟨.inl rfl, hR⟩
        case round =>
          obtain ⟨rfl | rfl, hR⟩ := hrel
          · have m1 := HRw.out _ hR
            have c0 := m1.num_at 0 rfl
            rw [Nat.add_zero] at c0
            clear m1
            go_wp2_with fail
            refine (way_P HR.out HTR.out _ _ x hk0 hk1 HS.out rfl HG.out hR).mono ?_
            clear c0 hR
            rintro e w3 ⟨rfl, hR⟩
            have HS3 := Lib.hid (HR.out.drew hR)
            clear hR
            go_wp2_with fail
            refine region_steady (R) 17 (by kernel_rfl) (by kernel_rfl) HS3.out ?_
            simp only [List.take_succ_cons, List.take_zero, List.drop_succ_cons, List.drop_zero]
            repeat (first | (refine steady_skip (by rfl) ?_; simp only [Act.put, List.setIfInBounds_toArray, List.set_cons_zero, List.set_cons_succ]) | (refine steady_read _ (by rfl) (fun W hW => by (have m1 := HRw.out _ hW; have c0 := m1.num_at 0 rfl; rw [Nat.add_zero] at c0; clear m1; go_simp; first | done | with_reducible rfl)) ?_; simp only [Act.put, List.setIfInBounds_toArray, List.set_cons_zero, List.set_cons_succ]))
            refine steady_nil (fun W hW => ?_)
            go_wp2_with fail
            go_roundw
            case rel => exact ⟨.inr rfl, hW⟩
            case measure => simp [intOf]
          · go_wp2_with fail
            refine (wakes5_P HR.out HTR.out hR).mono ?_
            rintro e w9 ⟨rfl, hW9⟩
            go_wp2_with fail
            go_ret
            exact ⟨rfl, HPb.out _ (HRp.out _ hW9)⟩
      · have e2 : (i == 0) = false := by simpa using hk2
        go_enter Tryd.func4, Tryd.ntmps4
        go_wp2_with fail
        refine (K1.out _ hp).mono ?_
        clear hp
        rintro e w1 ⟨rfl, hp⟩
        go_wp2_with fail
        refine (K2.out _ hp).mono ?_
        clear hp
        rintro e w1 ⟨rfl, hp⟩
        go_wp2_with fail
        refine (K3.out _ hp).mono ?_
        clear hp
        rintro e w1 ⟨rfl, hp⟩
        go_wp2_with fail
        refine (outs_Pm (m := 1) HP.out HT.out _ _ hk0 hk1 HS.out HO.out rfl hp).mono ?_
        clear hp
        rintro e w2 ⟨A, cap, rfl, hcap, hrow, hp⟩
        obtain ⟨bl, off, rfl, hbl, _⟩ := hrow (by simp [nums])
        obtain ⟨R, HR, HRp, HRw, hR⟩ := keep_row HP.out hp hrow
        have HTR : Hid (∀ W, R W → Shapes W) := Lib.hid fun W h => HT.out _ (HRp.out _ h)
        clear hp hrow hbl
        go_wp2_with fail
        go_loopw [16] (fun x wr => (x = .int .i64 0 ∨ x = .int .i64 1) ∧ R wr) (fun x _ => 2 - (intOf x).toNat)
        case atStart => exact ⟨.inl rfl, hR⟩
        case round =>
          obtain ⟨rfl | rfl, hR⟩ := hrel
          · have m1 := HRw.out _ hR
            have c0 := m1.num_at 0 rfl
            rw [Nat.add_zero] at c0
            clear m1
            go_wp2_with fail
            refine (way_P HR.out HTR.out _ _ x hk0 hk1 HS.out rfl HG.out hR).mono ?_
            clear c0 hR
            rintro e w3 ⟨rfl, hR⟩
            have HS3 := Lib.hid (HR.out.drew hR)
            clear hR
            go_wp2_with fail
            refine region_steady (R) 17 (by kernel_rfl) (by kernel_rfl) HS3.out ?_
            simp only [List.take_succ_cons, List.take_zero, List.drop_succ_cons, List.drop_zero]
            repeat (first | (refine steady_skip (by rfl) ?_; simp only [Act.put, List.setIfInBounds_toArray, List.set_cons_zero, List.set_cons_succ]) | (refine steady_read _ (by rfl) (fun W hW => by (have m1 := HRw.out _ hW; have c0 := m1.num_at 0 rfl; rw [Nat.add_zero] at c0; clear m1; go_simp; first | done | with_reducible rfl)) ?_; simp only [Act.put, List.setIfInBounds_toArray, List.set_cons_zero, List.set_cons_succ]))
            refine steady_nil (fun W hW => ?_)
            go_wp2_with fail
            go_roundw
            case rel => exact ⟨.inr rfl, hW⟩
            case measure => simp [intOf]
          · go_wp2_with fail
            refine (wakes5_P HR.out HTR.out hR).mono ?_
            rintro e w9 ⟨rfl, hW9⟩
            go_wp2_with fail
            go_ret
            exact ⟨rfl, HPb.out _ (HRp.out _ hW9)⟩
    · have HO := Lib.hid hO
      have hpn : p = 3 ∧ n = 2 := by have := HS.out; unfold IsShape at this; omega
      obtain ⟨rfl, rfl⟩ := hpn
      clear hO
      go_enter Tryd.func4, Tryd.ntmps4
      go_wp2_with fail
      refine (K1.out _ hp).mono ?_
      clear hp
      rintro e w1 ⟨rfl, hp⟩
      go_wp2_with fail
      refine (K2.out _ hp).mono ?_
      clear hp
      rintro e w1 ⟨rfl, hp⟩
      go_wp2_with fail
      refine (K3.out _ hp).mono ?_
      clear hp
      rintro e w1 ⟨rfl, hp⟩
      go_wp2_with fail
      refine (outs_Pm (m := 2) HP.out HT.out _ _ hk0 hk1 HS.out HO.out rfl hp).mono ?_
      clear hp
      rintro e w2 ⟨A, cap, rfl, hcap, hrow, hp⟩
      obtain ⟨bl, off, rfl, hbl, _⟩ := hrow (by simp [nums])
      obtain ⟨R, HR, HRp, HRw, hR⟩ := keep_row HP.out hp hrow
      have HTR : Hid (∀ W, R W → Shapes W) := Lib.hid fun W h => HT.out _ (HRp.out _ h)
      clear hp hrow hbl
      go_wp2_with fail
      go_loopw [16] (fun x wr => (x = .int .i64 0 ∨ x = .int .i64 1 ∨ x = .int .i64 2) ∧ R wr) (fun x _ => 3 - (intOf x).toNat)
      case atStart => exact ⟨.inl rfl, hR⟩
      case round =>
        obtain ⟨rfl | rfl | rfl, hR⟩ := hrel
        · have m1 := HRw.out _ hR
          have c0 := m1.num_at 0 rfl
          rw [Nat.add_zero] at c0
          clear m1
          go_wp2_with fail
          refine (way_P HR.out HTR.out 2 0 1 (by decide) (by decide) (v := 0) (r := true) sh2 (by decide) (by decide) hR).mono ?_
          clear c0 hR
          rintro e w3 ⟨rfl, hR⟩
          have HS3 := Lib.hid (HR.out.drew hR)
          clear hR
          go_wp2_with fail
          refine region_steady (R) 17 (by kernel_rfl) (by kernel_rfl) HS3.out ?_
          simp only [List.take_succ_cons, List.take_zero, List.drop_succ_cons, List.drop_zero]
          repeat (first | (refine steady_skip (by rfl) ?_; simp only [Act.put, List.setIfInBounds_toArray, List.set_cons_zero, List.set_cons_succ]) | (refine steady_read _ (by rfl) (fun W hW => by (have hw0 := wrap00; have m1 := HRw.out _ hW; have c0 := m1.num_at 0 rfl; rw [Nat.add_zero] at c0; have c1 := m1.num_at 1 rfl; clear m1; go_simp; first | done | with_reducible rfl)) ?_; simp only [Act.put, List.setIfInBounds_toArray, List.set_cons_zero, List.set_cons_succ]))
          refine steady_nil (fun W hW => ?_)
          go_wp2_with fail
          go_roundw
          case rel => exact ⟨.inr (.inl rfl), hW⟩
          case measure => simp [intOf]
        · have m1 := HRw.out _ hR
          have c1 := m1.num_at 1 rfl
          clear m1
          go_wp2_with fail
          refine (way_P HR.out HTR.out 2 0 2 (by decide) (by decide) (v := 1) (r := true) sh2 (by decide) (by decide) hR).mono ?_
          clear c1 hR
          rintro e w3 ⟨rfl, hR⟩
          have HS3 := Lib.hid (HR.out.drew hR)
          clear hR
          go_wp2_with fail
          refine region_steady (R) 17 (by kernel_rfl) (by kernel_rfl) HS3.out ?_
          simp only [List.take_succ_cons, List.take_zero, List.drop_succ_cons, List.drop_zero]
          repeat (first | (refine steady_skip (by rfl) ?_; simp only [Act.put, List.setIfInBounds_toArray, List.set_cons_zero, List.set_cons_succ]) | (refine steady_read _ (by rfl) (fun W hW => by (have hw0 := wrap00; have m1 := HRw.out _ hW; have c0 := m1.num_at 0 rfl; rw [Nat.add_zero] at c0; have c1 := m1.num_at 1 rfl; clear m1; go_simp; first | done | with_reducible rfl)) ?_; simp only [Act.put, List.setIfInBounds_toArray, List.set_cons_zero, List.set_cons_succ]))
          refine steady_nil (fun W hW => ?_)
          have m1 := HRw.out _ hW
          have c0 := m1.num_at 0 rfl
          rw [Nat.add_zero] at c0
          clear m1
          go_wp2_with fail
          refine (way_P HR.out HTR.out 2 0 1 (by decide) (by decide) (v := 0) (r := true) sh2 (by decide) (by decide) hW).mono ?_
          clear c0 hW
          rintro e w4 ⟨rfl, hR⟩
          go_wp2_with fail
          go_roundw
          case rel => exact ⟨.inr (.inr rfl), hR⟩
          case measure => simp [intOf]
        · go_wp2_with fail
          refine (wakes5_P HR.out HTR.out hR).mono ?_
          rintro e w9 ⟨rfl, hW9⟩
          go_wp2_with fail
          go_ret
          exact ⟨rfl, HPb.out _ (HRp.out _ hW9)⟩
  · have K5 := Lib.hid (fun W h => ends_P (P := P) (w := W) HP.out HT.out k v hk0 hk1 HS.out hA hB hh h)
    have hne : ¬ i = o := by omega
    have hne2 : ¬ o = i := by omega
    clear hA hB hh
    have b1 : (i == o) = false := by simpa using hne
    have b2 : (o == i) = false := by simpa using hne2
    have b3 : decide (i < 0) = false := by simp; omega
    have b4 : decide (p ≤ i) = false := by simp; omega
    have b5 : decide (o < 0) = false := by simp; omega
    have b6 : decide (p ≤ o) = false := by simp; omega
    have b7 : decide (v < 0) = false := by simp; omega
    have b8 : decide (n ≤ v) = false := by simp; omega
    have b9 : decide (o ≤ i) = false := by simp; omega
    rcases hou with ⟨hO, hi, hki⟩ | ⟨x, hO, hi0, hip, hki, hG⟩ | ⟨rfl, rfl, hO⟩
    · exact absurd hi (by omega)
    · have HO := Lib.hid hO
      have HG := Lib.hid hG
      clear hO hG
      have hki2 : ¬ k = 2 ∨ (k = 2 ∧ ¬ i = 0) := by omega
      clear hki
      rcases hki2 with hk2 | ⟨rfl, hk2⟩
      · have e2 : (k == 2) = false := by simpa using hk2
        go_enter Tryd.func4, Tryd.ntmps4
        go_wp2_with fail
        refine (K1.out _ hp).mono ?_
        clear hp
        rintro e w1 ⟨rfl, hp⟩
        go_wp2_with fail
        refine (K2.out _ hp).mono ?_
        clear hp
        rintro e w1 ⟨rfl, hp⟩
        go_wp2_with fail
        refine (K3.out _ hp).mono ?_
        clear hp
        rintro e w1 ⟨rfl, hp⟩
        go_wp2_with fail
        refine (K4.out _ hp).mono ?_
        clear hp
        rintro e w1 ⟨rfl, hp⟩
        go_wp2_with fail
        refine (K5.out _ hp).mono ?_
        clear hp
        rintro e w1 ⟨rfl, hp⟩
        go_wp2_with fail
        refine (outs_Pm (m := 1) HP.out HT.out _ _ hk0 hk1 HS.out HO.out rfl hp).mono ?_
        clear hp
        rintro e w2 ⟨A, cap, rfl, hcap, hrow, hp⟩
        obtain ⟨bl, off, rfl, hbl, _⟩ := hrow (by simp [nums])
        obtain ⟨R, HR, HRp, HRw, hR⟩ := keep_row HP.out hp hrow
        have HTR : Hid (∀ W, R W → Shapes W) := Lib.hid fun W h => HT.out _ (HRp.out _ h)
        clear hp hrow hbl
        go_wp2_with fail
        go_loopw [16] (fun x wr => (x = .int .i64 0 ∨ x = .int .i64 1) ∧ R wr) (fun x _ => 2 - (intOf x).toNat)
        case atStart => exact ⟨.inl rfl, hR⟩
        case round =>
          obtain ⟨rfl | rfl, hR⟩ := hrel
          · have m1 := HRw.out _ hR
            have c0 := m1.num_at 0 rfl
            rw [Nat.add_zero] at c0
            clear m1
            go_wp2_with fail
            refine (way_P HR.out HTR.out _ _ x hk0 hk1 HS.out rfl HG.out hR).mono ?_
            clear c0 hR
            rintro e w3 ⟨rfl, hR⟩
            have HS3 := Lib.hid (HR.out.drew hR)
            clear hR
            go_wp2_with fail
            refine region_steady (R) 17 (by kernel_rfl) (by kernel_rfl) HS3.out ?_
            simp only [List.take_succ_cons, List.take_zero, List.drop_succ_cons, List.drop_zero]
            repeat (first | (refine steady_skip (by rfl) ?_; simp only [Act.put, List.setIfInBounds_toArray, List.set_cons_zero, List.set_cons_succ]) | (refine steady_read _ (by rfl) (fun W hW => by (have m1 := HRw.out _ hW; have c0 := m1.num_at 0 rfl; rw [Nat.add_zero] at c0; clear m1; go_simp; first | done | with_reducible rfl)) ?_; simp only [Act.put, List.setIfInBounds_toArray, List.set_cons_zero, List.set_cons_succ]))
            refine steady_nil (fun W hW => ?_)
            go_wp2_with fail
            go_roundw
            case rel => exact ⟨.inr rfl, hW⟩
            case measure => simp [intOf]
          · go_wp2_with fail
            refine (wakes5_P HR.out HTR.out hR).mono ?_
            rintro e w9 ⟨rfl, hW9⟩
            go_wp2_with fail
            go_ret
            exact ⟨rfl, HPb.out _ (HRp.out _ hW9)⟩
      · have e2 : (i == 0) = false := by simpa using hk2
        go_enter Tryd.func4, Tryd.ntmps4
        go_wp2_with fail
        refine (K1.out _ hp).mono ?_
        clear hp
        rintro e w1 ⟨rfl, hp⟩
        go_wp2_with fail
        refine (K2.out _ hp).mono ?_
        clear hp
        rintro e w1 ⟨rfl, hp⟩
        go_wp2_with fail
        refine (K3.out _ hp).mono ?_
        clear hp
        rintro e w1 ⟨rfl, hp⟩
        go_wp2_with fail
        refine (K4.out _ hp).mono ?_
        clear hp
        rintro e w1 ⟨rfl, hp⟩
        go_wp2_with fail
        refine (K5.out _ hp).mono ?_
        clear hp
        rintro e w1 ⟨rfl, hp⟩
        go_wp2_with fail
        refine (outs_Pm (m := 1) HP.out HT.out _ _ hk0 hk1 HS.out HO.out rfl hp).mono ?_
        clear hp
        rintro e w2 ⟨A, cap, rfl, hcap, hrow, hp⟩
        obtain ⟨bl, off, rfl, hbl, _⟩ := hrow (by simp [nums])
        obtain ⟨R, HR, HRp, HRw, hR⟩ := keep_row HP.out hp hrow
        have HTR : Hid (∀ W, R W → Shapes W) := Lib.hid fun W h => HT.out _ (HRp.out _ h)
        clear hp hrow hbl
        go_wp2_with fail
        go_loopw [16] (fun x wr => (x = .int .i64 0 ∨ x = .int .i64 1) ∧ R wr) (fun x _ => 2 - (intOf x).toNat)
        case atStart => exact ⟨.inl rfl, hR⟩
        case round =>
          obtain ⟨rfl | rfl, hR⟩ := hrel
          · have m1 := HRw.out _ hR
            have c0 := m1.num_at 0 rfl
            rw [Nat.add_zero] at c0
            clear m1
            go_wp2_with fail
            refine (way_P HR.out HTR.out _ _ x hk0 hk1 HS.out rfl HG.out hR).mono ?_
            clear c0 hR
            rintro e w3 ⟨rfl, hR⟩
            have HS3 := Lib.hid (HR.out.drew hR)
            clear hR
            go_wp2_with fail
            refine region_steady (R) 17 (by kernel_rfl) (by kernel_rfl) HS3.out ?_
            simp only [List.take_succ_cons, List.take_zero, List.drop_succ_cons, List.drop_zero]
            repeat (first | (refine steady_skip (by rfl) ?_; simp only [Act.put, List.setIfInBounds_toArray, List.set_cons_zero, List.set_cons_succ]) | (refine steady_read _ (by rfl) (fun W hW => by (have m1 := HRw.out _ hW; have c0 := m1.num_at 0 rfl; rw [Nat.add_zero] at c0; clear m1; go_simp; first | done | with_reducible rfl)) ?_; simp only [Act.put, List.setIfInBounds_toArray, List.set_cons_zero, List.set_cons_succ]))
            refine steady_nil (fun W hW => ?_)
            go_wp2_with fail
            go_roundw
            case rel => exact ⟨.inr rfl, hW⟩
            case measure => simp [intOf]
          · go_wp2_with fail
            refine (wakes5_P HR.out HTR.out hR).mono ?_
            rintro e w9 ⟨rfl, hW9⟩
            go_wp2_with fail
            go_ret
            exact ⟨rfl, HPb.out _ (HRp.out _ hW9)⟩
    · have HO := Lib.hid hO
      have hpn : p = 3 ∧ n = 2 := by have := HS.out; unfold IsShape at this; omega
      obtain ⟨rfl, rfl⟩ := hpn
      clear hO
      go_enter Tryd.func4, Tryd.ntmps4
      go_wp2_with fail
      refine (K1.out _ hp).mono ?_
      clear hp
      rintro e w1 ⟨rfl, hp⟩
      go_wp2_with fail
      refine (K2.out _ hp).mono ?_
      clear hp
      rintro e w1 ⟨rfl, hp⟩
      go_wp2_with fail
      refine (K3.out _ hp).mono ?_
      clear hp
      rintro e w1 ⟨rfl, hp⟩
      go_wp2_with fail
      refine (K4.out _ hp).mono ?_
      clear hp
      rintro e w1 ⟨rfl, hp⟩
      go_wp2_with fail
      refine (K5.out _ hp).mono ?_
      clear hp
      rintro e w1 ⟨rfl, hp⟩
      go_wp2_with fail
      refine (outs_Pm (m := 2) HP.out HT.out _ _ hk0 hk1 HS.out HO.out rfl hp).mono ?_
      clear hp
      rintro e w2 ⟨A, cap, rfl, hcap, hrow, hp⟩
      obtain ⟨bl, off, rfl, hbl, _⟩ := hrow (by simp [nums])
      obtain ⟨R, HR, HRp, HRw, hR⟩ := keep_row HP.out hp hrow
      have HTR : Hid (∀ W, R W → Shapes W) := Lib.hid fun W h => HT.out _ (HRp.out _ h)
      clear hp hrow hbl
      go_wp2_with fail
      go_loopw [16] (fun x wr => (x = .int .i64 0 ∨ x = .int .i64 1 ∨ x = .int .i64 2) ∧ R wr) (fun x _ => 3 - (intOf x).toNat)
      case atStart => exact ⟨.inl rfl, hR⟩
      case round =>
        obtain ⟨rfl | rfl | rfl, hR⟩ := hrel
        · have m1 := HRw.out _ hR
          have c0 := m1.num_at 0 rfl
          rw [Nat.add_zero] at c0
          clear m1
          go_wp2_with fail
          refine (way_P HR.out HTR.out 2 0 1 (by decide) (by decide) (v := 0) (r := true) sh2 (by decide) (by decide) hR).mono ?_
          clear c0 hR
          rintro e w3 ⟨rfl, hR⟩
          have HS3 := Lib.hid (HR.out.drew hR)
          clear hR
          go_wp2_with fail
          refine region_steady (R) 17 (by kernel_rfl) (by kernel_rfl) HS3.out ?_
          simp only [List.take_succ_cons, List.take_zero, List.drop_succ_cons, List.drop_zero]
          repeat (first | (refine steady_skip (by rfl) ?_; simp only [Act.put, List.setIfInBounds_toArray, List.set_cons_zero, List.set_cons_succ]) | (refine steady_read _ (by rfl) (fun W hW => by (have hw0 := wrap00; have m1 := HRw.out _ hW; have c0 := m1.num_at 0 rfl; rw [Nat.add_zero] at c0; have c1 := m1.num_at 1 rfl; clear m1; go_simp; first | done | with_reducible rfl)) ?_; simp only [Act.put, List.setIfInBounds_toArray, List.set_cons_zero, List.set_cons_succ]))
          refine steady_nil (fun W hW => ?_)
          go_wp2_with fail
          go_roundw
          case rel => exact ⟨.inr (.inl rfl), hW⟩
          case measure => simp [intOf]
        · have m1 := HRw.out _ hR
          have c1 := m1.num_at 1 rfl
          clear m1
          go_wp2_with fail
          refine (way_P HR.out HTR.out 2 0 2 (by decide) (by decide) (v := 1) (r := true) sh2 (by decide) (by decide) hR).mono ?_
          clear c1 hR
          rintro e w3 ⟨rfl, hR⟩
          have HS3 := Lib.hid (HR.out.drew hR)
          clear hR
          go_wp2_with fail
          refine region_steady (R) 17 (by kernel_rfl) (by kernel_rfl) HS3.out ?_
          simp only [List.take_succ_cons, List.take_zero, List.drop_succ_cons, List.drop_zero]
          repeat (first | (refine steady_skip (by rfl) ?_; simp only [Act.put, List.setIfInBounds_toArray, List.set_cons_zero, List.set_cons_succ]) | (refine steady_read _ (by rfl) (fun W hW => by (have hw0 := wrap00; have m1 := HRw.out _ hW; have c0 := m1.num_at 0 rfl; rw [Nat.add_zero] at c0; have c1 := m1.num_at 1 rfl; clear m1; go_simp; first | done | with_reducible rfl)) ?_; simp only [Act.put, List.setIfInBounds_toArray, List.set_cons_zero, List.set_cons_succ]))
          refine steady_nil (fun W hW => ?_)
          have m1 := HRw.out _ hW
          have c0 := m1.num_at 0 rfl
          rw [Nat.add_zero] at c0
          clear m1
          go_wp2_with fail
          refine (way_P HR.out HTR.out 2 0 1 (by decide) (by decide) (v := 0) (r := true) sh2 (by decide) (by decide) hW).mono ?_
          clear c0 hW
          rintro e w4 ⟨rfl, hR⟩
          go_wp2_with fail
          go_roundw
          case rel => exact ⟨.inr (.inr rfl), hR⟩
          case measure => simp [intOf]
        · go_wp2_with fail
          refine (wakes5_P HR.out HTR.out hR).mono ?_
          rintro e w9 ⟨rfl, hW9⟩
          go_wp2_with fail
          go_ret
          exact ⟨rfl, HPb.out _ (HRp.out _ hW9)⟩
  · have K5 := Lib.hid (fun W h => ends_P (P := P) (w := W) HP.out HT.out k v hk0 hk1 HS.out hA hB hh h)
    have hne : ¬ i = o := by omega
    have hne2 : ¬ o = i := by omega
    clear hA hB hh
    have b1 : (i == o) = false := by simpa using hne
    have b2 : (o == i) = false := by simpa using hne2
    have b3 : decide (i < 0) = false := by simp; omega
    have b4 : decide (p ≤ i) = false := by simp; omega
    have b5 : decide (o < 0) = false := by simp; omega
    have b6 : decide (p ≤ o) = false := by simp; omega
    have b7 : decide (v < 0) = false := by simp; omega
    have b8 : decide (n ≤ v) = false := by simp; omega
    have b9 : decide (i ≤ o) = false := by simp; omega
    rcases hou with ⟨hO, hi, hki⟩ | ⟨x, hO, hi0, hip, hki, hG⟩ | ⟨rfl, rfl, hO⟩
    · exact absurd hi (by omega)
    · have HO := Lib.hid hO
      have HG := Lib.hid hG
      clear hO hG
      have hki2 : ¬ k = 2 ∨ (k = 2 ∧ ¬ i = 0) := by omega
      clear hki
      rcases hki2 with hk2 | ⟨rfl, hk2⟩
      · have e2 : (k == 2) = false := by simpa using hk2
        go_enter Tryd.func4, Tryd.ntmps4
        go_wp2_with fail
        refine (K1.out _ hp).mono ?_
        clear hp
        rintro e w1 ⟨rfl, hp⟩
        go_wp2_with fail
        refine (K2.out _ hp).mono ?_
        clear hp
        rintro e w1 ⟨rfl, hp⟩
        go_wp2_with fail
        refine (K3.out _ hp).mono ?_
        clear hp
        rintro e w1 ⟨rfl, hp⟩
        go_wp2_with fail
        refine (K4.out _ hp).mono ?_
        clear hp
        rintro e w1 ⟨rfl, hp⟩
        go_wp2_with fail
        refine (K5.out _ hp).mono ?_
        clear hp
        rintro e w1 ⟨rfl, hp⟩
        go_wp2_with fail
        refine (outs_Pm (m := 1) HP.out HT.out _ _ hk0 hk1 HS.out HO.out rfl hp).mono ?_
        clear hp
        rintro e w2 ⟨A, cap, rfl, hcap, hrow, hp⟩
        obtain ⟨bl, off, rfl, hbl, _⟩ := hrow (by simp [nums])
        obtain ⟨R, HR, HRp, HRw, hR⟩ := keep_row HP.out hp hrow
        have HTR : Hid (∀ W, R W → Shapes W) := Lib.hid fun W h => HT.out _ (HRp.out _ h)
        clear hp hrow hbl
        go_wp2_with fail
        go_loopw [16] (fun x wr => (x = .int .i64 0 ∨ x = .int .i64 1) ∧ R wr) (fun x _ => 2 - (intOf x).toNat)
        case atStart => exact ⟨.inl rfl, hR⟩
        case round =>
          obtain ⟨rfl | rfl, hR⟩ := hrel
          · have m1 := HRw.out _ hR
            have c0 := m1.num_at 0 rfl
            rw [Nat.add_zero] at c0
            clear m1
            go_wp2_with fail
            refine (way_P HR.out HTR.out _ _ x hk0 hk1 HS.out rfl HG.out hR).mono ?_
            clear c0 hR
            rintro e w3 ⟨rfl, hR⟩
            have HS3 := Lib.hid (HR.out.drew hR)
            clear hR
            go_wp2_with fail
            refine region_steady (R) 17 (by kernel_rfl) (by kernel_rfl) HS3.out ?_
            simp only [List.take_succ_cons, List.take_zero, List.drop_succ_cons, List.drop_zero]
            repeat (first | (refine steady_skip (by rfl) ?_; simp only [Act.put, List.setIfInBounds_toArray, List.set_cons_zero, List.set_cons_succ]) | (refine steady_read _ (by rfl) (fun W hW => by (have m1 := HRw.out _ hW; have c0 := m1.num_at 0 rfl; rw [Nat.add_zero] at c0; clear m1; go_simp; first | done | with_reducible rfl)) ?_; simp only [Act.put, List.setIfInBounds_toArray, List.set_cons_zero, List.set_cons_succ]))
            refine steady_nil (fun W hW => ?_)
            go_wp2_with fail
            go_roundw
            case rel => exact ⟨.inr rfl, hW⟩
            case measure => simp [intOf]
          · go_wp2_with fail
            refine (wakes5_P HR.out HTR.out hR).mono ?_
            rintro e w9 ⟨rfl, hW9⟩
            go_wp2_with fail
            go_ret
            exact ⟨rfl, HPb.out _ (HRp.out _ hW9)⟩
      · have e2 : (i == 0) = false := by simpa using hk2
        go_enter Tryd.func4, Tryd.ntmps4
        go_wp2_with fail
        refine (K1.out _ hp).mono ?_
        clear hp
        rintro e w1 ⟨rfl, hp⟩
        go_wp2_with fail
        refine (K2.out _ hp).mono ?_
        clear hp
        rintro e w1 ⟨rfl, hp⟩
        go_wp2_with fail
        refine (K3.out _ hp).mono ?_
        clear hp
        rintro e w1 ⟨rfl, hp⟩
        go_wp2_with fail
        refine (K4.out _ hp).mono ?_
        clear hp
        rintro e w1 ⟨rfl, hp⟩
        go_wp2_with fail
        refine (K5.out _ hp).mono ?_
        clear hp
        rintro e w1 ⟨rfl, hp⟩
        go_wp2_with fail
        refine (outs_Pm (m := 1) HP.out HT.out _ _ hk0 hk1 HS.out HO.out rfl hp).mono ?_
        clear hp
        rintro e w2 ⟨A, cap, rfl, hcap, hrow, hp⟩
        obtain ⟨bl, off, rfl, hbl, _⟩ := hrow (by simp [nums])
        obtain ⟨R, HR, HRp, HRw, hR⟩ := keep_row HP.out hp hrow
        have HTR : Hid (∀ W, R W → Shapes W) := Lib.hid fun W h => HT.out _ (HRp.out _ h)
        clear hp hrow hbl
        go_wp2_with fail
        go_loopw [16] (fun x wr => (x = .int .i64 0 ∨ x = .int .i64 1) ∧ R wr) (fun x _ => 2 - (intOf x).toNat)
        case atStart => exact ⟨.inl rfl, hR⟩
        case round =>
          obtain ⟨rfl | rfl, hR⟩ := hrel
          · have m1 := HRw.out _ hR
            have c0 := m1.num_at 0 rfl
            rw [Nat.add_zero] at c0
            clear m1
            go_wp2_with fail
            refine (way_P HR.out HTR.out _ _ x hk0 hk1 HS.out rfl HG.out hR).mono ?_
            clear c0 hR
            rintro e w3 ⟨rfl, hR⟩
            have HS3 := Lib.hid (HR.out.drew hR)
            clear hR
            go_wp2_with fail
            refine region_steady (R) 17 (by kernel_rfl) (by kernel_rfl) HS3.out ?_
            simp only [List.take_succ_cons, List.take_zero, List.drop_succ_cons, List.drop_zero]
            repeat (first | (refine steady_skip (by rfl) ?_; simp only [Act.put, List.setIfInBounds_toArray, List.set_cons_zero, List.set_cons_succ]) | (refine steady_read _ (by rfl) (fun W hW => by (have m1 := HRw.out _ hW; have c0 := m1.num_at 0 rfl; rw [Nat.add_zero] at c0; clear m1; go_simp; first | done | with_reducible rfl)) ?_; simp only [Act.put, List.setIfInBounds_toArray, List.set_cons_zero, List.set_cons_succ]))
            refine steady_nil (fun W hW => ?_)
            go_wp2_with fail
            go_roundw
            case rel => exact ⟨.inr rfl, hW⟩
            case measure => simp [intOf]
          · go_wp2_with fail
            refine (wakes5_P HR.out HTR.out hR).mono ?_
            rintro e w9 ⟨rfl, hW9⟩
            go_wp2_with fail
            go_ret
            exact ⟨rfl, HPb.out _ (HRp.out _ hW9)⟩
    · exact absurd hio (by omega)
end Go.Proofs.YtmcnijkljofglaaDoor
