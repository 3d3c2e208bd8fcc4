/- Bits are the same just if they tell the same bit by bit; a number of two parts is both side by side. -/
import Derived.Test.YtaaaehaiimmnhaaTells
import Derived.Test.YtaaaehaiimmnhaaBitMath
namespace Go.Proofs.Ytaaaehaiimmnhaa
open Go.RowKit Go.Shelf
set_option linter.unusedVariables false

theorem same_are {zs ys : List Int} {N M : Int} {l m : List Bool} (h : Are zs N l) (h' : Are ys M m) : (decide (N = M) && sameB zs ys) = decide (l = m) := by
  obtain ⟨rfl, rfl⟩ := h
  obtain ⟨rfl, rfl⟩ := h'
  exact same_pack l m

theorem wrap64_own (x : Int) (h0 : -9223372036854775808 ≤ x) (h1 : x ≤ 9223372036854775807) : wrap64 x = x := by unfold wrap64; omega
/-- Two takes side by side against one. -/
theorem two_takes {zs : List Int} {N a hi lo m1 m2 m3 e1 e2 e3 : Int} {l : List Bool} (hA : Are zs N l) (ha : 0 ≤ a) (hh : 0 ≤ hi) (hh' : hi ≤ 16) (hl : 0 ≤ lo) (hl' : lo ≤ 16)
    (P1 : Taken zs N a (hi + lo) m1 e1) (P2 : Taken zs N a hi m2 e2) (P3 : Taken zs N (a + hi) lo m3 e3) :
    (e1 = 40 ∧ m1 = 0 ∧ N < a + hi + lo) ∨ (e1 = 0 ∧ e2 = 0 ∧ e3 = 0 ∧ a + hi + lo ≤ N ∧ m1 = m2 * 2 ^ lo.toNat + m3 ∧ 0 ≤ m2 ∧ m2 ≤ 65535 ∧ 0 ≤ m3 ∧ m3 ≤ 65535) := by
  have hr := hA.right
  have w1 : wideB (hi + lo) = true := by simp [wideB]; omega
  have w2 : wideB hi = true := by simp [wideB]; omega
  have w3 : wideB lo = true := by simp [wideB]; omega
  rcases P1 with ⟨hb, _⟩ | ⟨_, _, l1, hl1, P1⟩
  · simp [hr, w1, ha] at hb
  obtain rfl := hA.inj hl1
  rcases P1 with ⟨h1, rfl, rfl⟩ | ⟨h1, rfl, rfl⟩
  · exact .inl ⟨rfl, rfl, by omega⟩
  right
  rcases P2 with ⟨hb, _⟩ | ⟨_, _, l2, hl2, P2⟩
  · simp [hr, w2, ha] at hb
  obtain rfl := hA.inj hl2
  rcases P2 with ⟨h2, rfl, rfl⟩ | ⟨h2, rfl, rfl⟩
  · omega
  rcases P3 with ⟨hb, _⟩ | ⟨_, _, l3, hl3, P3⟩
  · simp [hr, w3] at hb; omega
  obtain rfl := hA.inj hl3
  rcases P3 with ⟨h3, rfl, rfl⟩ | ⟨h3, rfl, rfl⟩
  · omega
  obtain ⟨an, rfl⟩ : ∃ n : Nat, a = n := ⟨a.toNat, by omega⟩
  obtain ⟨hn, rfl⟩ : ∃ n : Nat, hi = n := ⟨hi.toNat, by omega⟩
  obtain ⟨ln, rfl⟩ : ∃ n : Nat, lo = n := ⟨lo.toNat, by omega⟩
  have e1 : ((hn : Int) + ln).toNat = hn + ln := by omega
  have e2 : ((an : Int) + hn).toNat = an + hn := by omega
  rw [e1, e2]
  simp only [Int.toNat_natCast]
  have p1 : (2 : Int) ^ hn ≤ 65536 := by
    have h1 : (2 : Nat) ^ hn ≤ 2 ^ 16 := Nat.pow_le_pow_right (by omega) (by omega)
    have h2 : (((2 : Nat) ^ hn : Nat) : Int) = (2 : Int) ^ hn := by simp
    rw [← h2]; omega
  have p2 : (2 : Int) ^ ln ≤ 65536 := by
    have h1 : (2 : Nat) ^ ln ≤ 2 ^ 16 := Nat.pow_le_pow_right (by omega) (by omega)
    have h2 : (((2 : Nat) ^ ln : Nat) : Int) = (2 : Int) ^ ln := by simp
    rw [← h2]; omega
  have b1 := numOf_lt l an hn
  have b2 := numOf_lt l (an + hn) ln
  exact ⟨trivial, trivial, trivial, by omega, numOf_parts l an hn ln, b1.1, by omega, b2.1, by omega⟩

set_option maxRecDepth 100000 in
set_option maxHeartbeats 8000000 in
theorem told_walk (A A' : Option Addr) (cx cy : Nat) (zs ys : List Int) (N M a hi lo : Int) (w : World) (hr : Row w w.heap.size A (u8s zs)) (hb : ∀ z ∈ zs, IsByte z) (hr' : Row w w.heap.size A' (u8s ys)) (hb' : ∀ z ∈ ys, IsByte z)
    (hN0 : -9223372036854775808 ≤ N) (hN1 : N ≤ 9223372036854775807) (hM0 : -9223372036854775808 ≤ M) (hM1 : M ≤ 9223372036854775807) :
    Calls Try.prog 5 #[.agg #[.slice A zs.length cx, .int .i64 N], .agg #[.slice A' ys.length cy, .int .i64 M], .int .i64 a, .int .i64 hi, .int .i64 lo] w fun e w' => e = .returned (.bool true) ∧ Below w.heap.size w w' := by
  by_cases h1 : 100 < zs.length
  · have c1 : (100 : Int) < (zs.length : Int) := by omega
    go_enter Try.func5, Try.ntmps5
    go_wp2_with fail
    refine (wakes_any _).mono ?_
    rintro e w' ⟨rfl, hB⟩
    go_wp2_with fail
    go_ret
    exact ⟨rfl, on2 hB⟩
  by_cases h2 : 100 < ys.length
  · have c1 : ¬ (100 : Int) < (zs.length : Int) := by omega
    have c2 : (100 : Int) < (ys.length : Int) := by omega
    go_enter Try.func5, Try.ntmps5
    go_wp2_with fail
    refine (wakes_any _).mono ?_
    rintro e w' ⟨rfl, hB⟩
    go_wp2_with fail
    go_ret
    exact ⟨rfl, on2 hB⟩
  have G : Given w A zs N := ⟨hr, hb, by omega, hN0, hN1⟩
  have G' : Given w A' ys M := ⟨hr', hb', by omega, hM0, hM1⟩
  have c1 : ¬ (100 : Int) < (zs.length : Int) := by omega
  have c2 : ¬ (100 : Int) < (ys.length : Int) := by omega
  have T0 : Two w w.heap.size (w.heap.size + 1) A A' cx cy zs ys N M ((w.alloc (.cells #[.slice A zs.length cx, .int .i64 N] 24)).alloc (.cells #[.slice A' ys.length cy, .int .i64 M] 24)) :=
    ⟨(Var.new ⟨hr, hb⟩ cx N).on (below1 _ _), Var.new_at (Hands.on ⟨hr', hb'⟩ (below1 _ _)) cy M _ (by simp), below2 _ _ _⟩
  go_enter Try.func5, Try.ntmps5
  go_wp2_with fail
  refine (rightR_given (G.on (below2 _ _ _)) cx).mono ?_
  rintro e w1 ⟨rfl, hB⟩
  have T1 := T0.on hB
  clear hB T0
  cases hR : rightB zs N
  · go_wp2_with fail
    refine (wakes_any _).mono ?_
    rintro e w' ⟨rfl, hB⟩
    go_wp2_with fail
    go_ret
    exact ⟨rfl, T1.S.trans (hB.mono T1.S.size)⟩
  have y0 := T1.Y.1.cell_at 0 rfl
  have y1 := T1.Y.1.cell_at 1 rfl
  go_wp2_with fail
  refine (rightR_given (G'.on T1.S) cy).mono ?_
  rintro e w2 ⟨rfl, hB⟩
  have T2 := T1.on hB
  clear hB T1 y0 y1
  cases hR' : rightB ys M
  · go_wp2_with fail
    refine (wakes_any _).mono ?_
    rintro e w' ⟨rfl, hB⟩
    go_wp2_with fail
    go_ret
    exact ⟨rfl, T2.S.trans (hB.mono T2.S.size)⟩
  obtain ⟨l, hA, hl16, _⟩ := G.bits hR
  obtain ⟨m, hA', hm16, _⟩ := G'.bits hR'
  have hNl := Lib.hid hA.1
  have hMm := Lib.hid hA'.1
  have HA := Lib.hid hA
  have HA' := Lib.hid hA'
  have HG := Lib.hid G
  have x0 := T2.X.1.cell_at 0 rfl
  have x1 := T2.X.1.cell_at 1 rfl
  have y0 := T2.Y.1.cell_at 0 rfl
  have y1 := T2.Y.1.cell_at 1 rfl
  have HT2 := Lib.hid T2
  obtain ⟨sb, hsb⟩ : ∃ b : Bool, (N == M) = b := ⟨_, rfl⟩
  have hlm : sb = true ↔ (l.length = m.length ∧ l.take 0 = m.take 0) := by
    rw [← hsb, hA.1, hA'.1]; simp; omega
  clear hr hr' hb hb' G G' hR hR' hA hA' T2
  go_wp2_with fail
  go_loopw [11, 12] (fun s i wr => ∃ (j : Nat) (sb : Bool), j ≤ l.length ∧ i = .int .i64 j ∧ s = .bool sb ∧ (sb = true ↔ (l.length = m.length ∧ l.take j = m.take j)) ∧ Two w w.heap.size (w.heap.size + 1) A A' cx cy zs ys N M wr)
    (fun s i _ => l.length - (intOf i).toNat)
  case atStart => exact ⟨0, sb, Nat.zero_le _, rfl, rfl, hlm, HT2.out⟩
  case round =>
    clear hsb hlm x0 x1 y0 y1
    obtain ⟨j, sb, hj, rfl, rfl, hsb, T⟩ := hrel
    have HT := Lib.hid T
    have HS := Lib.hid hsb
    have x0 := T.X.1.cell_at 0 rfl
    have x1 := T.X.1.cell_at 1 rfl
    have y0 := T.Y.1.cell_at 0 rfl
    have y1 := T.Y.1.cell_at 1 rfl
    clear T hsb
    by_cases hgo : j < l.length ∧ sb = true
    · obtain ⟨hlt, rfl⟩ := hgo
      have hjN : (j : Int) < N := by rw [hNl.out]; omega
      obtain ⟨hlen, htake⟩ := HS.out.1 rfl
      have HLT := Lib.hid hlt
      have HLEN := Lib.hid hlen
      have HTK := Lib.hid htake
      obtain ⟨b, hbit⟩ : ∃ b, l[j]?.getD false = b := ⟨_, rfl⟩
      obtain ⟨b', hbit'⟩ : ∃ b, m[j]?.getD false = b := ⟨_, rfl⟩
      have hT1 := fun (W : World) (h : Hands W A zs) => take_bit A cx zs N l j W h HA.out hl16 hlt
      have hT2 := fun (W : World) (h : Hands W A' ys) => take_bit A' cy ys M m j W h HA'.out hm16 (by omega)
      rw [hbit] at hT1
      rw [hbit'] at hT2
      have HT1 := Lib.hid hT1
      have HT2' := Lib.hid hT2
      have HB := Lib.hid hbit
      have HB' := Lib.hid hbit'
      clear hT1 hT2 hbit hbit' hlt hlen htake
      cases b <;> cases b'
      all_goals
        go_wp2_with fail
        refine (HT1.out _ (by exact HT.out.X.2)).mono ?_
        rintro e w3 ⟨rfl, hB⟩
        have T3 := HT.out.on hB
        clear hB x0 x1 y0 y1
        have y0 := T3.Y.1.cell_at 0 rfl
        have y1 := T3.Y.1.cell_at 1 rfl
        go_wp2_with fail
        refine (HT2'.out _ (by exact T3.Y.2)).mono ?_
        rintro e w4 ⟨rfl, hB⟩
        have T4 := T3.on hB
        clear hB y0 y1 T3
        go_wp2_with fail
        go_roundw
        case rel =>
          refine ⟨j + 1, _, by have := HLT.out; omega, by go_num, rfl, ?_, T4⟩
          have h1 : j < l.length := HLT.out
          have h2 : j < m.length := by have := HLEN.out; omega
          have e1 := HB.out
          have e2 := HB'.out
          rw [List.getElem?_eq_getElem h1] at e1
          rw [List.getElem?_eq_getElem h2] at e2
          simp only [Option.getD_some] at e1 e2
          rw [List.take_add_one, List.take_add_one, List.getElem?_eq_getElem h1, List.getElem?_eq_getElem h2, HTK.out, e1, e2]
          simp [HLEN.out]
        case measure => have := HLT.out; simp [intOf]; omega
    · have hsame : (decide (N = M) && sameB zs ys) = sb := by
        rw [same_are HA.out HA'.out]
        have h := HS.out
        rw [Bool.eq_iff_iff, decide_eq_true_eq, h]
        constructor
        · rintro rfl; exact ⟨rfl, rfl⟩
        · rintro ⟨hl, ht⟩
          have hj' : j = l.length := by
            have := h.2 ⟨hl, ht⟩
            rcases Nat.lt_or_ge j l.length with h3 | h3
            · exact absurd ⟨h3, this⟩ hgo
            · omega
          rw [hj', List.take_length, hl, List.take_length] at ht
          exact ht
      have hSame := fun (W : World) (h : Hands W A zs) (h' : Hands W A' ys) => likeB A A' cx cy zs ys N M W h h'
      rw [hsame] at hSame
      have HSame := Lib.hid hSame
      have hside : (¬ (j : Int) < N) ∨ ((j : Int) < N ∧ sb = false) := by
        rw [hNl.out]
        cases sb
        · by_cases h : (j : Int) < l.length
          · exact .inr ⟨h, rfl⟩
          · exact .inl h
        · refine .inl (fun h => hgo ⟨by omega, rfl⟩)
      clear hSame hsame hgo
      rcases hside with hjN | ⟨hjN, rfl⟩
      all_goals
        go_wp2_with fail
        refine (HSame.out _ (by exact HT.out.X.2) (by exact HT.out.Y.2)).mono ?_
        rintro e w3 ⟨rfl, hB⟩
        have T3 := HT.out.on hB
        clear hB x0 x1 y0 y1
        obtain ⟨mn, hmn⟩ : ∃ x, (if lo < hi then lo else hi) = x := ⟨_, rfl⟩
        obtain ⟨mx, hmx⟩ : ∃ x, (if hi < lo then lo else hi) = x := ⟨_, rfl⟩
        by_cases ha0 : a < 0
        · go_wp2_with fail
          refine (wakes_any _).mono ?_
          rintro e w' ⟨rfl, hB⟩
          go_wp2_with fail
          go_ret
          exact ⟨rfl, T3.S.trans (hB.mono T3.S.size)⟩
        by_cases ha1 : 1000 < a
        · go_wp2_with fail
          refine (wakes_any _).mono ?_
          rintro e w' ⟨rfl, hB⟩
          go_wp2_with fail
          go_ret
          exact ⟨rfl, T3.S.trans (hB.mono T3.S.size)⟩
        by_cases ha2 : mn < 0
        · go_wp2_with fail
          refine (wakes_any _).mono ?_
          rintro e w' ⟨rfl, hB⟩
          go_wp2_with fail
          go_ret
          exact ⟨rfl, T3.S.trans (hB.mono T3.S.size)⟩
        by_cases ha3 : 16 < mx
        · go_wp2_with fail
          refine (wakes_any _).mono ?_
          rintro e w' ⟨rfl, hB⟩
          go_wp2_with fail
          go_ret
          exact ⟨rfl, T3.S.trans (hB.mono T3.S.size)⟩
        have hr4 : 0 ≤ hi ∧ hi ≤ 16 ∧ 0 ≤ lo ∧ lo ≤ 16 := by
          rw [← hmn] at ha2
          rw [← hmx] at ha3
          split at ha2 <;> split at ha3 <;> omega
        obtain ⟨hh0, hh1, hl0, hl1⟩ := hr4
        have hw1 : IntKind.i64.wrap (hi + lo) = hi + lo := wrap_id _ (by omega) (by omega)
        have hw2 : IntKind.i64.wrap (a + hi) = a + hi := wrap_id _ (by omega) (by omega)
        have hw3 : IntKind.i64.wrap (a + hi + lo) = a + hi + lo := wrap_id _ (by omega) (by omega)
        have x0 := T3.X.1.cell_at 0 rfl
        have x1 := T3.X.1.cell_at 1 rfl
        go_wp2_with fail
        refine (take_all A cx zs N a (hi + lo) _ (by exact HG.out.on T3.S)).mono ?_
        rintro e w4 ⟨m1, e1, rfl, P1, hB⟩
        have T4 := T3.on hB
        clear hB x0 x1
        have x0 := T4.X.1.cell_at 0 rfl
        have x1 := T4.X.1.cell_at 1 rfl
        go_wp2_with fail
        refine (take_all A cx zs N a hi _ (by exact HG.out.on T4.S)).mono ?_
        rintro e w5 ⟨m2, e2, rfl, P2, hB⟩
        have T5 := T4.on hB
        clear hB x0 x1
        have x0 := T5.X.1.cell_at 0 rfl
        have x1 := T5.X.1.cell_at 1 rfl
        go_wp2_with fail
        refine (take_all A cx zs N (a + hi) lo _ (by exact HG.out.on T5.S)).mono ?_
        rintro e w6 ⟨m3, e3, rfl, P3, hB⟩
        have T6 := T5.on hB
        clear hB x0 x1
        have x0 := T6.X.1.cell_at 0 rfl
        have x1 := T6.X.1.cell_at 1 rfl
        rcases two_takes HA.out (by omega) hh0 hh1 hl0 hl1 P1 P2 P3 with ⟨rfl, rfl, hs⟩ | ⟨rfl, rfl, rfl, hs, hm, b1, b2, b3, b4⟩
        · go_wp2_with fail
          refine (wakes_any _).mono ?_
          rintro e w' ⟨rfl, hB⟩
          go_wp2_with fail
          go_ret
          exact ⟨rfl, T6.S.trans (hB.mono T6.S.size)⟩
        · have hp : (2 : Int) ^ lo.toNat ≤ 65536 := by
            have h1 : (2 : Nat) ^ lo.toNat ≤ 2 ^ 16 := Nat.pow_le_pow_right (by omega) (by omega)
            have h2 : (((2 : Nat) ^ lo.toNat : Nat) : Int) = (2 : Int) ^ lo.toNat := by simp
            rw [← h2]; omega
          have hq : (0 : Int) ≤ 2 ^ lo.toNat := Int.le_of_lt (Int.pow_pos (by omega))
          have hm2 : m2 * 2 ^ lo.toNat ≤ 65535 * 65536 := Int.mul_le_mul b2 hp hq (by omega)
          have hm0 : 0 ≤ m2 * 2 ^ lo.toNat := Int.mul_nonneg b1 hq
          have hz1 : wrap64 (m2 * 2 ^ lo.toNat) = m2 * 2 ^ lo.toNat := wrap64_own _ (by omega) (by omega)
          have hz2 : wrap64 (m2 * 2 ^ lo.toNat + m3) = m2 * 2 ^ lo.toNat + m3 := wrap64_own _ (by omega) (by omega)
          have htest : (m1 != wrap64 (wrap64 (m2 * 2 ^ lo.toNat) + m3)) = false := by
            rw [hz1, hz2, ← hm]
            simp
          clear hm hp hq hm2 hm0 hz1 hz2
          go_wp2_with fail
          refine (wakes_any _).mono ?_
          rintro e w' ⟨rfl, hB⟩
          go_wp2_with fail
          go_ret
          exact ⟨rfl, T6.S.trans (hB.mono T6.S.size)⟩
end Go.Proofs.Ytaaaehaiimmnhaa
