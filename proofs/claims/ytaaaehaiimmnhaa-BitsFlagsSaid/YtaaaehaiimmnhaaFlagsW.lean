/- Flags are numbers of one bit; to pad makes whole bytes; bytes' bits are theirs. -/
import Derived.Test.YtaaaehaiimmnhaaTells
namespace Go.Proofs.Ytaaaehaiimmnhaa
open Go.RowKit Go.Shelf
set_option linter.unusedVariables false

theorem digit_one (b : Bool) : first (digit (if b then 1 else 0) 1) 1 = [b] := by cases b <;> decide +kernel

/-- One bit more. -/
theorem put_bit (A : Option Addr) (cap : Nat) (zs : List Int) (N n : Int) (l : List Bool) (b : Bool) (w : World) (h : Hands w A zs) (hl : l.length ≤ 16000000) (hA : Are zs N l) (hn : n = if b then 1 else 0) :
    Calls Try.prog 9 #[.agg #[.slice A zs.length cap, .int .i64 N], .int .i64 n, .int .i64 1] w fun e w' =>
      ∃ g c ys M, e = .returned (.tuple #[.agg #[.slice (some ⟨g, 0, none⟩) ys.length c, .int .i64 M], .int .i64 0]) ∧ w.heap.size ≤ g ∧ Hands w' (some ⟨g, 0, none⟩) ys ∧ Are ys M (l ++ [b]) ∧ Below w.heap.size w w' := by
  subst hn
  obtain ⟨rfl, rfl⟩ := hA
  have hlen : (pack (bytesFor l.length) l).length = bytesFor l.length := pack_length _ _
  have h1 := h.1
  rw [hlen]
  refine (put_ok A cap l (if b then 1 else 0) 1 w h1 (by omega) (by omega) (by split <;> omega) (by split <;> decide) (right_pack l)).mono ?_
  rintro e w' ⟨g, rfl, hg, hW, hB⟩
  rw [digit_one] at hW
  refine ⟨g, bytesFor (l.length + 1), pack (bytesFor (l.length + 1)) (l ++ [b]), (l.length : Int) + 1, by rw [pack_length]; rfl, hg, Hands.pack hW, ⟨by simp, by simp⟩, hB⟩

theorem pack_falses (n k : Nat) (l : List Bool) : pack n (l ++ List.replicate k false) = pack n l := by
  induction k with
  | zero => simp
  | succ k ih => rw [List.replicate_succ', ← List.append_assoc, pack_false, ih]
/-- What padding is. -/
theorem pad_is {ys zs : List Int} {M N : Int} {l : List Bool} (h : Are ys M l) (h' : Are zs N (l ++ List.replicate (padN l.length) false)) : zs = ys ∧ N = 8 * (ys.length : Int) ∧ M ≤ N ∧ N ≤ M + 7 := by
  obtain ⟨rfl, rfl⟩ := h
  obtain ⟨rfl, rfl⟩ := h'
  have hb : bytesFor (l ++ List.replicate (padN l.length) false).length = bytesFor l.length := by
    rw [List.length_append, List.length_replicate]; unfold bytesFor padN; omega
  refine ⟨by rw [hb, pack_falses], ?_, ?_, ?_⟩
  · rw [pack_length, List.length_append, List.length_replicate]; unfold bytesFor padN; omega
  · rw [List.length_append]; omega
  · rw [List.length_append, List.length_replicate]; have := padN_le l.length; omega

set_option maxRecDepth 100000 in
set_option maxHeartbeats 8000000 in
theorem flags_walk (A L : Option Addr) (cx cl : Nat) (zs : List Int) (N : Int) (fl : List Bool) (w : World) (hr : Row w w.heap.size A (u8s zs)) (hb : ∀ z ∈ zs, IsByte z)
    (hN0 : -9223372036854775808 ≤ N) (hN1 : N ≤ 9223372036854775807) (hrl : Row w w.heap.size L (bools fl)) :
    Calls Try.prog 6 #[.agg #[.slice A zs.length cx, .int .i64 N], .slice L fl.length cl] w fun e w' => e = .returned (.bool true) ∧ Below w.heap.size w w' := by
  by_cases h1 : 100 < zs.length
  · have c1 : (100 : Int) < (zs.length : Int) := by omega
    go_enter Try.func6, Try.ntmps6
    go_wp2_with fail
    refine (wakes_any _).mono ?_
    rintro e w' ⟨rfl, hB⟩
    go_wp2_with fail
    go_ret
    exact ⟨rfl, on1 hB⟩
  by_cases h2 : 100 < fl.length
  · have c1 : ¬ (100 : Int) < (zs.length : Int) := by omega
    have c2 : (100 : Int) < (fl.length : Int) := by omega
    go_enter Try.func6, Try.ntmps6
    go_wp2_with fail
    refine (wakes_any _).mono ?_
    rintro e w' ⟨rfl, hB⟩
    go_wp2_with fail
    go_ret
    exact ⟨rfl, on1 hB⟩
  have G : Given w A zs N := ⟨hr, hb, by omega, hN0, hN1⟩
  have c1 : ¬ (100 : Int) < (zs.length : Int) := by omega
  have c2 : ¬ (100 : Int) < (fl.length : Int) := by omega
  have X0 := Var.new (w := w) ⟨hr, hb⟩ cx N
  go_enter Try.func6, Try.ntmps6
  go_wp2_with fail
  refine (rightR_given (G.on (below1 _ _)) cx).mono ?_
  rintro e w0 ⟨rfl, hB⟩
  have X1 := X0.on hB
  have S1 := on1 hB
  clear hB X0
  cases hR : rightB zs N
  · go_wp2_with fail
    refine (wakes_any _).mono ?_
    rintro e w' ⟨rfl, hB⟩
    go_wp2_with fail
    go_ret
    exact ⟨rfl, S1.trans (hB.mono S1.size)⟩
  obtain ⟨l, hA, hl16, hlz⟩ := G.bits hR
  have x0 := X1.1.cell_at 0 rfl
  have x1 := X1.1.cell_at 1 rfl
  go_wp2_with fail
  refine (flags_all A L cx cl zs N fl _ (by exact G.on S1) (by exact hrl.on S1) (by omega)).mono ?_
  rintro e w1 ⟨A1, k1, y1, M1, e1, rfl, H1, P1, hB⟩
  have X2 := X1.on hB
  have S2 := S1.trans (hB.mono S1.size)
  have b1 := P1.few 100 100 (by omega) (fun _ _ => by omega)
  obtain ⟨rfl, hA1⟩ : e1 = 0 ∧ Are y1 M1 (l ++ fl) := P1.lies hA
  have hx1 : w.heap.size < w1.heap.size := X2.1.lt
  clear hB X1 S1 x0 x1 P1
  have x0 := fun o => (X2.on (below1 w1 o)).1.cell_at 0 rfl
  have x1 := fun o => (X2.on (below1 w1 o)).1.cell_at 1 rfl
  have Hrl := Lib.hid (hrl.on S2)
  have HG := Lib.hid G
  have hLl : l.length ≤ 800 := by unfold bytesFor at hlz; omega
  have HA := Lib.hid hA
  have HA1 := Lib.hid hA1
  have HH := Lib.hid H1
  clear hA hA1 H1 hrl G hr hb hN0 hN1 hR hl16 hlz
  go_wp2_with fail
  go_loopw [8] (fun i wr => ∃ (j : Nat) (A' : Option Addr) (c : Nat) (zz : List Int) (zN : Int), j ≤ fl.length ∧ i = .int .i64 j ∧ Are zz zN (l ++ fl.take j) ∧ Whole wr (w1.heap.size + 1) 24 [.slice A' zz.length c, .int .i64 zN] ∧ Hands wr A' zz ∧
      Whole wr w1.heap.size 24 [.slice A1 y1.length k1, .int .i64 M1] ∧ Below w1.heap.size w1 wr)
    (fun i _ => fl.length - (intOf i).toNat)
  case atStart =>
    refine ⟨0, A, cx, zs, N, Nat.zero_le _, by simp, by simpa using HA.out, Whole.new_at _ _ [_, _] _ (by simp), ?_, (Whole.new w1 _ [_, _]).alloc _, below2 _ _ _⟩
    exact (Hands.on ⟨(HG.out).row, HG.out.bytes⟩ (S2.trans ((below2 _ _ _).mono S2.size)))
  case round =>
    obtain ⟨j, A', c, zz, zN, hj, rfl, hAz, hz, hHz, hy, hS⟩ := hrel
    clear x0 x1
    have HAz := Lib.hid hAz
    have y0 := hz.cell_at 0 rfl
    have y1' := hz.cell_at 1 rfl
    have hzl : w1.heap.size + 1 < wr.heap.size := hz.lt
    clear hAz
    by_cases hlt : j < fl.length
    · have hlti : (j : Int) < fl.length := by omega
      obtain ⟨bA, oA, rfl, hbA, hcA⟩ := Hrl.out (by simp [bools]; omega)
      have hcj : wr.cell? ⟨bA, oA + j, none⟩ = some (.bool (fl[j]?.getD false)) := (hS.cell (p := ⟨bA, oA + j, none⟩) hbA).trans (hcA j _ (by simp [bools, hlt]))
      have HCA := Lib.hid hcA
      have HLT := Lib.hid hlt
      clear hcA hlt
      obtain ⟨b, hbit⟩ : ∃ b, fl[j]?.getD false = b := ⟨_, rfl⟩
      have hPut := fun (n : Int) (hn : n = if b then 1 else 0) => put_bit A' c zz zN n (l ++ fl.take j) b wr hHz (by simp; omega) HAz.out hn
      have HPut := Lib.hid hPut
      rw [hbit] at hcj
      have HB := Lib.hid hbit
      clear hPut hbit
      cases b
      all_goals
        go_wp2_with fail
        refine (HPut.out _ rfl).mono ?_
        rintro e w3 ⟨g, c3, y3, M3, rfl, hg, H3, A3, hB3⟩
        have hz3 := hz.below hB3 hz.lt
        have hy3 := hy.below hB3 hy.lt
        have hS3 := hS.trans (hB3.mono hS.size)
        have z0 := fun o => (hz3.alloc o).cell_at 0 rfl
        have z1 := fun o u => ((hz3.alloc o).set 0 u).cell_at 1 rfl
        have f0 := fun o => (hz3.alloc o).frozen 0
        have f1 := fun o u => ((hz3.alloc o).set 0 u).frozen 1
        have HA3 := Lib.hid A3
        clear y0 y1' A3
        go_wp2_with fail
        go_roundw
        case rel =>
          refine ⟨j + 1, some ⟨g, 0, none⟩, c3, y3, M3, by have := HLT.out; omega, by go_num, ?_, ((hz3.alloc _).set 0 _).set 1 _, ?_, ?_, ?_⟩
          · have h := HA3.out
            rw [← HB.out, List.append_assoc] at h
            rw [List.take_add_one, List.getElem?_eq_getElem HLT.out]
            rw [List.getElem?_eq_getElem HLT.out] at h
            exact h
          · exact ((H3.on (below1 _ _)).far (p := ⟨w1.heap.size + 1, 0, none⟩) (by rintro q ⟨rfl⟩; show g ≠ w1.heap.size + 1; omega) _).far (p := ⟨w1.heap.size + 1, 1, none⟩) (by rintro q ⟨rfl⟩; show g ≠ w1.heap.size + 1; omega) _
          · exact ((hy3.alloc _).far (p := ⟨w1.heap.size + 1, 0, none⟩) (by show w1.heap.size ≠ w1.heap.size + 1; omega) _).far (p := ⟨w1.heap.size + 1, 1, none⟩) (by show w1.heap.size ≠ w1.heap.size + 1; omega) _
          · exact below_put (hS3.alloc hS3.size _) (by omega) _ _
        case measure => have := HLT.out; simp [intOf]; omega
    · obtain rfl : j = fl.length := by omega
      rw [List.take_length] at HAz
      obtain ⟨hyz, hMz⟩ := HA1.out.det HAz.out
      subst hyz
      subst hMz
      have H1r := HH.out.on hS
      have x0 := hy.cell_at 0 rfl
      have x1 := hy.cell_at 1 rfl
      go_wp2_with fail
      refine (pad_all A1 k1 y1 M1 wr (Given.of H1r (by omega) (by omega) (by omega))).mono ?_
      rintro e w5 ⟨A5, k5, y5, M5, e5, rfl, H5, P5, hB5⟩
      obtain ⟨rfl, hA5⟩ := P5.lies HA1.out
      obtain ⟨hy5, hM5, hge, hle⟩ := pad_is HA1.out hA5
      subst y5
      have HM5 := Lib.hid hM5
      have hm8 : M5 % 8 = 0 := by omega
      have hM0 : 0 ≤ M5 := by omega
      have hlt1 : ¬ M5 < M1 := by omega
      have hgt1 : ¬ M1 + 7 < M5 := by omega
      have hw7 : IntKind.i64.wrap (M1 + 7) = M1 + 7 := wrap_id _ (by omega) (by omega)
      have HA5 := Lib.hid hA5
      have hyy := hy.below hB5 hy.lt
      have hzz := hz.below hB5 hz.lt
      have S5 : Below w.heap.size w w5 := (S2.trans (hS.mono (by omega))).trans (hB5.mono (by have := hS.size; omega))
      have H1s := H1r.on hB5
      have Hzs := hHz.on hB5
      clear x0 x1 hM5 hge hle hA5 P5 y0 y1'
      have x0 := fun o => (hyy.alloc o).cell_at 0 rfl
      have x1 := fun o => (hyy.alloc o).cell_at 1 rfl
      have y0 := fun o => (hzz.alloc o).cell_at 0 rfl
      have y1' := fun o => (hzz.alloc o).cell_at 1 rfl
      go_wp2_with fail
      refine (like A1 A' k1 c y1 M1 _ (by exact H1s.on (below1 _ _)) (by exact Hzs.on (below1 _ _))).mono ?_
      rintro e w6 ⟨rfl, hB⟩
      have V6 := (Var.new H5 k5 M5).on hB
      have hy6 := (hyy.alloc _).below hB (by simp; have := hyy.lt; omega)
      have H1t := (H1s.on (below1 _ _)).on hB
      have S6 := S5.trans ((on1 hB).mono S5.size)
      clear hB x0 x1 y0 y1' hyy hzz H1s Hzs S5
      have x0 := hy6.cell_at 0 rfl
      have x1 := hy6.cell_at 1 rfl
      have y0 := V6.1.cell_at 0 rfl
      have y1' := V6.1.cell_at 1 rfl
      have t1 := text_run w6 22 5 Try.underlying22 Try.underlying5 9 Try.underlying9 _ A5 y1 k5 V6.2.1
      have t2 := text_run w6 22 5 Try.underlying22 Try.underlying5 9 Try.underlying9 _ A1 y1 k1 H1t.1
      go_wp2_with fail
      refine (pad_all A5 k5 y1 M5 w6 (Given.of V6.2 (by omega) (by omega) (by omega))).mono ?_
      rintro e w7 ⟨A7, k7, y7, M7, e7, rfl, H7, P7, hB⟩
      obtain ⟨rfl, hA7⟩ := P7.lies HA5.out
      obtain ⟨hy7, hM7, _, _⟩ := pad_is HA5.out hA7
      subst y7
      obtain rfl : M7 = M5 := by rw [hM7, HM5.out]
      have V7 := V6.on hB
      have S7 := S6.trans (hB.mono S6.size)
      have T8 : Two w w5.heap.size w7.heap.size A5 A7 k5 k7 y1 y1 M7 M7 (w7.alloc (.cells #[.slice A7 y1.length k7, .int .i64 M7] 24)) := ⟨V7.on (below1 _ _), Var.new H7 k7 M7, S7.trans ((below1 _ _).mono S7.size)⟩
      have hOf := fun (W : World) (h : Hands W A5 y1) => of_given A5 k5 y1 W h (by omega)
      rw [← HM5.out] at hOf
      have HOf := Lib.hid hOf
      clear hOf hM7 hA7 V7 S7 H7 P7 V6 hy6 H1t S6 x0 x1 y0 y1' t1 t2 hw7 hgt1 hlt1 hm8 H5
      go_wp2_with fail
      obtain ⟨W8, hW8⟩ : ∃ W, W = w7.alloc (.cells #[.slice A7 y1.length k7, .int .i64 M7] 24) := ⟨_, rfl⟩
      rw [← hW8]
      have T8 : Two w w5.heap.size w7.heap.size A5 A7 k5 k7 y1 y1 M7 M7 W8 := hW8 ▸ T8
      clear hW8
      go_region_held3 (fun W => Two w w5.heap.size w7.heap.size A5 A7 k5 k7 y1 y1 M7 M7 W ∧ W.cell? ⟨w5.heap.size, 0, none⟩ = some (.slice A5 y1.length k5) ∧ W.cell? ⟨w5.heap.size, 1, none⟩ = some (.int .i64 M7) ∧ W.cell? ⟨w7.heap.size, 0, none⟩ = some (.slice A7 y1.length k7) ∧ W.cell? ⟨w7.heap.size, 1, none⟩ = some (.int .i64 M7))
        (first
        | exact (T8.on (Below.refl _ _).drew).all
        | exact ((‹Two _ _ _ _ _ _ _ _ _ _ _ _ ∧ _›).1.on hB).all)
        (first
        | (go_at_call 13; (with_reducible refine (like A7 A5 k7 k5 y1 M7 _ ?_ ?_).mono ?_); (next => exact (‹Two _ _ _ _ _ _ _ _ _ _ _ _ ∧ _›).1.Y.2); (next => exact (‹Two _ _ _ _ _ _ _ _ _ _ _ _ ∧ _›).1.X.2); rintro e w' ⟨rfl, hB⟩)
        | (go_at_call 22; (with_reducible refine (HOf.out _ ?_).mono ?_); (next => exact (‹Two _ _ _ _ _ _ _ _ _ _ _ _ ∧ _›).1.X.2); rintro e w' ⟨gf, rfl, rf, hB⟩)
        | (go_at_call 13; (with_reducible refine (like _ A5 _ k5 y1 M7 _ ?_ ?_).mono ?_); (next => exact rf); (next => exact (‹Two _ _ _ _ _ _ _ _ _ _ _ _ ∧ _›).1.X.2); rintro e w' ⟨rfl, hB⟩)
        | (go_at_call 8; (with_reducible refine (wakes_any _).mono ?_); rintro e w' ⟨rfl, hB⟩; have hS9 := ((‹Two _ _ _ _ _ _ _ _ _ _ _ _ ∧ _›).1.on hB).S))
      all_goals (go_wp2_with fail; first | (go_ret; exact ⟨rfl, hS9⟩) | exact ⟨rfl, hS9⟩)
end Go.Proofs.Ytaaaehaiimmnhaa
