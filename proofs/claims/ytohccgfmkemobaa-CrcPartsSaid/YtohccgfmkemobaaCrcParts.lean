/- States go on by parts as by all; rows put together go on as they do by each. -/
import Derived.Test.YtohccgfmkemobaaCrcW
import Derived.Test.YtohccgfmkemobaaCrcBits
namespace Go.Proofs.Ytohccgfmkemobaa
open Go.RowKit Go.Shelf
set_option linter.unusedVariables false

set_option maxRecDepth 100000 in
set_option maxHeartbeats 8000000 in
theorem parts_long (A A' : Option Addr) (cap cap' n : Nat) (za zb : List Int) (N : Int) (s t : BitVec 16) (w : World) (hl : za.length ≤ maxLen) (hl' : zb.length ≤ maxLen) (hn : n = min za.length zb.length) (h1 : 200 < n) :
    Calls Try.prog 5 #[.slice A za.length cap, .slice A' zb.length cap', .int .i64 N, .int .u16 (numS s), .int .u16 (numS t)] w fun e w' => e = .returned (.bool true) ∧ Below w.heap.size w w' := by
  unfold maxLen at hl hl'
  have hmin : (if zb.length < za.length then (zb.length : Int) else (za.length : Int)) = (n : Int) := by split <;> omega
  have c1 : (200 : Int) < (n : Int) := by omega
  have HN := Lib.hid hn
  clear hn
  go_enter Try.func5, Try.ntmps5
  go_wp2_with fail
  refine (wakes_any _).mono ?_
  rintro e w' ⟨rfl, hB⟩
  go_wp2_with fail
  go_ret
  exact ⟨rfl, hB⟩

/-- The place of the cut. -/
theorem place_any (N : Int) (n : Nat) (h1 : n ≤ 200) : ∃ q : Nat, q ≤ n ∧ (wrap64 (wrap64 (N.tmod ((n : Int) + 1) + n) + 1)).tmod ((n : Int) + 1) = (q : Int) := by
  have a1 := Int.tmod_lt_of_pos N (b := (n : Int) + 1) (by omega)
  have a2 : -((n : Int) + 1) < N.tmod ((n : Int) + 1) := Int.lt_tmod_of_pos N (by omega)
  generalize N.tmod ((n : Int) + 1) = m at a1 a2
  have e1 : wrap64 (m + n) = m + n := by unfold wrap64; omega
  have e2 : wrap64 (m + n + 1) = m + n + 1 := by unfold wrap64; omega
  rw [e1, e2, Int.tmod_eq_emod_of_nonneg (by omega)]
  have b1 := Int.emod_nonneg (m + n + 1) (b := (n : Int) + 1) (by omega)
  have b2 := Int.emod_lt_of_pos (m + n + 1) (b := (n : Int) + 1) (by omega)
  exact ⟨((m + n + 1) % ((n : Int) + 1)).toNat, by omega, by omega⟩

/-- The first j of these bytes; 0s behind them. -/
def partC (zc : List Int) (n j : Nat) : List Int := zc.take j ++ List.replicate (n - j) 0
theorem partC_zero (zc : List Int) (n : Nat) : partC zc n 0 = List.replicate n 0 := by unfold partC; rw [List.take_zero, Nat.sub_zero]; rfl
theorem partC_all (zc : List Int) (n : Nat) (h : zc.length = n) : partC zc n n = zc := by simp [partC, ← h]
theorem partC_length (zc : List Int) (n j : Nat) (h : zc.length = n) (hj : j ≤ n) : (partC zc n j).length = n := by simp [partC]; omega
theorem partC_at (zc : List Int) (n j : Nat) (h : zc.length = n) (hj : j < n) : (partC zc n j)[j]? = some 0 := by
  unfold partC
  rw [List.getElem?_append_right (by simp; omega), List.length_take, show j - min j zc.length = 0 by omega, List.getElem?_replicate, if_pos (by omega)]
theorem partC_set (zc : List Int) (n j : Nat) (h : zc.length = n) (hj : j < n) (x : Int) (hx : zc[j]? = some x) : (partC zc n j).set j x = partC zc n (j + 1) := by
  unfold partC
  have e1 : (zc.take j).length = j := by simp; omega
  rw [List.set_append_right _ _ (by omega), e1, Nat.sub_self, List.take_succ_eq_append_getElem (by omega), show n - j = (n - (j + 1)) + 1 by omega, List.replicate_succ, List.set_cons_zero]
  have hx' : zc[j]'(by omega) = x := by rw [List.getElem?_eq_getElem (by omega)] at hx; exact Option.some.inj hx
  rw [hx', List.append_assoc]
  rfl

theorem u8s_take (zs : List Int) (n : Nat) : u8s (zs.take n) = (u8s zs).take n := List.map_take ..
theorem u8s_drop (zs : List Int) (n : Nat) : u8s (zs.drop n) = (u8s zs).drop n := List.map_drop ..
/-- The rows put together lie where they lay; and what was there. -/
def PInv (w : World) (zc : List Int) (W : World) : Prop := Below w.heap.size w W ∧ Whole W w.heap.size 5 (u8s zc)
theorem PInv.on {w W W' : World} {zc : List Int} (h : PInv w zc W) (hb : Below W.heap.size W W') : PInv w zc W' := ⟨h.1.trans (hb.mono h.1.size), h.2.below hb h.2.lt⟩
theorem go_n (S : BitVec 16) (v : Int) (hv : v = numS S) (A : Option Addr) (cap m : Nat) (zs : List Int) (w : World) (hm : m = zs.length) (hr : Row w w.heap.size A (u8s zs)) (hz : ∀ z ∈ zs, IsByte z) (hzl : zs.length ≤ maxLen) (R : BitVec 16) (hR : R = goB S zs) :
    Calls Try.prog 12 #[.int .u16 v, .slice A m cap] w fun e w' => e = .returned (.int .u16 (numS R)) ∧ Below w.heap.size w w' := by
  subst hv; subst hm; subst hR; exact go_any S A cap zs w hr hz hzl

set_option maxRecDepth 100000 in
set_option maxHeartbeats 8000000 in
theorem parts_walk (A A' : Option Addr) (cap cap' n : Nat) (za zb : List Int) (N : Int) (s t : BitVec 16) (w : World) (hr : Row w w.heap.size A (u8s za)) (hr' : Row w w.heap.size A' (u8s zb)) (hb : ∀ z ∈ za, IsByte z) (hb' : ∀ z ∈ zb, IsByte z) (hl : za.length ≤ maxLen) (hl' : zb.length ≤ maxLen)
    (hc : za.length ≤ cap) (hc' : zb.length ≤ cap') (hN0 : -9223372036854775808 ≤ N) (hN1 : N ≤ 9223372036854775807) (hn : n = min za.length zb.length) (h1 : n ≤ 200) :
    Calls Try.prog 5 #[.slice A za.length cap, .slice A' zb.length cap', .int .i64 N, .int .u16 (numS s), .int .u16 (numS t)] w fun e w' => e = .returned (.bool true) ∧ Below w.heap.size w w' := by
  unfold maxLen at hl hl'
  have hmin : (if zb.length < za.length then (zb.length : Int) else (za.length : Int)) = (n : Int) := by split <;> omega
  have c1 : ¬ (200 : Int) < (n : Int) := by omega
  have hna : n ≤ za.length := by omega
  have hnb : n ≤ zb.length := by omega
  have HN := Lib.hid hn
  clear hn
  obtain ⟨q, hq, hqe⟩ := place_any N n h1
  obtain ⟨zc, hzc⟩ : ∃ zc, zc = List.zipWith xor8 (za.take n) (zb.take n) := ⟨_, rfl⟩
  have hzl : zc.length = n := by rw [hzc]; simp; omega
  have HZL := Lib.hid hzl
  have HZC := Lib.hid hzc
  have HZ : Hid (∀ j, j < n → zc[j]? = some (xor8 (za[j]?.getD 0) (zb[j]?.getD 0))) := Lib.hid (fun j hj => by
    have h1 : j < za.length := by omega
    have h2 : j < zb.length := by omega
    rw [HZC.out, List.getElem?_zipWith]; simp [hj, h1, h2])
  clear hzc hzl
  have hmk := make_run (P := Try.prog) 23 5 _ 1 Try.underlying23 info_u8 rfl n (by omega) (by omega) w
  go_enter Try.func5, Try.ntmps5
  go_wp2_with fail
  have hW0 : Whole (w.alloc (.cells (Array.replicate n (.int .u8 0)) 5)) w.heap.size 5 (u8s (partC zc n 0)) := by
    have h := Whole.new w 5 (List.replicate n (.int .u8 0))
    rw [List.toArray_replicate] at h
    rw [partC_zero]
    simpa [u8s] using h
  have hB0 : Below w.heap.size w (w.alloc (.cells (Array.replicate n (.int .u8 0)) 5)) := below1 w _
  generalize w.alloc (.cells (Array.replicate n (.int .u8 0)) 5) = w0 at hW0 hB0 ⊢
  generalize Value.int .i64 (wrap64 (wrap64 (N.tmod ((n : Int) + 1) + n) + 1)) = y1
  generalize Value.int .i64 (wrap64 (N.tmod ((n : Int) + 1) + n)) = y2
  generalize Value.int .i64 (N.tmod ((n : Int) + 1)) = y3
  generalize Value.int .i64 N = y4
  generalize Value.int .i64 ((n : Int) + 1) = y5
  go_loopw [13, 14] (fun b i wr => ∃ j : Nat, j ≤ n ∧ i = .int .i64 j ∧ b = .int .u16 (numS (goB s (za.take j))) ∧ Whole wr w.heap.size 5 (u8s (partC zc n j)) ∧ Below w.heap.size w wr) (fun _ i _ => n - (intOf i).toNat)
  case atStart => exact ⟨0, Nat.zero_le _, rfl, rfl, hW0, hB0⟩
  case round =>
    obtain ⟨j, hj, rfl, rfl, hW, hB⟩ := hrel
    by_cases hlt : j < n
    · obtain ⟨ba, oa, rfl, hba, hca⟩ := (hr.below hB).byte (k := j) (by omega)
      obtain ⟨bb, ob, rfl, hbb, hcb⟩ := (hr'.below hB).byte (k := j) (by omega)
      have hxa : IsByte (za[j]?.getD 0) := getD_byte hb j
      have hxb : IsByte (zb[j]?.getD 0) := getD_byte hb' j
      have hzc := HZ.out j hlt
      have HX := Lib.hid (rfl : za[j]?.getD 0 = za[j]?.getD 0)
      generalize hxe : za[j]?.getD 0 = x at hca hxa hzc HX
      generalize hye : zb[j]?.getD 0 = y at hcb hxb hzc
      have HXE := Lib.hid hxe
      clear hxe hye
      have hcc := hW.cell_at j (v := .int .u8 0) (by rw [u8s, List.getElem?_map, partC_at zc n j HZL.out hlt]; rfl)
      have hcf := hW.frozen j
      have hji : (j : Int) < n := by omega
      have hjc : (j : Int) < za.length := by omega
      have hjd : (j : Int) < zb.length := by omega
      go_wp2_with fail
      clear HX
      go_still_tail 12, (by kernel_rfl)
      go_wp2_with fail
      have hW1 : Whole (wr.setCell ⟨w.heap.size, j, none⟩ (.int .u8 (xor8 x y))).drew w.heap.size 5 (u8s (partC zc n (j + 1))) := by
        have h := hW.set j (.int .u8 (xor8 x y))
        rw [show (u8s (partC zc n j)).set j (.int .u8 (xor8 x y)) = u8s ((partC zc n j).set j (xor8 x y)) from (List.map_set ..).symm, partC_set zc n j HZL.out hlt _ hzc] at h
        exact h
      have hB1 : Below w.heap.size w (wr.setCell ⟨w.heap.size, j, none⟩ (.int .u8 (xor8 x y))).drew := (hB.setCell (p := ⟨w.heap.size, j, none⟩) (Nat.le_refl _) _).drew
      have hca1 : (wr.setCell ⟨w.heap.size, j, none⟩ (.int .u8 (xor8 x y))).drew.cell? ⟨ba, oa + j, none⟩ = some (.int .u8 x) := by
        obtain ⟨b', o', e, _, h⟩ := (hr.below hB1).byte (k := j) (by omega)
        cases e
        rw [h, HXE.out]
      clear hcc hcf hcb hca
      rw [show bits BinOp.xor IntKind.u8 x y = xor8 x y from rfl]
      generalize (wr.setCell ⟨w.heap.size, j, none⟩ (.int .u8 (xor8 x y))).drew = wx at hW1 hB1 hca1 ⊢
      obtain ⟨hx0, hx1⟩ := hxa
      rw [show goB s (za.take j) = goS s (cameB za j 0) by rw [cameB_zero]; rfl]
      go_loop [13, 15] (fun b i => ∃ k : Nat, k ≤ 8 ∧ i = .int .i64 k ∧ b = .int .u16 (numS (goS s (cameB za j k)))) (fun _ i => 8 - (intOf i).toNat)
      case atStart => exact ⟨0, Nat.zero_le _, rfl, rfl⟩
      case round =>
        obtain ⟨k, hk, rfl, rfl⟩ := hrel
        by_cases hk8 : k < 8
        · have hdig := shift_bit x k hx0 hx1
          have hk8' : (k : Int) < 8 := by omega
          go_wp2_with fail
          refine (bit_any _ _ _).mono ?_
          rintro e w' ⟨rfl, rfl⟩
          go_wp2_with fail
          go_round
          case rel => exact ⟨k + 1, by omega, by go_num, by rw [cameB_snoc za j k hk8, HXE.out, goS_snoc]⟩
          case measure => simp [intOf]; omega
        · obtain rfl : k = 8 := by omega
          rw [cameB_next za j (by omega)]
          go_wp2_with fail
          go_roundw
          case rel => exact ⟨j + 1, by omega, by go_num, rfl, hW1, hB1⟩
          case measure => simp [intOf]; omega
    · obtain rfl : n = j := by omega
      rw [partC_all zc n HZL.out] at hW
      have hP : PInv w zc wr := ⟨hB, hW⟩
      have hB' := hB
      have hqn : (q : Int) ≤ (n : Int) := by omega
      have hqc : (q : Int) ≤ (cap : Int) := by omega
      have hq0 : (0 : Int) ≤ (q : Int) := by omega
      have hn0 : (0 : Int) ≤ (n : Int) := by omega
      have hni : (n : Int) ≤ (cap : Int) := by omega
      have hni' : (n : Int) ≤ (cap' : Int) := by omega
      have hnc : n ≤ cap := by omega
      have hnc' : n ≤ cap' := by omega
      have hzn : (za.take n).length = n := by rw [List.length_take]; omega
      have hzn' : (zb.take n).length = n := by rw [List.length_take]; omega
      have hzq : (za.take q).length = q := by rw [List.length_take]; omega
      have hgx := goB_xor s t (za.take n) (zb.take n) (by rw [hzn, hzn']) (fun z hz => hb z (List.mem_of_mem_take hz)) (fun z hz => hb' z (List.mem_of_mem_take hz))
      rw [← HZC.out] at hgx
      have hgp : goB (goB s (za.take q)) ((za.take n).drop q) = goB s (za.take n) := by
        have := goB_take_drop s (za.take n) q
        rwa [List.take_take, Nat.min_eq_left hq] at this
      have hgq : q = n → goB s (za.take q) = goB s (za.take n) := fun e => by rw [e]
      have hx3 : numS (sumB za) = bits BinOp.xor IntKind.u16 IntKind.u16.max (numS (goB 0xffff#16 za)) := (u16_flip _).symm
      generalize hRe : goB s (za.take n) = R at hgx hgp hgq ⊢
      generalize hTe : goB t (zb.take n) = T at hgx
      generalize hQe : goB s (za.take q) = Q at hgp hgq
      generalize hVe : goB 0xffff#16 za = V at hx3
      generalize hUe : sumB za = U at hx3
      have hxst := u16_xor s t
      have hx2 := u16_xor R T
      generalize hSTe : s ^^^ t = ST at hgx hxst
      have HRE := Lib.hid hRe
      have HTE := Lib.hid hTe
      have HQE := Lib.hid hQe
      have HVE := Lib.hid hVe
      have HUE := Lib.hid hUe
      have HGX := Lib.hid hgx
      have HGP := Lib.hid hgp
      have HGQ := Lib.hid hgq
      have HZN := Lib.hid hzn
      have HZN' := Lib.hid hzn'
      have HZQ := Lib.hid hzq
      have HBA : Hid (∀ z ∈ za, IsByte z) := Lib.hid hb
      have HBB : Hid (∀ z ∈ zb, IsByte z) := Lib.hid hb'
      have hbz : ∀ z ∈ zc, IsByte z := by rw [HZC.out]; exact zip_byte _ _ (fun z hz => hb z (List.mem_of_mem_take hz)) (fun z hz => hb' z (List.mem_of_mem_take hz))
      have HBZ := Lib.hid hbz
      have HLA := Lib.hid (show za.length ≤ maxLen by unfold maxLen; omega)
      clear hRe hTe hQe hVe hUe hSTe hgx hgp hgq hzn hzn' hzq hB hW hb hb' hmin hqe hbz
      go_wp2_with fail
      refine (go_n s (numS s) rfl A cap n (za.take n) _ HZN.out.symm (by rw [u8s_take]; exact (hr.on hB').take n) (fun z hz => HBA.out z (List.mem_of_mem_take hz)) (by rw [HZN.out]; unfold maxLen; omega) R HRE.out.symm).mono ?_
      rintro e w1 ⟨rfl, hB1⟩
      have hP1 := hP.on hB1
      clear hP hB' hB1 hmk
      go_wp2_with fail
      have hrow : ∀ W, PInv w zc W → Row W W.heap.size A (u8s za) := fun W h => hr.on h.1
      have hrow' : ∀ W, PInv w zc W → Row W W.heap.size A' (u8s zb) := fun W h => hr'.on h.1
      have HR := Lib.hid hrow
      have HR' := Lib.hid hrow'
      clear hrow hrow' hr hr' hl hl'
      have P1 := Lib.hid (fun (W : World) (h : PInv w zc W) => go_n s (numS s) rfl A cap q (za.take q) W HZQ.out.symm (by rw [u8s_take]; exact (HR.out W h).take q) (fun z hz => HBA.out z (List.mem_of_mem_take hz)) (by rw [HZQ.out]; unfold maxLen; omega) Q HQE.out.symm)
      have P3 := Lib.hid (fun (W : World) (h : PInv w zc W) => go_n ST (numS ST) rfl (some ⟨w.heap.size, 0, none⟩) n n zc W HZL.out.symm (h.2.row h.2.lt) HBZ.out (by rw [HZL.out]; unfold maxLen; omega) _ HGX.out.symm)
      have P4 := Lib.hid (fun (W : World) (h : PInv w zc W) => go_n t (numS t) rfl A' cap' n (zb.take n) W HZN'.out.symm (by rw [u8s_take]; exact (HR'.out W h).take n) (fun z hz => HBB.out z (List.mem_of_mem_take hz)) (by rw [HZN'.out]; unfold maxLen; omega) T HTE.out.symm)
      have P5 := Lib.hid (fun (W : World) (h : PInv w zc W) => sum_any A cap za W (HR.out W h) HBA.out HLA.out)
      have P6 := Lib.hid (fun (W : World) (h : PInv w zc W) => goB_ffff A cap za W (HR.out W h) HBA.out HLA.out)
      rw [HUE.out] at P5
      rw [HVE.out] at P6
      have hzc0 := HZL.out
      have h200 := h1
      clear hc hc' hN0 hN1 h1 hna hnb HN HZ c1 hW0 hB0 hj hlt hnc hnc'
      by_cases hqn' : q = n
      · subst hqn'
        have P2 := Lib.hid (fun (W : World) (h : PInv w zc W) (a : Option Addr) (c : Nat) => go_n Q (numS Q) rfl a c 0 [] W rfl (Row.nil _ _ _) (by simp) (by decide) R (by rw [goB_nil]; exact (HGQ.out rfl).symm))
        clear hzc0 h200
        by_cases hcq : cap = q
        · obtain rfl : cap = q := hcq
          go_region_held3 (fun W => PInv w zc W ∧ PInv w zc W)
            (first
              | exact ⟨hP1.on (Below.refl _ _).drew, hP1.on (Below.refl _ _).drew⟩
              | exact ⟨(‹PInv _ _ _ ∧ _›).1.on hB, (‹PInv _ _ _ ∧ _›).1.on hB⟩)
            (first
              | (go_at_call 12; (with_reducible refine (P1.out _ ?_).mono ?_); (next => exact (‹PInv _ _ _ ∧ _›).1); rintro e w' ⟨rfl, hB⟩)
              | (go_at_call 12; (with_reducible refine (P2.out _ ?_ _ _).mono ?_); (next => exact (‹PInv _ _ _ ∧ _›).1); rintro e w' ⟨rfl, hB⟩)
              | (go_at_call 12; (with_reducible refine (P3.out _ ?_).mono ?_); (next => exact (‹PInv _ _ _ ∧ _›).1); rintro e w' ⟨rfl, hB⟩)
              | (go_at_call 12; (with_reducible refine (P4.out _ ?_).mono ?_); (next => exact (‹PInv _ _ _ ∧ _›).1); rintro e w' ⟨rfl, hB⟩)
              | (go_at_call 14; (with_reducible refine (P5.out _ ?_).mono ?_); (next => exact (‹PInv _ _ _ ∧ _›).1); rintro e w' ⟨rfl, hB⟩)
              | (go_at_call 12; (with_reducible refine (P6.out _ ?_).mono ?_); (next => exact (‹PInv _ _ _ ∧ _›).1); rintro e w' ⟨rfl, hB⟩)
              | (go_at_call 7; (with_reducible refine (wakes_any _).mono ?_); rintro e w' ⟨rfl, hB⟩))
          all_goals (go_wp2_with fail; first | (go_ret; exact ⟨rfl, (‹PInv _ _ _ ∧ _›).1.1⟩) | exact ⟨rfl, (‹PInv _ _ _ ∧ _›).1.1⟩)
        · have hcq' := hcq
          go_region_held3 (fun W => PInv w zc W ∧ PInv w zc W)
            (first
              | exact ⟨hP1.on (Below.refl _ _).drew, hP1.on (Below.refl _ _).drew⟩
              | exact ⟨(‹PInv _ _ _ ∧ _›).1.on hB, (‹PInv _ _ _ ∧ _›).1.on hB⟩)
            (first
              | (go_at_call 12; (with_reducible refine (P1.out _ ?_).mono ?_); (next => exact (‹PInv _ _ _ ∧ _›).1); rintro e w' ⟨rfl, hB⟩)
              | (go_at_call 12; (with_reducible refine (P2.out _ ?_ _ _).mono ?_); (next => exact (‹PInv _ _ _ ∧ _›).1); rintro e w' ⟨rfl, hB⟩)
              | (go_at_call 12; (with_reducible refine (P3.out _ ?_).mono ?_); (next => exact (‹PInv _ _ _ ∧ _›).1); rintro e w' ⟨rfl, hB⟩)
              | (go_at_call 12; (with_reducible refine (P4.out _ ?_).mono ?_); (next => exact (‹PInv _ _ _ ∧ _›).1); rintro e w' ⟨rfl, hB⟩)
              | (go_at_call 14; (with_reducible refine (P5.out _ ?_).mono ?_); (next => exact (‹PInv _ _ _ ∧ _›).1); rintro e w' ⟨rfl, hB⟩)
              | (go_at_call 12; (with_reducible refine (P6.out _ ?_).mono ?_); (next => exact (‹PInv _ _ _ ∧ _›).1); rintro e w' ⟨rfl, hB⟩)
              | (go_at_call 7; (with_reducible refine (wakes_any _).mono ?_); rintro e w' ⟨rfl, hB⟩))
          all_goals (go_wp2_with fail; first | (go_ret; exact ⟨rfl, (‹PInv _ _ _ ∧ _›).1.1⟩) | exact ⟨rfl, (‹PInv _ _ _ ∧ _›).1.1⟩)
      · obtain ⟨ba, oa, rfl, _, _⟩ := (HR.out _ hP1) (by have := HZN.out; rw [List.length_take] at this; rw [u8s_length]; omega)
        have hcq : ¬ cap = q := by omega
        have hlq : ((za.take n).drop q).length = n - q := by rw [List.length_drop, HZN.out]
        have HLQ := Lib.hid hlq
        clear hlq
        have P2 := Lib.hid (fun (W : World) (h : PInv w zc W) (c : Nat) => go_n Q (numS Q) rfl (some ⟨ba, oa + q, none⟩) c (n - q) ((za.take n).drop q) W HLQ.out.symm (by rw [u8s_drop, u8s_take]; exact ((HR.out W h).take n).drop q) (fun z hz => HBA.out z (List.mem_of_mem_take (List.mem_of_mem_drop hz))) (by rw [HLQ.out]; unfold maxLen; omega) R HGP.out.symm)
        clear hzc0 h200 hqn'
        go_region_held3 (fun W => PInv w zc W ∧ PInv w zc W)
          (first
            | exact ⟨hP1.on (Below.refl _ _).drew, hP1.on (Below.refl _ _).drew⟩
            | exact ⟨(‹PInv _ _ _ ∧ _›).1.on hB, (‹PInv _ _ _ ∧ _›).1.on hB⟩)
          (first
            | (go_at_call 12; (with_reducible refine (P1.out _ ?_).mono ?_); (next => exact (‹PInv _ _ _ ∧ _›).1); rintro e w' ⟨rfl, hB⟩)
            | (go_at_call 12; (with_reducible refine (P2.out _ ?_ _).mono ?_); (next => exact (‹PInv _ _ _ ∧ _›).1); rintro e w' ⟨rfl, hB⟩)
            | (go_at_call 12; (with_reducible refine (P3.out _ ?_).mono ?_); (next => exact (‹PInv _ _ _ ∧ _›).1); rintro e w' ⟨rfl, hB⟩)
            | (go_at_call 12; (with_reducible refine (P4.out _ ?_).mono ?_); (next => exact (‹PInv _ _ _ ∧ _›).1); rintro e w' ⟨rfl, hB⟩)
            | (go_at_call 14; (with_reducible refine (P5.out _ ?_).mono ?_); (next => exact (‹PInv _ _ _ ∧ _›).1); rintro e w' ⟨rfl, hB⟩)
            | (go_at_call 12; (with_reducible refine (P6.out _ ?_).mono ?_); (next => exact (‹PInv _ _ _ ∧ _›).1); rintro e w' ⟨rfl, hB⟩)
            | (go_at_call 7; (with_reducible refine (wakes_any _).mono ?_); rintro e w' ⟨rfl, hB⟩))
        all_goals (go_wp2_with fail; first | (go_ret; exact ⟨rfl, (‹PInv _ _ _ ∧ _›).1.1⟩) | exact ⟨rfl, (‹PInv _ _ _ ∧ _›).1.1⟩)

theorem parts_all (A A' : Option Addr) (cap cap' : Nat) (za zb : List Int) (N : Int) (s t : BitVec 16) (w : World) (hr : Row w w.heap.size A (u8s za)) (hr' : Row w w.heap.size A' (u8s zb)) (hb : ∀ z ∈ za, IsByte z) (hb' : ∀ z ∈ zb, IsByte z) (hc : za.length ≤ cap) (hc' : zb.length ≤ cap') (hm : cap ≤ maxLen) (hm' : cap' ≤ maxLen) (hN0 : -9223372036854775808 ≤ N) (hN1 : N ≤ 9223372036854775807) :
    Calls Try.prog 5 #[.slice A za.length cap, .slice A' zb.length cap', .int .i64 N, .int .u16 (numS s), .int .u16 (numS t)] w fun e w' => e = .returned (.bool true) ∧ Below w.heap.size w w' := by
  rcases Nat.lt_or_ge 200 (min za.length zb.length) with h | h
  · exact parts_long A A' cap cap' _ za zb N s t w (Nat.le_trans hc hm) (Nat.le_trans hc' hm') rfl h
  · exact parts_walk A A' cap cap' _ za zb N s t w hr hr' hb hb' (Nat.le_trans hc hm) (Nat.le_trans hc' hm') hc hc' hN0 hN1 rfl h
end Go.Proofs.Ytohccgfmkemobaa
