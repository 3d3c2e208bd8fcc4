/- ImageWorst: an image that is stale tells the worst of all. -/
import Derived.Deep.CutRange
import Derived.Test.YtniihmafbeplaaaDoorQLiW0
import Derived.Test.YtniihmafbeplaaaDoorQLiQ
namespace Go.Proofs.YtniihmafbeplaaaDoor
open Go.RowKit Go.Shelf
set_option linter.unusedVariables false
set_option linter.unusedSimpArgs false

set_option maxRecDepth 100000 in
set_option maxHeartbeats 32000000 in
theorem imageWorst_walk (l : Lay) (im : Img) (n : Int) (w : World) (hT : Tops w) (hL : Lies l w) (hi : im.Wf) :
    Calls Tryd.prog 4 #[l.val, im.val, .int .i64 n] w fun e w' => e = .returned (.bool true) ∧ Below w.heap.size w w' := by
  obtain ⟨Q, HQ, HQb, HQl, HQi, hq⟩ := keep2 (w := w) l.cells im.cells 29 35
  obtain ⟨g, hg⟩ : ∃ g, greatJ l = g := ⟨_, rfl⟩
  have KG : Hid (∀ W, Q W → Calls Tryd.prog 8 #[l.val] W fun e w' => e = .returned (.bool g) ∧ Below W.heap.size W w') := Lib.hid fun W hW => great15_B (Lies.closed l _ _ hL (HQb.out W hW)) hg
  have KW : Hid (∀ W, Q W → Calls Tryd.prog 9 #[] W fun e w' => e = .returned (.bool true) ∧ Below W.heap.size W w') := Lib.hid fun W hW => wakes15_B (hT.below (HQb.out W hW))
  go_enter Tryd.func4, Tryd.ntmps4
  go_upto_region 1 with (fail)
  generalize (w.alloc (.cells #[.slice l.As l.secs.length l.cs, .slice l.Ag l.sigs.length l.cg, .slice l.Ae l.exits.length l.ce, .slice l.Af l.flanks.length l.cf, .int .i64 l.t0, .int .i64 l.t1, .int .i64 l.t2, .int .i64 l.t3, .int .i64 l.t4, .int .i64 l.t5, .int .i64 l.t6] 29)).alloc (.cells im.cells.toArray 35) = W1 at *
  apply wp_region_lit
  refine wpList_read _ (by rfl) (exec_lay (by rfl) (by rfl) (HQl.out _ hq)) ?_
  simp only [Act.put, List.setIfInBounds_toArray, List.set_cons_zero, List.set_cons_succ]
  refine wpList_callv (by rfl) (by (go_simp; first | done | rfl)) (KG.out _ hq) (fun W0 hB => ?_)
  simp only [Act.put, List.setIfInBounds_toArray, List.set_cons_zero, List.set_cons_succ]
  have hq := HQ.out _ _ hq hB
  clear hB
  cases g
  · have HQf : Hid (∀ W, Q W → Fld l W) := Lib.hid fun W hW => (fld_of hL hT hg).on (HQb.out W hW)
    have hn30 := (HQf.out _ hq).nS
    clear hT hL hg
    obtain ⟨st, hst⟩ : ∃ y, staleI l im = y := ⟨_, rfl⟩
    obtain ⟨ro, hro⟩ : ∃ y, occI l im n = y := ⟨_, rfl⟩
    obtain ⟨ra, hra⟩ : ∃ y, atI l im n = y := ⟨_, rfl⟩
    obtain ⟨rl, hrl⟩ : ∃ y, told15 l im n l.sigs.length im.p = y := ⟨_, rfl⟩
    obtain ⟨rt, hrt⟩ : ∃ y, told15 l im n (cntI l) im.o = y := ⟨_, rfl⟩
    obtain ⟨rm, hrm⟩ : ∃ y, maskI l im = y := ⟨_, rfl⟩
    have HSD : Hid (decide (l.t2 < im.age) = st) := Lib.hid hst
    have HST := Lib.hid hst
    have HRO := Lib.hid hro
    have HRA := Lib.hid hra
    have HRL := Lib.hid hrl
    have HRT := Lib.hid hrt
    have HRM := Lib.hid hrm
    have KS : Hid (∀ W, Q W → Calls Tryd.prog 18 #[l.val, im.val] W fun e w' => e = .returned (.bool st) ∧ Below W.heap.size W w') := Lib.hid fun W hW => staleI_B hst (HQf.out W hW)
    have KO : Hid (∀ W, Q W → Calls Tryd.prog 20 #[l.val, im.val, .int .i64 n] W fun e w' => e = .returned (.bool ro) ∧ Below W.heap.size W w') := Lib.hid fun W hW => Occupied_B hi (HQf.out W hW) n hro
    have KA : Hid (∀ W, Q W → Calls Tryd.prog 22 #[l.val, im.val, .int .i64 n] W fun e w' => e = .returned (.int .i64 ra) ∧ Below W.heap.size W w') := Lib.hid fun W hW => At_B hi (HQf.out W hW) n hra
    have KL : Hid (∀ W, Q W → Calls Tryd.prog 26 #[l.val, im.val, .int .i64 n] W fun e w' => e = .returned (.bool rl) ∧ Below W.heap.size W w') := Lib.hid fun W hW => Lit_B hi (HQf.out W hW) n hrl
    have KD : Hid (∀ W, Q W → Calls Tryd.prog 24 #[l.val, im.val, .int .i64 n] W fun e w' => e = .returned (.bool rt) ∧ Below W.heap.size W w') := Lib.hid fun W hW => Told_B hi (HQf.out W hW) n hrt
    have KM : Hid (∀ W, Q W → Calls Tryd.prog 28 #[l.val, im.val] W fun e w' => e = .returned (.int .u32 (rm : Nat)) ∧ Below W.heap.size W w') := Lib.hid fun W hW => Mask_B hi (HQf.out W hW) hrm
    have KOK : Hid (∀ (k : Nat) (W : World), Q W → Calls Tryd.prog 20 #[l.val, im.val, .int .i64 (k : Nat)] W fun e w' => e = .returned (.bool (occN l im k)) ∧ Below W.heap.size W w') := Lib.hid fun k W hW => Occupied_B hi (HQf.out W hW) _ rfl
    clear hst hro hra hrl hrt hrm
    go_upto_region 3 with (fail)
    apply wp_region_lit
    refine wl_in ?_
    refine wl_read _ (by rfl) (by (go_simp; first | done | with_reducible rfl)) ?_
    simp only [Act.put, List.setIfInBounds_toArray, List.set_cons_zero, List.set_cons_succ]
    refine wl_read _ (by rfl) (by (have c := (HQi.out _ hq).cell_at 0 im.c_age; go_simp; first | done | with_reducible rfl)) ?_
    simp only [Act.put, List.setIfInBounds_toArray, List.set_cons_zero, List.set_cons_succ]
    refine wl_read _ (by rfl) (by (go_simp; first | done | with_reducible rfl)) ?_
    simp only [Act.put, List.setIfInBounds_toArray, List.set_cons_zero, List.set_cons_succ]
    refine wl_read _ (by rfl) (by (go_simp; first | done | with_reducible rfl)) ?_
    simp only [Act.put, List.setIfInBounds_toArray, List.set_cons_zero, List.set_cons_succ]
    refine wl_read _ (by rfl) (by (have c := (HQl.out _ hq).cell_at 6 rfl; go_simp; first | done | with_reducible rfl)) ?_
    simp only [Act.put, List.setIfInBounds_toArray, List.set_cons_zero, List.set_cons_succ]
    refine wl_out ?_
    refine wpList_read (.bool st) (by rfl) (by (have c := HSD.out; subst c; go_simp; first | done | rfl)) ?_
    simp only [Act.put, List.setIfInBounds_toArray, List.set_cons_zero, List.set_cons_succ]
    refine wpList_read _ (by rfl) (by (go_simp; first | done | with_reducible rfl)) ?_
    simp only [Act.put, List.setIfInBounds_toArray, List.set_cons_zero, List.set_cons_succ]
    go_upto_region 4 with (fail)
    apply wp_region_lit
    refine wl_in ?_
    refine wl_read _ (by rfl) (exec_lay (by rfl) (by rfl) (HQl.out _ hq)) ?_
    simp only [Act.put, List.setIfInBounds_toArray, List.set_cons_zero, List.set_cons_succ]
    refine wl_read _ (by rfl) (exec_img hi.len (by rfl) (by rfl) (HQi.out _ hq)) ?_
    simp only [Act.put, List.setIfInBounds_toArray, List.set_cons_zero, List.set_cons_succ]
    refine wl_callv (by rfl) (by (go_simp; first | done | with_reducible rfl)) (KS.out _ hq) (fun W hB => ?_)
    simp only [Act.put, List.setIfInBounds_toArray, List.set_cons_zero, List.set_cons_succ]
    have hq := HQ.out _ _ hq hB
    clear hB
    refine wl_read _ (by rfl) (by (go_simp; first | done | with_reducible rfl)) ?_
    simp only [Act.put, List.setIfInBounds_toArray, List.set_cons_zero, List.set_cons_succ]
    refine wl_read _ (by rfl) (by (go_simp; first | done | with_reducible rfl)) ?_
    simp only [Act.put, List.setIfInBounds_toArray, List.set_cons_zero, List.set_cons_succ]
    refine wl_out ?_
    have hssn : (st != st) = false := by simp
    go_upto_region 6 with (fail)
    clear hssn
    go_cut [8] from 28 to 36 (fun v wx => ∃ hs : Bool, v = .bool hs ∧ (hs = true ↔ (0 ≤ n ∧ n < (l.secs.length : Nat))) ∧ Hid (Q wx))
    case first =>
      have HQ1 := Lib.hid hq
      have x0 := (HQl.out _ hq).cell_at 0 rfl
      clear hq
      by_cases h0 : 0 ≤ n
      · by_cases h1 : n < (l.secs.length : Nat)
        · have HI : Hid ((true = true ↔ (0 ≤ n ∧ n < (l.secs.length : Nat)))) := Lib.hid (by simp [h0, h1])
          go_wp2_with fail
          go_meet
          exact ⟨true, rfl, (by have h := HI.out; simp at h ⊢; exact h), HQ1⟩
        · have HI : Hid ((false = true ↔ (0 ≤ n ∧ n < (l.secs.length : Nat)))) := Lib.hid (by simp; omega)
          go_wp2_with fail
          go_meet
          exact ⟨false, rfl, HI.out, HQ1⟩
      · have HI : Hid ((false = true ↔ (0 ≤ n ∧ n < (l.secs.length : Nat)))) := Lib.hid (by simp; omega)
        go_wp2_with fail
        go_meet
        exact ⟨false, rfl, HI.out, HQ1⟩
    case rest =>
    obtain ⟨hs, rfl, hhs, HQ1⟩ := hcut
    have hq := HQ1.out
    have HHS := Lib.hid hhs
    clear hhs HQ1
    go_upto_region 7 with (fail)
    go_cut [9] from 37 to 60 (fun v wx => ∃ bo : Bool, v = .bool bo ∧ (bo = true → (hs = true ∧ bitU im.n n.toNat = bitU im.r n.toNat)) ∧ Hid (Q wx))
    case first =>
      cases hs
      · have HQ1 := Lib.hid hq
        clear hq
        go_wp2_with fail
        go_meet
        exact ⟨false, rfl, (fun h => by cases h), HQ1⟩
      · have hin := HHS.out.1 rfl
        obtain ⟨k, rfl⟩ : ∃ k : Nat, n = k := ⟨n.toNat, by omega⟩
        have h32 : (k : Int) < 32 := by omega
        have h32' : (k : Int) ≤ 32 := by omega
        have h0' : (0 : Int) ≤ (k : Int) := by omega
        have ha31 := and31 k (by omega)
        have hw64 : IntKind.u64.wrap (k : Int) = (k : Int) := by rw [IntKind.wrap_u64]; omega
        obtain ⟨bn, hbn⟩ : ∃ b, bitU im.n k = b := ⟨_, rfl⟩
        obtain ⟨br, hbr⟩ : ∃ b, bitU im.r k = b := ⟨_, rfl⟩
        obtain ⟨zn, hzn⟩ : ∃ z, im.n / 2 ^ k = z := ⟨_, rfl⟩
        obtain ⟨zr, hzr⟩ : ∃ z, im.r / 2 ^ k = z := ⟨_, rfl⟩
        have HN : Hid ((bn = false → bits BinOp.and IntKind.u32 zn 1 = 0) ∧ (bn = true → bits BinOp.and IntKind.u32 zn 1 = 1)) := Lib.hid (by rw [← hzn]; exact ⟨fun e => bit_no hi.n (hbn.trans e), fun e => bit_yes hi.n (hbn.trans e)⟩)
        have HR : Hid ((br = false → bits BinOp.and IntKind.u32 zr 1 = 0) ∧ (br = true → bits BinOp.and IntKind.u32 zr 1 = 1)) := Lib.hid (by rw [← hzr]; exact ⟨fun e => bit_no hi.r (hbr.trans e), fun e => bit_yes hi.r (hbr.trans e)⟩)
        have HZN := Lib.hid hzn
        have HZR := Lib.hid hzr
        have HBN : Hid (bn = br → bitU im.n (k : Int).toNat = bitU im.r (k : Int).toNat) := Lib.hid (fun e => by rw [Int.toNat_natCast, hbn, hbr, e])
        have HA31 := Lib.hid ha31
        have HW64 := Lib.hid hw64
        have H32 := Lib.hid h32
        have H32' := Lib.hid h32'
        have H0' := Lib.hid h0'
        clear hzn hzr hbn hbr ha31 hw64 h32 h32' h0' hin
        cases bn <;> cases br
        · apply wp_region_lit
          refine wl_in ?_
          refine wl_read _ (by rfl) (by (go_simp; first | done | with_reducible rfl)) ?_
          simp only [Act.put, List.setIfInBounds_toArray, List.set_cons_zero, List.set_cons_succ]
          refine wl_read _ (by rfl) (by (go_simp; first | done | with_reducible rfl)) ?_
          simp only [Act.put, List.setIfInBounds_toArray, List.set_cons_zero, List.set_cons_succ]
          refine wl_read _ (by rfl) (by (go_simp; first | done | with_reducible rfl)) ?_
          simp only [Act.put, List.setIfInBounds_toArray, List.set_cons_zero, List.set_cons_succ]
          refine wl_read _ (by rfl) (by (have c := H32.out; go_simp; first | done | with_reducible rfl)) ?_
          simp only [Act.put, List.setIfInBounds_toArray, List.set_cons_zero, List.set_cons_succ]
          refine wl_read _ (by rfl) (by (go_simp; first | done | with_reducible rfl)) ?_
          simp only [Act.put, List.setIfInBounds_toArray, List.set_cons_zero, List.set_cons_succ]
          refine wl_read _ (by rfl) (by (go_simp; first | done | with_reducible rfl)) ?_
          simp only [Act.put, List.setIfInBounds_toArray, List.set_cons_zero, List.set_cons_succ]
          refine wl_read _ (by rfl) (by (go_simp; first | done | with_reducible rfl)) ?_
          simp only [Act.put, List.setIfInBounds_toArray, List.set_cons_zero, List.set_cons_succ]
          refine wl_read _ (by rfl) (by (go_simp; first | done | with_reducible rfl)) ?_
          simp only [Act.put, List.setIfInBounds_toArray, List.set_cons_zero, List.set_cons_succ]
          refine wl_read _ (by rfl) (by (have c := (HQi.out _ hq).cell_at 26 (im.c_in hi.len 1); go_simp; first | done | with_reducible rfl)) ?_
          simp only [Act.put, List.setIfInBounds_toArray, List.set_cons_zero, List.set_cons_succ]
          refine wl_read _ (by rfl) (by (go_simp; first | done | with_reducible rfl)) ?_
          simp only [Act.put, List.setIfInBounds_toArray, List.set_cons_zero, List.set_cons_succ]
          refine wl_read _ (by rfl) (by (have c := HA31.out; go_simp; first | done | with_reducible rfl)) ?_
          simp only [Act.put, List.setIfInBounds_toArray, List.set_cons_zero, List.set_cons_succ]
          refine wl_read _ (by rfl) (by (have c := HW64.out; go_simp; first | done | with_reducible rfl)) ?_
          simp only [Act.put, List.setIfInBounds_toArray, List.set_cons_zero, List.set_cons_succ]
          refine wl_read _ (by rfl) (by (have c := H32'.out; have d := H0'.out; have e := HZN.out; go_simp; first | done | with_reducible rfl)) ?_
          simp only [Act.put, List.setIfInBounds_toArray, List.set_cons_zero, List.set_cons_succ]
          refine wl_read _ (by rfl) (by (have c := HN.out.1 rfl; go_simp; first | done | with_reducible rfl)) ?_
          simp only [Act.put, List.setIfInBounds_toArray, List.set_cons_zero, List.set_cons_succ]
          refine wl_read _ (by rfl) (by (go_simp; first | done | with_reducible rfl)) ?_
          simp only [Act.put, List.setIfInBounds_toArray, List.set_cons_zero, List.set_cons_succ]
          refine wl_read _ (by rfl) (by (go_simp; first | done | with_reducible rfl)) ?_
          simp only [Act.put, List.setIfInBounds_toArray, List.set_cons_zero, List.set_cons_succ]
          refine wl_read _ (by rfl) (by (have c := (HQi.out _ hq).cell_at 27 (im.c_in hi.len 2); go_simp; first | done | with_reducible rfl)) ?_
          simp only [Act.put, List.setIfInBounds_toArray, List.set_cons_zero, List.set_cons_succ]
          refine wl_read _ (by rfl) (by (go_simp; first | done | with_reducible rfl)) ?_
          simp only [Act.put, List.setIfInBounds_toArray, List.set_cons_zero, List.set_cons_succ]
          refine wl_read _ (by rfl) (by (have c := HA31.out; go_simp; first | done | with_reducible rfl)) ?_
          simp only [Act.put, List.setIfInBounds_toArray, List.set_cons_zero, List.set_cons_succ]
          refine wl_read _ (by rfl) (by (have c := HW64.out; go_simp; first | done | with_reducible rfl)) ?_
          simp only [Act.put, List.setIfInBounds_toArray, List.set_cons_zero, List.set_cons_succ]
          refine wl_read _ (by rfl) (by (have c := H32'.out; have d := H0'.out; have e := HZR.out; go_simp; first | done | with_reducible rfl)) ?_
          simp only [Act.put, List.setIfInBounds_toArray, List.set_cons_zero, List.set_cons_succ]
          refine wl_read _ (by rfl) (by (have c := HR.out.1 rfl; go_simp; first | done | with_reducible rfl)) ?_
          simp only [Act.put, List.setIfInBounds_toArray, List.set_cons_zero, List.set_cons_succ]
          refine wl_read _ (by rfl) (by (go_simp; first | done | with_reducible rfl)) ?_
          simp only [Act.put, List.setIfInBounds_toArray, List.set_cons_zero, List.set_cons_succ]
          refine wl_read _ (by rfl) (by (go_simp; first | done | with_reducible rfl)) ?_
          simp only [Act.put, List.setIfInBounds_toArray, List.set_cons_zero, List.set_cons_succ]
          refine wl_read _ (by rfl) (by (go_simp; first | done | with_reducible rfl)) ?_
          simp only [Act.put, List.setIfInBounds_toArray, List.set_cons_zero, List.set_cons_succ]
          refine wl_out ?_
          have HQ1 := Lib.hid hq
          clear hq
          go_wp2_with fail
          go_meet
          exact ⟨true, rfl, (fun _ => ⟨by first | rfl | trivial, HBN.out (by first | rfl | trivial)⟩), HQ1⟩
        · apply wp_region_lit
          refine wl_in ?_
          refine wl_read _ (by rfl) (by (go_simp; first | done | with_reducible rfl)) ?_
          simp only [Act.put, List.setIfInBounds_toArray, List.set_cons_zero, List.set_cons_succ]
          refine wl_read _ (by rfl) (by (go_simp; first | done | with_reducible rfl)) ?_
          simp only [Act.put, List.setIfInBounds_toArray, List.set_cons_zero, List.set_cons_succ]
          refine wl_read _ (by rfl) (by (go_simp; first | done | with_reducible rfl)) ?_
          simp only [Act.put, List.setIfInBounds_toArray, List.set_cons_zero, List.set_cons_succ]
          refine wl_read _ (by rfl) (by (have c := H32.out; go_simp; first | done | with_reducible rfl)) ?_
          simp only [Act.put, List.setIfInBounds_toArray, List.set_cons_zero, List.set_cons_succ]
          refine wl_read _ (by rfl) (by (go_simp; first | done | with_reducible rfl)) ?_
          simp only [Act.put, List.setIfInBounds_toArray, List.set_cons_zero, List.set_cons_succ]
          refine wl_read _ (by rfl) (by (go_simp; first | done | with_reducible rfl)) ?_
          simp only [Act.put, List.setIfInBounds_toArray, List.set_cons_zero, List.set_cons_succ]
          refine wl_read _ (by rfl) (by (go_simp; first | done | with_reducible rfl)) ?_
          simp only [Act.put, List.setIfInBounds_toArray, List.set_cons_zero, List.set_cons_succ]
          refine wl_read _ (by rfl) (by (go_simp; first | done | with_reducible rfl)) ?_
          simp only [Act.put, List.setIfInBounds_toArray, List.set_cons_zero, List.set_cons_succ]
          refine wl_read _ (by rfl) (by (have c := (HQi.out _ hq).cell_at 26 (im.c_in hi.len 1); go_simp; first | done | with_reducible rfl)) ?_
          simp only [Act.put, List.setIfInBounds_toArray, List.set_cons_zero, List.set_cons_succ]
          refine wl_read _ (by rfl) (by (go_simp; first | done | with_reducible rfl)) ?_
          simp only [Act.put, List.setIfInBounds_toArray, List.set_cons_zero, List.set_cons_succ]
          refine wl_read _ (by rfl) (by (have c := HA31.out; go_simp; first | done | with_reducible rfl)) ?_
          simp only [Act.put, List.setIfInBounds_toArray, List.set_cons_zero, List.set_cons_succ]
          refine wl_read _ (by rfl) (by (have c := HW64.out; go_simp; first | done | with_reducible rfl)) ?_
          simp only [Act.put, List.setIfInBounds_toArray, List.set_cons_zero, List.set_cons_succ]
          refine wl_read _ (by rfl) (by (have c := H32'.out; have d := H0'.out; have e := HZN.out; go_simp; first | done | with_reducible rfl)) ?_
          simp only [Act.put, List.setIfInBounds_toArray, List.set_cons_zero, List.set_cons_succ]
          refine wl_read _ (by rfl) (by (have c := HN.out.1 rfl; go_simp; first | done | with_reducible rfl)) ?_
          simp only [Act.put, List.setIfInBounds_toArray, List.set_cons_zero, List.set_cons_succ]
          refine wl_read _ (by rfl) (by (go_simp; first | done | with_reducible rfl)) ?_
          simp only [Act.put, List.setIfInBounds_toArray, List.set_cons_zero, List.set_cons_succ]
          refine wl_read _ (by rfl) (by (go_simp; first | done | with_reducible rfl)) ?_
          simp only [Act.put, List.setIfInBounds_toArray, List.set_cons_zero, List.set_cons_succ]
          refine wl_read _ (by rfl) (by (have c := (HQi.out _ hq).cell_at 27 (im.c_in hi.len 2); go_simp; first | done | with_reducible rfl)) ?_
          simp only [Act.put, List.setIfInBounds_toArray, List.set_cons_zero, List.set_cons_succ]
          refine wl_read _ (by rfl) (by (go_simp; first | done | with_reducible rfl)) ?_
          simp only [Act.put, List.setIfInBounds_toArray, List.set_cons_zero, List.set_cons_succ]
          refine wl_read _ (by rfl) (by (have c := HA31.out; go_simp; first | done | with_reducible rfl)) ?_
          simp only [Act.put, List.setIfInBounds_toArray, List.set_cons_zero, List.set_cons_succ]
          refine wl_read _ (by rfl) (by (have c := HW64.out; go_simp; first | done | with_reducible rfl)) ?_
          simp only [Act.put, List.setIfInBounds_toArray, List.set_cons_zero, List.set_cons_succ]
          refine wl_read _ (by rfl) (by (have c := H32'.out; have d := H0'.out; have e := HZR.out; go_simp; first | done | with_reducible rfl)) ?_
          simp only [Act.put, List.setIfInBounds_toArray, List.set_cons_zero, List.set_cons_succ]
          refine wl_read _ (by rfl) (by (have c := HR.out.2 rfl; go_simp; first | done | with_reducible rfl)) ?_
          simp only [Act.put, List.setIfInBounds_toArray, List.set_cons_zero, List.set_cons_succ]
          refine wl_read _ (by rfl) (by (go_simp; first | done | with_reducible rfl)) ?_
          simp only [Act.put, List.setIfInBounds_toArray, List.set_cons_zero, List.set_cons_succ]
          refine wl_read _ (by rfl) (by (go_simp; first | done | with_reducible rfl)) ?_
          simp only [Act.put, List.setIfInBounds_toArray, List.set_cons_zero, List.set_cons_succ]
          refine wl_read _ (by rfl) (by (go_simp; first | done | with_reducible rfl)) ?_
          simp only [Act.put, List.setIfInBounds_toArray, List.set_cons_zero, List.set_cons_succ]
          refine wl_out ?_
          have HQ1 := Lib.hid hq
          clear hq
          go_wp2_with fail
          go_meet
          exact ⟨false, rfl, (fun h => by cases h), HQ1⟩
        · apply wp_region_lit
          refine wl_in ?_
          refine wl_read _ (by rfl) (by (go_simp; first | done | with_reducible rfl)) ?_
          simp only [Act.put, List.setIfInBounds_toArray, List.set_cons_zero, List.set_cons_succ]
          refine wl_read _ (by rfl) (by (go_simp; first | done | with_reducible rfl)) ?_
          simp only [Act.put, List.setIfInBounds_toArray, List.set_cons_zero, List.set_cons_succ]
          refine wl_read _ (by rfl) (by (go_simp; first | done | with_reducible rfl)) ?_
          simp only [Act.put, List.setIfInBounds_toArray, List.set_cons_zero, List.set_cons_succ]
          refine wl_read _ (by rfl) (by (have c := H32.out; go_simp; first | done | with_reducible rfl)) ?_
          simp only [Act.put, List.setIfInBounds_toArray, List.set_cons_zero, List.set_cons_succ]
          refine wl_read _ (by rfl) (by (go_simp; first | done | with_reducible rfl)) ?_
          simp only [Act.put, List.setIfInBounds_toArray, List.set_cons_zero, List.set_cons_succ]
          refine wl_read _ (by rfl) (by (go_simp; first | done | with_reducible rfl)) ?_
          simp only [Act.put, List.setIfInBounds_toArray, List.set_cons_zero, List.set_cons_succ]
          refine wl_read _ (by rfl) (by (go_simp; first | done | with_reducible rfl)) ?_
          simp only [Act.put, List.setIfInBounds_toArray, List.set_cons_zero, List.set_cons_succ]
          refine wl_read _ (by rfl) (by (go_simp; first | done | with_reducible rfl)) ?_
          simp only [Act.put, List.setIfInBounds_toArray, List.set_cons_zero, List.set_cons_succ]
          refine wl_read _ (by rfl) (by (have c := (HQi.out _ hq).cell_at 26 (im.c_in hi.len 1); go_simp; first | done | with_reducible rfl)) ?_
          simp only [Act.put, List.setIfInBounds_toArray, List.set_cons_zero, List.set_cons_succ]
          refine wl_read _ (by rfl) (by (go_simp; first | done | with_reducible rfl)) ?_
          simp only [Act.put, List.setIfInBounds_toArray, List.set_cons_zero, List.set_cons_succ]
          refine wl_read _ (by rfl) (by (have c := HA31.out; go_simp; first | done | with_reducible rfl)) ?_
          simp only [Act.put, List.setIfInBounds_toArray, List.set_cons_zero, List.set_cons_succ]
          refine wl_read _ (by rfl) (by (have c := HW64.out; go_simp; first | done | with_reducible rfl)) ?_
          simp only [Act.put, List.setIfInBounds_toArray, List.set_cons_zero, List.set_cons_succ]
          refine wl_read _ (by rfl) (by (have c := H32'.out; have d := H0'.out; have e := HZN.out; go_simp; first | done | with_reducible rfl)) ?_
          simp only [Act.put, List.setIfInBounds_toArray, List.set_cons_zero, List.set_cons_succ]
          refine wl_read _ (by rfl) (by (have c := HN.out.2 rfl; go_simp; first | done | with_reducible rfl)) ?_
          simp only [Act.put, List.setIfInBounds_toArray, List.set_cons_zero, List.set_cons_succ]
          refine wl_read _ (by rfl) (by (go_simp; first | done | with_reducible rfl)) ?_
          simp only [Act.put, List.setIfInBounds_toArray, List.set_cons_zero, List.set_cons_succ]
          refine wl_read _ (by rfl) (by (go_simp; first | done | with_reducible rfl)) ?_
          simp only [Act.put, List.setIfInBounds_toArray, List.set_cons_zero, List.set_cons_succ]
          refine wl_read _ (by rfl) (by (have c := (HQi.out _ hq).cell_at 27 (im.c_in hi.len 2); go_simp; first | done | with_reducible rfl)) ?_
          simp only [Act.put, List.setIfInBounds_toArray, List.set_cons_zero, List.set_cons_succ]
          refine wl_read _ (by rfl) (by (go_simp; first | done | with_reducible rfl)) ?_
          simp only [Act.put, List.setIfInBounds_toArray, List.set_cons_zero, List.set_cons_succ]
          refine wl_read _ (by rfl) (by (have c := HA31.out; go_simp; first | done | with_reducible rfl)) ?_
          simp only [Act.put, List.setIfInBounds_toArray, List.set_cons_zero, List.set_cons_succ]
          refine wl_read _ (by rfl) (by (have c := HW64.out; go_simp; first | done | with_reducible rfl)) ?_
          simp only [Act.put, List.setIfInBounds_toArray, List.set_cons_zero, List.set_cons_succ]
          refine wl_read _ (by rfl) (by (have c := H32'.out; have d := H0'.out; have e := HZR.out; go_simp; first | done | with_reducible rfl)) ?_
          simp only [Act.put, List.setIfInBounds_toArray, List.set_cons_zero, List.set_cons_succ]
          refine wl_read _ (by rfl) (by (have c := HR.out.1 rfl; go_simp; first | done | with_reducible rfl)) ?_
          simp only [Act.put, List.setIfInBounds_toArray, List.set_cons_zero, List.set_cons_succ]
          refine wl_read _ (by rfl) (by (go_simp; first | done | with_reducible rfl)) ?_
          simp only [Act.put, List.setIfInBounds_toArray, List.set_cons_zero, List.set_cons_succ]
          refine wl_read _ (by rfl) (by (go_simp; first | done | with_reducible rfl)) ?_
          simp only [Act.put, List.setIfInBounds_toArray, List.set_cons_zero, List.set_cons_succ]
          refine wl_read _ (by rfl) (by (go_simp; first | done | with_reducible rfl)) ?_
          simp only [Act.put, List.setIfInBounds_toArray, List.set_cons_zero, List.set_cons_succ]
          refine wl_out ?_
          have HQ1 := Lib.hid hq
          clear hq
          go_wp2_with fail
          go_meet
          exact ⟨false, rfl, (fun h => by cases h), HQ1⟩
        · apply wp_region_lit
          refine wl_in ?_
          refine wl_read _ (by rfl) (by (go_simp; first | done | with_reducible rfl)) ?_
          simp only [Act.put, List.setIfInBounds_toArray, List.set_cons_zero, List.set_cons_succ]
          refine wl_read _ (by rfl) (by (go_simp; first | done | with_reducible rfl)) ?_
          simp only [Act.put, List.setIfInBounds_toArray, List.set_cons_zero, List.set_cons_succ]
          refine wl_read _ (by rfl) (by (go_simp; first | done | with_reducible rfl)) ?_
          simp only [Act.put, List.setIfInBounds_toArray, List.set_cons_zero, List.set_cons_succ]
          refine wl_read _ (by rfl) (by (have c := H32.out; go_simp; first | done | with_reducible rfl)) ?_
          simp only [Act.put, List.setIfInBounds_toArray, List.set_cons_zero, List.set_cons_succ]
          refine wl_read _ (by rfl) (by (go_simp; first | done | with_reducible rfl)) ?_
          simp only [Act.put, List.setIfInBounds_toArray, List.set_cons_zero, List.set_cons_succ]
          refine wl_read _ (by rfl) (by (go_simp; first | done | with_reducible rfl)) ?_
          simp only [Act.put, List.setIfInBounds_toArray, List.set_cons_zero, List.set_cons_succ]
          refine wl_read _ (by rfl) (by (go_simp; first | done | with_reducible rfl)) ?_
          simp only [Act.put, List.setIfInBounds_toArray, List.set_cons_zero, List.set_cons_succ]
          refine wl_read _ (by rfl) (by (go_simp; first | done | with_reducible rfl)) ?_
          simp only [Act.put, List.setIfInBounds_toArray, List.set_cons_zero, List.set_cons_succ]
          refine wl_read _ (by rfl) (by (have c := (HQi.out _ hq).cell_at 26 (im.c_in hi.len 1); go_simp; first | done | with_reducible rfl)) ?_
          simp only [Act.put, List.setIfInBounds_toArray, List.set_cons_zero, List.set_cons_succ]
          refine wl_read _ (by rfl) (by (go_simp; first | done | with_reducible rfl)) ?_
          simp only [Act.put, List.setIfInBounds_toArray, List.set_cons_zero, List.set_cons_succ]
          refine wl_read _ (by rfl) (by (have c := HA31.out; go_simp; first | done | with_reducible rfl)) ?_
          simp only [Act.put, List.setIfInBounds_toArray, List.set_cons_zero, List.set_cons_succ]
          refine wl_read _ (by rfl) (by (have c := HW64.out; go_simp; first | done | with_reducible rfl)) ?_
          simp only [Act.put, List.setIfInBounds_toArray, List.set_cons_zero, List.set_cons_succ]
          refine wl_read _ (by rfl) (by (have c := H32'.out; have d := H0'.out; have e := HZN.out; go_simp; first | done | with_reducible rfl)) ?_
          simp only [Act.put, List.setIfInBounds_toArray, List.set_cons_zero, List.set_cons_succ]
          refine wl_read _ (by rfl) (by (have c := HN.out.2 rfl; go_simp; first | done | with_reducible rfl)) ?_
          simp only [Act.put, List.setIfInBounds_toArray, List.set_cons_zero, List.set_cons_succ]
          refine wl_read _ (by rfl) (by (go_simp; first | done | with_reducible rfl)) ?_
          simp only [Act.put, List.setIfInBounds_toArray, List.set_cons_zero, List.set_cons_succ]
          refine wl_read _ (by rfl) (by (go_simp; first | done | with_reducible rfl)) ?_
          simp only [Act.put, List.setIfInBounds_toArray, List.set_cons_zero, List.set_cons_succ]
          refine wl_read _ (by rfl) (by (have c := (HQi.out _ hq).cell_at 27 (im.c_in hi.len 2); go_simp; first | done | with_reducible rfl)) ?_
          simp only [Act.put, List.setIfInBounds_toArray, List.set_cons_zero, List.set_cons_succ]
          refine wl_read _ (by rfl) (by (go_simp; first | done | with_reducible rfl)) ?_
          simp only [Act.put, List.setIfInBounds_toArray, List.set_cons_zero, List.set_cons_succ]
          refine wl_read _ (by rfl) (by (have c := HA31.out; go_simp; first | done | with_reducible rfl)) ?_
          simp only [Act.put, List.setIfInBounds_toArray, List.set_cons_zero, List.set_cons_succ]
          refine wl_read _ (by rfl) (by (have c := HW64.out; go_simp; first | done | with_reducible rfl)) ?_
          simp only [Act.put, List.setIfInBounds_toArray, List.set_cons_zero, List.set_cons_succ]
          refine wl_read _ (by rfl) (by (have c := H32'.out; have d := H0'.out; have e := HZR.out; go_simp; first | done | with_reducible rfl)) ?_
          simp only [Act.put, List.setIfInBounds_toArray, List.set_cons_zero, List.set_cons_succ]
          refine wl_read _ (by rfl) (by (have c := HR.out.2 rfl; go_simp; first | done | with_reducible rfl)) ?_
          simp only [Act.put, List.setIfInBounds_toArray, List.set_cons_zero, List.set_cons_succ]
          refine wl_read _ (by rfl) (by (go_simp; first | done | with_reducible rfl)) ?_
          simp only [Act.put, List.setIfInBounds_toArray, List.set_cons_zero, List.set_cons_succ]
          refine wl_read _ (by rfl) (by (go_simp; first | done | with_reducible rfl)) ?_
          simp only [Act.put, List.setIfInBounds_toArray, List.set_cons_zero, List.set_cons_succ]
          refine wl_read _ (by rfl) (by (go_simp; first | done | with_reducible rfl)) ?_
          simp only [Act.put, List.setIfInBounds_toArray, List.set_cons_zero, List.set_cons_succ]
          refine wl_out ?_
          have HQ1 := Lib.hid hq
          clear hq
          go_wp2_with fail
          go_meet
          exact ⟨true, rfl, (fun _ => ⟨by first | rfl | trivial, HBN.out (by first | rfl | trivial)⟩), HQ1⟩
    case rest =>
    obtain ⟨bo, rfl, hbo, HQ1⟩ := hcut
    have hq := HQ1.out
    have HBO := Lib.hid hbo
    clear hbo HQ1
    go_upto_region 8 with (fail)
    go_cut [113] from 61 to 113 (fun v wx => v = .bool false ∧ Hid (Q wx))
    case first =>
      cases st
      · cases hs
        · have e1 : ro = true := by rw [← HRO.out]; exact occ_none (fun h => by have := HHS.out.2 ⟨h.1, h.2.1⟩; cases this)
          have e2 : ra = -1 := by rw [← HRA.out]; exact at_none (fun h => by have := HHS.out.2 h; cases this)
          subst e1
          subst e2
          by_cases hn0 : n < 0
          · have e3 : rl = false := by rw [← HRL.out]; exact lit_none (by omega) _
            subst e3
            apply wp_region_lit
            refine wl_in ?_
            refine wl_read _ (by rfl) (by (go_simp; first | done | with_reducible rfl)) ?_
            simp only [Act.put, List.setIfInBounds_toArray, List.set_cons_zero, List.set_cons_succ]
            refine wl_read _ (by rfl) (by (go_simp; first | done | with_reducible rfl)) ?_
            simp only [Act.put, List.setIfInBounds_toArray, List.set_cons_zero, List.set_cons_succ]
            refine wl_read _ (by rfl) (by (go_simp; first | done | with_reducible rfl)) ?_
            simp only [Act.put, List.setIfInBounds_toArray, List.set_cons_zero, List.set_cons_succ]
            refine wl_read _ (by rfl) (by (go_simp; first | done | with_reducible rfl)) ?_
            simp only [Act.put, List.setIfInBounds_toArray, List.set_cons_zero, List.set_cons_succ]
            refine wl_read _ (by rfl) (by (go_simp; first | done | with_reducible rfl)) ?_
            simp only [Act.put, List.setIfInBounds_toArray, List.set_cons_zero, List.set_cons_succ]
            refine wl_read _ (by rfl) (by (go_simp; first | done | with_reducible rfl)) ?_
            simp only [Act.put, List.setIfInBounds_toArray, List.set_cons_zero, List.set_cons_succ]
            refine wl_skip (by kernel_rfl) ?_
            simp only [Act.put, List.setIfInBounds_toArray, List.set_cons_zero, List.set_cons_succ]
            refine wl_skip (by kernel_rfl) ?_
            simp only [Act.put, List.setIfInBounds_toArray, List.set_cons_zero, List.set_cons_succ]
            refine wl_read _ (by rfl) (by (go_simp; first | done | with_reducible rfl)) ?_
            simp only [Act.put, List.setIfInBounds_toArray, List.set_cons_zero, List.set_cons_succ]
            refine wl_read _ (by rfl) (by (go_simp; first | done | with_reducible rfl)) ?_
            simp only [Act.put, List.setIfInBounds_toArray, List.set_cons_zero, List.set_cons_succ]
            refine wl_read _ (by rfl) (exec_lay (by rfl) (by rfl) (HQl.out _ hq)) ?_
            simp only [Act.put, List.setIfInBounds_toArray, List.set_cons_zero, List.set_cons_succ]
            refine wl_read _ (by rfl) (exec_img hi.len (by rfl) (by rfl) (HQi.out _ hq)) ?_
            simp only [Act.put, List.setIfInBounds_toArray, List.set_cons_zero, List.set_cons_succ]
            refine wl_read _ (by rfl) (by (go_simp; first | done | with_reducible rfl)) ?_
            simp only [Act.put, List.setIfInBounds_toArray, List.set_cons_zero, List.set_cons_succ]
            refine wl_callv (by rfl) (by (go_simp; first | done | with_reducible rfl)) (KO.out _ hq) (fun W hB => ?_)
            simp only [Act.put, List.setIfInBounds_toArray, List.set_cons_zero, List.set_cons_succ]
            have hq := HQ.out _ _ hq hB
            clear hB
            refine wl_read _ (by rfl) (by (go_simp; first | done | with_reducible rfl)) ?_
            simp only [Act.put, List.setIfInBounds_toArray, List.set_cons_zero, List.set_cons_succ]
            refine wl_read _ (by rfl) (by (go_simp; first | done | with_reducible rfl)) ?_
            simp only [Act.put, List.setIfInBounds_toArray, List.set_cons_zero, List.set_cons_succ]
            refine wl_read _ (by rfl) (by (go_simp; first | done | with_reducible rfl)) ?_
            simp only [Act.put, List.setIfInBounds_toArray, List.set_cons_zero, List.set_cons_succ]
            refine wl_read _ (by rfl) (by (go_simp; first | done | with_reducible rfl)) ?_
            simp only [Act.put, List.setIfInBounds_toArray, List.set_cons_zero, List.set_cons_succ]
            refine wl_read _ (by rfl) (by (go_simp; first | done | with_reducible rfl)) ?_
            simp only [Act.put, List.setIfInBounds_toArray, List.set_cons_zero, List.set_cons_succ]
            refine wl_read _ (by rfl) (by (go_simp; first | done | with_reducible rfl)) ?_
            simp only [Act.put, List.setIfInBounds_toArray, List.set_cons_zero, List.set_cons_succ]
            refine wl_read _ (by rfl) (by (go_simp; first | done | with_reducible rfl)) ?_
            simp only [Act.put, List.setIfInBounds_toArray, List.set_cons_zero, List.set_cons_succ]
            refine wl_read _ (by rfl) (by (go_simp; first | done | with_reducible rfl)) ?_
            simp only [Act.put, List.setIfInBounds_toArray, List.set_cons_zero, List.set_cons_succ]
            refine wl_read _ (by rfl) (by (go_simp; first | done | with_reducible rfl)) ?_
            simp only [Act.put, List.setIfInBounds_toArray, List.set_cons_zero, List.set_cons_succ]
            refine wl_skip (by kernel_rfl) ?_
            simp only [Act.put, List.setIfInBounds_toArray, List.set_cons_zero, List.set_cons_succ]
            refine wl_read _ (by rfl) (by (go_simp; first | done | with_reducible rfl)) ?_
            simp only [Act.put, List.setIfInBounds_toArray, List.set_cons_zero, List.set_cons_succ]
            refine wl_read _ (by rfl) (by (go_simp; first | done | with_reducible rfl)) ?_
            simp only [Act.put, List.setIfInBounds_toArray, List.set_cons_zero, List.set_cons_succ]
            refine wl_read _ (by rfl) (exec_lay (by rfl) (by rfl) (HQl.out _ hq)) ?_
            simp only [Act.put, List.setIfInBounds_toArray, List.set_cons_zero, List.set_cons_succ]
            refine wl_read _ (by rfl) (exec_img hi.len (by rfl) (by rfl) (HQi.out _ hq)) ?_
            simp only [Act.put, List.setIfInBounds_toArray, List.set_cons_zero, List.set_cons_succ]
            refine wl_read _ (by rfl) (by (go_simp; first | done | with_reducible rfl)) ?_
            simp only [Act.put, List.setIfInBounds_toArray, List.set_cons_zero, List.set_cons_succ]
            refine wl_callv (by rfl) (by (go_simp; first | done | with_reducible rfl)) (KA.out _ hq) (fun W hB => ?_)
            simp only [Act.put, List.setIfInBounds_toArray, List.set_cons_zero, List.set_cons_succ]
            have hq := HQ.out _ _ hq hB
            clear hB
            refine wl_read _ (by rfl) (by (go_simp; first | done | with_reducible rfl)) ?_
            simp only [Act.put, List.setIfInBounds_toArray, List.set_cons_zero, List.set_cons_succ]
            refine wl_read _ (by rfl) (by (go_simp; first | done | with_reducible rfl)) ?_
            simp only [Act.put, List.setIfInBounds_toArray, List.set_cons_zero, List.set_cons_succ]
            refine wl_read _ (by rfl) (by (go_simp; first | done | with_reducible rfl)) ?_
            simp only [Act.put, List.setIfInBounds_toArray, List.set_cons_zero, List.set_cons_succ]
            refine wl_read _ (by rfl) (by (go_simp; first | done | with_reducible rfl)) ?_
            simp only [Act.put, List.setIfInBounds_toArray, List.set_cons_zero, List.set_cons_succ]
            refine wl_read _ (by rfl) (by (go_simp; first | done | with_reducible rfl)) ?_
            simp only [Act.put, List.setIfInBounds_toArray, List.set_cons_zero, List.set_cons_succ]
            refine wl_read _ (by rfl) (by (go_simp; first | done | with_reducible rfl)) ?_
            simp only [Act.put, List.setIfInBounds_toArray, List.set_cons_zero, List.set_cons_succ]
            refine wl_read _ (by rfl) (by (go_simp; first | done | with_reducible rfl)) ?_
            simp only [Act.put, List.setIfInBounds_toArray, List.set_cons_zero, List.set_cons_succ]
            refine wl_read _ (by rfl) (by (have c := hn0; go_simp; first | done | with_reducible rfl)) ?_
            simp only [Act.put, List.setIfInBounds_toArray, List.set_cons_zero, List.set_cons_succ]
            refine wl_read _ (by rfl) (by (go_simp; first | done | with_reducible rfl)) ?_
            simp only [Act.put, List.setIfInBounds_toArray, List.set_cons_zero, List.set_cons_succ]
            refine wl_read _ (by rfl) (by (go_simp; first | done | with_reducible rfl)) ?_
            simp only [Act.put, List.setIfInBounds_toArray, List.set_cons_zero, List.set_cons_succ]
            refine wl_skip (by kernel_rfl) ?_
            simp only [Act.put, List.setIfInBounds_toArray, List.set_cons_zero, List.set_cons_succ]
            refine wl_skip (by kernel_rfl) ?_
            simp only [Act.put, List.setIfInBounds_toArray, List.set_cons_zero, List.set_cons_succ]
            refine wl_skip (by kernel_rfl) ?_
            simp only [Act.put, List.setIfInBounds_toArray, List.set_cons_zero, List.set_cons_succ]
            refine wl_skip (by kernel_rfl) ?_
            simp only [Act.put, List.setIfInBounds_toArray, List.set_cons_zero, List.set_cons_succ]
            refine wl_skip (by kernel_rfl) ?_
            simp only [Act.put, List.setIfInBounds_toArray, List.set_cons_zero, List.set_cons_succ]
            refine wl_read _ (by rfl) (by (go_simp; first | done | with_reducible rfl)) ?_
            simp only [Act.put, List.setIfInBounds_toArray, List.set_cons_zero, List.set_cons_succ]
            refine wl_read _ (by rfl) (by (go_simp; first | done | with_reducible rfl)) ?_
            simp only [Act.put, List.setIfInBounds_toArray, List.set_cons_zero, List.set_cons_succ]
            refine wl_read _ (by rfl) (exec_lay (by rfl) (by rfl) (HQl.out _ hq)) ?_
            simp only [Act.put, List.setIfInBounds_toArray, List.set_cons_zero, List.set_cons_succ]
            refine wl_read _ (by rfl) (exec_img hi.len (by rfl) (by rfl) (HQi.out _ hq)) ?_
            simp only [Act.put, List.setIfInBounds_toArray, List.set_cons_zero, List.set_cons_succ]
            refine wl_read _ (by rfl) (by (go_simp; first | done | with_reducible rfl)) ?_
            simp only [Act.put, List.setIfInBounds_toArray, List.set_cons_zero, List.set_cons_succ]
            refine wl_callv (by rfl) (by (go_simp; first | done | with_reducible rfl)) (KL.out _ hq) (fun W hB => ?_)
            simp only [Act.put, List.setIfInBounds_toArray, List.set_cons_zero, List.set_cons_succ]
            have hq := HQ.out _ _ hq hB
            clear hB
            refine wl_read _ (by rfl) (by (go_simp; first | done | with_reducible rfl)) ?_
            simp only [Act.put, List.setIfInBounds_toArray, List.set_cons_zero, List.set_cons_succ]
            refine wl_read _ (by rfl) (by (go_simp; first | done | with_reducible rfl)) ?_
            simp only [Act.put, List.setIfInBounds_toArray, List.set_cons_zero, List.set_cons_succ]
            refine wl_out ?_
            have HQ1 := Lib.hid hq
            clear hq
            go_wp2_with fail
            go_meet
            exact ⟨rfl, HQ1⟩
          · by_cases hns : ((l.sigs.length : Nat) : Int) ≤ n
            · have e3 : rl = false := by rw [← HRL.out]; exact lit_none (by omega) _
              subst e3
              have hns2 : decide (((l.sigs.length : Nat) : Int) ≤ n) = true := decide_eq_true hns
              apply wp_region_lit
              refine wl_in ?_
              refine wl_read _ (by rfl) (by (go_simp; first | done | with_reducible rfl)) ?_
              simp only [Act.put, List.setIfInBounds_toArray, List.set_cons_zero, List.set_cons_succ]
              refine wl_read _ (by rfl) (by (go_simp; first | done | with_reducible rfl)) ?_
              simp only [Act.put, List.setIfInBounds_toArray, List.set_cons_zero, List.set_cons_succ]
              refine wl_read _ (by rfl) (by (go_simp; first | done | with_reducible rfl)) ?_
              simp only [Act.put, List.setIfInBounds_toArray, List.set_cons_zero, List.set_cons_succ]
              refine wl_read _ (by rfl) (by (go_simp; first | done | with_reducible rfl)) ?_
              simp only [Act.put, List.setIfInBounds_toArray, List.set_cons_zero, List.set_cons_succ]
              refine wl_read _ (by rfl) (by (go_simp; first | done | with_reducible rfl)) ?_
              simp only [Act.put, List.setIfInBounds_toArray, List.set_cons_zero, List.set_cons_succ]
              refine wl_read _ (by rfl) (by (go_simp; first | done | with_reducible rfl)) ?_
              simp only [Act.put, List.setIfInBounds_toArray, List.set_cons_zero, List.set_cons_succ]
              refine wl_skip (by kernel_rfl) ?_
              simp only [Act.put, List.setIfInBounds_toArray, List.set_cons_zero, List.set_cons_succ]
              refine wl_skip (by kernel_rfl) ?_
              simp only [Act.put, List.setIfInBounds_toArray, List.set_cons_zero, List.set_cons_succ]
              refine wl_read _ (by rfl) (by (go_simp; first | done | with_reducible rfl)) ?_
              simp only [Act.put, List.setIfInBounds_toArray, List.set_cons_zero, List.set_cons_succ]
              refine wl_read _ (by rfl) (by (go_simp; first | done | with_reducible rfl)) ?_
              simp only [Act.put, List.setIfInBounds_toArray, List.set_cons_zero, List.set_cons_succ]
              refine wl_read _ (by rfl) (exec_lay (by rfl) (by rfl) (HQl.out _ hq)) ?_
              simp only [Act.put, List.setIfInBounds_toArray, List.set_cons_zero, List.set_cons_succ]
              refine wl_read _ (by rfl) (exec_img hi.len (by rfl) (by rfl) (HQi.out _ hq)) ?_
              simp only [Act.put, List.setIfInBounds_toArray, List.set_cons_zero, List.set_cons_succ]
              refine wl_read _ (by rfl) (by (go_simp; first | done | with_reducible rfl)) ?_
              simp only [Act.put, List.setIfInBounds_toArray, List.set_cons_zero, List.set_cons_succ]
              refine wl_callv (by rfl) (by (go_simp; first | done | with_reducible rfl)) (KO.out _ hq) (fun W hB => ?_)
              simp only [Act.put, List.setIfInBounds_toArray, List.set_cons_zero, List.set_cons_succ]
              have hq := HQ.out _ _ hq hB
              clear hB
              refine wl_read _ (by rfl) (by (go_simp; first | done | with_reducible rfl)) ?_
              simp only [Act.put, List.setIfInBounds_toArray, List.set_cons_zero, List.set_cons_succ]
              refine wl_read _ (by rfl) (by (go_simp; first | done | with_reducible rfl)) ?_
              simp only [Act.put, List.setIfInBounds_toArray, List.set_cons_zero, List.set_cons_succ]
              refine wl_read _ (by rfl) (by (go_simp; first | done | with_reducible rfl)) ?_
              simp only [Act.put, List.setIfInBounds_toArray, List.set_cons_zero, List.set_cons_succ]
              refine wl_read _ (by rfl) (by (go_simp; first | done | with_reducible rfl)) ?_
              simp only [Act.put, List.setIfInBounds_toArray, List.set_cons_zero, List.set_cons_succ]
              refine wl_read _ (by rfl) (by (go_simp; first | done | with_reducible rfl)) ?_
              simp only [Act.put, List.setIfInBounds_toArray, List.set_cons_zero, List.set_cons_succ]
              refine wl_read _ (by rfl) (by (go_simp; first | done | with_reducible rfl)) ?_
              simp only [Act.put, List.setIfInBounds_toArray, List.set_cons_zero, List.set_cons_succ]
              refine wl_read _ (by rfl) (by (go_simp; first | done | with_reducible rfl)) ?_
              simp only [Act.put, List.setIfInBounds_toArray, List.set_cons_zero, List.set_cons_succ]
              refine wl_read _ (by rfl) (by (go_simp; first | done | with_reducible rfl)) ?_
              simp only [Act.put, List.setIfInBounds_toArray, List.set_cons_zero, List.set_cons_succ]
              refine wl_read _ (by rfl) (by (go_simp; first | done | with_reducible rfl)) ?_
              simp only [Act.put, List.setIfInBounds_toArray, List.set_cons_zero, List.set_cons_succ]
              refine wl_skip (by kernel_rfl) ?_
              simp only [Act.put, List.setIfInBounds_toArray, List.set_cons_zero, List.set_cons_succ]
              refine wl_read _ (by rfl) (by (go_simp; first | done | with_reducible rfl)) ?_
              simp only [Act.put, List.setIfInBounds_toArray, List.set_cons_zero, List.set_cons_succ]
              refine wl_read _ (by rfl) (by (go_simp; first | done | with_reducible rfl)) ?_
              simp only [Act.put, List.setIfInBounds_toArray, List.set_cons_zero, List.set_cons_succ]
              refine wl_read _ (by rfl) (exec_lay (by rfl) (by rfl) (HQl.out _ hq)) ?_
              simp only [Act.put, List.setIfInBounds_toArray, List.set_cons_zero, List.set_cons_succ]
              refine wl_read _ (by rfl) (exec_img hi.len (by rfl) (by rfl) (HQi.out _ hq)) ?_
              simp only [Act.put, List.setIfInBounds_toArray, List.set_cons_zero, List.set_cons_succ]
              refine wl_read _ (by rfl) (by (go_simp; first | done | with_reducible rfl)) ?_
              simp only [Act.put, List.setIfInBounds_toArray, List.set_cons_zero, List.set_cons_succ]
              refine wl_callv (by rfl) (by (go_simp; first | done | with_reducible rfl)) (KA.out _ hq) (fun W hB => ?_)
              simp only [Act.put, List.setIfInBounds_toArray, List.set_cons_zero, List.set_cons_succ]
              have hq := HQ.out _ _ hq hB
              clear hB
              refine wl_read _ (by rfl) (by (go_simp; first | done | with_reducible rfl)) ?_
              simp only [Act.put, List.setIfInBounds_toArray, List.set_cons_zero, List.set_cons_succ]
              refine wl_read _ (by rfl) (by (go_simp; first | done | with_reducible rfl)) ?_
              simp only [Act.put, List.setIfInBounds_toArray, List.set_cons_zero, List.set_cons_succ]
              refine wl_read _ (by rfl) (by (go_simp; first | done | with_reducible rfl)) ?_
              simp only [Act.put, List.setIfInBounds_toArray, List.set_cons_zero, List.set_cons_succ]
              refine wl_read _ (by rfl) (by (go_simp; first | done | with_reducible rfl)) ?_
              simp only [Act.put, List.setIfInBounds_toArray, List.set_cons_zero, List.set_cons_succ]
              refine wl_read _ (by rfl) (by (go_simp; first | done | with_reducible rfl)) ?_
              simp only [Act.put, List.setIfInBounds_toArray, List.set_cons_zero, List.set_cons_succ]
              refine wl_read _ (by rfl) (by (go_simp; first | done | with_reducible rfl)) ?_
              simp only [Act.put, List.setIfInBounds_toArray, List.set_cons_zero, List.set_cons_succ]
              refine wl_read _ (by rfl) (by (go_simp; first | done | with_reducible rfl)) ?_
              simp only [Act.put, List.setIfInBounds_toArray, List.set_cons_zero, List.set_cons_succ]
              refine wl_read _ (by rfl) (by (have c := hn0; go_simp; first | done | with_reducible rfl)) ?_
              simp only [Act.put, List.setIfInBounds_toArray, List.set_cons_zero, List.set_cons_succ]
              refine wl_read _ (by rfl) (by (go_simp; first | done | with_reducible rfl)) ?_
              simp only [Act.put, List.setIfInBounds_toArray, List.set_cons_zero, List.set_cons_succ]
              refine wl_read _ (by rfl) (by (go_simp; first | done | with_reducible rfl)) ?_
              simp only [Act.put, List.setIfInBounds_toArray, List.set_cons_zero, List.set_cons_succ]
              refine wl_read _ (by rfl) (by (go_simp; first | done | with_reducible rfl)) ?_
              simp only [Act.put, List.setIfInBounds_toArray, List.set_cons_zero, List.set_cons_succ]
              refine wl_read _ (by rfl) (by (go_simp; first | done | with_reducible rfl)) ?_
              simp only [Act.put, List.setIfInBounds_toArray, List.set_cons_zero, List.set_cons_succ]
              refine wl_read _ (by rfl) (by (have c := (HQl.out _ hq).cell_at 1 rfl; go_simp; first | done | with_reducible rfl)) ?_
              simp only [Act.put, List.setIfInBounds_toArray, List.set_cons_zero, List.set_cons_succ]
              refine wl_read _ (by rfl) (by (go_simp; first | done | with_reducible rfl)) ?_
              simp only [Act.put, List.setIfInBounds_toArray, List.set_cons_zero, List.set_cons_succ]
              refine wl_read _ (by rfl) (by (have c := hns; have d := hns2; go_simp; first | done | with_reducible rfl)) ?_
              simp only [Act.put, List.setIfInBounds_toArray, List.set_cons_zero, List.set_cons_succ]
              refine wl_read _ (by rfl) (by (go_simp; first | done | with_reducible rfl)) ?_
              simp only [Act.put, List.setIfInBounds_toArray, List.set_cons_zero, List.set_cons_succ]
              refine wl_read _ (by rfl) (by (go_simp; first | done | with_reducible rfl)) ?_
              simp only [Act.put, List.setIfInBounds_toArray, List.set_cons_zero, List.set_cons_succ]
              refine wl_read _ (by rfl) (exec_lay (by rfl) (by rfl) (HQl.out _ hq)) ?_
              simp only [Act.put, List.setIfInBounds_toArray, List.set_cons_zero, List.set_cons_succ]
              refine wl_read _ (by rfl) (exec_img hi.len (by rfl) (by rfl) (HQi.out _ hq)) ?_
              simp only [Act.put, List.setIfInBounds_toArray, List.set_cons_zero, List.set_cons_succ]
              refine wl_read _ (by rfl) (by (go_simp; first | done | with_reducible rfl)) ?_
              simp only [Act.put, List.setIfInBounds_toArray, List.set_cons_zero, List.set_cons_succ]
              refine wl_callv (by rfl) (by (go_simp; first | done | with_reducible rfl)) (KL.out _ hq) (fun W hB => ?_)
              simp only [Act.put, List.setIfInBounds_toArray, List.set_cons_zero, List.set_cons_succ]
              have hq := HQ.out _ _ hq hB
              clear hB
              refine wl_read _ (by rfl) (by (go_simp; first | done | with_reducible rfl)) ?_
              simp only [Act.put, List.setIfInBounds_toArray, List.set_cons_zero, List.set_cons_succ]
              refine wl_read _ (by rfl) (by (go_simp; first | done | with_reducible rfl)) ?_
              simp only [Act.put, List.setIfInBounds_toArray, List.set_cons_zero, List.set_cons_succ]
              refine wl_out ?_
              have HQ1 := Lib.hid hq
              clear hq
              go_wp2_with fail
              go_meet
              exact ⟨rfl, HQ1⟩
            · have hns2 : decide (((l.sigs.length : Nat) : Int) ≤ n) = false := decide_eq_false hns
              apply wp_region_lit
              refine wl_in ?_
              refine wl_read _ (by rfl) (by (go_simp; first | done | with_reducible rfl)) ?_
              simp only [Act.put, List.setIfInBounds_toArray, List.set_cons_zero, List.set_cons_succ]
              refine wl_read _ (by rfl) (by (go_simp; first | done | with_reducible rfl)) ?_
              simp only [Act.put, List.setIfInBounds_toArray, List.set_cons_zero, List.set_cons_succ]
              refine wl_read _ (by rfl) (by (go_simp; first | done | with_reducible rfl)) ?_
              simp only [Act.put, List.setIfInBounds_toArray, List.set_cons_zero, List.set_cons_succ]
              refine wl_read _ (by rfl) (by (go_simp; first | done | with_reducible rfl)) ?_
              simp only [Act.put, List.setIfInBounds_toArray, List.set_cons_zero, List.set_cons_succ]
              refine wl_read _ (by rfl) (by (go_simp; first | done | with_reducible rfl)) ?_
              simp only [Act.put, List.setIfInBounds_toArray, List.set_cons_zero, List.set_cons_succ]
              refine wl_read _ (by rfl) (by (go_simp; first | done | with_reducible rfl)) ?_
              simp only [Act.put, List.setIfInBounds_toArray, List.set_cons_zero, List.set_cons_succ]
              refine wl_skip (by kernel_rfl) ?_
              simp only [Act.put, List.setIfInBounds_toArray, List.set_cons_zero, List.set_cons_succ]
              refine wl_skip (by kernel_rfl) ?_
              simp only [Act.put, List.setIfInBounds_toArray, List.set_cons_zero, List.set_cons_succ]
              refine wl_read _ (by rfl) (by (go_simp; first | done | with_reducible rfl)) ?_
              simp only [Act.put, List.setIfInBounds_toArray, List.set_cons_zero, List.set_cons_succ]
              refine wl_read _ (by rfl) (by (go_simp; first | done | with_reducible rfl)) ?_
              simp only [Act.put, List.setIfInBounds_toArray, List.set_cons_zero, List.set_cons_succ]
              refine wl_read _ (by rfl) (exec_lay (by rfl) (by rfl) (HQl.out _ hq)) ?_
              simp only [Act.put, List.setIfInBounds_toArray, List.set_cons_zero, List.set_cons_succ]
              refine wl_read _ (by rfl) (exec_img hi.len (by rfl) (by rfl) (HQi.out _ hq)) ?_
              simp only [Act.put, List.setIfInBounds_toArray, List.set_cons_zero, List.set_cons_succ]
              refine wl_read _ (by rfl) (by (go_simp; first | done | with_reducible rfl)) ?_
              simp only [Act.put, List.setIfInBounds_toArray, List.set_cons_zero, List.set_cons_succ]
              refine wl_callv (by rfl) (by (go_simp; first | done | with_reducible rfl)) (KO.out _ hq) (fun W hB => ?_)
              simp only [Act.put, List.setIfInBounds_toArray, List.set_cons_zero, List.set_cons_succ]
              have hq := HQ.out _ _ hq hB
              clear hB
              refine wl_read _ (by rfl) (by (go_simp; first | done | with_reducible rfl)) ?_
              simp only [Act.put, List.setIfInBounds_toArray, List.set_cons_zero, List.set_cons_succ]
              refine wl_read _ (by rfl) (by (go_simp; first | done | with_reducible rfl)) ?_
              simp only [Act.put, List.setIfInBounds_toArray, List.set_cons_zero, List.set_cons_succ]
              refine wl_read _ (by rfl) (by (go_simp; first | done | with_reducible rfl)) ?_
              simp only [Act.put, List.setIfInBounds_toArray, List.set_cons_zero, List.set_cons_succ]
              refine wl_read _ (by rfl) (by (go_simp; first | done | with_reducible rfl)) ?_
              simp only [Act.put, List.setIfInBounds_toArray, List.set_cons_zero, List.set_cons_succ]
              refine wl_read _ (by rfl) (by (go_simp; first | done | with_reducible rfl)) ?_
              simp only [Act.put, List.setIfInBounds_toArray, List.set_cons_zero, List.set_cons_succ]
              refine wl_read _ (by rfl) (by (go_simp; first | done | with_reducible rfl)) ?_
              simp only [Act.put, List.setIfInBounds_toArray, List.set_cons_zero, List.set_cons_succ]
              refine wl_read _ (by rfl) (by (go_simp; first | done | with_reducible rfl)) ?_
              simp only [Act.put, List.setIfInBounds_toArray, List.set_cons_zero, List.set_cons_succ]
              refine wl_read _ (by rfl) (by (go_simp; first | done | with_reducible rfl)) ?_
              simp only [Act.put, List.setIfInBounds_toArray, List.set_cons_zero, List.set_cons_succ]
              refine wl_read _ (by rfl) (by (go_simp; first | done | with_reducible rfl)) ?_
              simp only [Act.put, List.setIfInBounds_toArray, List.set_cons_zero, List.set_cons_succ]
              refine wl_skip (by kernel_rfl) ?_
              simp only [Act.put, List.setIfInBounds_toArray, List.set_cons_zero, List.set_cons_succ]
              refine wl_read _ (by rfl) (by (go_simp; first | done | with_reducible rfl)) ?_
              simp only [Act.put, List.setIfInBounds_toArray, List.set_cons_zero, List.set_cons_succ]
              refine wl_read _ (by rfl) (by (go_simp; first | done | with_reducible rfl)) ?_
              simp only [Act.put, List.setIfInBounds_toArray, List.set_cons_zero, List.set_cons_succ]
              refine wl_read _ (by rfl) (exec_lay (by rfl) (by rfl) (HQl.out _ hq)) ?_
              simp only [Act.put, List.setIfInBounds_toArray, List.set_cons_zero, List.set_cons_succ]
              refine wl_read _ (by rfl) (exec_img hi.len (by rfl) (by rfl) (HQi.out _ hq)) ?_
              simp only [Act.put, List.setIfInBounds_toArray, List.set_cons_zero, List.set_cons_succ]
              refine wl_read _ (by rfl) (by (go_simp; first | done | with_reducible rfl)) ?_
              simp only [Act.put, List.setIfInBounds_toArray, List.set_cons_zero, List.set_cons_succ]
              refine wl_callv (by rfl) (by (go_simp; first | done | with_reducible rfl)) (KA.out _ hq) (fun W hB => ?_)
              simp only [Act.put, List.setIfInBounds_toArray, List.set_cons_zero, List.set_cons_succ]
              have hq := HQ.out _ _ hq hB
              clear hB
              refine wl_read _ (by rfl) (by (go_simp; first | done | with_reducible rfl)) ?_
              simp only [Act.put, List.setIfInBounds_toArray, List.set_cons_zero, List.set_cons_succ]
              refine wl_read _ (by rfl) (by (go_simp; first | done | with_reducible rfl)) ?_
              simp only [Act.put, List.setIfInBounds_toArray, List.set_cons_zero, List.set_cons_succ]
              refine wl_read _ (by rfl) (by (go_simp; first | done | with_reducible rfl)) ?_
              simp only [Act.put, List.setIfInBounds_toArray, List.set_cons_zero, List.set_cons_succ]
              refine wl_read _ (by rfl) (by (go_simp; first | done | with_reducible rfl)) ?_
              simp only [Act.put, List.setIfInBounds_toArray, List.set_cons_zero, List.set_cons_succ]
              refine wl_read _ (by rfl) (by (go_simp; first | done | with_reducible rfl)) ?_
              simp only [Act.put, List.setIfInBounds_toArray, List.set_cons_zero, List.set_cons_succ]
              refine wl_read _ (by rfl) (by (go_simp; first | done | with_reducible rfl)) ?_
              simp only [Act.put, List.setIfInBounds_toArray, List.set_cons_zero, List.set_cons_succ]
              refine wl_read _ (by rfl) (by (go_simp; first | done | with_reducible rfl)) ?_
              simp only [Act.put, List.setIfInBounds_toArray, List.set_cons_zero, List.set_cons_succ]
              refine wl_read _ (by rfl) (by (have c := hn0; go_simp; first | done | with_reducible rfl)) ?_
              simp only [Act.put, List.setIfInBounds_toArray, List.set_cons_zero, List.set_cons_succ]
              refine wl_read _ (by rfl) (by (go_simp; first | done | with_reducible rfl)) ?_
              simp only [Act.put, List.setIfInBounds_toArray, List.set_cons_zero, List.set_cons_succ]
              refine wl_read _ (by rfl) (by (go_simp; first | done | with_reducible rfl)) ?_
              simp only [Act.put, List.setIfInBounds_toArray, List.set_cons_zero, List.set_cons_succ]
              refine wl_read _ (by rfl) (by (go_simp; first | done | with_reducible rfl)) ?_
              simp only [Act.put, List.setIfInBounds_toArray, List.set_cons_zero, List.set_cons_succ]
              refine wl_read _ (by rfl) (by (go_simp; first | done | with_reducible rfl)) ?_
              simp only [Act.put, List.setIfInBounds_toArray, List.set_cons_zero, List.set_cons_succ]
              refine wl_read _ (by rfl) (by (have c := (HQl.out _ hq).cell_at 1 rfl; go_simp; first | done | with_reducible rfl)) ?_
              simp only [Act.put, List.setIfInBounds_toArray, List.set_cons_zero, List.set_cons_succ]
              refine wl_read _ (by rfl) (by (go_simp; first | done | with_reducible rfl)) ?_
              simp only [Act.put, List.setIfInBounds_toArray, List.set_cons_zero, List.set_cons_succ]
              refine wl_read _ (by rfl) (by (have c := hns; have d := hns2; go_simp; first | done | with_reducible rfl)) ?_
              simp only [Act.put, List.setIfInBounds_toArray, List.set_cons_zero, List.set_cons_succ]
              refine wl_read _ (by rfl) (by (go_simp; first | done | with_reducible rfl)) ?_
              simp only [Act.put, List.setIfInBounds_toArray, List.set_cons_zero, List.set_cons_succ]
              refine wl_read _ (by rfl) (by (go_simp; first | done | with_reducible rfl)) ?_
              simp only [Act.put, List.setIfInBounds_toArray, List.set_cons_zero, List.set_cons_succ]
              refine wl_skip (by kernel_rfl) ?_
              simp only [Act.put, List.setIfInBounds_toArray, List.set_cons_zero, List.set_cons_succ]
              refine wl_skip (by kernel_rfl) ?_
              simp only [Act.put, List.setIfInBounds_toArray, List.set_cons_zero, List.set_cons_succ]
              refine wl_skip (by kernel_rfl) ?_
              simp only [Act.put, List.setIfInBounds_toArray, List.set_cons_zero, List.set_cons_succ]
              refine wl_skip (by kernel_rfl) ?_
              simp only [Act.put, List.setIfInBounds_toArray, List.set_cons_zero, List.set_cons_succ]
              refine wl_read _ (by rfl) (by (go_simp; first | done | with_reducible rfl)) ?_
              simp only [Act.put, List.setIfInBounds_toArray, List.set_cons_zero, List.set_cons_succ]
              refine wl_read _ (by rfl) (by (go_simp; first | done | with_reducible rfl)) ?_
              simp only [Act.put, List.setIfInBounds_toArray, List.set_cons_zero, List.set_cons_succ]
              refine wl_out ?_
              have HQ1 := Lib.hid hq
              clear hq
              go_wp2_with fail
              go_meet
              exact ⟨rfl, HQ1⟩
        · have hin := HHS.out.1 rfl
          have hn0 : ¬ n < 0 := by omega
          by_cases h24 : (24 : Int) ≤ n
          · have h242 : decide ((24 : Int) ≤ n) = true := decide_eq_true h24
            have e1 : ro = true := by rw [← HRO.out]; exact occ_none (by omega)
            subst e1
            cases bo
            · skip
              by_cases hns : ((l.sigs.length : Nat) : Int) ≤ n
              · have hns2 : decide (((l.sigs.length : Nat) : Int) ≤ n) = true := decide_eq_true hns
                have e3 : rl = false := by rw [← HRL.out]; exact lit_none (by omega) _
                subst e3
                apply wp_region_lit
                refine wl_in ?_
                refine wl_read _ (by rfl) (by (go_simp; first | done | with_reducible rfl)) ?_
                simp only [Act.put, List.setIfInBounds_toArray, List.set_cons_zero, List.set_cons_succ]
                refine wl_read _ (by rfl) (by (go_simp; first | done | with_reducible rfl)) ?_
                simp only [Act.put, List.setIfInBounds_toArray, List.set_cons_zero, List.set_cons_succ]
                refine wl_read _ (by rfl) (by (go_simp; first | done | with_reducible rfl)) ?_
                simp only [Act.put, List.setIfInBounds_toArray, List.set_cons_zero, List.set_cons_succ]
                refine wl_read _ (by rfl) (by (go_simp; first | done | with_reducible rfl)) ?_
                simp only [Act.put, List.setIfInBounds_toArray, List.set_cons_zero, List.set_cons_succ]
                refine wl_read _ (by rfl) (by (go_simp; first | done | with_reducible rfl)) ?_
                simp only [Act.put, List.setIfInBounds_toArray, List.set_cons_zero, List.set_cons_succ]
                refine wl_read _ (by rfl) (by (go_simp; first | done | with_reducible rfl)) ?_
                simp only [Act.put, List.setIfInBounds_toArray, List.set_cons_zero, List.set_cons_succ]
                refine wl_read _ (by rfl) (by (go_simp; first | done | with_reducible rfl)) ?_
                simp only [Act.put, List.setIfInBounds_toArray, List.set_cons_zero, List.set_cons_succ]
                refine wl_read _ (by rfl) (by (have c := h24; have d := h242; go_simp; first | done | with_reducible rfl)) ?_
                simp only [Act.put, List.setIfInBounds_toArray, List.set_cons_zero, List.set_cons_succ]
                refine wl_read _ (by rfl) (by (go_simp; first | done | with_reducible rfl)) ?_
                simp only [Act.put, List.setIfInBounds_toArray, List.set_cons_zero, List.set_cons_succ]
                refine wl_read _ (by rfl) (by (go_simp; first | done | with_reducible rfl)) ?_
                simp only [Act.put, List.setIfInBounds_toArray, List.set_cons_zero, List.set_cons_succ]
                refine wl_read _ (by rfl) (exec_lay (by rfl) (by rfl) (HQl.out _ hq)) ?_
                simp only [Act.put, List.setIfInBounds_toArray, List.set_cons_zero, List.set_cons_succ]
                refine wl_read _ (by rfl) (exec_img hi.len (by rfl) (by rfl) (HQi.out _ hq)) ?_
                simp only [Act.put, List.setIfInBounds_toArray, List.set_cons_zero, List.set_cons_succ]
                refine wl_read _ (by rfl) (by (go_simp; first | done | with_reducible rfl)) ?_
                simp only [Act.put, List.setIfInBounds_toArray, List.set_cons_zero, List.set_cons_succ]
                refine wl_callv (by rfl) (by (go_simp; first | done | with_reducible rfl)) (KO.out _ hq) (fun W hB => ?_)
                simp only [Act.put, List.setIfInBounds_toArray, List.set_cons_zero, List.set_cons_succ]
                have hq := HQ.out _ _ hq hB
                clear hB
                refine wl_read _ (by rfl) (by (go_simp; first | done | with_reducible rfl)) ?_
                simp only [Act.put, List.setIfInBounds_toArray, List.set_cons_zero, List.set_cons_succ]
                refine wl_read _ (by rfl) (by (go_simp; first | done | with_reducible rfl)) ?_
                simp only [Act.put, List.setIfInBounds_toArray, List.set_cons_zero, List.set_cons_succ]
                refine wl_read _ (by rfl) (by (go_simp; first | done | with_reducible rfl)) ?_
                simp only [Act.put, List.setIfInBounds_toArray, List.set_cons_zero, List.set_cons_succ]
                refine wl_read _ (by rfl) (by (go_simp; first | done | with_reducible rfl)) ?_
                simp only [Act.put, List.setIfInBounds_toArray, List.set_cons_zero, List.set_cons_succ]
                refine wl_read _ (by rfl) (by (go_simp; first | done | with_reducible rfl)) ?_
                simp only [Act.put, List.setIfInBounds_toArray, List.set_cons_zero, List.set_cons_succ]
                refine wl_read _ (by rfl) (by (go_simp; first | done | with_reducible rfl)) ?_
                simp only [Act.put, List.setIfInBounds_toArray, List.set_cons_zero, List.set_cons_succ]
                refine wl_read _ (by rfl) (by (go_simp; first | done | with_reducible rfl)) ?_
                simp only [Act.put, List.setIfInBounds_toArray, List.set_cons_zero, List.set_cons_succ]
                refine wl_read _ (by rfl) (by (go_simp; first | done | with_reducible rfl)) ?_
                simp only [Act.put, List.setIfInBounds_toArray, List.set_cons_zero, List.set_cons_succ]
                refine wl_read _ (by rfl) (by (go_simp; first | done | with_reducible rfl)) ?_
                simp only [Act.put, List.setIfInBounds_toArray, List.set_cons_zero, List.set_cons_succ]
                refine wl_read _ (by rfl) (by (go_simp; first | done | with_reducible rfl)) ?_
                simp only [Act.put, List.setIfInBounds_toArray, List.set_cons_zero, List.set_cons_succ]
                refine wl_read _ (by rfl) (by (go_simp; first | done | with_reducible rfl)) ?_
                simp only [Act.put, List.setIfInBounds_toArray, List.set_cons_zero, List.set_cons_succ]
                refine wl_read _ (by rfl) (by (go_simp; first | done | with_reducible rfl)) ?_
                simp only [Act.put, List.setIfInBounds_toArray, List.set_cons_zero, List.set_cons_succ]
                refine wl_skip (by kernel_rfl) ?_
                simp only [Act.put, List.setIfInBounds_toArray, List.set_cons_zero, List.set_cons_succ]
                refine wl_skip (by kernel_rfl) ?_
                simp only [Act.put, List.setIfInBounds_toArray, List.set_cons_zero, List.set_cons_succ]
                refine wl_skip (by kernel_rfl) ?_
                simp only [Act.put, List.setIfInBounds_toArray, List.set_cons_zero, List.set_cons_succ]
                refine wl_skip (by kernel_rfl) ?_
                simp only [Act.put, List.setIfInBounds_toArray, List.set_cons_zero, List.set_cons_succ]
                refine wl_skip (by kernel_rfl) ?_
                simp only [Act.put, List.setIfInBounds_toArray, List.set_cons_zero, List.set_cons_succ]
                refine wl_read _ (by rfl) (by (go_simp; first | done | with_reducible rfl)) ?_
                simp only [Act.put, List.setIfInBounds_toArray, List.set_cons_zero, List.set_cons_succ]
                refine wl_read _ (by rfl) (by (go_simp; first | done | with_reducible rfl)) ?_
                simp only [Act.put, List.setIfInBounds_toArray, List.set_cons_zero, List.set_cons_succ]
                refine wl_read _ (by rfl) (by (go_simp; first | done | with_reducible rfl)) ?_
                simp only [Act.put, List.setIfInBounds_toArray, List.set_cons_zero, List.set_cons_succ]
                refine wl_read _ (by rfl) (by (go_simp; first | done | with_reducible rfl)) ?_
                simp only [Act.put, List.setIfInBounds_toArray, List.set_cons_zero, List.set_cons_succ]
                refine wl_read _ (by rfl) (by (go_simp; first | done | with_reducible rfl)) ?_
                simp only [Act.put, List.setIfInBounds_toArray, List.set_cons_zero, List.set_cons_succ]
                refine wl_read _ (by rfl) (by (go_simp; first | done | with_reducible rfl)) ?_
                simp only [Act.put, List.setIfInBounds_toArray, List.set_cons_zero, List.set_cons_succ]
                refine wl_read _ (by rfl) (by (have c := hn0; go_simp; first | done | with_reducible rfl)) ?_
                simp only [Act.put, List.setIfInBounds_toArray, List.set_cons_zero, List.set_cons_succ]
                refine wl_read _ (by rfl) (by (go_simp; first | done | with_reducible rfl)) ?_
                simp only [Act.put, List.setIfInBounds_toArray, List.set_cons_zero, List.set_cons_succ]
                refine wl_read _ (by rfl) (by (go_simp; first | done | with_reducible rfl)) ?_
                simp only [Act.put, List.setIfInBounds_toArray, List.set_cons_zero, List.set_cons_succ]
                refine wl_read _ (by rfl) (by (go_simp; first | done | with_reducible rfl)) ?_
                simp only [Act.put, List.setIfInBounds_toArray, List.set_cons_zero, List.set_cons_succ]
                refine wl_read _ (by rfl) (by (go_simp; first | done | with_reducible rfl)) ?_
                simp only [Act.put, List.setIfInBounds_toArray, List.set_cons_zero, List.set_cons_succ]
                refine wl_read _ (by rfl) (by (have c := (HQl.out _ hq).cell_at 1 rfl; go_simp; first | done | with_reducible rfl)) ?_
                simp only [Act.put, List.setIfInBounds_toArray, List.set_cons_zero, List.set_cons_succ]
                refine wl_read _ (by rfl) (by (go_simp; first | done | with_reducible rfl)) ?_
                simp only [Act.put, List.setIfInBounds_toArray, List.set_cons_zero, List.set_cons_succ]
                refine wl_read _ (by rfl) (by (have c := hns; have d := hns2; go_simp; first | done | with_reducible rfl)) ?_
                simp only [Act.put, List.setIfInBounds_toArray, List.set_cons_zero, List.set_cons_succ]
                refine wl_read _ (by rfl) (by (go_simp; first | done | with_reducible rfl)) ?_
                simp only [Act.put, List.setIfInBounds_toArray, List.set_cons_zero, List.set_cons_succ]
                refine wl_read _ (by rfl) (by (go_simp; first | done | with_reducible rfl)) ?_
                simp only [Act.put, List.setIfInBounds_toArray, List.set_cons_zero, List.set_cons_succ]
                refine wl_read _ (by rfl) (exec_lay (by rfl) (by rfl) (HQl.out _ hq)) ?_
                simp only [Act.put, List.setIfInBounds_toArray, List.set_cons_zero, List.set_cons_succ]
                refine wl_read _ (by rfl) (exec_img hi.len (by rfl) (by rfl) (HQi.out _ hq)) ?_
                simp only [Act.put, List.setIfInBounds_toArray, List.set_cons_zero, List.set_cons_succ]
                refine wl_read _ (by rfl) (by (go_simp; first | done | with_reducible rfl)) ?_
                simp only [Act.put, List.setIfInBounds_toArray, List.set_cons_zero, List.set_cons_succ]
                refine wl_callv (by rfl) (by (go_simp; first | done | with_reducible rfl)) (KL.out _ hq) (fun W hB => ?_)
                simp only [Act.put, List.setIfInBounds_toArray, List.set_cons_zero, List.set_cons_succ]
                have hq := HQ.out _ _ hq hB
                clear hB
                refine wl_read _ (by rfl) (by (go_simp; first | done | with_reducible rfl)) ?_
                simp only [Act.put, List.setIfInBounds_toArray, List.set_cons_zero, List.set_cons_succ]
                refine wl_read _ (by rfl) (by (go_simp; first | done | with_reducible rfl)) ?_
                simp only [Act.put, List.setIfInBounds_toArray, List.set_cons_zero, List.set_cons_succ]
                refine wl_out ?_
                have HQ1 := Lib.hid hq
                clear hq
                go_wp2_with fail
                go_meet
                exact ⟨rfl, HQ1⟩
              · have hns2 : decide (((l.sigs.length : Nat) : Int) ≤ n) = false := decide_eq_false hns
                apply wp_region_lit
                refine wl_in ?_
                refine wl_read _ (by rfl) (by (go_simp; first | done | with_reducible rfl)) ?_
                simp only [Act.put, List.setIfInBounds_toArray, List.set_cons_zero, List.set_cons_succ]
                refine wl_read _ (by rfl) (by (go_simp; first | done | with_reducible rfl)) ?_
                simp only [Act.put, List.setIfInBounds_toArray, List.set_cons_zero, List.set_cons_succ]
                refine wl_read _ (by rfl) (by (go_simp; first | done | with_reducible rfl)) ?_
                simp only [Act.put, List.setIfInBounds_toArray, List.set_cons_zero, List.set_cons_succ]
                refine wl_read _ (by rfl) (by (go_simp; first | done | with_reducible rfl)) ?_
                simp only [Act.put, List.setIfInBounds_toArray, List.set_cons_zero, List.set_cons_succ]
                refine wl_read _ (by rfl) (by (go_simp; first | done | with_reducible rfl)) ?_
                simp only [Act.put, List.setIfInBounds_toArray, List.set_cons_zero, List.set_cons_succ]
                refine wl_read _ (by rfl) (by (go_simp; first | done | with_reducible rfl)) ?_
                simp only [Act.put, List.setIfInBounds_toArray, List.set_cons_zero, List.set_cons_succ]
                refine wl_read _ (by rfl) (by (go_simp; first | done | with_reducible rfl)) ?_
                simp only [Act.put, List.setIfInBounds_toArray, List.set_cons_zero, List.set_cons_succ]
                refine wl_read _ (by rfl) (by (have c := h24; have d := h242; go_simp; first | done | with_reducible rfl)) ?_
                simp only [Act.put, List.setIfInBounds_toArray, List.set_cons_zero, List.set_cons_succ]
                refine wl_read _ (by rfl) (by (go_simp; first | done | with_reducible rfl)) ?_
                simp only [Act.put, List.setIfInBounds_toArray, List.set_cons_zero, List.set_cons_succ]
                refine wl_read _ (by rfl) (by (go_simp; first | done | with_reducible rfl)) ?_
                simp only [Act.put, List.setIfInBounds_toArray, List.set_cons_zero, List.set_cons_succ]
                refine wl_read _ (by rfl) (exec_lay (by rfl) (by rfl) (HQl.out _ hq)) ?_
                simp only [Act.put, List.setIfInBounds_toArray, List.set_cons_zero, List.set_cons_succ]
                refine wl_read _ (by rfl) (exec_img hi.len (by rfl) (by rfl) (HQi.out _ hq)) ?_
                simp only [Act.put, List.setIfInBounds_toArray, List.set_cons_zero, List.set_cons_succ]
                refine wl_read _ (by rfl) (by (go_simp; first | done | with_reducible rfl)) ?_
                simp only [Act.put, List.setIfInBounds_toArray, List.set_cons_zero, List.set_cons_succ]
                refine wl_callv (by rfl) (by (go_simp; first | done | with_reducible rfl)) (KO.out _ hq) (fun W hB => ?_)
                simp only [Act.put, List.setIfInBounds_toArray, List.set_cons_zero, List.set_cons_succ]
                have hq := HQ.out _ _ hq hB
                clear hB
                refine wl_read _ (by rfl) (by (go_simp; first | done | with_reducible rfl)) ?_
                simp only [Act.put, List.setIfInBounds_toArray, List.set_cons_zero, List.set_cons_succ]
                refine wl_read _ (by rfl) (by (go_simp; first | done | with_reducible rfl)) ?_
                simp only [Act.put, List.setIfInBounds_toArray, List.set_cons_zero, List.set_cons_succ]
                refine wl_read _ (by rfl) (by (go_simp; first | done | with_reducible rfl)) ?_
                simp only [Act.put, List.setIfInBounds_toArray, List.set_cons_zero, List.set_cons_succ]
                refine wl_read _ (by rfl) (by (go_simp; first | done | with_reducible rfl)) ?_
                simp only [Act.put, List.setIfInBounds_toArray, List.set_cons_zero, List.set_cons_succ]
                refine wl_read _ (by rfl) (by (go_simp; first | done | with_reducible rfl)) ?_
                simp only [Act.put, List.setIfInBounds_toArray, List.set_cons_zero, List.set_cons_succ]
                refine wl_read _ (by rfl) (by (go_simp; first | done | with_reducible rfl)) ?_
                simp only [Act.put, List.setIfInBounds_toArray, List.set_cons_zero, List.set_cons_succ]
                refine wl_read _ (by rfl) (by (go_simp; first | done | with_reducible rfl)) ?_
                simp only [Act.put, List.setIfInBounds_toArray, List.set_cons_zero, List.set_cons_succ]
                refine wl_read _ (by rfl) (by (go_simp; first | done | with_reducible rfl)) ?_
                simp only [Act.put, List.setIfInBounds_toArray, List.set_cons_zero, List.set_cons_succ]
                refine wl_read _ (by rfl) (by (go_simp; first | done | with_reducible rfl)) ?_
                simp only [Act.put, List.setIfInBounds_toArray, List.set_cons_zero, List.set_cons_succ]
                refine wl_read _ (by rfl) (by (go_simp; first | done | with_reducible rfl)) ?_
                simp only [Act.put, List.setIfInBounds_toArray, List.set_cons_zero, List.set_cons_succ]
                refine wl_read _ (by rfl) (by (go_simp; first | done | with_reducible rfl)) ?_
                simp only [Act.put, List.setIfInBounds_toArray, List.set_cons_zero, List.set_cons_succ]
                refine wl_read _ (by rfl) (by (go_simp; first | done | with_reducible rfl)) ?_
                simp only [Act.put, List.setIfInBounds_toArray, List.set_cons_zero, List.set_cons_succ]
                refine wl_skip (by kernel_rfl) ?_
                simp only [Act.put, List.setIfInBounds_toArray, List.set_cons_zero, List.set_cons_succ]
                refine wl_skip (by kernel_rfl) ?_
                simp only [Act.put, List.setIfInBounds_toArray, List.set_cons_zero, List.set_cons_succ]
                refine wl_skip (by kernel_rfl) ?_
                simp only [Act.put, List.setIfInBounds_toArray, List.set_cons_zero, List.set_cons_succ]
                refine wl_skip (by kernel_rfl) ?_
                simp only [Act.put, List.setIfInBounds_toArray, List.set_cons_zero, List.set_cons_succ]
                refine wl_skip (by kernel_rfl) ?_
                simp only [Act.put, List.setIfInBounds_toArray, List.set_cons_zero, List.set_cons_succ]
                refine wl_read _ (by rfl) (by (go_simp; first | done | with_reducible rfl)) ?_
                simp only [Act.put, List.setIfInBounds_toArray, List.set_cons_zero, List.set_cons_succ]
                refine wl_read _ (by rfl) (by (go_simp; first | done | with_reducible rfl)) ?_
                simp only [Act.put, List.setIfInBounds_toArray, List.set_cons_zero, List.set_cons_succ]
                refine wl_read _ (by rfl) (by (go_simp; first | done | with_reducible rfl)) ?_
                simp only [Act.put, List.setIfInBounds_toArray, List.set_cons_zero, List.set_cons_succ]
                refine wl_read _ (by rfl) (by (go_simp; first | done | with_reducible rfl)) ?_
                simp only [Act.put, List.setIfInBounds_toArray, List.set_cons_zero, List.set_cons_succ]
                refine wl_read _ (by rfl) (by (go_simp; first | done | with_reducible rfl)) ?_
                simp only [Act.put, List.setIfInBounds_toArray, List.set_cons_zero, List.set_cons_succ]
                refine wl_read _ (by rfl) (by (go_simp; first | done | with_reducible rfl)) ?_
                simp only [Act.put, List.setIfInBounds_toArray, List.set_cons_zero, List.set_cons_succ]
                refine wl_read _ (by rfl) (by (have c := hn0; go_simp; first | done | with_reducible rfl)) ?_
                simp only [Act.put, List.setIfInBounds_toArray, List.set_cons_zero, List.set_cons_succ]
                refine wl_read _ (by rfl) (by (go_simp; first | done | with_reducible rfl)) ?_
                simp only [Act.put, List.setIfInBounds_toArray, List.set_cons_zero, List.set_cons_succ]
                refine wl_read _ (by rfl) (by (go_simp; first | done | with_reducible rfl)) ?_
                simp only [Act.put, List.setIfInBounds_toArray, List.set_cons_zero, List.set_cons_succ]
                refine wl_read _ (by rfl) (by (go_simp; first | done | with_reducible rfl)) ?_
                simp only [Act.put, List.setIfInBounds_toArray, List.set_cons_zero, List.set_cons_succ]
                refine wl_read _ (by rfl) (by (go_simp; first | done | with_reducible rfl)) ?_
                simp only [Act.put, List.setIfInBounds_toArray, List.set_cons_zero, List.set_cons_succ]
                refine wl_read _ (by rfl) (by (have c := (HQl.out _ hq).cell_at 1 rfl; go_simp; first | done | with_reducible rfl)) ?_
                simp only [Act.put, List.setIfInBounds_toArray, List.set_cons_zero, List.set_cons_succ]
                refine wl_read _ (by rfl) (by (go_simp; first | done | with_reducible rfl)) ?_
                simp only [Act.put, List.setIfInBounds_toArray, List.set_cons_zero, List.set_cons_succ]
                refine wl_read _ (by rfl) (by (have c := hns; have d := hns2; go_simp; first | done | with_reducible rfl)) ?_
                simp only [Act.put, List.setIfInBounds_toArray, List.set_cons_zero, List.set_cons_succ]
                refine wl_read _ (by rfl) (by (go_simp; first | done | with_reducible rfl)) ?_
                simp only [Act.put, List.setIfInBounds_toArray, List.set_cons_zero, List.set_cons_succ]
                refine wl_read _ (by rfl) (by (go_simp; first | done | with_reducible rfl)) ?_
                simp only [Act.put, List.setIfInBounds_toArray, List.set_cons_zero, List.set_cons_succ]
                refine wl_skip (by kernel_rfl) ?_
                simp only [Act.put, List.setIfInBounds_toArray, List.set_cons_zero, List.set_cons_succ]
                refine wl_skip (by kernel_rfl) ?_
                simp only [Act.put, List.setIfInBounds_toArray, List.set_cons_zero, List.set_cons_succ]
                refine wl_skip (by kernel_rfl) ?_
                simp only [Act.put, List.setIfInBounds_toArray, List.set_cons_zero, List.set_cons_succ]
                refine wl_skip (by kernel_rfl) ?_
                simp only [Act.put, List.setIfInBounds_toArray, List.set_cons_zero, List.set_cons_succ]
                refine wl_read _ (by rfl) (by (go_simp; first | done | with_reducible rfl)) ?_
                simp only [Act.put, List.setIfInBounds_toArray, List.set_cons_zero, List.set_cons_succ]
                refine wl_read _ (by rfl) (by (go_simp; first | done | with_reducible rfl)) ?_
                simp only [Act.put, List.setIfInBounds_toArray, List.set_cons_zero, List.set_cons_succ]
                refine wl_out ?_
                have HQ1 := Lib.hid hq
                clear hq
                go_wp2_with fail
                go_meet
                exact ⟨rfl, HQ1⟩
            · skip
              have e2 : ra = -1 := by rw [← HRA.out]; exact at_both (HBO.out rfl).2
              subst e2
              by_cases hns : ((l.sigs.length : Nat) : Int) ≤ n
              · have hns2 : decide (((l.sigs.length : Nat) : Int) ≤ n) = true := decide_eq_true hns
                have e3 : rl = false := by rw [← HRL.out]; exact lit_none (by omega) _
                subst e3
                apply wp_region_lit
                refine wl_in ?_
                refine wl_read _ (by rfl) (by (go_simp; first | done | with_reducible rfl)) ?_
                simp only [Act.put, List.setIfInBounds_toArray, List.set_cons_zero, List.set_cons_succ]
                refine wl_read _ (by rfl) (by (go_simp; first | done | with_reducible rfl)) ?_
                simp only [Act.put, List.setIfInBounds_toArray, List.set_cons_zero, List.set_cons_succ]
                refine wl_read _ (by rfl) (by (go_simp; first | done | with_reducible rfl)) ?_
                simp only [Act.put, List.setIfInBounds_toArray, List.set_cons_zero, List.set_cons_succ]
                refine wl_read _ (by rfl) (by (go_simp; first | done | with_reducible rfl)) ?_
                simp only [Act.put, List.setIfInBounds_toArray, List.set_cons_zero, List.set_cons_succ]
                refine wl_read _ (by rfl) (by (go_simp; first | done | with_reducible rfl)) ?_
                simp only [Act.put, List.setIfInBounds_toArray, List.set_cons_zero, List.set_cons_succ]
                refine wl_read _ (by rfl) (by (go_simp; first | done | with_reducible rfl)) ?_
                simp only [Act.put, List.setIfInBounds_toArray, List.set_cons_zero, List.set_cons_succ]
                refine wl_read _ (by rfl) (by (go_simp; first | done | with_reducible rfl)) ?_
                simp only [Act.put, List.setIfInBounds_toArray, List.set_cons_zero, List.set_cons_succ]
                refine wl_read _ (by rfl) (by (have c := h24; have d := h242; go_simp; first | done | with_reducible rfl)) ?_
                simp only [Act.put, List.setIfInBounds_toArray, List.set_cons_zero, List.set_cons_succ]
                refine wl_read _ (by rfl) (by (go_simp; first | done | with_reducible rfl)) ?_
                simp only [Act.put, List.setIfInBounds_toArray, List.set_cons_zero, List.set_cons_succ]
                refine wl_read _ (by rfl) (by (go_simp; first | done | with_reducible rfl)) ?_
                simp only [Act.put, List.setIfInBounds_toArray, List.set_cons_zero, List.set_cons_succ]
                refine wl_read _ (by rfl) (exec_lay (by rfl) (by rfl) (HQl.out _ hq)) ?_
                simp only [Act.put, List.setIfInBounds_toArray, List.set_cons_zero, List.set_cons_succ]
                refine wl_read _ (by rfl) (exec_img hi.len (by rfl) (by rfl) (HQi.out _ hq)) ?_
                simp only [Act.put, List.setIfInBounds_toArray, List.set_cons_zero, List.set_cons_succ]
                refine wl_read _ (by rfl) (by (go_simp; first | done | with_reducible rfl)) ?_
                simp only [Act.put, List.setIfInBounds_toArray, List.set_cons_zero, List.set_cons_succ]
                refine wl_callv (by rfl) (by (go_simp; first | done | with_reducible rfl)) (KO.out _ hq) (fun W hB => ?_)
                simp only [Act.put, List.setIfInBounds_toArray, List.set_cons_zero, List.set_cons_succ]
                have hq := HQ.out _ _ hq hB
                clear hB
                refine wl_read _ (by rfl) (by (go_simp; first | done | with_reducible rfl)) ?_
                simp only [Act.put, List.setIfInBounds_toArray, List.set_cons_zero, List.set_cons_succ]
                refine wl_read _ (by rfl) (by (go_simp; first | done | with_reducible rfl)) ?_
                simp only [Act.put, List.setIfInBounds_toArray, List.set_cons_zero, List.set_cons_succ]
                refine wl_read _ (by rfl) (by (go_simp; first | done | with_reducible rfl)) ?_
                simp only [Act.put, List.setIfInBounds_toArray, List.set_cons_zero, List.set_cons_succ]
                refine wl_read _ (by rfl) (by (go_simp; first | done | with_reducible rfl)) ?_
                simp only [Act.put, List.setIfInBounds_toArray, List.set_cons_zero, List.set_cons_succ]
                refine wl_read _ (by rfl) (by (go_simp; first | done | with_reducible rfl)) ?_
                simp only [Act.put, List.setIfInBounds_toArray, List.set_cons_zero, List.set_cons_succ]
                refine wl_read _ (by rfl) (by (go_simp; first | done | with_reducible rfl)) ?_
                simp only [Act.put, List.setIfInBounds_toArray, List.set_cons_zero, List.set_cons_succ]
                refine wl_read _ (by rfl) (by (go_simp; first | done | with_reducible rfl)) ?_
                simp only [Act.put, List.setIfInBounds_toArray, List.set_cons_zero, List.set_cons_succ]
                refine wl_read _ (by rfl) (by (go_simp; first | done | with_reducible rfl)) ?_
                simp only [Act.put, List.setIfInBounds_toArray, List.set_cons_zero, List.set_cons_succ]
                refine wl_read _ (by rfl) (by (go_simp; first | done | with_reducible rfl)) ?_
                simp only [Act.put, List.setIfInBounds_toArray, List.set_cons_zero, List.set_cons_succ]
                refine wl_read _ (by rfl) (by (go_simp; first | done | with_reducible rfl)) ?_
                simp only [Act.put, List.setIfInBounds_toArray, List.set_cons_zero, List.set_cons_succ]
                refine wl_read _ (by rfl) (by (go_simp; first | done | with_reducible rfl)) ?_
                simp only [Act.put, List.setIfInBounds_toArray, List.set_cons_zero, List.set_cons_succ]
                refine wl_read _ (by rfl) (by (go_simp; first | done | with_reducible rfl)) ?_
                simp only [Act.put, List.setIfInBounds_toArray, List.set_cons_zero, List.set_cons_succ]
                refine wl_read _ (by rfl) (exec_lay (by rfl) (by rfl) (HQl.out _ hq)) ?_
                simp only [Act.put, List.setIfInBounds_toArray, List.set_cons_zero, List.set_cons_succ]
                refine wl_read _ (by rfl) (exec_img hi.len (by rfl) (by rfl) (HQi.out _ hq)) ?_
                simp only [Act.put, List.setIfInBounds_toArray, List.set_cons_zero, List.set_cons_succ]
                refine wl_read _ (by rfl) (by (go_simp; first | done | with_reducible rfl)) ?_
                simp only [Act.put, List.setIfInBounds_toArray, List.set_cons_zero, List.set_cons_succ]
                refine wl_callv (by rfl) (by (go_simp; first | done | with_reducible rfl)) (KA.out _ hq) (fun W hB => ?_)
                simp only [Act.put, List.setIfInBounds_toArray, List.set_cons_zero, List.set_cons_succ]
                have hq := HQ.out _ _ hq hB
                clear hB
                refine wl_read _ (by rfl) (by (go_simp; first | done | with_reducible rfl)) ?_
                simp only [Act.put, List.setIfInBounds_toArray, List.set_cons_zero, List.set_cons_succ]
                refine wl_read _ (by rfl) (by (go_simp; first | done | with_reducible rfl)) ?_
                simp only [Act.put, List.setIfInBounds_toArray, List.set_cons_zero, List.set_cons_succ]
                refine wl_read _ (by rfl) (by (go_simp; first | done | with_reducible rfl)) ?_
                simp only [Act.put, List.setIfInBounds_toArray, List.set_cons_zero, List.set_cons_succ]
                refine wl_read _ (by rfl) (by (go_simp; first | done | with_reducible rfl)) ?_
                simp only [Act.put, List.setIfInBounds_toArray, List.set_cons_zero, List.set_cons_succ]
                refine wl_read _ (by rfl) (by (go_simp; first | done | with_reducible rfl)) ?_
                simp only [Act.put, List.setIfInBounds_toArray, List.set_cons_zero, List.set_cons_succ]
                refine wl_read _ (by rfl) (by (go_simp; first | done | with_reducible rfl)) ?_
                simp only [Act.put, List.setIfInBounds_toArray, List.set_cons_zero, List.set_cons_succ]
                refine wl_read _ (by rfl) (by (go_simp; first | done | with_reducible rfl)) ?_
                simp only [Act.put, List.setIfInBounds_toArray, List.set_cons_zero, List.set_cons_succ]
                refine wl_read _ (by rfl) (by (have c := hn0; go_simp; first | done | with_reducible rfl)) ?_
                simp only [Act.put, List.setIfInBounds_toArray, List.set_cons_zero, List.set_cons_succ]
                refine wl_read _ (by rfl) (by (go_simp; first | done | with_reducible rfl)) ?_
                simp only [Act.put, List.setIfInBounds_toArray, List.set_cons_zero, List.set_cons_succ]
                refine wl_read _ (by rfl) (by (go_simp; first | done | with_reducible rfl)) ?_
                simp only [Act.put, List.setIfInBounds_toArray, List.set_cons_zero, List.set_cons_succ]
                refine wl_read _ (by rfl) (by (go_simp; first | done | with_reducible rfl)) ?_
                simp only [Act.put, List.setIfInBounds_toArray, List.set_cons_zero, List.set_cons_succ]
                refine wl_read _ (by rfl) (by (go_simp; first | done | with_reducible rfl)) ?_
                simp only [Act.put, List.setIfInBounds_toArray, List.set_cons_zero, List.set_cons_succ]
                refine wl_read _ (by rfl) (by (have c := (HQl.out _ hq).cell_at 1 rfl; go_simp; first | done | with_reducible rfl)) ?_
                simp only [Act.put, List.setIfInBounds_toArray, List.set_cons_zero, List.set_cons_succ]
                refine wl_read _ (by rfl) (by (go_simp; first | done | with_reducible rfl)) ?_
                simp only [Act.put, List.setIfInBounds_toArray, List.set_cons_zero, List.set_cons_succ]
                refine wl_read _ (by rfl) (by (have c := hns; have d := hns2; go_simp; first | done | with_reducible rfl)) ?_
                simp only [Act.put, List.setIfInBounds_toArray, List.set_cons_zero, List.set_cons_succ]
                refine wl_read _ (by rfl) (by (go_simp; first | done | with_reducible rfl)) ?_
                simp only [Act.put, List.setIfInBounds_toArray, List.set_cons_zero, List.set_cons_succ]
                refine wl_read _ (by rfl) (by (go_simp; first | done | with_reducible rfl)) ?_
                simp only [Act.put, List.setIfInBounds_toArray, List.set_cons_zero, List.set_cons_succ]
                refine wl_read _ (by rfl) (exec_lay (by rfl) (by rfl) (HQl.out _ hq)) ?_
                simp only [Act.put, List.setIfInBounds_toArray, List.set_cons_zero, List.set_cons_succ]
                refine wl_read _ (by rfl) (exec_img hi.len (by rfl) (by rfl) (HQi.out _ hq)) ?_
                simp only [Act.put, List.setIfInBounds_toArray, List.set_cons_zero, List.set_cons_succ]
                refine wl_read _ (by rfl) (by (go_simp; first | done | with_reducible rfl)) ?_
                simp only [Act.put, List.setIfInBounds_toArray, List.set_cons_zero, List.set_cons_succ]
                refine wl_callv (by rfl) (by (go_simp; first | done | with_reducible rfl)) (KL.out _ hq) (fun W hB => ?_)
                simp only [Act.put, List.setIfInBounds_toArray, List.set_cons_zero, List.set_cons_succ]
                have hq := HQ.out _ _ hq hB
                clear hB
                refine wl_read _ (by rfl) (by (go_simp; first | done | with_reducible rfl)) ?_
                simp only [Act.put, List.setIfInBounds_toArray, List.set_cons_zero, List.set_cons_succ]
                refine wl_read _ (by rfl) (by (go_simp; first | done | with_reducible rfl)) ?_
                simp only [Act.put, List.setIfInBounds_toArray, List.set_cons_zero, List.set_cons_succ]
                refine wl_out ?_
                have HQ1 := Lib.hid hq
                clear hq
                go_wp2_with fail
                go_meet
                exact ⟨rfl, HQ1⟩
              · have hns2 : decide (((l.sigs.length : Nat) : Int) ≤ n) = false := decide_eq_false hns
                apply wp_region_lit
                refine wl_in ?_
                refine wl_read _ (by rfl) (by (go_simp; first | done | with_reducible rfl)) ?_
                simp only [Act.put, List.setIfInBounds_toArray, List.set_cons_zero, List.set_cons_succ]
                refine wl_read _ (by rfl) (by (go_simp; first | done | with_reducible rfl)) ?_
                simp only [Act.put, List.setIfInBounds_toArray, List.set_cons_zero, List.set_cons_succ]
                refine wl_read _ (by rfl) (by (go_simp; first | done | with_reducible rfl)) ?_
                simp only [Act.put, List.setIfInBounds_toArray, List.set_cons_zero, List.set_cons_succ]
                refine wl_read _ (by rfl) (by (go_simp; first | done | with_reducible rfl)) ?_
                simp only [Act.put, List.setIfInBounds_toArray, List.set_cons_zero, List.set_cons_succ]
                refine wl_read _ (by rfl) (by (go_simp; first | done | with_reducible rfl)) ?_
                simp only [Act.put, List.setIfInBounds_toArray, List.set_cons_zero, List.set_cons_succ]
                refine wl_read _ (by rfl) (by (go_simp; first | done | with_reducible rfl)) ?_
                simp only [Act.put, List.setIfInBounds_toArray, List.set_cons_zero, List.set_cons_succ]
                refine wl_read _ (by rfl) (by (go_simp; first | done | with_reducible rfl)) ?_
                simp only [Act.put, List.setIfInBounds_toArray, List.set_cons_zero, List.set_cons_succ]
                refine wl_read _ (by rfl) (by (have c := h24; have d := h242; go_simp; first | done | with_reducible rfl)) ?_
                simp only [Act.put, List.setIfInBounds_toArray, List.set_cons_zero, List.set_cons_succ]
                refine wl_read _ (by rfl) (by (go_simp; first | done | with_reducible rfl)) ?_
                simp only [Act.put, List.setIfInBounds_toArray, List.set_cons_zero, List.set_cons_succ]
                refine wl_read _ (by rfl) (by (go_simp; first | done | with_reducible rfl)) ?_
                simp only [Act.put, List.setIfInBounds_toArray, List.set_cons_zero, List.set_cons_succ]
                refine wl_read _ (by rfl) (exec_lay (by rfl) (by rfl) (HQl.out _ hq)) ?_
                simp only [Act.put, List.setIfInBounds_toArray, List.set_cons_zero, List.set_cons_succ]
                refine wl_read _ (by rfl) (exec_img hi.len (by rfl) (by rfl) (HQi.out _ hq)) ?_
                simp only [Act.put, List.setIfInBounds_toArray, List.set_cons_zero, List.set_cons_succ]
                refine wl_read _ (by rfl) (by (go_simp; first | done | with_reducible rfl)) ?_
                simp only [Act.put, List.setIfInBounds_toArray, List.set_cons_zero, List.set_cons_succ]
                refine wl_callv (by rfl) (by (go_simp; first | done | with_reducible rfl)) (KO.out _ hq) (fun W hB => ?_)
                simp only [Act.put, List.setIfInBounds_toArray, List.set_cons_zero, List.set_cons_succ]
                have hq := HQ.out _ _ hq hB
                clear hB
                refine wl_read _ (by rfl) (by (go_simp; first | done | with_reducible rfl)) ?_
                simp only [Act.put, List.setIfInBounds_toArray, List.set_cons_zero, List.set_cons_succ]
                refine wl_read _ (by rfl) (by (go_simp; first | done | with_reducible rfl)) ?_
                simp only [Act.put, List.setIfInBounds_toArray, List.set_cons_zero, List.set_cons_succ]
                refine wl_read _ (by rfl) (by (go_simp; first | done | with_reducible rfl)) ?_
                simp only [Act.put, List.setIfInBounds_toArray, List.set_cons_zero, List.set_cons_succ]
                refine wl_read _ (by rfl) (by (go_simp; first | done | with_reducible rfl)) ?_
                simp only [Act.put, List.setIfInBounds_toArray, List.set_cons_zero, List.set_cons_succ]
                refine wl_read _ (by rfl) (by (go_simp; first | done | with_reducible rfl)) ?_
                simp only [Act.put, List.setIfInBounds_toArray, List.set_cons_zero, List.set_cons_succ]
                refine wl_read _ (by rfl) (by (go_simp; first | done | with_reducible rfl)) ?_
                simp only [Act.put, List.setIfInBounds_toArray, List.set_cons_zero, List.set_cons_succ]
                refine wl_read _ (by rfl) (by (go_simp; first | done | with_reducible rfl)) ?_
                simp only [Act.put, List.setIfInBounds_toArray, List.set_cons_zero, List.set_cons_succ]
                refine wl_read _ (by rfl) (by (go_simp; first | done | with_reducible rfl)) ?_
                simp only [Act.put, List.setIfInBounds_toArray, List.set_cons_zero, List.set_cons_succ]
                refine wl_read _ (by rfl) (by (go_simp; first | done | with_reducible rfl)) ?_
                simp only [Act.put, List.setIfInBounds_toArray, List.set_cons_zero, List.set_cons_succ]
                refine wl_read _ (by rfl) (by (go_simp; first | done | with_reducible rfl)) ?_
                simp only [Act.put, List.setIfInBounds_toArray, List.set_cons_zero, List.set_cons_succ]
                refine wl_read _ (by rfl) (by (go_simp; first | done | with_reducible rfl)) ?_
                simp only [Act.put, List.setIfInBounds_toArray, List.set_cons_zero, List.set_cons_succ]
                refine wl_read _ (by rfl) (by (go_simp; first | done | with_reducible rfl)) ?_
                simp only [Act.put, List.setIfInBounds_toArray, List.set_cons_zero, List.set_cons_succ]
                refine wl_read _ (by rfl) (exec_lay (by rfl) (by rfl) (HQl.out _ hq)) ?_
                simp only [Act.put, List.setIfInBounds_toArray, List.set_cons_zero, List.set_cons_succ]
                refine wl_read _ (by rfl) (exec_img hi.len (by rfl) (by rfl) (HQi.out _ hq)) ?_
                simp only [Act.put, List.setIfInBounds_toArray, List.set_cons_zero, List.set_cons_succ]
                refine wl_read _ (by rfl) (by (go_simp; first | done | with_reducible rfl)) ?_
                simp only [Act.put, List.setIfInBounds_toArray, List.set_cons_zero, List.set_cons_succ]
                refine wl_callv (by rfl) (by (go_simp; first | done | with_reducible rfl)) (KA.out _ hq) (fun W hB => ?_)
                simp only [Act.put, List.setIfInBounds_toArray, List.set_cons_zero, List.set_cons_succ]
                have hq := HQ.out _ _ hq hB
                clear hB
                refine wl_read _ (by rfl) (by (go_simp; first | done | with_reducible rfl)) ?_
                simp only [Act.put, List.setIfInBounds_toArray, List.set_cons_zero, List.set_cons_succ]
                refine wl_read _ (by rfl) (by (go_simp; first | done | with_reducible rfl)) ?_
                simp only [Act.put, List.setIfInBounds_toArray, List.set_cons_zero, List.set_cons_succ]
                refine wl_read _ (by rfl) (by (go_simp; first | done | with_reducible rfl)) ?_
                simp only [Act.put, List.setIfInBounds_toArray, List.set_cons_zero, List.set_cons_succ]
                refine wl_read _ (by rfl) (by (go_simp; first | done | with_reducible rfl)) ?_
                simp only [Act.put, List.setIfInBounds_toArray, List.set_cons_zero, List.set_cons_succ]
                refine wl_read _ (by rfl) (by (go_simp; first | done | with_reducible rfl)) ?_
                simp only [Act.put, List.setIfInBounds_toArray, List.set_cons_zero, List.set_cons_succ]
                refine wl_read _ (by rfl) (by (go_simp; first | done | with_reducible rfl)) ?_
                simp only [Act.put, List.setIfInBounds_toArray, List.set_cons_zero, List.set_cons_succ]
                refine wl_read _ (by rfl) (by (go_simp; first | done | with_reducible rfl)) ?_
                simp only [Act.put, List.setIfInBounds_toArray, List.set_cons_zero, List.set_cons_succ]
                refine wl_read _ (by rfl) (by (have c := hn0; go_simp; first | done | with_reducible rfl)) ?_
                simp only [Act.put, List.setIfInBounds_toArray, List.set_cons_zero, List.set_cons_succ]
                refine wl_read _ (by rfl) (by (go_simp; first | done | with_reducible rfl)) ?_
                simp only [Act.put, List.setIfInBounds_toArray, List.set_cons_zero, List.set_cons_succ]
                refine wl_read _ (by rfl) (by (go_simp; first | done | with_reducible rfl)) ?_
                simp only [Act.put, List.setIfInBounds_toArray, List.set_cons_zero, List.set_cons_succ]
                refine wl_read _ (by rfl) (by (go_simp; first | done | with_reducible rfl)) ?_
                simp only [Act.put, List.setIfInBounds_toArray, List.set_cons_zero, List.set_cons_succ]
                refine wl_read _ (by rfl) (by (go_simp; first | done | with_reducible rfl)) ?_
                simp only [Act.put, List.setIfInBounds_toArray, List.set_cons_zero, List.set_cons_succ]
                refine wl_read _ (by rfl) (by (have c := (HQl.out _ hq).cell_at 1 rfl; go_simp; first | done | with_reducible rfl)) ?_
                simp only [Act.put, List.setIfInBounds_toArray, List.set_cons_zero, List.set_cons_succ]
                refine wl_read _ (by rfl) (by (go_simp; first | done | with_reducible rfl)) ?_
                simp only [Act.put, List.setIfInBounds_toArray, List.set_cons_zero, List.set_cons_succ]
                refine wl_read _ (by rfl) (by (have c := hns; have d := hns2; go_simp; first | done | with_reducible rfl)) ?_
                simp only [Act.put, List.setIfInBounds_toArray, List.set_cons_zero, List.set_cons_succ]
                refine wl_read _ (by rfl) (by (go_simp; first | done | with_reducible rfl)) ?_
                simp only [Act.put, List.setIfInBounds_toArray, List.set_cons_zero, List.set_cons_succ]
                refine wl_read _ (by rfl) (by (go_simp; first | done | with_reducible rfl)) ?_
                simp only [Act.put, List.setIfInBounds_toArray, List.set_cons_zero, List.set_cons_succ]
                refine wl_skip (by kernel_rfl) ?_
                simp only [Act.put, List.setIfInBounds_toArray, List.set_cons_zero, List.set_cons_succ]
                refine wl_skip (by kernel_rfl) ?_
                simp only [Act.put, List.setIfInBounds_toArray, List.set_cons_zero, List.set_cons_succ]
                refine wl_skip (by kernel_rfl) ?_
                simp only [Act.put, List.setIfInBounds_toArray, List.set_cons_zero, List.set_cons_succ]
                refine wl_skip (by kernel_rfl) ?_
                simp only [Act.put, List.setIfInBounds_toArray, List.set_cons_zero, List.set_cons_succ]
                refine wl_read _ (by rfl) (by (go_simp; first | done | with_reducible rfl)) ?_
                simp only [Act.put, List.setIfInBounds_toArray, List.set_cons_zero, List.set_cons_succ]
                refine wl_read _ (by rfl) (by (go_simp; first | done | with_reducible rfl)) ?_
                simp only [Act.put, List.setIfInBounds_toArray, List.set_cons_zero, List.set_cons_succ]
                refine wl_out ?_
                have HQ1 := Lib.hid hq
                clear hq
                go_wp2_with fail
                go_meet
                exact ⟨rfl, HQ1⟩
          · have h242 : decide ((24 : Int) ≤ n) = false := decide_eq_false h24
            cases bo
            · skip
              by_cases hns : ((l.sigs.length : Nat) : Int) ≤ n
              · have hns2 : decide (((l.sigs.length : Nat) : Int) ≤ n) = true := decide_eq_true hns
                have e3 : rl = false := by rw [← HRL.out]; exact lit_none (by omega) _
                subst e3
                apply wp_region_lit
                refine wl_in ?_
                refine wl_read _ (by rfl) (by (go_simp; first | done | with_reducible rfl)) ?_
                simp only [Act.put, List.setIfInBounds_toArray, List.set_cons_zero, List.set_cons_succ]
                refine wl_read _ (by rfl) (by (go_simp; first | done | with_reducible rfl)) ?_
                simp only [Act.put, List.setIfInBounds_toArray, List.set_cons_zero, List.set_cons_succ]
                refine wl_read _ (by rfl) (by (go_simp; first | done | with_reducible rfl)) ?_
                simp only [Act.put, List.setIfInBounds_toArray, List.set_cons_zero, List.set_cons_succ]
                refine wl_read _ (by rfl) (by (go_simp; first | done | with_reducible rfl)) ?_
                simp only [Act.put, List.setIfInBounds_toArray, List.set_cons_zero, List.set_cons_succ]
                refine wl_read _ (by rfl) (by (go_simp; first | done | with_reducible rfl)) ?_
                simp only [Act.put, List.setIfInBounds_toArray, List.set_cons_zero, List.set_cons_succ]
                refine wl_read _ (by rfl) (by (go_simp; first | done | with_reducible rfl)) ?_
                simp only [Act.put, List.setIfInBounds_toArray, List.set_cons_zero, List.set_cons_succ]
                refine wl_read _ (by rfl) (by (go_simp; first | done | with_reducible rfl)) ?_
                simp only [Act.put, List.setIfInBounds_toArray, List.set_cons_zero, List.set_cons_succ]
                refine wl_read _ (by rfl) (by (have c := h24; have d := h242; go_simp; first | done | with_reducible rfl)) ?_
                simp only [Act.put, List.setIfInBounds_toArray, List.set_cons_zero, List.set_cons_succ]
                refine wl_read _ (by rfl) (by (go_simp; first | done | with_reducible rfl)) ?_
                simp only [Act.put, List.setIfInBounds_toArray, List.set_cons_zero, List.set_cons_succ]
                refine wl_read _ (by rfl) (by (go_simp; first | done | with_reducible rfl)) ?_
                simp only [Act.put, List.setIfInBounds_toArray, List.set_cons_zero, List.set_cons_succ]
                refine wl_skip (by kernel_rfl) ?_
                simp only [Act.put, List.setIfInBounds_toArray, List.set_cons_zero, List.set_cons_succ]
                refine wl_skip (by kernel_rfl) ?_
                simp only [Act.put, List.setIfInBounds_toArray, List.set_cons_zero, List.set_cons_succ]
                refine wl_skip (by kernel_rfl) ?_
                simp only [Act.put, List.setIfInBounds_toArray, List.set_cons_zero, List.set_cons_succ]
                refine wl_skip (by kernel_rfl) ?_
                simp only [Act.put, List.setIfInBounds_toArray, List.set_cons_zero, List.set_cons_succ]
                refine wl_skip (by kernel_rfl) ?_
                simp only [Act.put, List.setIfInBounds_toArray, List.set_cons_zero, List.set_cons_succ]
                refine wl_read _ (by rfl) (by (go_simp; first | done | with_reducible rfl)) ?_
                simp only [Act.put, List.setIfInBounds_toArray, List.set_cons_zero, List.set_cons_succ]
                refine wl_read _ (by rfl) (by (go_simp; first | done | with_reducible rfl)) ?_
                simp only [Act.put, List.setIfInBounds_toArray, List.set_cons_zero, List.set_cons_succ]
                refine wl_read _ (by rfl) (by (go_simp; first | done | with_reducible rfl)) ?_
                simp only [Act.put, List.setIfInBounds_toArray, List.set_cons_zero, List.set_cons_succ]
                refine wl_read _ (by rfl) (by (go_simp; first | done | with_reducible rfl)) ?_
                simp only [Act.put, List.setIfInBounds_toArray, List.set_cons_zero, List.set_cons_succ]
                refine wl_read _ (by rfl) (by (go_simp; first | done | with_reducible rfl)) ?_
                simp only [Act.put, List.setIfInBounds_toArray, List.set_cons_zero, List.set_cons_succ]
                refine wl_read _ (by rfl) (by (go_simp; first | done | with_reducible rfl)) ?_
                simp only [Act.put, List.setIfInBounds_toArray, List.set_cons_zero, List.set_cons_succ]
                refine wl_read _ (by rfl) (by (go_simp; first | done | with_reducible rfl)) ?_
                simp only [Act.put, List.setIfInBounds_toArray, List.set_cons_zero, List.set_cons_succ]
                refine wl_read _ (by rfl) (by (go_simp; first | done | with_reducible rfl)) ?_
                simp only [Act.put, List.setIfInBounds_toArray, List.set_cons_zero, List.set_cons_succ]
                refine wl_read _ (by rfl) (by (go_simp; first | done | with_reducible rfl)) ?_
                simp only [Act.put, List.setIfInBounds_toArray, List.set_cons_zero, List.set_cons_succ]
                refine wl_read _ (by rfl) (by (go_simp; first | done | with_reducible rfl)) ?_
                simp only [Act.put, List.setIfInBounds_toArray, List.set_cons_zero, List.set_cons_succ]
                refine wl_read _ (by rfl) (by (go_simp; first | done | with_reducible rfl)) ?_
                simp only [Act.put, List.setIfInBounds_toArray, List.set_cons_zero, List.set_cons_succ]
                refine wl_skip (by kernel_rfl) ?_
                simp only [Act.put, List.setIfInBounds_toArray, List.set_cons_zero, List.set_cons_succ]
                refine wl_skip (by kernel_rfl) ?_
                simp only [Act.put, List.setIfInBounds_toArray, List.set_cons_zero, List.set_cons_succ]
                refine wl_skip (by kernel_rfl) ?_
                simp only [Act.put, List.setIfInBounds_toArray, List.set_cons_zero, List.set_cons_succ]
                refine wl_skip (by kernel_rfl) ?_
                simp only [Act.put, List.setIfInBounds_toArray, List.set_cons_zero, List.set_cons_succ]
                refine wl_skip (by kernel_rfl) ?_
                simp only [Act.put, List.setIfInBounds_toArray, List.set_cons_zero, List.set_cons_succ]
                refine wl_read _ (by rfl) (by (go_simp; first | done | with_reducible rfl)) ?_
                simp only [Act.put, List.setIfInBounds_toArray, List.set_cons_zero, List.set_cons_succ]
                refine wl_read _ (by rfl) (by (go_simp; first | done | with_reducible rfl)) ?_
                simp only [Act.put, List.setIfInBounds_toArray, List.set_cons_zero, List.set_cons_succ]
                refine wl_read _ (by rfl) (by (go_simp; first | done | with_reducible rfl)) ?_
                simp only [Act.put, List.setIfInBounds_toArray, List.set_cons_zero, List.set_cons_succ]
                refine wl_read _ (by rfl) (by (go_simp; first | done | with_reducible rfl)) ?_
                simp only [Act.put, List.setIfInBounds_toArray, List.set_cons_zero, List.set_cons_succ]
                refine wl_read _ (by rfl) (by (go_simp; first | done | with_reducible rfl)) ?_
                simp only [Act.put, List.setIfInBounds_toArray, List.set_cons_zero, List.set_cons_succ]
                refine wl_read _ (by rfl) (by (go_simp; first | done | with_reducible rfl)) ?_
                simp only [Act.put, List.setIfInBounds_toArray, List.set_cons_zero, List.set_cons_succ]
                refine wl_read _ (by rfl) (by (have c := hn0; go_simp; first | done | with_reducible rfl)) ?_
                simp only [Act.put, List.setIfInBounds_toArray, List.set_cons_zero, List.set_cons_succ]
                refine wl_read _ (by rfl) (by (go_simp; first | done | with_reducible rfl)) ?_
                simp only [Act.put, List.setIfInBounds_toArray, List.set_cons_zero, List.set_cons_succ]
                refine wl_read _ (by rfl) (by (go_simp; first | done | with_reducible rfl)) ?_
                simp only [Act.put, List.setIfInBounds_toArray, List.set_cons_zero, List.set_cons_succ]
                refine wl_read _ (by rfl) (by (go_simp; first | done | with_reducible rfl)) ?_
                simp only [Act.put, List.setIfInBounds_toArray, List.set_cons_zero, List.set_cons_succ]
                refine wl_read _ (by rfl) (by (go_simp; first | done | with_reducible rfl)) ?_
                simp only [Act.put, List.setIfInBounds_toArray, List.set_cons_zero, List.set_cons_succ]
                refine wl_read _ (by rfl) (by (have c := (HQl.out _ hq).cell_at 1 rfl; go_simp; first | done | with_reducible rfl)) ?_
                simp only [Act.put, List.setIfInBounds_toArray, List.set_cons_zero, List.set_cons_succ]
                refine wl_read _ (by rfl) (by (go_simp; first | done | with_reducible rfl)) ?_
                simp only [Act.put, List.setIfInBounds_toArray, List.set_cons_zero, List.set_cons_succ]
                refine wl_read _ (by rfl) (by (have c := hns; have d := hns2; go_simp; first | done | with_reducible rfl)) ?_
                simp only [Act.put, List.setIfInBounds_toArray, List.set_cons_zero, List.set_cons_succ]
                refine wl_read _ (by rfl) (by (go_simp; first | done | with_reducible rfl)) ?_
                simp only [Act.put, List.setIfInBounds_toArray, List.set_cons_zero, List.set_cons_succ]
                refine wl_read _ (by rfl) (by (go_simp; first | done | with_reducible rfl)) ?_
                simp only [Act.put, List.setIfInBounds_toArray, List.set_cons_zero, List.set_cons_succ]
                refine wl_read _ (by rfl) (exec_lay (by rfl) (by rfl) (HQl.out _ hq)) ?_
                simp only [Act.put, List.setIfInBounds_toArray, List.set_cons_zero, List.set_cons_succ]
                refine wl_read _ (by rfl) (exec_img hi.len (by rfl) (by rfl) (HQi.out _ hq)) ?_
                simp only [Act.put, List.setIfInBounds_toArray, List.set_cons_zero, List.set_cons_succ]
                refine wl_read _ (by rfl) (by (go_simp; first | done | with_reducible rfl)) ?_
                simp only [Act.put, List.setIfInBounds_toArray, List.set_cons_zero, List.set_cons_succ]
                refine wl_callv (by rfl) (by (go_simp; first | done | with_reducible rfl)) (KL.out _ hq) (fun W hB => ?_)
                simp only [Act.put, List.setIfInBounds_toArray, List.set_cons_zero, List.set_cons_succ]
                have hq := HQ.out _ _ hq hB
                clear hB
                refine wl_read _ (by rfl) (by (go_simp; first | done | with_reducible rfl)) ?_
                simp only [Act.put, List.setIfInBounds_toArray, List.set_cons_zero, List.set_cons_succ]
                refine wl_read _ (by rfl) (by (go_simp; first | done | with_reducible rfl)) ?_
                simp only [Act.put, List.setIfInBounds_toArray, List.set_cons_zero, List.set_cons_succ]
                refine wl_out ?_
                have HQ1 := Lib.hid hq
                clear hq
                go_wp2_with fail
                go_meet
                exact ⟨rfl, HQ1⟩
              · have hns2 : decide (((l.sigs.length : Nat) : Int) ≤ n) = false := decide_eq_false hns
                apply wp_region_lit
                refine wl_in ?_
                refine wl_read _ (by rfl) (by (go_simp; first | done | with_reducible rfl)) ?_
                simp only [Act.put, List.setIfInBounds_toArray, List.set_cons_zero, List.set_cons_succ]
                refine wl_read _ (by rfl) (by (go_simp; first | done | with_reducible rfl)) ?_
                simp only [Act.put, List.setIfInBounds_toArray, List.set_cons_zero, List.set_cons_succ]
                refine wl_read _ (by rfl) (by (go_simp; first | done | with_reducible rfl)) ?_
                simp only [Act.put, List.setIfInBounds_toArray, List.set_cons_zero, List.set_cons_succ]
                refine wl_read _ (by rfl) (by (go_simp; first | done | with_reducible rfl)) ?_
                simp only [Act.put, List.setIfInBounds_toArray, List.set_cons_zero, List.set_cons_succ]
                refine wl_read _ (by rfl) (by (go_simp; first | done | with_reducible rfl)) ?_
                simp only [Act.put, List.setIfInBounds_toArray, List.set_cons_zero, List.set_cons_succ]
                refine wl_read _ (by rfl) (by (go_simp; first | done | with_reducible rfl)) ?_
                simp only [Act.put, List.setIfInBounds_toArray, List.set_cons_zero, List.set_cons_succ]
                refine wl_read _ (by rfl) (by (go_simp; first | done | with_reducible rfl)) ?_
                simp only [Act.put, List.setIfInBounds_toArray, List.set_cons_zero, List.set_cons_succ]
                refine wl_read _ (by rfl) (by (have c := h24; have d := h242; go_simp; first | done | with_reducible rfl)) ?_
                simp only [Act.put, List.setIfInBounds_toArray, List.set_cons_zero, List.set_cons_succ]
                refine wl_read _ (by rfl) (by (go_simp; first | done | with_reducible rfl)) ?_
                simp only [Act.put, List.setIfInBounds_toArray, List.set_cons_zero, List.set_cons_succ]
                refine wl_read _ (by rfl) (by (go_simp; first | done | with_reducible rfl)) ?_
                simp only [Act.put, List.setIfInBounds_toArray, List.set_cons_zero, List.set_cons_succ]
                refine wl_skip (by kernel_rfl) ?_
                simp only [Act.put, List.setIfInBounds_toArray, List.set_cons_zero, List.set_cons_succ]
                refine wl_skip (by kernel_rfl) ?_
                simp only [Act.put, List.setIfInBounds_toArray, List.set_cons_zero, List.set_cons_succ]
                refine wl_skip (by kernel_rfl) ?_
                simp only [Act.put, List.setIfInBounds_toArray, List.set_cons_zero, List.set_cons_succ]
                refine wl_skip (by kernel_rfl) ?_
                simp only [Act.put, List.setIfInBounds_toArray, List.set_cons_zero, List.set_cons_succ]
                refine wl_skip (by kernel_rfl) ?_
                simp only [Act.put, List.setIfInBounds_toArray, List.set_cons_zero, List.set_cons_succ]
                refine wl_read _ (by rfl) (by (go_simp; first | done | with_reducible rfl)) ?_
                simp only [Act.put, List.setIfInBounds_toArray, List.set_cons_zero, List.set_cons_succ]
                refine wl_read _ (by rfl) (by (go_simp; first | done | with_reducible rfl)) ?_
                simp only [Act.put, List.setIfInBounds_toArray, List.set_cons_zero, List.set_cons_succ]
                refine wl_read _ (by rfl) (by (go_simp; first | done | with_reducible rfl)) ?_
                simp only [Act.put, List.setIfInBounds_toArray, List.set_cons_zero, List.set_cons_succ]
                refine wl_read _ (by rfl) (by (go_simp; first | done | with_reducible rfl)) ?_
                simp only [Act.put, List.setIfInBounds_toArray, List.set_cons_zero, List.set_cons_succ]
                refine wl_read _ (by rfl) (by (go_simp; first | done | with_reducible rfl)) ?_
                simp only [Act.put, List.setIfInBounds_toArray, List.set_cons_zero, List.set_cons_succ]
                refine wl_read _ (by rfl) (by (go_simp; first | done | with_reducible rfl)) ?_
                simp only [Act.put, List.setIfInBounds_toArray, List.set_cons_zero, List.set_cons_succ]
                refine wl_read _ (by rfl) (by (go_simp; first | done | with_reducible rfl)) ?_
                simp only [Act.put, List.setIfInBounds_toArray, List.set_cons_zero, List.set_cons_succ]
                refine wl_read _ (by rfl) (by (go_simp; first | done | with_reducible rfl)) ?_
                simp only [Act.put, List.setIfInBounds_toArray, List.set_cons_zero, List.set_cons_succ]
                refine wl_read _ (by rfl) (by (go_simp; first | done | with_reducible rfl)) ?_
                simp only [Act.put, List.setIfInBounds_toArray, List.set_cons_zero, List.set_cons_succ]
                refine wl_read _ (by rfl) (by (go_simp; first | done | with_reducible rfl)) ?_
                simp only [Act.put, List.setIfInBounds_toArray, List.set_cons_zero, List.set_cons_succ]
                refine wl_read _ (by rfl) (by (go_simp; first | done | with_reducible rfl)) ?_
                simp only [Act.put, List.setIfInBounds_toArray, List.set_cons_zero, List.set_cons_succ]
                refine wl_skip (by kernel_rfl) ?_
                simp only [Act.put, List.setIfInBounds_toArray, List.set_cons_zero, List.set_cons_succ]
                refine wl_skip (by kernel_rfl) ?_
                simp only [Act.put, List.setIfInBounds_toArray, List.set_cons_zero, List.set_cons_succ]
                refine wl_skip (by kernel_rfl) ?_
                simp only [Act.put, List.setIfInBounds_toArray, List.set_cons_zero, List.set_cons_succ]
                refine wl_skip (by kernel_rfl) ?_
                simp only [Act.put, List.setIfInBounds_toArray, List.set_cons_zero, List.set_cons_succ]
                refine wl_skip (by kernel_rfl) ?_
                simp only [Act.put, List.setIfInBounds_toArray, List.set_cons_zero, List.set_cons_succ]
                refine wl_read _ (by rfl) (by (go_simp; first | done | with_reducible rfl)) ?_
                simp only [Act.put, List.setIfInBounds_toArray, List.set_cons_zero, List.set_cons_succ]
                refine wl_read _ (by rfl) (by (go_simp; first | done | with_reducible rfl)) ?_
                simp only [Act.put, List.setIfInBounds_toArray, List.set_cons_zero, List.set_cons_succ]
                refine wl_read _ (by rfl) (by (go_simp; first | done | with_reducible rfl)) ?_
                simp only [Act.put, List.setIfInBounds_toArray, List.set_cons_zero, List.set_cons_succ]
                refine wl_read _ (by rfl) (by (go_simp; first | done | with_reducible rfl)) ?_
                simp only [Act.put, List.setIfInBounds_toArray, List.set_cons_zero, List.set_cons_succ]
                refine wl_read _ (by rfl) (by (go_simp; first | done | with_reducible rfl)) ?_
                simp only [Act.put, List.setIfInBounds_toArray, List.set_cons_zero, List.set_cons_succ]
                refine wl_read _ (by rfl) (by (go_simp; first | done | with_reducible rfl)) ?_
                simp only [Act.put, List.setIfInBounds_toArray, List.set_cons_zero, List.set_cons_succ]
                refine wl_read _ (by rfl) (by (have c := hn0; go_simp; first | done | with_reducible rfl)) ?_
                simp only [Act.put, List.setIfInBounds_toArray, List.set_cons_zero, List.set_cons_succ]
                refine wl_read _ (by rfl) (by (go_simp; first | done | with_reducible rfl)) ?_
                simp only [Act.put, List.setIfInBounds_toArray, List.set_cons_zero, List.set_cons_succ]
                refine wl_read _ (by rfl) (by (go_simp; first | done | with_reducible rfl)) ?_
                simp only [Act.put, List.setIfInBounds_toArray, List.set_cons_zero, List.set_cons_succ]
                refine wl_read _ (by rfl) (by (go_simp; first | done | with_reducible rfl)) ?_
                simp only [Act.put, List.setIfInBounds_toArray, List.set_cons_zero, List.set_cons_succ]
                refine wl_read _ (by rfl) (by (go_simp; first | done | with_reducible rfl)) ?_
                simp only [Act.put, List.setIfInBounds_toArray, List.set_cons_zero, List.set_cons_succ]
                refine wl_read _ (by rfl) (by (have c := (HQl.out _ hq).cell_at 1 rfl; go_simp; first | done | with_reducible rfl)) ?_
                simp only [Act.put, List.setIfInBounds_toArray, List.set_cons_zero, List.set_cons_succ]
                refine wl_read _ (by rfl) (by (go_simp; first | done | with_reducible rfl)) ?_
                simp only [Act.put, List.setIfInBounds_toArray, List.set_cons_zero, List.set_cons_succ]
                refine wl_read _ (by rfl) (by (have c := hns; have d := hns2; go_simp; first | done | with_reducible rfl)) ?_
                simp only [Act.put, List.setIfInBounds_toArray, List.set_cons_zero, List.set_cons_succ]
                refine wl_read _ (by rfl) (by (go_simp; first | done | with_reducible rfl)) ?_
                simp only [Act.put, List.setIfInBounds_toArray, List.set_cons_zero, List.set_cons_succ]
                refine wl_read _ (by rfl) (by (go_simp; first | done | with_reducible rfl)) ?_
                simp only [Act.put, List.setIfInBounds_toArray, List.set_cons_zero, List.set_cons_succ]
                refine wl_skip (by kernel_rfl) ?_
                simp only [Act.put, List.setIfInBounds_toArray, List.set_cons_zero, List.set_cons_succ]
                refine wl_skip (by kernel_rfl) ?_
                simp only [Act.put, List.setIfInBounds_toArray, List.set_cons_zero, List.set_cons_succ]
                refine wl_skip (by kernel_rfl) ?_
                simp only [Act.put, List.setIfInBounds_toArray, List.set_cons_zero, List.set_cons_succ]
                refine wl_skip (by kernel_rfl) ?_
                simp only [Act.put, List.setIfInBounds_toArray, List.set_cons_zero, List.set_cons_succ]
                refine wl_read _ (by rfl) (by (go_simp; first | done | with_reducible rfl)) ?_
                simp only [Act.put, List.setIfInBounds_toArray, List.set_cons_zero, List.set_cons_succ]
                refine wl_read _ (by rfl) (by (go_simp; first | done | with_reducible rfl)) ?_
                simp only [Act.put, List.setIfInBounds_toArray, List.set_cons_zero, List.set_cons_succ]
                refine wl_out ?_
                have HQ1 := Lib.hid hq
                clear hq
                go_wp2_with fail
                go_meet
                exact ⟨rfl, HQ1⟩
            · skip
              have e2 : ra = -1 := by rw [← HRA.out]; exact at_both (HBO.out rfl).2
              subst e2
              by_cases hns : ((l.sigs.length : Nat) : Int) ≤ n
              · have hns2 : decide (((l.sigs.length : Nat) : Int) ≤ n) = true := decide_eq_true hns
                have e3 : rl = false := by rw [← HRL.out]; exact lit_none (by omega) _
                subst e3
                apply wp_region_lit
                refine wl_in ?_
                refine wl_read _ (by rfl) (by (go_simp; first | done | with_reducible rfl)) ?_
                simp only [Act.put, List.setIfInBounds_toArray, List.set_cons_zero, List.set_cons_succ]
                refine wl_read _ (by rfl) (by (go_simp; first | done | with_reducible rfl)) ?_
                simp only [Act.put, List.setIfInBounds_toArray, List.set_cons_zero, List.set_cons_succ]
                refine wl_read _ (by rfl) (by (go_simp; first | done | with_reducible rfl)) ?_
                simp only [Act.put, List.setIfInBounds_toArray, List.set_cons_zero, List.set_cons_succ]
                refine wl_read _ (by rfl) (by (go_simp; first | done | with_reducible rfl)) ?_
                simp only [Act.put, List.setIfInBounds_toArray, List.set_cons_zero, List.set_cons_succ]
                refine wl_read _ (by rfl) (by (go_simp; first | done | with_reducible rfl)) ?_
                simp only [Act.put, List.setIfInBounds_toArray, List.set_cons_zero, List.set_cons_succ]
                refine wl_read _ (by rfl) (by (go_simp; first | done | with_reducible rfl)) ?_
                simp only [Act.put, List.setIfInBounds_toArray, List.set_cons_zero, List.set_cons_succ]
                refine wl_read _ (by rfl) (by (go_simp; first | done | with_reducible rfl)) ?_
                simp only [Act.put, List.setIfInBounds_toArray, List.set_cons_zero, List.set_cons_succ]
                refine wl_read _ (by rfl) (by (have c := h24; have d := h242; go_simp; first | done | with_reducible rfl)) ?_
                simp only [Act.put, List.setIfInBounds_toArray, List.set_cons_zero, List.set_cons_succ]
                refine wl_read _ (by rfl) (by (go_simp; first | done | with_reducible rfl)) ?_
                simp only [Act.put, List.setIfInBounds_toArray, List.set_cons_zero, List.set_cons_succ]
                refine wl_read _ (by rfl) (by (go_simp; first | done | with_reducible rfl)) ?_
                simp only [Act.put, List.setIfInBounds_toArray, List.set_cons_zero, List.set_cons_succ]
                refine wl_skip (by kernel_rfl) ?_
                simp only [Act.put, List.setIfInBounds_toArray, List.set_cons_zero, List.set_cons_succ]
                refine wl_skip (by kernel_rfl) ?_
                simp only [Act.put, List.setIfInBounds_toArray, List.set_cons_zero, List.set_cons_succ]
                refine wl_skip (by kernel_rfl) ?_
                simp only [Act.put, List.setIfInBounds_toArray, List.set_cons_zero, List.set_cons_succ]
                refine wl_skip (by kernel_rfl) ?_
                simp only [Act.put, List.setIfInBounds_toArray, List.set_cons_zero, List.set_cons_succ]
                refine wl_skip (by kernel_rfl) ?_
                simp only [Act.put, List.setIfInBounds_toArray, List.set_cons_zero, List.set_cons_succ]
                refine wl_read _ (by rfl) (by (go_simp; first | done | with_reducible rfl)) ?_
                simp only [Act.put, List.setIfInBounds_toArray, List.set_cons_zero, List.set_cons_succ]
                refine wl_read _ (by rfl) (by (go_simp; first | done | with_reducible rfl)) ?_
                simp only [Act.put, List.setIfInBounds_toArray, List.set_cons_zero, List.set_cons_succ]
                refine wl_read _ (by rfl) (by (go_simp; first | done | with_reducible rfl)) ?_
                simp only [Act.put, List.setIfInBounds_toArray, List.set_cons_zero, List.set_cons_succ]
                refine wl_read _ (by rfl) (by (go_simp; first | done | with_reducible rfl)) ?_
                simp only [Act.put, List.setIfInBounds_toArray, List.set_cons_zero, List.set_cons_succ]
                refine wl_read _ (by rfl) (by (go_simp; first | done | with_reducible rfl)) ?_
                simp only [Act.put, List.setIfInBounds_toArray, List.set_cons_zero, List.set_cons_succ]
                refine wl_read _ (by rfl) (by (go_simp; first | done | with_reducible rfl)) ?_
                simp only [Act.put, List.setIfInBounds_toArray, List.set_cons_zero, List.set_cons_succ]
                refine wl_read _ (by rfl) (by (go_simp; first | done | with_reducible rfl)) ?_
                simp only [Act.put, List.setIfInBounds_toArray, List.set_cons_zero, List.set_cons_succ]
                refine wl_read _ (by rfl) (by (go_simp; first | done | with_reducible rfl)) ?_
                simp only [Act.put, List.setIfInBounds_toArray, List.set_cons_zero, List.set_cons_succ]
                refine wl_read _ (by rfl) (by (go_simp; first | done | with_reducible rfl)) ?_
                simp only [Act.put, List.setIfInBounds_toArray, List.set_cons_zero, List.set_cons_succ]
                refine wl_read _ (by rfl) (by (go_simp; first | done | with_reducible rfl)) ?_
                simp only [Act.put, List.setIfInBounds_toArray, List.set_cons_zero, List.set_cons_succ]
                refine wl_read _ (by rfl) (by (go_simp; first | done | with_reducible rfl)) ?_
                simp only [Act.put, List.setIfInBounds_toArray, List.set_cons_zero, List.set_cons_succ]
                refine wl_read _ (by rfl) (exec_lay (by rfl) (by rfl) (HQl.out _ hq)) ?_
                simp only [Act.put, List.setIfInBounds_toArray, List.set_cons_zero, List.set_cons_succ]
                refine wl_read _ (by rfl) (exec_img hi.len (by rfl) (by rfl) (HQi.out _ hq)) ?_
                simp only [Act.put, List.setIfInBounds_toArray, List.set_cons_zero, List.set_cons_succ]
                refine wl_read _ (by rfl) (by (go_simp; first | done | with_reducible rfl)) ?_
                simp only [Act.put, List.setIfInBounds_toArray, List.set_cons_zero, List.set_cons_succ]
                refine wl_callv (by rfl) (by (go_simp; first | done | with_reducible rfl)) (KA.out _ hq) (fun W hB => ?_)
                simp only [Act.put, List.setIfInBounds_toArray, List.set_cons_zero, List.set_cons_succ]
                have hq := HQ.out _ _ hq hB
                clear hB
                refine wl_read _ (by rfl) (by (go_simp; first | done | with_reducible rfl)) ?_
                simp only [Act.put, List.setIfInBounds_toArray, List.set_cons_zero, List.set_cons_succ]
                refine wl_read _ (by rfl) (by (go_simp; first | done | with_reducible rfl)) ?_
                simp only [Act.put, List.setIfInBounds_toArray, List.set_cons_zero, List.set_cons_succ]
                refine wl_read _ (by rfl) (by (go_simp; first | done | with_reducible rfl)) ?_
                simp only [Act.put, List.setIfInBounds_toArray, List.set_cons_zero, List.set_cons_succ]
                refine wl_read _ (by rfl) (by (go_simp; first | done | with_reducible rfl)) ?_
                simp only [Act.put, List.setIfInBounds_toArray, List.set_cons_zero, List.set_cons_succ]
                refine wl_read _ (by rfl) (by (go_simp; first | done | with_reducible rfl)) ?_
                simp only [Act.put, List.setIfInBounds_toArray, List.set_cons_zero, List.set_cons_succ]
                refine wl_read _ (by rfl) (by (go_simp; first | done | with_reducible rfl)) ?_
                simp only [Act.put, List.setIfInBounds_toArray, List.set_cons_zero, List.set_cons_succ]
                refine wl_read _ (by rfl) (by (go_simp; first | done | with_reducible rfl)) ?_
                simp only [Act.put, List.setIfInBounds_toArray, List.set_cons_zero, List.set_cons_succ]
                refine wl_read _ (by rfl) (by (have c := hn0; go_simp; first | done | with_reducible rfl)) ?_
                simp only [Act.put, List.setIfInBounds_toArray, List.set_cons_zero, List.set_cons_succ]
                refine wl_read _ (by rfl) (by (go_simp; first | done | with_reducible rfl)) ?_
                simp only [Act.put, List.setIfInBounds_toArray, List.set_cons_zero, List.set_cons_succ]
                refine wl_read _ (by rfl) (by (go_simp; first | done | with_reducible rfl)) ?_
                simp only [Act.put, List.setIfInBounds_toArray, List.set_cons_zero, List.set_cons_succ]
                refine wl_read _ (by rfl) (by (go_simp; first | done | with_reducible rfl)) ?_
                simp only [Act.put, List.setIfInBounds_toArray, List.set_cons_zero, List.set_cons_succ]
                refine wl_read _ (by rfl) (by (go_simp; first | done | with_reducible rfl)) ?_
                simp only [Act.put, List.setIfInBounds_toArray, List.set_cons_zero, List.set_cons_succ]
                refine wl_read _ (by rfl) (by (have c := (HQl.out _ hq).cell_at 1 rfl; go_simp; first | done | with_reducible rfl)) ?_
                simp only [Act.put, List.setIfInBounds_toArray, List.set_cons_zero, List.set_cons_succ]
                refine wl_read _ (by rfl) (by (go_simp; first | done | with_reducible rfl)) ?_
                simp only [Act.put, List.setIfInBounds_toArray, List.set_cons_zero, List.set_cons_succ]
                refine wl_read _ (by rfl) (by (have c := hns; have d := hns2; go_simp; first | done | with_reducible rfl)) ?_
                simp only [Act.put, List.setIfInBounds_toArray, List.set_cons_zero, List.set_cons_succ]
                refine wl_read _ (by rfl) (by (go_simp; first | done | with_reducible rfl)) ?_
                simp only [Act.put, List.setIfInBounds_toArray, List.set_cons_zero, List.set_cons_succ]
                refine wl_read _ (by rfl) (by (go_simp; first | done | with_reducible rfl)) ?_
                simp only [Act.put, List.setIfInBounds_toArray, List.set_cons_zero, List.set_cons_succ]
                refine wl_read _ (by rfl) (exec_lay (by rfl) (by rfl) (HQl.out _ hq)) ?_
                simp only [Act.put, List.setIfInBounds_toArray, List.set_cons_zero, List.set_cons_succ]
                refine wl_read _ (by rfl) (exec_img hi.len (by rfl) (by rfl) (HQi.out _ hq)) ?_
                simp only [Act.put, List.setIfInBounds_toArray, List.set_cons_zero, List.set_cons_succ]
                refine wl_read _ (by rfl) (by (go_simp; first | done | with_reducible rfl)) ?_
                simp only [Act.put, List.setIfInBounds_toArray, List.set_cons_zero, List.set_cons_succ]
                refine wl_callv (by rfl) (by (go_simp; first | done | with_reducible rfl)) (KL.out _ hq) (fun W hB => ?_)
                simp only [Act.put, List.setIfInBounds_toArray, List.set_cons_zero, List.set_cons_succ]
                have hq := HQ.out _ _ hq hB
                clear hB
                refine wl_read _ (by rfl) (by (go_simp; first | done | with_reducible rfl)) ?_
                simp only [Act.put, List.setIfInBounds_toArray, List.set_cons_zero, List.set_cons_succ]
                refine wl_read _ (by rfl) (by (go_simp; first | done | with_reducible rfl)) ?_
                simp only [Act.put, List.setIfInBounds_toArray, List.set_cons_zero, List.set_cons_succ]
                refine wl_out ?_
                have HQ1 := Lib.hid hq
                clear hq
                go_wp2_with fail
                go_meet
                exact ⟨rfl, HQ1⟩
              · have hns2 : decide (((l.sigs.length : Nat) : Int) ≤ n) = false := decide_eq_false hns
                apply wp_region_lit
                refine wl_in ?_
                refine wl_read _ (by rfl) (by (go_simp; first | done | with_reducible rfl)) ?_
                simp only [Act.put, List.setIfInBounds_toArray, List.set_cons_zero, List.set_cons_succ]
                refine wl_read _ (by rfl) (by (go_simp; first | done | with_reducible rfl)) ?_
                simp only [Act.put, List.setIfInBounds_toArray, List.set_cons_zero, List.set_cons_succ]
                refine wl_read _ (by rfl) (by (go_simp; first | done | with_reducible rfl)) ?_
                simp only [Act.put, List.setIfInBounds_toArray, List.set_cons_zero, List.set_cons_succ]
                refine wl_read _ (by rfl) (by (go_simp; first | done | with_reducible rfl)) ?_
                simp only [Act.put, List.setIfInBounds_toArray, List.set_cons_zero, List.set_cons_succ]
                refine wl_read _ (by rfl) (by (go_simp; first | done | with_reducible rfl)) ?_
                simp only [Act.put, List.setIfInBounds_toArray, List.set_cons_zero, List.set_cons_succ]
                refine wl_read _ (by rfl) (by (go_simp; first | done | with_reducible rfl)) ?_
                simp only [Act.put, List.setIfInBounds_toArray, List.set_cons_zero, List.set_cons_succ]
                refine wl_read _ (by rfl) (by (go_simp; first | done | with_reducible rfl)) ?_
                simp only [Act.put, List.setIfInBounds_toArray, List.set_cons_zero, List.set_cons_succ]
                refine wl_read _ (by rfl) (by (have c := h24; have d := h242; go_simp; first | done | with_reducible rfl)) ?_
                simp only [Act.put, List.setIfInBounds_toArray, List.set_cons_zero, List.set_cons_succ]
                refine wl_read _ (by rfl) (by (go_simp; first | done | with_reducible rfl)) ?_
                simp only [Act.put, List.setIfInBounds_toArray, List.set_cons_zero, List.set_cons_succ]
                refine wl_read _ (by rfl) (by (go_simp; first | done | with_reducible rfl)) ?_
                simp only [Act.put, List.setIfInBounds_toArray, List.set_cons_zero, List.set_cons_succ]
                refine wl_skip (by kernel_rfl) ?_
                simp only [Act.put, List.setIfInBounds_toArray, List.set_cons_zero, List.set_cons_succ]
                refine wl_skip (by kernel_rfl) ?_
                simp only [Act.put, List.setIfInBounds_toArray, List.set_cons_zero, List.set_cons_succ]
                refine wl_skip (by kernel_rfl) ?_
                simp only [Act.put, List.setIfInBounds_toArray, List.set_cons_zero, List.set_cons_succ]
                refine wl_skip (by kernel_rfl) ?_
                simp only [Act.put, List.setIfInBounds_toArray, List.set_cons_zero, List.set_cons_succ]
                refine wl_skip (by kernel_rfl) ?_
                simp only [Act.put, List.setIfInBounds_toArray, List.set_cons_zero, List.set_cons_succ]
                refine wl_read _ (by rfl) (by (go_simp; first | done | with_reducible rfl)) ?_
                simp only [Act.put, List.setIfInBounds_toArray, List.set_cons_zero, List.set_cons_succ]
                refine wl_read _ (by rfl) (by (go_simp; first | done | with_reducible rfl)) ?_
                simp only [Act.put, List.setIfInBounds_toArray, List.set_cons_zero, List.set_cons_succ]
                refine wl_read _ (by rfl) (by (go_simp; first | done | with_reducible rfl)) ?_
                simp only [Act.put, List.setIfInBounds_toArray, List.set_cons_zero, List.set_cons_succ]
                refine wl_read _ (by rfl) (by (go_simp; first | done | with_reducible rfl)) ?_
                simp only [Act.put, List.setIfInBounds_toArray, List.set_cons_zero, List.set_cons_succ]
                refine wl_read _ (by rfl) (by (go_simp; first | done | with_reducible rfl)) ?_
                simp only [Act.put, List.setIfInBounds_toArray, List.set_cons_zero, List.set_cons_succ]
                refine wl_read _ (by rfl) (by (go_simp; first | done | with_reducible rfl)) ?_
                simp only [Act.put, List.setIfInBounds_toArray, List.set_cons_zero, List.set_cons_succ]
                refine wl_read _ (by rfl) (by (go_simp; first | done | with_reducible rfl)) ?_
                simp only [Act.put, List.setIfInBounds_toArray, List.set_cons_zero, List.set_cons_succ]
                refine wl_read _ (by rfl) (by (go_simp; first | done | with_reducible rfl)) ?_
                simp only [Act.put, List.setIfInBounds_toArray, List.set_cons_zero, List.set_cons_succ]
                refine wl_read _ (by rfl) (by (go_simp; first | done | with_reducible rfl)) ?_
                simp only [Act.put, List.setIfInBounds_toArray, List.set_cons_zero, List.set_cons_succ]
                refine wl_read _ (by rfl) (by (go_simp; first | done | with_reducible rfl)) ?_
                simp only [Act.put, List.setIfInBounds_toArray, List.set_cons_zero, List.set_cons_succ]
                refine wl_read _ (by rfl) (by (go_simp; first | done | with_reducible rfl)) ?_
                simp only [Act.put, List.setIfInBounds_toArray, List.set_cons_zero, List.set_cons_succ]
                refine wl_read _ (by rfl) (exec_lay (by rfl) (by rfl) (HQl.out _ hq)) ?_
                simp only [Act.put, List.setIfInBounds_toArray, List.set_cons_zero, List.set_cons_succ]
                refine wl_read _ (by rfl) (exec_img hi.len (by rfl) (by rfl) (HQi.out _ hq)) ?_
                simp only [Act.put, List.setIfInBounds_toArray, List.set_cons_zero, List.set_cons_succ]
                refine wl_read _ (by rfl) (by (go_simp; first | done | with_reducible rfl)) ?_
                simp only [Act.put, List.setIfInBounds_toArray, List.set_cons_zero, List.set_cons_succ]
                refine wl_callv (by rfl) (by (go_simp; first | done | with_reducible rfl)) (KA.out _ hq) (fun W hB => ?_)
                simp only [Act.put, List.setIfInBounds_toArray, List.set_cons_zero, List.set_cons_succ]
                have hq := HQ.out _ _ hq hB
                clear hB
                refine wl_read _ (by rfl) (by (go_simp; first | done | with_reducible rfl)) ?_
                simp only [Act.put, List.setIfInBounds_toArray, List.set_cons_zero, List.set_cons_succ]
                refine wl_read _ (by rfl) (by (go_simp; first | done | with_reducible rfl)) ?_
                simp only [Act.put, List.setIfInBounds_toArray, List.set_cons_zero, List.set_cons_succ]
                refine wl_read _ (by rfl) (by (go_simp; first | done | with_reducible rfl)) ?_
                simp only [Act.put, List.setIfInBounds_toArray, List.set_cons_zero, List.set_cons_succ]
                refine wl_read _ (by rfl) (by (go_simp; first | done | with_reducible rfl)) ?_
                simp only [Act.put, List.setIfInBounds_toArray, List.set_cons_zero, List.set_cons_succ]
                refine wl_read _ (by rfl) (by (go_simp; first | done | with_reducible rfl)) ?_
                simp only [Act.put, List.setIfInBounds_toArray, List.set_cons_zero, List.set_cons_succ]
                refine wl_read _ (by rfl) (by (go_simp; first | done | with_reducible rfl)) ?_
                simp only [Act.put, List.setIfInBounds_toArray, List.set_cons_zero, List.set_cons_succ]
                refine wl_read _ (by rfl) (by (go_simp; first | done | with_reducible rfl)) ?_
                simp only [Act.put, List.setIfInBounds_toArray, List.set_cons_zero, List.set_cons_succ]
                refine wl_read _ (by rfl) (by (have c := hn0; go_simp; first | done | with_reducible rfl)) ?_
                simp only [Act.put, List.setIfInBounds_toArray, List.set_cons_zero, List.set_cons_succ]
                refine wl_read _ (by rfl) (by (go_simp; first | done | with_reducible rfl)) ?_
                simp only [Act.put, List.setIfInBounds_toArray, List.set_cons_zero, List.set_cons_succ]
                refine wl_read _ (by rfl) (by (go_simp; first | done | with_reducible rfl)) ?_
                simp only [Act.put, List.setIfInBounds_toArray, List.set_cons_zero, List.set_cons_succ]
                refine wl_read _ (by rfl) (by (go_simp; first | done | with_reducible rfl)) ?_
                simp only [Act.put, List.setIfInBounds_toArray, List.set_cons_zero, List.set_cons_succ]
                refine wl_read _ (by rfl) (by (go_simp; first | done | with_reducible rfl)) ?_
                simp only [Act.put, List.setIfInBounds_toArray, List.set_cons_zero, List.set_cons_succ]
                refine wl_read _ (by rfl) (by (have c := (HQl.out _ hq).cell_at 1 rfl; go_simp; first | done | with_reducible rfl)) ?_
                simp only [Act.put, List.setIfInBounds_toArray, List.set_cons_zero, List.set_cons_succ]
                refine wl_read _ (by rfl) (by (go_simp; first | done | with_reducible rfl)) ?_
                simp only [Act.put, List.setIfInBounds_toArray, List.set_cons_zero, List.set_cons_succ]
                refine wl_read _ (by rfl) (by (have c := hns; have d := hns2; go_simp; first | done | with_reducible rfl)) ?_
                simp only [Act.put, List.setIfInBounds_toArray, List.set_cons_zero, List.set_cons_succ]
                refine wl_read _ (by rfl) (by (go_simp; first | done | with_reducible rfl)) ?_
                simp only [Act.put, List.setIfInBounds_toArray, List.set_cons_zero, List.set_cons_succ]
                refine wl_read _ (by rfl) (by (go_simp; first | done | with_reducible rfl)) ?_
                simp only [Act.put, List.setIfInBounds_toArray, List.set_cons_zero, List.set_cons_succ]
                refine wl_skip (by kernel_rfl) ?_
                simp only [Act.put, List.setIfInBounds_toArray, List.set_cons_zero, List.set_cons_succ]
                refine wl_skip (by kernel_rfl) ?_
                simp only [Act.put, List.setIfInBounds_toArray, List.set_cons_zero, List.set_cons_succ]
                refine wl_skip (by kernel_rfl) ?_
                simp only [Act.put, List.setIfInBounds_toArray, List.set_cons_zero, List.set_cons_succ]
                refine wl_skip (by kernel_rfl) ?_
                simp only [Act.put, List.setIfInBounds_toArray, List.set_cons_zero, List.set_cons_succ]
                refine wl_read _ (by rfl) (by (go_simp; first | done | with_reducible rfl)) ?_
                simp only [Act.put, List.setIfInBounds_toArray, List.set_cons_zero, List.set_cons_succ]
                refine wl_read _ (by rfl) (by (go_simp; first | done | with_reducible rfl)) ?_
                simp only [Act.put, List.setIfInBounds_toArray, List.set_cons_zero, List.set_cons_succ]
                refine wl_out ?_
                have HQ1 := Lib.hid hq
                clear hq
                go_wp2_with fail
                go_meet
                exact ⟨rfl, HQ1⟩
      · have e1 : ro = true := by rw [← HRO.out]; exact occ_stale hi HST.out n
        have e2 : ra = -1 := by rw [← HRA.out]; exact at_stale HST.out n
        have e3 : rl = false := by rw [← HRL.out]; exact lit_stale HST.out _ _ _
        subst e1
        subst e2
        subst e3
        apply wp_region_lit
        refine wl_in ?_
        refine wl_read _ (by rfl) (by (go_simp; first | done | with_reducible rfl)) ?_
        simp only [Act.put, List.setIfInBounds_toArray, List.set_cons_zero, List.set_cons_succ]
        refine wl_read _ (by rfl) (by (go_simp; first | done | with_reducible rfl)) ?_
        simp only [Act.put, List.setIfInBounds_toArray, List.set_cons_zero, List.set_cons_succ]
        refine wl_skip (by kernel_rfl) ?_
        simp only [Act.put, List.setIfInBounds_toArray, List.set_cons_zero, List.set_cons_succ]
        refine wl_skip (by kernel_rfl) ?_
        simp only [Act.put, List.setIfInBounds_toArray, List.set_cons_zero, List.set_cons_succ]
        refine wl_read _ (by rfl) (by (go_simp; first | done | with_reducible rfl)) ?_
        simp only [Act.put, List.setIfInBounds_toArray, List.set_cons_zero, List.set_cons_succ]
        refine wl_read _ (by rfl) (by (go_simp; first | done | with_reducible rfl)) ?_
        simp only [Act.put, List.setIfInBounds_toArray, List.set_cons_zero, List.set_cons_succ]
        refine wl_skip (by kernel_rfl) ?_
        simp only [Act.put, List.setIfInBounds_toArray, List.set_cons_zero, List.set_cons_succ]
        refine wl_skip (by kernel_rfl) ?_
        simp only [Act.put, List.setIfInBounds_toArray, List.set_cons_zero, List.set_cons_succ]
        refine wl_read _ (by rfl) (by (go_simp; first | done | with_reducible rfl)) ?_
        simp only [Act.put, List.setIfInBounds_toArray, List.set_cons_zero, List.set_cons_succ]
        refine wl_read _ (by rfl) (by (go_simp; first | done | with_reducible rfl)) ?_
        simp only [Act.put, List.setIfInBounds_toArray, List.set_cons_zero, List.set_cons_succ]
        refine wl_read _ (by rfl) (exec_lay (by rfl) (by rfl) (HQl.out _ hq)) ?_
        simp only [Act.put, List.setIfInBounds_toArray, List.set_cons_zero, List.set_cons_succ]
        refine wl_read _ (by rfl) (exec_img hi.len (by rfl) (by rfl) (HQi.out _ hq)) ?_
        simp only [Act.put, List.setIfInBounds_toArray, List.set_cons_zero, List.set_cons_succ]
        refine wl_read _ (by rfl) (by (go_simp; first | done | with_reducible rfl)) ?_
        simp only [Act.put, List.setIfInBounds_toArray, List.set_cons_zero, List.set_cons_succ]
        refine wl_callv (by rfl) (by (go_simp; first | done | with_reducible rfl)) (KO.out _ hq) (fun W hB => ?_)
        simp only [Act.put, List.setIfInBounds_toArray, List.set_cons_zero, List.set_cons_succ]
        have hq := HQ.out _ _ hq hB
        clear hB
        refine wl_read _ (by rfl) (by (go_simp; first | done | with_reducible rfl)) ?_
        simp only [Act.put, List.setIfInBounds_toArray, List.set_cons_zero, List.set_cons_succ]
        refine wl_read _ (by rfl) (by (go_simp; first | done | with_reducible rfl)) ?_
        simp only [Act.put, List.setIfInBounds_toArray, List.set_cons_zero, List.set_cons_succ]
        refine wl_read _ (by rfl) (by (go_simp; first | done | with_reducible rfl)) ?_
        simp only [Act.put, List.setIfInBounds_toArray, List.set_cons_zero, List.set_cons_succ]
        refine wl_read _ (by rfl) (by (go_simp; first | done | with_reducible rfl)) ?_
        simp only [Act.put, List.setIfInBounds_toArray, List.set_cons_zero, List.set_cons_succ]
        refine wl_read _ (by rfl) (by (go_simp; first | done | with_reducible rfl)) ?_
        simp only [Act.put, List.setIfInBounds_toArray, List.set_cons_zero, List.set_cons_succ]
        refine wl_skip (by kernel_rfl) ?_
        simp only [Act.put, List.setIfInBounds_toArray, List.set_cons_zero, List.set_cons_succ]
        refine wl_skip (by kernel_rfl) ?_
        simp only [Act.put, List.setIfInBounds_toArray, List.set_cons_zero, List.set_cons_succ]
        refine wl_read _ (by rfl) (by (go_simp; first | done | with_reducible rfl)) ?_
        simp only [Act.put, List.setIfInBounds_toArray, List.set_cons_zero, List.set_cons_succ]
        refine wl_read _ (by rfl) (by (go_simp; first | done | with_reducible rfl)) ?_
        simp only [Act.put, List.setIfInBounds_toArray, List.set_cons_zero, List.set_cons_succ]
        refine wl_skip (by kernel_rfl) ?_
        simp only [Act.put, List.setIfInBounds_toArray, List.set_cons_zero, List.set_cons_succ]
        refine wl_read _ (by rfl) (by (go_simp; first | done | with_reducible rfl)) ?_
        simp only [Act.put, List.setIfInBounds_toArray, List.set_cons_zero, List.set_cons_succ]
        refine wl_read _ (by rfl) (by (go_simp; first | done | with_reducible rfl)) ?_
        simp only [Act.put, List.setIfInBounds_toArray, List.set_cons_zero, List.set_cons_succ]
        refine wl_read _ (by rfl) (exec_lay (by rfl) (by rfl) (HQl.out _ hq)) ?_
        simp only [Act.put, List.setIfInBounds_toArray, List.set_cons_zero, List.set_cons_succ]
        refine wl_read _ (by rfl) (exec_img hi.len (by rfl) (by rfl) (HQi.out _ hq)) ?_
        simp only [Act.put, List.setIfInBounds_toArray, List.set_cons_zero, List.set_cons_succ]
        refine wl_read _ (by rfl) (by (go_simp; first | done | with_reducible rfl)) ?_
        simp only [Act.put, List.setIfInBounds_toArray, List.set_cons_zero, List.set_cons_succ]
        refine wl_callv (by rfl) (by (go_simp; first | done | with_reducible rfl)) (KA.out _ hq) (fun W hB => ?_)
        simp only [Act.put, List.setIfInBounds_toArray, List.set_cons_zero, List.set_cons_succ]
        have hq := HQ.out _ _ hq hB
        clear hB
        refine wl_read _ (by rfl) (by (go_simp; first | done | with_reducible rfl)) ?_
        simp only [Act.put, List.setIfInBounds_toArray, List.set_cons_zero, List.set_cons_succ]
        refine wl_read _ (by rfl) (by (go_simp; first | done | with_reducible rfl)) ?_
        simp only [Act.put, List.setIfInBounds_toArray, List.set_cons_zero, List.set_cons_succ]
        refine wl_read _ (by rfl) (by (go_simp; first | done | with_reducible rfl)) ?_
        simp only [Act.put, List.setIfInBounds_toArray, List.set_cons_zero, List.set_cons_succ]
        refine wl_read _ (by rfl) (by (go_simp; first | done | with_reducible rfl)) ?_
        simp only [Act.put, List.setIfInBounds_toArray, List.set_cons_zero, List.set_cons_succ]
        refine wl_read _ (by rfl) (by (go_simp; first | done | with_reducible rfl)) ?_
        simp only [Act.put, List.setIfInBounds_toArray, List.set_cons_zero, List.set_cons_succ]
        refine wl_read _ (by rfl) (by (go_simp; first | done | with_reducible rfl)) ?_
        simp only [Act.put, List.setIfInBounds_toArray, List.set_cons_zero, List.set_cons_succ]
        refine wl_skip (by kernel_rfl) ?_
        simp only [Act.put, List.setIfInBounds_toArray, List.set_cons_zero, List.set_cons_succ]
        refine wl_skip (by kernel_rfl) ?_
        simp only [Act.put, List.setIfInBounds_toArray, List.set_cons_zero, List.set_cons_succ]
        refine wl_read _ (by rfl) (by (go_simp; first | done | with_reducible rfl)) ?_
        simp only [Act.put, List.setIfInBounds_toArray, List.set_cons_zero, List.set_cons_succ]
        refine wl_read _ (by rfl) (by (go_simp; first | done | with_reducible rfl)) ?_
        simp only [Act.put, List.setIfInBounds_toArray, List.set_cons_zero, List.set_cons_succ]
        refine wl_skip (by kernel_rfl) ?_
        simp only [Act.put, List.setIfInBounds_toArray, List.set_cons_zero, List.set_cons_succ]
        refine wl_skip (by kernel_rfl) ?_
        simp only [Act.put, List.setIfInBounds_toArray, List.set_cons_zero, List.set_cons_succ]
        refine wl_skip (by kernel_rfl) ?_
        simp only [Act.put, List.setIfInBounds_toArray, List.set_cons_zero, List.set_cons_succ]
        refine wl_skip (by kernel_rfl) ?_
        simp only [Act.put, List.setIfInBounds_toArray, List.set_cons_zero, List.set_cons_succ]
        refine wl_skip (by kernel_rfl) ?_
        simp only [Act.put, List.setIfInBounds_toArray, List.set_cons_zero, List.set_cons_succ]
        refine wl_read _ (by rfl) (by (go_simp; first | done | with_reducible rfl)) ?_
        simp only [Act.put, List.setIfInBounds_toArray, List.set_cons_zero, List.set_cons_succ]
        refine wl_read _ (by rfl) (by (go_simp; first | done | with_reducible rfl)) ?_
        simp only [Act.put, List.setIfInBounds_toArray, List.set_cons_zero, List.set_cons_succ]
        refine wl_read _ (by rfl) (exec_lay (by rfl) (by rfl) (HQl.out _ hq)) ?_
        simp only [Act.put, List.setIfInBounds_toArray, List.set_cons_zero, List.set_cons_succ]
        refine wl_read _ (by rfl) (exec_img hi.len (by rfl) (by rfl) (HQi.out _ hq)) ?_
        simp only [Act.put, List.setIfInBounds_toArray, List.set_cons_zero, List.set_cons_succ]
        refine wl_read _ (by rfl) (by (go_simp; first | done | with_reducible rfl)) ?_
        simp only [Act.put, List.setIfInBounds_toArray, List.set_cons_zero, List.set_cons_succ]
        refine wl_callv (by rfl) (by (go_simp; first | done | with_reducible rfl)) (KL.out _ hq) (fun W hB => ?_)
        simp only [Act.put, List.setIfInBounds_toArray, List.set_cons_zero, List.set_cons_succ]
        have hq := HQ.out _ _ hq hB
        clear hB
        refine wl_read _ (by rfl) (by (go_simp; first | done | with_reducible rfl)) ?_
        simp only [Act.put, List.setIfInBounds_toArray, List.set_cons_zero, List.set_cons_succ]
        refine wl_read _ (by rfl) (by (go_simp; first | done | with_reducible rfl)) ?_
        simp only [Act.put, List.setIfInBounds_toArray, List.set_cons_zero, List.set_cons_succ]
        refine wl_out ?_
        have HQ1 := Lib.hid hq
        clear hq
        go_wp2_with fail
        go_meet
        exact ⟨rfl, HQ1⟩
    case rest =>
    obtain ⟨rfl, HQ1⟩ := hcut
    have hq := HQ1.out
    clear HQ1
    go_upto_region 10 with (fail)
    go_cut [131] from 114 to 131 (fun v wx => v = .bool false ∧ Hid (Q wx))
    case first =>
      cases rt
      · apply wp_region_lit
        refine wl_in ?_
        refine wl_read _ (by rfl) (exec_lay (by rfl) (by rfl) (HQl.out _ hq)) ?_
        simp only [Act.put, List.setIfInBounds_toArray, List.set_cons_zero, List.set_cons_succ]
        refine wl_read _ (by rfl) (exec_img hi.len (by rfl) (by rfl) (HQi.out _ hq)) ?_
        simp only [Act.put, List.setIfInBounds_toArray, List.set_cons_zero, List.set_cons_succ]
        refine wl_read _ (by rfl) (by (go_simp; first | done | with_reducible rfl)) ?_
        simp only [Act.put, List.setIfInBounds_toArray, List.set_cons_zero, List.set_cons_succ]
        refine wl_callv (by rfl) (by (go_simp; first | done | with_reducible rfl)) (KD.out _ hq) (fun W hB => ?_)
        simp only [Act.put, List.setIfInBounds_toArray, List.set_cons_zero, List.set_cons_succ]
        have hq := HQ.out _ _ hq hB
        clear hB
        refine wl_read _ (by rfl) (by (go_simp; first | done | with_reducible rfl)) ?_
        simp only [Act.put, List.setIfInBounds_toArray, List.set_cons_zero, List.set_cons_succ]
        refine wl_skip (by kernel_rfl) ?_
        simp only [Act.put, List.setIfInBounds_toArray, List.set_cons_zero, List.set_cons_succ]
        refine wl_skip (by kernel_rfl) ?_
        simp only [Act.put, List.setIfInBounds_toArray, List.set_cons_zero, List.set_cons_succ]
        refine wl_skip (by kernel_rfl) ?_
        simp only [Act.put, List.setIfInBounds_toArray, List.set_cons_zero, List.set_cons_succ]
        refine wl_skip (by kernel_rfl) ?_
        simp only [Act.put, List.setIfInBounds_toArray, List.set_cons_zero, List.set_cons_succ]
        refine wl_skip (by kernel_rfl) ?_
        simp only [Act.put, List.setIfInBounds_toArray, List.set_cons_zero, List.set_cons_succ]
        refine wl_skip (by kernel_rfl) ?_
        simp only [Act.put, List.setIfInBounds_toArray, List.set_cons_zero, List.set_cons_succ]
        refine wl_skip (by kernel_rfl) ?_
        simp only [Act.put, List.setIfInBounds_toArray, List.set_cons_zero, List.set_cons_succ]
        refine wl_skip (by kernel_rfl) ?_
        simp only [Act.put, List.setIfInBounds_toArray, List.set_cons_zero, List.set_cons_succ]
        refine wl_skip (by kernel_rfl) ?_
        simp only [Act.put, List.setIfInBounds_toArray, List.set_cons_zero, List.set_cons_succ]
        refine wl_skip (by kernel_rfl) ?_
        simp only [Act.put, List.setIfInBounds_toArray, List.set_cons_zero, List.set_cons_succ]
        refine wl_skip (by kernel_rfl) ?_
        simp only [Act.put, List.setIfInBounds_toArray, List.set_cons_zero, List.set_cons_succ]
        refine wl_skip (by kernel_rfl) ?_
        simp only [Act.put, List.setIfInBounds_toArray, List.set_cons_zero, List.set_cons_succ]
        refine wl_read _ (by rfl) (by (go_simp; first | done | with_reducible rfl)) ?_
        simp only [Act.put, List.setIfInBounds_toArray, List.set_cons_zero, List.set_cons_succ]
        refine wl_out ?_
        have HQ1 := Lib.hid hq
        clear hq
        go_wp2_with fail
        go_meet
        exact ⟨rfl, HQ1⟩
      · obtain ⟨f1, f2, f3⟩ := told_yes hi HRT.out
        obtain rfl : st = false := HST.out.symm.trans f1
        obtain rfl : hs = true := HHS.out.2 f2
        obtain rfl : ro = true := HRO.out.symm.trans f3
        clear f1 f2 f3
        apply wp_region_lit
        refine wl_in ?_
        refine wl_read _ (by rfl) (exec_lay (by rfl) (by rfl) (HQl.out _ hq)) ?_
        simp only [Act.put, List.setIfInBounds_toArray, List.set_cons_zero, List.set_cons_succ]
        refine wl_read _ (by rfl) (exec_img hi.len (by rfl) (by rfl) (HQi.out _ hq)) ?_
        simp only [Act.put, List.setIfInBounds_toArray, List.set_cons_zero, List.set_cons_succ]
        refine wl_read _ (by rfl) (by (go_simp; first | done | with_reducible rfl)) ?_
        simp only [Act.put, List.setIfInBounds_toArray, List.set_cons_zero, List.set_cons_succ]
        refine wl_callv (by rfl) (by (go_simp; first | done | with_reducible rfl)) (KD.out _ hq) (fun W hB => ?_)
        simp only [Act.put, List.setIfInBounds_toArray, List.set_cons_zero, List.set_cons_succ]
        have hq := HQ.out _ _ hq hB
        clear hB
        refine wl_read _ (by rfl) (by (go_simp; first | done | with_reducible rfl)) ?_
        simp only [Act.put, List.setIfInBounds_toArray, List.set_cons_zero, List.set_cons_succ]
        refine wl_read _ (by rfl) (by (go_simp; first | done | with_reducible rfl)) ?_
        simp only [Act.put, List.setIfInBounds_toArray, List.set_cons_zero, List.set_cons_succ]
        refine wl_read _ (by rfl) (by (go_simp; first | done | with_reducible rfl)) ?_
        simp only [Act.put, List.setIfInBounds_toArray, List.set_cons_zero, List.set_cons_succ]
        refine wl_read _ (by rfl) (by (go_simp; first | done | with_reducible rfl)) ?_
        simp only [Act.put, List.setIfInBounds_toArray, List.set_cons_zero, List.set_cons_succ]
        refine wl_read _ (by rfl) (by (go_simp; first | done | with_reducible rfl)) ?_
        simp only [Act.put, List.setIfInBounds_toArray, List.set_cons_zero, List.set_cons_succ]
        refine wl_read _ (by rfl) (by (go_simp; first | done | with_reducible rfl)) ?_
        simp only [Act.put, List.setIfInBounds_toArray, List.set_cons_zero, List.set_cons_succ]
        refine wl_read _ (by rfl) (by (go_simp; first | done | with_reducible rfl)) ?_
        simp only [Act.put, List.setIfInBounds_toArray, List.set_cons_zero, List.set_cons_succ]
        refine wl_read _ (by rfl) (exec_lay (by rfl) (by rfl) (HQl.out _ hq)) ?_
        simp only [Act.put, List.setIfInBounds_toArray, List.set_cons_zero, List.set_cons_succ]
        refine wl_read _ (by rfl) (exec_img hi.len (by rfl) (by rfl) (HQi.out _ hq)) ?_
        simp only [Act.put, List.setIfInBounds_toArray, List.set_cons_zero, List.set_cons_succ]
        refine wl_read _ (by rfl) (by (go_simp; first | done | with_reducible rfl)) ?_
        simp only [Act.put, List.setIfInBounds_toArray, List.set_cons_zero, List.set_cons_succ]
        refine wl_callv (by rfl) (by (go_simp; first | done | with_reducible rfl)) (KO.out _ hq) (fun W hB => ?_)
        simp only [Act.put, List.setIfInBounds_toArray, List.set_cons_zero, List.set_cons_succ]
        have hq := HQ.out _ _ hq hB
        clear hB
        refine wl_read _ (by rfl) (by (go_simp; first | done | with_reducible rfl)) ?_
        simp only [Act.put, List.setIfInBounds_toArray, List.set_cons_zero, List.set_cons_succ]
        refine wl_read _ (by rfl) (by (go_simp; first | done | with_reducible rfl)) ?_
        simp only [Act.put, List.setIfInBounds_toArray, List.set_cons_zero, List.set_cons_succ]
        refine wl_read _ (by rfl) (by (go_simp; first | done | with_reducible rfl)) ?_
        simp only [Act.put, List.setIfInBounds_toArray, List.set_cons_zero, List.set_cons_succ]
        refine wl_out ?_
        have HQ1 := Lib.hid hq
        clear hq
        go_wp2_with fail
        go_meet
        exact ⟨rfl, HQ1⟩
    case rest =>
    obtain ⟨rfl, HQ1⟩ := hcut
    have hq := HQ1.out
    clear HQ1
    go_upto_region 12 with (fail)
    apply wp_region_lit
    refine wl_in ?_
    refine wl_read _ (by rfl) (exec_lay (by rfl) (by rfl) (HQl.out _ hq)) ?_
    simp only [Act.put, List.setIfInBounds_toArray, List.set_cons_zero, List.set_cons_succ]
    refine wl_read _ (by rfl) (exec_img hi.len (by rfl) (by rfl) (HQi.out _ hq)) ?_
    simp only [Act.put, List.setIfInBounds_toArray, List.set_cons_zero, List.set_cons_succ]
    refine wl_read _ (by rfl) (by (go_simp; first | done | with_reducible rfl)) ?_
    simp only [Act.put, List.setIfInBounds_toArray, List.set_cons_zero, List.set_cons_succ]
    refine wl_callv (by rfl) (by (go_simp; first | done | with_reducible rfl)) (KA.out _ hq) (fun W hB => ?_)
    simp only [Act.put, List.setIfInBounds_toArray, List.set_cons_zero, List.set_cons_succ]
    have hq := HQ.out _ _ hq hB
    clear hB
    refine wl_read _ (by rfl) (by (go_simp; first | done | with_reducible rfl)) ?_
    simp only [Act.put, List.setIfInBounds_toArray, List.set_cons_zero, List.set_cons_succ]
    refine wl_out ?_
    go_upto_region 13 with (fail)
    go_cut [158] from 136 to 158 (fun v wx => v = .bool false ∧ Hid (Q wx))
    case first =>
      have hlim := at_lim (l := l) (im := im) n
      rw [HRA.out] at hlim
      by_cases hra0 : 0 ≤ ra
      · obtain ⟨hin, hk⟩ := at_kind (l := l) (im := im) (p := n) (by rw [HRA.out]; exact hra0)
        obtain rfl : hs = true := HHS.out.2 hin
        obtain ⟨k, rfl⟩ : ∃ k : Nat, n = k := ⟨n.toNat, by omega⟩
        have hlt : k < l.secs.length := by omega
        have hlt' : (k : Int) < (l.secs.length : Nat) := by omega
        have h0' : (0 : Int) ≤ (k : Int) := by omega
        obtain ⟨sc, hx⟩ : ∃ x, l.secs[k]? = some x := ⟨_, List.getElem?_eq_getElem hlt⟩
        have hk2 : sc.k = 2 := by unfold kindV at hk; simpa [hx] using hk
        obtain ⟨b, off, hA, _, hc0, _⟩ := (HQf.out _ hq).lies.secs.nth (n := 11) (fun _ => rfl) (by omega) hx
        have c0 := hc0 k _ _ hx rfl
        rw [hk2] at c0
        have x0 := (HQl.out _ hq).cell_at 0 rfl
        rw [hA] at x0
        have h1 : ¬ ra < -1 := by omega
        have h2 : ¬ 1 < ra := by omega
        have HQ1 := Lib.hid hq
        clear hq hc0 hx hk hlt hin
        go_wp2_with fail
        go_meet
        exact ⟨rfl, HQ1⟩
      · obtain rfl : ra = -1 := by omega
        have HQ1 := Lib.hid hq
        clear hq
        go_wp2_with fail
        go_meet
        exact ⟨rfl, HQ1⟩
    case rest =>
    obtain ⟨rfl, HQ1⟩ := hcut
    have hq := HQ1.out
    clear HQ1
    go_upto_region 15 with (fail)
    apply wp_region_lit
    refine wl_in ?_
    refine wl_read _ (by rfl) (exec_lay (by rfl) (by rfl) (HQl.out _ hq)) ?_
    simp only [Act.put, List.setIfInBounds_toArray, List.set_cons_zero, List.set_cons_succ]
    refine wl_read _ (by rfl) (exec_img hi.len (by rfl) (by rfl) (HQi.out _ hq)) ?_
    simp only [Act.put, List.setIfInBounds_toArray, List.set_cons_zero, List.set_cons_succ]
    refine wl_callv (by rfl) (by (go_simp; first | done | with_reducible rfl)) (KM.out _ hq) (fun W hB => ?_)
    simp only [Act.put, List.setIfInBounds_toArray, List.set_cons_zero, List.set_cons_succ]
    have hq := HQ.out _ _ hq hB
    clear hB
    refine wl_read _ (by rfl) (by (go_simp; first | done | with_reducible rfl)) ?_
    simp only [Act.put, List.setIfInBounds_toArray, List.set_cons_zero, List.set_cons_succ]
    refine wl_out ?_
    have HMB : Hid (∀ k : Nat, bitU (rm : Int) k = (decide (k < cntI l) && occN l im k)) := Lib.hid fun k => by rw [← HRM.out]; exact maskJ_U _ _ _
    have HMR : Hid (0 ≤ (rm : Int) ∧ (rm : Int) ≤ 4294967295) := Lib.hid (by have := maskJ_lt32 (occN l im) (cnt_le l); rw [← HRM.out]; unfold maskI; omega)
    go_wp2_with fail
    go_loopw [12, 13] (fun i v wr => ∃ j : Nat, j ≤ 32 ∧ i = .int .i64 j ∧ Q wr) (fun i _ _ => 32 - (intOf i).toNat)
    case atStart => exact ⟨0, by omega, rfl, hq⟩
    case round =>
      clear hq
      obtain ⟨j, hj, rfl, hq⟩ := hrel
      obtain ⟨Wb, rfl⟩ : ∃ W, W = wr := ⟨wr, rfl⟩
      by_cases hlt : j < 32
      · have h32 : (j : Int) < 32 := by omega
        have h32' : (j : Int) ≤ 32 := by omega
        have h0' : (0 : Int) ≤ (j : Int) := by omega
        have hw64 : IntKind.u64.wrap (j : Int) = (j : Int) := by rw [IntKind.wrap_u64]; omega
        obtain ⟨z, hz⟩ : ∃ z, (rm : Int) / 2 ^ j = z := ⟨_, rfl⟩
        obtain ⟨bb, hbb⟩ : ∃ b, bitU (rm : Int) j = b := ⟨_, rfl⟩
        have hbit := HMB.out j
        rw [hbb] at hbit
        have HBIT : Hid ((bb = false → bits BinOp.and IntKind.u32 z 1 = 0) ∧ (bb = true → bits BinOp.and IntKind.u32 z 1 = 1)) := Lib.hid (by rw [← hz]; exact ⟨fun e => bit_no HMR.out (hbb.trans e), fun e => bit_yes HMR.out (hbb.trans e)⟩)
        have HZ := Lib.hid hz
        have HW64 := Lib.hid hw64
        have HLT := Lib.hid hlt
        clear hz hbb hw64 hj
        go_upto_region 19 with (fail)
        by_cases h1 : j < l.secs.length
        · by_cases h2 : j < 24
          · obtain ⟨oc, hoc⟩ : ∃ b, occN l im j = b := ⟨_, rfl⟩
            have hko := KOK.out j
            rw [hoc] at hko
            have HKO := Lib.hid hko
            have h1' : (j : Int) < (l.secs.length : Nat) := by omega
            have h2' : (j : Int) < 24 := by omega
            rw [hoc, show decide (j < cntI l) = true from decide_eq_true (by unfold cntI; omega), Bool.true_and] at hbit
            clear hko hoc hlt
            subst hbit
            have H1 := Lib.hid h1'
            have H2 := Lib.hid h2'
            have HC : Hid (j < 24 ∧ j < l.secs.length) := Lib.hid ⟨h2, h1⟩
            clear h1 h2 h1' h2'
            cases bb
            · skip
              apply wp_region_lit
              refine wl_in ?_
              refine wl_read _ (by rfl) (by (go_simp; first | done | with_reducible rfl)) ?_
              simp only [Act.put, List.setIfInBounds_toArray, List.set_cons_zero, List.set_cons_succ]
              refine wl_read _ (by rfl) (by (go_simp; first | done | with_reducible rfl)) ?_
              simp only [Act.put, List.setIfInBounds_toArray, List.set_cons_zero, List.set_cons_succ]
              refine wl_read _ (by rfl) (by (have c := (HQl.out _ hq).cell_at 0 rfl; go_simp; first | done | with_reducible rfl)) ?_
              simp only [Act.put, List.setIfInBounds_toArray, List.set_cons_zero, List.set_cons_succ]
              refine wl_read _ (by rfl) (by (go_simp; first | done | with_reducible rfl)) ?_
              simp only [Act.put, List.setIfInBounds_toArray, List.set_cons_zero, List.set_cons_succ]
              refine wl_read _ (by rfl) (by (have c := HC.out.2; have d := H1.out; go_simp; first | done | with_reducible rfl)) ?_
              simp only [Act.put, List.setIfInBounds_toArray, List.set_cons_zero, List.set_cons_succ]
              refine wl_read _ (by rfl) (by (go_simp; first | done | with_reducible rfl)) ?_
              simp only [Act.put, List.setIfInBounds_toArray, List.set_cons_zero, List.set_cons_succ]
              refine wl_read _ (by rfl) (by (go_simp; first | done | with_reducible rfl)) ?_
              simp only [Act.put, List.setIfInBounds_toArray, List.set_cons_zero, List.set_cons_succ]
              refine wl_read _ (by rfl) (by (have c := HC.out.1; have d := H2.out; go_simp; first | done | with_reducible rfl)) ?_
              simp only [Act.put, List.setIfInBounds_toArray, List.set_cons_zero, List.set_cons_succ]
              refine wl_read _ (by rfl) (by (go_simp; first | done | with_reducible rfl)) ?_
              simp only [Act.put, List.setIfInBounds_toArray, List.set_cons_zero, List.set_cons_succ]
              refine wl_read _ (by rfl) (by (go_simp; first | done | with_reducible rfl)) ?_
              simp only [Act.put, List.setIfInBounds_toArray, List.set_cons_zero, List.set_cons_succ]
              refine wl_read _ (by rfl) (exec_lay (by rfl) (by rfl) (HQl.out _ hq)) ?_
              simp only [Act.put, List.setIfInBounds_toArray, List.set_cons_zero, List.set_cons_succ]
              refine wl_read _ (by rfl) (exec_img hi.len (by rfl) (by rfl) (HQi.out _ hq)) ?_
              simp only [Act.put, List.setIfInBounds_toArray, List.set_cons_zero, List.set_cons_succ]
              refine wl_read _ (by rfl) (by (go_simp; first | done | with_reducible rfl)) ?_
              simp only [Act.put, List.setIfInBounds_toArray, List.set_cons_zero, List.set_cons_succ]
              refine wl_callv (by rfl) (by (go_simp; first | done | with_reducible rfl)) (HKO.out _ hq) (fun W hB => ?_)
              simp only [Act.put, List.setIfInBounds_toArray, List.set_cons_zero, List.set_cons_succ]
              have hq := HQ.out _ _ hq hB
              clear hB
              refine wl_read _ (by rfl) (by (go_simp; first | done | with_reducible rfl)) ?_
              simp only [Act.put, List.setIfInBounds_toArray, List.set_cons_zero, List.set_cons_succ]
              refine wl_read _ (by rfl) (by (go_simp; first | done | with_reducible rfl)) ?_
              simp only [Act.put, List.setIfInBounds_toArray, List.set_cons_zero, List.set_cons_succ]
              refine wl_out ?_
              go_upto_region 20 with (fail)
              apply wp_region_lit
              refine wl_in ?_
              refine wl_read _ (by rfl) (by (go_simp; first | done | with_reducible rfl)) ?_
              simp only [Act.put, List.setIfInBounds_toArray, List.set_cons_zero, List.set_cons_succ]
              refine wl_read _ (by rfl) (by (go_simp; first | done | with_reducible rfl)) ?_
              simp only [Act.put, List.setIfInBounds_toArray, List.set_cons_zero, List.set_cons_succ]
              refine wl_read _ (by rfl) (by (have c := HW64.out; go_simp; first | done | with_reducible rfl)) ?_
              simp only [Act.put, List.setIfInBounds_toArray, List.set_cons_zero, List.set_cons_succ]
              refine wl_read _ (by rfl) (by (have c := h32'; have d := h0'; have e := HZ.out; go_simp; first | done | with_reducible rfl)) ?_
              simp only [Act.put, List.setIfInBounds_toArray, List.set_cons_zero, List.set_cons_succ]
              refine wl_read _ (by rfl) (by (have c := HBIT.out.1 rfl; go_simp; first | done | with_reducible rfl)) ?_
              simp only [Act.put, List.setIfInBounds_toArray, List.set_cons_zero, List.set_cons_succ]
              refine wl_read _ (by rfl) (by (go_simp; first | done | with_reducible rfl)) ?_
              simp only [Act.put, List.setIfInBounds_toArray, List.set_cons_zero, List.set_cons_succ]
              refine wl_read _ (by rfl) (by (go_simp; first | done | with_reducible rfl)) ?_
              simp only [Act.put, List.setIfInBounds_toArray, List.set_cons_zero, List.set_cons_succ]
              refine wl_read _ (by rfl) (by (go_simp; first | done | with_reducible rfl)) ?_
              simp only [Act.put, List.setIfInBounds_toArray, List.set_cons_zero, List.set_cons_succ]
              refine wl_out ?_
              go_wp2_with fail
              go_roundw
              case rel => exact ⟨j + 1, HLT.out, by go_num, hq⟩
              case measure => simp [intOf]; have := HLT.out; omega
            · skip
              apply wp_region_lit
              refine wl_in ?_
              refine wl_read _ (by rfl) (by (go_simp; first | done | with_reducible rfl)) ?_
              simp only [Act.put, List.setIfInBounds_toArray, List.set_cons_zero, List.set_cons_succ]
              refine wl_read _ (by rfl) (by (go_simp; first | done | with_reducible rfl)) ?_
              simp only [Act.put, List.setIfInBounds_toArray, List.set_cons_zero, List.set_cons_succ]
              refine wl_read _ (by rfl) (by (have c := (HQl.out _ hq).cell_at 0 rfl; go_simp; first | done | with_reducible rfl)) ?_
              simp only [Act.put, List.setIfInBounds_toArray, List.set_cons_zero, List.set_cons_succ]
              refine wl_read _ (by rfl) (by (go_simp; first | done | with_reducible rfl)) ?_
              simp only [Act.put, List.setIfInBounds_toArray, List.set_cons_zero, List.set_cons_succ]
              refine wl_read _ (by rfl) (by (have c := HC.out.2; have d := H1.out; go_simp; first | done | with_reducible rfl)) ?_
              simp only [Act.put, List.setIfInBounds_toArray, List.set_cons_zero, List.set_cons_succ]
              refine wl_read _ (by rfl) (by (go_simp; first | done | with_reducible rfl)) ?_
              simp only [Act.put, List.setIfInBounds_toArray, List.set_cons_zero, List.set_cons_succ]
              refine wl_read _ (by rfl) (by (go_simp; first | done | with_reducible rfl)) ?_
              simp only [Act.put, List.setIfInBounds_toArray, List.set_cons_zero, List.set_cons_succ]
              refine wl_read _ (by rfl) (by (have c := HC.out.1; have d := H2.out; go_simp; first | done | with_reducible rfl)) ?_
              simp only [Act.put, List.setIfInBounds_toArray, List.set_cons_zero, List.set_cons_succ]
              refine wl_read _ (by rfl) (by (go_simp; first | done | with_reducible rfl)) ?_
              simp only [Act.put, List.setIfInBounds_toArray, List.set_cons_zero, List.set_cons_succ]
              refine wl_read _ (by rfl) (by (go_simp; first | done | with_reducible rfl)) ?_
              simp only [Act.put, List.setIfInBounds_toArray, List.set_cons_zero, List.set_cons_succ]
              refine wl_read _ (by rfl) (exec_lay (by rfl) (by rfl) (HQl.out _ hq)) ?_
              simp only [Act.put, List.setIfInBounds_toArray, List.set_cons_zero, List.set_cons_succ]
              refine wl_read _ (by rfl) (exec_img hi.len (by rfl) (by rfl) (HQi.out _ hq)) ?_
              simp only [Act.put, List.setIfInBounds_toArray, List.set_cons_zero, List.set_cons_succ]
              refine wl_read _ (by rfl) (by (go_simp; first | done | with_reducible rfl)) ?_
              simp only [Act.put, List.setIfInBounds_toArray, List.set_cons_zero, List.set_cons_succ]
              refine wl_callv (by rfl) (by (go_simp; first | done | with_reducible rfl)) (HKO.out _ hq) (fun W hB => ?_)
              simp only [Act.put, List.setIfInBounds_toArray, List.set_cons_zero, List.set_cons_succ]
              have hq := HQ.out _ _ hq hB
              clear hB
              refine wl_read _ (by rfl) (by (go_simp; first | done | with_reducible rfl)) ?_
              simp only [Act.put, List.setIfInBounds_toArray, List.set_cons_zero, List.set_cons_succ]
              refine wl_read _ (by rfl) (by (go_simp; first | done | with_reducible rfl)) ?_
              simp only [Act.put, List.setIfInBounds_toArray, List.set_cons_zero, List.set_cons_succ]
              refine wl_out ?_
              go_upto_region 20 with (fail)
              apply wp_region_lit
              refine wl_in ?_
              refine wl_read _ (by rfl) (by (go_simp; first | done | with_reducible rfl)) ?_
              simp only [Act.put, List.setIfInBounds_toArray, List.set_cons_zero, List.set_cons_succ]
              refine wl_read _ (by rfl) (by (go_simp; first | done | with_reducible rfl)) ?_
              simp only [Act.put, List.setIfInBounds_toArray, List.set_cons_zero, List.set_cons_succ]
              refine wl_read _ (by rfl) (by (have c := HW64.out; go_simp; first | done | with_reducible rfl)) ?_
              simp only [Act.put, List.setIfInBounds_toArray, List.set_cons_zero, List.set_cons_succ]
              refine wl_read _ (by rfl) (by (have c := h32'; have d := h0'; have e := HZ.out; go_simp; first | done | with_reducible rfl)) ?_
              simp only [Act.put, List.setIfInBounds_toArray, List.set_cons_zero, List.set_cons_succ]
              refine wl_read _ (by rfl) (by (have c := HBIT.out.2 rfl; go_simp; first | done | with_reducible rfl)) ?_
              simp only [Act.put, List.setIfInBounds_toArray, List.set_cons_zero, List.set_cons_succ]
              refine wl_read _ (by rfl) (by (go_simp; first | done | with_reducible rfl)) ?_
              simp only [Act.put, List.setIfInBounds_toArray, List.set_cons_zero, List.set_cons_succ]
              refine wl_read _ (by rfl) (by (go_simp; first | done | with_reducible rfl)) ?_
              simp only [Act.put, List.setIfInBounds_toArray, List.set_cons_zero, List.set_cons_succ]
              refine wl_read _ (by rfl) (by (go_simp; first | done | with_reducible rfl)) ?_
              simp only [Act.put, List.setIfInBounds_toArray, List.set_cons_zero, List.set_cons_succ]
              refine wl_out ?_
              go_wp2_with fail
              go_roundw
              case rel => exact ⟨j + 1, HLT.out, by go_num, hq⟩
              case measure => simp [intOf]; have := HLT.out; omega
          · have h2' : ¬ (j : Int) < 24 := by omega
            rw [show decide (j < cntI l) = false from decide_eq_false (by unfold cntI; omega), Bool.false_and] at hbit
            subst hbit
            have h1' : (j : Int) < (l.secs.length : Nat) := by omega
            apply wp_region_lit
            refine wl_in ?_
            refine wl_read _ (by rfl) (by (go_simp; first | done | with_reducible rfl)) ?_
            simp only [Act.put, List.setIfInBounds_toArray, List.set_cons_zero, List.set_cons_succ]
            refine wl_read _ (by rfl) (by (go_simp; first | done | with_reducible rfl)) ?_
            simp only [Act.put, List.setIfInBounds_toArray, List.set_cons_zero, List.set_cons_succ]
            refine wl_read _ (by rfl) (by (have c := (HQl.out _ hq).cell_at 0 rfl; go_simp; first | done | with_reducible rfl)) ?_
            simp only [Act.put, List.setIfInBounds_toArray, List.set_cons_zero, List.set_cons_succ]
            refine wl_read _ (by rfl) (by (go_simp; first | done | with_reducible rfl)) ?_
            simp only [Act.put, List.setIfInBounds_toArray, List.set_cons_zero, List.set_cons_succ]
            refine wl_read _ (by rfl) (by (have c := h1; have d := h1'; go_simp; first | done | with_reducible rfl)) ?_
            simp only [Act.put, List.setIfInBounds_toArray, List.set_cons_zero, List.set_cons_succ]
            refine wl_read _ (by rfl) (by (go_simp; first | done | with_reducible rfl)) ?_
            simp only [Act.put, List.setIfInBounds_toArray, List.set_cons_zero, List.set_cons_succ]
            refine wl_read _ (by rfl) (by (go_simp; first | done | with_reducible rfl)) ?_
            simp only [Act.put, List.setIfInBounds_toArray, List.set_cons_zero, List.set_cons_succ]
            refine wl_read _ (by rfl) (by (have c := h2; have d := h2'; go_simp; first | done | with_reducible rfl)) ?_
            simp only [Act.put, List.setIfInBounds_toArray, List.set_cons_zero, List.set_cons_succ]
            refine wl_read _ (by rfl) (by (go_simp; first | done | with_reducible rfl)) ?_
            simp only [Act.put, List.setIfInBounds_toArray, List.set_cons_zero, List.set_cons_succ]
            refine wl_read _ (by rfl) (by (go_simp; first | done | with_reducible rfl)) ?_
            simp only [Act.put, List.setIfInBounds_toArray, List.set_cons_zero, List.set_cons_succ]
            refine wl_skip (by kernel_rfl) ?_
            simp only [Act.put, List.setIfInBounds_toArray, List.set_cons_zero, List.set_cons_succ]
            refine wl_skip (by kernel_rfl) ?_
            simp only [Act.put, List.setIfInBounds_toArray, List.set_cons_zero, List.set_cons_succ]
            refine wl_skip (by kernel_rfl) ?_
            simp only [Act.put, List.setIfInBounds_toArray, List.set_cons_zero, List.set_cons_succ]
            refine wl_skip (by kernel_rfl) ?_
            simp only [Act.put, List.setIfInBounds_toArray, List.set_cons_zero, List.set_cons_succ]
            refine wl_read _ (by rfl) (by (go_simp; first | done | with_reducible rfl)) ?_
            simp only [Act.put, List.setIfInBounds_toArray, List.set_cons_zero, List.set_cons_succ]
            refine wl_read _ (by rfl) (by (go_simp; first | done | with_reducible rfl)) ?_
            simp only [Act.put, List.setIfInBounds_toArray, List.set_cons_zero, List.set_cons_succ]
            refine wl_out ?_
            go_upto_region 20 with (fail)
            apply wp_region_lit
            refine wl_in ?_
            refine wl_read _ (by rfl) (by (go_simp; first | done | with_reducible rfl)) ?_
            simp only [Act.put, List.setIfInBounds_toArray, List.set_cons_zero, List.set_cons_succ]
            refine wl_read _ (by rfl) (by (go_simp; first | done | with_reducible rfl)) ?_
            simp only [Act.put, List.setIfInBounds_toArray, List.set_cons_zero, List.set_cons_succ]
            refine wl_read _ (by rfl) (by (have c := HW64.out; go_simp; first | done | with_reducible rfl)) ?_
            simp only [Act.put, List.setIfInBounds_toArray, List.set_cons_zero, List.set_cons_succ]
            refine wl_read _ (by rfl) (by (have c := h32'; have d := h0'; have e := HZ.out; go_simp; first | done | with_reducible rfl)) ?_
            simp only [Act.put, List.setIfInBounds_toArray, List.set_cons_zero, List.set_cons_succ]
            refine wl_read _ (by rfl) (by (have c := HBIT.out.1 rfl; go_simp; first | done | with_reducible rfl)) ?_
            simp only [Act.put, List.setIfInBounds_toArray, List.set_cons_zero, List.set_cons_succ]
            refine wl_read _ (by rfl) (by (go_simp; first | done | with_reducible rfl)) ?_
            simp only [Act.put, List.setIfInBounds_toArray, List.set_cons_zero, List.set_cons_succ]
            refine wl_read _ (by rfl) (by (go_simp; first | done | with_reducible rfl)) ?_
            simp only [Act.put, List.setIfInBounds_toArray, List.set_cons_zero, List.set_cons_succ]
            refine wl_read _ (by rfl) (by (go_simp; first | done | with_reducible rfl)) ?_
            simp only [Act.put, List.setIfInBounds_toArray, List.set_cons_zero, List.set_cons_succ]
            refine wl_out ?_
            go_wp2_with fail
            go_roundw
            case rel => exact ⟨j + 1, HLT.out, by go_num, hq⟩
            case measure => simp [intOf]; have := HLT.out; omega
        · have h1' : ¬ (j : Int) < (l.secs.length : Nat) := by omega
          rw [show decide (j < cntI l) = false from decide_eq_false (by unfold cntI; omega), Bool.false_and] at hbit
          subst hbit
          apply wp_region_lit
          refine wl_in ?_
          refine wl_read _ (by rfl) (by (go_simp; first | done | with_reducible rfl)) ?_
          simp only [Act.put, List.setIfInBounds_toArray, List.set_cons_zero, List.set_cons_succ]
          refine wl_read _ (by rfl) (by (go_simp; first | done | with_reducible rfl)) ?_
          simp only [Act.put, List.setIfInBounds_toArray, List.set_cons_zero, List.set_cons_succ]
          refine wl_read _ (by rfl) (by (have c := (HQl.out _ hq).cell_at 0 rfl; go_simp; first | done | with_reducible rfl)) ?_
          simp only [Act.put, List.setIfInBounds_toArray, List.set_cons_zero, List.set_cons_succ]
          refine wl_read _ (by rfl) (by (go_simp; first | done | with_reducible rfl)) ?_
          simp only [Act.put, List.setIfInBounds_toArray, List.set_cons_zero, List.set_cons_succ]
          refine wl_read _ (by rfl) (by (have c := h1; have d := h1'; go_simp; first | done | with_reducible rfl)) ?_
          simp only [Act.put, List.setIfInBounds_toArray, List.set_cons_zero, List.set_cons_succ]
          refine wl_read _ (by rfl) (by (go_simp; first | done | with_reducible rfl)) ?_
          simp only [Act.put, List.setIfInBounds_toArray, List.set_cons_zero, List.set_cons_succ]
          refine wl_skip (by kernel_rfl) ?_
          simp only [Act.put, List.setIfInBounds_toArray, List.set_cons_zero, List.set_cons_succ]
          refine wl_skip (by kernel_rfl) ?_
          simp only [Act.put, List.setIfInBounds_toArray, List.set_cons_zero, List.set_cons_succ]
          refine wl_read _ (by rfl) (by (go_simp; first | done | with_reducible rfl)) ?_
          simp only [Act.put, List.setIfInBounds_toArray, List.set_cons_zero, List.set_cons_succ]
          refine wl_read _ (by rfl) (by (go_simp; first | done | with_reducible rfl)) ?_
          simp only [Act.put, List.setIfInBounds_toArray, List.set_cons_zero, List.set_cons_succ]
          refine wl_skip (by kernel_rfl) ?_
          simp only [Act.put, List.setIfInBounds_toArray, List.set_cons_zero, List.set_cons_succ]
          refine wl_skip (by kernel_rfl) ?_
          simp only [Act.put, List.setIfInBounds_toArray, List.set_cons_zero, List.set_cons_succ]
          refine wl_skip (by kernel_rfl) ?_
          simp only [Act.put, List.setIfInBounds_toArray, List.set_cons_zero, List.set_cons_succ]
          refine wl_skip (by kernel_rfl) ?_
          simp only [Act.put, List.setIfInBounds_toArray, List.set_cons_zero, List.set_cons_succ]
          refine wl_read _ (by rfl) (by (go_simp; first | done | with_reducible rfl)) ?_
          simp only [Act.put, List.setIfInBounds_toArray, List.set_cons_zero, List.set_cons_succ]
          refine wl_read _ (by rfl) (by (go_simp; first | done | with_reducible rfl)) ?_
          simp only [Act.put, List.setIfInBounds_toArray, List.set_cons_zero, List.set_cons_succ]
          refine wl_out ?_
          go_upto_region 20 with (fail)
          apply wp_region_lit
          refine wl_in ?_
          refine wl_read _ (by rfl) (by (go_simp; first | done | with_reducible rfl)) ?_
          simp only [Act.put, List.setIfInBounds_toArray, List.set_cons_zero, List.set_cons_succ]
          refine wl_read _ (by rfl) (by (go_simp; first | done | with_reducible rfl)) ?_
          simp only [Act.put, List.setIfInBounds_toArray, List.set_cons_zero, List.set_cons_succ]
          refine wl_read _ (by rfl) (by (have c := HW64.out; go_simp; first | done | with_reducible rfl)) ?_
          simp only [Act.put, List.setIfInBounds_toArray, List.set_cons_zero, List.set_cons_succ]
          refine wl_read _ (by rfl) (by (have c := h32'; have d := h0'; have e := HZ.out; go_simp; first | done | with_reducible rfl)) ?_
          simp only [Act.put, List.setIfInBounds_toArray, List.set_cons_zero, List.set_cons_succ]
          refine wl_read _ (by rfl) (by (have c := HBIT.out.1 rfl; go_simp; first | done | with_reducible rfl)) ?_
          simp only [Act.put, List.setIfInBounds_toArray, List.set_cons_zero, List.set_cons_succ]
          refine wl_read _ (by rfl) (by (go_simp; first | done | with_reducible rfl)) ?_
          simp only [Act.put, List.setIfInBounds_toArray, List.set_cons_zero, List.set_cons_succ]
          refine wl_read _ (by rfl) (by (go_simp; first | done | with_reducible rfl)) ?_
          simp only [Act.put, List.setIfInBounds_toArray, List.set_cons_zero, List.set_cons_succ]
          refine wl_read _ (by rfl) (by (go_simp; first | done | with_reducible rfl)) ?_
          simp only [Act.put, List.setIfInBounds_toArray, List.set_cons_zero, List.set_cons_succ]
          refine wl_out ?_
          go_wp2_with fail
          go_roundw
          case rel => exact ⟨j + 1, HLT.out, by go_num, hq⟩
          case measure => simp [intOf]; have := HLT.out; omega
      · obtain rfl : j = 32 := by omega
        go_wp2_with fail
        refine (KW.out _ hq).mono ?_
        rintro e W2 ⟨rfl, hB⟩
        have HB := Lib.hid (HQb.out _ (HQ.out _ _ hq hB))
        clear hB hq
        go_wp2_with fail
        go_ret
        exact ⟨rfl, HB.out⟩
  · clear hT hL hg
    go_wp2_with fail
    refine (KW.out _ hq).mono ?_
    rintro e W2 ⟨rfl, hB⟩
    have HB := Lib.hid (HQb.out _ (HQ.out _ _ hq hB))
    clear hB hq
    go_wp2_with fail
    go_ret
    exact ⟨rfl, HB.out⟩

end Go.Proofs.YtniihmafbeplaaaDoor
