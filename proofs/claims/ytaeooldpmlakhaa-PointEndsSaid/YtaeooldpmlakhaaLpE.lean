/- The walk of PointEnds. -/
import Derived.Deep.CutRange
import Derived.Test.YtaeooldpmlakhaaLpS
import Derived.Test.YtaeooldpmlakhaaRowNth
namespace Go.Proofs.Ytaeooldpmlakhaa
open Go.RowKit Go.Shelf
set_option linter.unusedVariables false
set_option linter.unusedSimpArgs false

abbrev seenC (x : Int × Bool × Bool) : List Value := [.int .i64 x.1, .bool x.2.1, .bool x.2.2]
theorem right_run {p n d : Int} (hp : posB p = true) (h0 : 0 ≤ n) (h1 : n ≤ d) (hd : d ≤ 100) (f : Bool) : rightM p n f = true := by
  unfold rightM
  rw [hp, if_pos rfl, Bool.and_eq_true, decide_eq_true_eq, decide_eq_true_eq]
  omega
theorem not_three {f o k : Bool} (h : ¬(f = false ∧ o = false ∧ k = false)) : f = true ∨ o = true ∨ k = true := by
  cases f <;> cases o <;> cases k <;> simp at h ⊢
set_option maxRecDepth 100000 in
set_option maxHeartbeats 32000000 in
theorem pointEnds_walk (p d : Int) {A : Option Addr} {c : Nat} {l : List (Int × Bool × Bool)} {w : World} (hr : Row w w.heap.size A (l.flatMap seenC)) (hc : (l.length : Int) ≤ 9223372036854775807) :
    Calls Try.prog 4 #[.int .i64 p, .int .i64 d, .slice A l.length c] w fun e w' => e = .returned (.bool true) ∧ Below w.heap.size w w' := by
  have HB := Lib.hid (Below.refl w.heap.size w)
  have hcase : (p < 0 ∨ 1 < p ∨ d < 1 ∨ 100 < d ∨ 150 < (l.length : Int)) ∨ (0 ≤ p ∧ p ≤ 1 ∧ 1 ≤ d ∧ d ≤ 100 ∧ (l.length : Int) ≤ 150) := by omega
  rcases hcase with hout | ⟨hp0, hp1, hd1, hd2, hl⟩
  · have hc' : p < 0 ∨ (¬ p < 0 ∧ 1 < p) ∨ (¬ p < 0 ∧ ¬ 1 < p ∧ d < 1) ∨ (¬ p < 0 ∧ ¬ 1 < p ∧ ¬ d < 1 ∧ 100 < d) ∨ (¬ p < 0 ∧ ¬ 1 < p ∧ ¬ d < 1 ∧ ¬ 100 < d ∧ 150 < (l.length : Int)) := by omega
    clear hr hc hout
    rcases hc' with h0 | ⟨h0, h1⟩ | ⟨h0, h1, h2⟩ | ⟨h0, h1, h2, h3⟩ | ⟨h0, h1, h2, h3, h4⟩
    all_goals
      go_enter Try.func4, Try.ntmps4
      go_wp2_with fail
      refine (wakes16_B _).mono ?_
      rintro e w9 ⟨rfl, hB⟩
      have HB3 := Lib.hid (HB.out.trans (hB.mono HB.out.size))
      clear hB HB
      go_wp2_with fail
      go_ret
      exact ⟨rfl, HB3.out⟩
  · have hpb : posB p = true := posB_iff.2 (by omega)
    have KC := Lib.hid fun W => call_B (-1) 0 false p W (x := (p, 0, false)) (by unfold callM; rw [hpb, if_pos (by rfl), if_neg (by omega)])
    have n0 : ¬ p < 0 := by omega
    have n1 : ¬ 1 < p := by omega
    have n2 : ¬ d < 1 := by omega
    have n3 : ¬ 100 < d := by omega
    have n4 : ¬ 150 < (l.length : Int) := by omega
    go_enter Try.func4, Try.ntmps4
    go_wp2_with fail
    refine (rest_B _).mono ?_
    rintro e w1 ⟨rfl, hB1⟩
    go_wp2_with fail
    refine (KC.out _).mono ?_
    rintro e w2 ⟨rfl, hB2⟩
    have HB2 := Lib.hid (hB1.trans (hB2.mono hB1.size))
    clear hB1 hB2 KC
    go_upto_region 5 with (fail)
    obtain ⟨g, hg⟩ : ∃ k, w2.heap.size = k := ⟨_, rfl⟩
    have hgw : w.heap.size ≤ g := by rw [← hg]; exact HB2.out.size
    obtain ⟨W0, hW0⟩ : ∃ W0, w2.alloc (.cells #[.int .i64 p, .int .i64 0, .bool false] 23) = W0 := ⟨_, rfl⟩
    have HI0 : Hid (Below w.heap.size w W0 ∧ Whole W0 g 23 (mcC p ((0 : Nat) : Int) (decide (d ≤ ((0 : Nat) : Int))))) := Lib.hid (by
      rw [← hW0]
      refine ⟨HB2.out.trans ((below1 w2 _).mono HB2.out.size), ?_⟩
      rw [decide_eq_false (by omega)]
      exact Whole.new_at _ _ (mcC p 0 false) _ hg.symm)
    rw [hW0, hg]
    clear hW0 hg HB2 n0 n1 n2 n3 n4
    go_wp2_with fail
    go_loopw [8, 9] (fun n i wr => ∃ (q j : Nat), j ≤ l.length ∧ (q : Int) ≤ d ∧ n = .int .i64 q ∧ i = .int .i64 j ∧ Hid (Below w.heap.size w wr ∧ Whole wr g 23 (mcC p ((q : Nat) : Int) (decide (d ≤ ((q : Nat) : Int)))))) (fun _ i _ => l.length - (intOf i).toNat)
    case atStart => exact ⟨0, 0, by omega, by omega, rfl, rfl, HI0⟩
    case round =>
      clear HI0
      obtain ⟨n, j, hj, hnd, rfl, rfl, HI⟩ := hrel
      obtain ⟨wa, rfl⟩ : ∃ W, W = wr := ⟨wr, rfl⟩
      by_cases hlt : j < l.length
      · have hlt' : (j : Int) < l.length := by omega
        have hwj : wrap64 ((j : Int) + 1) = (j : Int) + 1 := by unfold wrap64; omega
        have HLT := Lib.hid hlt
        obtain ⟨⟨a', o, k⟩, hx⟩ : ∃ x, l[j]? = some x := ⟨_, List.getElem?_eq_getElem hlt⟩
        obtain ⟨b, off, hA, _, hc0, hcc⟩ := (hr.below HI.out.1).nth (n := 3) (fun _ => rfl) (by omega) hx
        have c0 := hc0 j _ _ hx rfl
        have c1 := hcc j _ 1 _ hx rfl
        have c2 := hcc j _ 2 _ hx rfl
        rw [hA]
        have HA := Lib.hid hA
        obtain ⟨f, hf⟩ : ∃ f, decide (d ≤ ((n : Nat) : Int)) = f := ⟨_, rfl⟩
        rw [hf] at HI
        have hrn : rightM p n f = true := right_run hpb (by omega) hnd hd2 f
        obtain ⟨gs, hgs⟩ : ∃ gs, wa.heap.size = gs := ⟨_, rfl⟩
        obtain ⟨W1, hW1⟩ : ∃ W1, wa.alloc (.cells #[.int .i64 a', .bool o, .bool k] 37) = W1 := ⟨_, rfl⟩
        obtain ⟨Q, HQ, HQb, HQm, HQs, hq⟩ : ∃ Q : World → Prop, Hid (Closed Q) ∧ Hid (∀ W, Q W → Below w.heap.size w W) ∧ Hid (∀ W, Q W → Whole W g 23 (mcC p n f)) ∧ Hid (∀ W, Q W → Whole W gs 37 (seenC (a', o, k))) ∧ Q W1 :=
          ⟨fun W => Below w.heap.size w W ∧ (Whole W g 23 (mcC p n f) ∧ Whole W gs 37 (seenC (a', o, k))), Lib.hid ((Closed.below w).and ((Closed.whole _ _ _).and (Closed.whole _ _ _))), Lib.hid fun _ h => h.1, Lib.hid fun _ h => h.2.1, Lib.hid fun _ h => h.2.2, by rw [← hW1]; exact ⟨HI.out.1.trans ((below1 _ _).mono HI.out.1.size), HI.out.2.alloc _, Whole.new_at _ _ (seenC (a', o, k)) _ hgs.symm⟩⟩
        have hgg : g < gs := by rw [← hgs]; exact HI.out.2.lt
        have HND := Lib.hid hnd
        have n1 : ¬ d < (n : Int) := by omega
        have HP := Lib.hid (And.intro hp0 (And.intro hp1 (And.intro hd1 (And.intro hd2 hf))))
        clear hA hx hc0 hcc HI hlt hj hnd hp0 hp1 hd1 hd2 hf hr hl hc
        go_upto_region 9 with (fail)
        try rw [hW1]
        try rw [hgs]
        clear hW1 hgs c0 c1 c2
        have hpn : (-1 != p) = true := by rw [bne_iff_ne]; have := HP.out.1; omega
        have hpp : (p != p) = false := by simp
        have d0 : decide (0 ≤ p) = true := decide_eq_true HP.out.1
        have qr : ∀ W : World, (binOp .neq 23 (mcV (-1) 0 false) (mcV (-1) 0 false)).run Try.prog W = .ok (.bool false) W := fun W => by rw [neq_mc]; rfl
        have qe : ∀ W : World, (binOp .eql 23 (mcV (-1) 0 false) (mcV (-1) 0 false)).run Try.prog W = .ok (.bool true) W := fun W => by rw [eql_mc]; rfl
        have QN : Hid (∀ (x : Int) (y : Bool) (W : World), (binOp .eql 23 (mcV p x y) (mcV (-1) 0 false)).run Try.prog W = .ok (.bool false) W) := Lib.hid fun x y W => by
          rw [eql_mc, show eqM p x y (-1) 0 false = false from Bool.eq_false_iff.2 fun h => by have := (eqM_iff.1 h).1; have := HP.out.1; omega]
        cases e0 : (p == a')
        · have e1 : (a' == p) = false := by rw [Bool.beq_comm]; exact e0
          by_cases hfo : f = false ∧ o = false ∧ k = false
          · obtain ⟨rfl, rfl, rfl⟩ := hfo
            have hdn : ¬ d ≤ (n : Int) := of_decide_eq_false HP.out.2.2.2.2
            have hnn : ((n + 1 : Nat) : Int) ≤ d := by omega
            have hnn' : (n : Int) + 1 ≤ d := by omega
            have hd2 := HP.out.2.2.2.1
            obtain ⟨y, hy⟩ : ∃ y, decide (d ≤ (n : Int) + 1) = y := ⟨_, rfl⟩
            have hdv : drivesM p n false a' false false = p := drives_yes hrn e0
            have K5 := Lib.hid fun W => drives_B p n false a' false false W hdv
            have K7 := Lib.hid fun W => pass_B p n false a' false false d W (x := (p, (n : Int) + 1, y)) (by rw [pass_drives (by rw [hdv]; have := HP.out.1; omega), show min ((n : Int) + 1) 1000 = (n : Int) + 1 by omega, hy])
            have KR := Lib.hid fun W => right_B p ((n : Int) + 1) y W (r := true) (right_run hpb (by omega) hnn' hd2 y)
            have hwn : IntKind.i64.wrap ((n : Int) + 1) = (n : Int) + 1 := IntWalk.i64_in _ (by omega)
            have n2 : ¬ d < (n : Int) + 1 := by omega
            have q1 : ((n : Int) + 1 != (n : Int) + 1) = false := by simp
            have q2 : (y == decide (d ≤ (n : Int) + 1)) = true := by rw [hy]; simp
            have HY := Lib.hid hy
            have HNN := Lib.hid hnn
            clear hrn hdn hnn hnn' hd2 hy hdv hpb
            have m0 := (HQm.out _ hq).cell_at 0 rfl
            have m1 := (HQm.out _ hq).cell_at 1 rfl
            have m2 := (HQm.out _ hq).cell_at 2 rfl
            have s0 := (HQs.out _ hq).cell_at 0 rfl
            have s1 := (HQs.out _ hq).cell_at 1 rfl
            have s2 := (HQs.out _ hq).cell_at 2 rfl
            go_wp2_with fail
            refine (K5.out _).mono ?_
            clear m0 m1 m2 s0 s1 s2
            rintro e w3 ⟨rfl, hB⟩
            replace hq := HQ.out _ _ hq hB
            clear hB K5
            have m0 := (HQm.out _ hq).cell_at 0 rfl
            have m1 := (HQm.out _ hq).cell_at 1 rfl
            have m2 := (HQm.out _ hq).cell_at 2 rfl
            have s0 := (HQs.out _ hq).cell_at 0 rfl
            have s1 := (HQs.out _ hq).cell_at 1 rfl
            have s2 := (HQs.out _ hq).cell_at 2 rfl
            skip
            go_wp2_with fail
            refine (K7.out _).mono ?_
            clear m0 m1 m2 s0 s1 s2
            rintro e w4 ⟨rfl, hB⟩
            replace hq := HQ.out _ _ hq hB
            clear hB K7
            have m0 := (HQm.out _ hq).cell_at 0 rfl
            have m1 := (HQm.out _ hq).cell_at 1 rfl
            have m2 := (HQm.out _ hq).cell_at 2 rfl
            have f0 := (HQm.out _ hq).frozen 0
            have f1 := (HQm.out _ hq).frozen 1
            have f2 := (HQm.out _ hq).frozen 2
            go_upto_region 15 with (fail)
            clear m0 m1 m2 f0 f1 f2
            obtain ⟨R, HR, HRb, HRm, HRs, hr0⟩ : ∃ R : World → Prop, Hid (Closed R) ∧ Hid (∀ W, R W → Below w.heap.size w W) ∧ Hid (∀ W, R W → Whole W g 23 (mcC p ((n : Int) + 1) y)) ∧ Hid (∀ W, R W → Whole W gs 37 (seenC (a', false, false))) ∧ R _ :=
              ⟨fun W => Below w.heap.size w W ∧ (Whole W g 23 (mcC p ((n : Int) + 1) y) ∧ Whole W gs 37 (seenC (a', false, false))), Lib.hid ((Closed.below w).and ((Closed.whole _ _ _).and (Closed.whole _ _ _))), Lib.hid fun _ h => h.1, Lib.hid fun _ h => h.2.1, Lib.hid fun _ h => h.2.2, ⟨below_mc (HQb.out _ hq) hgw, over_mc (HQm.out _ hq), ((((HQs.out _ hq).far (p := ⟨g, 0, none⟩) (Nat.ne_of_gt hgg) _).far (p := ⟨g, 1, none⟩) (Nat.ne_of_gt hgg) _).far (p := ⟨g, 2, none⟩) (Nat.ne_of_gt hgg) _)⟩⟩
            generalize World.setCell _ _ _ = X at *
            clear hq
            have hq := hr0
            have HQ := HR
            clear hr0 HR
            obtain ⟨Q, HQR⟩ : ∃ Q : World → Prop, Q = R := ⟨R, rfl⟩
            subst HQR
            go_wp2_with fail
            have HBS : Hid (∀ W, Below X.heap.size X W → Q W) := Lib.hid (fun W hB => HQ.out _ _ hq hB)
            clear hq
            refine region_mix (Below X.heap.size X) [(0, false), (1, false), (2, false), (3, false), (4, false), (5, false), (6, false), (7, false), (8, false), (9, false), (10, false), (11, false), (12, false), (13, false)] (by kernel_rfl) (by kernel_rfl) (Below X.heap.size X) ⟨Closed.below X, fun _ h => h⟩ (Below.refl _ _).drew ?_
            simp only [pickOps, List.getElem?_cons_zero, List.getElem?_cons_succ]
            repeat (first | (refine mix_skip (by rfl) ?_; simp only [Act.put, List.setIfInBounds_toArray, List.set_cons_zero, List.set_cons_succ]) | (refine mix_read _ (by rfl) (fun W hW => by (have hW := HBS.out W hW; have m0 := HRm.out W hW; have x0 := m0.cell_at 0 rfl; have x1 := m0.cell_at 1 rfl; have x2 := m0.cell_at 2 rfl; clear m0; have m0 := HRs.out W hW; have y0 := m0.cell_at 0 rfl; have y1 := m0.cell_at 1 rfl; have y2 := m0.cell_at 2 rfl; clear m0;  go_simp; first | done | with_reducible rfl)) ?_; simp only [Act.put, List.setIfInBounds_toArray, List.set_cons_zero, List.set_cons_succ]) | (refine mix_call _ _ _ (by rfl) (fun W hW => by (have hW := HBS.out W hW; have m0 := HRm.out W hW; have x0 := m0.cell_at 0 rfl; have x1 := m0.cell_at 1 rfl; have x2 := m0.cell_at 2 rfl; clear m0; have m0 := HRs.out W hW; have y0 := m0.cell_at 0 rfl; have y1 := m0.cell_at 1 rfl; have y2 := m0.cell_at 2 rfl; clear m0;  go_simp; first | done | rfl)) (fun W hW => rest_B _) ?_; simp only [Act.put, List.setIfInBounds_toArray, List.set_cons_zero, List.set_cons_succ]) | (refine mix_call _ _ _ (by rfl) (fun W hW => by (have hW := HBS.out W hW; have m0 := HRm.out W hW; have x0 := m0.cell_at 0 rfl; have x1 := m0.cell_at 1 rfl; have x2 := m0.cell_at 2 rfl; clear m0; have m0 := HRs.out W hW; have y0 := m0.cell_at 0 rfl; have y1 := m0.cell_at 1 rfl; have y2 := m0.cell_at 2 rfl; clear m0;  go_simp; first | done | rfl)) (fun W hW => KR.out _) ?_; simp only [Act.put, List.setIfInBounds_toArray, List.set_cons_zero, List.set_cons_succ]))
            refine mix_nil (fun W hW => ?_)
            have hq := HBS.out W hW
            have HBW := Lib.hid hW
            clear hW HBS
            go_wp2_with fail
            generalize W = X1 at *
            have qf := QN.out ((n : Int) + 1) y
            go_wp2_with fail
            have HBS : Hid (∀ W, Below X1.heap.size X1 W → Q W) := Lib.hid (fun W hB => HQ.out _ _ hq hB)
            clear hq
            refine region_mix (Below X1.heap.size X1) [(0, false), (1, false), (2, false)] (by kernel_rfl) (by kernel_rfl) (Below X1.heap.size X1) ⟨Closed.below X1, fun _ h => h⟩ (Below.refl _ _).drew ?_
            simp only [pickOps, List.getElem?_cons_zero, List.getElem?_cons_succ]
            repeat (first | (refine mix_skip (by rfl) ?_; simp only [Act.put, List.setIfInBounds_toArray, List.set_cons_zero, List.set_cons_succ]) | (refine mix_read _ (by rfl) (fun W hW => by (have hW := HBS.out W hW; have m0 := HRm.out W hW; have x0 := m0.cell_at 0 rfl; have x1 := m0.cell_at 1 rfl; have x2 := m0.cell_at 2 rfl; clear m0; have m0 := HRs.out W hW; have y0 := m0.cell_at 0 rfl; have y1 := m0.cell_at 1 rfl; have y2 := m0.cell_at 2 rfl; clear m0;  go_simp; first | done | with_reducible rfl)) ?_; simp only [Act.put, List.setIfInBounds_toArray, List.set_cons_zero, List.set_cons_succ]) | (refine mix_call _ _ _ (by rfl) (fun W hW => by (have hW := HBS.out W hW; have m0 := HRm.out W hW; have x0 := m0.cell_at 0 rfl; have x1 := m0.cell_at 1 rfl; have x2 := m0.cell_at 2 rfl; clear m0; have m0 := HRs.out W hW; have y0 := m0.cell_at 0 rfl; have y1 := m0.cell_at 1 rfl; have y2 := m0.cell_at 2 rfl; clear m0;  go_simp; first | done | rfl)) (fun W hW => rest_B _) ?_; simp only [Act.put, List.setIfInBounds_toArray, List.set_cons_zero, List.set_cons_succ]))
            refine mix_nil (fun W hW => ?_)
            have hq := HBS.out W hW
            have HBW := Lib.hid hW
            clear hW HBS
            have x0 := (HRm.out _ hq).cell_at 0 rfl
            have x1 := (HRm.out _ hq).cell_at 1 rfl
            have x2 := (HRm.out _ hq).cell_at 2 rfl
            have y0 := (HRs.out _ hq).cell_at 0 rfl
            have y1 := (HRs.out _ hq).cell_at 1 rfl
            have y2 := (HRs.out _ hq).cell_at 2 rfl
            clear qf qr qe HBW
            go_wp2_with fail
            rw [hwj]
            go_roundw
            case rel => exact ⟨n + 1, j + 1, HLT.out, HNN.out, by go_num, by go_num, Lib.hid ⟨HRb.out _ hq, by have := HRm.out _ hq; rw [← HY.out] at this; exact this⟩⟩
            case measure => simp [intOf]; have := HLT.out; omega
          · have hdv : drivesM p n f a' o k = -1 := drives_no (.inr (.inr (not_three hfo)))
            have K5 := Lib.hid fun W => drives_B p n f a' o k W hdv
            have K7 := Lib.hid fun W => pass_B p n f a' o k d W (pass_still hrn hdv fun _ => e0)
            have KR := Lib.hid fun W => right_B p n f W hrn
            have q1 : ((n : Int) != (n : Int)) = false := by simp
            have q2 : (f == decide (d ≤ (n : Int))) = true := by rw [HP.out.2.2.2.2]; simp
            clear hrn hdv hpb hfo
            have m0 := (HQm.out _ hq).cell_at 0 rfl
            have m1 := (HQm.out _ hq).cell_at 1 rfl
            have m2 := (HQm.out _ hq).cell_at 2 rfl
            have s0 := (HQs.out _ hq).cell_at 0 rfl
            have s1 := (HQs.out _ hq).cell_at 1 rfl
            have s2 := (HQs.out _ hq).cell_at 2 rfl
            go_wp2_with fail
            refine (K5.out _).mono ?_
            clear m0 m1 m2 s0 s1 s2
            rintro e w3 ⟨rfl, hB⟩
            replace hq := HQ.out _ _ hq hB
            clear hB K5
            have m0 := (HQm.out _ hq).cell_at 0 rfl
            have m1 := (HQm.out _ hq).cell_at 1 rfl
            have m2 := (HQm.out _ hq).cell_at 2 rfl
            have s0 := (HQs.out _ hq).cell_at 0 rfl
            have s1 := (HQs.out _ hq).cell_at 1 rfl
            have s2 := (HQs.out _ hq).cell_at 2 rfl
            skip
            go_wp2_with fail
            refine (K7.out _).mono ?_
            clear m0 m1 m2 s0 s1 s2
            rintro e w4 ⟨rfl, hB⟩
            replace hq := HQ.out _ _ hq hB
            clear hB K7
            have m0 := (HQm.out _ hq).cell_at 0 rfl
            have m1 := (HQm.out _ hq).cell_at 1 rfl
            have m2 := (HQm.out _ hq).cell_at 2 rfl
            have f0 := (HQm.out _ hq).frozen 0
            have f1 := (HQm.out _ hq).frozen 1
            have f2 := (HQm.out _ hq).frozen 2
            go_upto_region 15 with (fail)
            clear m0 m1 m2 f0 f1 f2
            obtain ⟨R, HR, HRb, HRm, HRs, hr0⟩ : ∃ R : World → Prop, Hid (Closed R) ∧ Hid (∀ W, R W → Below w.heap.size w W) ∧ Hid (∀ W, R W → Whole W g 23 (mcC p (n : Int) f)) ∧ Hid (∀ W, R W → Whole W gs 37 (seenC (a', o, k))) ∧ R _ :=
              ⟨fun W => Below w.heap.size w W ∧ (Whole W g 23 (mcC p (n : Int) f) ∧ Whole W gs 37 (seenC (a', o, k))), Lib.hid ((Closed.below w).and ((Closed.whole _ _ _).and (Closed.whole _ _ _))), Lib.hid fun _ h => h.1, Lib.hid fun _ h => h.2.1, Lib.hid fun _ h => h.2.2, ⟨below_mc (HQb.out _ hq) hgw, over_mc (HQm.out _ hq), ((((HQs.out _ hq).far (p := ⟨g, 0, none⟩) (Nat.ne_of_gt hgg) _).far (p := ⟨g, 1, none⟩) (Nat.ne_of_gt hgg) _).far (p := ⟨g, 2, none⟩) (Nat.ne_of_gt hgg) _)⟩⟩
            generalize World.setCell _ _ _ = X at *
            clear hq
            have hq := hr0
            have HQ := HR
            clear hr0 HR
            obtain ⟨Q, HQR⟩ : ∃ Q : World → Prop, Q = R := ⟨R, rfl⟩
            subst HQR
            go_wp2_with fail
            have HBS : Hid (∀ W, Below X.heap.size X W → Q W) := Lib.hid (fun W hB => HQ.out _ _ hq hB)
            clear hq
            refine region_mix (Below X.heap.size X) [(0, false), (1, false), (2, false), (3, false), (4, false), (5, false), (6, false), (7, false), (8, false), (9, false), (10, false), (11, false), (12, false), (13, false)] (by kernel_rfl) (by kernel_rfl) (Below X.heap.size X) ⟨Closed.below X, fun _ h => h⟩ (Below.refl _ _).drew ?_
            simp only [pickOps, List.getElem?_cons_zero, List.getElem?_cons_succ]
            repeat (first | (refine mix_skip (by rfl) ?_; simp only [Act.put, List.setIfInBounds_toArray, List.set_cons_zero, List.set_cons_succ]) | (refine mix_read _ (by rfl) (fun W hW => by (have hW := HBS.out W hW; have m0 := HRm.out W hW; have x0 := m0.cell_at 0 rfl; have x1 := m0.cell_at 1 rfl; have x2 := m0.cell_at 2 rfl; clear m0; have m0 := HRs.out W hW; have y0 := m0.cell_at 0 rfl; have y1 := m0.cell_at 1 rfl; have y2 := m0.cell_at 2 rfl; clear m0;  go_simp; first | done | with_reducible rfl)) ?_; simp only [Act.put, List.setIfInBounds_toArray, List.set_cons_zero, List.set_cons_succ]) | (refine mix_call _ _ _ (by rfl) (fun W hW => by (have hW := HBS.out W hW; have m0 := HRm.out W hW; have x0 := m0.cell_at 0 rfl; have x1 := m0.cell_at 1 rfl; have x2 := m0.cell_at 2 rfl; clear m0; have m0 := HRs.out W hW; have y0 := m0.cell_at 0 rfl; have y1 := m0.cell_at 1 rfl; have y2 := m0.cell_at 2 rfl; clear m0;  go_simp; first | done | rfl)) (fun W hW => rest_B _) ?_; simp only [Act.put, List.setIfInBounds_toArray, List.set_cons_zero, List.set_cons_succ]) | (refine mix_call _ _ _ (by rfl) (fun W hW => by (have hW := HBS.out W hW; have m0 := HRm.out W hW; have x0 := m0.cell_at 0 rfl; have x1 := m0.cell_at 1 rfl; have x2 := m0.cell_at 2 rfl; clear m0; have m0 := HRs.out W hW; have y0 := m0.cell_at 0 rfl; have y1 := m0.cell_at 1 rfl; have y2 := m0.cell_at 2 rfl; clear m0;  go_simp; first | done | rfl)) (fun W hW => KR.out _) ?_; simp only [Act.put, List.setIfInBounds_toArray, List.set_cons_zero, List.set_cons_succ]))
            refine mix_nil (fun W hW => ?_)
            have hq := HBS.out W hW
            have HBW := Lib.hid hW
            clear hW HBS
            go_wp2_with fail
            generalize W = X1 at *
            have qf := QN.out (n) f
            go_wp2_with fail
            have HBS : Hid (∀ W, Below X1.heap.size X1 W → Q W) := Lib.hid (fun W hB => HQ.out _ _ hq hB)
            clear hq
            refine region_mix (Below X1.heap.size X1) [(0, false), (1, false), (2, false)] (by kernel_rfl) (by kernel_rfl) (Below X1.heap.size X1) ⟨Closed.below X1, fun _ h => h⟩ (Below.refl _ _).drew ?_
            simp only [pickOps, List.getElem?_cons_zero, List.getElem?_cons_succ]
            repeat (first | (refine mix_skip (by rfl) ?_; simp only [Act.put, List.setIfInBounds_toArray, List.set_cons_zero, List.set_cons_succ]) | (refine mix_read _ (by rfl) (fun W hW => by (have hW := HBS.out W hW; have m0 := HRm.out W hW; have x0 := m0.cell_at 0 rfl; have x1 := m0.cell_at 1 rfl; have x2 := m0.cell_at 2 rfl; clear m0; have m0 := HRs.out W hW; have y0 := m0.cell_at 0 rfl; have y1 := m0.cell_at 1 rfl; have y2 := m0.cell_at 2 rfl; clear m0;  go_simp; first | done | with_reducible rfl)) ?_; simp only [Act.put, List.setIfInBounds_toArray, List.set_cons_zero, List.set_cons_succ]) | (refine mix_call _ _ _ (by rfl) (fun W hW => by (have hW := HBS.out W hW; have m0 := HRm.out W hW; have x0 := m0.cell_at 0 rfl; have x1 := m0.cell_at 1 rfl; have x2 := m0.cell_at 2 rfl; clear m0; have m0 := HRs.out W hW; have y0 := m0.cell_at 0 rfl; have y1 := m0.cell_at 1 rfl; have y2 := m0.cell_at 2 rfl; clear m0;  go_simp; first | done | rfl)) (fun W hW => rest_B _) ?_; simp only [Act.put, List.setIfInBounds_toArray, List.set_cons_zero, List.set_cons_succ]))
            refine mix_nil (fun W hW => ?_)
            have hq := HBS.out W hW
            have HBW := Lib.hid hW
            clear hW HBS
            have x0 := (HRm.out _ hq).cell_at 0 rfl
            have x1 := (HRm.out _ hq).cell_at 1 rfl
            have x2 := (HRm.out _ hq).cell_at 2 rfl
            have y0 := (HRs.out _ hq).cell_at 0 rfl
            have y1 := (HRs.out _ hq).cell_at 1 rfl
            have y2 := (HRs.out _ hq).cell_at 2 rfl
            clear qf qr qe HBW
            go_wp2_with fail
            rw [hwj]
            go_roundw
            case rel => exact ⟨n, j + 1, HLT.out, HND.out, by go_num, by go_num, Lib.hid ⟨HRb.out _ hq, by have := HRm.out _ hq; rw [← HP.out.2.2.2.2] at this; exact this⟩⟩
            case measure => simp [intOf]; have := HLT.out; omega
        · have K5 := Lib.hid fun W => drives_B p n f a' o k W (drives_no (.inr (.inl e0)))
          have K7 := Lib.hid fun W => pass_B p n f a' o k d W (pass_rest (.inr e0))
          have e1 : (a' == p) = true := by rw [Bool.beq_comm]; exact e0
          clear hrn
          have m0 := (HQm.out _ hq).cell_at 0 rfl
          have m1 := (HQm.out _ hq).cell_at 1 rfl
          have m2 := (HQm.out _ hq).cell_at 2 rfl
          have s0 := (HQs.out _ hq).cell_at 0 rfl
          have s1 := (HQs.out _ hq).cell_at 1 rfl
          have s2 := (HQs.out _ hq).cell_at 2 rfl
          go_wp2_with fail
          refine (K5.out _).mono ?_
          clear m0 m1 m2 s0 s1 s2
          rintro e w3 ⟨rfl, hB⟩
          replace hq := HQ.out _ _ hq hB
          clear hB K5
          have m0 := (HQm.out _ hq).cell_at 0 rfl
          have m1 := (HQm.out _ hq).cell_at 1 rfl
          have m2 := (HQm.out _ hq).cell_at 2 rfl
          have s0 := (HQs.out _ hq).cell_at 0 rfl
          have s1 := (HQs.out _ hq).cell_at 1 rfl
          have s2 := (HQs.out _ hq).cell_at 2 rfl
          skip
          go_wp2_with fail
          refine (K7.out _).mono ?_
          clear m0 m1 m2 s0 s1 s2
          rintro e w4 ⟨rfl, hB⟩
          replace hq := HQ.out _ _ hq hB
          clear hB K7
          have m0 := (HQm.out _ hq).cell_at 0 rfl
          have m1 := (HQm.out _ hq).cell_at 1 rfl
          have m2 := (HQm.out _ hq).cell_at 2 rfl
          have f0 := (HQm.out _ hq).frozen 0
          have f1 := (HQm.out _ hq).frozen 1
          have f2 := (HQm.out _ hq).frozen 2
          go_upto_region 15 with (fail)
          clear m0 m1 m2 f0 f1 f2
          obtain ⟨R, HR, HRb, HRm, HRs, hr0⟩ : ∃ R : World → Prop, Hid (Closed R) ∧ Hid (∀ W, R W → Below w.heap.size w W) ∧ Hid (∀ W, R W → Whole W g 23 (mcC (-1) 0 false)) ∧ Hid (∀ W, R W → Whole W gs 37 (seenC (a', o, k))) ∧ R _ :=
            ⟨fun W => Below w.heap.size w W ∧ (Whole W g 23 (mcC (-1) 0 false) ∧ Whole W gs 37 (seenC (a', o, k))), Lib.hid ((Closed.below w).and ((Closed.whole _ _ _).and (Closed.whole _ _ _))), Lib.hid fun _ h => h.1, Lib.hid fun _ h => h.2.1, Lib.hid fun _ h => h.2.2, ⟨below_mc (HQb.out _ hq) hgw, over_mc (HQm.out _ hq), ((((HQs.out _ hq).far (p := ⟨g, 0, none⟩) (Nat.ne_of_gt hgg) _).far (p := ⟨g, 1, none⟩) (Nat.ne_of_gt hgg) _).far (p := ⟨g, 2, none⟩) (Nat.ne_of_gt hgg) _)⟩⟩
          generalize World.setCell _ _ _ = X at *
          clear hq
          have hq := hr0
          have HQ := HR
          clear hr0 HR
          obtain ⟨Q, HQR⟩ : ∃ Q : World → Prop, Q = R := ⟨R, rfl⟩
          subst HQR
          go_wp2_with fail
          have HBS : Hid (∀ W, Below X.heap.size X W → Q W) := Lib.hid (fun W hB => HQ.out _ _ hq hB)
          clear hq
          refine region_mix (Below X.heap.size X) [(0, false), (1, false), (2, false), (3, false), (4, false), (5, false), (6, false), (7, false), (8, false), (9, false), (10, false), (11, false), (12, false), (13, false)] (by kernel_rfl) (by kernel_rfl) (Below X.heap.size X) ⟨Closed.below X, fun _ h => h⟩ (Below.refl _ _).drew ?_
          simp only [pickOps, List.getElem?_cons_zero, List.getElem?_cons_succ]
          repeat (first | (refine mix_skip (by rfl) ?_; simp only [Act.put, List.setIfInBounds_toArray, List.set_cons_zero, List.set_cons_succ]) | (refine mix_read _ (by rfl) (fun W hW => by (have hW := HBS.out W hW; have m0 := HRm.out W hW; have x0 := m0.cell_at 0 rfl; have x1 := m0.cell_at 1 rfl; have x2 := m0.cell_at 2 rfl; clear m0; have m0 := HRs.out W hW; have y0 := m0.cell_at 0 rfl; have y1 := m0.cell_at 1 rfl; have y2 := m0.cell_at 2 rfl; clear m0;  go_simp; first | done | with_reducible rfl)) ?_; simp only [Act.put, List.setIfInBounds_toArray, List.set_cons_zero, List.set_cons_succ]) | (refine mix_call _ _ _ (by rfl) (fun W hW => by (have hW := HBS.out W hW; have m0 := HRm.out W hW; have x0 := m0.cell_at 0 rfl; have x1 := m0.cell_at 1 rfl; have x2 := m0.cell_at 2 rfl; clear m0; have m0 := HRs.out W hW; have y0 := m0.cell_at 0 rfl; have y1 := m0.cell_at 1 rfl; have y2 := m0.cell_at 2 rfl; clear m0;  go_simp; first | done | rfl)) (fun W hW => rest_B _) ?_; simp only [Act.put, List.setIfInBounds_toArray, List.set_cons_zero, List.set_cons_succ]) | (refine mix_call _ _ _ (by rfl) (fun W hW => by (have hW := HBS.out W hW; have m0 := HRm.out W hW; have x0 := m0.cell_at 0 rfl; have x1 := m0.cell_at 1 rfl; have x2 := m0.cell_at 2 rfl; clear m0; have m0 := HRs.out W hW; have y0 := m0.cell_at 0 rfl; have y1 := m0.cell_at 1 rfl; have y2 := m0.cell_at 2 rfl; clear m0;  go_simp; first | done | rfl)) (fun W hW => right_B (-1) 0 false _ (r := true) rfl) ?_; simp only [Act.put, List.setIfInBounds_toArray, List.set_cons_zero, List.set_cons_succ]))
          refine mix_nil (fun W hW => ?_)
          have hq := HBS.out W hW
          have HBW := Lib.hid hW
          clear hW HBS
          go_wp2_with fail
          generalize W = X1 at *
          go_wp2_with fail
          have HBS : Hid (∀ W, Below X1.heap.size X1 W → Q W) := Lib.hid (fun W hB => HQ.out _ _ hq hB)
          clear hq
          refine region_mix (Below X1.heap.size X1) [(0, false), (1, false), (2, false)] (by kernel_rfl) (by kernel_rfl) (Below X1.heap.size X1) ⟨Closed.below X1, fun _ h => h⟩ (Below.refl _ _).drew ?_
          simp only [pickOps, List.getElem?_cons_zero, List.getElem?_cons_succ]
          repeat (first | (refine mix_skip (by rfl) ?_; simp only [Act.put, List.setIfInBounds_toArray, List.set_cons_zero, List.set_cons_succ]) | (refine mix_read _ (by rfl) (fun W hW => by (have hW := HBS.out W hW; have m0 := HRm.out W hW; have x0 := m0.cell_at 0 rfl; have x1 := m0.cell_at 1 rfl; have x2 := m0.cell_at 2 rfl; clear m0; have m0 := HRs.out W hW; have y0 := m0.cell_at 0 rfl; have y1 := m0.cell_at 1 rfl; have y2 := m0.cell_at 2 rfl; clear m0;  go_simp; first | done | with_reducible rfl)) ?_; simp only [Act.put, List.setIfInBounds_toArray, List.set_cons_zero, List.set_cons_succ]) | (refine mix_call _ _ _ (by rfl) (fun W hW => by (have hW := HBS.out W hW; have m0 := HRm.out W hW; have x0 := m0.cell_at 0 rfl; have x1 := m0.cell_at 1 rfl; have x2 := m0.cell_at 2 rfl; clear m0; have m0 := HRs.out W hW; have y0 := m0.cell_at 0 rfl; have y1 := m0.cell_at 1 rfl; have y2 := m0.cell_at 2 rfl; clear m0;  go_simp; first | done | rfl)) (fun W hW => rest_B _) ?_; simp only [Act.put, List.setIfInBounds_toArray, List.set_cons_zero, List.set_cons_succ]))
          refine mix_nil (fun W hW => ?_)
          have hq := HBS.out W hW
          have HBW := Lib.hid hW
          clear hW HBS
          have x0 := (HRm.out _ hq).cell_at 0 rfl
          have x1 := (HRm.out _ hq).cell_at 1 rfl
          have x2 := (HRm.out _ hq).cell_at 2 rfl
          have y0 := (HRs.out _ hq).cell_at 0 rfl
          have y1 := (HRs.out _ hq).cell_at 1 rfl
          have y2 := (HRs.out _ hq).cell_at 2 rfl
          go_wp2_with fail
          refine (drives_B (-1) 0 false 0 false false _ (x := -1) rfl).mono ?_
          rintro e w5 ⟨rfl, hB⟩
          have HB := Lib.hid ((HRb.out _ hq).trans (hB.mono (HRb.out _ hq).size))
          clear x0 x1 x2 y0 y1 y2 hB hq
          go_wp2_with fail
          refine (wakes16_B _).mono ?_
          rintro e w9 ⟨rfl, hB⟩
          have HB3 := Lib.hid (HB.out.trans (hB.mono HB.out.size))
          clear hB HB
          go_wp2_with fail
          go_ret
          exact ⟨rfl, HB3.out⟩
      · obtain rfl : j = l.length := by omega
        have HB := Lib.hid HI.out.1
        clear HI hnd hr hlt hj
        go_wp2_with fail
        refine (wakes16_B _).mono ?_
        rintro e w9 ⟨rfl, hB⟩
        have HB3 := Lib.hid (HB.out.trans (hB.mono HB.out.size))
        clear hB HB
        go_wp2_with fail
        go_ret
        exact ⟨rfl, HB3.out⟩

end Go.Proofs.Ytaeooldpmlakhaa
