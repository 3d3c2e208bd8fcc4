/- The walk of PointTells. -/
import Derived.Deep.CutRange
import Derived.Test.YtaeooldpmlakhaaPtF
namespace Go.Proofs.Ytaeooldpmlakhaa
open Go.RowKit Go.Shelf
set_option linter.unusedVariables false
set_option linter.unusedSimpArgs false

set_option maxRecDepth 100000 in
set_option maxHeartbeats 32000000 in
theorem pointTells_walk (a b : Int) (f : Bool) (p at' : Int) (o k : Bool) (d : Int) {A : Option Addr} {c : Nat} {zs : List Int} {w : World} (hr : Row w w.heap.size A (nums .i64 zs)) (hcap : zs.length ≤ c) (hc : (zs.length : Int) ≤ 9223372036854775807) :
    Calls Try.prog 3 #[mcV a b f, .int .i64 p, .int .i64 at', .bool o, .bool k, .int .i64 d, .slice A zs.length c] w fun e w' => e = .returned (.bool true) ∧ Below w.heap.size w w' := by
  obtain ⟨Q, HQ, HQb, HQm, hq⟩ := keep_mc (Closed.below w) (Below.refl _ w) 23 (mcC a b f)
  by_cases hl : (40 : Int) < (zs.length : Nat)
  · clear hr hcap hc
    go_enter Try.func3, Try.ntmps3
    go_wp2_with fail
    refine (wakes16_B _).mono ?_
    rintro e w1 ⟨rfl, hB⟩
    have HB := Lib.hid (HQb.out _ (HQ.out _ _ hq hB))
    clear hB hq
    go_wp2_with fail
    go_ret
    exact ⟨rfl, HB.out⟩
  · have KB := Lib.hid fun W (hW : Q W) => Bits_any (hr.on (HQb.out W hW)) hcap hc
    have KR := Lib.hid fun W (hW : Q W) => BitsR_any (c := c) (hr.on (HQb.out W hW)) hc
    generalize bitsN zs 0 = z0 at *
    generalize bitsN zs 1 = z1 at *
    obtain ⟨r, hrr⟩ : ∃ r, rightM a b f = r := ⟨_, rfl⟩
    obtain ⟨⟨c1, c2, c3⟩, hcc⟩ : ∃ x, callM a b f p = x := ⟨_, rfl⟩
    obtain ⟨u, hu⟩ : ∃ x, drivesM a b f at' o k = x := ⟨_, rfl⟩
    obtain ⟨⟨s1, s2, s3⟩, hs⟩ : ∃ x, passM a b f at' o k d = x := ⟨_, rfl⟩
    have K1 := Lib.hid fun W => right_B a b f W hrr
    have K2 := Lib.hid fun W => rightR_B a b f W hrr
    have K3 := Lib.hid fun W => call_B a b f p W hcc
    have K4 := Lib.hid fun W => callR_B a b f p W hcc
    have K5 := Lib.hid fun W => drives_B a b f at' o k W hu
    have K6 := Lib.hid fun W => drivesR_B a b f at' o k W hu
    have K7 := Lib.hid fun W => pass_B a b f at' o k d W hs
    have K8 := Lib.hid fun W => passR_B a b f at' o k d W hs
    have heq : ∀ (x1 x2 : Int) (x3 : Bool) (W : World), (binOp .eql 23 (mcV x1 x2 x3) (mcV x1 x2 x3)).run Try.prog W = .ok (.bool true) W := fun x1 x2 x3 W => by rw [eql_mc, eqM_iff.2 ⟨rfl, rfl, rfl⟩]
    have q0 := heq (-1) 0 false
    have q1 := heq c1 c2 c3
    have q2 := heq s1 s2 s3
    clear heq hrr hcc hu hs hr hcap hc
    go_enter Try.func3, Try.ntmps3
    go_wp2_with fail
    refine (KB.out _ hq).mono ?_
    rintro e w1 ⟨rfl, hB⟩
    replace hq := HQ.out _ _ hq hB
    clear hB KB
    go_wp2_with fail
    refine (KR.out _ hq).mono ?_
    rintro e W ⟨rfl, hB⟩
    replace hq := HQ.out _ _ hq hB
    clear hB KR
    go_wp2_with fail
    generalize W = W7 at *
    go_wp2_with fail
    have HBS : Hid (∀ W, Below W7.heap.size W7 W → Q W) := Lib.hid (fun W hB => HQ.out _ _ hq hB)
    clear hq
    refine region_mix (Below W7.heap.size W7) [(0, false), (1, false), (2, false), (3, false), (4, false), (5, false), (6, false), (7, false), (8, false), (9, false), (10, false), (11, false), (12, false), (13, false), (14, false), (15, false), (16, false), (17, false), (18, false), (19, false), (20, false), (21, false), (22, false), (23, false), (24, false), (25, false), (26, false), (27, false), (28, false), (29, false), (30, false), (31, false), (32, false), (33, false), (34, false), (35, false), (36, false), (37, false), (38, false), (39, false), (40, false), (41, false), (42, false), (43, false), (44, false), (45, false), (46, false), (47, false), (48, false), (49, false), (50, false), (51, false), (52, false), (53, false), (54, false), (55, false), (56, false), (57, false), (58, false), (59, false), (60, false)] (by kernel_rfl) (by kernel_rfl) (Below W7.heap.size W7) ⟨Closed.below W7, fun _ h => h⟩ (Below.refl _ _).drew ?_
    simp only [pickOps, List.getElem?_cons_zero, List.getElem?_cons_succ]
    repeat (first | (refine mix_skip (by rfl) ?_; simp only [Act.put, List.setIfInBounds_toArray, List.set_cons_zero, List.set_cons_succ]) | (refine mix_read _ (by rfl) (fun W hW => by (have hW := HBS.out W hW; have m0 := HQm.out W hW; have y0 := m0.cell_at 0 rfl; have y1 := m0.cell_at 1 rfl; have y2 := m0.cell_at 2 rfl; clear m0;  go_simp; first | done | with_reducible rfl)) ?_; simp only [Act.put, List.setIfInBounds_toArray, List.set_cons_zero, List.set_cons_succ]) | (refine mix_call _ _ _ (by rfl) (fun W hW => by (have hW := HBS.out W hW; have m0 := HQm.out W hW; have y0 := m0.cell_at 0 rfl; have y1 := m0.cell_at 1 rfl; have y2 := m0.cell_at 2 rfl; clear m0;  go_simp; first | done | rfl)) (fun W hW => rest_B _) ?_; simp only [Act.put, List.setIfInBounds_toArray, List.set_cons_zero, List.set_cons_succ]) | (refine mix_call _ _ _ (by rfl) (fun W hW => by (have hW := HBS.out W hW; have m0 := HQm.out W hW; have y0 := m0.cell_at 0 rfl; have y1 := m0.cell_at 1 rfl; have y2 := m0.cell_at 2 rfl; clear m0;  go_simp; first | done | rfl)) (fun W hW => restR_B _) ?_; simp only [Act.put, List.setIfInBounds_toArray, List.set_cons_zero, List.set_cons_succ]) | (refine mix_call _ _ _ (by rfl) (fun W hW => by (have hW := HBS.out W hW; have m0 := HQm.out W hW; have y0 := m0.cell_at 0 rfl; have y1 := m0.cell_at 1 rfl; have y2 := m0.cell_at 2 rfl; clear m0;  go_simp; first | done | rfl)) (fun W hW => K1.out _) ?_; simp only [Act.put, List.setIfInBounds_toArray, List.set_cons_zero, List.set_cons_succ]) | (refine mix_call _ _ _ (by rfl) (fun W hW => by (have hW := HBS.out W hW; have m0 := HQm.out W hW; have y0 := m0.cell_at 0 rfl; have y1 := m0.cell_at 1 rfl; have y2 := m0.cell_at 2 rfl; clear m0;  go_simp; first | done | rfl)) (fun W hW => K2.out _) ?_; simp only [Act.put, List.setIfInBounds_toArray, List.set_cons_zero, List.set_cons_succ]) | (refine mix_call _ _ _ (by rfl) (fun W hW => by (have hW := HBS.out W hW; have m0 := HQm.out W hW; have y0 := m0.cell_at 0 rfl; have y1 := m0.cell_at 1 rfl; have y2 := m0.cell_at 2 rfl; clear m0;  go_simp; first | done | rfl)) (fun W hW => K3.out _) ?_; simp only [Act.put, List.setIfInBounds_toArray, List.set_cons_zero, List.set_cons_succ]) | (refine mix_call _ _ _ (by rfl) (fun W hW => by (have hW := HBS.out W hW; have m0 := HQm.out W hW; have y0 := m0.cell_at 0 rfl; have y1 := m0.cell_at 1 rfl; have y2 := m0.cell_at 2 rfl; clear m0;  go_simp; first | done | rfl)) (fun W hW => K4.out _) ?_; simp only [Act.put, List.setIfInBounds_toArray, List.set_cons_zero, List.set_cons_succ]) | (refine mix_call _ _ _ (by rfl) (fun W hW => by (have hW := HBS.out W hW; have m0 := HQm.out W hW; have y0 := m0.cell_at 0 rfl; have y1 := m0.cell_at 1 rfl; have y2 := m0.cell_at 2 rfl; clear m0;  go_simp; first | done | rfl)) (fun W hW => K5.out _) ?_; simp only [Act.put, List.setIfInBounds_toArray, List.set_cons_zero, List.set_cons_succ]) | (refine mix_call _ _ _ (by rfl) (fun W hW => by (have hW := HBS.out W hW; have m0 := HQm.out W hW; have y0 := m0.cell_at 0 rfl; have y1 := m0.cell_at 1 rfl; have y2 := m0.cell_at 2 rfl; clear m0;  go_simp; first | done | rfl)) (fun W hW => K6.out _) ?_; simp only [Act.put, List.setIfInBounds_toArray, List.set_cons_zero, List.set_cons_succ]) | (refine mix_call _ _ _ (by rfl) (fun W hW => by (have hW := HBS.out W hW; have m0 := HQm.out W hW; have y0 := m0.cell_at 0 rfl; have y1 := m0.cell_at 1 rfl; have y2 := m0.cell_at 2 rfl; clear m0;  go_simp; first | done | rfl)) (fun W hW => K7.out _) ?_; simp only [Act.put, List.setIfInBounds_toArray, List.set_cons_zero, List.set_cons_succ]) | (refine mix_call _ _ _ (by rfl) (fun W hW => by (have hW := HBS.out W hW; have m0 := HQm.out W hW; have y0 := m0.cell_at 0 rfl; have y1 := m0.cell_at 1 rfl; have y2 := m0.cell_at 2 rfl; clear m0;  go_simp; first | done | rfl)) (fun W hW => K8.out _) ?_; simp only [Act.put, List.setIfInBounds_toArray, List.set_cons_zero, List.set_cons_succ]) | (refine mix_call _ _ _ (by rfl) (fun W hW => by (have hW := HBS.out W hW; have m0 := HQm.out W hW; have y0 := m0.cell_at 0 rfl; have y1 := m0.cell_at 1 rfl; have y2 := m0.cell_at 2 rfl; clear m0;  go_simp; first | done | rfl)) (fun W hW => wakes16_B _) ?_; simp only [Act.put, List.setIfInBounds_toArray, List.set_cons_zero, List.set_cons_succ]))
    refine mix_nil (fun W hW => ?_)
    have hq := HBS.out W hW
    have HBW := Lib.hid hW
    clear hW HBS
    go_wp2_with fail
    go_ret
    exact ⟨rfl, HQb.out _ hq⟩

end Go.Proofs.Ytaeooldpmlakhaa
