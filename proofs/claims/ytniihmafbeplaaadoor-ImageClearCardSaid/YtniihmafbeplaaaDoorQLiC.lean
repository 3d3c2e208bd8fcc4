/- ImageClear: a section that is not occupied was told clear at each of the last ticks. -/
import Derived.Deep.CutRange
import Derived.Test.YtniihmafbeplaaaDoorQLiC0
import Derived.Test.YtniihmafbeplaaaDoorQLiQ
namespace Go.Proofs.YtniihmafbeplaaaDoor
open Go.RowKit Go.Shelf
set_option linter.unusedVariables false
set_option linter.unusedSimpArgs false

set_option maxRecDepth 100000 in
set_option maxHeartbeats 32000000 in
theorem imageClear_walk (l : Lay) (s : Int) (A2 : Option Addr) (c2 : Nat) (ts : List Bool) (A3 : Option Addr) (c3 : Nat) (xs : List Inn) (w : World) (hT : Tops w) (hL : Lies l w) (h2 : Row w w.heap.size A2 (flags ts)) (hl2 : ts.length ≤ maxLen) (h3 : Row w w.heap.size A3 (xs.flatMap Inn.cells)) (hx : ∀ x ∈ xs, x.Wf) (hl3 : ((xs.length : Nat) : Int) ≤ 9223372036854775807) :
    Calls Tryd.prog 5 #[l.val, .int .i64 s, .slice A2 ts.length c2, .slice A3 xs.length c3] w fun e w' => e = .returned (.bool true) ∧ Below w.heap.size w w' := by
  obtain ⟨Q, HQ, HQb, HQl, hq⟩ := keep_box (Closed.below w) (Below.refl _ w) 29 l.cells
  have HQb : Hid (∀ W, Q W → Below w.heap.size w W) := HQb
  obtain ⟨g, hg⟩ : ∃ g, greatJ l = g := ⟨_, rfl⟩
  have KG : Hid (∀ W, Q W → Calls Tryd.prog 8 #[l.val] W fun e w' => e = .returned (.bool g) ∧ Below W.heap.size W w') := Lib.hid fun W hW => great15_B (Lies.closed l _ _ hL (HQb.out W hW)) hg
  have KW : Hid (∀ W, Q W → Calls Tryd.prog 9 #[] W fun e w' => e = .returned (.bool true) ∧ Below W.heap.size W w') := Lib.hid fun W hW => wakes15_B (hT.below (HQb.out W hW))
  have HR2 : Hid (∀ W, Q W → Row W W.heap.size A2 (flags ts)) := Lib.hid fun W hW => h2.on (HQb.out W hW)
  have HR3 : Hid (∀ W, Q W → Row W W.heap.size A3 (xs.flatMap Inn.cells)) := Lib.hid fun W hW => h3.on (HQb.out W hW)
  have HX := Lib.hid hx
  have HG := Lib.hid hg
  have HFL : Hid (greatJ l = false → ∀ W, Q W → Fld l W) := Lib.hid fun hg W hW => (fld_of hL hT hg).on (HQb.out W hW)
  have HL3 := Lib.hid hl3
  have HL2 : Hid (((ts.length : Nat) : Int) ≤ 9223372036854775807) := Lib.hid (by unfold maxLen at hl2; omega)
  go_enter Tryd.func5, Tryd.ntmps5
  go_upto_region 1 with (fail)
  clear hT hL h2 h3 hx hg hl2 hl3
  generalize w.alloc (.cells #[.slice l.As l.secs.length l.cs, .slice l.Ag l.sigs.length l.cg, .slice l.Ae l.exits.length l.ce, .slice l.Af l.flanks.length l.cf, .int .i64 l.t0, .int .i64 l.t1, .int .i64 l.t2, .int .i64 l.t3, .int .i64 l.t4, .int .i64 l.t5, .int .i64 l.t6] 29) = W1 at *
  go_cut [61] from 14 to 61 (fun v wx => ∃ c : Bool, v = .bool c ∧ Hid (c = false → (greatJ l = false ∧ l.secs.length ≤ 24 ∧ 0 ≤ s ∧ s < (l.secs.length : Nat) ∧ ts.length ≤ 60 ∧ 1 ≤ l.t0 ∧ l.t0 ≤ 1000 ∧ 1 ≤ l.t2 ∧ l.t2 ≤ 1000)) ∧ Hid (Q wx))
  case first =>
    apply wp_region_lit
    refine wpList_read _ (by rfl) (exec_lay (by rfl) (by rfl) (HQl.out _ hq)) ?_
    simp only [Act.put, List.setIfInBounds_toArray, List.set_cons_zero, List.set_cons_succ]
    refine wpList_callv (by rfl) (by (go_simp; first | done | rfl)) (KG.out _ hq) (fun W0 hB => ?_)
    simp only [Act.put, List.setIfInBounds_toArray, List.set_cons_zero, List.set_cons_succ]
    have hq := HQ.out _ _ hq hB
    clear hB
    cases g
    · by_cases v0 : (24 : Int) < (l.secs.length : Nat)
      · skip
        refine wl_in ?_
        refine wl_read _ (by rfl) (by (go_simp; first | done | with_reducible rfl)) ?_
        simp only [Act.put, List.setIfInBounds_toArray, List.set_cons_zero, List.set_cons_succ]
        refine wl_read _ (by rfl) (by (go_simp; first | done | with_reducible rfl)) ?_
        simp only [Act.put, List.setIfInBounds_toArray, List.set_cons_zero, List.set_cons_succ]
        refine wl_read _ (by rfl) (by (have c := (HQl.out _ hq).cell_at 0 rfl; go_simp; first | done | with_reducible rfl)) ?_
        simp only [Act.put, List.setIfInBounds_toArray, List.set_cons_zero, List.set_cons_succ]
        refine wl_read _ (by rfl) (by (go_simp; first | done | with_reducible rfl)) ?_
        simp only [Act.put, List.setIfInBounds_toArray, List.set_cons_zero, List.set_cons_succ]
        refine wl_read _ (by rfl) (by (have c := v0; have d := decide_eq_true v0; go_simp; first | done | with_reducible rfl)) ?_
        simp only [Act.put, List.setIfInBounds_toArray, List.set_cons_zero, List.set_cons_succ]
        refine wl_read _ (by rfl) (by (go_simp; first | done | with_reducible rfl)) ?_
        simp only [Act.put, List.setIfInBounds_toArray, List.set_cons_zero, List.set_cons_succ]
        refine wl_read _ (by rfl) (by (go_simp; first | done | with_reducible rfl)) ?_
        simp only [Act.put, List.setIfInBounds_toArray, List.set_cons_zero, List.set_cons_succ]
        refine wl_skip (by kernel_rfl) ?_
        simp only [Act.put, List.setIfInBounds_toArray, List.set_cons_zero, List.set_cons_succ]
        refine wl_skip (by kernel_rfl) ?_
        simp only [Act.put, List.setIfInBounds_toArray, List.set_cons_zero, List.set_cons_succ]
        refine wl_read _ (by rfl) (by (go_simp; first | done | with_reducible rfl)) ?_
        simp only [Act.put, List.setIfInBounds_toArray, List.set_cons_zero, List.set_cons_succ]
        refine wl_read _ (by rfl) (by (go_simp; first | done | with_reducible rfl)) ?_
        simp only [Act.put, List.setIfInBounds_toArray, List.set_cons_zero, List.set_cons_succ]
        refine wl_skip (by kernel_rfl) ?_
        simp only [Act.put, List.setIfInBounds_toArray, List.set_cons_zero, List.set_cons_succ]
        refine wl_skip (by kernel_rfl) ?_
        simp only [Act.put, List.setIfInBounds_toArray, List.set_cons_zero, List.set_cons_succ]
        refine wl_skip (by kernel_rfl) ?_
        simp only [Act.put, List.setIfInBounds_toArray, List.set_cons_zero, List.set_cons_succ]
        refine wl_skip (by kernel_rfl) ?_
        simp only [Act.put, List.setIfInBounds_toArray, List.set_cons_zero, List.set_cons_succ]
        refine wl_skip (by kernel_rfl) ?_
        simp only [Act.put, List.setIfInBounds_toArray, List.set_cons_zero, List.set_cons_succ]
        refine wl_read _ (by rfl) (by (go_simp; first | done | with_reducible rfl)) ?_
        simp only [Act.put, List.setIfInBounds_toArray, List.set_cons_zero, List.set_cons_succ]
        refine wl_read _ (by rfl) (by (go_simp; first | done | with_reducible rfl)) ?_
        simp only [Act.put, List.setIfInBounds_toArray, List.set_cons_zero, List.set_cons_succ]
        refine wl_skip (by kernel_rfl) ?_
        simp only [Act.put, List.setIfInBounds_toArray, List.set_cons_zero, List.set_cons_succ]
        refine wl_skip (by kernel_rfl) ?_
        simp only [Act.put, List.setIfInBounds_toArray, List.set_cons_zero, List.set_cons_succ]
        refine wl_skip (by kernel_rfl) ?_
        simp only [Act.put, List.setIfInBounds_toArray, List.set_cons_zero, List.set_cons_succ]
        refine wl_read _ (by rfl) (by (go_simp; first | done | with_reducible rfl)) ?_
        simp only [Act.put, List.setIfInBounds_toArray, List.set_cons_zero, List.set_cons_succ]
        refine wl_read _ (by rfl) (by (go_simp; first | done | with_reducible rfl)) ?_
        simp only [Act.put, List.setIfInBounds_toArray, List.set_cons_zero, List.set_cons_succ]
        refine wl_skip (by kernel_rfl) ?_
        simp only [Act.put, List.setIfInBounds_toArray, List.set_cons_zero, List.set_cons_succ]
        refine wl_skip (by kernel_rfl) ?_
        simp only [Act.put, List.setIfInBounds_toArray, List.set_cons_zero, List.set_cons_succ]
        refine wl_skip (by kernel_rfl) ?_
        simp only [Act.put, List.setIfInBounds_toArray, List.set_cons_zero, List.set_cons_succ]
        refine wl_skip (by kernel_rfl) ?_
        simp only [Act.put, List.setIfInBounds_toArray, List.set_cons_zero, List.set_cons_succ]
        refine wl_read _ (by rfl) (by (go_simp; first | done | with_reducible rfl)) ?_
        simp only [Act.put, List.setIfInBounds_toArray, List.set_cons_zero, List.set_cons_succ]
        refine wl_read _ (by rfl) (by (go_simp; first | done | with_reducible rfl)) ?_
        simp only [Act.put, List.setIfInBounds_toArray, List.set_cons_zero, List.set_cons_succ]
        refine wl_skip (by kernel_rfl) ?_
        simp only [Act.put, List.setIfInBounds_toArray, List.set_cons_zero, List.set_cons_succ]
        refine wl_skip (by kernel_rfl) ?_
        simp only [Act.put, List.setIfInBounds_toArray, List.set_cons_zero, List.set_cons_succ]
        refine wl_skip (by kernel_rfl) ?_
        simp only [Act.put, List.setIfInBounds_toArray, List.set_cons_zero, List.set_cons_succ]
        refine wl_skip (by kernel_rfl) ?_
        simp only [Act.put, List.setIfInBounds_toArray, List.set_cons_zero, List.set_cons_succ]
        refine wl_read _ (by rfl) (by (go_simp; first | done | with_reducible rfl)) ?_
        simp only [Act.put, List.setIfInBounds_toArray, List.set_cons_zero, List.set_cons_succ]
        refine wl_read _ (by rfl) (by (go_simp; first | done | with_reducible rfl)) ?_
        simp only [Act.put, List.setIfInBounds_toArray, List.set_cons_zero, List.set_cons_succ]
        refine wl_skip (by kernel_rfl) ?_
        simp only [Act.put, List.setIfInBounds_toArray, List.set_cons_zero, List.set_cons_succ]
        refine wl_skip (by kernel_rfl) ?_
        simp only [Act.put, List.setIfInBounds_toArray, List.set_cons_zero, List.set_cons_succ]
        refine wl_skip (by kernel_rfl) ?_
        simp only [Act.put, List.setIfInBounds_toArray, List.set_cons_zero, List.set_cons_succ]
        refine wl_skip (by kernel_rfl) ?_
        simp only [Act.put, List.setIfInBounds_toArray, List.set_cons_zero, List.set_cons_succ]
        refine wl_read _ (by rfl) (by (go_simp; first | done | with_reducible rfl)) ?_
        simp only [Act.put, List.setIfInBounds_toArray, List.set_cons_zero, List.set_cons_succ]
        refine wl_read _ (by rfl) (by (go_simp; first | done | with_reducible rfl)) ?_
        simp only [Act.put, List.setIfInBounds_toArray, List.set_cons_zero, List.set_cons_succ]
        refine wl_skip (by kernel_rfl) ?_
        simp only [Act.put, List.setIfInBounds_toArray, List.set_cons_zero, List.set_cons_succ]
        refine wl_skip (by kernel_rfl) ?_
        simp only [Act.put, List.setIfInBounds_toArray, List.set_cons_zero, List.set_cons_succ]
        refine wl_skip (by kernel_rfl) ?_
        simp only [Act.put, List.setIfInBounds_toArray, List.set_cons_zero, List.set_cons_succ]
        refine wl_skip (by kernel_rfl) ?_
        simp only [Act.put, List.setIfInBounds_toArray, List.set_cons_zero, List.set_cons_succ]
        refine wl_read _ (by rfl) (by (go_simp; first | done | with_reducible rfl)) ?_
        simp only [Act.put, List.setIfInBounds_toArray, List.set_cons_zero, List.set_cons_succ]
        refine wl_out ?_
        have HQ1 := Lib.hid hq
        clear hq
        go_wp2_with fail
        go_meet
        exact ⟨true, rfl, Lib.hid (fun h => by cases h), HQ1⟩
      · have n0 := v0
        clear v0
        skip
        · by_cases v1 : s < 0
          · skip
            refine wl_in ?_
            refine wl_read _ (by rfl) (by (go_simp; first | done | with_reducible rfl)) ?_
            simp only [Act.put, List.setIfInBounds_toArray, List.set_cons_zero, List.set_cons_succ]
            refine wl_read _ (by rfl) (by (go_simp; first | done | with_reducible rfl)) ?_
            simp only [Act.put, List.setIfInBounds_toArray, List.set_cons_zero, List.set_cons_succ]
            refine wl_read _ (by rfl) (by (have c := (HQl.out _ hq).cell_at 0 rfl; go_simp; first | done | with_reducible rfl)) ?_
            simp only [Act.put, List.setIfInBounds_toArray, List.set_cons_zero, List.set_cons_succ]
            refine wl_read _ (by rfl) (by (go_simp; first | done | with_reducible rfl)) ?_
            simp only [Act.put, List.setIfInBounds_toArray, List.set_cons_zero, List.set_cons_succ]
            refine wl_read _ (by rfl) (by (have c := n0; have d := decide_eq_false n0; go_simp; first | done | with_reducible rfl)) ?_
            simp only [Act.put, List.setIfInBounds_toArray, List.set_cons_zero, List.set_cons_succ]
            refine wl_read _ (by rfl) (by (go_simp; first | done | with_reducible rfl)) ?_
            simp only [Act.put, List.setIfInBounds_toArray, List.set_cons_zero, List.set_cons_succ]
            refine wl_read _ (by rfl) (by (go_simp; first | done | with_reducible rfl)) ?_
            simp only [Act.put, List.setIfInBounds_toArray, List.set_cons_zero, List.set_cons_succ]
            refine wl_read _ (by rfl) (by (go_simp; first | done | with_reducible rfl)) ?_
            simp only [Act.put, List.setIfInBounds_toArray, List.set_cons_zero, List.set_cons_succ]
            refine wl_read _ (by rfl) (by (have c := v1; have d := decide_eq_true v1; go_simp; first | done | with_reducible rfl)) ?_
            simp only [Act.put, List.setIfInBounds_toArray, List.set_cons_zero, List.set_cons_succ]
            refine wl_read _ (by rfl) (by (go_simp; first | done | with_reducible rfl)) ?_
            simp only [Act.put, List.setIfInBounds_toArray, List.set_cons_zero, List.set_cons_succ]
            refine wl_read _ (by rfl) (by (go_simp; first | done | with_reducible rfl)) ?_
            simp only [Act.put, List.setIfInBounds_toArray, List.set_cons_zero, List.set_cons_succ]
            refine wl_skip (by kernel_rfl) ?_
            simp only [Act.put, List.setIfInBounds_toArray, List.set_cons_zero, List.set_cons_succ]
            refine wl_skip (by kernel_rfl) ?_
            simp only [Act.put, List.setIfInBounds_toArray, List.set_cons_zero, List.set_cons_succ]
            refine wl_skip (by kernel_rfl) ?_
            simp only [Act.put, List.setIfInBounds_toArray, List.set_cons_zero, List.set_cons_succ]
            refine wl_skip (by kernel_rfl) ?_
            simp only [Act.put, List.setIfInBounds_toArray, List.set_cons_zero, List.set_cons_succ]
            refine wl_skip (by kernel_rfl) ?_
            simp only [Act.put, List.setIfInBounds_toArray, List.set_cons_zero, List.set_cons_succ]
            refine wl_read _ (by rfl) (by (go_simp; first | done | with_reducible rfl)) ?_
            simp only [Act.put, List.setIfInBounds_toArray, List.set_cons_zero, List.set_cons_succ]
            refine wl_read _ (by rfl) (by (go_simp; first | done | with_reducible rfl)) ?_
            simp only [Act.put, List.setIfInBounds_toArray, List.set_cons_zero, List.set_cons_succ]
            refine wl_skip (by kernel_rfl) ?_
            simp only [Act.put, List.setIfInBounds_toArray, List.set_cons_zero, List.set_cons_succ]
            refine wl_skip (by kernel_rfl) ?_
            simp only [Act.put, List.setIfInBounds_toArray, List.set_cons_zero, List.set_cons_succ]
            refine wl_skip (by kernel_rfl) ?_
            simp only [Act.put, List.setIfInBounds_toArray, List.set_cons_zero, List.set_cons_succ]
            refine wl_read _ (by rfl) (by (go_simp; first | done | with_reducible rfl)) ?_
            simp only [Act.put, List.setIfInBounds_toArray, List.set_cons_zero, List.set_cons_succ]
            refine wl_read _ (by rfl) (by (go_simp; first | done | with_reducible rfl)) ?_
            simp only [Act.put, List.setIfInBounds_toArray, List.set_cons_zero, List.set_cons_succ]
            refine wl_skip (by kernel_rfl) ?_
            simp only [Act.put, List.setIfInBounds_toArray, List.set_cons_zero, List.set_cons_succ]
            refine wl_skip (by kernel_rfl) ?_
            simp only [Act.put, List.setIfInBounds_toArray, List.set_cons_zero, List.set_cons_succ]
            refine wl_skip (by kernel_rfl) ?_
            simp only [Act.put, List.setIfInBounds_toArray, List.set_cons_zero, List.set_cons_succ]
            refine wl_skip (by kernel_rfl) ?_
            simp only [Act.put, List.setIfInBounds_toArray, List.set_cons_zero, List.set_cons_succ]
            refine wl_read _ (by rfl) (by (go_simp; first | done | with_reducible rfl)) ?_
            simp only [Act.put, List.setIfInBounds_toArray, List.set_cons_zero, List.set_cons_succ]
            refine wl_read _ (by rfl) (by (go_simp; first | done | with_reducible rfl)) ?_
            simp only [Act.put, List.setIfInBounds_toArray, List.set_cons_zero, List.set_cons_succ]
            refine wl_skip (by kernel_rfl) ?_
            simp only [Act.put, List.setIfInBounds_toArray, List.set_cons_zero, List.set_cons_succ]
            refine wl_skip (by kernel_rfl) ?_
            simp only [Act.put, List.setIfInBounds_toArray, List.set_cons_zero, List.set_cons_succ]
            refine wl_skip (by kernel_rfl) ?_
            simp only [Act.put, List.setIfInBounds_toArray, List.set_cons_zero, List.set_cons_succ]
            refine wl_skip (by kernel_rfl) ?_
            simp only [Act.put, List.setIfInBounds_toArray, List.set_cons_zero, List.set_cons_succ]
            refine wl_read _ (by rfl) (by (go_simp; first | done | with_reducible rfl)) ?_
            simp only [Act.put, List.setIfInBounds_toArray, List.set_cons_zero, List.set_cons_succ]
            refine wl_read _ (by rfl) (by (go_simp; first | done | with_reducible rfl)) ?_
            simp only [Act.put, List.setIfInBounds_toArray, List.set_cons_zero, List.set_cons_succ]
            refine wl_skip (by kernel_rfl) ?_
            simp only [Act.put, List.setIfInBounds_toArray, List.set_cons_zero, List.set_cons_succ]
            refine wl_skip (by kernel_rfl) ?_
            simp only [Act.put, List.setIfInBounds_toArray, List.set_cons_zero, List.set_cons_succ]
            refine wl_skip (by kernel_rfl) ?_
            simp only [Act.put, List.setIfInBounds_toArray, List.set_cons_zero, List.set_cons_succ]
            refine wl_skip (by kernel_rfl) ?_
            simp only [Act.put, List.setIfInBounds_toArray, List.set_cons_zero, List.set_cons_succ]
            refine wl_read _ (by rfl) (by (go_simp; first | done | with_reducible rfl)) ?_
            simp only [Act.put, List.setIfInBounds_toArray, List.set_cons_zero, List.set_cons_succ]
            refine wl_read _ (by rfl) (by (go_simp; first | done | with_reducible rfl)) ?_
            simp only [Act.put, List.setIfInBounds_toArray, List.set_cons_zero, List.set_cons_succ]
            refine wl_skip (by kernel_rfl) ?_
            simp only [Act.put, List.setIfInBounds_toArray, List.set_cons_zero, List.set_cons_succ]
            refine wl_skip (by kernel_rfl) ?_
            simp only [Act.put, List.setIfInBounds_toArray, List.set_cons_zero, List.set_cons_succ]
            refine wl_skip (by kernel_rfl) ?_
            simp only [Act.put, List.setIfInBounds_toArray, List.set_cons_zero, List.set_cons_succ]
            refine wl_skip (by kernel_rfl) ?_
            simp only [Act.put, List.setIfInBounds_toArray, List.set_cons_zero, List.set_cons_succ]
            refine wl_read _ (by rfl) (by (go_simp; first | done | with_reducible rfl)) ?_
            simp only [Act.put, List.setIfInBounds_toArray, List.set_cons_zero, List.set_cons_succ]
            refine wl_out ?_
            have HQ1 := Lib.hid hq
            clear hq
            go_wp2_with fail
            go_meet
            exact ⟨true, rfl, Lib.hid (fun h => by cases h), HQ1⟩
          · have n1 := v1
            clear v1
            skip
            · by_cases v2 : ((l.secs.length : Nat) : Int) ≤ s
              · skip
                refine wl_in ?_
                refine wl_read _ (by rfl) (by (go_simp; first | done | with_reducible rfl)) ?_
                simp only [Act.put, List.setIfInBounds_toArray, List.set_cons_zero, List.set_cons_succ]
                refine wl_read _ (by rfl) (by (go_simp; first | done | with_reducible rfl)) ?_
                simp only [Act.put, List.setIfInBounds_toArray, List.set_cons_zero, List.set_cons_succ]
                refine wl_read _ (by rfl) (by (have c := (HQl.out _ hq).cell_at 0 rfl; go_simp; first | done | with_reducible rfl)) ?_
                simp only [Act.put, List.setIfInBounds_toArray, List.set_cons_zero, List.set_cons_succ]
                refine wl_read _ (by rfl) (by (go_simp; first | done | with_reducible rfl)) ?_
                simp only [Act.put, List.setIfInBounds_toArray, List.set_cons_zero, List.set_cons_succ]
                refine wl_read _ (by rfl) (by (have c := n0; have d := decide_eq_false n0; go_simp; first | done | with_reducible rfl)) ?_
                simp only [Act.put, List.setIfInBounds_toArray, List.set_cons_zero, List.set_cons_succ]
                refine wl_read _ (by rfl) (by (go_simp; first | done | with_reducible rfl)) ?_
                simp only [Act.put, List.setIfInBounds_toArray, List.set_cons_zero, List.set_cons_succ]
                refine wl_read _ (by rfl) (by (go_simp; first | done | with_reducible rfl)) ?_
                simp only [Act.put, List.setIfInBounds_toArray, List.set_cons_zero, List.set_cons_succ]
                refine wl_read _ (by rfl) (by (go_simp; first | done | with_reducible rfl)) ?_
                simp only [Act.put, List.setIfInBounds_toArray, List.set_cons_zero, List.set_cons_succ]
                refine wl_read _ (by rfl) (by (have c := n1; have d := decide_eq_false n1; go_simp; first | done | with_reducible rfl)) ?_
                simp only [Act.put, List.setIfInBounds_toArray, List.set_cons_zero, List.set_cons_succ]
                refine wl_read _ (by rfl) (by (go_simp; first | done | with_reducible rfl)) ?_
                simp only [Act.put, List.setIfInBounds_toArray, List.set_cons_zero, List.set_cons_succ]
                refine wl_read _ (by rfl) (by (go_simp; first | done | with_reducible rfl)) ?_
                simp only [Act.put, List.setIfInBounds_toArray, List.set_cons_zero, List.set_cons_succ]
                refine wl_read _ (by rfl) (by (go_simp; first | done | with_reducible rfl)) ?_
                simp only [Act.put, List.setIfInBounds_toArray, List.set_cons_zero, List.set_cons_succ]
                refine wl_read _ (by rfl) (by (go_simp; first | done | with_reducible rfl)) ?_
                simp only [Act.put, List.setIfInBounds_toArray, List.set_cons_zero, List.set_cons_succ]
                refine wl_read _ (by rfl) (by (have c := (HQl.out _ hq).cell_at 0 rfl; go_simp; first | done | with_reducible rfl)) ?_
                simp only [Act.put, List.setIfInBounds_toArray, List.set_cons_zero, List.set_cons_succ]
                refine wl_read _ (by rfl) (by (go_simp; first | done | with_reducible rfl)) ?_
                simp only [Act.put, List.setIfInBounds_toArray, List.set_cons_zero, List.set_cons_succ]
                refine wl_read _ (by rfl) (by (have c := v2; have d := decide_eq_true v2; go_simp; first | done | with_reducible rfl)) ?_
                simp only [Act.put, List.setIfInBounds_toArray, List.set_cons_zero, List.set_cons_succ]
                refine wl_read _ (by rfl) (by (go_simp; first | done | with_reducible rfl)) ?_
                simp only [Act.put, List.setIfInBounds_toArray, List.set_cons_zero, List.set_cons_succ]
                refine wl_read _ (by rfl) (by (go_simp; first | done | with_reducible rfl)) ?_
                simp only [Act.put, List.setIfInBounds_toArray, List.set_cons_zero, List.set_cons_succ]
                refine wl_skip (by kernel_rfl) ?_
                simp only [Act.put, List.setIfInBounds_toArray, List.set_cons_zero, List.set_cons_succ]
                refine wl_skip (by kernel_rfl) ?_
                simp only [Act.put, List.setIfInBounds_toArray, List.set_cons_zero, List.set_cons_succ]
                refine wl_skip (by kernel_rfl) ?_
                simp only [Act.put, List.setIfInBounds_toArray, List.set_cons_zero, List.set_cons_succ]
                refine wl_read _ (by rfl) (by (go_simp; first | done | with_reducible rfl)) ?_
                simp only [Act.put, List.setIfInBounds_toArray, List.set_cons_zero, List.set_cons_succ]
                refine wl_read _ (by rfl) (by (go_simp; first | done | with_reducible rfl)) ?_
                simp only [Act.put, List.setIfInBounds_toArray, List.set_cons_zero, List.set_cons_succ]
                refine wl_skip (by kernel_rfl) ?_
                simp only [Act.put, List.setIfInBounds_toArray, List.set_cons_zero, List.set_cons_succ]
                refine wl_skip (by kernel_rfl) ?_
                simp only [Act.put, List.setIfInBounds_toArray, List.set_cons_zero, List.set_cons_succ]
                refine wl_skip (by kernel_rfl) ?_
                simp only [Act.put, List.setIfInBounds_toArray, List.set_cons_zero, List.set_cons_succ]
                refine wl_skip (by kernel_rfl) ?_
                simp only [Act.put, List.setIfInBounds_toArray, List.set_cons_zero, List.set_cons_succ]
                refine wl_read _ (by rfl) (by (go_simp; first | done | with_reducible rfl)) ?_
                simp only [Act.put, List.setIfInBounds_toArray, List.set_cons_zero, List.set_cons_succ]
                refine wl_read _ (by rfl) (by (go_simp; first | done | with_reducible rfl)) ?_
                simp only [Act.put, List.setIfInBounds_toArray, List.set_cons_zero, List.set_cons_succ]
                refine wl_skip (by kernel_rfl) ?_
                simp only [Act.put, List.setIfInBounds_toArray, List.set_cons_zero, List.set_cons_succ]
                refine wl_skip (by kernel_rfl) ?_
                simp only [Act.put, List.setIfInBounds_toArray, List.set_cons_zero, List.set_cons_succ]
                refine wl_skip (by kernel_rfl) ?_
                simp only [Act.put, List.setIfInBounds_toArray, List.set_cons_zero, List.set_cons_succ]
                refine wl_skip (by kernel_rfl) ?_
                simp only [Act.put, List.setIfInBounds_toArray, List.set_cons_zero, List.set_cons_succ]
                refine wl_read _ (by rfl) (by (go_simp; first | done | with_reducible rfl)) ?_
                simp only [Act.put, List.setIfInBounds_toArray, List.set_cons_zero, List.set_cons_succ]
                refine wl_read _ (by rfl) (by (go_simp; first | done | with_reducible rfl)) ?_
                simp only [Act.put, List.setIfInBounds_toArray, List.set_cons_zero, List.set_cons_succ]
                refine wl_skip (by kernel_rfl) ?_
                simp only [Act.put, List.setIfInBounds_toArray, List.set_cons_zero, List.set_cons_succ]
                refine wl_skip (by kernel_rfl) ?_
                simp only [Act.put, List.setIfInBounds_toArray, List.set_cons_zero, List.set_cons_succ]
                refine wl_skip (by kernel_rfl) ?_
                simp only [Act.put, List.setIfInBounds_toArray, List.set_cons_zero, List.set_cons_succ]
                refine wl_skip (by kernel_rfl) ?_
                simp only [Act.put, List.setIfInBounds_toArray, List.set_cons_zero, List.set_cons_succ]
                refine wl_read _ (by rfl) (by (go_simp; first | done | with_reducible rfl)) ?_
                simp only [Act.put, List.setIfInBounds_toArray, List.set_cons_zero, List.set_cons_succ]
                refine wl_read _ (by rfl) (by (go_simp; first | done | with_reducible rfl)) ?_
                simp only [Act.put, List.setIfInBounds_toArray, List.set_cons_zero, List.set_cons_succ]
                refine wl_skip (by kernel_rfl) ?_
                simp only [Act.put, List.setIfInBounds_toArray, List.set_cons_zero, List.set_cons_succ]
                refine wl_skip (by kernel_rfl) ?_
                simp only [Act.put, List.setIfInBounds_toArray, List.set_cons_zero, List.set_cons_succ]
                refine wl_skip (by kernel_rfl) ?_
                simp only [Act.put, List.setIfInBounds_toArray, List.set_cons_zero, List.set_cons_succ]
                refine wl_skip (by kernel_rfl) ?_
                simp only [Act.put, List.setIfInBounds_toArray, List.set_cons_zero, List.set_cons_succ]
                refine wl_read _ (by rfl) (by (go_simp; first | done | with_reducible rfl)) ?_
                simp only [Act.put, List.setIfInBounds_toArray, List.set_cons_zero, List.set_cons_succ]
                refine wl_out ?_
                have HQ1 := Lib.hid hq
                clear hq
                go_wp2_with fail
                go_meet
                exact ⟨true, rfl, Lib.hid (fun h => by cases h), HQ1⟩
              · have n2 := v2
                clear v2
                skip
                · by_cases v3 : (60 : Int) < (ts.length : Nat)
                  · skip
                    refine wl_in ?_
                    refine wl_read _ (by rfl) (by (go_simp; first | done | with_reducible rfl)) ?_
                    simp only [Act.put, List.setIfInBounds_toArray, List.set_cons_zero, List.set_cons_succ]
                    refine wl_read _ (by rfl) (by (go_simp; first | done | with_reducible rfl)) ?_
                    simp only [Act.put, List.setIfInBounds_toArray, List.set_cons_zero, List.set_cons_succ]
                    refine wl_read _ (by rfl) (by (have c := (HQl.out _ hq).cell_at 0 rfl; go_simp; first | done | with_reducible rfl)) ?_
                    simp only [Act.put, List.setIfInBounds_toArray, List.set_cons_zero, List.set_cons_succ]
                    refine wl_read _ (by rfl) (by (go_simp; first | done | with_reducible rfl)) ?_
                    simp only [Act.put, List.setIfInBounds_toArray, List.set_cons_zero, List.set_cons_succ]
                    refine wl_read _ (by rfl) (by (have c := n0; have d := decide_eq_false n0; go_simp; first | done | with_reducible rfl)) ?_
                    simp only [Act.put, List.setIfInBounds_toArray, List.set_cons_zero, List.set_cons_succ]
                    refine wl_read _ (by rfl) (by (go_simp; first | done | with_reducible rfl)) ?_
                    simp only [Act.put, List.setIfInBounds_toArray, List.set_cons_zero, List.set_cons_succ]
                    refine wl_read _ (by rfl) (by (go_simp; first | done | with_reducible rfl)) ?_
                    simp only [Act.put, List.setIfInBounds_toArray, List.set_cons_zero, List.set_cons_succ]
                    refine wl_read _ (by rfl) (by (go_simp; first | done | with_reducible rfl)) ?_
                    simp only [Act.put, List.setIfInBounds_toArray, List.set_cons_zero, List.set_cons_succ]
                    refine wl_read _ (by rfl) (by (have c := n1; have d := decide_eq_false n1; go_simp; first | done | with_reducible rfl)) ?_
                    simp only [Act.put, List.setIfInBounds_toArray, List.set_cons_zero, List.set_cons_succ]
                    refine wl_read _ (by rfl) (by (go_simp; first | done | with_reducible rfl)) ?_
                    simp only [Act.put, List.setIfInBounds_toArray, List.set_cons_zero, List.set_cons_succ]
                    refine wl_read _ (by rfl) (by (go_simp; first | done | with_reducible rfl)) ?_
                    simp only [Act.put, List.setIfInBounds_toArray, List.set_cons_zero, List.set_cons_succ]
                    refine wl_read _ (by rfl) (by (go_simp; first | done | with_reducible rfl)) ?_
                    simp only [Act.put, List.setIfInBounds_toArray, List.set_cons_zero, List.set_cons_succ]
                    refine wl_read _ (by rfl) (by (go_simp; first | done | with_reducible rfl)) ?_
                    simp only [Act.put, List.setIfInBounds_toArray, List.set_cons_zero, List.set_cons_succ]
                    refine wl_read _ (by rfl) (by (have c := (HQl.out _ hq).cell_at 0 rfl; go_simp; first | done | with_reducible rfl)) ?_
                    simp only [Act.put, List.setIfInBounds_toArray, List.set_cons_zero, List.set_cons_succ]
                    refine wl_read _ (by rfl) (by (go_simp; first | done | with_reducible rfl)) ?_
                    simp only [Act.put, List.setIfInBounds_toArray, List.set_cons_zero, List.set_cons_succ]
                    refine wl_read _ (by rfl) (by (have c := n2; have d := decide_eq_false n2; go_simp; first | done | with_reducible rfl)) ?_
                    simp only [Act.put, List.setIfInBounds_toArray, List.set_cons_zero, List.set_cons_succ]
                    refine wl_read _ (by rfl) (by (go_simp; first | done | with_reducible rfl)) ?_
                    simp only [Act.put, List.setIfInBounds_toArray, List.set_cons_zero, List.set_cons_succ]
                    refine wl_read _ (by rfl) (by (go_simp; first | done | with_reducible rfl)) ?_
                    simp only [Act.put, List.setIfInBounds_toArray, List.set_cons_zero, List.set_cons_succ]
                    refine wl_read _ (by rfl) (by (go_simp; first | done | with_reducible rfl)) ?_
                    simp only [Act.put, List.setIfInBounds_toArray, List.set_cons_zero, List.set_cons_succ]
                    refine wl_read _ (by rfl) (by (go_simp; first | done | with_reducible rfl)) ?_
                    simp only [Act.put, List.setIfInBounds_toArray, List.set_cons_zero, List.set_cons_succ]
                    refine wl_read _ (by rfl) (by (have c := v3; have d := decide_eq_true v3; go_simp; first | done | with_reducible rfl)) ?_
                    simp only [Act.put, List.setIfInBounds_toArray, List.set_cons_zero, List.set_cons_succ]
                    refine wl_read _ (by rfl) (by (go_simp; first | done | with_reducible rfl)) ?_
                    simp only [Act.put, List.setIfInBounds_toArray, List.set_cons_zero, List.set_cons_succ]
                    refine wl_read _ (by rfl) (by (go_simp; first | done | with_reducible rfl)) ?_
                    simp only [Act.put, List.setIfInBounds_toArray, List.set_cons_zero, List.set_cons_succ]
                    refine wl_skip (by kernel_rfl) ?_
                    simp only [Act.put, List.setIfInBounds_toArray, List.set_cons_zero, List.set_cons_succ]
                    refine wl_skip (by kernel_rfl) ?_
                    simp only [Act.put, List.setIfInBounds_toArray, List.set_cons_zero, List.set_cons_succ]
                    refine wl_skip (by kernel_rfl) ?_
                    simp only [Act.put, List.setIfInBounds_toArray, List.set_cons_zero, List.set_cons_succ]
                    refine wl_skip (by kernel_rfl) ?_
                    simp only [Act.put, List.setIfInBounds_toArray, List.set_cons_zero, List.set_cons_succ]
                    refine wl_read _ (by rfl) (by (go_simp; first | done | with_reducible rfl)) ?_
                    simp only [Act.put, List.setIfInBounds_toArray, List.set_cons_zero, List.set_cons_succ]
                    refine wl_read _ (by rfl) (by (go_simp; first | done | with_reducible rfl)) ?_
                    simp only [Act.put, List.setIfInBounds_toArray, List.set_cons_zero, List.set_cons_succ]
                    refine wl_skip (by kernel_rfl) ?_
                    simp only [Act.put, List.setIfInBounds_toArray, List.set_cons_zero, List.set_cons_succ]
                    refine wl_skip (by kernel_rfl) ?_
                    simp only [Act.put, List.setIfInBounds_toArray, List.set_cons_zero, List.set_cons_succ]
                    refine wl_skip (by kernel_rfl) ?_
                    simp only [Act.put, List.setIfInBounds_toArray, List.set_cons_zero, List.set_cons_succ]
                    refine wl_skip (by kernel_rfl) ?_
                    simp only [Act.put, List.setIfInBounds_toArray, List.set_cons_zero, List.set_cons_succ]
                    refine wl_read _ (by rfl) (by (go_simp; first | done | with_reducible rfl)) ?_
                    simp only [Act.put, List.setIfInBounds_toArray, List.set_cons_zero, List.set_cons_succ]
                    refine wl_read _ (by rfl) (by (go_simp; first | done | with_reducible rfl)) ?_
                    simp only [Act.put, List.setIfInBounds_toArray, List.set_cons_zero, List.set_cons_succ]
                    refine wl_skip (by kernel_rfl) ?_
                    simp only [Act.put, List.setIfInBounds_toArray, List.set_cons_zero, List.set_cons_succ]
                    refine wl_skip (by kernel_rfl) ?_
                    simp only [Act.put, List.setIfInBounds_toArray, List.set_cons_zero, List.set_cons_succ]
                    refine wl_skip (by kernel_rfl) ?_
                    simp only [Act.put, List.setIfInBounds_toArray, List.set_cons_zero, List.set_cons_succ]
                    refine wl_skip (by kernel_rfl) ?_
                    simp only [Act.put, List.setIfInBounds_toArray, List.set_cons_zero, List.set_cons_succ]
                    refine wl_read _ (by rfl) (by (go_simp; first | done | with_reducible rfl)) ?_
                    simp only [Act.put, List.setIfInBounds_toArray, List.set_cons_zero, List.set_cons_succ]
                    refine wl_read _ (by rfl) (by (go_simp; first | done | with_reducible rfl)) ?_
                    simp only [Act.put, List.setIfInBounds_toArray, List.set_cons_zero, List.set_cons_succ]
                    refine wl_skip (by kernel_rfl) ?_
                    simp only [Act.put, List.setIfInBounds_toArray, List.set_cons_zero, List.set_cons_succ]
                    refine wl_skip (by kernel_rfl) ?_
                    simp only [Act.put, List.setIfInBounds_toArray, List.set_cons_zero, List.set_cons_succ]
                    refine wl_skip (by kernel_rfl) ?_
                    simp only [Act.put, List.setIfInBounds_toArray, List.set_cons_zero, List.set_cons_succ]
                    refine wl_skip (by kernel_rfl) ?_
                    simp only [Act.put, List.setIfInBounds_toArray, List.set_cons_zero, List.set_cons_succ]
                    refine wl_read _ (by rfl) (by (go_simp; first | done | with_reducible rfl)) ?_
                    simp only [Act.put, List.setIfInBounds_toArray, List.set_cons_zero, List.set_cons_succ]
                    refine wl_out ?_
                    have HQ1 := Lib.hid hq
                    clear hq
                    go_wp2_with fail
                    go_meet
                    exact ⟨true, rfl, Lib.hid (fun h => by cases h), HQ1⟩
                  · have n3 := v3
                    clear v3
                    skip
                    · by_cases v4 : l.t0 < 1
                      · skip
                        refine wl_in ?_
                        refine wl_read _ (by rfl) (by (go_simp; first | done | with_reducible rfl)) ?_
                        simp only [Act.put, List.setIfInBounds_toArray, List.set_cons_zero, List.set_cons_succ]
                        refine wl_read _ (by rfl) (by (go_simp; first | done | with_reducible rfl)) ?_
                        simp only [Act.put, List.setIfInBounds_toArray, List.set_cons_zero, List.set_cons_succ]
                        refine wl_read _ (by rfl) (by (have c := (HQl.out _ hq).cell_at 0 rfl; go_simp; first | done | with_reducible rfl)) ?_
                        simp only [Act.put, List.setIfInBounds_toArray, List.set_cons_zero, List.set_cons_succ]
                        refine wl_read _ (by rfl) (by (go_simp; first | done | with_reducible rfl)) ?_
                        simp only [Act.put, List.setIfInBounds_toArray, List.set_cons_zero, List.set_cons_succ]
                        refine wl_read _ (by rfl) (by (have c := n0; have d := decide_eq_false n0; go_simp; first | done | with_reducible rfl)) ?_
                        simp only [Act.put, List.setIfInBounds_toArray, List.set_cons_zero, List.set_cons_succ]
                        refine wl_read _ (by rfl) (by (go_simp; first | done | with_reducible rfl)) ?_
                        simp only [Act.put, List.setIfInBounds_toArray, List.set_cons_zero, List.set_cons_succ]
                        refine wl_read _ (by rfl) (by (go_simp; first | done | with_reducible rfl)) ?_
                        simp only [Act.put, List.setIfInBounds_toArray, List.set_cons_zero, List.set_cons_succ]
                        refine wl_read _ (by rfl) (by (go_simp; first | done | with_reducible rfl)) ?_
                        simp only [Act.put, List.setIfInBounds_toArray, List.set_cons_zero, List.set_cons_succ]
                        refine wl_read _ (by rfl) (by (have c := n1; have d := decide_eq_false n1; go_simp; first | done | with_reducible rfl)) ?_
                        simp only [Act.put, List.setIfInBounds_toArray, List.set_cons_zero, List.set_cons_succ]
                        refine wl_read _ (by rfl) (by (go_simp; first | done | with_reducible rfl)) ?_
                        simp only [Act.put, List.setIfInBounds_toArray, List.set_cons_zero, List.set_cons_succ]
                        refine wl_read _ (by rfl) (by (go_simp; first | done | with_reducible rfl)) ?_
                        simp only [Act.put, List.setIfInBounds_toArray, List.set_cons_zero, List.set_cons_succ]
                        refine wl_read _ (by rfl) (by (go_simp; first | done | with_reducible rfl)) ?_
                        simp only [Act.put, List.setIfInBounds_toArray, List.set_cons_zero, List.set_cons_succ]
                        refine wl_read _ (by rfl) (by (go_simp; first | done | with_reducible rfl)) ?_
                        simp only [Act.put, List.setIfInBounds_toArray, List.set_cons_zero, List.set_cons_succ]
                        refine wl_read _ (by rfl) (by (have c := (HQl.out _ hq).cell_at 0 rfl; go_simp; first | done | with_reducible rfl)) ?_
                        simp only [Act.put, List.setIfInBounds_toArray, List.set_cons_zero, List.set_cons_succ]
                        refine wl_read _ (by rfl) (by (go_simp; first | done | with_reducible rfl)) ?_
                        simp only [Act.put, List.setIfInBounds_toArray, List.set_cons_zero, List.set_cons_succ]
                        refine wl_read _ (by rfl) (by (have c := n2; have d := decide_eq_false n2; go_simp; first | done | with_reducible rfl)) ?_
                        simp only [Act.put, List.setIfInBounds_toArray, List.set_cons_zero, List.set_cons_succ]
                        refine wl_read _ (by rfl) (by (go_simp; first | done | with_reducible rfl)) ?_
                        simp only [Act.put, List.setIfInBounds_toArray, List.set_cons_zero, List.set_cons_succ]
                        refine wl_read _ (by rfl) (by (go_simp; first | done | with_reducible rfl)) ?_
                        simp only [Act.put, List.setIfInBounds_toArray, List.set_cons_zero, List.set_cons_succ]
                        refine wl_read _ (by rfl) (by (go_simp; first | done | with_reducible rfl)) ?_
                        simp only [Act.put, List.setIfInBounds_toArray, List.set_cons_zero, List.set_cons_succ]
                        refine wl_read _ (by rfl) (by (go_simp; first | done | with_reducible rfl)) ?_
                        simp only [Act.put, List.setIfInBounds_toArray, List.set_cons_zero, List.set_cons_succ]
                        refine wl_read _ (by rfl) (by (have c := n3; have d := decide_eq_false n3; go_simp; first | done | with_reducible rfl)) ?_
                        simp only [Act.put, List.setIfInBounds_toArray, List.set_cons_zero, List.set_cons_succ]
                        refine wl_read _ (by rfl) (by (go_simp; first | done | with_reducible rfl)) ?_
                        simp only [Act.put, List.setIfInBounds_toArray, List.set_cons_zero, List.set_cons_succ]
                        refine wl_read _ (by rfl) (by (go_simp; first | done | with_reducible rfl)) ?_
                        simp only [Act.put, List.setIfInBounds_toArray, List.set_cons_zero, List.set_cons_succ]
                        refine wl_read _ (by rfl) (by (go_simp; first | done | with_reducible rfl)) ?_
                        simp only [Act.put, List.setIfInBounds_toArray, List.set_cons_zero, List.set_cons_succ]
                        refine wl_read _ (by rfl) (by (go_simp; first | done | with_reducible rfl)) ?_
                        simp only [Act.put, List.setIfInBounds_toArray, List.set_cons_zero, List.set_cons_succ]
                        refine wl_read _ (by rfl) (by (have c := (HQl.out _ hq).cell_at 4 rfl; go_simp; first | done | with_reducible rfl)) ?_
                        simp only [Act.put, List.setIfInBounds_toArray, List.set_cons_zero, List.set_cons_succ]
                        refine wl_read _ (by rfl) (by (have c := v4; have d := decide_eq_true v4; go_simp; first | done | with_reducible rfl)) ?_
                        simp only [Act.put, List.setIfInBounds_toArray, List.set_cons_zero, List.set_cons_succ]
                        refine wl_read _ (by rfl) (by (go_simp; first | done | with_reducible rfl)) ?_
                        simp only [Act.put, List.setIfInBounds_toArray, List.set_cons_zero, List.set_cons_succ]
                        refine wl_read _ (by rfl) (by (go_simp; first | done | with_reducible rfl)) ?_
                        simp only [Act.put, List.setIfInBounds_toArray, List.set_cons_zero, List.set_cons_succ]
                        refine wl_skip (by kernel_rfl) ?_
                        simp only [Act.put, List.setIfInBounds_toArray, List.set_cons_zero, List.set_cons_succ]
                        refine wl_skip (by kernel_rfl) ?_
                        simp only [Act.put, List.setIfInBounds_toArray, List.set_cons_zero, List.set_cons_succ]
                        refine wl_skip (by kernel_rfl) ?_
                        simp only [Act.put, List.setIfInBounds_toArray, List.set_cons_zero, List.set_cons_succ]
                        refine wl_skip (by kernel_rfl) ?_
                        simp only [Act.put, List.setIfInBounds_toArray, List.set_cons_zero, List.set_cons_succ]
                        refine wl_read _ (by rfl) (by (go_simp; first | done | with_reducible rfl)) ?_
                        simp only [Act.put, List.setIfInBounds_toArray, List.set_cons_zero, List.set_cons_succ]
                        refine wl_read _ (by rfl) (by (go_simp; first | done | with_reducible rfl)) ?_
                        simp only [Act.put, List.setIfInBounds_toArray, List.set_cons_zero, List.set_cons_succ]
                        refine wl_skip (by kernel_rfl) ?_
                        simp only [Act.put, List.setIfInBounds_toArray, List.set_cons_zero, List.set_cons_succ]
                        refine wl_skip (by kernel_rfl) ?_
                        simp only [Act.put, List.setIfInBounds_toArray, List.set_cons_zero, List.set_cons_succ]
                        refine wl_skip (by kernel_rfl) ?_
                        simp only [Act.put, List.setIfInBounds_toArray, List.set_cons_zero, List.set_cons_succ]
                        refine wl_skip (by kernel_rfl) ?_
                        simp only [Act.put, List.setIfInBounds_toArray, List.set_cons_zero, List.set_cons_succ]
                        refine wl_read _ (by rfl) (by (go_simp; first | done | with_reducible rfl)) ?_
                        simp only [Act.put, List.setIfInBounds_toArray, List.set_cons_zero, List.set_cons_succ]
                        refine wl_read _ (by rfl) (by (go_simp; first | done | with_reducible rfl)) ?_
                        simp only [Act.put, List.setIfInBounds_toArray, List.set_cons_zero, List.set_cons_succ]
                        refine wl_skip (by kernel_rfl) ?_
                        simp only [Act.put, List.setIfInBounds_toArray, List.set_cons_zero, List.set_cons_succ]
                        refine wl_skip (by kernel_rfl) ?_
                        simp only [Act.put, List.setIfInBounds_toArray, List.set_cons_zero, List.set_cons_succ]
                        refine wl_skip (by kernel_rfl) ?_
                        simp only [Act.put, List.setIfInBounds_toArray, List.set_cons_zero, List.set_cons_succ]
                        refine wl_skip (by kernel_rfl) ?_
                        simp only [Act.put, List.setIfInBounds_toArray, List.set_cons_zero, List.set_cons_succ]
                        refine wl_read _ (by rfl) (by (go_simp; first | done | with_reducible rfl)) ?_
                        simp only [Act.put, List.setIfInBounds_toArray, List.set_cons_zero, List.set_cons_succ]
                        refine wl_out ?_
                        have HQ1 := Lib.hid hq
                        clear hq
                        go_wp2_with fail
                        go_meet
                        exact ⟨true, rfl, Lib.hid (fun h => by cases h), HQ1⟩
                      · have n4 := v4
                        clear v4
                        skip
                        · by_cases v5 : 1000 < l.t0
                          · skip
                            refine wl_in ?_
                            refine wl_read _ (by rfl) (by (go_simp; first | done | with_reducible rfl)) ?_
                            simp only [Act.put, List.setIfInBounds_toArray, List.set_cons_zero, List.set_cons_succ]
                            refine wl_read _ (by rfl) (by (go_simp; first | done | with_reducible rfl)) ?_
                            simp only [Act.put, List.setIfInBounds_toArray, List.set_cons_zero, List.set_cons_succ]
                            refine wl_read _ (by rfl) (by (have c := (HQl.out _ hq).cell_at 0 rfl; go_simp; first | done | with_reducible rfl)) ?_
                            simp only [Act.put, List.setIfInBounds_toArray, List.set_cons_zero, List.set_cons_succ]
                            refine wl_read _ (by rfl) (by (go_simp; first | done | with_reducible rfl)) ?_
                            simp only [Act.put, List.setIfInBounds_toArray, List.set_cons_zero, List.set_cons_succ]
                            refine wl_read _ (by rfl) (by (have c := n0; have d := decide_eq_false n0; go_simp; first | done | with_reducible rfl)) ?_
                            simp only [Act.put, List.setIfInBounds_toArray, List.set_cons_zero, List.set_cons_succ]
                            refine wl_read _ (by rfl) (by (go_simp; first | done | with_reducible rfl)) ?_
                            simp only [Act.put, List.setIfInBounds_toArray, List.set_cons_zero, List.set_cons_succ]
                            refine wl_read _ (by rfl) (by (go_simp; first | done | with_reducible rfl)) ?_
                            simp only [Act.put, List.setIfInBounds_toArray, List.set_cons_zero, List.set_cons_succ]
                            refine wl_read _ (by rfl) (by (go_simp; first | done | with_reducible rfl)) ?_
                            simp only [Act.put, List.setIfInBounds_toArray, List.set_cons_zero, List.set_cons_succ]
                            refine wl_read _ (by rfl) (by (have c := n1; have d := decide_eq_false n1; go_simp; first | done | with_reducible rfl)) ?_
                            simp only [Act.put, List.setIfInBounds_toArray, List.set_cons_zero, List.set_cons_succ]
                            refine wl_read _ (by rfl) (by (go_simp; first | done | with_reducible rfl)) ?_
                            simp only [Act.put, List.setIfInBounds_toArray, List.set_cons_zero, List.set_cons_succ]
                            refine wl_read _ (by rfl) (by (go_simp; first | done | with_reducible rfl)) ?_
                            simp only [Act.put, List.setIfInBounds_toArray, List.set_cons_zero, List.set_cons_succ]
                            refine wl_read _ (by rfl) (by (go_simp; first | done | with_reducible rfl)) ?_
                            simp only [Act.put, List.setIfInBounds_toArray, List.set_cons_zero, List.set_cons_succ]
                            refine wl_read _ (by rfl) (by (go_simp; first | done | with_reducible rfl)) ?_
                            simp only [Act.put, List.setIfInBounds_toArray, List.set_cons_zero, List.set_cons_succ]
                            refine wl_read _ (by rfl) (by (have c := (HQl.out _ hq).cell_at 0 rfl; go_simp; first | done | with_reducible rfl)) ?_
                            simp only [Act.put, List.setIfInBounds_toArray, List.set_cons_zero, List.set_cons_succ]
                            refine wl_read _ (by rfl) (by (go_simp; first | done | with_reducible rfl)) ?_
                            simp only [Act.put, List.setIfInBounds_toArray, List.set_cons_zero, List.set_cons_succ]
                            refine wl_read _ (by rfl) (by (have c := n2; have d := decide_eq_false n2; go_simp; first | done | with_reducible rfl)) ?_
                            simp only [Act.put, List.setIfInBounds_toArray, List.set_cons_zero, List.set_cons_succ]
                            refine wl_read _ (by rfl) (by (go_simp; first | done | with_reducible rfl)) ?_
                            simp only [Act.put, List.setIfInBounds_toArray, List.set_cons_zero, List.set_cons_succ]
                            refine wl_read _ (by rfl) (by (go_simp; first | done | with_reducible rfl)) ?_
                            simp only [Act.put, List.setIfInBounds_toArray, List.set_cons_zero, List.set_cons_succ]
                            refine wl_read _ (by rfl) (by (go_simp; first | done | with_reducible rfl)) ?_
                            simp only [Act.put, List.setIfInBounds_toArray, List.set_cons_zero, List.set_cons_succ]
                            refine wl_read _ (by rfl) (by (go_simp; first | done | with_reducible rfl)) ?_
                            simp only [Act.put, List.setIfInBounds_toArray, List.set_cons_zero, List.set_cons_succ]
                            refine wl_read _ (by rfl) (by (have c := n3; have d := decide_eq_false n3; go_simp; first | done | with_reducible rfl)) ?_
                            simp only [Act.put, List.setIfInBounds_toArray, List.set_cons_zero, List.set_cons_succ]
                            refine wl_read _ (by rfl) (by (go_simp; first | done | with_reducible rfl)) ?_
                            simp only [Act.put, List.setIfInBounds_toArray, List.set_cons_zero, List.set_cons_succ]
                            refine wl_read _ (by rfl) (by (go_simp; first | done | with_reducible rfl)) ?_
                            simp only [Act.put, List.setIfInBounds_toArray, List.set_cons_zero, List.set_cons_succ]
                            refine wl_read _ (by rfl) (by (go_simp; first | done | with_reducible rfl)) ?_
                            simp only [Act.put, List.setIfInBounds_toArray, List.set_cons_zero, List.set_cons_succ]
                            refine wl_read _ (by rfl) (by (go_simp; first | done | with_reducible rfl)) ?_
                            simp only [Act.put, List.setIfInBounds_toArray, List.set_cons_zero, List.set_cons_succ]
                            refine wl_read _ (by rfl) (by (have c := (HQl.out _ hq).cell_at 4 rfl; go_simp; first | done | with_reducible rfl)) ?_
                            simp only [Act.put, List.setIfInBounds_toArray, List.set_cons_zero, List.set_cons_succ]
                            refine wl_read _ (by rfl) (by (have c := n4; have d := decide_eq_false n4; go_simp; first | done | with_reducible rfl)) ?_
                            simp only [Act.put, List.setIfInBounds_toArray, List.set_cons_zero, List.set_cons_succ]
                            refine wl_read _ (by rfl) (by (go_simp; first | done | with_reducible rfl)) ?_
                            simp only [Act.put, List.setIfInBounds_toArray, List.set_cons_zero, List.set_cons_succ]
                            refine wl_read _ (by rfl) (by (go_simp; first | done | with_reducible rfl)) ?_
                            simp only [Act.put, List.setIfInBounds_toArray, List.set_cons_zero, List.set_cons_succ]
                            refine wl_read _ (by rfl) (by (go_simp; first | done | with_reducible rfl)) ?_
                            simp only [Act.put, List.setIfInBounds_toArray, List.set_cons_zero, List.set_cons_succ]
                            refine wl_read _ (by rfl) (by (go_simp; first | done | with_reducible rfl)) ?_
                            simp only [Act.put, List.setIfInBounds_toArray, List.set_cons_zero, List.set_cons_succ]
                            refine wl_read _ (by rfl) (by (have c := (HQl.out _ hq).cell_at 4 rfl; go_simp; first | done | with_reducible rfl)) ?_
                            simp only [Act.put, List.setIfInBounds_toArray, List.set_cons_zero, List.set_cons_succ]
                            refine wl_read _ (by rfl) (by (have c := v5; have d := decide_eq_true v5; go_simp; first | done | with_reducible rfl)) ?_
                            simp only [Act.put, List.setIfInBounds_toArray, List.set_cons_zero, List.set_cons_succ]
                            refine wl_read _ (by rfl) (by (go_simp; first | done | with_reducible rfl)) ?_
                            simp only [Act.put, List.setIfInBounds_toArray, List.set_cons_zero, List.set_cons_succ]
                            refine wl_read _ (by rfl) (by (go_simp; first | done | with_reducible rfl)) ?_
                            simp only [Act.put, List.setIfInBounds_toArray, List.set_cons_zero, List.set_cons_succ]
                            refine wl_skip (by kernel_rfl) ?_
                            simp only [Act.put, List.setIfInBounds_toArray, List.set_cons_zero, List.set_cons_succ]
                            refine wl_skip (by kernel_rfl) ?_
                            simp only [Act.put, List.setIfInBounds_toArray, List.set_cons_zero, List.set_cons_succ]
                            refine wl_skip (by kernel_rfl) ?_
                            simp only [Act.put, List.setIfInBounds_toArray, List.set_cons_zero, List.set_cons_succ]
                            refine wl_skip (by kernel_rfl) ?_
                            simp only [Act.put, List.setIfInBounds_toArray, List.set_cons_zero, List.set_cons_succ]
                            refine wl_read _ (by rfl) (by (go_simp; first | done | with_reducible rfl)) ?_
                            simp only [Act.put, List.setIfInBounds_toArray, List.set_cons_zero, List.set_cons_succ]
                            refine wl_read _ (by rfl) (by (go_simp; first | done | with_reducible rfl)) ?_
                            simp only [Act.put, List.setIfInBounds_toArray, List.set_cons_zero, List.set_cons_succ]
                            refine wl_skip (by kernel_rfl) ?_
                            simp only [Act.put, List.setIfInBounds_toArray, List.set_cons_zero, List.set_cons_succ]
                            refine wl_skip (by kernel_rfl) ?_
                            simp only [Act.put, List.setIfInBounds_toArray, List.set_cons_zero, List.set_cons_succ]
                            refine wl_skip (by kernel_rfl) ?_
                            simp only [Act.put, List.setIfInBounds_toArray, List.set_cons_zero, List.set_cons_succ]
                            refine wl_skip (by kernel_rfl) ?_
                            simp only [Act.put, List.setIfInBounds_toArray, List.set_cons_zero, List.set_cons_succ]
                            refine wl_read _ (by rfl) (by (go_simp; first | done | with_reducible rfl)) ?_
                            simp only [Act.put, List.setIfInBounds_toArray, List.set_cons_zero, List.set_cons_succ]
                            refine wl_out ?_
                            have HQ1 := Lib.hid hq
                            clear hq
                            go_wp2_with fail
                            go_meet
                            exact ⟨true, rfl, Lib.hid (fun h => by cases h), HQ1⟩
                          · have n5 := v5
                            clear v5
                            skip
                            · by_cases v6 : l.t2 < 1
                              · skip
                                refine wl_in ?_
                                refine wl_read _ (by rfl) (by (go_simp; first | done | with_reducible rfl)) ?_
                                simp only [Act.put, List.setIfInBounds_toArray, List.set_cons_zero, List.set_cons_succ]
                                refine wl_read _ (by rfl) (by (go_simp; first | done | with_reducible rfl)) ?_
                                simp only [Act.put, List.setIfInBounds_toArray, List.set_cons_zero, List.set_cons_succ]
                                refine wl_read _ (by rfl) (by (have c := (HQl.out _ hq).cell_at 0 rfl; go_simp; first | done | with_reducible rfl)) ?_
                                simp only [Act.put, List.setIfInBounds_toArray, List.set_cons_zero, List.set_cons_succ]
                                refine wl_read _ (by rfl) (by (go_simp; first | done | with_reducible rfl)) ?_
                                simp only [Act.put, List.setIfInBounds_toArray, List.set_cons_zero, List.set_cons_succ]
                                refine wl_read _ (by rfl) (by (have c := n0; have d := decide_eq_false n0; go_simp; first | done | with_reducible rfl)) ?_
                                simp only [Act.put, List.setIfInBounds_toArray, List.set_cons_zero, List.set_cons_succ]
                                refine wl_read _ (by rfl) (by (go_simp; first | done | with_reducible rfl)) ?_
                                simp only [Act.put, List.setIfInBounds_toArray, List.set_cons_zero, List.set_cons_succ]
                                refine wl_read _ (by rfl) (by (go_simp; first | done | with_reducible rfl)) ?_
                                simp only [Act.put, List.setIfInBounds_toArray, List.set_cons_zero, List.set_cons_succ]
                                refine wl_read _ (by rfl) (by (go_simp; first | done | with_reducible rfl)) ?_
                                simp only [Act.put, List.setIfInBounds_toArray, List.set_cons_zero, List.set_cons_succ]
                                refine wl_read _ (by rfl) (by (have c := n1; have d := decide_eq_false n1; go_simp; first | done | with_reducible rfl)) ?_
                                simp only [Act.put, List.setIfInBounds_toArray, List.set_cons_zero, List.set_cons_succ]
                                refine wl_read _ (by rfl) (by (go_simp; first | done | with_reducible rfl)) ?_
                                simp only [Act.put, List.setIfInBounds_toArray, List.set_cons_zero, List.set_cons_succ]
                                refine wl_read _ (by rfl) (by (go_simp; first | done | with_reducible rfl)) ?_
                                simp only [Act.put, List.setIfInBounds_toArray, List.set_cons_zero, List.set_cons_succ]
                                refine wl_read _ (by rfl) (by (go_simp; first | done | with_reducible rfl)) ?_
                                simp only [Act.put, List.setIfInBounds_toArray, List.set_cons_zero, List.set_cons_succ]
                                refine wl_read _ (by rfl) (by (go_simp; first | done | with_reducible rfl)) ?_
                                simp only [Act.put, List.setIfInBounds_toArray, List.set_cons_zero, List.set_cons_succ]
                                refine wl_read _ (by rfl) (by (have c := (HQl.out _ hq).cell_at 0 rfl; go_simp; first | done | with_reducible rfl)) ?_
                                simp only [Act.put, List.setIfInBounds_toArray, List.set_cons_zero, List.set_cons_succ]
                                refine wl_read _ (by rfl) (by (go_simp; first | done | with_reducible rfl)) ?_
                                simp only [Act.put, List.setIfInBounds_toArray, List.set_cons_zero, List.set_cons_succ]
                                refine wl_read _ (by rfl) (by (have c := n2; have d := decide_eq_false n2; go_simp; first | done | with_reducible rfl)) ?_
                                simp only [Act.put, List.setIfInBounds_toArray, List.set_cons_zero, List.set_cons_succ]
                                refine wl_read _ (by rfl) (by (go_simp; first | done | with_reducible rfl)) ?_
                                simp only [Act.put, List.setIfInBounds_toArray, List.set_cons_zero, List.set_cons_succ]
                                refine wl_read _ (by rfl) (by (go_simp; first | done | with_reducible rfl)) ?_
                                simp only [Act.put, List.setIfInBounds_toArray, List.set_cons_zero, List.set_cons_succ]
                                refine wl_read _ (by rfl) (by (go_simp; first | done | with_reducible rfl)) ?_
                                simp only [Act.put, List.setIfInBounds_toArray, List.set_cons_zero, List.set_cons_succ]
                                refine wl_read _ (by rfl) (by (go_simp; first | done | with_reducible rfl)) ?_
                                simp only [Act.put, List.setIfInBounds_toArray, List.set_cons_zero, List.set_cons_succ]
                                refine wl_read _ (by rfl) (by (have c := n3; have d := decide_eq_false n3; go_simp; first | done | with_reducible rfl)) ?_
                                simp only [Act.put, List.setIfInBounds_toArray, List.set_cons_zero, List.set_cons_succ]
                                refine wl_read _ (by rfl) (by (go_simp; first | done | with_reducible rfl)) ?_
                                simp only [Act.put, List.setIfInBounds_toArray, List.set_cons_zero, List.set_cons_succ]
                                refine wl_read _ (by rfl) (by (go_simp; first | done | with_reducible rfl)) ?_
                                simp only [Act.put, List.setIfInBounds_toArray, List.set_cons_zero, List.set_cons_succ]
                                refine wl_read _ (by rfl) (by (go_simp; first | done | with_reducible rfl)) ?_
                                simp only [Act.put, List.setIfInBounds_toArray, List.set_cons_zero, List.set_cons_succ]
                                refine wl_read _ (by rfl) (by (go_simp; first | done | with_reducible rfl)) ?_
                                simp only [Act.put, List.setIfInBounds_toArray, List.set_cons_zero, List.set_cons_succ]
                                refine wl_read _ (by rfl) (by (have c := (HQl.out _ hq).cell_at 4 rfl; go_simp; first | done | with_reducible rfl)) ?_
                                simp only [Act.put, List.setIfInBounds_toArray, List.set_cons_zero, List.set_cons_succ]
                                refine wl_read _ (by rfl) (by (have c := n4; have d := decide_eq_false n4; go_simp; first | done | with_reducible rfl)) ?_
                                simp only [Act.put, List.setIfInBounds_toArray, List.set_cons_zero, List.set_cons_succ]
                                refine wl_read _ (by rfl) (by (go_simp; first | done | with_reducible rfl)) ?_
                                simp only [Act.put, List.setIfInBounds_toArray, List.set_cons_zero, List.set_cons_succ]
                                refine wl_read _ (by rfl) (by (go_simp; first | done | with_reducible rfl)) ?_
                                simp only [Act.put, List.setIfInBounds_toArray, List.set_cons_zero, List.set_cons_succ]
                                refine wl_read _ (by rfl) (by (go_simp; first | done | with_reducible rfl)) ?_
                                simp only [Act.put, List.setIfInBounds_toArray, List.set_cons_zero, List.set_cons_succ]
                                refine wl_read _ (by rfl) (by (go_simp; first | done | with_reducible rfl)) ?_
                                simp only [Act.put, List.setIfInBounds_toArray, List.set_cons_zero, List.set_cons_succ]
                                refine wl_read _ (by rfl) (by (have c := (HQl.out _ hq).cell_at 4 rfl; go_simp; first | done | with_reducible rfl)) ?_
                                simp only [Act.put, List.setIfInBounds_toArray, List.set_cons_zero, List.set_cons_succ]
                                refine wl_read _ (by rfl) (by (have c := n5; have d := decide_eq_false n5; go_simp; first | done | with_reducible rfl)) ?_
                                simp only [Act.put, List.setIfInBounds_toArray, List.set_cons_zero, List.set_cons_succ]
                                refine wl_read _ (by rfl) (by (go_simp; first | done | with_reducible rfl)) ?_
                                simp only [Act.put, List.setIfInBounds_toArray, List.set_cons_zero, List.set_cons_succ]
                                refine wl_read _ (by rfl) (by (go_simp; first | done | with_reducible rfl)) ?_
                                simp only [Act.put, List.setIfInBounds_toArray, List.set_cons_zero, List.set_cons_succ]
                                refine wl_read _ (by rfl) (by (go_simp; first | done | with_reducible rfl)) ?_
                                simp only [Act.put, List.setIfInBounds_toArray, List.set_cons_zero, List.set_cons_succ]
                                refine wl_read _ (by rfl) (by (go_simp; first | done | with_reducible rfl)) ?_
                                simp only [Act.put, List.setIfInBounds_toArray, List.set_cons_zero, List.set_cons_succ]
                                refine wl_read _ (by rfl) (by (have c := (HQl.out _ hq).cell_at 6 rfl; go_simp; first | done | with_reducible rfl)) ?_
                                simp only [Act.put, List.setIfInBounds_toArray, List.set_cons_zero, List.set_cons_succ]
                                refine wl_read _ (by rfl) (by (have c := v6; have d := decide_eq_true v6; go_simp; first | done | with_reducible rfl)) ?_
                                simp only [Act.put, List.setIfInBounds_toArray, List.set_cons_zero, List.set_cons_succ]
                                refine wl_read _ (by rfl) (by (go_simp; first | done | with_reducible rfl)) ?_
                                simp only [Act.put, List.setIfInBounds_toArray, List.set_cons_zero, List.set_cons_succ]
                                refine wl_read _ (by rfl) (by (go_simp; first | done | with_reducible rfl)) ?_
                                simp only [Act.put, List.setIfInBounds_toArray, List.set_cons_zero, List.set_cons_succ]
                                refine wl_skip (by kernel_rfl) ?_
                                simp only [Act.put, List.setIfInBounds_toArray, List.set_cons_zero, List.set_cons_succ]
                                refine wl_skip (by kernel_rfl) ?_
                                simp only [Act.put, List.setIfInBounds_toArray, List.set_cons_zero, List.set_cons_succ]
                                refine wl_skip (by kernel_rfl) ?_
                                simp only [Act.put, List.setIfInBounds_toArray, List.set_cons_zero, List.set_cons_succ]
                                refine wl_skip (by kernel_rfl) ?_
                                simp only [Act.put, List.setIfInBounds_toArray, List.set_cons_zero, List.set_cons_succ]
                                refine wl_read _ (by rfl) (by (go_simp; first | done | with_reducible rfl)) ?_
                                simp only [Act.put, List.setIfInBounds_toArray, List.set_cons_zero, List.set_cons_succ]
                                refine wl_out ?_
                                have HQ1 := Lib.hid hq
                                clear hq
                                go_wp2_with fail
                                go_meet
                                exact ⟨true, rfl, Lib.hid (fun h => by cases h), HQ1⟩
                              · have n6 := v6
                                clear v6
                                skip
                                · by_cases v7 : 1000 < l.t2
                                  · skip
                                    refine wl_in ?_
                                    refine wl_read _ (by rfl) (by (go_simp; first | done | with_reducible rfl)) ?_
                                    simp only [Act.put, List.setIfInBounds_toArray, List.set_cons_zero, List.set_cons_succ]
                                    refine wl_read _ (by rfl) (by (go_simp; first | done | with_reducible rfl)) ?_
                                    simp only [Act.put, List.setIfInBounds_toArray, List.set_cons_zero, List.set_cons_succ]
                                    refine wl_read _ (by rfl) (by (have c := (HQl.out _ hq).cell_at 0 rfl; go_simp; first | done | with_reducible rfl)) ?_
                                    simp only [Act.put, List.setIfInBounds_toArray, List.set_cons_zero, List.set_cons_succ]
                                    refine wl_read _ (by rfl) (by (go_simp; first | done | with_reducible rfl)) ?_
                                    simp only [Act.put, List.setIfInBounds_toArray, List.set_cons_zero, List.set_cons_succ]
                                    refine wl_read _ (by rfl) (by (have c := n0; have d := decide_eq_false n0; go_simp; first | done | with_reducible rfl)) ?_
                                    simp only [Act.put, List.setIfInBounds_toArray, List.set_cons_zero, List.set_cons_succ]
                                    refine wl_read _ (by rfl) (by (go_simp; first | done | with_reducible rfl)) ?_
                                    simp only [Act.put, List.setIfInBounds_toArray, List.set_cons_zero, List.set_cons_succ]
                                    refine wl_read _ (by rfl) (by (go_simp; first | done | with_reducible rfl)) ?_
                                    simp only [Act.put, List.setIfInBounds_toArray, List.set_cons_zero, List.set_cons_succ]
                                    refine wl_read _ (by rfl) (by (go_simp; first | done | with_reducible rfl)) ?_
                                    simp only [Act.put, List.setIfInBounds_toArray, List.set_cons_zero, List.set_cons_succ]
                                    refine wl_read _ (by rfl) (by (have c := n1; have d := decide_eq_false n1; go_simp; first | done | with_reducible rfl)) ?_
                                    simp only [Act.put, List.setIfInBounds_toArray, List.set_cons_zero, List.set_cons_succ]
                                    refine wl_read _ (by rfl) (by (go_simp; first | done | with_reducible rfl)) ?_
                                    simp only [Act.put, List.setIfInBounds_toArray, List.set_cons_zero, List.set_cons_succ]
                                    refine wl_read _ (by rfl) (by (go_simp; first | done | with_reducible rfl)) ?_
                                    simp only [Act.put, List.setIfInBounds_toArray, List.set_cons_zero, List.set_cons_succ]
                                    refine wl_read _ (by rfl) (by (go_simp; first | done | with_reducible rfl)) ?_
                                    simp only [Act.put, List.setIfInBounds_toArray, List.set_cons_zero, List.set_cons_succ]
                                    refine wl_read _ (by rfl) (by (go_simp; first | done | with_reducible rfl)) ?_
                                    simp only [Act.put, List.setIfInBounds_toArray, List.set_cons_zero, List.set_cons_succ]
                                    refine wl_read _ (by rfl) (by (have c := (HQl.out _ hq).cell_at 0 rfl; go_simp; first | done | with_reducible rfl)) ?_
                                    simp only [Act.put, List.setIfInBounds_toArray, List.set_cons_zero, List.set_cons_succ]
                                    refine wl_read _ (by rfl) (by (go_simp; first | done | with_reducible rfl)) ?_
                                    simp only [Act.put, List.setIfInBounds_toArray, List.set_cons_zero, List.set_cons_succ]
                                    refine wl_read _ (by rfl) (by (have c := n2; have d := decide_eq_false n2; go_simp; first | done | with_reducible rfl)) ?_
                                    simp only [Act.put, List.setIfInBounds_toArray, List.set_cons_zero, List.set_cons_succ]
                                    refine wl_read _ (by rfl) (by (go_simp; first | done | with_reducible rfl)) ?_
                                    simp only [Act.put, List.setIfInBounds_toArray, List.set_cons_zero, List.set_cons_succ]
                                    refine wl_read _ (by rfl) (by (go_simp; first | done | with_reducible rfl)) ?_
                                    simp only [Act.put, List.setIfInBounds_toArray, List.set_cons_zero, List.set_cons_succ]
                                    refine wl_read _ (by rfl) (by (go_simp; first | done | with_reducible rfl)) ?_
                                    simp only [Act.put, List.setIfInBounds_toArray, List.set_cons_zero, List.set_cons_succ]
                                    refine wl_read _ (by rfl) (by (go_simp; first | done | with_reducible rfl)) ?_
                                    simp only [Act.put, List.setIfInBounds_toArray, List.set_cons_zero, List.set_cons_succ]
                                    refine wl_read _ (by rfl) (by (have c := n3; have d := decide_eq_false n3; go_simp; first | done | with_reducible rfl)) ?_
                                    simp only [Act.put, List.setIfInBounds_toArray, List.set_cons_zero, List.set_cons_succ]
                                    refine wl_read _ (by rfl) (by (go_simp; first | done | with_reducible rfl)) ?_
                                    simp only [Act.put, List.setIfInBounds_toArray, List.set_cons_zero, List.set_cons_succ]
                                    refine wl_read _ (by rfl) (by (go_simp; first | done | with_reducible rfl)) ?_
                                    simp only [Act.put, List.setIfInBounds_toArray, List.set_cons_zero, List.set_cons_succ]
                                    refine wl_read _ (by rfl) (by (go_simp; first | done | with_reducible rfl)) ?_
                                    simp only [Act.put, List.setIfInBounds_toArray, List.set_cons_zero, List.set_cons_succ]
                                    refine wl_read _ (by rfl) (by (go_simp; first | done | with_reducible rfl)) ?_
                                    simp only [Act.put, List.setIfInBounds_toArray, List.set_cons_zero, List.set_cons_succ]
                                    refine wl_read _ (by rfl) (by (have c := (HQl.out _ hq).cell_at 4 rfl; go_simp; first | done | with_reducible rfl)) ?_
                                    simp only [Act.put, List.setIfInBounds_toArray, List.set_cons_zero, List.set_cons_succ]
                                    refine wl_read _ (by rfl) (by (have c := n4; have d := decide_eq_false n4; go_simp; first | done | with_reducible rfl)) ?_
                                    simp only [Act.put, List.setIfInBounds_toArray, List.set_cons_zero, List.set_cons_succ]
                                    refine wl_read _ (by rfl) (by (go_simp; first | done | with_reducible rfl)) ?_
                                    simp only [Act.put, List.setIfInBounds_toArray, List.set_cons_zero, List.set_cons_succ]
                                    refine wl_read _ (by rfl) (by (go_simp; first | done | with_reducible rfl)) ?_
                                    simp only [Act.put, List.setIfInBounds_toArray, List.set_cons_zero, List.set_cons_succ]
                                    refine wl_read _ (by rfl) (by (go_simp; first | done | with_reducible rfl)) ?_
                                    simp only [Act.put, List.setIfInBounds_toArray, List.set_cons_zero, List.set_cons_succ]
                                    refine wl_read _ (by rfl) (by (go_simp; first | done | with_reducible rfl)) ?_
                                    simp only [Act.put, List.setIfInBounds_toArray, List.set_cons_zero, List.set_cons_succ]
                                    refine wl_read _ (by rfl) (by (have c := (HQl.out _ hq).cell_at 4 rfl; go_simp; first | done | with_reducible rfl)) ?_
                                    simp only [Act.put, List.setIfInBounds_toArray, List.set_cons_zero, List.set_cons_succ]
                                    refine wl_read _ (by rfl) (by (have c := n5; have d := decide_eq_false n5; go_simp; first | done | with_reducible rfl)) ?_
                                    simp only [Act.put, List.setIfInBounds_toArray, List.set_cons_zero, List.set_cons_succ]
                                    refine wl_read _ (by rfl) (by (go_simp; first | done | with_reducible rfl)) ?_
                                    simp only [Act.put, List.setIfInBounds_toArray, List.set_cons_zero, List.set_cons_succ]
                                    refine wl_read _ (by rfl) (by (go_simp; first | done | with_reducible rfl)) ?_
                                    simp only [Act.put, List.setIfInBounds_toArray, List.set_cons_zero, List.set_cons_succ]
                                    refine wl_read _ (by rfl) (by (go_simp; first | done | with_reducible rfl)) ?_
                                    simp only [Act.put, List.setIfInBounds_toArray, List.set_cons_zero, List.set_cons_succ]
                                    refine wl_read _ (by rfl) (by (go_simp; first | done | with_reducible rfl)) ?_
                                    simp only [Act.put, List.setIfInBounds_toArray, List.set_cons_zero, List.set_cons_succ]
                                    refine wl_read _ (by rfl) (by (have c := (HQl.out _ hq).cell_at 6 rfl; go_simp; first | done | with_reducible rfl)) ?_
                                    simp only [Act.put, List.setIfInBounds_toArray, List.set_cons_zero, List.set_cons_succ]
                                    refine wl_read _ (by rfl) (by (have c := n6; have d := decide_eq_false n6; go_simp; first | done | with_reducible rfl)) ?_
                                    simp only [Act.put, List.setIfInBounds_toArray, List.set_cons_zero, List.set_cons_succ]
                                    refine wl_read _ (by rfl) (by (go_simp; first | done | with_reducible rfl)) ?_
                                    simp only [Act.put, List.setIfInBounds_toArray, List.set_cons_zero, List.set_cons_succ]
                                    refine wl_read _ (by rfl) (by (go_simp; first | done | with_reducible rfl)) ?_
                                    simp only [Act.put, List.setIfInBounds_toArray, List.set_cons_zero, List.set_cons_succ]
                                    refine wl_read _ (by rfl) (by (go_simp; first | done | with_reducible rfl)) ?_
                                    simp only [Act.put, List.setIfInBounds_toArray, List.set_cons_zero, List.set_cons_succ]
                                    refine wl_read _ (by rfl) (by (go_simp; first | done | with_reducible rfl)) ?_
                                    simp only [Act.put, List.setIfInBounds_toArray, List.set_cons_zero, List.set_cons_succ]
                                    refine wl_read _ (by rfl) (by (have c := (HQl.out _ hq).cell_at 6 rfl; go_simp; first | done | with_reducible rfl)) ?_
                                    simp only [Act.put, List.setIfInBounds_toArray, List.set_cons_zero, List.set_cons_succ]
                                    refine wl_read _ (by rfl) (by (have c := v7; have d := decide_eq_true v7; go_simp; first | done | with_reducible rfl)) ?_
                                    simp only [Act.put, List.setIfInBounds_toArray, List.set_cons_zero, List.set_cons_succ]
                                    refine wl_read _ (by rfl) (by (go_simp; first | done | with_reducible rfl)) ?_
                                    simp only [Act.put, List.setIfInBounds_toArray, List.set_cons_zero, List.set_cons_succ]
                                    refine wl_out ?_
                                    have HQ1 := Lib.hid hq
                                    clear hq
                                    go_wp2_with fail
                                    go_meet
                                    exact ⟨true, rfl, Lib.hid (fun h => by cases h), HQ1⟩
                                  · have n7 := v7
                                    clear v7
                                    refine wl_in ?_
                                    refine wl_read _ (by rfl) (by (go_simp; first | done | with_reducible rfl)) ?_
                                    simp only [Act.put, List.setIfInBounds_toArray, List.set_cons_zero, List.set_cons_succ]
                                    refine wl_read _ (by rfl) (by (go_simp; first | done | with_reducible rfl)) ?_
                                    simp only [Act.put, List.setIfInBounds_toArray, List.set_cons_zero, List.set_cons_succ]
                                    refine wl_read _ (by rfl) (by (have c := (HQl.out _ hq).cell_at 0 rfl; go_simp; first | done | with_reducible rfl)) ?_
                                    simp only [Act.put, List.setIfInBounds_toArray, List.set_cons_zero, List.set_cons_succ]
                                    refine wl_read _ (by rfl) (by (go_simp; first | done | with_reducible rfl)) ?_
                                    simp only [Act.put, List.setIfInBounds_toArray, List.set_cons_zero, List.set_cons_succ]
                                    refine wl_read _ (by rfl) (by (have c := n0; have d := decide_eq_false n0; go_simp; first | done | with_reducible rfl)) ?_
                                    simp only [Act.put, List.setIfInBounds_toArray, List.set_cons_zero, List.set_cons_succ]
                                    refine wl_read _ (by rfl) (by (go_simp; first | done | with_reducible rfl)) ?_
                                    simp only [Act.put, List.setIfInBounds_toArray, List.set_cons_zero, List.set_cons_succ]
                                    refine wl_read _ (by rfl) (by (go_simp; first | done | with_reducible rfl)) ?_
                                    simp only [Act.put, List.setIfInBounds_toArray, List.set_cons_zero, List.set_cons_succ]
                                    refine wl_read _ (by rfl) (by (go_simp; first | done | with_reducible rfl)) ?_
                                    simp only [Act.put, List.setIfInBounds_toArray, List.set_cons_zero, List.set_cons_succ]
                                    refine wl_read _ (by rfl) (by (have c := n1; have d := decide_eq_false n1; go_simp; first | done | with_reducible rfl)) ?_
                                    simp only [Act.put, List.setIfInBounds_toArray, List.set_cons_zero, List.set_cons_succ]
                                    refine wl_read _ (by rfl) (by (go_simp; first | done | with_reducible rfl)) ?_
                                    simp only [Act.put, List.setIfInBounds_toArray, List.set_cons_zero, List.set_cons_succ]
                                    refine wl_read _ (by rfl) (by (go_simp; first | done | with_reducible rfl)) ?_
                                    simp only [Act.put, List.setIfInBounds_toArray, List.set_cons_zero, List.set_cons_succ]
                                    refine wl_read _ (by rfl) (by (go_simp; first | done | with_reducible rfl)) ?_
                                    simp only [Act.put, List.setIfInBounds_toArray, List.set_cons_zero, List.set_cons_succ]
                                    refine wl_read _ (by rfl) (by (go_simp; first | done | with_reducible rfl)) ?_
                                    simp only [Act.put, List.setIfInBounds_toArray, List.set_cons_zero, List.set_cons_succ]
                                    refine wl_read _ (by rfl) (by (have c := (HQl.out _ hq).cell_at 0 rfl; go_simp; first | done | with_reducible rfl)) ?_
                                    simp only [Act.put, List.setIfInBounds_toArray, List.set_cons_zero, List.set_cons_succ]
                                    refine wl_read _ (by rfl) (by (go_simp; first | done | with_reducible rfl)) ?_
                                    simp only [Act.put, List.setIfInBounds_toArray, List.set_cons_zero, List.set_cons_succ]
                                    refine wl_read _ (by rfl) (by (have c := n2; have d := decide_eq_false n2; go_simp; first | done | with_reducible rfl)) ?_
                                    simp only [Act.put, List.setIfInBounds_toArray, List.set_cons_zero, List.set_cons_succ]
                                    refine wl_read _ (by rfl) (by (go_simp; first | done | with_reducible rfl)) ?_
                                    simp only [Act.put, List.setIfInBounds_toArray, List.set_cons_zero, List.set_cons_succ]
                                    refine wl_read _ (by rfl) (by (go_simp; first | done | with_reducible rfl)) ?_
                                    simp only [Act.put, List.setIfInBounds_toArray, List.set_cons_zero, List.set_cons_succ]
                                    refine wl_read _ (by rfl) (by (go_simp; first | done | with_reducible rfl)) ?_
                                    simp only [Act.put, List.setIfInBounds_toArray, List.set_cons_zero, List.set_cons_succ]
                                    refine wl_read _ (by rfl) (by (go_simp; first | done | with_reducible rfl)) ?_
                                    simp only [Act.put, List.setIfInBounds_toArray, List.set_cons_zero, List.set_cons_succ]
                                    refine wl_read _ (by rfl) (by (have c := n3; have d := decide_eq_false n3; go_simp; first | done | with_reducible rfl)) ?_
                                    simp only [Act.put, List.setIfInBounds_toArray, List.set_cons_zero, List.set_cons_succ]
                                    refine wl_read _ (by rfl) (by (go_simp; first | done | with_reducible rfl)) ?_
                                    simp only [Act.put, List.setIfInBounds_toArray, List.set_cons_zero, List.set_cons_succ]
                                    refine wl_read _ (by rfl) (by (go_simp; first | done | with_reducible rfl)) ?_
                                    simp only [Act.put, List.setIfInBounds_toArray, List.set_cons_zero, List.set_cons_succ]
                                    refine wl_read _ (by rfl) (by (go_simp; first | done | with_reducible rfl)) ?_
                                    simp only [Act.put, List.setIfInBounds_toArray, List.set_cons_zero, List.set_cons_succ]
                                    refine wl_read _ (by rfl) (by (go_simp; first | done | with_reducible rfl)) ?_
                                    simp only [Act.put, List.setIfInBounds_toArray, List.set_cons_zero, List.set_cons_succ]
                                    refine wl_read _ (by rfl) (by (have c := (HQl.out _ hq).cell_at 4 rfl; go_simp; first | done | with_reducible rfl)) ?_
                                    simp only [Act.put, List.setIfInBounds_toArray, List.set_cons_zero, List.set_cons_succ]
                                    refine wl_read _ (by rfl) (by (have c := n4; have d := decide_eq_false n4; go_simp; first | done | with_reducible rfl)) ?_
                                    simp only [Act.put, List.setIfInBounds_toArray, List.set_cons_zero, List.set_cons_succ]
                                    refine wl_read _ (by rfl) (by (go_simp; first | done | with_reducible rfl)) ?_
                                    simp only [Act.put, List.setIfInBounds_toArray, List.set_cons_zero, List.set_cons_succ]
                                    refine wl_read _ (by rfl) (by (go_simp; first | done | with_reducible rfl)) ?_
                                    simp only [Act.put, List.setIfInBounds_toArray, List.set_cons_zero, List.set_cons_succ]
                                    refine wl_read _ (by rfl) (by (go_simp; first | done | with_reducible rfl)) ?_
                                    simp only [Act.put, List.setIfInBounds_toArray, List.set_cons_zero, List.set_cons_succ]
                                    refine wl_read _ (by rfl) (by (go_simp; first | done | with_reducible rfl)) ?_
                                    simp only [Act.put, List.setIfInBounds_toArray, List.set_cons_zero, List.set_cons_succ]
                                    refine wl_read _ (by rfl) (by (have c := (HQl.out _ hq).cell_at 4 rfl; go_simp; first | done | with_reducible rfl)) ?_
                                    simp only [Act.put, List.setIfInBounds_toArray, List.set_cons_zero, List.set_cons_succ]
                                    refine wl_read _ (by rfl) (by (have c := n5; have d := decide_eq_false n5; go_simp; first | done | with_reducible rfl)) ?_
                                    simp only [Act.put, List.setIfInBounds_toArray, List.set_cons_zero, List.set_cons_succ]
                                    refine wl_read _ (by rfl) (by (go_simp; first | done | with_reducible rfl)) ?_
                                    simp only [Act.put, List.setIfInBounds_toArray, List.set_cons_zero, List.set_cons_succ]
                                    refine wl_read _ (by rfl) (by (go_simp; first | done | with_reducible rfl)) ?_
                                    simp only [Act.put, List.setIfInBounds_toArray, List.set_cons_zero, List.set_cons_succ]
                                    refine wl_read _ (by rfl) (by (go_simp; first | done | with_reducible rfl)) ?_
                                    simp only [Act.put, List.setIfInBounds_toArray, List.set_cons_zero, List.set_cons_succ]
                                    refine wl_read _ (by rfl) (by (go_simp; first | done | with_reducible rfl)) ?_
                                    simp only [Act.put, List.setIfInBounds_toArray, List.set_cons_zero, List.set_cons_succ]
                                    refine wl_read _ (by rfl) (by (have c := (HQl.out _ hq).cell_at 6 rfl; go_simp; first | done | with_reducible rfl)) ?_
                                    simp only [Act.put, List.setIfInBounds_toArray, List.set_cons_zero, List.set_cons_succ]
                                    refine wl_read _ (by rfl) (by (have c := n6; have d := decide_eq_false n6; go_simp; first | done | with_reducible rfl)) ?_
                                    simp only [Act.put, List.setIfInBounds_toArray, List.set_cons_zero, List.set_cons_succ]
                                    refine wl_read _ (by rfl) (by (go_simp; first | done | with_reducible rfl)) ?_
                                    simp only [Act.put, List.setIfInBounds_toArray, List.set_cons_zero, List.set_cons_succ]
                                    refine wl_read _ (by rfl) (by (go_simp; first | done | with_reducible rfl)) ?_
                                    simp only [Act.put, List.setIfInBounds_toArray, List.set_cons_zero, List.set_cons_succ]
                                    refine wl_read _ (by rfl) (by (go_simp; first | done | with_reducible rfl)) ?_
                                    simp only [Act.put, List.setIfInBounds_toArray, List.set_cons_zero, List.set_cons_succ]
                                    refine wl_read _ (by rfl) (by (go_simp; first | done | with_reducible rfl)) ?_
                                    simp only [Act.put, List.setIfInBounds_toArray, List.set_cons_zero, List.set_cons_succ]
                                    refine wl_read _ (by rfl) (by (have c := (HQl.out _ hq).cell_at 6 rfl; go_simp; first | done | with_reducible rfl)) ?_
                                    simp only [Act.put, List.setIfInBounds_toArray, List.set_cons_zero, List.set_cons_succ]
                                    refine wl_read _ (by rfl) (by (have c := n7; have d := decide_eq_false n7; go_simp; first | done | with_reducible rfl)) ?_
                                    simp only [Act.put, List.setIfInBounds_toArray, List.set_cons_zero, List.set_cons_succ]
                                    refine wl_read _ (by rfl) (by (go_simp; first | done | with_reducible rfl)) ?_
                                    simp only [Act.put, List.setIfInBounds_toArray, List.set_cons_zero, List.set_cons_succ]
                                    refine wl_out ?_
                                    have HQ1 := Lib.hid hq
                                    clear hq
                                    go_wp2_with fail
                                    go_meet
                                    exact ⟨false, rfl, Lib.hid (fun _ => ⟨HG.out, by omega, by omega, by omega, by omega, by omega, by omega, by omega, by omega⟩), HQ1⟩
    · skip
      refine wl_in ?_
      refine wl_read _ (by rfl) (by (go_simp; first | done | with_reducible rfl)) ?_
      simp only [Act.put, List.setIfInBounds_toArray, List.set_cons_zero, List.set_cons_succ]
      refine wl_skip (by kernel_rfl) ?_
      simp only [Act.put, List.setIfInBounds_toArray, List.set_cons_zero, List.set_cons_succ]
      refine wl_skip (by kernel_rfl) ?_
      simp only [Act.put, List.setIfInBounds_toArray, List.set_cons_zero, List.set_cons_succ]
      refine wl_skip (by kernel_rfl) ?_
      simp only [Act.put, List.setIfInBounds_toArray, List.set_cons_zero, List.set_cons_succ]
      refine wl_skip (by kernel_rfl) ?_
      simp only [Act.put, List.setIfInBounds_toArray, List.set_cons_zero, List.set_cons_succ]
      refine wl_read _ (by rfl) (by (go_simp; first | done | with_reducible rfl)) ?_
      simp only [Act.put, List.setIfInBounds_toArray, List.set_cons_zero, List.set_cons_succ]
      refine wl_read _ (by rfl) (by (go_simp; first | done | with_reducible rfl)) ?_
      simp only [Act.put, List.setIfInBounds_toArray, List.set_cons_zero, List.set_cons_succ]
      refine wl_skip (by kernel_rfl) ?_
      simp only [Act.put, List.setIfInBounds_toArray, List.set_cons_zero, List.set_cons_succ]
      refine wl_skip (by kernel_rfl) ?_
      simp only [Act.put, List.setIfInBounds_toArray, List.set_cons_zero, List.set_cons_succ]
      refine wl_read _ (by rfl) (by (go_simp; first | done | with_reducible rfl)) ?_
      simp only [Act.put, List.setIfInBounds_toArray, List.set_cons_zero, List.set_cons_succ]
      refine wl_read _ (by rfl) (by (go_simp; first | done | with_reducible rfl)) ?_
      simp only [Act.put, List.setIfInBounds_toArray, List.set_cons_zero, List.set_cons_succ]
      refine wl_skip (by kernel_rfl) ?_
      simp only [Act.put, List.setIfInBounds_toArray, List.set_cons_zero, List.set_cons_succ]
      refine wl_skip (by kernel_rfl) ?_
      simp only [Act.put, List.setIfInBounds_toArray, List.set_cons_zero, List.set_cons_succ]
      refine wl_skip (by kernel_rfl) ?_
      simp only [Act.put, List.setIfInBounds_toArray, List.set_cons_zero, List.set_cons_succ]
      refine wl_skip (by kernel_rfl) ?_
      simp only [Act.put, List.setIfInBounds_toArray, List.set_cons_zero, List.set_cons_succ]
      refine wl_skip (by kernel_rfl) ?_
      simp only [Act.put, List.setIfInBounds_toArray, List.set_cons_zero, List.set_cons_succ]
      refine wl_read _ (by rfl) (by (go_simp; first | done | with_reducible rfl)) ?_
      simp only [Act.put, List.setIfInBounds_toArray, List.set_cons_zero, List.set_cons_succ]
      refine wl_read _ (by rfl) (by (go_simp; first | done | with_reducible rfl)) ?_
      simp only [Act.put, List.setIfInBounds_toArray, List.set_cons_zero, List.set_cons_succ]
      refine wl_skip (by kernel_rfl) ?_
      simp only [Act.put, List.setIfInBounds_toArray, List.set_cons_zero, List.set_cons_succ]
      refine wl_skip (by kernel_rfl) ?_
      simp only [Act.put, List.setIfInBounds_toArray, List.set_cons_zero, List.set_cons_succ]
      refine wl_skip (by kernel_rfl) ?_
      simp only [Act.put, List.setIfInBounds_toArray, List.set_cons_zero, List.set_cons_succ]
      refine wl_read _ (by rfl) (by (go_simp; first | done | with_reducible rfl)) ?_
      simp only [Act.put, List.setIfInBounds_toArray, List.set_cons_zero, List.set_cons_succ]
      refine wl_read _ (by rfl) (by (go_simp; first | done | with_reducible rfl)) ?_
      simp only [Act.put, List.setIfInBounds_toArray, List.set_cons_zero, List.set_cons_succ]
      refine wl_skip (by kernel_rfl) ?_
      simp only [Act.put, List.setIfInBounds_toArray, List.set_cons_zero, List.set_cons_succ]
      refine wl_skip (by kernel_rfl) ?_
      simp only [Act.put, List.setIfInBounds_toArray, List.set_cons_zero, List.set_cons_succ]
      refine wl_skip (by kernel_rfl) ?_
      simp only [Act.put, List.setIfInBounds_toArray, List.set_cons_zero, List.set_cons_succ]
      refine wl_skip (by kernel_rfl) ?_
      simp only [Act.put, List.setIfInBounds_toArray, List.set_cons_zero, List.set_cons_succ]
      refine wl_read _ (by rfl) (by (go_simp; first | done | with_reducible rfl)) ?_
      simp only [Act.put, List.setIfInBounds_toArray, List.set_cons_zero, List.set_cons_succ]
      refine wl_read _ (by rfl) (by (go_simp; first | done | with_reducible rfl)) ?_
      simp only [Act.put, List.setIfInBounds_toArray, List.set_cons_zero, List.set_cons_succ]
      refine wl_skip (by kernel_rfl) ?_
      simp only [Act.put, List.setIfInBounds_toArray, List.set_cons_zero, List.set_cons_succ]
      refine wl_skip (by kernel_rfl) ?_
      simp only [Act.put, List.setIfInBounds_toArray, List.set_cons_zero, List.set_cons_succ]
      refine wl_skip (by kernel_rfl) ?_
      simp only [Act.put, List.setIfInBounds_toArray, List.set_cons_zero, List.set_cons_succ]
      refine wl_skip (by kernel_rfl) ?_
      simp only [Act.put, List.setIfInBounds_toArray, List.set_cons_zero, List.set_cons_succ]
      refine wl_read _ (by rfl) (by (go_simp; first | done | with_reducible rfl)) ?_
      simp only [Act.put, List.setIfInBounds_toArray, List.set_cons_zero, List.set_cons_succ]
      refine wl_read _ (by rfl) (by (go_simp; first | done | with_reducible rfl)) ?_
      simp only [Act.put, List.setIfInBounds_toArray, List.set_cons_zero, List.set_cons_succ]
      refine wl_skip (by kernel_rfl) ?_
      simp only [Act.put, List.setIfInBounds_toArray, List.set_cons_zero, List.set_cons_succ]
      refine wl_skip (by kernel_rfl) ?_
      simp only [Act.put, List.setIfInBounds_toArray, List.set_cons_zero, List.set_cons_succ]
      refine wl_skip (by kernel_rfl) ?_
      simp only [Act.put, List.setIfInBounds_toArray, List.set_cons_zero, List.set_cons_succ]
      refine wl_skip (by kernel_rfl) ?_
      simp only [Act.put, List.setIfInBounds_toArray, List.set_cons_zero, List.set_cons_succ]
      refine wl_read _ (by rfl) (by (go_simp; first | done | with_reducible rfl)) ?_
      simp only [Act.put, List.setIfInBounds_toArray, List.set_cons_zero, List.set_cons_succ]
      refine wl_read _ (by rfl) (by (go_simp; first | done | with_reducible rfl)) ?_
      simp only [Act.put, List.setIfInBounds_toArray, List.set_cons_zero, List.set_cons_succ]
      refine wl_skip (by kernel_rfl) ?_
      simp only [Act.put, List.setIfInBounds_toArray, List.set_cons_zero, List.set_cons_succ]
      refine wl_skip (by kernel_rfl) ?_
      simp only [Act.put, List.setIfInBounds_toArray, List.set_cons_zero, List.set_cons_succ]
      refine wl_skip (by kernel_rfl) ?_
      simp only [Act.put, List.setIfInBounds_toArray, List.set_cons_zero, List.set_cons_succ]
      refine wl_skip (by kernel_rfl) ?_
      simp only [Act.put, List.setIfInBounds_toArray, List.set_cons_zero, List.set_cons_succ]
      refine wl_read _ (by rfl) (by (go_simp; first | done | with_reducible rfl)) ?_
      simp only [Act.put, List.setIfInBounds_toArray, List.set_cons_zero, List.set_cons_succ]
      refine wl_out ?_
      have HQ1 := Lib.hid hq
      clear hq
      go_wp2_with fail
      go_meet
      exact ⟨true, rfl, Lib.hid (fun h => by cases h), HQ1⟩
  case rest =>
  obtain ⟨c, rfl, HC, HQ1⟩ := hcut
  have hq := HQ1.out
  clear HQ1 KG HG
  cases c
  · obtain ⟨hg, n24, hs0, hsl, hts, ht0, ht0', ht2, ht2'⟩ := HC.out rfl
    obtain ⟨k, rfl⟩ : ∃ k : Nat, s = k := ⟨s.toNat, by omega⟩
    have HQf : Hid (∀ W, Q W → Fld l W) := Lib.hid (HFL.out hg)
    have KN : Hid (∀ W, Calls Tryd.prog 10 #[] W fun e w' => e = .returned newI.val ∧ Below W.heap.size W w') := Lib.hid fun W => New_B
    have hk24 : k < 24 := by omega
    have HI0 : Hid (ClrInv l newI k 0 (-1) 0 0) := Lib.hid (clr_new hk24 ht2')
    have HTS := Lib.hid hts
    have HT0 := Lib.hid ht0
    have HT2 := Lib.hid ht2
    have HT22 := Lib.hid ht2'
    have HOC : Hid (∀ (im : Img) (row age occ : Int) (j : Nat), ClrInv l im k row age occ j → occI l im (k : Int) = decide (row < l.t0)) := Lib.hid fun im row age occ j h => clr_occ h ht0 (by omega) n24
    have HK : Hid (k < 24) := Lib.hid hk24
    clear HFL HC hg n24 hs0 hsl hts ht0 ht0' ht2 ht2' hk24
    go_upto_region 3 with (fail)
    apply wp_region_lit
    refine wpList_callv (by rfl) (by (go_simp; first | done | rfl)) (KN.out _) (fun W2 hB => ?_)
    simp only [Act.put, List.setIfInBounds_toArray, List.set_cons_zero, List.set_cons_succ]
    have hq := HQ.out _ _ hq hB
    clear hB KN
    refine wpList_var 35 _ _ _ newI.cells rfl rfl rfl rfl rfl img_zero (by rfl) (by rfl) (by rfl) (by exact img_info) newI.one (fun W3 hA hB => ?_)
    simp only [Act.put, List.setIfInBounds_toArray, List.set_cons_zero, List.set_cons_succ]
    have HS0 : Hid (Below W2.heap.size W2 W3 ∧ Whole W3 W2.heap.size 35 newI.cells) := Lib.hid ⟨hB, hA⟩
    have HSQ : Hid (∀ W, Below W2.heap.size W2 W → Q W) := Lib.hid fun W hW => HQ.out _ _ hq hW
    have HQ2 := Lib.hid hq
    clear hq hA hB
    go_wp2_with fail
    go_loopw [10, 11, 12, 13] (fun r a o i wr => ∃ (j : Nat) (im : Img) (row age occ : Int), j ≤ ts.length ∧ i = .int .i64 j ∧ r = .int .i64 row ∧ a = .int .i64 age ∧ o = .int .u32 occ ∧ Hid (ClrInv l im k row age occ j) ∧ Hid (Below W2.heap.size W2 wr ∧ Whole wr W2.heap.size 35 im.cells)) (fun _ _ _ i _ => ts.length - (intOf i).toNat)
    case atStart => exact ⟨0, newI, 0, -1, 0, by omega, rfl, rfl, rfl, rfl, HI0, HS0⟩
    case round =>
      clear HS0 HI0
      obtain ⟨j, im, row, age, occ, hj, rfl, rfl, rfl, rfl, HI, HS⟩ := hrel
      obtain ⟨Wb, rfl⟩ : ∃ W, W = wr := ⟨wr, rfl⟩
      by_cases hlt : j < ts.length
      · have hj60 : j < 60 := by have := HTS.out; omega
        have hlt' : (j : Int) < (ts.length : Nat) := by omega
        have h0' : (0 : Int) ≤ (j : Int) := by omega
        have hj1 : (j : Int) + 1 ≤ 9223372036854775807 := by omega
        obtain ⟨b, off, rfl, hb2, hc2⟩ := (HR2.out _ HQ2.out).flag hlt
        obtain ⟨tb, htb⟩ : ∃ b, ts[j]?.getD false = b := ⟨_, rfl⟩
        rw [htb] at hc2
        have hcl := (HS.out.1.cell (p := ⟨b, off + j, none⟩) hb2).trans hc2
        have HLT := Lib.hid hlt
        have HJ := Lib.hid hj60
        clear htb hc2 hb2 hj hj60 hlt
        go_upto_region 9 with (fail)
        go_cut [79] from 64 to 132 (fun v wx => ∃ tk : Bool, v = .bool tk ∧ Hid (tk = true → j < xs.length) ∧ Hid (Below W2.heap.size W2 wx ∧ Whole wx W2.heap.size 35 im.cells))
        case first =>
          cases tb
          · go_wp2_with fail
            go_meet
            exact ⟨false, rfl, Lib.hid (fun h => by cases h), HS⟩
          · by_cases hx1 : j < xs.length
            · have hx2 : (j : Int) < (xs.length : Nat) := by omega
              have HX1 := Lib.hid hx1
              clear hx1
              go_wp2_with fail
              go_meet
              exact ⟨true, rfl, Lib.hid (fun _ => HX1.out), HS⟩
            · have hx2 : ¬ (j : Int) < (xs.length : Nat) := by omega
              clear hx1
              go_wp2_with fail
              go_meet
              exact ⟨false, rfl, Lib.hid (fun h => by cases h), HS⟩
        case rest =>
        clear hcl HS
        obtain ⟨tk, rfl, HTK, HS⟩ := hcut
        have hagb : age ≤ 60 := by have := HJ.out; rcases HI.out.ages with ⟨h, _⟩ | ⟨_, h, _⟩ <;> omega
        have hrow0 := HI.out.r0
        have hrow1 : row ≤ 60 := by have := HI.out.rj; have := HJ.out; omega
        go_upto_if 79 with (fail)
        go_cut [11, 12] from 64 to 132 (fun a o wx => ∃ (im' : Img) (age' occ' : Int) (c : Bool), a = .int .i64 age' ∧ o = .int .u32 occ' ∧ Hid (ClrMid l im' k row age' occ' j c) ∧ Hid (Below W2.heap.size W2 wx ∧ Whole wx W2.heap.size 35 im'.cells))
        case first =>
          have HIL : im.free.length = 24 := HI.out.wf.len
          cases tk
          · obtain ⟨c, HM⟩ := clr_pass HI.out HJ.out HT22.out
            have HM := Lib.hid HM
            have KP : Hid (∀ W, Q W → Calls Tryd.prog 16 #[l.val, im.val] W fun e w' => e = .returned (passI l im).val ∧ Below W.heap.size W w') := Lib.hid fun W hW => Pass_B HI.out.wf (HQf.out W hW)
            have HIL2 : (passI l im).free.length = 24 := HM.out.wf.len
            clear HI
            go_upto_region 12 with (fail)
            apply wp_region_lit
            refine wpList_read _ (by rfl) (exec_lay (by rfl) (by rfl) (HQl.out _ (HSQ.out _ HS.out.1))) ?_
            simp only [Act.put, List.setIfInBounds_toArray, List.set_cons_zero, List.set_cons_succ]
            refine wpList_read _ (by rfl) (exec_img HIL (by rfl) (by rfl) HS.out.2) ?_
            simp only [Act.put, List.setIfInBounds_toArray, List.set_cons_zero, List.set_cons_succ]
            refine wpList_callv (by rfl) (by (go_simp; first | done | rfl)) (KP.out _ (HSQ.out _ HS.out.1)) (fun w4 hB => ?_)
            simp only [Act.put, List.setIfInBounds_toArray, List.set_cons_zero, List.set_cons_succ]
            have hb4 := HS.out.1.trans (hB.mono HS.out.1.size)
            have ha4 := HS.out.2.below hB HS.out.2.lt
            refine wpList_fill _ _ _ rfl rfl (by rfl) (by rfl) ha4 (by rw [Img.size _ HIL2, Img.size _ HIL]) (by rw [Img.size _ HIL2]; exact img_info) (Img.one _) (fun w5 hA5 hB5 _ => ?_)
            simp only [Act.put, List.setIfInBounds_toArray, List.set_cons_zero, List.set_cons_succ]
            have HS5 : Hid (Below W2.heap.size W2 w5 ∧ Whole w5 W2.heap.size 35 (passI l im).cells) := Lib.hid ⟨hb4.trans (hB5 _ (Nat.le_refl _)), hA5⟩
            clear hB hb4 ha4 hA5 hB5 HS
            by_cases hage : 0 ≤ age
            · rw [if_pos hage] at HM
              have hag1 : age + 1 ≤ 9223372036854775807 := by omega
              go_wp2_with fail
              go_meet
              exact ⟨_, _, _, _, rfl, rfl, HM, HS5⟩
            · rw [if_neg hage] at HM
              go_wp2_with fail
              go_meet
              exact ⟨_, _, _, _, rfl, rfl, HM, HS5⟩
          · have hjx := HTK.out rfl
            obtain ⟨x, hxj⟩ : ∃ x, xs[j]? = some x := ⟨_, List.getElem?_eq_getElem hjx⟩
            have hxw := HX.out x (List.mem_of_getElem? hxj)
            have HM := Lib.hid (clr_take HI.out hxw HJ.out HT2.out)
            obtain ⟨b3, off3, hA3, hb3, _, hc3⟩ := (HR3.out _ HQ2.out).nth (n := 4) (fun _ => rfl) (by omega) hxj
            have HC3 : Hid (∀ W, Below W2.heap.size W2 W → ∀ (i : Nat) (v : Value), x.cells[i]? = some v → W.cell? ⟨b3, off3 + j * 4 + i, none⟩ = some v) := Lib.hid fun W hW i v hv => (hW.cell (p := ⟨b3, _, none⟩) hb3).trans (hc3 j x i v hxj hv)
            have KT : Hid (∀ W, Q W → Calls Tryd.prog 14 #[l.val, im.val, x.val] W fun e w' => e = .returned (takeI l im x).val ∧ Below W.heap.size W w') := Lib.hid fun W hW => Take_B HI.out.wf hxw (HQf.out W hW)
            have HIL2 : (takeI l im x).free.length = 24 := HM.out.wf.len
            have hjx' : (j : Int) < (xs.length : Nat) := by omega
            have HS' : Hid (Closed fun W => Below W2.heap.size W2 W ∧ Whole W W2.heap.size 35 im.cells) := Lib.hid ((Closed.below W2).and (Closed.whole _ _ _))
            subst hA3
            clear HI HTK hb3 hc3 hxw hjx hxj
            go_upto_region 10 with (fail)
            refine region_steady (fun W => Below W2.heap.size W2 W ∧ Whole W W2.heap.size 35 im.cells) 7 (by kernel_rfl) (by kernel_rfl) (HS'.out.drew HS.out) ?_
            simp only [List.take_succ_cons, List.take_zero, List.drop_succ_cons, List.drop_zero]
            refine steady_read _ (by rfl) (fun W hW => exec_lay (by rfl) (by rfl) (HQl.out _ (HSQ.out _ hW.1))) ?_
            simp only [Act.put, List.setIfInBounds_toArray, List.set_cons_zero, List.set_cons_succ]
            refine steady_read _ (by rfl) (fun W hW => exec_img HIL (by rfl) (by rfl) hW.2) ?_
            simp only [Act.put, List.setIfInBounds_toArray, List.set_cons_zero, List.set_cons_succ]
            refine steady_read _ (by rfl) (fun W hW => by (go_simp; first | done | with_reducible rfl)) ?_
            simp only [Act.put, List.setIfInBounds_toArray, List.set_cons_zero, List.set_cons_succ]
            refine steady_read _ (by rfl) (fun W hW => by (go_simp; first | done | with_reducible rfl)) ?_
            simp only [Act.put, List.setIfInBounds_toArray, List.set_cons_zero, List.set_cons_succ]
            refine steady_read _ (by rfl) (fun W hW => by (have d0 := h0'; have d1 := hjx'; go_simp; first | done | with_reducible rfl)) ?_
            simp only [Act.put, List.setIfInBounds_toArray, List.set_cons_zero, List.set_cons_succ]
            refine steady_read _ (by rfl) (fun W hW => exec_inn_at (by rfl) (by rfl) (HC3.out W hW.1)) ?_
            simp only [Act.put, List.setIfInBounds_toArray, List.set_cons_zero, List.set_cons_succ]
            refine steady_call _ _ _ (by rfl) (fun W hW => by (go_simp; first | done | rfl)) (fun W hW => (KT.out W (HSQ.out _ hW.1)).mono fun e w' h => ⟨h.1, HS'.out _ _ hW h.2⟩) ?_
            simp only [Act.put, List.setIfInBounds_toArray, List.set_cons_zero, List.set_cons_succ]
            refine steady_nil (fun w4 hW => ?_)
            refine wpList_fill _ _ _ rfl rfl (by rfl) (by rfl) hW.2 (by rw [Img.size _ HIL2, Img.size _ HIL]) (by rw [Img.size _ HIL2]; exact img_info) (Img.one _) (fun w5 hA5 hB5 _ => ?_)
            simp only [Act.put, List.setIfInBounds_toArray, List.set_cons_zero, List.set_cons_succ]
            have HS5 : Hid (Below W2.heap.size W2 w5 ∧ Whole w5 W2.heap.size 35 (takeI l im x).cells) := Lib.hid ⟨hW.1.trans (hB5 _ (Nat.le_refl _)), hA5⟩
            have cx : w5.cell? ⟨b3, off3 + j * 4, none⟩ = some (.int .u32 x.o) := by have := HC3.out w5 HS5.out.1 0 _ rfl; rwa [Nat.add_zero] at this
            clear hW hA5 hB5 HS
            go_wp2_with fail
            go_meet
            exact ⟨_, _, _, _, rfl, rfl, HM, HS5⟩
        case rest =>
        clear HS HI HTK
        obtain ⟨im', age', occ', c, rfl, rfl, HM, HS⟩ := hcut
        clear hagb
        go_upto_region 16 with (fail)
        go_cut [117] from 64 to 132 (fun v wx => ∃ d : Bool, v = .bool d ∧ Hid (c = !d) ∧ Hid (Below W2.heap.size W2 wx ∧ Whole wx W2.heap.size 35 im'.cells))
        case first =>
          have htl := HM.out.tells
          have x6 := (HQl.out _ (HSQ.out _ HS.out.1)).cell_at 6 rfl
          by_cases a1 : age' < 0
          · have HE : Hid (c = !true) := Lib.hid (by rw [htl, decide_eq_true a1]; rfl)
            clear htl
            go_wp2_with fail
            go_meet
            exact ⟨true, rfl, HE, HS⟩
          · by_cases a2 : l.t2 < age'
            · have HE : Hid (c = !true) := Lib.hid (by rw [htl, decide_eq_true a2]; simp)
              clear htl
              go_wp2_with fail
              go_meet
              exact ⟨true, rfl, HE, HS⟩
            · obtain ⟨bb, hbb⟩ : ∃ b, bitU occ' k = b := ⟨_, rfl⟩
              have HE : Hid (c = !bb) := Lib.hid (by rw [htl, decide_eq_false a1, decide_eq_false a2, hbb]; rfl)
              obtain ⟨z, hz⟩ : ∃ z, occ' / 2 ^ k = z := ⟨_, rfl⟩
              have HBIT : Hid ((bb = false → bits BinOp.and IntKind.u32 z 1 = 0) ∧ (bb = true → bits BinOp.and IntKind.u32 z 1 = 1)) := Lib.hid (by rw [← hz]; exact ⟨fun e => bit_no HM.out.occr (hbb.trans e), fun e => bit_yes HM.out.occr (hbb.trans e)⟩)
              have hk0 : (0 : Int) ≤ (k : Int) := by omega
              have hk32 : (k : Int) ≤ 32 := by have := HK.out; omega
              have hw64 : IntKind.u64.wrap (k : Int) = (k : Int) := by rw [IntKind.wrap_u64]; have := HK.out; omega
              clear htl hbb
              cases bb
              · have e4 := HBIT.out.1 rfl
                clear HBIT
                go_wp2_with fail
                go_meet
                exact ⟨false, rfl, HE, HS⟩
              · have e4 := HBIT.out.2 rfl
                clear HBIT
                go_wp2_with fail
                go_meet
                exact ⟨true, rfl, HE, HS⟩
        case rest =>
        clear HS
        obtain ⟨d, rfl, HD, HS⟩ := hcut
        obtain rfl : c = !d := HD.out
        have HN := Lib.hid (clr_next HM.out)
        have HO := Lib.hid (HOC.out _ _ _ _ _ HN.out)
        have HS' : Hid (Closed fun W => Below W2.heap.size W2 W ∧ Whole W W2.heap.size 35 im'.cells) := Lib.hid ((Closed.below W2).and (Closed.whole _ _ _))
        have HIL : im'.free.length = 24 := HM.out.wf.len
        have KR : Hid (∀ W, Q W → Calls Tryd.prog 12 #[im'.val] W fun e w' => e = .returned (.bool true) ∧ Below W.heap.size W w') := Lib.hid fun W hW => RightI_B HM.out.wf (HQf.out W hW).tops HM.out.right
        have KO : Hid (∀ (r : Bool), occI l im' (k : Int) = r → ∀ W, Q W → Calls Tryd.prog 20 #[l.val, im'.val, .int .i64 (k : Nat)] W fun e w' => e = .returned (.bool r) ∧ Below W.heap.size W w') := Lib.hid fun r hr W hW => Occupied_B HM.out.wf (HQf.out W hW) _ hr
        clear HD HM
        cases d
        · skip
          have HN : Hid (ClrInv l im' k (row + 1) age' occ' (j + 1)) := HN
          have HO : Hid (occI l im' (k : Int) = decide ((row + 1) < l.t0)) := HO
          go_upto_region 18 with (fail)
          by_cases ho : (row + 1) < l.t0
          · have ho2 : decide ((row + 1) < l.t0) = true := decide_eq_true ho
            have KOB : Hid (∀ W, Q W → Calls Tryd.prog 20 #[l.val, im'.val, .int .i64 (k : Nat)] W fun e w' => e = .returned (.bool true) ∧ Below W.heap.size W w') := Lib.hid (KO.out _ (HO.out.trans ho2))
            refine region_mix (fun W => Below W2.heap.size W2 W ∧ Whole W W2.heap.size 35 im'.cells) [(0, false), (1, false), (2, false), (3, false), (4, false), (5, false), (6, false), (7, false), (8, false), (9, false), (10, false), (11, false), (12, false), (13, false), (14, false)] (by kernel_rfl) (by kernel_rfl) (fun W => Below W2.heap.size W2 W ∧ Whole W W2.heap.size 35 im'.cells) ⟨HS'.out, fun _ h => h⟩ (HS'.out.drew HS.out) ?_
            clear HO KO HS
            simp only [pickOps, List.getElem?_cons_zero, List.getElem?_cons_succ]
            refine mix_read _ (by rfl) (fun W hW => exec_lay (by rfl) (by rfl) (HQl.out _ (HSQ.out _ hW.1))) ?_
            simp only [Act.put, List.setIfInBounds_toArray, List.set_cons_zero, List.set_cons_succ]
            refine mix_read _ (by rfl) (fun W hW => exec_img HIL (by rfl) (by rfl) hW.2) ?_
            simp only [Act.put, List.setIfInBounds_toArray, List.set_cons_zero, List.set_cons_succ]
            refine mix_read _ (by rfl) (fun W hW => by (go_simp; first | done | with_reducible rfl)) ?_
            simp only [Act.put, List.setIfInBounds_toArray, List.set_cons_zero, List.set_cons_succ]
            refine mix_call _ _ _ (by rfl) (fun W hW => by (go_simp; first | done | rfl)) (fun W hW => KOB.out W (HSQ.out _ hW.1)) ?_
            simp only [Act.put, List.setIfInBounds_toArray, List.set_cons_zero, List.set_cons_succ]
            refine mix_read _ (by rfl) (fun W hW => by (go_simp; first | done | with_reducible rfl)) ?_
            simp only [Act.put, List.setIfInBounds_toArray, List.set_cons_zero, List.set_cons_succ]
            refine mix_read _ (by rfl) (fun W hW => by (go_simp; first | done | with_reducible rfl)) ?_
            simp only [Act.put, List.setIfInBounds_toArray, List.set_cons_zero, List.set_cons_succ]
            refine mix_read _ (by rfl) (fun W hW => by (go_simp; first | done | with_reducible rfl)) ?_
            simp only [Act.put, List.setIfInBounds_toArray, List.set_cons_zero, List.set_cons_succ]
            refine mix_read _ (by rfl) (fun W hW => by (have c := (HQl.out _ (HSQ.out _ hW.1)).cell_at 4 rfl; go_simp; first | done | with_reducible rfl)) ?_
            simp only [Act.put, List.setIfInBounds_toArray, List.set_cons_zero, List.set_cons_succ]
            refine mix_read _ (by rfl) (fun W hW => by (have d := ho; have e := ho2; go_simp; first | done | with_reducible rfl)) ?_
            simp only [Act.put, List.setIfInBounds_toArray, List.set_cons_zero, List.set_cons_succ]
            refine mix_read _ (by rfl) (fun W hW => by (go_simp; first | done | with_reducible rfl)) ?_
            simp only [Act.put, List.setIfInBounds_toArray, List.set_cons_zero, List.set_cons_succ]
            refine mix_read _ (by rfl) (fun W hW => by (go_simp; first | done | with_reducible rfl)) ?_
            simp only [Act.put, List.setIfInBounds_toArray, List.set_cons_zero, List.set_cons_succ]
            refine mix_read _ (by rfl) (fun W hW => exec_img HIL (by rfl) (by rfl) hW.2) ?_
            simp only [Act.put, List.setIfInBounds_toArray, List.set_cons_zero, List.set_cons_succ]
            refine mix_call _ _ _ (by rfl) (fun W hW => by (go_simp; first | done | rfl)) (fun W hW => KR.out W (HSQ.out _ hW.1)) ?_
            simp only [Act.put, List.setIfInBounds_toArray, List.set_cons_zero, List.set_cons_succ]
            refine mix_read _ (by rfl) (fun W hW => by (go_simp; first | done | with_reducible rfl)) ?_
            simp only [Act.put, List.setIfInBounds_toArray, List.set_cons_zero, List.set_cons_succ]
            refine mix_read _ (by rfl) (fun W hW => by (go_simp; first | done | with_reducible rfl)) ?_
            simp only [Act.put, List.setIfInBounds_toArray, List.set_cons_zero, List.set_cons_succ]
            refine mix_nil (fun w6 hW => ?_)
            have HS6 := Lib.hid hW
            clear hW ho ho2 KOB KR
            go_wp2_with fail
            go_roundw
            case rel => exact ⟨j + 1, im', _, age', occ', HLT.out, by go_num, rfl, rfl, rfl, HN, HS6⟩
            case measure => simp [intOf]; have := HLT.out; omega
          · have ho2 : decide ((row + 1) < l.t0) = false := decide_eq_false ho
            have KOB : Hid (∀ W, Q W → Calls Tryd.prog 20 #[l.val, im'.val, .int .i64 (k : Nat)] W fun e w' => e = .returned (.bool false) ∧ Below W.heap.size W w') := Lib.hid (KO.out _ (HO.out.trans ho2))
            refine region_mix (fun W => Below W2.heap.size W2 W ∧ Whole W W2.heap.size 35 im'.cells) [(0, false), (1, false), (2, false), (3, false), (4, false), (5, false), (6, false), (7, false), (8, false), (9, false), (10, false), (11, false), (12, false), (13, false), (14, false)] (by kernel_rfl) (by kernel_rfl) (fun W => Below W2.heap.size W2 W ∧ Whole W W2.heap.size 35 im'.cells) ⟨HS'.out, fun _ h => h⟩ (HS'.out.drew HS.out) ?_
            clear HO KO HS
            simp only [pickOps, List.getElem?_cons_zero, List.getElem?_cons_succ]
            refine mix_read _ (by rfl) (fun W hW => exec_lay (by rfl) (by rfl) (HQl.out _ (HSQ.out _ hW.1))) ?_
            simp only [Act.put, List.setIfInBounds_toArray, List.set_cons_zero, List.set_cons_succ]
            refine mix_read _ (by rfl) (fun W hW => exec_img HIL (by rfl) (by rfl) hW.2) ?_
            simp only [Act.put, List.setIfInBounds_toArray, List.set_cons_zero, List.set_cons_succ]
            refine mix_read _ (by rfl) (fun W hW => by (go_simp; first | done | with_reducible rfl)) ?_
            simp only [Act.put, List.setIfInBounds_toArray, List.set_cons_zero, List.set_cons_succ]
            refine mix_call _ _ _ (by rfl) (fun W hW => by (go_simp; first | done | rfl)) (fun W hW => KOB.out W (HSQ.out _ hW.1)) ?_
            simp only [Act.put, List.setIfInBounds_toArray, List.set_cons_zero, List.set_cons_succ]
            refine mix_read _ (by rfl) (fun W hW => by (go_simp; first | done | with_reducible rfl)) ?_
            simp only [Act.put, List.setIfInBounds_toArray, List.set_cons_zero, List.set_cons_succ]
            refine mix_read _ (by rfl) (fun W hW => by (go_simp; first | done | with_reducible rfl)) ?_
            simp only [Act.put, List.setIfInBounds_toArray, List.set_cons_zero, List.set_cons_succ]
            refine mix_read _ (by rfl) (fun W hW => by (go_simp; first | done | with_reducible rfl)) ?_
            simp only [Act.put, List.setIfInBounds_toArray, List.set_cons_zero, List.set_cons_succ]
            refine mix_read _ (by rfl) (fun W hW => by (have c := (HQl.out _ (HSQ.out _ hW.1)).cell_at 4 rfl; go_simp; first | done | with_reducible rfl)) ?_
            simp only [Act.put, List.setIfInBounds_toArray, List.set_cons_zero, List.set_cons_succ]
            refine mix_read _ (by rfl) (fun W hW => by (have d := ho; have e := ho2; go_simp; first | done | with_reducible rfl)) ?_
            simp only [Act.put, List.setIfInBounds_toArray, List.set_cons_zero, List.set_cons_succ]
            refine mix_read _ (by rfl) (fun W hW => by (go_simp; first | done | with_reducible rfl)) ?_
            simp only [Act.put, List.setIfInBounds_toArray, List.set_cons_zero, List.set_cons_succ]
            refine mix_read _ (by rfl) (fun W hW => by (go_simp; first | done | with_reducible rfl)) ?_
            simp only [Act.put, List.setIfInBounds_toArray, List.set_cons_zero, List.set_cons_succ]
            refine mix_read _ (by rfl) (fun W hW => exec_img HIL (by rfl) (by rfl) hW.2) ?_
            simp only [Act.put, List.setIfInBounds_toArray, List.set_cons_zero, List.set_cons_succ]
            refine mix_call _ _ _ (by rfl) (fun W hW => by (go_simp; first | done | rfl)) (fun W hW => KR.out W (HSQ.out _ hW.1)) ?_
            simp only [Act.put, List.setIfInBounds_toArray, List.set_cons_zero, List.set_cons_succ]
            refine mix_read _ (by rfl) (fun W hW => by (go_simp; first | done | with_reducible rfl)) ?_
            simp only [Act.put, List.setIfInBounds_toArray, List.set_cons_zero, List.set_cons_succ]
            refine mix_read _ (by rfl) (fun W hW => by (go_simp; first | done | with_reducible rfl)) ?_
            simp only [Act.put, List.setIfInBounds_toArray, List.set_cons_zero, List.set_cons_succ]
            refine mix_nil (fun w6 hW => ?_)
            have HS6 := Lib.hid hW
            clear hW ho ho2 KOB KR
            go_wp2_with fail
            go_roundw
            case rel => exact ⟨j + 1, im', _, age', occ', HLT.out, by go_num, rfl, rfl, rfl, HN, HS6⟩
            case measure => simp [intOf]; have := HLT.out; omega
        · skip
          have HN : Hid (ClrInv l im' k 0 age' occ' (j + 1)) := HN
          have HO : Hid (occI l im' (k : Int) = decide (0 < l.t0)) := HO
          go_upto_region 18 with (fail)
          by_cases ho : 0 < l.t0
          · have ho2 : decide (0 < l.t0) = true := decide_eq_true ho
            have KOB : Hid (∀ W, Q W → Calls Tryd.prog 20 #[l.val, im'.val, .int .i64 (k : Nat)] W fun e w' => e = .returned (.bool true) ∧ Below W.heap.size W w') := Lib.hid (KO.out _ (HO.out.trans ho2))
            refine region_mix (fun W => Below W2.heap.size W2 W ∧ Whole W W2.heap.size 35 im'.cells) [(0, false), (1, false), (2, false), (3, false), (4, false), (5, false), (6, false), (7, false), (8, false), (9, false), (10, false), (11, false), (12, false), (13, false), (14, false)] (by kernel_rfl) (by kernel_rfl) (fun W => Below W2.heap.size W2 W ∧ Whole W W2.heap.size 35 im'.cells) ⟨HS'.out, fun _ h => h⟩ (HS'.out.drew HS.out) ?_
            clear HO KO HS
            simp only [pickOps, List.getElem?_cons_zero, List.getElem?_cons_succ]
            refine mix_read _ (by rfl) (fun W hW => exec_lay (by rfl) (by rfl) (HQl.out _ (HSQ.out _ hW.1))) ?_
            simp only [Act.put, List.setIfInBounds_toArray, List.set_cons_zero, List.set_cons_succ]
            refine mix_read _ (by rfl) (fun W hW => exec_img HIL (by rfl) (by rfl) hW.2) ?_
            simp only [Act.put, List.setIfInBounds_toArray, List.set_cons_zero, List.set_cons_succ]
            refine mix_read _ (by rfl) (fun W hW => by (go_simp; first | done | with_reducible rfl)) ?_
            simp only [Act.put, List.setIfInBounds_toArray, List.set_cons_zero, List.set_cons_succ]
            refine mix_call _ _ _ (by rfl) (fun W hW => by (go_simp; first | done | rfl)) (fun W hW => KOB.out W (HSQ.out _ hW.1)) ?_
            simp only [Act.put, List.setIfInBounds_toArray, List.set_cons_zero, List.set_cons_succ]
            refine mix_read _ (by rfl) (fun W hW => by (go_simp; first | done | with_reducible rfl)) ?_
            simp only [Act.put, List.setIfInBounds_toArray, List.set_cons_zero, List.set_cons_succ]
            refine mix_read _ (by rfl) (fun W hW => by (go_simp; first | done | with_reducible rfl)) ?_
            simp only [Act.put, List.setIfInBounds_toArray, List.set_cons_zero, List.set_cons_succ]
            refine mix_read _ (by rfl) (fun W hW => by (go_simp; first | done | with_reducible rfl)) ?_
            simp only [Act.put, List.setIfInBounds_toArray, List.set_cons_zero, List.set_cons_succ]
            refine mix_read _ (by rfl) (fun W hW => by (have c := (HQl.out _ (HSQ.out _ hW.1)).cell_at 4 rfl; go_simp; first | done | with_reducible rfl)) ?_
            simp only [Act.put, List.setIfInBounds_toArray, List.set_cons_zero, List.set_cons_succ]
            refine mix_read _ (by rfl) (fun W hW => by (have d := ho; have e := ho2; go_simp; first | done | with_reducible rfl)) ?_
            simp only [Act.put, List.setIfInBounds_toArray, List.set_cons_zero, List.set_cons_succ]
            refine mix_read _ (by rfl) (fun W hW => by (go_simp; first | done | with_reducible rfl)) ?_
            simp only [Act.put, List.setIfInBounds_toArray, List.set_cons_zero, List.set_cons_succ]
            refine mix_read _ (by rfl) (fun W hW => by (go_simp; first | done | with_reducible rfl)) ?_
            simp only [Act.put, List.setIfInBounds_toArray, List.set_cons_zero, List.set_cons_succ]
            refine mix_read _ (by rfl) (fun W hW => exec_img HIL (by rfl) (by rfl) hW.2) ?_
            simp only [Act.put, List.setIfInBounds_toArray, List.set_cons_zero, List.set_cons_succ]
            refine mix_call _ _ _ (by rfl) (fun W hW => by (go_simp; first | done | rfl)) (fun W hW => KR.out W (HSQ.out _ hW.1)) ?_
            simp only [Act.put, List.setIfInBounds_toArray, List.set_cons_zero, List.set_cons_succ]
            refine mix_read _ (by rfl) (fun W hW => by (go_simp; first | done | with_reducible rfl)) ?_
            simp only [Act.put, List.setIfInBounds_toArray, List.set_cons_zero, List.set_cons_succ]
            refine mix_read _ (by rfl) (fun W hW => by (go_simp; first | done | with_reducible rfl)) ?_
            simp only [Act.put, List.setIfInBounds_toArray, List.set_cons_zero, List.set_cons_succ]
            refine mix_nil (fun w6 hW => ?_)
            have HS6 := Lib.hid hW
            clear hW ho ho2 KOB KR
            go_wp2_with fail
            go_roundw
            case rel => exact ⟨j + 1, im', _, age', occ', HLT.out, by go_num, rfl, rfl, rfl, HN, HS6⟩
            case measure => simp [intOf]; have := HLT.out; omega
          · have ho2 : decide (0 < l.t0) = false := decide_eq_false ho
            have KOB : Hid (∀ W, Q W → Calls Tryd.prog 20 #[l.val, im'.val, .int .i64 (k : Nat)] W fun e w' => e = .returned (.bool false) ∧ Below W.heap.size W w') := Lib.hid (KO.out _ (HO.out.trans ho2))
            refine region_mix (fun W => Below W2.heap.size W2 W ∧ Whole W W2.heap.size 35 im'.cells) [(0, false), (1, false), (2, false), (3, false), (4, false), (5, false), (6, false), (7, false), (8, false), (9, false), (10, false), (11, false), (12, false), (13, false), (14, false)] (by kernel_rfl) (by kernel_rfl) (fun W => Below W2.heap.size W2 W ∧ Whole W W2.heap.size 35 im'.cells) ⟨HS'.out, fun _ h => h⟩ (HS'.out.drew HS.out) ?_
            clear HO KO HS
            simp only [pickOps, List.getElem?_cons_zero, List.getElem?_cons_succ]
            refine mix_read _ (by rfl) (fun W hW => exec_lay (by rfl) (by rfl) (HQl.out _ (HSQ.out _ hW.1))) ?_
            simp only [Act.put, List.setIfInBounds_toArray, List.set_cons_zero, List.set_cons_succ]
            refine mix_read _ (by rfl) (fun W hW => exec_img HIL (by rfl) (by rfl) hW.2) ?_
            simp only [Act.put, List.setIfInBounds_toArray, List.set_cons_zero, List.set_cons_succ]
            refine mix_read _ (by rfl) (fun W hW => by (go_simp; first | done | with_reducible rfl)) ?_
            simp only [Act.put, List.setIfInBounds_toArray, List.set_cons_zero, List.set_cons_succ]
            refine mix_call _ _ _ (by rfl) (fun W hW => by (go_simp; first | done | rfl)) (fun W hW => KOB.out W (HSQ.out _ hW.1)) ?_
            simp only [Act.put, List.setIfInBounds_toArray, List.set_cons_zero, List.set_cons_succ]
            refine mix_read _ (by rfl) (fun W hW => by (go_simp; first | done | with_reducible rfl)) ?_
            simp only [Act.put, List.setIfInBounds_toArray, List.set_cons_zero, List.set_cons_succ]
            refine mix_read _ (by rfl) (fun W hW => by (go_simp; first | done | with_reducible rfl)) ?_
            simp only [Act.put, List.setIfInBounds_toArray, List.set_cons_zero, List.set_cons_succ]
            refine mix_read _ (by rfl) (fun W hW => by (go_simp; first | done | with_reducible rfl)) ?_
            simp only [Act.put, List.setIfInBounds_toArray, List.set_cons_zero, List.set_cons_succ]
            refine mix_read _ (by rfl) (fun W hW => by (have c := (HQl.out _ (HSQ.out _ hW.1)).cell_at 4 rfl; go_simp; first | done | with_reducible rfl)) ?_
            simp only [Act.put, List.setIfInBounds_toArray, List.set_cons_zero, List.set_cons_succ]
            refine mix_read _ (by rfl) (fun W hW => by (have d := ho; have e := ho2; go_simp; first | done | with_reducible rfl)) ?_
            simp only [Act.put, List.setIfInBounds_toArray, List.set_cons_zero, List.set_cons_succ]
            refine mix_read _ (by rfl) (fun W hW => by (go_simp; first | done | with_reducible rfl)) ?_
            simp only [Act.put, List.setIfInBounds_toArray, List.set_cons_zero, List.set_cons_succ]
            refine mix_read _ (by rfl) (fun W hW => by (go_simp; first | done | with_reducible rfl)) ?_
            simp only [Act.put, List.setIfInBounds_toArray, List.set_cons_zero, List.set_cons_succ]
            refine mix_read _ (by rfl) (fun W hW => exec_img HIL (by rfl) (by rfl) hW.2) ?_
            simp only [Act.put, List.setIfInBounds_toArray, List.set_cons_zero, List.set_cons_succ]
            refine mix_call _ _ _ (by rfl) (fun W hW => by (go_simp; first | done | rfl)) (fun W hW => KR.out W (HSQ.out _ hW.1)) ?_
            simp only [Act.put, List.setIfInBounds_toArray, List.set_cons_zero, List.set_cons_succ]
            refine mix_read _ (by rfl) (fun W hW => by (go_simp; first | done | with_reducible rfl)) ?_
            simp only [Act.put, List.setIfInBounds_toArray, List.set_cons_zero, List.set_cons_succ]
            refine mix_read _ (by rfl) (fun W hW => by (go_simp; first | done | with_reducible rfl)) ?_
            simp only [Act.put, List.setIfInBounds_toArray, List.set_cons_zero, List.set_cons_succ]
            refine mix_nil (fun w6 hW => ?_)
            have HS6 := Lib.hid hW
            clear hW ho ho2 KOB KR
            go_wp2_with fail
            go_roundw
            case rel => exact ⟨j + 1, im', _, age', occ', HLT.out, by go_num, rfl, rfl, rfl, HN, HS6⟩
            case measure => simp [intOf]; have := HLT.out; omega
      · obtain rfl : j = ts.length := by omega
        have hq := HSQ.out _ HS.out.1
        have hlt' : ¬ ((ts.length : Nat) : Int) < (ts.length : Nat) := by omega
        go_wp2_with fail
        refine (KW.out _ hq).mono ?_
        rintro e Wk ⟨rfl, hB⟩
        have HB := Lib.hid (HQb.out _ (HQ.out _ _ hq hB))
        clear hB hq
        go_wp2_with fail
        go_ret
        exact ⟨rfl, HB.out⟩
  · go_wp2_with fail
    refine (KW.out _ hq).mono ?_
    rintro e Wk ⟨rfl, hB⟩
    have HB := Lib.hid (HQb.out _ (HQ.out _ _ hq hB))
    clear hB hq
    go_wp2_with fail
    go_ret
    exact ⟨rfl, HB.out⟩

end Go.Proofs.YtniihmafbeplaaaDoor
