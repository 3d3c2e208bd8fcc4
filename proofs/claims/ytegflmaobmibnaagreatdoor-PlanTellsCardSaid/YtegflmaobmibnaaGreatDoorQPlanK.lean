/- An exit's numbers. -/
import Derived.Test.YtegflmaobmibnaaGreatDoorQPlanM
import Derived.Test.YtegflmaobmibnaaGreatDoorQFork
namespace Go.Proofs.YtegflmaobmibnaaGreatDoor
set_option maxRecDepth 100000
open Go.RowKit Go.Shelf
set_option linter.unusedVariables false
set_option linter.unusedSimpArgs false

set_option maxHeartbeats 16000000 in
theorem ofExit_any0 (xs xq : Int) (XA : Option Addr) (xc : Nat) (ov : List (Int × Int × Int)) (w : World) (hrow : Row w w.heap.size XA (ov.flatMap stpCells)) (hn : ov.length ≤ 100) : Calls Tryz.prog 67 #[(⟨xs, xq, XA, xc, ov⟩ : Exm).val] w fun e w' => Nums w.heap.size (numsExit (xs, xq, ov)) e w' ∧ Below w.heap.size w w' := by
  have HX : Hid (∀ W, Below (w.heap.size + 1) (w.alloc (.cells (⟨xs, xq, XA, xc, ov⟩ : Exm).cells.toArray 51)) W → Whole W w.heap.size 51 (⟨xs, xq, XA, xc, ov⟩ : Exm).cells ∧ Below w.heap.size w W) := Lib.hid (fun W hW =>
    ⟨(Whole.new w 51 (⟨xs, xq, XA, xc, ov⟩ : Exm).cells).below hW (by omega), (below1 w _).trans (hW.mono (by omega))⟩)
  go_enter Tryz.func67, Tryz.ntmps67
  go_wp2_with fail
  obtain ⟨W0, hW0⟩ : ∃ W, w.alloc (.cells #[.int .i64 xs, .int .i64 xq, .slice XA ov.length xc] 51) = W := ⟨_, rfl⟩
  have HSZ : Hid (W0.heap.size = w.heap.size + 1) := Lib.hid (by rw [← hW0]; simp)
  have HX0 : Hid (∀ W, Below W0.heap.size W0 W → Whole W w.heap.size 51 (⟨xs, xq, XA, xc, ov⟩ : Exm).cells ∧ Below w.heap.size w W) := Lib.hid (fun W hW => HX.out W (by rw [HSZ.out] at hW; rw [← hW0] at hW; exact hW))
  rw [hW0]
  clear hW0 HX
  have HBX : Hid (∀ W, Below W0.heap.size W0 W → W.cell? ⟨w.heap.size, 0, none⟩ = some (.int .i64 xs) ∧ W.cell? ⟨w.heap.size, 1, none⟩ = some (.int .i64 xq) ∧ W.cell? ⟨w.heap.size, 2, none⟩ = some (.slice XA ov.length xc)) := Lib.hid (fun W hW =>
    ⟨(HX0.out W hW).1.cell_at 0 rfl, (HX0.out W hW).1.cell_at 1 rfl, (HX0.out W hW).1.cell_at 2 rfl⟩)
  have HRO : Hid (∀ W, Below W0.heap.size W0 W → Row W W.heap.size XA (ov.flatMap stpCells)) := Lib.hid (fun W hW => hrow.on (HX0.out W hW).2)
  have HX : Hid (∀ W, Below W0.heap.size W0 W → Below w.heap.size w W) := Lib.hid (fun W hW => (HX0.out W hW).2)
  clear HX0 hrow
  refine region_fork (Below W0.heap.size W0) [(0, false), (1, false), (3, false), (4, false), (5, false), (6, false)] 2 7 [(7, true), (8, true), (9, false)] [(2, true), (8, true), (9, false)] (by kernel_rfl) (by kernel_rfl) (Below W0.heap.size W0) ⟨Closed.below W0, fun _ h => h⟩ (Below.refl _ _).drew ?_
  simp only [pickOps, List.getElem?_cons_zero, List.getElem?_cons_succ]
  repeat (first | (refine mix_skip (by rfl) ?_; simp only [Act.put, List.setIfInBounds_toArray, List.set_cons_zero, List.set_cons_succ]) | (refine mix_read _ (by rfl) (fun W hW => by (obtain ⟨x0, x1, x2⟩ := HBX.out W hW; clear hW; go_simp; first | done | with_reducible rfl)) ?_; simp only [Act.put, List.setIfInBounds_toArray, List.set_cons_zero, List.set_cons_succ]))
  refine mix_nil (fun hF => ⟨?_, ?_⟩)
  · refine mix_meet (X := Option Addr × Nat) (fun u => .slice u.1 2 u.2) (fun u W => W.ownsRow W0.heap.size 56 2 (.slice u.1 2 u.2) 2 ((numsPort (xs, xq)).flatMap numCells)) hF (fun u _ _ h hb => owns_keep h hb) 66 #[prtV xs xq] (by rfl) (fun W hW => by (go_simp; first | done | rfl)) (fun W hW => (ofPort_any xs xq W).mono (fun e w' h => by
      obtain ⟨⟨A, c, rfl, ho⟩, hb⟩ := h
      exact ⟨(A, c), rfl, owns_base ho hW.size, hb⟩)) (fun u => ?_)
    simp only [Act.put, List.setIfInBounds_toArray, List.set_cons_zero, List.set_cons_succ]
    refine mix_make (fun g => .slice (some ⟨g, 0, none⟩) 1 1) W0.heap.size 56 [.int .i64 (ov.length : Int), .int .i64 2] ⟨hF.1.and (fun _ _ h hb => owns_keep h hb), fun W h => hF.2 W h.1⟩ (fun _ h => h.1.size) (by rfl) (fun W hW => by (go_simp; first | done | with_reducible rfl)) (fun g hg => ?_)
    simp only [Act.put, List.setIfInBounds_toArray, List.set_cons_zero, List.set_cons_succ]
    refine mix_yield (X := Option Addr × Nat) (fun B => .slice B.1 3 B.2) (fun B W => RowIs W0 (numsPort (xs, xq) ++ [((ov.length : Int), 2)]) B.1 B.2 W) (fun B => ⟨fun _ _ h hb => h.keep hb, fun W h => h.below⟩) (by rfl) (fun W hW => ?_) (fun B => ?_)
    · obtain ⟨hb, ho, hg0⟩ : Below W0.heap.size W0 W ∧ W.ownsRow W0.heap.size 56 2 (.slice u.1 2 u.2) 2 ((numsPort (xs, xq)).flatMap numCells) ∧ Whole W g 56 [.int .i64 (ov.length : Int), .int .i64 2] := ⟨hW.1.1, hW.1.2, hW.2⟩
      obtain ⟨A2, c2, w6, h1, h2⟩ := (⟨hb, ho⟩ : RowIs W0 (numsPort (xs, xq)) u.1 u.2 W).append (qs := [((ov.length : Int), 2)]) (A' := some ⟨g, 0, none⟩) (c' := 1) (B := g + 1) (hg0.row (by omega)) (by simp) (show 2 ≤ 1000 by decide) (show 1 ≤ 1000 by decide)
      exact ⟨(A2, c2), w6, exec_append (.tmp 8) (.tmp 13) 63 rfl h1, h2⟩
    simp only [Act.put, List.setIfInBounds_toArray, List.set_cons_zero, List.set_cons_succ]
    repeat (first | (refine mix_skip (by rfl) ?_; simp only [Act.put, List.setIfInBounds_toArray, List.set_cons_zero, List.set_cons_succ]) | (refine mix_read _ (by rfl) (fun W hW => by (clear hW; go_simp; first | done | with_reducible rfl)) ?_; simp only [Act.put, List.setIfInBounds_toArray, List.set_cons_zero, List.set_cons_succ]))
    refine mix_nil (fun W hW => ?_)
    have HRW := Lib.hid hW
    have HBW := Lib.hid (HBX.out W hW.below)
    have x2 := HBW.out.2.2
    clear hW
    go_wp2_with fail
    go_loopw [18, 3] (fun i v wr => ∃ (j : Nat) (ps : List (Int × Nat)) (A : Option Addr) (c : Nat), j ≤ ov.length ∧ i = .int .i64 j ∧ v = .slice A ps.length c ∧ Hid (ps = (numsPort (xs, xq) ++ [((ov.length : Int), 2)]) ++ (ov.take j).flatMap numsStep ∧ ps.length ≤ 3 + 3 * j ∧ RowIs W0 ps A c wr)) (fun i _ _ => ov.length - (intOf i).toNat)
    case atStart => exact ⟨0, numsPort (xs, xq) ++ [((ov.length : Int), 2)], B.1, B.2, by omega, rfl, rfl, Lib.hid ⟨by simp, by simp [numsPort], HRW.out⟩⟩
    case round =>
      clear HRW HBW x2
      obtain ⟨j, ps, A, c, hj, rfl, rfl, HM⟩ := hrel
      by_cases hlt : j < ov.length
      · have hlt' : (j : Int) < (ov.length : Int) := by omega
        obtain ⟨⟨sa, sb, sc⟩, hsj⟩ : ∃ p, ov[j]? = some p := ⟨_, List.getElem?_eq_getElem hlt⟩
        obtain ⟨b2, off2, rfl, _, hc0, hc⟩ := (HRO.out wr HM.out.2.2.below).nth (n := 3) (fun _ => rfl) (by omega) hsj
        have d0 := hc0 j _ _ hsj rfl
        have d1 := hc j _ 1 _ hsj rfl
        have d2 := hc j _ 2 _ hsj rfl
        clear hc0 hc
        have HFIN : Hid (∀ (w6 : World) (A2 : Option Addr) (c2 : Nat), RowIs W0 (ps ++ numsStep (sa, sb, sc)) A2 c2 w6 → ∃ (j' : Nat) (ps' : List (Int × Nat)) (A'' : Option Addr) (c'' : Nat), j' ≤ ov.length ∧ (j : Int) + 1 = (j' : Int) ∧ Value.slice A2 (ps ++ numsStep (sa, sb, sc)).length c2 = .slice A'' ps'.length c'' ∧ Hid (ps' = (numsPort (xs, xq) ++ [((ov.length : Int), 2)]) ++ (ov.take j').flatMap numsStep ∧ ps'.length ≤ 3 + 3 * j' ∧ RowIs W0 ps' A'' c'' w6)) :=
          Lib.hid (fun w6 A2 c2 h1 => ⟨j + 1, ps ++ numsStep (sa, sb, sc), A2, c2, hlt, by omega, rfl, Lib.hid ⟨by rw [take_flat numsStep _ _ _ hsj, HM.out.1, List.append_assoc], by rw [List.length_append]; have := HM.out.2.1; simp [numsStep]; omega, h1⟩⟩)
        have HLN : Hid (ps.length ≤ 1000) := Lib.hid (by have := HM.out.2.1; omega)
        have HLT := Lib.hid hlt
        have hR4 := (HM.out.2.2.keep (below1 wr (.cells #[.int .i64 sa, .int .i64 sb, .int .i64 sc] 74))).keep (below1 _ (.cells ((numsStep (sa, sb, sc)).flatMap numCells).toArray 56))
        have hW4 := Whole.new (wr.alloc (.cells #[.int .i64 sa, .int .i64 sb, .int .i64 sc] 74)) 56 ((numsStep (sa, sb, sc)).flatMap numCells)
        obtain ⟨A2, c2, w6, h1, h2⟩ := hR4.append (qs := numsStep (sa, sb, sc)) (A' := some ⟨wr.heap.size + 1, 0, none⟩) (c' := 3) (B := wr.heap.size + 2) (by rw [World.size_alloc] at hW4; exact hW4.row (by omega)) (by simp) HLN.out (show 3 ≤ 1000 by decide)
        have HE := Lib.hid (HFIN.out w6 A2 c2 h2)
        clear hlt hsj HFIN
        go_wp2_with (at_builtin; refine list_append rfl (.tmp 22) (.tmp 32) 63 rfl h1 ?_)
        go_roundw
        case rel =>
          obtain ⟨j', ps', A'', c'', b1, b2, b3, b4⟩ := HE.out
          exact ⟨j', ps', A'', c'', b1, by rw [← b2], by rw [← b3]; simp [numsStep], b4⟩
        case measure => exact loop_less1 j ov.length HLT.out
      · obtain rfl : j = ov.length := by omega
        have HN : Hid (Nums w.heap.size (numsExit (xs, xq, ov)) (.returned (.slice A ps.length c)) wr ∧ Below w.heap.size w wr) := by
          refine Lib.hid ⟨?_, HX.out _ HM.out.2.2.below⟩
          have he : numsExit (xs, xq, ov) = ps := by
            rw [HM.out.1, List.take_length]
            show numsPort (xs, xq) ++ ((ov.length : Int), 2) :: ov.flatMap numsStep = _
            simp
          rw [he]
          exact ⟨A, c, rfl, owns_base HM.out.2.2.own (by rw [HSZ.out]; omega)⟩
        clear HM hj hlt
        go_wp2_with fail
        go_ret
        exact HN.out
  · refine mix_make (fun g => .slice (some ⟨g, 0, none⟩) 1 1) W0.heap.size 56 [.int .i64 (ov.length : Int), .int .i64 2] hF (fun _ h => h.size) (by rfl) (fun W hW => by (go_simp; first | done | with_reducible rfl)) (fun g hg => ?_)
    simp only [Act.put, List.setIfInBounds_toArray, List.set_cons_zero, List.set_cons_succ]
    refine mix_meet (X := Option Addr × Nat) (fun u => .slice u.1 2 u.2) (fun u W => W.ownsRow W0.heap.size 56 2 (.slice u.1 2 u.2) 2 ((numsPort (xs, xq)).flatMap numCells)) ⟨hF.1.and (Closed.whole _ _ _), fun W h => hF.2 W h.1⟩ (fun u _ _ h hb => owns_keep h hb) 66 #[prtV xs xq] (by rfl) (fun W hW => by (go_simp; first | done | rfl)) (fun W hW => (ofPort_any xs xq W).mono (fun e w' h => by
      obtain ⟨⟨A, c, rfl, ho⟩, hb⟩ := h
      exact ⟨(A, c), rfl, owns_base ho hW.1.size, hb⟩)) (fun u => ?_)
    simp only [Act.put, List.setIfInBounds_toArray, List.set_cons_zero, List.set_cons_succ]
    refine mix_yield (X := Option Addr × Nat) (fun B => .slice B.1 3 B.2) (fun B W => RowIs W0 (numsPort (xs, xq) ++ [((ov.length : Int), 2)]) B.1 B.2 W) (fun B => ⟨fun _ _ h hb => h.keep hb, fun W h => h.below⟩) (by rfl) (fun W hW => ?_) (fun B => ?_)
    · obtain ⟨hb, ho, hg0⟩ : Below W0.heap.size W0 W ∧ W.ownsRow W0.heap.size 56 2 (.slice u.1 2 u.2) 2 ((numsPort (xs, xq)).flatMap numCells) ∧ Whole W g 56 [.int .i64 (ov.length : Int), .int .i64 2] := ⟨hW.1.1, hW.2, hW.1.2⟩
      obtain ⟨A2, c2, w6, h1, h2⟩ := (⟨hb, ho⟩ : RowIs W0 (numsPort (xs, xq)) u.1 u.2 W).append (qs := [((ov.length : Int), 2)]) (A' := some ⟨g, 0, none⟩) (c' := 1) (B := g + 1) (hg0.row (by omega)) (by simp) (show 2 ≤ 1000 by decide) (show 1 ≤ 1000 by decide)
      exact ⟨(A2, c2), w6, exec_append (.tmp 8) (.tmp 13) 63 rfl h1, h2⟩
    simp only [Act.put, List.setIfInBounds_toArray, List.set_cons_zero, List.set_cons_succ]
    repeat (first | (refine mix_skip (by rfl) ?_; simp only [Act.put, List.setIfInBounds_toArray, List.set_cons_zero, List.set_cons_succ]) | (refine mix_read _ (by rfl) (fun W hW => by (clear hW; go_simp; first | done | with_reducible rfl)) ?_; simp only [Act.put, List.setIfInBounds_toArray, List.set_cons_zero, List.set_cons_succ]))
    refine mix_nil (fun W hW => ?_)
    have HRW := Lib.hid hW
    have HBW := Lib.hid (HBX.out W hW.below)
    have x2 := HBW.out.2.2
    clear hW
    go_wp2_with fail
    go_loopw [18, 3] (fun i v wr => ∃ (j : Nat) (ps : List (Int × Nat)) (A : Option Addr) (c : Nat), j ≤ ov.length ∧ i = .int .i64 j ∧ v = .slice A ps.length c ∧ Hid (ps = (numsPort (xs, xq) ++ [((ov.length : Int), 2)]) ++ (ov.take j).flatMap numsStep ∧ ps.length ≤ 3 + 3 * j ∧ RowIs W0 ps A c wr)) (fun i _ _ => ov.length - (intOf i).toNat)
    case atStart => exact ⟨0, numsPort (xs, xq) ++ [((ov.length : Int), 2)], B.1, B.2, by omega, rfl, rfl, Lib.hid ⟨by simp, by simp [numsPort], HRW.out⟩⟩
    case round =>
      clear HRW HBW x2
      obtain ⟨j, ps, A, c, hj, rfl, rfl, HM⟩ := hrel
      by_cases hlt : j < ov.length
      · have hlt' : (j : Int) < (ov.length : Int) := by omega
        obtain ⟨⟨sa, sb, sc⟩, hsj⟩ : ∃ p, ov[j]? = some p := ⟨_, List.getElem?_eq_getElem hlt⟩
        obtain ⟨b2, off2, rfl, _, hc0, hc⟩ := (HRO.out wr HM.out.2.2.below).nth (n := 3) (fun _ => rfl) (by omega) hsj
        have d0 := hc0 j _ _ hsj rfl
        have d1 := hc j _ 1 _ hsj rfl
        have d2 := hc j _ 2 _ hsj rfl
        clear hc0 hc
        have HFIN : Hid (∀ (w6 : World) (A2 : Option Addr) (c2 : Nat), RowIs W0 (ps ++ numsStep (sa, sb, sc)) A2 c2 w6 → ∃ (j' : Nat) (ps' : List (Int × Nat)) (A'' : Option Addr) (c'' : Nat), j' ≤ ov.length ∧ (j : Int) + 1 = (j' : Int) ∧ Value.slice A2 (ps ++ numsStep (sa, sb, sc)).length c2 = .slice A'' ps'.length c'' ∧ Hid (ps' = (numsPort (xs, xq) ++ [((ov.length : Int), 2)]) ++ (ov.take j').flatMap numsStep ∧ ps'.length ≤ 3 + 3 * j' ∧ RowIs W0 ps' A'' c'' w6)) :=
          Lib.hid (fun w6 A2 c2 h1 => ⟨j + 1, ps ++ numsStep (sa, sb, sc), A2, c2, hlt, by omega, rfl, Lib.hid ⟨by rw [take_flat numsStep _ _ _ hsj, HM.out.1, List.append_assoc], by rw [List.length_append]; have := HM.out.2.1; simp [numsStep]; omega, h1⟩⟩)
        have HLN : Hid (ps.length ≤ 1000) := Lib.hid (by have := HM.out.2.1; omega)
        have HLT := Lib.hid hlt
        have hR4 := (HM.out.2.2.keep (below1 wr (.cells #[.int .i64 sa, .int .i64 sb, .int .i64 sc] 74))).keep (below1 _ (.cells ((numsStep (sa, sb, sc)).flatMap numCells).toArray 56))
        have hW4 := Whole.new (wr.alloc (.cells #[.int .i64 sa, .int .i64 sb, .int .i64 sc] 74)) 56 ((numsStep (sa, sb, sc)).flatMap numCells)
        obtain ⟨A2, c2, w6, h1, h2⟩ := hR4.append (qs := numsStep (sa, sb, sc)) (A' := some ⟨wr.heap.size + 1, 0, none⟩) (c' := 3) (B := wr.heap.size + 2) (by rw [World.size_alloc] at hW4; exact hW4.row (by omega)) (by simp) HLN.out (show 3 ≤ 1000 by decide)
        have HE := Lib.hid (HFIN.out w6 A2 c2 h2)
        clear hlt hsj HFIN
        go_wp2_with (at_builtin; refine list_append rfl (.tmp 22) (.tmp 32) 63 rfl h1 ?_)
        go_roundw
        case rel =>
          obtain ⟨j', ps', A'', c'', b1, b2, b3, b4⟩ := HE.out
          exact ⟨j', ps', A'', c'', b1, by rw [← b2], by rw [← b3]; simp [numsStep], b4⟩
        case measure => exact loop_less1 j ov.length HLT.out
      · obtain rfl : j = ov.length := by omega
        have HN : Hid (Nums w.heap.size (numsExit (xs, xq, ov)) (.returned (.slice A ps.length c)) wr ∧ Below w.heap.size w wr) := by
          refine Lib.hid ⟨?_, HX.out _ HM.out.2.2.below⟩
          have he : numsExit (xs, xq, ov) = ps := by
            rw [HM.out.1, List.take_length]
            show numsPort (xs, xq) ++ ((ov.length : Int), 2) :: ov.flatMap numsStep = _
            simp
          rw [he]
          exact ⟨A, c, rfl, owns_base HM.out.2.2.own (by rw [HSZ.out]; omega)⟩
        clear HM hj hlt
        go_wp2_with fail
        go_ret
        exact HN.out
theorem ofExit_any (x : Exm) (w : World) (hrow : Row w w.heap.size x.A (x.over.flatMap stpCells)) (hn : x.over.length ≤ 100) : Calls Tryz.prog 67 #[x.val] w fun e w' => Nums w.heap.size (numsExit x.pure) e w' ∧ Below w.heap.size w w' := ofExit_any0 x.s x.q x.A x.c x.over w hrow hn
end Go.Proofs.YtegflmaobmibnaaGreatDoor
