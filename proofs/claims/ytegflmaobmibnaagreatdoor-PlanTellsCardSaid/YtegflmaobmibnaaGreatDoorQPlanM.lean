/- A section's numbers. -/
import Derived.Test.YtegflmaobmibnaaGreatDoorQPlanN
namespace Go.Proofs.YtegflmaobmibnaaGreatDoor
set_option maxRecDepth 100000
open Go.RowKit Go.Shelf
set_option linter.unusedVariables false
set_option linter.unusedSimpArgs false

theorem numsJoin_length (p : Int × Int) : (numsJoin p).length ≤ 3 ∧ 0 < (numsJoin p).length := by unfold numsJoin; split <;> simp [numsPort]
theorem numsSec_eq (x : Sec) {Pn Cn : Nat} (hP : (pK x.k).toNat = Pn) (hC : (nK x.k).toNat = Cn) : numsSec x = ((x.k, 2) :: (x.ports4.take Pn).flatMap numsJoin) ++ ([x.c0, x.c1].take Cn).flatMap numsClass := by subst hP; subst hC; simp [numsSec]
theorem take_flat {α β : Type} (f : α → List β) (l : List α) (j : Nat) (x : α) (h : l[j]? = some x) : (l.take (j + 1)).flatMap f = (l.take j).flatMap f ++ f x := by rw [List.take_add_one, h, List.flatMap_append]; simp
/-- A row of numbers under way. -/
structure RowIs (w : World) (ps : List (Int × Nat)) (A : Option Addr) (c : Nat) (W : World) : Prop where
  below : Below w.heap.size w W
  own : W.ownsRow w.heap.size 56 2 (.slice A ps.length c) ps.length (ps.flatMap numCells)
theorem RowIs.keep {w W W' : World} {ps : List (Int × Nat)} {A : Option Addr} {c : Nat} (h : RowIs w ps A c W) (hb : Below W.heap.size W W') : RowIs w ps A c W' := ⟨h.below.trans (hb.mono h.below.size), owns_keep h.own hb⟩
theorem RowIs.append {w W : World} {ps qs : List (Int × Nat)} {A A' : Option Addr} {c c' B : Nat} (h : RowIs w ps A c W) (hr : Row W B A' (qs.flatMap numCells)) (hA : A' ≠ none) (hn : ps.length ≤ 1000) (hl : qs.length ≤ 1000) :
    ∃ A2 c2 w', (Builtin.append_ #[63, 63] 63 #[.slice A ps.length c, .slice A' qs.length c']).run Tryz.prog W = .ok (.slice A2 (ps ++ qs).length c2) w' ∧ RowIs w (ps ++ qs) A2 c2 w' := by
  obtain ⟨A2, c2, w', h1, h2, h3⟩ := append_nums w.heap.size ps qs A A' c c' B W h.own hr hA hn hl h.below.size
  exact ⟨A2, c2, w', h1, h.below.grown h3 h.below.size (fun k e => (h.own.lt k e).1), h2⟩

set_option maxHeartbeats 16000000 in
theorem ofSection_any (x : Sec) (hx : SecIs x) (w : World) (hSh : Shapes w) : Calls Tryz.prog 65 #[x.val] w fun e w' => Nums w.heap.size (numsSec x) e w' ∧ Below w.heap.size w w' := by
  have hk : 0 ≤ x.k ∧ x.k ≤ 3 := by rcases hx.kind with e | e | e <;> rw [e] <;> decide
  have hk0 := hk.1
  have hk4 : x.k ≤ 255 := by omega
  have hwk : IntKind.i64.wrap x.k = x.k := wrap_id _ (by omega) (by omega)
  obtain ⟨Pn, HPn⟩ : ∃ n : Nat, Hid (pK x.k = (n : Int) ∧ (pK x.k).toNat = n ∧ n ≤ 4) := ⟨(pK x.k).toNat, Lib.hid ⟨by have := pK_top x.k; omega, rfl, by have := pK_top x.k; omega⟩⟩
  obtain ⟨Cn, HCn⟩ : ∃ n : Nat, Hid (nK x.k = (n : Int) ∧ (nK x.k).toNat = n ∧ n ≤ 2) := ⟨(nK x.k).toNat, Lib.hid ⟨by have := nK_top x.k; omega, rfl, by have := nK_top x.k; omega⟩⟩
  have HX : Hid (∀ W, Below (w.heap.size + 1) (w.alloc (.cells x.cells.toArray 70)) W → Whole W w.heap.size 70 x.cells ∧ Shapes W ∧ Below w.heap.size w W) := Lib.hid (fun W hW =>
    ⟨(Whole.new w 70 x.cells).below hW (by omega), Shapes.closed _ _ hSh ((below1 w _).trans (hW.mono (by omega))), (below1 w _).trans (hW.mono (by omega))⟩)
  go_enter Tryz.func65, Tryz.ntmps65
  go_upto_region 1 with (fail)
  obtain ⟨W0, hW0⟩ : ∃ W, w.alloc (.cells #[.int .u8 x.k, .int .i64 x.s0, .int .i64 x.q0, .int .i64 x.s1, .int .i64 x.q1, .int .i64 x.s2, .int .i64 x.q2, .int .i64 x.s3, .int .i64 x.q3, .int .i64 x.c0, .int .i64 x.c1] 70) = W := ⟨_, rfl⟩
  have HSZ : Hid (W0.heap.size = w.heap.size + 1) := Lib.hid (by rw [← hW0]; simp)
  have HX : Hid (∀ W, Below W0.heap.size W0 W → Whole W w.heap.size 70 x.cells ∧ Shapes W ∧ Below w.heap.size w W) := Lib.hid (fun W hW => HX.out W (by rw [HSZ.out] at hW; rw [← hW0] at hW; exact hW))
  rw [hW0]
  clear hW0
  have hR0 : RowIs W0 [(x.k, 2)] (some ⟨W0.heap.size, 0, none⟩) 1 (W0.alloc (.cells #[.int .i64 x.k, .int .i64 2] 56)) :=
    ⟨below1 W0 _, owns_whole (n := 1) (size := 2) (Whole.new W0 56 ([(x.k, 2)].flatMap numCells)) (Nat.le_refl _) rfl (by decide)⟩
  have y0 := (HX.out _ (Below.refl _ _)).1.cell_at 0 rfl
  go_upto_region 2 with (fail)
  obtain ⟨W1, hW1⟩ : ∃ W, W0.alloc (.cells #[.int .i64 x.k, .int .i64 2] 56) = W := ⟨_, rfl⟩
  rw [hW1] at hR0 ⊢
  clear hW1 y0
  have HR0 := Lib.hid hR0
  have y0 := (HX.out _ hR0.below).1.cell_at 0 rfl
  clear hR0
  go_wp2_with fail
  go_at_call 86
  refine (ports_B (HX.out _ HR0.out.below).2.1 x.k hk0 hk4).mono ?_
  rintro e W2 ⟨rfl, hb⟩
  rw [HPn.out.1]
  have HR1 := Lib.hid (HR0.out.keep hb)
  have hP4 := HPn.out.2.2
  have HC4 := Lib.hid HCn.out.2.2
  clear hb y0 HR0
  go_wp2_with fail
  go_loopw [14, 3] (fun i v wr => ∃ (j : Nat) (ps : List (Int × Nat)) (A : Option Addr) (c : Nat), j ≤ Pn ∧ i = .int .i64 j ∧ v = .slice A ps.length c ∧ Hid (ps = (x.k, 2) :: (x.ports4.take j).flatMap numsJoin ∧ ps.length ≤ 1 + 3 * j ∧ RowIs W0 ps A c wr)) (fun i _ _ => Pn - (intOf i).toNat)
  case atStart => exact ⟨0, [(x.k, 2)], _, _, by omega, rfl, rfl, Lib.hid ⟨rfl, by simp, HR1.out⟩⟩
  case round =>
    clear HR1
    obtain ⟨j, ps, A, c, hj, rfl, rfl, HM⟩ := hrel
    by_cases hlt : j < Pn
    · have hlt' : (j : Int) < (Pn : Int) := by omega
      obtain ⟨⟨a, q⟩, hpj⟩ : ∃ p, x.ports4[j]? = some p := ⟨_, List.getElem?_eq_getElem (by show j < 4; omega)⟩
      have HBX := (HX.out wr HM.out.2.2.below).1
      have y0 := HBX.cell_at 0 rfl
      have y1 := HBX.cell_at 1 rfl
      have y2 := HBX.cell_at 2 rfl
      have y3 := HBX.cell_at 3 rfl
      have y4 := HBX.cell_at 4 rfl
      have y5 := HBX.cell_at 5 rfl
      have y6 := HBX.cell_at 6 rfl
      have y7 := HBX.cell_at 7 rfl
      have y8 := HBX.cell_at 8 rfl
      have y9 := HBX.cell_at 9 rfl
      have y10 := HBX.cell_at 10 rfl
      have HFIN : Hid (∀ (w6 : World) (A2 : Option Addr) (c2 : Nat), RowIs W0 (ps ++ numsJoin (a, q)) A2 c2 w6 → ∃ (j' : Nat) (ps' : List (Int × Nat)) (A'' : Option Addr) (c'' : Nat), j' ≤ Pn ∧ (j : Int) + 1 = (j' : Int) ∧ Value.slice A2 (ps ++ numsJoin (a, q)).length c2 = .slice A'' ps'.length c'' ∧ Hid (ps' = (x.k, 2) :: (x.ports4.take j').flatMap numsJoin ∧ ps'.length ≤ 1 + 3 * j' ∧ RowIs W0 ps' A'' c'' w6)) :=
        Lib.hid (fun w6 A2 c2 h1 => ⟨j + 1, ps ++ numsJoin (a, q), A2, c2, hlt, by omega, rfl, Lib.hid ⟨by rw [take_flat numsJoin _ _ _ hpj, HM.out.1]; rfl, by rw [List.length_append]; have := (numsJoin_length (a, q)).1; have := HM.out.2.1; omega, h1⟩⟩)
      have HJ : Hid (JoinIs (a, q)) := Lib.hid (hx.joins _ (List.mem_of_getElem? hpj))
      have HLN : Hid (ps.length ≤ 1000) := Lib.hid (by have := HM.out.2.1; omega)
      have HLT := Lib.hid hlt
      have HRW := Lib.hid HM.out.2.2
      clear HM HBX hlt hlt' 
      obtain rfl | rfl | rfl | rfl : j = 0 ∨ j = 1 ∨ j = 2 ∨ j = 3 := by have := HLT.out; omega
      all_goals
        have hlt' := HLT.out
        cases hpj
        go_wp2_with fail
        go_at_call 103
        refine (ofJoin_any _ _ wr HJ.out).mono ?_
        rintro e w4 ⟨⟨A', c', rfl, ho4⟩, hb4⟩
        have hR4 := HRW.out.keep hb4
        obtain ⟨A2, c2, w6, h1, h2⟩ := hR4.append (owns_row2 ho4) (owns_some ho4 (numsJoin_length _).2) HLN.out (Nat.le_trans (numsJoin_length _).1 (by decide))
        have HE := Lib.hid (HFIN.out w6 A2 c2 h2)
        go_wp2_with (at_builtin; refine list_append rfl (.tmp 17) (.tmp 22) 63 rfl h1 ?_)
        go_roundw
        case rel =>
          obtain ⟨j', ps', A'', c'', b1, b2, b3, b4⟩ := HE.out
          exact ⟨j', ps', A'', c'', b1, by rw [← b2]; rfl, by rw [← b3]; simp, b4⟩
        case measure => have := HLT.out; simp [intOf]; omega
    · obtain rfl : j = Pn := by omega
      have HBX := (HX.out wr HM.out.2.2.below).1
      have y0 := HBX.cell_at 0 rfl
      clear HBX hj hlt
      go_wp2_with fail
      generalize hV14 : Value.int .i64 (j : Int) = V14
      clear hV14
      go_at_call 89
      refine (ways_B (HX.out _ HM.out.2.2.below).2.1 x.k hk0 hk4).mono ?_
      rintro e W3 ⟨rfl, hb⟩
      rw [HCn.out.1]
      have HR1 : Hid (ps = (x.k, 2) :: (x.ports4.take j).flatMap numsJoin ∧ ps.length ≤ 1 + 3 * j ∧ RowIs W0 ps A c W3) := Lib.hid ⟨HM.out.1, HM.out.2.1, HM.out.2.2.keep hb⟩
      have hC4 := HC4.out
      clear hb y0 HM
      go_wp2_with fail
      go_loopw [28, 3] (fun i v wr => ∃ (k : Nat) (qs : List (Int × Nat)) (A : Option Addr) (c : Nat), k ≤ Cn ∧ i = .int .i64 k ∧ v = .slice A qs.length c ∧ Hid (qs = ps ++ ([x.c0, x.c1].take k).flatMap numsClass ∧ qs.length ≤ 14 + k ∧ RowIs W0 qs A c wr)) (fun i _ _ => Cn - (intOf i).toNat)
      case atStart => exact ⟨0, ps, A, c, by omega, rfl, rfl, Lib.hid ⟨by simp, by have := HR1.out.2.1; omega, HR1.out.2.2⟩⟩
      case round =>
        have HPS := Lib.hid HR1.out.1
        clear HR1
        obtain ⟨k, qs, A, c, hk', rfl, rfl, HM⟩ := hrel
        by_cases hlt : k < Cn
        · have hlt' : (k : Int) < (Cn : Int) := by omega
          obtain ⟨cl, hck⟩ : ∃ p, [x.c0, x.c1][k]? = some p := ⟨_, List.getElem?_eq_getElem (by show k < 2; omega)⟩
          have HBX := (HX.out wr HM.out.2.2.below).1
          have y9 := HBX.cell_at 9 rfl
          have y10 := HBX.cell_at 10 rfl
          have HFIN : Hid (∀ (w6 : World) (A2 : Option Addr) (c2 : Nat), RowIs W0 (qs ++ [(cl, 2)]) A2 c2 w6 → ∃ (k' : Nat) (qs' : List (Int × Nat)) (A'' : Option Addr) (c'' : Nat), k' ≤ Cn ∧ (k : Int) + 1 = (k' : Int) ∧ Value.slice A2 (qs ++ [(cl, 2)]).length c2 = .slice A'' qs'.length c'' ∧ Hid (qs' = ps ++ ([x.c0, x.c1].take k').flatMap numsClass ∧ qs'.length ≤ 14 + k' ∧ RowIs W0 qs' A'' c'' w6)) :=
            Lib.hid (fun w6 A2 c2 h1 => ⟨k + 1, qs ++ [(cl, 2)], A2, c2, hlt, by omega, rfl, Lib.hid ⟨by rw [take_flat numsClass _ _ _ hck, HM.out.1]; simp [numsClass], by rw [List.length_append]; have := HM.out.2.1; simp; omega, h1⟩⟩)
          have HLN : Hid (qs.length ≤ 1000) := Lib.hid (by have := HM.out.2.1; omega)
          have HLT := Lib.hid hlt
          have hR4 := HM.out.2.2.keep (below1 wr (.cells ([(cl, 2)].flatMap numCells).toArray 56))
          have hW4 := Whole.new wr 56 ([(cl, 2)].flatMap numCells)
          obtain ⟨A2, c2, w6, h1, h2⟩ := hR4.append (qs := [(cl, 2)]) (A' := some ⟨wr.heap.size, 0, none⟩) (c' := 1) (B := wr.heap.size + 1) (hW4.row (by omega)) (by simp) HLN.out (show 1 ≤ 1000 by decide)
          have HE := Lib.hid (HFIN.out w6 A2 c2 h2)
          clear HBX hlt hlt'
          obtain rfl | rfl : k = 0 ∨ k = 1 := by have := HLT.out; omega
          all_goals
            have hlt' := HLT.out
            cases hck
            go_wp2_with (at_builtin; refine list_append rfl (.tmp 31) (.tmp 37) 63 rfl h1 ?_)
            go_roundw
            case rel =>
              obtain ⟨j', ps', A'', c'', b1, b2, b3, b4⟩ := HE.out
              exact ⟨j', ps', A'', c'', b1, by rw [← b2]; rfl, by rw [← b3]; simp, b4⟩
            case measure => have := HLT.out; simp [intOf]; omega
        · obtain rfl : k = Cn := by omega
          have HN : Hid (Nums w.heap.size (numsSec x) (.returned (.slice A qs.length c)) wr ∧ Below w.heap.size w wr) := by
            refine Lib.hid ⟨?_, (HX.out _ HM.out.2.2.below).2.2⟩
            rw [numsSec_eq x HPn.out.2.1 HCn.out.2.1, ← HPS.out, ← HM.out.1]
            exact ⟨A, c, rfl, owns_base HM.out.2.2.own (by rw [HSZ.out]; omega)⟩
          clear HM hk' hlt
          go_wp2_with fail
          go_ret
          exact HN.out
end Go.Proofs.YtegflmaobmibnaaGreatDoor
