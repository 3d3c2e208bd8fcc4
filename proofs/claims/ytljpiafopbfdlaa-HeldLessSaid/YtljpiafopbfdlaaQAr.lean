/- Package topo: is an exit's overlap one? Package route: endsKnown, viasRight; twice, slices.Concat, slices.Grow of steps. Package route: twice; slices.Grow, slices.Concat of steps. As XMix, where at one place two operations may come, either first: two ways. -/
import Derived.Deep.CutRange
import Derived.Test.YtljpiafopbfdlaaQAh
import Derived.Test.YtljpiafopbfdlaaQAi
import Derived.Test.YtljpiafopbfdlaaQAq
import Derived.Test.YtljpiafopbfdlaaQAa
import Derived.BigQuiet
import Derived.Lib.AppendZeros
import Derived.Test.YtljpiafopbfdlaaGen
namespace Go.Proofs.Ytljpiafopbfdlaa
open Go.RowKit Go.Shelf
set_option linter.unusedVariables false
set_option linter.unusedSimpArgs false

theorem idx_contains (l : List Int) (v : Int) : (decide (0 ≤ idxV (fun x => v == x) l)) = l.contains v := by
  rw [Bool.eq_iff_iff, decide_eq_true_eq, List.contains_iff_mem]
  unfold idxV
  cases e : l.findIdx? (fun x => v == x) with
  | none =>
    simp only [List.findIdx?_eq_none_iff] at e
    constructor
    · intro h
      simp at h
    · intro h
      have := e v h
      simp at this
  | some i =>
    obtain ⟨hi, hp, _⟩ := List.findIdx?_eq_some_iff_getElem.1 e
    constructor
    · intro _
      have : v = l[i] := by simpa using hp
      rw [this]
      exact List.getElem_mem hi
    · intro _
      simp
theorem owns_one {W : World} {base g : Nat} {e : TypeId} {v : Value} (h : Whole W g e [v]) (hb : base ≤ g) : W.ownsRow base e 1 (.slice (some ⟨g, 0, none⟩) 1 1) 1 [v] :=
  owns_of_whole h hb (Nat.le_refl _) (by unfold maxLen; omega) rfl
theorem owns_not {W : World} {base e s n g : Nat} {v : Value} {xs : List Value} {t : TypeId} {cs : List Value} (h : W.ownsRow base e s v n xs) (hF : Whole W g t cs) (he : e ≠ t) : v.ownBlock ≠ some g := by
  rcases h.2 with ⟨rfl, _⟩ | ⟨g', cap, cur, rfl, h3, h4, _⟩
  · intro e; cases e
  · intro e
    have : g' = g := by simpa [Value.ownBlock] using e
    subst this
    have h5 := h4.symm.trans hF
    cases h5
    exact he rfl
theorem whole_ne {W : World} {a b : Nat} {t t' : TypeId} {cs cs' : List Value} (h : Whole W a t cs) (k : Whole W b t' cs') (he : t ≠ t') : a ≠ b := by
  rintro rfl
  have h5 := h.symm.trans k
  cases h5
  exact he rfl
theorem owns_past {w : World} {base e size n : Nat} {v : Value} {xs : List Value} (h : w.ownsRow base e size v n xs) {p : Addr} (hp : v.ownBlock ≠ some p.block) (u : Value) : (w.setCell p u).ownsRow base e size v n xs :=
  h.kept (row := some p.block) ⟨rfl, rfl, rfl, by simp [World.setCell], fun k _ hk => Below.heap_setCell _ _ _ _ (fun e => hk (by rw [e]))⟩ (by
    rcases h.2 with ⟨rfl, _⟩ | ⟨g, cap, cur, rfl, h3, _⟩
    · exact .inl rfl
    · exact .inr hp)
end Go.Proofs.Ytljpiafopbfdlaa
namespace Go.Proofs.Ytljpiafopbfdlaa
open Go.RowKit Go.Shelf
set_option linter.unusedVariables false
set_option linter.unusedSimpArgs false

theorem list_slice {P : Program} {ops : Array Oper} {rest : List Oper} {o : Oper} {a : Act} {w : World} {Q : Exit → Act → World → Prop} (hgd : o.guard = none) (t : TypeId) (x : Operand) (lo hi mx : Option Operand)
    (ho : o.op = .slice t x lo hi mx) {v : Value} (hrun : (Instr.sliceAt t (a.eval x) (lo.map a.eval) (hi.map a.eval) (mx.map a.eval)).run P w = .ok v w) (h : wpList P ops Q rest (a.put o.dst v) w) : wpList P ops Q (o :: rest) a w :=
  wpList_plain hgd fun K hK => by
    unfold Oper.wp execOp
    simp only [ho, Sem.run_bind, Sem.run_pure, Result.andThen_ok, hrun]
    exact hK _ _ h
theorem und_steps : Try.prog.underlying 22 = some (.slice (Try.prog.elem 22)) := by kernel_rfl
theorem size_steps (W : World) : (sizeOf (Try.prog.elem 22)).run Try.prog W = .ok 3 W := by kernel_rfl
theorem slice_to (A : Option Addr) (n c a : Nat) (ha : a ≤ c) (W : World) : (Instr.sliceAt 22 (.slice A n c) none (some (.int .i64 (a : Int))) none).run Try.prog W = .ok (.slice A a c) W := by
  have h : (Instr.sliceAt 22 (.slice A n c) none (some (.int .i64 (a : Int))) none).run Try.prog W = .ok (sliced A 0 a c 3) W := by
    have h1 : (a : Int) ≤ (c : Int) := by omega
    have h2 : (0 : Int) ≤ (a : Int) := by omega
    rw [run_sliceAt_slice (h := und_steps), run_slice_h (ht := und_steps) (h0 := h2) (h2 := h1), size_steps]
    rfl
  rw [h]
  cases A <;> simp [sliced, Addr.add]
/-- Where s[a:] lies. -/
def fromA (A : Option Addr) (c a : Nat) : Option Addr := if c = a then A else A.map (·.add (a * 3))
theorem slice_from (A : Option Addr) (n c a : Nat) (ha : a ≤ n) (W : World) : (Instr.sliceAt 22 (.slice A n c) (some (.int .i64 (a : Int))) none none).run Try.prog W = .ok (.slice (fromA A c a) (n - a) (c - a)) W := by
  have h1 : (a : Int) ≤ (n : Int) := by omega
  have h2 : (0 : Int) ≤ (a : Int) := by omega
  rw [run_sliceAt_slice (h := und_steps), run_slice_l (ht := und_steps) (h0 := h2) (h1 := h1), size_steps]
  rfl
theorem row_to {w : World} {Bd : Nat} {A : Option Addr} {ss : List (Int × Int × Int)} (h : Row w Bd A (ss.flatMap stpCells)) (a : Nat) : Row w Bd A ((ss.take a).flatMap stpCells) := by
  intro hp
  have e : ss.flatMap stpCells = (ss.take a).flatMap stpCells ++ (ss.drop a).flatMap stpCells := by rw [← List.flatMap_append, List.take_append_drop]
  rw [e] at h
  obtain ⟨b, off, e1, hb, hc⟩ := h (by rw [List.length_append]; omega)
  exact ⟨b, off, e1, hb, fun j u hu => hc j u (by rw [List.getElem?_append_left (List.getElem?_eq_some_iff.1 hu).1]; exact hu)⟩
theorem row_from {w : World} {Bd : Nat} {A : Option Addr} {ss : List (Int × Int × Int)} (h : Row w Bd A (ss.flatMap stpCells)) {a c : Nat} (ha : a ≤ ss.length) (hcap : ss.length ≤ c) : Row w Bd (fromA A c a) ((ss.drop a).flatMap stpCells) := by
  intro hp
  have e : ss.flatMap stpCells = (ss.take a).flatMap stpCells ++ (ss.drop a).flatMap stpCells := by rw [← List.flatMap_append, List.take_append_drop]
  have hl : ((ss.take a).flatMap stpCells).length = a * 3 := by rw [flat_length (n := 3) (fun _ => rfl), List.length_take, Nat.min_eq_left ha]
  have hdl : ((ss.drop a).flatMap stpCells).length = (ss.length - a) * 3 := by rw [flat_length (n := 3) (fun _ => rfl), List.length_drop]
  have hac : ¬ c = a := by intro e2; rw [hdl] at hp; omega
  rw [e] at h
  obtain ⟨b, off, rfl, hb, hc⟩ := h (by rw [List.length_append]; omega)
  have hfa : fromA (some ⟨b, off, none⟩) c a = some ⟨b, off + a * 3, none⟩ := by
    unfold fromA
    rw [if_neg hac]
    cases a with
    | zero => simp [Addr.add]
    | succ a => simp [Addr.add]
  refine ⟨b, off + a * 3, hfa, hb, fun j u hu => ?_⟩
  have := hc (a * 3 + j) u (by rw [List.getElem?_append_right (by omega), hl, Nat.add_sub_cancel_left]; exact hu)
  rwa [← Nat.add_assoc] at this

section
variable {P : World → Prop} {w : World}
end
end Go.Proofs.Ytljpiafopbfdlaa
namespace Go.Proofs.Ytljpiafopbfdlaa
open Go.RowKit Go.Shelf
set_option linter.unusedVariables false
set_option linter.unusedSimpArgs false

section
variable {P : World → Prop} {w : World}
end
set_option maxRecDepth 100000 in
set_option maxHeartbeats 8000000 in
theorem grow_any {n : Nat} (h0 : 0 < n) (hn : n ≤ 1000) (w : World) : Calls Try.prog 58 #[.slice none 0 0, .int .i64 (n : Int)] w fun e w' => ∃ g c, e = .returned (.slice (some ⟨g, 0, none⟩) 0 c) ∧ w'.ownsRow w.heap.size 44 3 (.slice (some ⟨g, 0, none⟩) 0 c) 0 [] ∧ Below w.heap.size w w' := by
  obtain ⟨i, i1, i2, i3, i4⟩ := info_parts infoStep
  have hrun := Lib.run_append_nil_zeros (P := Try.prog) w 22 3 22 44 i _ .i64 .i64 Try.underlying22 (by kernel_rfl) i1 i2 n h0 (by rw [i3]; omega) (by omega) (by rw [i4]; omega)
  have hge := grownCap_ge w n 0 44
  have hle := grownCap_le_maxLen w n 0 44 (by unfold maxLen; omega)
  generalize grownCap w n 0 44 = cp at hrun hge hle
  obtain ⟨W1, hW1⟩ : ∃ W1, (w.drew.alloc (.cells (Builtin.zeroCells (Value.agg #[.int .i64 0, .int .i64 0, .int .i64 0]).cells n ++ Builtin.zeroCells (Value.agg #[.int .i64 0, .int .i64 0, .int .i64 0]).cells (cp - n)) 44)) = W1 := ⟨_, rfl⟩
  have hB : Below w.heap.size w W1 := by rw [← hW1]; exact (Below.refl w.heap.size w).drew.trans (below1 w.drew _)
  have hO : W1.ownsRow w.heap.size 44 3 (.slice (some ⟨w.heap.size, 0, none⟩) 0 cp) 0 [] := ⟨rfl, .inr ⟨w.heap.size, cp, _, rfl, Nat.le_refl _, by rw [← hW1]; exact World.alloc_heap_new w.drew _, by omega, hle, by
    rw [Array.size_append, size_zeroCells, size_zeroCells]
    show n * 3 + (cp - n) * 3 = cp * 3
    omega, by simp⟩⟩
  rw [hW1] at hrun
  have hw0 : IntKind.i64.wrap (n : Int) = n := IntWalk.i64_in _ (by omega)
  have hw1 : wrap64 (n : Int) = n := by unfold wrap64; omega
  have hpos : (0 : Int) < (n : Int) := by omega
  have HB := Lib.hid hB
  have HO := Lib.hid hO
  clear hB hO hW1
  go_enter Try.func58, Try.ntmps58
  go_wp2_with (at_builtin; refine Lib.wpList_append_run _ rfl (.tmp 20) (.tmp 21) 22 3 rfl _ _ rfl rfl _ _ hrun ?_)
  go_ret
  exact ⟨_, _, rfl, HO.out, HB.out⟩

set_option maxRecDepth 100000 in
set_option maxHeartbeats 8000000 in
theorem concat_any {us vs : List (Int × Int × Int)} {A Bv : Option Addr} {ca cb g : Nat} {w : World} (hA : Row w w.heap.size A (us.flatMap stpCells)) (hB : Row w w.heap.size Bv (vs.flatMap stpCells)) (hg : Whole w g 22 [.slice A us.length ca, .slice Bv vs.length cb]) (h0 : 0 < us.length + vs.length) (hn : us.length + vs.length ≤ 1000) :
    Calls Try.prog 43 #[.slice (some ⟨g, 0, none⟩) 2 2] w fun e w' => ∃ A' c', e = .returned (.slice A' (us ++ vs).length c') ∧ Row w' w'.heap.size A' ((us ++ vs).flatMap stpCells) ∧ (us ++ vs).length ≤ c' ∧ Below w.heap.size w w' := by
  obtain ⟨na, hna⟩ : ∃ n, us.length = n := ⟨_, rfl⟩
  obtain ⟨nb, hnb⟩ : ∃ n, vs.length = n := ⟨_, rfl⟩
  have HNA := Lib.hid hna
  have HNB := Lib.hid hnb
  obtain ⟨n, hnn⟩ : ∃ n, na + nb = n := ⟨_, rfl⟩
  have HNN := Lib.hid hnn
  have KG := Lib.hid (grow_any (n := n) (by omega) (by omega) w)
  have HRA := Lib.hid (fun W (h : Below w.heap.size w W) => hA.on h)
  have HRB := Lib.hid (fun W (h : Below w.heap.size w W) => hB.on h)
  have HG := Lib.hid (fun W (h : Below w.heap.size w W) => hg.below h hg.lt)
  have hw1 : IntKind.i64.wrap (na : Int) = na := IntWalk.i64_in _ (by omega)
  have hw2 : IntKind.i64.wrap ((na : Int) + nb) = (n : Int) := by rw [IntWalk.i64_in _ (by omega)]; omega
  have x0 := hg.cell_at 0 rfl
  have x1 := hg.cell_at 1 rfl
  rw [hna] at x0
  rw [hnb] at x1
  have HLE := Lib.hid (And.intro h0 hn)
  rw [hna, hnb, hnn] at h0 hn
  have HB0 : Hid (Below w.heap.size w w) := Lib.hid (Below.refl _ _)
  clear hA hB hg hna hnb hnn
  go_enter Try.func43, Try.ntmps43
  go_wp2_with fail
  go_loopw [3, 11] (fun s i wr => ∃ j : Nat, j ≤ 2 ∧ i = .int .i64 j ∧ s = .int .i64 ((match j with | 0 => 0 | 1 => na | _ => n : Nat) : Int) ∧ wr = w)
    (fun _ i _ => 2 - (intOf i).toNat)
  case atStart => exact ⟨0, by omega, rfl, rfl, rfl⟩
  case round =>
    obtain ⟨j, hj, rfl, rfl, rfl⟩ := hrel
    match j, hj with
    | 0, _ =>
      go_wp2_with fail
      go_roundw
      case rel => exact ⟨1, by omega, rfl, by simp [hw1], by trivial⟩
      case measure => simp [intOf]
    | 1, _ =>
      go_wp2_with fail
      go_roundw
      case rel => exact ⟨2, by omega, rfl, by simp [hw2], by trivial⟩
      case measure => simp [intOf]
    | 2, _ =>
      go_wp2_with fail
      obtain ⟨w, rfl⟩ : ∃ W, W = wr := ⟨wr, rfl⟩
      refine KG.out.mono ?_
      clear KG x0 x1
      rintro e w1 ⟨g1, c1, rfl, hown1, hB1⟩
      have HO1 := Lib.hid hown1
      have HB1 := Lib.hid hB1
      clear hown1 hB1
      go_wp2_with fail
      go_loopw [6, 27] (fun v i W => ∃ j : Nat, j ≤ 2 ∧ i = .int .i64 j ∧ ∃ A' c', v = .slice A' (match j with | 0 => 0 | 1 => na | _ => n) c' ∧
          Hid ((j = 0 → A' ≠ none) ∧ W.ownsRow w.heap.size 44 3 (.slice A' (match j with | 0 => 0 | 1 => na | _ => n) c') (match j with | 0 => 0 | 1 => na | _ => n) (match j with | 0 => [] | 1 => us.flatMap stpCells | _ => (us ++ vs).flatMap stpCells) ∧ Below w.heap.size w W))
        (fun _ i _ => 2 - (intOf i).toNat)
      case atStart => exact ⟨0, by omega, rfl, _, c1, rfl, Lib.hid ⟨fun _ => by simp, HO1.out, HB1.out⟩⟩
      case round =>
        clear HO1 HB1
        obtain ⟨j, hj, rfl, A', c', rfl, HI⟩ := hrel
        match j, hj with
        | 0, _ =>
          obtain ⟨hne, hO, hB⟩ := HI.out
          obtain ⟨v', W2, hrun, hO2, hg2⟩ := appendG (P := Try.prog) (f := stpCells) (size := 3) (fun _ => rfl) oneStep 22 44 (.agg #[.int .i64 0, .int .i64 0, .int .i64 0]) 24 Try.underlying22 infoStep rfl (by omega) (by omega) w.heap.size 0 _ [] us A ca wr.heap.size wr hO (.inl (by have := hne rfl; intro e; injection e with e1; exact this e1)) (HRA.out wr hB) (by omega) (by have := HLE.out; omega) hB.size
          have x0 := (HG.out wr hB).cell_at 0 rfl
          rw [HNA.out] at hrun hO2 x0
          rw [Nat.zero_add, List.nil_append] at hO2
          obtain ⟨A2, c2, rfl, _⟩ := owns_read hO2
          have hB2 := hB.grown hg2 hB.size (fun k e => (hO.lt k e).1)
          have HJ := Lib.hid (And.intro hO2 hB2)
          clear hne hO hB hO2 hg2 hB2 HI
          go_wp2_with (at_builtin; refine list_append rfl (.tmp 31) (.tmp 32) 22 rfl hrun ?_)
          go_roundw
          case rel => exact ⟨1, by omega, rfl, A2, c2, rfl, Lib.hid ⟨(fun e => by cases e), HJ.out.1, HJ.out.2⟩⟩
          case measure => simp [intOf]
        | 1, _ =>
          obtain ⟨hne, hO, hB⟩ := HI.out
          have hv : (Value.slice A' na c') ≠ .slice none 0 0 ∨ Bv ≠ none := by
            cases Bv with
            | some b => exact .inr (by simp)
            | none =>
              have hz := flat_none (f := stpCells) (size := 3) (fun _ => rfl) (by omega) (HRB.out wr hB)
              refine .inl (fun e => ?_)
              injection e with _ e2
              have h1 := HNA.out
              have h2 := HLE.out
              rw [hz] at h2
              simp at h2
              omega
          obtain ⟨v', W2, hrun, hO2, hg2⟩ := appendG (P := Try.prog) (f := stpCells) (size := 3) (fun _ => rfl) oneStep 22 44 (.agg #[.int .i64 0, .int .i64 0, .int .i64 0]) 24 Try.underlying22 infoStep rfl (by omega) (by omega) w.heap.size na _ (us.flatMap stpCells) vs Bv cb wr.heap.size wr hO hv (HRB.out wr hB) (by have := HLE.out; have := HNA.out; omega) (by have := HLE.out; omega) hB.size
          have x1 := (HG.out wr hB).cell_at 1 rfl
          rw [HNB.out] at hrun hO2 x1
          rw [HNN.out, ← List.flatMap_append] at hO2
          obtain ⟨A2, c2, rfl, _⟩ := owns_read hO2
          have hB2 := hB.grown hg2 hB.size (fun k e => (hO.lt k e).1)
          have HJ := Lib.hid (And.intro hO2 hB2)
          clear hne hO hB hO2 hg2 hB2 HI hv
          go_wp2_with (at_builtin; refine list_append rfl (.tmp 31) (.tmp 32) 22 rfl hrun ?_)
          go_roundw
          case rel => exact ⟨2, by omega, rfl, A2, c2, rfl, Lib.hid ⟨(fun e => by cases e), HJ.out.1, HJ.out.2⟩⟩
          case measure => simp [intOf]
        | 2, _ =>
          have HN2 : Hid (us.length + vs.length = n) := Lib.hid (by rw [HNA.out, HNB.out, HNN.out])
          go_wp2_with fail
          go_ret
          obtain ⟨_, hO, hB⟩ := HI.out
          have hO' : wr.ownsRow w.heap.size 44 3 (.slice A' n c') n ((us ++ vs).flatMap stpCells) := hO
          have hc : n ≤ c' := by
            rcases hO'.2 with ⟨_, e⟩ | ⟨g, cap, cur, e, _, _, h5, _⟩
            · rw [e]; omega
            · injection e with _ _ e3
              rw [e3]
              exact h5
          have hrow := owns_row2 hO'
          refine ⟨A', c', by rw [HN2.out]; rfl, by simpa using hrow, by rw [HN2.out]; exact hc, hB⟩
end Go.Proofs.Ytljpiafopbfdlaa
namespace Go.Proofs.Ytljpiafopbfdlaa
open Go.RowKit
set_option linter.unusedVariables false

section
variable {P : Program} {ops : Array Oper} {md : Region.Mode} {F : (World → Prop) → Prop}
def markAll : List (Nat × Bool) → Array Bool → Array Bool
  | [], listed => listed
  | (k, _) :: is, listed => markAll is (listed.setIfInBounds k true)
def lexMixK (md : Region.Mode) (ops : Array Oper) : List (Nat × Bool) → Array Bool → Bool
  | [], _ => true
  | (k, b) :: is, listed => decide (k < ops.size) && (if b then decide (Region.ready md ops listed = [k]) else (Region.ready md ops listed).contains k && Region.free md ops listed k) && lexMixK md ops is (listed.setIfInBounds k true)
theorem mixAll_lexK {L : (World → Prop) → Act → Prop} {f : Nat} (hsel : Region.noSelect ops = true) :
    ∀ (is : List (Nat × Bool)) (listed : Array Bool) (S : World → Prop) (a : Act), F S → lexMixK md ops is listed = true → wpMix P ops F (mixAll P md ops F L f (markAll is listed)) (pickOps ops.toList is) S a → mixAll P md ops F L (is.length + f) listed S a
  | [], listed, S, a, _, hB, h => by rw [List.length_nil, Nat.zero_add]; exact h
  | (k, b) :: is, listed, S, a, hF, hB, h => by
    simp only [lexMixK, Bool.and_eq_true, decide_eq_true_eq] at hB
    obtain ⟨⟨hk, hB1⟩, hB2⟩ := hB
    have h0 : ops[k]? = some (ops[k]'hk) := Array.getElem?_eq_getElem hk
    generalize ops[k]'hk = o at h0
    have h0' : ops.toList[k]? = some o := by simpa using h0
    simp only [pickOps, h0'] at h
    rw [show ((k, b) :: is).length + f = (is.length + f) + 1 by simp; omega]
    cases b with
    | false =>
      simp only [Bool.false_eq_true, if_false, Bool.and_eq_true] at hB1
      obtain ⟨v, hy, hK⟩ := h
      exact mixAll_first h0 (Region.noSelect_spec hsel) (is.length + f) listed S a hF (Region.free_spec h0 hB1.2) (by simpa using hB1.1) hy (mixAll_lexK hsel is _ S _ hF hB2 hK)
    | true =>
      simp only [if_true, decide_eq_true_eq] at hB1
      refine ⟨fun h => (by rw [h] at hB1; cases hB1), fun j hj => ?_⟩
      rw [hB1] at hj
      obtain rfl : j = k := by simpa using hj
      unfold mixOp
      simp only [h0]
      exact .inr (TurnAt.mono (fun S' a' hF' hk' => mixAll_lexK hsel is _ S' a' hF' hB2 hk') h)
/-- The operations, the places of the fork, the two ways behind it. -/
def forkB (ops : Array Oper) (is : List (Nat × Bool)) (i j : Nat) (ra rb : List (Nat × Bool)) : Bool :=
  Region.noSelect ops && (decide (is.length + (ra.length + 1) = ops.size) && (decide (ra.length = rb.length) && (lexMixK .any ops is (Array.replicate ops.size false) && (decide (Region.ready .any ops (markAll is (Array.replicate ops.size false)) = [i, j]) && (decide (i < ops.size) && (decide (j < ops.size) &&
    (lexMix .any ops ra ((markAll is (Array.replicate ops.size false)).setIfInBounds i true) && lexMix .any ops rb ((markAll is (Array.replicate ops.size false)).setIfInBounds j true))))))))
theorem region_fork {id : Nat} {Q : Exit → Act → World → Prop} {a : Act} {w : World} {l : List Oper} (B : World → Prop) (is : List (Nat × Bool)) (i j : Nat) (ra rb : List (Nat × Bool)) (hm : P.follows .mixedOrders = true) (hB : forkB l.toArray is i j ra rb = true)
    (S : World → Prop) (hF : Fam B S) (hS : S w.drew)
    (h : wpMix P l.toArray (Fam B) (fun S' a' => Fam B S' → wpMix P l.toArray (Fam B) (fun S' a' => ∀ w', S' w' → Q .normal a' w') (pickOps l ((i, true) :: ra)) S' a' ∧ wpMix P l.toArray (Fam B) (fun S' a' => ∀ w', S' w' → Q .normal a' w') (pickOps l ((j, true) :: rb)) S' a') (pickOps l is) S a) :
    (Code.region id l.toArray true).wp P Q a w := by
  unfold forkB at hB
  simp only [Bool.and_eq_true, decide_eq_true_eq] at hB
  obtain ⟨hsel, hlen, hlen2, hlex, hready, hi, hj, hra, hrb⟩ := hB
  refine wp_region_any hm ?_
  have key : mixAll P .any l.toArray (Fam B) (fun S' a' => ∀ w', S' w' → Q .normal a' w') (is.length + (ra.length + 1)) (Array.replicate l.toArray.size false) S a := by
    refine mixAll_lexK hsel is _ S a hF hlex ?_
    have up : ∀ (os : List (Oper × Bool)) (S : World → Prop) (a : Act), Fam B S → wpMix P l.toArray (Fam B) (fun S' a' => Fam B S' → wpMix P l.toArray (Fam B) (fun S' a' => ∀ w', S' w' → Q .normal a' w') (pickOps l ((i, true) :: ra)) S' a' ∧ wpMix P l.toArray (Fam B) (fun S' a' => ∀ w', S' w' → Q .normal a' w') (pickOps l ((j, true) :: rb)) S' a') os S a →
        wpMix P l.toArray (Fam B) (mixAll P .any l.toArray (Fam B) (fun S' a' => ∀ w', S' w' → Q .normal a' w') (ra.length + 1) (markAll is (Array.replicate l.toArray.size false))) os S a := by
      intro os
      induction os with
      | nil =>
        intro S a hF hh
        obtain ⟨h1, h2⟩ := hh hF
        refine ⟨fun h0 => (by rw [hready] at h0; cases h0), fun k hk => ?_⟩
        rw [hready] at hk
        have hi0 : l[i]? = some (l[i]'(by simpa using hi)) := List.getElem?_eq_getElem _
        have hj0 : l[j]? = some (l[j]'(by simpa using hj)) := List.getElem?_eq_getElem _
        simp only [pickOps, hi0] at h1
        simp only [pickOps, hj0] at h2
        unfold mixOp
        simp only [List.mem_cons, List.not_mem_nil, or_false] at hk
        rcases hk with rfl | rfl
        · simp only [List.getElem?_toArray, hi0]
          exact .inr (TurnAt.mono (fun S' a' hF' hk' => mixAll_lex (md := .any) hsel ra _ S' a' hF' hra hk') h1)
        · simp only [List.getElem?_toArray, hj0]
          rw [hlen2]
          exact .inr (TurnAt.mono (fun S' a' hF' hk' => mixAll_lex (md := .any) hsel rb _ S' a' hF' hrb hk') h2)
      | cons o os ih =>
        intro S a hF hh
        obtain ⟨o, b⟩ := o
        cases b with
        | false => obtain ⟨v, hy, hK⟩ := hh; exact ⟨v, hy, ih _ _ hF hK⟩
        | true => exact TurnAt.mono (fun S' a' hF' hk' => ih _ _ hF' hk') hh
    exact up _ _ _ hF h
  have := any_of_mix (Q := Q) (fun S' a' hL w' hw => hL w' hw) (is.length + (ra.length + 1)) _ S a hF key w.drew hS
  rw [hlen] at this
  exact this
end
end Go.Proofs.Ytljpiafopbfdlaa
