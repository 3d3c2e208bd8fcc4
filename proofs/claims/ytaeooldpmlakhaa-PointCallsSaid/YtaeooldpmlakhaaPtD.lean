/- Package point: the places at which a number stands, one by one; their bits. -/
import Derived.Deep.CutRange
import Derived.Test.YtaeooldpmlakhaaPtC
import Derived.Test.YtaeooldpmlakhaaBit32
import Derived.Test.YtaeooldpmlakhaaIterU
namespace Go.Proofs.Ytaeooldpmlakhaa
open Go.RowKit Go.Shelf
set_option linter.unusedVariables false
set_option linter.unusedSimpArgs false

attribute [local go_sem] Oper.semAt_some

theorem list_cut {P : Program} {ops : Array Oper} {rest : List Oper} {o : Oper} {a : Act} {w : World} {Q : Exit → Act → World → Prop} (hgd : o.guard = none) (t : TypeId) (x : Operand) (lo hi mx : Option Operand)
    (ho : o.op = .slice t x lo hi mx) {v : Value} (hrun : (Instr.sliceAt t (a.eval x) (lo.map a.eval) (hi.map a.eval) (mx.map a.eval)).run P w = .ok v w) (h : wpList P ops Q rest (a.put o.dst v) w) : wpList P ops Q (o :: rest) a w :=
  wpList_plain hgd fun K hK => by
    unfold Oper.wp execOp
    simp only [ho, Sem.run_bind, Sem.run_pure, Result.andThen_ok, hrun]
    exact hK _ _ h
theorem und_nums : Try.prog.underlying 24 = some (.slice (Try.prog.elem 24)) := by kernel_rfl
theorem size_nums (W : World) : (sizeOf (Try.prog.elem 24)).run Try.prog W = .ok 1 W := by kernel_rfl
theorem nums_cut (A : Option Addr) (n c a : Nat) (ha : a ≤ c) (W : World) : (Instr.sliceAt 24 (.slice A n c) none (some (.int .i64 (a : Int))) none).run Try.prog W = .ok (.slice A a c) W := by
  have h : (Instr.sliceAt 24 (.slice A n c) none (some (.int .i64 (a : Int))) none).run Try.prog W = .ok (sliced A 0 a c 1) W := by
    have h1 : (a : Int) ≤ (c : Int) := by omega
    have h2 : (0 : Int) ≤ (a : Int) := by omega
    rw [run_sliceAt_slice (h := und_nums), run_slice_h (ht := und_nums) (h0 := h2) (h2 := h1), size_nums]
    rfl
  rw [h]
  cases A <;> simp [sliced, Addr.add]
/-- Where the number stands. -/
def standsN (zs : List Int) (n : Int) (k : Nat) : Bool := decide (zs[k]? = some n)
def topN (zs : List Int) : Nat := min zs.length 24
def placesN (zs : List Int) (n : Int) : List Nat := (List.range (topN zs)).filter (standsN zs n)
def bitsN (zs : List Int) (n : Int) : Nat := maskJ (standsN zs n) 24
theorem maskJ_stop {f : Nat → Bool} {m : Nat} : ∀ {n : Nat}, m ≤ n → (∀ k, m ≤ k → f k = false) → maskJ f n = maskJ f m
  | 0, h, _ => by rw [Nat.le_zero.1 h]
  | n + 1, h, hf => by
    by_cases he : m = n + 1
    · rw [he]
    · rw [show maskJ f (n + 1) = maskJ f n + if f n then 2 ^ n else 0 from rfl, hf n (by omega), maskJ_stop (by omega) hf]
      rfl
theorem bitsN_places (zs : List Int) (n : Int) : maskL (placesN zs n) = bitsN zs n := by
  unfold placesN bitsN
  rw [maskL_range]
  unfold topN
  by_cases h : zs.length ≤ 24
  · rw [Nat.min_eq_left h]
    exact (maskJ_stop h fun k hk => by unfold standsN; rw [List.getElem?_eq_none hk]; rfl).symm
  · rw [Nat.min_eq_right (by omega)]
theorem places_any (A : Option Addr) (m c : Nat) (n : Int) (w : World) : Calls Try.prog 24 #[.slice A m c, .int .i64 n] w fun e w' => e = .returned (.func (.func 28) #[] #[.pointer (some ⟨w.heap.size, 0, none⟩), .pointer (some ⟨w.heap.size + 1, 0, none⟩)]) ∧
    w' = (w.alloc (.cells #[.slice A m c] 24)).alloc (.cells #[.int .i64 n] 3) := by
  go_enter Try.func24, Try.ntmps24
  go_wp2_with fail
  go_ret
  exact ⟨rfl, rfl⟩
theorem drop_pt {α : Type} {l : List α} {j : Nat} {x : α} (h : l[j]? = some x) : l.drop j = x :: l.drop (j + 1) := by
  obtain ⟨hl, rfl⟩ := List.getElem?_eq_some_iff.1 h
  rw [List.drop_eq_getElem_cons hl]
theorem at_pt {α : Type} {pre rest xs : List α} {x : α} (h : pre ++ x :: rest = xs) : xs[pre.length]? = some x := by rw [← h, List.getElem?_append_right (Nat.le_refl _), Nat.sub_self]; rfl
theorem push_pt {α : Type} {pre rest xs : List α} {x : α} (h : pre ++ x :: rest = xs) : (pre ++ [x]) ++ rest = xs := by rw [← h, List.append_assoc]; rfl
set_option maxRecDepth 100000 in
set_option maxHeartbeats 8000000 in
theorem places_iter {w0 : World} {g1 g2 n0 : Nat} {A : Option Addr} {c : Nat} {zs : List Int} {n : Int} (hb1 : Whole w0 g1 24 [.slice A zs.length c]) (hb2 : Whole w0 g2 3 [.int .i64 n]) (hr : Row w0 n0 A (nums .i64 zs)) (hcap : zs.length ≤ c) (hc : (zs.length : Int) ≤ 9223372036854775807) :
    Iter Try.prog 28 #[.pointer (some ⟨g1, 0, none⟩), .pointer (some ⟨g2, 0, none⟩)] (fun k : Nat => #[.int .i64 k]) (placesN zs n) (fun k => k < n0 ∨ (k = g1 ∨ k = g2)) w0 := by
  intro L S J Jx W hk0 hS hJ hJx hY h0
  have HB1 : Hid (∀ W', Keeps (fun k => k < n0 ∨ (k = g1 ∨ k = g2)) w0 W' → Whole W' g1 24 [.slice A zs.length c]) := Lib.hid fun W' hk => hk.whole (.inr (.inl rfl)) hb1
  have HB2 : Hid (∀ W', Keeps (fun k => k < n0 ∨ (k = g1 ∨ k = g2)) w0 W' → Whole W' g2 3 [.int .i64 n]) := Lib.hid fun W' hk => hk.whole (.inr (.inr rfl)) hb2
  have HRW : Hid (∀ W', Keeps (fun k => k < n0 ∨ (k = g1 ∨ k = g2)) w0 W' → Row W' n0 A (nums .i64 zs)) := Lib.hid fun W' hk => hr.keeps hk (fun _ h => .inl h)
  have HD : Hid (∀ k, S k → ¬ (k < n0 ∨ (k = g1 ∨ k = g2))) := Lib.hid (fun k hk => (hS k hk).1)
  obtain ⟨xs, HXS⟩ : ∃ xs, Hid (placesN zs n = xs) := ⟨_, Lib.hid rfl⟩
  rw [HXS.out] at hY ⊢
  obtain ⟨m, HM⟩ : ∃ m, Hid (topN zs = m) := ⟨_, Lib.hid rfl⟩
  have hmz : m ≤ zs.length := by rw [← HM.out]; unfold topN; omega
  have hm24 : m ≤ 24 := by rw [← HM.out]; unfold topN; omega
  have hmin : min (zs.length : Int) 24 = (m : Nat) := by rw [← HM.out]; unfold topN; omega
  have hrun := nums_cut A zs.length c m (by omega) W
  have x0 := (HB1.out _ hk0).cell_at 0 rfl
  clear hb1 hb2 hr hS
  refine (callsIn_wide (n := 3)).1 ?_
  refine callsIn_of_wp Try.func28 rfl trivial ?_ rfl
  simp only [Try.ntmps28, List.size_toArray, List.length_cons, List.length_nil, Nat.reduceAdd, Nat.reduceSub, Array.replicate_succ, Array.replicate_zero, List.push_toArray, List.append_toArray, List.nil_append, List.cons_append]
  gi_wp2_with (refine list_cut rfl 24 (.tmp 6) none (some (.tmp 9)) none rfl hrun ?_)
  have HP0 : Hid ([] ++ ((List.range m).drop 0).filter (standsN zs n) = xs) := Lib.hid (by rw [← HXS.out, placesN, HM.out]; rfl)
  clear x0 hrun
  gi_loopw [12] (fun i wr => ∃ (j : Nat) (pre : List Nat), j ≤ m ∧ i = .int .i64 j ∧ J pre.length wr ∧ Keeps (fun k => k < n0 ∨ (k = g1 ∨ k = g2)) w0 wr ∧ Hid (pre ++ ((List.range m).drop j).filter (standsN zs n) = xs))
    (fun i _ => m - (intOf i).toNat)
  case atStart => exact ⟨0, [], by omega, rfl, h0, hk0, HP0⟩
  case round =>
    clear h0 hk0 HP0
    obtain ⟨j, pre, hj, rfl, hJs, hk, HP⟩ := hrel
    by_cases hlt : j < m
    · have hlt' : (j : Int) < m := by omega
      obtain ⟨b, off, hA, _, c0⟩ := (HRW.out _ hk).num (show j < zs.length by omega)
      have hz : zs[j]? = some (zs[j]?.getD 0) := by rw [List.getElem?_eq_getElem (show j < zs.length by omega)]; rfl
      have HR : (List.range m)[j]? = some j := List.getElem?_range hlt
      obtain ⟨z, hzz⟩ : ∃ z, zs[j]?.getD 0 = z := ⟨_, rfl⟩
      rw [hzz] at hz c0
      have y0 := (HB2.out _ hk).cell_at 0 rfl
      have hwi : IntKind.i64.wrap ((j : Int) + 1) = (j : Int) + 1 := IntWalk.i64_in _ (by omega)
      rw [hA]
      have HA := Lib.hid hA
      clear hA hzz hmin
      by_cases he : z = n
      · have HP1 : Hid (pre ++ (j :: ((List.range m).drop (j + 1)).filter (standsN zs n)) = xs) := Lib.hid (by rw [← HP.out, drop_pt HR, List.filter_cons_of_pos (by unfold standsN; rw [hz, he]; simp)])
        have e1 : (z == n) = true := by simp [he]
        obtain ⟨fn, tmps, assign, body, hy, hR⟩ := hY pre.length j _ (at_pt HP1.out) hJs
        have HR := Lib.hid hR
        have HK := Lib.hid hk
        clear hR HP hz he hJs hk hY
        gi_wp2_with fail
        refine RoundIn.mono (RoundIn.wide HR.out) ?_
        clear HR hy c0 y0
        rintro e W3 (⟨rfl, hJ3, hk3⟩ | ⟨rfl, hJx3, hk3⟩)
        · gi_wp2_with fail
          go_roundw
          case rel => exact ⟨j + 1, pre ++ [j], hlt, by go_num, by rw [List.length_append]; exact hJ3, HK.out.trans (hk3.keeps HD.out), Lib.hid (push_pt HP1.out)⟩
          case measure => simp [intOf]; omega
        · gi_wp2
          refine bodyPost_ret (results_none rfl _ _ _) rfl ?_
          exact ⟨⟨_, rfl⟩, .inr hJx3⟩
      · have HP1 : Hid (pre ++ ((List.range m).drop (j + 1)).filter (standsN zs n) = xs) := Lib.hid (by rw [← HP.out, drop_pt HR, List.filter_cons_of_neg (by unfold standsN; rw [hz]; simp [he])])
        have e1 : (z == n) = false := by simp [he]
        have HK := Lib.hid (And.intro hJs hk)
        clear HP hz he hJs hk hY
        gi_wp2_with fail
        refine ⟨fun f h => (by cases h), ?_⟩
        gi_wp2_with fail
        go_roundw
        case rel => exact ⟨j + 1, pre, hlt, by go_num, HK.out.1, HK.out.2, HP1⟩
        case measure => simp [intOf]; omega
    · obtain rfl : j = m := by omega
      have HE : Hid (pre.length = xs.length) := Lib.hid (by rw [← HP.out, List.drop_eq_nil_of_le (by simp)]; simp)
      gi_wp2
      go_end0
      exact ⟨⟨_, rfl⟩, .inl (HE.out ▸ hJs)⟩

set_option maxRecDepth 100000 in
set_option maxHeartbeats 32000000 in
theorem bits_any {A : Option Addr} {c : Nat} {zs : List Int} (n : Int) {w : World} (hr : Row w w.heap.size A (nums .i64 zs)) (hcap : zs.length ≤ c) (hc : (zs.length : Int) ≤ 9223372036854775807) {r : Nat} (hx : bitsN zs n = r) :
    Calls Try.prog 21 #[.slice A zs.length c, .int .i64 n] w fun e w' => e = .returned (.int .u32 (r : Nat)) ∧ Below w.heap.size w w' := by
  subst hx
  have HX := Lib.hid (bitsN_places zs n)
  refine (callsIn_wide (n := 5)).1 ?_
  refine callsIn_of_wp_marks Try.func21 rfl trivial ?_ rfl
  simp only [Try.ntmps21, List.size_toArray, List.length_cons, List.length_nil, Nat.reduceAdd, Nat.reduceSub, Array.replicate_succ, Array.replicate_zero, List.push_toArray, List.append_toArray, List.nil_append, List.cons_append]
  refine wpIn_wide.2 ?_
  go_wp2_with fail
  obtain ⟨W1, hW1⟩ : ∃ W1, w.alloc (.cells #[.int .u32 0] 26) = W1 := ⟨_, rfl⟩
  obtain ⟨gm, hgm⟩ : ∃ k, w.heap.size = k := ⟨_, rfl⟩
  have hm : Whole W1 gm 26 [.int .u32 0] := by rw [← hW1]; exact Whole.new_at _ _ [_] _ hgm.symm
  have hs1 : W1.heap.size = gm + 1 := by rw [← hW1]; simp; omega
  have hB1 : Below w.heap.size w W1 := by rw [← hW1]; exact below1 w _
  try rw [hW1]
  try rw [hgm]
  refine (places_any A zs.length c n W1).mono ?_
  rintro e W2 ⟨rfl, rfl⟩
  obtain ⟨W0, hW0⟩ : ∃ W0, (W1.alloc (.cells #[.slice A zs.length c] 24)).alloc (.cells #[.int .i64 n] 3) = W0 := ⟨_, rfl⟩
  have hsz : W0.heap.size = gm + 1 + 1 + 1 := by rw [← hW0]; simp; omega
  have hm0 : Whole W0 gm 26 [.int .u32 0] := by rw [← hW0]; exact (hm.alloc _).alloc _
  have b1 : Whole W0 (gm + 1) 24 [.slice A zs.length c] := by rw [← hW0]; exact (Whole.new_at _ _ [_] _ hs1.symm).alloc _
  have b2 : Whole W0 (gm + 1 + 1) 3 [.int .i64 n] := by rw [← hW0]; exact Whole.new_at _ _ [_] _ (by simp; omega)
  have hB0 : Below w.heap.size w W0 := by rw [← hW0]; exact hB1.trans ((below2 W1 _ _).mono hB1.size)
  have hr0 : Row W0 gm A (nums .i64 zs) := by rw [← hgm]; exact hr.below hB0
  rw [hW0, hs1]
  have hit := places_iter b1 b2 hr0 hcap hc
  have hlow : w.heap.size = gm := hgm
  clear hW0 hW1 hm hB1 hr0 hr b1 b2 hs1
  go_wp2_with fail
  obtain ⟨xs, hxs⟩ : ∃ xs, placesN zs n = xs := ⟨_, rfl⟩
  have HTK : Hid (∀ (j x : Nat), xs[j]? = some x → maskL (xs.take j) < 2 ^ x ∧ x < 24 ∧ maskL (xs.take (j + 1)) = maskL (xs.take j) + 2 ^ x) := Lib.hid fun j x hx => by
    rw [← hxs] at hx ⊢
    obtain ⟨h1, h2, h3⟩ := maskL_take hx
    refine ⟨by rw [placesN, h1]; exact maskJ_lt _ _, by have : topN zs ≤ 24 := by { unfold topN; omega }; omega, by rw [placesN, h2, h1]⟩
  have HXS := Lib.hid hxs
  rw [hxs] at hit
  clear hxs
  refine (wpIn_wide (n := 5)).1 ?_
  refine range_iter (gf := 28) rfl (enters_of Try.func28 (by kernel_rfl) rfl) hit (Keeps.refl _ _) (fun k hk => by rcases hk with hk | hk | hk <;> omega) (fun _ => rfl) (by omega)
    (fun k => k = gm) (fun k hk => by rintro (h | h | h) <;> omega) (fun k hk => by omega)
    (fun j W => Whole W gm 26 [.int .u32 (maskL (xs.take j) : Nat)] ∧ Below w.heap.size w W)
    (fun cd W => False)
    (OwnFrom.and (Own.from (fun s X Y row hs hg hr => hs.abides hg hr) _) (ownFrom_below (Nat.le_refl _) (by omega)))
    (fun cd => fun s W W' row hs hg hr => hs.elim)
    ⟨by rw [List.take_zero]; exact hm0, hB0⟩
    (fun _ x a' W => a' = { tmps := #[.slice A zs.length c, .int .i64 n, undef, undef, .int .u32 0, .pointer (some ⟨gm, 0, none⟩), .int .i64 (x : Nat), .slice A zs.length c, .int .i64 n, .func (.func 28) #[] #[.pointer (some ⟨gm + 1, 0, none⟩), .pointer (some ⟨gm + 1 + 1, 0, none⟩)], .int .i64 (x : Nat), undef, undef, undef, undef, undef], defers := [] })
    (fun _ x a' => ownFrom_pure _ _)
    ?assign ?body ?done ?stop
  case assign =>
    rintro lr j x W K hx hI hK
    gi_wp2_with fail
    exact hK _ _ (Off.refl _ _) hI rfl
  case body =>
    rintro lr j x a' X hl hx ⟨hI1, hI8⟩ rfl
    obtain ⟨hlt, h24, hnx⟩ := HTK.out j x hx
    have HNX := Lib.hid hnx
    have HOR := Lib.hid (or_mask hlt h24)
    obtain ⟨m, hmm⟩ : ∃ m, maskL (xs.take j) = m := ⟨_, rfl⟩
    obtain ⟨m', hm'⟩ : ∃ m', m + 2 ^ x = m' := ⟨_, rfl⟩
    rw [hmm] at hI1 HNX HOR
    rw [hm'] at HNX HOR
    have H0 : Hid ((0 : Int) ≤ (x : Int)) := Lib.hid (by omega)
    have H3 : Hid ((x : Int) ≤ 32) := Lib.hid (by omega)
    obtain ⟨S2, HS2, HF2, HQ2⟩ : ∃ S2 : World → Prop, Hid (∀ Y, Below X.heap.size X Y → S2 (Y.setCell ⟨gm, 0, none⟩ (.int .u32 (m' : Nat)))) ∧ Closed S2 ∧ Hid (∀ Y, S2 Y → (Off (fun k => k = gm) X Y ∧ (Whole Y gm 26 [.int .u32 (maskL (xs.take (j + 1)) : Nat)] ∧ Below w.heap.size w Y))) := by
      refine ⟨fun Y => (Off (fun k => k = gm) X Y ∧ (Whole Y gm 26 [.int .u32 (maskL (xs.take (j + 1)) : Nat)] ∧ Below w.heap.size w Y)), Lib.hid fun Y hBY => ?_, ?_, Lib.hid fun Y h => h⟩
      · exact ⟨(Off.below hBY).trans (Off.set Y (p := ⟨gm, 0, none⟩) _ rfl), by rw [HNX.out]; exact (hI1.below hBY hI1.lt).set 0 _, (hI8.trans (hBY.mono hI8.size)).setCell (by show w.heap.size ≤ gm; omega) _⟩
      · exact fun Y Z h hb => ⟨h.1.trans (Off.below hb), h.2.1.below hb h.2.1.lt, h.2.2.trans (hb.mono h.2.2.size)⟩
    have HCM : Hid (∀ Y, Below X.heap.size X Y → Y.cell? ⟨gm, 0, none⟩ = some (.int .u32 (m : Nat)) ∧ Y.frozen? ⟨gm, 0, none⟩ = false) := Lib.hid fun Y hBY => ⟨(hI1.below hBY hI1.lt).cell_at 0 rfl, (hI1.below hBY hI1.lt).frozen 0⟩
    have HOE : Hid (bits BinOp.or IntKind.u32 (m : Int) ((2 : Int) ^ x % 4294967296) = (m' : Int)) := HOR
    have HOE2 : Hid (bits BinOp.or IntKind.u32 (m : Int) (IntKind.u32.wrap ((2 : Int) ^ x)) = (m' : Int)) := Lib.hid (by rw [show IntKind.u32.wrap ((2 : Int) ^ x) = (2 : Int) ^ x % 4294967296 from rfl]; exact HOE.out)
    clear hx hI1 hI8 hlt h24 hnx hmm hm' hm0 hB0 hit
    gi_wp2_with fail
    refine region_mixR lr 3 (fun _ => True) [(1, false), (2, false), (0, true), (3, false), (4, true)] (by kernel_rfl) (by kernel_rfl) (by kernel_rfl) (fun h => by obtain ⟨_, _, h⟩ := h; exact h) (Below X.heap.size X) ⟨Closed.below X, fun _ _ => trivial⟩ (Below.refl _ _).drew ?_
    simp only [pickOps, List.getElem?_cons_zero, List.getElem?_cons_succ]
    repeat (first | (refine mix_read _ (by rfl) (fun W hW => by (have d0 := H0.out; have d3 := H3.out; go_simp; first | done | with_reducible rfl)) ?_; simp only [Act.put, List.setIfInBounds_toArray, List.set_cons_zero, List.set_cons_succ]))
    refine mix_look (.int .u32 (m : Nat)) ⟨Closed.below X, fun _ _ => trivial⟩ (by rfl) (fun W hW => by (obtain ⟨c0, f0⟩ := HCM.out W hW; go_simp; first | done | with_reducible rfl)) ?_
    simp only [Act.put, List.setIfInBounds_toArray, List.set_cons_zero, List.set_cons_succ]
    refine mix_read (.int .u32 (m' : Nat)) (by rfl) (fun W hW => by (have ho := HOE.out; have ho2 := HOE2.out; go_simp; first | done | with_reducible rfl)) ?_
    simp only [Act.put, List.setIfInBounds_toArray, List.set_cons_zero, List.set_cons_succ]
    refine mix_store S2 (fun Y => Y.setCell ⟨gm, 0, none⟩ (.int .u32 (m' : Nat))) ⟨HF2, fun _ _ => trivial⟩ (by rfl) (fun W hW => by (obtain ⟨c0, f0⟩ := HCM.out W hW; go_simp; first | done | rfl)) (fun W hW => HS2.out W hW) ?_
    simp only [Act.put, List.setIfInBounds_toArray, List.set_cons_zero, List.set_cons_succ]
    exact mix_nil (fun Y hY => HQ2.out Y hY)
  case done =>
    rintro D W hD ⟨hI1, hI8⟩ hK
    rw [List.take_length] at hI1
    have c0 := hI1.cell_at 0 rfl
    have HE : Hid (maskL xs = bitsN zs n) := Lib.hid (by rw [← HXS.out]; exact HX.out)
    have HB8 := Lib.hid hI8
    have HK := Lib.hid hK
    clear hI1 hI8 hm0 hB0 hit hK
    go_wp2_with fail
    refine ⟨by simp, .inl ⟨_, _, rfl, run_takeDeferred HK.out, ?_⟩⟩
    exact ⟨_, results_tmp (t := 4) rfl _ _ _, by rw [← HE.out]; rfl, HB8.out.trans (belowK_b (w := w) (Nat.le_refl _) W D _ _ (by omega) HK.out rfl rfl)⟩
  case stop =>
    rintro D cc W hD h hK
    exact h.elim

end Go.Proofs.Ytaeooldpmlakhaa
