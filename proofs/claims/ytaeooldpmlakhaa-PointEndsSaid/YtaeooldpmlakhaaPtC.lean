/- Package point and the document's own: behind a tick. -/
import Derived.Deep.CutRange
import Derived.Test.YtaeooldpmlakhaaPtB
namespace Go.Proofs.Ytaeooldpmlakhaa
open Go.RowKit Go.Shelf
set_option linter.unusedVariables false
set_option linter.unusedSimpArgs false

/-- Behind a tick. -/
def passM (a b : Int) (f : Bool) (at' : Int) (o k : Bool) (d : Int) : Int × Int × Bool :=
  if rightM a b f && !(a == at') then (if drivesM a b f at' o k = -1 then (a, b, f) else (a, min (b + 1) 1000, decide (d ≤ min (b + 1) 1000))) else (-1, 0, false)
theorem right_parts {a b : Int} {f : Bool} (h : rightM a b f = true) : (posB a = true ∧ 0 ≤ b ∧ b ≤ 1000) ∨ (a = -1 ∧ b = 0 ∧ f = false) := by
  unfold rightM at h
  cases hp : posB a
  · rw [hp] at h
    exact .inr (eqM_iff.1 h)
  · rw [hp, if_pos rfl, Bool.and_eq_true, decide_eq_true_eq, decide_eq_true_eq] at h
    exact .inl ⟨rfl, h⟩
theorem drives_go {a b at' : Int} {f o k : Bool} (h : drivesM a b f at' o k ≠ -1) : posB a = true ∧ 0 ≤ b ∧ b ≤ 1000 ∧ drivesM a b f at' o k = a ∧ f = false ∧ a ≠ at' ∧ o = false ∧ k = false ∧ rightM a b f = true := by
  have hd : (rightM a b f && !(a == at') && !f && !o && !k) = true := by
    cases hc : (rightM a b f && !(a == at') && !f && !o && !k)
    · exact absurd (by unfold drivesM; rw [hc]; rfl) h
    · rfl
  have hv : drivesM a b f at' o k = a := by unfold drivesM; rw [if_pos hd]
  simp only [Bool.and_eq_true, Bool.not_eq_true'] at hd
  obtain ⟨⟨⟨⟨h1, h2⟩, h3⟩, h4⟩, h5⟩ := hd
  have h2' : a ≠ at' := by simpa using h2
  rcases right_parts h1 with ⟨hp, hb⟩ | ⟨ha, _⟩
  · exact ⟨hp, hb.1, hb.2, hv, h3, h2', h4, h5, h1⟩
  · exact absurd (hv.trans ha) h
theorem tick1_B (a b : Int) (f : Bool) (w : World) : Calls Try.prog 25 #[mcV a b f] w fun e w' => e = .returned (mcV (-1) 0 false) ∧ Below w.heap.size w w' := by
  obtain ⟨Q, HQ, HQb, HQm, HQz, hq⟩ := keep_mc2 w a b f
  go_enter Try.func25, Try.ntmps25
  go_wp2_with fail
  refine (rest_B _).mono ?_
  rintro e w1 ⟨rfl, hB⟩
  replace hq := HQ.out _ _ hq hB
  clear hB
  have HV : Hid (((-1, 0, false) : Int × Int × Bool) = (-1, 0, false)) := Lib.hid rfl
  have z := HQz.out _ hq
  have z0 := z.cell_at 0 rfl
  have z1 := z.cell_at 1 rfl
  have z2 := z.cell_at 2 rfl
  have f0 := z.frozen 0
  have f1 := z.frozen 1
  have f2 := z.frozen 2
  have HF := Lib.hid z
  have HB := Lib.hid (HQb.out _ hq)
  clear z hq
  go_wp2_with fail
  exact bodyPost_ret (res_mc rfl _ rfl (over_mc HF.out)) rfl ⟨rfl, below_mc HB.out (Nat.le_succ _)⟩
theorem tick2_B (a b : Int) (f : Bool) (w : World) : Calls Try.prog 26 #[mcV a b f] w fun e w' => e = .returned (mcV a b f) ∧ Below w.heap.size w w' := by
  go_enter Try.func26, Try.ntmps26
  go_wp2_with fail
  exact bodyPost_ret (v := mcV a b f) (by simp [results, Try.f26, go_sem]) rfl ⟨rfl, below2 _ _ _⟩
set_option maxRecDepth 100000 in
set_option maxHeartbeats 8000000 in
theorem tick3_B (a b : Int) (f : Bool) (d : Int) {g : Nat} {w : World} (hg : Whole w g 3 [.int .i64 d]) (h0 : 0 ≤ b) (h1 : b ≤ 1000) {v : Int} {x : Bool} (hv : min (b + 1) 1000 = v) (hx : decide (d ≤ v) = x) :
    Calls Try.prog 27 #[mcV a b f, .pointer (some ⟨g, 0, none⟩)] w fun e w' => e = .returned (mcV a v x) ∧ Below w.heap.size w w' := by
  have hlt := hg.lt
  have hg2 := (hg.alloc (.cells (mcC a b f).toArray 23)).alloc (.cells (mcC 0 0 false).toArray 23)
  have hm : Whole ((w.alloc (.cells (mcC a b f).toArray 23)).alloc (.cells (mcC 0 0 false).toArray 23)) w.heap.size 23 (mcC a b f) := (Whole.new w _ (mcC a b f)).alloc _
  have hz : Whole ((w.alloc (.cells (mcC a b f).toArray 23)).alloc (.cells (mcC 0 0 false).toArray 23)) (w.heap.size + 1) 23 (mcC 0 0 false) := Whole.new_at _ _ (mcC 0 0 false) _ (by simp)
  have hw : IntKind.i64.wrap (b + 1) = b + 1 := IntWalk.i64_in _ (by omega)
  have HB := Lib.hid (below2 w (.cells (mcC a b f).toArray 23) (.cells (mcC 0 0 false).toArray 23))
  go_enter Try.func27, Try.ntmps27
  go_upto_region 1 with (fail)
  generalize (w.alloc (Obj.cells (mcC a b f).toArray 23)).alloc (Obj.cells (mcC 0 0 false).toArray 23) = X at *
  have m := hm
  have m0 := m.cell_at 0 rfl
  have m1 := m.cell_at 1 rfl
  have m2 := m.cell_at 2 rfl
  have g0 := m.frozen 0
  have g1 := m.frozen 1
  have g2 := m.frozen 2
  clear m
  go_upto_region 2 with (fail)
  clear m0 m1 m2 g0 g1 g2 hw hv
  replace hg2 := hg2.far (p := ⟨w.heap.size, 1, none⟩) (by show g ≠ w.heap.size; omega) (.int .i64 v)
  replace hm : Whole (X.setCell ⟨w.heap.size, 1, none⟩ (.int .i64 v)) w.heap.size 23 (mcC a v f) := hm.set 1 _
  replace hz := hz.far (p := ⟨w.heap.size, 1, none⟩) (by show w.heap.size + 1 ≠ w.heap.size; omega) (.int .i64 v)
  have HB1 := Lib.hid (HB.out.setCell (p := ⟨w.heap.size, 1, none⟩) (Nat.le_refl _) (.int .i64 v))
  clear HB
  generalize X.setCell ⟨w.heap.size, 1, none⟩ (.int .i64 v) = Y at *
  have d0 := hg2.cell_at 0 rfl
  have m := hm
  have m0 := m.cell_at 0 rfl
  have m1 := m.cell_at 1 rfl
  have m2 := m.cell_at 2 rfl
  have g0 := m.frozen 0
  have g1 := m.frozen 1
  have g2 := m.frozen 2
  clear m
  go_upto_region 3 with (fail)
  try rw [hx]
  clear m0 m1 m2 g0 g1 g2
  clear hg2 d0
  replace hm : Whole (Y.setCell ⟨w.heap.size, 2, none⟩ (.bool x)) w.heap.size 23 (mcC a v x) := hm.set 2 _
  replace hz := hz.far (p := ⟨w.heap.size, 2, none⟩) (by show w.heap.size + 1 ≠ w.heap.size; omega) (.bool x)
  have HB := Lib.hid (HB1.out.setCell (p := ⟨w.heap.size, 2, none⟩) (Nat.le_refl _) (.bool x))
  clear HB1
  generalize Y.setCell ⟨w.heap.size, 2, none⟩ (.bool x) = Z at *
  have m := hm
  have m0 := m.cell_at 0 rfl
  have m1 := m.cell_at 1 rfl
  have m2 := m.cell_at 2 rfl
  have g0 := m.frozen 0
  have g1 := m.frozen 1
  have g2 := m.frozen 2
  clear m
  have z0 := hz.cell_at 0 rfl
  have z1 := hz.cell_at 1 rfl
  have z2 := hz.cell_at 2 rfl
  have f0 := hz.frozen 0
  have f1 := hz.frozen 1
  have f2 := hz.frozen 2
  have HZ := Lib.hid hz
  clear hz hm
  go_wp2_with fail
  exact bodyPost_ret (res_mc rfl _ rfl (over_mc HZ.out)) rfl ⟨rfl, below_mc HB.out (Nat.le_succ _)⟩
theorem keep_tk (w : World) (a b : Int) (f : Bool) (d : Int) :
    ∃ Q : World → Prop, Hid (Closed Q) ∧ Hid (∀ W, Q W → Below w.heap.size w W) ∧ Hid (∀ W, Q W → Whole W w.heap.size 23 (mcC a b f)) ∧ Hid (∀ W, Q W → Whole W (w.heap.size + 1) 3 [.int .i64 d]) ∧ Q ((w.alloc (.cells (mcC a b f).toArray 23)).alloc (.cells #[.int .i64 d] 3)) :=
  ⟨fun W => (Below w.heap.size w W ∧ Whole W w.heap.size 23 (mcC a b f)) ∧ Whole W (w.heap.size + 1) 3 [.int .i64 d], Lib.hid (((Closed.below w).and (Closed.whole _ _ _)).and (Closed.whole _ _ _)), Lib.hid (fun _ h => h.1.1), Lib.hid (fun _ h => h.1.2), Lib.hid (fun _ h => h.2),
   ⟨below2 w _ _, (Whole.new w _ (mcC a b f)).alloc _⟩, Whole.new_at _ _ [_] _ (by simp)⟩
def ticksV (a b : Int) (f : Bool) (at' : Int) (o k : Bool) (g : Nat) : Value :=
  if rightM a b f && !(a == at') then (if drivesM a b f at' o k = -1 then .func (.func 26) #[] #[] else .func (.func 27) #[] #[.pointer (some ⟨g, 0, none⟩)]) else .func (.func 25) #[] #[]
set_option maxRecDepth 100000 in
set_option maxHeartbeats 8000000 in
theorem ticks_B (a b : Int) (f : Bool) (at' : Int) (o k : Bool) (d : Int) (w : World) {v : Value} (hv : ticksV a b f at' o k (w.heap.size + 1) = v) : Calls Try.prog 23 #[mcV a b f, .int .i64 at', .bool o, .bool k, .int .i64 d] w fun e w' => e = .returned v ∧ Whole w' (w.heap.size + 1) 3 [.int .i64 d] ∧ Below w.heap.size w w' := by
  obtain ⟨Q, HQ, HQb, HQm, HQd, hq⟩ := keep_tk w a b f d
  obtain ⟨r, hr⟩ : ∃ r, rightM a b f = r := ⟨_, rfl⟩
  obtain ⟨x, hx⟩ : ∃ x, drivesM a b f at' o k = x := ⟨_, rfl⟩
  have KR := Lib.hid fun W => right_B a b f W hr
  have KD := Lib.hid fun W => drives_B a b f at' o k W hx
  have HV0 := Lib.hid hv
  clear hv
  have m := HQm.out _ hq
  have m0 := m.cell_at 0 rfl
  have m1 := m.cell_at 1 rfl
  have m2 := m.cell_at 2 rfl
  clear m
  go_enter Try.func23, Try.ntmps23
  go_wp2_with fail
  refine (KR.out _).mono ?_
  clear KR m0 m1 m2
  rintro e w1 ⟨rfl, hB⟩
  replace hq := HQ.out _ _ hq hB
  clear hB
  cases r
  · have HV : Hid (v = .func (.func 25) #[] #[]) := Lib.hid (by rw [← HV0.out, ticksV, hr]; rfl)
    have HB := Lib.hid (And.intro (HQd.out _ hq) (HQb.out _ hq))
    clear hr hx HV0
    go_wp2_with fail
    go_ret
    exact ⟨by rw [HV.out]; rfl, HB.out⟩
  · have m := HQm.out _ hq
    have m0 := m.cell_at 0 rfl
    have m1 := m.cell_at 1 rfl
    have m2 := m.cell_at 2 rfl
    clear m
    cases he : (a == at')
    · go_wp2_with fail
      refine (KD.out _).mono ?_
      clear KD m0 m1 m2
      rintro e w2 ⟨rfl, hB⟩
      replace hq := HQ.out _ _ hq hB
      have HB := Lib.hid (And.intro (HQd.out _ hq) (HQb.out _ hq))
      clear hB
      by_cases h1 : x = -1
      · have HV : Hid (v = .func (.func 26) #[] #[]) := Lib.hid (by rw [← HV0.out, ticksV, hr, he, hx, if_pos (by rfl), if_pos h1])
        clear hr hx HV0
        subst h1
        go_wp2_with fail
        go_ret
        exact ⟨by rw [HV.out]; rfl, HB.out⟩
      · have HV : Hid (v = .func (.func 27) #[] #[.pointer (some ⟨w.heap.size + 1, 0, none⟩)]) := Lib.hid (by rw [← HV0.out, ticksV, hr, he, hx, if_pos (by rfl), if_neg h1])
        have h2 : (x == -1) = false := by simp [h1]
        clear hr hx HV0 h1
        go_wp2_with fail
        go_ret
        exact ⟨by rw [HV.out]; rfl, HB.out⟩
    · have HV : Hid (v = .func (.func 25) #[] #[]) := Lib.hid (by rw [← HV0.out, ticksV, hr, he]; rfl)
      have HB := Lib.hid (And.intro (HQd.out _ hq) (HQb.out _ hq))
      clear hr hx HV0
      go_wp2_with fail
      go_ret
      exact ⟨by rw [HV.out]; rfl, HB.out⟩
set_option maxRecDepth 100000 in
set_option maxHeartbeats 8000000 in
theorem pass_B (a b : Int) (f : Bool) (at' : Int) (o k : Bool) (d : Int) (w : World) {x : Int × Int × Bool} (hx : passM a b f at' o k d = x) : Calls Try.prog 19 #[mcV a b f, .int .i64 at', .bool o, .bool k, .int .i64 d] w fun e w' => e = .returned (mcV x.1 x.2.1 x.2.2) ∧ Below w.heap.size w w' := by
  obtain ⟨Q, HQ, HQb, HQm, HQz, hq⟩ := keep_mc2 w a b f
  have HX := Lib.hid hx
  clear hx
  obtain ⟨g, hg⟩ : ∃ g, ((w.alloc (.cells (mcC a b f).toArray 23)).alloc (.cells (mcC 0 0 false).toArray 23)).heap.size + 1 = g := ⟨_, rfl⟩
  obtain ⟨v, hv⟩ : ∃ v, ticksV a b f at' o k g = v := ⟨_, rfl⟩
  have KT := ticks_B a b f at' o k d ((w.alloc (.cells (mcC a b f).toArray 23)).alloc (.cells (mcC 0 0 false).toArray 23)) (v := v) (by rw [hg]; exact hv)
  rw [hg] at KT
  replace KT := Lib.hid KT
  have HV0 := Lib.hid hv
  clear hg hv
  have m := HQm.out _ hq
  have m0 := m.cell_at 0 rfl
  have m1 := m.cell_at 1 rfl
  have m2 := m.cell_at 2 rfl
  clear m
  go_enter Try.func19, Try.ntmps19
  go_wp2_with fail
  refine KT.out.mono ?_
  clear m0 m1 m2 KT
  rintro e w1 ⟨rfl, hd, hB⟩
  replace hq := HQ.out _ _ hq hB
  have m := HQm.out _ hq
  have m0 := m.cell_at 0 rfl
  have m1 := m.cell_at 1 rfl
  have m2 := m.cell_at 2 rfl
  clear m
  cases hc : (rightM a b f && !(a == at'))
  · have HV : Hid ((-1, 0, false) = x) := Lib.hid (by rw [← HX.out, passM, hc]; rfl)
    obtain rfl : .func (.func 25) #[] #[] = v := by rw [← HV0.out, ticksV, hc]; rfl
    clear HV0 hd hB HX hc
    go_wp2_with fail
    refine (tick1_B a b f _).mono ?_
    clear m0 m1 m2
    rintro e w2 ⟨rfl, hB⟩
    replace hq := HQ.out _ _ hq hB
    clear hB
    have z := HQz.out _ hq
    have z0 := z.cell_at 0 rfl
    have z1 := z.cell_at 1 rfl
    have z2 := z.cell_at 2 rfl
    have f0 := z.frozen 0
    have f1 := z.frozen 1
    have f2 := z.frozen 2
    have HF := Lib.hid z
    have HB := Lib.hid (HQb.out _ hq)
    clear z hq
    go_wp2_with fail

    exact bodyPost_ret (res_mc rfl _ rfl (over_mc HF.out)) rfl ⟨by rw [← HV.out], below_mc HB.out (Nat.le_succ _)⟩
  · by_cases h1 : drivesM a b f at' o k = -1
    · have HV : Hid ((a, b, f) = x) := Lib.hid (by rw [← HX.out, passM, hc, if_pos rfl, if_pos h1])
      obtain rfl : .func (.func 26) #[] #[] = v := by rw [← HV0.out, ticksV, hc, if_pos rfl, if_pos h1]
      clear HV0 hd hB HX hc h1
      go_wp2_with fail
      refine (tick2_B a b f _).mono ?_
      clear m0 m1 m2
      rintro e w2 ⟨rfl, hB⟩
      replace hq := HQ.out _ _ hq hB
      clear hB
      have z := HQz.out _ hq
      have z0 := z.cell_at 0 rfl
      have z1 := z.cell_at 1 rfl
      have z2 := z.cell_at 2 rfl
      have f0 := z.frozen 0
      have f1 := z.frozen 1
      have f2 := z.frozen 2
      have HF := Lib.hid z
      have HB := Lib.hid (HQb.out _ hq)
      clear z hq
      go_wp2_with fail

      exact bodyPost_ret (res_mc rfl _ rfl (over_mc HF.out)) rfl ⟨by rw [← HV.out], below_mc HB.out (Nat.le_succ _)⟩
    · have hp := (drives_go h1).1
      have h0 := (drives_go h1).2.1
      have hb := (drives_go h1).2.2.1
      have HV : Hid ((a, min (b + 1) 1000, decide (d ≤ min (b + 1) 1000)) = x) := Lib.hid (by rw [← HX.out, passM, hc, if_pos rfl, if_neg h1])
      obtain rfl : .func (.func 27) #[] #[.pointer (some ⟨g, 0, none⟩)] = v := by rw [← HV0.out, ticksV, hc, if_pos rfl, if_neg h1]
      obtain ⟨v, hv⟩ : ∃ v, min (b + 1) 1000 = v := ⟨_, rfl⟩
      obtain ⟨y, hy⟩ : ∃ y, decide (d ≤ v) = y := ⟨_, rfl⟩
      have K3 := Lib.hid (tick3_B a b f d hd h0 hb hv hy)
      rw [hv, hy] at HV
      clear HV0 hB HX hc h1 hp hv hy h0 hb hd
      go_wp2_with fail
      refine K3.out.mono ?_
      clear m0 m1 m2 K3
      rintro e w2 ⟨rfl, hB⟩
      replace hq := HQ.out _ _ hq hB
      clear hB
      have z := HQz.out _ hq
      have z0 := z.cell_at 0 rfl
      have z1 := z.cell_at 1 rfl
      have z2 := z.cell_at 2 rfl
      have f0 := z.frozen 0
      have f1 := z.frozen 1
      have f2 := z.frozen 2
      have HF := Lib.hid z
      have HB := Lib.hid (HQb.out _ hq)
      clear z hq
      go_wp2_with fail

      exact bodyPost_ret (res_mc rfl _ rfl (over_mc HF.out)) rfl ⟨by rw [← HV.out], below_mc HB.out (Nat.le_succ _)⟩
set_option maxRecDepth 100000 in
set_option maxHeartbeats 8000000 in
theorem passR_B (a b : Int) (f : Bool) (at' : Int) (o k : Bool) (d : Int) (w : World) {x : Int × Int × Bool} (hx : passM a b f at' o k d = x) : Calls Try.prog 20 #[mcV a b f, .int .i64 at', .bool o, .bool k, .int .i64 d] w fun e w' => e = .returned (mcV x.1 x.2.1 x.2.2) ∧ Below w.heap.size w w' := by
  obtain ⟨Q, HQ, HQb, HQm, HQz, hq⟩ := keep_mc2 w a b f
  obtain ⟨r, hr⟩ : ∃ r, rightM a b f = r := ⟨_, rfl⟩
  obtain ⟨u, hu⟩ : ∃ u, drivesM a b f at' o k = u := ⟨_, rfl⟩
  have KR := Lib.hid fun W => rightR_B a b f W hr
  have KD := Lib.hid fun W => drivesR_B a b f at' o k W hu
  have HX := Lib.hid hx
  clear hx
  have m := HQm.out _ hq
  have m0 := m.cell_at 0 rfl
  have m1 := m.cell_at 1 rfl
  have m2 := m.cell_at 2 rfl
  clear m
  go_enter Try.func20, Try.ntmps20
  go_wp2_with fail
  refine (KR.out _).mono ?_
  clear KR m0 m1 m2
  rintro e w1 ⟨rfl, hB⟩
  replace hq := HQ.out _ _ hq hB
  clear hB
  cases r
  · have HV : Hid ((-1, 0, false) = x) := Lib.hid (by rw [← HX.out, passM, hr]; rfl)
    clear HX hr hu KD
    go_wp2_with fail
    refine (restR_B _).mono ?_
    rintro e w2 ⟨rfl, hB⟩
    replace hq := HQ.out _ _ hq hB
    clear hB
    have z := HQz.out _ hq
    have z0 := z.cell_at 0 rfl
    have z1 := z.cell_at 1 rfl
    have z2 := z.cell_at 2 rfl
    have f0 := z.frozen 0
    have f1 := z.frozen 1
    have f2 := z.frozen 2
    have HF := Lib.hid z
    have HB := Lib.hid (HQb.out _ hq)
    clear z hq
    go_wp2_with fail

    exact bodyPost_ret (res_mc rfl _ rfl (over_mc HF.out)) rfl ⟨by rw [← HV.out], below_mc HB.out (Nat.le_succ _)⟩
  · have m := HQm.out _ hq
    have m0 := m.cell_at 0 rfl
    have m1 := m.cell_at 1 rfl
    have m2 := m.cell_at 2 rfl
    clear m
    have hcase : (0 ≤ a ∧ (at' == a) = true) ∨ (0 ≤ a ∧ (at' == a) = false) ∨ (¬ 0 ≤ a) := by
      by_cases h : 0 ≤ a
      · cases (at' == a)
        · exact .inr (.inl ⟨h, rfl⟩)
        · exact .inl ⟨h, rfl⟩
      · exact .inr (.inr h)
    have hsame : ∀ {q}, (at' == a) = q → (a == at') = q := fun {q} h => by rw [← h]; exact Bool.beq_comm ..
    rcases hcase with ⟨ha, he⟩ | hrest
    · have HV : Hid ((-1, 0, false) = x) := Lib.hid (by rw [← HX.out, passM, hr, hsame he]; rfl)
      have da : decide (0 ≤ a) = true := decide_eq_true ha
      clear HX hr hu KD hsame
      go_wp2_with fail
      refine (restR_B _).mono ?_
      clear m0 m1 m2
      rintro e w2 ⟨rfl, hB⟩
      replace hq := HQ.out _ _ hq hB
      clear hB
      have z := HQz.out _ hq
      have z0 := z.cell_at 0 rfl
      have z1 := z.cell_at 1 rfl
      have z2 := z.cell_at 2 rfl
      have f0 := z.frozen 0
      have f1 := z.frozen 1
      have f2 := z.frozen 2
      have HF := Lib.hid z
      have HB := Lib.hid (HQb.out _ hq)
      clear z hq
      go_wp2_with fail

      exact bodyPost_ret (res_mc rfl _ rfl (over_mc HF.out)) rfl ⟨by rw [← HV.out], below_mc HB.out (Nat.le_succ _)⟩
    · by_cases h1 : u = -1
      · have HV : Hid ((a, b, f) = x) := Lib.hid (by
          rw [← HX.out, passM, hr, hu]
          rcases hrest with ⟨_, he⟩ | ha
          · rw [hsame he, if_pos (by rfl), if_pos h1]
          · rcases right_parts hr with ⟨hp, _⟩ | ⟨rfl, rfl, rfl⟩
            · have := posB_iff.1 hp; omega
            · cases ((-1 : Int) == at') <;> simp [h1])
        have hd : (decide (0 ≤ a) = true ∧ (at' == a) = false) ∨ decide (0 ≤ a) = false := by
          rcases hrest with ⟨h, he⟩ | h
          · exact .inl ⟨decide_eq_true h, he⟩
          · exact .inr (decide_eq_false h)
        have hrest' : (0 ≤ a ∧ (at' == a) = false) ∨ ¬ 0 ≤ a := hrest
        subst h1
        clear HX hr hu hsame hrest
        have HK := Lib.hid (And.intro hq HV)
        clear hq HV
        rcases hd with ⟨d0, he⟩ | d0
        all_goals
          (rcases hrest' with ⟨ha, _⟩ | ha <;> (try simp [ha] at d0))
        all_goals
          go_wp2_with fail
          refine (KD.out _).mono ?_
          clear m0 m1 m2 KD
          rintro e w2 ⟨rfl, hB⟩
          obtain ⟨hq, HV⟩ := HK.out
          replace hq := HQ.out _ _ hq hB
          clear hB HK
          have m := HQm.out _ hq
          have m0 := m.cell_at 0 rfl
          have m1 := m.cell_at 1 rfl
          have m2 := m.cell_at 2 rfl
          clear m
          have z := HQz.out _ hq
          have z0 := z.cell_at 0 rfl
          have z1 := z.cell_at 1 rfl
          have z2 := z.cell_at 2 rfl
          have f0 := z.frozen 0
          have f1 := z.frozen 1
          have f2 := z.frozen 2
          have HF := Lib.hid z
          have HB := Lib.hid (HQb.out _ hq)
          clear z hq
          go_wp2_with fail

          exact bodyPost_ret (res_mc rfl _ rfl (over_mc HF.out)) rfl ⟨by rw [← HV.out], below_mc HB.out (Nat.le_succ _)⟩
      · have hdg : drivesM a b f at' o k ≠ -1 := by rw [hu]; exact h1
        have hp := (drives_go hdg).1
        have h0 := (drives_go hdg).2.1
        have hb := (drives_go hdg).2.2.1
        obtain ⟨v, hv⟩ : ∃ v, min (b + 1) 1000 = v := ⟨_, rfl⟩
        obtain ⟨y, hy⟩ : ∃ y, decide (d ≤ v) = y := ⟨_, rfl⟩
        have HU : Hid (u = a) := Lib.hid (by rw [← hu]; exact (drives_go hdg).2.2.2.1)
        have he : (a == at') = false := by have := (drives_go hdg).2.2.2.2.2.1; simpa using this
        have hae : (at' == a) = false := by rw [Bool.beq_comm]; exact he
        have HV : Hid ((a, v, y) = x) := Lib.hid (by rw [← HX.out, passM, hr, he, hu, if_pos (by rfl), if_neg h1, hv, hy])
        have hp0 : 0 ≤ a := by have := posB_iff.1 hp; omega
        have da : decide (0 ≤ a) = true := decide_eq_true hp0
        have hw : IntKind.i64.wrap (b + 1) = b + 1 := IntWalk.i64_in _ (by omega)
        clear HX hr hu hsame hrest hdg hp h1 he
        go_wp2_with fail
        refine (KD.out _).mono ?_
        clear m0 m1 m2 KD
        rintro e w2 ⟨rfl, hB⟩
        replace hq := HQ.out _ _ hq hB
        obtain rfl : a = u := HU.out.symm
        clear hB
        have HB := Lib.hid (HQb.out _ hq)
        have hz := HQz.out _ hq
        have hm := HQm.out _ hq
        clear hq HQ HQb HQm HQz HU
        go_upto_region 4 with (fail)
        generalize w2 = X at *
        have m := hm
        have m0 := m.cell_at 0 rfl
        have m1 := m.cell_at 1 rfl
        have m2 := m.cell_at 2 rfl
        have g0 := m.frozen 0
        have g1 := m.frozen 1
        have g2 := m.frozen 2
        clear m
        go_upto_region 5 with (fail)
        clear m0 m1 m2 g0 g1 g2 hw hv
        skip
        replace hm : Whole (X.setCell ⟨w.heap.size, 1, none⟩ (.int .i64 v)) w.heap.size 23 (mcC a v f) := hm.set 1 _
        replace hz := hz.far (p := ⟨w.heap.size, 1, none⟩) (by show w.heap.size + 1 ≠ w.heap.size; omega) (.int .i64 v)
        have HB1 := Lib.hid (HB.out.setCell (p := ⟨w.heap.size, 1, none⟩) (Nat.le_refl _) (.int .i64 v))
        clear HB
        generalize X.setCell ⟨w.heap.size, 1, none⟩ (.int .i64 v) = Y at *
        skip
        have m := hm
        have m0 := m.cell_at 0 rfl
        have m1 := m.cell_at 1 rfl
        have m2 := m.cell_at 2 rfl
        have g0 := m.frozen 0
        have g1 := m.frozen 1
        have g2 := m.frozen 2
        clear m
        go_upto_region 6 with (fail)
        try rw [hy]
        clear m0 m1 m2 g0 g1 g2
        skip
        replace hm : Whole (Y.setCell ⟨w.heap.size, 2, none⟩ (.bool y)) w.heap.size 23 (mcC a v y) := hm.set 2 _
        replace hz := hz.far (p := ⟨w.heap.size, 2, none⟩) (by show w.heap.size + 1 ≠ w.heap.size; omega) (.bool y)
        have HB := Lib.hid (HB1.out.setCell (p := ⟨w.heap.size, 2, none⟩) (Nat.le_refl _) (.bool y))
        clear HB1
        generalize Y.setCell ⟨w.heap.size, 2, none⟩ (.bool y) = Z at *
        have m := hm
        have m0 := m.cell_at 0 rfl
        have m1 := m.cell_at 1 rfl
        have m2 := m.cell_at 2 rfl
        have g0 := m.frozen 0
        have g1 := m.frozen 1
        have g2 := m.frozen 2
        clear m
        have z0 := hz.cell_at 0 rfl
        have z1 := hz.cell_at 1 rfl
        have z2 := hz.cell_at 2 rfl
        have f0 := hz.frozen 0
        have f1 := hz.frozen 1
        have f2 := hz.frozen 2
        have HZ := Lib.hid hz
        clear hz hm
        go_wp2_with fail
        exact bodyPost_ret (res_mc rfl _ rfl (over_mc HZ.out)) rfl ⟨by rw [← HV.out], below_mc HB.out (Nat.le_succ _)⟩

end Go.Proofs.Ytaeooldpmlakhaa
