/- Package point and the document's own: what is called, where it drives to. -/
import Derived.Deep.CutRange
import Derived.Test.YtaeooldpmlakhaaPtA
namespace Go.Proofs.Ytaeooldpmlakhaa
open Go.RowKit Go.Shelf
set_option linter.unusedVariables false
set_option linter.unusedSimpArgs false

theorem over_mc {W : World} {g : Nat} {a b : Int} {f : Bool} {a' b' : Int} {f' : Bool} (h : Whole W g 23 (mcC a b f)) : Whole (((W.setCell ⟨g, 0, none⟩ (.int .i64 a')).setCell ⟨g, 1, none⟩ (.int .i64 b')).setCell ⟨g, 2, none⟩ (.bool f')) g 23 (mcC a' b' f') := ((h.set 0 _).set 1 _).set 2 _
theorem below_mc {n : Nat} {w W : World} {g : Nat} {a' b' : Int} {f' : Bool} (h : Below n w W) (hg : n ≤ g) : Below n w (((W.setCell ⟨g, 0, none⟩ (.int .i64 a')).setCell ⟨g, 1, none⟩ (.int .i64 b')).setCell ⟨g, 2, none⟩ (.bool f')) :=
  ((h.setCell (p := ⟨g, 0, none⟩) hg _).setCell (p := ⟨g, 1, none⟩) hg _).setCell (p := ⟨g, 2, none⟩) hg _
theorem res_mc {fn : Func} {p : Tmp} (h : fn.results = #[.cell p 23]) (tmps : Array Value) {w : World} {g : Nat} {a b : Int} {f : Bool} (hp : tmps.getD p undef = .pointer (some ⟨g, 0, none⟩)) (hR : Whole w g 23 (mcC a b f)) : (results fn tmps).run Try.prog w = .ok (mcV a b f) w :=
  results_cell_row h tmps w g _ _ (0, 0) _ hp hR Try.underlying23 rfl (by kernel_rfl)
/-- A machine that came in, and what is to be handed back, in boxes of the call's own. -/
theorem keep_mc2 (w : World) (a b : Int) (f : Bool) :
    ∃ Q : World → Prop, Hid (Closed Q) ∧ Hid (∀ W, Q W → Below w.heap.size w W) ∧ Hid (∀ W, Q W → Whole W w.heap.size 23 (mcC a b f)) ∧ Hid (∀ W, Q W → Whole W (w.heap.size + 1) 23 (mcC 0 0 false)) ∧ Q ((w.alloc (.cells (mcC a b f).toArray 23)).alloc (.cells (mcC 0 0 false).toArray 23)) :=
  ⟨fun W => (Below w.heap.size w W ∧ Whole W w.heap.size 23 (mcC a b f)) ∧ Whole W (w.heap.size + 1) 23 (mcC 0 0 false), Lib.hid (((Closed.below w).and (Closed.whole _ _ _)).and (Closed.whole _ _ _)), Lib.hid (fun _ h => h.1.1), Lib.hid (fun _ h => h.1.2), Lib.hid (fun _ h => h.2),
   ⟨below2 w _ _, (Whole.new w _ (mcC a b f)).alloc _⟩, Whole.new_at _ _ (mcC 0 0 false) _ (by simp)⟩
def callM (a b : Int) (f : Bool) (p : Int) : Int × Int × Bool := if rightM a b f && posB p then (if a = p ∧ f = false then (a, b, f) else (p, 0, false)) else (-1, 0, false)
set_option maxRecDepth 100000 in
set_option maxHeartbeats 8000000 in
theorem call_B (a b : Int) (f : Bool) (p : Int) (w : World) {x : Int × Int × Bool} (hx : callM a b f p = x) : Calls Try.prog 15 #[mcV a b f, .int .i64 p] w fun e w' => e = .returned (mcV x.1 x.2.1 x.2.2) ∧ Below w.heap.size w w' := by
  obtain ⟨Q, HQ, HQb, HQm, HQz, hq⟩ := keep_mc2 w a b f
  obtain ⟨r, hr⟩ : ∃ r, rightM a b f = r := ⟨_, rfl⟩
  have KR := Lib.hid fun W => right_B a b f W hr
  have HX := Lib.hid hx
  clear hx
  have m := HQm.out _ hq
  have m0 := m.cell_at 0 rfl
  have m1 := m.cell_at 1 rfl
  have m2 := m.cell_at 2 rfl
  clear m
  go_enter Try.func15, Try.ntmps15
  go_wp2_with fail
  refine (KR.out _).mono ?_
  clear KR m0 m1 m2
  rintro e w1 ⟨rfl, hB⟩
  replace hq := HQ.out _ _ hq hB
  clear hB
  cases r
  · have HV : Hid ((-1, 0, false) = x) := Lib.hid (by rw [← HX.out, callM, hr]; rfl)
    clear HX hr
    go_wp2_with fail
    refine (rest_B _).mono ?_
    skip
    rintro e w2 ⟨rfl, hB⟩
    replace hq := HQ.out _ _ hq hB
    clear hB
    have z := HQz.out _ hq
    have z0 := z.cell_at 0 rfl
    have z1 := z.cell_at 1 rfl
    have z2 := z.cell_at 2 rfl
    have f0 := z.frozen 0
    have f1 := z.frozen 1
    have f2 := z.frozen 2
    have HF := Lib.hid z
    have HB := Lib.hid (HQb.out _ hq)
    clear z hq
    go_wp2_with fail

    exact bodyPost_ret (res_mc rfl _ rfl (over_mc HF.out)) rfl ⟨by rw [← HV.out], below_mc HB.out (Nat.le_succ _)⟩
  · obtain ⟨pb, hpb⟩ : ∃ q, posB p = q := ⟨_, rfl⟩
    (go_wp2_with fail; refine (position_any p hpb _).mono ?_; rintro e w2 ⟨rfl, rfl⟩); cases pb
    · have HV : Hid ((-1, 0, false) = x) := Lib.hid (by rw [← HX.out, callM, hr, hpb]; rfl)
      skip
      clear HX hr hpb
      go_wp2_with fail
      refine (rest_B _).mono ?_
      skip
      rintro e w2 ⟨rfl, hB⟩
      replace hq := HQ.out _ _ hq hB
      clear hB
      have z := HQz.out _ hq
      have z0 := z.cell_at 0 rfl
      have z1 := z.cell_at 1 rfl
      have z2 := z.cell_at 2 rfl
      have f0 := z.frozen 0
      have f1 := z.frozen 1
      have f2 := z.frozen 2
      have HF := Lib.hid z
      have HB := Lib.hid (HQb.out _ hq)
      clear z hq
      go_wp2_with fail

      exact bodyPost_ret (res_mc rfl _ rfl (over_mc HF.out)) rfl ⟨by rw [← HV.out], below_mc HB.out (Nat.le_succ _)⟩
    · skip
      all_goals
        have m := HQm.out _ hq
        have m0 := m.cell_at 0 rfl
        have m1 := m.cell_at 1 rfl
        have m2 := m.cell_at 2 rfl
        clear m
        by_cases he : a = p
        · have e1 : (a == p) = true := by simp [he]
          cases hf : f
          · have HV : Hid ((a, b, f) = x) := Lib.hid (by rw [← HX.out, callM, hr, hpb]; simp [he, hf])
            subst hf
            clear HX hr hpb he
            skip
            have z := HQz.out _ hq
            have z0 := z.cell_at 0 rfl
            have z1 := z.cell_at 1 rfl
            have z2 := z.cell_at 2 rfl
            have f0 := z.frozen 0
            have f1 := z.frozen 1
            have f2 := z.frozen 2
            have HF := Lib.hid z
            have HB := Lib.hid (HQb.out _ hq)
            clear z hq
            go_wp2_with fail

            exact bodyPost_ret (res_mc rfl _ rfl (over_mc HF.out)) rfl ⟨by rw [← HV.out], below_mc HB.out (Nat.le_succ _)⟩
          · have HV : Hid ((p, 0, false) = x) := Lib.hid (by rw [← HX.out, callM, hr, hpb]; simp [hf])
            subst hf
            clear HX hr hpb he
            skip
            have z := HQz.out _ hq
            have z0 := z.cell_at 0 rfl
            have z1 := z.cell_at 1 rfl
            have z2 := z.cell_at 2 rfl
            have f0 := z.frozen 0
            have f1 := z.frozen 1
            have f2 := z.frozen 2
            have HF := Lib.hid z
            have HB := Lib.hid (HQb.out _ hq)
            clear z hq
            go_wp2_with fail

            exact bodyPost_ret (res_mc rfl _ rfl (over_mc HF.out)) rfl ⟨by rw [← HV.out], below_mc HB.out (Nat.le_succ _)⟩
        · have e1 : (a == p) = false := by simp [he]
          have HV : Hid ((p, 0, false) = x) := Lib.hid (by rw [← HX.out, callM, hr, hpb]; simp [he])
          clear HX hr hpb he
          skip
          have z := HQz.out _ hq
          have z0 := z.cell_at 0 rfl
          have z1 := z.cell_at 1 rfl
          have z2 := z.cell_at 2 rfl
          have f0 := z.frozen 0
          have f1 := z.frozen 1
          have f2 := z.frozen 2
          have HF := Lib.hid z
          have HB := Lib.hid (HQb.out _ hq)
          clear z hq
          go_wp2_with fail

          exact bodyPost_ret (res_mc rfl _ rfl (over_mc HF.out)) rfl ⟨by rw [← HV.out], below_mc HB.out (Nat.le_succ _)⟩
set_option maxRecDepth 100000 in
set_option maxHeartbeats 8000000 in
theorem callR_B (a b : Int) (f : Bool) (p : Int) (w : World) {x : Int × Int × Bool} (hx : callM a b f p = x) : Calls Try.prog 16 #[mcV a b f, .int .i64 p] w fun e w' => e = .returned (mcV x.1 x.2.1 x.2.2) ∧ Below w.heap.size w w' := by
  obtain ⟨Q, HQ, HQb, HQm, HQz, hq⟩ := keep_mc2 w a b f
  obtain ⟨r, hr⟩ : ∃ r, rightM a b f = r := ⟨_, rfl⟩
  have KR := Lib.hid fun W => rightR_B a b f W hr
  have HX := Lib.hid hx
  clear hx
  have m := HQm.out _ hq
  have m0 := m.cell_at 0 rfl
  have m1 := m.cell_at 1 rfl
  have m2 := m.cell_at 2 rfl
  clear m
  go_enter Try.func16, Try.ntmps16
  go_wp2_with fail
  refine (KR.out _).mono ?_
  clear KR m0 m1 m2
  rintro e w1 ⟨rfl, hB⟩
  replace hq := HQ.out _ _ hq hB
  clear hB
  cases r
  · have HV : Hid ((-1, 0, false) = x) := Lib.hid (by rw [← HX.out, callM, hr]; rfl)
    clear HX hr
    go_wp2_with fail
    refine (restR_B _).mono ?_
    skip
    rintro e w2 ⟨rfl, hB⟩
    replace hq := HQ.out _ _ hq hB
    clear hB
    have z := HQz.out _ hq
    have z0 := z.cell_at 0 rfl
    have z1 := z.cell_at 1 rfl
    have z2 := z.cell_at 2 rfl
    have f0 := z.frozen 0
    have f1 := z.frozen 1
    have f2 := z.frozen 2
    have HF := Lib.hid z
    have HB := Lib.hid (HQb.out _ hq)
    clear z hq
    go_wp2_with fail

    exact bodyPost_ret (res_mc rfl _ rfl (over_mc HF.out)) rfl ⟨by rw [← HV.out], below_mc HB.out (Nat.le_succ _)⟩
  · obtain ⟨pb, hpb⟩ : ∃ q, posB p = q := ⟨_, rfl⟩
    cases pb
    · have HV : Hid ((-1, 0, false) = x) := Lib.hid (by rw [← HX.out, callM, hr, hpb]; rfl)
      obtain ⟨d0, d1⟩ : (p != 0) = true ∧ (p != 1) = true := by have h := posB_no.1 hpb; simp [h.1, h.2]
      clear HX hr hpb
      go_wp2_with fail
      refine (restR_B _).mono ?_
      skip
      rintro e w2 ⟨rfl, hB⟩
      replace hq := HQ.out _ _ hq hB
      clear hB
      have z := HQz.out _ hq
      have z0 := z.cell_at 0 rfl
      have z1 := z.cell_at 1 rfl
      have z2 := z.cell_at 2 rfl
      have f0 := z.frozen 0
      have f1 := z.frozen 1
      have f2 := z.frozen 2
      have HF := Lib.hid z
      have HB := Lib.hid (HQb.out _ hq)
      clear z hq
      go_wp2_with fail

      exact bodyPost_ret (res_mc rfl _ rfl (over_mc HF.out)) rfl ⟨by rw [← HV.out], below_mc HB.out (Nat.le_succ _)⟩
    · rcases (show (p != 0) = false ∨ ((p != 0) = true ∧ (p != 1) = false) by rcases posB_iff.1 hpb with rfl | rfl <;> simp) with d0 | ⟨d0, d1⟩
      all_goals
        have m := HQm.out _ hq
        have m0 := m.cell_at 0 rfl
        have m1 := m.cell_at 1 rfl
        have m2 := m.cell_at 2 rfl
        clear m
        by_cases he : a = p
        · have e1 : (a == p) = true := by simp [he]
          cases hf : f
          · have HV : Hid ((a, b, f) = x) := Lib.hid (by rw [← HX.out, callM, hr, hpb]; simp [he, hf])
            subst hf
            clear HX hr hpb he
            skip
            have z := HQz.out _ hq
            have z0 := z.cell_at 0 rfl
            have z1 := z.cell_at 1 rfl
            have z2 := z.cell_at 2 rfl
            have f0 := z.frozen 0
            have f1 := z.frozen 1
            have f2 := z.frozen 2
            have HF := Lib.hid z
            have HB := Lib.hid (HQb.out _ hq)
            clear z hq
            go_wp2_with fail

            exact bodyPost_ret (res_mc rfl _ rfl (over_mc HF.out)) rfl ⟨by rw [← HV.out], below_mc HB.out (Nat.le_succ _)⟩
          · have HV : Hid ((p, 0, false) = x) := Lib.hid (by rw [← HX.out, callM, hr, hpb]; simp [hf])
            subst hf
            clear HX hr hpb he
            skip
            have z := HQz.out _ hq
            have z0 := z.cell_at 0 rfl
            have z1 := z.cell_at 1 rfl
            have z2 := z.cell_at 2 rfl
            have f0 := z.frozen 0
            have f1 := z.frozen 1
            have f2 := z.frozen 2
            have HF := Lib.hid z
            have HB := Lib.hid (HQb.out _ hq)
            clear z hq
            go_wp2_with fail

            exact bodyPost_ret (res_mc rfl _ rfl (over_mc HF.out)) rfl ⟨by rw [← HV.out], below_mc HB.out (Nat.le_succ _)⟩
        · have e1 : (a == p) = false := by simp [he]
          have HV : Hid ((p, 0, false) = x) := Lib.hid (by rw [← HX.out, callM, hr, hpb]; simp [he])
          clear HX hr hpb he
          skip
          have z := HQz.out _ hq
          have z0 := z.cell_at 0 rfl
          have z1 := z.cell_at 1 rfl
          have z2 := z.cell_at 2 rfl
          have f0 := z.frozen 0
          have f1 := z.frozen 1
          have f2 := z.frozen 2
          have HF := Lib.hid z
          have HB := Lib.hid (HQb.out _ hq)
          clear z hq
          go_wp2_with fail

          exact bodyPost_ret (res_mc rfl _ rfl (over_mc HF.out)) rfl ⟨by rw [← HV.out], below_mc HB.out (Nat.le_succ _)⟩
/-- Where it drives to. -/
def drivesM (a b : Int) (f : Bool) (at' : Int) (o k : Bool) : Int := if rightM a b f && !(a == at') && !f && !o && !k then a else -1
theorem drives_no {a b at' : Int} {f o k : Bool} (h : rightM a b f = false ∨ (a == at') = true ∨ f = true ∨ o = true ∨ k = true) : drivesM a b f at' o k = -1 := by
  unfold drivesM
  rw [if_neg]
  rcases h with h | h | h | h | h <;> simp [h]
theorem drives_yes {a b at' : Int} (h : rightM a b false = true) (h1 : (a == at') = false) : drivesM a b false at' false false = a := by
  unfold drivesM
  rw [h, h1]
  rfl
set_option maxRecDepth 100000 in
set_option maxHeartbeats 8000000 in
theorem drives_B (a b : Int) (f : Bool) (at' : Int) (o k : Bool) (w : World) {x : Int} (hx : drivesM a b f at' o k = x) : Calls Try.prog 17 #[mcV a b f, .int .i64 at', .bool o, .bool k] w fun e w' => e = .returned (.int .i64 x) ∧ Below w.heap.size w w' := by
  obtain ⟨Q, HQ, HQb, HQm, hq⟩ := keep_mc (Closed.below w) (Below.refl _ w) 23 (mcC a b f)
  obtain ⟨r, hr⟩ : ∃ r, rightM a b f = r := ⟨_, rfl⟩
  have KR := Lib.hid fun W => right_B a b f W hr
  have m := HQm.out _ hq
  have m0 := m.cell_at 0 rfl
  have m1 := m.cell_at 1 rfl
  have m2 := m.cell_at 2 rfl
  clear m
  go_enter Try.func17, Try.ntmps17
  go_wp2_with fail
  refine wp_scope_fwd (l := 0) rfl ?_
  go_wp2_with fail
  refine (KR.out _).mono ?_
  clear KR m0 m1 m2
  rintro e w1 ⟨rfl, hB⟩
  replace hq := HQ.out _ _ hq hB
  clear hB
  cases r
  · have HV : Hid (x = -1) := Lib.hid (hx.symm.trans (drives_no (.inl hr)))
    clear hx hr
    have HB := Lib.hid (HQb.out _ hq)
    go_wp2_with fail
    go_step3
    simp +zetaDelta only [Exit.inBlock, Exit.then, fwd_goto]
    refine ⟨trivial, ?_⟩
    go_wp2_with fail
    rw [Exit.noGoto_ret]
    go_ret
    exact ⟨by rw [HV.out]; rfl, HB.out⟩
  · have m := HQm.out _ hq
    have m0 := m.cell_at 0 rfl
    have m1 := m.cell_at 1 rfl
    have m2 := m.cell_at 2 rfl
    have HB := Lib.hid (HQb.out _ hq)
    clear m
    cases he : (a == at')
    · cases f
      · cases o
        · cases k
          · have HV : Hid (x = a) := Lib.hid (hx.symm.trans (drives_yes hr he))
            clear hx hr
            go_wp2_with fail
            rw [fwd_ret]
            go_ret
            exact ⟨by rw [HV.out]; rfl, HB.out⟩
          · have HV : Hid (x = -1) := Lib.hid (hx.symm.trans (drives_no (.inr (.inr (.inr (.inr rfl))))))
            clear hx hr
            go_wp2_with fail
            go_step3
            simp +zetaDelta only [Exit.inBlock, Exit.then, fwd_goto]
            refine ⟨trivial, ?_⟩
            go_wp2_with fail
            rw [Exit.noGoto_ret]
            go_ret
            exact ⟨by rw [HV.out]; rfl, HB.out⟩
        · have HV : Hid (x = -1) := Lib.hid (hx.symm.trans (drives_no (.inr (.inr (.inr (.inl rfl))))))
          clear hx hr
          go_wp2_with fail
          go_step3
          simp +zetaDelta only [Exit.inBlock, Exit.then, fwd_goto]
          refine ⟨trivial, ?_⟩
          go_wp2_with fail
          rw [Exit.noGoto_ret]
          go_ret
          exact ⟨by rw [HV.out]; rfl, HB.out⟩
      · have HV : Hid (x = -1) := Lib.hid (hx.symm.trans (drives_no (.inr (.inr (.inl rfl)))))
        clear hx hr
        go_wp2_with fail
        go_step3
        simp +zetaDelta only [Exit.inBlock, Exit.then, fwd_goto]
        refine ⟨trivial, ?_⟩
        go_wp2_with fail
        rw [Exit.noGoto_ret]
        go_ret
        exact ⟨by rw [HV.out]; rfl, HB.out⟩
    · have HV : Hid (x = -1) := Lib.hid (hx.symm.trans (drives_no (.inr (.inl he))))
      clear hx hr
      go_wp2_with fail
      go_step3
      simp +zetaDelta only [Exit.inBlock, Exit.then, fwd_goto]
      refine ⟨trivial, ?_⟩
      go_wp2_with fail
      rw [Exit.noGoto_ret]
      go_ret
      exact ⟨by rw [HV.out]; rfl, HB.out⟩
set_option maxRecDepth 100000 in
set_option maxHeartbeats 8000000 in
theorem drivesR_B (a b : Int) (f : Bool) (at' : Int) (o k : Bool) (w : World) {x : Int} (hx : drivesM a b f at' o k = x) : Calls Try.prog 18 #[mcV a b f, .int .i64 at', .bool o, .bool k] w fun e w' => e = .returned (.int .i64 x) ∧ Below w.heap.size w w' := by
  obtain ⟨Q, HQ, HQb, HQm, hq⟩ := keep_mc (Closed.below w) (Below.refl _ w) 23 (mcC a b f)
  obtain ⟨r, hr⟩ : ∃ r, rightM a b f = r := ⟨_, rfl⟩
  have KR := Lib.hid fun W => rightR_B a b f W hr
  have m := HQm.out _ hq
  have m0 := m.cell_at 0 rfl
  have m1 := m.cell_at 1 rfl
  have m2 := m.cell_at 2 rfl
  clear m
  go_enter Try.func18, Try.ntmps18
  go_wp2_with fail
  refine (KR.out _).mono ?_
  clear KR m0 m1 m2
  rintro e w1 ⟨rfl, hB⟩
  replace hq := HQ.out _ _ hq hB
  clear hB
  cases r
  · have HV : Hid (x = -1) := Lib.hid (hx.symm.trans (drives_no (.inl hr)))
    clear hx hr
    have HB := Lib.hid (HQb.out _ hq)
    go_wp2_with fail
    go_ret
    exact ⟨by rw [HV.out]; rfl, HB.out⟩
  · have m := HQm.out _ hq
    have m0 := m.cell_at 0 rfl
    have m1 := m.cell_at 1 rfl
    have m2 := m.cell_at 2 rfl
    have HB := Lib.hid (HQb.out _ hq)
    clear m
    cases he : (a == at')
    · cases f
      · cases o
        · cases k
          · have HV : Hid (x = a) := Lib.hid (hx.symm.trans (drives_yes hr he))
            have he2 : (at' == a) = false := by rw [beq_eq_false_iff_ne] at he ⊢; exact fun h => he h.symm
            clear hx hr
            go_wp2_with fail
            go_ret
            exact ⟨by rw [HV.out]; rfl, HB.out⟩
          · have HV : Hid (x = -1) := Lib.hid (hx.symm.trans (drives_no (.inr (.inr (.inr (.inr rfl))))))
            clear hx hr
            go_wp2_with fail
            go_ret
            exact ⟨by rw [HV.out]; rfl, HB.out⟩
        · have HV : Hid (x = -1) := Lib.hid (hx.symm.trans (drives_no (.inr (.inr (.inr (.inl rfl))))))
          clear hx hr
          go_wp2_with fail
          go_ret
          exact ⟨by rw [HV.out]; rfl, HB.out⟩
      · have HV : Hid (x = -1) := Lib.hid (hx.symm.trans (drives_no (.inr (.inr (.inl rfl)))))
        clear hx hr
        go_wp2_with fail
        go_ret
        exact ⟨by rw [HV.out]; rfl, HB.out⟩
    · have HV : Hid (x = -1) := Lib.hid (hx.symm.trans (drives_no (.inr (.inl he))))
      obtain rfl : a = at' := by simpa using he
      clear hx hr
      cases f <;> cases o <;> cases k
      all_goals
        go_wp2_with fail
        go_ret
        exact ⟨by rw [HV.out]; rfl, HB.out⟩

end Go.Proofs.Ytaeooldpmlakhaa
