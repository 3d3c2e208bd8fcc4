/- What is taken has just those bytes. -/
import Derived.Test.YtgpofgepffhcnaaFrameBack
import Derived.Deep.QuietTactic
import Derived.BigQuiet
namespace Go.Proofs.Ytgpofgepffhcnaa
open Go.RowKit Go.Shelf
set_option linter.unusedVariables false

theorem close_open {bs : List Int} (hb : ∀ z ∈ bs, IsByte z) (h : openE bs = 0) : closeB (openL bs) = bs := by
  rcases Nat.lt_or_ge bs.length 2 with hl | hl
  · rw [openE_short bs hl] at h; cases h
  · obtain ⟨l, z0, z1, rfl⟩ := last_two bs hl
    have hs : valB (bitsOf [z0, z1]) = sumB l := by
      by_cases hs : valB (bitsOf [z0, z1]) = sumB l
      · exact hs
      · rw [openE_wrong l z0 z1 hs] at h; cases h
    rw [openL_good l z0 z1 h]
    exact (closeB_eq l z0 z1 (hb _ (by simp)) (hb _ (by simp))).2 hs
theorem taken_bytes {bs : List Int} (hb : ∀ z ∈ bs, IsByte z) (h : takeE bs = 0) : rightF (takeK bs) (takeL bs).length = true ∧ closeB (bytesF (takeK bs) (takeQ bs) (takeL bs)) = bs := by
  have h0 := h
  unfold takeE at h
  split at h
  · cases h
  · rename_i hl
    split at h
    · rename_i ho
      split at h
      · rename_i hf
        obtain ⟨k, q, v, zs, hL⟩ := opened_three bs (by omega) ho
        unfold takeK takeQ takeL
        rw [if_pos h0, if_pos h0, if_pos h0]
        have hc := close_open hb ho
        rw [hL] at hf hc ⊢
        unfold formB at hf
        simp at hf
        refine ⟨hf.1, ?_⟩
        rw [← hc]
        congr 1
        show [k, q, (zs.length : Int)] ++ zs = k :: q :: v :: zs
        rw [hf.2]; rfl
      · cases h
    · cases h
theorem takeE_short {bs : List Int} (h : bs.length < 5) : takeE bs = 40 := by unfold takeE; rw [if_pos h]
theorem takeE_long {bs : List Int} (h : 5 ≤ bs.length) : takeE bs ≠ 40 := by
  unfold takeE
  rw [if_neg (by omega)]
  split
  · split <;> decide
  · decide
theorem takeK_byte {bs : List Int} (hb : ∀ z ∈ bs, IsByte z) : IsByte (takeK bs) := by
  unfold takeK; split
  · exact getD_byte (openL_byte hb) 0
  · exact ⟨by omega, by omega⟩
theorem takeQ_byte {bs : List Int} (hb : ∀ z ∈ bs, IsByte z) : IsByte (takeQ bs) := by
  unfold takeQ; split
  · exact getD_byte (openL_byte hb) 1
  · exact ⟨by omega, by omega⟩

/-- Take at bytes that are a frame's. -/
theorem take_is (A : Option Addr) (n c : Nat) (bs : List Int) (w : World) (hn : n = bs.length) (hx : takeE bs = 0) (hr : Row w w.heap.size A (u8s bs)) (hb : ∀ z ∈ bs, IsByte z) (hl : bs.length ≤ 549755813888) (hc : n ≤ c) :
    Calls Try.prog 11 #[.slice A n c] w fun e w' => ∃ A' c', e = .returned (.tuple #[.agg #[.int .u8 (takeK bs), .int .u8 (takeQ bs), .slice A' (takeL bs).length c'], .int .i64 0]) ∧ Row w' w'.heap.size A' (u8s (takeL bs)) ∧ Below w.heap.size w w' := by
  subst hn
  refine (take_any A c bs w hr hb hl hc).mono ?_
  rintro e w' ⟨A', c', rfl, hr', hB⟩
  rw [hx]
  exact ⟨A', c', rfl, hr', hB⟩
/-- Put at what was taken. -/
theorem put_taken (A : Option Addr) (c : Nat) (bs : List Int) (w : World) (hx : takeE bs = 0) (hb : ∀ z ∈ bs, IsByte z) (hr : Row w w.heap.size A (u8s (takeL bs))) :
    Calls Try.prog 9 #[.agg #[.int .u8 (takeK bs), .int .u8 (takeQ bs), .slice A (takeL bs).length c]] w fun e w' => ∃ A' c' n, e = .returned (.tuple #[.slice A' n c', .int .i64 0]) ∧ n = bs.length ∧ Row w' w'.heap.size A' (u8s bs) ∧ Below w.heap.size w w' := by
  obtain ⟨h1, h2⟩ := taken_bytes hb hx
  refine (put_yes _ _ A c (takeL bs) w hr (takeL_byte hb) (takeK_byte hb) (takeQ_byte hb) h1).mono ?_
  rintro e w' ⟨A', c', rfl, hr', _, hB⟩
  rw [h2] at hr'
  refine ⟨A', c', _, rfl, ?_, hr', hB⟩
  have := congrArg List.length h2
  rw [closeB_length, bytesF_length] at this
  omega

set_option maxRecDepth 100000 in
set_option maxHeartbeats 2000000 in
theorem only_few (A : Option Addr) (cap : Nat) (bs : List Int) (w : World) (hr : Row w w.heap.size A (u8s bs)) (hb : ∀ z ∈ bs, IsByte z) (hl : bs.length < 3) (hc : bs.length ≤ cap) :
    Calls Try.prog 5 #[.slice A bs.length cap] w fun e w' => e = .returned (.bool true) ∧ Below w.heap.size w w' := by
  have HE := Lib.hid (takeE_short (bs := bs) (by omega))
  have HE2 := Lib.hid (takeE_short (bs := closeB bs) (by rw [closeB_length]; omega))
  have HC := Lib.hid hc
  have HLC := Lib.hid (closeB_length bs)
  have HL := Lib.hid (show bs.length ≤ 549755813888 by omega)
  have c1 : (bs.length : Int) < 3 := by omega
  clear hl hc
  go_enter Try.func5, Try.ntmps5
  go_wp2_with fail
  refine (wk_takeN A _ cap bs 40 _ rfl HE.out (by decide) hr hb HL.out HC.out).mono ?_
  rintro e w1 ⟨Af, cf, rfl, hB⟩
  have S1 := hB
  clear hB
  go_wp2_with fail
  refine (closeR_n A cap _ bs _ rfl (by exact (hr.on S1).on (below1 _ _)) hb HL.out).mono ?_
  rintro e w2 ⟨Ac, cc, rfl, RC, CC, hB⟩
  have hF := (Whole.new w1 24 [.int .u8 0, .int .u8 0, .slice Af 0 cf]).below hB (by simp)
  have S2 := S1.trans ((on1 hB).mono S1.size)
  clear hB S1
  go_wp2_with fail
  refine (wk_takeN Ac _ cc (closeB bs) 40 _ HLC.out.symm HE2.out (by decide) RC (closeB_byte hb) (by rw [HLC.out]; have := HL.out; omega) CC).mono ?_
  rintro e w3 ⟨Ag, cg, rfl, hB⟩
  have hF := hF.below hB hF.lt
  have S3 := S2.trans (hB.mono S2.size)
  clear hB S2 RC CC
  have a0 := fun o => (hF.alloc o).cell_at 0 rfl
  have a1 := fun o => (hF.alloc o).cell_at 1 rfl
  have a2 := fun o => (hF.alloc o).cell_at 2 rfl
  go_wp2_with fail
  go_quiet (fail)
  go_wp2_with fail
  refine (wakes_any _).mono ?_
  rintro e w' ⟨rfl, hB⟩
  go_wp2_with fail
  go_ret
  exact ⟨rfl, S3.trans (((below1 w3 _).trans ((below_drawn (Below.refl _ _) nq).trans hB |>.mono (by simp))).mono S3.size)⟩


set_option maxRecDepth 100000 in
set_option maxHeartbeats 2000000 in
theorem only_yes (b off cap : Nat) (b0 b1 : Int) (zs : List Int) (w : World) (bs : List Int) (hbs : bytesF b0 b1 zs = bs) (hr : Row w w.heap.size (some ⟨b, off, none⟩) (u8s bs)) (hb : ∀ z ∈ bs, IsByte z) (hl : zs.length ≤ 97) (hc : zs.length + 3 ≤ cap) (h : rightF b0 zs.length = true) :
    Calls Try.prog 5 #[.slice (some ⟨b, off, none⟩) (zs.length + 3) cap] w fun e w' => e = .returned (.bool true) ∧ Below w.heap.size w w' := by
  have hn : zs.length + 3 = bs.length := by rw [← hbs]; rw [bytesF_length]
  have hk : IsByte b0 := hb b0 (by rw [← hbs]; simp [bytesF])
  have hq : IsByte b1 := hb b1 (by rw [← hbs]; simp [bytesF])
  have HZ := Lib.hid (show ∀ z ∈ zs, IsByte z from fun z hz => hb z (by rw [← hbs]; simp [bytesF, hz]))
  have HR := Lib.hid h
  have hl59 : (zs.length : Int) ≤ 59 := by have := rightF_le h; omega
  have hk1 : 1 ≤ b0 ∧ b0 ≤ 3 := by unfold rightF knownK at h; simp at h; omega
  obtain ⟨hk1, hk3⟩ := hk1
  have HN := Lib.hid hn
  have HB := Lib.hid hb
  have HK := Lib.hid hk
  have HQ := Lib.hid hq
  have HL := Lib.hid (show bs.length ≤ 549755813888 by omega)
  have HC := Lib.hid hc
  have HBS := Lib.hid hbs
  have i0 : (0 : Int) < (zs.length : Int) + 3 := by omega
  have i1 : (1 : Int) < (zs.length : Int) + 3 := by omega
  have i2 : (2 : Int) < (zs.length : Int) + 3 := by omega
  have i3 : (3 : Int) ≤ (zs.length : Int) + 3 := by omega
  have hl97 : (zs.length : Int) ≤ 97 := by omega
  rcases Nat.lt_or_ge bs.length 5 with h5 | h5
  · have HE := Lib.hid (takeE_short h5)
    have HX0 := Lib.hid (show (40 : Int) ≠ 0 by decide)
    have h5' : (zs.length : Int) + 3 < 5 := by omega
    clear h hn hb hk hq hbs h5 hc
    go_enter Try.func5, Try.ntmps5
    go_wp2_with fail
    refine (wk_takeN _ _ cap _ 40 _ HN.out HE.out HX0.out hr HB.out HL.out HC.out).mono ?_
    rintro e w1 ⟨Af, cf, rfl, hB⟩
    have S1 := hB
    clear hB
    go_wp2_with fail
    refine (closeR_n _ cap _ bs _ HN.out (by exact (hr.on S1).on (below1 _ _)) HB.out HL.out).mono ?_
    rintro e w2 ⟨Ac, cc, rfl, RC, CC, hB⟩
    have hF := (Whole.new w1 24 [.int .u8 0, .int .u8 0, .slice Af 0 cf]).below hB (by simp)
    have S2 := S1.trans ((on1 hB).mono S1.size)
    clear hB S1
    go_wp2_with fail
    rw [← HBS.out] at RC
    refine (take_put b0 b1 Ac cc _ zs _ rfl HK.out HQ.out HZ.out HR.out RC CC).mono ?_
    rintro e w3 ⟨Ag, cg, rfl, RG, hB⟩
    have hF := hF.below hB hF.lt
    have S3 := S2.trans (hB.mono S2.size)
    clear hB S2 RC CC
    obtain ⟨b', off', eb, hbl, hcell⟩ := (hr.on S3) (by rw [u8s_length, ← HN.out]; omega)
    cases eb
    have y0 : ∀ o, (w3.alloc o).cell? ⟨b, off, none⟩ = some (.int .u8 b0) := fun o => ((below1 w3 o).cell (p := ⟨b, off, none⟩) hbl).trans (hcell 0 _ (by rw [← HBS.out]; rfl))
    have y1 : ∀ o, (w3.alloc o).cell? ⟨b, off + 1, none⟩ = some (.int .u8 b1) := fun o => ((below1 w3 o).cell (p := ⟨b, off + 1, none⟩) hbl).trans (hcell 1 _ (by rw [← HBS.out]; rfl))
    have y2 : ∀ o, (w3.alloc o).cell? ⟨b, off + 2, none⟩ = some (.int .u8 (zs.length : Int)) := fun o => ((below1 w3 o).cell (p := ⟨b, off + 2, none⟩) hbl).trans (hcell 2 _ (by rw [← HBS.out]; rfl))
    have f0 := fun o => (hF.alloc o).cell_at 0 rfl
    have f1 := fun o => (hF.alloc o).cell_at 1 rfl
    have f2 := fun o => (hF.alloc o).cell_at 2 rfl
    clear hcell
    go_upto_region 5 with (fail)
    go_cut [7] from 25 to 55 (fun r wx => r = .bool true ∧ wx = w3.alloc (.cells #[.int .u8 b0, .int .u8 b1, .slice Ag zs.length cg] 24))
    case first =>
      have e1 : IntKind.i64.wrap (zs.length : Int) = (zs.length : Int) := IntWalk.i64_in _ (by omega)
      have e2 : ((zs.length : Int) == (zs.length : Int)) = true := by simp
      go_wp2_with fail
      go_meet
      case rel => exact ⟨by first | rfl | (simp; done) | (simp; omega), rfl⟩
    case rest =>
      obtain ⟨rfl, rfl⟩ := hcut
      obtain ⟨W4, hW4, hF4, hG4, S4, R4, RG4⟩ : ∃ W4, w3.alloc (.cells #[.int .u8 b0, .int .u8 b1, .slice Ag zs.length cg] 24) = W4 ∧ Whole W4 w1.heap.size 24 [.int .u8 0, .int .u8 0, .slice Af 0 cf] ∧ Whole W4 w3.heap.size 24 [.int .u8 b0, .int .u8 b1, .slice Ag zs.length cg] ∧ Below w.heap.size w W4 ∧ Row W4 W4.heap.size (some ⟨b, off, none⟩) (u8s bs) ∧ Row W4 W4.heap.size Ag (u8s zs) :=
        ⟨_, rfl, hF.alloc _, Whole.new w3 _ [_, _, _], S3.alloc S3.size _, hr.on (S3.alloc S3.size _), RG.on (below1 _ _)⟩
      rw [hW4]
      have y0 : W4.cell? ⟨b, off, none⟩ = some (.int .u8 b0) := by rw [← hW4]; exact y0 _
      have y1 : W4.cell? ⟨b, off + 1, none⟩ = some (.int .u8 b1) := by rw [← hW4]; exact y1 _
      have y2 : W4.cell? ⟨b, off + 2, none⟩ = some (.int .u8 (zs.length : Int)) := by rw [← hW4]; exact y2 _
      clear hW4 hF S3 f0 f1 f2 RG
      have f0 := hF4.cell_at 0 rfl
      have f1 := hF4.cell_at 1 rfl
      have f2 := hF4.cell_at 2 rfl
      have g0 := hG4.cell_at 0 rfl
      have g1 := hG4.cell_at 1 rfl
      have g2 := hG4.cell_at 2 rfl
      go_upto_region 8 with (fail)
      have R43 : Row W4 W4.heap.size (some ⟨b, off + 3, none⟩) (u8s zs) := by
        have h := R4.drop 3
        rw [← HBS.out] at h
        exact h
      rcases (by omega : cap = 3 ∨ ¬ cap = 3) with rfl | hc3
      all_goals
        go_quiet ((go_at_call 13; refine Calls.quiet_of_same ((same_val true Ag _ cg _ _ _ zs zs _ (by omega) (by omega) (RG4.on (below_drawn (Below.refl _ W4) _)) (by first | exact row_none (by have := HC.out; omega) | exact R43.on (below_drawn (Below.refl _ W4) _)) HZ.out HZ.out (sameB_refl _)).mono fun e w' hh => ⟨hh.1, hh.2.symm⟩)))
        go_wp2_with fail
        refine (wakes_any _).mono ?_
        rintro e w' ⟨rfl, hB⟩
        go_wp2_with fail
        go_ret
        first
          | exact ⟨rfl, S4.trans (((below_drawn (Below.refl W4.heap.size W4) nq).trans hB).mono S4.size)⟩
          | exact ⟨ret_bool (by simp; omega), S4.trans (((below_drawn (Below.refl W4.heap.size W4) nq).trans hB).mono S4.size)⟩
  by_cases hx0 : takeE bs = 0
  · have HE := Lib.hid hx0
    have h5' : (5 : Int) ≤ (zs.length : Int) + 3 := by omega
    clear h hn hb hk hq hbs h5 hx0 hc
    go_enter Try.func5, Try.ntmps5
    go_wp2_with fail
    refine (take_is _ _ cap _ _ HN.out HE.out hr HB.out HL.out HC.out).mono ?_
    rintro e w1 ⟨Af, cf, rfl, RT, hB⟩
    have S1 := hB
    clear hB
    go_wp2_with fail
    refine (closeR_n _ cap _ bs _ HN.out (by exact (hr.on S1).on (below1 _ _)) HB.out HL.out).mono ?_
    rintro e w2 ⟨Ac, cc, rfl, RC, CC, hB⟩
    have hF := (Whole.new w1 24 [.int .u8 (takeK bs), .int .u8 (takeQ bs), .slice Af (takeL bs).length cf]).below hB (by simp)
    have S2 := S1.trans ((on1 hB).mono S1.size)
    have RT := RT.on (on1 hB)
    clear hB S1
    go_wp2_with fail
    rw [← HBS.out] at RC
    refine (take_put b0 b1 Ac cc _ zs _ rfl HK.out HQ.out HZ.out HR.out RC CC).mono ?_
    rintro e w3 ⟨Ag, cg, rfl, RG, hB⟩
    have hF := hF.below hB hF.lt
    have S3 := S2.trans (hB.mono S2.size)
    have RT := RT.on hB
    clear hB S2 RC CC
    obtain ⟨b', off', eb, hbl, hcell⟩ := (hr.on S3) (by rw [u8s_length, ← HN.out]; omega)
    cases eb
    have y0 : ∀ o, (w3.alloc o).cell? ⟨b, off, none⟩ = some (.int .u8 b0) := fun o => ((below1 w3 o).cell (p := ⟨b, off, none⟩) hbl).trans (hcell 0 _ (by rw [← HBS.out]; rfl))
    have y1 : ∀ o, (w3.alloc o).cell? ⟨b, off + 1, none⟩ = some (.int .u8 b1) := fun o => ((below1 w3 o).cell (p := ⟨b, off + 1, none⟩) hbl).trans (hcell 1 _ (by rw [← HBS.out]; rfl))
    have y2 : ∀ o, (w3.alloc o).cell? ⟨b, off + 2, none⟩ = some (.int .u8 (zs.length : Int)) := fun o => ((below1 w3 o).cell (p := ⟨b, off + 2, none⟩) hbl).trans (hcell 2 _ (by rw [← HBS.out]; rfl))
    have f0 := fun o => (hF.alloc o).cell_at 0 rfl
    have f1 := fun o => (hF.alloc o).cell_at 1 rfl
    have f2 := fun o => (hF.alloc o).cell_at 2 rfl
    clear hcell
    go_upto_region 5 with (fail)
    go_cut [7] from 25 to 55 (fun r wx => r = .bool true ∧ wx = w3.alloc (.cells #[.int .u8 b0, .int .u8 b1, .slice Ag zs.length cg] 24))
    case first =>
      have e1 : IntKind.i64.wrap (zs.length : Int) = (zs.length : Int) := IntWalk.i64_in _ (by omega)
      have e2 : ((zs.length : Int) == (zs.length : Int)) = true := by simp
      go_wp2_with fail
      go_meet
      case rel => exact ⟨by first | rfl | (simp; done) | (simp; omega), rfl⟩
    case rest =>
      obtain ⟨rfl, rfl⟩ := hcut
      obtain ⟨W4, hW4, hF4, hG4, S4, R4, RT4, RG4⟩ : ∃ W4, w3.alloc (.cells #[.int .u8 b0, .int .u8 b1, .slice Ag zs.length cg] 24) = W4 ∧ Whole W4 w1.heap.size 24 [.int .u8 (takeK bs), .int .u8 (takeQ bs), .slice Af (takeL bs).length cf] ∧ Whole W4 w3.heap.size 24 [.int .u8 b0, .int .u8 b1, .slice Ag zs.length cg] ∧ Below w.heap.size w W4 ∧ Row W4 W4.heap.size (some ⟨b, off, none⟩) (u8s bs) ∧ Row W4 W4.heap.size Af (u8s (takeL bs)) ∧ Row W4 W4.heap.size Ag (u8s zs) :=
        ⟨_, rfl, hF.alloc _, Whole.new w3 _ [_, _, _], S3.alloc S3.size _, hr.on (S3.alloc S3.size _), RT.on (below1 _ _), RG.on (below1 _ _)⟩
      rw [hW4]
      have y0 : W4.cell? ⟨b, off, none⟩ = some (.int .u8 b0) := by rw [← hW4]; exact y0 _
      have y1 : W4.cell? ⟨b, off + 1, none⟩ = some (.int .u8 b1) := by rw [← hW4]; exact y1 _
      have y2 : W4.cell? ⟨b, off + 2, none⟩ = some (.int .u8 (zs.length : Int)) := by rw [← hW4]; exact y2 _
      clear hW4 hF S3 f0 f1 f2 RT RG
      have f0 := hF4.cell_at 0 rfl
      have f1 := hF4.cell_at 1 rfl
      have f2 := hF4.cell_at 2 rfl
      have g0 := hG4.cell_at 0 rfl
      have g1 := hG4.cell_at 1 rfl
      have g2 := hG4.cell_at 2 rfl
      go_upto_region 8 with (fail)
      have R43 : Row W4 W4.heap.size (some ⟨b, off + 3, none⟩) (u8s zs) := by
        have h := R4.drop 3
        rw [← HBS.out] at h
        exact h
      rcases (by omega : cap = 3 ∨ ¬ cap = 3) with rfl | hc3
      all_goals
        go_quiet ((go_at_call 13; refine Calls.quiet_of_same ((same_val true Ag _ cg _ _ _ zs zs _ (by omega) (by omega) (RG4.on (below_drawn (Below.refl _ W4) _)) (by first | exact row_none (by have := HC.out; omega) | exact R43.on (below_drawn (Below.refl _ W4) _)) HZ.out HZ.out (sameB_refl _)).mono fun e w' hh => ⟨hh.1, hh.2.symm⟩)))
        go_wp2_with fail
        refine (put_taken Af cf bs _ HE.out HB.out (RT4.on (below_drawn (Below.refl W4.heap.size W4) nq))).mono ?_
        rintro e w5 ⟨Ao, co, no, rfl, hno, RO, hB5⟩
        have hB6 : Below W4.heap.size W4 w5 := (below_drawn (Below.refl W4.heap.size W4) nq).trans hB5
        have HNO := Lib.hid hno
        clear hno
        go_wp2_with fail
        refine (same_val true Ao _ co _ no _ bs bs _ HNO.out HN.out RO (R4.on hB6) HB.out HB.out (sameB_refl _)).mono ?_
        rintro e w6 ⟨rfl, rfl⟩
        go_wp2_with fail
        refine (wakes_any _).mono ?_
        rintro e w' ⟨rfl, hB⟩
        go_wp2_with fail
        go_ret
        exact ⟨rfl, S4.trans ((hB6.trans (hB.mono hB6.size)).mono S4.size)⟩
  · obtain ⟨x, hx⟩ : ∃ x, takeE bs = x := ⟨_, rfl⟩
    rw [hx] at hx0
    have hx40 : x ≠ 40 := by rw [← hx]; exact takeE_long h5
    have HE := Lib.hid hx
    have HX0 := Lib.hid hx0
    have t0 : (x == 0) = false := by simpa using hx0
    have t1 : (x != 0) = true := by simpa using hx0
    have t2 : (x == 40) = false := by simpa using hx40
    have h5' : (5 : Int) ≤ (zs.length : Int) + 3 := by omega
    clear h hn hb hk hq hbs h5 hx hx0 hx40 hc
    go_enter Try.func5, Try.ntmps5
    go_wp2_with fail
    refine (wk_takeN _ _ cap _ x _ HN.out HE.out HX0.out hr HB.out HL.out HC.out).mono ?_
    rintro e w1 ⟨Af, cf, rfl, hB⟩
    have S1 := hB
    clear hB
    go_wp2_with fail
    refine (closeR_n _ cap _ bs _ HN.out (by exact (hr.on S1).on (below1 _ _)) HB.out HL.out).mono ?_
    rintro e w2 ⟨Ac, cc, rfl, RC, CC, hB⟩
    have hF := (Whole.new w1 24 [.int .u8 0, .int .u8 0, .slice Af 0 cf]).below hB (by simp)
    have S2 := S1.trans ((on1 hB).mono S1.size)
    clear hB S1
    go_wp2_with fail
    rw [← HBS.out] at RC
    refine (take_put b0 b1 Ac cc _ zs _ rfl HK.out HQ.out HZ.out HR.out RC CC).mono ?_
    rintro e w3 ⟨Ag, cg, rfl, RG, hB⟩
    have hF := hF.below hB hF.lt
    have S3 := S2.trans (hB.mono S2.size)
    clear hB S2 RC CC
    obtain ⟨b', off', eb, hbl, hcell⟩ := (hr.on S3) (by rw [u8s_length, ← HN.out]; omega)
    cases eb
    have y0 : ∀ o, (w3.alloc o).cell? ⟨b, off, none⟩ = some (.int .u8 b0) := fun o => ((below1 w3 o).cell (p := ⟨b, off, none⟩) hbl).trans (hcell 0 _ (by rw [← HBS.out]; rfl))
    have y1 : ∀ o, (w3.alloc o).cell? ⟨b, off + 1, none⟩ = some (.int .u8 b1) := fun o => ((below1 w3 o).cell (p := ⟨b, off + 1, none⟩) hbl).trans (hcell 1 _ (by rw [← HBS.out]; rfl))
    have y2 : ∀ o, (w3.alloc o).cell? ⟨b, off + 2, none⟩ = some (.int .u8 (zs.length : Int)) := fun o => ((below1 w3 o).cell (p := ⟨b, off + 2, none⟩) hbl).trans (hcell 2 _ (by rw [← HBS.out]; rfl))
    have f0 := fun o => (hF.alloc o).cell_at 0 rfl
    have f1 := fun o => (hF.alloc o).cell_at 1 rfl
    have f2 := fun o => (hF.alloc o).cell_at 2 rfl
    clear hcell
    go_upto_region 5 with (fail)
    go_cut [7] from 25 to 55 (fun r wx => r = .bool true ∧ wx = w3.alloc (.cells #[.int .u8 b0, .int .u8 b1, .slice Ag zs.length cg] 24))
    case first =>
      have e1 : IntKind.i64.wrap (zs.length : Int) = (zs.length : Int) := IntWalk.i64_in _ (by omega)
      have e2 : ((zs.length : Int) == (zs.length : Int)) = true := by simp
      go_wp2_with fail
      go_meet
      case rel => exact ⟨by first | rfl | (simp; done) | (simp; omega), rfl⟩
    case rest =>
      obtain ⟨rfl, rfl⟩ := hcut
      obtain ⟨W4, hW4, hF4, hG4, S4, R4, RG4⟩ : ∃ W4, w3.alloc (.cells #[.int .u8 b0, .int .u8 b1, .slice Ag zs.length cg] 24) = W4 ∧ Whole W4 w1.heap.size 24 [.int .u8 0, .int .u8 0, .slice Af 0 cf] ∧ Whole W4 w3.heap.size 24 [.int .u8 b0, .int .u8 b1, .slice Ag zs.length cg] ∧ Below w.heap.size w W4 ∧ Row W4 W4.heap.size (some ⟨b, off, none⟩) (u8s bs) ∧ Row W4 W4.heap.size Ag (u8s zs) :=
        ⟨_, rfl, hF.alloc _, Whole.new w3 _ [_, _, _], S3.alloc S3.size _, hr.on (S3.alloc S3.size _), RG.on (below1 _ _)⟩
      rw [hW4]
      have y0 : W4.cell? ⟨b, off, none⟩ = some (.int .u8 b0) := by rw [← hW4]; exact y0 _
      have y1 : W4.cell? ⟨b, off + 1, none⟩ = some (.int .u8 b1) := by rw [← hW4]; exact y1 _
      have y2 : W4.cell? ⟨b, off + 2, none⟩ = some (.int .u8 (zs.length : Int)) := by rw [← hW4]; exact y2 _
      clear hW4 hF S3 f0 f1 f2 RG
      have f0 := hF4.cell_at 0 rfl
      have f1 := hF4.cell_at 1 rfl
      have f2 := hF4.cell_at 2 rfl
      have g0 := hG4.cell_at 0 rfl
      have g1 := hG4.cell_at 1 rfl
      have g2 := hG4.cell_at 2 rfl
      go_upto_region 8 with (fail)
      have R43 : Row W4 W4.heap.size (some ⟨b, off + 3, none⟩) (u8s zs) := by
        have h := R4.drop 3
        rw [← HBS.out] at h
        exact h
      rcases (by omega : cap = 3 ∨ ¬ cap = 3) with rfl | hc3
      all_goals
        go_quiet ((go_at_call 13; refine Calls.quiet_of_same ((same_val true Ag _ cg _ _ _ zs zs _ (by omega) (by omega) (RG4.on (below_drawn (Below.refl _ W4) _)) (by first | exact row_none (by have := HC.out; omega) | exact R43.on (below_drawn (Below.refl _ W4) _)) HZ.out HZ.out (sameB_refl _)).mono fun e w' hh => ⟨hh.1, hh.2.symm⟩)))
        go_wp2_with fail
        refine (wakes_any _).mono ?_
        rintro e w' ⟨rfl, hB⟩
        go_wp2_with fail
        go_ret
        first
          | exact ⟨rfl, S4.trans (((below_drawn (Below.refl W4.heap.size W4) nq).trans hB).mono S4.size)⟩
          | exact ⟨ret_bool (by simp; omega), S4.trans (((below_drawn (Below.refl W4.heap.size W4) nq).trans hB).mono S4.size)⟩


set_option maxRecDepth 100000 in
set_option maxHeartbeats 2000000 in
theorem only_no (b off cap : Nat) (b0 b1 b2 : Int) (zs : List Int) (w : World) (bs : List Int) (hbs : b0 :: b1 :: b2 :: zs = bs) (hr : Row w w.heap.size (some ⟨b, off, none⟩) (u8s bs)) (hb : ∀ z ∈ bs, IsByte z) (hl : zs.length ≤ 97) (hc : zs.length + 3 ≤ cap) (h : rightF b0 zs.length = false ∨ ¬ (zs.length : Int) = b2) :
    Calls Try.prog 5 #[.slice (some ⟨b, off, none⟩) (zs.length + 3) cap] w fun e w' => e = .returned (.bool true) ∧ Below w.heap.size w w' := by
  have hn : zs.length + 3 = bs.length := by rw [← hbs]; rfl
  have hk : IsByte b0 := hb b0 (by rw [← hbs]; simp)
  have hq : IsByte b1 := hb b1 (by rw [← hbs]; simp)
  have HE2 := Lib.hid (takeE_form (openE_closed bs) (by rw [closeB_length]; omega) ((openL_closed bs).trans hbs.symm) h)
  have HR := Lib.hid h
  have HV := Lib.hid (hb b2 (by rw [← hbs]; simp))
  have HN := Lib.hid hn
  have HB := Lib.hid hb
  have HK := Lib.hid hk
  have HQ := Lib.hid hq
  have HL := Lib.hid (show bs.length ≤ 549755813888 by omega)
  have HC := Lib.hid hc
  have HBS := Lib.hid hbs
  have i0 : (0 : Int) < (zs.length : Int) + 3 := by omega
  have i1 : (1 : Int) < (zs.length : Int) + 3 := by omega
  have i2 : (2 : Int) < (zs.length : Int) + 3 := by omega
  have i3 : (3 : Int) ≤ (zs.length : Int) + 3 := by omega
  have hl97 : (zs.length : Int) ≤ 97 := by omega
  rcases Nat.lt_or_ge bs.length 5 with h5 | h5
  · have HE := Lib.hid (takeE_short h5)
    have HX0 := Lib.hid (show (40 : Int) ≠ 0 by decide)
    have h5' : (zs.length : Int) + 3 < 5 := by omega
    clear h hn hb hk hq hbs h5 hc
    go_enter Try.func5, Try.ntmps5
    go_wp2_with fail
    refine (wk_takeN _ _ cap _ 40 _ HN.out HE.out HX0.out hr HB.out HL.out HC.out).mono ?_
    rintro e w1 ⟨Af, cf, rfl, hB⟩
    have S1 := hB
    clear hB
    go_wp2_with fail
    refine (closeR_n _ cap _ bs _ HN.out (by exact (hr.on S1).on (below1 _ _)) HB.out HL.out).mono ?_
    rintro e w2 ⟨Ac, cc, rfl, RC, CC, hB⟩
    have hF := (Whole.new w1 24 [.int .u8 0, .int .u8 0, .slice Af 0 cf]).below hB (by simp)
    have S2 := S1.trans ((on1 hB).mono S1.size)
    clear hB S1
    go_wp2_with fail
    refine (wk_takeN Ac _ cc (closeB bs) 41 _ (by rw [closeB_length, ← HN.out]) HE2.out (by decide) RC (closeB_byte HB.out) (by rw [closeB_length]; have := HN.out; omega) CC).mono ?_
    rintro e w3 ⟨Ag, cg, rfl, hB⟩
    have hF := hF.below hB hF.lt
    have S3 := S2.trans (hB.mono S2.size)
    clear hB S2 RC CC
    obtain ⟨b', off', eb, hbl, hcell⟩ := (hr.on S3) (by rw [u8s_length, ← HN.out]; omega)
    cases eb
    have y0 : ∀ o, (w3.alloc o).cell? ⟨b, off, none⟩ = some (.int .u8 b0) := fun o => ((below1 w3 o).cell (p := ⟨b, off, none⟩) hbl).trans (hcell 0 _ (by rw [← HBS.out]; rfl))
    have y1 : ∀ o, (w3.alloc o).cell? ⟨b, off + 1, none⟩ = some (.int .u8 b1) := fun o => ((below1 w3 o).cell (p := ⟨b, off + 1, none⟩) hbl).trans (hcell 1 _ (by rw [← HBS.out]; rfl))
    have y2 : ∀ o, (w3.alloc o).cell? ⟨b, off + 2, none⟩ = some (.int .u8 b2) := fun o => ((below1 w3 o).cell (p := ⟨b, off + 2, none⟩) hbl).trans (hcell 2 _ (by rw [← HBS.out]; rfl))
    have f0 := fun o => (hF.alloc o).cell_at 0 rfl
    have f1 := fun o => (hF.alloc o).cell_at 1 rfl
    have f2 := fun o => (hF.alloc o).cell_at 2 rfl
    clear hcell
    go_upto_region 5 with (fail)
    go_cut [7] from 25 to 55 (fun r wx => r = .bool false ∧ wx = w3.alloc (.cells #[.int .u8 0, .int .u8 0, .slice Ag 0 cg] 24))
    case first =>
      obtain ⟨v0, v1⟩ := HV.out
      have hb0 := HK.out
      by_cases k1 : 1 ≤ b0
      · by_cases k3 : b0 ≤ 3
        · by_cases kv : (zs.length : Int) = b2
          · have k59 : ¬ (zs.length : Int) + 3 + 2 ≤ 64 := by
              rcases HR.out with h | h
              · unfold rightF knownK at h
                rw [decide_eq_true ⟨k1, k3⟩, Bool.true_and, decide_eq_false_iff_not] at h
                omega
              · exact absurd kv h
            subst kv
            go_wp2_with fail
            go_meet
            case rel => exact ⟨by first | rfl | (simp; done) | (simp; omega), rfl⟩
          · have kv' : (b2 == (zs.length : Int)) = false := by simp; exact fun h => kv h.symm
            go_wp2_with fail
            go_meet
            case rel => exact ⟨by first | rfl | (simp; done) | (simp; omega), rfl⟩
        · go_wp2_with fail
          go_meet
          case rel => exact ⟨by first | rfl | (simp; done) | (simp; omega), rfl⟩
      · go_wp2_with fail
        go_meet
        case rel => exact ⟨by first | rfl | (simp; done) | (simp; omega), rfl⟩
    case rest =>
      obtain ⟨rfl, rfl⟩ := hcut
      obtain ⟨W4, hW4, hF4, hG4, S4, R4⟩ : ∃ W4, w3.alloc (.cells #[.int .u8 0, .int .u8 0, .slice Ag 0 cg] 24) = W4 ∧ Whole W4 w1.heap.size 24 [.int .u8 0, .int .u8 0, .slice Af 0 cf] ∧ Whole W4 w3.heap.size 24 [.int .u8 0, .int .u8 0, .slice Ag 0 cg] ∧ Below w.heap.size w W4 ∧ Row W4 W4.heap.size (some ⟨b, off, none⟩) (u8s bs) :=
        ⟨_, rfl, hF.alloc _, Whole.new w3 _ [_, _, _], S3.alloc S3.size _, hr.on (S3.alloc S3.size _)⟩
      rw [hW4]
      have y0 : W4.cell? ⟨b, off, none⟩ = some (.int .u8 b0) := by rw [← hW4]; exact y0 _
      have y1 : W4.cell? ⟨b, off + 1, none⟩ = some (.int .u8 b1) := by rw [← hW4]; exact y1 _
      have y2 : W4.cell? ⟨b, off + 2, none⟩ = some (.int .u8 b2) := by rw [← hW4]; exact y2 _
      clear hW4 hF S3 f0 f1 f2
      have f0 := hF4.cell_at 0 rfl
      have f1 := hF4.cell_at 1 rfl
      have f2 := hF4.cell_at 2 rfl
      have g0 := hG4.cell_at 0 rfl
      have g1 := hG4.cell_at 1 rfl
      have g2 := hG4.cell_at 2 rfl
      go_upto_region 8 with (fail)
      all_goals
        go_quiet (fail)
        go_wp2_with fail
        refine (wakes_any _).mono ?_
        rintro e w' ⟨rfl, hB⟩
        go_wp2_with fail
        go_ret
        first
          | exact ⟨rfl, S4.trans (((below_drawn (Below.refl W4.heap.size W4) nq).trans hB).mono S4.size)⟩
          | exact ⟨ret_bool (by simp; omega), S4.trans (((below_drawn (Below.refl W4.heap.size W4) nq).trans hB).mono S4.size)⟩
  by_cases hx0 : takeE bs = 0
  · have HE := Lib.hid hx0
    have h5' : (5 : Int) ≤ (zs.length : Int) + 3 := by omega
    clear h hn hb hk hq hbs h5 hx0 hc
    go_enter Try.func5, Try.ntmps5
    go_wp2_with fail
    refine (take_is _ _ cap _ _ HN.out HE.out hr HB.out HL.out HC.out).mono ?_
    rintro e w1 ⟨Af, cf, rfl, RT, hB⟩
    have S1 := hB
    clear hB
    go_wp2_with fail
    refine (closeR_n _ cap _ bs _ HN.out (by exact (hr.on S1).on (below1 _ _)) HB.out HL.out).mono ?_
    rintro e w2 ⟨Ac, cc, rfl, RC, CC, hB⟩
    have hF := (Whole.new w1 24 [.int .u8 (takeK bs), .int .u8 (takeQ bs), .slice Af (takeL bs).length cf]).below hB (by simp)
    have S2 := S1.trans ((on1 hB).mono S1.size)
    have RT := RT.on (on1 hB)
    clear hB S1
    go_wp2_with fail
    refine (wk_takeN Ac _ cc (closeB bs) 41 _ (by rw [closeB_length, ← HN.out]) HE2.out (by decide) RC (closeB_byte HB.out) (by rw [closeB_length]; have := HN.out; omega) CC).mono ?_
    rintro e w3 ⟨Ag, cg, rfl, hB⟩
    have hF := hF.below hB hF.lt
    have S3 := S2.trans (hB.mono S2.size)
    have RT := RT.on hB
    clear hB S2 RC CC
    obtain ⟨b', off', eb, hbl, hcell⟩ := (hr.on S3) (by rw [u8s_length, ← HN.out]; omega)
    cases eb
    have y0 : ∀ o, (w3.alloc o).cell? ⟨b, off, none⟩ = some (.int .u8 b0) := fun o => ((below1 w3 o).cell (p := ⟨b, off, none⟩) hbl).trans (hcell 0 _ (by rw [← HBS.out]; rfl))
    have y1 : ∀ o, (w3.alloc o).cell? ⟨b, off + 1, none⟩ = some (.int .u8 b1) := fun o => ((below1 w3 o).cell (p := ⟨b, off + 1, none⟩) hbl).trans (hcell 1 _ (by rw [← HBS.out]; rfl))
    have y2 : ∀ o, (w3.alloc o).cell? ⟨b, off + 2, none⟩ = some (.int .u8 b2) := fun o => ((below1 w3 o).cell (p := ⟨b, off + 2, none⟩) hbl).trans (hcell 2 _ (by rw [← HBS.out]; rfl))
    have f0 := fun o => (hF.alloc o).cell_at 0 rfl
    have f1 := fun o => (hF.alloc o).cell_at 1 rfl
    have f2 := fun o => (hF.alloc o).cell_at 2 rfl
    clear hcell
    go_upto_region 5 with (fail)
    go_cut [7] from 25 to 55 (fun r wx => r = .bool false ∧ wx = w3.alloc (.cells #[.int .u8 0, .int .u8 0, .slice Ag 0 cg] 24))
    case first =>
      obtain ⟨v0, v1⟩ := HV.out
      have hb0 := HK.out
      by_cases k1 : 1 ≤ b0
      · by_cases k3 : b0 ≤ 3
        · by_cases kv : (zs.length : Int) = b2
          · have k59 : ¬ (zs.length : Int) + 3 + 2 ≤ 64 := by
              rcases HR.out with h | h
              · unfold rightF knownK at h
                rw [decide_eq_true ⟨k1, k3⟩, Bool.true_and, decide_eq_false_iff_not] at h
                omega
              · exact absurd kv h
            subst kv
            go_wp2_with fail
            go_meet
            case rel => exact ⟨by first | rfl | (simp; done) | (simp; omega), rfl⟩
          · have kv' : (b2 == (zs.length : Int)) = false := by simp; exact fun h => kv h.symm
            go_wp2_with fail
            go_meet
            case rel => exact ⟨by first | rfl | (simp; done) | (simp; omega), rfl⟩
        · go_wp2_with fail
          go_meet
          case rel => exact ⟨by first | rfl | (simp; done) | (simp; omega), rfl⟩
      · go_wp2_with fail
        go_meet
        case rel => exact ⟨by first | rfl | (simp; done) | (simp; omega), rfl⟩
    case rest =>
      obtain ⟨rfl, rfl⟩ := hcut
      obtain ⟨W4, hW4, hF4, hG4, S4, R4, RT4⟩ : ∃ W4, w3.alloc (.cells #[.int .u8 0, .int .u8 0, .slice Ag 0 cg] 24) = W4 ∧ Whole W4 w1.heap.size 24 [.int .u8 (takeK bs), .int .u8 (takeQ bs), .slice Af (takeL bs).length cf] ∧ Whole W4 w3.heap.size 24 [.int .u8 0, .int .u8 0, .slice Ag 0 cg] ∧ Below w.heap.size w W4 ∧ Row W4 W4.heap.size (some ⟨b, off, none⟩) (u8s bs) ∧ Row W4 W4.heap.size Af (u8s (takeL bs)) :=
        ⟨_, rfl, hF.alloc _, Whole.new w3 _ [_, _, _], S3.alloc S3.size _, hr.on (S3.alloc S3.size _), RT.on (below1 _ _)⟩
      rw [hW4]
      have y0 : W4.cell? ⟨b, off, none⟩ = some (.int .u8 b0) := by rw [← hW4]; exact y0 _
      have y1 : W4.cell? ⟨b, off + 1, none⟩ = some (.int .u8 b1) := by rw [← hW4]; exact y1 _
      have y2 : W4.cell? ⟨b, off + 2, none⟩ = some (.int .u8 b2) := by rw [← hW4]; exact y2 _
      clear hW4 hF S3 f0 f1 f2 RT
      have f0 := hF4.cell_at 0 rfl
      have f1 := hF4.cell_at 1 rfl
      have f2 := hF4.cell_at 2 rfl
      have g0 := hG4.cell_at 0 rfl
      have g1 := hG4.cell_at 1 rfl
      have g2 := hG4.cell_at 2 rfl
      go_upto_region 8 with (fail)
      all_goals
        go_quiet (fail)
        go_wp2_with fail
        refine (put_taken Af cf bs _ HE.out HB.out (RT4.on (below_drawn (Below.refl W4.heap.size W4) nq))).mono ?_
        rintro e w5 ⟨Ao, co, no, rfl, hno, RO, hB5⟩
        have hB6 : Below W4.heap.size W4 w5 := (below_drawn (Below.refl W4.heap.size W4) nq).trans hB5
        have HNO := Lib.hid hno
        clear hno
        go_wp2_with fail
        refine (same_val true Ao _ co _ no _ bs bs _ HNO.out HN.out RO (R4.on hB6) HB.out HB.out (sameB_refl _)).mono ?_
        rintro e w6 ⟨rfl, rfl⟩
        go_wp2_with fail
        refine (wakes_any _).mono ?_
        rintro e w' ⟨rfl, hB⟩
        go_wp2_with fail
        go_ret
        exact ⟨rfl, S4.trans ((hB6.trans (hB.mono hB6.size)).mono S4.size)⟩
  · obtain ⟨x, hx⟩ : ∃ x, takeE bs = x := ⟨_, rfl⟩
    rw [hx] at hx0
    have hx40 : x ≠ 40 := by rw [← hx]; exact takeE_long h5
    have HE := Lib.hid hx
    have HX0 := Lib.hid hx0
    have t0 : (x == 0) = false := by simpa using hx0
    have t1 : (x != 0) = true := by simpa using hx0
    have t2 : (x == 40) = false := by simpa using hx40
    have h5' : (5 : Int) ≤ (zs.length : Int) + 3 := by omega
    clear h hn hb hk hq hbs h5 hx hx0 hx40 hc
    go_enter Try.func5, Try.ntmps5
    go_wp2_with fail
    refine (wk_takeN _ _ cap _ x _ HN.out HE.out HX0.out hr HB.out HL.out HC.out).mono ?_
    rintro e w1 ⟨Af, cf, rfl, hB⟩
    have S1 := hB
    clear hB
    go_wp2_with fail
    refine (closeR_n _ cap _ bs _ HN.out (by exact (hr.on S1).on (below1 _ _)) HB.out HL.out).mono ?_
    rintro e w2 ⟨Ac, cc, rfl, RC, CC, hB⟩
    have hF := (Whole.new w1 24 [.int .u8 0, .int .u8 0, .slice Af 0 cf]).below hB (by simp)
    have S2 := S1.trans ((on1 hB).mono S1.size)
    clear hB S1
    go_wp2_with fail
    refine (wk_takeN Ac _ cc (closeB bs) 41 _ (by rw [closeB_length, ← HN.out]) HE2.out (by decide) RC (closeB_byte HB.out) (by rw [closeB_length]; have := HN.out; omega) CC).mono ?_
    rintro e w3 ⟨Ag, cg, rfl, hB⟩
    have hF := hF.below hB hF.lt
    have S3 := S2.trans (hB.mono S2.size)
    clear hB S2 RC CC
    obtain ⟨b', off', eb, hbl, hcell⟩ := (hr.on S3) (by rw [u8s_length, ← HN.out]; omega)
    cases eb
    have y0 : ∀ o, (w3.alloc o).cell? ⟨b, off, none⟩ = some (.int .u8 b0) := fun o => ((below1 w3 o).cell (p := ⟨b, off, none⟩) hbl).trans (hcell 0 _ (by rw [← HBS.out]; rfl))
    have y1 : ∀ o, (w3.alloc o).cell? ⟨b, off + 1, none⟩ = some (.int .u8 b1) := fun o => ((below1 w3 o).cell (p := ⟨b, off + 1, none⟩) hbl).trans (hcell 1 _ (by rw [← HBS.out]; rfl))
    have y2 : ∀ o, (w3.alloc o).cell? ⟨b, off + 2, none⟩ = some (.int .u8 b2) := fun o => ((below1 w3 o).cell (p := ⟨b, off + 2, none⟩) hbl).trans (hcell 2 _ (by rw [← HBS.out]; rfl))
    have f0 := fun o => (hF.alloc o).cell_at 0 rfl
    have f1 := fun o => (hF.alloc o).cell_at 1 rfl
    have f2 := fun o => (hF.alloc o).cell_at 2 rfl
    clear hcell
    go_upto_region 5 with (fail)
    go_cut [7] from 25 to 55 (fun r wx => r = .bool false ∧ wx = w3.alloc (.cells #[.int .u8 0, .int .u8 0, .slice Ag 0 cg] 24))
    case first =>
      obtain ⟨v0, v1⟩ := HV.out
      have hb0 := HK.out
      by_cases k1 : 1 ≤ b0
      · by_cases k3 : b0 ≤ 3
        · by_cases kv : (zs.length : Int) = b2
          · have k59 : ¬ (zs.length : Int) + 3 + 2 ≤ 64 := by
              rcases HR.out with h | h
              · unfold rightF knownK at h
                rw [decide_eq_true ⟨k1, k3⟩, Bool.true_and, decide_eq_false_iff_not] at h
                omega
              · exact absurd kv h
            subst kv
            go_wp2_with fail
            go_meet
            case rel => exact ⟨by first | rfl | (simp; done) | (simp; omega), rfl⟩
          · have kv' : (b2 == (zs.length : Int)) = false := by simp; exact fun h => kv h.symm
            go_wp2_with fail
            go_meet
            case rel => exact ⟨by first | rfl | (simp; done) | (simp; omega), rfl⟩
        · go_wp2_with fail
          go_meet
          case rel => exact ⟨by first | rfl | (simp; done) | (simp; omega), rfl⟩
      · go_wp2_with fail
        go_meet
        case rel => exact ⟨by first | rfl | (simp; done) | (simp; omega), rfl⟩
    case rest =>
      obtain ⟨rfl, rfl⟩ := hcut
      obtain ⟨W4, hW4, hF4, hG4, S4, R4⟩ : ∃ W4, w3.alloc (.cells #[.int .u8 0, .int .u8 0, .slice Ag 0 cg] 24) = W4 ∧ Whole W4 w1.heap.size 24 [.int .u8 0, .int .u8 0, .slice Af 0 cf] ∧ Whole W4 w3.heap.size 24 [.int .u8 0, .int .u8 0, .slice Ag 0 cg] ∧ Below w.heap.size w W4 ∧ Row W4 W4.heap.size (some ⟨b, off, none⟩) (u8s bs) :=
        ⟨_, rfl, hF.alloc _, Whole.new w3 _ [_, _, _], S3.alloc S3.size _, hr.on (S3.alloc S3.size _)⟩
      rw [hW4]
      have y0 : W4.cell? ⟨b, off, none⟩ = some (.int .u8 b0) := by rw [← hW4]; exact y0 _
      have y1 : W4.cell? ⟨b, off + 1, none⟩ = some (.int .u8 b1) := by rw [← hW4]; exact y1 _
      have y2 : W4.cell? ⟨b, off + 2, none⟩ = some (.int .u8 b2) := by rw [← hW4]; exact y2 _
      clear hW4 hF S3 f0 f1 f2
      have f0 := hF4.cell_at 0 rfl
      have f1 := hF4.cell_at 1 rfl
      have f2 := hF4.cell_at 2 rfl
      have g0 := hG4.cell_at 0 rfl
      have g1 := hG4.cell_at 1 rfl
      have g2 := hG4.cell_at 2 rfl
      go_upto_region 8 with (fail)
      all_goals
        go_quiet (fail)
        go_wp2_with fail
        refine (wakes_any _).mono ?_
        rintro e w' ⟨rfl, hB⟩
        go_wp2_with fail
        go_ret
        first
          | exact ⟨rfl, S4.trans (((below_drawn (Below.refl W4.heap.size W4) nq).trans hB).mono S4.size)⟩
          | exact ⟨ret_bool (by simp; omega), S4.trans (((below_drawn (Below.refl W4.heap.size W4) nq).trans hB).mono S4.size)⟩


set_option maxHeartbeats 2000000 in
theorem only_long (A : Option Addr) (cap : Nat) (bs : List Int) (w : World) (hl : bs.length ≤ maxLen) (h : 100 < bs.length) :
    Calls Try.prog 5 #[.slice A bs.length cap] w fun e w' => e = .returned (.bool true) ∧ Below w.heap.size w w' := by
  unfold maxLen at hl
  have c1 : (100 : Int) < (bs.length : Int) := by omega
  clear h
  go_enter Try.func5, Try.ntmps5
  go_wp2_with fail
  refine (wakes_any _).mono ?_
  rintro e w' ⟨rfl, hB⟩
  go_wp2_with fail
  go_ret
  exact ⟨rfl, hB⟩

theorem only_all (A : Option Addr) (cap : Nat) (bs : List Int) (w : World) (hr : Row w w.heap.size A (u8s bs)) (hb : ∀ z ∈ bs, IsByte z) (hc : bs.length ≤ cap) (hm : cap ≤ maxLen) :
    Calls Try.prog 5 #[.slice A bs.length cap] w fun e w' => e = .returned (.bool true) ∧ Below w.heap.size w w' := by
  rcases Nat.lt_or_ge 100 bs.length with h | h
  · exact only_long A cap bs w (Nat.le_trans hc hm) h
  rcases Nat.lt_or_ge bs.length 3 with h3 | h3
  · exact only_few A cap bs w hr hb h3 hc
  match bs, h3 with
  | b0 :: b1 :: b2 :: zs, _ =>
    obtain ⟨b, off, rfl, _, _⟩ := hr (by simp [u8s])
    have hl : zs.length ≤ 97 := by simp at h; omega
    have hc' : zs.length + 3 ≤ cap := hc
    cases hR : rightF b0 zs.length
    · exact only_no b off cap b0 b1 b2 zs w _ rfl hr hb hl hc' (.inl hR)
    · by_cases hv : (zs.length : Int) = b2
      · subst hv
        exact only_yes b off cap b0 b1 zs w _ rfl hr hb hl hc' hR
      · exact only_no b off cap b0 b1 b2 zs w _ rfl hr hb hl hc' (.inr hv)

end Go.Proofs.Ytgpofgepffhcnaa
