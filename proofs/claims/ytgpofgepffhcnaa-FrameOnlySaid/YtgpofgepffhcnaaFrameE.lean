/- Package frame: Take. -/
import Derived.Test.YtgpofgepffhcnaaFrameD
import Derived.Test.YtgpofgepffhcnaaCrcS
import Derived.StillTailTactics
import Derived.Deep.RegionHeld3
import Derived.Deep.CutRange
import Derived.IntWalk
namespace Go.Proofs.Ytgpofgepffhcnaa
open Go.RowKit Go.Shelf
set_option linter.unusedVariables false
set_option linter.unusedSimpArgs false

theorem put_any (k q : Int) (A : Option Addr) (cap : Nat) (zs : List Int) (w : World) (hr : Row w w.heap.size A (u8s zs)) (hz : ∀ z ∈ zs, IsByte z) (hk : IsByte k) (hq : IsByte q) (hl : zs.length ≤ maxLen) :
    Calls Try.prog 9 #[frV k q A zs.length cap] w (PutGives w k q zs) := by
  cases h : rightF k zs.length
  · refine (put_no k q A cap zs.length w hk hl h).mono ?_
    rintro e w' ⟨rfl, hB⟩
    refine ⟨none, 0, ?_, ?_, ?_, hB⟩
    · unfold putL putE; rw [h]; rfl
    · unfold putL; rw [h]; exact Row.nil _ _ _
    · unfold putL; rw [h]; exact Nat.le_refl _
  · refine (put_yes k q A cap zs w hr hz hk hq h).mono ?_
    rintro e w' ⟨A', c', rfl, hr', hc', hB⟩
    have hl : putL k q zs = closeB (bytesF k q zs) := by unfold putL; rw [h]; rfl
    have hn : (putL k q zs).length = zs.length + 5 := by rw [hl, closeB_length, bytesF_length]
    refine ⟨A', c', ?_, by rw [hl]; exact hr', by rw [hn]; exact hc', hB⟩
    rw [hn]; unfold putE; rw [h]; rfl

/-- Are these, behind their opening, a frame's? -/
def formB (l : List Int) : Bool := rightF (l[0]?.getD 0) (l.length - 3) && decide (((l.length - 3 : Nat) : Int) = l[2]?.getD 0)
/-- What Take tells of bytes. -/
def takeE (bs : List Int) : Int := if bs.length < 5 then 40 else if openE bs = 0 then (if formB (openL bs) = true then 0 else 41) else 42
def takeK (bs : List Int) : Int := if takeE bs = 0 then (openL bs)[0]?.getD 0 else 0
def takeQ (bs : List Int) : Int := if takeE bs = 0 then (openL bs)[1]?.getD 0 else 0
def takeL (bs : List Int) : List Int := if takeE bs = 0 then (openL bs).drop 3 else []
/-- What comes of Take. -/
def TakeGives (w : World) (bs : List Int) (e : Ending) (w' : World) : Prop :=
  ∃ A' c', e = .returned (.tuple #[frV (takeK bs) (takeQ bs) A' (takeL bs).length c', .int .i64 (takeE bs)]) ∧ Row w' w'.heap.size A' (u8s (takeL bs)) ∧ Below w.heap.size w w'

theorem take_none {w w' : World} {bs : List Int} {n : Int} (hn : takeE bs = n) (h0 : n ≠ 0) (hB : Below w.heap.size w w') : TakeGives w bs (.returned (.tuple #[frV 0 0 none 0 0, .int .i64 n])) w' := by
  have h : ¬ takeE bs = 0 := by rw [hn]; exact h0
  refine ⟨none, 0, ?_, ?_, hB⟩
  · unfold takeK takeQ takeL; rw [if_neg h, if_neg h, if_neg h, hn]; rfl
  · unfold takeL; rw [if_neg h]; exact Row.nil _ _ _
theorem take_some {w w' : World} {bs zs : List Int} {k q v : Int} {A' : Option Addr} {c' : Nat} (hn : takeE bs = 0) (hl : openL bs = k :: q :: v :: zs) (hr : Row w' w'.heap.size A' (u8s zs)) (hB : Below w.heap.size w w') : TakeGives w bs (.returned (.tuple #[frV k q A' zs.length c', .int .i64 0])) w' := by
  refine ⟨A', c', ?_, ?_, hB⟩
  · unfold takeK takeQ takeL; rw [if_pos hn, if_pos hn, if_pos hn, hn, hl]; rfl
  · unfold takeL; rw [if_pos hn, hl]; exact hr

/-- Two frames of the call's own. -/
theorem zero2 (w : World) : ∃ W, (w.alloc (.cells #[.int .u8 0, .int .u8 0, .slice none 0 0] 24)).alloc (.cells #[.int .u8 0, .int .u8 0, .slice none 0 0] 24) = W ∧ W.heap.size = w.heap.size + 1 + 1 ∧ Below w.heap.size w W ∧
    Whole W w.heap.size 24 [.int .u8 0, .int .u8 0, .slice none 0 0] ∧ Whole W (w.heap.size + 1) 24 [.int .u8 0, .int .u8 0, .slice none 0 0] :=
  ⟨_, rfl, by simp, below2 _ _ _, (Whole.new w _ [_, _, _]).alloc _, Whole.new_at _ _ [_, _, _] _ (by simp)⟩

set_option maxRecDepth 100000 in
set_option maxHeartbeats 4000000 in
theorem take_short (A : Option Addr) (cap : Nat) (bs : List Int) (w : World) (hl : bs.length < 5) :
    Calls Try.prog 11 #[.slice A bs.length cap] w (TakeGives w bs) := by
  have hE : takeE bs = 40 := by unfold takeE; rw [if_pos hl]
  have hl' : (bs.length : Int) < 5 := by omega
  have HE := Lib.hid hE
  clear hE hl
  go_enter Try.func11, Try.ntmps11
  go_wp2_with fail
  refine wp_scope_fwd (l := 0) rfl ?_
  go_wp2_with fail
  go_step3
  simp only [Exit.then, fwd_goto]
  refine ⟨trivial, ?_⟩
  go_wp2
  rw [Exit.noGoto_ret]
  obtain ⟨W, hW, hsz, hB, hr0, hf0⟩ := zero2 w
  rw [hW]
  have c0 := hr0.cell_at 0 rfl
  have c1 := hr0.cell_at 1 rfl
  have c2 := hr0.cell_at 2 rfl
  exact bodyPost_ret (v := .tuple #[frV 0 0 none 0 0, .int .i64 40]) (by simp [results, Try.f11, go_sem, c0, c1, c2]) rfl (take_none HE.out (by decide) hB)

set_option maxRecDepth 100000 in
set_option maxHeartbeats 4000000 in
theorem take_crc (A : Option Addr) (cap : Nat) (bs : List Int) (w : World) (hr : Row w w.heap.size A (u8s bs)) (hz : ∀ z ∈ bs, IsByte z) (hzl : bs.length ≤ 549755813888) (hcap : bs.length ≤ cap) (hl : 5 ≤ bs.length) (he : openE bs ≠ 0) :
    Calls Try.prog 11 #[.slice A bs.length cap] w (TakeGives w bs) := by
  have hE : takeE bs = 42 := by unfold takeE; rw [if_neg (by omega), if_neg he]
  have hE2 : openE bs = 42 := by
    unfold openE at he ⊢
    rw [if_neg (by omega)] at he ⊢
    split at he
    · exact absurd rfl he
    · rename_i h; rw [if_neg h]
  have hL := openL_none bs he
  have hl' : (5 : Int) ≤ bs.length := by omega
  have HE := Lib.hid hE
  have HE2 := Lib.hid hE2
  have HL := Lib.hid hL
  have HZ := Lib.hid hzl
  have HC := Lib.hid hcap
  clear hE hE2 hL hl he hzl hcap
  obtain ⟨W, hW, hsz, hB, hr0, hf0⟩ := zero2 w
  have HSZ := Lib.hid hsz
  have HW := Lib.hid hW
  clear hsz hW
  go_enter Try.func11, Try.ntmps11
  go_wp2_with fail
  refine wp_scope_fwd (l := 0) rfl ?_
  go_wp2_with fail
  rw [HW.out]
  refine (open_anyC A cap bs _ (hr.on hB) hz HZ.out HC.out).mono ?_
  rintro e w1 ⟨A', c', rfl, hr', hc', hB1⟩
  rw [HE2.out, HL.out]
  have hr1 := hr0.below hB1 hr0.lt
  have f0 := hr1.frozen 0
  have f1 := hr1.frozen 1
  have f2 := hr1.frozen 2
  have r0 := hr1.cell_at 0 rfl
  have r1 := hr1.cell_at 1 rfl
  have r2 := hr1.cell_at 2 rfl
  have hBB := hB.trans (hB1.mono hB.size)
  go_wp2
  go_step3
  simp only [Exit.then, fwd_goto]
  refine ⟨trivial, ?_⟩
  go_wp2
  rw [Exit.noGoto_ret]
  have hw := ((hr1.set 0 (.int .u8 0)).set 1 (.int .u8 0)).set 2 (.slice none 0 0)
  have c0 := hw.cell_at 0 rfl
  have c1 := hw.cell_at 1 rfl
  have c2 := hw.cell_at 2 rfl
  refine bodyPost_ret (v := .tuple #[frV 0 0 none 0 0, .int .i64 42]) (by simp [results, Try.f11, go_sem, c0, c1, c2]) rfl (take_none HE.out (by decide) ?_)
  exact ((hBB.setCell (p := ⟨w.heap.size, 0, none⟩) (Nat.le_refl _) _).setCell (p := ⟨w.heap.size, 1, none⟩) (Nat.le_refl _) _).setCell (p := ⟨w.heap.size, 2, none⟩) (Nat.le_refl _) _

/-- Where a byte stands third no frame lies. -/
theorem not_frame {w : World} {f b off : Nat} {T : TypeId} {a a' : Value} {s : Option Addr} {n c : Nat} {v : Int} (h : Whole w f T [a, a', .slice s n c]) (hx : w.cell? ⟨b, off + 2, none⟩ = some (.int .u8 v)) : b ≠ f := by
  rintro rfl
  simp only [World.cell?, show w.heap[b]? = _ from h] at hx
  cases off with
  | zero => simp at hx
  | succ m => simp at hx

/-- The frame that Take has laid out of what was opened. -/
def FrameAt (w w1 : World) (r : Nat) (k q v : Int) (b off : Nat) (zs : List Int) (wx : World) : Prop :=
  ∃ off2 c2, Whole wx (r + 1) 24 [.int .u8 k, .int .u8 q, .slice (some ⟨b, off2, none⟩) zs.length c2] ∧ Whole wx r 24 [.int .u8 0, .int .u8 0, .slice none 0 0] ∧ wx.heap.size = w1.heap.size ∧ Below w.heap.size w wx ∧
    wx.cell? ⟨b, off + 2, none⟩ = some (.int .u8 v) ∧ Row wx wx.heap.size (some ⟨b, off2, none⟩) (u8s zs)

theorem takeE_form {bs zs : List Int} {k q v : Int} (he : openE bs = 0) (hl : 5 ≤ bs.length) (hL : openL bs = k :: q :: v :: zs) (h : rightF k zs.length = false ∨ ¬ (zs.length : Int) = v) : takeE bs = 41 := by
  unfold takeE
  rw [if_neg (by omega), if_pos he, hL]
  have : formB (k :: q :: v :: zs) = false := by
    unfold formB
    rcases h with h | h
    · simp [h]
    · simp [h]
  rw [this]; rfl
theorem takeE_fine {bs zs : List Int} {k q v : Int} (he : openE bs = 0) (hl : 5 ≤ bs.length) (hL : openL bs = k :: q :: v :: zs) (h : rightF k zs.length = true) (h' : (zs.length : Int) = v) : takeE bs = 0 := by
  unfold takeE
  rw [if_neg (by omega), if_pos he, hL]
  have : formB (k :: q :: v :: zs) = true := by
    unfold formB
    simp [h, h']
  rw [this]; rfl

theorem frame_set (w1 : World) (r f : Nat) (k q : Int) (S : Value) {a a' a'' : Value} {rs : List Value} (hf : Whole w1 f 24 [a, a', a'']) (hr : Whole w1 r 24 rs) (hne : r ≠ f) :
    ∃ W3, (((w1.setCell ⟨f, 0, none⟩ (.int .u8 k)).setCell ⟨f, 1, none⟩ (.int .u8 q)).setCell ⟨f, 2, none⟩ S).drew = W3 ∧ Whole W3 f 24 [.int .u8 k, .int .u8 q, S] ∧ Whole W3 r 24 rs ∧ W3.heap.size = w1.heap.size ∧ (∀ n, n ≤ f → Below n w1 W3) ∧
      (∀ p : Addr, p.block ≠ f → W3.cell? p = w1.cell? p) := by
  refine ⟨_, rfl, ((hf.set 0 (.int .u8 k)).set 1 (.int .u8 q)).set 2 S, ((hr.far (p := ⟨f, 0, none⟩) hne _).far (p := ⟨f, 1, none⟩) hne _).far (p := ⟨f, 2, none⟩) hne _, by simp [World.setCell], fun n hn => (((((Below.refl n w1).setCell (p := ⟨f, 0, none⟩) hn _).setCell (p := ⟨f, 1, none⟩) hn _).setCell (p := ⟨f, 2, none⟩) hn _).drew), fun p hp => ?_⟩
  exact ((World.cell?_of_block (Below.heap_setCell _ ⟨f, 2, none⟩ _ p.block hp)).trans (World.cell?_of_block (Below.heap_setCell _ ⟨f, 1, none⟩ _ p.block hp))).trans (World.cell?_of_block (Below.heap_setCell _ ⟨f, 0, none⟩ _ p.block hp))

theorem row_none {w : World} {B : Nat} {A : Option Addr} {zs : List Int} (h : zs.length ≤ 0) : Row w B A (u8s zs) := by
  obtain rfl : zs = [] := List.eq_nil_of_length_eq_zero (by omega)
  exact Row.nil _ _ _
theorem frameAt_mk {w w1 : World} {r : Nat} {k q v : Int} {b off off2 c2 n : Nat} {zs : List Int} {a a' a'' : Value} (hf : Whole w1 (r + 1) 24 [a, a', a'']) (hr : Whole w1 r 24 [.int .u8 0, .int .u8 0, .slice none 0 0]) (hb : b ≠ r + 1)
    (hx : w1.cell? ⟨b, off + 2, none⟩ = some (.int .u8 v)) (hrow : Row w1 w1.heap.size (some ⟨b, off2, none⟩) (u8s zs)) (hB : Below w.heap.size w w1) (hn : n = zs.length) (hrw : r = w.heap.size := by rfl) :
    FrameAt w w1 r k q v b off zs ((((w1.setCell ⟨r + 1, 0, none⟩ (.int .u8 k)).setCell ⟨r + 1, 1, none⟩ (.int .u8 q)).setCell ⟨r + 1, 2, none⟩ (.slice (some ⟨b, off2, none⟩) n c2)).drew) := by
  subst hn
  obtain ⟨W3, hW3, hf3, hr3, hs3, hb3, hc3⟩ := frame_set w1 r (r + 1) k q (.slice (some ⟨b, off2, none⟩) zs.length c2) hf hr (by omega)
  rw [hW3]
  refine ⟨off2, c2, hf3, hr3, hs3, hB.trans ((hb3 w.heap.size (by omega))), (hc3 ⟨b, off + 2, none⟩ hb).trans hx, fun h => ?_⟩
  obtain ⟨b', o', e, hb', hc⟩ := hrow h
  cases e
  exact ⟨_, _, rfl, by rw [hs3]; exact hb', fun j u hu => (hc3 ⟨b, _, none⟩ hb).trans (hc j u hu)⟩

set_option maxRecDepth 100000 in
set_option maxHeartbeats 4000000 in
theorem take_good (A : Option Addr) (cap : Nat) (bs : List Int) (w : World) (k q v : Int) (zs : List Int) (hr : Row w w.heap.size A (u8s bs)) (hz : ∀ z ∈ bs, IsByte z) (hzl : bs.length ≤ 549755813888) (hcap : bs.length ≤ cap) (hl : 5 ≤ bs.length) (he : openE bs = 0) (hLz : openL bs = k :: q :: v :: zs) :
    Calls Try.prog 11 #[.slice A bs.length cap] w (TakeGives w bs) := by
  have hlen : (openL bs).length = zs.length + 3 := by rw [hLz]; rfl
  have hbytes : ∀ z ∈ k :: q :: v :: zs, IsByte z := by rw [← hLz]; exact openL_byte hz
  have hl' : (5 : Int) ≤ bs.length := by omega
  have hzs : zs.length ≤ 549755813888 := by have := openL_le bs; omega
  have HE2 := Lib.hid he
  have HL := Lib.hid hLz
  have HLN := Lib.hid hlen
  have HZ := Lib.hid hzl
  have HC := Lib.hid hcap
  have HBY := Lib.hid hbytes
  have HN5 := Lib.hid hl
  clear he hLz hlen hzl hcap hl hbytes
  obtain ⟨W, hW, hsz, hB, hr0, hf0⟩ := zero2 w
  have HSZ := Lib.hid hsz
  have HW := Lib.hid hW
  clear hsz hW
  go_enter Try.func11, Try.ntmps11
  go_wp2_with fail
  refine wp_scope_fwd (l := 0) rfl ?_
  go_wp2_with fail
  rw [HW.out]
  refine (open_anyC A cap bs _ (hr.on hB) hz HZ.out HC.out).mono ?_
  rintro e w1 ⟨A', c', rfl, hr', hc', hB1⟩
  rw [HE2.out, HLN.out]
  rw [HLN.out] at hc'
  rw [HL.out] at hr'
  have hr1 := hr0.below hB1 hr0.lt
  have hf1 := hf0.below hB1 hf0.lt
  have hBB := hB.trans (hB1.mono hB.size)
  obtain ⟨b, off, rfl, hbl, hcell⟩ := hr' (by simp [u8s])
  have x0 := hcell 0 (.int .u8 k) rfl
  have x1 := hcell 1 (.int .u8 q) rfl
  have x2 := hcell 2 (.int .u8 v) rfl
  rw [Nat.add_zero] at x0
  have y0 := hf1.cell_at 0 rfl
  have y1 := hf1.cell_at 1 rfl
  have y2 := hf1.cell_at 2 rfl
  have g0 := hf1.frozen 0
  have g1 := hf1.frozen 1
  have g2 := hf1.frozen 2
  clear hcell
  have i0 : (0 : Int) < (zs.length : Int) + 3 := by omega
  have i1 : (1 : Int) < (zs.length : Int) + 3 := by omega
  have i2 : (2 : Int) < (zs.length : Int) + 3 := by omega
  have i3 : (3 : Int) ≤ (zs.length : Int) + 3 := by omega
  have hbf : b ≠ w.heap.size + 1 := not_frame hf1 x2
  have hbr : b ≠ w.heap.size := not_frame hr1 x2
  have hrow : Row w1 w1.heap.size (some ⟨b, off + 3, none⟩) (u8s zs) := by
    have := hr'.drop 3
    exact this
  have hk : IsByte k := HBY.out k (by simp)
  have hvl : zs.length ≤ maxLen := by unfold maxLen; omega
  have HK0 := Lib.hid hk.1
  have HK1 := Lib.hid hk.2
  have HVL := Lib.hid hvl
  have HBF := Lib.hid hbf
  have HBR := Lib.hid hbr
  clear hk hvl hbf hbr hr'
  rcases (by omega : c' = 3 ∨ ¬ c' = 3) with rfl | hc3
  all_goals
    go_wp2_with fail
    go_cut [] from 17 to 25 (fun wx => FrameAt w w1 w.heap.size k q v b off zs wx)
    case first =>
      go_still_tail 9, (by kernel_rfl)
      go_wp2_with fail
      all_goals
        go_meet
        case rel =>
          refine frameAt_mk hf1 hr1 HBF.out x2 ?_ hBB (by omega)
          first
            | exact row_none (by omega)
            | exact hrow
    case rest =>
      obtain ⟨off2, c2, hf3, hr3, hs3, hb3, x2', hrow3⟩ := hcut
      clear x0 x1 x2 y0 y1 y2 g0 g1 g2 hrow hf1 hr1
      have z0 := hf3.cell_at 0 rfl
      have z1 := hf3.cell_at 1 rfl
      have z2 := hf3.cell_at 2 rfl
      go_wp2_with fail
      cases hright : rightF k zs.length
      · have HRT := Lib.hid hright
        have HE := Lib.hid (show takeE bs = 41 from takeE_form HE2.out (by have := HN5.out; omega) HL.out (.inl hright))
        clear hright
        refine wp_region_any (by kernel_rfl) ?_
        change wpAny _ _ _ _ _ _ _ (World.drew _)
        refine wpAny_ready (rs := [0]) (by kernel_rfl) (by simp) ?_
        refine AllReady.cons rfl (fun K hK => ?_) AllReady.nil
        go_simp
        refine hK _ _ ?_
        clear hK K
        refine wpAny_ready (rs := [1]) (by kernel_rfl) (by simp) ?_
        refine AllReady.cons rfl (fun K hK => ?_) AllReady.nil
        go_simp
        refine (right_no k q _ zs.length _ _ HK0.out HK1.out HVL.out HRT.out).mono ?_
        rintro e w4 ⟨rfl, hB4⟩
        have hB4 : Below wc.heap.size wc w4 := (below_drawn (Below.refl _ wc) 1).trans hB4
        have hr4 := hr3.below hB4 hr3.lt
        have r0 := hr4.cell_at 0 rfl
        have r1 := hr4.cell_at 1 rfl
        have r2 := hr4.cell_at 2 rfl
        have f0 := hr4.frozen 0
        have f1 := hr4.frozen 1
        have f2 := hr4.frozen 2
        have hBB := hb3.trans (hB4.mono hb3.size)
        go_wp2_with fail
        refine wpAny_take (i := 2) (oi := ⟨some 28, _, _, _, _, _⟩) (v := .bool true) rfl (by kernel_rfl) (by kernel_rfl) (by kernel_rfl) (fun _ _ _ h => h) (Or.inl ⟨rfl, fun w => rfl⟩) ?_
        simp only [Act.put, List.setIfInBounds_toArray, List.set_cons_zero, List.set_cons_succ]
        refine wpAny_take (i := 3) (oi := ⟨some 29, _, _, _, _, _⟩) (v := .bool true) rfl (by kernel_rfl) (by kernel_rfl) (by kernel_rfl) (fun _ _ _ h => h) (Or.inl ⟨rfl, fun w => rfl⟩) ?_
        simp only [Act.put, List.setIfInBounds_toArray, List.set_cons_zero, List.set_cons_succ]
        refine wpAny_take (i := 4) (oi := ⟨some 30, _, _, _, _, _⟩) (v := undef) rfl (by kernel_rfl) (by kernel_rfl) (by kernel_rfl) (fun _ _ _ h => h) (Or.inr ⟨rfl, rfl⟩) ?_
        simp only [Act.put, List.setIfInBounds_toArray, List.set_cons_zero, List.set_cons_succ]
        refine wpAny_take (i := 5) (oi := ⟨some 31, _, _, _, _, _⟩) (v := undef) rfl (by kernel_rfl) (by kernel_rfl) (by kernel_rfl) (fun _ _ _ h => h) (Or.inr ⟨rfl, rfl⟩) ?_
        simp only [Act.put, List.setIfInBounds_toArray, List.set_cons_zero, List.set_cons_succ]
        refine wpAny_take (i := 6) (oi := ⟨some 32, _, _, _, _, _⟩) (v := undef) rfl (by kernel_rfl) (by kernel_rfl) (by kernel_rfl) (fun _ _ _ h => h) (Or.inr ⟨rfl, rfl⟩) ?_
        simp only [Act.put, List.setIfInBounds_toArray, List.set_cons_zero, List.set_cons_succ]
        refine wpAny_take (i := 7) (oi := ⟨some 33, _, _, _, _, _⟩) (v := undef) rfl (by kernel_rfl) (by kernel_rfl) (by kernel_rfl) (fun _ _ _ h => h) (Or.inr ⟨rfl, rfl⟩) ?_
        simp only [Act.put, List.setIfInBounds_toArray, List.set_cons_zero, List.set_cons_succ]
        refine wpAny_take (i := 8) (oi := ⟨some 34, _, _, _, _, _⟩) (v := undef) rfl (by kernel_rfl) (by kernel_rfl) (by kernel_rfl) (fun _ _ _ h => h) (Or.inr ⟨rfl, rfl⟩) ?_
        simp only [Act.put, List.setIfInBounds_toArray, List.set_cons_zero, List.set_cons_succ]
        refine wpAny_take (i := 9) (oi := ⟨some 35, _, _, _, _, _⟩) (v := undef) rfl (by kernel_rfl) (by kernel_rfl) (by kernel_rfl) (fun _ _ _ h => h) (Or.inr ⟨rfl, rfl⟩) ?_
        simp only [Act.put, List.setIfInBounds_toArray, List.set_cons_zero, List.set_cons_succ]
        refine wpAny_take (i := 10) (oi := ⟨some 36, _, _, _, _, _⟩) (v := undef) rfl (by kernel_rfl) (by kernel_rfl) (by kernel_rfl) (fun _ _ _ h => h) (Or.inr ⟨rfl, rfl⟩) ?_
        simp only [Act.put, List.setIfInBounds_toArray, List.set_cons_zero, List.set_cons_succ]
        refine wpAny_take (i := 11) (oi := ⟨some 37, _, _, _, _, _⟩) (v := undef) rfl (by kernel_rfl) (by kernel_rfl) (by kernel_rfl) (fun _ _ _ h => h) (Or.inr ⟨rfl, rfl⟩) ?_
        simp only [Act.put, List.setIfInBounds_toArray, List.set_cons_zero, List.set_cons_succ]
        refine wpAny_take (i := 12) (oi := ⟨some 38, _, _, _, _, _⟩) (v := .bool true) rfl (by kernel_rfl) (by kernel_rfl) (by kernel_rfl) (fun _ _ _ h => h) (Or.inl ⟨rfl, fun w => rfl⟩) ?_
        simp only [Act.put, List.setIfInBounds_toArray, List.set_cons_zero, List.set_cons_succ]
        refine wpAny_done (by kernel_rfl) ?_ _
        go_wp2_with fail
        all_goals
          go_step3
          simp only [Exit.then, fwd_goto]
          refine ⟨trivial, ?_⟩
          go_wp2
          rw [Exit.noGoto_ret]
          have hw := ((hr4.set 0 (.int .u8 0)).set 1 (.int .u8 0)).set 2 (.slice none 0 0)
          have c0 := hw.cell_at 0 rfl
          have c1 := hw.cell_at 1 rfl
          have c2 := hw.cell_at 2 rfl
          refine bodyPost_ret (v := .tuple #[frV 0 0 none 0 0, .int .i64 41]) (by simp [results, Try.f11, go_sem, c0, c1, c2]) rfl (take_none HE.out (by decide) ?_)
          exact ((hBB.setCell (p := ⟨w.heap.size, 0, none⟩) (Nat.le_refl _) _).setCell (p := ⟨w.heap.size, 1, none⟩) (Nat.le_refl _) _).setCell (p := ⟨w.heap.size, 2, none⟩) (Nat.le_refl _) _
      · have HRT := Lib.hid hright
        by_cases hv : (zs.length : Int) = v
        · have HE := Lib.hid (show takeE bs = 0 from takeE_fine HE2.out (by have := HN5.out; omega) HL.out hright hv)
          have hv' : ((zs.length : Int) != v) = false := by simpa using hv
          clear hv hright
          have hbx : b < wc.heap.size := by rw [hs3]; exact hbl
          have hwv : IntKind.i64.wrap v = v := by
            have h := HBY.out v (by simp)
            exact IntWalk.i64_in _ (by have := h.1; have := h.2; omega)
          go_region_with (go_at_call 15; (refine (right_yes k q _ zs.length _ _ HK0.out HK1.out HVL.out HRT.out).mono ?_); rintro e w4 ⟨rfl, hB4⟩; have hB4 : Below wc.heap.size wc w4 := (below_drawn (Below.refl _ wc) 1).trans hB4; have hf4 := hf3.below hB4 hf3.lt; have hr4 := hr3.below hB4 hr3.lt; have z0' := hf4.cell_at 0 rfl; have z1' := hf4.cell_at 1 rfl; have z2' := hf4.cell_at 2 rfl; have x2'' := (hB4.cell (p := ⟨b, off + 2, none⟩) hbx).trans x2'; have r0 := hr4.cell_at 0 rfl; have r1 := hr4.cell_at 1 rfl; have r2 := hr4.cell_at 2 rfl; have f0 := hr4.frozen 0; have f1 := hr4.frozen 1; have f2 := hr4.frozen 2; have hBB := hb3.trans (hB4.mono hb3.size))
          all_goals
            go_wp2_with fail
            have hw := ((hr4.set 0 (.int .u8 k)).set 1 (.int .u8 q)).set 2 (.slice (some ⟨b, off2, none⟩) zs.length c2)
            have c0 := hw.cell_at 0 rfl
            have c1 := hw.cell_at 1 rfl
            have c2' := hw.cell_at 2 rfl
            try rw [fwd_ret]
            refine bodyPost_ret (v := .tuple #[frV k q (some ⟨b, off2, none⟩) zs.length c2, .int .i64 0]) (by simp [results, Try.f11, go_sem, c0, c1, c2']) rfl (take_some HE.out HL.out ?_ ?_)
            · have h4 : Row w4 w4.heap.size (some ⟨b, off2, none⟩) (u8s zs) := hrow3.on hB4
              exact row_set (row_set (row_set h4 (fun x h => by cases h; exact HBR.out) _) (fun x h => by cases h; exact HBR.out) _) (fun x h => by cases h; exact HBR.out) _
            · exact ((hBB.setCell (p := ⟨w.heap.size, 0, none⟩) (Nat.le_refl _) _).setCell (p := ⟨w.heap.size, 1, none⟩) (Nat.le_refl _) _).setCell (p := ⟨w.heap.size, 2, none⟩) (Nat.le_refl _) _
        · have HE := Lib.hid (show takeE bs = 41 from takeE_form HE2.out (by have := HN5.out; omega) HL.out (.inr hv))
          have hv' : ((zs.length : Int) != v) = true := by simpa using hv
          clear hv hright
          have hbx : b < wc.heap.size := by rw [hs3]; exact hbl
          have hwv : IntKind.i64.wrap v = v := by
            have h := HBY.out v (by simp)
            exact IntWalk.i64_in _ (by have := h.1; have := h.2; omega)
          go_region_with (go_at_call 15; (refine (right_yes k q _ zs.length _ _ HK0.out HK1.out HVL.out HRT.out).mono ?_); rintro e w4 ⟨rfl, hB4⟩; have hB4 : Below wc.heap.size wc w4 := (below_drawn (Below.refl _ wc) 1).trans hB4; have hf4 := hf3.below hB4 hf3.lt; have hr4 := hr3.below hB4 hr3.lt; have z0' := hf4.cell_at 0 rfl; have z1' := hf4.cell_at 1 rfl; have z2' := hf4.cell_at 2 rfl; have x2'' := (hB4.cell (p := ⟨b, off + 2, none⟩) hbx).trans x2'; have r0 := hr4.cell_at 0 rfl; have r1 := hr4.cell_at 1 rfl; have r2 := hr4.cell_at 2 rfl; have f0 := hr4.frozen 0; have f1 := hr4.frozen 1; have f2 := hr4.frozen 2; have hBB := hb3.trans (hB4.mono hb3.size))
          all_goals
            go_wp2_with fail
            go_step3
            simp only [Exit.then, fwd_goto]
            refine ⟨trivial, ?_⟩
            go_wp2
            rw [Exit.noGoto_ret]
            have hw := ((hr4.set 0 (.int .u8 0)).set 1 (.int .u8 0)).set 2 (.slice none 0 0)
            have c0 := hw.cell_at 0 rfl
            have c1 := hw.cell_at 1 rfl
            have c2 := hw.cell_at 2 rfl
            refine bodyPost_ret (v := .tuple #[frV 0 0 none 0 0, .int .i64 41]) (by simp [results, Try.f11, go_sem, c0, c1, c2]) rfl (take_none HE.out (by decide) ?_)
            exact ((hBB.setCell (p := ⟨w.heap.size, 0, none⟩) (Nat.le_refl _) _).setCell (p := ⟨w.heap.size, 1, none⟩) (Nat.le_refl _) _).setCell (p := ⟨w.heap.size, 2, none⟩) (Nat.le_refl _) _
end Go.Proofs.Ytgpofgepffhcnaa
