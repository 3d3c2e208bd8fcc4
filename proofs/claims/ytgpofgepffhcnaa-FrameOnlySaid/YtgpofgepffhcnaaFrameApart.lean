/- Two frames have the same bytes just if they are the same. -/
import Derived.Test.YtgpofgepffhcnaaFrameW
namespace Go.Proofs.Ytgpofgepffhcnaa
open Go.RowKit Go.Shelf
set_option linter.unusedVariables false

theorem closeB_inj {a b : List Int} (h : closeB a = closeB b) : a = b := by
  have hl : a.length = b.length := by
    have := congrArg List.length h
    rw [closeB_length, closeB_length] at this; omega
  unfold closeB at h
  exact (List.append_inj h hl).1
theorem same_bytes (k q k' q' : Int) (zs zs' : List Int) : sameB (closeB (bytesF k q zs)) (closeB (bytesF k' q' zs')) = sameF k q k' q' zs zs' := by
  unfold sameF sameB
  rw [Bool.eq_iff_iff]
  simp only [decide_eq_true_eq, Bool.and_eq_true]
  constructor
  · intro h
    have := closeB_inj h
    unfold bytesF at this
    simp only [List.cons_append, List.nil_append, List.cons.injEq] at this
    exact ⟨⟨this.1, this.2.1⟩, this.2.2.2⟩
  · rintro ⟨⟨rfl, rfl⟩, rfl⟩; rfl
theorem putL_yes {k q : Int} {zs : List Int} (h : rightF k zs.length = true) : putL k q zs = closeB (bytesF k q zs) := by unfold putL; rw [h]; rfl

theorem same_val (v : Bool) (A A' : Option Addr) (c c' n n' : Nat) (zs zs' : List Int) (w : World) (hn : n = zs.length) (hn' : n' = zs'.length) (h : Row w w.heap.size A (u8s zs)) (h' : Row w w.heap.size A' (u8s zs')) (hb : ∀ z ∈ zs, IsByte z) (hb' : ∀ z ∈ zs', IsByte z) (hv : sameB zs zs' = v) :
    Calls Try.prog 13 #[.slice A n c, .slice A' n' c'] w fun e w' => e = .returned (.bool v) ∧ w = w' := by
  subst hn; subst hn'; subst hv; exact same_any A A' c c' zs zs' w h h' hb hb'
theorem sameF_val (v : Bool) (k q k' q' : Int) (A A' : Option Addr) (c c' : Nat) (zs zs' : List Int) (w : World) (h : Row w w.heap.size A (u8s zs)) (h' : Row w w.heap.size A' (u8s zs')) (hb : ∀ z ∈ zs, IsByte z) (hb' : ∀ z ∈ zs', IsByte z) (hv : sameF k q k' q' zs zs' = v) :
    Calls Try.prog 21 #[.agg #[.int .u8 k, .int .u8 q, .slice A zs.length c], .agg #[.int .u8 k', .int .u8 q', .slice A' zs'.length c']] w fun e w' => e = .returned (.bool v) ∧ Below w.heap.size w w' := by
  subst hv; exact sameF_any k q k' q' A A' c c' zs zs' w h h' hb hb'
theorem sameR_val (v : Bool) (k q k' q' : Int) (A A' : Option Addr) (c c' : Nat) (zs zs' : List Int) (w : World) (h : Row w w.heap.size A (u8s zs)) (h' : Row w w.heap.size A' (u8s zs')) (hb : ∀ z ∈ zs, IsByte z) (hb' : ∀ z ∈ zs', IsByte z) (hv : sameF k q k' q' zs zs' = v) :
    Calls Try.prog 14 #[.agg #[.int .u8 k, .int .u8 q, .slice A zs.length c], .agg #[.int .u8 k', .int .u8 q', .slice A' zs'.length c']] w fun e w' => e = .returned (.bool v) ∧ Below w.heap.size w w' := by
  subst hv; exact sameR_any k q k' q' A A' c c' zs zs' w h h' hb hb'

/-- Two frames in boxes, two rows of bytes. -/
structure TwoF (w : World) (Bf Bg : Nat) (k q k' q' : Int) (A A' Ax Ay : Option Addr) (c c' : Nat) (zs zs' xs ys : List Int) (W : World) : Prop where
  S : Below w.heap.size w W
  F : Whole W Bf 24 [.int .u8 k, .int .u8 q, .slice A zs.length c]
  G : Whole W Bg 24 [.int .u8 k', .int .u8 q', .slice A' zs'.length c']
  RF : Row W W.heap.size A (u8s zs)
  RG : Row W W.heap.size A' (u8s zs')
  RX : Row W W.heap.size Ax (u8s xs)
  RY : Row W W.heap.size Ay (u8s ys)
section
variable {w W W' : World} {Bf Bg : Nat} {k q k' q' : Int} {A A' Ax Ay : Option Addr} {c c' : Nat} {zs zs' xs ys : List Int}
theorem TwoF.on (h : TwoF w Bf Bg k q k' q' A A' Ax Ay c c' zs zs' xs ys W) (hB : Below W.heap.size W W') : TwoF w Bf Bg k q k' q' A A' Ax Ay c c' zs zs' xs ys W' :=
  ⟨h.S.trans (hB.mono h.S.size), h.F.below hB h.F.lt, h.G.below hB h.G.lt, h.RF.on hB, h.RG.on hB, h.RX.on hB, h.RY.on hB⟩
theorem TwoF.drew (h : TwoF w Bf Bg k q k' q' A A' Ax Ay c c' zs zs' xs ys W) : TwoF w Bf Bg k q k' q' A A' Ax Ay c c' zs zs' xs ys W.drew := h.on (below_drawn (Below.refl _ W) 1)
theorem TwoF.all (h : TwoF w Bf Bg k q k' q' A A' Ax Ay c c' zs zs' xs ys W) : TwoF w Bf Bg k q k' q' A A' Ax Ay c c' zs zs' xs ys W ∧ W.cell? ⟨Bf, 0, none⟩ = some (.int .u8 k) ∧ W.cell? ⟨Bf, 1, none⟩ = some (.int .u8 q) ∧ W.cell? ⟨Bf, 2, none⟩ = some (.slice A zs.length c) ∧
    W.cell? ⟨Bg, 0, none⟩ = some (.int .u8 k') ∧ W.cell? ⟨Bg, 1, none⟩ = some (.int .u8 q') ∧ W.cell? ⟨Bg, 2, none⟩ = some (.slice A' zs'.length c') :=
  ⟨h, h.F.cell_at 0 rfl, h.F.cell_at 1 rfl, h.F.cell_at 2 rfl, h.G.cell_at 0 rfl, h.G.cell_at 1 rfl, h.G.cell_at 2 rfl⟩
end

set_option maxRecDepth 100000 in
set_option maxHeartbeats 8000000 in
theorem apart_short (k q k' q' : Int) (A A' : Option Addr) (c c' : Nat) (zs zs' : List Int) (w : World) (hk : IsByte k) (hk' : IsByte k') (hl : zs.length ≤ maxLen) (hl' : zs'.length ≤ maxLen)
    (hbad : 300 < zs.length ∨ 300 < zs'.length ∨ rightF k zs.length = false ∨ rightF k' zs'.length = false) :
    Calls Try.prog 7 #[frV k q A zs.length c, frV k' q' A' zs'.length c'] w fun e w' => e = .returned (.bool true) ∧ Below w.heap.size w w' := by
  have HM := Lib.hid hl
  have HM' := Lib.hid hl'
  unfold maxLen at hl hl'
  by_cases h1 : 300 < zs.length
  · have c1 : (300 : Int) < (zs.length : Int) := by omega
    clear hbad h1
    go_enter Try.func7, Try.ntmps7
    go_wp2_with fail
    refine (wakes_any _).mono ?_
    rintro e w' ⟨rfl, hB⟩
    go_wp2_with fail
    go_ret
    exact ⟨rfl, on2 hB⟩
  have c1 : ¬ (300 : Int) < (zs.length : Int) := by omega
  by_cases h2 : 300 < zs'.length
  · have c2 : (300 : Int) < (zs'.length : Int) := by omega
    clear hbad h1 h2
    go_enter Try.func7, Try.ntmps7
    go_wp2_with fail
    refine (wakes_any _).mono ?_
    rintro e w' ⟨rfl, hB⟩
    go_wp2_with fail
    go_ret
    exact ⟨rfl, on2 hB⟩
  have c2 : ¬ (300 : Int) < (zs'.length : Int) := by omega
  have hbad' : rightF k zs.length = false ∨ rightF k' zs'.length = false := by
    rcases hbad with h | h | h
    · exact absurd h h1
    · exact absurd h h2
    · exact h
  clear hbad h1 h2
  cases hr : rightF k zs.length
  · have HR := Lib.hid hr
    clear hr hbad'
    go_enter Try.func7, Try.ntmps7
    go_wp2_with fail
    refine (rightR_no k q A zs.length c _ hk.1 hk.2 HM.out HR.out).mono ?_
    rintro e w1 ⟨rfl, hB1⟩
    have S1 := on2 hB1
    go_wp2_with fail
    refine (wakes_any _).mono ?_
    rintro e w' ⟨rfl, hB⟩
    go_wp2_with fail
    go_ret
    exact ⟨rfl, S1.trans (hB.mono S1.size)⟩
  · have hr' : rightF k' zs'.length = false := by
      rcases hbad' with h | h
      · rw [hr] at h; cases h
      · exact h
    have HR := Lib.hid hr
    have HR' := Lib.hid hr'
    clear hr hr' hbad'
    go_enter Try.func7, Try.ntmps7
    go_wp2_with fail
    refine (rightR_yes k q A zs.length c _ hk.1 hk.2 HM.out HR.out).mono ?_
    rintro e w1 ⟨rfl, hB1⟩
    have hG := (Whole.new_at (w.alloc (.cells #[.int .u8 k, .int .u8 q, .slice A zs.length c] 24)) 24 [.int .u8 k', .int .u8 q', .slice A' zs'.length c'] (w.heap.size + 1) (by simp)).below hB1 (by simp)
    have g0 := hG.cell_at 0 rfl
    have g1 := hG.cell_at 1 rfl
    have g2 := hG.cell_at 2 rfl
    have S1 := on2 hB1
    clear hB1
    go_wp2_with fail
    refine (rightR_no k' q' A' zs'.length c' _ hk'.1 hk'.2 HM'.out HR'.out).mono ?_
    rintro e w2 ⟨rfl, hB2⟩
    have S2 := S1.trans (hB2.mono S1.size)
    go_wp2_with fail
    refine (wakes_any _).mono ?_
    rintro e w' ⟨rfl, hB⟩
    go_wp2_with fail
    go_ret
    exact ⟨rfl, S2.trans (hB.mono S2.size)⟩

set_option maxRecDepth 100000 in
set_option maxHeartbeats 8000000 in
theorem apart_walk (k q k' q' : Int) (A A' : Option Addr) (c c' : Nat) (zs zs' : List Int) (w : World) (hk : IsByte k) (hq : IsByte q) (hk' : IsByte k') (hq' : IsByte q') (hr : Row w w.heap.size A (u8s zs)) (hr' : Row w w.heap.size A' (u8s zs')) (hb : ∀ z ∈ zs, IsByte z) (hb' : ∀ z ∈ zs', IsByte z)
    (h : rightF k zs.length = true) (h' : rightF k' zs'.length = true) :
    Calls Try.prog 7 #[frV k q A zs.length c, frV k' q' A' zs'.length c'] w fun e w' => e = .returned (.bool true) ∧ Below w.heap.size w w' := by
  have hl := rightF_le h
  have hl' := rightF_le h'
  have HM := Lib.hid (show zs.length ≤ maxLen by unfold maxLen; omega)
  have HM' := Lib.hid (show zs'.length ≤ maxLen by unfold maxLen; omega)
  have c1 : ¬ (300 : Int) < (zs.length : Int) := by omega
  have c2 : ¬ (300 : Int) < (zs'.length : Int) := by omega
  have HR := Lib.hid h
  have HR' := Lib.hid h'
  have HBX := Lib.hid (closeB_byte (bytesF_byte hk hq hl hb))
  have HBY := Lib.hid (closeB_byte (bytesF_byte hk' hq' hl' hb'))
  have HLX := Lib.hid (show zs.length + 5 = (closeB (bytesF k q zs)).length by rw [closeB_length, bytesF_length])
  have HLY := Lib.hid (show zs'.length + 5 = (closeB (bytesF k' q' zs')).length by rw [closeB_length, bytesF_length])
  have HSB := same_bytes k q k' q' zs zs'
  cases hs : sameF k q k' q' zs zs'
  all_goals
    rw [hs] at HSB
    have HS := Lib.hid hs
    have HB := Lib.hid HSB
    clear h h' hs HSB
    go_enter Try.func7, Try.ntmps7
    go_wp2_with fail
    refine (rightR_yes k q A zs.length c _ hk.1 hk.2 HM.out HR.out).mono ?_
    rintro e w1 ⟨rfl, hB1⟩
    have I1 : TwoF w w.heap.size (w.heap.size + 1) k q k' q' A A' none none c c' zs zs' [] [] w1 :=
      ⟨on2 hB1, ((Whole.new w 24 [_, _, _]).alloc _).below hB1 (by first | (simp; omega) | simp), (Whole.new_at (w.alloc (.cells #[.int .u8 k, .int .u8 q, .slice A zs.length c] 24)) 24 [.int .u8 k', .int .u8 q', .slice A' zs'.length c'] (w.heap.size + 1) (by simp)).below hB1 (by simp), hr.on (on2 hB1), hr'.on (on2 hB1), Row.nil _ _ _, Row.nil _ _ _⟩
    clear hB1
    obtain ⟨_, a0, a1, a2, b0, b1, b2⟩ := I1.all
    go_wp2_with fail
    clear a0 a1 a2 b0 b1 b2
    refine (rightR_yes k' q' A' zs'.length c' _ hk'.1 hk'.2 HM'.out HR'.out).mono ?_
    rintro e w2 ⟨rfl, hB⟩
    have I2 := I1.on hB
    clear hB I1
    obtain ⟨_, a0, a1, a2, b0, b1, b2⟩ := I2.all
    go_wp2_with fail
    clear a0 a1 a2 b0 b1 b2
    refine (put_yes k q A c zs _ I2.RF hb hk hq HR.out).mono ?_
    rintro e w3 ⟨Ax, cx, rfl, RX, _, hB⟩
    have I3 := I2.on hB
    clear hB I2
    obtain ⟨_, a0, a1, a2, b0, b1, b2⟩ := I3.all
    go_wp2_with fail
    clear a0 a1 a2 b0 b1 b2
    refine (put_yes k' q' A' c' zs' _ I3.RG hb' hk' hq' HR'.out).mono ?_
    rintro e w4 ⟨Ay, cy, rfl, RY, _, hB⟩
    have I4 : TwoF w w.heap.size (w.heap.size + 1) k q k' q' A A' Ax Ay c c' zs zs' (closeB (bytesF k q zs)) (closeB (bytesF k' q' zs')) w4 := ⟨(I3.on hB).S, (I3.on hB).F, (I3.on hB).G, (I3.on hB).RF, (I3.on hB).RG, RX.on hB, RY⟩
    clear hB I3 RX RY
    go_wp2_with fail
    go_region_held3 (fun W => TwoF w w.heap.size (w.heap.size + 1) k q k' q' A A' Ax Ay c c' zs zs' (closeB (bytesF k q zs)) (closeB (bytesF k' q' zs')) W ∧ W.cell? ⟨w.heap.size, 0, none⟩ = some (.int .u8 k) ∧ W.cell? ⟨w.heap.size, 1, none⟩ = some (.int .u8 q) ∧ W.cell? ⟨w.heap.size, 2, none⟩ = some (.slice A zs.length c) ∧
        W.cell? ⟨w.heap.size + 1, 0, none⟩ = some (.int .u8 k') ∧ W.cell? ⟨w.heap.size + 1, 1, none⟩ = some (.int .u8 q') ∧ W.cell? ⟨w.heap.size + 1, 2, none⟩ = some (.slice A' zs'.length c'))
      (first
        | exact I4.drew.all
        | exact (‹TwoF _ _ _ _ _ _ _ _ _ _ _ _ _ _ _ _ _ _ ∧ _›.1.on hB).all
        | assumption)
      (first
        | (go_at_call 13; (with_reducible refine (same_val _ _ _ _ _ _ _ _ _ _ HLX.out HLY.out ‹TwoF _ _ _ _ _ _ _ _ _ _ _ _ _ _ _ _ _ _ ∧ _›.1.RX ‹TwoF _ _ _ _ _ _ _ _ _ _ _ _ _ _ _ _ _ _ ∧ _›.1.RY HBX.out HBY.out HB.out).mono ?_); rintro e w' ⟨rfl, rfl⟩)
        | (go_at_call 14; (with_reducible refine (sameR_val _ _ _ _ _ _ _ _ _ _ _ _ ‹TwoF _ _ _ _ _ _ _ _ _ _ _ _ _ _ _ _ _ _ ∧ _›.1.RF ‹TwoF _ _ _ _ _ _ _ _ _ _ _ _ _ _ _ _ _ _ ∧ _›.1.RG hb hb' HS.out).mono ?_); rintro e w' ⟨rfl, hB⟩)
        | (go_at_call 21; (with_reducible refine (sameF_val _ _ _ _ _ _ _ _ _ _ _ _ ‹TwoF _ _ _ _ _ _ _ _ _ _ _ _ _ _ _ _ _ _ ∧ _›.1.RF ‹TwoF _ _ _ _ _ _ _ _ _ _ _ _ _ _ _ _ _ _ ∧ _›.1.RG hb hb' HS.out).mono ?_); rintro e w' ⟨rfl, hB⟩)
        | (go_at_call 8; (with_reducible refine (wakes_any _).mono ?_); rintro e w' ⟨rfl, hB⟩; have hS := (‹TwoF _ _ _ _ _ _ _ _ _ _ _ _ _ _ _ _ _ _ ∧ _›.1.on hB).S))
    all_goals (go_wp2_with fail; first | (go_ret; exact ⟨rfl, hS⟩) | exact ⟨rfl, hS⟩)

theorem apart_all (k q k' q' : Int) (A A' : Option Addr) (c c' : Nat) (zs zs' : List Int) (w : World) (hk : IsByte k) (hq : IsByte q) (hk' : IsByte k') (hq' : IsByte q') (hr : Row w w.heap.size A (u8s zs)) (hr' : Row w w.heap.size A' (u8s zs')) (hb : ∀ z ∈ zs, IsByte z) (hb' : ∀ z ∈ zs', IsByte z)
    (hl : zs.length ≤ c) (hm : c ≤ maxLen) (hl' : zs'.length ≤ c') (hm' : c' ≤ maxLen) :
    Calls Try.prog 7 #[frV k q A zs.length c, frV k' q' A' zs'.length c'] w fun e w' => e = .returned (.bool true) ∧ Below w.heap.size w w' := by
  cases h : rightF k zs.length
  · exact apart_short k q k' q' A A' c c' zs zs' w hk hk' (Nat.le_trans hl hm) (Nat.le_trans hl' hm') (.inr (.inr (.inl h)))
  · cases h' : rightF k' zs'.length
    · exact apart_short k q k' q' A A' c c' zs zs' w hk hk' (Nat.le_trans hl hm) (Nat.le_trans hl' hm') (.inr (.inr (.inr h')))
    · exact apart_walk k q k' q' A A' c c' zs zs' w hk hq hk' hq' hr hr' hb hb' h h'
end Go.Proofs.Ytgpofgepffhcnaa
