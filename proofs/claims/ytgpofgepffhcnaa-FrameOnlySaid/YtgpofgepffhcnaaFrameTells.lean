/- The program's answers are the document's. -/
import Derived.Test.YtgpofgepffhcnaaFrameApart
namespace Go.Proofs.Ytgpofgepffhcnaa
open Go.RowKit Go.Shelf
set_option linter.unusedVariables false

theorem putL_byte {k q : Int} {zs : List Int} (hk : IsByte k) (hq : IsByte q) (hz : ∀ z ∈ zs, IsByte z) : ∀ z ∈ putL k q zs, IsByte z := by
  unfold putL
  cases h : rightF k zs.length
  · simp
  · exact closeB_byte (bytesF_byte hk hq (rightF_le h) hz)
theorem takeL_byte {bs : List Int} (h : ∀ z ∈ bs, IsByte z) : ∀ z ∈ takeL bs, IsByte z := by
  intro z hz
  unfold takeL at hz
  split at hz
  · exact openL_byte h z (List.mem_of_mem_drop hz)
  · cases hz
theorem sameB_refl (l : List Int) : sameB l l = true := by simp [sameB]
theorem sameF_refl (k q : Int) (l : List Int) : sameF k q k q l l = true := by rw [sameF_yes, sameB_refl]

/-- Four frames in boxes, three rows of bytes. -/
structure FourF (w : World) (Bf Bg Bx By : Nat) (k q k' q' kx qx : Int) (A A' Ax Ay Ap Aq : Option Addr) (c c' cx cy : Nat) (zs zs' xs ps : List Int) (W : World) : Prop where
  S : Below w.heap.size w W
  F : Whole W Bf 24 [.int .u8 k, .int .u8 q, .slice A zs.length c]
  G : Whole W Bg 24 [.int .u8 k', .int .u8 q', .slice A' zs'.length c']
  X : Whole W Bx 24 [.int .u8 kx, .int .u8 qx, .slice Ax xs.length cx]
  Y : Whole W By 24 [.int .u8 kx, .int .u8 qx, .slice Ay xs.length cy]
  RF : Row W W.heap.size A (u8s zs)
  RG : Row W W.heap.size A' (u8s zs')
  RX : Row W W.heap.size Ax (u8s xs)
  RY : Row W W.heap.size Ay (u8s xs)
  RP : Row W W.heap.size Ap (u8s ps)
  RQ : Row W W.heap.size Aq (u8s ps)
section
variable {w W W' : World} {Bf Bg Bx By : Nat} {k q k' q' kx qx : Int} {A A' Ax Ay Ap Aq : Option Addr} {c c' cx cy : Nat} {zs zs' xs ps : List Int}
theorem FourF.on (h : FourF w Bf Bg Bx By k q k' q' kx qx A A' Ax Ay Ap Aq c c' cx cy zs zs' xs ps W) (hB : Below W.heap.size W W') : FourF w Bf Bg Bx By k q k' q' kx qx A A' Ax Ay Ap Aq c c' cx cy zs zs' xs ps W' :=
  ⟨h.S.trans (hB.mono h.S.size), h.F.below hB h.F.lt, h.G.below hB h.G.lt, h.X.below hB h.X.lt, h.Y.below hB h.Y.lt, h.RF.on hB, h.RG.on hB, h.RX.on hB, h.RY.on hB, h.RP.on hB, h.RQ.on hB⟩
theorem FourF.drew (h : FourF w Bf Bg Bx By k q k' q' kx qx A A' Ax Ay Ap Aq c c' cx cy zs zs' xs ps W) : FourF w Bf Bg Bx By k q k' q' kx qx A A' Ax Ay Ap Aq c c' cx cy zs zs' xs ps W.drew := h.on (below_drawn (Below.refl _ W) 1)
theorem FourF.all (h : FourF w Bf Bg Bx By k q k' q' kx qx A A' Ax Ay Ap Aq c c' cx cy zs zs' xs ps W) : FourF w Bf Bg Bx By k q k' q' kx qx A A' Ax Ay Ap Aq c c' cx cy zs zs' xs ps W ∧ W.cell? ⟨Bf, 0, none⟩ = some (.int .u8 k) ∧ W.cell? ⟨Bf, 1, none⟩ = some (.int .u8 q) ∧ W.cell? ⟨Bf, 2, none⟩ = some (.slice A zs.length c) ∧
    W.cell? ⟨Bg, 0, none⟩ = some (.int .u8 k') ∧ W.cell? ⟨Bg, 1, none⟩ = some (.int .u8 q') ∧ W.cell? ⟨Bg, 2, none⟩ = some (.slice A' zs'.length c') ∧
    W.cell? ⟨Bx, 0, none⟩ = some (.int .u8 kx) ∧ W.cell? ⟨Bx, 1, none⟩ = some (.int .u8 qx) ∧ W.cell? ⟨Bx, 2, none⟩ = some (.slice Ax xs.length cx) ∧
    W.cell? ⟨By, 0, none⟩ = some (.int .u8 kx) ∧ W.cell? ⟨By, 1, none⟩ = some (.int .u8 qx) ∧ W.cell? ⟨By, 2, none⟩ = some (.slice Ay xs.length cy) :=
  ⟨h, h.F.cell_at 0 rfl, h.F.cell_at 1 rfl, h.F.cell_at 2 rfl, h.G.cell_at 0 rfl, h.G.cell_at 1 rfl, h.G.cell_at 2 rfl, h.X.cell_at 0 rfl, h.X.cell_at 1 rfl, h.X.cell_at 2 rfl, h.Y.cell_at 0 rfl, h.Y.cell_at 1 rfl, h.Y.cell_at 2 rfl⟩
end

theorem right_val (R : Bool) (k q : Int) (A : Option Addr) (n c : Nat) (w : World) (h0 : 0 ≤ k) (h1 : k ≤ 255) (hn : n ≤ maxLen) (h : rightF k n = R) :
    Calls Try.prog 15 #[.agg #[.int .u8 k, .int .u8 q, .slice A n c]] w fun e w' => e = .returned (.bool R) ∧ Below w.heap.size w w' := by subst h; exact right_any k q A n c w h0 h1 hn
theorem rightR_val (R : Bool) (k q : Int) (A : Option Addr) (n c : Nat) (w : World) (h0 : 0 ≤ k) (h1 : k ≤ 255) (hn : n ≤ maxLen) (h : rightF k n = R) :
    Calls Try.prog 16 #[.agg #[.int .u8 k, .int .u8 q, .slice A n c]] w fun e w' => e = .returned (.bool R) ∧ Below w.heap.size w w' := by subst h; exact rightR_any k q A n c w h0 h1 hn
theorem size_val (R : Int) (k q : Int) (A : Option Addr) (n c : Nat) (w : World) (h0 : 0 ≤ k) (h1 : k ≤ 255) (hn : n ≤ maxLen) (h : sizeF k n = R) :
    Calls Try.prog 19 #[.agg #[.int .u8 k, .int .u8 q, .slice A n c]] w fun e w' => e = .returned (.int .i64 R) ∧ Below w.heap.size w w' := by subst h; exact size_any k q A n c w h0 h1 hn
theorem sizeR_val (R : Int) (k q : Int) (A : Option Addr) (n c : Nat) (w : World) (h0 : 0 ≤ k) (h1 : k ≤ 255) (hn : n ≤ maxLen) (h : sizeF k n = R) :
    Calls Try.prog 20 #[.agg #[.int .u8 k, .int .u8 q, .slice A n c]] w fun e w' => e = .returned (.int .i64 R) ∧ Below w.heap.size w w' := by subst h; exact sizeR_any k q A n c w h0 h1 hn
theorem newerP_val (v : Bool) (n was : Int) (w : World) (h0 : 0 ≤ n) (h1 : n ≤ 255) (g0 : 0 ≤ was) (g1 : was ≤ 255) (h : newerN n was = v) :
    Calls Try.prog 17 #[.int .u8 n, .int .u8 was] w fun e w' => e = .returned (.bool v) ∧ w = w' := by
  subst h; exact newer_any n was w h0 h1 g0 g1
theorem newerR_val (v : Bool) (n was : Int) (w : World) (h0 : 0 ≤ n) (h1 : n ≤ 255) (g0 : 0 ≤ was) (g1 : was ≤ 255) (h : newerN n was = v) :
    Calls Try.prog 18 #[.int .u8 n, .int .u8 was] w fun e w' => e = .returned (.bool v) ∧ w = w' := by
  subst h; exact newerR_any n was w h0 h1 g0 g1
theorem own_val (k q : Int) (A : Option Addr) (cap : Nat) (zs : List Int) (w : World) (hr : Row w w.heap.size A (u8s zs)) (hl : zs.length ≤ 1099511627776) :
    Calls Try.prog 22 #[.agg #[.int .u8 k, .int .u8 q, .slice A zs.length cap]] w fun e w' =>
      ∃ A' c', e = .returned (.agg #[.int .u8 k, .int .u8 q, .slice A' zs.length c']) ∧ Row w' w'.heap.size A' (u8s zs) ∧ Below w.heap.size w w' := own_any k q A cap zs w hr hl

set_option maxRecDepth 100000 in
set_option maxHeartbeats 8000000 in
theorem tells_long (k q k' q' n was : Int) (A A' Ab : Option Addr) (c c' cb : Nat) (zs zs' bs : List Int) (w : World) (hl : zs.length ≤ maxLen) (hl' : zs'.length ≤ maxLen) (hlb : bs.length ≤ maxLen) (hbad : 300 < zs.length ∨ 300 < zs'.length ∨ 300 < bs.length) :
    Calls Try.prog 3 #[frV k q A zs.length c, frV k' q' A' zs'.length c', .slice Ab bs.length cb, .int .u8 n, .int .u8 was] w fun e w' => e = .returned (.bool true) ∧ Below w.heap.size w w' := by
  unfold maxLen at hl hl' hlb
  by_cases h1 : 300 < zs.length
  · have c1 : (300 : Int) < (zs.length : Int) := by omega
    clear hbad h1
    go_enter Try.func3, Try.ntmps3
    go_wp2_with fail
    refine (wakes_any _).mono ?_
    rintro e w' ⟨rfl, hB⟩
    go_wp2_with fail
    go_ret
    exact ⟨rfl, on2 hB⟩
  have c1 : ¬ (300 : Int) < (zs.length : Int) := by omega
  by_cases h2 : 300 < zs'.length
  · have c2 : (300 : Int) < (zs'.length : Int) := by omega
    clear hbad h1 h2
    go_enter Try.func3, Try.ntmps3
    go_wp2_with fail
    refine (wakes_any _).mono ?_
    rintro e w' ⟨rfl, hB⟩
    go_wp2_with fail
    go_ret
    exact ⟨rfl, on2 hB⟩
  have c2 : ¬ (300 : Int) < (zs'.length : Int) := by omega
  have c3 : (300 : Int) < (bs.length : Int) := by omega
  clear hbad h1 h2
  go_enter Try.func3, Try.ntmps3
  go_wp2_with fail
  refine (wakes_any _).mono ?_
  rintro e w' ⟨rfl, hB⟩
  go_wp2_with fail
  go_ret
  exact ⟨rfl, on2 hB⟩

set_option maxRecDepth 100000 in
set_option maxHeartbeats 8000000 in
theorem tells_walk (k q k' q' n was : Int) (A A' Ab : Option Addr) (c c' cb : Nat) (zs zs' bs : List Int) (w : World) (hk : IsByte k) (hq : IsByte q) (hn : IsByte n) (hwas : IsByte was) (hr : Row w w.heap.size A (u8s zs)) (hr' : Row w w.heap.size A' (u8s zs')) (hrb : Row w w.heap.size Ab (u8s bs))
    (hb : ∀ z ∈ zs, IsByte z) (hb' : ∀ z ∈ zs', IsByte z) (hbb : ∀ z ∈ bs, IsByte z) (hl : zs.length ≤ 300) (hl' : zs'.length ≤ 300) (hlb : bs.length ≤ 300) (hcb : bs.length ≤ cb) :
    Calls Try.prog 3 #[frV k q A zs.length c, frV k' q' A' zs'.length c', .slice Ab bs.length cb, .int .u8 n, .int .u8 was] w fun e w' => e = .returned (.bool true) ∧ Below w.heap.size w w' := by
  have c1 : ¬ (300 : Int) < (zs.length : Int) := by omega
  have c2 : ¬ (300 : Int) < (zs'.length : Int) := by omega
  have c3 : ¬ (300 : Int) < (bs.length : Int) := by omega
  have HM := Lib.hid (show zs.length ≤ maxLen by unfold maxLen; omega)
  have HO := Lib.hid (show zs.length ≤ 1099511627776 by omega)
  have HLB := Lib.hid (show bs.length ≤ 549755813888 by omega)
  have HCB := Lib.hid hcb
  have HPB := Lib.hid (putL_byte hk hq hb)
  have HXB := Lib.hid (takeL_byte hbb)
  have HK0 := Lib.hid hk.1
  have HK1 := Lib.hid hk.2
  have HN0 := Lib.hid hn.1
  have HN1 := Lib.hid hn.2
  have HW0 := Lib.hid hwas.1
  have HW1 := Lib.hid hwas.2
  obtain ⟨R, hR⟩ : ∃ R, rightF k zs.length = R := ⟨_, rfl⟩
  obtain ⟨Sz, hSz⟩ : ∃ R, sizeF k zs.length = R := ⟨_, rfl⟩
  obtain ⟨Nw, hNw⟩ : ∃ R, newerN n was = R := ⟨_, rfl⟩
  obtain ⟨Sm, hSm⟩ : ∃ R, sameF k q k' q' zs zs' = R := ⟨_, rfl⟩
  have HR := Lib.hid hR
  have HSZ := Lib.hid hSz
  have HNW := Lib.hid hNw
  have HSM := Lib.hid hSm
  clear hR hSz hNw hSm hcb
  go_enter Try.func3, Try.ntmps3
  go_wp2_with fail
  have I0 : TwoF w w.heap.size (w.heap.size + 1) k q k' q' A A' Ab none c c' zs zs' bs [] ((w.alloc (.cells #[.int .u8 k, .int .u8 q, .slice A zs.length c] 24)).alloc (.cells #[.int .u8 k', .int .u8 q', .slice A' zs'.length c'] 24)) :=
    ⟨below2 _ _ _, (Whole.new w 24 [_, _, _]).alloc _, Whole.new_at (w.alloc _) 24 [_, _, _] (w.heap.size + 1) (by simp), hr.on (below2 _ _ _), hr'.on (below2 _ _ _), hrb.on (below2 _ _ _), Row.nil _ _ _⟩
  refine (put_any k q A c zs _ I0.RF hb hk hq HM.out).mono ?_
  rintro e w1 ⟨Ap, cp, rfl, RP, _, hB⟩
  have I1 := I0.on hB
  clear hB I0
  obtain ⟨_, a0, a1, a2, b0, b1, b2⟩ := I1.all
  go_wp2_with fail
  clear a0 a1 a2 b0 b1 b2
  refine (putR_any k q A c zs _ I1.RF hb hk hq HM.out).mono ?_
  rintro e w2 ⟨Aq, cq, rfl, RQ, _, hB⟩
  have I2 := I1.on hB
  have RP := RP.on hB
  clear hB I1
  go_wp2_with fail
  refine (take_any Ab cb bs _ I2.RX hbb HLB.out HCB.out).mono ?_
  rintro e w3 ⟨Ax, cx, rfl, RX, hB⟩
  have I3 := I2.on hB
  have RP := RP.on hB
  have RQ := RQ.on hB
  clear hB I2
  go_wp2_with fail
  refine (takeR_any Ab cb bs _ (I3.RX.on (below1 _ _)) hbb HLB.out HCB.out).mono ?_
  rintro e w4 ⟨Ay, cy, rfl, RY, hB⟩
  have hX := (Whole.new w3 24 [.int .u8 (takeK bs), .int .u8 (takeQ bs), .slice Ax (takeL bs).length cx]).below hB (by simp)
  have I4 := I3.on (on1 hB)
  have RP := RP.on (on1 hB)
  have RQ := RQ.on (on1 hB)
  have RX := RX.on (on1 hB)
  clear hB I3
  go_wp2_with fail
  have I5 : FourF w w.heap.size (w.heap.size + 1) w3.heap.size w4.heap.size k q k' q' (takeK bs) (takeQ bs) A A' Ax Ay Ap Aq c c' cx cy zs zs' (takeL bs) (putL k q zs) (w4.alloc (.cells #[.int .u8 (takeK bs), .int .u8 (takeQ bs), .slice Ay (takeL bs).length cy] 24)) :=
    ⟨I4.S.alloc I4.S.size _, I4.F.alloc _, I4.G.alloc _, hX.alloc _, Whole.new w4 _ [_, _, _], I4.RF.on (below1 _ _), I4.RG.on (below1 _ _), RX.on (below1 _ _), RY.on (below1 _ _), RP.on (below1 _ _), RQ.on (below1 _ _)⟩
  clear I4 hX RX RY RP RQ
  generalize w4.alloc (.cells #[.int .u8 (takeK bs), .int .u8 (takeQ bs), .slice Ay (takeL bs).length cy] 24) = W5 at I5 ⊢
  go_cut [81] from 55 to 81 (fun r wx => r = .bool false ∧ FourF w w.heap.size (w.heap.size + 1) w3.heap.size w4.heap.size k q k' q' (takeK bs) (takeQ bs) A A' Ax Ay Ap Aq c c' cx cy zs zs' (takeL bs) (putL k q zs) wx)
  case first =>
    go_region_held3 (fun W => FourF w w.heap.size (w.heap.size + 1) w3.heap.size w4.heap.size k q k' q' (takeK bs) (takeQ bs) A A' Ax Ay Ap Aq c c' cx cy zs zs' (takeL bs) (putL k q zs) W ∧ W.cell? ⟨w.heap.size, 0, none⟩ = some (.int .u8 k) ∧ W.cell? ⟨w.heap.size, 1, none⟩ = some (.int .u8 q) ∧ W.cell? ⟨w.heap.size, 2, none⟩ = some (.slice A zs.length c) ∧
      W.cell? ⟨w.heap.size + 1, 0, none⟩ = some (.int .u8 k') ∧ W.cell? ⟨w.heap.size + 1, 1, none⟩ = some (.int .u8 q') ∧ W.cell? ⟨w.heap.size + 1, 2, none⟩ = some (.slice A' zs'.length c') ∧
      W.cell? ⟨w3.heap.size, 0, none⟩ = some (.int .u8 (takeK bs)) ∧ W.cell? ⟨w3.heap.size, 1, none⟩ = some (.int .u8 (takeQ bs)) ∧ W.cell? ⟨w3.heap.size, 2, none⟩ = some (.slice Ax (takeL bs).length cx) ∧
      W.cell? ⟨w4.heap.size, 0, none⟩ = some (.int .u8 (takeK bs)) ∧ W.cell? ⟨w4.heap.size, 1, none⟩ = some (.int .u8 (takeQ bs)) ∧ W.cell? ⟨w4.heap.size, 2, none⟩ = some (.slice Ay (takeL bs).length cy))
      (first
        | exact I5.drew.all
        | exact (‹FourF _ _ _ _ _ _ _ _ _ _ _ _ _ _ _ _ _ _ _ _ _ _ _ _ _ _ ∧ _›.1.on hB).all
        | assumption)
      (first
        | (go_at_call 13; (with_reducible refine (same_val _ _ _ _ _ _ _ _ _ _ rfl rfl ‹FourF _ _ _ _ _ _ _ _ _ _ _ _ _ _ _ _ _ _ _ _ _ _ _ _ _ _ ∧ _›.1.RP ‹FourF _ _ _ _ _ _ _ _ _ _ _ _ _ _ _ _ _ _ _ _ _ _ _ _ _ _ ∧ _›.1.RQ HPB.out HPB.out (sameB_refl _)).mono ?_); rintro e w' ⟨rfl, rfl⟩)
        | (go_at_call 14; (with_reducible refine (sameR_val _ _ _ _ _ _ _ _ _ _ _ _ ‹FourF _ _ _ _ _ _ _ _ _ _ _ _ _ _ _ _ _ _ _ _ _ _ _ _ _ _ ∧ _›.1.RX ‹FourF _ _ _ _ _ _ _ _ _ _ _ _ _ _ _ _ _ _ _ _ _ _ _ _ _ _ ∧ _›.1.RY HXB.out HXB.out (sameF_refl _ _ _)).mono ?_); rintro e w' ⟨rfl, hB⟩)
        | (go_at_call 15; (with_reducible refine (right_val R _ _ _ _ _ _ HK0.out HK1.out HM.out HR.out).mono ?_); rintro e w' ⟨rfl, hB⟩; have hT := ‹FourF _ _ _ _ _ _ _ _ _ _ _ _ _ _ _ _ _ _ _ _ _ _ _ _ _ _ ∧ _›.1.on hB)
        | (go_at_call 16; (with_reducible refine (rightR_val R _ _ _ _ _ _ HK0.out HK1.out HM.out HR.out).mono ?_); rintro e w' ⟨rfl, hB⟩; have hT := ‹FourF _ _ _ _ _ _ _ _ _ _ _ _ _ _ _ _ _ _ _ _ _ _ _ _ _ _ ∧ _›.1.on hB))
    all_goals
      go_wp2_with fail
      go_meet
      case rel => exact ⟨by simp, hT⟩
  case rest =>
    obtain ⟨rfl, I6⟩ := hcut
    clear I5
    go_wp2_with fail
    go_region_held3 (fun W => FourF w w.heap.size (w.heap.size + 1) w3.heap.size w4.heap.size k q k' q' (takeK bs) (takeQ bs) A A' Ax Ay Ap Aq c c' cx cy zs zs' (takeL bs) (putL k q zs) W ∧ W.cell? ⟨w.heap.size, 0, none⟩ = some (.int .u8 k) ∧ W.cell? ⟨w.heap.size, 1, none⟩ = some (.int .u8 q) ∧ W.cell? ⟨w.heap.size, 2, none⟩ = some (.slice A zs.length c) ∧
      W.cell? ⟨w.heap.size + 1, 0, none⟩ = some (.int .u8 k') ∧ W.cell? ⟨w.heap.size + 1, 1, none⟩ = some (.int .u8 q') ∧ W.cell? ⟨w.heap.size + 1, 2, none⟩ = some (.slice A' zs'.length c') ∧
      W.cell? ⟨w3.heap.size, 0, none⟩ = some (.int .u8 (takeK bs)) ∧ W.cell? ⟨w3.heap.size, 1, none⟩ = some (.int .u8 (takeQ bs)) ∧ W.cell? ⟨w3.heap.size, 2, none⟩ = some (.slice Ax (takeL bs).length cx) ∧
      W.cell? ⟨w4.heap.size, 0, none⟩ = some (.int .u8 (takeK bs)) ∧ W.cell? ⟨w4.heap.size, 1, none⟩ = some (.int .u8 (takeQ bs)) ∧ W.cell? ⟨w4.heap.size, 2, none⟩ = some (.slice Ay (takeL bs).length cy))
      (first
        | exact I6.drew.all
        | exact (‹FourF _ _ _ _ _ _ _ _ _ _ _ _ _ _ _ _ _ _ _ _ _ _ _ _ _ _ ∧ _›.1.on hB).all
        | assumption)
      (first
        | (go_at_call 17; (with_reducible refine (newerP_val Nw _ _ _ HN0.out HN1.out HW0.out HW1.out HNW.out).mono ?_); rintro e w' ⟨rfl, rfl⟩)
        | (go_at_call 18; (with_reducible refine (newerR_val Nw _ _ _ HN0.out HN1.out HW0.out HW1.out HNW.out).mono ?_); rintro e w' ⟨rfl, rfl⟩)
        | (go_at_call 19; (with_reducible refine (size_val Sz _ _ _ _ _ _ HK0.out HK1.out HM.out HSZ.out).mono ?_); rintro e w' ⟨rfl, hB⟩)
        | (go_at_call 20; (with_reducible refine (sizeR_val Sz _ _ _ _ _ _ HK0.out HK1.out HM.out HSZ.out).mono ?_); rintro e w' ⟨rfl, hB⟩)
        | (go_at_call 21; (with_reducible refine (sameF_val Sm _ _ _ _ _ _ _ _ _ _ _ ‹FourF _ _ _ _ _ _ _ _ _ _ _ _ _ _ _ _ _ _ _ _ _ _ _ _ _ _ ∧ _›.1.RF ‹FourF _ _ _ _ _ _ _ _ _ _ _ _ _ _ _ _ _ _ _ _ _ _ _ _ _ _ ∧ _›.1.RG hb hb' HSM.out).mono ?_); rintro e w' ⟨rfl, hB⟩)
        | (go_at_call 14; (with_reducible refine (sameR_val Sm _ _ _ _ _ _ _ _ _ _ _ ‹FourF _ _ _ _ _ _ _ _ _ _ _ _ _ _ _ _ _ _ _ _ _ _ _ _ _ _ ∧ _›.1.RF ‹FourF _ _ _ _ _ _ _ _ _ _ _ _ _ _ _ _ _ _ _ _ _ _ _ _ _ _ ∧ _›.1.RG hb hb' HSM.out).mono ?_); rintro e w' ⟨rfl, hB⟩)
        | (go_at_call 22; (with_reducible refine (own_val _ _ _ _ _ _ ‹FourF _ _ _ _ _ _ _ _ _ _ _ _ _ _ _ _ _ _ _ _ _ _ _ _ _ _ ∧ _›.1.RF HO.out).mono ?_); rintro e w' ⟨Ao, co, rfl, rO, hB⟩)
        | (go_at_call 14; (with_reducible refine (sameR_val _ _ _ _ _ _ _ _ _ _ _ _ rO ‹FourF _ _ _ _ _ _ _ _ _ _ _ _ _ _ _ _ _ _ _ _ _ _ _ _ _ _ ∧ _›.1.RF hb hb (sameF_refl _ _ _)).mono ?_); rintro e w' ⟨rfl, hB⟩)
        | (go_at_call 8; (with_reducible refine (wakes_any _).mono ?_); rintro e w' ⟨rfl, hB⟩; have hS := (‹FourF _ _ _ _ _ _ _ _ _ _ _ _ _ _ _ _ _ _ _ _ _ _ _ _ _ _ ∧ _›.1.on hB).S))
    all_goals (go_wp2_with fail; first | (go_ret; exact ⟨rfl, hS⟩) | exact ⟨rfl, hS⟩)

theorem tells_all (k q k' q' n was : Int) (A A' Ab : Option Addr) (c c' cb : Nat) (zs zs' bs : List Int) (w : World) (hk : IsByte k) (hq : IsByte q) (hn0 : 0 ≤ n) (hn1 : n ≤ 255) (hw0 : 0 ≤ was) (hw1 : was ≤ 255) (hr : Row w w.heap.size A (u8s zs)) (hr' : Row w w.heap.size A' (u8s zs')) (hrb : Row w w.heap.size Ab (u8s bs))
    (hb : ∀ z ∈ zs, IsByte z) (hb' : ∀ z ∈ zs', IsByte z) (hbb : ∀ z ∈ bs, IsByte z) (hl : zs.length ≤ c) (hm : c ≤ maxLen) (hl' : zs'.length ≤ c') (hm' : c' ≤ maxLen) (hlb : bs.length ≤ cb) (hmb : cb ≤ maxLen) :
    Calls Try.prog 3 #[frV k q A zs.length c, frV k' q' A' zs'.length c', .slice Ab bs.length cb, .int .u8 n, .int .u8 was] w fun e w' => e = .returned (.bool true) ∧ Below w.heap.size w w' := by
  by_cases h : 300 < zs.length ∨ 300 < zs'.length ∨ 300 < bs.length
  · exact tells_long k q k' q' n was A A' Ab c c' cb zs zs' bs w (Nat.le_trans hl hm) (Nat.le_trans hl' hm') (Nat.le_trans hlb hmb) h
  · exact tells_walk k q k' q' n was A A' Ab c c' cb zs zs' bs w hk hq ⟨hn0, hn1⟩ ⟨hw0, hw1⟩ hr hr' hrb hb hb' hbb (by omega) (by omega) (by omega) hlb
end Go.Proofs.Ytgpofgepffhcnaa
