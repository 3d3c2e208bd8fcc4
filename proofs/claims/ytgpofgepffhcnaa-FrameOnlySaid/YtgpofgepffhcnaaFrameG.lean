/- The document's own Take. -/
import Derived.Test.YtgpofgepffhcnaaFrameF
import Derived.Deep.RegionLaw
namespace Go.Proofs.Ytgpofgepffhcnaa
open Go.RowKit Go.Shelf
set_option linter.unusedVariables false
set_option linter.unusedSimpArgs false

/-- One frame of the call's own. -/
theorem zero1 (w : World) : ∃ W, w.alloc (.cells #[.int .u8 0, .int .u8 0, .slice none 0 0] 24) = W ∧ W.heap.size = w.heap.size + 1 ∧ Below w.heap.size w W ∧
    Whole W w.heap.size 24 [.int .u8 0, .int .u8 0, .slice none 0 0] :=
  ⟨_, rfl, by simp, below1 _ _, Whole.new w _ [_, _, _]⟩

set_option maxRecDepth 100000 in
set_option maxHeartbeats 4000000 in
theorem takeR_short (A : Option Addr) (cap : Nat) (bs : List Int) (w : World) (hl : bs.length < 5) :
    Calls Try.prog 12 #[.slice A bs.length cap] w (TakeGives w bs) := by
  have hE : takeE bs = 40 := by unfold takeE; rw [if_pos hl]
  have hl' : (bs.length : Int) < 5 := by omega
  have HE := Lib.hid hE
  clear hE hl
  go_enter Try.func12, Try.ntmps12
  go_wp2_with fail
  obtain ⟨W, hW, hsz, hB, hr0⟩ := zero1 w
  rw [hW]
  have c0 := hr0.cell_at 0 rfl
  have c1 := hr0.cell_at 1 rfl
  have c2 := hr0.cell_at 2 rfl
  exact bodyPost_ret (v := .tuple #[frV 0 0 none 0 0, .int .i64 40]) (by simp [results, Try.f12, go_sem, c0, c1, c2]) rfl (take_none HE.out (by decide) hB)

set_option maxRecDepth 100000 in
set_option maxHeartbeats 4000000 in
theorem takeR_crc (A : Option Addr) (cap : Nat) (bs : List Int) (w : World) (hr : Row w w.heap.size A (u8s bs)) (hz : ∀ z ∈ bs, IsByte z) (hzl : bs.length ≤ 549755813888) (hcap : bs.length ≤ cap) (hl : 5 ≤ bs.length) (he : openE bs ≠ 0) :
    Calls Try.prog 12 #[.slice A bs.length cap] w (TakeGives w bs) := by
  have hE : takeE bs = 42 := by unfold takeE; rw [if_neg (by omega), if_neg he]
  have hE2 : openE bs = 42 := by
    unfold openE at he ⊢
    rw [if_neg (by omega)] at he ⊢
    split at he
    · exact absurd rfl he
    · rename_i h; rw [if_neg h]
  have hL := openL_none bs he
  have hl' : (5 : Int) ≤ bs.length := by omega
  have HE := Lib.hid hE
  have HE2 := Lib.hid hE2
  have HL := Lib.hid hL
  have HZ := Lib.hid hzl
  have HC := Lib.hid hcap
  clear hE hE2 hL hl he hzl hcap
  obtain ⟨W, hW, hsz, hB, hr0⟩ := zero1 w
  have HSZ := Lib.hid hsz
  have HW := Lib.hid hW
  clear hsz hW
  go_enter Try.func12, Try.ntmps12
  go_wp2_with fail
  rw [HW.out]
  refine (openR_anyC A cap bs _ (hr.on hB) hz HZ.out HC.out).mono ?_
  rintro e w1 ⟨A', c', rfl, hr', hc', hB1⟩
  rw [HE2.out, HL.out]
  have hr1 := hr0.below hB1 hr0.lt
  have f0 := hr1.frozen 0
  have f1 := hr1.frozen 1
  have f2 := hr1.frozen 2
  have r0 := hr1.cell_at 0 rfl
  have r1 := hr1.cell_at 1 rfl
  have r2 := hr1.cell_at 2 rfl
  have hBB := hB.trans (hB1.mono hB.size)
  go_wp2
  have hw := ((hr1.set 0 (.int .u8 0)).set 1 (.int .u8 0)).set 2 (.slice none 0 0)
  have c0 := hw.cell_at 0 rfl
  have c1 := hw.cell_at 1 rfl
  have c2 := hw.cell_at 2 rfl
  refine bodyPost_ret (v := .tuple #[frV 0 0 none 0 0, .int .i64 42]) (by simp [results, Try.f12, go_sem, c0, c1, c2]) rfl (take_none HE.out (by decide) ?_)
  exact ((hBB.setCell (p := ⟨w.heap.size, 0, none⟩) (Nat.le_refl _) _).setCell (p := ⟨w.heap.size, 1, none⟩) (Nat.le_refl _) _).setCell (p := ⟨w.heap.size, 2, none⟩) (Nat.le_refl _) _

/-- What lay when the region began lies as it lay. -/
structure SB (w1 : World) (b off : Nat) (k q : Int) (W : World) : Prop where
  B : Below w1.heap.size w1 W
  lt : b < w1.heap.size
  c0 : w1.cell? ⟨b, off, none⟩ = some (.int .u8 k)
  c1 : w1.cell? ⟨b, off + 1, none⟩ = some (.int .u8 q)
theorem SB.all {w1 : World} {b off : Nat} {k q : Int} {W : World} (h : SB w1 b off k q W) : SB w1 b off k q W ∧ W.cell? ⟨b, off, none⟩ = some (.int .u8 k) ∧ W.cell? ⟨b, off + 1, none⟩ = some (.int .u8 q) :=
  ⟨h, (h.B.cell (p := ⟨b, off, none⟩) h.lt).trans h.c0, (h.B.cell (p := ⟨b, off + 1, none⟩) h.lt).trans h.c1⟩
theorem SB.drew {w1 : World} {b off : Nat} {k q : Int} {W : World} (h : SB w1 b off k q W) : SB w1 b off k q W.drew := ⟨h.B.drew, h.lt, h.c0, h.c1⟩
theorem SB.alloc {w1 : World} {b off : Nat} {k q : Int} {W : World} (h : SB w1 b off k q W) (o : Obj) : SB w1 b off k q (W.alloc o) := ⟨h.B.alloc h.B.size o, h.lt, h.c0, h.c1⟩
theorem SB.below {w1 : World} {b off : Nat} {k q : Int} {W W' : World} (h : SB w1 b off k q W) (hB : Below w1.heap.size W W') : SB w1 b off k q W' := ⟨h.B.trans hB, h.lt, h.c0, h.c1⟩

theorem SB.grown {w1 : World} {b off : Nat} {k q : Int} {W W' : World} {g : Nat} (h : SB w1 b off k q W) (hG : W.grownBy W' (some g)) (hg : w1.heap.size ≤ g) : SB w1 b off k q W' :=
  h.below ((Below.refl _ W).grown hG h.B.size (fun k e => by cases e; exact hg))
theorem SB.set3 {w1 : World} {b off : Nat} {k q : Int} {W : World} {f : Nat} (h : SB w1 b off k q W) (hf : w1.heap.size ≤ f) (u u' u'' : Value) : SB w1 b off k q (((W.setCell ⟨f, 0, none⟩ u).setCell ⟨f, 1, none⟩ u').setCell ⟨f, 2, none⟩ u'') :=
  h.below ((((Below.refl _ W).setCell (p := ⟨f, 0, none⟩) hf _).setCell (p := ⟨f, 1, none⟩) hf _).setCell (p := ⟨f, 2, none⟩) hf _)

theorem new_E0 (w1 : World) : Whole (w1.alloc (.cells #[] 5)).drew w1.heap.size 5 [] := Whole.new w1 _ []
theorem new_EF0 (w1 : World) : Whole ((w1.alloc (.cells #[] 5)).alloc (.cells #[.int .u8 0, .int .u8 0, .slice none 0 0] 24)).drew w1.heap.size 5 [] := (Whole.new w1 _ []).alloc _
theorem new_FE0 (w1 : World) : Whole ((w1.alloc (.cells #[.int .u8 0, .int .u8 0, .slice none 0 0] 24)).alloc (.cells #[] 5)).drew (w1.heap.size + 1) 5 [] := Whole.new_at (w1.alloc _) _ [] _ (by simp)
theorem new_EF (w1 : World) : Whole ((w1.alloc (.cells #[] 5)).alloc (.cells #[.int .u8 0, .int .u8 0, .slice none 0 0] 24)).drew (w1.heap.size + 1) 24 [.int .u8 0, .int .u8 0, .slice none 0 0] := Whole.new_at (w1.alloc _) _ [_, _, _] _ (by simp)
theorem new_FE (w1 : World) : Whole ((w1.alloc (.cells #[.int .u8 0, .int .u8 0, .slice none 0 0] 24)).alloc (.cells #[] 5)).drew w1.heap.size 24 [.int .u8 0, .int .u8 0, .slice none 0 0] := (Whole.new w1 _ [_, _, _]).alloc _

/-- append onto what is empty, and new, at an operation of a region that draws its order. -/
theorem step_app {ops : Array Oper} {o : Oper} {a : Act} {W : World} {K : Act → World → Prop} {Q : Exit → Act → World → Prop} {E : Prop} (hgd : o.guard = none) (s x : Operand)
    (ho : o.op = .call { callee := .builtin .append, args := #[s, x], argTypes := #[22, 22] }) (base g cap n : Nat) (A : Option Addr) (zs : List Int) (hs : a.eval s = .slice (some ⟨g, 0, none⟩) 0 0) (hx : a.eval x = .slice A n cap) (hn : n = zs.length)
    (hW : Whole W g 5 []) (hb : base ≤ g) (hr : Row W W.heap.size A (u8s zs)) (hzl : zs.length ≤ 1099511627776)
    (h : ∀ g' c' w2, w2.ownsRow base 5 1 (.slice (some ⟨g', 0, none⟩) zs.length c') zs.length (u8s zs) → W.grownBy w2 (some g) → (g' = g ∨ g' = W.heap.size) → K (a.put o.dst (.slice (some ⟨g', 0, none⟩) n c')) w2) :
    if Region.wanted o (yielded ops a.tmps) = true then Oper.wp Try.prog o a W K Q else E := by
  subst hn
  have hnew : W.ownsRow base 5 1 (.slice (some ⟨g, 0, none⟩) 0 0) 0 [] :=
    ⟨rfl, .inr ⟨_, 0, #[], rfl, hb, hW, Nat.le_refl _, Nat.zero_le _, rfl, rfl⟩⟩
  obtain ⟨g', c', w2, happ, hown, hG2, hg'⟩ := append_run (P := Try.prog) 22 o.type 5 (.int .u8 0) 1 Try.underlying22 info_u8 rfl base _ 0 0 [] (u8s zs) _ hnew W.heap.size cap A hr (u8s_one _) (by rw [u8s_length]; unfold maxLen; omega) (by rw [u8s_length]; omega) (by have := hW.lt; omega)
  rw [u8s_length, Nat.zero_add] at happ hown
  rw [List.nil_append] at hown
  rw [← hs, ← hx] at happ
  exact step_append hgd s x 22 ho happ (h g' c' w2 hown hG2 hg')

/-- The frame that the document's Take has laid out of what was opened. -/
def FrameAtR (w w1 : World) (r : Nat) (k q v : Int) (b off : Nat) (zs : List Int) (f : Value) (wx : World) : Prop :=
  ∃ Bf g2 c2, f = .pointer (some ⟨Bf, 0, none⟩) ∧ Bf ≠ r ∧ Whole wx Bf 24 [.int .u8 k, .int .u8 q, .slice (some ⟨g2, 0, none⟩) zs.length c2] ∧ Whole wx r 24 [.int .u8 0, .int .u8 0, .slice none 0 0] ∧ Below w.heap.size w wx ∧
    wx.cell? ⟨b, off + 2, none⟩ = some (.int .u8 v) ∧ b < wx.heap.size ∧ Row wx wx.heap.size (some ⟨g2, 0, none⟩) (u8s zs) ∧ g2 ≠ r

theorem frameR_new {w w1 w2 : World} {k q v : Int} {b off n g c2 : Nat} {zs : List Int} (hr : Whole w1 w.heap.size 24 [.int .u8 0, .int .u8 0, .slice none 0 0]) (hs : SB w1 b off k q w2)
    (hown : w2.ownsRow w1.heap.size 5 1 (.slice (some ⟨g, 0, none⟩) zs.length c2) zs.length (u8s zs)) (hx : w1.cell? ⟨b, off + 2, none⟩ = some (.int .u8 v)) (hB : Below w.heap.size w w1) (hn : n = zs.length) :
    FrameAtR w w1 w.heap.size k q v b off zs (.pointer (some ⟨w2.heap.size, 0, none⟩)) (w2.alloc (.cells #[.int .u8 k, .int .u8 q, .slice (some ⟨g, 0, none⟩) n c2] 24)) := by
  subst hn
  have hlt := owns_lt hown
  have h1 := hs.B.size
  have h2 := hr.lt
  have hB2 : Below w1.heap.size w1 (w2.alloc (.cells #[.int .u8 k, .int .u8 q, .slice (some ⟨g, 0, none⟩) zs.length c2] 24)) := hs.B.alloc h1 _
  refine ⟨w2.heap.size, g, c2, rfl, by omega, Whole.new w2 _ [_, _, _], hr.below hB2 h2, hB.trans (hB2.mono hB.size), (hB2.cell (p := ⟨b, off + 2, none⟩) hs.lt).trans hx, by have := hs.lt; simp; omega, ?_, by omega⟩
  have h := owns_row (owns_below hown (below1 w2 (.cells #[.int .u8 k, .int .u8 q, .slice (some ⟨g, 0, none⟩) zs.length c2] 24)) hlt.2) (B := (w2.alloc (.cells #[.int .u8 k, .int .u8 q, .slice (some ⟨g, 0, none⟩) zs.length c2] 24)).heap.size) (by simp; omega)
  exact h
theorem frameR_set {w w1 w2 : World} {k q v : Int} {b off n g c2 f : Nat} {zs : List Int} {a a' a'' : Value} (hr : Whole w1 w.heap.size 24 [.int .u8 0, .int .u8 0, .slice none 0 0]) (hs : SB w1 b off k q w2) (hf : Whole w2 f 24 [a, a', a'']) (hfl : w1.heap.size ≤ f)
    (hown : w2.ownsRow w1.heap.size 5 1 (.slice (some ⟨g, 0, none⟩) zs.length c2) zs.length (u8s zs)) (hx : w1.cell? ⟨b, off + 2, none⟩ = some (.int .u8 v)) (hB : Below w.heap.size w w1) (hn : n = zs.length) :
    FrameAtR w w1 w.heap.size k q v b off zs (.pointer (some ⟨f, 0, none⟩)) (((w2.setCell ⟨f, 0, none⟩ (.int .u8 k)).setCell ⟨f, 1, none⟩ (.int .u8 q)).setCell ⟨f, 2, none⟩ (.slice (some ⟨g, 0, none⟩) n c2)) := by
  subst hn
  have hlt := owns_lt hown
  have h1 := hs.B.size
  have h2 := hr.lt
  have hgf : g ≠ f := fun e => whole_not_row hf (by decide) hown (by subst e; rfl)
  have hB2 : Below w1.heap.size w1 (((w2.setCell ⟨f, 0, none⟩ (.int .u8 k)).setCell ⟨f, 1, none⟩ (.int .u8 q)).setCell ⟨f, 2, none⟩ (.slice (some ⟨g, 0, none⟩) zs.length c2)) := ((hs.B.setCell (p := ⟨f, 0, none⟩) hfl _).setCell (p := ⟨f, 1, none⟩) hfl _).setCell (p := ⟨f, 2, none⟩) hfl _
  refine ⟨f, g, c2, rfl, by omega, ((hf.set 0 (.int .u8 k)).set 1 (.int .u8 q)).set 2 _, hr.below hB2 h2, hB.trans (hB2.mono hB.size), (hB2.cell (p := ⟨b, off + 2, none⟩) hs.lt).trans hx, by have := hs.lt; have := hB2.size; omega, ?_, by omega⟩
  have h := owns_row hown (B := w2.heap.size) hlt.2
  exact row_set (row_set (row_set h (fun x e => by cases e; exact hgf) _) (fun x e => by cases e; exact hgf) _) (fun x e => by cases e; exact hgf) _

set_option maxRecDepth 100000 in
set_option maxHeartbeats 4000000 in
theorem takeR_good (A : Option Addr) (cap : Nat) (bs : List Int) (w : World) (k q v : Int) (zs : List Int) (hr : Row w w.heap.size A (u8s bs)) (hz : ∀ z ∈ bs, IsByte z) (hzl : bs.length ≤ 549755813888) (hcap : bs.length ≤ cap) (hl : 5 ≤ bs.length) (he : openE bs = 0) (hLz : openL bs = k :: q :: v :: zs) :
    Calls Try.prog 12 #[.slice A bs.length cap] w (TakeGives w bs) := by
  have hlen : (openL bs).length = zs.length + 3 := by rw [hLz]; rfl
  have hbytes : ∀ z ∈ k :: q :: v :: zs, IsByte z := by rw [← hLz]; exact openL_byte hz
  have hl' : (5 : Int) ≤ bs.length := by omega
  have hzs : zs.length ≤ 549755813888 := by have := openL_le bs; omega
  have HE2 := Lib.hid he
  have HL := Lib.hid hLz
  have HLN := Lib.hid hlen
  have HZ := Lib.hid hzl
  have HZS := Lib.hid (show zs.length ≤ 1099511627776 by omega)
  have HC := Lib.hid hcap
  have HBY := Lib.hid hbytes
  have HN5 := Lib.hid hl
  clear he hLz hlen hzl hcap hl hbytes
  obtain ⟨W, hW, hsz, hB, hr0⟩ := zero1 w
  have HSZ := Lib.hid hsz
  have HW := Lib.hid hW
  clear hsz hW
  go_enter Try.func12, Try.ntmps12
  go_wp2_with fail
  rw [HW.out]
  refine (openR_anyC A cap bs _ (hr.on hB) hz HZ.out HC.out).mono ?_
  rintro e w1 ⟨A', c', rfl, hr', hc', hB1⟩
  rw [HE2.out, HLN.out]
  rw [HLN.out] at hc'
  rw [HL.out] at hr'
  have hr1 := hr0.below hB1 hr0.lt
  have hBB := hB.trans (hB1.mono hB.size)
  obtain ⟨b, off, rfl, hbl, hcell⟩ := hr' (by simp [u8s])
  have x0 := hcell 0 (.int .u8 k) rfl
  have x1 := hcell 1 (.int .u8 q) rfl
  have x2 := hcell 2 (.int .u8 v) rfl
  rw [Nat.add_zero] at x0
  clear hcell
  have i0 : (0 : Int) < (zs.length : Int) + 3 := by omega
  have i1 : (1 : Int) < (zs.length : Int) + 3 := by omega
  have i2 : (2 : Int) < (zs.length : Int) + 3 := by omega
  have i3 : (3 : Int) ≤ (zs.length : Int) + 3 := by omega
  have hbr : b ≠ w.heap.size := not_frame hr1 x2
  have hrow : Row w1 w1.heap.size (some ⟨b, off + 3, none⟩) (u8s zs) := by
    have := hr'.drop 3
    exact this
  have hk : IsByte k := HBY.out k (by simp)
  have hvl : zs.length ≤ maxLen := by unfold maxLen; omega
  have HK0 := Lib.hid hk.1
  have HK1 := Lib.hid hk.2
  have HVL := Lib.hid hvl
  have HBR := Lib.hid hbr
  clear hk hvl hbr hr'
  have hsb : SB w1 b off k q w1 := ⟨Below.refl _ _, hbl, x0, x1⟩
  rcases (by omega : c' = 3 ∨ ¬ c' = 3) with rfl | hc3
  all_goals
    go_wp2_with fail
    go_cut [6] from 20 to 30 (fun f wx => FrameAtR w w1 w.heap.size k q v b off zs f wx)
    case first =>
      go_region_held3 (fun W => SB w1 b off k q W ∧ W.cell? ⟨b, off, none⟩ = some (.int .u8 k) ∧ W.cell? ⟨b, off + 1, none⟩ = some (.int .u8 q))
        (first
          | exact hsb.drew.all
          | exact (hsb.alloc _).drew.all
          | exact ((hsb.alloc _).alloc _).drew.all
          | exact hsb2.all
          | exact (hsb2.alloc _).all
          | exact (hsb2.set3 hBF _ _ _).all)
        (first
          | (refine step_app rfl (.tmp 26) (.tmp 28) rfl w1.heap.size w1.heap.size _ _ _ zs rfl rfl ?_ ?_ ?_ ?_ HZS.out ?_
             (next => omega)
             (next => exact new_E0 w1)
             (next => exact Nat.le_refl _)
             (next => first | exact row_none (by omega) | exact hrow.on (hsb.alloc _).drew.B)
             intro g' c2 w2 hown hG hg'
             have hsb2 : SB w1 b off k q w2 := (hsb.alloc _).drew.grown hG (Nat.le_refl _))
          | (refine step_app rfl (.tmp 26) (.tmp 28) rfl w1.heap.size w1.heap.size _ _ _ zs rfl rfl ?_ ?_ ?_ ?_ HZS.out ?_
             (next => omega)
             (next => exact new_EF0 w1)
             (next => exact Nat.le_refl _)
             (next => first | exact row_none (by omega) | exact hrow.on ((hsb.alloc _).alloc _).drew.B)
             intro g' c2 w2 hown hG hg'
             have hsb2 : SB w1 b off k q w2 := ((hsb.alloc _).alloc _).drew.grown hG (Nat.le_refl _)
             have hf : Whole w2 (w1.heap.size + 1) 24 [.int .u8 0, .int .u8 0, .slice none 0 0] := (new_EF w1).kept hG (by intro e; injection e with e; omega)
             have hBF : w1.heap.size ≤ w1.heap.size + 1 := Nat.le_succ _
             have y0 := hf.cell_at 0 rfl; have y1 := hf.cell_at 1 rfl; have y2 := hf.cell_at 2 rfl; have g0 := hf.frozen 0; have g1 := hf.frozen 1; have g2 := hf.frozen 2)
          | (refine step_app rfl (.tmp 26) (.tmp 28) rfl w1.heap.size (w1.heap.size + 1) _ _ _ zs rfl rfl ?_ ?_ ?_ ?_ HZS.out ?_
             (next => omega)
             (next => exact new_FE0 w1)
             (next => exact Nat.le_succ _)
             (next => first | exact row_none (by omega) | exact hrow.on ((hsb.alloc _).alloc _).drew.B)
             intro g' c2 w2 hown hG hg'
             have hsb2 : SB w1 b off k q w2 := ((hsb.alloc _).alloc _).drew.grown hG (Nat.le_succ _)
             have hf : Whole w2 w1.heap.size 24 [.int .u8 0, .int .u8 0, .slice none 0 0] := (new_FE w1).kept hG (by intro e; injection e with e; omega)
             have hBF : w1.heap.size ≤ w1.heap.size := Nat.le_refl _
             have y0 := hf.cell_at 0 rfl; have y1 := hf.cell_at 1 rfl; have y2 := hf.cell_at 2 rfl; have g0 := hf.frozen 0; have g1 := hf.frozen 1; have g2 := hf.frozen 2))
      all_goals
        go_wp2_with fail
        go_meet
        case rel =>
          first
            | exact frameR_new hr1 hsb2 hown x2 hBB (by omega)
            | exact frameR_set hr1 hsb2 hf hBF hown x2 hBB (by omega)
    case rest =>
      obtain ⟨Bf, g2, c2, rfl, hne, hf3, hr3, hb3, x2', hbx, hrow3, hgr⟩ := hcut
      clear x0 x1 x2 hrow hr1 hsb
      have z0 := hf3.cell_at 0 rfl
      have z1 := hf3.cell_at 1 rfl
      have z2 := hf3.cell_at 2 rfl
      have HNE := Lib.hid hne
      have HGR := Lib.hid hgr
      clear hne hgr
      go_wp2_with fail
      cases hright : rightF k zs.length
      · have HRT := Lib.hid hright
        have HE := Lib.hid (show takeE bs = 41 from takeE_form HE2.out (by have := HN5.out; omega) HL.out (.inl hright))
        clear hright
        refine wp_region_any (by kernel_rfl) ?_
        change wpAny _ _ _ _ _ _ _ (World.drew _)
        refine wpAny_ready (rs := [0]) (by kernel_rfl) (by simp) ?_
        refine AllReady.cons rfl (fun K hK => ?_) AllReady.nil
        go_simp
        refine hK _ _ ?_
        clear hK K
        refine wpAny_ready (rs := [1]) (by kernel_rfl) (by simp) ?_
        refine AllReady.cons rfl (fun K hK => ?_) AllReady.nil
        go_simp
        refine (rightR_no k q _ zs.length _ _ HK0.out HK1.out HVL.out HRT.out).mono ?_
        rintro e w4 ⟨rfl, hB4⟩
        have hB4 : Below wc.heap.size wc w4 := (below_drawn (Below.refl _ wc) 1).trans hB4
        have hr4 := hr3.below hB4 hr3.lt
        have r0 := hr4.cell_at 0 rfl
        have r1 := hr4.cell_at 1 rfl
        have r2 := hr4.cell_at 2 rfl
        have f0 := hr4.frozen 0
        have f1 := hr4.frozen 1
        have f2 := hr4.frozen 2
        have hBB := hb3.trans (hB4.mono hb3.size)
        go_wp2_with fail
        refine wpAny_take (i := 2) (oi := ⟨some 33, _, _, _, _, _⟩) (v := .bool true) rfl (by kernel_rfl) (by kernel_rfl) (by kernel_rfl) (fun _ _ _ h => h) (Or.inl ⟨rfl, fun w => rfl⟩) ?_
        simp only [Act.put, List.setIfInBounds_toArray, List.set_cons_zero, List.set_cons_succ]
        refine wpAny_take (i := 3) (oi := ⟨some 34, _, _, _, _, _⟩) (v := .bool true) rfl (by kernel_rfl) (by kernel_rfl) (by kernel_rfl) (fun _ _ _ h => h) (Or.inl ⟨rfl, fun w => rfl⟩) ?_
        simp only [Act.put, List.setIfInBounds_toArray, List.set_cons_zero, List.set_cons_succ]
        refine wpAny_take (i := 4) (oi := ⟨some 35, _, _, _, _, _⟩) (v := undef) rfl (by kernel_rfl) (by kernel_rfl) (by kernel_rfl) (fun _ _ _ h => h) (Or.inr ⟨rfl, rfl⟩) ?_
        simp only [Act.put, List.setIfInBounds_toArray, List.set_cons_zero, List.set_cons_succ]
        refine wpAny_take (i := 5) (oi := ⟨some 36, _, _, _, _, _⟩) (v := undef) rfl (by kernel_rfl) (by kernel_rfl) (by kernel_rfl) (fun _ _ _ h => h) (Or.inr ⟨rfl, rfl⟩) ?_
        simp only [Act.put, List.setIfInBounds_toArray, List.set_cons_zero, List.set_cons_succ]
        refine wpAny_take (i := 6) (oi := ⟨some 37, _, _, _, _, _⟩) (v := undef) rfl (by kernel_rfl) (by kernel_rfl) (by kernel_rfl) (fun _ _ _ h => h) (Or.inr ⟨rfl, rfl⟩) ?_
        simp only [Act.put, List.setIfInBounds_toArray, List.set_cons_zero, List.set_cons_succ]
        refine wpAny_take (i := 7) (oi := ⟨some 38, _, _, _, _, _⟩) (v := undef) rfl (by kernel_rfl) (by kernel_rfl) (by kernel_rfl) (fun _ _ _ h => h) (Or.inr ⟨rfl, rfl⟩) ?_
        simp only [Act.put, List.setIfInBounds_toArray, List.set_cons_zero, List.set_cons_succ]
        refine wpAny_take (i := 8) (oi := ⟨some 39, _, _, _, _, _⟩) (v := undef) rfl (by kernel_rfl) (by kernel_rfl) (by kernel_rfl) (fun _ _ _ h => h) (Or.inr ⟨rfl, rfl⟩) ?_
        simp only [Act.put, List.setIfInBounds_toArray, List.set_cons_zero, List.set_cons_succ]
        refine wpAny_take (i := 9) (oi := ⟨some 40, _, _, _, _, _⟩) (v := undef) rfl (by kernel_rfl) (by kernel_rfl) (by kernel_rfl) (fun _ _ _ h => h) (Or.inr ⟨rfl, rfl⟩) ?_
        simp only [Act.put, List.setIfInBounds_toArray, List.set_cons_zero, List.set_cons_succ]
        refine wpAny_take (i := 10) (oi := ⟨some 41, _, _, _, _, _⟩) (v := undef) rfl (by kernel_rfl) (by kernel_rfl) (by kernel_rfl) (fun _ _ _ h => h) (Or.inr ⟨rfl, rfl⟩) ?_
        simp only [Act.put, List.setIfInBounds_toArray, List.set_cons_zero, List.set_cons_succ]
        refine wpAny_take (i := 11) (oi := ⟨some 42, _, _, _, _, _⟩) (v := undef) rfl (by kernel_rfl) (by kernel_rfl) (by kernel_rfl) (fun _ _ _ h => h) (Or.inr ⟨rfl, rfl⟩) ?_
        simp only [Act.put, List.setIfInBounds_toArray, List.set_cons_zero, List.set_cons_succ]
        refine wpAny_take (i := 12) (oi := ⟨some 43, _, _, _, _, _⟩) (v := .bool true) rfl (by kernel_rfl) (by kernel_rfl) (by kernel_rfl) (fun _ _ _ h => h) (Or.inl ⟨rfl, fun w => rfl⟩) ?_
        simp only [Act.put, List.setIfInBounds_toArray, List.set_cons_zero, List.set_cons_succ]
        refine wpAny_done (by kernel_rfl) ?_ _
        go_wp2_with fail
        all_goals
          have hw := ((hr4.set 0 (.int .u8 0)).set 1 (.int .u8 0)).set 2 (.slice none 0 0)
          have c0 := hw.cell_at 0 rfl
          have c1 := hw.cell_at 1 rfl
          have c2 := hw.cell_at 2 rfl
          refine bodyPost_ret (v := .tuple #[frV 0 0 none 0 0, .int .i64 41]) (by simp [results, Try.f12, go_sem, c0, c1, c2]) rfl (take_none HE.out (by decide) ?_)
          exact ((hBB.setCell (p := ⟨w.heap.size, 0, none⟩) (Nat.le_refl _) _).setCell (p := ⟨w.heap.size, 1, none⟩) (Nat.le_refl _) _).setCell (p := ⟨w.heap.size, 2, none⟩) (Nat.le_refl _) _
      · have HRT := Lib.hid hright
        by_cases hv : (zs.length : Int) = v
        · have HE := Lib.hid (show takeE bs = 0 from takeE_fine HE2.out (by have := HN5.out; omega) HL.out hright hv)
          have hv' : (v != (zs.length : Int)) = false := by simpa using hv.symm
          clear hv hright
          have hwv : IntKind.i64.wrap v = v := by
            have h := HBY.out v (by simp)
            exact IntWalk.i64_in _ (by have := h.1; have := h.2; omega)
          go_region_with (go_at_call 16; (refine (rightR_yes k q _ zs.length _ _ HK0.out HK1.out HVL.out HRT.out).mono ?_); rintro e w4 ⟨rfl, hB4⟩; have hB4 : Below wc.heap.size wc w4 := (below_drawn (Below.refl _ wc) 1).trans hB4; have hf4 := hf3.below hB4 hf3.lt; have hr4 := hr3.below hB4 hr3.lt; have z0' := hf4.cell_at 0 rfl; have z1' := hf4.cell_at 1 rfl; have z2' := hf4.cell_at 2 rfl; have x2'' := (hB4.cell (p := ⟨b, off + 2, none⟩) hbx).trans x2'; have r0 := hr4.cell_at 0 rfl; have r1 := hr4.cell_at 1 rfl; have r2 := hr4.cell_at 2 rfl; have f0 := hr4.frozen 0; have f1 := hr4.frozen 1; have f2 := hr4.frozen 2; have hBB := hb3.trans (hB4.mono hb3.size))
          all_goals
            go_wp2_with fail
            have hw := ((hr4.set 0 (.int .u8 k)).set 1 (.int .u8 q)).set 2 (.slice (some ⟨g2, 0, none⟩) zs.length c2)
            have c0 := hw.cell_at 0 rfl
            have c1 := hw.cell_at 1 rfl
            have c2' := hw.cell_at 2 rfl
            refine bodyPost_ret (v := .tuple #[frV k q (some ⟨g2, 0, none⟩) zs.length c2, .int .i64 0]) (by simp [results, Try.f12, go_sem, c0, c1, c2']) rfl (take_some HE.out HL.out ?_ ?_)
            · have h4 : Row w4 w4.heap.size (some ⟨g2, 0, none⟩) (u8s zs) := hrow3.on hB4
              exact row_set (row_set (row_set h4 (fun x h => by cases h; exact HGR.out) _) (fun x h => by cases h; exact HGR.out) _) (fun x h => by cases h; exact HGR.out) _
            · exact ((hBB.setCell (p := ⟨w.heap.size, 0, none⟩) (Nat.le_refl _) _).setCell (p := ⟨w.heap.size, 1, none⟩) (Nat.le_refl _) _).setCell (p := ⟨w.heap.size, 2, none⟩) (Nat.le_refl _) _
        · have HE := Lib.hid (show takeE bs = 41 from takeE_form HE2.out (by have := HN5.out; omega) HL.out (.inr hv))
          have hv' : (v != (zs.length : Int)) = true := by simp; exact fun h => hv h.symm
          clear hv hright
          have hwv : IntKind.i64.wrap v = v := by
            have h := HBY.out v (by simp)
            exact IntWalk.i64_in _ (by have := h.1; have := h.2; omega)
          go_region_with (go_at_call 16; (refine (rightR_yes k q _ zs.length _ _ HK0.out HK1.out HVL.out HRT.out).mono ?_); rintro e w4 ⟨rfl, hB4⟩; have hB4 : Below wc.heap.size wc w4 := (below_drawn (Below.refl _ wc) 1).trans hB4; have hf4 := hf3.below hB4 hf3.lt; have hr4 := hr3.below hB4 hr3.lt; have z0' := hf4.cell_at 0 rfl; have z1' := hf4.cell_at 1 rfl; have z2' := hf4.cell_at 2 rfl; have x2'' := (hB4.cell (p := ⟨b, off + 2, none⟩) hbx).trans x2'; have r0 := hr4.cell_at 0 rfl; have r1 := hr4.cell_at 1 rfl; have r2 := hr4.cell_at 2 rfl; have f0 := hr4.frozen 0; have f1 := hr4.frozen 1; have f2 := hr4.frozen 2; have hBB := hb3.trans (hB4.mono hb3.size))
          all_goals
            go_wp2_with fail
            have hw := ((hr4.set 0 (.int .u8 0)).set 1 (.int .u8 0)).set 2 (.slice none 0 0)
            have c0 := hw.cell_at 0 rfl
            have c1 := hw.cell_at 1 rfl
            have c2 := hw.cell_at 2 rfl
            refine bodyPost_ret (v := .tuple #[frV 0 0 none 0 0, .int .i64 41]) (by simp [results, Try.f12, go_sem, c0, c1, c2]) rfl (take_none HE.out (by decide) ?_)
            exact ((hBB.setCell (p := ⟨w.heap.size, 0, none⟩) (Nat.le_refl _) _).setCell (p := ⟨w.heap.size, 1, none⟩) (Nat.le_refl _) _).setCell (p := ⟨w.heap.size, 2, none⟩) (Nat.le_refl _) _
end Go.Proofs.Ytgpofgepffhcnaa
