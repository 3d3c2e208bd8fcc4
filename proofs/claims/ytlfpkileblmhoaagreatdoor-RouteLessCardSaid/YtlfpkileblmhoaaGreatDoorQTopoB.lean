/- Package topo: is an exit's overlap one? -/
import Derived.Deep.CutRange
import Derived.Test.YtlfpkileblmhoaaGreatDoorQH
import Derived.Test.YtlfpkileblmhoaaGreatDoorQLayOneM
import Derived.Test.YtlfpkileblmhoaaGreatDoorQMixW
import Derived.Test.YtlfpkileblmhoaaGreatDoorQA
namespace Go.Proofs.YtlfpkileblmhoaaGreatDoor
open Go.RowKit Go.Shelf
set_option linter.unusedVariables false
set_option linter.unusedSimpArgs false

set_option maxHeartbeats 2000000 in
theorem indexI_any {l : List Int} {A : Option Addr} {c B : Nat} {w : World} (v : Int) (hR : Row w B A (nums .i64 l)) (hn : (l.length : Int) ≤ 9223372036854775807) :
    Calls Tryz.prog 149 #[.slice A l.length c, .int .i64 v] w fun e w' => e = .returned (.int .i64 (idxV (fun x => v == x) l)) ∧ w' = w := by
  go_enter Tryz.func149, Tryz.ntmps149
  go_wp2_with fail
  go_loopw [8] (fun i wr => ∃ j : Nat, j ≤ l.length ∧ i = .int .i64 j ∧ wr = w ∧ Hid (NoneUp (fun x => v == x) l j))
    (fun i _ => l.length - (intOf i).toNat)
  case atStart => exact ⟨0, by omega, rfl, rfl, Lib.hid (NoneUp.zero _ _)⟩
  case round =>
    obtain ⟨j, hj, rfl, rfl, HNo⟩ := hrel
    by_cases hlt : j < l.length
    · have hlt' : (j : Int) < l.length := by omega
      obtain ⟨x, hx⟩ : ∃ x, l[j]? = some x := ⟨_, List.getElem?_eq_getElem hlt⟩
      have HX := Lib.hid hx
      clear hx
      obtain ⟨b, off, rfl, _, c0⟩ : ∃ b off, A = some ⟨b, off, none⟩ ∧ b < B ∧ wr.cell? ⟨b, off + j, none⟩ = some (.int .i64 x) := by
        obtain ⟨b, off, e, h1, h2⟩ := hR.num hlt
        rw [HX.out] at h2
        exact ⟨b, off, e, h1, h2⟩
      by_cases hpr : v = x
      · have HI := Lib.hid (HNo.out.idx HX.out (show (v == x) = true by simp [hpr]))
        subst hpr
        go_wp2_with fail
        go_ret
        exact ⟨ret_int HI.out.symm, rfl⟩
      · have HN := Lib.hid (HNo.out.succ HX.out (show (v == x) = false by simp [hpr]))
        go_wp2_with fail
        go_roundw
        case rel => exact ⟨j + 1, hlt, by go_num, by trivial, HN⟩
        case measure => simp [intOf]; omega
    · obtain rfl : j = l.length := by omega
      have HI := Lib.hid HNo.out.idx_no
      go_wp2_with fail
      go_ret
      exact ⟨ret_int HI.out.symm, rfl⟩
theorem idx_contains (l : List Int) (v : Int) : (decide (0 ≤ idxV (fun x => v == x) l)) = l.contains v := by
  rw [Bool.eq_iff_iff, decide_eq_true_eq, List.contains_iff_mem]
  unfold idxV
  cases e : l.findIdx? (fun x => v == x) with
  | none =>
    simp only [List.findIdx?_eq_none_iff] at e
    constructor
    · intro h
      simp at h
    · intro h
      have := e v h
      simp at this
  | some i =>
    obtain ⟨hi, hp, _⟩ := List.findIdx?_eq_some_iff_getElem.1 e
    constructor
    · intro _
      have : v = l[i] := by simpa using hp
      rw [this]
      exact List.getElem_mem hi
    · intro _
      simp
theorem containsI_any {l : List Int} {A : Option Addr} {c B : Nat} {w : World} (v : Int) (hR : Row w B A (nums .i64 l)) (hn : (l.length : Int) ≤ 9223372036854775807) {r : Bool} (hr : l.contains v = r) :
    Calls Tryz.prog 146 #[.slice A l.length c, .int .i64 v] w fun e w' => e = .returned (.bool r) ∧ w' = w := by
  have hx := (idx_contains l v).trans hr
  clear hr
  go_enter Tryz.func146, Tryz.ntmps146
  go_wp2_with fail
  refine (indexI_any v hR hn).mono ?_
  rintro e w' ⟨rfl, rfl⟩
  generalize idxV (fun x => v == x) l = z at hx
  go_wp2_with fail
  go_ret
  exact ⟨rfl, rfl⟩

/-- What a round of overRight knows: where it stands, what it went through. -/
structure OvI (l : Lay) (x : Exm) (w : World) (gf : Nat) (p : Int × Int) (A : Option Addr) (c : Nat) (seen : List Int) (W : World) : Prop where
  below : Below w.heap.size w W
  boxL : Whole W w.heap.size 29 l.cells
  boxX : Whole W (w.heap.size + 1) 59 x.cells
  boxF : Whole W gf 46 (prtCells p)
  low : w.heap.size + 2 ≤ gf
  own : W.ownsRow (w.heap.size + 2) 3 1 (.slice A seen.length c) seen.length (nums .i64 seen)
theorem OvI.keep {l : Lay} {x : Exm} {w W W' : World} {gf : Nat} {p : Int × Int} {A : Option Addr} {c : Nat} {seen : List Int} (h : OvI l x w gf p A c seen W) (hb : Below W.heap.size W W') : OvI l x w gf p A c seen W' :=
  ⟨h.below.trans (hb.mono h.below.size), h.boxL.below hb h.boxL.lt, h.boxX.below hb h.boxX.lt, h.boxF.below hb h.boxF.lt, h.low, owns_keep h.own hb⟩
theorem OvI.closed (l : Lay) (x : Exm) (w : World) (gf : Nat) (p : Int × Int) (A : Option Addr) (c : Nat) (seen : List Int) : Closed (OvI l x w gf p A c seen) := fun _ _ h hb => h.keep hb

theorem owns_one {W : World} {base g : Nat} {e : TypeId} {v : Value} (h : Whole W g e [v]) (hb : base ≤ g) : W.ownsRow base e 1 (.slice (some ⟨g, 0, none⟩) 1 1) 1 [v] :=
  owns_of_whole h hb (Nat.le_refl _) (by unfold maxLen; omega) rfl
theorem OvI.start {l : Lay} {x : Exm} {w W0 W : World} {gf ga : Nat} (hB : Below w.heap.size w W0) (b0 : Whole W0 w.heap.size 29 l.cells) (b1 : Whole W0 (w.heap.size + 1) 59 x.cells) (hsz : W0.heap.size = w.heap.size + 2)
    (hW : Below W0.heap.size W0 W) (hF : Whole W gf 46 (prtCells (x.s, x.q))) (hA : Whole W ga 3 [.int .i64 x.s]) (hf : W0.heap.size ≤ gf) (ha : W0.heap.size ≤ ga) : OvI l x w gf (x.s, x.q) (some ⟨ga, 0, none⟩) 1 [x.s] W :=
  ⟨hB.trans (hW.mono hB.size), b0.below hW b0.lt, b1.below hW b1.lt, hF, by omega, owns_one hA (by omega)⟩
theorem owns_not {W : World} {base e s n g : Nat} {v : Value} {xs : List Value} {t : TypeId} {cs : List Value} (h : W.ownsRow base e s v n xs) (hF : Whole W g t cs) (he : e ≠ t) : v.ownBlock ≠ some g := by
  rcases h.2 with ⟨rfl, _⟩ | ⟨g', cap, cur, rfl, h3, h4, _⟩
  · intro e; cases e
  · intro e
    have : g' = g := by simpa [Value.ownBlock] using e
    subst this
    have h5 := h4.symm.trans hF
    cases h5
    exact he rfl
theorem whole_ne {W : World} {a b : Nat} {t t' : TypeId} {cs cs' : List Value} (h : Whole W a t cs) (k : Whole W b t' cs') (he : t ≠ t') : a ≠ b := by
  rintro rfl
  have h5 := h.symm.trans k
  cases h5
  exact he rfl
theorem owns_past {w : World} {base e size n : Nat} {v : Value} {xs : List Value} (h : w.ownsRow base e size v n xs) {p : Addr} (hp : v.ownBlock ≠ some p.block) (u : Value) : (w.setCell p u).ownsRow base e size v n xs :=
  h.kept (row := some p.block) ⟨rfl, rfl, rfl, by simp [World.setCell], fun k _ hk => Below.heap_setCell _ _ _ _ (fun e => hk (by rw [e]))⟩ (by
    rcases h.2 with ⟨rfl, _⟩ | ⟨g, cap, cur, rfl, h3, _⟩
    · exact .inl rfl
    · exact .inr hp)
/-- A section more is seen. -/
theorem OvI.append {l : Lay} {x : Exm} {w W : World} {gf : Nat} {p : Int × Int} {A : Option Addr} {c : Nat} {seen : List Int} (h : OvI l x w gf p A c seen W) {m : Int} {a : Nat} (ha : Whole W a 3 [.int .i64 m]) (hn : seen.length ≤ 1000) {g : Nat} {cs : List Value} (hg : Whole W g 50 cs) :
    ∃ A' c' w', (Builtin.append_ #[33, 33] 33 #[.slice A seen.length c, .slice (some ⟨a, 0, none⟩) 1 1]).run Tryz.prog W = .ok (.slice A' (seen ++ [m]).length c') w' ∧ OvI l x w gf p A' c' (seen ++ [m]) w' ∧ Whole w' g 50 cs := by
  have hlo : w.heap.size + 2 ≤ W.heap.size := h.boxX.lt
  obtain ⟨v', w', hrun, hown, hgr, hB⟩ := append_int (w.heap.size + 2) seen.length _ (nums .i64 seen) m W a h.own (ha.cell_at 0 rfl) hn hlo
  obtain ⟨A', c', rfl, _, _⟩ := owns_slice hown
  have e : (nums .i64 (seen ++ [m])) = nums .i64 seen ++ [.int .i64 m] := by simp [nums]
  refine ⟨A', c', w', by rw [List.length_append]; exact hrun, ⟨h.below.trans (hB.mono (by omega)), h.boxL.below hB (by omega), h.boxX.below hB (by omega), h.boxF.kept hgr (owns_not h.own h.boxF (by decide)).symm, h.low, ?_⟩, hg.kept hgr (owns_not h.own hg (by decide)).symm⟩
  rw [e, List.length_append]
  exact hown
/-- The port from which it goes on is turned. -/
theorem OvI.store {l : Lay} {x : Exm} {w W : World} {gf : Nat} {p : Int × Int} {A : Option Addr} {c : Nat} {seen : List Int} (h : OvI l x w gf p A c seen W) (a b : Int) : OvI l x w gf (a, b) A c seen ((W.setCell ⟨gf, 0, none⟩ (.int .i64 a)).setCell ⟨gf, 1, none⟩ (.int .i64 b)) := by
  have hl := h.low
  have hb : ∀ v u, Below (w.heap.size + 2) W ((W.setCell ⟨gf, 0, none⟩ v).setCell ⟨gf, 1, none⟩ u) := fun v u => ((Below.refl _ W).setCell (p := ⟨gf, 0, none⟩) hl v).setCell (p := ⟨gf, 1, none⟩) hl u
  have hn := owns_not h.own h.boxF (by decide)
  exact ⟨h.below.trans ((hb _ _).mono (by omega)), h.boxL.below (hb _ _) (by omega), h.boxX.below (hb _ _) (by omega), (h.boxF.set 0 _).set 1 _, h.low, owns_past (p := ⟨gf, 1, none⟩) (owns_past (p := ⟨gf, 0, none⟩) h.own hn _) hn _⟩

set_option maxRecDepth 100000 in
set_option maxHeartbeats 16000000 in
theorem over_any {l : Lay} {x : Exm} {w : World} (hT : Shapes w) (hL : Lies l w) (hO : Row w w.heap.size x.A (x.over.flatMap stpCells)) (hn : (x.over.length : Int) ≤ 1000) {r : Bool} (hr : overV l x = r) :
    Calls Tryz.prog 135 #[l.val, x.val] w fun e w' => e = .returned (.bool r) ∧ Below w.heap.size w w' := by
  have HTW : Hid (∀ W, Below w.heap.size w W → Shapes W ∧ Lies l W ∧ Row W w.heap.size x.A (x.over.flatMap stpCells)) := Lib.hid fun W hB => ⟨Shapes.closed _ _ hT hB, Lies.closed l _ _ hL hB, hO.below hB⟩
  have HR := Lib.hid hr
  clear hT hL hO hr
  obtain ⟨W0, hW0⟩ : ∃ W0, (w.alloc (.cells #[.slice l.As l.secs.length l.cs, .slice l.Ag l.sigs.length l.cg, .slice l.Ae l.exits.length l.ce, .slice l.Af l.flanks.length l.cf, .int .i64 l.t0, .int .i64 l.t1, .int .i64 l.t2, .int .i64 l.t3, .int .i64 l.t4, .int .i64 l.t5, .int .i64 l.t6] 29)).alloc (.cells #[.int .i64 x.s, .int .i64 x.q, .slice x.A x.over.length x.c] 59) = W0 := ⟨_, rfl⟩
  have HSZ : Hid (W0.heap.size = w.heap.size + 2) := Lib.hid (by rw [← hW0]; simp)
  have HB0 : Hid (Below w.heap.size w W0) := Lib.hid (by rw [← hW0]; exact below2 _ _ _)
  have b0 : Whole W0 w.heap.size 29 l.cells := by rw [← hW0]; exact (Whole.new w _ l.cells).alloc _
  have b1 : Whole W0 (w.heap.size + 1) 59 x.cells := by rw [← hW0]; exact Whole.new_at _ _ x.cells _ (by simp)
  have HW0 := Lib.hid hW0
  clear hW0
  have x0 := b1.cell_at 0 rfl
  have x1 := b1.cell_at 1 rfl
  go_enter Tryz.func135, Tryz.ntmps135
  go_wp2_with fail
  refine wp_scope_fwd (l := 0) rfl ?_
  rw [HW0.out]
  go_upto_region 1 with (fail)
  go_cut [5, 6] from 9 to 15 (fun f t wx => ∃ gf A c, f = .pointer (some ⟨gf, 0, none⟩) ∧ t = .slice A [x.s].length c ∧ Hid (OvI l x w gf (x.s, x.q) A c [x.s] wx))
  case first =>
    have y0 := fun o => (b1.alloc o).cell_at 0 rfl
    have y1 := fun o => (b1.alloc o).cell_at 1 rfl
    have y2 := fun o o' => ((b1.alloc o).alloc o').cell_at 0 rfl
    have y3 := fun o o' => ((b1.alloc o).alloc o').cell_at 1 rfl
    have y4 := fun o u v => (((b1.alloc o).far (p := ⟨W0.heap.size, 0, none⟩) (by show w.heap.size + 1 ≠ W0.heap.size; rw [HSZ.out]; omega) u).far (p := ⟨W0.heap.size, 1, none⟩) (by show w.heap.size + 1 ≠ W0.heap.size; rw [HSZ.out]; omega) v).cell_at 0 rfl
    go_region
    · go_wp2_with fail
      go_meet
      exact ⟨W0.heap.size + 1, some ⟨W0.heap.size, 0, none⟩, 1, rfl, rfl, Lib.hid (OvI.start HB0.out b0 b1 HSZ.out (below2 W0 _ _).drew (Whole.new_at _ _ (prtCells (x.s, x.q)) _ (by simp)) ((Whole.new W0 _ [_]).alloc _) (by omega) (Nat.le_refl _))⟩
    · go_wp2_with fail
      go_meet
      exact ⟨W0.heap.size, some ⟨W0.heap.size + 1, 0, none⟩, 1, rfl, rfl, Lib.hid (OvI.start HB0.out b0 b1 HSZ.out (below2 W0 _ _).drew ((Whole.new W0 _ (prtCells (x.s, x.q))).alloc _) (Whole.new_at _ _ [_] _ (by simp)) (Nat.le_refl _) (by omega))⟩
  case rest =>
    obtain ⟨gf, A, c, rfl, rfl, HO⟩ := hcut
    clear x0 x1 b0 b1 HSZ HB0 HW0
    have x2 := HO.out.boxX.cell_at 2 rfl
    go_wp2_with fail
    clear x2
    go_loopw [18, 6] (fun i t wr => ∃ (j : Nat) (p : Int × Int) (A : Option Addr) (c : Nat) (seen : List Int), j ≤ x.over.length ∧ i = .int .i64 j ∧ t = .slice A seen.length c ∧ Hid (OvI l x w gf p A c seen wr ∧ overGo l p seen (x.over.drop j) = r ∧ seen.length = j + 1)) (fun i _ _ => x.over.length - (intOf i).toNat)
    case atStart => exact ⟨0, (x.s, x.q), A, c, [x.s], by omega, rfl, rfl, Lib.hid ⟨HO.out, by rw [← HR.out]; rfl, rfl⟩⟩
    case round =>
      clear HO
      obtain ⟨j, p, A, c, seen, hj, rfl, rfl, HM⟩ := hrel
      by_cases hlt : j < x.over.length
      · have hlt' : (j : Int) < x.over.length := by omega
        obtain ⟨s, hs⟩ : ∃ s, x.over[j]? = some s := ⟨_, List.getElem?_eq_getElem hlt⟩
        have HS := Lib.hid hs
        obtain ⟨b, off, hA, _, hc0, hc⟩ := (HTW.out _ HM.out.1.below).2.2.nth (n := 3) (fun _ => rfl) (by omega) hs
        have c0 := hc0 j _ _ hs rfl
        have c1 := hc j _ 1 _ hs rfl
        have c2 := hc j _ 2 _ hs rfl
        clear hs hc0 hc
        rw [hA]
        obtain ⟨ss, si, so⟩ := s
        go_upto_region 5 with (fail)
        obtain ⟨g, hg⟩ : ∃ g, wr.heap.size = g := ⟨_, rfl⟩
        obtain ⟨W1, hW1⟩ : ∃ W1, wr.alloc (.cells #[.int .i64 ss, .int .i64 si, .int .i64 so] 50) = W1 := ⟨_, rfl⟩
        have hgW : Whole W1 g 50 (stpCells (ss, si, so)) := by rw [← hW1]; exact Whole.new_at _ _ (stpCells (ss, si, so)) _ hg.symm
        have hO1 : OvI l x w gf p A c seen W1 := by rw [← hW1]; exact HM.out.1.keep (below1 wr _)
        have HOG : Hid (overGo l p seen ((ss, si, so) :: x.over.drop (j + 1)) = r) := Lib.hid (by rw [← HM.out.2.1, drop_at HS.out])
        have HLN := Lib.hid HM.out.2.2
        have hglo : w.heap.size + 2 ≤ g := by have := HM.out.1.boxX.lt; omega
        rw [hW1, hg]
        clear hW1 HM hg c0 c1 c2
        obtain ⟨Q, HQ, HQx, hq⟩ : ∃ Q : World → Prop, Hid (Closed Q) ∧ Hid (∀ W, Q W → OvI l x w gf p A c seen W ∧ Whole W g 50 (stpCells (ss, si, so))) ∧ Q W1 :=
          ⟨fun W => OvI l x w gf p A c seen W ∧ Whole W g 50 (stpCells (ss, si, so)), Lib.hid ((OvI.closed _ _ _ _ _ _ _ _).and (Closed.whole _ _ _)), Lib.hid fun _ h => h, hO1, hgW⟩
        clear hO1 hgW
        obtain ⟨⟨qs, qq⟩, hqv⟩ : ∃ q, beyondV l p.1 p.2 = q := ⟨_, rfl⟩
        have KB := Lib.hid (fun W hW => beyond_B (w := W) (HTW.out W (HQx.out W hW).1.below).1 (HTW.out W (HQx.out W hW).1.below).2.1 p.1 p.2 hqv)
        have HQV := Lib.hid hqv
        clear hqv
        by_cases he : qs = ss ∧ qq = si
        · obtain ⟨rfl, rfl⟩ := he
          have HBS : Hid (∀ W, Below W1.heap.size W1 W → Q W) := Lib.hid (fun W hB => HQ.out _ _ hq hB)
          clear hq
          refine region_mix (Below W1.heap.size W1) [(0, false), (1, false), (2, false), (3, false), (4, false), (5, false), (6, false), (7, false), (8, false)] (by kernel_rfl) (by kernel_rfl) (Below W1.heap.size W1) ⟨Closed.below W1, fun _ h => h⟩ (Below.refl _ _).drew ?_
          simp only [pickOps, List.getElem?_cons_zero, List.getElem?_cons_succ]
          repeat (first | (refine mix_skip (by rfl) ?_; simp only [Act.put, List.setIfInBounds_toArray, List.set_cons_zero, List.set_cons_succ]) | (refine mix_read _ (by rfl) (fun W hW => by (have hW := HBS.out W hW; obtain ⟨hO, hs⟩ := HQx.out W hW; have x0 := hO.boxL.cell_at 0 rfl; have x1 := hO.boxL.cell_at 1 rfl; have x2 := hO.boxL.cell_at 2 rfl; have x3 := hO.boxL.cell_at 3 rfl; have x4 := hO.boxL.cell_at 4 rfl; have x5 := hO.boxL.cell_at 5 rfl; have x6 := hO.boxL.cell_at 6 rfl; have x7 := hO.boxL.cell_at 7 rfl; have x8 := hO.boxL.cell_at 8 rfl; have x9 := hO.boxL.cell_at 9 rfl; have x10 := hO.boxL.cell_at 10 rfl; have p0 := hO.boxF.cell_at 0 rfl; have p1 := hO.boxF.cell_at 1 rfl; have s0 := hs.cell_at 0 rfl; have s1 := hs.cell_at 1 rfl; have s2 := hs.cell_at 2 rfl; clear hO hs; go_simp; first | done | with_reducible rfl)) ?_; simp only [Act.put, List.setIfInBounds_toArray, List.set_cons_zero, List.set_cons_succ]) | (refine mix_call _ _ _ (by rfl) (fun W hW => by (have hW := HBS.out W hW; obtain ⟨hO, hs⟩ := HQx.out W hW; have x0 := hO.boxL.cell_at 0 rfl; have x1 := hO.boxL.cell_at 1 rfl; have x2 := hO.boxL.cell_at 2 rfl; have x3 := hO.boxL.cell_at 3 rfl; have x4 := hO.boxL.cell_at 4 rfl; have x5 := hO.boxL.cell_at 5 rfl; have x6 := hO.boxL.cell_at 6 rfl; have x7 := hO.boxL.cell_at 7 rfl; have x8 := hO.boxL.cell_at 8 rfl; have x9 := hO.boxL.cell_at 9 rfl; have x10 := hO.boxL.cell_at 10 rfl; have p0 := hO.boxF.cell_at 0 rfl; have p1 := hO.boxF.cell_at 1 rfl; have s0 := hs.cell_at 0 rfl; have s1 := hs.cell_at 1 rfl; have s2 := hs.cell_at 2 rfl; clear hO hs; go_simp; first | done | rfl)) (fun W hW => KB.out W (HBS.out W hW)) ?_; simp only [Act.put, List.setIfInBounds_toArray, List.set_cons_zero, List.set_cons_succ]))
          refine mix_nil (fun W hW => ?_)
          have hq := HBS.out W hW
          clear hW HBS
          obtain ⟨cv, hcv⟩ : ∃ cv, seen.contains qs = cv := ⟨_, rfl⟩
          have HCV := Lib.hid hcv
          have hRow : Row W W.heap.size A (nums .i64 seen) := by
            obtain ⟨A', c', e, h, _⟩ := owns_slice (HQx.out W hq).1.own
            cases e
            exact h
          have s0 := (HQx.out W hq).2.cell_at 0 rfl
          have KC := Lib.hid (containsI_any (c := c) qs hRow (by rw [HLN.out]; omega) hcv)
          clear hcv hRow
          go_wp2_with fail
          refine KC.out.mono ?_
          clear s0 KC
          rintro e w' ⟨rfl, rfl⟩
          have HQW := Lib.hid hq
          clear hq
          cases cv
          · have HG : Hid (overGo l (qs, so) (seen ++ [qs]) (x.over.drop (j + 1)) = r) := Lib.hid (by have := HOG.out; unfold overGo at this; rw [HQV.out, decide_eq_true rfl, HCV.out] at this; simpa using this)
            clear HOG
            go_upto_region 7 with (fail)
            have HX : Hid (∀ W, Below w'.heap.size w' W → OvI l x w gf p A c seen W ∧ Whole W g 50 (stpCells (qs, qq, so))) := Lib.hid fun W hW => ⟨(HQx.out _ HQW.out).1.keep hW, (HQx.out _ HQW.out).2.below hW (HQx.out _ HQW.out).2.lt⟩
            have HL1 : Hid (seen.length ≤ 1000) := Lib.hid (by rw [HLN.out]; omega)
            have HSn : Hid (w.heap.size + 2 ≤ w'.heap.size) := Lib.hid (HQx.out _ HQW.out).1.boxX.lt
            refine region_mix (fun W => Whole W g 50 (stpCells (qs, qq, so))) [(0, false), (1, false), (2, false), (3, false), (4, false), (5, false), (6, false), (7, false), (8, true), (9, true), (10, true), (11, false)] (by kernel_rfl) (by kernel_rfl) (fun W => Below w'.heap.size w' W ∧ (OvI l x w gf p A c seen W ∧ Whole W g 50 (stpCells (qs, qq, so)))) ⟨(Closed.below w').and ((OvI.closed _ _ _ _ _ _ _ _).and (Closed.whole _ _ _)), fun _ h => h.2.2⟩ ⟨(Below.refl _ _).drew, HX.out _ (Below.refl _ _).drew⟩ ?_
            simp only [pickOps, List.getElem?_cons_zero, List.getElem?_cons_succ]
            repeat (first | (refine mix_skip (by rfl) ?_; simp only [Act.put, List.setIfInBounds_toArray, List.set_cons_zero, List.set_cons_succ]) | (refine mix_read _ (by rfl) (fun W hs => by (have s0 := hs.cell_at 0 rfl; have s1 := hs.cell_at 1 rfl; have s2 := hs.cell_at 2 rfl; clear hs; go_simp; first | done | with_reducible rfl)) ?_; simp only [Act.put, List.setIfInBounds_toArray, List.set_cons_zero, List.set_cons_succ]))
            refine mix_make (fun g => .slice (some ⟨g, 0, none⟩) 1 1) w'.heap.size 3 [.int .i64 qs] ⟨(Closed.below w').and ((OvI.closed _ _ _ _ _ _ _ _).and (Closed.whole _ _ _)), fun _ h => h.2.2⟩ (fun _ h => h.1.size) (by rfl) (fun W hW => by (clear hW; go_simp; first | done | with_reducible rfl)) (fun ga hga => ?_)
            simp only [Act.put, List.setIfInBounds_toArray, List.set_cons_zero, List.set_cons_succ]
            refine mix_yield (X := Option Addr × Nat) (fun B => .slice B.1 (seen ++ [qs]).length B.2) (fun B W => OvI l x w gf p B.1 B.2 (seen ++ [qs]) W ∧ Whole W g 50 (stpCells (qs, qq, so))) (fun B => ⟨(OvI.closed _ _ _ _ _ _ _ _).and (Closed.whole _ _ _), fun W h => h.2⟩) (by rfl) (fun W hW => ?_) (fun B => ?_)
            · obtain ⟨A2, c2, w6, h1, h2, h3⟩ := hW.1.2.1.append hW.2 HL1.out hW.1.2.2
              exact ⟨(A2, c2), w6, exec_append (.tmp 40) (.tmp 43) 33 rfl h1, h2, h3⟩
            simp only [Act.put, List.setIfInBounds_toArray, List.set_cons_zero, List.set_cons_succ]
            refine mix_within 46 (.tmp 5) (.tmp 39) gf 0 [.int .i64 qs, .int .i64 so] (fun W => OvI l x w gf (qs, so) B.1 B.2 (seen ++ [qs]) W ∧ Whole W g 50 (stpCells (qs, qq, so))) ⟨(OvI.closed _ _ _ _ _ _ _ _).and (Closed.whole _ _ _), fun W h => h.2⟩ rfl (by rfl) (by rfl) (by kernel_rfl) (by rfl) (by rfl) (fun W hW => hW.1.boxF.there) (fun W hW => ⟨hW.1.store qs so, ?_⟩) ?_
            · have hne := whole_ne hW.1.boxF hW.2 (by decide)
              exact (hW.2.far (p := ⟨gf, 0, none⟩) (fun e => hne e.symm) _).far (p := ⟨gf, 1, none⟩) (fun e => hne e.symm) _
            simp only [Act.put, List.setIfInBounds_toArray, List.set_cons_zero, List.set_cons_succ]
            repeat (first | (refine mix_skip (by rfl) ?_; simp only [Act.put, List.setIfInBounds_toArray, List.set_cons_zero, List.set_cons_succ]) | (refine mix_read _ (by rfl) (fun W hs => by (clear hs; go_simp; first | done | with_reducible rfl)) ?_; simp only [Act.put, List.setIfInBounds_toArray, List.set_cons_zero, List.set_cons_succ]))
            refine mix_nil (fun W hW => ?_)
            have HOW := Lib.hid hW.1
            clear hW
            go_wp2_with fail
            go_roundw
            case rel => exact ⟨j + 1, (qs, so), B.1, B.2, seen ++ [qs], hlt, by go_num, by rw [List.length_append]; rfl, Lib.hid ⟨HOW.out, HG.out, by rw [List.length_append, HLN.out]; rfl⟩⟩
            case measure => simp [intOf]; omega
          · have HF : Hid (false = r) := Lib.hid (by have := HOG.out; unfold overGo at this; rw [HQV.out, decide_eq_true rfl, HCV.out] at this; simpa using this)
            have HB := Lib.hid (HQx.out _ HQW.out).1.below
            clear HQW HOG
            go_wp2_with fail
            go_step3
            simp +zetaDelta only [Exit.inBlock, Exit.then, fwd_goto]
            refine ⟨trivial, ?_⟩
            go_wp2_with fail
            rw [Exit.noGoto_ret]
            go_ret
            exact ⟨ret_bool HF.out, HB.out⟩
        · have H1 : Hid (qs = ss → ¬ qq = si) := Lib.hid fun e f => he ⟨e, f⟩
          have HF : Hid (false = r) := Lib.hid (by rw [← HOG.out]; unfold overGo; rw [HQV.out, decide_eq_false (fun e => he ⟨congrArg Prod.fst e, congrArg Prod.snd e⟩)]; rfl)
          clear he HOG
          have HBS : Hid (∀ W, Below W1.heap.size W1 W → Q W) := Lib.hid (fun W hB => HQ.out _ _ hq hB)
          clear hq
          refine region_mix (Below W1.heap.size W1) [(0, false), (1, false), (2, false), (3, false), (4, false), (5, false), (6, false), (7, false), (8, false)] (by kernel_rfl) (by kernel_rfl) (Below W1.heap.size W1) ⟨Closed.below W1, fun _ h => h⟩ (Below.refl _ _).drew ?_
          simp only [pickOps, List.getElem?_cons_zero, List.getElem?_cons_succ]
          repeat (first | (refine mix_read (.bool true) (by rfl) (fun W hW => by (have hW := HBS.out W hW; obtain ⟨hO, hs⟩ := HQx.out W hW; have x0 := hO.boxL.cell_at 0 rfl; have x1 := hO.boxL.cell_at 1 rfl; have x2 := hO.boxL.cell_at 2 rfl; have x3 := hO.boxL.cell_at 3 rfl; have x4 := hO.boxL.cell_at 4 rfl; have x5 := hO.boxL.cell_at 5 rfl; have x6 := hO.boxL.cell_at 6 rfl; have x7 := hO.boxL.cell_at 7 rfl; have x8 := hO.boxL.cell_at 8 rfl; have x9 := hO.boxL.cell_at 9 rfl; have x10 := hO.boxL.cell_at 10 rfl; have p0 := hO.boxF.cell_at 0 rfl; have p1 := hO.boxF.cell_at 1 rfl; have s0 := hs.cell_at 0 rfl; have s1 := hs.cell_at 1 rfl; have s2 := hs.cell_at 2 rfl; clear hO hs; have d1 := H1.out; go_simp; first | done | exact d1)) ?_; simp only [Act.put, List.setIfInBounds_toArray, List.set_cons_zero, List.set_cons_succ]) | (refine mix_skip (by rfl) ?_; simp only [Act.put, List.setIfInBounds_toArray, List.set_cons_zero, List.set_cons_succ]) | (refine mix_read _ (by rfl) (fun W hW => by (have hW := HBS.out W hW; obtain ⟨hO, hs⟩ := HQx.out W hW; have x0 := hO.boxL.cell_at 0 rfl; have x1 := hO.boxL.cell_at 1 rfl; have x2 := hO.boxL.cell_at 2 rfl; have x3 := hO.boxL.cell_at 3 rfl; have x4 := hO.boxL.cell_at 4 rfl; have x5 := hO.boxL.cell_at 5 rfl; have x6 := hO.boxL.cell_at 6 rfl; have x7 := hO.boxL.cell_at 7 rfl; have x8 := hO.boxL.cell_at 8 rfl; have x9 := hO.boxL.cell_at 9 rfl; have x10 := hO.boxL.cell_at 10 rfl; have p0 := hO.boxF.cell_at 0 rfl; have p1 := hO.boxF.cell_at 1 rfl; have s0 := hs.cell_at 0 rfl; have s1 := hs.cell_at 1 rfl; have s2 := hs.cell_at 2 rfl; clear hO hs; have d1 := H1.out; go_simp; first | done | with_reducible rfl)) ?_; simp only [Act.put, List.setIfInBounds_toArray, List.set_cons_zero, List.set_cons_succ]) | (refine mix_call _ _ _ (by rfl) (fun W hW => by (have hW := HBS.out W hW; obtain ⟨hO, hs⟩ := HQx.out W hW; have x0 := hO.boxL.cell_at 0 rfl; have x1 := hO.boxL.cell_at 1 rfl; have x2 := hO.boxL.cell_at 2 rfl; have x3 := hO.boxL.cell_at 3 rfl; have x4 := hO.boxL.cell_at 4 rfl; have x5 := hO.boxL.cell_at 5 rfl; have x6 := hO.boxL.cell_at 6 rfl; have x7 := hO.boxL.cell_at 7 rfl; have x8 := hO.boxL.cell_at 8 rfl; have x9 := hO.boxL.cell_at 9 rfl; have x10 := hO.boxL.cell_at 10 rfl; have p0 := hO.boxF.cell_at 0 rfl; have p1 := hO.boxF.cell_at 1 rfl; have s0 := hs.cell_at 0 rfl; have s1 := hs.cell_at 1 rfl; have s2 := hs.cell_at 2 rfl; clear hO hs; have d1 := H1.out; go_simp; first | done | rfl)) (fun W hW => KB.out W (HBS.out W hW)) ?_; simp only [Act.put, List.setIfInBounds_toArray, List.set_cons_zero, List.set_cons_succ]))
          refine mix_nil (fun W hW => ?_)
          have hq := HBS.out W hW
          clear hW HBS
          have HB := Lib.hid (HQx.out W hq).1.below
          clear hq
          go_wp2_with fail
          go_step3
          simp +zetaDelta only [Exit.inBlock, Exit.then, fwd_goto]
          refine ⟨trivial, ?_⟩
          go_wp2_with fail
          rw [Exit.noGoto_ret]
          go_ret
          exact ⟨ret_bool HF.out, HB.out⟩
      · obtain rfl : j = x.over.length := by omega
        have HF : Hid (true = r) := Lib.hid (by rw [← HM.out.2.1, List.drop_length]; rfl)
        have HB := Lib.hid HM.out.1.below
        clear HM
        go_wp2_with fail
        rw [fwd_ret]
        go_ret
        exact ⟨ret_bool HF.out, HB.out⟩
end Go.Proofs.YtlfpkileblmhoaaGreatDoor
