/- Package join: All. -/
import Derived.Test.YtaelcmamgcndmaaDoorQJoinN
import Derived.Test.YtaelcmamgcndmaaDoorQBfs
import Derived.ScopeJumps
import Derived.WalkMore
import Derived.LoopTactic
namespace Go.Proofs.YtaelcmamgcndmaaDoor
open Go.RowKit Go.Shelf
set_option linter.unusedVariables false
set_option linter.unusedSimpArgs false

/-- A scope with jumps back to a label: what holds of the passes may be used on the first way. -/
theorem wp_scope_jumps2 {P : Program} {a : Act} {w : World} {Q : Exit → Act → World → Prop} {c rest : Code} (l : Nat) (J : Act → World → Prop) (μ : Act → World → Nat) (hf : findLabel c l = some (Code.seq .skip rest))
    (pass : ∀ a w, J a w → rest.wp P (Exit.jump l (fun a' w' => J a' w' ∧ μ a' w' < μ a w) Q) a w) (first : (∀ a w, J a w → rest.wp P (Exit.jump l J Q) a w) → c.wp P (Exit.jump l J Q) a w) : (Code.scope c).wp P Q a w :=
  wp_scope_jumps l J μ hf (first fun a w h => Code.wp_mono (fun e a' w' hq => by
    cases e with
    | goto l' => exact ⟨hq.1, hq.2.1⟩
    | _ => exact hq) (pass a w h)) fun a w h => wp_seq (wp_skip (show Exit.then _ _ Exit.normal a w from pass a w h))

/-- The numbers of a layout's sections that hang together with section s. -/
noncomputable def allL (l : Lay) (s : Int) : List Int := if hasSec l s = true then allOf (fun a b => nearV l a b) l.secs.length s.toNat else []
theorem info_bool : (Tryd.prog.info? 4).map (fun i => (i.zero, i.size, i.bytes)) = some (some (.bool false), 1, 1) := by kernel_rfl
theorem wrap_succ {k m n : Nat} (h : k < m) (hm : m ≤ n) (hn : n ≤ 100) : wrap64 ((k : Int) + 1) = (k : Int) + 1 := by unfold wrap64; omega
theorem meas_succ {k m n : Nat} (h : k < m) (hm : m ≤ n) : n - (intOf (.int .i64 ((k : Int) + 1))).toNat < n - (intOf (.int .i64 (k : Int))).toNat := by
  show n - ((k : Int) + 1).toNat < n - (k : Int).toNat
  omega
theorem succ_lt_cast {k m : Nat} (h : k + 1 < m) : (k : Int) + 1 < (m : Int) := by omega
theorem succ_not_lt_cast {k m : Nat} (h : ¬ k + 1 < m) : ¬ ((k : Int) + 1 < (m : Int)) := by omega
/-- What All knows, k of its queue having been looked at. -/
structure AllS (l : Lay) (s : Nat) (w : World) (gF k : Nat) (qs : List Int) (f : Nat → Bool) (vq : Value) (W : World) : Prop where
  below : Below w.heap.size w W
  box : Whole W w.heap.size 29 l.cells
  low : w.heap.size + 1 ≤ gF
  found : Whole W gF 4 (marksB f l.secs.length)
  own : W.ownsRow (w.heap.size + 1) 3 1 vq qs.length (nums .i64 qs)
  ownF : ∀ b, vq.ownBlock = some b → b ≠ gF
  bfs : Bfs (fun a b => nearV l a b) l.secs.length s k qs f
theorem AllS.grown {l : Lay} {s : Nat} {w : World} {gF k : Nat} {qs : List Int} {f : Nat → Bool} {vq : Value} {W W' : World} (h : AllS l s w gF k qs f vq W) (hB : Below W.heap.size W W') : AllS l s w gF k qs f vq W' :=
  ⟨h.1.trans (hB.mono h.1.size), h.2.below hB h.2.lt, h.3, h.4.below hB h.4.lt, ownsV_keep h.5 hB, h.6, h.7⟩
theorem AllS.mark {l : Lay} {s : Nat} {w : World} {gF k : Nat} {qs : List Int} {f : Nat → Bool} {vq : Value} {W : World} (h : AllS l s w gF k qs f vq W) (b : Nat) (hadd : Bfs (fun a b => nearV l a b) l.secs.length s k (qs ++ [(b : Int)]) (upd f b)) (hn : qs.length ≤ 1000) :
    ∃ v' W3, (Builtin.append_ #[41, 41] 41 #[vq, .slice (some ⟨W.heap.size, 0, none⟩) 1 1]).run Tryd.prog ((W.setCell ⟨gF, b, none⟩ (.bool true)).alloc (.cells #[.int .i64 (b : Int)] 3)) = .ok v' W3 ∧
      AllS l s w gF k (qs ++ [(b : Int)]) (upd f b) v' W3 ∧ (v'.ownBlock = vq.ownBlock ∨ v'.ownBlock = some (W.heap.size + 1)) ∧ (∀ i o, W.heap[i]? = some o → i ≠ gF → vq.ownBlock ≠ some i → W3.heap[i]? = some o) ∧ W.heap.size ≤ W3.heap.size := by
  obtain ⟨h1, h2, h3, h4, h5, h6, h7⟩ := h
  have hsz : (W.setCell ⟨gF, b, none⟩ (.bool true)).heap.size = W.heap.size := by simp [World.setCell]
  have hne : ∀ i, i ≠ gF → (W.setCell ⟨gF, b, none⟩ (.bool true)).heap[i]? = W.heap[i]? := fun i hi => Below.heap_setCell _ _ _ _ hi
  have hk : ∀ i o, W.heap[i]? = some o → i ≠ gF → ((W.setCell ⟨gF, b, none⟩ (.bool true)).alloc (.cells #[.int .i64 (b : Int)] 3)).heap[i]? = some o := fun i o ho hi => by
    rw [Below.heap_alloc _ _ _ (by rw [hsz]; exact (Array.getElem?_eq_some_iff.1 ho).1), hne i hi]
    exact ho
  have hown : ((W.setCell ⟨gF, b, none⟩ (.bool true)).alloc (.cells #[.int .i64 (b : Int)] 3)).ownsRow (w.heap.size + 1) 3 1 vq qs.length (nums .i64 qs) := by
    refine ⟨h5.1, ?_⟩
    rcases h5.2 with e | ⟨g, cap, cur, rfl, p1, p2, r⟩
    · exact .inl e
    · exact .inr ⟨g, cap, cur, rfl, p1, hk _ _ p2 (h6 g rfl), r⟩
  have hW := h1.size
  have hbx := h2.lt
  obtain ⟨v', W3, hrun, hown', hgr, hBl, hblk⟩ := append_int2 (w.heap.size + 1) qs.length vq (nums .i64 qs) (b : Int) _ W.heap.size hown (by
    have := Whole.new_at (W.setCell ⟨gF, b, none⟩ (.bool true)) 3 [.int .i64 (b : Int)] W.heap.size hsz.symm
    exact this.cell_at 0 rfl) hn (by simp [hsz]; omega)
  have hvb : ∀ c, vq.ownBlock = some c → w.heap.size + 1 ≤ c := fun c hc => (h5.lt c hc).1
  have hkeep : ∀ i o, W.heap[i]? = some o → i ≠ gF → vq.ownBlock ≠ some i → W3.heap[i]? = some o := fun i o ho hi hv => by
    have hlt := (Array.getElem?_eq_some_iff.1 ho).1
    exact (hgr.block i (by simp [hsz]; omega) (fun e => hv e.symm)).trans (hk i o ho hi)
  have hs3 : W.heap.size + 1 ≤ W3.heap.size := by have := hgr.size; simpa [hsz] using this
  refine ⟨v', W3, hrun, ⟨?_, hkeep _ _ h2 (by omega) (fun e => by have := hvb _ e; omega), h3, ?_, by rw [List.length_append]; simpa [nums] using hown', ?_, hadd⟩, by simpa [hsz] using hblk, hkeep, by omega⟩
  · refine h1.trans ?_
    have e1 : Below w.heap.size W (W.setCell ⟨gF, b, none⟩ (.bool true)) := (Below.refl _ W).setCell (p := ⟨gF, b, none⟩) (by show w.heap.size ≤ gF; omega) _
    exact (e1.alloc (by rw [hsz]; omega) _).trans (hBl.mono (by omega))
  · have hf := h4.set b (.bool true)
    rw [marksB_set] at hf
    exact (hgr.block gF (by simp [hsz]; have := h4.lt; omega) (fun e => h6 gF e.symm rfl)).trans ((Below.heap_alloc _ _ _ (by rw [hsz]; exact h4.lt)).trans hf)
  · intro c hc e
    subst e
    rcases hblk with e | e
    · exact h6 c (e ▸ hc) rfl
    · rw [hc] at e
      have := h4.lt
      have := Option.some.inj e
      simp [hsz] at this
      omega

set_option maxRecDepth 100000 in
set_option maxHeartbeats 8000000 in
theorem all_any {l : Lay} {w : World} (hT : Shapes w) (hL : Lies l w) (hn : l.secs.length ≤ 100) (s : Int) :
    Calls Tryd.prog 21 #[l.val, .int .i64 s] w fun e w' => ∃ v, e = .returned v ∧ w'.ownsRow w.heap.size 3 1 v (allL l s).length (nums .i64 (allL l s)) ∧ Below w.heap.size w w' := by
  have HTW : Hid (∀ W, Below w.heap.size w W → Shapes W ∧ Lies l W) := Lib.hid fun W hB => ⟨Shapes.closed _ _ hT hB, Lies.closed l _ _ hL hB⟩
  have KN : Hid (∀ (W : World) (i : Int), Below w.heap.size w W → Calls Tryd.prog 19 #[l.val, .int .i64 i] W fun e w' => ∃ v, e = .returned v ∧ w'.ownsRow W.heap.size 3 1 v (nearL l i).length (nums .i64 (nearL l i)) ∧ Below W.heap.size W w') :=
    Lib.hid fun W i hB => near_any (HTW.out W hB).1 (HTW.out W hB).2 i
  obtain ⟨b, hb⟩ : ∃ b, hasSec l s = b := ⟨_, rfl⟩
  have KH := Lib.hid (fun w => hasSection_B (w := w) s hb)
  have hw := Whole.new w 29 l.cells
  have hB1 := below1 w (.cells l.cells.toArray 29)
  have m0 := hw
  have x0 := m0.cell_at 0 rfl
  have x1 := m0.cell_at 1 rfl
  have x2 := m0.cell_at 2 rfl
  have x3 := m0.cell_at 3 rfl
  have x4 := m0.cell_at 4 rfl
  have x5 := m0.cell_at 5 rfl
  have x6 := m0.cell_at 6 rfl
  have x7 := m0.cell_at 7 rfl
  have x8 := m0.cell_at 8 rfl
  have x9 := m0.cell_at 9 rfl
  have x10 := m0.cell_at 10 rfl
  clear m0
  cases b
  · have HE : Hid (allL l s = []) := Lib.hid (by unfold allL; rw [hb]; rfl)
    clear hT hL hb KN
    go_enter Tryd.func21, Tryd.ntmps21
    go_wp2
    go_step3
    go_wp2_with fail
    refine (KH.out _).mono ?_
    clear x0 x1 x2 x3 x4 x5 x6 x7 x8 x9 x10 KH
    rintro e w1 ⟨rfl, hB⟩
    go_wp2_with fail
    rw [Exit.noGoto_ret]
    go_ret
    exact ⟨_, rfl, by rw [HE.out]; exact World.ownsRow_nil _ _ _ _, hB1.trans (hB.mono hB1.size)⟩
  · have hsn : 0 ≤ s ∧ s < (l.secs.length : Int) := by unfold hasSec at hb; simp at hb; exact hb
    obtain ⟨sn, rfl⟩ : ∃ sn : Nat, s = sn := ⟨s.toNat, by omega⟩
    have hsl : sn < l.secs.length := by omega
    have HE : Hid (allL l sn = allOf (fun a b => nearV l a b) l.secs.length sn) := Lib.hid (by unfold allL; rw [hb]; rfl)
    clear hb hsn
    go_enter Tryd.func21, Tryd.ntmps21
    go_wp2
    refine wp_scope_jumps2 0 (fun a' W => ∃ (gF k : Nat) (qs : List Int) (f : Nat → Bool) (vq : Value) (u8 u9 u10 u11 u12 u13 u14 u15 u16 u17 u18 u19 u20 u21 u22 u23 u24 u25 u26 u27 u28 u29 u30 u31 u32 u33 u34 u35 u36 u37 u38 u39 u40 u41 u42 u43 u44 u45 u46 u47 u48 u49 u50 u51 u52 u53 u54 u55 : Value), (AllS l sn w gF k qs f vq W ∧ k < qs.length) ∧
      a' = { tmps := #[l.val, .int .i64 (sn : Int), .pointer (some ⟨w.heap.size, 0, none⟩), undef, .slice none 0 0, vq, .int .i64 (k : Int), .slice (some ⟨gF, 0, none⟩) l.secs.length l.secs.length, u8, u9, u10, u11, u12, u13, u14, u15, u16, u17, u18, u19, u20, u21, u22, u23, u24, u25, u26, u27, u28, u29, u30, u31, u32, u33, u34, u35, u36, u37, u38, u39, u40, u41, u42, u43, u44, u45, u46, u47, u48, u49, u50, u51, u52, u53, u54, u55], defers := [] })
      (fun a' _ => l.secs.length - (intOf (a'.tmps.getD 6 undef)).toNat) rfl ?pass ?first
    case first =>
      intro htail
      go_wp2_with fail
      refine (KH.out _).mono ?_
      clear x0 x1 x2 x3 x4 x5 x6 x7 x8 x9 x10 KH
      rintro e w1 ⟨rfl, hB⟩
      have hB2 := hB1.trans (hB.mono hB1.size)
      have hw2 := hw.below hB hw.lt
      have hlt := hw2.lt
      have x0 := (hw2.alloc (.cells #[.int .i64 (sn : Int)] 3)).cell_at 0 rfl
      have hmk := make_run (P := Tryd.prog) 69 4 _ 1 Tryd.underlying69 info_bool rfl l.secs.length (by omega) (by omega) (w1.alloc (.cells #[.int .i64 (sn : Int)] 3))
      obtain ⟨g, hg⟩ : ∃ g, w1.heap.size = g := ⟨_, rfl⟩
      have hF := Whole.new_at (w1.alloc (.cells #[.int .i64 (sn : Int)] 3)) 4 (List.replicate l.secs.length (.bool false)) (g + 1) (by simp; omega)
      have f0 := hF.frozen sn
      have y0 := hF.cell_at sn (v := .bool false) (by simp [hsl])
      have hq := ((Whole.new_at w1 3 [.int .i64 (sn : Int)] g hg.symm).alloc (.cells (List.replicate l.secs.length (.bool false)).toArray 4))
      have hbox2 := (hw2.alloc (.cells #[.int .i64 (sn : Int)] 3)).alloc (.cells (List.replicate l.secs.length (.bool false)).toArray 4)
      have hlt' : (sn : Int) < l.secs.length := by omega
      have HST : Hid (AllS l sn w (g + 1) 0 [(sn : Int)] (upd (fun _ => false) sn) (.slice (some ⟨g, 0, none⟩) 1 1) (((w1.alloc (.cells #[.int .i64 (sn : Int)] 3)).alloc (.cells (List.replicate l.secs.length (.bool false)).toArray 4)).setCell ⟨g + 1, sn, none⟩ (.bool true))) := Lib.hid (by
        have hsz := hB2.size
        have hq' := hq.far (p := ⟨g + 1, sn, none⟩) (by show g ≠ g + 1; omega) (.bool true)
        refine ⟨((hB2.alloc hB2.size _).alloc (by simp; omega) _).setCell (p := ⟨g + 1, sn, none⟩) (by show w.heap.size ≤ g + 1; omega) _, hbox2.far (p := ⟨g + 1, sn, none⟩) (by show w.heap.size ≠ g + 1; omega) _, by omega, ?_, ⟨by simp [nums], .inr ⟨g, 1, _, rfl, by omega, hq', Nat.le_refl _, by decide, by simp, by simp [nums]⟩⟩, fun c hc e => by have := Option.some.inj hc; simp at this; omega, Bfs.begin hsl⟩
        have := hF.set sn (.bool true)
        rw [marksB_none, marksB_set] at this
        rw [marksB_none]
        exact this)
      clear hF hq hbox2
      rw [show (w1.alloc (.cells #[.int .i64 (sn : Int)] 3)).heap.size = g + 1 by simp; omega] at hmk
      generalize (w1.alloc (.cells #[.int .i64 (sn : Int)] 3)).alloc (.cells (List.replicate l.secs.length (.bool false)).toArray 4) = W2 at hmk f0 y0 HST
      have HG := Lib.hid hg
      clear hw hB1 hB hB2 hw2 hlt hg hT hL KN hsl HE
      go_wp2_with fail
      go_step3
      rename_i hK
      refine hK _ _ ?_
      rw [HG.out]
      exact htail _ _ ⟨g + 1, 0, _, _, _, _, _, _, _, _, _, _, _, _, _, _, _, _, _, _, _, _, _, _, _, _, _, _, _, _, _, _, _, _, _, _, _, _, _, _, _, _, _, _, _, _, _, _, _, _, _, _, _, ⟨HST.out, by simp⟩, rfl⟩
    case pass =>
      have HRED : Hid (∀ W, Below w.heap.size w W → True) := Lib.hid fun _ _ => trivial
      clear hw hB1 x0 x1 x2 x3 x4 x5 x6 x7 x8 x9 x10 KH hT hL
      rintro a' w5 ⟨gF, k, qs, f, vq, u8, u9, u10, u11, u12, u13, u14, u15, u16, u17, u18, u19, u20, u21, u22, u23, u24, u25, u26, u27, u28, u29, u30, u31, u32, u33, u34, u35, u36, u37, u38, u39, u40, u41, u42, u43, u44, u45, u46, u47, u48, u49, u50, u51, u52, u53, u54, u55, ⟨hS, hk⟩, rfl⟩
      have hle := hS.bfs.le
      obtain ⟨a, ha⟩ : ∃ a : Nat, qs[k]? = some (a : Int) := by
        have hx := List.getElem_mem hk
        obtain ⟨i, _, e, _⟩ := (hS.bfs.mem _).1 hx
        exact ⟨i, by rw [List.getElem?_eq_getElem hk, e]⟩
      obtain ⟨g, cap, cur, rfl, _, hcur, _, _, _, _⟩ : ∃ g cap cur, vq = .slice (some ⟨g, 0, none⟩) qs.length cap ∧ w.heap.size + 1 ≤ g ∧ w5.heap[g]? = some (.cells cur 3 (0, 0)) ∧ qs.length ≤ cap ∧ cap ≤ maxLen ∧ cur.size = cap * 1 ∧ cur.toList.take (qs.length * 1) = nums .i64 qs := by
        rcases hS.own.2 with ⟨e, e0⟩ | h
        · omega
        · exact h
      obtain ⟨Q, HQ, HQe, hq⟩ : ∃ Q : World → Prop, Hid (Closed Q) ∧ Hid (∀ W, Q W → AllS l sn w gF k qs f (.slice (some ⟨g, 0, none⟩) qs.length cap) W) ∧ Q w5 := ⟨fun W => AllS l sn w gF k qs f (.slice (some ⟨g, 0, none⟩) qs.length cap) W, Lib.hid fun W W' h hB => h.grown hB, Lib.hid fun W h => h, hS⟩
      have HC : Hid (∀ W, AllS l sn w gF k qs f (.slice (some ⟨g, 0, none⟩) qs.length cap) W → W.cell? ⟨g, k, none⟩ = some (.int .i64 (a : Int))) := Lib.hid fun W h => by
        obtain ⟨b, off, e, _, hc⟩ := owns_row2 h.own (by simp [nums]; omega)
        cases e
        have := hc k (.int .i64 (a : Int)) (by simp [nums, ha])
        simpa using this
      have hk' : (k : Int) < qs.length := by omega
      have HA := Lib.hid ha
      obtain ⟨nl, hnl⟩ : ∃ nl, nearL l a = nl := ⟨_, rfl⟩
      have KN2 : Hid (∀ W, AllS l sn w gF k qs f (.slice (some ⟨g, 0, none⟩) qs.length cap) W → w5.heap.size ≤ W.heap.size → Calls Tryd.prog 19 #[l.val, .int .i64 (a : Int)] W fun e w' => ∃ x : Option Addr × Nat, e = .returned (.slice x.1 nl.length x.2) ∧ w'.ownsRow w5.heap.size 3 1 (.slice x.1 nl.length x.2) nl.length (nums .i64 nl) ∧ Below W.heap.size W w') := Lib.hid fun W h hsz =>
        (KN.out W a h.below).mono fun e w' ⟨v, he, hown, hB⟩ => by
          rw [hnl] at hown
          obtain ⟨A, c, rfl, _, _⟩ := owns_slice hown
          refine ⟨(A, c), he, ⟨hown.1, ?_⟩, hB⟩
          rcases hown.2 with e | ⟨g', cap', cur', e, p1, r⟩
          · exact .inl e
          · exact .inr ⟨g', cap', cur', e, Nat.le_trans hsz p1, r⟩
      have hnl100 : nl.length ≤ 100 := by rw [← hnl]; exact Nat.le_trans (pick_le _ _) hn
      have HNL := Lib.hid hnl
      clear KN ha hnl hcur
      go_wp2_with fail
      have HBS : Hid (∀ W, Below w5.heap.size w5 W → Q W) := Lib.hid (fun W hB => HQ.out _ _ hq hB)
      clear hq
      refine region_mix (Below w5.heap.size w5) [(0, false), (1, false), (2, false), (7, false), (3, false), (4, false), (5, true), (6, false)] (by kernel_rfl) (by kernel_rfl) (Below w5.heap.size w5) ⟨Closed.below w5, fun _ h => h⟩ (Below.refl _ _).drew ?_
      simp only [pickOps, List.getElem?_cons_zero, List.getElem?_cons_succ]
      repeat (first | (refine mix_skip (by rfl) ?_; simp only [Act.put, List.setIfInBounds_toArray, List.set_cons_zero, List.set_cons_succ]) | (refine mix_read _ (by rfl) (fun W hW => by (have hW := HBS.out W hW; have hS := HQe.out _ hW; have m0 := hS.box; have x0 := m0.cell_at 0 rfl; have x1 := m0.cell_at 1 rfl; have x2 := m0.cell_at 2 rfl; have x3 := m0.cell_at 3 rfl; have x4 := m0.cell_at 4 rfl; have x5 := m0.cell_at 5 rfl; have x6 := m0.cell_at 6 rfl; have x7 := m0.cell_at 7 rfl; have x8 := m0.cell_at 8 rfl; have x9 := m0.cell_at 9 rfl; have x10 := m0.cell_at 10 rfl; clear m0; have c0 := HC.out _ hS; clear hS; go_simp; first | done | with_reducible rfl)) ?_; simp only [Act.put, List.setIfInBounds_toArray, List.set_cons_zero, List.set_cons_succ]))
      refine mix_meet (fun x : Option Addr × Nat => .slice x.1 nl.length x.2) (fun x W => W.ownsRow w5.heap.size 3 1 (.slice x.1 nl.length x.2) nl.length (nums .i64 nl)) ⟨Closed.below w5, fun _ h => h⟩ (fun x W W' h hB => ownsV_keep h hB) _ _ (by rfl) (fun W hW => by (have hW := HBS.out W hW; have hS := HQe.out _ hW; have m0 := hS.box; have x0 := m0.cell_at 0 rfl; have x1 := m0.cell_at 1 rfl; have x2 := m0.cell_at 2 rfl; have x3 := m0.cell_at 3 rfl; have x4 := m0.cell_at 4 rfl; have x5 := m0.cell_at 5 rfl; have x6 := m0.cell_at 6 rfl; have x7 := m0.cell_at 7 rfl; have x8 := m0.cell_at 8 rfl; have x9 := m0.cell_at 9 rfl; have x10 := m0.cell_at 10 rfl; clear m0; have c0 := HC.out _ hS; clear hS; go_simp; first | done | rfl)) (fun W hW => KN2.out W (HQe.out _ (HBS.out W hW)) hW.size) (fun xx => ?_)
      simp only [Act.put, List.setIfInBounds_toArray, List.set_cons_zero, List.set_cons_succ]
      repeat (first | (refine mix_skip (by rfl) ?_; simp only [Act.put, List.setIfInBounds_toArray, List.set_cons_zero, List.set_cons_succ]) | (refine mix_read _ (by rfl) (fun W hW => by (have hW := HBS.out W hW; have hS := HQe.out _ hW; have m0 := hS.box; have x0 := m0.cell_at 0 rfl; have x1 := m0.cell_at 1 rfl; have x2 := m0.cell_at 2 rfl; have x3 := m0.cell_at 3 rfl; have x4 := m0.cell_at 4 rfl; have x5 := m0.cell_at 5 rfl; have x6 := m0.cell_at 6 rfl; have x7 := m0.cell_at 7 rfl; have x8 := m0.cell_at 8 rfl; have x9 := m0.cell_at 9 rfl; have x10 := m0.cell_at 10 rfl; clear m0; have c0 := HC.out _ hS; clear hS; go_simp; first | done | with_reducible rfl)) ?_; simp only [Act.put, List.setIfInBounds_toArray, List.set_cons_zero, List.set_cons_succ]))
      refine mix_nil (fun W hW => ?_)
      obtain ⟨A, c⟩ := xx
      obtain ⟨hB, hownN⟩ := hW
      simp only at hownN
      have hS1 := hS.grown hB
      have hgF : gF < w5.heap.size := hS.found.lt
      have hgq : g < w5.heap.size := (hS.own.lt g rfl).2
      have HS0 := Lib.hid hS
      have HB0 := Lib.hid hB
      clear hS hB HBS KN2 HC HQ HQe
      have hvN : ∀ b, (Value.slice (some ⟨g, 0, none⟩) qs.length cap).ownBlock = some b → (Value.slice A nl.length c).ownBlock ≠ some b := fun b hb e => by
        have h1 := (hownN.lt b e).1
        have h2 := Option.some.inj hb
        simp at h2
        omega
      have HSN : Hid (∀ (j b : Nat), nl[j]? = some (b : Int) → b < l.secs.length ∧ nearV l a b = true) := Lib.hid fun j b h => by
        rw [← HNL.out] at h
        obtain ⟨i, hi, e, hp⟩ := mem_pick.1 (List.mem_of_getElem? h)
        have : b = i := by omega
        subst this
        simp at hp
        exact ⟨hi, hp.2⟩
      have HNN : Hid (∀ j, j < nl.length → ∃ b : Nat, nl[j]? = some (b : Int)) := Lib.hid fun j h => by
        obtain ⟨x, hx⟩ : ∃ x, nl[j]? = some x := ⟨_, List.getElem?_eq_getElem h⟩
        have hm := List.mem_of_getElem? hx
        rw [← HNL.out] at hm
        obtain ⟨i, hi, e, hp⟩ := mem_pick.1 hm
        exact ⟨i, by rw [hx, e]⟩
      go_wp2_with fail
      go_loopw [5, 30] (fun vq i W => ∃ (j : Nat) (qs : List Int) (f : Nat → Bool), j ≤ nl.length ∧ i = .int .i64 (j : Int) ∧ AllS l sn w gF k qs f vq W ∧ qs[k]? = some (a : Int) ∧ Hid (∀ j' b : Nat, j' < j → nl[j']? = some (b : Int) → f b = true) ∧ W.ownsRow w5.heap.size 3 1 (.slice A nl.length c) nl.length (nums .i64 nl) ∧ ∀ b, vq.ownBlock = some b → (Value.slice A nl.length c).ownBlock ≠ some b)
        (fun _ i _ => nl.length - (intOf i).toNat)
      case atStart => exact ⟨0, qs, f, by omega, rfl, hS1, HA.out, Lib.hid (fun _ _ h => absurd h (Nat.not_lt_zero _)), hownN, hvN⟩
      case round =>
        clear hS1 hownN hvN HA hk hk' hle hgq
        obtain ⟨j, qs, f, hj, rfl, hS, hqk, HDn, hownN, hvN⟩ := hrel
        have hle := hS.bfs.le
        have hqk' : k < qs.length := (List.getElem?_eq_some_iff.1 hqk).1
        by_cases hlt : j < nl.length
        · have hlt' : (j : Int) < nl.length := by omega
          obtain ⟨b, hb⟩ := HNN.out j hlt
          obtain ⟨hbn, hnear⟩ := HSN.out j b hb
          obtain ⟨gN, off, rfl, _, hc⟩ := owns_row2 hownN (by simp [nums]; omega)
          have c0 := hc j (.int .i64 (b : Int)) (by simp [nums, hb])
          have y0 := hS.found.cell_at b (marksB_at hbn)
          have hbn' : (b : Int) < l.secs.length := by omega
          have hfa : f a = true := by
            have hm := List.mem_of_getElem? hqk
            obtain ⟨i, _, e, hi⟩ := (hS.bfs.mem _).1 hm
            have : a = i := by omega
            subst this
            exact hi
          have HBB := Lib.hid hb
          clear hc hb
          cases hfb : f b
          · have hadd := hS.bfs.add (by omega : sn < l.secs.length) hfa hbn hnear hfb (by omega)
            rw [hfb] at y0
            obtain ⟨v', W3, hrun, hS3, hblk, hkeep, hs3⟩ := hS.mark b hadd (by omega)
            have f0 := hS.found.frozen b
            have HS3 := Lib.hid hS3
            have hlN := (hownN.lt gN rfl)
            have HNW : Hid (W3.ownsRow w5.heap.size 3 1 (.slice (some ⟨gN, off, none⟩) nl.length c) nl.length (nums .i64 nl)) := Lib.hid (by
              refine ⟨hownN.1, ?_⟩
              rcases hownN.2 with ⟨e, _⟩ | ⟨g', cap', cur', e, p1, p2, r⟩
              · cases e
              · refine .inr ⟨g', cap', cur', e, p1, ?_, r⟩
                have e' : gN = g' := by injection e with e1; injection e1 with e1; injection e1
                refine hkeep g' _ p2 (by omega) (fun hh => ?_)
                exact hvN g' hh (by rw [← e']; rfl))
            have HVN : Hid (∀ b, v'.ownBlock = some b → (Value.slice (some ⟨gN, off, none⟩) nl.length c).ownBlock ≠ some b) := Lib.hid (fun d hd e => by
              rcases hblk with h | h
              · exact hvN d (h ▸ hd) e
              · rw [hd] at h
                have h1 := Option.some.inj h
                have h2 := Option.some.inj e
                simp at h2
                omega)
            have HDN : Hid (∀ j' b' : Nat, j' < j + 1 → nl[j']? = some (b' : Int) → upd f b b' = true) := Lib.hid fun j' b' hj' hb' => by
              by_cases e : j' < j
              · exact upd_up (HDn.out j' b' e hb')
              · have : j' = j := by omega
                subst this
                have h1 := HBB.out
                rw [hb'] at h1
                have : b' = b := by have := Option.some.inj h1; omega
                subst this
                exact upd_same _ _
            have HQK : Hid ((qs ++ [(b : Int)])[k]? = some (a : Int)) := Lib.hid (by rw [List.getElem?_append_left hqk']; exact hqk)
            clear hS hadd hkeep hownN hvN hblk hS3 hfa hqk HDn hnear
            go_wp2_with (at_builtin; refine list_append rfl (.tmp 42) (.tmp 44) 41 rfl hrun ?_)
            go_roundw
            case rel => exact ⟨j + 1, qs ++ [(b : Int)], upd f b, hlt, by go_num, HS3.out, HQK.out, HDN, HNW.out, HVN.out⟩
            case measure => simp [intOf]; omega
          · rw [hfb] at y0
            have HDN : Hid (∀ j' b' : Nat, j' < j + 1 → nl[j']? = some (b' : Int) → f b' = true) := Lib.hid fun j' b' hj' hb' => by
              by_cases e : j' < j
              · exact HDn.out j' b' e hb'
              · have : j' = j := by omega
                subst this
                have h1 := HBB.out
                rw [hb'] at h1
                have : b' = b := by have := Option.some.inj h1; omega
                subst this
                exact hfb
            have HS2 := Lib.hid hS
            have HQK := Lib.hid hqk
            clear hfb HDn hnear hfa hS hqk
            go_wp2_with fail
            go_roundw
            case rel => exact ⟨j + 1, qs, f, hlt, by go_num, HS2.out, HQK.out, HDN, hownN, hvN⟩
            case measure => simp [intOf]; omega
        · obtain rfl : j = nl.length := by omega
          have hfa : f a = true := by
            have hm := List.mem_of_getElem? hqk
            obtain ⟨i, _, e, hi⟩ := (hS.bfs.mem _).1 hm
            have : a = i := by omega
            subst this
            exact hi
          have hall : ∀ b, b < l.secs.length → nearV l a b = true → f b = true := fun b hb hn => by
            by_cases e : b = a
            · subst e; exact hfa
            · have hm : (b : Int) ∈ nearL l a := by
                show (b : Int) ∈ pick _ _
                exact mem_pick.2 ⟨b, hb, rfl, by simp [hn]; omega⟩
              rw [HNL.out] at hm
              obtain ⟨j', hj', e'⟩ := List.mem_iff_getElem.1 hm
              exact HDn.out j' b hj' (by rw [List.getElem?_eq_getElem hj', e'])
          have hbfs := hS.bfs.more hqk hall
          have HS2 : Hid (AllS l sn w gF (k + 1) qs f u5 wr) := Lib.hid ⟨hS.1, hS.2, hS.3, hS.4, hS.5, hS.6, hbfs⟩
          obtain ⟨A5, c5, rfl, _, _⟩ := owns_slice hS.own
          clear hbfs hall hfa hS HDn hownN hvN hqk
          by_cases hmore : k + 1 < qs.length
          · have hmore' := succ_lt_cast hmore
            have hw2 := wrap_succ hqk' hle hn
            go_wp2_with fail
            go_step3
            rw [hw2]
            refine ⟨rfl, ⟨gF, k + 1, qs, f, _, _, _, _, _, _, _, _, _, _, _, _, _, _, _, _, _, _, _, _, _, _, _, _, _, _, _, _, _, _, _, _, _, _, _, _, _, _, _, _, _, _, _, _, _, _, _, _, _, ⟨HS2.out, hmore⟩, rfl⟩, ?_⟩
            exact meas_succ hqk' hle
          · have hmore' := succ_not_lt_cast hmore
            have hw2 := wrap_succ hqk' hle hn
            have KS := Lib.hid (sort_own HS2.out.own (Nat.le_trans hle (Nat.le_trans hn (by decide))))
            have HFI : Hid (allL l sn = sorted qs) := Lib.hid (by rw [HE.out]; exact HS2.out.bfs.all (Nat.le_of_not_lt hmore))
            have HBB := Lib.hid HS2.out.below
            have hvb : ∀ b, (Value.slice A5 qs.length c5).ownBlock = some b → w.heap.size + 1 ≤ b := fun b hb => (HS2.out.own.lt b hb).1
            go_wp2_with fail
            refine KS.out.mono ?_
            rintro e w9 ⟨rfl, hown, hg9⟩
            have HO : Hid (w9.ownsRow w.heap.size 3 1 (.slice A5 qs.length c5) (allL l sn).length (nums .i64 (allL l sn)) ∧ Below w.heap.size w w9) := Lib.hid (by
              refine ⟨?_, HBB.out.grown hg9 HBB.out.size (fun b hb => by have := hvb b hb; omega)⟩
              rw [HFI.out, sorted_len]
              refine ⟨hown.1, ?_⟩
              rcases hown.2 with e | ⟨g', cap', cur', e, p1, r⟩
              · exact .inl e
              · exact .inr ⟨g', cap', cur', e, by omega, r⟩)
            clear hown hg9 KS
            go_wp2_with fail
            simp only [Exit.jump]
            go_ret
            exact ⟨_, rfl, HO.out.1, HO.out.2⟩
end Go.Proofs.YtaelcmamgcndmaaDoor
