/- The walk of JoinAll: what hangs together. -/
import Derived.Test.YtaelcmamgcndmaaDoorQJoinBack
import Derived.Test.YtaelcmamgcndmaaDoorQJoinK
namespace Go.Proofs.YtaelcmamgcndmaaDoor
open Go.RowKit Go.Shelf
set_option linter.unusedVariables false
set_option linter.unusedSimpArgs false

theorem intsJ_B {a : List Int} {A B : Option Addr} (c d : Nat) {n : Nat} {W : World} (hA : Row W W.heap.size A (nums .i64 a)) (hB : Row W W.heap.size B (nums .i64 a)) (hn : a.length = n) (h1 : n ≤ 1000) :
    Calls Tryd.prog 18 #[.slice A n c, .slice B n d] W fun e w' => e = .returned (.bool true) ∧ Below W.heap.size W w' :=
  (intsJ_P (P := fun W' => (Below W.heap.size W W' ∧ Row W' W'.heap.size A (nums .i64 a)) ∧ Row W' W'.heap.size B (nums .i64 a)) c d n n (fun w h => h.1.2) (fun w h => h.2) (((Closed.below W).and (fun _ _ h hB => h.on hB)).and (fun _ _ h hB => h.on hB)) hn hn h1 (decide_eq_true rfl) ⟨⟨Below.refl _ _, hA⟩, hB⟩).mono fun e w' h => ⟨h.1, h.2.1.1⟩
theorem hasSec_iff {l : Lay} {s : Int} (h : hasSec l s = true) : ∃ n : Nat, s = n ∧ n < l.secs.length := by
  unfold hasSec at h
  simp at h
  exact ⟨s.toNat, by omega, by omega⟩
theorem allL_at {l : Lay} {s : Nat} (h : s < l.secs.length) : allL l s = allOf (fun a b : Nat => nearV l a b) l.secs.length s := by
  have h' : hasSec l s = true := by unfold hasSec; simp; omega
  unfold allL
  rw [h']
  rfl
theorem mem_allL {l : Lay} {s : Nat} (h : s < l.secs.length) {x : Int} : x ∈ allL l s ↔ ∃ i : Nat, i < l.secs.length ∧ x = i ∧ Reach (fun a b : Nat => nearV l a b) l.secs.length s i := by
  rw [allL_at h]
  exact mem_allOf
theorem all_up {l : Lay} {s : Nat} (h : s < l.secs.length) {j : Nat} {a b : Int} (h1 : (allL l s)[j]? = some a) (h2 : (allL l s)[j + 1]? = some b) : a < b := by
  have hr : Rising (allL l s) := by rw [allL_at h]; exact pick_rising _ _
  obtain ⟨l1, e1⟩ := List.getElem?_eq_some_iff.1 h1
  obtain ⟨l2, e2⟩ := List.getElem?_eq_some_iff.1 h2
  have := List.pairwise_iff_getElem.1 hr j (j + 1) l1 l2 (by omega)
  rw [e1, e2] at this
  exact this
theorem allA_le (l : Lay) (i : Int) : (allL l i).length ≤ l.secs.length := by
  unfold allL
  split
  · exact pick_le _ _
  · exact Nat.zero_le _
theorem ports_mem {l : Lay} {s p : Int} (ht : thereV l s p = true) : (s, p) ∈ portsS l s := by
  have hk : 0 ≤ p ∧ p < pK (kindV l s) := by unfold thereV at ht; rw [withinA_iff] at ht; omega
  unfold portsS
  exact List.mem_map.2 ⟨p.toNat, List.mem_range.2 (by omega), by simp; omega⟩
theorem near_symm {l : Lay} (h : joinedL l = true) (a b : Nat) (hn : nearV l a b = true) : nearV l b a = true := by
  obtain ⟨x, hx, hb⟩ := nearV_iff.1 hn
  unfold portsS at hx
  obtain ⟨p, hp, rfl⟩ := List.mem_map.1 hx
  simp only at hb
  obtain ⟨q, hq⟩ : ∃ q, beyondV l a p = q := ⟨_, rfl⟩
  rw [hq] at hb
  rcases joined_back h hq with e | ⟨h1, h2, h3, h4, h5⟩
  · rw [e] at hb
    simp only at hb
    omega
  · rw [hb] at h3 h5
    exact nearV_iff.2 ⟨((b : Int), q.2), ports_mem h3, by rw [h5]⟩
theorem near_in {l : Lay} {s b : Nat} (hs : s < l.secs.length) (hb : b < l.secs.length) (hr : Reach (fun a b : Nat => nearV l a b) l.secs.length s b) {y : Int} (hy : y ∈ nearL l b) : ∃ c : Nat, y = c ∧ c < l.secs.length ∧ c ≠ b ∧ (c : Int) ∈ allL l s := by
  obtain ⟨c, hc, rfl, hp⟩ := mem_pick.1 (show y ∈ pick (fun i => !((i : Int) == (b : Int)) && nearV l b i) l.secs.length from hy)
  simp only [Bool.and_eq_true, Bool.not_eq_true', beq_eq_false_iff_ne] at hp
  exact ⟨c, rfl, hc, fun e => hp.1 (by rw [e]), (mem_allL hs).2 ⟨c, hc, rfl, hr.next hb hc hp.2⟩⟩
theorem all_same {l : Lay} (hj : joinedL l = true) {s b : Nat} (hs : s < l.secs.length) (hb : b < l.secs.length) (hr : Reach (fun a b : Nat => nearV l a b) l.secs.length s b) : allL l b = allL l s := by
  rw [allL_at hs, allL_at hb]
  exact allOf_symm hs (fun a b _ _ hn => near_symm hj a b hn) hr
theorem info_intA : (Tryd.prog.info? 3).map (fun i => (i.zero, i.size, i.bytes)) = some (some (.int .i64 0), 1, 8) := by kernel_rfl
/-- The marks, behind what is known. -/
structure Tk (w2 : World) (g : Nat) (zs : List Int) (W : World) : Prop where
  below : Below g w2 W
  marks : Whole W g 3 (nums .i64 zs)
theorem Tk.closed (w2 : World) (g : Nat) (zs : List Int) : Closed (Tk w2 g zs) := fun W W' h hB => ⟨h.1.trans (hB.mono (Nat.le_of_lt h.2.lt)), h.2.below hB h.2.lt⟩
theorem Tk.set {w2 : World} {g : Nat} {zs : List Int} {W : World} (h : Tk w2 g zs W) (b : Nat) : Tk w2 g (zs.set b 1) (W.setCell ⟨g, b, none⟩ (.int .i64 1)) :=
  ⟨h.1.setCell (p := ⟨g, b, none⟩) (by show g ≤ g; omega) _, by have := h.2.set b (.int .i64 1); rw [nums_set] at this; exact this⟩

set_option maxRecDepth 100000 in
set_option maxHeartbeats 8000000 in
theorem joinAll_walk (l : Lay) (s : Int) (w : World) (hT : Shapes w) (hL : Lies l w) :
    Calls Tryd.prog 6 #[l.val, .int .i64 s] w fun e w' => e = .returned (.bool true) ∧ Below w.heap.size w w' := by
  obtain ⟨P, HP, HPT, HPL, HPB, hp⟩ := keep_lay hT hL
  obtain ⟨Q, HQ, HQp, HQl, hq⟩ := keep_box HP.out hp 29 l.cells
  have HQT : Hid (∀ W, Q W → Shapes W) := Lib.hid fun W h => HPT.out _ (HQp.out _ h)
  have HQL : Hid (∀ W, Q W → Lies l W) := Lib.hid fun W h => HPL.out _ (HQp.out _ h)
  have HQB : Hid (∀ W, Q W → Below w.heap.size w W) := Lib.hid fun W h => HPB.out _ (HQp.out _ h)
  obtain ⟨g0, hg⟩ : ∃ g, greatJ l = g := ⟨_, rfl⟩
  have KG := Lib.hid (fun W hW => greatJ_P (P := Q) (w := W) HQ.out HQL.out hg hW)
  have KW := Lib.hid (fun W hW => wakesJ_P (P := Q) (w := W) HQ.out HQT.out hW)
  obtain ⟨xs, hxs⟩ : ∃ xs, allL l s = xs := ⟨_, rfl⟩
  obtain ⟨n, hn⟩ : ∃ n, xs.length = n := ⟨_, rfl⟩
  obtain ⟨jd, hjd⟩ : ∃ jd, joinedL l = jd := ⟨_, rfl⟩
  obtain ⟨hb, hhb⟩ : ∃ b, hasSec l s = b := ⟨_, rfl⟩
  clear hT hL hp
  go_enter Tryd.func6, Tryd.ntmps6
  have m0 := HQl.out _ hq
  have x0 := m0.cell_at 0 rfl
  have x1 := m0.cell_at 1 rfl
  have x2 := m0.cell_at 2 rfl
  have x3 := m0.cell_at 3 rfl
  have x4 := m0.cell_at 4 rfl
  have x5 := m0.cell_at 5 rfl
  have x6 := m0.cell_at 6 rfl
  have x7 := m0.cell_at 7 rfl
  have x8 := m0.cell_at 8 rfl
  have x9 := m0.cell_at 9 rfl
  have x10 := m0.cell_at 10 rfl
  clear m0
  go_wp2_with fail
  refine (KG.out _ hq).mono ?_
  clear x0 x1 x2 x3 x4 x5 x6 x7 x8 x9 x10 hq KG
  rintro e w1 ⟨rfl, hq⟩
  cases g0
  rotate_left
  · go_wp2_with fail
    refine (KW.out _ hq).mono ?_
    clear hq
    rintro e w9 ⟨rfl, hq⟩
    go_wp2_with fail
    go_ret
    exact ⟨rfl, HQB.out _ hq⟩
  · have hlen : l.secs.length ≤ 30 := (greatJ_no hg).1
    have HLEN := Lib.hid hlen
    have HX := Lib.hid hxs
    have HNX := Lib.hid hn
    have HJD := Lib.hid hjd
    have hn30 : n ≤ 30 := by rw [← hn, ← hxs]; exact Nat.le_trans (allA_le _ _) hlen
    have HN1000 : Hid (n ≤ 1000) := Lib.hid (by omega)
    have KA : Hid (∀ W, Q W → Calls Tryd.prog 21 #[l.val, .int .i64 s] W fun e w' => ∃ x : Option Addr × Nat, e = .returned (.slice x.1 n x.2) ∧ Row w' w'.heap.size x.1 (nums .i64 xs) ∧ Below W.heap.size W w') := Lib.hid fun W hW =>
      (all_any (HQT.out W hW) (HQL.out W hW) (Nat.le_trans HLEN.out (by omega)) s).mono fun e w' ⟨v, he, hown, hB⟩ => by
        rw [HX.out, HNX.out] at hown
        obtain ⟨A, c, rfl, hr, _⟩ := owns_slice hown
        exact ⟨(A, c), he, hr, hB⟩
    clear hg hxs hn hjd
    have m0 := HQl.out _ hq
    have x0 := m0.cell_at 0 rfl
    have x1 := m0.cell_at 1 rfl
    have x2 := m0.cell_at 2 rfl
    have x3 := m0.cell_at 3 rfl
    have x4 := m0.cell_at 4 rfl
    have x5 := m0.cell_at 5 rfl
    have x6 := m0.cell_at 6 rfl
    have x7 := m0.cell_at 7 rfl
    have x8 := m0.cell_at 8 rfl
    have x9 := m0.cell_at 9 rfl
    have x10 := m0.cell_at 10 rfl
    clear m0
    go_wp2_with fail
    refine (KA.out _ hq).mono ?_
    clear x0 x1 x2 x3 x4 x5 x6 x7 x8 x9 x10 KA
    rintro e w2 ⟨⟨A, cA⟩, rfl, hrow, hB⟩
    simp only at hrow
    have hq := HQ.out _ _ hq hB
    obtain ⟨Q2, HQ2, HQ2p, HR, hq⟩ := keep_row HQ.out hq hrow
    have HQl2 := Lib.hid (fun W hW => HQl.out W (HQ2p.out W hW))
    clear hrow hB
    cases hb
    · have h0 : xs = [] := by
        rw [← HX.out]
        unfold allL
        rw [hhb]
        rfl
      subst h0
      have hn0 : n = 0 := by rw [← HNX.out]; rfl
      subst hn0
      have hcase := not_has hhb
      clear hhb
      have m0 := HQl2.out _ hq
      have x0 := m0.cell_at 0 rfl
      have x1 := m0.cell_at 1 rfl
      have x2 := m0.cell_at 2 rfl
      have x3 := m0.cell_at 3 rfl
      have x4 := m0.cell_at 4 rfl
      have x5 := m0.cell_at 5 rfl
      have x6 := m0.cell_at 6 rfl
      have x7 := m0.cell_at 7 rfl
      have x8 := m0.cell_at 8 rfl
      have x9 := m0.cell_at 9 rfl
      have x10 := m0.cell_at 10 rfl
      clear m0
      rcases hcase with h0 | ⟨h0, h1⟩
      · go_wp2_with fail
        refine (KW.out _ (HQ2p.out _ hq)).mono ?_
        clear hq
        rintro e w9 ⟨rfl, hq⟩
        go_wp2_with fail
        go_ret
        exact ⟨rfl, HQB.out _ hq⟩
      · have h0' : ¬ s < 0 := by omega
        go_wp2_with fail
        refine (KW.out _ (HQ2p.out _ hq)).mono ?_
        clear hq
        rintro e w9 ⟨rfl, hq⟩
        go_wp2_with fail
        go_ret
        exact ⟨rfl, HQB.out _ hq⟩
    · obtain ⟨sn, rfl, hsl⟩ := hasSec_iff hhb
      have hs0 : ¬ ((sn : Int) < 0) := by omega
      have hs1 : ¬ ((l.secs.length : Int) ≤ sn) := by omega
      have hs2 : (sn : Int) < l.secs.length := by omega
      have hmk := make_run (P := Tryd.prog) 41 3 _ 8 Tryd.underlying41 info_intA rfl l.secs.length (by omega) (by omega) w2
      obtain ⟨W3, hW3⟩ : ∃ W3, w2.alloc (.cells (List.replicate l.secs.length (.int .i64 0)).toArray 3) = W3 := ⟨_, rfl⟩
      have hB3 : Below w2.heap.size w2 W3 := by rw [← hW3]; exact below1 _ _
      have hF : Whole W3 w2.heap.size 3 (nums .i64 (List.replicate l.secs.length 0)) := by
        rw [← hW3]
        have := Whole.new w2 3 (List.replicate l.secs.length (.int .i64 0))
        simpa [nums] using this
      rw [hW3] at hmk
      have HQW : Hid (∀ W, Below w2.heap.size w2 W → Q2 W) := Lib.hid fun W h => HQ2.out _ _ hq h
      have m0 := HQl2.out _ hq
      have x0 := m0.cell_at 0 rfl
      have x1 := m0.cell_at 1 rfl
      have x2 := m0.cell_at 2 rfl
      have x3 := m0.cell_at 3 rfl
      have x4 := m0.cell_at 4 rfl
      have x5 := m0.cell_at 5 rfl
      have x6 := m0.cell_at 6 rfl
      have x7 := m0.cell_at 7 rfl
      have x8 := m0.cell_at 8 rfl
      have x9 := m0.cell_at 9 rfl
      have x10 := m0.cell_at 10 rfl
      clear m0
      obtain ⟨g, hg⟩ : ∃ g, w2.heap.size = g := ⟨_, rfl⟩
      rw [hg] at hmk hB3 hF HQW
      have HTQ : Hid (∀ zs W, Tk w2 g zs W → Q2 W) := Lib.hid fun zs W h => HQW.out W h.1
      have ht : Tk w2 g (List.replicate l.secs.length 0) W3 := ⟨hB3, hF⟩
      have HMEM : Hid (∀ (j : Nat) (z : Int), xs[j]? = some z → ∃ b : Nat, b < l.secs.length ∧ z = b ∧ Reach (fun a b : Nat => nearV l a b) l.secs.length sn b) := Lib.hid fun j z hz => (mem_allL hsl).1 (by rw [HX.out]; exact List.mem_of_getElem? hz)
      have HUP : Hid (∀ (j : Nat) (a b : Int), xs[j]? = some a → xs[j + 1]? = some b → a < b) := Lib.hid fun j a b h1 h2 => all_up hsl (by rw [HX.out]; exact h1) (by rw [HX.out]; exact h2)
      have HSELF : Hid ((sn : Int) ∈ xs) := Lib.hid (by rw [← HX.out]; exact (mem_allL hsl).2 ⟨sn, hsl, rfl, Reach.self⟩)
      have HSAME : Hid (∀ b : Nat, joinedL l = true → b < l.secs.length → Reach (fun a b : Nat => nearV l a b) l.secs.length sn b → allL l b = xs) := Lib.hid fun b hj hb hr => by rw [← HX.out]; exact all_same hj hsl hb hr
      have HNEAR : Hid (∀ (b : Nat) (y : Int), b < l.secs.length → Reach (fun a b : Nat => nearV l a b) l.secs.length sn b → y ∈ nearL l b → ∃ c : Nat, y = c ∧ c < l.secs.length ∧ c ≠ b ∧ (c : Int) ∈ xs) := Lib.hid fun b y hb hr hy => by rw [← HX.out]; exact near_in hsl hb hr hy
      have HSL := Lib.hid hsl
      clear hW3 hB3 hF hq hg hhb hsl
      go_wp2_with fail
      clear x0 x1 x2 x3 x4 x5 x6 x7 x8 x9 x10 hmk
      go_loopw [7] (fun i wr => ∃ (j : Nat) (zs : List Int), j ≤ n ∧ i = .int .i64 (j : Int) ∧ Tk w2 g zs wr ∧ Hid (zs.length = l.secs.length ∧ ∀ (k b : Nat), k < j → xs[k]? = some (b : Int) → zs[b]? = some 1))
        (fun i _ => n - (intOf i).toNat)
      case atStart => exact ⟨0, _, by omega, rfl, ht, Lib.hid ⟨by simp, fun k b hk => by omega⟩⟩
      case round =>
        clear ht
        obtain ⟨j, zs, hj, rfl, ht, HZ⟩ := hrel
        by_cases hlt : j < n
        · have hlt' : (j : Int) < n := by omega
          obtain ⟨z, hz⟩ : ∃ z, xs[j]? = some z := ⟨_, List.getElem?_eq_getElem (by rw [HNX.out]; exact hlt)⟩
          obtain ⟨b, hbl, rfl, _⟩ := HMEM.out j z hz
          have HTC : Hid (Closed (Tk w2 g zs)) := Lib.hid (Tk.closed w2 g zs)
          obtain ⟨rb, ro, rfl, _, _⟩ := HR.out _ (HTQ.out _ _ ht) (by simp [nums]; rw [HNX.out]; omega)
          have HCC : Hid (∀ (i : Nat) (x : Int), xs[i]? = some x → ∀ W, Q2 W → W.cell? ⟨rb, ro + i, none⟩ = some (.int .i64 x)) := Lib.hid fun i x hx W hW => by
            obtain ⟨_, _, e, _, hc'⟩ := HR.out _ hW (by simp [nums]; rw [HNX.out]; omega)
            cases e
            exact hc' i _ (by simp [nums, hx])
          have HC := Lib.hid (HCC.out j _ hz)
          have HD : Hid (decide ((b : Int) < 0) = false ∧ decide ((l.secs.length : Int) ≤ (b : Int)) = false ∧ decide (l.secs.length ≤ b) = false ∧ (b : Int) < l.secs.length) := Lib.hid ⟨decide_eq_false (by omega), decide_eq_false (by omega), decide_eq_false (by omega), by omega⟩
          have HJL : Hid ((j : Int) < n) := Lib.hid hlt'
          have HZ2 : Hid ((zs.set b 1).length = l.secs.length ∧ ∀ (k c : Nat), k < j + 1 → xs[k]? = some (c : Int) → (zs.set b 1)[c]? = some 1) := Lib.hid ⟨by simp [HZ.out.1], fun k c hk hx => by
            rw [List.getElem?_set]
            by_cases e : b = c
            · rw [if_pos e, if_pos (by rw [HZ.out.1]; omega)]
            · rw [if_neg e]
              refine HZ.out.2 k c ?_ hx
              have : k ≠ j := fun h => e (by subst h; rw [hz] at hx; have := Option.some.inj hx; omega)
              omega⟩
          by_cases hj0 : 0 < j
          · obtain ⟨i, hi⟩ : ∃ i, j = i + 1 := ⟨j - 1, by omega⟩
            obtain ⟨z', hz'⟩ : ∃ z, xs[i]? = some z := ⟨_, List.getElem?_eq_getElem (by rw [HNX.out]; omega)⟩
            obtain ⟨b', _, rfl, _⟩ := HMEM.out i z' hz'
            have hup : (b' : Int) < b := HUP.out i _ _ hz' (by rw [← hi]; exact hz)
            have HCp := Lib.hid (HCC.out i _ hz')
            have HD6 : Hid (decide ((0 : Int) < (j : Int)) = true ∧ decide ((b : Int) ≤ b') = false ∧ decide (b ≤ b') = false ∧ decide (0 < j) = true ∧ 0 < j) := Lib.hid ⟨decide_eq_true (by omega), decide_eq_false (by omega), decide_eq_false (by omega), decide_eq_true hj0, hj0⟩
            have HD7 : Hid (IntKind.i64.wrap ((j : Int) - 1) = (i : Int) ∧ wrap64 ((j : Int) - 1) = (i : Int) ∧ (i : Int) < n) := Lib.hid ⟨by rw [wrapI_in _ (by omega)]; omega, by unfold wrap64; omega, by omega⟩
            clear hz hz' hup hi hj0
            go_wp2_with fail
            have HBS : Hid (∀ W, Below wr.heap.size wr W → Tk w2 g zs W) := Lib.hid (fun W hB => HTC.out _ _ ht hB)
            clear ht
            refine region_mix (Below wr.heap.size wr) [(0, false), (1, false), (2, false), (3, false), (4, false), (5, false), (6, false), (7, false), (8, false), (9, false), (10, false), (11, false), (12, false), (13, false), (14, false), (15, false), (16, false), (17, false), (18, false), (19, false), (20, false), (21, false), (22, false), (23, false), (24, false), (25, false), (26, false), (27, false), (28, false), (29, false)] (by kernel_rfl) (by kernel_rfl) (Below wr.heap.size wr) ⟨Closed.below wr, fun _ h => h⟩ (Below.refl _ _).drew ?_
            simp only [pickOps, List.getElem?_cons_zero, List.getElem?_cons_succ]
            repeat (first | (refine mix_skip (by rfl) ?_; simp only [Act.put, List.setIfInBounds_toArray, List.set_cons_zero, List.set_cons_succ]) | (refine mix_read _ (by rfl) (fun W hW => by (have hW := HBS.out W hW; have hW2 := HTQ.out _ _ hW; have c0 := HC.out _ hW2; have p0 := HCp.out _ hW2; clear hW2; have d0 := HD.out.1; have d1 := HD.out.2.1; have d2 := HD.out.2.2.1; have d3 := HD.out.2.2.2; have d4 := HJL.out; have d6 := HD6.out.1; have d66 := HD6.out.2.1; have d67 := HD6.out.2.2.1; have d68 := HD6.out.2.2.2.1; have d69 := HD6.out.2.2.2.2; have d7 := HD7.out.1; have d77 := HD7.out.2.1; have d78 := HD7.out.2.2; go_simp; first | done | with_reducible rfl)) ?_; simp only [Act.put, List.setIfInBounds_toArray, List.set_cons_zero, List.set_cons_succ]))
            refine mix_nil (fun W hW => ?_)
            obtain ⟨w12, hw12⟩ : ∃ w12, W = w12 := ⟨_, rfl⟩
            rw [hw12] at hW ⊢
            have ht := HBS.out w12 hW
            clear hW HBS hw12
            obtain ⟨y, hy⟩ : ∃ y, zs[b]? = some y := ⟨_, List.getElem?_eq_getElem (by rw [HZ.out.1]; exact hbl)⟩
            have c0 := HC.out _ (HTQ.out _ _ ht)
            have f0 := ht.2.frozen b
            have y0 := ht.2.cell_at b (v := .int .i64 y) (by simp [nums, hy])
            have hb1 := HD.out.2.2.2
            have ht' : Tk w2 g (zs.set b 1) (w12.setCell ⟨g, b, none⟩ (.int .i64 1)) := ht.set b
            have HT' := Lib.hid ht'
            clear ht ht' hy
            go_wp2_with fail
            go_roundw
            case rel => exact ⟨j + 1, zs.set b 1, hlt, by go_num, HT'.out, HZ2⟩
            case measure => simp [intOf]; omega
          · have HD6 : Hid (decide ((0 : Int) < (j : Int)) = false ∧ decide (0 < j) = false ∧ ¬ 0 < j) := Lib.hid ⟨decide_eq_false (by omega), decide_eq_false hj0, hj0⟩
            clear hz hj0
            go_wp2_with fail
            have HBS : Hid (∀ W, Below wr.heap.size wr W → Tk w2 g zs W) := Lib.hid (fun W hB => HTC.out _ _ ht hB)
            clear ht
            refine region_mix (Below wr.heap.size wr) [(0, false), (1, false), (2, false), (3, false), (4, false), (5, false), (6, false), (7, false), (8, false), (9, false), (10, false), (11, false), (12, false), (13, false), (14, false), (15, false), (16, false), (17, false), (18, false), (19, false), (20, false), (21, false), (22, false), (23, false), (24, false), (25, false), (26, false), (27, false), (28, false), (29, false)] (by kernel_rfl) (by kernel_rfl) (Below wr.heap.size wr) ⟨Closed.below wr, fun _ h => h⟩ (Below.refl _ _).drew ?_
            simp only [pickOps, List.getElem?_cons_zero, List.getElem?_cons_succ]
            repeat (first | (refine mix_skip (by rfl) ?_; simp only [Act.put, List.setIfInBounds_toArray, List.set_cons_zero, List.set_cons_succ]) | (refine mix_read _ (by rfl) (fun W hW => by (have hW := HBS.out W hW; have hW2 := HTQ.out _ _ hW; have c0 := HC.out _ hW2; clear hW2; have d0 := HD.out.1; have d1 := HD.out.2.1; have d2 := HD.out.2.2.1; have d3 := HD.out.2.2.2; have d4 := HJL.out; have d6 := HD6.out.1; have d66 := HD6.out.2.1; have d67 := HD6.out.2.2; go_simp; first | done | with_reducible rfl)) ?_; simp only [Act.put, List.setIfInBounds_toArray, List.set_cons_zero, List.set_cons_succ]))
            refine mix_nil (fun W hW => ?_)
            obtain ⟨w12, hw12⟩ : ∃ w12, W = w12 := ⟨_, rfl⟩
            rw [hw12] at hW ⊢
            have ht := HBS.out w12 hW
            clear hW HBS hw12
            obtain ⟨y, hy⟩ : ∃ y, zs[b]? = some y := ⟨_, List.getElem?_eq_getElem (by rw [HZ.out.1]; exact hbl)⟩
            have c0 := HC.out _ (HTQ.out _ _ ht)
            have f0 := ht.2.frozen b
            have y0 := ht.2.cell_at b (v := .int .i64 y) (by simp [nums, hy])
            have hb1 := HD.out.2.2.2
            have ht' : Tk w2 g (zs.set b 1) (w12.setCell ⟨g, b, none⟩ (.int .i64 1)) := ht.set b
            have HT' := Lib.hid ht'
            clear ht ht' hy
            go_wp2_with fail
            go_roundw
            case rel => exact ⟨j + 1, zs.set b 1, hlt, by go_num, HT'.out, HZ2⟩
            case measure => simp [intOf]; omega
        · have hjn : j = n := by omega
          subst hjn
          have HIN : Hid (∀ b : Nat, (b : Int) ∈ xs → zs[b]? = some 1) := Lib.hid fun b hb => by
            obtain ⟨k, hk⟩ := List.mem_iff_getElem?.1 hb
            exact HZ.out.2 k b (by have := (List.getElem?_eq_some_iff.1 hk).1; rw [HNX.out] at this; exact this) hk
          have HTC : Hid (Closed (Tk w2 g zs)) := Lib.hid (Tk.closed w2 g zs)
          have KJ := Lib.hid (fun W hW => keepR HTC.out (joinedL_any (w := W) (HQT.out W (HQ2p.out W (HTQ.out _ _ hW))) (HQL.out W (HQ2p.out W (HTQ.out _ _ hW))) HJD.out) hW)
          have y0 := ht.2.cell_at sn (v := .int .i64 1) (by simp [nums, HIN.out sn HSELF.out])
          have m0 := HQl2.out _ (HTQ.out _ _ ht)
          have x0 := m0.cell_at 0 rfl
          have x1 := m0.cell_at 1 rfl
          have x2 := m0.cell_at 2 rfl
          have x3 := m0.cell_at 3 rfl
          have x4 := m0.cell_at 4 rfl
          have x5 := m0.cell_at 5 rfl
          have x6 := m0.cell_at 6 rfl
          have x7 := m0.cell_at 7 rfl
          have x8 := m0.cell_at 8 rfl
          have x9 := m0.cell_at 9 rfl
          have x10 := m0.cell_at 10 rfl
          clear m0
          clear HUP
          go_wp2_with fail
          refine (KJ.out _ ht).mono ?_
          clear x0 x1 x2 x3 x4 x5 x6 x7 x8 x9 x10 y0 ht KJ
          rintro e w5 ⟨rfl, ht⟩
          go_wp2_with fail
          go_loopw [9] (fun i wr => ∃ k : Nat, k ≤ j ∧ i = .int .i64 (k : Int) ∧ Tk w2 g zs wr)
            (fun i _ => j - (intOf i).toNat)
          case atStart => exact ⟨0, by omega, rfl, ht⟩
          case round =>
            clear ht
            obtain ⟨k, hk, rfl, ht⟩ := hrel
            by_cases hlt : k < j
            · have hlt' : (k : Int) < j := by omega
              obtain ⟨z, hz⟩ : ∃ z, xs[k]? = some z := ⟨_, List.getElem?_eq_getElem (by rw [HNX.out]; exact hlt)⟩
              obtain ⟨b, hbl, rfl, hre⟩ := HMEM.out k z hz
              obtain ⟨rb, ro, rfl, _, _⟩ := HR.out _ (HTQ.out _ _ ht) (by simp [nums]; rw [HNX.out]; omega)
              have HC : Hid (∀ W, Q2 W → W.cell? ⟨rb, ro + k, none⟩ = some (.int .i64 (b : Int))) := Lib.hid fun W hW => by
                obtain ⟨_, _, e, _, hc'⟩ := HR.out _ hW (by simp [nums]; rw [HNX.out]; omega)
                cases e
                exact hc' k _ (by simp [nums, hz])
              have HD3 : Hid ((k : Int) < j) := Lib.hid hlt'
              obtain ⟨ys, hys⟩ : ∃ ys, nearL l b = ys := ⟨_, rfl⟩
              obtain ⟨m, hm⟩ : ∃ m, ys.length = m := ⟨_, rfl⟩
              have hm30 : m ≤ 30 := by rw [← hm, ← hys]; exact Nat.le_trans (pick_le _ _) hlen
              have HY := Lib.hid hys
              have HNY := Lib.hid hm
              have KN : Hid (∀ W, Tk w2 g zs W → Calls Tryd.prog 19 #[l.val, .int .i64 (b : Int)] W fun e w' => ∃ x : Option Addr × Nat, e = .returned (.slice x.1 m x.2) ∧ Row w' w'.heap.size x.1 (nums .i64 ys) ∧ Below W.heap.size W w') := Lib.hid fun W hW =>
                (near_any (HQT.out W (HQ2p.out W (HTQ.out _ _ hW))) (HQL.out W (HQ2p.out W (HTQ.out _ _ hW))) b).mono fun e w' ⟨v, he, hown, hB⟩ => by
                  rw [HY.out, HNY.out] at hown
                  obtain ⟨A, c, rfl, hr, _⟩ := owns_slice hown
                  exact ⟨(A, c), he, hr, hB⟩
              have HNB : Hid (∀ (i : Nat) (y : Int), ys[i]? = some y → ∃ c : Nat, y = c ∧ c < l.secs.length ∧ c ≠ b ∧ zs[c]? = some 1) := Lib.hid fun i y hy => by
                obtain ⟨c, h1, h2, h3, h4⟩ := HNEAR.out b y hbl hre (by rw [HY.out]; exact List.mem_of_getElem? hy)
                exact ⟨c, h1, h2, h3, HIN.out c h4⟩
              have KAl : Hid (joinedL l = true → ∀ W, Tk w2 g zs W → Calls Tryd.prog 21 #[l.val, .int .i64 (b : Int)] W fun e w' => ∃ x : Option Addr × Nat, e = .returned (.slice x.1 j x.2) ∧ Row w' w'.heap.size x.1 (nums .i64 xs) ∧ Below W.heap.size W w') := Lib.hid fun hj W hW =>
                (all_any (HQT.out W (HQ2p.out W (HTQ.out _ _ hW))) (HQL.out W (HQ2p.out W (HTQ.out _ _ hW))) (Nat.le_trans HLEN.out (by omega)) b).mono fun e w' ⟨v, he, hown, hB⟩ => by
                  rw [HSAME.out b hj hbl hre, HNX.out] at hown
                  obtain ⟨A, c, rfl, hr, _⟩ := owns_slice hown
                  exact ⟨(A, c), he, hr, hB⟩
              clear hys hm hz hre
              go_wp2_with fail
              have HBS : Hid (∀ W, Below wr.heap.size wr W → Tk w2 g zs W) := Lib.hid (fun W hB => HTC.out _ _ ht hB)
              clear ht
              refine region_mix (Below wr.heap.size wr) [(0, false), (1, false), (2, false), (3, false), (4, false), (5, true), (6, false)] (by kernel_rfl) (by kernel_rfl) (Below wr.heap.size wr) ⟨Closed.below wr, fun _ h => h⟩ (Below.refl _ _).drew ?_
              simp only [pickOps, List.getElem?_cons_zero, List.getElem?_cons_succ]
              repeat (first | (refine mix_skip (by rfl) ?_; simp only [Act.put, List.setIfInBounds_toArray, List.set_cons_zero, List.set_cons_succ]) | (refine mix_read _ (by rfl) (fun W hW => by (have hW := HBS.out W hW; have hW2 := HTQ.out _ _ hW; have c0 := HC.out _ hW2; have m0 := HQl2.out _ hW2; have x0 := m0.cell_at 0 rfl; have x1 := m0.cell_at 1 rfl; have x2 := m0.cell_at 2 rfl; have x3 := m0.cell_at 3 rfl; have x4 := m0.cell_at 4 rfl; have x5 := m0.cell_at 5 rfl; have x6 := m0.cell_at 6 rfl; have x7 := m0.cell_at 7 rfl; have x8 := m0.cell_at 8 rfl; have x9 := m0.cell_at 9 rfl; have x10 := m0.cell_at 10 rfl; clear m0; clear hW2; have d3 := HD3.out; go_simp; first | done | with_reducible rfl)) ?_; simp only [Act.put, List.setIfInBounds_toArray, List.set_cons_zero, List.set_cons_succ]))
              refine mix_meet (fun x : Option Addr × Nat => .slice x.1 m x.2) (fun x W => Row W W.heap.size x.1 (nums .i64 ys)) ⟨(Closed.below wr), fun _ h => h⟩ (fun x W W' h hB => h.on hB) _ _ (by rfl) (fun W hW => by (have hW := HBS.out W hW; have hW2 := HTQ.out _ _ hW; have c0 := HC.out _ hW2; have m0 := HQl2.out _ hW2; have x0 := m0.cell_at 0 rfl; have x1 := m0.cell_at 1 rfl; have x2 := m0.cell_at 2 rfl; have x3 := m0.cell_at 3 rfl; have x4 := m0.cell_at 4 rfl; have x5 := m0.cell_at 5 rfl; have x6 := m0.cell_at 6 rfl; have x7 := m0.cell_at 7 rfl; have x8 := m0.cell_at 8 rfl; have x9 := m0.cell_at 9 rfl; have x10 := m0.cell_at 10 rfl; clear m0; clear hW2; have d3 := HD3.out; go_simp; first | done | rfl)) (fun W hW => KN.out W (HBS.out W hW)) (fun y1 => ?_)
              simp only [Act.put, List.setIfInBounds_toArray, List.set_cons_zero, List.set_cons_succ]
              repeat (first | (refine mix_skip (by rfl) ?_; simp only [Act.put, List.setIfInBounds_toArray, List.set_cons_zero, List.set_cons_succ]) | (refine mix_read _ (by rfl) (fun W hW => by (have hW := HBS.out W hW; have hW2 := HTQ.out _ _ hW; have c0 := HC.out _ hW2; have m0 := HQl2.out _ hW2; have x0 := m0.cell_at 0 rfl; have x1 := m0.cell_at 1 rfl; have x2 := m0.cell_at 2 rfl; have x3 := m0.cell_at 3 rfl; have x4 := m0.cell_at 4 rfl; have x5 := m0.cell_at 5 rfl; have x6 := m0.cell_at 6 rfl; have x7 := m0.cell_at 7 rfl; have x8 := m0.cell_at 8 rfl; have x9 := m0.cell_at 9 rfl; have x10 := m0.cell_at 10 rfl; clear m0; clear hW2; have d3 := HD3.out; go_simp; first | done | with_reducible rfl)) ?_; simp only [Act.put, List.setIfInBounds_toArray, List.set_cons_zero, List.set_cons_succ]))
              refine mix_nil (fun W hW => ?_)
              obtain ⟨hB, hr1⟩ := hW
              obtain ⟨A2, c2⟩ := y1
              simp only at hr1
              have ht := HBS.out _ hB
              obtain ⟨R2, HR2c, HR2p, HRY, ht⟩ := keep_row HTC.out ht hr1
              clear hB hr1 HBS KN
              go_wp2_with fail
              go_loopw [11] (fun i wr => ∃ c : Nat, c ≤ m ∧ i = .int .i64 (c : Int) ∧ R2 wr)
                (fun i _ => m - (intOf i).toNat)
              case atStart => exact ⟨0, by omega, rfl, ht⟩
              case round =>
                clear ht
                obtain ⟨i, hi, rfl, ht⟩ := hrel
                by_cases hlm : i < m
                · have hlm' : (i : Int) < m := by omega
                  obtain ⟨y, hy⟩ : ∃ y, ys[i]? = some y := ⟨_, List.getElem?_eq_getElem (by rw [HNY.out]; exact hlm)⟩
                  obtain ⟨c, rfl, hcl, hcb, hz1⟩ := HNB.out i y hy
                  obtain ⟨yb, yo, rfl, _, _⟩ := HRY.out _ ht (by simp [nums]; rw [HNY.out]; omega)
                  have HCY : Hid (∀ W, R2 W → W.cell? ⟨yb, yo + i, none⟩ = some (.int .i64 (c : Int))) := Lib.hid fun W hW => by
                    obtain ⟨_, _, e, _, hc'⟩ := HRY.out _ hW (by simp [nums]; rw [HNY.out]; omega)
                    cases e
                    exact hc' i _ (by simp [nums, hy])
                  have HCM : Hid (∀ W, R2 W → W.cell? ⟨g, c, none⟩ = some (.int .i64 1)) := Lib.hid fun W hW => (HR2p.out W hW).2.cell_at c (by simp [nums, hz1])
                  have HE : Hid (decide ((c : Int) < 0) = false ∧ decide ((l.secs.length : Int) ≤ (c : Int)) = false ∧ decide (l.secs.length ≤ c) = false ∧ (c : Int) < l.secs.length ∧ ((c : Int) == (b : Int)) = false ∧ (i : Int) < m) := Lib.hid ⟨decide_eq_false (by omega), decide_eq_false (by omega), decide_eq_false (by omega), by omega, by simp; omega, hlm'⟩
                  clear hy hz1 hcb
                  go_wp2_with fail
                  have HBS : Hid (∀ W, Below wr.heap.size wr W → R2 W) := Lib.hid (fun W hB => HR2c.out _ _ ht hB)
                  clear ht
                  refine region_mix (Below wr.heap.size wr) [(0, false), (1, false), (2, false), (3, false), (4, false), (5, false), (6, false), (7, false), (8, false), (9, false), (10, false), (11, false), (12, false), (13, false), (14, false), (15, false), (16, false), (17, false), (18, false), (19, false), (20, false), (21, false), (22, false), (23, false), (24, false), (25, false), (26, false), (27, false), (28, false), (29, false), (30, false), (31, false), (32, false), (33, false), (34, false)] (by kernel_rfl) (by kernel_rfl) (Below wr.heap.size wr) ⟨Closed.below wr, fun _ h => h⟩ (Below.refl _ _).drew ?_
                  simp only [pickOps, List.getElem?_cons_zero, List.getElem?_cons_succ]
                  repeat (first | (refine mix_skip (by rfl) ?_; simp only [Act.put, List.setIfInBounds_toArray, List.set_cons_zero, List.set_cons_succ]) | (refine mix_read _ (by rfl) (fun W hW => by (have hW := HBS.out W hW; have cy := HCY.out _ hW; have cm := HCM.out _ hW; have hW2 := HTQ.out _ _ (HR2p.out _ hW); have c0 := HC.out _ hW2; clear hW2; have d0 := HE.out.1; have d1 := HE.out.2.1; have d2 := HE.out.2.2.1; have d3 := HE.out.2.2.2.1; have d4 := HE.out.2.2.2.2.1; have d5 := HE.out.2.2.2.2.2; have d8 := HD3.out; go_simp; first | done | with_reducible rfl)) ?_; simp only [Act.put, List.setIfInBounds_toArray, List.set_cons_zero, List.set_cons_succ]))
                  refine mix_nil (fun W hW => ?_)
                  have ht := HBS.out W hW
                  clear hW HBS
                  go_wp2_with fail
                  go_roundw
                  case rel => exact ⟨i + 1, hlm, by go_num, ht⟩
                  case measure => simp [intOf]; omega
                · have him : i = m := by omega
                  subst him
                  go_wp2_with fail
                  cases jd
                  · skip
                    have HBS : Hid (∀ W, Below wr.heap.size wr W → R2 W) := Lib.hid (fun W hB => HR2c.out _ _ ht hB)
                    clear ht
                    refine region_mix (Below wr.heap.size wr) [(0, false), (1, false), (2, false), (3, false), (4, false), (5, false), (6, false), (7, false), (8, false), (9, false), (10, false), (11, false)] (by kernel_rfl) (by kernel_rfl) (Below wr.heap.size wr) ⟨Closed.below wr, fun _ h => h⟩ (Below.refl _ _).drew ?_
                    simp only [pickOps, List.getElem?_cons_zero, List.getElem?_cons_succ]
                    repeat (first | (refine mix_skip (by rfl) ?_; simp only [Act.put, List.setIfInBounds_toArray, List.set_cons_zero, List.set_cons_succ]) | (refine mix_read _ (by rfl) (fun W hW => by (have hW := HBS.out W hW; have d0 := HD3.out; go_simp; first | done | with_reducible rfl)) ?_; simp only [Act.put, List.setIfInBounds_toArray, List.set_cons_zero, List.set_cons_succ]))
                    refine mix_nil (fun W hW => ?_)
                    have ht := HBS.out W hW
                    clear hW HBS
                    go_wp2_with fail
                    go_roundw
                    case rel => exact ⟨k + 1, hlt, by go_num, HR2p.out _ ht⟩
                    case measure => simp [intOf]; omega
                  · have KAb := Lib.hid (fun W hW => KAl.out HJD.out W (HR2p.out W hW))
                    have HBS : Hid (∀ W, Below wr.heap.size wr W → R2 W) := Lib.hid (fun W hB => HR2c.out _ _ ht hB)
                    clear ht
                    refine region_mix (Below wr.heap.size wr) [(0, false), (1, false), (2, false), (3, false), (4, false), (5, false), (6, false), (8, false), (7, true), (9, true), (10, false), (11, false)] (by kernel_rfl) (by kernel_rfl) (Below wr.heap.size wr) ⟨Closed.below wr, fun _ h => h⟩ (Below.refl _ _).drew ?_
                    simp only [pickOps, List.getElem?_cons_zero, List.getElem?_cons_succ]
                    repeat (first | (refine mix_skip (by rfl) ?_; simp only [Act.put, List.setIfInBounds_toArray, List.set_cons_zero, List.set_cons_succ]) | (refine mix_read _ (by rfl) (fun W hW => by (have hW := HBS.out W hW; have hW2 := HTQ.out _ _ (HR2p.out _ hW); have c0 := HC.out _ hW2; have m0 := HQl2.out _ hW2; have x0 := m0.cell_at 0 rfl; have x1 := m0.cell_at 1 rfl; have x2 := m0.cell_at 2 rfl; have x3 := m0.cell_at 3 rfl; have x4 := m0.cell_at 4 rfl; have x5 := m0.cell_at 5 rfl; have x6 := m0.cell_at 6 rfl; have x7 := m0.cell_at 7 rfl; have x8 := m0.cell_at 8 rfl; have x9 := m0.cell_at 9 rfl; have x10 := m0.cell_at 10 rfl; clear m0; clear hW2; have d3 := HD3.out; go_simp; first | done | with_reducible rfl)) ?_; simp only [Act.put, List.setIfInBounds_toArray, List.set_cons_zero, List.set_cons_succ]))
                    refine mix_meet (fun x : Option Addr × Nat => .slice x.1 j x.2) (fun x W => Row W W.heap.size x.1 (nums .i64 xs)) ⟨(Closed.below wr), fun _ h => h⟩ (fun x W W' h hB => h.on hB) _ _ (by rfl) (fun W hW => by (have hW := HBS.out W hW; have hW2 := HTQ.out _ _ (HR2p.out _ hW); have c0 := HC.out _ hW2; have m0 := HQl2.out _ hW2; have x0 := m0.cell_at 0 rfl; have x1 := m0.cell_at 1 rfl; have x2 := m0.cell_at 2 rfl; have x3 := m0.cell_at 3 rfl; have x4 := m0.cell_at 4 rfl; have x5 := m0.cell_at 5 rfl; have x6 := m0.cell_at 6 rfl; have x7 := m0.cell_at 7 rfl; have x8 := m0.cell_at 8 rfl; have x9 := m0.cell_at 9 rfl; have x10 := m0.cell_at 10 rfl; clear m0; clear hW2; have d3 := HD3.out; go_simp; first | done | rfl)) (fun W hW => KAb.out W (HBS.out W hW)) (fun y1 => ?_)
                    simp only [Act.put, List.setIfInBounds_toArray, List.set_cons_zero, List.set_cons_succ]
                    refine mix_meet (fun _ : Unit => .bool true) (fun x W => True) ⟨((Closed.below wr).and (fun _ _ h hB => h.on hB)), fun _ h => h.1⟩ (fun x W W' h hB => trivial) _ _ (by rfl) (fun W hW => by (have hW := HBS.out W hW.1; have hW2 := HTQ.out _ _ (HR2p.out _ hW); have c0 := HC.out _ hW2; have m0 := HQl2.out _ hW2; have x0 := m0.cell_at 0 rfl; have x1 := m0.cell_at 1 rfl; have x2 := m0.cell_at 2 rfl; have x3 := m0.cell_at 3 rfl; have x4 := m0.cell_at 4 rfl; have x5 := m0.cell_at 5 rfl; have x6 := m0.cell_at 6 rfl; have x7 := m0.cell_at 7 rfl; have x8 := m0.cell_at 8 rfl; have x9 := m0.cell_at 9 rfl; have x10 := m0.cell_at 10 rfl; clear m0; clear hW2; have d3 := HD3.out; go_simp; first | done | rfl)) (fun W hW => (intsJ_B y1.2 cA hW.2 (HR.out W (HTQ.out _ _ (HR2p.out W (HBS.out W hW.1)))) HNX.out HN1000.out).mono fun e w' h => ⟨(), h.1, trivial, h.2⟩) (fun _ => ?_)
                    simp only [Act.put, List.setIfInBounds_toArray, List.set_cons_zero, List.set_cons_succ]
                    repeat (first | (refine mix_skip (by rfl) ?_; simp only [Act.put, List.setIfInBounds_toArray, List.set_cons_zero, List.set_cons_succ]) | (refine mix_read _ (by rfl) (fun W hW => by (have hW := HBS.out W hW; have hW2 := HTQ.out _ _ (HR2p.out _ hW); have c0 := HC.out _ hW2; have m0 := HQl2.out _ hW2; have x0 := m0.cell_at 0 rfl; have x1 := m0.cell_at 1 rfl; have x2 := m0.cell_at 2 rfl; have x3 := m0.cell_at 3 rfl; have x4 := m0.cell_at 4 rfl; have x5 := m0.cell_at 5 rfl; have x6 := m0.cell_at 6 rfl; have x7 := m0.cell_at 7 rfl; have x8 := m0.cell_at 8 rfl; have x9 := m0.cell_at 9 rfl; have x10 := m0.cell_at 10 rfl; clear m0; clear hW2; have d3 := HD3.out; go_simp; first | done | with_reducible rfl)) ?_; simp only [Act.put, List.setIfInBounds_toArray, List.set_cons_zero, List.set_cons_succ]))
                    refine mix_nil (fun W hW => ?_)
                    have ht := HBS.out W hW.1.1
                    clear hW HBS
                    go_wp2_with fail
                    go_roundw
                    case rel => exact ⟨k + 1, hlt, by go_num, HR2p.out _ ht⟩
                    case measure => simp [intOf]; omega
            · have hkj : k = j := by omega
              subst hkj
              go_wp2_with fail
              refine (KW.out _ (HQ2p.out _ (HTQ.out _ _ ht))).mono ?_
              clear ht
              rintro e w9 ⟨rfl, hq⟩
              go_wp2_with fail
              go_ret
              exact ⟨rfl, HQB.out _ hq⟩
end Go.Proofs.YtaelcmamgcndmaaDoor
