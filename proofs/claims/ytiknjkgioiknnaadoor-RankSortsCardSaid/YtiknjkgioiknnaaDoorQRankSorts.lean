/- The walk of RankSorts: what is sorted is in order, all of it there, the least first. -/
import Derived.Test.YtiknjkgioiknnaaDoorQRnkW
import Derived.Test.YtiknjkgioiknnaaDoorQTopoR
namespace Go.Proofs.YtiknjkgioiknnaaDoor
open Go.RowKit Go.Shelf
set_option linter.unusedVariables false
set_option linter.unusedSimpArgs false
set_option maxRecDepth 100000

theorem same_pk (p q : Pth) : sameP p q = decide (some (pk p) = some (pk q)) := by
  unfold sameP pk
  rw [Bool.eq_iff_iff]
  simp [Prod.ext_iff]
/-- How often one like x is there. -/
def cnt12 (l : List Pth) (x : Pth) : Nat := l.countP (fun q => sameP q x)
theorem cnt_eq (l : List Pth) (x : Pth) : cnt12 l x = (l.map (fun q => some (pk q))).countP (fun o => decide (o = some (pk x))) := by
  unfold cnt12
  rw [List.countP_map]
  refine List.countP_congr fun q _ => ?_
  rw [same_pk]
  rfl
theorem cnt_perm {ps qs : List Pth} {d : List Nat} (hd : d.Perm (List.range ps.length)) (hv : qs.map (fun q => some (pk q)) = d.map (fun i => (ps[i]?).map pk)) (x : Pth) : cnt12 qs x = cnt12 ps x := by
  rw [cnt_eq, cnt_eq, hv]
  have h1 := (hd.map (fun i => (ps[i]?).map pk)).countP_eq (fun o => decide (o = some (pk x)))
  rw [h1]
  congr 1
  apply List.ext_getElem?
  intro i
  rw [List.getElem?_map, List.getElem?_map]
  by_cases hi : i < ps.length
  · rw [List.getElem?_range hi, List.getElem?_eq_getElem hi]
    simp [hi]
  · rw [List.getElem?_eq_none (by simp; omega), List.getElem?_eq_none (by omega)]
    rfl
theorem cnt_next {l : List Pth} {k : Nat} {y x : Pth} (h : l[k]? = some y) : cnt12 (l.take (k + 1)) x = cnt12 (l.take k) x + (if sameP y x = true then 1 else 0) := by
  unfold cnt12
  rw [List.take_add_one, h, Option.toList_some, List.countP_append, List.countP_cons, List.countP_nil, Nat.zero_add]
theorem cnt12_le (l : List Pth) (x : Pth) (k : Nat) : cnt12 (l.take k) x ≤ k := by
  unfold cnt12
  have h1 := List.countP_le_length (p := fun q => sameP q x) (l := l.take k)
  rw [List.length_take] at h1
  omega
theorem vals_at {ps qs : List Pth} {d : List Nat} (hv : qs.map (fun q => some (pk q)) = d.map (fun i => (ps[i]?).map pk)) {i : Nat} {q : Pth} (hq : qs[i]? = some q) (hi : i < d.length) : ∃ p, ps[at12 d i]? = some p ∧ pk q = pk p := by
  have h := congrArg (fun l => l[i]?) hv
  simp only [List.getElem?_map, hq, Option.map_some, List.getElem?_eq_getElem hi] at h
  rw [at_lt hi]
  cases hp : ps[d[i]]? with
  | none => rw [hp] at h; simp at h
  | some p => rw [hp] at h; simp at h; exact ⟨p, rfl, h⟩
theorem least_first {lt : Nat → Nat → Bool} (O : Ord12 lt) {d : List Nat} {n a : Nat} (hd : d.Perm (List.range n)) (hs : Srt lt d 0 n) (ha : a < n) (hl : ∀ y, y < n → y ≠ a → LL lt a y) : at12 d 0 = a := by
  have hn : d.length = n := by rw [hd.length_eq, List.length_range]
  refine Classical.byContradiction fun hne => ?_
  have h1 := hl (at12 d 0) (at_range hd (by omega)) hne
  have hm : a ∈ d := hd.mem_iff.2 (List.mem_range.2 ha)
  obtain ⟨j, hj, e⟩ := List.getElem_of_mem hm
  have ej : at12 d j = a := by rw [at_lt hj, e]
  have hj0 : 0 < j := Nat.pos_of_ne_zero fun h0 => hne (by rw [← h0]; exact ej)
  have h2 := hs 0 j (Nat.le_refl _) hj0 (by omega)
  rw [ej] at h2
  exact LL.irrefl O (LL.trans O h1 h2)
theorem sorted_cmp {l : Lay} {ps qs : List Pth} {d : List Nat} (hd : d.Perm (List.range ps.length)) (hs : Srt (ltOf12 (cvOf (ps.map (fun p => rowV l p.ss)))) d 0 ps.length) (hv : qs.map (fun q => some (pk q)) = d.map (fun i => (ps[i]?).map pk)) {i : Nat} {x y : Pth} (hx : qs[i + 1]? = some x) (hy : qs[i]? = some y) (hi : i + 1 < ps.length) :
    ¬ cmpR (rowV l x.ss) (rowV l y.ss) < 0 := by
  have hn : d.length = ps.length := by rw [hd.length_eq, List.length_range]
  obtain ⟨p, hp, e1⟩ := vals_at hv hx (by omega)
  obtain ⟨p', hp', e2⟩ := vals_at hv hy (by omega)
  have h := (hs i (i + 1) (Nat.zero_le _) (by omega) hi).not_lt (ord_rows _)
  unfold ltOf12 cvOf at h
  rw [List.getElem?_map, List.getElem?_map, hp, hp'] at h
  simp only [Option.map_some, Option.getD_some, decide_eq_false_iff_not] at h
  have s1 : x.ss = p.ss := congrArg (fun z => z.2.2) e1
  have s2 : y.ss = p'.ss := congrArg (fun z => z.2.2) e2
  rw [s1, s2]
  exact h
set_option maxRecDepth 100000 in
set_option maxHeartbeats 32000000 in
theorem rankSorts_walk (l : Lay) (ps : List Pth) (A : Option Addr) (c : Nat) (w : World) (hT : Shapes w) (hL : Lies l w) (hP : PsLies ps A w) (hn : (ps.length : Int) ≤ 9223372036854775807) :
    Calls Tryd.prog 4 #[l.val, .slice A ps.length c] w fun e w' => e = .returned (.bool true) ∧ Below w.heap.size w w' := by
  obtain ⟨R, HR, HRb, HQl, hq⟩ : ∃ Q : World → Prop, Hid (Closed Q) ∧ Hid (∀ W, Q W → Below w.heap.size w W) ∧ Hid (∀ W, Q W → Whole W w.heap.size 29 l.cells) ∧ Q (w.alloc (.cells l.cells.toArray 29)) :=
    ⟨fun W => Below w.heap.size w W ∧ Whole W w.heap.size 29 l.cells, Lib.hid ((Closed.below w).and (Closed.whole _ _ _)), Lib.hid fun _ h => h.1, Lib.hid fun _ h => h.2, below1 w _, Whole.new w _ l.cells⟩
  have HTW : Hid (∀ W, R W → (Shapes W ∧ Lies l W) ∧ PsLies ps A W) := Lib.hid fun W hW => ⟨⟨Shapes.closed _ _ hT (HRb.out W hW), Lies.closed l _ _ hL (HRb.out W hW)⟩, PsLies.closed ps A _ _ hP (HRb.out W hW)⟩
  have KW := Lib.hid (fun W hW => wakes12_P (P := R) (w := W) HR.out (fun W hW => (HTW.out W hW).1.1) hW)
  have KW12 : Hid (∀ W, R W → Calls Tryd.prog 9 #[] W fun e w' => e = .returned (.bool true) ∧ Below W.heap.size W w') := Lib.hid fun W hW => wakes12_P (P := fun W' => Below W.heap.size W W') (Closed.below W) (fun W' h => Shapes.closed _ _ (HTW.out W hW).1.1 h) (Below.refl _ _)
  obtain ⟨g, hg⟩ : ∃ g, greatV l = g := ⟨_, rfl⟩
  obtain ⟨gp, hgp⟩ : ∃ r, great12 ps = r := ⟨_, rfl⟩
  have KG := Lib.hid (fun W hW => great_P (P := R) (w := W) HR.out (fun W hW => (HTW.out W hW).1.2) hg hW)
  have KP := Lib.hid (fun W hW => keepR HR.out (great12_any (w := W) c (HTW.out W hW).2 hn hgp) hW)
  have HGP := Lib.hid hgp
  clear hT hL hP hg hgp
  go_enter Tryd.func4, Tryd.ntmps4
  have m0 := HQl.out _ hq
  have x0 := m0.cell_at 0 rfl
  have x1 := m0.cell_at 1 rfl
  have x2 := m0.cell_at 2 rfl
  have x3 := m0.cell_at 3 rfl
  have x4 := m0.cell_at 4 rfl
  have x5 := m0.cell_at 5 rfl
  have x6 := m0.cell_at 6 rfl
  have x7 := m0.cell_at 7 rfl
  have x8 := m0.cell_at 8 rfl
  have x9 := m0.cell_at 9 rfl
  have x10 := m0.cell_at 10 rfl
  clear m0
  go_wp2_with fail
  refine (KG.out _ hq).mono ?_
  clear hq x0 x1 x2 x3 x4 x5 x6 x7 x8 x9 x10
  rintro e w1 ⟨rfl, hq⟩
  cases g
  rotate_left
  · go_wp2_with fail
    refine (KW.out _ hq).mono ?_
    clear hq
    rintro e wz ⟨rfl, hq⟩
    go_wp2_with fail
    go_ret
    exact ⟨rfl, HRb.out _ hq⟩
  go_wp2_with fail
  refine (KP.out _ hq).mono ?_
  clear hq
  rintro e w2 ⟨rfl, hq⟩
  cases gp
  rotate_left
  · go_wp2_with fail
    refine (KW.out _ hq).mono ?_
    clear hq
    rintro e wz ⟨rfl, hq⟩
    go_wp2_with fail
    go_ret
    exact ⟨rfl, HRb.out _ hq⟩
  have hgr := great12_no.1 HGP.out
  have HLS : Hid (∀ p ∈ ps, p.ss.length ≤ 1000) := Lib.hid fun p hp => Nat.le_trans (hgr.2 p hp) (by omega)
  have hn40 := hgr.1
  clear hgr
  have hh := HTW.out _ hq
  have KS := Lib.hid (sort_any (l := l) c hh.1.1 hh.1.2 hh.2 HLS.out (by omega))
  clear hh
  have m0 := HQl.out _ hq
  have x0 := m0.cell_at 0 rfl
  have x1 := m0.cell_at 1 rfl
  have x2 := m0.cell_at 2 rfl
  have x3 := m0.cell_at 3 rfl
  have x4 := m0.cell_at 4 rfl
  have x5 := m0.cell_at 5 rfl
  have x6 := m0.cell_at 6 rfl
  have x7 := m0.cell_at 7 rfl
  have x8 := m0.cell_at 8 rfl
  have x9 := m0.cell_at 9 rfl
  have x10 := m0.cell_at 10 rfl
  clear m0
  have HQ2 := Lib.hid hq
  clear hq
  go_wp2_with fail
  refine KS.out.mono ?_
  clear KS x0 x1 x2 x3 x4 x5 x6 x7 x8 x9 x10
  rintro e w3 ⟨A', c', qs, d, rfl, ⟨hql, hqp⟩, ⟨hdp, hds⟩, hdv, hB3⟩
  have hq := HR.out _ _ HQ2.out hB3
  have hh := HTW.out _ hq
  have KL := Lib.hid (least_any (l := l) c hh.1.1 hh.1.2 hh.2 HLS.out (by omega))
  have HD := Lib.hid (And.intro hdp (And.intro hds hdv))
  have HQP := Lib.hid (And.intro hqp hq)
  have HQL := Lib.hid hql
  have m0 := HQl.out _ hq
  have x0 := m0.cell_at 0 rfl
  have x1 := m0.cell_at 1 rfl
  have x2 := m0.cell_at 2 rfl
  have x3 := m0.cell_at 3 rfl
  have x4 := m0.cell_at 4 rfl
  have x5 := m0.cell_at 5 rfl
  have x6 := m0.cell_at 6 rfl
  have x7 := m0.cell_at 7 rfl
  have x8 := m0.cell_at 8 rfl
  have x9 := m0.cell_at 9 rfl
  have x10 := m0.cell_at 10 rfl
  clear m0
  clear hh hq hqp hql hdp hds hdv hB3 HQ2
  go_wp2_with fail
  refine KL.out.mono ?_
  clear KL x0 x1 x2 x3 x4 x5 x6 x7 x8 x9 x10
  rintro e w4 ⟨r, rfl, hl, hB4⟩
  rcases hl with ⟨hn0, rfl⟩ | ⟨a, rfl, ha, hla⟩
  · have hq := HR.out _ _ HQP.out.2 hB4
    have hn0' : (ps.length : Int) = 0 := by omega
    have HQ4 := Lib.hid hq
    clear hB4 HQP hq
    go_wp2_with fail
    go_loopw [7, 8, 9, 10] (fun vi v8 v9 v10 wr => vi = .int .i64 0 ∧ R wr) (fun _ _ _ _ _ => 0)
    case atStart => exact ⟨rfl, HQ4.out⟩
    case round =>
      clear HQ4
      obtain ⟨rfl, hq⟩ := hrel
      obtain ⟨wk, rfl⟩ : ∃ W, W = wr := ⟨wr, rfl⟩
      go_wp2_with fail
      have HBS : Hid (∀ W, Below wk.heap.size wk W → R W) := Lib.hid (fun W hB => HR.out _ _ hq hB)
      clear hq
      refine region_mix (Below wk.heap.size wk) [(0, false), (1, false), (2, false), (3, false), (4, false), (5, false), (6, false), (7, false), (8, false), (9, false), (10, false), (11, false), (12, false), (13, false), (14, false), (15, false)] (by kernel_rfl) (by kernel_rfl) (Below wk.heap.size wk) ⟨Closed.below wk, fun _ h => h⟩ (Below.refl _ _).drew ?_
      simp only [pickOps, List.getElem?_cons_zero, List.getElem?_cons_succ]
      repeat (first | (refine mix_skip (by rfl) ?_; simp only [Act.put, List.setIfInBounds_toArray, List.set_cons_zero, List.set_cons_succ]) | (refine mix_read _ (by rfl) (fun W hW => by (have hW := HBS.out W hW; go_simp; first | done | with_reducible rfl)) ?_; simp only [Act.put, List.setIfInBounds_toArray, List.set_cons_zero, List.set_cons_succ]) | (refine mix_call _ _ _ (by rfl) (fun W hW => by (have hW := HBS.out W hW; go_simp; first | done | rfl)) (fun W hW => KW12.out W (HBS.out W hW)) ?_; simp only [Act.put, List.setIfInBounds_toArray, List.set_cons_zero, List.set_cons_succ]))
      refine mix_nil (fun W hW => ?_)
      have hq := HBS.out W hW
      clear hW HBS
      go_wp2_with fail
      go_ret
      exact ⟨rfl, HRb.out _ hq⟩
  obtain ⟨b2, o2, hA2, _, _⟩ : ∃ b off, A' = some ⟨b, off, none⟩ ∧ b < w3.heap.size ∧ ∀ (j : Nat) (u : Value), (qs.flatMap Pth.cells)[j]? = some u → w3.cell? ⟨b, off + j, none⟩ = some u := HQP.out.1.row (by rw [flat_length (n := 3) (fun _ => rfl), HQL.out]; omega)
  subst hA2
  obtain ⟨b1, o1, hA1, _, _⟩ : ∃ b off, A = some ⟨b, off, none⟩ ∧ b < w3.heap.size ∧ ∀ (j : Nat) (u : Value), (ps.flatMap Pth.cells)[j]? = some u → w3.cell? ⟨b, off + j, none⟩ = some u := (HTW.out _ HQP.out.2).2.row (by rw [flat_length (n := 3) (fun _ => rfl)]; omega)
  subst hA1
  obtain ⟨Q, HQ, HQR, HQq, hq⟩ : ∃ Q : World → Prop, Hid (Closed Q) ∧ Hid (∀ W, Q W → R W) ∧ Hid (∀ W, Q W → PsLies qs (some ⟨b2, o2, none⟩) W) ∧ Q w4 := ⟨fun W => R W ∧ PsLies qs (some ⟨b2, o2, none⟩) W, Lib.hid (HR.out.and (PsLies.closed _ _)), Lib.hid fun _ h => h.1, Lib.hid fun _ h => h.2, HR.out _ _ HQP.out.2 hB4, PsLies.closed _ _ _ _ HQP.out.1 hB4⟩
  have HCQ : Hid (∀ W, Q W → ∀ (j : Nat) (y : Pth), qs[j]? = some y → W.cell? ⟨b2, o2 + j * 3, none⟩ = some (.int .i64 y.s) ∧ W.cell? ⟨b2, o2 + j * 3 + 1, none⟩ = some (.int .i64 y.x) ∧ W.cell? ⟨b2, o2 + j * 3 + 2, none⟩ = some (.slice y.A y.ss.length y.c)) := Lib.hid fun W hW j y hy => by
    obtain ⟨b, o, e, _, hc0, hc⟩ := (HQq.out W hW).row.nth (n := 3) (fun _ => rfl) (by omega) hy
    cases e
    exact ⟨hc0 j _ _ hy rfl, hc j _ 1 _ hy rfl, hc j _ 2 _ hy rfl⟩
  have HCP : Hid (∀ W, Q W → ∀ (j : Nat) (y : Pth), ps[j]? = some y → W.cell? ⟨b1, o1 + j * 3, none⟩ = some (.int .i64 y.s) ∧ W.cell? ⟨b1, o1 + j * 3 + 1, none⟩ = some (.int .i64 y.x) ∧ W.cell? ⟨b1, o1 + j * 3 + 2, none⟩ = some (.slice y.A y.ss.length y.c)) := Lib.hid fun W hW j y hy => by
    obtain ⟨b, o, e, _, hc0, hc⟩ := (HTW.out W (HQR.out W hW)).2.row.nth (n := 3) (fun _ => rfl) (by omega) hy
    cases e
    exact ⟨hc0 j _ _ hy rfl, hc j _ 1 _ hy rfl, hc j _ 2 _ hy rfl⟩
  have HQl2 : Hid (∀ W, Q W → Whole W w.heap.size 29 l.cells) := Lib.hid fun W hW => HQl.out W (HQR.out W hW)
  have HLA := Lib.hid hla
  have hn1 : ¬ ps.length = 0 := by omega
  have hn1' : ¬ (ps.length : Int) = 0 := by omega
  have hn1b : ((ps.length : Int) == 0) = false := beq_false_of_ne hn1'
  have hpos : (0 : Int) < (ps.length : Int) := by omega
  have hposN : 0 < ps.length := by omega
  have ha1 : ¬ (a : Int) < 0 := by omega
  have ha1d : decide ((a : Int) < 0) = false := decide_eq_false ha1
  have ha2 : ¬ (ps.length : Int) ≤ (a : Int) := by omega
  have ha2d : decide ((ps.length : Int) ≤ (a : Int)) = false := decide_eq_false ha2
  have ha2n : ¬ ps.length ≤ a := by omega
  have ha3 : (a : Int) < (ps.length : Int) := by omega
  have HQ4 := Lib.hid hq
  clear hla hB4 HQP hq
  go_wp2_with fail
  go_loopw [7, 8, 9, 10] (fun vi v8 v9 v10 wr => ∃ i : Nat, vi = .int .i64 i ∧ i ≤ ps.length ∧ Q wr)
    (fun vi _ _ _ _ => ps.length - (intOf vi).toNat)
  case atStart => exact ⟨0, rfl, Nat.zero_le _, HQ4.out⟩
  case round =>
    clear HQ4
    obtain ⟨i, rfl, hi, hq⟩ := hrel
    obtain ⟨wo, rfl⟩ : ∃ W, W = wr := ⟨wr, rfl⟩
    by_cases hlt : i < ps.length
    · have hlt' : (i : Int) < ps.length := by omega
      obtain ⟨q, hqi⟩ : ∃ q, qs[i]? = some q := ⟨_, List.getElem?_eq_getElem (by rw [HQL.out]; exact hlt)⟩
      have HQI := Lib.hid hqi
      have HQ5 := Lib.hid hq
      clear hqi hq
      go_wp2_with fail
      go_loopw [8, 9, 10] (fun vn vm vk wr => ∃ k n m : Nat, vn = .int .i64 n ∧ vm = .int .i64 m ∧ vk = .int .i64 k ∧ k ≤ ps.length ∧ Q wr ∧ Hid (cnt12 (qs.take k) q = n ∧ cnt12 (ps.take k) q = m))
        (fun _ _ vk _ => ps.length - (intOf vk).toNat)
      case atStart => exact ⟨0, 0, 0, rfl, rfl, rfl, Nat.zero_le _, HQ5.out, Lib.hid ⟨rfl, rfl⟩⟩
      case round =>
        clear HQ5
        obtain ⟨k, n, m, rfl, rfl, rfl, hk, hq, HC⟩ := hrel
        obtain ⟨wk, rfl⟩ : ∃ W, W = wr := ⟨wr, rfl⟩
        by_cases hkl : k < ps.length
        · have hkl' : (k : Int) < ps.length := by omega
          obtain ⟨y1, hy1⟩ : ∃ q, qs[k]? = some q := ⟨_, List.getElem?_eq_getElem (by rw [HQL.out]; exact hkl)⟩
          obtain ⟨y2, hy2⟩ : ∃ q, ps[k]? = some q := ⟨_, List.getElem?_eq_getElem hkl⟩
          obtain ⟨s1, hs1⟩ : ∃ s, sameP y1 q = s := ⟨_, rfl⟩
          obtain ⟨s2, hs2⟩ : ∃ s, sameP y2 q = s := ⟨_, rfl⟩
          have HY := Lib.hid (And.intro hy1 hy2)
          have HS := Lib.hid (And.intro hs1 hs2)
          have K1 : Hid (∀ W, Q W → Calls Tryd.prog 14 #[y1.val, q.val] W fun e w' => e = .returned (.bool s1) ∧ Below W.heap.size W w') := Lib.hid fun W hW => sameR12_any ((HQq.out W hW).each y1 (List.mem_of_getElem? HY.out.1)) ((HQq.out W hW).each q (List.mem_of_getElem? HQI.out)) HS.out.1
          have K2 : Hid (∀ W, Q W → Calls Tryd.prog 14 #[y2.val, q.val] W fun e w' => e = .returned (.bool s2) ∧ Below W.heap.size W w') := Lib.hid fun W hW => sameR12_any ((HTW.out W (HQR.out W hW)).2.each y2 (List.mem_of_getElem? HY.out.2)) ((HQq.out W hW).each q (List.mem_of_getElem? HQI.out)) HS.out.2
          have hnb : n ≤ k ∧ m ≤ k := by rw [← HC.out.1, ← HC.out.2]; exact ⟨cnt12_le _ _ _, cnt12_le _ _ _⟩
          have hwk : IntKind.i64.wrap ((k : Int) + 1) = (k : Int) + 1 := IntWalk.i64_in _ (by omega)
          have hwn : IntKind.i64.wrap ((n : Int) + 1) = (n : Int) + 1 := IntWalk.i64_in _ (by omega)
          have hwm : IntKind.i64.wrap ((m : Int) + 1) = (m : Int) + 1 := IntWalk.i64_in _ (by omega)
          have HN : Hid (cnt12 (qs.take (k + 1)) q = n + (if s1 = true then 1 else 0) ∧ cnt12 (ps.take (k + 1)) q = m + (if s2 = true then 1 else 0)) := Lib.hid (by rw [cnt_next HY.out.1, cnt_next HY.out.2, HC.out.1, HC.out.2, HS.out.1, HS.out.2]; exact ⟨rfl, rfl⟩)
          clear hy1 hy2 hs1 hs2 hnb HC HS
          go_wp2_with fail
          have HBS : Hid (∀ W, Below wk.heap.size wk W → Q W) := Lib.hid (fun W hB => HQ.out _ _ hq hB)
          clear hq
          refine region_mix (Below wk.heap.size wk) [(0, false), (1, false), (2, false), (3, false), (4, false), (5, false), (6, false), (7, false), (8, false)] (by kernel_rfl) (by kernel_rfl) (Below wk.heap.size wk) ⟨Closed.below wk, fun _ h => h⟩ (Below.refl _ _).drew ?_
          simp only [pickOps, List.getElem?_cons_zero, List.getElem?_cons_succ]
          repeat (first | (refine mix_skip (by rfl) ?_; simp only [Act.put, List.setIfInBounds_toArray, List.set_cons_zero, List.set_cons_succ]) | (refine mix_read _ (by rfl) (fun W hW => by (have hW := HBS.out W hW; obtain ⟨c0, c1, c2⟩ := HCQ.out W hW k y1 HY.out.1; obtain ⟨d0, d1, d2⟩ := HCQ.out W hW i q HQI.out; go_simp; first | done | with_reducible rfl)) ?_; simp only [Act.put, List.setIfInBounds_toArray, List.set_cons_zero, List.set_cons_succ]) | (refine mix_call _ _ _ (by rfl) (fun W hW => by (have hW := HBS.out W hW; obtain ⟨c0, c1, c2⟩ := HCQ.out W hW k y1 HY.out.1; obtain ⟨d0, d1, d2⟩ := HCQ.out W hW i q HQI.out; go_simp; first | done | rfl)) (fun W hW => K1.out W (HBS.out W hW)) ?_; simp only [Act.put, List.setIfInBounds_toArray, List.set_cons_zero, List.set_cons_succ]))
          refine mix_nil (fun W hW => ?_)
          have hq := HBS.out W hW
          clear hW HBS K1
          obtain ⟨wm, rfl⟩ : ∃ V, V = W := ⟨W, rfl⟩
          cases s1
          all_goals
            go_wp2_with fail
            have HBS : Hid (∀ W, Below wm.heap.size wm W → Q W) := Lib.hid (fun W hB => HQ.out _ _ hq hB)
            clear hq
            refine region_mix (Below wm.heap.size wm) [(0, false), (1, false), (2, false), (3, false), (4, false), (5, false), (6, false), (7, false), (8, false)] (by kernel_rfl) (by kernel_rfl) (Below wm.heap.size wm) ⟨Closed.below wm, fun _ h => h⟩ (Below.refl _ _).drew ?_
            simp only [pickOps, List.getElem?_cons_zero, List.getElem?_cons_succ]
            repeat (first | (refine mix_skip (by rfl) ?_; simp only [Act.put, List.setIfInBounds_toArray, List.set_cons_zero, List.set_cons_succ]) | (refine mix_read _ (by rfl) (fun W hW => by (have hW := HBS.out W hW; obtain ⟨c0, c1, c2⟩ := HCP.out W hW k y2 HY.out.2; obtain ⟨d0, d1, d2⟩ := HCQ.out W hW i q HQI.out; go_simp; first | done | with_reducible rfl)) ?_; simp only [Act.put, List.setIfInBounds_toArray, List.set_cons_zero, List.set_cons_succ]) | (refine mix_call _ _ _ (by rfl) (fun W hW => by (have hW := HBS.out W hW; obtain ⟨c0, c1, c2⟩ := HCP.out W hW k y2 HY.out.2; obtain ⟨d0, d1, d2⟩ := HCQ.out W hW i q HQI.out; go_simp; first | done | rfl)) (fun W hW => K2.out W (HBS.out W hW)) ?_; simp only [Act.put, List.setIfInBounds_toArray, List.set_cons_zero, List.set_cons_succ]))
            refine mix_nil (fun W hW => ?_)
            have hq := HBS.out W hW
            clear hW HBS K2
            cases s2
            all_goals
              go_wp2_with fail
              go_roundw
              case rel => first | exact ⟨k + 1, n, m, rfl, rfl, by go_num, hkl, hq, HN⟩ | exact ⟨k + 1, n + 1, m, by go_num, rfl, by go_num, hkl, hq, HN⟩ | exact ⟨k + 1, n, m + 1, rfl, by go_num, by go_num, hkl, hq, HN⟩ | exact ⟨k + 1, n + 1, m + 1, by go_num, by go_num, by go_num, hkl, hq, HN⟩
              case measure => simp [intOf]; omega
        · obtain rfl : k = ps.length := by omega
          obtain rfl : n = m := by
            have h1 := HC.out.1
            have h2 := HC.out.2
            rw [← HQL.out, List.take_length] at h1
            rw [List.take_length] at h2
            rw [← h1, ← h2]
            exact cnt_perm HD.out.1 HD.out.2.2 q
          have hwi : IntKind.i64.wrap ((i : Int) + 1) = (i : Int) + 1 := IntWalk.i64_in _ (by omega)
          clear HC hkl
          by_cases hi0 : 0 < i
          · obtain ⟨j, hj⟩ : ∃ j, j + 1 = i := ⟨i - 1, by omega⟩
            have hi0' : (0 : Int) < (i : Int) := by omega
            have hi0d : decide ((0 : Int) < (i : Int)) = true := decide_eq_true hi0'
            have hi0e : decide (0 < i) = true := decide_eq_true hi0
            have rj : IntKind.i64.wrap ((i : Int) - 1) = (j : Int) := by rw [IntKind.wrap_i64]; omega
            have hjl : j < ps.length := by omega
            have hjl' : (j : Int) < ps.length := by omega
            obtain ⟨q0, hqj⟩ : ∃ q, qs[j]? = some q := ⟨_, List.getElem?_eq_getElem (by rw [HQL.out]; exact hjl)⟩
            have HQJ := Lib.hid hqj
            obtain ⟨v, hv⟩ : ∃ v, cmpR (rowV l q.ss) (rowV l q0.ss) = v := ⟨_, rfl⟩
            have hv0 : ¬ v < 0 := by
              rw [← hv]
              exact sorted_cmp HD.out.1 HD.out.2.1 HD.out.2.2 (i := j) (by rw [hj]; exact HQI.out) hqj (by omega)
            have hv0d : decide (v < 0) = false := decide_eq_false hv0
            have hss : ∀ x ∈ qs, x.ss.length ≤ 1000 := fun x hx => by
              obtain ⟨ix, hix, e⟩ := List.getElem_of_mem hx
              obtain ⟨p, hp, e1⟩ := vals_at HD.out.2.2 (i := ix) (q := x) (by rw [List.getElem?_eq_getElem hix, e]) (by rw [HD.out.1.length_eq, List.length_range, ← HQL.out]; exact hix)
              have s1 : x.ss = p.ss := congrArg (fun z => z.2.2) e1
              rw [s1]
              exact HLS.out p (List.mem_of_getElem? hp)
            have KC : Hid (∀ W, Q W → Calls Tryd.prog 10 #[l.val, q.val, q0.val] W fun e w' => e = .returned (.int .i64 v) ∧ Below W.heap.size W w') := Lib.hid fun W hW => cmp_any (HTW.out W (HQR.out W hW)).1.1 (HTW.out W (HQR.out W hW)).1.2 ((HQq.out W hW).each q (List.mem_of_getElem? HQI.out)) ((HQq.out W hW).each q0 (List.mem_of_getElem? hqj)) (hss q (List.mem_of_getElem? HQI.out)) (hss q0 (List.mem_of_getElem? hqj)) hv
            have HSS := Lib.hid hss
            clear hv hqj hss hj
            go_wp2_with fail
            have HBS : Hid (∀ W, Below wk.heap.size wk W → Q W) := Lib.hid (fun W hB => HQ.out _ _ hq hB)
            clear hq
            refine region_mix (Below wk.heap.size wk) [(0, false), (1, false), (2, false), (3, false), (4, false), (5, false), (6, false), (7, false), (8, false), (9, false), (10, false), (11, false), (12, false), (13, false), (14, false), (15, false), (16, false), (17, false), (18, false), (19, false), (20, false)] (by kernel_rfl) (by kernel_rfl) (Below wk.heap.size wk) ⟨Closed.below wk, fun _ h => h⟩ (Below.refl _ _).drew ?_
            simp only [pickOps, List.getElem?_cons_zero, List.getElem?_cons_succ]
            repeat (first | (refine mix_skip (by rfl) ?_; simp only [Act.put, List.setIfInBounds_toArray, List.set_cons_zero, List.set_cons_succ]) | (refine mix_read _ (by rfl) (fun W hW => by (have hW := HBS.out W hW; have m0 := HQl2.out W hW; have x0 := m0.cell_at 0 rfl; have x1 := m0.cell_at 1 rfl; have x2 := m0.cell_at 2 rfl; have x3 := m0.cell_at 3 rfl; have x4 := m0.cell_at 4 rfl; have x5 := m0.cell_at 5 rfl; have x6 := m0.cell_at 6 rfl; have x7 := m0.cell_at 7 rfl; have x8 := m0.cell_at 8 rfl; have x9 := m0.cell_at 9 rfl; have x10 := m0.cell_at 10 rfl; clear m0; obtain ⟨c0, c1, c2⟩ := HCQ.out W hW i q HQI.out; obtain ⟨d0, d1, d2⟩ := HCQ.out W hW j q0 HQJ.out; go_simp; first | done | with_reducible rfl)) ?_; simp only [Act.put, List.setIfInBounds_toArray, List.set_cons_zero, List.set_cons_succ]) | (refine mix_call _ _ _ (by rfl) (fun W hW => by (have hW := HBS.out W hW; have m0 := HQl2.out W hW; have x0 := m0.cell_at 0 rfl; have x1 := m0.cell_at 1 rfl; have x2 := m0.cell_at 2 rfl; have x3 := m0.cell_at 3 rfl; have x4 := m0.cell_at 4 rfl; have x5 := m0.cell_at 5 rfl; have x6 := m0.cell_at 6 rfl; have x7 := m0.cell_at 7 rfl; have x8 := m0.cell_at 8 rfl; have x9 := m0.cell_at 9 rfl; have x10 := m0.cell_at 10 rfl; clear m0; obtain ⟨c0, c1, c2⟩ := HCQ.out W hW i q HQI.out; obtain ⟨d0, d1, d2⟩ := HCQ.out W hW j q0 HQJ.out; go_simp; first | done | rfl)) (fun W hW => KC.out W (HBS.out W hW)) ?_; simp only [Act.put, List.setIfInBounds_toArray, List.set_cons_zero, List.set_cons_succ]))
            refine mix_nil (fun W hW => ?_)
            have hq := HBS.out W hW
            clear hW HBS KC
            go_wp2_with fail
            go_roundw
            case rel => exact ⟨i + 1, by go_num, hlt, hq⟩
            case measure => simp [intOf]; omega
          · have hi0' : ¬ (0 : Int) < (i : Int) := by omega
            have hi0d : decide ((0 : Int) < (i : Int)) = false := decide_eq_false hi0'
            have hi0e : decide (0 < i) = false := decide_eq_false hi0
            go_wp2_with fail
            have HBS : Hid (∀ W, Below wk.heap.size wk W → Q W) := Lib.hid (fun W hB => HQ.out _ _ hq hB)
            clear hq
            refine region_mix (Below wk.heap.size wk) [(0, false), (1, false), (2, false), (3, false), (4, false), (5, false), (6, false), (7, false), (8, false), (9, false), (10, false), (11, false), (12, false), (13, false), (14, false), (15, false), (16, false), (17, false), (18, false), (19, false), (20, false)] (by kernel_rfl) (by kernel_rfl) (Below wk.heap.size wk) ⟨Closed.below wk, fun _ h => h⟩ (Below.refl _ _).drew ?_
            simp only [pickOps, List.getElem?_cons_zero, List.getElem?_cons_succ]
            repeat (first | (refine mix_skip (by rfl) ?_; simp only [Act.put, List.setIfInBounds_toArray, List.set_cons_zero, List.set_cons_succ]) | (refine mix_read _ (by rfl) (fun W hW => by (have hW := HBS.out W hW; go_simp; first | done | with_reducible rfl)) ?_; simp only [Act.put, List.setIfInBounds_toArray, List.set_cons_zero, List.set_cons_succ]))
            refine mix_nil (fun W hW => ?_)
            have hq := HBS.out W hW
            clear hW HBS
            go_wp2_with fail
            go_roundw
            case rel => exact ⟨i + 1, by go_num, hlt, hq⟩
            case measure => simp [intOf]; omega
    · obtain rfl : i = ps.length := by omega
      obtain ⟨qz, hqz⟩ : ∃ q, qs[0]? = some q := ⟨_, List.getElem?_eq_getElem (by rw [HQL.out]; exact hposN)⟩
      obtain ⟨pa, hpa⟩ : ∃ p, ps[a]? = some p := ⟨_, List.getElem?_eq_getElem ha⟩
      have HPA := Lib.hid hpa
      have HCZ : Hid (∀ W, Q W → W.cell? ⟨b2, o2, none⟩ = some (.int .i64 qz.s) ∧ W.cell? ⟨b2, o2 + 1, none⟩ = some (.int .i64 qz.x) ∧ W.cell? ⟨b2, o2 + 2, none⟩ = some (.slice qz.A qz.ss.length qz.c)) := Lib.hid fun W hW => by simpa using HCQ.out W hW 0 qz hqz
      have hsame : sameP qz pa = true := by
        obtain ⟨p, hp, e1⟩ := vals_at HD.out.2.2 hqz (by rw [HD.out.1.length_eq, List.length_range]; exact hposN)
        rw [least_first (ord_rows _) HD.out.1 HD.out.2.1 ha HLA.out, hpa] at hp
        cases hp
        rw [same_pk, e1]
        simp
      have K3 : Hid (∀ W, Q W → Calls Tryd.prog 14 #[qz.val, pa.val] W fun e w' => e = .returned (.bool true) ∧ Below W.heap.size W w') := Lib.hid fun W hW => sameR12_any ((HQq.out W hW).each qz (List.mem_of_getElem? hqz)) ((HTW.out W (HQR.out W hW)).2.each pa (List.mem_of_getElem? HPA.out)) hsame
      have K4 : Hid (∀ W, Q W → Calls Tryd.prog 9 #[] W fun e w' => e = .returned (.bool true) ∧ Below W.heap.size W w') := Lib.hid fun W hW => KW12.out W (HQR.out W hW)
      clear hqz hpa hsame
      go_wp2_with fail
      have HBS : Hid (∀ W, Below wo.heap.size wo W → Q W) := Lib.hid (fun W hB => HQ.out _ _ hq hB)
      clear hq
      refine region_mix (Below wo.heap.size wo) [(0, false), (1, false), (2, false), (3, false), (4, false), (5, false), (6, false), (7, false), (8, false), (9, false), (10, false), (11, false), (12, false), (13, false), (14, false), (15, false)] (by kernel_rfl) (by kernel_rfl) (Below wo.heap.size wo) ⟨Closed.below wo, fun _ h => h⟩ (Below.refl _ _).drew ?_
      simp only [pickOps, List.getElem?_cons_zero, List.getElem?_cons_succ]
      repeat (first | (refine mix_skip (by rfl) ?_; simp only [Act.put, List.setIfInBounds_toArray, List.set_cons_zero, List.set_cons_succ]) | (refine mix_read _ (by rfl) (fun W hW => by (have hW := HBS.out W hW; obtain ⟨c0, c1, c2⟩ := HCZ.out W hW; obtain ⟨d0, d1, d2⟩ := HCP.out W hW a pa HPA.out; go_simp; first | done | with_reducible rfl)) ?_; simp only [Act.put, List.setIfInBounds_toArray, List.set_cons_zero, List.set_cons_succ]) | (refine mix_call _ _ _ (by rfl) (fun W hW => by (have hW := HBS.out W hW; obtain ⟨c0, c1, c2⟩ := HCZ.out W hW; obtain ⟨d0, d1, d2⟩ := HCP.out W hW a pa HPA.out; go_simp; first | done | rfl)) (fun W hW => K3.out W (HBS.out W hW)) ?_; simp only [Act.put, List.setIfInBounds_toArray, List.set_cons_zero, List.set_cons_succ]) | (refine mix_call _ _ _ (by rfl) (fun W hW => by (have hW := HBS.out W hW; obtain ⟨c0, c1, c2⟩ := HCZ.out W hW; obtain ⟨d0, d1, d2⟩ := HCP.out W hW a pa HPA.out; go_simp; first | done | rfl)) (fun W hW => K4.out W (HBS.out W hW)) ?_; simp only [Act.put, List.setIfInBounds_toArray, List.set_cons_zero, List.set_cons_succ]))
      refine mix_nil (fun W hW => ?_)
      have hq := HBS.out W hW
      clear hW HBS
      go_wp2_with fail
      go_ret
      exact ⟨rfl, HRb.out _ (HQR.out _ hq)⟩
end Go.Proofs.YtiknjkgioiknnaaDoor
