/- The document's own layer 13: Points. -/
import Derived.Test.YtbdbgoploednbaaDoorQNeeI
namespace Go.Proofs.YtbdbgoploednbaaDoor
open Go.RowKit Go.Shelf
set_option linter.unusedVariables false
set_option linter.unusedSimpArgs false
set_option maxRecDepth 100000

/-- Is it beyond what has been told last? The least of those that are. -/
def above13 (lo : Option Int) (x : Int) : Bool := (lo.map fun y => decide (y < x)).getD true
def stepL13 (lo : Option Int) (s : Int × Bool) (x : Int) : Int × Bool := if (above13 lo x && (!s.2 || decide (x < s.1))) = true then (x, true) else s
def leastL13 (lo : Option Int) (xs : List Int) : Int × Bool := xs.foldl (stepL13 lo) (0, false)
def lastOf13 (rs : List Int) (k : Nat) : Option Int := if k = 0 then none else rs[k - 1]?
theorem leastL_snoc (lo : Option Int) (xs : List Int) (x : Int) : leastL13 lo (xs ++ [x]) = stepL13 lo (leastL13 lo xs) x := by unfold leastL13; rw [List.foldl_append]; rfl
theorem least_next {ns : List (Int × Int × Int)} {lo : Option Int} {j : Nat} {x : Int × Int × Int} (h : ns[j]? = some x) : leastL13 lo ((ns.take (j + 1)).map fun a => a.1) = stepL13 lo (leastL13 lo ((ns.take j).map fun a => a.1)) x.1 := by
  rw [List.take_add_one, h, Option.toList_some, List.map_append, List.map_cons, List.map_nil, leastL_snoc]
theorem least_spec (lo : Option Int) (xs : List Int) : ∀ n, ((leastL13 lo (xs.take n)).2 = true → (leastL13 lo (xs.take n)).1 ∈ xs ∧ above13 lo (leastL13 lo (xs.take n)).1 = true ∧ ∀ y ∈ xs.take n, above13 lo y = true → (leastL13 lo (xs.take n)).1 ≤ y) ∧ ((leastL13 lo (xs.take n)).2 = false → ∀ y ∈ xs.take n, above13 lo y = false)
  | 0 => by
    rw [List.take_zero]
    exact ⟨fun h => (by cases h), fun _ y hy => (by cases hy)⟩
  | n + 1 => by
    obtain ⟨h1, h2⟩ := least_spec lo xs n
    cases hx : xs[n]? with
    | none => rw [List.take_add_one, hx]; simpa using ⟨h1, h2⟩
    | some x =>
      rw [List.take_add_one, hx, Option.toList_some, leastL_snoc]
      generalize leastL13 lo (xs.take n) = s at h1 h2
      have hm := List.mem_of_getElem? hx
      unfold stepL13
      split
      · rename_i hc
        rw [Bool.and_eq_true, Bool.or_eq_true, Bool.not_eq_true', decide_eq_true_eq] at hc
        refine ⟨fun _ => ⟨hm, hc.1, fun y hy ha => ?_⟩, fun h => by cases h⟩
        rcases List.mem_append.1 hy with hy | hy
        · rcases hc.2 with hs | hs
          · rw [h2 hs y hy] at ha; cases ha
          · cases hb : s.2
            · rw [h2 hb y hy] at ha; cases ha
            · have := (h1 hb).2.2 y hy ha
              show x ≤ y
              omega
        · obtain rfl : y = x := by simpa using hy
          exact Int.le_refl _
      · rename_i hc
        refine ⟨fun hs => ⟨(h1 hs).1, (h1 hs).2.1, fun y hy ha => ?_⟩, fun hs y hy => ?_⟩
        · rcases List.mem_append.1 hy with hy | hy
          · exact (h1 hs).2.2 y hy ha
          · obtain rfl : y = x := by simpa using hy
            apply Classical.byContradiction
            intro hlt
            exact hc (by rw [ha, hs]; simp; omega)
        · rcases List.mem_append.1 hy with hy | hy
          · exact h2 hs y hy
          · obtain rfl : y = x := by simpa using hy
            cases ha : above13 lo y
            · rfl
            · exact absurd (by rw [ha, hs]; rfl) hc
/-- The least of those beyond the first k points is the next one, if there is one. -/
theorem least_is {rs xs : List Int} (hr : Rising rs) (hm : ∀ x, x ∈ rs ↔ x ∈ xs) {k : Nat} (hk : k ≤ rs.length) : ((leastL13 (lastOf13 rs k) xs).2 = false ∧ k = rs.length) ∨ ∃ x, rs[k]? = some x ∧ leastL13 (lastOf13 rs k) xs = (x, true) := by
  have hs := least_spec (lastOf13 rs k) xs xs.length
  rw [List.take_length] at hs
  have hR := List.pairwise_iff_getElem.1 hr
  have hlast : ∀ (i : Nat) (hi : i < rs.length), above13 (lastOf13 rs k) rs[i] = true ↔ k ≤ i := fun i hi => by
    unfold lastOf13 above13
    by_cases h0 : k = 0
    · simp [h0]
    · rw [if_neg h0, List.getElem?_eq_getElem (by omega)]
      simp only [Option.map_some, Option.getD_some, decide_eq_true_eq]
      constructor
      · intro h
        apply Classical.byContradiction
        intro hlt
        by_cases e : i = k - 1
        · subst e; omega
        · have := hR i (k - 1) hi (by omega) (by omega); omega
      · intro h
        exact hR (k - 1) i (by omega) hi (by omega)
  cases hb : (leastL13 (lastOf13 rs k) xs).2
  · refine .inl ⟨rfl, ?_⟩
    apply Classical.byContradiction
    intro hne
    have hk' : k < rs.length := by omega
    have := hs.2 hb rs[k] ((hm _).1 (List.getElem_mem hk'))
    rw [(hlast k hk').2 (Nat.le_refl _)] at this
    cases this
  · obtain ⟨h1, h2, h3⟩ := hs.1 hb
    obtain ⟨i, hi, e⟩ := List.getElem_of_mem ((hm _).2 h1)
    have hki : k ≤ i := (hlast i hi).1 (by rw [e]; exact h2)
    have hk' : k < rs.length := by omega
    have h4 := h3 rs[k] ((hm _).1 (List.getElem_mem hk')) ((hlast k hk').2 (Nat.le_refl _))
    refine .inr ⟨rs[k], List.getElem?_eq_getElem hk', ?_⟩
    have : (leastL13 (lastOf13 rs k) xs).1 = rs[k] := by
      by_cases e2 : i = k
      · subst e2; exact e.symm
      · have := hR k i hk' hi (by omega)
        omega
    rw [← this, ← hb]
theorem row_num13 {Q : World → Prop} {A : Option Addr} {zs : List Int} (hQ : ∀ W, Q W → Row W W.heap.size A (nums .i64 zs)) {W0 : World} (h0 : Q W0) {j : Nat} (hj : j < zs.length) :
    ∃ o1 o2, Hid (A = some ⟨o1, o2, none⟩) ∧ Hid (∀ W, Q W → ∀ (j : Nat) (x : Int), zs[j]? = some x → W.cell? ⟨o1, o2 + j, none⟩ = some (.int .i64 x)) := by
  obtain ⟨o1, o2, hA, _, hc⟩ := hQ _ h0 (by simp [nums]; omega)
  refine ⟨o1, o2, Lib.hid hA, Lib.hid fun W hW i x hx => ?_⟩
  obtain ⟨p1, p2, hA', _, hc'⟩ := hQ _ hW (by simp [nums]; omega)
  rw [hA] at hA'
  cases hA'
  exact hc' i _ (by simp [nums, hx])

set_option maxRecDepth 100000 in
set_option maxHeartbeats 32000000 in
theorem pointsR_any {ns : List (Int × Int × Int)} {A : Option Addr} (c : Nat) {w : World} (hA : Row w w.heap.size A (ns.flatMap needCells)) (hn : ns.length ≤ 900) :
    Calls Tryd.prog 13 #[.slice A ns.length c] w fun e w' => ∃ v, e = .returned v ∧ w'.ownsRow w.heap.size 3 1 v (pointsN ns).length (nums .i64 (pointsN ns)) ∧ Below w.heap.size w w' := by
  obtain ⟨rs, hrs⟩ : ∃ rs, pointsN ns = rs := ⟨_, rfl⟩
  have HRS := Lib.hid hrs
  have hrl : rs.length ≤ 900 := by rw [← hrs]; exact Nat.le_trans (points_len ns) hn
  have HLI : Hid (∀ k, k ≤ rs.length → ((leastL13 (lastOf13 rs k) (ns.map fun a => a.1)).2 = false ∧ k = rs.length) ∨ ∃ x, rs[k]? = some x ∧ leastL13 (lastOf13 rs k) (ns.map fun a => a.1) = (x, true)) := Lib.hid fun k hk => least_is (by rw [← hrs]; exact points_rising ns) (fun x => by rw [← hrs, mem_points, List.mem_map]) hk
  have HQ0 : Hid (∀ W, Below w.heap.size w W → Row W W.heap.size A (ns.flatMap needCells)) := Lib.hid fun W h => hA.on h
  have HRN : Hid (rs.length ≤ ns.length) := Lib.hid (by rw [← hrs]; exact points_len ns)
  clear hA hrs
  go_enter Tryd.func13, Tryd.ntmps13
  go_wp2_with fail
  go_loopw [3, 9] (fun v i wr => ∃ k : Nat, k ≤ ns.length ∧ i = .int .i64 k ∧ k ≤ rs.length ∧ Hid (wr.ownsRow w.heap.size 3 1 v k (nums .i64 (rs.take k)) ∧ Below w.heap.size w wr)) (fun _ i _ => ns.length - (intOf i).toNat)
  case atStart => exact ⟨0, by omega, rfl, by omega, Lib.hid ⟨World.ownsRow_nil _ _ _ _, Below.refl _ _⟩⟩
  case round =>
    obtain ⟨k, hk, rfl, hkr, HI⟩ := hrel
    by_cases hlt : k < ns.length
    · have hlt' : (k : Int) < ns.length := by omega
      obtain ⟨x0, hx0⟩ : ∃ x, ns[0]? = some x := ⟨_, List.getElem?_eq_getElem (by omega)⟩
      obtain ⟨o1, o2, HA, HC0, HC⟩ := row_at (Q := fun W => Below w.heap.size w W) (n := 3) (fun _ => rfl) (by omega) HQ0.out HI.out.2 hx0
      clear hx0
      obtain rfl := HA.out
      clear HA
      obtain ⟨A3, c3, rfl, hrow, _⟩ := owns_slice HI.out.1
      obtain ⟨lo, hlo⟩ : ∃ lo, lastOf13 rs k = lo := ⟨_, rfl⟩
      have HLO := Lib.hid hlo
      have HEND : Hid (∀ s1, leastL13 lo (ns.map fun a => a.1) = (s1, false) → k = rs.length) := Lib.hid fun s1 h => by
        rcases HLI.out k hkr with ⟨_, e⟩ | ⟨x, _, e⟩
        · exact e
        · rw [hlo, h] at e; cases e
      have HSOM : Hid (∀ s1, leastL13 lo (ns.map fun a => a.1) = (s1, true) → rs[k]? = some s1) := Lib.hid fun s1 h => by
        rcases HLI.out k hkr with ⟨e, _⟩ | ⟨x, hx, e⟩
        · rw [hlo, h] at e; cases e
        · rw [hlo, h] at e; cases e; exact hx
      obtain ⟨Q2, HQc, HQ2, HQ2o, HQ2r, hq⟩ : ∃ Q2 : World → Prop, Hid (Closed Q2) ∧ Hid (∀ W, Q2 W → Below w.heap.size w W) ∧ Hid (∀ W, Q2 W → W.ownsRow w.heap.size 3 1 (.slice A3 k c3) k (nums .i64 (rs.take k)) ∧ Below w.heap.size w W) ∧ Hid (∀ W, Q2 W → Row W W.heap.size A3 (nums .i64 (rs.take k))) ∧ Q2 wr :=
        ⟨fun W => Below wr.heap.size wr W, Lib.hid (Closed.below wr), Lib.hid fun W h => HI.out.2.trans (h.mono HI.out.2.size), Lib.hid fun W h => ⟨ownsV_keep HI.out.1 h, HI.out.2.trans (h.mono HI.out.2.size)⟩, Lib.hid fun W h => hrow.on h, Below.refl _ _⟩
      have HK0 : Hid True := Lib.hid trivial
      clear hrow hlo HI
      by_cases h0 : k = 0
      · have HK0 := Lib.hid h0
        have e0 : ((k : Int) == 0) = true := by rw [h0]; rfl
        clear h0
        go_wp2_with fail
        go_loopw [4, 5, 6] (fun a b i wr => ∃ (j : Nat) (s1 : Int) (s2 : Bool), j ≤ ns.length ∧ a = .int .i64 s1 ∧ b = .bool s2 ∧ i = .int .i64 j ∧ Hid (leastL13 lo ((ns.take j).map fun a => a.1) = (s1, s2)) ∧ Q2 wr) (fun _ _ i _ => ns.length - (intOf i).toNat)
        case atStart => exact ⟨0, 0, false, by omega, rfl, rfl, rfl, Lib.hid rfl, hq⟩
        case round =>
          clear hq
          obtain ⟨j, s1, s2, hj, rfl, rfl, rfl, HS, hq⟩ := hrel
          by_cases hlt2 : j < ns.length
          · have hlt2' : (j : Int) < ns.length := by omega
            obtain ⟨⟨x1, x2, x3⟩, hx⟩ : ∃ x, ns[j]? = some x := ⟨_, List.getElem?_eq_getElem hlt2⟩
            have HX := Lib.hid hx
            clear hx
            obtain ⟨wb, rfl⟩ : ∃ W, W = wr := ⟨wr, rfl⟩
            have HAB : Hid (above13 lo x1 = true) := Lib.hid (by rw [← HLO.out]; unfold lastOf13 above13; rw [if_pos HK0.out]; rfl)
            cases s2
            · have HN : Hid (leastL13 lo ((ns.take (j + 1)).map fun a => a.1) = (x1, true)) := Lib.hid (by rw [least_next HX.out, HS.out]; unfold stepL13; rw [show above13 lo x1 = true from HAB.out]; simp)
              go_wp2_with fail
              refine region_mix Q2 [(0, false), (1, false), (2, false), (3, false), (4, false), (5, false), (6, false), (7, false), (8, false), (9, false), (10, false), (11, false), (12, false), (13, false), (14, false), (15, false), (16, false), (17, false), (18, false), (19, false), (20, false), (21, false), (22, false), (23, false), (24, false), (25, false), (26, false), (27, false), (28, false), (29, false)] (by kernel_rfl) (by kernel_rfl) Q2 ⟨HQc.out, fun _ h => h⟩ (HQc.out.drew hq) ?_
              simp only [pickOps, List.getElem?_cons_zero, List.getElem?_cons_succ]
              repeat (first | (refine mix_skip (by rfl) ?_; simp only [Act.put, List.setIfInBounds_toArray, List.set_cons_zero, List.set_cons_succ]) | (refine mix_read _ (by rfl) (fun W hW => by (have c0 := HC0.out W (HQ2.out W hW) j _ _ HX.out rfl; clear hW; go_simp; first | done | with_reducible rfl)) ?_; simp only [Act.put, List.setIfInBounds_toArray, List.set_cons_zero, List.set_cons_succ]))
              refine mix_nil (fun W hW => ?_)
              have hq := hW
              have c0 := HC0.out W (HQ2.out W hW) j _ _ HX.out rfl
              clear hW
              go_wp2_with fail
              go_roundw
              case rel => exact ⟨j + 1, x1, true, hlt2, rfl, rfl, by go_num, HN, hq⟩
              case measure => simp [intOf]; omega
            · by_cases hlt3 : x1 < s1
              · have HN : Hid (leastL13 lo ((ns.take (j + 1)).map fun a => a.1) = (x1, true)) := Lib.hid (by rw [least_next HX.out, HS.out]; unfold stepL13; rw [show above13 lo x1 = true from HAB.out]; simp [hlt3])
                go_wp2_with fail
                refine region_mix Q2 [(0, false), (1, false), (2, false), (3, false), (4, false), (5, false), (6, false), (7, false), (8, false), (9, false), (10, false), (11, false), (12, false), (13, false), (14, false), (15, false), (16, false), (17, false), (18, false), (19, false), (20, false), (21, false), (22, false), (23, false), (24, false), (25, false), (26, false), (27, false), (28, false), (29, false)] (by kernel_rfl) (by kernel_rfl) Q2 ⟨HQc.out, fun _ h => h⟩ (HQc.out.drew hq) ?_
                simp only [pickOps, List.getElem?_cons_zero, List.getElem?_cons_succ]
                repeat (first | (refine mix_skip (by rfl) ?_; simp only [Act.put, List.setIfInBounds_toArray, List.set_cons_zero, List.set_cons_succ]) | (refine mix_read _ (by rfl) (fun W hW => by (have c0 := HC0.out W (HQ2.out W hW) j _ _ HX.out rfl; clear hW; go_simp; first | done | with_reducible rfl)) ?_; simp only [Act.put, List.setIfInBounds_toArray, List.set_cons_zero, List.set_cons_succ]))
                refine mix_nil (fun W hW => ?_)
                have hq := hW
                have c0 := HC0.out W (HQ2.out W hW) j _ _ HX.out rfl
                clear hW
                go_wp2_with fail
                go_roundw
                case rel => exact ⟨j + 1, x1, true, hlt2, rfl, rfl, by go_num, HN, hq⟩
                case measure => simp [intOf]; omega
              · have HN : Hid (leastL13 lo ((ns.take (j + 1)).map fun a => a.1) = (s1, true)) := Lib.hid (by rw [least_next HX.out, HS.out]; unfold stepL13; rw [show above13 lo x1 = true from HAB.out]; simp [hlt3])
                go_wp2_with fail
                refine region_mix Q2 [(0, false), (1, false), (2, false), (3, false), (4, false), (5, false), (6, false), (7, false), (8, false), (9, false), (10, false), (11, false), (12, false), (13, false), (14, false), (15, false), (16, false), (17, false), (18, false), (19, false), (20, false), (21, false), (22, false), (23, false), (24, false), (25, false), (26, false), (27, false), (28, false), (29, false)] (by kernel_rfl) (by kernel_rfl) Q2 ⟨HQc.out, fun _ h => h⟩ (HQc.out.drew hq) ?_
                simp only [pickOps, List.getElem?_cons_zero, List.getElem?_cons_succ]
                repeat (first | (refine mix_skip (by rfl) ?_; simp only [Act.put, List.setIfInBounds_toArray, List.set_cons_zero, List.set_cons_succ]) | (refine mix_read _ (by rfl) (fun W hW => by (have c0 := HC0.out W (HQ2.out W hW) j _ _ HX.out rfl; clear hW; go_simp; first | done | with_reducible rfl)) ?_; simp only [Act.put, List.setIfInBounds_toArray, List.set_cons_zero, List.set_cons_succ]))
                refine mix_nil (fun W hW => ?_)
                have hq := hW
                clear hW
                go_wp2_with fail
                go_roundw
                case rel => exact ⟨j + 1, s1, true, hlt2, rfl, rfl, by go_num, HN, hq⟩
                case measure => simp [intOf]; omega
          · obtain rfl : j = ns.length := by omega
            rw [List.take_length] at HS
            cases s2
            · have HE : Hid (k = rs.length) := Lib.hid (HEND.out s1 HS.out)
              have hO := HQ2o.out _ hq
              rw [HE.out, List.take_length] at hO
              have HO := Lib.hid hO
              clear hq hO
              go_wp2_with fail
              go_ret
              exact ⟨_, rfl, by rw [HRS.out]; have := HO.out.1; rw [← HE.out] at this ⊢; exact this, HO.out.2⟩
            · have HNX : Hid (rs[k]? = some s1) := Lib.hid (HSOM.out s1 HS.out)
              have hO := HQ2o.out _ hq
              have hb1 := below1 wr (.cells #[.int .i64 s1] 3)
              obtain ⟨v', W3, hrun, hown, hgr, hBl⟩ := append_int w.heap.size k _ _ s1 (wr.alloc (.cells #[.int .i64 s1] 3)) wr.heap.size (ownsV_keep hO.1 hb1) ((Whole.new wr _ [_]).cell_at 0 rfl) (by omega) (Nat.le_trans hO.2.size hb1.size)
              have HE : Hid (W3.ownsRow w.heap.size 3 1 v' (k + 1) (nums .i64 (rs.take (k + 1))) ∧ Below w.heap.size w W3) := Lib.hid ⟨by
                rw [List.take_add_one, HNX.out]
                simpa [nums] using hown, hO.2.trans ((hb1.mono hO.2.size).trans hBl)⟩
              have HK1 : Hid (k + 1 ≤ rs.length) := Lib.hid (List.getElem?_eq_some_iff.1 HNX.out).1
              clear hq hO hb1 hown hgr hBl
              go_wp2_with (at_builtin; refine list_append rfl (.tmp 55) (.tmp 57) 38 rfl hrun ?_)
              go_roundw
              case rel => exact ⟨k + 1, hlt, by go_num, HK1.out, HE⟩
              case measure => simp [intOf]; omega
      · obtain ⟨km, hkm⟩ : ∃ km, k = km + 1 := ⟨k - 1, by omega⟩
        obtain ⟨la, hla⟩ : ∃ la, rs[km]? = some la := ⟨_, List.getElem?_eq_getElem (by omega)⟩
        have HLA : Hid ((rs.take k)[km]? = some la) := Lib.hid (by rw [List.getElem?_take, if_pos (by omega)]; exact hla)
        have HLO2 : Hid (lastOf13 rs k = some la) := Lib.hid (by unfold lastOf13; rw [if_neg h0, hkm, Nat.add_sub_cancel]; exact hla)
        obtain ⟨b3, off3, HA3, HD⟩ := row_num13 HQ2r.out hq (j := km) (by rw [List.length_take]; omega)
        obtain rfl := HA3.out
        have e0 : ((k : Int) == 0) = false := by rw [hkm]; simp; omega
        have e1 : IntKind.i64.wrap ((k : Int) - 1) = (km : Int) := by rw [IntWalk.i64_in _ (by omega)]; omega
        have e2 : (km : Int) < (k : Int) := by omega
        have e3 : km < k := by omega
        clear h0 hla HA3
        have HKM := Lib.hid hkm
        clear hkm
        go_wp2_with fail
        go_loopw [4, 5, 6] (fun a b i wr => ∃ (j : Nat) (s1 : Int) (s2 : Bool), j ≤ ns.length ∧ a = .int .i64 s1 ∧ b = .bool s2 ∧ i = .int .i64 j ∧ Hid (leastL13 lo ((ns.take j).map fun a => a.1) = (s1, s2)) ∧ Q2 wr) (fun _ _ i _ => ns.length - (intOf i).toNat)
        case atStart => exact ⟨0, 0, false, by omega, rfl, rfl, rfl, Lib.hid rfl, hq⟩
        case round =>
          clear hq
          obtain ⟨j, s1, s2, hj, rfl, rfl, rfl, HS, hq⟩ := hrel
          by_cases hlt2 : j < ns.length
          · have hlt2' : (j : Int) < ns.length := by omega
            obtain ⟨⟨x1, x2, x3⟩, hx⟩ : ∃ x, ns[j]? = some x := ⟨_, List.getElem?_eq_getElem hlt2⟩
            have HX := Lib.hid hx
            clear hx
            obtain ⟨wb, rfl⟩ : ∃ W, W = wr := ⟨wr, rfl⟩
            by_cases hgt : la < x1
            · have HAB : Hid (above13 lo x1 = true) := Lib.hid (by rw [← HLO.out, HLO2.out]; unfold above13; simp [hgt])
              cases s2
              · have HN : Hid (leastL13 lo ((ns.take (j + 1)).map fun a => a.1) = (x1, true)) := Lib.hid (by rw [least_next HX.out, HS.out]; unfold stepL13; rw [show above13 lo x1 = true from HAB.out]; simp)
                go_wp2_with fail
                refine region_mix Q2 [(0, false), (1, false), (2, false), (3, false), (4, false), (5, false), (6, false), (7, false), (8, false), (9, false), (10, false), (11, false), (12, false), (13, false), (14, false), (15, false), (16, false), (17, false), (18, false), (19, false), (20, false), (21, false), (22, false), (23, false), (24, false), (25, false), (26, false), (27, false), (28, false), (29, false)] (by kernel_rfl) (by kernel_rfl) Q2 ⟨HQc.out, fun _ h => h⟩ (HQc.out.drew hq) ?_
                simp only [pickOps, List.getElem?_cons_zero, List.getElem?_cons_succ]
                repeat (first | (refine mix_skip (by rfl) ?_; simp only [Act.put, List.setIfInBounds_toArray, List.set_cons_zero, List.set_cons_succ]) | (refine mix_read _ (by rfl) (fun W hW => by (have c0 := HC0.out W (HQ2.out W hW) j _ _ HX.out rfl; have d0 := HD.out W hW km _ HLA.out; clear hW; go_simp; first | done | with_reducible rfl)) ?_; simp only [Act.put, List.setIfInBounds_toArray, List.set_cons_zero, List.set_cons_succ]))
                refine mix_nil (fun W hW => ?_)
                have hq := hW
                have c0 := HC0.out W (HQ2.out W hW) j _ _ HX.out rfl
                clear hW
                go_wp2_with fail
                go_roundw
                case rel => exact ⟨j + 1, x1, true, hlt2, rfl, rfl, by go_num, HN, hq⟩
                case measure => simp [intOf]; omega
              · by_cases hlt3 : x1 < s1
                · have HN : Hid (leastL13 lo ((ns.take (j + 1)).map fun a => a.1) = (x1, true)) := Lib.hid (by rw [least_next HX.out, HS.out]; unfold stepL13; rw [show above13 lo x1 = true from HAB.out]; simp [hlt3])
                  go_wp2_with fail
                  refine region_mix Q2 [(0, false), (1, false), (2, false), (3, false), (4, false), (5, false), (6, false), (7, false), (8, false), (9, false), (10, false), (11, false), (12, false), (13, false), (14, false), (15, false), (16, false), (17, false), (18, false), (19, false), (20, false), (21, false), (22, false), (23, false), (24, false), (25, false), (26, false), (27, false), (28, false), (29, false)] (by kernel_rfl) (by kernel_rfl) Q2 ⟨HQc.out, fun _ h => h⟩ (HQc.out.drew hq) ?_
                  simp only [pickOps, List.getElem?_cons_zero, List.getElem?_cons_succ]
                  repeat (first | (refine mix_skip (by rfl) ?_; simp only [Act.put, List.setIfInBounds_toArray, List.set_cons_zero, List.set_cons_succ]) | (refine mix_read _ (by rfl) (fun W hW => by (have c0 := HC0.out W (HQ2.out W hW) j _ _ HX.out rfl; have d0 := HD.out W hW km _ HLA.out; clear hW; go_simp; first | done | with_reducible rfl)) ?_; simp only [Act.put, List.setIfInBounds_toArray, List.set_cons_zero, List.set_cons_succ]))
                  refine mix_nil (fun W hW => ?_)
                  have hq := hW
                  have c0 := HC0.out W (HQ2.out W hW) j _ _ HX.out rfl
                  clear hW
                  go_wp2_with fail
                  go_roundw
                  case rel => exact ⟨j + 1, x1, true, hlt2, rfl, rfl, by go_num, HN, hq⟩
                  case measure => simp [intOf]; omega
                · have HN : Hid (leastL13 lo ((ns.take (j + 1)).map fun a => a.1) = (s1, true)) := Lib.hid (by rw [least_next HX.out, HS.out]; unfold stepL13; rw [show above13 lo x1 = true from HAB.out]; simp [hlt3])
                  go_wp2_with fail
                  refine region_mix Q2 [(0, false), (1, false), (2, false), (3, false), (4, false), (5, false), (6, false), (7, false), (8, false), (9, false), (10, false), (11, false), (12, false), (13, false), (14, false), (15, false), (16, false), (17, false), (18, false), (19, false), (20, false), (21, false), (22, false), (23, false), (24, false), (25, false), (26, false), (27, false), (28, false), (29, false)] (by kernel_rfl) (by kernel_rfl) Q2 ⟨HQc.out, fun _ h => h⟩ (HQc.out.drew hq) ?_
                  simp only [pickOps, List.getElem?_cons_zero, List.getElem?_cons_succ]
                  repeat (first | (refine mix_skip (by rfl) ?_; simp only [Act.put, List.setIfInBounds_toArray, List.set_cons_zero, List.set_cons_succ]) | (refine mix_read _ (by rfl) (fun W hW => by (have c0 := HC0.out W (HQ2.out W hW) j _ _ HX.out rfl; have d0 := HD.out W hW km _ HLA.out; clear hW; go_simp; first | done | with_reducible rfl)) ?_; simp only [Act.put, List.setIfInBounds_toArray, List.set_cons_zero, List.set_cons_succ]))
                  refine mix_nil (fun W hW => ?_)
                  have hq := hW
                  clear hW
                  go_wp2_with fail
                  go_roundw
                  case rel => exact ⟨j + 1, s1, true, hlt2, rfl, rfl, by go_num, HN, hq⟩
                  case measure => simp [intOf]; omega
            · have HAB : Hid (above13 lo x1 = false) := Lib.hid (by rw [← HLO.out, HLO2.out]; unfold above13; simp [hgt])
              have hg2 : decide (la < x1) = false := decide_eq_false hgt
              cases s2
              · have HN : Hid (leastL13 lo ((ns.take (j + 1)).map fun a => a.1) = (s1, false)) := Lib.hid (by rw [least_next HX.out, HS.out]; unfold stepL13; rw [show above13 lo x1 = false from HAB.out]; simp)
                go_wp2_with fail
                refine region_mix Q2 [(0, false), (1, false), (2, false), (3, false), (4, false), (5, false), (6, false), (7, false), (8, false), (9, false), (10, false), (11, false), (12, false), (13, false), (14, false), (15, false), (16, false), (17, false), (18, false), (19, false), (20, false), (21, false), (22, false), (23, false), (24, false), (25, false), (26, false), (27, false), (28, false), (29, false)] (by kernel_rfl) (by kernel_rfl) Q2 ⟨HQc.out, fun _ h => h⟩ (HQc.out.drew hq) ?_
                simp only [pickOps, List.getElem?_cons_zero, List.getElem?_cons_succ]
                repeat (first | (refine mix_skip (by rfl) ?_; simp only [Act.put, List.setIfInBounds_toArray, List.set_cons_zero, List.set_cons_succ]) | (refine mix_read _ (by rfl) (fun W hW => by (have c0 := HC0.out W (HQ2.out W hW) j _ _ HX.out rfl; have d0 := HD.out W hW km _ HLA.out; clear hW; go_simp; first | done | with_reducible rfl)) ?_; simp only [Act.put, List.setIfInBounds_toArray, List.set_cons_zero, List.set_cons_succ]))
                refine mix_nil (fun W hW => ?_)
                have hq := hW
                clear hW
                go_wp2_with fail
                go_roundw
                case rel => exact ⟨j + 1, s1, false, hlt2, rfl, rfl, by go_num, HN, hq⟩
                case measure => simp [intOf]; omega
              · have HN : Hid (leastL13 lo ((ns.take (j + 1)).map fun a => a.1) = (s1, true)) := Lib.hid (by rw [least_next HX.out, HS.out]; unfold stepL13; rw [show above13 lo x1 = false from HAB.out]; simp)
                go_wp2_with fail
                refine region_mix Q2 [(0, false), (1, false), (2, false), (3, false), (4, false), (5, false), (6, false), (7, false), (8, false), (9, false), (10, false), (11, false), (12, false), (13, false), (14, false), (15, false), (16, false), (17, false), (18, false), (19, false), (20, false), (21, false), (22, false), (23, false), (24, false), (25, false), (26, false), (27, false), (28, false), (29, false)] (by kernel_rfl) (by kernel_rfl) Q2 ⟨HQc.out, fun _ h => h⟩ (HQc.out.drew hq) ?_
                simp only [pickOps, List.getElem?_cons_zero, List.getElem?_cons_succ]
                repeat (first | (refine mix_skip (by rfl) ?_; simp only [Act.put, List.setIfInBounds_toArray, List.set_cons_zero, List.set_cons_succ]) | (refine mix_read _ (by rfl) (fun W hW => by (have c0 := HC0.out W (HQ2.out W hW) j _ _ HX.out rfl; have d0 := HD.out W hW km _ HLA.out; clear hW; go_simp; first | done | with_reducible rfl)) ?_; simp only [Act.put, List.setIfInBounds_toArray, List.set_cons_zero, List.set_cons_succ]))
                refine mix_nil (fun W hW => ?_)
                have hq := hW
                clear hW
                go_wp2_with fail
                go_roundw
                case rel => exact ⟨j + 1, s1, true, hlt2, rfl, rfl, by go_num, HN, hq⟩
                case measure => simp [intOf]; omega
          · obtain rfl : j = ns.length := by omega
            rw [List.take_length] at HS
            cases s2
            · have HE : Hid (k = rs.length) := Lib.hid (HEND.out s1 HS.out)
              have hO := HQ2o.out _ hq
              rw [HE.out, List.take_length] at hO
              have HO := Lib.hid hO
              clear hq hO
              go_wp2_with fail
              go_ret
              exact ⟨_, rfl, by rw [HRS.out]; have := HO.out.1; rw [← HE.out] at this ⊢; exact this, HO.out.2⟩
            · have HNX : Hid (rs[k]? = some s1) := Lib.hid (HSOM.out s1 HS.out)
              have hO := HQ2o.out _ hq
              have hb1 := below1 wr (.cells #[.int .i64 s1] 3)
              obtain ⟨v', W3, hrun, hown, hgr, hBl⟩ := append_int w.heap.size k _ _ s1 (wr.alloc (.cells #[.int .i64 s1] 3)) wr.heap.size (ownsV_keep hO.1 hb1) ((Whole.new wr _ [_]).cell_at 0 rfl) (by omega) (Nat.le_trans hO.2.size hb1.size)
              have HE : Hid (W3.ownsRow w.heap.size 3 1 v' (k + 1) (nums .i64 (rs.take (k + 1))) ∧ Below w.heap.size w W3) := Lib.hid ⟨by
                rw [List.take_add_one, HNX.out]
                simpa [nums] using hown, hO.2.trans ((hb1.mono hO.2.size).trans hBl)⟩
              have HK1 : Hid (k + 1 ≤ rs.length) := Lib.hid (List.getElem?_eq_some_iff.1 HNX.out).1
              clear hq hO hb1 hown hgr hBl
              go_wp2_with (at_builtin; refine list_append rfl (.tmp 55) (.tmp 57) 38 rfl hrun ?_)
              go_roundw
              case rel => exact ⟨k + 1, hlt, by go_num, HK1.out, HE⟩
              case measure => simp [intOf]; omega
    · obtain rfl : k = ns.length := by omega
      have HE : Hid (rs.length = ns.length) := Lib.hid (by have := HRN.out; omega)
      have hB := HI.out.2
      have hO := HI.out.1
      have HO : Hid (wr.ownsRow w.heap.size 3 1 u3 rs.length (nums .i64 rs)) := Lib.hid (by rw [← HE.out, List.take_length] at hO; exact hO)
      clear hO HI
      go_wp2_with fail
      go_ret
      exact ⟨_, rfl, by rw [HRS.out]; exact HO.out, hB⟩
end Go.Proofs.YtbdbgoploednbaaDoor
