/- The walk of BeyondMask: a section's bit is there just if a step goes through it; masks of parts are put together. -/
import Derived.Test.YthjnhigcheakaaaDoorQBeK
import Derived.Test.YthjnhigcheakaaaDoorQBeT
namespace Go.Proofs.YthjnhigcheakaaaDoor
open Go.RowKit Go.Shelf
set_option linter.unusedVariables false
set_option linter.unusedSimpArgs false

theorem any_take {l : List (Int × Int × Int)} {s : Int} {j : Nat} {x : Int × Int × Int} (h : l[j]? = some x) : (l.take (j + 1)).any (fun x => x.1 == s) = ((l.take j).any (fun x => x.1 == s) || (x.1 == s)) := by
  rw [List.take_add_one, h, Option.toList_some, List.any_append]
  simp
/-- append(append([]T{}, a..), b..). -/
theorem two_rows {a b : List (Int × Int × Int)} {A B : Option Addr} (ca cb : Nat) (W : World) (hA : Row W W.heap.size A (a.flatMap stpCells)) (hB : Row W W.heap.size B (b.flatMap stpCells)) (la : a.length ≤ 1000) (lb : b.length ≤ 1000) :
    ∃ v1 w1, (Builtin.append_ #[34, 34] 34 #[.slice (some ⟨W.heap.size, 0, none⟩) 0 0, .slice A a.length ca]).run Tryd.prog (W.alloc (.cells #[] 31)) = .ok v1 w1 ∧
      ∃ A2 c2 w2, (Builtin.append_ #[34, 34] 34 #[v1, .slice B b.length cb]).run Tryd.prog w1 = .ok (.slice A2 (a ++ b).length c2) w2 ∧ Row w2 w2.heap.size A2 ((a ++ b).flatMap stpCells) ∧ Below W.heap.size W w2 := by
  have hown : (W.alloc (.cells #[] 31)).ownsRow W.heap.size 31 3 (.slice (some ⟨W.heap.size, 0, none⟩) 0 0) 0 [] := owns_empty _ _ _ _ (Nat.le_refl _) (World.alloc_heap_new W _)
  have hb1 := below1 W (.cells #[] 31)
  obtain ⟨v1, w1, hrun, hown1, hB1, hne⟩ : ∃ v1 w1, (Builtin.append_ #[34, 34] 34 #[.slice (some ⟨W.heap.size, 0, none⟩) 0 0, .slice A a.length ca]).run Tryd.prog (W.alloc (.cells #[] 31)) = .ok v1 w1 ∧ w1.ownsRow W.heap.size 31 3 v1 a.length (a.flatMap stpCells) ∧ Below W.heap.size W w1 ∧ v1 ≠ .slice none 0 0 := by
    cases A with
    | none =>
      obtain rfl := flat_none (f := stpCells) (size := 3) (fun _ => rfl) (by omega) hA
      obtain ⟨i, i1, i2, i3, i4⟩ := info_parts infoStep
      rcases hown.2 with ⟨h, _⟩ | ⟨g, cap, cur, e, h3, h4, h5, h6, h7, h8⟩
      · cases h
      · exact ⟨_, _, append_none _ _ _ _ i Tryd.underlying34 i1 W.heap.size 0 0 ca (Nat.le_refl _), by simpa using hown, hb1, by simp⟩
    | some x =>
      obtain ⟨v', w1, hap⟩ := appendStep W.heap.size 0 a.length _ [] a (some x) ca W.heap.size _ hown (by simp) (hA.below hb1) rfl (by omega) la (by simp)
      rcases hap with ⟨hrun, hown1, hB1, hne⟩ | h
      · exact ⟨v', w1, hrun, by simpa using hown1, hb1.trans hB1, hne⟩
      · cases h
  obtain ⟨v2, w2, hrun2, hown2, hgr⟩ := appendG (P := Tryd.prog) (f := stpCells) (size := 3) (fun _ => rfl) oneStep 34 31 (.agg #[.int .i64 0, .int .i64 0, .int .i64 0]) 24 Tryd.underlying34 infoStep rfl (by omega) (by omega) W.heap.size a.length v1 (a.flatMap stpCells) b B cb W.heap.size w1 hown1 (.inl hne) (hB.below hB1) la lb hB1.size
  obtain ⟨A2, c2, rfl, hrow⟩ := owns_read hown2
  refine ⟨v1, w1, hrun, A2, c2, w2, by rw [List.length_append]; exact hrun2, by rw [List.flatMap_append]; exact hrow, hB1.grown hgr hB1.size (fun k e => ?_)⟩
  exact (hown1.lt k e).1

set_option maxRecDepth 100000 in
set_option maxHeartbeats 8000000 in
theorem beyondMask_walk (a : List (Int × Int × Int)) (A : Option Addr) (ca : Nat) (b : List (Int × Int × Int)) (B : Option Addr) (cb : Nat) (s : Int) (w : World) (hT : Shapes w) (hA : Row w w.heap.size A (a.flatMap stpCells)) (hna : (a.length : Int) ≤ 9223372036854775807) (hB : Row w w.heap.size B (b.flatMap stpCells)) (hnb : (b.length : Int) ≤ 9223372036854775807) :
    Calls Tryd.prog 6 #[.slice A a.length ca, .slice B b.length cb, .int .i64 s] w fun e w' => e = .returned (.bool true) ∧ Below w.heap.size w w' := by
  have KW := Lib.hid (fun W (hW : Below w.heap.size w W) => wakes10_P (P := fun W => Below w.heap.size w W) (w := W) (Closed.below w) (fun W hW => Shapes.closed _ _ hT hW) hW)
  have HRA := Lib.hid (fun W (hW : Below w.heap.size w W) => hA.on hW)
  have HRB := Lib.hid (fun W (hW : Below w.heap.size w W) => hB.on hW)
  have hB := Below.refl w.heap.size w
  clear hT hA
  by_cases h1 : a.length ≤ 20
  rotate_left
  · have h1' : ¬ (a.length : Int) ≤ 20 := by omega
    go_enter Tryd.func6, Tryd.ntmps6
    go_wp2_with fail
    refine (KW.out _ hB).mono ?_
    clear hB
    rintro e w9 ⟨rfl, hB⟩
    go_wp2_with fail
    go_ret
    exact ⟨rfl, hB⟩
  by_cases h2 : b.length ≤ 20
  rotate_left
  · have h2' : ¬ (b.length : Int) ≤ 20 := by omega
    have h1' : (a.length : Int) ≤ 20 := by omega
    go_enter Tryd.func6, Tryd.ntmps6
    go_wp2_with fail
    refine (KW.out _ hB).mono ?_
    clear hB
    rintro e w9 ⟨rfl, hB⟩
    go_wp2_with fail
    go_ret
    exact ⟨rfl, hB⟩
  have h1' : (a.length : Int) ≤ 20 := by omega
  have h2' : (b.length : Int) ≤ 20 := by omega
  go_enter Tryd.func6, Tryd.ntmps6
  go_wp2_with fail
  go_loopw [7, 8] (fun v i wr => ∃ j : Nat, j ≤ a.length ∧ i = .int .i64 j ∧ v = .bool ((a.take j).any (fun x => x.1 == s)) ∧ wr = w) (fun _ i _ => a.length - (intOf i).toNat)
  case atStart => exact ⟨0, by omega, rfl, rfl, rfl⟩
  case round =>
    obtain ⟨j, hj, rfl, rfl, rfl⟩ := hrel
    by_cases hlt : j < a.length
    · have hlt' : (j : Int) < a.length := by omega
      obtain ⟨⟨x1, x2, x3⟩, hx⟩ : ∃ x, a[j]? = some x := ⟨_, List.getElem?_eq_getElem hlt⟩
      have HE := Lib.hid (any_take (s := s) hx)
      obtain ⟨b1, off, rfl, _, hc0, hc⟩ := (HRA.out _ hB).nth (n := 3) (fun _ => rfl) (by omega) hx
      have c0 := hc0 j _ _ hx rfl
      have hwi : IntKind.i64.wrap ((j : Int) + 1) = (j : Int) + 1 := IntWalk.i64_in _ (by omega)
      clear hx hc0 hc
      obtain ⟨bb, HBB⟩ : ∃ bb, Hid ((a.take j).any (fun x => x.1 == s) = bb) := ⟨_, Lib.hid rfl⟩
      rw [HBB.out] at HE ⊢
      cases bb
      · go_wp2_with fail
        go_roundw
        case rel => exact ⟨j + 1, hlt, by go_num, by rw [HE.out]; rfl, by trivial⟩
        case measure => simp [intOf]; omega
      · go_wp2_with fail
        go_roundw
        case rel => exact ⟨j + 1, hlt, by go_num, by rw [HE.out]; rfl, by trivial⟩
        case measure => simp [intOf]; omega
    · obtain rfl : j = a.length := by omega
      have hB : Below wr.heap.size wr wr := Below.refl _ _
      obtain ⟨ai, HAI⟩ : ∃ ai, Hid (a.any (fun x => x.1 == s) = ai) := ⟨_, Lib.hid rfl⟩
      rw [List.take_length, HAI.out]
      obtain ⟨m, HM⟩ : ∃ m, Hid (maskN a = m) := ⟨_, Lib.hid rfl⟩
      have KM := Lib.hid (maskB_any ca (HRA.out _ hB) hna HM.out)
      go_wp2_with fail
      refine KM.out.mono ?_
      clear KM
      rintro e w1 ⟨rfl, hB1⟩
      have hB := hB.trans hB1
      clear hB1
      go_upto_region 9 with (fail)
      have HML : Hid (m < 2 ^ 24) := Lib.hid (by rw [← HM.out]; exact maskN_lt a)
      have hz : ((m : Int) / 16777216 != 0) = false := by
        have := HML.out
        rw [bne_eq_false_iff_eq]
        omega
      by_cases s0 : 0 ≤ s
      · by_cases s1 : s < 24
        · have hbit : (bits BinOp.and IntKind.u32 ((m : Int) / 2 ^ s.toNat) 1 == 1) = ai := by
            have h := and_one (m := m) (k := s.toNat) HML.out
            rw [show ((m / 2 ^ s.toNat : Nat) : Int) = (m : Int) / 2 ^ s.toNat by rw [Int.natCast_ediv, Int.natCast_pow]; rfl] at h
            rw [h, ← HAI.out, ← HM.out, maskN_test (l := a) (k := s.toNat) (by omega), Int.toNat_of_nonneg s0]
            cases a.any (fun x => x.1 == s) <;> rfl
          try go_upto_region 11 with (fail)
          try clear hbit
          try clear hz
          obtain ⟨v1, wA, hrun1, A2, c2, wB, hrun2, hrow2, hB2⟩ := two_rows ca cb w1 (HRA.out _ hB) (HRB.out _ hB) (by omega) (by omega)
          have HAP := Lib.hid (maskN_append a b)
          have HLB : Hid ((a ++ b).length ≤ 40) := Lib.hid (by rw [List.length_append]; omega)
          obtain ⟨ab, HAB⟩ : ∃ ab, Hid (a ++ b = ab) := ⟨_, Lib.hid rfl⟩
          rw [HAB.out] at hrun2 hrow2 HAP HLB
          obtain ⟨m2, HM2⟩ : ∃ m2, Hid (maskN b = m2) := ⟨_, Lib.hid rfl⟩
          obtain ⟨m3, HM3⟩ : ∃ m3, Hid (maskN ab = m3) := ⟨_, Lib.hid rfl⟩
          have KM2 := Lib.hid (maskB_any c2 hrow2 (by have := HLB.out; omega) HM3.out)
          have HOR : Hid (bits BinOp.or IntKind.u32 (m : Int) (m2 : Int) = (m3 : Int)) := Lib.hid (by rw [← HM3.out, HAP.out, ← HM.out, ← HM2.out]; exact or_u32 (maskN_lt _) (maskN_lt _))
          have hB3 := hB.trans (hB2.mono hB.size)
          clear hB2 hrow2 hB
          go_wp2_with (at_builtin; first | refine list_append rfl (.tmp 58) (.tmp 59) 34 rfl hrun1 ?_ | refine list_append rfl (.tmp 60) (.tmp 61) 34 rfl hrun2 ?_)
          refine KM2.out.mono ?_
          clear KM2 hrun1 hrun2
          rintro e wC ⟨rfl, hB4⟩
          have hB := hB3.trans (hB4.mono hB3.size)
          clear hB3 hB4
          have KM3 := Lib.hid (maskB_any cb (HRB.out _ hB) hnb HM2.out)
          go_wp2_with fail
          refine KM3.out.mono ?_
          clear KM3
          rintro e wD ⟨rfl, hB5⟩
          have hB := hB.trans (hB5.mono hB.size)
          clear hB5
          have hor := HOR.out
          go_wp2_with fail
          refine (KW.out _ hB).mono ?_
          clear hB hor
          rintro e wE ⟨rfl, hB⟩
          go_wp2_with fail
          go_ret
          exact ⟨rfl, hB⟩
        · have d1 : decide (s < 24) = false := decide_eq_false s1
          try go_upto_region 11 with (fail)
          try clear hbit
          try clear hz
          obtain ⟨v1, wA, hrun1, A2, c2, wB, hrun2, hrow2, hB2⟩ := two_rows ca cb w1 (HRA.out _ hB) (HRB.out _ hB) (by omega) (by omega)
          have HAP := Lib.hid (maskN_append a b)
          have HLB : Hid ((a ++ b).length ≤ 40) := Lib.hid (by rw [List.length_append]; omega)
          obtain ⟨ab, HAB⟩ : ∃ ab, Hid (a ++ b = ab) := ⟨_, Lib.hid rfl⟩
          rw [HAB.out] at hrun2 hrow2 HAP HLB
          obtain ⟨m2, HM2⟩ : ∃ m2, Hid (maskN b = m2) := ⟨_, Lib.hid rfl⟩
          obtain ⟨m3, HM3⟩ : ∃ m3, Hid (maskN ab = m3) := ⟨_, Lib.hid rfl⟩
          have KM2 := Lib.hid (maskB_any c2 hrow2 (by have := HLB.out; omega) HM3.out)
          have HOR : Hid (bits BinOp.or IntKind.u32 (m : Int) (m2 : Int) = (m3 : Int)) := Lib.hid (by rw [← HM3.out, HAP.out, ← HM.out, ← HM2.out]; exact or_u32 (maskN_lt _) (maskN_lt _))
          have hB3 := hB.trans (hB2.mono hB.size)
          clear hB2 hrow2 hB
          go_wp2_with (at_builtin; first | refine list_append rfl (.tmp 58) (.tmp 59) 34 rfl hrun1 ?_ | refine list_append rfl (.tmp 60) (.tmp 61) 34 rfl hrun2 ?_)
          refine KM2.out.mono ?_
          clear KM2 hrun1 hrun2
          rintro e wC ⟨rfl, hB4⟩
          have hB := hB3.trans (hB4.mono hB3.size)
          clear hB3 hB4
          have KM3 := Lib.hid (maskB_any cb (HRB.out _ hB) hnb HM2.out)
          go_wp2_with fail
          refine KM3.out.mono ?_
          clear KM3
          rintro e wD ⟨rfl, hB5⟩
          have hB := hB.trans (hB5.mono hB.size)
          clear hB5
          have hor := HOR.out
          go_wp2_with fail
          refine (KW.out _ hB).mono ?_
          clear hB hor
          rintro e wE ⟨rfl, hB⟩
          go_wp2_with fail
          go_ret
          exact ⟨rfl, hB⟩
      · have d0 : decide (0 ≤ s) = false := decide_eq_false s0
        try go_upto_region 11 with (fail)
        try clear hz
        obtain ⟨v1, wA, hrun1, A2, c2, wB, hrun2, hrow2, hB2⟩ := two_rows ca cb w1 (HRA.out _ hB) (HRB.out _ hB) (by omega) (by omega)
        have HAP := Lib.hid (maskN_append a b)
        have HLB : Hid ((a ++ b).length ≤ 40) := Lib.hid (by rw [List.length_append]; omega)
        obtain ⟨ab, HAB⟩ : ∃ ab, Hid (a ++ b = ab) := ⟨_, Lib.hid rfl⟩
        rw [HAB.out] at hrun2 hrow2 HAP HLB
        obtain ⟨m2, HM2⟩ : ∃ m2, Hid (maskN b = m2) := ⟨_, Lib.hid rfl⟩
        obtain ⟨m3, HM3⟩ : ∃ m3, Hid (maskN ab = m3) := ⟨_, Lib.hid rfl⟩
        have KM2 := Lib.hid (maskB_any c2 hrow2 (by have := HLB.out; omega) HM3.out)
        have HOR : Hid (bits BinOp.or IntKind.u32 (m : Int) (m2 : Int) = (m3 : Int)) := Lib.hid (by rw [← HM3.out, HAP.out, ← HM.out, ← HM2.out]; exact or_u32 (maskN_lt _) (maskN_lt _))
        have hB3 := hB.trans (hB2.mono hB.size)
        clear hB2 hrow2 hB
        go_wp2_with (at_builtin; first | refine list_append rfl (.tmp 58) (.tmp 59) 34 rfl hrun1 ?_ | refine list_append rfl (.tmp 60) (.tmp 61) 34 rfl hrun2 ?_)
        refine KM2.out.mono ?_
        clear KM2 hrun1 hrun2
        rintro e wC ⟨rfl, hB4⟩
        have hB := hB3.trans (hB4.mono hB3.size)
        clear hB3 hB4
        have KM3 := Lib.hid (maskB_any cb (HRB.out _ hB) hnb HM2.out)
        go_wp2_with fail
        refine KM3.out.mono ?_
        clear KM3
        rintro e wD ⟨rfl, hB5⟩
        have hB := hB.trans (hB5.mono hB.size)
        clear hB5
        have hor := HOR.out
        go_wp2_with fail
        refine (KW.out _ hB).mono ?_
        clear hB hor
        rintro e wE ⟨rfl, hB⟩
        go_wp2_with fail
        go_ret
        exact ⟨rfl, hB⟩
end Go.Proofs.YthjnhigcheakaaaDoor
