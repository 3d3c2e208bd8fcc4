/- Numbers that are put are taken where they were put; what was there stays. -/
import Derived.Test.YtaaaehaiimmnhaaBitsY
import Derived.Test.YtaaaehaiimmnhaaGrow
import Derived.Test.YtaaaehaiimmnhaaPairs
import Derived.Deep.RegionHeld3
import Derived.BigQuiet
namespace Go.Proofs.Ytaaaehaiimmnhaa
open Go.RowKit Go.Shelf
set_option linter.unusedVariables false

set_option maxRecDepth 100000 in
set_option maxHeartbeats 8000000 in
theorem back_walk (A L : Option Addr) (cx cl : Nat) (zs : List Int) (N : Int) (ps : List (Int × Int)) (w : World) (hr : Row w w.heap.size A (u8s zs)) (hb : ∀ z ∈ zs, IsByte z)
    (hN0 : -9223372036854775808 ≤ N) (hN1 : N ≤ 9223372036854775807) (hrl : PRow w w.heap.size L ps) (hfit : Fit ps) :
    Calls Try.prog 4 #[.agg #[.slice A zs.length cx, .int .i64 N], .slice L ps.length cl] w fun e w' => e = .returned (.bool true) ∧ Below w.heap.size w w' := by
  by_cases h1 : 1000 < zs.length
  · have c1 : (1000 : Int) < (zs.length : Int) := by omega
    go_enter Try.func4, Try.ntmps4
    go_wp2_with fail
    refine (wakes_any _).mono ?_
    rintro e w' ⟨rfl, hB⟩
    go_wp2_with fail
    go_ret
    exact ⟨rfl, on1 hB⟩
  by_cases h2 : 100 < ps.length
  · have c1 : ¬ (1000 : Int) < (zs.length : Int) := by omega
    have c2 : (100 : Int) < (ps.length : Int) := by omega
    go_enter Try.func4, Try.ntmps4
    go_wp2_with fail
    refine (wakes_any _).mono ?_
    rintro e w' ⟨rfl, hB⟩
    go_wp2_with fail
    go_ret
    exact ⟨rfl, on1 hB⟩
  have G : Given w A zs N := ⟨hr, hb, by omega, hN0, hN1⟩
  have c1 : ¬ (1000 : Int) < (zs.length : Int) := by omega
  have c2 : ¬ (100 : Int) < (ps.length : Int) := by omega
  have X0 := Var.new (w := w) ⟨hr, hb⟩ cx N
  go_enter Try.func4, Try.ntmps4
  go_wp2_with fail
  refine (rightR_given (G.on (below1 _ _)) cx).mono ?_
  rintro e w1 ⟨rfl, hB⟩
  have X1 := X0.on hB
  have S1 := on1 hB
  clear hB X0
  cases hR : rightB zs N
  · go_wp2_with fail
    refine (wakes_any _).mono ?_
    rintro e w' ⟨rfl, hB⟩
    go_wp2_with fail
    go_ret
    exact ⟨rfl, S1.trans (hB.mono S1.size)⟩
  obtain ⟨l, hA, hl16, hlz⟩ := G.bits hR
  have x0 := X1.1.cell_at 0 rfl
  have x1 := X1.1.cell_at 1 rfl
  have hx1 : w.heap.size < w1.heap.size := X1.1.lt
  have Hrl := Lib.hid (hrl.on S1)
  have HG := Lib.hid G
  have hLl : l.length ≤ 8000 := by unfold bytesFor at hlz; omega
  have HA := Lib.hid hA
  have HX := Lib.hid X1
  have HFit := Lib.hid hfit
  clear hA hrl G hr hb hN0 hN1 hR hl16 hlz X1 hfit
  go_wp2_with fail
  go_loopw [6, 7] (fun atv i wr => ∃ (j : Nat) (A' : Option Addr) (c : Nat) (yy : List Int) (yN : Int), j ≤ ps.length ∧ i = .int .i64 j ∧ Are yy yN (l ++ all_put (ps.take j)) ∧ Whole wr w1.heap.size 24 [.slice A' yy.length c, .int .i64 yN] ∧ Hands wr A' yy ∧
      wr.ownsRow (w1.heap.size + 1) 3 1 atv j (i64s (begins l ps j)) ∧ Apart A' yy atv ∧ Below w1.heap.size w1 wr)
    (fun _ i _ => ps.length - (intOf i).toNat)
  case atStart =>
    refine ⟨0, A, cx, zs, N, Nat.zero_le _, rfl, by simpa [all_put] using HA.out, Whole.new w1 _ [_, _], ?_, ⟨rfl, .inl ⟨rfl, rfl⟩⟩, fun _ q g _ hg => by simp [Value.ownBlock] at hg, below1 _ _⟩
    exact (Hands.on ⟨(HG.out).row, HG.out.bytes⟩ S1).on (below1 _ _)
  case round =>
    obtain ⟨j, A', c, yy, yN, hj, rfl, hAy, hy, hHy, hown, hap, hS⟩ := hrel
    clear x0 x1
    have HAy := Lib.hid hAy
    have HHy := Lib.hid hHy
    have HOwn := Lib.hid hown
    have HAp := Lib.hid hap
    have y0 := hy.cell_at 0 rfl
    have y1 := hy.cell_at 1 rfl
    have hyl : w1.heap.size < wr.heap.size := hy.lt
    clear hAy hHy hown hap
    by_cases hlt : j < ps.length
    · have hlti : (j : Int) < ps.length := by omega
      obtain ⟨bA, oA, rfl, hbA, hcA⟩ := Hrl.out (by omega)
      obtain ⟨⟨n, k⟩, hpj⟩ : ∃ p, ps[j]? = some p := ⟨ps[j], List.getElem?_eq_getElem hlt⟩
      have hcj := hcA j _ hpj
      have p0 := (hS.cell (p := ⟨bA, oA + j * 2, none⟩) hbA).trans hcj.1
      have p1 := (hS.cell (p := ⟨bA, oA + j * 2 + 1, none⟩) hbA).trans hcj.2
      have hft := HFit.out _ (List.mem_of_getElem? hpj)
      simp only at p0 p1 hft
      have HCA := Lib.hid hcA
      have HLT := Lib.hid hlt
      have HPJ := Lib.hid hpj
      clear hcA hlt hcj hpj
      go_wp2_with fail
      go_quiet (fail)
      have hsm : Hid ((l ++ all_put (ps.take j)).length ≤ 12000) := by
        have h := all_put_length (ps.take j)
        rw [List.length_take] at h
        show (l ++ all_put (ps.take j)).length ≤ 12000
        rw [List.length_append]
        have := HLT.out
        omega
      have hfits : (fitsB n k = false ∧ (k < 0 ∨ (0 ≤ k ∧ 32 < k) ∨ (0 ≤ k ∧ k ≤ 32 ∧ n < 0) ∨ (0 ≤ k ∧ k ≤ 32 ∧ 0 ≤ n ∧ ¬ n < 2 ^ k.toNat))) ∨ (fitsB n k = true ∧ 0 ≤ k ∧ k ≤ 32 ∧ 0 ≤ n ∧ n < 2 ^ k.toNat) := by
        unfold fitsB wideB
        by_cases a1 : k < 0
        · left; exact ⟨by simp; omega, .inl a1⟩
        by_cases a2 : 32 < k
        · left; exact ⟨by simp; omega, .inr (.inl ⟨by omega, a2⟩)⟩
        by_cases a3 : n < 0
        · left; exact ⟨by simp; omega, .inr (.inr (.inl ⟨by omega, by omega, a3⟩))⟩
        by_cases a4 : n < 2 ^ k.toNat
        · right; exact ⟨by simp [a4]; omega, by omega, by omega, by omega, a4⟩
        · left; exact ⟨by simp [a4], .inr (.inr (.inr ⟨by omega, by omega, by omega, a4⟩))⟩
      rcases hfits with ⟨hF, hwhy⟩ | ⟨hF, a1, a2, a3, a4⟩
      · have HF := Lib.hid hF
        clear hF
        have hput := fun (W : World) (h : Hands W A' yy) => put_none A' c yy yN n k W (Are.given h HAy.out (by have := hsm.out; omega)) HAy.out.right hft.1.2 HF.out
        have HPut := Lib.hid hput
        clear hput
        have hpw : 0 ≤ k → k ≤ 32 → wrap64 (2 ^ k.toNat) = 2 ^ k.toNat := fun h h' => pow_wrap _ (by omega)
        have HPW := Lib.hid hpw
        clear hpw
        rcases hwhy with a1 | ⟨a1, a2⟩ | ⟨a1, a2, a3⟩ | ⟨a1, a2, a3, a4⟩
        rotate_left 3
        · have hpw := HPW.out a1 a2
          have hmin : (if 32 < k then (32 : Int) else k) = k := if_neg (by omega)
          have hmax : (if k < 0 then (0 : Int) else k) = k := if_neg (by omega)
          go_wp2_with fail
          refine (HPut.out _ (by exact HHy.out.on (below_drawn (Below.refl _ wr) _))).mono ?_
          rintro e w3 ⟨rfl, hB3'⟩
          have hB3 : Below wr.heap.size wr w3 := (below_drawn (Below.refl _ wr) _).trans hB3'
          have hy3 := hy.below hB3 hy.lt
          have hS3 := hS.trans (hB3.mono hS.size)
          have hs3 := hS3.size
          have hown3 := owns_keep HOwn.out hB3
          clear y0 y1 hB3'
          have y0 := fun o => (hy3.alloc o).cell_at 0 rfl
          have y1 := fun o => (hy3.alloc o).cell_at 1 rfl
          obtain ⟨v', w', hrun, hown', hg, hv⟩ := append_one (w1.heap.size + 1) j u6 (i64s (begins l ps j)) yN ((w3.alloc (.cells #[.slice none 0 0, .int .i64 0] 24)).alloc (.cells #[.int .i64 yN] 3)) (w3.heap.size + 1) (owns_keep hown3 (below2 _ _ _)) ((Whole.new_at (w3.alloc _) _ [_] (w3.heap.size + 1) (by simp)).cell_at 0 rfl) (by omega) (by simp; omega)
          have hne : some w1.heap.size ≠ u6.ownBlock := own_ne hown3 (.inl (Nat.lt_succ_self _))
          have HNE := Lib.hid hne
          have HOWN := Lib.hid hown'
          have HV := Lib.hid hv
          clear hne hown' hv
          go_wp2_with (at_builtin; refine list_append rfl (.tmp 104) (.tmp 107) 40 rfl hrun ?_)
          go_roundw
          case rel =>
            refine ⟨j + 1, A', c, yy, yN, by have := HLT.out; omega, by go_num, ?_, ((hy3.alloc _).alloc _).kept hg HNE.out, ((HHy.out.on hB3).on (below2 _ _ _)).grown hg HAp.out, ?_, Apart.next ((HHy.out.on hB3).on (below2 _ _ _)) HAp.out HV.out, ?_⟩
            · rw [all_put_take ps j _ HPJ.out]
              have hp : puts (n, k) = [] := by unfold puts; rw [if_neg (by rw [HF.out]; simp)]
              rw [hp, List.append_nil]
              exact HAy.out
            · rw [begins_succ, ← HAy.out.1]
              exact HOWN.out
            · exact ((hS3.alloc hS3.size _).alloc (by simp; omega) _).grown hg (by simp; omega) (fun g hgg => by have := hown3.lt g hgg; omega)
          case measure => have := HLT.out; simp [intOf]; omega
        all_goals
          go_wp2_with fail
          refine (HPut.out _ (by exact HHy.out.on (below_drawn (Below.refl _ wr) _))).mono ?_
          rintro e w3 ⟨rfl, hB3'⟩
          have hB3 : Below wr.heap.size wr w3 := (below_drawn (Below.refl _ wr) _).trans hB3'
          have hy3 := hy.below hB3 hy.lt
          have hS3 := hS.trans (hB3.mono hS.size)
          have hs3 := hS3.size
          have hown3 := owns_keep HOwn.out hB3
          clear y0 y1 hB3'
          have y0 := fun o => (hy3.alloc o).cell_at 0 rfl
          have y1 := fun o => (hy3.alloc o).cell_at 1 rfl
          obtain ⟨v', w', hrun, hown', hg, hv⟩ := append_one (w1.heap.size + 1) j u6 (i64s (begins l ps j)) yN ((w3.alloc (.cells #[.slice none 0 0, .int .i64 0] 24)).alloc (.cells #[.int .i64 yN] 3)) (w3.heap.size + 1) (owns_keep hown3 (below2 _ _ _)) ((Whole.new_at (w3.alloc _) _ [_] (w3.heap.size + 1) (by simp)).cell_at 0 rfl) (by omega) (by simp; omega)
          have hne : some w1.heap.size ≠ u6.ownBlock := own_ne hown3 (.inl (Nat.lt_succ_self _))
          have HNE := Lib.hid hne
          have HOWN := Lib.hid hown'
          have HV := Lib.hid hv
          clear hne hown' hv
          go_wp2_with (at_builtin; refine list_append rfl (.tmp 104) (.tmp 107) 40 rfl hrun ?_)
          go_roundw
          case rel =>
            refine ⟨j + 1, A', c, yy, yN, by have := HLT.out; omega, by go_num, ?_, ((hy3.alloc _).alloc _).kept hg HNE.out, ((HHy.out.on hB3).on (below2 _ _ _)).grown hg HAp.out, ?_, Apart.next ((HHy.out.on hB3).on (below2 _ _ _)) HAp.out HV.out, ?_⟩
            · rw [all_put_take ps j _ HPJ.out]
              have hp : puts (n, k) = [] := by unfold puts; rw [if_neg (by rw [HF.out]; simp)]
              rw [hp, List.append_nil]
              exact HAy.out
            · rw [begins_succ, ← HAy.out.1]
              exact HOWN.out
            · exact ((hS3.alloc hS3.size _).alloc (by simp; omega) _).grown hg (by simp; omega) (fun g hgg => by have := hown3.lt g hgg; omega)
          case measure => have := HLT.out; simp [intOf]; omega
      · have hpw : wrap64 (2 ^ k.toNat) = 2 ^ k.toNat := pow_wrap _ (by omega)
        have hput := fun (W : World) (h : Hands W A' yy) => put_new A' c yy yN n k (l ++ all_put (ps.take j)) W (Are.given h HAy.out (by have := hsm.out; omega)) HAy.out hft.1.2 hF
        have HPut := Lib.hid hput
        clear hput hF
        go_wp2_with fail
        refine (HPut.out _ (by exact HHy.out.on (below_drawn (Below.refl _ wr) _))).mono ?_
        rintro e w3 ⟨g, c3, y3, M3, rfl, hg1, hg2, H3, A3, hB3'⟩
        have hg1 : wr.heap.size ≤ g := hg1
        have hB3 : Below wr.heap.size wr w3 := (below_drawn (Below.refl _ wr) _).trans hB3'
        have hy3 := hy.below hB3 hy.lt
        have hS3 := hS.trans (hB3.mono hS.size)
        have hs3 := hS3.size
        have hb3 := hB3.size
        have hown3 := owns_keep HOwn.out hB3
        clear y0 y1 hB3'
        have y0 := fun o => (hy3.alloc o).cell_at 0 rfl
        have y1 := fun o => (hy3.alloc o).cell_at 1 rfl
        obtain ⟨v', w', hrun, hown', hg, hv⟩ := append_one (w1.heap.size + 1) j u6 (i64s (begins l ps j)) yN ((w3.alloc (.cells #[.slice (some ⟨g, 0, none⟩) y3.length c3, .int .i64 M3] 24)).alloc (.cells #[.int .i64 yN] 3)) (w3.heap.size + 1) (owns_keep hown3 (below2 _ _ _)) ((Whole.new_at (w3.alloc _) _ [_] (w3.heap.size + 1) (by simp)).cell_at 0 rfl) (by omega) (by simp; omega)
        have hne : some w1.heap.size ≠ u6.ownBlock := own_ne hown3 (.inl (Nat.lt_succ_self _))
        have hne2 : some w3.heap.size ≠ u6.ownBlock := own_ne hown3 (.inr (Nat.le_refl _))
        have hy4 := ((hy3.alloc _).alloc _).kept hg hne
        have ho4 := ((Whole.new w3 24 [.slice (some ⟨g, 0, none⟩) y3.length c3, .int .i64 M3]).alloc (.cells #[.int .i64 yN] 3)).kept hg hne2
        have hap3 : Apart (some ⟨g, 0, none⟩) y3 u6 := by
          rintro _ q gg ⟨rfl⟩ hgg
          have := HOwn.out.lt gg hgg
          show g ≠ gg
          omega
        have H4 := (H3.on (below2 _ (.cells #[.slice (some ⟨g, 0, none⟩) y3.length c3, .int .i64 M3] 24) (.cells #[.int .i64 yN] 3))).grown hg hap3
        have hS4 : Below w1.heap.size w1 w' := ((hS3.alloc hS3.size _).alloc (by simp; omega) _).grown hg (by simp; omega) (fun g hgg => by have := hown3.lt g hgg; omega)
        have hap4 := Apart.next (H3.on (below2 _ (.cells #[.slice (some ⟨g, 0, none⟩) y3.length c3, .int .i64 M3] 24) (.cells #[.int .i64 yN] 3))) hap3 hv
        have z0 := ho4.cell_at 0 rfl
        have z1 := ho4.cell_at 1 rfl
        have q0 := hy4.cell_at 0 rfl
        have q1 := fun u => (hy4.set 0 u).cell_at 1 rfl
        have f0 := hy4.frozen 0
        have f1 := fun u => (hy4.set 0 u).frozen 1
        have HOWN := Lib.hid hown'
        have HAP := Lib.hid hap4
        have HA3 := Lib.hid A3
        clear hne hne2 hown' hv hap3 hap4 A3
        go_wp2_with (at_builtin; refine list_append rfl (.tmp 104) (.tmp 107) 40 rfl hrun ?_)
        go_roundw
        case rel =>
          refine ⟨j + 1, some ⟨g, 0, none⟩, c3, y3, M3, by have := HLT.out; omega, by go_num, ?_, (hy4.set 0 _).set 1 _, ?_, ?_, HAP.out, below_put hS4 (Nat.le_refl _) _ _⟩
          · rw [all_put_take ps j _ HPJ.out, ← List.append_assoc]
            exact HA3.out
          · exact (H4.far (p := ⟨w1.heap.size, 0, none⟩) (by rintro q ⟨rfl⟩; show g ≠ w1.heap.size; omega) _).far (p := ⟨w1.heap.size, 1, none⟩) (by rintro q ⟨rfl⟩; show g ≠ w1.heap.size; omega) _
          · rw [begins_succ, ← HAy.out.1]
            exact owns_aside (owns_aside HOWN.out (p := ⟨w1.heap.size, 0, none⟩) (Nat.lt_succ_self _) _) (p := ⟨w1.heap.size, 1, none⟩) (Nat.lt_succ_self _) _
        case measure => have := HLT.out; simp [intOf]; omega
    · obtain rfl : j = ps.length := by omega
      obtain ⟨we, rfl⟩ : ∃ W, W = wr := ⟨wr, rfl⟩
      rw [List.take_length] at HAy
      have hX0 := HX.out.1.below hS hx1
      have hHx : Hands we A zs := Hands.on ⟨HG.out.row, HG.out.bytes⟩ (S1.trans (hS.mono (by omega)))
      have HHx := Lib.hid hHx
      have SW : Below w.heap.size w we := S1.trans (hS.mono (by omega))
      have hLL : (l ++ all_put ps).length ≤ 12000 := by
        have h := all_put_length ps
        rw [List.length_append]
        omega
      have HLL := Lib.hid hLL
      clear hLL hHx hj hlt
      go_wp2_with fail
      go_loopw [13] (fun i wx => ∃ j : Nat, j ≤ ps.length ∧ i = .int .i64 j ∧ Below we.heap.size we wx) (fun i _ => ps.length - (intOf i).toNat)
      case atStart => exact ⟨0, Nat.zero_le _, rfl, Below.refl _ _⟩
      case round =>
        obtain ⟨j, hj, rfl, hX⟩ := hrel
        clear y0 y1
        by_cases hlt : j < ps.length
        · have hlti : (j : Int) < ps.length := by omega
          obtain ⟨bA, oA, rfl, hbA, hcA⟩ := Hrl.out (by omega)
          obtain ⟨⟨n, k⟩, hpj⟩ : ∃ p, ps[j]? = some p := ⟨ps[j], List.getElem?_eq_getElem hlt⟩
          have hcj := hcA j _ hpj
          have p0 := (hX.cell (p := ⟨bA, oA + j * 2, none⟩) (Nat.lt_trans hbA (by omega))).trans ((hS.cell (p := ⟨bA, oA + j * 2, none⟩) hbA).trans hcj.1)
          have p1 := (hX.cell (p := ⟨bA, oA + j * 2 + 1, none⟩) (Nat.lt_trans hbA (by omega))).trans ((hS.cell (p := ⟨bA, oA + j * 2 + 1, none⟩) hbA).trans hcj.2)
          have hft := HFit.out _ (List.mem_of_getElem? hpj)
          simp only at p0 p1 hft
          obtain ⟨ga, ca, hu6⟩ : ∃ ga ca, u6 = .slice (some ⟨ga, 0, none⟩) ps.length ca := by
            rcases HOwn.out.2 with ⟨_, h0⟩ | ⟨g', cap', _, hv, _⟩
            · omega
            · exact ⟨g', cap', hv⟩
          subst hu6
          have hga := (owns_lt HOwn.out).2
          have hat : we.cell? ⟨ga, j, none⟩ = some (.int .i64 ((l ++ all_put (ps.take j)).length : Int)) := by
            rw [HOwn.out.cellAt j (by omega)]
            simp [i64s, begins, first, hlt]
          have HAT := Lib.hid hat
          have HCA := Lib.hid hcA
          have HLT := Lib.hid hlt
          have HPJ := Lib.hid hpj
          clear hcA hlt hcj hpj hat
          go_wp2_with fail
          go_quiet (fail)
          have hfits : (k < 0 ∨ (0 ≤ k ∧ 32 < k) ∨ (0 ≤ k ∧ k ≤ 32 ∧ n < 0) ∨ (0 ≤ k ∧ k ≤ 32 ∧ 0 ≤ n ∧ 2 ^ k.toNat ≤ n)) ∨ (fitsB n k = true ∧ 0 ≤ k ∧ k ≤ 32 ∧ 0 ≤ n ∧ n < 2 ^ k.toNat) := by
            unfold fitsB wideB
            by_cases a1 : k < 0
            · left; exact .inl a1
            by_cases a2 : 32 < k
            · left; exact .inr (.inl ⟨by omega, a2⟩)
            by_cases a3 : n < 0
            · left; exact .inr (.inr (.inl ⟨by omega, by omega, a3⟩))
            by_cases a4 : n < 2 ^ k.toNat
            · right; exact ⟨by simp [a4]; omega, by omega, by omega, by omega, a4⟩
            · left; exact .inr (.inr (.inr ⟨by omega, by omega, by omega, by omega⟩))
          have hpw : 0 ≤ k → k ≤ 32 → wrap64 (2 ^ k.toNat) = 2 ^ k.toNat := fun h h' => pow_wrap _ (by omega)
          have HPW := Lib.hid hpw
          clear hpw
          rcases hfits with (a1 | ⟨a1, a2⟩ | ⟨a1, a2, a3⟩ | ⟨a1, a2, a3, a4⟩) | ⟨hF, a1, a2, a3, a4⟩
          · go_wp2_with fail
            go_roundw
            case rel => exact ⟨j + 1, by have := HLT.out; omega, by go_num, below_drawn hX _⟩
            case measure => have := HLT.out; simp [intOf]; omega
          · go_wp2_with fail
            go_roundw
            case rel => exact ⟨j + 1, by have := HLT.out; omega, by go_num, below_drawn hX _⟩
            case measure => have := HLT.out; simp [intOf]; omega
          · go_wp2_with fail
            go_roundw
            case rel => exact ⟨j + 1, by have := HLT.out; omega, by go_num, below_drawn hX _⟩
            case measure => have := HLT.out; simp [intOf]; omega
          · have hpw := HPW.out a1 a2
            go_wp2_with fail
            go_roundw
            case rel => exact ⟨j + 1, by have := HLT.out; omega, by go_num, below_drawn hX _⟩
            case measure => have := HLT.out; simp [intOf]; omega
          · have hpw := HPW.out a1 a2
            have hT : ∀ W, Hands W A' yy → Calls Try.prog 16 #[.agg #[.slice A' yy.length c, .int .i64 yN], .int .i64 ((l ++ all_put (ps.take j)).length : Int), .int .i64 k] W fun e w' =>
                e = .returned (.tuple #[.int .i64 n, .int .i64 0]) ∧ Below W.heap.size W w' := fun W h => take_put A' c yy yN l ps j (n, k) W h HAy.out (by have := HLL.out; omega) HPJ.out hF
            have HT := Lib.hid hT
            have hall : ∀ W, Below we.heap.size we W → Below we.heap.size we W ∧ W.cell? ⟨w1.heap.size, 0, none⟩ = some (.slice A' yy.length c) ∧ W.cell? ⟨w1.heap.size, 1, none⟩ = some (.int .i64 yN) ∧ W.cell? ⟨ga, j, none⟩ = some (.int .i64 ((l ++ all_put (ps.take j)).length : Int)) :=
              fun W h => ⟨h, (hy.below h hy.lt).cell_at 0 rfl, (hy.below h hy.lt).cell_at 1 rfl, (h.cell (p := ⟨ga, j, none⟩) hga).trans HAT.out⟩
            have HALL := Lib.hid hall
            obtain ⟨an, han⟩ : ∃ x : Int, ((l ++ all_put (ps.take j)).length : Int) = x := ⟨_, rfl⟩
            rw [han] at HALL HT
            have a6 : ¬ k < 0 := Int.not_lt.mpr a1
            have a7 : ¬ 32 < k := Int.not_lt.mpr a2
            have a8 : ¬ n < 0 := Int.not_lt.mpr a3
            have a9 : ¬ 2 ^ k.toNat ≤ n := Int.not_le.mpr a4
            clear hT hall hF
            go_wp2_with fail
            go_region_held3 (fun W => Below we.heap.size we W ∧ W.cell? ⟨w1.heap.size, 0, none⟩ = some (.slice A' yy.length c) ∧ W.cell? ⟨w1.heap.size, 1, none⟩ = some (.int .i64 yN) ∧ W.cell? ⟨ga, j, none⟩ = some (.int .i64 an))
              (first
              | exact HALL.out _ (below_drawn hX _).drew
              | exact HALL.out _ ((‹Below we.heap.size we _ ∧ _›).1.trans (hB.mono (‹Below we.heap.size we _ ∧ _›).1.size)))
              (first
              | (go_at_call 16; (with_reducible refine (HT.out _ ?_).mono ?_); (next => exact HHy.out.on (‹Below we.heap.size we _ ∧ _›).1); rintro e w' ⟨rfl, hB⟩; have hZ := (‹Below we.heap.size we _ ∧ _›).1.trans (hB.mono (‹Below we.heap.size we _ ∧ _›).1.size)))
            all_goals
              go_wp2_with fail
              go_roundw
              case rel => exact ⟨j + 1, by have := HLT.out; omega, by go_num, hZ⟩
              case measure => have := HLT.out; simp [intOf]; omega
        · obtain rfl : j = ps.length := by omega
          clear hlt hj
          obtain ⟨wf, rfl⟩ : ∃ W, W = wr := ⟨wr, rfl⟩
          have hNl := Lib.hid HA.out.1
          have hX1 := hX0.below hX (by omega)
          have x0 := hX1.cell_at 0 rfl
          have x1 := hX1.cell_at 1 rfl
          go_wp2_with fail
          go_loopw [18] (fun i wz => ∃ j : Nat, j ≤ l.length ∧ i = .int .i64 j ∧ Below we.heap.size we wz) (fun i _ => l.length - (intOf i).toNat)
          case atStart => exact ⟨0, Nat.zero_le _, rfl, hX⟩
          case round =>
            obtain ⟨j, hj, rfl, hZ⟩ := hrel
            clear x0 x1 hX1
            have hX2 := hX0.below hZ (by omega)
            have x0 := hX2.cell_at 0 rfl
            have x1 := hX2.cell_at 1 rfl
            by_cases hlt : j < l.length
            · have hjN : (j : Int) < N := by rw [hNl.out]; omega
              obtain ⟨b, hbit⟩ : ∃ b, l[j]?.getD false = b := ⟨_, rfl⟩
              have hT1 := fun (W : World) (h : Hands W A zs) => take_bit A cx zs N l j W h HA.out (by omega) hlt
              have hT2 := fun (W : World) (h : Hands W A' yy) => take_bit A' c yy yN (l ++ all_put ps) j W h HAy.out (by have := HLL.out; omega) (by rw [List.length_append]; omega)
              simp only [bit_stays l ps j hlt] at hT2
              rw [hbit] at hT1 hT2
              have HT1 := Lib.hid hT1
              have HT2' := Lib.hid hT2
              have HLT := Lib.hid hlt
              clear hT1 hT2 hbit hlt
              cases b
              all_goals
                go_wp2_with fail
                refine (HT1.out _ (by exact HHx.out.on hZ)).mono ?_
                rintro e w3 ⟨rfl, hB⟩
                have hZ3 := hZ.trans (hB.mono hZ.size)
                have hy3 := hy.below hZ3 hy.lt
                have y0 := hy3.cell_at 0 rfl
                have y1 := hy3.cell_at 1 rfl
                clear hB x0 x1
                go_wp2_with fail
                refine (HT2'.out _ (by exact HHy.out.on hZ3)).mono ?_
                rintro e w4 ⟨rfl, hB⟩
                have hZ4 := hZ3.trans (hB.mono hZ3.size)
                clear hB y0 y1
                go_wp2_with fail
                go_roundw
                case rel => exact ⟨j + 1, by have := HLT.out; omega, by go_num, hZ4⟩
                case measure => have := HLT.out; simp [intOf]; omega
            · obtain rfl : j = l.length := by omega
              have hjN : ¬ (l.length : Int) < N := by rw [hNl.out]; omega
              have hy3 := hy.below hZ hy.lt
              have y0 := hy3.cell_at 0 rfl
              have y1 := hy3.cell_at 1 rfl
              have hRy := fun (W : World) (h : Hands W A' yy) => right_given (Are.given h HAy.out (by have := HLL.out; omega)) c
              rw [HAy.out.right] at hRy
              have HRy := Lib.hid hRy
              clear hRy hlt
              go_wp2_with fail
              refine (HRy.out _ (by exact HHy.out.on hZ)).mono ?_
              rintro e w5 ⟨rfl, hB⟩
              have hZ5 := hZ.trans (hB.mono hZ.size)
              clear hB
              go_wp2_with fail
              refine (wakes_any _).mono ?_
              rintro e w' ⟨rfl, hB⟩
              go_wp2_with fail
              go_ret
              exact ⟨rfl, (SW.trans (hZ5.mono SW.size)).trans (hB.mono (Nat.le_trans SW.size hZ5.size))⟩
end Go.Proofs.Ytaaaehaiimmnhaa
