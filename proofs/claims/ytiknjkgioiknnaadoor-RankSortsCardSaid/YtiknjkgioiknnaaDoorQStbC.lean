/- slices.symMergeCmpFunc over places, held against one another by rank's own order: where one of the two rows has but one. -/
import Derived.Test.YtiknjkgioiknnaaDoorQJ
namespace Go.Proofs.YtiknjkgioiknnaaDoor
open Go.RowKit Go.Shelf
set_option linter.unusedVariables false
set_option linter.unusedSimpArgs false
set_option maxRecDepth 100000

set_option maxRecDepth 100000 in
set_option maxHeartbeats 32000000 in
theorem symMergeA_any {S : List Nat → World → Prop} {g n qf : Nat} {cv : Nat → Nat → Int} (K : Kit12 S g n) (C : Cmp12 S n qf cv) (O : Ord12 (ltOf12 cv)) {d : List Nat} (hn : n ≤ 1099511627776) (hp : d.Perm (List.range n)) (a m b cap : Nat) (ham : a < m) (hmb : m < b) (hbn : b ≤ n)
    (h1 : Srt (ltOf12 cv) d a m) (h2 : Srt (ltOf12 cv) d m b) (hr : Rise d a m b) (hA : m = a + 1) {w : World} (h : S d w) :
    Calls Tryd.prog 58 #[.slice (some ⟨g, 0, none⟩) n cap, .int .i64 a, .int .i64 m, .int .i64 b, .func (.func 37) #[] #[.pointer (some ⟨qf, 0, none⟩)]] w fun e w' => e = .returned (.tuple #[]) ∧ ∃ d', S d' w' ∧ Mv12 a b d d' ∧ Srt (ltOf12 cv) d' a b := by
  replace K := Lib.hid K
  have HO := Lib.hid O
  have HCm := Lib.hid C
  have HP := Lib.hid hp
  have H1 := Lib.hid h1
  have H2 := Lib.hid h2
  have HR := Lib.hid hr
  have HC := Lib.hid (K.out.closed d)
  have hln := K.out.len _ _ h
  have ham' : (a : Int) < (m : Int) := by omega
  have hmb' : (m : Int) < (b : Int) := by omega
  have hbn' : (b : Int) ≤ (n : Int) := by omega
  have rA : IntKind.i64.wrap ((m : Int) - (a : Int)) = 1 := by rw [IntKind.wrap_i64]; omega
  have HA := Lib.hid hA
  clear O C hp h1 h2 hr hA
  go_enter Tryd.func58, Tryd.ntmps58
  go_wp2_with fail
  go_loopw [10, 11] (fun vi vj wr => ∃ lo hi : Nat, vi = .int .i64 lo ∧ vj = .int .i64 hi ∧ m ≤ lo ∧ lo ≤ hi ∧ hi ≤ b ∧ S d wr ∧ Hid ((∀ t, m ≤ t → t < lo → LL (ltOf12 cv) (at12 d t) (at12 d a)) ∧ (∀ t, hi ≤ t → t < b → LL (ltOf12 cv) (at12 d a) (at12 d t))))
    (fun vi vj _ => (intOf vj).toNat - (intOf vi).toNat)
  case atStart => exact ⟨m, b, rfl, rfl, Nat.le_refl _, by omega, Nat.le_refl _, h, Lib.hid ⟨fun t x1 x2 => by omega, fun t x1 x2 => by omega⟩⟩
  case round =>
    clear h
    obtain ⟨lo, hi, rfl, rfl, hml, hlh, hhb, hS, HJ⟩ := hrel
    obtain ⟨wc, rfl⟩ : ∃ W, W = wr := ⟨wr, rfl⟩
    by_cases hlt : lo < hi
    · have hlt' : (lo : Int) < (hi : Int) := by omega
      obtain ⟨s, hs⟩ : ∃ s : Nat, s = lo + hi := ⟨_, rfl⟩
      obtain ⟨x, hx⟩ : ∃ h : Nat, h = s / 2 := ⟨_, rfl⟩
      have rs : IntKind.i64.wrap ((lo : Int) + (hi : Int)) = (s : Int) := by rw [IntKind.wrap_i64]; omega
      have rx : (s : Int) / 2 = (x : Int) := by omega
      have hx1 : lo ≤ x := by omega
      have hx2 : x < hi := by omega
      obtain ⟨v, hv⟩ : ∃ v, cv (at12 d x) (at12 d a) = v := ⟨_, rfl⟩
      have KC : Hid (∀ W, S d W → Calls Tryd.prog 37 #[.int .i64 (at12 d x : Int), .int .i64 (at12 d a : Int), .pointer (some ⟨qf, 0, none⟩)] W fun e W' => e = .returned (.int .i64 v) ∧ Below W.heap.size W W') := Lib.hid fun W hW => by
        rw [← hv]; exact HCm.out d W _ _ hW (at_range HP.out (by omega)) (at_range HP.out (by omega))
      have bn_x : x < n := by omega
      have bn_x2 : (x : Int) < (n : Int) := by omega
      have bn_a : a < n := by omega
      have bn_a2 : (a : Int) < (n : Int) := by omega
      have HV := Lib.hid hv
      have hwi : IntKind.i64.wrap ((x : Int) + 1) = (x : Int) + 1 := IntWalk.i64_in _ (by omega)
      clear hs hx hv
      by_cases hlv : v < 0
      · have hld : decide (v < 0) = true := decide_eq_true hlv
        have HN : Hid ((∀ t, m ≤ t → t < x + 1 → LL (ltOf12 cv) (at12 d t) (at12 d a)) ∧ (∀ t, hi ≤ t → t < b → LL (ltOf12 cv) (at12 d a) (at12 d t))) := Lib.hid ⟨fun t t1 t2 => by
          have hl : LL (ltOf12 cv) (at12 d x) (at12 d a) := .inl (lt_yes (by rw [HV.out]; exact hlv))
          by_cases e : t = x
          · subst e; exact hl
          · exact LL.trans HO.out (H2.out t x t1 (by omega) (by omega)) hl, HJ.out.2⟩
        clear HJ HV
        go_wp2_with fail
        have HBS : Hid (∀ W, Below wc.heap.size wc W → S d W) := Lib.hid (fun W hB => HC.out _ _ hS hB)
        clear hS
        refine region_mix (Below wc.heap.size wc) [(0, false), (1, false), (2, false), (3, false), (4, false), (5, false), (6, false), (7, false), (8, false), (9, false), (10, false)] (by kernel_rfl) (by kernel_rfl) (Below wc.heap.size wc) ⟨Closed.below wc, fun _ h => h⟩ (Below.refl _ _).drew ?_
        simp only [pickOps, List.getElem?_cons_zero, List.getElem?_cons_succ]
        repeat (first | (refine mix_skip (by rfl) ?_; simp only [Act.put, List.setIfInBounds_toArray, List.set_cons_zero, List.set_cons_succ]) | (refine mix_read _ (by rfl) (fun W hW => by (have hW := HBS.out W hW; have c0 := cel_cell (K.out.whole _ _ hW) (i := x) (by omega); have c1 := cel_cell (K.out.whole _ _ hW) (i := a) (by omega); go_simp; first | done | with_reducible rfl)) ?_; simp only [Act.put, List.setIfInBounds_toArray, List.set_cons_zero, List.set_cons_succ]) | (refine mix_call _ _ _ (by rfl) (fun W hW => by (have hW := HBS.out W hW; have c0 := cel_cell (K.out.whole _ _ hW) (i := x) (by omega); have c1 := cel_cell (K.out.whole _ _ hW) (i := a) (by omega); go_simp; first | done | rfl)) (fun W hW => KC.out W (HBS.out W hW)) ?_; simp only [Act.put, List.setIfInBounds_toArray, List.set_cons_zero, List.set_cons_succ]))
        refine mix_nil (fun W hW => ?_)
        have hS := HBS.out W hW
        clear hW HBS KC hlv hld
        go_wp2_with fail
        go_roundw
        case rel => exact ⟨x + 1, hi, by go_num, rfl, by omega, hx2, hhb, hS, HN⟩
        case measure => simp [intOf]; omega
      · have hld : decide (v < 0) = false := decide_eq_false hlv
        have HN : Hid ((∀ t, m ≤ t → t < lo → LL (ltOf12 cv) (at12 d t) (at12 d a)) ∧ (∀ t, x ≤ t → t < b → LL (ltOf12 cv) (at12 d a) (at12 d t))) := Lib.hid ⟨HJ.out.1, fun t t1 t2 => by
          have hl : LL (ltOf12 cv) (at12 d a) (at12 d x) := .inr ⟨lt_no (by rw [HV.out]; exact hlv), HR.out a x (Nat.le_refl _) ham (by omega) (by omega)⟩
          by_cases e : t = x
          · subst e; exact hl
          · exact LL.trans HO.out hl (H2.out x t (by omega) (by omega) t2)⟩
        clear HJ HV
        go_wp2_with fail
        have HBS : Hid (∀ W, Below wc.heap.size wc W → S d W) := Lib.hid (fun W hB => HC.out _ _ hS hB)
        clear hS
        refine region_mix (Below wc.heap.size wc) [(0, false), (1, false), (2, false), (3, false), (4, false), (5, false), (6, false), (7, false), (8, false), (9, false), (10, false)] (by kernel_rfl) (by kernel_rfl) (Below wc.heap.size wc) ⟨Closed.below wc, fun _ h => h⟩ (Below.refl _ _).drew ?_
        simp only [pickOps, List.getElem?_cons_zero, List.getElem?_cons_succ]
        repeat (first | (refine mix_skip (by rfl) ?_; simp only [Act.put, List.setIfInBounds_toArray, List.set_cons_zero, List.set_cons_succ]) | (refine mix_read _ (by rfl) (fun W hW => by (have hW := HBS.out W hW; have c0 := cel_cell (K.out.whole _ _ hW) (i := x) (by omega); have c1 := cel_cell (K.out.whole _ _ hW) (i := a) (by omega); go_simp; first | done | with_reducible rfl)) ?_; simp only [Act.put, List.setIfInBounds_toArray, List.set_cons_zero, List.set_cons_succ]) | (refine mix_call _ _ _ (by rfl) (fun W hW => by (have hW := HBS.out W hW; have c0 := cel_cell (K.out.whole _ _ hW) (i := x) (by omega); have c1 := cel_cell (K.out.whole _ _ hW) (i := a) (by omega); go_simp; first | done | rfl)) (fun W hW => KC.out W (HBS.out W hW)) ?_; simp only [Act.put, List.setIfInBounds_toArray, List.set_cons_zero, List.set_cons_succ]))
        refine mix_nil (fun W hW => ?_)
        have hS := HBS.out W hW
        clear hW HBS KC hlv hld
        go_wp2_with fail
        go_roundw
        case rel => exact ⟨lo, x, rfl, rfl, hml, hx1, by omega, hS, HN⟩
        case measure => simp [intOf]; omega
    · obtain rfl : lo = hi := by omega
      obtain ⟨i1, hi1⟩ : ∃ i1, i1 + 1 = lo := ⟨lo - 1, by omega⟩
      have ri1 : IntKind.i64.wrap ((lo : Int) - 1) = (i1 : Int) := by rw [IntKind.wrap_i64]; omega
      have HI1 := Lib.hid (And.intro hi1 (And.intro hml hhb))
      have HS := Lib.hid hS
      clear hi1 hml hhb hlt hlh hS
      go_wp2_with fail
      go_loopw [13] (fun vk wr => ∃ (k : Nat) (dk : List Nat), vk = .int .i64 k ∧ a ≤ k ∧ k ≤ i1 ∧ S dk wr ∧ Hid (dk.Perm d ∧ ∀ x, at12 dk x = rot12 (at12 d) a (a + 1) (k + 1) x))
        (fun vk _ => i1 - (intOf vk).toNat)
      case atStart => exact ⟨a, d, rfl, Nat.le_refl _, by have := HI1.out; have := HA.out; omega, HS.out, Lib.hid ⟨List.Perm.refl _, fun x => (rot_none_right x).symm⟩⟩
      case round =>
        obtain ⟨k, dk, rfl, hak, hki, hS, HK⟩ := hrel
        have hlk := K.out.len _ _ hS
        by_cases hlt : k < i1
        · have hlt' : (k : Int) < (i1 : Int) := by omega
          obtain ⟨q, hq⟩ : ∃ q, q = k + 1 := ⟨_, rfl⟩
          have rq : IntKind.i64.wrap ((k : Int) + 1) = (q : Int) := by rw [IntKind.wrap_i64]; have := HI1.out; omega
          have hb1 := HI1.out
          have HN : Hid ((swp12 dk k q).Perm d ∧ ∀ x, at12 (swp12 dk k q) x = rot12 (at12 d) a (a + 1) (q + 1) x) := Lib.hid (by
            subst hq
            exact ⟨(swp_perm (by omega) (by omega)).trans HK.out.1, rot_stepR HK.out.2 hak (by omega) rfl⟩)
          have bk : k < n := by omega
          have bk2 : (k : Int) < (n : Int) := by omega
          have bq : q < n := by omega
          have bq2 : (q : Int) < (n : Int) := by omega
          have HQ := Lib.hid (And.intro hq (And.intro hak hlt))
          clear hq hb1 HK
          go_wp2_with fail
          refine region_tree (fun _ => True) (.fork [(0, false), (1, false), (2, false), (3, false), (4, false), (5, false), (6, false), (7, false), (8, false), (10, false), (11, false), (12, false)] 9 13 (.last [(13, true), (14, false), (15, true), (16, false), (17, true)]) (.last [(9, true), (14, false), (15, true), (16, false), (17, true)])) (by kernel_rfl) (by kernel_rfl) (S dk) ⟨K.out.closed dk, fun _ _ => trivial⟩ ((K.out.closed dk).drew hS) ?_
          clear hS
          simp only [wpTree, pickOps, List.getElem?_cons_zero, List.getElem?_cons_succ]
          repeat (first | (refine mix_skip (by rfl) ?_; simp only [Act.put, List.setIfInBounds_toArray, List.set_cons_zero, List.set_cons_succ]) | (refine mix_read _ (by rfl) (fun W hW => by (clear hW; go_simp; first | done | with_reducible rfl)) ?_; simp only [Act.put, List.setIfInBounds_toArray, List.set_cons_zero, List.set_cons_succ]))
          refine mix_nil (fun hF => ⟨?_, ?_⟩)
          · refine mix_look (.int .i64 (at12 dk q : Int)) ⟨K.out.closed dk, fun _ _ => trivial⟩ (by rfl) (fun W hW => by (have c0 := cel_cell (K.out.whole _ _ hW) (i := q) (by omega); clear hW; go_simp; first | done | with_reducible rfl)) ?_
            simp only [Act.put, List.setIfInBounds_toArray, List.set_cons_zero, List.set_cons_succ]
            refine mix_nil ?_
            refine mix_look (.int .i64 (at12 dk k : Int)) ⟨K.out.closed dk, fun _ _ => trivial⟩ (by rfl) (fun W hW => by (have c0 := cel_cell (K.out.whole _ _ hW) (i := k) (by omega); clear hW; go_simp; first | done | with_reducible rfl)) ?_
            simp only [Act.put, List.setIfInBounds_toArray, List.set_cons_zero, List.set_cons_succ]
            repeat (first | (refine mix_skip (by rfl) ?_; simp only [Act.put, List.setIfInBounds_toArray, List.set_cons_zero, List.set_cons_succ]) | (refine mix_read _ (by rfl) (fun W hW => by (clear hW; go_simp; first | done | with_reducible rfl)) ?_; simp only [Act.put, List.setIfInBounds_toArray, List.set_cons_zero, List.set_cons_succ]))
            refine mix_store (S (dk.set k (at12 dk q))) (fun W => W.setCell ⟨g, k, none⟩ (.int .i64 ((at12 dk q) : Int))) ⟨K.out.closed _, fun _ _ => trivial⟩ (by rfl) (fun W hW => by (have c0 := cel_cell (K.out.whole _ _ hW) (i := k) (by first | omega | (simp; omega)); have f0 := (K.out.whole _ _ hW).frozen k; clear hW; go_simp; first | done | with_reducible rfl)) (fun W hW => K.out.set _ _ _ _ hW (by first | omega | (simp; omega))) ?_
            simp only [Act.put, List.setIfInBounds_toArray, List.set_cons_zero, List.set_cons_succ]
            repeat (first | (refine mix_skip (by rfl) ?_; simp only [Act.put, List.setIfInBounds_toArray, List.set_cons_zero, List.set_cons_succ]) | (refine mix_read _ (by rfl) (fun W hW => by (clear hW; go_simp; first | done | with_reducible rfl)) ?_; simp only [Act.put, List.setIfInBounds_toArray, List.set_cons_zero, List.set_cons_succ]))
            refine mix_store (S ((dk.set k (at12 dk q)).set q (at12 dk k))) (fun W => W.setCell ⟨g, q, none⟩ (.int .i64 ((at12 dk k) : Int))) ⟨K.out.closed _, fun _ _ => trivial⟩ (by rfl) (fun W hW => by (have c0 := cel_cell (K.out.whole _ _ hW) (i := q) (by first | omega | (simp; omega)); have f0 := (K.out.whole _ _ hW).frozen q; clear hW; go_simp; first | done | with_reducible rfl)) (fun W hW => K.out.set _ _ _ _ hW (by first | omega | (simp; omega))) ?_
            simp only [Act.put, List.setIfInBounds_toArray, List.set_cons_zero, List.set_cons_succ]
            refine mix_nil (fun W hS => ?_)
            have HN2 := HN
            go_wp2_with fail
            go_roundw
            case rel => exact ⟨q, swp12 dk k q, by have := HQ.out; go_num, by have := HQ.out; omega, by have := HQ.out; omega, hS, HN2⟩
            case measure => have := HQ.out; simp [intOf]; omega
          · refine mix_look (.int .i64 (at12 dk k : Int)) ⟨K.out.closed dk, fun _ _ => trivial⟩ (by rfl) (fun W hW => by (have c0 := cel_cell (K.out.whole _ _ hW) (i := k) (by omega); clear hW; go_simp; first | done | with_reducible rfl)) ?_
            simp only [Act.put, List.setIfInBounds_toArray, List.set_cons_zero, List.set_cons_succ]
            refine mix_nil ?_
            refine mix_look (.int .i64 (at12 dk q : Int)) ⟨K.out.closed dk, fun _ _ => trivial⟩ (by rfl) (fun W hW => by (have c0 := cel_cell (K.out.whole _ _ hW) (i := q) (by omega); clear hW; go_simp; first | done | with_reducible rfl)) ?_
            simp only [Act.put, List.setIfInBounds_toArray, List.set_cons_zero, List.set_cons_succ]
            repeat (first | (refine mix_skip (by rfl) ?_; simp only [Act.put, List.setIfInBounds_toArray, List.set_cons_zero, List.set_cons_succ]) | (refine mix_read _ (by rfl) (fun W hW => by (clear hW; go_simp; first | done | with_reducible rfl)) ?_; simp only [Act.put, List.setIfInBounds_toArray, List.set_cons_zero, List.set_cons_succ]))
            refine mix_store (S (dk.set k (at12 dk q))) (fun W => W.setCell ⟨g, k, none⟩ (.int .i64 ((at12 dk q) : Int))) ⟨K.out.closed _, fun _ _ => trivial⟩ (by rfl) (fun W hW => by (have c0 := cel_cell (K.out.whole _ _ hW) (i := k) (by first | omega | (simp; omega)); have f0 := (K.out.whole _ _ hW).frozen k; clear hW; go_simp; first | done | with_reducible rfl)) (fun W hW => K.out.set _ _ _ _ hW (by first | omega | (simp; omega))) ?_
            simp only [Act.put, List.setIfInBounds_toArray, List.set_cons_zero, List.set_cons_succ]
            repeat (first | (refine mix_skip (by rfl) ?_; simp only [Act.put, List.setIfInBounds_toArray, List.set_cons_zero, List.set_cons_succ]) | (refine mix_read _ (by rfl) (fun W hW => by (clear hW; go_simp; first | done | with_reducible rfl)) ?_; simp only [Act.put, List.setIfInBounds_toArray, List.set_cons_zero, List.set_cons_succ]))
            refine mix_store (S ((dk.set k (at12 dk q)).set q (at12 dk k))) (fun W => W.setCell ⟨g, q, none⟩ (.int .i64 ((at12 dk k) : Int))) ⟨K.out.closed _, fun _ _ => trivial⟩ (by rfl) (fun W hW => by (have c0 := cel_cell (K.out.whole _ _ hW) (i := q) (by first | omega | (simp; omega)); have f0 := (K.out.whole _ _ hW).frozen q; clear hW; go_simp; first | done | with_reducible rfl)) (fun W hW => K.out.set _ _ _ _ hW (by first | omega | (simp; omega))) ?_
            simp only [Act.put, List.setIfInBounds_toArray, List.set_cons_zero, List.set_cons_succ]
            refine mix_nil (fun W hS => ?_)
            have HN2 := HN
            go_wp2_with fail
            go_roundw
            case rel => exact ⟨q, swp12 dk k q, by have := HQ.out; go_num, by have := HQ.out; omega, by have := HQ.out; omega, hS, HN2⟩
            case measure => have := HQ.out; simp [intOf]; omega
        · obtain rfl : k = i1 := by omega
          have HF : Hid (Mv12 a b d dk ∧ Srt (ltOf12 cv) dk a b) := Lib.hid (by
            obtain ⟨e1, e2, e3⟩ := HI1.out
            have hA := HA.out
            subst hA
            have hk := HK.out.2
            rw [e1] at hk
            exact ⟨(mv_rot (by omega) (by omega) HK.out.1.length_eq HK.out.1 hk).mono (Nat.le_refl _) e3, left_done HO.out H2.out (by omega) e3 hk HJ.out.1 HJ.out.2⟩)
          go_wp2_with fail
          refine bodyPost_ret (results_none rfl _ _ _) rfl ?_
          exact ⟨rfl, dk, hS, HF.out.1, HF.out.2⟩
set_option maxRecDepth 100000 in
set_option maxHeartbeats 32000000 in
theorem symMergeB_any {S : List Nat → World → Prop} {g n qf : Nat} {cv : Nat → Nat → Int} (K : Kit12 S g n) (C : Cmp12 S n qf cv) (O : Ord12 (ltOf12 cv)) {d : List Nat} (hn : n ≤ 1099511627776) (hp : d.Perm (List.range n)) (a m b cap : Nat) (ham : a < m) (hmb : m < b) (hbn : b ≤ n)
    (h1 : Srt (ltOf12 cv) d a m) (h2 : Srt (ltOf12 cv) d m b) (hr : Rise d a m b) (hA : ¬ m = a + 1) (hB : b = m + 1) {w : World} (h : S d w) :
    Calls Tryd.prog 58 #[.slice (some ⟨g, 0, none⟩) n cap, .int .i64 a, .int .i64 m, .int .i64 b, .func (.func 37) #[] #[.pointer (some ⟨qf, 0, none⟩)]] w fun e w' => e = .returned (.tuple #[]) ∧ ∃ d', S d' w' ∧ Mv12 a b d d' ∧ Srt (ltOf12 cv) d' a b := by
  replace K := Lib.hid K
  have HO := Lib.hid O
  have HCm := Lib.hid C
  have HP := Lib.hid hp
  have H1 := Lib.hid h1
  have H2 := Lib.hid h2
  have HR := Lib.hid hr
  have HC := Lib.hid (K.out.closed d)
  have hln := K.out.len _ _ h
  have ham' : (a : Int) < (m : Int) := by omega
  have hmb' : (m : Int) < (b : Int) := by omega
  have hbn' : (b : Int) ≤ (n : Int) := by omega
  obtain ⟨z, hz⟩ : ∃ z : Int, z = (m : Int) - (a : Int) := ⟨_, rfl⟩
  have rA : IntKind.i64.wrap ((m : Int) - (a : Int)) = z := by rw [IntKind.wrap_i64]; omega
  have hz1 : ¬ z = 1 := by omega
  have hz2 : (z == 1) = false := by simpa using hz1
  have rB : IntKind.i64.wrap ((b : Int) - (m : Int)) = 1 := by rw [IntKind.wrap_i64]; omega
  have HB := Lib.hid hB
  clear O C hp h1 h2 hr hA hz hB
  go_enter Tryd.func58, Tryd.ntmps58
  go_wp2_with fail
  clear hz1 hz2
  go_loopw [14, 15] (fun vi vj wr => ∃ lo hi : Nat, vi = .int .i64 lo ∧ vj = .int .i64 hi ∧ a ≤ lo ∧ lo ≤ hi ∧ hi ≤ m ∧ S d wr ∧ Hid ((∀ t, a ≤ t → t < lo → LL (ltOf12 cv) (at12 d t) (at12 d m)) ∧ (∀ t, hi ≤ t → t < m → LL (ltOf12 cv) (at12 d m) (at12 d t))))
    (fun vi vj _ => (intOf vj).toNat - (intOf vi).toNat)
  case atStart => exact ⟨a, m, rfl, rfl, Nat.le_refl _, by omega, Nat.le_refl _, h, Lib.hid ⟨fun t x1 x2 => by omega, fun t x1 x2 => by omega⟩⟩
  case round =>
    clear h
    obtain ⟨lo, hi, rfl, rfl, hml, hlh, hhb, hS, HJ⟩ := hrel
    obtain ⟨wc, rfl⟩ : ∃ W, W = wr := ⟨wr, rfl⟩
    by_cases hlt : lo < hi
    · have hlt' : (lo : Int) < (hi : Int) := by omega
      obtain ⟨s, hs⟩ : ∃ s : Nat, s = lo + hi := ⟨_, rfl⟩
      obtain ⟨x, hx⟩ : ∃ h : Nat, h = s / 2 := ⟨_, rfl⟩
      have rs : IntKind.i64.wrap ((lo : Int) + (hi : Int)) = (s : Int) := by rw [IntKind.wrap_i64]; omega
      have rx : (s : Int) / 2 = (x : Int) := by omega
      have hx1 : lo ≤ x := by omega
      have hx2 : x < hi := by omega
      obtain ⟨v, hv⟩ : ∃ v, cv (at12 d m) (at12 d x) = v := ⟨_, rfl⟩
      have KC : Hid (∀ W, S d W → Calls Tryd.prog 37 #[.int .i64 (at12 d m : Int), .int .i64 (at12 d x : Int), .pointer (some ⟨qf, 0, none⟩)] W fun e W' => e = .returned (.int .i64 v) ∧ Below W.heap.size W W') := Lib.hid fun W hW => by
        rw [← hv]; exact HCm.out d W _ _ hW (at_range HP.out (by omega)) (at_range HP.out (by omega))
      have bn_x : x < n := by omega
      have bn_x2 : (x : Int) < (n : Int) := by omega
      have bn_m : m < n := by omega
      have bn_m2 : (m : Int) < (n : Int) := by omega
      have HV := Lib.hid hv
      have hwi : IntKind.i64.wrap ((x : Int) + 1) = (x : Int) + 1 := IntWalk.i64_in _ (by omega)
      clear hs hx hv
      by_cases hlv : v < 0
      · have hld : decide (v < 0) = true := decide_eq_true hlv
        have HN : Hid ((∀ t, a ≤ t → t < lo → LL (ltOf12 cv) (at12 d t) (at12 d m)) ∧ (∀ t, x ≤ t → t < m → LL (ltOf12 cv) (at12 d m) (at12 d t))) := Lib.hid ⟨HJ.out.1, fun t t1 t2 => by
          have hl : LL (ltOf12 cv) (at12 d m) (at12 d x) := .inl (lt_yes (by rw [HV.out]; exact hlv))
          by_cases e : t = x
          · subst e; exact hl
          · exact LL.trans HO.out hl (H1.out x t (by omega) (by omega) t2)⟩
        clear HJ HV
        go_wp2_with fail
        have HBS : Hid (∀ W, Below wc.heap.size wc W → S d W) := Lib.hid (fun W hB => HC.out _ _ hS hB)
        clear hS
        refine region_mix (Below wc.heap.size wc) [(0, false), (1, false), (2, false), (3, false), (4, false), (5, false), (6, false), (7, false), (8, false), (9, false), (10, false), (11, false)] (by kernel_rfl) (by kernel_rfl) (Below wc.heap.size wc) ⟨Closed.below wc, fun _ h => h⟩ (Below.refl _ _).drew ?_
        simp only [pickOps, List.getElem?_cons_zero, List.getElem?_cons_succ]
        repeat (first | (refine mix_skip (by rfl) ?_; simp only [Act.put, List.setIfInBounds_toArray, List.set_cons_zero, List.set_cons_succ]) | (refine mix_read _ (by rfl) (fun W hW => by (have hW := HBS.out W hW; have c0 := cel_cell (K.out.whole _ _ hW) (i := m) (by omega); have c1 := cel_cell (K.out.whole _ _ hW) (i := x) (by omega); go_simp; first | done | with_reducible rfl)) ?_; simp only [Act.put, List.setIfInBounds_toArray, List.set_cons_zero, List.set_cons_succ]) | (refine mix_call _ _ _ (by rfl) (fun W hW => by (have hW := HBS.out W hW; have c0 := cel_cell (K.out.whole _ _ hW) (i := m) (by omega); have c1 := cel_cell (K.out.whole _ _ hW) (i := x) (by omega); go_simp; first | done | rfl)) (fun W hW => KC.out W (HBS.out W hW)) ?_; simp only [Act.put, List.setIfInBounds_toArray, List.set_cons_zero, List.set_cons_succ]))
        refine mix_nil (fun W hW => ?_)
        have hS := HBS.out W hW
        clear hW HBS KC hlv hld
        go_wp2_with fail
        go_roundw
        case rel => exact ⟨lo, x, rfl, rfl, hml, hx1, by omega, hS, HN⟩
        case measure => simp [intOf]; omega
      · have hld : decide (v < 0) = false := decide_eq_false hlv
        have HN : Hid ((∀ t, a ≤ t → t < x + 1 → LL (ltOf12 cv) (at12 d t) (at12 d m)) ∧ (∀ t, hi ≤ t → t < m → LL (ltOf12 cv) (at12 d m) (at12 d t))) := Lib.hid ⟨fun t t1 t2 => by
          have hl : LL (ltOf12 cv) (at12 d x) (at12 d m) := .inr ⟨lt_no (by rw [HV.out]; exact hlv), HR.out x m (by omega) (by omega) (by omega) (by omega)⟩
          by_cases e : t = x
          · subst e; exact hl
          · exact LL.trans HO.out (H1.out t x t1 (by omega) (by omega)) hl, HJ.out.2⟩
        clear HJ HV
        go_wp2_with fail
        have HBS : Hid (∀ W, Below wc.heap.size wc W → S d W) := Lib.hid (fun W hB => HC.out _ _ hS hB)
        clear hS
        refine region_mix (Below wc.heap.size wc) [(0, false), (1, false), (2, false), (3, false), (4, false), (5, false), (6, false), (7, false), (8, false), (9, false), (10, false), (11, false)] (by kernel_rfl) (by kernel_rfl) (Below wc.heap.size wc) ⟨Closed.below wc, fun _ h => h⟩ (Below.refl _ _).drew ?_
        simp only [pickOps, List.getElem?_cons_zero, List.getElem?_cons_succ]
        repeat (first | (refine mix_skip (by rfl) ?_; simp only [Act.put, List.setIfInBounds_toArray, List.set_cons_zero, List.set_cons_succ]) | (refine mix_read _ (by rfl) (fun W hW => by (have hW := HBS.out W hW; have c0 := cel_cell (K.out.whole _ _ hW) (i := m) (by omega); have c1 := cel_cell (K.out.whole _ _ hW) (i := x) (by omega); go_simp; first | done | with_reducible rfl)) ?_; simp only [Act.put, List.setIfInBounds_toArray, List.set_cons_zero, List.set_cons_succ]) | (refine mix_call _ _ _ (by rfl) (fun W hW => by (have hW := HBS.out W hW; have c0 := cel_cell (K.out.whole _ _ hW) (i := m) (by omega); have c1 := cel_cell (K.out.whole _ _ hW) (i := x) (by omega); go_simp; first | done | rfl)) (fun W hW => KC.out W (HBS.out W hW)) ?_; simp only [Act.put, List.setIfInBounds_toArray, List.set_cons_zero, List.set_cons_succ]))
        refine mix_nil (fun W hW => ?_)
        have hS := HBS.out W hW
        clear hW HBS KC hlv hld
        go_wp2_with fail
        go_roundw
        case rel => exact ⟨x + 1, hi, by go_num, rfl, by omega, hx2, hhb, hS, HN⟩
        case measure => simp [intOf]; omega
    · obtain rfl : lo = hi := by omega
      have HI1 := Lib.hid (And.intro hml hhb)
      have HS := Lib.hid hS
      clear hml hhb hlt hlh hS
      go_wp2_with fail
      go_loopw [17] (fun vk wr => ∃ (k : Nat) (dk : List Nat), vk = .int .i64 k ∧ lo ≤ k ∧ k ≤ m ∧ S dk wr ∧ Hid (dk.Perm d ∧ ∀ x, at12 dk x = rot12 (at12 d) k m (m + 1) x))
        (fun vk _ => (intOf vk).toNat)
      case atStart => exact ⟨m, d, rfl, HI1.out.2, Nat.le_refl _, HS.out, Lib.hid ⟨List.Perm.refl _, fun x => (rot_none_left x).symm⟩⟩
      case round =>
        obtain ⟨k, dk, rfl, hak, hki, hS, HK⟩ := hrel
        have hlk := K.out.len _ _ hS
        by_cases hlt : lo < k
        · have hlt' : (lo : Int) < (k : Int) := by omega
          obtain ⟨q, hq⟩ : ∃ q, q + 1 = k := ⟨k - 1, by omega⟩
          have rq : IntKind.i64.wrap ((k : Int) - 1) = (q : Int) := by rw [IntKind.wrap_i64]; omega
          have HN : Hid ((swp12 dk k q).Perm d ∧ ∀ x, at12 (swp12 dk k q) x = rot12 (at12 d) q m (m + 1) x) := Lib.hid (by
            subst hq
            exact ⟨(swp_perm (by omega) (by omega)).trans HK.out.1, rot_stepL HK.out.2 hki (by omega) rfl⟩)
          have bk : k < n := by omega
          have bk2 : (k : Int) < (n : Int) := by omega
          have bq : q < n := by omega
          have bq2 : (q : Int) < (n : Int) := by omega
          have HQ := Lib.hid (And.intro hq (And.intro hki hlt))
          clear hq HK
          go_wp2_with fail
          refine region_tree (fun _ => True) (.fork [(0, false), (1, false), (2, false), (3, false), (4, false), (5, false), (6, false), (7, false), (8, false), (10, false), (11, false), (12, false)] 9 13 (.last [(13, true), (14, false), (15, true), (16, false), (17, true)]) (.last [(9, true), (14, false), (15, true), (16, false), (17, true)])) (by kernel_rfl) (by kernel_rfl) (S dk) ⟨K.out.closed dk, fun _ _ => trivial⟩ ((K.out.closed dk).drew hS) ?_
          clear hS
          simp only [wpTree, pickOps, List.getElem?_cons_zero, List.getElem?_cons_succ]
          repeat (first | (refine mix_skip (by rfl) ?_; simp only [Act.put, List.setIfInBounds_toArray, List.set_cons_zero, List.set_cons_succ]) | (refine mix_read _ (by rfl) (fun W hW => by (clear hW; go_simp; first | done | with_reducible rfl)) ?_; simp only [Act.put, List.setIfInBounds_toArray, List.set_cons_zero, List.set_cons_succ]))
          refine mix_nil (fun hF => ⟨?_, ?_⟩)
          · refine mix_look (.int .i64 (at12 dk q : Int)) ⟨K.out.closed dk, fun _ _ => trivial⟩ (by rfl) (fun W hW => by (have c0 := cel_cell (K.out.whole _ _ hW) (i := q) (by omega); clear hW; go_simp; first | done | with_reducible rfl)) ?_
            simp only [Act.put, List.setIfInBounds_toArray, List.set_cons_zero, List.set_cons_succ]
            refine mix_nil ?_
            refine mix_look (.int .i64 (at12 dk k : Int)) ⟨K.out.closed dk, fun _ _ => trivial⟩ (by rfl) (fun W hW => by (have c0 := cel_cell (K.out.whole _ _ hW) (i := k) (by omega); clear hW; go_simp; first | done | with_reducible rfl)) ?_
            simp only [Act.put, List.setIfInBounds_toArray, List.set_cons_zero, List.set_cons_succ]
            repeat (first | (refine mix_skip (by rfl) ?_; simp only [Act.put, List.setIfInBounds_toArray, List.set_cons_zero, List.set_cons_succ]) | (refine mix_read _ (by rfl) (fun W hW => by (clear hW; go_simp; first | done | with_reducible rfl)) ?_; simp only [Act.put, List.setIfInBounds_toArray, List.set_cons_zero, List.set_cons_succ]))
            refine mix_store (S (dk.set k (at12 dk q))) (fun W => W.setCell ⟨g, k, none⟩ (.int .i64 ((at12 dk q) : Int))) ⟨K.out.closed _, fun _ _ => trivial⟩ (by rfl) (fun W hW => by (have c0 := cel_cell (K.out.whole _ _ hW) (i := k) (by first | omega | (simp; omega)); have f0 := (K.out.whole _ _ hW).frozen k; clear hW; go_simp; first | done | with_reducible rfl)) (fun W hW => K.out.set _ _ _ _ hW (by first | omega | (simp; omega))) ?_
            simp only [Act.put, List.setIfInBounds_toArray, List.set_cons_zero, List.set_cons_succ]
            repeat (first | (refine mix_skip (by rfl) ?_; simp only [Act.put, List.setIfInBounds_toArray, List.set_cons_zero, List.set_cons_succ]) | (refine mix_read _ (by rfl) (fun W hW => by (clear hW; go_simp; first | done | with_reducible rfl)) ?_; simp only [Act.put, List.setIfInBounds_toArray, List.set_cons_zero, List.set_cons_succ]))
            refine mix_store (S ((dk.set k (at12 dk q)).set q (at12 dk k))) (fun W => W.setCell ⟨g, q, none⟩ (.int .i64 ((at12 dk k) : Int))) ⟨K.out.closed _, fun _ _ => trivial⟩ (by rfl) (fun W hW => by (have c0 := cel_cell (K.out.whole _ _ hW) (i := q) (by first | omega | (simp; omega)); have f0 := (K.out.whole _ _ hW).frozen q; clear hW; go_simp; first | done | with_reducible rfl)) (fun W hW => K.out.set _ _ _ _ hW (by first | omega | (simp; omega))) ?_
            simp only [Act.put, List.setIfInBounds_toArray, List.set_cons_zero, List.set_cons_succ]
            refine mix_nil (fun W hS => ?_)
            have HN2 := HN
            go_wp2_with fail
            go_roundw
            case rel => exact ⟨q, swp12 dk k q, rfl, by have := HQ.out; omega, by have := HQ.out; omega, hS, HN2⟩
            case measure => have := HQ.out; simp [intOf]; omega
          · refine mix_look (.int .i64 (at12 dk k : Int)) ⟨K.out.closed dk, fun _ _ => trivial⟩ (by rfl) (fun W hW => by (have c0 := cel_cell (K.out.whole _ _ hW) (i := k) (by omega); clear hW; go_simp; first | done | with_reducible rfl)) ?_
            simp only [Act.put, List.setIfInBounds_toArray, List.set_cons_zero, List.set_cons_succ]
            refine mix_nil ?_
            refine mix_look (.int .i64 (at12 dk q : Int)) ⟨K.out.closed dk, fun _ _ => trivial⟩ (by rfl) (fun W hW => by (have c0 := cel_cell (K.out.whole _ _ hW) (i := q) (by omega); clear hW; go_simp; first | done | with_reducible rfl)) ?_
            simp only [Act.put, List.setIfInBounds_toArray, List.set_cons_zero, List.set_cons_succ]
            repeat (first | (refine mix_skip (by rfl) ?_; simp only [Act.put, List.setIfInBounds_toArray, List.set_cons_zero, List.set_cons_succ]) | (refine mix_read _ (by rfl) (fun W hW => by (clear hW; go_simp; first | done | with_reducible rfl)) ?_; simp only [Act.put, List.setIfInBounds_toArray, List.set_cons_zero, List.set_cons_succ]))
            refine mix_store (S (dk.set k (at12 dk q))) (fun W => W.setCell ⟨g, k, none⟩ (.int .i64 ((at12 dk q) : Int))) ⟨K.out.closed _, fun _ _ => trivial⟩ (by rfl) (fun W hW => by (have c0 := cel_cell (K.out.whole _ _ hW) (i := k) (by first | omega | (simp; omega)); have f0 := (K.out.whole _ _ hW).frozen k; clear hW; go_simp; first | done | with_reducible rfl)) (fun W hW => K.out.set _ _ _ _ hW (by first | omega | (simp; omega))) ?_
            simp only [Act.put, List.setIfInBounds_toArray, List.set_cons_zero, List.set_cons_succ]
            repeat (first | (refine mix_skip (by rfl) ?_; simp only [Act.put, List.setIfInBounds_toArray, List.set_cons_zero, List.set_cons_succ]) | (refine mix_read _ (by rfl) (fun W hW => by (clear hW; go_simp; first | done | with_reducible rfl)) ?_; simp only [Act.put, List.setIfInBounds_toArray, List.set_cons_zero, List.set_cons_succ]))
            refine mix_store (S ((dk.set k (at12 dk q)).set q (at12 dk k))) (fun W => W.setCell ⟨g, q, none⟩ (.int .i64 ((at12 dk k) : Int))) ⟨K.out.closed _, fun _ _ => trivial⟩ (by rfl) (fun W hW => by (have c0 := cel_cell (K.out.whole _ _ hW) (i := q) (by first | omega | (simp; omega)); have f0 := (K.out.whole _ _ hW).frozen q; clear hW; go_simp; first | done | with_reducible rfl)) (fun W hW => K.out.set _ _ _ _ hW (by first | omega | (simp; omega))) ?_
            simp only [Act.put, List.setIfInBounds_toArray, List.set_cons_zero, List.set_cons_succ]
            refine mix_nil (fun W hS => ?_)
            have HN2 := HN
            go_wp2_with fail
            go_roundw
            case rel => exact ⟨q, swp12 dk k q, rfl, by have := HQ.out; omega, by have := HQ.out; omega, hS, HN2⟩
            case measure => have := HQ.out; simp [intOf]; omega
        · obtain rfl : k = lo := by omega
          have HF : Hid (Mv12 a b d dk ∧ Srt (ltOf12 cv) dk a b) := Lib.hid (by
            obtain ⟨e2, e3⟩ := HI1.out
            have hB := HB.out
            subst hB
            exact ⟨(mv_rot e3 (by omega) HK.out.1.length_eq HK.out.1 HK.out.2).mono e2 (Nat.le_refl _), right_done HO.out H1.out e2 e3 HK.out.2 HJ.out.1 HJ.out.2⟩)
          go_wp2_with fail
          refine bodyPost_ret (results_none rfl _ _ _) rfl ?_
          exact ⟨rfl, dk, hS, HF.out.1, HF.out.2⟩
end Go.Proofs.YtiknjkgioiknnaaDoor
