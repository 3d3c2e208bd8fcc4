/- slices.stableCmpFunc and SortStableFunc over places, held against one another by rank's own order. -/
import Derived.Test.YtiknjkgioiknnaaDoorQStbD
namespace Go.Proofs.YtiknjkgioiknnaaDoor
open Go.RowKit Go.Shelf
set_option linter.unusedVariables false
set_option linter.unusedSimpArgs false
set_option maxRecDepth 100000

set_option maxRecDepth 100000 in
set_option maxHeartbeats 32000000 in
theorem stable_any {S : List Nat → World → Prop} {g n qf : Nat} {cv : Nat → Nat → Int} (K : Kit12 S g n) (C : Cmp12 S n qf cv) (O : Ord12 (ltOf12 cv)) (hn : n ≤ 1099511627776) (cap : Nat) {w : World} (h : S (List.range n) w) :
    Calls Tryd.prog 39 #[.slice (some ⟨g, 0, none⟩) n cap, .int .i64 n, .func (.func 37) #[] #[.pointer (some ⟨qf, 0, none⟩)]] w fun e w' => e = .returned (.tuple #[]) ∧ ∃ d, S d w' ∧ d.Perm (List.range n) ∧ Srt (ltOf12 cv) d 0 n := by
  have HI : Hid (∀ {d : List Nat} (hp : d.Perm (List.range n)) (a b : Nat) (hab : a ≤ b) (hbn : b ≤ n) (hup : ∀ i j, a ≤ i → i < j → j < b → at12 d i < at12 d j) {w : World} (h : S d w),
      Calls Tryd.prog 57 #[.slice (some ⟨g, 0, none⟩) n cap, .int .i64 a, .int .i64 b, .func (.func 37) #[] #[.pointer (some ⟨qf, 0, none⟩)]] w fun e w' => e = .returned (.tuple #[]) ∧ ∃ d', S d' w' ∧ Mv12 a b d d' ∧ Srt (ltOf12 cv) d' a b) := Lib.hid fun hp a b hab hbn hup {w} h => insertion_any K C O hn hp a b cap hab hbn hup h
  have HM : Hid (∀ {d : List Nat} (hp : d.Perm (List.range n)) (a m b : Nat) (ham : a < m) (hmb : m < b) (hbn : b ≤ n) (h1 : Srt (ltOf12 cv) d a m) (h2 : Srt (ltOf12 cv) d m b) (hr : Rise d a m b) {w : World} (h : S d w),
      Calls Tryd.prog 58 #[.slice (some ⟨g, 0, none⟩) n cap, .int .i64 a, .int .i64 m, .int .i64 b, .func (.func 37) #[] #[.pointer (some ⟨qf, 0, none⟩)]] w fun e w' => e = .returned (.tuple #[]) ∧ ∃ d', S d' w' ∧ Mv12 a b d d' ∧ Srt (ltOf12 cv) d' a b) := Lib.hid fun hp a m b ham hmb hbn h1 h2 hr {w} h => symMerge_any K C O hn hp a m b cap ham hmb hbn h1 h2 hr h
  clear K C O
  go_enter Tryd.func39, Tryd.ntmps39
  go_wp2_with fail
  go_loopw [7, 8] (fun va vb wr => ∃ (a b : Nat) (d : List Nat), va = .int .i64 a ∧ vb = .int .i64 b ∧ b = a + 20 ∧ a ≤ n ∧ S d wr ∧ Hid (One12 (ltOf12 cv) 20 n a d))
    (fun va _ _ => n - (intOf va).toNat)
  case atStart => exact ⟨0, 20, List.range n, rfl, rfl, rfl, Nat.zero_le _, h, Lib.hid one_start⟩
  case round =>
    clear h
    obtain ⟨a, b, d, rfl, rfl, hb, han, hS, H1⟩ := hrel
    by_cases hlt : b ≤ n
    · have hlt' : (b : Int) ≤ (n : Int) := by omega
      have rb : IntKind.i64.wrap ((b : Int) + 20) = ((b + 20 : Nat) : Int) := by rw [IntKind.wrap_i64]; omega
      obtain ⟨b2, hb2⟩ : ∃ b2, b + 20 = b2 := ⟨_, rfl⟩
      rw [hb2] at rb
      have KI := Lib.hid (HI.out H1.out.perm a b (by omega) hlt (fun i j i1 i2 i3 => by rw [H1.out.rest i i1 (by omega), H1.out.rest j (by omega) (by omega)]; exact i2) hS)
      have HB := Lib.hid (And.intro hb hb2)
      clear hS hb hb2
      go_wp2_with fail
      refine KI.out.mono ?_
      clear KI
      rintro e w1 ⟨rfl, d1, hS, hm, hs⟩
      have HN := Lib.hid (one_next (bs := 20) (by omega) H1.out HB.out.1 hlt hm hs)
      clear hm hs H1
      go_wp2_with fail
      go_roundw
      case rel => exact ⟨b, b2, d1, rfl, rfl, by have := HB.out; omega, hlt, hS, HN⟩
      case measure => have := HB.out; simp [intOf]; omega
    · have hlt' : ¬ (b : Int) ≤ (n : Int) := by omega
      have KI := Lib.hid (HI.out H1.out.perm a n han (Nat.le_refl _) (fun i j i1 i2 i3 => by rw [H1.out.rest i i1 (by omega), H1.out.rest j (by omega) (by omega)]; exact i2) hS)
      have HN1 : Hid (n < a + 20) := Lib.hid (by omega)
      clear hS hb han hlt
      go_wp2_with fail
      refine KI.out.mono ?_
      clear KI
      rintro e w1 ⟨rfl, d1, hS1, hm, hs⟩
      have HL := Lib.hid (one_last (bs := 20) (by omega) H1.out HN1.out hm hs)
      clear hm hs H1 HN1 hlt'
      go_wp2_with fail
      go_loopw [6, 7, 8, 9] (fun vs va vb vm wr => ∃ (bs : Nat) (d : List Nat), vs = .int .i64 bs ∧ 20 ≤ bs ∧ bs ≤ n + n + 40 ∧ S d wr ∧ Hid (d.Perm (List.range n) ∧ InB bs d n ∧ Up (ltOf12 cv) bs d n))
        (fun vs _ _ _ _ => n - (intOf vs).toNat)
      case atStart => exact ⟨20, d1, rfl, Nat.le_refl _, by omega, hS1, HL⟩
      case round =>
        clear hS1 HL
        obtain ⟨bs, d, rfl, hbs, hbn, hS, HD⟩ := hrel
        by_cases hlt : bs < n
        · have hlt' : (bs : Int) < (n : Int) := by omega
          have r2 : IntKind.i64.wrap (2 * (bs : Int)) = ((bs * 2 : Nat) : Int) := by rw [IntKind.wrap_i64]; omega
          have r3 : IntKind.i64.wrap ((bs : Int) * 2) = ((bs * 2 : Nat) : Int) := by rw [IntKind.wrap_i64]; omega
          obtain ⟨bt, hbt⟩ : ∃ bt, bs * 2 = bt := ⟨_, rfl⟩
          rw [hbt] at r2 r3
          have HT := Lib.hid hbt
          have HS := Lib.hid hS
          clear hS
          obtain ⟨wk, rfl⟩ : ∃ W, W = wr := ⟨wr, rfl⟩
          go_wp2_with fail
          go_loopw [7, 8] (fun va vb wr => ∃ (a b : Nat) (d : List Nat), va = .int .i64 a ∧ vb = .int .i64 b ∧ b = a + bt ∧ a ≤ n ∧ S d wr ∧ Hid (Two12 (ltOf12 cv) bs n a d))
            (fun va _ _ => n - (intOf va).toNat)
          case atStart => exact ⟨0, bt, d, rfl, rfl, by omega, Nat.zero_le _, HS.out, Lib.hid (two_start HD.out.1 HD.out.2.1 HD.out.2.2)⟩
          case round =>
            clear HD HS
            obtain ⟨a, b, d, rfl, rfl, hb, han, hS, H1⟩ := hrel
            have rm : IntKind.i64.wrap ((a : Int) + (bs : Int)) = ((a + bs : Nat) : Int) := by rw [IntKind.wrap_i64]; omega
            obtain ⟨m, hm⟩ : ∃ m, a + bs = m := ⟨_, rfl⟩
            rw [hm] at rm
            have HB := Lib.hid (And.intro hb (And.intro hm (And.intro hbt han)))
            by_cases hle : b ≤ n
            · have hle' : (b : Int) ≤ (n : Int) := by omega
              have rb : IntKind.i64.wrap ((b : Int) + (bt : Int)) = ((b + bt : Nat) : Int) := by rw [IntKind.wrap_i64]; omega
              obtain ⟨b2, hb2⟩ : ∃ b2, b + bt = b2 := ⟨_, rfl⟩
              rw [hb2] at rb
              have HB2 := Lib.hid hb2
              have hp := two_parts (bs := bs) (by omega) H1.out (e := b) (by omega) hle
              rw [Nat.min_eq_left (by omega), hm] at hp
              have KM := Lib.hid (HM.out H1.out.perm a m b (by omega) (by omega) hle hp.1 hp.2.1 hp.2.2 hS)
              clear hS hb hb2 hm hp
              go_wp2_with fail
              refine KM.out.mono ?_
              clear KM
              rintro e w1 ⟨rfl, d1, hS, hm, hs⟩
              have HN := Lib.hid (two_next (bs := bs) (by omega) H1.out (by have := HB.out; omega) hle hm hs)
              clear hm hs H1
              go_wp2_with fail
              go_roundw
              case rel => exact ⟨b, b2, d1, rfl, rfl, by have := HB2.out; omega, hle, hS, HN⟩
              case measure => have := HB.out; simp [intOf]; omega
            · have hle' : ¬ (b : Int) ≤ (n : Int) := by omega
              by_cases hmn : m < n
              · have hmn' : (m : Int) < (n : Int) := by omega
                have hp := two_parts (bs := bs) (by omega) H1.out (e := n) (by omega) (Nat.le_refl _)
                rw [Nat.min_eq_left (by omega), hm] at hp
                have KM := Lib.hid (HM.out H1.out.perm a m n (by omega) hmn (Nat.le_refl _) hp.1 hp.2.1 hp.2.2 hS)
                have HLE := Lib.hid hle
                clear hS hb hm hp hle han
                go_wp2_with fail
                refine KM.out.mono ?_
                clear KM
                rintro e w1 ⟨rfl, d1, hS, hm, hs⟩
                have HN := Lib.hid (two_last (bs := bs) (by omega) H1.out (by have := HB.out; have := HLE.out; omega) hm hs)
                clear hm hs H1
                go_wp2_with fail
                go_roundw
                case rel => exact ⟨bt, d1, rfl, by omega, by omega, hS, by rw [HT.out] at HN; exact HN⟩
                case measure => simp [intOf]; omega
              · have hmn' : ¬ (m : Int) < (n : Int) := by omega
                have HN := Lib.hid (two_short (bs := bs) (by omega) H1.out (by omega))
                clear hb hm hle han H1
                go_wp2_with fail
                go_roundw
                case rel => exact ⟨bt, d, rfl, by omega, by omega, hS, by rw [HT.out] at HN; exact HN⟩
                case measure => simp [intOf]; omega
        · have HF := Lib.hid (two_done (by omega) HD.out.2.2)
          go_wp2_with fail
          go_end0
          exact ⟨rfl, d, hS, HD.out.1, HF.out⟩
set_option maxRecDepth 100000 in
set_option maxHeartbeats 32000000 in
theorem sortStable_any {S : List Nat → World → Prop} {g n qf : Nat} {cv : Nat → Nat → Int} (K : Kit12 S g n) (C : Cmp12 S n qf cv) (O : Ord12 (ltOf12 cv)) (hn : n ≤ 1099511627776) (cap : Nat) {w : World} (h : S (List.range n) w) :
    Calls Tryd.prog 24 #[.slice (some ⟨g, 0, none⟩) n cap, .func (.func 37) #[] #[.pointer (some ⟨qf, 0, none⟩)]] w fun e w' => e = .returned (.tuple #[]) ∧ ∃ d, S d w' ∧ d.Perm (List.range n) ∧ Srt (ltOf12 cv) d 0 n := by
  have KK := Lib.hid (stable_any K C O hn cap h)
  clear K C O h
  go_enter Tryd.func24, Tryd.ntmps24
  go_wp2_with fail
  refine KK.out.mono ?_
  clear KK
  rintro e w1 ⟨rfl, hh⟩
  go_wp2_with fail
  go_end0
  exact ⟨rfl, hh⟩
end Go.Proofs.YtiknjkgioiknnaaDoor
