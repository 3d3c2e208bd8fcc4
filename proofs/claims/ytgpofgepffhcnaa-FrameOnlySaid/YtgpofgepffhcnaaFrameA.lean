/- Package frame, and the document's own: which frames may be; what is newer; sizes; the same. -/
import Derived.Test.YtgpofgepffhcnaaBase
import Derived.Test.YtgpofgepffhcnaaCrcS
namespace Go.Proofs.Ytgpofgepffhcnaa
open Go.RowKit Go.Shelf
set_option linter.unusedVariables false

/-- A frame, as a value. -/
abbrev frV (k q : Int) (A : Option Addr) (n c : Nat) : Value := .agg #[.int .u8 k, .int .u8 q, .slice A n c]
/-- Is there such a kind? -/
def knownK (k : Int) : Bool := decide (1 ≤ k ∧ k ≤ 3)
/-- May the frame be? -/
def rightF (k : Int) (n : Nat) : Bool := knownK k && decide (n ≤ 59)
/-- Is n newer? -/
def newerN (n was : Int) : Bool := decide (1 ≤ (n - was) % 256 ∧ (n - was) % 256 ≤ 127)
/-- How many bytes. -/
def sizeF (k : Int) (n : Nat) : Int := if rightF k n = true then 5 + (n : Int) else 0
/-- Are these the same frame? -/
def sameF (k q k' q' : Int) (a b : List Int) : Bool := decide (k = k' ∧ q = q') && sameB a b

theorem knownK_eq (k : Int) : knownK k = true ↔ k = 1 ∨ k = 2 ∨ k = 3 := by unfold knownK; rw [decide_eq_true_eq]; omega

set_option maxHeartbeats 1000000 in
theorem known_any (k : Int) (w : World) (h0 : 0 ≤ k) (h1 : k ≤ 255) :
    Calls Try.prog 28 #[.int .u8 k] w fun e w' => e = .returned (.bool (knownK k)) ∧ w = w' := by
  by_cases hk : k = 1 ∨ k = 2 ∨ k = 3
  · rw [(knownK_eq k).2 hk]
    rcases hk with rfl | rfl | rfl
    all_goals
      go_enter Try.func28, Try.ntmps28
      go_wp2_with fail
      go_ret
      exact ⟨rfl, rfl⟩
  · have hf : knownK k = false := by
      rw [Bool.eq_false_iff]; exact fun e => hk ((knownK_eq k).1 e)
    rw [hf]
    have a1 : (k == 1) = false := by simp; omega
    have a2 : (k == 2) = false := by simp; omega
    have a3 : (k == 3) = false := by simp; omega
    clear hf hk
    go_enter Try.func28, Try.ntmps28
    go_wp2_with fail
    go_ret
    exact ⟨rfl, rfl⟩

theorem known_yes (k : Int) (w : World) (h0 : 0 ≤ k) (h1 : k ≤ 255) (h : knownK k = true) :
    Calls Try.prog 28 #[.int .u8 k] w fun e w' => e = .returned (.bool true) ∧ w = w' := by rw [← h]; exact known_any k w h0 h1
theorem known_no (k : Int) (w : World) (h0 : 0 ≤ k) (h1 : k ≤ 255) (h : knownK k = false) :
    Calls Try.prog 28 #[.int .u8 k] w fun e w' => e = .returned (.bool false) ∧ w = w' := by rw [← h]; exact known_any k w h0 h1

set_option maxHeartbeats 1000000 in
theorem right_any (k q : Int) (A : Option Addr) (n c : Nat) (w : World) (h0 : 0 ≤ k) (h1 : k ≤ 255) (hn : n ≤ maxLen) :
    Calls Try.prog 15 #[frV k q A n c] w fun e w' => e = .returned (.bool (rightF k n)) ∧ Below w.heap.size w w' := by
  unfold maxLen at hn
  unfold rightF
  cases hk : knownK k
  · have H := Lib.hid hk
    clear hk
    go_enter Try.func15, Try.ntmps15
    go_wp2_with fail
    refine (known_no k _ h0 h1 H.out).mono ?_
    rintro e w' ⟨rfl, rfl⟩
    go_wp2_with fail
    go_ret
    exact ⟨rfl, below1 _ _⟩
  · have H := Lib.hid hk
    clear hk
    by_cases h59 : n ≤ 59
    · have c1 : (n : Int) ≤ 59 := by omega
      rw [decide_eq_true h59]
      clear h59
      go_enter Try.func15, Try.ntmps15
      go_wp2_with fail
      refine (known_yes k _ h0 h1 H.out).mono ?_
      rintro e w' ⟨rfl, rfl⟩
      go_wp2_with fail
      go_ret
      exact ⟨rfl, below1 _ _⟩
    · have c1 : ¬ (n : Int) ≤ 59 := by omega
      rw [decide_eq_false h59]
      clear h59
      go_enter Try.func15, Try.ntmps15
      go_wp2_with fail
      refine (known_yes k _ h0 h1 H.out).mono ?_
      rintro e w' ⟨rfl, rfl⟩
      go_wp2_with fail
      go_ret
      exact ⟨ret_bool (by simpa using c1), below1 _ _⟩

set_option maxHeartbeats 1000000 in
theorem rightR_any (k q : Int) (A : Option Addr) (n c : Nat) (w : World) (h0 : 0 ≤ k) (h1 : k ≤ 255) (hn : n ≤ maxLen) :
    Calls Try.prog 16 #[frV k q A n c] w fun e w' => e = .returned (.bool (rightF k n)) ∧ Below w.heap.size w w' := by
  unfold maxLen at hn
  unfold rightF knownK
  by_cases ha : 1 ≤ k
  · by_cases hb : k < 4
    · rw [decide_eq_true (show 1 ≤ k ∧ k ≤ 3 by omega)]
      by_cases h59 : n ≤ 59
      · have c1 : (n : Int) ≤ 59 := by omega
        rw [decide_eq_true h59]
        clear h59
        go_enter Try.func16, Try.ntmps16
        go_wp2_with fail
        go_ret
        exact ⟨rfl, below1 _ _⟩
      · have c1 : ¬ (n : Int) ≤ 59 := by omega
        rw [decide_eq_false h59]
        clear h59
        go_enter Try.func16, Try.ntmps16
        go_wp2_with fail
        go_ret
        exact ⟨rfl, below1 _ _⟩
    · rw [decide_eq_false (show ¬ (1 ≤ k ∧ k ≤ 3) by omega)]
      go_enter Try.func16, Try.ntmps16
      go_wp2_with fail
      go_ret
      exact ⟨rfl, below1 _ _⟩
  · rw [decide_eq_false (show ¬ (1 ≤ k ∧ k ≤ 3) by omega)]
    go_enter Try.func16, Try.ntmps16
    go_wp2_with fail
    go_ret
    exact ⟨rfl, below1 _ _⟩

set_option maxHeartbeats 1000000 in
theorem newer_any (n was : Int) (w : World) (h0 : 0 ≤ n) (h1 : n ≤ 255) (g0 : 0 ≤ was) (g1 : was ≤ 255) :
    Calls Try.prog 17 #[.int .u8 n, .int .u8 was] w fun e w' => e = .returned (.bool (newerN n was)) ∧ w = w' := by
  unfold newerN
  have e1 : IntKind.u8.wrap (n - was) = (n - was) % 256 := by rw [IntKind.wrap_u8]
  generalize hd : (n - was) % 256 = d at e1 ⊢
  have d0 : 0 ≤ d := by omega
  have d1 : d ≤ 255 := by omega
  by_cases ha : 0 < d
  · by_cases hb : d < 128
    · rw [decide_eq_true (show 1 ≤ d ∧ d ≤ 127 by omega)]
      go_enter Try.func17, Try.ntmps17
      go_wp2_with fail
      go_ret
      first | exact ⟨rfl, rfl⟩ | simp [hd, ha, hb]
    · rw [decide_eq_false (show ¬ (1 ≤ d ∧ d ≤ 127) by omega)]
      go_enter Try.func17, Try.ntmps17
      go_wp2_with fail
      go_ret
      first | exact ⟨rfl, rfl⟩ | simp [hd, ha, hb]
  · rw [decide_eq_false (show ¬ (1 ≤ d ∧ d ≤ 127) by omega)]
    go_enter Try.func17, Try.ntmps17
    go_wp2_with fail
    go_ret
    first | exact ⟨rfl, rfl⟩ | simp [hd, ha]

set_option maxHeartbeats 1000000 in
theorem newerR_any (n was : Int) (w : World) (h0 : 0 ≤ n) (h1 : n ≤ 255) (g0 : 0 ≤ was) (g1 : was ≤ 255) :
    Calls Try.prog 18 #[.int .u8 n, .int .u8 was] w fun e w' => e = .returned (.bool (newerN n was)) ∧ w = w' := by
  unfold newerN
  have e1 : (n - was + 256) % 256 = (n - was) % 256 := by omega
  generalize hd : (n - was) % 256 = d at e1 ⊢
  have d0 : 0 ≤ d := by omega
  have d1 : d ≤ 255 := by omega
  by_cases ha : 1 ≤ d
  · by_cases hb : d ≤ 127
    · rw [decide_eq_true (show 1 ≤ d ∧ d ≤ 127 by omega)]
      go_enter Try.func18, Try.ntmps18
      go_wp2_with fail
      go_ret
      first | exact ⟨rfl, rfl⟩ | simp [hd, ha, hb]
    · rw [decide_eq_false (show ¬ (1 ≤ d ∧ d ≤ 127) by omega)]
      go_enter Try.func18, Try.ntmps18
      go_wp2_with fail
      go_ret
      first | exact ⟨rfl, rfl⟩ | simp [hd, ha, hb]
  · rw [decide_eq_false (show ¬ (1 ≤ d ∧ d ≤ 127) by omega)]
    go_enter Try.func18, Try.ntmps18
    go_wp2_with fail
    go_ret
    first | exact ⟨rfl, rfl⟩ | simp [hd, ha]

theorem right_yes (k q : Int) (A : Option Addr) (n c : Nat) (w : World) (h0 : 0 ≤ k) (h1 : k ≤ 255) (hn : n ≤ maxLen) (h : rightF k n = true) :
    Calls Try.prog 15 #[frV k q A n c] w fun e w' => e = .returned (.bool true) ∧ Below w.heap.size w w' := by rw [← h]; exact right_any k q A n c w h0 h1 hn
theorem right_no (k q : Int) (A : Option Addr) (n c : Nat) (w : World) (h0 : 0 ≤ k) (h1 : k ≤ 255) (hn : n ≤ maxLen) (h : rightF k n = false) :
    Calls Try.prog 15 #[frV k q A n c] w fun e w' => e = .returned (.bool false) ∧ Below w.heap.size w w' := by rw [← h]; exact right_any k q A n c w h0 h1 hn
theorem rightR_yes (k q : Int) (A : Option Addr) (n c : Nat) (w : World) (h0 : 0 ≤ k) (h1 : k ≤ 255) (hn : n ≤ maxLen) (h : rightF k n = true) :
    Calls Try.prog 16 #[frV k q A n c] w fun e w' => e = .returned (.bool true) ∧ Below w.heap.size w w' := by rw [← h]; exact rightR_any k q A n c w h0 h1 hn
theorem rightR_no (k q : Int) (A : Option Addr) (n c : Nat) (w : World) (h0 : 0 ≤ k) (h1 : k ≤ 255) (hn : n ≤ maxLen) (h : rightF k n = false) :
    Calls Try.prog 16 #[frV k q A n c] w fun e w' => e = .returned (.bool false) ∧ Below w.heap.size w w' := by rw [← h]; exact rightR_any k q A n c w h0 h1 hn

theorem cellsB {W w1 : World} {n : Nat} (hb : Below n W w1) : (∀ b o, b < n → w1.cell? ⟨b, o, none⟩ = W.cell? ⟨b, o, none⟩) ∧ (∀ b o, b < n → w1.frozen? ⟨b, o, none⟩ = W.frozen? ⟨b, o, none⟩) :=
  ⟨fun b o h => hb.cell (p := ⟨b, o, none⟩) h, fun b o h => hb.frozen (p := ⟨b, o, none⟩) h⟩

set_option maxHeartbeats 1000000 in
theorem size_any (k q : Int) (A : Option Addr) (n c : Nat) (w : World) (h0 : 0 ≤ k) (h1 : k ≤ 255) (hn : n ≤ maxLen) :
    Calls Try.prog 19 #[frV k q A n c] w fun e w' => e = .returned (.int .i64 (sizeF k n)) ∧ Below w.heap.size w w' := by
  have HM := Lib.hid hn
  unfold maxLen at hn
  unfold sizeF
  cases hk : rightF k n
  · have H := Lib.hid hk
    rw [if_neg (by simp)]
    clear hk
    go_enter Try.func19, Try.ntmps19
    go_wp2_with fail
    refine (right_no k q A n c _ h0 h1 HM.out H.out).mono ?_
    rintro e w' ⟨rfl, hB⟩
    go_wp2_with fail
    go_ret
    exact ⟨rfl, (below1 w _).trans (hB.mono (by simp))⟩
  · have H := Lib.hid hk
    have c1 : (n : Int) ≤ 59 := by unfold rightF at hk; simp at hk; omega
    rw [if_pos rfl]
    clear hk
    go_enter Try.func19, Try.ntmps19
    go_wp2_with fail
    refine (right_yes k q A n c _ h0 h1 HM.out H.out).mono ?_
    rintro e w' ⟨rfl, hB⟩
    have hx := ((Whole.new w 24 [.int .u8 k, .int .u8 q, .slice A n c])).below hB (by simp)
    have x2 := hx.cell_at 2 rfl
    go_wp2_with fail
    go_ret
    exact ⟨rfl, (below1 w _).trans (hB.mono (by simp))⟩

set_option maxHeartbeats 1000000 in
theorem sizeR_any (k q : Int) (A : Option Addr) (n c : Nat) (w : World) (h0 : 0 ≤ k) (h1 : k ≤ 255) (hn : n ≤ maxLen) :
    Calls Try.prog 20 #[frV k q A n c] w fun e w' => e = .returned (.int .i64 (sizeF k n)) ∧ Below w.heap.size w w' := by
  have HM := Lib.hid hn
  unfold maxLen at hn
  unfold sizeF
  cases hk : rightF k n
  · have H := Lib.hid hk
    rw [if_neg (by simp)]
    clear hk
    go_enter Try.func20, Try.ntmps20
    go_wp2_with fail
    refine (rightR_no k q A n c _ h0 h1 HM.out H.out).mono ?_
    rintro e w' ⟨rfl, hB⟩
    go_wp2_with fail
    go_ret
    exact ⟨rfl, (below1 w _).trans (hB.mono (by simp))⟩
  · have H := Lib.hid hk
    have c1 : (n : Int) ≤ 59 := by unfold rightF at hk; simp at hk; omega
    rw [if_pos rfl]
    clear hk
    go_enter Try.func20, Try.ntmps20
    go_wp2_with fail
    refine (rightR_yes k q A n c _ h0 h1 HM.out H.out).mono ?_
    rintro e w' ⟨rfl, hB⟩
    have hx := ((Whole.new w 24 [.int .u8 k, .int .u8 q, .slice A n c])).below hB (by simp)
    have x2 := hx.cell_at 2 rfl
    go_wp2_with fail
    go_ret
    exact ⟨ret_int (Int.add_comm _ _), (below1 w _).trans (hB.mono (by simp))⟩
end Go.Proofs.Ytgpofgepffhcnaa
