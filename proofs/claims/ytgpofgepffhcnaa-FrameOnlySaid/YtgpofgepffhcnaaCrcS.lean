/- Open, the program's and the document's own, at whatever bytes. -/
import Derived.Test.YtgpofgepffhcnaaCrcD
import Derived.Test.YtgpofgepffhcnaaCrcR
namespace Go.Proofs.Ytgpofgepffhcnaa
open Go.RowKit Go.Shelf
set_option linter.unusedVariables false

/-- What Open tells of bytes: an error; what they were. -/
def openE (zs : List Int) : Int := if zs.length < 2 then 40 else if goB 0xffff#16 zs = endS then 0 else 42
def openL (zs : List Int) : List Int := if openE zs = 0 then zs.take (zs.length - 2) else []
theorem openL_byte {zs : List Int} (h : ∀ z ∈ zs, IsByte z) : ∀ z ∈ openL zs, IsByte z := by
  intro z hz
  unfold openL at hz
  split at hz
  · exact h z (List.mem_of_mem_take hz)
  · cases hz
theorem openL_le (zs : List Int) : (openL zs).length ≤ zs.length := by
  unfold openL
  split
  · rw [List.length_take]; omega
  · simp
theorem openE_cases (zs : List Int) : openE zs = 40 ∨ openE zs = 42 ∨ openE zs = 0 := by
  unfold openE; split <;> (try split) <;> simp

/-- What comes of Open. -/
def OpenGives (w : World) (zs : List Int) (e : Ending) (w' : World) : Prop :=
  ∃ A' c', e = .returned (.tuple #[.slice A' (openL zs).length c', .int .i64 (openE zs)]) ∧ Row w' w'.heap.size A' (u8s (openL zs)) ∧ Below w.heap.size w w'

/-- .. and that it has room. -/
def OpenGivesC (w : World) (zs : List Int) (e : Ending) (w' : World) : Prop :=
  ∃ A' c', e = .returned (.tuple #[.slice A' (openL zs).length c', .int .i64 (openE zs)]) ∧ Row w' w'.heap.size A' (u8s (openL zs)) ∧ (openL zs).length ≤ c' ∧ Below w.heap.size w w'
theorem OpenGivesC.gives {w : World} {zs : List Int} {e : Ending} {w' : World} (h : OpenGivesC w zs e w') : OpenGives w zs e w' := by
  obtain ⟨A', c', he, hr, _, hB⟩ := h
  exact ⟨A', c', he, hr, hB⟩

theorem last_two (zs : List Int) (h : 2 ≤ zs.length) : ∃ l z0 z1, zs = l ++ [z0, z1] := by
  refine ⟨zs.take (zs.length - 2), zs[zs.length - 2], zs[zs.length - 1], ?_⟩
  have h1 : zs.drop (zs.length - 2) = [zs[zs.length - 2], zs[zs.length - 1]] := by
    rw [List.drop_eq_getElem_cons (by omega), List.drop_eq_getElem_cons (by omega)]
    simp [show zs.length - 2 + 1 = zs.length - 1 by omega, show zs.length - 1 + 1 = zs.length by omega]
  rw [← h1, List.take_append_drop]
theorem openE_short (zs : List Int) (h : zs.length < 2) : openE zs = 40 := by unfold openE; rw [if_pos h]
theorem openE_good (l : List Int) (z0 z1 : Int) (h : valB (bitsOf [z0, z1]) = sumB l) : openE (l ++ [z0, z1]) = 0 := by
  unfold openE; rw [if_neg (by simp), if_pos ((closed_iff l _ rfl).1 h)]
theorem openE_wrong (l : List Int) (z0 z1 : Int) (h : valB (bitsOf [z0, z1]) ≠ sumB l) : openE (l ++ [z0, z1]) = 42 := by
  unfold openE; rw [if_neg (by simp), if_neg (fun e => h ((closed_iff l _ rfl).2 e))]
theorem openL_good (l : List Int) (z0 z1 : Int) (h : openE (l ++ [z0, z1]) = 0) : openL (l ++ [z0, z1]) = l := by
  unfold openL
  rw [if_pos h, List.take_left' (by simp)]
theorem openL_none (zs : List Int) (h : openE zs ≠ 0) : openL zs = [] := by unfold openL; rw [if_neg h]

theorem open_anyC (A : Option Addr) (cap : Nat) (zs : List Int) (w : World) (hr : Row w w.heap.size A (u8s zs)) (hz : ∀ z ∈ zs, IsByte z) (hzl : zs.length ≤ 549755813888) (hcap : zs.length ≤ cap) :
    Calls Try.prog 26 #[.slice A zs.length cap] w (OpenGivesC w zs) := by
  rcases Nat.lt_or_ge zs.length 2 with h | h
  · refine (open_short A cap zs w h).mono ?_
    rintro e w' ⟨rfl, rfl⟩
    have h0 := openE_short zs h
    refine ⟨none, 0, ?_, ?_, by rw [openL_none zs (by rw [h0]; decide)]; exact Nat.le_refl _, Below.refl _ _⟩
    · rw [openL_none zs (by rw [h0]; decide), h0]; rfl
    · rw [openL_none zs (by rw [h0]; decide)]; exact Row.nil _ _ _
  · obtain ⟨l, z0, z1, rfl⟩ := last_two zs h
    obtain ⟨b, off, rfl, _, _⟩ := hr (by rw [u8s_length]; omega)
    have hn : (l ++ [z0, z1]).length = l.length + 2 := by simp
    by_cases hs : valB (bitsOf [z0, z1]) = sumB l
    · refine (open_right_cap b off cap _ l z0 z1 w hr hz (by omega) hn hcap hs).mono ?_
      rintro e w' ⟨A', c', rfl, hr', hc', hB⟩
      have h0 := openE_good l z0 z1 hs
      refine ⟨A', c', ?_, ?_, by rw [openL_good l z0 z1 h0]; exact hc', hB⟩
      · rw [openL_good l z0 z1 h0, h0]
      · rw [openL_good l z0 z1 h0]; exact hr'
    · refine (open_wrong b off cap _ l z0 z1 w hr hz (by unfold maxLen; omega) hn hcap hs).mono ?_
      rintro e w' ⟨rfl, hB⟩
      have h0 := openE_wrong l z0 z1 hs
      refine ⟨none, 0, ?_, ?_, by rw [openL_none _ (by rw [h0]; decide)]; exact Nat.le_refl _, hB⟩
      · rw [openL_none _ (by rw [h0]; decide), h0]; rfl
      · rw [openL_none _ (by rw [h0]; decide)]; exact Row.nil _ _ _

theorem open_any (A : Option Addr) (cap : Nat) (zs : List Int) (w : World) (hr : Row w w.heap.size A (u8s zs)) (hz : ∀ z ∈ zs, IsByte z) (hzl : zs.length ≤ 549755813888) (hcap : zs.length ≤ cap) :
    Calls Try.prog 26 #[.slice A zs.length cap] w (OpenGives w zs) :=
  (open_anyC A cap zs w hr hz hzl hcap).mono fun _ _ h => h.gives

set_option maxHeartbeats 2000000 in
theorem openR_short (A : Option Addr) (cap : Nat) (zs : List Int) (w : World) (hlt : zs.length < 2) :
    Calls Try.prog 27 #[.slice A zs.length cap] w fun e w' => e = .returned (.tuple #[.slice none 0 0, .int .i64 40]) ∧ w = w' := by
  go_enter Try.func27, Try.ntmps27
  go_wp2_with fail
  go_ret2
  exact ⟨rfl, rfl⟩

theorem closeB_byte {l : List Int} (h : ∀ z ∈ l, IsByte z) : ∀ z ∈ closeB l, IsByte z := by
  intro z hz
  unfold closeB at hz
  have hs := (sumB l).isLt
  simp only [List.mem_append, List.mem_cons, List.not_mem_nil, or_false] at hz
  rcases hz with hz | rfl | rfl
  · exact h z hz
  · unfold lowB IsByte; omega
  · unfold highB IsByte; omega
theorem closeB_length (l : List Int) : (closeB l).length = l.length + 2 := by simp [closeB]
/-- Closed bytes are told by their sum. -/
theorem closeB_eq (l : List Int) (z0 z1 : Int) (h0 : IsByte z0) (h1 : IsByte z1) : closeB l = l ++ [z0, z1] ↔ valB (bitsOf [z0, z1]) = sumB l := by
  unfold closeB
  constructor
  · intro h
    have := List.append_cancel_left h
    rw [← this, val_sum]
  · intro h
    congr 1
    rw [← h]
    have hn := told_num z0 z1 h0 h1
    have hlow : numS (valB (bitsOf [z0, z1])) = z0 + z1 * 256 := by
      rw [← hn]
      obtain ⟨a, rfl⟩ := Int.eq_ofNat_of_zero_le h0.1
      obtain ⟨b, rfl⟩ := Int.eq_ofNat_of_zero_le h1.1
      have ha : a < 256 := by have := h0.2; omega
      have hb : b < 256 := by have := h1.2; omega
      show IntKind.u16.wrap ((BitVec.ofInt 16 (a : Int) ||| BitVec.ofInt 16 ((b : Int) * 256)).toNat : Int) = _
      rw [show ((b : Int) * 256) = ((b * 256 : Nat) : Int) by simp, BitVec.ofInt_natCast, BitVec.ofInt_natCast, BitVec.toNat_or, BitVec.toNat_ofNat, BitVec.toNat_ofNat, Nat.mod_eq_of_lt (by omega), Nat.mod_eq_of_lt (by omega)]
      have e := Nat.two_pow_add_eq_or_of_lt (i := 8) (b := a) (by omega) b
      rw [Nat.or_comm, show b * 256 = 2 ^ 8 * b by omega, ← e, IntKind.wrap_u16]
      omega
    unfold numS at hlow
    have g0 := h0.1; have g1 := h0.2; have g2 := h1.1; have g3 := h1.2
    unfold lowB highB
    congr 1
    · omega
    · congr 1; omega

set_option maxRecDepth 100000 in
set_option maxHeartbeats 2000000 in
theorem openR_long (b off cap n : Nat) (l : List Int) (z0 z1 : Int) (w : World) (hr : Row w w.heap.size (some ⟨b, off, none⟩) (u8s (l ++ [z0, z1]))) (hz : ∀ z ∈ l ++ [z0, z1], IsByte z) (hzl : n ≤ 549755813888) (hn : n = (l ++ [z0, z1]).length) (hcap : n ≤ cap) :
    Calls Try.prog 27 #[.slice (some ⟨b, off, none⟩) n cap] w (OpenGivesC w (l ++ [z0, z1])) := by
  have hn2 : n = l.length + 2 := by rw [hn]; simp
  have hrl : Row w w.heap.size (some ⟨b, off, none⟩) (u8s l) := by
    have := hr.take l.length
    rwa [u8s_append, List.take_left' (u8s_length l)] at this
  have hzl' : ∀ z ∈ l, IsByte z := fun z h => hz z (by simp [h])
  have e1 : (n : Int) - 2 = (l.length : Int) := by omega
  have text : ∀ (W : World) (A' : Option Addr) (c' m : Nat) (ys : List Int), m = ys.length → Row W W.heap.size A' (u8s ys) → (convert 22 9 (.slice A' m c')).run Try.prog W = .ok (.string (strOfNums ys)) W := by
    intro W A' c' m ys hm h
    subst hm
    exact text_run W 22 5 Try.underlying22 Try.underlying5 9 Try.underlying9 _ A' ys c' h
  have T := Lib.hid text
  have hb0 := text w.drew (some ⟨b, off, none⟩) cap n _ hn hr
  have hcmp := sameB_text (closeB l) (l ++ [z0, z1]) (closeB_byte hzl') hz
  have HC := Lib.hid (closeB_eq l z0 z1 (hz _ (by simp)) (hz _ (by simp)))
  have HCM := Lib.hid hcmp
  have HN := Lib.hid hn
  have HN2 := Lib.hid hn2
  clear text hn hn2 hcmp
  go_enter Try.func27, Try.ntmps27
  go_wp2_with fail
  go_region_with (go_at_call 23; (refine (closeR_any _ _ l _ (by exact hrl) hzl' (by have := HN2.out; omega)).mono ?_); rintro e w' ⟨A', c', rfl, hr', hc', hB⟩; have t1 := T.out w' A' c' _ _ (closeB_length l).symm hr'; have t2 := T.out w' (some ⟨b, off, none⟩) cap n _ HN.out (hr.on ((below_drawn (Below.refl _ w) 1).trans hB)))
  all_goals
    have hB' : Below w.heap.size w w' := (below_drawn (Below.refl _ w) 1).trans hB
    have hcmp := HCM.out
    by_cases hs : valB (bitsOf [z0, z1]) = sumB l
    · have h0 := openE_good l z0 z1 hs
      have hsm : sameB (closeB l) (l ++ [z0, z1]) = true := by unfold sameB; simpa using HC.out.2 hs
      have H0 := Lib.hid h0
      have hlen : l.length ≤ 549755813888 := by have := HN2.out; omega
      clear h0 hs
      obtain ⟨g2, c2, w2, happ2, hown2, hB2⟩ := append_empty (some ⟨b, off, none⟩) cap l w' (hrl.on hB') (by omega)
      have HA2 := Lib.hid happ2
      clear happ2 t1 t2 hb0
      rw [hcmp, hsm]
      go_wp2_with (at_builtin; refine list_append rfl (.tmp 18) (.tmp 21) 22 rfl HA2.out ?_)
      go_ret2
      refine ⟨some ⟨g2, 0, none⟩, c2, ?_, ?_, by rw [openL_good l z0 z1 H0.out]; exact owns_cap hown2, hB'.trans (hB2.mono hB'.size)⟩
      · rw [openL_good l z0 z1 H0.out, H0.out]; rfl
      · rw [openL_good l z0 z1 H0.out]; exact owns_row hown2 (owns_lt hown2).2
    · have h0 := openE_wrong l z0 z1 hs
      have hsm : sameB (closeB l) (l ++ [z0, z1]) = false := by unfold sameB; simpa using fun e => hs (HC.out.1 e)
      have H0 := Lib.hid h0
      clear h0 hs
      rw [hcmp, hsm]
      go_wp2_with fail
      go_ret2
      refine ⟨none, 0, ?_, ?_, by rw [openL_none _ (by rw [H0.out]; decide)]; exact Nat.le_refl _, hB'⟩
      · rw [openL_none _ (by rw [H0.out]; decide), H0.out]; rfl
      · rw [openL_none _ (by rw [H0.out]; decide)]; exact Row.nil _ _ _

theorem openR_anyC (A : Option Addr) (cap : Nat) (zs : List Int) (w : World) (hr : Row w w.heap.size A (u8s zs)) (hz : ∀ z ∈ zs, IsByte z) (hzl : zs.length ≤ 549755813888) (hcap : zs.length ≤ cap) :
    Calls Try.prog 27 #[.slice A zs.length cap] w (OpenGivesC w zs) := by
  rcases Nat.lt_or_ge zs.length 2 with h | h
  · refine (openR_short A cap zs w h).mono ?_
    rintro e w' ⟨rfl, rfl⟩
    have h0 := openE_short zs h
    refine ⟨none, 0, ?_, ?_, by rw [openL_none zs (by rw [h0]; decide)]; exact Nat.le_refl _, Below.refl _ _⟩
    · rw [openL_none zs (by rw [h0]; decide), h0]; rfl
    · rw [openL_none zs (by rw [h0]; decide)]; exact Row.nil _ _ _
  · obtain ⟨l, z0, z1, rfl⟩ := last_two zs h
    obtain ⟨b, off, rfl, _, _⟩ := hr (by rw [u8s_length]; omega)
    exact openR_long b off cap _ l z0 z1 w hr hz (by omega) rfl hcap

theorem openR_any (A : Option Addr) (cap : Nat) (zs : List Int) (w : World) (hr : Row w w.heap.size A (u8s zs)) (hz : ∀ z ∈ zs, IsByte z) (hzl : zs.length ≤ 549755813888) (hcap : zs.length ≤ cap) :
    Calls Try.prog 27 #[.slice A zs.length cap] w (OpenGives w zs) :=
  (openR_anyC A cap zs w hr hz hzl hcap).mono fun _ _ h => h.gives
end Go.Proofs.Ytgpofgepffhcnaa
