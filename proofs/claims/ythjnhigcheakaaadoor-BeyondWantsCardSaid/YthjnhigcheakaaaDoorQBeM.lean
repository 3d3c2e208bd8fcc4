/- Masks of steps: of numbers, by package beyond, by the document's own answer. -/
import Derived.Test.YthjnhigcheakaaaDoorQBeP
namespace Go.Proofs.YthjnhigcheakaaaDoor
open Go.RowKit Go.Shelf
set_option linter.unusedVariables false
set_option linter.unusedSimpArgs false

def maskBit (s : Int) : Nat := if 0 ≤ s ∧ s < 24 then 2 ^ s.toNat else 0
def maskN (l : List (Int × Int × Int)) : Nat := l.foldl (fun m x => m ||| maskBit x.1) 0
theorem maskBit_lt (s : Int) : maskBit s < 2 ^ 24 := by
  unfold maskBit
  split
  · exact Nat.pow_lt_pow_right (by omega) (by omega)
  · decide
theorem fold_or (l : List (Int × Int × Int)) : ∀ m : Nat, l.foldl (fun m x => m ||| maskBit x.1) m = m ||| maskN l := by
  induction l with
  | nil => intro m; simp [maskN]
  | cons x l ih =>
    intro m
    unfold maskN
    rw [List.foldl_cons, List.foldl_cons, ih, ih, Nat.or_assoc, Nat.zero_or]
theorem maskN_append (a b : List (Int × Int × Int)) : maskN (a ++ b) = maskN a ||| maskN b := by
  unfold maskN
  rw [List.foldl_append, fold_or]
  rfl
theorem maskN_one (x : Int × Int × Int) : maskN [x] = maskBit x.1 := by simp [maskN]
theorem maskN_next {l : List (Int × Int × Int)} {j : Nat} {x : Int × Int × Int} (h : l[j]? = some x) : maskN (l.take (j + 1)) = maskN (l.take j) ||| maskBit x.1 := by
  rw [List.take_add_one, h, Option.toList_some, maskN_append, maskN_one]
theorem maskN_lt (l : List (Int × Int × Int)) : maskN l < 2 ^ 24 := by
  induction l with
  | nil => decide
  | cons x l ih =>
    rw [show x :: l = [x] ++ l from rfl, maskN_append, maskN_one]
    exact Nat.or_lt_two_pow (maskBit_lt _) ih
theorem or_u32 {m n : Nat} (hm : m < 2 ^ 24) (hn : n < 2 ^ 24) : bits BinOp.or IntKind.u32 (m : Int) (n : Int) = ((m ||| n : Nat) : Int) := by
  have hmn : m ||| n < 2 ^ 24 := Nat.or_lt_two_pow hm hn
  show IntKind.u32.wrap ((BitVec.ofInt 32 (m : Int) ||| BitVec.ofInt 32 (n : Int)).toNat : Int) = _
  rw [BitVec.ofInt_natCast, BitVec.ofInt_natCast, BitVec.toNat_or, BitVec.toNat_ofNat, BitVec.toNat_ofNat, Nat.mod_eq_of_lt (by omega), Nat.mod_eq_of_lt (by omega)]
  show ((m ||| n : Nat) : Int) % 4294967296 = _
  omega
theorem bit_in {s : Int} (h0 : 0 ≤ s) (h1 : s < 24) : maskBit s = 2 ^ s.toNat := if_pos ⟨h0, h1⟩
theorem bit_out {s : Int} (h : ¬ (0 ≤ s ∧ s < 24)) : maskBit s = 0 := if_neg h

set_option maxRecDepth 100000 in
set_option maxHeartbeats 8000000 in
theorem maskB_any {l : List (Int × Int × Int)} {A : Option Addr} (c : Nat) {w : World} (hR : Row w w.heap.size A (l.flatMap stpCells)) (hn : (l.length : Int) ≤ 9223372036854775807) {m : Nat} (hm : maskN l = m) : Calls Tryd.prog 24 #[.slice A l.length c] w fun e w' => e = .returned (.int .u32 m) ∧ Below w.heap.size w w' := by
  subst hm
  go_enter Tryd.func24, Tryd.ntmps24
  go_wp2_with fail
  go_loopw [3, 8] (fun v i wr => ∃ j : Nat, j ≤ l.length ∧ i = .int .i64 j ∧ v = .int .u32 (maskN (l.take j) : Nat) ∧ Below w.heap.size w wr) (fun _ i _ => l.length - (intOf i).toNat)
  case atStart => exact ⟨0, by omega, rfl, rfl, Below.refl _ _⟩
  case round =>
    obtain ⟨j, hj, rfl, rfl, hB⟩ := hrel
    by_cases hlt : j < l.length
    · have hlt' : (j : Int) < l.length := by omega
      obtain ⟨⟨x1, x2, x3⟩, hx⟩ : ∃ x, l[j]? = some x := ⟨_, List.getElem?_eq_getElem hlt⟩
      have HX := Lib.hid hx
      obtain ⟨b, off, rfl, _, hc0, hc⟩ := (hR.on hB).nth (n := 3) (fun _ => rfl) (by omega) hx
      have c0 := hc0 j _ _ hx rfl
      have c1 := hc j _ 1 _ hx rfl
      have c2 := hc j _ 2 _ hx rfl
      have HN := Lib.hid (maskN_next HX.out)
      have HML := Lib.hid (maskN_lt (l.take j))
      have HBL := Lib.hid (maskBit_lt x1)
      simp only at HN
      clear hx hc0 hc
      obtain ⟨m', HM'⟩ : ∃ m', Hid (maskN (l.take (j + 1)) = m') := ⟨_, Lib.hid rfl⟩
      rw [HM'.out] at HN
      generalize maskN (l.take j) = m at *
      by_cases h0 : 0 ≤ x1
      · by_cases h1 : x1 < 24
        · have HOR : Hid (bits BinOp.or IntKind.u32 (m : Int) ((2 : Int) ^ x1.toNat % 4294967296) = (m' : Int)) := Lib.hid (by
            have hbit : (2 : Int) ^ x1.toNat % 4294967296 = ((maskBit x1 : Nat) : Int) := by
              rw [bit_in h0 h1]
              have hl : (2 : Nat) ^ x1.toNat < 2 ^ 24 := Nat.pow_lt_pow_right (by omega) (by omega)
              rw [show ((2 : Int) ^ x1.toNat) = ((2 ^ x1.toNat : Nat) : Int) by simp]
              generalize (2 : Nat) ^ x1.toNat = z at *
              omega
            rw [hbit, or_u32 HML.out HBL.out, HN.out])
          clear HN HML HBL
          go_wp2_with fail
          go_roundw
          case rel => exact ⟨j + 1, hlt, by go_num, by rw [HM'.out, HOR.out], hB.alloc hB.size _⟩
          case measure => simp [intOf]; omega
        · have HE : Hid (m' = m) := Lib.hid (by rw [HN.out, bit_out (by omega), Nat.or_zero])
          obtain rfl := HE.out
          clear HN HE
          go_wp2_with fail
          go_roundw
          case rel => exact ⟨j + 1, hlt, by go_num, by rw [HM'.out], hB.alloc hB.size _⟩
          case measure => simp [intOf]; omega
      · have HE : Hid (m' = m) := Lib.hid (by rw [HN.out, bit_out (by omega), Nat.or_zero])
        obtain rfl := HE.out
        clear HN HE
        go_wp2_with fail
        go_roundw
        case rel => exact ⟨j + 1, hlt, by go_num, by rw [HM'.out], hB.alloc hB.size _⟩
        case measure => simp [intOf]; omega
    · obtain rfl : j = l.length := by omega
      have HE : Hid (maskN (l.take l.length) = maskN l) := Lib.hid (by rw [List.take_length])
      go_wp2_with fail
      go_ret
      exact ⟨by rw [← HE.out]; rfl, hB⟩

set_option maxRecDepth 100000 in
set_option maxHeartbeats 8000000 in
theorem maskR_any {l : List (Int × Int × Int)} {A : Option Addr} (c : Nat) {w : World} (hR : Row w w.heap.size A (l.flatMap stpCells)) (hn : (l.length : Int) ≤ 9223372036854775807) {m : Nat} (hm : maskN l = m) : Calls Tryd.prog 25 #[.slice A l.length c] w fun e w' => e = .returned (.int .u32 m) ∧ Below w.heap.size w w' := by
  subst hm
  go_enter Tryd.func25, Tryd.ntmps25
  go_wp2_with fail
  go_loopw [3, 4] (fun v i wr => ∃ j : Nat, j ≤ l.length ∧ i = .int .i64 j ∧ v = .int .u32 (maskN (l.take j) : Nat) ∧ Below w.heap.size w wr) (fun _ i _ => l.length - (intOf i).toNat)
  case atStart => exact ⟨0, by omega, rfl, rfl, Below.refl _ _⟩
  case round =>
    obtain ⟨j, hj, rfl, rfl, hB⟩ := hrel
    by_cases hlt : j < l.length
    · have hlt' : (j : Int) < l.length := by omega
      obtain ⟨⟨x1, x2, x3⟩, hx⟩ : ∃ x, l[j]? = some x := ⟨_, List.getElem?_eq_getElem hlt⟩
      have HX := Lib.hid hx
      obtain ⟨b, off, rfl, _, hc0, hc⟩ := (hR.on hB).nth (n := 3) (fun _ => rfl) (by omega) hx
      have c0 := hc0 j _ _ hx rfl
      have c1 := hc j _ 1 _ hx rfl
      have c2 := hc j _ 2 _ hx rfl
      have HN := Lib.hid (maskN_next HX.out)
      have HML := Lib.hid (maskN_lt (l.take j))
      have HBL := Lib.hid (maskBit_lt x1)
      simp only at HN
      clear hx hc0 hc
      obtain ⟨m', HM'⟩ : ∃ m', Hid (maskN (l.take (j + 1)) = m') := ⟨_, Lib.hid rfl⟩
      rw [HM'.out] at HN
      generalize maskN (l.take j) = m at *
      by_cases h0 : 0 ≤ x1
      · by_cases h1 : x1 < 24
        · have HOR : Hid (bits BinOp.or IntKind.u32 (m : Int) ((2 : Int) ^ x1.toNat % 4294967296) = (m' : Int)) := Lib.hid (by
            have hbit : (2 : Int) ^ x1.toNat % 4294967296 = ((maskBit x1 : Nat) : Int) := by
              rw [bit_in h0 h1]
              have hl : (2 : Nat) ^ x1.toNat < 2 ^ 24 := Nat.pow_lt_pow_right (by omega) (by omega)
              rw [show ((2 : Int) ^ x1.toNat) = ((2 ^ x1.toNat : Nat) : Int) by simp]
              generalize (2 : Nat) ^ x1.toNat = z at *
              omega
            rw [hbit, or_u32 HML.out HBL.out, HN.out])
          clear HN HML HBL
          go_wp2_with fail
          go_roundw
          case rel => exact ⟨j + 1, hlt, by go_num, by rw [HM'.out, HOR.out], hB⟩
          case measure => simp [intOf]; omega
        · have HE : Hid (m' = m) := Lib.hid (by rw [HN.out, bit_out (by omega), Nat.or_zero])
          obtain rfl := HE.out
          clear HN HE
          go_wp2_with fail
          go_roundw
          case rel => exact ⟨j + 1, hlt, by go_num, by rw [HM'.out], hB⟩
          case measure => simp [intOf]; omega
      · have HE : Hid (m' = m) := Lib.hid (by rw [HN.out, bit_out (by omega), Nat.or_zero])
        obtain rfl := HE.out
        clear HN HE
        go_wp2_with fail
        go_roundw
        case rel => exact ⟨j + 1, hlt, by go_num, by rw [HM'.out], hB⟩
        case measure => simp [intOf]; omega
    · obtain rfl : j = l.length := by omega
      have HE : Hid (maskN (l.take l.length) = maskN l) := Lib.hid (by rw [List.take_length])
      go_wp2_with fail
      go_ret
      exact ⟨by rw [← HE.out]; rfl, hB⟩

end Go.Proofs.YthjnhigcheakaaaDoor
