/- What is put, flagged, padded, taken of any bits: told as a relation, for the program and for the document's own. What the document's own functions put, flag, pad, take, copy: the same relations. Numbers of bits: two parts side by side, a digit and back, one bit. -/
import Derived.Test.YtegflmaobmibnaaGreatDoorQBits8A
namespace Go.Proofs.YtegflmaobmibnaaGreatDoor
set_option maxRecDepth 100000
open Go.RowKit
set_option linter.unusedVariables false

/-- The bits l are these bytes, so many. -/
def Are (zs : List Int) (N : Int) (l : List Bool) : Prop := N = (l.length : Int) ∧ zs = pack (bytesFor l.length) l
theorem Are.inj {zs : List Int} {N : Int} {l m : List Bool} (h : Are zs N l) (h' : Are zs N m) : l = m := by
  obtain ⟨hN, rfl⟩ := h
  obtain ⟨hM, he⟩ := h'
  exact pack_inj l m (by omega) he
theorem Are.right {zs : List Int} {N : Int} {l : List Bool} (h : Are zs N l) : rightB zs N = true := by
  obtain ⟨rfl, rfl⟩ := h
  exact right_pack l
/-- Either it is refused, or l comes to lie behind what was there. -/
def Grown (ok : Bool) (zs : List Int) (N : Int) (f : List Bool → List Bool) (ys : List Int) (M er : Int) : Prop :=
  ((rightB zs N && ok) = false ∧ ys = [] ∧ M = 0 ∧ er = 2) ∨ (ok = true ∧ er = 0 ∧ ∃ l, Are zs N l ∧ Are ys M (l ++ f l))
/-- What is taken. -/
def Taken (zs : List Int) (N a k m er : Int) : Prop :=
  ((rightB zs N && wideB k && decide (0 ≤ a)) = false ∧ m = 0 ∧ er = 2) ∨
  (wideB k = true ∧ 0 ≤ a ∧ ∃ l, Are zs N l ∧ ((N < a + k ∧ m = 0 ∧ er = 40) ∨ (a + k ≤ N ∧ m = numOf (bitsAt l a.toNat k.toNat) ∧ er = 0)))
/-- Bits that a callee hands over: where their bytes lie, and that they are bytes. -/
def Hands (w : World) (A : Option Addr) (ys : List Int) : Prop := Row w w.heap.size A (u8s ys) ∧ ∀ z ∈ ys, IsByte z
theorem Hands.on {w w' : World} {A : Option Addr} {ys : List Int} (h : Hands w A ys) (hb : Below w.heap.size w w') : Hands w' A ys := ⟨h.1.on hb, h.2⟩
theorem Hands.nil (w : World) : Hands w none [] := ⟨Row.nil _ _ _, by simp⟩
theorem Hands.pack {w : World} {g n : Nat} {l : List Bool} (h : Whole w g 5 (u8s (pack n l))) : Hands w (some ⟨g, 0, none⟩) (pack n l) := ⟨h.row h.lt, pack_byte n l⟩

theorem wide_nat {k : Int} (h : wideB k = true) : ∃ j : Nat, k = j ∧ j ≤ 32 := by
  unfold wideB at h
  simp at h
  exact ⟨k.toNat, by omega, by omega⟩
theorem fits_nat {n k : Int} (h : fitsB n k = true) : ∃ j : Nat, k = j ∧ j ≤ 32 ∧ 0 ≤ n ∧ n < 2 ^ j := by
  unfold fitsB at h
  simp only [Bool.and_eq_true, decide_eq_true_eq] at h
  obtain ⟨j, rfl, hj⟩ := wide_nat h.1.1
  exact ⟨j, rfl, hj, h.1.2, by simpa using h.2⟩

/-- Bits that are handed to a callee: what the walks need to know of them. -/
structure Given (w : World) (A : Option Addr) (zs : List Int) (N : Int) : Prop where
  row : Row w w.heap.size A (u8s zs)
  bytes : ∀ z ∈ zs, IsByte z
  few : zs.length ≤ 2000000
  low : -9223372036854775808 ≤ N
  high : N ≤ 9223372036854775807
theorem Given.on {w w' : World} {A : Option Addr} {zs : List Int} {N : Int} (h : Given w A zs N) (hb : Below w.heap.size w w') : Given w' A zs N := ⟨h.row.on hb, h.bytes, h.few, h.low, h.high⟩
theorem Given.len {w : World} {A : Option Addr} {zs : List Int} {N : Int} (h : Given w A zs N) : zs.length ≤ maxLen := Nat.le_trans h.few (by decide)
theorem Given.bits {w : World} {A : Option Addr} {zs : List Int} {N : Int} (h : Given w A zs N) (hr : rightB zs N = true) : ∃ l : List Bool, Are zs N l ∧ l.length ≤ 16000000 ∧ bytesFor l.length = zs.length := by
  obtain ⟨l, rfl, rfl⟩ := right_unpack zs N h.bytes hr
  have hf := h.few
  rw [pack_length] at hf
  exact ⟨l, ⟨rfl, rfl⟩, by unfold bytesFor at hf; omega, (pack_length _ _).symm⟩

def TakenPost (zs : List Int) (N a k : Int) (w : World) (e : Ending) (w' : World) : Prop :=
  ∃ m er, e = .returned (.tuple #[.int .i64 m, .int .i64 er]) ∧ Taken zs N a k m er ∧ Below w.heap.size w w'

theorem take_all (A : Option Addr) (cap : Nat) (zs : List Int) (N a k : Int) (w : World) (h : Given w A zs N) :
    Calls Tryz.prog 111 #[.agg #[.slice A zs.length cap, .int .i64 N], .int .i64 a, .int .i64 k] w (TakenPost zs N a k w) := by
  cases hR : (rightB zs N && wideB k && decide (0 ≤ a))
  · refine (take_bad A cap zs N a k w h.row h.bytes h.len h.high h.low hR).mono ?_
    rintro e w' ⟨rfl, hB⟩
    exact ⟨0, 2, rfl, .inl ⟨hR, rfl, rfl⟩, hB⟩
  · simp only [Bool.and_eq_true, decide_eq_true_eq] at hR
    obtain ⟨⟨hR, hW⟩, ha⟩ := hR
    obtain ⟨l, hA, hl, hlen⟩ := h.bits hR
    by_cases hs : N < a + k
    · refine (take_short A cap zs N a k w h.row h.bytes h.len h.high (by rw [hA.1]; omega) hR hW ha (by omega)).mono ?_
      rintro e w' ⟨rfl, hB⟩
      exact ⟨0, 40, rfl, .inr ⟨hW, ha, l, hA, .inl ⟨hs, rfl, rfl⟩⟩, hB⟩
    · obtain ⟨j, rfl, hj⟩ := wide_nat hW
      obtain ⟨i, rfl⟩ : ∃ i : Nat, a = i := ⟨a.toNat, by omega⟩
      have hA' := hA
      obtain ⟨rfl, hz⟩ := hA
      subst hz
      rw [← hlen]
      refine (take_ok A cap l i j w h.row (by omega) hj (by omega) (right_pack l)).mono ?_
      rintro e w' ⟨rfl, hB⟩
      exact ⟨_, 0, rfl, .inr ⟨hW, ha, l, hA', .inr ⟨by omega, by simp, rfl⟩⟩, hB⟩

theorem Grown.few {ok : Bool} {zs ys : List Int} {N M er : Int} {f : List Bool → List Bool} (h : Grown ok zs N f ys M er) (c d : Nat) (hc : zs.length ≤ c) (hd : ok = true → ∀ l, (f l).length ≤ d) : 0 ≤ M ∧ M ≤ 8 * c + d ∧ ys.length ≤ c + d := by
  rcases h with ⟨hb, rfl, rfl, rfl⟩ | ⟨ho, rfl, l, ⟨_, rfl⟩, ⟨rfl, rfl⟩⟩
  · exact ⟨by omega, by omega, by simp⟩
  · have hd := hd ho l
    rw [pack_length] at hc ⊢
    unfold bytesFor at hc ⊢
    rw [List.length_append]
    exact ⟨by omega, by omega, by omega⟩
theorem Grown.lies {zs ys : List Int} {N M er : Int} {f : List Bool → List Bool} {l : List Bool} (h : Grown true zs N f ys M er) (hl : Are zs N l) : er = 0 ∧ Are ys M (l ++ f l) := by
  rcases h with ⟨hb, rfl, rfl, rfl⟩ | ⟨ho, rfl, l', hl', ha⟩
  · simp [hl.right] at hb
  · obtain rfl := hl.inj hl'
    exact ⟨rfl, ha⟩
theorem Grown.told {ok : Bool} {zs ys : List Int} {N M er : Int} {f : List Bool → List Bool} (h : Grown ok zs N f ys M er) : er = 2 ∨ (er = 0 ∧ rightB ys M = true) := by
  rcases h with ⟨hb, rfl, rfl, rfl⟩ | ⟨ho, rfl, l, hl, ha⟩
  · exact .inl rfl
  · exact .inr ⟨rfl, ha.right⟩
theorem wrap_id (x : Int) (h0 : -9223372036854775808 ≤ x) (h1 : x ≤ 9223372036854775807) : IntKind.i64.wrap x = x := IntWalk.i64_in _ ⟨h0, h1⟩
theorem Given.of {w : World} {A : Option Addr} {ys : List Int} {M : Int} (h : Hands w A ys) (hy : ys.length ≤ 2000000) (h0 : 0 ≤ M) (h1 : M ≤ 16000000) : Given w A ys M := ⟨h.1, h.2, hy, by omega, by omega⟩
/-- Variable b holds these bits. -/
def Var (w : World) (b : Nat) (A : Option Addr) (cap : Nat) (ys : List Int) (M : Int) : Prop := Whole w b 54 [.slice A ys.length cap, .int .i64 M] ∧ Hands w A ys
theorem Var.on {w w' : World} {b : Nat} {A : Option Addr} {cap : Nat} {ys : List Int} {M : Int} (h : Var w b A cap ys M) (hb : Below w.heap.size w w') : Var w' b A cap ys M := ⟨h.1.below hb h.1.lt, h.2.on hb⟩
theorem Var.new {w : World} {A : Option Addr} {ys : List Int} (h : Hands w A ys) (cap : Nat) (M : Int) : Var (w.alloc (.cells #[.slice A ys.length cap, .int .i64 M] 54)) w.heap.size A cap ys M := ⟨Whole.new w _ [_, _], h.on ((Below.refl _ w).alloc (Nat.le_refl _) _)⟩
end Go.Proofs.YtegflmaobmibnaaGreatDoor

namespace Go.Proofs.YtegflmaobmibnaaGreatDoor
set_option maxRecDepth 100000
open Go.RowKit
set_option linter.unusedVariables false

theorem Hands.owned {w : World} {base g cap n : Nat} {zs : List Int} (h : w.ownsRow base 5 1 (.slice (some ⟨g, 0, none⟩) n cap) n (u8s zs)) (hb : ∀ z ∈ zs, IsByte z) : Hands w (some ⟨g, 0, none⟩) zs := ⟨owns_row h (owns_lt h).2, hb⟩

/-- What lies in a block of the callee's own. -/
def NewAt (w : World) (A : Option Addr) : Prop := ∀ p, A = some p → w.heap.size ≤ p.block
def GrownNew (ok : Bool) (zs : List Int) (N : Int) (f : List Bool → List Bool) (w : World) (e : Ending) (w' : World) : Prop :=
  ∃ A cap ys M er, e = .returned (.tuple #[.agg #[.slice A ys.length cap, .int .i64 M], .int .i64 er]) ∧ Hands w' A ys ∧ NewAt w A ∧ Grown ok zs N f ys M er ∧ Below w.heap.size w w'
theorem pad_new (A : Option Addr) (cap : Nat) (zs : List Int) (N : Int) (w : World) (h : Given w A zs N) :
    Calls Tryz.prog 26 #[.agg #[.slice A zs.length cap, .int .i64 N]] w (GrownNew true zs N (fun l => List.replicate (padN l.length) false) w) := by
  cases hR : rightB zs N
  · refine (pad_bad A cap zs N w h.row h.bytes h.len h.high h.low hR).mono ?_
    rintro e w' ⟨rfl, hB⟩
    exact ⟨none, 0, [], 0, 2, rfl, Hands.nil _, by simp [NewAt], .inl ⟨by simp [hR], rfl, rfl, rfl⟩, hB⟩
  · obtain ⟨l, ⟨rfl, hz⟩, hl, hlen⟩ := h.bits hR
    subst hz
    rw [← hlen]
    refine (pad_ok A cap l w h.row (by omega) (right_pack l)).mono ?_
    rintro e w' ⟨g, rfl, hg, hW, hB⟩
    refine ⟨_, _, pack (bytesFor (l.length + padN l.length)) (l ++ List.replicate (padN l.length) false), _, 0, by rw [pack_length], Hands.pack hW, by rintro p ⟨rfl⟩; exact hg, .inr ⟨rfl, rfl, l, ⟨rfl, rfl⟩, ?_⟩, hB⟩
    exact ⟨by simp, by simp⟩
theorem padR_new (A : Option Addr) (cap : Nat) (zs : List Int) (N : Int) (w : World) (h : Given w A zs N) :
    Calls Tryz.prog 30 #[.agg #[.slice A zs.length cap, .int .i64 N]] w (GrownNew true zs N (fun l => List.replicate (padN l.length) false) w) := by
  cases hR : rightB zs N
  · refine (padR_bad A cap zs N w h.row h.bytes h.len h.high h.low hR).mono ?_
    rintro e w' ⟨rfl, hB⟩
    exact ⟨none, 0, [], 0, 2, rfl, Hands.nil _, by simp [NewAt], .inl ⟨by simp [hR], rfl, rfl, rfl⟩, hB⟩
  · obtain ⟨l, ⟨rfl, hz⟩, hl, hlen⟩ := h.bits hR
    subst hz
    rw [← hlen]
    refine (padR_ok A cap l w h.row (by omega) (right_pack l)).mono ?_
    rintro e w' ⟨v, rfl, ⟨g, c, rfl, ho⟩, hB⟩
    exact ⟨_, _, pack (bytesFor (l ++ List.replicate (padN l.length) false).length) (l ++ List.replicate (padN l.length) false), _, 0, by rw [pack_length], Hands.owned ho (pack_byte _ _), by rintro p ⟨rfl⟩; exact (owns_lt ho).1, .inr ⟨rfl, rfl, l, ⟨rfl, rfl⟩, ⟨rfl, rfl⟩⟩, hB⟩

theorem takeR_all (A : Option Addr) (cap : Nat) (zs : List Int) (N a k : Int) (w : World) (h : Given w A zs N) (ha1 : a ≤ 9223372036854775807) :
    Calls Tryz.prog 112 #[.agg #[.slice A zs.length cap, .int .i64 N], .int .i64 a, .int .i64 k] w (TakenPost zs N a k w) := by
  cases hR : (rightB zs N && wideB k && decide (0 ≤ a))
  · refine (takeR_bad A cap zs N a k w h.row h.bytes h.len h.high h.low hR).mono ?_
    rintro e w' ⟨rfl, hB⟩
    exact ⟨0, 2, rfl, .inl ⟨hR, rfl, rfl⟩, hB⟩
  · simp only [Bool.and_eq_true, decide_eq_true_eq] at hR
    obtain ⟨⟨hR, hW⟩, ha⟩ := hR
    obtain ⟨l, hA, hl, hlen⟩ := h.bits hR
    by_cases hs : N < a + k
    · refine (takeR_short A cap zs N a k w h.row h.bytes h.len h.high (by rw [hA.1]; omega) hR hW ha ha1 (by omega)).mono ?_
      rintro e w' ⟨rfl, hB⟩
      exact ⟨0, 40, rfl, .inr ⟨hW, ha, l, hA, .inl ⟨hs, rfl, rfl⟩⟩, hB⟩
    · obtain ⟨j, rfl, hj⟩ := wide_nat hW
      obtain ⟨i, rfl⟩ : ∃ i : Nat, a = i := ⟨a.toNat, by omega⟩
      have hA' := hA
      obtain ⟨rfl, hz⟩ := hA
      subst hz
      rw [← hlen]
      refine (takeR_ok A cap l i j w h.row (by omega) hj (by omega) (right_pack l)).mono ?_
      rintro e w' ⟨rfl, hB⟩
      exact ⟨_, 0, rfl, .inr ⟨hW, ha, l, hA', .inr ⟨by omega, by simp, rfl⟩⟩, hB⟩

theorem Hands.far {w : World} {A : Option Addr} {ys : List Int} (h : Hands w A ys) {p : Addr} (hp : ∀ q, A = some q → q.block ≠ p.block) (u : Value) : Hands (w.setCell p u) A ys := by
  refine ⟨fun hpos => ?_, h.2⟩
  obtain ⟨b, off, e, hb, hc⟩ := h.1 hpos
  exact ⟨b, off, e, by simpa [World.setCell] using hb, fun j v hv => (World.cell?_setCell_other w p ⟨b, off + j, none⟩ u (fun hh => hp _ e (by rw [hh]))).trans (hc j v hv)⟩
theorem Var.new_at {w : World} {A : Option Addr} {ys : List Int} (h : Hands w A ys) (cap : Nat) (M : Int) (n : Nat) (hn : n = w.heap.size) : Var (w.alloc (.cells #[.slice A ys.length cap, .int .i64 M] 54)) n A cap ys M := by
  subst hn; exact Var.new h cap M
/-- A variable of bits is given other bits. -/
theorem Var.put {w : World} {b : Nat} {A A' : Option Addr} {cap cap' : Nat} {ys ys' : List Int} {M M' : Int} (h : Whole w b 54 [.slice A ys.length cap, .int .i64 M]) (h' : Hands w A' ys') (hA : ∀ q, A' = some q → b < q.block) :
    Var ((w.setCell ⟨b, 0, none⟩ (.slice A' ys'.length cap')).setCell ⟨b, 1, none⟩ (.int .i64 M')) b A' cap' ys' M' :=
  ⟨(h.set 0 _).set 1 _, (h'.far (fun q hq => by have := hA q hq; simp; omega) _).far (fun q hq => by have := hA q hq; simp; omega) _⟩
end Go.Proofs.YtegflmaobmibnaaGreatDoor

namespace Go.Proofs.YtegflmaobmibnaaGreatDoor
set_option maxRecDepth 100000
open Go.RowKit
set_option linter.unusedVariables false

theorem numOf_lt (l : List Bool) (a k : Nat) : 0 ≤ numOf (bitsAt l a k) ∧ numOf (bitsAt l a k) < 2 ^ k := by
  have := numOf_bd (bitsAt l a k)
  rwa [bitsAt_length] at this

/-- A number's digits tell it. -/
theorem numOf_digits (n : Int) : ∀ k : Nat, 0 ≤ n → n < 2 ^ k → numOf (first (digit n k) k) = n := by
  have gen : ∀ (k : Nat) (j : Nat), j ≤ k → 0 ≤ n → n < 2 ^ k → numOf (first (digit n k) j) = n / 2 ^ (k - j) := by
    intro k j
    induction j with
    | zero =>
      intro _ h0 h1
      simp only [first, List.range_zero, List.map_nil, Nat.sub_zero]
      exact (Int.ediv_eq_zero_of_lt h0 h1).symm
    | succ j ih =>
      intro hj h0 h1
      rw [first_succ, numOf_snoc, ih (by omega) h0 h1]
      have hk : k - j = (k - (j + 1)) + 1 := by omega
      have hd : n / 2 ^ (k - j) = n / 2 ^ (k - (j + 1)) / 2 := by
        rw [hk, Int.pow_succ, Int.ediv_ediv_of_nonneg (Int.le_of_lt (Int.pow_pos (by omega)))]
      rw [hd]
      unfold digit
      rw [show k - 1 - j = k - (j + 1) by omega]
      by_cases hb : n / 2 ^ (k - (j + 1)) % 2 = 1
      · simp [hb]; omega
      · simp [hb]; omega
  intro k h0 h1
  rw [gen k k (Nat.le_refl k) h0 h1]
  simp
theorem bitsAt_in (l m : List Bool) (a k : Nat) (h : a + k ≤ l.length) : bitsAt (l ++ m) a k = bitsAt l a k := by
  unfold bitsAt first
  apply List.map_congr_left
  intro i hi
  rw [List.mem_range] at hi
  rw [List.getElem?_append_left (by omega)]
theorem bitsAt_behind (l m : List Bool) : bitsAt (l ++ m) l.length m.length = m := by
  unfold bitsAt
  have : (fun j => (l ++ m)[l.length + j]?.getD false) = fun j => m[j]?.getD false := by
    funext j
    rw [List.getElem?_append_right (by omega)]
    simp
  rw [this]
  exact first_get m
end Go.Proofs.YtegflmaobmibnaaGreatDoor
