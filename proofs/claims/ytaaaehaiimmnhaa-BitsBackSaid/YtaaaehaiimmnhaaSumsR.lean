/- What the document's own functions put, flag, pad, take, copy: the same relations. -/
import Derived.Test.YtaaaehaiimmnhaaSums
namespace Go.Proofs.Ytaaaehaiimmnhaa
open Go.RowKit
set_option linter.unusedVariables false

theorem Hands.owned {w : World} {base g cap n : Nat} {zs : List Int} (h : w.ownsRow base 5 1 (.slice (some ⟨g, 0, none⟩) n cap) n (u8s zs)) (hb : ∀ z ∈ zs, IsByte z) : Hands w (some ⟨g, 0, none⟩) zs := ⟨owns_row h (owns_lt h).2, hb⟩

theorem putR_all (A : Option Addr) (cap : Nat) (zs : List Int) (N n k : Int) (w : World) (h : Given w A zs N) (hn : n ≤ 9223372036854775807) :
    Calls Try.prog 10 #[.agg #[.slice A zs.length cap, .int .i64 N], .int .i64 n, .int .i64 k] w (GrownPost (fitsB n k) zs N (fun _ => first (digit n k.toNat) k.toNat) w) := by
  cases hR : (rightB zs N && fitsB n k)
  · refine (putR_bad A cap zs N n k w h.row h.bytes h.len h.high h.low hn hR).mono ?_
    rintro e w' ⟨rfl, hB⟩
    exact ⟨none, 0, [], 0, 2, rfl, Hands.nil _, .inl ⟨hR, rfl, rfl, rfl⟩, hB⟩
  · simp only [Bool.and_eq_true] at hR
    obtain ⟨hR, hF⟩ := hR
    obtain ⟨l, ⟨rfl, hz⟩, hl, hlen⟩ := h.bits hR
    rw [hF]
    obtain ⟨j, rfl, hj, h0, h1⟩ := fits_nat hF
    subst hz
    rw [← hlen]
    refine (putR_ok A cap l n j w h.row (by omega) hj h0 h1 (right_pack l)).mono ?_
    rintro e w' ⟨v, rfl, ⟨g, c, rfl, ho⟩, hB⟩
    simp only [Int.toNat_natCast]
    exact ⟨_, _, pack (bytesFor (l ++ first (digit n j) j).length) (l ++ first (digit n j) j), _, 0, by rw [pack_length], Hands.owned ho (pack_byte _ _), .inr ⟨rfl, rfl, l, ⟨rfl, rfl⟩, ⟨rfl, rfl⟩⟩, hB⟩

theorem flagsR_all (A A' : Option Addr) (cap cap' : Nat) (zs : List Int) (N : Int) (fl : List Bool) (w : World) (h : Given w A zs N) (hr' : Row w w.heap.size A' (bools fl)) (hfl : fl.length ≤ 2000000) :
    Calls Try.prog 12 #[.agg #[.slice A zs.length cap, .int .i64 N], .slice A' fl.length cap'] w (GrownPost true zs N (fun _ => fl) w) := by
  cases hR : rightB zs N
  · refine (flagsR_bad A A' cap _ cap' zs N w h.row h.bytes h.len h.high h.low hR).mono ?_
    rintro e w' ⟨rfl, hB⟩
    exact ⟨none, 0, [], 0, 2, rfl, Hands.nil _, .inl ⟨by simp [hR], rfl, rfl, rfl⟩, hB⟩
  · obtain ⟨l, ⟨rfl, hz⟩, hl, hlen⟩ := h.bits hR
    subst hz
    rw [← hlen]
    refine (flagsR_ok A A' cap cap' l fl w h.row hr' (by omega) (by omega) (right_pack l)).mono ?_
    rintro e w' ⟨v, rfl, ⟨g, c, rfl, ho⟩, hB⟩
    exact ⟨_, _, pack (bytesFor (l ++ fl).length) (l ++ fl), _, 0, by rw [pack_length], Hands.owned ho (pack_byte _ _), .inr ⟨rfl, rfl, l, ⟨rfl, rfl⟩, ⟨rfl, rfl⟩⟩, hB⟩

/-- What lies in a block of the callee's own. -/
def NewAt (w : World) (A : Option Addr) : Prop := ∀ p, A = some p → w.heap.size ≤ p.block
def GrownNew (ok : Bool) (zs : List Int) (N : Int) (f : List Bool → List Bool) (w : World) (e : Ending) (w' : World) : Prop :=
  ∃ A cap ys M er, e = .returned (.tuple #[.agg #[.slice A ys.length cap, .int .i64 M], .int .i64 er]) ∧ Hands w' A ys ∧ NewAt w A ∧ Grown ok zs N f ys M er ∧ Below w.heap.size w w'
theorem pad_new (A : Option Addr) (cap : Nat) (zs : List Int) (N : Int) (w : World) (h : Given w A zs N) :
    Calls Try.prog 14 #[.agg #[.slice A zs.length cap, .int .i64 N]] w (GrownNew true zs N (fun l => List.replicate (padN l.length) false) w) := by
  cases hR : rightB zs N
  · refine (pad_bad A cap zs N w h.row h.bytes h.len h.high h.low hR).mono ?_
    rintro e w' ⟨rfl, hB⟩
    exact ⟨none, 0, [], 0, 2, rfl, Hands.nil _, by simp [NewAt], .inl ⟨by simp [hR], rfl, rfl, rfl⟩, hB⟩
  · obtain ⟨l, ⟨rfl, hz⟩, hl, hlen⟩ := h.bits hR
    subst hz
    rw [← hlen]
    refine (pad_ok A cap l w h.row (by omega) (right_pack l)).mono ?_
    rintro e w' ⟨g, rfl, hg, hW, hB⟩
    refine ⟨_, _, pack (bytesFor (l.length + padN l.length)) (l ++ List.replicate (padN l.length) false), _, 0, by rw [pack_length], Hands.pack hW, by rintro p ⟨rfl⟩; exact hg, .inr ⟨rfl, rfl, l, ⟨rfl, rfl⟩, ?_⟩, hB⟩
    exact ⟨by simp, by simp⟩
theorem padR_new (A : Option Addr) (cap : Nat) (zs : List Int) (N : Int) (w : World) (h : Given w A zs N) :
    Calls Try.prog 15 #[.agg #[.slice A zs.length cap, .int .i64 N]] w (GrownNew true zs N (fun l => List.replicate (padN l.length) false) w) := by
  cases hR : rightB zs N
  · refine (padR_bad A cap zs N w h.row h.bytes h.len h.high h.low hR).mono ?_
    rintro e w' ⟨rfl, hB⟩
    exact ⟨none, 0, [], 0, 2, rfl, Hands.nil _, by simp [NewAt], .inl ⟨by simp [hR], rfl, rfl, rfl⟩, hB⟩
  · obtain ⟨l, ⟨rfl, hz⟩, hl, hlen⟩ := h.bits hR
    subst hz
    rw [← hlen]
    refine (padR_ok A cap l w h.row (by omega) (right_pack l)).mono ?_
    rintro e w' ⟨v, rfl, ⟨g, c, rfl, ho⟩, hB⟩
    exact ⟨_, _, pack (bytesFor (l ++ List.replicate (padN l.length) false).length) (l ++ List.replicate (padN l.length) false), _, 0, by rw [pack_length], Hands.owned ho (pack_byte _ _), by rintro p ⟨rfl⟩; exact (owns_lt ho).1, .inr ⟨rfl, rfl, l, ⟨rfl, rfl⟩, ⟨rfl, rfl⟩⟩, hB⟩

theorem takeR_all (A : Option Addr) (cap : Nat) (zs : List Int) (N a k : Int) (w : World) (h : Given w A zs N) (ha1 : a ≤ 9223372036854775807) :
    Calls Try.prog 17 #[.agg #[.slice A zs.length cap, .int .i64 N], .int .i64 a, .int .i64 k] w (TakenPost zs N a k w) := by
  cases hR : (rightB zs N && wideB k && decide (0 ≤ a))
  · refine (takeR_bad A cap zs N a k w h.row h.bytes h.len h.high h.low hR).mono ?_
    rintro e w' ⟨rfl, hB⟩
    exact ⟨0, 2, rfl, .inl ⟨hR, rfl, rfl⟩, hB⟩
  · simp only [Bool.and_eq_true, decide_eq_true_eq] at hR
    obtain ⟨⟨hR, hW⟩, ha⟩ := hR
    obtain ⟨l, hA, hl, hlen⟩ := h.bits hR
    by_cases hs : N < a + k
    · refine (takeR_short A cap zs N a k w h.row h.bytes h.len h.high (by rw [hA.1]; omega) hR hW ha ha1 (by omega)).mono ?_
      rintro e w' ⟨rfl, hB⟩
      exact ⟨0, 40, rfl, .inr ⟨hW, ha, l, hA, .inl ⟨hs, rfl, rfl⟩⟩, hB⟩
    · obtain ⟨j, rfl, hj⟩ := wide_nat hW
      obtain ⟨i, rfl⟩ : ∃ i : Nat, a = i := ⟨a.toNat, by omega⟩
      have hA' := hA
      obtain ⟨rfl, hz⟩ := hA
      subst hz
      rw [← hlen]
      refine (takeR_ok A cap l i j w h.row (by omega) hj (by omega) (right_pack l)).mono ?_
      rintro e w' ⟨rfl, hB⟩
      exact ⟨_, 0, rfl, .inr ⟨hW, ha, l, hA', .inr ⟨by omega, by simp, rfl⟩⟩, hB⟩

/-- The same bits are told the same, and what is not, not. -/
theorem like (A A' : Option Addr) (c c' : Nat) (zs : List Int) (N : Int) (w : World) (h : Hands w A zs) (h' : Hands w A' zs) :
    Calls Try.prog 13 #[.agg #[.slice A zs.length c, .int .i64 N], .agg #[.slice A' zs.length c', .int .i64 N]] w fun e w' => e = .returned (.bool true) ∧ Below w.heap.size w w' := by
  have h := sameR_any A A' c c' zs zs N N w h.1 h'.1 h.2 h'.2
  simpa [sameB] using h
theorem likeB (A A' : Option Addr) (c c' : Nat) (zs zs' : List Int) (N N' : Int) (w : World) (h : Hands w A zs) (h' : Hands w A' zs') :
    Calls Try.prog 20 #[.agg #[.slice A zs.length c, .int .i64 N], .agg #[.slice A' zs'.length c', .int .i64 N']] w fun e w' => e = .returned (.bool (decide (N = N') && sameB zs zs')) ∧ Below w.heap.size w w' :=
  same_any A A' c c' zs zs' N N' w h.1 h'.1 h.2 h'.2
theorem likeR (A A' : Option Addr) (c c' : Nat) (zs zs' : List Int) (N N' : Int) (w : World) (h : Hands w A zs) (h' : Hands w A' zs') :
    Calls Try.prog 13 #[.agg #[.slice A zs.length c, .int .i64 N], .agg #[.slice A' zs'.length c', .int .i64 N']] w fun e w' => e = .returned (.bool (decide (N = N') && sameB zs zs')) ∧ Below w.heap.size w w' :=
  sameR_any A A' c c' zs zs' N N' w h.1 h'.1 h.2 h'.2
theorem rightR_given {w : World} {A : Option Addr} {zs : List Int} {N : Int} (h : Given w A zs N) (cap : Nat) : Calls Try.prog 19 #[.agg #[.slice A zs.length cap, .int .i64 N]] w fun e w' => e = .returned (.bool (rightB zs N)) ∧ Below w.heap.size w w' :=
  rightR_any A cap zs N w h.row h.bytes h.len h.high h.low
theorem own_given (A : Option Addr) (cap : Nat) (zs : List Int) (N : Int) (w : World) (h : Hands w A zs) (hl : zs.length ≤ 2000000) :
    Calls Try.prog 21 #[.agg #[.slice A zs.length cap, .int .i64 N]] w fun e w' => ∃ g, e = .returned (.agg #[.slice (some ⟨g, 0, none⟩) zs.length zs.length, .int .i64 N]) ∧ Hands w' (some ⟨g, 0, none⟩) zs ∧ Below w.heap.size w w' := by
  refine (own_any A cap zs N w h.1 (by omega)).mono ?_
  rintro e w' ⟨g, rfl, hg, hW, hB⟩
  exact ⟨g, rfl, ⟨hW.row hW.lt, h.2⟩, hB⟩
theorem of_given (A : Option Addr) (cap : Nat) (zs : List Int) (w : World) (h : Hands w A zs) (hl : zs.length ≤ 2000000) :
    Calls Try.prog 22 #[.slice A zs.length cap] w fun e w' => ∃ g, e = .returned (.agg #[.slice (some ⟨g, 0, none⟩) zs.length zs.length, .int .i64 (8 * (zs.length : Int))]) ∧ Hands w' (some ⟨g, 0, none⟩) zs ∧ Below w.heap.size w w' := by
  refine (of_any A cap zs w h.1 (by omega)).mono ?_
  rintro e w' ⟨g, rfl, hg, hW, hB⟩
  exact ⟨g, rfl, ⟨hW.row hW.lt, h.2⟩, hB⟩
theorem ofR_given (A : Option Addr) (cap : Nat) (zs : List Int) (w : World) (h : Hands w A zs) (hl : zs.length ≤ 2000000) :
    Calls Try.prog 23 #[.slice A zs.length cap] w fun e w' => ∃ g c, e = .returned (.agg #[.slice (some ⟨g, 0, none⟩) zs.length c, .int .i64 (8 * (zs.length : Int))]) ∧ Hands w' (some ⟨g, 0, none⟩) zs ∧ Below w.heap.size w w' := by
  refine (ofR_any A cap zs w h.1 (by omega)).mono ?_
  rintro e w' ⟨g, c, rfl, ho, hB⟩
  exact ⟨g, c, rfl, Hands.owned ho h.2, hB⟩

theorem Hands.far {w : World} {A : Option Addr} {ys : List Int} (h : Hands w A ys) {p : Addr} (hp : ∀ q, A = some q → q.block ≠ p.block) (u : Value) : Hands (w.setCell p u) A ys := by
  refine ⟨fun hpos => ?_, h.2⟩
  obtain ⟨b, off, e, hb, hc⟩ := h.1 hpos
  exact ⟨b, off, e, by simpa [World.setCell] using hb, fun j v hv => (World.cell?_setCell_other w p ⟨b, off + j, none⟩ u (fun hh => hp _ e (by rw [hh]))).trans (hc j v hv)⟩
theorem Var.new_at {w : World} {A : Option Addr} {ys : List Int} (h : Hands w A ys) (cap : Nat) (M : Int) (n : Nat) (hn : n = w.heap.size) : Var (w.alloc (.cells #[.slice A ys.length cap, .int .i64 M] 24)) n A cap ys M := by
  subst hn; exact Var.new h cap M
/-- A variable of bits is given other bits. -/
theorem Var.put {w : World} {b : Nat} {A A' : Option Addr} {cap cap' : Nat} {ys ys' : List Int} {M M' : Int} (h : Whole w b 24 [.slice A ys.length cap, .int .i64 M]) (h' : Hands w A' ys') (hA : ∀ q, A' = some q → b < q.block) :
    Var ((w.setCell ⟨b, 0, none⟩ (.slice A' ys'.length cap')).setCell ⟨b, 1, none⟩ (.int .i64 M')) b A' cap' ys' M' :=
  ⟨(h.set 0 _).set 1 _, (h'.far (fun q hq => by have := hA q hq; simp; omega) _).far (fun q hq => by have := hA q hq; simp; omega) _⟩
theorem Var.away {w : World} {b b' : Nat} {A : Option Addr} {cap : Nat} {ys : List Int} {M : Int} (h : Var w b A cap ys M) (hb : b ≠ b') (hA : ∀ q, A = some q → b' < q.block) (u u' : Value) :
    Var ((w.setCell ⟨b', 0, none⟩ u).setCell ⟨b', 1, none⟩ u') b A cap ys M :=
  ⟨(h.1.far (p := ⟨b', 0, none⟩) hb u).far (p := ⟨b', 1, none⟩) hb u', (h.2.far (fun q hq => by have := hA q hq; simp; omega) _).far (fun q hq => by have := hA q hq; simp; omega) _⟩
theorem below_put {B : Nat} {w0 w : World} {b : Nat} (h : Below B w0 w) (hb : B ≤ b) (u u' : Value) : Below B w0 ((w.setCell ⟨b, 0, none⟩ u).setCell ⟨b, 1, none⟩ u') := (h.setCell hb u).setCell hb u'
end Go.Proofs.Ytaaaehaiimmnhaa
