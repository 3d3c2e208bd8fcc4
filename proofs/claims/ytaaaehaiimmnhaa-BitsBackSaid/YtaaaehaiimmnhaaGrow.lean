/- What pairs put, one after another, and where each begins. -/
import Derived.Test.YtaaaehaiimmnhaaBitMath
namespace Go.Proofs.Ytaaaehaiimmnhaa
open Go.RowKit
set_option linter.unusedVariables false

/-- What one pair puts: nothing where it may not be. -/
def puts (p : Int × Int) : List Bool := if fitsB p.1 p.2 then first (digit p.1 p.2.toNat) p.2.toNat else []
/-- What all of them put. -/
def all_put (ps : List (Int × Int)) : List Bool := ps.flatMap puts
theorem all_put_take (ps : List (Int × Int)) (j : Nat) (p : Int × Int) (h : ps[j]? = some p) : all_put (ps.take (j + 1)) = all_put (ps.take j) ++ puts p := by
  unfold all_put
  rw [List.take_add_one, h]
  simp
theorem puts_length (p : Int × Int) : (puts p).length ≤ 32 := by
  unfold puts
  split
  · rename_i h
    obtain ⟨j, hj, hj', _⟩ := fits_nat h
    rw [first_length, hj]; simpa using hj'
  · simp
theorem all_put_length (ps : List (Int × Int)) : (all_put ps).length ≤ 32 * ps.length := by
  unfold all_put
  induction ps with
  | nil => simp
  | cons p ps ih => rw [List.flatMap_cons, List.length_append, List.length_cons]; have := puts_length p; omega
theorem all_put_split (ps : List (Int × Int)) (j : Nat) : ∃ r, all_put ps = all_put (ps.take j) ++ r := by
  refine ⟨all_put (ps.drop j), ?_⟩
  unfold all_put
  rw [← List.flatMap_append, List.take_append_drop]
/-- Where each begins. -/
def begins (l : List Bool) (ps : List (Int × Int)) (j : Nat) : List Int := first (fun i => ((l ++ all_put (ps.take i)).length : Int)) j
/-- What was put is there. -/
theorem put_is_there (l : List Bool) (ps : List (Int × Int)) (j : Nat) (p : Int × Int) (h : ps[j]? = some p) (hf : fitsB p.1 p.2 = true) :
    (l ++ all_put (ps.take j)).length + p.2.toNat ≤ (l ++ all_put ps).length ∧ numOf (bitsAt (l ++ all_put ps) (l ++ all_put (ps.take j)).length p.2.toNat) = p.1 := by
  obtain ⟨r, hr⟩ := all_put_split ps (j + 1)
  rw [all_put_take ps j p h] at hr
  have hp : puts p = first (digit p.1 p.2.toNat) p.2.toNat := by unfold puts; rw [if_pos hf]
  have hpl : (puts p).length = p.2.toNat := by rw [hp, first_length]
  obtain ⟨k, hk, hk', h0, h1⟩ := fits_nat hf
  have hall : l ++ all_put ps = ((l ++ all_put (ps.take j)) ++ puts p) ++ r := by rw [hr]; simp only [List.append_assoc]
  constructor
  · rw [hall]; simp only [List.length_append, hpl]; omega
  · rw [hall, bitsAt_in _ _ _ _ (by simp only [List.length_append, hpl]; omega)]
    have hb := bitsAt_behind (l ++ all_put (ps.take j)) (puts p)
    rw [hpl] at hb
    rw [hb, hp]
    exact numOf_digits p.1 _ h0 (by rw [hk]; simpa using h1)
theorem bit_stays (l : List Bool) (ps : List (Int × Int)) (j : Nat) (h : j < l.length) : (l ++ all_put ps)[j]?.getD false = l[j]?.getD false := by
  rw [List.getElem?_append_left h]

/-! ### Rows of the call's own, nil or not -/
def i64s (zs : List Int) : List Value := zs.map (.int .i64)
theorem owns_keep {w w' : World} {base e n : Nat} {v : Value} {xs : List Value} (h : w.ownsRow base e 1 v n xs) (hb : Below w.heap.size w w') : w'.ownsRow base e 1 v n xs := by
  refine ⟨h.1, ?_⟩
  rcases h.2 with h2 | ⟨g', cap', cur, hv, h3, h4, r⟩
  · exact .inl h2
  · exact .inr ⟨g', cap', cur, hv, h3, (hb.block g' (Array.getElem?_eq_some_iff.1 h4).1).trans h4, r⟩
theorem owns_aside {w : World} {base e n : Nat} {v : Value} {xs : List Value} (h : w.ownsRow base e 1 v n xs) {p : Addr} (hp : p.block < base) (u : Value) : (w.setCell p u).ownsRow base e 1 v n xs := by
  refine ⟨h.1, ?_⟩
  rcases h.2 with h2 | ⟨g', cap', cur, hv, h3, h4, r⟩
  · exact .inl h2
  · exact .inr ⟨g', cap', cur, hv, h3, (Below.heap_setCell w p u g' (by omega)).trans h4, r⟩
/-- Bits' bytes lie in no block of v's own. -/
def Apart (A : Option Addr) (ys : List Int) (v : Value) : Prop := 0 < ys.length → ∀ q g, A = some q → v.ownBlock = some g → q.block ≠ g
theorem Hands.grown {w w' : World} {A : Option Addr} {ys : List Int} {v : Value} (h : Hands w A ys) (hg : w.grownBy w' v.ownBlock) (hs : Apart A ys v) : Hands w' A ys := by
  refine ⟨fun hp => ?_, h.2⟩
  obtain ⟨b, off, e, hb, hc⟩ := h.1 hp
  rw [u8s_length] at hp
  have hne : some b ≠ v.ownBlock := fun hh => hs hp _ b e hh.symm rfl
  refine ⟨b, off, e, Nat.lt_of_lt_of_le hb hg.size, fun j u hu => ?_⟩
  exact (World.cell?_of_block (w := w) (hg.block b hb hne)).trans (hc j u hu)
theorem Apart.next {w : World} {A : Option Addr} {ys : List Int} {v v' : Value} (h : Hands w A ys) (hs : Apart A ys v) (hv : v'.ownBlock = v.ownBlock ∨ v'.ownBlock = some w.heap.size) : Apart A ys v' := by
  intro hp q g hq hg
  rcases hv with hv | hv
  · exact hs hp q g hq (hv ▸ hg)
  · obtain ⟨b, off, e, hb, _⟩ := h.1 (by rw [u8s_length]; exact hp)
    rw [hv] at hg
    cases hg
    rw [hq] at e
    cases e
    exact Nat.ne_of_lt hb

theorem info_int : (Try.prog.info? 3).map (fun i => (i.zero, i.size, i.bytes)) = some (some (.int .i64 0), 1, 8) := by kernel_rfl
/-- One number more. -/
theorem append_one (base n : Nat) (v : Value) (xs : List Value) (m : Int) (w : World) (a : Nat) (hown : w.ownsRow base 3 1 v n xs) (hc : w.cell? ⟨a, 0, none⟩ = some (.int .i64 m)) (hn : n ≤ 1000) (hbase : base ≤ w.heap.size) :
    ∃ v' w', (Builtin.append_ #[40, 40] 40 #[v, .slice (some ⟨a, 0, none⟩) 1 1]).run Try.prog w = .ok v' w' ∧ w'.ownsRow base 3 1 v' (n + 1) (xs ++ [.int .i64 m]) ∧ w.grownBy w' v.ownBlock ∧ (v'.ownBlock = v.ownBlock ∨ v'.ownBlock = some w.heap.size) := by
  obtain ⟨i, i1, i2, i3, i4⟩ := info_parts info_int
  obtain ⟨v', w', r1, r2, r3, r4, r5⟩ := run_append_own_at (P := Try.prog) w base 40 40 3 i (.int .i64 0) 1 8 Try.underlying40 i1 i2 i3 i4 rfl (by omega) v n xs hown ⟨a, 0, none⟩ 1 1 [.int .i64 m] rfl
    (by
      intro j u hu
      match j, hu with
      | 0, hu => simpa [Addr.add] using (by rw [hc]; exact hu)) (by simp [Value.oneCell']) (by unfold maxLen; omega) (by omega) hbase
  exact ⟨v', w', r1, r2, r3, r5⟩

/-- Put, and that what it hands over lies in a block of its own. -/
theorem put_new (A : Option Addr) (cap : Nat) (zs : List Int) (N n k : Int) (l : List Bool) (w : World) (h : Given w A zs N) (hA : Are zs N l) (hn : n ≤ 9223372036854775807) (hF : fitsB n k = true) :
    Calls Try.prog 9 #[.agg #[.slice A zs.length cap, .int .i64 N], .int .i64 n, .int .i64 k] w fun e w' =>
      ∃ g c ys M, e = .returned (.tuple #[.agg #[.slice (some ⟨g, 0, none⟩) ys.length c, .int .i64 M], .int .i64 0]) ∧ w.heap.size ≤ g ∧ g < w'.heap.size ∧ Hands w' (some ⟨g, 0, none⟩) ys ∧ Are ys M (l ++ puts (n, k)) ∧ Below w.heap.size w w' := by
  obtain ⟨l', hA', hl16, hlen⟩ := h.bits hA.right
  obtain rfl := hA'.inj hA
  obtain ⟨rfl, rfl⟩ := hA
  have hp : puts (n, k) = first (digit n k.toNat) k.toNat := by unfold puts; rw [if_pos hF]
  rw [hp]
  obtain ⟨j, rfl, hj, h0, h1⟩ := fits_nat hF
  rw [← hlen]
  refine (put_ok A cap l' n j w h.row (by omega) hj h0 h1 (right_pack l')).mono ?_
  rintro e w' ⟨g, rfl, hg, hW, hB⟩
  have hll : (l' ++ first (digit n j) j).length = l'.length + j := by simp [first_length]
  refine ⟨g, _, pack (bytesFor (l'.length + j)) (l' ++ first (digit n j) j), _, by rw [pack_length], hg, hW.lt, Hands.pack hW, ?_, hB⟩
  simp only [Int.toNat_natCast]
  exact ⟨by rw [hll]; omega, by rw [hll]⟩
theorem put_none (A : Option Addr) (cap : Nat) (zs : List Int) (N n k : Int) (w : World) (h : Given w A zs N) (hR : rightB zs N = true) (hn : n ≤ 9223372036854775807) (hF : fitsB n k = false) :
    Calls Try.prog 9 #[.agg #[.slice A zs.length cap, .int .i64 N], .int .i64 n, .int .i64 k] w fun e w' => e = .returned (.tuple #[.agg #[.slice none 0 0, .int .i64 0], .int .i64 2]) ∧ Below w.heap.size w w' :=
  put_bad2 A cap zs N n k w h.row h.bytes h.len h.high h.low hn hR hF
theorem Are.given {w : World} {A : Option Addr} {ys : List Int} {M : Int} {l : List Bool} (h : Hands w A ys) (ha : Are ys M l) (hl : l.length ≤ 15000000) : Given w A ys M := by
  obtain ⟨rfl, rfl⟩ := ha
  exact Given.of h (by rw [pack_length]; unfold bytesFor; omega) (by omega) (by omega)
theorem begins_succ (l : List Bool) (ps : List (Int × Int)) (j : Nat) : i64s (begins l ps (j + 1)) = i64s (begins l ps j) ++ [.int .i64 ((l ++ all_put (ps.take j)).length : Int)] := by
  unfold begins
  rw [first_succ]
  simp [i64s]
theorem own_ne {w : World} {base e n b : Nat} {v : Value} {xs : List Value} (h : w.ownsRow base e 1 v n xs) (hb : b < base ∨ w.heap.size ≤ b) : some b ≠ v.ownBlock := by
  intro hh
  have := h.lt b hh.symm
  omega
/-- What was put is taken. -/
theorem take_put (A : Option Addr) (cap : Nat) (zs : List Int) (N : Int) (l : List Bool) (ps : List (Int × Int)) (j : Nat) (p : Int × Int) (w : World) (h : Hands w A zs) (hA : Are zs N (l ++ all_put ps)) (hl : (l ++ all_put ps).length ≤ 16000000) (hj : ps[j]? = some p) (hf : fitsB p.1 p.2 = true) :
    Calls Try.prog 16 #[.agg #[.slice A zs.length cap, .int .i64 N], .int .i64 ((l ++ all_put (ps.take j)).length : Int), .int .i64 p.2] w fun e w' =>
      e = .returned (.tuple #[.int .i64 p.1, .int .i64 0]) ∧ Below w.heap.size w w' := by
  obtain ⟨rfl, rfl⟩ := hA
  have hlen : (pack (bytesFor (l ++ all_put ps).length) (l ++ all_put ps)).length = bytesFor (l ++ all_put ps).length := pack_length _ _
  have h1 := h.1
  obtain ⟨hin, hnum⟩ := put_is_there l ps j p hj hf
  obtain ⟨k, hk, hk', _, _⟩ := fits_nat hf
  rw [hk, Int.toNat_natCast] at hin hnum
  rw [hlen, hk]
  have h := take_ok A cap (l ++ all_put ps) (l ++ all_put (ps.take j)).length k w h1 (by omega) hk' hin (right_pack _)
  rw [hnum] at h
  exact h
end Go.Proofs.Ytaaaehaiimmnhaa
