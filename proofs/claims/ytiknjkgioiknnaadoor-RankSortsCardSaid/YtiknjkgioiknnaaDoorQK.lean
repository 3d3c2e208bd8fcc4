/- Which path is ahead, in numbers: a path's row; rows compared; two unlike paths from one port (pure). As XMix, where at several places two operations may come, either first, and what they leave is the same: one way. -/
import Derived.Test.YtiknjkgioiknnaaDoorQF
import Derived.Test.YtiknjkgioiknnaaDoorQJ
import Derived.Test.YtiknjkgioiknnaaDoorQG
namespace Go.Proofs.YtiknjkgioiknnaaDoor
open Go.RowKit Go.Shelf
set_option linter.unusedVariables false
set_option linter.unusedSimpArgs false

/-- The greatest class of steps, 0 at least. -/
def topV (l : Lay) (ss : List (Int × Int × Int)) : Int := ss.foldl (fun t s => max t (classV l s.1 s.2.1 s.2.2)) 0
theorem top_snoc (l : Lay) (ss : List (Int × Int × Int)) (s : Int × Int × Int) : topV l (ss ++ [s]) = max (topV l ss) (classV l s.1 s.2.1 s.2.2) := by unfold topV; rw [List.foldl_append]; rfl
/-- The position of a step's point, if it has one. -/
def posOf (l : Lay) (s : Int × Int × Int) : List Int := if (pointV l s.1 s.2.1 s.2.2).2.2 = true then [(pointV l s.1 s.2.1 s.2.2).2.1] else []
def posL (l : Lay) (ss : List (Int × Int × Int)) : List Int := ss.flatMap (posOf l)
/-- A path's row. -/
def rowV (l : Lay) (ss : List (Int × Int × Int)) : List Int := topV l ss :: (ss.length : Int) :: posL l ss
theorem pos_le (l : Lay) (s : Int × Int × Int) : (posOf l s).length ≤ 1 := by unfold posOf; split <;> simp
theorem posL_le (l : Lay) : ∀ ss : List (Int × Int × Int), (posL l ss).length ≤ ss.length
  | [] => by simp [posL]
  | x :: r => by
    have h1 := pos_le l x
    have h2 := posL_le l r
    unfold posL at h2 ⊢
    rw [List.flatMap_cons, List.length_append, List.length_cons]
    omega
theorem row_len (l : Lay) (ss : List (Int × Int × Int)) : (rowV l ss).length ≤ ss.length + 2 := by
  have := posL_le l ss
  unfold rowV
  simp
  omega

/-- Two rows compared. -/
def cmpR : List Int → List Int → Int
  | [], [] => 0
  | [], _ :: _ => -1
  | _ :: _, [] => 1
  | x :: xs, y :: ys => if x < y then -1 else if y < x then 1 else cmpR xs ys
theorem cmpR_self : ∀ xs, cmpR xs xs = 0
  | [] => rfl
  | x :: xs => by unfold cmpR; rw [if_neg (by omega), if_neg (by omega)]; exact cmpR_self xs
theorem cmpR_zero : ∀ xs ys, cmpR xs ys = 0 → xs = ys
  | [], [], _ => rfl
  | [], _ :: _, h => by simp [cmpR] at h
  | _ :: _, [], h => by simp [cmpR] at h
  | x :: xs, y :: ys, h => by
    unfold cmpR at h
    split at h
    · cases h
    · split at h
      · cases h
      · rw [cmpR_zero xs ys h, show x = y by omega]
theorem cmpR_neg : ∀ xs ys, cmpR ys xs = -cmpR xs ys
  | [], [] => rfl
  | [], _ :: _ => rfl
  | _ :: _, [] => rfl
  | x :: xs, y :: ys => by
    unfold cmpR
    by_cases h1 : x < y
    · rw [if_pos h1, if_neg (by omega), if_pos h1]; rfl
    · by_cases h2 : y < x
      · rw [if_pos h2, if_neg h1, if_pos h2]
      · rw [if_neg h1, if_neg h2, if_neg h2, if_neg h1]; exact cmpR_neg xs ys
theorem cmpR_trans : ∀ xs ys zs, cmpR xs ys < 0 → cmpR ys zs < 0 → cmpR xs zs < 0
  | [], [], _, h, _ => by simp [cmpR] at h
  | [], _ :: _, [], _, k => by simp [cmpR] at k
  | [], _ :: _, _ :: _, _, _ => by simp [cmpR]
  | _ :: _, [], _, h, _ => by simp [cmpR] at h
  | _ :: _, _ :: _, [], _, k => by simp [cmpR] at k
  | x :: xs, y :: ys, z :: zs, h, k => by
    unfold cmpR at h k ⊢
    by_cases h1 : x < z
    · rw [if_pos h1]; omega
    · by_cases h2 : x < y
      · rw [if_neg (by omega), if_pos (by omega)] at k; omega
      · rw [if_neg h2] at h
        by_cases h3 : y < x
        · rw [if_pos h3] at h; omega
        · rw [if_neg h3] at h
          by_cases h4 : y < z
          · omega
          · rw [if_neg h4] at k
            by_cases h5 : z < y
            · rw [if_pos h5] at k; omega
            · rw [if_neg h5] at k
              rw [if_neg h1, if_neg (by omega)]
              exact cmpR_trans xs ys zs h k
theorem cmpR_ntrans (xs ys zs : List Int) (h : ¬ cmpR xs ys < 0) (k : ¬ cmpR ys zs < 0) : ¬ cmpR xs zs < 0 := by
  intro hn
  have h1 := cmpR_neg xs ys
  have h2 := cmpR_neg ys zs
  have h3 := cmpR_neg xs zs
  by_cases e1 : cmpR xs ys = 0
  · rw [cmpR_zero _ _ e1] at hn; exact k hn
  · by_cases e2 : cmpR ys zs = 0
    · rw [← cmpR_zero _ _ e2] at hn; exact h hn
    · have := cmpR_trans zs ys xs (by omega) (by omega)
      omega
/-- What two places' rows tell. -/
def cvOf (rs : List (List Int)) (x y : Nat) : Int := cmpR (rs[x]?.getD []) (rs[y]?.getD [])
/-- Behind k numbers that are the same. -/
theorem cmpR_drop {xs ys : List Int} {k : Nat} {a b : Int} (ha : xs[k]? = some a) (hb : ys[k]? = some b) (he : xs.take k = ys.take k) : cmpR xs ys = if a < b then -1 else if b < a then 1 else cmpR (xs.drop (k + 1)) (ys.drop (k + 1)) := by
  induction k generalizing xs ys with
  | zero =>
    cases xs with
    | nil => cases ha
    | cons x xs =>
      cases ys with
      | nil => cases hb
      | cons y ys => simp at ha hb; subst ha hb; rfl
  | succ k ih =>
    cases xs with
    | nil => simp at ha
    | cons x xs =>
      cases ys with
      | nil => simp at hb
      | cons y ys =>
        simp at ha hb he
        obtain ⟨rfl, he⟩ := he
        have := ih ha hb he
        show (if x < x then -1 else if x < x then 1 else cmpR xs ys) = _
        rw [if_neg (by omega), if_neg (by omega), this]
        rfl
theorem cmpR_end {xs ys : List Int} {k : Nat} (he : xs.take k = ys.take k) (hx : k ≤ xs.length) (hy : k ≤ ys.length) (h : k = xs.length ∨ k = ys.length) : cmpR xs ys = if xs.length < ys.length then -1 else if ys.length < xs.length then 1 else 0 := by
  induction k generalizing xs ys with
  | zero =>
    cases xs with
    | nil =>
      cases ys with
      | nil => rfl
      | cons y ys => rfl
    | cons x xs =>
      cases ys with
      | nil => rfl
      | cons y ys => simp at h
  | succ k ih =>
    cases xs with
    | nil => simp at hx
    | cons x xs =>
      cases ys with
      | nil => simp at hy
      | cons y ys =>
        simp at he hx hy h
        obtain ⟨rfl, he⟩ := he
        have := ih he hx hy h
        show (if x < x then -1 else if x < x then 1 else cmpR xs ys) = _
        rw [if_neg (by omega), if_neg (by omega), this]
        simp
theorem ord_rows (rs : List (List Int)) : Ord12 (fun x y => decide (cvOf rs x y < 0)) :=
  ⟨fun x => by simp [cvOf, cmpR_self], fun x y z h k => by simp only [decide_eq_true_eq] at h k ⊢; exact cmpR_trans _ _ _ h k, fun x y z h k => by simp only [decide_eq_false_iff_not] at h k ⊢; exact cmpR_ntrans _ _ _ h k⟩

/-- From a toe: the way is told by the port. -/
theorem toe_way {a b : Int} (ha : goesK 2 0 a = true) (hb : goesK 2 0 b = true) (h : wayK 2 0 a = wayK 2 0 b) : a = b := by
  have key : ∀ x : Int, goesK 2 0 x = true → x = 1 ∨ x = 2 := by
    intro x hx
    have hs := shapeK 2
    unfold goesK goesV joinV at hx
    simp only [Bool.or_eq_true, Bool.and_eq_true, decide_eq_true_eq, beq_iff_eq] at hx
    rcases hs with ⟨e, h1, h2, h3, h4, h5, h6⟩ | ⟨e, h1, h2, h3, h4, h5, h6⟩ | ⟨e, h1, h2, h3, h4, h5, h6⟩ | ⟨e, h1, h2, h3, h4, h5, h6⟩ <;> rw [h2, h4, h5, h6] at hx <;> omega
  have w1 : wayK 2 0 1 = 0 := by decide
  have w2 : wayK 2 0 2 = 1 := by decide
  rcases key a ha with rfl | rfl <;> rcases key b hb with rfl | rfl
  · rfl
  · rw [w1, w2] at h; omega
  · rw [w1, w2] at h; omega
  · rfl
theorem pos_inj {l : Lay} : ∀ (ss us : List (Int × Int × Int)) (p : Int × Int), goesL l p ss = true → goesL l p us = true → ss.length = us.length → posL l ss = posL l us → ss = us
  | [], [], _, _, _, _, _ => rfl
  | [], _ :: _, _, _, _, h, _ => by simp at h
  | _ :: _, [], _, _, _, h, _ => by simp at h
  | x :: r, y :: t, p, hx, hy, hl, hp => by
    have hx' : (stepV l x.1 x.2.1 x.2.2 && (decide (p = (x.1, x.2.1)) && goesL l (nextV l x.1 x.2.1 x.2.2) r)) = true := hx
    have hy' : (stepV l y.1 y.2.1 y.2.2 && (decide (p = (y.1, y.2.1)) && goesL l (nextV l y.1 y.2.1 y.2.2) t)) = true := hy
    simp only [Bool.and_eq_true, decide_eq_true_eq] at hx' hy'
    obtain ⟨sx, ex, gx⟩ := hx'
    obtain ⟨sy, ey, gy⟩ := hy'
    obtain ⟨x1, x2, x3⟩ := x
    obtain ⟨y1, y2, y3⟩ := y
    simp only at sx ex gx sy ey gy
    rw [ex] at ey
    simp only [Prod.mk.injEq] at ey
    obtain ⟨rfl, rfl⟩ := ey
    have hp' : posOf l (x1, x2, x3) ++ posL l r = posOf l (x1, x2, y3) ++ posL l t := hp
    by_cases e3 : x3 = y3
    · subst e3
      rw [pos_inj r t _ gx gy (by simpa using hl) (List.append_cancel_left hp')]
    · exfalso
      obtain ⟨j, z, rfl, hz, hk, hg⟩ := step_some sx
      obtain ⟨j', z', e', hz', hk', hg'⟩ := step_some sy
      have hj : j' = j := by omega
      subst hj
      rw [hz] at hz'
      cases hz'
      obtain ⟨k2, i0⟩ := two_ways hg hg' e3
      rw [k2, i0] at hg hg'
      have p1 : posOf l (↑j', x2, x3) = [wayK 2 x2 x3] := by
        have q : pointV l ↑j' x2 x3 = ((j' : Int), wayK 2 x2 x3, true) := by unfold pointV; rw [if_pos ⟨sx, by rw [hk, k2]⟩]
        show (if (pointV l ↑j' x2 x3).2.2 = true then [(pointV l ↑j' x2 x3).2.1] else []) = _
        rw [q]; rfl
      have p2 : posOf l (↑j', x2, y3) = [wayK 2 x2 y3] := by
        have q : pointV l ↑j' x2 y3 = ((j' : Int), wayK 2 x2 y3, true) := by unfold pointV; rw [if_pos ⟨sy, by rw [hk, k2]⟩]
        show (if (pointV l ↑j' x2 y3).2.2 = true then [(pointV l ↑j' x2 y3).2.1] else []) = _
        rw [q]; rfl
      rw [p1, p2, i0] at hp'
      simp only [List.cons_append, List.nil_append, List.cons.injEq] at hp'
      exact e3 (toe_way hg hg' hp'.1)
/-- Of two unlike paths from one port just one is ahead. -/
theorem row_inj {l : Lay} {ss us : List (Int × Int × Int)} {p : Int × Int} (h : goesL l p ss = true) (k : goesL l p us = true) : cmpR (rowV l ss) (rowV l us) = 0 ↔ ss = us := by
  constructor
  · intro e
    have e' := cmpR_zero _ _ e
    unfold rowV at e'
    simp only [List.cons.injEq] at e'
    exact pos_inj ss us p h k (by omega) e'.2.2
  · rintro rfl
    exact cmpR_self _
end Go.Proofs.YtiknjkgioiknnaaDoor
namespace Go.Proofs.YtiknjkgioiknnaaDoor
open Go.RowKit
set_option linter.unusedVariables false

section
variable {P : Program} {ops : Array Oper} {md : Region.Mode} {B : World → Prop}
/-- In every world that meets S, o yields some value of which T holds then; memory has but grown. -/
def YieldsAt (P : Program) (ops : Array Oper) (o : Oper) {X : Type} (val : X → Value) (T : X → World → Prop) (S : World → Prop) (a : Act) : Prop :=
  Region.wanted o (yielded ops a.tmps) = true ∧ ∀ w, S w → o.wp P a w (fun a' w' => ∃ x, a' = a.put o.dst (val x) ∧ T x w' ∧ Below w.heap.size w w') (fun _ _ _ => False)
theorem YieldsAt.of_same {o : Oper} {X : Type} {val : X → Value} {T : X → World → Prop} {S : World → Prop} {a a' : Act} (hy : YieldsAt P ops o val T S a) (hs : a'.tmps.size = a.tmps.size) (he : execOp a'.eval o = execOp a.eval o)
    (hw : Region.wanted o (yielded ops a'.tmps) = Region.wanted o (yielded ops a.tmps)) : YieldsAt P ops o val T S a' := by
  refine ⟨hw.trans hy.1, fun w hS => ?_⟩
  have h := hy.2 w hS
  unfold Oper.wp at h ⊢
  rw [he]
  generalize (execOp a.eval o).run P w = r at h
  have fin : ∀ (u : Value) (w' : World), (∃ x, a.put o.dst u = a.put o.dst (val x) ∧ T x w' ∧ Below w.heap.size w w') → ∃ x, a'.put o.dst u = a'.put o.dst (val x) ∧ T x w' ∧ Below w.heap.size w w' := fun u w' ⟨x, h1, h2, h3⟩ => ⟨x, put_same hs h1, h2, h3⟩
  cases r with
  | ok n w' =>
    cases n <;> simp only [Oper.upon] at h ⊢
    case value u => exact fin _ _ h
    case skip => exact fin _ _ h
    case defer d =>
      obtain ⟨x, h1, _⟩ := h
      have := congrArg (fun x => x.defers.length) h1
      exfalso
      revert this
      cases o.dst <;> simp [Act.put]
    case enter f args =>
      refine Calls.mono h fun e w'' q => ?_
      cases e with
      | returned u => exact fin _ _ q
      | panicked c => exact q
      | outgrown => exact q
    case row row args => exact Rows.mono h fun u w'' q => fin _ _ q
  | halt x w' => cases x <;> simp only [Oper.upon] at h ⊢

/-- Two operations, either first: what both leave. -/
def PairAt (P : Program) (ops : Array Oper) (oi oj : Oper) (S : World → Prop) (K : (World → Prop) → Act → Prop) (a : Act) : Prop :=
  ∃ (X Y : Type) (v1 : X → Value) (v2 : Y → Value) (T1 : X → World → Prop) (T2 : Y → World → Prop), (∀ x, Closed (T1 x)) ∧ (∀ y, Closed (T2 y)) ∧ YieldsAt P ops oi v1 T1 S a ∧ YieldsAt P ops oj v2 T2 S a ∧
    ∀ x y, K (fun w => (S w ∧ T1 x w) ∧ T2 y w) ((a.put oi.dst (v1 x)).put oj.dst (v2 y))
def pairB (md : Region.Mode) (ops : Array Oper) (i j : Nat) (listed : Array Bool) : Bool :=
  decide (i < ops.size) && (decide (j < ops.size) && (decide (i ≠ j) && (decide (Region.ready md ops listed = [i, j]) && (decide (Region.ready md ops (listed.setIfInBounds i true) = [j]) && (decide (Region.ready md ops (listed.setIfInBounds j true) = [i]) &&
    (match ops[i]?, ops[j]? with | some oi, some oj => oi.apart ops oj | _, _ => false))))))
theorem mixAll_pair {L : (World → Prop) → Act → Prop} {f i j : Nat} {oi oj : Oper} (hsel : Region.noSelect ops = true) (hi : ops[i]? = some oi) (hj : ops[j]? = some oj) (listed : Array Bool) (S : World → Prop) (a : Act) (hF : Fam B S)
    (hB : pairB md ops i j listed = true) (h : PairAt P ops oi oj S (fun S' a' => Fam B S' → mixAll P md ops (Fam B) L f ((listed.setIfInBounds i true).setIfInBounds j true) S' a') a) : mixAll P md ops (Fam B) L (f + 2) listed S a := by
  unfold pairB at hB
  simp only [Bool.and_eq_true, decide_eq_true_eq, hi, hj] at hB
  obtain ⟨_, _, hne, hr, hri, hrj, hap⟩ := hB
  obtain ⟨h1, h2, h3⟩ := Oper.apart_spec hap
  obtain ⟨X, Y, v1, v2, T1, T2, c1, c2, y1, y2, K⟩ := h
  have si := fun cs b => Region.noSelect_spec hsel i oi cs b hi
  have sj := fun cs b => Region.noSelect_spec hsel j oj cs b hj
  have fam : ∀ x y, Fam B (fun w => (S w ∧ T1 x w) ∧ T2 y w) := fun x y => ⟨(hF.1.and (c1 x)).and (c2 y), fun w hw => hF.2 w hw.1.1⟩
  refine ⟨fun h0 => (by rw [hr] at h0; cases h0), fun k hk => ?_⟩
  rw [hr] at hk
  simp only [List.mem_cons, List.not_mem_nil, or_false] at hk
  rcases hk with rfl | rfl
  · unfold mixOp
    simp only [hi]
    refine .inr ⟨y1.1, fun w hS => Oper.wp_mono ?_ (y1.2 w hS)⟩
    rintro a' w' ⟨x, e, ht, hb⟩
    refine ⟨v1 x, fun w => S w ∧ T1 x w, e, ⟨hF.1.and (c1 x), fun w hw => hF.2 w hw.1⟩, ⟨hF.1 _ _ hS hb, ht⟩, fun h0 => (by rw [hri] at h0; cases h0), fun k' hk' => ?_⟩
    rw [hri] at hk'
    obtain rfl : k' = j := by simpa using hk'
    unfold mixOp
    simp only [hj]
    have y2' := y2.of_same (a' := a.put oi.dst (v1 x)) (put_size _ _ _) (execOp_put oj sj a oi.dst _ h1) (wanted_put oj a oi.dst _ h1)
    refine .inr ⟨y2'.1, fun w hS => Oper.wp_mono ?_ (y2'.2 w hS.1)⟩
    rintro a2 w2 ⟨y, e2, ht2, hb2⟩
    exact ⟨v2 y, _, e2, fam x y, ⟨⟨hF.1 _ _ hS.1 hb2, c1 x _ _ hS.2 hb2⟩, ht2⟩, K x y (fam x y)⟩
  · unfold mixOp
    simp only [hj]
    refine .inr ⟨y2.1, fun w hS => Oper.wp_mono ?_ (y2.2 w hS)⟩
    rintro a' w' ⟨y, e, ht, hb⟩
    refine ⟨v2 y, fun w => S w ∧ T2 y w, e, ⟨hF.1.and (c2 y), fun w hw => hF.2 w hw.1⟩, ⟨hF.1 _ _ hS hb, ht⟩, fun h0 => (by rw [hrj] at h0; cases h0), fun k' hk' => ?_⟩
    rw [hrj] at hk'
    obtain rfl : k' = i := by simpa using hk'
    unfold mixOp
    simp only [hi]
    have y1' := y1.of_same (a' := a.put oj.dst (v2 y)) (put_size _ _ _) (execOp_put oi si a oj.dst _ h3) (wanted_put oi a oj.dst _ h3)
    refine .inr ⟨y1'.1, fun w hS => Oper.wp_mono ?_ (y1'.2 w hS.1)⟩
    rintro a2 w2 ⟨x, e2, ht2, hb2⟩
    refine ⟨v1 x, fun w => (S w ∧ T1 x w) ∧ T2 y w, e2, fam x y, ⟨⟨hF.1 _ _ hS.1 hb2, ht2⟩, c2 y _ _ hS.2 hb2⟩, ?_⟩
    have hk := K x y (fam x y)
    rw [Array.setIfInBounds_comm _ _ hne] at hk
    rw [← Act.put_comm a (v1 x) (v2 y) h2]
    exact hk
/-- Operations one by one, and pairs of them in between. -/
inductive PTree where
  | last (is : List (Nat × Bool)) : PTree
  | pair (is : List (Nat × Bool)) (i j : Nat) (t : PTree) : PTree
def PTree.steps : PTree → Nat
  | .last is => is.length
  | .pair is _ _ t => is.length + (t.steps + 2)
def ptreeB (md : Region.Mode) (ops : Array Oper) : PTree → Array Bool → Bool
  | .last is, listed => lexMix md ops is listed
  | .pair is i j t, listed => lexMixK md ops is listed && (pairB md ops i j (markAll is listed) && ptreeB md ops t (((markAll is listed).setIfInBounds i true).setIfInBounds j true))
def pairOps (P : Program) (ops : Array Oper) (l : List Oper) (i j : Nat) (S : World → Prop) (K : (World → Prop) → Act → Prop) (a : Act) : Prop :=
  match l[i]? with
  | some oi => (match l[j]? with
    | some oj => PairAt P ops oi oj S K a
    | none => False)
  | none => False
def wpPTree (P : Program) (ops : Array Oper) (F : (World → Prop) → Prop) (L : (World → Prop) → Act → Prop) : PTree → (World → Prop) → Act → Prop
  | .last is, S, a => wpMix P ops F L (pickOps ops.toList is) S a
  | .pair is i j t, S, a => wpMix P ops F (fun S a => F S → pairOps P ops ops.toList i j S (wpPTree P ops F L t) a) (pickOps ops.toList is) S a
theorem wpMix_mono12 {F : (World → Prop) → Prop} {L L' : (World → Prop) → Act → Prop} (hL : ∀ S a, F S → L S a → L' S a) : ∀ (os : List (Oper × Bool)) (S : World → Prop) (a : Act), F S → wpMix P ops F L os S a → wpMix P ops F L' os S a
  | [], S, a, hF, h => hL S a hF h
  | (o, false) :: os, S, a, hF, h => by
    obtain ⟨v, hy, hK⟩ := h
    exact ⟨v, hy, wpMix_mono12 hL os _ _ hF hK⟩
  | (o, true) :: os, S, a, hF, h => TurnAt.mono (fun S' a' hF' hk' => wpMix_mono12 hL os _ _ hF' hk') h
theorem PairAt.mono {oi oj : Oper} {S : World → Prop} {K K' : (World → Prop) → Act → Prop} {a : Act} (h : ∀ S a, K S a → K' S a) (hh : PairAt P ops oi oj S K a) : PairAt P ops oi oj S K' a := by
  obtain ⟨X, Y, v1, v2, T1, T2, c1, c2, y1, y2, k⟩ := hh
  exact ⟨X, Y, v1, v2, T1, T2, c1, c2, y1, y2, fun x y => h _ _ (k x y)⟩
theorem mixAll_ptree {L : (World → Prop) → Act → Prop} (hsel : Region.noSelect ops = true) : ∀ (t : PTree) (listed : Array Bool) (S : World → Prop) (a : Act), Fam B S → ptreeB md ops t listed = true → wpPTree P ops (Fam B) L t S a → mixAll P md ops (Fam B) L t.steps listed S a
  | .last is, listed, S, a, hF, hB, h => mixAll_lex hsel is listed S a hF hB h
  | .pair is i j t, listed, S, a, hF, hB, h => by
    simp only [ptreeB, Bool.and_eq_true] at hB
    obtain ⟨hlex, hpair, ht⟩ := hB
    refine mixAll_lexK hsel is listed S a hF hlex (wpMix_mono12 (fun S a hF hh => ?_) _ S a hF h)
    have h1 := hh hF
    unfold pairOps at h1
    cases hi : ops.toList[i]? with
    | none => rw [hi] at h1; exact h1.elim
    | some oi =>
      rw [hi] at h1
      cases hj : ops.toList[j]? with
      | none => rw [hj] at h1; exact h1.elim
      | some oj =>
        rw [hj] at h1
        exact mixAll_pair hsel (by simpa using hi) (by simpa using hj) _ S a hF hpair (PairAt.mono (fun S' a' hk hF' => mixAll_ptree hsel t _ S' a' hF' ht hk) h1)
def ptreeOk (ops : Array Oper) (t : PTree) : Bool := Region.noSelect ops && (decide (t.steps = ops.size) && ptreeB .any ops t (Array.replicate ops.size false))
theorem region_ptree {id : Nat} {Q : Exit → Act → World → Prop} {a : Act} {w : World} {l : List Oper} (B : World → Prop) (t : PTree) (hm : P.follows .mixedOrders = true) (hB : ptreeOk l.toArray t = true)
    (S : World → Prop) (hF : Fam B S) (hS : S w.drew)
    (h : wpPTree P l.toArray (Fam B) (fun S' a' => ∀ w', S' w' → Q .normal a' w') t S a) : (Code.region id l.toArray true).wp P Q a w := by
  unfold ptreeOk at hB
  simp only [Bool.and_eq_true, decide_eq_true_eq] at hB
  obtain ⟨hsel, hlen, ht⟩ := hB
  refine wp_region_any hm ?_
  have := any_of_mix (Q := Q) (fun S' a' hL w' hw => hL w' hw) t.steps _ S a hF (mixAll_ptree (md := .any) hsel t _ S a hF ht h) w.drew hS
  rw [hlen] at this
  exact this

variable {o oi oj : Oper} {S : World → Prop} {a : Act}
/-- A call that yields what lies anew. -/
theorem yields_call {X : Type} (val : X → Value) (T : X → World → Prop) (f : FuncId) (args : Array Value) (hw : Region.wanted o (yielded ops a.tmps) = true) (hv : ∀ w, S w → (execOp a.eval o).run P w = .ok (.enter f args) w)
    (hc : ∀ w, S w → Calls P f args w fun e w' => ∃ x, e = .returned (val x) ∧ T x w' ∧ Below w.heap.size w w') : YieldsAt P ops o val T S a :=
  ⟨hw, fun w hS => by
    unfold Oper.wp
    rw [hv w hS]
    refine (hc w hS).mono ?_
    rintro e w' ⟨x, rfl, ht, hb⟩
    exact ⟨x, rfl, ht, hb⟩⟩
/-- A block that is made and filled at once. -/
theorem yields_make (val : Nat → Value) (t : TypeId) (zs : List Value) (hw : Region.wanted o (yielded ops a.tmps) = true) (hv : ∀ w, S w → (execOp a.eval o).run P w = .ok (.value (val w.heap.size)) (w.alloc (.cells zs.toArray t))) :
    YieldsAt P ops o val (fun g w => Whole w g t zs) S a :=
  ⟨hw, fun w hS => by
    unfold Oper.wp
    rw [hv w hS]
    exact ⟨w.heap.size, rfl, Whole.new w t zs, below1 w _⟩⟩
theorem pair_at {K : (World → Prop) → Act → Prop} {X Y : Type} {v1 : X → Value} {v2 : Y → Value} {T1 : X → World → Prop} {T2 : Y → World → Prop} (c1 : ∀ x, Closed (T1 x)) (c2 : ∀ y, Closed (T2 y)) (y1 : YieldsAt P ops oi v1 T1 S a) (y2 : YieldsAt P ops oj v2 T2 S a)
    (h : ∀ x y, K (fun w => (S w ∧ T1 x w) ∧ T2 y w) ((a.put oi.dst (v1 x)).put oj.dst (v2 y))) : PairAt P ops oi oj S K a := ⟨X, Y, v1, v2, T1, T2, c1, c2, y1, y2, h⟩
end
end Go.Proofs.YtiknjkgioiknnaaDoor
