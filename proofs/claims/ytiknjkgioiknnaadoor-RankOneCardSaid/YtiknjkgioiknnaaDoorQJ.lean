/- Stable sorting, plainly: what lies at a place; moves within a part; blocks that change places; who is ahead; what a search found (pure). Stable sorting, plainly: block by block, ever greater ones (pure). slices.swapRangeCmpFunc and rotateCmpFunc over numbers that lie in a block of the call's own. slices.insertionSortCmpFunc over places, held against one another by rank's own order. -/
import Derived.Test.YtiknjkgioiknnaaDoorGen
import Derived.Deep.CutRange
import Derived.BigQuiet
import Derived.Test.YtiknjkgioiknnaaDoorQB
import Derived.Test.YtiknjkgioiknnaaDoorQG
import Derived.Test.YtiknjkgioiknnaaDoorQL
namespace Go.Proofs.YtiknjkgioiknnaaDoor
set_option linter.unusedVariables false
set_option linter.unusedSimpArgs false

/-- What lies at a place. -/
def at12 (d : List Nat) (i : Nat) : Nat := d[i]?.getD 0
/-- Two places change. -/
def swp12 (d : List Nat) (i j : Nat) : List Nat := (d.set i (at12 d j)).set j (at12 d i)
theorem at_lt {d : List Nat} {i : Nat} (h : i < d.length) : at12 d i = d[i] := by unfold at12; rw [List.getElem?_eq_getElem h]; rfl
theorem at_set {d : List Nat} {i j v : Nat} (hi : i < d.length) : at12 (d.set i v) j = if j = i then v else at12 d j := by
  unfold at12
  by_cases h : j = i
  · subst h; rw [if_pos rfl, List.getElem?_set_self hi]; rfl
  · rw [if_neg h, List.getElem?_set_ne (Ne.symm h)]
theorem at_swp {d : List Nat} {i j k : Nat} (hi : i < d.length) (hj : j < d.length) : at12 (swp12 d i j) k = if k = j then at12 d i else if k = i then at12 d j else at12 d k := by
  unfold swp12
  rw [at_set (by simpa using hj), at_set hi]
theorem swp_len (d : List Nat) (i j : Nat) : (swp12 d i j).length = d.length := by simp [swp12]
theorem swp_perm {d : List Nat} {i j : Nat} (hi : i < d.length) (hj : j < d.length) : (swp12 d i j).Perm d := by
  unfold swp12
  rw [at_lt hi, at_lt hj]
  exact List.set_set_perm hi hj
theorem at_mem {d : List Nat} {i : Nat} (h : i < d.length) : at12 d i ∈ d := by rw [at_lt h]; exact List.getElem_mem h
theorem at_range {d : List Nat} {n i : Nat} (hp : d.Perm (List.range n)) (h : i < n) : at12 d i < n := by
  have hl : d.length = n := by rw [hp.length_eq, List.length_range]
  exact List.mem_range.1 (hp.mem_iff.1 (at_mem (by omega)))

/-- Nothing but what lies from a to b has moved, among itself. -/
structure Mv12 (a b : Nat) (d d' : List Nat) : Prop where
  len : d'.length = d.length
  out : ∀ i, i < a ∨ b ≤ i → at12 d' i = at12 d i
  src : ∀ i, a ≤ i → i < b → ∃ j, a ≤ j ∧ j < b ∧ at12 d' i = at12 d j
  perm : d'.Perm d
theorem Mv12.refl (a b : Nat) (d : List Nat) : Mv12 a b d d := ⟨rfl, fun _ _ => rfl, fun i h1 h2 => ⟨i, h1, h2, rfl⟩, List.Perm.refl _⟩
theorem Mv12.trans {a b : Nat} {d d' d'' : List Nat} (h : Mv12 a b d d') (k : Mv12 a b d' d'') : Mv12 a b d d'' :=
  ⟨k.len.trans h.len, fun i hi => (k.out i hi).trans (h.out i hi), fun i h1 h2 => by
    obtain ⟨j, j1, j2, e⟩ := k.src i h1 h2
    obtain ⟨x, x1, x2, e'⟩ := h.src j j1 j2
    exact ⟨x, x1, x2, e.trans e'⟩, k.perm.trans h.perm⟩
theorem Mv12.mono {a b a' b' : Nat} {d d' : List Nat} (h : Mv12 a b d d') (ha : a' ≤ a) (hb : b ≤ b') : Mv12 a' b' d d' :=
  ⟨h.len, fun i hi => h.out i (by omega), fun i h1 h2 => by
    by_cases hi : a ≤ i ∧ i < b
    · obtain ⟨j, j1, j2, e⟩ := h.src i hi.1 hi.2
      exact ⟨j, by omega, by omega, e⟩
    · exact ⟨i, h1, h2, h.out i (by omega)⟩, h.perm⟩
theorem Mv12.swp {a b i j : Nat} {d : List Nat} (h1 : a ≤ i) (h2 : i < b) (h3 : a ≤ j) (h4 : j < b) (hb : b ≤ d.length) : Mv12 a b d (swp12 d i j) :=
  ⟨swp_len _ _ _, fun k hk => by rw [at_swp (by omega) (by omega), if_neg (by omega), if_neg (by omega)], fun k k1 k2 => by
    rw [at_swp (by omega) (by omega)]
    split
    · exact ⟨i, h1, h2, rfl⟩
    · split
      · exact ⟨j, h3, h4, rfl⟩
      · exact ⟨k, k1, k2, rfl⟩, swp_perm (by omega) (by omega)⟩

/-- What lies from a to m and from m to b has changed places. -/
def rot12 (f : Nat → Nat) (a m b k : Nat) : Nat := if a ≤ k ∧ k < a + (b - m) then f (k - a + m) else if a + (b - m) ≤ k ∧ k < b then f (k - (b - m)) else f k
/-- n from a on and n from b on have changed places. -/
def chg12 (f : Nat → Nat) (a b n k : Nat) : Nat := if a ≤ k ∧ k < a + n then f (k - a + b) else if b ≤ k ∧ k < b + n then f (k - b + a) else f k
theorem chg_zero (f : Nat → Nat) (a b k : Nat) : chg12 f a b 0 k = f k := by
  unfold chg12
  rw [if_neg (by omega), if_neg (by omega)]
theorem chg_next {d d' : List Nat} {f : Nat → Nat} {a b n : Nat} (h : ∀ k, at12 d k = chg12 f a b n k) (hab : a + n < b) (hb : b + n < d.length) (hd : d' = swp12 d (a + n) (b + n)) : ∀ k, at12 d' k = chg12 f a b (n + 1) k := by
  intro k
  subst hd
  rw [at_swp (by omega) (by omega), h, h, h]
  unfold chg12
  repeat' split
  all_goals first | rfl | (congr 1; omega) | (exfalso; omega)
theorem rot_left {f : Nat → Nat} {m i j : Nat} (hi : i ≤ m) (hji : j ≤ i) (k : Nat) : rot12 (chg12 f (m - i) m j) (m - (i - j)) m (m + j) k = rot12 f (m - i) m (m + j) k := by
  unfold rot12 chg12
  repeat' split
  all_goals first | rfl | (congr 1; omega) | (exfalso; omega)
theorem rot_right {f : Nat → Nat} {m i j : Nat} (hi : i ≤ m) (hij : i ≤ j) (k : Nat) : rot12 (chg12 f (m - i) (m + j - i) i) (m - i) m (m + (j - i)) k = rot12 f (m - i) m (m + j) k := by
  unfold rot12 chg12
  repeat' split
  all_goals first | rfl | (congr 1; omega) | (exfalso; omega)
theorem rot_both {f : Nat → Nat} {m i : Nat} (hi : i ≤ m) (k : Nat) : chg12 f (m - i) m i k = rot12 f (m - i) m (m + i) k := by
  unfold rot12 chg12
  repeat' split
  all_goals first | rfl | (congr 1; omega) | (exfalso; omega)
theorem rot_congr {f g : Nat → Nat} (h : ∀ k, f k = g k) (a m b k : Nat) : rot12 f a m b k = rot12 g a m b k := by
  unfold rot12; rw [h, h, h]
theorem rot_none_left {f : Nat → Nat} {m e : Nat} (k : Nat) : rot12 f m m e k = f k := by
  unfold rot12
  repeat' split
  all_goals first | rfl | (congr 1; omega) | (exfalso; omega)
theorem rot_none_right {f : Nat → Nat} {s m : Nat} (k : Nat) : rot12 f s m m k = f k := by
  unfold rot12
  repeat' split
  all_goals first | rfl | (congr 1; omega) | (exfalso; omega)
theorem rot_lo {f : Nat → Nat} {s m e k : Nat} (h : k < s) : rot12 f s m e k = f k := by unfold rot12; rw [if_neg (by omega), if_neg (by omega)]
theorem rot_mid {f : Nat → Nat} {s m e k : Nat} (h1 : s ≤ k) (h2 : k < s + (e - m)) : rot12 f s m e k = f (k - s + m) := by unfold rot12; rw [if_pos ⟨h1, h2⟩]
theorem rot_hi {f : Nat → Nat} {s m e k : Nat} (h1 : s + (e - m) ≤ k) (h2 : k < e) : rot12 f s m e k = f (k - (e - m)) := by unfold rot12; rw [if_neg (by omega), if_pos ⟨h1, h2⟩]
theorem rot_out {f : Nat → Nat} {s m e k : Nat} (hm : s ≤ m) (hme : m ≤ e) (h : e ≤ k) : rot12 f s m e k = f k := by unfold rot12; rw [if_neg (by omega), if_neg (by omega)]
/-- A place goes on to the right, one by one. -/
theorem rot_stepR {d d' : List Nat} {f : Nat → Nat} {a k : Nat} (h : ∀ x, at12 d x = rot12 f a (a + 1) (k + 1) x) (hak : a ≤ k) (hk : k + 1 < d.length) (hd : d' = swp12 d k (k + 1)) : ∀ x, at12 d' x = rot12 f a (a + 1) (k + 1 + 1) x := by
  intro x
  subst hd
  rw [at_swp (by omega) (by omega), h, h, h]
  unfold rot12
  repeat' split
  all_goals first | rfl | (congr 1; omega) | (exfalso; omega)
/-- A place goes on to the left, one by one. -/
theorem rot_stepL {d d' : List Nat} {f : Nat → Nat} {m k : Nat} (h : ∀ x, at12 d x = rot12 f (k + 1) m (m + 1) x) (hkm : k + 1 ≤ m) (hk : m < d.length) (hd : d' = swp12 d (k + 1) k) : ∀ x, at12 d' x = rot12 f k m (m + 1) x := by
  intro x
  subst hd
  rw [at_swp (by omega) (by omega), h, h, h]
  unfold rot12
  repeat' split
  all_goals first | rfl | (congr 1; omega) | (exfalso; omega)

/-- An order in which some are level. -/
structure Ord12 (lt : Nat → Nat → Bool) : Prop where
  irr : ∀ x, lt x x = false
  tr : ∀ x y z, lt x y = true → lt y z = true → lt x z = true
  ntr : ∀ x y z, lt x y = false → lt y z = false → lt x z = false
/-- Ahead; of two that are level, the lesser number. -/
def LL (lt : Nat → Nat → Bool) (a b : Nat) : Prop := lt a b = true ∨ (lt b a = false ∧ a < b)
section
variable {lt : Nat → Nat → Bool} (O : Ord12 lt)
include O
theorem LL.trans {a b c : Nat} (h : LL lt a b) (k : LL lt b c) : LL lt a c := by
  rcases h with h | ⟨h, h'⟩
  · rcases k with k | ⟨k, k'⟩
    · exact .inl (O.tr _ _ _ h k)
    · cases e : lt a c with
      | true => exact .inl e
      | false => rw [O.ntr _ _ _ e k] at h; cases h
  · rcases k with k | ⟨k, k'⟩
    · cases e : lt a c with
      | true => exact .inl e
      | false => rw [O.ntr _ _ _ h e] at k; cases k
    · exact .inr ⟨O.ntr _ _ _ k h, by omega⟩
theorem LL.irrefl {a : Nat} (h : LL lt a a) : False := by
  rcases h with h | h
  · rw [O.irr] at h; cases h
  · omega
theorem LL.not_lt {a b : Nat} (h : LL lt a b) : lt b a = false := by
  rcases h with h | h
  · cases e : lt b a with
    | false => rfl
    | true => have := O.tr _ _ _ h e; rw [O.irr] at this; cases this
  · exact h.1
end

/-- In order from a to b. -/
def Srt (lt : Nat → Nat → Bool) (d : List Nat) (a b : Nat) : Prop := ∀ i j, a ≤ i → i < j → j < b → LL lt (at12 d i) (at12 d j)
theorem Srt.part {lt : Nat → Nat → Bool} {d : List Nat} {a b a' b' : Nat} (h : Srt lt d a b) (ha : a ≤ a') (hb : b' ≤ b) : Srt lt d a' b' := fun i j h1 h2 h3 => h i j (by omega) h2 (by omega)
theorem Srt.one {lt : Nat → Nat → Bool} {d : List Nat} {a b : Nat} (h : b ≤ a + 1) : Srt lt d a b := fun i j h1 h2 h3 => by omega
theorem Srt.same {lt : Nat → Nat → Bool} {d d' : List Nat} {a b : Nat} (h : Srt lt d a b) (he : ∀ i, a ≤ i → i < b → at12 d' i = at12 d i) : Srt lt d' a b := fun i j h1 h2 h3 => by
  rw [he i h1 (by omega), he j (by omega) h3]; exact h i j h1 h2 h3

/-- One that is put into a row in order, from behind. -/
theorem ins_done {lt : Nat → Nat → Bool} (O : Ord12 lt) {d dj : List Nat} {a i j : Nat} (hs : Srt lt d a i) (haj : a ≤ j) (hji : j ≤ i) (h : ∀ x, at12 dj x = rot12 (at12 d) j i (i + 1) x)
    (hb : ∀ k, j ≤ k → k < i → LL lt (at12 d i) (at12 d k)) (ha : j = a ∨ LL lt (at12 d (j - 1)) (at12 d i)) : Srt lt dj a (i + 1) := by
  intro p q hp hpq hq
  rw [h, h]
  have low : ∀ x, a ≤ x → x < j → LL lt (at12 d x) (at12 d i) := fun x x1 x2 => by
    rcases ha with rfl | ha
    · omega
    · by_cases e : x = j - 1
      · subst e; exact ha
      · exact LL.trans O (hs x (j - 1) x1 (by omega) (by omega)) ha
  by_cases h1 : q < j
  · rw [rot_lo (by omega), rot_lo h1]; exact hs p q hp hpq (by omega)
  · by_cases h2 : q = j
    · subst h2
      rw [rot_lo hpq, rot_mid (Nat.le_refl _) (by omega), show q - q + i = i by omega]
      exact low p hp hpq
    · rw [rot_hi (k := q) (by omega) hq, show q - (i + 1 - i) = q - 1 by omega]
      by_cases h3 : p < j
      · rw [rot_lo h3]; exact hs p (q - 1) hp (by omega) (by omega)
      · by_cases h4 : p = j
        · subst h4
          rw [rot_mid (Nat.le_refl _) (by omega), show p - p + i = i by omega]
          exact hb (q - 1) (by omega) (by omega)
        · rw [rot_hi (k := p) (by omega) (by omega), show p - (i + 1 - i) = p - 1 by omega]
          exact hs (p - 1) (q - 1) (by omega) (by omega) (by omega)
/-- The first of two rows is put into the other one. -/
theorem left_done {lt : Nat → Nat → Bool} (O : Ord12 lt) {d d' : List Nat} {a i b : Nat} (hs : Srt lt d (a + 1) b) (hai : a + 1 ≤ i) (hib : i ≤ b) (h : ∀ x, at12 d' x = rot12 (at12 d) a (a + 1) i x)
    (h1 : ∀ t, a + 1 ≤ t → t < i → LL lt (at12 d t) (at12 d a)) (h2 : ∀ t, i ≤ t → t < b → LL lt (at12 d a) (at12 d t)) : Srt lt d' a b := by
  intro p q hp hpq hq
  rw [h, h]
  by_cases q1 : q < i - 1
  · rw [rot_mid hp (by omega), rot_mid (by omega) (by omega)]
    exact hs _ _ (by omega) (by omega) (by omega)
  · by_cases q2 : q = i - 1
    · rw [rot_mid hp (by omega), rot_hi (by omega) (by omega), show q - (i - (a + 1)) = a by omega]
      exact h1 _ (by omega) (by omega)
    · rw [rot_out (k := q) (by omega) hai (by omega)]
      by_cases p1 : p < i - 1
      · rw [rot_mid hp (by omega)]
        exact hs _ _ (by omega) (by omega) hq
      · by_cases p2 : p = i - 1
        · rw [rot_hi (by omega) (by omega), show p - (i - (a + 1)) = a by omega]
          exact h2 q (by omega) hq
        · rw [rot_out (k := p) (by omega) hai (by omega)]
          exact hs p q (by omega) hpq hq
/-- The last of two rows is put into the other one. -/
theorem right_done {lt : Nat → Nat → Bool} (O : Ord12 lt) {d d' : List Nat} {a i m : Nat} (hs : Srt lt d a m) (hai : a ≤ i) (him : i ≤ m) (h : ∀ x, at12 d' x = rot12 (at12 d) i m (m + 1) x)
    (h1 : ∀ t, a ≤ t → t < i → LL lt (at12 d t) (at12 d m)) (h2 : ∀ t, i ≤ t → t < m → LL lt (at12 d m) (at12 d t)) : Srt lt d' a (m + 1) := by
  intro p q hp hpq hq
  rw [h, h]
  by_cases q1 : q < i
  · rw [rot_lo (by omega), rot_lo q1]; exact hs p q hp hpq (by omega)
  · by_cases q2 : q = i
    · subst q2
      rw [rot_lo hpq, rot_mid (Nat.le_refl _) (by omega), show q - q + m = m by omega]
      exact h1 p hp hpq
    · rw [rot_hi (k := q) (by omega) hq, show q - (m + 1 - m) = q - 1 by omega]
      by_cases p1 : p < i
      · rw [rot_lo p1]; exact hs p (q - 1) hp (by omega) (by omega)
      · by_cases p2 : p = i
        · subst p2
          rw [rot_mid (Nat.le_refl _) (by omega), show p - p + m = m by omega]
          exact h2 (q - 1) (by omega) (by omega)
        · rw [rot_hi (k := p) (by omega) (by omega), show p - (m + 1 - m) = p - 1 by omega]
          exact hs (p - 1) (q - 1) (by omega) (by omega) (by omega)

/-- What the search for the place at which two rows are parted has found so far. -/
def Found (lt : Nat → Nat → Bool) (d : List Nat) (n s0 r0 lo hi : Nat) : Prop :=
  (∀ t, s0 ≤ t → t < lo → LL lt (at12 d t) (at12 d (n - 1 - t))) ∧ (∀ t, hi ≤ t → t < r0 → LL lt (at12 d (n - 1 - t)) (at12 d t))
/-- Numbers rise from one part to the other. -/
def Rise (d : List Nat) (a m b : Nat) : Prop := ∀ x y, a ≤ x → x < m → m ≤ y → y < b → at12 d x < at12 d y
structure Bnd (a m b n s0 r0 : Nat) : Prop where
  am : a < m
  mb : m < b
  hn : n = (a + b) / 2 + m
  sr : (s0 = a ∧ r0 = m ∧ m ≤ (a + b) / 2) ∨ (s0 = n - b ∧ r0 = (a + b) / 2 ∧ (a + b) / 2 < m)
theorem found_left {lt : Nat → Nat → Bool} (O : Ord12 lt) {d : List Nat} {a m b n s0 r0 lo hi c : Nat} (B : Bnd a m b n s0 r0) (hr : Rise d a m b) (h1 : Srt lt d a m) (h2 : Srt lt d m b) (hF : Found lt d n s0 r0 lo hi)
    (hc : s0 ≤ c) (hcr : c < r0) (ht : lt (at12 d (n - 1 - c)) (at12 d c) = false) : Found lt d n s0 r0 (c + 1) hi := by
  obtain ⟨am, mb, hn, sr⟩ := B
  have hk : LL lt (at12 d c) (at12 d (n - 1 - c)) := .inr ⟨ht, hr _ _ (by omega) (by omega) (by omega) (by omega)⟩
  refine ⟨fun t t1 t2 => ?_, hF.2⟩
  by_cases e : t = c
  · subst e; exact hk
  · exact LL.trans O (h1 t c (by omega) (by omega) (by omega)) (LL.trans O hk (h2 (n - 1 - c) (n - 1 - t) (by omega) (by omega) (by omega)))
theorem found_right {lt : Nat → Nat → Bool} (O : Ord12 lt) {d : List Nat} {a m b n s0 r0 lo hi c : Nat} (B : Bnd a m b n s0 r0) (h1 : Srt lt d a m) (h2 : Srt lt d m b) (hF : Found lt d n s0 r0 lo hi)
    (hc : s0 ≤ c) (hcr : c < r0) (ht : lt (at12 d (n - 1 - c)) (at12 d c) = true) : Found lt d n s0 r0 lo c := by
  obtain ⟨am, mb, hn, sr⟩ := B
  have hk : LL lt (at12 d (n - 1 - c)) (at12 d c) := .inl ht
  refine ⟨hF.1, fun t t1 t2 => ?_⟩
  by_cases e : t = c
  · subst e; exact hk
  · exact LL.trans O (h2 (n - 1 - t) (n - 1 - c) (by omega) (by omega) (by omega)) (LL.trans O hk (h1 c t (by omega) (by omega) (by omega)))
/-- Where two rows are parted: the first parts are ahead of the last ones. -/
theorem found_done {lt : Nat → Nat → Bool} (O : Ord12 lt) {d : List Nat} {a m b n s0 r0 s : Nat} (B : Bnd a m b n s0 r0) (h1 : Srt lt d a m) (h2 : Srt lt d m b) (hF : Found lt d n s0 r0 s s) (hs : s0 ≤ s) (hsr : s ≤ r0) :
    (∀ x y, a ≤ x → x < s → n - s ≤ y → y < b → LL lt (at12 d x) (at12 d y)) ∧ (∀ y x, m ≤ y → y < n - s → s ≤ x → x < m → LL lt (at12 d y) (at12 d x)) := by
  obtain ⟨am, mb, hn, sr⟩ := B
  constructor
  · intro x y x1 x2 y1 y2
    have hk := hF.1 (s - 1) (by omega) (by omega)
    rw [show n - 1 - (s - 1) = n - s by omega] at hk
    have k1 : LL lt (at12 d x) (at12 d (n - s)) := by
      by_cases e : x = s - 1
      · subst e; exact hk
      · exact LL.trans O (h1 x (s - 1) x1 (by omega) (by omega)) hk
    by_cases e : y = n - s
    · subst e; exact k1
    · exact LL.trans O k1 (h2 (n - s) y (by omega) (by omega) y2)
  · intro y x y1 y2 x1 x2
    have hk := hF.2 s (Nat.le_refl _) (by omega)
    have k1 : LL lt (at12 d y) (at12 d s) := by
      by_cases e : y = n - 1 - s
      · subst e; exact hk
      · exact LL.trans O (h2 y (n - 1 - s) y1 (by omega) (by omega)) hk
    by_cases e : x = s
    · subst e; exact k1
    · exact LL.trans O k1 (h1 s x (by omega) (by omega) x2)
/-- Behind the change of places: four parts in order, the first two ahead of the last two; numbers still rise. -/
structure Parted (lt : Nat → Nat → Bool) (d' : List Nat) (a s mid e b : Nat) : Prop where
  p1 : Srt lt d' a s
  p2 : Srt lt d' s mid
  p3 : Srt lt d' mid e
  p4 : Srt lt d' e b
  r1 : Rise d' a s mid
  r2 : Rise d' mid e b
  ahead : ∀ x y, a ≤ x → x < mid → mid ≤ y → y < b → LL lt (at12 d' x) (at12 d' y)
theorem parted {lt : Nat → Nat → Bool} {d d' : List Nat} {a s m e b mid : Nat} (hr : Rise d a m b) (h1 : Srt lt d a m) (h2 : Srt lt d m b) (has : a ≤ s) (hsm : s ≤ m) (hme : m ≤ e) (heb : e ≤ b) (hmid : mid = s + (e - m))
    (h : ∀ x, at12 d' x = rot12 (at12 d) s m e x) (k1 : ∀ x y, a ≤ x → x < s → e ≤ y → y < b → LL lt (at12 d x) (at12 d y)) (k2 : ∀ y x, m ≤ y → y < e → s ≤ x → x < m → LL lt (at12 d y) (at12 d x)) : Parted lt d' a s mid e b := by
  subst hmid
  have v1 : ∀ x, x < s → at12 d' x = at12 d x := fun x hx => by rw [h, rot_lo hx]
  have v2 : ∀ x, s ≤ x → x < s + (e - m) → at12 d' x = at12 d (x - s + m) := fun x x1 x2 => by rw [h, rot_mid x1 x2]
  have v3 : ∀ x, s + (e - m) ≤ x → x < e → at12 d' x = at12 d (x - (e - m)) := fun x x1 x2 => by rw [h, rot_hi x1 x2]
  have v4 : ∀ x, e ≤ x → at12 d' x = at12 d x := fun x x1 => by rw [h, rot_out hsm hme x1]
  constructor
  · intro i j i1 ij j1
    rw [v1 i (by omega), v1 j j1]; exact h1 i j i1 ij (by omega)
  · intro i j i1 ij j1
    rw [v2 i i1 (by omega), v2 j (by omega) j1]; exact h2 _ _ (by omega) (by omega) (by omega)
  · intro i j i1 ij j1
    rw [v3 i i1 (by omega), v3 j (by omega) j1]; exact h1 _ _ (by omega) (by omega) (by omega)
  · intro i j i1 ij j1
    rw [v4 i i1, v4 j (by omega)]; exact h2 i j (by omega) ij j1
  · intro x y x1 x2 y1 y2
    rw [v1 x x2, v2 y y1 y2]; exact hr _ _ (by omega) (by omega) (by omega) (by omega)
  · intro x y x1 x2 y1 y2
    rw [v3 x x1 x2, v4 y y1]; exact hr _ _ (by omega) (by omega) (by omega) (by omega)
  · intro x y x1 x2 y1 y2
    by_cases xs : x < s
    · rw [v1 x xs]
      by_cases ye : y < e
      · rw [v3 y y1 ye]; exact h1 _ _ (by omega) (by omega) (by omega)
      · rw [v4 y (by omega)]; exact k1 _ _ (by omega) (by omega) (by omega) (by omega)
    · rw [v2 x (by omega) x2]
      by_cases ye : y < e
      · rw [v3 y y1 ye]; exact k2 _ _ (by omega) (by omega) (by omega) (by omega)
      · rw [v4 y (by omega)]; exact h2 _ _ (by omega) (by omega) (by omega)
/-- Each half put in order: all is. -/
theorem halves {lt : Nat → Nat → Bool} {d d1 d2 : List Nat} {a mid b : Nat} (hk : ∀ x y, a ≤ x → x < mid → mid ≤ y → y < b → LL lt (at12 d x) (at12 d y)) (m1 : Mv12 a mid d d1) (s1 : Srt lt d1 a mid) (m2 : Mv12 mid b d1 d2) (s2 : Srt lt d2 mid b) : Srt lt d2 a b := by
  intro i j i1 ij j1
  by_cases hj : j < mid
  · rw [m2.out i (.inl (by omega)), m2.out j (.inl hj)]; exact s1 i j i1 ij hj
  · by_cases hi : i < mid
    · rw [m2.out i (.inl hi)]
      obtain ⟨x, x1, x2, ex⟩ := m1.src i i1 hi
      obtain ⟨y, y1, y2, ey⟩ := m2.src j (by omega) j1
      rw [ex, ey, m1.out y (.inr y1)]
      exact hk x y x1 x2 y1 y2
    · exact s2 i j (by omega) ij j1
/-- Blocks that changed places have moved among themselves. -/
theorem rot_src {d d' : List Nat} {s m e : Nat} (hsm : s ≤ m) (hme : m ≤ e) (h : ∀ x, at12 d' x = rot12 (at12 d) s m e x) : (∀ i, i < s ∨ e ≤ i → at12 d' i = at12 d i) ∧ (∀ i, s ≤ i → i < e → ∃ j, s ≤ j ∧ j < e ∧ at12 d' i = at12 d j) := by
  constructor
  · intro i hi
    rcases hi with hi | hi
    · rw [h, rot_lo hi]
    · rw [h, rot_out hsm hme hi]
  · intro i i1 i2
    by_cases hi : i < s + (e - m)
    · exact ⟨i - s + m, by omega, by omega, by rw [h, rot_mid i1 hi]⟩
    · exact ⟨i - (e - m), by omega, by omega, by rw [h, rot_hi (by omega) i2]⟩
theorem mv_rot {d d' : List Nat} {s m e : Nat} (hsm : s ≤ m) (hme : m ≤ e) (hl : d'.length = d.length) (hp : d'.Perm d) (h : ∀ x, at12 d' x = rot12 (at12 d) s m e x) : Mv12 s e d d' :=
  ⟨hl, (rot_src hsm hme h).1, (rot_src hsm hme h).2, hp⟩
theorem mv_chg {d d' : List Nat} {a b n lo hi : Nat} (hlo : lo ≤ a) (hab : a + n ≤ b) (hhi : b + n ≤ hi) (hl : d'.length = d.length) (hp : d'.Perm d) (h : ∀ x, at12 d' x = chg12 (at12 d) a b n x) : Mv12 lo hi d d' := by
  refine ⟨hl, fun i hi' => ?_, fun i i1 i2 => ?_, hp⟩
  · rw [h]; unfold chg12; rw [if_neg (by omega), if_neg (by omega)]
  · by_cases h1 : a ≤ i ∧ i < a + n
    · exact ⟨i - a + b, by omega, by omega, by rw [h]; unfold chg12; rw [if_pos h1]⟩
    · by_cases h2 : b ≤ i ∧ i < b + n
      · exact ⟨i - b + a, by omega, by omega, by rw [h]; unfold chg12; rw [if_neg h1, if_pos h2]⟩
      · exact ⟨i, i1, i2, by rw [h]; unfold chg12; rw [if_neg h1, if_neg h2]⟩
end Go.Proofs.YtiknjkgioiknnaaDoor
namespace Go.Proofs.YtiknjkgioiknnaaDoor
set_option linter.unusedVariables false
set_option linter.unusedSimpArgs false

theorem div_in {bs t i : Nat} (hb : 0 < bs) (h1 : bs * t ≤ i) (h2 : i < bs * t + bs) : i / bs = t := by
  obtain ⟨r, rfl⟩ := Nat.exists_eq_add_of_le h1
  rw [Nat.mul_add_div hb, Nat.div_eq_of_lt (by omega), Nat.add_zero]
theorem div_out {bs t i : Nat} (hb : 0 < bs) (h : i / bs = t) : bs * t ≤ i ∧ i < bs * t + bs := by
  subst h
  have h1 := Nat.div_add_mod i bs
  have h2 := Nat.mod_lt i hb
  omega
theorem lt_of_div {bs x y : Nat} (h : x / bs < y / bs) : x < y := by
  refine Nat.lt_of_not_le fun hn => ?_
  have := Nat.div_le_div_right (c := bs) hn
  omega
/-- Each block's numbers are its places. -/
def InB (bs : Nat) (d : List Nat) (n : Nat) : Prop := ∀ i, i < n → at12 d i / bs = i / bs
/-- Each block that lies ahead of c is in order. -/
def Up (lt : Nat → Nat → Bool) (bs : Nat) (d : List Nat) (c : Nat) : Prop := ∀ i j, i < j → j < c → i / bs = j / bs → LL lt (at12 d i) (at12 d j)
theorem inB_mv {bs t a b n : Nat} {d d' : List Nat} (hb : 0 < bs) (h : InB bs d n) (ha : a = bs * t) (hab : b ≤ a + bs) (hbn : b ≤ n) (m : Mv12 a b d d') : InB bs d' n := by
  intro i hi
  by_cases hi2 : a ≤ i ∧ i < b
  · obtain ⟨j, j1, j2, e⟩ := m.src i hi2.1 hi2.2
    rw [e, h j (by omega), div_in hb (t := t) (by omega) (by omega), div_in hb (t := t) (by omega) (by omega)]
  · rw [m.out i (by omega)]; exact h i hi
theorem up_mv {lt : Nat → Nat → Bool} {bs t a b : Nat} {d d' : List Nat} (hb : 0 < bs) (h : Up lt bs d a) (ha : a = bs * t) (hab : b ≤ a + bs) (m : Mv12 a b d d') (hs : Srt lt d' a b) : Up lt bs d' b := by
  intro i j hij hj he
  by_cases hja : j < a
  · rw [m.out i (.inl (by omega)), m.out j (.inl hja)]; exact h i j hij hja he
  · have h1 := div_in hb (t := t) (i := j) (by omega) (by omega)
    have h2 := div_out hb (he.trans h1)
    exact hs i j (by omega) hij hj
/-- The first loop: blocks of bs, those ahead of a in order, all else as it was. -/
structure One12 (lt : Nat → Nat → Bool) (bs n a : Nat) (d : List Nat) : Prop where
  perm : d.Perm (List.range n)
  at_a : ∃ t, a = bs * t
  an : a ≤ n
  rest : ∀ i, a ≤ i → i < n → at12 d i = i
  inb : InB bs d n
  up : Up lt bs d a
theorem one_start {lt : Nat → Nat → Bool} {bs n : Nat} : One12 lt bs n 0 (List.range n) := by
  have h : ∀ i, i < n → at12 (List.range n) i = i := fun i hi => by unfold at12; rw [List.getElem?_range hi]; rfl
  exact ⟨List.Perm.refl _, ⟨0, rfl⟩, Nat.zero_le _, fun i _ hi => h i hi, fun i hi => by rw [h i hi], fun i j _ hj _ => by omega⟩
theorem one_next {lt : Nat → Nat → Bool} {bs n a b : Nat} {d d' : List Nat} (hb : 0 < bs) (h : One12 lt bs n a d) (hab : b = a + bs) (hbn : b ≤ n) (m : Mv12 a b d d') (hs : Srt lt d' a b) : One12 lt bs n b d' := by
  obtain ⟨t, ht⟩ := h.at_a
  exact ⟨m.perm.trans h.perm, ⟨t + 1, by rw [hab, ht, Nat.mul_add, Nat.mul_one]⟩, hbn, fun i h1 h2 => by rw [m.out i (.inr h1)]; exact h.rest i (by omega) h2, inB_mv hb h.inb ht (by omega) hbn m, up_mv hb h.up ht (by omega) m hs⟩
theorem one_last {lt : Nat → Nat → Bool} {bs n a : Nat} {d d' : List Nat} (hb : 0 < bs) (h : One12 lt bs n a d) (hn : n < a + bs) (m : Mv12 a n d d') (hs : Srt lt d' a n) : d'.Perm (List.range n) ∧ InB bs d' n ∧ Up lt bs d' n := by
  obtain ⟨t, ht⟩ := h.at_a
  exact ⟨m.perm.trans h.perm, inB_mv hb h.inb ht (by omega) (Nat.le_refl _) m, up_mv hb h.up ht (by omega) m hs⟩
/-- The second loop: blocks of bs become blocks of 2 bs, those ahead of a have. -/
structure Two12 (lt : Nat → Nat → Bool) (bs n a : Nat) (d : List Nat) : Prop where
  perm : d.Perm (List.range n)
  at_a : ∃ t, a = bs * 2 * t
  an : a ≤ n
  inb : InB (bs * 2) d n
  up : Up lt (bs * 2) d a
  rin : ∀ i, a ≤ i → i < n → at12 d i / bs = i / bs
  rup : ∀ i j, a ≤ i → i < j → j < n → i / bs = j / bs → LL lt (at12 d i) (at12 d j)
theorem two_start {lt : Nat → Nat → Bool} {bs n : Nat} {d : List Nat} (hp : d.Perm (List.range n)) (h : InB bs d n) (k : Up lt bs d n) : Two12 lt bs n 0 d :=
  ⟨hp, ⟨0, rfl⟩, Nat.zero_le _, fun i hi => by rw [← Nat.div_div_eq_div_mul, ← Nat.div_div_eq_div_mul, h i hi], fun i j _ hj _ => by omega, fun i _ hi => h i hi, fun i j _ hij hj he => k i j hij hj he⟩
theorem two_parts {lt : Nat → Nat → Bool} {bs n a e : Nat} {d : List Nat} (hb : 0 < bs) (h : Two12 lt bs n a d) (he : e ≤ a + bs * 2) (hen : e ≤ n) : Srt lt d a (min (a + bs) n) ∧ Srt lt d (a + bs) e ∧ Rise d a (a + bs) e := by
  obtain ⟨t, ht⟩ := h.at_a
  have e1 : bs * (2 * t) = a := by rw [ht, Nat.mul_assoc]
  have e2 : bs * (2 * t + 1) = a + bs := by rw [Nat.mul_add, e1, Nat.mul_one]
  have d1 : ∀ i, a ≤ i → i < a + bs → i / bs = 2 * t := fun i h1 h2 => div_in hb (by omega) (by omega)
  have d2 : ∀ i, a + bs ≤ i → i < a + bs * 2 → i / bs = 2 * t + 1 := fun i h1 h2 => div_in hb (by omega) (by omega)
  refine ⟨fun i j h1 h2 h3 => h.rup i j h1 h2 (by omega) (by rw [d1 i h1 (by omega), d1 j (by omega) (by omega)]), fun i j h1 h2 h3 => h.rup i j (by omega) h2 (by omega) (by rw [d2 i h1 (by omega), d2 j (by omega) (by omega)]), fun x y x1 x2 y1 y2 => ?_⟩
  refine lt_of_div (bs := bs) ?_
  rw [h.rin x x1 (by omega), h.rin y (by omega) (by omega), d1 x x1 x2, d2 y y1 (by omega)]
  omega
theorem two_next {lt : Nat → Nat → Bool} {bs n a b : Nat} {d d' : List Nat} (hb : 0 < bs) (h : Two12 lt bs n a d) (hab : b = a + bs * 2) (hbn : b ≤ n) (m : Mv12 a b d d') (hs : Srt lt d' a b) : Two12 lt bs n b d' := by
  obtain ⟨t, ht⟩ := h.at_a
  exact ⟨m.perm.trans h.perm, ⟨t + 1, by rw [hab, ht, Nat.mul_add, Nat.mul_one]⟩, hbn, inB_mv (by omega) h.inb ht (by omega) hbn m, up_mv (by omega) h.up ht (by omega) m hs, fun i h1 h2 => by rw [m.out i (.inr h1)]; exact h.rin i (by omega) h2, fun i j h1 h2 h3 he => by
    rw [m.out i (.inr h1), m.out j (.inr (by omega))]; exact h.rup i j (by omega) h2 h3 he⟩
theorem two_last {lt : Nat → Nat → Bool} {bs n a : Nat} {d d' : List Nat} (hb : 0 < bs) (h : Two12 lt bs n a d) (hn : n < a + bs * 2) (m : Mv12 a n d d') (hs : Srt lt d' a n) : d'.Perm (List.range n) ∧ InB (bs * 2) d' n ∧ Up lt (bs * 2) d' n := by
  obtain ⟨t, ht⟩ := h.at_a
  exact ⟨m.perm.trans h.perm, inB_mv (by omega) h.inb ht (by omega) (Nat.le_refl _) m, up_mv (by omega) h.up ht (by omega) m hs⟩
/-- Of the last two blocks there is but one. -/
theorem two_short {lt : Nat → Nat → Bool} {bs n a : Nat} {d : List Nat} (hb : 0 < bs) (h : Two12 lt bs n a d) (hn : n ≤ a + bs) : d.Perm (List.range n) ∧ InB (bs * 2) d n ∧ Up lt (bs * 2) d n := by
  refine ⟨h.perm, h.inb, fun i j hij hj he => ?_⟩
  obtain ⟨t, ht⟩ := h.at_a
  by_cases hja : j < a
  · exact h.up i j hij hja he
  · have h1 := div_in (bs := bs * 2) (by omega) (t := t) (i := j) (by omega) (by omega)
    have h2 := div_out (bs := bs * 2) (by omega) (he.trans h1)
    have hs := (two_parts hb h (e := n) (by omega) (Nat.le_refl _)).1
    exact hs i j (by omega) hij (by rw [Nat.min_eq_right hn]; exact hj)
theorem two_done {lt : Nat → Nat → Bool} {bs n : Nat} {d : List Nat} (hn : n ≤ bs) (h : Up lt bs d n) : Srt lt d 0 n := fun i j _ hij hj => h i j hij hj (by rw [Nat.div_eq_of_lt (by omega), Nat.div_eq_of_lt (by omega)])
end Go.Proofs.YtiknjkgioiknnaaDoor
namespace Go.Proofs.YtiknjkgioiknnaaDoor
open Go.RowKit Go.Shelf
set_option linter.unusedVariables false
set_option linter.unusedSimpArgs false
set_option maxRecDepth 100000

/-- Numbers as cells. -/
def cel12 (d : List Nat) : List Value := d.map fun (x : Nat) => .int .i64 (x : Int)
theorem cel_len (d : List Nat) : (cel12 d).length = d.length := by simp [cel12]
theorem cel_at {d : List Nat} {i : Nat} (h : i < d.length) : (cel12 d)[i]? = some (.int .i64 (at12 d i : Int)) := by
  unfold cel12
  rw [List.getElem?_map, List.getElem?_eq_getElem h, at_lt h]; rfl
theorem cel_cell {W : World} {g : Nat} {t : TypeId} {d : List Nat} {i : Nat} (h : Whole W g t (cel12 d)) (hi : i < d.length) : W.cell? ⟨g, i, none⟩ = some (.int .i64 (at12 d i : Int)) := h.cell_at i (cel_at hi)
theorem cel_set (d : List Nat) (i v : Nat) : cel12 (d.set i v) = (cel12 d).set i (.int .i64 (v : Int)) := by unfold cel12; rw [List.map_set]
/-- A world that holds these places, whatever else it holds. -/
structure Kit12 (S : List Nat → World → Prop) (g n : Nat) : Prop where
  closed : ∀ d, Closed (S d)
  whole : ∀ d W, S d W → Whole W g 3 (cel12 d)
  len : ∀ d W, S d W → d.length = n
  set : ∀ d W i v, S d W → i < d.length → S (d.set i v) (W.setCell ⟨g, i, none⟩ (.int .i64 (v : Int)))
set_option maxRecDepth 100000 in
set_option maxHeartbeats 32000000 in
theorem swapRange_any {S : List Nat → World → Prop} {g n : Nat} (K : Kit12 S g n) {d : List Nat} (hn : n ≤ 1099511627776) (a b c cap : Nat) (hab : a + c ≤ b) (hbn : b + c ≤ n) (fv : Value) {w : World} (h : S d w) :
    Calls Tryd.prog 70 #[.slice (some ⟨g, 0, none⟩) n cap, .int .i64 a, .int .i64 b, .int .i64 c, fv] w fun e w' => e = .returned (.tuple #[]) ∧ ∃ d', S d' w' ∧ d'.Perm d ∧ ∀ k, at12 d' k = chg12 (at12 d) a b c k := by
  replace K := Lib.hid K
  go_enter Tryd.func70, Tryd.ntmps70
  go_wp2_with fail
  go_loopw [10] (fun i wr => ∃ (j : Nat) (dj : List Nat), j ≤ c ∧ i = .int .i64 j ∧ S dj wr ∧ Hid (dj.Perm d ∧ ∀ k, at12 dj k = chg12 (at12 d) a b j k))
    (fun i _ => c - (intOf i).toNat)
  case atStart => exact ⟨0, d, by omega, rfl, h, Lib.hid ⟨List.Perm.refl _, fun k => (chg_zero _ _ _ _).symm⟩⟩
  case round =>
    clear h
    obtain ⟨j, dj, hj, rfl, hS, HJ⟩ := hrel
    by_cases hlt : j < c
    · have hlt' : (j : Int) < c := by omega
      have hln := K.out.len _ _ hS
      obtain ⟨p, hp⟩ : ∃ p : Nat, p = a + j := ⟨_, rfl⟩
      obtain ⟨q, hq⟩ : ∃ q : Nat, q = b + j := ⟨_, rfl⟩
      have HN : Hid ((swp12 dj p q).Perm d ∧ ∀ k, at12 (swp12 dj p q) k = chg12 (at12 d) a b (j + 1) k) := Lib.hid (by
        subst hp hq
        exact ⟨(swp_perm (by omega) (by omega)).trans HJ.out.1, chg_next HJ.out.2 (by omega) (by omega) rfl⟩)
      have rp : IntKind.i64.wrap ((a : Int) + (j : Int)) = (p : Int) := by rw [IntKind.wrap_i64]; omega
      have rq : IntKind.i64.wrap ((b : Int) + (j : Int)) = (q : Int) := by rw [IntKind.wrap_i64]; omega
      have hwi : IntKind.i64.wrap ((j : Int) + 1) = (j : Int) + 1 := IntWalk.i64_in _ (by omega)
      have hpn : p < n := by omega
      have hqn : q < n := by omega
      have hpn' : (p : Int) < (n : Int) := by omega
      have hqn' : (q : Int) < (n : Int) := by omega
      clear hp hq HJ
      go_wp2_with fail
      refine region_tree (fun _ => True) (.fork [(0, false), (1, false), (2, false), (3, false), (4, false), (5, false), (6, false), (7, false), (8, false), (9, false), (10, false), (11, false), (12, false), (14, false), (15, false), (16, false), (17, false), (18, false)] 13 19 (.last [(19, true), (20, false), (21, true), (22, false), (23, true)]) (.last [(13, true), (20, false), (21, true), (22, false), (23, true)])) (by kernel_rfl) (by kernel_rfl) (S dj) ⟨K.out.closed dj, fun _ _ => trivial⟩ ((K.out.closed dj).drew hS) ?_
      clear hS
      simp only [wpTree, pickOps, List.getElem?_cons_zero, List.getElem?_cons_succ]
      repeat (first | (refine mix_skip (by rfl) ?_; simp only [Act.put, List.setIfInBounds_toArray, List.set_cons_zero, List.set_cons_succ]) | (refine mix_read _ (by rfl) (fun W hW => by (clear hW; go_simp; first | done | with_reducible rfl)) ?_; simp only [Act.put, List.setIfInBounds_toArray, List.set_cons_zero, List.set_cons_succ]))
      refine mix_nil (fun hF => ⟨?_, ?_⟩)
      · refine mix_look (.int .i64 (at12 dj q : Int)) ⟨K.out.closed dj, fun _ _ => trivial⟩ (by rfl) (fun W hW => by (have c0 := cel_cell (K.out.whole _ _ hW) (i := q) (by omega); clear hW; go_simp; first | done | with_reducible rfl)) ?_
        simp only [Act.put, List.setIfInBounds_toArray, List.set_cons_zero, List.set_cons_succ]
        refine mix_nil ?_
        refine mix_look (.int .i64 (at12 dj p : Int)) ⟨K.out.closed dj, fun _ _ => trivial⟩ (by rfl) (fun W hW => by (have c0 := cel_cell (K.out.whole _ _ hW) (i := p) (by omega); clear hW; go_simp; first | done | with_reducible rfl)) ?_
        simp only [Act.put, List.setIfInBounds_toArray, List.set_cons_zero, List.set_cons_succ]
        repeat (first | (refine mix_skip (by rfl) ?_; simp only [Act.put, List.setIfInBounds_toArray, List.set_cons_zero, List.set_cons_succ]) | (refine mix_read _ (by rfl) (fun W hW => by (clear hW; go_simp; first | done | with_reducible rfl)) ?_; simp only [Act.put, List.setIfInBounds_toArray, List.set_cons_zero, List.set_cons_succ]))
        refine mix_store (S (dj.set p (at12 dj q))) (fun W => W.setCell ⟨g, p, none⟩ (.int .i64 ((at12 dj q) : Int))) ⟨K.out.closed _, fun _ _ => trivial⟩ (by rfl) (fun W hW => by (have c0 := cel_cell (K.out.whole _ _ hW) (i := p) (by first | omega | (simp; omega)); have f0 := (K.out.whole _ _ hW).frozen p; clear hW; go_simp; first | done | with_reducible rfl)) (fun W hW => K.out.set _ _ _ _ hW (by first | omega | (simp; omega))) ?_
        simp only [Act.put, List.setIfInBounds_toArray, List.set_cons_zero, List.set_cons_succ]
        repeat (first | (refine mix_skip (by rfl) ?_; simp only [Act.put, List.setIfInBounds_toArray, List.set_cons_zero, List.set_cons_succ]) | (refine mix_read _ (by rfl) (fun W hW => by (clear hW; go_simp; first | done | with_reducible rfl)) ?_; simp only [Act.put, List.setIfInBounds_toArray, List.set_cons_zero, List.set_cons_succ]))
        refine mix_store (S ((dj.set p (at12 dj q)).set q (at12 dj p))) (fun W => W.setCell ⟨g, q, none⟩ (.int .i64 ((at12 dj p) : Int))) ⟨K.out.closed _, fun _ _ => trivial⟩ (by rfl) (fun W hW => by (have c0 := cel_cell (K.out.whole _ _ hW) (i := q) (by first | omega | (simp; omega)); have f0 := (K.out.whole _ _ hW).frozen q; clear hW; go_simp; first | done | with_reducible rfl)) (fun W hW => K.out.set _ _ _ _ hW (by first | omega | (simp; omega))) ?_
        simp only [Act.put, List.setIfInBounds_toArray, List.set_cons_zero, List.set_cons_succ]
        refine mix_nil (fun W hS => ?_)
        go_wp2_with fail
        go_roundw
        case rel => exact ⟨j + 1, swp12 dj p q, hlt, by go_num, hS, HN⟩
        case measure => simp [intOf]; omega
      · refine mix_look (.int .i64 (at12 dj p : Int)) ⟨K.out.closed dj, fun _ _ => trivial⟩ (by rfl) (fun W hW => by (have c0 := cel_cell (K.out.whole _ _ hW) (i := p) (by omega); clear hW; go_simp; first | done | with_reducible rfl)) ?_
        simp only [Act.put, List.setIfInBounds_toArray, List.set_cons_zero, List.set_cons_succ]
        refine mix_nil ?_
        refine mix_look (.int .i64 (at12 dj q : Int)) ⟨K.out.closed dj, fun _ _ => trivial⟩ (by rfl) (fun W hW => by (have c0 := cel_cell (K.out.whole _ _ hW) (i := q) (by omega); clear hW; go_simp; first | done | with_reducible rfl)) ?_
        simp only [Act.put, List.setIfInBounds_toArray, List.set_cons_zero, List.set_cons_succ]
        repeat (first | (refine mix_skip (by rfl) ?_; simp only [Act.put, List.setIfInBounds_toArray, List.set_cons_zero, List.set_cons_succ]) | (refine mix_read _ (by rfl) (fun W hW => by (clear hW; go_simp; first | done | with_reducible rfl)) ?_; simp only [Act.put, List.setIfInBounds_toArray, List.set_cons_zero, List.set_cons_succ]))
        refine mix_store (S (dj.set p (at12 dj q))) (fun W => W.setCell ⟨g, p, none⟩ (.int .i64 ((at12 dj q) : Int))) ⟨K.out.closed _, fun _ _ => trivial⟩ (by rfl) (fun W hW => by (have c0 := cel_cell (K.out.whole _ _ hW) (i := p) (by first | omega | (simp; omega)); have f0 := (K.out.whole _ _ hW).frozen p; clear hW; go_simp; first | done | with_reducible rfl)) (fun W hW => K.out.set _ _ _ _ hW (by first | omega | (simp; omega))) ?_
        simp only [Act.put, List.setIfInBounds_toArray, List.set_cons_zero, List.set_cons_succ]
        repeat (first | (refine mix_skip (by rfl) ?_; simp only [Act.put, List.setIfInBounds_toArray, List.set_cons_zero, List.set_cons_succ]) | (refine mix_read _ (by rfl) (fun W hW => by (clear hW; go_simp; first | done | with_reducible rfl)) ?_; simp only [Act.put, List.setIfInBounds_toArray, List.set_cons_zero, List.set_cons_succ]))
        refine mix_store (S ((dj.set p (at12 dj q)).set q (at12 dj p))) (fun W => W.setCell ⟨g, q, none⟩ (.int .i64 ((at12 dj p) : Int))) ⟨K.out.closed _, fun _ _ => trivial⟩ (by rfl) (fun W hW => by (have c0 := cel_cell (K.out.whole _ _ hW) (i := q) (by first | omega | (simp; omega)); have f0 := (K.out.whole _ _ hW).frozen q; clear hW; go_simp; first | done | with_reducible rfl)) (fun W hW => K.out.set _ _ _ _ hW (by first | omega | (simp; omega))) ?_
        simp only [Act.put, List.setIfInBounds_toArray, List.set_cons_zero, List.set_cons_succ]
        refine mix_nil (fun W hS => ?_)
        go_wp2_with fail
        go_roundw
        case rel => exact ⟨j + 1, swp12 dj p q, hlt, by go_num, hS, HN⟩
        case measure => simp [intOf]; omega
    · obtain rfl : j = c := by omega
      go_wp2_with fail
      go_end0
      exact ⟨rfl, dj, hS, HJ.out.1, HJ.out.2⟩
set_option maxRecDepth 100000 in
set_option maxHeartbeats 32000000 in
theorem rotate_any {S : List Nat → World → Prop} {g n : Nat} (K : Kit12 S g n) {d : List Nat} (hn : n ≤ 1099511627776) (a m b cap : Nat) (ham : a < m) (hmb : m < b) (hbn : b ≤ n) (fv : Value) {w : World} (h : S d w) :
    Calls Tryd.prog 67 #[.slice (some ⟨g, 0, none⟩) n cap, .int .i64 a, .int .i64 m, .int .i64 b, fv] w fun e w' => e = .returned (.tuple #[]) ∧ ∃ d', S d' w' ∧ d'.Perm d ∧ ∀ k, at12 d' k = rot12 (at12 d) a m b k := by
  replace K := Lib.hid K
  have r1 : IntKind.i64.wrap ((m : Int) - (a : Int)) = ((m - a : Nat) : Int) := by rw [IntKind.wrap_i64]; omega
  have r2 : IntKind.i64.wrap ((b : Int) - (m : Int)) = ((b - m : Nat) : Int) := by rw [IntKind.wrap_i64]; omega
  obtain ⟨i0, hi0⟩ : ∃ i0, m - a = i0 := ⟨_, rfl⟩
  obtain ⟨j0, hj0⟩ : ∃ j0, b - m = j0 := ⟨_, rfl⟩
  rw [hi0] at r1
  rw [hj0] at r2
  have H0 : Hid (0 < i0 ∧ 0 < j0 ∧ i0 ≤ m ∧ m + j0 ≤ n ∧ m - i0 = a ∧ m + j0 = b) := Lib.hid (by omega)
  clear hi0 hj0
  go_enter Tryd.func67, Tryd.ntmps67
  go_wp2_with fail
  go_loopw [10, 11] (fun vi vj wr => ∃ (i j : Nat) (dj : List Nat), vi = .int .i64 i ∧ vj = .int .i64 j ∧ S dj wr ∧ Hid (0 < i ∧ 0 < j ∧ i ≤ m ∧ m + j ≤ n) ∧ Hid (dj.Perm d ∧ ∀ k, rot12 (at12 dj) (m - i) m (m + j) k = rot12 (at12 d) a m b k))
    (fun vi vj _ => (intOf vi).toNat + (intOf vj).toNat)
  case atStart => exact ⟨i0, j0, d, rfl, rfl, h, Lib.hid (by have := H0.out; omega), Lib.hid ⟨List.Perm.refl _, fun k => by rw [H0.out.2.2.2.2.1, H0.out.2.2.2.2.2]⟩⟩
  case round =>
    clear h
    obtain ⟨i, j, dj, rfl, rfl, hS, HB, HJ⟩ := hrel
    have hb := HB.out
    obtain ⟨p, hp⟩ : ∃ p : Nat, p = m - i := ⟨_, rfl⟩
    have rp : IntKind.i64.wrap ((m : Int) - (i : Int)) = (p : Int) := by rw [IntKind.wrap_i64]; omega
    by_cases hij : i = j
    · subst hij
      have KC := Lib.hid (swapRange_any K.out hn p m i cap (by omega) (by omega) fv hS)
      have HP := Lib.hid hp
      clear hS hb hp
      go_wp2_with fail
      refine KC.out.mono ?_
      rintro e w1 ⟨rfl, d1, hS, hp1, hc1⟩
      go_wp2_with fail
      go_end0
      exact ⟨rfl, d1, hS, hp1.trans HJ.out.1, fun k => by rw [hc1, HP.out, rot_both HB.out.2.2.1]; exact HJ.out.2 k⟩
    · have hne : ¬ (i : Int) = (j : Int) := by omega
      by_cases hlt : j < i
      · have hlt' : (j : Int) < (i : Int) := by omega
        have KC := Lib.hid (swapRange_any K.out hn p m j cap (by omega) (by omega) fv hS)
        have HP := Lib.hid (And.intro hp hb)
        have ri : IntKind.i64.wrap ((i : Int) - (j : Int)) = ((i - j : Nat) : Int) := by rw [IntKind.wrap_i64]; omega
        have rv : ((i - j : Nat) : Int) = (i : Int) - (j : Int) := by omega
        have HIJ := Lib.hid (And.intro hij hlt)
        clear hS hb hp rv
        go_wp2_with fail
        refine KC.out.mono ?_
        clear KC
        rintro e w1 ⟨rfl, d1, hS, hp1, hc1⟩
        have HN : Hid (d1.Perm d ∧ ∀ k, rot12 (at12 d1) (m - (i - j)) m (m + j) k = rot12 (at12 d) a m b k) := Lib.hid ⟨hp1.trans HJ.out.1, fun k => by
          rw [rot_congr hc1, HP.out.1, rot_left HP.out.2.2.2.1 (Nat.le_of_lt HIJ.out.2)]; exact HJ.out.2 k⟩
        clear hp1 hc1
        go_wp2_with fail
        go_roundw
        case rel => exact ⟨i - j, j, d1, rfl, rfl, hS, Lib.hid (by have := HP.out; omega), HN⟩
        case measure => have := HP.out; simp [intOf]; omega
      · have hlt' : (i : Int) < (j : Int) := by omega
        have hge' : ¬ (j : Int) < (i : Int) := by omega
        obtain ⟨q, hq⟩ : ∃ q : Nat, q = m + j - i := ⟨_, rfl⟩
        have rs : IntKind.i64.wrap ((m : Int) + (j : Int)) = ((m + j : Nat) : Int) := by rw [IntKind.wrap_i64]; omega
        obtain ⟨s, hs⟩ : ∃ s, m + j = s := ⟨_, rfl⟩
        rw [hs] at rs
        have rq : IntKind.i64.wrap ((s : Int) - (i : Int)) = (q : Int) := by rw [IntKind.wrap_i64]; omega
        have KC := Lib.hid (swapRange_any K.out hn p q i cap (by omega) (by omega) fv hS)
        have HP := Lib.hid (And.intro hp (And.intro hq hb))
        have ri : IntKind.i64.wrap ((j : Int) - (i : Int)) = ((j - i : Nat) : Int) := by rw [IntKind.wrap_i64]; omega
        have HIJ := Lib.hid (show i ≤ j by omega)
        clear hS hb hp hq hs
        go_wp2_with fail
        refine KC.out.mono ?_
        clear KC
        rintro e w1 ⟨rfl, d1, hS, hp1, hc1⟩
        have HN : Hid (d1.Perm d ∧ ∀ k, rot12 (at12 d1) (m - i) m (m + (j - i)) k = rot12 (at12 d) a m b k) := Lib.hid ⟨hp1.trans HJ.out.1, fun k => by
          rw [rot_congr hc1, HP.out.1, HP.out.2.1, rot_right HP.out.2.2.2.2.1 HIJ.out]; exact HJ.out.2 k⟩
        clear hp1 hc1
        go_wp2_with fail
        go_roundw
        case rel => exact ⟨i, j - i, d1, rfl, rfl, hS, Lib.hid (by have := HP.out; omega), HN⟩
        case measure => have := HP.out; simp [intOf]; omega
end Go.Proofs.YtiknjkgioiknnaaDoor
namespace Go.Proofs.YtiknjkgioiknnaaDoor
open Go.RowKit Go.Shelf
set_option linter.unusedVariables false
set_option linter.unusedSimpArgs false
set_option maxRecDepth 100000

/-- What tells of two places which one is ahead: the same in each world that holds them. -/
def Cmp12 (S : List Nat → World → Prop) (n qf : Nat) (cv : Nat → Nat → Int) : Prop :=
  ∀ (d : List Nat) (W : World) (x y : Nat), S d W → x < n → y < n → Calls Tryd.prog 37 #[.int .i64 x, .int .i64 y, .pointer (some ⟨qf, 0, none⟩)] W fun e W' => e = .returned (.int .i64 (cv x y)) ∧ Below W.heap.size W W'
/-- Who is ahead, by it. -/
def ltOf12 (cv : Nat → Nat → Int) (x y : Nat) : Bool := decide (cv x y < 0)
theorem lt_yes {cv : Nat → Nat → Int} {x y : Nat} (h : cv x y < 0) : ltOf12 cv x y = true := decide_eq_true h
theorem lt_no {cv : Nat → Nat → Int} {x y : Nat} (h : ¬ cv x y < 0) : ltOf12 cv x y = false := decide_eq_false h
set_option maxRecDepth 100000 in
set_option maxHeartbeats 32000000 in
theorem insertion_any {S : List Nat → World → Prop} {g n qf : Nat} {cv : Nat → Nat → Int} (K : Kit12 S g n) (C : Cmp12 S n qf cv) (O : Ord12 (ltOf12 cv)) {d : List Nat} (hn : n ≤ 1099511627776) (hp : d.Perm (List.range n)) (a b cap : Nat) (hab : a ≤ b) (hbn : b ≤ n) (hup : ∀ i j, a ≤ i → i < j → j < b → at12 d i < at12 d j) {w : World} (h : S d w) :
    Calls Tryd.prog 57 #[.slice (some ⟨g, 0, none⟩) n cap, .int .i64 a, .int .i64 b, .func (.func 37) #[] #[.pointer (some ⟨qf, 0, none⟩)]] w fun e w' => e = .returned (.tuple #[]) ∧ ∃ d', S d' w' ∧ Mv12 a b d d' ∧ Srt (ltOf12 cv) d' a b := by
  replace K := Lib.hid K
  have HO := Lib.hid O
  have HCm := Lib.hid C
  have HP := Lib.hid hp
  have HU := Lib.hid hup
  have ra : IntKind.i64.wrap ((a : Int) + 1) = ((a + 1 : Nat) : Int) := by rw [IntKind.wrap_i64]; omega
  obtain ⟨a1, ha1⟩ : ∃ a1, a + 1 = a1 := ⟨_, rfl⟩
  rw [ha1] at ra
  have HA := Lib.hid ha1
  clear O C hp hup ha1
  go_enter Tryd.func57, Tryd.ntmps57
  go_wp2_with fail
  go_loopw [8] (fun vi wr => ∃ (i : Nat) (di : List Nat), vi = .int .i64 i ∧ a < i ∧ (i ≤ b ∨ i = a1) ∧ S di wr ∧ Hid (Mv12 a (min i b) d di ∧ Srt (ltOf12 cv) di a (min i b)))
    (fun vi _ => b + 1 - (intOf vi).toNat)
  case atStart => exact ⟨a1, d, rfl, by have := HA.out; omega, .inr rfl, h, Lib.hid ⟨Mv12.refl _ _ _, Srt.one (by have := HA.out; omega)⟩⟩
  case round =>
    clear h
    obtain ⟨i, di, rfl, hai, hib, hS, HI⟩ := hrel
    obtain ⟨we, rfl⟩ : ∃ W, W = wr := ⟨wr, rfl⟩
    by_cases hlt : i < b
    · have hlt' : (i : Int) < (b : Int) := by omega
      have hm : min i b = i := by omega
      have hi := HI.out
      rw [hm] at hi
      have HI := Lib.hid hi
      clear hm hi
      have hwi : IntKind.i64.wrap ((i : Int) + 1) = (i : Int) + 1 := IntWalk.i64_in _ (by omega)
      go_wp2_with fail
      go_loopw [9] (fun vj wr => ∃ (j : Nat) (dj : List Nat), vj = .int .i64 j ∧ a ≤ j ∧ j ≤ i ∧ S dj wr ∧ Hid (dj.Perm di ∧ (∀ x, at12 dj x = rot12 (at12 di) j i (i + 1) x) ∧ (∀ k, j ≤ k → k < i → LL (ltOf12 cv) (at12 di i) (at12 di k))))
        (fun vj _ => (intOf vj).toNat)
      case atStart => exact ⟨i, di, rfl, by omega, Nat.le_refl _, hS, Lib.hid ⟨List.Perm.refl _, fun x => (rot_none_left x).symm, fun k h1 h2 => by omega⟩⟩
      case round =>
        clear hS
        obtain ⟨j, dj, rfl, haj, hji, hS, HJ⟩ := hrel
        obtain ⟨wc, rfl⟩ : ∃ W, W = wr := ⟨wr, rfl⟩
        have hln := K.out.len _ _ hS
        have HC := Lib.hid (K.out.closed dj)
        -- where the inner loop ends
        have OUT : Hid ((j = a ∨ LL (ltOf12 cv) (at12 di (j - 1)) (at12 di i)) → Hid (Mv12 a (min (i + 1) b) d dj ∧ Srt (ltOf12 cv) dj a (min (i + 1) b))) := Lib.hid fun hj => Lib.hid (by
          have e : min (i + 1) b = i + 1 := by omega
          rw [e]
          have hl := HI.out.1.len
          have hl2 := HJ.out.1.length_eq
          exact ⟨(HI.out.1.mono (Nat.le_refl _) (by omega)).trans ((mv_rot hji (by omega) hl2 HJ.out.1 HJ.out.2.1).mono haj (Nat.le_refl _)), ins_done HO.out HI.out.2 haj hji HJ.out.2.1 HJ.out.2.2 hj⟩)
        by_cases hja : a < j
        · obtain ⟨q, hq⟩ : ∃ q, q + 1 = j := ⟨j - 1, by omega⟩
          have hja' : (a : Int) < (j : Int) := by omega
          have hjd : decide ((a : Int) < (j : Int)) = true := decide_eq_true hja'
          have hjd2 : decide (a < j) = true := decide_eq_true hja
          have rq : IntKind.i64.wrap ((j : Int) - 1) = (q : Int) := by rw [IntKind.wrap_i64]; omega
          have hjn : j < n := by omega
          have hqn : q < n := by omega
          have hjn' : (j : Int) < (n : Int) := by omega
          have hqn' : (q : Int) < (n : Int) := by omega
          have hpj : dj.Perm (List.range n) := HJ.out.1.trans (HI.out.1.perm.trans HP.out)
          obtain ⟨v, hv⟩ : ∃ v, cv (at12 dj j) (at12 dj q) = v := ⟨_, rfl⟩
          have KC : Hid (∀ W, S dj W → Calls Tryd.prog 37 #[.int .i64 (at12 dj j : Int), .int .i64 (at12 dj q : Int), .pointer (some ⟨qf, 0, none⟩)] W fun e W' => e = .returned (.int .i64 v) ∧ Below W.heap.size W W') := Lib.hid fun W hW => by
            rw [← hv]; exact HCm.out dj W _ _ hW (at_range hpj hjn) (at_range hpj hqn)
          have ex : at12 dj j = at12 di i := by rw [HJ.out.2.1, rot_mid (Nat.le_refl _) (by omega), show j - j + i = i by omega]
          have ey : at12 dj q = at12 di q := by rw [HJ.out.2.1, rot_lo (by omega)]
          have HQ := Lib.hid (And.intro hq (And.intro hja hji))
          have HV := Lib.hid hv
          have HE := Lib.hid (And.intro ex ey)
          clear hq hpj hv ex ey
          by_cases hlv : v < 0
          · have hld : decide (v < 0) = true := decide_eq_true hlv
            have HN : Hid ((swp12 dj j q).Perm di ∧ (∀ x, at12 (swp12 dj j q) x = rot12 (at12 di) q i (i + 1) x) ∧ (∀ k, q ≤ k → k < i → LL (ltOf12 cv) (at12 di i) (at12 di k))) := Lib.hid (by
              have hq := HQ.out.1
              refine ⟨(swp_perm (by omega) (by omega)).trans HJ.out.1, rot_stepL (d := dj) (fun x => by rw [hq]; exact HJ.out.2.1 x) (by omega) (by omega) (by rw [hq]), fun k h1 h2 => ?_⟩
              by_cases hk : k = q
              · subst hk
                have := lt_yes (cv := cv) (x := at12 dj j) (y := at12 dj k) (by rw [HV.out]; exact hlv)
                rw [HE.out.1, HE.out.2] at this
                exact .inl this
              · exact HJ.out.2.2 k (by omega) h2)
            clear OUT HJ HV HE
            go_wp2_with fail
            have HBS : Hid (∀ W, Below wc.heap.size wc W → S dj W) := Lib.hid (fun W hB => HC.out _ _ hS hB)
            clear hS
            refine region_mix (Below wc.heap.size wc) [(0, false), (1, false), (2, false), (3, false), (4, false), (5, false), (6, false), (7, false), (8, false), (9, false), (10, false), (11, false), (12, false), (13, false), (14, false), (15, false), (16, false)] (by kernel_rfl) (by kernel_rfl) (Below wc.heap.size wc) ⟨Closed.below wc, fun _ h => h⟩ (Below.refl _ _).drew ?_
            simp only [pickOps, List.getElem?_cons_zero, List.getElem?_cons_succ]
            repeat (first | (refine mix_skip (by rfl) ?_; simp only [Act.put, List.setIfInBounds_toArray, List.set_cons_zero, List.set_cons_succ]) | (refine mix_read _ (by rfl) (fun W hW => by (have hW := HBS.out W hW; have c0 := cel_cell (K.out.whole _ _ hW) (i := j) (by omega); have c1 := cel_cell (K.out.whole _ _ hW) (i := q) (by omega); go_simp; first | done | with_reducible rfl)) ?_; simp only [Act.put, List.setIfInBounds_toArray, List.set_cons_zero, List.set_cons_succ]) | (refine mix_call _ _ _ (by rfl) (fun W hW => by (have hW := HBS.out W hW; have c0 := cel_cell (K.out.whole _ _ hW) (i := j) (by omega); have c1 := cel_cell (K.out.whole _ _ hW) (i := q) (by omega); go_simp; first | done | rfl)) (fun W hW => KC.out W (HBS.out W hW)) ?_; simp only [Act.put, List.setIfInBounds_toArray, List.set_cons_zero, List.set_cons_succ]))
            refine mix_nil (fun W hW => ?_)
            have hS := HBS.out W hW
            clear hW HBS KC hlv hld hja hja' hjd hjd2
            go_wp2_with fail
            refine region_tree (fun _ => True) (.fork [(0, false), (1, false), (2, false), (3, false), (4, false), (5, false), (6, false), (7, false), (8, false), (10, false), (11, false), (12, false)] 9 13 (.last [(13, true), (14, false), (15, true), (16, false), (17, true)]) (.last [(9, true), (14, false), (15, true), (16, false), (17, true)])) (by kernel_rfl) (by kernel_rfl) (S dj) ⟨K.out.closed dj, fun _ _ => trivial⟩ ((K.out.closed dj).drew hS) ?_
            clear hS
            simp only [wpTree, pickOps, List.getElem?_cons_zero, List.getElem?_cons_succ]
            repeat (first | (refine mix_skip (by rfl) ?_; simp only [Act.put, List.setIfInBounds_toArray, List.set_cons_zero, List.set_cons_succ]) | (refine mix_read _ (by rfl) (fun W hW => by (clear hW; go_simp; first | done | with_reducible rfl)) ?_; simp only [Act.put, List.setIfInBounds_toArray, List.set_cons_zero, List.set_cons_succ]))
            refine mix_nil (fun hF => ⟨?_, ?_⟩)
            · refine mix_look (.int .i64 (at12 dj q : Int)) ⟨K.out.closed dj, fun _ _ => trivial⟩ (by rfl) (fun W hW => by (have c0 := cel_cell (K.out.whole _ _ hW) (i := q) (by omega); clear hW; go_simp; first | done | with_reducible rfl)) ?_
              simp only [Act.put, List.setIfInBounds_toArray, List.set_cons_zero, List.set_cons_succ]
              refine mix_nil ?_
              refine mix_look (.int .i64 (at12 dj j : Int)) ⟨K.out.closed dj, fun _ _ => trivial⟩ (by rfl) (fun W hW => by (have c0 := cel_cell (K.out.whole _ _ hW) (i := j) (by omega); clear hW; go_simp; first | done | with_reducible rfl)) ?_
              simp only [Act.put, List.setIfInBounds_toArray, List.set_cons_zero, List.set_cons_succ]
              repeat (first | (refine mix_skip (by rfl) ?_; simp only [Act.put, List.setIfInBounds_toArray, List.set_cons_zero, List.set_cons_succ]) | (refine mix_read _ (by rfl) (fun W hW => by (clear hW; go_simp; first | done | with_reducible rfl)) ?_; simp only [Act.put, List.setIfInBounds_toArray, List.set_cons_zero, List.set_cons_succ]))
              refine mix_store (S (dj.set j (at12 dj q))) (fun W => W.setCell ⟨g, j, none⟩ (.int .i64 ((at12 dj q) : Int))) ⟨K.out.closed _, fun _ _ => trivial⟩ (by rfl) (fun W hW => by (have c0 := cel_cell (K.out.whole _ _ hW) (i := j) (by first | omega | (simp; omega)); have f0 := (K.out.whole _ _ hW).frozen j; clear hW; go_simp; first | done | with_reducible rfl)) (fun W hW => K.out.set _ _ _ _ hW (by first | omega | (simp; omega))) ?_
              simp only [Act.put, List.setIfInBounds_toArray, List.set_cons_zero, List.set_cons_succ]
              repeat (first | (refine mix_skip (by rfl) ?_; simp only [Act.put, List.setIfInBounds_toArray, List.set_cons_zero, List.set_cons_succ]) | (refine mix_read _ (by rfl) (fun W hW => by (clear hW; go_simp; first | done | with_reducible rfl)) ?_; simp only [Act.put, List.setIfInBounds_toArray, List.set_cons_zero, List.set_cons_succ]))
              refine mix_store (S ((dj.set j (at12 dj q)).set q (at12 dj j))) (fun W => W.setCell ⟨g, q, none⟩ (.int .i64 ((at12 dj j) : Int))) ⟨K.out.closed _, fun _ _ => trivial⟩ (by rfl) (fun W hW => by (have c0 := cel_cell (K.out.whole _ _ hW) (i := q) (by first | omega | (simp; omega)); have f0 := (K.out.whole _ _ hW).frozen q; clear hW; go_simp; first | done | with_reducible rfl)) (fun W hW => K.out.set _ _ _ _ hW (by first | omega | (simp; omega))) ?_
              simp only [Act.put, List.setIfInBounds_toArray, List.set_cons_zero, List.set_cons_succ]
              refine mix_nil (fun W hS => ?_)
              have HN2 := HN
              go_wp2_with fail
              go_roundw
              case rel => exact ⟨q, swp12 dj j q, rfl, by have := HQ.out; omega, by have := HQ.out; omega, hS, HN2⟩
              case measure => have := HQ.out; simp [intOf]; omega
            · refine mix_look (.int .i64 (at12 dj j : Int)) ⟨K.out.closed dj, fun _ _ => trivial⟩ (by rfl) (fun W hW => by (have c0 := cel_cell (K.out.whole _ _ hW) (i := j) (by omega); clear hW; go_simp; first | done | with_reducible rfl)) ?_
              simp only [Act.put, List.setIfInBounds_toArray, List.set_cons_zero, List.set_cons_succ]
              refine mix_nil ?_
              refine mix_look (.int .i64 (at12 dj q : Int)) ⟨K.out.closed dj, fun _ _ => trivial⟩ (by rfl) (fun W hW => by (have c0 := cel_cell (K.out.whole _ _ hW) (i := q) (by omega); clear hW; go_simp; first | done | with_reducible rfl)) ?_
              simp only [Act.put, List.setIfInBounds_toArray, List.set_cons_zero, List.set_cons_succ]
              repeat (first | (refine mix_skip (by rfl) ?_; simp only [Act.put, List.setIfInBounds_toArray, List.set_cons_zero, List.set_cons_succ]) | (refine mix_read _ (by rfl) (fun W hW => by (clear hW; go_simp; first | done | with_reducible rfl)) ?_; simp only [Act.put, List.setIfInBounds_toArray, List.set_cons_zero, List.set_cons_succ]))
              refine mix_store (S (dj.set j (at12 dj q))) (fun W => W.setCell ⟨g, j, none⟩ (.int .i64 ((at12 dj q) : Int))) ⟨K.out.closed _, fun _ _ => trivial⟩ (by rfl) (fun W hW => by (have c0 := cel_cell (K.out.whole _ _ hW) (i := j) (by first | omega | (simp; omega)); have f0 := (K.out.whole _ _ hW).frozen j; clear hW; go_simp; first | done | with_reducible rfl)) (fun W hW => K.out.set _ _ _ _ hW (by first | omega | (simp; omega))) ?_
              simp only [Act.put, List.setIfInBounds_toArray, List.set_cons_zero, List.set_cons_succ]
              repeat (first | (refine mix_skip (by rfl) ?_; simp only [Act.put, List.setIfInBounds_toArray, List.set_cons_zero, List.set_cons_succ]) | (refine mix_read _ (by rfl) (fun W hW => by (clear hW; go_simp; first | done | with_reducible rfl)) ?_; simp only [Act.put, List.setIfInBounds_toArray, List.set_cons_zero, List.set_cons_succ]))
              refine mix_store (S ((dj.set j (at12 dj q)).set q (at12 dj j))) (fun W => W.setCell ⟨g, q, none⟩ (.int .i64 ((at12 dj j) : Int))) ⟨K.out.closed _, fun _ _ => trivial⟩ (by rfl) (fun W hW => by (have c0 := cel_cell (K.out.whole _ _ hW) (i := q) (by first | omega | (simp; omega)); have f0 := (K.out.whole _ _ hW).frozen q; clear hW; go_simp; first | done | with_reducible rfl)) (fun W hW => K.out.set _ _ _ _ hW (by first | omega | (simp; omega))) ?_
              simp only [Act.put, List.setIfInBounds_toArray, List.set_cons_zero, List.set_cons_succ]
              refine mix_nil (fun W hS => ?_)
              have HN2 := HN
              go_wp2_with fail
              go_roundw
              case rel => exact ⟨q, swp12 dj j q, rfl, by have := HQ.out; omega, by have := HQ.out; omega, hS, HN2⟩
              case measure => have := HQ.out; simp [intOf]; omega
          · have hld : decide (v < 0) = false := decide_eq_false hlv
            have HN := OUT.out (.inr (.inr (by
              have hl := lt_no (cv := cv) (x := at12 dj j) (y := at12 dj q) (by rw [HV.out]; exact hlv)
              rw [HE.out.1, HE.out.2] at hl
              have hq := HQ.out.1
              have e : j - 1 = q := by omega
              rw [e]
              refine ⟨hl, ?_⟩
              obtain ⟨z, z1, z2, ez⟩ := HI.out.1.src q (by omega) (by omega)
              rw [ez, HI.out.1.out i (.inr (Nat.le_refl _))]
              exact HU.out z i z1 z2 hlt)))
            clear OUT HJ HV HE
            go_wp2_with fail
            have HBS : Hid (∀ W, Below wc.heap.size wc W → S dj W) := Lib.hid (fun W hB => HC.out _ _ hS hB)
            clear hS
            refine region_mix (Below wc.heap.size wc) [(0, false), (1, false), (2, false), (3, false), (4, false), (5, false), (6, false), (7, false), (8, false), (9, false), (10, false), (11, false), (12, false), (13, false), (14, false), (15, false), (16, false)] (by kernel_rfl) (by kernel_rfl) (Below wc.heap.size wc) ⟨Closed.below wc, fun _ h => h⟩ (Below.refl _ _).drew ?_
            simp only [pickOps, List.getElem?_cons_zero, List.getElem?_cons_succ]
            repeat (first | (refine mix_skip (by rfl) ?_; simp only [Act.put, List.setIfInBounds_toArray, List.set_cons_zero, List.set_cons_succ]) | (refine mix_read _ (by rfl) (fun W hW => by (have hW := HBS.out W hW; have c0 := cel_cell (K.out.whole _ _ hW) (i := j) (by omega); have c1 := cel_cell (K.out.whole _ _ hW) (i := q) (by omega); go_simp; first | done | with_reducible rfl)) ?_; simp only [Act.put, List.setIfInBounds_toArray, List.set_cons_zero, List.set_cons_succ]) | (refine mix_call _ _ _ (by rfl) (fun W hW => by (have hW := HBS.out W hW; have c0 := cel_cell (K.out.whole _ _ hW) (i := j) (by omega); have c1 := cel_cell (K.out.whole _ _ hW) (i := q) (by omega); go_simp; first | done | rfl)) (fun W hW => KC.out W (HBS.out W hW)) ?_; simp only [Act.put, List.setIfInBounds_toArray, List.set_cons_zero, List.set_cons_succ]))
            refine mix_nil (fun W hW => ?_)
            have hS := HBS.out W hW
            clear hW HBS KC hlv hld hja hja' hjd hjd2
            go_wp2_with fail
            go_roundw
            case rel => exact ⟨i + 1, dj, by go_num, by omega, .inl (by omega), hS, HN⟩
            case measure => simp [intOf]; omega
        · have hja' : ¬ (a : Int) < (j : Int) := by omega
          have hjd : decide ((a : Int) < (j : Int)) = false := decide_eq_false hja'
          have hjd2 : decide (a < j) = false := decide_eq_false hja
          have HN := OUT.out (.inl (by omega))
          clear OUT HJ
          go_wp2_with fail
          have HBS : Hid (∀ W, Below wc.heap.size wc W → S dj W) := Lib.hid (fun W hB => HC.out _ _ hS hB)
          clear hS
          refine region_mix (Below wc.heap.size wc) [(0, false), (1, false), (2, false), (3, false), (4, false), (5, false), (6, false), (7, false), (8, false), (9, false), (10, false), (11, false), (12, false), (13, false), (14, false), (15, false), (16, false)] (by kernel_rfl) (by kernel_rfl) (Below wc.heap.size wc) ⟨Closed.below wc, fun _ h => h⟩ (Below.refl _ _).drew ?_
          simp only [pickOps, List.getElem?_cons_zero, List.getElem?_cons_succ]
          repeat (first | (refine mix_skip (by rfl) ?_; simp only [Act.put, List.setIfInBounds_toArray, List.set_cons_zero, List.set_cons_succ]) | (refine mix_read _ (by rfl) (fun W hW => by (have hW := HBS.out W hW; go_simp; first | done | with_reducible rfl)) ?_; simp only [Act.put, List.setIfInBounds_toArray, List.set_cons_zero, List.set_cons_succ]))
          refine mix_nil (fun W hW => ?_)
          have hS := HBS.out W hW
          clear hW HBS hja' hjd hjd2
          go_wp2_with fail
          go_roundw
          case rel => exact ⟨i + 1, dj, by go_num, by omega, .inl (by omega), hS, HN⟩
          case measure => simp [intOf]; omega
    · have hb : min i b = b := by omega
      have hi := HI.out
      rw [hb] at hi
      have HI := Lib.hid hi
      clear hb hi
      go_wp2_with fail
      go_end0
      exact ⟨rfl, di, hS, HI.out.1, HI.out.2⟩
end Go.Proofs.YtiknjkgioiknnaaDoor
