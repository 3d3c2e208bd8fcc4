/- What follows of rules: layouts with less, with one more; overlaps are paths of their own. -/
import Derived.Test.YtljpiafopbfdlaaQAh
import Derived.Test.YtljpiafopbfdlaaQAi
namespace Go.Proofs.Ytljpiafopbfdlaa
open Go.RowKit Go.Shelf
set_option linter.unusedVariables false
set_option linter.unusedSimpArgs false

/-- Of the same sections and times; with signals, exits, flanks that are there, or may be. -/
structure Part (m l : Lay) : Prop where
  secs : m.secs = l.secs
  times : timesL m = timesL l
  sigs : ∀ p ∈ m.sigs, p ∈ l.sigs
  exits : ∀ x ∈ m.exits, ∃ y ∈ l.exits, y.pure = x.pure
  flanks : ∀ f ∈ m.flanks, flankV l f.1 f.2.1 f.2.2.1 f.2.2.2 = true
  nG : m.sigs.length ≤ 12
  nE : m.exits.length ≤ 12
  nF : m.flanks.length ≤ 16
theorem Part.right {m l : Lay} (h : Part m l) (hr : rightL l = true) : rightL m = true := by
  obtain ⟨⟨h1, h2, h3, h4, h5⟩, h6, h7, h8, h9, h10⟩ := rightL_iff.1 hr
  have hs := h.secs
  have kv : kindV m = kindV l := by funext s; unfold kindV; rw [hs]
  have tv : thereV m = thereV l := by funext s p; unfold thereV; rw [kv]
  have sv : stepV m = stepV l := by funext s i o; unfold stepV; rw [kv]
  have fv : flankV m = flankV l := by funext a b c d; unfold flankV; rw [kv]
  have hpure : ∀ x y : Exm, y.pure = x.pure → (y.s = x.s ∧ y.q = x.q) ∧ y.over = x.over := fun x y e => by
    unfold Exm.pure at e
    simp only [Prod.mk.injEq] at e
    exact ⟨⟨e.1, e.2.1⟩, e.2.2⟩
  refine rightL_iff.2 ⟨⟨by rw [hs]; exact h1, by have := h.nG; omega, by have := h.nE; omega, by have := h.nF; omega, fun x hx => ?_⟩, by rw [h.times]; exact h6, by rw [hs]; exact h7, fun p hp => ?_, fun s hs' => ?_, fun f hf => by rw [fv]; exact h.flanks f hf⟩
  · obtain ⟨y, hy, e⟩ := h.exits x hx
    rw [← (hpure x y e).2]
    exact h5 y hy
  · rw [tv]
    refine h8 p ?_
    unfold portsL joinsL at hp ⊢
    rw [hs] at hp
    rcases List.mem_append.1 hp with hp | hp
    · exact List.mem_append_left _ hp
    · refine List.mem_append_right _ ?_
      rcases List.mem_append.1 hp with hp | hp
      · exact List.mem_append_left _ (h.sigs p hp)
      · refine List.mem_append_right _ ?_
        obtain ⟨x, hx, rfl⟩ := List.mem_map.1 hp
        obtain ⟨y, hy, e⟩ := h.exits x hx
        exact List.mem_map.2 ⟨y, hy, Prod.ext (hpure x y e).1.1 (hpure x y e).1.2⟩
  · rw [sv]
    refine h9 s ?_
    unfold stepsL at hs' ⊢
    obtain ⟨x, hx, hm⟩ := List.mem_flatMap.1 hs'
    obtain ⟨y, hy, e⟩ := h.exits x hx
    exact List.mem_flatMap.2 ⟨y, hy, by rw [(hpure x y e).2]; exact hm⟩
theorem beyondV_secs {m l : Lay} (h : m.secs = l.secs) (s p : Int) : beyondV m s p = beyondV l s p := beyondV_at (kindV_secs h) (by rw [h]) p
theorem overGo_secs {m l : Lay} (h : m.secs = l.secs) : ∀ (r : List (Int × Int × Int)) (p : Int × Int) (seen : List Int), overGo m p seen r = overGo l p seen r
  | [], _, _ => rfl
  | s :: r, p, seen => by
    unfold overGo
    rw [beyondV_secs h, overGo_secs h r]
theorem overV_pure {m l : Lay} (h : m.secs = l.secs) {x y : Exm} (e : y.pure = x.pure) : overV m x = overV l y := by
  unfold Exm.pure at e
  simp only [Prod.mk.injEq] at e
  unfold overV
  rw [overGo_secs h, e.1, e.2.1, e.2.2]
theorem Part.hangs {m l : Lay} (h : Part m l) (hr : rightL l = true) (hj : joinedL l = true) (hg : NoTwo sameG m.sigs) (he : NoTwo sameE m.exits) (ho : ∀ x ∈ m.exits, overV l x = true) (hf : NoTwo sameF m.flanks) : rightT m = true :=
  hangs_iff.2 ⟨h.right hr, by rw [joinedL_secs h.secs]; exact hj, hg, he, fun x hx => by rw [overV_pure h.secs (rfl : x.pure = x.pure)]; exact ho x hx, hf⟩
/-- With fewer signals, exits, flanks. -/
theorem part_take {m l : Lay} (hr : rightL l = true) (hs : m.secs = l.secs) (ht : timesL m = timesL l) {a b c : Nat} (hg : m.sigs = l.sigs.take a) (he : m.exits = l.exits.take b) (hf : m.flanks = l.flanks.take c) : Part m l := by
  obtain ⟨h1, h2, h3, h4, h5⟩ := own_lens hr
  refine ⟨hs, ht, fun p hp => List.mem_of_mem_take (by rw [← hg]; exact hp), fun x hx => ⟨x, List.mem_of_mem_take (by rw [← he]; exact hx), rfl⟩, fun f hf' => (rightL_iff.1 hr).2.2.2.2.2 f (List.mem_of_mem_take (by rw [← hf]; exact hf')), ?_, ?_, ?_⟩
  · rw [hg, List.length_take]; omega
  · rw [he, List.length_take]; omega
  · rw [hf, List.length_take]; omega
theorem less_hangs {m l : Lay} (h : Hangs l) (hs : m.secs = l.secs) (ht : timesL m = timesL l) {a b c : Nat} (hg : m.sigs = l.sigs.take a) (he : m.exits = l.exits.take b) (hf : m.flanks = l.flanks.take c) : rightT m = true :=
  (part_take h.right hs ht hg he hf).hangs h.right h.joined (by rw [hg]; exact h.sigs.take a) (by rw [he]; exact h.exits.take b) (fun x hx => h.overs x (List.mem_of_mem_take (by rw [← he]; exact hx))) (by rw [hf]; exact h.flanks.take c)

/-- Which rule is first. -/
theorem first_ways {l : Lay} (hr : rightL l = true) :
    (checkV l = (0, 0, 0) ∧ Hangs l) ∨ (checkV l = (1, 0, 90) ∧ joinedL l = false) ∨
    (∃ n : Nat, checkV l = (2, (n : Int), 90) ∧ joinedL l = true ∧ 0 < n ∧ n < l.sigs.length) ∨
    (∃ n : Nat, checkV l = (3, (n : Int), 90) ∧ joinedL l = true ∧ NoTwo sameG l.sigs ∧ 0 < n ∧ n < l.exits.length) ∨
    (∃ n : Nat, checkV l = (4, (n : Int), 90) ∧ joinedL l = true ∧ NoTwo sameG l.sigs ∧ NoTwo sameE l.exits ∧ n < l.exits.length ∧ ∀ x ∈ l.exits.take n, overV l x = true) ∨
    (∃ n : Nat, checkV l = (5, (n : Int), 90) ∧ joinedL l = true ∧ NoTwo sameG l.sigs ∧ NoTwo sameE l.exits ∧ (∀ x ∈ l.exits, overV l x = true) ∧ n < l.flanks.length) := by
  rcases check_ways l with ⟨h, _⟩ | ⟨_, ⟨k, hk, hb, ha, e⟩ | ⟨ha, e⟩⟩
  · rw [hr] at h; cases h
  · rcases (show k = 0 ∨ k = 1 ∨ k = 2 ∨ k = 3 ∨ k = 4 by omega) with rfl | rfl | rfl | rfl | rfl
    · have hj : (!joinedL l) = true := hb
      exact .inr (.inl ⟨by rw [e]; rfl, by simpa using hj⟩)
    · obtain ⟨n, hn, h0, h1, _⟩ := second_yes (same := sameG) (l := l.sigs) rfl hb
      exact .inr (.inr (.inl ⟨n, by rw [e]; show ((1 : Int) + 1, (secondV sameG l.sigs).1, (90 : Int)) = _; rw [hn]; rfl, rule0 (ha 0 (by omega)), h0, h1⟩))
    · obtain ⟨n, hn, h0, h1, _⟩ := second_yes (same := sameE) (l := l.exits) rfl hb
      exact .inr (.inr (.inr (.inl ⟨n, by rw [e]; show ((2 : Int) + 1, (secondV sameE l.exits).1, (90 : Int)) = _; rw [hn]; rfl, rule0 (ha 0 (by omega)), rule1 (ha 1 (by omega)), h0, h1⟩)))
    · obtain ⟨n, hn, h1, h2, _⟩ := wrong_yes (l := l) rfl hb
      exact .inr (.inr (.inr (.inr (.inl ⟨n, by rw [e]; show ((3 : Int) + 1, (wrongV l).1, (90 : Int)) = _; rw [hn]; rfl, rule0 (ha 0 (by omega)), rule1 (ha 1 (by omega)), rule2 (ha 2 (by omega)), h1, h2⟩))))
    · obtain ⟨n, hn, h0, h1, _⟩ := second_yes (same := sameF) (l := l.flanks) rfl hb
      exact .inr (.inr (.inr (.inr (.inr ⟨n, by rw [e]; show ((4 : Int) + 1, (secondV sameF l.flanks).1, (90 : Int)) = _; rw [hn]; rfl, rule0 (ha 0 (by omega)), rule1 (ha 1 (by omega)), rule2 (ha 2 (by omega)), rule3 (ha 3 (by omega)), h1⟩))))
  · exact .inl ⟨e, rule0 (ha 0 (by omega)) |> fun h0 => ⟨hr, h0, rule1 (ha 1 (by omega)), rule2 (ha 2 (by omega)), rule3 (ha 3 (by omega)), rule4 (ha 4 (by omega))⟩⟩

/-- With one more that is there already. -/
theorem once_sig {m l : Lay} (h : Hangs l) (hs : m.secs = l.secs) (ht : timesL m = timesL l) {i : Nat} {y : Int × Int} (hi : l.sigs[i]? = some y) (hn : l.sigs.length < 12) (hg : m.sigs = l.sigs ++ [y]) (he : m.exits = l.exits) (hf : m.flanks = l.flanks) : checkV m = (2, (l.sigs.length : Int), 90) := by
  obtain ⟨h1, h2, h3, h4, h5⟩ := own_lens h.right
  have hp : Part m l := ⟨hs, ht, fun p hp => by rw [hg] at hp; rcases List.mem_append.1 hp with hp | hp; exact hp; rw [List.mem_singleton.1 hp]; exact List.mem_of_getElem? hi, fun x hx => ⟨x, by rw [← he]; exact hx, rfl⟩, fun f hf' => (rightL_iff.1 h.right).2.2.2.2.2 f (by rw [← hf]; exact hf'), by rw [hg, List.length_append, List.length_singleton]; omega, by rw [he]; exact h3, by rw [hf]; exact h4⟩
  have h2 : ruleV m 1 = ((l.sigs.length : Int), true) := by
    show secondV sameG m.sigs = _
    rw [hg]
    exact second_last h.sigs hi (by unfold sameG; simp)
  rw [check_at (k := 1) (hp.right h.right) (by omega) (by rw [h2]) (fun i hi => by
    obtain rfl : i = 0 := by omega
    show (!joinedL m) = false
    rw [joinedL_secs hs, h.joined]; rfl), h2]
  rfl
theorem once_exit {m l : Lay} (h : Hangs l) (hs : m.secs = l.secs) (ht : timesL m = timesL l) {i : Nat} {y : Exm} (hi : l.exits[i]? = some y) (hn : l.exits.length < 12) (hg : m.sigs = l.sigs) (he : m.exits = l.exits ++ [y]) (hf : m.flanks = l.flanks) : checkV m = (3, (l.exits.length : Int), 90) := by
  obtain ⟨h1, h2, h3, h4, h5⟩ := own_lens h.right
  have hp : Part m l := ⟨hs, ht, fun p hp => by rw [← hg]; exact hp, fun x hx => ⟨x, by rw [he] at hx; rcases List.mem_append.1 hx with hx | hx; exact hx; rw [List.mem_singleton.1 hx]; exact List.mem_of_getElem? hi, rfl⟩, fun f hf' => (rightL_iff.1 h.right).2.2.2.2.2 f (by rw [← hf]; exact hf'), by rw [hg]; exact h2, by rw [he, List.length_append, List.length_singleton]; omega, by rw [hf]; exact h4⟩
  have h2 : ruleV m 2 = ((l.exits.length : Int), true) := by
    show secondV sameE m.exits = _
    rw [he]
    exact second_last h.exits hi (by unfold sameE; simp)
  rw [check_at (k := 2) (hp.right h.right) (by omega) (by rw [h2]) (fun i hi => by
    rcases (show i = 0 ∨ i = 1 by omega) with rfl | rfl
    · show (!joinedL m) = false
      rw [joinedL_secs hs, h.joined]; rfl
    · show (secondV sameG m.sigs).2 = false
      rw [hg, second_no.2 h.sigs]), h2]
  rfl
theorem once_flank {m l : Lay} (h : Hangs l) (hs : m.secs = l.secs) (ht : timesL m = timesL l) {i : Nat} {a b c d : Int} (hi : l.flanks[i]? = some (a, b, c, d)) (hn : l.flanks.length < 16) (hg : m.sigs = l.sigs) (he : m.exits = l.exits) (hf : m.flanks = l.flanks ++ [(a, b, c, 1 - d)]) : checkV m = (5, (l.flanks.length : Int), 90) := by
  obtain ⟨h1, h2, h3, h4, h5⟩ := own_lens h.right
  have hfl := (rightL_iff.1 h.right).2.2.2.2.2
  have hp : Part m l := ⟨hs, ht, fun p hp => by rw [← hg]; exact hp, fun x hx => ⟨x, by rw [← he]; exact hx, rfl⟩, fun f hf' => by
    rw [hf] at hf'
    rcases List.mem_append.1 hf' with hf' | hf'
    · exact hfl f hf'
    · rw [List.mem_singleton.1 hf']
      have := hfl _ (List.mem_of_getElem? hi)
      unfold flankV at this ⊢
      simp only [Bool.and_eq_true] at this ⊢
      refine ⟨this.1, this.2.1, this.2.2.1, ?_⟩
      have h6 := withinA_iff.1 this.2.2.2
      exact withinA_iff.2 (by omega), by rw [hg]; exact h2, by rw [he]; exact h3, by rw [hf, List.length_append, List.length_singleton]; omega⟩
  have h2 : ruleV m 4 = ((l.flanks.length : Int), true) := by
    show secondV sameF m.flanks = _
    rw [hf]
    exact second_last h.flanks hi (by unfold sameF; simp)
  rw [check_at (k := 4) (hp.right h.right) (by omega) (by rw [h2]) (fun i hi => by
    rcases (show i = 0 ∨ i = 1 ∨ i = 2 ∨ i = 3 by omega) with rfl | rfl | rfl | rfl
    · show (!joinedL m) = false
      rw [joinedL_secs hs, h.joined]; rfl
    · show (secondV sameG m.sigs).2 = false
      rw [hg, second_no.2 h.sigs]
    · show (secondV sameE m.exits).2 = false
      rw [he, second_no.2 h.exits]
    · show (wrongV m).2 = false
      rw [wrong_no.2 (fun x hx => by rw [overV_pure hs (rfl : x.pure = x.pure)]; exact h.overs x (by rw [← he]; exact hx))]), h2]
  rfl

/-- Where whoever goes by those steps stands. -/
def wayAt : Int × Int → List (Int × Int × Int) → Nat → Int × Int
  | p, _, 0 => p
  | p, [], _ + 1 => p
  | _, s :: r, k + 1 => wayAt (s.1, s.2.2) r k
theorem wayAt_next : ∀ (r : List (Int × Int × Int)) (p : Int × Int) (k : Nat) (s : Int × Int × Int), r[k]? = some s → wayAt p r (k + 1) = (s.1, s.2.2)
  | [], p, k, s, h => by simp at h
  | t :: r, p, 0, s, h => by
    have : t = s := by simpa using h
    subst this
    cases r <;> rfl
  | t :: r, p, k + 1, s, h => by
    show wayAt (t.1, t.2.2) r (k + 1) = _
    exact wayAt_next r _ k s (by simpa using h)
theorem over_path {l : Lay} (hj : joinedL l = true) : ∀ (r : List (Int × Int × Int)) (p : Int × Int) (seen : List Int), (∀ s ∈ r, 0 ≤ s.1) → overGo l p seen r = true → ∀ (k : Nat) (s : Int × Int × Int), r[k]? = some s →
    (beyondV l (wayAt p r k).1 (wayAt p r k).2 = (s.1, s.2.1) ∧ beyondV l s.1 s.2.1 = wayAt p r k) ∧ s.1 ∉ seen ∧ ∀ (i : Nat) (t : Int × Int × Int), i < k → r[i]? = some t → t.1 ≠ s.1
  | [], p, seen, _, _, k, s, h => by simp at h
  | t :: r, p, seen, h0, hg, k, s, h => by
    unfold overGo at hg
    simp only [Bool.and_eq_true, decide_eq_true_eq, Bool.not_eq_true'] at hg
    obtain ⟨hb, hn, hg⟩ := hg
    match k, h with
    | 0, h =>
      have : t = s := by simpa using h
      subst this
      refine ⟨⟨hb, ?_⟩, fun hm => ?_, fun i t hi => by omega⟩
      · rcases joined_back hj hb with e | ⟨_, _, _, _, e⟩
        · have := h0 t (by simp)
          rw [Prod.mk.injEq] at e
          omega
        · exact e
      · have : seen.contains t.1 = true := List.contains_iff_mem.2 hm
        rw [hn] at this
        cases this
    | k + 1, h =>
      have ih := over_path hj r (t.1, t.2.2) (seen ++ [t.1]) (fun s hs => h0 s (List.mem_cons_of_mem _ hs)) hg k s (by simpa using h)
      refine ⟨ih.1, fun hm => ih.2.1 (List.mem_append_left _ hm), fun i u hi hu => ?_⟩
      match i, hu with
      | 0, hu =>
        have : t = u := by simpa using hu
        subst this
        intro e
        exact ih.2.1 (List.mem_append_right _ (by rw [e]; simp))
      | i + 1, hu => exact ih.2.2 i u (by omega) (by simpa using hu)
end Go.Proofs.Ytljpiafopbfdlaa
