/- A layout's numbers, and what is read of bits as a layout. No program here. -/
import Derived.Test.YtegflmaobmibnaaGreatDoorQPlanP
import Derived.Test.YtegflmaobmibnaaGreatDoorQLayOneM
namespace Go.Proofs.YtegflmaobmibnaaGreatDoor
set_option linter.unusedVariables false
set_option linter.unusedSimpArgs false

/-- What is told of a layout, wherever it lies. -/
abbrev XL := Int × Int × List (Int × Int × Int)
structure PL where
  secs : List Sec
  sigs : List (Int × Int)
  exits : List XL
  flanks : List (Int × Int × Int × Int)
  ts : List Int
def Lay.pl (l : Lay) : PL := ⟨l.secs, l.sigs, l.exits.map Exm.pure, l.flanks, timesL l⟩

def portP : Par (Int × Int) := bnd (numP 5) fun s => bnd (numP 2) fun p => retP (s, p)
def stepP : Par (Int × Int × Int) := bnd (numP 5) fun s => bnd (numP 2) fun i => bnd (numP 2) fun o => retP (s, i, o)
def flankP : Par (Int × Int × Int × Int) := bnd (numP 5) fun s => bnd (numP 1) fun w => bnd (numP 5) fun p => bnd (numP 1) fun o => retP (s, w, p, o)
def joinP : Par (Int × Int) := bnd (numP 1) fun b => if b = 1 then portP else retP (-1, 0)
def mkSec (k : Int) (js : List (Int × Int)) (cs : List Int) : Sec :=
  ⟨k, (js[0]?.getD (-1, 0)).1, (js[0]?.getD (-1, 0)).2, (js[1]?.getD (-1, 0)).1, (js[1]?.getD (-1, 0)).2, (js[2]?.getD (-1, 0)).1, (js[2]?.getD (-1, 0)).2, (js[3]?.getD (-1, 0)).1, (js[3]?.getD (-1, 0)).2, cs[0]?.getD 0, cs[1]?.getD 0⟩
def secP : Par Sec := bnd (numP 2) fun k => bnd (manyP joinP (pK k).toNat) fun js => bnd (manyP (numP 2) (nK k).toNat) fun cs => retP (mkSec k js cs)
def exitP : Par XL := bnd portP fun a => bnd (numP 2) fun m => bnd (manyP stepP m.toNat) fun ov => retP (a.1, a.2, ov)
def timeP : Par Int := bnd (numP 10) fun n => retP (n + 1)
def layP : Par PL := bnd (numP 5) fun a => bnd (numP 4) fun b => bnd (numP 4) fun c => bnd (numP 5) fun d =>
  bnd (manyP secP a.toNat) fun ss => bnd (manyP portP b.toNat) fun gs => bnd (manyP exitP c.toNat) fun es => bnd (manyP flankP d.toNat) fun fs => bnd (manyP timeP 7) fun ts => retP ⟨ss, gs, es, fs, ts⟩

def numsPort (p : Int × Int) : List (Int × Nat) := [(p.1, 5), (p.2, 2)]
def numsStep (s : Int × Int × Int) : List (Int × Nat) := [(s.1, 5), (s.2.1, 2), (s.2.2, 2)]
def numsFlank (f : Int × Int × Int × Int) : List (Int × Nat) := [(f.1, 5), (f.2.1, 1), (f.2.2.1, 5), (f.2.2.2, 1)]
def numsJoin (p : Int × Int) : List (Int × Nat) := if p.1 < 0 then [(0, 1)] else (1, 1) :: numsPort p
def numsClass (c : Int) : List (Int × Nat) := [(c, 2)]
def numsTime (t : Int) : List (Int × Nat) := [(t - 1, 10)]
def numsSec (s : Sec) : List (Int × Nat) := (s.k, 2) :: ((s.ports4.take (pK s.k).toNat).flatMap numsJoin ++ ([s.c0, s.c1].take (nK s.k).toNat).flatMap numsClass)
def numsExit (x : XL) : List (Int × Nat) := numsPort (x.1, x.2.1) ++ ((x.2.2.length : Int), 2) :: x.2.2.flatMap numsStep
def numsHead (l : PL) : List (Int × Nat) := [((l.secs.length : Int), 5), ((l.sigs.length : Int), 4), ((l.exits.length : Int), 4), ((l.flanks.length : Int), 5)]
def rowsOf (l : PL) : List (List (Int × Nat)) := numsHead l :: (l.secs.map numsSec ++ (l.sigs.map numsPort ++ (l.exits.map numsExit ++ (l.flanks.map numsFlank ++ [l.ts.flatMap numsTime]))))
def numsL (l : PL) : List (Int × Nat) := (rowsOf l).flatten
theorem numsL_eq (l : PL) : numsL l = numsHead l ++ (l.secs.flatMap numsSec ++ (l.sigs.flatMap numsPort ++ (l.exits.flatMap numsExit ++ (l.flanks.flatMap numsFlank ++ l.ts.flatMap numsTime)))) := by
  simp [numsL, rowsOf, List.flatMap_def]

theorem join_facts {p : Int} {j : Nat} {s q : Int} (h : joinOk p j s q = true) : ((j : Int) < p → (s = -1 ∧ q = 0) ∨ (0 ≤ s ∧ s ≤ 23 ∧ 0 ≤ q ∧ q ≤ 3)) ∧ (¬ (j : Int) < p → s = -1 ∧ q = 0) := by
  unfold joinOk at h
  split at h
  · rename_i hj
    refine ⟨fun _ => ?_, fun hn => absurd hj hn⟩
    unfold mayV withinV at h
    simp at h
    omega
  · rename_i hj
    refine ⟨fun hh => absurd hh hj, fun _ => ?_⟩
    simp at h
    exact h
theorem class_facts {n : Int} {j : Nat} {c : Int} (h : classOk n j c = true) : ((j : Int) < n → 0 ≤ c ∧ c ≤ 3) ∧ (¬ (j : Int) < n → c = 0) := by
  unfold classOk at h
  split at h
  · rename_i hj
    refine ⟨fun _ => ?_, fun hn => absurd hj hn⟩
    unfold withinV at h
    simp at h
    exact h
  · rename_i hj
    refine ⟨fun hh => absurd hh hj, fun _ => by simpa using h⟩
/-- A join as it may be. -/
def JoinIs (p : Int × Int) : Prop := (p.1 = -1 ∧ p.2 = 0) ∨ (0 ≤ p.1 ∧ p.1 ≤ 23 ∧ 0 ≤ p.2 ∧ p.2 ≤ 3)
structure SecIs (s : Sec) : Prop where
  kind : s.k = 1 ∨ s.k = 2 ∨ s.k = 3
  joins : ∀ p ∈ s.ports4, JoinIs p
  rest : ∀ j, (pK s.k).toNat ≤ j → s.ports4[j]?.getD (-1, 0) = (-1, 0)
  class0 : 0 ≤ s.c0 ∧ s.c0 ≤ 3
  class1 : 0 ≤ s.c1 ∧ s.c1 ≤ 3
  rest1 : (nK s.k).toNat ≤ 1 → s.c1 = 0
theorem pK_kind {k : Int} (h : pK k ≠ 0) : k = 1 ∨ k = 2 ∨ k = 3 := by
  unfold pK at h
  split at h
  · exact .inl ‹_›
  · split at h
    · exact .inr (.inl ‹_›)
    · split at h
      · exact .inr (.inr ‹_›)
      · exact absurd rfl h
theorem secIs {s : Sec} (h : rightK s = true) : SecIs s := by
  unfold rightK rightV at h
  simp only [Bool.and_eq_true, bne_iff_ne, ne_eq] at h
  obtain ⟨⟨h0, ⟨⟨h1, h2⟩, h3⟩, h4⟩, h5, h6⟩ := h
  have hk := pK_kind h0
  have j1 := join_facts h1
  have j2 := join_facts h2
  have j3 := join_facts h3
  have j4 := join_facts h4
  have c0 := class_facts h5
  have c1 := class_facts h6
  have all : ∀ {p : Int} {j : Nat} {s q : Int}, ((j : Int) < p → (s = -1 ∧ q = 0) ∨ (0 ≤ s ∧ s ≤ 23 ∧ 0 ≤ q ∧ q ≤ 3)) ∧ (¬ (j : Int) < p → s = -1 ∧ q = 0) → JoinIs (s, q) := fun {p j s q} h => by
    by_cases hj : (j : Int) < p
    · exact h.1 hj
    · exact .inl (h.2 hj)
  have alc : ∀ {n : Int} {j : Nat} {c : Int}, ((j : Int) < n → 0 ≤ c ∧ c ≤ 3) ∧ (¬ (j : Int) < n → c = 0) → 0 ≤ c ∧ c ≤ 3 := fun {n j c} h => by
    by_cases hj : (j : Int) < n
    · exact h.1 hj
    · have := h.2 hj; omega
  refine ⟨hk, ?_, fun j hj => ?_, alc c0, alc c1, fun hn => c1.2 (by omega)⟩
  · intro p hp
    simp only [Sec.ports4, List.mem_cons, List.not_mem_nil, or_false] at hp
    rcases hp with rfl | rfl | rfl | rfl
    · exact all j1
    · exact all j2
    · exact all j3
    · exact all j4
  · rcases j with _ | _ | _ | _ | j
    · obtain ⟨a, b⟩ := j1.2 (by omega)
      show (s.s0, s.q0) = (-1, 0); rw [a, b]
    · obtain ⟨a, b⟩ := j2.2 (by omega)
      show (s.s1, s.q1) = (-1, 0); rw [a, b]
    · obtain ⟨a, b⟩ := j3.2 (by omega)
      show (s.s2, s.q2) = (-1, 0); rw [a, b]
    · obtain ⟨a, b⟩ := j4.2 (by omega)
      show (s.s3, s.q3) = (-1, 0); rw [a, b]
    · rfl

/-- A layout whose numbers have room in their widths. -/
structure Fine (l : PL) : Prop where
  nS : l.secs.length ≤ 24
  nG : l.sigs.length ≤ 12
  nE : l.exits.length ≤ 12
  nF : l.flanks.length ≤ 16
  nT : l.ts.length = 7
  secs : ∀ s ∈ l.secs, SecIs s
  sigs : ∀ p ∈ l.sigs, 0 ≤ p.1 ∧ p.1 < 2 ^ 5 ∧ 0 ≤ p.2 ∧ p.2 < 2 ^ 2
  exits : ∀ x ∈ l.exits, (0 ≤ x.1 ∧ x.1 < 2 ^ 5 ∧ 0 ≤ x.2.1 ∧ x.2.1 < 2 ^ 2) ∧ x.2.2.length ≤ 2 ∧ ∀ s ∈ x.2.2, 0 ≤ s.1 ∧ s.1 < 2 ^ 5 ∧ 0 ≤ s.2.1 ∧ s.2.1 < 2 ^ 2 ∧ 0 ≤ s.2.2 ∧ s.2.2 < 2 ^ 2
  flanks : ∀ f ∈ l.flanks, 0 ≤ f.1 ∧ f.1 < 2 ^ 5 ∧ 0 ≤ f.2.1 ∧ f.2.1 < 2 ^ 1 ∧ 0 ≤ f.2.2.1 ∧ f.2.2.1 < 2 ^ 5 ∧ 0 ≤ f.2.2.2 ∧ f.2.2.2 < 2 ^ 1
  ts : ∀ t ∈ l.ts, 1 ≤ t ∧ t ≤ 1000

theorem kind_there {l : Lay} {s : Int} (h : kindV l s ≠ 0) : 0 ≤ s ∧ s < l.secs.length := by
  unfold kindV at h
  split at h
  · rename_i h0
    refine ⟨h0, ?_⟩
    cases hs : l.secs[s.toNat]? with
    | none => rw [hs] at h; exact absurd rfl h
    | some x => have := (List.getElem?_eq_some_iff.1 hs).1; omega
  · exact absurd rfl h
theorem pK_top (k : Int) : pK k ≤ 4 ∧ 0 ≤ pK k := by unfold pK; split <;> (try split) <;> (try split) <;> omega
theorem nK_top (k : Int) : nK k ≤ 2 ∧ 0 ≤ nK k := by unfold nK; split <;> (try split) <;> (try split) <;> omega
theorem pK_zero : pK 0 = 0 := by decide
theorem nK_zero : nK 0 = 0 := by decide
theorem there_bound {l : Lay} {s p : Int} (h : thereV l s p = true) : 0 ≤ s ∧ s < l.secs.length ∧ 0 ≤ p ∧ p ≤ 3 := by
  unfold thereV withinA at h
  simp only [Bool.and_eq_true, decide_eq_true_eq] at h
  have hp := pK_top (kindV l s)
  have hk : kindV l s ≠ 0 := fun e => by rw [e, pK_zero] at h; omega
  obtain ⟨h1, h2⟩ := kind_there hk
  exact ⟨h1, h2, by omega, by omega⟩
theorem fine_of_right {l : Lay} (h : rightL l = true) : Fine l.pl := by
  obtain ⟨⟨h1, h2, h3, h4, h5⟩, h6, h7, h8, h9, h10⟩ := rightL_iff.1 h
  have hport : ∀ p ∈ portsL l, 0 ≤ p.1 ∧ p.1 < 2 ^ 5 ∧ 0 ≤ p.2 ∧ p.2 < 2 ^ 2 := fun p hp => by
    obtain ⟨a, b, c, d⟩ := there_bound (h8 p hp)
    omega
  refine ⟨by show l.secs.length ≤ 24; omega, by show l.sigs.length ≤ 12; omega, by show (l.exits.map Exm.pure).length ≤ 12; rw [List.length_map]; omega, by show l.flanks.length ≤ 16; omega, rfl, fun s hs => secIs (h7 s hs), fun p hp => hport p ?_, fun x hx => ?_, fun f hf => ?_, fun t ht => ?_⟩
  · exact List.mem_append.2 (.inr (List.mem_append.2 (.inl hp)))
  · obtain ⟨y, hy, rfl⟩ := List.mem_map.1 hx
    refine ⟨hport (y.s, y.q) (List.mem_append.2 (.inr (List.mem_append.2 (.inr (List.mem_map.2 ⟨y, hy, rfl⟩))))), by have := h5 y hy; show y.over.length ≤ 2; omega, fun s hs => ?_⟩
    have hst := step_there (h9 s (List.mem_flatMap.2 ⟨y, hy, hs⟩))
    obtain ⟨a, b, c, d⟩ := there_bound hst.1
    obtain ⟨a', b', c', d'⟩ := there_bound hst.2
    omega
  · have := h10 f hf
    unfold flankV withinA at this
    simp only [Bool.and_eq_true, decide_eq_true_eq, beq_iff_eq, Bool.not_eq_true', beq_eq_false_iff_ne] at this
    obtain ⟨⟨a, b⟩, c, d, e, f'⟩ := this
    have hn := nK_top (kindV l f.1)
    have hk : kindV l f.1 ≠ 0 := fun e => by rw [e, nK_zero] at b; omega
    obtain ⟨k1, k2⟩ := kind_there hk
    have hk' : kindV l f.2.2.1 ≠ 0 := by rw [c]; decide
    obtain ⟨k3, k4⟩ := kind_there hk'
    omega
  · have := h6 t ht
    unfold withinA at this
    simp only [Bool.and_eq_true, decide_eq_true_eq] at this
    exact this

/-! What is put is read. -/
theorem gets_port {p : Int × Int} (h : 0 ≤ p.1 ∧ p.1 < 2 ^ 5 ∧ 0 ≤ p.2 ∧ p.2 < 2 ^ 2) : Gets portP p (numsPort p) :=
  (Gets.bnd (Gets.num h.1 h.2.1) (Gets.bnd (Gets.num h.2.2.1 h.2.2.2) (Gets.ret (p.1, p.2)))).cast rfl rfl
theorem gets_step {s : Int × Int × Int} (h : 0 ≤ s.1 ∧ s.1 < 2 ^ 5 ∧ 0 ≤ s.2.1 ∧ s.2.1 < 2 ^ 2 ∧ 0 ≤ s.2.2 ∧ s.2.2 < 2 ^ 2) : Gets stepP s (numsStep s) :=
  (Gets.bnd (Gets.num h.1 h.2.1) (Gets.bnd (Gets.num h.2.2.1 h.2.2.2.1) (Gets.bnd (Gets.num h.2.2.2.2.1 h.2.2.2.2.2) (Gets.ret (s.1, s.2.1, s.2.2))))).cast rfl rfl
theorem gets_flank {f : Int × Int × Int × Int} (h : 0 ≤ f.1 ∧ f.1 < 2 ^ 5 ∧ 0 ≤ f.2.1 ∧ f.2.1 < 2 ^ 1 ∧ 0 ≤ f.2.2.1 ∧ f.2.2.1 < 2 ^ 5 ∧ 0 ≤ f.2.2.2 ∧ f.2.2.2 < 2 ^ 1) : Gets flankP f (numsFlank f) :=
  (Gets.bnd (Gets.num h.1 h.2.1) (Gets.bnd (Gets.num h.2.2.1 h.2.2.2.1) (Gets.bnd (Gets.num h.2.2.2.2.1 h.2.2.2.2.2.1) (Gets.bnd (Gets.num h.2.2.2.2.2.2.1 h.2.2.2.2.2.2.2) (Gets.ret (f.1, f.2.1, f.2.2.1, f.2.2.2)))))).cast rfl rfl
theorem gets_join {p : Int × Int} (h : JoinIs p) : Gets joinP p (numsJoin p) := by
  obtain ⟨s, q⟩ := p
  rcases h with ⟨h1, h2⟩ | ⟨h1, h2, h3, h4⟩
  · simp only at h1 h2
    subst h1; subst h2
    have : Gets joinP (-1, 0) ([(0, 1)] ++ []) := Gets.bnd (Gets.num (by omega) (by decide)) (by rw [if_neg (by decide)]; exact Gets.ret _)
    exact this
  · simp only at h1 h2 h3 h4
    have hp : Gets portP (s, q) (numsPort (s, q)) := gets_port ⟨h1, by simp only; omega, h3, by simp only; omega⟩
    have : Gets joinP (s, q) ([(1, 1)] ++ numsPort (s, q)) := Gets.bnd (Gets.num (by omega) (by decide)) (by rw [if_pos rfl]; exact hp)
    refine this.cast rfl ?_
    unfold numsJoin
    rw [if_neg (by simp only; omega)]
    rfl
theorem gets_sec {s : Sec} (h : SecIs s) : Gets secP s (numsSec s) := by
  have hk : 0 ≤ s.k ∧ s.k < 2 ^ 2 := by rcases h.kind with e | e | e <;> rw [e] <;> decide
  have hp : (pK s.k).toNat ≤ 4 := by have := pK_top s.k; omega
  have hn : (nK s.k).toNat ≤ 2 := by have := nK_top s.k; omega
  have h1 : Gets (manyP joinP (pK s.k).toNat) (s.ports4.take (pK s.k).toNat) ((s.ports4.take (pK s.k).toNat).flatMap numsJoin) :=
    Gets.many _ _ (by rw [List.length_take]; show min _ 4 = _; omega) fun p hp => gets_join (h.joins p (List.mem_of_mem_take hp))
  have h2 : Gets (manyP (numP 2) (nK s.k).toNat) ([s.c0, s.c1].take (nK s.k).toNat) (([s.c0, s.c1].take (nK s.k).toNat).flatMap numsClass) :=
    Gets.many _ _ (by rw [List.length_take]; show min _ 2 = _; omega) fun c hc => by
      have hc := List.mem_of_mem_take hc
      simp only [List.mem_cons, List.not_mem_nil, or_false] at hc
      have a := h.class0
      have b := h.class1
      rcases hc with rfl | rfl
      · exact Gets.num (by omega) (by omega)
      · exact Gets.num (by omega) (by omega)
  refine (Gets.bnd (Gets.num hk.1 hk.2) (Gets.bnd h1 (Gets.bnd h2 (Gets.ret (mkSec s.k (s.ports4.take (pK s.k).toNat) ([s.c0, s.c1].take (nK s.k).toNat)))))).cast ?_ (by simp [numsSec])
  have hj : ∀ j : Nat, ((s.ports4.take (pK s.k).toNat)[j]?.getD (-1, 0)) = s.ports4[j]?.getD (-1, 0) := fun j => by
    rw [List.getElem?_take]
    split
    · rfl
    · rename_i hh; rw [h.rest j (by omega)]; rfl
  have hc1 : (([s.c0, s.c1].take (nK s.k).toNat)[0]?.getD 0) = s.c0 := by
    have : 1 ≤ (nK s.k).toNat := by rcases h.kind with e | e | e <;> rw [e] <;> decide
    rw [List.getElem?_take, if_pos (by omega)]
    rfl
  have hc2 : (([s.c0, s.c1].take (nK s.k).toNat)[1]?.getD 0) = s.c1 := by
    rw [List.getElem?_take]
    split
    · rfl
    · rename_i hh; rw [h.rest1 (by omega)]; rfl
  unfold mkSec
  rw [hj, hj, hj, hj, hc1, hc2]
  rfl
theorem gets_exit {x : XL} (h : (0 ≤ x.1 ∧ x.1 < 2 ^ 5 ∧ 0 ≤ x.2.1 ∧ x.2.1 < 2 ^ 2) ∧ x.2.2.length ≤ 2 ∧ ∀ s ∈ x.2.2, 0 ≤ s.1 ∧ s.1 < 2 ^ 5 ∧ 0 ≤ s.2.1 ∧ s.2.1 < 2 ^ 2 ∧ 0 ≤ s.2.2 ∧ s.2.2 < 2 ^ 2) : Gets exitP x (numsExit x) :=
  (Gets.bnd (gets_port (p := (x.1, x.2.1)) h.1) (Gets.bnd (Gets.num (n := (x.2.2.length : Int)) (k := 2) (by omega) (by have := h.2.1; omega)) (Gets.bnd (Gets.many _ x.2.2 (by simp) (fun s hs => gets_step (h.2.2 s hs))) (Gets.ret (x.1, x.2.1, x.2.2))))).cast rfl (by simp [numsExit])
theorem gets_lay {l : PL} (h : Fine l) : Gets layP l (numsL l) := by
  have a1 := h.nS
  have a2 := h.nG
  have a3 := h.nE
  have a4 := h.nF
  refine (Gets.bnd (Gets.num (n := (l.secs.length : Int)) (by omega) (by omega)) (Gets.bnd (Gets.num (n := (l.sigs.length : Int)) (by omega) (by omega)) (Gets.bnd (Gets.num (n := (l.exits.length : Int)) (by omega) (by omega)) (Gets.bnd (Gets.num (n := (l.flanks.length : Int)) (by omega) (by omega))
    (Gets.bnd (Gets.many _ l.secs (by simp) (fun s hs => gets_sec (h.secs s hs))) (Gets.bnd (Gets.many _ l.sigs (by simp) (fun s hs => gets_port (h.sigs s hs))) (Gets.bnd (Gets.many _ l.exits (by simp) (fun s hs => gets_exit (h.exits s hs))) (Gets.bnd (Gets.many _ l.flanks (by simp) (fun s hs => gets_flank (h.flanks s hs)))
      (Gets.bnd (Gets.many _ l.ts h.nT (f := numsTime) (fun t ht => ?_)) (Gets.ret l)))))))))).cast rfl (by rw [numsL_eq]; simp [numsHead])
  have := h.ts t ht
  have := Gets.bnd (q := fun n => retP (n + 1)) (Gets.num (n := t - 1) (k := 10) (by omega) (by omega)) (Gets.ret (t - 1 + 1))
  exact this.cast (by omega) rfl

/-! How the readers go. -/
theorem good_port : Good portP := Good.bnd (Good.num _) fun _ => Good.bnd (Good.num _) fun _ => Good.ret _
theorem good_step : Good stepP := Good.bnd (Good.num _) fun _ => Good.bnd (Good.num _) fun _ => Good.bnd (Good.num _) fun _ => Good.ret _
theorem good_flank : Good flankP := Good.bnd (Good.num _) fun _ => Good.bnd (Good.num _) fun _ => Good.bnd (Good.num _) fun _ => Good.bnd (Good.num _) fun _ => Good.ret _
theorem good_join : Good joinP := Good.bnd (Good.num _) fun b => by split; exact good_port; exact Good.ret _
theorem good_sec : Good secP := Good.bnd (Good.num _) fun _ => Good.bnd (Good.many good_join _) fun _ => Good.bnd (Good.many (Good.num _) _) fun _ => Good.ret _
theorem good_exit : Good exitP := Good.bnd good_port fun _ => Good.bnd (Good.num _) fun _ => Good.bnd (Good.many good_step _) fun _ => Good.ret _
theorem good_time : Good timeP := Good.bnd (Good.num _) fun _ => Good.ret _
theorem good_lay : Good layP := Good.bnd (Good.num _) fun _ => Good.bnd (Good.num _) fun _ => Good.bnd (Good.num _) fun _ => Good.bnd (Good.num _) fun _ => Good.bnd (Good.many good_sec _) fun _ => Good.bnd (Good.many good_port _) fun _ =>
  Good.bnd (Good.many good_exit _) fun _ => Good.bnd (Good.many good_flank _) fun _ => Good.bnd (Good.many good_time _) fun _ => Good.ret _
theorem eats_join : Eats joinP 1 := Eats.bnd (k := 0) (Eats.num _) fun b => by
  split
  · exact (Eats.bnd (Eats.num 5) fun _ => Eats.bnd (Eats.num 2) fun _ => Eats.ret _).less (by omega)
  · exact Eats.ret _
theorem eats_sec : Eats secP 0 := (Eats.bnd (k := 0) (Eats.num 2) fun _ => Eats.bnd (j := 0) (k := 0) ((Eats.many eats_join _).less (by omega)) fun _ => Eats.bnd (j := 0) (k := 0) ((Eats.many (Eats.num 2) _).less (by omega)) fun _ => Eats.ret _).less (by omega)
theorem eats_exit : Eats exitP 0 := (Eats.bnd (k := 0) (Eats.bnd (Eats.num 5) fun _ => Eats.bnd (Eats.num 2) fun _ => Eats.ret _) fun _ => Eats.bnd (j := 0) (k := 0) ((Eats.num 2).less (by omega)) fun _ => Eats.bnd (j := 0) (k := 0) ((Eats.many (Eats.bnd (Eats.num 5) fun _ => Eats.bnd (Eats.num 2) fun _ => Eats.bnd (Eats.num 2) fun _ => Eats.ret _) _).less (by omega)) fun _ => Eats.ret _).less (by omega)
theorem eats_port : Eats portP 0 := (Eats.bnd (Eats.num 5) fun _ => Eats.bnd (Eats.num 2) fun _ => Eats.ret _).less (by omega)
theorem eats_flank : Eats flankP 0 := (Eats.bnd (Eats.num 5) fun _ => Eats.bnd (Eats.num 1) fun _ => Eats.bnd (Eats.num 5) fun _ => Eats.bnd (Eats.num 1) fun _ => Eats.ret _).less (by omega)
theorem eats_lay : Eats layP 88 :=
  (Eats.bnd (Eats.num 5) fun _ => Eats.bnd (Eats.num 4) fun _ => Eats.bnd (Eats.num 4) fun _ => Eats.bnd (Eats.num 5) fun _ => Eats.bnd (j := 0) ((Eats.many eats_sec _).less (by omega)) fun _ => Eats.bnd (j := 0) ((Eats.many eats_port _).less (by omega)) fun _ =>
    Eats.bnd (j := 0) ((Eats.many eats_exit _).less (by omega)) fun _ => Eats.bnd (j := 0) ((Eats.many eats_flank _).less (by omega)) fun _ => Eats.bnd (Eats.many (Eats.bnd (Eats.num 10) fun _ => Eats.ret _) 7) fun _ => Eats.ret _).less (by omega)

/-- What is read is of a size that may be, its kinds from 0 to 3. -/
structure Small (l : PL) : Prop where
  nS : l.secs.length ≤ 31
  nG : l.sigs.length ≤ 15
  nE : l.exits.length ≤ 15
  nF : l.flanks.length ≤ 31
  nT : l.ts.length = 7
  kinds : ∀ s ∈ l.secs, 0 ≤ s.k ∧ s.k ≤ 3
  overs : ∀ x ∈ l.exits, x.2.2.length ≤ 3
theorem tells_sec : Tells secP fun s => 0 ≤ s.k ∧ s.k ≤ 3 := Tells.bnd (Tells.num 2) fun k hk => Tells.bnd (Tells.any _) fun _ _ => Tells.bnd (Tells.any _) fun _ _ => Tells.ret ⟨hk.1, by have := hk.2; show k ≤ 3; omega⟩
theorem tells_exit : Tells exitP fun x => x.2.2.length ≤ 3 := Tells.bnd (Tells.any _) fun a _ => Tells.bnd (Tells.num 2) fun m hm => Tells.bnd (Tells.many (Tells.any stepP) _) fun ov ho => Tells.ret (by show ov.length ≤ 3; have := ho.1; have := hm.2; omega)
theorem tells_lay : Tells layP Small := Tells.bnd (Tells.num 5) fun a ha => Tells.bnd (Tells.num 4) fun b hb => Tells.bnd (Tells.num 4) fun c hc => Tells.bnd (Tells.num 5) fun d hd =>
  Tells.bnd (Tells.many tells_sec _) fun ss hs => Tells.bnd (Tells.many (Tells.any portP) _) fun gs hg => Tells.bnd (Tells.many tells_exit _) fun es he => Tells.bnd (Tells.many (Tells.any flankP) _) fun fs hf => Tells.bnd (Tells.many (Tells.any timeP) _) fun ts ht =>
    Tells.ret ⟨by show ss.length ≤ 31; have := hs.1; have := ha.2; omega, by show gs.length ≤ 15; have := hg.1; have := hb.2; omega, by show es.length ≤ 15; have := he.1; have := hc.2; omega, by show fs.length ≤ 31; have := hf.1; have := hd.2; omega, ht.1, hs.2, he.2⟩
end Go.Proofs.YtegflmaobmibnaaGreatDoor
