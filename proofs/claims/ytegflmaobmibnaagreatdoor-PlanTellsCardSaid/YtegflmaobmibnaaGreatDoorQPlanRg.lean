/- The parts of a layout's numbers, one behind the other. No program here. -/
import Derived.Test.YtegflmaobmibnaaGreatDoorQPlanY
import Derived.Test.YtegflmaobmibnaaGreatDoorQPlanM
namespace Go.Proofs.YtegflmaobmibnaaGreatDoor
set_option linter.unusedVariables false
set_option linter.unusedSimpArgs false

/-- A part of numbers behind others: what lies there so far has room, and what comes fits. -/
structure Part {α : Type} (B : List (Int × Nat)) (xs : List α) (f : α → List (Int × Nat)) : Prop where
  room : ∀ j : Nat, (bitsOf (B ++ (xs.take j).flatMap f)).length ≤ 1600
  next : ∀ (j : Nat) (x : α), xs[j]? = some x → bitsOf (B ++ (xs.take (j + 1)).flatMap f) = bitsOf (B ++ (xs.take j).flatMap f) ++ bitsOf (f x)
  fit : ∀ (j : Nat) (x : α), xs[j]? = some x → ∀ q ∈ f x, FitN q
theorem part_of {α : Type} {l : PL} (h : Fine l) {B R : List (Int × Nat)} {xs : List α} {f : α → List (Int × Nat)} (e : numsL l = B ++ (xs.flatMap f ++ R)) : Part B xs f := by
  refine ⟨fun j => ?_, fun j x hx => ?_, fun j x hx q hq => ?_⟩
  · have h1 := (fine_bits h).1
    have h2 : xs.flatMap f = (xs.take j).flatMap f ++ (xs.drop j).flatMap f := by rw [← List.flatMap_append, List.take_append_drop]
    rw [e, h2, show B ++ (((xs.take j).flatMap f ++ (xs.drop j).flatMap f) ++ R) = (B ++ (xs.take j).flatMap f) ++ ((xs.drop j).flatMap f ++ R) by simp] at h1
    have h3 := bits_prefix (B ++ (xs.take j).flatMap f) ((xs.drop j).flatMap f ++ R)
    omega
  · rw [take_flat f _ _ _ hx, ← List.append_assoc, bitsOf_append]
  · refine fine_fit h q ?_
    rw [e]
    exact List.mem_append_right _ (List.mem_append_left _ (List.mem_flatMap.2 ⟨x, List.mem_of_getElem? hx, hq⟩))
theorem part_in {α β : Type} {l : PL} (h : Fine l) {B R H : List (Int × Nat)} {xs : List α} {f : α → List (Int × Nat)} (e : numsL l = B ++ (xs.flatMap f ++ R)) {j : Nat} {x : α} (hx : xs[j]? = some x) {ys : List β} {g : β → List (Int × Nat)} (ef : f x = H ++ ys.flatMap g) : Part ((B ++ (xs.take j).flatMap f) ++ H) ys g := by
  refine part_of h (R := (xs.drop (j + 1)).flatMap f ++ R) ?_
  have h2 : xs.flatMap f = ((xs.take j).flatMap f ++ f x) ++ (xs.drop (j + 1)).flatMap f := by rw [← take_flat f _ _ _ hx, ← List.flatMap_append, List.take_append_drop]
  rw [e, h2, ef]
  simp
/-- What a layout's numbers begin with, part by part. -/
def baseG (l : PL) : List (Int × Nat) := numsHead l ++ l.secs.flatMap numsSec
def baseE (l : PL) : List (Int × Nat) := baseG l ++ l.sigs.flatMap numsPort
def baseF (l : PL) : List (Int × Nat) := baseE l ++ l.exits.flatMap numsExit
def baseT (l : PL) : List (Int × Nat) := baseF l ++ l.flanks.flatMap numsFlank
abbrev numsExm (x : Exm) : List (Int × Nat) := numsExit x.pure
theorem exits_eq (m : Lay) : numsL m.pl = baseE m.pl ++ (m.exits.flatMap numsExm ++ (m.pl.flanks.flatMap numsFlank ++ m.pl.ts.flatMap numsTime)) := by
  rw [numsL_eq]; unfold baseE baseG
  have e : m.pl.exits.flatMap numsExit = m.exits.flatMap numsExm := by show (m.exits.map Exm.pure).flatMap numsExit = _; rw [List.flatMap_map]
  rw [e]
  simp
section
variable {m : Lay} (h : Fine m.pl)
include h
theorem part_secs : Part (numsHead m.pl) m.secs numsSec := part_of h (by rw [numsL_eq]; rfl)
theorem part_sigs : Part (baseG m.pl) m.sigs numsPort := part_of h (R := m.pl.exits.flatMap numsExit ++ (m.pl.flanks.flatMap numsFlank ++ m.pl.ts.flatMap numsTime)) (by rw [numsL_eq]; unfold baseG; simp [Lay.pl])
theorem part_exits : Part (baseE m.pl) m.exits numsExm := part_of h (exits_eq m)
theorem part_flanks : Part (baseF m.pl) m.flanks numsFlank := part_of h (R := m.pl.ts.flatMap numsTime) (by rw [numsL_eq]; unfold baseF baseE baseG; simp [Lay.pl])
theorem part_times : Part (baseT m.pl) (timesL m) numsTime := part_of h (R := []) (by rw [numsL_eq]; unfold baseT baseF baseE baseG; simp [Lay.pl])
theorem part_over {j : Nat} {x : Exm} (hx : m.exits[j]? = some x) : Part ((baseE m.pl ++ (m.exits.take j).flatMap numsExm) ++ [(x.s, 5), (x.q, 2), ((x.over.length : Int), 2)]) x.over numsStep := part_in h (exits_eq m) hx (by simp [numsExm, numsExit, numsPort, Exm.pure])
end
theorem base_secs (m : Lay) : bitsOf (numsHead m.pl ++ (m.secs.take m.secs.length).flatMap numsSec) = bitsOf (baseG m.pl ++ (m.sigs.take 0).flatMap numsPort) := by simp [baseG, Lay.pl]
theorem base_sigs (m : Lay) : bitsOf (baseG m.pl ++ (m.sigs.take m.sigs.length).flatMap numsPort) = bitsOf (baseE m.pl ++ (m.exits.take 0).flatMap numsExm) := by simp [baseE, Lay.pl]
theorem base_exits (m : Lay) : bitsOf (baseE m.pl ++ (m.exits.take m.exits.length).flatMap numsExm) = bitsOf (baseF m.pl ++ (m.flanks.take 0).flatMap numsFlank) := by
  have e : m.pl.exits.flatMap numsExit = m.exits.flatMap numsExm := by show (m.exits.map Exm.pure).flatMap numsExit = _; rw [List.flatMap_map]
  simp [baseF, e]
theorem base_flanks (m : Lay) : bitsOf (baseF m.pl ++ (m.flanks.take m.flanks.length).flatMap numsFlank) = bitsOf (baseT m.pl ++ ((timesL m).take 0).flatMap numsTime) := by simp [baseT, Lay.pl]
theorem base_times (m : Lay) : bitsOf (baseT m.pl ++ ((timesL m).take 7).flatMap numsTime) = bitsOf (numsL m.pl) := by
  rw [numsL_eq]; unfold baseT baseF baseE baseG
  have e : (timesL m).take 7 = m.pl.ts := rfl
  rw [e]; simp
theorem step_bits (s : Int × Int × Int) : bitsOf (numsStep s) = (bitsN (s.1, 5) ++ bitsN (s.2.1, 2)) ++ bitsN (s.2.2, 2) := by simp [numsStep, bitsOf]
theorem port_bits (s : Int × Int) : bitsOf (numsPort s) = bitsN (s.1, 5) ++ bitsN (s.2, 2) := by simp [numsPort, bitsOf]
theorem flank_bits (s : Int × Int × Int × Int) : bitsOf (numsFlank s) = ((bitsN (s.1, 5) ++ bitsN (s.2.1, 1)) ++ bitsN (s.2.2.1, 5)) ++ bitsN (s.2.2.2, 1) := by simp [numsFlank, bitsOf]
theorem time_bits (t : Int) : bitsOf (numsTime t) = bitsN (t - 1, 10) := by simp [numsTime, bitsOf]
end Go.Proofs.YtegflmaobmibnaaGreatDoor
