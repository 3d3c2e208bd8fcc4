/- A layout's bytes: read again, one fewer, one more; whose numbers may be. No program here. -/
import Derived.Test.YtegflmaobmibnaaGreatDoorQPlanE
import Derived.Test.YtegflmaobmibnaaGreatDoorQB
namespace Go.Proofs.YtegflmaobmibnaaGreatDoor
set_option maxRecDepth 100000
set_option linter.unusedVariables false
set_option linter.unusedSimpArgs false

theorem alike_pl {m l : Lay} (h : m.pl = l.pl) : Alike m l := by
  unfold Lay.pl timesL at h
  simp only [PL.mk.injEq, List.cons.injEq, and_true] at h
  obtain ⟨h1, h2, h3, h4, h5, h6, h7, h8, h9, h10, h11⟩ := h
  exact ⟨h1, h2, h3, h4, h5, h6, h7, h8, h9, h10, h11⟩
theorem pl_alike {m l : Lay} (h : Alike m l) : m.pl = l.pl := by
  unfold Lay.pl timesL
  rw [h.secs, h.sigs, h.exits, h.flanks, h.t0, h.t1, h.t2, h.t3, h.t4, h.t5, h.t6]
theorem sameV_pl (m l : Lay) : sameV m l = true ↔ m.pl = l.pl := by
  constructor
  · intro h
    unfold sameV sameT at h
    simp only [Bool.and_eq_true, beq_iff_eq, decide_eq_true_eq, List.map_id] at h
    obtain ⟨⟨h5, h6, h7, h8, h9, h10, h11⟩, h1, h2, h3, h4⟩ := h
    exact pl_alike ⟨h1, h2, h3, h4, h5, h6, h7, h8, h9, h10, h11⟩
  · intro h
    exact alike_same (alike_pl h)
/-- The layout of what is told. -/
def PL.lay (p : PL) (t : Nat → Int) : Lay := ⟨p.secs, none, 0, p.sigs, none, 0, p.exits.map fun x => ⟨x.1, x.2.1, none, 0, x.2.2⟩, none, 0, p.flanks, none, 0, t 0, t 1, t 2, t 3, t 4, t 5, t 6⟩
theorem right_norm (l : Lay) : rightL l = rightL (l.pl.lay fun i => (timesL l).getD i 0) := by
  have h1 : tooV (l.pl.lay fun i => (timesL l).getD i 0) = tooV l := by
    unfold tooV PL.lay Lay.pl
    simp only [List.length_map, List.any_map, List.map_map, Function.comp_def, Exm.pure]
  have h2 : timesL (l.pl.lay fun i => (timesL l).getD i 0) = timesL l := rfl
  have h3 : portsL (l.pl.lay fun i => (timesL l).getD i 0) = portsL l := by
    unfold portsL joinsL PL.lay Lay.pl
    simp only [List.map_map, Function.comp_def, Exm.pure]
  have h4 : stepsL (l.pl.lay fun i => (timesL l).getD i 0) = stepsL l := by
    unfold stepsL PL.lay Lay.pl
    simp only [List.flatMap_map, List.map_map, Function.comp_def, Exm.pure]
  unfold rightL
  rw [h1, h2, h3, h4]
  rfl
theorem right_pl {m l : Lay} (h : m.pl = l.pl) : rightL m = rightL l := by
  have ht : timesL m = timesL l := congrArg PL.ts h
  rw [right_norm m, right_norm l, h, ht]
theorem bits_of (zs : List Int) (hb : ∀ z ∈ zs, IsByte z) : ∃ l, Are zs (8 * (zs.length : Int)) l := by
  have h : rightB zs (8 * (zs.length : Int)) = true := by
    unfold rightB sizeOf8
    simp only [Bool.and_eq_true, Bool.or_eq_true, decide_eq_true_eq]
    exact ⟨⟨by omega, by omega⟩, .inl (by omega)⟩
  obtain ⟨l, h1, h2⟩ := right_unpack zs _ hb h
  exact ⟨l, h1, h2⟩
theorem bitsL_len (p : PL) : (bitsL p).length = 8 * (bytesL p).length ∧ (bitsOf (numsL p)).length ≤ (bitsL p).length ∧ (bitsL p).length < (bitsOf (numsL p)).length + 8 := by
  have h1 : (bytesL p).length = bytesFor (bitsL p).length := pack_length _ _
  have h2 : (bitsL p).length = (bitsOf (numsL p)).length + padN (bitsOf (numsL p)).length := by unfold bitsL; rw [List.length_append, List.length_replicate]
  unfold bytesFor at h1
  unfold padN at h2
  omega
theorem are_bytes (p : PL) : Are (bytesL p) (8 * ((bytesL p).length : Int)) (bitsL p) := ⟨by have := (bitsL_len p).1; omega, rfl⟩
theorem bytes_len {p : PL} (h : Fine p) : 11 ≤ (bytesL p).length ∧ (bytesL p).length ≤ 200 := by
  have h1 := bitsL_len p
  have h2 := fine_bits h
  omega
theorem read_bytes {p : PL} (h : Fine p) (x : List Bool) : layP (bitsL p ++ x) 0 = some (p, (bitsOf (numsL p)).length) := by
  have h1 := gets_lay h [] (List.replicate (padN (bitsOf (numsL p)).length) false ++ x)
  simp only [List.nil_append, List.length_nil, Nat.zero_add] at h1
  unfold bitsL
  rw [List.append_assoc]
  exact h1
theorem bv_take (L : List Bool) (n i : Nat) (h : i < n) : bv (L.take n) i = bv L i := by
  unfold bv
  rw [List.getElem?_take, if_pos h]
theorem pack_take (L : List Bool) (k j : Nat) (hj : j ≤ k) : (pack k L).take j = pack j (L.take (8 * j)) := by
  unfold pack first
  rw [← List.map_take, List.take_range, Nat.min_eq_left hj]
  refine List.map_congr_left fun i hi => ?_
  have hi := List.mem_range.1 hi
  unfold byteOf
  rw [bv_take _ _ _ (by omega), bv_take _ _ _ (by omega), bv_take _ _ _ (by omega), bv_take _ _ _ (by omega), bv_take _ _ _ (by omega), bv_take _ _ _ (by omega), bv_take _ _ _ (by omega), bv_take _ _ _ (by omega)]
theorem are_take {zs : List Int} {l : List Bool} (h : Are zs (8 * (zs.length : Int)) l) (j : Nat) (hj : j ≤ zs.length) : Are (zs.take j) (8 * ((zs.take j).length : Int)) (l.take (8 * j)) := by
  obtain ⟨h1, h2⟩ := h
  have hl : l.length = 8 * zs.length := by omega
  have hz : (zs.take j).length = j := by rw [List.length_take]; omega
  have ht : (l.take (8 * j)).length = 8 * j := by rw [List.length_take]; omega
  refine ⟨by rw [hz, ht]; omega, ?_⟩
  rw [ht, show bytesFor (8 * j) = j by unfold bytesFor; omega]
  conv => lhs; rw [h2]
  exact pack_take _ _ _ (by unfold bytesFor; omega)
/-- Bytes more. -/
theorem more_bits {p : PL} {ys : List Int} {l : List Bool} (h : Are (bytesL p ++ ys) (8 * ((bytesL p ++ ys).length : Int)) l) : ∃ x, l = bitsL p ++ x := by
  have h1 := are_take h (bytesL p).length (by simp)
  rw [List.take_left] at h1
  have h2 := h1.inj (are_bytes p)
  exact ⟨l.drop (8 * (bytesL p).length), by rw [← h2, List.take_append_drop]⟩
end Go.Proofs.YtegflmaobmibnaaGreatDoor
