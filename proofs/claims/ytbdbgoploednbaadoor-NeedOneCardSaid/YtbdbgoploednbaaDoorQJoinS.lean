/- slices.Sort and slices.Compact at rows of ints of the call's own; what they make of a row. -/
import Derived.Test.YtbdbgoploednbaaDoorQPick
import Derived.Test.YtbdbgoploednbaaDoorQL
import Derived.Ground.NamesProg
import Derived.Ground.Names2Prog
import Derived.Shelf.Sort.Plain
import Derived.Shelf.Slices.In.SortNone
import Derived.Shelf.Slices.CompactI
import Derived.Sort.OwnSorted
import Derived.Sort.Grow
import Derived.Lib.OwnBridge
namespace Go.Proofs
open Go.Shelf
def Tryd.laysSort_ren : Go.Shelf.Ren := ⟨fun | 189 => 27 | 125 => 43 | 257 => 42 | 128 => 65 | 129 => 66 | 294 => 56 | 295 => 57 | 296 => 58 | 297 => 59 | 298 => 60 | 299 => 61 | 216 => 62 | 300 => 63 | 301 => 64 | 328 => 73 | 329 => 74 | 330 => 75 | 331 => 76 | 332 => 77 | 215 => 78 | 343 => 83 | n => n, fun | 28 => 38 | 3 => 3 | 46 => 85 | 0 => 0 | 51 => 109 | 53 => 111 | 4 => 4 | 183 => 102 | 182 => 101 | 131 => 36 | 5 => 5 | 9 => 9 | 218 => 117 | 222 => 121 | 228 => 126 | 229 => 127 | n => n, fun | n => n⟩
theorem Tryd.laysSort : Go.Proofs.Lays.n189 Tryd.prog Tryd.laysSort_ren := {
  mixed := by kernel_rfl
  f125 := Tryd.func43.trans (congrArg some (by kernel_rfl))
  f128 := Tryd.func65.trans (congrArg some (by kernel_rfl))
  f129 := Tryd.func66.trans (congrArg some (by kernel_rfl))
  f189 := Tryd.func27.trans (congrArg some (by kernel_rfl))
  f215 := Tryd.func78.trans (congrArg some (by kernel_rfl))
  f216 := Tryd.func62.trans (congrArg some (by kernel_rfl))
  f257 := Tryd.func42.trans (congrArg some (by kernel_rfl))
  f294 := Tryd.func56.trans (congrArg some (by kernel_rfl))
  f295 := Tryd.func57.trans (congrArg some (by kernel_rfl))
  f296 := Tryd.func58.trans (congrArg some (by kernel_rfl))
  f297 := Tryd.func59.trans (congrArg some (by kernel_rfl))
  f298 := Tryd.func60.trans (congrArg some (by kernel_rfl))
  f299 := Tryd.func61.trans (congrArg some (by kernel_rfl))
  f300 := Tryd.func63.trans (congrArg some (by kernel_rfl))
  f301 := Tryd.func64.trans (congrArg some (by kernel_rfl))
  f328 := Tryd.func73.trans (congrArg some (by kernel_rfl))
  f329 := Tryd.func74.trans (congrArg some (by kernel_rfl))
  f330 := Tryd.func75.trans (congrArg some (by kernel_rfl))
  f331 := Tryd.func76.trans (congrArg some (by kernel_rfl))
  f332 := Tryd.func77.trans (congrArg some (by kernel_rfl))
  f343 := Tryd.func83.trans (congrArg some (by kernel_rfl))
  t0 := Tryd.underlying0
  a0 := Tryd.isAgg0
  z0 := Tryd.sizeOf0
  v0 := Tryd.zeroValue0
  t3 := Tryd.underlying3
  a3 := Tryd.isAgg3
  z3 := Tryd.sizeOf3
  v3 := Tryd.zeroValue3
  t4 := Tryd.underlying4
  a4 := Tryd.isAgg4
  z4 := Tryd.sizeOf4
  v4 := Tryd.zeroValue4
  t5 := Tryd.underlying5
  a5 := Tryd.isAgg5
  z5 := Tryd.sizeOf5
  v5 := Tryd.zeroValue5
  t9 := Tryd.underlying9
  a9 := Tryd.isAgg9
  z9 := Tryd.sizeOf9
  v9 := Tryd.zeroValue9
  t28 := Tryd.underlying38
  a28 := Tryd.isAgg38
  z28 := Tryd.sizeOf38
  v28 := Tryd.zeroValue38
  t46 := Tryd.underlying85
  a46 := Tryd.isAgg85
  z46 := Tryd.sizeOf85
  v46 := Tryd.zeroValue85
  t51 := Tryd.underlying109
  a51 := Tryd.isAgg109
  z51 := Tryd.sizeOf109
  v51 := Tryd.zeroValue109
  t53 := Tryd.underlying111
  a53 := Tryd.isAgg111
  z53 := Tryd.sizeOf111
  v53 := Tryd.zeroValue111
  t131 := Tryd.underlying36
  a131 := Tryd.isAgg36
  z131 := Tryd.sizeOf36
  v131 := Tryd.zeroValue36
  t182 := Tryd.underlying101
  a182 := Tryd.isAgg101
  z182 := Tryd.sizeOf101
  v182 := Tryd.zeroValue101
  t183 := Tryd.underlying102
  a183 := Tryd.isAgg102
  z183 := Tryd.sizeOf102
  v183 := Tryd.zeroValue102
  t218 := Tryd.underlying117
  a218 := Tryd.isAgg117
  z218 := Tryd.sizeOf117
  v218 := Tryd.zeroValue117
  t222 := Tryd.underlying121
  a222 := Tryd.isAgg121
  z222 := Tryd.sizeOf121
  v222 := Tryd.zeroValue121
  t228 := Tryd.underlying126
  a228 := Tryd.isAgg126
  z228 := Tryd.sizeOf126
  v228 := Tryd.zeroValue126
  t229 := Tryd.underlying127
  a229 := Tryd.isAgg127
  z229 := Tryd.sizeOf127
  v229 := Tryd.zeroValue127 }
def Tryd.laysCompact_ren : Go.Shelf.Ren := ⟨fun | 20 => 28 | n => n, fun | 22 => 38 | 3 => 3 | 4 => 4 | 0 => 0 | n => n, fun | n => n⟩
theorem Tryd.laysCompact : Go.Proofs.Lays2.n20 Tryd.prog Tryd.laysCompact_ren := {
  mixed := by kernel_rfl
  f20 := Tryd.func28.trans (congrArg some (by kernel_rfl))
  t0 := Tryd.underlying0
  a0 := Tryd.isAgg0
  z0 := Tryd.sizeOf0
  v0 := Tryd.zeroValue0
  t3 := Tryd.underlying3
  a3 := Tryd.isAgg3
  z3 := Tryd.sizeOf3
  v3 := Tryd.zeroValue3
  t4 := Tryd.underlying4
  a4 := Tryd.isAgg4
  z4 := Tryd.sizeOf4
  v4 := Tryd.zeroValue4
  t22 := Tryd.underlying38
  a22 := Tryd.isAgg38
  z22 := Tryd.sizeOf38
  v22 := Tryd.zeroValue38
  i3 := by kernel_rfl }
end Go.Proofs
namespace Go.Proofs.YtbdbgoploednbaaDoor
open Go.RowKit Go.Shelf Go.Sort
set_option linter.unusedVariables false

/-- The numbers of a row, sorted. -/
def sorted (zs : List Int) : List Int := zs.mergeSort fun x y => decide (x ≤ y)
theorem sorted_len (zs : List Int) : (sorted zs).length = zs.length := List.length_mergeSort _
theorem mem_sorted {zs : List Int} {x : Int} : x ∈ sorted zs ↔ x ∈ zs := (List.mergeSort_perm zs _).mem_iff
theorem sorted_le (zs : List Int) : (sorted zs).Pairwise (· ≤ ·) := by
  have h := List.pairwise_mergeSort (le := fun x y : Int => decide (x ≤ y)) (fun a b c h1 h2 => by simp at *; omega) (fun a b => by simp; omega) zs
  exact h.imp (by simp)
theorem sorted_of_perm {zs : List Int} {l : List Int} (hl : Rising l) (hn : zs.Nodup) (h : ∀ x, x ∈ zs ↔ x ∈ l) : sorted zs = l := by
  refine rising_eq ?_ hl (fun x => mem_sorted.trans (h x))
  have h1 := sorted_le zs
  have h2 : (sorted zs).Nodup := (List.mergeSort_perm zs _).nodup_iff.2 hn
  exact (h1.and h2).imp fun hh => by omega

theorem compact_mem {zs : List Int} {x : Int} (h : x ∈ Lib.compact zs) : x ∈ zs := by
  unfold Lib.compact Lib.compactUpTo at h
  obtain ⟨i, hi, rfl⟩ := List.mem_map.1 h
  have hi' : i < zs.length := List.mem_range.1 (List.mem_filter.1 hi).1
  simp [getElem!_pos, hi']
theorem mem_compactUpTo {zs : List Int} : ∀ m, m ≤ zs.length → ∀ i, i < m → zs[i]! ∈ Lib.compactUpTo zs.toArray m
  | 0, _, i, hi => absurd hi (Nat.not_lt_zero _)
  | m + 1, hm, i, hi => by
    rw [Lib.compactUpTo_succ, List.mem_append]
    by_cases h : i < m
    · exact .inl (mem_compactUpTo m (by omega) i h)
    · obtain rfl : i = m := by omega
      by_cases hk : Lib.keeps zs.toArray i = true
      · right; rw [if_pos hk]; simp
      · left
        have hi0 : i ≠ 0 := fun e => hk (by simp [Lib.keeps, e])
        have he : zs[i]! = zs[i - 1]! := by
          apply Classical.byContradiction
          intro hne
          exact hk (by simp [Lib.keeps]; right; simpa using hne)
        rw [he]
        exact mem_compactUpTo i (by omega) (i - 1) (by omega)
theorem mem_compact_iff {zs : List Int} {x : Int} : x ∈ Lib.compact zs ↔ x ∈ zs := by
  refine ⟨compact_mem, fun h => ?_⟩
  obtain ⟨i, hi, rfl⟩ := List.mem_iff_getElem.1 h
  have := mem_compactUpTo zs.length (Nat.le_refl _) i hi
  rw [getElem!_pos zs i hi] at this
  exact this
theorem compactUpTo_rising {zs : List Int} (hz : zs.Pairwise (· ≤ ·)) : ∀ m, m ≤ zs.length → Rising (Lib.compactUpTo zs.toArray m) ∧ ∀ x ∈ Lib.compactUpTo zs.toArray m, ∀ j, m ≤ j + 1 → j < zs.length → x ≤ zs[j]!
  | 0, _ => ⟨by simp [Lib.compactUpTo, Rising], by simp [Lib.compactUpTo]⟩
  | m + 1, hm => by
    obtain ⟨h1, h2⟩ := compactUpTo_rising hz m (by omega)
    have hz' : ∀ i j, i ≤ j → j < zs.length → zs[i]! ≤ zs[j]! := fun i j hij hj => by
      rw [getElem!_pos zs i (by omega), getElem!_pos zs j hj]
      by_cases e : i = j
      · subst e; exact Int.le_refl _
      · exact List.pairwise_iff_getElem.1 hz i j (by omega) hj (by omega)
    rw [Lib.compactUpTo_succ]
    by_cases hk : Lib.keeps zs.toArray m = true
    · rw [if_pos hk]
      have hlt : ∀ x ∈ Lib.compactUpTo zs.toArray m, x < zs[m]! := fun x hx => by
        have hm0 : m ≠ 0 := fun e => by subst e; simp [Lib.compactUpTo] at hx
        have h3 := h2 x hx (m - 1) (by omega) (by omega)
        have h4 := hz' (m - 1) m (by omega) (by omega)
        have h5 : zs[m]! ≠ zs[m - 1]! := by
          simp [Lib.keeps, hm0] at hk
          simpa using hk
        omega
      refine ⟨List.pairwise_append.2 ⟨h1, by simp, fun x hx y hy => ?_⟩, fun x hx j hj hjl => ?_⟩
      · have : y = zs[m]! := by simpa using hy
        subst this
        exact hlt x hx
      · rcases List.mem_append.1 hx with hx | hx
        · exact h2 x hx j (by omega) hjl
        · have : x = zs[m]! := by simpa using hx
          subst this
          exact hz' m j (by omega) hjl
    · rw [if_neg hk, List.append_nil]
      exact ⟨h1, fun x hx j hj hjl => h2 x hx j (by omega) hjl⟩
theorem compact_rising {zs : List Int} (hz : zs.Pairwise (· ≤ ·)) : Rising (Lib.compact zs) := (compactUpTo_rising hz zs.length (Nat.le_refl _)).1
/-- Sorted, and each once. -/
theorem compact_sorted {zs l : List Int} (hl : Rising l) (h : ∀ x, x ∈ zs ↔ x ∈ l) : Lib.compact (sorted zs) = l :=
  rising_eq (compact_rising (sorted_le zs)) hl fun x => mem_compact_iff.trans (mem_sorted.trans (h x))

theorem ownsS_grown {w w' : World} {base e n k : Nat} {v : Value} {xs : List Value} (h : w.ownsRow base e k v n xs) (hb : w.grownBy w' none) : w'.ownsRow base e k v n xs := by
  refine ⟨h.1, ?_⟩
  rcases h.2 with h2 | ⟨g', cap', cur, hv, h3, h4, r⟩
  · exact .inl h2
  · exact .inr ⟨g', cap', cur, hv, h3, (hb.block g' (Array.getElem?_eq_some_iff.1 h4).1 (by simp)).trans h4, r⟩
/-- slices.Sort, at a row of the call's own: sorted; nothing else has turned. -/
theorem sort_own {w : World} {base : Nat} {v : Value} {n : Nat} {zs : List Int} (hown : w.ownsRow base 3 1 v n (nums .i64 zs)) (hn : n ≤ 1000) :
    Calls Tryd.prog 27 #[v] w fun e w' => e = .returned (.tuple #[]) ∧ w'.ownsRow base 3 1 v n (nums .i64 (sorted zs)) ∧ w.grownBy w' v.ownBlock := by
  rcases hown.2 with ⟨rfl, rfl⟩ | ⟨g, cap, cur, rfl, hg, hb, hc, hm, hs, ht⟩
  · have : zs = [] := by have := hown.1; simpa [nums] using this
    subst this
    refine (Any.slices_Sort_int_none Tryd.laysSort none 0 w).mono ?_
    rintro e w' ⟨rfl, rfl⟩
    have h0 : sorted [] = [] := by simp [sorted]
    exact ⟨rfl, by rw [h0]; exact hown, ⟨rfl, rfl, rfl, Nat.le_refl _, fun _ _ _ => rfl⟩⟩
  · have hl : zs.length = n := by have := hown.1; simpa [nums] using this
    subst hl
    obtain ⟨g', cap', hv, _, hgl, _, _, _, hH⟩ := Lib.holds_of_ownsRow (enc := Value.int .i64) (zs := zs) hown (by simp)
    cases hv
    refine (Any.slices_Sort_int Tryd.laysSort g 0 cap zs w hH hgl (by omega)).mono ?_
    rintro e w' ⟨rfl, q, os, rfl⟩
    have h1 := Lib.ownsRow_putRow (enc := Value.int .i64) (q := q) (k := zs.length) (ys := sorted zs) hown (sorted_len zs) (Nat.le_refl _)
    rw [← sorted_len zs, List.take_length, sorted_len] at h1
    have hgr : (putRow (Value.int .i64) (Sort.ahead w q) g 0 (sorted zs).toArray).grownBy (grow (putRow (Value.int .i64) (Sort.ahead w q) g 0 (sorted zs).toArray) os) none :=
      ⟨rfl, rfl, rfl, by simp [grow], fun k hk _ => heap_grow_old _ _ hk⟩
    refine ⟨rfl, ownsS_grown h1 hgr, ?_⟩
    refine ⟨rfl, rfl, rfl, by simp [grow, putRow, mapBlock, Sort.ahead], fun k hk hne => ?_⟩
    have hk' : k < (putRow (Value.int .i64) (Sort.ahead w q) g 0 (sorted zs).toArray).heap.size := by simpa [putRow, mapBlock, Sort.ahead] using hk
    show (grow (putRow (Value.int .i64) (Sort.ahead w q) g 0 (sorted zs).toArray) os).heap[k]? = _
    rw [heap_grow_old _ _ hk']
    have : g ≠ k := fun e => hne (by rw [e]; rfl)
    simp [putRow, mapBlock, Sort.ahead, Array.getElem?_modify, this]
/-- slices.Compact, at a row of the call's own. -/
theorem compact_own {w : World} {base : Nat} {v : Value} {n : Nat} {zs : List Int} (hown : w.ownsRow base 3 1 v n (nums .i64 zs)) (hn : n ≤ 1000) :
    Calls Tryd.prog 28 #[v] w fun e w' => ∃ v', e = .returned v' ∧ w'.ownsRow base 3 1 v' (Lib.compact zs).length (nums .i64 (Lib.compact zs)) ∧ w.grownBy w' v.ownBlock := by
  rcases hown.2 with ⟨rfl, rfl⟩ | ⟨g, cap, cur, rfl, hg, hb, hc, hm, hs, ht⟩
  · have : zs = [] := by have := hown.1; simpa [nums] using this
    subst this
    refine (Any.slices_Compact_int_empty Tryd.laysCompact none 0 w).mono ?_
    rintro e w' ⟨rfl, rfl⟩
    exact ⟨_, rfl, hown, ⟨rfl, rfl, rfl, Nat.le_refl _, fun _ _ _ => rfl⟩⟩
  · have hl : zs.length = n := by have := hown.1; simpa [nums] using this
    subst hl
    obtain ⟨g', cap', hv, _, hgl, hcap, _, _, hH⟩ := Lib.holds_of_ownsRow (enc := Value.int .i64) (zs := zs) hown (by simp)
    cases hv
    refine (Any.slices_Compact_int Tryd.laysCompact g 0 cap zs w hH (by omega) hcap).mono ?_
    rintro e w' ⟨rfl, q, rfl⟩
    have hle := Lib.compact_length_le zs
    have h1 := Lib.ownsRow_putRow (enc := Value.int .i64) (q := q) (k := (Lib.compact zs).length) (ys := Lib.compact zs ++ List.replicate (zs.length - (Lib.compact zs).length) 0) hown (by simp; omega) (by omega)
    rw [List.take_left] at h1
    refine ⟨_, rfl, h1, rfl, rfl, rfl, by simp [putRow, mapBlock, Sort.ahead], fun k hk hne => ?_⟩
    have : g ≠ k := fun e => hne (by rw [e]; rfl)
    simp [putRow, mapBlock, Sort.ahead, Array.getElem?_modify, this]
end Go.Proofs.YtbdbgoploednbaaDoor
