/- append onto a row of the call's own, whatever is appended. -/
import Derived.Test.YtbalcbnlpgekaaaDoorMem
import Derived.Maps.AppendAt
import Derived.Deep.AppendLies
import Derived.Deep.RegionLaw
namespace Go.Proofs.YtbalcbnlpgekaaaDoor
open Go.RowKit
set_option linter.unusedVariables false

theorem append_none {P : Program} (w : World) (t ty e : TypeId) (i : TypeInfo) (ht : P.underlying t = some (.slice e)) (hi : P.info? e = some i) (g n cap c : Nat) (h : n ≤ cap) :
    (Builtin.append_ #[t, t] ty #[.slice (some ⟨g, 0, none⟩) n cap, .slice none 0 c]).run P w = .ok (.slice (some ⟨g, 0, none⟩) n cap) w := by
  simp [Builtin.append_, run_underlying ht, sizeOf, typeInfo, hi, Builtin.lenOf, Builtin.firstCells, h, storeCells]

theorem row_add {w : World} {B : Nat} {A : Addr} {vs : List Value} (h : Row w B (some A) vs) : ∀ j u, vs[j]? = some u → w.cell? (A.add j) = some u := by
  intro j u hu
  have hp : 0 < vs.length := by
    rcases Nat.eq_zero_or_pos vs.length with h0 | h0
    · rw [List.eq_nil_of_length_eq_zero h0] at hu; simp at hu
    · exact h0
  obtain ⟨b, off, e, _, hc⟩ := h hp
  cases e
  have := hc j u hu
  unfold Addr.add
  split
  · subst_vars; simpa using this
  · simpa using this

/-- append(v, src..), v a slice that is not nil and lies in a block of the call's own. -/
theorem append_run {P : Program} (t ty e : TypeId) (z : Value) (bytes : Nat) (ht : P.underlying t = some (.slice e)) (hi : (P.info? e).map (fun i => (i.zero, i.size, i.bytes)) = some (some z, 1, bytes)) (hz : z.cells.size = 1)
    (base g n cap : Nat) (xs vs : List Value) (w : World) (hown : w.ownsRow base e 1 (.slice (some ⟨g, 0, none⟩) n cap) n xs) (B c : Nat) (A : Option Addr) (hr : Row w B A vs) (h1 : ∀ u ∈ vs, u.oneCell' = true) (h63 : n + vs.length ≤ maxLen) (hb : (n + vs.length) * bytes ≤ 140737488355328) (hbase : base ≤ w.heap.size) :
    ∃ g' cap' w', (Builtin.append_ #[t, t] ty #[.slice (some ⟨g, 0, none⟩) n cap, .slice A vs.length c]).run P w = .ok (.slice (some ⟨g', 0, none⟩) (n + vs.length) cap') w' ∧ w'.ownsRow base e 1 (.slice (some ⟨g', 0, none⟩) (n + vs.length) cap') (n + vs.length) (xs ++ vs) ∧
      w.grownBy w' (some g) ∧ (g' = g ∨ g' = w.heap.size) := by
  obtain ⟨i, i1, i2, i3, i4⟩ := info_parts hi
  have hnc : n ≤ cap := by
    rcases hown.2 with ⟨h, _⟩ | ⟨_, _, _, h, _, _, h', _⟩
    · cases h
    · cases h; exact h'
  cases A with
  | none =>
    have h0 : vs.length = 0 := by
      rcases Nat.eq_zero_or_pos vs.length with h0 | h0
      · exact h0
      · obtain ⟨_, _, e, _⟩ := hr h0; cases e
    obtain rfl : vs = [] := List.eq_nil_of_length_eq_zero h0
    exact ⟨g, cap, w, append_none w t ty e i ht i1 g n cap c hnc, by simpa using hown, World.grownBy.refl _ _, .inl rfl⟩
  | some A =>
    obtain ⟨v', w', r1, r2, r3, r4, r5⟩ := run_append_own_at (P := P) w base t ty e i z 1 bytes ht i1 i2 i3 i4 hz (by omega) _ n xs hown A vs.length c vs (by simp) (row_add hr) h1 h63 hb hbase
    have hv : ∃ g' cap', v' = .slice (some ⟨g', 0, none⟩) (n + vs.length) cap' := by
      rcases r2.2 with ⟨h, _⟩ | ⟨g', cap', _, h, _⟩
      · rw [r4] at h; cases h.1
      · exact ⟨g', cap', h⟩
    obtain ⟨g', cap', rfl⟩ := hv
    refine ⟨g', cap', w', r1, r2, r3, ?_⟩
    rcases r5 with h | h
    · exact .inl (by simpa [Value.ownBlock] using h)
    · exact .inr (by simpa [Value.ownBlock] using h)

/-- What a call owns it owns behind a store elsewhere, a draw, a new block. -/
theorem owns_far {w : World} {base e g n cap : Nat} {xs : List Value} (h : w.ownsRow base e 1 (.slice (some ⟨g, 0, none⟩) n cap) n xs) {p : Addr} (hp : g ≠ p.block) (u : Value) : (w.setCell p u).ownsRow base e 1 (.slice (some ⟨g, 0, none⟩) n cap) n xs :=
  h.kept (row := some p.block) ⟨rfl, rfl, rfl, by simp [World.setCell], fun k _ hk => Below.heap_setCell _ _ _ _ (fun e => hk (by rw [e]))⟩ (.inr (by simpa [Value.ownBlock] using hp))
theorem owns_drew {w : World} {base e g n cap : Nat} {xs : List Value} (h : w.ownsRow base e 1 (.slice (some ⟨g, 0, none⟩) n cap) n xs) : w.drew.ownsRow base e 1 (.slice (some ⟨g, 0, none⟩) n cap) n xs := h
theorem owns_below {w w' : World} {base e g n cap B : Nat} {xs : List Value} (h : w.ownsRow base e 1 (.slice (some ⟨g, 0, none⟩) n cap) n xs) (hb : Below B w w') (hg : g < B) : w'.ownsRow base e 1 (.slice (some ⟨g, 0, none⟩) n cap) n xs := by
  refine ⟨h.1, ?_⟩
  rcases h.2 with h2 | ⟨g', cap', cur, hv, h3, h4, r⟩
  · exact .inl h2
  · cases hv
    exact .inr ⟨g, cap, cur, rfl, h3, (hb.block g hg).trans h4, r⟩
theorem owns_mono {w : World} {base base' e g n cap : Nat} {xs : List Value} (h : w.ownsRow base e 1 (.slice (some ⟨g, 0, none⟩) n cap) n xs) (hb : base' ≤ g) : w.ownsRow base' e 1 (.slice (some ⟨g, 0, none⟩) n cap) n xs := by
  refine ⟨h.1, ?_⟩
  rcases h.2 with h2 | ⟨g', cap', cur, hv, h3, h4, r⟩
  · exact .inl h2
  · cases hv
    exact .inr ⟨g, cap, cur, rfl, hb, h4, r⟩
theorem owns_lt {w : World} {base e g n cap : Nat} {xs : List Value} (h : w.ownsRow base e 1 (.slice (some ⟨g, 0, none⟩) n cap) n xs) : base ≤ g ∧ g < w.heap.size := h.lt g rfl
theorem owns_row {w : World} {base e g n cap B : Nat} {xs : List Value} (h : w.ownsRow base e 1 (.slice (some ⟨g, 0, none⟩) n cap) n xs) (hB : g < B) : Row w B (some ⟨g, 0, none⟩) xs := by
  intro _
  refine ⟨g, 0, rfl, hB, fun j u hu => ?_⟩
  have hj : j < n * 1 := by
    have := h.1
    rcases Nat.lt_or_ge j xs.length with h' | h'
    · omega
    · rw [List.getElem?_eq_none h'] at hu; cases hu
  rw [Nat.zero_add, h.cellAt j hj]
  exact hu

/-- append at an operation, by its run. -/
theorem oper_append {P : Program} {o : Oper} {a : Act} {w w' : World} {K : Act → World → Prop} {Q : Exit → Act → World → Prop} (s x : Operand) (t : TypeId)
    (ho : o.op = .call { callee := .builtin .append, args := #[s, x], argTypes := #[t, t] }) {v' : Value} (hrun : (Builtin.append_ #[t, t] o.type #[a.eval s, a.eval x]).run P w = .ok v' w') (h : K (a.put o.dst v') w') : o.wp P a w K Q := by
  unfold Oper.wp execOp
  simp only [ho, resolve, invoke, builtin, Sem.run_bind, Sem.run_pure, Result.andThen_ok, List.map_toArray, List.map_cons, List.map_nil, hrun]
  exact h
theorem list_append {P : Program} {ops : Array Oper} {rest : List Oper} {o : Oper} {a : Act} {w w' : World} {Q : Exit → Act → World → Prop} (hgd : o.guard = none) (s x : Operand) (t : TypeId)
    (ho : o.op = .call { callee := .builtin .append, args := #[s, x], argTypes := #[t, t] }) {v' : Value} (hrun : (Builtin.append_ #[t, t] o.type #[a.eval s, a.eval x]).run P w = .ok v' w') (h : wpList P ops Q rest (a.put o.dst v') w') : wpList P ops Q (o :: rest) a w :=
  wpList_plain hgd fun _ hK => oper_append s x t ho hrun (hK _ _ h)
theorem step_append {P : Program} {ops : Array Oper} {o : Oper} {a : Act} {w w' : World} {K : Act → World → Prop} {Q : Exit → Act → World → Prop} {E : Prop} (hgd : o.guard = none) (s x : Operand) (t : TypeId)
    (ho : o.op = .call { callee := .builtin .append, args := #[s, x], argTypes := #[t, t] }) {v' : Value} (hrun : (Builtin.append_ #[t, t] o.type #[a.eval s, a.eval x]).run P w = .ok v' w') (h : K (a.put o.dst v') w') :
    if Region.wanted o (yielded ops a.tmps) = true then Oper.wp P o a w K Q else E := by
  rw [if_pos (by simp [Region.wanted, hgd])]
  exact oper_append s x t ho hrun h
end Go.Proofs.YtbalcbnlpgekaaaDoor
