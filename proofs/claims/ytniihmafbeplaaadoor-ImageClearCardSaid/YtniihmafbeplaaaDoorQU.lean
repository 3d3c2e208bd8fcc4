/- Images: their cells, where they lie; bits of numbers; equal images; ticks over any world. Package image: within, counts, Stale, and what tells bits: told, toldClear. Package image: told, toldClear, occupied: what they hand out; occupied's closure. -/
import Derived.ChangeKeysEq
import Derived.Test.YtniihmafbeplaaaDoorQGreatJ
import Derived.Test.YtniihmafbeplaaaDoorQT
import Derived.Test.YtniihmafbeplaaaDoorQB
import Derived.Laws.EntriesVeiled
import Derived.Lib.MinMax
import Derived.Deep.CutRange
namespace Go.Proofs.YtniihmafbeplaaaDoor
open Go.RowKit Go.Shelf
set_option linter.unusedVariables false
set_option linter.unusedSimpArgs false

/-- An image. -/
structure Img where
  age : Int
  free : List Int
  o : Int
  n : Int
  r : Int
  p : Int
def Img.cells (im : Img) : List Value := .int .i64 im.age :: (nums .i64 im.free ++ [.int .u32 im.o, .int .u32 im.n, .int .u32 im.r, .int .u32 im.p])
abbrev Img.val (im : Img) : Value := .agg im.cells.toArray
structure Img.Wf (im : Img) : Prop where
  len : im.free.length = 24
  o : 0 ≤ im.o ∧ im.o ≤ 4294967295
  n : 0 ≤ im.n ∧ im.n ≤ 4294967295
  r : 0 ≤ im.r ∧ im.r ≤ 4294967295
  p : 0 ≤ im.p ∧ im.p ≤ 4294967295
theorem Img.c_age (im : Img) : im.cells[0]? = some (.int .i64 im.age) := rfl
theorem Img.c_free (im : Img) {k : Nat} {x : Int} (h : im.free[k]? = some x) : im.cells[1 + k]? = some (.int .i64 x) := by
  unfold Img.cells
  rw [Nat.add_comm, List.getElem?_cons_succ, List.getElem?_append_left (by rw [nums_length]; exact (List.getElem?_eq_some_iff.1 h).1)]
  simp [nums, h]
theorem Img.c_in (im : Img) (h : im.free.length = 24) (j : Nat) : im.cells[25 + j]? = [Value.int .u32 im.o, .int .u32 im.n, .int .u32 im.r, .int .u32 im.p][j]? := by
  unfold Img.cells
  rw [show 25 + j = (24 + j) + 1 by omega, List.getElem?_cons_succ, List.getElem?_append_right (by rw [nums_length]; omega), nums_length, h, Nat.add_sub_cancel_left]
theorem Img.size (im : Img) (h : im.free.length = 24) : im.cells.length = 29 := by
  unfold Img.cells
  simp [nums, h]
theorem Img.one (im : Img) : ∀ v ∈ im.cells, v.oneCell' = true := by
  intro v hv
  unfold Img.cells at hv
  simp only [nums, List.mem_cons, List.mem_append, List.mem_map, List.not_mem_nil, or_false] at hv
  rcases hv with rfl | ⟨z, _, rfl⟩ | rfl | rfl | rfl | rfl <;> rfl
/-- Row k is v. -/
def Img.put (im : Img) (k : Nat) (v : Int) : Img := { im with free := im.free.set k v }
theorem Img.put_cells (im : Img) (k : Nat) (v : Int) (h : im.free.length = 24) (hk : k < 24) : im.cells.set (1 + k) (.int .i64 v) = (im.put k v).cells := by
  unfold Img.cells Img.put
  rw [Nat.add_comm, List.set_cons_succ, List.set_append_left _ _ (by rw [nums_length]; omega)]
  simp [nums, List.map_set]
theorem Img.put_wf {im : Img} (h : im.Wf) (k : Nat) (v : Int) : (im.put k v).Wf := ⟨by simp [Img.put, h.len], h.o, h.n, h.r, h.p⟩
theorem Img.age_cells (im : Img) (v : Int) : im.cells.set 0 (.int .i64 v) = ({ im with age := v } : Img).cells := rfl

/-- Where an image lies: what is read there. -/
theorem und_img : Tryd.prog.underlying 35 = Tryd.prog.underlying 35 := rfl
theorem img_desc : ∃ d, Tryd.prog.underlying 35 = some d ∧ d.isRow = true := ⟨_, Tryd.underlying35, rfl⟩
theorem arr_desc : ∃ d, Tryd.prog.underlying 30 = some d ∧ d.isRow = true := ⟨_, Tryd.underlying30, rfl⟩
theorem in_desc : ∃ d, Tryd.prog.underlying 33 = some d ∧ d.isRow = true := ⟨_, Tryd.underlying33, rfl⟩
theorem img_info : (Tryd.prog.info? 35).map (·.size) = some 29 := by kernel_rfl
theorem arr_info : (Tryd.prog.info? 30).map (·.size) = some 24 := by kernel_rfl
theorem in_info : (Tryd.prog.info? 33).map (·.size) = some 4 := by kernel_rfl
theorem load_img {im : Img} (hi : im.free.length = 24) {g : Nat} {W : World} (h : Whole W g 35 im.cells) : (Instr.loadAt 35 (.pointer (some ⟨g, 0, none⟩))).run Tryd.prog W = .ok (.agg im.cells.toArray) W := by
  obtain ⟨d, h1, h2⟩ := img_desc
  exact run_loadAt_mid W g 0 _ im.cells d (fun j v hv => by rw [Nat.zero_add]; exact h.cell_at j hv) h1 h2 (by rw [im.size hi]; exact img_info)
theorem load_rows {im : Img} (hi : im.free.length = 24) {g : Nat} {W : World} (h : Whole W g 35 im.cells) : (Instr.loadAt 30 (.pointer (some ⟨g, 1, none⟩))).run Tryd.prog W = .ok (.agg (nums .i64 im.free).toArray) W := by
  obtain ⟨d, h1, h2⟩ := arr_desc
  refine run_loadAt_mid W g 1 _ (nums .i64 im.free) d (fun j v hv => h.cell_at (1 + j) ?_) h1 h2 (by rw [nums_length, hi]; exact arr_info)
  simp only [nums, List.getElem?_map, Option.map_eq_some_iff] at hv
  obtain ⟨x, hx, rfl⟩ := hv
  exact im.c_free hx
theorem load_in {im : Img} (hi : im.free.length = 24) {g : Nat} {W : World} (h : Whole W g 35 im.cells) : (Instr.loadAt 33 (.pointer (some ⟨g, 25, none⟩))).run Tryd.prog W = .ok (.agg #[.int .u32 im.o, .int .u32 im.n, .int .u32 im.r, .int .u32 im.p]) W := by
  obtain ⟨d, h1, h2⟩ := in_desc
  exact run_loadAt_mid W g 25 _ [.int .u32 im.o, .int .u32 im.n, .int .u32 im.r, .int .u32 im.p] d (fun j v hv => h.cell_at (25 + j) (by rw [im.c_in hi]; exact hv)) h1 h2 in_info

theorem loadC_img {im : Img} (hi : im.free.length = 24) {g : Nat} {W : World} (h : Whole W g 35 im.cells) : (loadCellsFrom ⟨g, 0, none⟩ 0 29 #[]).run Tryd.prog W = .ok im.cells.toArray W := by
  have := run_loadCells_list (P := Tryd.prog) W ⟨g, 0, none⟩ im.cells (fun j v hv => by rw [Addr.add_mid, Nat.zero_add]; exact h.cell_at j hv)
  rw [im.size hi] at this
  exact this
theorem loadC_rows {im : Img} (hi : im.free.length = 24) {g : Nat} {W : World} (h : Whole W g 35 im.cells) : (loadCellsFrom ⟨g, 1, none⟩ 0 24 #[]).run Tryd.prog W = .ok (nums .i64 im.free).toArray W := by
  have := run_loadCells_list (P := Tryd.prog) W ⟨g, 1, none⟩ (nums .i64 im.free) (fun j v hv => by
    rw [Addr.add_mid]
    refine h.cell_at (1 + j) ?_
    simp only [nums, List.getElem?_map, Option.map_eq_some_iff] at hv
    obtain ⟨x, hx, rfl⟩ := hv
    exact im.c_free hx)
  rw [nums_length, hi] at this
  exact this

theorem exec_img {im : Img} (hi : im.free.length = 24) {o : Oper} {a : Act} {x : Operand} (ho : o.op = .load 35 x) {g : Nat} (hx : a.eval x = .pointer (some ⟨g, 0, none⟩)) {W : World} (h : Whole W g 35 im.cells) : (execOp a.eval o).run Tryd.prog W = .ok (.value (.agg im.cells.toArray)) W := by
  unfold execOp
  simp only [ho, hx, Sem.run_bind, load_img hi h, Result.andThen_ok, Sem.run_pure]
theorem exec_rows {im : Img} (hi : im.free.length = 24) {o : Oper} {a : Act} {x : Operand} (ho : o.op = .load 30 x) {g : Nat} (hx : a.eval x = .pointer (some ⟨g, 1, none⟩)) {W : World} (h : Whole W g 35 im.cells) : (execOp a.eval o).run Tryd.prog W = .ok (.value (.agg (nums .i64 im.free).toArray)) W := by
  unfold execOp
  simp only [ho, hx, Sem.run_bind, load_rows hi h, Result.andThen_ok, Sem.run_pure]
theorem exec_in {im : Img} (hi : im.free.length = 24) {o : Oper} {a : Act} {x : Operand} (ho : o.op = .load 33 x) {g : Nat} (hx : a.eval x = .pointer (some ⟨g, 25, none⟩)) {W : World} (h : Whole W g 35 im.cells) : (execOp a.eval o).run Tryd.prog W = .ok (.value (.agg #[.int .u32 im.o, .int .u32 im.n, .int .u32 im.r, .int .u32 im.p])) W := by
  unfold execOp
  simp only [ho, hx, Sem.run_bind, load_in hi h, Result.andThen_ok, Sem.run_pure]
theorem wpList_read {P : Program} {ops : Array Oper} {rest : List Oper} {o : Oper} {a : Act} {w : World} {Q : Exit → Act → World → Prop} (v : Value) (hw : Region.wanted o (yielded ops a.tmps) = true) (hv : (execOp a.eval o).run P w = .ok (.value v) w)
    (h : wpList P ops Q rest (a.put o.dst v) w) : wpList P ops Q (o :: rest) a w :=
  wpList_step fun K hK => by
    rw [if_pos hw]
    unfold Oper.wp
    rw [hv]
    exact hK _ _ h
theorem wpList_skip {P : Program} {ops : Array Oper} {rest : List Oper} {o : Oper} {a : Act} {w : World} {Q : Exit → Act → World → Prop} (hw : Region.wanted o (yielded ops a.tmps) = false)
    (h : wpList P ops Q rest (a.put o.dst undef) w) : wpList P ops Q (o :: rest) a w :=
  wpList_step fun K hK => by
    rw [if_neg (by rw [hw]; decide)]
    exact hK _ _ h

theorem wpList_callv {P : Program} {ops : Array Oper} {rest : List Oper} {o : Oper} {a : Act} {w : World} {Q : Exit → Act → World → Prop} {f : FuncId} {args : Array Value} {v : Value} {T : World → Prop} (hw : Region.wanted o (yielded ops a.tmps) = true) (hv : (execOp a.eval o).run P w = .ok (.enter f args) w)
    (hc : Calls P f args w fun e w' => e = .returned v ∧ T w') (h : ∀ w', T w' → wpList P ops Q rest (a.put o.dst v) w') : wpList P ops Q (o :: rest) a w :=
  wpList_step fun K hK => by
    rw [if_pos hw]
    unfold Oper.wp
    rw [hv]
    refine hc.mono ?_
    rintro e w' ⟨rfl, ht⟩
    exact hK _ _ (h w' ht)
theorem wpList_calle {P : Program} {ops : Array Oper} {rest : List Oper} {o : Oper} {a : Act} {w : World} {Q : Exit → Act → World → Prop} {f : FuncId} {args : Array Value} {T : Value → World → Prop} (hw : Region.wanted o (yielded ops a.tmps) = true) (hv : (execOp a.eval o).run P w = .ok (.enter f args) w)
    (hc : Calls P f args w fun e w' => ∃ v, e = .returned v ∧ T v w') (h : ∀ v w', T v w' → wpList P ops Q rest (a.put o.dst v) w') : wpList P ops Q (o :: rest) a w :=
  wpList_step fun K hK => by
    rw [if_pos hw]
    unfold Oper.wp
    rw [hv]
    refine hc.mono ?_
    rintro e w' ⟨v, rfl, ht⟩
    exact hK _ _ (h v w' ht)

/-- Bits of numbers of 32. -/
def bitU (x : Int) (k : Nat) : Bool := decide (x / 2 ^ k % 2 = 1)
theorem low_bit_u32 (x : Int) (h0 : 0 ≤ x) (h1 : x ≤ 4294967295) : bits BinOp.and IntKind.u32 x 1 = x % 2 := by
  obtain ⟨a, rfl⟩ := Int.eq_ofNat_of_zero_le h0
  have ha : (BitVec.ofInt 32 (a : Int)).toNat = a := by rw [BitVec.ofInt_natCast, BitVec.toNat_ofNat]; omega
  show IntKind.u32.wrap ((BitVec.ofInt 32 (a : Int) &&& 1#32).toNat : Int) = _
  rw [BitVec.toNat_and, ha, show (1#32 : BitVec 32).toNat = 1 from rfl, Nat.and_one_is_mod]
  show ((a % 2 : Nat) : Int) % 4294967296 = _
  omega
theorem shr_range {x : Int} (h : 0 ≤ x ∧ x ≤ 4294967295) (k : Nat) : 0 ≤ x / 2 ^ k ∧ x / 2 ^ k ≤ 4294967295 := by
  have hp : (0 : Int) < 2 ^ k := Int.pow_pos (by omega)
  refine ⟨Int.ediv_nonneg h.1 (Int.le_of_lt hp), ?_⟩
  have := Int.ediv_le_self (2 ^ k) h.1
  omega
theorem bit_yes {x : Int} (h : 0 ≤ x ∧ x ≤ 4294967295) {k : Nat} (hb : bitU x k = true) : bits BinOp.and IntKind.u32 (x / 2 ^ k) 1 = 1 := by
  obtain ⟨h0, h1⟩ := shr_range h k
  rw [low_bit_u32 _ h0 h1]
  unfold bitU at hb
  simpa using hb
theorem bit_no {x : Int} (h : 0 ≤ x ∧ x ≤ 4294967295) {k : Nat} (hb : bitU x k = false) : bits BinOp.and IntKind.u32 (x / 2 ^ k) 1 = 0 := by
  obtain ⟨h0, h1⟩ := shr_range h k
  rw [low_bit_u32 _ h0 h1]
  unfold bitU at hb
  have := of_decide_eq_false hb
  omega
theorem bit_not {x : Int} (h : 0 ≤ x ∧ x ≤ 4294967295) {k : Nat} (hk : k < 32) : bitU (4294967295 - x) k = !bitU x k := by
  unfold bitU
  rw [← decide_not, decide_eq_decide]
  obtain ⟨h0, h1⟩ := h
  have key : ∀ k : Nat, k < 32 → ∃ m : Nat, 2 ^ k * (2 * m) = 4294967296 := fun k hk => ⟨2 ^ (31 - k), by rw [← Nat.mul_assoc, Nat.mul_comm (2 ^ k) 2, Nat.mul_assoc, ← Nat.pow_add, show k + (31 - k) = 31 by omega]⟩
  obtain ⟨m, hm⟩ := key k hk
  have hp : 0 < 2 ^ k := Nat.pow_pos (by omega)
  have hm' : ((2 : Int) ^ k) * (2 * (m : Int)) = 4294967296 := by
    have h := congrArg (Nat.cast : Nat → Int) hm
    rw [Int.natCast_mul, Int.natCast_mul, Int.natCast_pow] at h
    exact h
  have hp' : (0 : Int) < 2 ^ k := Int.pow_pos (by omega)
  generalize (2 : Int) ^ k = z at *
  have e1 := Int.emod_add_mul_ediv x z
  have r0 := Int.emod_nonneg x (Int.ne_of_gt hp')
  have r1 := Int.emod_lt_of_pos x hp'
  generalize x / z = q at *
  generalize x % z = r at *
  have e2 : (4294967295 - x) / z = 2 * (m : Int) - 1 - q := by
    have : 4294967295 - x = (z - 1 - r) + z * (2 * (m : Int) - 1 - q) := by
      rw [Int.mul_sub, Int.mul_sub, Int.mul_one]
      omega
    rw [this, Int.add_mul_ediv_left _ _ (Int.ne_of_gt hp'), Int.ediv_eq_zero_of_lt (by omega) (by omega), Int.zero_add]
  rw [e2]
  omega
theorem not_range {x : Int} (h : 0 ≤ x ∧ x ≤ 4294967295) : 0 ≤ 4294967295 - x ∧ 4294967295 - x ≤ 4294967295 := by omega
theorem not_u32 {x : Int} (h : 0 ≤ x ∧ x ≤ 4294967295) : bits BinOp.xor IntKind.u32 4294967295 x = 4294967295 - x := by
  obtain ⟨a, rfl⟩ := Int.eq_ofNat_of_zero_le h.1
  have ha : a < 2 ^ 32 := by omega
  show IntKind.u32.wrap ((BitVec.ofInt 32 4294967295 ^^^ BitVec.ofInt 32 (a : Int)).toNat : Int) = _
  have e : BitVec.ofInt 32 4294967295 = BitVec.allOnes 32 := by decide
  rw [e, BitVec.allOnes_xor, BitVec.toNat_not, BitVec.ofInt_natCast, BitVec.toNat_ofNat, Nat.mod_eq_of_lt ha]
  show ((2 ^ 32 - 1 - a : Nat) : Int) % 4294967296 = _
  omega

theorem not_u32m {x : Int} (h : 0 ≤ x ∧ x ≤ 4294967295) : bits BinOp.xor IntKind.u32 IntKind.u32.max x = 4294967295 - x := by
  rw [show IntKind.u32.max = 4294967295 by decide]
  exact not_u32 h

/-- Equal rows, equal images. -/
theorem eqItems_nums (d : Nat) (P : Program) (e : TypeId) (he : P.plainKey e = true) (hu : P.underlying e = some (.int .i64)) (w : World) : ∀ (m k : Nat) (xs ys : List Int), xs.length = k + m → ys.length = k + m →
    (Op.eqItems (d + 1) e 1 (nums .i64 xs).toArray (nums .i64 ys).toArray (List.range' k m)).run P w = .ok (decide (xs.drop k = ys.drop k)) w
  | 0, k, xs, ys, hx, hy => by
    rw [List.drop_eq_nil_of_le (by omega), List.drop_eq_nil_of_le (by omega)]
    rfl
  | m + 1, k, xs, ys, hx, hy => by
    have ih := eqItems_nums d P e he hu w m (k + 1) xs ys (by omega) (by omega)
    have hkx : k < xs.length := by omega
    have hky : k < ys.length := by omega
    rw [List.range'_succ]
    unfold Op.eqItems
    rw [Sem.run_bind, run_part_plain w he (show (nums .i64 xs).toArray[k * 1]? = some (.int .i64 xs[k]) by simp [nums, hkx]), Result.andThen_ok,
      Sem.run_bind, run_part_plain w he (show (nums .i64 ys).toArray[k * 1]? = some (.int .i64 ys[k]) by simp [nums, hky]), Result.andThen_ok,
      Sem.run_bind, run_equalIn_int w d e .i64 .i64 _ _ hu, Result.andThen_ok, List.drop_eq_getElem_cons hkx, List.drop_eq_getElem_cons hky]
    by_cases h : xs[k] = ys[k]
    · simp only [h, beq_self_eq_true, Bool.not_true, Bool.false_eq_true, if_false, ih, List.cons.injEq, true_and]
    · have hb : (xs[k] == ys[k]) = false := by simpa using h
      rw [hb, decide_eq_false (fun e => h (List.cons.inj e).1)]
      rfl
theorem eq_rows (w : World) (d : Nat) (xs ys : List Int) (hx : xs.length = 24) (hy : ys.length = 24) :
    (Op.equalIn (d + 2) 30 (.agg (nums .i64 xs).toArray) (.agg (nums .i64 ys).toArray)).run Tryd.prog w = .ok (decide (xs = ys)) w := by
  obtain ⟨i, hi⟩ : ∃ i, Tryd.prog.info? 3 = some i := Option.isSome_iff_exists.1 (by kernel_rfl)
  have hc : Tryd.prog.cellsOf 3 = 1 := by kernel_rfl
  have := eqItems_nums d Tryd.prog 3 (by kernel_rfl) Tryd.underlying3 w 24 0 xs ys (by omega) (by omega)
  rw [run_equalIn_array w (d + 1) _ _ Tryd.underlying30 hi, hc, List.range_eq_range', this, List.drop_zero, List.drop_zero]
set_option maxHeartbeats 1000000 in
theorem eq_in (w : World) (d : Nat) (a b c e a' b' c' e' : Int) : (Op.equalIn (d + 2) 33 (.agg #[.int .u32 a, .int .u32 b, .int .u32 c, .int .u32 e]) (.agg #[.int .u32 a', .int .u32 b', .int .u32 c', .int .u32 e'])).run Tryd.prog w = .ok (a == a' && (b == b' && (c == c' && e == e'))) w := by
  cases h1 : (a == a') <;> cases h2 : (b == b') <;> cases h3 : (c == c') <;> cases h4 : (e == e') <;> go_simp
def Img.same (x y : Img) : Bool := x.age == y.age && (decide (x.free = y.free) && (x.o == y.o && (x.n == y.n && (x.r == y.r && x.p == y.p))))
theorem Img.same_self (x : Img) : x.same x = true := by simp [Img.same]
theorem Img.cut (im : Img) (hi : im.free.length = 24) : im.cells.toArray[0]? = some (.int .i64 im.age) ∧ im.cells.toArray.extract 1 25 = (nums .i64 im.free).toArray ∧ im.cells.toArray.extract 25 29 = #[.int .u32 im.o, .int .u32 im.n, .int .u32 im.r, .int .u32 im.p] := by
  have hn : (nums .i64 im.free).length = 24 := by rw [nums_length, hi]
  refine ⟨rfl, ?_, ?_⟩
  · unfold Img.cells
    simp only [List.extract_toArray, List.extract_eq_take_drop, List.drop_succ_cons, List.drop_zero, Nat.add_sub_cancel_left]
    rw [List.take_left' hn]
  · unfold Img.cells
    simp only [List.extract_toArray, List.extract_eq_take_drop, List.drop_succ_cons, Nat.add_sub_cancel_left]
    rw [List.drop_left' hn]
    rfl
set_option maxHeartbeats 2000000 in
theorem eq_img (w : World) (x y : Img) (hx : x.free.length = 24) (hy : y.free.length = 24) : (Op.equalIn 10000 35 (.agg x.cells.toArray) (.agg y.cells.toArray)).run Tryd.prog w = .ok (x.same y) w := by
  obtain ⟨a0, a1, a2⟩ := x.cut hx
  obtain ⟨b0, b1, b2⟩ := y.cut hy
  have e1 := eq_rows w 9997 x.free y.free hx hy
  have e2 := eq_in w 9997 x.o x.n x.r x.p y.o y.n y.r y.p
  simp only [Nat.reduceAdd] at e1 e2
  unfold Img.same
  generalize decide (x.free = y.free) = c1 at *
  clear e2
  generalize x.cells.toArray = X at *
  generalize y.cells.toArray = Y at *
  generalize (nums .i64 x.free).toArray = X1 at *
  generalize (nums .i64 y.free).toArray = Y1 at *
  cases h0 : (x.age == y.age) <;> cases c1 <;> (first | (go_simp; done) | (cases h1 : (x.o == y.o) <;> cases h2 : (x.n == y.n) <;> cases h3 : (x.r == y.r) <;> cases h4 : (x.p == y.p) <;> go_simp))
theorem eql_img (w : World) (x y : Img) (hx : x.free.length = 24) (hy : y.free.length = 24) : (binOp .eql 35 (.agg x.cells.toArray) (.agg y.cells.toArray)).run Tryd.prog w = .ok (.bool (x.same y)) w := by
  rw [run_eql_struct, eq_img w x y hx hy]; rfl
theorem eql_rows (w : World) (xs ys : List Int) (hx : xs.length = 24) (hy : ys.length = 24) : (binOp .eql 30 (.agg (nums .i64 xs).toArray) (.agg (nums .i64 ys).toArray)).run Tryd.prog w = .ok (.bool (decide (xs = ys))) w := by
  rw [run_eql_struct, eq_rows w 9998 xs ys hx hy]; rfl
theorem neq_in (w : World) (a b c e a' b' c' e' : Int) : (binOp .neq 33 (.agg #[.int .u32 a, .int .u32 b, .int .u32 c, .int .u32 e]) (.agg #[.int .u32 a', .int .u32 b', .int .u32 c', .int .u32 e'])).run Tryd.prog w = .ok (.bool (!(a == a' && (b == b' && (c == c' && e == e'))))) w := by
  rw [run_neq_struct, eq_in w 9998]; rfl

/-- A layout that is not too great lies there, and so do the tops. -/
structure Fld (l : Lay) (w : World) : Prop where
  lies : Lies l w
  tops : Tops w
  nS : l.secs.length ≤ 30
  nG : l.sigs.length ≤ 30
theorem Fld.closed (l : Lay) : Closed (Fld l) := fun w w' h hb => ⟨Lies.closed l w w' h.lies hb, h.tops.below hb, h.nS, h.nG⟩
theorem Fld.on {l : Lay} {w w' : World} (h : Fld l w) (hb : Below w.heap.size w w') : Fld l w' := Fld.closed l w w' h hb

section
variable {w : World} {v : Int}
theorem count_B (n : Int) (hv : countTk n = v) (h : Tops w) : Calls Tryd.prog 32 #[.int .i64 n] w fun e w' => e = .returned (.int .i64 v) ∧ Below w.heap.size w w' :=
  (count_now n hv ⟨h, Below.refl _ _⟩).mono fun _ _ h => ⟨h.1, h.2.below⟩
theorem more_B (n b : Int) (hv : moreTk n b = v) (h : Tops w) : Calls Tryd.prog 35 #[.int .i64 n, .int .i64 b] w fun e w' => e = .returned (.int .i64 v) ∧ Below w.heap.size w w' :=
  (more_now n b hv ⟨h, Below.refl _ _⟩).mono fun _ _ h => ⟨h.1, h.2.below⟩
theorem late_B (a t : Int) (r : Bool) (hv : decide (t < a) = r) (h : Tops w) : Calls Tryd.prog 37 #[.int .i64 a, .int .i64 t] w fun e w' => e = .returned (.bool r) ∧ Below w.heap.size w w' :=
  (late_now a t r hv ⟨h, Below.refl _ _⟩).mono fun _ _ h => ⟨h.1, h.2.below⟩
theorem row_B (t : Bool) (n : Int) (hv : rowTk t n = v) (h : Tops w) : Calls Tryd.prog 47 #[.bool t, .int .i64 n] w fun e w' => e = .returned (.int .i64 v) ∧ Below w.heap.size w w' :=
  (row_now t n hv ⟨h, Below.refl _ _⟩).mono fun _ _ h => ⟨h.1, h.2.below⟩
theorem moreR_B (n b : Int) (hv : moreTk n b = v) (h : Tops w) : Calls Tryd.prog 36 #[.int .i64 n, .int .i64 b] w fun e w' => e = .returned (.int .i64 v) ∧ Below w.heap.size w w' :=
  (moreR_now n b hv ⟨h, Below.refl _ _⟩).mono fun _ _ h => ⟨h.1, h.2.below⟩
theorem lateR_B (a t : Int) (r : Bool) (hv : decide (t < a) = r) (h : Tops w) : Calls Tryd.prog 38 #[.int .i64 a, .int .i64 t] w fun e w' => e = .returned (.bool r) ∧ Below w.heap.size w w' :=
  (lateR_now a t r hv ⟨h, Below.refl _ _⟩).mono fun _ _ h => ⟨h.1, h.2.below⟩
theorem rowR_B (t : Bool) (n : Int) (hv : rowTk t n = v) (h : Tops w) : Calls Tryd.prog 48 #[.bool t, .int .i64 n] w fun e w' => e = .returned (.int .i64 v) ∧ Below w.heap.size w w' :=
  (rowR_now t n hv ⟨h, Below.refl _ _⟩).mono fun _ _ h => ⟨h.1, h.2.below⟩
end

/-- A layout and an image in boxes of a call's own. -/
theorem keep_li {l : Lay} {w : World} (h : Fld l w) (vs us : List Value) (t t' : TypeId) :
    ∃ Q : World → Prop, Hid (Closed Q) ∧ Hid (∀ W, Q W → Fld l W) ∧ Hid (∀ W, Q W → Below w.heap.size w W) ∧ Hid (∀ W, Q W → Whole W w.heap.size t vs) ∧ Hid (∀ W, Q W → Whole W (w.heap.size + 1) t' us) ∧ Q ((w.alloc (.cells vs.toArray t)).alloc (.cells us.toArray t')) := by
  obtain ⟨Q, a, b, c, d, e⟩ := keep_box2 ((Fld.closed l).and (Closed.below w)) (w := w) ⟨h, Below.refl _ _⟩ t t' vs us
  exact ⟨Q, a, Lib.hid fun W hW => (b.out W hW).1, Lib.hid fun W hW => (b.out W hW).2, c, d, e⟩

end Go.Proofs.YtniihmafbeplaaaDoor
namespace Go.Proofs.YtniihmafbeplaaaDoor
open Go.RowKit Go.Shelf
set_option linter.unusedVariables false
set_option linter.unusedSimpArgs false

def withinI (n m : Int) : Bool := decide (0 ≤ n) && decide (n < m)
theorem withinI_any (n m : Int) (w : World) : Calls Tryd.prog 41 #[.int .i64 n, .int .i64 m] w fun e w' => e = .returned (.bool (withinI n m)) ∧ w' = w := by
  by_cases h0 : 0 ≤ n
  · by_cases h1 : n < m
    · have e : withinI n m = true := by simp [withinI, h0, h1]
      rw [e]; clear e
      go_enter Tryd.func41, Tryd.ntmps41
      go_wp2_with fail
      go_ret
      exact ⟨rfl, rfl⟩
    · have e : withinI n m = false := by simp [withinI, h0, h1]
      rw [e]; clear e
      go_enter Tryd.func41, Tryd.ntmps41
      go_wp2_with fail
      go_ret
      exact ⟨rfl, rfl⟩
  · have e : withinI n m = false := by simp [withinI, h0]
    rw [e]; clear e
    go_enter Tryd.func41, Tryd.ntmps41
    go_wp2_with fail
    go_ret
    exact ⟨rfl, rfl⟩
def cntI (l : Lay) : Nat := min l.secs.length 24
set_option maxRecDepth 100000 in
set_option maxHeartbeats 8000000 in
theorem counts_B {l : Lay} {w : World} : Calls Tryd.prog 43 #[l.val] w fun e w' => e = .returned (.int .i64 (cntI l : Nat)) ∧ Below w.heap.size w w' := by
  have HC : Hid (min (l.secs.length : Int) 24 = (cntI l : Nat)) := Lib.hid (by unfold cntI; omega)
  obtain ⟨Q, HQ, HQb, HQl, hq⟩ := keep_box (Closed.below w) (Below.refl _ w) 29 l.cells
  go_enter Tryd.func43, Tryd.ntmps43
  have x0 := (HQl.out _ hq).cell_at 0 rfl
  go_wp2_with fail
  go_ret
  exact ⟨ret_int HC.out, HQb.out _ hq⟩
def staleI (l : Lay) (im : Img) : Bool := decide (l.t2 < im.age)
set_option maxRecDepth 100000 in
set_option maxHeartbeats 8000000 in
theorem staleI_B {l : Lay} {im : Img} {w : World} {r : Bool} (hr : staleI l im = r) (h : Fld l w) : Calls Tryd.prog 18 #[l.val, im.val] w fun e w' => e = .returned (.bool r) ∧ Below w.heap.size w w' := by
  obtain ⟨Q, HQ, HQf, HQb, HQl, HQi, hq⟩ := keep_li h l.cells im.cells 29 35
  have KL : Hid (∀ W, Q W → Calls Tryd.prog 37 #[.int .i64 im.age, .int .i64 l.t2] W fun e w' => e = .returned (.bool r) ∧ Below W.heap.size W w') := Lib.hid fun W hW => late_B _ _ r hr (HQf.out W hW).tops
  clear hr
  go_enter Tryd.func18, Tryd.ntmps18
  have x6 := (HQl.out _ hq).cell_at 6 rfl
  have y0 := (HQi.out _ hq).cell_at 0 im.c_age
  go_wp2_with fail
  refine (KL.out _ hq).mono ?_
  rintro e w1 ⟨rfl, hB⟩
  have HB := Lib.hid (HQb.out _ (HQ.out _ _ hq hB))
  go_wp2_with fail
  go_ret
  exact ⟨rfl, HB.out⟩

/-- What tells whether a number has its bit: its closure, and what it holds. -/
structure ToldAt (v : Value) (st : Bool) (b : Int) (w : World) : Prop where
  at' : ∃ g k : Nat, v = .func (.func 52) #[] #[.pointer (some ⟨g, 0, none⟩), .pointer (some ⟨k, 0, none⟩)] ∧ Whole w g 4 [.bool st] ∧ Whole w k 31 [.int .u32 b]
theorem ToldAt.closed (v : Value) (st : Bool) (b : Int) : Closed (ToldAt v st b) := fun w w' ⟨g, k, hv, h1, h2⟩ hb => ⟨g, k, hv, h1.below hb h1.lt, h2.below hb h2.lt⟩
def toldI (st : Bool) (b : Int) (k : Nat) : Bool := !st && bitU b k
set_option maxRecDepth 100000 in
set_option maxHeartbeats 8000000 in
theorem told1_any {st : Bool} {b : Int} {g j : Nat} {w : World} (h1 : Whole w g 4 [.bool st]) (h2 : Whole w j 31 [.int .u32 b]) (hb : 0 ≤ b ∧ b ≤ 4294967295) (k : Nat) (hk : k ≤ 31) {r : Bool} (hr : toldI st b k = r) :
    Calls Tryd.prog 52 #[.int .i64 (k : Nat), .pointer (some ⟨g, 0, none⟩), .pointer (some ⟨j, 0, none⟩)] w fun e w' => e = .returned (.bool r) ∧ w' = w := by
  have c1 := h1.cell_at 0 rfl
  have c2 := h2.cell_at 0 rfl
  clear h1 h2
  subst hr
  cases st with
  | true =>
    go_enter Tryd.func52, Tryd.ntmps52
    go_wp2_with fail
    go_ret
    exact ⟨rfl, rfl⟩
  | false =>
    have hk0 : (0 : Int) ≤ (k : Int) := by omega
    have hk1 : (k : Int) ≤ 32 := by omega
    cases hbit : bitU b k with
    | true =>
      have e : toldI false b k = true := by simp [toldI, hbit]
      have hy := bit_yes hb hbit
      rw [e]
      clear e hbit hb
      go_enter Tryd.func52, Tryd.ntmps52
      go_wp2_with fail
      go_ret
      exact ⟨rfl, rfl⟩
    | false =>
      have e : toldI false b k = false := by simp [toldI, hbit]
      have hy := bit_no hb hbit
      rw [e]
      clear e hbit hb
      go_enter Tryd.func52, Tryd.ntmps52
      go_wp2_with fail
      go_ret
      exact ⟨rfl, rfl⟩

end Go.Proofs.YtniihmafbeplaaaDoor
namespace Go.Proofs.YtniihmafbeplaaaDoor
open Go.RowKit Go.Shelf
set_option linter.unusedVariables false
set_option linter.unusedSimpArgs false

theorem keep_lib {l : Lay} {w : World} (h : Fld l w) (vs us zs : List Value) (t t' t'' : TypeId) :
    ∃ Q : World → Prop, Hid (Closed Q) ∧ Hid (∀ W, Q W → Fld l W) ∧ Hid (∀ W, Q W → Below w.heap.size w W) ∧ Hid (∀ W, Q W → Whole W w.heap.size t vs) ∧ Hid (∀ W, Q W → Whole W (w.heap.size + 1) t' us) ∧ Hid (∀ W, Q W → Whole W (w.heap.size + 1 + 1) t'' zs) ∧
      Q (((w.alloc (.cells vs.toArray t)).alloc (.cells us.toArray t')).alloc (.cells zs.toArray t'')) := by
  have hb : Below w.heap.size w (((w.alloc (.cells vs.toArray t)).alloc (.cells us.toArray t')).alloc (.cells zs.toArray t'')) := below3 w _ _ _
  exact ⟨fun W => ((Fld l W ∧ Below w.heap.size w W) ∧ (Whole W w.heap.size t vs ∧ Whole W (w.heap.size + 1) t' us)) ∧ Whole W (w.heap.size + 1 + 1) t'' zs,
    Lib.hid ((((Fld.closed l).and (Closed.below w)).and ((Closed.whole _ t vs).and (Closed.whole _ t' us))).and (Closed.whole _ t'' zs)), Lib.hid fun W h => h.1.1.1, Lib.hid fun W h => h.1.1.2, Lib.hid fun W h => h.1.2.1, Lib.hid fun W h => h.1.2.2, Lib.hid fun W h => h.2,
    ⟨⟨h.on hb, hb⟩, ⟨((Whole.new w t vs).alloc _).alloc _, (Whole.new_at _ t' us _ (by simp)).alloc _⟩⟩, Whole.new_at _ t'' zs _ (by simp)⟩
/-- .. of blocks from n on. -/
def ToldFr (n : Nat) (v : Value) (st : Bool) (b : Int) (w : World) : Prop := ∃ g k : Nat, v = .func (.func 52) #[] #[.pointer (some ⟨g, 0, none⟩), .pointer (some ⟨k, 0, none⟩)] ∧ (Whole w g 4 [.bool st] ∧ Whole w k 31 [.int .u32 b]) ∧ n ≤ g ∧ n ≤ k
theorem ToldFr.at' {n : Nat} {v : Value} {st : Bool} {b : Int} {w : World} (h : ToldFr n v st b w) : ToldAt v st b w := by
  obtain ⟨g, k, h1, h2, _⟩ := h
  exact ⟨g, k, h1, h2.1, h2.2⟩
theorem ToldFr.mono {n m : Nat} {v : Value} {st : Bool} {b : Int} {w : World} (h : ToldFr n v st b w) (hm : m ≤ n) : ToldFr m v st b w := by
  obtain ⟨g, k, h1, h2, h3, h4⟩ := h
  exact ⟨g, k, h1, h2, by omega, by omega⟩
set_option maxRecDepth 100000 in
set_option maxHeartbeats 8000000 in
theorem told_F {l : Lay} {im : Img} (hi : im.Wf) (b : Int) {w : World} (h : Fld l w) : Calls Tryd.prog 42 #[l.val, im.val, .int .u32 b] w fun e w' => ∃ v, e = .returned v ∧ ToldFr w.heap.size v (staleI l im) b w' ∧ Below w.heap.size w w' := by
  obtain ⟨Q, HQ, HQf, HQb, HQl, HQi, HQu, hq⟩ := keep_lib h l.cells im.cells [.int .u32 b] 29 35 31
  obtain ⟨r, hr⟩ : ∃ r, staleI l im = r := ⟨_, rfl⟩
  have KS : Hid (∀ W, Q W → Calls Tryd.prog 18 #[l.val, im.val] W fun e w' => e = .returned (.bool r) ∧ Below W.heap.size W w') := Lib.hid fun W hW => staleI_B hr (HQf.out W hW)
  rw [hr]
  clear hr
  have m0 := HQl.out _ hq
  have x0 := m0.cell_at 0 rfl
  have x1 := m0.cell_at 1 rfl
  have x2 := m0.cell_at 2 rfl
  have x3 := m0.cell_at 3 rfl
  have x4 := m0.cell_at 4 rfl
  have x5 := m0.cell_at 5 rfl
  have x6 := m0.cell_at 6 rfl
  have x7 := m0.cell_at 7 rfl
  have x8 := m0.cell_at 8 rfl
  have x9 := m0.cell_at 9 rfl
  have x10 := m0.cell_at 10 rfl
  clear m0
  go_enter Tryd.func42, Tryd.ntmps42
  go_upto_region 1 with (fail)
  apply wp_region_lit
  repeat (first | (refine wpList_skip (by rfl) ?_; simp only [Act.put, List.setIfInBounds_toArray, List.set_cons_zero, List.set_cons_succ]) | (refine wpList_read _ (by rfl) (exec_img hi.len (by rfl) (by rfl) (HQi.out _ hq)) ?_; simp only [Act.put, List.setIfInBounds_toArray, List.set_cons_zero, List.set_cons_succ]) | (refine wpList_read _ (by rfl) (by (go_simp; first | done | with_reducible rfl)) ?_; simp only [Act.put, List.setIfInBounds_toArray, List.set_cons_zero, List.set_cons_succ]))
  go_wp2_with fail
  refine (KS.out _ hq).mono ?_
  clear x0 x1 x2 x3 x4 x5 x6 x7 x8 x9 x10
  rintro e w1 ⟨rfl, hB⟩
  have hq1 := HQ.out _ _ hq hB
  have HU := Lib.hid (HQu.out _ hq1)
  have HB := Lib.hid (HQb.out _ hq1)
  clear hq hB hq1
  go_wp2_with fail
  go_ret
  refine ⟨_, rfl, ⟨w1.heap.size, w.heap.size + 1 + 1, rfl, ⟨?_, HU.out.alloc _⟩, HB.out.size, by omega⟩, HB.out.alloc HB.out.size _⟩
  exact Whole.new w1 _ [_]
theorem told_B {l : Lay} {im : Img} (hi : im.Wf) (b : Int) {w : World} (h : Fld l w) : Calls Tryd.prog 42 #[l.val, im.val, .int .u32 b] w fun e w' => ∃ v, e = .returned v ∧ ToldAt v (staleI l im) b w' ∧ Below w.heap.size w w' := (told_F hi b h).mono fun _ _ ⟨v, h1, h2, h3⟩ => ⟨v, h1, h2.at', h3⟩
set_option maxRecDepth 100000 in
set_option maxHeartbeats 8000000 in
theorem toldClear_F {l : Lay} {im : Img} (hi : im.Wf) {w : World} (h : Fld l w) : Calls Tryd.prog 46 #[l.val, im.val] w fun e w' => ∃ v, e = .returned v ∧ ToldFr w.heap.size v (staleI l im) (4294967295 - im.o) w' ∧ Below w.heap.size w w' := by
  obtain ⟨Q, HQ, HQf, HQb, HQl, HQi, hq⟩ := keep_li h l.cells im.cells 29 35
  have KT := Lib.hid fun W (hW : Q W) => told_F hi (4294967295 - im.o) (HQf.out W hW)
  have HN := not_u32m hi.o
  have y25 := (HQi.out _ hq).cell_at 25 (im.c_in hi.len 0)
  have m0 := HQl.out _ hq
  have x0 := m0.cell_at 0 rfl
  have x1 := m0.cell_at 1 rfl
  have x2 := m0.cell_at 2 rfl
  have x3 := m0.cell_at 3 rfl
  have x4 := m0.cell_at 4 rfl
  have x5 := m0.cell_at 5 rfl
  have x6 := m0.cell_at 6 rfl
  have x7 := m0.cell_at 7 rfl
  have x8 := m0.cell_at 8 rfl
  have x9 := m0.cell_at 9 rfl
  have x10 := m0.cell_at 10 rfl
  clear m0
  go_enter Tryd.func46, Tryd.ntmps46
  go_upto_region 1 with (fail)
  apply wp_region_lit
  repeat (first | (refine wpList_skip (by rfl) ?_; simp only [Act.put, List.setIfInBounds_toArray, List.set_cons_zero, List.set_cons_succ]) | (refine wpList_read _ (by rfl) (exec_img hi.len (by rfl) (by rfl) (HQi.out _ hq)) ?_; simp only [Act.put, List.setIfInBounds_toArray, List.set_cons_zero, List.set_cons_succ]) | (refine wpList_read _ (by rfl) (by (go_simp; first | done | with_reducible rfl)) ?_; simp only [Act.put, List.setIfInBounds_toArray, List.set_cons_zero, List.set_cons_succ]))
  go_wp2_with fail
  refine (KT.out _ hq).mono ?_
  clear x0 x1 x2 x3 x4 x5 x6 x7 x8 x9 x10 y25
  rintro e w1 ⟨v, rfl, HT, hB⟩
  have HT := Lib.hid (HT.mono (HQb.out _ hq).size)
  have HB := Lib.hid (HQb.out _ (HQ.out _ _ hq hB))
  clear hq hB
  go_wp2_with fail
  go_ret
  exact ⟨_, rfl, HT.out, HB.out⟩
theorem toldClear_B {l : Lay} {im : Img} (hi : im.Wf) {w : World} (h : Fld l w) : Calls Tryd.prog 46 #[l.val, im.val] w fun e w' => ∃ v, e = .returned v ∧ ToldAt v (staleI l im) (4294967295 - im.o) w' ∧ Below w.heap.size w w' := (toldClear_F hi h).mono fun _ _ ⟨v, h1, h2, h3⟩ => ⟨v, h1, h2.at', h3⟩
/-- What tells whether a section is occupied. -/
def OccAt (v : Value) (l : Lay) (im : Img) (w : World) : Prop :=
  ∃ (a f i : Nat) (vt : Value), v = .func (.func 51) #[] #[.pointer (some ⟨a, 0, none⟩), .pointer (some ⟨f, 0, none⟩), .pointer (some ⟨i, 0, none⟩)] ∧ (Whole w a 29 l.cells ∧ Whole w f 69 [vt] ∧ Whole w i 35 im.cells) ∧ ToldAt vt (staleI l im) (4294967295 - im.o) w
theorem OccAt.closed (v : Value) (l : Lay) (im : Img) : Closed (OccAt v l im) := fun w w' ⟨a, f, i, vt, hv, ⟨h1, h2, h3⟩, h4⟩ hb => ⟨a, f, i, vt, hv, ⟨h1.below hb h1.lt, h2.below hb h2.lt, h3.below hb h3.lt⟩, ToldAt.closed _ _ _ _ _ h4 hb⟩
def OccFr (n : Nat) (v : Value) (l : Lay) (im : Img) (w : World) : Prop :=
  ∃ (a f i : Nat) (vt : Value), v = .func (.func 51) #[] #[.pointer (some ⟨a, 0, none⟩), .pointer (some ⟨f, 0, none⟩), .pointer (some ⟨i, 0, none⟩)] ∧ (Whole w a 29 l.cells ∧ Whole w f 69 [vt] ∧ Whole w i 35 im.cells) ∧ (n ≤ a ∧ n ≤ f ∧ n ≤ i) ∧ ToldFr n vt (staleI l im) (4294967295 - im.o) w
set_option maxRecDepth 100000 in
set_option maxHeartbeats 8000000 in
theorem occupied_F {l : Lay} {im : Img} (hi : im.Wf) {w : World} (h : Fld l w) : Calls Tryd.prog 39 #[l.val, im.val] w fun e w' => ∃ v, e = .returned v ∧ OccFr w.heap.size v l im w' ∧ Below w.heap.size w w' := by
  obtain ⟨Q, HQ, HQf, HQb, HQl, HQi, hq⟩ := keep_li h l.cells im.cells 29 35
  have KT := Lib.hid fun W (hW : Q W) => toldClear_F hi (HQf.out W hW)
  have m0 := HQl.out _ hq
  have x0 := m0.cell_at 0 rfl
  have x1 := m0.cell_at 1 rfl
  have x2 := m0.cell_at 2 rfl
  have x3 := m0.cell_at 3 rfl
  have x4 := m0.cell_at 4 rfl
  have x5 := m0.cell_at 5 rfl
  have x6 := m0.cell_at 6 rfl
  have x7 := m0.cell_at 7 rfl
  have x8 := m0.cell_at 8 rfl
  have x9 := m0.cell_at 9 rfl
  have x10 := m0.cell_at 10 rfl
  clear m0
  go_enter Tryd.func39, Tryd.ntmps39
  go_upto_region 1 with (fail)
  apply wp_region_lit
  repeat (first | (refine wpList_skip (by rfl) ?_; simp only [Act.put, List.setIfInBounds_toArray, List.set_cons_zero, List.set_cons_succ]) | (refine wpList_read _ (by rfl) (exec_img hi.len (by rfl) (by rfl) (HQi.out _ hq)) ?_; simp only [Act.put, List.setIfInBounds_toArray, List.set_cons_zero, List.set_cons_succ]) | (refine wpList_read _ (by rfl) (by (go_simp; first | done | with_reducible rfl)) ?_; simp only [Act.put, List.setIfInBounds_toArray, List.set_cons_zero, List.set_cons_succ]))
  go_wp2_with fail
  refine (KT.out _ hq).mono ?_
  clear x0 x1 x2 x3 x4 x5 x6 x7 x8 x9 x10
  rintro e w1 ⟨v, rfl, HT, hB⟩
  have HT := Lib.hid (HT.mono (HQb.out _ hq).size)
  have hq1 := HQ.out _ _ hq hB
  have HL := Lib.hid (HQl.out _ hq1)
  have HI := Lib.hid (HQi.out _ hq1)
  have HB := Lib.hid (HQb.out _ hq1)
  clear hq hB hq1
  obtain ⟨g, k, rfl, ⟨h1, h2⟩, h3⟩ := HT.out
  have H3 := Lib.hid h3
  clear h3
  have H1 := Lib.hid h1
  have H2 := Lib.hid h2
  clear h1 h2 HT
  go_wp2_with fail
  go_ret
  refine ⟨_, rfl, ⟨w.heap.size, w1.heap.size, w.heap.size + 1, _, rfl, ⟨HL.out.alloc _, Whole.new w1 _ [_], HI.out.alloc _⟩, ⟨Nat.le_refl _, HB.out.size, by omega⟩, ⟨g, k, rfl, ⟨H1.out.alloc _, H2.out.alloc _⟩, H3.out⟩⟩, HB.out.alloc HB.out.size _⟩
theorem occupied_B {l : Lay} {im : Img} (hi : im.Wf) {w : World} (h : Fld l w) : Calls Tryd.prog 39 #[l.val, im.val] w fun e w' => ∃ v, e = .returned v ∧ OccAt v l im w' ∧ Below w.heap.size w w' := (occupied_F hi h).mono fun _ _ ⟨v, h1, ⟨a, f, i, vt, h2, h3, _, h4⟩, h5⟩ => ⟨v, h1, ⟨a, f, i, vt, h2, h3, h4.at'⟩, h5⟩

end Go.Proofs.YtniihmafbeplaaaDoor
