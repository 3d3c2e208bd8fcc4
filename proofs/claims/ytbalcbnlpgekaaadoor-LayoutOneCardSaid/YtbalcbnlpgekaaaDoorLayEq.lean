/- '==' and '!=' of ports, signals, steps, flanks, sections, times: by their numbers. -/
import Derived.Test.YtbalcbnlpgekaaaDoorLayA
import Derived.ChangeKeysEq
namespace Go.Proofs.YtbalcbnlpgekaaaDoor
open Go.RowKit Go.Shelf
set_option linter.unusedVariables false
set_option linter.unusedSimpArgs false

theorem andThen_eq_ite {w : World} (b : Bool) (f : Bool → World → Result Value) : (Result.ok b w).andThen f = f b w := rfl
set_option maxHeartbeats 1000000 in
theorem eq_prt (w : World) (d : Nat) (a b c e : Int) : (Op.equalIn (d + 2) 31 (prtV a b) (prtV c e)).run Tryd.prog w = .ok (a == c && b == e) w := by
  cases h1 : (a == c) <;> cases h2 : (b == e) <;> go_simp
set_option maxHeartbeats 1000000 in
theorem eq_arr4 (w : World) (d : Nat) (a0 b0 a1 b1 a2 b2 a3 b3 c0 d0 c1 d1 c2 d2 c3 d3 : Int) :
    (Op.equalIn (d + 3) 36 (.agg #[.int .i64 a0, .int .i64 b0, .int .i64 a1, .int .i64 b1, .int .i64 a2, .int .i64 b2, .int .i64 a3, .int .i64 b3]) (.agg #[.int .i64 c0, .int .i64 d0, .int .i64 c1, .int .i64 d1, .int .i64 c2, .int .i64 d2, .int .i64 c3, .int .i64 d3])).run Tryd.prog w
      = .ok ((a0 == c0 && b0 == d0) && ((a1 == c1 && b1 == d1) && ((a2 == c2 && b2 == d2) && (a3 == c3 && b3 == d3)))) w := by
  obtain ⟨i, hi⟩ : ∃ i, Tryd.prog.info? 31 = some i := Option.isSome_iff_exists.1 (by kernel_rfl)
  have hc : Tryd.prog.cellsOf 31 = 2 := by kernel_rfl
  have hr : List.range 4 = [0, 1, 2, 3] := rfl
  have p0 : ∀ (x0 y0 x1 y1 x2 y2 x3 y3 : Int) (w : World), (part 31 #[.int .i64 x0, .int .i64 y0, .int .i64 x1, .int .i64 y1, .int .i64 x2, .int .i64 y2, .int .i64 x3, .int .i64 y3] 0).run Tryd.prog w = .ok (prtV x0 y0) w := fun _ _ _ _ _ _ _ _ _ => by kernel_rfl
  have p1 : ∀ (x0 y0 x1 y1 x2 y2 x3 y3 : Int) (w : World), (part 31 #[.int .i64 x0, .int .i64 y0, .int .i64 x1, .int .i64 y1, .int .i64 x2, .int .i64 y2, .int .i64 x3, .int .i64 y3] 2).run Tryd.prog w = .ok (prtV x1 y1) w := fun _ _ _ _ _ _ _ _ _ => by kernel_rfl
  have p2 : ∀ (x0 y0 x1 y1 x2 y2 x3 y3 : Int) (w : World), (part 31 #[.int .i64 x0, .int .i64 y0, .int .i64 x1, .int .i64 y1, .int .i64 x2, .int .i64 y2, .int .i64 x3, .int .i64 y3] 4).run Tryd.prog w = .ok (prtV x2 y2) w := fun _ _ _ _ _ _ _ _ _ => by kernel_rfl
  have p3 : ∀ (x0 y0 x1 y1 x2 y2 x3 y3 : Int) (w : World), (part 31 #[.int .i64 x0, .int .i64 y0, .int .i64 x1, .int .i64 y1, .int .i64 x2, .int .i64 y2, .int .i64 x3, .int .i64 y3] 6).run Tryd.prog w = .ok (prtV x3 y3) w := fun _ _ _ _ _ _ _ _ _ => by kernel_rfl
  have q := fun a b c e => eq_prt w d a b c e
  rw [run_equalIn_array w (d + 2) _ _ Tryd.underlying36 hi, hc, hr]
  simp only [Op.eqItems, Sem.run_bind, Nat.reduceMul, p0, p1, p2, p3, Result.andThen_ok, Nat.reduceAdd] at q ⊢
  rw [q]
  cases (a0 == c0 && b0 == d0)
  · simp
  simp only [Result.andThen_ok, Bool.not_true, Bool.false_eq_true, if_false, p0, p1, p2, p3, Sem.run_bind]
  rw [q]
  cases (a1 == c1 && b1 == d1)
  · simp
  simp only [Result.andThen_ok, Bool.not_true, Bool.false_eq_true, if_false, p0, p1, p2, p3, Sem.run_bind]
  rw [q]
  cases (a2 == c2 && b2 == d2)
  · simp
  simp only [Result.andThen_ok, Bool.not_true, Bool.false_eq_true, if_false, p0, p1, p2, p3, Sem.run_bind]
  rw [q]
  cases (a3 == c3 && b3 == d3) <;> simp
set_option maxHeartbeats 1000000 in
theorem eq_arr2 (w : World) (d : Nat) (a0 a1 c0 c1 : Int) :
    (Op.equalIn (d + 2) 37 (.agg #[.int .i64 a0, .int .i64 a1]) (.agg #[.int .i64 c0, .int .i64 c1])).run Tryd.prog w = .ok (a0 == c0 && a1 == c1) w := by
  obtain ⟨i, hi⟩ : ∃ i, Tryd.prog.info? 3 = some i := Option.isSome_iff_exists.1 (by kernel_rfl)
  have hc : Tryd.prog.cellsOf 3 = 1 := by kernel_rfl
  have hr : List.range 2 = [0, 1] := rfl
  have hq : ∀ x y : Int, (Op.equalIn (d + 1) 3 (.int .i64 x) (.int .i64 y)).run Tryd.prog w = .ok (x == y) w := fun x y => run_equalIn_int w d 3 .i64 .i64 x y Tryd.underlying3
  have p0 : ∀ (x0 x1 : Int) (w : World), (part 3 #[.int .i64 x0, .int .i64 x1] 0).run Tryd.prog w = .ok (.int .i64 x0) w := fun _ _ _ => by kernel_rfl
  have p1 : ∀ (x0 x1 : Int) (w : World), (part 3 #[.int .i64 x0, .int .i64 x1] 1).run Tryd.prog w = .ok (.int .i64 x1) w := fun _ _ _ => by kernel_rfl
  rw [run_equalIn_array w (d + 1) _ _ Tryd.underlying37 hi, hc, hr]
  simp only [Op.eqItems, Sem.run_bind, Nat.reduceMul, p0, p1, Result.andThen_ok]
  rw [hq]
  cases (a0 == c0)
  · simp
  simp only [Result.andThen_ok, Bool.not_true, Bool.false_eq_true, if_false, p0, p1, Sem.run_bind]
  rw [hq]
  cases (a1 == c1) <;> simp

/-- By numbers. -/
def Sec.same (x y : Sec) : Bool := x.k == y.k && (((x.s0 == y.s0 && x.q0 == y.q0) && ((x.s1 == y.s1 && x.q1 == y.q1) && ((x.s2 == y.s2 && x.q2 == y.q2) && (x.s3 == y.s3 && x.q3 == y.q3)))) && (x.c0 == y.c0 && x.c1 == y.c1))
theorem Sec.same_iff {x y : Sec} : x.same y = true ↔ x = y := by
  cases x; cases y
  unfold Sec.same
  simp only [Bool.and_eq_true, beq_iff_eq, Sec.mk.injEq]
  constructor
  · rintro ⟨h0, ⟨⟨h1, h2⟩, ⟨h3, h4⟩, ⟨h5, h6⟩, h7, h8⟩, h9, h10⟩
    exact ⟨h0, h1, h2, h3, h4, h5, h6, h7, h8, h9, h10⟩
  · rintro ⟨h0, h1, h2, h3, h4, h5, h6, h7, h8, h9, h10⟩
    exact ⟨h0, ⟨⟨h1, h2⟩, ⟨h3, h4⟩, ⟨h5, h6⟩, h7, h8⟩, h9, h10⟩
theorem Sec.same_eq (x y : Sec) : x.same y = decide (x = y) := by rw [Bool.eq_iff_iff, Sec.same_iff, decide_eq_true_eq]

set_option maxHeartbeats 2000000 in
theorem eq_sec (w : World) (x y : Sec) : (Op.equalIn 10000 39 x.val y.val).run Tryd.prog w = .ok (x.same y) w := by
  have e4 := eq_arr4 w 9996 x.s0 x.q0 x.s1 x.q1 x.s2 x.q2 x.s3 x.q3 y.s0 y.q0 y.s1 y.q1 y.s2 y.q2 y.s3 y.q3
  have e2 := eq_arr2 w 9997 x.c0 x.c1 y.c0 y.c1
  simp only [Nat.reduceAdd] at e4 e2
  unfold Sec.same
  generalize ((x.s0 == y.s0 && x.q0 == y.q0) && ((x.s1 == y.s1 && x.q1 == y.q1) && ((x.s2 == y.s2 && x.q2 == y.q2) && (x.s3 == y.s3 && x.q3 == y.q3)))) = b4 at *
  generalize (x.c0 == y.c0 && x.c1 == y.c1) = b2 at *
  cases h1 : (x.k == y.k) <;> cases b4 <;> cases b2 <;> go_simp
theorem eql_sec (w : World) (x y : Sec) : (binOp .eql 39 x.val y.val).run Tryd.prog w = .ok (.bool (x.same y)) w := by
  rw [run_eql_struct, eq_sec]; rfl
theorem neq_sec (w : World) (x y : Sec) : (binOp .neq 39 x.val y.val).run Tryd.prog w = .ok (.bool (!x.same y)) w := by
  rw [run_neq_struct, eq_sec]; rfl

set_option maxHeartbeats 1000000 in
theorem eq_stp (w : World) (a b c a' b' c' : Int) : (Op.equalIn 10000 33 (stpV a b c) (stpV a' b' c')).run Tryd.prog w = .ok (a == a' && (b == b' && c == c')) w := by
  cases h1 : (a == a') <;> cases h2 : (b == b') <;> cases h3 : (c == c') <;> go_simp
set_option maxHeartbeats 1000000 in
theorem eq_flk (w : World) (a b c d a' b' c' d' : Int) : (Op.equalIn 10000 55 (flkV a b c d) (flkV a' b' c' d')).run Tryd.prog w = .ok (a == a' && (b == b' && (c == c' && d == d'))) w := by
  cases h1 : (a == a') <;> cases h2 : (b == b') <;> cases h3 : (c == c') <;> cases h4 : (d == d') <;> go_simp
set_option maxHeartbeats 1000000 in
theorem eq_sig (w : World) (a b a' b' : Int) : (Op.equalIn 10000 50 (prtV a b) (prtV a' b')).run Tryd.prog w = .ok (a == a' && b == b') w := by
  cases h1 : (a == a') <;> cases h2 : (b == b') <;> go_simp
def sameT (l m : Lay) : Bool := l.t0 == m.t0 && (l.t1 == m.t1 && (l.t2 == m.t2 && (l.t3 == m.t3 && (l.t4 == m.t4 && (l.t5 == m.t5 && l.t6 == m.t6)))))
abbrev Lay.tval (l : Lay) : Value := .agg #[.int .i64 l.t0, .int .i64 l.t1, .int .i64 l.t2, .int .i64 l.t3, .int .i64 l.t4, .int .i64 l.t5, .int .i64 l.t6]
set_option maxHeartbeats 2000000 in
theorem eq_times (w : World) (l m : Lay) : (Op.equalIn 10000 27 l.tval m.tval).run Tryd.prog w = .ok (sameT l m) w := by
  unfold sameT
  cases h0 : (l.t0 == m.t0)
  · go_simp
  cases h1 : (l.t1 == m.t1)
  · go_simp
  cases h2 : (l.t2 == m.t2)
  · go_simp
  cases h3 : (l.t3 == m.t3)
  · go_simp
  cases h4 : (l.t4 == m.t4)
  · go_simp
  cases h5 : (l.t5 == m.t5)
  · go_simp
  cases h6 : (l.t6 == m.t6) <;> go_simp
end Go.Proofs.YtbalcbnlpgekaaaDoor
