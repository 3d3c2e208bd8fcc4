/- Package rank: Sort. -/
import Derived.Test.YtiknjkgioiknnaaDoorQRnkF
import Derived.Deep.CutRange
namespace Go.Proofs.YtiknjkgioiknnaaDoor
open Go.RowKit Go.Shelf
set_option linter.unusedVariables false
set_option linter.unusedSimpArgs false
set_option maxRecDepth 100000

/-- A path, wherever its steps lie. -/
def pk (p : Pth) : Int × Int × List (Int × Int × Int) := (p.s, p.x, p.ss)
theorem info_path : (Tryd.prog.info? 34).map (fun i => (i.zero, i.size, i.bytes)) = some (some (.agg #[.int .i64 0, .int .i64 0, .slice none 0 0]), 3, 40) := by kernel_rfl
theorem onePath (p : Pth) : ∀ v ∈ Pth.cells p, v.oneCell' = true := by
  intro v hv
  simp only [List.mem_cons, List.not_mem_nil, or_false] at hv
  rcases hv with rfl | rfl | rfl <;> rfl
theorem append_path (base n : Nat) (v : Value) (xs : List Value) (x : Pth) (w : World) (a : Nat) (hown : w.ownsRow base 34 3 v n xs) (hc : Whole w a 34 (Pth.cells x)) (hn : n ≤ 1000000) (hbase : base ≤ w.heap.size) :
    ∃ v' w', (Builtin.append_ #[42, 42] 42 #[v, .slice (some ⟨a, 0, none⟩) 1 1]).run Tryd.prog w = .ok v' w' ∧ w'.ownsRow base 34 3 v' (n + 1) (xs ++ Pth.cells x) ∧ w.grownBy w' v.ownBlock ∧ Below base w w' ∧ (v'.ownBlock = v.ownBlock ∨ v'.ownBlock = some w.heap.size) := by
  obtain ⟨i, i1, i2, i3, i4⟩ := info_parts info_path
  obtain ⟨v', w', r1, r2, r3, r4, r5⟩ := run_append_own_at (P := Tryd.prog) w base 42 42 34 i (.agg #[.int .i64 0, .int .i64 0, .slice none 0 0]) 3 40 Tryd.underlying42 i1 i2 i3 i4 rfl (by omega) v n xs hown ⟨a, 0, none⟩ 1 1 (Pth.cells x) rfl (row_add (hc.row hc.lt)) (onePath x) (by unfold maxLen; omega) (by omega) hbase
  exact ⟨v', w', r1, r2, r3, (Below.refl base w).grown r3 hbase (fun k e => (hown.lt k e).1), r5⟩
theorem range_next {n j : Nat} (h : j < n) : (List.range j ++ List.replicate (n - j) 0).set j j = List.range (j + 1) ++ List.replicate (n - (j + 1)) 0 := by
  rw [rep_succ h, List.set_append_right _ _ (by simp), List.length_range, Nat.sub_self, List.range_succ, List.append_assoc]
  rfl
/-- The places that are sorted, the table of rows beside them. -/
structure PlcS (w : World) (l : Lay) (base gq gr : Nat) (ts : List Ent) (n : Nat) (d : List Nat) (W : World) : Prop where
  below : Below w.heap.size w W
  tabs : RowsAt base gq gr ts W
  places : Whole W (w.heap.size + 1) 3 (cel12 d)
  len : d.length = n
theorem PlcS.kit (w : World) (l : Lay) {base : Nat} (gq gr : Nat) (ts : List Ent) (n : Nat) (hb : w.heap.size + 1 < base) : Kit12 (PlcS w l base gq gr ts n) (w.heap.size + 1) n :=
  ⟨fun d W W' h hB => ⟨h.below.trans (hB.mono h.below.size), RowsAt.closed _ _ _ _ _ _ h.tabs hB, h.places.below hB h.places.lt, h.len⟩, fun d W h => h.places, fun d W h => h.len, fun d W i v h hi =>
    ⟨h.below.setCell (p := ⟨w.heap.size + 1, i, none⟩) (by show w.heap.size ≤ w.heap.size + 1; omega) _, h.tabs.far hb i _, by rw [cel_set]; exact h.places.set i _, by rw [List.length_set]; exact h.len⟩⟩
theorem PlcS.cmp (w : World) (l : Lay) {base : Nat} (gq gr : Nat) (ts : List Ent) (n : Nat) (hn : n ≤ 1000000) (ht : ts.length = n) : Cmp12 (PlcS w l base gq gr ts n) n gq (cvOf (entRows ts)) :=
  fun d W x y h hx hy => order1_any h.tabs (by omega) (by omega) (by omega) rfl
/-- j paths have been told. -/
structure SrtS (w : World) (d : List Nat) (ps : List Pth) (j : Nat) (v : Value) (qs : List Pth) (W : World) : Prop where
  below : Below w.heap.size w W
  places : Whole W (w.heap.size + 1) 3 (cel12 d)
  own : W.ownsRow (w.heap.size + 2) 34 3 v j (qs.flatMap Pth.cells)
  each : ∀ q ∈ qs, W.ownsRow (w.heap.size + 2) 53 3 (.slice q.A q.ss.length q.c) q.ss.length (q.ss.flatMap stpCells) ∧ (q.ss.length : Int) ≤ 9223372036854775807 ∧ ∀ b, (Value.slice q.A q.ss.length q.c).ownBlock = some b → v.ownBlock ≠ some b
  vals : qs.map (fun q => some (pk q)) = (d.take j).map (fun i => (ps[i]?).map pk)
theorem SrtS.next {w : World} {d : List Nat} {ps : List Pth} {j : Nat} {v v' : Value} {qs : List Pth} {W w1 w' : World} (h : SrtS w d ps j v qs W) (hj : j < d.length) {p : Pth} (hp : ps[at12 d j]? = some p) (hpl : (p.ss.length : Int) ≤ 9223372036854775807) {A1 : Option Addr} {c1 : Nat}
    (hB1 : Below W.heap.size W w1) (ho : w1.ownsRow W.heap.size 53 3 (.slice A1 p.ss.length c1) p.ss.length (p.ss.flatMap stpCells))
    (r2 : w'.ownsRow (w.heap.size + 2) 34 3 v' (j + 1) (qs.flatMap Pth.cells ++ Pth.cells ⟨p.s, p.x, A1, c1, p.ss⟩)) (r3 : (w1.alloc (.cells #[.int .i64 p.s, .int .i64 p.x, .slice A1 p.ss.length c1] 34)).grownBy w' v.ownBlock) (r4 : Below (w.heap.size + 2) (w1.alloc (.cells #[.int .i64 p.s, .int .i64 p.x, .slice A1 p.ss.length c1] 34)) w') (r5 : v'.ownBlock = v.ownBlock ∨ v'.ownBlock = some (w1.alloc (.cells #[.int .i64 p.s, .int .i64 p.x, .slice A1 p.ss.length c1] 34)).heap.size) :
    SrtS w d ps (j + 1) v' (qs ++ [⟨p.s, p.x, A1, c1, p.ss⟩]) w' := by
  have hb1 := below1 w1 (.cells #[.int .i64 p.s, .int .i64 p.x, .slice A1 p.ss.length c1] 34)
  have hBB : Below W.heap.size W (w1.alloc (.cells #[.int .i64 p.s, .int .i64 p.x, .slice A1 p.ss.length c1] 34)) := hB1.trans (hb1.mono hB1.size)
  have hsz : (w1.alloc (.cells #[.int .i64 p.s, .int .i64 p.x, .slice A1 p.ss.length c1] 34)).heap.size = w1.heap.size + 1 := by simp
  have hpb := h.places.lt
  have hws := h.below.size
  have hvb : ∀ b, v.ownBlock = some b → w.heap.size + 2 ≤ b ∧ b < W.heap.size := fun b hb => h.own.lt b hb
  have hs1 := hB1.size
  refine ⟨h.below.trans ((hBB.mono hws).trans (r4.mono (by omega))), (h.places.below hBB hpb).below r4 (by omega), by rw [List.flatMap_append]; simpa using r2, fun q hq => ?_, ?_⟩
  · rcases List.mem_append.1 hq with hq | hq
    · obtain ⟨e1, e2, e3⟩ := h.each q hq
      have e1' := owns_keep e1 hBB
      refine ⟨e1'.kept r3 ?_, e2, fun b hb => ?_⟩
      · cases hv : (Value.slice q.A q.ss.length q.c).ownBlock with
        | none => exact .inl rfl
        | some b0 => exact .inr (fun e => e3 b0 hv e.symm)
      · have hlt := (e1.lt b hb).2
        rcases r5 with r5 | r5
        · rw [r5]; exact e3 b hb
        · rw [r5, hsz]; intro e; have := Option.some.inj e; omega
    · obtain rfl : q = ⟨p.s, p.x, A1, c1, p.ss⟩ := by simpa using hq
      have ho' := owns_base12 ho (base' := w.heap.size + 2) (by omega)
      have e1' := owns_keep ho' hb1
      refine ⟨e1'.kept r3 ?_, hpl, fun b hb => ?_⟩
      · cases hv : (Value.slice A1 p.ss.length c1).ownBlock with
        | none => exact .inl rfl
        | some b0 => exact .inr (fun e => by have h1 := hvb b0 e.symm; have h2 := (ho.lt b0 hv).1; omega)
      · have h2 := ho.lt b hb
        rcases r5 with r5 | r5
        · rw [r5]; intro e; have := hvb b e; omega
        · rw [r5, hsz]; intro e; have := Option.some.inj e; omega
  · have e : d.take (j + 1) = d.take j ++ [at12 d j] := by rw [List.take_add_one, List.getElem?_eq_getElem hj, at_lt hj]; rfl
    rw [List.map_append, e, List.map_append, h.vals]
    simp only [List.map_cons, List.map_nil, hp, Option.map_some, pk]
set_option maxRecDepth 100000 in
set_option maxHeartbeats 32000000 in
theorem sort_any {l : Lay} {ps : List Pth} {A : Option Addr} (c : Nat) {w : World} (hT : Shapes w) (hL : Lies l w) (hP : PsLies ps A w) (hs : ∀ p ∈ ps, p.ss.length ≤ 1000) (hn : ps.length ≤ 100000) :
    Calls Tryd.prog 12 #[l.val, .slice A ps.length c] w fun e w' => ∃ A' c' qs d, e = .returned (.slice A' ps.length c') ∧ (qs.length = ps.length ∧ PsLies qs A' w') ∧ (d.Perm (List.range ps.length) ∧ Srt (ltOf12 (cvOf (ps.map (fun p => rowV l p.ss)))) d 0 ps.length) ∧ qs.map (fun q => some (pk q)) = d.map (fun i => (ps[i]?).map pk) ∧ Below w.heap.size w w' := by
  obtain ⟨rs, hrs⟩ : ∃ rs, ps.map (fun p => rowV l p.ss) = rs := ⟨_, rfl⟩
  have O : Ord12 (ltOf12 (cvOf rs)) := ord_rows rs
  have hmk := make_run (P := Tryd.prog) 58 3 _ 8 Tryd.underlying58 ints_info rfl ps.length (by omega) (by omega) (w.alloc (.cells #[.slice l.As l.secs.length l.cs, .slice l.Ag l.sigs.length l.cg, .slice l.Ae l.exits.length l.ce, .slice l.Af l.flanks.length l.cf, .int .i64 l.t0, .int .i64 l.t1, .int .i64 l.t2, .int .i64 l.t3, .int .i64 l.t4, .int .i64 l.t5, .int .i64 l.t6] 29))
  rw [show (w.alloc (.cells #[.slice l.As l.secs.length l.cs, .slice l.Ag l.sigs.length l.cg, .slice l.Ae l.exits.length l.ce, .slice l.Af l.flanks.length l.cf, .int .i64 l.t0, .int .i64 l.t1, .int .i64 l.t2, .int .i64 l.t3, .int .i64 l.t4, .int .i64 l.t5, .int .i64 l.t6] 29)).heap.size = w.heap.size + 1 by simp] at hmk
  obtain ⟨W1, hW1⟩ : ∃ W1, (w.alloc (.cells #[.slice l.As l.secs.length l.cs, .slice l.Ag l.sigs.length l.cg, .slice l.Ae l.exits.length l.ce, .slice l.Af l.flanks.length l.cf, .int .i64 l.t0, .int .i64 l.t1, .int .i64 l.t2, .int .i64 l.t3, .int .i64 l.t4, .int .i64 l.t5, .int .i64 l.t6] 29)).alloc (.cells (Array.replicate ps.length (Value.int .i64 0)) 3) = W1 := ⟨_, rfl⟩
  have HS0 : Hid (Below w.heap.size w W1 ∧ Whole W1 w.heap.size 29 l.cells ∧ Whole W1 (w.heap.size + 1) 3 (cel12 (List.range 0 ++ List.replicate (ps.length - 0) 0))) := Lib.hid (by
    rw [← hW1, ← List.toArray_replicate]
    have e : cel12 (List.range 0 ++ List.replicate (ps.length - 0) 0) = List.replicate ps.length (Value.int .i64 0) := by simp [cel12]
    rw [e]
    exact ⟨below2 w _ _, (Whole.new w _ l.cells).alloc _, Whole.new_at _ _ _ _ (by simp)⟩)
  have HW1 := Lib.hid hW1
  have HTW : Hid (∀ W, Below w.heap.size w W → (Shapes W ∧ Lies l W) ∧ PsLies ps A W) := Lib.hid fun W hB => ⟨⟨Shapes.closed _ _ hT hB, Lies.closed l _ _ hL hB⟩, PsLies.closed ps A _ _ hP hB⟩
  have HSL := Lib.hid hs
  have HRS := Lib.hid hrs
  have HO := Lib.hid O
  rw [hrs]
  clear hW1 hT hL hP hs hrs O
  go_enter Tryd.func12, Tryd.ntmps12
  go_wp2_with fail
  rw [HW1.out]
  clear hmk
  go_loopw [6, 15] (fun vn vi wr => ∃ j : Nat, vi = .int .i64 j ∧ j ≤ ps.length ∧ Hid (Below w.heap.size w wr ∧ Whole wr w.heap.size 29 l.cells ∧ Whole wr (w.heap.size + 1) 3 (cel12 (List.range j ++ List.replicate (ps.length - j) 0))))
    (fun _ vi _ => ps.length - (intOf vi).toNat)
  case atStart => exact ⟨0, rfl, Nat.zero_le _, HS0⟩
  case round =>
    clear HS0 HW1
    obtain ⟨j, rfl, hj, HS⟩ := hrel
    by_cases hlt : j < ps.length
    · have hlt' : (j : Int) < ps.length := by omega
      have hwi : IntKind.i64.wrap ((j : Int) + 1) = (j : Int) + 1 := IntWalk.i64_in _ (by omega)
      have c0 := cel_cell HS.out.2.2 (i := j) (by simp; omega)
      have f0 := HS.out.2.2.frozen j
      have HN : Hid (Below w.heap.size w (wr.setCell ⟨w.heap.size + 1, j, none⟩ (.int .i64 (j : Int))) ∧ Whole (wr.setCell ⟨w.heap.size + 1, j, none⟩ (.int .i64 (j : Int))) w.heap.size 29 l.cells ∧ Whole (wr.setCell ⟨w.heap.size + 1, j, none⟩ (.int .i64 (j : Int))) (w.heap.size + 1) 3 (cel12 (List.range (j + 1) ++ List.replicate (ps.length - (j + 1)) 0))) := Lib.hid (by
        refine ⟨HS.out.1.setCell (p := ⟨w.heap.size + 1, j, none⟩) (by show w.heap.size ≤ w.heap.size + 1; omega) _, HS.out.2.1.far (p := ⟨w.heap.size + 1, j, none⟩) (by show w.heap.size ≠ w.heap.size + 1; omega) _, ?_⟩
        rw [← range_next hlt, cel_set]
        exact HS.out.2.2.set j _)
      clear HS
      go_wp2_with fail
      go_roundw
      case rel => exact ⟨j + 1, by go_num, hlt, HN⟩
      case measure => simp [intOf]; omega
    · obtain rfl : j = ps.length := by omega
      obtain ⟨wk, rfl⟩ : ∃ W, W = wr := ⟨wr, rfl⟩
      have hh := HTW.out _ HS.out.1
      have KO := Lib.hid (order_any (l := l) c hh.1.1 hh.1.2 hh.2 HSL.out (by omega))
      have m0 := HS.out.2.1
      have x0 := m0.cell_at 0 rfl
      have x1 := m0.cell_at 1 rfl
      have x2 := m0.cell_at 2 rfl
      have x3 := m0.cell_at 3 rfl
      have x4 := m0.cell_at 4 rfl
      have x5 := m0.cell_at 5 rfl
      have x6 := m0.cell_at 6 rfl
      have x7 := m0.cell_at 7 rfl
      have x8 := m0.cell_at 8 rfl
      have x9 := m0.cell_at 9 rfl
      have x10 := m0.cell_at 10 rfl
      clear m0
      clear hh
      go_wp2_with fail
      refine KO.out.mono ?_
      clear KO x0 x1 x2 x3 x4 x5 x6 x7 x8 x9 x10
      rintro e w1 ⟨gq, gr, ts, rfl, hR, hv, hB1⟩
      have hpl := HS.out.2.2.lt
      have htl : ts.length = ps.length := by
        have := congrArg List.length hv
        simpa [entRows] using this
      have hP0 : PlcS w l wk.heap.size gq gr ts ps.length (List.range ps.length) w1 := ⟨HS.out.1.trans (hB1.mono HS.out.1.size), hR, by
        have := HS.out.2.2.below hB1 hpl
        rw [Nat.sub_self, List.replicate_zero, List.append_nil] at this
        exact this, List.length_range⟩
      have KS := sortStable_any (PlcS.kit w l gq gr ts ps.length hpl) (PlcS.cmp w l gq gr ts ps.length (by omega) htl) (by rw [hv, HRS.out]; exact HO.out) (by omega) ps.length hP0
      rw [hv, HRS.out] at KS
      have KS := Lib.hid KS
      clear hR hv hB1 htl hP0 hpl HS
      go_wp2_with fail
      refine KS.out.mono ?_
      clear KS
      rintro e w2 ⟨rfl, d, hS2, hdp, hds⟩
      obtain ⟨i, i1, i2, i3, i4⟩ := info_parts info_path
      obtain ⟨w3, hmk, hown, hg3⟩ := run_make_own (P := Tryd.prog) w2 (w.heap.size + 2) 42 34 i _ 3 Tryd.underlying42 i1 i2 i3 .i64 .i64 ps.length (by rw [i4]; omega) (by unfold maxLen; omega) (by have := hS2.places.lt; omega)
      have hB3 : Below w2.heap.size w2 w3 := (Below.refl _ _).grown hg3 (Nat.le_refl _) (fun k e => by cases e)
      have HD := Lib.hid (And.intro hdp hds)
      have hdl : d.length = ps.length := hS2.len
      have HS3 : Hid (SrtS w d ps 0 (.slice (some ⟨w2.heap.size, 0, none⟩) 0 ps.length) [] w3) := Lib.hid ⟨hS2.below.trans (hB3.mono hS2.below.size), hS2.places.below hB3 hS2.places.lt, hown, fun q hq => (by cases hq), rfl⟩
      have HDL := Lib.hid hdl
      clear hS2 hdp hds i1 i2 i3 i4 hown hg3 hB3 hdl
      go_wp2_with fail
      go_loopw [7, 9, 33] (fun vs vn vi wr => ∃ (j : Nat) (qs : List Pth), vi = .int .i64 j ∧ j ≤ ps.length ∧ SrtS w d ps j vs qs wr)
        (fun _ _ vi _ => ps.length - (intOf vi).toNat)
      case atStart => exact ⟨0, [], rfl, Nat.zero_le _, HS3.out⟩
      case round =>
        clear HS3 hmk
        obtain ⟨j, qs, rfl, hj, hS⟩ := hrel
        by_cases hlt : j < ps.length
        · have hlt' : (j : Int) < ps.length := by omega
          have hwi : IntKind.i64.wrap ((j : Int) + 1) = (j : Int) + 1 := IntWalk.i64_in _ (by omega)
          have c0 := cel_cell hS.places (i := j) (by rw [HDL.out]; exact hlt)
          have hit := at_range HD.out.1 hlt
          obtain ⟨it, hite⟩ : ∃ it, at12 d j = it := ⟨_, rfl⟩
          rw [hite] at c0 hit
          have hit' : (it : Int) < ps.length := by omega
          obtain ⟨p, hp⟩ : ∃ p, ps[it]? = some p := ⟨_, List.getElem?_eq_getElem hit⟩
          have hpp := HTW.out _ hS.below
          obtain ⟨b, off, rfl, _, hc0, hc⟩ := hpp.2.row.nth (n := 3) (fun _ => rfl) (by omega) hp
          have d0 := hc0 it _ _ hp rfl
          have d1 := hc it _ 1 _ hp rfl
          have d2 := hc it _ 2 _ hp rfl
          have hpm := hpp.2.each p (List.mem_of_getElem? hp)
          have KW := Lib.hid (own12_any hpm (HSL.out p (List.mem_of_getElem? hp)))
          have HPI : Hid (ps[at12 d j]? = some p ∧ (p.ss.length : Int) ≤ 9223372036854775807) := Lib.hid ⟨by rw [hite]; exact hp, hpm.len⟩
          have HS := Lib.hid hS
          clear hS hc0 hc hp hpp hpm hite
          go_wp2_with fail
          refine KW.out.mono ?_
          clear KW c0 d0 d1 d2
          rintro e w4 ⟨A1, c1, rfl, ho1, hB4⟩
          have hb5 := below1 w4 (.cells #[.int .i64 p.s, .int .i64 p.x, .slice A1 p.ss.length c1] 34)
          obtain ⟨v', w5, hrun, r2, r3, r4, r5⟩ := append_path (w.heap.size + 2) j u7 (qs.flatMap Pth.cells) ⟨p.s, p.x, A1, c1, p.ss⟩ (w4.alloc (.cells #[.int .i64 p.s, .int .i64 p.x, .slice A1 p.ss.length c1] 34)) w4.heap.size (owns_keep (owns_keep HS.out.own hB4) hb5) (Whole.new w4 _ (Pth.cells ⟨p.s, p.x, A1, c1, p.ss⟩)) (by omega) (by have := HS.out.places.lt; have := hB4.size; simp; omega)
          have HN := Lib.hid (HS.out.next (by rw [HDL.out]; exact hlt) HPI.out.1 HPI.out.2 hB4 ho1 r2 r3 r4 r5)
          clear ho1 hB4 hb5 r2 r3 r4 r5
          go_wp2_with (at_builtin; refine list_append rfl (.tmp 37) (.tmp 43) 42 rfl hrun ?_)
          go_roundw
          case rel => exact ⟨j + 1, qs ++ [⟨p.s, p.x, A1, c1, p.ss⟩], by go_num, hlt, HN.out⟩
          case measure => simp [intOf]; omega
        · obtain rfl : j = ps.length := by omega
          obtain ⟨A', c', hv, hr, _⟩ : ∃ A' c', u7 = .slice A' ps.length c' ∧ Row wr wr.heap.size A' (qs.flatMap Pth.cells) ∧ True := by
            have h0 := hS.own
            rcases h0.2 with ⟨e, e0⟩ | ⟨g, cap, cur, e, h3, h4, h5, h6, h7, h8⟩
            · refine ⟨none, 0, by rw [e, e0], ?_, trivial⟩
              have : qs.flatMap Pth.cells = [] := List.eq_nil_of_length_eq_zero (by have := h0.1; omega)
              rw [this]
              exact Row.nil _ _ _
            · refine ⟨_, cap, e, ?_, trivial⟩
              exact owns_row2 (e ▸ h0)
          have HF : Hid ((qs.length = ps.length ∧ PsLies qs A' wr) ∧ qs.map (fun q => some (pk q)) = d.map (fun i => (ps[i]?).map pk) ∧ Below w.heap.size w wr) := Lib.hid (by
            have e := hS.vals
            rw [← HDL.out, List.take_length] at e
            refine ⟨⟨?_, hr, fun q hq => ⟨owns_row2 (hS.each q hq).1, (hS.each q hq).2.1⟩⟩, e, hS.below⟩
            have := congrArg List.length e
            rw [List.length_map, List.length_map, HDL.out] at this
            exact this)
          subst hv
          clear hS hr
          go_wp2_with fail
          go_ret
          exact ⟨A', c', qs, d, rfl, HF.out.1, HD.out, HF.out.2.1, HF.out.2.2⟩
end Go.Proofs.YtiknjkgioiknnaaDoor
