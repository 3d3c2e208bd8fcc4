/- The document's own: a route that is held, in memory of its own. -/
import Derived.Deep.CutRange
import Derived.Deep.MidRow
import Derived.RangeFuncNested
import Derived.RangeFuncBound
import Derived.RangeFuncCalls
import Derived.RangeFuncLeaves
import Derived.RangeFuncBox
import Derived.Shelf.Abstract
import Derived.Shelf.RegionOpen
import Derived.WalkKit
import Derived.OwnWalkIn
import Derived.TacticsInMore
import Derived.LoopNIn
import Derived.LoopIn
import Derived.WalkMore
import Derived.Test.YtljpiafopbfdlaaQHlK
import Derived.Test.YtljpiafopbfdlaaQHlD
namespace Go.Proofs.Ytljpiafopbfdlaa
open Go.RowKit Go.Shelf
set_option linter.unusedVariables false
set_option linter.unusedSimpArgs false

def hld0 : Hld := ⟨0, ⟨0, 0, none, 0, []⟩, none, 0, [], none, 0, [], 0, 0, false, false, false, false, false, false, false, false, false, false, false, false, false, 0, false⟩
theorem hld_one (h : Hld) : ∀ v ∈ h.cells, v.oneCell' = true := by
  intro v hv
  simp only [Hld.cells, List.mem_cons, List.not_mem_nil, or_false] at hv
  rcases hv with rfl | rfl | rfl | rfl | rfl | rfl | rfl | rfl | rfl | rfl | rfl | rfl | rfl | rfl | rfl | rfl | rfl | rfl | rfl | rfl | rfl | rfl | rfl <;> rfl
theorem setCells_off : ∀ (vs : List Value) (o g : Nat) (w : World) (k : Nat), k ≠ g → (w.setCells g o vs).heap[k]? = w.heap[k]?
  | [], _, _, _, _, _ => rfl
  | v :: vs, o, g, w, k, h => (setCells_off vs (o + 1) g _ k h).trans (Below.heap_setCell w ⟨g, o, none⟩ v k (fun e => h e))
theorem wpList_fill {P : Program} {ops : Array Oper} {rest : List Oper} {o : Oper} {a : Act} {w : World} {Q : Exit → Act → World → Prop} (ty : TypeId) (x y : Operand) (ho : o.op = .store ty x y) (hg : o.guard = none) {g : Nat} {old vs : List Value} {t : TypeId} (hx : a.eval x = .pointer (some ⟨g, 0, none⟩)) (hy : a.eval y = .agg vs.toArray)
    (hw : Whole w g t old) (hl : vs.length = old.length) (hi : (P.info? ty).map (·.size) = some vs.length) (h1 : ∀ v ∈ vs, v.oneCell' = true)
    (h : ∀ w', Whole w' g t vs → (∀ n, n ≤ g → Below n w w') → (∀ k, k ≠ g → w'.heap[k]? = w.heap[k]?) → wpList P ops Q rest (a.put o.dst undef) w') : wpList P ops Q (o :: rest) a w := by
  have hth : w.there g 0 vs.toArray.size := by
    have := hw.there
    rw [← hl] at this
    simpa using this
  refine wpList_store_mid hg ty x y ho g 0 vs.toArray hx hy hth (by simpa using hi) (all_oneCell_toArray h1) ?_
  refine h _ ?_ (fun n hn => ?_) (fun k hk => setCells_off vs 0 g w k hk)
  · exact setCells_whole vs [] old hl hw
  · exact setCells_below vs 0 (Below.refl n w) hn
theorem wpList_within {P : Program} {ops : Array Oper} {rest : List Oper} {o : Oper} {a : Act} {w : World} {Q : Exit → Act → World → Prop} (ty : TypeId) (x y : Operand) (ho : o.op = .store ty x y) (hg : o.guard = none) {g off : Nat} {vs : List Value} (hx : a.eval x = .pointer (some ⟨g, off, none⟩)) (hy : a.eval y = .agg vs.toArray)
    (hth : w.there g off vs.length) (hi : (P.info? ty).map (·.size) = some vs.length) (h1 : ∀ v ∈ vs, v.oneCell' = true)
    (h : ∀ w', w' = w.setCells g off vs → wpList P ops Q rest (a.put o.dst undef) w') : wpList P ops Q (o :: rest) a w :=
  wpList_store_mid hg ty x y ho g off vs.toArray hx hy (by simpa using hth) (by simpa using hi) (all_oneCell_toArray h1) (h _ rfl)
theorem res_hld {fn : Func} {p : Tmp} (h : fn.results = #[.cell p 28]) (tmps : Array Value) {w : World} {g : Nat} {x : Hld} (hp : tmps.getD p undef = .pointer (some ⟨g, 0, none⟩)) (hR : Whole w g 28 x.cells) : (results fn tmps).run Try.prog w = .ok x.val w :=
  results_cell_row h tmps w g _ _ (0, 0) _ hp hR Try.underlying28 rfl (by rw [List.size_toArray, hld_len]; exact hld_info)
theorem path_desc : ∃ d, Try.prog.underlying 24 = some d ∧ d.isRow = true := ⟨_, Try.underlying24, rfl⟩
theorem path_info : (Try.prog.info? 24).map (·.size) = some 3 := by kernel_rfl
theorem exec_pth {h : Hld} {o : Oper} {a : Act} {x : Operand} (ho : o.op = .load 24 x) {g : Nat} (hx : a.eval x = .pointer (some ⟨g, 1, none⟩)) {W : World} (hb : Whole W g 28 h.cells) : (execOp a.eval o).run Try.prog W = .ok (.value (Pth.val h.p)) W := by
  obtain ⟨d, h1, h2⟩ := path_desc
  have := run_loadAt_mid (P := Try.prog) W g 1 _ h.p.cells d (fun j v hv => hb.cell_at (1 + j) (by
    match j, hv with
    | 0, hv => exact hv
    | 1, hv => exact hv
    | 2, hv => exact hv)) h1 h2 path_info
  unfold execOp
  simp only [ho, hx, Sem.run_bind, this, Result.andThen_ok, Sem.run_pure]
theorem owns_base17 {W : World} {base base' e k n : Nat} {v : Value} {xs : List Value} (h : W.ownsRow base e k v n xs) (hb : base' ≤ base) : W.ownsRow base' e k v n xs := by
  refine ⟨h.1, ?_⟩
  rcases h.2 with h2 | ⟨g', cap', cur, hv, h3, r⟩
  · exact .inl h2
  · exact .inr ⟨g', cap', cur, hv, by omega, r⟩
/-- Where rows of its own lie. -/
structure Rm where
  A1 : Option Addr
  c1 : Nat
  A2 : Option Addr
  c2 : Nat
  A3 : Option Addr
  c3 : Nat
def Hld.r1 (h : Hld) (A : Option Addr) (c : Nat) : Hld := { h with p := ⟨h.p.s, h.p.x, A, c, h.p.ss⟩ }
def Hld.r2 (h : Hld) (A : Option Addr) (c : Nat) : Hld := { h with oA := A, oc := c }
def Hld.r3 (h : Hld) (A : Option Addr) (c : Nat) : Hld := { h with nA := A, nc := c }
def Hld.re (h : Hld) (x : Rm) : Hld := ((h.r1 x.A1 x.c1).r2 x.A2 x.c2).r3 x.A3 x.c3
abbrev own1 (h : Hld) : Value := .slice h.p.A h.p.ss.length h.p.c
abbrev own2 (h : Hld) : Value := .slice h.oA h.os.length h.oc
abbrev own3 (h : Hld) : Value := .slice h.nA h.ns.length h.nc
/-- Its rows lie in memory of its own: from n0 on, from n1 on, from n2 on. -/
structure HOwn (h : Hld) (n0 n1 n2 : Nat) (w : World) : Prop where
  le : n0 ≤ n1 ∧ n1 ≤ n2
  o1 : w.ownsRow n0 44 3 (own1 h) h.p.ss.length (h.p.ss.flatMap stpCells)
  l1 : ∀ b, (own1 h).ownBlock = some b → b < n1
  o2 : w.ownsRow n1 44 3 (own2 h) h.os.length (h.os.flatMap stpCells)
  l2 : ∀ b, (own2 h).ownBlock = some b → b < n2
  o3 : w.ownsRow n2 40 3 (own3 h) h.ns.length (h.ns.flatMap needCells)
theorem HOwn.closed (h : Hld) (n0 n1 n2 : Nat) : Closed (HOwn h n0 n1 n2) := fun w w' ⟨a, b, c, d, e, f⟩ hb => ⟨a, owns_keep b hb, c, owns_keep d hb, e, owns_keep f hb⟩
theorem owns_cap {w : World} {base e k n c : Nat} {A : Option Addr} {xs : List Value} (h : w.ownsRow base e k (.slice A n c) n xs) : n ≤ c := by
  rcases h.2 with ⟨e, rfl⟩ | ⟨g, cap, cur, e, hg, _, hle, _⟩
  · exact Nat.zero_le _
  · injection e with _ _ e3
    omega
theorem HOwn.lies {h : Hld} {n0 n1 n2 : Nat} {w : World} (ho : HOwn h n0 n1 n2 w) (hs : Small h) : HLies h w :=
  ⟨⟨owns_row2 ho.o1, by have := hs.p; omega⟩, owns_cap ho.o1, owns_row2 ho.o2, by have := hs.o; omega, owns_cap ho.o2, owns_row2 ho.o3, by have := hs.n; omega, owns_cap ho.o3⟩
set_option maxRecDepth 100000 in
set_option maxHeartbeats 32000000 in
theorem ownR17_any {h : Hld} {w : World} (hl : HLies h w) (hs : Small h) : Calls Try.prog 10 #[h.val] w fun e w' => ∃ (x : Rm) (n1 n2 : Nat), e = .returned (h.re x).val ∧ HOwn (h.re x) w.heap.size n1 n2 w' ∧ Below w.heap.size w w' := by
  obtain ⟨W0, hW0⟩ : ∃ W0, (w.alloc (.cells h.cells.toArray 28)).alloc (.cells #[.int .i64 0, .int .i64 0, .int .i64 0, .slice none 0 0, .slice none 0 0, .slice none 0 0, .int .u8 0, .int .i64 0, .bool false, .bool false, .bool false, .bool false, .bool false, .bool false, .bool false, .bool false, .bool false, .bool false, .bool false, .bool false, .bool false, .int .i64 0, .bool false] 28) = W0 := ⟨_, rfl⟩
  have hB0 : Below w.heap.size w W0 := by rw [← hW0]; exact below2 w _ _
  have hs0 : W0.heap.size = w.heap.size + 2 := by rw [← hW0]; simp
  have hb0 : Whole W0 w.heap.size 28 h.cells := by rw [← hW0]; exact (Whole.new w _ h.cells).alloc _
  have hbR : Whole W0 (w.heap.size + 1) 28 hld0.cells := by rw [← hW0]; exact Whole.new_at _ _ hld0.cells _ (by simp)
  have HW0 := Lib.hid hW0
  have K1 := Lib.hid (ownR11s_any (w := W0) (hl.on hB0).pl (by have := hs.p; omega))
  have HL := Lib.hid (And.intro hl hs)
  clear hW0 hl hs
  go_enter Try.func10, Try.ntmps10
  go_upto_region 1 with (fail)
  rw [HW0.out]
  clear HW0
  apply wp_region_lit
  repeat (first | (refine wpList_skip (by rfl) ?_; simp only [Act.put, List.setIfInBounds_toArray, List.set_cons_zero, List.set_cons_succ]) | (refine wpList_read _ (by rfl) (exec_pth (by rfl) (by rfl) hb0) ?_; simp only [Act.put, List.setIfInBounds_toArray, List.set_cons_zero, List.set_cons_succ]) | (refine wpList_read _ (by rfl) (by (go_simp; first | done | with_reducible rfl)) ?_; simp only [Act.put, List.setIfInBounds_toArray, List.set_cons_zero, List.set_cons_succ]))
  refine wpList_callx (by rfl) (by (go_simp; first | done | rfl)) K1.out (fun e w1 he => ?_)
  obtain ⟨A1, c1, rfl, o1, hB1⟩ := he
  refine ⟨_, rfl, ?_⟩
  simp only [Act.put, List.setIfInBounds_toArray, List.set_cons_zero, List.set_cons_succ]
  repeat (first | (refine wpList_skip (by rfl) ?_; simp only [Act.put, List.setIfInBounds_toArray, List.set_cons_zero, List.set_cons_succ]) | (refine wpList_read _ (by rfl) (exec_move (by rfl) (by rfl)) ?_; simp only [Act.put, List.setIfInBounds_toArray, List.set_cons_zero, List.set_cons_succ]) | (refine wpList_read _ (by rfl) (by (go_simp; first | done | with_reducible rfl)) ?_; simp only [Act.put, List.setIfInBounds_toArray, List.set_cons_zero, List.set_cons_succ]))
  have b0 := hb0.below hB1 hb0.lt
  have bR := hbR.below hB1 hbR.lt
  have hB1' := hB0.trans (hB1.mono hB0.size)
  have hsz1 := hB1.size
  refine wpList_within 24 (.tmp 6) (.tmp 5) rfl rfl (g := w.heap.size) (off := 1) (vs := [.int .i64 h.p.s, .int .i64 h.p.x, .slice A1 h.p.ss.length c1]) (by rfl) (by rfl) (fun j hj => by
    have hj3 : j < 3 := hj
    exact ⟨by rw [b0.cell (1 + j), List.getElem?_eq_getElem (by rw [hld_len]; omega)]; rfl, b0.frozen (1 + j)⟩) path_info (by intro v hv; simp only [List.mem_cons, List.not_mem_nil, or_false] at hv; rcases hv with rfl | rfl | rfl <;> rfl) (fun Wa hWa => ?_)
  simp only [Act.put, List.setIfInBounds_toArray, List.set_cons_zero, List.set_cons_succ]
  obtain ⟨s1, hs1⟩ : ∃ v, Value.slice A1 h.p.ss.length c1 = v := ⟨_, rfl⟩
  have ba : Whole Wa w.heap.size 28 (h.r1 A1 c1).cells := by rw [hWa]; exact ((b0.set 1 (.int .i64 h.p.s)).set 2 (.int .i64 h.p.x)).set 3 (.slice A1 h.p.ss.length c1)
  have bRa : Whole Wa (w.heap.size + 1) 28 hld0.cells := by rw [hWa]; exact ((bR.far (p := ⟨w.heap.size, 1, none⟩) (by show w.heap.size + 1 ≠ w.heap.size; omega) _).far (p := ⟨w.heap.size, 2, none⟩) (by show w.heap.size + 1 ≠ w.heap.size; omega) _).far (p := ⟨w.heap.size, 3, none⟩) (by show w.heap.size + 1 ≠ w.heap.size; omega) _
  have oa : Wa.ownsRow (W0.heap.size + 2) 44 3 (.slice A1 h.p.ss.length c1) h.p.ss.length (h.p.ss.flatMap stpCells) := by
    rw [hWa]
    exact owns_set (B := 0) (p := ⟨w.heap.size, 3, none⟩) (owns_set (B := 0) (p := ⟨w.heap.size, 2, none⟩) (owns_set (B := 0) (p := ⟨w.heap.size, 1, none⟩) o1 (by show w.heap.size < _; omega) _) (by show w.heap.size < _; omega) _) (by show w.heap.size < _; omega) _
  have hBa : Below w.heap.size w Wa := by rw [hWa]; exact setCells_below _ _ hB1' (Nat.le_refl _)
  have hsa : Wa.heap.size = w1.heap.size := by rw [hWa]; simp [World.setCells, World.setCell]
  clear hWa b0 bR o1 hB1 hB1' hb0 hbR hB0 hs1 K1
  obtain ⟨A2, c2, w2, hrun, o2, hB2⟩ := appendN (P := Try.prog) (f := stpCells) (size := 3) (fun _ => rfl) oneStep 22 44 (.agg #[.int .i64 0, .int .i64 0, .int .i64 0]) 24 Try.underlying22 infoStep rfl (by omega) (by omega) h.os h.oA h.oc Wa (HL.out.1.on hBa).orow (by have := HL.out.2.o; omega)
  have y4 := (ba.alloc (.cells #[] 44)).cell_at 4 rfl
  have b2 := ba.below hB2 ba.lt
  have f4 := b2.frozen 4
  have x4 := b2.cell_at 4 rfl
  have bR2 := bRa.below hB2 bRa.lt
  have hsz2 := hB2.size
  obtain ⟨Wb, hWb⟩ : ∃ W, w2.setCell ⟨w.heap.size, 4, none⟩ (.slice A2 h.os.length c2) = W := ⟨_, rfl⟩
  have bb : Whole Wb w.heap.size 28 ((h.r1 A1 c1).r2 A2 c2).cells := by rw [← hWb]; exact b2.set 4 (.slice A2 h.os.length c2)
  have bRb : Whole Wb (w.heap.size + 1) 28 hld0.cells := by rw [← hWb]; exact bR2.far (p := ⟨w.heap.size, 4, none⟩) (by show w.heap.size + 1 ≠ w.heap.size; omega) _
  have ob1 : Wb.ownsRow (W0.heap.size + 2) 44 3 (.slice A1 h.p.ss.length c1) h.p.ss.length (h.p.ss.flatMap stpCells) := by rw [← hWb]; exact owns_set (B := 0) (p := ⟨w.heap.size, 4, none⟩) (owns_keep oa hB2) (by show w.heap.size < _; omega) _
  have ob2 : Wb.ownsRow Wa.heap.size 44 3 (.slice A2 h.os.length c2) h.os.length (h.os.flatMap stpCells) := by rw [← hWb]; exact owns_set (B := 0) (p := ⟨w.heap.size, 4, none⟩) o2 (by show w.heap.size < _; omega) _
  have hBb : Below w.heap.size w Wb := by rw [← hWb]; exact (hBa.trans (hB2.mono hBa.size)).setCell (p := ⟨w.heap.size, 4, none⟩) (Nat.le_refl _) _
  have hsb : Wb.heap.size = w2.heap.size := by rw [← hWb]; simp [World.setCell]
  have l1 : ∀ b, (Value.slice A1 h.p.ss.length c1).ownBlock = some b → b < Wa.heap.size := fun b hb => (oa.lt b hb).2
  have HF := Lib.hid (And.intro bb (And.intro bRb (And.intro ob1 (And.intro ob2 (And.intro hBb l1)))))
  have HWb := Lib.hid hWb
  have HZ1 := Lib.hid (And.intro hsa (And.intro hsb (And.intro hs0 (And.intro hsz1 hsz2))))
  clear ba bRa oa o2 hB2 b2 bR2 hBa bb bRb ob1 ob2 hBb l1 hWb hsa hsb hs0 hsz1 hsz2
  go_upto_region 3 with (at_builtin; refine list_append rfl (.tmp 7) (.tmp 9) 22 rfl hrun ?_)
  rw [HWb.out]
  clear hrun y4 f4 x4 HWb
  obtain ⟨bb, bRb, ob1, ob2, hBb, l1⟩ := HF.out
  obtain ⟨hsa, hsb, hs0, hsz1, hsz2⟩ := HZ1.out
  obtain ⟨A3, c3, w3, hrun, o3, hB3⟩ := appendN (P := Try.prog) (f := needCells) (size := 3) (fun _ => rfl) oneNeed 25 40 (.agg #[.int .i64 0, .int .i64 0, .int .i64 0]) 24 Try.underlying25 infoNeed rfl (by omega) (by omega) h.ns h.nA h.nc Wb (HL.out.1.on hBb).nrow (by have := HL.out.2.n; omega)
  have y5 := (bb.alloc (.cells #[] 40)).cell_at 5 rfl
  have b3 := bb.below hB3 bb.lt
  have f5 := b3.frozen 5
  have x5 := b3.cell_at 5 rfl
  have bR3 := bRb.below hB3 bRb.lt
  have hsz3 := hB3.size
  obtain ⟨Wc, hWc⟩ : ∃ W, w3.setCell ⟨w.heap.size, 5, none⟩ (.slice A3 h.ns.length c3) = W := ⟨_, rfl⟩
  obtain ⟨x, hx⟩ : ∃ x : Rm, x = ⟨A1, c1, A2, c2, A3, c3⟩ := ⟨_, rfl⟩
  have bc : Whole Wc w.heap.size 28 (h.re x).cells := by rw [← hWc, hx]; exact b3.set 5 (.slice A3 h.ns.length c3)
  have bRc : Whole Wc (w.heap.size + 1) 28 hld0.cells := by rw [← hWc]; exact bR3.far (p := ⟨w.heap.size, 5, none⟩) (by show w.heap.size + 1 ≠ w.heap.size; omega) _
  have hBc : Below w.heap.size w Wc := by rw [← hWc]; exact (hBb.trans (hB3.mono hBb.size)).setCell (p := ⟨w.heap.size, 5, none⟩) (Nat.le_refl _) _
  have hO : HOwn (h.re x) (w.heap.size + 2) Wa.heap.size Wb.heap.size Wc := by
    rw [hx, ← hWc]
    refine ⟨⟨by omega, by omega⟩, ?_, l1, ?_, fun b hb => (ob2.lt b hb).2, ?_⟩
    · exact owns_base17 (owns_set (B := 0) (p := ⟨w.heap.size, 5, none⟩) (owns_keep ob1 hB3) (by show w.heap.size < _; omega) _) (by omega)
    · exact owns_set (B := 0) (p := ⟨w.heap.size, 5, none⟩) (owns_keep ob2 hB3) (by show w.heap.size < _; omega) _
    · exact owns_set (B := 0) (p := ⟨w.heap.size, 5, none⟩) o3 (by show w.heap.size < _; omega) _
  have HO := Lib.hid (And.intro hO (And.intro hBc (And.intro bc bRc)))
  have HWc := Lib.hid hWc
  have HN := Lib.hid (And.intro hs0 (And.intro hsa (And.intro hsz1 hsz2)))
  clear hB3 b3 bR3 bb bRb ob1 ob2 hBb l1 o3 hBc bc bRc hO hWc hx hsa hsb hs0 hsz1 hsz2 hsz3
  go_upto_region 4 with (at_builtin; refine list_append rfl (.tmp 12) (.tmp 14) 25 rfl hrun ?_)
  rw [HWc.out]
  clear hrun y5 f5 x5 HWc
  apply wp_region_lit
  repeat (first | (refine wpList_skip (by rfl) ?_; simp only [Act.put, List.setIfInBounds_toArray, List.set_cons_zero, List.set_cons_succ]) | (refine wpList_read _ (by rfl) (exec_hld (by rfl) (by rfl) HO.out.2.2.1) ?_; simp only [Act.put, List.setIfInBounds_toArray, List.set_cons_zero, List.set_cons_succ]) | (refine wpList_read _ (by rfl) (by (go_simp; first | done | with_reducible rfl)) ?_; simp only [Act.put, List.setIfInBounds_toArray, List.set_cons_zero, List.set_cons_succ]))
  refine wpList_fill 28 (.tmp 2) (.tmp 17) rfl rfl (vs := (h.re x).cells) (by rfl) (by rfl) HO.out.2.2.2 (by rfl) hld_info (hld_one _) (fun W5 hR5 hB5 hO5 => ?_)
  simp only [Act.put, List.setIfInBounds_toArray, List.set_cons_zero, List.set_cons_succ]
  obtain ⟨hs0, hsa, hsz1, hsz2⟩ := HN.out
  have hO := HO.out.1
  have HE : Hid (HOwn (h.re x) w.heap.size Wa.heap.size Wb.heap.size W5) := Lib.hid (by
    have hk : ∀ {base e k n : Nat} {v : Value} {xs : List Value}, w.heap.size + 2 ≤ base → Wc.ownsRow base e k v n xs → W5.ownsRow base e k v n xs := fun {base e k n v xs} hb h => by
      refine ⟨h.1, ?_⟩
      rcases h.2 with h2 | ⟨g', cap', cur, hv, h3, h4, r⟩
      · exact .inl h2
      · exact .inr ⟨g', cap', cur, hv, h3, (hO5 g' (by omega)).trans h4, r⟩
    exact ⟨⟨by have := hO.le; omega, hO.le.2⟩, owns_base17 (hk (Nat.le_refl _) hO.o1) (by omega), hO.l1, hk hO.le.1 hO.o2, hO.l2, hk (by have := hO.le; omega) hO.o3⟩)
  have HB5 : Hid (Below w.heap.size w W5) := Lib.hid (HO.out.2.1.trans (hB5 _ (by omega)))
  clear hO hB5 hO5 HO HL
  go_wp2_with fail
  (try simp only [Exit.inBlock, Exit.then])
  exact bodyPost_ret (res_hld rfl _ rfl hR5) rfl ⟨x, _, _, rfl, HE.out, HB5.out⟩

end Go.Proofs.Ytljpiafopbfdlaa
