/- Putting a layout's numbers. -/
import Derived.Test.YtegflmaobmibnaaGreatDoorQPlanI
import Derived.Test.YtegflmaobmibnaaGreatDoorQPlanY
import Derived.Test.YtegflmaobmibnaaGreatDoorQIterV
import Derived.Laws.EntriesVeiled
namespace Go.Proofs.YtegflmaobmibnaaGreatDoor
set_option maxRecDepth 100000
open Go.RowKit Go.Shelf
set_option linter.unusedVariables false
set_option linter.unusedSimpArgs false
attribute [local go_sem] Oper.semAt_some

/-- Where the bits of Put's closure lie: their bytes in a block of the call's own, or none. -/
structure Puts (n0 X : Nat) (A : Option Addr) (c : Nat) (zs : List Int) (N : Int) (l : List Bool) (w : World) : Prop where
  x : Whole w X 54 [.slice A zs.length c, .int .i64 N]
  h : Hands w A zs
  a : Are zs N l
  far : ∀ q, A = some q → n0 ≤ q.block ∧ q.block ≠ X
theorem Puts.keep {n0 X : Nat} {A : Option Addr} {c : Nat} {zs : List Int} {N : Int} {l : List Bool} {w w' : World} (h : Puts n0 X A c zs N l w) (hb : Below w.heap.size w w') : Puts n0 X A c zs N l w' :=
  ⟨h.x.below hb h.x.lt, h.h.on hb, h.a, h.far⟩
theorem given_of {w : World} {A : Option Addr} {ys : List Int} {M : Int} {l : List Bool} (h : Hands w A ys) (ha : Are ys M l) (hl : l.length ≤ 15000000) : Given w A ys M := by
  obtain ⟨rfl, rfl⟩ := ha
  exact Given.of h (by rw [pack_length]; unfold bytesFor; omega) (by omega) (by omega)
/-- Put, and that what it hands over lies in a block of its own. -/
theorem put8_new (A : Option Addr) (cap : Nat) (zs : List Int) (N n : Int) (j : Nat) (l : List Bool) (w : World) (h : Given w A zs N) (hA : Are zs N l) (hn : n ≤ 9223372036854775807) (hF : fitsB n (j : Int) = true) :
    Calls Tryz.prog 24 #[.agg #[.slice A zs.length cap, .int .i64 N], .int .i64 n, .int .i64 (j : Int)] w fun e w' =>
      ∃ g c ys M, e = .returned (.tuple #[.agg #[.slice (some ⟨g, 0, none⟩) ys.length c, .int .i64 M], .int .i64 0]) ∧ w.heap.size ≤ g ∧ g < w'.heap.size ∧ Hands w' (some ⟨g, 0, none⟩) ys ∧ Are ys M (l ++ first (digit n j) j) ∧ Below w.heap.size w w' := by
  obtain ⟨l', hA', hl16, hlen⟩ := h.bits hA.right
  obtain rfl := hA'.inj hA
  obtain ⟨rfl, rfl⟩ := hA
  obtain ⟨j', hj', hj, h0, h1⟩ := fits_nat hF
  obtain rfl : j' = j := by omega
  rw [← hlen]
  refine (put_ok A cap l' n j' w h.row (by omega) hj h0 h1 (right_pack l')).mono ?_
  rintro e w' ⟨g, rfl, hg, hW, hB⟩
  have hll : (l' ++ first (digit n j') j').length = l'.length + j' := by simp [first_length]
  refine ⟨g, _, pack (bytesFor (l'.length + j')) (l' ++ first (digit n j') j'), _, by rw [pack_length], hg, hW.lt, Hands.pack hW, ?_, hB⟩
  exact ⟨by rw [hll]; omega, by rw [hll]⟩
theorem fits_of {p : Int × Nat} (h : FitN p) : fitsB p.1 (p.2 : Int) = true := by
  unfold fitsB wideB
  simp only [Bool.and_eq_true, decide_eq_true_eq, Int.toNat_natCast]
  have := h.2.2
  refine ⟨⟨?_, h.1⟩, h.2.1⟩
  first | exact ⟨by omega, by omega⟩ | omega
theorem pow_most : ∀ k : Nat, k ≤ 32 → (2 : Int) ^ k ≤ 4294967296 := by decide
theorem put1_any {n0 X : Nat} {A : Option Addr} {c : Nat} {zs : List Int} {N : Int} {l : List Bool} (p : Int × Nat) (w : World) (h : Puts n0 X A c zs N l w) (hl : l.length ≤ 100000) (hn : n0 ≤ w.heap.size) (hf : FitN p) :
    Calls Tryz.prog 23 #[.agg #[.int .i64 p.1, .int .i64 (p.2 : Int)], .pointer (some ⟨X, 0, none⟩)] w fun e w' => (∃ v, e = .returned v) ∧ Bq w.heap.size X w w' ∧ ∃ A' c' ys M, Puts n0 X A' c' ys M (l ++ bitsN p) w' := by
  obtain ⟨n, k⟩ := p
  have HFT := Lib.hid (fits_of hf)
  have hn9 : n ≤ 9223372036854775807 := by have := hf.2.1; have := pow_most k hf.2.2; simp only at *; omega
  have hP := Lib.hid h
  have HW1 : Hid (Puts n0 X A c zs N l (w.alloc (.cells #[.int .i64 n, .int .i64 (k : Int)] 56))) := Lib.hid (h.keep (below1 w _))
  have x2 := HW1.out.x.cell_at 0 rfl
  have x3 := HW1.out.x.cell_at 1 rfl
  clear h
  go_enter Tryz.func23, Tryz.ntmps23
  go_wp2_with fail
  refine (put8_new A c zs N n k l _ (given_of HW1.out.h HW1.out.a (by omega)) hP.out.a hn9 HFT.out).mono ?_
  rintro e w2 ⟨g, c2, ys, M, rfl, hg, _, hh, ha, hb⟩
  have hX2 := HW1.out.x.below hb HW1.out.x.lt
  have hgX : g ≠ X := by have := hP.out.x.lt; rw [World.size_alloc] at hg; omega
  have y0 := hX2.cell_at 0 rfl
  have y1 := hX2.cell_at 1 rfl
  have z0 := hX2.frozen 0
  have z1 := hX2.frozen 1
  clear x2 x3
  go_wp2_with fail
  go_end0
  refine ⟨⟨_, rfl⟩, ?_, some ⟨g, 0, none⟩, c2, ys, M, (hX2.set 0 _).set 1 _, (hh.far (p := ⟨X, 0, none⟩) (fun q hq => by cases hq; exact hgX) _).far (p := ⟨X, 1, none⟩) (fun q hq => by cases hq; exact hgX) _, ha, fun q hq => by cases hq; exact ⟨by rw [World.size_alloc] at hg; show n0 ≤ g; omega, hgX⟩⟩
  exact (((Bq.of (below1 w _)).trans (Bq.of (hb.mono (by simp)))).set (p := ⟨X, 0, none⟩) (.inr rfl) _).set (p := ⟨X, 1, none⟩) (.inr rfl) _
theorem Row.bqs {n X : Nat} {A : Option Addr} {vs : List Value} {W W' : World} (h : Row W W.heap.size A vs) (hb : Bq n X W W') (hn : W.heap.size ≤ n) (hX : ∀ q, A = some q → q.block ≠ X) : Row W' W'.heap.size A vs := fun hp => by
  obtain ⟨b, off, e, hlt, hc⟩ := h hp
  have hne := hX _ e
  exact ⟨b, off, e, Nat.lt_of_lt_of_le hlt hb.size, fun j u hu => (World.cell?_of_block (hb.block b (by omega) hne)).trans (hc j u hu)⟩
/-- What a round of Put's finds. -/
structure PutI (l : Lay) (w : World) (X Pb : Nat) (j : Nat) (W : World) : Prop where
  below : Below w.heap.size w W
  fn : Whole W Pb 59 [.func (.func 23) #[] #[.pointer (some ⟨X, 0, none⟩)]]
  puts : ∃ A c zs N, Puts w.heap.size X A c zs N (bitsOf ((rowsOf l.pl).take j).flatten) W
theorem Puts.own {n0 X : Nat} {A : Option Addr} {c : Nat} {zs : List Int} {N : Int} {l : List Bool} {w w' : World} (h : Puts n0 X A c zs N l w) (hc : CellsOn w w') : Puts n0 X A c zs N l w' :=
  ⟨hc.whole h.x, ⟨Row.cellsOn hc h.h.1, h.h.2⟩, h.a, h.far⟩
theorem cellsOn_grown {W W' : World} {row : Option Nat} (hg : W.grownBy W' row) (hr : ∀ r, row = some r → ∃ o : Obj, W.heap[r]? = some o ∧ o.isCells = false) : CellsOn W W' :=
  ⟨hg.size, fun k o hk ho => (hg.block k (Array.getElem?_eq_some_iff.1 hk).1 (fun e => by
    obtain ⟨o', h1, h2⟩ := hr k e.symm
    rw [hk] at h1
    cases h1
    rw [ho] at h2
    cases h2)).trans hk⟩
theorem PutI.own (l : Lay) (w : World) (X Pb B : Nat) (hB : w.heap.size ≤ B) : OwnFrom B (PutI l w X Pb) := fun j W W' row h hg hr => by
  have hc := cellsOn_grown hg (fun r e => (hr r e).2)
  obtain ⟨A, c, zs, N, hp⟩ := h.puts
  exact ⟨h.below.grown hg h.below.size (fun k e => by have := (hr k e).1; omega), hc.whole h.fn, A, c, zs, N, hp.own hc⟩
/-- A layout's bits, and as few bits 0 as make whole bytes. -/
def bitsL (p : PL) : List Bool := bitsOf (numsL p) ++ List.replicate (padN (bitsOf (numsL p)).length) false
def bytesL (p : PL) : List Int := pack (bytesFor (bitsL p).length) (bitsL p)
theorem fine_row {p : PL} (h : Fine p) {j : Nat} {ps : List (Int × Nat)} (hj : (rowsOf p)[j]? = some ps) : ∀ q ∈ ps, FitN q := fun q hq => fine_fit h q (List.mem_flatten.2 ⟨ps, List.mem_of_getElem? hj, hq⟩)
theorem row_bits {p : PL} (h : Fine p) {j k : Nat} {ps : List (Int × Nat)} (hj : (rowsOf p)[j]? = some ps) : (bitsOf ((rowsOf p).take j).flatten ++ bitsOf (ps.take k)).length ≤ 1600 := by
  have h1 := rows_prefix p (j + 1)
  have h2 := (fine_bits h).1
  have h3 := bits_prefix (ps.take k) (ps.drop k)
  rw [List.take_append_drop] at h3
  have e : ((rowsOf p).take (j + 1)).flatten = ((rowsOf p).take j).flatten ++ ps := by
    rw [List.take_add_one, hj]; simp
  rw [e, bitsOf_append, List.length_append] at h1
  rw [List.length_append]
  omega

theorem len_flat {α β : Type} (f : α → List β) (c : Nat) : ∀ xs : List α, (∀ x ∈ xs, (f x).length ≤ c) → (xs.flatMap f).length ≤ xs.length * c
  | [], _ => by simp
  | x :: xs, h => by
    rw [List.flatMap_cons, List.length_append, List.length_cons, Nat.add_mul, Nat.one_mul]
    have h1 := h x (by simp)
    have h2 := len_flat f c xs (fun y hy => h y (by simp [hy]))
    omega
theorem row_len {p : PL} (h : Fine p) {j : Nat} {ps : List (Int × Nat)} (hj : (rowsOf p)[j]? = some ps) : ps.length ≤ 1000 := by
  have hm := List.mem_of_getElem? hj
  unfold rowsOf at hm
  simp only [List.mem_cons, List.mem_append, List.mem_map, List.not_mem_nil, or_false] at hm
  rcases hm with rfl | ⟨s, _, rfl⟩ | ⟨s, _, rfl⟩ | ⟨x, hx, rfl⟩ | ⟨f, _, rfl⟩ | rfl
  · simp [numsHead]
  · have h1 := len_flat numsJoin 3 (s.ports4.take (pK s.k).toNat) (fun p _ => by unfold numsJoin; split <;> simp [numsPort])
    have h2 := len_flat numsClass 1 ([s.c0, s.c1].take (nK s.k).toNat) (fun c _ => by simp [numsClass])
    have h3 : (s.ports4.take (pK s.k).toNat).length ≤ 4 := by rw [List.length_take]; show min _ 4 ≤ 4; omega
    have h4 : ([s.c0, s.c1].take (nK s.k).toNat).length ≤ 2 := by rw [List.length_take]; show min _ 2 ≤ 2; omega
    unfold numsSec
    rw [List.length_cons, List.length_append]
    omega
  · simp [numsPort]
  · have h1 := len_flat numsStep 3 x.2.2 (fun s _ => by simp [numsStep])
    have h2 := (h.exits x hx).2.1
    unfold numsExit
    rw [List.length_append, List.length_cons]
    simp only [numsPort, List.length_cons, List.length_nil]
    omega
  · simp [numsFlank]
  · rw [times_len, h.nT]; decide
theorem Row.at0 {W W' : World} {n : Nat} {A : Option Addr} {vs : List Value} (h : Row W n A vs) (hb : Below n W W') : Row W' n A vs := fun hp => by
  obtain ⟨b, off, e, hlt, hc⟩ := h hp
  exact ⟨b, off, e, hlt, fun j u hu => (hb.cell (p := ⟨b, off + j, none⟩) hlt).trans (hc j u hu)⟩
abbrev putAct (l : Lay) (n X : Nat) (v : Value) : Act := ⟨#[l.val, .pointer (some ⟨n, 0, none⟩), .slice none 0 0, .int .i64 0, .pointer (some ⟨X, 0, none⟩), .pointer (some ⟨X + 1, 0, none⟩), v, undef, undef, l.val, .bool true, .bool false, .func (.func 23) #[] #[.pointer (some ⟨X, 0, none⟩)], l.val, .func (.func 63) #[] #[.pointer (some ⟨X + 2, 0, none⟩)], v, undef, undef, undef, undef, undef, undef, undef, undef, undef, undef, undef, undef, undef, undef, undef, undef, undef], []⟩

set_option maxHeartbeats 16000000 in
theorem putL_any (l : Lay) (w : World) (hT : Shapes w) (hSl : 0 < w.heap.size) (hL : Lies l w) (r : Bool) (hr : rightL l = r) :
    Calls Tryz.prog 9 #[l.val] w fun e w' => Below w.heap.size w w' ∧ ((r = false ∧ e = .returned (.tuple #[.slice none 0 0, .int .i64 60])) ∨ (r = true ∧ ∃ A c, e = .returned (.tuple #[.slice A (bytesL l.pl).length c, .int .i64 0]) ∧ Hands w' A (bytesL l.pl))) := by
  have hmf : ∀ (fn : Fn) (first cap : Array Value) (w : World), (Instr.makeFunc fn first cap).run Tryz.prog w = .ok (.func fn first cap) w := fun _ _ _ _ => rfl
  have HFF : Hid (r = true → Fine l.pl) := Lib.hid (fun h => fine_of_right (hr.trans h))
  have HT := Lib.hid hT
  have HL := Lib.hid hL
  have HR := Lib.hid hr
  have HT8 : Hid (Shapes (w.alloc (.cells l.cells.toArray 29))) := Lib.hid (fun i v hv => ((below1 w _).cell (p := ⟨0, i, none⟩) hSl).trans (hT i v hv))
  clear hT hL hr
  refine (callsIn_wide (n := 9)).1 ?_
  refine callsIn_of_wp_marks Tryz.func9 rfl trivial ?_ rfl
  simp only [Tryz.ntmps9, List.size_toArray, List.length_cons, List.length_nil, Nat.reduceAdd, Nat.reduceSub, Array.replicate_succ, Array.replicate_zero, List.push_toArray, List.append_toArray, List.nil_append, List.cons_append]
  gi_wp2_with fail
  refine ⟨trivial, callsIn_wide.2 ((right_B (w := w.alloc (.cells l.cells.toArray 29)) (HT8.out) (Lies.closed l _ _ HL.out (below1 w _)) HR.out).mono ?_)⟩
  rintro e w1 ⟨rfl, hb1⟩
  have hbox := (Whole.new w 29 l.cells).below hb1 (by simp)
  have HB1 : Hid (Below w.heap.size w w1) := Lib.hid ((below1 w _).trans (hb1.mono (by simp)))
  have HS1 : Hid (w.heap.size + 1 ≤ w1.heap.size) := Lib.hid (by have := hb1.size; simpa using this)
  clear hb1
  cases r
  · gi_wp2_with fail
    exact ⟨_, by simp [results, Tryz.f9, go_sem], HB1.out, rfl⟩
  · have HBITS := Lib.hid ((Whole.new w1 54 [.slice none 0 0, .int .i64 0]).alloc (.cells #[.func (.func 23) #[] #[.pointer (some ⟨w1.heap.size, 0, none⟩)]] 59))
    have HFN := Lib.hid (Whole.new_at (w1.alloc (.cells #[.slice none 0 0, .int .i64 0] 54)) 59 [.func (.func 23) #[] #[.pointer (some ⟨w1.heap.size, 0, none⟩)]] (n := w1.heap.size + 1) (by simp))
    have hboxW := (hbox.alloc (.cells #[.slice none 0 0, .int .i64 0] 54)).alloc (.cells #[.func (.func 23) #[] #[.pointer (some ⟨w1.heap.size, 0, none⟩)]] 59)
    have HBW : Hid (Below w1.heap.size w1 ((w1.alloc (.cells #[.slice none 0 0, .int .i64 0] 54)).alloc (.cells #[.func (.func 23) #[] #[.pointer (some ⟨w1.heap.size, 0, none⟩)]] 59))) := Lib.hid (below2 w1 _ _)
    have x0 := hboxW.cell_at 0 rfl
    have x1 := hboxW.cell_at 1 rfl
    have x2 := hboxW.cell_at 2 rfl
    have x3 := hboxW.cell_at 3 rfl
    have x4 := hboxW.cell_at 4 rfl
    have x5 := hboxW.cell_at 5 rfl
    have x6 := hboxW.cell_at 6 rfl
    have x7 := hboxW.cell_at 7 rfl
    have x8 := hboxW.cell_at 8 rfl
    have x9 := hboxW.cell_at 9 rfl
    have x10 := hboxW.cell_at 10 rfl
    gi_wp2_with fail
    clear x0 x1 x2 x3 x4 x5 x6 x7 x8 x9 x10 hboxW hbox
    obtain ⟨W0, hW0⟩ : ∃ W, (w1.alloc (.cells #[.slice none 0 0, .int .i64 0] 54)).alloc (.cells #[.func (.func 23) #[] #[.pointer (some ⟨w1.heap.size, 0, none⟩)]] 59) = W := ⟨_, rfl⟩
    rw [hW0] at HBITS HFN HBW
    have HS0 : Hid (W0.heap.size = w1.heap.size + 2) := Lib.hid (by rw [← hW0]; simp)
    try rw [hW0]
    clear hW0
    refine ⟨trivial, callsIn_wide.2 ((rows8_any l W0).mono ?_)⟩
    rintro e w2 ⟨rfl, hw2⟩
    have HB2 : Hid (Below W0.heap.size W0 w2) := Lib.hid (by rw [hw2]; exact below1 _ _)
    have HBX : Hid (Whole w2 W0.heap.size 29 l.cells) := Lib.hid (by rw [hw2]; exact Whole.new _ _ _)
    have HS2 : Hid (w2.heap.size = W0.heap.size + 1) := Lib.hid (by rw [hw2]; simp)
    clear hw2
    gi_wp2_with fail
    have HFI := Lib.hid (HFF.out trivial)
    have HBT : Hid (Below w.heap.size w w2) := Lib.hid ((HB1.out.trans (HBW.out.mono (by have := HS1.out; omega))).trans (HB2.out.mono (by have := HS1.out; have := HS0.out; omega)))
    have HN := Lib.hid (And.intro HS0.out (And.intro HS1.out HS2.out))
    have hSh : Shapes w2 := fun i v hv => (HBT.out.cell (p := ⟨0, i, none⟩) hSl).trans (HT.out i v hv)
    have HP0 : Hid (PutI l w w1.heap.size (w1.heap.size + 1) 0 w2) := Lib.hid ⟨HBT.out, HFN.out.below HB2.out (by have := HS0.out; omega), none, 0, [], 0, HBITS.out.below HB2.out (by have := HS0.out; omega), Hands.nil _, by rw [List.take_zero]; exact ⟨rfl, rfl⟩, fun q hq => by cases hq⟩
    have hI := rows_iter (w0 := w2) (g := W0.heap.size) (n0 := w.heap.size) (l := l) HBX.out (by have := HN.out; omega) (Row.at0 HL.out.secs HBT.out) (Row.at0 HL.out.sigs HBT.out) (Row.at0 HL.out.exits HBT.out) (Row.at0 HL.out.flanks HBT.out) (fun x hx => Row.at0 (HL.out.overs x hx) HBT.out) HFI.out hSh hSl
    have hX2 : W0.heap.size = w1.heap.size + 2 := HS0.out
    rw [hX2] at hI ⊢
    obtain ⟨X, hX⟩ : ∃ X, w1.heap.size = X := ⟨_, rfl⟩
    have HX := Lib.hid hX
    rw [hX] at HN HP0 hI ⊢
    clear hX hX2 hSh
    refine range_iterV (R := fun k => k < w.heap.size ∨ k = X + 2) (w0 := w2) (gf := 63) (xs := rowsOf l.pl) (Enc := EncN w2.heap.size) rfl (enters_of Tryz.func63 (by kernel_rfl) rfl) hI (Keeps.refl _ _) (Nat.le_refl _) (fun k hk => by have := HN.out; rcases hk with hk | hk <;> omega) (fun x vs W h => by obtain ⟨A, c, rfl, _⟩ := h; rfl) (EncN.on _) (by omega)
      (fun k => k = X) (fun k hk h => by have := HN.out; rcases h with h | h <;> omega) (fun k hk => by have := HN.out; omega)
      (PutI l w X (X + 1)) (fun _ _ => False) (PutI.own l w X (X + 1) _ (by have := HN.out; omega)) (fun _ _ _ _ _ h _ _ => h) HP0.out (fun vs => putAct l w.heap.size X (vs.getD 0 undef)) ?assign ?body ?done ?stop
    case assign =>
      rintro L vs W K hv hK
      obtain ⟨v, rfl⟩ : ∃ v, vs = #[v] := by
        obtain ⟨xs⟩ := vs
        match xs, hv with
        | [v], _ => exact ⟨v, rfl⟩
      gi_wp2_with fail
      exact hK
    case body =>
      rintro L j ps vs W hl hx ⟨A, c, rfl, hrow, hq⟩ hi
      change Code.wpIn _ 3 _ _ _ (putAct l w.heap.size X (.slice A ps.length c)) W
      have HI := Lib.hid hi
      have HROW := Lib.hid hrow
      have HQ := Lib.hid hq
      have HX2 := Lib.hid hx
      have HK9 : Hid (ps.length ≤ 1000) := Lib.hid (row_len HFI.out hx)
      clear hi hrow hq hx hI
      gi_wp2_with fail
      gi_loopw [18] (fun i wr => ∃ k : Nat, k ≤ ps.length ∧ i = .int .i64 k ∧ Hid (Bq W.heap.size X W wr ∧ ∃ A c zs N, Puts w.heap.size X A c zs N (bitsOf ((rowsOf l.pl).take j).flatten ++ bitsOf (ps.take k)) wr)) (fun i _ => ps.length - (intOf i).toNat)
      case atStart =>
        refine ⟨0, by omega, rfl, Lib.hid ⟨Bq.refl _ _ _, ?_⟩⟩
        obtain ⟨A, c, zs, N, h⟩ := HI.out.puts
        exact ⟨A, c, zs, N, by rw [List.take_zero, bitsOf_nil, List.append_nil]; exact h⟩
      case round =>
        obtain ⟨k, hk, rfl, HM⟩ := hrel
        by_cases hlt : k < ps.length
        · have hlt' : (k : Int) < (ps.length : Int) := by omega
          obtain ⟨⟨n, wd⟩, hkp⟩ : ∃ p, ps[k]? = some p := ⟨_, List.getElem?_eq_getElem hlt⟩
          have hrw : Row wr wr.heap.size A (ps.flatMap numCells) := Row.bqs HROW.out HM.out.1 (Nat.le_refl _) (fun q hq => by have := HQ.out q hq; have := HN.out; omega)
          obtain ⟨b2, off2, rfl, _, hc0, hc⟩ := hrw.nth (n := 2) (fun _ => rfl) (by omega) hkp
          have d0 := hc0 k _ _ hkp rfl
          have d1 := hc k _ 1 _ hkp rfl
          have hFn := HI.out.fn.bq HM.out.1 HI.out.fn.lt (by omega)
          have f0 := (hFn.alloc (.cells #[.int .i64 n, .int .i64 (wd : Int)] 56)).cell_at 0 rfl
          obtain ⟨A', c', zs, N, hp⟩ := HM.out.2
          have hp2 := hp.keep (below1 wr (.cells #[.int .i64 n, .int .i64 (wd : Int)] 56))
          have HLT := Lib.hid hlt
          have HKP := Lib.hid hkp
          have HLN : Hid ((bitsOf ((rowsOf l.pl).take j).flatten ++ bitsOf (ps.take k)).length ≤ 100000) := Lib.hid (by have := row_bits HFI.out HX2.out (k := k); omega)
          have HFT := Lib.hid (fine_row HFI.out HX2.out _ (List.mem_of_getElem? hkp))
          have hwz : w.heap.size ≤ (wr.alloc (.cells #[.int .i64 n, .int .i64 (wd : Int)] 56)).heap.size := by have h1 := HM.out.1.size; have h2 := HI.out.below.size; simp; omega
          clear hc0 hc hrw hFn hp hlt hkp
          gi_wp2_with fail
          refine ⟨trivial, CallsIn.inRound L (callsIn_wide.2 ((put1_any (n, wd) _ hp2 HLN.out hwz HFT.out).mono ?_))⟩
          rintro e w4 ⟨⟨v, rfl⟩, hb, A2, c2, ys, M, hp4⟩
          have HE : Hid (Bq W.heap.size X W w4 ∧ ∃ A c zs N, Puts w.heap.size X A c zs N (bitsOf ((rowsOf l.pl).take j).flatten ++ bitsOf (ps.take (k + 1))) w4) := by
            refine Lib.hid ⟨(HM.out.1.alloc HM.out.1.size _).trans (hb.less (by have := HM.out.1.size; simp; omega)), A2, c2, ys, M, ?_⟩
            rw [List.take_add_one, HKP.out]
            rw [List.append_assoc] at hp4
            simp only [Option.toList]
            rw [bitsOf_snoc]
            exact hp4
          clear hp2 hp4 hb hwz f0
          gi_wp2_with fail
          go_roundw
          case rel => exact ⟨k + 1, HLT.out, loop_next k _ HLT.out HK9.out, HE⟩
          case measure => exact loop_less k _ HLT.out HK9.out
        · obtain rfl : k = ps.length := by omega
          have hFin : Hid (Off (fun k => k = X) W wr ∧ PutI l w X (X + 1) (j + 1) wr) := by
            obtain ⟨A', c', zs, N, hp⟩ := HM.out.2
            refine Lib.hid ⟨Bq.off HM.out.1 rfl rfl, HI.out.below.trans (HM.out.1.below HI.out.below.size (by have := HN.out; omega)), HI.out.fn.bq HM.out.1 HI.out.fn.lt (by omega), A', c', zs, N, ?_⟩
            rw [List.take_length, ← bitsOf_append] at hp
            rw [List.take_add_one, HX2.out]
            simpa using hp
          clear HM hk hlt
          gi_wp2_with fail
          exact hFin.out
    case done =>
      rintro D W hD hi hK
      obtain ⟨A, c, zs, N, hp⟩ := hi.puts
      rw [List.take_length] at hp
      have HI := Lib.hid hi
      have HP := Lib.hid hp
      have x0 := hp.x.cell_at 0 rfl
      have x1 := hp.x.cell_at 1 rfl
      have HK := Lib.hid hK
      clear hI hi hp hK
      gi_wp2_with fail
      refine ⟨trivial, callsIn_wide.2 ((pad_new A c zs N W (given_of HP.out.h HP.out.a (by have := (fine_bits HFI.out).1; unfold numsL at this; omega))).mono ?_)⟩
      rintro e W4 ⟨A', cap, ys, M, er, rfl, hh, hnew, hgr, hb⟩
      have hX4 := HP.out.x.below hb HP.out.x.lt
      have HA : Hid (er = 0 ∧ ys = bytesL l.pl ∧ Hands W4 A' (bytesL l.pl) ∧ ∀ q, A' = some q → q.block ≠ X) := by
        rcases hgr with ⟨h1, _⟩ | ⟨_, h2, l', ha', hb'⟩
        · rw [HP.out.a.right] at h1; cases h1
        · obtain rfl := ha'.inj HP.out.a
          obtain ⟨hM, hy⟩ := hb'
          have hy2 : ys = bytesL l.pl := hy
          exact Lib.hid ⟨h2, hy2, hy2 ▸ hh, fun q hq => by have := hnew q hq; have := HP.out.x.lt; omega⟩
      obtain rfl := HA.out.1
      obtain rfl := HA.out.2.1
      clear x0 x1 hgr
      have y0 := hX4.cell_at 0 rfl
      have y1 := hX4.cell_at 1 rfl
      have z0 := hX4.frozen 0
      have z1 := hX4.frozen 1
      have hWX := (hX4.set 0 (.slice A' (bytesL l.pl).length cap)).set 1 (.int .i64 M)
      have v0 := hWX.cell_at 0 rfl
      have hD4 : ((W4.setCell ⟨X, 0, none⟩ (.slice A' (bytesL l.pl).length cap)).setCell ⟨X, 1, none⟩ (.int .i64 M)).heap[D]? = some (.deferred (some [])) := by
        have hn := HN.out
        rw [Below.heap_setCell _ _ _ _ (by show D ≠ X; omega), Below.heap_setCell _ _ _ _ (by show D ≠ X; omega)]
        exact (hb.block D (Array.getElem?_eq_some_iff.1 HK.out).1).trans HK.out
      have HFIN : Hid (Below w.heap.size w (((W4.setCell ⟨X, 0, none⟩ (.slice A' (bytesL l.pl).length cap)).setCell ⟨X, 1, none⟩ (.int .i64 M)).putObj D (.deferred none)) ∧ Hands (((W4.setCell ⟨X, 0, none⟩ (.slice A' (bytesL l.pl).length cap)).setCell ⟨X, 1, none⟩ (.int .i64 M)).putObj D (.deferred none)) A' (bytesL l.pl)) := by
        have hn := HN.out
        have h1 : Below w.heap.size w ((W4.setCell ⟨X, 0, none⟩ (.slice A' (bytesL l.pl).length cap)).setCell ⟨X, 1, none⟩ (.int .i64 M)) := (((HI.out.below.trans (hb.mono HI.out.below.size)).setCell (p := ⟨X, 0, none⟩) (by show w.heap.size ≤ X; omega) _).setCell (p := ⟨X, 1, none⟩) (by show w.heap.size ≤ X; omega) _)
        have h2 : Hands ((W4.setCell ⟨X, 0, none⟩ (.slice A' (bytesL l.pl).length cap)).setCell ⟨X, 1, none⟩ (.int .i64 M)) A' (bytesL l.pl) := (HA.out.2.2.1.far (p := ⟨X, 0, none⟩) HA.out.2.2.2 _).far (p := ⟨X, 1, none⟩) HA.out.2.2.2 _
        refine Lib.hid ⟨h1.grown (grownBy_putObj' _ D _) h1.size (fun k e => by cases e; have := HBT.out.size; omega), Row.cellsOn (CellsOn.put (w := w) _ D _ _ (by have := HBT.out.size; omega) hD4 rfl rfl) h2.1, h2.2⟩
      clear hX4 hh hnew hb hWX
      gi_wp2_with fail
      refine ⟨by simp, .inl ⟨_, _, rfl, run_takeDeferred hD4, ?_⟩⟩
      exact ⟨.tuple #[.slice A' (bytesL l.pl).length cap, .int .i64 0], by simp [results, Tryz.f9, go_sem], HFIN.out.1, _, ⟨_, rfl⟩, HFIN.out.2⟩
    case stop => exact fun _ _ _ _ h _ => h.elim
end Go.Proofs.YtegflmaobmibnaaGreatDoor
