/- Put again: the room of what it hands back. -/
import Derived.Test.YtegflmaobmibnaaGreatDoorQPlanH
namespace Go.Proofs.YtegflmaobmibnaaGreatDoor
set_option maxRecDepth 100000
open Go.RowKit Go.Shelf
set_option linter.unusedVariables false
set_option linter.unusedSimpArgs false
attribute [local go_sem] Oper.semAt_some

theorem pad_room (A : Option Addr) (cap : Nat) (zs : List Int) (N : Int) (w : World) (h : Given w A zs N) :
    Calls Tryz.prog 26 #[.agg #[.slice A zs.length cap, .int .i64 N]] w fun e w' => ∃ A cap ys M er, e = .returned (.tuple #[.agg #[.slice A ys.length cap, .int .i64 M], .int .i64 er]) ∧ Hands w' A ys ∧ NewAt w A ∧ Grown true zs N (fun l => List.replicate (padN l.length) false) ys M er ∧ ys.length ≤ cap ∧ Below w.heap.size w w' := by
  cases hR : rightB zs N
  · refine (pad_bad A cap zs N w h.row h.bytes h.len h.high h.low hR).mono ?_
    rintro e w' ⟨rfl, hB⟩
    exact ⟨none, 0, [], 0, 2, rfl, Hands.nil _, by simp [NewAt], .inl ⟨by simp [hR], rfl, rfl, rfl⟩, Nat.le_refl _, hB⟩
  · obtain ⟨l, ⟨rfl, hz⟩, hl, hlen⟩ := h.bits hR
    subst hz
    rw [← hlen]
    refine (pad_ok A cap l w h.row (by omega) (right_pack l)).mono ?_
    rintro e w' ⟨g, rfl, hg, hW, hB⟩
    refine ⟨_, _, pack (bytesFor (l.length + padN l.length)) (l ++ List.replicate (padN l.length) false), _, 0, by rw [pack_length], Hands.pack hW, by rintro p ⟨rfl⟩; exact hg, .inr ⟨rfl, rfl, l, ⟨rfl, rfl⟩, ?_⟩, by rw [pack_length]; first | done | exact Nat.le_refl _, hB⟩
    exact ⟨by simp, by simp⟩
set_option maxHeartbeats 16000000 in
theorem putL_cap (l : Lay) (w : World) (hT : Shapes w) (hSl : 0 < w.heap.size) (hL : Lies l w) (r : Bool) (hr : rightL l = r) :
    Calls Tryz.prog 9 #[l.val] w fun e w' => Below w.heap.size w w' ∧ ((r = false ∧ e = .returned (.tuple #[.slice none 0 0, .int .i64 60])) ∨ (r = true ∧ ∃ A c, e = .returned (.tuple #[.slice A (bytesL l.pl).length c, .int .i64 0]) ∧ Hands w' A (bytesL l.pl) ∧ (bytesL l.pl).length ≤ c)) := by
  have hmf : ∀ (fn : Fn) (first cap : Array Value) (w : World), (Instr.makeFunc fn first cap).run Tryz.prog w = .ok (.func fn first cap) w := fun _ _ _ _ => rfl
  have HFF : Hid (r = true → Fine l.pl) := Lib.hid (fun h => fine_of_right (hr.trans h))
  have HT := Lib.hid hT
  have HL := Lib.hid hL
  have HR := Lib.hid hr
  have HT8 : Hid (Shapes (w.alloc (.cells l.cells.toArray 29))) := Lib.hid (fun i v hv => ((below1 w _).cell (p := ⟨0, i, none⟩) hSl).trans (hT i v hv))
  clear hT hL hr
  refine (callsIn_wide (n := 9)).1 ?_
  refine callsIn_of_wp_marks Tryz.func9 rfl trivial ?_ rfl
  simp only [Tryz.ntmps9, List.size_toArray, List.length_cons, List.length_nil, Nat.reduceAdd, Nat.reduceSub, Array.replicate_succ, Array.replicate_zero, List.push_toArray, List.append_toArray, List.nil_append, List.cons_append]
  gi_wp2_with fail
  refine ⟨trivial, callsIn_wide.2 ((right_B (w := w.alloc (.cells l.cells.toArray 29)) (HT8.out) (Lies.closed l _ _ HL.out (below1 w _)) HR.out).mono ?_)⟩
  rintro e w1 ⟨rfl, hb1⟩
  have hbox := (Whole.new w 29 l.cells).below hb1 (by simp)
  have HB1 : Hid (Below w.heap.size w w1) := Lib.hid ((below1 w _).trans (hb1.mono (by simp)))
  have HS1 : Hid (w.heap.size + 1 ≤ w1.heap.size) := Lib.hid (by have := hb1.size; simpa using this)
  clear hb1
  cases r
  · gi_wp2_with fail
    exact ⟨_, by simp [results, Tryz.f9, go_sem], HB1.out, rfl⟩
  · have HBITS := Lib.hid ((Whole.new w1 54 [.slice none 0 0, .int .i64 0]).alloc (.cells #[.func (.func 23) #[] #[.pointer (some ⟨w1.heap.size, 0, none⟩)]] 59))
    have HFN := Lib.hid (Whole.new_at (w1.alloc (.cells #[.slice none 0 0, .int .i64 0] 54)) 59 [.func (.func 23) #[] #[.pointer (some ⟨w1.heap.size, 0, none⟩)]] (n := w1.heap.size + 1) (by simp))
    have hboxW := (hbox.alloc (.cells #[.slice none 0 0, .int .i64 0] 54)).alloc (.cells #[.func (.func 23) #[] #[.pointer (some ⟨w1.heap.size, 0, none⟩)]] 59)
    have HBW : Hid (Below w1.heap.size w1 ((w1.alloc (.cells #[.slice none 0 0, .int .i64 0] 54)).alloc (.cells #[.func (.func 23) #[] #[.pointer (some ⟨w1.heap.size, 0, none⟩)]] 59))) := Lib.hid (below2 w1 _ _)
    have x0 := hboxW.cell_at 0 rfl
    have x1 := hboxW.cell_at 1 rfl
    have x2 := hboxW.cell_at 2 rfl
    have x3 := hboxW.cell_at 3 rfl
    have x4 := hboxW.cell_at 4 rfl
    have x5 := hboxW.cell_at 5 rfl
    have x6 := hboxW.cell_at 6 rfl
    have x7 := hboxW.cell_at 7 rfl
    have x8 := hboxW.cell_at 8 rfl
    have x9 := hboxW.cell_at 9 rfl
    have x10 := hboxW.cell_at 10 rfl
    gi_wp2_with fail
    clear x0 x1 x2 x3 x4 x5 x6 x7 x8 x9 x10 hboxW hbox
    obtain ⟨W0, hW0⟩ : ∃ W, (w1.alloc (.cells #[.slice none 0 0, .int .i64 0] 54)).alloc (.cells #[.func (.func 23) #[] #[.pointer (some ⟨w1.heap.size, 0, none⟩)]] 59) = W := ⟨_, rfl⟩
    rw [hW0] at HBITS HFN HBW
    have HS0 : Hid (W0.heap.size = w1.heap.size + 2) := Lib.hid (by rw [← hW0]; simp)
    try rw [hW0]
    clear hW0
    refine ⟨trivial, callsIn_wide.2 ((rows8_any l W0).mono ?_)⟩
    rintro e w2 ⟨rfl, hw2⟩
    have HB2 : Hid (Below W0.heap.size W0 w2) := Lib.hid (by rw [hw2]; exact below1 _ _)
    have HBX : Hid (Whole w2 W0.heap.size 29 l.cells) := Lib.hid (by rw [hw2]; exact Whole.new _ _ _)
    have HS2 : Hid (w2.heap.size = W0.heap.size + 1) := Lib.hid (by rw [hw2]; simp)
    clear hw2
    gi_wp2_with fail
    have HFI := Lib.hid (HFF.out trivial)
    have HBT : Hid (Below w.heap.size w w2) := Lib.hid ((HB1.out.trans (HBW.out.mono (by have := HS1.out; omega))).trans (HB2.out.mono (by have := HS1.out; have := HS0.out; omega)))
    have HN := Lib.hid (And.intro HS0.out (And.intro HS1.out HS2.out))
    have hSh : Shapes w2 := fun i v hv => (HBT.out.cell (p := ⟨0, i, none⟩) hSl).trans (HT.out i v hv)
    have HP0 : Hid (PutI l w w1.heap.size (w1.heap.size + 1) 0 w2) := Lib.hid ⟨HBT.out, HFN.out.below HB2.out (by have := HS0.out; omega), none, 0, [], 0, HBITS.out.below HB2.out (by have := HS0.out; omega), Hands.nil _, by rw [List.take_zero]; exact ⟨rfl, rfl⟩, fun q hq => by cases hq⟩
    have hI := rows_iter (w0 := w2) (g := W0.heap.size) (n0 := w.heap.size) (l := l) HBX.out (by have := HN.out; omega) (Row.at0 HL.out.secs HBT.out) (Row.at0 HL.out.sigs HBT.out) (Row.at0 HL.out.exits HBT.out) (Row.at0 HL.out.flanks HBT.out) (fun x hx => Row.at0 (HL.out.overs x hx) HBT.out) HFI.out hSh hSl
    have hX2 : W0.heap.size = w1.heap.size + 2 := HS0.out
    rw [hX2] at hI ⊢
    obtain ⟨X, hX⟩ : ∃ X, w1.heap.size = X := ⟨_, rfl⟩
    have HX := Lib.hid hX
    rw [hX] at HN HP0 hI ⊢
    clear hX hX2 hSh
    refine range_iterV (R := fun k => k < w.heap.size ∨ k = X + 2) (w0 := w2) (gf := 63) (xs := rowsOf l.pl) (Enc := EncN w2.heap.size) rfl (enters_of Tryz.func63 (by kernel_rfl) rfl) hI (Keeps.refl _ _) (Nat.le_refl _) (fun k hk => by have := HN.out; rcases hk with hk | hk <;> omega) (fun x vs W h => by obtain ⟨A, c, rfl, _⟩ := h; rfl) (EncN.on _) (by omega)
      (fun k => k = X) (fun k hk h => by have := HN.out; rcases h with h | h <;> omega) (fun k hk => by have := HN.out; omega)
      (PutI l w X (X + 1)) (fun _ _ => False) (PutI.own l w X (X + 1) _ (by have := HN.out; omega)) (fun _ _ _ _ _ h _ _ => h) HP0.out (fun vs => putAct l w.heap.size X (vs.getD 0 undef)) ?assign ?body ?done ?stop
    case assign =>
      rintro L vs W K hv hK
      obtain ⟨v, rfl⟩ : ∃ v, vs = #[v] := by
        obtain ⟨xs⟩ := vs
        match xs, hv with
        | [v], _ => exact ⟨v, rfl⟩
      gi_wp2_with fail
      exact hK
    case body =>
      rintro L j ps vs W hl hx ⟨A, c, rfl, hrow, hq⟩ hi
      change Code.wpIn _ 3 _ _ _ (putAct l w.heap.size X (.slice A ps.length c)) W
      have HI := Lib.hid hi
      have HROW := Lib.hid hrow
      have HQ := Lib.hid hq
      have HX2 := Lib.hid hx
      have HK9 : Hid (ps.length ≤ 1000) := Lib.hid (row_len HFI.out hx)
      clear hi hrow hq hx hI
      gi_wp2_with fail
      gi_loopw [18] (fun i wr => ∃ k : Nat, k ≤ ps.length ∧ i = .int .i64 k ∧ Hid (Bq W.heap.size X W wr ∧ ∃ A c zs N, Puts w.heap.size X A c zs N (bitsOf ((rowsOf l.pl).take j).flatten ++ bitsOf (ps.take k)) wr)) (fun i _ => ps.length - (intOf i).toNat)
      case atStart =>
        refine ⟨0, by omega, rfl, Lib.hid ⟨Bq.refl _ _ _, ?_⟩⟩
        obtain ⟨A, c, zs, N, h⟩ := HI.out.puts
        exact ⟨A, c, zs, N, by rw [List.take_zero, bitsOf_nil, List.append_nil]; exact h⟩
      case round =>
        obtain ⟨k, hk, rfl, HM⟩ := hrel
        by_cases hlt : k < ps.length
        · have hlt' : (k : Int) < (ps.length : Int) := by omega
          obtain ⟨⟨n, wd⟩, hkp⟩ : ∃ p, ps[k]? = some p := ⟨_, List.getElem?_eq_getElem hlt⟩
          have hrw : Row wr wr.heap.size A (ps.flatMap numCells) := Row.bqs HROW.out HM.out.1 (Nat.le_refl _) (fun q hq => by have := HQ.out q hq; have := HN.out; omega)
          obtain ⟨b2, off2, rfl, _, hc0, hc⟩ := hrw.nth (n := 2) (fun _ => rfl) (by omega) hkp
          have d0 := hc0 k _ _ hkp rfl
          have d1 := hc k _ 1 _ hkp rfl
          have hFn := HI.out.fn.bq HM.out.1 HI.out.fn.lt (by omega)
          have f0 := (hFn.alloc (.cells #[.int .i64 n, .int .i64 (wd : Int)] 56)).cell_at 0 rfl
          obtain ⟨A', c', zs, N, hp⟩ := HM.out.2
          have hp2 := hp.keep (below1 wr (.cells #[.int .i64 n, .int .i64 (wd : Int)] 56))
          have HLT := Lib.hid hlt
          have HKP := Lib.hid hkp
          have HLN : Hid ((bitsOf ((rowsOf l.pl).take j).flatten ++ bitsOf (ps.take k)).length ≤ 100000) := Lib.hid (by have := row_bits HFI.out HX2.out (k := k); omega)
          have HFT := Lib.hid (fine_row HFI.out HX2.out _ (List.mem_of_getElem? hkp))
          have hwz : w.heap.size ≤ (wr.alloc (.cells #[.int .i64 n, .int .i64 (wd : Int)] 56)).heap.size := by have h1 := HM.out.1.size; have h2 := HI.out.below.size; simp; omega
          clear hc0 hc hrw hFn hp hlt hkp
          gi_wp2_with fail
          refine ⟨trivial, CallsIn.inRound L (callsIn_wide.2 ((put1_any (n, wd) _ hp2 HLN.out hwz HFT.out).mono ?_))⟩
          rintro e w4 ⟨⟨v, rfl⟩, hb, A2, c2, ys, M, hp4⟩
          have HE : Hid (Bq W.heap.size X W w4 ∧ ∃ A c zs N, Puts w.heap.size X A c zs N (bitsOf ((rowsOf l.pl).take j).flatten ++ bitsOf (ps.take (k + 1))) w4) := by
            refine Lib.hid ⟨(HM.out.1.alloc HM.out.1.size _).trans (hb.less (by have := HM.out.1.size; simp; omega)), A2, c2, ys, M, ?_⟩
            rw [List.take_add_one, HKP.out]
            rw [List.append_assoc] at hp4
            simp only [Option.toList]
            rw [bitsOf_snoc]
            exact hp4
          clear hp2 hp4 hb hwz f0
          gi_wp2_with fail
          go_roundw
          case rel => exact ⟨k + 1, HLT.out, loop_next k _ HLT.out HK9.out, HE⟩
          case measure => exact loop_less k _ HLT.out HK9.out
        · obtain rfl : k = ps.length := by omega
          have hFin : Hid (Off (fun k => k = X) W wr ∧ PutI l w X (X + 1) (j + 1) wr) := by
            obtain ⟨A', c', zs, N, hp⟩ := HM.out.2
            refine Lib.hid ⟨Bq.off HM.out.1 rfl rfl, HI.out.below.trans (HM.out.1.below HI.out.below.size (by have := HN.out; omega)), HI.out.fn.bq HM.out.1 HI.out.fn.lt (by omega), A', c', zs, N, ?_⟩
            rw [List.take_length, ← bitsOf_append] at hp
            rw [List.take_add_one, HX2.out]
            simpa using hp
          clear HM hk hlt
          gi_wp2_with fail
          exact hFin.out
    case done =>
      rintro D W hD hi hK
      obtain ⟨A, c, zs, N, hp⟩ := hi.puts
      rw [List.take_length] at hp
      have HI := Lib.hid hi
      have HP := Lib.hid hp
      have x0 := hp.x.cell_at 0 rfl
      have x1 := hp.x.cell_at 1 rfl
      have HK := Lib.hid hK
      clear hI hi hp hK
      gi_wp2_with fail
      refine ⟨trivial, callsIn_wide.2 ((pad_room A c zs N W (given_of HP.out.h HP.out.a (by have := (fine_bits HFI.out).1; unfold numsL at this; omega))).mono ?_)⟩
      rintro e W4 ⟨A', cap, ys, M, er, rfl, hh, hnew, hgr, hcap, hb⟩
      have HCAP := Lib.hid hcap
      clear hcap
      have hX4 := HP.out.x.below hb HP.out.x.lt
      have HA : Hid (er = 0 ∧ ys = bytesL l.pl ∧ Hands W4 A' (bytesL l.pl) ∧ ∀ q, A' = some q → q.block ≠ X) := by
        rcases hgr with ⟨h1, _⟩ | ⟨_, h2, l', ha', hb'⟩
        · rw [HP.out.a.right] at h1; cases h1
        · obtain rfl := ha'.inj HP.out.a
          obtain ⟨hM, hy⟩ := hb'
          have hy2 : ys = bytesL l.pl := hy
          exact Lib.hid ⟨h2, hy2, hy2 ▸ hh, fun q hq => by have := hnew q hq; have := HP.out.x.lt; omega⟩
      obtain rfl := HA.out.1
      obtain rfl := HA.out.2.1
      clear x0 x1 hgr
      have y0 := hX4.cell_at 0 rfl
      have y1 := hX4.cell_at 1 rfl
      have z0 := hX4.frozen 0
      have z1 := hX4.frozen 1
      have hWX := (hX4.set 0 (.slice A' (bytesL l.pl).length cap)).set 1 (.int .i64 M)
      have v0 := hWX.cell_at 0 rfl
      have hD4 : ((W4.setCell ⟨X, 0, none⟩ (.slice A' (bytesL l.pl).length cap)).setCell ⟨X, 1, none⟩ (.int .i64 M)).heap[D]? = some (.deferred (some [])) := by
        have hn := HN.out
        rw [Below.heap_setCell _ _ _ _ (by show D ≠ X; omega), Below.heap_setCell _ _ _ _ (by show D ≠ X; omega)]
        exact (hb.block D (Array.getElem?_eq_some_iff.1 HK.out).1).trans HK.out
      have HFIN : Hid (Below w.heap.size w (((W4.setCell ⟨X, 0, none⟩ (.slice A' (bytesL l.pl).length cap)).setCell ⟨X, 1, none⟩ (.int .i64 M)).putObj D (.deferred none)) ∧ Hands (((W4.setCell ⟨X, 0, none⟩ (.slice A' (bytesL l.pl).length cap)).setCell ⟨X, 1, none⟩ (.int .i64 M)).putObj D (.deferred none)) A' (bytesL l.pl)) := by
        have hn := HN.out
        have h1 : Below w.heap.size w ((W4.setCell ⟨X, 0, none⟩ (.slice A' (bytesL l.pl).length cap)).setCell ⟨X, 1, none⟩ (.int .i64 M)) := (((HI.out.below.trans (hb.mono HI.out.below.size)).setCell (p := ⟨X, 0, none⟩) (by show w.heap.size ≤ X; omega) _).setCell (p := ⟨X, 1, none⟩) (by show w.heap.size ≤ X; omega) _)
        have h2 : Hands ((W4.setCell ⟨X, 0, none⟩ (.slice A' (bytesL l.pl).length cap)).setCell ⟨X, 1, none⟩ (.int .i64 M)) A' (bytesL l.pl) := (HA.out.2.2.1.far (p := ⟨X, 0, none⟩) HA.out.2.2.2 _).far (p := ⟨X, 1, none⟩) HA.out.2.2.2 _
        refine Lib.hid ⟨h1.grown (grownBy_putObj' _ D _) h1.size (fun k e => by cases e; have := HBT.out.size; omega), Row.cellsOn (CellsOn.put (w := w) _ D _ _ (by have := HBT.out.size; omega) hD4 rfl rfl) h2.1, h2.2⟩
      clear hX4 hh hnew hb hWX
      gi_wp2_with fail
      refine ⟨by simp, .inl ⟨_, _, rfl, run_takeDeferred hD4, ?_⟩⟩
      exact ⟨.tuple #[.slice A' (bytesL l.pl).length cap, .int .i64 0], by simp [results, Tryz.f9, go_sem], HFIN.out.1, _, _, rfl, HFIN.out.2, HCAP.out⟩
    case stop => exact fun _ _ _ _ h _ => h.elim
end Go.Proofs.YtegflmaobmibnaaGreatDoor
