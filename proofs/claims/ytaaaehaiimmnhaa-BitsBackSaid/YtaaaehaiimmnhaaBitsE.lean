/- Bits with more bits behind them: package bits' behind. -/
import Derived.Test.YtaaaehaiimmnhaaBitsD
import Derived.Test.YtaaaehaiimmnhaaRound
import Derived.Sort.CutIn
import Derived.Stop.RegionWithIn
namespace Go.Proofs.Ytaaaehaiimmnhaa
open Go.RowKit Go.Shelf
set_option linter.unusedVariables false
attribute [local go_sem] Oper.semAt_some

theorem info_u8 : (Try.prog.info? 5).map (fun i => (i.zero, i.size, i.bytes)) = some (some (.int .u8 0), 1, 1) := by kernel_rfl
theorem make_u8 (c : Nat) (hc : c ≤ 281474976710656) (w : World) : (Instr.makeSlice 22 (.int .i64 (c : Int)) (.int .i64 (c : Int))).run Try.prog w = .ok (.slice (some ⟨w.heap.size, 0, none⟩) c c) (w.alloc (.cells (List.replicate c (.int .u8 0)).toArray 5)) :=
  make_run 22 5 _ 1 Try.underlying22 info_u8 rfl c (by omega) (by omega) w

/-- How many bytes. -/
def bytesFor (n : Nat) : Nat := (n + 7) / 8
theorem sizeOf8_nat (n : Nat) : sizeOf8 (n : Int) = (bytesFor n : Int) := by unfold sizeOf8 bytesFor; omega

set_option maxRecDepth 100000 in
set_option maxHeartbeats 4000000 in
theorem behind_in (A : Option Addr) (cap : Nat) (l m : List Bool) (hl : l.length + m.length ≤ 1099511627776) (gf : Nat) (lb : Array Value) (w : World) (hr : Row w w.heap.size A (u8s (pack (bytesFor l.length) l)))
    (eg : ∀ args w, (callFunc gf args).run Try.prog w = .ok (.enter gf args) w) (Sp : List Bool → Prop) (hseq : SeqStopsK Fence.wide 3 Try.prog gf lb encB (Below w.heap.size) (fun ys => ys = m) Sp m.length w) :
    CallsIn Fence.wide 4 Try.prog 25 #[.agg #[.slice A (bytesFor l.length) cap, .int .i64 l.length], .int .i64 m.length, .func (.func gf) #[] lb] w fun e w' =>
      ∃ g, e = .returned (.agg #[.slice (some ⟨g, 0, none⟩) (bytesFor (l.length + m.length)) (bytesFor (l.length + m.length)), .int .i64 ((l.length : Int) + m.length)]) ∧ w.heap.size ≤ g ∧ Whole w' g 5 (u8s (pack (bytesFor (l.length + m.length)) (l ++ m))) ∧ Below w.heap.size w w' := by
  obtain ⟨S, hS⟩ : ∃ S, bytesFor (l.length + m.length) = S := ⟨_, rfl⟩
  have hSl : S ≤ 281474976710656 := by unfold bytesFor at hS; omega
  have hsz : sizeOf8 ((l.length : Int) + m.length) = (S : Int) := by rw [← hS, ← sizeOf8_nat]; congr 1
  have HS := Lib.hid hsz
  clear hsz
  have hmk := make_u8 S hSl
  have HL0 := Lib.hid (show (0 : Int) ≤ (l.length : Int) + m.length by omega)
  have HL1 := Lib.hid (show (l.length : Int) + m.length ≤ 9223372036854775807 by omega)
  refine callsIn_of_wp_marks Try.func25 rfl trivial ?_ rfl
  simp only [Try.ntmps25, List.size_toArray, List.length_cons, List.length_nil, Nat.reduceAdd, Nat.reduceSub, Array.replicate_succ, Array.replicate_zero, List.push_toArray, List.append_toArray, List.nil_append, List.cons_append]
  rw [hS]
  have HS2 := Lib.hid hS
  clear hS
  gi_wp2
  obtain ⟨W0, hW0, hs0, hb00, hres, hx0, hx1⟩ : ∃ W0, ((w.alloc (.cells #[.slice A (bytesFor l.length) cap, .int .i64 l.length] 24)).alloc (.cells #[.slice none 0 0, .int .i64 0] 24)) = W0 ∧ W0.heap.size = w.heap.size + 1 + 1 ∧ Below w.heap.size w W0 ∧
      Whole W0 (w.heap.size + 1) 24 [.slice none 0 0, .int .i64 0] ∧ W0.cell? ⟨w.heap.size, 0, none⟩ = some (.slice A (bytesFor l.length) cap) ∧ W0.cell? ⟨w.heap.size, 1, none⟩ = some (.int .i64 l.length) := by
    refine ⟨_, rfl, by simp, ((Below.refl _ w).alloc (Nat.le_refl _) _).alloc (by simp) _, Whole.new_at _ _ [_, _] _ (by simp), ?_, ?_⟩
    · exact ((Whole.new w 24 [_, _]).alloc _).cell_at 0 rfl
    · exact ((Whole.new w 24 [_, _]).alloc _).cell_at 1 rfl
  rw [hW0]
  clear hW0
  have HS0 := Lib.hid hs0
  clear hs0
  gi_cut [7] from 9 (fun o w' => Fresh2 W0 W0.heap.size S 24 5 (.int .u8 0) (.int .i64 l.length) o w')
  case first =>
    have hw1 : IntKind.i64.wrap ((l.length : Int) + m.length) = (l.length : Int) + m.length := IntWalk.i64_in _ (by omega)
    have hlt0 : w.heap.size < W0.heap.size := by rw [HS0.out]; omega
    have hx1a : ∀ o, (W0.alloc o).cell? ⟨w.heap.size, 1, none⟩ = some (.int .i64 l.length) := fun o => (((Below.refl W0.heap.size W0).alloc (Nat.le_refl _) o).cell (p := ⟨w.heap.size, 1, none⟩) hlt0).trans hx1
    have hx1b : ∀ o o', ((W0.alloc o).alloc o').cell? ⟨w.heap.size, 1, none⟩ = some (.int .i64 l.length) := fun o o' => ((((Below.refl W0.heap.size W0).alloc (Nat.le_refl _) o).alloc (by simp) o').cell (p := ⟨w.heap.size, 1, none⟩) hlt0).trans hx1
    refine wpIn_normal ?_
    gi_region_with (refine ⟨trivial, ?_⟩; gi_at_call 33; refine (callsIn_wide.2 (size_any _ HL0.out HL1.out _)).mono ?_; rw [HS.out]; rintro e w' ⟨rfl, rfl⟩)
    all_goals
      gi_wp2
      go_meet
      case rel =>
        first
          | exact fresh2_row_first _ _ _ _ _ _ _ rfl
          | exact fresh2_row_last _ _ _ _ _ _ _ rfl
  case rest =>
    obtain ⟨Bo, g, rfl, hne, hBo, hg, hWo, hWg, hB⟩ := hcut
    rw [HS0.out] at hBo hg hB
    have hlen : (u8s (pack (bytesFor l.length) l)).length = bytesFor l.length := by rw [u8s_length, pack_length]
    have hk : bytesFor l.length ≤ S := by rw [← HS2.out]; unfold bytesFor; omega
    have h8 : l.length ≤ 8 * bytesFor l.length := by unfold bytesFor; omega
    have hB0 : Below w.heap.size w wc := hb00.trans (hB.mono (by omega))
    obtain ⟨w2, hcopy, hW2, hG2⟩ := copy_run (P := Try.prog) 22 22 5 Try.underlying22 (by kernel_rfl) g _ _ A cap w.heap.size S S wc hWg (by simp) (hr.below hB0) (by rw [hlen]; exact hk) (u8s_one _)
    rw [pack_pad _ S l h8 hk] at hW2
    rw [hlen] at hcopy
    have hx0 : wc.cell? ⟨w.heap.size, 0, none⟩ = some (.slice A (bytesFor l.length) cap) := (hB.cell (p := ⟨w.heap.size, 0, none⟩) (by show w.heap.size < w.heap.size + 1 + 1; omega)).trans hx0
    have ho0 := hWo.cell_at 0 rfl
    gi_wp2
    have hB2 : Below (w.heap.size + 1 + 1) W0 w2 := hB.grown hG2 (by have := hB.size; rw [HS0.out] at this; exact this) (fun k e => by cases e; exact hg)
    have hB2' : Below w.heap.size w w2 := hb00.trans (hB2.mono (by omega))
    have hWo2 := hWo.kept hG2 (fun e => hne (by injection e))
    have hbo : w.heap.size + 1 + 1 ≤ w2.heap.size := by have := hWo2.lt; omega
    clear hcopy hx0 ho0 hWo hWg hB hB0
    refine wpIn_rangeFunc_ownF rfl (by omega) (gf := gf) (lb := lb) rfl trivial eg hseq belowK_t (belowK_b (by omega)) hB2' (fun _ => rfl)
      (fun pre W => (∃ lp, lp = l ++ pre ∧ Whole W Bo 24 [.slice (some ⟨g, 0, none⟩) S S, .int .i64 (lp.length : Int)] ∧ Whole W g 5 (u8s (pack S lp))) ∧ Below (w.heap.size + 1 + 1) W0 W)
      (fun _ _ _ => False)
      (OwnFrom.and (Own.from (fun s X Y row hs hg hr => by
        obtain ⟨lp, h1, h2, h3⟩ := hs
        exact ⟨lp, h1, h2.abides hg hr, h3.abides hg hr⟩) _) (ownFrom_below (Nat.le_of_eq HS0.out.symm) (by omega)))
      (fun _ _ _ _ _ hs _ _ => hs)
      ⟨⟨l, by simp, hWo2, hW2⟩, hB2⟩
      (fun x => { tmps := #[.agg #[.slice A (bytesFor l.length) cap, .int .i64 l.length], .int .i64 m.length, .func (.func gf) #[] lb, .pointer (some ⟨w.heap.size, 0, none⟩), undef, undef, .pointer (some ⟨w.heap.size + 1, 0, none⟩), .pointer (some ⟨Bo, 0, none⟩),
        .bool x, u9, u10, u11, u12, u13, u14, u15, u16, u17, .pointer (some ⟨Bo, 0, none⟩), .slice (some ⟨g, 0, none⟩) S S, .pointer (some ⟨w.heap.size, 0, none⟩), .slice A (bytesFor l.length) cap, .int .i64 (bytesFor l.length : Int),
        .func (.func gf) #[] lb, .bool x, u25, u26, u27, u28, u29, u30, u31, u32, u33, u34, u35, u36, u37, u38, u39, u40, u41, u42, u43], defers := [] }) ?assign ?body ?done ?stop
    case assign =>
      intro lr x W K hK
      unfold encB
      gi_wp2
      exact hK
    case stop =>
      rintro D c pre W _ _ h _
      exact h.elim
    case body =>
      rintro lr pre x W ⟨⟨lp, hlp, hWo, hWg⟩, hB⟩ hlt
      have hN : lp.length + 1 ≤ l.length + m.length := by rw [hlp]; simp; omega
      have HLP := Lib.hid hlp
      clear hlp
      have hq : lp.length / 8 < S := by rw [← HS2.out]; unfold bytesFor; omega
      have ho0 := hWo.cell_at 0 rfl
      have ho1 := hWo.cell_at 1 rfl
      have hf1 := hWo.frozen 1
      cases x with
      | false =>
        gi_wp2
        refine ⟨KeepsOthers.setCell _ _ _, (Below.refl w.heap.size W).setCell (p := ⟨Bo, 1, none⟩) (by show w.heap.size ≤ Bo; omega) _, ⟨lp ++ [false], by rw [HLP.out, List.append_assoc], ?_, ?_⟩, hB.setCell (p := ⟨Bo, 1, none⟩) hBo _⟩
        · have h := hWo.set 1 (.int .i64 ((lp.length : Int) + 1))
          simpa using h
        · rw [pack_false]; exact hWg.far (p := ⟨Bo, 1, none⟩) (fun e => hne e.symm) _
      | true =>
        have hgq : W.cell? ⟨g, lp.length / 8, none⟩ = some (.int .u8 (byteOf lp (lp.length / 8))) := hWg.cell_at _ (by simp [u8s, pack, first, hq])
        have hgf := hWg.frozen (lp.length / 8)
        have hqi : (lp.length : Int) / 8 < S := by omega
        have hq0 : (0 : Int) ≤ (lp.length : Int) / 8 := by omega
        gi_wp2
        refine wpIn_normal (region_inRound lr _ _ 13 (by kernel_rfl) (by kernel_rfl) (by kernel_rfl) noLetsOut ?_)
        simp only [List.take_succ_cons, List.take_zero, List.drop_succ_cons, List.drop_zero]
        have hd : IntKind.i64.wrap ((lp.length : Int) / 8) = (lp.length : Int) / 8 := IntWalk.i64_in _ (by omega)
        have hm : IntKind.i64.wrap ((lp.length : Int) % 8) = (lp.length : Int) % 8 := IntWalk.i64_in _ (by omega)
        have htm : (lp.length : Int).tmod 8 = (lp.length : Int) % 8 := Int.tmod_eq_emod_of_nonneg (by omega)
        have hm0 : (0 : Int) ≤ (lp.length : Int) % 8 := by omega
        have hqn : ((lp.length : Int) / 8).toNat = lp.length / 8 := by omega
        repeat still_step
        refine wpStill_nil ?_
        go_wp2
        clear hd hm htm hqn
        gi_wp2
        refine ⟨((KeepsOthers.setCell _ _ _).trans (KeepsOthers.setCell _ _ _)).trans (KeepsOthers.drew _), (((Below.refl w.heap.size W).setCell (p := ⟨g, _, none⟩) (by show w.heap.size ≤ g; omega) _).setCell (p := ⟨Bo, 1, none⟩) (by show w.heap.size ≤ Bo; omega) _).drew,
          ⟨lp ++ [true], by rw [HLP.out, List.append_assoc], ?_, ?_⟩, ((hB.setCell (p := ⟨g, _, none⟩) hg _).setCell (p := ⟨Bo, 1, none⟩) hBo _).drew⟩
        · have h := (hWo.far (p := ⟨g, lp.length / 8, none⟩) hne (.int .u8 (bits BinOp.or IntKind.u8 (byteOf lp (lp.length / 8)) (128 / 2 ^ (lp.length % 8))))).set 1 (.int .i64 ((lp.length : Int) + 1))
          have e : (((lp ++ [true]).length : Nat) : Int) = (lp.length : Int) + 1 := by simp
          rw [e]
          exact h
        · rw [pack_true]
          have h := (hWg.set (lp.length / 8) (.int .u8 (bits BinOp.or IntKind.u8 (byteOf lp (lp.length / 8)) (128 / 2 ^ (lp.length % 8))))).far (p := ⟨Bo, 1, none⟩) (fun e => hne e.symm) (.int .i64 ((lp.length : Int) + 1))
          rw [show u8s ((pack S lp).set (lp.length / 8) _) = (u8s (pack S lp)).set (lp.length / 8) (.int .u8 _) from List.map_set ..]
          exact h
    case done =>
      rintro D ys W hD rfl ⟨⟨lp, hlp, hWo, hWg⟩, hB⟩ hK
      have HLP := Lib.hid hlp
      clear hlp
      have ho0 := hWo.cell_at 0 rfl
      have ho1 := hWo.cell_at 1 rfl
      have hres' := hres.below hB (by omega)
      have hr0 := hres'.cell_at 0 rfl
      have hr1 := hres'.cell_at 1 rfl
      have hrf0 := hres'.frozen 0
      have hrf1 := hres'.frozen 1
      gi_wp2
      have hK' := ((KeepsOthers.setCell W ⟨w.heap.size + 1, 0, none⟩ (.slice (some ⟨g, 0, none⟩) S S)).trans (KeepsOthers.setCell _ ⟨w.heap.size + 1, 1, none⟩ (.int .i64 lp.length))).same D _ hK rfl
      have hW3 := (hres'.set 0 (.slice (some ⟨g, 0, none⟩) S S)).set 1 (.int .i64 lp.length)
      have hW4 := hW3.abides (grownBy_putObj' _ D (.deferred none)) (fun r e => by cases e; exact ⟨_, hK', rfl⟩)
      have hG4 := ((hWg.far (p := ⟨w.heap.size + 1, 0, none⟩) (by show g ≠ w.heap.size + 1; omega) (.slice (some ⟨g, 0, none⟩) S S)).far (p := ⟨w.heap.size + 1, 1, none⟩) (by show g ≠ w.heap.size + 1; omega) (.int .i64 lp.length)).abides (grownBy_putObj' _ D (.deferred none)) (fun r e => by cases e; exact ⟨_, hK', rfl⟩)
      refine ⟨by simp, .inl ⟨_, _, rfl, run_takeDeferred hK', ?_⟩⟩
      have c0 := hW4.cell_at 0 rfl
      have c1 := hW4.cell_at 1 rfl
      refine ⟨.agg #[.slice (some ⟨g, 0, none⟩) S S, .int .i64 lp.length], ?_, g, ?_, by omega, ?_, ?_⟩
      · simp [results, Try.f25, go_sem, c0, c1]
      · rw [HLP.out]; simp
      · rw [← HLP.out]; exact hG4
      · refine (((hb00.trans (hB.mono (by omega))).setCell (p := ⟨w.heap.size + 1, 0, none⟩) (by show w.heap.size ≤ w.heap.size + 1; omega) _).setCell (p := ⟨w.heap.size + 1, 1, none⟩) (by show w.heap.size ≤ w.heap.size + 1; omega) _).trans (belowK_b (w := w) (Nat.le_refl _) _ D _ _ (by omega) hK' rfl rfl)
end Go.Proofs.Ytaaaehaiimmnhaa
