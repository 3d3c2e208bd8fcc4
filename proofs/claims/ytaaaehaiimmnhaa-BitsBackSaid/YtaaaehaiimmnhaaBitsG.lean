/- Package bits: Same, Own, Of; and the document's own of the same names. -/
import Derived.Test.YtaaaehaiimmnhaaBitsE
import Derived.Deep.RegionWith
import Derived.Laws.BytesArg
import Derived.Lib.Strings
namespace Go.Proofs.Ytaaaehaiimmnhaa
open Go.RowKit Go.Shelf
set_option linter.unusedVariables false

theorem text_run {P : Program} (w : World) (t e : TypeId) (hs : P.underlying t = some (.slice e)) (he : P.underlying e = some (.int .u8)) (d : TypeId) (hd : P.underlying d = some .string) (B : Nat) (A : Option Addr) (zs : List Int) (cap : Nat) (hr : Row w B A (u8s zs)) :
    (convert t d (.slice A zs.length cap)).run P w = .ok (.string (strOfNums zs)) w := by
  cases zs with
  | nil =>
    cases A with
    | none => exact run_convert_bytes_nil w t e hs he 0 cap d hd
    | some a =>
      rw [List.length_nil, run_convert_bytes_string w t d e (some a) 0 cap hs he hd, run_bytesToString w a 0 cap [] (by simpa using run_loadCells_list (P := P) w a [] (by simp))]
      rfl
  | cons z zs =>
    obtain ⟨b, off, rfl, hb, hc⟩ := hr.bytes (by simp)
    refine run_convert_bytes_arg w t e hs he b off _ cap (z :: zs) rfl (fun i hi => ?_) d hd
    rw [hc i hi]
    simp [List.getD]

/-- Are these the same bytes? -/
def sameB (a b : List Int) : Bool := decide (a = b)
theorem sameB_text (a b : List Int) (ha : ∀ z ∈ a, IsByte z) (hb : ∀ z ∈ b, IsByte z) : ((strOfNums a).toList == (strOfNums b).toList) = sameB a b := by
  have inj : ∀ (a b : List Int), (∀ z ∈ a, IsByte z) → (∀ z ∈ b, IsByte z) → (a.map fun n => UInt8.ofNat n.toNat) = (b.map fun n => UInt8.ofNat n.toNat) → a = b := by
    intro a
    induction a with
    | nil => intro b _ _ h; cases b with
      | nil => rfl
      | cons y b => simp at h
    | cons x a ih =>
      intro b ha hb h
      cases b with
      | nil => simp at h
      | cons y b =>
        simp only [List.map_cons, List.cons.injEq] at h
        have hx := ha x (by simp)
        have hy := hb y (by simp)
        unfold IsByte at hx hy
        have h1 := congrArg UInt8.toNat h.1
        simp only [UInt8.toNat_ofNat'] at h1
        rw [ih b (fun z hz => ha z (by simp [hz])) (fun z hz => hb z (by simp [hz])) h.2, show x = y by omega]
  unfold sameB
  rw [Bool.eq_iff_iff, beq_iff_eq, decide_eq_true_eq]
  constructor
  · intro h
    rw [Lib.toList_data, Lib.toList_data, strOfNums_data, strOfNums_data] at h
    exact inj a b ha hb h
  · rintro rfl; rfl

set_option maxHeartbeats 1000000 in
theorem equal_any (A A' : Option Addr) (c c' : Nat) (zs zs' : List Int) (w : World) (h : Row w w.heap.size A (u8s zs)) (h' : Row w w.heap.size A' (u8s zs')) (hb : ∀ z ∈ zs, IsByte z) (hb' : ∀ z ∈ zs', IsByte z) :
    Calls Try.prog 34 #[.slice A zs.length c, .slice A' zs'.length c'] w fun e w' => e = .returned (.bool (sameB zs zs')) ∧ w = w' := by
  have r1 := text_run w 22 5 Try.underlying22 Try.underlying5 9 Try.underlying9 _ A zs c h
  have r2 := text_run w 22 5 Try.underlying22 Try.underlying5 9 Try.underlying9 _ A' zs' c' h'
  have hs := sameB_text zs zs' hb hb'
  go_enter Try.func34, Try.ntmps34
  go_wp2
  go_ret
  exact ⟨rfl, rfl⟩

set_option maxHeartbeats 1000000 in
theorem same_any (A A' : Option Addr) (c c' : Nat) (zs zs' : List Int) (N N' : Int) (w : World) (h : Row w w.heap.size A (u8s zs)) (h' : Row w w.heap.size A' (u8s zs')) (hb : ∀ z ∈ zs, IsByte z) (hb' : ∀ z ∈ zs', IsByte z) :
    Calls Try.prog 20 #[.agg #[.slice A zs.length c, .int .i64 N], .agg #[.slice A' zs'.length c', .int .i64 N']] w fun e w' => e = .returned (.bool (decide (N = N') && sameB zs zs')) ∧ Below w.heap.size w w' := by
  by_cases hN : N = N'
  · have hn : (N == N') = true := by simp [hN]
    have HN := Lib.hid hN
    clear hN
    go_enter Try.func20, Try.ntmps20
    go_wp2_with fail
    refine (equal_any A A' c c' zs zs' _ (by exact h.on (below2 _ _ _)) (by exact h'.on (below2 _ _ _)) hb hb').mono ?_
    rintro e w' ⟨rfl, rfl⟩
    go_wp2
    go_ret
    exact ⟨ret_bool (by simp [HN.out]), below2 _ _ _⟩
  · have hn : (N == N') = false := by simp [hN]
    go_enter Try.func20, Try.ntmps20
    go_wp2
    go_ret
    exact ⟨ret_bool (by simp [hN]), below2 _ _ _⟩

set_option maxHeartbeats 1000000 in
theorem sameR_any (A A' : Option Addr) (c c' : Nat) (zs zs' : List Int) (N N' : Int) (w : World) (h : Row w w.heap.size A (u8s zs)) (h' : Row w w.heap.size A' (u8s zs')) (hb : ∀ z ∈ zs, IsByte z) (hb' : ∀ z ∈ zs', IsByte z) :
    Calls Try.prog 13 #[.agg #[.slice A zs.length c, .int .i64 N], .agg #[.slice A' zs'.length c', .int .i64 N']] w fun e w' => e = .returned (.bool (decide (N = N') && sameB zs zs')) ∧ Below w.heap.size w w' := by
  have hs := sameB_text zs zs' hb hb'
  by_cases hN : N = N'
  · have hn : (N == N') = true := by simp [hN]
    have HN := Lib.hid hN
    clear hN
    have r1 := fun o o' => text_run ((w.alloc o).alloc o') 22 5 Try.underlying22 Try.underlying5 9 Try.underlying9 _ A zs c (h.on (below2 _ _ _))
    have r2 := fun o o' => text_run ((w.alloc o).alloc o') 22 5 Try.underlying22 Try.underlying5 9 Try.underlying9 _ A' zs' c' (h'.on (below2 _ _ _))
    go_enter Try.func13, Try.ntmps13
    go_wp2
    go_ret
    exact ⟨ret_bool (by simp [HN.out]), below2 _ _ _⟩
  · have hn : (N == N') = false := by simp [hN]
    go_enter Try.func13, Try.ntmps13
    go_wp2
    go_ret
    exact ⟨ret_bool (by simp [hN]), below2 _ _ _⟩
end Go.Proofs.Ytaaaehaiimmnhaa
