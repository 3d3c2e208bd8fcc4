/- What all packages' proofs share: bytes as text; what comes in of bytes. -/
import Derived.Test.YtegflmaobmibnaaGreatDoorQGen
namespace Go.Proofs.YtegflmaobmibnaaGreatDoor
set_option maxRecDepth 100000
open Go.ChangeShapes Go.WideShapes Go.ChangeAt Go.RowKit Go.Deep
open Go.Joins
set_option linter.unusedVariables false

theorem info_u8 : (Tryz.prog.info? 5).map (fun i => (i.zero, i.size, i.bytes)) = some (some (.int .u8 0), 1, 1) := by kernel_rfl

theorem Row.take {w : World} {B : Nat} {A : Option Addr} {vs : List Value} (h : Row w B A vs) (k : Nat) : Row w B A (vs.take k) := fun hp => by
  obtain ⟨b, off, e, hb, hc⟩ := h (by rw [List.length_take] at hp; omega)
  refine ⟨b, off, e, hb, fun j u hu => hc j u ?_⟩
  rw [List.getElem?_take] at hu
  split at hu
  · exact hu
  · cases hu
theorem Row.drop {w : World} {B b off : Nat} {vs : List Value} (h : Row w B (some ⟨b, off, none⟩) vs) (k : Nat) : Row w B (some ⟨b, off + k, none⟩) (vs.drop k) := fun hp => by
  obtain ⟨b', off', e, hb, hc⟩ := h (by rw [List.length_drop] at hp; omega)
  cases e
  refine ⟨b, off + k, rfl, hb, fun j u hu => ?_⟩
  rw [List.getElem?_drop] at hu
  rw [Nat.add_assoc]
  exact hc _ _ hu

theorem text_run {P : Program} (w : World) (t e : TypeId) (hs : P.underlying t = some (.slice e)) (he : P.underlying e = some (.int .u8)) (d : TypeId) (hd : P.underlying d = some .string) (B : Nat) (A : Option Addr) (zs : List Int) (cap : Nat) (hr : Row w B A (u8s zs)) :
    (convert t d (.slice A zs.length cap)).run P w = .ok (.string (strOfNums zs)) w := by
  cases zs with
  | nil =>
    cases A with
    | none => exact run_convert_bytes_nil w t e hs he 0 cap d hd
    | some a =>
      rw [List.length_nil, run_convert_bytes_string w t d e (some a) 0 cap hs he hd, run_bytesToString w a 0 cap [] (by simpa using run_loadCells_list (P := P) w a [] (by simp))]
      rfl
  | cons z zs =>
    obtain ⟨b, off, rfl, hb, hc⟩ := hr.bytes (by simp)
    refine run_convert_bytes_arg w t e hs he b off _ cap (z :: zs) rfl (fun i hi => ?_) d hd
    rw [hc i hi]
    simp [List.getD]

/-- Are these the same bytes? -/
def sameB (a b : List Int) : Bool := decide (a = b)
theorem sameB_text (a b : List Int) (ha : ∀ z ∈ a, IsByte z) (hb : ∀ z ∈ b, IsByte z) : ((strOfNums a).toList == (strOfNums b).toList) = sameB a b := by
  have inj : ∀ (a b : List Int), (∀ z ∈ a, IsByte z) → (∀ z ∈ b, IsByte z) → (a.map fun n => UInt8.ofNat n.toNat) = (b.map fun n => UInt8.ofNat n.toNat) → a = b := by
    intro a
    induction a with
    | nil => intro b _ _ h; cases b with
      | nil => rfl
      | cons y b => simp at h
    | cons x a ih =>
      intro b ha hb h
      cases b with
      | nil => simp at h
      | cons y b =>
        simp only [List.map_cons, List.cons.injEq] at h
        have hx := ha x (by simp)
        have hy := hb y (by simp)
        unfold IsByte at hx hy
        have h1 := congrArg UInt8.toNat h.1
        simp only [UInt8.toNat_ofNat'] at h1
        rw [ih b (fun z hz => ha z (by simp [hz])) (fun z hz => hb z (by simp [hz])) h.2, show x = y by omega]
  unfold sameB
  rw [Bool.eq_iff_iff, beq_iff_eq, decide_eq_true_eq]
  constructor
  · intro h
    rw [Lib.toList_data, Lib.toList_data, strOfNums_data, strOfNums_data] at h
    exact inj a b ha hb h
  · rintro rfl; rfl

/-- append([]byte{}, b..): what comes of it, ahead of the walk. -/
theorem append_empty (A : Option Addr) (cap : Nat) (zs : List Int) (w : World) (hr : Row w w.heap.size A (u8s zs)) (hzl : zs.length ≤ 1099511627776) :
    ∃ g' c' w2, (Builtin.append_ #[30, 30] 30 #[.slice (some ⟨w.heap.size, 0, none⟩) 0 0, .slice A zs.length cap]).run Tryz.prog (w.alloc (.cells #[] 5)) = .ok (.slice (some ⟨g', 0, none⟩) zs.length c') w2 ∧
      w2.ownsRow w.heap.size 5 1 (.slice (some ⟨g', 0, none⟩) zs.length c') zs.length (u8s zs) ∧ Below w.heap.size w w2 := by
  have hnew : (w.alloc (.cells #[] 5)).ownsRow w.heap.size 5 1 (.slice (some ⟨w.heap.size, 0, none⟩) 0 0) 0 [] :=
    ⟨rfl, .inr ⟨_, 0, #[], rfl, by omega, Whole.new_at _ _ [] _ (by simp), Nat.le_refl _, Nat.zero_le _, rfl, rfl⟩⟩
  obtain ⟨g', c', w2, happ, hown, hG2, hg'⟩ := append_run (P := Tryz.prog) 30 30 5 (.int .u8 0) 1 Tryz.underlying30 info_u8 rfl w.heap.size _ 0 0 [] (u8s zs) _ hnew w.heap.size cap A (hr.below (below1 w _)) (u8s_one _) (by rw [u8s_length]; unfold maxLen; omega) (by rw [u8s_length]; omega) (by simp)
  rw [u8s_length, Nat.zero_add] at happ hown
  rw [List.nil_append] at hown
  exact ⟨g', c', w2, happ, hown, (below1 w _).grown hG2 (by simp) (fun k e => by cases e; exact Nat.le_refl _)⟩
theorem wf_byte (z : Int) (h : (Lit.int .u8 z).wf = true) : IsByte z := by
  exact (Lit.wf_int_iff .u8 z).1 h

section
variable {H : Type} {enc : TypeId × Value → H} {w : World} {base : Nat} {spare : Nat → Bool} {held : Bool}
theorem u8s_open {fuel : Nat} {v : Value} {y : DataW H × List MemPlace} (h : DataW.trod enc Tryz.prog w base spare held fuel 30 [v] = some y) :
    ∃ A cap zs, v = .slice A zs.length cap ∧ Row w w.heap.size A (u8s zs) ∧ (∀ z ∈ zs, IsByte z) ∧ zs.length ≤ cap ∧ cap ≤ maxLen ∧ (A = none → cap = 0) := by
  rcases open_ints Tryz.underlying30 Tryz.underlying5 (by kernel_rfl) h with ⟨hcs, _⟩ | ⟨x, l, c, zs, hcs, _, hl, hm, hz, _, hcell, hwz⟩
  · simp at hcs
    subst hcs
    exact ⟨none, 0, [], rfl, Row.nil _ _ _, by simp, by simp, by simp, fun _ => rfl⟩
  · simp at hcs
    subst hcs
    have hlz : l ≤ zs.length := by rw [hz]; split <;> omega
    have hlen : (zs.take l).length = l := by simp; omega
    refine ⟨some x, c, zs.take l, by rw [hlen], row_of_cells ?_, ?_, by omega, hm, fun h => by cases h⟩
    · intro i u hu
      have hi : i < l := by
        have := (List.getElem?_eq_some_iff.1 hu).1
        rw [u8s_length, hlen] at this; exact this
      rw [hcell i (by omega)]
      have : (u8s (zs.take l))[i]? = some (.int .u8 (zs.getD i 0)) := by
        simp [u8s, hi, show i < zs.length by omega]
      rw [this] at hu
      exact hu
    · intro z hz'
      exact wf_byte z (hwz z (List.mem_of_mem_take hz'))
set_option maxRecDepth 100000 in
theorem bytes_open {r : Reach} {b0 : Nat} {v : Value} {d : DataW H} {p : List MemPlace} (hv : Value.okWide Tryz.prog w r b0 30 v) (h : DataW.Trod enc Tryz.prog w base spare held 30 v d p) :
    ∃ A cap zs, v = .slice A zs.length cap ∧ Row w w.heap.size A (u8s zs) ∧ (∀ z ∈ zs, IsByte z) ∧ zs.length ≤ cap ∧ cap ≤ maxLen ∧ (A = none → cap = 0) := by
  obtain ⟨a, l, c, rfl⟩ := okWide_slice Tryz.underlying30 hv
  obtain ⟨fuel, hf⟩ := h
  exact u8s_open hf
end
end Go.Proofs.YtegflmaobmibnaaGreatDoor
