/- As XMix: a store into a part of a block. -/
import Derived.Test.YtaeooldpmlakhaaGen
namespace Go.Proofs.Ytaeooldpmlakhaa
open Go.RowKit
set_option linter.unusedVariables false

section
variable {P : Program} {ops : Array Oper} {B S : World → Prop} {L : (World → Prop) → Act → Prop} {o : Oper} {l : List (Oper × Bool)} {a : Act}
/-- A store within a block. -/
theorem mix_within (t : TypeId) (x y : Operand) (g off : Nat) (vs : List Value) (S' : World → Prop) (hF' : Fam B S') (ho : o.op = .store t x y) (hx : a.eval x = .pointer (some ⟨g, off, none⟩)) (hy : a.eval y = .agg vs.toArray)
    (hi : (P.info? t).map (·.size) = some vs.length) (h1 : vs.all (·.oneCell') = true) (hw : Region.wanted o (yielded ops a.tmps) = true) (hth : ∀ w, S w → w.there g off vs.length) (hS' : ∀ w, S w → S' (w.setCells g off vs))
    (h : wpMix P ops (Fam B) L l S' (a.put o.dst undef)) : wpMix P ops (Fam B) L ((o, true) :: l) S a := by
  refine mix_store S' (fun w => w.setCells g off vs) hF' hw (fun w hS => ?_) hS' h
  have := run_storeAt_mid (P := P) w g off t vs.toArray (by simpa using hth w hS) (by simpa using hi) (by simpa using h1)
  unfold execOp
  simp only [ho, hx, hy, Sem.run_bind, this, Result.andThen_ok, Sem.run_pure]
end
end Go.Proofs.Ytaeooldpmlakhaa
