/- Of this seat: Gen_1. -/
import Derived.Test.YtifnlhfinjfajaaGreatDoorK01
namespace Go.Proofs.YtifnlhfinjfajaaGreatDoor
set_option linter.unusedVariables false
set_option linter.unusedSimpArgs false
set_option maxRecDepth 100000
set_option maxHeartbeats 32000000
section
open Go.ChangeShapes Go.WideShapes Go.ChangeAt Go.RowKit Go.Deep
open Go.Joins
section
variable {H:Type} {enc:TypeId×Value→H} {w:World} {base:Nat} {spare:Nat→Bool} {held:Bool}
theorem nums_open {t e:TypeId} {k:IntKind} (ht:Tryz.prog.underlying t=some (.slice e)) (he:Tryz.prog.underlying e=some (.int k)) (hc:Tryz.prog.cellsOf e=1) {fuel:Nat} {v:Value} {y:DataW H×List MemPlace} (h:DataW.trod enc Tryz.prog w base spare held fuel t [v]=some y):
 ∃A cap zs,v= .slice A zs.length cap∧Row w w.heap.size A (nums k zs)∧(∀z ∈ zs,(Lit.int k z).wf=true)∧zs.length≤cap∧cap≤maxLen∧(A=none→cap=0):=by
 rcases open_ints ht he hc h with ⟨hcs,_⟩|⟨x,l,c,zs,hcs,_,hl,hm,hz,_,hcell,hwz⟩
 · simp at hcs;subst hcs;exact⟨none,0,[],rfl,Row.nil _ _ _,by simp,by simp,by simp,fun _=>rfl⟩
 · simp at hcs;subst hcs;have hlz:l≤zs.length:=by rw[hz];split <;> omega
   have hlen:(zs.take l).length=l:=by simp;omega
   refine⟨some x,c,zs.take l,by rw[hlen],row_of_cells ?_,?_,by omega,hm,fun h=>by cases h⟩
   · intro i u hu;have hi:i<l:=by
      have :=(List.getElem?_eq_some_iff.1 hu).1;rw[nums_length,hlen] at this;exact this
     rw[hcell i (by omega)];have :(nums k (zs.take l))[i]? =some (.int k (zs.getD i 0)):=by
      simp[nums,hi,show i<zs.length by omega]
     rw[this] at hu;exact hu
   · intro z hz';exact hwz z (List.mem_of_mem_take hz')
theorem ints_open {t e:TypeId} {k:IntKind} (ht:Tryz.prog.underlying t=some (.slice e)) (he:Tryz.prog.underlying e=some (.int k)) (hc:Tryz.prog.cellsOf e=1) {r:Reach} {b0:Nat} {v:Value} {d:DataW H} {p:List MemPlace} (hv:Value.okWide Tryz.prog w r b0 t v) (h:DataW.Trod enc Tryz.prog w base spare held t v d p):
 ∃A cap zs,v= .slice A zs.length cap∧Row w w.heap.size A (nums k zs)∧(∀z ∈ zs,(Lit.int k z).wf=true)∧zs.length≤cap∧cap≤maxLen∧(A=none→cap=0):=by
 obtain⟨a,l,c,rfl⟩:=okWide_slice ht hv
 obtain⟨fuel,hf⟩:=h
 exact nums_open ht he hc hf
end
end
end Go.Proofs.YtifnlhfinjfajaaGreatDoor
