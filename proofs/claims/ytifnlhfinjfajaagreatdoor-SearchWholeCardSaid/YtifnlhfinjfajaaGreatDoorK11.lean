/- Of this seat: SeaP_1, SeaQ_1. -/
import Derived.Test.YtifnlhfinjfajaaGreatDoorK10
import Derived.Test.YtifnlhfinjfajaaGreatDoorK48
namespace Go.Proofs.YtifnlhfinjfajaaGreatDoor
set_option linter.unusedVariables false
set_option linter.unusedSimpArgs false
set_option maxRecDepth 100000
set_option maxHeartbeats 32000000
section
open Go.RowKit Go.Shelf
theorem rest_nodup {l:Lay}:∀(n:Nat) (u:List Stp) (q:Int×Int),(restV l n u q).Nodup
 |0,_,_=>List.nodup_nil
 |n+1,u,q=>by
  rw[rest_succ,List.Nodup,List.pairwise_flatMap];constructor
  · intro x _;rw[List.pairwise_cons];refine⟨fun w hw e=>?_,rest_nodup n _ _⟩;obtain⟨t,rfl,ht⟩:=rest_longer hw;have :=congrArg List.length e;simp only[List.length_append] at this;exact ht (List.eq_nil_of_length_eq_zero (by omega))
  · refine(more_nodup l u q).imp fun {a b} hab w hw v hv e=>hab ?_;have key:∀ {c:Stp} {z:List Stp},z ∈ (u++[c])::restV l n (u++[c]) (nextV l c.1 c.2.1 c.2.2)→∃t,z=u++([c]++t):=fun {c z} hz=>by
     rw[List.mem_cons] at hz;rcases hz with rfl|hz
     · exact⟨[],by simp⟩
     · obtain⟨t,rfl,_⟩:=rest_longer hz;exact⟨t,by simp⟩
    obtain⟨t,rfl⟩:=key hw;obtain⟨t',rfl⟩:=key hv;have :=List.append_cancel_left e;simp only[Ll,Lk] at this;injection this
theorem walks_nodup (l:Lay) (q:Int×Int):(walksV l q).Nodup:=rest_nodup _ _ _
end
end Go.Proofs.YtifnlhfinjfajaaGreatDoor
