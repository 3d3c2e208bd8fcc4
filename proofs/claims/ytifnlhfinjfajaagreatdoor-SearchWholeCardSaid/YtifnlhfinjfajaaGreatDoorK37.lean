/- Of this seat: SeaQ_2. -/
import Derived.Test.YtifnlhfinjfajaaGreatDoorK11
namespace Go.Proofs.YtifnlhfinjfajaaGreatDoor
set_option linter.unusedVariables false
set_option linter.unusedSimpArgs false
set_option maxRecDepth 100000
set_option maxHeartbeats 32000000
section
open Go.RowKit Go.Shelf
theorem sort_less {l:Lay} {q:Int×Int} {ws:List (List Stp)} (hg:∀w ∈ ws,goesL l q w=true) (hn:ws.Nodup):(sortS l ws).Pairwise (fun u v=>cmpR (rowV l u) (rowV l v)<0):=by
 have hn':(sortS l ws).Nodup:=(sort_perm l ws).nodup_iff.2 hn;refine((sort_pair l ws).and hn').imp_of_mem fun {a b} ha hb h=>?_;have h1:=h.1;unfold leR at h1;rw[decide_eq_true_iff] at h1;have h2:=row_inj (hg a ((sort_perm l ws).mem_iff.1 ha)) (hg b ((sort_perm l ws).mem_iff.1 hb));have h3:¬cmpR (rowV l a) (rowV l b)=0:=fun e=>h.2 (h2.1 e);omega
theorem all_less (l:Lay) (s x:Int) (vs:List Int):(allV l s x vs).Pairwise (fun u v=>cmpR (rowV l u) (rowV l v)<0):=
 sort_less (q:=Zq l s) (fun w h=>(mem_walks.1 (List.mem_filter.1 h).1).2.2.1) ((walks_nodup l _).filter _)
end
end Go.Proofs.YtifnlhfinjfajaaGreatDoor
