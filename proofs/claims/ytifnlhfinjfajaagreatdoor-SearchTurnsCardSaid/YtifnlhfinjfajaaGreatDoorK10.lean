/- Of this seat: SeaQ, SeaR, SeaT, IterG, Fork, Tree. -/
import Derived.Test.YtifnlhfinjfajaaGreatDoorK09
namespace Go.Proofs.YtifnlhfinjfajaaGreatDoor
set_option linter.unusedVariables false
set_option linter.unusedSimpArgs false
set_option maxRecDepth 100000
set_option maxHeartbeats 32000000
section
open Go.RowKit Go.Shelf
def Zq (l:Lay) (s:Int):Int×Int:=(l.sigs[s.toNat]?).getD (-1,0)
def walksV (l:Lay) (q:Int×Int):List (List Stp):=restV l 12 [] q
def mkP (s x:Int) (ss:List Stp):Pth:=⟨s,x,none,0,ss⟩
def serveV (l:Lay) (s x:Int) (vs:List Int) (ss:List Stp):Bool:=decide (check11 l (mkP s x ss) vs=0)&& !clashN (ofV l (mkP s x ss))
theorem serve_iff {l:Lay} {s x:Int} {vs:List Int} {ss:List Stp}:serveV l s x vs ss=true↔check11 l (mkP s x ss) vs=0∧clashN (ofV l (mkP s x ss))=false:=by
 unfold serveV;rw[Bool.and_eq_true,decide_eq_true_iff,Bool.not_eq_true']
theorem mem_walks {l:Lay} {q:Int×Int} {w:List Stp}:w ∈ walksV l q↔w≠[]∧w.length≤12∧goesL l q w=true∧Once w:=by
 unfold walksV;rw[mem_rest];constructor
 · rintro⟨t,rfl,h1,h2,h3,h4⟩;exact⟨h1,h2,h3,(fresh_nil _).1 h4⟩
 · rintro⟨h1,h2,h3,h4⟩;exact⟨w,rfl,h1,h2,h3,(fresh_nil w).2 h4⟩
structure PathIs (l:Lay) (s x:Int) (ss:List Stp):Prop where
 one:ss≠[]
 most:ss.length≤12
 goes:goesL l (Zq l s) ss=true
 once:Once ss
 ends:endV l (mkP s x ss)=true
 apart:∀a ∈ ss,∀b ∈ overL10 l x,b.1≠a.1
 pass:passV l ss=false
theorem path_is {l:Lay} {s x:Int} {ss:List Stp}:isPathV l (mkP s x ss)=true↔PathIs l s x ss∧(l.sigs[s.toNat]?).isSome:=by
 unfold isPathV sizeP;simp only[Bool.and_eq_true,decide_eq_true_iff,Bool.not_eq_true'];show((1≤ss.length∧ss.length≤12)∧goesS l ss=true∧beginV l (mkP s x ss)=true∧endV l (mkP s x ss)=true∧simpleB ss (overL10 l x)=true∧passV l ss=false)↔_;rw[simple_iff];have hb:∀a r,ss=a::r→(beginV l (mkP s x ss)=true↔∃y,l.sigs[s.toNat]? =some y∧(a.1,a.2.1)=y):=fun a r e=>by
  subst e;unfold beginV;show(match some a,l.sigs[s.toNat]? with|some x,some y=>x.1==y.1&&x.2.1==y.2|_,_=>false)=true↔_;cases l.sigs[s.toNat]? with
  |none=>simp
  |some y=>
   simp only[Bool.and_eq_true,beq_iff_eq,Option.some.injEq,exists_eq_left'];constructor
   · rintro⟨h1,h2⟩;rw[h1,h2]
   · intro h;rw[←h];exact⟨rfl,rfl⟩
 cases ss with
 |nil=>
  constructor
  · rintro⟨⟨h,_⟩,_⟩;simp at h
  · rintro⟨h,_⟩;exact absurd rfl h.one
 |cons a r=>
  rw[hb a r rfl];constructor
  · rintro⟨⟨h1,h2⟩,h3,⟨y,hy,e⟩,h5,⟨h6,h7⟩,h8⟩;have hst:Zq l s=(a.1,a.2.1):=by unfold Zq;rw[hy,e];rfl
    exact⟨⟨by simp,h2,by rw[hst];exact h3,h6,h5,h7,h8⟩,by rw[hy];rfl⟩
  · rintro⟨⟨h1,h2,h3,h4,h5,h6,h7⟩,h8⟩;obtain⟨y,hy⟩:=Option.isSome_iff_exists.1 h8;have hst:Zq l s=y:=by unfold Zq;rw[hy];rfl
    obtain⟨e,_,_⟩:=goesL_cons.1 h3;rw[hst] at e;exact⟨⟨by simp,h2⟩,by rw[hst,←e] at h3;exact h3,⟨y,hy,e⟩,h5,⟨h4,h6⟩,h7⟩
theorem known_sig {l:Lay} {s x:Int} {ss:List Stp} (h:knownV l (mkP s x ss)=true):(l.sigs[s.toNat]?).isSome:=by
 unfold knownV at h;simp only[Bool.and_eq_true,decide_eq_true_iff] at h;have h1:(0:Int)≤s:=h.1.1;have h2:s<(l.sigs.length:Int):=h.1.2;rw[List.getElem?_eq_getElem (by omega)];rfl
def askV (l:Lay) (s x:Int) (vs:List Int):Bool:=rightT l&&(knownV l (mkP s x [])&&viasV l vs)
theorem serve_parts {l:Lay} {s x:Int} {vs:List Int} {ss:List Stp}:serveV l s x vs ss=true↔askV l s x vs=true∧PathIs l s x ss∧Zs (secsS ss) vs=true∧clashN (ofV l (mkP s x ss))=false:=by
 rw[serve_iff,check11_ok];unfold askV;simp only[Bool.and_eq_true];have e:knownV l (mkP s x [])=knownV l (mkP s x ss):=rfl;rw[e];show((_∧_∧_)∧isPathV l (mkP s x ss)=true∧Zs (secsS ss) vs=true)∧_↔_;rw[path_is];constructor
 · rintro⟨⟨⟨h1,h2,h3⟩,⟨h4,h5⟩,h6⟩,h7⟩;exact⟨⟨h1,h2,h3⟩,h4,h6,h7⟩
 · rintro⟨⟨h1,h2,h3⟩,h4,h6,h7⟩;exact⟨⟨⟨h1,h2,h3⟩,⟨h4,known_sig h2⟩,h6⟩,h7⟩
theorem serve_walk {l:Lay} {s x:Int} {vs:List Int} {ss:List Stp} (h:serveV l s x vs ss=true):ss ∈ walksV l (Zq l s):=by
 obtain⟨_,h,_⟩:=serve_parts.1 h;exact mem_walks.2 ⟨h.one,h.most,h.goes,h.once⟩
def leR (l:Lay) (u v:List Stp):Bool:=decide (cmpR (rowV l u) (rowV l v)≤0)
def sortS (l:Lay) (ws:List (List Stp)):List (List Stp):=ws.mergeSort (leR l)
theorem leR_total (l:Lay) (u v:List Stp):(leR l u v||leR l v u)=true:=by
 unfold leR;have :=cmpR_neg (rowV l u) (rowV l v);simp only[Bool.or_eq_true,decide_eq_true_iff];omega
theorem leR_trans (l:Lay) (u v w:List Stp) (h:leR l u v=true) (k:leR l v w=true):leR l u w=true:=by
 unfold leR at *;rw[decide_eq_true_iff] at *;have h1:=cmpR_neg (rowV l u) (rowV l v);have h2:=cmpR_neg (rowV l v) (rowV l w);have h3:=cmpR_neg (rowV l u) (rowV l w);have :=cmpR_ntrans (rowV l w) (rowV l v) (rowV l u) (by omega) (by omega);omega
theorem sort_perm (l:Lay) (ws:List (List Stp)):(sortS l ws).Perm ws:=List.mergeSort_perm _ _
theorem sort_pair (l:Lay) (ws:List (List Stp)):(sortS l ws).Pairwise (fun u v=>leR l u v=true):=List.pairwise_mergeSort (leR_trans l) (leR_total l) ws
theorem sort_is {l:Lay} {q:Int×Int} {ws us:List (List Stp)} (hp:us.Perm ws) (hg:∀w ∈ ws,goesL l q w=true) (ho:us.Pairwise (fun u v=>leR l u v=true)):us=sortS l ws:=by
 refine List.Perm.eq_of_pairwise ?_ ho (sort_pair l ws) (hp.trans (sort_perm l ws).symm);intro a b ha hb h1 h2;unfold leR at h1 h2;rw[decide_eq_true_iff] at h1 h2;have h3:=cmpR_neg (rowV l a) (rowV l b);exact(row_inj (hg a (hp.mem_iff.1 ha)) (hg b ((sort_perm l ws).mem_iff.1 hb))).1 (by omega)
def allV (l:Lay) (s x:Int) (vs:List Int):List (List Stp):=sortS l ((walksV l (Zq l s)).filter (serveV l s x vs))
def errA (l:Lay) (s x:Int) (vs:List Int):Int:=if askV l s x vs=true then (if allV l s x vs=[] then 140 else 0) else 2
theorem mem_all {l:Lay} {s x:Int} {vs:List Int} {ss:List Stp}:ss ∈ allV l s x vs↔serveV l s x vs ss=true:=by
 unfold allV;rw[(sort_perm l _).mem_iff,List.mem_filter];exact⟨fun h=>h.2,fun h=>⟨serve_walk h,h⟩⟩
theorem all_sub {l:Lay} {s x:Int} {vs:List Int}:(allV l s x vs).length≤(walksV l (Zq l s)).length:=by
 unfold allV;rw[(sort_perm l _).length_eq];exact List.length_filter_le _ _
theorem once_snoc {u:List Stp} {x:Stp}:Once (u++[x])↔Once u∧usedS u x.1=false:=by
 constructor
 · intro h;have hu:Once u:=fun i j a b hij hi hj=>h i j a b hij (by rw[List.getElem?_append_left (List.getElem?_eq_some_iff.1 hi).1];exact hi) (by rw[List.getElem?_append_left (List.getElem?_eq_some_iff.1 hj).1];exact hj);exact⟨hu,((fresh_once [x] u hu).2 h).1⟩
 · rintro⟨h1,h2⟩;exact(fresh_once [x] u h1).1 ⟨h2,trivial⟩
theorem goes_snoc {l:Lay} {q:Int×Int} {u:List Stp} {x:Stp}:goesL l q (u++[x])=true↔goesL l q u=true∧(x.1,x.2.1)=endL l q u∧stepV l x.1 x.2.1 x.2.2=true:=by
 rw[goes_append,Bool.and_eq_true,goesL_cons];constructor
 · rintro⟨a,b,c,_⟩;exact⟨a,b,c⟩
 · rintro⟨a,b,c⟩;exact⟨a,b,c,rfl⟩
def descV (l:Lay) (q:Int×Int) (w:List Stp):List (List Stp):=w::restV l (12 - w.length) w (endL l q w)
theorem desc_more {l:Lay} {q:Int×Int} {w:List Stp} (h:w.length<12):descV l q w=w::(moreV l w (endL l q w)).flatMap fun x=>descV l q (w++[x]):=by
 obtain⟨n,hn⟩:∃n,12 - w.length=n+1:=⟨11 - w.length,by omega⟩;unfold descV;rw[hn,rest_succ];congr 1
 congr 1
 funext x
 rw[end_append,List.length_append,List.length_singleton,show 12 - (w.length+1)=n by omega]
theorem end_more {l:Lay} {s x:Int} {w t:List Stp} (hw:w≠[]) (ht:t≠[]) (h:endV l (mkP s x w)=true) (ho:Once (w++t)):endV l (mkP s x (w++t))=false:=by
 cases he:endV l (mkP s x (w++t)) with
 |false=>rfl
 |true=>
  exfalso;unfold endV at h he;obtain⟨u,a,rfl⟩:∃u a,w=u++[a]:=⟨w.dropLast,w.getLast hw,(List.dropLast_concat_getLast hw).symm⟩;obtain⟨r,b,rfl⟩:∃r b,t=r++[b]:=⟨t.dropLast,t.getLast ht,(List.dropLast_concat_getLast ht).symm⟩;have e1:(mkP s x (u++[a])).ss.getLast? =some a:=by show(u++[a]).getLast? =_;simp
  have e2:(mkP s x ((u++[a])++(r++[b]))).ss.getLast? =some b:=by show((u++[a])++(r++[b])).getLast? =_;rw[←List.append_assoc,List.getLast?_concat]
  rw[e1] at h;rw[e2] at he;have e3:(mkP s x ((u++[a])++(r++[b]))).x=x:=rfl;have e4:(mkP s x (u++[a])).x=x:=rfl;rw[e3] at he;rw[e4] at h;cases hx:l.exits[x.toNat]? with
  |none=>rw[hx] at h;cases h
  |some y=>
   rw[hx] at h he;simp only[Bool.and_eq_true,beq_iff_eq] at h he;exact ho u.length ((u++[a]).length+r.length) b a (by simp;omega) (by simp) (by rw[←List.append_assoc,show(u++[a]).length+r.length=((u++[a])++r).length by rw[List.length_append (bs:=r)],List.getElem?_concat_length]) (by rw[h.1,he.1])
theorem filter_none {α:Type} {p:α→Bool} {l:List α} (h:∀a ∈ l,p a=false):l.filter p=[]:=by
 rw[List.filter_eq_nil_iff];intro a ha;rw[h a ha];simp
def todoN (l:Lay) (q:Int×Int) (pend:List (List Stp)):Nat:=(pend.flatMap (descV l q)).length
theorem todo_empty (l:Lay) (q:Int×Int):todoN l q [[]]=(walksV l q).length+1:=by
 unfold todoN;rw[List.flatMap_cons,List.flatMap_nil,List.append_nil];rfl
theorem todo_cut {l:Lay} {q:Int×Int} {pend:List (List Stp)} {w:List Stp}:todoN l q pend+1≤todoN l q (pend++[w]):=by
 unfold todoN;rw[List.flatMap_append,List.length_append,List.flatMap_cons,List.flatMap_nil,List.append_nil];unfold descV;rw[List.length_cons];omega
theorem todo_goes {l:Lay} {q:Int×Int} {pend:List (List Stp)} {w:List Stp} (hl:w.length<12):todoN l q (pend++(moreV l w (endL l q w)).map (fun x=>w++[x]))+1=todoN l q (pend++[w]):=by
 unfold todoN;rw[List.flatMap_append,List.flatMap_append,List.length_append,List.length_append,List.flatMap_cons,List.flatMap_nil,List.append_nil,desc_more hl,List.length_cons,List.flatMap_map];omega
theorem todo_len {l:Lay} {q:Int×Int} {pend:List (List Stp)}:pend.length≤todoN l q pend:=by
 unfold todoN;induction pend with
 |nil=>simp
 |cons w r ih=>
  rw[List.flatMap_cons,List.length_append,List.length_cons];unfold descV at *;rw[List.length_cons];omega
theorem all_asked {l:Lay} {s x:Int} {vs:List Int} (h:askV l s x vs=false):allV l s x vs=[]:=by
 refine List.eq_nil_iff_forall_not_mem.2 fun w hw=>?_;have :=(serve_parts.1 (mem_all.1 hw)).1;rw[h] at this;cases this
theorem err_ok {l:Lay} {s x:Int} {vs:List Int}:errA l s x vs=0↔allV l s x vs≠[]:=by
 unfold errA;cases h:askV l s x vs
 · rw[all_asked h];simp
 · by_cases h2:allV l s x vs=[] <;> simp[h2]
def fromV (l:Lay) (s:Int):Nat→List (Nat×List Stp)
 |0=>[]
 |n+1=>fromV l s n++(allV l s n []).map fun w=>(n,w)
def exitsV (l:Lay) (s:Int) (n:Nat):List Nat:=(List.range n).filter fun x=>decide (errA l s x []=0)
theorem exits_next (l:Lay) (s:Int) (n:Nat):exitsV l s (n+1)=exitsV l s n++(if errA l s n []=0 then [n] else []):=by
 unfold exitsV;rw[List.range_succ,List.filter_append];by_cases h:errA l s n []=0 <;> simp[h]
theorem exits_len (l:Lay) (s:Int) (n:Nat):(exitsV l s n).length≤n:=by
 unfold exitsV;exact Nat.le_trans (List.length_filter_le _ _) (by simp)
theorem from_le {l:Lay} {s:Int} {B:Nat} (h:∀x:Int,(allV l s x []).length≤B):∀n,(fromV l s n).length≤n*B
 |0=>by simp[fromV]
 |n+1=>by
  have h1:=from_le h n;have h2:=h n;show(fromV l s n++(allV l s n []).map _).length≤_;rw[List.length_append,List.length_map,Nat.add_mul,Nat.one_mul];omega
structure Good (l:Lay) (s x:Int) (w:List Stp):Prop where
 most:w.length≤12
 goes:goesL l (Zq l s) w=true
 once:Once w
 apart:∀a ∈ w,∀b ∈ overL10 l x,b.1≠a.1
 pass:passV l w=false
theorem good_nil (l:Lay) (s x:Int):Good l s x []:=⟨by simp,rfl,fun i j a b _ hi _=>by simp at hi,fun a ha=>(by cases ha),rfl⟩
def prV (l:Lay) (s x:Int) (w:List Stp):Bool:=isPathV l (mkP s x w)
theorem pr_is {l:Lay} {s x:Int} {w:List Stp} (h:prV l s x w=true):PathIs l s x w:=(path_is.1 h).1
theorem pr_no {l:Lay} {s x:Int} {w:List Stp} (h:¬prV l s x w=true):prV l s x w=false:=by simpa using h
theorem good_lead {l:Lay} {s x:Int} {w:List Stp} (h:Good l s x w) (hs:(l.sigs[s.toNat]?).isSome) (hw:w≠[]) (he:endV l (mkP s x w)=true):prV l s x w=true:=
 path_is.2 ⟨⟨hw,h.most,h.goes,h.once,he,h.apart,h.pass⟩,hs⟩
def entV (l:Lay) (x:Int) (w:List Stp) (q:Int×Int):Bool:=!(decide (w.length=12)||((decide (0<w.length)&&decide (0≤signalV l q.1 q.2))||(usedS w q.1||usedS (overL10 l x) q.1)))
def nextsV (l:Lay) (x:Int) (w:List Stp) (q:Int×Int):List Stp:=if entV l x w q=true then onN l q else []
theorem ent_iff {l:Lay} {x:Int} {w:List Stp} {q:Int×Int}:entV l x w q=true↔w.length≠12∧¬(0<w.length∧0≤signalV l q.1 q.2)∧usedS w q.1=false∧usedS (overL10 l x) q.1=false:=by
 unfold entV;rw[Bool.not_eq_true',Bool.or_eq_false_iff,Bool.or_eq_false_iff,Bool.or_eq_false_iff,decide_eq_false_iff_not,←Bool.decide_and,decide_eq_false_iff_not]
theorem nexts_more {l:Lay} {x:Int} {w:List Stp} {q:Int×Int} (h:entV l x w q=true):moreV l w q=nextsV l x w q:=by
 unfold nextsV moreV;rw[if_pos h,List.filter_eq_self];intro y hy;have e:y.1=q.1:=congrArg Prod.fst (mem_on.1 hy).1;rw[e,(ent_iff.1 h).2.2.1];rfl
theorem usedS_no {u:List Stp} {s:Int} (h:usedS u s=false):∀a ∈ u,a.1≠s:=fun a ha e=>by
 rw[used_iff.2 ⟨a,ha,e⟩] at h;cases h
theorem nexts_good {l:Lay} {s x:Int} {w:List Stp} (h:Good l s x w) {y:Stp} (hy:y ∈ nextsV l x w (endL l (Zq l s) w)):Good l s x (w++[y]):=by
 unfold nextsV at hy;split at hy
 · rename_i hm
   obtain⟨h1,h2,h3,h4⟩:=ent_iff.1 hm;obtain⟨e,hs⟩:=mem_on.1 hy;have e1:y.1=(endL l (Zq l s) w).1:=congrArg Prod.fst e;have e2:y.2.1=(endL l (Zq l s) w).2:=congrArg Prod.snd e;have hl:=h.most;refine⟨by simp;omega,goes_snoc.2 ⟨h.goes,e,hs⟩,once_snoc.2 ⟨h.once,by rw[e1];exact h3⟩,fun a ha b hb=>?_,?_⟩
   · rcases List.mem_append.1 ha with ha|ha
     · exact h.apart a ha b hb
     · obtain rfl:a=y:=by simpa using ha
       rw[e1];exact usedS_no h4 b hb
   · have hp:=h.pass;cases w with
     |nil=>rfl
     |cons a r=>
      unfold passV at hp ⊢;simp only[List.drop_succ_cons,List.drop_zero,Ll,List.any_append,List.any_cons,List.any_nil,Bool.or_false,Bool.or_eq_false_iff] at hp ⊢;refine⟨hp,?_⟩;unfold sigAt;rw[e1,e2,decide_eq_false_iff_not];intro hh;exact h2 ⟨by simp,hh⟩
 · cases hy
def DeadP (l:Lay) (s x:Int) (w:List Stp):Prop:=∀t,t≠[]→prV l s x (w++t)=false
theorem deadP_lead {l:Lay} {s x:Int} {w:List Stp} (hw:w≠[]) (he:endV l (mkP s x w)=true):DeadP l s x w:=fun t ht=>pr_no fun h=>by
 have h1:=pr_is h;have h2:=h1.ends;rw[end_more hw ht he h1.once] at h2;cases h2
theorem deadP_may {l:Lay} {s x:Int} {w:List Stp} (h:entV l x w (endL l (Zq l s) w)=false):DeadP l s x w:=fun t ht=>pr_no fun hp=>by
 have h1:=pr_is hp;obtain⟨y,r,rfl⟩:∃y r,t=y::r:=by cases t with
  |nil=>exact absurd rfl ht
  |cons y r=>exact⟨y,r,rfl⟩
 have hg:=h1.goes;rw[goes_append,Bool.and_eq_true] at hg;obtain⟨e,_,_⟩:=goesL_cons.1 hg.2;have e1:y.1=(endL l (Zq l s) w).1:=congrArg Prod.fst e;have e2:y.2.1=(endL l (Zq l s) w).2:=congrArg Prod.snd e;have hm:entV l x w (endL l (Zq l s) w)=true:=ent_iff.2 ⟨fun hl=>?_,fun hl=>?_,?_,?_⟩
 · rw[h] at hm;cases hm
 · have :=h1.most;rw[List.length_append,List.length_cons] at this;omega
 · have hpv:=h1.pass;cases w with
   |nil=>exact absurd hl.1 (by simp)
   |cons a u=>
    unfold passV at hpv;simp only[Ll,List.drop_succ_cons,List.drop_zero,List.any_append,List.any_cons,Bool.or_eq_false_iff] at hpv;have :=hpv.2.1;unfold sigAt at this;rw[e1,e2,decide_eq_false_iff_not] at this;exact this hl.2
 · cases hu:usedS w (endL l (Zq l s) w).1 with
   |false=>rfl
   |true=>
    obtain⟨a,ha,he⟩:=used_iff.1 hu;obtain⟨i,hi⟩:=List.getElem?_of_mem ha;have hil:=(List.getElem?_eq_some_iff.1 hi).1;exact absurd (he.trans e1.symm) (h1.once i w.length y a hil (by rw[List.getElem?_append_left hil];exact hi) (by rw[List.getElem?_append_right (Nat.le_refl _),Nat.sub_self];rfl))
 · cases hu:usedS (overL10 l x) (endL l (Zq l s) w).1 with
   |false=>rfl
   |true=>
    obtain⟨b,hb,he⟩:=used_iff.1 hu;exact absurd (he.trans e1.symm) (h1.apart y (List.mem_append_right _ (by simp)) b hb)
theorem descP_dead {l:Lay} {s x:Int} {q:Int×Int} {w:List Stp} (h:DeadP l s x w):(descV l q w).filter (prV l s x)=if prV l s x w=true then [w] else []:=by
 unfold descV;have hr:(restV l (12 - w.length) w (endL l q w)).filter (prV l s x)=[]:=filter_none fun v hv=>by
  obtain⟨t,rfl,ht⟩:=rest_longer hv;exact h t ht
 rw[List.filter_cons,hr]
theorem descP_next {l:Lay} {s x:Int} {w:List Stp} (h:Good l s x w) (hn:prV l s x w=false):
 (descV l (Zq l s) w).filter (prV l s x)=(((nextsV l x w (endL l (Zq l s) w)).map (fun y=>w++[y])).flatMap (descV l (Zq l s))).filter (prV l s x):=by
 cases hm:entV l x w (endL l (Zq l s) w) with
 |true=>
  have hl:=(ent_iff.1 hm).1;have :=h.most;rw[desc_more (by omega),List.filter_cons,hn,←nexts_more hm,List.flatMap_map];simp
 |false=>
  rw[descP_dead (deadP_may hm),hn];unfold nextsV;rw[hm];simp
def DfsP (l:Lay) (s x:Int) (out pend:List (List Stp)):Prop:=(out++(pend.flatMap (descV l (Zq l s))).filter (prV l s x)).Perm ((walksV l (Zq l s)).filter (prV l s x))
theorem dfsP_zero (l:Lay) (s x:Int):DfsP l s x [] [[]]:=by
 unfold DfsP;rw[List.nil_append,List.flatMap_cons,List.flatMap_nil,List.append_nil];have h0:prV l s x []=false:=pr_no fun h=>(pr_is h).one rfl;show(([]::walksV l (Zq l s)).filter _).Perm _;rw[List.filter_cons,h0];exact List.Perm.refl _
theorem dfsP_lead {l:Lay} {s x:Int} {out pend:List (List Stp)} {w:List Stp} (h:DfsP l s x out (pend++[w])) (hg:Good l s x w) (hs:(l.sigs[s.toNat]?).isSome) (hw:w≠[]) (he:endV l (mkP s x w)=true):DfsP l s x (out++[w]) pend:=by
 unfold DfsP at *;rw[List.flatMap_append,List.filter_append,List.flatMap_cons,List.flatMap_nil,List.append_nil,descP_dead (deadP_lead hw he),if_pos (good_lead hg hs hw he)] at h;refine List.Perm.trans ?_ h;rw[List.append_assoc];exact List.Perm.append_left out List.perm_append_comm
theorem dfsP_next {l:Lay} {s x:Int} {out pend:List (List Stp)} {w:List Stp} (h:DfsP l s x out (pend++[w])) (hg:Good l s x w) (hn:w=[]∨endV l (mkP s x w)=false):DfsP l s x out (pend++(nextsV l x w (endL l (Zq l s) w)).map (fun y=>w++[y])):=by
 have hp:prV l s x w=false:=pr_no fun hp=>by
  rcases hn with rfl|hn
  · exact(pr_is hp).one rfl
  · have :=(pr_is hp).ends;rw[hn] at this;cases this
 unfold DfsP at *;rw[List.flatMap_append,List.filter_append,List.flatMap_cons,List.flatMap_nil,List.append_nil,descP_next hg hp] at h;rw[List.flatMap_append,List.filter_append];exact h
theorem dfsP_len {l:Lay} {s x:Int} {out pend:List (List Stp)} (h:DfsP l s x out pend):out.length≤(walksV l (Zq l s)).length:=by
 have h1:=h.length_eq;have h2:=List.length_filter_le (prV l s x) (walksV l (Zq l s));rw[List.length_append] at h1;omega
theorem todo_next {l:Lay} {s x:Int} {pend:List (List Stp)} {w:List Stp} (hg:w.length≤12):todoN l (Zq l s) (pend++(nextsV l x w (endL l (Zq l s) w)).map (fun y=>w++[y]))+1≤todoN l (Zq l s) (pend++[w]):=by
 cases hm:entV l x w (endL l (Zq l s) w) with
 |true=>
  have hl:=(ent_iff.1 hm).1;rw[←nexts_more hm,todo_goes (by omega)];exact Nat.le_refl _
 |false=>
  unfold nextsV;rw[hm];simp only[Bool.false_eq_true,if_false,List.map_nil,List.append_nil];exact todo_cut
theorem serve_pr {l:Lay} {s x:Int} {vs:List Int} (ha:askV l s x vs=true) (w:List Stp):serveV l s x vs w=(prV l s x w&&(Zs (secsS w) vs&& !clashN (ofV l (mkP s x w)))):=by
 rw[Bool.eq_iff_iff,serve_parts,Bool.and_eq_true,Bool.and_eq_true,Bool.not_eq_true'];have hs:(l.sigs[s.toNat]?).isSome:=by
  unfold askV at ha;simp only[Bool.and_eq_true] at ha;exact known_sig ha.2.1
 constructor
 · rintro⟨_,h2,h3,h4⟩;exact⟨path_is.2 ⟨h2,hs⟩,h3,h4⟩
 · rintro⟨h2,h3,h4⟩;exact⟨ha,pr_is h2,h3,h4⟩
theorem dfsP_all {l:Lay} {s x:Int} {vs:List Int} {out us:List (List Stp)} (ha:askV l s x vs=true) (h:DfsP l s x out []) (hp:us.Perm (out.filter fun w=>Zs (secsS w) vs&& !clashN (ofV l (mkP s x w)))) (ho:us.Pairwise (fun u v=>leR l u v=true)):us=allV l s x vs:=by
 unfold DfsP at h;rw[List.flatMap_nil,List.filter_nil,List.append_nil] at h;have h2:=h.filter fun w=>Zs (secsS w) vs&& !clashN (ofV l (mkP s x w));rw[List.filter_filter] at h2;have e:(walksV l (Zq l s)).filter (serveV l s x vs)=(walksV l (Zq l s)).filter (fun w=>(Zs (secsS w) vs&& !clashN (ofV l (mkP s x w)))&&prV l s x w):=by
  congr 1
  funext w
  rw[serve_pr ha,Bool.and_comm]
 rw[←e] at h2;exact sort_is (q:=Zq l s) (hp.trans h2) (fun w hw=>(mem_walks.1 (List.mem_filter.1 hw).1).2.2.1) ho
theorem dfsP_path {l:Lay} {s x:Int} {out pend:List (List Stp)} (h:DfsP l s x out pend):∀w ∈ out,PathIs l s x w:=fun w hw=>by
 have :=h.mem_iff.1 (List.mem_append_left _ hw);exact pr_is (List.mem_filter.1 this).2
end
section
open Go.RowKit
section
variable {α:Type} {P:Program}
def IterG (P:Program) (g:Nat) (lb:Array Value) (enc:α→Array Value) (Ok:List α→α→Prop) (Lie:α→World→Prop) (T:α→Nat→Prop) (End:List α→Prop) (R:Nat→Prop) (w0:World):Prop:=
 ∀(l:Nat) (J:(Nat→Prop)→List α→World→Prop) (Jx:(Nat→Prop)→World→Prop) (W:World),Keeps R w0 W→(∀k,R k→k<W.heap.size)→Safe W.heap.size J→Safe W.heap.size (fun U (_:Unit)=>Jx U) →
  (∀(U:Nat→Prop) (hs:List α) (x:α) (W1:World),Ok hs x→Lie x W1→J U hs W1→(∀k,U k→k<W1.heap.size)→(∀k,T x k→W.heap.size≤k∧¬U k∧k<W1.heap.size)→YieldAt Fence.wide 3 P l (enc x) W1 fun e W'=>
   ∃U',Grew (fun k=>U k∨T x k) U' W1 W'∧Kept R W.heap.size (fun k=>U k∨T x k) W1 W'∧((e= .returned (.bool true)∧J U' (hs++[x]) W')∨(e= .returned (.bool false)∧Jx U' W'))) →
  J (fun _=>False) [] W→Calls P g (#[.func (.yield l) #[] #[]]++lb) W fun e W'=>(∃v,e= .returned v)∧∃U,(∀k,U k→k<W'.heap.size)∧((∃hs,End hs∧J U hs W')∨Jx U W')
def iterPostG (R:Nat→Prop) (B:Nat) (I:(Nat→Prop)→World→Prop) (Ix:Code→(Nat→Prop)→World→Prop) (U:Nat→Prop) (W:World):Exit→Act→World→Prop
 | .normal,_,W'=>∃U',Grew U U' W W'∧Kept R B U W W'∧I U' W'
 | .ret,_,W'=>∃U',Grew U U' W W'∧Kept R B U W W'∧Ix .ret U' W'
 | .exit id,_,W'=>∃U',Grew U U' W W'∧Kept R B U W W'∧Ix (.exit id) U' W'
 | .goto t,_,W'=>∃U',Grew U U' W W'∧Kept R B U W W'∧Ix (.goto t) U' W'
 | .panic _,_,_=>False
 | .outgrown,_,_=>False
theorem range_iterG {g:Operand} {ps:Array Tmp} {assign body:Code} {Q:Exit→Act→World→Prop} {a:Act} {w w0:World} {n gf:Nat} {lb:Array Value} {enc:α→Array Value} {Ok:List α→α→Prop} {Lie:α→World→Prop} {T:α→Nat→Prop} {End:List α→Prop} {R:Nat→Prop}
 (hg:a.eval g= .func (.func gf) #[] lb) (eg:∀args w,(callFunc gf args).run P w= .ok (.enter gf args) w) (hit:IterG P gf lb enc Ok Lie T End R w0) (hw0:Keeps R w0 w) (hRl:∀k,R k→k<w.heap.size) (hps:∀x,(enc x).size=ps.size) (h1:1≤n)
 (I:(Nat→Prop)→List α→World→Prop) (Ix:Code→(Nat→Prop)→World→Prop) (hI:Safe w.heap.size I) (hIx:∀c,Safe w.heap.size (fun U (_:Unit)=>Ix c U)) (h0:I (fun _=>False) [] w)
 (Ax:(Nat→Prop)→List α→α→Act→World→Prop) (hAx:∀j x a',Safe w.heap.size (fun U (_:Unit) W=>Ax U j x a' W))
 (hassign:∀(l:Nat) (U:Nat→Prop) (j:List α) (x:α) (W:World) (K:Act→World→Prop),Ok j x→Lie x W→I U j W→w.heap.size+2≤W.heap.size→(∀k,U k→k<W.heap.size)→(∀k,T x k→w.heap.size+2≤k∧¬U k∧k<W.heap.size)→(∀a' W' U',Grew (fun k=>U k∨T x k) U' W W'→Kept R w.heap.size (fun k=>U k∨T x k) W W'→Ax U' j x a' W'→K a' W') →
  assign.wpIn (Fence.wide.inRound l) 3 P (Exit.then K (fun _ _ _=>False)) {tmps:=(ps.zip (enc x)).foldl (fun t (p,v)=>t.setIfInBounds p v) a.tmps,defers:=[]} W)
 (hbody:∀(l:Nat) (U:Nat→Prop) (j:List α) (x:α) (a':Act) (W:World),w.heap.size≤l→Ok j x→Ax U j x a' W→(∀k,U k→k<W.heap.size)→body.wpIn (Fence.wide.inRound l) 3 P (iterPostG R w.heap.size (fun V=>I V (j++[x])) Ix U W) a' W)
 (hdone:∀(D:Nat) (U:Nat→Prop) (hs:List α) (W:World),w.heap.size≤D→¬U D→End hs→I U hs W→W.heap[D]? =some (.deferred (some []))→Q .normal {a with defers:={target:=.collected D,args:=#[]}::a.defers} W)
 (hstop:∀(D:Nat) (c:Code) (U:Nat→Prop) (W:World),w.heap.size≤D→¬U D→Ix c U W→W.heap[D]? =some (.deferred (some []))→c.wpIn Fence.wide n P Q {a with defers:={target:=.collected D,args:=#[]}::a.defers} W):
 (Code.rangeFunc g ps assign body).wpIn Fence.wide n P Q a w:=by
 refine wpIn_rangeFunc fun fn hfn=>?_
 obtain⟨B,hB⟩:∃B,w.heap.size=B:=⟨_,rfl⟩
 obtain⟨rec,hrec⟩:∃rec:LoopState→Option Code→Obj,∀st pe,rec st pe= .loop {state:=st,pending:=pe,fn:=fn,tmps:=a.tmps,params:=ps,assign:=assign,body:=body,defers:=B}:=⟨_,fun _ _=>rfl⟩
 obtain⟨Own2,hOwn2⟩:∃Own2:LoopState→Option Code→World→Prop,∀st pe W,Own2 st pe W↔(W.heap[B+1]? =some (rec st pe)∧W.heap[B]? =some (.deferred (some []))):=⟨_,fun _ _ _=>Iff.rfl⟩
 have hturn:∀ {st pe W} (st':LoopState) (pe':Option Code),Own2 st pe W→Own2 st' pe' (W.putObj (B+1) (rec st' pe')):=fun {st pe W} st' pe' h=>by
  rw[hOwn2] at h ⊢;exact⟨World.putObj_heap_same (Array.getElem?_eq_some_iff.1 h.1).1,(World.putObj_heap_other (by omega)).trans h.2⟩
 have hlt2:∀ {st pe W},Own2 st pe W→B+1<W.heap.size:=fun {st pe W} h=>(Array.getElem?_eq_some_iff.1 ((hOwn2 _ _ _).1 h).1).1
 have hkeep:∀ {st pe W W'} {U:Nat→Prop},Own2 st pe W→Kept R B U W W'→¬U B→¬U (B+1)→Own2 st pe W':=fun {st pe W W' U} h ho u0 u1=>by
  rw[hOwn2] at h ⊢;exact⟨ho.rest _ _ h.1 (.inr ⟨by omega,u1⟩),ho.rest _ _ h.2 (.inr ⟨by omega,u0⟩)⟩
 rw[hB] at hI hIx hAx hassign hbody hRl hdone hstop
 have hput:∀ {β:Type} {J:(Nat→Prop)→β→World→Prop} {U:Nat→Prop} {s:β} {W:World} (o:Obj),Safe B J→J U s W→¬U (B+1)→J U s (W.putObj (B+1) o):=fun {β J U s W} o hs hj hu=>hs _ _ _ _ hj (Stays.put _ _ (by omega) hu)
 obtain⟨W1,hW1⟩:∃W1,(w.alloc (.deferred (some []))).alloc (rec .ready none)=W1:=⟨_,rfl⟩
 have hs1:W1.heap.size=B+2:=by rw[←hW1];simp;omega
 have hO1:Own2 .ready none W1:=by
  rw[hOwn2,←hW1];refine⟨?_,(Below.heap_alloc _ _ _ (by simp;omega)).trans (by rw[←hB];exact World.alloc_heap_new w _)⟩;have :=World.alloc_heap_new (w.alloc (.deferred (some []))) (rec .ready none);rw[World.size_alloc,hB] at this;exact this
 have hB1:Below w.heap.size w W1:=by rw[←hW1];exact below2 w _ _
 have hI1:I (fun _=>False) [] W1:=hI _ _ _ _ h0 (Stays.below hB1)
 have hc1:Keeps R w0 W1:=hw0.trans (Keeps.below hB1)
 refine⟨B+1,[{target:=.collected B,args:=#[]}],W1,{target:=.fn (.func gf) lb,args:=#[.func (.yield (B+1)) #[] #[]]},W1,gf,#[.func (.yield (B+1)) #[] #[]]++lb,W1,?_,?_,fun _ _=>trivial,?_,fun _=>h1,callsIn_wide.2 ?_⟩
 · rw[←hW1,hrec,←hB];exact run_enterLoop_outer _ _ _ _ _
 · simp only[resolve,hg];simp[go_sem]
 · simp[invoke,go_sem,eg]
 · refine(hit (B+1) (fun U j W=>I U j W∧(Own2 .ready none W∧(¬U B∧¬U (B+1)))) (fun U W=>∃c,Ix c U W∧(Own2 .done (some c) W∧(¬U B∧¬U (B+1)))) W1 hc1 (fun k hk=>by have :=hRl k hk;omega)
    (by
     rw[hs1];rintro U j W W' ⟨h1,h2,h3⟩ ht;refine⟨hI _ _ _ _ h1 (ht.mono (by omega)),?_,h3⟩;rw[hOwn2] at h2 ⊢;exact⟨ht.rest _ _ h2.1 (.inl (by omega)),ht.rest _ _ h2.2 (.inl (by omega))⟩)
    (by
     rw[hs1];rintro U j W W' ⟨c,h1,h2,h3⟩ ht;refine⟨c,hIx c _ () _ _ h1 (ht.mono (by omega)),?_,h3⟩;rw[hOwn2] at h2 ⊢;exact⟨ht.rest _ _ h2.1 (.inl (by omega)),ht.rest _ _ h2.2 (.inl (by omega))⟩) ?_ ⟨hI1,hO1,fun h=>h,fun h=>h⟩).mono ?_
   · rintro U j x W hx hlie ⟨hi,ho,u0',u1'⟩ hu hT;rw[hs1] at hT;have u0:¬(U B∨T x B):=fun h=>h.elim u0' fun h=>by have :=(hT _ h).1;omega
     have u1:¬(U (B+1)∨T x (B+1)):=fun h=>h.elim u1' fun h=>by have :=(hT _ h).1;omega
     have hU:∀k,(U k∨T x k)→k<W.heap.size:=fun k h=>h.elim (hu k) fun h=>(hT k h).2.2;clear u0' u1';have hy:=run_yield (P:=P) (args:=enc x) (((hOwn2 _ _ _).1 ho).1.trans (by rw[hrec])) (hps x);refine⟨fn,_,assign,body,hy,roundIn_of_wpIn hfn (hassign _ U j x W _ hx hlie hi (by have :=hlt2 ho;omega) hu hT ?_)⟩;clear hy;intro a' Wa U1 g1 k1 hax;have lt1:=hlt2 ho;have u0':¬U1 B:=fun h=>(g1.new _ h).elim u0 fun h=>by omega
     have u1':¬U1 (B+1):=fun h=>(g1.new _ h).elim u1 fun h=>by omega
     have ho:=hkeep ho k1 u0 u1;refine⟨_,run_beginRound (((hOwn2 _ _ _).1 ho).1.trans (by rw[hrec])) rfl,?_⟩;have e2:(Obj.loop {state:=.busy,pending:=none,fn:=fn,tmps:=a.tmps,params:=ps,assign:=assign,body:=body,defers:=B})=rec .busy none:=(hrec _ _).symm;simp only;rw[e2];have ho2:=hturn .busy none ho;have hsz2:(Wa.putObj (B+1) (rec .busy none)).heap.size=Wa.heap.size:=(by simp[World.putObj]);refine wpIn_mono (hbody (B+1) U1 j x a' _ (by omega) hx (hput (β:=Unit) (s:=()) _ (hAx j x a') hax u1') (fun k hk=>by rw[hsz2];exact g1.lt k hk)) ?_;have hend:∀(jump:Option Code) (W3:World),Own2 .busy none W3→(Instr.endRound (B+1) jump).run P W3= .ok (.bool jump.isNone) (W3.putObj (B+1) (rec (if jump.isNone then .ready else .done) jump)):=fun jump W3 h3=>by
      have :=run_endRound (P:=P) jump (((hOwn2 _ _ _).1 h3).1.trans (by rw[hrec]));rw[hrec];exact this
     have hall:∀ {W3:World} {U2:Nat→Prop} (o:Obj),Grew U1 U2 (Wa.putObj (B+1) (rec .busy none)) W3→Kept R B U1 (Wa.putObj (B+1) (rec .busy none)) W3 →
      ¬U2 B∧¬U2 (B+1)∧Own2 .busy none W3∧Grew (fun k=>U k∨T x k) U2 W (W3.putObj (B+1) o)∧Kept R W1.heap.size (fun k=>U k∨T x k) W (W3.putObj (B+1) o):=fun {W3 U2} o g2 k2=>by
      have hw2:=hlt2 ho2
      have v0:¬U2 B:=fun h=>(g2.new _ h).elim u0' fun h=>by omega
      have v1:¬U2 (B+1):=fun h=>(g2.new _ h).elim u1' fun h=>by omega
      refine⟨v0,v1,hkeep ho2 k2 u0' u1',⟨fun k hk=>?_,fun k hk=>?_⟩,?_,?_⟩
      · rcases g2.new k hk with h|h
        · exact g1.new k h
        · right;have :=k1.size;omega
      · rw[show(W3.putObj (B+1) o).heap.size=W3.heap.size by simp[World.putObj]];exact g2.lt k hk
      · rw[show(W3.putObj (B+1) o).heap.size=W3.heap.size by simp[World.putObj]];exact Nat.le_trans k1.size (by have :=k2.size;omega)
      · intro k o' hk hr;rw[hs1] at hr;have hlt:=(Array.getElem?_eq_some_iff.1 hk).1;have hne:k≠B+1:=fun e=>by subst e;rcases hr with hr|hr;(have :=hRl _ hr;omega);(have :=hr.1;omega)
        have hr':R k∨(B≤k∧¬(U k∨T x k)):=hr.imp id fun h=>⟨by omega,h.2⟩;have h1:=k1.rest k o' hk hr';have h2:(Wa.putObj (B+1) (rec .busy none)).heap[k]? =some o':=(World.putObj_heap_other hne).trans h1;have h3:=k2.rest k o' h2 (hr'.imp id fun h=>⟨h.1,fun hu1=>(g1.new k hu1).elim h.2 fun h=>by omega⟩);exact(World.putObj_heap_other hne).trans h3
     rintro e a3 W3 hp;cases e with
     |normal=>
      obtain⟨U2,g2,k2,hi3⟩:=hp;obtain⟨v0,v1,ho3,hg,hk⟩:=hall (rec .ready none) g2 k2;exact⟨_,_,hend none W3 ho3,U2,hg,hk,.inl ⟨rfl,hput _ hI hi3 v1,hturn .ready none ho3,v0,v1⟩⟩
     |ret=>
      obtain⟨U2,g2,k2,hi3⟩:=hp;obtain⟨v0,v1,ho3,hg,hk⟩:=hall (rec .done (some .ret)) g2 k2;exact⟨_,_,hend (some .ret) W3 ho3,U2,hg,hk,.inr ⟨rfl,.ret,hput (β:=Unit) (s:=()) _ (hIx .ret) hi3 v1,hturn .done (some .ret) ho3,v0,v1⟩⟩
     |exit id=>
      obtain⟨U2,g2,k2,hi3⟩:=hp;obtain⟨v0,v1,ho3,hg,hk⟩:=hall (rec .done (some (.exit id))) g2 k2;exact⟨_,_,hend (some (.exit id)) W3 ho3,U2,hg,hk,.inr ⟨rfl,.exit id,hput (β:=Unit) (s:=()) _ (hIx (.exit id)) hi3 v1,hturn .done (some (.exit id)) ho3,v0,v1⟩⟩
     |goto t=>
      obtain⟨U2,g2,k2,hi3⟩:=hp;obtain⟨v0,v1,ho3,hg,hk⟩:=hall (rec .done (some (.goto t))) g2 k2;exact⟨_,_,hend (some (.goto t)) W3 ho3,U2,hg,hk,.inr ⟨rfl,.goto t,hput (β:=Unit) (s:=()) _ (hIx (.goto t)) hi3 v1,hturn .done (some (.goto t)) ho3,v0,v1⟩⟩
     |panic ch=>exact hp.elim
     |outgrown=>exact hp.elim
   · rintro e W2 ⟨⟨v,rfl⟩,U,hu,h2⟩;have hlast:∀ {st pe W},Own2 st pe W→st≠ .busy→(Instr.endLoop (B+1)).run P W= .ok pe (W.putObj (B+1) (rec .exhausted pe))∧(W.putObj (B+1) (rec .exhausted pe)).heap[B]? =some (.deferred (some [])):=fun {st pe W} h hb=>by
      have :=run_endLoop (P:=P) (((hOwn2 _ _ _).1 h).1.trans (by rw[hrec])) hb;rw[hrec];exact⟨this,(World.putObj_heap_other (by omega)).trans ((hOwn2 _ _ _).1 h).2⟩
     rcases h2 with ⟨hs,he,hi,ho,u0,u1⟩|⟨c,hi,ho,u0,u1⟩
     · obtain⟨h3,h4⟩:=hlast ho (by simp);exact⟨none,_,h3,hdone B U hs _ (by omega) u0 he (hput _ hI hi u1) h4⟩
     · obtain⟨h3,h4⟩:=hlast ho (by simp);exact⟨some c,_,h3,hstop B c U _ (by omega) u0 (hput (β:=Unit) (s:=()) _ (hIx c) hi u1) h4⟩
end
section
variable {P:Program} {ops:Array Oper} {md:Region.Mode} {F:(World→Prop)→Prop}
def markAll:List (Nat×Bool)→Array Bool→Array Bool
 |[],listed=>listed
 |(k,_)::is,listed=>markAll is (listed.setIfInBounds k true)
def lexMixK (md:Region.Mode) (ops:Array Oper):List (Nat×Bool)→Array Bool→Bool
 |[],_=>true
 |(k,b)::is,listed=>decide (k<ops.size)&&(if b then decide (Region.ready md ops listed=[k]) else (Region.ready md ops listed).contains k&&Region.free md ops listed k)&&lexMixK md ops is (listed.setIfInBounds k true)
theorem mixAll_lexK {L:(World→Prop)→Act→Prop} {f:Nat} (hsel:Region.noSelect ops=true):
 ∀(is:List (Nat×Bool)) (listed:Array Bool) (S:World→Prop) (a:Act),F S→lexMixK md ops is listed=true→wpMix P ops F (mixAll P md ops F L f (markAll is listed)) (Zg ops.toList is) S a→mixAll P md ops F L (is.length+f) listed S a
 |[],listed,S,a,_,hB,h=>by rw[List.length_nil,Nat.zero_add];exact h
 |(k,b)::is,listed,S,a,hF,hB,h=>by
  simp only[lexMixK,Bool.and_eq_true,decide_eq_true_eq] at hB;obtain⟨⟨hk,hB1⟩,hB2⟩:=hB;have h0:ops[k]? =some (ops[k]'hk):=Array.getElem?_eq_getElem hk;generalize ops[k]'hk=o at h0;have h0':ops.toList[k]? =some o:=by simpa using h0
  simp only[Zg,h0'] at h;rw[show((k,b)::is).length+f=(is.length+f)+1 by simp;omega];cases b with
  |false=>
   simp only[Bool.false_eq_true,if_false,Bool.and_eq_true] at hB1;obtain⟨v,hy,hK⟩:=h;exact mixAll_first h0 (Region.noSelect_spec hsel) (is.length+f) listed S a hF (Region.free_spec h0 hB1.2) (by simpa using hB1.1) hy (mixAll_lexK hsel is _ S _ hF hB2 hK)
  |true=>
   simp only[if_true,decide_eq_true_eq] at hB1;refine⟨fun h=>(by rw[h] at hB1;cases hB1),fun j hj=>?_⟩;rw[hB1] at hj;obtain rfl:j=k:=by simpa using hj
   unfold mixOp;simp only[h0];exact .inr (TurnAt.mono (fun S' a' hF' hk'=>mixAll_lexK hsel is _ S' a' hF' hB2 hk') h)
end
section
variable {P:Program} {ops:Array Oper} {md:Region.Mode} {F:(World→Prop)→Prop}
inductive OTree where
 |last (is:List (Nat×Bool)):OTree
 |fork (is:List (Nat×Bool)) (i j:Nat) (ti tj:OTree):OTree
def OTree.steps:OTree→Nat
 | .last is=>is.length
 | .fork is _ _ ti _=>is.length+(ti.steps+1)
def treeB (md:Region.Mode) (ops:Array Oper):OTree→Array Bool→Bool
 | .last is,listed=>lexMix md ops is listed
 | .fork is i j ti tj,listed=>lexMixK md ops is listed&&(decide (Region.ready md ops (markAll is listed)=[i,j])&&(decide (i<ops.size)&&(decide (j<ops.size)&&(decide (ti.steps=tj.steps) &&
  (treeB md ops ti ((markAll is listed).setIfInBounds i true)&&treeB md ops tj ((markAll is listed).setIfInBounds j true))))))
def wpTree (P:Program) (ops:Array Oper) (F:(World→Prop)→Prop) (L:(World→Prop)→Act→Prop):OTree→(World→Prop)→Act→Prop
 | .last is,S,a=>wpMix P ops F L (Zg ops.toList is) S a
 | .fork is i j ti tj,S,a=>wpMix P ops F (fun S a=>F S→wpMix P ops F (wpTree P ops F L ti) (Zg ops.toList [(i,true)]) S a∧wpMix P ops F (wpTree P ops F L tj) (Zg ops.toList [(j,true)]) S a) (Zg ops.toList is) S a
theorem wpMix_mono {L L':(World→Prop)→Act→Prop} (hL:∀S a,F S→L S a→L' S a):∀(os:List (Oper×Bool)) (S:World→Prop) (a:Act),F S→wpMix P ops F L os S a→wpMix P ops F L' os S a
 |[],S,a,hF,h=>hL S a hF h
 |(o,false)::os,S,a,hF,h=>by
  obtain⟨v,hy,hK⟩:=h;exact⟨v,hy,wpMix_mono hL os _ _ hF hK⟩
 |(o,true)::os,S,a,hF,h=>TurnAt.mono (fun S' a' hF' hk'=>wpMix_mono hL os _ _ hF' hk') h
theorem mixAll_tree {L:(World→Prop)→Act→Prop} (hsel:Region.noSelect ops=true):∀(t:OTree) (listed:Array Bool) (S:World→Prop) (a:Act),F S→treeB md ops t listed=true→wpTree P ops F L t S a→mixAll P md ops F L t.steps listed S a
 | .last is,listed,S,a,hF,hB,h=>mixAll_lex hsel is listed S a hF hB h
 | .fork is i j ti tj,listed,S,a,hF,hB,h=>by
  simp only[treeB,Bool.and_eq_true,decide_eq_true_eq] at hB;obtain⟨hlex,hready,hi,hj,hst,hti,htj⟩:=hB;refine mixAll_lexK hsel is listed S a hF hlex (wpMix_mono (fun S a hF hh=>?_) _ S a hF h);obtain⟨h1,h2⟩:=hh hF;have hi0:ops[i]? =some (ops[i]'hi):=Array.getElem?_eq_getElem hi;have hj0:ops[j]? =some (ops[j]'hj):=Array.getElem?_eq_getElem hj;refine⟨fun h0=>(by rw[hready] at h0;cases h0),fun k hk=>?_⟩;rw[hready] at hk;simp only[List.mem_cons,List.not_mem_nil,or_false] at hk;rcases hk with rfl|rfl
  · generalize ops[k]'hi=o at hi0;have hi1:ops.toList[k]? =some o:=by simpa using hi0
    simp only[Zg,hi1] at h1;unfold mixOp;simp only[hi0];exact .inr (TurnAt.mono (fun S' a' hF' hk'=>mixAll_tree hsel ti _ S' a' hF' hti hk') h1)
  · generalize ops[k]'hj=o at hj0;have hj1:ops.toList[k]? =some o:=by simpa using hj0
    simp only[Zg,hj1] at h2;unfold mixOp;simp only[hj0];rw[hst];exact .inr (TurnAt.mono (fun S' a' hF' hk'=>mixAll_tree hsel tj _ S' a' hF' htj hk') h2)
def treeOk (ops:Array Oper) (t:OTree):Bool:=Region.noSelect ops&&(decide (t.steps=ops.size)&&treeB .any ops t (Array.replicate ops.size false))
theorem region_tree {id:Nat} {Q:Exit→Act→World→Prop} {a:Act} {w:World} {l:List Oper} (B:World→Prop) (t:OTree) (hm:P.follows .mixedOrders=true) (hB:treeOk l.toArray t=true)
 (S:World→Prop) (hF:Fam B S) (hS:S w.drew)
 (h:wpTree P l.toArray (Fam B) (fun S' a'=>∀w',S' w'→Q .normal a' w') t S a):(Code.region id l.toArray true).wp P Q a w:=by
 unfold treeOk at hB
 simp only[Bool.and_eq_true,decide_eq_true_eq] at hB
 obtain⟨hsel,hlen,ht⟩:=hB
 refine wp_region_any hm ?_
 have :=any_of_mix (Q:=Q) (fun S' a' hL w' hw=>hL w' hw) t.steps _ S a hF (mixAll_tree (md:=.any) hsel t _ S a hF ht h) w.drew hS
 rw[hlen] at this
 exact this
end
end
end Go.Proofs.YtifnlhfinjfajaaGreatDoor
