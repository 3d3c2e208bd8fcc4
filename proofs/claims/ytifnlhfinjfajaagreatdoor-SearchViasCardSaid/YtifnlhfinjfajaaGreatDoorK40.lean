/- Of this seat: SeaQ_3, SeaR_2, LwE, SearchVias. -/
import Derived.Test.YtifnlhfinjfajaaGreatDoorK23
import Derived.Test.YtifnlhfinjfajaaGreatDoorK37
import Derived.Test.YtifnlhfinjfajaaGreatDoorK38
namespace Go.Proofs.YtifnlhfinjfajaaGreatDoor
set_option linter.unusedVariables false
set_option linter.unusedSimpArgs false
set_option maxRecDepth 100000
set_option maxHeartbeats 32000000
section
open Go.RowKit Go.Shelf
theorem all_nodup (l:Lay) (s x:Int) (vs:List Int):(allV l s x vs).Nodup:=(sort_perm l _).nodup_iff.2 ((walks_nodup l _).filter _)
theorem all_is {l:Lay} {s x:Int} {vs:List Int} {us:List (List Stp)} (hn:us.Nodup) (hm:∀w,w ∈ us↔serveV l s x vs w=true) (ho:us.Pairwise (fun u v=>leR l u v=true)):us=allV l s x vs:=by
 refine sort_is (q:=Zq l s) ?_ (fun w h=>(mem_walks.1 (List.mem_filter.1 h).1).2.2.1) ho;refine(List.perm_ext_iff_of_nodup hn ((walks_nodup l _).filter _)).2 fun w=>?_;rw[hm,List.mem_filter];exact⟨fun h=>⟨serve_walk h,h⟩,fun h=>h.2⟩
theorem all_vias {l:Lay} {s x:Int} {vs:List Int} (h:viasV l vs=true):allV l s x vs=(allV l s x []).filter fun w=>Zs (secsS w) vs:=by
 have h0:viasV l []=true:=by simp[viasV]
 symm
 refine all_is ((all_nodup l s x []).filter _) (fun w=>?_) (((all_less l s x []).filter _).imp fun {a b} h=>by unfold leR;rw[decide_eq_true_iff];omega);rw[List.mem_filter,mem_all,serve_parts,serve_parts];unfold askV;rw[h,h0];constructor
 · rintro⟨⟨h1,h2,_,h4⟩,h5⟩;exact⟨h1,h2,h5,h4⟩
 · rintro⟨h1,h2,h5,h4⟩;exact⟨⟨h1,h2,through_nil _,h4⟩,h5⟩
theorem ask_vias {l:Lay} {s x:Int} {vs:List Int} (h:viasV l vs=true):askV l s x vs=askV l s x []:=by
 unfold askV;rw[h,show viasV l []=true by simp[viasV]]
theorem err_via {l:Lay} {s x:Int} {vs:List Int} (h:viasV l vs=false):errA l s x vs=2∧allV l s x vs=[]:=by
 have h1:askV l s x vs=false:=by unfold askV;rw[h,Bool.and_false,Bool.and_false]
 refine⟨?_,all_asked h1⟩;unfold errA;rw[h1];rfl
theorem err_vias {l:Lay} {s x:Int} {vs:List Int} (h:viasV l vs=true) (h0:errA l s x []≠0):errA l s x vs=errA l s x []∧allV l s x vs=[]:=by
 have h1:allV l s x []=[]:=by
  cases hh:allV l s x [] with
  |nil=>rfl
  |cons a r=>exact absurd (err_ok.2 (by rw[hh];simp)) h0
 have h2:allV l s x vs=[]:=by rw[all_vias h,h1];rfl
 refine⟨?_,h2⟩;unfold errA;rw[ask_vias h,h1,h2]
end
section
open Go.RowKit Go.Shelf
attribute [local go_sem] Oper.semAt_some
theorem filter_at {α:Type} {p:α→Bool} {l:List α} {j:Nat} {x:α} (hx:l[j]? =some x) (hp:p x=true):(l.filter p)[((l.take j).filter p).length]? =some x:=by
 have h1:l=l.take j++x::l.drop (j+1):=by
  have hlt:=(List.getElem?_eq_some_iff.1 hx).1;have h2:=(List.getElem?_eq_some_iff.1 hx).2;rw[←h2,List.getElem_cons_drop,List.take_append_drop]
 have h2:l.filter p=(l.take j).filter p++x::(l.drop (j+1)).filter p:=by
  conv=>lhs;rw[h1]
  rw[List.filter_append,List.filter_cons,if_pos hp]
 rw[h2,List.getElem?_append_right (Nat.le_refl _),Nat.sub_self];rfl
theorem filter_step {α:Type} {p:α→Bool} {l:List α} {j:Nat} {x:α} (hx:l[j]? =some x):((l.take (j+1)).filter p).length=((l.take j).filter p).length+(if p x=true then 1 else 0):=by
 rw[List.take_add_one,hx,Option.toList_some,List.filter_append,List.length_append];by_cases h:p x=true
 · rw[if_pos h,List.filter_cons,if_pos h];rfl
 · rw[if_neg h,List.filter_cons,if_neg h];rfl
theorem searchVias_P {P:World→Prop} {w:World} (hP:Closed P) (hT:∀w,P w→Shapes w) {l:Lay} (hL:∀w,P w→Lies l w) (hf:FWf l) (s x:Int) {vs:List Int} {A:Option Addr} {c:Nat} (hR:∀W,P W→Row W W.heap.size A (nums .i64 vs)) (hcap:vs.length≤c) (hn:(vs.length:Int)≤9223372036854775807) (h:P w):
 Calls Tryz.prog 6 #[l.val,.int .i64 s,.int .i64 x,.slice A vs.length c] w fun e w'=>e= .returned (.bool true)∧P w':=by
 obtain⟨Q,HQ,HQp,HQl,hq⟩:=keep_box hP h 29 l.cells
 have KW:=Zz (fun W (hW:Q W)=>wakes14_P hP hT (HQp.out W hW))
 have HTL:Hid (∀W,Q W→Shapes W∧Lies l W):=Zz fun W hW=>⟨hT W (HQp.out W hW),hL W (HQp.out W hW)⟩
 have KG:Hid (∀W,Q W→Calls Tryz.prog 8 #[l.val] W fun e w'=>e= .returned (.bool (great14 l))∧Q w'):=Zz fun W hW=>great14_P HQ.out (fun W hW=>hL W (HQp.out W hW)) rfl hW
 have HRV:Hid (∀W,Q W→Row W W.heap.size A (nums .i64 vs)):=Zz fun W hW=>hR W (HQp.out W hW)
 have HFW:=Zz hf
 have HCN:=Zz (And.intro hcap hn)
 have hnS:=(hL _ h).nS
 clear hP hT hL h hf hR hcap
 obtain⟨g,hg⟩:∃g,great14 l=g:=⟨_,rfl⟩
 rw[hg] at KG
 have HG:=Zz hg
 clear hg
 go_enter Tryz.func6,Tryz.ntmps6
 obtain⟨x0,x1,x2,x3,x4,x5,x6,x7,x8,x9,x10⟩:=(HQl.out _ hq).c11
 go_wp2_with fail
 refine(KG.out _ hq).mono ?_
 rintro e w1 ⟨rfl,hq⟩
 clear x0 x1 x2 x3 x4 x5 x6 x7 x8 x9 x10 KG
 cases g
 rotate_left
 · go_wp2_with fail;refine(KW.out _ hq).mono ?_;rintro e w9 ⟨rfl,hp⟩;have HZ:=Zz hp;clear hp hq;go_wp2_with fail;go_ret;exact⟨rfl,HZ.out⟩
 by_cases hv2:vs.length≤2
 rotate_left
 · have hv2':(2:Int)<vs.length:=by omega
   go_wp2_with fail;refine(KW.out _ hq).mono ?_;rintro e w9 ⟨rfl,hp⟩;have HZ:=Zz hp;clear hp hq;go_wp2_with fail;go_ret;exact⟨rfl,HZ.out⟩
 have hv2':¬(2:Int)<vs.length:=by omega
 have HSM:=Zz (great14_no HFW.out HG.out)
 clear HG HFW
 have KA:=all_K HQ HTL HSM.out s x (vs:=[]) (A:=none) (c:=0) (fun W _=>Row.nil _ _ _) (by simp) (by simp) rfl rfl
 obtain⟨x0,x1,x2,x3,x4,x5,x6,x7,x8,x9,x10⟩:=(HQl.out _ hq).c11
 go_wp2_with fail
 refine(KA.out _ hq).mono ?_
 rintro e w2 ⟨A1,c1,ps,rfl,hps,hpv,hpk,hq⟩
 clear KA x0 x1 x2 x3 x4 x5 x6 x7 x8 x9 x10
 obtain⟨Q,HQ,HQa,HQ1,hq⟩:=and_more HQ (Zr.closed ps A1) hq hps
 replace HQp:=Zz (fun W hW=>HQp.out W (HQa.out W hW))
 replace HQl:=Zz (fun W hW=>HQl.out W (HQa.out W hW))
 replace HTL:=Zz (fun W hW=>HTL.out W (HQa.out W hW))
 replace HRV:=Zz (fun W hW=>HRV.out W (HQa.out W hW))
 replace KW:=Zz (fun W hW=>KW.out W (HQa.out W hW))
 clear HQa hps
 have KA:=all_K HQ HTL HSM.out s x HRV.out HCN.out.1 HCN.out.2 rfl rfl
 obtain⟨x0,x1,x2,x3,x4,x5,x6,x7,x8,x9,x10⟩:=(HQl.out _ hq).c11
 go_wp2_with fail
 refine(KA.out _ hq).mono ?_
 rintro e w3 ⟨A2,c2,qs,rfl,hqs,hqv,hqk,hq⟩
 clear KA x0 x1 x2 x3 x4 x5 x6 x7 x8 x9 x10
 obtain⟨Q,HQ,HQa,HQ2,hq⟩:=and_more HQ (Zr.closed qs A2) hq hqs
 replace HQp:=Zz (fun W hW=>HQp.out W (HQa.out W hW))
 replace HQl:=Zz (fun W hW=>HQl.out W (HQa.out W hW))
 replace HTL:=Zz (fun W hW=>HTL.out W (HQa.out W hW))
 replace HRV:=Zz (fun W hW=>HRV.out W (HQa.out W hW))
 replace KW:=Zz (fun W hW=>KW.out W (HQa.out W hW))
 replace HQ1:=Zz (fun W hW=>HQ1.out W (HQa.out W hW))
 clear HQa hqs
 have HPK:=Zz (And.intro hpv hpk)
 have HQK:=Zz (And.intro hqv hqk)
 clear hpv hpk hqv hqk
 obtain⟨e0,he0⟩:∃r,errA l s x []=r:=⟨_,rfl⟩
 obtain⟨e1,he1⟩:∃r,errA l s x vs=r:=⟨_,rfl⟩
 rw[he0,he1]
 have HE:=Zz (And.intro he0 he1)
 clear he0 he1
 have HPL:Hid (ps.length≤3072):=Zz (by have h:=congrArg List.length HPK.out.1;rw[List.length_map] at h;rw[h];exact HSM.out.all s x [])
 have HQL:Hid (qs.length≤3072):=Zz (by have h:=congrArg List.length HQK.out.1;rw[List.length_map] at h;rw[h];exact HSM.out.all s x vs)
 go_wp2_with fail
 go_loopw [13] (fun i wr=>∃j:Nat,j≤vs.length∧i= .int .i64 j∧Q wr∧Hid ((vs.take j).any (noVia l)=false)) (fun i _=>vs.length - (intOf i).toNat)
 case atStart=>exact⟨0,by omega,rfl,hq,Zz rfl⟩
 case round=>
  clear hq;obtain⟨j,hj,rfl,hq,HNV⟩:=hrel;obtain⟨wa,rfl⟩:∃W,W=wr:=⟨wr,rfl⟩;by_cases hlt:j<vs.length
  · have hlt':(j:Int)<vs.length:=by omega
    obtain⟨v,hv⟩:∃v,vs[j]? =some v:=⟨_,List.getElem?_eq_getElem hlt⟩;obtain⟨b5,o5,HA5,HC5,_⟩:=row_at (f:=fun n:Int=>[.int .i64 n]) (n:=1) (l:=vs) (fun _=>rfl) (by omega) (fun W hW=>by have :=HRV.out W hW;rw[←nums_flat] at this;exact this) hq hv;have HC:Hid (∀W,Q W→W.cell? ⟨b5,o5+j,none⟩=some (.int .i64 v)):=Zz fun W hW=>by have :=HC5.out W hW _ _ _ hv rfl;rwa [Nat.mul_one] at this
    have HNX:Hid ((vs.take (j+1)).any (noVia l)=noVia l v):=Zz (by rw[List.take_add_one,hv,Option.toList_some,List.any_append,HNV.out];simp);have HVF:Hid (noVia l v=true→e1=2∧qs=[]):=Zz fun hno=>by
     have h1:viasV l vs=false:=by
      unfold viasV;rw[List.any_eq_true.2 ⟨v,List.mem_of_getElem? hv,hno⟩,Bool.not_true,Bool.and_false]
     have h2:=err_via (s:=s) (x:=x) h1;rw[HE.out.2] at h2;exact⟨h2.1,by have h3:=HQK.out.1;rw[h2.2] at h3;exact List.map_eq_nil_iff.1 h3⟩
    clear HC5 hv HNV;by_cases h1:v<0
    · obtain⟨rfl,rfl⟩:=HVF.out (by unfold noVia;simp[h1]);go_wp2_with fail;have HBS:Hid (∀W,Below wa.heap.size wa W→Q W):=Zz (fun W hB=>HQ.out _ _ hq hB);clear hq;refine rmx wa f15 (by kernel_rfl) (by kernel_rfl) ?_;simp only[Zg,f15,Lm,Ln];repeat ((first|(refine Zb (by rfl) ?_)|(refine mrd HBS _ (by rfl) (fun W hW=>by(have c0:=HC.out W hW;have m0:=HQl.out W hW;have x0:=m0.Za 0 rfl;clear m0;go_simp;first|done|with_reducible rfl)) ?_)|(refine mrd HBS _ (by rfl) (fun W hW=>by(have c0:=HC.out W hW;have m0:=HQl.out W hW;have x0:=m0.Za 0 rfl;clear m0;rw[HA5.out];go_simp;first|done|with_reducible rfl)) ?_));simp only[Act.put,La,Lb,Lc])
      refine Zd (fun W hW=>?_);have hq:=HBS.out W hW;have HBW:=Zz hW;clear hW HBS;go_wp2_with fail;refine(KW.out _ hq).mono ?_;rintro e w9 ⟨rfl,hp⟩;have HZ:=Zz hp;clear hp hq;go_wp2_with fail;go_ret;exact⟨rfl,HZ.out⟩
    have d1:decide (v<0)=false:=decide_eq_false h1;by_cases h2:(l.secs.length:Int)≤v
    · obtain⟨rfl,rfl⟩:=HVF.out (by unfold noVia;simp[h2]);go_wp2_with fail;have HBS:Hid (∀W,Below wa.heap.size wa W→Q W):=Zz (fun W hB=>HQ.out _ _ hq hB);clear hq;refine rmx wa f15 (by kernel_rfl) (by kernel_rfl) ?_;simp only[Zg,f15,Lm,Ln];repeat ((first|(refine Zb (by rfl) ?_)|(refine mrd HBS _ (by rfl) (fun W hW=>by(have c0:=HC.out W hW;have m0:=HQl.out W hW;have x0:=m0.Za 0 rfl;clear m0;go_simp;first|done|with_reducible rfl)) ?_)|(refine mrd HBS _ (by rfl) (fun W hW=>by(have c0:=HC.out W hW;have m0:=HQl.out W hW;have x0:=m0.Za 0 rfl;clear m0;rw[HA5.out];go_simp;first|done|with_reducible rfl)) ?_));simp only[Act.put,La,Lb,Lc])
      refine Zd (fun W hW=>?_);have hq:=HBS.out W hW;have HBW:=Zz hW;clear hW HBS;go_wp2_with fail;refine(KW.out _ hq).mono ?_;rintro e w9 ⟨rfl,hp⟩;have HZ:=Zz hp;clear hp hq;go_wp2_with fail;go_ret;exact⟨rfl,HZ.out⟩
    have d2:decide ((l.secs.length:Int)≤v)=false:=decide_eq_false h2;have HN2:Hid ((vs.take (j+1)).any (noVia l)=false):=Zz (by rw[HNX.out];unfold noVia;simp[h1];omega);go_wp2_with fail;have HBS:Hid (∀W,Below wa.heap.size wa W→Q W):=Zz (fun W hB=>HQ.out _ _ hq hB);clear hq;refine rmx wa f15 (by kernel_rfl) (by kernel_rfl) ?_;simp only[Zg,f15,Lm,Ln];repeat ((first|(refine Zb (by rfl) ?_)|(refine mrd HBS _ (by rfl) (fun W hW=>by(have c0:=HC.out W hW;have m0:=HQl.out W hW;have x0:=m0.Za 0 rfl;clear m0;go_simp;first|done|with_reducible rfl)) ?_)|(refine mrd HBS _ (by rfl) (fun W hW=>by(have c0:=HC.out W hW;have m0:=HQl.out W hW;have x0:=m0.Za 0 rfl;clear m0;rw[HA5.out];go_simp;first|done|with_reducible rfl)) ?_));simp only[Act.put,La,Lb,Lc])
    refine Zd (fun W hW=>?_);have hq:=HBS.out W hW;have HBW:=Zz hW;clear hW HBS;go_wp2_with fail;go_roundw
    case rel=>exact⟨j+1,hlt,by go_num,hq,HN2⟩
    case measure=>simp[intOf];omega
  · obtain rfl:j=vs.length:=by omega
    have HV:Hid (viasV l vs=true):=Zz (by
     have :=HNV.out;rw[List.take_length] at this;unfold viasV;rw[this,decide_eq_true hv2];rfl);clear HNV;by_cases he:e0=0
    rotate_left
    · have h1:=err_vias (s:=s) (x:=x) HV.out (by rw[HE.out.1];exact he);rw[HE.out.1,HE.out.2] at h1;obtain rfl:=h1.1;obtain rfl:qs=[]:=by have h3:=HQK.out.1;rw[h1.2] at h3;exact List.map_eq_nil_iff.1 h3
      clear h1;go_wp2_with fail;refine(KW.out _ hq).mono ?_;rintro e w9 ⟨rfl,hp⟩;have HZ:=Zz hp;clear hp hq;go_wp2_with fail;go_ret;exact⟨rfl,HZ.out⟩
    subst he;obtain⟨T,hT⟩:∃T:Pth→Bool,(fun p:Pth=>Zs (secsS p.ss) vs)=T:=⟨_,rfl⟩;have HQF:Hid (qs.map Pth.ss=(ps.filter T).map Pth.ss):=Zz (by
     rw[HQK.out.1,all_vias HV.out,←HPK.out.1,List.filter_map,←hT];rfl);have HLN:Hid (qs.length=(ps.filter T).length):=Zz (by have :=congrArg List.length HQF.out;rwa [List.length_map,List.length_map] at this);have HE1:Hid (qs.length=0∧e1=140∨0<qs.length∧e1=0):=Zz (by
     have h1:=congrArg List.length HQK.out.1;rw[List.length_map] at h1;have ha:askV l s x []=true:=by
      cases hh:askV l s x [] with
      |true=>rfl
      |false=>have :=HE.out.1;unfold errA at this;rw[hh] at this;cases this
     by_cases h2:allV l s x vs=[]
     · refine .inl ⟨by rw[h1,h2];rfl,?_⟩;rw[←HE.out.2];unfold errA;rw[ask_vias HV.out,ha,if_pos rfl,if_pos h2]
     · exact .inr ⟨by rw[h1];exact List.length_pos_iff.2 h2,by rw[←HE.out.2];exact err_ok.2 h2⟩);have HTV:Hid (∀p,Zs (secsS p.ss) vs=T p):=Zz fun p=>by rw[←hT]
    clear hT;go_wp2_with fail;go_loopw [14,15] (fun n i wr=>∃a m:Nat,a≤ps.length∧Hid (m=((ps.take a).filter T).length)∧n= .int .i64 (m:Int)∧i= .int .i64 a∧Q wr)
     (fun _ i _=>ps.length - (intOf i).toNat)
    case atStart=>exact⟨0,0,Nat.zero_le _,Zz rfl,rfl,rfl,hq⟩
    case round=>
     clear hq;obtain⟨a,m,ha,HM,rfl,rfl,hq⟩:=hrel;by_cases hlt2:a<ps.length
     · have hlt2':(a:Int)<ps.length:=by omega
       obtain⟨p,hp⟩:∃p,ps[a]? =some p:=⟨_,List.getElem?_eq_getElem hlt2⟩;have hpl:=HPL.out;obtain⟨b7,o7,HA7,HE0,HEC⟩:=row_at (f:=Pth.cells) (n:=3) (fun _=>rfl) (by omega) (fun W hW=>(HQ1.out W hW).row) hq hp;have HF:Hid (∀W,Q W→W.cell? ⟨b7,o7+a*3,none⟩=some (.int .i64 p.s)∧W.cell? ⟨b7,o7+a*3+1,none⟩=some (.int .i64 p.x)∧W.cell? ⟨b7,o7+a*3+2,none⟩=some (.slice p.A p.ss.length p.c)):=Zz fun W hW=>
        ⟨HE0.out W hW _ _ _ hp rfl,HEC.out W hW _ _ 1 _ hp rfl,HEC.out W hW _ _ 2 _ hp rfl⟩;obtain⟨t,ht⟩:∃t,T p=t:=⟨_,rfl⟩;have HST:Hid (((ps.take (a+1)).filter T).length=m+(if t=true then 1 else 0)):=Zz (by rw[filter_step hp,←HM.out,ht]);have KT:Hid (∀W,Q W→Calls Tryz.prog 24 #[p.val,.slice A vs.length c] W fun e w'=>e= .returned (.bool t)∧Q w'):=Zz fun W hW=>by
        refine(throughR_any ((HQ1.out W hW).each _ (List.mem_of_getElem? hp)) (HRV.out W hW) HCN.out.2 ((HTV.out p).trans ht)).mono ?_;rintro e w' ⟨h1,h2⟩;exact⟨h1,HQ.out _ _ hW h2⟩
       have HP:=Zz hp;have HTP:=Zz ht;obtain⟨wa,rfl⟩:∃W,W=wr:=⟨wr,rfl⟩;clear HE0 HEC hp ht;have hA7:=HA7.out;subst hA7;clear HA7;obtain⟨f0,f1,f2⟩:=HF.out _ hq;go_wp2_with fail;refine(KT.out _ hq).mono ?_;rintro e wb ⟨rfl,hq⟩;clear KT f0 f1 f2;cases t
       · have HS:Hid (m=((ps.take (a+1)).filter T).length):=Zz (by rw[HST.out];rfl);go_wp2_with fail;go_roundw
         case rel=>exact⟨a+1,m,hlt2,HS,rfl,by go_num,hq⟩
         case measure=>simp[intOf];omega
       have HS:Hid (m+1=((ps.take (a+1)).filter T).length):=Zz (by rw[HST.out];rfl);have hq2:(ps.filter T)[m]? =some p:=by rw[HM.out];exact filter_at HP.out HTP.out
       have hql:m<qs.length:=by rw[HLN.out];exact(List.getElem?_eq_some_iff.1 hq2).1
       have hql':¬qs.length≤m:=by omega
       have hqb:=HQL.out;obtain⟨q,hqq⟩:∃q,qs[m]? =some q:=⟨_,List.getElem?_eq_getElem hql⟩;have hsame:sameP q p=true:=by
        have h3:=HQK.out.2 q (List.mem_of_getElem? hqq);have h4:=HPK.out.2 p (List.mem_of_getElem? HP.out);refine sameP_of (h3.1.trans h4.1.symm) (h3.2.trans h4.2.symm) ?_;have h5:(qs.map Pth.ss)[m]? =((ps.filter T).map Pth.ss)[m]? :=by rw[HQF.out]
        rw[List.getElem?_map,List.getElem?_map,hqq,hq2] at h5;exact Option.some.inj h5
       obtain⟨b6,o6,HA6,HD0,HD⟩:=row_at (f:=Pth.cells) (n:=3) (fun _=>rfl) (by omega) (fun W hW=>(HQ2.out W hW).row) hq hqq;have HF2:Hid (∀W,Q W→W.cell? ⟨b6,o6+m*3,none⟩=some (.int .i64 q.s)∧W.cell? ⟨b6,o6+m*3+1,none⟩=some (.int .i64 q.x)∧W.cell? ⟨b6,o6+m*3+2,none⟩=some (.slice q.A q.ss.length q.c)):=Zz fun W hW=>
        ⟨HD0.out W hW _ _ _ hqq rfl,HD.out W hW _ _ 1 _ hqq rfl,HD.out W hW _ _ 2 _ hqq rfl⟩;have KS:Hid (∀W,Q W→Calls Tryz.prog 21 #[q.val,p.val] W fun e w'=>e= .returned (.bool true)∧Below W.heap.size W w'):=Zz fun W hW=>
        sameR12_any ((HQ2.out W hW).each _ (List.mem_of_getElem? hqq)) ((HQ1.out W hW).each _ (List.mem_of_getElem? HP.out)) hsame;clear HD0 HD hqq hsame hq2;go_wp2_with fail;have HBS:Hid (∀W,Below wb.heap.size wb W→Q W):=Zz (fun W hB=>HQ.out _ _ hq hB);clear hq;refine rmx wb f16 (by kernel_rfl) (by kernel_rfl) ?_;simp only[Zg,f16,Lm,Ln];repeat ((first|(refine Zb (by rfl) ?_)|(refine mrd HBS _ (by rfl) (fun W hW=>by(obtain⟨c0,c1,c2⟩:=HF.out W hW;obtain⟨d0,d1,d2⟩:=HF2.out W hW;go_simp;first|done|with_reducible rfl)) ?_)|(refine mrd HBS _ (by rfl) (fun W hW=>by(obtain⟨c0,c1,c2⟩:=HF.out W hW;obtain⟨d0,d1,d2⟩:=HF2.out W hW;rw[HA6.out];go_simp;first|done|with_reducible rfl)) ?_)|(refine mcl HBS _ _ _ (by rfl) (fun W hW=>by(obtain⟨c0,c1,c2⟩:=HF.out W hW;obtain⟨d0,d1,d2⟩:=HF2.out W hW;go_simp;first|done|rfl)) (fun W hW=>KS.out W (HBS.out W hW)) ?_));simp only[Act.put,La,Lb,Lc])
       refine Zd (fun W hW=>?_);have hq:=HBS.out W hW;have HBW:=Zz hW;clear hW HBS;go_wp2_with fail;go_roundw
       case rel=>exact⟨a+1,m+1,hlt2,HS,by go_num,by go_num,hq⟩
       case measure=>simp[intOf];omega
     · obtain rfl:a=ps.length:=by omega
       obtain rfl:m=qs.length:=by rw[HM.out,List.take_length,HLN.out]
       rcases HE1.out with ⟨h1,rfl⟩|⟨h1,rfl⟩
       · rw[h1];go_wp2_with fail;refine(KW.out _ hq).mono ?_;rintro e w9 ⟨rfl,hp⟩;have HZ:=Zz hp;clear hp hq;go_wp2_with fail;go_ret;exact⟨rfl,HZ.out⟩
       · have h1':(0:Int)<qs.length:=by omega
         go_wp2_with fail;refine(KW.out _ hq).mono ?_;rintro e w9 ⟨rfl,hp⟩;have HZ:=Zz hp;clear hp hq;go_wp2_with fail;go_ret;exact⟨rfl,HZ.out⟩
end
section
open Go.RowKit Go.Shelf
theorem searchVias_walk (s x:Int) {vs:List Int} {A:Option Addr} {c:Nat} {l:Lay} {w:World} (hT:Shapes w) (hL:Lies l w) (hf:FWf l) (hR:Row w w.heap.size A (nums .i64 vs)) (hcap:vs.length≤c) (hmax:c≤maxLen):
 Calls Tryz.prog 6 #[l.val,.int .i64 s,.int .i64 x,.slice A vs.length c] w fun e w'=>e= .returned (.bool true)∧Below w.heap.size w w':=
 searchVias_P (P:=fun W=>Below w.heap.size w W) (Closed.below w) (fun W h=>Shapes.closed _ _ hT h) (fun W h=>Lies.closed l _ _ hL h) hf s x (fun W h=>hR.on h) hcap (by unfold maxLen at hmax;omega) (Below.refl _ _)
end
end Go.Proofs.YtifnlhfinjfajaaGreatDoor
