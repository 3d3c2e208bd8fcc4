/- Of this seat: LwD_2, SearchExits. -/
import Derived.Test.YtifnlhfinjfajaaGreatDoorK38
import Derived.Test.YtifnlhfinjfajaaGreatDoorK42
namespace Go.Proofs.YtifnlhfinjfajaaGreatDoor
set_option linter.unusedVariables false
set_option linter.unusedSimpArgs false
set_option maxRecDepth 100000
set_option maxHeartbeats 32000000
section
open Go.RowKit Go.Shelf
attribute [local go_sem] Oper.semAt_some
theorem toldF_step (l:Lay) (s:Int) (n:Nat):toldF l s (n+1)=toldF l s n++(allV l s n []).map (fun w=>((n:Int),w)):=by
 unfold toldF;rw[show fromV l s (n+1)=fromV l s n++(allV l s n []).map (fun w=>(n,w)) from rfl,List.map_append,List.map_map];rfl
theorem toldF_pre (l:Lay) (s:Int) (n:Nat):∀d,∃r,toldF l s (n+d)=toldF l s n++r
 |0=>⟨[],by simp⟩
 |d+1=>by
  obtain⟨r,hr⟩:=toldF_pre l s n d;exact⟨_,by rw[show n+(d+1)=n+d+1 from rfl,toldF_step,hr,List.append_assoc]⟩
theorem exitsN_pre (l:Lay) (s:Int) (n:Nat):∀d,∃r,exitsN l s (n+d)=exitsN l s n++r
 |0=>⟨[],by simp⟩
 |d+1=>by
  obtain⟨r,hr⟩:=exitsN_pre l s n d;by_cases h:allV l s (n+d:Nat) []=[]
  · exact⟨r,by rw[show n+(d+1)=n+d+1 from rfl,exitsN_no h,hr]⟩
  · exact⟨r++[((n+d:Nat):Int)],by rw[show n+(d+1)=n+d+1 from rfl,exitsN_yes h,hr,List.append_assoc]⟩
theorem told_at {l:Lay} {s:Int} {qs:List Pth} {N n i:Nat} (hq:qs.map (fun q=>(q.x,q.ss))=toldF l s N) (hn:n<N) {u:List Stp} (hu:(allV l s n [])[i]? =some u):∃q,qs[(toldF l s n).length+i]? =some q∧q.x=n∧q.ss=u:=by
 obtain⟨r,hr⟩:=toldF_pre l s (n+1) (N - (n+1));rw[show n+1+(N - (n+1))=N by omega,toldF_step] at hr;have hlt:i<(allV l s n []).length:=(List.getElem?_eq_some_iff.1 hu).1;have h1:(qs.map (fun q=>(q.x,q.ss)))[(toldF l s n).length+i]? =some ((n:Int),u):=by
  rw[hq,hr,List.append_assoc,List.getElem?_append_right (by omega),Nat.add_sub_cancel_left,List.getElem?_append_left (by rw[List.length_map];exact hlt),List.getElem?_map,hu];rfl
 rw[List.getElem?_map] at h1;cases hc:qs[(toldF l s n).length+i]? with
 |none=>rw[hc] at h1;cases h1
 |some q=>
  rw[hc] at h1;have h2:=Option.some.inj h1;exact⟨q,rfl,congrArg (fun z=>z.1) h2,congrArg (fun z=>z.2) h2⟩
theorem exits_at {l:Lay} {s:Int} {N n:Nat} (hn:n<N) (h:allV l s n []≠[]):(exitsN l s N)[(exitsN l s n).length]? =some (n:Int):=by
 obtain⟨r,hr⟩:=exitsN_pre l s (n+1) (N - (n+1));rw[show n+1+(N - (n+1))=N by omega,exitsN_yes h] at hr;rw[hr,List.append_assoc,List.getElem?_append_right (Nat.le_refl _),Nat.sub_self];rfl
theorem searchExits_P {P:World→Prop} {w:World} (hP:Closed P) (hT:∀w,P w→Shapes w) {l:Lay} (hL:∀w,P w→Lies l w) (hf:FWf l) (s:Int) (h:P w):
 Calls Tryz.prog 7 #[l.val,.int .i64 s] w fun e w'=>e= .returned (.bool true)∧P w':=by
 obtain⟨Q,HQ,HQp,HQl,hq⟩:=keep_box hP h 29 l.cells
 have KG:=Zz (fun W hW=>great14_P (l:=l) hP hL rfl (w:=W) hW)
 have KW:=Zz (fun W (hW:Q W)=>wakes14_P hP hT (HQp.out W hW))
 have HTL:Hid (∀W,Q W→Shapes W∧Lies l W):=Zz fun W hW=>⟨hT W (HQp.out W hW),hL W (HQp.out W hW)⟩
 have KG:Hid (∀W,Q W→Calls Tryz.prog 8 #[l.val] W fun e w'=>e= .returned (.bool (great14 l))∧Q w'):=Zz fun W hW=>great14_P HQ.out (fun W hW=>hL W (HQp.out W hW)) rfl hW
 have HFW:=Zz hf
 have hnE:=(hL _ h).nE
 clear hP hT hL h hf
 obtain⟨g,hg⟩:∃g,great14 l=g:=⟨_,rfl⟩
 rw[hg] at KG
 have HG:=Zz hg
 clear hg
 go_enter Tryz.func7,Tryz.ntmps7
 obtain⟨x0,x1,x2,x3,x4,x5,x6,x7,x8,x9,x10⟩:=(HQl.out _ hq).c11
 go_wp2_with fail
 refine(KG.out _ hq).mono ?_
 rintro e w1 ⟨rfl,hq⟩
 clear x0 x1 x2 x3 x4 x5 x6 x7 x8 x9 x10 KG
 cases g
 rotate_left
 · go_wp2_with fail;refine(KW.out _ hq).mono ?_;rintro e w2 ⟨rfl,hp⟩;have HZ:=Zz hp;clear hp hq;go_wp2_with fail;go_ret;exact⟨rfl,HZ.out⟩
 have HSM:=Zz (great14_no HFW.out HG.out)
 clear HG HFW
 have hEX:=HSM.out.exits
 have KF:=from_M HTL HSM.out s
 have KE:=exits_M HTL HSM.out s
 go_wp2_with fail
 have HBS:Hid (∀W,Below w1.heap.size w1 W→Q W):=Zz (fun W hB=>HQ.out _ _ hq hB)
 clear hq
 refine region_mix (Below w1.heap.size w1) [(0,false),(1,false),(3,false),(4,false),(2,true),(5,true),(6,false),(7,false)] (by kernel_rfl) (by kernel_rfl) (Below w1.heap.size w1) ⟨Closed.below w1,fun _ h=>h⟩ (Below.refl _ _).drew ?_
 simp only[Zg,Lm,Ln]
 repeat ((first|(refine Zb (by rfl) ?_)|(refine mrd HBS _ (by rfl) (fun W hW=>by(obtain⟨x0,x1,x2,x3,x4,x5,x6,x7,x8,x9,x10⟩:=(HQl.out W hW).c11;go_simp;first|done|with_reducible rfl)) ?_));simp only[Act.put,La,Lb,Lc])
 refine mix_meet (fun x:Option Addr×Nat×List Pth=>.slice x.1 x.2.2.length x.2.1) (fun x=>fun W=>Zr x.2.2 x.1 W∧x.2.2.map (fun q=>(q.x,q.ss))=toldF l s l.exits.length∧∀q ∈ x.2.2,q.s=s) ⟨(Closed.below w1),fun _ h=>h⟩ (fun x=>(Zr.closed _ _).and (fun _ _ h _=>h)) _ _ (by rfl) (fun W hW=>by(have hW:=HBS.out W hW;obtain⟨x0,x1,x2,x3,x4,x5,x6,x7,x8,x9,x10⟩:=(HQl.out W hW).c11;go_simp;first|done|rfl)) (fun W hW=>KF.out W (HBS.out W hW)) (fun m1=>?_)
 simp only[Act.put,La,Lb,Lc]
 refine mix_meet (fun x:Option Addr×Nat=>.slice x.1 (exitsN l s l.exits.length).length x.2) (fun x=>fun W=>Row W W.heap.size x.1 (nums .i64 (exitsN l s l.exits.length))) ⟨((Closed.below w1).and ((show ∀x:Option Addr×Nat×List Pth,Closed (fun W=>Zr x.2.2 x.1 W∧x.2.2.map (fun q=>(q.x,q.ss))=toldF l s l.exits.length∧∀q ∈ x.2.2,q.s=s) from fun x=>(Zr.closed _ _).and (fun _ _ h _=>h)) m1)),fun _ h=>h.1⟩ (fun x=>ints_row _ _) _ _ (by rfl) (fun W hW=>by(have hW:=HBS.out W hW.1;obtain⟨x0,x1,x2,x3,x4,x5,x6,x7,x8,x9,x10⟩:=(HQl.out W hW).c11;go_simp;first|done|rfl)) (fun W hW=>KE.out W (HBS.out W hW.1)) (fun m2=>?_)
 simp only[Act.put,La,Lb,Lc]
 repeat ((first|(refine Zb (by rfl) ?_)|(refine mrd HBS _ (by rfl) (fun W hW=>by(obtain⟨x0,x1,x2,x3,x4,x5,x6,x7,x8,x9,x10⟩:=(HQl.out W hW).c11;go_simp;first|done|with_reducible rfl)) ?_));simp only[Act.put,La,Lb,Lc])
 refine Zd (fun W hW=>?_)
 have t1:=hW.1.2
 have t2:=hW.2
 have hq:=HBS.out W hW.1.1
 have HBW:=Zz hW.1.1
 clear hW HBS
 obtain⟨A1,c1,qs⟩:=m1
 obtain⟨A2,c2⟩:=m2
 obtain⟨h1,h2,h3⟩:=t1
 clear HBW KF KE
 have HQE:=Zz (And.intro h2 h3)
 obtain⟨Q,HQ,HQa,HQ1,hq⟩:=and_more HQ (Zr.closed qs A1) hq h1
 replace HQp:=Zz (fun W hW=>HQp.out W (HQa.out W hW))
 replace HQl:=Zz (fun W hW=>HQl.out W (HQa.out W hW))
 replace HTL:=Zz (fun W hW=>HTL.out W (HQa.out W hW))
 replace KW:=Zz (fun W hW=>KW.out W (HQa.out W hW))
 clear HQa
 obtain⟨Q,HQ,HQa,HQ2,hq⟩:=and_more HQ (ints_row _ A2) hq t2
 replace HQp:=Zz (fun W hW=>HQp.out W (HQa.out W hW))
 replace HQl:=Zz (fun W hW=>HQl.out W (HQa.out W hW))
 replace HTL:=Zz (fun W hW=>HTL.out W (HQa.out W hW))
 replace KW:=Zz (fun W hW=>KW.out W (HQa.out W hW))
 replace HQ1:=Zz (fun W hW=>HQ1.out W (HQa.out W hW))
 clear HQa t2 h1 h2 h3
 obtain⟨en,hen⟩:∃n,(exitsN l s l.exits.length).length=n:=⟨_,rfl⟩
 have HEN:=Zz hen
 dsimp only
 rw[hen]
 clear hen
 go_wp2_with fail
 go_loopw [7,8,9] (fun n k x wr=>∃j:Nat,j≤l.exits.length∧n= .int .i64 ((toldF l s j).length:Nat)∧k= .int .i64 ((exitsN l s j).length:Nat)∧x= .int .i64 j∧Q wr)
  (fun _ _ x _=>l.exits.length - (intOf x).toNat)
 case atStart=>exact⟨0,by omega,rfl,rfl,rfl,hq⟩
 case round=>
  clear hq;obtain⟨j,hj,rfl,rfl,rfl,hq⟩:=hrel;have x2:=(HQl.out _ hq).Za 2 rfl;by_cases hlt:j<l.exits.length
  · have hlt':(j:Int)<l.exits.length:=by omega
    have KA:=all_K HQ HTL HSM.out s j (vs:=[]) (A:=none) (c:=0) (fun W _=>Row.nil _ _ _) (by simp) (by simp) rfl rfl;obtain⟨wa,rfl⟩:∃W,W=wr:=⟨wr,rfl⟩;clear x2;obtain⟨x0,x1,x2,x3,x4,x5,x6,x7,x8,x9,x10⟩:=(HQl.out _ hq).c11;go_wp2_with fail;refine(KA.out _ hq).mono ?_;rintro e w2 ⟨A3,c3,ps,rfl,hps,hv,hk,hq⟩;clear KA x0 x1 x2 x3 x4 x5 x6 x7 x8 x9 x10;have hex:=exitsN_le l s j;have hto:=toldF_le HSM.out s hj;by_cases he:allV l s j []=[]
    · have HN:Hid (toldF l s (j+1)=toldF l s j∧exitsN l s (j+1)=exitsN l s j):=Zz ⟨by rw[toldF_step,he];simp,exitsN_no he⟩;have hne:errA l s j []≠0:=fun e=>err_ok.1 e he;go_wp2_with fail;go_roundw
      case rel=>exact⟨j+1,hlt,by rw[HN.out.1],by rw[HN.out.2],by go_num,hq⟩
      case measure=>simp[intOf];omega
    have hne:errA l s j []=0:=err_ok.2 he;rw[hne];have hat:=exits_at hlt he;have hkl:(exitsN l s j).length<en:=by have h:=(List.getElem?_eq_some_iff.1 hat).1;rw[HEN.out] at h;exact h
    have hkl':((exitsN l s j).length:Int)<(en:Int):=by omega
    obtain⟨b5,o5,HA5,HC5,_⟩:=row_at (f:=fun n:Int=>[.int .i64 n]) (n:=1) (l:=exitsN l s l.exits.length) (fun _=>rfl) (by omega) (fun W hW=>by have :=HQ2.out W hW;rw[←nums_flat] at this;exact this) hq hat;have d0:=HC5.out _ hq _ _ _ hat rfl;rw[Nat.mul_one] at d0;obtain rfl:=HA5.out;clear HA5 HC5;have HX1:Hid ((exitsN l s (j+1)).length=(exitsN l s j).length+1):=Zz (by rw[exitsN_yes he,List.length_append];rfl);have HX2:Hid ((toldF l s (j+1)).length=(toldF l s j).length+ps.length):=Zz (by rw[toldF_step,List.length_append,List.length_map,←hv,List.length_map]);have HAT:Hid (∀i p,ps[i]? =some p→p.s=s∧p.x=(j:Int)∧∃q,qs[(toldF l s j).length+i]? =some q∧sameP q p=true):=Zz fun i p hp=>by
     obtain⟨q,hq1,hq2,hq3⟩:=told_at HQE.out.1 hlt (i:=i) (u:=p.ss) (by rw[←hv,List.getElem?_map,hp];rfl);have h1:=hk p (List.mem_of_getElem? hp);exact⟨h1.1,h1.2,q,hq1,sameP_of ((HQE.out.2 q (List.mem_of_getElem? hq1)).trans h1.1.symm) (hq2.trans h1.2.symm) hq3⟩
    have hq0:=hq;clear hq;obtain⟨Q,HQ,HQo,HQps,hq⟩:=and_more HQ (Zr.closed ps A3) hq0 hps;have HPL:Hid (ps.length≤3072):=Zz (by have h:=congrArg List.length hv;rw[List.length_map] at h;rw[h];exact HSM.out.all s j []);have HQL:Hid ((qs.length:Int)≤9223372036854775807):=Zz (by have h:=congrArg List.length HQE.out.1;rw[List.length_map] at h;rw[h];have :=toldF_le HSM.out s (Nat.le_refl _);omega);clear hps hv hk hq0 he hne hat;obtain⟨k0,hk0⟩:∃n,(exitsN l s j).length=n:=⟨_,rfl⟩;obtain⟨n0,hn0⟩:∃n,(toldF l s j).length=n:=⟨_,rfl⟩;rw[hk0] at d0 hkl hkl' HX1 hex ⊢;rw[hn0] at HX2 HAT hto ⊢;have hen:=HPL.out;clear hk0 hn0;go_wp2_with fail;clear d0 hkl hkl';go_loopw [7,12] (fun n i wr=>∃a m:Nat,a≤ps.length∧Hid (m=n0+a)∧n= .int .i64 (m:Int)∧i= .int .i64 a∧Q wr)
     (fun _ i _=>ps.length - (intOf i).toNat)
    case atStart=>exact⟨0,n0,Nat.zero_le _,Zz rfl,rfl,rfl,hq⟩
    case round=>
     clear hq;obtain⟨a,m,ha,HM,rfl,rfl,hq⟩:=hrel;by_cases hlt2:a<ps.length
     · have hlt2':(a:Int)<ps.length:=by omega
       obtain⟨p,hp⟩:∃p,ps[a]? =some p:=⟨_,List.getElem?_eq_getElem hlt2⟩;obtain⟨hps1,hpx,q,hq1,hsame⟩:=HAT.out a p hp;rw[←HM.out] at hq1;have hqlt:m<qs.length:=(List.getElem?_eq_some_iff.1 hq1).1;have hqlt':¬qs.length≤m:=by omega
       obtain⟨b6,o6,HA6,HD0,HD⟩:=row_at (f:=Pth.cells) (n:=3) (fun _=>rfl) (by omega) (fun W hW=>(HQ1.out W (HQo.out W hW)).row) hq hq1;obtain⟨b7,o7,HA7,HE0,HE⟩:=row_at (f:=Pth.cells) (n:=3) (fun _=>rfl) (by omega) (fun W hW=>(HQps.out W hW).row) hq hp;have HF:Hid (∀W,Q W→(W.cell? ⟨b6,o6+m*3,none⟩=some (.int .i64 q.s)∧W.cell? ⟨b6,o6+m*3+1,none⟩=some (.int .i64 q.x)∧W.cell? ⟨b6,o6+m*3+2,none⟩=some (.slice q.A q.ss.length q.c))∧W.cell? ⟨b7,o7+a*3,none⟩=some (.int .i64 p.s)∧W.cell? ⟨b7,o7+a*3+1,none⟩=some (.int .i64 p.x)∧W.cell? ⟨b7,o7+a*3+2,none⟩=some (.slice p.A p.ss.length p.c)):=Zz fun W hW=>
        ⟨⟨HD0.out W hW _ _ _ hq1 rfl,HD.out W hW _ _ 1 _ hq1 rfl,HD.out W hW _ _ 2 _ hq1 rfl⟩,HE0.out W hW _ _ _ hp rfl,HE.out W hW _ _ 1 _ hp rfl,HE.out W hW _ _ 2 _ hp rfl⟩;have KS:Hid (∀W,Q W→Calls Tryz.prog 21 #[q.val,p.val] W fun e w'=>e= .returned (.bool true)∧Below W.heap.size W w'):=Zz fun W hW=>
        sameR12_any ((HQ1.out W (HQo.out W hW)).each _ (List.mem_of_getElem? hq1)) ((HQps.out W hW).each _ (List.mem_of_getElem? hp)) hsame;obtain⟨wb,rfl⟩:∃W,W=wr:=⟨wr,rfl⟩;clear HD0 HD HE0 HE hps1 hpx hq1 hsame hp;have hql:=HQL.out;go_wp2_with fail;have HBS:Hid (∀W,Below wb.heap.size wb W→Q W):=Zz (fun W hB=>HQ.out _ _ hq hB);clear hq;refine rmx wb f16 (by kernel_rfl) (by kernel_rfl) ?_;simp only[Zg,f16,Lm,Ln];repeat ((first|(refine Zb (by rfl) ?_)|(refine mrd HBS _ (by rfl) (fun W hW=>by(obtain⟨⟨c0,c1,c2⟩,d0,d1,d2⟩:=HF.out W hW;go_simp;first|done|with_reducible rfl)) ?_)|(refine mrd HBS _ (by rfl) (fun W hW=>by(obtain⟨⟨c0,c1,c2⟩,d0,d1,d2⟩:=HF.out W hW;rw[HA6.out];go_simp;first|done|with_reducible rfl)) ?_)|(refine mrd HBS _ (by rfl) (fun W hW=>by(obtain⟨⟨c0,c1,c2⟩,d0,d1,d2⟩:=HF.out W hW;rw[HA7.out];go_simp;first|done|with_reducible rfl)) ?_)|(refine mcl HBS _ _ _ (by rfl) (fun W hW=>by(obtain⟨⟨c0,c1,c2⟩,d0,d1,d2⟩:=HF.out W hW;go_simp;first|done|rfl)) (fun W hW=>KS.out W (HBS.out W hW)) ?_));simp only[Act.put,La,Lb,Lc])
       refine Zd (fun W hW=>?_);have hq:=HBS.out W hW;have HBW:=Zz hW;clear hW HBS;go_wp2_with fail;go_roundw
       case rel=>exact⟨a+1,m+1,hlt2,Zz (by have :=HM.out;omega),by go_num,by go_num,hq⟩
       case measure=>simp[intOf];omega
     · obtain rfl:a=ps.length:=by omega
       go_wp2_with fail;go_roundw
       case rel=>exact⟨j+1,hlt,by rw[HX2.out,HM.out],by rw[HX1.out];go_num,by go_num,HQo.out _ hq⟩
       case measure=>simp[intOf];omega
  · obtain rfl:j=l.exits.length:=by omega
    have HTL1:Hid ((toldF l s l.exits.length).length=qs.length):=Zz (by have h:=congrArg List.length HQE.out.1;rw[List.length_map] at h;exact h.symm);rw[HTL1.out,HEN.out];go_wp2_with fail;refine(KW.out _ hq).mono ?_;rintro e w2 ⟨rfl,hp⟩;have HZ:=Zz hp;clear hp hq;go_wp2_with fail;go_ret;exact⟨rfl,HZ.out⟩
end
section
open Go.RowKit Go.Shelf
theorem searchExits_walk (s:Int) {l:Lay} {w:World} (hT:Shapes w) (hL:Lies l w) (hf:FWf l):
 Calls Tryz.prog 7 #[l.val,.int .i64 s] w fun e w'=>e= .returned (.bool true)∧Below w.heap.size w w':=
 searchExits_P (P:=fun W=>Below w.heap.size w W) (Closed.below w) (fun W h=>Shapes.closed _ _ hT h) (fun W h=>Lies.closed l _ _ hL h) hf s (Below.refl _ _)
end
end Go.Proofs.YtifnlhfinjfajaaGreatDoor
