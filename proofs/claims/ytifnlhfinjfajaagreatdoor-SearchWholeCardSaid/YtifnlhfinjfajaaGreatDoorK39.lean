/- Of this seat: SeaR_1, LwH_1, SearchWhole. -/
import Derived.Test.YtifnlhfinjfajaaGreatDoorK35
import Derived.Test.YtifnlhfinjfajaaGreatDoorK37
import Derived.Test.YtifnlhfinjfajaaGreatDoorK38
namespace Go.Proofs.YtifnlhfinjfajaaGreatDoor
set_option linter.unusedVariables false
set_option linter.unusedSimpArgs false
set_option maxRecDepth 100000
set_option maxHeartbeats 32000000
section
open Go.RowKit Go.Shelf
theorem err_cases (l:Lay) (s x:Int) (vs:List Int):(errA l s x vs=0∧allV l s x vs≠[])∨((errA l s x vs=140∨errA l s x vs=2)∧allV l s x vs=[]):=by
 by_cases h:allV l s x vs=[]
 · right;refine⟨?_,h⟩;unfold errA;cases askV l s x vs
   · exact .inr rfl
   · rw[if_pos rfl,if_pos h];exact .inl rfl
 · exact .inl ⟨err_ok.2 h,h⟩
end
section
open Go.RowKit Go.Shelf
attribute [local go_sem] Oper.semAt_some
theorem all_order {l:Lay} {s x:Int} {vs:List Int} {ps:List Pth} (h:ps.map Pth.ss=allV l s x vs) {k:Nat} {p q:Pth} (hp:ps[k]? =some p) (hq:ps[k+1]? =some q):cmpR (rowV l p.ss) (rowV l q.ss)<0:=by
 have h1:=all_less l s x vs;rw[←h,List.pairwise_map,List.pairwise_iff_getElem] at h1;have hk:=(List.getElem?_eq_some_iff.1 hq).1;have h2:=h1 k (k+1) (by omega) hk (by omega);rwa [(List.getElem?_eq_some_iff.1 hp).2,(List.getElem?_eq_some_iff.1 hq).2] at h2
theorem all_walk {l:Lay} {s x:Int} {vs:List Int} {w:List Stp} (h:w ∈ allV l s x vs):w.length≤12:=(mem_walks.1 (serve_walk (mem_all.1 h))).2.1
theorem searchWhole_P {P:World→Prop} {w:World} (hP:Closed P) (hT:∀w,P w→Shapes w) {l:Lay} (hL:∀w,P w→Lies l w) (hf:FWf l) (s x:Int) {vs:List Int} {A:Option Addr} {c:Nat} (hR:∀W,P W→Row W W.heap.size A (nums .i64 vs)) (hcap:vs.length≤c) (hn:(vs.length:Int)≤9223372036854775807) {p:Pth} (hH:∀W,P W→PLies p W) (h:P w):
 Calls Tryz.prog 4 #[l.val,.int .i64 s,.int .i64 x,.slice A vs.length c,p.val] w fun e w'=>e= .returned (.bool true)∧P w':=by
 obtain⟨Q,HQ,HQp,HQl,HQh,hq⟩:=keep_box2 hP h 29 46 l.cells p.cells
 have KW:=Zz (fun W (hW:Q W)=>wakes14_P hP hT (HQp.out W hW))
 have HTL:Hid (∀W,Q W→Shapes W∧Lies l W):=Zz fun W hW=>⟨hT W (HQp.out W hW),hL W (HQp.out W hW)⟩
 have KG:Hid (∀W,Q W→Calls Tryz.prog 8 #[l.val] W fun e w'=>e= .returned (.bool (great14 l))∧Q w'):=Zz fun W hW=>great14_P HQ.out (fun W hW=>hL W (HQp.out W hW)) rfl hW
 have HRV:Hid (∀W,Q W→Row W W.heap.size A (nums .i64 vs)):=Zz fun W hW=>hR W (HQp.out W hW)
 have HPH:Hid (∀W,Q W→PLies p W):=Zz fun W hW=>hH W (HQp.out W hW)
 have HFW:=Zz hf
 have HCN:=Zz (And.intro hcap hn)
 have hpn:=(hH _ h).len
 clear hP hT hL h hf hR hcap hH
 obtain⟨g,hg⟩:∃g,great14 l=g:=⟨_,rfl⟩
 rw[hg] at KG
 have HG:=Zz hg
 clear hg
 go_enter Tryz.func4,Tryz.ntmps4
 obtain⟨x0,x1,x2,x3,x4,x5,x6,x7,x8,x9,x10⟩:=(HQl.out _ hq).c11
 obtain⟨y0,y1,y2⟩:=(HQh.out _ hq).c3
 go_wp2_with fail
 refine(KG.out _ hq).mono ?_
 rintro e w1 ⟨rfl,hq⟩
 clear x0 x1 x2 x3 x4 x5 x6 x7 x8 x9 x10 y0 y1 y2 KG
 cases g
 rotate_left
 · go_wp2_with fail;refine(KW.out _ hq).mono ?_;rintro e w9 ⟨rfl,hp⟩;have HZ:=Zz hp;clear hp hq;go_wp2_with fail;go_ret;exact⟨rfl,HZ.out⟩
 have y2:=(HQh.out _ hq).Za 2 rfl
 by_cases hv6:(6:Int)<vs.length
 · go_wp2_with fail;refine(KW.out _ hq).mono ?_;rintro e w9 ⟨rfl,hp⟩;have HZ:=Zz hp;clear hp hq;go_wp2_with fail;go_ret;exact⟨rfl,HZ.out⟩
 by_cases hp3:(30:Int)<p.ss.length
 · go_wp2_with fail;refine(KW.out _ hq).mono ?_;rintro e w9 ⟨rfl,hp⟩;have HZ:=Zz hp;clear hp hq;go_wp2_with fail;go_ret;exact⟨rfl,HZ.out⟩
 have HP30:Hid (p.ss.length≤30):=Zz (by omega)
 have HSM:=Zz (great14_no HFW.out HG.out)
 clear HG HFW y2
 obtain⟨e0,he0⟩:∃r,errA l s x vs=r:=⟨_,rfl⟩
 have KA:=all_K HQ HTL HSM.out s x HRV.out HCN.out.1 HCN.out.2 rfl he0
 have y2:=(HQh.out _ hq).Za 2 rfl
 obtain⟨x0,x1,x2,x3,x4,x5,x6,x7,x8,x9,x10⟩:=(HQl.out _ hq).c11
 have HE:=Zz he0
 clear he0
 go_wp2_with fail
 refine(KA.out _ hq).mono ?_
 rintro e w2 ⟨A1,c1,ps,rfl,hps,hpv,hpk,hq⟩
 clear KA x0 x1 x2 x3 x4 x5 x6 x7 x8 x9 x10 y2 hv6 hp3
 obtain⟨Q,HQ,HQa,HQ1,hq⟩:=and_more HQ (Zr.closed ps A1) hq hps
 replace HQp:=Zz (fun W hW=>HQp.out W (HQa.out W hW))
 replace HQl:=Zz (fun W hW=>HQl.out W (HQa.out W hW))
 replace HQh:=Zz (fun W hW=>HQh.out W (HQa.out W hW))
 replace HTL:=Zz (fun W hW=>HTL.out W (HQa.out W hW))
 replace HRV:=Zz (fun W hW=>HRV.out W (HQa.out W hW))
 replace HPH:=Zz (fun W hW=>HPH.out W (HQa.out W hW))
 replace KW:=Zz (fun W hW=>KW.out W (HQa.out W hW))
 clear HQa hps
 have HPK:=Zz (And.intro hpv hpk)
 have HPL:Hid (ps.length≤3072):=Zz (by have h:=congrArg List.length hpv;rw[List.length_map] at h;rw[h];exact HSM.out.all s x vs)
 have HEE:Hid (ps.length=0∧(e0=140∨e0=2)∨0<ps.length∧e0=0):=Zz (by
  have h1:=congrArg List.length hpv;rw[List.length_map] at h1;rcases err_cases l s x vs with ⟨h2,h3⟩|⟨h2,h3⟩
  · exact .inr ⟨by rw[h1];exact List.length_pos_iff.2 h3,HE.out.symm.trans h2⟩
  · exact .inl ⟨by rw[h1,h3];rfl,by rw[←HE.out];exact h2⟩)
 have HSV:Hid (∀q ∈ ps,(q.s=s∧q.x=x)∧q.ss.length≤12∧(check11 l q vs==0)=true∧(!clashN (ofV l q))=true):=Zz fun q hq=>by
  have h1:q.ss ∈ allV l s x vs:=by rw[←hpv];exact List.mem_map.2 ⟨q,hq,rfl⟩
  exact⟨hpk q hq,all_walk h1,serve_to (mem_all.1 h1) (hpk q hq).1 (hpk q hq).2⟩
 clear hpv hpk
 have KIS:Hid (∀W,Q W→∀q,PLies q W→∀b,(check11 l q vs==0)=b→Calls Tryz.prog 18 #[l.val,q.val,.slice A vs.length c] W fun e w'=>e= .returned (.bool b)∧Below W.heap.size W w'):=Zz fun W hW q hq b hb=>isR11_any (HTL.out W hW).2 hq (HRV.out W hW) HCN.out.2 hb
 have KFI:Hid (∀W,Q W→∀q,PLies q W→q.ss.length≤30→∀b,(!clashN (ofV l q))=b→Calls Tryz.prog 19 #[l.val,q.val] W fun e w'=>e= .returned (.bool b)∧Below W.heap.size W w'):=Zz fun W hW q hq hq3 b hb=>fineR_any (HTL.out W hW).2 hq (fun x hx=>by have :=HSM.out.overs x hx;omega) (by have :=HSM.out.flanks;omega) (by omega) (HSM.out.of (by omega)) hb
 go_wp2_with fail
 go_loopw [13] (fun i wr=>∃j:Nat,j≤ps.length∧i= .int .i64 j∧Q wr) (fun i _=>ps.length - (intOf i).toNat)
 case atStart=>exact⟨0,by omega,rfl,hq⟩
 case round=>
  clear hq;obtain⟨j,hj,rfl,hq⟩:=hrel;obtain⟨wa,rfl⟩:∃W,W=wr:=⟨wr,rfl⟩;have hpl:=HPL.out;by_cases hlt:j<ps.length
  · have hlt':(j:Int)<ps.length:=by omega
    obtain⟨q,hq1⟩:∃q,ps[j]? =some q:=⟨_,List.getElem?_eq_getElem hlt⟩;have hqm:=List.mem_of_getElem? hq1;obtain⟨⟨hqs,hqx⟩,hq12,hqc,hqf⟩:=HSV.out q hqm;obtain⟨b6,o6,HA6,HD0,HD⟩:=row_at (f:=Pth.cells) (n:=3) (fun _=>rfl) (by omega) (fun W hW=>(HQ1.out W hW).row) hq hq1;have HF:Hid (∀W,Q W→W.cell? ⟨b6,o6+j*3,none⟩=some (.int .i64 s)∧W.cell? ⟨b6,o6+j*3+1,none⟩=some (.int .i64 x)∧W.cell? ⟨b6,o6+j*3+2,none⟩=some (.slice q.A q.ss.length q.c)):=Zz fun W hW=>
     ⟨by rw[HD0.out W hW _ _ _ hq1 rfl,hqs],by rw[HD.out W hW _ _ 1 _ hq1 rfl,hqx],HD.out W hW _ _ 2 _ hq1 rfl⟩;have K1:Hid (∀W,Q W→Calls Tryz.prog 18 #[l.val,.agg #[.int .i64 s,.int .i64 x,.slice q.A q.ss.length q.c],.slice A vs.length c] W fun e w'=>e= .returned (.bool true)∧Below W.heap.size W w'):=Zz fun W hW=>by
     have :=KIS.out W hW q ((HQ1.out W hW).each q hqm) true hqc;rw[show q.val= .agg #[.int .i64 q.s,.int .i64 q.x,.slice q.A q.ss.length q.c] from rfl,hqs,hqx] at this;exact this
    have K2:Hid (∀W,Q W→Calls Tryz.prog 19 #[l.val,.agg #[.int .i64 s,.int .i64 x,.slice q.A q.ss.length q.c]] W fun e w'=>e= .returned (.bool true)∧Below W.heap.size W w'):=Zz fun W hW=>by
     have :=KFI.out W hW q ((HQ1.out W hW).each q hqm) (by omega) true hqf;rw[show q.val= .agg #[.int .i64 q.s,.int .i64 q.x,.slice q.A q.ss.length q.c] from rfl,hqs,hqx] at this;exact this
    have HQQ:=Zz hq1;have HQV:Hid (q.val= .agg #[.int .i64 s,.int .i64 x,.slice q.A q.ss.length q.c]):=Zz (by rw[←hqs,←hqx]);clear HD0 HD hq1 hqs hqx hqc hqf;rcases Nat.eq_zero_or_pos j with rfl|hj0
    · have HF0:Hid (∀W,Q W→W.cell? ⟨b6,o6,none⟩=some (.int .i64 s)∧W.cell? ⟨b6,o6+1,none⟩=some (.int .i64 x)∧W.cell? ⟨b6,o6+2,none⟩=some (.slice q.A q.ss.length q.c)):=Zz fun W hW=>by simpa using HF.out W hW
      clear HF;go_wp2_with fail;have HBS:Hid (∀W,Below wa.heap.size wa W→Q W):=Zz (fun W hB=>HQ.out _ _ hq hB);clear hq;refine rmx wa f53 (by kernel_rfl) (by kernel_rfl) ?_;simp only[Zg,f53,Lm,Ln];repeat ((first|(refine Zb (by rfl) ?_)|(refine mrd HBS _ (by rfl) (fun W hW=>by(obtain⟨x0,x1,x2,x3,x4,x5,x6,x7,x8,x9,x10⟩:=(HQl.out W hW).c11;obtain⟨c0,c1,c2⟩:=HF0.out W hW;go_simp;first|done|with_reducible rfl)) ?_)|(refine mrd HBS _ (by rfl) (fun W hW=>by(obtain⟨x0,x1,x2,x3,x4,x5,x6,x7,x8,x9,x10⟩:=(HQl.out W hW).c11;obtain⟨c0,c1,c2⟩:=HF0.out W hW;rw[HA6.out];go_simp;first|done|with_reducible rfl)) ?_)|(refine mcl HBS _ _ _ (by rfl) (fun W hW=>by(obtain⟨x0,x1,x2,x3,x4,x5,x6,x7,x8,x9,x10⟩:=(HQl.out W hW).c11;obtain⟨c0,c1,c2⟩:=HF0.out W hW;go_simp;first|done|rfl)) (fun W hW=>K1.out W (HBS.out W hW)) ?_)|(refine mcl HBS _ _ _ (by rfl) (fun W hW=>by(obtain⟨x0,x1,x2,x3,x4,x5,x6,x7,x8,x9,x10⟩:=(HQl.out W hW).c11;obtain⟨c0,c1,c2⟩:=HF0.out W hW;go_simp;first|done|rfl)) (fun W hW=>K2.out W (HBS.out W hW)) ?_));simp only[Act.put,La,Lb,Lc])
      refine Zd (fun W hW=>?_);have hq:=HBS.out W hW;have HBW:=Zz hW;clear hW HBS;go_wp2_with fail;go_roundw
      case rel=>exact⟨1,hlt,by go_num,hq⟩
      case measure=>simp[intOf];omega
    · obtain⟨k,HK⟩:∃k,Hid (j=k+1):=⟨j - 1,Zz (by omega)⟩;have hj0':decide ((0:Int)<(j:Int))=true:=decide_eq_true (by omega);have hj0'':decide (0<j)=true:=decide_eq_true hj0;have hwk:IntKind.i64.wrap ((j:Int) - 1)=(k:Int):=by have :=HK.out;rw[IntWalk.i64_in _ (by omega)];omega
      have hwk2:wrap64 ((j:Int) - 1)=(k:Int):=by have :=HK.out;unfold wrap64;omega
      have hkl:k<ps.length:=by have :=HK.out;omega
      have hkl':(k:Int)<ps.length:=by omega
      obtain⟨q0,hq0⟩:∃q,ps[k]? =some q:=⟨_,List.getElem?_eq_getElem hkl⟩;have hqm0:=List.mem_of_getElem? hq0;obtain⟨_,hq012,_,_⟩:=HSV.out q0 hqm0;obtain⟨b7,o7,HA7,HE0,HEC⟩:=row_at (f:=Pth.cells) (n:=3) (fun _=>rfl) (by omega) (fun W hW=>(HQ1.out W hW).row) hq hq0;have hsame:=HA7.out;rw[HA6.out] at hsame;obtain⟨rfl,rfl⟩:b6=b7∧o6=o7:=by
       have :=Option.some.inj hsame;injection this with e1 e2
       exact⟨e1,e2⟩
      have HF1:Hid (∀W,Q W→W.cell? ⟨b6,o6+k*3,none⟩=some (.int .i64 q0.s)∧W.cell? ⟨b6,o6+k*3+1,none⟩=some (.int .i64 q0.x)∧W.cell? ⟨b6,o6+k*3+2,none⟩=some (.slice q0.A q0.ss.length q0.c)):=Zz fun W hW=>
       ⟨HE0.out W hW _ _ _ hq0 rfl,HEC.out W hW _ _ 1 _ hq0 rfl,HEC.out W hW _ _ 2 _ hq0 rfl⟩;obtain⟨cm,hcm⟩:∃r,cmpR (rowV l q0.ss) (rowV l q.ss)=r:=⟨_,rfl⟩;have hcn:cm<0:=by rw[←hcm];exact all_order HPK.out.1 hq0 (by rw[←HK.out];exact HQQ.out)
      have hcn':decide (0≤cm)=false:=decide_eq_false (by omega);have K3:Hid (∀W,Q W→Calls Tryz.prog 20 #[l.val,q0.val,.agg #[.int .i64 s,.int .i64 x,.slice q.A q.ss.length q.c]] W fun e w'=>e= .returned (.int .i64 cm)∧Below W.heap.size W w'):=Zz fun W hW=>by
       have :=cmpR12_any (HTL.out W hW).2 ((HQ1.out W hW).each q0 hqm0) ((HQ1.out W hW).each q hqm) (by omega) (by omega) hcm;rw[HQV.out] at this;exact this
      clear HE0 HEC hq0 hsame hcm hq012;go_wp2_with fail;have HBS:Hid (∀W,Below wa.heap.size wa W→Q W):=Zz (fun W hB=>HQ.out _ _ hq hB);clear hq;refine rmx wa f53 (by kernel_rfl) (by kernel_rfl) ?_;simp only[Zg,f53,Lm,Ln];repeat ((first|(refine Zb (by rfl) ?_)|(refine mrd HBS _ (by rfl) (fun W hW=>by(obtain⟨x0,x1,x2,x3,x4,x5,x6,x7,x8,x9,x10⟩:=(HQl.out W hW).c11;obtain⟨c0,c1,c2⟩:=HF.out W hW;obtain⟨d0,d1,d2⟩:=HF1.out W hW;go_simp;first|done|with_reducible rfl)) ?_)|(refine mrd HBS _ (by rfl) (fun W hW=>by(obtain⟨x0,x1,x2,x3,x4,x5,x6,x7,x8,x9,x10⟩:=(HQl.out W hW).c11;obtain⟨c0,c1,c2⟩:=HF.out W hW;obtain⟨d0,d1,d2⟩:=HF1.out W hW;rw[HA6.out];go_simp;first|done|with_reducible rfl)) ?_)|(refine mcl HBS _ _ _ (by rfl) (fun W hW=>by(obtain⟨x0,x1,x2,x3,x4,x5,x6,x7,x8,x9,x10⟩:=(HQl.out W hW).c11;obtain⟨c0,c1,c2⟩:=HF.out W hW;obtain⟨d0,d1,d2⟩:=HF1.out W hW;go_simp;first|done|rfl)) (fun W hW=>K1.out W (HBS.out W hW)) ?_)|(refine mcl HBS _ _ _ (by rfl) (fun W hW=>by(obtain⟨x0,x1,x2,x3,x4,x5,x6,x7,x8,x9,x10⟩:=(HQl.out W hW).c11;obtain⟨c0,c1,c2⟩:=HF.out W hW;obtain⟨d0,d1,d2⟩:=HF1.out W hW;go_simp;first|done|rfl)) (fun W hW=>K2.out W (HBS.out W hW)) ?_)|(refine mcl HBS _ _ _ (by rfl) (fun W hW=>by(obtain⟨x0,x1,x2,x3,x4,x5,x6,x7,x8,x9,x10⟩:=(HQl.out W hW).c11;obtain⟨c0,c1,c2⟩:=HF.out W hW;obtain⟨d0,d1,d2⟩:=HF1.out W hW;go_simp;first|done|rfl)) (fun W hW=>K3.out W (HBS.out W hW)) ?_));simp only[Act.put,La,Lb,Lc])
      refine Zd (fun W hW=>?_);have hq:=HBS.out W hW;have HBW:=Zz hW;clear hW HBS;go_wp2_with fail;go_roundw
      case rel=>exact⟨j+1,hlt,by go_num,hq⟩
      case measure=>simp[intOf];omega
  · obtain rfl:j=ps.length:=by omega
    obtain⟨b1,hb1⟩:∃b,(check11 l p vs==0)=b:=⟨_,rfl⟩;obtain⟨b2,hb2⟩:∃b,(!clashN (ofV l p))=b:=⟨_,rfl⟩;have K1:=Zz (fun W hW=>KIS.out W hW p (HPH.out W hW) b1 hb1);have K2:=Zz (fun W hW=>KFI.out W hW p (HPH.out W hW) HP30.out b2 hb2);have HBB:=Zz (And.intro hb1 hb2);clear hb1 hb2 KIS KFI;have hcases:(ps.length=0∧(e0=140∨e0=2))∨(0<ps.length∧e0=0):=HEE.out;clear HEE HE;have K1:Hid (∀W,Q W→Calls Tryz.prog 18 #[l.val,.agg #[.int .i64 p.s,.int .i64 p.x,.slice p.A p.ss.length p.c],.slice A vs.length c] W fun e w'=>e= .returned (.bool b1)∧Below W.heap.size W w'):=K1;have K2:Hid (∀W,Q W→Calls Tryz.prog 19 #[l.val,.agg #[.int .i64 p.s,.int .i64 p.x,.slice p.A p.ss.length p.c]] W fun e w'=>e= .returned (.bool b2)∧Below W.heap.size W w'):=K2;rcases hcases with ⟨hz,rfl|rfl⟩|⟨hz,rfl⟩
    · have HNIL:Hid (ps.any (fun q=>sameP q p)=true→False):=Zz fun h=>by rw[List.eq_nil_of_length_eq_zero hz] at h;cases h
      rw[hz];obtain⟨x0,x1,x2,x3,x4,x5,x6,x7,x8,x9,x10⟩:=(HQl.out _ hq).c11;obtain⟨y0,y1,y2⟩:=(HQh.out _ hq).c3;by_cases hs:p.s=s
      rotate_left
      · have hs':(p.s != s)=true:=by simp[hs]
        have hs2:(p.s==s)=false:=beq_false_of_ne hs;go_wp2_with fail;refine(KW.out _ hq).mono ?_;rintro e w9 ⟨rfl,hp⟩;have HZ:=Zz hp;clear hp hq;go_wp2_with fail;go_ret;exact⟨rfl,HZ.out⟩
      by_cases hx:p.x=x
      rotate_left
      · have hx':(p.x != x)=true:=by simp[hx]
        have hx2:(p.x==x)=false:=beq_false_of_ne hx;rw[hs] at y0;go_wp2_with fail;refine(KW.out _ hq).mono ?_;rintro e w9 ⟨rfl,hp⟩;have HZ:=Zz hp;clear hp hq;go_wp2_with fail;go_ret;exact⟨rfl,HZ.out⟩
      rw[hs] at y0;rw[hx] at y1;have HSX:=Zz (And.intro hs hx);rw[hs,hx] at K1 K2;clear hs hx;go_wp2_with fail;refine(K1.out _ hq).mono ?_;rintro e w3 ⟨rfl,hb⟩;have hq:=HQ.out _ _ hq hb;clear x0 x1 x2 x3 x4 x5 x6 x7 x8 x9 x10 y0 y1 y2 hb;cases b1
      · go_wp2_with fail;refine(KW.out _ hq).mono ?_;rintro e w9 ⟨rfl,hp⟩;have HZ:=Zz hp;clear hp hq;go_wp2_with fail;go_ret;exact⟨rfl,HZ.out⟩
      obtain⟨x0,x1,x2,x3,x4,x5,x6,x7,x8,x9,x10⟩:=(HQl.out _ hq).c11;obtain⟨y0,y1,y2⟩:=(HQh.out _ hq).c3;rw[HSX.out.1] at y0;rw[HSX.out.2] at y1;go_wp2_with fail;refine(K2.out _ hq).mono ?_;rintro e w4 ⟨rfl,hb⟩;have hq:=HQ.out _ _ hq hb;clear x0 x1 x2 x3 x4 x5 x6 x7 x8 x9 x10 y0 y1 y2 hb;cases b2
      · go_wp2_with fail;refine(KW.out _ hq).mono ?_;rintro e w9 ⟨rfl,hp⟩;have HZ:=Zz hp;clear hp hq;go_wp2_with fail;go_ret;exact⟨rfl,HZ.out⟩
      have HSM2:Hid (p.ss ∈ allV l s x vs):=Zz (mem_all.2 (by have :=serve_of HBB.out.1 HBB.out.2;rwa [HSX.out.1,HSX.out.2] at this));have HAN:Hid (ps.any (fun q=>sameP q p)=true):=Zz (by
       have h1:=HSM2.out;rw[←HPK.out.1] at h1;obtain⟨q,hq1,hq2⟩:=List.mem_map.1 h1;exact List.any_eq_true.2 ⟨q,hq1,sameP_of ((HPK.out.2 q hq1).1.trans HSX.out.1.symm) ((HPK.out.2 q hq1).2.trans HSX.out.2.symm) hq2⟩);exact(HNIL.out HAN.out).elim
    · have HNIL:Hid (ps.any (fun q=>sameP q p)=true→False):=Zz fun h=>by rw[List.eq_nil_of_length_eq_zero hz] at h;cases h
      rw[hz];obtain⟨x0,x1,x2,x3,x4,x5,x6,x7,x8,x9,x10⟩:=(HQl.out _ hq).c11;obtain⟨y0,y1,y2⟩:=(HQh.out _ hq).c3;by_cases hs:p.s=s
      rotate_left
      · have hs':(p.s != s)=true:=by simp[hs]
        have hs2:(p.s==s)=false:=beq_false_of_ne hs;go_wp2_with fail;refine(KW.out _ hq).mono ?_;rintro e w9 ⟨rfl,hp⟩;have HZ:=Zz hp;clear hp hq;go_wp2_with fail;go_ret;exact⟨rfl,HZ.out⟩
      by_cases hx:p.x=x
      rotate_left
      · have hx':(p.x != x)=true:=by simp[hx]
        have hx2:(p.x==x)=false:=beq_false_of_ne hx;rw[hs] at y0;go_wp2_with fail;refine(KW.out _ hq).mono ?_;rintro e w9 ⟨rfl,hp⟩;have HZ:=Zz hp;clear hp hq;go_wp2_with fail;go_ret;exact⟨rfl,HZ.out⟩
      rw[hs] at y0;rw[hx] at y1;have HSX:=Zz (And.intro hs hx);rw[hs,hx] at K1 K2;clear hs hx;go_wp2_with fail;refine(K1.out _ hq).mono ?_;rintro e w3 ⟨rfl,hb⟩;have hq:=HQ.out _ _ hq hb;clear x0 x1 x2 x3 x4 x5 x6 x7 x8 x9 x10 y0 y1 y2 hb;cases b1
      · go_wp2_with fail;refine(KW.out _ hq).mono ?_;rintro e w9 ⟨rfl,hp⟩;have HZ:=Zz hp;clear hp hq;go_wp2_with fail;go_ret;exact⟨rfl,HZ.out⟩
      obtain⟨x0,x1,x2,x3,x4,x5,x6,x7,x8,x9,x10⟩:=(HQl.out _ hq).c11;obtain⟨y0,y1,y2⟩:=(HQh.out _ hq).c3;rw[HSX.out.1] at y0;rw[HSX.out.2] at y1;go_wp2_with fail;refine(K2.out _ hq).mono ?_;rintro e w4 ⟨rfl,hb⟩;have hq:=HQ.out _ _ hq hb;clear x0 x1 x2 x3 x4 x5 x6 x7 x8 x9 x10 y0 y1 y2 hb;cases b2
      · go_wp2_with fail;refine(KW.out _ hq).mono ?_;rintro e w9 ⟨rfl,hp⟩;have HZ:=Zz hp;clear hp hq;go_wp2_with fail;go_ret;exact⟨rfl,HZ.out⟩
      have HSM2:Hid (p.ss ∈ allV l s x vs):=Zz (mem_all.2 (by have :=serve_of HBB.out.1 HBB.out.2;rwa [HSX.out.1,HSX.out.2] at this));have HAN:Hid (ps.any (fun q=>sameP q p)=true):=Zz (by
       have h1:=HSM2.out;rw[←HPK.out.1] at h1;obtain⟨q,hq1,hq2⟩:=List.mem_map.1 h1;exact List.any_eq_true.2 ⟨q,hq1,sameP_of ((HPK.out.2 q hq1).1.trans HSX.out.1.symm) ((HPK.out.2 q hq1).2.trans HSX.out.2.symm) hq2⟩);exact(HNIL.out HAN.out).elim
    have hz':(0:Int)<ps.length:=by omega
    obtain⟨x0,x1,x2,x3,x4,x5,x6,x7,x8,x9,x10⟩:=(HQl.out _ hq).c11;obtain⟨y0,y1,y2⟩:=(HQh.out _ hq).c3;by_cases hs:p.s=s
    rotate_left
    · have hs':(p.s != s)=true:=by simp[hs]
      have hs2:(p.s==s)=false:=beq_false_of_ne hs;go_wp2_with fail;refine(KW.out _ hq).mono ?_;rintro e w9 ⟨rfl,hp⟩;have HZ:=Zz hp;clear hp hq;go_wp2_with fail;go_ret;exact⟨rfl,HZ.out⟩
    by_cases hx:p.x=x
    rotate_left
    · have hx':(p.x != x)=true:=by simp[hx]
      have hx2:(p.x==x)=false:=beq_false_of_ne hx;rw[hs] at y0;go_wp2_with fail;refine(KW.out _ hq).mono ?_;rintro e w9 ⟨rfl,hp⟩;have HZ:=Zz hp;clear hp hq;go_wp2_with fail;go_ret;exact⟨rfl,HZ.out⟩
    rw[hs] at y0;rw[hx] at y1;have HSX:=Zz (And.intro hs hx);rw[hs,hx] at K1 K2;clear hs hx;go_wp2_with fail;refine(K1.out _ hq).mono ?_;rintro e w3 ⟨rfl,hb⟩;have hq:=HQ.out _ _ hq hb;clear x0 x1 x2 x3 x4 x5 x6 x7 x8 x9 x10 y0 y1 y2 hb;cases b1
    · go_wp2_with fail;refine(KW.out _ hq).mono ?_;rintro e w9 ⟨rfl,hp⟩;have HZ:=Zz hp;clear hp hq;go_wp2_with fail;go_ret;exact⟨rfl,HZ.out⟩
    obtain⟨x0,x1,x2,x3,x4,x5,x6,x7,x8,x9,x10⟩:=(HQl.out _ hq).c11;obtain⟨y0,y1,y2⟩:=(HQh.out _ hq).c3;rw[HSX.out.1] at y0;rw[HSX.out.2] at y1;go_wp2_with fail;refine(K2.out _ hq).mono ?_;rintro e w4 ⟨rfl,hb⟩;have hq:=HQ.out _ _ hq hb;clear x0 x1 x2 x3 x4 x5 x6 x7 x8 x9 x10 y0 y1 y2 hb;cases b2
    · go_wp2_with fail;refine(KW.out _ hq).mono ?_;rintro e w9 ⟨rfl,hp⟩;have HZ:=Zz hp;clear hp hq;go_wp2_with fail;go_ret;exact⟨rfl,HZ.out⟩
    have HSM2:Hid (p.ss ∈ allV l s x vs):=Zz (mem_all.2 (by have :=serve_of HBB.out.1 HBB.out.2;rwa [HSX.out.1,HSX.out.2] at this));have HAN:Hid (ps.any (fun q=>sameP q p)=true):=Zz (by
     have h1:=HSM2.out;rw[←HPK.out.1] at h1;obtain⟨q,hq1,hq2⟩:=List.mem_map.1 h1;exact List.any_eq_true.2 ⟨q,hq1,sameP_of ((HPK.out.2 q hq1).1.trans HSX.out.1.symm) ((HPK.out.2 q hq1).2.trans HSX.out.2.symm) hq2⟩);go_wp2_with fail;go_loopw [14,15] (fun b i wr=>∃(j:Nat) (bt:Bool),j≤ps.length∧b= .bool bt∧i= .int .i64 j∧Q wr∧Hid ((ps.take j).any (fun q=>sameP q p)=bt)) (fun _ i _=>ps.length - (intOf i).toNat)
    case atStart=>exact⟨0,false,Nat.zero_le _,rfl,rfl,hq,Zz rfl⟩
    case round=>
     clear hq;obtain⟨j,bt,hj,rfl,rfl,hq,HB⟩:=hrel;obtain⟨wa,rfl⟩:∃W,W=wr:=⟨wr,rfl⟩;have hpl:=HPL.out;by_cases hlt:j<ps.length
     · have hlt':(j:Int)<ps.length:=by omega
       obtain⟨q,hq1⟩:∃q,ps[j]? =some q:=⟨_,List.getElem?_eq_getElem hlt⟩;obtain⟨sm,hsm⟩:∃b,sameP q p=b:=⟨_,rfl⟩;have HN:Hid ((ps.take (j+1)).any (fun q=>sameP q p)=(bt||sm)):=Zz (by rw[List.take_add_one,hq1,Option.toList_some,List.any_append,HB.out,←hsm];simp);obtain⟨b6,o6,HA6,HD0,HD⟩:=row_at (f:=Pth.cells) (n:=3) (fun _=>rfl) (by omega) (fun W hW=>(HQ1.out W hW).row) hq hq1;have HF:Hid (∀W,Q W→(W.cell? ⟨b6,o6+j*3,none⟩=some (.int .i64 q.s)∧W.cell? ⟨b6,o6+j*3+1,none⟩=some (.int .i64 q.x)∧W.cell? ⟨b6,o6+j*3+2,none⟩=some (.slice q.A q.ss.length q.c))∧Whole W (w.heap.size+1) 46 p.cells):=Zz fun W hW=>
        ⟨⟨HD0.out W hW _ _ _ hq1 rfl,HD.out W hW _ _ 1 _ hq1 rfl,HD.out W hW _ _ 2 _ hq1 rfl⟩,HQh.out W hW⟩;have KS:Hid (∀W,Q W→Calls Tryz.prog 21 #[q.val,p.val] W fun e w'=>e= .returned (.bool sm)∧Below W.heap.size W w'):=Zz fun W hW=>
        sameR12_any ((HQ1.out W hW).each _ (List.mem_of_getElem? hq1)) (HPH.out W hW) hsm;clear HD0 HD hq1 hsm HB;cases bt
       · skip
         go_wp2_with fail;have HBS:Hid (∀W,Below wa.heap.size wa W→Q W):=Zz (fun W hB=>HQ.out _ _ hq hB);clear hq;refine rmx wa f10 (by kernel_rfl) (by kernel_rfl) ?_;simp only[Zg,f10,Lm,Ln];repeat ((first|(refine Zb (by rfl) ?_)|(refine mrd HBS _ (by rfl) (fun W hW=>by(obtain⟨⟨c0,c1,c2⟩,m1⟩:=HF.out W hW;obtain⟨y0,y1,y2⟩:=m1.c3;clear m1;go_simp;first|done|with_reducible rfl)) ?_)|(refine mrd HBS _ (by rfl) (fun W hW=>by(obtain⟨⟨c0,c1,c2⟩,m1⟩:=HF.out W hW;obtain⟨y0,y1,y2⟩:=m1.c3;clear m1;rw[HA6.out];go_simp;first|done|with_reducible rfl)) ?_)|(refine mcl HBS _ _ _ (by rfl) (fun W hW=>by(obtain⟨⟨c0,c1,c2⟩,m1⟩:=HF.out W hW;obtain⟨y0,y1,y2⟩:=m1.c3;clear m1;go_simp;first|done|rfl)) (fun W hW=>KS.out W (HBS.out W hW)) ?_));simp only[Act.put,La,Lb,Lc])
         refine Zd (fun W hW=>?_);have hq:=HBS.out W hW;have HBW:=Zz hW;clear hW HBS;go_wp2_with fail;go_roundw
         case rel=>exact⟨j+1,_,hlt,rfl,by go_num,hq,Zz (by rw[HN.out];first|done|rfl|simp)⟩
         case measure=>simp[intOf];omega
       · skip
         go_wp2_with fail;have HBS:Hid (∀W,Below wa.heap.size wa W→Q W):=Zz (fun W hB=>HQ.out _ _ hq hB);clear hq;refine rmx wa f10 (by kernel_rfl) (by kernel_rfl) ?_;simp only[Zg,f10,Lm,Ln];repeat ((first|(refine Zb (by rfl) ?_)|(refine mrd HBS _ (by rfl) (fun W hW=>by(obtain⟨⟨c0,c1,c2⟩,m1⟩:=HF.out W hW;obtain⟨y0,y1,y2⟩:=m1.c3;clear m1;go_simp;first|done|with_reducible rfl)) ?_)|(refine mrd HBS _ (by rfl) (fun W hW=>by(obtain⟨⟨c0,c1,c2⟩,m1⟩:=HF.out W hW;obtain⟨y0,y1,y2⟩:=m1.c3;clear m1;rw[HA6.out];go_simp;first|done|with_reducible rfl)) ?_)|(refine mcl HBS _ _ _ (by rfl) (fun W hW=>by(obtain⟨⟨c0,c1,c2⟩,m1⟩:=HF.out W hW;obtain⟨y0,y1,y2⟩:=m1.c3;clear m1;go_simp;first|done|rfl)) (fun W hW=>KS.out W (HBS.out W hW)) ?_));simp only[Act.put,La,Lb,Lc])
         refine Zd (fun W hW=>?_);have hq:=HBS.out W hW;have HBW:=Zz hW;clear hW HBS;go_wp2_with fail;go_roundw
         case rel=>exact⟨j+1,_,hlt,rfl,by go_num,hq,Zz (by rw[HN.out];first|done|rfl|simp)⟩
         case measure=>simp[intOf];omega
     · obtain rfl:j=ps.length:=by omega
       obtain rfl:bt=true:=by have h1:=HB.out;rw[List.take_length,HAN.out] at h1;exact h1.symm
       go_wp2_with fail;refine(KW.out _ hq).mono ?_;rintro e w9 ⟨rfl,hp⟩;have HZ:=Zz hp;clear hp hq;go_wp2_with fail;go_ret;exact⟨rfl,HZ.out⟩
end
section
open Go.RowKit Go.Shelf
theorem searchWhole_walk (s x:Int) {vs:List Int} {A:Option Addr} {c:Nat} {p:Pth} {l:Lay} {w:World} (hT:Shapes w) (hL:Lies l w) (hf:FWf l) (hR:Row w w.heap.size A (nums .i64 vs)) (hcap:vs.length≤c) (hmax:c≤maxLen) (hp:PLies p w):
 Calls Tryz.prog 4 #[l.val,.int .i64 s,.int .i64 x,.slice A vs.length c,p.val] w fun e w'=>e= .returned (.bool true)∧Below w.heap.size w w':=
 searchWhole_P (P:=fun W=>Below w.heap.size w W) (Closed.below w) (fun W h=>Shapes.closed _ _ hT h) (fun W h=>Lies.closed l _ _ hL h) hf s x (fun W h=>hR.on h) hcap (by unfold maxLen at hmax;omega) (fun W h=>PLies.closed p _ _ hp h) (Below.refl _ _)
end
end Go.Proofs.YtifnlhfinjfajaaGreatDoor
