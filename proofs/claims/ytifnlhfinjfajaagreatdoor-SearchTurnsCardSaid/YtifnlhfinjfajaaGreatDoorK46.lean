/- Of this seat: LwG_1, SearchTurns. -/
import Derived.Test.YtifnlhfinjfajaaGreatDoorK34
import Derived.Test.YtifnlhfinjfajaaGreatDoorK38
import Derived.Test.YtifnlhfinjfajaaGreatDoorK45
namespace Go.Proofs.YtifnlhfinjfajaaGreatDoor
set_option linter.unusedVariables false
set_option linter.unusedSimpArgs false
set_option maxRecDepth 100000
set_option maxHeartbeats 32000000
section
open Go.RowKit Go.Shelf
attribute [local go_sem] Oper.semAt_some
theorem searchTurns_P {P:World→Prop} {w:World} (hP:Closed P) (hT:∀w,P w→Shapes w) {l:Lay} (hL:∀w,P w→Lies l w) (hf:FWf l) (s x t:Int) (h:P w):
 Calls Tryz.prog 5 #[l.val,.int .i64 s,.int .i64 x,.int .u64 t] w fun e w'=>e= .returned (.bool true)∧P w':=by
 obtain⟨Q,HQ,HQp,HQl,hq⟩:=keep_box hP h 29 l.cells
 have KW:=Zz (fun W (hW:Q W)=>wakes14_P hP hT (HQp.out W hW))
 have HTL:Hid (∀W,Q W→Shapes W∧Lies l W):=Zz fun W hW=>⟨hT W (HQp.out W hW),hL W (HQp.out W hW)⟩
 have KG:Hid (∀W,Q W→Calls Tryz.prog 8 #[l.val] W fun e w'=>e= .returned (.bool (great14 l))∧Q w'):=Zz fun W hW=>great14_P HQ.out (fun W hW=>hL W (HQp.out W hW)) rfl hW
 have HFW:=Zz hf
 obtain⟨g,hg⟩:∃g,great14 l=g:=⟨_,rfl⟩
 rw[hg] at KG
 have HG:=Zz hg
 obtain⟨rt,hrt⟩:∃g,rightT l=g:=⟨_,rfl⟩
 have KR:Hid (∀W,Q W→Calls Tryz.prog 22 #[l.val] W fun e w'=>e= .returned (.bool rt)∧Q w'):=Zz fun W hW=>by
  refine(rightRT_any (HTL.out W hW).2 hrt).mono ?_;rintro e w' ⟨h1,h2⟩;exact⟨h1,HQ.out _ _ hW h2⟩
 clear hP hT hL h hf hg hrt
 go_enter Tryz.func5,Tryz.ntmps5
 obtain⟨x0,x1,x2,x3,x4,x5,x6,x7,x8,x9,x10⟩:=(HQl.out _ hq).c11
 go_wp2_with fail
 refine(KG.out _ hq).mono ?_
 rintro e w1 ⟨rfl,hq⟩
 clear x0 x1 x2 x3 x4 x5 x6 x7 x8 x9 x10 KG
 cases g
 rotate_left
 · go_wp2_with fail;refine(KW.out _ hq).mono ?_;rintro e w9 ⟨rfl,hp⟩;have HZ:=Zz hp;clear hp hq;go_wp2_with fail;go_ret;exact⟨rfl,HZ.out⟩
 have HSM:=Zz (great14_no HFW.out HG.out)
 clear HG HFW
 obtain⟨x0,x1,x2,x3,x4,x5,x6,x7,x8,x9,x10⟩:=(HQl.out _ hq).c11
 go_wp2_with fail
 refine(KR.out _ hq).mono ?_
 rintro e w1 ⟨rfl,hq⟩
 clear x0 x1 x2 x3 x4 x5 x6 x7 x8 x9 x10 KR
 have x1:=(HQl.out _ hq).Za 1 rfl
 have x2:=(HQl.out _ hq).Za 2 rfl
 cases rt
 · go_wp2_with fail;refine(KW.out _ hq).mono ?_;rintro e w9 ⟨rfl,hp⟩;have HZ:=Zz hp;clear hp hq;go_wp2_with fail;go_ret;exact⟨rfl,HZ.out⟩
 by_cases hs0:s<0
 · go_wp2_with fail;refine(KW.out _ hq).mono ?_;rintro e w9 ⟨rfl,hp⟩;have HZ:=Zz hp;clear hp hq;go_wp2_with fail;go_ret;exact⟨rfl,HZ.out⟩
 by_cases hs1:(l.sigs.length:Int)≤s
 · go_wp2_with fail;refine(KW.out _ hq).mono ?_;rintro e w9 ⟨rfl,hp⟩;have HZ:=Zz hp;clear hp hq;go_wp2_with fail;go_ret;exact⟨rfl,HZ.out⟩
 by_cases hx0:x<0
 · go_wp2_with fail;refine(KW.out _ hq).mono ?_;rintro e w9 ⟨rfl,hp⟩;have HZ:=Zz hp;clear hp hq;go_wp2_with fail;go_ret;exact⟨rfl,HZ.out⟩
 by_cases hx1:(l.exits.length:Int)≤x
 · go_wp2_with fail;refine(KW.out _ hq).mono ?_;rintro e w9 ⟨rfl,hp⟩;have HZ:=Zz hp;clear hp hq;go_wp2_with fail;go_ret;exact⟨rfl,HZ.out⟩
 obtain⟨sn,rfl⟩:∃n:Nat,s=n:=⟨s.toNat,by omega⟩
 obtain⟨xn,rfl⟩:∃n:Nat,x=n:=⟨x.toNat,by omega⟩
 have hs2:sn<l.sigs.length:=by omega
 have hx2:xn<l.exits.length:=by omega
 have hs3:¬l.sigs.length≤sn:=by omega
 have hx3:¬l.exits.length≤xn:=by omega
 have KWK:=Zz (walked_any (HTL.out _ hq).2 hs2 hx2 t)
 clear x1 x2
 obtain⟨x0,x1,x2,x3,x4,x5,x6,x7,x8,x9,x10⟩:=(HQl.out _ hq).c11
 go_wp2_with fail
 refine KWK.out.mono ?_
 rintro e w2 ⟨A,c,ss,r,rfl,hrow,hss,hB⟩
 have HB:=Zz hB
 have hq:=HQ.out _ _ hq hB
 clear KWK hB x0 x1 x2 x3 x4 x5 x6 x7 x8 x9 x10 hs0 hs1 hx0 hx1 hs2 hx2 hs3 hx3
 have HRW:=Zz hrow
 have HSS:=Zz hss
 clear hrow hss
 go_upto_region 4 with (fail)
 obtain⟨p,HPE⟩:∃p:Pth,Hid ((⟨sn,xn,A,c,ss⟩:Pth)=p):=⟨_,Zz rfl⟩
 obtain⟨w3,hw3⟩:∃W,w2.alloc (.cells #[.int .i64 sn,.int .i64 xn,.slice A ss.length c] 46)=W:=⟨_,rfl⟩
 try rw[hw3]
 have hb3:Below w2.heap.size w2 w3:=by rw[←hw3];exact below1 _ _
 have hbx:Whole w3 w2.heap.size 46 p.cells:=by rw[←hw3,←HPE.out];exact Whole.new _ _ [_,_,_]
 have hq:=HQ.out _ _ hq hb3
 have hpl:PLies p w3:=by rw[←HPE.out];exact⟨HRW.out.on hb3,by have :=HSS.out;show((ss.length:Nat):Int)≤_;omega⟩
 have HPS:Hid (p.s=sn∧p.x=xn∧p.ss.length≤12):=Zz (by rw[←HPE.out];exact⟨rfl,rfl,HSS.out⟩)
 obtain⟨gp,hgp⟩:∃n,w2.heap.size=n:=⟨_,rfl⟩
 rw[hgp] at hbx
 try rw[hgp]
 clear hw3 hb3 HB hgp HPE HRW HSS
 obtain⟨Q,HQ,HQa,HQ1,hq⟩:=and_more HQ ((PLies.closed p).and (Closed.whole gp 46 p.cells)) hq ⟨hpl,hbx⟩
 replace HQp:=Zz (fun W hW=>HQp.out W (HQa.out W hW))
 replace HQl:=Zz (fun W hW=>HQl.out W (HQa.out W hW))
 replace HTL:=Zz (fun W hW=>HTL.out W (HQa.out W hW))
 replace KW:=Zz (fun W hW=>KW.out W (HQa.out W hW))
 clear HQa hpl hbx
 cases r
 · go_wp2_with fail;refine(KW.out _ hq).mono ?_;rintro e w9 ⟨rfl,hp⟩;have HZ:=Zz hp;clear hp hq;go_wp2_with fail;go_ret;exact⟨rfl,HZ.out⟩
 obtain⟨b1,hb1⟩:∃b,(check11 l p []==0)=b:=⟨_,rfl⟩
 obtain⟨b2,hb2⟩:∃b,(!clashN (ofV l p))=b:=⟨_,rfl⟩
 have K1:Hid (∀W,Q W→Calls Tryz.prog 18 #[l.val,p.val,.slice none 0 0] W fun e w'=>e= .returned (.bool b1)∧Q w'):=Zz fun W hW=>by
  refine(isR11_any (vs:=[]) (A:=none) (c:=0) (HTL.out W hW).2 (HQ1.out W hW).1 (Row.nil _ _ _) (by simp) hb1).mono ?_;rintro e w' ⟨h1,h2⟩;exact⟨h1,HQ.out _ _ hW h2⟩
 have K2:Hid (∀W,Q W→Calls Tryz.prog 19 #[l.val,p.val] W fun e w'=>e= .returned (.bool b2)∧Q w'):=Zz fun W hW=>by
  refine(fineR_any (HTL.out W hW).2 (HQ1.out W hW).1 (fun x hx=>by have :=HSM.out.overs x hx;omega) (by have :=HSM.out.flanks;omega) (by have :=HPS.out.2.2;omega) (HSM.out.of (by have :=HPS.out.2.2;omega)) hb2).mono ?_;rintro e w' ⟨h1,h2⟩;exact⟨h1,HQ.out _ _ hW h2⟩
 have HBB:=Zz (And.intro hb1 hb2)
 clear hb1 hb2
 obtain⟨x0,x1,x2,x3,x4,x5,x6,x7,x8,x9,x10⟩:=(HQl.out _ hq).c11
 obtain⟨y0,y1,y2⟩:=((HQ1.out _ hq).2).c3
 go_wp2_with fail
 refine(K1.out _ hq).mono ?_
 rintro e w4 ⟨rfl,hq⟩
 clear K1 x0 x1 x2 x3 x4 x5 x6 x7 x8 x9 x10 y0 y1 y2
 cases b1
 · go_wp2_with fail;refine(KW.out _ hq).mono ?_;rintro e w9 ⟨rfl,hp⟩;have HZ:=Zz hp;clear hp hq;go_wp2_with fail;go_ret;exact⟨rfl,HZ.out⟩
 obtain⟨x0,x1,x2,x3,x4,x5,x6,x7,x8,x9,x10⟩:=(HQl.out _ hq).c11
 obtain⟨y0,y1,y2⟩:=((HQ1.out _ hq).2).c3
 go_wp2_with fail
 refine(K2.out _ hq).mono ?_
 rintro e w4 ⟨rfl,hq⟩
 clear K2 x0 x1 x2 x3 x4 x5 x6 x7 x8 x9 x10 y0 y1 y2
 cases b2
 · go_wp2_with fail;refine(KW.out _ hq).mono ?_;rintro e w9 ⟨rfl,hp⟩;have HZ:=Zz hp;clear hp hq;go_wp2_with fail;go_ret;exact⟨rfl,HZ.out⟩
 have HSV:Hid (p.ss ∈ allV l sn xn []):=Zz (mem_all.2 (by have :=serve_of HBB.out.1 HBB.out.2;rwa [HPS.out.1,HPS.out.2.1] at this))
 have HE0:Hid (errA l sn xn []=0):=Zz (err_ok.2 fun e=>by have :=HSV.out;rw[e] at this;cases this)
 clear HBB
 have KA:=all_K HQ HTL HSM.out sn xn (vs:=[]) (A:=none) (c:=0) (fun W _=>Row.nil _ _ _) (by simp) (by simp) rfl HE0.out
 obtain⟨x0,x1,x2,x3,x4,x5,x6,x7,x8,x9,x10⟩:=(HQl.out _ hq).c11
 go_wp2_with fail
 refine(KA.out _ hq).mono ?_
 rintro e w5 ⟨A1,c1,ps,rfl,hps,hpv,hpk,hq⟩
 clear KA x0 x1 x2 x3 x4 x5 x6 x7 x8 x9 x10
 obtain⟨Q,HQ,HQa,HQ2,hq⟩:=and_more HQ (Zr.closed ps A1) hq hps
 replace HQp:=Zz (fun W hW=>HQp.out W (HQa.out W hW))
 replace HQ1:=Zz (fun W hW=>HQ1.out W (HQa.out W hW))
 replace KW:=Zz (fun W hW=>KW.out W (HQa.out W hW))
 have HAN:Hid (ps.any (fun q=>sameP q p)=true):=Zz (by
  have h1:=HSV.out;rw[←hpv] at h1;obtain⟨q,hq1,hq2⟩:=List.mem_map.1 h1;exact List.any_eq_true.2 ⟨q,hq1,sameP_of ((hpk q hq1).1.trans HPS.out.1.symm) ((hpk q hq1).2.trans HPS.out.2.1.symm) hq2⟩)
 have HPL:Hid (ps.length≤3072):=Zz (by have h:=congrArg List.length hpv;rw[List.length_map] at h;rw[h];exact HSM.out.all sn xn [])
 clear HQa hps hpv hpk
 go_wp2_with fail
 go_loopw [13,14] (fun b i wr=>∃(j:Nat) (bt:Bool),j≤ps.length∧b= .bool bt∧i= .int .i64 j∧Q wr∧Hid ((ps.take j).any (fun q=>sameP q p)=bt)) (fun _ i _=>ps.length - (intOf i).toNat)
 case atStart=>exact⟨0,false,Nat.zero_le _,rfl,rfl,hq,Zz rfl⟩
 case round=>
  clear hq;obtain⟨j,bt,hj,rfl,rfl,hq,HB⟩:=hrel;obtain⟨wa,rfl⟩:∃W,W=wr:=⟨wr,rfl⟩;have hpl:=HPL.out;by_cases hlt:j<ps.length
  · have hlt':(j:Int)<ps.length:=by omega
    obtain⟨q,hq1⟩:∃q,ps[j]? =some q:=⟨_,List.getElem?_eq_getElem hlt⟩;obtain⟨sm,hsm⟩:∃b,sameP q p=b:=⟨_,rfl⟩;have HN:Hid ((ps.take (j+1)).any (fun q=>sameP q p)=(bt||sm)):=Zz (by rw[List.take_add_one,hq1,Option.toList_some,List.any_append,HB.out,←hsm];simp);obtain⟨b6,o6,HA6,HD0,HD⟩:=row_at (f:=Pth.cells) (n:=3) (fun _=>rfl) (by omega) (fun W hW=>(HQ2.out W hW).row) hq hq1;have HF:Hid (∀W,Q W→(W.cell? ⟨b6,o6+j*3,none⟩=some (.int .i64 q.s)∧W.cell? ⟨b6,o6+j*3+1,none⟩=some (.int .i64 q.x)∧W.cell? ⟨b6,o6+j*3+2,none⟩=some (.slice q.A q.ss.length q.c))∧Whole W gp 46 p.cells):=Zz fun W hW=>
     ⟨⟨HD0.out W hW _ _ _ hq1 rfl,HD.out W hW _ _ 1 _ hq1 rfl,HD.out W hW _ _ 2 _ hq1 rfl⟩,(HQ1.out W hW).2⟩;have KS:Hid (∀W,Q W→Calls Tryz.prog 21 #[q.val,p.val] W fun e w'=>e= .returned (.bool sm)∧Below W.heap.size W w'):=Zz fun W hW=>
     sameR12_any ((HQ2.out W hW).each _ (List.mem_of_getElem? hq1)) (HQ1.out W hW).1 hsm;clear HD0 HD hq1 hsm HB;cases bt
    · skip
      go_wp2_with fail;have HBS:Hid (∀W,Below wa.heap.size wa W→Q W):=Zz (fun W hB=>HQ.out _ _ hq hB);clear hq;refine rmx wa f10 (by kernel_rfl) (by kernel_rfl) ?_;simp only[Zg,f10,Lm,Ln];repeat ((first|(refine Zb (by rfl) ?_)|(refine mrd HBS _ (by rfl) (fun W hW=>by(obtain⟨⟨c0,c1,c2⟩,m1⟩:=HF.out W hW;obtain⟨y0,y1,y2⟩:=m1.c3;clear m1;go_simp;first|done|with_reducible rfl)) ?_)|(refine mrd HBS _ (by rfl) (fun W hW=>by(obtain⟨⟨c0,c1,c2⟩,m1⟩:=HF.out W hW;obtain⟨y0,y1,y2⟩:=m1.c3;clear m1;rw[HA6.out];go_simp;first|done|with_reducible rfl)) ?_)|(refine mcl HBS _ _ _ (by rfl) (fun W hW=>by(obtain⟨⟨c0,c1,c2⟩,m1⟩:=HF.out W hW;obtain⟨y0,y1,y2⟩:=m1.c3;clear m1;go_simp;first|done|rfl)) (fun W hW=>KS.out W (HBS.out W hW)) ?_));simp only[Act.put,La,Lb,Lc])
      refine Zd (fun W hW=>?_);have hq:=HBS.out W hW;have HBW:=Zz hW;clear hW HBS;go_wp2_with fail;go_roundw
      case rel=>exact⟨j+1,_,hlt,rfl,by go_num,hq,Zz (by rw[HN.out];first|done|rfl|simp)⟩
      case measure=>simp[intOf];omega
    · skip
      go_wp2_with fail;have HBS:Hid (∀W,Below wa.heap.size wa W→Q W):=Zz (fun W hB=>HQ.out _ _ hq hB);clear hq;refine rmx wa f10 (by kernel_rfl) (by kernel_rfl) ?_;simp only[Zg,f10,Lm,Ln];repeat ((first|(refine Zb (by rfl) ?_)|(refine mrd HBS _ (by rfl) (fun W hW=>by(obtain⟨⟨c0,c1,c2⟩,m1⟩:=HF.out W hW;obtain⟨y0,y1,y2⟩:=m1.c3;clear m1;go_simp;first|done|with_reducible rfl)) ?_)|(refine mrd HBS _ (by rfl) (fun W hW=>by(obtain⟨⟨c0,c1,c2⟩,m1⟩:=HF.out W hW;obtain⟨y0,y1,y2⟩:=m1.c3;clear m1;rw[HA6.out];go_simp;first|done|with_reducible rfl)) ?_)|(refine mcl HBS _ _ _ (by rfl) (fun W hW=>by(obtain⟨⟨c0,c1,c2⟩,m1⟩:=HF.out W hW;obtain⟨y0,y1,y2⟩:=m1.c3;clear m1;go_simp;first|done|rfl)) (fun W hW=>KS.out W (HBS.out W hW)) ?_));simp only[Act.put,La,Lb,Lc])
      refine Zd (fun W hW=>?_);have hq:=HBS.out W hW;have HBW:=Zz hW;clear hW HBS;go_wp2_with fail;go_roundw
      case rel=>exact⟨j+1,_,hlt,rfl,by go_num,hq,Zz (by rw[HN.out];first|done|rfl|simp)⟩
      case measure=>simp[intOf];omega
  · obtain rfl:j=ps.length:=by omega
    obtain rfl:bt=true:=by have h1:=HB.out;rw[List.take_length,HAN.out] at h1;exact h1.symm
    go_wp2_with fail;refine(KW.out _ hq).mono ?_;rintro e w9 ⟨rfl,hp⟩;have HZ:=Zz hp;clear hp hq;go_wp2_with fail;go_ret;exact⟨rfl,HZ.out⟩
end
section
open Go.RowKit Go.Shelf
theorem searchTurns_walk (s x t:Int) {l:Lay} {w:World} (hT:Shapes w) (hL:Lies l w) (hf:FWf l):
 Calls Tryz.prog 5 #[l.val,.int .i64 s,.int .i64 x,.int .u64 t] w fun e w'=>e= .returned (.bool true)∧Below w.heap.size w w':=
 searchTurns_P (P:=fun W=>Below w.heap.size w W) (Closed.below w) (fun W h=>Shapes.closed _ _ hT h) (fun W h=>Lies.closed l _ _ hL h) hf s x t (Below.refl _ _)
end
end Go.Proofs.YtifnlhfinjfajaaGreatDoor
