/- Of this seat: LayVW_1. -/
import Derived.Test.YtifnlhfinjfajaaGreatDoorK12
namespace Go.Proofs.YtifnlhfinjfajaaGreatDoor
set_option linter.unusedVariables false
set_option linter.unusedSimpArgs false
set_option maxRecDepth 100000
set_option maxHeartbeats 32000000
section
open Go.RowKit Go.Shelf
theorem at_cases (l:Lay) (s p:Int):(Zp l s p=false∧s<0)∨(Zp l s p=false∧0≤s∧(l.secs.length:Int)≤s)∨∃(j:Nat) (y:Sec),s=j∧l.secs[j]? =some y∧(j:Int)<l.secs.length ∧
 ((Zp l s p=false∧p<0)∨(Zp l s p=false∧0≤p∧pK y.k≤p)∨(Zp l s p=true∧atV l s p=y∧0≤p∧p<pK y.k)):=by
 have hz:∀q,Zu l s=0→Zp l s q=false:=fun q h=>by
  cases hh:Zp l s q
  · rfl
  · unfold Zp at hh;rw[h,withinA_iff] at hh;have :pK 0=0:=rfl;omega
 by_cases h0:s<0
 · exact .inl ⟨hz _ (kindV_no (by omega)),h0⟩
 by_cases h1:(l.secs.length:Int)≤s
 · exact .inr (.inl ⟨hz _ (kindV_no (by omega)),by omega,h1⟩)
 obtain⟨j,rfl⟩:∃j:Nat,s=j:=⟨s.toNat,by omega⟩
 have hy:l.secs[j]? =some (l.secs[j]'(by omega)):=List.getElem?_eq_getElem (by omega)
 refine .inr (.inr ⟨j,_,rfl,hy,by omega,?_⟩)
 generalize l.secs[j]'(by omega)=y at hy
 have hk:=kindV_at hy
 by_cases h2:0≤p∧p<pK y.k
 · have ht:Zp l j p=true:=by unfold Zp;rw[hk,withinA_iff];omega
   refine .inr (.inr ⟨ht,?_,h2.1,h2.2⟩);unfold atV;rw[if_pos ht,Int.toNat_natCast,hy];rfl
 · have ht:Zp l j p=false:=by
    cases hh:Zp l j p
    · rfl
    · unfold Zp at hh;rw[hk,withinA_iff] at hh;omega
   by_cases h3:p<0
   · exact .inl ⟨ht,h3⟩
   · exact .inr (.inl ⟨ht,by omega,by omega⟩)
section
variable {P:World→Prop} {w:World}
theorem atR_P (hP:Closed P) {l:Lay} (hL:∀w,P w→Lies l w) (s p:Int) {x:Sec} {r:Bool} (hx:atV l s p=x) (hr:Zp l s p=r) (h:P w):
 Calls Tryz.prog 40 #[l.val,prtV s p] w fun e w'=>e= .returned (.tuple #[x.val,.bool r])∧P w':=by
 obtain⟨Q,HQ,HQp,HQl,HQv,HQr,HQb,hq⟩:=keep_box3 hP h 29 59 63 l.cells (Zf (s,p)) [.int .u8 0,.int .i64 0,.int .i64 0,.int .i64 0,.int .i64 0,.int .i64 0,.int .i64 0,.int .i64 0,.int .i64 0,.int .i64 0,.int .i64 0]
 have HQL:Hid (∀W,Q W→Lies l W):=Zz fun W hW=>hL _ (HQp.out _ hW)
 have HPP:=Zz (fun W (hB:Below w.heap.size w W)=>hP _ _ h hB)
 clear h
 have hcase:=at_cases l s p
 have hzz:=fun h=>atV_no (l:=l) (s:=s) (p:=p) h
 rw[hx,hr] at hcase
 rw[hx,hr] at hzz
 clear hx hr hL hP
 rcases hcase with ⟨rfl,h1⟩|⟨rfl,h1,h2⟩|⟨j,y,rfl,hy,hlt,⟨rfl,h1⟩|⟨rfl,h1,h2⟩|⟨rfl,exy,h1,h2⟩⟩
 · obtain rfl:=hzz rfl;clear hzz;have d1:=decide_eq_true h1;clear h1;have HS:=Zz (HQ.out.drew hq);clear hq;go_enter Tryz.func40,Tryz.ntmps40;go_wp2_with fail;refine region_steady (Q) 28 (by kernel_rfl) (by kernel_rfl) HS.out ?_;simp only[List.take_succ_cons,List.take_zero,List.drop_succ_cons,List.drop_zero];repeat ((first|(refine steady_skip (by rfl) ?_)|(refine steady_read _ (by rfl) (fun W hW=>by(obtain⟨x0,x1,x2,x3,x4,x5,x6,x7,x8,x9,x10⟩:=(HQl.out _ hW).c11;obtain⟨v0,v1⟩:=(HQv.out _ hW).c2;go_simp;first|done|with_reducible rfl)) ?_));simp only[Act.put,La,Lb,Lc])
   refine steady_nil (fun W hW=>?_);have hq:=hW;clear hW;have hW:=HQr.out _ hq;have f0:=hW.frozen 0;have f1:=hW.frozen 1;have f2:=hW.frozen 2;have f3:=hW.frozen 3;have f4:=hW.frozen 4;have f5:=hW.frozen 5;have f6:=hW.frozen 6;have f7:=hW.frozen 7;have f8:=hW.frozen 8;have f9:=hW.frozen 9;have f10:=hW.frozen 10;obtain⟨z0,z1,z2,z3,z4,z5,z6,z7,z8,z9,z10⟩:=hW.c11;go_wp2_with fail;have hWo:=whole_over (a:=Sec.zero) (b:=Sec.zero) hW;have hBo:=below_over (b:=Sec.zero) (HQb.out _ hq) (show w.heap.size≤w.heap.size+1+1 by omega);obtain⟨e0,e1,e2,e3,e4,e5,e6,e7,e8,e9,e10⟩:=hWo.c11;refine bodyPost_ret (v:=.tuple #[Sec.zero.val,.bool false]) ?_ rfl ⟨rfl,HPP.out _ hBo⟩;unfold Sec.zero at *;simp[results,Tryz.f40,go_sem,e0,e1,e2,e3,e4,e5,e6,e7,e8,e9,e10]
 · obtain rfl:=hzz rfl;clear hzz;have d1:decide (s<0)=false:=decide_eq_false (by omega);have d2:=decide_eq_true h2;clear h1 h2;have HS:=Zz (HQ.out.drew hq);clear hq;go_enter Tryz.func40,Tryz.ntmps40;go_wp2_with fail;refine region_steady (Q) 28 (by kernel_rfl) (by kernel_rfl) HS.out ?_;simp only[List.take_succ_cons,List.take_zero,List.drop_succ_cons,List.drop_zero];repeat ((first|(refine steady_skip (by rfl) ?_)|(refine steady_read _ (by rfl) (fun W hW=>by(obtain⟨x0,x1,x2,x3,x4,x5,x6,x7,x8,x9,x10⟩:=(HQl.out _ hW).c11;obtain⟨v0,v1⟩:=(HQv.out _ hW).c2;go_simp;first|done|with_reducible rfl)) ?_));simp only[Act.put,La,Lb,Lc])
   refine steady_nil (fun W hW=>?_);have hq:=hW;clear hW;have hW:=HQr.out _ hq;have f0:=hW.frozen 0;have f1:=hW.frozen 1;have f2:=hW.frozen 2;have f3:=hW.frozen 3;have f4:=hW.frozen 4;have f5:=hW.frozen 5;have f6:=hW.frozen 6;have f7:=hW.frozen 7;have f8:=hW.frozen 8;have f9:=hW.frozen 9;have f10:=hW.frozen 10;obtain⟨z0,z1,z2,z3,z4,z5,z6,z7,z8,z9,z10⟩:=hW.c11;go_wp2_with fail;have hWo:=whole_over (a:=Sec.zero) (b:=Sec.zero) hW;have hBo:=below_over (b:=Sec.zero) (HQb.out _ hq) (show w.heap.size≤w.heap.size+1+1 by omega);obtain⟨e0,e1,e2,e3,e4,e5,e6,e7,e8,e9,e10⟩:=hWo.c11;refine bodyPost_ret (v:=.tuple #[Sec.zero.val,.bool false]) ?_ rfl ⟨rfl,HPP.out _ hBo⟩;unfold Sec.zero at *;simp[results,Tryz.f40,go_sem,e0,e1,e2,e3,e4,e5,e6,e7,e8,e9,e10]
 · obtain rfl:=hzz rfl;clear hzz;have d1:decide ((j:Int)<0)=false:=decide_eq_false (by omega);have d2:decide ((l.secs.length:Int)≤j)=false:=decide_eq_false (by omega);have d2n:decide (l.secs.length≤j)=false:=decide_eq_false (by omega);have d3:=decide_eq_true h1;clear h1 hy;have HS:=Zz (HQ.out.drew hq);clear hq;go_enter Tryz.func40,Tryz.ntmps40;go_wp2_with fail;refine region_steady (Q) 28 (by kernel_rfl) (by kernel_rfl) HS.out ?_;simp only[List.take_succ_cons,List.take_zero,List.drop_succ_cons,List.drop_zero];repeat ((first|(refine steady_skip (by rfl) ?_)|(refine steady_read _ (by rfl) (fun W hW=>by(obtain⟨x0,x1,x2,x3,x4,x5,x6,x7,x8,x9,x10⟩:=(HQl.out _ hW).c11;obtain⟨v0,v1⟩:=(HQv.out _ hW).c2;go_simp;first|done|with_reducible rfl)) ?_));simp only[Act.put,La,Lb,Lc])
   refine steady_nil (fun W hW=>?_);have hq:=hW;clear hW;have hW:=HQr.out _ hq;have f0:=hW.frozen 0;have f1:=hW.frozen 1;have f2:=hW.frozen 2;have f3:=hW.frozen 3;have f4:=hW.frozen 4;have f5:=hW.frozen 5;have f6:=hW.frozen 6;have f7:=hW.frozen 7;have f8:=hW.frozen 8;have f9:=hW.frozen 9;have f10:=hW.frozen 10;obtain⟨z0,z1,z2,z3,z4,z5,z6,z7,z8,z9,z10⟩:=hW.c11;go_wp2_with fail;have hWo:=whole_over (a:=Sec.zero) (b:=Sec.zero) hW;have hBo:=below_over (b:=Sec.zero) (HQb.out _ hq) (show w.heap.size≤w.heap.size+1+1 by omega);obtain⟨e0,e1,e2,e3,e4,e5,e6,e7,e8,e9,e10⟩:=hWo.c11;refine bodyPost_ret (v:=.tuple #[Sec.zero.val,.bool false]) ?_ rfl ⟨rfl,HPP.out _ hBo⟩;unfold Sec.zero at *;simp[results,Tryz.f40,go_sem,e0,e1,e2,e3,e4,e5,e6,e7,e8,e9,e10]
 · obtain rfl:=hzz rfl;clear hzz;have d1:decide ((j:Int)<0)=false:=decide_eq_false (by omega);have d2:decide ((l.secs.length:Int)≤j)=false:=decide_eq_false (by omega);have d2n:decide (l.secs.length≤j)=false:=decide_eq_false (by omega);obtain⟨b,off,hA,hb,hc0,hc⟩:=(HQL.out _ hq).secs.nth Sec.len (by omega) hy;have HAl:=Zz hA;have HC0:Hid (∀W,Q W→W.cell? ⟨b,off+j*11,none⟩=some (.int .u8 y.k)):=Zz fun W hW=>by
    obtain⟨b',off',hA',hb',hc0',hc'⟩:=(HQL.out _ hW).secs.nth Sec.len (by omega) hy;rw[hA] at hA';cases hA';exact hc0' j y _ hy rfl
   clear hA hb hc0 hc;have KP:=Zz (fun W hW=>portsR_P (P:=Q) (w:=W) (shapeK y.k) hW);have d3:decide (p<0)=false:=decide_eq_false (by omega);have d4:=decide_eq_true h2;clear h1 h2 hy;generalize pK y.k=pk at *;have HS:=Zz (HQ.out.drew hq);clear hq;go_enter Tryz.func40,Tryz.ntmps40;go_wp2_with fail;refine region_steady (Q) 28 (by kernel_rfl) (by kernel_rfl) HS.out ?_;simp only[List.take_succ_cons,List.take_zero,List.drop_succ_cons,List.drop_zero];repeat ((first|(refine steady_skip (by rfl) ?_)|(refine steady_read _ (by rfl) (fun W hW=>by(obtain⟨x0,x1,x2,x3,x4,x5,x6,x7,x8,x9,x10⟩:=(HQl.out _ hW).c11;obtain⟨v0,v1⟩:=(HQv.out _ hW).c2;rw[HAl.out] at x0;have c0:=HC0.out _ hW;go_simp;first|done|with_reducible rfl)) ?_)|(refine steady_call _ _ _ (by rfl) (fun W hW=>by(obtain⟨x0,x1,x2,x3,x4,x5,x6,x7,x8,x9,x10⟩:=(HQl.out _ hW).c11;obtain⟨v0,v1⟩:=(HQv.out _ hW).c2;rw[HAl.out] at x0;have c0:=HC0.out _ hW;go_simp;first|done|rfl)) (fun W hW=>KP.out _ hW) ?_));simp only[Act.put,La,Lb,Lc])
   refine steady_nil (fun W hW=>?_);have hq:=hW;clear hW;have hW:=HQr.out _ hq;have f0:=hW.frozen 0;have f1:=hW.frozen 1;have f2:=hW.frozen 2;have f3:=hW.frozen 3;have f4:=hW.frozen 4;have f5:=hW.frozen 5;have f6:=hW.frozen 6;have f7:=hW.frozen 7;have f8:=hW.frozen 8;have f9:=hW.frozen 9;have f10:=hW.frozen 10;obtain⟨z0,z1,z2,z3,z4,z5,z6,z7,z8,z9,z10⟩:=hW.c11;go_wp2_with fail;have hWo:=whole_over (a:=Sec.zero) (b:=Sec.zero) hW;have hBo:=below_over (b:=Sec.zero) (HQb.out _ hq) (show w.heap.size≤w.heap.size+1+1 by omega);obtain⟨e0,e1,e2,e3,e4,e5,e6,e7,e8,e9,e10⟩:=hWo.c11;refine bodyPost_ret (v:=.tuple #[Sec.zero.val,.bool false]) ?_ rfl ⟨rfl,HPP.out _ hBo⟩;unfold Sec.zero at *;simp[results,Tryz.f40,go_sem,e0,e1,e2,e3,e4,e5,e6,e7,e8,e9,e10]
 · clear hzz;have exy:=exy.symm;subst exy;have d1:decide ((j:Int)<0)=false:=decide_eq_false (by omega);have d2:decide ((l.secs.length:Int)≤j)=false:=decide_eq_false (by omega);have d2n:decide (l.secs.length≤j)=false:=decide_eq_false (by omega);obtain⟨b,off,hA,hb,hc0,hc⟩:=(HQL.out _ hq).secs.nth Sec.len (by omega) hy;have HAl:=Zz hA;have HC0:Hid (∀W,Q W→W.cell? ⟨b,off+j*11,none⟩=some (.int .u8 y.k)):=Zz fun W hW=>by
    obtain⟨b',off',hA',hb',hc0',hc'⟩:=(HQL.out _ hW).secs.nth Sec.len (by omega) hy;rw[hA] at hA';cases hA';exact hc0' j y _ hy rfl
   clear hA hb hc0 hc;have KP:=Zz (fun W hW=>portsR_P (P:=Q) (w:=W) (shapeK y.k) hW);have d3:decide (p<0)=false:=decide_eq_false (by omega);have d4:decide (pK y.k≤p)=false:=decide_eq_false (by omega);have HX:=Zz hy;clear h1 h2 hy;generalize pK y.k=pk at *;have HS:=Zz (HQ.out.drew hq);clear hq;go_enter Tryz.func40,Tryz.ntmps40;go_wp2_with fail;refine region_steady (Q) 28 (by kernel_rfl) (by kernel_rfl) HS.out ?_;simp only[List.take_succ_cons,List.take_zero,List.drop_succ_cons,List.drop_zero];repeat ((first|(refine steady_skip (by rfl) ?_)|(refine steady_read _ (by rfl) (fun W hW=>by(obtain⟨x0,x1,x2,x3,x4,x5,x6,x7,x8,x9,x10⟩:=(HQl.out _ hW).c11;obtain⟨v0,v1⟩:=(HQv.out _ hW).c2;rw[HAl.out] at x0;have c0:=HC0.out _ hW;go_simp;first|done|with_reducible rfl)) ?_)|(refine steady_call _ _ _ (by rfl) (fun W hW=>by(obtain⟨x0,x1,x2,x3,x4,x5,x6,x7,x8,x9,x10⟩:=(HQl.out _ hW).c11;obtain⟨v0,v1⟩:=(HQv.out _ hW).c2;rw[HAl.out] at x0;have c0:=HC0.out _ hW;go_simp;first|done|rfl)) (fun W hW=>KP.out _ hW) ?_));simp only[Act.put,La,Lb,Lc])
   refine steady_nil (fun W hW=>?_);have hq:=hW;clear hW;have hW:=HQr.out _ hq;have x0:=(HQl.out _ hq).Za 0 rfl;have v0:=(HQv.out _ hq).Za 0 rfl;clear HAl HC0;obtain⟨b,off,hA,hb,hc0,hc⟩:=(HQL.out _ hq).secs.nth Sec.len (by omega) HX.out;have c0:=hc0 j y _ HX.out rfl;have c1:=hc j y 1 _ HX.out rfl;have c2:=hc j y 2 _ HX.out rfl;have c3:=hc j y 3 _ HX.out rfl;have c4:=hc j y 4 _ HX.out rfl;have c5:=hc j y 5 _ HX.out rfl;have c6:=hc j y 6 _ HX.out rfl;have c7:=hc j y 7 _ HX.out rfl;have c8:=hc j y 8 _ HX.out rfl;have c9:=hc j y 9 _ HX.out rfl;have c10:=hc j y 10 _ HX.out rfl;clear hc0 hc;have f0:=hW.frozen 0;have f1:=hW.frozen 1;have f2:=hW.frozen 2;have f3:=hW.frozen 3;have f4:=hW.frozen 4;have f5:=hW.frozen 5;have f6:=hW.frozen 6;have f7:=hW.frozen 7;have f8:=hW.frozen 8;have f9:=hW.frozen 9;have f10:=hW.frozen 10;obtain⟨z0,z1,z2,z3,z4,z5,z6,z7,z8,z9,z10⟩:=hW.c11;go_wp2_with fail;have hWo:=whole_over (a:=Sec.zero) (b:=y) hW;have hBo:=below_over (b:=y) (HQb.out _ hq) (show w.heap.size≤w.heap.size+1+1 by omega);clear c0 c1 c2 c3 c4 c5 c6 c7 c8 c9 c10 z0 z1 z2 z3 z4 z5 z6 z7 z8 z9 z10;obtain⟨e0,e1,e2,e3,e4,e5,e6,e7,e8,e9,e10⟩:=hWo.c11;refine bodyPost_ret (v:=.tuple #[y.val,.bool true]) ?_ rfl ⟨rfl,HPP.out _ hBo⟩;simp[results,Tryz.f40,go_sem,e0,e1,e2,e3,e4,e5,e6,e7,e8,e9,e10]
theorem thereR_P (hP:Closed P) {l:Lay} (hL:∀w,P w→Lies l w) (s p:Int) {r:Bool} (hr:Zp l s p=r) (h:P w):
 Calls Tryz.prog 89 #[l.val,prtV s p] w fun e w'=>e= .returned (.bool r)∧P w':=by
 obtain⟨Q,HQ,HQp,HQl,HQv,hq⟩:=keep_box2 hP h 29 59 l.cells (Zf (s,p))
 obtain⟨x,hx⟩:∃x,atV l s p=x:=⟨_,rfl⟩
 have KA:=Zz (fun W hW=>atR_P (P:=Q) (w:=W) HQ.out (fun W hW=>hL _ (HQp.out _ hW)) s p hx hr hW)
 clear hx hr h
 have hW:=hq
 obtain⟨x0,x1,x2,x3,x4,x5,x6,x7,x8,x9,x10⟩:=(HQl.out _ hW).c11
 obtain⟨v0,v1⟩:=(HQv.out _ hW).c2
 clear hW
 go_enter Tryz.func89,Tryz.ntmps89
 go_wp2_with fail
 refine(KA.out _ hq).mono ?_
 clear x0 x1 x2 x3 x4 x5 x6 x7 x8 x9 x10 v0 v1 hq
 rintro e w1 ⟨rfl,hq⟩
 have hq:=HQ.out _ _ hq (below1 w1 (.cells x.cells.toArray 63))
 go_wp2_with fail
 go_ret
 exact⟨rfl,HQp.out _ hq⟩
theorem stepR_P (hP:Closed P) {l:Lay} (hL:∀w,P w→Lies l w) (s i o:Int) {v:Int} {r:Bool} (hv:wayK (Zu l s) i o=v) (hr:stepV l s i o=r) (h:P w):
 Calls Tryz.prog 85 #[l.val,stpV s i o] w fun e w'=>e= .returned (.tuple #[.int .i64 v,.bool r])∧P w':=by
 obtain⟨Q,HQ,HQp,HQl,HQv,hq⟩:=keep_box2 hP h 29 66 l.cells (Ze (s,i,o))
 have HQL:Hid (∀W,Q W→Lies l W):=Zz fun W hW=>hL _ (HQp.out _ hW)
 unfold stepV at hr
 clear h
 by_cases hs:0≤s∧s<l.secs.length
 · obtain⟨j,rfl⟩:∃j:Nat,s=j:=⟨s.toNat,by omega⟩;have hlt:(j:Int)<l.secs.length:=hs.2;obtain⟨y,hy⟩:∃y,l.secs[j]? =some y:=⟨_,List.getElem?_eq_getElem (by omega)⟩;rw[kindV_at hy] at hv hr;have KW:=Zz (fun W hW=>wayR_P (P:=Q) (w:=W) i o (shapeK y.k) hv hr hW);clear hv hr hs;have d1:decide ((j:Int)<0)=false:=decide_eq_false (by omega);have d2:decide ((l.secs.length:Int)≤j)=false:=decide_eq_false (by omega);have d2n:decide (l.secs.length≤j)=false:=decide_eq_false (by omega);obtain⟨b,off,hA,hb,hc0,hc⟩:=(HQL.out _ hq).secs.nth Sec.len (by omega) hy;have HAl:=Zz hA;have HC0:Hid (∀W,Q W→W.cell? ⟨b,off+j*11,none⟩=some (.int .u8 y.k)):=Zz fun W hW=>by
    obtain⟨b',off',hA',hb',hc0',hc'⟩:=(HQL.out _ hW).secs.nth Sec.len (by omega) hy;rw[hA] at hA';cases hA';exact hc0' j y _ hy rfl
   clear hA hb hc0 hc;have hW:=hq;obtain⟨x0,x1,x2,x3,x4,x5,x6,x7,x8,x9,x10⟩:=(HQl.out _ hW).c11;obtain⟨v0,v1,v2⟩:=(HQv.out _ hW).c3;clear hW;clear hy;go_enter Tryz.func85,Tryz.ntmps85;go_wp2_with fail;have HS:=Zz (HQ.out.drew hq);clear x0 x1 x2 x3 x4 x5 x6 x7 x8 x9 x10 v0 v1 v2 hq;refine region_steady (Q) 14 (by kernel_rfl) (by kernel_rfl) HS.out ?_;simp only[List.take_succ_cons,List.take_zero,List.drop_succ_cons,List.drop_zero];repeat ((first|(refine steady_skip (by rfl) ?_)|(refine steady_read _ (by rfl) (fun W hW=>by(obtain⟨x0,x1,x2,x3,x4,x5,x6,x7,x8,x9,x10⟩:=(HQl.out _ hW).c11;obtain⟨v0,v1,v2⟩:=(HQv.out _ hW).c3;rw[HAl.out] at x0;have c0:=HC0.out _ hW;go_simp;first|done|with_reducible rfl)) ?_)|(refine steady_call _ _ _ (by rfl) (fun W hW=>by(obtain⟨x0,x1,x2,x3,x4,x5,x6,x7,x8,x9,x10⟩:=(HQl.out _ hW).c11;obtain⟨v0,v1,v2⟩:=(HQv.out _ hW).c3;rw[HAl.out] at x0;have c0:=HC0.out _ hW;go_simp;first|done|rfl)) (fun W hW=>KW.out _ hW) ?_));simp only[Act.put,La,Lb,Lc])
   refine steady_nil (fun W hW=>?_);go_wp2_with fail;go_ret2
   exact⟨rfl,HQp.out _ hW⟩
 · rw[kindV_no hs] at hv hr;have hv0:wayK 0 i o=0:=rfl;have hr0:goesK 0 i o=false:=rfl;obtain rfl:=hv0.symm.trans hv;obtain rfl:=hr0.symm.trans hr;clear hv hr hv0 hr0;have hW:=hq;obtain⟨x0,x1,x2,x3,x4,x5,x6,x7,x8,x9,x10⟩:=(HQl.out _ hW).c11;obtain⟨v0,v1,v2⟩:=(HQv.out _ hW).c3;clear hW;by_cases h1:s<0
   · have d1:=decide_eq_true h1;clear h1 hs;go_enter Tryz.func85,Tryz.ntmps85;go_wp2_with fail;go_ret2
     exact⟨rfl,HQp.out _ hq⟩
   · have d2:decide ((l.secs.length:Int)≤s)=true:=decide_eq_true (by omega);have d1:=decide_eq_false h1;clear h1 hs;go_enter Tryz.func85,Tryz.ntmps85;go_wp2_with fail;go_ret2
     exact⟨rfl,HQp.out _ hq⟩
theorem signalR_P (hP:Closed P) {l:Lay} (hL:∀w,P w→Lies l w) (s p:Int) {r:Int} (hr:signalV l s p=r) (h:P w):
 Calls Tryz.prog 54 #[l.val,prtV s p] w fun e w'=>e= .returned (.int .i64 r)∧P w':=by
 obtain⟨Q,HQ,HQp,HQl,HQv,hq⟩:=keep_box2 hP h 29 59 l.cells (Zf (s,p))
 have HQL:Hid (∀W,Q W→Lies l W):=Zz fun W hW=>hL _ (HQp.out _ hW)
 have hn:=(hL _ h).nG
 have HR:Hid (idxV (isP s p) l.sigs=r):=Zz hr
 clear h hr
 go_enter Tryz.func54,Tryz.ntmps54
 go_wp2_with fail
 go_loopw [5] (fun i wr=>∃j:Nat,j≤l.sigs.length∧i= .int .i64 j∧Q wr∧Hid (Zl (isP s p) l.sigs j)) (fun i _=>l.sigs.length - (intOf i).toNat)
 case atStart=>exact⟨0,by omega,rfl,hq,Zz (Zl.zero _ _)⟩
 case round=>
  clear hq;obtain⟨j,hj,rfl,hq,HNo⟩:=hrel;by_cases hlt:j<l.sigs.length
  · have hlt':(j:Int)<l.sigs.length:=by omega
    obtain⟨xx,hx⟩:∃x,l.sigs[j]? =some x:=⟨_,List.getElem?_eq_getElem hlt⟩;obtain⟨o1,o2,HAl,HC0,HC1⟩:=sig_cells HQL.out hq hx;have HX:=Zz hx;clear hx;obtain⟨px,hpx⟩:∃z,xx.1=z:=⟨_,rfl⟩;obtain⟨py,hpy⟩:∃z,xx.2=z:=⟨_,rfl⟩;rw[hpx] at HC0;rw[hpy] at HC1;cases hpr:isP s p xx
    · have heq:∀W:World,(binOp .eql 59 (prtV px py) (prtV s p)).run Tryz.prog W= .ok (.bool false) W:=fun W=>by
       rw[eql_prt,←hpx,←hpy];exact congrArg (fun b=>Result.ok (Value.bool b) W) hpr
      have HN:=Zz (HNo.out.succ HX.out hpr);clear hpr hpx hpy HX xx;have x1:=(HQl.out _ hq).Za 1 rfl;go_wp2_with fail;have HS:=Zz (HQ.out.drew hq);clear x1 hq;refine region_steady (Q) 7 (by kernel_rfl) (by kernel_rfl) HS.out ?_;simp only[List.take_succ_cons,List.take_zero,List.drop_succ_cons,List.drop_zero];repeat ((first|(refine steady_skip (by rfl) ?_)|(refine steady_read _ (by rfl) (fun W hW=>by(have m0:=HQl.out _ hW;have x1:=m0.Za 1 rfl;clear m0;rw[HAl.out] at x1;obtain⟨v0,v1⟩:=(HQv.out _ hW).c2;have c0:=HC0.out _ hW;have c1:=HC1.out _ hW;go_simp;first|done|with_reducible rfl)) ?_));simp only[Act.put,La,Lb,Lc])
      refine steady_nil (fun W hW=>?_);go_wp2_with fail;go_roundw
      case rel=>exact⟨j+1,hlt,by go_num,hW,HN⟩
      case measure=>simp[intOf];omega
    · have heq:∀W:World,(binOp .eql 59 (prtV px py) (prtV s p)).run Tryz.prog W= .ok (.bool true) W:=fun W=>by
       rw[eql_prt,←hpx,←hpy];exact congrArg (fun b=>Result.ok (Value.bool b) W) hpr
      have HV:=Zz ((HNo.out.idx HX.out hpr).symm.trans HR.out);clear hpr hpx hpy HX xx;have x1:=(HQl.out _ hq).Za 1 rfl;go_wp2_with fail;have HS:=Zz (HQ.out.drew hq);clear x1 hq;refine region_steady (Q) 7 (by kernel_rfl) (by kernel_rfl) HS.out ?_;simp only[List.take_succ_cons,List.take_zero,List.drop_succ_cons,List.drop_zero];repeat ((first|(refine steady_skip (by rfl) ?_)|(refine steady_read _ (by rfl) (fun W hW=>by(have m0:=HQl.out _ hW;have x1:=m0.Za 1 rfl;clear m0;rw[HAl.out] at x1;obtain⟨v0,v1⟩:=(HQv.out _ hW).c2;have c0:=HC0.out _ hW;have c1:=HC1.out _ hW;go_simp;first|done|with_reducible rfl)) ?_));simp only[Act.put,La,Lb,Lc])
      refine steady_nil (fun W hW=>?_);go_wp2_with fail;go_ret;obtain rfl:=HV.out;exact⟨rfl,HQp.out _ hW⟩
  · obtain rfl:j=l.sigs.length:=by omega
    have HV:=Zz ((HNo.out.idx_no).symm.trans HR.out);clear hj hlt HNo;have x1:=(HQl.out _ hq).Za 1 rfl;go_wp2_with fail;go_ret;obtain rfl:=HV.out;exact⟨rfl,HQp.out _ hq⟩
end
end
section
open Go.RowKit Go.Shelf
theorem thereR_B {l:Lay} {w:World} (hL:Lies l w) (s p:Int) {r:Bool} (hr:Zp l s p=r):Calls Tryz.prog 89 #[l.val,prtV s p] w fun e w'=>e= .returned (.bool r)∧Below w.heap.size w w':=
 thereR_P (P:=fun W=>Below w.heap.size w W) (Closed.below w) (fun W h=>Lies.closed l _ _ hL h) s p hr (Below.refl _ _)
theorem stepR_B {l:Lay} {w:World} (hL:Lies l w) (s i o:Int) {v:Int} {r:Bool} (hv:wayK (Zu l s) i o=v) (hr:stepV l s i o=r):Calls Tryz.prog 85 #[l.val,stpV s i o] w fun e w'=>e= .returned (.tuple #[.int .i64 v,.bool r])∧Below w.heap.size w w':=
 stepR_P (P:=fun W=>Below w.heap.size w W) (Closed.below w) (fun W h=>Lies.closed l _ _ hL h) s i o hv hr (Below.refl _ _)
theorem waysR_B {w:World} {k p n a b c d:Int} (hk:IsShape k p n a b c d):Calls Tryz.prog 144 #[.int .u8 k] w fun e w'=>e= .returned (.int .i64 n)∧Below w.heap.size w w':=
 waysR_P (P:=fun W=>Below w.heap.size w W) hk (Below.refl _ _)
def noJ (l:Lay) (p:Int×Int):Bool:=decide (0≤p.1)&& !Zp l p.1 p.2
def secOk (l:Lay) (x:Sec):Bool:=!(x.ports4.any (noJ l))&&rightK x
def noS (l:Lay) (s:Int×Int×Int):Bool:=!stepV l s.1 s.2.1 s.2.2
def exitOk (l:Lay) (x:Exm):Bool:=!(x.over.any (noS l))&&(Zp l x.s x.q&&decide ((x.over.length:Int)≤2))
theorem flank_cases (l : Lay) (a b c d : Int) : (flankV l a b c d = false ∧ a < 0) ∨ (flankV l a b c d = false ∧ 0 ≤ a ∧ (l.secs.length : Int) ≤ a) ∨ ∃ (i : Nat) (x : Sec), a = i ∧ l.secs[i]? = some x ∧ (i : Int) < l.secs.length ∧
    ((flankV l a b c d = false ∧ c < 0) ∨ (flankV l a b c d = false ∧ 0 ≤ c ∧ (l.secs.length : Int) ≤ c) ∨ ∃ (j : Nat) (y : Sec), c = j ∧ l.secs[j]? = some y ∧ (j : Int) < l.secs.length ∧
      ((flankV l a b c d = false ∧ i = j) ∨ (i ≠ j ∧ ((flankV l a b c d = false ∧ d < 0) ∨ (flankV l a b c d = false ∧ 0 ≤ d ∧ 1 < d) ∨ (0 ≤ d ∧ d ≤ 1 ∧
        ((flankV l a b c d = false ∧ b < 0) ∨ (0 ≤ b ∧ ((flankV l a b c d = false ∧ nK x.k ≤ b) ∨ (b < nK x.k ∧ flankV l a b c d = (y.k == 2)))))))))) := by
  have hz : ∀ s, Zu l s = 0 → nK (Zu l s) = 0 := fun s h => by rw [h]; rfl
  unfold flankV
  by_cases h0 : a < 0
  · refine .inl ⟨?_, h0⟩
    have := hz a (kindV_no (by omega))
    rw [this]
    unfold withinA
    by_cases hb : 0 ≤ b
    · rw [decide_eq_false (show ¬ b ≤ 0 - 1 by omega)]; simp
    · rw [decide_eq_false hb]; simp
  by_cases h1 : (l.secs.length : Int) ≤ a
  · refine .inr (.inl ⟨?_, by omega, h1⟩)
    have := hz a (kindV_no (by omega))
    rw [this]
    unfold withinA
    by_cases hb : 0 ≤ b
    · rw [decide_eq_false (show ¬ b ≤ 0 - 1 by omega)]; simp
    · rw [decide_eq_false hb]; simp
  obtain ⟨i, rfl⟩ : ∃ i : Nat, a = i := ⟨a.toNat, by omega⟩
  have hx : l.secs[i]? = some (l.secs[i]'(by omega)) := List.getElem?_eq_getElem (by omega)
  refine .inr (.inr ⟨i, _, rfl, hx, by omega, ?_⟩)
  generalize l.secs[i]'(by omega) = x at hx
  rw [kindV_at hx]
  have hk2 : ∀ s, Zu l s = 0 → (Zu l s == 2) = false := fun s h => by rw [h]; rfl
  by_cases h2 : c < 0
  · exact .inl ⟨by rw [hk2 c (kindV_no (by omega))]; simp, h2⟩
  by_cases h3 : (l.secs.length : Int) ≤ c
  · exact .inr (.inl ⟨by rw [hk2 c (kindV_no (by omega))]; simp, by omega, h3⟩)
  obtain ⟨j, rfl⟩ : ∃ j : Nat, c = j := ⟨c.toNat, by omega⟩
  have hy : l.secs[j]? = some (l.secs[j]'(by omega)) := List.getElem?_eq_getElem (by omega)
  refine .inr (.inr ⟨j, _, rfl, hy, by omega, ?_⟩)
  generalize l.secs[j]'(by omega) = y at hy
  rw [kindV_at hy]
  by_cases h4 : i = j
  · subst h4; exact .inl ⟨by simp, rfl⟩
  refine .inr ⟨h4, ?_⟩
  have e4 : (((j : Nat) : Int) == ((i : Nat) : Int)) = false := by rw [beq_eq_false_iff_ne]; omega
  rw [e4]
  unfold withinA
  by_cases h5 : d < 0
  · exact .inl ⟨by rw [decide_eq_false (show ¬ 0 ≤ d by omega)]; simp, h5⟩
  by_cases h6 : 1 < d
  · exact .inr (.inl ⟨by rw [decide_eq_false (show ¬ d ≤ 1 by omega)]; simp, by omega, h6⟩)
  refine .inr (.inr ⟨by omega, by omega, ?_⟩)
  rw [decide_eq_true (show 0 ≤ d by omega), decide_eq_true (show d ≤ 1 by omega)]
  by_cases h7 : b < 0
  · exact .inl ⟨by rw [decide_eq_false (show ¬ 0 ≤ b by omega)]; simp, h7⟩
  refine .inr ⟨by omega, ?_⟩
  by_cases h8 : nK x.k ≤ b
  · exact .inl ⟨by rw [decide_eq_false (show ¬ b ≤ nK x.k - 1 by omega)]; simp, h8⟩
  · exact .inr ⟨by omega, by rw [decide_eq_true (show 0 ≤ b by omega), decide_eq_true (show b ≤ nK x.k - 1 by omega)]; simp⟩
section
variable {P:World→Prop} {w:World}
theorem sectionR_P (hP:Closed P) {l:Lay} (hL:∀w,P w→Lies l w) (x:Sec) {r:Bool} (hr:secOk l x=r) (h:P w):
 Calls Tryz.prog 88 #[l.val,x.val] w fun e w'=>e= .returned (.bool r)∧P w':=by
 obtain⟨Q,HQ,HQp,HQl,HQx,hq⟩:=keep_box2 hP h 29 63 l.cells x.cells
 have HQL:Hid (∀W,Q W→Lies l W):=Zz fun W hW=>hL _ (HQp.out _ hW)
 obtain⟨rk,hrk⟩:∃z,rightK x=z:=⟨_,rfl⟩
 have KR:=Zz (fun W hW=>rightR_P (P:=Q) (w:=W) HQ.out x.k x.s0 x.q0 x.s1 x.q1 x.s2 x.q2 x.s3 x.q3 x.c0 x.c1 (shapeK x.k) hrk hW)
 have HR:Hid (secOk l x=r):=Zz hr
 have HRK:Hid (rightK x=rk):=Zz hrk
 clear h hr hL hP hrk
 go_enter Tryz.func88,Tryz.ntmps88
 go_wp2_with fail
 go_loopw [5] (fun i wr=>∃e:Nat,e≤4∧i= .int .i64 e∧Q wr∧Hid (Zl (noJ l) x.ports4 e)) (fun i _=>4 - (intOf i).toNat)
 case atStart=>exact⟨0,by omega,rfl,hq,Zz (Zl.zero _ _)⟩
 case round=>
  clear hq;obtain⟨e,he,rfl,hq,HNo⟩:=hrel;by_cases hel:e<4
  · have hel':(e:Int)<4:=by omega
    obtain⟨⟨ps,pq⟩,hp⟩:∃p,x.ports4[e]? =some p:=⟨_,List.getElem?_eq_getElem (by show e<4;exact hel)⟩;have HJ:=Zz (fun W hW=>(join_at (HQx.out W hW) hp).1);have HJ1:=Zz (fun W hW=>(join_at (HQx.out W hW) hp).2);have HX:=Zz hp;simp only at HJ HJ1;clear hp;by_cases hd:0≤ps
    · have d0:=decide_eq_true hd;obtain⟨b,ht⟩:∃b,Zp l ps pq=b:=⟨_,rfl⟩;have KT:=Zz (fun W hW=>thereR_B (HQL.out W hW) ps pq ht);have HB:Hid (noJ l (ps,pq)= !b):=Zz (by unfold noJ;simp only[d0,ht,Bool.true_and]);clear hd ht;cases b
      · have HF:Hid (false=r):=Zz (by rw[←HR.out];unfold secOk;rw[any_hit HX.out HB.out];rfl);clear HX HB;go_wp2_with fail;have HBS:Hid (∀W,Below wr.heap.size wr W→Q W):=Zz (fun W hB=>HQ.out _ _ hq hB);clear hq;refine rmx wr f15 (by kernel_rfl) (by kernel_rfl) ?_;simp only[Zg,f15,Lm,Ln];repeat ((first|(refine Zb (by rfl) ?_)|(refine mrd HBS _ (by rfl) (fun W hW=>by(obtain⟨x0,x1,x2,x3,x4,x5,x6,x7,x8,x9,x10⟩:=(HQl.out _ hW).c11;have c0:=HJ.out _ hW;have c1:=HJ1.out _ hW;go_simp;first|done|with_reducible rfl)) ?_)|(refine mcl HBS _ _ _ (by rfl) (fun W hW=>by(obtain⟨x0,x1,x2,x3,x4,x5,x6,x7,x8,x9,x10⟩:=(HQl.out _ hW).c11;have c0:=HJ.out _ hW;have c1:=HJ1.out _ hW;go_simp;first|done|rfl)) (fun W hW=>KT.out W (HBS.out W hW)) ?_));simp only[Act.put,La,Lb,Lc])
        refine Zd (fun W hW=>?_);have hq:=HBS.out W hW;clear hW HBS;go_wp2_with fail;go_ret;exact⟨Zc HF.out,HQp.out _ hq⟩
      · have HN:=Zz (HNo.out.succ HX.out HB.out);clear HX HB;go_wp2_with fail;have HBS:Hid (∀W,Below wr.heap.size wr W→Q W):=Zz (fun W hB=>HQ.out _ _ hq hB);clear hq;refine rmx wr f15 (by kernel_rfl) (by kernel_rfl) ?_;simp only[Zg,f15,Lm,Ln];repeat ((first|(refine Zb (by rfl) ?_)|(refine mrd HBS _ (by rfl) (fun W hW=>by(obtain⟨x0,x1,x2,x3,x4,x5,x6,x7,x8,x9,x10⟩:=(HQl.out _ hW).c11;have c0:=HJ.out _ hW;have c1:=HJ1.out _ hW;go_simp;first|done|with_reducible rfl)) ?_)|(refine mcl HBS _ _ _ (by rfl) (fun W hW=>by(obtain⟨x0,x1,x2,x3,x4,x5,x6,x7,x8,x9,x10⟩:=(HQl.out _ hW).c11;have c0:=HJ.out _ hW;have c1:=HJ1.out _ hW;go_simp;first|done|rfl)) (fun W hW=>KT.out W (HBS.out W hW)) ?_));simp only[Act.put,La,Lb,Lc])
        refine Zd (fun W hW=>?_);have hq:=HBS.out W hW;clear hW HBS;go_wp2_with fail;go_roundw
        case rel=>exact⟨e+1,hel,by go_num,hq,HN⟩
        case measure=>simp[intOf];omega
    · have d0:=decide_eq_false hd;have HN:=Zz (HNo.out.succ HX.out (by unfold noJ;simp only[d0,Bool.false_and]));clear hd HX;go_wp2_with fail;have HBS:Hid (∀W,Below wr.heap.size wr W→Q W):=Zz (fun W hB=>HQ.out _ _ hq hB);clear hq;refine rmx wr f15 (by kernel_rfl) (by kernel_rfl) ?_;simp only[Zg,f15,Lm,Ln];repeat ((first|(refine Zb (by rfl) ?_)|(refine mrd HBS _ (by rfl) (fun W hW=>by(obtain⟨x0,x1,x2,x3,x4,x5,x6,x7,x8,x9,x10⟩:=(HQl.out _ hW).c11;have c0:=HJ.out _ hW;have c1:=HJ1.out _ hW;go_simp;first|done|with_reducible rfl)) ?_));simp only[Act.put,La,Lb,Lc])
      refine Zd (fun W hW=>?_);have hq:=HBS.out W hW;clear hW HBS;go_wp2_with fail;go_roundw
      case rel=>exact⟨e+1,hel,by go_num,hq,HN⟩
      case measure=>simp[intOf];omega
  · obtain rfl:e=4:=by omega
    have HF:Hid (rk=r):=Zz (by rw[←HR.out,←HRK.out];unfold secOk;rw[Zl.any (l:=x.ports4) HNo.out];rfl);obtain⟨y0,y1,y2,y3,y4,y5,y6,y7,y8,y9,y10⟩:=(HQx.out _ hq).c11;go_wp2_with fail;refine(KR.out _ hq).mono ?_;clear y0 y1 y2 y3 y4 y5 y6 y7 y8 y9 y10 hq;rintro e w1 ⟨rfl,hq⟩;go_wp2_with fail;go_ret;exact⟨Zc HF.out,HQp.out _ hq⟩
theorem exitR1_P (hP:Closed P) {l:Lay} (hL:∀w,P w→Lies l w) (x:Exm) (hO:∀w,P w→Row w w.heap.size x.A (x.over.flatMap Ze)) (hn:(x.over.length:Int)≤9223372036854775807) {r:Bool} (hr:exitOk l x=r) (h:P w):
 Calls Tryz.prog 90 #[l.val,x.val] w fun e w'=>e= .returned (.bool r)∧P w':=by
 obtain⟨Q,HQ,HQp,HQl,HQx,hq⟩:=keep_box2 hP h 29 87 l.cells x.cells
 have HQL:Hid (∀W,Q W→Lies l W):=Zz fun W hW=>hL _ (HQp.out _ hW)
 have HQO:Hid (∀W,Q W→Row W W.heap.size x.A (x.over.flatMap Ze)):=Zz fun W hW=>hO _ (HQp.out _ hW)
 obtain⟨tb,htb⟩:∃z,Zp l x.s x.q=z:=⟨_,rfl⟩
 have KT:=Zz (fun W hW=>thereR_P (P:=Q) (w:=W) HQ.out HQL.out x.s x.q htb hW)
 have HR:Hid (exitOk l x=r):=Zz hr
 have HTB:Hid (Zp l x.s x.q=tb):=Zz htb
 clear h hr hL hP htb hO
 go_enter Tryz.func90,Tryz.ntmps90
 go_wp2_with fail
 go_loopw [5] (fun i wr=>∃j:Nat,j≤x.over.length∧i= .int .i64 j∧Q wr∧Hid (Zl (noS l) x.over j)) (fun i _=>x.over.length - (intOf i).toNat)
 case atStart=>exact⟨0,by omega,rfl,hq,Zz (Zl.zero _ _)⟩
 case round=>
  clear hq;obtain⟨j,hj,rfl,hq,HNo⟩:=hrel;have v2:=(HQx.out _ hq).Za 2 rfl;by_cases hlt:j<x.over.length
  · have hlt':(j:Int)<x.over.length:=by omega
    obtain⟨⟨ys,yi,yo⟩,hy⟩:∃y,x.over[j]? =some y:=⟨_,List.getElem?_eq_getElem hlt⟩;obtain⟨o1,o2,HA,HC0,HC⟩:=row_at (n:=3) (fun _=>rfl) (by omega) HQO.out hq hy;have HX:=Zz hy;clear hy;obtain⟨v,hv⟩:∃v,wayK (Zu l ys) yi yo=v:=⟨_,rfl⟩;obtain⟨b,hb⟩:∃b,stepV l ys yi yo=b:=⟨_,rfl⟩;have KS:=Zz (fun W hW=>stepR_B (HQL.out W hW) ys yi yo hv hb);have HB:Hid (noS l (ys,yi,yo)= !b):=Zz (by unfold noS;simp only[hb]);clear hv hb;cases b
    · have HF:Hid (false=r):=Zz (by rw[←HR.out];unfold exitOk;rw[any_hit HX.out HB.out];rfl);go_wp2_with fail;clear v2;have HBS:Hid (∀W,Below wr.heap.size wr W→Q W):=Zz (fun W hB=>HQ.out _ _ hq hB);clear hq;refine rmx wr f12 (by kernel_rfl) (by kernel_rfl) ?_;simp only[Zg,f12,Lm,Ln];repeat ((first|(refine Zb (by rfl) ?_)|(refine mrd HBS _ (by rfl) (fun W hW=>by(obtain⟨x0,x1,x2,x3,x4,x5,x6,x7,x8,x9,x10⟩:=(HQl.out _ hW).c11;obtain⟨v0,v1,v2⟩:=(HQx.out _ hW).c3;rw[HA.out] at v2;have c0:=HC0.out _ hW j _ _ HX.out rfl;have c1:=HC.out _ hW j _ 1 _ HX.out rfl;have c2:=HC.out _ hW j _ 2 _ HX.out rfl;go_simp;first|done|with_reducible rfl)) ?_)|(refine mcl HBS _ _ _ (by rfl) (fun W hW=>by(obtain⟨x0,x1,x2,x3,x4,x5,x6,x7,x8,x9,x10⟩:=(HQl.out _ hW).c11;obtain⟨v0,v1,v2⟩:=(HQx.out _ hW).c3;rw[HA.out] at v2;have c0:=HC0.out _ hW j _ _ HX.out rfl;have c1:=HC.out _ hW j _ 1 _ HX.out rfl;have c2:=HC.out _ hW j _ 2 _ HX.out rfl;go_simp;first|done|rfl)) (fun W hW=>KS.out W (HBS.out W hW)) ?_));simp only[Act.put,La,Lb,Lc])
      refine Zd (fun W hW=>?_);have hq:=HBS.out W hW;clear hW HBS;go_wp2_with fail;go_ret;exact⟨Zc HF.out,HQp.out _ hq⟩
    · have HN:=Zz (HNo.out.succ HX.out HB.out);go_wp2_with fail;clear v2;have HBS:Hid (∀W,Below wr.heap.size wr W→Q W):=Zz (fun W hB=>HQ.out _ _ hq hB);clear hq;refine rmx wr f12 (by kernel_rfl) (by kernel_rfl) ?_;simp only[Zg,f12,Lm,Ln];repeat ((first|(refine Zb (by rfl) ?_)|(refine mrd HBS _ (by rfl) (fun W hW=>by(obtain⟨x0,x1,x2,x3,x4,x5,x6,x7,x8,x9,x10⟩:=(HQl.out _ hW).c11;obtain⟨v0,v1,v2⟩:=(HQx.out _ hW).c3;rw[HA.out] at v2;have c0:=HC0.out _ hW j _ _ HX.out rfl;have c1:=HC.out _ hW j _ 1 _ HX.out rfl;have c2:=HC.out _ hW j _ 2 _ HX.out rfl;go_simp;first|done|with_reducible rfl)) ?_)|(refine mcl HBS _ _ _ (by rfl) (fun W hW=>by(obtain⟨x0,x1,x2,x3,x4,x5,x6,x7,x8,x9,x10⟩:=(HQl.out _ hW).c11;obtain⟨v0,v1,v2⟩:=(HQx.out _ hW).c3;rw[HA.out] at v2;have c0:=HC0.out _ hW j _ _ HX.out rfl;have c1:=HC.out _ hW j _ 1 _ HX.out rfl;have c2:=HC.out _ hW j _ 2 _ HX.out rfl;go_simp;first|done|rfl)) (fun W hW=>KS.out W (HBS.out W hW)) ?_));simp only[Act.put,La,Lb,Lc])
      refine Zd (fun W hW=>?_);have hq:=HBS.out W hW;clear hW HBS;go_wp2_with fail;go_roundw
      case rel=>exact⟨j+1,hlt,by go_num,hq,HN⟩
      case measure=>simp[intOf];omega
  · obtain rfl:j=x.over.length:=by omega
    have HF:Hid ((tb&&decide ((x.over.length:Int)≤2))=r):=Zz (by rw[←HR.out,←HTB.out];unfold exitOk;rw[Zl.any HNo.out];rfl);clear hj hlt HNo v2;have hW:=hq;obtain⟨x0,x1,x2,x3,x4,x5,x6,x7,x8,x9,x10⟩:=(HQl.out _ hW).c11;obtain⟨v0,v1,v2⟩:=(HQx.out _ hW).c3;clear hW;go_wp2_with fail;refine(KT.out _ hq).mono ?_;clear x0 x1 x2 x3 x4 x5 x6 x7 x8 x9 x10 v0 v1 v2 hq;rintro e w1 ⟨rfl,hq⟩;have v2:=(HQx.out _ hq).Za 2 rfl;cases tb
    · go_wp2_with fail;go_ret;exact⟨Zc HF.out,HQp.out _ hq⟩
    · by_cases h2:(x.over.length:Int)≤2
      · have d2:=decide_eq_true h2;rw[d2] at HF;clear h2;go_wp2_with fail;go_ret;exact⟨Zc HF.out,HQp.out _ hq⟩
      · have d2:=decide_eq_false h2;rw[d2] at HF;clear h2;go_wp2_with fail;go_ret;exact⟨Zc HF.out,HQp.out _ hq⟩
theorem flankR_P (hP:Closed P) {l:Lay} (hL:∀w,P w→Lies l w) (a b c d:Int) {r:Bool} (hr:flankV l a b c d=r) (h:P w):
 Calls Tryz.prog 91 #[l.val,flkV a b c d] w fun e w'=>e= .returned (.bool r)∧P w':=by
 obtain⟨Q,HQ,HQp,HQl,HQv,hq⟩:=keep_box2 hP h 29 136 l.cells (flkCells (a,b,c,d))
 have HQL:Hid (∀W,Q W→Row W W.heap.size l.As (l.secs.flatMap Sec.cells)):=Zz fun W hW=>(hL _ (HQp.out _ hW)).secs
 have hcase:=flank_cases l a b c d
 rw[hr] at hcase
 clear h hr hL hP
 rcases hcase with ⟨rfl,h1⟩|⟨rfl,h1,h2⟩|⟨i,x,rfl,hx,hi,⟨rfl,h3⟩|⟨rfl,h3,h4⟩|⟨j,y,rfl,hy,hj,⟨rfl,h5⟩|⟨hne,⟨rfl,h6⟩|⟨rfl,h6,h7⟩|⟨h6,h7,⟨rfl,h8⟩|⟨h8,⟨rfl,h9⟩|⟨h9,h10⟩⟩⟩⟩⟩⟩
 · go_enter Tryz.func91,Tryz.ntmps91;have e1:=decide_eq_true h1;clear h1;have hW:=hq;obtain⟨x0,x1,x2,x3,x4,x5,x6,x7,x8,x9,x10⟩:=(HQl.out _ hW).c11;obtain⟨v0,v1,v2,v3⟩:=(HQv.out _ hW).c4;clear hW;go_wp2_with fail;go_ret;exact⟨rfl,HQp.out _ hq⟩
 · go_enter Tryz.func91,Tryz.ntmps91;have e1:decide (a<0)=false:=decide_eq_false (by omega);have e2:=decide_eq_true h2;clear h1 h2;have hW:=hq;obtain⟨x0,x1,x2,x3,x4,x5,x6,x7,x8,x9,x10⟩:=(HQl.out _ hW).c11;obtain⟨v0,v1,v2,v3⟩:=(HQv.out _ hW).c4;clear hW;go_wp2_with fail;go_ret;exact⟨rfl,HQp.out _ hq⟩
 · go_enter Tryz.func91,Tryz.ntmps91;have e1:decide ((i:Int)<0)=false:=decide_eq_false (by omega);have e2:decide ((l.secs.length:Int)≤i)=false:=decide_eq_false (by omega);have e2n:decide (l.secs.length≤i)=false:=decide_eq_false (by omega);have e3:=decide_eq_true h3;clear h3;have hW:=hq;obtain⟨x0,x1,x2,x3,x4,x5,x6,x7,x8,x9,x10⟩:=(HQl.out _ hW).c11;obtain⟨v0,v1,v2,v3⟩:=(HQv.out _ hW).c4;clear hW;go_wp2_with fail;go_ret;exact⟨rfl,HQp.out _ hq⟩
 · go_enter Tryz.func91,Tryz.ntmps91;have e1:decide ((i:Int)<0)=false:=decide_eq_false (by omega);have e2:decide ((l.secs.length:Int)≤i)=false:=decide_eq_false (by omega);have e2n:decide (l.secs.length≤i)=false:=decide_eq_false (by omega);have e3:decide (c<0)=false:=decide_eq_false (by omega);have e4:=decide_eq_true h4;clear h3 h4;have hW:=hq;obtain⟨x0,x1,x2,x3,x4,x5,x6,x7,x8,x9,x10⟩:=(HQl.out _ hW).c11;obtain⟨v0,v1,v2,v3⟩:=(HQv.out _ hW).c4;clear hW;go_wp2_with fail;go_ret;exact⟨rfl,HQp.out _ hq⟩
 · subst h5;go_enter Tryz.func91,Tryz.ntmps91;have e1:decide ((i:Int)<0)=false:=decide_eq_false (by omega);have e2:decide ((l.secs.length:Int)≤i)=false:=decide_eq_false (by omega);have e2n:decide (l.secs.length≤i)=false:=decide_eq_false (by omega);have hW:=hq;obtain⟨x0,x1,x2,x3,x4,x5,x6,x7,x8,x9,x10⟩:=(HQl.out _ hW).c11;obtain⟨v0,v1,v2,v3⟩:=(HQv.out _ hW).c4;clear hW;go_wp2_with fail;go_ret;exact⟨rfl,HQp.out _ hq⟩
 · go_enter Tryz.func91,Tryz.ntmps91;have e1:decide ((i:Int)<0)=false:=decide_eq_false (by omega);have e2:decide ((l.secs.length:Int)≤i)=false:=decide_eq_false (by omega);have e2n:decide (l.secs.length≤i)=false:=decide_eq_false (by omega);have e3:decide ((j:Int)<0)=false:=decide_eq_false (by omega);have e4:decide ((l.secs.length:Int)≤j)=false:=decide_eq_false (by omega);have e4n:decide (l.secs.length≤j)=false:=decide_eq_false (by omega);have e5:((i:Int)==(j:Int))=false:=by rw[beq_eq_false_iff_ne];omega
   have e5n:(i==j)=false:=by rw[beq_eq_false_iff_ne];exact hne
   have e6:=decide_eq_true h6;clear h6;have hW:=hq;obtain⟨x0,x1,x2,x3,x4,x5,x6,x7,x8,x9,x10⟩:=(HQl.out _ hW).c11;obtain⟨v0,v1,v2,v3⟩:=(HQv.out _ hW).c4;clear hW;go_wp2_with fail;go_ret;exact⟨rfl,HQp.out _ hq⟩
 · go_enter Tryz.func91,Tryz.ntmps91;have e1:decide ((i:Int)<0)=false:=decide_eq_false (by omega);have e2:decide ((l.secs.length:Int)≤i)=false:=decide_eq_false (by omega);have e2n:decide (l.secs.length≤i)=false:=decide_eq_false (by omega);have e3:decide ((j:Int)<0)=false:=decide_eq_false (by omega);have e4:decide ((l.secs.length:Int)≤j)=false:=decide_eq_false (by omega);have e4n:decide (l.secs.length≤j)=false:=decide_eq_false (by omega);have e5:((i:Int)==(j:Int))=false:=by rw[beq_eq_false_iff_ne];omega
   have e5n:(i==j)=false:=by rw[beq_eq_false_iff_ne];exact hne
   have e6:decide (d<0)=false:=decide_eq_false (by omega);have e7:=decide_eq_true h7;clear h6 h7;have hW:=hq;obtain⟨x0,x1,x2,x3,x4,x5,x6,x7,x8,x9,x10⟩:=(HQl.out _ hW).c11;obtain⟨v0,v1,v2,v3⟩:=(HQv.out _ hW).c4;clear hW;go_wp2_with fail;go_ret;exact⟨rfl,HQp.out _ hq⟩
 · go_enter Tryz.func91,Tryz.ntmps91;obtain⟨o1,o2,HA,HC0,HC⟩:=row_at (n:=11) Sec.len (by omega) HQL.out hq hx;have HX:=Zz hx;have HY:=Zz hy;clear hx hy;have e1:decide ((i:Int)<0)=false:=decide_eq_false (by omega);have e2:decide ((l.secs.length:Int)≤i)=false:=decide_eq_false (by omega);have e2n:decide (l.secs.length≤i)=false:=decide_eq_false (by omega);have e3:decide ((j:Int)<0)=false:=decide_eq_false (by omega);have e4:decide ((l.secs.length:Int)≤j)=false:=decide_eq_false (by omega);have e4n:decide (l.secs.length≤j)=false:=decide_eq_false (by omega);have e5:((i:Int)==(j:Int))=false:=by rw[beq_eq_false_iff_ne];omega
   have e5n:(i==j)=false:=by rw[beq_eq_false_iff_ne];exact hne
   have e6:decide (d<0)=false:=decide_eq_false (by omega);have e7:decide (1<d)=false:=decide_eq_false (by omega);have e8:decide (0≤b)=false:=decide_eq_false (by omega);clear h6 h7 h8;have hW:=hq;obtain⟨x0,x1,x2,x3,x4,x5,x6,x7,x8,x9,x10⟩:=(HQl.out _ hW).c11;obtain⟨v0,v1,v2,v3⟩:=(HQv.out _ hW).c4;clear hW;go_wp2_with fail;clear x0 x1 x2 x3 x4 x5 x6 x7 x8 x9 x10 v0 v1 v2 v3;have HBS:Hid (∀W,Below ((w.alloc (.cells l.cells.toArray 29)).alloc (.cells (flkCells ((i:Int),b,(j:Int),d)).toArray 136)).heap.size ((w.alloc (.cells l.cells.toArray 29)).alloc (.cells (flkCells ((i:Int),b,(j:Int),d)).toArray 136)) W→Q W):=Zz (fun W hB=>HQ.out _ _ hq hB);clear hq;refine rmx ((w.alloc (.cells l.cells.toArray 29)).alloc (.cells (flkCells ((i:Int),b,(j:Int),d)).toArray 136)) f27 (by kernel_rfl) (by kernel_rfl) ?_;simp only[Zg,f27,Lm,Ln];repeat ((first|(refine Zb (by rfl) ?_)|(refine mrd HBS _ (by rfl) (fun W hW=>by(obtain⟨x0,x1,x2,x3,x4,x5,x6,x7,x8,x9,x10⟩:=(HQl.out _ hW).c11;obtain⟨v0,v1,v2,v3⟩:=(HQv.out _ hW).c4;rw[HA.out] at x0;have c0:=HC0.out _ hW i _ _ HX.out rfl;have c1:=HC0.out _ hW j _ _ HY.out rfl;go_simp;first|done|with_reducible rfl)) ?_));simp only[Act.put,La,Lb,Lc])
   refine Zd (fun W hW=>?_);have hq:=HBS.out W hW;clear hW HBS;go_wp2_with fail;go_ret;exact⟨Zc rfl,HQp.out _ hq⟩
 · go_enter Tryz.func91,Tryz.ntmps91;obtain⟨o1,o2,HA,HC0,HC⟩:=row_at (n:=11) Sec.len (by omega) HQL.out hq hx;have HX:=Zz hx;have HY:=Zz hy;clear hx hy;have KW:=Zz (fun(W:World) (hW:Q W)=>waysR_B (w:=W) (shapeK x.k));generalize nK x.k=nk at *;have e1:decide ((i:Int)<0)=false:=decide_eq_false (by omega);have e2:decide ((l.secs.length:Int)≤i)=false:=decide_eq_false (by omega);have e2n:decide (l.secs.length≤i)=false:=decide_eq_false (by omega);have e3:decide ((j:Int)<0)=false:=decide_eq_false (by omega);have e4:decide ((l.secs.length:Int)≤j)=false:=decide_eq_false (by omega);have e4n:decide (l.secs.length≤j)=false:=decide_eq_false (by omega);have e5:((i:Int)==(j:Int))=false:=by rw[beq_eq_false_iff_ne];omega
   have e5n:(i==j)=false:=by rw[beq_eq_false_iff_ne];exact hne
   have e6:decide (d<0)=false:=decide_eq_false (by omega);have e7:decide (1<d)=false:=decide_eq_false (by omega);have e8:decide (0≤b)=true:=decide_eq_true h8;have e9:decide (b<nk)=false:=decide_eq_false (by omega);clear h6 h7 h8 h9;have hW:=hq;obtain⟨x0,x1,x2,x3,x4,x5,x6,x7,x8,x9,x10⟩:=(HQl.out _ hW).c11;obtain⟨v0,v1,v2,v3⟩:=(HQv.out _ hW).c4;clear hW;go_wp2_with fail;clear x0 x1 x2 x3 x4 x5 x6 x7 x8 x9 x10 v0 v1 v2 v3;have HBS:Hid (∀W,Below ((w.alloc (.cells l.cells.toArray 29)).alloc (.cells (flkCells ((i:Int),b,(j:Int),d)).toArray 136)).heap.size ((w.alloc (.cells l.cells.toArray 29)).alloc (.cells (flkCells ((i:Int),b,(j:Int),d)).toArray 136)) W→Q W):=Zz (fun W hB=>HQ.out _ _ hq hB);clear hq;refine rmx ((w.alloc (.cells l.cells.toArray 29)).alloc (.cells (flkCells ((i:Int),b,(j:Int),d)).toArray 136)) f27 (by kernel_rfl) (by kernel_rfl) ?_;simp only[Zg,f27,Lm,Ln];repeat ((first|(refine Zb (by rfl) ?_)|(refine mrd HBS _ (by rfl) (fun W hW=>by(obtain⟨x0,x1,x2,x3,x4,x5,x6,x7,x8,x9,x10⟩:=(HQl.out _ hW).c11;obtain⟨v0,v1,v2,v3⟩:=(HQv.out _ hW).c4;rw[HA.out] at x0;have c0:=HC0.out _ hW i _ _ HX.out rfl;have c1:=HC0.out _ hW j _ _ HY.out rfl;go_simp;first|done|with_reducible rfl)) ?_)|(refine mcl HBS _ _ _ (by rfl) (fun W hW=>by(obtain⟨x0,x1,x2,x3,x4,x5,x6,x7,x8,x9,x10⟩:=(HQl.out _ hW).c11;obtain⟨v0,v1,v2,v3⟩:=(HQv.out _ hW).c4;rw[HA.out] at x0;have c0:=HC0.out _ hW i _ _ HX.out rfl;have c1:=HC0.out _ hW j _ _ HY.out rfl;go_simp;first|done|rfl)) (fun W hW=>KW.out W (HBS.out W hW)) ?_));simp only[Act.put,La,Lb,Lc])
   refine Zd (fun W hW=>?_);have hq:=HBS.out W hW;clear hW HBS;go_wp2_with fail;go_ret;exact⟨Zc rfl,HQp.out _ hq⟩
 · go_enter Tryz.func91,Tryz.ntmps91;obtain⟨o1,o2,HA,HC0,HC⟩:=row_at (n:=11) Sec.len (by omega) HQL.out hq hx;have HX:=Zz hx;have HY:=Zz hy;clear hx hy;have KW:=Zz (fun(W:World) (hW:Q W)=>waysR_B (w:=W) (shapeK x.k));generalize nK x.k=nk at *;have e1:decide ((i:Int)<0)=false:=decide_eq_false (by omega);have e2:decide ((l.secs.length:Int)≤i)=false:=decide_eq_false (by omega);have e2n:decide (l.secs.length≤i)=false:=decide_eq_false (by omega);have e3:decide ((j:Int)<0)=false:=decide_eq_false (by omega);have e4:decide ((l.secs.length:Int)≤j)=false:=decide_eq_false (by omega);have e4n:decide (l.secs.length≤j)=false:=decide_eq_false (by omega);have e5:((i:Int)==(j:Int))=false:=by rw[beq_eq_false_iff_ne];omega
   have e5n:(i==j)=false:=by rw[beq_eq_false_iff_ne];exact hne
   have e6:decide (d<0)=false:=decide_eq_false (by omega);have e7:decide (1<d)=false:=decide_eq_false (by omega);have e8:decide (0≤b)=true:=decide_eq_true h8;have e9:decide (b<nk)=true:=decide_eq_true h9;have H10:=Zz h10.symm;clear h6 h7 h8 h9 h10;obtain⟨yb,hyb⟩:∃z,(y.k==2)=z:=⟨_,rfl⟩;rw[hyb] at H10;have hW:=hq;obtain⟨x0,x1,x2,x3,x4,x5,x6,x7,x8,x9,x10⟩:=(HQl.out _ hW).c11;obtain⟨v0,v1,v2,v3⟩:=(HQv.out _ hW).c4;clear hW;go_wp2_with fail;clear x0 x1 x2 x3 x4 x5 x6 x7 x8 x9 x10 v0 v1 v2 v3;have HBS:Hid (∀W,Below ((w.alloc (.cells l.cells.toArray 29)).alloc (.cells (flkCells ((i:Int),b,(j:Int),d)).toArray 136)).heap.size ((w.alloc (.cells l.cells.toArray 29)).alloc (.cells (flkCells ((i:Int),b,(j:Int),d)).toArray 136)) W→Q W):=Zz (fun W hB=>HQ.out _ _ hq hB);clear hq;refine rmx ((w.alloc (.cells l.cells.toArray 29)).alloc (.cells (flkCells ((i:Int),b,(j:Int),d)).toArray 136)) f27 (by kernel_rfl) (by kernel_rfl) ?_;simp only[Zg,f27,Lm,Ln];repeat ((first|(refine Zb (by rfl) ?_)|(refine mrd HBS _ (by rfl) (fun W hW=>by(obtain⟨x0,x1,x2,x3,x4,x5,x6,x7,x8,x9,x10⟩:=(HQl.out _ hW).c11;obtain⟨v0,v1,v2,v3⟩:=(HQv.out _ hW).c4;rw[HA.out] at x0;have c0:=HC0.out _ hW i _ _ HX.out rfl;have c1:=HC0.out _ hW j _ _ HY.out rfl;go_simp;first|done|with_reducible rfl)) ?_)|(refine mcl HBS _ _ _ (by rfl) (fun W hW=>by(obtain⟨x0,x1,x2,x3,x4,x5,x6,x7,x8,x9,x10⟩:=(HQl.out _ hW).c11;obtain⟨v0,v1,v2,v3⟩:=(HQv.out _ hW).c4;rw[HA.out] at x0;have c0:=HC0.out _ hW i _ _ HX.out rfl;have c1:=HC0.out _ hW j _ _ HY.out rfl;go_simp;first|done|rfl)) (fun W hW=>KW.out W (HBS.out W hW)) ?_));simp only[Act.put,La,Lb,Lc])
   refine Zd (fun W hW=>?_);have hq:=HBS.out W hW;clear hW HBS;go_wp2_with fail;go_ret;exact⟨Zc H10.out,HQp.out _ hq⟩
theorem timesR_P (hP:Closed P) (l:Lay) {r:Bool} (hr:(!((timesL l).any fun n=>!withinA n 1 1000))=r) (h:P w):
 Calls Tryz.prog 92 #[l.tval] w fun e w'=>e= .returned (.bool r)∧P w':=by
 have HPP:=Zz (fun W (hB:Below w.heap.size w W)=>hP _ _ h hB)
 have HR:=Zz hr
 clear hP hr h
 obtain⟨t,ht⟩:∃t,timesL l=t:=⟨_,rfl⟩
 have hb:=Whole.new w 27 [.int .i64 l.t0,.int .i64 l.t1,.int .i64 l.t2,.int .i64 l.t3,.int .i64 l.t4,.int .i64 l.t5,.int .i64 l.t6]
 obtain⟨b0,b1,b2,b3,b4,b5,b6⟩:=hb.c7
 have hB1:=below1 w (.cells #[.int .i64 l.t0,.int .i64 l.t1,.int .i64 l.t2,.int .i64 l.t3,.int .i64 l.t4,.int .i64 l.t5,.int .i64 l.t6] 27)
 clear hb
 obtain⟨w1,hw1⟩:∃w1,w.alloc (.cells #[.int .i64 l.t0,.int .i64 l.t1,.int .i64 l.t2,.int .i64 l.t3,.int .i64 l.t4,.int .i64 l.t5,.int .i64 l.t6] 27)=w1:=⟨_,rfl⟩
 have h2:=Whole.new w1 183 [.int .i64 l.t0,.int .i64 l.t1,.int .i64 l.t2,.int .i64 l.t3,.int .i64 l.t4,.int .i64 l.t5,.int .i64 l.t6]
 have hB2:=below1 w1 (.cells #[.int .i64 l.t0,.int .i64 l.t1,.int .i64 l.t2,.int .i64 l.t3,.int .i64 l.t4,.int .i64 l.t5,.int .i64 l.t6] 183)
 rw[hw1] at b0 b1 b2 b3 b4 b5 b6 hB1
 go_enter Tryz.func92,Tryz.ntmps92
 try rw[hw1]
 go_upto_region 2 with (fail)
 clear b0 b1 b2 b3 b4 b5 b6
 obtain⟨w2,hw2⟩:∃w2,(w1.alloc (.cells #[.int .i64 l.t0,.int .i64 l.t1,.int .i64 l.t2,.int .i64 l.t3,.int .i64 l.t4,.int .i64 l.t5,.int .i64 l.t6] 183))=w2:=⟨_,rfl⟩
 have hw2':(w1.alloc (.cells [.int .i64 l.t0,.int .i64 l.t1,.int .i64 l.t2,.int .i64 l.t3,.int .i64 l.t4,.int .i64 l.t5,.int .i64 l.t6].toArray 183))=w2:=hw2
 rw[hw2'] at h2
 rw[hw2] at hB2 ⊢
 have HC:Hid (∀(j:Nat) v,t[j]? =some v→w2.cell? ⟨w1.heap.size,j,none⟩=some (.int .i64 v)):=Zz (fun j v hv=>by
  rw[h2.cell j];have e:[Value.int .i64 l.t0,.int .i64 l.t1,.int .i64 l.t2,.int .i64 l.t3,.int .i64 l.t4,.int .i64 l.t5,.int .i64 l.t6]=t.map (fun v=>Value.int .i64 v):=by rw[←ht];rfl
  rw[e,List.getElem?_map,hv];rfl)
 have HP2:Hid (P w2):=Zz (HPP.out _ (hB1.trans (hB2.mono hB1.size)))
 have ht7:t.length=7:=by rw[←ht];rfl
 rw[ht] at HR
 clear ht hw1 hw2 hw2' h2 hB1 hB2 HPP
 generalize w1.heap.size=g at *
 generalize w.heap.size=g0 at *
 go_wp2_with fail
 go_loopw [4] (fun i wr=>∃j:Nat,j≤7∧i= .int .i64 j∧wr=w2∧Hid (Zl (fun n=>!withinA n 1 1000) t j)) (fun i _=>7 - (intOf i).toNat)
 case atStart=>exact⟨0,by omega,rfl,rfl,Zz (Zl.zero _ _)⟩
 case round=>
  obtain⟨j,hj,rfl,rfl,HNo⟩:=hrel;by_cases hlt:j<7
  · have hlt':(j:Int)<7:=by omega
    obtain⟨v,hv⟩:∃v,t[j]? =some v:=⟨_,List.getElem?_eq_getElem (by omega)⟩;have c0:=HC.out _ _ hv;have HX:=Zz hv;clear hv;by_cases h1:v<1
    · have HF:Hid (false=r):=Zz (by
       rw[←HR.out,any_hit HX.out (by unfold withinA;rw[decide_eq_false (show ¬1≤v by omega)];rfl)];rfl);have d1:=decide_eq_true h1;clear h1 HX;go_wp2_with fail;go_ret;exact⟨Zc HF.out,HP2.out⟩
    · by_cases h2:1000<v
      · have HF:Hid (false=r):=Zz (by
         rw[←HR.out,any_hit HX.out (by unfold withinA;rw[decide_eq_false (show ¬v≤1000 by omega),Bool.and_false];rfl)];rfl);have d1:=decide_eq_false h1;have d2:=decide_eq_true h2;clear h1 h2 HX;go_wp2_with fail;go_ret;exact⟨Zc HF.out,HP2.out⟩
      · have HN:=Zz (HNo.out.succ HX.out (by unfold withinA;rw[decide_eq_true (show 1≤v by omega),decide_eq_true (show v≤1000 by omega)];rfl));have d1:=decide_eq_false h1;have d2:=decide_eq_false h2;clear h1 h2 HX;go_wp2_with fail;go_roundw
        case rel=>exact⟨j+1,hlt,by go_num,by trivial,HN⟩
        case measure=>simp[intOf];omega
  · obtain rfl:j=7:=by omega
    have HF:Hid (true=r):=Zz (by
     have hn:=HNo.out;rw[←ht7] at hn;rw[←HR.out,hn.any];rfl);go_wp2_with fail;go_ret;exact⟨Zc HF.out,HP2.out⟩
end
end
section
open Go.RowKit Go.Shelf
theorem secOk_iff {l:Lay} {x:Sec}:secOk l x=true↔(∀p ∈ x.ports4,0≤p.1→Zp l p.1 p.2=true)∧rightK x=true:=by
 unfold secOk noJ;rw[Bool.and_eq_true,Bool.not_eq_true',List.any_eq_false];refine and_congr_left fun _=>⟨fun h p hp h0=>?_,fun h p hp=>?_⟩
 · have :=h p hp;rw[decide_eq_true h0] at this;simpa using this
 · intro hh;rw[Bool.and_eq_true,decide_eq_true_eq] at hh;rw[h p hp hh.1] at hh;simp at hh
theorem exitOk_iff {l:Lay} {x:Exm}:exitOk l x=true↔(∀s ∈ x.over,stepV l s.1 s.2.1 s.2.2=true)∧Zp l x.s x.q=true∧(x.over.length:Int)≤2:=by
 unfold exitOk noS;rw[Bool.and_eq_true,not_any,Bool.and_eq_true,decide_eq_true_eq]
def rightR (l:Lay):Bool:=!(l.secs.any fun x=>!secOk l x)&&(!(l.sigs.any fun p=>!Zp l p.1 p.2)&&(!(l.exits.any fun x=>!exitOk l x)&&(!(l.flanks.any fun f=>!flankV l f.1 f.2.1 f.2.2.1 f.2.2.2) &&
 (decide ((l.secs.length:Int)≤24)&&(decide ((l.sigs.length:Int)≤12)&&(decide ((l.exits.length:Int)≤12)&&(decide ((l.flanks.length:Int)≤16)&& !((timesL l).any fun n=>!withinA n 1 1000))))))))
theorem rightR_iff {l:Lay}:rightR l=true↔(∀x ∈ l.secs,secOk l x=true)∧(∀p ∈ l.sigs,Zp l p.1 p.2=true)∧(∀x ∈ l.exits,exitOk l x=true)∧(∀f ∈ l.flanks,flankV l f.1 f.2.1 f.2.2.1 f.2.2.2=true) ∧
 (l.secs.length:Int)≤24∧(l.sigs.length:Int)≤12∧(l.exits.length:Int)≤12∧(l.flanks.length:Int)≤16∧(∀n ∈ timesL l,withinA n 1 1000=true):=by
 unfold rightR
 simp only[Bool.and_eq_true,not_any,decide_eq_true_eq]
theorem rightR_eq (l:Lay):rightR l=rightL l:=by
 rw[Bool.eq_iff_iff,rightR_iff,rightL_iff];constructor
 · rintro⟨h1,h2,h3,h4,h5,h6,h7,h8,h9⟩;refine⟨⟨h5,h6,h7,h8,fun x hx=>(exitOk_iff.1 (h3 x hx)).2.2⟩,h9,fun x hx=>(secOk_iff.1 (h1 x hx)).2,fun p hp=>?_,fun s hs=>?_,h4⟩
   · unfold portsL joinsL at hp;rcases List.mem_append.1 hp with hp|hp
     · obtain⟨x,hx,hp⟩:=List.mem_flatMap.1 hp;obtain⟨hp,h0⟩:=List.mem_filter.1 hp;exact(secOk_iff.1 (h1 x hx)).1 p hp (by simpa using h0)
     · rcases List.mem_append.1 hp with hp|hp
       · exact h2 p hp
       · obtain⟨x,hx,rfl⟩:=List.mem_map.1 hp;exact(exitOk_iff.1 (h3 x hx)).2.1
   · obtain⟨x,hx,hs⟩:=List.mem_flatMap.1 hs;exact(exitOk_iff.1 (h3 x hx)).1 s hs
 · rintro⟨⟨h1,h2,h3,h4,h5⟩,h6,h7,h8,h9,h10⟩;refine⟨fun x hx=>secOk_iff.2 ⟨fun p hp h0=>h8 p ?_,h7 x hx⟩,fun p hp=>h8 p ?_,fun x hx=>exitOk_iff.2 ⟨fun s hs=>h9 s (List.mem_flatMap.2 ⟨x,hx,hs⟩),h8 (x.s,x.q) ?_,h5 x hx⟩,h10,h1,h2,h3,h4,h6⟩
   · exact List.mem_append_left _ (List.mem_flatMap.2 ⟨x,hx,List.mem_filter.2 ⟨hp,by simpa using h0⟩⟩)
   · exact List.mem_append_right _ (List.mem_append_left _ hp)
   · exact List.mem_append_right _ (List.mem_append_right _ (List.mem_map.2 ⟨x,hx,rfl⟩))
section
variable {l:Lay} {w:World}
theorem section_B (hL:Lies l w) (x:Sec) {r:Bool} (hr:secOk l x=r):Calls Tryz.prog 88 #[l.val,x.val] w fun e w'=>e= .returned (.bool r)∧Below w.heap.size w w':=
 sectionR_P (P:=fun W=>Below w.heap.size w W) (Closed.below w) (fun W h=>Lies.closed l _ _ hL h) x hr (Below.refl _ _)
theorem exit1_B (hL:Lies l w) (x:Exm) (hm:x ∈ l.exits) {r:Bool} (hr:exitOk l x=r):Calls Tryz.prog 90 #[l.val,x.val] w fun e w'=>e= .returned (.bool r)∧Below w.heap.size w w':=
 exitR1_P (P:=fun W=>Below w.heap.size w W) (Closed.below w) (fun W h=>Lies.closed l _ _ hL h) x (fun W h=>(Lies.closed l _ _ hL h).overs x hm) (hL.nO x hm) hr (Below.refl _ _)
theorem flank_B (hL:Lies l w) (f:Int×Int×Int×Int) {r:Bool} (hr:flankV l f.1 f.2.1 f.2.2.1 f.2.2.2=r):Calls Tryz.prog 91 #[l.val,flkV f.1 f.2.1 f.2.2.1 f.2.2.2] w fun e w'=>e= .returned (.bool r)∧Below w.heap.size w w':=
 flankR_P (P:=fun W=>Below w.heap.size w W) (Closed.below w) (fun W h=>Lies.closed l _ _ hL h) f.1 f.2.1 f.2.2.1 f.2.2.2 hr (Below.refl _ _)
end
section
variable {P:World→Prop} {w:World}
theorem rightR1_P (hP:Closed P) {l:Lay} (hL:∀w,P w→Lies l w) {r:Bool} (hr:rightR l=r) (h:P w):
 Calls Tryz.prog 59 #[l.val] w fun e w'=>e= .returned (.bool r)∧P w':=by
 obtain⟨Q,HQ,HQp,HQl,hq⟩:=keep_box hP h 29 l.cells
 have HQL:Hid (∀W,Q W→Lies l W):=Zz fun W hW=>hL _ (HQp.out _ hW)
 have hnS:=(hL _ h).nS
 have hnG:=(hL _ h).nG
 have hnE:=(hL _ h).nE
 have hnF:=(hL _ h).nF
 obtain⟨tb,htb⟩:∃z,(!((timesL l).any fun n=>!withinA n 1 1000))=z:=⟨_,rfl⟩
 have KT:=Zz (fun W hW=>timesR_P (P:=Q) (w:=W) HQ.out l htb hW)
 have HR:Hid (rightR l=r):=Zz hr
 have HTB:=Zz htb
 clear h hr hL hP htb
 go_enter Tryz.func59,Tryz.ntmps59
 go_wp2_with fail
 go_loopw [3] (fun i wr=>∃j:Nat,j≤l.secs.length∧i= .int .i64 j∧Q wr∧Hid (Zl (fun x=>!secOk l x) l.secs j)) (fun i _=>l.secs.length - (intOf i).toNat)
 case atStart=>exact⟨0,by omega,rfl,hq,Zz (Zl.zero _ _)⟩
 case round=>
  clear hq;obtain⟨j,hj,rfl,hq,HNo⟩:=hrel;have x0:=(HQl.out _ hq).Za 0 rfl;by_cases hlt:j<l.secs.length
  · have hlt':(j:Int)<l.secs.length:=by omega
    obtain⟨x,hx⟩:∃x,l.secs[j]? =some x:=⟨_,List.getElem?_eq_getElem hlt⟩;obtain⟨o1,o2,HA,HC0,HC⟩:=row_at (n:=11) Sec.len (by omega) (fun W hW=>(HQL.out W hW).secs) hq hx;have HX:=Zz hx;have HM:=Zz (List.mem_of_getElem? hx);clear hx;obtain⟨b,hb⟩:∃b,secOk l x=b:=⟨_,rfl⟩;have KS:Hid (∀W,Q W→Calls Tryz.prog 88 #[.agg #[.slice (some ⟨o1,o2,none⟩) l.secs.length l.cs,.slice l.Ag l.sigs.length l.cg,.slice l.Ae l.exits.length l.ce,.slice l.Af l.flanks.length l.cf,.int .i64 l.t0,.int .i64 l.t1,.int .i64 l.t2,.int .i64 l.t3,.int .i64 l.t4,.int .i64 l.t5,.int .i64 l.t6],x.val] W fun e w'=>e= .returned (.bool b)∧Below W.heap.size W w'):=Zz (by rw[←HA.out];exact fun W hW=>section_B (HQL.out W hW) x hb);have HB:Hid ((!secOk l x)= !b):=Zz (by rw[hb]);clear hb;go_wp2_with fail;clear x0;cases b
    · have HF:Hid (false=r):=Zz (by rw[←HR.out];unfold rightR;rw[any_hit (l:=l.secs) HX.out HB.out];simp);have HBS:Hid (∀W,Below wr.heap.size wr W→Q W):=Zz (fun W hB=>HQ.out _ _ hq hB);clear hq;refine rmx wr f8 (by kernel_rfl) (by kernel_rfl) ?_;simp only[Zg,f8,Lm,Ln];repeat ((first|(refine Zb (by rfl) ?_)|(refine mrd HBS _ (by rfl) (fun W hW=>by(obtain⟨x0,x1,x2,x3,x4,x5,x6,x7,x8,x9,x10⟩:=(HQl.out _ hW).c11;rw[HA.out] at x0;have c0:=HC0.out _ hW j _ _ HX.out rfl;have c1:=HC.out _ hW j _ 1 _ HX.out rfl;have c2:=HC.out _ hW j _ 2 _ HX.out rfl;have c3:=HC.out _ hW j _ 3 _ HX.out rfl;have c4:=HC.out _ hW j _ 4 _ HX.out rfl;have c5:=HC.out _ hW j _ 5 _ HX.out rfl;have c6:=HC.out _ hW j _ 6 _ HX.out rfl;have c7:=HC.out _ hW j _ 7 _ HX.out rfl;have c8:=HC.out _ hW j _ 8 _ HX.out rfl;have c9:=HC.out _ hW j _ 9 _ HX.out rfl;have c10:=HC.out _ hW j _ 10 _ HX.out rfl;go_simp;first|done|with_reducible rfl)) ?_)|(refine mcl HBS _ _ _ (by rfl) (fun W hW=>by(obtain⟨x0,x1,x2,x3,x4,x5,x6,x7,x8,x9,x10⟩:=(HQl.out _ hW).c11;rw[HA.out] at x0;have c0:=HC0.out _ hW j _ _ HX.out rfl;have c1:=HC.out _ hW j _ 1 _ HX.out rfl;have c2:=HC.out _ hW j _ 2 _ HX.out rfl;have c3:=HC.out _ hW j _ 3 _ HX.out rfl;have c4:=HC.out _ hW j _ 4 _ HX.out rfl;have c5:=HC.out _ hW j _ 5 _ HX.out rfl;have c6:=HC.out _ hW j _ 6 _ HX.out rfl;have c7:=HC.out _ hW j _ 7 _ HX.out rfl;have c8:=HC.out _ hW j _ 8 _ HX.out rfl;have c9:=HC.out _ hW j _ 9 _ HX.out rfl;have c10:=HC.out _ hW j _ 10 _ HX.out rfl;go_simp;first|done|rfl)) (fun W hW=>KS.out W (HBS.out W hW)) ?_));simp only[Act.put,La,Lb,Lc])
      refine Zd (fun W hW=>?_);have hq:=HBS.out W hW;clear hW HBS;go_wp2_with fail;go_ret;exact⟨Zc HF.out,HQp.out _ hq⟩
    · have HN:=Zz (HNo.out.succ HX.out HB.out);have HBS:Hid (∀W,Below wr.heap.size wr W→Q W):=Zz (fun W hB=>HQ.out _ _ hq hB);clear hq;refine rmx wr f8 (by kernel_rfl) (by kernel_rfl) ?_;simp only[Zg,f8,Lm,Ln];repeat ((first|(refine Zb (by rfl) ?_)|(refine mrd HBS _ (by rfl) (fun W hW=>by(obtain⟨x0,x1,x2,x3,x4,x5,x6,x7,x8,x9,x10⟩:=(HQl.out _ hW).c11;rw[HA.out] at x0;have c0:=HC0.out _ hW j _ _ HX.out rfl;have c1:=HC.out _ hW j _ 1 _ HX.out rfl;have c2:=HC.out _ hW j _ 2 _ HX.out rfl;have c3:=HC.out _ hW j _ 3 _ HX.out rfl;have c4:=HC.out _ hW j _ 4 _ HX.out rfl;have c5:=HC.out _ hW j _ 5 _ HX.out rfl;have c6:=HC.out _ hW j _ 6 _ HX.out rfl;have c7:=HC.out _ hW j _ 7 _ HX.out rfl;have c8:=HC.out _ hW j _ 8 _ HX.out rfl;have c9:=HC.out _ hW j _ 9 _ HX.out rfl;have c10:=HC.out _ hW j _ 10 _ HX.out rfl;go_simp;first|done|with_reducible rfl)) ?_)|(refine mcl HBS _ _ _ (by rfl) (fun W hW=>by(obtain⟨x0,x1,x2,x3,x4,x5,x6,x7,x8,x9,x10⟩:=(HQl.out _ hW).c11;rw[HA.out] at x0;have c0:=HC0.out _ hW j _ _ HX.out rfl;have c1:=HC.out _ hW j _ 1 _ HX.out rfl;have c2:=HC.out _ hW j _ 2 _ HX.out rfl;have c3:=HC.out _ hW j _ 3 _ HX.out rfl;have c4:=HC.out _ hW j _ 4 _ HX.out rfl;have c5:=HC.out _ hW j _ 5 _ HX.out rfl;have c6:=HC.out _ hW j _ 6 _ HX.out rfl;have c7:=HC.out _ hW j _ 7 _ HX.out rfl;have c8:=HC.out _ hW j _ 8 _ HX.out rfl;have c9:=HC.out _ hW j _ 9 _ HX.out rfl;have c10:=HC.out _ hW j _ 10 _ HX.out rfl;go_simp;first|done|rfl)) (fun W hW=>KS.out W (HBS.out W hW)) ?_));simp only[Act.put,La,Lb,Lc])
      refine Zd (fun W hW=>?_);have hq:=HBS.out W hW;clear hW HBS;go_wp2_with fail;go_roundw
      case rel=>exact⟨j+1,hlt,by go_num,hq,HN⟩
      case measure=>simp[intOf];omega
  · obtain rfl:j=l.secs.length:=by omega
    have HH1:=Zz (Zl.any HNo.out);clear HNo hj hlt;go_wp2_with fail;clear x0;go_loopw [4] (fun i wr=>∃j:Nat,j≤l.sigs.length∧i= .int .i64 j∧Q wr∧Hid (Zl (fun x=>!Zp l x.1 x.2) l.sigs j)) (fun i _=>l.sigs.length - (intOf i).toNat)
    case atStart=>exact⟨0,by omega,rfl,hq,Zz (Zl.zero _ _)⟩
    case round=>
     clear hq;obtain⟨j,hj,rfl,hq,HNo⟩:=hrel;have x1:=(HQl.out _ hq).Za 1 rfl;by_cases hlt:j<l.sigs.length
     · have hlt':(j:Int)<l.sigs.length:=by omega
       obtain⟨x,hx⟩:∃x,l.sigs[j]? =some x:=⟨_,List.getElem?_eq_getElem hlt⟩;obtain⟨o1,o2,HA,HC0,HC⟩:=row_at (n:=2) (fun _=>rfl) (by omega) (fun W hW=>(HQL.out W hW).sigs) hq hx;have HX:=Zz hx;have HM:=Zz (List.mem_of_getElem? hx);clear hx;obtain⟨b,hb⟩:∃b,Zp l x.1 x.2=b:=⟨_,rfl⟩;have KS:Hid (∀W,Q W→Calls Tryz.prog 89 #[.agg #[.slice l.As l.secs.length l.cs,.slice (some ⟨o1,o2,none⟩) l.sigs.length l.cg,.slice l.Ae l.exits.length l.ce,.slice l.Af l.flanks.length l.cf,.int .i64 l.t0,.int .i64 l.t1,.int .i64 l.t2,.int .i64 l.t3,.int .i64 l.t4,.int .i64 l.t5,.int .i64 l.t6],prtV x.1 x.2] W fun e w'=>e= .returned (.bool b)∧Below W.heap.size W w'):=Zz (by rw[←HA.out];exact fun W hW=>thereR_B (HQL.out W hW) x.1 x.2 hb);have HB:Hid ((!Zp l x.1 x.2)= !b):=Zz (by rw[hb]);clear hb;go_wp2_with fail;clear x1;cases b
       · have HF:Hid (false=r):=Zz (by rw[←HR.out];unfold rightR;rw[any_hit (l:=l.sigs) HX.out HB.out];simp);have HBS:Hid (∀W,Below wr.heap.size wr W→Q W):=Zz (fun W hB=>HQ.out _ _ hq hB);clear hq;refine rmx wr f9 (by kernel_rfl) (by kernel_rfl) ?_;simp only[Zg,f9,Lm,Ln];repeat ((first|(refine Zb (by rfl) ?_)|(refine mrd HBS _ (by rfl) (fun W hW=>by(obtain⟨x0,x1,x2,x3,x4,x5,x6,x7,x8,x9,x10⟩:=(HQl.out _ hW).c11;rw[HA.out] at x1;have c0:=HC0.out _ hW j _ _ HX.out rfl;have c1:=HC.out _ hW j _ 1 _ HX.out rfl;go_simp;first|done|with_reducible rfl)) ?_)|(refine mcl HBS _ _ _ (by rfl) (fun W hW=>by(obtain⟨x0,x1,x2,x3,x4,x5,x6,x7,x8,x9,x10⟩:=(HQl.out _ hW).c11;rw[HA.out] at x1;have c0:=HC0.out _ hW j _ _ HX.out rfl;have c1:=HC.out _ hW j _ 1 _ HX.out rfl;go_simp;first|done|rfl)) (fun W hW=>KS.out W (HBS.out W hW)) ?_));simp only[Act.put,La,Lb,Lc])
         refine Zd (fun W hW=>?_);have hq:=HBS.out W hW;clear hW HBS;go_wp2_with fail;go_ret;exact⟨Zc HF.out,HQp.out _ hq⟩
       · have HN:=Zz (HNo.out.succ HX.out HB.out);have HBS:Hid (∀W,Below wr.heap.size wr W→Q W):=Zz (fun W hB=>HQ.out _ _ hq hB);clear hq;refine rmx wr f9 (by kernel_rfl) (by kernel_rfl) ?_;simp only[Zg,f9,Lm,Ln];repeat ((first|(refine Zb (by rfl) ?_)|(refine mrd HBS _ (by rfl) (fun W hW=>by(obtain⟨x0,x1,x2,x3,x4,x5,x6,x7,x8,x9,x10⟩:=(HQl.out _ hW).c11;rw[HA.out] at x1;have c0:=HC0.out _ hW j _ _ HX.out rfl;have c1:=HC.out _ hW j _ 1 _ HX.out rfl;go_simp;first|done|with_reducible rfl)) ?_)|(refine mcl HBS _ _ _ (by rfl) (fun W hW=>by(obtain⟨x0,x1,x2,x3,x4,x5,x6,x7,x8,x9,x10⟩:=(HQl.out _ hW).c11;rw[HA.out] at x1;have c0:=HC0.out _ hW j _ _ HX.out rfl;have c1:=HC.out _ hW j _ 1 _ HX.out rfl;go_simp;first|done|rfl)) (fun W hW=>KS.out W (HBS.out W hW)) ?_));simp only[Act.put,La,Lb,Lc])
         refine Zd (fun W hW=>?_);have hq:=HBS.out W hW;clear hW HBS;go_wp2_with fail;go_roundw
         case rel=>exact⟨j+1,hlt,by go_num,hq,HN⟩
         case measure=>simp[intOf];omega
     · obtain rfl:j=l.sigs.length:=by omega
       have HH2:=Zz (Zl.any HNo.out);clear HNo hj hlt;go_wp2_with fail;clear x1;go_loopw [5] (fun i wr=>∃j:Nat,j≤l.exits.length∧i= .int .i64 j∧Q wr∧Hid (Zl (fun x=>!exitOk l x) l.exits j)) (fun i _=>l.exits.length - (intOf i).toNat)
       case atStart=>exact⟨0,by omega,rfl,hq,Zz (Zl.zero _ _)⟩
       case round=>
        clear hq;obtain⟨j,hj,rfl,hq,HNo⟩:=hrel;have x2:=(HQl.out _ hq).Za 2 rfl;by_cases hlt:j<l.exits.length
        · have hlt':(j:Int)<l.exits.length:=by omega
          obtain⟨x,hx⟩:∃x,l.exits[j]? =some x:=⟨_,List.getElem?_eq_getElem hlt⟩;obtain⟨o1,o2,HA,HC0,HC⟩:=row_at (n:=3) (fun _=>rfl) (by omega) (fun W hW=>(HQL.out W hW).exits) hq hx;have HX:=Zz hx;have HM:=Zz (List.mem_of_getElem? hx);clear hx;obtain⟨b,hb⟩:∃b,exitOk l x=b:=⟨_,rfl⟩;have KS:Hid (∀W,Q W→Calls Tryz.prog 90 #[.agg #[.slice l.As l.secs.length l.cs,.slice l.Ag l.sigs.length l.cg,.slice (some ⟨o1,o2,none⟩) l.exits.length l.ce,.slice l.Af l.flanks.length l.cf,.int .i64 l.t0,.int .i64 l.t1,.int .i64 l.t2,.int .i64 l.t3,.int .i64 l.t4,.int .i64 l.t5,.int .i64 l.t6],x.val] W fun e w'=>e= .returned (.bool b)∧Below W.heap.size W w'):=Zz (by rw[←HA.out];exact fun W hW=>exit1_B (HQL.out W hW) x HM.out hb);have HB:Hid ((!exitOk l x)= !b):=Zz (by rw[hb]);clear hb;go_wp2_with fail;clear x2;cases b
          · have HF:Hid (false=r):=Zz (by rw[←HR.out];unfold rightR;rw[any_hit (l:=l.exits) HX.out HB.out];simp);have HBS:Hid (∀W,Below wr.heap.size wr W→Q W):=Zz (fun W hB=>HQ.out _ _ hq hB);clear hq;refine rmx wr f8 (by kernel_rfl) (by kernel_rfl) ?_;simp only[Zg,f8,Lm,Ln];repeat ((first|(refine Zb (by rfl) ?_)|(refine mrd HBS _ (by rfl) (fun W hW=>by(obtain⟨x0,x1,x2,x3,x4,x5,x6,x7,x8,x9,x10⟩:=(HQl.out _ hW).c11;rw[HA.out] at x2;have c0:=HC0.out _ hW j _ _ HX.out rfl;have c1:=HC.out _ hW j _ 1 _ HX.out rfl;have c2:=HC.out _ hW j _ 2 _ HX.out rfl;go_simp;first|done|with_reducible rfl)) ?_)|(refine mcl HBS _ _ _ (by rfl) (fun W hW=>by(obtain⟨x0,x1,x2,x3,x4,x5,x6,x7,x8,x9,x10⟩:=(HQl.out _ hW).c11;rw[HA.out] at x2;have c0:=HC0.out _ hW j _ _ HX.out rfl;have c1:=HC.out _ hW j _ 1 _ HX.out rfl;have c2:=HC.out _ hW j _ 2 _ HX.out rfl;go_simp;first|done|rfl)) (fun W hW=>KS.out W (HBS.out W hW)) ?_));simp only[Act.put,La,Lb,Lc])
            refine Zd (fun W hW=>?_);have hq:=HBS.out W hW;clear hW HBS;go_wp2_with fail;go_ret;exact⟨Zc HF.out,HQp.out _ hq⟩
          · have HN:=Zz (HNo.out.succ HX.out HB.out);have HBS:Hid (∀W,Below wr.heap.size wr W→Q W):=Zz (fun W hB=>HQ.out _ _ hq hB);clear hq;refine rmx wr f8 (by kernel_rfl) (by kernel_rfl) ?_;simp only[Zg,f8,Lm,Ln];repeat ((first|(refine Zb (by rfl) ?_)|(refine mrd HBS _ (by rfl) (fun W hW=>by(obtain⟨x0,x1,x2,x3,x4,x5,x6,x7,x8,x9,x10⟩:=(HQl.out _ hW).c11;rw[HA.out] at x2;have c0:=HC0.out _ hW j _ _ HX.out rfl;have c1:=HC.out _ hW j _ 1 _ HX.out rfl;have c2:=HC.out _ hW j _ 2 _ HX.out rfl;go_simp;first|done|with_reducible rfl)) ?_)|(refine mcl HBS _ _ _ (by rfl) (fun W hW=>by(obtain⟨x0,x1,x2,x3,x4,x5,x6,x7,x8,x9,x10⟩:=(HQl.out _ hW).c11;rw[HA.out] at x2;have c0:=HC0.out _ hW j _ _ HX.out rfl;have c1:=HC.out _ hW j _ 1 _ HX.out rfl;have c2:=HC.out _ hW j _ 2 _ HX.out rfl;go_simp;first|done|rfl)) (fun W hW=>KS.out W (HBS.out W hW)) ?_));simp only[Act.put,La,Lb,Lc])
            refine Zd (fun W hW=>?_);have hq:=HBS.out W hW;clear hW HBS;go_wp2_with fail;go_roundw
            case rel=>exact⟨j+1,hlt,by go_num,hq,HN⟩
            case measure=>simp[intOf];omega
        · obtain rfl:j=l.exits.length:=by omega
          have HH3:=Zz (Zl.any HNo.out);clear HNo hj hlt;go_wp2_with fail;clear x2;go_loopw [6] (fun i wr=>∃j:Nat,j≤l.flanks.length∧i= .int .i64 j∧Q wr∧Hid (Zl (fun x=>!flankV l x.1 x.2.1 x.2.2.1 x.2.2.2) l.flanks j)) (fun i _=>l.flanks.length - (intOf i).toNat)
          case atStart=>exact⟨0,by omega,rfl,hq,Zz (Zl.zero _ _)⟩
          case round=>
           clear hq;obtain⟨j,hj,rfl,hq,HNo⟩:=hrel;have x3:=(HQl.out _ hq).Za 3 rfl;by_cases hlt:j<l.flanks.length
           · have hlt':(j:Int)<l.flanks.length:=by omega
             obtain⟨x,hx⟩:∃x,l.flanks[j]? =some x:=⟨_,List.getElem?_eq_getElem hlt⟩;obtain⟨o1,o2,HA,HC0,HC⟩:=row_at (n:=4) (fun _=>rfl) (by omega) (fun W hW=>(HQL.out W hW).flanks) hq hx;have HX:=Zz hx;have HM:=Zz (List.mem_of_getElem? hx);clear hx;obtain⟨b,hb⟩:∃b,flankV l x.1 x.2.1 x.2.2.1 x.2.2.2=b:=⟨_,rfl⟩;have KS:Hid (∀W,Q W→Calls Tryz.prog 91 #[.agg #[.slice l.As l.secs.length l.cs,.slice l.Ag l.sigs.length l.cg,.slice l.Ae l.exits.length l.ce,.slice (some ⟨o1,o2,none⟩) l.flanks.length l.cf,.int .i64 l.t0,.int .i64 l.t1,.int .i64 l.t2,.int .i64 l.t3,.int .i64 l.t4,.int .i64 l.t5,.int .i64 l.t6],flkV x.1 x.2.1 x.2.2.1 x.2.2.2] W fun e w'=>e= .returned (.bool b)∧Below W.heap.size W w'):=Zz (by rw[←HA.out];exact fun W hW=>flank_B (HQL.out W hW) x hb);have HB:Hid ((!flankV l x.1 x.2.1 x.2.2.1 x.2.2.2)= !b):=Zz (by rw[hb]);clear hb;go_wp2_with fail;clear x3;cases b
             · have HF:Hid (false=r):=Zz (by rw[←HR.out];unfold rightR;rw[any_hit (l:=l.flanks) HX.out HB.out];simp);have HBS:Hid (∀W,Below wr.heap.size wr W→Q W):=Zz (fun W hB=>HQ.out _ _ hq hB);clear hq;refine rmx wr f8 (by kernel_rfl) (by kernel_rfl) ?_;simp only[Zg,f8,Lm,Ln];repeat ((first|(refine Zb (by rfl) ?_)|(refine mrd HBS _ (by rfl) (fun W hW=>by(obtain⟨x0,x1,x2,x3,x4,x5,x6,x7,x8,x9,x10⟩:=(HQl.out _ hW).c11;rw[HA.out] at x3;have c0:=HC0.out _ hW j _ _ HX.out rfl;have c1:=HC.out _ hW j _ 1 _ HX.out rfl;have c2:=HC.out _ hW j _ 2 _ HX.out rfl;have c3:=HC.out _ hW j _ 3 _ HX.out rfl;go_simp;first|done|with_reducible rfl)) ?_)|(refine mcl HBS _ _ _ (by rfl) (fun W hW=>by(obtain⟨x0,x1,x2,x3,x4,x5,x6,x7,x8,x9,x10⟩:=(HQl.out _ hW).c11;rw[HA.out] at x3;have c0:=HC0.out _ hW j _ _ HX.out rfl;have c1:=HC.out _ hW j _ 1 _ HX.out rfl;have c2:=HC.out _ hW j _ 2 _ HX.out rfl;have c3:=HC.out _ hW j _ 3 _ HX.out rfl;go_simp;first|done|rfl)) (fun W hW=>KS.out W (HBS.out W hW)) ?_));simp only[Act.put,La,Lb,Lc])
               refine Zd (fun W hW=>?_);have hq:=HBS.out W hW;clear hW HBS;go_wp2_with fail;go_ret;exact⟨Zc HF.out,HQp.out _ hq⟩
             · have HN:=Zz (HNo.out.succ HX.out HB.out);have HBS:Hid (∀W,Below wr.heap.size wr W→Q W):=Zz (fun W hB=>HQ.out _ _ hq hB);clear hq;refine rmx wr f8 (by kernel_rfl) (by kernel_rfl) ?_;simp only[Zg,f8,Lm,Ln];repeat ((first|(refine Zb (by rfl) ?_)|(refine mrd HBS _ (by rfl) (fun W hW=>by(obtain⟨x0,x1,x2,x3,x4,x5,x6,x7,x8,x9,x10⟩:=(HQl.out _ hW).c11;rw[HA.out] at x3;have c0:=HC0.out _ hW j _ _ HX.out rfl;have c1:=HC.out _ hW j _ 1 _ HX.out rfl;have c2:=HC.out _ hW j _ 2 _ HX.out rfl;have c3:=HC.out _ hW j _ 3 _ HX.out rfl;go_simp;first|done|with_reducible rfl)) ?_)|(refine mcl HBS _ _ _ (by rfl) (fun W hW=>by(obtain⟨x0,x1,x2,x3,x4,x5,x6,x7,x8,x9,x10⟩:=(HQl.out _ hW).c11;rw[HA.out] at x3;have c0:=HC0.out _ hW j _ _ HX.out rfl;have c1:=HC.out _ hW j _ 1 _ HX.out rfl;have c2:=HC.out _ hW j _ 2 _ HX.out rfl;have c3:=HC.out _ hW j _ 3 _ HX.out rfl;go_simp;first|done|rfl)) (fun W hW=>KS.out W (HBS.out W hW)) ?_));simp only[Act.put,La,Lb,Lc])
               refine Zd (fun W hW=>?_);have hq:=HBS.out W hW;clear hW HBS;go_wp2_with fail;go_roundw
               case rel=>exact⟨j+1,hlt,by go_num,hq,HN⟩
               case measure=>simp[intOf];omega
           · obtain rfl:j=l.flanks.length:=by omega
             have HH4:=Zz (Zl.any HNo.out);clear HNo hj hlt;clear x3;by_cases h0:(l.secs.length:Int)≤24
             · have d0:=decide_eq_true h0;clear h0;by_cases h1:(l.sigs.length:Int)≤12
               · have d1:=decide_eq_true h1;clear h1;by_cases h2:(l.exits.length:Int)≤12
                 · have d2:=decide_eq_true h2;clear h2;by_cases h3:(l.flanks.length:Int)≤16
                   · have d3:=decide_eq_true h3;clear h3;have HF:Hid (tb=r):=Zz (by
                      have e1:=HH1.out;have e2:=HH2.out;have e3:=HH3.out;have e4:=HH4.out;rw[←HR.out,←HTB.out];unfold rightR;rw[e1,e2,e3,e4,d0,d1,d2,d3];rfl);have hW:=hq;obtain⟨x0,x1,x2,x3,x4,x5,x6,x7,x8,x9,x10⟩:=(HQl.out _ hW).c11;clear hW;go_wp2_with fail;refine(KT.out _ hq).mono ?_;clear x0 x1 x2 x3 x4 x5 x6 x7 x8 x9 x10 hq;rintro e w1 ⟨rfl,hq⟩;go_wp2_with fail;go_ret;exact⟨Zc HF.out,HQp.out _ hq⟩
                   · have d3:=decide_eq_false h3;clear h3;have HF:Hid (false=r):=Zz (by rw[←HR.out];unfold rightR;rw[d3];simp);have hW:=hq;obtain⟨x0,x1,x2,x3,x4,x5,x6,x7,x8,x9,x10⟩:=(HQl.out _ hW).c11;clear hW;go_wp2_with fail;go_ret;exact⟨Zc HF.out,HQp.out _ hq⟩
                 · have d2:=decide_eq_false h2;clear h2;have HF:Hid (false=r):=Zz (by rw[←HR.out];unfold rightR;rw[d2];simp);have hW:=hq;obtain⟨x0,x1,x2,x3,x4,x5,x6,x7,x8,x9,x10⟩:=(HQl.out _ hW).c11;clear hW;go_wp2_with fail;go_ret;exact⟨Zc HF.out,HQp.out _ hq⟩
               · have d1:=decide_eq_false h1;clear h1;have HF:Hid (false=r):=Zz (by rw[←HR.out];unfold rightR;rw[d1];simp);have hW:=hq;obtain⟨x0,x1,x2,x3,x4,x5,x6,x7,x8,x9,x10⟩:=(HQl.out _ hW).c11;clear hW;go_wp2_with fail;go_ret;exact⟨Zc HF.out,HQp.out _ hq⟩
             · have d0:=decide_eq_false h0;clear h0;have HF:Hid (false=r):=Zz (by rw[←HR.out];unfold rightR;rw[d0];simp);have hW:=hq;obtain⟨x0,x1,x2,x3,x4,x5,x6,x7,x8,x9,x10⟩:=(HQl.out _ hW).c11;clear hW;go_wp2_with fail;go_ret;exact⟨Zc HF.out,HQp.out _ hq⟩
end
end
end Go.Proofs.YtifnlhfinjfajaaGreatDoor
