/- Of this seat: JoinA_1, JoinL, TopoQ_1, TopoP_1, LayOneM_1, RouP_1, RouQ_1, NeeP_1, PortS, BeR. -/
import Derived.Test.YtifnlhfinjfajaaGreatDoorK08
import Derived.Test.YtifnlhfinjfajaaGreatDoorK13
namespace Go.Proofs.YtifnlhfinjfajaaGreatDoor
set_option linter.unusedVariables false
set_option linter.unusedSimpArgs false
set_option maxRecDepth 100000
set_option maxHeartbeats 32000000
section
open Go.RowKit Go.Shelf
section
variable {P:World→Prop} {w:World}
theorem noneJ_P (hP:Closed P) (h:P w):Calls Tryz.prog 67 #[] w fun e w'=>e= .returned (prtV (-1) 0)∧P w':=by
 have hp:=hP _ _ h (below1 w (.cells #[.int .i64 (-1),.int .i64 0] 59));obtain⟨e0,e1⟩:=(Whole.new w 59 [.int .i64 (-1),.int .i64 0]).c2;go_enter Tryz.func67,Tryz.ntmps67;go_wp2_with fail;refine bodyPost_ret (v:=prtV (-1) 0) ?_ rfl ⟨rfl,hp⟩;simp[results,Tryz.f67,go_sem,e0,e1]
theorem hasJ_P (hP:Closed P) {l:Lay} (hL:∀w,P w→Lies l w) (s p:Int) {r:Bool} (hr:Zp l s p=r) (h:P w):
 Calls Tryz.prog 66 #[l.val,prtV s p] w fun e w'=>e= .returned (.bool r)∧P w':=by
 obtain⟨Q,HQ,HQp,HQl,HQv,hq⟩:=keep_box2 hP h 29 59 l.cells (Zf (s,p))
 have HQL:Hid (∀W,Q W→Lies l W):=Zz fun W hW=>hL _ (HQp.out _ hW)
 have hcase:=at_cases l s p
 rw[hr] at hcase
 clear h hr hL hP
 rcases hcase with ⟨rfl,h1⟩|⟨rfl,h1,h2⟩|⟨j,y,rfl,hy,hlt,⟨rfl,h1⟩|⟨rfl,h1,h2⟩|⟨rfl,exy,h1,h2⟩⟩
 · have d1:decide (0≤s)=false:=decide_eq_false (by omega);clear h1;go_enter Tryz.func66,Tryz.ntmps66;go_wp2_with fail;have HBS:Hid (∀W,Below ((w.alloc (.cells l.cells.toArray 29)).alloc (.cells (Zf (s,p)).toArray 59)).heap.size ((w.alloc (.cells l.cells.toArray 29)).alloc (.cells (Zf (s,p)).toArray 59)) W→Q W):=Zz (fun W hB=>HQ.out _ _ hq hB);clear hq;refine rmx ((w.alloc (.cells l.cells.toArray 29)).alloc (.cells (Zf (s,p)).toArray 59)) f30 (by kernel_rfl) (by kernel_rfl) ?_;simp only[Zg,f30,Lm,Ln];repeat ((first|(refine Zb (by rfl) ?_)|(refine mrd HBS _ (by rfl) (fun W hW=>by(obtain⟨x0,x1,x2,x3,x4,x5,x6,x7,x8,x9,x10⟩:=(HQl.out _ hW).c11;obtain⟨v0,v1⟩:=(HQv.out _ hW).c2;go_simp;first|done|with_reducible rfl)) ?_));simp only[Act.put,La,Lb,Lc])
   refine Zd (fun W hW=>?_);have hq:=HBS.out W hW;clear hW HBS;go_wp2_with fail;go_ret;exact⟨rfl,HQp.out _ hq⟩
 · have d1:=decide_eq_true h1;have d2:decide (s<l.secs.length)=false:=decide_eq_false (by omega);clear h1 h2;go_enter Tryz.func66,Tryz.ntmps66;go_wp2_with fail;have HBS:Hid (∀W,Below ((w.alloc (.cells l.cells.toArray 29)).alloc (.cells (Zf (s,p)).toArray 59)).heap.size ((w.alloc (.cells l.cells.toArray 29)).alloc (.cells (Zf (s,p)).toArray 59)) W→Q W):=Zz (fun W hB=>HQ.out _ _ hq hB);clear hq;refine rmx ((w.alloc (.cells l.cells.toArray 29)).alloc (.cells (Zf (s,p)).toArray 59)) f30 (by kernel_rfl) (by kernel_rfl) ?_;simp only[Zg,f30,Lm,Ln];repeat ((first|(refine Zb (by rfl) ?_)|(refine mrd HBS _ (by rfl) (fun W hW=>by(obtain⟨x0,x1,x2,x3,x4,x5,x6,x7,x8,x9,x10⟩:=(HQl.out _ hW).c11;obtain⟨v0,v1⟩:=(HQv.out _ hW).c2;go_simp;first|done|with_reducible rfl)) ?_));simp only[Act.put,La,Lb,Lc])
   refine Zd (fun W hW=>?_);have hq:=HBS.out W hW;clear hW HBS;go_wp2_with fail;go_ret;exact⟨rfl,HQp.out _ hq⟩
 · have d1:decide (0≤(j:Int))=true:=decide_eq_true (by omega);have d2:decide ((j:Int)<l.secs.length)=true:=decide_eq_true hlt;have d2n:decide (j<l.secs.length)=true:=decide_eq_true (by omega);have d3:decide (0≤p)=false:=decide_eq_false (by omega);clear h1 hy;go_enter Tryz.func66,Tryz.ntmps66;go_wp2_with fail;have HBS:Hid (∀W,Below ((w.alloc (.cells l.cells.toArray 29)).alloc (.cells (Zf ((j:Int),p)).toArray 59)).heap.size ((w.alloc (.cells l.cells.toArray 29)).alloc (.cells (Zf ((j:Int),p)).toArray 59)) W→Q W):=Zz (fun W hB=>HQ.out _ _ hq hB);clear hq;refine rmx ((w.alloc (.cells l.cells.toArray 29)).alloc (.cells (Zf ((j:Int),p)).toArray 59)) f30 (by kernel_rfl) (by kernel_rfl) ?_;simp only[Zg,f30,Lm,Ln];repeat ((first|(refine Zb (by rfl) ?_)|(refine mrd HBS _ (by rfl) (fun W hW=>by(obtain⟨x0,x1,x2,x3,x4,x5,x6,x7,x8,x9,x10⟩:=(HQl.out _ hW).c11;obtain⟨v0,v1⟩:=(HQv.out _ hW).c2;go_simp;first|done|with_reducible rfl)) ?_));simp only[Act.put,La,Lb,Lc])
   refine Zd (fun W hW=>?_);have hq:=HBS.out W hW;clear hW HBS;go_wp2_with fail;go_ret;exact⟨rfl,HQp.out _ hq⟩
 · have d1:decide (0≤(j:Int))=true:=decide_eq_true (by omega);have d2:decide ((j:Int)<l.secs.length)=true:=decide_eq_true hlt;have d2n:decide (j<l.secs.length)=true:=decide_eq_true (by omega);obtain⟨o1,o2,HA,HC0,HC⟩:=row_at (n:=11) Sec.len (by omega) (fun W hW=>(HQL.out W hW).secs) hq hy;have HX:=Zz hy;have KP:=Zz (fun(W:World) (hW:Q W)=>portsR_P (P:=fun W'=>Below W.heap.size W W') (w:=W) (shapeK y.k) (Below.refl _ _));clear hy;generalize pK y.k=pk at *;have d3:=decide_eq_true h1;have d4:decide (p<pk)=false:=decide_eq_false (by omega);clear h1 h2;go_enter Tryz.func66,Tryz.ntmps66;go_wp2_with fail;have HBS:Hid (∀W,Below ((w.alloc (.cells l.cells.toArray 29)).alloc (.cells (Zf ((j:Int),p)).toArray 59)).heap.size ((w.alloc (.cells l.cells.toArray 29)).alloc (.cells (Zf ((j:Int),p)).toArray 59)) W→Q W):=Zz (fun W hB=>HQ.out _ _ hq hB);clear hq;refine rmx ((w.alloc (.cells l.cells.toArray 29)).alloc (.cells (Zf ((j:Int),p)).toArray 59)) f30 (by kernel_rfl) (by kernel_rfl) ?_;simp only[Zg,f30,Lm,Ln];repeat ((first|(refine Zb (by rfl) ?_)|(refine mrd HBS _ (by rfl) (fun W hW=>by(obtain⟨x0,x1,x2,x3,x4,x5,x6,x7,x8,x9,x10⟩:=(HQl.out _ hW).c11;obtain⟨v0,v1⟩:=(HQv.out _ hW).c2;rw[HA.out] at x0;have c0:=HC0.out _ hW j _ _ HX.out rfl;go_simp;first|done|with_reducible rfl)) ?_)|(refine mcl HBS _ _ _ (by rfl) (fun W hW=>by(obtain⟨x0,x1,x2,x3,x4,x5,x6,x7,x8,x9,x10⟩:=(HQl.out _ hW).c11;obtain⟨v0,v1⟩:=(HQv.out _ hW).c2;rw[HA.out] at x0;have c0:=HC0.out _ hW j _ _ HX.out rfl;go_simp;first|done|rfl)) (fun W hW=>KP.out W (HBS.out W hW)) ?_));simp only[Act.put,La,Lb,Lc])
   refine Zd (fun W hW=>?_);have hq:=HBS.out W hW;clear hW HBS;go_wp2_with fail;go_ret;exact⟨rfl,HQp.out _ hq⟩
 · clear exy;have d1:decide (0≤(j:Int))=true:=decide_eq_true (by omega);have d2:decide ((j:Int)<l.secs.length)=true:=decide_eq_true hlt;have d2n:decide (j<l.secs.length)=true:=decide_eq_true (by omega);obtain⟨o1,o2,HA,HC0,HC⟩:=row_at (n:=11) Sec.len (by omega) (fun W hW=>(HQL.out W hW).secs) hq hy;have HX:=Zz hy;have KP:=Zz (fun(W:World) (hW:Q W)=>portsR_P (P:=fun W'=>Below W.heap.size W W') (w:=W) (shapeK y.k) (Below.refl _ _));clear hy;generalize pK y.k=pk at *;have d3:=decide_eq_true h1;have d4:=decide_eq_true h2;clear h1 h2;go_enter Tryz.func66,Tryz.ntmps66;go_wp2_with fail;have HBS:Hid (∀W,Below ((w.alloc (.cells l.cells.toArray 29)).alloc (.cells (Zf ((j:Int),p)).toArray 59)).heap.size ((w.alloc (.cells l.cells.toArray 29)).alloc (.cells (Zf ((j:Int),p)).toArray 59)) W→Q W):=Zz (fun W hB=>HQ.out _ _ hq hB);clear hq;refine rmx ((w.alloc (.cells l.cells.toArray 29)).alloc (.cells (Zf ((j:Int),p)).toArray 59)) f30 (by kernel_rfl) (by kernel_rfl) ?_;simp only[Zg,f30,Lm,Ln];repeat ((first|(refine Zb (by rfl) ?_)|(refine mrd HBS _ (by rfl) (fun W hW=>by(obtain⟨x0,x1,x2,x3,x4,x5,x6,x7,x8,x9,x10⟩:=(HQl.out _ hW).c11;obtain⟨v0,v1⟩:=(HQv.out _ hW).c2;rw[HA.out] at x0;have c0:=HC0.out _ hW j _ _ HX.out rfl;go_simp;first|done|with_reducible rfl)) ?_)|(refine mcl HBS _ _ _ (by rfl) (fun W hW=>by(obtain⟨x0,x1,x2,x3,x4,x5,x6,x7,x8,x9,x10⟩:=(HQl.out _ hW).c11;obtain⟨v0,v1⟩:=(HQv.out _ hW).c2;rw[HA.out] at x0;have c0:=HC0.out _ hW j _ _ HX.out rfl;go_simp;first|done|rfl)) (fun W hW=>KP.out W (HBS.out W hW)) ?_));simp only[Act.put,La,Lb,Lc])
   refine Zd (fun W hW=>?_);have hq:=HBS.out W hW;clear hW HBS;go_wp2_with fail;go_ret;exact⟨rfl,HQp.out _ hq⟩
end
theorem hasJ_B {l:Lay} {w:World} (hL:Lies l w) (s p:Int) {r:Bool} (hr:Zp l s p=r):Calls Tryz.prog 66 #[l.val,prtV s p] w fun e w'=>e= .returned (.bool r)∧Below w.heap.size w w':=
 hasJ_P (P:=fun W=>Below w.heap.size w W) (Closed.below w) (fun W h=>Lies.closed l _ _ hL h) s p hr (Below.refl _ _)
section
variable {P:World→Prop} {w:World}
theorem beyondJ_P (hP:Closed P) {l:Lay} (hL:∀w,P w→Lies l w) (s p:Int) {q:Int×Int} (hq1:Zt l s p=q) (h:P w):
 Calls Tryz.prog 41 #[l.val,prtV s p] w fun e w'=>e= .returned (prtV q.1 q.2)∧P w':=by
 obtain⟨Q,HQ,HQp,HQl,HQv,HQr,HQb,hq⟩:=keep_box3 hP h 29 59 59 l.cells (Zf (s,p)) [.int .i64 0,.int .i64 0]
 have HQL:Hid (∀W,Q W→Lies l W):=Zz fun W hW=>hL _ (HQp.out _ hW)
 have HPP:=Zz (fun W (hB:Below w.heap.size w W)=>hP _ _ h hB)
 obtain⟨r,hr⟩:∃r,Zp l s p=r:=⟨_,rfl⟩
 have KH:=Zz (fun W hW=>hasJ_P (P:=Q) (w:=W) HQ.out HQL.out s p hr hW)
 have KN:=Zz (fun W hW=>noneJ_P (P:=Q) (w:=W) HQ.out hW)
 clear h hL hP
 have hW:=hq
 obtain⟨x0,x1,x2,x3,x4,x5,x6,x7,x8,x9,x10⟩:=(HQl.out _ hW).c11
 obtain⟨v0,v1⟩:=(HQv.out _ hW).c2
 clear hW
 go_enter Tryz.func41,Tryz.ntmps41
 go_wp2_with fail
 refine(KH.out _ hq).mono ?_
 clear x0 x1 x2 x3 x4 x5 x6 x7 x8 x9 x10 v0 v1 hq
 rintro e w1 ⟨rfl,hq⟩
 cases r
 · obtain rfl:=hq1.symm.trans (beyondV_no hr);go_wp2_with fail;refine(KN.out _ hq).mono ?_;clear hq hr hq1;rintro e w2 ⟨rfl,hq⟩;have hr:=HQr.out _ hq;have f0:=hr.frozen 0;have f1:=hr.frozen 1;obtain⟨z0,z1⟩:=hr.c2;have hWo:=(hr.set 0 (.int .i64 (-1))).set 1 (.int .i64 0);have hBo:=((HQb.out _ hq).setCell (p:=⟨w.heap.size+1+1,0,none⟩) (by show w.heap.size≤w.heap.size+1+1;omega) (.int .i64 (-1))).setCell (p:=⟨w.heap.size+1+1,1,none⟩) (by show w.heap.size≤w.heap.size+1+1;omega) (.int .i64 0);clear hr;go_wp2_with fail;obtain⟨e0,e1⟩:=hWo.c2;refine bodyPost_ret (v:=prtV (-1) 0) ?_ rfl ⟨rfl,HPP.out _ hBo⟩;simp[results,Tryz.f41,go_sem,e0,e1]
 · obtain⟨j,rfl,hy⟩:=atV_yes hr;have hb:=hq1;unfold Zt at hb;rw[if_pos hr] at hb;obtain⟨y,hyy⟩:∃y,atV l j p=y:=⟨_,rfl⟩;rw[hyy] at hy hb;have hlt:(j:Int)<l.secs.length:=by have :=(List.getElem?_eq_some_iff.1 hy).1;omega
   have hp:0≤p∧p<4:=by
    unfold Zp at hr;rw[withinA_iff] at hr;have :=pK_le4 (Zu l j);omega
   obtain⟨i,rfl⟩:∃i:Nat,p=i:=⟨p.toNat,by omega⟩;have hi:(i:Int)<4:=hp.2;have hqi:y.ports4[i]? =some q:=by
    rw[Int.toNat_natCast] at hb;have :i<y.ports4.length:=by show i<4;omega
    rw[List.getElem?_eq_getElem this] at hb ⊢;rw[←hb];rfl
   obtain⟨o1,o2,HA,HC0,HC⟩:=row_at (n:=11) Sec.len (by omega) (fun W hW=>(HQL.out W hW).secs) hq hy;have HJ:Hid (∀W,Q W→W.cell? ⟨o1,o2+j*11+1+i*2,none⟩=some (.int .i64 q.1)∧W.cell? ⟨o1,o2+j*11+1+i*2+1,none⟩=some (.int .i64 q.2)):=Zz (fun W hW=>by
    have h:=HC.out W hW j y;have :i=0∨i=1∨i=2∨i=3:=by omega
    rcases this with rfl|rfl|rfl|rfl <;> cases hqi
    · exact⟨h 1 _ hy rfl,h 2 _ hy rfl⟩
    · exact⟨h 3 _ hy rfl,h 4 _ hy rfl⟩
    · exact⟨h 5 _ hy rfl,h 6 _ hy rfl⟩
    · exact⟨h 7 _ hy rfl,h 8 _ hy rfl⟩);clear hb hqi hyy hy hr hq1 hp;obtain⟨qs,qq⟩:=q;simp only at HJ ⊢;go_wp2_with fail;refine region_mixt Q [(0,false),(1,false),(2,false),(3,false),(4,false),(5,false),(6,false),(7,false),(8,false),(9,false)] 1 10 (by kernel_rfl) rfl (by kernel_rfl) Q ⟨HQ.out,fun _ h=>h⟩ (HQ.out.drew hq) ?_;clear hq;simp only[Zg,Lm,Ln];repeat ((first|(refine Zn _ (by rfl) (fun W hW=>by(obtain⟨x0,x1,x2,x3,x4,x5,x6,x7,x8,x9,x10⟩:=(HQl.out _ hW).c11;obtain⟨v0,v1⟩:=(HQv.out _ hW).c2;rw[HA.out] at x0;have c0:=(HJ.out _ hW).1;have c1:=(HJ.out _ hW).2;go_simp;first|done|with_reducible rfl)) ?_));simp only[Act.put,La,Lb,Lc])
   refine Zd (fun W hW=>?_);simp only[List.drop_succ_cons,List.drop_zero];have hr:=HQr.out _ hW;have f0:=hr.frozen 0;have f1:=hr.frozen 1;obtain⟨z0,z1⟩:=hr.c2;have hWo:=(hr.set 0 (.int .i64 qs)).set 1 (.int .i64 qq);have hBo:=((HQb.out _ hW).setCell (p:=⟨w.heap.size+1+1,0,none⟩) (by show w.heap.size≤w.heap.size+1+1;omega) (.int .i64 qs)).setCell (p:=⟨w.heap.size+1+1,1,none⟩) (by show w.heap.size≤w.heap.size+1+1;omega) (.int .i64 qq);clear hr hW;go_wp2_with fail;obtain⟨e0,e1⟩:=hWo.c2;refine bodyPost_ret (v:=prtV qs qq) ?_ rfl ⟨rfl,HPP.out _ hBo⟩;simp[results,Tryz.f41,go_sem,e0,e1]
end
theorem beyondJ_B {l:Lay} {w:World} (hL:Lies l w) (s p:Int) {q:Int×Int} (hq:Zt l s p=q):Calls Tryz.prog 41 #[l.val,prtV s p] w fun e w'=>e= .returned (prtV q.1 q.2)∧Below w.heap.size w w':=
 beyondJ_P (P:=fun W=>Below w.heap.size w W) (Closed.below w) (fun W h=>Lies.closed l _ _ hL h) s p hq (Below.refl _ _)
section
variable {P:World→Prop} {w:World}
end
theorem portsTo_mem {l:Lay} {n:Nat} {x:Int×Int}:x ∈ portsTo l n↔∃s:Nat,s<n∧x ∈ portsS l s:=by
 unfold portsTo;rw[List.mem_flatMap];simp
theorem joinedL_iff {l:Lay}:joinedL l=true↔l.secs.length≤24∧∀(s:Nat) (x:Sec),l.secs[s]? =some x→rightK x=true∧∀p:Nat,p<(pK x.k).toNat→joinedP l s p=true:=by
 unfold joinedL;rw[Bool.and_eq_true,Bool.and_eq_true,Bool.not_eq_true',Bool.not_eq_true',List.any_eq_false,List.any_eq_false,decide_eq_true_iff];constructor
 · rintro⟨h1,h2,h3⟩;refine⟨by omega,fun s x hx=>⟨?_,fun p hp=>?_⟩⟩
   · have :=h2 x (List.mem_of_getElem? hx);simpa using this
   · have hs:=(List.getElem?_eq_some_iff.1 hx).1;have hk:=kindV_at hx;have hm:((s:Int),(p:Int)) ∈ portsS l s:=by
      unfold portsS;rw[hk];exact List.mem_map.2 ⟨p,List.mem_range.2 hp,rfl⟩
     have :=h3 _ (portsTo_mem.2 ⟨s,hs,hm⟩);simpa using this
 · rintro⟨h1,h2⟩;refine⟨by omega,fun x hx=>?_,fun x hx=>?_⟩
   · obtain⟨s,hs,e⟩:=List.mem_iff_getElem.1 hx;have :=(h2 s x (by rw[List.getElem?_eq_getElem hs,e])).1;simp[this]
   · obtain⟨s,hs,hm⟩:=portsTo_mem.1 hx;unfold portsS at hm;obtain⟨p,hp,rfl⟩:=List.mem_map.1 hm;have hx':l.secs[s]? =some l.secs[s]:=List.getElem?_eq_getElem hs;rw[kindV_at hx'] at hp;have :=(h2 s _ hx').2 p (List.mem_range.1 hp);simp[this]
theorem noneJ_B (w:World):Calls Tryz.prog 67 #[] w fun e w'=>e= .returned (prtV (-1) 0)∧Below w.heap.size w w':=noneJ_P (P:=fun W=>Below w.heap.size w W) (Closed.below w) (Below.refl _ _)
theorem beyond_at {l:Lay} {i p:Nat} {y:Sec} (hy:l.secs[i]? =some y) (hp:p<(pK y.k).toNat):∃q,y.ports4[p]? =some q∧Zt l i p=q:=by
 have h4:=pK_le4 y.k;have hk:=kindV_at hy;have ht:Zp l i p=true:=by rw[there_at,hk];exact decide_eq_true hp
 have hlt:p<y.ports4.length:=by show p<4;omega
 refine⟨y.ports4[p],List.getElem?_eq_getElem hlt,?_⟩;unfold Zt;rw[if_pos ht,Int.toNat_natCast];obtain⟨j,e,hj⟩:=atV_yes ht;have :i=j:=by omega
 subst this;rw[hy] at hj;rw[←Option.some.inj hj,List.getElem?_eq_getElem hlt];rfl
theorem joinedR_any {l:Lay} {w:World} (hL:Lies l w) {r:Bool} (hr:joinedL l=r):
 Calls Tryz.prog 60 #[l.val] w fun e w'=>e= .returned (.bool r)∧Below w.heap.size w w':=by
 obtain⟨Q,HQ,HQp,HQl,hq⟩:=keep_box (P:=fun W=>Below w.heap.size w W) (Closed.below w) (Below.refl _ _) 29 l.cells
 have HL:=Zz (fun W hW=>Lies.closed l _ _ hL (HQp.out W hW))
 have HR:=Zz hr
 have hnS:=hL.nS
 clear hr hL
 go_enter Tryz.func60,Tryz.ntmps60
 go_wp2_with fail
 go_loopw [3] (fun i wr=>∃i':Nat,i'≤l.secs.length∧i'≤24∧i= .int .i64 (i':Int)∧Q wr∧Hid (∀(s:Nat) (x:Sec),s<i'→l.secs[s]? =some x→rightK x=true∧∀p:Nat,p<(pK x.k).toNat→joinedP l s p=true))
  (fun i _=>l.secs.length - (intOf i).toNat)
 case atStart=>exact⟨0,by omega,by omega,rfl,hq,Zz fun s x h=>absurd h (Nat.not_lt_zero _)⟩
 case round=>
  clear hq;obtain⟨i,hi,hi24,rfl,hq,HOK⟩:=hrel;have x0:=(HQl.out _ hq).Za 0 rfl;by_cases hlt:i<l.secs.length
  · have hlt':(i:Int)<l.secs.length:=by omega
    by_cases h24:i<24
    · have h24':(i:Int)<24:=by omega
      obtain⟨y,hy⟩:∃y,l.secs[i]? =some y:=⟨_,List.getElem?_eq_getElem hlt⟩;have HY:=Zz hy;obtain⟨b,off,hA,_,hc0,hc⟩:=(HL.out _ hq).secs.nth Sec.len (by omega) hy;rw[hA] at x0;have c0:=hc0 i y _ hy rfl;have c1:=hc i y 1 _ hy rfl;have c2:=hc i y 2 _ hy rfl;have c3:=hc i y 3 _ hy rfl;have c4:=hc i y 4 _ hy rfl;have c5:=hc i y 5 _ hy rfl;have c6:=hc i y 6 _ hy rfl;have c7:=hc i y 7 _ hy rfl;have c8:=hc i y 8 _ hy rfl;have c9:=hc i y 9 _ hy rfl;have c10:=hc i y 10 _ hy rfl;obtain⟨Q1,HQ1,HQ1p,HQ1s,hq1⟩:=keep_boxV HQ.out hq 63 y.cells;obtain⟨rb,hrb⟩:∃rb,rightK y=rb:=⟨_,rfl⟩;have KR:=Zz (fun W hW=>rightR_P (P:=Q1) (w:=W) HQ1.out y.k y.s0 y.q0 y.s1 y.q1 y.s2 y.q2 y.s3 y.q3 y.c0 y.c1 (r:=rb) (shapeK y.k) hrb hW);have HRB:=Zz hrb;clear hc0 hc hy hrb;go_wp2_with fail;refine(KR.out _ hq1).mono ?_;clear hq1 x0 KR c0 c1 c2 c3 c4 c5 c6 c7 c8 c9 c10;rintro e w1 ⟨rfl,hq1⟩;cases rb
      · have HF:Hid (false=r):=Zz (by
         rw[←HR.out];cases hj:joinedL l
         · rfl
         · have :=((joinedL_iff.1 hj).2 i y HY.out).1;rw[HRB.out] at this;cases this);go_wp2_with fail;go_ret;exact⟨Zc HF.out,HQp.out _ (HQ1p.out _ hq1)⟩
      · have KP:=Zz (fun W hW=>portsR_P (P:=Q1) (w:=W) (shapeK y.k) hW);have hp4:=pK_le4 y.k;have hp0:=pK_nn y.k;obtain⟨m,hm⟩:∃m:Nat,pK y.k=m:=⟨(pK y.k).toNat,by omega⟩;rw[hm] at KP hp4;have HM:=Zz hm;clear hm hp0;go_wp2_with fail;go_loopw [5] (fun p wr=>∃p':Nat,p'≤m∧p= .int .i64 (p':Int)∧Q1 wr∧Hid (∀p:Nat,p<p'→joinedP l i p=true))
         (fun p _=>m - (intOf p).toNat)
        case atStart=>exact⟨0,by omega,rfl,hq1,Zz fun p h=>absurd h (Nat.not_lt_zero _)⟩
        case round=>
         clear hq1;obtain⟨p,hp,rfl,hq1,HPK⟩:=hrel;have s0:=(HQ1s.out _ hq1).Za 0 rfl;go_wp2_with fail;refine(KP.out _ hq1).mono ?_;clear hq1 s0;rintro e w2 ⟨rfl,hq1⟩;by_cases hpm:p<m
         · have hpm':(p:Int)<m:=by omega
           obtain⟨⟨qs,qq⟩,hqi,hbv⟩:=beyond_at HY.out (by rw[HM.out];exact hpm);obtain⟨c0,c1⟩:=join_at (HQ1s.out _ hq1) hqi;simp only at c0 c1;obtain⟨Q2,HQ2,HQ2p,HQ2r,hq2⟩:=keep_boxV HQ1.out hq1 59 (Zf (qs,qq));obtain⟨tr,htr⟩:∃tr,Zp l qs qq=tr:=⟨_,rfl⟩;obtain⟨⟨rs,rq⟩,hrv⟩:∃q,Zt l qs qq=q:=⟨_,rfl⟩;have HQl2:=Zz (fun W hW=>HQl.out W (HQ1p.out W (HQ2p.out W hW)));have HL2:=Zz (fun W hW=>HL.out W (HQ1p.out W (HQ2p.out W hW)));have KN:=Zz (fun(W:World) (hW:Q2 W)=>noneJ_B W);have KH:=Zz (fun W hW=>hasJ_B (w:=W) (HL2.out W hW) qs qq htr);have KB:=Zz (fun W hW=>beyondJ_B (w:=W) (HL2.out W hW) qs qq hrv);have HJP:Hid (joinedP l i p=(((qs== -1)&&(qq==0))||(!(qs==(i:Int))&&((rs==(i:Int))&&(rq==(p:Int)))))):=Zz (by unfold joinedP;rw[hbv];simp only;rw[hrv]);have HNO:Hid (tr=false→rs= -1):=Zz fun e=>by
            subst e;rw[beyondV_no htr] at hrv;cases hrv;rfl
           clear hqi hbv hrv htr;have HBAD:Hid (joinedP l i p=false→false=r):=Zz fun hf=>by
            rw[←HR.out];cases hj:joinedL l
            · rfl
            · have :=((joinedL_iff.1 hj).2 i y HY.out).2 p (by rw[HM.out];exact hpm);rw[hf] at this;cases this
           have HGOOD:Hid (joinedP l i p=true→∀p':Nat,p'<p+1→joinedP l i p'=true):=Zz fun hg p' hp'=>by
            by_cases e:p'<p
            · exact HPK.out p' e
            · have :p'=p:=by omega
              subst this;exact hg
           clear HPK;by_cases h1:qs= -1∧qq=0
           · obtain⟨rfl,rfl⟩:=h1;have HG:=Zz (HGOOD.out (by rw[HJP.out];rfl));go_wp2_with fail;clear c0 c1;have HBS:Hid (∀W,Below (w2.alloc (.cells (Zf (-1,0)).toArray 59)).heap.size (w2.alloc (.cells (Zf (-1,0)).toArray 59)) W→Q2 W):=Zz (fun W hB=>HQ2.out _ _ hq2 hB);clear hq2;refine rmx (w2.alloc (.cells (Zf (-1,0)).toArray 59)) f24 (by kernel_rfl) (by kernel_rfl) ?_;simp only[Zg,f24,Lm,Ln];repeat ((first|(refine Zb (by rfl) ?_)|(refine mrd HBS _ (by rfl) (fun W hW=>by(obtain⟨x0,x1,x2,x3,x4,x5,x6,x7,x8,x9,x10⟩:=(HQl2.out _ hW).c11;obtain⟨v0,v1⟩:=(HQ2r.out _ hW).c2;go_simp;first|done|with_reducible rfl)) ?_)|(refine mcl HBS _ _ _ (by rfl) (fun W hW=>by(obtain⟨x0,x1,x2,x3,x4,x5,x6,x7,x8,x9,x10⟩:=(HQl2.out _ hW).c11;obtain⟨v0,v1⟩:=(HQ2r.out _ hW).c2;go_simp;first|done|rfl)) (fun W hW=>KN.out W (HBS.out W hW)) ?_)|(refine mcl HBS _ _ _ (by rfl) (fun W hW=>by(obtain⟨x0,x1,x2,x3,x4,x5,x6,x7,x8,x9,x10⟩:=(HQl2.out _ hW).c11;obtain⟨v0,v1⟩:=(HQ2r.out _ hW).c2;go_simp;first|done|rfl)) (fun W hW=>KH.out W (HBS.out W hW)) ?_)|(refine mcl HBS _ _ _ (by rfl) (fun W hW=>by(obtain⟨x0,x1,x2,x3,x4,x5,x6,x7,x8,x9,x10⟩:=(HQl2.out _ hW).c11;obtain⟨v0,v1⟩:=(HQ2r.out _ hW).c2;go_simp;first|done|rfl)) (fun W hW=>KB.out W (HBS.out W hW)) ?_));simp only[Act.put,La,Lb,Lc])
             refine Zd (fun W hW=>?_);have hq:=HBS.out W hW;clear hW HBS;go_wp2_with fail;go_roundw
             case rel=>exact⟨p+1,hpm,by go_num,HQ2p.out _ hq,HG⟩
             case measure=>simp[intOf];omega
           have H1:Hid (qs= -1→¬qq=0):=Zz fun e f=>h1 ⟨e,f⟩;clear h1;cases tr
           · have HB:=Zz (HBAD.out (by
              have d:=H1.out;have e:=HNO.out rfl;rw[HJP.out,e];simp;exact d));go_wp2_with fail;clear c0 c1;have HBS:Hid (∀W,Below (w2.alloc (.cells (Zf (qs,qq)).toArray 59)).heap.size (w2.alloc (.cells (Zf (qs,qq)).toArray 59)) W→Q2 W):=Zz (fun W hB=>HQ2.out _ _ hq2 hB);clear hq2;refine rmx (w2.alloc (.cells (Zf (qs,qq)).toArray 59)) f24 (by kernel_rfl) (by kernel_rfl) ?_;simp only[Zg,f24,Lm,Ln];repeat ((first|(refine mrd HBS (.bool true) (by rfl) (fun W hW=>by(obtain⟨x0,x1,x2,x3,x4,x5,x6,x7,x8,x9,x10⟩:=(HQl2.out _ hW).c11;obtain⟨v0,v1⟩:=(HQ2r.out _ hW).c2;have d1:=H1.out;go_simp;first|done|exact d1)) ?_)|(refine Zb (by rfl) ?_)|(refine mrd HBS _ (by rfl) (fun W hW=>by(obtain⟨x0,x1,x2,x3,x4,x5,x6,x7,x8,x9,x10⟩:=(HQl2.out _ hW).c11;obtain⟨v0,v1⟩:=(HQ2r.out _ hW).c2;have d1:=H1.out;go_simp;first|done|with_reducible rfl)) ?_)|(refine mcl HBS _ _ _ (by rfl) (fun W hW=>by(obtain⟨x0,x1,x2,x3,x4,x5,x6,x7,x8,x9,x10⟩:=(HQl2.out _ hW).c11;obtain⟨v0,v1⟩:=(HQ2r.out _ hW).c2;have d1:=H1.out;go_simp;first|done|rfl)) (fun W hW=>KN.out W (HBS.out W hW)) ?_)|(refine mcl HBS _ _ _ (by rfl) (fun W hW=>by(obtain⟨x0,x1,x2,x3,x4,x5,x6,x7,x8,x9,x10⟩:=(HQl2.out _ hW).c11;obtain⟨v0,v1⟩:=(HQ2r.out _ hW).c2;have d1:=H1.out;go_simp;first|done|rfl)) (fun W hW=>KH.out W (HBS.out W hW)) ?_)|(refine mcl HBS _ _ _ (by rfl) (fun W hW=>by(obtain⟨x0,x1,x2,x3,x4,x5,x6,x7,x8,x9,x10⟩:=(HQl2.out _ hW).c11;obtain⟨v0,v1⟩:=(HQ2r.out _ hW).c2;have d1:=H1.out;go_simp;first|done|rfl)) (fun W hW=>KB.out W (HBS.out W hW)) ?_));simp only[Act.put,La,Lb,Lc])
             refine Zd (fun W hW=>?_);have hq:=HBS.out W hW;clear hW HBS;go_wp2_with fail;go_ret;exact⟨Zc HB.out,HQp.out _ (HQ1p.out _ (HQ2p.out _ hq))⟩
           by_cases h2:qs=(i:Int)
           · subst h2;have HB:=Zz (HBAD.out (by rw[HJP.out];simp));go_wp2_with fail;clear c0 c1;have HBS:Hid (∀W,Below (w2.alloc (.cells (Zf ((i:Int),qq)).toArray 59)).heap.size (w2.alloc (.cells (Zf ((i:Int),qq)).toArray 59)) W→Q2 W):=Zz (fun W hB=>HQ2.out _ _ hq2 hB);clear hq2;refine rmx (w2.alloc (.cells (Zf ((i:Int),qq)).toArray 59)) f24 (by kernel_rfl) (by kernel_rfl) ?_;simp only[Zg,f24,Lm,Ln];repeat ((first|(refine mrd HBS (.bool true) (by rfl) (fun W hW=>by(obtain⟨x0,x1,x2,x3,x4,x5,x6,x7,x8,x9,x10⟩:=(HQl2.out _ hW).c11;obtain⟨v0,v1⟩:=(HQ2r.out _ hW).c2;have d1:=H1.out;go_simp;first|done|exact d1)) ?_)|(refine Zb (by rfl) ?_)|(refine mrd HBS _ (by rfl) (fun W hW=>by(obtain⟨x0,x1,x2,x3,x4,x5,x6,x7,x8,x9,x10⟩:=(HQl2.out _ hW).c11;obtain⟨v0,v1⟩:=(HQ2r.out _ hW).c2;have d1:=H1.out;go_simp;first|done|with_reducible rfl)) ?_)|(refine mcl HBS _ _ _ (by rfl) (fun W hW=>by(obtain⟨x0,x1,x2,x3,x4,x5,x6,x7,x8,x9,x10⟩:=(HQl2.out _ hW).c11;obtain⟨v0,v1⟩:=(HQ2r.out _ hW).c2;have d1:=H1.out;go_simp;first|done|rfl)) (fun W hW=>KN.out W (HBS.out W hW)) ?_)|(refine mcl HBS _ _ _ (by rfl) (fun W hW=>by(obtain⟨x0,x1,x2,x3,x4,x5,x6,x7,x8,x9,x10⟩:=(HQl2.out _ hW).c11;obtain⟨v0,v1⟩:=(HQ2r.out _ hW).c2;have d1:=H1.out;go_simp;first|done|rfl)) (fun W hW=>KH.out W (HBS.out W hW)) ?_)|(refine mcl HBS _ _ _ (by rfl) (fun W hW=>by(obtain⟨x0,x1,x2,x3,x4,x5,x6,x7,x8,x9,x10⟩:=(HQl2.out _ hW).c11;obtain⟨v0,v1⟩:=(HQ2r.out _ hW).c2;have d1:=H1.out;go_simp;first|done|rfl)) (fun W hW=>KB.out W (HBS.out W hW)) ?_));simp only[Act.put,La,Lb,Lc])
             refine Zd (fun W hW=>?_);have hq:=HBS.out W hW;clear hW HBS;go_wp2_with fail;go_ret;exact⟨Zc HB.out,HQp.out _ (HQ1p.out _ (HQ2p.out _ hq))⟩
           have H2:Hid ((qs==(i:Int))=false):=Zz (by simp[h2]);have H3:=Zz h2;clear h2;by_cases h3:rs=(i:Int)∧rq=(p:Int)
           · obtain⟨rfl,rfl⟩:=h3;have HG:=Zz (HGOOD.out (by have d:=H1.out;have e:=H3.out;rw[HJP.out];simp[e]));go_wp2_with fail;clear c0 c1;have HBS:Hid (∀W,Below (w2.alloc (.cells (Zf (qs,qq)).toArray 59)).heap.size (w2.alloc (.cells (Zf (qs,qq)).toArray 59)) W→Q2 W):=Zz (fun W hB=>HQ2.out _ _ hq2 hB);clear hq2;refine rmx (w2.alloc (.cells (Zf (qs,qq)).toArray 59)) f24 (by kernel_rfl) (by kernel_rfl) ?_;simp only[Zg,f24,Lm,Ln];repeat ((first|(refine mrd HBS (.bool true) (by rfl) (fun W hW=>by(obtain⟨x0,x1,x2,x3,x4,x5,x6,x7,x8,x9,x10⟩:=(HQl2.out _ hW).c11;obtain⟨v0,v1⟩:=(HQ2r.out _ hW).c2;have d1:=H1.out;have d2:=H2.out;go_simp;first|done|exact d1)) ?_)|(refine Zb (by rfl) ?_)|(refine mrd HBS _ (by rfl) (fun W hW=>by(obtain⟨x0,x1,x2,x3,x4,x5,x6,x7,x8,x9,x10⟩:=(HQl2.out _ hW).c11;obtain⟨v0,v1⟩:=(HQ2r.out _ hW).c2;have d1:=H1.out;have d2:=H2.out;go_simp;first|done|with_reducible rfl)) ?_)|(refine mcl HBS _ _ _ (by rfl) (fun W hW=>by(obtain⟨x0,x1,x2,x3,x4,x5,x6,x7,x8,x9,x10⟩:=(HQl2.out _ hW).c11;obtain⟨v0,v1⟩:=(HQ2r.out _ hW).c2;have d1:=H1.out;have d2:=H2.out;go_simp;first|done|rfl)) (fun W hW=>KN.out W (HBS.out W hW)) ?_)|(refine mcl HBS _ _ _ (by rfl) (fun W hW=>by(obtain⟨x0,x1,x2,x3,x4,x5,x6,x7,x8,x9,x10⟩:=(HQl2.out _ hW).c11;obtain⟨v0,v1⟩:=(HQ2r.out _ hW).c2;have d1:=H1.out;have d2:=H2.out;go_simp;first|done|rfl)) (fun W hW=>KH.out W (HBS.out W hW)) ?_)|(refine mcl HBS _ _ _ (by rfl) (fun W hW=>by(obtain⟨x0,x1,x2,x3,x4,x5,x6,x7,x8,x9,x10⟩:=(HQl2.out _ hW).c11;obtain⟨v0,v1⟩:=(HQ2r.out _ hW).c2;have d1:=H1.out;have d2:=H2.out;go_simp;first|done|rfl)) (fun W hW=>KB.out W (HBS.out W hW)) ?_));simp only[Act.put,La,Lb,Lc])
             refine Zd (fun W hW=>?_);have hq:=HBS.out W hW;clear hW HBS;go_wp2_with fail;go_roundw
             case rel=>exact⟨p+1,hpm,by go_num,HQ2p.out _ hq,HG⟩
             case measure=>simp[intOf];omega
           · have H4:Hid (rs=(i:Int)→¬rq=(p:Int)):=Zz fun e f=>h3 ⟨e,f⟩;clear h3;have HB:=Zz (HBAD.out (by have d:=H1.out;have e:=H4.out;rw[HJP.out];simp;exact⟨d,fun _=>e⟩));go_wp2_with fail;clear c0 c1;have HBS:Hid (∀W,Below (w2.alloc (.cells (Zf (qs,qq)).toArray 59)).heap.size (w2.alloc (.cells (Zf (qs,qq)).toArray 59)) W→Q2 W):=Zz (fun W hB=>HQ2.out _ _ hq2 hB);clear hq2;refine rmx (w2.alloc (.cells (Zf (qs,qq)).toArray 59)) f24 (by kernel_rfl) (by kernel_rfl) ?_;simp only[Zg,f24,Lm,Ln];repeat ((first|(refine mrd HBS (.bool true) (by rfl) (fun W hW=>by(obtain⟨x0,x1,x2,x3,x4,x5,x6,x7,x8,x9,x10⟩:=(HQl2.out _ hW).c11;obtain⟨v0,v1⟩:=(HQ2r.out _ hW).c2;have d1:=H1.out;have d2:=H2.out;have d3:=H4.out;go_simp;first|done|exact d1|exact d3)) ?_)|(refine Zb (by rfl) ?_)|(refine mrd HBS _ (by rfl) (fun W hW=>by(obtain⟨x0,x1,x2,x3,x4,x5,x6,x7,x8,x9,x10⟩:=(HQl2.out _ hW).c11;obtain⟨v0,v1⟩:=(HQ2r.out _ hW).c2;have d1:=H1.out;have d2:=H2.out;have d3:=H4.out;go_simp;first|done|with_reducible rfl)) ?_)|(refine mcl HBS _ _ _ (by rfl) (fun W hW=>by(obtain⟨x0,x1,x2,x3,x4,x5,x6,x7,x8,x9,x10⟩:=(HQl2.out _ hW).c11;obtain⟨v0,v1⟩:=(HQ2r.out _ hW).c2;have d1:=H1.out;have d2:=H2.out;have d3:=H4.out;go_simp;first|done|rfl)) (fun W hW=>KN.out W (HBS.out W hW)) ?_)|(refine mcl HBS _ _ _ (by rfl) (fun W hW=>by(obtain⟨x0,x1,x2,x3,x4,x5,x6,x7,x8,x9,x10⟩:=(HQl2.out _ hW).c11;obtain⟨v0,v1⟩:=(HQ2r.out _ hW).c2;have d1:=H1.out;have d2:=H2.out;have d3:=H4.out;go_simp;first|done|rfl)) (fun W hW=>KH.out W (HBS.out W hW)) ?_)|(refine mcl HBS _ _ _ (by rfl) (fun W hW=>by(obtain⟨x0,x1,x2,x3,x4,x5,x6,x7,x8,x9,x10⟩:=(HQl2.out _ hW).c11;obtain⟨v0,v1⟩:=(HQ2r.out _ hW).c2;have d1:=H1.out;have d2:=H2.out;have d3:=H4.out;go_simp;first|done|rfl)) (fun W hW=>KB.out W (HBS.out W hW)) ?_));simp only[Act.put,La,Lb,Lc])
             refine Zd (fun W hW=>?_);have hq:=HBS.out W hW;clear hW HBS;go_wp2_with fail;go_ret;exact⟨Zc HB.out,HQp.out _ (HQ1p.out _ (HQ2p.out _ hq))⟩
         · obtain rfl:p=m:=by omega
           have HN:Hid (∀(s:Nat) (x:Sec),s<i+1→l.secs[s]? =some x→rightK x=true∧∀p:Nat,p<(pK x.k).toNat→joinedP l s p=true):=Zz fun s x hs hx=>by
            by_cases e:s<i
            · exact HOK.out s x e hx
            · have :s=i:=by omega
              subst this;have hyx:=HY.out;rw[hx] at hyx;cases hyx;refine⟨HRB.out,fun p' hp'=>HPK.out p' ?_⟩;rw[HM.out] at hp';exact hp'
           go_wp2_with fail;go_roundw
           case rel=>exact⟨i+1,hlt,by omega,by go_num,HQ1p.out _ hq1,HN⟩
           case measure=>simp[intOf];omega
    · have HF:Hid (false=r):=Zz (by
       rw[←HR.out];cases hj:joinedL l
       · rfl
       · have :=(joinedL_iff.1 hj).1;omega);obtain rfl:i=24:=by omega
      have hle:decide ((l.secs.length:Int)≤24)=false:=decide_eq_false (by omega);have hlen:¬((l.secs.length:Int)≤24):=by omega
      go_wp2_with fail;go_ret;exact⟨Zc HF.out,HQp.out _ hq⟩
  · obtain rfl:i=l.secs.length:=by omega
    have HF:Hid (true=r):=Zz (by
     rw[←HR.out];exact(joinedL_iff.2 ⟨hi24,fun s x hx=>HOK.out s x (List.getElem?_eq_some_iff.1 hx).1 hx⟩).symm);have hlen:(l.secs.length:Int)≤24:=by omega
    go_wp2_with fail;go_ret;exact⟨Zc HF.out,HQp.out _ hq⟩
section
variable {α:Type}
theorem dupP_no {same:α→α→Bool} {l:List α} {x:Nat×Nat}:dupP same l x=false↔∀a b,l[x.1]? =some a→l[x.2]? =some b→same a b=false:=by
 unfold dupP;cases h1:l[x.1]? with
 |none=>simp
 |some a=>
  cases h2:l[x.2]? with
  |none=>simp
  |some b=>simp
theorem second_yes {same:α→α→Bool} {l:List α} {r:Int×Bool} (hr:Zv same l=r) (h:r.2=true):∃b:Nat,r=((b:Int),true)∧0<b∧b<l.length∧NoTwo same (l.take b)∧∃(i:Nat) (x y:α),i<b∧l[i]? =some x∧l[b]? =some y∧same x y=true:=by
 subst hr;unfold Zv at h ⊢;cases e:(pairsL l.length).find? (dupP same l) with
 |none=>rw[e] at h;cases h
 |some x=>
  obtain⟨h1,h2,h3,h4⟩:=pairs_some e;obtain⟨a,b,ha,hb,hs⟩:=dupP_yes.1 h3;refine⟨x.2,rfl,by omega,h2,fun i j u v hij hi hj=>?_,x.1,a,b,h1,ha,hb,hs⟩;rw[List.getElem?_take] at hi hj;split at hj
  · rw[if_pos (by omega)] at hi;have :=h4 (i,j) hij (by assumption);exact dupP_no.1 this u v hi hj
  · cases hj
end
theorem wrong_yes {l:Lay} {r:Int×Bool} (hr:wrongV l=r) (h:r.2=true):∃n:Nat,r=((n:Int),true)∧n<l.exits.length∧(∀x ∈ l.exits.take n,overV l x=true)∧∃x,l.exits[n]? =some x∧overV l x=false:=by
 subst hr;unfold wrongV at h ⊢;cases e:l.exits.findIdx? (fun x=>!overV l x) with
 |none=>rw[e] at h;cases h
 |some n=>
  obtain⟨hn,hp,hb⟩:=List.findIdx?_eq_some_iff_getElem.1 e;refine⟨n,rfl,hn,fun x hx=>?_,_,List.getElem?_eq_getElem hn,by simpa using hp⟩;obtain⟨i,hi,rfl⟩:=List.getElem_of_mem hx;rw[List.length_take] at hi;rw[List.getElem_take];have :=hb i (by omega);simpa using this
def overT (l:Lay) (x:Int):Bool:=rightL l&&(decide (0≤x)&&match l.exits[x.toNat]? with|some e=>overV l e|none=>false)
end
section
open Go.RowKit Go.Shelf
section
variable {P:Program} {α:Type} {f:α→List Value} {size:Nat}
theorem appendG (hf:∀x,(f x).length=size) (one:∀x,∀u ∈ f x,u.oneCell'=true) (t e:TypeId) (z:Value) (bytes:Nat) (ht:P.underlying t=some (.slice e)) (hi:(P.info? e).map (fun i=>(i.zero,i.size,i.bytes))=some (some z,size,bytes)) (hz:z.cells.size=size) (hsz:0<size) (hby:bytes≤100)
 (base n:Nat) (v:Value) (xs:List Value) (l:List α) (A:Option Addr) (c B:Nat) (w:World) (hown:w.ownsRow base e size v n xs) (hv:v≠ .slice none 0 0∨A≠none) (hr:Row w B A (l.flatMap f)) (hn:n≤1000) (hl:l.length≤1000) (hbase:base≤w.heap.size):
 ∃v' w',(Builtin.append_ #[t,t] t #[v,.slice A l.length c]).run P w= .ok v' w'∧w'.ownsRow base e size v' (n+l.length) (xs++l.flatMap f)∧w.grownBy w' v.ownBlock:=by
 obtain⟨i,i1,i2,i3,i4⟩:=info_parts hi
 cases A with
 |none=>
  obtain rfl:=flat_none hf hsz hr;rcases hown.2 with ⟨h,_⟩|⟨g,cap,cur,rfl,h3,h4,h5,h6,h7,h8⟩
  · rcases hv with hv|hv
    · exact absurd h hv
    · exact absurd rfl hv
  · exact⟨_,w,append_none w t t e i ht i1 g n cap c h5,by simpa using hown,World.grownBy.refl _ _⟩
 |some a=>
  have hb:(n+l.length)*bytes≤2000*100:=Nat.mul_le_mul (by omega) hby;obtain⟨v',w',r1,r2,r3,r4,r5⟩:=run_append_own_at (P:=P) w base t t e i z size bytes ht i1 i2 i3 i4 hz hsz v n xs hown a l.length c (l.flatMap f) (flat_length hf l) (row_add hr) (fun u hu=>by
   obtain⟨x,_,hx⟩:=List.mem_flatMap.1 hu;exact one x u hx) (by unfold maxLen;omega) (by omega) hbase;exact⟨v',w',r1,r2,r3⟩
theorem owns_empty (W:World) (e:TypeId) (base g:Nat) (hb:base≤g) (h:W.heap[g]? =some (.cells #[] e (0,0))):W.ownsRow base e size (.slice (some ⟨g,0,none⟩) 0 0) 0 []:=
 ⟨by simp,.inr ⟨g,0,#[],rfl,hb,h,Nat.le_refl _,by simp,by simp,by simp⟩⟩
theorem appendN (hf:∀x,(f x).length=size) (one:∀x,∀u ∈ f x,u.oneCell'=true) (t e:TypeId) (z:Value) (bytes:Nat) (ht:P.underlying t=some (.slice e)) (hi:(P.info? e).map (fun i=>(i.zero,i.size,i.bytes))=some (some z,size,bytes)) (hz:z.cells.size=size) (hsz:0<size) (hby:bytes≤100)
 (l:List α) (A:Option Addr) (c:Nat) (W:World) (hr:Row W W.heap.size A (l.flatMap f)) (hl:l.length≤1000):
 ∃A' c' w1,(Builtin.append_ #[t,t] t #[.slice (some ⟨W.heap.size,0,none⟩) 0 0,.slice A l.length c]).run P (W.alloc (.cells #[] e))= .ok (.slice A' l.length c') w1∧w1.ownsRow W.heap.size e size (.slice A' l.length c') l.length (l.flatMap f)∧Below W.heap.size W w1:=by
 have hown:(W.alloc (.cells #[] e)).ownsRow W.heap.size e size (.slice (some ⟨W.heap.size,0,none⟩) 0 0) 0 []:=owns_empty _ e _ _ (Nat.le_refl _) (World.alloc_heap_new W _)
 obtain⟨v',w1,h1,h2,h3⟩:=appendG hf one t e z bytes ht hi hz hsz hby W.heap.size 0 _ [] l A c W.heap.size _ hown (.inl (by simp)) (hr.below (below1 W _)) (by omega) hl (by simp)
 rw[Nat.zero_add,List.nil_append] at h2
 obtain⟨A',c',rfl,_⟩:=owns_read h2
 exact⟨A',c',w1,h1,h2,(below1 W _).grown h3 (by simp) (fun k e=>by cases e;exact Nat.le_refl _)⟩
end
theorem owns_apart {W:World} {b e s n b' e' s' n':Nat} {v v':Value} {xs xs':List Value} (h:W.ownsRow b e s v n xs) (k:W.ownsRow b' e' s' v' n' xs') (he:e≠e'):v.ownBlock=none∨v.ownBlock≠v'.ownBlock:=by
 rcases h.2 with ⟨rfl,_⟩|⟨g,cap,cur,rfl,h3,h4,_⟩
 · exact .inl rfl
 · refine .inr ?_;rcases k.2 with ⟨rfl,_⟩|⟨g',cap',cur',rfl,k3,k4,_⟩
   · intro e;cases e
   · intro e;have :g=g':=by simpa [Value.ownBlock] using e
     subst this;rw[h4] at k4;cases k4;exact he rfl
end
section
open Go.RowKit Go.Shelf
theorem goesS_cons {l:Lay} {x:Int×Int×Int} {r:List (Int×Int×Int)}:goesS l (x::r)=(stepV l x.1 x.2.1 x.2.2&&goesL l (nextV l x.1 x.2.1 x.2.2) r):=by
 show(stepV l x.1 x.2.1 x.2.2&&(decide ((x.1,x.2.1)=(x.1,x.2.1))&&goesL l (nextV l x.1 x.2.1 x.2.2) r))=_;rw[decide_eq_true rfl,Bool.true_and]
theorem goesL_S {l:Lay}:∀(ss:List (Int×Int×Int)) (p:Int×Int),goesL l p ss=true→goesS l ss=true
 |[],_,_=>rfl
 |x::r,p,h=>by
  have h':(stepV l x.1 x.2.1 x.2.2&&(decide (p=(x.1,x.2.1))&&goesL l (nextV l x.1 x.2.1 x.2.2) r))=true:=h;simp only[Bool.and_eq_true,decide_eq_true_eq] at h';rw[goesS_cons,h'.1,h'.2.2];rfl
theorem goesS_take {l:Lay} {ss:List (Int×Int×Int)} (h:goesS l ss=true) (n:Nat):goesS l (ss.take n)=true:=by
 cases ss with
 |nil=>simp[goesS]
 |cons x r=>
  have h':goesL l (x.1,x.2.1) (x::r)=true:=h;rw[←List.take_append_drop n (x::r),goes_append,Bool.and_eq_true] at h';exact goesL_S _ _ h'.1
theorem goesS_snoc {l:Lay} (ss:List (Int×Int×Int)) (s:Int×Int×Int):goesS l (ss++[s])=(goesS l ss&&(stepV l s.1 s.2.1 s.2.2&&(match ss.getLast? with|none=>true|some z=>decide (nextV l z.1 z.2.1 z.2.2=(s.1,s.2.1))))):=by
 cases ss with
 |nil=>
  show goesS l [s]=_;rw[goesS_cons];simp[goesS,goesL]
 |cons x r=>
  show goesL l (x.1,x.2.1) ((x::r)++[s])=(goesL l (x.1,x.2.1) (x::r)&&_);rw[goes_append];obtain⟨a,z,e⟩:∃a z,x::r=a++[z]:=⟨(x::r).dropLast,(x::r).getLast (by simp),(List.dropLast_concat_getLast (by simp)).symm⟩;rw[e,end_append,List.getLast?_concat];show _=(_&&(stepV l s.1 s.2.1 s.2.2&&decide (nextV l z.1 z.2.1 z.2.2=(s.1,s.2.1))));congr 1
  show(stepV l s.1 s.2.1 s.2.2&&(decide (nextV l z.1 z.2.1 z.2.2=(s.1,s.2.1))&&true))=_;rw[Bool.and_true]
def neighL (ss:List (Int×Int×Int)):List ((Int×Int×Int)×(Int×Int×Int)):=ss.zip (ss.drop 1)
def hangS (l:Lay) (x:(Int×Int×Int)×(Int×Int×Int)):Bool:=decide (Zt l x.1.1 x.1.2.2=(x.2.1,x.2.2.1))
theorem goesS_parts (l:Lay):∀ss:List (Int×Int×Int),goesS l ss=(ss.all (fun x=>stepV l x.1 x.2.1 x.2.2)&&(neighL ss).all (hangS l))
 |[]=>rfl
 |[x]=>by rw[goesS_cons];simp[goesL,neighL]
 |x::y::r=>by
  have ih:=goesS_parts l (y::r);rw[goesS_cons] at ih ⊢;show(stepV l x.1 x.2.1 x.2.2&&(stepV l y.1 y.2.1 y.2.2&&(decide (nextV l x.1 x.2.1 x.2.2=(y.1,y.2.1))&&goesL l (nextV l y.1 y.2.1 y.2.2) r)))=((stepV l x.1 x.2.1 x.2.2&&(y::r).all fun x=>stepV l x.1 x.2.1 x.2.2)&&(hangS l (x,y)&&(neighL (y::r)).all (hangS l)));cases hx:stepV l x.1 x.2.1 x.2.2
  · rfl
  · have hn:nextV l x.1 x.2.1 x.2.2=Zt l x.1 x.2.2:=by unfold nextV;rw[hx];rfl
    have hh:hangS l (x,y)=decide (Zt l x.1 x.2.2=(y.1,y.2.1)):=rfl;rw[hn,hh];generalize decide (Zt l x.1 x.2.2=(y.1,y.2.1))=d;cases d
    · simp
    · simp only[Bool.true_and];exact ih
theorem ofS_append (l:Lay):∀(xs ys:List (Int×Int×Int)) (k:Int),ofS l (xs++ys) k=ofS l xs k++ofS l ys (k+xs.length)
 |[],ys,k=>by simp[ofS]
 |x::xs,ys,k=>by
  show wantsV l x.1 x.2.1 x.2.2 k++ofS l (xs++ys) (k+1)=(wantsV l x.1 x.2.1 x.2.2 k++ofS l xs (k+1))++ofS l ys (k+((x::xs).length:Nat));rw[ofS_append l xs ys (k+1),List.append_assoc,show k+1+(xs.length:Int)=k+((x::xs).length:Nat) by simp;omega]
theorem ofS_next {l:Lay} {ss:List (Int×Int×Int)} {j:Nat} {s:Int×Int×Int} (h:ss[j]? =some s):ofS l (ss.take (j+1)) 0=ofS l (ss.take j) 0++wantsV l s.1 s.2.1 s.2.2 j:=by
 have hj:=(List.getElem?_eq_some_iff.1 h).1;rw[List.take_add_one,h,Option.toList_some,ofS_append,List.length_take,Nat.min_eq_left (Nat.le_of_lt hj)];simp[ofS]
theorem ofO_next {l:Lay} {os:List (Int×Int×Int)} {k:Int} {j:Nat} {s:Int×Int×Int} (h:os[j]? =some s):ofO l (os.take (j+1)) k=ofO l (os.take j) k++wantsV l s.1 s.2.1 s.2.2 k:=by
 unfold ofO;rw[List.take_add_one,h,Option.toList_some,List.flatMap_append];simp
section
variable {P:World→Prop} {w:World} {k p n a b c d:Int}
theorem posR_P (i o:Int) {v:Int} {r:Bool} (hk:IsShape k p n a b c d) (hv:posV k n a b c d i o=v) (hr:goesV n a b c d i o=r) (h:P w):
 Calls Tryz.prog 87 #[.int .u8 k,.int .i64 i,.int .i64 o] w fun e w'=>e= .returned (.tuple #[.int .i64 v,.bool r])∧P w':=by
 have HW:=Zz (wayR_P (P:=P) (w:=w) i o hk rfl hr h)
 have hcase:(r=false∧v=0∧wayV n a b c d i o=0)∨(r=true∧k=2∧v=wayV n a b c d i o)∨(r=true∧¬k=2∧v= -1):=by
  subst hv hr;unfold posV;cases h:goesV n a b c d i o
  · exact .inl ⟨rfl,rfl,wayV_none h⟩
  · by_cases h2:k=2
    · exact .inr (.inl ⟨rfl,h2,by rw[if_pos rfl,if_pos h2]⟩)
    · exact .inr (.inr ⟨rfl,h2,by rw[if_pos rfl,if_neg h2]⟩)
 clear hk hv hr h
 rcases hcase with ⟨rfl,rfl,hw⟩|⟨rfl,rfl,rfl⟩|⟨rfl,hk,rfl⟩
 · rw[hw] at HW;clear hw;go_enter Tryz.func87,Tryz.ntmps87;go_wp2_with fail;refine HW.out.mono ?_;rintro e w' ⟨rfl,h⟩;go_wp2_with fail;go_ret2
   exact⟨rfl,h⟩
 · go_enter Tryz.func87,Tryz.ntmps87;go_wp2_with fail;refine HW.out.mono ?_;rintro e w' ⟨rfl,h⟩;go_wp2_with fail;go_ret2
   exact⟨rfl,h⟩
 · have hk':(k != 2)=true:=by simpa using hk
   clear hk;go_enter Tryz.func87,Tryz.ntmps87;go_wp2_with fail;refine HW.out.mono ?_;rintro e w' ⟨rfl,h⟩;go_wp2_with fail;go_ret2
   exact⟨rfl,h⟩
end
theorem there10_any {l:Lay} {w:World} (hL:Lies l w) (s i o:Int) {r:Bool} (hr:stepV l s i o=r):Calls Tryz.prog 86 #[l.val,stpV s i o] w fun e w'=>e= .returned (.bool r)∧Below w.heap.size w w':=by
 obtain⟨Q,HQ,HQb,HQl,HQv,hq⟩:=keep_box2 (Closed.below w) (Below.refl _ w) 29 66 l.cells (Ze (s,i,o));have KS:=Zz (fun W hW=>keepR HQ.out (stepR_B (w:=W) (Lies.closed l _ _ hL (HQb.out W hW)) s i o rfl hr) hW);generalize wayK (Zu l s) i o=v at *;clear hL hr;have hW:=hq;obtain⟨x0,x1,x2,x3,x4,x5,x6,x7,x8,x9,x10⟩:=(HQl.out _ hW).c11;obtain⟨v0,v1,v2⟩:=(HQv.out _ hW).c3;clear hW;go_enter Tryz.func86,Tryz.ntmps86;go_wp2_with fail;refine(KS.out _ hq).mono ?_;clear x0 x1 x2 x3 x4 x5 x6 x7 x8 x9 x10 v0 v1 v2 hq;rintro e w1 ⟨rfl,hq⟩;go_wp2_with fail;go_ret;exact⟨rfl,HQb.out _ hq⟩
theorem pointR_any {l:Lay} {w:World} (hL:Lies l w) (s i o:Int) {r:Int×Int×Bool} (hr:pointV l s i o=r):Calls Tryz.prog 58 #[l.val,stpV s i o] w fun e w'=>e= .returned (.tuple #[.int .i64 r.1,.int .i64 r.2.1,.bool r.2.2])∧Below w.heap.size w w':=by
 subst hr;obtain⟨Q,HQ,HQb,HQl,HQv,hq⟩:=keep_box2 (Closed.below w) (Below.refl _ w) 29 66 l.cells (Ze (s,i,o));have HTW:Hid (∀W,Q W→Lies l W):=Zz fun W hW=>Lies.closed l _ _ hL (HQb.out W hW);rcases point_cases l s i o with ⟨h1,h2⟩|⟨j,y,rfl,hy,h1,hk,h2⟩|⟨j,y,rfl,hy,h1,hk,hg,h2⟩
 · rw[h2];have KS:=Zz (fun W hW=>keepR HQ.out (there10_any (w:=W) (HTW.out W hW) s i o h1) hW);clear hL h1 h2;have hW:=hq;obtain⟨x0,x1,x2,x3,x4,x5,x6,x7,x8,x9,x10⟩:=(HQl.out _ hW).c11;obtain⟨v0,v1,v2⟩:=(HQv.out _ hW).c3;clear hW;go_enter Tryz.func58,Tryz.ntmps58;go_wp2_with fail;refine(KS.out _ hq).mono ?_;clear x0 x1 x2 x3 x4 x5 x6 x7 x8 x9 x10 v0 v1 v2 hq;rintro e w1 ⟨rfl,hq⟩;go_wp2_with fail;refine bodyPost_ret (v:=.tuple #[.int .i64 0,.int .i64 0,.bool false]) (by simp[results,Tryz.f58,go_sem]) rfl ⟨rfl,HQb.out _ hq⟩
 · rw[h2];have KS:=Zz (fun W hW=>keepR HQ.out (there10_any (w:=W) (HTW.out W hW) j i o h1) hW);have HC:Hid (∃b off,l.As=some ⟨b,off,none⟩∧∀W,Q W→∀(k:Nat) (v:Value),y.cells[k]? =some v→W.cell? ⟨b,off+j*11+k,none⟩=some v):=Zz (by
    obtain⟨b,off,hA,_,hc0,hc⟩:=(HTW.out _ hq).secs.nth (n:=11) Sec.len (by omega) hy;refine⟨b,off,hA,fun W hW=>?_⟩;obtain⟨b',off',hA',_,hc0,hc⟩:=(HTW.out _ hW).secs.nth (n:=11) Sec.len (by omega) hy;rw[hA] at hA';cases hA';exact fun k v hv=>hc j y k v hy hv);obtain⟨b,off,hA,hC⟩:=HC.out;have hlt:(j:Int)<l.secs.length:=by have :=(List.getElem?_eq_some_iff.1 hy).1;omega
   have HCC:=Zz hC;have HA:=Zz hA;have hk2:(y.k != 2)=true:=by simp[hk]
   clear hL h1 h2 hC hA hy hk HC;have hW:=hq;obtain⟨x0,x1,x2,x3,x4,x5,x6,x7,x8,x9,x10⟩:=(HQl.out _ hW).c11;obtain⟨v0,v1,v2⟩:=(HQv.out _ hW).c3;clear hW;go_enter Tryz.func58,Tryz.ntmps58;go_wp2_with fail;refine(KS.out _ hq).mono ?_;clear x0 x1 x2 x3 x4 x5 x6 x7 x8 x9 x10 v0 v1 v2 hq;rintro e w1 ⟨rfl,hq⟩;have x0:=(HQl.out _ hq).Za 0 rfl;have v0:=(HQv.out _ hq).Za 0 rfl;have c0:=HCC.out _ hq 0 _ rfl;simp only[Nat.add_zero] at c0;rw[HA.out] at x0;go_wp2_with fail;refine bodyPost_ret (v:=.tuple #[.int .i64 0,.int .i64 0,.bool false]) (by simp[results,Tryz.f58,go_sem]) rfl ⟨rfl,HQb.out _ hq⟩
 · rw[h2];have KS:=Zz (fun W hW=>keepR HQ.out (there10_any (w:=W) (HTW.out W hW) j i o h1) hW);have HC:Hid (∃b off,l.As=some ⟨b,off,none⟩∧∀W,Q W→∀(k:Nat) (v:Value),y.cells[k]? =some v→W.cell? ⟨b,off+j*11+k,none⟩=some v):=Zz (by
    obtain⟨b,off,hA,_,hc0,hc⟩:=(HTW.out _ hq).secs.nth (n:=11) Sec.len (by omega) hy;refine⟨b,off,hA,fun W hW=>?_⟩;obtain⟨b',off',hA',_,hc0,hc⟩:=(HTW.out _ hW).secs.nth (n:=11) Sec.len (by omega) hy;rw[hA] at hA';cases hA';exact fun k v hv=>hc j y k v hy hv);obtain⟨b,off,hA,hC⟩:=HC.out;have hlt:(j:Int)<l.secs.length:=by have :=(List.getElem?_eq_some_iff.1 hy).1;omega
   have HCC:=Zz hC;have HA:=Zz hA;have HK:=Zz hk;have KP:=Zz (fun W hW=>posR_P (P:=Q) (w:=W) i o (shapeK 2) (pos_two hg) hg hW);generalize wayK 2 i o=wv at *;clear hL h1 h2 hC hA hy hk HC hg;have hW:=hq;obtain⟨x0,x1,x2,x3,x4,x5,x6,x7,x8,x9,x10⟩:=(HQl.out _ hW).c11;obtain⟨v0,v1,v2⟩:=(HQv.out _ hW).c3;clear hW;go_enter Tryz.func58,Tryz.ntmps58;go_wp2_with fail;refine(KS.out _ hq).mono ?_;clear x0 x1 x2 x3 x4 x5 x6 x7 x8 x9 x10 v0 v1 v2 hq;rintro e w1 ⟨rfl,hq⟩;have x0:=(HQl.out _ hq).Za 0 rfl;have v0:=(HQv.out _ hq).Za 0 rfl;have c0:=HCC.out _ hq 0 _ rfl;simp only[Nat.add_zero] at c0;rw[HA.out] at x0;rw[HK.out] at c0;have v1:=(HQv.out _ hq).Za 1 rfl;have v2:=(HQv.out _ hq).Za 2 rfl;go_wp2_with fail;refine(KP.out _ hq).mono ?_;clear x0 v0 v1 v2 c0 hq;rintro e w2 ⟨rfl,hq⟩;have v0:=(HQv.out _ hq).Za 0 rfl;go_wp2_with fail;refine bodyPost_ret (v:=.tuple #[.int .i64 (j:Int),.int .i64 wv,.bool true]) (by simp[results,Tryz.f58,go_sem]) rfl ⟨rfl,HQb.out _ hq⟩
end
end Go.Proofs.YtifnlhfinjfajaaGreatDoor
