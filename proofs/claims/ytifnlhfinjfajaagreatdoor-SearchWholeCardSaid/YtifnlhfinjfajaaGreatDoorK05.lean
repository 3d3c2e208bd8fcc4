/- Of this seat: LayJ, LayD, LayK, LayN, LayO. -/
import Derived.Deep.CutRange
import Derived.Test.YtifnlhfinjfajaaGreatDoorK04
namespace Go.Proofs.YtifnlhfinjfajaaGreatDoor
set_option linter.unusedVariables false
set_option linter.unusedSimpArgs false
set_option maxRecDepth 100000
set_option maxHeartbeats 32000000
section
open Go.RowKit Go.Shelf
attribute [local go_sem] Oper.semAt_some
theorem joins_any (l:Lay) (w:World):Calls Tryz.prog 157 #[l.val] w fun e w'=>e= .returned (.func (.func 186) #[] #[.pointer (some ⟨w.heap.size,0,none⟩)])∧w'=w.alloc (.cells #[.slice l.As l.secs.length l.cs,.slice l.Ag l.sigs.length l.cg,.slice l.Ae l.exits.length l.ce,.slice l.Af l.flanks.length l.cf,.int .i64 l.t0,.int .i64 l.t1,.int .i64 l.t2,.int .i64 l.t3,.int .i64 l.t4,.int .i64 l.t5,.int .i64 l.t6] 29):=by
 go_enter Tryz.func157,Tryz.ntmps157;go_wp2_with fail;go_ret;exact⟨rfl,rfl⟩
theorem portsOf_any (l:Lay) (w:World):Calls Tryz.prog 108 #[l.val] w fun e w'=>e= .returned (.func (.func 156) #[] #[.pointer (some ⟨w.heap.size,0,none⟩)])∧w'=w.alloc (.cells #[.slice l.As l.secs.length l.cs,.slice l.Ag l.sigs.length l.cg,.slice l.Ae l.exits.length l.ce,.slice l.Af l.flanks.length l.cf,.int .i64 l.t0,.int .i64 l.t1,.int .i64 l.t2,.int .i64 l.t3,.int .i64 l.t4,.int .i64 l.t5,.int .i64 l.t6] 29):=by
 go_enter Tryz.func108,Tryz.ntmps108;go_wp2_with fail;go_ret;exact⟨rfl,rfl⟩
theorem stepsOf_any (l:Lay) (w:World):Calls Tryz.prog 110 #[l.val] w fun e w'=>e= .returned (.func (.func 158) #[] #[.pointer (some ⟨w.heap.size,0,none⟩)])∧w'=w.alloc (.cells #[.slice l.As l.secs.length l.cs,.slice l.Ag l.sigs.length l.cg,.slice l.Ae l.exits.length l.ce,.slice l.Af l.flanks.length l.cf,.int .i64 l.t0,.int .i64 l.t1,.int .i64 l.t2,.int .i64 l.t3,.int .i64 l.t4,.int .i64 l.t5,.int .i64 l.t6] 29):=by
 go_enter Tryz.func110,Tryz.ntmps110;go_wp2_with fail;go_ret;exact⟨rfl,rfl⟩
theorem valuesFlank_any (A:Option Addr) (n c:Nat) (w:World):Calls Tryz.prog 112 #[.slice A n c] w fun e w'=>e= .returned (.func (.func 159) #[] #[.pointer (some ⟨w.heap.size,0,none⟩)])∧w'=w.alloc (.cells #[.slice A n c] 25):=by
 go_enter Tryz.func112,Tryz.ntmps112;go_wp2_with fail;go_ret;exact⟨rfl,rfl⟩
theorem valuesInt_any (A:Option Addr) (n c:Nat) (w:World):Calls Tryz.prog 152 #[.slice A n c] w fun e w'=>e= .returned (.func (.func 181) #[] #[.pointer (some ⟨w.heap.size,0,none⟩)])∧w'=w.alloc (.cells #[.slice A n c] 30):=by
 go_enter Tryz.func152,Tryz.ntmps152;go_wp2_with fail;go_ret;exact⟨rfl,rfl⟩
def portsL (l:Lay):List (Int×Int):=joinsL l++(l.sigs++l.exits.map fun x=>(x.s,x.q))
theorem Keeps.lt {R:Nat→Prop} {A B:World} (h:Keeps R A B) {k:Nat} (hk:R k) (hl:k<A.heap.size):k<B.heap.size:=
 (Array.getElem?_eq_some_iff.1 (h k _ hk (Array.getElem?_eq_getElem hl))).1
theorem ports_iter {w0:World} {g n0:Nat} {l:Lay} (hbox:Whole w0 g 29 l.cells) (hn0:n0≤w0.heap.size) (hrS:Row w0 n0 l.As (l.secs.flatMap Sec.cells)) (hrG:Row w0 n0 l.Ag (l.sigs.flatMap Zf)) (hrE:Row w0 n0 l.Ae (l.exits.flatMap Exm.cells))
 (hnS:(l.secs.length:Int)≤9223372036854775807) (hnG:(l.sigs.length:Int)≤9223372036854775807) (hnE:(l.exits.length:Int)≤9223372036854775807):
 Iter Tryz.prog 156 #[.pointer (some ⟨g,0,none⟩)] (fun x:Int×Int=>#[(prtV x.1 x.2)]) (portsL l) (fun k=>k<n0∨k=g) w0:=by
 intro L S J Jx W hk0 hS hJ hJx hY h0
 have HD:Hid (∀k,S k→¬(k<n0∨k=g)):=Zz (fun k hk=>(hS k hk).1)
 have HSl:Hid (∀k,S k→k<W.heap.size):=Zz (fun k hk=>(hS k hk).2)
 have HRl:Hid (∀k,(k<n0∨k=g)→k<W.heap.size):=Zz (fun k hk=>hk0.lt hk (hk.elim (fun h=>Nat.lt_of_lt_of_le h hn0) (fun h=>by subst h;exact hbox.lt)))
 have hbw:=hk0.whole (.inr rfl) hbox
 obtain⟨xs,HXS⟩:∃xs,Hid (portsL l=xs):=⟨_,Zz rfl⟩
 rw[HXS.out] at hY ⊢
 have HXS2:Hid (joinsL l++(l.sigs++l.exits.map fun x=>(x.s,x.q))=xs):=HXS
 clear HXS hS
 have HJo:=Zz (fun W0 (h1:Whole W0 (W.heap.size+1) 29 l.cells) (h2:Row W0 n0 l.As (l.secs.flatMap Sec.cells))=>joins_iter (n0:=n0) h1 h2 hnS)
 have HJA:=Zz (fun w=>joins_any l w)
 obtain⟨js,HJs⟩:∃js,Hid (joinsL l=js):=⟨_,Zz rfl⟩
 rw[HJs.out] at HXS2 HJo
 clear HJs
 obtain⟨secs,As,cs,sigs,Ag,cg,exits,Ae,ce,flanks,Af,cf,t0,t1,t2,t3,t4,t5,t6⟩:=l
 simp only at hrS hrG hrE hnS hnG hnE HXS2
 obtain⟨x0,x1,x2,x3,x4,x5,x6,x7,x8,x9,x10⟩:=(hbw.alloc (.cells #[.func (.yield L) #[] #[]] 145)).c11
 refine(callsIn_wide (n:=5)).1 ?_
 refine callsIn_of_wp_marks Tryz.func156 rfl trivial ?_ rfl
 simp only[Tryz.ntmps156,Ld,Le,Lf,Nat.reduceAdd,Nat.reduceSub,Lg,Lh,Li,Lj,Lk,Ll]
 gi_wp2_with fail
 refine⟨trivial,(callsIn_wide.2 (HJA.out _)).mono ?_⟩
 clear x0 x1 x2 x3 x4 x5 x6 x7 x8 x9 x10
 rintro e w2 ⟨rfl,rfl⟩
 gi_wp2_with fail
 obtain⟨W0,hW0,hsz,hB0,b0,b1⟩:∃W0,((W.alloc (.cells #[.func (.yield L) #[] #[]] 145)).alloc (.cells #[.slice As secs.length cs,.slice Ag sigs.length cg,.slice Ae exits.length ce,.slice Af flanks.length cf,.int .i64 t0,.int .i64 t1,.int .i64 t2,.int .i64 t3,.int .i64 t4,.int .i64 t5,.int .i64 t6] 29))=W0∧W0.heap.size=W.heap.size+2∧Below W.heap.size W W0∧Whole W0 W.heap.size 145 [.func (.yield L) #[] #[]]∧Whole W0 (W.heap.size+1) 29 [.slice As secs.length cs,.slice Ag sigs.length cg,.slice Ae exits.length ce,.slice Af flanks.length cf,.int .i64 t0,.int .i64 t1,.int .i64 t2,.int .i64 t3,.int .i64 t4,.int .i64 t5,.int .i64 t6]:=
  ⟨_,rfl,by simp,below2 _ _ _,(Whole.new W _ [_]).alloc _,Whole.Zj _ _ [_,_,_,_,_,_,_,_,_,_,_] _ (by simp)⟩
 rw[hW0]
 have hk1:=hk0.trans (Keeps.below (R:=fun k=>k<n0∨k=g) hB0)
 have hJ0:J 0 W0:=by rw[←hW0];exact hJ.alloc _ (hJ.alloc _ h0)
 clear hW0 h0
 have hin:=HJo.out W0 b1 (hrS.keeps hk1 (fun k hk=>.inl hk))
 clear HJo HJA
 refine range_iter (gf:=186) rfl (enters_of Tryz.func186 (by kernel_rfl) rfl) hin (Keeps.refl _ _) (fun k hk=>by
  rcases hk with h|rfl
  · have :=HRl.out k (.inl h);omega
  · omega) (fun _=>rfl) (by omega)
  S (fun k hk e=>by
   rcases e with h|rfl
   · exact HD.out k hk (.inl h)
   · have :=HSl.out _ hk;omega) (fun k hk=>by have :=HSl.out k hk;omega)
  (fun j W1=>(J j W1∧Whole W1 W.heap.size 145 [.func (.yield L) #[] #[]])∧Keeps (fun k=>k<n0∨k=g) w0 W1)
  (fun c W1=>Jx W1∧c= .ret)
  (OwnFrom.and (OwnFrom.and (OwnFrom.up hJ (by omega)) (Own.from (fun s X Y row hs hg hr=>hs.abides hg hr) _)) (Keeps.own (fun k hk=>by have :=HRl.out k hk;omega)))
  (fun c=>OwnFrom.and (OwnFrom.up hJx (by omega)) (ownFrom_pure _ _))
  ⟨⟨hJ0,b0⟩,hk1⟩
  (fun _ x a' W1=>∃Bx,Whole W1 Bx 59 (Zf x)∧a'= {tmps:=#[.func (.yield L) #[] #[],.pointer (some ⟨g,0,none⟩),.pointer (some ⟨W.heap.size,0,none⟩),.pointer (some ⟨Bx,0,none⟩),undef,undef,undef,undef,.agg #[.slice As secs.length cs,.slice Ag sigs.length cg,.slice Ae exits.length ce,.slice Af flanks.length cf,.int .i64 t0,.int .i64 t1,.int .i64 t2,.int .i64 t3,.int .i64 t4,.int .i64 t5,.int .i64 t6],.func (.func 186) #[] #[.pointer (some ⟨W.heap.size+1,0,none⟩)],(prtV x.1 x.2),undef,undef,undef,undef,undef,undef,undef,undef,undef,undef,undef,undef,undef,undef,undef,undef,undef,undef,undef,undef,undef,undef,undef,undef,undef,undef,undef,undef,undef,undef],defers:=[]})
  (fun _ x a' _ X Y row hs hg hr=>by obtain⟨Bx,h2,h3⟩:=hs;exact⟨Bx,h2.abides hg (fun r e=>(hr r e).2),h3⟩)
  ?assign ?body ?done ?stop
 case assign=>
  rintro l2 j x W1 K hx ⟨⟨hj,b0⟩,hk⟩ hK;gi_wp2_with fail;exact hK _ _ (Off.below (below1 _ _)) ⟨⟨hJ.alloc _ hj,b0.alloc _⟩,hk.trans (Keeps.below (below1 _ _))⟩ ⟨W1.heap.size,Whole.new W1 _ (Zf _),rfl⟩
 case body=>
  rintro l2 j x a' W1 hl hx ⟨⟨hj,b0⟩,hk⟩ ⟨Bx,bX,rfl⟩;have c0:=b0.Za 0 rfl;obtain⟨y0,y1⟩:=bX.c2;obtain⟨fn,tmps,assign,body,hy,hR⟩:=hY j x W1 (by rw[←HXS2.out,List.getElem?_append_left (List.getElem?_eq_some_iff.1 hx).1];exact hx) hj;have HR:=Zz hR;clear hR;gi_wp2_with fail;refine RoundIn.mono (RoundIn.wideAny HR.out) ?_;clear HR hy c0 y0 y1;rintro e W3 (⟨rfl,hJ3,hk3⟩|⟨rfl,hJx3,hk3⟩)
  · gi_wp2_with fail;exact⟨hk3,⟨hJ3,hk3.whole b0 (fun e=>by have :=HSl.out _ e;omega)⟩,hk.trans (hk3.keeps HD.out)⟩
  · gi_wp2_with fail;exact⟨hk3,hJx3,rfl⟩
 case done=>
  rintro D W1 hD ⟨⟨hj,b0⟩,hk⟩ hK;have hDS:Hid (¬S D):=Zz (fun e=>by have :=HSl.out _ e;omega);have hbS:Hid (¬S W.heap.size):=Zz (fun e=>by have :=HSl.out _ e;omega);have hWD:Hid (W.heap.size≤D):=Zz (by omega);have x1:=(hk.whole (.inr rfl) hbox).Za 1 rfl;gi_wp2_with fail;clear x1;gi_loopw [18] (fun i wr=>∃q:Nat,q≤sigs.length∧i= .int .i64 q∧J (js.length+q) wr∧Whole wr W.heap.size 145 [.func (.yield L) #[] #[]]∧Keeps (fun k=>k<n0∨k=g) w0 wr∧wr.heap[D]? =some (.deferred (some [])))
   (fun i _=>sigs.length - (intOf i).toNat)
  case atStart=>exact⟨0,by omega,rfl,hj,b0,hk,hK⟩
  case round=>
   clear hj b0 hk hK;obtain⟨q,hq,rfl,hj,b0,hk,hK⟩:=hrel;by_cases hlt:q<sigs.length
   · have hlt':(q:Int)<sigs.length:=by omega
     obtain⟨x,hx⟩:∃x,sigs[q]? =some x:=⟨_,List.getElem?_eq_getElem hlt⟩;have HX:=Zz hx;clear hx;obtain⟨b,off,rfl,_,hc0,hc⟩:=(hrG.keeps hk (fun k hk=>.inl hk)).nth (n:=2) (fun _=>rfl) (by omega) HX.out;have c0:=hc0 q x _ HX.out rfl;have c1:=hc q x 1 _ HX.out rfl;clear hc0 hc;have z0:=(b0.alloc (.cells (Zf x).toArray 83)).Za 0 rfl;have hJa:=hJ.alloc (.cells (Zf x).toArray 83) hj;obtain⟨fn,tmps,assign,body,hy,hR⟩:=hY (js.length+q) x _ (by rw[←HXS2.out,List.getElem?_append_right (by omega),List.getElem?_append_left (by omega),Nat.add_sub_cancel_left];exact HX.out) hJa;have HR:=Zz hR;clear hR;gi_wp2_with fail;refine RoundIn.mono (RoundIn.wide HR.out) ?_;clear HR hy c0 c1 z0;have hB1:=below1 wr (.cells (Zf x).toArray 83);have HB0:=Zz (b0.alloc (.cells (Zf x).toArray 83));have HK0:=Zz ((hB1.block D (Array.getElem?_eq_some_iff.1 hK).1).trans hK);rintro e W3 (⟨rfl,hJ3,hk3⟩|⟨rfl,hJx3,hk3⟩)
     · gi_wp2_with fail;go_roundw
       case rel=>exact⟨q+1,hlt,by go_num,hJ3,hk3.whole HB0.out hbS.out,hk.trans ((Keeps.below hB1).trans (hk3.keeps HD.out)),hk3.rest _ _ HK0.out hDS.out⟩
       case measure=>simp[intOf];omega
     · have hK3:=hk3.rest _ _ HK0.out hDS.out;gi_wp2_with fail;refine⟨by simp,.inl ⟨_,_,rfl,run_takeDeferred hK3,?_⟩⟩;exact⟨_,results_none rfl _ _ _,⟨_,rfl⟩,.inr (hJx.putObj (s:=()) _ hJx3 hWD.out hK3 rfl)⟩
   · obtain rfl:q=sigs.length:=by omega
     have x2:=(hk.whole (.inr rfl) hbox).Za 2 rfl;gi_wp2_with fail;clear x2;gi_loopw [31] (fun i wr=>∃q:Nat,q≤exits.length∧i= .int .i64 q∧J (js.length+sigs.length+q) wr∧Whole wr W.heap.size 145 [.func (.yield L) #[] #[]]∧Keeps (fun k=>k<n0∨k=g) w0 wr∧wr.heap[D]? =some (.deferred (some [])))
      (fun i _=>exits.length - (intOf i).toNat)
     case atStart=>exact⟨0,by omega,rfl,hj,b0,hk,hK⟩
     case round=>
      clear hj b0 hk hK;obtain⟨q,hq,rfl,hj,b0,hk,hK⟩:=hrel;by_cases hlt:q<exits.length
      · have hlt':(q:Int)<exits.length:=by omega
        obtain⟨x,hx⟩:∃x,exits[q]? =some x:=⟨_,List.getElem?_eq_getElem hlt⟩;have HX:=Zz hx;clear hx;obtain⟨b,off,rfl,_,hc0,hc⟩:=(hrE.keeps hk (fun k hk=>.inl hk)).nth (n:=3) (fun _=>rfl) (by omega) HX.out;have c0:=hc0 q x _ HX.out rfl;have c1:=hc q x 1 _ HX.out rfl;have c2:=hc q x 2 _ HX.out rfl;clear hc0 hc;have z0:=(b0.alloc (.cells x.cells.toArray 87)).Za 0 rfl;have hJa:=hJ.alloc (.cells x.cells.toArray 87) hj;obtain⟨fn,tmps,assign,body,hy,hR⟩:=hY (js.length+sigs.length+q) (x.s,x.q) _ (by rw[←HXS2.out,List.getElem?_append_right (by omega),List.getElem?_append_right (by omega),List.getElem?_map,show js.length+sigs.length+q - js.length - sigs.length=q by omega,HX.out];rfl) hJa;have HR:=Zz hR;clear hR;simp only at hy;gi_wp2_with fail;refine RoundIn.mono (RoundIn.wide HR.out) ?_;clear HR hy c0 c1 c2 z0;have hB1:=below1 wr (.cells x.cells.toArray 87);have HB0:=Zz (b0.alloc (.cells x.cells.toArray 87));have HK0:=Zz ((hB1.block D (Array.getElem?_eq_some_iff.1 hK).1).trans hK);rintro e W3 (⟨rfl,hJ3,hk3⟩|⟨rfl,hJx3,hk3⟩)
        · gi_wp2_with fail;go_roundw
          case rel=>exact⟨q+1,hlt,by go_num,hJ3,hk3.whole HB0.out hbS.out,hk.trans ((Keeps.below hB1).trans (hk3.keeps HD.out)),hk3.rest _ _ HK0.out hDS.out⟩
          case measure=>simp[intOf];omega
        · have hK3:=hk3.rest _ _ HK0.out hDS.out;gi_wp2_with fail;refine⟨by simp,.inl ⟨_,_,rfl,run_takeDeferred hK3,?_⟩⟩;exact⟨_,results_none rfl _ _ _,⟨_,rfl⟩,.inr (hJx.putObj (s:=()) _ hJx3 hWD.out hK3 rfl)⟩
      · obtain rfl:q=exits.length:=by omega
        have HE:Hid (js.length+sigs.length+exits.length=xs.length):=Zz (by rw[←HXS2.out];simp;omega);gi_wp2_with fail;refine⟨by simp,.inl ⟨_,_,rfl,run_takeDeferred hK,?_⟩⟩;exact⟨_,results_none rfl _ _ _,⟨_,rfl⟩,.inl (HE.out ▸ hJ.putObj _ hj hWD.out hK rfl)⟩
 case stop=>
  rintro D c W1 hD ⟨hx,rfl⟩ hK;gi_wp2_with fail;refine⟨by simp,.inl ⟨_,_,rfl,run_takeDeferred hK,?_⟩⟩;exact⟨_,results_none rfl _ _ _,⟨_,rfl⟩,.inr (hJx.putObj (s:=()) _ hx (by omega) hK rfl)⟩
end
section
open Go.RowKit Go.Shelf
def flankV (l:Lay) (a b c d:Int):Bool:=withinA b 0 (nK (Zu l a) - 1)&&((Zu l c==2)&&(!(c==a)&&withinA d 0 1))
section
variable {P:World→Prop} {w:World}
theorem flankRight_P (hP:Closed P) (hT:∀w,P w→Shapes w) {l:Lay} (hL:∀w,P w→Lies l w) (a b c d:Int) {r:Bool} (hr:flankV l a b c d=r) (h:P w):
 Calls Tryz.prog 102 #[l.val,flkV a b c d] w fun e w'=>e= .returned (.bool r)∧P w':=by
 obtain⟨Q,HQ,HQp,HQl,HQv,hq⟩:=keep_box2 hP h 29 136 l.cells (flkCells (a,b,c,d))
 obtain⟨k,hk⟩:∃k,Zu l a=k:=⟨_,rfl⟩
 obtain⟨m,hm⟩:∃m,Zu l c=m:=⟨_,rfl⟩
 have hkr:=kindV_range (hL _ h) a
 rw[hk] at hkr
 obtain⟨u,hu⟩:∃u,withinA b 0 (IntKind.i64.wrap (nK k - 1))=u:=⟨_,rfl⟩
 obtain⟨z,hz⟩:∃z,withinA d 0 1=z:=⟨_,rfl⟩
 have HR:Hid ((u&&((m==2)&&(!(c==a)&&z)))=r):=Zz (by rw[←hr,←hu,←hz,nK_pred,←hk,←hm];rfl)
 have HK:=Zz (fun W hW=>kind_P (P:=Q) (w:=W) HQ.out (fun W hW=>hL _ (HQp.out _ hW)) a hk hW)
 have HM:=Zz (fun W hW=>kind_P (P:=Q) (w:=W) HQ.out (fun W hW=>hL _ (HQp.out _ hW)) c hm hW)
 have HN:=Zz (fun W hW=>ways_P (P:=Q) (w:=W) HQ.out (fun W hW=>hT _ (HQp.out _ hW)) hkr.1 hkr.2 (shapeK k) hW)
 have HU:=Zz (fun W hW=>withinL_P (P:=Q) (w:=W) b 0 (IntKind.i64.wrap (nK k - 1)) hu hW)
 have HZ:=Zz (fun W hW=>withinL_P (P:=Q) (w:=W) d 0 1 hz hW)
 clear hk hkr hm hu hz hr
 have HS:=Zz (HQ.out.drew hq)
 clear hq
 generalize nK k=nk at *
 go_enter Tryz.func102,Tryz.ntmps102
 go_wp2_with fail
 refine wp_scope_fwd (l:=0) rfl ?_
 go_wp2_with fail
 refine region_steady (Q) 9 (by kernel_rfl) (by kernel_rfl) HS.out ?_
 simp only[List.take_succ_cons,List.take_zero,List.drop_succ_cons,List.drop_zero]
 repeat ((first|(refine steady_skip (by rfl) ?_)|(refine steady_read _ (by rfl) (fun W hW=>by(obtain⟨x0,x1,x2,x3,x4,x5,x6,x7,x8,x9,x10⟩:=(HQl.out _ hW).c11;obtain⟨v0,v1,v2,v3⟩:=(HQv.out _ hW).c4;go_simp;first|done|with_reducible rfl)) ?_)|(refine steady_call _ _ _ (by rfl) (fun W hW=>by(obtain⟨x0,x1,x2,x3,x4,x5,x6,x7,x8,x9,x10⟩:=(HQl.out _ hW).c11;obtain⟨v0,v1,v2,v3⟩:=(HQv.out _ hW).c4;go_simp;first|done|rfl)) (fun W hW=>HK.out _ hW) ?_)|(refine steady_call _ _ _ (by rfl) (fun W hW=>by(obtain⟨x0,x1,x2,x3,x4,x5,x6,x7,x8,x9,x10⟩:=(HQl.out _ hW).c11;obtain⟨v0,v1,v2,v3⟩:=(HQv.out _ hW).c4;go_simp;first|done|rfl)) (fun W hW=>HN.out _ hW) ?_)|(refine steady_call _ _ _ (by rfl) (fun W hW=>by(obtain⟨x0,x1,x2,x3,x4,x5,x6,x7,x8,x9,x10⟩:=(HQl.out _ hW).c11;obtain⟨v0,v1,v2,v3⟩:=(HQv.out _ hW).c4;go_simp;first|done|rfl)) (fun W hW=>HU.out _ hW) ?_));simp only[Act.put,La,Lb,Lc])
 refine steady_nil (fun W hW=>?_)
 clear HS HK HN HU
 have hq:=hW
 clear hW
 cases u
 · have HF:Hid (false=r):=Zz (by rw[←HR.out];rfl);go_wp2_with fail;go_step3
   simp +zetaDelta only[Exit.inBlock,Exit.then,fwd_goto];refine⟨trivial,?_⟩;go_wp2_with fail;rw[Exit.noGoto_ret];go_ret;exact⟨Zc HF.out,HQp.out _ hq⟩
 have hW:=hq
 obtain⟨x0,x1,x2,x3,x4,x5,x6,x7,x8,x9,x10⟩:=(HQl.out _ hW).c11
 obtain⟨v0,v1,v2,v3⟩:=(HQv.out _ hW).c4
 clear hW
 go_wp2_with fail
 refine(HM.out _ hq).mono ?_
 clear hq x0 x1 x2 x3 x4 x5 x6 x7 x8 x9 x10 v0 v1 v2 v3
 rintro e w1 ⟨rfl,hq⟩
 have hW:=hq
 obtain⟨x0,x1,x2,x3,x4,x5,x6,x7,x8,x9,x10⟩:=(HQl.out _ hW).c11
 obtain⟨v0,v1,v2,v3⟩:=(HQv.out _ hW).c4
 clear hW
 by_cases hm2:m=2
 · subst hm2;cases hca:(c==a)
   · have hca':decide (c=a)=false:=by simpa using hca
     go_wp2_with fail;refine(HZ.out _ hq).mono ?_;clear hq x0 x1 x2 x3 x4 x5 x6 x7 x8 x9 x10 v0 v1 v2 v3;rintro e w2 ⟨rfl,hq⟩;go_wp2_with fail;try rw[fwd_ret]
     go_ret;exact⟨Zc (by rw[←HR.out,hca];rfl),HQp.out _ hq⟩
   · have HF:Hid (false=r):=Zz (by rw[←HR.out,hca];rfl);obtain rfl:=eq_of_beq hca;clear hca;go_wp2_with fail;go_step3
     simp +zetaDelta only[Exit.inBlock,Exit.then,fwd_goto];refine⟨trivial,?_⟩;go_wp2_with fail;rw[Exit.noGoto_ret];go_ret;exact⟨Zc HF.out,HQp.out _ hq⟩
 · have HF:Hid (false=r):=Zz (by rw[←HR.out,beq_false_of_ne hm2];rfl);have hm2':(m != 2)=true:=by simpa using hm2
   clear hm2;go_wp2_with fail;go_step3
   simp +zetaDelta only[Exit.inBlock,Exit.then,fwd_goto];refine⟨trivial,?_⟩;go_wp2_with fail;rw[Exit.noGoto_ret];go_ret;exact⟨Zc HF.out,HQp.out _ hq⟩
end
def timesL (l:Lay):List Int:=[l.t0,l.t1,l.t2,l.t3,l.t4,l.t5,l.t6]
def rightL (l:Lay):Bool:=
 !tooV l&&(!((timesL l).any fun n=>!withinA n 1 1000)&&(!(l.secs.any fun s=>!rightK s)&&(!((portsL l).any fun p=>!Zp l p.1 p.2)&&(!((stepsL l).any fun s=>!stepV l s.1 s.2.1 s.2.2)&& !(l.flanks.any fun f=>!flankV l f.1 f.2.1 f.2.2.1 f.2.2.2)))))
theorem Row.cellsOn {A B:World} (h:CellsOn A B) {X:Option Addr} {vs:List Value} (hr:Row A A.heap.size X vs):Row B B.heap.size X vs:=fun hp=>by
 obtain⟨b,off,e,hb,hc⟩:=hr hp;exact⟨b,off,e,Nat.lt_of_lt_of_le hb h.size,fun j u hu=>h.cell (hc j u hu)⟩
theorem Lies.firm (l:Lay) (n:Nat):Firm n (Lies l):=Firm.cells (fun W W' h hb=>⟨h.secs.cellsOn hb,h.sigs.cellsOn hb,h.exits.cellsOn hb,h.flanks.cellsOn hb,fun x hx=>(h.overs x hx).cellsOn hb,h.kinds,h.nS,h.nG,h.nE,h.nF,h.nO⟩) n
theorem Shapes.firm (n:Nat):Firm n Shapes:=Firm.cells (fun W W' h hb i v hv=>hb.cell (h i v hv)) n
theorem Whole.firm (g:Nat) (t:TypeId) (cs:List Value) (n:Nat):Firm n fun w=>Whole w g t cs:=Firm.cells (fun W W' h hb=>hb.whole h) n
section
variable {P:World→Prop} {w:World}
theorem right1_P (x:Int) (h:P w):Calls Tryz.prog 95 #[.int .i64 x] w fun e w'=>e= .returned (.bool (!(withinA x 1 1000)))∧P w':=by
 have HC:=Zz (withinL_P x 1 1000 rfl h);generalize withinA x 1 1000=r at *;go_enter Tryz.func95,Tryz.ntmps95;go_wp2_with fail;refine HC.out.mono ?_;rintro e w1 ⟨rfl,hp⟩;go_wp2_with fail;go_ret;exact⟨rfl,hp⟩
theorem right2_P (hP:Closed P) (hT:∀w,P w→Shapes w) {l:Lay} (hL:∀w,P w→Lies l w) (x:Int×Int) (g:Nat) (hg:∀w,P w→Whole w g 29 l.cells) (h:P w):
 Calls Tryz.prog 97 #[(prtV x.1 x.2),.pointer (some ⟨g,0,none⟩)] w fun e w'=>e= .returned (.bool (!(Zp l x.1 x.2)))∧P w':=by
 have hp:=hP _ _ h (below1 w (.cells (Zf x).toArray 59))
 have HC:=Zz (portThere_P hP hT hL x.1 x.2 rfl hp)
 have hw:=hg _ hp
 obtain⟨x0,x1,x2,x3,x4,x5,x6,x7,x8,x9,x10⟩:=hw.c11
 clear hw hp hP hT hL hg h
 generalize Zp l x.1 x.2=r at *
 go_enter Tryz.func97,Tryz.ntmps97
 go_wp2_with fail
 refine HC.out.mono ?_
 rintro e w1 ⟨rfl,hp⟩
 go_wp2_with fail
 go_ret
 exact⟨rfl,hp⟩
theorem right3_P (hP:Closed P) (hT:∀w,P w→Shapes w) {l:Lay} (hL:∀w,P w→Lies l w) (x:Int×Int×Int) (g:Nat) (hg:∀w,P w→Whole w g 29 l.cells) (h:P w):
 Calls Tryz.prog 99 #[(stpV x.1 x.2.1 x.2.2),.pointer (some ⟨g,0,none⟩)] w fun e w'=>e= .returned (.bool (!(stepV l x.1 x.2.1 x.2.2)))∧P w':=by
 have hp:=hP _ _ h (below1 w (.cells (Ze x).toArray 66))
 have HC:=Zz (stepThere_P hP hT hL x.1 x.2.1 x.2.2 rfl hp)
 have hw:=hg _ hp
 obtain⟨x0,x1,x2,x3,x4,x5,x6,x7,x8,x9,x10⟩:=hw.c11
 clear hw hp hP hT hL hg h
 generalize stepV l x.1 x.2.1 x.2.2=r at *
 go_enter Tryz.func99,Tryz.ntmps99
 go_wp2_with fail
 refine HC.out.mono ?_
 rintro e w1 ⟨rfl,hp⟩
 go_wp2_with fail
 go_ret
 exact⟨rfl,hp⟩
theorem right4_P (hP:Closed P) (hT:∀w,P w→Shapes w) {l:Lay} (hL:∀w,P w→Lies l w) (x:Int×Int×Int×Int) (g:Nat) (hg:∀w,P w→Whole w g 29 l.cells) (h:P w):
 Calls Tryz.prog 101 #[(flkV x.1 x.2.1 x.2.2.1 x.2.2.2),.pointer (some ⟨g,0,none⟩)] w fun e w'=>e= .returned (.bool (!(flankV l x.1 x.2.1 x.2.2.1 x.2.2.2)))∧P w':=by
 have hp:=hP _ _ h (below1 w (.cells (flkCells x).toArray 136))
 have HC:=Zz (flankRight_P hP hT hL x.1 x.2.1 x.2.2.1 x.2.2.2 rfl hp)
 have hw:=hg _ hp
 obtain⟨x0,x1,x2,x3,x4,x5,x6,x7,x8,x9,x10⟩:=hw.c11
 clear hw hp hP hT hL hg h
 generalize flankV l x.1 x.2.1 x.2.2.1 x.2.2.2=r at *
 go_enter Tryz.func101,Tryz.ntmps101
 go_wp2_with fail
 refine HC.out.mono ?_
 rintro e w1 ⟨rfl,hp⟩
 go_wp2_with fail
 go_ret
 exact⟨rfl,hp⟩
end
theorem times_any (l:Lay) (w:World):Calls Tryz.prog 105 #[.agg #[.int .i64 l.t0,.int .i64 l.t1,.int .i64 l.t2,.int .i64 l.t3,.int .i64 l.t4,.int .i64 l.t5,.int .i64 l.t6]] w fun e w'=>
 e= .returned (.func (.func 181) #[] #[.pointer (some ⟨w.heap.size+2,0,none⟩)])∧Below w.heap.size w w'∧w'.heap.size=w.heap.size+3 ∧
  Iter Tryz.prog 181 #[.pointer (some ⟨w.heap.size+2,0,none⟩)] (fun x:Int=>#[.int .i64 x]) (timesL l) (fun k=>k<w.heap.size+2∨k=w.heap.size+2) w':=by
 have HV:=Zz (fun w=>valuesInt_any (some ⟨w.heap.size - 1,0,none⟩) 7 7 w);go_enter Tryz.func105,Tryz.ntmps105;go_wp2_with fail;have hv:=HV.out ((w.alloc (.cells #[.int .i64 l.t0,.int .i64 l.t1,.int .i64 l.t2,.int .i64 l.t3,.int .i64 l.t4,.int .i64 l.t5,.int .i64 l.t6] 27)).alloc (.cells #[.int .i64 l.t0,.int .i64 l.t1,.int .i64 l.t2,.int .i64 l.t3,.int .i64 l.t4,.int .i64 l.t5,.int .i64 l.t6] 3));rw[World.size_alloc,World.size_alloc,Nat.add_sub_cancel] at hv;refine hv.mono ?_;clear hv HV;rintro e w1 ⟨rfl,rfl⟩;go_wp2_with fail;go_ret;refine⟨rfl,below3 _ _ _ _,by simp,?_⟩;have hr:=((Whole.Zj (w.alloc (.cells #[.int .i64 l.t0,.int .i64 l.t1,.int .i64 l.t2,.int .i64 l.t3,.int .i64 l.t4,.int .i64 l.t5,.int .i64 l.t6] 27)) 3 [.int .i64 l.t0,.int .i64 l.t1,.int .i64 l.t2,.int .i64 l.t3,.int .i64 l.t4,.int .i64 l.t5,.int .i64 l.t6] (w.heap.size+1) (by simp)).alloc (.cells #[.slice (some ⟨w.heap.size+1,0,none⟩) 7 7] 30)).row (B:=w.heap.size+2) (by omega);exact valuesInt_iter (xs:=timesL l) (c:=7) (Whole.Zj _ 30 [.slice (some ⟨w.heap.size+1,0,none⟩) 7 7] (w.heap.size+2) (by simp)) hr (by show(7:Int)≤_;omega)
theorem rightL_any {l:Lay} (w:World) (hT:Shapes w) (hL:Lies l w) {r:Bool} (hr:rightL l=r):Calls Tryz.prog 68 #[l.val] w fun e w'=>e= .returned (.bool r)∧Below w.heap.size w w':=by
 obtain⟨Q,HQ,HQs,HQL,HQl,HQb,hq⟩:∃Q:World→Prop,Hid (Firm w.heap.size Q)∧Hid (∀W,Q W→Shapes W)∧Hid (∀W,Q W→Lies l W)∧Hid (∀W,Q W→Whole W w.heap.size 29 l.cells)∧Hid (∀W,Q W→Below w.heap.size w W)∧Q (w.alloc (.cells l.cells.toArray 29)):=
  ⟨fun W=>((Shapes W∧Lies l W)∧Whole W w.heap.size 29 l.cells)∧Below w.heap.size w W,Zz ((((Shapes.firm _).and (Lies.firm l _)).and (Whole.firm _ _ _ _)).and (Firm.below w)),Zz (fun _ h=>h.1.1.1),Zz (fun _ h=>h.1.1.2),Zz (fun _ h=>h.1.2),Zz (fun _ h=>h.2),
   ⟨⟨Shapes.closed _ _ hT (below1 w _),Lies.closed l _ _ hL (below1 w _)⟩,Whole.new w _ l.cells⟩,below1 w _⟩;have HSz:Hid (∀W,Q W→w.heap.size+1≤W.heap.size):=Zz (fun W h=>(HQl.out W h).lt);obtain⟨a0,h0⟩:∃a,tooV l=a:=⟨_,rfl⟩;obtain⟨a1,h1⟩:∃a,(timesL l).any (fun n=>!withinA n 1 1000)=a:=⟨_,rfl⟩;obtain⟨a2,h2⟩:∃a,l.secs.any (fun s=>!rightK s)=a:=⟨_,rfl⟩;obtain⟨a3,h3⟩:∃a,(portsL l).any (fun p=>!Zp l p.1 p.2)=a:=⟨_,rfl⟩;obtain⟨a4,h4⟩:∃a,(stepsL l).any (fun s=>!stepV l s.1 s.2.1 s.2.2)=a:=⟨_,rfl⟩;obtain⟨a5,h5⟩:∃a,l.flanks.any (fun f=>!flankV l f.1 f.2.1 f.2.2.1 f.2.2.2)=a:=⟨_,rfl⟩;have HR:Hid ((!a0&&(!a1&&(!a2&&(!a3&&(!a4&& !a5)))))=r):=Zz (by rw[←hr,←h0,←h1,←h2,←h3,←h4,←h5];rfl);have K0:=Zz (fun W (hW:Q W)=>tooMany_P (w:=W) HQ.out.closed (fun W h=>HQL.out _ h) h0 hW);have K2:=Zz (fun W (hW:Q W)=>sectionsRight_P (w:=W) HQ.out.closed (fun W h=>HQs.out _ h) (fun W h=>HQL.out _ h) h2 hW);have M1:=Zz (fun W (hW:Q W)=>times_any l W);have K1:=Zz (fun(g:Nat) (R:Nat→Prop) (w0 W:World) (hW:Q W) hit hw0 hRl=>someInt_P (w:=W) (lb:=#[.pointer (some ⟨g,0,none⟩)]) (xs:=timesL l) (R:=R) (w0:=w0) HQ.out (Nat.le_of_succ_le (HSz.out W hW)) hit hw0 hRl (fun x _ W hW=>right1_P (P:=fun W'=>Q W'∧Below W.heap.size W W') x ⟨hW,Below.refl _ _⟩) h1 hW);have M3:=Zz (fun W=>portsOf_any l W);have K3:=Zz (fun(W W0:World) (hW:Q W) (e:W0=W.alloc (.cells #[.slice l.As l.secs.length l.cs,.slice l.Ag l.sigs.length l.cg,.slice l.Ae l.exits.length l.ce,.slice l.Af l.flanks.length l.cf,.int .i64 l.t0,.int .i64 l.t1,.int .i64 l.t2,.int .i64 l.t3,.int .i64 l.t4,.int .i64 l.t5,.int .i64 l.t6] 29))=>somePort_P (w:=W0) (lb:=#[.pointer (some ⟨W.heap.size,0,none⟩)]) (xs:=portsL l) (R:=fun k=>k<W.heap.size∨k=W.heap.size) (w0:=W0) (p0:=.pointer (some ⟨w.heap.size,0,none⟩)) HQ.out (by rw[e,World.size_alloc];have :=HSz.out W hW;omega)
  (by rw[e];exact ports_iter (n0:=W.heap.size) (Whole.new W _ l.cells) (by simp) ((HQL.out W hW).secs.below (below1 _ _)) ((HQL.out W hW).sigs.below (below1 _ _)) ((HQL.out W hW).exits.below (below1 _ _)) hL.nS hL.nG hL.nE) (Keeps.refl _ _) (fun k hk=>by rw[e,World.size_alloc];omega)
  (fun x hx W hW=>right2_P (P:=fun W'=>Q W'∧Below W.heap.size W W') (w:=W) (HQ.out.closed.and (Closed.below W)) (fun W' h=>HQs.out _ h.1) (fun W' h=>HQL.out _ h.1) x _ (fun W' h=>HQl.out _ h.1) ⟨hW,Below.refl _ _⟩) h3 (by rw[e];exact HQ.out.closed _ _ hW (below1 _ _)));have M4:=Zz (fun W=>stepsOf_any l W);have K4:=Zz (fun(W W0:World) (hW:Q W) (e:W0=W.alloc (.cells #[.slice l.As l.secs.length l.cs,.slice l.Ag l.sigs.length l.cg,.slice l.Ae l.exits.length l.ce,.slice l.Af l.flanks.length l.cf,.int .i64 l.t0,.int .i64 l.t1,.int .i64 l.t2,.int .i64 l.t3,.int .i64 l.t4,.int .i64 l.t5,.int .i64 l.t6] 29))=>someStep_P (w:=W0) (lb:=#[.pointer (some ⟨W.heap.size,0,none⟩)]) (xs:=stepsL l) (R:=fun k=>k<W.heap.size∨k=W.heap.size) (w0:=W0) (p0:=.pointer (some ⟨w.heap.size,0,none⟩)) HQ.out (by rw[e,World.size_alloc];have :=HSz.out W hW;omega)
  (by rw[e];exact steps_iter (n0:=W.heap.size) (Whole.new W _ l.cells) ((HQL.out W hW).exits.below (below1 _ _)) (fun x hx=>((HQL.out W hW).overs x hx).below (below1 _ _)) hL.nE hL.nO) (Keeps.refl _ _) (fun k hk=>by rw[e,World.size_alloc];omega)
  (fun x hx W hW=>right3_P (P:=fun W'=>Q W'∧Below W.heap.size W W') (w:=W) (HQ.out.closed.and (Closed.below W)) (fun W' h=>HQs.out _ h.1) (fun W' h=>HQL.out _ h.1) x _ (fun W' h=>HQl.out _ h.1) ⟨hW,Below.refl _ _⟩) h4 (by rw[e];exact HQ.out.closed _ _ hW (below1 _ _)));have M5:=Zz (fun W=>valuesFlank_any l.Af l.flanks.length l.cf W);have K5:=Zz (fun(W W0:World) (hW:Q W) (e:W0=W.alloc (.cells #[.slice l.Af l.flanks.length l.cf] 25))=>someFlank_P (w:=W0) (lb:=#[.pointer (some ⟨W.heap.size,0,none⟩)]) (xs:=l.flanks) (R:=fun k=>k<W.heap.size∨k=W.heap.size) (w0:=W0) (p0:=.pointer (some ⟨w.heap.size,0,none⟩)) HQ.out (by rw[e,World.size_alloc];have :=HSz.out W hW;omega)
  (by rw[e];exact valuesFlank_iter (n0:=W.heap.size) (c:=l.cf) (Whole.new W _ [.slice l.Af l.flanks.length l.cf]) ((HQL.out W hW).flanks.below (below1 _ _)) hL.nF) (Keeps.refl _ _) (fun k hk=>by rw[e,World.size_alloc];omega)
  (fun x hx W hW=>right4_P (P:=fun W'=>Q W'∧Below W.heap.size W W') (w:=W) (HQ.out.closed.and (Closed.below W)) (fun W' h=>HQs.out _ h.1) (fun W' h=>HQL.out _ h.1) x _ (fun W' h=>HQl.out _ h.1) ⟨hW,Below.refl _ _⟩) h5 (by rw[e];exact HQ.out.closed _ _ hW (below1 _ _)));clear h0 h1 h2 h3 h4 h5 hr hT hL;have x0:=(HQl.out _ hq).Za 0 rfl;have x1:=(HQl.out _ hq).Za 1 rfl;have x2:=(HQl.out _ hq).Za 2 rfl;have x3:=(HQl.out _ hq).Za 3 rfl;have x4:=(HQl.out _ hq).Za 4 rfl;have x5:=(HQl.out _ hq).Za 5 rfl;have x6:=(HQl.out _ hq).Za 6 rfl;have x7:=(HQl.out _ hq).Za 7 rfl;have x8:=(HQl.out _ hq).Za 8 rfl;have x9:=(HQl.out _ hq).Za 9 rfl;have x10:=(HQl.out _ hq).Za 10 rfl;go_enter Tryz.func68,Tryz.ntmps68;go_wp2_with fail;refine wp_scope_fwd (l:=0) rfl ?_;go_wp2_with fail;refine(K0.out _ hq).mono ?_;clear hq x0 x1 x2 x3 x4 x5 x6 x7 x8 x9 x10;rintro e w1 ⟨rfl,hq⟩;cases a0;rotate_left
 · have HF:Hid (false=r):=Zz (by rw[←HR.out];rfl);go_wp2_with fail;go_step3
   simp +zetaDelta only[Exit.inBlock,Exit.then,fwd_goto];refine⟨trivial,?_⟩;go_wp2_with fail;rw[Exit.noGoto_ret];go_ret;exact⟨Zc HF.out,HQb.out _ hq⟩
 have x0:=(HQl.out _ hq).Za 0 rfl;have x1:=(HQl.out _ hq).Za 1 rfl;have x2:=(HQl.out _ hq).Za 2 rfl;have x3:=(HQl.out _ hq).Za 3 rfl;have x4:=(HQl.out _ hq).Za 4 rfl;have x5:=(HQl.out _ hq).Za 5 rfl;have x6:=(HQl.out _ hq).Za 6 rfl;have x7:=(HQl.out _ hq).Za 7 rfl;have x8:=(HQl.out _ hq).Za 8 rfl;have x9:=(HQl.out _ hq).Za 9 rfl;have x10:=(HQl.out _ hq).Za 10 rfl;go_wp2_with fail;refine(M1.out _ hq).mono ?_;clear x0 x1 x2 x3 x4 x5 x6 x7 x8 x9 x10;rintro e w2 ⟨rfl,hB2,hs2,hit⟩;have hq:=HQ.out.closed _ _ hq hB2;go_wp2_with fail;refine(K1.out _ _ w2 w2 hq hit (Keeps.refl _ _) (fun k hk=>by omega)).mono ?_;clear hit hB2 hs2;rintro e w3 ⟨rfl,hq⟩;cases a1;rotate_left
 · have HF:Hid (false=r):=Zz (by rw[←HR.out];rfl);go_wp2_with fail;go_step3
   simp +zetaDelta only[Exit.inBlock,Exit.then,fwd_goto];refine⟨trivial,?_⟩;go_wp2_with fail;rw[Exit.noGoto_ret];go_ret;exact⟨Zc HF.out,HQb.out _ hq⟩
 have x0:=(HQl.out _ hq).Za 0 rfl;have x1:=(HQl.out _ hq).Za 1 rfl;have x2:=(HQl.out _ hq).Za 2 rfl;have x3:=(HQl.out _ hq).Za 3 rfl;have x4:=(HQl.out _ hq).Za 4 rfl;have x5:=(HQl.out _ hq).Za 5 rfl;have x6:=(HQl.out _ hq).Za 6 rfl;have x7:=(HQl.out _ hq).Za 7 rfl;have x8:=(HQl.out _ hq).Za 8 rfl;have x9:=(HQl.out _ hq).Za 9 rfl;have x10:=(HQl.out _ hq).Za 10 rfl;go_wp2_with fail;refine(K2.out _ hq).mono ?_;clear hq x0 x1 x2 x3 x4 x5 x6 x7 x8 x9 x10;rintro e w4 ⟨rfl,hq⟩;cases a2;rotate_left
 · have HF:Hid (false=r):=Zz (by rw[←HR.out];rfl);go_wp2_with fail;go_step3
   simp +zetaDelta only[Exit.inBlock,Exit.then,fwd_goto];refine⟨trivial,?_⟩;go_wp2_with fail;rw[Exit.noGoto_ret];go_ret;exact⟨Zc HF.out,HQb.out _ hq⟩
 have x0:=(HQl.out _ hq).Za 0 rfl;have x1:=(HQl.out _ hq).Za 1 rfl;have x2:=(HQl.out _ hq).Za 2 rfl;have x3:=(HQl.out _ hq).Za 3 rfl;have x4:=(HQl.out _ hq).Za 4 rfl;have x5:=(HQl.out _ hq).Za 5 rfl;have x6:=(HQl.out _ hq).Za 6 rfl;have x7:=(HQl.out _ hq).Za 7 rfl;have x8:=(HQl.out _ hq).Za 8 rfl;have x9:=(HQl.out _ hq).Za 9 rfl;have x10:=(HQl.out _ hq).Za 10 rfl;go_wp2_with fail;refine(M3.out _).mono ?_;clear x0 x1 x2 x3 x4 x5 x6 x7 x8 x9 x10;rintro e w5 ⟨rfl,e5⟩;have E5:=Zz e5;clear e5;go_wp2_with fail;refine(K3.out _ _ hq E5.out).mono ?_;clear hq E5;rintro e w6 ⟨rfl,hq⟩;cases a3;rotate_left
 · have HF:Hid (false=r):=Zz (by rw[←HR.out];rfl);go_wp2_with fail;go_step3
   simp +zetaDelta only[Exit.inBlock,Exit.then,fwd_goto];refine⟨trivial,?_⟩;go_wp2_with fail;rw[Exit.noGoto_ret];go_ret;exact⟨Zc HF.out,HQb.out _ hq⟩
 have x0:=(HQl.out _ hq).Za 0 rfl;have x1:=(HQl.out _ hq).Za 1 rfl;have x2:=(HQl.out _ hq).Za 2 rfl;have x3:=(HQl.out _ hq).Za 3 rfl;have x4:=(HQl.out _ hq).Za 4 rfl;have x5:=(HQl.out _ hq).Za 5 rfl;have x6:=(HQl.out _ hq).Za 6 rfl;have x7:=(HQl.out _ hq).Za 7 rfl;have x8:=(HQl.out _ hq).Za 8 rfl;have x9:=(HQl.out _ hq).Za 9 rfl;have x10:=(HQl.out _ hq).Za 10 rfl;go_wp2_with fail;refine(M4.out _).mono ?_;clear x0 x1 x2 x3 x4 x5 x6 x7 x8 x9 x10;rintro e w7 ⟨rfl,e7⟩;have E7:=Zz e7;clear e7;go_wp2_with fail;refine(K4.out _ _ hq E7.out).mono ?_;clear hq E7;rintro e w8 ⟨rfl,hq⟩;cases a4;rotate_left
 · have HF:Hid (false=r):=Zz (by rw[←HR.out];rfl);go_wp2_with fail;go_step3
   simp +zetaDelta only[Exit.inBlock,Exit.then,fwd_goto];refine⟨trivial,?_⟩;go_wp2_with fail;rw[Exit.noGoto_ret];go_ret;exact⟨Zc HF.out,HQb.out _ hq⟩
 have x0:=(HQl.out _ hq).Za 0 rfl;have x1:=(HQl.out _ hq).Za 1 rfl;have x2:=(HQl.out _ hq).Za 2 rfl;have x3:=(HQl.out _ hq).Za 3 rfl;have x4:=(HQl.out _ hq).Za 4 rfl;have x5:=(HQl.out _ hq).Za 5 rfl;have x6:=(HQl.out _ hq).Za 6 rfl;have x7:=(HQl.out _ hq).Za 7 rfl;have x8:=(HQl.out _ hq).Za 8 rfl;have x9:=(HQl.out _ hq).Za 9 rfl;have x10:=(HQl.out _ hq).Za 10 rfl;go_wp2_with fail;refine(M5.out _).mono ?_;clear x0 x1 x2 x3 x4 x5 x6 x7 x8 x9 x10;rintro e w9 ⟨rfl,e9⟩;have E9:=Zz e9;clear e9;go_wp2_with fail;refine(K5.out _ _ hq E9.out).mono ?_;clear hq E9;rintro e w10 ⟨rfl,hq⟩;cases a5;rotate_left
 · have HF:Hid (false=r):=Zz (by rw[←HR.out];rfl);go_wp2_with fail;go_step3
   simp +zetaDelta only[Exit.inBlock,Exit.then,fwd_goto];refine⟨trivial,?_⟩;go_wp2_with fail;rw[Exit.noGoto_ret];go_ret;exact⟨Zc HF.out,HQb.out _ hq⟩
 have HF:Hid (true=r):=Zz (by rw[←HR.out];rfl);go_wp2_with fail;try rw[fwd_ret]
 go_ret;exact⟨Zc HF.out,HQb.out _ hq⟩
theorem flat_length {α:Type} {f:α→List Value} {n:Nat} (hf:∀x,(f x).length=n):∀l:List α,(l.flatMap f).length=l.length*n
 |[]=>by simp
 |x::l=>by rw[List.flatMap_cons,List.length_append,hf,flat_length hf l,List.length_cons,Nat.add_mul];omega
theorem Zh {w w':World} {base e size n:Nat} {v:Value} {xs:List Value} (h:w.ownsRow base e size v n xs) (hb:Below w.heap.size w w'):w'.ownsRow base e size v n xs:=by
 refine⟨h.1,?_⟩;rcases h.2 with h2|⟨g',cap',cur,hv,h3,h4,r⟩
 · exact .inl h2
 · exact .inr ⟨g',cap',cur,hv,h3,(hb.block g' (Array.getElem?_eq_some_iff.1 h4).1).trans h4,r⟩
theorem owns_base {w:World} {base base' e size n:Nat} {v:Value} {xs:List Value} (h:w.ownsRow base e size v n xs) (hb:base'≤base):w.ownsRow base' e size v n xs:=by
 refine⟨h.1,?_⟩;rcases h.2 with h2|⟨g',cap',cur,hv,h3,r⟩
 · exact .inl h2
 · exact .inr ⟨g',cap',cur,hv,by omega,r⟩
theorem owns_read {w:World} {base e size n:Nat} {v:Value} {xs:List Value} (h:w.ownsRow base e size v n xs):∃A c,v= .slice A n c∧Row w w.heap.size A xs:=by
 rcases h.2 with ⟨rfl,rfl⟩|⟨g,cap,cur,rfl,h3,h4,h5,h6,h7,h8⟩
 · have :xs=[]:=List.eq_nil_of_length_eq_zero (by simpa using h.1);subst this;exact⟨none,0,rfl,Row.nil _ _ _⟩
 · refine⟨_,_,rfl,fun hp=>⟨g,0,rfl,(Array.getElem?_eq_some_iff.1 h4).1,fun j u hu=>?_⟩⟩;rw[←h8,List.getElem?_take] at hu;split at hu
   · simpa [World.cell?,h4] using hu
   · cases hu
theorem infoStep:(Tryz.prog.info? 66).map (fun i=>(i.zero,i.size,i.bytes))=some (some (.agg #[.int .i64 0,.int .i64 0,.int .i64 0]),3,24):=by kernel_rfl
theorem oneStep (x:Int×Int×Int):∀u ∈ Ze x,u.oneCell'=true:=by intro u hu;simp at hu;rcases hu with rfl|rfl|rfl <;> rfl
theorem appendStep (base n m:Nat) (v:Value) (xs:List Value) (l:List (Int×Int×Int)) (A:Option Addr) (c B:Nat) (w:World) (hown:w.ownsRow base 66 3 v n xs) (hA:A≠none) (hr:Row w B A (l.flatMap Ze)) (hm:m=l.length) (hn:n≤1000) (hl:l.length≤1000) (hbase:base≤w.heap.size):
 ∃v' w',(Builtin.append_ #[44,44] 44 #[v,.slice A m c]).run Tryz.prog w= .ok v' w'∧w'.ownsRow base 66 3 v' (n+m) (xs++l.flatMap Ze)∧Below base w w'∧v'≠ .slice none 0 0∨v= .slice none 0 0:=by
 subst hm
 obtain⟨i,i1,i2,i3,i4⟩:=info_parts infoStep
 obtain⟨a,rfl⟩:∃a,A=some a:=Option.ne_none_iff_exists'.1 hA
 obtain⟨v',w',r1,r2,r3,r4,r5⟩:=run_append_own_at (P:=Tryz.prog) w base 44 44 66 i (.agg #[.int .i64 0,.int .i64 0,.int .i64 0]) 3 24 Tryz.underlying44 i1 i2 i3 i4 rfl (by omega) v n xs hown a l.length c (l.flatMap Ze) (flat_length (n:=3) (fun _=>rfl) l) (row_add hr) (fun u hu=>by
  obtain⟨x,_,hx⟩:=List.mem_flatMap.1 hu;exact oneStep x u hx) (by unfold maxLen;omega) (by omega) hbase
 by_cases h0:v= .slice none 0 0
 · exact⟨v,w,.inr h0⟩
 · exact⟨v',w',.inl ⟨r1,r2,(Below.refl base w).grown r3 hbase (fun k e=>(hown.lt k e).1),fun e=>h0 (r4.1 e).1⟩⟩
theorem cloneStep_any {l:List (Int×Int×Int)} (A:Option Addr) (c:Nat) (w:World) (hr:Row w w.heap.size A (l.flatMap Ze)) (hl:l.length≤1000):
 Calls Tryz.prog 132 #[.slice A l.length c] w fun e w'=>∃v,e= .returned v∧w'.ownsRow w.heap.size 66 3 v l.length (l.flatMap Ze)∧Below w.heap.size w w':=by
 cases A with
 |none=>
  have h0:l=[]:=by
   cases l with
   |nil=>rfl
   |cons x l=>
    obtain⟨b,off,e,_⟩:=hr (by rw[List.flatMap_cons,List.length_append];have :(Ze x).length=3:=rfl;omega);cases e
  subst h0;have hnil:∀w:World,(binOp .eql 44 (.slice none 0 c) (.slice none 0 0)).run Tryz.prog w= .ok (.bool true) w:=fun _=>rfl;go_enter Tryz.func132,Tryz.ntmps132;go_wp2_with fail;go_ret;exact⟨_,rfl,World.ownsRow_nil _ _ _ _,Below.refl _ _⟩
 |some a=>
  have hown:(w.alloc (.cells #[] 66)).ownsRow w.heap.size 66 3 (.slice (some ⟨w.heap.size,0,none⟩) 0 0) 0 []:=⟨by simp,.inr ⟨w.heap.size,0,#[],rfl,Nat.le_refl _,World.alloc_heap_new w _,Nat.le_refl _,by simp,by simp,by simp⟩⟩;obtain⟨v',w1,hap⟩:=appendStep w.heap.size 0 l.length _ [] l (some a) c w.heap.size _ hown (by simp) (hr.below (below1 w _)) rfl (by omega) hl (by simp);rcases hap with ⟨hrun,hown1,hB,_⟩|h
  · have HO:=Zz hown1;have HB:=Zz ((below1 w (.cells #[] 66)).trans hB);clear hown hown1 hB hr;have hnil:∀w:World,(binOp .eql 44 (.slice (some a) l.length c) (.slice none 0 0)).run Tryz.prog w= .ok (.bool false) w:=fun _=>rfl;go_enter Tryz.func132,Tryz.ntmps132;go_wp2_with (at_builtin;refine Zo rfl (.tmp 5) (.tmp 6) 44 rfl hrun ?_);go_ret;exact⟨_,rfl,by simpa using HO.out,HB.out⟩
  · cases h
theorem owns_block {w:World} {base e size n c:Nat} {A:Option Addr} {xs:List Value} (h:w.ownsRow base e size (.slice A n c) n xs):∀a,A=some a→base≤a.block∧a.block<w.heap.size:=by
 intro a ha;subst ha;exact h.lt a.block rfl
theorem Row.elsewhere {W W':World} {B:Nat} {A:Option Addr} {vs:List Value} (h:Row W B A vs) {g:Nat} (hA:∀a,A=some a→a.block≠g) (hk:∀k,k≠g→W'.heap[k]? =W.heap[k]?):Row W' B A vs:=fun hp=>by
 obtain⟨b,off,e,hb,hc⟩:=h hp;exact⟨b,off,e,hb,fun j u hu=>(World.cell?_of_block (hk b (hA _ e))).trans (hc j u hu)⟩
theorem owns_row2 {w:World} {base e size n c:Nat} {A:Option Addr} {xs:List Value} (h:w.ownsRow base e size (.slice A n c) n xs):Row w w.heap.size A xs:=by
 obtain⟨A',c',e,hr⟩:=owns_read h;cases e;exact hr
theorem Row.elsewhere2 {W W':World} {B:Nat} {A:Option Addr} {vs:List Value} (h:Row W B A vs) {g:Nat} (hA:0<vs.length→∀a,A=some a→a.block≠g) (hk:∀k,k≠g→W'.heap[k]? =W.heap[k]?):Row W' B A vs:=fun hp=>by
 obtain⟨b,off,e,hb,hc⟩:=h hp;exact⟨b,off,e,hb,fun j u hu=>(World.cell?_of_block (hk b (hA hp _ e))).trans (hc j u hu)⟩
theorem flat_set {v:Value} {y:Exm} {tail:List Value}:∀(ex:List Exm) (j:Nat) (x:Exm),ex[j]? =some x→y.cells=x.cells.set 2 v→(ex.flatMap Exm.cells++tail).set (j*3+2) v=(ex.set j y).flatMap Exm.cells++tail
 |[],j,x,h,_=>by simp at h
 |z::ex,0,x,h,hy=>by
  simp only[Lm,Option.some.injEq] at h;subst h;rw[List.set_cons_zero,List.flatMap_cons,List.flatMap_cons,hy];rfl
 |z::ex,j+1,x,h,hy=>by
  rw[List.set_cons_succ,List.flatMap_cons,List.flatMap_cons,List.append_assoc,List.append_assoc,←flat_set ex j x (by simpa using h) hy];have e:(j+1)*3+2=z.cells.length+(j*3+2):=by show _=3+_;omega
  rw[e,List.set_append_right _ _ (Nat.le_add_right _ _),Nat.add_sub_cancel_left]
theorem map_set_same {α β:Type} (f:α→β):∀(ex:List α) (j:Nat) (x y:α),ex[j]? =some x→f y=f x→(ex.set j y).map f=ex.map f
 |[],j,x,y,h,_=>rfl
 |z::ex,0,x,y,h,hy=>by
  simp only[Lm,Option.some.injEq] at h;subst h;rw[List.set_cons_zero,List.map_cons,List.map_cons,hy]
 |z::ex,j+1,x,y,h,hy=>by rw[List.set_cons_succ,List.map_cons,List.map_cons,map_set_same f ex j x y (by simpa using h) hy]
structure OwnLoop (w:World) (l:Lay) (go:Nat) (AS:Option Addr) (kS:Nat) (AG:Option Addr) (kG:Nat) (AE:Option Addr) (kE:Nat) (AF:Option Addr) (kF:Nat) (ex:List Exm) (W:World):Prop where
 go_le:w.heap.size+2≤go
 own:Whole W go 29 [.slice AS l.secs.length kS,.slice AG l.sigs.length kG,.slice AE l.exits.length kE,.slice AF l.flanks.length kF,.int .i64 l.t0,.int .i64 l.t1,.int .i64 l.t2,.int .i64 l.t3,.int .i64 l.t4,.int .i64 l.t5,.int .i64 l.t6]
 S:Row W W.heap.size AS (l.secs.flatMap Sec.cells)
 G:Row W W.heap.size AG (l.sigs.flatMap Zf)
 F:Row W W.heap.size AF (l.flanks.flatMap flkCells)
 len:ex.length=l.exits.length
 pure:ex.map Exm.pure=l.exits.map Exm.pure
 overs:∀x ∈ ex,Row W W.heap.size x.A (x.over.flatMap Ze)
 nil:AE=Option.none→ex=[]
 blk:∀a,AE=some a→∃g tail,a=⟨g,0,Option.none⟩∧w.heap.size+2≤g∧Whole W g 87 (ex.flatMap Exm.cells++tail)
 apart:∀a,AE=some a→a.block≠go∧(∀b,AS=some b→b.block≠a.block)∧(∀b,AG=some b→b.block≠a.block)∧(∀b,AF=some b→b.block≠a.block)
 far:∀x ∈ ex,0<x.over.length→∀b,x.A=some b→(b.block<w.heap.size∨w.heap.size+2≤b.block)∧∀a,AE=some a→b.block≠a.block
 lowS:∀b,AS=some b→w.heap.size+2≤b.block
 lowG:∀b,AG=some b→w.heap.size+2≤b.block
 lowF:∀b,AF=some b→w.heap.size+2≤b.block
 res:Whole W (w.heap.size+1) 29 [.slice none 0 0,.slice none 0 0,.slice none 0 0,.slice none 0 0,.int .i64 0,.int .i64 0,.int .i64 0,.int .i64 0,.int .i64 0,.int .i64 0,.int .i64 0]
 below:Below w.heap.size w W
theorem OwnLoop.next {w W W3:World} {l:Lay} {go kS kG kE kF:Nat} {AS AG AE AF:Option Addr} {ex:List Exm} (h:OwnLoop w l go AS kS AG kG AE kE AF kF ex W) {j:Nat} {x:Exm} (hx:ex[j]? =some x) {g:Nat} (hg:AE=some ⟨g,0,Option.none⟩) (hB:Below W.heap.size W W3) {An:Option Addr} {cn:Nat}
 (ho:W3.ownsRow W.heap.size 66 3 (.slice An x.over.length cn) x.over.length (x.over.flatMap Ze)):OwnLoop w l go AS kS AG kG AE kE AF kF (ex.set j {x with A:=An,c:=cn}) (W3.setCell ⟨g,j*3+2,Option.none⟩ (.slice An x.over.length cn)):=by
 obtain⟨g',tail,e,hgl,hW⟩:=h.blk _ hg
 cases e
 have hk:∀k,k≠g→(W3.setCell ⟨g,j*3+2,Option.none⟩ (.slice An x.over.length cn)).heap[k]? =W3.heap[k]? :=fun k hk=>Below.heap_setCell _ _ _ _ hk
 have hsz:(W3.setCell ⟨g,j*3+2,Option.none⟩ (.slice An x.over.length cn)).heap.size=W3.heap.size:=by simp[World.setCell]
 have hAp:=h.apart _ hg
 have hgW:=hW.lt
 have hblk:=owns_block ho
 have hWs:=h.below.size
 have hres:=h.res.lt
 refine⟨h.go_le,(hk _ (fun e=>hAp.1 e.symm)).trans (h.own.below hB h.own.lt),?_,?_,?_,by simp[h.len],?_,?_,(fun e=>by rw[hg] at e;cases e),fun a ha=>?_,h.apart,?_,h.lowS,h.lowG,h.lowF,(hk _ (by omega)).trans (h.res.below hB h.res.lt),(h.below.trans (hB.mono h.below.size)).setCell (p:=⟨g,j*3+2,Option.none⟩) (by show w.heap.size≤g;omega) _⟩
 · rw[hsz];exact(h.S.on hB).elsewhere hAp.2.1 hk
 · rw[hsz];exact(h.G.on hB).elsewhere hAp.2.2.1 hk
 · rw[hsz];exact(h.F.on hB).elsewhere hAp.2.2.2 hk
 · rw[map_set_same Exm.pure ex j x {x with A:=An,c:=cn} hx rfl,h.pure]
 · intro y hy;rw[hsz];rcases List.mem_or_eq_of_mem_set hy with hy|rfl
   · exact((h.overs y hy).on hB).elsewhere2 (fun hp b hb=>(h.far y hy (by rw[flat_length (n:=3) (fun _=>rfl)] at hp;omega) b hb).2 _ hg) hk
   · exact(owns_row2 ho).elsewhere (fun b hb=>by have :=hblk b hb;omega) hk
 · rw[hg] at ha;cases ha;refine⟨g,tail,rfl,hgl,?_⟩;have :=(hW.below hB hW.lt).set (j*3+2) (.slice An x.over.length cn);rw[flat_set (v:=.slice An x.over.length cn) (y:={x with A:=An,c:=cn}) ex j x hx rfl] at this;exact this
 · intro y hy hp b hb;rcases List.mem_or_eq_of_mem_set hy with hy|rfl
   · exact h.far y hy hp b hb
   · have :=hblk b hb;exact⟨.inr (by omega),fun a ha=>by rw[hg] at ha;cases ha;show b.block≠g;omega⟩
end
end Go.Proofs.YtifnlhfinjfajaaGreatDoor
