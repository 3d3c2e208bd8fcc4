/- Of this seat: LwF. -/
import Derived.Deep.Cut
import Derived.Test.YtifnlhfinjfajaaGreatDoorK28
import Derived.Test.YtifnlhfinjfajaaGreatDoorK33
namespace Go.Proofs.YtifnlhfinjfajaaGreatDoor
set_option linter.unusedVariables false
set_option linter.unusedSimpArgs false
set_option maxRecDepth 100000
set_option maxHeartbeats 32000000
section
open Go.RowKit Go.Shelf
attribute [local go_sem] Oper.semAt_some
structure WlkI (w:World) (l:Lay) (s x:Int) (ss:List Stp) (q:Int×Int) (W:World):Prop where
 below:Below w.heap.size w W
 lay:Whole W w.heap.size 29 l.cells
 res:Whole W (w.heap.size+1) 46 [.int .i64 0,.int .i64 0,.slice none 0 0]
 prt:Whole W (w.heap.size+3) 59 (Zf q)
 row:∃A c,Whole W (w.heap.size+2) 46 [.int .i64 s,.int .i64 x,.slice A ss.length c]∧W.ownsRow (w.heap.size+4) 66 3 (.slice A ss.length c) ss.length (ss.flatMap Ze)
theorem WlkI.keep {w W W':World} {l:Lay} {s x:Int} {ss:List Stp} {q:Int×Int} (h:WlkI w l s x ss q W) (hb:Below W.heap.size W W'):WlkI w l s x ss q W':=
 ⟨h.below.trans (hb.mono h.below.size),h.lay.below hb h.lay.lt,h.res.below hb h.res.lt,h.prt.below hb h.prt.lt,let ⟨A,c,h1,h2⟩:=h.row;⟨A,c,h1.below hb h1.lt,Zh h2 hb⟩⟩
theorem WlkI.port {w W:World} {l:Lay} {s x:Int} {ss:List Stp} {q:Int×Int} (h:WlkI w l s x ss q W) (a b:Int):WlkI w l s x ss (a,b) ((W.setCell ⟨w.heap.size+3,0,none⟩ (.int .i64 a)).setCell ⟨w.heap.size+3,1,none⟩ (.int .i64 b)):=by
 obtain⟨h1,h2,h3,h4,A,c,h5,h6⟩:=h;refine⟨(h1.setCell (p:=⟨w.heap.size+3,0,none⟩) (by show w.heap.size≤w.heap.size+3;omega) _).setCell (p:=⟨w.heap.size+3,1,none⟩) (by show w.heap.size≤w.heap.size+3;omega) _,(h2.far (p:=⟨w.heap.size+3,0,none⟩) (by show w.heap.size≠w.heap.size+3;omega) _).far (p:=⟨w.heap.size+3,1,none⟩) (by show w.heap.size≠w.heap.size+3;omega) _,(h3.far (p:=⟨w.heap.size+3,0,none⟩) (by show w.heap.size+1≠w.heap.size+3;omega) _).far (p:=⟨w.heap.size+3,1,none⟩) (by show w.heap.size+1≠w.heap.size+3;omega) _,(h4.set 0 _).set 1 _,A,c,(h5.far (p:=⟨w.heap.size+3,0,none⟩) (by show w.heap.size+2≠w.heap.size+3;omega) _).far (p:=⟨w.heap.size+3,1,none⟩) (by show w.heap.size+2≠w.heap.size+3;omega) _,?_⟩;have hne:∀b,(Value.slice A ss.length c).ownBlock=some b→b≠w.heap.size+3:=fun b hb e=>by have :=(h6.lt _ hb).1;omega
 refine owns_keeps (S:=fun k=>k≠w.heap.size+3) (fun k o hk ho=>?_) h6 hne;exact(Below.heap_setCell _ ⟨w.heap.size+3,1,none⟩ _ k hk).trans ((Below.heap_setCell W ⟨w.heap.size+3,0,none⟩ _ k hk).trans ho)
theorem WlkI.step {w W:World} {l:Lay} {s x:Int} {ss:List Stp} {q:Int×Int} (h:WlkI w l s x ss q W) (hn:ss.length≤1000) {A:Option Addr} {c:Nat} (hc:W.cell? ⟨w.heap.size+2,2,none⟩=some (.slice A ss.length c)) (e:Stp):
 ∃A2 c2 W3,(Builtin.append_ #[44,44] 44 #[.slice A ss.length c,.slice (some ⟨W.heap.size,0,none⟩) 1 1]).run Tryz.prog (W.alloc (.cells (Ze e).toArray 66))= .ok (.slice A2 (ss.length+1) c2) W3 ∧
  Whole W3 (w.heap.size+2) 46 [.int .i64 s,.int .i64 x,.slice A ss.length c]∧WlkI w l s x (ss++[e]) q (W3.setCell ⟨w.heap.size+2,2,none⟩ (.slice A2 (ss.length+1) c2)):=by
 obtain⟨h1,h2,h3,h4,A0,c0,h5,h6⟩:=h
 have h7:=h5.Za 2 rfl
 rw[hc] at h7
 obtain⟨rfl,rfl⟩:A=A0∧c=c0:=by
  have :=Option.some.inj h7;injection this with e1 e2 e3
  exact⟨e1,e3⟩
 have hb1:=below1 W (.cells (Ze e).toArray 66)
 obtain⟨v',W3,hrun,hown,hB3⟩:=append_step (w.heap.size+4) ss.length (.slice A ss.length c) (ss.flatMap Ze) e (W.alloc (.cells (Ze e).toArray 66)) W.heap.size (Zh h6 hb1) (Whole.new W _ (Ze e)) hn (by have :=h4.lt;simp;omega)
 have hlt3:=h4.lt
 have hw:∀ {g:Nat} {ty:TypeId} {vs:List Value},g<w.heap.size+4→Whole W g ty vs→Whole W3 g ty vs:=fun hg hh=>(hh.below hb1 hh.lt).below hB3 hg
 obtain⟨A2,c2,rfl,_,_⟩:=ownsS_slice hown
 have h5':=hw (by omega) h5
 have hss:(ss++[e]).length=ss.length+1:=by rw[List.length_append];rfl
 have hne:∀b,(Value.slice A2 (ss.length+1) c2).ownBlock=some b→b≠w.heap.size+2:=fun b hb e=>by have :=(hown.lt _ hb).1;omega
 refine⟨A2,c2,W3,hrun,h5',⟨((h1.trans (hb1.mono h1.size)).trans (hB3.mono (by omega))).setCell (p:=⟨w.heap.size+2,2,none⟩) (by show w.heap.size≤w.heap.size+2;omega) _,(hw (by omega) h2).far (p:=⟨w.heap.size+2,2,none⟩) (by show w.heap.size≠w.heap.size+2;omega) _,(hw (by omega) h3).far (p:=⟨w.heap.size+2,2,none⟩) (by show w.heap.size+1≠w.heap.size+2;omega) _,(hw (by omega) h4).far (p:=⟨w.heap.size+2,2,none⟩) (by show w.heap.size+3≠w.heap.size+2;omega) _,A2,c2,?_,?_⟩⟩
 · rw[hss];exact h5'.set 2 _
 · rw[hss,List.flatMap_append];refine owns_keeps (S:=fun k=>k≠w.heap.size+2) (fun k o hk ho=>(Below.heap_setCell _ ⟨w.heap.size+2,2,none⟩ _ k hk).trans ho) ?_ hne;simpa using hown
theorem WlkI.ret {w W:World} {l:Lay} {s x:Int} {ss:List Stp} {q:Int×Int} (h:WlkI w l s x ss q W) {A:Option Addr} {c:Nat} (hc:W.cell? ⟨w.heap.size+2,2,none⟩=some (.slice A ss.length c)):
 ∃W',((W.setCell ⟨w.heap.size+1,0,none⟩ (.int .i64 s)).setCell ⟨w.heap.size+1,1,none⟩ (.int .i64 x)).setCell ⟨w.heap.size+1,2,none⟩ (.slice A ss.length c)=W'∧Whole W' (w.heap.size+1) 46 [.int .i64 s,.int .i64 x,.slice A ss.length c]∧Row W' W'.heap.size A (ss.flatMap Ze)∧Below w.heap.size w W':=by
 obtain⟨h1,h2,h3,h4,A0,c0,h5,h6⟩:=h
 have h7:=h5.Za 2 rfl
 rw[hc] at h7
 obtain⟨rfl,rfl⟩:A=A0∧c=c0:=by
  have :=Option.some.inj h7;injection this with e1 e2 e3
  exact⟨e1,e3⟩
 refine⟨_,rfl,((h3.set 0 _).set 1 _).set 2 _,?_,((h1.setCell (p:=⟨w.heap.size+1,0,none⟩) (by show w.heap.size≤w.heap.size+1;omega) _).setCell (p:=⟨w.heap.size+1,1,none⟩) (by show w.heap.size≤w.heap.size+1;omega) _).setCell (p:=⟨w.heap.size+1,2,none⟩) (by show w.heap.size≤w.heap.size+1;omega) _⟩
 have hne:∀b,(Value.slice A ss.length c).ownBlock=some b→b≠w.heap.size+1:=fun b hb e=>by have :=(h6.lt _ hb).1;omega
 refine owns_row2 (owns_keeps (S:=fun k=>k≠w.heap.size+1) (fun k o hk ho=>?_) h6 hne)
 exact(Below.heap_setCell _ ⟨w.heap.size+1,2,none⟩ _ k hk).trans ((Below.heap_setCell _ ⟨w.heap.size+1,1,none⟩ _ k hk).trans ((Below.heap_setCell W ⟨w.heap.size+1,0,none⟩ _ k hk).trans ho))
def lenAt (b:Nat) (W:World):Nat:=match W.cell? ⟨b,2,none⟩ with
 |some (.slice _ n _)=>n
 |_=>0
theorem lenAt_of {w W:World} {l:Lay} {s x:Int} {ss:List Stp} {q:Int×Int} (h:WlkI w l s x ss q W):lenAt (w.heap.size+2) W=ss.length:=by
 obtain⟨A,c,h1,_⟩:=h.row;unfold lenAt;rw[h1.Za 2 rfl]
def WlkEnd (w:World) (sn xn:Nat) (e:Ending) (w':World):Prop:=∃A c ss r,e= .returned (.tuple #[.agg #[.int .i64 sn,.int .i64 xn,.slice A (List.length ss) c],.bool r])∧Row w' w'.heap.size A (ss.flatMap Ze)∧ss.length≤12∧Below w.heap.size w w'
theorem walked_any {l:Lay} {w:World} (hL:Lies l w) {sn xn:Nat} (hs:sn<l.sigs.length) (hx:xn<l.exits.length) (t:Int):
 Calls Tryz.prog 23 #[l.val,.int .i64 sn,.int .i64 xn,.int .u64 t] w (WlkEnd w sn xn):=by
 obtain⟨g,hg⟩:∃q,l.sigs[sn]? =some q:=⟨_,List.getElem?_eq_getElem hs⟩
 obtain⟨X,hX⟩:∃q,l.exits[xn]? =some q:=⟨_,List.getElem?_eq_getElem hx⟩
 obtain⟨bg,og,HAg,HG0,HG⟩:=row_at (f:=Zf) (n:=2) (fun _=>rfl) (by omega) (Q:=Lies l) (fun W hW=>hW.sigs) hL hg
 obtain⟨bx,ox,HAx,HX0,HX⟩:=row_at (f:=Exm.cells) (n:=3) (fun _=>rfl) (by omega) (Q:=Lies l) (fun W hW=>hW.exits) hL hX
 have hs':(sn:Int)<l.sigs.length:=by omega
 have hx':(xn:Int)<l.exits.length:=by omega
 have HGC:Hid (∀W,Lies l W→W.cell? ⟨bg,og+sn*2,none⟩=some (.int .i64 g.1)∧W.cell? ⟨bg,og+sn*2+1,none⟩=some (.int .i64 g.2)):=Zz fun W hW=>⟨HG0.out W hW _ _ _ hg rfl,HG.out W hW _ _ 1 _ hg rfl⟩
 have HXC:Hid (∀W,Lies l W→W.cell? ⟨bx,ox+xn*3,none⟩=some (.int .i64 X.s)∧W.cell? ⟨bx,ox+xn*3+1,none⟩=some (.int .i64 X.q)):=Zz fun W hW=>⟨HX0.out W hW _ _ _ hX rfl,HX.out W hW _ _ 1 _ hX rfl⟩
 have HLW:Hid (∀W,Below w.heap.size w W→Lies l W):=Zz fun W hW=>Lies.closed l _ _ hL hW
 clear HG0 HG HX0 HX hg hX hL
 go_enter Tryz.func23,Tryz.ntmps23
 go_upto_region 2 with (fail)
 obtain⟨w3,hw3⟩:∃W,((w.alloc (.cells #[.slice l.As l.secs.length l.cs,.slice l.Ag l.sigs.length l.cg,.slice l.Ae l.exits.length l.ce,.slice l.Af l.flanks.length l.cf,.int .i64 l.t0,.int .i64 l.t1,.int .i64 l.t2,.int .i64 l.t3,.int .i64 l.t4,.int .i64 l.t5,.int .i64 l.t6] 29)).alloc (.cells #[.int .i64 0,.int .i64 0,.slice none 0 0] 46)).alloc (.cells #[.int .i64 sn,.int .i64 xn,.slice none 0 0] 46)=W:=⟨_,rfl⟩
 have HW3:Hid (w3.heap.size=w.heap.size+3∧Below w.heap.size w w3∧Whole w3 w.heap.size 29 l.cells∧Whole w3 (w.heap.size+1) 46 [.int .i64 0,.int .i64 0,.slice none 0 0]∧Whole w3 (w.heap.size+2) 46 [.int .i64 sn,.int .i64 xn,.slice none 0 0]):=Zz (by
  rw[←hw3];exact⟨by simp,below3 w _ _ _,((Whole.new w _ l.cells).alloc _).alloc _,(Whole.Zj _ _ [_,_,_] _ (by simp)).alloc _,Whole.Zj _ _ [_,_,_] _ (by simp)⟩)
 try rw[hw3]
 clear hw3
 have HI0:Hid (WlkI w l sn xn [] g (w3.alloc (.cells #[.int .i64 g.1,.int .i64 g.2] 59))):=Zz (by
  obtain⟨h1,h2,h3,h4,h5⟩:=HW3.out;exact⟨h2.alloc h2.size _,h3.alloc _,h4.alloc _,Whole.Zj _ _ (Zf g) _ h1.symm,none,0,h5.alloc _,World.ownsRow_nil _ _ _ _⟩)
 have x1:=HW3.out.2.2.1.Za 1 rfl
 obtain⟨g0,g1⟩:=HGC.out _ (HLW.out _ HW3.out.2.1)
 have hA:=HAg.out
 rw[hA] at x1
 have hsz:=HW3.out.1
 have hsz1:w3.heap.size=w.heap.size+3:=hsz
 clear hA
 go_wp2_with fail
 clear x1 g0 g1 hsz hsz1
 rw[show w.heap.size+1+1=w.heap.size+2 from rfl]
 go_loopw [3] (fun v3 wr=>∃(t:Int) (ss:List Stp) (q:Int×Int),v3= .int .u64 t∧ss.length≤12∧Hid (WlkI w l sn xn ss q wr))
  (fun _ wr=>12 - lenAt (w.heap.size+2) wr)
 case atStart=>exact⟨t,[],g,rfl,by simp,HI0⟩
 case round=>
  clear HI0 HW3;obtain⟨t,ss,⟨q1,q2⟩,rfl,hss,HI⟩:=hrel;have HLA:=Zz (lenAt_of HI.out);obtain⟨A,c,hv,_⟩:=HI.out.row;obtain⟨y0,y1,y2⟩:=hv.c3;clear hv;obtain⟨wa,rfl⟩:∃W,W=wr:=⟨wr,rfl⟩;by_cases h12:ss.length<12
  · have h12':(ss.length:Int)<12:=by omega
    obtain⟨x0,x1,x2,x3,x4,x5,x6,x7,x8,x9,x10⟩:=(HI.out.lay).c11;obtain⟨z0,z1⟩:=(HI.out.prt).c2;obtain⟨sec,hsec⟩:∃x,atV l q1 q2=x:=⟨_,rfl⟩;obtain⟨r,hr⟩:∃r,Zp l q1 q2=r:=⟨_,rfl⟩;have KA:=Zz (atR_P (P:=fun W=>Below wa.heap.size wa W) (w:=wa) (Closed.below wa) (fun W hW=>HLW.out W (HI.out.below.trans (hW.mono HI.out.below.size))) q1 q2 hsec hr (Below.refl _ _));clear hsec hr;go_wp2_with fail;refine KA.out.mono ?_;rintro e w1 ⟨rfl,hB1⟩;have HI1:=Zz (HI.out.keep hB1);clear KA x0 x1 x2 x3 x4 x5 x6 x7 x8 x9 x10 y0 y1 y2 z0 z1 hB1;go_upto_region 5 with (fail)
    obtain⟨w2,hw2⟩:∃W,w1.alloc (.cells #[.int .u8 sec.k,.int .i64 sec.s0,.int .i64 sec.q0,.int .i64 sec.s1,.int .i64 sec.q1,.int .i64 sec.s2,.int .i64 sec.q2,.int .i64 sec.s3,.int .i64 sec.q3,.int .i64 sec.c0,.int .i64 sec.c1] 63)=W:=⟨_,rfl⟩;have HI2:Hid (WlkI w l sn xn ss (q1,q2) w2):=Zz (by rw[←hw2];exact HI1.out.keep (below1 _ _));have HSE:Hid (Whole w2 w1.heap.size 63 sec.cells):=Zz (by rw[←hw2];exact Whole.new w1 _ sec.cells);try rw[hw2]
    clear hw2 HI1;obtain⟨gs,HGS⟩:∃n,Hid (w1.heap.size=n):=⟨_,Zz rfl⟩;rw[HGS.out] at HSE ⊢;clear HGS;cases r
    · skip
      obtain⟨A,c,hv,_⟩:=HI2.out.row;obtain⟨y0,y1,y2⟩:=hv.c3;clear hv;obtain⟨wz,hwz,hz1,hz2,hz3⟩:=HI2.out.ret y2;have HZ:=Zz (And.intro hwz (And.intro hz1 (And.intro hz2 (And.intro hz3 hss))));clear hwz hz1 hz2 hz3;obtain⟨z0,z1,z2⟩:=(HI2.out.res).c3;have f0:=HI2.out.res.frozen 0;have f1:=HI2.out.res.frozen 1;have f2:=HI2.out.res.frozen 2;go_wp2_with fail;rw[HZ.out.1];have e0:=HZ.out.2.1.Za 0 rfl;have e1:=HZ.out.2.1.Za 1 rfl;have e2:=HZ.out.2.1.Za 2 rfl;refine bodyPost_ret (v:=.tuple #[.agg #[.int .i64 sn,.int .i64 xn,.slice A (List.length ss) c],.bool false]) ?_ rfl ⟨A,c,ss,_,rfl,HZ.out.2.2.1,HZ.out.2.2.2.2,HZ.out.2.2.2.1⟩;simp[results,Tryz.f23,go_sem,e0,e1,e2]
    have s0:=HSE.out.Za 0 rfl;obtain⟨z0,z1⟩:=(HI2.out.prt).c2;by_cases k2:sec.k=2
    · rw[k2] at s0;by_cases p0:q2=0
      · subst p0;go_upto_region 15 with (fail)
        generalize wrap64 (1+wrap64 (bits BinOp.and IntKind.u64 t 1))=o;generalize t/2=t2;clear s0 z0 z1;obtain⟨A,c,hv,_⟩:=HI2.out.row;obtain⟨y0,y1,y2⟩:=hv.c3;clear hv;obtain⟨z0,z1⟩:=(HI2.out.prt).c2;obtain⟨A2,c2,w4,hrun,hw4,hI5⟩:=HI2.out.step (by omega) y2 (q1,0,o);obtain⟨us,hus⟩:∃us,ss++[(q1,0,o)]=us:=⟨_,rfl⟩;have HUL:Hid (us.length=ss.length+1):=Zz (by rw[←hus,List.length_append];rfl);rw[hus] at hI5;obtain⟨w5,hw5⟩:∃W,w4.setCell ⟨w.heap.size+2,2,none⟩ (.slice A2 (ss.length+1) c2)=W:=⟨_,rfl⟩;rw[hw5] at hI5;have HI5:=Zz hI5;have HW5:=Zz hw5;have u2:=hw4.Za 2 rfl;have f2:=hw4.frozen 2;clear hus hI5 hw5 hw4;go_upto_region 16 with (at_builtin;refine Zo rfl (.tmp 73) (.tmp 80) 44 rfl hrun ?_)
        try rw[HW5.out]
        clear hrun u2 f2 y0 y1 y2 z0 z1 HW5;obtain⟨z0,z1⟩:=(HI5.out.prt).c2;go_upto_region 17 with (fail)
        obtain⟨w6,hw6⟩:∃W,w5.alloc (.cells #[.int .i64 q1,.int .i64 o] 59)=W:=⟨_,rfl⟩;have HI6:Hid (WlkI w l sn xn us (q1,0) w6):=Zz (by rw[←hw6];exact HI5.out.keep (below1 _ _));have HHE:Hid (Whole w6 w5.heap.size 59 (Zf (q1,o))):=Zz (by rw[←hw6];exact Whole.new w5 _ (Zf (q1,o)));try rw[hw6]
        clear hw6 HI5 z0 z1;obtain⟨gh,HGH⟩:∃n,Hid (w5.heap.size=n):=⟨_,Zz rfl⟩;rw[HGH.out] at HHE ⊢;clear HGH;obtain⟨Q,HQ,HQ6,hq⟩:∃Q:World→Prop,Hid (Closed Q)∧Hid (∀W,Q W→Below w6.heap.size w6 W)∧Q w6:=⟨Below w6.heap.size w6,Zz (Closed.below _),Zz fun _ h=>h,Below.refl _ _⟩;have HF:Hid (∀W,Q W→(W.cell? ⟨bx,ox+xn*3,none⟩=some (.int .i64 X.s)∧W.cell? ⟨bx,ox+xn*3+1,none⟩=some (.int .i64 X.q))∧Whole W gh 59 (Zf (q1,o))∧Whole W w.heap.size 29 l.cells):=Zz fun W hW=>⟨HXC.out W (HLW.out W (HI6.out.below.trans ((HQ6.out W hW).mono HI6.out.below.size))),HHE.out.below (HQ6.out W hW) HHE.out.lt,HI6.out.lay.below (HQ6.out W hW) HI6.out.lay.lt⟩;obtain⟨d,hd⟩:∃d,decide ((q1,o)=(X.s,X.q))=d:=⟨_,rfl⟩;have HEQ:Hid (∀W,(binOp .eql 59 (prtV q1 o) (prtV X.s X.q)).run Tryz.prog W= .ok (.bool d) W):=Zz fun W=>by rw[eql_prtD,hd]
        clear hd;go_wp2_with fail;have HBS:Hid (∀W,Below w6.heap.size w6 W→Q W):=Zz (fun W hB=>HQ.out _ _ hq hB);clear hq;refine rmx w6 f8 (by kernel_rfl) (by kernel_rfl) ?_;simp only[Zg,f8,Lm,Ln];repeat ((first|(refine Zb (by rfl) ?_)|(refine mrd HBS _ (by rfl) (fun W hW=>by(obtain⟨⟨c0,c1⟩,m1,m2⟩:=HF.out W hW;obtain⟨d0,d1⟩:=m1.c2;have x2:=m2.Za 2 rfl;have heq:=HEQ.out;clear m1 m2;go_simp;first|done|with_reducible rfl)) ?_)|(refine mrd HBS _ (by rfl) (fun W hW=>by(obtain⟨⟨c0,c1⟩,m1,m2⟩:=HF.out W hW;obtain⟨d0,d1⟩:=m1.c2;have x2:=m2.Za 2 rfl;have heq:=HEQ.out;clear m1 m2;rw[HAx.out];go_simp;first|done|with_reducible rfl)) ?_));simp only[Act.put,La,Lb,Lc])
        refine Zd (fun W hW=>?_);have hq:=HBS.out W hW;have HBW:=Zz hW;clear hW HBS;have HI7:Hid (WlkI w l sn xn us (q1,0) W):=Zz (HI6.out.keep (HQ6.out _ hq));have HHE7:Hid (Whole W gh 59 (Zf (q1,o))):=Zz (HF.out W hq).2.1;clear HBW hq HI6 HHE HF HEQ;have hul:us.length≤12:=by have :=HUL.out;omega
        cases d;rotate_left
        · skip
          obtain⟨A,c,hv,_⟩:=HI7.out.row;obtain⟨y0,y1,y2⟩:=hv.c3;clear hv;obtain⟨wz,hwz,hz1,hz2,hz3⟩:=HI7.out.ret y2;have HZ:=Zz (And.intro hwz (And.intro hz1 (And.intro hz2 (And.intro hz3 hul))));clear hwz hz1 hz2 hz3;obtain⟨z0,z1,z2⟩:=(HI7.out.res).c3;have f0:=HI7.out.res.frozen 0;have f1:=HI7.out.res.frozen 1;have f2:=HI7.out.res.frozen 2;go_wp2_with fail;rw[HZ.out.1];have e0:=HZ.out.2.1.Za 0 rfl;have e1:=HZ.out.2.1.Za 1 rfl;have e2:=HZ.out.2.1.Za 2 rfl;refine bodyPost_ret (v:=.tuple #[.agg #[.int .i64 sn,.int .i64 xn,.slice A (List.length us) c],.bool true]) ?_ rfl ⟨A,c,us,_,rfl,HZ.out.2.2.1,HZ.out.2.2.2.2,HZ.out.2.2.2.1⟩;simp[results,Tryz.f23,go_sem,e0,e1,e2]
        obtain⟨x0,x1,x2,x3,x4,x5,x6,x7,x8,x9,x10⟩:=(HI7.out.lay).c11;obtain⟨z0,z1⟩:=(HHE7.out).c2;obtain⟨⟨n1,n2⟩,hbv⟩:∃q,Zt l q1 o=q:=⟨_,rfl⟩;have KB:=Zz (beyondJ_B (w:=W) (HLW.out W HI7.out.below) q1 o hbv);clear hbv;go_wp2_with fail;refine KB.out.mono ?_;rintro e w8 ⟨rfl,hB8⟩;have HI8:=Zz (HI7.out.keep hB8);clear KB HI7 HHE7 x0 x1 x2 x3 x4 x5 x6 x7 x8 x9 x10 z0 z1 hB8;obtain⟨z0,z1⟩:=(HI8.out.prt).c2;have f0:=HI8.out.prt.frozen 0;have f1:=HI8.out.prt.frozen 1;go_wp2_with fail;have HI9:=Zz (HI8.out.port n1 n2);have HL9:=Zz (lenAt_of HI9.out);go_roundw
        case rel=>exact⟨_,us,(n1,n2),rfl,by omega,HI9⟩
        case measure=>have hul2:=HUL.out;rw[HL9.out,HLA.out];omega
      · have e1:(q2==0)=false:=beq_false_of_ne p0;go_upto_region 15 with (fail)
        clear s0 z0 z1;obtain⟨A,c,hv,_⟩:=HI2.out.row;obtain⟨y0,y1,y2⟩:=hv.c3;clear hv;obtain⟨z0,z1⟩:=(HI2.out.prt).c2;obtain⟨A2,c2,w4,hrun,hw4,hI5⟩:=HI2.out.step (by omega) y2 (q1,q2,0);obtain⟨us,hus⟩:∃us,ss++[(q1,q2,0)]=us:=⟨_,rfl⟩;have HUL:Hid (us.length=ss.length+1):=Zz (by rw[←hus,List.length_append];rfl);rw[hus] at hI5;obtain⟨w5,hw5⟩:∃W,w4.setCell ⟨w.heap.size+2,2,none⟩ (.slice A2 (ss.length+1) c2)=W:=⟨_,rfl⟩;rw[hw5] at hI5;have HI5:=Zz hI5;have HW5:=Zz hw5;have u2:=hw4.Za 2 rfl;have f2:=hw4.frozen 2;clear hus hI5 hw5 hw4;go_upto_region 16 with (at_builtin;refine Zo rfl (.tmp 73) (.tmp 80) 44 rfl hrun ?_)
        try rw[HW5.out]
        clear hrun u2 f2 y0 y1 y2 z0 z1 HW5;obtain⟨z0,z1⟩:=(HI5.out.prt).c2;go_upto_region 17 with (fail)
        obtain⟨w6,hw6⟩:∃W,w5.alloc (.cells #[.int .i64 q1,.int .i64 0] 59)=W:=⟨_,rfl⟩;have HI6:Hid (WlkI w l sn xn us (q1,q2) w6):=Zz (by rw[←hw6];exact HI5.out.keep (below1 _ _));have HHE:Hid (Whole w6 w5.heap.size 59 (Zf (q1,0))):=Zz (by rw[←hw6];exact Whole.new w5 _ (Zf (q1,0)));try rw[hw6]
        clear hw6 HI5 z0 z1;obtain⟨gh,HGH⟩:∃n,Hid (w5.heap.size=n):=⟨_,Zz rfl⟩;rw[HGH.out] at HHE ⊢;clear HGH;obtain⟨Q,HQ,HQ6,hq⟩:∃Q:World→Prop,Hid (Closed Q)∧Hid (∀W,Q W→Below w6.heap.size w6 W)∧Q w6:=⟨Below w6.heap.size w6,Zz (Closed.below _),Zz fun _ h=>h,Below.refl _ _⟩;have HF:Hid (∀W,Q W→(W.cell? ⟨bx,ox+xn*3,none⟩=some (.int .i64 X.s)∧W.cell? ⟨bx,ox+xn*3+1,none⟩=some (.int .i64 X.q))∧Whole W gh 59 (Zf (q1,0))∧Whole W w.heap.size 29 l.cells):=Zz fun W hW=>⟨HXC.out W (HLW.out W (HI6.out.below.trans ((HQ6.out W hW).mono HI6.out.below.size))),HHE.out.below (HQ6.out W hW) HHE.out.lt,HI6.out.lay.below (HQ6.out W hW) HI6.out.lay.lt⟩;obtain⟨d,hd⟩:∃d,decide ((q1,0)=(X.s,X.q))=d:=⟨_,rfl⟩;have HEQ:Hid (∀W,(binOp .eql 59 (prtV q1 0) (prtV X.s X.q)).run Tryz.prog W= .ok (.bool d) W):=Zz fun W=>by rw[eql_prtD,hd]
        clear hd;go_wp2_with fail;have HBS:Hid (∀W,Below w6.heap.size w6 W→Q W):=Zz (fun W hB=>HQ.out _ _ hq hB);clear hq;refine rmx w6 f8 (by kernel_rfl) (by kernel_rfl) ?_;simp only[Zg,f8,Lm,Ln];repeat ((first|(refine Zb (by rfl) ?_)|(refine mrd HBS _ (by rfl) (fun W hW=>by(obtain⟨⟨c0,c1⟩,m1,m2⟩:=HF.out W hW;obtain⟨d0,d1⟩:=m1.c2;have x2:=m2.Za 2 rfl;have heq:=HEQ.out;clear m1 m2;go_simp;first|done|with_reducible rfl)) ?_)|(refine mrd HBS _ (by rfl) (fun W hW=>by(obtain⟨⟨c0,c1⟩,m1,m2⟩:=HF.out W hW;obtain⟨d0,d1⟩:=m1.c2;have x2:=m2.Za 2 rfl;have heq:=HEQ.out;clear m1 m2;rw[HAx.out];go_simp;first|done|with_reducible rfl)) ?_));simp only[Act.put,La,Lb,Lc])
        refine Zd (fun W hW=>?_);have hq:=HBS.out W hW;have HBW:=Zz hW;clear hW HBS;have HI7:Hid (WlkI w l sn xn us (q1,q2) W):=Zz (HI6.out.keep (HQ6.out _ hq));have HHE7:Hid (Whole W gh 59 (Zf (q1,0))):=Zz (HF.out W hq).2.1;clear HBW hq HI6 HHE HF HEQ;have hul:us.length≤12:=by have :=HUL.out;omega
        cases d;rotate_left
        · skip
          obtain⟨A,c,hv,_⟩:=HI7.out.row;obtain⟨y0,y1,y2⟩:=hv.c3;clear hv;obtain⟨wz,hwz,hz1,hz2,hz3⟩:=HI7.out.ret y2;have HZ:=Zz (And.intro hwz (And.intro hz1 (And.intro hz2 (And.intro hz3 hul))));clear hwz hz1 hz2 hz3;obtain⟨z0,z1,z2⟩:=(HI7.out.res).c3;have f0:=HI7.out.res.frozen 0;have f1:=HI7.out.res.frozen 1;have f2:=HI7.out.res.frozen 2;go_wp2_with fail;rw[HZ.out.1];have e0:=HZ.out.2.1.Za 0 rfl;have e1:=HZ.out.2.1.Za 1 rfl;have e2:=HZ.out.2.1.Za 2 rfl;refine bodyPost_ret (v:=.tuple #[.agg #[.int .i64 sn,.int .i64 xn,.slice A (List.length us) c],.bool true]) ?_ rfl ⟨A,c,us,_,rfl,HZ.out.2.2.1,HZ.out.2.2.2.2,HZ.out.2.2.2.1⟩;simp[results,Tryz.f23,go_sem,e0,e1,e2]
        obtain⟨x0,x1,x2,x3,x4,x5,x6,x7,x8,x9,x10⟩:=(HI7.out.lay).c11;obtain⟨z0,z1⟩:=(HHE7.out).c2;obtain⟨⟨n1,n2⟩,hbv⟩:∃q,Zt l q1 0=q:=⟨_,rfl⟩;have KB:=Zz (beyondJ_B (w:=W) (HLW.out W HI7.out.below) q1 0 hbv);clear hbv;go_wp2_with fail;refine KB.out.mono ?_;rintro e w8 ⟨rfl,hB8⟩;have HI8:=Zz (HI7.out.keep hB8);clear KB HI7 HHE7 x0 x1 x2 x3 x4 x5 x6 x7 x8 x9 x10 z0 z1 hB8;obtain⟨z0,z1⟩:=(HI8.out.prt).c2;have f0:=HI8.out.prt.frozen 0;have f1:=HI8.out.prt.frozen 1;go_wp2_with fail;have HI9:=Zz (HI8.out.port n1 n2);have HL9:=Zz (lenAt_of HI9.out);go_roundw
        case rel=>exact⟨_,us,(n1,n2),rfl,by omega,HI9⟩
        case measure=>have hul2:=HUL.out;rw[HL9.out,HLA.out];omega
    · have e0:(sec.k==2)=false:=beq_false_of_ne k2;have e0':(sec.k != 2)=true:=by simp[k2]
      by_cases k3:sec.k=3∧2≤q2
      · obtain⟨k3,p2⟩:=k3;rw[k3] at s0;go_upto_region 15 with (fail)
        generalize wrap64 (5 - q2)=o;clear s0 z0 z1;obtain⟨A,c,hv,_⟩:=HI2.out.row;obtain⟨y0,y1,y2⟩:=hv.c3;clear hv;obtain⟨z0,z1⟩:=(HI2.out.prt).c2;obtain⟨A2,c2,w4,hrun,hw4,hI5⟩:=HI2.out.step (by omega) y2 (q1,q2,o);obtain⟨us,hus⟩:∃us,ss++[(q1,q2,o)]=us:=⟨_,rfl⟩;have HUL:Hid (us.length=ss.length+1):=Zz (by rw[←hus,List.length_append];rfl);rw[hus] at hI5;obtain⟨w5,hw5⟩:∃W,w4.setCell ⟨w.heap.size+2,2,none⟩ (.slice A2 (ss.length+1) c2)=W:=⟨_,rfl⟩;rw[hw5] at hI5;have HI5:=Zz hI5;have HW5:=Zz hw5;have u2:=hw4.Za 2 rfl;have f2:=hw4.frozen 2;clear hus hI5 hw5 hw4;go_upto_region 16 with (at_builtin;refine Zo rfl (.tmp 73) (.tmp 80) 44 rfl hrun ?_)
        try rw[HW5.out]
        clear hrun u2 f2 y0 y1 y2 z0 z1 HW5;obtain⟨z0,z1⟩:=(HI5.out.prt).c2;go_upto_region 17 with (fail)
        obtain⟨w6,hw6⟩:∃W,w5.alloc (.cells #[.int .i64 q1,.int .i64 o] 59)=W:=⟨_,rfl⟩;have HI6:Hid (WlkI w l sn xn us (q1,q2) w6):=Zz (by rw[←hw6];exact HI5.out.keep (below1 _ _));have HHE:Hid (Whole w6 w5.heap.size 59 (Zf (q1,o))):=Zz (by rw[←hw6];exact Whole.new w5 _ (Zf (q1,o)));try rw[hw6]
        clear hw6 HI5 z0 z1;obtain⟨gh,HGH⟩:∃n,Hid (w5.heap.size=n):=⟨_,Zz rfl⟩;rw[HGH.out] at HHE ⊢;clear HGH;obtain⟨Q,HQ,HQ6,hq⟩:∃Q:World→Prop,Hid (Closed Q)∧Hid (∀W,Q W→Below w6.heap.size w6 W)∧Q w6:=⟨Below w6.heap.size w6,Zz (Closed.below _),Zz fun _ h=>h,Below.refl _ _⟩;have HF:Hid (∀W,Q W→(W.cell? ⟨bx,ox+xn*3,none⟩=some (.int .i64 X.s)∧W.cell? ⟨bx,ox+xn*3+1,none⟩=some (.int .i64 X.q))∧Whole W gh 59 (Zf (q1,o))∧Whole W w.heap.size 29 l.cells):=Zz fun W hW=>⟨HXC.out W (HLW.out W (HI6.out.below.trans ((HQ6.out W hW).mono HI6.out.below.size))),HHE.out.below (HQ6.out W hW) HHE.out.lt,HI6.out.lay.below (HQ6.out W hW) HI6.out.lay.lt⟩;obtain⟨d,hd⟩:∃d,decide ((q1,o)=(X.s,X.q))=d:=⟨_,rfl⟩;have HEQ:Hid (∀W,(binOp .eql 59 (prtV q1 o) (prtV X.s X.q)).run Tryz.prog W= .ok (.bool d) W):=Zz fun W=>by rw[eql_prtD,hd]
        clear hd;go_wp2_with fail;have HBS:Hid (∀W,Below w6.heap.size w6 W→Q W):=Zz (fun W hB=>HQ.out _ _ hq hB);clear hq;refine rmx w6 f8 (by kernel_rfl) (by kernel_rfl) ?_;simp only[Zg,f8,Lm,Ln];repeat ((first|(refine Zb (by rfl) ?_)|(refine mrd HBS _ (by rfl) (fun W hW=>by(obtain⟨⟨c0,c1⟩,m1,m2⟩:=HF.out W hW;obtain⟨d0,d1⟩:=m1.c2;have x2:=m2.Za 2 rfl;have heq:=HEQ.out;clear m1 m2;go_simp;first|done|with_reducible rfl)) ?_)|(refine mrd HBS _ (by rfl) (fun W hW=>by(obtain⟨⟨c0,c1⟩,m1,m2⟩:=HF.out W hW;obtain⟨d0,d1⟩:=m1.c2;have x2:=m2.Za 2 rfl;have heq:=HEQ.out;clear m1 m2;rw[HAx.out];go_simp;first|done|with_reducible rfl)) ?_));simp only[Act.put,La,Lb,Lc])
        refine Zd (fun W hW=>?_);have hq:=HBS.out W hW;have HBW:=Zz hW;clear hW HBS;have HI7:Hid (WlkI w l sn xn us (q1,q2) W):=Zz (HI6.out.keep (HQ6.out _ hq));have HHE7:Hid (Whole W gh 59 (Zf (q1,o))):=Zz (HF.out W hq).2.1;clear HBW hq HI6 HHE HF HEQ;have hul:us.length≤12:=by have :=HUL.out;omega
        cases d;rotate_left
        · skip
          obtain⟨A,c,hv,_⟩:=HI7.out.row;obtain⟨y0,y1,y2⟩:=hv.c3;clear hv;obtain⟨wz,hwz,hz1,hz2,hz3⟩:=HI7.out.ret y2;have HZ:=Zz (And.intro hwz (And.intro hz1 (And.intro hz2 (And.intro hz3 hul))));clear hwz hz1 hz2 hz3;obtain⟨z0,z1,z2⟩:=(HI7.out.res).c3;have f0:=HI7.out.res.frozen 0;have f1:=HI7.out.res.frozen 1;have f2:=HI7.out.res.frozen 2;go_wp2_with fail;rw[HZ.out.1];have e0:=HZ.out.2.1.Za 0 rfl;have e1:=HZ.out.2.1.Za 1 rfl;have e2:=HZ.out.2.1.Za 2 rfl;refine bodyPost_ret (v:=.tuple #[.agg #[.int .i64 sn,.int .i64 xn,.slice A (List.length us) c],.bool true]) ?_ rfl ⟨A,c,us,_,rfl,HZ.out.2.2.1,HZ.out.2.2.2.2,HZ.out.2.2.2.1⟩;simp[results,Tryz.f23,go_sem,e0,e1,e2]
        obtain⟨x0,x1,x2,x3,x4,x5,x6,x7,x8,x9,x10⟩:=(HI7.out.lay).c11;obtain⟨z0,z1⟩:=(HHE7.out).c2;obtain⟨⟨n1,n2⟩,hbv⟩:∃q,Zt l q1 o=q:=⟨_,rfl⟩;have KB:=Zz (beyondJ_B (w:=W) (HLW.out W HI7.out.below) q1 o hbv);clear hbv;go_wp2_with fail;refine KB.out.mono ?_;rintro e w8 ⟨rfl,hB8⟩;have HI8:=Zz (HI7.out.keep hB8);clear KB HI7 HHE7 x0 x1 x2 x3 x4 x5 x6 x7 x8 x9 x10 z0 z1 hB8;obtain⟨z0,z1⟩:=(HI8.out.prt).c2;have f0:=HI8.out.prt.frozen 0;have f1:=HI8.out.prt.frozen 1;go_wp2_with fail;have HI9:=Zz (HI8.out.port n1 n2);have HL9:=Zz (lenAt_of HI9.out);go_roundw
        case rel=>exact⟨_,us,(n1,n2),rfl,by omega,HI9⟩
        case measure=>have hul2:=HUL.out;rw[HL9.out,HLA.out];omega
      · by_cases k4:sec.k=3
        · have p2:decide (2≤q2)=false:=decide_eq_false (fun h=>k3 ⟨k4,h⟩);rw[k4] at s0;go_upto_region 15 with (fail)
          generalize wrap64 (1 - q2)=o;clear s0 z0 z1;obtain⟨A,c,hv,_⟩:=HI2.out.row;obtain⟨y0,y1,y2⟩:=hv.c3;clear hv;obtain⟨z0,z1⟩:=(HI2.out.prt).c2;obtain⟨A2,c2,w4,hrun,hw4,hI5⟩:=HI2.out.step (by omega) y2 (q1,q2,o);obtain⟨us,hus⟩:∃us,ss++[(q1,q2,o)]=us:=⟨_,rfl⟩;have HUL:Hid (us.length=ss.length+1):=Zz (by rw[←hus,List.length_append];rfl);rw[hus] at hI5;obtain⟨w5,hw5⟩:∃W,w4.setCell ⟨w.heap.size+2,2,none⟩ (.slice A2 (ss.length+1) c2)=W:=⟨_,rfl⟩;rw[hw5] at hI5;have HI5:=Zz hI5;have HW5:=Zz hw5;have u2:=hw4.Za 2 rfl;have f2:=hw4.frozen 2;clear hus hI5 hw5 hw4;go_upto_region 16 with (at_builtin;refine Zo rfl (.tmp 73) (.tmp 80) 44 rfl hrun ?_)
          try rw[HW5.out]
          clear hrun u2 f2 y0 y1 y2 z0 z1 HW5;obtain⟨z0,z1⟩:=(HI5.out.prt).c2;go_upto_region 17 with (fail)
          obtain⟨w6,hw6⟩:∃W,w5.alloc (.cells #[.int .i64 q1,.int .i64 o] 59)=W:=⟨_,rfl⟩;have HI6:Hid (WlkI w l sn xn us (q1,q2) w6):=Zz (by rw[←hw6];exact HI5.out.keep (below1 _ _));have HHE:Hid (Whole w6 w5.heap.size 59 (Zf (q1,o))):=Zz (by rw[←hw6];exact Whole.new w5 _ (Zf (q1,o)));try rw[hw6]
          clear hw6 HI5 z0 z1;obtain⟨gh,HGH⟩:∃n,Hid (w5.heap.size=n):=⟨_,Zz rfl⟩;rw[HGH.out] at HHE ⊢;clear HGH;obtain⟨Q,HQ,HQ6,hq⟩:∃Q:World→Prop,Hid (Closed Q)∧Hid (∀W,Q W→Below w6.heap.size w6 W)∧Q w6:=⟨Below w6.heap.size w6,Zz (Closed.below _),Zz fun _ h=>h,Below.refl _ _⟩;have HF:Hid (∀W,Q W→(W.cell? ⟨bx,ox+xn*3,none⟩=some (.int .i64 X.s)∧W.cell? ⟨bx,ox+xn*3+1,none⟩=some (.int .i64 X.q))∧Whole W gh 59 (Zf (q1,o))∧Whole W w.heap.size 29 l.cells):=Zz fun W hW=>⟨HXC.out W (HLW.out W (HI6.out.below.trans ((HQ6.out W hW).mono HI6.out.below.size))),HHE.out.below (HQ6.out W hW) HHE.out.lt,HI6.out.lay.below (HQ6.out W hW) HI6.out.lay.lt⟩;obtain⟨d,hd⟩:∃d,decide ((q1,o)=(X.s,X.q))=d:=⟨_,rfl⟩;have HEQ:Hid (∀W,(binOp .eql 59 (prtV q1 o) (prtV X.s X.q)).run Tryz.prog W= .ok (.bool d) W):=Zz fun W=>by rw[eql_prtD,hd]
          clear hd;go_wp2_with fail;have HBS:Hid (∀W,Below w6.heap.size w6 W→Q W):=Zz (fun W hB=>HQ.out _ _ hq hB);clear hq;refine rmx w6 f8 (by kernel_rfl) (by kernel_rfl) ?_;simp only[Zg,f8,Lm,Ln];repeat ((first|(refine Zb (by rfl) ?_)|(refine mrd HBS _ (by rfl) (fun W hW=>by(obtain⟨⟨c0,c1⟩,m1,m2⟩:=HF.out W hW;obtain⟨d0,d1⟩:=m1.c2;have x2:=m2.Za 2 rfl;have heq:=HEQ.out;clear m1 m2;go_simp;first|done|with_reducible rfl)) ?_)|(refine mrd HBS _ (by rfl) (fun W hW=>by(obtain⟨⟨c0,c1⟩,m1,m2⟩:=HF.out W hW;obtain⟨d0,d1⟩:=m1.c2;have x2:=m2.Za 2 rfl;have heq:=HEQ.out;clear m1 m2;rw[HAx.out];go_simp;first|done|with_reducible rfl)) ?_));simp only[Act.put,La,Lb,Lc])
          refine Zd (fun W hW=>?_);have hq:=HBS.out W hW;have HBW:=Zz hW;clear hW HBS;have HI7:Hid (WlkI w l sn xn us (q1,q2) W):=Zz (HI6.out.keep (HQ6.out _ hq));have HHE7:Hid (Whole W gh 59 (Zf (q1,o))):=Zz (HF.out W hq).2.1;clear HBW hq HI6 HHE HF HEQ;have hul:us.length≤12:=by have :=HUL.out;omega
          cases d;rotate_left
          · skip
            obtain⟨A,c,hv,_⟩:=HI7.out.row;obtain⟨y0,y1,y2⟩:=hv.c3;clear hv;obtain⟨wz,hwz,hz1,hz2,hz3⟩:=HI7.out.ret y2;have HZ:=Zz (And.intro hwz (And.intro hz1 (And.intro hz2 (And.intro hz3 hul))));clear hwz hz1 hz2 hz3;obtain⟨z0,z1,z2⟩:=(HI7.out.res).c3;have f0:=HI7.out.res.frozen 0;have f1:=HI7.out.res.frozen 1;have f2:=HI7.out.res.frozen 2;go_wp2_with fail;rw[HZ.out.1];have e0:=HZ.out.2.1.Za 0 rfl;have e1:=HZ.out.2.1.Za 1 rfl;have e2:=HZ.out.2.1.Za 2 rfl;refine bodyPost_ret (v:=.tuple #[.agg #[.int .i64 sn,.int .i64 xn,.slice A (List.length us) c],.bool true]) ?_ rfl ⟨A,c,us,_,rfl,HZ.out.2.2.1,HZ.out.2.2.2.2,HZ.out.2.2.2.1⟩;simp[results,Tryz.f23,go_sem,e0,e1,e2]
          obtain⟨x0,x1,x2,x3,x4,x5,x6,x7,x8,x9,x10⟩:=(HI7.out.lay).c11;obtain⟨z0,z1⟩:=(HHE7.out).c2;obtain⟨⟨n1,n2⟩,hbv⟩:∃q,Zt l q1 o=q:=⟨_,rfl⟩;have KB:=Zz (beyondJ_B (w:=W) (HLW.out W HI7.out.below) q1 o hbv);clear hbv;go_wp2_with fail;refine KB.out.mono ?_;rintro e w8 ⟨rfl,hB8⟩;have HI8:=Zz (HI7.out.keep hB8);clear KB HI7 HHE7 x0 x1 x2 x3 x4 x5 x6 x7 x8 x9 x10 z0 z1 hB8;obtain⟨z0,z1⟩:=(HI8.out.prt).c2;have f0:=HI8.out.prt.frozen 0;have f1:=HI8.out.prt.frozen 1;go_wp2_with fail;have HI9:=Zz (HI8.out.port n1 n2);have HL9:=Zz (lenAt_of HI9.out);go_roundw
          case rel=>exact⟨_,us,(n1,n2),rfl,by omega,HI9⟩
          case measure=>have hul2:=HUL.out;rw[HL9.out,HLA.out];omega
        · have e4:(sec.k==3)=false:=beq_false_of_ne k4;go_upto_region 15 with (fail)
          generalize wrap64 (1 - q2)=o;clear s0 z0 z1;obtain⟨A,c,hv,_⟩:=HI2.out.row;obtain⟨y0,y1,y2⟩:=hv.c3;clear hv;obtain⟨z0,z1⟩:=(HI2.out.prt).c2;obtain⟨A2,c2,w4,hrun,hw4,hI5⟩:=HI2.out.step (by omega) y2 (q1,q2,o);obtain⟨us,hus⟩:∃us,ss++[(q1,q2,o)]=us:=⟨_,rfl⟩;have HUL:Hid (us.length=ss.length+1):=Zz (by rw[←hus,List.length_append];rfl);rw[hus] at hI5;obtain⟨w5,hw5⟩:∃W,w4.setCell ⟨w.heap.size+2,2,none⟩ (.slice A2 (ss.length+1) c2)=W:=⟨_,rfl⟩;rw[hw5] at hI5;have HI5:=Zz hI5;have HW5:=Zz hw5;have u2:=hw4.Za 2 rfl;have f2:=hw4.frozen 2;clear hus hI5 hw5 hw4;go_upto_region 16 with (at_builtin;refine Zo rfl (.tmp 73) (.tmp 80) 44 rfl hrun ?_)
          try rw[HW5.out]
          clear hrun u2 f2 y0 y1 y2 z0 z1 HW5;obtain⟨z0,z1⟩:=(HI5.out.prt).c2;go_upto_region 17 with (fail)
          obtain⟨w6,hw6⟩:∃W,w5.alloc (.cells #[.int .i64 q1,.int .i64 o] 59)=W:=⟨_,rfl⟩;have HI6:Hid (WlkI w l sn xn us (q1,q2) w6):=Zz (by rw[←hw6];exact HI5.out.keep (below1 _ _));have HHE:Hid (Whole w6 w5.heap.size 59 (Zf (q1,o))):=Zz (by rw[←hw6];exact Whole.new w5 _ (Zf (q1,o)));try rw[hw6]
          clear hw6 HI5 z0 z1;obtain⟨gh,HGH⟩:∃n,Hid (w5.heap.size=n):=⟨_,Zz rfl⟩;rw[HGH.out] at HHE ⊢;clear HGH;obtain⟨Q,HQ,HQ6,hq⟩:∃Q:World→Prop,Hid (Closed Q)∧Hid (∀W,Q W→Below w6.heap.size w6 W)∧Q w6:=⟨Below w6.heap.size w6,Zz (Closed.below _),Zz fun _ h=>h,Below.refl _ _⟩;have HF:Hid (∀W,Q W→(W.cell? ⟨bx,ox+xn*3,none⟩=some (.int .i64 X.s)∧W.cell? ⟨bx,ox+xn*3+1,none⟩=some (.int .i64 X.q))∧Whole W gh 59 (Zf (q1,o))∧Whole W w.heap.size 29 l.cells):=Zz fun W hW=>⟨HXC.out W (HLW.out W (HI6.out.below.trans ((HQ6.out W hW).mono HI6.out.below.size))),HHE.out.below (HQ6.out W hW) HHE.out.lt,HI6.out.lay.below (HQ6.out W hW) HI6.out.lay.lt⟩;obtain⟨d,hd⟩:∃d,decide ((q1,o)=(X.s,X.q))=d:=⟨_,rfl⟩;have HEQ:Hid (∀W,(binOp .eql 59 (prtV q1 o) (prtV X.s X.q)).run Tryz.prog W= .ok (.bool d) W):=Zz fun W=>by rw[eql_prtD,hd]
          clear hd;go_wp2_with fail;have HBS:Hid (∀W,Below w6.heap.size w6 W→Q W):=Zz (fun W hB=>HQ.out _ _ hq hB);clear hq;refine rmx w6 f8 (by kernel_rfl) (by kernel_rfl) ?_;simp only[Zg,f8,Lm,Ln];repeat ((first|(refine Zb (by rfl) ?_)|(refine mrd HBS _ (by rfl) (fun W hW=>by(obtain⟨⟨c0,c1⟩,m1,m2⟩:=HF.out W hW;obtain⟨d0,d1⟩:=m1.c2;have x2:=m2.Za 2 rfl;have heq:=HEQ.out;clear m1 m2;go_simp;first|done|with_reducible rfl)) ?_)|(refine mrd HBS _ (by rfl) (fun W hW=>by(obtain⟨⟨c0,c1⟩,m1,m2⟩:=HF.out W hW;obtain⟨d0,d1⟩:=m1.c2;have x2:=m2.Za 2 rfl;have heq:=HEQ.out;clear m1 m2;rw[HAx.out];go_simp;first|done|with_reducible rfl)) ?_));simp only[Act.put,La,Lb,Lc])
          refine Zd (fun W hW=>?_);have hq:=HBS.out W hW;have HBW:=Zz hW;clear hW HBS;have HI7:Hid (WlkI w l sn xn us (q1,q2) W):=Zz (HI6.out.keep (HQ6.out _ hq));have HHE7:Hid (Whole W gh 59 (Zf (q1,o))):=Zz (HF.out W hq).2.1;clear HBW hq HI6 HHE HF HEQ;have hul:us.length≤12:=by have :=HUL.out;omega
          cases d;rotate_left
          · skip
            obtain⟨A,c,hv,_⟩:=HI7.out.row;obtain⟨y0,y1,y2⟩:=hv.c3;clear hv;obtain⟨wz,hwz,hz1,hz2,hz3⟩:=HI7.out.ret y2;have HZ:=Zz (And.intro hwz (And.intro hz1 (And.intro hz2 (And.intro hz3 hul))));clear hwz hz1 hz2 hz3;obtain⟨z0,z1,z2⟩:=(HI7.out.res).c3;have f0:=HI7.out.res.frozen 0;have f1:=HI7.out.res.frozen 1;have f2:=HI7.out.res.frozen 2;go_wp2_with fail;rw[HZ.out.1];have e0:=HZ.out.2.1.Za 0 rfl;have e1:=HZ.out.2.1.Za 1 rfl;have e2:=HZ.out.2.1.Za 2 rfl;refine bodyPost_ret (v:=.tuple #[.agg #[.int .i64 sn,.int .i64 xn,.slice A (List.length us) c],.bool true]) ?_ rfl ⟨A,c,us,_,rfl,HZ.out.2.2.1,HZ.out.2.2.2.2,HZ.out.2.2.2.1⟩;simp[results,Tryz.f23,go_sem,e0,e1,e2]
          obtain⟨x0,x1,x2,x3,x4,x5,x6,x7,x8,x9,x10⟩:=(HI7.out.lay).c11;obtain⟨z0,z1⟩:=(HHE7.out).c2;obtain⟨⟨n1,n2⟩,hbv⟩:∃q,Zt l q1 o=q:=⟨_,rfl⟩;have KB:=Zz (beyondJ_B (w:=W) (HLW.out W HI7.out.below) q1 o hbv);clear hbv;go_wp2_with fail;refine KB.out.mono ?_;rintro e w8 ⟨rfl,hB8⟩;have HI8:=Zz (HI7.out.keep hB8);clear KB HI7 HHE7 x0 x1 x2 x3 x4 x5 x6 x7 x8 x9 x10 z0 z1 hB8;obtain⟨z0,z1⟩:=(HI8.out.prt).c2;have f0:=HI8.out.prt.frozen 0;have f1:=HI8.out.prt.frozen 1;go_wp2_with fail;have HI9:=Zz (HI8.out.port n1 n2);have HL9:=Zz (lenAt_of HI9.out);go_roundw
          case rel=>exact⟨_,us,(n1,n2),rfl,by omega,HI9⟩
          case measure=>have hul2:=HUL.out;rw[HL9.out,HLA.out];omega
  · obtain h12':¬(ss.length:Int)<12:=by omega
    clear y0 y1 y2;obtain⟨A,c,hv,_⟩:=HI.out.row;obtain⟨y0,y1,y2⟩:=hv.c3;clear hv;obtain⟨wz,hwz,hz1,hz2,hz3⟩:=HI.out.ret y2;have HZ:=Zz (And.intro hwz (And.intro hz1 (And.intro hz2 (And.intro hz3 hss))));clear hwz hz1 hz2 hz3;obtain⟨z0,z1,z2⟩:=(HI.out.res).c3;have f0:=HI.out.res.frozen 0;have f1:=HI.out.res.frozen 1;have f2:=HI.out.res.frozen 2;go_wp2_with fail;rw[HZ.out.1];have e0:=HZ.out.2.1.Za 0 rfl;have e1:=HZ.out.2.1.Za 1 rfl;have e2:=HZ.out.2.1.Za 2 rfl;refine bodyPost_ret (v:=.tuple #[.agg #[.int .i64 sn,.int .i64 xn,.slice A (List.length ss) c],.bool false]) ?_ rfl ⟨A,c,ss,_,rfl,HZ.out.2.2.1,HZ.out.2.2.2.2,HZ.out.2.2.2.1⟩;simp[results,Tryz.f23,go_sem,e0,e1,e2]
end
end Go.Proofs.YtifnlhfinjfajaaGreatDoor
