/- Of this seat: ShG. -/
import Derived.Test.YtifnlhfinjfajaaGreatDoorK30
namespace Go.Proofs.YtifnlhfinjfajaaGreatDoor
set_option linter.unusedVariables false
set_option linter.unusedSimpArgs false
set_option maxRecDepth 100000
set_option maxHeartbeats 32000000
section
open Go.RowKit Go.Shelf
attribute [local go_sem] Oper.semAt_some
theorem paths14_any (l:Lay) (s x:Int) (w:World):Calls Tryz.prog 45 #[l.val,.int .i64 s,.int .i64 x] w fun e w'=>e= .returned (.func (.func 71) #[] #[.pointer (some ⟨w.heap.size+1,0,none⟩),.pointer (some ⟨w.heap.size+1+1,0,none⟩),.pointer (some ⟨w.heap.size,0,none⟩)]) ∧
 w'=((w.alloc (.cells #[.slice l.As l.secs.length l.cs,.slice l.Ag l.sigs.length l.cg,.slice l.Ae l.exits.length l.ce,.slice l.Af l.flanks.length l.cf,.int .i64 l.t0,.int .i64 l.t1,.int .i64 l.t2,.int .i64 l.t3,.int .i64 l.t4,.int .i64 l.t5,.int .i64 l.t6] 29)).alloc (.cells #[.int .i64 s] 3)).alloc (.cells #[.int .i64 x] 3):=by
 go_enter Tryz.func45,Tryz.ntmps45
 go_wp2_with fail
 go_ret
 exact⟨rfl,rfl⟩
theorem good_walk {l:Lay} {js jx:Nat} (hjs:js<l.sigs.length) {w:List Stp} (h:Good l js jx w) (hw:w≠[]) (he:endV l (mkP js jx w)=true):PathIs l js jx w:=
 pr_is (good_lead h (by rw[show((js:Int).toNat)=js by simp,List.getElem?_eq_getElem hjs];rfl) hw he)
structure St14 (J:(Nat→Prop)→List Pth→World→Prop) (R:Nat→Prop) (w0:World) (B:Nat) (l:Lay) (js jx:Nat) (n:Nat) (U:Nat→Prop) (Ds:List Nat) (hs u:List Pth) (p:Pth) (gp:Nat) (ok:Bool) (v:Value) (W:World):Prop where
 core:Core14 J R w0 B Ds U hs W
 stk:StkR B U v u W
 yes:ok=true→PLs l js jx B U (u++[p]) W∧DfsP l js jx (hs.map Pth.ss) ((u++[p]).map Pth.ss)∧n=todoN l (Zq l js) ((u++[p]).map Pth.ss)+1
 no:ok=false→DfsP l js jx (hs.map Pth.ss) []∧n=0
 most:n≤5002
 told:∀q ∈ hs,q.s=js∧q.x=jx
 box:Whole W gp 46 p.cells
 boxB:B≤gp
 boxU:¬U gp
 boxV:v.ownBlock≠some gp
def PI14 (J:(Nat→Prop)→List Pth→World→Prop) (R:Nat→Prop) (w0:World) (B:Nat) (l:Lay) (js jx L g1 g2 g3:Nat) (n:Nat) (a:Act) (W:World):Prop:=
 ∃(U:Nat→Prop) (Ds:List Nat) (hs u:List Pth) (p:Pth) (gp:Nat) (ok:Bool) (v u8 u9 u10 u11 u12 u13 u14 u15 u16 u17 u18 u19 u20 u21 u22 u23 u24 u25 u26 u27 u28 u29 u30 u31 u32 u33 u34 u35 u36 u37:Value),St14 J R w0 B l js jx n U Ds hs u p gp ok v W∧a= {tmps:=#[.func (.yield L) #[] #[],.pointer (some ⟨g1,0,none⟩),.pointer (some ⟨g2,0,none⟩),.pointer (some ⟨g3,0,none⟩),undef,.pointer (some ⟨B,0,none⟩),.pointer (some ⟨gp,0,none⟩),.bool ok,u8,u9,u10,u11,u12,u13,u14,u15,u16,u17,u18,u19,u20,u21,u22,u23,u24,u25,u26,u27,u28,u29,u30,u31,u32,u33,u34,u35,u36,u37],defers:=marks Ds}
theorem paths14_iter {w0:World} {R:Nat→Prop} {g1 g2 g3:Nat} {l:Lay} {js jx:Nat} (HF:∀W',Keeps R w0 W'→(∀k,R k→k<W'.heap.size)→((Shapes W'∧Lies l W')∧(Whole W' g1 3 [.int .i64 (js:Int)]∧Whole W' g2 3 [.int .i64 (jx:Int)]∧Whole W' g3 29 l.cells))) (hjs:js<l.sigs.length) (hjx:jx<l.exits.length) (hwl:(walksV l (Zq l js)).length≤5000):
 IterG Tryz.prog 71 #[.pointer (some ⟨g1,0,none⟩),.pointer (some ⟨g2,0,none⟩),.pointer (some ⟨g3,0,none⟩)] (fun p:Pth=>#[p.val]) (fun hs p=>(p.s=js∧p.x=jx)∧PathIs l js jx p.ss∧hs.length<5000) (fun p W=>∃base,stepRow W base p) (fun p k=>blk p=some k) (fun hs=>(∀p ∈ hs,p.s=js∧p.x=jx)∧DfsP l js jx (hs.map Pth.ss) []) R w0:=by
 intro L J Jx W hk0 hRl hJ hJx hY h0
 obtain⟨B,hB⟩:∃B,W.heap.size=B:=⟨_,rfl⟩
 rw[hB] at hJ hJx hY hRl
 have HFW:Hid (∀W',Keeps R w0 W'→B≤W'.heap.size→((Shapes W'∧Lies l W')∧(Whole W' g1 3 [.int .i64 (js:Int)]∧Whole W' g2 3 [.int .i64 (jx:Int)]∧Whole W' g3 29 l.cells))):=Zz fun W' hk hs=>HF W' hk fun k h=>Nat.lt_of_lt_of_le (hRl k h) hs
 obtain⟨W1,hW1⟩:∃W1,W.alloc (.cells #[.slice none 0 0] 118)=W1:=⟨_,rfl⟩
 have hB1:Below W.heap.size W W1:=by rw[←hW1];exact below1 W _
 have hs1:W1.heap.size=B+1:=by rw[←hW1];simp;omega
 have hbox1:Whole W1 B 118 [.slice none 0 0]:=by rw[←hW1];exact Whole.Zj W _ [_] _ hB.symm
 have hc0:Core14 J R w0 B [] (fun _=>False) [] W:=⟨h0,fun k h=>h.elim,hk0,⟨List.nodup_nil,fun D hD=>by cases hD⟩⟩
 have hc1:Core14 J R w0 B [] (fun _=>False) [] W1:=hc0.below hJ hRl hB1
 have hst1:StkR B (fun _=>False) (.slice none 0 0) [] W1:=⟨hbox1,World.ownsRow_nil _ _ _ _,fun h=>h,fun k h=>by cases h⟩
 have KP:=Zz (put14 (B:=B) (base:=B+1) (n:=0) (ps:=[]) (⟨(js:Int),(jx:Int),none,0,[]⟩:Pth) hbox1 (World.ownsRow_nil _ _ _ _) (Nat.lt_succ_self _) (by omega) (by omega))
 have hf1:=HFW.out W1 hc1.keeps (by omega)
 have d1:=hf1.2.1.Za 0 rfl
 have d2:=hf1.2.2.1.Za 0 rfl
 have HC1:=Zz (And.intro hc1 hst1)
 have HW1:=Zz hW1
 have HBE:=Zz hB
 have HRL:=Zz hRl
 rw[←hW1] at d1 d2
 clear hW1 hB1 hs1 hbox1 hc0 hc1 hst1 hf1 hk0 h0 HF hRl hB
 refine(callsIn_wide (n:=3)).1 ?_
 refine callsIn_of_wp_marks Tryz.func71 rfl trivial ?_ rfl
 simp only[Tryz.ntmps71,Ld,Le,Lf,Nat.reduceAdd,Nat.reduceSub,Lg,Lh,Li,Lj,Lk,Ll]
 gi_wp2_with fail
 rw[HW1.out,HBE.out]
 refine⟨trivial,(callsIn_wide.2 KP.out).mono ?_⟩
 clear KP d1 d2
 rintro e w2 ⟨rfl,v',b2,o2,e2,off2⟩
 obtain⟨hc1,hst1⟩:=HC1.out
 have hc2:=hc1.off hJ HRL.out hst1 off2
 have hst2:=hst1.put (x:=(⟨(js:Int),(jx:Int),none,0,[]⟩:Pth)) (fun k h=>h.elim) b2 (by simpa using o2) e2
 have KT:=Zz (take14_last (B:=B) (base:=B+1) (u:=[]) (p:=(⟨(js:Int),(jx:Int),none,0,[]⟩:Pth)) hst2.box (by simpa using hst2.own) (Nat.lt_succ_self _) (by have :=hst2.box.lt;omega) (by simp))
 have HC2:=Zz (And.intro hc2 hst2)
 clear HC1 hc1 hst1 hc2 hst2 b2 o2 e2 off2
 gi_wp2_with fail
 refine⟨trivial,(callsIn_wide.2 KT.out).mono ?_⟩
 clear KT
 rintro e w3 ⟨rfl,v3,b3,o3,e3,off3⟩
 obtain⟨hc2,hst2⟩:=HC2.out
 have hc3:=hc2.off hJ HRL.out hst2 off3
 have hst3:StkR B (fun _=>False) v3 [] w3:=StkR.take (u:=[]) hst2 b3 o3 e3
 obtain⟨gp,hgp⟩:∃gp,w3.heap.size=gp:=⟨_,rfl⟩
 obtain⟨W4,hW4⟩:∃W4,w3.alloc (.cells #[.int .i64 (js:Int),.int .i64 (jx:Int),.slice none 0 0] 46)=W4:=⟨_,rfl⟩
 have hB4:Below w3.heap.size w3 W4:=by rw[←hW4];exact below1 _ _
 have hp4:Whole W4 gp 46 (Pth.cells (⟨(js:Int),(jx:Int),none,0,[]⟩:Pth)):=by rw[←hW4];exact Whole.Zj _ _ [_,_,_] _ hgp.symm
 have hst4:=hst3.below hB4
 have hc4:=hc3.below hJ HRL.out hB4
 have HW4:=Zz hW4
 have HGP:=Zz hgp
 clear hW4 hgp
 gi_wp2_with fail
 rw[HW4.out,HGP.out]
 have hpl4:PLs l js jx B (fun _=>False) ([]++[(⟨(js:Int),(jx:Int),none,0,[]⟩:Pth)]) W4:=⟨fun q hq=>(by
  obtain rfl:q=(⟨(js:Int),(jx:Int),none,0,[]⟩:Pth):=by simpa using hq
  exact⟨⟨⟨rfl,rfl⟩,good_nil _ _ _⟩,World.ownsRow_nil _ _ _ _⟩),List.pairwise_singleton _ _,fun q hq k hb hu=>hu⟩
 have HI0:Hid (St14 J R w0 B l js jx (todoN l (Zq l js) [[]]+1) (fun _=>False) [] [] [] (⟨(js:Int),(jx:Int),none,0,[]⟩:Pth) gp true v3 W4):=Zz
  ⟨hc4,hst4,fun _=>⟨hpl4,dfsP_zero l js jx,rfl⟩,fun h=>(by cases h),by rw[todo_empty];omega,fun q hq=>(by cases hq),hp4,by have :=hst3.box.lt;have :=HGP.out;omega,fun h=>h,fun e=>(by have :=(hst3.own.lt gp e).2;have :=HGP.out;omega)⟩
 clear HW4 HGP hB4 hp4 hst4 hc4 hpl4 hst3 hc3 HC2 hc2 hst2 b3 o3 e3 off3
 refine wpIn_loop (fun a' W'=>∃n,PI14 J R w0 B l js jx L g1 g2 g3 n a' W') (fun a' W'=>leastN fun n=>PI14 J R w0 B l js jx L g1 g2 g3 n a' W') ?start ?round
 case start=>exact⟨_,_,_,_,_,_,_,_,_,_,_,_,_,_,_,_,_,_,_,_,_,_,_,_,_,_,_,_,_,_,_,_,_,_,_,_,_,_,_,HI0.out,rfl⟩
 case round=>
  clear HI0;rintro a' wr hI;have hI:=least_spec hI;obtain⟨n,hn⟩:∃n,(leastN fun n=>PI14 J R w0 B l js jx L g1 g2 g3 n a' wr)=n:=⟨_,rfl⟩;rw[hn] at hI;have HN:=Zz hn;clear hn;obtain⟨U,Ds,hs,u,p,gp,ok,v,u8,u9,u10,u11,u12,u13,u14,u15,u16,u17,u18,u19,u20,u21,u22,u23,u24,u25,u26,u27,u28,u29,u30,u31,u32,u33,u34,u35,u36,u37,hS,rfl⟩:=hI;cases ok
  · have HS:=Zz hS;clear hS;gi_wp2_with fail;exact leaves_marks (v:=.tuple #[]) (B:=B) (U:=U) (fun w=>results_none rfl _ _ _) Ds wr HS.out.core.marks fun W' hW'=>⟨⟨_,rfl⟩,U,fun k hk=>Nat.lt_of_lt_of_le (HS.out.core.lt k hk) hW'.size,.inl ⟨hs,⟨HS.out.told,(HS.out.no rfl).1⟩,hJ _ _ _ _ HS.out.core.j hW'⟩⟩
  obtain⟨hpl,hdf,hnn⟩:=hS.yes rfl;obtain⟨⟨⟨hps,hpx⟩,hgood⟩,hrow⟩:=hpl.each p (List.mem_append_right _ (by simp));obtain⟨ps,px,Ap,cp,ss⟩:=p;simp only at hps hpx hgood hrow;obtain rfl:ps=(js:Int):=hps;obtain rfl:px=(jx:Int):=hpx;have hln:=hgood.most;have hlies:PLies ⟨js,jx,Ap,cp,ss⟩ wr:=owns_lies hrow (by show ss.length≤1000;omega);have hBw:B≤wr.heap.size:=Nat.le_of_lt hS.stk.box.lt;have hf:=HFW.out wr hS.core.keeps hBw;obtain⟨lb,hlb⟩:∃b,(decide (ss≠[])&&endV l ⟨js,jx,Ap,cp,ss⟩)=b:=⟨_,rfl⟩;have KL:=Zz (leads14_any (l:=l) (ps:=(js:Int)) (jx:=jx) (Ap:=Ap) (cp:=cp) (ss:=ss) hf.1.2 hlies (by omega) hjx hlb);have HLB:Hid ((decide (ss≠[])&&endV l (mkP js jx ss))=lb):=Zz hlb;obtain⟨x0,x1,x2,x3,x4,x5,x6,x7,x8,x9,x10⟩:=(hf.2.2.2).c11;obtain⟨y0,y1,y2⟩:=(hS.box).c3;have HS:=Zz hS;have HP:=Zz (And.intro hpl (And.intro hdf (And.intro hnn (And.intro hgood (And.intro hrow hlies)))));clear hS hpl hdf hnn hgood hrow hlies hf hlb;gi_wp2_with fail;refine⟨trivial,(callsIn_wide.2 KL.out).mono ?_⟩;clear KL x0 x1 x2 x3 x4 x5 x6 x7 x8 x9 x10 y0 y1 y2;rintro e w1 ⟨rfl,hB1⟩;have hc1:=HS.out.core.below hJ HRL.out hB1;have hst1:=HS.out.stk.below hB1;have hpl1:=HP.out.1.below hB1;have hbx1:=HS.out.box.below hB1 HS.out.box.lt;have hB1s:=Nat.le_trans hBw hB1.size;have hrow1:=Zh HP.out.2.2.2.2.1 hB1;have HW:=Zz (And.intro hc1 (And.intro hst1 (And.intro hpl1 (And.intro hbx1 (And.intro hB1s hrow1)))));clear hc1 hst1 hpl1 hrow1 hB1 hB1s hBw;cases lb
  · obtain⟨hc1,hst1,hpl1,hbx1,hB1s,hrow1⟩:=HW.out;have hf:=HFW.out w1 hc1.keeps hB1s;obtain⟨x0,x1,x2,x3,x4,x5,x6,x7,x8,x9,x10⟩:=(hf.2.2.2).c11;obtain⟨y0,y1,y2⟩:=hbx1.c3;clear hf;gi_wp2_with fail;refine⟨trivial,(callsIn_wide.2 (stepsOn14_any l (⟨(js:Int),(jx:Int),Ap,cp,ss⟩:Pth) _)).mono ?_⟩;clear x0 x1 x2 x3 x4 x5 x6 x7 x8 x9 x10 y0 y1 y2;rintro e w2 ⟨rfl,rfl⟩;gi_wp2_with fail;obtain⟨h,hh⟩:∃h,w1.heap.size=h:=⟨_,rfl⟩;obtain⟨W2,hW2,hsz2,hB2,b3,b4⟩:∃W2,((w1.alloc (.cells #[.slice l.As l.secs.length l.cs,.slice l.Ag l.sigs.length l.cg,.slice l.Ae l.exits.length l.ce,.slice l.Af l.flanks.length l.cf,.int .i64 l.t0,.int .i64 l.t1,.int .i64 l.t2,.int .i64 l.t3,.int .i64 l.t4,.int .i64 l.t5,.int .i64 l.t6] 29)).alloc (.cells #[.int .i64 (js:Int),.int .i64 (jx:Int),.slice Ap ss.length cp] 46))=W2∧W2.heap.size=h+2∧Below w1.heap.size w1 W2∧Whole W2 h 29 l.cells∧Whole W2 (h+1) 46 (Pth.cells (⟨(js:Int),(jx:Int),Ap,cp,ss⟩:Pth)):=
     ⟨_,rfl,by simp;omega,below2 _ _ _,(Whole.Zj _ _ l.cells _ hh.symm).alloc _,Whole.Zj _ _ (Pth.cells (⟨(js:Int),(jx:Int),Ap,cp,ss⟩:Pth)) _ (by simp;omega)⟩;rw[hW2,hh];have hc2:=hc1.below hJ HRL.out hB2;have hst2:=hst1.below hB2;have hpl2:=hpl1.below hB2;have hbx2:=hbx1.below hB2 hbx1.lt;have hrow2:=Zh hrow1 hB2;have hBh:B<h:=by rw[←hh];exact hst1.box.lt
    have hgh:gp<h:=by rw[←hh];exact hbx1.lt
    have hUh:∀k,U k→k<h:=fun k hk=>by rw[←hh];exact hc1.lt k hk
    have hDh:∀D ∈ Ds,D<h:=fun D hD=>by rw[←hh];exact(Array.getElem?_eq_some_iff.1 (hc1.marks.all D hD).1).1
    have hqh:∀q ∈ u++[(⟨(js:Int),(jx:Int),Ap,cp,ss⟩:Pth)],∀k,blk q=some k→k<h:=fun q hq k hk=>by rw[←hh];exact((hpl1.each q hq).2.lt k hk).2
    have hvh:∀k,v.ownBlock=some k→k<h:=fun k hk=>by rw[←hh];exact(hst1.own.lt k hk).2
    have HRB:Hid (∀k,blk (⟨(js:Int),(jx:Int),Ap,cp,ss⟩:Pth)=some k→k<h):=Zz fun k hk=>hqh _ (List.mem_append_right _ (by simp)) k hk;have hgood:=HP.out.2.2.2.1;have HF2:∀W',Keeps (fun k=>R k∨((k=h∨k=h+1)∨blk (⟨(js:Int),(jx:Int),Ap,cp,ss⟩:Pth)=some k)) W2 W'→(∀k,(R k∨((k=h∨k=h+1)∨blk (⟨(js:Int),(jx:Int),Ap,cp,ss⟩:Pth)=some k))→k<W'.heap.size)→(((Shapes W'∧Lies l W')∧PLies (⟨(js:Int),(jx:Int),Ap,cp,ss⟩:Pth) W')∧(Whole W' h 29 l.cells∧Whole W' (h+1) 46 (Pth.cells (⟨(js:Int),(jx:Int),Ap,cp,ss⟩:Pth)))):=fun W' hk hz=>by
     have h1:=HFW.out W' (hc2.keeps.trans (hk.sub fun k h=>.inl h)) (by have :=hz h (.inr (.inl (.inl rfl)));omega);exact⟨⟨h1.1,owns_lies (owns_keeps hk hrow2 (fun b hb=>.inr (.inr hb))) (by show ss.length≤1000;omega)⟩,hk.whole (.inr (.inl (.inl rfl))) b3,hk.whole (.inr (.inl (.inr rfl))) b4⟩
    have hit:=steps14_iter (w0:=W2) HF2 hjs hjx (by omega) hgood.goes;obtain⟨nx,hnx⟩:∃nx,nextsV l jx ss (endL l (Zq l js) ss)=nx:=⟨_,rfl⟩;have HNG:Hid (∀(j:Nat) (x:Stp),nx[j]? =some x→Good l js jx (ss++[x])):=Zz fun j x hx=>nexts_good hgood (by rw[hnx];exact List.mem_of_getElem? hx);have HNX:=Zz hnx;have HDN:Hid (DfsP l js jx (hs.map Pth.ss) (u.map Pth.ss++nx.map (fun y=>ss++[y]))∧todoN l (Zq l js) (u.map Pth.ss++nx.map (fun y=>ss++[y]))+2≤n):=Zz (by
     have hd:=HP.out.2.1;have hn:=HP.out.2.2.1;rw[List.map_append] at hd hn;have hor:ss=[]∨endV l (mkP js jx ss)=false:=by
      have :=HLB.out;by_cases e:ss=[]
      · exact .inl e
      · rw[decide_eq_true e] at this;exact .inr this
     rw[←hnx];refine⟨dfsP_next hd hgood hor,?_⟩;have :=todo_next (l:=l) (s:=js) (x:=jx) (pend:=u.map Pth.ss) (w:=ss) hln;rw[hn];have e:todoN l (Zq l js) (u.map Pth.ss++List.map Pth.ss [(⟨(js:Int),(jx:Int),Ap,cp,ss⟩:Pth)])=todoN l (Zq l js) (u.map Pth.ss++[ss]):=rfl;omega);rw[hnx] at hit;have hI0:InI14 J R w0 B Ds U hs l js jx u (⟨(js:Int),(jx:Int),Ap,cp,ss⟩:Pth) nx gp h (fun _=>False) 0 W2:=
     ⟨hc2,⟨v,[],by rw[List.append_nil];exact hst2,by rw[List.append_nil];exact hpl2,rfl,HS.out.boxV,fun k hk=>.inl (hvh k hk),fun q hq=>(by cases hq)⟩,hbx2,by omega,fun k hk=>hk.elim⟩;have HNL:Hid (nx.length≤2):=Zz (by rw[←hnx];unfold nextsV;split;exact on_le2 _ _;simp);have HUL:Hid (u.length≤5002):=Zz (by
     have h1:=todo_len (l:=l) (q:=Zq l js) (pend:=(u++[(⟨(js:Int),(jx:Int),Ap,cp,ss⟩:Pth)]).map Pth.ss);have h2:=HP.out.2.2.1;have h3:=HS.out.most;rw[List.length_map,List.length_append] at h1;omega);have HST:Hid (∀U' j W' W'',InI14 J R w0 B Ds U hs l js jx u (⟨(js:Int),(jx:Int),Ap,cp,ss⟩:Pth) nx gp h U' j W'→Stays (h+2) U' W' W''→InI14 J R w0 B Ds U hs l js jx u (⟨(js:Int),(jx:Int),Ap,cp,ss⟩:Pth) nx gp h U' j W''):=Zz fun U' j W' W'' hi ht=>hi.stays hJ HRL.out hBh hgh hUh hDh hqh ht;have HH:=Zz hh;have HS2:=Zz hsz2;have HGO:=Zz hgood;clear hW2 hc1 hst1 hpl1 hbx1 hB1s hrow1 hc2 hst2 hpl2 hbx2 hrow2 hB2 b3 b4 hqh hvh HF2 hnx hh hgood HW;refine range_iterU (gf:=127) rfl (enters_of Tryz.func127 (by kernel_rfl) rfl) hit (Keeps.refl _ _) (fun k hk=>by
     have :=HS2.out;rcases hk with hk|(hk|hk)|hk
     · have :=HRL.out k hk;omega
     · omega
     · omega
     · have :=HRB.out k hk;omega) (fun _=>rfl) (by omega)
     (fun U' j W'=>InI14 J R w0 B Ds U hs l js jx u (⟨(js:Int),(jx:Int),Ap,cp,ss⟩:Pth) nx gp h U' j W')
     (fun _ _ _=>False)
     (by rw[hsz2];exact fun U' j W' W'' hi ht=>HST.out U' j W' W'' hi ht)
     (fun _=>fun _ _ _ _ h _=>h.elim)
     hI0
     (fun U' j x a' W'=>InI14 J R w0 B Ds U hs l js jx u (⟨(js:Int),(jx:Int),Ap,cp,ss⟩:Pth) nx gp h U' j W'∧∃gs,Whole W' gs 66 (Ze x)∧U' gs∧a'= {tmps:=#[.func (.yield L) #[] #[],.pointer (some ⟨g1,0,none⟩),.pointer (some ⟨g2,0,none⟩),.pointer (some ⟨g3,0,none⟩),undef,.pointer (some ⟨B,0,none⟩),.pointer (some ⟨gp,0,none⟩),.bool true,.pointer (some ⟨gs,0,none⟩),u9,u10,u11,u12,u13,u14,u15,u16,.bool true,u18,u19,u20,u21,.agg #[.slice l.As l.secs.length l.cs,.slice l.Ag l.sigs.length l.cg,.slice l.Ae l.exits.length l.ce,.slice l.Af l.flanks.length l.cf,.int .i64 l.t0,.int .i64 l.t1,.int .i64 l.t2,.int .i64 l.t3,.int .i64 l.t4,.int .i64 l.t5,.int .i64 l.t6],.agg #[.int .i64 (js:Int),.int .i64 (jx:Int),.slice Ap ss.length cp],.bool false,u25,u26,u27,u28,.agg #[.slice l.As l.secs.length l.cs,.slice l.Ag l.sigs.length l.cg,.slice l.Ae l.exits.length l.ce,.slice l.Af l.flanks.length l.cf,.int .i64 l.t0,.int .i64 l.t1,.int .i64 l.t2,.int .i64 l.t3,.int .i64 l.t4,.int .i64 l.t5,.int .i64 l.t6],.agg #[.int .i64 (js:Int),.int .i64 (jx:Int),.slice Ap ss.length cp],.func (.func 127) #[] #[.pointer (some ⟨h,0,none⟩),.pointer (some ⟨h+1,0,none⟩)],stpV x.1 x.2.1 x.2.2,u33,u34,u35,u36,u37],defers:=[]})
     (fun j x a'=>by
      rw[hsz2];rintro U' uu W' W'' ⟨h1,gs,h4,h5,h6⟩ ht;exact⟨HST.out _ _ _ _ h1 ht,gs,ht.whole h4 (.inr h5),h5,h6⟩)
     ?assign ?body ?done ?stop
    case assign=>
     rintro lr U' j x W' K hx hI hsW hU' hK;have hb:=below1 W' (.cells (Ze x).toArray 66);have hI':=HST.out _ _ _ _ hI (Stays.below hb);have hW':=hI.size;gi_wp2_with fail;exact hK _ _ (With U' W' (W'.alloc (.cells (Ze x).toArray 66))) (Grew.with hU' hb.size) (Kept.below hb) ⟨hI'.wide (fun k h=>.inl h) (fun k hk=>hk.elim (hI.up k) (fun hh=>by omega)),W'.heap.size,Whole.new W' _ (Ze x),.inr ⟨Nat.le_refl _,by simp⟩,rfl⟩
    case body=>
     rintro lr U' j x a' W' hl hx ⟨hI,gs,hgs,hUg,rfl⟩ hU';obtain⟨v5,ns,q1,q2,q3,q4,q5,q6⟩:=hI.stk;have hnl:ns.length≤2:=by
      have h1:=congrArg List.length q3;rw[List.length_map,List.length_map,List.length_take] at h1;have :=HNL.out;omega
     have hul5:(u++ns).length≤100000:=by have :=HUL.out;rw[List.length_append];omega
     have hrow5:=(q2.each (⟨(js:Int),(jx:Int),Ap,cp,ss⟩:Pth) (List.mem_append_right _ (by simp))).2;have KL:=Zz (longer14_any (p:=(⟨(js:Int),(jx:Int),Ap,cp,ss⟩:Pth)) (a:=x) (owns_lies hrow5 (by show ss.length≤1000;omega)) (by show ss.length≤100;omega));obtain⟨s0,s1,s2⟩:=hgs.c3;obtain⟨y0,y1,y2⟩:=(hI.box).c3;have HIB:=Zz (And.intro hI (And.intro q1 (And.intro q2 (And.intro q3 (And.intro q4 (And.intro q5 q6))))));have HHX:=Zz hx;have HHU:=Zz hU';clear hI q1 q2 q3 q4 q5 q6 hgs hrow5 hnl hx hU' hit hI0;gi_wp2_with fail;refine⟨trivial,(CallsIn.inRound _ (callsIn_wide.2 KL.out)).mono ?_⟩;clear KL s0 s1 s2 y0 y1 y2;rintro e w5 ⟨A,c,rfl,hown,hB5⟩;obtain⟨hI,q1,q2,q3,q4,q5,q6⟩:=HIB.out;have q15:=q1.below hB5;have KP:=Zz (put14 (B:=B) (base:=B+1) (n:=(u++ns).length) (ps:=u++ns) (⟨(js:Int),(jx:Int),A,c,ss++[x]⟩:Pth) q15.box q15.own (Nat.lt_succ_self _) (by have :=q15.box.lt;omega) hul5);have HOB:=Zz (And.intro hown hB5);clear hI q1 q2 q3 q4 q5 q6 q15 hown hB5 hul5;gi_wp2_with fail;refine⟨trivial,(CallsIn.inRound _ (callsIn_wide.2 KP.out)).mono ?_⟩;clear KP;rintro e w6 ⟨rfl,v6,b6,o6,e6,off6⟩;obtain⟨hI,q1,q2,q3,q4,q5,q6⟩:=HIB.out;obtain⟨hown,hB5⟩:=HOB.out;have hN:=InI14.next hJ HRL.out hBh hgh hI.core q1 q2 q3 q4 q5 q6 hI.box hI.size hI.up HHU.out HHX.out (HNG.out j x HHX.out) hown hB5 ⟨rfl,rfl⟩ b6 o6 e6 off6;have hkept:Kept (fun k=>R k∨((k=h∨k=h+1)∨blk (⟨(js:Int),(jx:Int),Ap,cp,ss⟩:Pth)=some k)) (h+2) U' W' w6:=⟨Nat.le_trans hB5.size off6.size,fun k o ho hr=>off6.rest k o ((hB5.block k (Array.getElem?_eq_some_iff.1 ho).1).trans ho) (fun hh=>by
      have hup:=hI.up;rcases hh with rfl|hh
      · rcases hr with (hr|(hr|hr)|hr)|hr
        · have :=HRL.out k hr;omega
        · omega
        · omega
        · have :=((q2.each (⟨(js:Int),(jx:Int),Ap,cp,ss⟩:Pth) (List.mem_append_right _ (by simp))).2.lt k hr).1;omega
        · omega
      · rcases hr with (hr|(hr|hr)|hr)|hr
        · have :=HRL.out k hr;have :=(q1.own.lt k hh).1;omega
        · rcases q5 k hh with h1|h1
          · omega
          · have :=hup k h1;omega
        · rcases q5 k hh with h1|h1
          · omega
          · have :=hup k h1;omega
        · exact apart_row q1.own (q2.each (⟨(js:Int),(jx:Int),Ap,cp,ss⟩:Pth) (List.mem_append_right _ (by simp))).2 hr hh
        · rcases q5 k hh with h1|h1
          · omega
          · exact hr.2 h1)⟩;have HFI:=Zz (And.intro hN hkept);clear hI q1 q2 q3 q4 q5 q6 hown hB5 b6 o6 e6 off6 hN hkept HIB HOB;gi_wp2_with fail;rw[HS2.out];exact⟨With U' W' w6,Grew.with HHU.out HFI.out.2.size,HFI.out.2,HFI.out.1⟩
    case stop=>exact fun D c U' W' _ _ hh _=>hh.elim
    case done=>
     rintro D U' W' hD hUD hI hK;rw[hsz2] at hD;obtain⟨v5,ns,q1,q2,q3,q4,q5,q6⟩:=hI.stk;rw[List.take_length] at q3;have hDD:D ∉ Ds:=fun hm=>by have :=hDh D hm;omega
     have hUDD:¬U D:=fun hu=>by have :=hUh D hu;omega
     have hc3:Core14 J R w0 B (D::Ds) U hs W':=⟨hI.core.j,hI.core.lt,hI.core.keeps,⟨List.nodup_cons.2 ⟨hDD,hI.core.marks.once⟩,fun E hE=>by
      rcases List.mem_cons.1 hE with rfl|hE
      · exact⟨hK,by omega,hUDD⟩
      · exact hI.core.marks.all E hE⟩⟩;have hst3:=q1;have hpl3:=q2.sub (List.sublist_append_left _ _);have hbx3:=hI.box;have hdf3:DfsP l js jx (hs.map Pth.ss) ((u++ns).map Pth.ss):=by rw[List.map_append,q3];exact HDN.out.1
     have hm3:todoN l (Zq l js) ((u++ns).map Pth.ss)+2≤n:=by rw[List.map_append,q3];exact HDN.out.2
     have hto3:=HS.out.told;clear hI q1 q2 q3 q4 q5 q6 hDD hUDD hUD hK hD hit hI0;obtain⟨g4,hg4⟩:∃g,W'.heap.size=g:=⟨_,rfl⟩;obtain⟨W4,hW4⟩:∃W4,W'.alloc (.cells #[.int .i64 (js:Int),.int .i64 (jx:Int),.slice Ap ss.length cp] 46)=W4:=⟨_,rfl⟩;have hB4:Below W'.heap.size W' W4:=by rw[←hW4];exact below1 _ _
     have hp4:Whole W4 g4 46 (Pth.cells (⟨(js:Int),(jx:Int),Ap,cp,ss⟩:Pth)):=by rw[←hW4];exact Whole.Zj _ _ (Pth.cells (⟨(js:Int),(jx:Int),Ap,cp,ss⟩:Pth)) _ hg4.symm
     have hc4:=hc3.below hJ HRL.out hB4;have hst4:=hst3.below hB4;have hpl4:=hpl3.below hB4;have hg4B:B<g4:=by have :=hst3.box.lt;omega
     have hg4U:¬U g4:=fun h=>by have :=hc3.lt g4 h;omega
     have hg4V:v5.ownBlock≠some g4:=fun e=>by have :=(hst3.own.lt g4 e).2;omega
     have hul3:(u++ns).length≤5002:=by have :=todo_len (l:=l) (q:=Zq l js) (pend:=(u++ns).map Pth.ss);rw[List.length_map] at this;have :=HS.out.most;omega
     have hBW4:B+1≤W4.heap.size:=by have :=hst4.box.lt;omega
     obtain⟨y0,y1,y2⟩:=hbx3.c3;have HW4:=Zz hW4;have HG4:=Zz hg4;have HM3:=Zz hm3;have HTO:=Zz hto3;clear hW4 hg4 hB4 hc3 hst3 hpl3 hbx3 hm3 hto3;rcases snoc_cases (u++ns) with hu|⟨u',p',hu⟩
     · have KT:=Zz (take14_none (B:=B) (v:=v5) (w:=W4) hst4.box (by have ho:=hst4.own;rw[hu] at ho;obtain⟨A,c,e,_⟩:=ownsS_slice ho;exact⟨A,c,e⟩));have H4:=Zz (And.intro hc4 (And.intro (show StkR B U v5 [] W4 by rw[hu] at hst4;exact hst4) (And.intro hp4 (show DfsP l js jx (hs.map Pth.ss) [] by rw[hu] at hdf3;exact hdf3))));clear hc4 hst4 hpl4 hp4 hdf3 hu hul3 hBW4;gi_wp2_with fail;rw[HW4.out,HG4.out];refine⟨trivial,(callsIn_wide.2 KT.out).mono ?_⟩;clear KT y0 y1 y2;rintro e w5 ⟨rfl,hB5⟩;obtain⟨hc4,hst4,hp4,hdf4⟩:=H4.out;have hp5:=hp4.below hB5 hp4.lt;obtain⟨z0,z1,z2⟩:=hp5.c3;have f0:=hp5.frozen 0;have f1:=hp5.frozen 1;have f2:=hp5.frozen 2;have hfin:St14 J R w0 B l js jx 0 U (D::Ds) hs [] (⟨0,0,none,0,[]⟩:Pth) g4 false v5 (w5.setCells g4 0 [.int .i64 0,.int .i64 0,.slice none 0 0]):=
        ⟨(hc4.below hJ HRL.out hB5).fill hJ HRL.out hp5 (by omega) hg4U _,(hst4.below hB5).fill (by omega) hg4V _,fun h=>(by cases h),fun _=>⟨hdf4,rfl⟩,Nat.zero_le _,HTO.out,setCells_whole [.int .i64 0,.int .i64 0,.slice none 0 0] [] (Pth.cells (⟨(js:Int),(jx:Int),Ap,cp,ss⟩:Pth)) rfl hp5,by omega,hg4U,hg4V⟩;have HFIN:=Zz hfin;clear hfin hc4 hst4 hp4 hp5 hdf4 H4 hB5;gi_wp2_with fail;refine(fun(hI2:PI14 J R w0 B l js jx L g1 g2 g3 0 _ _)=>⟨⟨0,hI2⟩,Nat.lt_of_lt_of_eq (Nat.lt_of_le_of_lt (least_le hI2) (show 0<n by have :=HM3.out;omega)) HN.out.symm⟩) ⟨_,_,_,_,_,_,_,_,_,_,_,_,_,_,_,_,_,_,_,_,_,_,_,_,_,_,_,_,_,_,_,_,_,_,_,_,_,_,HFIN.out,rfl⟩
     · have hst5:StkR B U v5 (u'++[p']) W4:=by rw[hu] at hst4;exact hst4
       have hul':u'.length≤100000:=by have :=hul3;rw[hu,List.length_append] at this;omega
       have KT:=Zz (take14_last (B:=B) (base:=B+1) (u:=u') (p:=p') hst5.box (by have :=hst5.own;rw[List.length_append,List.length_singleton] at this;exact this) (Nat.lt_succ_self _) hBW4 hul');have H4:=Zz (And.intro hc4 (And.intro hst5 (And.intro hp4 (And.intro (show DfsP l js jx (hs.map Pth.ss) ((u'++[p']).map Pth.ss) by rw[hu] at hdf3;exact hdf3) (And.intro (show PLs l js jx B U (u'++[p']) W4 by rw[hu] at hpl4;exact hpl4) (show todoN l (Zq l js) ((u'++[p']).map Pth.ss)+2≤n by have h:=HM3.out;rw[hu] at h;exact h))))));clear hc4 hst4 hpl4 hp4 hdf3 hu hul3 hBW4 hst5 hul';gi_wp2_with fail;rw[HW4.out,HG4.out];refine⟨trivial,(callsIn_wide.2 KT.out).mono ?_⟩;clear KT y0 y1 y2;rintro e w5 ⟨rfl,v5,b5,o5,e5,off5⟩;obtain⟨hc4,hst4,hp4,hdf4,hpl4,hm4⟩:=H4.out;have hp5:=off5.whole hp4 (fun hh=>by rcases hh with hh|hh;omega;exact hg4V hh);have hg5V:v5.ownBlock≠some g4:=by rw[e5];exact hg4V
       obtain⟨z0,z1,z2⟩:=hp5.c3;have f0:=hp5.frozen 0;have f1:=hp5.frozen 1;have f2:=hp5.frozen 2;have hfin:St14 J R w0 B l js jx (todoN l (Zq l js) ((u'++[p']).map Pth.ss)+1) U (D::Ds) hs u' p' g4 true v5 (w5.setCells g4 0 [.int .i64 p'.s,.int .i64 p'.x,.slice p'.A p'.ss.length p'.c]):=
        ⟨(hc4.off hJ HRL.out hst4 off5).fill hJ HRL.out hp5 (by omega) hg4U _,(hst4.take b5 o5 e5).fill (by omega) hg5V _,fun _=>⟨(hpl4.off hst4 off5).fill hp5 _,hdf4,rfl⟩,fun h=>(by cases h),by have :=HS.out.most;omega,HTO.out,setCells_whole [.int .i64 p'.s,.int .i64 p'.x,.slice p'.A p'.ss.length p'.c] [] (Pth.cells (⟨(js:Int),(jx:Int),Ap,cp,ss⟩:Pth)) rfl hp5,by omega,hg4U,hg5V⟩;have HFIN:=Zz hfin;have HM4:=Zz hm4;clear hfin hc4 hst4 hp4 hp5 hdf4 H4 b5 o5 e5 off5 hpl4 hm4;gi_wp2_with fail;refine(fun(hI2:PI14 J R w0 B l js jx L g1 g2 g3 (todoN l (Zq l js) ((u'++[p']).map Pth.ss)+1) _ _)=>⟨⟨_,hI2⟩,Nat.lt_of_lt_of_eq (Nat.lt_of_le_of_lt (least_le hI2) (by have :=HM4.out;omega)) HN.out.symm⟩) ⟨_,_,_,_,_,_,_,_,_,_,_,_,_,_,_,_,_,_,_,_,_,_,_,_,_,_,_,_,_,_,_,_,_,_,_,_,_,_,HFIN.out,rfl⟩
  · obtain⟨hc1,hst1,hpl1,hbx1,hB1s,hrow1⟩:=HW.out;have hne:ss≠[]:=fun e=>by have :=HLB.out;rw[decide_eq_false (fun h=>h e),Bool.false_and] at this;cases this
    have hend:endV l (mkP js jx ss)=true:=by have :=HLB.out;rw[decide_eq_true hne,Bool.true_and] at this;exact this
    have hgood:=HP.out.2.2.2.1;have hpi:=good_walk hjs hgood hne hend;have hdl:DfsP l js jx (hs.map Pth.ss++[ss]) (u.map Pth.ss):=dfsP_lead (by have :=HP.out.2.1;rw[List.map_append] at this;exact this) hgood (by rw[show((js:Int).toNat)=js by simp,List.getElem?_eq_getElem hjs];rfl) hne hend;have hlen:hs.length<5000:=by
     have :=dfsP_len hdl;rw[List.length_append,List.length_map,List.length_singleton] at this;omega
    have hpm:(⟨(js:Int),(jx:Int),Ap,cp,ss⟩:Pth) ∈ u++[(⟨(js:Int),(jx:Int),Ap,cp,ss⟩:Pth)]:=List.mem_append_right _ (by simp);have hY1:YieldAt Fence.wide 3 Tryz.prog L #[Pth.val (⟨(js:Int),(jx:Int),Ap,cp,ss⟩:Pth)] w1 _:=hY U hs (⟨(js:Int),(jx:Int),Ap,cp,ss⟩:Pth) w1 ⟨⟨rfl,rfl⟩,hpi,hlen⟩ ⟨_,hrow1⟩ hc1.j hc1.lt (fun k hk=>⟨by have :=(hrow1.lt k hk).1;omega,hpl1.outU _ hpm k hk,(hrow1.lt k hk).2⟩);obtain⟨fn,tmps,assign,body,hy,hRd⟩:=hY1;have HRd:=Zz hRd;have HDL:=Zz hdl;have hmk:Marks B (fun k=>U k∨blk (⟨(js:Int),(jx:Int),Ap,cp,ss⟩:Pth)=some k) Ds w1:=⟨hc1.marks.once,fun D hD=>let ⟨q1,q2,q3⟩:=hc1.marks.all D hD;⟨q1,q2,fun hh=>hh.elim q3 (fun hb=>hc1.noMark (owns_obj hrow1 hb).choose_spec hD)⟩⟩;have hBb:¬(U B∨blk (⟨(js:Int),(jx:Int),Ap,cp,ss⟩:Pth)=some B):=fun hh=>hh.elim hst1.boxU (fun hb=>by have :=(hrow1.lt B hb).1;omega);have hgb:¬(U gp∨blk (⟨(js:Int),(jx:Int),Ap,cp,ss⟩:Pth)=some gp):=fun hh=>hh.elim HS.out.boxU (fun hb=>by
     obtain⟨cur,hc⟩:=owns_obj hrow1 hb;have h1:w1.heap[gp]? =_:=hbx1;rw[h1] at hc;injection hc with hc
     injection hc with _ hc
     exact absurd hc (by decide));have hvb:∀k,v.ownBlock=some k→¬(U k∨blk (⟨(js:Int),(jx:Int),Ap,cp,ss⟩:Pth)=some k):=fun k hk hh=>hh.elim (hst1.outU k hk) (fun hb=>apart_row hst1.own hrow1 hb hk);have hub:∀q ∈ u,∀k,blk q=some k→¬(U k∨blk (⟨(js:Int),(jx:Int),Ap,cp,ss⟩:Pth)=some k):=fun q hq k hk hh=>hh.elim (hpl1.outU q (List.mem_append_left _ hq) k hk) (fun hb=>(List.pairwise_append.1 hpl1.apart).2.2 q hq (⟨(js:Int),(jx:Int),Ap,cp,ss⟩:Pth) (by simp) k hk hb);have HMK:=Zz (And.intro hmk (And.intro hBb (And.intro hgb (And.intro hvb hub))));obtain⟨y0,y1,y2⟩:=hbx1.c3;clear hRd hmk hBb hgb hvb hub hdl hpi hlen hc1 hst1 hpl1 hbx1 hrow1 hgood hend;gi_wp2_with fail;refine RoundIn.mono (RoundIn.wide HRd.out) ?_;clear HRd hy y0 y1 y2;rintro e W3 ⟨U3,hg',hk',(⟨rfl,hJ3⟩|⟨rfl,hJx3⟩)⟩
    · obtain⟨hc1,hst1,hpl1,hbx1,hB1s,hrow1⟩:=HW.out;obtain⟨hmk,hBb,hgb,hvb,hub⟩:=HMK.out;have hkS:Keeps (fun k=>B≤k∧¬(U k∨blk (⟨(js:Int),(jx:Int),Ap,cp,ss⟩:Pth)=some k)) w1 W3:=fun k o hS ho=>hk'.rest k o ho (.inr hS);have hUS:∀k,(B≤k∧¬(U k∨blk (⟨(js:Int),(jx:Int),Ap,cp,ss⟩:Pth)=some k))→k<w1.heap.size→U3 k→U k:=fun k hS hlt hu=>(hg'.new k hu).elim (fun h=>absurd h hS.2) (fun h=>by omega);have hc3:Core14 J R w0 B Ds U3 (hs++[(⟨(js:Int),(jx:Int),Ap,cp,ss⟩:Pth)]) W3:=⟨hJ3,hg'.lt,hc1.keeps.trans hk'.keeps,hmk.kept hg' hk'⟩;have hst3:StkR B U3 v u W3:=hst1.keeps hkS ⟨Nat.le_refl _,hBb⟩ (fun k hk=>⟨by have :=(hst1.own.lt k hk).1;omega,hvb k hk⟩) hUS;have hpl3:PLs l js jx B U3 u W3:=(hpl1.sub (List.sublist_append_left _ _)).keeps hkS (fun q hq k hk=>⟨by have :=((hpl1.each q (List.mem_append_left _ hq)).2.lt k hk).1;omega,hub q hq k hk⟩) hUS;have hbx3:Whole W3 gp 46 (Pth.cells (⟨(js:Int),(jx:Int),Ap,cp,ss⟩:Pth)):=hkS gp _ ⟨HS.out.boxB,hgb⟩ hbx1;have hdf3:DfsP l js jx ((hs++[(⟨(js:Int),(jx:Int),Ap,cp,ss⟩:Pth)]).map Pth.ss) (u.map Pth.ss):=by rw[List.map_append];exact HDL.out
      have hm3:todoN l (Zq l js) (u.map Pth.ss)+2≤n:=by
       have h1:=HP.out.2.2.1;rw[List.map_append] at h1;have h2:=todo_cut (l:=l) (q:=Zq l js) (pend:=u.map Pth.ss) (w:=ss);have e:todoN l (Zq l js) (u.map Pth.ss++List.map Pth.ss [(⟨(js:Int),(jx:Int),Ap,cp,ss⟩:Pth)])=todoN l (Zq l js) (u.map Pth.ss++[ss]):=rfl;omega
      have hto3:∀q ∈ hs++[(⟨(js:Int),(jx:Int),Ap,cp,ss⟩:Pth)],q.s=js∧q.x=jx:=fun q hq=>by
       rcases List.mem_append.1 hq with hq|hq
       · exact HS.out.told q hq
       · obtain rfl:q=(⟨(js:Int),(jx:Int),Ap,cp,ss⟩:Pth):=by simpa using hq
         exact⟨rfl,rfl⟩
      clear hc1 hst1 hpl1 hbx1 hB1s hrow1 hmk hBb hgb hvb hub hkS hUS hg' hk' hJ3;obtain⟨g4,hg4⟩:∃g,W3.heap.size=g:=⟨_,rfl⟩;obtain⟨W4,hW4⟩:∃W4,W3.alloc (.cells #[.int .i64 (js:Int),.int .i64 (jx:Int),.slice Ap ss.length cp] 46)=W4:=⟨_,rfl⟩;have hB4:Below W3.heap.size W3 W4:=by rw[←hW4];exact below1 _ _
      have hp4:Whole W4 g4 46 (Pth.cells (⟨(js:Int),(jx:Int),Ap,cp,ss⟩:Pth)):=by rw[←hW4];exact Whole.Zj _ _ (Pth.cells (⟨(js:Int),(jx:Int),Ap,cp,ss⟩:Pth)) _ hg4.symm
      have hc4:=hc3.below hJ HRL.out hB4;have hst4:=hst3.below hB4;have hpl4:=hpl3.below hB4;have hg4B:B<g4:=by have :=hst3.box.lt;omega
      have hg4U:¬U3 g4:=fun h=>by have :=hc3.lt g4 h;omega
      have hg4V:v.ownBlock≠some g4:=fun e=>by have :=(hst3.own.lt g4 e).2;omega
      have hul3:u.length≤5002:=by have :=todo_len (l:=l) (q:=Zq l js) (pend:=u.map Pth.ss);rw[List.length_map] at this;have :=HS.out.most;omega
      have hBW4:B+1≤W4.heap.size:=by have :=hst4.box.lt;omega
      obtain⟨y0,y1,y2⟩:=hbx3.c3;have HW4:=Zz hW4;have HG4:=Zz hg4;have HM3:=Zz hm3;have HTO:=Zz hto3;clear hW4 hg4 hB4 hc3 hst3 hpl3 hbx3 hm3 hto3;rcases snoc_cases u with hu|⟨u',p',hu⟩
      · have KT:=Zz (take14_none (B:=B) (v:=v) (w:=W4) hst4.box (by have ho:=hst4.own;rw[hu] at ho;obtain⟨A,c,e,_⟩:=ownsS_slice ho;exact⟨A,c,e⟩));have H4:=Zz (And.intro hc4 (And.intro (show StkR B U3 v [] W4 by rw[hu] at hst4;exact hst4) (And.intro hp4 (show DfsP l js jx ((hs++[(⟨(js:Int),(jx:Int),Ap,cp,ss⟩:Pth)]).map Pth.ss) [] by rw[hu] at hdf3;exact hdf3))));clear hc4 hst4 hpl4 hp4 hdf3 hu hul3 hBW4;gi_wp2_with fail;rw[HW4.out,HG4.out];refine⟨trivial,(callsIn_wide.2 KT.out).mono ?_⟩;clear KT y0 y1 y2;rintro e w5 ⟨rfl,hB5⟩;obtain⟨hc4,hst4,hp4,hdf4⟩:=H4.out;have hp5:=hp4.below hB5 hp4.lt;obtain⟨z0,z1,z2⟩:=hp5.c3;have f0:=hp5.frozen 0;have f1:=hp5.frozen 1;have f2:=hp5.frozen 2;have hfin:St14 J R w0 B l js jx 0 U3 Ds (hs++[(⟨(js:Int),(jx:Int),Ap,cp,ss⟩:Pth)]) [] (⟨0,0,none,0,[]⟩:Pth) g4 false v (w5.setCells g4 0 [.int .i64 0,.int .i64 0,.slice none 0 0]):=
         ⟨(hc4.below hJ HRL.out hB5).fill hJ HRL.out hp5 (by omega) hg4U _,(hst4.below hB5).fill (by omega) hg4V _,fun h=>(by cases h),fun _=>⟨hdf4,rfl⟩,Nat.zero_le _,HTO.out,setCells_whole [.int .i64 0,.int .i64 0,.slice none 0 0] [] (Pth.cells (⟨(js:Int),(jx:Int),Ap,cp,ss⟩:Pth)) rfl hp5,by omega,hg4U,hg4V⟩;have HFIN:=Zz hfin;clear hfin hc4 hst4 hp4 hp5 hdf4 H4 hB5;gi_wp2_with fail;refine(fun(hI2:PI14 J R w0 B l js jx L g1 g2 g3 0 _ _)=>⟨⟨0,hI2⟩,Nat.lt_of_lt_of_eq (Nat.lt_of_le_of_lt (least_le hI2) (show 0<n by have :=HM3.out;omega)) HN.out.symm⟩) ⟨_,_,_,_,_,_,_,_,_,_,_,_,_,_,_,_,_,_,_,_,_,_,_,_,_,_,_,_,_,_,_,_,_,_,_,_,_,_,HFIN.out,rfl⟩
      · have hst5:StkR B U3 v (u'++[p']) W4:=by rw[hu] at hst4;exact hst4
        have hul':u'.length≤100000:=by have :=hul3;rw[hu,List.length_append] at this;omega
        have KT:=Zz (take14_last (B:=B) (base:=B+1) (u:=u') (p:=p') hst5.box (by have :=hst5.own;rw[List.length_append,List.length_singleton] at this;exact this) (Nat.lt_succ_self _) hBW4 hul');have H4:=Zz (And.intro hc4 (And.intro hst5 (And.intro hp4 (And.intro (show DfsP l js jx ((hs++[(⟨(js:Int),(jx:Int),Ap,cp,ss⟩:Pth)]).map Pth.ss) ((u'++[p']).map Pth.ss) by rw[hu] at hdf3;exact hdf3) (And.intro (show PLs l js jx B U3 (u'++[p']) W4 by rw[hu] at hpl4;exact hpl4) (show todoN l (Zq l js) ((u'++[p']).map Pth.ss)+2≤n by have h:=HM3.out;rw[hu] at h;exact h))))));clear hc4 hst4 hpl4 hp4 hdf3 hu hul3 hBW4 hst5 hul';gi_wp2_with fail;rw[HW4.out,HG4.out];refine⟨trivial,(callsIn_wide.2 KT.out).mono ?_⟩;clear KT y0 y1 y2;rintro e w5 ⟨rfl,v5,b5,o5,e5,off5⟩;obtain⟨hc4,hst4,hp4,hdf4,hpl4,hm4⟩:=H4.out;have hp5:=off5.whole hp4 (fun hh=>by rcases hh with hh|hh;omega;exact hg4V hh);have hg5V:v5.ownBlock≠some g4:=by rw[e5];exact hg4V
        obtain⟨z0,z1,z2⟩:=hp5.c3;have f0:=hp5.frozen 0;have f1:=hp5.frozen 1;have f2:=hp5.frozen 2;have hfin:St14 J R w0 B l js jx (todoN l (Zq l js) ((u'++[p']).map Pth.ss)+1) U3 Ds (hs++[(⟨(js:Int),(jx:Int),Ap,cp,ss⟩:Pth)]) u' p' g4 true v5 (w5.setCells g4 0 [.int .i64 p'.s,.int .i64 p'.x,.slice p'.A p'.ss.length p'.c]):=
         ⟨(hc4.off hJ HRL.out hst4 off5).fill hJ HRL.out hp5 (by omega) hg4U _,(hst4.take b5 o5 e5).fill (by omega) hg5V _,fun _=>⟨(hpl4.off hst4 off5).fill hp5 _,hdf4,rfl⟩,fun h=>(by cases h),by have :=HS.out.most;omega,HTO.out,setCells_whole [.int .i64 p'.s,.int .i64 p'.x,.slice p'.A p'.ss.length p'.c] [] (Pth.cells (⟨(js:Int),(jx:Int),Ap,cp,ss⟩:Pth)) rfl hp5,by omega,hg4U,hg5V⟩;have HFIN:=Zz hfin;have HM4:=Zz hm4;clear hfin hc4 hst4 hp4 hp5 hdf4 H4 b5 o5 e5 off5 hpl4 hm4;gi_wp2_with fail;refine(fun(hI2:PI14 J R w0 B l js jx L g1 g2 g3 (todoN l (Zq l js) ((u'++[p']).map Pth.ss)+1) _ _)=>⟨⟨_,hI2⟩,Nat.lt_of_lt_of_eq (Nat.lt_of_le_of_lt (least_le hI2) (by have :=HM4.out;omega)) HN.out.symm⟩) ⟨_,_,_,_,_,_,_,_,_,_,_,_,_,_,_,_,_,_,_,_,_,_,_,_,_,_,_,_,_,_,_,_,_,_,_,_,_,_,HFIN.out,rfl⟩
    · have hmk3:=HMK.out.1.kept hg' hk';have hlt3:=hg'.lt;have HE3:=Zz (And.intro hmk3 (And.intro hlt3 hJx3));clear hmk3 hlt3 hJx3 hg' hk';gi_wp2_with fail;exact leaves_marks (v:=.tuple #[]) (B:=B) (U:=U3) (fun w=>results_none rfl _ _ _) Ds W3 HE3.out.1 fun W'' hW'=>⟨⟨_,rfl⟩,U3,fun k hk=>Nat.lt_of_lt_of_le (HE3.out.2.1 k hk) hW'.size,.inr (hJx U3 () _ _ HE3.out.2.2 hW')⟩
end
end Go.Proofs.YtifnlhfinjfajaaGreatDoor
