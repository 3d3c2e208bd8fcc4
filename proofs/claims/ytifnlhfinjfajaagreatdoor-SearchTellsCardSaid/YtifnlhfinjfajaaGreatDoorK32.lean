/- Of this seat: ShH, ShI, ShJ. -/
import Derived.Test.YtifnlhfinjfajaaGreatDoorK31
namespace Go.Proofs.YtifnlhfinjfajaaGreatDoor
set_option linter.unusedVariables false
set_option linter.unusedSimpArgs false
set_option maxRecDepth 100000
set_option maxHeartbeats 32000000
section
open Go.RowKit Go.Shelf
attribute [local go_sem] Oper.semAt_some
def okP (l:Lay) (vs:List Int) (q:Pth):Bool:=Zs (secsS q.ss) vs&& !clashN (ofV l q)
def selP (l:Lay) (vs:List Int) (hs:List Pth):List Pth:=hs.filter (okP l vs)
theorem sel_yes {l:Lay} {vs:List Int} {hs:List Pth} {p:Pth} (h:okP l vs p=true):selP l vs (hs++[p])=selP l vs hs++[p]:=by
 unfold selP;rw[List.filter_append];simp[h]
theorem sel_no {l:Lay} {vs:List Int} {hs:List Pth} {p:Pth} (h:okP l vs p=false):selP l vs (hs++[p])=selP l vs hs:=by
 unfold selP;rw[List.filter_append];simp[h]
theorem sel_ss {l:Lay} {vs:List Int} {s x:Int}:∀ {hs:List Pth},(∀q ∈ hs,q.s=s∧q.x=x)→(selP l vs hs).map Pth.ss=(hs.map Pth.ss).filter (fun w=>Zs (secsS w) vs&& !clashN (ofV l (mkP s x w)))
 |[],_=>rfl
 |q::hs,h=>by
  have ih:=sel_ss (l:=l) (vs:=vs) (s:=s) (x:=x) (hs:=hs) fun p hp=>h p (List.mem_cons_of_mem _ hp);obtain⟨h1,h2⟩:=h q (by simp);have e:okP l vs q=(Zs (secsS q.ss) vs&& !clashN (ofV l (mkP s x q.ss))):=by rw[←h1,←h2];rfl
  unfold selP at *;rw[List.filter_cons,List.map_cons,List.filter_cons,←e];cases okP l vs q
  · exact ih
  · show q.ss::_=q.ss::_;rw[ih]
structure SrvI (w:World) (l:Lay) (vs:List Int) (A:Option Addr) (c:Nat) (U:Nat→Prop) (hs:List Pth) (W:World):Prop where
 below:Below w.heap.size w W
 size:w.heap.size+6≤W.heap.size
 lbox:Whole W w.heap.size 29 l.cells
 vbox:Whole W (w.heap.size+1) 30 [.slice A vs.length c]
 row:∃v,Whole W (w.heap.size+1+1) 33 [v]∧W.ownsRow (w.heap.size+6) 46 3 v (selP l vs hs).length ((selP l vs hs).flatMap Pth.cells)∧∀b,v.ownBlock=some b→U b
 each:∀q ∈ selP l vs hs,stepRow W 0 q∧∀b,blk q=some b→U b
theorem SrvI.safe (w:World) (l:Lay) (vs:List Int) (A:Option Addr) (c:Nat):Safe (w.heap.size+6) (SrvI w l vs A c):=by
 rintro U hs W W' ⟨h1,h2,h3,h4,⟨v,h5,h6,h7⟩,h8⟩ ht;exact⟨Safe.below (β:=Unit) (B:=w.heap.size+6) (by omega) (Nat.le_refl _) U () W W' h1 ht,Nat.le_trans h2 ht.size,ht.whole h3 (.inl (by omega)),ht.whole h4 (.inl (by omega)),⟨v,ht.whole h5 (.inl (by omega)),owns_stays ht h6 (fun b hb=>.inr (h7 b hb)),h7⟩,fun q hq=>⟨owns_stays ht (h8 q hq).1 (fun b hb=>.inr ((h8 q hq).2 b hb)),(h8 q hq).2⟩⟩
theorem SrvI.up {w W:World} {l:Lay} {vs:List Int} {A:Option Addr} {c:Nat} {U U':Nat→Prop} {hs:List Pth} (h:SrvI w l vs A c U hs W) (hU:∀k,U k→U' k):SrvI w l vs A c U' hs W:=
 ⟨h.1,h.2,h.3,h.4,let ⟨v,h5,h6,h7⟩:=h.5;⟨v,h5,h6,fun b hb=>hU b (h7 b hb)⟩,fun q hq=>⟨(h.each q hq).1,fun b hb=>hU b ((h.each q hq).2 b hb)⟩⟩
theorem SrvI.go {w W:World} {l:Lay} {vs:List Int} {A:Option Addr} {c:Nat} {U:Nat→Prop} {hs:List Pth} {p:Pth} (h:SrvI w l vs A c U hs W) (hp:okP l vs p=false):SrvI w l vs A c U (hs++[p]) W:=
 ⟨h.1,h.2,h.3,h.4,by rw[sel_no hp];exact h.5,by rw[sel_no hp];exact h.6⟩
theorem SrvI.after {w W W':World} {l:Lay} {vs:List Int} {A:Option Addr} {c:Nat} {U:Nat→Prop} {hs:List Pth} (h:SrvI w l vs A c U hs W) (hb:Below W.heap.size W W'):SrvI w l vs A c U hs W':=SrvI.safe w l vs A c _ _ _ _ h (Stays.below hb)
theorem SrvI.append {w W:World} {l:Lay} {vs:List Int} {A:Option Addr} {c:Nat} {U:Nat→Prop} {hs:List Pth} {p:Pth} (h:SrvI w l vs A c U hs W) (hp:okP l vs p=true) (hrow:stepRow W 0 p) (hpU:∀b,blk p=some b→U b) (hUl:∀k,U k→k<W.heap.size) (hn:hs.length≤100000):
 ∃v,W.cell? ⟨w.heap.size+1+1,0,none⟩=some v∧∃v' W3,(Builtin.append_ #[33,33] 33 #[v,.slice (some ⟨W.heap.size,0,none⟩) 1 1]).run Tryz.prog (W.alloc (.cells #[.int .i64 p.s,.int .i64 p.x,.slice p.A p.ss.length p.c] 46))= .ok v' W3 ∧
  Whole W3 (w.heap.size+1+1) 33 [v]∧(∃A n c,v'= .slice A n c) ∧
  SrvI w l vs A c (With U W (W3.setCell ⟨w.heap.size+1+1,0,none⟩ v')) (hs++[p]) (W3.setCell ⟨w.heap.size+1+1,0,none⟩ v') ∧
  W.heap.size≤(W3.setCell ⟨w.heap.size+1+1,0,none⟩ v').heap.size∧Kept (fun k=>k<w.heap.size∨(k=w.heap.size+3∨(k=w.heap.size+4∨k=w.heap.size+5))) (w.heap.size+6) U W (W3.setCell ⟨w.heap.size+1+1,0,none⟩ v'):=by
 obtain⟨h1,h2,g1,g2,⟨v,h5,h6,h7⟩,h8⟩:=h
 refine⟨v,h5.Za 0 rfl,?_⟩
 have hb1:=below1 W (.cells #[.int .i64 p.s,.int .i64 p.x,.slice p.A p.ss.length p.c] 46)
 have hnj:(selP l vs hs).length≤1000000:=by have :=List.length_filter_le (okP l vs) hs;unfold selP;omega
 obtain⟨v',W3,hrun,hown,hgr,hBl,hblk⟩:=append_path (w.heap.size+6) (selP l vs hs).length v ((selP l vs hs).flatMap Pth.cells) p (W.alloc (.cells #[.int .i64 p.s,.int .i64 p.x,.slice p.A p.ss.length p.c] 46)) W.heap.size (Zh h6 hb1) (Whole.new W _ (Pth.cells p)) hnj (by simp;omega)
 have hvb:∀b,v.ownBlock=some b→w.heap.size+6≤b:=fun b hb=>(h6.lt b hb).1
 have hs3:W.heap.size+1≤W3.heap.size:=by have :=hgr.size;simpa using this
 have hkeep:∀k o,W.heap[k]? =some o→(∀b,v.ownBlock=some b→k≠b)→W3.heap[k]? =some o:=fun k o ho hne=>by
  have hlt:=(Array.getElem?_eq_some_iff.1 ho).1;exact(hgr.block k (by simp;omega) (fun e=>hne k e.symm rfl)).trans ((hb1.block k hlt).trans ho)
 have hset:∀k o,W3.heap[k]? =some o→k≠w.heap.size+1+1→(W3.setCell ⟨w.heap.size+1+1,0,none⟩ v').heap[k]? =some o:=fun k o ho hne=>(Below.heap_setCell W3 ⟨w.heap.size+1+1,0,none⟩ v' k hne).trans ho
 have hbox3:Whole W3 (w.heap.size+1+1) 33 [v]:=hkeep _ _ h5 (fun b hb=>by have :=hvb b hb;omega)
 have hsz:(W3.setCell ⟨w.heap.size+1+1,0,none⟩ v').heap.size=W3.heap.size:=by simp[World.setCell]
 have hst:∀q:Pth,stepRow W 0 q→stepRow (W3.setCell ⟨w.heap.size+1+1,0,none⟩ v') 0 q:=fun q hq=>by
  refine owns_keeps (S:=fun k=>(∀b,v.ownBlock=some b→k≠b)∧k≠w.heap.size+1+1) (fun k o hk ho=>hset k o (hkeep k o ho hk.1) hk.2) hq (fun b hb=>⟨fun b' hb' e=>?_,fun e=>?_⟩)
  · subst e;exact apart_row h6 hq hb hb'
  · subst e;obtain⟨cur,hc⟩:=owns_obj hq hb;have h5':W.heap[w.heap.size+1+1]? =_:=h5;rw[h5'] at hc;injection hc with hc
    injection hc with _ hc
    exact absurd hc (by decide)
 refine⟨v',W3,hrun,hbox3,(let ⟨A,c,e,_⟩:=ownsS_slice hown;⟨A,_,c,e⟩),⟨?_,by rw[hsz];omega,?_,?_,⟨v',hbox3.set 0 v',?_,?_⟩,fun q hq=>?_⟩,by rw[hsz];omega,⟨by rw[hsz];omega,?_⟩⟩
 · exact(h1.trans ((hb1.mono (by omega)).trans (hBl.mono (by omega)))).setCell (p:=⟨w.heap.size+1+1,0,none⟩) (by show w.heap.size≤w.heap.size+1+1;omega) _
 · exact hset _ _ (hkeep _ _ g1 (fun b hb=>by have :=hvb b hb;omega)) (by omega)
 · exact hset _ _ (hkeep _ _ g2 (fun b hb=>by have :=hvb b hb;omega)) (by omega)
 · rw[sel_yes hp,List.length_append,List.flatMap_append];have :=hown.kept (grownBy_setCell' W3 (w.heap.size+1+1) v') (.inr (fun e=>by have :=(hown.lt _ e).1;omega));simpa using this
 · intro b hb;rcases hblk with e|e
   · exact .inl (h7 b (e ▸ hb))
   · rw[hb] at e;have e':=Option.some.inj e;refine .inr ⟨by rw[e'];simp,by rw[hsz];exact(hown.lt b hb).2⟩
 · rw[sel_yes hp] at hq;rcases List.mem_append.1 hq with hq|hq
   · exact⟨hst q (h8 q hq).1,fun b hb=>.inl ((h8 q hq).2 b hb)⟩
   · obtain rfl:q=p:=by simpa using hq
     exact⟨hst q hrow,fun b hb=>.inl (hpU b hb)⟩
 · intro k o ho hr;refine hset _ _ (hkeep _ _ ho (fun b hb e=>?_)) (fun e=>?_)
   · have :=hvb b hb;rcases hr with hr|hr
     · omega
     · exact hr.2 (e ▸ h7 b hb)
   · rcases hr with hr|hr <;> omega
theorem serving14_any {l:Lay} {js jx:Nat} {vs:List Int} {A:Option Addr} {c:Nat} {w:World} (hT:Shapes w) (hL:Lies l w) (hm:Sml14 l) (hR:Row w w.heap.size A (nums .i64 vs)) (hcap:vs.length≤c) (hn:(vs.length:Int)≤9223372036854775807) (hjs:js<l.sigs.length) (hjx:jx<l.exits.length) (hask:askV l js jx vs=true):
 Calls Tryz.prog 30 #[l.val,.int .i64 js,.int .i64 jx,.slice A vs.length c] w fun e w'=>∃A' c' qs,e= .returned (.slice A' qs.length c')∧PsOwn w.heap.size qs A' c' w'∧qs.map Pth.ss=allV l js jx vs∧(∀q ∈ qs,q.s=js∧q.x=jx)∧Below w.heap.size w w':=by
 obtain⟨W3,hW3⟩:∃W3,((w.alloc (.cells #[.slice l.As l.secs.length l.cs,.slice l.Ag l.sigs.length l.cg,.slice l.Ae l.exits.length l.ce,.slice l.Af l.flanks.length l.cf,.int .i64 l.t0,.int .i64 l.t1,.int .i64 l.t2,.int .i64 l.t3,.int .i64 l.t4,.int .i64 l.t5,.int .i64 l.t6] 29)).alloc (.cells #[.slice A vs.length c] 30)).alloc (.cells #[.slice none 0 0] 33)=W3:=⟨_,rfl⟩
 have HS3:Hid (Below w.heap.size w W3∧W3.heap.size=w.heap.size+3∧Whole W3 w.heap.size 29 l.cells∧Whole W3 (w.heap.size+1) 30 [.slice A vs.length c]∧Whole W3 (w.heap.size+1+1) 33 [.slice none 0 0]):=Zz (by
  rw[←hW3];exact⟨below3 w _ _ _,by simp,((Whole.new w _ l.cells).alloc _).alloc _,(Whole.Zj _ _ [_] _ (by simp)).alloc _,Whole.Zj _ _ [_] _ (by simp)⟩)
 rw[←hW3] at HS3
 obtain⟨x0,x1,x2,x3,x4,x5,x6,x7,x8,x9,x10⟩:=(HS3.out.2.2.1).c11
 have v0:=HS3.out.2.2.2.1.Za 0 rfl
 rw[hW3] at HS3
 have HW3:=Zz hW3
 clear hW3
 refine(callsIn_wide (n:=5)).1 ?_
 refine callsIn_of_wp_marks Tryz.func30 rfl trivial ?_ rfl
 simp only[Tryz.ntmps30,Ld,Le,Lf,Nat.reduceAdd,Nat.reduceSub,Lg,Lh,Li,Lj,Lk,Ll]
 gi_wp2_with fail
 try rw[HW3.out]
 refine⟨trivial,(callsIn_wide.2 (paths14_any l js jx _)).mono ?_⟩
 clear x0 x1 x2 x3 x4 x5 x6 x7 x8 x9 x10 v0
 rintro e w2 ⟨rfl,rfl⟩
 gi_wp2_with fail
 obtain⟨W0,hW0,hsz,hB0,b0,b1,b2,b3,b4,b5⟩:∃W0,(((W3.alloc (.cells #[.slice l.As l.secs.length l.cs,.slice l.Ag l.sigs.length l.cg,.slice l.Ae l.exits.length l.ce,.slice l.Af l.flanks.length l.cf,.int .i64 l.t0,.int .i64 l.t1,.int .i64 l.t2,.int .i64 l.t3,.int .i64 l.t4,.int .i64 l.t5,.int .i64 l.t6] 29)).alloc (.cells #[.int .i64 (js:Int)] 3)).alloc (.cells #[.int .i64 (jx:Int)] 3))=W0∧W0.heap.size=w.heap.size+6∧Below w.heap.size w W0∧Whole W0 w.heap.size 29 l.cells∧Whole W0 (w.heap.size+1) 30 [.slice A vs.length c]∧Whole W0 (w.heap.size+1+1) 33 [.slice none 0 0]∧Whole W0 (w.heap.size+3) 29 l.cells∧Whole W0 (w.heap.size+4) 3 [.int .i64 (js:Int)]∧Whole W0 (w.heap.size+5) 3 [.int .i64 (jx:Int)]:=by
  have h3:=HS3.out;exact⟨_,rfl,by simp;omega,h3.1.trans ((below3 W3 _ _ _).mono (by omega)),((h3.2.2.1.alloc _).alloc _).alloc _,((h3.2.2.2.1.alloc _).alloc _).alloc _,((h3.2.2.2.2.alloc _).alloc _).alloc _,((Whole.Zj _ _ l.cells _ (by omega)).alloc _).alloc _,(Whole.Zj _ _ [_] _ (by simp;omega)).alloc _,Whole.Zj _ _ [_] _ (by simp;omega)⟩
 have hs3:W3.heap.size=w.heap.size+3:=HS3.out.2.1
 rw[hW0]
 try rw[hs3]
 clear hW0 hs3
 have hkw:Keeps (· <w.heap.size) w W0:=fun k o hk ho=>(hB0.block k hk).trans ho
 have hit:=paths14_iter (w0:=W0) (R:=fun k=>k<w.heap.size∨(k=w.heap.size+3∨(k=w.heap.size+4∨k=w.heap.size+5))) (g1:=w.heap.size+3+1) (g2:=w.heap.size+3+1+1) (g3:=w.heap.size+3) (l:=l) (js:=js) (jx:=jx) (fun W' hk hz=>by
  have hk':=hkw.trans (hk.sub fun k h=>.inl h);have hsz':=hz (w.heap.size+5) (.inr (.inr (.inr rfl)));exact⟨⟨hT.keeps hk' (fun _ h=>h),hL.keeps hk' (fun _ h=>h) (by omega)⟩,hk.whole (.inr (.inr (.inl rfl))) b4,hk.whole (.inr (.inr (.inr rfl))) b5,hk.whole (.inr (.inl rfl)) b3⟩) hjs hjx (Nat.le_trans (hm.walks _) (by omega))
 have hI0:SrvI w l vs A c (fun _=>False) [] W0:=⟨hB0,by omega,b0,b1,⟨_,b2,World.ownsRow_nil _ _ _ _,fun b hb=>(by cases hb)⟩,fun q hq=>(by cases hq)⟩
 have HTW:Hid (∀W,Below w.heap.size w W→(Shapes W∧Lies l W)∧Row W W.heap.size A (nums .i64 vs)):=Zz fun W hB=>⟨⟨Shapes.closed _ _ hT hB,Lies.closed l _ _ hL hB⟩,hR.on hB⟩
 have HSZ:=Zz hsz
 clear hT hL hR b0 b1 b2 b3 b4 b5 hB0 hkw HS3 HW3
 refine range_iterG (gf:=71) rfl (enters_of Tryz.func71 (by kernel_rfl) rfl) hit (Keeps.refl _ _) (fun k hk=>by have :=HSZ.out;rcases hk with h|h|h|h <;> omega) (fun _=>rfl) (by omega)
  (SrvI w l vs A c) (fun _ _ _=>False) (by rw[hsz];exact SrvI.safe w l vs A c) (fun _=>fun _ _ _ _ h _=>h.elim)
  hI0
  (fun U hs x a' W=>SrvI w l vs A c U hs W∧stepRow W 0 x∧(∀b,blk x=some b→U b)∧∃gp,Whole W gp 46 (Pth.cells x)∧U gp∧a'= {tmps:=#[l.val,.int .i64 (js:Int),.int .i64 (jx:Int),.slice A vs.length c,.pointer (some ⟨w.heap.size,0,none⟩),undef,undef,.pointer (some ⟨w.heap.size+1,0,none⟩),.slice none 0 0,.pointer (some ⟨w.heap.size+1+1,0,none⟩),.pointer (some ⟨gp,0,none⟩),.agg #[.slice l.As l.secs.length l.cs,.slice l.Ag l.sigs.length l.cg,.slice l.Ae l.exits.length l.ce,.slice l.Af l.flanks.length l.cf,.int .i64 l.t0,.int .i64 l.t1,.int .i64 l.t2,.int .i64 l.t3,.int .i64 l.t4,.int .i64 l.t5,.int .i64 l.t6],.int .i64 (js:Int),.int .i64 (jx:Int),.func (.func 71) #[] #[.pointer (some ⟨w.heap.size+3+1,0,none⟩),.pointer (some ⟨w.heap.size+3+1+1,0,none⟩),.pointer (some ⟨w.heap.size+3,0,none⟩)],x.val,undef,undef,undef,undef,undef,undef,undef,undef,undef,undef,undef,undef,undef,undef,undef],defers:=[]})
  (fun hs x a'=>by
   rw[hsz];rintro U u W W' ⟨h1,h2,h3,gp,h4,h5,h6⟩ ht;exact⟨SrvI.safe w l vs A c _ _ _ _ h1 ht,owns_stays ht h2 (fun b hb=>.inr (h3 b hb)),h3,gp,ht.whole h4 (.inr h5),h5,h6⟩)
  ?assign ?body ?done ?stop
 case assign=>
  rintro lr U hs x W K hx ⟨base,hlie⟩ hI hsW hU hTx hK;have hb:=below1 W (.cells (Pth.cells x).toArray 46);have hU2:∀k,(U k∨blk x=some k)→k<W.heap.size:=fun k hk=>hk.elim (hU k) (fun h=>(hTx k h).2.2);clear hx;gi_wp2_with fail;exact hK _ _ (With (fun k=>U k∨blk x=some k) W (W.alloc (.cells (Pth.cells x).toArray 46))) (Grew.with hU2 hb.size) (Kept.below hb) ⟨((hI.after hb).up (fun k h=>.inl (.inl h))),owns_base12 (Zh hlie hb) (Nat.zero_le _),fun b hbk=>.inl (.inr hbk),W.heap.size,Whole.new W _ (Pth.cells x),.inr ⟨Nat.le_refl _,by simp⟩,rfl⟩
 case body=>
  rintro lr U hs x a' W hl ⟨⟨hxs,hxx⟩,hpi,hlen⟩ ⟨hI,hrow,hbU,gp,hgp,hUg,rfl⟩ hU;clear hxs hxx;have hxl:=hpi.most;have hlies:PLies x W:=owns_lies hrow (by omega);have hf:=HTW.out W hI.below;obtain⟨t1,ht1⟩:∃b,Zs (secsS x.ss) vs=b:=⟨_,rfl⟩;have K1:=Zz (through11_any hlies hf.2 hcap hn ht1);have v0:=hI.vbox.Za 0 rfl;obtain⟨y0,y1,y2⟩:=hgp.c3;have HI:=Zz (And.intro hI (And.intro hrow (And.intro hbU (And.intro hgp hU))));have HT1:=Zz ht1;clear hI hrow hbU hgp hlies hf ht1;gi_wp2_with fail;refine⟨trivial,(CallsIn.inRound _ (callsIn_wide.2 K1.out)).mono ?_⟩;clear K1 v0 y0 y1 y2;rintro e w3 ⟨rfl,hB3⟩;cases t1
  · have hok:okP l vs x=false:=by unfold okP;rw[HT1.out];rfl
    have HN:Hid (SrvI w l vs A c U (hs++[x]) w3∧Kept (fun k=>k<w.heap.size∨(k=w.heap.size+3∨(k=w.heap.size+4∨k=w.heap.size+5))) (w.heap.size+6) U W w3):=Zz ⟨(HI.out.1.after hB3).go hok,Kept.below hB3⟩;have hs3:=hB3.size;clear hB3;gi_wp2_with fail;refine⟨trivial,?_⟩;gi_wp2_with fail;rw[HSZ.out];exact⟨U,Grew.refl HI.out.2.2.2.2 hs3,HN.out.2,HN.out.1⟩
  obtain⟨hI,hrow,hbU,hgp,hU⟩:=HI.out;have hI3:=hI.after hB3;have hrow3:=Zh hrow hB3;have hgp3:=hgp.below hB3 hgp.lt;have hf:=HTW.out w3 hI3.below;obtain⟨t2,ht2⟩:∃b,(!clashN (ofV l x))=b:=⟨_,rfl⟩;have K2:=Zz (fineB_any hf.1.1 hf.1.2 (owns_lies hrow3 (by omega)) (fun e he=>Nat.le_trans (hm.overs e he) (by omega)) (Nat.le_trans hm.flanks (by omega)) (hm.of (by omega)) (hm.wf x) ht2);obtain⟨x0,x1,x2,x3,x4,x5,x6,x7,x8,x9,x10⟩:=(hI3.lbox).c11;obtain⟨y0,y1,y2⟩:=hgp3.c3;have HI3:=Zz (And.intro hI3 (And.intro hrow3 (And.intro hgp3 hB3)));have HT2:=Zz ht2;clear hI hrow hgp hI3 hrow3 hgp3 hf ht2 hB3;gi_wp2_with fail;refine⟨trivial,(CallsIn.inRound _ (callsIn_wide.2 K2.out)).mono ?_⟩;clear K2 x0 x1 x2 x3 x4 x5 x6 x7 x8 x9 x10 y0 y1 y2;rintro e w4 ⟨rfl,hB4⟩;obtain⟨hI3,hrow3,hgp3,hB3⟩:=HI3.out;have hB34:=hB3.trans (hB4.mono hB3.size);cases t2
  · have hok:okP l vs x=false:=by unfold okP;rw[HT1.out,HT2.out];rfl
    have HN:Hid (SrvI w l vs A c U (hs++[x]) w4∧Kept (fun k=>k<w.heap.size∨(k=w.heap.size+3∨(k=w.heap.size+4∨k=w.heap.size+5))) (w.heap.size+6) U W w4):=Zz ⟨(hI3.after hB4).go hok,Kept.below hB34⟩;have hs3:=hB34.size;clear hB3 hB4 hB34 hI3 hrow3 hgp3 hbU;gi_wp2_with fail;rw[HSZ.out];exact⟨U,Grew.refl HI.out.2.2.2.2 hs3,HN.out.2,HN.out.1⟩
  have hok:okP l vs x=true:=by unfold okP;rw[HT1.out,HT2.out];rfl
  have hU4:∀k,U k→k<w4.heap.size:=fun k h=>Nat.lt_of_lt_of_le (hU k h) hB34.size;obtain⟨v,c0,v',W5,hrun,hbx5,⟨A',n',c',rfl⟩,hI5,hs5,hk5⟩:=(hI3.after hB4).append hok (Zh hrow3 hB4) hbU hU4 (by omega);have hgp4:=hgp3.below hB4 hgp3.lt;obtain⟨y0,y1,y2⟩:=hgp4.c3;have f0:=hbx5.frozen 0;have c5:=hbx5.Za 0 rfl;have HK5:Hid (Kept (fun k=>k<w.heap.size∨(k=w.heap.size+3∨(k=w.heap.size+4∨k=w.heap.size+5))) (w.heap.size+6) U W (W5.setCell ⟨w.heap.size+1+1,0,none⟩ (.slice A' n' c'))):=Zz ⟨Nat.le_trans hB34.size hk5.size,fun k o ho hr=>hk5.rest k o ((hB34.block k (Array.getElem?_eq_some_iff.1 ho).1).trans ho) hr⟩;have HI5:Hid (SrvI w l vs A c (With U W (W5.setCell ⟨w.heap.size+1+1,0,none⟩ (.slice A' n' c'))) (hs++[x]) (W5.setCell ⟨w.heap.size+1+1,0,none⟩ (.slice A' n' c'))):=Zz (hI5.up fun k hk=>hk.imp id (fun h=>⟨Nat.le_trans hB34.size h.1,h.2⟩));clear hI3 hrow3 hgp3 hB3 hB4 hgp4 hk5 hI5 hbx5 hbU hB34 hU4;gi_wp2_with (gi_at_builtin;refine listIn_append rfl (.tmp 24) (.tmp 26) 33 rfl hrun ?_);rw[HSZ.out];exact⟨_,Grew.with HI.out.2.2.2.2 HK5.out.size,HK5.out,HI5.out⟩
 case stop=>
  rintro D cc U W _ _ h _;exact h.elim
 case done=>
  rintro D U hs W hD hUD ⟨hend,hdf⟩ hI hK;rw[hsz] at hD;obtain⟨h1,h2,h3,h4,⟨v,h5,h6,h7⟩,h8⟩:=hI;have hpm:∀p ∈ selP l vs hs,p.ss.length≤12:=fun p hp=>(dfsP_path hdf p.ss (List.mem_map.2 ⟨p,(List.mem_filter.1 hp).1,rfl⟩)).most;have hnl:(selP l vs hs).length≤100000:=by
   have q1:=List.length_filter_le (okP l vs) hs;have q2:=dfsP_len hdf;rw[List.length_map] at q2;have :=hm.walks (Zq l js);unfold selP;omega
  obtain⟨A2,c2,rfl,hrow,_⟩:=ownsS_slice h6;have hf:=HTW.out W h1;have KS:=Zz (sortO14_any (l:=l) (ps:=selP l vs hs) (A:=A2) c2 hf.1.1 hf.1.2 ⟨hrow,fun p hp=>owns_lies (h8 p hp).1 (by have :=hpm p hp;omega)⟩ (fun p hp=>by have :=hpm p hp;omega) hnl);have c0:=h5.Za 0 rfl;obtain⟨x0,x1,x2,x3,x4,x5,x6,x7,x8,x9,x10⟩:=h3.c11;have HSS:=Zz (sel_ss (l:=l) (vs:=vs) hend);have HDF:=Zz hdf;have HEN:Hid (∀p ∈ selP l vs hs,p.s=js∧p.x=jx):=Zz fun p hp=>hend p (List.mem_filter.1 hp).1;have HB1:=Zz (And.intro h1 (And.intro hK hD));clear hend hdf h1 h2 h3 h4 h5 h6 h7 h8 hpm hnl hrow hf hK hD;gi_wp2_with fail;refine⟨trivial,(callsIn_wide.2 KS.out).mono ?_⟩;clear KS c0 x0 x1 x2 x3 x4 x5 x6 x7 x8 x9 x10;rintro e w5 ⟨A',c',qs,d,rfl,⟨hql,hqp⟩,hd,hv,hB5⟩;obtain⟨h1,hK,hD⟩:=HB1.out;have hK5:w5.heap[D]? =some (.deferred (some [])):=(hB5.block D (Array.getElem?_eq_some_iff.1 hK).1).trans hK;obtain⟨s1,s2,s3⟩:=sorted14 hd.1 hd.2 hv;rw[HSS.out] at s1;have hall:qs.map Pth.ss=allV l js jx vs:=dfsP_all hask HDF.out s1 s2;have hpl:PsOwn w.heap.size qs A' c' (w5.putObj D (.deferred none)):=(hqp.mark hK5 _).base h1.size;have hbl:Below w.heap.size w (w5.putObj D (.deferred none)):=(h1.trans (hB5.mono h1.size)).trans (belowK_b (w:=w) (Nat.le_refl _) _ D _ _ (by omega) hK5 rfl rfl);have hqe:∀q ∈ qs,q.s=js∧q.x=jx:=fun q hq=>by
   obtain⟨p,hp,e1,e2⟩:=s3 q hq;obtain⟨e3,e4⟩:=HEN.out p hp;exact⟨e1.trans e3,e2.trans e4⟩
  rw[←hql];have HFI:=Zz (And.intro hpl (And.intro hall (And.intro hqe hbl)));clear hpl hall hqe hbl s1 s2 s3 hd hv hB5 hqp hql h1 hK hD;gi_wp2_with fail;refine⟨by simp,.inl ⟨_,_,rfl,run_takeDeferred hK5,?_⟩⟩;refine⟨.slice A' qs.length c',by simp[results,Tryz.f30,go_sem],⟨A',c',qs,rfl,HFI.out.1,HFI.out.2.1,HFI.out.2.2.1,HFI.out.2.2.2⟩⟩
end
section
open Go.RowKit Go.Shelf
theorem ask_no1 {l:Lay} {s x:Int} {vs:List Int} (h:rightT l=false):askV l s x vs=false:=by unfold askV;rw[h];rfl
theorem known14 (l:Lay) (s x:Int):knownV l (mkP s x [])=((decide (0≤s)&&decide (s<l.sigs.length))&&(decide (0≤x)&&decide (x<l.exits.length))):=rfl
theorem all14_any {l:Lay} {s x:Int} {vs:List Int} {A:Option Addr} {c:Nat} {w:World} (hT:Shapes w) (hL:Lies l w) (hm:Sml14 l) (hR:Row w w.heap.size A (nums .i64 vs)) (hcap:vs.length≤c) (hn:(vs.length:Int)≤9223372036854775807):
 Calls Tryz.prog 10 #[l.val,.int .i64 s,.int .i64 x,.slice A vs.length c] w fun e w'=>∃A' c' qs,e= .returned (.tuple #[.slice A' qs.length c',.int .i64 (errA l s x vs)])∧PsOwn w.heap.size qs A' c' w'∧qs.map Pth.ss=allV l s x vs∧(∀q ∈ qs,q.s=s∧q.x=x)∧Below w.heap.size w w':=by
 obtain⟨Q,HQ,HQb,HQl,hq⟩:=keep_box (Closed.below w) (Below.refl _ w) 29 l.cells
 have HTW:Hid (∀W,Q W→(Shapes W∧Lies l W)∧Row W W.heap.size A (nums .i64 vs)):=Zz fun W hW=>⟨⟨Shapes.closed _ _ hT (HQb.out W hW),Lies.closed l _ _ hL (HQb.out W hW)⟩,hR.on (HQb.out W hW)⟩
 obtain⟨rt,hrt⟩:∃b,rightT l=b:=⟨_,rfl⟩
 obtain⟨b1,hb1⟩:∃b,(decide (0≤s)&&decide (s<l.sigs.length))=b:=⟨_,rfl⟩
 obtain⟨b2,hb2⟩:∃b,(decide (0≤x)&&decide (x<l.exits.length))=b:=⟨_,rfl⟩
 obtain⟨b3,hb3⟩:∃b,viasV l vs=b:=⟨_,rfl⟩
 have KR:=Zz (fun W hW=>keepR HQ.out (rightT_any (w:=W) (HTW.out W hW).1.1 (HTW.out W hW).1.2 hrt) hW)
 have K1:=Zz (fun W hW=>keepR HQ.out (within14_any s l.sigs.length hb1 W) hW)
 have K2:=Zz (fun W hW=>keepR HQ.out (within14_any x l.exits.length hb2 W) hW)
 have K3:=Zz (fun W hW=>keepR HQ.out (viasRight14_any (l:=l) (vs:=vs) (A:=A) c (w:=W) (HTW.out W hW).2 hn hb3) hW)
 have HRT:=Zz hrt
 have HB1:=Zz hb1
 have HB2:=Zz hb2
 have HB3:=Zz hb3
 clear hT hL hR hrt hb1 hb2 hb3
 obtain⟨x0,x1,x2,x3,x4,x5,x6,x7,x8,x9,x10⟩:=(HQl.out _ hq).c11
 go_enter Tryz.func10,Tryz.ntmps10
 go_wp2_with fail
 refine(KR.out _ hq).mono ?_
 clear hq x0 x1 x2 x3 x4 x5 x6 x7 x8 x9 x10
 rintro e w1 ⟨rfl,hq⟩
 cases rt
 · have HF:Hid (errA l s x vs=2∧allV l s x vs=[]):=Zz (have h:askV l s x vs=false:=ask_no1 HRT.out;⟨by unfold errA;rw[h];rfl,all_asked h⟩);go_wp2_with fail;refine bodyPost_ret (v:=.tuple #[.slice none 0 0,.int .i64 2]) (by simp[results,Tryz.f10,go_sem]) rfl ⟨none,0,[],by rw[HF.out.1];rfl,PsOwn.nil _ _,by rw[HF.out.2];rfl,fun q hq=>(by cases hq),HQb.out _ hq⟩
 obtain⟨x0,x1,x2,x3,x4,x5,x6,x7,x8,x9,x10⟩:=(HQl.out _ hq).c11
 go_wp2_with fail
 refine(K1.out _ hq).mono ?_
 clear hq x0 x1 x2 x3 x4 x5 x6 x7 x8 x9 x10
 rintro e w2 ⟨rfl,hq⟩
 cases b1
 · have HF:Hid (errA l s x vs=2∧allV l s x vs=[]):=Zz (have h:askV l s x vs=false:=(by unfold askV;rw[known14,HB1.out,Bool.false_and,Bool.false_and,Bool.and_false]);⟨by unfold errA;rw[h];rfl,all_asked h⟩);go_wp2_with fail;refine bodyPost_ret (v:=.tuple #[.slice none 0 0,.int .i64 2]) (by simp[results,Tryz.f10,go_sem]) rfl ⟨none,0,[],by rw[HF.out.1];rfl,PsOwn.nil _ _,by rw[HF.out.2];rfl,fun q hq=>(by cases hq),HQb.out _ hq⟩
 obtain⟨x0,x1,x2,x3,x4,x5,x6,x7,x8,x9,x10⟩:=(HQl.out _ hq).c11
 go_wp2_with fail
 refine(K2.out _ hq).mono ?_
 clear hq x0 x1 x2 x3 x4 x5 x6 x7 x8 x9 x10
 rintro e w3 ⟨rfl,hq⟩
 cases b2
 · have HF:Hid (errA l s x vs=2∧allV l s x vs=[]):=Zz (have h:askV l s x vs=false:=(by unfold askV;rw[known14,HB2.out,Bool.and_false,Bool.false_and,Bool.and_false]);⟨by unfold errA;rw[h];rfl,all_asked h⟩);go_wp2_with fail;refine bodyPost_ret (v:=.tuple #[.slice none 0 0,.int .i64 2]) (by simp[results,Tryz.f10,go_sem]) rfl ⟨none,0,[],by rw[HF.out.1];rfl,PsOwn.nil _ _,by rw[HF.out.2];rfl,fun q hq=>(by cases hq),HQb.out _ hq⟩
 obtain⟨x0,x1,x2,x3,x4,x5,x6,x7,x8,x9,x10⟩:=(HQl.out _ hq).c11
 go_wp2_with fail
 refine(K3.out _ hq).mono ?_
 clear hq x0 x1 x2 x3 x4 x5 x6 x7 x8 x9 x10
 rintro e w4 ⟨rfl,hq⟩
 cases b3
 · have HF:Hid (errA l s x vs=2∧allV l s x vs=[]):=Zz (have h:askV l s x vs=false:=(by unfold askV;rw[HB3.out,Bool.and_false,Bool.and_false]);⟨by unfold errA;rw[h];rfl,all_asked h⟩);go_wp2_with fail;refine bodyPost_ret (v:=.tuple #[.slice none 0 0,.int .i64 2]) (by simp[results,Tryz.f10,go_sem]) rfl ⟨none,0,[],by rw[HF.out.1];rfl,PsOwn.nil _ _,by rw[HF.out.2];rfl,fun q hq=>(by cases hq),HQb.out _ hq⟩
 have hb1:=HB1.out
 have hb2:=HB2.out
 rw[Bool.and_eq_true,decide_eq_true_iff,decide_eq_true_iff] at hb1 hb2
 obtain⟨js,rfl⟩:∃n:Nat,s=n:=⟨s.toNat,by omega⟩
 obtain⟨jx,rfl⟩:∃n:Nat,x=n:=⟨x.toNat,by omega⟩
 have hask:askV l js jx vs=true:=by unfold askV;rw[known14,HRT.out,HB1.out,HB2.out,HB3.out];rfl
 have hf:=HTW.out _ hq
 have KS:=Zz (serving14_any hf.1.1 hf.1.2 hm hf.2 hcap hn (by omega:js<l.sigs.length) (by omega:jx<l.exits.length) hask)
 have HAS:=Zz hask
 have HBQ:=Zz (HQb.out _ hq)
 obtain⟨x0,x1,x2,x3,x4,x5,x6,x7,x8,x9,x10⟩:=(HQl.out _ hq).c11
 clear hb1 hb2 hf hask hq
 go_wp2_with fail
 refine KS.out.mono ?_
 clear KS x0 x1 x2 x3 x4 x5 x6 x7 x8 x9 x10
 rintro e w5 ⟨A',c',qs,rfl,hpl,hall,hqe,hB5⟩
 have hpl:=hpl.base HBQ.out.size
 have hB:=HBQ.out.trans (hB5.mono HBQ.out.size)
 have HER:Hid (errA l js jx vs=if allV l js jx vs=[] then 140 else 0):=Zz (by unfold errA;rw[HAS.out];rfl)
 by_cases hz:qs=[]
 · subst hz;have HF:Hid (errA l js jx vs=140):=Zz (by rw[HER.out,←hall];rfl);have HFI:=Zz (And.intro hpl (And.intro hall hB));clear hpl hall hqe hB hB5;go_wp2_with fail;refine bodyPost_ret (v:=.tuple #[.slice none 0 0,.int .i64 140]) (by simp[results,Tryz.f10,go_sem]) rfl ⟨none,0,[],by rw[HF.out];rfl,PsOwn.nil _ _,HFI.out.2.1,fun q hq=>(by cases hq),HFI.out.2.2⟩
 · have HF:Hid (errA l js jx vs=0):=Zz (by rw[HER.out,←hall,if_neg (fun e=>hz (List.map_eq_nil_iff.1 e))]);have HFI:=Zz (And.intro hpl (And.intro hall (And.intro hqe hB)));have q1:decide (qs=[])=false:=decide_eq_false hz;have q2:((qs.length:Int)==0)=false:=by rw[beq_eq_false_iff_ne];have :=List.length_pos_iff.2 hz;omega
   clear hpl hall hqe hB hB5;go_wp2_with fail;refine bodyPost_ret (v:=.tuple #[.slice A' qs.length c',.int .i64 0]) (by simp[results,Tryz.f10,go_sem]) rfl ⟨A',c',qs,by rw[HF.out],HFI.out.1,HFI.out.2.1,HFI.out.2.2.1,HFI.out.2.2.2⟩
end
section
open Go.RowKit Go.Shelf
attribute [local go_sem] Oper.semAt_some
abbrev ExE:Type:=Nat×Option Addr×Nat×List Pth
abbrev ExE.enc (e:ExE):Array Value:=#[.int .i64 (e.1:Int),.slice e.2.1 e.2.2.2.length e.2.2.1]
def ExOk (l:Lay) (s:Int) (hs:List ExE) (e:ExE):Prop:=e.1=hs.length∧e.1<l.exits.length∧askV l s e.1 []=true∧e.2.2.2.map Pth.ss=allV l s e.1 []∧∀q ∈ e.2.2.2,q.s=s∧q.x=e.1
def ExEnd (l:Lay) (s:Int) (hs:List ExE):Prop:=hs.length=l.exits.length∨(hs=[]∧∀x:Int,askV l s x []=false)
def ExLie (e:ExE) (W:World):Prop:=PsOwn 0 e.2.2.2 e.2.1 e.2.2.1 W
def ExT (e:ExE) (k:Nat):Prop:=blks e.2.1 e.2.2.1 e.2.2.2 k
theorem byExits14_any (l:Lay) (s:Int) (w:World):Calls Tryz.prog 33 #[l.val,.int .i64 s] w fun e w'=>e= .returned (.func (.func 51) #[] #[.pointer (some ⟨w.heap.size,0,none⟩),.pointer (some ⟨w.heap.size+1,0,none⟩)]) ∧
 w'=(w.alloc (.cells #[.slice l.As l.secs.length l.cs,.slice l.Ag l.sigs.length l.cg,.slice l.Ae l.exits.length l.ce,.slice l.Af l.flanks.length l.cf,.int .i64 l.t0,.int .i64 l.t1,.int .i64 l.t2,.int .i64 l.t3,.int .i64 l.t4,.int .i64 l.t5,.int .i64 l.t6] 29)).alloc (.cells #[.int .i64 s] 3):=by
 go_enter Tryz.func33,Tryz.ntmps33
 go_wp2_with fail
 go_ret
 exact⟨rfl,rfl⟩
theorem byExits14_iter {w0:World} {R:Nat→Prop} {g1 g2:Nat} {l:Lay} {s:Int} (HF:∀W',Keeps R w0 W'→(∀k,R k→k<W'.heap.size)→((Shapes W'∧Lies l W')∧(Whole W' g1 29 l.cells∧Whole W' g2 3 [.int .i64 s]))) (hm:Sml14 l):
 IterG Tryz.prog 51 #[.pointer (some ⟨g1,0,none⟩),.pointer (some ⟨g2,0,none⟩)] ExE.enc (ExOk l s) ExLie ExT (ExEnd l s) R w0:=by
 intro L J Jx W hk0 hRl hJ hJx hY h0
 obtain⟨B,hB⟩:∃B,W.heap.size=B:=⟨_,rfl⟩
 have hs0:B≤W.heap.size:=by omega
 rw[hB] at hJ hJx hY hRl
 have HFW:Hid (∀W',Keeps R w0 W'→B≤W'.heap.size→((Shapes W'∧Lies l W')∧(Whole W' g1 29 l.cells∧Whole W' g2 3 [.int .i64 s]))):=Zz fun W' hk hs=>HF W' hk fun k h=>Nat.lt_of_lt_of_le (hRl k h) hs
 obtain⟨rt,hrt⟩:∃b,rightT l=b:=⟨_,rfl⟩
 obtain⟨b1,hb1⟩:∃b,(decide (0≤s)&&decide (s<l.sigs.length))=b:=⟨_,rfl⟩
 have KR:Hid (∀W',Keeps R w0 W'→B≤W'.heap.size→Calls Tryz.prog 27 #[l.val] W' fun e w'=>e= .returned (.bool rt)∧Below W'.heap.size W' w'):=Zz fun W' hk hs=>have h:=HFW.out W' hk hs;rightT_any h.1.1 h.1.2 hrt
 have HRT:=Zz hrt
 have HB1:=Zz hb1
 have hnE:=(HFW.out W hk0 hs0).1.2.nE
 obtain⟨x0,x1,x2,x3,x4,x5,x6,x7,x8,x9,x10⟩:=((HFW.out W hk0 hs0).2.1).c11
 clear HF hRl hB hrt hb1
 refine(callsIn_wide (n:=3)).1 ?_
 refine callsIn_of_wp Tryz.func51 rfl trivial ?_ rfl
 simp only[Tryz.ntmps51,Ld,Le,Lf,Nat.reduceAdd,Nat.reduceSub,Lg,Lh,Li,Lj,Lk,Ll]
 gi_wp2_with fail
 refine⟨trivial,(callsIn_wide.2 (KR.out _ hk0 hs0)).mono ?_⟩
 clear x0 x1 x2 x3 x4 x5 x6 x7 x8 x9 x10
 rintro e w1 ⟨rfl,hB1⟩
 have hk1:=hk0.trans (Keeps.below hB1)
 have hs1:=Nat.le_trans hs0 hB1.size
 have h01:=hJ _ _ _ _ h0 (Stays.below hB1)
 clear hk0 hs0 h0 hB1
 cases rt
 · have HE:Hid (ExEnd l s []):=Zz (.inr ⟨rfl,fun x=>ask_no1 HRT.out⟩);gi_wp2_with fail;refine⟨trivial,?_⟩;gi_wp2_with fail;refine bodyPost_ret (results_none rfl _ _ _) rfl ?_;exact⟨⟨_,rfl⟩,fun _=>False,fun _ h=>h.elim,.inl ⟨[],HE.out,h01⟩⟩
 have K1:=Zz (within14_any s l.sigs.length HB1.out w1)
 obtain⟨x0,x1,x2,x3,x4,x5,x6,x7,x8,x9,x10⟩:=((HFW.out w1 hk1 hs1).2.1).c11
 have d0:=(HFW.out w1 hk1 hs1).2.2.Za 0 rfl
 gi_wp2_with fail
 refine⟨trivial,(callsIn_wide.2 K1.out).mono ?_⟩
 clear x0 x1 x2 x3 x4 x5 x6 x7 x8 x9 x10 d0 K1
 rintro e w2 ⟨rfl,hB2⟩
 have hk2:=hk1.trans (Keeps.below hB2)
 have hs2:=Nat.le_trans hs1 hB2.size
 have h02:=hJ _ _ _ _ h01 (Stays.below hB2)
 clear hk1 hs1 h01 hB2
 cases b1
 · have HE:Hid (ExEnd l s []):=Zz (.inr ⟨rfl,fun x=>by unfold askV;rw[known14,HB1.out,Bool.false_and,Bool.false_and,Bool.and_false]⟩);gi_wp2_with fail;refine bodyPost_ret (results_none rfl _ _ _) rfl ?_;exact⟨⟨_,rfl⟩,fun _=>False,fun _ h=>h.elim,.inl ⟨[],HE.out,h02⟩⟩
 have hb1:=HB1.out
 rw[Bool.and_eq_true,decide_eq_true_iff,decide_eq_true_iff] at hb1
 obtain⟨js,rfl⟩:∃n:Nat,s=n:=⟨s.toNat,by omega⟩
 have HJS:Hid (js<l.sigs.length):=Zz (by omega)
 have HASK:Hid (∀jx:Nat,jx<l.exits.length→askV l js jx []=true):=Zz fun jx hx=>by
  unfold askV;rw[known14,HRT.out,HB1.out,decide_eq_true (by omega:(0:Int)≤jx),decide_eq_true (by omega:(jx:Int)<l.exits.length)];simp[viasV]
 obtain⟨x0,x1,x2,x3,x4,x5,x6,x7,x8,x9,x10⟩:=((HFW.out w2 hk2 hs2).2.1).c11
 clear hb1 KR
 gi_wp2_with fail
 clear x0 x1 x2 x3 x4 x5 x6 x7 x8 x9 x10
 gi_loopw [19] (fun i wr=>∃(j:Nat) (U:Nat→Prop) (hs:List ExE),j≤l.exits.length∧i= .int .i64 j∧hs.length=j∧J U hs wr∧(∀k,U k→k<wr.heap.size)∧Keeps R w0 wr∧B≤wr.heap.size)
  (fun i _=>l.exits.length - (intOf i).toNat)
 case atStart=>exact⟨0,fun _=>False,[],by omega,rfl,rfl,h02,fun k h=>h.elim,hk2,hs2⟩
 case round=>
  clear h02 hk2 hs2;obtain⟨j,U,hs,hj,rfl,hsl,hJj,hUl,hk,hsz⟩:=hrel;by_cases hlt:j<l.exits.length
  · have hlt':(j:Int)<l.exits.length:=by omega
    have hf:=HFW.out wr hk hsz;have KS:=Zz (serving14_any (l:=l) (js:=js) (jx:=j) (vs:=[]) (A:=none) (c:=0) hf.1.1 hf.1.2 hm (Row.nil _ _ _) (Nat.zero_le _) (by simp) HJS.out hlt (HASK.out j hlt));have d0:=hf.2.2.Za 0 rfl;obtain⟨x0,x1,x2,x3,x4,x5,x6,x7,x8,x9,x10⟩:=(hf.2.1).c11;have HH:=Zz (And.intro hsl (And.intro hJj (And.intro hUl (And.intro hk hsz))));clear hf hsl hJj hUl hk hsz;gi_wp2_with fail;refine⟨trivial,(callsIn_wide.2 KS.out).mono ?_⟩;clear KS d0 x0 x1 x2 x3 x4 x5 x6 x7 x8 x9 x10;rintro e w3 ⟨A',c',qs,rfl,hpo,hall,hqe,hB3⟩;obtain⟨hsl,hJj,hUl,hk,hsz⟩:=HH.out;have hk3:=hk.trans (Keeps.below hB3);have hs3:=Nat.le_trans hsz hB3.size;have hJ3:=hJ _ _ _ _ hJj (Stays.below hB3);have hU3:∀k,U k→k<w3.heap.size:=fun k h=>Nat.lt_of_lt_of_le (hUl k h) hB3.size;have hY1:YieldAt Fence.wide 3 Tryz.prog L #[.int .i64 (j:Int),.slice A' qs.length c'] w3 _:=hY U hs (j,A',c',qs) w3 ⟨hsl.symm,hlt,HASK.out j hlt,hall,hqe⟩ (hpo.base (Nat.zero_le _)) hJ3 hU3 (fun k hkk=>⟨Nat.le_trans hsz (hpo.lt hkk).1,fun hu=>by have :=hUl k hu;have :=(hpo.lt hkk).1;omega,(hpo.lt hkk).2⟩);obtain⟨fn,tmps,assign,body,hy,hRd⟩:=hY1;have HRd:=Zz hRd;have HK3:=Zz (And.intro hk3 (And.intro hs3 hsl));clear hRd hJj hUl hk hsz hsl hk3 hs3 hJ3 hU3 hpo hall hqe hB3;gi_wp2_with fail;refine RoundIn.mono (RoundIn.wide HRd.out) ?_;clear HRd hy;rintro e W3 ⟨U',hg',hk',(⟨rfl,hJ4⟩|⟨rfl,hJx4⟩)⟩
    · have hk4:=HK3.out.1.trans hk'.keeps;have hs4:=Nat.le_trans HK3.out.2.1 hk'.size;have hU4:=hg'.lt;have hl4:(hs++[((j,A',c',qs):ExE)]).length=j+1:=by rw[List.length_append,HK3.out.2.2];rfl
      clear hg' hk';gi_wp2_with fail;go_roundw
      case rel=>exact⟨j+1,U',hs++[(j,A',c',qs)],hlt,by go_num,hl4,hJ4,hU4,hk4,hs4⟩
      case measure=>simp[intOf];omega
    · have hU4:=hg'.lt;gi_wp2
      refine bodyPost_ret (results_none rfl _ _ _) rfl ?_;exact⟨⟨_,rfl⟩,U',hU4,.inr hJx4⟩
  · obtain rfl:j=l.exits.length:=by omega
    gi_wp2_with fail;go_end0
    exact⟨⟨_,rfl⟩,U,hUl,.inl ⟨hs,.inl hsl,hJj⟩⟩
end
end Go.Proofs.YtifnlhfinjfajaaGreatDoor
