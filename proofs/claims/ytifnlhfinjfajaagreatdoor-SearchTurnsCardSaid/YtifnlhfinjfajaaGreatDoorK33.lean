/- Of this seat: ShK, LwB, LwC. -/
import Derived.Test.YtifnlhfinjfajaaGreatDoorK32
namespace Go.Proofs.YtifnlhfinjfajaaGreatDoor
set_option linter.unusedVariables false
set_option linter.unusedSimpArgs false
set_option maxRecDepth 100000
set_option maxHeartbeats 32000000
section
open Go.RowKit Go.Shelf
attribute [local go_sem] Oper.semAt_some
theorem owns_up {W:World} {base base' e k n:Nat} {v:Value} {xs:List Value} (h:W.ownsRow base e k v n xs) (hb:∀b,v.ownBlock=some b→base'≤b):W.ownsRow base' e k v n xs:=by
 refine⟨h.1,?_⟩;rcases h.2 with h2|⟨g,cap,cur,rfl,h3,r⟩
 · exact .inl h2
 · exact .inr ⟨g,cap,cur,rfl,hb g rfl,r⟩
theorem from_none {l:Lay} {s:Int} (h:∀x:Int,askV l s x []=false):∀n,fromV l s n=[]
 |0=>rfl
 |n+1=>by
  show fromV l s n++(allV l s n []).map _=[];rw[from_none h n,all_asked (h n)];rfl
theorem exits_none {l:Lay} {s:Int} (h:∀x:Int,askV l s x []=false):∀n,exitsV l s n=[]
 |0=>rfl
 |n+1=>by
  rw[exits_next,exits_none h n,if_neg]
  · rfl
  · unfold errA;rw[h n];simp
theorem from_end {l:Lay} {s:Int} {hs:List ExE} (h:ExEnd l s hs):fromV l s hs.length=fromV l s l.exits.length:=by
 rcases h with h|⟨rfl,h⟩
 · rw[h]
 · rw[from_none h l.exits.length];rfl
theorem exits_end {l:Lay} {s:Int} {hs:List ExE} (h:ExEnd l s hs):exitsV l s hs.length=exitsV l s l.exits.length:=by
 rcases h with h|⟨rfl,h⟩
 · rw[h]
 · rw[exits_none h l.exits.length];rfl
def toldF (l:Lay) (s:Int) (n:Nat):List (Int×List Stp):=(fromV l s n).map fun z=>((z.1:Int),z.2)
theorem toldF_next {l:Lay} {s:Int} {n:Nat} {qs:List Pth} (h:qs.map Pth.ss=allV l s n []) (hx:∀q ∈ qs,q.s=s∧q.x=n):toldF l s (n+1)=toldF l s n++qs.map (fun q=>(q.x,q.ss)):=by
 unfold toldF;rw[show fromV l s (n+1)=fromV l s n++(allV l s n []).map (fun w=>(n,w)) from rfl,List.map_append,←h,List.map_map,List.map_map];congr 1
 refine List.map_congr_left fun q hq=>?_;rw[(hx q hq).2];rfl
theorem toldF_le {l:Lay} (hm:Sml14 l) (s:Int) {n:Nat} (hn:n≤l.exits.length):(toldF l s n).length≤100000:=by
 unfold toldF;rw[List.length_map];have h1:=from_le (l:=l) (s:=s) (B:=3072) (fun x=>hm.all s x []) n;have h2:=hm.exits;have h3:n*3072≤30*3072:=Nat.mul_le_mul_right _ (by omega);omega
structure FrmI (w:World) (l:Lay) (s:Int) (U:Nat→Prop) (hs:List ExE) (W:World):Prop where
 below:Below w.heap.size w W
 size:w.heap.size+4≤W.heap.size
 row:∃(v:Value) (qs:List Pth),Whole W (w.heap.size+1) 33 [v]∧W.ownsRow (w.heap.size+4) 46 3 v qs.length (qs.flatMap Pth.cells)∧(∀b,v.ownBlock=some b→U b)∧(∀q ∈ qs,(stepRow W w.heap.size q∧(q.ss.length:Int)≤9223372036854775807)∧∀b,blk q=some b→U b)∧qs.map (fun q=>(q.x,q.ss))=toldF l s hs.length∧∀q ∈ qs,q.s=s
theorem FrmI.safe (w:World) (l:Lay) (s:Int):Safe (w.heap.size+4) (FrmI w l s):=by
 rintro U hs W W' ⟨h1,h2,v,qs,h5,h6,h7,h8,h9,h10⟩ ht;exact⟨Safe.below (β:=Unit) (B:=w.heap.size+4) (by omega) (Nat.le_refl _) U () W W' h1 ht,Nat.le_trans h2 ht.size,v,qs,ht.whole h5 (.inl (by omega)),owns_stays ht h6 (fun b hb=>.inr (h7 b hb)),h7,fun q hq=>⟨⟨owns_stays ht (h8 q hq).1.1 (fun b hb=>.inr ((h8 q hq).2 b hb)),(h8 q hq).1.2⟩,(h8 q hq).2⟩,h9,h10⟩
theorem FrmI.up {w W:World} {l:Lay} {s:Int} {U U':Nat→Prop} {hs:List ExE} (h:FrmI w l s U hs W) (hU:∀k,U k→U' k):FrmI w l s U' hs W:=
 ⟨h.1,h.2,let ⟨v,qs,h5,h6,h7,h8,h9,h10⟩:=h.3;⟨v,qs,h5,h6,fun b hb=>hU b (h7 b hb),fun q hq=>⟨(h8 q hq).1,fun b hb=>hU b ((h8 q hq).2 b hb)⟩,h9,h10⟩⟩
theorem FrmI.append {w W:World} {l:Lay} {s:Int} (hm:Sml14 l) {U:Nat→Prop} {hs:List ExE} {e:ExE} (h:FrmI w l s U hs W) (he:ExOk l s hs e) (hlie:ExLie e W) (heU:∀k,ExT e k→U k) (heB:∀k,ExT e k→w.heap.size≤k) (hUl:∀k,U k→k<W.heap.size):
 ∃v,W.cell? ⟨w.heap.size+1,0,none⟩=some v∧∃v' W3,(Builtin.append_ #[33,33] 33 #[v,.slice e.2.1 e.2.2.2.length e.2.2.1]).run Tryz.prog W= .ok v' W3 ∧
  Whole W3 (w.heap.size+1) 33 [v]∧(∃A n c,v'= .slice A n c) ∧
  FrmI w l s (With U W (W3.setCell ⟨w.heap.size+1,0,none⟩ v')) (hs++[e]) (W3.setCell ⟨w.heap.size+1,0,none⟩ v') ∧
  W.heap.size≤(W3.setCell ⟨w.heap.size+1,0,none⟩ v').heap.size∧Kept (fun k=>k<w.heap.size∨(k=w.heap.size+2∨k=w.heap.size+3)) (w.heap.size+4) U W (W3.setCell ⟨w.heap.size+1,0,none⟩ v'):=by
 obtain⟨h1,h2,v,qs,h5,h6,h7,h8,h9,h10⟩:=h
 obtain⟨x,A,c,es⟩:=e
 obtain⟨e1,e2,e3,e4,e5⟩:=he
 simp only at e1 e2 e3 e4 e5 ⊢
 refine⟨v,h5.Za 0 rfl,?_⟩
 have hql:qs.length≤100000:=by
  have q1:=congrArg List.length h9;rw[List.length_map] at q1;have q2:=toldF_le hm s (n:=hs.length) (by omega);omega
 have hel:es.length≤3072:=by
  have q1:=congrArg List.length e4;rw[List.length_map] at q1;have :=hm.all s x [];omega
 have hlies:=hlie.lies
 obtain⟨v',W3,hrun,hown,hgr,hblk⟩:=append_paths14 (w.heap.size+4) qs es v A c W.heap.size W h6 hlies.row (by omega) (by omega) (by omega)
 have hvb:∀b,v.ownBlock=some b→w.heap.size+4≤b:=fun b hb=>(h6.lt b hb).1
 have hBl:Below (w.heap.size+4) W W3:=(Below.refl _ W).grown hgr (by omega) hvb
 have hs3:W.heap.size≤W3.heap.size:=hgr.size
 have hkeep:∀k o,W.heap[k]? =some o→(∀b,v.ownBlock=some b→k≠b)→W3.heap[k]? =some o:=fun k o ho hne=>by
  have hlt:=(Array.getElem?_eq_some_iff.1 ho).1;exact(hgr.block k hlt (fun e=>hne k e.symm rfl)).trans ho
 have hset:∀k o,W3.heap[k]? =some o→k≠w.heap.size+1→(W3.setCell ⟨w.heap.size+1,0,none⟩ v').heap[k]? =some o:=fun k o ho hne=>(Below.heap_setCell W3 ⟨w.heap.size+1,0,none⟩ v' k hne).trans ho
 have hbox3:Whole W3 (w.heap.size+1) 33 [v]:=hkeep _ _ h5 (fun b hb=>by have :=hvb b hb;omega)
 have hsz:(W3.setCell ⟨w.heap.size+1,0,none⟩ v').heap.size=W3.heap.size:=by simp[World.setCell]
 have hst:∀(q:Pth) (base:Nat),stepRow W base q→stepRow (W3.setCell ⟨w.heap.size+1,0,none⟩ v') base q:=fun q base hq=>by
  refine owns_keeps (S:=fun k=>(∀b,v.ownBlock=some b→k≠b)∧k≠w.heap.size+1) (fun k o hk ho=>hset k o (hkeep k o ho hk.1) hk.2) hq (fun b hb=>⟨fun b' hb' e=>?_,fun e=>?_⟩)
  · subst e;exact apart_row h6 hq hb hb'
  · subst e;obtain⟨cur,hc⟩:=owns_obj hq hb;have h5':W.heap[w.heap.size+1]? =_:=h5;rw[h5'] at hc;injection hc with hc
    injection hc with _ hc
    exact absurd hc (by decide)
 have hl1:(hs++[((x,A,c,es):ExE)]).length=hs.length+1:=by rw[List.length_append];rfl
 refine⟨v',W3,hrun,hbox3,(let ⟨A,c,e,_⟩:=ownsS_slice hown;⟨A,_,c,e⟩),⟨?_,by rw[hsz];omega,v',qs++es,hbox3.set 0 v',?_,?_,fun q hq=>?_,?_,fun q hq=>?_⟩,by rw[hsz];omega,⟨by rw[hsz];omega,?_⟩⟩
 · exact(h1.trans (hBl.mono (by omega))).setCell (p:=⟨w.heap.size+1,0,none⟩) (by show w.heap.size≤w.heap.size+1;omega) _
 · exact hown.kept (grownBy_setCell' W3 (w.heap.size+1) v') (.inr (fun e=>by have :=(hown.lt _ e).1;omega))
 · intro b hb;rcases hblk with e|e
   · exact .inl (h7 b (e ▸ hb))
   · rw[hb] at e;have e':=Option.some.inj e;refine .inr ⟨by omega,by rw[hsz];exact(hown.lt b hb).2⟩
 · rcases List.mem_append.1 hq with hq|hq
   · exact⟨⟨hst q _ (h8 q hq).1.1,(h8 q hq).1.2⟩,fun b hb=>.inl ((h8 q hq).2 b hb)⟩
   · have hq1:=hlie.each q hq;exact⟨⟨hst q _ (owns_up hq1.1 (fun b hb=>heB b (.inr ⟨q,hq,hb⟩))),hq1.2⟩,fun b hb=>.inl (heU b (.inr ⟨q,hq,hb⟩))⟩
 · rw[hl1,toldF_next (by rw[←e1];exact e4) (fun q hq=>by rw[←e1];exact e5 q hq),List.map_append,h9]
 · rcases List.mem_append.1 hq with hq|hq
   · exact h10 q hq
   · exact(e5 q hq).1
 · intro k o ho hr;refine hset _ _ (hkeep _ _ ho (fun b hb e=>?_)) (fun e=>?_)
   · have :=hvb b hb;rcases hr with hr|hr
     · omega
     · exact hr.2 (e ▸ h7 b hb)
   · rcases hr with hr|hr <;> omega
theorem from14_any {l:Lay} {s:Int} {w:World} (hT:Shapes w) (hL:Lies l w) (hm:Sml14 l):
 Calls Tryz.prog 16 #[l.val,.int .i64 s] w fun e w'=>∃A' c' qs,e= .returned (.slice A' qs.length c')∧PsOwn w.heap.size qs A' c' w'∧qs.map (fun q=>(q.x,q.ss))=toldF l s l.exits.length∧(∀q ∈ qs,q.s=s)∧Below w.heap.size w w':=by
 obtain⟨W2,hW2⟩:∃W2,(w.alloc (.cells #[.slice l.As l.secs.length l.cs,.slice l.Ag l.sigs.length l.cg,.slice l.Ae l.exits.length l.ce,.slice l.Af l.flanks.length l.cf,.int .i64 l.t0,.int .i64 l.t1,.int .i64 l.t2,.int .i64 l.t3,.int .i64 l.t4,.int .i64 l.t5,.int .i64 l.t6] 29)).alloc (.cells #[.slice none 0 0] 33)=W2:=⟨_,rfl⟩
 have HS2:Hid (Below w.heap.size w W2∧W2.heap.size=w.heap.size+2∧Whole W2 w.heap.size 29 l.cells∧Whole W2 (w.heap.size+1) 33 [.slice none 0 0]):=Zz (by
  rw[←hW2];exact⟨below2 w _ _,by simp,(Whole.new w _ l.cells).alloc _,Whole.Zj _ _ [_] _ (by simp)⟩)
 rw[←hW2] at HS2
 obtain⟨x0,x1,x2,x3,x4,x5,x6,x7,x8,x9,x10⟩:=(HS2.out.2.2.1).c11
 rw[hW2] at HS2
 have HW2:=Zz hW2
 clear hW2
 refine(callsIn_wide (n:=5)).1 ?_
 refine callsIn_of_wp_marks Tryz.func16 rfl trivial ?_ rfl
 simp only[Tryz.ntmps16,Ld,Le,Lf,Nat.reduceAdd,Nat.reduceSub,Lg,Lh,Li,Lj,Lk,Ll]
 gi_wp2_with fail
 try rw[HW2.out]
 refine⟨trivial,(callsIn_wide.2 (byExits14_any l s _)).mono ?_⟩
 clear x0 x1 x2 x3 x4 x5 x6 x7 x8 x9 x10
 rintro e w2 ⟨rfl,rfl⟩
 gi_wp2_with fail
 obtain⟨W0,hW0,hsz,hB0,b1,b2,b3⟩:∃W0,((W2.alloc (.cells #[.slice l.As l.secs.length l.cs,.slice l.Ag l.sigs.length l.cg,.slice l.Ae l.exits.length l.ce,.slice l.Af l.flanks.length l.cf,.int .i64 l.t0,.int .i64 l.t1,.int .i64 l.t2,.int .i64 l.t3,.int .i64 l.t4,.int .i64 l.t5,.int .i64 l.t6] 29)).alloc (.cells #[.int .i64 s] 3))=W0∧W0.heap.size=w.heap.size+4∧Below w.heap.size w W0∧Whole W0 (w.heap.size+1) 33 [.slice none 0 0]∧Whole W0 (w.heap.size+2) 29 l.cells∧Whole W0 (w.heap.size+3) 3 [.int .i64 s]:=by
  have h3:=HS2.out;exact⟨_,rfl,by simp;omega,h3.1.trans ((below2 W2 _ _).mono (by omega)),(h3.2.2.2.alloc _).alloc _,(Whole.Zj _ _ l.cells _ (by omega)).alloc _,Whole.Zj _ _ [_] _ (by simp;omega)⟩
 have hs2:W2.heap.size=w.heap.size+2:=HS2.out.2.1
 rw[hW0]
 try rw[hs2]
 clear hW0 hs2
 have hkw:Keeps (· <w.heap.size) w W0:=fun k o hk ho=>(hB0.block k hk).trans ho
 have hit:=byExits14_iter (w0:=W0) (R:=fun k=>k<w.heap.size∨(k=w.heap.size+2∨k=w.heap.size+3)) (g1:=w.heap.size+2) (g2:=w.heap.size+2+1) (l:=l) (s:=s) (fun W' hk hz=>by
  have hk':=hkw.trans (hk.sub fun k h=>.inl h);have hsz':=hz (w.heap.size+3) (.inr (.inr rfl));exact⟨⟨hT.keeps hk' (fun _ h=>h),hL.keeps hk' (fun _ h=>h) (by omega)⟩,hk.whole (.inr (.inl rfl)) b2,hk.whole (.inr (.inr rfl)) b3⟩) hm
 have hI0:FrmI w l s (fun _=>False) [] W0:=⟨hB0,by omega,_,[],b1,World.ownsRow_nil _ _ _ _,fun b hb=>(by cases hb),fun q hq=>(by cases hq),rfl,fun q hq=>(by cases hq)⟩
 have HSZ:=Zz hsz
 clear hT hL b1 b2 b3 hB0 hkw HS2 HW2
 refine range_iterG (gf:=51) rfl (enters_of Tryz.func51 (by kernel_rfl) rfl) hit (Keeps.refl _ _) (fun k hk=>by have :=HSZ.out;rcases hk with h|h|h <;> omega) (fun _=>rfl) (by omega)
  (FrmI w l s) (fun _ _ _=>False) (by rw[hsz];exact FrmI.safe w l s) (fun _=>fun _ _ _ _ h _=>h.elim)
  hI0
  (fun U hs x a' W=>FrmI w l s U hs W∧ExLie x W∧(∀k,ExT x k→U k)∧(∀k,ExT x k→w.heap.size≤k)∧a'= {tmps:=#[l.val,.int .i64 s,.pointer (some ⟨w.heap.size,0,none⟩),undef,.slice none 0 0,.pointer (some ⟨w.heap.size+1,0,none⟩),undef,.slice x.2.1 x.2.2.2.length x.2.2.1,.agg #[.slice l.As l.secs.length l.cs,.slice l.Ag l.sigs.length l.cg,.slice l.Ae l.exits.length l.ce,.slice l.Af l.flanks.length l.cf,.int .i64 l.t0,.int .i64 l.t1,.int .i64 l.t2,.int .i64 l.t3,.int .i64 l.t4,.int .i64 l.t5,.int .i64 l.t6],.int .i64 s,.func (.func 51) #[] #[.pointer (some ⟨w.heap.size+2,0,none⟩),.pointer (some ⟨w.heap.size+2+1,0,none⟩)],.int .i64 (x.1:Int),.slice x.2.1 x.2.2.2.length x.2.2.1,undef,undef,undef,undef],defers:=[]})
  (fun hs x a'=>by
   rw[hsz];rintro U u W W' ⟨h1,h2,h3,h4,h6⟩ ht;exact⟨FrmI.safe w l s _ _ _ _ h1 ht,h2.keeps (S:=fun k=>U k) (fun k o hk ho=>ht.rest k o ho (.inr hk)) h3,h3,h4,h6⟩)
  ?assign ?body ?done ?stop
 case assign=>
  rintro lr U hs x W K hx hlie hI hsW hU hTx hK;have hU2:∀k,(U k∨ExT x k)→k<W.heap.size:=fun k hk=>hk.elim (hU k) (fun h=>(hTx k h).2.2);have hT2:∀k,ExT x k→w.heap.size≤k:=fun k hk=>by have :=(hTx k hk).1;have :=HSZ.out;omega
  clear hx;gi_wp2_with fail;exact hK _ _ (fun k=>U k∨ExT x k) (Grew.refl hU2 (Nat.le_refl _)) ⟨Nat.le_refl _,fun _ _ h _=>h⟩ ⟨hI.up fun k h=>.inl h,hlie,fun k h=>.inr h,hT2,rfl⟩
 case body=>
  rintro lr U hs x a' W hl hx ⟨hI,hlie,hxU,hxB,rfl⟩ hU;obtain⟨v,c0,v',W5,hrun,hbx5,⟨A',n',c',rfl⟩,hI5,hs5,hk5⟩:=hI.append hm hx hlie hxU hxB hU;have f0:=hbx5.frozen 0;have c5:=hbx5.Za 0 rfl;have HK5:=Zz hk5;have HI5:=Zz hI5;clear hI hlie hxU hxB hk5 hI5 hbx5 hx;gi_wp2_with (gi_at_builtin;refine listIn_append rfl (.tmp 13) (.tmp 14) 33 rfl hrun ?_);try rw[HSZ.out]
  exact⟨_,Grew.with hU hs5,HK5.out,HI5.out⟩
 case stop=>
  rintro D cc U W _ _ h _;exact h.elim
 case done=>
  rintro D U hs W hD hUD hend ⟨hB,hsW,v,qs,b2,hown,hvU,hqs,htold,hqe⟩ hK;rw[hsz] at hD;have c0:=b2.Za 0 rfl;obtain⟨A2,c2,rfl,_,_⟩:=ownsS_slice hown;have hpo:PsOwn w.heap.size qs A2 c2 W:=⟨owns_base12 hown (by omega),fun q hq=>(hqs q hq).1⟩;have HFI:Hid (PsOwn w.heap.size qs A2 c2 (W.putObj D (.deferred none))∧qs.map (fun q=>(q.x,q.ss))=toldF l s l.exits.length∧(∀q ∈ qs,q.s=s)∧Below w.heap.size w (W.putObj D (.deferred none))):=Zz ⟨hpo.mark hK _,by rw[htold];unfold toldF;rw[from_end hend],hqe,hB.trans (belowK_b (w:=w) (Nat.le_refl _) _ D _ _ (by omega) hK rfl rfl)⟩;clear hpo hown hvU hqs htold hqe hB b2 hend hsW;gi_wp2_with fail;refine⟨by simp,.inl ⟨_,_,rfl,run_takeDeferred hK,?_⟩⟩;refine⟨.slice A2 qs.length c2,by simp[results,Tryz.f16,go_sem],⟨A2,c2,qs,rfl,HFI.out.1,HFI.out.2.1,HFI.out.2.2.1,HFI.out.2.2.2⟩⟩
def exitsN (l:Lay) (s:Int) (n:Nat):List Int:=(exitsV l s n).map fun x:Nat=>(x:Int)
theorem exitsN_yes {l:Lay} {s:Int} {n:Nat} (h:allV l s n []≠[]):exitsN l s (n+1)=exitsN l s n++[(n:Int)]:=by
 unfold exitsN;rw[exits_next,if_pos (err_ok.2 h),List.map_append];rfl
theorem exitsN_no {l:Lay} {s:Int} {n:Nat} (h:allV l s n []=[]):exitsN l s (n+1)=exitsN l s n:=by
 unfold exitsN;rw[exits_next,if_neg (fun e=>err_ok.1 e h),List.append_nil]
theorem exitsN_le (l:Lay) (s:Int) (n:Nat):(exitsN l s n).length≤n:=by unfold exitsN;rw[List.length_map];exact exits_len l s n
structure ExiI (w:World) (l:Lay) (s:Int) (U:Nat→Prop) (hs:List ExE) (W:World):Prop where
 below:Below w.heap.size w W
 size:w.heap.size+4≤W.heap.size
 row:∃v:Value,Whole W (w.heap.size+1) 30 [v]∧W.ownsRow (w.heap.size+4) 3 1 v (exitsN l s hs.length).length (nums .i64 (exitsN l s hs.length))∧∀b,v.ownBlock=some b→U b
theorem ExiI.safe (w:World) (l:Lay) (s:Int):Safe (w.heap.size+4) (ExiI w l s):=by
 rintro U hs W W' ⟨h1,h2,v,h5,h6,h7⟩ ht;exact⟨Safe.below (β:=Unit) (B:=w.heap.size+4) (by omega) (Nat.le_refl _) U () W W' h1 ht,Nat.le_trans h2 ht.size,v,ht.whole h5 (.inl (by omega)),owns_stays ht h6 (fun b hb=>.inr (h7 b hb)),h7⟩
theorem ExiI.up {w W:World} {l:Lay} {s:Int} {U U':Nat→Prop} {hs:List ExE} (h:ExiI w l s U hs W) (hU:∀k,U k→U' k):ExiI w l s U' hs W:=
 ⟨h.1,h.2,let ⟨v,h5,h6,h7⟩:=h.3;⟨v,h5,h6,fun b hb=>hU b (h7 b hb)⟩⟩
theorem ExiI.go {w W:World} {l:Lay} {s:Int} {U:Nat→Prop} {hs:List ExE} {e:ExE} (h:ExiI w l s U hs W) (he:ExOk l s hs e) (hz:e.2.2.2=[]):ExiI w l s U (hs++[e]) W:=by
 have h1:(hs++[e]).length=hs.length+1:=by rw[List.length_append];rfl
 have h2:allV l s hs.length []=[]:=by rw[←he.1,←he.2.2.2.1,hz];rfl
 refine⟨h.1,h.2,?_⟩;rw[h1,exitsN_no h2];exact h.3
theorem ExiI.append {w W:World} {l:Lay} {s:Int} {U:Nat→Prop} {hs:List ExE} {e:ExE} (h:ExiI w l s U hs W) (he:ExOk l s hs e) (hz:e.2.2.2≠[]) (hUl:∀k,U k→k<W.heap.size) (hn:l.exits.length≤1000):
 ∃v,W.cell? ⟨w.heap.size+1,0,none⟩=some v∧∃v' W3,(Builtin.append_ #[30,30] 30 #[v,.slice (some ⟨W.heap.size,0,none⟩) 1 1]).run Tryz.prog (W.alloc (.cells #[.int .i64 (e.1:Int)] 3))= .ok v' W3 ∧
  Whole W3 (w.heap.size+1) 30 [v]∧(∃A n c,v'= .slice A n c) ∧
  ExiI w l s (With U W (W3.setCell ⟨w.heap.size+1,0,none⟩ v')) (hs++[e]) (W3.setCell ⟨w.heap.size+1,0,none⟩ v') ∧
  W.heap.size≤(W3.setCell ⟨w.heap.size+1,0,none⟩ v').heap.size∧Kept (fun k=>k<w.heap.size∨(k=w.heap.size+2∨k=w.heap.size+3)) (w.heap.size+4) U W (W3.setCell ⟨w.heap.size+1,0,none⟩ v'):=by
 obtain⟨h1,h2,v,h5,h6,h7⟩:=h
 refine⟨v,h5.Za 0 rfl,?_⟩
 have hb1:=below1 W (.cells #[.int .i64 (e.1:Int)] 3)
 have hel:=exitsN_le l s hs.length
 have hlt:=he.2.1
 have he1:=he.1
 have hne:allV l s hs.length []≠[]:=by rw[←he.1,←he.2.2.2.1];exact fun e2=>hz (List.map_eq_nil_iff.1 e2)
 obtain⟨v',W3,hrun,hown,hgr,hBl,hblk⟩:=append_int12 (w.heap.size+4) (exitsN l s hs.length).length v (nums .i64 (exitsN l s hs.length)) (e.1:Int) (W.alloc (.cells #[.int .i64 (e.1:Int)] 3)) W.heap.size (ownsV_keep h6 hb1) ((Whole.new W _ [.int .i64 (e.1:Int)]).Za 0 rfl) (by omega) (by simp;omega)
 have hvb:∀b,v.ownBlock=some b→w.heap.size+4≤b:=fun b hb=>(h6.lt b hb).1
 have hs3:W.heap.size+1≤W3.heap.size:=by have :=hgr.size;simpa using this
 have hkeep:∀k o,W.heap[k]? =some o→(∀b,v.ownBlock=some b→k≠b)→W3.heap[k]? =some o:=fun k o ho hne=>by
  have hlt:=(Array.getElem?_eq_some_iff.1 ho).1;exact(hgr.block k (by simp;omega) (fun e=>hne k e.symm rfl)).trans ((hb1.block k hlt).trans ho)
 have hset:∀k o,W3.heap[k]? =some o→k≠w.heap.size+1→(W3.setCell ⟨w.heap.size+1,0,none⟩ v').heap[k]? =some o:=fun k o ho hne=>(Below.heap_setCell W3 ⟨w.heap.size+1,0,none⟩ v' k hne).trans ho
 have hbox3:Whole W3 (w.heap.size+1) 30 [v]:=hkeep _ _ h5 (fun b hb=>by have :=hvb b hb;omega)
 have hsz:(W3.setCell ⟨w.heap.size+1,0,none⟩ v').heap.size=W3.heap.size:=by simp[World.setCell]
 have hl1:(hs++[e]).length=hs.length+1:=by rw[List.length_append];rfl
 refine⟨v',W3,hrun,hbox3,(let ⟨A,c,e,_⟩:=owns_slice hown;⟨A,_,c,e⟩),⟨?_,by rw[hsz];omega,v',hbox3.set 0 v',?_,?_⟩,by rw[hsz];omega,⟨by rw[hsz];omega,?_⟩⟩
 · exact(h1.trans ((hb1.mono (by omega)).trans (hBl.mono (by omega)))).setCell (p:=⟨w.heap.size+1,0,none⟩) (by show w.heap.size≤w.heap.size+1;omega) _
 · rw[hl1,exitsN_yes hne,List.length_append,←he1];have :=hown.kept (grownBy_setCell' W3 (w.heap.size+1) v') (.inr (fun e=>by have :=(hown.lt _ e).1;omega));rw[←he1] at this;simpa [nums] using this
 · intro b hb;rcases hblk with e|e
   · exact .inl (h7 b (e ▸ hb))
   · rw[hb] at e;have e':=Option.some.inj e;simp at e';exact .inr ⟨by omega,by rw[hsz];exact(hown.lt b hb).2⟩
 · intro k o ho hr;refine hset _ _ (hkeep _ _ ho (fun b hb e=>?_)) (fun e=>?_)
   · have q1:=hvb b hb;rcases hr with hr|hr
     · omega
     · exact hr.2 (e ▸ h7 b hb)
   · rcases hr with hr|hr <;> omega
theorem exits14_any {l:Lay} {s:Int} {w:World} (hT:Shapes w) (hL:Lies l w) (hm:Sml14 l):
 Calls Tryz.prog 13 #[l.val,.int .i64 s] w fun e w'=>∃A' c',e= .returned (.slice A' (exitsN l s l.exits.length).length c')∧w'.ownsRow w.heap.size 3 1 (.slice A' (exitsN l s l.exits.length).length c') (exitsN l s l.exits.length).length (nums .i64 (exitsN l s l.exits.length))∧Below w.heap.size w w':=by
 obtain⟨W2,hW2⟩:∃W2,(w.alloc (.cells #[.slice l.As l.secs.length l.cs,.slice l.Ag l.sigs.length l.cg,.slice l.Ae l.exits.length l.ce,.slice l.Af l.flanks.length l.cf,.int .i64 l.t0,.int .i64 l.t1,.int .i64 l.t2,.int .i64 l.t3,.int .i64 l.t4,.int .i64 l.t5,.int .i64 l.t6] 29)).alloc (.cells #[.slice none 0 0] 30)=W2:=⟨_,rfl⟩
 have HS2:Hid (Below w.heap.size w W2∧W2.heap.size=w.heap.size+2∧Whole W2 w.heap.size 29 l.cells∧Whole W2 (w.heap.size+1) 30 [.slice none 0 0]):=Zz (by
  rw[←hW2];exact⟨below2 w _ _,by simp,(Whole.new w _ l.cells).alloc _,Whole.Zj _ _ [_] _ (by simp)⟩)
 rw[←hW2] at HS2
 obtain⟨x0,x1,x2,x3,x4,x5,x6,x7,x8,x9,x10⟩:=(HS2.out.2.2.1).c11
 rw[hW2] at HS2
 have HW2:=Zz hW2
 clear hW2
 refine(callsIn_wide (n:=5)).1 ?_
 refine callsIn_of_wp_marks Tryz.func13 rfl trivial ?_ rfl
 simp only[Tryz.ntmps13,Ld,Le,Lf,Nat.reduceAdd,Nat.reduceSub,Lg,Lh,Li,Lj,Lk,Ll]
 gi_wp2_with fail
 try rw[HW2.out]
 refine⟨trivial,(callsIn_wide.2 (byExits14_any l s _)).mono ?_⟩
 clear x0 x1 x2 x3 x4 x5 x6 x7 x8 x9 x10
 rintro e w2 ⟨rfl,rfl⟩
 gi_wp2_with fail
 obtain⟨W0,hW0,hsz,hB0,b1,b2,b3⟩:∃W0,((W2.alloc (.cells #[.slice l.As l.secs.length l.cs,.slice l.Ag l.sigs.length l.cg,.slice l.Ae l.exits.length l.ce,.slice l.Af l.flanks.length l.cf,.int .i64 l.t0,.int .i64 l.t1,.int .i64 l.t2,.int .i64 l.t3,.int .i64 l.t4,.int .i64 l.t5,.int .i64 l.t6] 29)).alloc (.cells #[.int .i64 s] 3))=W0∧W0.heap.size=w.heap.size+4∧Below w.heap.size w W0∧Whole W0 (w.heap.size+1) 30 [.slice none 0 0]∧Whole W0 (w.heap.size+2) 29 l.cells∧Whole W0 (w.heap.size+3) 3 [.int .i64 s]:=by
  have h3:=HS2.out;exact⟨_,rfl,by simp;omega,h3.1.trans ((below2 W2 _ _).mono (by omega)),(h3.2.2.2.alloc _).alloc _,(Whole.Zj _ _ l.cells _ (by omega)).alloc _,Whole.Zj _ _ [_] _ (by simp;omega)⟩
 have hs2:W2.heap.size=w.heap.size+2:=HS2.out.2.1
 rw[hW0]
 try rw[hs2]
 clear hW0 hs2
 have hkw:Keeps (· <w.heap.size) w W0:=fun k o hk ho=>(hB0.block k hk).trans ho
 have hit:=byExits14_iter (w0:=W0) (R:=fun k=>k<w.heap.size∨(k=w.heap.size+2∨k=w.heap.size+3)) (g1:=w.heap.size+2) (g2:=w.heap.size+2+1) (l:=l) (s:=s) (fun W' hk hz=>by
  have hk':=hkw.trans (hk.sub fun k h=>.inl h);have hsz':=hz (w.heap.size+3) (.inr (.inr rfl));exact⟨⟨hT.keeps hk' (fun _ h=>h),hL.keeps hk' (fun _ h=>h) (by omega)⟩,hk.whole (.inr (.inl rfl)) b2,hk.whole (.inr (.inr rfl)) b3⟩) hm
 have hI0:ExiI w l s (fun _=>False) [] W0:=⟨hB0,by omega,_,b1,World.ownsRow_nil _ _ _ _,fun b hb=>(by cases hb)⟩
 have HSZ:=Zz hsz
 have HEX:Hid (l.exits.length≤1000):=Zz (Nat.le_trans hm.exits (by omega))
 clear hT hL b1 b2 b3 hB0 hkw HS2 HW2
 refine range_iterG (gf:=51) rfl (enters_of Tryz.func51 (by kernel_rfl) rfl) hit (Keeps.refl _ _) (fun k hk=>by have :=HSZ.out;rcases hk with h|h|h <;> omega) (fun _=>rfl) (by omega)
  (ExiI w l s) (fun _ _ _=>False) (by rw[hsz];exact ExiI.safe w l s) (fun _=>fun _ _ _ _ h _=>h.elim)
  hI0
  (fun U hs x a' W=>ExiI w l s U hs W∧a'= {tmps:=#[l.val,.int .i64 s,.pointer (some ⟨w.heap.size,0,none⟩),undef,.slice none 0 0,.pointer (some ⟨w.heap.size+1,0,none⟩),.int .i64 (x.1:Int),.slice x.2.1 x.2.2.2.length x.2.2.1,.agg #[.slice l.As l.secs.length l.cs,.slice l.Ag l.sigs.length l.cg,.slice l.Ae l.exits.length l.ce,.slice l.Af l.flanks.length l.cf,.int .i64 l.t0,.int .i64 l.t1,.int .i64 l.t2,.int .i64 l.t3,.int .i64 l.t4,.int .i64 l.t5,.int .i64 l.t6],.int .i64 s,.func (.func 51) #[] #[.pointer (some ⟨w.heap.size+2,0,none⟩),.pointer (some ⟨w.heap.size+2+1,0,none⟩)],.int .i64 (x.1:Int),.slice x.2.1 x.2.2.2.length x.2.2.1,undef,undef,undef,undef,undef,undef,undef,undef],defers:=[]})
  (fun hs x a'=>by
   rw[hsz];rintro U u W W' ⟨h1,h6⟩ ht;exact⟨ExiI.safe w l s _ _ _ _ h1 ht,h6⟩)
  ?assign ?body ?done ?stop
 case assign=>
  rintro lr U hs x W K hx hlie hI hsW hU hTx hK;have hU2:∀k,(U k∨ExT x k)→k<W.heap.size:=fun k hk=>hk.elim (hU k) (fun h=>(hTx k h).2.2);clear hx;gi_wp2_with fail;exact hK _ _ (fun k=>U k∨ExT x k) (Grew.refl hU2 (Nat.le_refl _)) ⟨Nat.le_refl _,fun _ _ h _=>h⟩ ⟨hI.up fun k h=>.inl h,rfl⟩
 case body=>
  rintro lr U hs x a' W hl hx ⟨hI,rfl⟩ hU;by_cases hz:x.2.2.2=[]
  · have HN:=Zz (hI.go hx hz);have q1:¬(0:Int)<(x.2.2.2.length:Int):=by rw[hz];simp
    clear hx hI;gi_wp2_with fail;try rw[HSZ.out]
    exact⟨U,Grew.refl hU (Nat.le_refl _),⟨Nat.le_refl _,fun _ _ h _=>h⟩,HN.out⟩
  · have q1:(0:Int)<(x.2.2.2.length:Int):=by have :=List.length_pos_iff.2 hz;omega
    obtain⟨v,c0,v',W5,hrun,hbx5,⟨A',n',c',rfl⟩,hI5,hs5,hk5⟩:=hI.append hx hz hU HEX.out;have f0:=hbx5.frozen 0;have c5:=hbx5.Za 0 rfl;have HK5:=Zz hk5;have HI5:=Zz hI5;clear hI hk5 hI5 hbx5 hx;gi_wp2_with (gi_at_builtin;refine listIn_append12 rfl (.tmp 16) (.tmp 18) 30 rfl hrun ?_);try rw[HSZ.out]
    exact⟨_,Grew.with hU hs5,HK5.out,HI5.out⟩
 case stop=>
  rintro D cc U W _ _ h _;exact h.elim
 case done=>
  rintro D U hs W hD hUD hend ⟨hB,hsW,v,b2,hown,hvU⟩ hK;rw[hsz] at hD;have c0:=b2.Za 0 rfl;have hee:exitsN l s hs.length=exitsN l s l.exits.length:=by unfold exitsN;rw[exits_end hend]
  rw[hee] at hown;obtain⟨A2,c2,rfl,_,_⟩:=owns_slice hown;have HFI:Hid ((W.putObj D (.deferred none)).ownsRow w.heap.size 3 1 (.slice A2 (exitsN l s l.exits.length).length c2) (exitsN l s l.exits.length).length (nums .i64 (exitsN l s l.exits.length))∧Below w.heap.size w (W.putObj D (.deferred none))):=Zz ⟨owns_keeps (S:=fun k=>k≠D) (fun k ob hk ho=>(World.putObj_heap_other hk).trans ho) (owns_base12 hown (by omega)) (fun b hb e=>by
   obtain⟨cur,hc⟩:=owns_obj hown hb;rw[e,hK] at hc;cases hc),hB.trans (belowK_b (w:=w) (Nat.le_refl _) _ D _ _ (by omega) hK rfl rfl)⟩;clear hown hvU hB b2 hend hsW hee;gi_wp2_with fail;refine⟨by simp,.inl ⟨_,_,rfl,run_takeDeferred hK,?_⟩⟩;refine⟨.slice A2 (exitsN l s l.exits.length).length c2,by simp[results,Tryz.f13,go_sem],⟨A2,c2,rfl,HFI.out.1,HFI.out.2⟩⟩
def loop14 (gs gg ge:Nat):Lay:=⟨[⟨2,-1,0,1,0,2,0,-1,0,0,1⟩,⟨1,0,1,3,1,-1,0,-1,0,0,0⟩,⟨1,0,2,3,2,-1,0,-1,0,0,0⟩,⟨2,-1,0,1,1,2,1,-1,0,0,0⟩],some ⟨gs,0,none⟩,4,[(0,0)],some ⟨gg,0,none⟩,1,[⟨3,0,none,0,[]⟩,⟨0,0,none,0,[]⟩],some ⟨ge,0,none⟩,2,[],none,0,1,1,1,1,1,1,1⟩
def Loops (l:Lay) (w:World):Prop:=∃gs gg ge,l=loop14 gs gg ge∧Whole w gs 63 (l.secs.flatMap Sec.cells)∧Whole w gg 83 (l.sigs.flatMap Zf)∧Whole w ge 87 (l.exits.flatMap Exm.cells)
theorem Loops.lies {l:Lay} {w:World} (h:Loops l w):Lies l w:=by
 obtain⟨gs,gg,ge,rfl,h1,h2,h3⟩:=h;refine⟨h1.row h1.lt,h2.row h2.lt,h3.row h3.lt,Row.nil _ _ _,(fun x hx=>?_),(fun x hx=>?_),by simp[loop14],by simp[loop14],by simp[loop14],by simp[loop14],(fun x hx=>?_)⟩
 · simp[loop14] at hx;rcases hx with rfl|rfl <;> exact Row.nil _ _ _
 · simp[loop14] at hx;rcases hx with rfl|rfl|rfl|rfl <;> simp
 · simp[loop14] at hx;rcases hx with rfl|rfl <;> simp
theorem Loops.closed (l:Lay):Closed (Loops l):=fun w w' ⟨gs,gg,ge,e,h1,h2,h3⟩ hB=>⟨gs,gg,ge,e,h1.below hB h1.lt,h2.below hB h2.lt,h3.below hB h3.lt⟩
def way1:List Stp:=[(0,0,1),(1,0,1),(3,1,0)]
def way2:List Stp:=[(0,0,2),(2,0,1),(3,2,0)]
theorem loop_filter (gs gg ge:Nat):(walksV (loop14 gs gg ge) (Zq (loop14 gs gg ge) 0)).filter (serveV (loop14 gs gg ge) 0 0 [])=[way1,way2]:=by kernel_rfl
theorem sort_two {l:Lay} {us:List (List Stp)} {ws:List (List Stp)} (h:ws=us) (hg:us.all (fun w=>goesL l (Zq l 0) w)=true) (ho:us.Pairwise (fun u v=>leR l u v=true)):sortS l ws=us:=by
 subst h;exact(sort_is (List.Perm.refl _) (fun w hw=>List.all_eq_true.1 hg w hw) ho).symm
theorem loop_all {l:Lay} {w:World} (h:Loops l w):allV l 0 0 []=[way1,way2]∧allV l 0 0 [2]=[way2]∧errA l 0 1 []=140∧errA l 1 0 []=2∧allV l 0 1 []=[]∧allV l 1 0 []=[]:=by
 obtain⟨gs,gg,ge,rfl,_⟩:=h;have h1:(walksV (loop14 gs gg ge) (Zq (loop14 gs gg ge) 0)).filter (serveV (loop14 gs gg ge) 0 1 [])=[]:=by kernel_rfl
 have h2:allV (loop14 gs gg ge) 0 1 []=[]:=by unfold allV;rw[h1];exact(sort_perm _ []).eq_nil
 have h3:askV (loop14 gs gg ge) 1 0 []=false:=by kernel_rfl
 have h4:askV (loop14 gs gg ge) 0 1 []=true:=by kernel_rfl
 refine⟨sort_two (loop_filter gs gg ge) (by kernel_rfl) ?_,sort_two (by kernel_rfl) (by kernel_rfl) (List.pairwise_singleton _ _),?_,?_,h2,all_asked h3⟩
 · refine List.pairwise_cons.2 ⟨fun x hx=>?_,List.pairwise_singleton _ _⟩;obtain rfl:x=way2:=by simpa using hx
   kernel_rfl
 · unfold errA;rw[h4,h2];rfl
 · unfold errA;rw[h3];rfl
theorem loop_from {l:Lay} {w:World} (h:Loops l w):toldF l 0 l.exits.length=[(0,way1),(0,way2)]∧exitsV l 0 l.exits.length=[0]∧errA l 0 0 []=0∧errA l 0 0 [2]=0:=by
 obtain⟨h1,h2,h3,h4,h5,h6⟩:=loop_all h;have e1:errA l 0 0 []=0:=err_ok.2 (by rw[h1];simp);have e2:errA l 0 0 [2]=0:=err_ok.2 (by rw[h2];simp);obtain⟨gs,gg,ge,rfl,_⟩:=h;refine⟨?_,?_,e1,e2⟩
 · show toldF (loop14 gs gg ge) 0 2=_;unfold toldF;show(([]++(allV (loop14 gs gg ge) 0 (0:Nat) []).map (fun w=>(0,w)))++(allV (loop14 gs gg ge) 0 (1:Nat) []).map (fun w=>(1,w))).map _=_;rw[show(((0:Nat):Int))=0 from rfl,show(((1:Nat):Int))=1 from rfl,h1,h5];rfl
 · show exitsV (loop14 gs gg ge) 0 2=_;rw[exits_next,exits_next,show(((0:Nat):Int))=0 from rfl,show(((1:Nat):Int))=1 from rfl,if_pos e1,if_neg (by rw[h3];decide)];rfl
theorem loop14_any (w:World):Calls Tryz.prog 26 #[] w fun e w'=>∃l,e= .returned l.val∧Loops l w'∧Below w.heap.size w w':=by
 go_enter Tryz.func26,Tryz.ntmps26;go_wp2_with fail;obtain⟨l,hl⟩:∃l,loop14 (w.heap.size+1+1+1) (w.heap.size+1+1+1+1) (w.heap.size+1+1+1+1+1)=l:=⟨_,rfl⟩;have hW:=fun(o1 o2 o3 o4 o5:Obj)=>(((((Whole.new w 29 [.slice (some ⟨w.heap.size+1+1+1,0,none⟩) 4 4,.slice (some ⟨w.heap.size+1+1+1+1,0,none⟩) 1 1,.slice (some ⟨w.heap.size+1+1+1+1+1,0,none⟩) 2 2,.slice none 0 0,.int .i64 1,.int .i64 1,.int .i64 1,.int .i64 1,.int .i64 1,.int .i64 1,.int .i64 1]).alloc o1).alloc o2).alloc o3).alloc o4).alloc o5;have e0:=fun o1 o2 o3 o4 o5=>(hW o1 o2 o3 o4 o5).Za 0 rfl;have e1:=fun o1 o2 o3 o4 o5=>(hW o1 o2 o3 o4 o5).Za 1 rfl;have e2:=fun o1 o2 o3 o4 o5=>(hW o1 o2 o3 o4 o5).Za 2 rfl;have e3:=fun o1 o2 o3 o4 o5=>(hW o1 o2 o3 o4 o5).Za 3 rfl;have e4:=fun o1 o2 o3 o4 o5=>(hW o1 o2 o3 o4 o5).Za 4 rfl;have e5:=fun o1 o2 o3 o4 o5=>(hW o1 o2 o3 o4 o5).Za 5 rfl;have e6:=fun o1 o2 o3 o4 o5=>(hW o1 o2 o3 o4 o5).Za 6 rfl;have e7:=fun o1 o2 o3 o4 o5=>(hW o1 o2 o3 o4 o5).Za 7 rfl;have e8:=fun o1 o2 o3 o4 o5=>(hW o1 o2 o3 o4 o5).Za 8 rfl;have e9:=fun o1 o2 o3 o4 o5=>(hW o1 o2 o3 o4 o5).Za 9 rfl;have e10:=fun o1 o2 o3 o4 o5=>(hW o1 o2 o3 o4 o5).Za 10 rfl;clear hW;refine bodyPost_ret (v:=l.val) ?_ rfl ⟨l,rfl,⟨_,_,_,hl.symm,?_,?_,?_⟩,(((below3 w _ _ _).alloc (by simp;omega) _).alloc (by simp;omega) _).alloc (by simp;omega) _⟩
 · subst hl;simp[results,Tryz.f26,go_sem,loop14,e0,e1,e2,e3,e4,e5,e6,e7,e8,e9,e10]
 · subst hl;exact((Whole.Zj _ _ [_,_,_,_,_,_,_,_,_,_,_,_,_,_,_,_,_,_,_,_,_,_,_,_,_,_,_,_,_,_,_,_,_,_,_,_,_,_,_,_,_,_,_,_] _ (by simp)).alloc _).alloc _
 · subst hl;exact(Whole.Zj _ _ [_,_] _ (by simp)).alloc _
 · subst hl;exact Whole.Zj _ _ [_,_,_,_,_,_] _ (by simp)
theorem and_more {Q R:World→Prop} (hQ:Hid (Closed Q)) (hR:Closed R) {w:World} (h:Q w) (r:R w):∃Q':World→Prop,Hid (Closed Q')∧Hid (∀W,Q' W→Q W)∧Hid (∀W,Q' W→R W)∧Q' w:=
 ⟨fun W=>Q W∧R W,Zz (hQ.out.and hR),Zz fun _ h=>h.1,Zz fun _ h=>h.2,h,r⟩
theorem two_of {α:Type}:∀ {l:List α},l.length=2→∃a b,l=[a,b]
 |[a,b],_=>⟨a,b,rfl⟩
theorem ints_row (xs:List Int) (A:Option Addr):Closed (fun W=>Row W W.heap.size A (nums .i64 xs)):=fun _ _ h hb=>h.on hb
theorem loop_small {l:Lay} {w:World} (h:Loops l w):Sml14 l:=by
 obtain⟨gs,gg,ge,rfl,_⟩:=h;have h2:freeP (loop14 gs gg ge) []=2:=by kernel_rfl
 exact⟨fun f hf=>by simp[loop14] at hf,by simp[loop14],by rw[h2];omega,by simp[loop14],by simp[loop14],by simp[loop14],fun x hx=>by simp[loop14] at hx;rcases hx with rfl|rfl <;> simp⟩
theorem all_K {Q:World→Prop} {l:Lay} (hQ:Hid (Closed Q)) (hT:Hid (∀W,Q W→Shapes W∧Lies l W)) (hm:Sml14 l) (s x:Int) {vs:List Int} {A:Option Addr} {c:Nat} (hR:∀W,Q W→Row W W.heap.size A (nums .i64 vs)) (hcap:vs.length≤c) (hn:(vs.length:Int)≤9223372036854775807) {us:List (List Stp)} {r:Int} (hu:allV l s x vs=us) (hr:errA l s x vs=r):
 Hid (∀W,Q W→Calls Tryz.prog 10 #[l.val,.int .i64 s,.int .i64 x,.slice A vs.length c] W fun e w'=>∃A' c' qs,e= .returned (.tuple #[.slice A' qs.length c',.int .i64 r])∧Zr qs A' w'∧qs.map Pth.ss=us∧(∀q ∈ qs,q.s=s∧q.x=x)∧Q w'):=Zz fun W hW=>by
 subst hu
 subst hr
 refine(all14_any (s:=s) (x:=x) (hT.out W hW).1 (hT.out W hW).2 hm (hR W hW) hcap hn).mono ?_
 rintro e w' ⟨A',c',qs,h1,h2,h3,h4,h5⟩
 exact⟨A',c',qs,h1,h2.lies,h3,h4,hQ.out _ _ hW h5⟩
def lay0:Lay:=⟨[],none,0,[],none,0,[],none,0,[],none,0,0,0,0,0,0,0,0⟩
theorem lay0_lies (w:World):Lies lay0 w:=⟨Row.nil _ _ _,Row.nil _ _ _,Row.nil _ _ _,Row.nil _ _ _,(fun x hx=>by simp[lay0] at hx),(fun x hx=>by simp[lay0] at hx),by simp[lay0],by simp[lay0],by simp[lay0],by simp[lay0],(fun x hx=>by simp[lay0] at hx)⟩
theorem lay0_free:freeP lay0 []=0:=by kernel_rfl
theorem lay0_small:Sml14 lay0:=⟨fun f hf=>by simp[lay0] at hf,by simp[lay0],by rw[lay0_free];omega,by simp[lay0],by simp[lay0],by simp[lay0],fun x hx=>by simp[lay0] at hx⟩
theorem exits_K {Q:World→Prop} {l:Lay} (hQ:Hid (Closed Q)) (hT:Hid (∀W,Q W→Shapes W∧Lies l W)) (hm:Sml14 l) (s:Int) {us:List Int} (hu:exitsN l s l.exits.length=us):
 Hid (∀W,Q W→Calls Tryz.prog 13 #[l.val,.int .i64 s] W fun e w'=>∃A' c',e= .returned (.slice A' us.length c')∧Row w' w'.heap.size A' (nums .i64 us)∧Q w'):=Zz fun W hW=>by
 subst hu
 refine(exits14_any (s:=s) (hT.out W hW).1 (hT.out W hW).2 hm).mono ?_
 rintro e w' ⟨A',c',h1,h2,h3⟩
 exact⟨A',c',h1,owns_row2 h2,hQ.out _ _ hW h3⟩
theorem wakes14_P {P:World→Prop} {w:World} (hP:Closed P) (hT:∀w,P w→Shapes w) (h:P w):Calls Tryz.prog 9 #[] w fun e w'=>e= .returned (.bool true)∧P w':=by
 have HP:=Zz hP;have HT:=Zz hT;have hp:=Zz h;clear hP hT h;go_enter Tryz.func9,Tryz.ntmps9;go_wp2_with fail;refine(loop14_any w).mono ?_;rintro e w1 ⟨l,rfl,hlo,hB1⟩;have hp1:=HP.out _ _ hp.out hB1;have HSM:=Zz (loop_small hlo);have HLA:=Zz (loop_all hlo);have HLF:=Zz (loop_from hlo);clear hB1 hp;go_upto_region 2 with (fail)
 obtain⟨w2,hw2⟩:∃W,w1.alloc (.cells #[.slice l.As l.secs.length l.cs,.slice l.Ag l.sigs.length l.cg,.slice l.Ae l.exits.length l.ce,.slice l.Af l.flanks.length l.cf,.int .i64 l.t0,.int .i64 l.t1,.int .i64 l.t2,.int .i64 l.t3,.int .i64 l.t4,.int .i64 l.t5,.int .i64 l.t6] 29)=W:=⟨_,rfl⟩;obtain⟨Q,HQ,HQP,HQl,HQL,hq⟩:∃Q:World→Prop,Hid (Closed Q)∧Hid (∀W,Q W→P W)∧Hid (∀W,Q W→Whole W w1.heap.size 29 l.cells)∧Hid (∀W,Q W→Loops l W)∧Q w2:=
  ⟨fun W=>P W∧Whole W w1.heap.size 29 l.cells∧Loops l W,Zz (HP.out.and ((Closed.whole _ _ _).and (Loops.closed l))),Zz fun _ h=>h.1,Zz fun _ h=>h.2.1,Zz fun _ h=>h.2.2,by
   rw[←hw2];exact⟨HP.out _ _ hp1 (below1 _ _),Whole.new _ _ _,Loops.closed l _ _ hlo (below1 _ _)⟩⟩;have HTL:Hid (∀W,Q W→Shapes W∧Lies l W):=Zz fun W hW=>⟨HT.out W (HQP.out W hW),(HQL.out W hW).lies⟩;clear hp1 hlo;try rw[hw2]
 clear hw2;obtain⟨x0,x1,x2,x3,x4,x5,x6,x7,x8,x9,x10⟩:=(HQl.out _ hq).c11;have KA:=all_K HQ HTL HSM.out 0 0 (vs:=[]) (A:=none) (c:=0) (fun W _=>Row.nil _ _ _) (by simp) (by simp) HLA.out.1 HLF.out.2.2.1;go_wp2_with fail;refine(KA.out _ hq).mono ?_;rintro e w3 ⟨A1,c1,ps,rfl,hps,hv1,hk1,hq⟩;clear KA;obtain⟨Q,HQ,HQa,HQ1,hq⟩:=and_more HQ (Zr.closed ps A1) hq hps;replace HQP:=Zz (fun W hW=>HQP.out W (HQa.out W hW));replace HQl:=Zz (fun W hW=>HQl.out W (HQa.out W hW));replace HQL:=Zz (fun W hW=>HQL.out W (HQa.out W hW));replace HTL:=Zz (fun W hW=>HTL.out W (HQa.out W hW));clear HQa x0 x1 x2 x3 x4 x5 x6 x7 x8 x9 x10;obtain⟨x0,x1,x2,x3,x4,x5,x6,x7,x8,x9,x10⟩:=(HQl.out _ hq).c11;have KB:Hid (Calls Tryz.prog 10 #[l.val,.int .i64 0,.int .i64 0,.slice (some ⟨w3.heap.size,0,none⟩) 1 1] (w3.alloc (.cells #[.int .i64 2] 3)) fun e w'=>∃A' c' qs,e= .returned (.tuple #[.slice A' qs.length c',.int .i64 0])∧Zr qs A' w'∧qs.map Pth.ss=[way2]∧(∀q ∈ qs,q.s=0∧q.x=0)∧Q w'):=Zz (by
  have hb:=below1 w3 (.cells #[.int .i64 2] 3);have hq':=HQ.out _ _ hq hb;have hw:=Whole.new w3 3 [.int .i64 2];refine(all14_any (s:=0) (x:=0) (vs:=[2]) (HTL.out _ hq').1 (HTL.out _ hq').2 HSM.out (hw.row hw.lt) (Nat.le_refl _) (by simp)).mono ?_;rintro e w' ⟨A',c',qs,h1,h2,h3,h4,h5⟩;rw[HLF.out.2.2.2] at h1;exact⟨A',c',qs,h1,h2.lies,h3.trans HLA.out.2.1,h4,HQ.out _ _ hq' h5⟩);go_wp2_with fail;refine KB.out.mono ?_;rintro e w4 ⟨A2,c2,qs,rfl,hqs,hv2,hk2,hq⟩;clear KB;obtain⟨Q,HQ,HQa,HQ2,hq⟩:=and_more HQ (Zr.closed qs A2) hq hqs;replace HQP:=Zz (fun W hW=>HQP.out W (HQa.out W hW));replace HQl:=Zz (fun W hW=>HQl.out W (HQa.out W hW));replace HQL:=Zz (fun W hW=>HQL.out W (HQa.out W hW));replace HTL:=Zz (fun W hW=>HTL.out W (HQa.out W hW));replace HQ1:=Zz (fun W hW=>HQ1.out W (HQa.out W hW));clear HQa x0 x1 x2 x3 x4 x5 x6 x7 x8 x9 x10;obtain⟨x0,x1,x2,x3,x4,x5,x6,x7,x8,x9,x10⟩:=(HQl.out _ hq).c11;have KA:=all_K HQ HTL HSM.out 0 1 (vs:=[]) (A:=none) (c:=0) (fun W _=>Row.nil _ _ _) (by simp) (by simp) HLA.out.2.2.2.2.1 HLA.out.2.2.1;go_wp2_with fail;refine(KA.out _ hq).mono ?_;rintro e w5 ⟨A3,c3,rs,rfl,_,_,_,hq⟩;clear KA x0 x1 x2 x3 x4 x5 x6 x7 x8 x9 x10;obtain⟨x0,x1,x2,x3,x4,x5,x6,x7,x8,x9,x10⟩:=(HQl.out _ hq).c11;have KA:=all_K HQ HTL HSM.out 1 0 (vs:=[]) (A:=none) (c:=0) (fun W _=>Row.nil _ _ _) (by simp) (by simp) HLA.out.2.2.2.2.2 HLA.out.2.2.2.1;go_wp2_with fail;refine(KA.out _ hq).mono ?_;rintro e w6 ⟨A4,c4,ts,rfl,_,_,_,hq⟩;clear KA x0 x1 x2 x3 x4 x5 x6 x7 x8 x9 x10;obtain⟨x0,x1,x2,x3,x4,x5,x6,x7,x8,x9,x10⟩:=(HQl.out _ hq).c11;have HEX:Hid (exitsN l 0 l.exits.length=[0]):=Zz (by rw[exitsN,HLF.out.2.1];rfl);have KA:=exits_K HQ HTL HSM.out 0 HEX.out;go_wp2_with fail;refine(KA.out _ hq).mono ?_;rintro e w7 ⟨A5,c5,rfl,hxs,hq⟩;clear KA HEX;obtain⟨Q,HQ,HQa,HQ3,hq⟩:=and_more HQ (ints_row [0] A5) hq hxs;replace HQP:=Zz (fun W hW=>HQP.out W (HQa.out W hW));replace HQl:=Zz (fun W hW=>HQl.out W (HQa.out W hW));replace HQL:=Zz (fun W hW=>HQL.out W (HQa.out W hW));replace HTL:=Zz (fun W hW=>HTL.out W (HQa.out W hW));replace HQ1:=Zz (fun W hW=>HQ1.out W (HQa.out W hW));replace HQ2:=Zz (fun W hW=>HQ2.out W (HQa.out W hW));clear HQa x0 x1 x2 x3 x4 x5 x6 x7 x8 x9 x10;obtain⟨x0,x1,x2,x3,x4,x5,x6,x7,x8,x9,x10⟩:=(HQl.out _ hq).c11;obtain⟨⟨s2,n2,B2,d2,us2⟩,hqe⟩:∃q,qs=[q]:=List.length_eq_one_iff.1 (by have :=congrArg List.length hv2;simpa using this);obtain⟨⟨s0,n0,B0,d0,us0⟩,⟨s1,n1,B1,d1,us1⟩,hpe⟩:∃p0 p1,ps=[p0,p1]:=two_of (by have :=congrArg List.length hv1;simpa using this);subst hqe hpe;simp only[List.map_cons,List.map_nil,List.cons.injEq,and_true] at hv1 hv2;simp only[List.mem_cons,List.not_mem_nil,or_false,forall_eq_or_imp,forall_eq] at hk1 hk2;obtain⟨⟨rfl,rfl⟩,rfl,rfl⟩:=hk1;obtain⟨rfl,rfl⟩:=hk2;obtain⟨rfl,rfl⟩:=hv1;obtain rfl:=hv2;obtain⟨b1,o1,HA1,_,HC1⟩:=row_at (f:=Pth.cells) (n:=3) (fun _=>rfl) (by omega) (fun W hW=>(HQ1.out W hW).row) hq (j:=0) rfl;obtain⟨b2,o2,HA2,_,HC2⟩:=row_at (f:=Pth.cells) (n:=3) (fun _=>rfl) (by omega) (fun W hW=>(HQ2.out W hW).row) hq (j:=0) rfl;obtain⟨b3,o3,HA3,_,HC3⟩:=row_at (f:=Ze) (n:=3) (l:=way1) (fun _=>rfl) (by omega) (fun W hW=>((HQ1.out W hW).each _ (List.mem_cons_self ..)).row) hq (j:=1) rfl;obtain⟨b4,o4,HA4,_,HC4⟩:=row_at (f:=Ze) (n:=3) (l:=way2) (fun _=>rfl) (by omega) (fun W hW=>((HQ1.out W hW).each _ (List.mem_cons_of_mem _ (List.mem_cons_self ..))).row) hq (j:=1) rfl;obtain⟨b5,o5,HA5,HC5,_⟩:=row_at (f:=fun n:Int=>[.int .i64 n]) (n:=1) (l:=[0]) (fun _=>rfl) (by omega) (fun W hW=>by have :=HQ3.out W hW;rw[←nums_flat] at this;exact this) hq (j:=0) rfl;have h3:=HA3.out;have h4:=HA4.out;have h1:=HA1.out;have h2:=HA2.out;have h5:=HA5.out;simp only at h3 h4;subst h1 h2 h3 h4 h5;clear HA1 HA2 HA3 HA4 HA5;have HF:Hid (∀W,Q W→W.cell? ⟨b1,o1,none⟩=some (.int .i64 0)∧W.cell? ⟨b1,o1+1,none⟩=some (.int .i64 0)∧W.cell? ⟨b1,o1+2,none⟩=some (.slice (some ⟨b3,o3,none⟩) 3 d0)∧W.cell? ⟨b1,o1+3,none⟩=some (.int .i64 0)∧W.cell? ⟨b1,o1+4,none⟩=some (.int .i64 0)∧W.cell? ⟨b1,o1+5,none⟩=some (.slice (some ⟨b4,o4,none⟩) 3 d1)∧W.cell? ⟨b2,o2,none⟩=some (.int .i64 0)∧W.cell? ⟨b2,o2+1,none⟩=some (.int .i64 0)∧W.cell? ⟨b2,o2+2,none⟩=some (.slice B2 3 d2)∧W.cell? ⟨b3,o3+3,none⟩=some (.int .i64 1)∧W.cell? ⟨b4,o4+3,none⟩=some (.int .i64 2)∧W.cell? ⟨b5,o5,none⟩=some (.int .i64 0)):=Zz fun W hW=>
  ⟨by simpa using HC1.out W hW 0 _ 0 _ rfl rfl,by simpa using HC1.out W hW 0 _ 1 _ rfl rfl,by simpa [way1] using HC1.out W hW 0 _ 2 _ rfl rfl,by simpa using HC1.out W hW 1 _ 0 _ rfl rfl,by simpa using HC1.out W hW 1 _ 1 _ rfl rfl,by simpa [way2] using HC1.out W hW 1 _ 2 _ rfl rfl,by simpa using HC2.out W hW 0 _ 0 _ rfl rfl,by simpa using HC2.out W hW 0 _ 1 _ rfl rfl,by simpa [way2] using HC2.out W hW 0 _ 2 _ rfl rfl,by simpa using HC3.out W hW 1 _ 0 _ rfl rfl,by simpa using HC4.out W hW 1 _ 0 _ rfl rfl,by simpa using HC5.out W hW 0 _ _ rfl rfl⟩;clear HC1 HC2 HC3 HC4 HC5 hps hqs hxs;have KS:Hid (∀W,Q W→Calls Tryz.prog 21 #[.agg #[.int .i64 0,.int .i64 0,.slice B2 3 d2],.agg #[.int .i64 0,.int .i64 0,.slice (some ⟨b4,o4,none⟩) 3 d1]] W fun e w'=>e= .returned (.bool true)∧Below W.heap.size W w'):=Zz fun W hW=>
  sameR12_any (p:=⟨0,0,B2,d2,way2⟩) (q:=⟨0,0,some ⟨b4,o4,none⟩,d1,way2⟩) ((HQ2.out W hW).each _ (List.mem_cons_self ..)) ((HQ1.out W hW).each _ (List.mem_cons_of_mem _ (List.mem_cons_self ..))) (by kernel_rfl);have KF:Hid (∀W,Q W→Calls Tryz.prog 16 #[l.val,.int .i64 0] W fun e w'=>∃x:Option Addr×Nat,e= .returned (.slice x.1 2 x.2)∧True∧Below W.heap.size W w'):=Zz fun W hW=>by
  refine(from14_any (s:=0) (HTL.out W hW).1 (HTL.out W hW).2 HSM.out).mono ?_;rintro e w' ⟨A',c',qs,h1,_,h3,_,h5⟩;have h3:=congrArg List.length (h3.trans HLF.out.1);rw[List.length_map] at h3;rw[h3] at h1;exact⟨(A',c'),h1,trivial,h5⟩
 have KZ:Hid (∀W,Q W→Calls Tryz.prog 16 #[lay0.val,.int .i64 0] W fun e w'=>∃x:Option Addr×Nat,e= .returned (.slice x.1 0 x.2)∧True∧Below W.heap.size W w'):=Zz fun W hW=>by
  refine(from14_any (s:=0) (HTL.out W hW).1 (lay0_lies W) lay0_small).mono ?_;rintro e w' ⟨A',c',qs,h1,_,h3,_,h5⟩;have h3:=congrArg List.length (h3.trans (rfl:toldF lay0 0 lay0.exits.length=[]));rw[List.length_map] at h3;rw[h3] at h1;exact⟨(A',c'),h1,trivial,h5⟩
 clear HQ1 HQ2 HQ3 HLA HLF HSM HTL HQL HT;simp only[Nat.reduceAdd];go_wp2_with fail;simp only[List.append_eq,Ll,Lk];have HBS:Hid (∀W,Below w7.heap.size w7 W→Q W):=Zz (fun W hB=>HQ.out _ _ hq hB);clear hq x0 x1 x2 x3 x4 x5 x6 x7 x8 x9 x10;refine region_mix (Below w7.heap.size w7) [(0,false),(1,false),(2,false),(3,false),(4,false),(5,false),(6,false),(7,false),(8,false),(9,false),(10,false),(11,false),(12,false),(13,false),(14,false),(15,false),(16,false),(17,false),(18,false),(19,false),(20,false),(21,false),(22,false),(23,false),(24,false),(25,false),(26,false),(27,false),(28,false),(29,false),(30,false),(31,false),(32,false),(33,false),(34,false),(35,false),(36,false),(37,false),(38,false),(39,false),(40,false),(41,false),(42,false),(43,false),(44,false),(45,false),(46,false),(47,false),(48,false),(49,false),(50,false),(51,false),(52,false),(53,false),(54,false),(55,false),(56,false),(57,false),(58,false),(59,true),(60,false),(61,false),(62,false),(63,false),(64,false),(65,true),(66,false),(67,false),(68,false),(69,false)] (by kernel_rfl) (by kernel_rfl) (Below w7.heap.size w7) ⟨Closed.below w7,fun _ h=>h⟩ (Below.refl _ _).drew ?_;simp only[Zg,Lm,Ln];repeat ((first|(refine Zb (by rfl) ?_)|(refine mrd HBS _ (by rfl) (fun W hW=>by(obtain⟨x0,x1,x2,x3,x4,x5,x6,x7,x8,x9,x10⟩:=(HQl.out W hW).c11;obtain⟨f0,f1,f2,f3,f4,f5,f6,f7,f8,f9,f10,f11⟩:=HF.out W hW;go_simp;first|done|with_reducible rfl)) ?_)|(refine mcl HBS _ _ _ (by rfl) (fun W hW=>by(obtain⟨x0,x1,x2,x3,x4,x5,x6,x7,x8,x9,x10⟩:=(HQl.out W hW).c11;obtain⟨f0,f1,f2,f3,f4,f5,f6,f7,f8,f9,f10,f11⟩:=HF.out W hW;go_simp;first|done|rfl)) (fun W hW=>KS.out W (HBS.out W hW)) ?_));simp only[Act.put,La,Lb,Lc])
 refine mix_meet (fun x:Option Addr×Nat=>.slice x.1 2 x.2) (fun _ _=>True) ⟨Closed.below w7,fun _ h=>h⟩ (fun x _ _ _ _=>trivial) _ _ (by rfl) (fun W hW=>by(have hW:=HBS.out W hW;obtain⟨x0,x1,x2,x3,x4,x5,x6,x7,x8,x9,x10⟩:=(HQl.out W hW).c11;obtain⟨f0,f1,f2,f3,f4,f5,f6,f7,f8,f9,f10,f11⟩:=HF.out W hW;go_simp;first|done|rfl)) (fun W hW=>KF.out W (HBS.out W hW)) (fun _=>?_);simp only[Act.put,La,Lb,Lc];repeat ((first|(refine Zb (by rfl) ?_)|(refine mrd HBS _ (by rfl) (fun W hW=>by(obtain⟨x0,x1,x2,x3,x4,x5,x6,x7,x8,x9,x10⟩:=(HQl.out W hW).c11;obtain⟨f0,f1,f2,f3,f4,f5,f6,f7,f8,f9,f10,f11⟩:=HF.out W hW;go_simp;first|done|with_reducible rfl)) ?_));simp only[Act.put,La,Lb,Lc])
 refine mix_meet (fun x:Option Addr×Nat=>.slice x.1 0 x.2) (fun _ _=>True) ⟨(Closed.below w7).and (fun _ _ _ _=>trivial),fun _ h=>h.1⟩ (fun x _ _ _ _=>trivial) _ _ (by rfl) (fun W hW=>by(have hW:=HBS.out W hW.1;obtain⟨x0,x1,x2,x3,x4,x5,x6,x7,x8,x9,x10⟩:=(HQl.out W hW).c11;obtain⟨f0,f1,f2,f3,f4,f5,f6,f7,f8,f9,f10,f11⟩:=HF.out W hW;go_simp;first|done|rfl|simp[lay0])) (fun W hW=>KZ.out W (HBS.out W hW.1)) (fun _=>?_);simp only[Act.put,La,Lb,Lc];repeat ((first|(refine Zb (by rfl) ?_)|(refine mrd HBS _ (by rfl) (fun W hW=>by(obtain⟨x0,x1,x2,x3,x4,x5,x6,x7,x8,x9,x10⟩:=(HQl.out W hW).c11;obtain⟨f0,f1,f2,f3,f4,f5,f6,f7,f8,f9,f10,f11⟩:=HF.out W hW;go_simp;first|done|with_reducible rfl)) ?_));simp only[Act.put,La,Lb,Lc])
 refine Zd (fun W hW=>?_);have hq:=HBS.out W hW.1.1;have HZ:=Zz (HQP.out _ hq);go_wp2_with fail;go_ret;exact⟨rfl,HZ.out⟩
end
end Go.Proofs.YtifnlhfinjfajaaGreatDoor
