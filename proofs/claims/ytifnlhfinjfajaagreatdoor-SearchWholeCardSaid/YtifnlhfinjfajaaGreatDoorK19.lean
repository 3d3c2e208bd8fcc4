/- Of this seat: BeW, BeG, NeeB. -/
import Derived.Test.YtifnlhfinjfajaaGreatDoorK08
namespace Go.Proofs.YtifnlhfinjfajaaGreatDoor
set_option linter.unusedVariables false
set_option linter.unusedSimpArgs false
set_option maxRecDepth 100000
set_option maxHeartbeats 32000000
section
open Go.RowKit Go.Shelf
attribute [local go_sem] Oper.semAt_some
theorem listIn_append {F:Fence} {n:Nat} {P:Program} {ops:Array Oper} {rest:List Oper} {o:Oper} {a:Act} {w w':World} {Q:Exit→Act→World→Prop} (hg:o.guard=none) (s x:Operand) (t:TypeId)
 (hop:o.op= .call {callee:=.builtin .append,args:=#[s,x],argTypes:=#[t,t]}) {v':Value} (hrun:(Builtin.append_ #[t,t] o.type #[a.eval s,a.eval x]).run P w= .ok v' w') (h:wpListIn F n P ops Q rest (a.put o.dst v') w'):wpListIn F n P ops Q (o::rest) a w:=by
 refine wpListIn_plain hg fun K hK'=>?_
 unfold Oper.wpIn
 refine⟨?_,?_⟩
 · simp[Oper.about,hop,resolve,Target.leads,Sem.run_pure]
 · rw[Oper.semAt_plain F _ _ (by rw[hop];intro c hc';cases hc')];simp[execOp,hop,resolve,invoke,builtin,hrun,Result.andThen];exact hK' _ _ h
theorem owns_stays {B:Nat} {U:Nat→Prop} {W W':World} (h:Stays B U W W') {base e k n:Nat} {v:Value} {xs:List Value} (hown:W.ownsRow base e k v n xs) (hU:∀b,v.ownBlock=some b→b<B∨U b):W'.ownsRow base e k v n xs:=by
 refine⟨hown.1,?_⟩;rcases hown.2 with h2|⟨g,cap,cur,rfl,h3,h4,r⟩
 · exact .inl h2
 · exact .inr ⟨g,cap,cur,rfl,h3,h.rest g _ h4 (hU g rfl),r⟩
theorem slice_of {w:World} {base e n:Nat} {v:Value} {xs:List Value} (h:w.ownsRow base e 3 v n xs):∃A c,v= .slice A n c:=by
 rcases h.2 with ⟨rfl,rfl⟩|⟨g,cap,cur,rfl,hg,_,hn,_⟩
 · exact⟨none,0,rfl⟩
 · exact⟨_,cap,rfl⟩
structure WantI (w:World) (k:Int) (g:Nat) (us:Nat→List (Int×Int×Int)) (U:Nat→Prop) (j:Nat) (W:World):Prop where
 below:Below w.heap.size w W
 size:g+2≤W.heap.size
 kbox:Whole W (w.heap.size+1+1) 3 [.int .i64 k]
 row:∃v,Whole W (w.heap.size+1+1+1) 76 [v]∧W.ownsRow (w.heap.size+4) 100 3 v (us j).length ((us j).flatMap Zi)∧∀b,v.ownBlock=some b→b<g∨(g+2≤b∧U b)
theorem WantI.safe (w:World) (k:Int) (g:Nat) (us:Nat→List (Int×Int×Int)) (hg:w.heap.size+4≤g):Safe (g+2) (WantI w k g us):=by
 rintro U j W W' ⟨h1,h2,h3,v,h4,h5,h6⟩ ht;exact⟨Safe.below (β:=Unit) (B:=g+2) (by omega) (Nat.le_refl _) U () W W' h1 ht,Nat.le_trans h2 ht.size,ht.whole h3 (.inl (by omega)),v,ht.whole h4 (.inl (by omega)),owns_stays ht h5 (fun b hb=>by rcases h6 b hb with h|h;exact .inl (by omega);exact .inr h.2),h6⟩
theorem WantI.up {w W:World} {k:Int} {g:Nat} {us:Nat→List (Int×Int×Int)} {U U':Nat→Prop} {j:Nat} (h:WantI w k g us U j W) (hU:∀k,U k→U' k):WantI w k g us U' j W:=
 ⟨h.1,h.2,h.3,let ⟨v,h5,h6,h7⟩:=h.4;⟨v,h5,h6,fun b hb=>(h7 b hb).imp id (fun x=>⟨x.1,hU b x.2⟩)⟩⟩
theorem WantI.append {w W:World} {k:Int} {g:Nat} {us:Nat→List (Int×Int×Int)} {U:Nat→Prop} {j:Nat} {m:Int×Int×Int} (hg:w.heap.size+4≤g) (h:WantI w k g us U j W) (hj:us (j+1)=us j++[m]) (hn:(us j).length≤1000) (hUl:∀k,U k→k<W.heap.size):
 ∃v,W.cell? ⟨w.heap.size+1+1+1,0,none⟩=some v∧∃v' W3,(Builtin.append_ #[76,76] 76 #[v,.slice (some ⟨W.heap.size,0,none⟩) 1 1]).run Tryz.prog (W.alloc (.cells #[.int .i64 m.1,.int .i64 m.2.1,.int .i64 m.2.2] 100))= .ok v' W3 ∧
  Whole W3 (w.heap.size+1+1+1) 76 [v]∧(∃A n c,v'= .slice A n c) ∧
  WantI w k g us (With U W (W3.setCell ⟨w.heap.size+1+1+1,0,none⟩ v')) (j+1) (W3.setCell ⟨w.heap.size+1+1+1,0,none⟩ v') ∧
  W.heap.size≤(W3.setCell ⟨w.heap.size+1+1+1,0,none⟩ v').heap.size∧Kept (fun q=>q<w.heap.size∨(q=g∨q=g+1)) (g+2) U W (W3.setCell ⟨w.heap.size+1+1+1,0,none⟩ v'):=by
 obtain⟨h1,h2,h3,v,h5,h6,h7⟩:=h
 refine⟨v,h5.Za 0 rfl,?_⟩
 have hb1:=below1 W (.cells #[.int .i64 m.1,.int .i64 m.2.1,.int .i64 m.2.2] 100)
 obtain⟨v',W3,hrun,hown,hgr,hBl,hblk⟩:=append_need (w.heap.size+4) (us j).length v ((us j).flatMap Zi) m (W.alloc (.cells #[.int .i64 m.1,.int .i64 m.2.1,.int .i64 m.2.2] 100)) W.heap.size (Zh h6 hb1) (Whole.new W _ (Zi m)) hn (by simp;omega)
 have hvb:∀b,v.ownBlock=some b→w.heap.size+4≤b:=fun b hb=>(h6.lt b hb).1
 have hs3:W.heap.size+1≤W3.heap.size:=by have :=hgr.size;simpa using this
 have hkeep:∀k o,W.heap[k]? =some o→(∀b,v.ownBlock=some b→k≠b)→W3.heap[k]? =some o:=fun k o ho hne=>by
  have hlt:=(Array.getElem?_eq_some_iff.1 ho).1;exact(hgr.block k (by simp;omega) (fun e=>hne k e.symm rfl)).trans ((hb1.block k hlt).trans ho)
 have hset:∀k o,W3.heap[k]? =some o→k≠w.heap.size+1+1+1→(W3.setCell ⟨w.heap.size+1+1+1,0,none⟩ v').heap[k]? =some o:=fun k o ho hne=>(Below.heap_setCell W3 ⟨w.heap.size+1+1+1,0,none⟩ v' k hne).trans ho
 have hbox3:Whole W3 (w.heap.size+1+1+1) 76 [v]:=hkeep _ _ h5 (fun b hb=>by have :=hvb b hb;omega)
 have hsz:(W3.setCell ⟨w.heap.size+1+1+1,0,none⟩ v').heap.size=W3.heap.size:=by simp[World.setCell]
 refine⟨v',W3,hrun,hbox3,(let ⟨A,c,e⟩:=slice_of hown;⟨A,_,c,e⟩),⟨?_,by rw[hsz];omega,hset _ _ (hkeep _ _ h3 (fun b hb=>by have :=hvb b hb;omega)) (by omega),v',hbox3.set 0 v',?_,?_⟩,by rw[hsz];omega,⟨by rw[hsz];omega,?_⟩⟩
 · exact(h1.trans ((hb1.mono (by omega)).trans (hBl.mono (by omega)))).setCell (p:=⟨w.heap.size+1+1+1,0,none⟩) (by show w.heap.size≤w.heap.size+1+1+1;omega) _
 · rw[hj,List.length_append,List.flatMap_append];have :=hown.kept (grownBy_setCell' W3 (w.heap.size+1+1+1) v') (.inr (fun e=>by have :=(hown.lt _ e).1;omega));simpa using this
 · intro b hb;rcases hblk with e|e
   · exact(h7 b (e ▸ hb)).imp id (fun x=>⟨x.1,.inl x.2⟩)
   · rw[hb] at e;have e':=Option.some.inj e;simp at e';refine .inr ⟨by omega,.inr ⟨by omega,by rw[hsz];exact(hown.lt b hb).2⟩⟩
 · intro k o ho hr;refine hset _ _ (hkeep _ _ ho (fun b hb e=>?_)) (fun e=>?_)
   · have q1:=hvb b hb;have q2:=h7 b hb;rcases hr with hr|hr
     · omega
     · rcases q2 with q2|q2
       · omega
       · exact hr.2 (e ▸ q2.2)
   · rcases hr with hr|hr <;> omega
def usV (l:Lay) (s i o k:Int) (j:Nat):List (Int×Int×Int):=firstV l s i o k++((flanksV l s i o).take j).map (fun f=>(f.2.2.1,f.2.2.2,k))
theorem us_zero (l:Lay) (s i o k:Int):usV l s i o k 0=firstV l s i o k:=by simp[usV]
theorem us_next {l:Lay} {s i o k:Int} {j:Nat} {f:Int×Int×Int×Int} (h:(flanksV l s i o)[j]? =some f):usV l s i o k (j+1)=usV l s i o k j++[(f.2.2.1,f.2.2.2,k)]:=by
 unfold usV;rw[List.take_add_one,h,Option.toList_some,List.map_append,List.append_assoc];rfl
theorem us_all (l:Lay) (s i o k:Int):usV l s i o k (flanksV l s i o).length=wantsV l s i o k:=by unfold usV wantsV;rw[List.take_length]
theorem us_le (l:Lay) (s i o k:Int) (j:Nat):(usV l s i o k j).length≤j+1:=by
 unfold usV;have h1:=first_le l s i o k;rw[List.length_append,List.length_map,List.length_take];omega
structure Start (l:Lay) (s i o k:Int) (w:World) (v:Value) (W:World):Prop where
 below:Below w.heap.size w W
 size:w.heap.size+4≤W.heap.size
 box0:Whole W w.heap.size 29 l.cells
 box1:Whole W (w.heap.size+1) 66 (Ze (s,i,o))
 kbox:Whole W (w.heap.size+1+1) 3 [.int .i64 k]
 row:Whole W (w.heap.size+1+1+1) 76 [v]
 own:W.ownsRow (w.heap.size+4) 100 3 v (usV l s i o k 0).length ((usV l s i o k 0).flatMap Zi)
theorem wants_any {l:Lay} {w:World} (hT:Shapes w) (hL:Lies l w) (hF:l.flanks.length≤900) (s i o k:Int) {ns:List (Int×Int×Int)} (hs:wantsV l s i o k=ns):
 Calls Tryz.prog 136 #[l.val,stpV s i o,.int .i64 k] w fun e w'=>∃v,e= .returned v∧w'.ownsRow w.heap.size 100 3 v ns.length (ns.flatMap Zi)∧Below w.heap.size w w':=by
 subst hs
 have HTW:Hid (∀W,Below w.heap.size w W→Shapes W∧Lies l W):=Zz fun W hB=>⟨Shapes.closed _ _ hT hB,Lies.closed l _ _ hL hB⟩
 obtain⟨⟨p,pos,ok⟩,hpv⟩:∃r,pointV l s i o=r:=⟨_,rfl⟩
 have HFV:Hid (firstV l s i o k=if ok=true then [(p,pos,k)] else []):=Zz (by unfold firstV;rw[hpv])
 have HXN:Hid (∀j x,(flanksV l s i o)[j]? =some x→usV l s i o k (j+1)=usV l s i o k j++[(x.2.2.1,x.2.2.2,k)]):=Zz fun j x h=>us_next h
 have HXL:Hid ((flanksV l s i o).length≤900):=Zz (Nat.le_trans (List.length_filter_le _ _) hF)
 have HXA:=Zz (us_all l s i o k)
 have HUL:=Zz (us_le l s i o k)
 have HUZ:=Zz (us_zero l s i o k)
 have KP:Hid (∀W,Below w.heap.size w W→Calls Tryz.prog 172 #[l.val,stpV s i o] W fun e w'=>e= .returned (.tuple #[.int .i64 p,.int .i64 pos,.bool ok])∧Below W.heap.size W w'):=Zz (fun W hB=>pointB_any (HTW.out W hB).1 (HTW.out W hB).2 s i o hpv)
 obtain⟨W4,hW4⟩:∃W4,(((w.alloc (.cells #[.slice l.As l.secs.length l.cs,.slice l.Ag l.sigs.length l.cg,.slice l.Ae l.exits.length l.ce,.slice l.Af l.flanks.length l.cf,.int .i64 l.t0,.int .i64 l.t1,.int .i64 l.t2,.int .i64 l.t3,.int .i64 l.t4,.int .i64 l.t5,.int .i64 l.t6] 29)).alloc (.cells #[.int .i64 s,.int .i64 i,.int .i64 o] 66)).alloc (.cells #[.int .i64 k] 3)).alloc (.cells #[.slice none 0 0] 76)=W4:=⟨_,rfl⟩
 have HS4:Hid (Below w.heap.size w W4∧W4.heap.size=w.heap.size+4∧Whole W4 w.heap.size 29 l.cells∧Whole W4 (w.heap.size+1) 66 (Ze (s,i,o))∧Whole W4 (w.heap.size+1+1) 3 [.int .i64 k]∧Whole W4 (w.heap.size+1+1+1) 76 [.slice none 0 0]):=Zz (by
  rw[←hW4];exact⟨((below3 w _ _ _).alloc (by simp;omega) _),by simp,(((Whole.new w _ l.cells).alloc _).alloc _).alloc _,((Whole.Zj _ _ (Ze (s,i,o)) _ (by simp)).alloc _).alloc _,(Whole.Zj _ _ [_] _ (by simp)).alloc _,Whole.Zj _ _ [_] _ (by simp)⟩)
 have HW4:=Zz hW4
 clear hpv hW4
 refine(callsIn_wide (n:=5)).1 ?_
 refine callsIn_of_wp_marks Tryz.func136 rfl trivial ?_ rfl
 simp only[Tryz.ntmps136,Ld,Le,Lf,Nat.reduceAdd,Nat.reduceSub,Lg,Lh,Li,Lj,Lk,Ll]
 gi_wp2_with fail
 rw[HW4.out]
 refine⟨trivial,(callsIn_wide.2 (KP.out _ HS4.out.1)).mono ?_⟩
 rintro e w1 ⟨rfl,hB1⟩
 have HS1:Hid (Below w.heap.size w w1∧w.heap.size+4≤w1.heap.size∧Whole w1 w.heap.size 29 l.cells∧Whole w1 (w.heap.size+1) 66 (Ze (s,i,o))∧Whole w1 (w.heap.size+1+1) 3 [.int .i64 k]∧Whole w1 (w.heap.size+1+1+1) 76 [.slice none 0 0]):=Zz (by
  obtain⟨h1,h2,h3,h4,h5,h6⟩:=HS4.out;have hs:=hB1.size;exact⟨h1.trans (hB1.mono h1.size),by omega,h3.below hB1 h3.lt,h4.below hB1 h4.lt,h5.below hB1 h5.lt,h6.below hB1 h6.lt⟩)
 clear HS4 HW4 hB1
 cases ok
 · have HST:Hid (Start l s i o k w (.slice none 0 0) w1):=Zz (by
    obtain⟨h1,h2,h3,h4,h5,h6⟩:=HS1.out;exact⟨h1,h2,h3,h4,h5,h6,by rw[HUZ.out,HFV.out];exact World.ownsRow_nil _ _ _ _⟩);obtain⟨WB,rfl⟩:∃W,W=w1:=⟨w1,rfl⟩;clear HS1;obtain⟨x0,x1,x2,x3,x4,x5,x6,x7,x8,x9,x10⟩:=(HST.out.box0).c11;obtain⟨v0,v1,v2⟩:=(HST.out.box1).c3;gi_wp2_with fail;refine⟨trivial,(callsIn_wide.2 (flanks_any l s i o _)).mono ?_⟩;clear x0 x1 x2 x3 x4 x5 x6 x7 x8 x9 x10 v0 v1 v2;rintro e w2 ⟨rfl,rfl⟩;gi_wp2_with fail;obtain⟨g,hg⟩:∃g,WB.heap.size=g:=⟨_,rfl⟩;obtain⟨W0,hW0⟩:∃W0,(WB.alloc (.cells #[.slice l.As l.secs.length l.cs,.slice l.Ag l.sigs.length l.cg,.slice l.Ae l.exits.length l.ce,.slice l.Af l.flanks.length l.cf,.int .i64 l.t0,.int .i64 l.t1,.int .i64 l.t2,.int .i64 l.t3,.int .i64 l.t4,.int .i64 l.t5,.int .i64 l.t6] 29)).alloc (.cells #[.int .i64 s,.int .i64 i,.int .i64 o] 66)=W0:=⟨_,rfl⟩;have hsz:W0.heap.size=g+2:=by rw[←hW0];simp;omega
   have hg4:w.heap.size+4≤g:=by have :=HST.out.size;omega
   have b3:Whole W0 g 29 l.cells:=by rw[←hW0];exact(Whole.Zj _ _ l.cells _ hg.symm).alloc _
   have b4:Whole W0 (g+1) 66 (Ze (s,i,o)):=by rw[←hW0];exact Whole.Zj _ _ (Ze (s,i,o)) _ (by simp;omega)
   have hB2:Below WB.heap.size WB W0:=by rw[←hW0];exact below2 _ _ _
   have hB0:Below w.heap.size w W0:=HST.out.below.trans (hB2.mono HST.out.below.size);have hI0:WantI w k g (usV l s i o k) (fun _=>False) 0 W0:=⟨hB0,by omega,HST.out.kbox.below hB2 HST.out.kbox.lt,_,HST.out.row.below hB2 HST.out.row.lt,Zh HST.out.own hB2,fun b hb=>by have :=(HST.out.own.lt b hb).2;exact .inl (by omega)⟩;try rw[hW0]
   try rw[hg]
   clear hW0 hB2;have hit:=flanks_iter (w0:=W0) (wa:=w) hT hL (fun k o hk ho=>(hB0.block k hk).trans ho) hB0.size b3 b4;obtain⟨xs,hxs⟩:∃xs,flanksV l s i o=xs:=⟨_,rfl⟩;rw[hxs] at hit HXN HXL HXA;have HSZ:=Zz hsz;have HG4:=Zz hg4;clear hT hL hxs b3 b4 hg HST hF;refine range_iterU (gf:=198) rfl (enters_of Tryz.func198 (by kernel_rfl) rfl) hit (Keeps.refl _ _) (fun k hk=>by have :=HSZ.out;have :=HG4.out;rcases hk with h|h|h <;> omega) (fun _=>rfl) (by omega)
    (WantI w k g (usV l s i o k)) (fun _ _ _=>False) (by rw[hsz];exact WantI.safe w k g _ hg4) (fun _=>by rw[hsz];exact fun _ _ _ _ h _=>h.elim)
    hI0
    (fun U j x a' W=>WantI w k g (usV l s i o k) U j W∧∃gp,Whole W gp 136 (flkCells x)∧U gp∧a'= {tmps:=#[l.val,stpV s i o,.int .i64 k,.pointer (some ⟨w.heap.size,0,none⟩),.pointer (some ⟨w.heap.size+1,0,none⟩),.pointer (some ⟨w.heap.size+1+1,0,none⟩),.slice none 0 0,.pointer (some ⟨w.heap.size+1+1+1,0,none⟩),.int .i64 p,.int .i64 pos,.bool false,.pointer (some ⟨gp,0,none⟩),.tuple #[.int .i64 p,.int .i64 pos,.bool false],.agg #[.slice l.As l.secs.length l.cs,.slice l.Ag l.sigs.length l.cg,.slice l.Ae l.exits.length l.ce,.slice l.Af l.flanks.length l.cf,.int .i64 l.t0,.int .i64 l.t1,.int .i64 l.t2,.int .i64 l.t3,.int .i64 l.t4,.int .i64 l.t5,.int .i64 l.t6],stpV s i o,.tuple #[.int .i64 p,.int .i64 pos,.bool false],.int .i64 p,.int .i64 pos,.bool false,.bool false,undef,undef,undef,undef,undef,undef,undef,.agg #[.slice l.As l.secs.length l.cs,.slice l.Ag l.sigs.length l.cg,.slice l.Ae l.exits.length l.ce,.slice l.Af l.flanks.length l.cf,.int .i64 l.t0,.int .i64 l.t1,.int .i64 l.t2,.int .i64 l.t3,.int .i64 l.t4,.int .i64 l.t5,.int .i64 l.t6],stpV s i o,.func (.func 198) #[] #[.pointer (some ⟨g,0,none⟩),.pointer (some ⟨g+1,0,none⟩)],flkV x.1 x.2.1 x.2.2.1 x.2.2.2,undef,undef,undef,undef,undef,undef,undef,undef,undef,undef],defers:=[]})
    (fun j x a'=>by
     rw[hsz];rintro U u W W' ⟨h1,gp,h2,h3,h4⟩ ht;exact⟨WantI.safe w k g _ hg4 _ _ _ _ h1 ht,gp,ht.whole h2 (.inr h3),h3,h4⟩)
    ?assign ?body ?done ?stop
   case assign=>
    rintro lr U j x W K hx hI hsW hU hK;have hb:=below1 W (.cells (flkCells x).toArray 136);gi_wp2_with fail;exact hK _ _ (With U W (W.alloc (.cells (flkCells x).toArray 136))) (Grew.with hU hb.size) (Kept.below hb) ⟨(WantI.safe w k g _ HG4.out _ _ _ _ hI (Stays.below hb)).up (fun k h=>.inl h),W.heap.size,Whole.new W _ (flkCells x),.inr ⟨Nat.le_refl _,by simp⟩,rfl⟩
   case body=>
    rintro lr U j x a' W hl hx ⟨hI,gp,hgp,hUg,rfl⟩ hU;have HE:=Zz (HXN.out j x hx);have hjn:(usV l s i o k j).length≤1000:=by have :=HUL.out j;have :=(List.getElem?_eq_some_iff.1 hx).1;have :=HXL.out;omega
    have p2:=hgp.Za 2 rfl;have p3:=hgp.Za 3 rfl;have k0:=hI.kbox.Za 0 rfl;obtain⟨v,c0,v',W5,hrun,hbx5,⟨A',n',c',rfl⟩,hI5,hs5,hk5⟩:=hI.append HG4.out HE.out hjn hU;have f0:=hbx5.frozen 0;have c5:=hbx5.Za 0 rfl;have HK5:=Zz hk5;have HI5:=Zz hI5;clear hI hgp hk5 hI5 hbx5 HE hx;gi_wp2_with (gi_at_builtin;refine listIn_append rfl (.tmp 31) (.tmp 38) 76 rfl hrun ?_);exact⟨_,Grew.with hU hs5,by first|exact HK5.out|(rw[HSZ.out];exact HK5.out),HI5.out⟩
   case stop=>
    rintro D c U W _ _ h _;exact h.elim
   case done=>
    rintro D U W hD hUD ⟨hB,hsW,kb,v,b2,hown,hvU⟩ hK;have c0:=b2.Za 0 rfl;have hsz:=HSZ.out;have HO:Hid ((W.putObj D (.deferred none)).ownsRow w.heap.size 100 3 v (wantsV l s i o k).length ((wantsV l s i o k).flatMap Zi)):=Zz (by
     rw[←HXA.out];refine⟨hown.1,?_⟩;rcases hown.2 with h|⟨g',cap,cur,rfl,h3,h4,r⟩
     · exact .inl h
     · refine .inr ⟨g',cap,cur,rfl,by omega,(World.putObj_heap_other (fun e=>?_)).trans h4,r⟩;subst e;rw[hK] at h4;cases h4);have hg4:=HG4.out;clear hown hvU;gi_wp2_with fail;refine⟨by simp,.inl ⟨_,_,rfl,run_takeDeferred hK,?_⟩⟩;refine⟨v,by simp[results,Tryz.f136,go_sem],⟨v,rfl,HO.out,hB.trans (belowK_b (w:=w) (Nat.le_refl _) _ D _ _ (by omega) hK rfl rfl)⟩⟩
 · have c0:=HS1.out.2.2.2.2.2.Za 0 rfl;have kk:=HS1.out.2.2.2.2.1.Za 0 rfl;have hs1:=HS1.out.2.1;obtain⟨v',w3,hrun,hown',hgr,hB3,_⟩:=append_need (w.heap.size+4) 0 (.slice none 0 0) [] (p,pos,k) (w1.alloc (.cells #[.int .i64 p,.int .i64 pos,.int .i64 k] 100)) w1.heap.size (World.ownsRow_nil _ _ _ _) (Whole.new w1 _ (Zi (p,pos,k))) (by omega) (by simp;omega);have hB4:Below (w.heap.size+4) w1 w3:=((below1 w1 (.cells #[.int .i64 p,.int .i64 pos,.int .i64 k] 100)).mono hs1).trans hB3;have hbx:Whole w3 (w.heap.size+1+1+1) 76 [.slice none 0 0]:=HS1.out.2.2.2.2.2.below hB4 (by omega);have f0:=hbx.frozen 0;have c5:=hbx.Za 0 rfl;obtain⟨WB,hWB⟩:∃WB,w3.setCell ⟨w.heap.size+1+1+1,0,none⟩ v'=WB:=⟨_,rfl⟩;have HST:Hid (Start l s i o k w v' WB):=Zz (by
    obtain⟨h1,h2,h3,h4,h5,h6⟩:=HS1.out;rw[←hWB];have hz:(w3.setCell ⟨w.heap.size+1+1+1,0,none⟩ v').heap.size=w3.heap.size:=by simp[World.setCell]
    refine⟨(h1.trans (hB4.mono (by omega))).setCell (p:=⟨w.heap.size+1+1+1,0,none⟩) (by show w.heap.size≤w.heap.size+1+1+1;omega) _,by rw[hz];have :=hB4.size;omega,(h3.below hB4 (by omega)).far (p:=⟨w.heap.size+1+1+1,0,none⟩) (by show w.heap.size≠w.heap.size+1+1+1;omega) _,(h4.below hB4 (by omega)).far (p:=⟨w.heap.size+1+1+1,0,none⟩) (by show w.heap.size+1≠w.heap.size+1+1+1;omega) _,(h5.below hB4 (by omega)).far (p:=⟨w.heap.size+1+1+1,0,none⟩) (by show w.heap.size+1+1≠w.heap.size+1+1+1;omega) _,hbx.set 0 v',?_⟩;rw[HUZ.out,HFV.out];have :=hown'.kept (grownBy_setCell' w3 (w.heap.size+1+1+1) v') (.inr (fun e=>by have :=(hown'.lt _ e).1;omega));simpa using this);have HWB:=Zz hWB;obtain⟨A',c',hv'⟩:=slice_of hown';subst hv';obtain⟨x0,x1,x2,x3,x4,x5,x6,x7,x8,x9,x10⟩:=(HST.out.box0).c11;obtain⟨v0,v1,v2⟩:=(HST.out.box1).c3;clear HS1 hs1 hown' hgr hB3 hB4 hbx;gi_wp2_with (gi_at_builtin;refine listIn_append rfl (.tmp 20) (.tmp 25) 76 rfl hrun ?_);clear hrun c0 kk f0 c5;try rw[HWB.out]
   clear HWB hWB;refine⟨trivial,(callsIn_wide.2 (flanks_any l s i o _)).mono ?_⟩;clear x0 x1 x2 x3 x4 x5 x6 x7 x8 x9 x10 v0 v1 v2;rintro e w2 ⟨rfl,rfl⟩;gi_wp2_with fail;obtain⟨g,hg⟩:∃g,WB.heap.size=g:=⟨_,rfl⟩;obtain⟨W0,hW0⟩:∃W0,(WB.alloc (.cells #[.slice l.As l.secs.length l.cs,.slice l.Ag l.sigs.length l.cg,.slice l.Ae l.exits.length l.ce,.slice l.Af l.flanks.length l.cf,.int .i64 l.t0,.int .i64 l.t1,.int .i64 l.t2,.int .i64 l.t3,.int .i64 l.t4,.int .i64 l.t5,.int .i64 l.t6] 29)).alloc (.cells #[.int .i64 s,.int .i64 i,.int .i64 o] 66)=W0:=⟨_,rfl⟩;have hsz:W0.heap.size=g+2:=by rw[←hW0];simp;omega
   have hg4:w.heap.size+4≤g:=by have :=HST.out.size;omega
   have b3:Whole W0 g 29 l.cells:=by rw[←hW0];exact(Whole.Zj _ _ l.cells _ hg.symm).alloc _
   have b4:Whole W0 (g+1) 66 (Ze (s,i,o)):=by rw[←hW0];exact Whole.Zj _ _ (Ze (s,i,o)) _ (by simp;omega)
   have hB2:Below WB.heap.size WB W0:=by rw[←hW0];exact below2 _ _ _
   have hB0:Below w.heap.size w W0:=HST.out.below.trans (hB2.mono HST.out.below.size);have hI0:WantI w k g (usV l s i o k) (fun _=>False) 0 W0:=⟨hB0,by omega,HST.out.kbox.below hB2 HST.out.kbox.lt,_,HST.out.row.below hB2 HST.out.row.lt,Zh HST.out.own hB2,fun b hb=>by have :=(HST.out.own.lt b hb).2;exact .inl (by omega)⟩;try rw[hW0]
   try rw[hg]
   clear hW0 hB2;have hit:=flanks_iter (w0:=W0) (wa:=w) hT hL (fun k o hk ho=>(hB0.block k hk).trans ho) hB0.size b3 b4;obtain⟨xs,hxs⟩:∃xs,flanksV l s i o=xs:=⟨_,rfl⟩;rw[hxs] at hit HXN HXL HXA;have HSZ:=Zz hsz;have HG4:=Zz hg4;clear hT hL hxs b3 b4 hg HST hF;refine range_iterU (gf:=198) rfl (enters_of Tryz.func198 (by kernel_rfl) rfl) hit (Keeps.refl _ _) (fun k hk=>by have :=HSZ.out;have :=HG4.out;rcases hk with h|h|h <;> omega) (fun _=>rfl) (by omega)
    (WantI w k g (usV l s i o k)) (fun _ _ _=>False) (by rw[hsz];exact WantI.safe w k g _ hg4) (fun _=>by rw[hsz];exact fun _ _ _ _ h _=>h.elim)
    hI0
    (fun U j x a' W=>WantI w k g (usV l s i o k) U j W∧∃gp,Whole W gp 136 (flkCells x)∧U gp∧a'= {tmps:=#[l.val,stpV s i o,.int .i64 k,.pointer (some ⟨w.heap.size,0,none⟩),.pointer (some ⟨w.heap.size+1,0,none⟩),.pointer (some ⟨w.heap.size+1+1,0,none⟩),.slice none 0 0,.pointer (some ⟨w.heap.size+1+1+1,0,none⟩),.int .i64 p,.int .i64 pos,.bool true,.pointer (some ⟨gp,0,none⟩),.tuple #[.int .i64 p,.int .i64 pos,.bool true],.agg #[.slice l.As l.secs.length l.cs,.slice l.Ag l.sigs.length l.cg,.slice l.Ae l.exits.length l.ce,.slice l.Af l.flanks.length l.cf,.int .i64 l.t0,.int .i64 l.t1,.int .i64 l.t2,.int .i64 l.t3,.int .i64 l.t4,.int .i64 l.t5,.int .i64 l.t6],stpV s i o,.tuple #[.int .i64 p,.int .i64 pos,.bool true],.int .i64 p,.int .i64 pos,.bool true,.bool true,.slice none 0 0,.int .i64 p,.int .i64 pos,.int .i64 k,.agg #[.int .i64 p,.int .i64 pos,.int .i64 k],.slice (some ⟨w1.heap.size,0,none⟩) 1 1,.slice A' 1 c',.agg #[.slice l.As l.secs.length l.cs,.slice l.Ag l.sigs.length l.cg,.slice l.Ae l.exits.length l.ce,.slice l.Af l.flanks.length l.cf,.int .i64 l.t0,.int .i64 l.t1,.int .i64 l.t2,.int .i64 l.t3,.int .i64 l.t4,.int .i64 l.t5,.int .i64 l.t6],stpV s i o,.func (.func 198) #[] #[.pointer (some ⟨g,0,none⟩),.pointer (some ⟨g+1,0,none⟩)],flkV x.1 x.2.1 x.2.2.1 x.2.2.2,undef,undef,undef,undef,undef,undef,undef,undef,undef,undef],defers:=[]})
    (fun j x a'=>by
     rw[hsz];rintro U u W W' ⟨h1,gp,h2,h3,h4⟩ ht;exact⟨WantI.safe w k g _ hg4 _ _ _ _ h1 ht,gp,ht.whole h2 (.inr h3),h3,h4⟩)
    ?assign ?body ?done ?stop
   case assign=>
    rintro lr U j x W K hx hI hsW hU hK;have hb:=below1 W (.cells (flkCells x).toArray 136);gi_wp2_with fail;exact hK _ _ (With U W (W.alloc (.cells (flkCells x).toArray 136))) (Grew.with hU hb.size) (Kept.below hb) ⟨(WantI.safe w k g _ HG4.out _ _ _ _ hI (Stays.below hb)).up (fun k h=>.inl h),W.heap.size,Whole.new W _ (flkCells x),.inr ⟨Nat.le_refl _,by simp⟩,rfl⟩
   case body=>
    rintro lr U j x a' W hl hx ⟨hI,gp,hgp,hUg,rfl⟩ hU;have HE:=Zz (HXN.out j x hx);have hjn:(usV l s i o k j).length≤1000:=by have :=HUL.out j;have :=(List.getElem?_eq_some_iff.1 hx).1;have :=HXL.out;omega
    have p2:=hgp.Za 2 rfl;have p3:=hgp.Za 3 rfl;have k0:=hI.kbox.Za 0 rfl;obtain⟨v,c0,v',W5,hrun,hbx5,⟨A',n',c',rfl⟩,hI5,hs5,hk5⟩:=hI.append HG4.out HE.out hjn hU;have f0:=hbx5.frozen 0;have c5:=hbx5.Za 0 rfl;have HK5:=Zz hk5;have HI5:=Zz hI5;clear hI hgp hk5 hI5 hbx5 HE hx;gi_wp2_with (gi_at_builtin;refine listIn_append rfl (.tmp 31) (.tmp 38) 76 rfl hrun ?_);exact⟨_,Grew.with hU hs5,by first|exact HK5.out|(rw[HSZ.out];exact HK5.out),HI5.out⟩
   case stop=>
    rintro D c U W _ _ h _;exact h.elim
   case done=>
    rintro D U W hD hUD ⟨hB,hsW,kb,v,b2,hown,hvU⟩ hK;have c0:=b2.Za 0 rfl;have hsz:=HSZ.out;have HO:Hid ((W.putObj D (.deferred none)).ownsRow w.heap.size 100 3 v (wantsV l s i o k).length ((wantsV l s i o k).flatMap Zi)):=Zz (by
     rw[←HXA.out];refine⟨hown.1,?_⟩;rcases hown.2 with h|⟨g',cap,cur,rfl,h3,h4,r⟩
     · exact .inl h
     · refine .inr ⟨g',cap,cur,rfl,by omega,(World.putObj_heap_other (fun e=>?_)).trans h4,r⟩;subst e;rw[hK] at h4;cases h4);have hg4:=HG4.out;clear hown hvU;gi_wp2_with fail;refine⟨by simp,.inl ⟨_,_,rfl,run_takeDeferred hK,?_⟩⟩;refine⟨v,by simp[results,Tryz.f136,go_sem],⟨v,rfl,HO.out,hB.trans (belowK_b (w:=w) (Nat.le_refl _) _ D _ _ (by omega) hK rfl rfl)⟩⟩
end
section
open Go.RowKit Go.Shelf
theorem overB10_any {l:Lay} {w:World} (hT:Shapes w) (hL:Lies l w) (hO:∀x ∈ l.exits,x.over.length≤1000) (x:Int) {ss:List (Int×Int×Int)} (hs:overL10 l x=ss):Calls Tryz.prog 171 #[l.val,.int .i64 x] w fun e w'=>∃v,e= .returned v∧w'.ownsRow w.heap.size 66 3 v ss.length (ss.flatMap Ze)∧Below w.heap.size w w':=by
 subst hs;obtain⟨Q,HQ,HQb,HQl,hq⟩:=keep_box (Closed.below w) (Below.refl _ w) 29 l.cells;have HTW:Hid (∀W,Q W→Shapes W∧Lies l W):=Zz fun W hW=>⟨Shapes.closed _ _ hT (HQb.out W hW),Lies.closed l _ _ hL (HQb.out W hW)⟩;rcases at_cases_n l.exits x with h1|⟨h0,h1⟩|⟨j,y,rfl,hy,hlt⟩
 · rw[over_neg h1];have d1:=decide_eq_true h1;clear hT hL hO;have hW:=hq;obtain⟨x0,x1,x2,x3,x4,x5,x6,x7,x8,x9,x10⟩:=(HQl.out _ hW).c11;clear hW;go_enter Tryz.func171,Tryz.ntmps171;go_wp2_with fail;go_ret;exact⟨_,rfl,World.ownsRow_nil _ _ _ _,HQb.out _ hq⟩
 · rw[over_far h0 h1];have d1:decide (x<0)=false:=decide_eq_false (by omega);have d2:decide ((l.exits.length:Int)≤x)=true:=decide_eq_true h1;clear hT hL hO;have hW:=hq;obtain⟨x0,x1,x2,x3,x4,x5,x6,x7,x8,x9,x10⟩:=(HQl.out _ hW).c11;clear hW;go_enter Tryz.func171,Tryz.ntmps171;go_wp2_with fail;go_ret;exact⟨_,rfl,World.ownsRow_nil _ _ _ _,HQb.out _ hq⟩
 · rw[over_at hy];have HC:Hid (∃b off,l.Ae=some ⟨b,off,none⟩∧∀W,Q W→W.cell? ⟨b,off+j*3,none⟩=some (.int .i64 y.s)∧W.cell? ⟨b,off+j*3+1,none⟩=some (.int .i64 y.q)∧W.cell? ⟨b,off+j*3+2,none⟩=some (.slice y.A y.over.length y.c)):=Zz (by
    obtain⟨b,off,hA,_,hc0,hc⟩:=(HTW.out _ hq).2.exits.nth (n:=3) (fun _=>rfl) (by omega) hy;refine⟨b,off,hA,fun W hW=>?_⟩;obtain⟨b',off',hA',_,hc0,hc⟩:=(HTW.out _ hW).2.exits.nth (n:=3) (fun _=>rfl) (by omega) hy;rw[hA] at hA';cases hA';exact⟨hc0 j _ _ hy rfl,hc j _ 1 _ hy rfl,hc j _ 2 _ hy rfl⟩);obtain⟨b,off,hA,hC⟩:=HC.out;have KC:=Zz (cloneStep_any y.A y.c _ ((HTW.out _ hq).2.overs y (List.mem_of_getElem? hy)) (hO y (List.mem_of_getElem? hy)));obtain⟨c0,c1,c2⟩:=hC _ hq;have x2:=(HQl.out _ hq).Za 2 rfl;rw[hA] at x2;have HB:=Zz (HQb.out _ hq);have hlt':j<l.exits.length:=by omega
   clear hT hL hO hC hA HC hy hq;go_enter Tryz.func171,Tryz.ntmps171;go_wp2_with fail;refine KC.out.mono ?_;clear KC c0 c1 c2 x2;rintro e w1 ⟨v,rfl,hown,hB⟩;have HO:=Zz (owns_base hown (base':=w.heap.size) (by simp));have HB1:=Zz (HB.out.trans (hB.mono HB.out.size));clear hown hB;go_wp2_with fail;go_ret;exact⟨_,rfl,HO.out,HB1.out⟩
end
section
open Go.RowKit Go.Shelf
attribute [local go_sem] Oper.semAt_some
def numF:List (Int×Int×Int)→Int→List (Int×Int×Int×Int)
 |[],_=>[]
 |s::r,k=>(k,s)::numF r (k+1)
theorem numF_len:∀(ss:List (Int×Int×Int)) (k:Int),(numF ss k).length=ss.length
 |[],_=>rfl
 |s::r,k=>by show(numF r (k+1)).length+1=r.length+1;rw[numF_len r (k+1)]
theorem numF_at:∀(ss:List (Int×Int×Int)) (k:Int) (j:Nat),(numF ss k)[j]? =(ss[j]?).map fun s=>(k+j,s)
 |[],_,_=>rfl
 |s::r,k,0=>by simp[numF]
 |s::r,k,j+1=>by
  show(numF r (k+1))[j]? =(r[j]?).map _;rw[numF_at r (k+1) j,show k+1+(j:Int)=k+((j+1:Nat):Int) by omega]
def stepsN (l:Lay) (p:Pth):List (Int×Int×Int×Int):=numF p.ss 0++(overL10 l p.x).map fun s=>((p.ss.length:Int),s)
theorem stepsN_len (l:Lay) (p:Pth):(stepsN l p).length=p.ss.length+(overL10 l p.x).length:=by unfold stepsN;rw[List.length_append,numF_len,List.length_map]
theorem stepsN_at1 {l:Lay} {p:Pth} {j:Nat} {s:Int×Int×Int} (h:p.ss[j]? =some s):(stepsN l p)[j]? =some ((j:Int),s):=by
 have hj:=(List.getElem?_eq_some_iff.1 h).1;unfold stepsN;rw[List.getElem?_append_left (by rw[numF_len];exact hj),numF_at,h];simp
theorem stepsN_at2 {l:Lay} {p:Pth} {j:Nat} {s:Int×Int×Int} (h:(overL10 l p.x)[j]? =some s):(stepsN l p)[p.ss.length+j]? =some ((p.ss.length:Int),s):=by
 unfold stepsN;rw[List.getElem?_append_right (by rw[numF_len];omega),numF_len,Nat.add_sub_cancel_left,List.getElem?_map,h];rfl
theorem over_le13 {l:Lay} (hO:∀x ∈ l.exits,x.over.length≤1000) (x:Int):(overL10 l x).length≤1000:=by
 unfold overL10;split
 · cases h:l.exits[x.toNat]? with
   |none=>simp
   |some e=>simpa using hO e (List.mem_of_getElem? h)
 · simp
theorem PLies.keeps {p:Pth} {w W:World} {R:Nat→Prop} (h:PLies p w) (hk:Keeps R w W) (hR:∀k,k<w.heap.size→R k) (hs:w.heap.size≤W.heap.size):PLies p W:=⟨(h.row.keeps hk hR).mono hs,h.len⟩
theorem owns_kept13 {R:Nat→Prop} {B:Nat} {U:Nat→Prop} {W W':World} (h:Kept R B U W W') {base e k n:Nat} {v:Value} {xs:List Value} (hown:W.ownsRow base e k v n xs) (hU:∀b,v.ownBlock=some b→B≤b∧¬U b):W'.ownsRow base e k v n xs:=by
 refine⟨hown.1,?_⟩;rcases hown.2 with h2|⟨g,cap,cur,rfl,h3,h4,r⟩
 · exact .inl h2
 · exact .inr ⟨g,cap,cur,rfl,h3,h.rest g _ h4 (.inr (hU g rfl)),r⟩
theorem steps13_any (l:Lay) (p:Pth) (w:World):Calls Tryz.prog 135 #[l.val,p.val] w fun e w'=>e= .returned (.func (.func 170) #[] #[.pointer (some ⟨w.heap.size+1,0,none⟩),.pointer (some ⟨w.heap.size,0,none⟩)]) ∧
 w'=(w.alloc (.cells #[.slice l.As l.secs.length l.cs,.slice l.Ag l.sigs.length l.cg,.slice l.Ae l.exits.length l.ce,.slice l.Af l.flanks.length l.cf,.int .i64 l.t0,.int .i64 l.t1,.int .i64 l.t2,.int .i64 l.t3,.int .i64 l.t4,.int .i64 l.t5,.int .i64 l.t6] 29)).alloc (.cells #[.int .i64 p.s,.int .i64 p.x,.slice p.A p.ss.length p.c] 46):=by
 go_enter Tryz.func135,Tryz.ntmps135
 go_wp2_with fail
 go_ret
 exact⟨rfl,rfl⟩
theorem steps13_iter {wa w0:World} {g1 g2:Nat} {l:Lay} {p:Pth} (hT:Shapes wa) (hL:Lies l wa) (hp:PLies p wa) (hO:∀x ∈ l.exits,x.over.length≤1000) (hka:Keeps (· <wa.heap.size) wa w0) (hsa:wa.heap.size≤w0.heap.size) (hb1:Whole w0 g1 46 p.cells) (hb2:Whole w0 g2 29 l.cells):
 IterU Tryz.prog 170 #[.pointer (some ⟨g1,0,none⟩),.pointer (some ⟨g2,0,none⟩)] (fun x:Int×Int×Int×Int=>#[.int .i64 x.1,stpV x.2.1 x.2.2.1 x.2.2.2]) (stepsN l p) (fun k=>k<wa.heap.size∨(k=g1∨k=g2)) w0:=by
 intro L J Jx W hk0 hRl hJ hJx hY h0
 have hnW:wa.heap.size≤W.heap.size:=Nat.le_of_not_lt fun hlt=>absurd (hRl _ (.inl hlt)) (Nat.lt_irrefl _)
 have HF:Hid (∀W',Keeps (fun k=>k<wa.heap.size∨(k=g1∨k=g2)) w0 W'→W.heap.size≤W'.heap.size→(Shapes W'∧Lies l W')∧PLies p W'):=Zz fun W' hk hs=>
  have hk':=hka.trans (hk.sub fun k h=>.inl h)
  ⟨⟨hT.keeps hk' (fun _ h=>h),hL.keeps hk' (fun _ h=>h) (Nat.le_trans hnW hs)⟩,hp.keeps hk' (fun _ h=>h) (Nat.le_trans hnW hs)⟩
 have HB1:Hid (∀W',Keeps (fun k=>k<wa.heap.size∨(k=g1∨k=g2)) w0 W'→Whole W' g1 46 p.cells):=Zz fun W' hk=>hk.whole (.inr (.inl rfl)) hb1
 have HB2:Hid (∀W',Keeps (fun k=>k<wa.heap.size∨(k=g1∨k=g2)) w0 W'→Whole W' g2 29 l.cells):=Zz fun W' hk=>hk.whole (.inr (.inr rfl)) hb2
 have hnP:=hp.len
 obtain⟨os,hos⟩:∃os,overL10 l p.x=os:=⟨_,rfl⟩
 have HX1:Hid (∀(j:Nat) s,p.ss[j]? =some s→(stepsN l p)[j]? =some ((j:Int),s)):=Zz fun j s h=>stepsN_at1 h
 have HX2:Hid (∀(j:Nat) s,os[j]? =some s→(stepsN l p)[p.ss.length+j]? =some ((p.ss.length:Int),s)):=Zz fun j s h=>stepsN_at2 (by rw[hos];exact h)
 have HXL:Hid ((stepsN l p).length=p.ss.length+os.length):=Zz (by rw[stepsN_len,hos])
 have hol:os.length≤1000:=by rw[←hos];exact over_le13 hO _
 obtain⟨xs,hxs⟩:∃xs,stepsN l p=xs:=⟨_,rfl⟩
 rw[hxs] at hY HX1 HX2 HXL ⊢
 obtain⟨B,hB⟩:∃B,W.heap.size=B:=⟨_,rfl⟩
 have hs0:B≤W.heap.size:=by omega
 rw[hB] at HF hJ hJx hY
 have KO:Hid (∀W',Shapes W'→Lies l W'→Calls Tryz.prog 171 #[l.val,.int .i64 p.x] W' fun e w'=>∃v,e= .returned v∧w'.ownsRow W'.heap.size 66 3 v os.length (os.flatMap Ze)∧Below W'.heap.size W' w'):=Zz fun W' h1 h2=>overB10_any h1 h2 hO p.x hos
 have s2:=(HB1.out _ hk0).Za 2 rfl
 clear hT hL hp hO hka hb1 hb2 hRl hxs hnW hB hos
 refine(callsIn_wide (n:=3)).1 ?_
 refine callsIn_of_wp Tryz.func170 rfl trivial ?_ rfl
 simp only[Tryz.ntmps170,Ld,Le,Lf,Nat.reduceAdd,Nat.reduceSub,Lg,Lh,Li,Lj,Lk,Ll]
 gi_wp2_with fail
 clear s2
 gi_loopw [11] (fun i wr=>∃(j:Nat) (U:Nat→Prop),j≤p.ss.length∧i= .int .i64 j∧J U j wr∧(∀k,U k→k<wr.heap.size)∧Keeps (fun k=>k<wa.heap.size∨(k=g1∨k=g2)) w0 wr∧B≤wr.heap.size)
  (fun i _=>p.ss.length - (intOf i).toNat)
 case atStart=>exact⟨0,fun _=>False,by omega,rfl,h0,fun k h=>h.elim,hk0,hs0⟩
 case round=>
  clear h0 hk0 hs0;obtain⟨j,U,hj,rfl,hJj,hUl,hk,hs⟩:=hrel;by_cases hlt:j<p.ss.length
  · have hlt':(j:Int)<p.ss.length:=by omega
    obtain⟨⟨f1,f2,f3⟩,hx⟩:∃x,p.ss[j]? =some x:=⟨_,List.getElem?_eq_getElem hlt⟩;obtain⟨b,off,hA,_,hc0,hc⟩:=(HF.out _ hk hs).2.row.nth (n:=3) (fun _=>rfl) (by omega) hx;have HX:=Zz hx;have c0:=hc0 j _ _ hx rfl;have c1:=hc j _ 1 _ hx rfl;have c2:=hc j _ 2 _ hx rfl;clear hx hc0 hc;have hb4:=below1 wr (.cells #[.int .i64 f1,.int .i64 f2,.int .i64 f3] 66);have hJ2:=hJ _ _ _ _ hJj (Stays.below hb4);have hk2:=hk.trans (Keeps.below hb4);have hs2:=Nat.le_trans hs hb4.size;have hU2:∀k,U k→k<(wr.alloc (.cells #[.int .i64 f1,.int .i64 f2,.int .i64 f3] 66)).heap.size:=fun k h=>Nat.lt_of_lt_of_le (hUl k h) hb4.size;rw[hA];have HA:=Zz hA;obtain⟨fn,tmps,assign,body,hy,hR⟩:=hY U j _ _ (HX1.out j _ HX.out) hJ2 hU2;have HR:=Zz hR;have HK2:=Zz hk2;clear hR hJ2 hk2 hJj hk hs hUl hb4 hA;gi_wp2_with fail;refine RoundIn.mono (RoundIn.wide HR.out) ?_;clear HR hy c0 c1 c2;rintro e W3 ⟨U',hg',hk',(⟨rfl,hJ3⟩|⟨rfl,hJx3⟩)⟩
    · have hk3:=HK2.out.trans hk'.keeps;have hs3:=Nat.le_trans hs2 hk'.size;have hU3:=hg'.lt;clear hg' hk' HK2;gi_wp2_with fail;go_roundw
      case rel=>exact⟨j+1,U',hlt,by go_num,hJ3,hU3,hk3,hs3⟩
      case measure=>simp[intOf];omega
    · have hU3:=hg'.lt;gi_wp2
      refine bodyPost_ret (results_none rfl _ _ _) rfl ?_;exact⟨⟨_,rfl⟩,U',hU3,.inr hJx3⟩
  · obtain rfl:j=p.ss.length:=by omega
    obtain⟨x0,x1,x2,x3,x4,x5,x6,x7,x8,x9,x10⟩:=(HB2.out _ hk).c11;have s1:=(HB1.out _ hk).Za 1 rfl;have hf:=HF.out _ hk hs;have KO1:=Zz (KO.out _ hf.1.1 hf.1.2);clear hf KO hj hlt;gi_wp2_with fail;refine⟨trivial,(callsIn_wide.2 KO1.out).mono ?_⟩;clear KO1 s1 x0 x1 x2 x3 x4 x5 x6 x7 x8 x9 x10;rintro e w2 ⟨v,rfl,hown,hB2⟩;have hJ1:=hJ _ _ _ _ hJj (Stays.below hB2);have hk1:=hk.trans (Keeps.below hB2);have hs1:=Nat.le_trans hs hB2.size;have hU1:∀k,U k→k<w2.heap.size:=fun k h=>Nat.lt_of_lt_of_le (hUl k h) hB2.size;have hown':∀b,v.ownBlock=some b→B≤b∧¬U b:=fun b hb=>⟨Nat.le_trans hs (hown.lt b hb).1,fun hu=>by have :=hUl b hu;have :=(hown.lt b hb).1;omega⟩;obtain⟨A,c,rfl,_,_⟩:=ownsS_slice hown;have HOW:=Zz (And.intro hown hown');clear hJj hk hs hUl hB2 hown hown';gi_wp2_with fail;gi_loopw [27] (fun i wr=>∃(j:Nat) (U:Nat→Prop),j≤os.length∧i= .int .i64 j∧J U (p.ss.length+j) wr∧(∀k,U k→k<wr.heap.size)∧Keeps (fun k=>k<wa.heap.size∨(k=g1∨k=g2)) w0 wr∧B≤wr.heap.size∧Hid (∃base,wr.ownsRow base 66 3 (.slice A os.length c) os.length (os.flatMap Ze)∧∀b,(Value.slice A os.length c).ownBlock=some b→B≤b∧¬U b))
     (fun i _=>os.length - (intOf i).toNat)
    case atStart=>exact⟨0,U,by omega,rfl,hJ1,hU1,hk1,hs1,Zz ⟨_,HOW.out⟩⟩
    case round=>
     clear hJ1 hU1 hk1 hs1 HOW;obtain⟨j,U,hj,rfl,hJj,hUl,hk,hs,HOW⟩:=hrel;by_cases hlt:j<os.length
     · have hlt':(j:Int)<os.length:=by omega
       obtain⟨⟨f1,f2,f3⟩,hx⟩:∃x,os[j]? =some x:=⟨_,List.getElem?_eq_getElem hlt⟩;have HX:=Zz hx;have hrow:Row wr wr.heap.size A (os.flatMap Ze):=by
        obtain⟨base,ho,_⟩:=HOW.out;obtain⟨A',c',e,hr,_⟩:=ownsS_slice ho;cases e;exact hr
       obtain⟨b,off,hA,_,hc0,hc⟩:=hrow.nth (n:=3) (fun _=>rfl) (by omega) hx;have c0:=hc0 j _ _ hx rfl;have c1:=hc j _ 1 _ hx rfl;have c2:=hc j _ 2 _ hx rfl;clear hx hc0 hc hrow;have hb4:=below1 wr (.cells #[.int .i64 f1,.int .i64 f2,.int .i64 f3] 66);have hJ2:=hJ _ _ _ _ hJj (Stays.below hb4);have hk2:=hk.trans (Keeps.below hb4);have hs2:=Nat.le_trans hs hb4.size;have hU2:∀k,U k→k<(wr.alloc (.cells #[.int .i64 f1,.int .i64 f2,.int .i64 f3] 66)).heap.size:=fun k h=>Nat.lt_of_lt_of_le (hUl k h) hb4.size;have HOW2:Hid (∃base,(wr.alloc (.cells #[.int .i64 f1,.int .i64 f2,.int .i64 f3] 66)).ownsRow base 66 3 (.slice A os.length c) os.length (os.flatMap Ze)∧∀b,(Value.slice A os.length c).ownBlock=some b→B≤b∧¬U b):=Zz (by
        obtain⟨base,ho,hu⟩:=HOW.out;exact⟨base,Zh ho hb4,hu⟩);have s2:=(HB1.out _ hk2).Za 2 rfl;rw[hA];have HA:=Zz hA;obtain⟨fn,tmps,assign,body,hy,hR⟩:=hY U (p.ss.length+j) _ _ (HX2.out j _ HX.out) hJ2 hU2;have HR:=Zz hR;have HK2:=Zz hk2;have HU2:=Zz hU2;clear hR hJ2 hk2 hJj hk hs hUl hb4 hA HOW hU2;gi_wp2_with fail;refine RoundIn.mono (RoundIn.wide HR.out) ?_;clear HR hy c0 c1 c2 s2;rintro e W3 ⟨U',hg',hk',(⟨rfl,hJ3⟩|⟨rfl,hJx3⟩)⟩
       · have hk3:=HK2.out.trans hk'.keeps;have hs3:=Nat.le_trans hs2 hk'.size;have hU3:=hg'.lt;have HOW3:Hid (∃base,W3.ownsRow base 66 3 (.slice A os.length c) os.length (os.flatMap Ze)∧∀b,(Value.slice A os.length c).ownBlock=some b→B≤b∧¬U' b):=Zz (by
          obtain⟨base,ho,hu⟩:=HOW2.out;exact⟨base,owns_kept13 hk' ho hu,fun b hb=>⟨(hu b hb).1,fun h=>(hg'.new b h).elim (hu b hb).2 fun hh=>by have :=(ho.lt b hb).2;omega⟩⟩);clear hg' hk' HK2 HOW2;gi_wp2_with fail;go_roundw
         case rel=>exact⟨j+1,U',hlt,by go_num,hJ3,hU3,hk3,hs3,by rw[←HA.out];exact HOW3⟩
         case measure=>simp[intOf];omega
       · have hU3:=hg'.lt;gi_wp2
         refine bodyPost_ret (results_none rfl _ _ _) rfl ?_;exact⟨⟨_,rfl⟩,U',hU3,.inr hJx3⟩
     · obtain rfl:j=os.length:=by omega
       gi_wp2_with fail;go_end0
       exact⟨⟨_,rfl⟩,U,hUl,.inl (by rw[HXL.out];exact hJj)⟩
end
end Go.Proofs.YtifnlhfinjfajaaGreatDoor
