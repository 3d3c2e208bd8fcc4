/- Of this seat: NeeC, NeeD, NeeE, NeeRow. -/
import Derived.Maps.OwnSet
import Derived.Laws.EntriesVeiled
import Derived.Test.YtifnlhfinjfajaaGreatDoorK19
namespace Go.Proofs.YtifnlhfinjfajaaGreatDoor
set_option linter.unusedVariables false
set_option linter.unusedSimpArgs false
set_option maxRecDepth 100000
set_option maxHeartbeats 32000000
section
open Go.RowKit Go.Shelf
attribute [local go_sem] Oper.semAt_some
def wantN (l:Lay) (x:Int×Int×Int×Int):List (Int×Int×Int):=wantsV l x.2.1 x.2.2.1 x.2.2.2 x.1
def needTo (l:Lay) (xs:List (Int×Int×Int×Int)) (n:Nat):List (Int×Int×Int):=(xs.take n).flatMap (wantN l)
theorem numF_flat (l:Lay):∀(ss:List (Int×Int×Int)) (k:Int),(numF ss k).flatMap (wantN l)=ofS l ss k
 |[],_=>rfl
 |s::r,k=>by
  show((k,s)::numF r (k+1)).flatMap (wantN l)=wantsV l s.1 s.2.1 s.2.2 k++ofS l r (k+1);rw[List.flatMap_cons,numF_flat l r (k+1)];rfl
theorem of_flat (l:Lay) (p:Pth):(stepsN l p).flatMap (wantN l)=ofV l p:=by
 unfold stepsN ofV ofO;rw[List.flatMap_append,numF_flat,List.flatMap_map];rfl
theorem needTo_next {l:Lay} {xs:List (Int×Int×Int×Int)} {j:Nat} {x:Int×Int×Int×Int} (h:xs[j]? =some x):needTo l xs (j+1)=needTo l xs j++wantN l x:=by
 unfold needTo;rw[List.take_add_one,h,Option.toList_some,List.flatMap_append];simp
theorem needTo_at {l:Lay} {xs:List (Int×Int×Int×Int)} {j k:Nat} {x:Int×Int×Int×Int} {y:Int×Int×Int} (hx:xs[j]? =some x) (hy:(wantN l x)[k]? =some y):(xs.flatMap (wantN l))[(needTo l xs j).length+k]? =some y:=by
 have hk:=(List.getElem?_eq_some_iff.1 hy).1;have e:xs.flatMap (wantN l)=needTo l xs j++(wantN l x++(xs.drop (j+1)).flatMap (wantN l)):=by
  unfold needTo;have :=List.take_append_drop j xs;rw[drop_at hx] at this;conv=>lhs;rw[←this]
  rw[List.flatMap_append,List.flatMap_cons]
 rw[e,List.getElem?_append_right (by omega),Nat.add_sub_cancel_left,List.getElem?_append_left hk];exact hy
theorem want_len {l:Lay} {F:Nat} (hF:l.flanks.length≤F) (x:Int×Int×Int×Int):(wantN l x).length≤F+1:=by
 unfold wantN wantsV flanksV;have h1:=first_le l x.2.1 x.2.2.1 x.2.2.2 x.1;have h2:=List.length_filter_le (isFlk l x.2.1 x.2.2.1 x.2.2.2) l.flanks;rw[List.length_append,List.length_map];omega
theorem of_len {l:Lay} {p:Pth} {F S:Nat} (hF:l.flanks.length≤F) (hS:p.ss.length+(overL10 l p.x).length≤S):(ofV l p).length≤S*(F+1):=by
 rw[←of_flat];have hs:=stepsN_len l p;generalize stepsN l p=xs at hs;have :∀xs:List (Int×Int×Int×Int),(xs.flatMap (wantN l)).length≤xs.length*(F+1):=fun xs=>by
  induction xs with
  |nil=>simp
  |cons x r ih=>
   rw[List.flatMap_cons,List.length_append,List.length_cons,Nat.add_mul,Nat.one_mul];have :=want_len hF x;omega
 exact Nat.le_trans (this xs) (Nat.mul_le_mul_right _ (by omega))
structure NeeI (J:(Nat→Prop)→Nat→World→Prop) (R:Nat→Prop) (w0:World) (B:Nat) (yv:Value) (U:Nat→Prop) (i:Nat) (W:World):Prop where
 j:J U i W
 lt:∀k,U k→k<W.heap.size
 keeps:Keeps R w0 W
 box:Whole W B 176 [yv]
 boxU:¬U B
theorem NeeI.stays {J:(Nat→Prop)→Nat→World→Prop} {R:Nat→Prop} {w0:World} {B:Nat} {yv:Value} {U:Nat→Prop} {i:Nat} {W W':World} (h:NeeI J R w0 B yv U i W) (hJ:Safe B J) (hR:∀k,R k→k<B) {C:Nat} {V:Nat→Prop} (hs:Stays C V W W') (hBC:B<C) (hU:∀k,U k→k<C∨V k):NeeI J R w0 B yv U i W':=
 ⟨hJ _ _ _ _ h.j ⟨hs.same,hs.size,fun k o ho hk=>hs.rest k o ho (hk.elim (fun h=>.inl (by omega)) (hU k))⟩,fun k hk=>Nat.lt_of_lt_of_le (h.lt k hk) hs.size,fun k o hk ho=>hs.rest k o (h.keeps k o hk ho) (.inl (by have :=hR k hk;omega)),hs.whole h.box (.inl hBC),h.boxU⟩
structure NeeR (J:(Nat→Prop)→Nat→World→Prop) (R:Nat→Prop) (w0:World) (B h n:Nat) (yv:Value) (U0:Nat→Prop) (W0:World) (v:Value) (m:Nat) (xs:List Value) (V:Nat→Prop) (i:Nat) (W:World):Prop where
 nee:NeeI J R w0 B yv V i W
 sub:∀k,V k→k<h+2∨With U0 W0 W k
 noh:¬V h∧¬V (h+1)
 kept:Kept (fun k=>k<n∨(k=h+1∨k=h)) (h+2) U0 W0 W
 own:∃base,W.ownsRow base 100 3 v m xs
 ownV:∀b,v.ownBlock=some b→B≤b∧¬V b
theorem NeeR.below {J:(Nat→Prop)→Nat→World→Prop} {R:Nat→Prop} {w0:World} {B h n:Nat} {yv:Value} {U0:Nat→Prop} {W0:World} {v:Value} {m:Nat} {xs:List Value} {V:Nat→Prop} {i:Nat} {W W':World} (hh:NeeR J R w0 B h n yv U0 W0 v m xs V i W) (hJ:Safe B J) (hR:∀k,R k→k<B) (hb:Below W.heap.size W W'):NeeR J R w0 B h n yv U0 W0 v m xs V i W':=by
 obtain⟨h1,h2,h3,h4,⟨base,h5⟩,h6⟩:=hh;have hB:=h1.box.lt;refine⟨h1.stays hJ hR (C:=W.heap.size) (V:=fun _=>False) (Stays.below hb) hB (fun k hk=>.inl (h1.lt k hk)),fun k hk=>(h2 k hk).imp id (fun hw=>hw.imp id (fun x=>⟨x.1,Nat.lt_of_lt_of_le x.2 hb.size⟩)),h3,⟨Nat.le_trans h4.size hb.size,fun k o ho hr=>?_⟩,⟨base,Zh h5 hb⟩,h6⟩;have :=h4.rest k o ho hr;exact(hb.block k (Array.getElem?_eq_some_iff.1 this).1).trans this
theorem NeeR.next {J:(Nat→Prop)→Nat→World→Prop} {R:Nat→Prop} {w0:World} {B h n:Nat} {yv:Value} {U0:Nat→Prop} {W0:World} {v:Value} {m:Nat} {xs:List Value} {V V':Nat→Prop} {i i':Nat} {W W':World} (hh:NeeR J R w0 B h n yv U0 W0 v m xs V i W) (hRn:∀k,k<n→R k) (hBh:B<h) (hW0:h+2≤W0.heap.size) (hg:Grew V V' W W') (hk:Kept R B V W W') (hj:J V' i' W'):NeeR J R w0 B h n yv U0 W0 v m xs V' i' W':=by
 obtain⟨h1,h2,h3,h4,⟨base,h5⟩,h6⟩:=hh;have hs:=h4.size;refine⟨⟨hj,hg.lt,h1.keeps.trans hk.keeps,hk.whole h1.box (Nat.le_refl _) h1.boxU,fun hv=>(hg.new B hv).elim h1.boxU (fun hh=>by have :=h1.box.lt;omega)⟩,fun k hv=>?_,⟨fun hv=>(hg.new _ hv).elim h3.1 (fun hh=>by omega),fun hv=>(hg.new _ hv).elim h3.2 (fun hh=>by omega)⟩,⟨Nat.le_trans hs hk.size,fun k o ho hr=>hk.rest k o (h4.rest k o ho hr) ?_⟩,⟨base,owns_kept13 hk h5 h6⟩,fun b hb=>⟨(h6 b hb).1,fun hv=>(hg.new b hv).elim (h6 b hb).2 (fun hh=>by have :=(h5.lt b hb).2;omega)⟩⟩
 · rcases hg.new k hv with hv'|hv'
   · exact(h2 k hv').imp id (fun hw=>hw.imp id (fun x=>⟨x.1,Nat.lt_of_lt_of_le x.2 hk.size⟩))
   · exact .inr (.inr ⟨by omega,hg.lt k hv⟩)
 · have hlt:=(Array.getElem?_eq_some_iff.1 ho).1;rcases hr with (hr|rfl|rfl)|hr
   · exact .inl (hRn k hr)
   · exact .inr ⟨by omega,h3.2⟩
   · exact .inr ⟨by omega,h3.1⟩
   · exact .inr ⟨by omega,fun hv=>(h2 k hv).elim (fun hh=>by omega) (fun hw=>hw.elim hr.2 (fun x=>by omega))⟩
theorem needs13_any (l:Lay) (p:Pth) (w:World):Calls Tryz.prog 78 #[l.val,p.val] w fun e w'=>e= .returned (.func (.func 134) #[] #[.pointer (some ⟨w.heap.size,0,none⟩),.pointer (some ⟨w.heap.size+1,0,none⟩)]) ∧
 w'=(w.alloc (.cells #[.slice l.As l.secs.length l.cs,.slice l.Ag l.sigs.length l.cg,.slice l.Ae l.exits.length l.ce,.slice l.Af l.flanks.length l.cf,.int .i64 l.t0,.int .i64 l.t1,.int .i64 l.t2,.int .i64 l.t3,.int .i64 l.t4,.int .i64 l.t5,.int .i64 l.t6] 29)).alloc (.cells #[.int .i64 p.s,.int .i64 p.x,.slice p.A p.ss.length p.c] 46):=by
 go_enter Tryz.func78,Tryz.ntmps78
 go_wp2_with fail
 go_ret
 exact⟨rfl,rfl⟩
theorem needs13_iter {wa w0:World} {g1 g2:Nat} {l:Lay} {p:Pth} (hT:Shapes wa) (hL:Lies l wa) (hp:PLies p wa) (hO:∀x ∈ l.exits,x.over.length≤1000) (hF:l.flanks.length≤900) (hka:Keeps (· <wa.heap.size) wa w0) (hsa:wa.heap.size≤w0.heap.size) (hb1:Whole w0 g1 29 l.cells) (hb2:Whole w0 g2 46 p.cells):
 IterU Tryz.prog 134 #[.pointer (some ⟨g1,0,none⟩),.pointer (some ⟨g2,0,none⟩)] (fun x:Int×Int×Int=>#[stpV x.1 x.2.1 x.2.2]) (ofV l p) (fun k=>k<wa.heap.size∨(k=g1∨k=g2)) w0:=by
 intro L J Jx W hk0 hRl hJ hJx hY h0
 have hnW:wa.heap.size≤W.heap.size:=Nat.le_of_not_lt fun hlt=>absurd (hRl _ (.inl hlt)) (Nat.lt_irrefl _)
 have HB1:Hid (∀W',Keeps (fun k=>k<wa.heap.size∨(k=g1∨k=g2)) w0 W'→Whole W' g1 29 l.cells):=Zz fun W' hk=>hk.whole (.inr (.inl rfl)) hb1
 have HB2:Hid (∀W',Keeps (fun k=>k<wa.heap.size∨(k=g1∨k=g2)) w0 W'→Whole W' g2 46 p.cells):=Zz fun W' hk=>hk.whole (.inr (.inr rfl)) hb2
 have HKA:Hid (∀W',Keeps (fun k=>k<wa.heap.size∨(k=g1∨k=g2)) w0 W'→Keeps (· <wa.heap.size) wa W'):=Zz fun W' hk=>hka.trans (hk.sub fun k h=>.inl h)
 have HRl:=Zz hRl
 have HIT:=Zz (fun(w1:World) (a1 a2:Nat) (h1:Keeps (· <wa.heap.size) wa w1) (h2:wa.heap.size≤w1.heap.size) (h3:Whole w1 a1 46 p.cells) (h4:Whole w1 a2 29 l.cells)=>steps13_iter hT hL hp hO h1 h2 h3 h4)
 have KWA:Hid (∀(W':World) (x:Int×Int×Int×Int),Keeps (fun k=>k<wa.heap.size∨(k=g1∨k=g2)) w0 W'→wa.heap.size≤W'.heap.size→Calls Tryz.prog 136 #[l.val,stpV x.2.1 x.2.2.1 x.2.2.2,.int .i64 x.1] W' fun e w'=>∃v,e= .returned v∧w'.ownsRow W'.heap.size 100 3 v (wantN l x).length ((wantN l x).flatMap Zi)∧Below W'.heap.size W' w'):=Zz fun W' x hk hs=>
  have hk':=hka.trans (hk.sub fun k h=>.inl h);wants_any (hT.keeps hk' (fun _ h=>h)) (hL.keeps hk' (fun _ h=>h) hs) hF _ _ _ _ rfl
 have hwl:∀x,(wantN l x).length≤901:=fun x=>want_len hF x
 have HWL:=Zz hwl
 have HAT:Hid (∀(j k:Nat) x y,(stepsN l p)[j]? =some x→(wantN l x)[k]? =some y→(ofV l p)[(needTo l (stepsN l p) j).length+k]? =some y):=Zz fun j k x y hx hy=>by rw[←of_flat];exact needTo_at hx hy
 have HNX:Hid (∀j x,(stepsN l p)[j]? =some x→(needTo l (stepsN l p) (j+1)).length=(needTo l (stepsN l p) j).length+(wantN l x).length):=Zz fun j x hx=>by rw[needTo_next hx,List.length_append]
 have HAL:Hid ((needTo l (stepsN l p) (stepsN l p).length).length=(ofV l p).length):=Zz (by unfold needTo;rw[List.take_length,of_flat])
 have HNW:=Zz hnW
 obtain⟨xs,hxs⟩:∃xs,stepsN l p=xs:=⟨_,rfl⟩
 obtain⟨ys,hys⟩:∃ys,ofV l p=ys:=⟨_,rfl⟩
 rw[hxs] at HIT HAT HNX HAL
 rw[hys] at HAT HAL hY ⊢
 obtain⟨B,hB⟩:∃B,W.heap.size=B:=⟨_,rfl⟩
 rw[hB] at hJ hJx hY HRl HNW
 obtain⟨W1,hW1⟩:∃W1,W.alloc (.cells #[.func (.yield L) #[] #[]] 176)=W1:=⟨_,rfl⟩
 have HW1:Hid (NeeI J (fun k=>k<wa.heap.size∨(k=g1∨k=g2)) w0 B (.func (.yield L) #[] #[]) (fun _=>False) 0 W1∧W1.heap.size=B+1):=Zz (by
  rw[←hW1];exact⟨⟨hJ _ _ _ _ h0 (Stays.below (below1 W _)),fun k h=>h.elim,hk0.trans (Keeps.below (below1 W _)),Whole.Zj W _ [_] _ hB.symm,fun h=>h⟩,by simp;omega⟩)
 have hk1:Keeps (fun k=>k<wa.heap.size∨(k=g1∨k=g2)) w0 (W.alloc (.cells #[.func (.yield L) #[] #[]] 176)):=hk0.trans (Keeps.below (below1 W _))
 obtain⟨x0,x1,x2,x3,x4,x5,x6,x7,x8,x9,x10⟩:=(HB1.out _ hk1).c11
 obtain⟨y0,y1,y2⟩:=(HB2.out _ hk1).c3
 have HBe:=Zz hB
 have HWe:=Zz hW1
 clear hT hL hp hO hF hka hsa hb1 hb2 hRl hxs hys hnW hB hk0 h0 hk1 hwl hW1
 refine(callsIn_wide (n:=3)).1 ?_
 refine callsIn_of_wp_marks Tryz.func134 rfl trivial ?_ rfl
 simp only[Tryz.ntmps134,Ld,Le,Lf,Nat.reduceAdd,Nat.reduceSub,Lg,Lh,Li,Lj,Lk,Ll]
 gi_wp2_with fail
 try rw[HWe.out]
 try rw[HBe.out]
 refine⟨trivial,(callsIn_wide.2 (steps13_any l p _)).mono ?_⟩
 clear x0 x1 x2 x3 x4 x5 x6 x7 x8 x9 x10 y0 y1 y2
 rintro e w2 ⟨rfl,rfl⟩
 gi_wp2_with fail
 obtain⟨h,hh⟩:∃h,W1.heap.size=h:=⟨_,rfl⟩
 obtain⟨W2,hW2,hsz2,hB2,b1,b2⟩:∃W2,((W1.alloc (.cells #[.slice l.As l.secs.length l.cs,.slice l.Ag l.sigs.length l.cg,.slice l.Ae l.exits.length l.ce,.slice l.Af l.flanks.length l.cf,.int .i64 l.t0,.int .i64 l.t1,.int .i64 l.t2,.int .i64 l.t3,.int .i64 l.t4,.int .i64 l.t5,.int .i64 l.t6] 29)).alloc (.cells #[.int .i64 p.s,.int .i64 p.x,.slice p.A p.ss.length p.c] 46))=W2∧W2.heap.size=h+2∧Below W1.heap.size W1 W2∧Whole W2 h 29 l.cells∧Whole W2 (h+1) 46 p.cells:=
  ⟨_,rfl,by simp;omega,below2 _ _ _,(Whole.Zj _ _ l.cells _ hh.symm).alloc _,Whole.Zj _ _ p.cells _ (by simp;omega)⟩
 rw[hW2,hh]
 have hRB:∀k,(k<wa.heap.size∨(k=g1∨k=g2))→k<B:=fun k hk=>HRl.out k hk
 have hBh:B<h:=by have :=HW1.out.2;omega
 have hI2:=HW1.out.1.stays hJ hRB (C:=W1.heap.size) (V:=fun _=>False) (Stays.below hB2) (by omega) (fun k hk=>hk.elim)
 have hit:=HIT.out W2 (h+1) h (HKA.out _ hI2.keeps) (by have :=HNW.out;omega) b2 b1
 have HS2:=Zz hsz2
 have hstep:∀(U':Nat→Prop) (i:Nat) (V:Nat→Prop) (W' W'':World),NeeI J (fun k=>k<wa.heap.size∨(k=g1∨k=g2)) w0 B (.func (.yield L) #[] #[]) V i W'→Stays (h+2) U' W' W''→(∀k,V k→k<h+2∨U' k)→NeeI J (fun k=>k<wa.heap.size∨(k=g1∨k=g2)) w0 B (.func (.yield L) #[] #[]) V i W'':=fun U' i V W' W'' hi ht hv=>hi.stays hJ hRB ht (by omega) hv
 have HST:=Zz hstep
 have HHW:=Zz hh
 clear hW2 HW1 hB2 b1 b2 hh hstep HWe HBe
 refine range_iterU (gf:=170) rfl (enters_of Tryz.func170 (by kernel_rfl) rfl) hit (Keeps.refl _ _) (fun k hk=>by have :=HS2.out;rcases hk with hk|hk|hk;(have :=HRl.out k (.inl hk);omega);omega;omega) (fun _=>rfl) (by omega)
  (fun U' j W'=>∃V,NeeI J (fun k=>k<wa.heap.size∨(k=g1∨k=g2)) w0 B (.func (.yield L) #[] #[]) V (needTo l xs j).length W'∧(∀k,V k→k<h+2∨U' k)∧(¬V h∧¬V (h+1)∧h+2≤W'.heap.size))
  (fun c U' W'=>c= .ret∧∃V,(Jx V W'∧(∀k,V k→k<W'.heap.size))∧(∀k,V k→k<h+2∨U' k))
  (by
   rw[hsz2];rintro U' j W' W'' ⟨V,h1,h2,h3⟩ ht;exact⟨V,HST.out _ _ _ _ _ h1 ht h2,h2,h3.1,h3.2.1,Nat.le_trans h3.2.2 ht.size⟩)
  (fun c=>by
   rw[hsz2];rintro U' u W' W'' ⟨h0,V,⟨h1,h2⟩,h4⟩ ht;refine⟨h0,V,⟨hJx V () _ _ h1 ⟨ht.same,ht.size,fun k o ho hk=>ht.rest k o ho (hk.elim (fun h=>.inl (by omega)) (h4 k))⟩,fun k hk=>Nat.lt_of_lt_of_le (h2 k hk) ht.size⟩,h4⟩)
  ⟨fun _=>False,hI2,fun k hk=>hk.elim,fun hk=>hk,fun hk=>hk,by omega⟩
  (fun U' j x a' W'=>(∃V,NeeI J (fun k=>k<wa.heap.size∨(k=g1∨k=g2)) w0 B (.func (.yield L) #[] #[]) V (needTo l xs j).length W'∧(∀k,V k→k<h+2∨U' k)∧(¬V h∧¬V (h+1)∧h+2≤W'.heap.size))∧∃gp,Whole W' gp 66 (Ze x.2)∧U' gp∧a'= {tmps:=#[.func (.yield L) #[] #[],.pointer (some ⟨g1,0,none⟩),.pointer (some ⟨g2,0,none⟩),.pointer (some ⟨B,0,none⟩),.int .i64 x.1,.pointer (some ⟨gp,0,none⟩),undef,undef,.agg #[.slice l.As l.secs.length l.cs,.slice l.Ag l.sigs.length l.cg,.slice l.Ae l.exits.length l.ce,.slice l.Af l.flanks.length l.cf,.int .i64 l.t0,.int .i64 l.t1,.int .i64 l.t2,.int .i64 l.t3,.int .i64 l.t4,.int .i64 l.t5,.int .i64 l.t6],.agg #[.int .i64 p.s,.int .i64 p.x,.slice p.A p.ss.length p.c],.func (.func 170) #[] #[.pointer (some ⟨h+1,0,none⟩),.pointer (some ⟨h,0,none⟩)],.int .i64 x.1,stpV x.2.1 x.2.2.1 x.2.2.2,undef,undef,undef,undef,undef,undef,undef,undef,undef,undef,undef,undef,undef,undef],defers:=[]})
  (fun j x a'=>by
   rw[hsz2];rintro U' u W' W'' ⟨⟨V,h1,h2,h3⟩,gp,h4,h5,h6⟩ ht;exact⟨⟨V,HST.out _ _ _ _ _ h1 ht h2,h2,h3.1,h3.2.1,Nat.le_trans h3.2.2 ht.size⟩,gp,ht.whole h4 (.inr h5),h5,h6⟩)
  ?assign ?body ?done ?stop
 case assign=>
  rintro lr U' j x W' K hx ⟨V,h1,h2,h3⟩ hsW hU' hK;have hb:=below1 W' (.cells (Ze x.2).toArray 66);have h1':=HST.out _ _ _ _ _ h1 (Stays.below hb) h2;gi_wp2_with fail;exact hK _ _ (With U' W' (W'.alloc (.cells (Ze x.2).toArray 66))) (Grew.with hU' hb.size) (Kept.below hb) ⟨⟨V,h1',fun k hk=>(h2 k hk).imp id .inl,h3.1,h3.2.1,Nat.le_trans h3.2.2 hb.size⟩,W'.heap.size,Whole.new W' _ (Ze x.2),.inr ⟨Nat.le_refl _,by simp⟩,rfl⟩
 case body=>
  rintro lr U' j x a' W0 hl hx ⟨⟨V,h1,h2,h3⟩,gp,hgp,hUg,rfl⟩ hU';have hnW0:wa.heap.size≤W0.heap.size:=by have :=HNW.out;omega
  have KW:=Zz (KWA.out W0 x h1.keeps hnW0);obtain⟨ws,hws⟩:∃ws,wantN l x=ws:=⟨_,rfl⟩;have HWS:Hid (∀k y,ws[k]? =some y→ys[(needTo l xs j).length+k]? =some y):=Zz fun k y hy=>HAT.out j k x y hx (by rw[hws];exact hy);have HNJ:Hid ((needTo l xs (j+1)).length=(needTo l xs j).length+ws.length):=Zz (by rw[HNX.out j x hx,hws]);have hwl:ws.length≤901:=by rw[←hws];exact HWL.out x
  rw[hws] at KW;obtain⟨x0,x1,x2,x3,x4,x5,x6,x7,x8,x9,x10⟩:=(HB1.out _ h1.keeps).c11;obtain⟨s0,s1,s2⟩:=hgp.c3;clear hws hx hgp hUg;gi_wp2_with fail;refine⟨trivial,(CallsIn.inRound _ (callsIn_wide.2 KW.out)).mono ?_⟩;clear KW s0 s1 s2 x0 x1 x2 x3 x4 x5 x6 x7 x8 x9 x10;rintro e w4 ⟨v,rfl,hown,hB4⟩;obtain⟨A,c,rfl,_,_⟩:=ownsS_slice hown;have hR0:NeeR J (fun k=>k<wa.heap.size∨(k=g1∨k=g2)) w0 B h wa.heap.size (.func (.yield L) #[] #[]) U' W0 (.slice A ws.length c) ws.length (ws.flatMap Zi) V (needTo l xs j).length w4:=
   ⟨h1.stays hJ hRB (C:=W0.heap.size) (V:=fun _=>False) (Stays.below hB4) (by omega) (fun k hk=>.inl (h1.lt k hk)),fun k hk=>(h2 k hk).imp id .inl,⟨h3.1,h3.2.1⟩,Kept.below hB4,⟨_,hown⟩,fun b hb=>⟨by have :=(hown.lt b hb).1;omega,fun hv=>by have :=h1.lt b hv;have :=(hown.lt b hb).1;omega⟩⟩;have HR0:=Zz hR0;have hW0:h+2≤W0.heap.size:=h3.2.2;clear hR0 h1 h2 h3 hown hB4;gi_wp2_with fail;gi_loopw [18] (fun i wr=>∃(q:Nat) (V:Nat→Prop),q≤ws.length∧i= .int .i64 q∧Hid (NeeR J (fun k=>k<wa.heap.size∨(k=g1∨k=g2)) w0 B h wa.heap.size (.func (.yield L) #[] #[]) U' W0 (.slice A ws.length c) ws.length (ws.flatMap Zi) V ((needTo l xs j).length+q) wr)) (fun i _=>ws.length - (intOf i).toNat)
  case atStart=>exact⟨0,V,by omega,rfl,HR0⟩
  case round=>
   clear HR0;obtain⟨q,V,hq,rfl,HR⟩:=hrel;by_cases hlt:q<ws.length
   · have hlt':(q:Int)<(ws.length:Int):=by omega
     obtain⟨⟨y1,y2,y3⟩,hy0⟩:∃y,ws[q]? =some y:=⟨_,List.getElem?_eq_getElem hlt⟩;have hrow:Row wr wr.heap.size A (ws.flatMap Zi):=by
      obtain⟨base,ho⟩:=HR.out.own;obtain⟨A',c',e,hr,_⟩:=ownsS_slice ho;cases e;exact hr
     obtain⟨b2,off2,hA,_,hc0,hc⟩:=hrow.nth (n:=3) (fun _=>rfl) (by omega) hy0;have d0:=hc0 q _ _ hy0 rfl;have d1:=hc q _ 1 _ hy0 rfl;have d2:=hc q _ 2 _ hy0 rfl;have HR2:=Zz (HR.out.below hJ hRB (below1 wr (.cells #[.int .i64 y1,.int .i64 y2,.int .i64 y3] 100)));have hxj:=HWS.out q _ hy0;obtain⟨fn,tmps,assign,body,hy,hRd⟩:=hY V _ _ _ hxj HR2.out.nee.j HR2.out.nee.lt;have HRd:=Zz hRd;have f0:=HR2.out.nee.box.Za 0 rfl;rw[hA];have HA:=Zz hA;clear hrow hc0 hc hy0 HR hxj hRd hA;gi_wp2_with fail;refine RoundIn.mono (RoundIn.wideAny HRd.out) ?_;clear HRd hy d0 d1 d2 f0;rintro e W3 ⟨V',hg',hk',(⟨rfl,hJ3⟩|⟨rfl,hJx3⟩)⟩
     · have HR3:=Zz (HR2.out.next (fun k hk=>.inl hk) hBh hW0 hg' hk' hJ3);clear hg' hk' hJ3 HR2;gi_wp2_with fail;go_roundw
       case rel=>exact⟨q+1,V',hlt,by go_num,by rw[←HA.out];exact HR3⟩
       case measure=>simp[intOf];omega
     · have hV':∀k,V' k→k<h+2∨With U' W0 W3 k:=fun k hv=>by
        rcases hg'.new k hv with hv'|hv'
        · exact(HR2.out.sub k hv').imp id (fun hw=>hw.imp id (fun x=>⟨x.1,Nat.lt_of_lt_of_le x.2 hk'.size⟩))
        · exact .inr (.inr ⟨Nat.le_trans HR2.out.kept.size hv',hg'.lt k hv⟩)
       have hkept:Kept (fun k=>k<wa.heap.size∨(k=h+1∨k=h)) (h+2) U' W0 W3:=⟨Nat.le_trans HR2.out.kept.size hk'.size,fun k o ho hr=>hk'.rest k o (HR2.out.kept.rest k o ho hr) (by
        have hlt0:=(Array.getElem?_eq_some_iff.1 ho).1;rcases hr with (hr|rfl|rfl)|hr
        · exact .inl (.inl hr)
        · exact .inr ⟨by omega,HR2.out.noh.2⟩
        · exact .inr ⟨by omega,HR2.out.noh.1⟩
        · exact .inr ⟨by omega,fun hv=>(HR2.out.sub k hv).elim (fun hh=>by omega) (fun hw=>hw.elim hr.2 (fun x=>by omega))⟩)⟩;have HE:=Zz (And.intro hV' (And.intro hkept (And.intro hg'.lt hJx3)));clear hV' hkept hg' hk' HR2 hJx3;gi_wp2_with fail;rw[HS2.out];exact⟨With U' W0 W3,Grew.with hU' HE.out.2.1.size,HE.out.2.1,rfl,V',⟨HE.out.2.2.2,HE.out.2.2.1⟩,HE.out.1⟩
   · obtain rfl:q=ws.length:=by omega
     have HE:Hid (Kept (fun k=>k<wa.heap.size∨(k=h+1∨k=h)) (h+2) U' W0 wr∧∃V,NeeI J (fun k=>k<wa.heap.size∨(k=g1∨k=g2)) w0 B (.func (.yield L) #[] #[]) V (needTo l xs (j+1)).length wr∧(∀k,V k→k<h+2∨With U' W0 wr k)∧(¬V h∧¬V (h+1)∧h+2≤wr.heap.size)):=Zz ⟨HR.out.kept,V,by rw[HNJ.out];exact HR.out.nee,HR.out.sub,HR.out.noh.1,HR.out.noh.2,Nat.le_trans hW0 HR.out.kept.size⟩;clear HR;gi_wp2_with fail;rw[HS2.out];exact⟨With U' W0 wr,Grew.with hU' HE.out.1.size,HE.out.1,HE.out.2⟩
 case done=>
  rintro D U' W' hD hUD ⟨V,h1,h2,h3⟩ hK;rw[hsz2] at hD;rw[HAL.out] at h1;have hVD:¬V D:=fun hv=>(h2 D hv).elim (fun hh=>by omega) hUD;have hM:Marks B V [D] W':=⟨by simp,fun E hE=>by
   obtain rfl:E=D:=by simpa using hE
   exact⟨hK,by omega,hVD⟩⟩;have HM:=Zz hM;have HI1:=Zz h1;clear hM h1 hK;gi_wp2_with fail;exact leaves_marks (v:=.tuple #[]) (B:=B) (U:=V) (fun w=>results_none rfl _ _ _) [D] W' HM.out fun W'' hW'=>⟨⟨_,rfl⟩,V,fun k hk=>Nat.lt_of_lt_of_le (HI1.out.lt k hk) hW'.size,.inl (hJ _ _ _ _ HI1.out.j hW')⟩
 case stop=>
  rintro D c U' W' hD hUD ⟨rfl,V,⟨h1,h2⟩,h4⟩ hK;rw[hsz2] at hD;have hVD:¬V D:=fun hv=>(h4 D hv).elim (fun hh=>by omega) hUD;have hM:Marks B V [D] W':=⟨by simp,fun E hE=>by
   obtain rfl:E=D:=by simpa using hE
   exact⟨hK,by omega,hVD⟩⟩;have HM:=Zz hM;have H1:=Zz h1;clear hM h1 hK;gi_wp2_with fail;exact leaves_marks (v:=.tuple #[]) (B:=B) (U:=V) (fun w=>results_none rfl _ _ _) [D] W' HM.out fun W'' hW'=>⟨⟨_,rfl⟩,V,fun k hk=>Nat.lt_of_lt_of_le (h2 k hk) hW'.size,.inr (hJx V () _ _ H1.out hW')⟩
theorem append_need13 (base n:Nat) (v:Value) (xs:List Value) (x:Int×Int×Int) (w:World) (a:Nat) (hown:w.ownsRow base 100 3 v n xs) (hc:Whole w a 100 (Zi x)) (hn:n≤1000000) (hbase:base≤w.heap.size):
 ∃v' w',(Builtin.append_ #[76,76] 76 #[v,.slice (some ⟨a,0,none⟩) 1 1]).run Tryz.prog w= .ok v' w'∧w'.ownsRow base 100 3 v' (n+1) (xs++Zi x)∧w.grownBy w' v.ownBlock∧Below base w w'∧(v'.ownBlock=v.ownBlock∨v'.ownBlock=some w.heap.size):=by
 obtain⟨i,i1,i2,i3,i4⟩:=info_parts infoNeed
 obtain⟨v',w',r1,r2,r3,r4,r5⟩:=run_append_own_at (P:=Tryz.prog) w base 76 76 100 i (.agg #[.int .i64 0,.int .i64 0,.int .i64 0]) 3 24 Tryz.underlying76 i1 i2 i3 i4 rfl (by omega) v n xs hown ⟨a,0,none⟩ 1 1 (Zi x) rfl (row_add (hc.row hc.lt)) (oneNeed x) (by unfold maxLen;omega) (by omega) hbase
 exact⟨v',w',r1,r2,r3,(Below.refl base w).grown r3 hbase (fun k e=>(hown.lt k e).1),r5⟩
structure OfI (w:World) (xs:List (Int×Int×Int)) (U:Nat→Prop) (j:Nat) (W:World):Prop where
 below:Below w.heap.size w W
 size:w.heap.size+5≤W.heap.size
 row:∃v,Whole W (w.heap.size+1+1) 76 [v]∧W.ownsRow (w.heap.size+5) 100 3 v (xs.take j).length ((xs.take j).flatMap Zi)∧∀b,v.ownBlock=some b→U b
theorem OfI.safe (w:World) (xs:List (Int×Int×Int)):Safe (w.heap.size+5) (OfI w xs):=by
 rintro U j W W' ⟨h1,h2,v,h5,h6,h7⟩ ht;exact⟨Safe.below (β:=Unit) (B:=w.heap.size+5) (by omega) (Nat.le_refl _) U () W W' h1 ht,Nat.le_trans h2 ht.size,v,ht.whole h5 (.inl (by omega)),owns_stays ht h6 (fun b hb=>.inr (h7 b hb)),h7⟩
theorem OfI.up {w W:World} {xs:List (Int×Int×Int)} {U U':Nat→Prop} {j:Nat} (h:OfI w xs U j W) (hU:∀k,U k→U' k):OfI w xs U' j W:=
 ⟨h.1,h.2,let ⟨v,h5,h6,h7⟩:=h.3;⟨v,h5,h6,fun b hb=>hU b (h7 b hb)⟩⟩
theorem OfI.append {w W:World} {xs:List (Int×Int×Int)} {U:Nat→Prop} {j:Nat} {m:Int×Int×Int} (h:OfI w xs U j W) (hj:xs[j]? =some m) (hUl:∀k,U k→k<W.heap.size) (hn:xs.length≤1000000):
 ∃v,W.cell? ⟨w.heap.size+1+1,0,none⟩=some v∧∃v' W3,(Builtin.append_ #[76,76] 76 #[v,.slice (some ⟨W.heap.size,0,none⟩) 1 1]).run Tryz.prog (W.alloc (.cells #[.int .i64 m.1,.int .i64 m.2.1,.int .i64 m.2.2] 100))= .ok v' W3 ∧
  Whole W3 (w.heap.size+1+1) 76 [v]∧(∃A n c,v'= .slice A n c) ∧
  OfI w xs (With U W (W3.setCell ⟨w.heap.size+1+1,0,none⟩ v')) (j+1) (W3.setCell ⟨w.heap.size+1+1,0,none⟩ v') ∧
  W.heap.size≤(W3.setCell ⟨w.heap.size+1+1,0,none⟩ v').heap.size∧Kept (fun k=>k<w.heap.size∨(k=w.heap.size+1+1+1∨k=w.heap.size+1+1+1+1)) (w.heap.size+5) U W (W3.setCell ⟨w.heap.size+1+1,0,none⟩ v'):=by
 obtain⟨h1,h2,v,h5,h6,h7⟩:=h
 refine⟨v,h5.Za 0 rfl,?_⟩
 have hb1:=below1 W (.cells #[.int .i64 m.1,.int .i64 m.2.1,.int .i64 m.2.2] 100)
 have hnj:(xs.take j).length≤1000000:=by rw[List.length_take];omega
 obtain⟨v',W3,hrun,hown,hgr,hBl,hblk⟩:=append_need13 (w.heap.size+5) (xs.take j).length v ((xs.take j).flatMap Zi) m (W.alloc (.cells #[.int .i64 m.1,.int .i64 m.2.1,.int .i64 m.2.2] 100)) W.heap.size (Zh h6 hb1) (Whole.new W _ (Zi m)) hnj (by simp;omega)
 have hvb:∀b,v.ownBlock=some b→w.heap.size+5≤b:=fun b hb=>(h6.lt b hb).1
 have hs3:W.heap.size+1≤W3.heap.size:=by have :=hgr.size;simpa using this
 have hkeep:∀k o,W.heap[k]? =some o→(∀b,v.ownBlock=some b→k≠b)→W3.heap[k]? =some o:=fun k o ho hne=>by
  have hlt:=(Array.getElem?_eq_some_iff.1 ho).1;exact(hgr.block k (by simp;omega) (fun e=>hne k e.symm rfl)).trans ((hb1.block k hlt).trans ho)
 have hset:∀k o,W3.heap[k]? =some o→k≠w.heap.size+1+1→(W3.setCell ⟨w.heap.size+1+1,0,none⟩ v').heap[k]? =some o:=fun k o ho hne=>(Below.heap_setCell W3 ⟨w.heap.size+1+1,0,none⟩ v' k hne).trans ho
 have hbox3:Whole W3 (w.heap.size+1+1) 76 [v]:=hkeep _ _ h5 (fun b hb=>by have :=hvb b hb;omega)
 have hsz:(W3.setCell ⟨w.heap.size+1+1,0,none⟩ v').heap.size=W3.heap.size:=by simp[World.setCell]
 refine⟨v',W3,hrun,hbox3,(let ⟨A,c,e⟩:=slice_of hown;⟨A,_,c,e⟩),⟨?_,by rw[hsz];omega,v',hbox3.set 0 v',?_,?_⟩,by rw[hsz];omega,⟨by rw[hsz];omega,?_⟩⟩
 · exact(h1.trans ((hb1.mono (by omega)).trans (hBl.mono (by omega)))).setCell (p:=⟨w.heap.size+1+1,0,none⟩) (by show w.heap.size≤w.heap.size+1+1;omega) _
 · rw[List.take_add_one,hj,Option.toList_some,List.length_append,List.flatMap_append];have :=hown.kept (grownBy_setCell' W3 (w.heap.size+1+1) v') (.inr (fun e=>by have :=(hown.lt _ e).1;omega));simpa using this
 · intro b hb;rcases hblk with e|e
   · exact .inl (h7 b (e ▸ hb))
   · rw[hb] at e;have e':=Option.some.inj e;refine .inr ⟨by rw[e'];simp,by rw[hsz];exact(hown.lt b hb).2⟩
 · intro k o ho hr;refine hset _ _ (hkeep _ _ ho (fun b hb e=>?_)) (fun e=>?_)
   · have :=hvb b hb;rcases hr with hr|hr
     · omega
     · exact hr.2 (e ▸ h7 b hb)
   · rcases hr with hr|hr <;> omega
end
section
open Go.Maps Go.RowKit Go.Shelf
attribute [local go_sem] Oper.semAt_some
def NWf (x:Int×Int×Int):Prop:=(Lit.int .i64 x.1).wf=true∧(Lit.int .i64 x.2.1).wf=true
theorem atN_snoc (ns:List (Int×Int×Int)) (x:Int×Int×Int) (p:Int):atN (ns++[x]) p=(atN ns p).or (if x.1==p then some x else none):=by
 unfold atN;rw[List.find?_append];cases h:(x.1==p) <;> simp[h]
theorem at13_snoc {ns:List (Int×Int×Int)} {x:Int×Int×Int} (h:(at13 ns x.1).2=true) (p:Int):at13 (ns++[x]) p=at13 ns p:=by
 unfold at13 at *;rw[atN_snoc];cases ha:atN ns p with
 |some a=>rfl
 |none=>
  by_cases e:x.1=p
  · subst e;rw[ha] at h;cases h
  · simp[e]
theorem at13_new {ns:List (Int×Int×Int)} {x:Int×Int×Int} (h:(at13 ns x.1).2=false):at13 (ns++[x]) x.1=(x.2.1,true):=by
 unfold at13 at *;rw[atN_snoc];cases ha:atN ns x.1 with
 |some a=>rw[ha] at h;cases h
 |none=>simp
theorem at13_other {ns:List (Int×Int×Int)} {x:Int×Int×Int} {p:Int} (h:p≠x.1):at13 (ns++[x]) p=at13 ns p:=by
 unfold at13;rw[atN_snoc];have :(x.1==p)=false:=by simp;exact fun e=>h e.symm
 rw[this];simp
theorem at13_yes {ns:List (Int×Int×Int)} {p:Int} (h:(at13 ns p).2=true):∃a ∈ ns,a.1=p∧a.2.1=(at13 ns p).1:=by
 unfold at13 at *;cases ha:atN ns p with
 |some a=>exact⟨a,(at_some ha).1,(at_some ha).2,rfl⟩
 |none=>rw[ha] at h;cases h
theorem at13_no {ns:List (Int×Int×Int)} {p:Int} (h:(at13 ns p).2=false):∀a ∈ ns,a.1≠p:=by
 unfold at13 at h;cases ha:atN ns p with
 |some a=>rw[ha] at h;cases h
 |none=>exact at_none.1 ha
theorem at13_mem {ns:List (Int×Int×Int)} {a:Int×Int×Int} (h:a ∈ ns):(at13 ns a.1).2=true:=by
 cases hb:(at13 ns a.1).2
 · exact absurd rfl (at13_no hb a h)
 · rfl
theorem clash_snoc (ns:List (Int×Int×Int)) (x:Int×Int×Int):clashN (ns++[x])=(clashN ns||((at13 ns x.1).2&&((at13 ns x.1).1 != x.2.1))):=by
 rw[Bool.eq_iff_iff,Bool.or_eq_true,Bool.and_eq_true,bne_iff_ne];constructor
 · intro h;cases hc:clashN ns
   · right;obtain⟨a,ha,b,hb,h1,h2⟩:=clash_iff.1 h;have key:∀a ∈ ns,a.1=x.1→a.2.1≠x.2.1→(at13 ns x.1).2=true∧(at13 ns x.1).1≠x.2.1:=fun a ha h1 h2=>by
      have h3:(at13 ns x.1).2=true:=by rw[←h1];exact at13_mem ha
      refine⟨h3,fun e=>?_⟩;obtain⟨b,hb,hb1,hb2⟩:=at13_yes h3;rw[clash_iff.2 ⟨a,ha,b,hb,by rw[h1,hb1],by rw[hb2,e];exact h2⟩] at hc;cases hc
     rw[List.mem_append] at ha hb;rcases ha with ha|ha <;> rcases hb with hb|hb
     · rw[clash_iff.2 ⟨a,ha,b,hb,h1,h2⟩] at hc;cases hc
     · obtain rfl:b=x:=by simpa using hb
       exact key a ha h1 h2
     · obtain rfl:a=x:=by simpa using ha
       exact key b hb h1.symm (Ne.symm h2)
     · obtain rfl:a=x:=by simpa using ha
       obtain rfl:b=a:=by simpa using hb
       exact absurd rfl h2
   · exact .inl rfl
 · rintro(h|⟨h1,h2⟩)
   · exact clash_sub (fun a ha=>List.mem_append_left _ ha) h
   · obtain⟨a,ha,ha1,ha2⟩:=at13_yes h1;exact clash_iff.2 ⟨a,List.mem_append_left _ ha,x,List.mem_append_right _ (by simp),ha1,by rw[ha2];exact h2⟩
theorem lawK13:Keyed Tryz.prog 3:=int_keyed Tryz.underlying3
theorem zero13 (w:World):(zeroValue 3).run Tryz.prog w= .ok (.int .i64 0) w:=by kernel_rfl
def MapIs (W:World) (b:Nat) (ns:List (Int×Int×Int)):Prop:=∃D:DataW Unit,W.ownsMap Tryz.prog 3 (plainElem Tryz.prog 3) b ns.length D∧∀p,(Lit.int .i64 p).wf=true→Maps.has D (.int .i64 p)=(at13 ns p).2∧D.atKey (.int .i64 p) (.lit (.int .i64 0))= .lit (.int .i64 (at13 ns p).1)
theorem MapIs.made (w:World):MapIs (w.alloc (.map #[] 0)) w.heap.size []:=⟨_,World.ownsMap_made _ _ _ _,fun p _=>⟨rfl,rfl⟩⟩
theorem MapIs.same {W W':World} {b:Nat} {ns:List (Int×Int×Int)} (h:MapIs W b ns) (hb:∀o,W.heap[b]? =some o→W'.heap[b]? =some o):MapIs W' b ns:=by
 obtain⟨D,⟨es,clock,h1,h2⟩,h3⟩:=h;exact⟨D,⟨es,clock,hb _ h1,h2⟩,h3⟩
theorem MapIs.lt {W:World} {b:Nat} {ns:List (Int×Int×Int)} (h:MapIs W b ns):b<W.heap.size:=let ⟨_,h1,_⟩:=h;h1.lt
theorem MapIs.look {W:World} {b:Nat} {ns:List (Int×Int×Int)} (h:MapIs W b ns) {p:Int} (hp:(Lit.int .i64 p).wf=true) {c:Int} {ok:Bool} (hat:at13 ns p=(c,ok)):(Instr.lookup 175 (.map (some b)) (.int .i64 p) true).run Tryz.prog W= .ok (.tuple #[.int .i64 c,.bool ok]) W:=by
 obtain⟨D,h1,h2⟩:=h;obtain⟨v,ps,hrun,hv⟩:=h1.look_ok lawK13 Tryz.underlying175 (zero13 _) (plainElem_int Tryz.underlying3 (by decide)) (keyOf_int_mk Tryz.underlying3 hp);obtain⟨h3,h4⟩:=h2 p hp;rw[h4,hat] at hv;rw[h3,hat] at hrun;obtain⟨c',rfl,hc,_⟩:=plainElem_int_inv Tryz.underlying3 hv;have :(DataW.lit (Lit.int .i64 c):DataW Unit)= .lit (.int .i64 c'):=congrArg Prod.fst hc;cases this;exact hrun
theorem MapIs.put {W:World} {b:Nat} {ns:List (Int×Int×Int)} (h:MapIs W b ns) {x:Int×Int×Int} (hx:NWf x) (hno:(at13 ns x.1).2=false) (hn:ns.length≤1000000):∃W',(Instr.mapUpdate 175 (.map (some b)) (.int .i64 x.1) (.int .i64 x.2.1)).run Tryz.prog W= .ok () W'∧MapIs W' b (ns++[x])∧W.grownBy W' (some b):=by
 obtain⟨D,h1,h2⟩:=h;obtain⟨W',hrun,hown,hg⟩:=h1.update lawK13 Tryz.underlying175 (by unfold maxLen;omega) (keyOf_int_mk Tryz.underlying3 hx.1) (plainElem_int Tryz.underlying3 hx.2);refine⟨W',hrun,⟨_,by rw[List.length_append];exact hown,fun p hp=>?_⟩,hg⟩;have hk:∀q:Int,WideAt.IsKeyLit (.int .i64 q):=fun q=>trivial;by_cases e:p=x.1
 · subst e;rw[at13_new hno];exact⟨has_put_same h1.isMap (hk _) _,atKey_put_same h1.isMap (hk _) _ _⟩
 · have hne:(Lit.int .i64 p)≠ .int .i64 x.1:=fun h=>e (by injection h);rw[at13_other e];exact⟨(has_put_other hne _).trans (h2 p hp).1,(atKey_put_other hne _ _).trans (h2 p hp).2⟩
theorem other13_any {b g:Nat} {ns:List (Int×Int×Int)} {w:World} (x1 x2 x3:Int) (hx:NWf (x1,x2,x3)) (hbox:Whole w g 175 [.map (some b)]) (hM:MapIs w b ns) (hn:ns.length≤1000000) {r:Bool} (hr:((at13 ns x1).2&&((at13 ns x1).1 != x2))=r):
 Calls Tryz.prog 133 #[stpV x1 x2 x3,.pointer (some ⟨g,0,none⟩)] w fun e w'=>e= .returned (.bool r)∧MapIs w' b (ns++[(x1,x2,x3)])∧w.grownBy w' (some b):=by
 obtain⟨W1,hW1⟩:∃W1,w.alloc (.cells #[.int .i64 x1,.int .i64 x2,.int .i64 x3] 100)=W1:=⟨_,rfl⟩
 have hB1:w.grownBy W1 none:=by rw[←hW1];exact World.grownBy_alloc w _ none
 have hM1:MapIs W1 b ns:=hM.same fun o ho=>(hB1.block b hM.lt (by simp)).trans ho
 have hb1:Whole W1 g 175 [.map (some b)]:=hbox.kept hB1 (by simp)
 have hbw:Whole W1 w.heap.size 100 [.int .i64 x1,.int .i64 x2,.int .i64 x3]:=by rw[←hW1];exact Whole.new _ _ [_,_,_]
 obtain⟨⟨c,ok⟩,hat⟩:∃z,at13 ns x1=z:=⟨_,rfl⟩
 have hlk:=hM1.look (p:=x1) hx.1 hat
 rw[hat] at hr
 cases ok
 · obtain⟨W2,hput,hM2,hg2⟩:=hM1.put hx (by rw[hat]) hn;have HE:Hid (MapIs W2 b (ns++[(x1,x2,x3)])∧w.grownBy W2 (some b)):=Zz ⟨hM2,(show w.grownBy W1 (some b) from ⟨hB1.os,hB1.tape,hB1.output,hB1.size,fun k hk _=>hB1.block k hk (by simp)⟩).trans hg2⟩;have HF:Hid (false=r):=Zz (by rw[←hr];rfl);rw[←hW1] at hb1 hbw hlk hput;have g0:=hb1.Za 0 rfl;obtain⟨x0,x1,x2⟩:=hbw.c3;clear hb1 hbw hM hM1 hM2 hg2 hB1 hW1 hbox hat hr;go_enter Tryz.func133,Tryz.ntmps133;go_wp2_with fail;go_ret;exact⟨Zc HF.out,HE.out⟩
 · have HE:Hid (MapIs W1 b (ns++[(x1,x2,x3)])∧w.grownBy W1 (some b)):=Zz ⟨by
    obtain⟨D,⟨es,clock,h0,h1,h2,h3⟩,h4⟩:=hM1;exact⟨D,⟨es,clock,h0,h1,by rw[List.length_append];omega,h3⟩,fun p hp=>by rw[at13_snoc (by rw[hat])];exact h4 p hp⟩,⟨hB1.os,hB1.tape,hB1.output,hB1.size,fun k hk _=>hB1.block k hk (by simp)⟩⟩;have HF:Hid ((c != x2)=r):=Zz (by rw[←hr];rfl);rw[←hW1] at hb1 hbw hlk HE;have g0:=hb1.Za 0 rfl;obtain⟨y0,y1,y2⟩:=hbw.c3;clear hb1 hbw hM hM1 hB1 hW1 hbox hat hr;go_enter Tryz.func133,Tryz.ntmps133;go_wp2_with fail;go_ret;exact⟨Zc HF.out,HE.out⟩
structure ClI (w:World) (ns:List (Int×Int×Int)) (j:Nat) (W:World):Prop where
 below:Below w.heap.size w W
 size:w.heap.size+4≤W.heap.size
 rb:Whole W w.heap.size 4 [.bool false]
 mb:Whole W (w.heap.size+1+1) 175 [.map (some (w.heap.size+1))]
 fb:Whole W (w.heap.size+1+1+1) 176 [.func (.func 133) #[] #[.pointer (some ⟨w.heap.size+1+1,0,none⟩)]]
 mp:MapIs W (w.heap.size+1) (ns.take j)
 no:clashN (ns.take j)=false
theorem ClI.safe (w:World) (ns:List (Int×Int×Int)):Safe (w.heap.size+4) (fun(_:Nat→Prop)=>ClI w ns):=by
 rintro U j W W' ⟨h1,h2,h3,h4,h5,h6,h7⟩ ht;exact⟨Safe.below (β:=Unit) (B:=w.heap.size+4) (by omega) (Nat.le_refl _) U () W W' h1 ht,Nat.le_trans h2 ht.size,ht.whole h3 (.inl (by omega)),ht.whole h4 (.inl (by omega)),ht.whole h5 (.inl (by omega)),h6.same (fun o ho=>ht.rest _ o ho (.inl (by omega))),h7⟩
theorem ClI.next {w W W':World} {ns:List (Int×Int×Int)} {j:Nat} {x:Int×Int×Int} (h:ClI w ns j W) (hx:ns[j]? =some x) (hm:MapIs W' (w.heap.size+1) (ns.take j++[x])) (hg:W.grownBy W' (some (w.heap.size+1))) (hr:((at13 (ns.take j) x.1).2&&((at13 (ns.take j) x.1).1 != x.2.1))=false):ClI w ns (j+1) W':=by
 obtain⟨h1,h2,h3,h4,h5,h6,h7⟩:=h;have e:ns.take (j+1)=ns.take j++[x]:=by rw[List.take_add_one,hx];rfl
 refine⟨h1.grown hg (by omega) (fun b hb=>by have :=Option.some.inj hb;omega),Nat.le_trans h2 hg.size,h3.kept hg (fun e=>by have :=Option.some.inj e;omega),h4.kept hg (fun e=>by have :=Option.some.inj e;omega),h5.kept hg (fun e=>by have :=Option.some.inj e;omega),by rw[e];exact hm,?_⟩;rw[e,clash_snoc,h7,hr];rfl
theorem clash13_any {w0 w:World} {gf:Nat} {lb:Array Value} {ns:List (Int×Int×Int)} {R:Nat→Prop} (hit:∀W,Below w.heap.size w W→IterU Tryz.prog gf lb (fun x:Int×Int×Int=>#[stpV x.1 x.2.1 x.2.2]) ns R W) (eg:∀args w,(callFunc gf args).run Tryz.prog w= .ok (.enter gf args) w) (hRl:∀k,R k→k<w.heap.size) (hW:∀x ∈ ns,NWf x) (hn:ns.length≤1000000) {r:Bool} (hr:clashN ns=r):
 Calls Tryz.prog 77 #[.func (.func gf) #[] lb] w fun e w'=>e= .returned (.bool r)∧Below w.heap.size w w':=by
 have HHR:=Zz hr
 have HEG:=Zz eg
 have HRl:=Zz hRl
 have HWF:=Zz hW
 have HNL:=Zz hn
 have hmm:=@run_makeMap Tryz.prog
 clear hr eg hRl hW hn
 refine(callsIn_wide (n:=5)).1 ?_
 refine callsIn_of_wp_marks Tryz.func77 rfl trivial ?_ rfl
 simp only[Tryz.ntmps77,Ld,Le,Lf,Nat.reduceAdd,Nat.reduceSub,Lg,Lh,Li,Lj,Lk,Ll]
 gi_wp2_with fail
 obtain⟨W0,hW0,hsz,hB0,b0,b1,b2,b3⟩:∃W0,(((w.alloc (.cells #[.bool false] 4)).alloc (.map #[] 0)).alloc (.cells #[.map (some (w.heap.size+1))] 175)).alloc (.cells #[.func (.func 133) #[] #[.pointer (some ⟨w.heap.size+1+1,0,none⟩)]] 176)=W0∧W0.heap.size=w.heap.size+4∧Below w.heap.size w W0∧Whole W0 w.heap.size 4 [.bool false]∧MapIs W0 (w.heap.size+1) []∧Whole W0 (w.heap.size+1+1) 175 [.map (some (w.heap.size+1))]∧Whole W0 (w.heap.size+1+1+1) 176 [.func (.func 133) #[] #[.pointer (some ⟨w.heap.size+1+1,0,none⟩)]]:=
  ⟨_,rfl,by simp,(below3 w _ _ _).alloc (by simp;omega) _,(((Whole.new w _ [_]).alloc _).alloc _).alloc _,by
   have h:=MapIs.made (w.alloc (.cells #[.bool false] 4));have e:(w.alloc (.cells #[.bool false] 4)).heap.size=w.heap.size+1:=by simp
   rw[e] at h;exact h.same (fun o ho=>by
    have hl:=(Array.getElem?_eq_some_iff.1 ho).1;exact((below2 ((w.alloc (.cells #[.bool false] 4)).alloc (.map #[] 0)) _ _).block _ hl).trans ho),(Whole.Zj _ _ [_] _ (by simp)).alloc _,Whole.Zj _ _ [_] _ (by simp)⟩
 rw[hW0]
 have hit0:=hit W0 hB0
 have HSZ:=Zz hsz
 clear hW0 hit hmm
 refine range_iterU (gf:=gf) rfl HEG.out hit0 (Keeps.refl _ _) (fun k hk=>by have :=HRl.out k hk;have :=HSZ.out;omega) (fun _=>rfl) (by omega)
  (fun _=>ClI w ns)
  (fun c _ W=>c= .ret∧(Below w.heap.size w W∧Whole W w.heap.size 4 [.bool true]∧clashN ns=true))
  (by rw[hsz];exact ClI.safe w ns)
  (fun c=>by
   rw[hsz];rintro U u W W' ⟨h1,h2,h3,h4⟩ ht;exact⟨h1,Safe.below (β:=Unit) (B:=w.heap.size+4) (by omega) (Nat.le_refl _) U () W W' h2 ht,ht.whole h3 (.inl (by omega)),h4⟩)
  ⟨hB0,by omega,b0,b2,b3,b1,rfl⟩
  (fun U j x a' W=>ClI w ns j W∧∃gp,Whole W gp 100 (Zi x)∧U gp∧a'= {tmps:=#[.func (.func gf) #[] lb,undef,.pointer (some ⟨w.heap.size,0,none⟩),.pointer (some ⟨w.heap.size+1+1,0,none⟩),.pointer (some ⟨w.heap.size+1+1+1,0,none⟩),.pointer (some ⟨gp,0,none⟩),.map (some (w.heap.size+1)),.func (.func 133) #[] #[.pointer (some ⟨w.heap.size+1+1,0,none⟩)],.func (.func gf) #[] lb,stpV x.1 x.2.1 x.2.2,undef,undef,undef],defers:=[]})
  (fun j x a'=>by
   rw[hsz];rintro U u W W' ⟨h1,gp,h4,h5,h6⟩ ht;exact⟨ClI.safe w ns U _ _ _ h1 ht,gp,ht.whole h4 (.inr h5),h5,h6⟩)
  ?assign ?body ?done ?stop
 case assign=>
  rintro lr U j x W K hx hI hsW hU hK;have hb:=below1 W (.cells (Zi x).toArray 100);have hI':=ClI.safe w ns U _ _ _ hI (Stays.below hb);gi_wp2_with fail;exact hK _ _ (With U W (W.alloc (.cells (Zi x).toArray 100))) (Grew.with hU hb.size) (Kept.below hb) ⟨hI',W.heap.size,Whole.new W _ (Zi x),.inr ⟨Nat.le_refl _,by simp⟩,rfl⟩
 case body=>
  rintro lr U j x a' W hl hx ⟨hI,gp,hgp,hUg,rfl⟩ hU;obtain⟨b,hb⟩:∃b,((at13 (ns.take j) x.1).2&&((at13 (ns.take j) x.1).1 != x.2.1))=b:=⟨_,rfl⟩;have KO:=Zz (other13_any x.1 x.2.1 x.2.2 (HWF.out x (List.mem_of_getElem? hx)) hI.mb hI.mp (by rw[List.length_take];have :=HNL.out;omega) hb);have HX:=Zz hx;have HBX:=Zz hb;obtain⟨p0,p1,p2⟩:=hgp.c3;have f0:=hI.fb.Za 0 rfl;clear hx hb hgp;gi_wp2_with fail;refine⟨trivial,(CallsIn.inRound _ (callsIn_wide.2 KO.out)).mono ?_⟩;clear KO p0 p1 p2 f0;rintro e w3 ⟨rfl,hm,hg⟩;have HKept:Hid (Kept R W0.heap.size U W w3):=Zz ⟨hg.size,fun k o ho hr=>(hg.block k (Array.getElem?_eq_some_iff.1 ho).1 (fun e=>by
   have e':=Option.some.inj e;have :=HSZ.out;rcases hr with hr|hr
   · have :=HRl.out k hr;omega
   · omega)).trans ho⟩;have HS3:=Zz hg.size;cases b
  · have HN:=Zz (hI.next HX.out hm hg HBX.out);clear hm hg hI;gi_wp2_with fail;exact⟨U,Grew.refl hU HS3.out,HKept.out,HN.out⟩
  · have HC:Hid (clashN ns=true):=Zz (by
     refine clash_sub (ns:=ns.take j++[x]) (fun a ha=>?_) (by rw[clash_snoc,HBX.out,Bool.or_true]);rw[List.mem_append] at ha;rcases ha with ha|ha
     · exact List.mem_of_mem_take ha
     · obtain rfl:a=x:=by simpa using ha
       exact List.mem_of_getElem? HX.out);have b0:=hI.rb.kept hg (by simp);have hB3:=hI.below.grown hg (by have :=hI.size;omega) (fun b hb=>by have :=Option.some.inj hb;omega);have f0:=b0.frozen 0;have y0:=b0.Za 0 rfl;clear hm hg hI;gi_wp2_with fail;exact⟨U,Grew.refl hU (by simp[World.setCell];exact HS3.out),HKept.out.trans (Grew.refl hU HS3.out) (Kept.set (p:=⟨w.heap.size,0,none⟩) _ _ (fun hr=>by have :=HRl.out _ hr;simp at this) (.inl (by show w.heap.size<W0.heap.size;have :=HSZ.out;omega))),rfl,
     hB3.setCell (p:=⟨w.heap.size,0,none⟩) (Nat.le_refl _) _,b0.set 0 (.bool true),HC.out⟩
 case done=>
  rintro D U W hD hUD hI hK;have HA:Hid (clashN ns=false):=Zz (by have :=hI.no;rwa [List.take_length] at this);have b1:=hI.rb;have f1:=b1.frozen 0;have y1:=b1.Za 0 rfl;have HB:=Zz hI.below;have hsz:=HSZ.out;clear hI;gi_wp2_with fail;have hK2:=(Below.heap_setCell W ⟨w.heap.size,0,none⟩ (.bool false) D (by show D≠w.heap.size;omega)).trans hK;have e1:=((b1.set 0 (.bool false)).putDone (o':=.deferred none) hK2).Za 0 rfl;have hB2:=HB.out.setCell (p:=⟨w.heap.size,0,none⟩) (Nat.le_refl _) (.bool false);refine⟨by simp,.inl ⟨_,_,rfl,run_takeDeferred hK2,?_⟩⟩;refine⟨.bool false,by simp[results,Tryz.f77,go_sem,e1],Zc (by rw[←HHR.out,HA.out]),hB2.trans (belowK_b (w:=w) (Nat.le_refl _) _ D _ _ (by omega) hK2 rfl rfl)⟩
 case stop=>
  rintro D c U W hD hUD ⟨rfl,hB,b1,hA⟩ hK;have HA:=Zz hA;have hsz:=HSZ.out;clear hA;have e1:=(b1.putDone (o':=.deferred none) hK).Za 0 rfl;gi_wp2_with fail;refine⟨by simp,.inl ⟨_,_,rfl,run_takeDeferred hK,?_⟩⟩;refine⟨.bool true,by simp[results,Tryz.f77,go_sem,e1],Zc (by rw[←HHR.out,HA.out]),hB.trans (belowK_b (w:=w) (Nat.le_refl _) _ D _ _ (by omega) hK rfl rfl)⟩
end
section
open Go.ChangeShapes Go.WideShapes Go.ChangeAt Go.RowKit Go.Deep
open Go.Joins Go.Shelf
def FlkW (f:Int×Int×Int×Int):Prop:=(Lit.int .i64 f.2.2.1).wf=true∧(Lit.int .i64 f.2.2.2).wf=true
def FWf (l:Lay):Prop:=∀f ∈ l.flanks,FlkW f
section
variable {H:Type} {enc:TypeId×Value→H} {w:World} {base:Nat} {spare:Nat→Bool} {held:Bool}
theorem flk_elW {n:Nat} {cs:List Value} {x:DataW H×List MemPlace} (h:DataW.trod enc Tryz.prog w base spare held n 136 cs=some x):∃s:Int×Int×Int×Int,cs=flkCells s∧FlkW s:=by
 have h:=plain_el 8 (ls:=[.num .i64,.num .i64,.num .i64,.num .i64]) (by kernel_rfl) h;obtain⟨a,cs,rfl,_,h⟩:=fits_num h;obtain⟨b,cs,rfl,_,h⟩:=fits_num h;obtain⟨c,cs,rfl,hc,h⟩:=fits_num h;obtain⟨d,cs,rfl,hd,h⟩:=fits_num h;obtain rfl:=fits_nil h;exact⟨(a,b,c,d),rfl,hc,hd⟩
theorem lay_openF {r:Reach} {b0:Nat} {v:Value} {d:DataW H} {p:List MemPlace} (hv:Value.okWide Tryz.prog w r b0 29 v) (h:DataW.Trod enc Tryz.prog w base spare held 29 v d p):∃l:Lay,v=l.val∧Lies l w∧Caps l∧FWf l:=by
 obtain⟨ca,rfl,_⟩:=okWide_struct Tryz.underlying29 hv;obtain⟨fuel,hf⟩:=h;obtain⟨xs,m,_,hx,hlen,hxs,hf⟩:=DataW.trod_struct Tryz.underlying29 hf;have hcl:Tryz.prog.cellsOf 29=11:=by kernel_rfl
 rw[hcl] at hlen;obtain⟨f0,g0,t0,o0⟩:=field_of (P:=Tryz.prog) (t:=29) (i:=0) (ty:=22) (off:=0) (by kernel_rfl);obtain⟨f1,g1,t1,o1⟩:=field_of (P:=Tryz.prog) (t:=29) (i:=1) (ty:=23) (off:=1) (by kernel_rfl);obtain⟨f2,g2,t2,o2⟩:=field_of (P:=Tryz.prog) (t:=29) (i:=2) (ty:=24) (off:=2) (by kernel_rfl);obtain⟨f3,g3,t3,o3⟩:=field_of (P:=Tryz.prog) (t:=29) (i:=3) (ty:=25) (off:=3) (by kernel_rfl);obtain⟨f4,g4,t4,o4⟩:=field_of (P:=Tryz.prog) (t:=29) (i:=4) (ty:=27) (off:=4) (by kernel_rfl);have hsz:xs.length=5:=by rw[hxs];kernel_rfl
 have hcc:(Value.agg ca).cells.toList=ca.toList:=rfl;rw[hcc] at hlen hf;obtain⟨cs,hcs⟩:∃cs,ca.toList=cs:=⟨_,rfl⟩;obtain rfl:ca=cs.toArray:=by rw[←hcs]
 rw[hcs] at hlen hf;match cs,hlen,xs,hsz with
 |[a0,a1,a2,a3,a4,a5,a6,a7,a8,a9,a10],_,[y0,y1,y2,y3,y4],_=>
  have h0:=hf 0 f0 g0;have h1:=hf 1 f1 g1;have h2:=hf 2 f2 g2;have h3:=hf 3 f3 g3;have h4:=hf 4 f4 g4;rw[t0,o0,show Tryz.prog.cellsOf 22=1 by kernel_rfl] at h0;rw[t1,o1,show Tryz.prog.cellsOf 23=1 by kernel_rfl] at h1;rw[t2,o2,show Tryz.prog.cellsOf 24=1 by kernel_rfl] at h2;rw[t3,o3,show Tryz.prog.cellsOf 25=1 by kernel_rfl] at h3;rw[t4,o4,show Tryz.prog.cellsOf 27=7 by kernel_rfl] at h4;obtain⟨As,cs,secs,rfl,hrS,hkS,hnS,qS⟩:=row_openC (f:=Sec.cells) (G:=fun s:Sec=>0≤s.k∧s.k≤255) (c:=11) Sec.len (by omega) Tryz.underlying22 (by kernel_rfl) (fun n cs x h=>sec_el h) (v:=a0) (y:=y0) h0;obtain⟨Ag,cg,sigs,rfl,hrG,_,hnG,qG⟩:=row_openC (f:=Zf) (G:=fun _=>True) (c:=2) (fun _=>rfl) (by omega) Tryz.underlying23 (by kernel_rfl) (fun n cs x h=>sig_el h) (v:=a1) (y:=y1) h1;obtain⟨Ae,ce,exits,rfl,hrE,hkE,hnE,qE⟩:=row_openC (f:=Exm.cells) (G:=fun s:Exm=>Row w w.heap.size s.A (s.over.flatMap Ze)∧(s.over.length:Int)≤9223372036854775807) (c:=3) (fun _=>rfl) (by omega) Tryz.underlying24 (by kernel_rfl) (fun n cs x h=>ex_el h) (v:=a2) (y:=y2) h2;obtain⟨Af,cf,flanks,rfl,hrF,hwF,hnF,qF⟩:=row_openC (f:=flkCells) (G:=FlkW) (c:=4) (fun _=>rfl) (by omega) Tryz.underlying25 (by kernel_rfl) (fun n cs x h=>flk_elW h) (v:=a3) (y:=y3) h3;have h4:=plain_el 8 (ls:=[.num .i64,.num .i64,.num .i64,.num .i64,.num .i64,.num .i64,.num .i64]) (by kernel_rfl) (x:=y4) h4;obtain⟨u0,c0,e0,_,h4⟩:=fits_num h4;obtain⟨u1,c1,e1,_,h4⟩:=fits_num h4;obtain⟨u2,c2,e2,_,h4⟩:=fits_num h4;obtain⟨u3,c3,e3,_,h4⟩:=fits_num h4;obtain⟨u4,c4,e4,_,h4⟩:=fits_num h4;obtain⟨u5,c5,e5,_,h4⟩:=fits_num h4;obtain⟨u6,c6,e6,_,h4⟩:=fits_num h4;obtain rfl:=fits_nil h4;subst e6 e5 e4 e3 e2 e1;simp at e0;obtain⟨rfl,rfl,rfl,rfl,rfl,rfl,rfl⟩:=e0;exact⟨⟨secs,As,cs,sigs,Ag,cg,exits,Ae,ce,flanks,Af,cf,u0,u1,u2,u3,u4,u5,u6⟩,rfl,⟨hrS,hrG,hrE,hrF,fun x hx=>(hkE x hx).1,hkS,hnS,hnG,hnE,hnF,fun x hx=>(hkE x hx).2⟩,⟨qS,qG,qE,qF⟩,hwF⟩
end
end
end Go.Proofs.YtifnlhfinjfajaaGreatDoor
