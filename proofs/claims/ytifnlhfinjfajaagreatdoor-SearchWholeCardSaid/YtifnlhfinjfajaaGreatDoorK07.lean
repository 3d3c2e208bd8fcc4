/- Of this seat: JoinE, JoinC, JoinF, TopoQ. -/
import Derived.Test.YtifnlhfinjfajaaGreatDoorK06
namespace Go.Proofs.YtifnlhfinjfajaaGreatDoor
set_option linter.unusedVariables false
set_option linter.unusedSimpArgs false
set_option maxRecDepth 100000
set_option maxHeartbeats 32000000
section
open Go.RowKit Go.Shelf
attribute [local go_sem] Oper.semAt_some
def portsTo (l:Lay) (n:Nat):List (Int×Int):=(List.range n).flatMap fun s:Nat=>portsS l s
def portsAll (l:Lay):List (Int×Int):=portsTo l l.secs.length
theorem portsTo_next (l:Lay) (n:Nat):portsTo l (n+1)=portsTo l n++portsS l n:=by
 unfold portsTo;rw[List.range_succ,List.flatMap_append];simp
theorem portsTo_split (l : Lay) : ∀ (n m : Nat), n ≤ m → ∃ r, portsTo l m = portsTo l n ++ r
  | n, 0, h => ⟨[], by have : n = 0 := by omega
                       subst this; simp⟩
  | n, m + 1, h => by
    by_cases e : n = m + 1
    · subst e; exact ⟨[], by simp⟩
    · obtain ⟨r, hr⟩ := portsTo_split l n m (by omega)
      exact ⟨r ++ portsS l m, by rw [portsTo_next, hr, List.append_assoc]⟩
theorem portsAll_at {l:Lay} {s j:Nat} {x:Int×Int} (hs:s<l.secs.length) (hx:(portsS l s)[j]? =some x):(portsAll l)[(portsTo l s).length+j]? =some x:=by
 obtain⟨r,hr⟩:=portsTo_split l (s+1) l.secs.length (by omega);unfold portsAll;have hlt:=(List.getElem?_eq_some_iff.1 hx).1;rw[hr,portsTo_next,List.append_assoc,List.getElem?_append_right (by omega),Nat.add_sub_cancel_left,List.getElem?_append_left hlt];exact hx
def marks (Ds:List Nat):List Deferred:=Ds.map fun D=>{target:=.collected D,args:=#[]}
structure Marks (B:Nat) (U:Nat→Prop) (Ds:List Nat) (W:World):Prop where
 once:Ds.Nodup
 all:∀D ∈ Ds,W.heap[D]? =some (.deferred (some []))∧B≤D∧¬U D
theorem leaves_marks {P:Program} {fn:Func} {tmps:Array Value} {R:Ending→World→Prop} {v:Value} {B:Nat} {U:Nat→Prop} (hres:∀w,(results fn tmps).run P w= .ok v w):∀(Ds:List Nat) (W:World),Marks B U Ds W→(∀W',Stays B U W W'→R (.returned v) W')→LeavesInM Fence.wide 3 P fn tmps R (marks Ds) .returning W
 |[],W,_,h=>⟨v,hres W,h W ⟨⟨rfl,rfl,rfl⟩,Nat.le_refl _,fun _ _ h _=>h⟩⟩
 |D::Ds,W,hm,h=>by
  obtain⟨h1,h2,h3⟩:=hm.all D (by simp);have hn:=List.nodup_cons.1 hm.once;refine⟨by simp,.inl ⟨D,_,rfl,run_takeDeferred h1,leaves_marks hres Ds _ ⟨hn.2,fun E hE=>?_⟩ fun W' hW'=>h W' ((Stays.put W _ h2 h3).trans hW')⟩⟩;obtain⟨k1,k2,k3⟩:=hm.all E (by simp[hE]);exact⟨(World.putObj_heap_other (fun e=>by subst e;exact hn.1 hE)).trans k1,k2,k3⟩
theorem Marks.stays {B:Nat} {U:Nat→Prop} {Ds:List Nat} {W W':World} (h:Marks B U Ds W) {C:Nat} {V:Nat→Prop} (hs:Stays C V W W') (hC:∀D ∈ Ds,D<C):Marks B U Ds W':=
 ⟨h.once,fun D hD=>let ⟨h1,h2,h3⟩:=h.all D hD;⟨hs.rest D _ h1 (.inl (hC D hD)),h2,h3⟩⟩
theorem Marks.kept {B:Nat} {U U':Nat→Prop} {Ds:List Nat} {W W':World} (h:Marks B U Ds W) {R:Nat→Prop} (hg:Grew U U' W W') (hs:Kept R B U W W'):Marks B U' Ds W':=
 ⟨h.once,fun D hD=>let ⟨h1,h2,h3⟩:=h.all D hD;⟨hs.rest D _ h1 (.inr ⟨h2,h3⟩),h2,fun hu=>(hg.new D hu).elim h3 fun hl=>by have :=(Array.getElem?_eq_some_iff.1 h1).1;omega⟩⟩
structure AllI (J:(Nat→Prop)→Nat→World→Prop) (R:Nat→Prop) (w0:World) (B:Nat) (yv:Value) (Ds:List Nat) (U:Nat→Prop) (i:Nat) (W:World):Prop where
 j:J U i W
 lt:∀k,U k→k<W.heap.size
 keeps:Keeps R w0 W
 box:Whole W B 145 [yv]
 boxU:¬U B
 marks:Marks B U Ds W
theorem AllI.stays {J:(Nat→Prop)→Nat→World→Prop} {R:Nat→Prop} {w0:World} {B:Nat} {yv:Value} {Ds:List Nat} {U:Nat→Prop} {i:Nat} {W W':World} (h:AllI J R w0 B yv Ds U i W) (hJ:Safe B J) (hR:∀k,R k→k<B) {C:Nat} {V:Nat→Prop} (hs:Stays C V W W') (hBC:B<C) (hU:∀k,U k→k<C∨V k) (hD:∀D ∈ Ds,D<C):AllI J R w0 B yv Ds U i W':=
 ⟨hJ _ _ _ _ h.j ⟨hs.same,hs.size,fun k o ho hk=>hs.rest k o ho (hk.elim (fun h=>.inl (by omega)) (hU k))⟩,fun k hk=>Nat.lt_of_lt_of_le (h.lt k hk) hs.size,fun k o hk ho=>hs.rest k o (h.keeps k o hk ho) (.inl (by have :=hR k hk;omega)),hs.whole h.box (.inl hBC),h.boxU,h.marks.stays hs hD⟩
theorem allPorts_iter {wa w0:World} {g:Nat} {l:Lay} (hT:Shapes wa) (hL:Lies l wa) (hka:Keeps (· <wa.heap.size) wa w0) (hsa:wa.heap.size≤w0.heap.size) (hb:Whole w0 g 29 l.cells):
 IterU Tryz.prog 187 #[.pointer (some ⟨g,0,none⟩)] (fun x:Int×Int=>#[(prtV x.1 x.2)]) (portsAll l) (fun k=>k<wa.heap.size∨k=g) w0:=by
 intro L J Jx W hk0 hRl hJ hJx hY h0
 have hnW:wa.heap.size≤W.heap.size:=Nat.le_of_not_lt fun hlt=>absurd (hRl _ (.inl hlt)) (Nat.lt_irrefl _)
 have hbW:=hk0.whole (.inr rfl) hb
 have HBB:Hid (∀W',Keeps (fun k=>k<wa.heap.size∨k=g) w0 W'→Whole W' g 29 l.cells):=Zz fun W' hk=>hk.whole (.inr rfl) hb
 have HKA:Hid (∀W',Keeps (fun k=>k<wa.heap.size∨k=g) w0 W'→Keeps (· <wa.heap.size) wa W'):=Zz fun W' hk=>hka.trans (hk.sub fun k h=>.inl h)
 have HRl:=Zz hRl
 have HIT:=Zz (fun(w1:World) (g1 g2:Nat) (s:Int) (h1:Keeps (· <wa.heap.size) wa w1) (h2:wa.heap.size≤w1.heap.size) (h3:Whole w1 g1 3 [.int .i64 s]) (h4:Whole w1 g2 29 l.cells)=>portsJ_iter hT hL h1 h2 h3 h4)
 have HAT:=Zz (fun(s j:Nat) (x:Int×Int) (hs:s<l.secs.length) (hx:(portsS l s)[j]? =some x)=>portsAll_at hs hx)
 have HPT:=Zz (fun s:Nat=>show(portsTo l (s+1)).length=(portsTo l s).length+(portsS l s).length by rw[portsTo_next,List.length_append])
 have HPE:Hid (portsTo l l.secs.length=portsAll l):=Zz rfl
 have HNW:=Zz hnW
 have x0:=(hbW.alloc (.cells #[.func (.yield L) #[] #[]] 145)).Za 0 rfl
 obtain⟨B,hB⟩:∃B,W.heap.size=B:=⟨_,rfl⟩
 have hnS:=hL.nS
 rw[hB] at hJ hJx hY HRl HNW
 have HBe:=Zz hB
 have hstart:AllI J (fun k=>k<wa.heap.size∨k=g) w0 B (.func (.yield L) #[] #[]) [] (fun _=>False) 0 (W.alloc (.cells #[.func (.yield L) #[] #[]] 145)):=
  ⟨hJ _ _ _ _ h0 (Stays.below (below1 W _)),fun k h=>h.elim,hk0.trans (Keeps.below (below1 W _)),Whole.Zj W _ [_] _ hB.symm,fun h=>h,⟨List.nodup_nil,fun D hD=>by cases hD⟩⟩
 have HST:=Zz hstart
 clear hT hL hka hsa hb hRl hbW hk0 h0 hstart hB hnW
 refine(callsIn_wide (n:=3)).1 ?_
 refine callsIn_of_wp_marks Tryz.func187 rfl trivial ?_ rfl
 simp only[Tryz.ntmps187,Ld,Le,Lf,Nat.reduceAdd,Nat.reduceSub,Lg,Lh,Li,Lj,Lk,Ll]
 gi_wp2_with fail
 clear x0
 rw[HBe.out]
 refine wpIn_loop (fun a' w'=>∃(s:Nat) (Ds:List Nat) (U:Nat→Prop) (u3 u9 u10 u11 u12 u13 u19:Value),(s≤l.secs.length∧B<w'.heap.size∧AllI J (fun k=>k<wa.heap.size∨k=g) w0 B (.func (.yield L) #[] #[]) Ds U (portsTo l s).length w') ∧
  a'= {tmps:=#[.func (.yield L) #[] #[],.pointer (some ⟨g,0,none⟩),.pointer (some ⟨B,0,none⟩),u3,undef,.pointer (some ⟨g,0,none⟩),.slice l.As l.secs.length l.cs,.int .i64 l.secs.length,.int .i64 (s:Int),u9,u10,u11,u12,u13,undef,undef,undef,undef,undef,u19],defers:=marks Ds})
  (fun a' _=>l.secs.length - (intOf (a'.tmps.getD 8 undef)).toNat) ?start ?round
 case start=>exact⟨0,[],fun _=>False,_,_,_,_,_,_,_,⟨by omega,by simp;have :=HBe.out;omega,HST.out⟩,rfl⟩
 case round=>
  clear HST;rintro a' wr ⟨s,Ds,U,u3,u9,u10,u11,u12,u13,u19,⟨hs,hsz,hI⟩,rfl⟩;have hRB:∀k,(k<wa.heap.size∨k=g)→k<B:=fun k hk=>HRl.out k hk;by_cases hlt:s<l.secs.length
  · have hlt':(s:Int)<l.secs.length:=by omega
    obtain⟨x0,x1,x2,x3,x4,x5,x6,x7,x8,x9,x10⟩:=(HBB.out _ hI.keeps).c11;gi_wp2_with fail;refine⟨trivial,(callsIn_wide.2 (portsJ_any l s _)).mono ?_⟩;rintro e w2 ⟨rfl,rfl⟩;gi_wp2_with fail;clear x0 x1 x2 x3 x4 x5 x6 x7 x8 x9 x10;obtain⟨h,hh⟩:∃h,wr.heap.size=h:=⟨_,rfl⟩;have hDlt:∀D ∈ Ds,D<wr.heap.size:=fun D hD=>(Array.getElem?_eq_some_iff.1 (hI.marks.all D hD).1).1;have hUlt:=hI.lt;obtain⟨W2,hW2,hsz2,hB2,b3,b4⟩:∃W2,((wr.alloc (.cells #[.slice l.As l.secs.length l.cs,.slice l.Ag l.sigs.length l.cg,.slice l.Ae l.exits.length l.ce,.slice l.Af l.flanks.length l.cf,.int .i64 l.t0,.int .i64 l.t1,.int .i64 l.t2,.int .i64 l.t3,.int .i64 l.t4,.int .i64 l.t5,.int .i64 l.t6] 29)).alloc (.cells #[.int .i64 (s:Int)] 3))=W2∧W2.heap.size=h+2∧Below wr.heap.size wr W2∧Whole W2 h 29 l.cells∧Whole W2 (h+1) 3 [.int .i64 (s:Int)]:=
     ⟨_,rfl,by simp;omega,below2 _ _ _,(Whole.Zj _ _ l.cells _ hh.symm).alloc _,Whole.Zj _ _ [_] _ (by simp;omega)⟩;rw[hW2,hh];have hI2:=hI.stays hJ hRB (C:=wr.heap.size) (V:=fun _=>False) (Stays.below hB2) hsz (fun k hk=>.inl (hUlt k hk)) hDlt;have hit:=HIT.out W2 (h+1) h (s:Int) (HKA.out _ hI2.keeps) (by have :=HNW.out;omega) b4 b3;have HXJ:Hid (∀j x,(portsS l s)[j]? =some x→(portsAll l)[(portsTo l s).length+j]? =some x):=Zz fun j x hx=>HAT.out s j x hlt hx;have HPS:=Zz (HPT.out s);obtain⟨xs,hxs⟩:∃xs,portsS l s=xs:=⟨_,rfl⟩;rw[hxs] at hit HXJ HPS;have HH:=Zz hh;have HS2:=Zz hsz2;have hDh:∀D ∈ Ds,D<h:=fun D hD=>by have :=hDlt D hD;omega
    have hUh:∀k,U k→k<h:=fun k hk=>by have :=hUlt k hk;omega
    have hBh:B<h:=by omega
    clear hW2 hI hB2 b3 b4 hxs hDlt hUlt hh hsz;have hstep:∀(U':Nat→Prop) (i:Nat) (V:Nat→Prop) (W' W'':World),AllI J (fun k=>k<wa.heap.size∨k=g) w0 B (.func (.yield L) #[] #[]) Ds V i W'→Stays (h+2) U' W' W''→(∀k,V k→k<h+2∨U' k)→AllI J (fun k=>k<wa.heap.size∨k=g) w0 B (.func (.yield L) #[] #[]) Ds V i W'':=fun U' i V W' W'' hi ht hv=>
     hi.stays hJ hRB ht (by omega) hv (fun D hD=>by have :=hDh D hD;omega);have HST:=Zz hstep;clear hstep;refine range_iterU (gf:=203) rfl (enters_of Tryz.func203 (by kernel_rfl) rfl) hit (Keeps.refl _ _) (fun k hk=>by have :=HS2.out;have :=HRl.out;rcases hk with hk|hk|hk;(have :=HRl.out k (.inl hk);omega);omega;omega) (fun _=>rfl) (by omega)
     (fun U' j W'=>∃V,AllI J (fun k=>k<wa.heap.size∨k=g) w0 B (.func (.yield L) #[] #[]) Ds V ((portsTo l s).length+j) W'∧(∀k,V k→k<h+2∨U' k)∧(¬V h∧¬V (h+1)∧h+2≤W'.heap.size))
     (fun c U' W'=>c= .ret∧∃V,(Jx V W'∧(∀k,V k→k<W'.heap.size))∧Marks B V Ds W'∧(∀k,V k→k<h+2∨U' k))
     (by
      rw[hsz2];rintro U' j W' W'' ⟨V,h1,h2,h3⟩ ht;exact⟨V,HST.out _ _ _ _ _ h1 ht h2,h2,h3.1,h3.2.1,Nat.le_trans h3.2.2 ht.size⟩)
     (fun c=>by
      rw[hsz2];rintro U' u W' W'' ⟨h0,V,⟨h1,h2⟩,h3,h4⟩ ht;refine⟨h0,V,⟨hJx V () _ _ h1 ⟨ht.same,ht.size,fun k o ho hk=>ht.rest k o ho (hk.elim (fun h=>.inl (by omega)) (h4 k))⟩,fun k hk=>Nat.lt_of_lt_of_le (h2 k hk) ht.size⟩,h3.stays ht (fun D hD=>by have :=hDh D hD;omega),h4⟩)
     ⟨U,hI2,fun k hk=>.inl (by have :=hUh k hk;omega),fun hk=>by have :=hUh _ hk;omega,fun hk=>by have :=hUh _ hk;omega,by omega⟩
     (fun U' j x a' W'=>(∃V,AllI J (fun k=>k<wa.heap.size∨k=g) w0 B (.func (.yield L) #[] #[]) Ds V ((portsTo l s).length+j) W'∧(∀k,V k→k<h+2∨U' k)∧(¬V h∧¬V (h+1)∧h+2≤W'.heap.size))∧∃gp,Whole W' gp 59 (Zf x)∧U' gp ∧
      a'= {tmps:=#[.func (.yield L) #[] #[],.pointer (some ⟨g,0,none⟩),.pointer (some ⟨B,0,none⟩),.int .i64 (s:Int),.pointer (some ⟨gp,0,none⟩),.pointer (some ⟨g,0,none⟩),.slice l.As l.secs.length l.cs,.int .i64 l.secs.length,.int .i64 (s:Int),.bool true,.int .i64 (s:Int),.agg #[.slice l.As l.secs.length l.cs,.slice l.Ag l.sigs.length l.cg,.slice l.Ae l.exits.length l.ce,.slice l.Af l.flanks.length l.cf,.int .i64 l.t0,.int .i64 l.t1,.int .i64 l.t2,.int .i64 l.t3,.int .i64 l.t4,.int .i64 l.t5,.int .i64 l.t6],.int .i64 (s:Int),.func (.func 203) #[] #[.pointer (some ⟨h+1,0,none⟩),.pointer (some ⟨h,0,none⟩)],prtV x.1 x.2,undef,undef,undef,undef,u19],defers:=[]})
     (fun j x a'=>by
      rw[hsz2];rintro U' u W' W'' ⟨⟨V,h1,h2,h3⟩,gp,h4,h5,h6⟩ ht;exact⟨⟨V,HST.out _ _ _ _ _ h1 ht h2,h2,h3.1,h3.2.1,Nat.le_trans h3.2.2 ht.size⟩,gp,ht.whole h4 (.inr h5),h5,h6⟩)
     ?assign ?body ?done ?stop
    case assign=>
     rintro lr U' j x W' K hx ⟨V,h1,h2,h3⟩ hsW hU' hK;have hb:=below1 W' (.cells (Zf x).toArray 59);have h1':=HST.out _ _ _ _ _ h1 (Stays.below hb) h2;gi_wp2_with fail;exact hK _ _ (With U' W' (W'.alloc (.cells (Zf x).toArray 59))) (Grew.with hU' hb.size) (Kept.below hb) ⟨⟨V,h1',fun k hk=>(h2 k hk).imp id .inl,h3.1,h3.2.1,Nat.le_trans h3.2.2 hb.size⟩,W'.heap.size,Whole.new W' _ (Zf x),.inr ⟨Nat.le_refl _,by simp⟩,rfl⟩
    case body=>
     rintro lr U' j x a' W' hl hx ⟨⟨V,h1,h2,h3⟩,gp,hgp,hUg,rfl⟩ hU';have hxj:=HXJ.out j x hx;obtain⟨fn,tmps,assign,body,hy,hR⟩:=hY V _ x W' hxj h1.j h1.lt;have HR:=Zz hR;obtain⟨p0,p1⟩:=hgp.c2;have c0:=h1.box.Za 0 rfl;clear hR hx hxj hgp;gi_wp2_with fail;refine RoundIn.mono (RoundIn.wideAny HR.out) ?_;clear HR hy p0 p1 c0;rintro e W3 ⟨V',hg',hk',(⟨rfl,hJ3⟩|⟨rfl,hJx3⟩)⟩
     · have hrest:∀k,V' k→k<h+2∨With U' W' W3 k:=fun k hk=>(hg'.new k hk).elim (fun hv=>(h2 k hv).imp id .inl) (fun hv=>.inr (.inr ⟨hv,hg'.lt k hk⟩));have hsW:h+2≤W'.heap.size:=h3.2.2;have hkept:Kept (fun k=>k<wa.heap.size∨(k=h+1∨k=h)) (h+2) U' W' W3:=⟨hk'.size,fun k o ho hr=>hk'.rest k o ho (by
        rcases hr with (hr|rfl|rfl)|hr
        · exact .inl (.inl hr)
        · exact .inr ⟨by omega,h3.2.1⟩
        · exact .inr ⟨by omega,h3.1⟩
        · exact .inr ⟨by omega,fun hv=>(h2 k hv).elim (fun hh=>by omega) hr.2⟩)⟩;gi_wp2_with fail;rw[HS2.out];exact⟨With U' W' W3,Grew.with hU' hk'.size,hkept,V',⟨hJ3,hg'.lt,h1.keeps.trans hk'.keeps,hk'.whole h1.box (Nat.le_refl _) h1.boxU,fun hv=>(hg'.new B hv).elim h1.boxU (fun hh=>by omega),h1.marks.kept hg' hk'⟩,hrest,
        fun hv=>(hg'.new _ hv).elim h3.1 (fun hh=>by omega),fun hv=>(hg'.new _ hv).elim h3.2.1 (fun hh=>by omega),Nat.le_trans hsW hk'.size⟩
     · have hrest:∀k,V' k→k<h+2∨With U' W' W3 k:=fun k hk=>(hg'.new k hk).elim (fun hv=>(h2 k hv).imp id .inl) (fun hv=>.inr (.inr ⟨hv,hg'.lt k hk⟩));have hkept:Kept (fun k=>k<wa.heap.size∨(k=h+1∨k=h)) (h+2) U' W' W3:=⟨hk'.size,fun k o ho hr=>hk'.rest k o ho (by
        rcases hr with (hr|rfl|rfl)|hr
        · exact .inl (.inl hr)
        · exact .inr ⟨by omega,h3.2.1⟩
        · exact .inr ⟨by omega,h3.1⟩
        · exact .inr ⟨by omega,fun hv=>(h2 k hv).elim (fun hh=>by omega) hr.2⟩)⟩;gi_wp2_with fail;rw[HS2.out];exact⟨With U' W' W3,Grew.with hU' hk'.size,hkept,rfl,V',⟨hJx3,hg'.lt⟩,h1.marks.kept hg' hk',hrest⟩
    case done=>
     rintro D U' W' hD hUD ⟨V,h1,h2,h3⟩ hK;rw[hsz2] at hD;rw[←HPS.out] at h1;have hVD:¬V D:=fun hv=>(h2 D hv).elim (fun hh=>by omega) hUD;have hDs:D ∉ Ds:=fun hm=>by have :=hDh D hm;omega
     have hlD:=(Array.getElem?_eq_some_iff.1 hK).1;have hM:Marks B V (D::Ds) W':=⟨List.nodup_cons.2 ⟨hDs,h1.marks.once⟩,fun E hE=>by
      rcases List.mem_cons.1 hE with rfl|hE
      · exact⟨hK,by omega,hVD⟩
      · exact h1.marks.all E hE⟩;have HM:=Zz hM;have HI1:=Zz h1;clear hM h1 hK;gi_wp2_with fail;refine⟨⟨s+1,D::Ds,V,_,_,_,_,_,_,_,⟨hlt,by omega,HI1.out.j,HI1.out.lt,HI1.out.keeps,HI1.out.box,HI1.out.boxU,HM.out⟩,rfl⟩,?_⟩;simp[intOf];omega
    case stop=>
     rintro D c U' W' hD hUD ⟨rfl,V,⟨h1,h2⟩,h3,h4⟩ hK;rw[hsz2] at hD;have hVD:¬V D:=fun hv=>(h4 D hv).elim (fun hh=>by omega) hUD;have hDs:D ∉ Ds:=fun hm=>by have :=hDh D hm;omega
     have hM:Marks B V (D::Ds) W':=⟨List.nodup_cons.2 ⟨hDs,h3.once⟩,fun E hE=>by
      rcases List.mem_cons.1 hE with rfl|hE
      · exact⟨hK,by omega,hVD⟩
      · exact h3.all E hE⟩;have HM:=Zz hM;have H1:=Zz h1;clear hM h1 hK;gi_wp2_with fail;exact leaves_marks (v:=.tuple #[]) (B:=B) (U:=V) (fun w=>results_none rfl _ _ _) (D::Ds) W' HM.out fun W'' hW'=>⟨⟨_,rfl⟩,V,fun k hk=>Nat.lt_of_lt_of_le (h2 k hk) hW'.size,.inr (hJx V () _ _ H1.out hW')⟩
  · obtain rfl:s=l.secs.length:=by omega
    have hII:=Zz hI;clear hI;gi_wp2_with fail;refine leaves_marks (v:=.tuple #[]) (B:=B) (U:=U) (fun w=>results_none rfl _ _ _) Ds wr hII.out.marks fun W' hW'=>⟨⟨_,rfl⟩,U,fun k hk=>Nat.lt_of_lt_of_le (hII.out.lt k hk) hW'.size,.inl ?_⟩;rw[←HPE.out];exact hJ _ _ _ _ hII.out.j hW'
end
section
open Go.RowKit Go.Shelf
theorem append_step (base n:Nat) (v:Value) (xs:List Value) (x:Int×Int×Int) (w:World) (a:Nat) (hown:w.ownsRow base 66 3 v n xs) (hc:Whole w a 66 (Ze x)) (hn:n≤1000) (hbase:base≤w.heap.size):
 ∃v' w',(Builtin.append_ #[44,44] 44 #[v,.slice (some ⟨a,0,none⟩) 1 1]).run Tryz.prog w= .ok v' w'∧w'.ownsRow base 66 3 v' (n+1) (xs++Ze x)∧Below base w w':=by
 obtain⟨i,i1,i2,i3,i4⟩:=info_parts infoStep
 obtain⟨v',w',r1,r2,r3,r4,r5⟩:=run_append_own_at (P:=Tryz.prog) w base 44 44 66 i (.agg #[.int .i64 0,.int .i64 0,.int .i64 0]) 3 24 Tryz.underlying44 i1 i2 i3 i4 rfl (by omega) v n xs hown ⟨a,0,none⟩ 1 1 (Ze x) rfl (row_add (hc.row hc.lt)) (oneStep x) (by unfold maxLen;omega) (by omega) hbase
 exact⟨v',w',r1,r2,(Below.refl base w).grown r3 hbase (fun k e=>(hown.lt k e).1)⟩
theorem ownsS_slice {w:World} {base e n:Nat} {v:Value} {xs:List Value} (h:w.ownsRow base e 3 v n xs):∃A c,v= .slice A n c∧Row w w.heap.size A xs∧n≤c:=by
 rcases h.2 with ⟨rfl,rfl⟩|⟨g,cap,cur,rfl,hg,_,hn,_⟩
 · have :xs=[]:=List.eq_nil_of_length_eq_zero (by have :=h.1;omega);subst this;exact⟨none,0,rfl,Row.nil _ _ _,Nat.le_refl _⟩
 · exact⟨_,cap,rfl,owns_row2 h,hn⟩
def outsK (k i:Int):List Int:=outsTo (nK k) 0 (bK k) (cK k) (dK k) i (pK k).toNat
theorem outsK_le (k i:Int):(outsK k i).length≤4:=Nat.le_trans (outsTo_le _ _ _ _ _ _ _) (by have :=pK_le4 k;omega)
def onward (q:Int×Int) (o:Int):Int×Int×Int:=(q.1,q.2,o)
theorem atV_range {l:Lay} {w:World} (hl:Lies l w) (s p:Int):0≤(atV l s p).k∧(atV l s p).k≤255:=by
 cases h:Zp l s p
 · rw[atV_no h];exact⟨Int.le_refl _,by show(0:Int)≤255;omega⟩
 · rw[atV_kind h];exact kindV_range hl s
section
variable {P:World→Prop} {w:World}
theorem joined_P (hP:Closed P) (hT:∀w,P w→Shapes w) {l:Lay} (hL:∀w,P w→Lies l w) (s p:Int) {r:Bool} (hr:joinedP l s p=r) (h:P w):
 Calls Tryz.prog 162 #[l.val,prtV s p] w fun e w'=>e= .returned (.bool r)∧P w':=by
 obtain⟨Q0,HQ0,HQ0p,HQ0l,HQ0v,hq⟩:=keep_box2 hP h 29 59 l.cells (Zf (s,p))
 obtain⟨⟨qs,qq⟩,hqv⟩:∃q,Zt l s p=q:=⟨_,rfl⟩
 have KB:=Zz (fun W hW=>beyond_P (P:=Q0) (w:=W) HQ0.out (fun W hW=>hT _ (HQ0p.out _ hW)) (fun W hW=>hL _ (HQ0p.out _ hW)) s p hqv hW)
 unfold joinedP at hr
 rw[hqv] at hr
 simp only at hr
 obtain⟨⟨rs,rq⟩,hrv⟩:∃q,Zt l qs qq=q:=⟨_,rfl⟩
 rw[hrv] at hr
 simp only at hr
 have HT:=Zz (fun W hW=>hT W (HQ0p.out W hW))
 have HL:=Zz (fun W hW=>hL W (HQ0p.out W hW))
 have HR:=Zz hr
 clear h hqv hr hT hL hP
 go_enter Tryz.func162,Tryz.ntmps162
 have v0:=(HQ0v.out _ hq).Za 0 rfl
 have v1:=(HQ0v.out _ hq).Za 1 rfl
 obtain⟨x0,x1,x2,x3,x4,x5,x6,x7,x8,x9,x10⟩:=(HQ0l.out _ hq).c11
 go_wp2_with fail
 refine(KB.out _ hq).mono ?_
 clear x0 x1 x2 x3 x4 x5 x6 x7 x8 x9 x10 v0 v1 hq KB
 rintro e w1 ⟨rfl,hq0⟩
 obtain⟨Q,HQ,HQp,HQr,hq⟩:=keep_boxV HQ0.out hq0 59 (Zf (qs,qq))
 have HQl:=Zz (fun W hW=>HQ0l.out W (HQp.out W hW))
 have HQv:=Zz (fun W hW=>HQ0v.out W (HQp.out W hW))
 have KE:=Zz (fun(W:World) (hW:Q W)=>trackEndJ_B W)
 have KB:=Zz (fun W hW=>beyond_B (w:=W) (HT.out W (HQp.out W hW)) (HL.out W (HQp.out W hW)) qs qq hrv)
 clear HT HL hq0 hrv
 have v0:=(HQv.out _ hq).Za 0 rfl
 have v1:=(HQv.out _ hq).Za 1 rfl
 have r0:=(HQr.out _ hq).Za 0 rfl
 have r1:=(HQr.out _ hq).Za 1 rfl
 obtain⟨x0,x1,x2,x3,x4,x5,x6,x7,x8,x9,x10⟩:=(HQl.out _ hq).c11
 clear r0 r1 v0 v1 x0 x1 x2 x3 x4 x5 x6 x7 x8 x9 x10
 by_cases h1:qs= -1∧qq=0
 · obtain⟨rfl,rfl⟩:=h1;go_wp2_with fail;have HBS:Hid (∀W,Below (w1.alloc (.cells (Zf (-1,0)).toArray 59)).heap.size (w1.alloc (.cells (Zf (-1,0)).toArray 59)) W→Q W):=Zz (fun W hB=>HQ.out _ _ hq hB);clear hq;refine rmx (w1.alloc (.cells (Zf (-1,0)).toArray 59)) f18 (by kernel_rfl) (by kernel_rfl) ?_;simp only[Zg,f18,Lm,Ln];repeat ((first|(refine Zb (by rfl) ?_)|(refine mrd HBS _ (by rfl) (fun W hW=>by(obtain⟨x0,x1,x2,x3,x4,x5,x6,x7,x8,x9,x10⟩:=(HQl.out _ hW).c11;obtain⟨v0,v1⟩:=(HQv.out _ hW).c2;obtain⟨r0,r1⟩:=(HQr.out _ hW).c2;go_simp;first|done|with_reducible rfl)) ?_)|(refine mcl HBS _ _ _ (by rfl) (fun W hW=>by(obtain⟨x0,x1,x2,x3,x4,x5,x6,x7,x8,x9,x10⟩:=(HQl.out _ hW).c11;obtain⟨v0,v1⟩:=(HQv.out _ hW).c2;obtain⟨r0,r1⟩:=(HQr.out _ hW).c2;go_simp;first|done|rfl)) (fun W hW=>KE.out W (HBS.out W hW)) ?_)|(refine mcl HBS _ _ _ (by rfl) (fun W hW=>by(obtain⟨x0,x1,x2,x3,x4,x5,x6,x7,x8,x9,x10⟩:=(HQl.out _ hW).c11;obtain⟨v0,v1⟩:=(HQv.out _ hW).c2;obtain⟨r0,r1⟩:=(HQr.out _ hW).c2;go_simp;first|done|rfl)) (fun W hW=>KB.out W (HBS.out W hW)) ?_));simp only[Act.put,La,Lb,Lc])
   refine Zd (fun W hW=>?_);have hq:=HBS.out W hW;clear hW HBS;go_wp2_with fail;go_ret;exact⟨Zc (by rw[←HR.out];rfl),HQ0p.out _ (HQp.out _ hq)⟩
 have H1:Hid (qs= -1→¬qq=0):=Zz fun e f=>h1 ⟨e,f⟩
 clear h1
 by_cases h2:qs=s
 · subst h2;go_wp2_with fail;have HBS:Hid (∀W,Below (w1.alloc (.cells (Zf (qs,qq)).toArray 59)).heap.size (w1.alloc (.cells (Zf (qs,qq)).toArray 59)) W→Q W):=Zz (fun W hB=>HQ.out _ _ hq hB);clear hq;refine rmx (w1.alloc (.cells (Zf (qs,qq)).toArray 59)) f18 (by kernel_rfl) (by kernel_rfl) ?_;simp only[Zg,f18,Lm,Ln];repeat ((first|(refine mrd HBS (.bool false) (by rfl) (fun W hW=>by(obtain⟨x0,x1,x2,x3,x4,x5,x6,x7,x8,x9,x10⟩:=(HQl.out _ hW).c11;obtain⟨v0,v1⟩:=(HQv.out _ hW).c2;obtain⟨r0,r1⟩:=(HQr.out _ hW).c2;have d1:=H1.out;go_simp;first|done|exact d1)) ?_)|(refine Zb (by rfl) ?_)|(refine mrd HBS _ (by rfl) (fun W hW=>by(obtain⟨x0,x1,x2,x3,x4,x5,x6,x7,x8,x9,x10⟩:=(HQl.out _ hW).c11;obtain⟨v0,v1⟩:=(HQv.out _ hW).c2;obtain⟨r0,r1⟩:=(HQr.out _ hW).c2;have d1:=H1.out;go_simp;first|done|with_reducible rfl)) ?_)|(refine mcl HBS _ _ _ (by rfl) (fun W hW=>by(obtain⟨x0,x1,x2,x3,x4,x5,x6,x7,x8,x9,x10⟩:=(HQl.out _ hW).c11;obtain⟨v0,v1⟩:=(HQv.out _ hW).c2;obtain⟨r0,r1⟩:=(HQr.out _ hW).c2;have d1:=H1.out;go_simp;first|done|rfl)) (fun W hW=>KE.out W (HBS.out W hW)) ?_)|(refine mcl HBS _ _ _ (by rfl) (fun W hW=>by(obtain⟨x0,x1,x2,x3,x4,x5,x6,x7,x8,x9,x10⟩:=(HQl.out _ hW).c11;obtain⟨v0,v1⟩:=(HQv.out _ hW).c2;obtain⟨r0,r1⟩:=(HQr.out _ hW).c2;have d1:=H1.out;go_simp;first|done|rfl)) (fun W hW=>KB.out W (HBS.out W hW)) ?_));simp only[Act.put,La,Lb,Lc])
   refine Zd (fun W hW=>?_);have hq:=HBS.out W hW;clear hW HBS;go_wp2_with fail;go_ret;exact⟨Zc (by rw[←HR.out];have :=H1.out;simp;exact this),HQ0p.out _ (HQp.out _ hq)⟩
 · have H2:Hid ((qs != s)=true):=Zz (by simp[h2]);have H3:=Zz h2;clear h2;by_cases h3:rs=s∧rq=p
   · obtain⟨rfl,rfl⟩:=h3;go_wp2_with fail;have HBS:Hid (∀W,Below (w1.alloc (.cells (Zf (qs,qq)).toArray 59)).heap.size (w1.alloc (.cells (Zf (qs,qq)).toArray 59)) W→Q W):=Zz (fun W hB=>HQ.out _ _ hq hB);clear hq;refine rmx (w1.alloc (.cells (Zf (qs,qq)).toArray 59)) f18 (by kernel_rfl) (by kernel_rfl) ?_;simp only[Zg,f18,Lm,Ln];repeat ((first|(refine mrd HBS (.bool false) (by rfl) (fun W hW=>by(obtain⟨x0,x1,x2,x3,x4,x5,x6,x7,x8,x9,x10⟩:=(HQl.out _ hW).c11;obtain⟨v0,v1⟩:=(HQv.out _ hW).c2;obtain⟨r0,r1⟩:=(HQr.out _ hW).c2;have d1:=H1.out;have d2:=H2.out;go_simp;first|done|exact d1)) ?_)|(refine Zb (by rfl) ?_)|(refine mrd HBS _ (by rfl) (fun W hW=>by(obtain⟨x0,x1,x2,x3,x4,x5,x6,x7,x8,x9,x10⟩:=(HQl.out _ hW).c11;obtain⟨v0,v1⟩:=(HQv.out _ hW).c2;obtain⟨r0,r1⟩:=(HQr.out _ hW).c2;have d1:=H1.out;have d2:=H2.out;go_simp;first|done|with_reducible rfl)) ?_)|(refine mcl HBS _ _ _ (by rfl) (fun W hW=>by(obtain⟨x0,x1,x2,x3,x4,x5,x6,x7,x8,x9,x10⟩:=(HQl.out _ hW).c11;obtain⟨v0,v1⟩:=(HQv.out _ hW).c2;obtain⟨r0,r1⟩:=(HQr.out _ hW).c2;have d1:=H1.out;have d2:=H2.out;go_simp;first|done|rfl)) (fun W hW=>KE.out W (HBS.out W hW)) ?_)|(refine mcl HBS _ _ _ (by rfl) (fun W hW=>by(obtain⟨x0,x1,x2,x3,x4,x5,x6,x7,x8,x9,x10⟩:=(HQl.out _ hW).c11;obtain⟨v0,v1⟩:=(HQv.out _ hW).c2;obtain⟨r0,r1⟩:=(HQr.out _ hW).c2;have d1:=H1.out;have d2:=H2.out;go_simp;first|done|rfl)) (fun W hW=>KB.out W (HBS.out W hW)) ?_));simp only[Act.put,La,Lb,Lc])
     refine Zd (fun W hW=>?_);have hq:=HBS.out W hW;clear hW HBS;go_wp2_with fail;go_ret;exact⟨Zc (by rw[←HR.out];have e:=H3.out;simp[e]),HQ0p.out _ (HQp.out _ hq)⟩
   · have H4:Hid (rs=s→¬rq=p):=Zz fun e f=>h3 ⟨e,f⟩;clear h3;go_wp2_with fail;have HBS:Hid (∀W,Below (w1.alloc (.cells (Zf (qs,qq)).toArray 59)).heap.size (w1.alloc (.cells (Zf (qs,qq)).toArray 59)) W→Q W):=Zz (fun W hB=>HQ.out _ _ hq hB);clear hq;refine rmx (w1.alloc (.cells (Zf (qs,qq)).toArray 59)) f18 (by kernel_rfl) (by kernel_rfl) ?_;simp only[Zg,f18,Lm,Ln];repeat ((first|(refine mrd HBS (.bool false) (by rfl) (fun W hW=>by(obtain⟨x0,x1,x2,x3,x4,x5,x6,x7,x8,x9,x10⟩:=(HQl.out _ hW).c11;obtain⟨v0,v1⟩:=(HQv.out _ hW).c2;obtain⟨r0,r1⟩:=(HQr.out _ hW).c2;have d1:=H1.out;have d2:=H2.out;have d3:=H4.out;go_simp;first|done|exact d1|exact d3)) ?_)|(refine Zb (by rfl) ?_)|(refine mrd HBS _ (by rfl) (fun W hW=>by(obtain⟨x0,x1,x2,x3,x4,x5,x6,x7,x8,x9,x10⟩:=(HQl.out _ hW).c11;obtain⟨v0,v1⟩:=(HQv.out _ hW).c2;obtain⟨r0,r1⟩:=(HQr.out _ hW).c2;have d1:=H1.out;have d2:=H2.out;have d3:=H4.out;go_simp;first|done|with_reducible rfl)) ?_)|(refine mcl HBS _ _ _ (by rfl) (fun W hW=>by(obtain⟨x0,x1,x2,x3,x4,x5,x6,x7,x8,x9,x10⟩:=(HQl.out _ hW).c11;obtain⟨v0,v1⟩:=(HQv.out _ hW).c2;obtain⟨r0,r1⟩:=(HQr.out _ hW).c2;have d1:=H1.out;have d2:=H2.out;have d3:=H4.out;go_simp;first|done|rfl)) (fun W hW=>KE.out W (HBS.out W hW)) ?_)|(refine mcl HBS _ _ _ (by rfl) (fun W hW=>by(obtain⟨x0,x1,x2,x3,x4,x5,x6,x7,x8,x9,x10⟩:=(HQl.out _ hW).c11;obtain⟨v0,v1⟩:=(HQv.out _ hW).c2;obtain⟨r0,r1⟩:=(HQr.out _ hW).c2;have d1:=H1.out;have d2:=H2.out;have d3:=H4.out;go_simp;first|done|rfl)) (fun W hW=>KB.out W (HBS.out W hW)) ?_));simp only[Act.put,La,Lb,Lc])
     refine Zd (fun W hW=>?_);have hq:=HBS.out W hW;clear hW HBS;go_wp2_with fail;go_ret;exact⟨Zc (by rw[←HR.out];have d:=H1.out;have e:=H4.out;simp;exact⟨d,fun _=>e⟩),HQ0p.out _ (HQp.out _ hq)⟩
end
end
section
open Go.RowKit Go.Shelf
attribute [local go_sem] Oper.semAt_some
section
variable {P:World→Prop} {w:World}
theorem indexSecJ_P (hP:Closed P) {l:List (Sec)} {A:Option Addr} (c:Nat) (hR:∀w,P w→Row w w.heap.size A (l.flatMap Sec.cells)) (hn:(l.length:Int)≤9223372036854775807) {pr:Sec→Bool} {r:Int}
 (hf:∀x ∈ l,∀w,P w→Calls Tryz.prog 160 #[x.val] w fun e w'=>e= .returned (.bool (pr x))∧P w') (hr:idxV pr l=r) (h:P w):
 Calls Tryz.prog 182 #[.slice A l.length c,.func (.func 160) #[] #[]] w fun e w'=>e= .returned (.int .i64 r)∧P w':=by
 have HF:=Zz hf
 have HR:=Zz hr
 clear hf hr
 go_enter Tryz.func182,Tryz.ntmps182
 go_wp2_with fail
 go_loopw [8] (fun i wr=>∃j:Nat,j≤l.length∧i= .int .i64 j∧P wr∧Hid (Zl pr l j))
  (fun i _=>l.length - (intOf i).toNat)
 case atStart=>exact⟨0,by omega,rfl,h,Zz (Zl.zero _ _)⟩
 case round=>
  obtain⟨j,hj,rfl,hp,HNo⟩:=hrel;by_cases hlt:j<l.length
  · have hlt':(j:Int)<l.length:=by omega
    obtain⟨x,hx⟩:∃x,l[j]? =some x:=⟨_,List.getElem?_eq_getElem hlt⟩;have HX:=Zz hx;have HM:=Zz (List.mem_of_getElem? hx);clear hx;obtain⟨b,off,hA,hb,hc0,hc⟩:=(hR _ hp).nth (n:=11) Sec.len (by omega) HX.out;subst hA;have c0:=hc0 j x _ HX.out rfl;have c1:=hc j x 1 _ HX.out rfl;have c2:=hc j x 2 _ HX.out rfl;have c3:=hc j x 3 _ HX.out rfl;have c4:=hc j x 4 _ HX.out rfl;have c5:=hc j x 5 _ HX.out rfl;have c6:=hc j x 6 _ HX.out rfl;have c7:=hc j x 7 _ HX.out rfl;have c8:=hc j x 8 _ HX.out rfl;have c9:=hc j x 9 _ HX.out rfl;have c10:=hc j x 10 _ HX.out rfl;clear hc0 hc;go_wp2_with fail;refine(HF.out x HM.out _ hp).mono ?_;clear hp c0 c1 c2 c3 c4 c5 c6 c7 c8 c9 c10;cases hpr:pr x
    · have HN:=Zz (HNo.out.succ HX.out hpr);clear hpr;rintro e w1 ⟨rfl,hp⟩;go_wp2_with fail;go_roundw
      case rel=>exact⟨j+1,hlt,by go_num,hp,HN⟩
      case measure=>simp[intOf];omega
    · have HI:=Zz (HNo.out.idx HX.out hpr);clear hpr;rintro e w1 ⟨rfl,hp⟩;go_wp2_with fail;go_ret;exact⟨ret_int (by rw[←HR.out,HI.out]),hp⟩
  · obtain rfl:j=l.length:=by omega
    have HI:=Zz HNo.out.idx_no;go_wp2_with fail;go_ret;exact⟨ret_int (by rw[←HR.out,HI.out]),hp⟩
theorem containsSecJ_P (hP:Closed P) {l:List (Sec)} {A:Option Addr} (c:Nat) (hR:∀w,P w→Row w w.heap.size A (l.flatMap Sec.cells)) (hn:(l.length:Int)≤9223372036854775807) {pr:Sec→Bool} {r:Bool}
 (hf:∀x ∈ l,∀w,P w→Calls Tryz.prog 160 #[x.val] w fun e w'=>e= .returned (.bool (pr x))∧P w') (hr:l.any pr=r) (h:P w):
 Calls Tryz.prog 153 #[.slice A l.length c,.func (.func 160) #[] #[]] w fun e w'=>e= .returned (.bool r)∧P w':=by
 have HC:=Zz (indexSecJ_P hP c hR hn hf rfl h)
 have HR:Hid (decide (0≤idxV pr l)=r):=Zz (by rw[idxV_any,hr])
 clear hf hr
 generalize idxV pr l=i at *
 go_enter Tryz.func153,Tryz.ntmps153
 go_wp2_with fail
 refine HC.out.mono ?_
 rintro e w1 ⟨rfl,hp⟩
 go_wp2_with fail
 go_ret
 exact⟨Zc HR.out,hp⟩
theorem sectionJ_P (hP:Closed P) (hT:∀w,P w→Shapes w) (x:Sec) (hx:0≤x.k∧x.k≤255) (h:P w):
 Calls Tryz.prog 160 #[x.val] w fun e w'=>e= .returned (.bool (!(rightK x)))∧P w':=by
 have hp:=hP _ _ h (below1 w (.cells x.cells.toArray 63))
 have HC:=Zz (right_Pr hP hT x.k x.s0 x.q0 x.s1 x.q1 x.s2 x.q2 x.s3 x.q3 x.c0 x.c1 hx.1 hx.2 (r:=rightK x) (shapeK x.k) rfl hp)
 clear hP hT h hx hp
 generalize rightK x=r at *
 go_enter Tryz.func160,Tryz.ntmps160
 go_wp2_with fail
 refine HC.out.mono ?_
 rintro e w1 ⟨rfl,hp⟩
 go_wp2_with fail
 go_ret
 exact⟨rfl,hp⟩
end
def joinedL (l:Lay):Bool:=decide ((l.secs.length:Int)≤24)&&(!(l.secs.any fun x=>!rightK x)&& !((portsAll l).any fun x=>!joinedP l x.1 x.2))
theorem joined_B {l:Lay} {w:World} (hT:Shapes w) (hL:Lies l w) (s p:Int) {r:Bool} (hr:joinedP l s p=r):Calls Tryz.prog 162 #[l.val,prtV s p] w fun e w'=>e= .returned (.bool r)∧Below w.heap.size w w':=
 joined_P (P:=fun W=>Below w.heap.size w W) (Closed.below w) (fun W h=>Shapes.closed _ _ hT h) (fun W h=>Lies.closed l _ _ hL h) s p hr (Below.refl _ _)
theorem allPorts_any (l:Lay) (w:World):Calls Tryz.prog 161 #[l.val] w fun e w'=>e= .returned (.func (.func 187) #[] #[.pointer (some ⟨w.heap.size,0,none⟩)])∧w'=w.alloc (.cells #[.slice l.As l.secs.length l.cs,.slice l.Ag l.sigs.length l.cg,.slice l.Ae l.exits.length l.ce,.slice l.Af l.flanks.length l.cf,.int .i64 l.t0,.int .i64 l.t1,.int .i64 l.t2,.int .i64 l.t3,.int .i64 l.t4,.int .i64 l.t5,.int .i64 l.t6] 29):=by
 go_enter Tryz.func161,Tryz.ntmps161;go_wp2_with fail;go_ret;exact⟨rfl,rfl⟩
structure JoI (l:Lay) (w:World) (j:Nat) (W:World):Prop where
 below:Below w.heap.size w W
 box0:Whole W w.heap.size 29 l.cells
 box1:Whole W (w.heap.size+1) 4 [.bool false]
 none:Zl (fun x:Int×Int=>!joinedP l x.1 x.2) (portsAll l) j
theorem JoI.safe (l:Lay) (w:World) {B:Nat} (hB:w.heap.size+2≤B):Safe B (fun(_:Nat→Prop)=>JoI l w):=by
 rintro U j W W' ⟨h1,h2,h3,h4⟩ ht;exact⟨Safe.below (β:=Unit) (B:=B) (by omega) (Nat.le_refl _) U () W W' h1 ht,ht.whole h2 (.inl (by omega)),ht.whole h3 (.inl (by omega)),h4⟩
theorem joinedL_any {l:Lay} {w:World} (hT:Shapes w) (hL:Lies l w) {r:Bool} (hr:joinedL l=r):
 Calls Tryz.prog 114 #[l.val] w fun e w'=>e= .returned (.bool r)∧Below w.heap.size w w':=by
 have HTW:Hid (∀W,Below w.heap.size w W→Shapes W∧Lies l W):=Zz fun W hB=>⟨Shapes.closed _ _ hT hB,Lies.closed l _ _ hL hB⟩
 unfold joinedL at hr
 have hn:=hL.nS
 refine(callsIn_wide (n:=5)).1 ?_
 refine callsIn_of_wp_marks Tryz.func114 rfl trivial ?_ rfl
 simp only[Tryz.ntmps114,Ld,Le,Lf,Nat.reduceAdd,Nat.reduceSub,Lg,Lh,Li,Lj,Lk,Ll]
 obtain⟨W0,hW0⟩:∃W0,(w.alloc (.cells #[.slice l.As l.secs.length l.cs,.slice l.Ag l.sigs.length l.cg,.slice l.Ae l.exits.length l.ce,.slice l.Af l.flanks.length l.cf,.int .i64 l.t0,.int .i64 l.t1,.int .i64 l.t2,.int .i64 l.t3,.int .i64 l.t4,.int .i64 l.t5,.int .i64 l.t6] 29)).alloc (.cells #[.bool false] 4)=W0:=⟨_,rfl⟩
 have hsz:W0.heap.size=w.heap.size+2:=by rw[←hW0];simp
 have hB0:Below w.heap.size w W0:=by rw[←hW0];exact below2 _ _ _
 have b0:Whole W0 w.heap.size 29 l.cells:=by rw[←hW0];exact(Whole.new w _ l.cells).alloc _
 have b1:Whole W0 (w.heap.size+1) 4 [.bool false]:=by rw[←hW0];exact Whole.Zj _ _ [_] _ (by simp)
 have HW0:=Zz hW0
 clear hW0
 have x0:=b0.Za 0 rfl
 have f1:=b1.frozen 0
 have y1:=b1.Za 0 rfl
 by_cases h24:24<(l.secs.length:Int)
 · have HR:Hid (false=r):=Zz (by rw[←hr,decide_eq_false (by omega)];rfl);clear hr;gi_wp2_with fail;refine⟨trivial,?_⟩;rw[HW0.out];gi_wp2_with fail;have e1:=(b1.set 0 (.bool false)).Za 0 rfl;exact⟨.bool false,by simp[results,Tryz.f114,go_sem,e1],Zc HR.out,hB0.setCell (p:=⟨w.heap.size+1,0,none⟩) (by show w.heap.size≤w.heap.size+1;omega) _⟩
 · have hle:(l.secs.length:Int)≤24:=by omega
   rw[decide_eq_true hle,Bool.true_and] at hr;obtain⟨sb,hsb⟩:∃sb,(l.secs.any fun x=>!rightK x)=sb:=⟨_,rfl⟩;rw[hsb] at hr;have hcl:Closed fun W=>(Below w.heap.size w W∧Whole W w.heap.size 29 l.cells)∧Whole W (w.heap.size+1) 4 [.bool false]:=((Closed.below w).and (Closed.whole _ _ _)).and (Closed.whole _ _ _);have KC:=Zz (containsSecJ_P (w:=W0) (A:=l.As) (l:=l.secs) hcl l.cs (fun W hB=>(HTW.out W hB.1.1).2.secs) hn (fun x hx W hB=>sectionJ_P hcl (fun W hB=>(HTW.out W hB.1.1).1) x (hL.kinds x hx) hB) hsb ⟨⟨hB0,b0⟩,b1⟩);have HHR:=Zz hr;clear hr hsb hle hcl;gi_wp2_with fail;rw[HW0.out];refine⟨trivial,(callsIn_wide.2 KC.out).mono ?_⟩;clear KC x0 f1 y1 b0 b1 hsz hB0 HW0;rintro e w1 ⟨rfl,⟨hB1,b0⟩,b1⟩;have x0:=b0.Za 0 rfl;have f1:=b1.frozen 0;have y1:=b1.Za 0 rfl;cases sb
   · rw[Bool.not_false,Bool.true_and] at HHR;obtain⟨x0,x1,x2,x3,x4,x5,x6,x7,x8,x9,x10⟩:=b0.c11;gi_wp2_with fail;refine⟨trivial,(callsIn_wide.2 (allPorts_any l _)).mono ?_⟩;rintro e w2 ⟨rfl,rfl⟩;gi_wp2_with fail;clear x0 x1 x2 x3 x4 x5 x6 x7 x8 x9 x10 f1 y1;obtain⟨h,hh⟩:∃h,w1.heap.size=h:=⟨_,rfl⟩;have hlt1:=b1.lt;obtain⟨W2,hW2,hsz2,hB2,c0,c1,c2⟩:∃W2,w1.alloc (.cells #[.slice l.As l.secs.length l.cs,.slice l.Ag l.sigs.length l.cg,.slice l.Ae l.exits.length l.ce,.slice l.Af l.flanks.length l.cf,.int .i64 l.t0,.int .i64 l.t1,.int .i64 l.t2,.int .i64 l.t3,.int .i64 l.t4,.int .i64 l.t5,.int .i64 l.t6] 29)=W2∧W2.heap.size=h+1∧Below w.heap.size w W2∧Whole W2 w.heap.size 29 l.cells∧Whole W2 (w.heap.size+1) 4 [.bool false]∧Whole W2 h 29 l.cells:=
      ⟨_,rfl,by simp;omega,hB1.alloc hB1.size _,b0.alloc _,b1.alloc _,Whole.Zj _ _ l.cells _ hh.symm⟩;rw[hW2,hh];have hh2:w.heap.size+2≤h:=by omega
     have hit:=allPorts_iter (w0:=W2) hT hL (fun k o hk ho=>(hB2.block k hk).trans ho) hB2.size c2;have hnone:=Zl.zero (fun x:Int×Int=>!joinedP l x.1 x.2) (portsAll l);have HSUC:=Zz (fun(j:Nat) (x:Int×Int) (h:Zl (fun x:Int×Int=>!joinedP l x.1 x.2) (portsAll l) j) (hx:(portsAll l)[j]? =some x) (hp:joinedP l x.1 x.2=true)=>h.succ hx (by rw[hp];rfl));have HSAF:=Zz (fun B hB=>JoI.safe l w (B:=B) hB);have HEND:=Zz (fun(x:JoI l w (portsAll l).length W2)=>x.none.any);clear hW2 b0 b1 hB1 c2 hlt1 hh HEND;refine range_iterU (gf:=187) rfl (enters_of Tryz.func187 (by kernel_rfl) rfl) hit (Keeps.refl _ _) (fun k hk=>by rcases hk with hk|hk <;> omega) (fun _=>rfl) (by omega)
      (fun _=>JoI l w)
      (fun c _ W=>c= .ret∧(Below w.heap.size w W∧Whole W (w.heap.size+1) 4 [.bool false]∧(portsAll l).any (fun x=>!joinedP l x.1 x.2)=true))
      (HSAF.out _ (by omega))
      (fun c=>by
       rintro U u W W' ⟨h1,h2,h3,h4⟩ ht;exact⟨h1,Safe.below (β:=Unit) (B:=W2.heap.size) (by omega) (Nat.le_refl _) U () W W' h2 ht,ht.whole h3 (.inl (by omega)),h4⟩)
      ⟨hB2,c0,c1,hnone⟩
      (fun U j x a' W=>JoI l w j W∧∃gp,Whole W gp 59 (Zf x)∧U gp ∧
       a'= {tmps:=#[l.val,.pointer (some ⟨w.heap.size,0,none⟩),.pointer (some ⟨w.heap.size+1,0,none⟩),.func (.func 160) #[] #[],.pointer (some ⟨gp,0,none⟩),.pointer (some ⟨w.heap.size,0,none⟩),.slice l.As l.secs.length l.cs,.int .i64 l.secs.length,.bool false,.bool false,.pointer (some ⟨w.heap.size,0,none⟩),.slice l.As l.secs.length l.cs,.func (.func 160) #[] #[],.bool false,.bool false,.agg #[.slice l.As l.secs.length l.cs,.slice l.Ag l.sigs.length l.cg,.slice l.Ae l.exits.length l.ce,.slice l.Af l.flanks.length l.cf,.int .i64 l.t0,.int .i64 l.t1,.int .i64 l.t2,.int .i64 l.t3,.int .i64 l.t4,.int .i64 l.t5,.int .i64 l.t6],.func (.func 187) #[] #[.pointer (some ⟨h,0,none⟩)],prtV x.1 x.2,undef,undef,undef,undef],defers:=[]})
      (fun j x a'=>by
       rintro U u W W' ⟨h1,gp,h4,h5,h6⟩ ht;exact⟨HSAF.out _ (by omega) U _ _ _ h1 ht,gp,ht.whole h4 (.inr h5),h5,h6⟩)
      ?assign ?body ?done ?stop
     case assign=>
      rintro lr U j x W K hx hI hsW hU hK;have hb:=below1 W (.cells (Zf x).toArray 59);have hI':=HSAF.out W2.heap.size (by omega) U _ _ _ hI (Stays.below hb);gi_wp2_with fail;exact hK _ _ (With U W (W.alloc (.cells (Zf x).toArray 59))) (Grew.with hU hb.size) (Kept.below hb) ⟨hI',W.heap.size,Whole.new W _ (Zf x),.inr ⟨Nat.le_refl _,by simp⟩,rfl⟩
     case body=>
      rintro lr U j x a' W hl hx ⟨hI,gp,hgp,hUg,rfl⟩ hU;obtain⟨hTw,hLw⟩:=HTW.out _ hI.below;obtain⟨b,hb⟩:∃b,joinedP l x.1 x.2=b:=⟨_,rfl⟩;have KJ:=Zz (joined_B hTw hLw x.1 x.2 hb);obtain⟨p0,p1⟩:=hgp.c2;obtain⟨x0,x1,x2,x3,x4,x5,x6,x7,x8,x9,x10⟩:=(hI.box0).c11;clear hTw hLw hgp;have HX:=Zz hx;have HBX:=Zz hb;clear hx hb;gi_wp2_with fail;refine⟨trivial,(CallsIn.inRound _ (callsIn_wide.2 KJ.out)).mono ?_⟩;clear KJ p0 p1 x0 x1 x2 x3 x4 x5 x6 x7 x8 x9 x10;rintro e w3 ⟨rfl,hB3⟩;have hI3:=HSAF.out W2.heap.size (by omega) U _ _ _ hI (Stays.below hB3);cases b
      · have HAN:=Zz (any_hit (pr:=fun x:Int×Int=>!joinedP l x.1 x.2) HX.out (by show(!joinedP l x.1 x.2)=true;rw[HBX.out];rfl));have b1:=hI3.box1;have f1:=b1.frozen 0;have y1:=b1.Za 0 rfl;gi_wp2_with fail;exact⟨U,Grew.refl hU (by simp[World.setCell];exact hB3.size),(Kept.below hB3).trans (Grew.refl hU hB3.size) (Kept.set (p:=⟨w.heap.size+1,0,none⟩) _ _ (fun hr=>by rcases hr with hr|hr <;> simp at hr <;> omega) (.inl (by show w.heap.size+1<W2.heap.size;omega))),rfl,
         hI3.below.setCell (p:=⟨w.heap.size+1,0,none⟩) (by show w.heap.size≤w.heap.size+1;omega) _,b1.set 0 (.bool false),HAN.out⟩
      · have HN:=Zz (HSUC.out j x hI3.none HX.out HBX.out);gi_wp2_with fail;exact⟨U,Grew.refl hU hB3.size,Kept.below hB3,hI3.below,hI3.box0,hI3.box1,HN.out⟩
     case done=>
      rintro D U W hD hUD hI hK;have HA:=Zz hI.none.any;have b1:=hI.box1;have f1:=b1.frozen 0;have y1:=b1.Za 0 rfl;have HB:=Zz hI.below;clear hI;gi_wp2_with fail;have hK2:=(Below.heap_setCell W ⟨w.heap.size+1,0,none⟩ (.bool true) D (by show D≠w.heap.size+1;omega)).trans hK;have e1:=((b1.set 0 (.bool true)).putDone (o':=.deferred none) hK2).Za 0 rfl;have hB2:=HB.out.setCell (p:=⟨w.heap.size+1,0,none⟩) (by show w.heap.size≤w.heap.size+1;omega) (.bool true);refine⟨by simp,.inl ⟨_,_,rfl,run_takeDeferred hK2,?_⟩⟩;refine⟨.bool true,by simp[results,Tryz.f114,go_sem,e1],Zc (by rw[←HHR.out,HA.out];rfl),hB2.trans (belowK_b (w:=w) (Nat.le_refl _) _ D _ _ (by omega) hK2 rfl rfl)⟩
     case stop=>
      rintro D c U W hD hUD ⟨rfl,hB,b1,hA⟩ hK;have HA:=Zz hA;clear hA;have e1:=(b1.putDone (o':=.deferred none) hK).Za 0 rfl;gi_wp2_with fail;refine⟨by simp,.inl ⟨_,_,rfl,run_takeDeferred hK,?_⟩⟩;refine⟨.bool false,by simp[results,Tryz.f114,go_sem,e1],Zc (by rw[←HHR.out,HA.out];rfl),hB.trans (belowK_b (w:=w) (Nat.le_refl _) _ D _ _ (by omega) hK rfl rfl)⟩
   · have HR:Hid (false=r):=Zz (by rw[←HHR.out];rfl);clear HHR;gi_wp2_with fail;have e1:=(b1.set 0 (.bool false)).Za 0 rfl;exact⟨.bool false,by simp[results,Tryz.f114,go_sem,e1],Zc HR.out,hB1.setCell (p:=⟨w.heap.size+1,0,none⟩) (by show w.heap.size≤w.heap.size+1;omega) _⟩
end
section
open Go.RowKit Go.Shelf
def rowP (b:Nat):List (Nat×Nat):=(List.range b).map fun a=>(a,b)
def pairsL (n:Nat):List (Nat×Nat):=(List.range n).flatMap rowP
theorem pairsL_next (n:Nat):pairsL (n+1)=pairsL n++rowP n:=by
 unfold pairsL;rw[List.range_succ,List.flatMap_append];simp
theorem mem_rowP {b:Nat} {x:Nat×Nat}:x ∈ rowP b↔x.1<b∧x.2=b:=by
 unfold rowP;rw[List.mem_map];constructor
 · rintro⟨a,ha,rfl⟩;exact⟨List.mem_range.1 ha,rfl⟩
 · rintro⟨h1,h2⟩;exact⟨x.1,List.mem_range.2 h1,Prod.ext rfl h2.symm⟩
theorem mem_pairsL {n:Nat} {x:Nat×Nat}:x ∈ pairsL n↔x.1<x.2∧x.2<n:=by
 unfold pairsL;rw[List.mem_flatMap];constructor
 · rintro⟨b,hb,hx⟩;have :=List.mem_range.1 hb;have :=mem_rowP.1 hx;omega
 · rintro⟨h1,h2⟩;exact⟨x.2,List.mem_range.2 h2,mem_rowP.2 ⟨h1,rfl⟩⟩
theorem pairs_some {p:Nat×Nat→Bool}:∀ {n:Nat} {x:Nat×Nat},(pairsL n).find? p=some x→x.1<x.2∧x.2<n∧p x=true∧∀y:Nat×Nat,y.1<y.2→y.2<x.2→p y=false
 |0,x,h=>by simp[pairsL] at h
 |n+1,x,h=>by
  rw[pairsL_next,List.find?_append] at h;cases e:(pairsL n).find? p with
  |some z=>
   rw[e,Option.some_or,Option.some.injEq] at h;subst h;obtain⟨h1,h2,h3,h4⟩:=pairs_some e;exact⟨h1,by omega,h3,h4⟩
  |none=>
   rw[e,Option.none_or] at h;have hm:=mem_rowP.1 (List.mem_of_find?_eq_some h);refine⟨by omega,by omega,List.find?_some h,fun y hy hb=>?_⟩;have :=List.find?_eq_none.1 e y (mem_pairsL.2 ⟨hy,by omega⟩);simpa using this
section
variable {α:Type}
def dupP (same:α→α→Bool) (l:List α) (x:Nat×Nat):Bool:=match l[x.1]?,l[x.2]? with|some a,some b=>same a b|_,_=>false
theorem dupP_at {same:α→α→Bool} {l:List α} {i j:Nat} {a b:α} (ha:l[i]? =some a) (hb:l[j]? =some b):dupP same l (i,j)=same a b:=by unfold dupP;simp only[ha,hb]
def Zv (same:α→α→Bool) (l:List α):Int×Bool:=match (pairsL l.length).find? (dupP same l) with|some x=>((x.2:Int),true)|none=>(0,false)
def NoTwo (same:α→α→Bool) (l:List α):Prop:=∀(i j:Nat) (a b:α),i<j→l[i]? =some a→l[j]? =some b→same a b=false
theorem dupP_yes {same:α→α→Bool} {l:List α} {x:Nat×Nat}:dupP same l x=true↔∃a b,l[x.1]? =some a∧l[x.2]? =some b∧same a b=true:=by
 unfold dupP;cases h1:l[x.1]? with
 |none=>simp
 |some a=>
  cases h2:l[x.2]? with
  |none=>simp
  |some b=>simp
theorem second_no {same:α→α→Bool} {l:List α}:Zv same l=(0,false)↔NoTwo same l:=by
 unfold Zv NoTwo;cases e:(pairsL l.length).find? (dupP same l) with
 |none=>
  simp only[true_iff];intro i j a b hij hi hj;have :=List.find?_eq_none.1 e (i,j) (mem_pairsL.2 ⟨hij,(List.getElem?_eq_some_iff.1 hj).1⟩);rw[Bool.not_eq_true,dupP_at hi hj] at this;exact this
 |some x=>
  simp only[Prod.mk.injEq,Bool.true_eq_false,and_false,false_iff];intro h;obtain⟨h1,h2,h3,_⟩:=pairs_some e;obtain⟨a,b,ha,hb,hs⟩:=dupP_yes.1 h3;rw[h x.1 x.2 a b h1 ha hb] at hs;cases hs
theorem NoTwo.take {same:α→α→Bool} {l:List α} (h:NoTwo same l) (n:Nat):NoTwo same (l.take n):=fun i j a b hij hi hj=>by
 rw[List.getElem?_take] at hi hj;split at hj
 · rw[if_pos (by omega)] at hi;exact h i j a b hij hi hj
 · cases hj
theorem NoTwo.nil (same:α→α→Bool):NoTwo same []:=fun i j a b _ h _=>by simp at h
end
def sameG (a b:Int×Int):Bool:=a.1==b.1&&a.2==b.2
def sameE (a b:Exm):Bool:=a.s==b.s&&a.q==b.q
def sameF (a b:Int×Int×Int×Int):Bool:=decide (a.1=b.1)&&(decide (a.2.1=b.2.1)&&decide (a.2.2.1=b.2.2.1))
end
end Go.Proofs.YtifnlhfinjfajaaGreatDoor
