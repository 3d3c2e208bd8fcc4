/- Of this seat: ShO, App11, RouT. -/
import Derived.Test.YtifnlhfinjfajaaGreatDoorK21
namespace Go.Proofs.YtifnlhfinjfajaaGreatDoor
set_option linter.unusedVariables false
set_option linter.unusedSimpArgs false
set_option maxRecDepth 100000
set_option maxHeartbeats 32000000
section
open Go.RowKit Go.Shelf
theorem append_paths14 (base:Nat) (us vs:List Pth) (v:Value) (A:Option Addr) (c Bd:Nat) (w:World) (hown:w.ownsRow base 46 3 v us.length (us.flatMap Pth.cells)) (hr:Row w Bd A (vs.flatMap Pth.cells)) (hn:us.length≤1000000) (hl:vs.length≤1000000) (hbase:base≤w.heap.size):
 ∃v' w',(Builtin.append_ #[33,33] 33 #[v,.slice A vs.length c]).run Tryz.prog w= .ok v' w'∧w'.ownsRow base 46 3 v' (us++vs).length ((us++vs).flatMap Pth.cells)∧w.grownBy w' v.ownBlock∧(v'.ownBlock=v.ownBlock∨v'.ownBlock=some w.heap.size):=by
 obtain⟨i,i1,i2,i3,i4⟩:=info_parts info_path
 cases A with
 |none=>
  obtain rfl:=flat_none (f:=Pth.cells) (size:=3) (fun _=>rfl) (by omega) hr;rcases hown.2 with ⟨rfl,_⟩|⟨g,cap,cur,rfl,h3,h4,h5,h6,h7,h8⟩
  · refine⟨.slice none 0 0,w,?_,by simpa using hown,World.grownBy.refl _ _,.inl rfl⟩;simp[Builtin.append_,run_underlying Tryz.underlying33,sizeOf,typeInfo,i1,Builtin.lenOf,Builtin.firstCells,storeCells]
  · exact⟨_,w,append_none w _ _ _ i Tryz.underlying33 i1 g _ cap c h5,by simpa using hown,World.grownBy.refl _ _,.inl rfl⟩
 |some a=>
  obtain⟨v',w',r1,r2,r3,r4,r5⟩:=run_append_own_at (P:=Tryz.prog) w base 33 33 46 i (.agg #[.int .i64 0,.int .i64 0,.slice none 0 0]) 3 40 Tryz.underlying33 i1 i2 i3 i4 rfl (by omega) v us.length _ hown a vs.length c (vs.flatMap Pth.cells) (flat_length (f:=Pth.cells) (n:=3) (fun _=>rfl) vs) (row_add hr) (fun u hu=>by
   obtain⟨x,_,hx⟩:=List.mem_flatMap.1 hu;exact onePath x u hx) (by unfold maxLen;omega) (by omega) hbase;exact⟨v',w',r1,by rw[List.length_append,List.flatMap_append];exact r2,r3,r5⟩
structure PsOwn (base:Nat) (qs:List Pth) (A:Option Addr) (c:Nat) (W:World):Prop where
 row:W.ownsRow base 46 3 (.slice A qs.length c) qs.length (qs.flatMap Pth.cells)
 each:∀q ∈ qs,stepRow W base q∧(q.ss.length:Int)≤9223372036854775807
theorem PsOwn.lies {base:Nat} {qs:List Pth} {A:Option Addr} {c:Nat} {W:World} (h:PsOwn base qs A c W):Zr qs A W:=⟨owns_row2 h.row,fun q hq=>⟨owns_row2 (h.each q hq).1,(h.each q hq).2⟩⟩
theorem PsOwn.closed (base:Nat) (qs:List Pth) (A:Option Addr) (c:Nat):Closed (PsOwn base qs A c):=fun _ _ h hb=>⟨Zh h.row hb,fun q hq=>⟨Zh (h.each q hq).1 hb,(h.each q hq).2⟩⟩
theorem PsOwn.base {base base':Nat} {qs:List Pth} {A:Option Addr} {c:Nat} {W:World} (h:PsOwn base qs A c W) (hb:base'≤base):PsOwn base' qs A c W:=⟨owns_base12 h.row hb,fun q hq=>⟨owns_base12 (h.each q hq).1 hb,(h.each q hq).2⟩⟩
theorem PsOwn.nil (base:Nat) (W:World):PsOwn base [] none 0 W:=⟨World.ownsRow_nil _ _ _ _,fun q hq=>by cases hq⟩
def blks (A:Option Addr) (c:Nat) (qs:List Pth) (k:Nat):Prop:=(Value.slice A qs.length c).ownBlock=some k∨∃q ∈ qs,blk q=some k
theorem PsOwn.keeps {base:Nat} {qs:List Pth} {A:Option Addr} {c:Nat} {W W':World} (h:PsOwn base qs A c W) {S:Nat→Prop} (hk:Keeps S W W') (hS:∀k,blks A c qs k→S k):PsOwn base qs A c W':=
 ⟨owns_keeps hk h.row fun b hb=>hS b (.inl hb),fun q hq=>⟨owns_keeps hk (h.each q hq).1 fun b hb=>hS b (.inr ⟨q,hq,hb⟩),(h.each q hq).2⟩⟩
theorem PsOwn.lt {base:Nat} {qs:List Pth} {A:Option Addr} {c:Nat} {W:World} (h:PsOwn base qs A c W) {k:Nat} (hk:blks A c qs k):base≤k∧k<W.heap.size:=by
 rcases hk with hk|⟨q,hq,hk⟩
 · exact h.row.lt k hk
 · exact(h.each q hq).1.lt k hk
theorem PsOwn.obj {base:Nat} {qs:List Pth} {A:Option Addr} {c:Nat} {W:World} (h:PsOwn base qs A c W) {k:Nat} (hk:blks A c qs k):∃cur e,W.heap[k]? =some (.cells cur e (0,0)):=by
 rcases hk with hk|⟨q,hq,hk⟩
 · obtain⟨cur,hc⟩:=owns_obj h.row hk;exact⟨cur,_,hc⟩
 · obtain⟨cur,hc⟩:=owns_obj (h.each q hq).1 hk;exact⟨cur,_,hc⟩
theorem PsOwn.mark {base:Nat} {qs:List Pth} {A:Option Addr} {c:Nat} {W:World} (h:PsOwn base qs A c W) {D:Nat} {x:Option (List Deferred)} (hD:W.heap[D]? =some (.deferred x)) (o:Obj):PsOwn base qs A c (W.putObj D o):=
 h.keeps (S:=fun k=>k≠D) (fun k ob hk ho=>(World.putObj_heap_other hk).trans ho) (fun k hk e=>by
  obtain⟨cur,e',hc⟩:=h.obj hk;rw[e,hD] at hc;cases hc)
theorem sortO14_any {l:Lay} {ps:List Pth} {A:Option Addr} (c:Nat) {w:World} (hT:Shapes w) (hL:Lies l w) (hP:Zr ps A w) (hs:∀p ∈ ps,p.ss.length≤1000) (hn:ps.length≤100000):
 Calls Tryz.prog 48 #[l.val,.slice A ps.length c] w fun e w'=>∃A' c' qs d,e= .returned (.slice A' ps.length c')∧(qs.length=ps.length∧PsOwn w.heap.size qs A' c' w')∧(d.Perm (List.range ps.length)∧Srt (Zm (cvOf (ps.map (fun p=>rowV l p.ss)))) d 0 ps.length)∧qs.map (fun q=>some (pk q))=d.map (fun i=>(ps[i]?).map pk)∧Below w.heap.size w w':=by
 obtain⟨rs,hrs⟩:∃rs,ps.map (fun p=>rowV l p.ss)=rs:=⟨_,rfl⟩
 have O:Ord12 (Zm (cvOf rs)):=ord_rows rs
 have hmk:=make_run (P:=Tryz.prog) 30 3 _ 8 Tryz.underlying30 ints_info rfl ps.length (by omega) (by omega) (w.alloc (.cells #[.slice l.As l.secs.length l.cs,.slice l.Ag l.sigs.length l.cg,.slice l.Ae l.exits.length l.ce,.slice l.Af l.flanks.length l.cf,.int .i64 l.t0,.int .i64 l.t1,.int .i64 l.t2,.int .i64 l.t3,.int .i64 l.t4,.int .i64 l.t5,.int .i64 l.t6] 29))
 rw[show(w.alloc (.cells #[.slice l.As l.secs.length l.cs,.slice l.Ag l.sigs.length l.cg,.slice l.Ae l.exits.length l.ce,.slice l.Af l.flanks.length l.cf,.int .i64 l.t0,.int .i64 l.t1,.int .i64 l.t2,.int .i64 l.t3,.int .i64 l.t4,.int .i64 l.t5,.int .i64 l.t6] 29)).heap.size=w.heap.size+1 by simp] at hmk
 obtain⟨W1,hW1⟩:∃W1,(w.alloc (.cells #[.slice l.As l.secs.length l.cs,.slice l.Ag l.sigs.length l.cg,.slice l.Ae l.exits.length l.ce,.slice l.Af l.flanks.length l.cf,.int .i64 l.t0,.int .i64 l.t1,.int .i64 l.t2,.int .i64 l.t3,.int .i64 l.t4,.int .i64 l.t5,.int .i64 l.t6] 29)).alloc (.cells (Array.replicate ps.length (Value.int .i64 0)) 3)=W1:=⟨_,rfl⟩
 have HS0:Hid (Below w.heap.size w W1∧Whole W1 w.heap.size 29 l.cells∧Whole W1 (w.heap.size+1) 3 (cel12 (List.range 0++List.replicate (ps.length - 0) 0))):=Zz (by
  rw[←hW1,←List.toArray_replicate];have e:cel12 (List.range 0++List.replicate (ps.length - 0) 0)=List.replicate ps.length (Value.int .i64 0):=by simp[cel12]
  rw[e];exact⟨below2 w _ _,(Whole.new w _ l.cells).alloc _,Whole.Zj _ _ _ _ (by simp)⟩)
 have HW1:=Zz hW1
 have HTW:Hid (∀W,Below w.heap.size w W→(Shapes W∧Lies l W)∧Zr ps A W):=Zz fun W hB=>⟨⟨Shapes.closed _ _ hT hB,Lies.closed l _ _ hL hB⟩,Zr.closed ps A _ _ hP hB⟩
 have HSL:=Zz hs
 have HRS:=Zz hrs
 have HO:=Zz O
 rw[hrs]
 clear hW1 hT hL hP hs hrs O
 go_enter Tryz.func48,Tryz.ntmps48
 go_wp2_with fail
 rw[HW1.out]
 clear hmk
 go_loopw [6,15] (fun vn vi wr=>∃j:Nat,vi= .int .i64 j∧j≤ps.length∧Hid (Below w.heap.size w wr∧Whole wr w.heap.size 29 l.cells∧Whole wr (w.heap.size+1) 3 (cel12 (List.range j++List.replicate (ps.length - j) 0))))
  (fun _ vi _=>ps.length - (intOf vi).toNat)
 case atStart=>exact⟨0,rfl,Nat.zero_le _,HS0⟩
 case round=>
  clear HS0 HW1;obtain⟨j,rfl,hj,HS⟩:=hrel;by_cases hlt:j<ps.length
  · have hlt':(j:Int)<ps.length:=by omega
    have hwi:IntKind.i64.wrap ((j:Int)+1)=(j:Int)+1:=IntWalk.i64_in _ (by omega);have c0:=Zk HS.out.2.2 (i:=j) (by simp;omega);have f0:=HS.out.2.2.frozen j;have HN:Hid (Below w.heap.size w (wr.setCell ⟨w.heap.size+1,j,none⟩ (.int .i64 (j:Int)))∧Whole (wr.setCell ⟨w.heap.size+1,j,none⟩ (.int .i64 (j:Int))) w.heap.size 29 l.cells∧Whole (wr.setCell ⟨w.heap.size+1,j,none⟩ (.int .i64 (j:Int))) (w.heap.size+1) 3 (cel12 (List.range (j+1)++List.replicate (ps.length - (j+1)) 0))):=Zz (by
     refine⟨HS.out.1.setCell (p:=⟨w.heap.size+1,j,none⟩) (by show w.heap.size≤w.heap.size+1;omega) _,HS.out.2.1.far (p:=⟨w.heap.size+1,j,none⟩) (by show w.heap.size≠w.heap.size+1;omega) _,?_⟩;rw[←range_next hlt,cel_set];exact HS.out.2.2.set j _);clear HS;go_wp2_with fail;go_roundw
    case rel=>exact⟨j+1,by go_num,hlt,HN⟩
    case measure=>simp[intOf];omega
  · obtain rfl:j=ps.length:=by omega
    obtain⟨wk,rfl⟩:∃W,W=wr:=⟨wr,rfl⟩;have hh:=HTW.out _ HS.out.1;have KO:=Zz (order_any (l:=l) c hh.1.1 hh.1.2 hh.2 HSL.out (by omega));obtain⟨x0,x1,x2,x3,x4,x5,x6,x7,x8,x9,x10⟩:=(HS.out.2.1).c11;clear hh;go_wp2_with fail;refine KO.out.mono ?_;clear KO x0 x1 x2 x3 x4 x5 x6 x7 x8 x9 x10;rintro e w1 ⟨gq,gr,ts,rfl,hR,hv,hB1⟩;have hpl:=HS.out.2.2.lt;have htl:ts.length=ps.length:=by
     have :=congrArg List.length hv;simpa [entRows] using this
    have hP0:PlcS w l wk.heap.size gq gr ts ps.length (List.range ps.length) w1:=⟨HS.out.1.trans (hB1.mono HS.out.1.size),hR,by
     have :=HS.out.2.2.below hB1 hpl;rw[Nat.sub_self,List.replicate_zero,List.append_nil] at this;exact this,List.length_range⟩;have KS:=sortStable_any (PlcS.kit w l gq gr ts ps.length hpl) (PlcS.cmp w l gq gr ts ps.length (by omega) htl) (by rw[hv,HRS.out];exact HO.out) (by omega) ps.length hP0;rw[hv,HRS.out] at KS;have KS:=Zz KS;clear hR hv hB1 htl hP0 hpl HS;go_wp2_with fail;refine KS.out.mono ?_;clear KS;rintro e w2 ⟨rfl,d,hS2,hdp,hds⟩;obtain⟨i,i1,i2,i3,i4⟩:=info_parts info_path;obtain⟨w3,hmk,hown,hg3⟩:=run_make_own (P:=Tryz.prog) w2 (w.heap.size+2) 33 46 i _ 3 Tryz.underlying33 i1 i2 i3 .i64 .i64 ps.length (by rw[i4];omega) (by unfold maxLen;omega) (by have :=hS2.places.lt;omega);have hB3:Below w2.heap.size w2 w3:=(Below.refl _ _).grown hg3 (Nat.le_refl _) (fun k e=>by cases e);have HD:=Zz (And.intro hdp hds);have hdl:d.length=ps.length:=hS2.len;have HS3:Hid (SrtS w d ps 0 (.slice (some ⟨w2.heap.size,0,none⟩) 0 ps.length) [] w3):=Zz ⟨hS2.below.trans (hB3.mono hS2.below.size),hS2.places.below hB3 hS2.places.lt,hown,fun q hq=>(by cases hq),rfl⟩;have HDL:=Zz hdl;clear hS2 hdp hds i1 i2 i3 i4 hown hg3 hB3 hdl;go_wp2_with fail;go_loopw [7,9,33] (fun vs vn vi wr=>∃(j:Nat) (qs:List Pth),vi= .int .i64 j∧j≤ps.length∧SrtS w d ps j vs qs wr)
     (fun _ _ vi _=>ps.length - (intOf vi).toNat)
    case atStart=>exact⟨0,[],rfl,Nat.zero_le _,HS3.out⟩
    case round=>
     clear HS3 hmk;obtain⟨j,qs,rfl,hj,hS⟩:=hrel;by_cases hlt:j<ps.length
     · have hlt':(j:Int)<ps.length:=by omega
       have hwi:IntKind.i64.wrap ((j:Int)+1)=(j:Int)+1:=IntWalk.i64_in _ (by omega);have c0:=Zk hS.places (i:=j) (by rw[HDL.out];exact hlt);have hit:=at_range HD.out.1 hlt;obtain⟨it,hite⟩:∃it,at12 d j=it:=⟨_,rfl⟩;rw[hite] at c0 hit;have hit':(it:Int)<ps.length:=by omega
       obtain⟨p,hp⟩:∃p,ps[it]? =some p:=⟨_,List.getElem?_eq_getElem hit⟩;have hpp:=HTW.out _ hS.below;obtain⟨b,off,rfl,_,hc0,hc⟩:=hpp.2.row.nth (n:=3) (fun _=>rfl) (by omega) hp;have d0:=hc0 it _ _ hp rfl;have d1:=hc it _ 1 _ hp rfl;have d2:=hc it _ 2 _ hp rfl;have hpm:=hpp.2.each p (List.mem_of_getElem? hp);have KW:=Zz (own12_any hpm (HSL.out p (List.mem_of_getElem? hp)));have HPI:Hid (ps[at12 d j]? =some p∧(p.ss.length:Int)≤9223372036854775807):=Zz ⟨by rw[hite];exact hp,hpm.len⟩;have HS:=Zz hS;clear hS hc0 hc hp hpp hpm hite;go_wp2_with fail;refine KW.out.mono ?_;clear KW c0 d0 d1 d2;rintro e w4 ⟨A1,c1,rfl,ho1,hB4⟩;have hb5:=below1 w4 (.cells #[.int .i64 p.s,.int .i64 p.x,.slice A1 p.ss.length c1] 46);obtain⟨v',w5,hrun,r2,r3,r4,r5⟩:=append_path (w.heap.size+2) j u7 (qs.flatMap Pth.cells) ⟨p.s,p.x,A1,c1,p.ss⟩ (w4.alloc (.cells #[.int .i64 p.s,.int .i64 p.x,.slice A1 p.ss.length c1] 46)) w4.heap.size (Zh (Zh HS.out.own hB4) hb5) (Whole.new w4 _ (Pth.cells ⟨p.s,p.x,A1,c1,p.ss⟩)) (by omega) (by have :=HS.out.places.lt;have :=hB4.size;simp;omega);have HN:=Zz (HS.out.next (by rw[HDL.out];exact hlt) HPI.out.1 HPI.out.2 hB4 ho1 r2 r3 r4 r5);clear ho1 hB4 hb5 r2 r3 r4 r5;go_wp2_with (at_builtin;refine Zo rfl (.tmp 37) (.tmp 43) 33 rfl hrun ?_);go_roundw
       case rel=>exact⟨j+1,qs++[⟨p.s,p.x,A1,c1,p.ss⟩],by go_num,hlt,HN.out⟩
       case measure=>simp[intOf];omega
     · obtain rfl:j=ps.length:=by omega
       obtain⟨A',c',hv,hr,_⟩:∃A' c',u7= .slice A' ps.length c'∧Row wr wr.heap.size A' (qs.flatMap Pth.cells)∧True:=by
        have h0:=hS.own;rcases h0.2 with ⟨e,e0⟩|⟨g,cap,cur,e,h3,h4,h5,h6,h7,h8⟩
        · refine⟨none,0,by rw[e,e0],?_,trivial⟩;have :qs.flatMap Pth.cells=[]:=List.eq_nil_of_length_eq_zero (by have :=h0.1;omega);rw[this];exact Row.nil _ _ _
        · refine⟨_,cap,e,?_,trivial⟩;exact owns_row2 (e ▸ h0)
       have HF:Hid ((qs.length=ps.length∧PsOwn w.heap.size qs A' c' wr)∧qs.map (fun q=>some (pk q))=d.map (fun i=>(ps[i]?).map pk)∧Below w.heap.size w wr):=Zz (by
        have e:=hS.vals;rw[←HDL.out,List.take_length] at e;have hql:qs.length=ps.length:=by
         have :=congrArg List.length e;rw[List.length_map,List.length_map,HDL.out] at this;exact this
        refine⟨⟨hql,⟨?_,fun q hq=>⟨owns_base12 (hS.each q hq).1 (by omega),(hS.each q hq).2.1⟩⟩⟩,e,hS.below⟩;rw[hql,←hv];exact owns_base12 hS.own (by omega));subst hv;clear hS hr;go_wp2_with fail;go_ret;exact⟨A',c',qs,d,rfl,HF.out.1,HD.out,HF.out.2.1,HF.out.2.2⟩
section
variable {α:Type} {f:α→List Value} {size:Nat}
end
abbrev intCells (v:Int):List Value:=[.int .i64 v]
theorem nums_flat (vs:List Int):vs.flatMap intCells=nums .i64 vs:=by
 unfold nums;induction vs with
 |nil=>rfl
 |cons v vs ih=>rw[List.flatMap_cons,ih];rfl
theorem und_ints:Tryz.prog.underlying 30=some (.slice (Tryz.prog.elem 30)):=by kernel_rfl
theorem size_ints (W:World):(sizeOf (Tryz.prog.elem 30)).run Tryz.prog W= .ok 1 W:=by kernel_rfl
def fromI (A:Option Addr) (c:Nat):Option Addr:=if c=1 then A else A.map (·.add (1*1))
theorem slice_fromI (A:Option Addr) (n c:Nat) (ha:1≤n) (W:World):(Instr.sliceAt 30 (.slice A n c) (some (.int .i64 1)) none none).run Tryz.prog W= .ok (.slice (fromI A c) (n - 1) (c - 1)) W:=by
 have h1:((1:Nat):Int)≤(n:Int):=by omega
 have h2:(0:Int)≤((1:Nat):Int):=by omega
 have h:(Instr.sliceAt 30 (.slice A n c) (some (.int .i64 ((1:Nat):Int))) none none).run Tryz.prog W= .ok (.slice (fromI A c) (n - 1) (c - 1)) W:=by
  rw[run_sliceAt_slice (h:=und_ints),run_slice_l (ht:=und_ints) (h0:=h2) (h1:=h1),size_ints];rfl
 exact h
theorem row_fromI {w:World} {Bd:Nat} {A:Option Addr} {v:Int} {vs:List Int} (h:Row w Bd A (nums .i64 (v::vs))) {c:Nat} (hcap:(v::vs).length≤c):Row w Bd (fromI A c) (nums .i64 vs):=by
 intro hp;obtain⟨b,off,rfl,hb,hc⟩:=h (by simp[nums]);have hac:¬c=1:=by
  intro e;rw[nums_length] at hp;simp at hcap;omega
 refine⟨b,off+1,by unfold fromI;rw[if_neg hac];simp[Addr.add],hb,fun j u hu=>?_⟩;have :=hc (j+1) u (by simpa [nums] using hu);rwa [show off+1+j=off+(j+1) by omega]
theorem num_head {w:World} {Bd:Nat} {A:Option Addr} {v:Int} {vs:List Int} (h:Row w Bd A (nums .i64 (v::vs))):∃b off,A=some ⟨b,off,none⟩∧w.cell? ⟨b,off,none⟩=some (.int .i64 v):=by
 obtain⟨b,off,e,_,hc⟩:=h (by simp[nums]);exact⟨b,off,e,hc 0 _ rfl⟩
theorem secs_at {ss:List (Int×Int×Int)} {j:Nat} {x:Int×Int×Int} (h:ss[j]? =some x):(secsS ss).drop j=x.1::(secsS ss).drop (j+1):=drop_at (by rw[List.getElem?_map,h];rfl)
theorem through11_any {p:Pth} {vs:List Int} {A:Option Addr} {c:Nat} {w:World} (hp:PLies p w) (hR:Row w w.heap.size A (nums .i64 vs)) (hcap:vs.length≤c) (hn:(vs.length:Int)≤9223372036854775807) {r:Bool} (hr:Zs (secsS p.ss) vs=r):
 Calls Tryz.prog 46 #[p.val,.slice A vs.length c] w fun e w'=>e= .returned (.bool r)∧Below w.heap.size w w':=by
 obtain⟨Q,HQ,HQb,HQp,hq⟩:=keep_box (Closed.below w) (Below.refl _ w) 46 p.cells
 have HRW:Hid (∀W,Q W→Row W W.heap.size p.A (p.ss.flatMap Ze)):=Zz fun W hW=>hp.row.on (HQb.out W hW)
 have hlen:=hp.len
 have hA:=hR.on (HQb.out _ hq)
 obtain⟨x0,x1,x2⟩:=(HQp.out _ hq).c3
 clear hp hR
 go_enter Tryz.func46,Tryz.ntmps46
 go_wp2_with fail
 go_loopw [1,10] (fun v i wr=>∃(j:Nat) (vr:List Int) (Av:Option Addr) (cv:Nat),j≤p.ss.length∧i= .int .i64 j∧v= .slice Av vr.length cv∧Q wr∧Hid (Row wr wr.heap.size Av (nums .i64 vr)∧vr.length≤cv∧(vr.length:Int)≤9223372036854775807∧Zs ((secsS p.ss).drop j) vr=r))
  (fun _ i _=>p.ss.length - (intOf i).toNat)
 case atStart=>exact⟨0,vs,A,c,by omega,rfl,rfl,hq,Zz ⟨hA,hcap,hn,hr⟩⟩
 case round=>
  clear hA hcap hn hr hq x0 x1 x2;obtain⟨j,vr,Av,cv,hj,rfl,rfl,hq,HI⟩:=hrel;obtain⟨wa,rfl⟩:∃W,W=wr:=⟨wr,rfl⟩;by_cases hlt:j<p.ss.length
  · have hlt':(j:Int)<p.ss.length:=by omega
    obtain⟨⟨x1,x2,x3⟩,hx⟩:∃x,p.ss[j]? =some x:=⟨_,List.getElem?_eq_getElem hlt⟩;have HE:=Zz (secs_at hx);obtain⟨b,off,hpA,_,hc0,hc⟩:=(HRW.out _ hq).nth (n:=3) (fun _=>rfl) (by omega) hx;have c0:=hc0 j _ _ hx rfl;have c1:=hc j _ 1 _ hx rfl;have c2:=hc j _ 2 _ hx rfl;rw[hpA];have HPA:=Zz hpA;obtain⟨gs,hgs⟩:∃gs,wa.heap.size=gs:=⟨_,rfl⟩;obtain⟨W1,hW1⟩:∃W1,wa.alloc (.cells #[.int .i64 x1,.int .i64 x2,.int .i64 x3] 66)=W1:=⟨_,rfl⟩;obtain⟨R,HRc,HRq,HRb,hR⟩:∃R:World→Prop,Hid (Closed R)∧Hid (∀W,R W→Q W)∧Hid (∀W,R W→Whole W gs 66 (Ze (x1,x2,x3))∧Row W W.heap.size Av (nums .i64 vr))∧R W1:=
     ⟨fun W=>Q W∧(Whole W gs 66 (Ze (x1,x2,x3))∧Row W W.heap.size Av (nums .i64 vr)),Zz (HQ.out.and ((Closed.whole _ _ _).and (fun _ _ h hB=>h.on hB))),Zz fun _ h=>h.1,Zz fun _ h=>h.2,by rw[←hW1];exact⟨HQ.out _ _ hq (below1 _ _),Whole.Zj _ _ (Ze (x1,x2,x3)) _ hgs.symm,HI.out.1.on (below1 _ _)⟩⟩;clear hc0 hc hx hpA hq;go_upto_region 4 with (fail)
    try rw[hW1]
    try rw[hgs]
    clear hW1 hgs c0 c1 c2;cases vr with
    |nil=>
     have HT:Hid (Zs ((secsS p.ss).drop (j+1)) []=r):=Zz (by have :=HI.out.2.2.2;rw[HE.out] at this;rw[←this,through_nil,through_nil]);have HC:=Zz HI.out.2.1;clear HI;have HBS:Hid (∀W,Below W1.heap.size W1 W→R W):=Zz (fun W hB=>HRc.out _ _ hR hB);clear hR;refine rmx W1 f11 (by kernel_rfl) (by kernel_rfl) ?_;simp only[Zg,f11,Lm,Ln];repeat ((first|(refine Zb (by rfl) ?_)|(refine mrd HBS _ (by rfl) (fun W hW=>by(have m1:=(HRb.out W hW).1;have v0:=m1.Za 0 rfl;clear m1;go_simp;first|done|with_reducible rfl)) ?_));simp only[Act.put,La,Lb,Lc])
     refine Zd (fun W hW=>?_);have hR:=HBS.out W hW;clear hW HBS;go_wp2_with fail;go_roundw
     case rel=>exact⟨j+1,[],Av,cv,hlt,by go_num,rfl,HRq.out _ hR,Zz ⟨(HRb.out _ hR).2,HC.out,by simp,HT.out⟩⟩
     case measure=>simp[intOf];omega
    |cons v vr=>
     have hz:(0:Int)<((vr.length:Nat):Int)+1:=by omega
     have hz2:(0:Int)<(((v::vr).length:Nat):Int):=by rw[List.length_cons];omega
     have HC:=Zz HI.out.2.1;have HN:=Zz HI.out.2.2.1;have HT:Hid (Zs (x1::(secsS p.ss).drop (j+1)) (v::vr)=r):=Zz (by have :=HI.out.2.2.2;rw[HE.out] at this;exact this);obtain⟨b2,o2,hAv,_⟩:=num_head (HRb.out _ hR).2;have HVC:Hid (∀W,R W→W.cell? ⟨b2,o2,none⟩=some (.int .i64 v)):=Zz fun W hW=>by
      obtain⟨b',o',e,h⟩:=num_head (HRb.out _ hW).2;rw[hAv] at e;cases e;exact h
     have HAV:=Zz hAv;clear HI;by_cases hv:v=x1
     · have HT':Hid (Zs ((secsS p.ss).drop (j+1)) vr=r):=Zz (by have :=HT.out;rw[through_cons,if_pos hv.symm] at this;exact this);have hve:(v==x1)=true:=by simp[hv]
       rw[hAv];clear hv HT hAv;have HBS:Hid (∀W,Below W1.heap.size W1 W→R W):=Zz (fun W hB=>HRc.out _ _ hR hB);clear hR;refine rmx W1 f11 (by kernel_rfl) (by kernel_rfl) ?_;simp only[Zg,f11,Lm,Ln];repeat ((first|(refine Zb (by rfl) ?_)|(refine mrd HBS _ (by rfl) (fun W hW=>by(have m1:=(HRb.out W hW).1;have v0:=m1.Za 0 rfl;clear m1;have d0:=HVC.out W hW;go_simp;first|done|with_reducible rfl)) ?_));simp only[Act.put,La,Lb,Lc])
       refine Zd (fun W hW=>?_);have hR:=HBS.out W hW;have hrun:=slice_fromI (some ⟨b2,o2,none⟩) (vr.length+1) cv (by omega) W;clear hW HBS;go_wp2_with (refine list_slice rfl 30 (.tmp 25) (some (.const (.int .i64 1))) none none rfl hrun ?_);go_roundw
       case rel=>exact⟨j+1,vr,fromI (some ⟨b2,o2,none⟩) cv,cv - 1,hlt,by go_num,by simp,HRq.out _ hR,Zz ⟨by rw[←HAV.out];exact row_fromI (HRb.out _ hR).2 HC.out,by have :=HC.out;simp at this;omega,by have :=HN.out;simp at this;omega,HT'.out⟩⟩
       case measure=>simp[intOf];omega
     · have HT':Hid (Zs ((secsS p.ss).drop (j+1)) (v::vr)=r):=Zz (by have :=HT.out;rw[through_cons,if_neg (fun e=>hv e.symm)] at this;exact this);have hve:(v==x1)=false:=by simp[hv]
       rw[hAv];clear hv HT hAv;have HBS:Hid (∀W,Below W1.heap.size W1 W→R W):=Zz (fun W hB=>HRc.out _ _ hR hB);clear hR;refine rmx W1 f11 (by kernel_rfl) (by kernel_rfl) ?_;simp only[Zg,f11,Lm,Ln];repeat ((first|(refine Zb (by rfl) ?_)|(refine mrd HBS _ (by rfl) (fun W hW=>by(have m1:=(HRb.out W hW).1;have v0:=m1.Za 0 rfl;clear m1;have d0:=HVC.out W hW;go_simp;first|done|with_reducible rfl)) ?_));simp only[Act.put,La,Lb,Lc])
       refine Zd (fun W hW=>?_);have hR:=HBS.out W hW;clear hW HBS;go_wp2_with fail;go_roundw
       case rel=>exact⟨j+1,v::vr,some ⟨b2,o2,none⟩,cv,hlt,by go_num,rfl,HRq.out _ hR,Zz ⟨by rw[←HAV.out];exact(HRb.out _ hR).2,HC.out,HN.out,HT'.out⟩⟩
       case measure=>simp[intOf];omega
  · obtain rfl:j=p.ss.length:=by omega
    have HB:=Zz (HQb.out _ hq);cases vr with
    |nil=>
     have HT:Hid (true=r):=Zz (by rw[←HI.out.2.2.2,through_nil]);clear HI;go_wp2_with fail;go_ret;exact⟨Zc HT.out,HB.out⟩
    |cons v vr=>
     have HT:Hid (false=r):=Zz (by rw[←HI.out.2.2.2,List.drop_eq_nil_of_le (by simp)];rfl);have hz:((((v::vr).length:Nat):Int)==0)=false:=by rw[beq_eq_false_iff_ne];simp;omega
     have hz2:((vr.length:Int)+1==0)=false:=by rw[beq_eq_false_iff_ne];omega
     clear HI;go_wp2_with fail;go_ret;exact⟨Zc HT.out,HB.out⟩
end
end Go.Proofs.YtifnlhfinjfajaaGreatDoor
