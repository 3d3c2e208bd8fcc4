/- Of this seat: RnkE, StbQ, StbA, StbB. -/
import Derived.Test.YtifnlhfinjfajaaGreatDoorK15
namespace Go.Proofs.YtifnlhfinjfajaaGreatDoor
set_option linter.unusedVariables false
set_option linter.unusedSimpArgs false
set_option maxRecDepth 100000
set_option maxHeartbeats 32000000
section
open Go.RowKit Go.Shelf
structure Zr (ps:List Pth) (A:Option Addr) (W:World):Prop where
 row:Row W W.heap.size A (ps.flatMap Pth.cells)
 each:∀p ∈ ps,PLies p W
theorem Zr.closed (ps:List Pth) (A:Option Addr):Closed (Zr ps A):=fun w w' h hb=>⟨h.row.on hb,fun p hp=>PLies.closed p _ _ (h.each p hp) hb⟩
theorem info_ints:(Tryz.prog.info? 30).map (fun i=>(i.zero,i.size,i.bytes))=some (some (Value.slice none 0 0),1,24):=by kernel_rfl
structure OrdS (w:World) (l:Lay) (ps:List Pth) (j:Nat) (ts:List Ent) (W:World):Prop where
 below:Below w.heap.size w W
 lay:Whole W w.heap.size 29 l.cells
 box:Whole W (w.heap.size+1+1) 181 [.slice (some ⟨w.heap.size+1,0,none⟩) ps.length ps.length]
 tab:Whole W (w.heap.size+1) 30 (entCells ts++List.replicate (ps.length - j) (Value.slice none 0 0))
 rows:∀t ∈ ts,W.ownsRow (w.heap.size+3) 3 1 (entCell t) t.2.2.length (nums .i64 t.2.2)∧t.2.2.length≤1099511627776
 vals:entRows ts=(ps.take j).map (fun p=>rowV l p.ss)
theorem OrdS.closed (w:World) (l:Lay) (ps:List Pth) (j:Nat) (ts:List Ent):Closed (OrdS w l ps j ts):=fun W W' h hb=>
 ⟨h.below.trans (hb.mono h.below.size),h.lay.below hb h.lay.lt,h.box.below hb h.box.lt,h.tab.below hb h.tab.lt,fun t ht=>⟨ownsV_keep (h.rows t ht).1 hb,(h.rows t ht).2⟩,h.vals⟩
theorem OrdS.len {w:World} {l:Lay} {ps:List Pth} {j:Nat} {ts:List Ent} {W:World} (h:OrdS w l ps j ts W) (hj:j≤ps.length):ts.length=j:=by
 have e:=congrArg List.length h.vals;unfold entRows at e;rw[List.length_map,List.length_map,List.length_take] at e;omega
theorem rep_succ {α:Type} {n j:Nat} (h:j<n) (x:α):List.replicate (n - j) x=x::List.replicate (n - (j+1)) x:=by
 rw[show n - j=(n - (j+1))+1 by omega,List.replicate_succ]
theorem OrdS.next {w:World} {l:Lay} {ps:List Pth} {j:Nat} {ts:List Ent} {W:World} (h:OrdS w l ps j ts W) (hj:j<ps.length) {p:Pth} (hp:ps[j]? =some p) {A:Option Addr} {c:Nat} (hown:W.ownsRow (w.heap.size+3) 3 1 (.slice A (rowV l p.ss).length c) (rowV l p.ss).length (nums .i64 (rowV l p.ss))) (hn:(rowV l p.ss).length≤1099511627776):
 OrdS w l ps (j+1) (ts++[(A,c,rowV l p.ss)]) (W.setCell ⟨w.heap.size+1,j,none⟩ (.slice A (rowV l p.ss).length c)):=by
 have hl:=h.len (Nat.le_of_lt hj)
 refine⟨h.below.setCell (p:=⟨w.heap.size+1,j,none⟩) (by show w.heap.size≤w.heap.size+1;omega) _,h.lay.far (p:=⟨w.heap.size+1,j,none⟩) (by show w.heap.size≠w.heap.size+1;omega) _,h.box.far (p:=⟨w.heap.size+1,j,none⟩) (by show w.heap.size+1+1≠w.heap.size+1;omega) _,?_,fun t ht=>?_,?_⟩
 · have hs:=h.tab.set j (.slice A (rowV l p.ss).length c);rw[rep_succ hj] at hs;have e:(entCells ts++(Value.slice none 0 0)::List.replicate (ps.length - (j+1)) (Value.slice none 0 0)).set j (.slice A (rowV l p.ss).length c)=entCells (ts++[(A,c,rowV l p.ss)])++List.replicate (ps.length - (j+1)) (Value.slice none 0 0):=by
    have e1:(entCells ts).length=j:=by unfold entCells;rw[List.length_map,hl]
    rw[List.set_append_right _ _ (by omega),e1,Nat.sub_self];unfold entCells;rw[List.map_append];simp[entCell]
   rw[e] at hs;exact hs
 · rcases List.mem_append.1 ht with ht|ht
   · exact⟨owns_setFar (h.rows t ht).1 j (fun b hb=>by have :=((h.rows t ht).1.lt b hb).1;omega) _,(h.rows t ht).2⟩
   · obtain rfl:t=(A,c,rowV l p.ss):=by simpa using ht
     exact⟨owns_setFar hown j (fun b hb=>by have :=(hown.lt b hb).1;omega) _,hn⟩
 · unfold entRows;rw[List.map_append,List.take_add_one,hp,Option.toList_some,List.map_append];have :=h.vals;unfold entRows at this;rw[this];rfl
theorem order_any {l:Lay} {ps:List Pth} {A:Option Addr} (c:Nat) {w:World} (hT:Shapes w) (hL:Lies l w) (hP:Zr ps A w) (hs:∀p ∈ ps,p.ss.length≤1000) (hn:ps.length≤1000000):
 Calls Tryz.prog 80 #[l.val,.slice A ps.length c] w fun e w'=>∃gq gr ts,e= .returned (.func (.func 139) #[] #[.pointer (some ⟨gq,0,none⟩)])∧RowsAt w.heap.size gq gr ts w'∧entRows ts=ps.map (fun p=>rowV l p.ss)∧Below w.heap.size w w':=by
 have hmk:=make_run (P:=Tryz.prog) 181 30 _ 24 Tryz.underlying181 info_ints rfl ps.length (by omega) (by omega) (w.alloc (.cells #[.slice l.As l.secs.length l.cs,.slice l.Ag l.sigs.length l.cg,.slice l.Ae l.exits.length l.ce,.slice l.Af l.flanks.length l.cf,.int .i64 l.t0,.int .i64 l.t1,.int .i64 l.t2,.int .i64 l.t3,.int .i64 l.t4,.int .i64 l.t5,.int .i64 l.t6] 29))
 obtain⟨W2,hW2⟩:∃W2,((w.alloc (.cells #[.slice l.As l.secs.length l.cs,.slice l.Ag l.sigs.length l.cg,.slice l.Ae l.exits.length l.ce,.slice l.Af l.flanks.length l.cf,.int .i64 l.t0,.int .i64 l.t1,.int .i64 l.t2,.int .i64 l.t3,.int .i64 l.t4,.int .i64 l.t5,.int .i64 l.t6] 29)).alloc (.cells (Array.replicate ps.length (Value.slice none 0 0)) 30)).alloc (.cells #[.slice (some ⟨w.heap.size+1,0,none⟩) ps.length ps.length] 181)=W2:=⟨_,rfl⟩
 have HS0:Hid (OrdS w l ps 0 [] W2):=Zz (by
  rw[←hW2,←List.toArray_replicate];exact⟨below3 w _ _ _,((Whole.new w _ l.cells).alloc _).alloc _,Whole.Zj _ _ [_] _ (by simp),(Whole.Zj (w.alloc (.cells #[.slice l.As l.secs.length l.cs,.slice l.Ag l.sigs.length l.cg,.slice l.Ae l.exits.length l.ce,.slice l.Af l.flanks.length l.cf,.int .i64 l.t0,.int .i64 l.t1,.int .i64 l.t2,.int .i64 l.t3,.int .i64 l.t4,.int .i64 l.t5,.int .i64 l.t6] 29)) _ (List.replicate ps.length (Value.slice none 0 0)) _ (by simp)).alloc _,fun t ht=>(by cases ht),rfl⟩)
 have HW2:=Zz hW2
 have HTW:Hid (∀W,Below w.heap.size w W→(Shapes W∧Lies l W)∧Zr ps A W):=Zz fun W hB=>⟨⟨Shapes.closed _ _ hT hB,Lies.closed l _ _ hL hB⟩,Zr.closed ps A _ _ hP hB⟩
 have HSL:=Zz hs
 clear hW2 hT hL hP hs
 rw[show(w.alloc (.cells #[.slice l.As l.secs.length l.cs,.slice l.Ag l.sigs.length l.cg,.slice l.Ae l.exits.length l.ce,.slice l.Af l.flanks.length l.cf,.int .i64 l.t0,.int .i64 l.t1,.int .i64 l.t2,.int .i64 l.t3,.int .i64 l.t4,.int .i64 l.t5,.int .i64 l.t6] 29)).heap.size=w.heap.size+1 by simp] at hmk
 go_enter Tryz.func80,Tryz.ntmps80
 go_wp2_with fail
 rw[HW2.out]
 clear hmk
 go_loopw [6,7,13] (fun vn vp vi wr=>∃(j:Nat) (ts:List Ent),vi= .int .i64 j∧j≤ps.length∧OrdS w l ps j ts wr)
  (fun _ _ vi _=>ps.length - (intOf vi).toNat)
 case atStart=>exact⟨0,[],rfl,Nat.zero_le _,HS0.out⟩
 case round=>
  clear HS0 HW2;obtain⟨j,ts,rfl,hj,hS⟩:=hrel;by_cases hlt:j<ps.length
  · have hlt':(j:Int)<ps.length:=by omega
    obtain⟨p,hp⟩:∃p,ps[j]? =some p:=⟨_,List.getElem?_eq_getElem hlt⟩;obtain⟨b,off,rfl,_,hc0,hc⟩:=(HTW.out _ hS.below).2.row.nth (n:=3) (fun _=>rfl) (by omega) hp;have c0:=hc0 j _ _ hp rfl;have c1:=hc j _ 1 _ hp rfl;have c2:=hc j _ 2 _ hp rfl;obtain⟨xs,hxs⟩:∃xs,rowV l p.ss=xs:=⟨_,rfl⟩;have hsl:=HSL.out p (List.mem_of_getElem? hp);have hxl:xs.length≤1099511627776:=by rw[←hxs];have :=row_len l p.ss;omega
    have HP:=Zz (And.intro hp (And.intro hxs (And.intro hsl hxl)));have hwi:IntKind.i64.wrap ((j:Int)+1)=(j:Int)+1:=IntWalk.i64_in _ (by omega);have HS:=Zz hS;clear hc0 hc hp hxs hsl hxl hS;go_upto_region 5 with (fail)
    clear c0 c1 c2;obtain⟨W3,hW3⟩:∃W3,wr.alloc (.cells #[.int .i64 p.s,.int .i64 p.x,.slice p.A p.ss.length p.c] 46)=W3:=⟨_,rfl⟩;have hS3:OrdS w l ps j ts W3∧Whole W3 wr.heap.size 46 p.cells:=by rw[←hW3];exact⟨OrdS.closed _ _ _ _ _ _ _ HS.out (below1 _ _),Whole.new _ _ p.cells⟩
    have hgp:w.heap.size+3≤wr.heap.size:=by have :=HS.out.box.lt;omega
    try rw[hW3]
    obtain⟨gp,hgp'⟩:∃gp,wr.heap.size=gp:=⟨_,rfl⟩;rw[hgp'] at hS3 hgp;try rw[hgp']
    clear hW3 hgp' HS;have HC:Hid (Closed fun W=>OrdS w l ps j ts W∧Whole W gp 46 p.cells):=Zz ((OrdS.closed _ _ _ _ _).and (Closed.whole _ _ _));have KR:Hid (∀W,OrdS w l ps j ts W→Calls Tryz.prog 138 #[l.val,p.val] W fun e w'=>∃x:Option Addr×Nat,e= .returned (.slice x.1 xs.length x.2)∧w'.ownsRow (w.heap.size+3) 3 1 (.slice x.1 xs.length x.2) xs.length (nums .i64 xs)∧Below W.heap.size W w'):=Zz fun W hW=>by
     have hh:=HTW.out _ hW.below;refine(row_any hh.1.1 hh.1.2 (hh.2.each p (List.mem_of_getElem? HP.out.1)) HP.out.2.2.1 HP.out.2.1).mono ?_;rintro e w' ⟨A1,c1,rfl,hown,hB⟩;exact⟨(A1,c1),rfl,owns_base12 hown (by have :=hW.box.lt;omega),hB⟩
    refine region_mix (fun W=>(Whole W (w.heap.size+1+1) 181 [.slice (some ⟨w.heap.size+1,0,none⟩) ps.length ps.length]∧Whole W w.heap.size 29 l.cells)∧Whole W gp 46 p.cells) [(0,false),(1,false),(2,false),(3,false),(4,true),(5,false),(6,true)] (by kernel_rfl) (by kernel_rfl) (fun W=>OrdS w l ps j ts W∧Whole W gp 46 p.cells) ⟨HC.out,fun W h=>⟨⟨h.1.box,h.1.lay⟩,h.2⟩⟩ (HC.out.drew hS3) ?_;clear hS3;simp only[Zg,Lm,Ln];repeat ((first|(refine Zb (by rfl) ?_)|(refine Zn _ (by rfl) (fun W hW=>by(have q0:=hW.1.1.Za 0 rfl;have x0:=hW.1.2.Za 0 rfl;have x1:=hW.1.2.Za 1 rfl;have x2:=hW.1.2.Za 2 rfl;have x3:=hW.1.2.Za 3 rfl;have x4:=hW.1.2.Za 4 rfl;have x5:=hW.1.2.Za 5 rfl;have x6:=hW.1.2.Za 6 rfl;have x7:=hW.1.2.Za 7 rfl;have x8:=hW.1.2.Za 8 rfl;have x9:=hW.1.2.Za 9 rfl;have x10:=hW.1.2.Za 10 rfl;have y0:=hW.2.Za 0 rfl;have y1:=hW.2.Za 1 rfl;have y2:=hW.2.Za 2 rfl;clear hW;go_simp;first|done|with_reducible rfl)) ?_));simp only[Act.put,La,Lb,Lc])
    refine mix_meet (fun x:Option Addr×Nat=>.slice x.1 xs.length x.2) (fun x W=>W.ownsRow (w.heap.size+3) 3 1 (.slice x.1 xs.length x.2) xs.length (nums .i64 xs)) ⟨HC.out,fun W h=>⟨⟨h.1.box,h.1.lay⟩,h.2⟩⟩ (fun x W W' h hb=>ownsV_keep h hb) _ _ (by rfl) (fun W hW=>by(clear hW;go_simp;first|done|rfl)) (fun W hW=>KR.out W hW.1) (fun x=>?_);simp only[Act.put,La,Lb,Lc];repeat ((first|(refine Zn _ (by rfl) (fun W hW=>by(clear hW;go_simp;first|done|with_reducible rfl)) ?_));simp only[Act.put,La,Lb,Lc])
    refine mix_store (fun W=>OrdS w l ps (j+1) (ts++[(x.1,x.2,xs)]) W∧Whole W gp 46 p.cells) (fun W=>W.setCell ⟨w.heap.size+1,j,none⟩ (.slice x.1 xs.length x.2)) ⟨(OrdS.closed _ _ _ _ _).and (Closed.whole _ _ _),fun W h=>⟨⟨h.1.box,h.1.lay⟩,h.2⟩⟩ (by rfl) (fun W hW=>by
     have hlj:=hW.1.1.len (Nat.le_of_lt hlt);have c0:=hW.1.1.tab.Za j (v:=(Value.slice none 0 0)) (by rw[List.getElem?_append_right (by unfold entCells;rw[List.length_map];omega),rep_succ hlt];unfold entCells;rw[List.length_map,hlj,Nat.sub_self];rfl);have f0:=hW.1.1.tab.frozen j;clear hW hlj;go_simp
     first|done|with_reducible rfl) (fun W hW=>⟨by
      have hN:=hW.1.1.next hlt HP.out.1 (A:=x.1) (c:=x.2) (by rw[HP.out.2.1];exact hW.2) (by rw[HP.out.2.1];exact HP.out.2.2.2);rw[HP.out.2.1] at hN;exact hN,hW.1.2.far (p:=⟨w.heap.size+1,j,none⟩) (by show gp≠w.heap.size+1;omega) _⟩) ?_;simp only[Act.put,La,Lb,Lc];refine Zd (fun W hW=>?_);have HN:=Zz hW.1;clear hW;go_wp2_with fail;go_roundw
    case rel=>exact⟨j+1,ts++[(x.1,x.2,xs)],by go_num,hlt,HN.out⟩
    case measure=>simp[intOf];omega
  · obtain rfl:j=ps.length:=by omega
    have HF:Hid (RowsAt w.heap.size (w.heap.size+1+1) (w.heap.size+1) ts wr∧entRows ts=ps.map (fun p=>rowV l p.ss)∧Below w.heap.size w wr):=Zz (by
     have hl:=hS.len (Nat.le_refl _);refine⟨⟨by rw[hl];exact hS.box,?_,fun t ht=>⟨owns_base12 (hS.rows t ht).1 (by omega),(hS.rows t ht).2⟩,by omega⟩,by rw[hS.vals,List.take_length],hS.below⟩;have :=hS.tab;rw[Nat.sub_self,List.replicate_zero,List.append_nil] at this;exact this);clear hS;go_wp2_with fail;go_ret;exact⟨_,_,ts,rfl,HF.out.1,HF.out.2.1,HF.out.2.2⟩
end
section
theorem div_in {bs t i:Nat} (hb:0<bs) (h1:bs*t≤i) (h2:i<bs*t+bs):i/bs=t:=by
 obtain⟨r,rfl⟩:=Nat.exists_eq_add_of_le h1;rw[Nat.mul_add_div hb,Nat.div_eq_of_lt (by omega),Nat.add_zero]
theorem div_out {bs t i:Nat} (hb:0<bs) (h:i/bs=t):bs*t≤i∧i<bs*t+bs:=by
 subst h;have h1:=Nat.div_add_mod i bs;have h2:=Nat.mod_lt i hb;omega
theorem lt_of_div {bs x y:Nat} (h:x/bs<y/bs):x<y:=by
 refine Nat.lt_of_not_le fun hn=>?_;have :=Nat.div_le_div_right (c:=bs) hn;omega
def InB (bs:Nat) (d:List Nat) (n:Nat):Prop:=∀i,i<n→at12 d i/bs=i/bs
def Up (lt:Nat→Nat→Bool) (bs:Nat) (d:List Nat) (c:Nat):Prop:=∀i j,i<j→j<c→i/bs=j/bs→LL lt (at12 d i) (at12 d j)
theorem inB_mv {bs t a b n:Nat} {d d':List Nat} (hb:0<bs) (h:InB bs d n) (ha:a=bs*t) (hab:b≤a+bs) (hbn:b≤n) (m:Mv12 a b d d'):InB bs d' n:=by
 intro i hi;by_cases hi2:a≤i∧i<b
 · obtain⟨j,j1,j2,e⟩:=m.src i hi2.1 hi2.2;rw[e,h j (by omega),div_in hb (t:=t) (by omega) (by omega),div_in hb (t:=t) (by omega) (by omega)]
 · rw[m.out i (by omega)];exact h i hi
theorem up_mv {lt:Nat→Nat→Bool} {bs t a b:Nat} {d d':List Nat} (hb:0<bs) (h:Up lt bs d a) (ha:a=bs*t) (hab:b≤a+bs) (m:Mv12 a b d d') (hs:Srt lt d' a b):Up lt bs d' b:=by
 intro i j hij hj he;by_cases hja:j<a
 · rw[m.out i (.inl (by omega)),m.out j (.inl hja)];exact h i j hij hja he
 · have h1:=div_in hb (t:=t) (i:=j) (by omega) (by omega);have h2:=div_out hb (he.trans h1);exact hs i j (by omega) hij hj
structure One12 (lt:Nat→Nat→Bool) (bs n a:Nat) (d:List Nat):Prop where
 perm:d.Perm (List.range n)
 at_a:∃t,a=bs*t
 an:a≤n
 rest:∀i,a≤i→i<n→at12 d i=i
 inb:InB bs d n
 up:Up lt bs d a
theorem one_start {lt:Nat→Nat→Bool} {bs n:Nat}:One12 lt bs n 0 (List.range n):=by
 have h:∀i,i<n→at12 (List.range n) i=i:=fun i hi=>by unfold at12;rw[List.getElem?_range hi];rfl
 exact⟨List.Perm.refl _,⟨0,rfl⟩,Nat.zero_le _,fun i _ hi=>h i hi,fun i hi=>by rw[h i hi],fun i j _ hj _=>by omega⟩
theorem one_next {lt:Nat→Nat→Bool} {bs n a b:Nat} {d d':List Nat} (hb:0<bs) (h:One12 lt bs n a d) (hab:b=a+bs) (hbn:b≤n) (m:Mv12 a b d d') (hs:Srt lt d' a b):One12 lt bs n b d':=by
 obtain⟨t,ht⟩:=h.at_a;exact⟨m.perm.trans h.perm,⟨t+1,by rw[hab,ht,Nat.mul_add,Nat.mul_one]⟩,hbn,fun i h1 h2=>by rw[m.out i (.inr h1)];exact h.rest i (by omega) h2,inB_mv hb h.inb ht (by omega) hbn m,up_mv hb h.up ht (by omega) m hs⟩
theorem one_last {lt:Nat→Nat→Bool} {bs n a:Nat} {d d':List Nat} (hb:0<bs) (h:One12 lt bs n a d) (hn:n<a+bs) (m:Mv12 a n d d') (hs:Srt lt d' a n):d'.Perm (List.range n)∧InB bs d' n∧Up lt bs d' n:=by
 obtain⟨t,ht⟩:=h.at_a;exact⟨m.perm.trans h.perm,inB_mv hb h.inb ht (by omega) (Nat.le_refl _) m,up_mv hb h.up ht (by omega) m hs⟩
structure Two12 (lt:Nat→Nat→Bool) (bs n a:Nat) (d:List Nat):Prop where
 perm:d.Perm (List.range n)
 at_a:∃t,a=bs*2*t
 an:a≤n
 inb:InB (bs*2) d n
 up:Up lt (bs*2) d a
 rin:∀i,a≤i→i<n→at12 d i/bs=i/bs
 rup:∀i j,a≤i→i<j→j<n→i/bs=j/bs→LL lt (at12 d i) (at12 d j)
theorem two_start {lt:Nat→Nat→Bool} {bs n:Nat} {d:List Nat} (hp:d.Perm (List.range n)) (h:InB bs d n) (k:Up lt bs d n):Two12 lt bs n 0 d:=
 ⟨hp,⟨0,rfl⟩,Nat.zero_le _,fun i hi=>by rw[←Nat.div_div_eq_div_mul,←Nat.div_div_eq_div_mul,h i hi],fun i j _ hj _=>by omega,fun i _ hi=>h i hi,fun i j _ hij hj he=>k i j hij hj he⟩
theorem two_parts {lt:Nat→Nat→Bool} {bs n a e:Nat} {d:List Nat} (hb:0<bs) (h:Two12 lt bs n a d) (he:e≤a+bs*2) (hen:e≤n):Srt lt d a (min (a+bs) n)∧Srt lt d (a+bs) e∧Rise d a (a+bs) e:=by
 obtain⟨t,ht⟩:=h.at_a;have e1:bs*(2*t)=a:=by rw[ht,Nat.mul_assoc]
 have e2:bs*(2*t+1)=a+bs:=by rw[Nat.mul_add,e1,Nat.mul_one]
 have d1:∀i,a≤i→i<a+bs→i/bs=2*t:=fun i h1 h2=>div_in hb (by omega) (by omega);have d2:∀i,a+bs≤i→i<a+bs*2→i/bs=2*t+1:=fun i h1 h2=>div_in hb (by omega) (by omega);refine⟨fun i j h1 h2 h3=>h.rup i j h1 h2 (by omega) (by rw[d1 i h1 (by omega),d1 j (by omega) (by omega)]),fun i j h1 h2 h3=>h.rup i j (by omega) h2 (by omega) (by rw[d2 i h1 (by omega),d2 j (by omega) (by omega)]),fun x y x1 x2 y1 y2=>?_⟩;refine lt_of_div (bs:=bs) ?_;rw[h.rin x x1 (by omega),h.rin y (by omega) (by omega),d1 x x1 x2,d2 y y1 (by omega)];omega
theorem two_next {lt:Nat→Nat→Bool} {bs n a b:Nat} {d d':List Nat} (hb:0<bs) (h:Two12 lt bs n a d) (hab:b=a+bs*2) (hbn:b≤n) (m:Mv12 a b d d') (hs:Srt lt d' a b):Two12 lt bs n b d':=by
 obtain⟨t,ht⟩:=h.at_a;exact⟨m.perm.trans h.perm,⟨t+1,by rw[hab,ht,Nat.mul_add,Nat.mul_one]⟩,hbn,inB_mv (by omega) h.inb ht (by omega) hbn m,up_mv (by omega) h.up ht (by omega) m hs,fun i h1 h2=>by rw[m.out i (.inr h1)];exact h.rin i (by omega) h2,fun i j h1 h2 h3 he=>by
  rw[m.out i (.inr h1),m.out j (.inr (by omega))];exact h.rup i j (by omega) h2 h3 he⟩
theorem two_last {lt:Nat→Nat→Bool} {bs n a:Nat} {d d':List Nat} (hb:0<bs) (h:Two12 lt bs n a d) (hn:n<a+bs*2) (m:Mv12 a n d d') (hs:Srt lt d' a n):d'.Perm (List.range n)∧InB (bs*2) d' n∧Up lt (bs*2) d' n:=by
 obtain⟨t,ht⟩:=h.at_a;exact⟨m.perm.trans h.perm,inB_mv (by omega) h.inb ht (by omega) (Nat.le_refl _) m,up_mv (by omega) h.up ht (by omega) m hs⟩
theorem two_short {lt:Nat→Nat→Bool} {bs n a:Nat} {d:List Nat} (hb:0<bs) (h:Two12 lt bs n a d) (hn:n≤a+bs):d.Perm (List.range n)∧InB (bs*2) d n∧Up lt (bs*2) d n:=by
 refine⟨h.perm,h.inb,fun i j hij hj he=>?_⟩;obtain⟨t,ht⟩:=h.at_a;by_cases hja:j<a
 · exact h.up i j hij hja he
 · have h1:=div_in (bs:=bs*2) (by omega) (t:=t) (i:=j) (by omega) (by omega);have h2:=div_out (bs:=bs*2) (by omega) (he.trans h1);have hs:=(two_parts hb h (e:=n) (by omega) (Nat.le_refl _)).1;exact hs i j (by omega) hij (by rw[Nat.min_eq_right hn];exact hj)
theorem two_done {lt:Nat→Nat→Bool} {bs n:Nat} {d:List Nat} (hn:n≤bs) (h:Up lt bs d n):Srt lt d 0 n:=fun i j _ hij hj=>h i j hij hj (by rw[Nat.div_eq_of_lt (by omega),Nat.div_eq_of_lt (by omega)])
end
section
open Go.RowKit Go.Shelf
def cel12 (d:List Nat):List Value:=d.map fun(x:Nat)=>.int .i64 (x:Int)
theorem cel_at {d:List Nat} {i:Nat} (h:i<d.length):(cel12 d)[i]? =some (.int .i64 (at12 d i:Int)):=by
 unfold cel12;rw[List.getElem?_map,List.getElem?_eq_getElem h,at_lt h];rfl
theorem Zk {W:World} {g:Nat} {t:TypeId} {d:List Nat} {i:Nat} (h:Whole W g t (cel12 d)) (hi:i<d.length):W.cell? ⟨g,i,none⟩=some (.int .i64 (at12 d i:Int)):=h.Za i (cel_at hi)
theorem cel_set (d:List Nat) (i v:Nat):cel12 (d.set i v)=(cel12 d).set i (.int .i64 (v:Int)):=by unfold cel12;rw[List.map_set]
structure Kit12 (S:List Nat→World→Prop) (g n:Nat):Prop where
 closed:∀d,Closed (S d)
 whole:∀d W,S d W→Whole W g 3 (cel12 d)
 len:∀d W,S d W→d.length=n
 set:∀d W i v,S d W→i<d.length→S (d.set i v) (W.setCell ⟨g,i,none⟩ (.int .i64 (v:Int)))
theorem swapRange_any {S:List Nat→World→Prop} {g n:Nat} (K:Kit12 S g n) {d:List Nat} (hn:n≤1099511627776) (a b c cap:Nat) (hab:a+c≤b) (hbn:b+c≤n) (fv:Value) {w:World} (h:S d w):
 Calls Tryz.prog 207 #[.slice (some ⟨g,0,none⟩) n cap,.int .i64 a,.int .i64 b,.int .i64 c,fv] w fun e w'=>e= .returned (.tuple #[])∧∃d',S d' w'∧d'.Perm d∧∀k,at12 d' k=chg12 (at12 d) a b c k:=by
 replace K:=Zz K
 go_enter Tryz.func207,Tryz.ntmps207
 go_wp2_with fail
 go_loopw [10] (fun i wr=>∃(j:Nat) (dj:List Nat),j≤c∧i= .int .i64 j∧S dj wr∧Hid (dj.Perm d∧∀k,at12 dj k=chg12 (at12 d) a b j k))
  (fun i _=>c - (intOf i).toNat)
 case atStart=>exact⟨0,d,by omega,rfl,h,Zz ⟨List.Perm.refl _,fun k=>(chg_zero _ _ _ _).symm⟩⟩
 case round=>
  clear h;obtain⟨j,dj,hj,rfl,hS,HJ⟩:=hrel;by_cases hlt:j<c
  · have hlt':(j:Int)<c:=by omega
    have hln:=K.out.len _ _ hS;obtain⟨p,hp⟩:∃p:Nat,p=a+j:=⟨_,rfl⟩;obtain⟨q,hq⟩:∃q:Nat,q=b+j:=⟨_,rfl⟩;have HN:Hid ((swp12 dj p q).Perm d∧∀k,at12 (swp12 dj p q) k=chg12 (at12 d) a b (j+1) k):=Zz (by
     subst hp hq;exact⟨(swp_perm (by omega) (by omega)).trans HJ.out.1,chg_next HJ.out.2 (by omega) (by omega) rfl⟩);have rp:IntKind.i64.wrap ((a:Int)+(j:Int))=(p:Int):=by rw[IntKind.wrap_i64];omega
    have rq:IntKind.i64.wrap ((b:Int)+(j:Int))=(q:Int):=by rw[IntKind.wrap_i64];omega
    have hwi:IntKind.i64.wrap ((j:Int)+1)=(j:Int)+1:=IntWalk.i64_in _ (by omega);have hpn:p<n:=by omega
    have hqn:q<n:=by omega
    have hpn':(p:Int)<(n:Int):=by omega
    have hqn':(q:Int)<(n:Int):=by omega
    clear hp hq HJ;go_wp2_with fail;refine region_tree (fun _=>True) (.fork [(0,false),(1,false),(2,false),(3,false),(4,false),(5,false),(6,false),(7,false),(8,false),(9,false),(10,false),(11,false),(12,false),(14,false),(15,false),(16,false),(17,false),(18,false)] 13 19 (.last [(19,true),(20,false),(21,true),(22,false),(23,true)]) (.last [(13,true),(20,false),(21,true),(22,false),(23,true)])) (by kernel_rfl) (by kernel_rfl) (S dj) ⟨K.out.closed dj,fun _ _=>trivial⟩ ((K.out.closed dj).drew hS) ?_;clear hS;simp only[wpTree,Zg,Lm,Ln];repeat ((first|(refine Zb (by rfl) ?_)|(refine Zn _ (by rfl) (fun W hW=>by(clear hW;go_simp;first|done|with_reducible rfl)) ?_));simp only[Act.put,La,Lb,Lc])
    refine Zd (fun hF=>⟨?_,?_⟩)
    · refine mix_look (.int .i64 (at12 dj q:Int)) ⟨K.out.closed dj,fun _ _=>trivial⟩ (by rfl) (fun W hW=>by(have c0:=Zk (K.out.whole _ _ hW) (i:=q) (by omega);clear hW;go_simp;first|done|with_reducible rfl)) ?_;simp only[Act.put,La,Lb,Lc];refine Zd ?_;refine mix_look (.int .i64 (at12 dj p:Int)) ⟨K.out.closed dj,fun _ _=>trivial⟩ (by rfl) (fun W hW=>by(have c0:=Zk (K.out.whole _ _ hW) (i:=p) (by omega);clear hW;go_simp;first|done|with_reducible rfl)) ?_;simp only[Act.put,La,Lb,Lc];repeat ((first|(refine Zb (by rfl) ?_)|(refine Zn _ (by rfl) (fun W hW=>by(clear hW;go_simp;first|done|with_reducible rfl)) ?_));simp only[Act.put,La,Lb,Lc])
      refine mix_store (S (dj.set p (at12 dj q))) (fun W=>W.setCell ⟨g,p,none⟩ (.int .i64 ((at12 dj q):Int))) ⟨K.out.closed _,fun _ _=>trivial⟩ (by rfl) (fun W hW=>by(have c0:=Zk (K.out.whole _ _ hW) (i:=p) (by first|omega|(simp;omega));have f0:=(K.out.whole _ _ hW).frozen p;clear hW;go_simp;first|done|with_reducible rfl)) (fun W hW=>K.out.set _ _ _ _ hW (by first|omega|(simp;omega))) ?_;simp only[Act.put,La,Lb,Lc];repeat ((first|(refine Zb (by rfl) ?_)|(refine Zn _ (by rfl) (fun W hW=>by(clear hW;go_simp;first|done|with_reducible rfl)) ?_));simp only[Act.put,La,Lb,Lc])
      refine mix_store (S ((dj.set p (at12 dj q)).set q (at12 dj p))) (fun W=>W.setCell ⟨g,q,none⟩ (.int .i64 ((at12 dj p):Int))) ⟨K.out.closed _,fun _ _=>trivial⟩ (by rfl) (fun W hW=>by(have c0:=Zk (K.out.whole _ _ hW) (i:=q) (by first|omega|(simp;omega));have f0:=(K.out.whole _ _ hW).frozen q;clear hW;go_simp;first|done|with_reducible rfl)) (fun W hW=>K.out.set _ _ _ _ hW (by first|omega|(simp;omega))) ?_;simp only[Act.put,La,Lb,Lc];refine Zd (fun W hS=>?_);go_wp2_with fail;go_roundw
      case rel=>exact⟨j+1,swp12 dj p q,hlt,by go_num,hS,HN⟩
      case measure=>simp[intOf];omega
    · refine mix_look (.int .i64 (at12 dj p:Int)) ⟨K.out.closed dj,fun _ _=>trivial⟩ (by rfl) (fun W hW=>by(have c0:=Zk (K.out.whole _ _ hW) (i:=p) (by omega);clear hW;go_simp;first|done|with_reducible rfl)) ?_;simp only[Act.put,La,Lb,Lc];refine Zd ?_;refine mix_look (.int .i64 (at12 dj q:Int)) ⟨K.out.closed dj,fun _ _=>trivial⟩ (by rfl) (fun W hW=>by(have c0:=Zk (K.out.whole _ _ hW) (i:=q) (by omega);clear hW;go_simp;first|done|with_reducible rfl)) ?_;simp only[Act.put,La,Lb,Lc];repeat ((first|(refine Zb (by rfl) ?_)|(refine Zn _ (by rfl) (fun W hW=>by(clear hW;go_simp;first|done|with_reducible rfl)) ?_));simp only[Act.put,La,Lb,Lc])
      refine mix_store (S (dj.set p (at12 dj q))) (fun W=>W.setCell ⟨g,p,none⟩ (.int .i64 ((at12 dj q):Int))) ⟨K.out.closed _,fun _ _=>trivial⟩ (by rfl) (fun W hW=>by(have c0:=Zk (K.out.whole _ _ hW) (i:=p) (by first|omega|(simp;omega));have f0:=(K.out.whole _ _ hW).frozen p;clear hW;go_simp;first|done|with_reducible rfl)) (fun W hW=>K.out.set _ _ _ _ hW (by first|omega|(simp;omega))) ?_;simp only[Act.put,La,Lb,Lc];repeat ((first|(refine Zb (by rfl) ?_)|(refine Zn _ (by rfl) (fun W hW=>by(clear hW;go_simp;first|done|with_reducible rfl)) ?_));simp only[Act.put,La,Lb,Lc])
      refine mix_store (S ((dj.set p (at12 dj q)).set q (at12 dj p))) (fun W=>W.setCell ⟨g,q,none⟩ (.int .i64 ((at12 dj p):Int))) ⟨K.out.closed _,fun _ _=>trivial⟩ (by rfl) (fun W hW=>by(have c0:=Zk (K.out.whole _ _ hW) (i:=q) (by first|omega|(simp;omega));have f0:=(K.out.whole _ _ hW).frozen q;clear hW;go_simp;first|done|with_reducible rfl)) (fun W hW=>K.out.set _ _ _ _ hW (by first|omega|(simp;omega))) ?_;simp only[Act.put,La,Lb,Lc];refine Zd (fun W hS=>?_);go_wp2_with fail;go_roundw
      case rel=>exact⟨j+1,swp12 dj p q,hlt,by go_num,hS,HN⟩
      case measure=>simp[intOf];omega
  · obtain rfl:j=c:=by omega
    go_wp2_with fail;go_end0
    exact⟨rfl,dj,hS,HJ.out.1,HJ.out.2⟩
theorem rotate_any {S:List Nat→World→Prop} {g n:Nat} (K:Kit12 S g n) {d:List Nat} (hn:n≤1099511627776) (a m b cap:Nat) (ham:a<m) (hmb:m<b) (hbn:b≤n) (fv:Value) {w:World} (h:S d w):
 Calls Tryz.prog 199 #[.slice (some ⟨g,0,none⟩) n cap,.int .i64 a,.int .i64 m,.int .i64 b,fv] w fun e w'=>e= .returned (.tuple #[])∧∃d',S d' w'∧d'.Perm d∧∀k,at12 d' k=rot12 (at12 d) a m b k:=by
 replace K:=Zz K
 have r1:IntKind.i64.wrap ((m:Int) - (a:Int))=((m - a:Nat):Int):=by rw[IntKind.wrap_i64];omega
 have r2:IntKind.i64.wrap ((b:Int) - (m:Int))=((b - m:Nat):Int):=by rw[IntKind.wrap_i64];omega
 obtain⟨i0,hi0⟩:∃i0,m - a=i0:=⟨_,rfl⟩
 obtain⟨j0,hj0⟩:∃j0,b - m=j0:=⟨_,rfl⟩
 rw[hi0] at r1
 rw[hj0] at r2
 have H0:Hid (0<i0∧0<j0∧i0≤m∧m+j0≤n∧m - i0=a∧m+j0=b):=Zz (by omega)
 clear hi0 hj0
 go_enter Tryz.func199,Tryz.ntmps199
 go_wp2_with fail
 go_loopw [10,11] (fun vi vj wr=>∃(i j:Nat) (dj:List Nat),vi= .int .i64 i∧vj= .int .i64 j∧S dj wr∧Hid (0<i∧0<j∧i≤m∧m+j≤n)∧Hid (dj.Perm d∧∀k,rot12 (at12 dj) (m - i) m (m+j) k=rot12 (at12 d) a m b k))
  (fun vi vj _=>(intOf vi).toNat+(intOf vj).toNat)
 case atStart=>exact⟨i0,j0,d,rfl,rfl,h,Zz (by have :=H0.out;omega),Zz ⟨List.Perm.refl _,fun k=>by rw[H0.out.2.2.2.2.1,H0.out.2.2.2.2.2]⟩⟩
 case round=>
  clear h;obtain⟨i,j,dj,rfl,rfl,hS,HB,HJ⟩:=hrel;have hb:=HB.out;obtain⟨p,hp⟩:∃p:Nat,p=m - i:=⟨_,rfl⟩;have rp:IntKind.i64.wrap ((m:Int) - (i:Int))=(p:Int):=by rw[IntKind.wrap_i64];omega
  by_cases hij:i=j
  · subst hij;have KC:=Zz (swapRange_any K.out hn p m i cap (by omega) (by omega) fv hS);have HP:=Zz hp;clear hS hb hp;go_wp2_with fail;refine KC.out.mono ?_;rintro e w1 ⟨rfl,d1,hS,hp1,hc1⟩;go_wp2_with fail;go_end0
    exact⟨rfl,d1,hS,hp1.trans HJ.out.1,fun k=>by rw[hc1,HP.out,rot_both HB.out.2.2.1];exact HJ.out.2 k⟩
  · have hne:¬(i:Int)=(j:Int):=by omega
    by_cases hlt:j<i
    · have hlt':(j:Int)<(i:Int):=by omega
      have KC:=Zz (swapRange_any K.out hn p m j cap (by omega) (by omega) fv hS);have HP:=Zz (And.intro hp hb);have ri:IntKind.i64.wrap ((i:Int) - (j:Int))=((i - j:Nat):Int):=by rw[IntKind.wrap_i64];omega
      have rv:((i - j:Nat):Int)=(i:Int) - (j:Int):=by omega
      have HIJ:=Zz (And.intro hij hlt);clear hS hb hp rv;go_wp2_with fail;refine KC.out.mono ?_;clear KC;rintro e w1 ⟨rfl,d1,hS,hp1,hc1⟩;have HN:Hid (d1.Perm d∧∀k,rot12 (at12 d1) (m - (i - j)) m (m+j) k=rot12 (at12 d) a m b k):=Zz ⟨hp1.trans HJ.out.1,fun k=>by
       rw[rot_congr hc1,HP.out.1,rot_left HP.out.2.2.2.1 (Nat.le_of_lt HIJ.out.2)];exact HJ.out.2 k⟩;clear hp1 hc1;go_wp2_with fail;go_roundw
      case rel=>exact⟨i - j,j,d1,rfl,rfl,hS,Zz (by have :=HP.out;omega),HN⟩
      case measure=>have :=HP.out;simp[intOf];omega
    · have hlt':(i:Int)<(j:Int):=by omega
      have hge':¬(j:Int)<(i:Int):=by omega
      obtain⟨q,hq⟩:∃q:Nat,q=m+j - i:=⟨_,rfl⟩;have rs:IntKind.i64.wrap ((m:Int)+(j:Int))=((m+j:Nat):Int):=by rw[IntKind.wrap_i64];omega
      obtain⟨s,hs⟩:∃s,m+j=s:=⟨_,rfl⟩;rw[hs] at rs;have rq:IntKind.i64.wrap ((s:Int) - (i:Int))=(q:Int):=by rw[IntKind.wrap_i64];omega
      have KC:=Zz (swapRange_any K.out hn p q i cap (by omega) (by omega) fv hS);have HP:=Zz (And.intro hp (And.intro hq hb));have ri:IntKind.i64.wrap ((j:Int) - (i:Int))=((j - i:Nat):Int):=by rw[IntKind.wrap_i64];omega
      have HIJ:=Zz (show i≤j by omega);clear hS hb hp hq hs;go_wp2_with fail;refine KC.out.mono ?_;clear KC;rintro e w1 ⟨rfl,d1,hS,hp1,hc1⟩;have HN:Hid (d1.Perm d∧∀k,rot12 (at12 d1) (m - i) m (m+(j - i)) k=rot12 (at12 d) a m b k):=Zz ⟨hp1.trans HJ.out.1,fun k=>by
       rw[rot_congr hc1,HP.out.1,HP.out.2.1,rot_right HP.out.2.2.2.2.1 HIJ.out];exact HJ.out.2 k⟩;clear hp1 hc1;go_wp2_with fail;go_roundw
      case rel=>exact⟨i,j - i,d1,rfl,rfl,hS,Zz (by have :=HP.out;omega),HN⟩
      case measure=>have :=HP.out;simp[intOf];omega
def Cmp12 (S:List Nat→World→Prop) (n qf:Nat) (cv:Nat→Nat→Int):Prop:=
 ∀(d:List Nat) (W:World) (x y:Nat),S d W→x<n→y<n→Calls Tryz.prog 139 #[.int .i64 x,.int .i64 y,.pointer (some ⟨qf,0,none⟩)] W fun e W'=>e= .returned (.int .i64 (cv x y))∧Below W.heap.size W W'
def Zm (cv:Nat→Nat→Int) (x y:Nat):Bool:=decide (cv x y<0)
theorem lt_yes {cv:Nat→Nat→Int} {x y:Nat} (h:cv x y<0):Zm cv x y=true:=decide_eq_true h
theorem lt_no {cv:Nat→Nat→Int} {x y:Nat} (h:¬cv x y<0):Zm cv x y=false:=decide_eq_false h
theorem insertion_any {S:List Nat→World→Prop} {g n qf:Nat} {cv:Nat→Nat→Int} (K:Kit12 S g n) (C:Cmp12 S n qf cv) (O:Ord12 (Zm cv)) {d:List Nat} (hn:n≤1099511627776) (hp:d.Perm (List.range n)) (a b cap:Nat) (hab:a≤b) (hbn:b≤n) (hup:∀i j,a≤i→i<j→j<b→at12 d i<at12 d j) {w:World} (h:S d w):
 Calls Tryz.prog 174 #[.slice (some ⟨g,0,none⟩) n cap,.int .i64 a,.int .i64 b,.func (.func 139) #[] #[.pointer (some ⟨qf,0,none⟩)]] w fun e w'=>e= .returned (.tuple #[])∧∃d',S d' w'∧Mv12 a b d d'∧Srt (Zm cv) d' a b:=by
 replace K:=Zz K
 have HO:=Zz O
 have HCm:=Zz C
 have HP:=Zz hp
 have HU:=Zz hup
 have ra:IntKind.i64.wrap ((a:Int)+1)=((a+1:Nat):Int):=by rw[IntKind.wrap_i64];omega
 obtain⟨a1,ha1⟩:∃a1,a+1=a1:=⟨_,rfl⟩
 rw[ha1] at ra
 have HA:=Zz ha1
 clear O C hp hup ha1
 go_enter Tryz.func174,Tryz.ntmps174
 go_wp2_with fail
 go_loopw [8] (fun vi wr=>∃(i:Nat) (di:List Nat),vi= .int .i64 i∧a<i∧(i≤b∨i=a1)∧S di wr∧Hid (Mv12 a (min i b) d di∧Srt (Zm cv) di a (min i b)))
  (fun vi _=>b+1 - (intOf vi).toNat)
 case atStart=>exact⟨a1,d,rfl,by have :=HA.out;omega,.inr rfl,h,Zz ⟨Mv12.refl _ _ _,Srt.one (by have :=HA.out;omega)⟩⟩
 case round=>
  clear h;obtain⟨i,di,rfl,hai,hib,hS,HI⟩:=hrel;obtain⟨we,rfl⟩:∃W,W=wr:=⟨wr,rfl⟩;by_cases hlt:i<b
  · have hlt':(i:Int)<(b:Int):=by omega
    have hm:min i b=i:=by omega
    have hi:=HI.out;rw[hm] at hi;have HI:=Zz hi;clear hm hi;have hwi:IntKind.i64.wrap ((i:Int)+1)=(i:Int)+1:=IntWalk.i64_in _ (by omega);go_wp2_with fail;go_loopw [9] (fun vj wr=>∃(j:Nat) (dj:List Nat),vj= .int .i64 j∧a≤j∧j≤i∧S dj wr∧Hid (dj.Perm di∧(∀x,at12 dj x=rot12 (at12 di) j i (i+1) x)∧(∀k,j≤k→k<i→LL (Zm cv) (at12 di i) (at12 di k))))
     (fun vj _=>(intOf vj).toNat)
    case atStart=>exact⟨i,di,rfl,by omega,Nat.le_refl _,hS,Zz ⟨List.Perm.refl _,fun x=>(rot_none_left x).symm,fun k h1 h2=>by omega⟩⟩
    case round=>
     clear hS;obtain⟨j,dj,rfl,haj,hji,hS,HJ⟩:=hrel;obtain⟨wc,rfl⟩:∃W,W=wr:=⟨wr,rfl⟩;have hln:=K.out.len _ _ hS;have HC:=Zz (K.out.closed dj);have OUT:Hid ((j=a∨LL (Zm cv) (at12 di (j - 1)) (at12 di i))→Hid (Mv12 a (min (i+1) b) d dj∧Srt (Zm cv) dj a (min (i+1) b))):=Zz fun hj=>Zz (by
      have e:min (i+1) b=i+1:=by omega
      rw[e];have hl:=HI.out.1.len;have hl2:=HJ.out.1.length_eq;exact⟨(HI.out.1.mono (Nat.le_refl _) (by omega)).trans ((mv_rot hji (by omega) hl2 HJ.out.1 HJ.out.2.1).mono haj (Nat.le_refl _)),ins_done HO.out HI.out.2 haj hji HJ.out.2.1 HJ.out.2.2 hj⟩);by_cases hja:a<j
     · obtain⟨q,hq⟩:∃q,q+1=j:=⟨j - 1,by omega⟩;have hja':(a:Int)<(j:Int):=by omega
       have hjd:decide ((a:Int)<(j:Int))=true:=decide_eq_true hja';have hjd2:decide (a<j)=true:=decide_eq_true hja;have rq:IntKind.i64.wrap ((j:Int) - 1)=(q:Int):=by rw[IntKind.wrap_i64];omega
       have hjn:j<n:=by omega
       have hqn:q<n:=by omega
       have hjn':(j:Int)<(n:Int):=by omega
       have hqn':(q:Int)<(n:Int):=by omega
       have hpj:dj.Perm (List.range n):=HJ.out.1.trans (HI.out.1.perm.trans HP.out);obtain⟨v,hv⟩:∃v,cv (at12 dj j) (at12 dj q)=v:=⟨_,rfl⟩;have KC:Hid (∀W,S dj W→Calls Tryz.prog 139 #[.int .i64 (at12 dj j:Int),.int .i64 (at12 dj q:Int),.pointer (some ⟨qf,0,none⟩)] W fun e W'=>e= .returned (.int .i64 v)∧Below W.heap.size W W'):=Zz fun W hW=>by
        rw[←hv];exact HCm.out dj W _ _ hW (at_range hpj hjn) (at_range hpj hqn)
       have ex:at12 dj j=at12 di i:=by rw[HJ.out.2.1,rot_mid (Nat.le_refl _) (by omega),show j - j+i=i by omega]
       have ey:at12 dj q=at12 di q:=by rw[HJ.out.2.1,rot_lo (by omega)]
       have HQ:=Zz (And.intro hq (And.intro hja hji));have HV:=Zz hv;have HE:=Zz (And.intro ex ey);clear hq hpj hv ex ey;by_cases hlv:v<0
       · have hld:decide (v<0)=true:=decide_eq_true hlv;have HN:Hid ((swp12 dj j q).Perm di∧(∀x,at12 (swp12 dj j q) x=rot12 (at12 di) q i (i+1) x)∧(∀k,q≤k→k<i→LL (Zm cv) (at12 di i) (at12 di k))):=Zz (by
          have hq:=HQ.out.1;refine⟨(swp_perm (by omega) (by omega)).trans HJ.out.1,rot_stepL (d:=dj) (fun x=>by rw[hq];exact HJ.out.2.1 x) (by omega) (by omega) (by rw[hq]),fun k h1 h2=>?_⟩;by_cases hk:k=q
          · subst hk;have :=lt_yes (cv:=cv) (x:=at12 dj j) (y:=at12 dj k) (by rw[HV.out];exact hlv);rw[HE.out.1,HE.out.2] at this;exact .inl this
          · exact HJ.out.2.2 k (by omega) h2);clear OUT HJ HV HE;go_wp2_with fail;have HBS:Hid (∀W,Below wc.heap.size wc W→S dj W):=Zz (fun W hB=>HC.out _ _ hS hB);clear hS;refine rmx wc f17 (by kernel_rfl) (by kernel_rfl) ?_;simp only[Zg,f17,Lm,Ln];repeat ((first|(refine Zb (by rfl) ?_)|(refine mrd HBS _ (by rfl) (fun W hW=>by(have c0:=Zk (K.out.whole _ _ hW) (i:=j) (by omega);have c1:=Zk (K.out.whole _ _ hW) (i:=q) (by omega);go_simp;first|done|with_reducible rfl)) ?_)|(refine mcl HBS _ _ _ (by rfl) (fun W hW=>by(have c0:=Zk (K.out.whole _ _ hW) (i:=j) (by omega);have c1:=Zk (K.out.whole _ _ hW) (i:=q) (by omega);go_simp;first|done|rfl)) (fun W hW=>KC.out W (HBS.out W hW)) ?_));simp only[Act.put,La,Lb,Lc])
         refine Zd (fun W hW=>?_);have hS:=HBS.out W hW;clear hW HBS KC hlv hld hja hja' hjd hjd2;go_wp2_with fail;refine region_tree (fun _=>True) (.fork [(0,false),(1,false),(2,false),(3,false),(4,false),(5,false),(6,false),(7,false),(8,false),(10,false),(11,false),(12,false)] 9 13 (.last [(13,true),(14,false),(15,true),(16,false),(17,true)]) (.last [(9,true),(14,false),(15,true),(16,false),(17,true)])) (by kernel_rfl) (by kernel_rfl) (S dj) ⟨K.out.closed dj,fun _ _=>trivial⟩ ((K.out.closed dj).drew hS) ?_;clear hS;simp only[wpTree,Zg,Lm,Ln];repeat ((first|(refine Zb (by rfl) ?_)|(refine Zn _ (by rfl) (fun W hW=>by(clear hW;go_simp;first|done|with_reducible rfl)) ?_));simp only[Act.put,La,Lb,Lc])
         refine Zd (fun hF=>⟨?_,?_⟩)
         · refine mix_look (.int .i64 (at12 dj q:Int)) ⟨K.out.closed dj,fun _ _=>trivial⟩ (by rfl) (fun W hW=>by(have c0:=Zk (K.out.whole _ _ hW) (i:=q) (by omega);clear hW;go_simp;first|done|with_reducible rfl)) ?_;simp only[Act.put,La,Lb,Lc];refine Zd ?_;refine mix_look (.int .i64 (at12 dj j:Int)) ⟨K.out.closed dj,fun _ _=>trivial⟩ (by rfl) (fun W hW=>by(have c0:=Zk (K.out.whole _ _ hW) (i:=j) (by omega);clear hW;go_simp;first|done|with_reducible rfl)) ?_;simp only[Act.put,La,Lb,Lc];repeat ((first|(refine Zb (by rfl) ?_)|(refine Zn _ (by rfl) (fun W hW=>by(clear hW;go_simp;first|done|with_reducible rfl)) ?_));simp only[Act.put,La,Lb,Lc])
           refine mix_store (S (dj.set j (at12 dj q))) (fun W=>W.setCell ⟨g,j,none⟩ (.int .i64 ((at12 dj q):Int))) ⟨K.out.closed _,fun _ _=>trivial⟩ (by rfl) (fun W hW=>by(have c0:=Zk (K.out.whole _ _ hW) (i:=j) (by first|omega|(simp;omega));have f0:=(K.out.whole _ _ hW).frozen j;clear hW;go_simp;first|done|with_reducible rfl)) (fun W hW=>K.out.set _ _ _ _ hW (by first|omega|(simp;omega))) ?_;simp only[Act.put,La,Lb,Lc];repeat ((first|(refine Zb (by rfl) ?_)|(refine Zn _ (by rfl) (fun W hW=>by(clear hW;go_simp;first|done|with_reducible rfl)) ?_));simp only[Act.put,La,Lb,Lc])
           refine mix_store (S ((dj.set j (at12 dj q)).set q (at12 dj j))) (fun W=>W.setCell ⟨g,q,none⟩ (.int .i64 ((at12 dj j):Int))) ⟨K.out.closed _,fun _ _=>trivial⟩ (by rfl) (fun W hW=>by(have c0:=Zk (K.out.whole _ _ hW) (i:=q) (by first|omega|(simp;omega));have f0:=(K.out.whole _ _ hW).frozen q;clear hW;go_simp;first|done|with_reducible rfl)) (fun W hW=>K.out.set _ _ _ _ hW (by first|omega|(simp;omega))) ?_;simp only[Act.put,La,Lb,Lc];refine Zd (fun W hS=>?_);have HN2:=HN;go_wp2_with fail;go_roundw
           case rel=>exact⟨q,swp12 dj j q,rfl,by have :=HQ.out;omega,by have :=HQ.out;omega,hS,HN2⟩
           case measure=>have :=HQ.out;simp[intOf];omega
         · refine mix_look (.int .i64 (at12 dj j:Int)) ⟨K.out.closed dj,fun _ _=>trivial⟩ (by rfl) (fun W hW=>by(have c0:=Zk (K.out.whole _ _ hW) (i:=j) (by omega);clear hW;go_simp;first|done|with_reducible rfl)) ?_;simp only[Act.put,La,Lb,Lc];refine Zd ?_;refine mix_look (.int .i64 (at12 dj q:Int)) ⟨K.out.closed dj,fun _ _=>trivial⟩ (by rfl) (fun W hW=>by(have c0:=Zk (K.out.whole _ _ hW) (i:=q) (by omega);clear hW;go_simp;first|done|with_reducible rfl)) ?_;simp only[Act.put,La,Lb,Lc];repeat ((first|(refine Zb (by rfl) ?_)|(refine Zn _ (by rfl) (fun W hW=>by(clear hW;go_simp;first|done|with_reducible rfl)) ?_));simp only[Act.put,La,Lb,Lc])
           refine mix_store (S (dj.set j (at12 dj q))) (fun W=>W.setCell ⟨g,j,none⟩ (.int .i64 ((at12 dj q):Int))) ⟨K.out.closed _,fun _ _=>trivial⟩ (by rfl) (fun W hW=>by(have c0:=Zk (K.out.whole _ _ hW) (i:=j) (by first|omega|(simp;omega));have f0:=(K.out.whole _ _ hW).frozen j;clear hW;go_simp;first|done|with_reducible rfl)) (fun W hW=>K.out.set _ _ _ _ hW (by first|omega|(simp;omega))) ?_;simp only[Act.put,La,Lb,Lc];repeat ((first|(refine Zb (by rfl) ?_)|(refine Zn _ (by rfl) (fun W hW=>by(clear hW;go_simp;first|done|with_reducible rfl)) ?_));simp only[Act.put,La,Lb,Lc])
           refine mix_store (S ((dj.set j (at12 dj q)).set q (at12 dj j))) (fun W=>W.setCell ⟨g,q,none⟩ (.int .i64 ((at12 dj j):Int))) ⟨K.out.closed _,fun _ _=>trivial⟩ (by rfl) (fun W hW=>by(have c0:=Zk (K.out.whole _ _ hW) (i:=q) (by first|omega|(simp;omega));have f0:=(K.out.whole _ _ hW).frozen q;clear hW;go_simp;first|done|with_reducible rfl)) (fun W hW=>K.out.set _ _ _ _ hW (by first|omega|(simp;omega))) ?_;simp only[Act.put,La,Lb,Lc];refine Zd (fun W hS=>?_);have HN2:=HN;go_wp2_with fail;go_roundw
           case rel=>exact⟨q,swp12 dj j q,rfl,by have :=HQ.out;omega,by have :=HQ.out;omega,hS,HN2⟩
           case measure=>have :=HQ.out;simp[intOf];omega
       · have hld:decide (v<0)=false:=decide_eq_false hlv;have HN:=OUT.out (.inr (.inr (by
          have hl:=lt_no (cv:=cv) (x:=at12 dj j) (y:=at12 dj q) (by rw[HV.out];exact hlv);rw[HE.out.1,HE.out.2] at hl;have hq:=HQ.out.1;have e:j - 1=q:=by omega
          rw[e];refine⟨hl,?_⟩;obtain⟨z,z1,z2,ez⟩:=HI.out.1.src q (by omega) (by omega);rw[ez,HI.out.1.out i (.inr (Nat.le_refl _))];exact HU.out z i z1 z2 hlt)));clear OUT HJ HV HE;go_wp2_with fail;have HBS:Hid (∀W,Below wc.heap.size wc W→S dj W):=Zz (fun W hB=>HC.out _ _ hS hB);clear hS;refine rmx wc f17 (by kernel_rfl) (by kernel_rfl) ?_;simp only[Zg,f17,Lm,Ln];repeat ((first|(refine Zb (by rfl) ?_)|(refine mrd HBS _ (by rfl) (fun W hW=>by(have c0:=Zk (K.out.whole _ _ hW) (i:=j) (by omega);have c1:=Zk (K.out.whole _ _ hW) (i:=q) (by omega);go_simp;first|done|with_reducible rfl)) ?_)|(refine mcl HBS _ _ _ (by rfl) (fun W hW=>by(have c0:=Zk (K.out.whole _ _ hW) (i:=j) (by omega);have c1:=Zk (K.out.whole _ _ hW) (i:=q) (by omega);go_simp;first|done|rfl)) (fun W hW=>KC.out W (HBS.out W hW)) ?_));simp only[Act.put,La,Lb,Lc])
         refine Zd (fun W hW=>?_);have hS:=HBS.out W hW;clear hW HBS KC hlv hld hja hja' hjd hjd2;go_wp2_with fail;go_roundw
         case rel=>exact⟨i+1,dj,by go_num,by omega,.inl (by omega),hS,HN⟩
         case measure=>simp[intOf];omega
     · have hja':¬(a:Int)<(j:Int):=by omega
       have hjd:decide ((a:Int)<(j:Int))=false:=decide_eq_false hja';have hjd2:decide (a<j)=false:=decide_eq_false hja;have HN:=OUT.out (.inl (by omega));clear OUT HJ;go_wp2_with fail;have HBS:Hid (∀W,Below wc.heap.size wc W→S dj W):=Zz (fun W hB=>HC.out _ _ hS hB);clear hS;refine rmx wc f17 (by kernel_rfl) (by kernel_rfl) ?_;simp only[Zg,f17,Lm,Ln];repeat ((first|(refine Zb (by rfl) ?_)|(refine mrd HBS _ (by rfl) (fun W hW=>by(go_simp;first|done|with_reducible rfl)) ?_));simp only[Act.put,La,Lb,Lc])
       refine Zd (fun W hW=>?_);have hS:=HBS.out W hW;clear hW HBS hja' hjd hjd2;go_wp2_with fail;go_roundw
       case rel=>exact⟨i+1,dj,by go_num,by omega,.inl (by omega),hS,HN⟩
       case measure=>simp[intOf];omega
  · have hb:min i b=b:=by omega
    have hi:=HI.out;rw[hb] at hi;have HI:=Zz hi;clear hb hi;go_wp2_with fail;go_end0
    exact⟨rfl,di,hS,HI.out.1,HI.out.2⟩
end
end Go.Proofs.YtifnlhfinjfajaaGreatDoor
