/- Of this seat: ShT, ShI_1, ShU. -/
import Derived.Test.YtifnlhfinjfajaaGreatDoorK41
import Derived.Test.YtifnlhfinjfajaaGreatDoorK42
namespace Go.Proofs.YtifnlhfinjfajaaGreatDoor
set_option linter.unusedVariables false
set_option linter.unusedSimpArgs false
set_option maxRecDepth 100000
set_option maxHeartbeats 32000000
section
open Go.RowKit Go.Shelf
attribute [local go_sem] Oper.semAt_some
theorem own_more {base:Nat} {qs rs:List Pth} {A B:Option Addr} {c d:Nat} {W:World} (h:PsOwn base qs A c W) (k:PsOwn base rs B d W) (hq:qs.length≤1000000) (hr:rs.length≤1000000) (hb:base≤W.heap.size):
 ∃A' c' W',(Builtin.append_ #[33,33] 33 #[.slice A qs.length c,.slice B rs.length d]).run Tryz.prog W= .ok (.slice A' (qs++rs).length c') W'∧PsOwn base (qs++rs) A' c' W'∧Below base W W'∧W.grownBy W' (Value.slice A qs.length c).ownBlock:=by
 obtain⟨v',W',h1,h2,h3,h4⟩:=append_paths14 base qs rs (.slice A qs.length c) B d W.heap.size W h.row (owns_row2 k.row) hq hr hb
 obtain⟨A',c',rfl,_,_⟩:=ownsS_slice h2
 refine⟨A',c',W',h1,⟨h2,fun q hq=>?_⟩,(Below.refl base W).grown h3 hb (fun b e=>(h.row.lt b e).1),h3⟩
 have hap:∀ {q:Pth},stepRow W base q→stepRow W' base q:=fun {q} hq=>owns_apartN h3 hq (fun g hg e=>by
  have h1:=owns_apart hq h.row (by decide);rcases h1 with h1|h1
  · rw[h1] at hg;cases hg
  · exact h1 (hg.trans e.symm))
 rcases List.mem_append.1 hq with hq|hq
 · exact⟨hap (h.each q hq).1,(h.each q hq).2⟩
 · exact⟨hap (k.each q hq).1,(k.each q hq).2⟩
theorem walk_last {l:Lay} {q:Int×Int} {w:List Stp} (h:w ∈ walksV l q):∃x,w[w.length - 1]? =some x∧endL l q w=Zt l x.1 x.2.2∧0<w.length:=by
 obtain⟨h1,_,h3,_⟩:=mem_walks.1 h;rcases List.eq_nil_or_concat w with e|⟨u,x,rfl⟩
 · exact absurd e h1
 rw[List.concat_eq_append] at h3 ⊢;have h4:=(goes_snoc.1 h3).2.2;refine⟨x,by rw[List.length_append,List.length_singleton,Nat.add_sub_cancel,List.getElem?_append_right (Nat.le_refl _),Nat.sub_self];rfl,?_,by simp⟩;rw[end_append];unfold nextV;rw[if_pos h4]
structure WksI (l:Lay) (g:Int×Int) (sn:Int) (base i:Nat) (qs:List Pth) (A:Option Addr) (c:Nat) (W:World):Prop where
 own:PsOwn base qs A c W
 bfs:Bfs l g i (qs.map Pth.ss)
 sig:∀q ∈ qs,q.s=sn
theorem WksI.keep {l:Lay} {g:Int×Int} {sn:Int} {base i:Nat} {qs:List Pth} {A:Option Addr} {c:Nat} {W W':World} (h:WksI l g sn base i qs A c W) (hb:Below W.heap.size W W'):WksI l g sn base i qs A c W':=
 ⟨PsOwn.closed _ _ _ _ _ _ h.own hb,h.bfs,h.sig⟩
theorem walks14R_any {l:Lay} {w:World} (hL:Lies l w) (hm:Sml14 l) {sn:Nat} (hs:sn<l.sigs.length):
 Calls Tryz.prog 31 #[l.val,.int .i64 sn] w fun e w'=>∃A c qs,e= .returned (.slice A qs.length c)∧Zr qs A w'∧(qs.map Pth.ss).Perm (walksV l (Zq l sn))∧(∀q ∈ qs,q.s=sn)∧Below w.heap.size w w':=by
 obtain⟨Q,HQ,HQb,HQl,hq⟩:=keep_box (Closed.below w) (Below.refl _ w) 29 l.cells
 have HLW:Hid (∀W,Q W→Lies l W):=Zz fun W hW=>Lies.closed l _ _ hL (HQb.out W hW)
 obtain⟨g,hg⟩:∃q,l.sigs[sn]? =some q:=⟨_,List.getElem?_eq_getElem hs⟩
 have hst:Zq l sn=g:=by unfold Zq;rw[Int.toNat_natCast,hg];rfl
 obtain⟨bg,og,HAg,HG0,HG⟩:=row_at (f:=Zf) (n:=2) (fun _=>rfl) (by omega) (fun W hW=>(HLW.out W hW).sigs) hq hg
 have HGC:Hid (∀W,Q W→W.cell? ⟨bg,og+sn*2,none⟩=some (.int .i64 g.1)∧W.cell? ⟨bg,og+sn*2+1,none⟩=some (.int .i64 g.2)):=Zz fun W hW=>⟨HG0.out W hW _ _ _ hg rfl,HG.out W hW _ _ 1 _ hg rfl⟩
 have hs':(sn:Int)<l.sigs.length:=by omega
 have K0:Hid (∀W,Q W→Calls Tryz.prog 49 #[l.val,.agg #[.int .i64 sn,.int .i64 0,.slice none 0 0],prtV g.1 g.2] W fun e w'=>∃x:Option Addr×Nat×List Pth,e= .returned (.slice x.1 x.2.2.length x.2.1)∧(PsOwn (w.heap.size+1) x.2.2 x.1 x.2.1 w'∧x.2.2.map Pth.ss=longerV l [] g∧∀q ∈ x.2.2,q.s=sn)∧Below W.heap.size W w'):=Zz fun W hW=>by
  refine(longer14R_any (p:=⟨sn,0,none,0,[]⟩) (HLW.out W hW) ⟨Row.nil _ _ _,by simp⟩ (by simp) g.1 g.2).mono ?_;rintro e w' ⟨A,c,qs,h1,h2,h3,h4,h5⟩;exact⟨(A,c,qs),h1,⟨h2.base (HQl.out W hW).lt,h3,fun q hq=>(h4 q hq).1⟩,h5⟩
 have HWL:Hid ((walksV l g).length≤3072):=Zz (hm.walks g)
 rw[hst]
 have HL0L:=Zz hL
 clear hL hst hg HG0 HG
 go_enter Tryz.func31,Tryz.ntmps31
 go_upto_region 1 with (fail)
 obtain⟨w1,hw1⟩:∃W,w.alloc (.cells #[.slice l.As l.secs.length l.cs,.slice l.Ag l.sigs.length l.cg,.slice l.Ae l.exits.length l.ce,.slice l.Af l.flanks.length l.cf,.int .i64 l.t0,.int .i64 l.t1,.int .i64 l.t2,.int .i64 l.t3,.int .i64 l.t4,.int .i64 l.t5,.int .i64 l.t6] 29)=W:=⟨_,rfl⟩
 have hq1:Q w1:=by rw[←hw1];exact hq
 try rw[hw1]
 have HS1:Hid (w.heap.size≤w1.heap.size):=Zz (by rw[←hw1];simp)
 clear hw1 hq
 have hq:=hq1
 clear hq1
 go_wp2_with fail
 have HBS:Hid (∀W,Below w1.heap.size w1 W→Q W):=Zz (fun W hB=>HQ.out _ _ hq hB)
 clear hq
 refine region_mix (Below w1.heap.size w1) [(0,false),(1,false),(2,false),(3,false),(4,false),(5,false),(6,false),(7,false),(8,false),(9,true),(10,false)] (by kernel_rfl) (by kernel_rfl) (Below w1.heap.size w1) ⟨Closed.below w1,fun _ h=>h⟩ (Below.refl _ _).drew ?_
 simp only[Zg,Lm,Ln]
 repeat ((first|(refine Zb (by rfl) ?_)|(refine mrd HBS _ (by rfl) (fun W hW=>by(obtain⟨x0,x1,x2,x3,x4,x5,x6,x7,x8,x9,x10⟩:=(HQl.out W hW).c11;obtain⟨c0,c1⟩:=HGC.out W hW;go_simp;first|done|with_reducible rfl)) ?_)|(refine mrd HBS _ (by rfl) (fun W hW=>by(obtain⟨x0,x1,x2,x3,x4,x5,x6,x7,x8,x9,x10⟩:=(HQl.out W hW).c11;obtain⟨c0,c1⟩:=HGC.out W hW;rw[HAg.out];go_simp;first|done|with_reducible rfl)) ?_));simp only[Act.put,La,Lb,Lc])
 refine mix_meet (fun x:Option Addr×Nat×List Pth=>.slice x.1 x.2.2.length x.2.1) (fun x=>fun W=>PsOwn (w.heap.size+1) x.2.2 x.1 x.2.1 W∧x.2.2.map Pth.ss=longerV l [] g∧∀q ∈ x.2.2,q.s=sn) ⟨(Closed.below w1),fun _ h=>h⟩ (fun x=>(PsOwn.closed _ _ _ _).and (fun _ _ h _=>h)) _ _ (by rfl) (fun W hW=>by(have hW:=HBS.out W hW;obtain⟨x0,x1,x2,x3,x4,x5,x6,x7,x8,x9,x10⟩:=(HQl.out W hW).c11;obtain⟨c0,c1⟩:=HGC.out W hW;go_simp;first|done|rfl)) (fun W hW=>K0.out W (HBS.out W hW)) (fun m1=>?_)
 simp only[Act.put,La,Lb,Lc]
 repeat ((first|(refine Zb (by rfl) ?_)|(refine mrd HBS _ (by rfl) (fun W hW=>by(obtain⟨x0,x1,x2,x3,x4,x5,x6,x7,x8,x9,x10⟩:=(HQl.out W hW).c11;obtain⟨c0,c1⟩:=HGC.out W hW;go_simp;first|done|with_reducible rfl)) ?_)|(refine mrd HBS _ (by rfl) (fun W hW=>by(obtain⟨x0,x1,x2,x3,x4,x5,x6,x7,x8,x9,x10⟩:=(HQl.out W hW).c11;obtain⟨c0,c1⟩:=HGC.out W hW;rw[HAg.out];go_simp;first|done|with_reducible rfl)) ?_));simp only[Act.put,La,Lb,Lc])
 refine Zd (fun W hW=>?_)
 have t1:=hW.2
 have hq:=HBS.out W hW.1
 have HBW:=Zz hW.1
 clear hW HBS
 obtain⟨A0,c0,qs0⟩:=m1
 obtain⟨h1,h2,h3⟩:=t1
 dsimp only
 have HI0:Hid (WksI l g sn (w.heap.size+1) 0 qs0 A0 c0 W):=Zz ⟨h1,by have h2':qs0.map Pth.ss=longerV l [] g:=h2;rw[h2'];exact bfs_zero l g,h3⟩
 have HB0:=Zz (HQb.out _ hq)
 have hgr:=HQl.out _ hq
 clear h1 h2 h3 HBW K0
 obtain⟨w2,rfl⟩:∃X,X=W:=⟨W,rfl⟩
 have HL0:=Zz hgr
 have HLZ:Hid (∀W,Below w.heap.size w W→Lies l W):=Zz fun W hW=>Lies.closed l _ _ HL0L.out hW
 clear hgr hq HGC HAg hs hs'
 go_wp2_with fail
 go_loopw [5,6] (fun v i wr=>∃(j:Nat) (qs:List Pth) (A:Option Addr) (c:Nat),j≤qs.length∧v= .slice A qs.length c∧i= .int .i64 (j:Int)∧Hid (WksI l g sn (w.heap.size+1) j qs A c wr)∧Hid (Below w.heap.size w wr∧Whole wr w.heap.size 29 l.cells))
  (fun _ i _=>(walksV l g).length - (intOf i).toNat)
 case atStart=>exact⟨0,qs0,A0,c0,Nat.zero_le _,rfl,rfl,HI0,Zz ⟨HB0.out,HL0.out⟩⟩
 case round=>
  clear HI0 HB0 HL0;obtain⟨j,qs,A,c,hj,rfl,rfl,HI,HB⟩:=hrel;obtain⟨wa,rfl⟩:∃W,W=wr:=⟨wr,rfl⟩;have hwl:=HWL.out;have hlw:qs.length≤(walksV l g).length:=by have h:=bfs_len HI.out.bfs;rwa [List.length_map] at h
  have hln:qs.length≤3072:=by omega
  by_cases hlt:j<qs.length
  · have hlt':(j:Int)<qs.length:=by omega
    obtain⟨p,hp⟩:∃q,qs[j]? =some q:=⟨_,List.getElem?_eq_getElem hlt⟩;have hpm:=List.mem_of_getElem? hp;have hwk:p.ss ∈ walksV l g:=HI.out.bfs.walk _ (List.mem_map.2 ⟨p,hpm,rfl⟩);obtain⟨⟨f1,f2,f3⟩,hf,hend,hpos⟩:=walk_last hwk;have h12:=(mem_walks.1 hwk).2.1;obtain⟨n,hn⟩:∃n,p.ss.length=n+1:=⟨p.ss.length - 1,by omega⟩;rw[hn,Nat.add_sub_cancel] at hf;have HQ0:Hid (∀W,Below wa.heap.size wa W→(Lies l W∧Whole W w.heap.size 29 l.cells)∧WksI l g sn (w.heap.size+1) j qs A c W):=Zz fun W hW=>⟨⟨HLZ.out W (HB.out.1.trans (hW.mono HB.out.1.size)),HB.out.2.below hW HB.out.2.lt⟩,HI.out.keep hW⟩;obtain⟨Q,HQ,HQc,hq⟩:∃Q:World→Prop,Hid (Closed Q)∧Hid (∀W,Q W→Below wa.heap.size wa W)∧Q wa:=⟨Below wa.heap.size wa,Zz (Closed.below _),Zz fun _ h=>h,Below.refl _ _⟩;obtain⟨b6,o6,HA6,HD0,HD⟩:=row_at (f:=Pth.cells) (n:=3) (fun _=>rfl) (by omega) (fun W hW=>(HQ0.out W (HQc.out W hW)).2.own.lies.row) hq hp;obtain⟨b7,o7,HA7,HE0,HEC⟩:=row_at (f:=Ze) (n:=3) (fun _=>rfl) (by omega) (fun W hW=>((HQ0.out W (HQc.out W hW)).2.own.lies.each p hpm).row) hq hf;have HF:Hid (∀W,Q W→(W.cell? ⟨b6,o6+j*3,none⟩=some (.int .i64 p.s)∧W.cell? ⟨b6,o6+j*3+1,none⟩=some (.int .i64 p.x)∧W.cell? ⟨b6,o6+j*3+2,none⟩=some (.slice p.A (n+1) p.c))∧W.cell? ⟨b7,o7+n*3,none⟩=some (.int .i64 f1)∧W.cell? ⟨b7,o7+n*3+1,none⟩=some (.int .i64 f2)∧W.cell? ⟨b7,o7+n*3+2,none⟩=some (.int .i64 f3)):=Zz fun W hW=>
     ⟨⟨HD0.out W hW _ _ _ hp rfl,HD.out W hW _ _ 1 _ hp rfl,by have :=HD.out W hW _ _ 2 _ hp rfl;rwa [hn] at this⟩,HE0.out W hW _ _ _ hf rfl,HEC.out W hW _ _ 1 _ hf rfl,HEC.out W hW _ _ 2 _ hf rfl⟩;have HPJ:=Zz (And.intro hp (And.intro hn hend));have h11:n≤11:=by omega
    have hb3:(n:Int)<(n:Int)+1:=by omega
    have hwi:wrap64 (n:Int)=(n:Int):=by unfold wrap64;omega
    have hwi2:IntKind.i64.wrap (n:Int)=(n:Int):=IntWalk.i64_in _ (by omega);clear HD0 HD HE0 HEC hp hf hend hpos h12;have HLL:Hid (n+1=p.ss.length):=Zz HPJ.out.2.1.symm;go_wp2_with fail;have HBS:Hid (∀W,Below wa.heap.size wa W→Q W):=Zz (fun W hB=>HQ.out _ _ hq hB);refine region_mix (Below wa.heap.size wa) [(0,false),(1,false),(2,false),(3,false),(4,false),(5,false),(6,false),(7,false),(8,false),(9,false),(10,false),(11,false),(12,false),(13,false),(14,true),(15,true)] (by kernel_rfl) (by kernel_rfl) (Below wa.heap.size wa) ⟨Closed.below wa,fun _ h=>h⟩ (Below.refl _ _).drew ?_;simp only[Zg,Lm,Ln];repeat ((first|(refine Zb (by rfl) ?_)|(refine mrd HBS _ (by rfl) (fun W hW=>by(obtain⟨⟨c0,c1,c2⟩,d0,d1,d2⟩:=HF.out W hW;go_simp;first|done|with_reducible rfl)) ?_)|(refine mrd HBS _ (by rfl) (fun W hW=>by(obtain⟨⟨c0,c1,c2⟩,d0,d1,d2⟩:=HF.out W hW;rw[HA6.out];go_simp;first|done|with_reducible rfl)) ?_)|(refine mrd HBS _ (by rfl) (fun W hW=>by(obtain⟨⟨c0,c1,c2⟩,d0,d1,d2⟩:=HF.out W hW;rw[HA7.out];go_simp;first|done|with_reducible rfl)) ?_));simp only[Act.put,La,Lb,Lc])
    refine mix_alloc wa.heap.size 66 [.int .i64 0,.int .i64 0,.int .i64 0] ⟨Closed.below wa,fun _ h=>h⟩ (fun _ h=>h.size) (by rfl) (fun W hW=>by(go_simp;first|done|with_reducible rfl)) (fun gz hg=>?_);simp only[Act.put,La,Lb,Lc];refine mix_fill 66 (.tmp 7) (.tmp 37) gz wa.heap.size wa [.int .i64 0,.int .i64 0,.int .i64 0] (Ze (f1,f2,f3)) hg (fun _ h=>h) (Nat.le_refl _) (fun _ h=>h) rfl (by rfl) (by rfl) (by kernel_rfl) rfl (by kernel_rfl) (by rfl) ?_;simp only[Act.put,La,Lb,Lc];refine Zd (fun W hW=>?_);have HQ2:Hid (∀X,Below W.heap.size W X→((Lies l X∧Whole X w.heap.size 29 l.cells)∧WksI l g sn (w.heap.size+1) j qs A c X)∧Whole X gz 66 (Ze (f1,f2,f3))):=Zz fun X hX=>⟨HQ0.out X (hW.1.trans (hX.mono hW.1.size)),hW.2.below hX hW.2.lt⟩;have HBF:Hid (Closed fun X=>(Below w.heap.size w X∧Whole X w.heap.size 29 l.cells)∧Whole X gz 66 (Ze (f1,f2,f3))):=Zz (((Closed.below w).and (Closed.whole _ _ _)).and (Closed.whole _ _ _));have HBX:Hid (∀X,Below W.heap.size W X→(Below w.heap.size w X∧Whole X w.heap.size 29 l.cells)∧Whole X gz 66 (Ze (f1,f2,f3))):=Zz fun X hX=>⟨⟨HB.out.1.trans ((hW.1.trans (hX.mono hW.1.size)).mono HB.out.1.size),(HQ2.out X hX).1.1.2⟩,(HQ2.out X hX).2⟩;have HFB:Hid (∀X,Below W.heap.size W X→(X.cell? ⟨b6,o6+j*3,none⟩=some (.int .i64 p.s)∧X.cell? ⟨b6,o6+j*3+1,none⟩=some (.int .i64 p.x)∧X.cell? ⟨b6,o6+j*3+2,none⟩=some (.slice p.A (n+1) p.c))∧True):=Zz fun X hX=>by
     obtain⟨b6',o6',HA6',HD0,HD⟩:=row_at (f:=Pth.cells) (n:=3) (fun _=>rfl) (by omega) (Q:=fun X=>Below W.heap.size W X) (fun W hW=>(HQ2.out W hW).1.2.own.lies.row) hX HPJ.out.1;have h1:=HA6'.out;rw[HA6.out] at h1;obtain⟨rfl,rfl⟩:b6=b6'∧o6=o6':=by
      have :=Option.some.inj h1;injection this with e1 e2
      exact⟨e1,e2⟩
     exact⟨⟨HD0.out X hX _ _ _ HPJ.out.1 rfl,HD.out X hX _ _ 1 _ HPJ.out.1 rfl,by have :=HD.out X hX _ _ 2 _ HPJ.out.1 rfl;rwa [HPJ.out.2.1] at this⟩,trivial⟩
    obtain⟨⟨n1,n2⟩,hbv⟩:∃q,Zt l f1 f3=q:=⟨_,rfl⟩;have KB:Hid (∀X,((Below w.heap.size w X∧Whole X w.heap.size 29 l.cells)∧Whole X gz 66 (Ze (f1,f2,f3)))→Calls Tryz.prog 41 #[l.val,prtV f1 f3] X fun e w'=>e= .returned (prtV n1 n2)∧Below X.heap.size X w'):=Zz fun X hX=>beyondJ_B (HLZ.out X hX.1.1) f1 f3 hbv;have KL:Hid (∀X,Below W.heap.size W X→Calls Tryz.prog 49 #[l.val,.agg #[.int .i64 p.s,.int .i64 p.x,.slice p.A (n+1) p.c],prtV n1 n2] X fun e w'=>∃x:Option Addr×Nat×List Pth,e= .returned (.slice x.1 x.2.2.length x.2.1)∧(PsOwn (w.heap.size+1) x.2.2 x.1 x.2.1 w'∧x.2.2.map Pth.ss=extV l g p.ss∧∀q ∈ x.2.2,q.s=sn)∧Below X.heap.size X w'):=Zz fun X hX=>by
     have hpm:=List.mem_of_getElem? HPJ.out.1;have h1:=longer14R_any (HQ2.out X hX).1.1.1 ((HQ2.out X hX).1.2.own.lies.each p hpm) (by rw[HPJ.out.2.1];omega) n1 n2;rw[show p.val= .agg #[.int .i64 p.s,.int .i64 p.x,.slice p.A p.ss.length p.c] from rfl,HPJ.out.2.1] at h1;refine h1.mono ?_;rintro e w' ⟨A',c',rs,h1,h2,h3,h4,h5⟩;refine⟨(A',c',rs),h1,⟨h2.base (HQ2.out X hX).1.1.2.lt,?_,fun q hq=>?_⟩,h5⟩
     · show rs.map Pth.ss=longerV l p.ss (endL l g p.ss);rw[HPJ.out.2.2,hbv];exact h3
     · rw[(h4 q hq).1];exact(HQ2.out X hX).1.2.sig p hpm
    clear hW hq HF HA7 hbv;obtain⟨w5,rfl⟩:∃X,X=W:=⟨W,rfl⟩;have hsz5:w.heap.size+1≤w5.heap.size:=by have :=(HQ2.out w5 (Below.refl _ _)).1.1.2.lt;omega
    go_wp2_with fail;refine region_mix (fun X=>(Below w.heap.size w X∧Whole X w.heap.size 29 l.cells)∧Whole X gz 66 (Ze (f1,f2,f3))) [(0,false),(1,false),(2,false),(3,false),(4,false),(6,false),(7,false),(8,false),(9,false),(10,false),(11,false),(12,false),(5,true),(13,true),(14,true),(15,false)] (by kernel_rfl) (by kernel_rfl) (Below w5.heap.size w5) ⟨Closed.below w5,HBX.out⟩ (Below.refl _ _).drew ?_;simp only[Zg,Lm,Ln];repeat ((first|(refine Zb (by rfl) ?_)|(refine Zn _ (by rfl) (fun W hW=>by(obtain⟨x0,x1,x2,x3,x4,x5,x6,x7,x8,x9,x10⟩:=(hW.1.2).c11;have s0:=hW.2.Za 0 rfl;have s2:=hW.2.Za 2 rfl;clear hW;go_simp;first|done|with_reducible rfl)) ?_)|(refine Zn _ (by rfl) (fun W hW=>by(obtain⟨x0,x1,x2,x3,x4,x5,x6,x7,x8,x9,x10⟩:=(hW.1.2).c11;have s0:=hW.2.Za 0 rfl;have s2:=hW.2.Za 2 rfl;clear hW;rw[HA6.out];go_simp;first|done|with_reducible rfl)) ?_)|(refine mix_call _ _ _ (by rfl) (fun W hW=>by(obtain⟨x0,x1,x2,x3,x4,x5,x6,x7,x8,x9,x10⟩:=(hW.1.2).c11;have s0:=hW.2.Za 0 rfl;have s2:=hW.2.Za 2 rfl;clear hW;go_simp;first|done|rfl)) (fun W hW=>KB.out W hW) ?_));simp only[Act.put,La,Lb,Lc])
    refine mix_look _ ⟨Closed.below w5,HBX.out⟩ (by rfl) (fun W hW=>by(obtain⟨⟨c0,c1,c2⟩,_⟩:=HFB.out W hW;clear hW;go_simp;first|done|with_reducible rfl)) ?_;simp only[Act.put,La,Lb,Lc];refine mix_meet (fun x:Option Addr×Nat×List Pth=>.slice x.1 x.2.2.length x.2.1) (fun x=>fun W=>PsOwn (w.heap.size+1) x.2.2 x.1 x.2.1 W∧x.2.2.map Pth.ss=extV l g p.ss∧∀q ∈ x.2.2,q.s=sn) ⟨Closed.below w5,HBX.out⟩ (fun x=>(PsOwn.closed _ _ _ _).and (fun _ _ h _=>h)) _ _ (by rfl) (fun W hW=>by(clear hW;go_simp;first|done|rfl)) (fun W hW=>KL.out W hW) (fun m1=>?_);simp only[Act.put,La,Lb,Lc];obtain⟨B1,d1,rs⟩:=m1;dsimp only
    refine mix_yield (X:=Option Addr×Nat) (fun y=>.slice y.1 (qs++rs).length y.2) (fun y X=>((Below w.heap.size w X∧Whole X w.heap.size 29 l.cells)∧Whole X gz 66 (Ze (f1,f2,f3)))∧(PsOwn (w.heap.size+1) (qs++rs) y.1 y.2 X∧rs.map Pth.ss=extV l g p.ss∧∀q ∈ rs,q.s=sn)) (fun y=>⟨HBF.out.and ((PsOwn.closed _ _ _ _).and (fun _ _ h _=>h)),fun _ h=>h.1⟩) (by rfl) (fun W hW=>?_) (fun y=>?_)
    · obtain⟨hB,hr1,hr2,hr3⟩:=hW;have hr1:PsOwn (w.heap.size+1) rs B1 d1 W:=hr1;have hr2:rs.map Pth.ss=extV l g p.ss:=hr2;have hrl:rs.length≤100000:=by
       have h1:=congrArg List.length hr2;rw[List.length_map] at h1;rw[h1];unfold extV longerV;split
       · rw[List.length_map];have :=more_le2 l p.ss (endL l g p.ss);omega
       · simp
      have hq2:=(HQ2.out W hB).1.2.own;obtain⟨A',c',W',h1,h2,h3,h4⟩:=own_more hq2 hr1 (by omega) (by omega) (Nat.le_trans hsz5 hB.size);have hbx:=HBX.out W hB;exact⟨(A',c'),W',exec_append (.tmp 38) (.tmp 51) 33 rfl h1,⟨⟨hbx.1.1.trans (h3.mono (by omega)),hbx.1.2.below h3 (by omega)⟩,hbx.2.kept h4 (fun e=>by
       rcases owns_box hq2.row hbx.2 (by decide) with h|h
       · rw[h] at e;cases e
       · exact h e.symm)⟩,h2,hr2,hr3⟩
    simp only[Act.put,La,Lb,Lc];repeat ((first|(refine Zb (by rfl) ?_)|(refine Zn _ (by rfl) (fun W hW=>by(obtain⟨x0,x1,x2,x3,x4,x5,x6,x7,x8,x9,x10⟩:=(hW.1.2).c11;have s0:=hW.2.Za 0 rfl;have s2:=hW.2.Za 2 rfl;clear hW;go_simp;first|done|with_reducible rfl)) ?_));simp only[Act.put,La,Lb,Lc])
    refine Zd (fun W hW=>?_);obtain⟨A9,c9⟩:=y;obtain⟨hB,hr1,hr2,hr3⟩:=hW;have hr1:PsOwn (w.heap.size+1) (qs++rs) A9 c9 W:=hr1;have HN:Hid (WksI l g sn (w.heap.size+1) (j+1) (qs++rs) A9 c9 W):=Zz ⟨hr1,by
     rw[List.map_append,hr2];exact bfs_step HI.out.bfs (by rw[List.getElem?_map,HPJ.out.1];rfl),fun q hq=>by
     rcases List.mem_append.1 hq with hq|hq
     · exact HI.out.sig q hq
     · exact hr3 q hq⟩;have HBN:Hid (Below w.heap.size w W∧Whole W w.heap.size 29 l.cells):=Zz hB.1;clear hB hr1 hr2 hr3;go_wp2_with fail;go_roundw
    case rel=>exact⟨j+1,qs++rs,A9,c9,by rw[List.length_append];omega,by rw[List.length_append],by go_num,HN,HBN⟩
    case measure=>simp[intOf];omega
  · obtain rfl:j=qs.length:=by omega
    have HZ:Hid ((qs.map Pth.ss).Perm (walksV l g)):=Zz (by
     have h1:=HI.out.bfs;rw[←List.length_map (f:=Pth.ss)] at h1;have h2:=bfs_all h1;exact(List.perm_ext_iff_of_nodup h1.nodup (walks_nodup l g)).2 h2);have HE:=Zz (And.intro HI.out.own.lies (And.intro HI.out.sig HB.out.1));go_wp2_with fail;go_ret;exact⟨A,c,qs,rfl,HE.out.1,HZ.out,HE.out.2.1,HE.out.2.2⟩
end
section
open Go.RowKit Go.Shelf
theorem of14_any {l:Lay} {s x:Int} {vs:List Int} {A:Option Addr} {c:Nat} {w:World} (hT:Shapes w) (hL:Lies l w) (hm:Sml14 l) (hR:Row w w.heap.size A (nums .i64 vs)) (hcap:vs.length≤c) (hn:(vs.length:Int)≤9223372036854775807):
 Calls Tryz.prog 12 #[l.val,.agg #[.int .i64 s,.int .i64 x,.slice A vs.length c]] w fun e w'=>∃A' c' qs,e= .returned (.tuple #[.slice A' qs.length c',.int .i64 (errA l s x vs)])∧PsOwn w.heap.size qs A' c' w'∧qs.map Pth.ss=allV l s x vs∧(∀q ∈ qs,q.s=s∧q.x=x)∧Below w.heap.size w w':=by
 obtain⟨Q,HQ,HQb,HQl,HQr,hq⟩:=keep_box2 (Closed.below w) (Below.refl _ w) 29 39 l.cells [.int .i64 s,.int .i64 x,.slice A vs.length c]
 have KA:=Zz (all14_any (s:=s) (x:=x) (Shapes.closed _ _ hT (HQb.out _ hq)) (Lies.closed l _ _ hL (HQb.out _ hq)) hm (hR.on (HQb.out _ hq)) hcap hn)
 have HBQ:=Zz (HQb.out _ hq)
 obtain⟨x0,x1,x2,x3,x4,x5,x6,x7,x8,x9,x10⟩:=(HQl.out _ hq).c11
 obtain⟨y0,y1,y2⟩:=(HQr.out _ hq).c3
 clear hq hT hL hR
 go_enter Tryz.func12,Tryz.ntmps12
 go_wp2_with fail
 refine KA.out.mono ?_
 clear KA x0 x1 x2 x3 x4 x5 x6 x7 x8 x9 x10 y0 y1 y2
 rintro e w5 ⟨A',c',qs,rfl,hpl,hall,hqe,hB5⟩
 have hpl:=hpl.base HBQ.out.size
 have HFI:=Zz (And.intro hpl (And.intro hall (And.intro hqe (HBQ.out.trans (hB5.mono HBQ.out.size)))))
 clear hpl hall hqe hB5
 go_wp2_with fail
 refine bodyPost_ret (v:=.tuple #[.slice A' qs.length c',.int .i64 (errA l s x vs)]) (by simp[results,Tryz.f12,go_sem]) rfl ⟨A',c',qs,rfl,HFI.out.1,HFI.out.2.1,HFI.out.2.2.1,HFI.out.2.2.2⟩
end
section
open Go.RowKit Go.Shelf
attribute [local go_sem] Oper.semAt_some
theorem err_ask {l:Lay} {s x:Int} {vs:List Int} (h:askV l s x vs=false):errA l s x vs=2∧allV l s x vs=[]:=by
 refine⟨?_,all_asked h⟩;unfold errA;rw[h];rfl
theorem ask_parts {l:Lay} {s x:Int} {vs:List Int}:askV l s x vs=true↔rightT l=true∧(0≤s∧s<l.sigs.length)∧(0≤x∧x<l.exits.length)∧viasV l vs=true:=by
 unfold askV knownV mkP;simp only[Bool.and_eq_true,decide_eq_true_eq];constructor
 · rintro⟨h1,⟨⟨h2,h3⟩,h4,h5⟩,h6⟩;exact⟨h1,⟨h2,h3⟩,⟨h4,h5⟩,h6⟩
 · rintro⟨h1,⟨h2,h3⟩,⟨h4,h5⟩,h6⟩;exact⟨h1,⟨⟨h2,h3⟩,h4,h5⟩,h6⟩
def srvV (l:Lay) (s x:Int) (vs:List Int) (ws:List Pth) (j:Nat):List (List Stp):=((ws.take j).map Pth.ss).filter (serveV l s x vs)
theorem srvV_succ {l:Lay} {s x:Int} {vs:List Int} {ws:List Pth} {j:Nat} {p:Pth} (h:ws[j]? =some p):srvV l s x vs ws (j+1)=srvV l s x vs ws j++(if serveV l s x vs p.ss=true then [p.ss] else []):=by
 unfold srvV;rw[List.take_add_one,h,Option.toList_some,List.map_append,List.filter_append];congr 1
 by_cases hs:serveV l s x vs p.ss=true
 · rw[if_pos hs];simp[hs]
 · rw[if_neg hs];simp[hs]
theorem srvV_le (l:Lay) (s x:Int) (vs:List Int) (ws:List Pth) (j:Nat):(srvV l s x vs ws j).length≤j:=by
 unfold srvV;refine Nat.le_trans (List.length_filter_le _ _) ?_;rw[List.length_map,List.length_take];omega
structure SrvR (l:Lay) (s x:Int) (vs:List Int) (ws:List Pth) (base j:Nat) (qs:List Pth) (v:Value) (W:World):Prop where
 row:W.ownsRow base 46 3 v qs.length (qs.flatMap Pth.cells)
 each:∀q ∈ qs,∃p ∈ ws,q=⟨p.s,x,p.A,p.c,p.ss⟩
 all:qs.map Pth.ss=srvV l s x vs ws j
theorem all14R_any {l:Lay} {s x:Int} {vs:List Int} {A:Option Addr} {c:Nat} {w:World} (hL:Lies l w) (hm:Sml14 l) (hR:Row w w.heap.size A (nums .i64 vs)) (hn:(vs.length:Int)≤9223372036854775807):
 Calls Tryz.prog 11 #[l.val,.int .i64 s,.int .i64 x,.slice A vs.length c] w fun e w'=>∃A' c' qs,e= .returned (.tuple #[.slice A' (List.length qs) c',.int .i64 (errA l s x vs)])∧PsOwn w.heap.size qs A' c' w'∧qs.map Pth.ss=allV l s x vs∧(∀q ∈ qs,q.s=s∧q.x=x)∧Below w.heap.size w w':=by
 obtain⟨Q,HQ,HQb,HQl,hq⟩:=keep_box (Closed.below w) (Below.refl _ w) 29 l.cells
 have HLW:Hid (∀W,Q W→Lies l W):=Zz fun W hW=>Lies.closed l _ _ hL (HQb.out W hW)
 have HRV:Hid (∀W,Q W→Row W W.heap.size A (nums .i64 vs)):=Zz fun W hW=>hR.on (HQb.out W hW)
 have HM:=Zz hm
 have HN:=Zz hn
 obtain⟨er,her⟩:∃r,errA l s x vs=r:=⟨_,rfl⟩
 obtain⟨al,hal⟩:∃r,allV l s x vs=r:=⟨_,rfl⟩
 have HER:=Zz (And.intro her hal)
 obtain⟨rt,hrt⟩:∃g,rightT l=g:=⟨_,rfl⟩
 have KR:Hid (∀W,Q W→Calls Tryz.prog 22 #[l.val] W fun e w'=>e= .returned (.bool rt)∧Q w'):=Zz fun W hW=>by
  refine(rightRT_any (HLW.out W hW) hrt).mono ?_;rintro e w' ⟨h1,h2⟩;exact⟨h1,HQ.out _ _ hW h2⟩
 have HRT:=Zz hrt
 rw[her,hal]
 clear hL hm hR hn her hal hrt
 go_enter Tryz.func11,Tryz.ntmps11
 obtain⟨x0,x1,x2,x3,x4,x5,x6,x7,x8,x9,x10⟩:=(HQl.out _ hq).c11
 go_wp2_with fail
 refine(KR.out _ hq).mono ?_
 rintro e w1 ⟨rfl,hq⟩
 clear x0 x1 x2 x3 x4 x5 x6 x7 x8 x9 x10 KR
 cases rt
 · skip
   have hz:=err_ask (l:=l) (s:=s) (x:=x) (vs:=vs) (Bool.eq_false_iff.2 fun h=>by have :=(ask_parts.1 h).1;rw[HRT.out] at this;cases this);have her:=HER.out.1;have hal:=HER.out.2;rw[hz.1] at her;rw[hz.2] at hal;subst her hal;have HZ:=Zz (HQb.out _ hq);clear hz;go_wp2_with fail;refine bodyPost_ret (v:=.tuple #[.slice none 0 0,.int .i64 2]) ?_ rfl ⟨none,0,[],rfl,PsOwn.nil _ _,rfl,(fun q hq=>by cases hq),HZ.out⟩;simp[results,Tryz.f11,go_sem]
 have x1:=(HQl.out _ hq).Za 1 rfl
 have x2:=(HQl.out _ hq).Za 2 rfl
 by_cases hs0:s<0
 · skip
   have hz:=err_ask (l:=l) (s:=s) (x:=x) (vs:=vs) (Bool.eq_false_iff.2 fun h=>by have :=(ask_parts.1 h).2.1;omega);have her:=HER.out.1;have hal:=HER.out.2;rw[hz.1] at her;rw[hz.2] at hal;subst her hal;have HZ:=Zz (HQb.out _ hq);clear hz;go_wp2_with fail;refine bodyPost_ret (v:=.tuple #[.slice none 0 0,.int .i64 2]) ?_ rfl ⟨none,0,[],rfl,PsOwn.nil _ _,rfl,(fun q hq=>by cases hq),HZ.out⟩;simp[results,Tryz.f11,go_sem]
 by_cases hs1:(l.sigs.length:Int)≤s
 · skip
   have hz:=err_ask (l:=l) (s:=s) (x:=x) (vs:=vs) (Bool.eq_false_iff.2 fun h=>by have :=(ask_parts.1 h).2.1;omega);have her:=HER.out.1;have hal:=HER.out.2;rw[hz.1] at her;rw[hz.2] at hal;subst her hal;have HZ:=Zz (HQb.out _ hq);clear hz;go_wp2_with fail;refine bodyPost_ret (v:=.tuple #[.slice none 0 0,.int .i64 2]) ?_ rfl ⟨none,0,[],rfl,PsOwn.nil _ _,rfl,(fun q hq=>by cases hq),HZ.out⟩;simp[results,Tryz.f11,go_sem]
 by_cases hx0:x<0
 · skip
   have hz:=err_ask (l:=l) (s:=s) (x:=x) (vs:=vs) (Bool.eq_false_iff.2 fun h=>by have :=(ask_parts.1 h).2.2.1;omega);have her:=HER.out.1;have hal:=HER.out.2;rw[hz.1] at her;rw[hz.2] at hal;subst her hal;have HZ:=Zz (HQb.out _ hq);clear hz;go_wp2_with fail;refine bodyPost_ret (v:=.tuple #[.slice none 0 0,.int .i64 2]) ?_ rfl ⟨none,0,[],rfl,PsOwn.nil _ _,rfl,(fun q hq=>by cases hq),HZ.out⟩;simp[results,Tryz.f11,go_sem]
 by_cases hx1:(l.exits.length:Int)≤x
 · skip
   have hz:=err_ask (l:=l) (s:=s) (x:=x) (vs:=vs) (Bool.eq_false_iff.2 fun h=>by have :=(ask_parts.1 h).2.2.1;omega);have her:=HER.out.1;have hal:=HER.out.2;rw[hz.1] at her;rw[hz.2] at hal;subst her hal;have HZ:=Zz (HQb.out _ hq);clear hz;go_wp2_with fail;refine bodyPost_ret (v:=.tuple #[.slice none 0 0,.int .i64 2]) ?_ rfl ⟨none,0,[],rfl,PsOwn.nil _ _,rfl,(fun q hq=>by cases hq),HZ.out⟩;simp[results,Tryz.f11,go_sem]
 by_cases hv2:(2:Int)<vs.length
 · skip
   have hz:=err_ask (l:=l) (s:=s) (x:=x) (vs:=vs) (Bool.eq_false_iff.2 fun h=>by have :=(ask_parts.1 h).2.2.2;unfold viasV at this;simp at this;omega);have her:=HER.out.1;have hal:=HER.out.2;rw[hz.1] at her;rw[hz.2] at hal;subst her hal;have HZ:=Zz (HQb.out _ hq);clear hz;go_wp2_with fail;refine bodyPost_ret (v:=.tuple #[.slice none 0 0,.int .i64 2]) ?_ rfl ⟨none,0,[],rfl,PsOwn.nil _ _,rfl,(fun q hq=>by cases hq),HZ.out⟩;simp[results,Tryz.f11,go_sem]
 obtain⟨sn,rfl⟩:∃n:Nat,s=n:=⟨s.toNat,by omega⟩
 obtain⟨xn,rfl⟩:∃n:Nat,x=n:=⟨x.toNat,by omega⟩
 have HSX:Hid (sn<l.sigs.length∧xn<l.exits.length∧vs.length≤2):=Zz ⟨by omega,by omega,by omega⟩
 have hs3:¬l.sigs.length≤sn:=by omega
 have hx3:¬l.exits.length≤xn:=by omega
 have hv3:¬2<vs.length:=by omega
 have b1:decide ((sn:Int)<0)=false:=decide_eq_false (by omega)
 have b2:decide ((xn:Int)<0)=false:=decide_eq_false (by omega)
 have b3:decide ((2:Int)<(vs.length:Int))=false:=decide_eq_false (by omega)
 go_wp2_with fail
 clear x1 x2
 go_loopw [10] (fun i wr=>∃j:Nat,j≤vs.length∧i= .int .i64 j∧Q wr∧Hid ((vs.take j).any (noVia l)=false)) (fun i _=>vs.length - (intOf i).toNat)
 case atStart=>exact⟨0,by omega,rfl,hq,Zz rfl⟩
 case round=>
  clear hq;obtain⟨j,hj,rfl,hq,HNV⟩:=hrel;obtain⟨wa,rfl⟩:∃W,W=wr:=⟨wr,rfl⟩;by_cases hlt:j<vs.length
  · have hlt':(j:Int)<vs.length:=by omega
    obtain⟨v,hv⟩:∃v,vs[j]? =some v:=⟨_,List.getElem?_eq_getElem hlt⟩;obtain⟨b5,o5,HA5,HC5,_⟩:=row_at (f:=fun n:Int=>[.int .i64 n]) (n:=1) (l:=vs) (fun _=>rfl) (by omega) (fun W hW=>by have :=HRV.out W hW;rw[←nums_flat] at this;exact this) hq hv;have HC:Hid (∀W,Q W→W.cell? ⟨b5,o5+j,none⟩=some (.int .i64 v)):=Zz fun W hW=>by have :=HC5.out W hW _ _ _ hv rfl;rwa [Nat.mul_one] at this
    have HNX:Hid ((vs.take (j+1)).any (noVia l)=noVia l v):=Zz (by rw[List.take_add_one,hv,Option.toList_some,List.any_append,HNV.out];simp);have HVF:Hid (noVia l v=true→askV l sn xn vs=true→False):=Zz fun hno ha=>by
     have h1:=(ask_parts.1 ha).2.2.2;unfold viasV at h1;rw[List.any_eq_true.2 ⟨v,List.mem_of_getElem? hv,hno⟩,Bool.not_true,Bool.and_false] at h1;cases h1
    clear HC5 hv HNV;by_cases h1:v<0
    · have HNO:Hid (noVia l v=true):=Zz (by unfold noVia;simp[h1]);go_wp2_with fail;have HBS:Hid (∀W,Below wa.heap.size wa W→Q W):=Zz (fun W hB=>HQ.out _ _ hq hB);clear hq;refine rmx wa f15 (by kernel_rfl) (by kernel_rfl) ?_;simp only[Zg,f15,Lm,Ln];repeat ((first|(refine Zb (by rfl) ?_)|(refine mrd HBS _ (by rfl) (fun W hW=>by(have c0:=HC.out W hW;have m0:=HQl.out W hW;have x0:=m0.Za 0 rfl;clear m0;go_simp;first|done|with_reducible rfl)) ?_)|(refine mrd HBS _ (by rfl) (fun W hW=>by(have c0:=HC.out W hW;have m0:=HQl.out W hW;have x0:=m0.Za 0 rfl;clear m0;rw[HA5.out];go_simp;first|done|with_reducible rfl)) ?_));simp only[Act.put,La,Lb,Lc])
      refine Zd (fun W hW=>?_);have hq:=HBS.out W hW;have HBW:=Zz hW;clear hW HBS;have hz:=err_ask (l:=l) (s:=sn) (x:=xn) (vs:=vs) (Bool.eq_false_iff.2 fun h=>HVF.out HNO.out h);have her:=HER.out.1;have hal:=HER.out.2;rw[hz.1] at her;rw[hz.2] at hal;subst her hal;have HZ:=Zz (HQb.out _ hq);clear hz;go_wp2_with fail;refine bodyPost_ret (v:=.tuple #[.slice none 0 0,.int .i64 2]) ?_ rfl ⟨none,0,[],rfl,PsOwn.nil _ _,rfl,(fun q hq=>by cases hq),HZ.out⟩;simp[results,Tryz.f11,go_sem]
    have d1:decide (v<0)=false:=decide_eq_false h1;by_cases h2:(l.secs.length:Int)≤v
    · have HNO:Hid (noVia l v=true):=Zz (by unfold noVia;simp[h2]);go_wp2_with fail;have HBS:Hid (∀W,Below wa.heap.size wa W→Q W):=Zz (fun W hB=>HQ.out _ _ hq hB);clear hq;refine rmx wa f15 (by kernel_rfl) (by kernel_rfl) ?_;simp only[Zg,f15,Lm,Ln];repeat ((first|(refine Zb (by rfl) ?_)|(refine mrd HBS _ (by rfl) (fun W hW=>by(have c0:=HC.out W hW;have m0:=HQl.out W hW;have x0:=m0.Za 0 rfl;clear m0;go_simp;first|done|with_reducible rfl)) ?_)|(refine mrd HBS _ (by rfl) (fun W hW=>by(have c0:=HC.out W hW;have m0:=HQl.out W hW;have x0:=m0.Za 0 rfl;clear m0;rw[HA5.out];go_simp;first|done|with_reducible rfl)) ?_));simp only[Act.put,La,Lb,Lc])
      refine Zd (fun W hW=>?_);have hq:=HBS.out W hW;have HBW:=Zz hW;clear hW HBS;have hz:=err_ask (l:=l) (s:=sn) (x:=xn) (vs:=vs) (Bool.eq_false_iff.2 fun h=>HVF.out HNO.out h);have her:=HER.out.1;have hal:=HER.out.2;rw[hz.1] at her;rw[hz.2] at hal;subst her hal;have HZ:=Zz (HQb.out _ hq);clear hz;go_wp2_with fail;refine bodyPost_ret (v:=.tuple #[.slice none 0 0,.int .i64 2]) ?_ rfl ⟨none,0,[],rfl,PsOwn.nil _ _,rfl,(fun q hq=>by cases hq),HZ.out⟩;simp[results,Tryz.f11,go_sem]
    have d2:decide ((l.secs.length:Int)≤v)=false:=decide_eq_false h2;have HN2:Hid ((vs.take (j+1)).any (noVia l)=false):=Zz (by rw[HNX.out];unfold noVia;simp[h1];omega);go_wp2_with fail;have HBS:Hid (∀W,Below wa.heap.size wa W→Q W):=Zz (fun W hB=>HQ.out _ _ hq hB);clear hq;refine rmx wa f15 (by kernel_rfl) (by kernel_rfl) ?_;simp only[Zg,f15,Lm,Ln];repeat ((first|(refine Zb (by rfl) ?_)|(refine mrd HBS _ (by rfl) (fun W hW=>by(have c0:=HC.out W hW;have m0:=HQl.out W hW;have x0:=m0.Za 0 rfl;clear m0;go_simp;first|done|with_reducible rfl)) ?_)|(refine mrd HBS _ (by rfl) (fun W hW=>by(have c0:=HC.out W hW;have m0:=HQl.out W hW;have x0:=m0.Za 0 rfl;clear m0;rw[HA5.out];go_simp;first|done|with_reducible rfl)) ?_));simp only[Act.put,La,Lb,Lc])
    refine Zd (fun W hW=>?_);have hq:=HBS.out W hW;have HBW:=Zz hW;clear hW HBS;go_wp2_with fail;go_roundw
    case rel=>exact⟨j+1,hlt,by go_num,hq,HN2⟩
    case measure=>simp[intOf];omega
  · obtain rfl:j=vs.length:=by omega
    have HASK:Hid (askV l sn xn vs=true):=Zz (ask_parts.2 ⟨HRT.out,by have :=HSX.out.1;omega,by have :=HSX.out.2.1;omega,by
     have :=HNV.out;rw[List.take_length] at this;unfold viasV;rw[this,decide_eq_true HSX.out.2.2];rfl⟩);clear HNV;have KWK:Hid (∀W,Q W→Calls Tryz.prog 31 #[l.val,.int .i64 sn] W fun e w'=>∃A c qs,e= .returned (.slice A qs.length c)∧Zr qs A w'∧(qs.map Pth.ss).Perm (walksV l (Zq l sn))∧(∀q ∈ qs,q.s=sn)∧Below W.heap.size W w'):=Zz fun W hW=>walks14R_any (HLW.out W hW) HM.out HSX.out.1;obtain⟨x0,x1,x2,x3,x4,x5,x6,x7,x8,x9,x10⟩:=(HQl.out _ hq).c11;go_wp2_with fail;refine(KWK.out _ hq).mono ?_;rintro e w2 ⟨Aw,cw,ws,rfl,hws,hwp,hwsig,hB2⟩;have hq:=HQ.out _ _ hq hB2;clear KWK x0 x1 x2 x3 x4 x5 x6 x7 x8 x9 x10 hB2;obtain⟨Q,HQ,HQo,HQw,hq⟩:=and_moreS HQ (Zr.closed ws Aw) hq hws;replace HQb:=Zz (fun W hW=>HQb.out W (HQo.out W hW));replace HQl:=Zz (fun W hW=>HQl.out W (HQo.out W hW));replace HLW:=Zz (fun W hW=>HLW.out W (HQo.out W hW));replace HRV:=Zz (fun W hW=>HRV.out W (HQo.out W hW));have HWN:Hid (ws.length≤3072):=Zz (by have h:=hwp.length_eq;rw[List.length_map] at h;rw[h];exact HM.out.walks _);have HWK:Hid (∀p ∈ ws,p.ss ∈ walksV l (Zq l sn)∧p.ss.length≤12):=Zz fun p hp=>by
     have h1:=hwp.mem_iff.1 (List.mem_map.2 ⟨p,hp,rfl⟩);exact⟨h1,(mem_walks.1 h1).2.1⟩
    have HWP:=Zz (And.intro hwp hwsig);have HQ2:=Zz hq;clear hws hwp hwsig HQo;go_wp2_with fail;go_loopw [11,13] (fun v i wr=>∃(j:Nat) (qs:List Pth),j≤ws.length∧i= .int .i64 (j:Int)∧Hid (SrvR l sn xn vs ws w2.heap.size j qs v wr)∧Hid (Below w2.heap.size w2 wr))
     (fun _ i _=>ws.length - (intOf i).toNat)
    case atStart=>exact⟨0,[],Nat.zero_le _,rfl,Zz ⟨World.ownsRow_nil _ _ _ _,(fun q hq=>by cases hq),rfl⟩,Zz (Below.refl _ _)⟩
    case round=>
     clear hq;obtain⟨j,qs,hj,rfl,HI,HB⟩:=hrel;obtain⟨wa,rfl⟩:∃W,W=wr:=⟨wr,rfl⟩;have hq:=HQ.out _ _ HQ2.out HB.out;have hwn:=HWN.out;by_cases hlt:j<ws.length
     · have hlt':(j:Int)<ws.length:=by omega
       obtain⟨p,hp⟩:∃q,ws[j]? =some q:=⟨_,List.getElem?_eq_getElem hlt⟩;have hpm:=List.mem_of_getElem? hp;obtain⟨b6,o6,HA6,HD0,HD⟩:=row_at (f:=Pth.cells) (n:=3) (fun _=>rfl) (by omega) (fun W hW=>(HQw.out W hW).row) hq hp;have c0:=HD0.out _ hq _ _ _ hp rfl;have c1:=HD.out _ hq _ _ 1 _ hp rfl;have c2:=HD.out _ hq _ _ 2 _ hp rfl;obtain rfl:=HA6.out;obtain⟨q,hqe⟩:∃q:Pth,(⟨p.s,xn,p.A,p.c,p.ss⟩:Pth)=q:=⟨_,rfl⟩;have HPQ:=Zz (And.intro hp (And.intro hpm hqe));clear HA6 HD0 HD hp hpm;have HQA:=Zz hq;clear hq;go_upto_region 15 with (fail)
       obtain⟨w4,hw4⟩:∃W,wa.alloc (.cells #[.int .i64 p.s,.int .i64 xn,.slice p.A p.ss.length p.c] 46)=W:=⟨_,rfl⟩;have hB4:Below wa.heap.size wa w4:=by rw[←hw4];exact below1 _ _
       have hb4:Whole w4 wa.heap.size 46 q.cells:=by rw[←hw4,←hqe];exact Whole.new _ _ [_,_,_]
       try rw[hw4]
       have hqA:(.agg #[.int .i64 q.s,.int .i64 q.x,.slice q.A q.ss.length q.c]:Value)= .agg #[.int .i64 p.s,.int .i64 xn,.slice p.A p.ss.length p.c]:=by rw[←hqe]
       obtain⟨gb,hgb⟩:∃n,wa.heap.size=n:=⟨_,rfl⟩;rw[hgb] at hb4;try rw[hgb]
       have HI4:Hid (SrvR l sn xn vs ws w2.heap.size j qs u11 w4):=Zz ⟨Zh HI.out.row hB4,HI.out.each,HI.out.all⟩;have HB4:Hid (Below w2.heap.size w2 w4):=Zz (HB.out.trans (hB4.mono HB.out.size));have HSB:Hid (Below wa.heap.size wa w4):=Zz hB4;have hqQ:=HQ.out _ _ HQ2.out HB4.out;obtain⟨Q4,HQ4,HQ4o,HQ4b,hq4⟩:=and_moreS HQ (Closed.whole gb 46 q.cells) hqQ hb4;have hql:q.ss.length≤12:=by rw[←hqe];exact(HWK.out p HPQ.out.2.1).2
       have HQL:Hid (∀W,Q4 W→PLies q W):=Zz fun W hW=>by have h1:=(HQw.out W (HQ4o.out W hW)).each p HPQ.out.2.1;rw[←hqe];exact⟨h1.row,h1.len⟩
       obtain⟨b1,hb1⟩:∃b,(check11 l q vs==0)=b:=⟨_,rfl⟩;obtain⟨b2,hb2⟩:∃b,(!clashN (ofV l q))=b:=⟨_,rfl⟩;have K1:Hid (∀W,Q4 W→Calls Tryz.prog 18 #[l.val,q.val,.slice A vs.length c] W fun e w'=>e= .returned (.bool b1)∧Below W.heap.size W w'):=Zz fun W hW=>isR11_any (HLW.out W (HQ4o.out W hW)) (HQL.out W hW) (HRV.out W (HQ4o.out W hW)) HN.out hb1;have K2:Hid (∀W,Q4 W→Calls Tryz.prog 19 #[l.val,q.val] W fun e w'=>e= .returned (.bool b2)∧Below W.heap.size W w'):=Zz fun W hW=>fineR_any (HLW.out W (HQ4o.out W hW)) (HQL.out W hW) (fun x hx=>by have :=HM.out.overs x hx;omega) (by have :=HM.out.flanks;omega) (by omega) (HM.out.of (by omega)) hb2;have HSV:Hid (serveV l sn xn vs p.ss=(b1&&b2)):=Zz (by
        have h1:q.s=sn:=by rw[←hqe];exact HWP.out.2 p HPQ.out.2.1
        have h2:q.x=xn:=by rw[←hqe]
        have h3:q.ss=p.ss:=by rw[←hqe]
        rw[←h3,Bool.eq_iff_iff,Bool.and_eq_true];constructor
        · intro h;have :=serve_to h h1 h2;rw[hb1,hb2] at this;exact this
        · rintro⟨e1,e2⟩;rw[←h1,←h2];exact serve_of (hb1.trans e1) (hb2.trans e2));clear hw4 hB4 hb4 hgb hqQ hb1 hb2 c0 c1 c2;have K1':Hid (∀W,Q4 W→Calls Tryz.prog 18 #[l.val,.agg #[.int .i64 p.s,.int .i64 xn,.slice p.A p.ss.length p.c],.slice A vs.length c] W fun e w'=>e= .returned (.bool b1)∧Below W.heap.size W w'):=Zz fun W hW=>by rw[←hqA];exact K1.out W hW
       have K2':Hid (∀W,Q4 W→Calls Tryz.prog 19 #[l.val,.agg #[.int .i64 p.s,.int .i64 xn,.slice p.A p.ss.length p.c]] W fun e w'=>e= .returned (.bool b2)∧Below W.heap.size W w'):=Zz fun W hW=>by rw[←hqA];exact K2.out W hW
       have HBOX:Hid (∀W,Q4 W→Whole W gb 46 [.int .i64 p.s,.int .i64 xn,.slice p.A p.ss.length p.c]):=Zz fun W hW=>by have :=HQ4b.out W hW;rw[←hqe] at this;exact this
       have HQE:=Zz hqe;clear K1 K2 hqA hqe hql;obtain⟨x0,x1,x2,x3,x4,x5,x6,x7,x8,x9,x10⟩:=(HQl.out _ (HQ4o.out _ hq4)).c11;obtain⟨y0,y1,y2⟩:=(HBOX.out _ hq4).c3;go_wp2_with fail;refine(K1'.out _ hq4).mono ?_;rintro e w5 ⟨rfl,hB5⟩;have HI5:Hid (SrvR l sn xn vs ws w2.heap.size j qs u11 w5):=Zz ⟨Zh HI4.out.row hB5,HI4.out.each,HI4.out.all⟩;have HB5:Hid (Below w2.heap.size w2 w5):=Zz (HB4.out.trans (hB5.mono HB4.out.size));have hq5:=HQ4.out _ _ hq4 hB5;clear K1' x0 x1 x2 x3 x4 x5 x6 x7 x8 x9 x10 y0 y1 y2 hq4 hB5 HI4 HB4;cases b1
       · have HS:Hid (SrvR l sn xn vs ws w2.heap.size (j+1) qs u11 w5):=Zz ⟨HI5.out.row,HI5.out.each,by rw[HI5.out.all,srvV_succ HPQ.out.1,if_neg (by rw[HSV.out];simp),List.append_nil]⟩;go_wp2_with fail;go_roundw
         case rel=>exact⟨j+1,qs,hlt,by go_num,HS,HB5⟩
         case measure=>simp[intOf];omega
       obtain⟨x0,x1,x2,x3,x4,x5,x6,x7,x8,x9,x10⟩:=(HQl.out _ (HQ4o.out _ hq5)).c11;obtain⟨y0,y1,y2⟩:=(HBOX.out _ hq5).c3;go_wp2_with fail;refine(K2'.out _ hq5).mono ?_;rintro e w6 ⟨rfl,hB6⟩;have HI6:Hid (SrvR l sn xn vs ws w2.heap.size j qs u11 w6):=Zz ⟨Zh HI5.out.row hB6,HI5.out.each,HI5.out.all⟩;have HB6:Hid (Below w2.heap.size w2 w6):=Zz (HB5.out.trans (hB6.mono HB5.out.size));have hq6:=HQ4.out _ _ hq5 hB6;clear K2' x0 x1 x2 x3 x4 x5 x6 x7 x8 x9 x10 y0 y1 y2 hq5 hB6 HI5 HB5;cases b2
       · have HS:Hid (SrvR l sn xn vs ws w2.heap.size (j+1) qs u11 w6):=Zz ⟨HI6.out.row,HI6.out.each,by rw[HI6.out.all,srvV_succ HPQ.out.1,if_neg (by rw[HSV.out];simp),List.append_nil]⟩;go_wp2_with fail;go_roundw
         case rel=>exact⟨j+1,qs,hlt,by go_num,HS,HB6⟩
         case measure=>simp[intOf];omega
       obtain⟨y0,y1,y2⟩:=(HBOX.out _ hq6).c3;have hqn:qs.length≤3072:=by have h1:=congrArg List.length HI6.out.all;rw[List.length_map] at h1;have h2:=srvV_le l sn xn vs ws j;omega
       have hb7:=below1 w6 (.cells q.cells.toArray 46);have hcc:q.cells=[.int .i64 p.s,.int .i64 xn,.slice p.A p.ss.length p.c]:=by rw[←HQE.out]
       obtain⟨v',w7,hrun,hO7,_,hB7,_⟩:=append_path w2.heap.size qs.length u11 (qs.flatMap Pth.cells) q (w6.alloc (.cells q.cells.toArray 46)) w6.heap.size (Zh HI6.out.row hb7) (Whole.new w6 _ q.cells) (by omega) (by have h1:=HB6.out.size;simp;omega);have HS:Hid (SrvR l sn xn vs ws w2.heap.size (j+1) (qs++[q]) v' w7):=Zz ⟨by rw[List.length_append,List.flatMap_append];simpa using hO7,fun q' hq'=>by
        rcases List.mem_append.1 hq' with hq'|hq'
        · exact HI6.out.each q' hq'
        · rw[List.mem_singleton.1 hq'];exact⟨p,HPQ.out.2.1,HQE.out.symm⟩,by rw[List.map_append,HI6.out.all,srvV_succ HPQ.out.1,if_pos (by rw[HSV.out];rfl),←HQE.out];rfl⟩;have HB7:Hid (Below w2.heap.size w2 w7):=Zz ((HB6.out.trans (hb7.mono HB6.out.size)).trans hB7);rw[hcc] at hrun;clear hO7 hB7 hb7 hcc hqn;go_wp2_with (at_builtin;refine Zo rfl (.tmp 90) (.tmp 92) 33 rfl hrun ?_);go_roundw
       case rel=>exact⟨j+1,qs++[q],hlt,by go_num,HS,HB7⟩
       case measure=>simp[intOf];omega
     · obtain rfl:j=ws.length:=by omega
       have hal:qs.map Pth.ss=(ws.map Pth.ss).filter (serveV l sn xn vs):=by
        have h1:=HI.out.all;unfold srvV at h1;rwa [List.take_length] at h1
       have hpm:(qs.map Pth.ss).Perm ((walksV l (Zq l sn)).filter (serveV l sn xn vs)):=by rw[hal];exact HWP.out.1.filter _
       have HPM:=Zz hpm;have hqn:qs.length≤3072:=by have h1:=congrArg List.length HI.out.all;rw[List.length_map] at h1;have h2:=srvV_le l sn xn vs ws ws.length;omega
       have HEQ:Hid (∀q ∈ qs,q.ss.length≤12∧q.s=sn∧q.x=xn):=Zz fun q hq'=>by
        obtain⟨p,hp,rfl⟩:=HI.out.each q hq';exact⟨(HWK.out p hp).2,HWP.out.2 p hp,rfl⟩
       obtain⟨A8,c8,rfl,hr8,_⟩:=ownsS_slice HI.out.row;have hPL:Zr qs A8 wa:=⟨hr8,fun q hq'=>by
        obtain⟨p,hp,rfl⟩:=HI.out.each q hq';have h1:=(HQw.out _ hq).each p hp;exact⟨h1.row,h1.len⟩⟩;have KS:=Zz (sortR12_any c8 (HLW.out _ hq) hPL (fun q hq'=>by have :=(HEQ.out q hq').1;omega) (by omega));have HBZ:=Zz (HQb.out _ hq);have HSZ:Hid (qs.length=0→er=140∧al=[]):=Zz fun h0=>by
        have h1:=List.eq_nil_of_length_eq_zero h0;have h2:allV l sn xn vs=[]:=by
         unfold allV;have h3:=HPM.out;rw[h1] at h3;rw[h3.symm.eq_nil];exact(sort_perm _ []).eq_nil
        refine⟨?_,by rw[←HER.out.2,h2]⟩;rw[←HER.out.1];unfold errA;rw[HASK.out,if_pos rfl,if_pos h2]
       clear hal hpm hr8 hPL HI;by_cases h0:qs.length=0
       · obtain⟨rfl,rfl⟩:=HSZ.out h0;have h0':((qs.length:Int)==0)=true:=by rw[h0];rfl
         clear hq;go_wp2_with fail;refine bodyPost_ret (v:=.tuple #[.slice none 0 0,.int .i64 140]) ?_ rfl ⟨none,0,[],rfl,PsOwn.nil _ _,rfl,(fun q hq=>by cases hq),HBZ.out⟩;simp[results,Tryz.f11,go_sem]
       · have h0':((qs.length:Int)==0)=false:=beq_false_of_ne (by omega);have h0'':(qs.length==0)=false:=by simpa using h0
         obtain⟨x0,x1,x2,x3,x4,x5,x6,x7,x8,x9,x10⟩:=(HQl.out _ hq).c11;go_wp2_with fail;refine KS.out.mono ?_;rintro e w5 ⟨A9,c9,rs,rfl,hP9,hpk,hso,hB9⟩;have hss:(rs.map Pth.ss).Perm (qs.map Pth.ss):=by
          have h1:=hpk.map (fun z=>z.2.2);rwa [List.map_map,List.map_map] at h1
         have HZ:Hid (rs.map Pth.ss=al∧er=0∧PsOwn w.heap.size rs A9 c9 w5∧(∀q ∈ rs,q.s=sn∧q.x=xn)∧Below w.heap.size w w5):=Zz (by
          have h1:rs.map Pth.ss=allV l sn xn vs:=sort_is (hss.trans HPM.out) (fun w hw=>(mem_walks.1 (List.mem_filter.1 hw).1).2.2.1) hso;refine⟨by rw[h1,HER.out.2],?_,hP9.base HBZ.out.size,fun q hq'=>?_,HBZ.out.trans (hB9.mono HBZ.out.size)⟩
          · rw[←HER.out.1];refine err_ok.2 (fun e=>?_);rw[e] at h1;have h2:=hpk.length_eq;rw[List.length_map,List.length_map] at h2;have h3:=congrArg List.length h1;rw[List.length_map] at h3;simp at h3;rw[h3] at h2;exact h0 (by simpa using h2.symm)
          · have h2:=hpk.mem_iff.1 (List.mem_map.2 ⟨q,hq',rfl⟩);obtain⟨p,hp,e⟩:=List.mem_map.1 h2;have h3:=HEQ.out p hp;have e1:p.s=q.s:=congrArg (fun z=>z.1) e;have e2:p.x=q.x:=congrArg (fun z=>z.2.1) e;rw[←e1,←e2];exact h3.2);obtain rfl:=HZ.out.2.1;clear hP9 hpk hso hB9 hss x0 x1 x2 x3 x4 x5 x6 x7 x8 x9 x10 hq KS;go_wp2_with fail;refine bodyPost_ret (v:=.tuple #[.slice A9 rs.length c9,.int .i64 0]) ?_ rfl ⟨A9,c9,rs,rfl,HZ.out.2.2.1,HZ.out.1,HZ.out.2.2.2.1,HZ.out.2.2.2.2⟩;simp[results,Tryz.f11,go_sem]
end
end Go.Proofs.YtifnlhfinjfajaaGreatDoor
