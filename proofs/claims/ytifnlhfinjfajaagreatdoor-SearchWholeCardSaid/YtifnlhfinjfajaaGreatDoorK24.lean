/- Of this seat: TopoA. -/
import Derived.Test.YtifnlhfinjfajaaGreatDoorK07
namespace Go.Proofs.YtifnlhfinjfajaaGreatDoor
set_option linter.unusedVariables false
set_option linter.unusedSimpArgs false
set_option maxRecDepth 100000
set_option maxHeartbeats 32000000
section
open Go.RowKit Go.Shelf
attribute [local go_sem] Oper.semAt_some
theorem range_at {n j:Nat} (h:j<n):(List.range n)[j]? =some j:=by rw[List.getElem?_range h]
theorem pairs_any (n:Nat) (w:World):Calls Tryz.prog 163 #[.int .i64 n] w fun e w'=>e= .returned (.func (.func 190) #[] #[.pointer (some ⟨w.heap.size,0,none⟩)])∧w'=w.alloc (.cells #[.int .i64 n] 3):=by
 go_enter Tryz.func163,Tryz.ntmps163;go_wp2_with fail;go_ret;exact⟨rfl,rfl⟩
theorem pairs_iter {w0:World} {g n0 n:Nat} (hbox:Whole w0 g 3 [.int .i64 n]) (hn:(n:Int)≤9223372036854775807):
 Iter Tryz.prog 190 #[.pointer (some ⟨g,0,none⟩)] (fun x:Nat×Nat=>#[.int .i64 x.1,.int .i64 x.2]) (pairsL n) (fun k=>k<n0∨k=g) w0:=by
 intro L S J Jx W hk0 hS hJ hJx hY h0
 have hbox:=hk0.whole (.inr rfl) hbox
 have HD:Hid (∀k,S k→¬(k<n0∨k=g)):=Zz (fun k hk=>(hS k hk).1)
 obtain⟨xs,HXS⟩:∃xs,Hid (pairsL n=xs):=⟨_,Zz rfl⟩
 rw[HXS.out] at hY ⊢
 have x0:=hbox.Za 0 rfl
 clear hbox hS
 refine(callsIn_wide (n:=3)).1 ?_
 refine callsIn_of_wp Tryz.func190 rfl trivial ?_ rfl
 simp only[Tryz.ntmps190,Ld,Le,Lf,Nat.reduceAdd,Nat.reduceSub,Lg,Lh,Li,Lj,Lk,Ll]
 gi_wp2
 clear x0
 gi_loopw [6] (fun i wr=>∃(j:Nat) (pre:List (Nat×Nat)),j≤n∧i= .int .i64 j∧J pre.length wr∧Keeps (fun k=>k<n0∨k=g) w0 wr∧Hid (pre++((List.range n).drop j).flatMap rowP=xs))
  (fun i _=>n - (intOf i).toNat)
 case atStart=>exact⟨0,[],by omega,rfl,h0,hk0,Zz (by rw[←HXS.out];rfl)⟩
 case round=>
  obtain⟨j,pre,hj,rfl,hJs,hk,HP⟩:=hrel;by_cases hlt:j<n
  · have hlt':(j:Int)<n:=by omega
    obtain⟨rest,HRe⟩:∃rest,Hid (((List.range n).drop (j+1)).flatMap rowP=rest):=⟨_,Zz rfl⟩;have HP1:Hid (pre++(rowP j++rest)=xs):=Zz (by rw[←HP.out,drop_at (range_at hlt),List.flatMap_cons,HRe.out]);clear HP;have HJ1:=Zz hJs;have HK1:=Zz hk;gi_wp2
    gi_loopw [10] (fun i wr=>∃(q:Nat) (pre:List (Nat×Nat)),q≤j∧i= .int .i64 q∧J pre.length wr∧Keeps (fun k=>k<n0∨k=g) w0 wr∧Hid (pre++(((List.range j).drop q).map (fun a=>(a,j))++rest)=xs))
     (fun i _=>j - (intOf i).toNat)
    case atStart=>exact⟨0,pre,by omega,rfl,HJ1.out,HK1.out,HP1⟩
    case round=>
     clear HJ1 HK1 HP1 hJs hk;obtain⟨q,pre,hq,rfl,hJs,hk,HP⟩:=hrel;by_cases hql:q<j
     · have hql':(q:Int)<j:=by omega
       have HP1:Hid (pre++((q,j)::(((List.range j).drop (q+1)).map (fun a=>(a,j))++rest))=xs):=Zz (by rw[←HP.out,drop_at (range_at hql)];rfl);clear HP;obtain⟨fn,tmps,assign,body,hy,hR⟩:=hY pre.length (q,j) _ (at_pre HP1.out) hJs;have HR:=Zz hR;clear hR;gi_wp2
       refine RoundIn.mono (RoundIn.wide HR.out) ?_;clear HR hy;rintro e W3 (⟨rfl,hJ3,hk3⟩|⟨rfl,hJx3,hk3⟩)
       · gi_wp2
         go_roundw
         case rel=>exact⟨q+1,pre++[(q,j)],hql,by go_num,by rw[List.length_append];exact hJ3,hk.trans (hk3.keeps HD.out),Zz (push_pre HP1.out)⟩
         case measure=>simp[intOf];omega
       · gi_wp2
         refine bodyPost_ret (results_none rfl _ _ _) rfl ?_;exact⟨⟨_,rfl⟩,.inr hJx3⟩
     · obtain rfl:q=j:=by omega
       have HP1:Hid (pre++rest=xs):=Zz (by rw[←HP.out];simp);clear HP;gi_wp2
       go_roundw
       case rel=>exact⟨q+1,pre,hlt,by go_num,hJs,hk,Zz (by rw[HRe.out];exact HP1.out)⟩
       case measure=>simp[intOf];omega
  · obtain rfl:j=n:=by omega
    have HE:Hid (pre.length=xs.length):=Zz (by rw[←HP.out,List.drop_eq_nil_of_le (by simp)];simp);gi_wp2
    go_end0
    exact⟨⟨_,rfl⟩,.inl (HE.out ▸ hJs)⟩
theorem Zl.find {α:Type} {pr:α→Bool} {l:List α} (h:Zl pr l l.length):l.find? pr=none:=by
 rw[List.find?_eq_none];intro x hx;obtain⟨i,hi,rfl⟩:=List.getElem_of_mem hx;have :=h.any;rw[List.any_eq_false] at this;exact this _ hx
theorem Zl.hit {α:Type} {pr:α→Bool} {l:List α} {j:Nat} {x:α} (h:Zl pr l j) (hx:l[j]? =some x) (hp:pr x=true):l.find? pr=some x:=by
 obtain⟨hj,hx'⟩:=List.getElem?_eq_some_iff.1 hx;rw[List.find?_eq_some_iff_getElem];refine⟨hp,j,hj,hx',fun i hi=>?_⟩;have :=h i (l[i]'(by omega)) hi (List.getElem?_eq_getElem (by omega));rw[this];rfl
theorem sameSig_any (a b:Int×Int) (w:World):Calls Tryz.prog 117 #[prtV a.1 a.2,prtV b.1 b.2] w fun e w'=>e= .returned (.bool (sameG a b))∧Below w.heap.size w w':=by
 have b0:Whole ((w.alloc (.cells #[.int .i64 a.1,.int .i64 a.2] 83)).alloc (.cells #[.int .i64 b.1,.int .i64 b.2] 83)) w.heap.size 83 (Zf a):=(Whole.new w _ (Zf a)).alloc _;have b1:Whole ((w.alloc (.cells #[.int .i64 a.1,.int .i64 a.2] 83)).alloc (.cells #[.int .i64 b.1,.int .i64 b.2] 83)) (w.heap.size+1) 83 (Zf b):=Whole.Zj _ _ (Zf b) _ (by simp);have x0:=b0.Za 0 rfl;have y0:=b1.Za 0 rfl;have x1:=b0.Za 1 rfl;have y1:=b1.Za 1 rfl;clear b0 b1;have heq:∀W:World,(binOp .eql 59 (prtV a.1 a.2) (prtV b.1 b.2)).run Tryz.prog W= .ok (.bool (a.1==b.1&&a.2==b.2)) W:=fun W=>eql_prt W _ _ _ _;go_enter Tryz.func117,Tryz.ntmps117;go_wp2_with fail;go_ret;exact⟨Zc (by rfl),below2 _ _ _⟩
theorem sameExm_any (a b:Exm) (w:World):Calls Tryz.prog 120 #[a.val,b.val] w fun e w'=>e= .returned (.bool (sameE a b))∧Below w.heap.size w w':=by
 have b0:Whole ((w.alloc (.cells #[.int .i64 a.s,.int .i64 a.q,.slice a.A a.over.length a.c] 87)).alloc (.cells #[.int .i64 b.s,.int .i64 b.q,.slice b.A b.over.length b.c] 87)) w.heap.size 87 (Exm.cells a):=(Whole.new w _ (Exm.cells a)).alloc _;have b1:Whole ((w.alloc (.cells #[.int .i64 a.s,.int .i64 a.q,.slice a.A a.over.length a.c] 87)).alloc (.cells #[.int .i64 b.s,.int .i64 b.q,.slice b.A b.over.length b.c] 87)) (w.heap.size+1) 87 (Exm.cells b):=Whole.Zj _ _ (Exm.cells b) _ (by simp);have x0:=b0.Za 0 rfl;have y0:=b1.Za 0 rfl;have x1:=b0.Za 1 rfl;have y1:=b1.Za 1 rfl;have x2:=b0.Za 2 rfl;have y2:=b1.Za 2 rfl;clear b0 b1;have heq:∀W:World,(binOp .eql 59 (prtV a.s a.q) (prtV b.s b.q)).run Tryz.prog W= .ok (.bool (a.s==b.s&&a.q==b.q)) W:=fun W=>eql_prt W _ _ _ _;go_enter Tryz.func120,Tryz.ntmps120;go_wp2_with fail;go_ret;exact⟨Zc (by rfl),below2 _ _ _⟩
theorem sameFlk_any (a b:Int×Int×Int×Int) (w:World):Calls Tryz.prog 125 #[flkV a.1 a.2.1 a.2.2.1 a.2.2.2,flkV b.1 b.2.1 b.2.2.1 b.2.2.2] w fun e w'=>e= .returned (.bool (sameF a b))∧Below w.heap.size w w':=by
 have b0:Whole ((w.alloc (.cells #[.int .i64 a.1,.int .i64 a.2.1,.int .i64 a.2.2.1,.int .i64 a.2.2.2] 136)).alloc (.cells #[.int .i64 b.1,.int .i64 b.2.1,.int .i64 b.2.2.1,.int .i64 b.2.2.2] 136)) w.heap.size 136 (flkCells a):=(Whole.new w _ (flkCells a)).alloc _;have b1:Whole ((w.alloc (.cells #[.int .i64 a.1,.int .i64 a.2.1,.int .i64 a.2.2.1,.int .i64 a.2.2.2] 136)).alloc (.cells #[.int .i64 b.1,.int .i64 b.2.1,.int .i64 b.2.2.1,.int .i64 b.2.2.2] 136)) (w.heap.size+1) 136 (flkCells b):=Whole.Zj _ _ (flkCells b) _ (by simp);have x0:=b0.Za 0 rfl;have y0:=b1.Za 0 rfl;have x1:=b0.Za 1 rfl;have y1:=b1.Za 1 rfl;have x2:=b0.Za 2 rfl;have y2:=b1.Za 2 rfl;clear b0 b1;by_cases e1:a.1=b.1
 · by_cases e2:a.2.1=b.2.1
   · go_enter Tryz.func125,Tryz.ntmps125;go_wp2_with fail;go_ret;exact⟨Zc (by unfold sameF;rw[decide_eq_true e1,decide_eq_true e2];first|rfl|simp),below2 _ _ _⟩
   · go_enter Tryz.func125,Tryz.ntmps125;go_wp2_with fail;go_ret;exact⟨Zc (by unfold sameF;rw[decide_eq_false e2];simp),below2 _ _ _⟩
 · go_enter Tryz.func125,Tryz.ntmps125;go_wp2_with fail;go_ret;exact⟨Zc (by unfold sameF;rw[decide_eq_false e1];rfl),below2 _ _ _⟩
theorem secondSig_any {w:World} {l:List (Int×Int)} {A:Option Addr} {c:Nat} (hR:Row w w.heap.size A (l.flatMap Zf)) (hn:(l.length:Int)≤9223372036854775807) {r:Int×Bool} (hr:Zv sameG l=r):
 Calls Tryz.prog 116 #[.slice A l.length c,.func (.func 117) #[] #[]] w fun e w'=>e= .returned (.tuple #[.int .i64 r.1,.bool r.2])∧Below w.heap.size w w':=by
 have HRow:=Zz (fun W (hB:Below w.heap.size w W)=>hR.below hB)
 have HR:=Zz hr
 clear hR hr
 refine(callsIn_wide (n:=5)).1 ?_
 refine callsIn_of_wp_marks Tryz.func116 rfl trivial ?_ rfl
 simp only[Tryz.ntmps116,Ld,Le,Lf,Nat.reduceAdd,Nat.reduceSub,Lg,Lh,Li,Lj,Lk,Ll]
 obtain⟨W0,hW0,hsz,hB0,b0,b1,b2,b3⟩:∃W0,((((w.alloc (.cells #[.slice A l.length c] 23)).alloc (.cells #[.func (.func 117) #[] #[]] 163)).alloc (.cells #[.int .i64 0] 3)).alloc (.cells #[.bool false] 4))=W0∧W0.heap.size=w.heap.size+4∧Below w.heap.size w W0∧Whole W0 w.heap.size 23 [.slice A l.length c]∧Whole W0 (w.heap.size+1) 163 [.func (.func 117) #[] #[]]∧Whole W0 (w.heap.size+1+1) 3 [.int .i64 0]∧Whole W0 (w.heap.size+1+1+1) 4 [.bool false]:=
  ⟨_,rfl,by simp,(below3 w _ _ _).alloc (by simp;omega) _,(((Whole.new w _ [_]).alloc _).alloc _).alloc _,((Whole.Zj _ _ [_] _ (by simp)).alloc _).alloc _,(Whole.Zj _ _ [_] _ (by simp)).alloc _,Whole.Zj _ _ [_] _ (by simp)⟩
 have HW0:=Zz hW0
 have HSZ:=Zz hsz
 clear hW0 hsz
 have x0:=b0.Za 0 rfl
 gi_wp2_with fail
 rw[HW0.out]
 gi_wp2_with fail
 refine⟨trivial,(callsIn_wide.2 (pairs_any _ _)).mono ?_⟩
 rintro e w2 ⟨rfl,rfl⟩
 gi_wp2_with fail
 obtain⟨h,hh⟩:∃h,W0.heap.size=h:=⟨_,rfl⟩
 rw[hh]
 have hsz:=HSZ.out
 obtain⟨W1,hW1⟩:∃W1,W0.alloc (.cells #[.int .i64 l.length] 3)=W1:=⟨_,rfl⟩
 have hsz1:W1.heap.size=h+1:=by rw[←hW1];simp;omega
 have hB1:Below w.heap.size w W1:=by rw[←hW1];exact hB0.alloc hB0.size _
 have c0:Whole W1 w.heap.size 23 [.slice A l.length c]:=by rw[←hW1];exact b0.alloc _
 have c1:Whole W1 (w.heap.size+1) 163 [.func (.func 117) #[] #[]]:=by rw[←hW1];exact b1.alloc _
 have c2:Whole W1 (w.heap.size+1+1) 3 [.int .i64 0]:=by rw[←hW1];exact b2.alloc _
 have c3:Whole W1 (w.heap.size+1+1+1) 4 [.bool false]:=by rw[←hW1];exact b3.alloc _
 have c4:Whole W1 h 3 [.int .i64 l.length]:=by rw[←hW1];exact Whole.Zj _ _ [_] _ hh.symm
 rw[hW1]
 clear hW1 b0 b1 b2 b3 x0 HW0 hB0
 have hit:=pairs_iter (n0:=w.heap.size) c4 hn
 refine range_iter (gf:=190) rfl (enters_of Tryz.func190 (by kernel_rfl) rfl) hit (Keeps.refl _ _) (fun k hk=>by rcases hk with hk|hk <;> omega) (fun _=>rfl) (by omega)
  (fun k=>k=w.heap.size+1+1∨k=w.heap.size+1+1+1) (fun k hk e=>by rcases hk with hk|hk <;> rcases e with e|e <;> omega) (fun k hk=>by rcases hk with hk|hk <;> omega)
  (fun j W=>((Whole W w.heap.size 23 [.slice A l.length c]∧Whole W (w.heap.size+1) 163 [.func (.func 117) #[] #[]])∧(Whole W (w.heap.size+1+1) 3 [.int .i64 0]∧Whole W (w.heap.size+1+1+1) 4 [.bool false]))∧(Below w.heap.size w W∧Hid (Zl (dupP sameG l) (pairsL l.length) j)))
  (fun c W=>(∃x:Nat×Nat,((Whole W (w.heap.size+1+1) 3 [.int .i64 x.2]∧Whole W (w.heap.size+1+1+1) 4 [.bool true])∧(pairsL l.length).find? (dupP sameG l)=some x))∧(Below w.heap.size w W∧c= .ret))
  (OwnFrom.and (OwnFrom.and (OwnFrom.and (Own.from (fun s X Y row hs hg hr=>hs.abides hg hr) _) (Own.from (fun s X Y row hs hg hr=>hs.abides hg hr) _)) (OwnFrom.and (Own.from (fun s X Y row hs hg hr=>hs.abides hg hr) _) (Own.from (fun s X Y row hs hg hr=>hs.abides hg hr) _))) (OwnFrom.and (ownFrom_below (Nat.le_refl _) (by omega)) (ownFrom_pure _ _)))
  (fun c=>OwnFrom.and (Own.from (fun s X Y row hs hg hr=>by obtain⟨x,⟨h1,h2⟩,h3⟩:=hs;exact⟨x,⟨h1.abides hg hr,h2.abides hg hr⟩,h3⟩) _) (OwnFrom.and (ownFrom_below (Nat.le_refl _) (by omega)) (ownFrom_pure _ _)))
  ⟨⟨⟨c0,c1⟩,c2,c3⟩,hB1,Zz (Zl.zero _ _)⟩
  (fun _ x a' _=>a'= {tmps:=#[.slice A l.length c,.func (.func 117) #[] #[],.pointer (some ⟨w.heap.size,0,none⟩),.pointer (some ⟨w.heap.size+1,0,none⟩),.pointer (some ⟨w.heap.size+1+1,0,none⟩),.pointer (some ⟨w.heap.size+1+1+1,0,none⟩),.int .i64 x.1,.int .i64 x.2,.slice A l.length c,.int .i64 l.length,.func (.func 190) #[] #[.pointer (some ⟨h,0,none⟩)],.int .i64 x.1,.int .i64 x.2,undef,undef,undef,undef,undef,undef,undef,undef,undef,undef,undef],defers:=[]})
  (fun _ x a' _ X Y row hs hg hr=>hs)
  ?assign ?body ?done ?stop
 case assign=>
  rintro lr j x W K hx hI hK;gi_wp2_with fail;exact hK _ _ (Off.refl _ _) hI rfl
 case body=>
  rintro lr j x a' W hl hx ⟨⟨⟨c0,c1⟩,c2,c3⟩,hB,HN⟩ rfl;have HX:=Zz hx;obtain⟨hm1,hm2⟩:=mem_pairsL.1 (List.mem_of_getElem? hx);clear hx;obtain⟨i,k⟩:=x;simp only at hm1 hm2;have hi:i<l.length:=by omega
  obtain⟨p,hp⟩:∃p,l[i]? =some p:=⟨_,List.getElem?_eq_getElem hi⟩;obtain⟨q,hq⟩:∃q,l[k]? =some q:=⟨_,List.getElem?_eq_getElem hm2⟩;obtain⟨b,off,rfl,_,hc0,hc⟩:=(HRow.out W hB).nth (n:=2) (fun _=>rfl) (by omega) hp;have u0:=hc0 i p _ hp rfl;have u1:=hc i p 1 _ hp rfl;have v0:=hc0 k q _ hq rfl;have v1:=hc k q 1 _ hq rfl;have HD:Hid (dupP sameG l (i,k)=sameG p q):=Zz (dupP_at hp hq);clear hc0 hc hp hq;have c0':=c0;have c1':=c1;have z0:=c0.Za 0 rfl;have z1:=c1.Za 0 rfl;have hi':(i:Int)<l.length:=by omega
  have hk':(k:Int)<l.length:=by omega
  have hi0:(0:Int)≤i:=by omega
  have hk0:(0:Int)≤k:=by omega
  gi_wp2_with fail;refine wpIn_normal (region_inRound lr _ _ 9 (by kernel_rfl) (by kernel_rfl) (by kernel_rfl) noLetsOut ?_);simp only[List.take_succ_cons,List.take_zero,List.drop_succ_cons,List.drop_zero];repeat still_step
  refine wpStill_nil ?_;go_wp2_with fail;clear HRow hit c0 c1 z0 z1 u0 u1 v0 v1;refine(sameSig_any p q _).mono ?_;rintro e w3 ⟨rfl,hB3⟩;have hBd:Below W.heap.size W w3:=(Below.refl W.heap.size W).drew.trans hB3;clear hB3;obtain⟨sv,hsv⟩:∃sv,sameG p q=sv:=⟨_,rfl⟩;rw[hsv] at HD ⊢;clear hsv;cases sv
  · have HN1:=Zz (HN.out.succ HX.out HD.out);go_wp2_with fail;gi_wp2_with fail;exact⟨Off.below hBd,⟨⟨c0'.below hBd c0'.lt,c1'.below hBd c1'.lt⟩,c2.below hBd c2.lt,c3.below hBd c3.lt⟩,hB.trans (hBd.mono hB.size),HN1⟩
  · have HF:=Zz (HN.out.hit HX.out HD.out);have d2:=c2.below hBd c2.lt;have d3:=c3.below hBd c3.lt;have f2:=d2.frozen 0;have y2:=d2.Za 0 rfl;have d3':=d3.far (p:=⟨w.heap.size+1+1,0,none⟩) (by show w.heap.size+1+1+1≠w.heap.size+1+1;omega) (.int .i64 k);have f3:=d3'.frozen 0;have y3:=d3'.Za 0 rfl;go_wp2_with fail;gi_wp2_with fail;refine⟨((Off.below hBd).trans (Off.set (p:=⟨w.heap.size+1+1,0,none⟩) _ _ (.inl rfl))).trans (Off.set (p:=⟨w.heap.size+1+1+1,0,none⟩) _ _ (.inr rfl)),⟨(i,k),⟨(d2.set 0 _).far (p:=⟨w.heap.size+1+1+1,0,none⟩) (by show w.heap.size+1+1≠w.heap.size+1+1+1;omega) _,d3'.set 0 _⟩,HF.out⟩,?_,rfl⟩;exact((hB.trans (hBd.mono hB.size)).setCell (p:=⟨w.heap.size+1+1,0,none⟩) (by show w.heap.size≤w.heap.size+1+1;omega) _).setCell (p:=⟨w.heap.size+1+1+1,0,none⟩) (by show w.heap.size≤w.heap.size+1+1+1;omega) _
 case done=>
  rintro D W hD ⟨⟨⟨c0,c1⟩,c2,c3⟩,hB,HN⟩ hK;have HA:=Zz HN.out.find;have f2:=c2.frozen 0;have y2:=c2.Za 0 rfl;have d3:=c3.far (p:=⟨w.heap.size+1+1,0,none⟩) (by show w.heap.size+1+1+1≠w.heap.size+1+1;omega) (.int .i64 0);have f3:=d3.frozen 0;have y3:=d3.Za 0 rfl;gi_wp2_with fail;have hK2:=(Below.heap_setCell _ ⟨w.heap.size+1+1+1,0,none⟩ (.bool false) D (by show D≠w.heap.size+1+1+1;omega)).trans ((Below.heap_setCell W ⟨w.heap.size+1+1,0,none⟩ (.int .i64 0) D (by show D≠w.heap.size+1+1;omega)).trans hK);have e2:=(((c2.set 0 (.int .i64 0)).far (p:=⟨w.heap.size+1+1+1,0,none⟩) (by show w.heap.size+1+1≠w.heap.size+1+1+1;omega) (.bool false)).putDone (o':=.deferred none) hK2).Za 0 rfl;have e3:=((d3.set 0 (.bool false)).putDone (o':=.deferred none) hK2).Za 0 rfl;have hB2:=(hB.setCell (p:=⟨w.heap.size+1+1,0,none⟩) (by show w.heap.size≤w.heap.size+1+1;omega) (.int .i64 0)).setCell (p:=⟨w.heap.size+1+1+1,0,none⟩) (by show w.heap.size≤w.heap.size+1+1+1;omega) (.bool false);refine⟨by simp,.inl ⟨_,_,rfl,run_takeDeferred hK2,?_⟩⟩;refine⟨.tuple #[.int .i64 0,.bool false],by simp[results,Tryz.f116,go_sem,e2,e3],by rw[←HR.out];unfold Zv;rw[HA.out],hB2.trans (belowK_b (w:=w) (Nat.le_refl _) _ D _ _ (by omega) hK2 rfl rfl)⟩
 case stop=>
  rintro D cc W hD ⟨⟨x,⟨c2,c3⟩,hx⟩,hB,rfl⟩ hK;have HA:=Zz hx;clear hx;have e2:=(c2.putDone (o':=.deferred none) hK).Za 0 rfl;have e3:=(c3.putDone (o':=.deferred none) hK).Za 0 rfl;gi_wp2_with fail;refine⟨by simp,.inl ⟨_,_,rfl,run_takeDeferred hK,?_⟩⟩;refine⟨.tuple #[.int .i64 x.2,.bool true],by simp[results,Tryz.f116,go_sem,e2,e3],by rw[←HR.out];unfold Zv;rw[HA.out],hB.trans (belowK_b (w:=w) (Nat.le_refl _) _ D _ _ (by omega) hK rfl rfl)⟩
theorem secondExm_any {w:World} {l:List (Exm)} {A:Option Addr} {c:Nat} (hR:Row w w.heap.size A (l.flatMap Exm.cells)) (hn:(l.length:Int)≤9223372036854775807) {r:Int×Bool} (hr:Zv sameE l=r):
 Calls Tryz.prog 119 #[.slice A l.length c,.func (.func 120) #[] #[]] w fun e w'=>e= .returned (.tuple #[.int .i64 r.1,.bool r.2])∧Below w.heap.size w w':=by
 have HRow:=Zz (fun W (hB:Below w.heap.size w W)=>hR.below hB)
 have HR:=Zz hr
 clear hR hr
 refine(callsIn_wide (n:=5)).1 ?_
 refine callsIn_of_wp_marks Tryz.func119 rfl trivial ?_ rfl
 simp only[Tryz.ntmps119,Ld,Le,Lf,Nat.reduceAdd,Nat.reduceSub,Lg,Lh,Li,Lj,Lk,Ll]
 obtain⟨W0,hW0,hsz,hB0,b0,b1,b2,b3⟩:∃W0,((((w.alloc (.cells #[.slice A l.length c] 24)).alloc (.cells #[.func (.func 120) #[] #[]] 165)).alloc (.cells #[.int .i64 0] 3)).alloc (.cells #[.bool false] 4))=W0∧W0.heap.size=w.heap.size+4∧Below w.heap.size w W0∧Whole W0 w.heap.size 24 [.slice A l.length c]∧Whole W0 (w.heap.size+1) 165 [.func (.func 120) #[] #[]]∧Whole W0 (w.heap.size+1+1) 3 [.int .i64 0]∧Whole W0 (w.heap.size+1+1+1) 4 [.bool false]:=
  ⟨_,rfl,by simp,(below3 w _ _ _).alloc (by simp;omega) _,(((Whole.new w _ [_]).alloc _).alloc _).alloc _,((Whole.Zj _ _ [_] _ (by simp)).alloc _).alloc _,(Whole.Zj _ _ [_] _ (by simp)).alloc _,Whole.Zj _ _ [_] _ (by simp)⟩
 have HW0:=Zz hW0
 have HSZ:=Zz hsz
 clear hW0 hsz
 have x0:=b0.Za 0 rfl
 gi_wp2_with fail
 rw[HW0.out]
 gi_wp2_with fail
 refine⟨trivial,(callsIn_wide.2 (pairs_any _ _)).mono ?_⟩
 rintro e w2 ⟨rfl,rfl⟩
 gi_wp2_with fail
 obtain⟨h,hh⟩:∃h,W0.heap.size=h:=⟨_,rfl⟩
 rw[hh]
 have hsz:=HSZ.out
 obtain⟨W1,hW1⟩:∃W1,W0.alloc (.cells #[.int .i64 l.length] 3)=W1:=⟨_,rfl⟩
 have hsz1:W1.heap.size=h+1:=by rw[←hW1];simp;omega
 have hB1:Below w.heap.size w W1:=by rw[←hW1];exact hB0.alloc hB0.size _
 have c0:Whole W1 w.heap.size 24 [.slice A l.length c]:=by rw[←hW1];exact b0.alloc _
 have c1:Whole W1 (w.heap.size+1) 165 [.func (.func 120) #[] #[]]:=by rw[←hW1];exact b1.alloc _
 have c2:Whole W1 (w.heap.size+1+1) 3 [.int .i64 0]:=by rw[←hW1];exact b2.alloc _
 have c3:Whole W1 (w.heap.size+1+1+1) 4 [.bool false]:=by rw[←hW1];exact b3.alloc _
 have c4:Whole W1 h 3 [.int .i64 l.length]:=by rw[←hW1];exact Whole.Zj _ _ [_] _ hh.symm
 rw[hW1]
 clear hW1 b0 b1 b2 b3 x0 HW0 hB0
 have hit:=pairs_iter (n0:=w.heap.size) c4 hn
 refine range_iter (gf:=190) rfl (enters_of Tryz.func190 (by kernel_rfl) rfl) hit (Keeps.refl _ _) (fun k hk=>by rcases hk with hk|hk <;> omega) (fun _=>rfl) (by omega)
  (fun k=>k=w.heap.size+1+1∨k=w.heap.size+1+1+1) (fun k hk e=>by rcases hk with hk|hk <;> rcases e with e|e <;> omega) (fun k hk=>by rcases hk with hk|hk <;> omega)
  (fun j W=>((Whole W w.heap.size 24 [.slice A l.length c]∧Whole W (w.heap.size+1) 165 [.func (.func 120) #[] #[]])∧(Whole W (w.heap.size+1+1) 3 [.int .i64 0]∧Whole W (w.heap.size+1+1+1) 4 [.bool false]))∧(Below w.heap.size w W∧Hid (Zl (dupP sameE l) (pairsL l.length) j)))
  (fun c W=>(∃x:Nat×Nat,((Whole W (w.heap.size+1+1) 3 [.int .i64 x.2]∧Whole W (w.heap.size+1+1+1) 4 [.bool true])∧(pairsL l.length).find? (dupP sameE l)=some x))∧(Below w.heap.size w W∧c= .ret))
  (OwnFrom.and (OwnFrom.and (OwnFrom.and (Own.from (fun s X Y row hs hg hr=>hs.abides hg hr) _) (Own.from (fun s X Y row hs hg hr=>hs.abides hg hr) _)) (OwnFrom.and (Own.from (fun s X Y row hs hg hr=>hs.abides hg hr) _) (Own.from (fun s X Y row hs hg hr=>hs.abides hg hr) _))) (OwnFrom.and (ownFrom_below (Nat.le_refl _) (by omega)) (ownFrom_pure _ _)))
  (fun c=>OwnFrom.and (Own.from (fun s X Y row hs hg hr=>by obtain⟨x,⟨h1,h2⟩,h3⟩:=hs;exact⟨x,⟨h1.abides hg hr,h2.abides hg hr⟩,h3⟩) _) (OwnFrom.and (ownFrom_below (Nat.le_refl _) (by omega)) (ownFrom_pure _ _)))
  ⟨⟨⟨c0,c1⟩,c2,c3⟩,hB1,Zz (Zl.zero _ _)⟩
  (fun _ x a' _=>a'= {tmps:=#[.slice A l.length c,.func (.func 120) #[] #[],.pointer (some ⟨w.heap.size,0,none⟩),.pointer (some ⟨w.heap.size+1,0,none⟩),.pointer (some ⟨w.heap.size+1+1,0,none⟩),.pointer (some ⟨w.heap.size+1+1+1,0,none⟩),.int .i64 x.1,.int .i64 x.2,.slice A l.length c,.int .i64 l.length,.func (.func 190) #[] #[.pointer (some ⟨h,0,none⟩)],.int .i64 x.1,.int .i64 x.2,undef,undef,undef,undef,undef,undef,undef,undef,undef,undef,undef],defers:=[]})
  (fun _ x a' _ X Y row hs hg hr=>hs)
  ?assign ?body ?done ?stop
 case assign=>
  rintro lr j x W K hx hI hK;gi_wp2_with fail;exact hK _ _ (Off.refl _ _) hI rfl
 case body=>
  rintro lr j x a' W hl hx ⟨⟨⟨c0,c1⟩,c2,c3⟩,hB,HN⟩ rfl;have HX:=Zz hx;obtain⟨hm1,hm2⟩:=mem_pairsL.1 (List.mem_of_getElem? hx);clear hx;obtain⟨i,k⟩:=x;simp only at hm1 hm2;have hi:i<l.length:=by omega
  obtain⟨p,hp⟩:∃p,l[i]? =some p:=⟨_,List.getElem?_eq_getElem hi⟩;obtain⟨q,hq⟩:∃q,l[k]? =some q:=⟨_,List.getElem?_eq_getElem hm2⟩;obtain⟨b,off,rfl,_,hc0,hc⟩:=(HRow.out W hB).nth (n:=3) (fun _=>rfl) (by omega) hp;have u0:=hc0 i p _ hp rfl;have u1:=hc i p 1 _ hp rfl;have u2:=hc i p 2 _ hp rfl;have v0:=hc0 k q _ hq rfl;have v1:=hc k q 1 _ hq rfl;have v2:=hc k q 2 _ hq rfl;have HD:Hid (dupP sameE l (i,k)=sameE p q):=Zz (dupP_at hp hq);clear hc0 hc hp hq;have c0':=c0;have c1':=c1;have z0:=c0.Za 0 rfl;have z1:=c1.Za 0 rfl;have hi':(i:Int)<l.length:=by omega
  have hk':(k:Int)<l.length:=by omega
  have hi0:(0:Int)≤i:=by omega
  have hk0:(0:Int)≤k:=by omega
  gi_wp2_with fail;refine wpIn_normal (region_inRound lr _ _ 9 (by kernel_rfl) (by kernel_rfl) (by kernel_rfl) noLetsOut ?_);simp only[List.take_succ_cons,List.take_zero,List.drop_succ_cons,List.drop_zero];repeat still_step
  refine wpStill_nil ?_;go_wp2_with fail;clear HRow hit c0 c1 z0 z1 u0 u1 u2 v0 v1 v2;refine(sameExm_any p q _).mono ?_;rintro e w3 ⟨rfl,hB3⟩;have hBd:Below W.heap.size W w3:=(Below.refl W.heap.size W).drew.trans hB3;clear hB3;obtain⟨sv,hsv⟩:∃sv,sameE p q=sv:=⟨_,rfl⟩;rw[hsv] at HD ⊢;clear hsv;cases sv
  · have HN1:=Zz (HN.out.succ HX.out HD.out);go_wp2_with fail;gi_wp2_with fail;exact⟨Off.below hBd,⟨⟨c0'.below hBd c0'.lt,c1'.below hBd c1'.lt⟩,c2.below hBd c2.lt,c3.below hBd c3.lt⟩,hB.trans (hBd.mono hB.size),HN1⟩
  · have HF:=Zz (HN.out.hit HX.out HD.out);have d2:=c2.below hBd c2.lt;have d3:=c3.below hBd c3.lt;have f2:=d2.frozen 0;have y2:=d2.Za 0 rfl;have d3':=d3.far (p:=⟨w.heap.size+1+1,0,none⟩) (by show w.heap.size+1+1+1≠w.heap.size+1+1;omega) (.int .i64 k);have f3:=d3'.frozen 0;have y3:=d3'.Za 0 rfl;go_wp2_with fail;gi_wp2_with fail;refine⟨((Off.below hBd).trans (Off.set (p:=⟨w.heap.size+1+1,0,none⟩) _ _ (.inl rfl))).trans (Off.set (p:=⟨w.heap.size+1+1+1,0,none⟩) _ _ (.inr rfl)),⟨(i,k),⟨(d2.set 0 _).far (p:=⟨w.heap.size+1+1+1,0,none⟩) (by show w.heap.size+1+1≠w.heap.size+1+1+1;omega) _,d3'.set 0 _⟩,HF.out⟩,?_,rfl⟩;exact((hB.trans (hBd.mono hB.size)).setCell (p:=⟨w.heap.size+1+1,0,none⟩) (by show w.heap.size≤w.heap.size+1+1;omega) _).setCell (p:=⟨w.heap.size+1+1+1,0,none⟩) (by show w.heap.size≤w.heap.size+1+1+1;omega) _
 case done=>
  rintro D W hD ⟨⟨⟨c0,c1⟩,c2,c3⟩,hB,HN⟩ hK;have HA:=Zz HN.out.find;have f2:=c2.frozen 0;have y2:=c2.Za 0 rfl;have d3:=c3.far (p:=⟨w.heap.size+1+1,0,none⟩) (by show w.heap.size+1+1+1≠w.heap.size+1+1;omega) (.int .i64 0);have f3:=d3.frozen 0;have y3:=d3.Za 0 rfl;gi_wp2_with fail;have hK2:=(Below.heap_setCell _ ⟨w.heap.size+1+1+1,0,none⟩ (.bool false) D (by show D≠w.heap.size+1+1+1;omega)).trans ((Below.heap_setCell W ⟨w.heap.size+1+1,0,none⟩ (.int .i64 0) D (by show D≠w.heap.size+1+1;omega)).trans hK);have e2:=(((c2.set 0 (.int .i64 0)).far (p:=⟨w.heap.size+1+1+1,0,none⟩) (by show w.heap.size+1+1≠w.heap.size+1+1+1;omega) (.bool false)).putDone (o':=.deferred none) hK2).Za 0 rfl;have e3:=((d3.set 0 (.bool false)).putDone (o':=.deferred none) hK2).Za 0 rfl;have hB2:=(hB.setCell (p:=⟨w.heap.size+1+1,0,none⟩) (by show w.heap.size≤w.heap.size+1+1;omega) (.int .i64 0)).setCell (p:=⟨w.heap.size+1+1+1,0,none⟩) (by show w.heap.size≤w.heap.size+1+1+1;omega) (.bool false);refine⟨by simp,.inl ⟨_,_,rfl,run_takeDeferred hK2,?_⟩⟩;refine⟨.tuple #[.int .i64 0,.bool false],by simp[results,Tryz.f119,go_sem,e2,e3],by rw[←HR.out];unfold Zv;rw[HA.out],hB2.trans (belowK_b (w:=w) (Nat.le_refl _) _ D _ _ (by omega) hK2 rfl rfl)⟩
 case stop=>
  rintro D cc W hD ⟨⟨x,⟨c2,c3⟩,hx⟩,hB,rfl⟩ hK;have HA:=Zz hx;clear hx;have e2:=(c2.putDone (o':=.deferred none) hK).Za 0 rfl;have e3:=(c3.putDone (o':=.deferred none) hK).Za 0 rfl;gi_wp2_with fail;refine⟨by simp,.inl ⟨_,_,rfl,run_takeDeferred hK,?_⟩⟩;refine⟨.tuple #[.int .i64 x.2,.bool true],by simp[results,Tryz.f119,go_sem,e2,e3],by rw[←HR.out];unfold Zv;rw[HA.out],hB.trans (belowK_b (w:=w) (Nat.le_refl _) _ D _ _ (by omega) hK rfl rfl)⟩
theorem secondFlk_any {w:World} {l:List (Int×Int×Int×Int)} {A:Option Addr} {c:Nat} (hR:Row w w.heap.size A (l.flatMap flkCells)) (hn:(l.length:Int)≤9223372036854775807) {r:Int×Bool} (hr:Zv sameF l=r):
 Calls Tryz.prog 124 #[.slice A l.length c,.func (.func 125) #[] #[]] w fun e w'=>e= .returned (.tuple #[.int .i64 r.1,.bool r.2])∧Below w.heap.size w w':=by
 have HRow:=Zz (fun W (hB:Below w.heap.size w W)=>hR.below hB)
 have HR:=Zz hr
 clear hR hr
 refine(callsIn_wide (n:=5)).1 ?_
 refine callsIn_of_wp_marks Tryz.func124 rfl trivial ?_ rfl
 simp only[Tryz.ntmps124,Ld,Le,Lf,Nat.reduceAdd,Nat.reduceSub,Lg,Lh,Li,Lj,Lk,Ll]
 obtain⟨W0,hW0,hsz,hB0,b0,b1,b2,b3⟩:∃W0,((((w.alloc (.cells #[.slice A l.length c] 25)).alloc (.cells #[.func (.func 125) #[] #[]] 168)).alloc (.cells #[.int .i64 0] 3)).alloc (.cells #[.bool false] 4))=W0∧W0.heap.size=w.heap.size+4∧Below w.heap.size w W0∧Whole W0 w.heap.size 25 [.slice A l.length c]∧Whole W0 (w.heap.size+1) 168 [.func (.func 125) #[] #[]]∧Whole W0 (w.heap.size+1+1) 3 [.int .i64 0]∧Whole W0 (w.heap.size+1+1+1) 4 [.bool false]:=
  ⟨_,rfl,by simp,(below3 w _ _ _).alloc (by simp;omega) _,(((Whole.new w _ [_]).alloc _).alloc _).alloc _,((Whole.Zj _ _ [_] _ (by simp)).alloc _).alloc _,(Whole.Zj _ _ [_] _ (by simp)).alloc _,Whole.Zj _ _ [_] _ (by simp)⟩
 have HW0:=Zz hW0
 have HSZ:=Zz hsz
 clear hW0 hsz
 have x0:=b0.Za 0 rfl
 gi_wp2_with fail
 rw[HW0.out]
 gi_wp2_with fail
 refine⟨trivial,(callsIn_wide.2 (pairs_any _ _)).mono ?_⟩
 rintro e w2 ⟨rfl,rfl⟩
 gi_wp2_with fail
 obtain⟨h,hh⟩:∃h,W0.heap.size=h:=⟨_,rfl⟩
 rw[hh]
 have hsz:=HSZ.out
 obtain⟨W1,hW1⟩:∃W1,W0.alloc (.cells #[.int .i64 l.length] 3)=W1:=⟨_,rfl⟩
 have hsz1:W1.heap.size=h+1:=by rw[←hW1];simp;omega
 have hB1:Below w.heap.size w W1:=by rw[←hW1];exact hB0.alloc hB0.size _
 have c0:Whole W1 w.heap.size 25 [.slice A l.length c]:=by rw[←hW1];exact b0.alloc _
 have c1:Whole W1 (w.heap.size+1) 168 [.func (.func 125) #[] #[]]:=by rw[←hW1];exact b1.alloc _
 have c2:Whole W1 (w.heap.size+1+1) 3 [.int .i64 0]:=by rw[←hW1];exact b2.alloc _
 have c3:Whole W1 (w.heap.size+1+1+1) 4 [.bool false]:=by rw[←hW1];exact b3.alloc _
 have c4:Whole W1 h 3 [.int .i64 l.length]:=by rw[←hW1];exact Whole.Zj _ _ [_] _ hh.symm
 rw[hW1]
 clear hW1 b0 b1 b2 b3 x0 HW0 hB0
 have hit:=pairs_iter (n0:=w.heap.size) c4 hn
 refine range_iter (gf:=190) rfl (enters_of Tryz.func190 (by kernel_rfl) rfl) hit (Keeps.refl _ _) (fun k hk=>by rcases hk with hk|hk <;> omega) (fun _=>rfl) (by omega)
  (fun k=>k=w.heap.size+1+1∨k=w.heap.size+1+1+1) (fun k hk e=>by rcases hk with hk|hk <;> rcases e with e|e <;> omega) (fun k hk=>by rcases hk with hk|hk <;> omega)
  (fun j W=>((Whole W w.heap.size 25 [.slice A l.length c]∧Whole W (w.heap.size+1) 168 [.func (.func 125) #[] #[]])∧(Whole W (w.heap.size+1+1) 3 [.int .i64 0]∧Whole W (w.heap.size+1+1+1) 4 [.bool false]))∧(Below w.heap.size w W∧Hid (Zl (dupP sameF l) (pairsL l.length) j)))
  (fun c W=>(∃x:Nat×Nat,((Whole W (w.heap.size+1+1) 3 [.int .i64 x.2]∧Whole W (w.heap.size+1+1+1) 4 [.bool true])∧(pairsL l.length).find? (dupP sameF l)=some x))∧(Below w.heap.size w W∧c= .ret))
  (OwnFrom.and (OwnFrom.and (OwnFrom.and (Own.from (fun s X Y row hs hg hr=>hs.abides hg hr) _) (Own.from (fun s X Y row hs hg hr=>hs.abides hg hr) _)) (OwnFrom.and (Own.from (fun s X Y row hs hg hr=>hs.abides hg hr) _) (Own.from (fun s X Y row hs hg hr=>hs.abides hg hr) _))) (OwnFrom.and (ownFrom_below (Nat.le_refl _) (by omega)) (ownFrom_pure _ _)))
  (fun c=>OwnFrom.and (Own.from (fun s X Y row hs hg hr=>by obtain⟨x,⟨h1,h2⟩,h3⟩:=hs;exact⟨x,⟨h1.abides hg hr,h2.abides hg hr⟩,h3⟩) _) (OwnFrom.and (ownFrom_below (Nat.le_refl _) (by omega)) (ownFrom_pure _ _)))
  ⟨⟨⟨c0,c1⟩,c2,c3⟩,hB1,Zz (Zl.zero _ _)⟩
  (fun _ x a' _=>a'= {tmps:=#[.slice A l.length c,.func (.func 125) #[] #[],.pointer (some ⟨w.heap.size,0,none⟩),.pointer (some ⟨w.heap.size+1,0,none⟩),.pointer (some ⟨w.heap.size+1+1,0,none⟩),.pointer (some ⟨w.heap.size+1+1+1,0,none⟩),.int .i64 x.1,.int .i64 x.2,.slice A l.length c,.int .i64 l.length,.func (.func 190) #[] #[.pointer (some ⟨h,0,none⟩)],.int .i64 x.1,.int .i64 x.2,undef,undef,undef,undef,undef,undef,undef,undef,undef,undef,undef],defers:=[]})
  (fun _ x a' _ X Y row hs hg hr=>hs)
  ?assign ?body ?done ?stop
 case assign=>
  rintro lr j x W K hx hI hK;gi_wp2_with fail;exact hK _ _ (Off.refl _ _) hI rfl
 case body=>
  rintro lr j x a' W hl hx ⟨⟨⟨c0,c1⟩,c2,c3⟩,hB,HN⟩ rfl;have HX:=Zz hx;obtain⟨hm1,hm2⟩:=mem_pairsL.1 (List.mem_of_getElem? hx);clear hx;obtain⟨i,k⟩:=x;simp only at hm1 hm2;have hi:i<l.length:=by omega
  obtain⟨p,hp⟩:∃p,l[i]? =some p:=⟨_,List.getElem?_eq_getElem hi⟩;obtain⟨q,hq⟩:∃q,l[k]? =some q:=⟨_,List.getElem?_eq_getElem hm2⟩;obtain⟨b,off,rfl,_,hc0,hc⟩:=(HRow.out W hB).nth (n:=4) (fun _=>rfl) (by omega) hp;have u0:=hc0 i p _ hp rfl;have u1:=hc i p 1 _ hp rfl;have u2:=hc i p 2 _ hp rfl;have u3:=hc i p 3 _ hp rfl;have v0:=hc0 k q _ hq rfl;have v1:=hc k q 1 _ hq rfl;have v2:=hc k q 2 _ hq rfl;have v3:=hc k q 3 _ hq rfl;have HD:Hid (dupP sameF l (i,k)=sameF p q):=Zz (dupP_at hp hq);clear hc0 hc hp hq;have c0':=c0;have c1':=c1;have z0:=c0.Za 0 rfl;have z1:=c1.Za 0 rfl;have hi':(i:Int)<l.length:=by omega
  have hk':(k:Int)<l.length:=by omega
  have hi0:(0:Int)≤i:=by omega
  have hk0:(0:Int)≤k:=by omega
  gi_wp2_with fail;refine wpIn_normal (region_inRound lr _ _ 9 (by kernel_rfl) (by kernel_rfl) (by kernel_rfl) noLetsOut ?_);simp only[List.take_succ_cons,List.take_zero,List.drop_succ_cons,List.drop_zero];repeat still_step
  refine wpStill_nil ?_;go_wp2_with fail;clear HRow hit c0 c1 z0 z1 u0 u1 u2 u3 v0 v1 v2 v3;refine(sameFlk_any p q _).mono ?_;rintro e w3 ⟨rfl,hB3⟩;have hBd:Below W.heap.size W w3:=(Below.refl W.heap.size W).drew.trans hB3;clear hB3;obtain⟨sv,hsv⟩:∃sv,sameF p q=sv:=⟨_,rfl⟩;rw[hsv] at HD ⊢;clear hsv;cases sv
  · have HN1:=Zz (HN.out.succ HX.out HD.out);go_wp2_with fail;gi_wp2_with fail;exact⟨Off.below hBd,⟨⟨c0'.below hBd c0'.lt,c1'.below hBd c1'.lt⟩,c2.below hBd c2.lt,c3.below hBd c3.lt⟩,hB.trans (hBd.mono hB.size),HN1⟩
  · have HF:=Zz (HN.out.hit HX.out HD.out);have d2:=c2.below hBd c2.lt;have d3:=c3.below hBd c3.lt;have f2:=d2.frozen 0;have y2:=d2.Za 0 rfl;have d3':=d3.far (p:=⟨w.heap.size+1+1,0,none⟩) (by show w.heap.size+1+1+1≠w.heap.size+1+1;omega) (.int .i64 k);have f3:=d3'.frozen 0;have y3:=d3'.Za 0 rfl;go_wp2_with fail;gi_wp2_with fail;refine⟨((Off.below hBd).trans (Off.set (p:=⟨w.heap.size+1+1,0,none⟩) _ _ (.inl rfl))).trans (Off.set (p:=⟨w.heap.size+1+1+1,0,none⟩) _ _ (.inr rfl)),⟨(i,k),⟨(d2.set 0 _).far (p:=⟨w.heap.size+1+1+1,0,none⟩) (by show w.heap.size+1+1≠w.heap.size+1+1+1;omega) _,d3'.set 0 _⟩,HF.out⟩,?_,rfl⟩;exact((hB.trans (hBd.mono hB.size)).setCell (p:=⟨w.heap.size+1+1,0,none⟩) (by show w.heap.size≤w.heap.size+1+1;omega) _).setCell (p:=⟨w.heap.size+1+1+1,0,none⟩) (by show w.heap.size≤w.heap.size+1+1+1;omega) _
 case done=>
  rintro D W hD ⟨⟨⟨c0,c1⟩,c2,c3⟩,hB,HN⟩ hK;have HA:=Zz HN.out.find;have f2:=c2.frozen 0;have y2:=c2.Za 0 rfl;have d3:=c3.far (p:=⟨w.heap.size+1+1,0,none⟩) (by show w.heap.size+1+1+1≠w.heap.size+1+1;omega) (.int .i64 0);have f3:=d3.frozen 0;have y3:=d3.Za 0 rfl;gi_wp2_with fail;have hK2:=(Below.heap_setCell _ ⟨w.heap.size+1+1+1,0,none⟩ (.bool false) D (by show D≠w.heap.size+1+1+1;omega)).trans ((Below.heap_setCell W ⟨w.heap.size+1+1,0,none⟩ (.int .i64 0) D (by show D≠w.heap.size+1+1;omega)).trans hK);have e2:=(((c2.set 0 (.int .i64 0)).far (p:=⟨w.heap.size+1+1+1,0,none⟩) (by show w.heap.size+1+1≠w.heap.size+1+1+1;omega) (.bool false)).putDone (o':=.deferred none) hK2).Za 0 rfl;have e3:=((d3.set 0 (.bool false)).putDone (o':=.deferred none) hK2).Za 0 rfl;have hB2:=(hB.setCell (p:=⟨w.heap.size+1+1,0,none⟩) (by show w.heap.size≤w.heap.size+1+1;omega) (.int .i64 0)).setCell (p:=⟨w.heap.size+1+1+1,0,none⟩) (by show w.heap.size≤w.heap.size+1+1+1;omega) (.bool false);refine⟨by simp,.inl ⟨_,_,rfl,run_takeDeferred hK2,?_⟩⟩;refine⟨.tuple #[.int .i64 0,.bool false],by simp[results,Tryz.f124,go_sem,e2,e3],by rw[←HR.out];unfold Zv;rw[HA.out],hB2.trans (belowK_b (w:=w) (Nat.le_refl _) _ D _ _ (by omega) hK2 rfl rfl)⟩
 case stop=>
  rintro D cc W hD ⟨⟨x,⟨c2,c3⟩,hx⟩,hB,rfl⟩ hK;have HA:=Zz hx;clear hx;have e2:=(c2.putDone (o':=.deferred none) hK).Za 0 rfl;have e3:=(c3.putDone (o':=.deferred none) hK).Za 0 rfl;gi_wp2_with fail;refine⟨by simp,.inl ⟨_,_,rfl,run_takeDeferred hK,?_⟩⟩;refine⟨.tuple #[.int .i64 x.2,.bool true],by simp[results,Tryz.f124,go_sem,e2,e3],by rw[←HR.out];unfold Zv;rw[HA.out],hB.trans (belowK_b (w:=w) (Nat.le_refl _) _ D _ _ (by omega) hK rfl rfl)⟩
end
end Go.Proofs.YtifnlhfinjfajaaGreatDoor
