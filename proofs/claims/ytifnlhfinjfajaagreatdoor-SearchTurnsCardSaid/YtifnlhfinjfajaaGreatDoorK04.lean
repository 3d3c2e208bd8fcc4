/- Of this seat: LayEq, LayP, LayG, LayH, LayI. -/
import Derived.ChangeKeysEq
import Derived.Test.YtifnlhfinjfajaaGreatDoorK03
namespace Go.Proofs.YtifnlhfinjfajaaGreatDoor
set_option linter.unusedVariables false
set_option linter.unusedSimpArgs false
set_option maxRecDepth 100000
set_option maxHeartbeats 32000000
section
open Go.RowKit Go.Shelf
theorem eq_prt (w:World) (d:Nat) (a b c e:Int):(Op.equalIn (d+2) 59 (prtV a b) (prtV c e)).run Tryz.prog w= .ok (a==c&&b==e) w:=by
 cases h1:(a==c) <;> cases h2:(b==e) <;> go_simp
def Sec.same (x y:Sec):Bool:=x.k==y.k&&(((x.s0==y.s0&&x.q0==y.q0)&&((x.s1==y.s1&&x.q1==y.q1)&&((x.s2==y.s2&&x.q2==y.q2)&&(x.s3==y.s3&&x.q3==y.q3))))&&(x.c0==y.c0&&x.c1==y.c1))
theorem eq_stp (w:World) (a b c a' b' c':Int):(Op.equalIn 10000 66 (stpV a b c) (stpV a' b' c')).run Tryz.prog w= .ok (a==a'&&(b==b'&&c==c')) w:=by
 cases h1:(a==a') <;> cases h2:(b==b') <;> cases h3:(c==c') <;> go_simp
def greatV (l:Lay):Bool:=((l.exits.take 31).any fun x=>decide (20<(x.over.length:Int)))||(decide (40<(l.secs.length:Int))||(decide (30<(l.sigs.length:Int))||(decide (30<(l.exits.length:Int))||decide (40<(l.flanks.length:Int)))))
theorem great_no {l:Lay} (h:greatV l=false):l.secs.length≤40∧l.sigs.length≤30∧l.exits.length≤30∧l.flanks.length≤40∧∀x ∈ l.exits,x.over.length≤20:=by
 unfold greatV at h;simp only[Bool.or_eq_false_iff,decide_eq_false_iff_not] at h;obtain⟨h0,h1,h2,h3,h4⟩:=h;refine⟨by omega,by omega,by omega,by omega,fun x hx=>?_⟩;rw[List.take_of_length_le (by omega),List.any_eq_false] at h0;have :=h0 x hx;rw[decide_eq_true_eq] at this;omega
section
variable {P:World→Prop} {w:World}
theorem great_P (hP:Closed P) {l:Lay} (hL:∀w,P w→Lies l w) {r:Bool} (hr:greatV l=r) (h:P w):
 Calls Tryz.prog 25 #[l.val] w fun e w'=>e= .returned (.bool r)∧P w':=by
 obtain⟨Q,HQ,HQp,HQl,hq⟩:=keep_box hP h 29 l.cells
 have hnE:=(hL _ h).nE
 have HG:=Zz hr
 clear hr
 go_enter Tryz.func25,Tryz.ntmps25
 go_wp2_with fail
 go_loopw [3] (fun i wr=>∃j:Nat,j≤l.exits.length∧j≤31∧i= .int .i64 j∧Q wr∧Hid (Zl (fun x:Exm=>decide (20<(x.over.length:Int))) (l.exits.take 31) j))
  (fun i _=>l.exits.length - (intOf i).toNat)
 case atStart=>exact⟨0,by omega,by omega,rfl,hq,Zz (Zl.zero _ _)⟩
 case round=>
  clear hq;obtain⟨j,hj,hj31,rfl,hq,HNo⟩:=hrel;have x2:=(HQl.out _ hq).Za 2 rfl;by_cases hlt:j<l.exits.length∧j≤30
  · obtain⟨hlt,h30⟩:=hlt;have hlt':(j:Int)<l.exits.length:=by omega
    have h30':(j:Int)≤30:=by omega
    obtain⟨x,hx⟩:∃x,l.exits[j]? =some x:=⟨_,List.getElem?_eq_getElem hlt⟩;have HX:=Zz hx;have HX2:Hid ((l.exits.take 31)[j]? =some x):=Zz (by rw[List.getElem?_take,if_pos (by omega)];exact hx);clear hx;obtain⟨b,off,hA,hb,hc0,hc⟩:=(hL _ (HQp.out _ hq)).exits.nth (n:=3) (fun _=>rfl) (by omega) HX.out;have c2:=hc j x 2 _ HX.out rfl;rw[hA] at x2;clear hc0 hc;by_cases h20:20<(x.over.length:Int)
    · have HF:Hid (true=r):=Zz (by
       rw[←HG.out];unfold greatV;rw[any_hit HX2.out (by simpa using h20)];rfl);clear hA;go_wp2_with fail;go_ret;exact⟨Zc HF.out,HQp.out _ hq⟩
    · have HN:=Zz (HNo.out.succ HX2.out (decide_eq_false h20));have h20':=decide_eq_false h20;clear h20 hA;go_wp2_with fail;go_roundw
      case rel=>exact⟨j+1,hlt,by omega,by go_num,hq,HN⟩
      case measure=>simp[intOf];omega
  · have hend:(j=l.exits.length)∨(j<l.exits.length∧j=31):=by omega
    have HA:Hid (((l.exits.take 31).any fun x=>decide (20<(x.over.length:Int)))=false):=Zz (by
     refine Zl.any ?_;have :(l.exits.take 31).length≤j:=by rw[List.length_take];omega
     exact fun i x hi hx=>HNo.out i x (by omega) hx);have HR:Hid ((decide (40<(l.secs.length:Int))||(decide (30<(l.sigs.length:Int))||(decide (30<(l.exits.length:Int))||decide (40<(l.flanks.length:Int)))))=r):=Zz (by rw[←HG.out];unfold greatV;rw[HA.out];rfl);have hp:=HQp.out _ hq;have hcase:(40<(l.secs.length:Int))∨(¬40<(l.secs.length:Int)∧30<(l.sigs.length:Int))∨(¬40<(l.secs.length:Int)∧¬30<(l.sigs.length:Int)∧30<(l.exits.length:Int))∨(¬40<(l.secs.length:Int)∧¬30<(l.sigs.length:Int)∧¬30<(l.exits.length:Int)∧40<(l.flanks.length:Int))∨(¬40<(l.secs.length:Int)∧¬30<(l.sigs.length:Int)∧¬30<(l.exits.length:Int)∧¬40<(l.flanks.length:Int)):=by omega
    have x0:=(HQl.out _ hq).Za 0 rfl;have x1:=(HQl.out _ hq).Za 1 rfl;have x3:=(HQl.out _ hq).Za 3 rfl;clear hlt HA HNo HG;rcases hend with rfl|⟨hl1,rfl⟩
    · clear hj31;rcases hcase with h1|⟨h1,h2⟩|⟨h1,h2,h3⟩|⟨h1,h2,h3,h4⟩|⟨h1,h2,h3,h4⟩
      · have HF:=Zz (HR.out.symm.trans (show _=true by simp[h1]));have d1:=decide_eq_true h1;clear h1;go_wp2_with fail;go_ret;exact⟨Zc HF.out.symm,hp⟩
      · have HF:=Zz (HR.out.symm.trans (show _=true by simp[h1,h2]));have d1:=decide_eq_false h1;clear h1;have d2:=decide_eq_true h2;clear h2;go_wp2_with fail;go_ret;exact⟨Zc HF.out.symm,hp⟩
      · have HF:=Zz (HR.out.symm.trans (show _=true by simp[h1,h2,h3]));have d1:=decide_eq_false h1;clear h1;have d2:=decide_eq_false h2;clear h2;have d3:=decide_eq_true h3;clear h3;go_wp2_with fail;go_ret;exact⟨Zc HF.out.symm,hp⟩
      · have HF:=Zz (HR.out.symm.trans (show _=true by simp[h1,h2,h3,h4]));have d1:=decide_eq_false h1;clear h1;have d2:=decide_eq_false h2;clear h2;have d3:=decide_eq_false h3;clear h3;have d4:=decide_eq_true h4;clear h4;go_wp2_with fail;go_ret;exact⟨Zc HF.out.symm,hp⟩
      · have HF:=Zz (HR.out.symm.trans (show _=false by simp[h1,h2,h3,h4]));have d1:=decide_eq_false h1;clear h1;have d2:=decide_eq_false h2;clear h2;have d3:=decide_eq_false h3;clear h3;have d4:=decide_eq_false h4;clear h4;go_wp2_with fail;go_ret;exact⟨Zc HF.out.symm,hp⟩
    · have hl1':(31:Int)<l.exits.length:=by omega
      rw[show((31:Nat):Int)=31 from rfl];rcases hcase with h1|⟨h1,h2⟩|⟨h1,h2,h3⟩|⟨h1,h2,h3,h4⟩|⟨h1,h2,h3,h4⟩
      · have HF:=Zz (HR.out.symm.trans (show _=true by simp[h1]));have d1:=decide_eq_true h1;clear h1;go_wp2_with fail;go_ret;exact⟨Zc HF.out.symm,hp⟩
      · have HF:=Zz (HR.out.symm.trans (show _=true by simp[h1,h2]));have d1:=decide_eq_false h1;clear h1;have d2:=decide_eq_true h2;clear h2;go_wp2_with fail;go_ret;exact⟨Zc HF.out.symm,hp⟩
      · have HF:=Zz (HR.out.symm.trans (show _=true by simp[h1,h2,h3]));have d1:=decide_eq_false h1;clear h1;have d2:=decide_eq_false h2;clear h2;have d3:=decide_eq_true h3;clear h3;go_wp2_with fail;go_ret;exact⟨Zc HF.out.symm,hp⟩
      · have HF:=Zz (HR.out.symm.trans (show _=true by simp[h1,h2,h3,h4]));have d1:=decide_eq_false h1;clear h1;have d2:=decide_eq_false h2;clear h2;have d3:=decide_eq_false h3;clear h3;have d4:=decide_eq_true h4;clear h4;go_wp2_with fail;go_ret;exact⟨Zc HF.out.symm,hp⟩
      · have HF:=Zz (HR.out.symm.trans (show _=false by simp[h1,h2,h3,h4]));have d1:=decide_eq_false h1;clear h1;have d2:=decide_eq_false h2;clear h2;have d3:=decide_eq_false h3;clear h3;have d4:=decide_eq_false h4;clear h4;go_wp2_with fail;go_ret;exact⟨Zc HF.out.symm,hp⟩
end
end
section
open Go.RowKit Go.Shelf
attribute [local go_sem] Oper.semAt_some
theorem valuesInt_iter {w0:World} {g n0 c:Nat} {A:Option Addr} {xs:List (Int)} (hbox:Whole w0 g 30 [.slice A xs.length c]) (hrow:Row w0 n0 A (nums .i64 xs)) (hn:(xs.length:Int)≤9223372036854775807):
 Iter Tryz.prog 181 #[.pointer (some ⟨g,0,none⟩)] (fun x:Int=>#[.int .i64 x]) xs (fun k=>k<n0∨k=g) w0:=by
 intro l S J Jx W hk0 hS hJ hJx hY h0
 have hbox:=hk0.whole (.inr rfl) hbox
 have HD:Hid (∀k,S k→¬(k<n0∨k=g)):=Zz (fun k hk=>(hS k hk).1)
 have x0:=hbox.Za 0 rfl
 clear hbox hS
 refine(callsIn_wide (n:=3)).1 ?_
 refine callsIn_of_wp Tryz.func181 rfl trivial ?_ rfl
 simp only[Tryz.ntmps181,Ld,Le,Lf,Nat.reduceAdd,Nat.reduceSub,Lg,Lh,Li,Lj,Lk,Ll]
 gi_wp2
 clear x0
 gi_loopw [7] (fun i wr=>∃j:Nat,j≤xs.length∧i= .int .i64 j∧J j wr∧Keeps (fun k=>k<n0∨k=g) w0 wr)
  (fun i _=>xs.length - (intOf i).toNat)
 case atStart=>exact⟨0,by omega,rfl,h0,hk0⟩
 case round=>
  obtain⟨j,hj,rfl,hJs,hk⟩:=hrel;by_cases hlt:j<xs.length
  · have hlt':(j:Int)<xs.length:=by omega
    obtain⟨x,hx⟩:∃x,xs[j]? =some x:=⟨_,List.getElem?_eq_getElem hlt⟩;have HX:=Zz hx;clear hx;obtain⟨b,off,rfl,_,c0⟩:∃b off,A=some ⟨b,off,none⟩∧b<n0∧wr.cell? ⟨b,off+j,none⟩=some (.int .i64 x):=by
     obtain⟨b,off,e,h1,h2⟩:=(hrow.keeps hk (fun k hk=>.inl hk)).num hlt;rw[HX.out] at h2;exact⟨b,off,e,h1,h2⟩
    obtain⟨fn,tmps,assign,body,hy,hR⟩:=hY j x wr HX.out hJs;have HR:=Zz hR;clear hR;gi_wp2
    refine RoundIn.mono (RoundIn.wide HR.out) ?_;clear HR hy;rintro e W3 (⟨rfl,hJ3,hk3⟩|⟨rfl,hJx3,hk3⟩)
    · gi_wp2
      go_roundw
      case rel=>exact⟨j+1,hlt,by go_num,hJ3,hk.trans (hk3.keeps HD.out)⟩
      case measure=>simp[intOf];omega
    · gi_wp2
      refine bodyPost_ret (results_none rfl _ _ _) rfl ?_;exact⟨⟨_,rfl⟩,.inr hJx3⟩
  · obtain rfl:j=xs.length:=by omega
    gi_wp2
    go_end0
    exact⟨⟨_,rfl⟩,.inl hJs⟩
theorem valuesFlank_iter {w0:World} {g n0 c:Nat} {A:Option Addr} {xs:List (Int×Int×Int×Int)} (hbox:Whole w0 g 25 [.slice A xs.length c]) (hrow:Row w0 n0 A (xs.flatMap flkCells)) (hn:(xs.length:Int)≤9223372036854775807):
 Iter Tryz.prog 159 #[.pointer (some ⟨g,0,none⟩)] (fun x:Int×Int×Int×Int=>#[(flkV x.1 x.2.1 x.2.2.1 x.2.2.2)]) xs (fun k=>k<n0∨k=g) w0:=by
 intro l S J Jx W hk0 hS hJ hJx hY h0
 have hbox:=hk0.whole (.inr rfl) hbox
 have HD:Hid (∀k,S k→¬(k<n0∨k=g)):=Zz (fun k hk=>(hS k hk).1)
 have x0:=hbox.Za 0 rfl
 clear hbox hS
 refine(callsIn_wide (n:=3)).1 ?_
 refine callsIn_of_wp Tryz.func159 rfl trivial ?_ rfl
 simp only[Tryz.ntmps159,Ld,Le,Lf,Nat.reduceAdd,Nat.reduceSub,Lg,Lh,Li,Lj,Lk,Ll]
 gi_wp2
 clear x0
 gi_loopw [7] (fun i wr=>∃j:Nat,j≤xs.length∧i= .int .i64 j∧J j wr∧Keeps (fun k=>k<n0∨k=g) w0 wr)
  (fun i _=>xs.length - (intOf i).toNat)
 case atStart=>exact⟨0,by omega,rfl,h0,hk0⟩
 case round=>
  obtain⟨j,hj,rfl,hJs,hk⟩:=hrel;by_cases hlt:j<xs.length
  · have hlt':(j:Int)<xs.length:=by omega
    obtain⟨x,hx⟩:∃x,xs[j]? =some x:=⟨_,List.getElem?_eq_getElem hlt⟩;have HX:=Zz hx;clear hx;obtain⟨b,off,hA,_,hc0,hc⟩:=(hrow.keeps hk (fun k hk=>.inl hk)).nth (n:=4) (fun _=>rfl) (by omega) HX.out;subst hA;have c0:=hc0 j x _ HX.out rfl;have c1:=hc j x 1 _ HX.out rfl;have c2:=hc j x 2 _ HX.out rfl;have c3:=hc j x 3 _ HX.out rfl;clear hc0 hc;have hJa:=hJ.alloc (.cells (flkCells x).toArray 136) hJs;obtain⟨fn,tmps,assign,body,hy,hR⟩:=hY j x _ HX.out hJa;have HR:=Zz hR;clear hR;gi_wp2
    refine RoundIn.mono (RoundIn.wide HR.out) ?_;clear HR hy;rintro e W3 (⟨rfl,hJ3,hk3⟩|⟨rfl,hJx3,hk3⟩)
    · gi_wp2
      go_roundw
      case rel=>exact⟨j+1,hlt,by go_num,hJ3,hk.trans ((Keeps.below (below1 wr _)).trans (hk3.keeps HD.out))⟩
      case measure=>simp[intOf];omega
    · gi_wp2
      refine bodyPost_ret (results_none rfl _ _ _) rfl ?_;exact⟨⟨_,rfl⟩,.inr hJx3⟩
  · obtain rfl:j=xs.length:=by omega
    gi_wp2
    go_end0
    exact⟨⟨_,rfl⟩,.inl hJs⟩
theorem at_pre {α:Type} {pre r xs:List α} {y:α} (h:pre++(y::r)=xs):xs[pre.length]? =some y:=by rw[←h,List.getElem?_append_right (Nat.le_refl _),Nat.sub_self];rfl
theorem drop_at {α:Type} {l:List α} {i:Nat} {x:α} (h:l[i]? =some x):l.drop i=x::l.drop (i+1):=by
 obtain⟨hi,rfl⟩:=List.getElem?_eq_some_iff.1 h;exact List.drop_eq_getElem_cons hi
theorem push_pre {α:Type} {pre r xs:List α} {y:α} (h:pre++(y::r)=xs):(pre++[y])++r=xs:=by rw[←h];simp
def stepsL (l:Lay):List (Int×Int×Int):=l.exits.flatMap Exm.over
def Sec.ports4 (s:Sec):List (Int×Int):=[(s.s0,s.q0),(s.s1,s.q1),(s.s2,s.q2),(s.s3,s.q3)]
def joinsL (l:Lay):List (Int×Int):=l.secs.flatMap fun s=>s.ports4.filter fun p=>decide (0≤p.1)
theorem steps_iter {w0:World} {g n0:Nat} {l:Lay} (hbox:Whole w0 g 29 l.cells) (hrow:Row w0 n0 l.Ae (l.exits.flatMap Exm.cells)) (hovers:∀x ∈ l.exits,Row w0 n0 x.A (x.over.flatMap Ze))
 (hn:(l.exits.length:Int)≤9223372036854775807) (hno:∀x ∈ l.exits,(x.over.length:Int)≤9223372036854775807):
 Iter Tryz.prog 158 #[.pointer (some ⟨g,0,none⟩)] (fun x:Int×Int×Int=>#[(stpV x.1 x.2.1 x.2.2)]) (stepsL l) (fun k=>k<n0∨k=g) w0:=by
 intro L S J Jx W hk0 hS hJ hJx hY h0
 have hbox:=hk0.whole (.inr rfl) hbox
 have HD:Hid (∀k,S k→¬(k<n0∨k=g)):=Zz (fun k hk=>(hS k hk).1)
 obtain⟨xs,HXS⟩:∃xs,Hid (stepsL l=xs):=⟨_,Zz rfl⟩
 rw[HXS.out] at hY ⊢
 have x2:=hbox.Za 2 rfl
 clear hbox hS
 generalize l.Ae=A at hrow x2
 refine(callsIn_wide (n:=3)).1 ?_
 refine callsIn_of_wp Tryz.func158 rfl trivial ?_ rfl
 simp only[Tryz.ntmps158,Ld,Le,Lf,Nat.reduceAdd,Nat.reduceSub,Lg,Lh,Li,Lj,Lk,Ll]
 gi_wp2
 clear x2
 gi_loopw [10] (fun i wr=>∃(j:Nat) (pre:List (Int×Int×Int)),j≤l.exits.length∧i= .int .i64 j∧J pre.length wr∧Keeps (fun k=>k<n0∨k=g) w0 wr∧Hid (pre++(l.exits.drop j).flatMap Exm.over=xs))
  (fun i _=>l.exits.length - (intOf i).toNat)
 case atStart=>exact⟨0,[],by omega,rfl,h0,hk0,Zz (by rw[←HXS.out];rfl)⟩
 case round=>
  obtain⟨j,pre,hj,rfl,hJs,hk,HP⟩:=hrel;by_cases hlt:j<l.exits.length
  · have hlt':(j:Int)<l.exits.length:=by omega
    obtain⟨x,hx⟩:∃x,l.exits[j]? =some x:=⟨_,List.getElem?_eq_getElem hlt⟩;obtain⟨rest,HRe⟩:∃rest,Hid ((l.exits.drop (j+1)).flatMap Exm.over=rest):=⟨_,Zz rfl⟩;have HP1:Hid (pre++(x.over++rest)=xs):=Zz (by rw[←HP.out,drop_at hx,List.flatMap_cons,HRe.out]);have hMem:=List.mem_of_getElem? hx;have HOv:=Zz (hovers x hMem);have hno':=hno x hMem;clear HP;obtain⟨xs',xq,xA,xc,xo⟩:=x;simp only at HP1 HOv hno' hx;have HX:=Zz hx;clear hx hMem;obtain⟨b,off,rfl,_,hc0,hc⟩:=(hrow.keeps hk (fun k hk=>.inl hk)).nth (n:=3) (fun _=>rfl) (by omega) HX.out;have c0:=hc0 j _ _ HX.out rfl;have c1:=hc j _ 1 _ HX.out rfl;have c2:=hc j _ 2 _ HX.out rfl;clear hc0 hc;have HJ1:=Zz (hJ.alloc (.cells #[.int .i64 xs',.int .i64 xq,.slice xA xo.length xc] 87) hJs);have HK1:=Zz (hk.trans (Keeps.below (below1 wr (.cells #[.int .i64 xs',.int .i64 xq,.slice xA xo.length xc] 87))));gi_wp2
    clear c0 c1 c2;gi_loopw [17] (fun i wr=>∃(q:Nat) (pre:List (Int×Int×Int)),q≤xo.length∧i= .int .i64 q∧J pre.length wr∧Keeps (fun k=>k<n0∨k=g) w0 wr∧Hid (pre++(xo.drop q++rest)=xs))
     (fun i _=>xo.length - (intOf i).toNat)
    case atStart=>exact⟨0,pre,by omega,rfl,HJ1.out,HK1.out,HP1⟩
    case round=>
     clear HJ1 HK1 HP1 hJs hk;obtain⟨q,pre,hq,rfl,hJs,hk,HP⟩:=hrel;by_cases hql:q<xo.length
     · have hql':(q:Int)<xo.length:=by omega
       obtain⟨y,hy0⟩:∃y,xo[q]? =some y:=⟨_,List.getElem?_eq_getElem hql⟩;have HP1:Hid (pre++(y::(xo.drop (q+1)++rest))=xs):=Zz (by rw[←HP.out,drop_at hy0];rfl);clear HP;have HYY:=Zz hy0;clear hy0;obtain⟨b2,off2,rfl,_,hc0,hc⟩:=(HOv.out.keeps hk (fun k hk=>.inl hk)).nth (n:=3) (fun _=>rfl) (by omega) HYY.out;have d0:=hc0 q y _ HYY.out rfl;have d1:=hc q y 1 _ HYY.out rfl;have d2:=hc q y 2 _ HYY.out rfl;clear hc0 hc;have hJa:=hJ.alloc (.cells (Ze y).toArray 66) hJs;obtain⟨fn,tmps,assign,body,hy,hR⟩:=hY pre.length y _ (at_pre HP1.out) hJa;have HR:=Zz hR;clear hR;gi_wp2
       refine RoundIn.mono (RoundIn.wide HR.out) ?_;clear HR hy;rintro e W3 (⟨rfl,hJ3,hk3⟩|⟨rfl,hJx3,hk3⟩)
       · gi_wp2
         go_roundw
         case rel=>exact⟨q+1,pre++[y],hql,by go_num,by rw[List.length_append];exact hJ3,hk.trans ((Keeps.below (below1 wr _)).trans (hk3.keeps HD.out)),Zz (push_pre HP1.out)⟩
         case measure=>simp[intOf];omega
       · gi_wp2
         refine bodyPost_ret (results_none rfl _ _ _) rfl ?_;exact⟨⟨_,rfl⟩,.inr hJx3⟩
     · obtain rfl:q=xo.length:=by omega
       have HP1:Hid (pre++rest=xs):=Zz (by rw[←HP.out,List.drop_length];rfl);clear HP;gi_wp2
       go_roundw
       case rel=>exact⟨j+1,pre,hlt,by go_num,hJs,hk,Zz (by rw[HRe.out];exact HP1.out)⟩
       case measure=>simp[intOf];omega
  · obtain rfl:j=l.exits.length:=by omega
    have HE:Hid (pre.length=xs.length):=Zz (by rw[←HP.out,List.drop_length];simp);gi_wp2
    go_end0
    exact⟨⟨_,rfl⟩,.inl (HE.out ▸ hJs)⟩
theorem joins_iter {w0:World} {g n0:Nat} {l:Lay} (hbox:Whole w0 g 29 l.cells) (hrow:Row w0 n0 l.As (l.secs.flatMap Sec.cells)) (hn:(l.secs.length:Int)≤9223372036854775807):
 Iter Tryz.prog 186 #[.pointer (some ⟨g,0,none⟩)] (fun x:Int×Int=>#[(prtV x.1 x.2)]) (joinsL l) (fun k=>k<n0∨k=g) w0:=by
 intro L S J Jx W hk0 hS hJ hJx hY h0
 have hbox:=hk0.whole (.inr rfl) hbox
 have HD:Hid (∀k,S k→¬(k<n0∨k=g)):=Zz (fun k hk=>(hS k hk).1)
 obtain⟨xs,HXS⟩:∃xs,Hid (joinsL l=xs):=⟨_,Zz rfl⟩
 rw[HXS.out] at hY ⊢
 have x0:=hbox.Za 0 rfl
 clear hbox hS
 generalize l.As=A at hrow x0
 refine(callsIn_wide (n:=3)).1 ?_
 refine callsIn_of_wp Tryz.func186 rfl trivial ?_ rfl
 simp only[Tryz.ntmps186,Ld,Le,Lf,Nat.reduceAdd,Nat.reduceSub,Lg,Lh,Li,Lj,Lk,Ll]
 gi_wp2
 clear x0
 gi_loopw [10] (fun i wr=>∃(j:Nat) (pre:List (Int×Int)),j≤l.secs.length∧i= .int .i64 j∧J pre.length wr∧Keeps (fun k=>k<n0∨k=g) w0 wr∧Hid (pre++((l.secs.drop j).flatMap fun s=>s.ports4.filter fun p=>decide (0≤p.1))=xs))
  (fun i _=>l.secs.length - (intOf i).toNat)
 case atStart=>exact⟨0,[],by omega,rfl,h0,hk0,Zz (by rw[←HXS.out];rfl)⟩
 case round=>
  obtain⟨j,pre,hj,rfl,hJs,hk,HP⟩:=hrel;by_cases hlt:j<l.secs.length
  · have hlt':(j:Int)<l.secs.length:=by omega
    obtain⟨x,hx⟩:∃x,l.secs[j]? =some x:=⟨_,List.getElem?_eq_getElem hlt⟩;obtain⟨rest,HRe⟩:∃rest,Hid (((l.secs.drop (j+1)).flatMap fun s=>s.ports4.filter fun p=>decide (0≤p.1))=rest):=⟨_,Zz rfl⟩;have HP1:Hid (pre++((x.ports4.filter fun p=>decide (0≤p.1))++rest)=xs):=Zz (by rw[←HP.out,drop_at hx,List.flatMap_cons,HRe.out]);clear HP;have HX:=Zz hx;clear hx;obtain⟨b,off,rfl,_,hc0,hc⟩:=(hrow.keeps hk (fun k hk=>.inl hk)).nth (n:=11) Sec.len (by omega) HX.out;have c0:=hc0 j x _ HX.out rfl;have c1:=hc j x 1 _ HX.out rfl;have c2:=hc j x 2 _ HX.out rfl;have c3:=hc j x 3 _ HX.out rfl;have c4:=hc j x 4 _ HX.out rfl;have c5:=hc j x 5 _ HX.out rfl;have c6:=hc j x 6 _ HX.out rfl;have c7:=hc j x 7 _ HX.out rfl;have c8:=hc j x 8 _ HX.out rfl;have c9:=hc j x 9 _ HX.out rfl;have c10:=hc j x 10 _ HX.out rfl;clear hc0 hc;have HJ1:=Zz (hJ.alloc (.cells x.cells.toArray 63) hJs);have HK1:=Zz (hk.trans (Keeps.below (below1 wr (.cells x.cells.toArray 63))));gi_wp2
    clear c0 c1 c2 c3 c4 c5 c6 c7 c8 c9 c10;gi_loopw [16] (fun i wr=>∃(q:Nat) (pre:List (Int×Int)),q≤4∧i= .int .i64 q∧J pre.length wr∧Keeps (fun k=>k<n0∨k=g) w0 wr∧Hid (pre++(((x.ports4.drop q).filter fun p=>decide (0≤p.1))++rest)=xs))
     (fun i _=>4 - (intOf i).toNat)
    case atStart=>exact⟨0,pre,by omega,rfl,HJ1.out,HK1.out,HP1⟩
    case round=>
     clear HJ1 HK1 HP1 hJs hk;obtain⟨q,pre,hq,rfl,hJs,hk,HP⟩:=hrel;by_cases hql:q<4
     · have hql':(q:Int)<4:=by omega
       obtain⟨y,hy0,hix⟩:∃y:Int×Int,x.ports4[q]? =some y∧∀w:World,(Instr.index 60 (.agg #[.int .i64 x.s0,.int .i64 x.q0,.int .i64 x.s1,.int .i64 x.q1,.int .i64 x.s2,.int .i64 x.q2,.int .i64 x.s3,.int .i64 x.q3]) (.int .i64 (q:Int))).run Tryz.prog w= .ok (.agg #[.int .i64 y.1,.int .i64 y.2]) w:=by
        have :q=0∨q=1∨q=2∨q=3:=by omega
        rcases this with rfl|rfl|rfl|rfl
        · exact⟨(x.s0,x.q0),rfl,fun _=>by kernel_rfl⟩
        · exact⟨(x.s1,x.q1),rfl,fun _=>by kernel_rfl⟩
        · exact⟨(x.s2,x.q2),rfl,fun _=>by kernel_rfl⟩
        · exact⟨(x.s3,x.q3),rfl,fun _=>by kernel_rfl⟩
       have hJa:=hJ.alloc (.cells (Zf y).toArray 59) hJs;by_cases hpos:0≤y.1
       · have HP1:Hid (pre++(y::(((x.ports4.drop (q+1)).filter fun p=>decide (0≤p.1))++rest))=xs):=Zz (by rw[←HP.out,drop_at hy0,List.filter_cons,if_pos (by simpa using hpos)];rfl);clear HP hy0;obtain⟨fn,tmps,assign,body,hy,hR⟩:=hY pre.length y _ (at_pre HP1.out) hJa;have HR:=Zz hR;clear hR;gi_wp2
         refine RoundIn.mono (RoundIn.wide HR.out) ?_;clear HR hy hix;rintro e W3 (⟨rfl,hJ3,hk3⟩|⟨rfl,hJx3,hk3⟩)
         · gi_wp2
           go_roundw
           case rel=>exact⟨q+1,pre++[y],hql,by go_num,by rw[List.length_append];exact hJ3,hk.trans ((Keeps.below (below1 wr _)).trans (hk3.keeps HD.out)),Zz (push_pre HP1.out)⟩
           case measure=>simp[intOf];omega
         · gi_wp2
           refine bodyPost_ret (results_none rfl _ _ _) rfl ?_;exact⟨⟨_,rfl⟩,.inr hJx3⟩
       · have HP1:Hid (pre++(((x.ports4.drop (q+1)).filter fun p=>decide (0≤p.1))++rest)=xs):=Zz (by rw[←HP.out,drop_at hy0,List.filter_cons,if_neg (by simpa using hpos)]);clear HP hy0;have hpos':decide (0≤y.1)=false:=decide_eq_false hpos;clear hpos;gi_wp2
         all_goals try (refine⟨fun f h=>(by cases h),?_⟩;gi_wp2)
         go_roundw
         case rel=>exact⟨q+1,pre,hql,by go_num,hJa,hk.trans (Keeps.below (below1 wr _)),HP1⟩
         case measure=>simp[intOf];omega
     · obtain rfl:q=4:=by omega
       have HP1:Hid (pre++rest=xs):=Zz (by rw[←HP.out];rfl);clear HP;rw[show((4:Nat):Int)=4 from rfl];gi_wp2
       go_roundw
       case rel=>exact⟨j+1,pre,hlt,by go_num,hJs,hk,Zz (by rw[HRe.out];exact HP1.out)⟩
       case measure=>simp[intOf];omega
  · obtain rfl:j=l.secs.length:=by omega
    have HE:Hid (pre.length=xs.length):=Zz (by rw[←HP.out,List.drop_length];simp);gi_wp2
    go_end0
    exact⟨⟨_,rfl⟩,.inl (HE.out ▸ hJs)⟩
section
variable {P:World→Prop} {w:World}
theorem someInt_P {n:Nat} (hP:Firm n P) (hn:n≤w.heap.size) {lb:Array Value} {xs:List (Int)} {R:Nat→Prop} {w0:World} (hit:Iter Tryz.prog 181 lb (fun x:Int=>#[(.int .i64 x)]) xs R w0) (hw0:Keeps R w0 w) (hRl:∀k,R k→k<w.heap.size) {pr:Int→Bool} {r:Bool}
 (hf:∀x ∈ xs,∀W,P W→Calls Tryz.prog 95 #[(.int .i64 x)] W fun e w'=>e= .returned (.bool (pr x))∧P w'∧Below W.heap.size W w') (hr:xs.any pr=r) (h:P w):
 Calls Tryz.prog 104 #[.func (.func 181) #[] lb,.func (.func 95) #[] #[]] w fun e w'=>e= .returned (.bool r)∧P w':=by
 have HF:=Zz hf
 have HR:=Zz hr
 have HPP:=Zz (fun W (hB:Below w.heap.size w W)=>hP.closed _ _ h hB)
 clear hf hr
 refine(callsIn_wide (n:=5)).1 ?_
 refine callsIn_of_wp_marks Tryz.func104 rfl trivial ?_ rfl
 simp only[Tryz.ntmps104,Ld,Le,Lf,Nat.reduceAdd,Nat.reduceSub,Lg,Lh,Li,Lj,Lk,Ll]
 gi_wp2_with fail
 obtain⟨W0,hW0,hsz,hB0,b0,b1⟩:∃W0,((w.alloc (.cells #[.func (.func 95) #[] #[]] 89)).alloc (.cells #[.bool false] 4))=W0∧W0.heap.size=w.heap.size+2∧Below w.heap.size w W0∧Whole W0 w.heap.size 89 [.func (.func 95) #[] #[]]∧Whole W0 (w.heap.size+1) 4 [.bool false]:=
  ⟨_,rfl,by simp,below2 _ _ _,(Whole.new w _ [_]).alloc _,Whole.Zj _ _ [_] _ (by simp)⟩
 rw[hW0]
 have hp0:=hP.closed _ _ h hB0
 clear hW0
 refine range_iter (gf:=181) rfl (enters_of Tryz.func181 (by kernel_rfl) rfl) hit (hw0.trans (Keeps.below hB0)) (fun k hk=>by have :=hRl k hk;omega) (fun _=>rfl) (by omega)
  (fun k=>k=w.heap.size+1) (fun k hk e=>by have :=hRl k e;omega) (fun k hk=>by omega)
  (fun j W=>((Whole W w.heap.size 89 [.func (.func 95) #[] #[]]∧Whole W (w.heap.size+1) 4 [.bool false])∧Below w.heap.size w W)∧(P W∧Hid (Zl pr xs j)))
  (fun c W=>(Whole W (w.heap.size+1) 4 [.bool true]∧Below w.heap.size w W)∧(c= .ret∧xs.any pr=true))
  (OwnFrom.and (OwnFrom.and (OwnFrom.and (Own.from (fun s X Y row hs hg hr=>hs.abides hg hr) _) (Own.from (fun s X Y row hs hg hr=>hs.abides hg hr) _)) (ownFrom_below (Nat.le_refl _) (by omega))) (OwnFrom.and (hP.own (by omega)) (ownFrom_pure _ _)))
  (fun c=>OwnFrom.and (OwnFrom.and (Own.from (fun s X Y row hs hg hr=>hs.abides hg hr) _) (ownFrom_below (Nat.le_refl _) (by omega))) (ownFrom_pure _ _))
  ⟨⟨⟨b0,b1⟩,hB0⟩,hp0,Zz (Zl.zero _ _)⟩
  (fun _ x a' _=>a'= {tmps:=#[.func (.func 181) #[] lb,.func (.func 95) #[] #[],undef,.pointer (some ⟨w.heap.size,0,none⟩),.pointer (some ⟨w.heap.size+1,0,none⟩),(.int .i64 x),.func (.func 181) #[] lb,(.int .i64 x),undef,undef,undef],defers:=[]})
  (fun _ x a' _ X Y row hs hg hr=>hs)
  ?assign ?body ?done ?stop
 case assign=>
  rintro l j x W K hx hI hK;gi_wp2_with fail;exact hK _ _ (Off.refl _ _) hI rfl
 case body=>
  rintro l j x a' W hl hx ⟨⟨⟨b0,b1⟩,hB⟩,hp,HN⟩ rfl;have HX:=Zz hx;have HM:=Zz (List.mem_of_getElem? hx);clear hx;have c0:=b0.Za 0 rfl;gi_wp2_with fail;refine⟨trivial,(CallsIn.inRound _ (callsIn_wide.2 (HF.out x HM.out _ hp))).mono ?_⟩;clear c0;cases hpr:pr x
  · have HN1:=Zz (HN.out.succ HX.out hpr);clear hpr;rintro e w3 ⟨rfl,hp3,hB3⟩;gi_wp2_with fail;exact⟨Off.below hB3,⟨⟨b0.below hB3 b0.lt,b1.below hB3 b1.lt⟩,hB.trans (hB3.mono hB.size)⟩,hp3,HN1⟩
  · have HA:=Zz (any_hit HX.out hpr);clear hpr;rintro e w3 ⟨rfl,hp3,hB3⟩;have b1':=b1.below hB3 b1.lt;have f1:=b1'.frozen 0;have c1:=b1'.Za 0 rfl;gi_wp2_with fail;exact⟨(Off.below hB3).trans (Off.set (p:=⟨w.heap.size+1,0,none⟩) _ _ rfl),⟨b1'.set 0 (.bool true),(hB.trans (hB3.mono hB.size)).setCell (p:=⟨w.heap.size+1,0,none⟩) (by show w.heap.size≤w.heap.size+1;omega) _⟩,rfl,HA.out⟩
 case done=>
  rintro D W hD ⟨⟨⟨b0,b1⟩,hB⟩,hp,HN⟩ hK;have HA:=Zz HN.out.any;have f1:=b1.frozen 0;have c1:=b1.Za 0 rfl;gi_wp2_with fail;have hK2:=(Below.heap_setCell W ⟨w.heap.size+1,0,none⟩ (.bool false) D (by show D≠w.heap.size+1;omega)).trans hK;have e1:=((b1.set 0 (.bool false)).putDone (o':=.deferred none) hK2).Za 0 rfl;have hB2:=hB.setCell (p:=⟨w.heap.size+1,0,none⟩) (by show w.heap.size≤w.heap.size+1;omega) (.bool false);refine⟨by simp,.inl ⟨_,_,rfl,run_takeDeferred hK2,?_⟩⟩;refine⟨.bool false,by simp[results,Tryz.f104,go_sem,e1],by rw[←HR.out,HA.out],HPP.out _ (hB2.trans (belowK_b (w:=w) (Nat.le_refl _) _ D _ _ (by omega) hK2 rfl rfl))⟩
 case stop=>
  rintro D c W hD ⟨⟨b1,hB⟩,rfl,hA⟩ hK;have HA:=Zz hA;clear hA;have e1:=(b1.putDone (o':=.deferred none) hK).Za 0 rfl;gi_wp2_with fail;refine⟨by simp,.inl ⟨_,_,rfl,run_takeDeferred hK,?_⟩⟩;refine⟨.bool true,by simp[results,Tryz.f104,go_sem,e1],by rw[←HR.out,HA.out],HPP.out _ (hB.trans (belowK_b (w:=w) (Nat.le_refl _) _ D _ _ (by omega) hK rfl rfl))⟩
theorem somePort_P {n:Nat} (hP:Firm n P) (hn:n≤w.heap.size) {lb:Array Value} {xs:List (Int×Int)} {R:Nat→Prop} {w0:World} (hit:Iter Tryz.prog 156 lb (fun x:Int×Int=>#[(prtV x.1 x.2)]) xs R w0) (hw0:Keeps R w0 w) (hRl:∀k,R k→k<w.heap.size) (p0:Value) {pr:Int×Int→Bool} {r:Bool}
 (hf:∀x ∈ xs,∀W,P W→Calls Tryz.prog 97 #[(prtV x.1 x.2),p0] W fun e w'=>e= .returned (.bool (pr x))∧P w'∧Below W.heap.size W w') (hr:xs.any pr=r) (h:P w):
 Calls Tryz.prog 107 #[.func (.func 156) #[] lb,.func (.func 97) #[] #[p0]] w fun e w'=>e= .returned (.bool r)∧P w':=by
 have HF:=Zz hf
 have HR:=Zz hr
 have HPP:=Zz (fun W (hB:Below w.heap.size w W)=>hP.closed _ _ h hB)
 clear hf hr
 refine(callsIn_wide (n:=5)).1 ?_
 refine callsIn_of_wp_marks Tryz.func107 rfl trivial ?_ rfl
 simp only[Tryz.ntmps107,Ld,Le,Lf,Nat.reduceAdd,Nat.reduceSub,Lg,Lh,Li,Lj,Lk,Ll]
 gi_wp2_with fail
 obtain⟨W0,hW0,hsz,hB0,b0,b1⟩:∃W0,((w.alloc (.cells #[.func (.func 97) #[] #[p0]] 145)).alloc (.cells #[.bool false] 4))=W0∧W0.heap.size=w.heap.size+2∧Below w.heap.size w W0∧Whole W0 w.heap.size 145 [.func (.func 97) #[] #[p0]]∧Whole W0 (w.heap.size+1) 4 [.bool false]:=
  ⟨_,rfl,by simp,below2 _ _ _,(Whole.new w _ [_]).alloc _,Whole.Zj _ _ [_] _ (by simp)⟩
 rw[hW0]
 have hp0:=hP.closed _ _ h hB0
 clear hW0
 refine range_iter (gf:=156) rfl (enters_of Tryz.func156 (by kernel_rfl) rfl) hit (hw0.trans (Keeps.below hB0)) (fun k hk=>by have :=hRl k hk;omega) (fun _=>rfl) (by omega)
  (fun k=>k=w.heap.size+1) (fun k hk e=>by have :=hRl k e;omega) (fun k hk=>by omega)
  (fun j W=>((Whole W w.heap.size 145 [.func (.func 97) #[] #[p0]]∧Whole W (w.heap.size+1) 4 [.bool false])∧Below w.heap.size w W)∧(P W∧Hid (Zl pr xs j)))
  (fun c W=>(Whole W (w.heap.size+1) 4 [.bool true]∧Below w.heap.size w W)∧(c= .ret∧xs.any pr=true))
  (OwnFrom.and (OwnFrom.and (OwnFrom.and (Own.from (fun s X Y row hs hg hr=>hs.abides hg hr) _) (Own.from (fun s X Y row hs hg hr=>hs.abides hg hr) _)) (ownFrom_below (Nat.le_refl _) (by omega))) (OwnFrom.and (hP.own (by omega)) (ownFrom_pure _ _)))
  (fun c=>OwnFrom.and (OwnFrom.and (Own.from (fun s X Y row hs hg hr=>hs.abides hg hr) _) (ownFrom_below (Nat.le_refl _) (by omega))) (ownFrom_pure _ _))
  ⟨⟨⟨b0,b1⟩,hB0⟩,hp0,Zz (Zl.zero _ _)⟩
  (fun _ x a' W=>∃Bx,w.heap.size+1<Bx∧Whole W Bx 59 (Zf x)∧a'= {tmps:=#[.func (.func 156) #[] lb,.func (.func 97) #[] #[p0],undef,.pointer (some ⟨w.heap.size,0,none⟩),.pointer (some ⟨w.heap.size+1,0,none⟩),.pointer (some ⟨Bx,0,none⟩),.func (.func 156) #[] lb,(prtV x.1 x.2),undef,undef,undef],defers:=[]})
  (fun _ x a' _ X Y row hs hg hr=>by obtain⟨Bx,h1,h2,h3⟩:=hs;exact⟨Bx,h1,h2.abides hg (fun r e=>(hr r e).2),h3⟩)
  ?assign ?body ?done ?stop
 case assign=>
  rintro l j x W K hx ⟨⟨⟨b0,b1⟩,hB⟩,hp,HN⟩ hK;gi_wp2_with fail;exact hK _ _ (Off.below (below1 _ _)) ⟨⟨⟨b0.alloc _,b1.alloc _⟩,hB.alloc hB.size _⟩,hP.closed _ _ hp (below1 _ _),HN⟩ ⟨W.heap.size,b1.lt,Whole.new W _ (Zf _),rfl⟩
 case body=>
  rintro l j x a' W hl hx ⟨⟨⟨b0,b1⟩,hB⟩,hp,HN⟩ ⟨Bx,hBx,bX,rfl⟩;have HX:=Zz hx;have HM:=Zz (List.mem_of_getElem? hx);clear hx;have c0:=b0.Za 0 rfl;obtain⟨x0,x1⟩:=bX.c2;gi_wp2_with fail;refine⟨trivial,(CallsIn.inRound _ (callsIn_wide.2 (HF.out x HM.out _ hp))).mono ?_⟩;clear c0 x0 x1;cases hpr:pr x
  · have HN1:=Zz (HN.out.succ HX.out hpr);clear hpr;rintro e w3 ⟨rfl,hp3,hB3⟩;gi_wp2_with fail;exact⟨Off.below hB3,⟨⟨b0.below hB3 b0.lt,b1.below hB3 b1.lt⟩,hB.trans (hB3.mono hB.size)⟩,hp3,HN1⟩
  · have HA:=Zz (any_hit HX.out hpr);clear hpr;rintro e w3 ⟨rfl,hp3,hB3⟩;have b1':=b1.below hB3 b1.lt;have f1:=b1'.frozen 0;have c1:=b1'.Za 0 rfl;gi_wp2_with fail;exact⟨(Off.below hB3).trans (Off.set (p:=⟨w.heap.size+1,0,none⟩) _ _ rfl),⟨b1'.set 0 (.bool true),(hB.trans (hB3.mono hB.size)).setCell (p:=⟨w.heap.size+1,0,none⟩) (by show w.heap.size≤w.heap.size+1;omega) _⟩,rfl,HA.out⟩
 case done=>
  rintro D W hD ⟨⟨⟨b0,b1⟩,hB⟩,hp,HN⟩ hK;have HA:=Zz HN.out.any;have f1:=b1.frozen 0;have c1:=b1.Za 0 rfl;gi_wp2_with fail;have hK2:=(Below.heap_setCell W ⟨w.heap.size+1,0,none⟩ (.bool false) D (by show D≠w.heap.size+1;omega)).trans hK;have e1:=((b1.set 0 (.bool false)).putDone (o':=.deferred none) hK2).Za 0 rfl;have hB2:=hB.setCell (p:=⟨w.heap.size+1,0,none⟩) (by show w.heap.size≤w.heap.size+1;omega) (.bool false);refine⟨by simp,.inl ⟨_,_,rfl,run_takeDeferred hK2,?_⟩⟩;refine⟨.bool false,by simp[results,Tryz.f107,go_sem,e1],by rw[←HR.out,HA.out],HPP.out _ (hB2.trans (belowK_b (w:=w) (Nat.le_refl _) _ D _ _ (by omega) hK2 rfl rfl))⟩
 case stop=>
  rintro D c W hD ⟨⟨b1,hB⟩,rfl,hA⟩ hK;have HA:=Zz hA;clear hA;have e1:=(b1.putDone (o':=.deferred none) hK).Za 0 rfl;gi_wp2_with fail;refine⟨by simp,.inl ⟨_,_,rfl,run_takeDeferred hK,?_⟩⟩;refine⟨.bool true,by simp[results,Tryz.f107,go_sem,e1],by rw[←HR.out,HA.out],HPP.out _ (hB.trans (belowK_b (w:=w) (Nat.le_refl _) _ D _ _ (by omega) hK rfl rfl))⟩
theorem someStep_P {n:Nat} (hP:Firm n P) (hn:n≤w.heap.size) {lb:Array Value} {xs:List (Int×Int×Int)} {R:Nat→Prop} {w0:World} (hit:Iter Tryz.prog 158 lb (fun x:Int×Int×Int=>#[(stpV x.1 x.2.1 x.2.2)]) xs R w0) (hw0:Keeps R w0 w) (hRl:∀k,R k→k<w.heap.size) (p0:Value) {pr:Int×Int×Int→Bool} {r:Bool}
 (hf:∀x ∈ xs,∀W,P W→Calls Tryz.prog 99 #[(stpV x.1 x.2.1 x.2.2),p0] W fun e w'=>e= .returned (.bool (pr x))∧P w'∧Below W.heap.size W w') (hr:xs.any pr=r) (h:P w):
 Calls Tryz.prog 109 #[.func (.func 158) #[] lb,.func (.func 99) #[] #[p0]] w fun e w'=>e= .returned (.bool r)∧P w':=by
 have HF:=Zz hf
 have HR:=Zz hr
 have HPP:=Zz (fun W (hB:Below w.heap.size w W)=>hP.closed _ _ h hB)
 clear hf hr
 refine(callsIn_wide (n:=5)).1 ?_
 refine callsIn_of_wp_marks Tryz.func109 rfl trivial ?_ rfl
 simp only[Tryz.ntmps109,Ld,Le,Lf,Nat.reduceAdd,Nat.reduceSub,Lg,Lh,Li,Lj,Lk,Ll]
 gi_wp2_with fail
 obtain⟨W0,hW0,hsz,hB0,b0,b1⟩:∃W0,((w.alloc (.cells #[.func (.func 99) #[] #[p0]] 146)).alloc (.cells #[.bool false] 4))=W0∧W0.heap.size=w.heap.size+2∧Below w.heap.size w W0∧Whole W0 w.heap.size 146 [.func (.func 99) #[] #[p0]]∧Whole W0 (w.heap.size+1) 4 [.bool false]:=
  ⟨_,rfl,by simp,below2 _ _ _,(Whole.new w _ [_]).alloc _,Whole.Zj _ _ [_] _ (by simp)⟩
 rw[hW0]
 have hp0:=hP.closed _ _ h hB0
 clear hW0
 refine range_iter (gf:=158) rfl (enters_of Tryz.func158 (by kernel_rfl) rfl) hit (hw0.trans (Keeps.below hB0)) (fun k hk=>by have :=hRl k hk;omega) (fun _=>rfl) (by omega)
  (fun k=>k=w.heap.size+1) (fun k hk e=>by have :=hRl k e;omega) (fun k hk=>by omega)
  (fun j W=>((Whole W w.heap.size 146 [.func (.func 99) #[] #[p0]]∧Whole W (w.heap.size+1) 4 [.bool false])∧Below w.heap.size w W)∧(P W∧Hid (Zl pr xs j)))
  (fun c W=>(Whole W (w.heap.size+1) 4 [.bool true]∧Below w.heap.size w W)∧(c= .ret∧xs.any pr=true))
  (OwnFrom.and (OwnFrom.and (OwnFrom.and (Own.from (fun s X Y row hs hg hr=>hs.abides hg hr) _) (Own.from (fun s X Y row hs hg hr=>hs.abides hg hr) _)) (ownFrom_below (Nat.le_refl _) (by omega))) (OwnFrom.and (hP.own (by omega)) (ownFrom_pure _ _)))
  (fun c=>OwnFrom.and (OwnFrom.and (Own.from (fun s X Y row hs hg hr=>hs.abides hg hr) _) (ownFrom_below (Nat.le_refl _) (by omega))) (ownFrom_pure _ _))
  ⟨⟨⟨b0,b1⟩,hB0⟩,hp0,Zz (Zl.zero _ _)⟩
  (fun _ x a' W=>∃Bx,w.heap.size+1<Bx∧Whole W Bx 66 (Ze x)∧a'= {tmps:=#[.func (.func 158) #[] lb,.func (.func 99) #[] #[p0],undef,.pointer (some ⟨w.heap.size,0,none⟩),.pointer (some ⟨w.heap.size+1,0,none⟩),.pointer (some ⟨Bx,0,none⟩),.func (.func 158) #[] lb,(stpV x.1 x.2.1 x.2.2),undef,undef,undef],defers:=[]})
  (fun _ x a' _ X Y row hs hg hr=>by obtain⟨Bx,h1,h2,h3⟩:=hs;exact⟨Bx,h1,h2.abides hg (fun r e=>(hr r e).2),h3⟩)
  ?assign ?body ?done ?stop
 case assign=>
  rintro l j x W K hx ⟨⟨⟨b0,b1⟩,hB⟩,hp,HN⟩ hK;gi_wp2_with fail;exact hK _ _ (Off.below (below1 _ _)) ⟨⟨⟨b0.alloc _,b1.alloc _⟩,hB.alloc hB.size _⟩,hP.closed _ _ hp (below1 _ _),HN⟩ ⟨W.heap.size,b1.lt,Whole.new W _ (Ze _),rfl⟩
 case body=>
  rintro l j x a' W hl hx ⟨⟨⟨b0,b1⟩,hB⟩,hp,HN⟩ ⟨Bx,hBx,bX,rfl⟩;have HX:=Zz hx;have HM:=Zz (List.mem_of_getElem? hx);clear hx;have c0:=b0.Za 0 rfl;obtain⟨x0,x1,x2⟩:=bX.c3;gi_wp2_with fail;refine⟨trivial,(CallsIn.inRound _ (callsIn_wide.2 (HF.out x HM.out _ hp))).mono ?_⟩;clear c0 x0 x1 x2;cases hpr:pr x
  · have HN1:=Zz (HN.out.succ HX.out hpr);clear hpr;rintro e w3 ⟨rfl,hp3,hB3⟩;gi_wp2_with fail;exact⟨Off.below hB3,⟨⟨b0.below hB3 b0.lt,b1.below hB3 b1.lt⟩,hB.trans (hB3.mono hB.size)⟩,hp3,HN1⟩
  · have HA:=Zz (any_hit HX.out hpr);clear hpr;rintro e w3 ⟨rfl,hp3,hB3⟩;have b1':=b1.below hB3 b1.lt;have f1:=b1'.frozen 0;have c1:=b1'.Za 0 rfl;gi_wp2_with fail;exact⟨(Off.below hB3).trans (Off.set (p:=⟨w.heap.size+1,0,none⟩) _ _ rfl),⟨b1'.set 0 (.bool true),(hB.trans (hB3.mono hB.size)).setCell (p:=⟨w.heap.size+1,0,none⟩) (by show w.heap.size≤w.heap.size+1;omega) _⟩,rfl,HA.out⟩
 case done=>
  rintro D W hD ⟨⟨⟨b0,b1⟩,hB⟩,hp,HN⟩ hK;have HA:=Zz HN.out.any;have f1:=b1.frozen 0;have c1:=b1.Za 0 rfl;gi_wp2_with fail;have hK2:=(Below.heap_setCell W ⟨w.heap.size+1,0,none⟩ (.bool false) D (by show D≠w.heap.size+1;omega)).trans hK;have e1:=((b1.set 0 (.bool false)).putDone (o':=.deferred none) hK2).Za 0 rfl;have hB2:=hB.setCell (p:=⟨w.heap.size+1,0,none⟩) (by show w.heap.size≤w.heap.size+1;omega) (.bool false);refine⟨by simp,.inl ⟨_,_,rfl,run_takeDeferred hK2,?_⟩⟩;refine⟨.bool false,by simp[results,Tryz.f109,go_sem,e1],by rw[←HR.out,HA.out],HPP.out _ (hB2.trans (belowK_b (w:=w) (Nat.le_refl _) _ D _ _ (by omega) hK2 rfl rfl))⟩
 case stop=>
  rintro D c W hD ⟨⟨b1,hB⟩,rfl,hA⟩ hK;have HA:=Zz hA;clear hA;have e1:=(b1.putDone (o':=.deferred none) hK).Za 0 rfl;gi_wp2_with fail;refine⟨by simp,.inl ⟨_,_,rfl,run_takeDeferred hK,?_⟩⟩;refine⟨.bool true,by simp[results,Tryz.f109,go_sem,e1],by rw[←HR.out,HA.out],HPP.out _ (hB.trans (belowK_b (w:=w) (Nat.le_refl _) _ D _ _ (by omega) hK rfl rfl))⟩
theorem someFlank_P {n:Nat} (hP:Firm n P) (hn:n≤w.heap.size) {lb:Array Value} {xs:List (Int×Int×Int×Int)} {R:Nat→Prop} {w0:World} (hit:Iter Tryz.prog 159 lb (fun x:Int×Int×Int×Int=>#[(flkV x.1 x.2.1 x.2.2.1 x.2.2.2)]) xs R w0) (hw0:Keeps R w0 w) (hRl:∀k,R k→k<w.heap.size) (p0:Value) {pr:Int×Int×Int×Int→Bool} {r:Bool}
 (hf:∀x ∈ xs,∀W,P W→Calls Tryz.prog 101 #[(flkV x.1 x.2.1 x.2.2.1 x.2.2.2),p0] W fun e w'=>e= .returned (.bool (pr x))∧P w'∧Below W.heap.size W w') (hr:xs.any pr=r) (h:P w):
 Calls Tryz.prog 111 #[.func (.func 159) #[] lb,.func (.func 101) #[] #[p0]] w fun e w'=>e= .returned (.bool r)∧P w':=by
 have HF:=Zz hf
 have HR:=Zz hr
 have HPP:=Zz (fun W (hB:Below w.heap.size w W)=>hP.closed _ _ h hB)
 clear hf hr
 refine(callsIn_wide (n:=5)).1 ?_
 refine callsIn_of_wp_marks Tryz.func111 rfl trivial ?_ rfl
 simp only[Tryz.ntmps111,Ld,Le,Lf,Nat.reduceAdd,Nat.reduceSub,Lg,Lh,Li,Lj,Lk,Ll]
 gi_wp2_with fail
 obtain⟨W0,hW0,hsz,hB0,b0,b1⟩:∃W0,((w.alloc (.cells #[.func (.func 101) #[] #[p0]] 147)).alloc (.cells #[.bool false] 4))=W0∧W0.heap.size=w.heap.size+2∧Below w.heap.size w W0∧Whole W0 w.heap.size 147 [.func (.func 101) #[] #[p0]]∧Whole W0 (w.heap.size+1) 4 [.bool false]:=
  ⟨_,rfl,by simp,below2 _ _ _,(Whole.new w _ [_]).alloc _,Whole.Zj _ _ [_] _ (by simp)⟩
 rw[hW0]
 have hp0:=hP.closed _ _ h hB0
 clear hW0
 refine range_iter (gf:=159) rfl (enters_of Tryz.func159 (by kernel_rfl) rfl) hit (hw0.trans (Keeps.below hB0)) (fun k hk=>by have :=hRl k hk;omega) (fun _=>rfl) (by omega)
  (fun k=>k=w.heap.size+1) (fun k hk e=>by have :=hRl k e;omega) (fun k hk=>by omega)
  (fun j W=>((Whole W w.heap.size 147 [.func (.func 101) #[] #[p0]]∧Whole W (w.heap.size+1) 4 [.bool false])∧Below w.heap.size w W)∧(P W∧Hid (Zl pr xs j)))
  (fun c W=>(Whole W (w.heap.size+1) 4 [.bool true]∧Below w.heap.size w W)∧(c= .ret∧xs.any pr=true))
  (OwnFrom.and (OwnFrom.and (OwnFrom.and (Own.from (fun s X Y row hs hg hr=>hs.abides hg hr) _) (Own.from (fun s X Y row hs hg hr=>hs.abides hg hr) _)) (ownFrom_below (Nat.le_refl _) (by omega))) (OwnFrom.and (hP.own (by omega)) (ownFrom_pure _ _)))
  (fun c=>OwnFrom.and (OwnFrom.and (Own.from (fun s X Y row hs hg hr=>hs.abides hg hr) _) (ownFrom_below (Nat.le_refl _) (by omega))) (ownFrom_pure _ _))
  ⟨⟨⟨b0,b1⟩,hB0⟩,hp0,Zz (Zl.zero _ _)⟩
  (fun _ x a' W=>∃Bx,w.heap.size+1<Bx∧Whole W Bx 136 (flkCells x)∧a'= {tmps:=#[.func (.func 159) #[] lb,.func (.func 101) #[] #[p0],undef,.pointer (some ⟨w.heap.size,0,none⟩),.pointer (some ⟨w.heap.size+1,0,none⟩),.pointer (some ⟨Bx,0,none⟩),.func (.func 159) #[] lb,(flkV x.1 x.2.1 x.2.2.1 x.2.2.2),undef,undef,undef],defers:=[]})
  (fun _ x a' _ X Y row hs hg hr=>by obtain⟨Bx,h1,h2,h3⟩:=hs;exact⟨Bx,h1,h2.abides hg (fun r e=>(hr r e).2),h3⟩)
  ?assign ?body ?done ?stop
 case assign=>
  rintro l j x W K hx ⟨⟨⟨b0,b1⟩,hB⟩,hp,HN⟩ hK;gi_wp2_with fail;exact hK _ _ (Off.below (below1 _ _)) ⟨⟨⟨b0.alloc _,b1.alloc _⟩,hB.alloc hB.size _⟩,hP.closed _ _ hp (below1 _ _),HN⟩ ⟨W.heap.size,b1.lt,Whole.new W _ (flkCells _),rfl⟩
 case body=>
  rintro l j x a' W hl hx ⟨⟨⟨b0,b1⟩,hB⟩,hp,HN⟩ ⟨Bx,hBx,bX,rfl⟩;have HX:=Zz hx;have HM:=Zz (List.mem_of_getElem? hx);clear hx;have c0:=b0.Za 0 rfl;obtain⟨x0,x1,x2,x3⟩:=bX.c4;gi_wp2_with fail;refine⟨trivial,(CallsIn.inRound _ (callsIn_wide.2 (HF.out x HM.out _ hp))).mono ?_⟩;clear c0 x0 x1 x2 x3;cases hpr:pr x
  · have HN1:=Zz (HN.out.succ HX.out hpr);clear hpr;rintro e w3 ⟨rfl,hp3,hB3⟩;gi_wp2_with fail;exact⟨Off.below hB3,⟨⟨b0.below hB3 b0.lt,b1.below hB3 b1.lt⟩,hB.trans (hB3.mono hB.size)⟩,hp3,HN1⟩
  · have HA:=Zz (any_hit HX.out hpr);clear hpr;rintro e w3 ⟨rfl,hp3,hB3⟩;have b1':=b1.below hB3 b1.lt;have f1:=b1'.frozen 0;have c1:=b1'.Za 0 rfl;gi_wp2_with fail;exact⟨(Off.below hB3).trans (Off.set (p:=⟨w.heap.size+1,0,none⟩) _ _ rfl),⟨b1'.set 0 (.bool true),(hB.trans (hB3.mono hB.size)).setCell (p:=⟨w.heap.size+1,0,none⟩) (by show w.heap.size≤w.heap.size+1;omega) _⟩,rfl,HA.out⟩
 case done=>
  rintro D W hD ⟨⟨⟨b0,b1⟩,hB⟩,hp,HN⟩ hK;have HA:=Zz HN.out.any;have f1:=b1.frozen 0;have c1:=b1.Za 0 rfl;gi_wp2_with fail;have hK2:=(Below.heap_setCell W ⟨w.heap.size+1,0,none⟩ (.bool false) D (by show D≠w.heap.size+1;omega)).trans hK;have e1:=((b1.set 0 (.bool false)).putDone (o':=.deferred none) hK2).Za 0 rfl;have hB2:=hB.setCell (p:=⟨w.heap.size+1,0,none⟩) (by show w.heap.size≤w.heap.size+1;omega) (.bool false);refine⟨by simp,.inl ⟨_,_,rfl,run_takeDeferred hK2,?_⟩⟩;refine⟨.bool false,by simp[results,Tryz.f111,go_sem,e1],by rw[←HR.out,HA.out],HPP.out _ (hB2.trans (belowK_b (w:=w) (Nat.le_refl _) _ D _ _ (by omega) hK2 rfl rfl))⟩
 case stop=>
  rintro D c W hD ⟨⟨b1,hB⟩,rfl,hA⟩ hK;have HA:=Zz hA;clear hA;have e1:=(b1.putDone (o':=.deferred none) hK).Za 0 rfl;gi_wp2_with fail;refine⟨by simp,.inl ⟨_,_,rfl,run_takeDeferred hK,?_⟩⟩;refine⟨.bool true,by simp[results,Tryz.f111,go_sem,e1],by rw[←HR.out,HA.out],HPP.out _ (hB.trans (belowK_b (w:=w) (Nat.le_refl _) _ D _ _ (by omega) hK rfl rfl))⟩
end
end
end Go.Proofs.YtifnlhfinjfajaaGreatDoor
