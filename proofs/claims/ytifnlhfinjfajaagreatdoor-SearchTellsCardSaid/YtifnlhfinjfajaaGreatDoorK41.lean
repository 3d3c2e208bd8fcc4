/- Of this seat: ShQ, ShR, ShS. -/
import Derived.Test.YtifnlhfinjfajaaGreatDoorK36
namespace Go.Proofs.YtifnlhfinjfajaaGreatDoor
set_option linter.unusedVariables false
set_option linter.unusedSimpArgs false
set_option maxRecDepth 100000
set_option maxHeartbeats 32000000
section
open Go.RowKit Go.Shelf
attribute [local go_sem] Oper.semAt_some
theorem same_pk {p q:Pth} (h:pk p=pk q):sameP p q=true:=by
 have h1:p.s=q.s:=congrArg (fun z=>z.1) h;have h2:p.x=q.x:=congrArg (fun z=>z.2.1) h;have h3:p.ss=q.ss:=congrArg (fun z=>z.2.2) h;unfold sameP;simp[h1,h2,h3]
theorem allR12_any {ps qs:List Pth} {A B:Option Addr} (c c':Nat) {w:World} (hP:Zr ps A w) (hQ:Zr qs B w) (hn:ps.length≤1000000) (he:ps.map pk=qs.map pk):
 Calls Tryz.prog 15 #[.slice A ps.length c,.slice B qs.length c'] w fun e w'=>e= .returned (.bool true)∧Below w.heap.size w w':=by
 have hl:ps.length=qs.length:=by have :=congrArg List.length he;rwa [List.length_map,List.length_map] at this
 obtain⟨Q,HQ,HQb,HQ1,HQ2,hq⟩:∃Q:World→Prop,Hid (Closed Q)∧Hid (∀W,Q W→Below w.heap.size w W)∧Hid (∀W,Q W→Zr ps A W)∧Hid (∀W,Q W→Zr qs B W)∧Q w:=
  ⟨fun W=>Below w.heap.size w W∧Zr ps A W∧Zr qs B W,Zz ((Closed.below w).and ((Zr.closed _ _).and (Zr.closed _ _))),Zz fun _ h=>h.1,Zz fun _ h=>h.2.1,Zz fun _ h=>h.2.2,Below.refl _ _,hP,hQ⟩
 have HL:=Zz hl
 have HE:=Zz he
 clear hP hQ he
 rw[←hl]
 clear hl
 go_enter Tryz.func15,Tryz.ntmps15
 go_wp2_with fail
 go_loopw [5] (fun i wr=>∃j:Nat,j≤ps.length∧i= .int .i64 j∧Q wr) (fun i _=>ps.length - (intOf i).toNat)
 case atStart=>exact⟨0,Nat.zero_le _,rfl,hq⟩
 case round=>
  clear hq;obtain⟨j,hj,rfl,hq⟩:=hrel;obtain⟨wa,rfl⟩:∃W,W=wr:=⟨wr,rfl⟩;by_cases hlt:j<ps.length
  · have hlt':(j:Int)<ps.length:=by omega
    obtain⟨p,hp⟩:∃q,ps[j]? =some q:=⟨_,List.getElem?_eq_getElem hlt⟩;obtain⟨q,hq1⟩:∃q,qs[j]? =some q:=⟨_,List.getElem?_eq_getElem (by rw[←HL.out];exact hlt)⟩;have hpk:pk p=pk q:=by
     have h1:(ps.map pk)[j]? =(qs.map pk)[j]? :=by rw[HE.out]
     rw[List.getElem?_map,List.getElem?_map,hp,hq1] at h1;exact Option.some.inj h1
    obtain⟨b6,o6,HA6,HD0,HD⟩:=row_at (f:=Pth.cells) (n:=3) (fun _=>rfl) (by omega) (fun W hW=>(HQ1.out W hW).row) hq hp;obtain⟨b7,o7,HA7,HE0,HEC⟩:=row_at (f:=Pth.cells) (n:=3) (fun _=>rfl) (by omega) (fun W hW=>(HQ2.out W hW).row) hq hq1;have HF:Hid (∀W,Q W→(W.cell? ⟨b6,o6+j*3,none⟩=some (.int .i64 p.s)∧W.cell? ⟨b6,o6+j*3+1,none⟩=some (.int .i64 p.x)∧W.cell? ⟨b6,o6+j*3+2,none⟩=some (.slice p.A p.ss.length p.c))∧W.cell? ⟨b7,o7+j*3,none⟩=some (.int .i64 q.s)∧W.cell? ⟨b7,o7+j*3+1,none⟩=some (.int .i64 q.x)∧W.cell? ⟨b7,o7+j*3+2,none⟩=some (.slice q.A q.ss.length q.c)):=Zz fun W hW=>
     ⟨⟨HD0.out W hW _ _ _ hp rfl,HD.out W hW _ _ 1 _ hp rfl,HD.out W hW _ _ 2 _ hp rfl⟩,HE0.out W hW _ _ _ hq1 rfl,HEC.out W hW _ _ 1 _ hq1 rfl,HEC.out W hW _ _ 2 _ hq1 rfl⟩;have KS:Hid (∀W,Q W→Calls Tryz.prog 21 #[p.val,q.val] W fun e w'=>e= .returned (.bool true)∧Below W.heap.size W w'):=Zz fun W hW=>
     sameR12_any ((HQ1.out W hW).each _ (List.mem_of_getElem? hp)) ((HQ2.out W hW).each _ (List.mem_of_getElem? hq1)) (same_pk hpk);clear HD0 HD HE0 HEC hp hq1 hpk;go_wp2_with fail;have HBS:Hid (∀W,Below wa.heap.size wa W→Q W):=Zz (fun W hB=>HQ.out _ _ hq hB);clear hq;refine rmx wa f10 (by kernel_rfl) (by kernel_rfl) ?_;simp only[Zg,f10,Lm,Ln];repeat ((first|(refine Zb (by rfl) ?_)|(refine mrd HBS _ (by rfl) (fun W hW=>by(obtain⟨⟨c0,c1,c2⟩,d0,d1,d2⟩:=HF.out W hW;go_simp;first|done|with_reducible rfl)) ?_)|(refine mrd HBS _ (by rfl) (fun W hW=>by(obtain⟨⟨c0,c1,c2⟩,d0,d1,d2⟩:=HF.out W hW;rw[HA6.out];go_simp;first|done|with_reducible rfl)) ?_)|(refine mrd HBS _ (by rfl) (fun W hW=>by(obtain⟨⟨c0,c1,c2⟩,d0,d1,d2⟩:=HF.out W hW;rw[HA7.out];go_simp;first|done|with_reducible rfl)) ?_)|(refine mcl HBS _ _ _ (by rfl) (fun W hW=>by(obtain⟨⟨c0,c1,c2⟩,d0,d1,d2⟩:=HF.out W hW;go_simp;first|done|rfl)) (fun W hW=>KS.out W (HBS.out W hW)) ?_));simp only[Act.put,La,Lb,Lc])
    refine Zd (fun W hW=>?_);have hq:=HBS.out W hW;have HBW:=Zz hW;clear hW HBS;go_wp2_with fail;go_roundw
    case rel=>exact⟨j+1,hlt,by go_num,hq⟩
    case measure=>simp[intOf];omega
  · obtain rfl:j=ps.length:=by omega
    have HZ:=Zz (HQb.out _ hq);go_wp2_with fail;go_ret;exact⟨rfl,HZ.out⟩
theorem onN_le4 (l:Lay) (q:Int×Int):(onN l q).length≤4:=by unfold onN;rw[List.length_map];exact outsK_le _ _
theorem steps14R_any {l:Lay} {w:World} (hL:Lies l w) (s p:Int) {m:Nat} (hm:(onN l (s,p)).length=m):
 Calls Tryz.prog 82 #[l.val,prtV s p] w fun e w'=>∃A c,e= .returned (.slice A m c)∧Row w' w'.heap.size A ((onN l (s,p)).flatMap Ze)∧Below w.heap.size w w':=by
 subst hm
 obtain⟨Q,HQ,HQb,HQl,HQv,hq⟩:=keep_box2 (Closed.below w) (Below.refl _ w) 29 59 l.cells (Zf (s,p))
 have HLW:Hid (∀W,Q W→Lies l W):=Zz fun W hW=>Lies.closed l _ _ hL (HQb.out W hW)
 obtain⟨x,hx⟩:∃x,atV l s p=x:=⟨_,rfl⟩
 obtain⟨tr,htr⟩:∃tr,Zp l s p=tr:=⟨_,rfl⟩
 have hxr:=atV_range hL s p
 obtain⟨os,hos⟩:∃os,outsK x.k p=os:=⟨_,rfl⟩
 have hol:=outsK_le x.k p
 have HV:Hid (onN l (s,p)=os.map (onward (s,p))):=Zz (by unfold onN;rw[hx,hos])
 have HNO:Hid (tr=false→os=[]):=Zz fun e=>by rw[e] at htr;rw[atV_no htr] at hx;subst hx;exact hos.symm
 rw[hos] at hol
 rw[hx] at hxr
 unfold outsK at hos
 have KA:=Zz (fun W hW=>atR_P (P:=Q) (w:=W) HQ.out (fun W hW=>HLW.out W hW) s p hx htr hW)
 have KO:=Zz (fun(W:World)=>outsR_P (P:=fun W'=>Below W.heap.size W W') (w:=W) (Closed.below W) p (shapeK x.k) hos (Below.refl _ _))
 clear hL hx htr hos
 rw[HV.out,List.length_map]
 go_enter Tryz.func82,Tryz.ntmps82
 obtain⟨x0,x1,x2,x3,x4,x5,x6,x7,x8,x9,x10⟩:=(HQl.out _ hq).c11
 obtain⟨v0,v1⟩:=(HQv.out _ hq).c2
 go_wp2_with fail
 refine(KA.out _ hq).mono ?_
 rintro e w1 ⟨rfl,hq⟩
 clear x0 x1 x2 x3 x4 x5 x6 x7 x8 x9 x10 v0 v1 KA
 go_upto_region 2 with (fail)
 obtain⟨w2,hw2⟩:∃W,w1.alloc (.cells #[.int .u8 x.k,.int .i64 x.s0,.int .i64 x.q0,.int .i64 x.s1,.int .i64 x.q1,.int .i64 x.s2,.int .i64 x.q2,.int .i64 x.s3,.int .i64 x.q3,.int .i64 x.c0,.int .i64 x.c1] 63)=W:=⟨_,rfl⟩
 have HSE:Hid (Whole w2 w1.heap.size 63 x.cells):=Zz (by rw[←hw2];exact Whole.new w1 _ x.cells)
 have hq:Q w2:=by rw[←hw2];exact HQ.out _ _ hq (below1 _ _)
 try rw[hw2]
 clear hw2
 obtain⟨gs,HGS⟩:∃n,Hid (w1.heap.size=n):=⟨_,Zz rfl⟩
 rw[HGS.out] at HSE ⊢
 clear HGS
 cases tr
 · obtain rfl:=HNO.out rfl;have HZ:=Zz (HQb.out _ hq);go_wp2_with fail;go_ret;first|exact⟨none,0,rfl,Row.nil _ _ _,HZ.out⟩|exact⟨none,⟨0,rfl⟩,Row.nil _ _ _,HZ.out⟩
 have s0:=HSE.out.Za 0 rfl
 have v1:=(HQv.out _ hq).Za 1 rfl
 have KO:=Zz (KO.out w2)
 clear HNO
 go_wp2_with fail
 refine KO.out.mono ?_
 rintro e w3 ⟨A,cap,rfl,hcap,hrow,hb3⟩
 have hq:=HQ.out _ _ hq hb3
 clear KO s0 v1 HSE hb3
 obtain⟨Q,HQ,HQo,HQw,hq⟩:=and_moreS HQ (R:=fun W=>Row W W.heap.size A (nums .i64 os)) (fun _ _ h hb=>h.on hb) hq hrow
 replace HQb:=Zz (fun W hW=>HQb.out W (HQo.out W hW))
 replace HQv:=Zz (fun W hW=>HQv.out W (HQo.out W hW))
 clear hrow hcap HQo HLW HQl
 have HQ3:=Zz (fun W' (hB:Below w3.heap.size w3 W')=>HQ.out w3 W' hq hB)
 go_wp2_with fail
 go_loopw [7,9] (fun v i wr=>∃j:Nat,j≤os.length∧i= .int .i64 (j:Int)∧wr.ownsRow w3.heap.size 66 3 v j (((os.take j).map (onward (s,p))).flatMap Ze)∧Below w3.heap.size w3 wr)
  (fun _ i _=>os.length - (intOf i).toNat)
 case atStart=>exact⟨0,by omega,rfl,World.ownsRow_nil _ _ _ _,Below.refl _ _⟩
 case round=>
  clear hq;obtain⟨j,hj,rfl,hown,hB⟩:=hrel;have hq:=HQ3.out _ hB;have hsz:=hB.size;by_cases hlo:j<os.length
  · have hlt':(j:Int)<os.length:=by omega
    obtain⟨o,ho⟩:∃o,os[j]? =some o:=⟨_,List.getElem?_eq_getElem hlo⟩;have HO:=Zz (steps_cells (q:=(s,p)) ho);obtain⟨b5,o5,HA5,HC5,_⟩:=row_at (f:=fun n:Int=>[.int .i64 n]) (n:=1) (l:=os) (fun _=>rfl) (by omega) (fun W hW=>by have :=HQw.out W hW;rw[←nums_flat] at this;exact this) hq ho;have HCC:Hid (∀W,Q W→W.cell? ⟨b5,o5+j,none⟩=some (.int .i64 o)):=Zz fun W hW=>by have :=HC5.out W hW _ _ _ ho rfl;rwa [Nat.mul_one] at this
    obtain rfl:=HA5.out;have HBS:Hid (∀X,Below w3.heap.size w3 X→Q X):=Zz fun X hX=>HQ3.out X hX;have HOW:=Zz hown;clear HA5 HC5 ho hq hown;go_wp2_with fail;refine region_mix (Below w3.heap.size w3) [(0,false),(1,false),(2,false),(3,false),(4,false),(5,false),(6,false),(7,false),(8,false),(9,false),(10,true),(11,true),(12,false)] (by kernel_rfl) (by kernel_rfl) (Below wr.heap.size wr) ⟨Closed.below wr,fun X h=>hB.trans (h.mono hsz)⟩ (Below.refl _ _).drew ?_;simp only[Zg,Lm,Ln];repeat ((first|(refine Zb (by rfl) ?_)|(refine mrd HBS _ (by rfl) (fun W hW=>by(obtain⟨r0,r1⟩:=(HQv.out _ hW).c2;have c0:=HCC.out _ hW;go_simp;first|done|with_reducible rfl)) ?_));simp only[Act.put,La,Lb,Lc])
    refine mix_make (fun g=>.slice (some ⟨g,0,none⟩) 1 1) wr.heap.size 66 [.int .i64 s,.int .i64 p,.int .i64 o] ⟨Closed.below wr,fun X h=>hB.trans (h.mono hsz)⟩ (fun _ h=>h.size) (by rfl) (fun X hX=>by(go_simp;first|done|with_reducible rfl)) (fun g hg=>?_);simp only[Act.put,La,Lb,Lc];refine mix_yield (X:=Value) (fun v=>v) (fun v X=>Below w3.heap.size w3 X∧X.ownsRow w3.heap.size 66 3 v (j+1) (((os.take (j+1)).map (onward (s,p))).flatMap Ze)) (fun v=>⟨fun X X' h hb=>⟨h.1.trans (hb.mono h.1.size),ownsS_keep h.2 hb⟩,fun X h=>h.1⟩) (by rfl) (fun X hX=>?_) (fun v'=>?_)
    · obtain⟨hX1,hX2⟩:=hX;obtain⟨v',X',hrun,hown',hB5⟩:=append_step w3.heap.size j _ _ (onward (s,p) o) X g (ownsS_keep HOW.out hX1) hX2 (by omega) (Nat.le_trans hsz hX1.size);exact⟨v',X',exec_append (.tmp 29) (.tmp 39) 44 rfl hrun,(hB.trans (hX1.mono hsz)).trans hB5,by rw[HO.out];exact hown'⟩
    simp only[Act.put,La,Lb,Lc];repeat ((first|(refine Zb (by rfl) ?_)|(refine mrd HBS _ (by rfl) (fun W hW=>by(go_simp;first|done|with_reducible rfl)) ?_));simp only[Act.put,La,Lb,Lc])
    refine Zd (fun X hX=>?_);clear HBS;go_wp2_with fail;go_roundw
    case rel=>exact⟨j+1,by omega,by go_num,hX.2,hX.1⟩
    case measure=>simp[intOf];omega
  · obtain rfl:j=os.length:=by omega
    obtain⟨A,cap,rfl,hr,hc⟩:=ownsS_slice hown;rw[List.take_length] at hr;have HZ:=Zz (And.intro hr (HQb.out _ hq));clear hown hc hr;go_wp2_with fail;go_ret;exact⟨A,cap,rfl,HZ.out.1,HZ.out.2⟩
theorem through14R_any {p:Pth} {w:World} (hp:PLies p w) (hl:p.ss.length≤100000) (s:Int) {r:Bool} (hr:usedS p.ss s=r):Calls Tryz.prog 83 #[p.val,.int .i64 s] w fun e w'=>e= .returned (.bool r)∧Below w.heap.size w w':=by
 obtain⟨Q,HQ,HQb,HQp,hq⟩:=keep_box (Closed.below w) (Below.refl _ w) 46 p.cells;have HPW:Hid (∀W,Q W→PLies p W):=Zz fun W hW=>PLies.closed p _ _ hp (HQb.out W hW);have HR:=Zz hr;clear hp hr;go_enter Tryz.func83,Tryz.ntmps83;go_wp2_with fail;go_loopw [5] (fun i wr=>∃j:Nat,j≤p.ss.length∧i= .int .i64 j∧Q wr∧Hid (Zl (fun a:Stp=>a.1==s) p.ss j)) (fun i _=>p.ss.length - (intOf i).toNat)
 case atStart=>exact⟨0,Nat.zero_le _,rfl,hq,Zz (Zl.zero _ _)⟩
 case round=>
  clear hq;obtain⟨j,hj,rfl,hq,HN⟩:=hrel;have y2:=(HQp.out _ hq).Za 2 rfl;by_cases hlt:j<p.ss.length
  · have hlt':(j:Int)<p.ss.length:=by omega
    obtain⟨a,ha⟩:∃a,p.ss[j]? =some a:=⟨_,List.getElem?_eq_getElem hlt⟩;obtain⟨b,off,hA,hb,hc0,hc⟩:=(HPW.out _ hq).row.nth (n:=3) (fun _=>rfl) (by omega) ha;have c0:=hc0 j _ _ ha rfl;rw[hA] at y2;have HA:=Zz ha;clear hA hc0 hc ha;by_cases he:a.1=s
    · have HF:Hid (true=r):=Zz (by rw[←HR.out];exact(any_hit HA.out (by simpa using he)).symm);rw[he] at c0;have HZ:=Zz (HQb.out _ hq);go_wp2_with fail;go_ret;exact⟨Zc HF.out,HZ.out⟩
    · have he':(a.1==s)=false:=beq_false_of_ne he;have HN2:=Zz (HN.out.succ HA.out he');go_wp2_with fail;go_roundw
      case rel=>exact⟨j+1,hlt,by go_num,hq,HN2⟩
      case measure=>simp[intOf];omega
  · obtain rfl:j=p.ss.length:=by omega
    have HF:Hid (false=r):=Zz (by rw[←HR.out];exact HN.out.any.symm);have HZ:=Zz (HQb.out _ hq);go_wp2_with fail;go_ret;exact⟨Zc HF.out,HZ.out⟩
theorem append_stepG (base n:Nat) (v:Value) (xs:List Value) (x:Stp) (w:World) (a:Nat) (hown:w.ownsRow base 66 3 v n xs) (hc:Whole w a 66 (Ze x)) (hn:n≤1000) (hbase:base≤w.heap.size):
 ∃A' c' w',(Builtin.append_ #[44,44] 44 #[v,.slice (some ⟨a,0,none⟩) 1 1]).run Tryz.prog w= .ok (.slice A' (n+1) c') w'∧w'.ownsRow base 66 3 (.slice A' (n+1) c') (n+1) (xs++Ze x)∧w.grownBy w' v.ownBlock∧Below base w w':=by
 obtain⟨i,i1,i2,i3,i4⟩:=info_parts infoStep
 obtain⟨v',w',r1,r2,r3,r4,r5⟩:=run_append_own_at (P:=Tryz.prog) w base 44 44 66 i (.agg #[.int .i64 0,.int .i64 0,.int .i64 0]) 3 24 Tryz.underlying44 i1 i2 i3 i4 rfl (by omega) v n xs hown ⟨a,0,none⟩ 1 1 (Ze x) rfl (row_add (hc.row hc.lt)) (oneStep x) (by unfold maxLen;omega) (by omega) hbase
 obtain⟨A',c',rfl,_,_⟩:=ownsS_slice r2
 exact⟨A',c',w',r1,r2,r3,(Below.refl base w).grown r3 hbase (fun k e=>(hown.lt k e).1)⟩
def lngV (u:List Stp) (ns:List Stp) (j:Nat):List (List Stp):=((ns.take j).filter fun x=>!usedS u x.1).map fun x=>u++[x]
theorem lngV_succ {u ns:List Stp} {j:Nat} {x:Stp} (h:ns[j]? =some x):lngV u ns (j+1)=lngV u ns j++(if usedS u x.1=true then [] else [u++[x]]):=by
 unfold lngV;rw[List.take_add_one,h,Option.toList_some,List.filter_append,List.map_append];congr 1
 by_cases hu:usedS u x.1=true
 · simp[hu]
 · simp[hu]
theorem lngV_le (u ns:List Stp) (j:Nat):(lngV u ns j).length≤j:=by
 unfold lngV;rw[List.length_map];exact Nat.le_trans (List.length_filter_le _ _) (by rw[List.length_take];omega)
structure LngI (p:Pth) (ns:List Stp) (base j:Nat) (qs:List Pth) (v:Value) (W:World):Prop where
 row:W.ownsRow base 46 3 v qs.length (qs.flatMap Pth.cells)
 each:∀q ∈ qs,(stepRow W base q∧(q.ss.length:Int)≤9223372036854775807)∧q.s=p.s∧q.x=p.x
 all:qs.map Pth.ss=lngV p.ss ns j
theorem LngI.keep {p:Pth} {ns:List Stp} {base j:Nat} {qs:List Pth} {v:Value} {W W':World} (h:LngI p ns base j qs v W) (hb:Below W.heap.size W W'):LngI p ns base j qs v W':=
 ⟨Zh h.row hb,fun q hq=>⟨⟨Zh (h.each q hq).1.1 hb,(h.each q hq).1.2⟩,(h.each q hq).2⟩,h.all⟩
theorem LngI.skip {p:Pth} {ns:List Stp} {base j:Nat} {qs:List Pth} {v:Value} {W:World} (h:LngI p ns base j qs v W) {x:Stp} (hx:ns[j]? =some x) (hu:usedS p.ss x.1=true):LngI p ns base (j+1) qs v W:=
 ⟨h.row,h.each,by rw[h.all,lngV_succ hx,if_pos hu,List.append_nil]⟩
theorem longer14R_any {l:Lay} {p:Pth} {w:World} (hL:Lies l w) (hp:PLies p w) (hpl:p.ss.length≤100) (q1 q2:Int):
 Calls Tryz.prog 49 #[l.val,p.val,prtV q1 q2] w fun e w'=>∃A c qs,e= .returned (.slice A qs.length c)∧PsOwn w.heap.size qs A c w'∧qs.map Pth.ss=longerV l p.ss (q1,q2)∧(∀q ∈ qs,q.s=p.s∧q.x=p.x)∧Below w.heap.size w w':=by
 obtain⟨W3,hW3⟩:∃W,((w.alloc (.cells #[.slice l.As l.secs.length l.cs,.slice l.Ag l.sigs.length l.cg,.slice l.Ae l.exits.length l.ce,.slice l.Af l.flanks.length l.cf,.int .i64 l.t0,.int .i64 l.t1,.int .i64 l.t2,.int .i64 l.t3,.int .i64 l.t4,.int .i64 l.t5,.int .i64 l.t6] 29)).alloc (.cells #[.int .i64 p.s,.int .i64 p.x,.slice p.A p.ss.length p.c] 46)).alloc (.cells #[.int .i64 q1,.int .i64 q2] 59)=W:=⟨_,rfl⟩
 have hB3:Below w.heap.size w W3:=by rw[←hW3];exact below3 w _ _ _
 have hb0:Whole W3 w.heap.size 29 l.cells:=by rw[←hW3];exact((Whole.new w _ l.cells).alloc _).alloc _
 have hb1:Whole W3 (w.heap.size+1) 46 p.cells:=by rw[←hW3];exact(Whole.Zj _ _ p.cells _ (by simp)).alloc _
 have hb2:Whole W3 (w.heap.size+2) 59 (Zf (q1,q2)):=by rw[←hW3];exact Whole.Zj _ _ (Zf (q1,q2)) _ (by simp)
 obtain⟨Q,HQ,HQb,HQl,HQp,HQv,hq0⟩:∃Q:World→Prop,Hid (Closed Q)∧Hid (∀W,Q W→Below w.heap.size w W)∧Hid (∀W,Q W→Whole W w.heap.size 29 l.cells)∧Hid (∀W,Q W→Whole W (w.heap.size+1) 46 p.cells)∧Hid (∀W,Q W→Whole W (w.heap.size+2) 59 (Zf (q1,q2)))∧Q W3:=
  ⟨fun W=>Below w.heap.size w W∧Whole W w.heap.size 29 l.cells∧Whole W (w.heap.size+1) 46 p.cells∧Whole W (w.heap.size+2) 59 (Zf (q1,q2)),Zz ((Closed.below w).and ((Closed.whole _ _ _).and ((Closed.whole _ _ _).and (Closed.whole _ _ _)))),Zz fun _ h=>h.1,Zz fun _ h=>h.2.1,Zz fun _ h=>h.2.2.1,Zz fun _ h=>h.2.2.2,hB3,hb0,hb1,hb2⟩
 have HPW:Hid (∀W,Q W→PLies p W):=Zz fun W hW=>PLies.closed p _ _ hp (HQb.out W hW)
 obtain⟨ns,hns⟩:∃ns,onN l (q1,q2)=ns:=⟨_,rfl⟩
 have hnl:ns.length≤4:=by rw[←hns];exact onN_le4 _ _
 have KS:=Zz (steps14R_any (Lies.closed l _ _ hL hB3) q1 q2 (m:=ns.length) (by rw[hns]))
 rw[hns] at KS
 obtain⟨lv,hlv⟩:∃x,longerV l p.ss (q1,q2)=x:=⟨_,rfl⟩
 have HLV:Hid (lv=if p.ss.length<12 then lngV p.ss ns ns.length else []):=Zz (by
  rw[←hlv];unfold longerV lngV moreV;rw[hns,List.take_length])
 have hq:=hq0
 have HW3:=Zz hW3
 rw[hlv]
 clear hlv hL hp hq0 hB3 hb0 hb1 hb2 hns hW3
 go_enter Tryz.func49,Tryz.ntmps49
 go_upto_region 2 with (fail)
 try rw[HW3.out]
 clear HW3
 obtain⟨x0,x1,x2,x3,x4,x5,x6,x7,x8,x9,x10⟩:=(HQl.out _ hq).c11
 obtain⟨v0,v1⟩:=(HQv.out _ hq).c2
 go_wp2_with fail
 refine KS.out.mono ?_
 rintro e w4 ⟨An,cn,rfl,hrow,hb4⟩
 have hq:=HQ.out _ _ hq hb4
 clear KS x0 x1 x2 x3 x4 x5 x6 x7 x8 x9 x10 v0 v1 hb4
 obtain⟨Q,HQ,HQo,HQw,hq⟩:=and_moreS HQ (R:=fun W=>Row W W.heap.size An (ns.flatMap Ze)) (fun _ _ h hb=>h.on hb) hq hrow
 replace HQb:=Zz (fun W hW=>HQb.out W (HQo.out W hW))
 replace HQp:=Zz (fun W hW=>HQp.out W (HQo.out W hW))
 replace HPW:=Zz (fun W hW=>HPW.out W (HQo.out W hW))
 clear hrow HQo HQl HQv
 have HQ4:=Zz hq
 go_wp2_with fail
 go_loopw [7,9] (fun v i wr=>∃(j:Nat) (qs:List Pth),j≤ns.length∧i= .int .i64 (j:Int)∧Q wr∧Hid (LngI p ns w4.heap.size j qs v wr)∧Hid (12≤p.ss.length→j=0)∧Hid (Below w4.heap.size w4 wr))
  (fun _ i _=>ns.length - (intOf i).toNat)
 case atStart=>exact⟨0,[],by omega,rfl,hq,Zz ⟨World.ownsRow_nil _ _ _ _,(fun q hq=>by cases hq),rfl⟩,Zz fun _=>rfl,Zz (Below.refl _ _)⟩
 case round=>
  clear hq;obtain⟨j,qs,hj,rfl,hq,HI,H12,HSZ⟩:=hrel;have y2:=(HQp.out _ hq).Za 2 rfl;by_cases hlt:j<ns.length∧p.ss.length<12
  · obtain⟨hlt,hl12⟩:=hlt;have hlt':(j:Int)<ns.length:=by omega
    have hl12':(p.ss.length:Int)<12:=by omega
    obtain⟨⟨f1,f2,f3⟩,hx⟩:∃x,ns[j]? =some x:=⟨_,List.getElem?_eq_getElem hlt⟩;obtain⟨b5,o5,HA5,HC0,HC1⟩:=row_at (f:=Ze) (n:=3) (fun _=>rfl) (by omega) (fun W hW=>HQw.out W hW) hq hx;have HCC:Hid (∀W,Q W→W.cell? ⟨b5,o5+j*3,none⟩=some (.int .i64 f1)∧W.cell? ⟨b5,o5+j*3+1,none⟩=some (.int .i64 f2)∧W.cell? ⟨b5,o5+j*3+2,none⟩=some (.int .i64 f3)):=Zz fun W hW=>⟨HC0.out W hW _ _ _ hx rfl,HC1.out W hW _ _ 1 _ hx rfl,HC1.out W hW _ _ 2 _ hx rfl⟩;obtain rfl:=HA5.out;obtain⟨us,hus⟩:∃b,usedS p.ss f1=b:=⟨_,rfl⟩;have KT:Hid (∀W,Q W→Calls Tryz.prog 83 #[p.val,.int .i64 f1] W fun e w'=>e= .returned (.bool us)∧Below W.heap.size W w'):=Zz fun W hW=>through14R_any (HPW.out W hW) (by omega) f1 hus;have HXU:=Zz (And.intro hx hus);obtain⟨wa,rfl⟩:∃W,W=wr:=⟨wr,rfl⟩;clear HA5 HC0 HC1 hx hus y2;have y2:=(HQp.out _ hq).Za 2 rfl;have HQA:=Zz hq;go_wp2_with fail;have HBS:Hid (∀W,Below wa.heap.size wa W→Q W):=Zz (fun W hB=>HQ.out _ _ hq hB);clear hq;refine rmx wa f8 (by kernel_rfl) (by kernel_rfl) ?_;simp only[Zg,f8,Lm,Ln];repeat ((first|(refine Zb (by rfl) ?_)|(refine mrd HBS _ (by rfl) (fun W hW=>by(obtain⟨y0,y1,y2⟩:=(HQp.out W hW).c3;obtain⟨c0,c1,c2⟩:=HCC.out W hW;go_simp;first|done|with_reducible rfl)) ?_)|(refine mcl HBS _ _ _ (by rfl) (fun W hW=>by(obtain⟨y0,y1,y2⟩:=(HQp.out W hW).c3;obtain⟨c0,c1,c2⟩:=HCC.out W hW;go_simp;first|done|rfl)) (fun W hW=>KT.out W (HBS.out W hW)) ?_));simp only[Act.put,La,Lb,Lc])
    refine Zd (fun W hW=>?_);have hq:=HBS.out W hW;have HBW:=Zz hW;clear hW HBS;have HI1:=Zz (HI.out.keep HBW.out);have HS1:=Zz (HSZ.out.trans (HBW.out.mono HSZ.out.size));clear y2 HBW HI HSZ HQA;obtain⟨wb,rfl⟩:∃X,X=W:=⟨W,rfl⟩;cases us;rotate_left
    · have HI2:=Zz (HI1.out.skip HXU.out.1 HXU.out.2);go_wp2_with fail;go_roundw
      case rel=>exact⟨j+1,qs,by omega,by go_num,hq,HI2,Zz fun h=>by omega,HS1⟩
      case measure=>simp[intOf];omega
    have KO:=Zz (ownR11s_any (HPW.out _ hq) (by omega));have HQB:=Zz hq;obtain⟨y0,y1,y2⟩:=(HQp.out _ hq).c3;go_wp2_with fail;refine KO.out.mono ?_;rintro e w5 ⟨A3,c3,rfl,hO5,hB5⟩;have HO5:=Zz (owns_base12 hO5 (by omega:wb.heap.size≤wb.heap.size+2));have HB5:=Zz hB5;clear KO y0 y1 y2 hO5 hB5 hq;go_upto_region 8 with (fail)
    obtain⟨w6,hw6⟩:∃W,w5.alloc (.cells #[.int .i64 p.s,.int .i64 p.x,.slice A3 p.ss.length c3] 46)=W:=⟨_,rfl⟩;have hB6:Below w5.heap.size w5 w6:=by rw[←hw6];exact below1 _ _
    have hb6:Whole w6 w5.heap.size 46 [.int .i64 p.s,.int .i64 p.x,.slice A3 p.ss.length c3]:=by rw[←hw6];exact Whole.new _ _ [_,_,_]
    try rw[hw6]
    obtain⟨gb,hgb⟩:∃n,w5.heap.size=n:=⟨_,rfl⟩;rw[hgb] at hb6;try rw[hgb]
    have hBB:Below wb.heap.size wb w6:=HB5.out.trans (hB6.mono HB5.out.size);have HGB:Hid (wb.heap.size≤gb):=Zz (by rw[←hgb];exact HB5.out.size);have hS6:(Below wb.heap.size wb w6∧Whole w6 gb 46 [.int .i64 p.s,.int .i64 p.x,.slice A3 p.ss.length c3])∧w6.ownsRow wb.heap.size 66 3 (.slice A3 p.ss.length c3) p.ss.length (p.ss.flatMap Ze):=⟨⟨hBB,hb6⟩,Zh HO5.out hB6⟩;have HF0:Hid (Closed fun W=>Below wb.heap.size wb W∧Whole W gb 46 [.int .i64 p.s,.int .i64 p.x,.slice A3 p.ss.length c3]):=Zz ((Closed.below wb).and (Closed.whole _ _ _));have HS6:=Zz hS6;clear hS6 hBB hb6 hB6 hw6 hgb HO5 HB5;refine region_mixt (fun W=>Below wb.heap.size wb W∧Whole W gb 46 [.int .i64 p.s,.int .i64 p.x,.slice A3 p.ss.length c3]) [(0,false),(1,false),(2,false),(3,false),(4,false),(5,false),(6,true),(7,true)] 2 8 (by kernel_rfl) rfl (by kernel_rfl) (fun W=>(Below wb.heap.size wb W∧Whole W gb 46 [.int .i64 p.s,.int .i64 p.x,.slice A3 p.ss.length c3])∧W.ownsRow wb.heap.size 66 3 (.slice A3 p.ss.length c3) p.ss.length (p.ss.flatMap Ze)) ⟨HF0.out.and (Closed.owns _ _ _ _ _ _),fun _ h=>h.1⟩ ((HF0.out.and (Closed.owns _ _ _ _ _ _)).drew HS6.out) ?_;simp only[Zg,Lm,Ln];repeat ((first|(refine Zb (by rfl) ?_)|(refine Zn _ (by rfl) (fun W hW=>by(obtain⟨c0,c1,c2⟩:=HCC.out W (HQ.out _ _ HQB.out hW.1);have y2:=hW.2.Za 2 rfl;clear hW;go_simp;first|done|with_reducible rfl)) ?_));simp only[Act.put,La,Lb,Lc])
    refine mix_make (fun g=>.slice (some ⟨g,0,none⟩) 1 1) 0 66 (Ze (f1,f2,f3)) ⟨HF0.out.and (Closed.owns _ _ _ _ _ _),fun _ h=>h.1⟩ (fun W hW=>Nat.zero_le _) (by rfl) (fun W hW=>by(clear hW;go_simp;first|done|with_reducible rfl)) (fun g hg=>?_);simp only[Act.put,La,Lb,Lc];refine mix_yield (X:=Option Addr×Nat) (fun y=>.slice y.1 (p.ss.length+1) y.2) (fun y W=>(Below wb.heap.size wb W∧Whole W gb 46 [.int .i64 p.s,.int .i64 p.x,.slice A3 p.ss.length c3])∧W.ownsRow wb.heap.size 66 3 (.slice y.1 (p.ss.length+1) y.2) (p.ss.length+1) ((p.ss++[(f1,f2,f3)]).flatMap Ze)) (fun y=>⟨HF0.out.and (Closed.owns _ _ _ _ _ _),fun _ h=>h.1⟩) (by rfl) (fun W hW=>?_) (fun y=>?_)
    · obtain⟨A9,c9,w',h1,h2,h3,h4⟩:=append_stepG wb.heap.size p.ss.length (.slice A3 p.ss.length c3) (p.ss.flatMap Ze) (f1,f2,f3) W g hW.1.2 hW.2 (by omega) hW.1.1.1.size;exact⟨(A9,c9),w',exec_append (.tmp 37) (.tmp 42) 44 rfl h1,⟨hW.1.1.1.trans h4,hW.1.1.2.kept h3 (fun e=>by
       rcases owns_box hW.1.2 hW.1.1.2 (by decide) with h|h
       · rw[h] at e;cases e
       · exact h e.symm)⟩,by rw[List.flatMap_append];simpa using h2⟩
    simp only[Act.put,La,Lb,Lc];refine Zd (fun W hW=>?_);simp only[List.drop_succ_cons,List.drop_zero];obtain⟨A4,c4⟩:=y;obtain⟨⟨hB7,hb7⟩,hO7⟩:=hW;have u2:=hb7.Za 2 rfl;have fz:=hb7.frozen 2;have hne:(Value.slice A4 (p.ss.length+1) c4).ownBlock≠some (Addr.mk gb 2 none).block:=fun e=>by
     rcases owns_box hO7 hb7 (by decide) with h|h
     · rw[h] at e;cases e
     · exact h e
    obtain⟨w8,hw8⟩:∃X,W.setCell ⟨gb,2,none⟩ (.slice A4 (p.ss.length+1) c4)=X:=⟨_,rfl⟩;have hb8:Whole w8 gb 46 [.int .i64 p.s,.int .i64 p.x,.slice A4 (p.ss.length+1) c4]:=by rw[←hw8];exact hb7.set 2 _
    have hO8:w8.ownsRow wb.heap.size 66 3 (.slice A4 (p.ss.length+1) c4) (p.ss.length+1) ((p.ss++[(f1,f2,f3)]).flatMap Ze):=by rw[←hw8];exact owns_past hO7 (p:=⟨gb,2,none⟩) hne _
    have hB8:Below wb.heap.size wb w8:=by rw[←hw8];exact hB7.setCell (p:=⟨gb,2,none⟩) HGB.out _
    have HB8:=Zz (And.intro hb8 (And.intro hO8 hB8));have HW8:=Zz hw8;clear hne hb8 hO8 hB8 hB7 hO7 hw8 hb7;obtain⟨q',hq'⟩:∃q':Pth,(⟨p.s,p.x,A4,c4,p.ss++[(f1,f2,f3)]⟩:Pth)=q':=⟨_,rfl⟩;have hcc:q'.cells=[.int .i64 p.s,.int .i64 p.x,.slice A4 (p.ss.length+1) c4]:=by rw[←hq'];show[_,_,Value.slice A4 (p.ss++[(f1,f2,f3)]).length c4]=_;rw[List.length_append];rfl
    have hql:qs.length≤4:=by have h1:=congrArg List.length HI1.out.all;rw[List.length_map] at h1;have h2:=lngV_le p.ss ns j;omega
    have hb9:=below1 w8 (.cells q'.cells.toArray 46);obtain⟨v',w9,hrun,hO9,hg9,hB9,_⟩:=append_path w4.heap.size qs.length u7 (qs.flatMap Pth.cells) q' (w8.alloc (.cells q'.cells.toArray 46)) w8.heap.size (Zh (Zh HI1.out.row HB8.out.2.2) hb9) (Whole.new w8 _ q'.cells) (by omega) (by have h1:=HS1.out.size;have h2:=HB8.out.2.2.size;simp;omega);have hB48:Below w4.heap.size w4 w8:=HS1.out.trans (HB8.out.2.2.mono HS1.out.size);have hB49:Below w4.heap.size w4 w9:=(hB48.trans (hb9.mono hB48.size)).trans hB9;have hap:∀ {q:Pth},stepRow w8 w4.heap.size q→stepRow w9 w4.heap.size q:=fun {q} hq=>owns_apartN hg9 (Zh hq hb9) (fun g hg e=>by
     have h1:=owns_apart (Zh hq hb9) (Zh (Zh HI1.out.row HB8.out.2.2) hb9) (by decide);rcases h1 with h1|h1
     · rw[h1] at hg;cases hg
     · exact h1 (hg.trans e.symm));have HN:Hid (LngI p ns w4.heap.size (j+1) (qs++[q']) v' w9):=Zz ⟨by rw[List.length_append,List.flatMap_append];simpa using hO9,fun q hq=>by
     rcases List.mem_append.1 hq with hq|hq
     · exact⟨⟨hap (Zh (HI1.out.each q hq).1.1 HB8.out.2.2),(HI1.out.each q hq).1.2⟩,(HI1.out.each q hq).2⟩
     · rw[List.mem_singleton.1 hq];refine⟨⟨hap ?_,?_⟩,by rw[←hq'],by rw[←hq']⟩
       · rw[←hq'];show w8.ownsRow _ _ _ (.slice A4 (p.ss++[(f1,f2,f3)]).length c4) (p.ss++[(f1,f2,f3)]).length _;rw[List.length_append];exact owns_base12 HB8.out.2.1 HS1.out.size
       · rw[←hq'];show(((p.ss++[(f1,f2,f3)]).length:Nat):Int)≤_;rw[List.length_append];simp;omega,by rw[List.map_append,HI1.out.all,lngV_succ HXU.out.1,if_neg (by rw[HXU.out.2];decide),←hq'];rfl⟩;have HB49:=Zz hB49;have HQ9:=Zz (HQ.out _ _ HQ4.out hB49);rw[hcc] at hrun;clear hcc hql hb9 hO9 hg9 hB9 hB48 hB49 hap hq';go_upto_region 9 with (fail)
    try rw[HW8.out]
    clear u2 fz;obtain⟨y0,y1,y2⟩:=(HB8.out.1).c3;go_wp2_with (at_builtin;refine Zo rfl (.tmp 45) (.tmp 47) 33 rfl hrun ?_);go_roundw
    case rel=>exact⟨j+1,qs++[q'],by omega,by go_num,HQ9.out,HN,Zz fun h=>by omega,HB49⟩
    case measure=>simp[intOf];omega
  · have HZ:Hid (qs.map Pth.ss=lv):=Zz (by
     rw[HI.out.all,HLV.out];by_cases h:p.ss.length<12
     · rw[if_pos h,show j=ns.length by omega]
     · rw[if_neg h,H12.out (by omega)];rfl);obtain⟨A,c,rfl,hr,_⟩:=ownsS_slice HI.out.row;have HS4:Hid (w.heap.size≤w4.heap.size):=Zz (HQb.out _ HQ4.out).size;have HE:=Zz (And.intro (owns_base12 HI.out.row HS4.out) (HQb.out _ hq));have HEE:=Zz HI.out.each;have hw:(j:Int)<ns.length∧¬(p.ss.length:Int)<12∨¬(j:Int)<ns.length:=by omega
    clear hr HI;rcases hw with ⟨z1,z2⟩|z1 <;> (go_wp2_with fail;go_ret;exact⟨A,c,qs,rfl,⟨HE.out.1,fun q hq=>⟨owns_base12 (HEE.out q hq).1.1 HS4.out,(HEE.out q hq).1.2⟩⟩,HZ.out,fun q hq=>(HEE.out q hq).2,HE.out.2⟩)
end
end Go.Proofs.YtifnlhfinjfajaaGreatDoor
