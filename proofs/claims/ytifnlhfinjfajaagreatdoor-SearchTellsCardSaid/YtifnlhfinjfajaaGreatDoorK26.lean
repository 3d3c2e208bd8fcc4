/- Of this seat: LayTellsM_1, BeN_1, RouF_1, RouG, TopoW. -/
import Derived.Test.YtifnlhfinjfajaaGreatDoorK14
import Derived.Test.YtifnlhfinjfajaaGreatDoorK23
import Derived.Test.YtifnlhfinjfajaaGreatDoorK25
namespace Go.Proofs.YtifnlhfinjfajaaGreatDoor
set_option linter.unusedVariables false
set_option linter.unusedSimpArgs false
set_option maxRecDepth 100000
set_option maxHeartbeats 32000000
section
open Go.RowKit Go.Shelf
theorem neq_prtD (w:World) (a b a' b':Int):(binOp .neq 59 (prtV a b) (prtV a' b')).run Tryz.prog w= .ok (.bool (!decide ((a,b)=(a',b')))) w:=by
 rw[run_neq_struct,eq_prt w 9998];have :(a==a'&&b==b')=decide ((a,b)=(a',b')):=by rw[Bool.eq_iff_iff];simp
 rw[this];rfl
end
section
open Go.RowKit Go.Shelf
section
variable {l:Lay} {w:World}
theorem rightR_B (hL:Lies l w) {r:Bool} (hr:rightL l=r):Calls Tryz.prog 59 #[l.val] w fun e w'=>e= .returned (.bool r)∧Below w.heap.size w w':=
 rightR1_P (P:=fun W=>Below w.heap.size w W) (Closed.below w) (fun W h=>Lies.closed l _ _ hL h) ((rightR_eq l).trans hr) (Below.refl _ _)
end
end
section
open Go.RowKit Go.Shelf
section
variable {P:World→Prop} {w:World}
end
def upTo (l:Lay) (s i o k:Int) (j:Nat):List (Int×Int×Int):=firstV l s i o k++((l.flanks.take j).filter (isFlk l s i o)).map (fun f=>(f.2.2.1,f.2.2.2,k))
theorem upTo_zero (l:Lay) (s i o k:Int):upTo l s i o k 0=firstV l s i o k:=by simp[upTo]
theorem upTo_yes {l:Lay} {s i o k:Int} {j:Nat} {f:Int×Int×Int×Int} (h:l.flanks[j]? =some f) (hp:isFlk l s i o f=true):upTo l s i o k (j+1)=upTo l s i o k j++[(f.2.2.1,f.2.2.2,k)]:=by
 unfold upTo;rw[List.take_add_one,h,Option.toList_some,List.filter_append,List.filter_cons_of_pos hp,List.filter_nil,List.map_append,List.append_assoc];rfl
theorem upTo_no {l:Lay} {s i o k:Int} {j:Nat} {f:Int×Int×Int×Int} (h:l.flanks[j]? =some f) (hp:isFlk l s i o f=false):upTo l s i o k (j+1)=upTo l s i o k j:=by
 unfold upTo;rw[List.take_add_one,h,Option.toList_some,List.filter_append,List.filter_cons_of_neg (by simp[hp]),List.filter_nil,List.append_nil]
theorem upTo_all (l:Lay) (s i o k:Int):upTo l s i o k l.flanks.length=wantsV l s i o k:=by unfold upTo wantsV flanksV;rw[List.take_length]
theorem upTo_le (l:Lay) (s i o k:Int) (j:Nat):(upTo l s i o k j).length≤j+1:=by
 unfold upTo;have h1:=first_le l s i o k;have h2:=List.length_filter_le (isFlk l s i o) (l.flanks.take j);have h3:(l.flanks.take j).length≤j:=by rw[List.length_take];omega
 rw[List.length_append,List.length_map];omega
theorem upTo_none {l:Lay} {s i o k:Int} {j:Nat} (h:stepV l s i o=false):upTo l s i o k j=wantsV l s i o k:=by
 unfold wantsV upTo flanksV;rw[show isFlk l s i o=fun _=>false from funext fun f=>by unfold isFlk;rw[h];rfl,List.filter_eq_nil_iff.2 (by simp),List.filter_eq_nil_iff.2 (by simp)]
theorem keep_two {w:World} (t t':TypeId) (vs us:List Value):
 ∃Q:World→Prop,Hid (Closed Q)∧Hid (∀W,Q W→Below w.heap.size w W)∧Hid (∀W,Q W→Whole W w.heap.size t vs)∧Hid (∀W,Q W→Whole W (w.heap.size+1) t' us)∧Hid (∀W W',Q W→Below (w.heap.size+2) W W'→Q W')∧Q ((w.alloc (.cells vs.toArray t)).alloc (.cells us.toArray t')):=
 ⟨fun W=>(Below w.heap.size w W∧Whole W w.heap.size t vs)∧Whole W (w.heap.size+1) t' us,Zz (((Closed.below w).and (Closed.whole _ t vs)).and (Closed.whole _ t' us)),Zz (fun _ h=>h.1.1),Zz (fun _ h=>h.1.2),Zz (fun _ h=>h.2),
  Zz (fun W W' h hb=>⟨⟨h.1.1.trans (hb.mono (by omega)),h.1.2.below hb (by omega)⟩,h.2.below hb (by omega)⟩),⟨below2 w _ _,(Whole.new w t vs).alloc _⟩,Whole.Zj _ t' us _ (by simp)⟩
theorem wantsR_any {l:Lay} {w:World} (hL:Lies l w) (hF:l.flanks.length≤900) (s i o k:Int) {ns:List (Int×Int×Int)} (hs:wantsV l s i o k=ns):
 Calls Tryz.prog 55 #[l.val,stpV s i o,.int .i64 k] w fun e w'=>∃v,e= .returned v∧w'.ownsRow w.heap.size 100 3 v ns.length (ns.flatMap Zi)∧Below w.heap.size w w':=by
 subst hs
 obtain⟨Q,HQ,HQb,HQl,HQv,HQG,hq⟩:=keep_two (w:=w) 29 66 l.cells (Ze (s,i,o))
 have HSQ:Hid (∀W,Q W→w.heap.size+2≤W.heap.size):=Zz fun W hW=>by have :=(HQv.out W hW).lt;omega
 have HTW:Hid (∀W,Q W→Lies l W):=Zz fun W hW=>Lies.closed l _ _ hL (HQb.out W hW)
 obtain⟨⟨p,pos,ok⟩,hpv⟩:∃r,pointV l s i o=r:=⟨_,rfl⟩
 have KP:=Zz (fun W hW=>keepR HQ.out (pointR_any (w:=W) (HTW.out W hW) s i o hpv) hW)
 obtain⟨st,hst⟩:∃st,stepV l s i o=st:=⟨_,rfl⟩
 obtain⟨wy,hwy⟩:∃wy,wayK (Zu l s) i o=wy:=⟨_,rfl⟩
 have KS:Hid (∀W,Q W→Calls Tryz.prog 85 #[l.val,stpV s i o] W fun e w'=>e= .returned (.tuple #[.int .i64 wy,.bool st])∧Below W.heap.size W w'∧Q w'):=Zz (fun W hW=>(stepR_B (w:=W) (HTW.out W hW) s i o hwy hst).mono fun e w' h=>⟨h.1,h.2,HQ.out _ _ hW h.2⟩)
 have HFV:Hid (firstV l s i o k=if ok=true then [(p,pos,k)] else []):=Zz (by unfold firstV;rw[hpv])
 have HIF:Hid (∀f,isFlk l s i o f=(st&&(decide (f.1=s)&&decide (f.2.1=wy)))):=Zz (fun f=>by unfold isFlk;rw[hst,hwy])
 have HWN:Hid (∀j,st=false→upTo l s i o k j=wantsV l s i o k):=Zz (fun j h=>upTo_none (hst.trans h))
 clear hL hpv hst hwy
 have hW:=hq
 obtain⟨x0,x1,x2,x3,x4,x5,x6,x7,x8,x9,x10⟩:=(HQl.out _ hW).c11
 obtain⟨v0,v1,v2⟩:=(HQv.out _ hW).c3
 clear hW
 go_enter Tryz.func55,Tryz.ntmps55
 go_wp2_with fail
 refine(KP.out _ hq).mono ?_
 clear x0 x1 x2 x3 x4 x5 x6 x7 x8 x9 x10 v0 v1 v2 hq KP
 rintro e w1 ⟨rfl,hq⟩
 cases ok
 · have HFI:Hid (upTo l s i o k 0=[]):=Zz (by rw[upTo_zero,HFV.out];rfl);have hW:=hq;obtain⟨x0,x1,x2,x3,x4,x5,x6,x7,x8,x9,x10⟩:=(HQl.out _ hW).c11;obtain⟨v0,v1,v2⟩:=(HQv.out _ hW).c3;clear hW;go_wp2_with fail;refine(KS.out _ hq).mono ?_;clear x0 x1 x2 x3 x4 x5 x6 x7 x8 x9 x10 v0 v1 v2 hq KS;rintro e w2 ⟨rfl,_,hq⟩;have HST:Hid (w2.ownsRow (w.heap.size+2) 100 3 (.slice none 0 0) (upTo l s i o k 0).length ((upTo l s i o k 0).flatMap Zi)):=Zz (by rw[HFI.out];exact World.ownsRow_nil _ _ _ _);have HST0:=Zz hq;clear hq;go_wp2_with fail;go_loopw [7,13] (fun v i' wr=>∃j:Nat,j≤l.flanks.length∧i'= .int .i64 j∧Hid (wr.ownsRow (w.heap.size+2) 100 3 v (upTo l s i o k j).length ((upTo l s i o k j).flatMap Zi)∧Q wr)) (fun _ i' _=>l.flanks.length - (intOf i').toNat)
   case atStart=>exact⟨0,by omega,rfl,Zz ⟨HST.out,HST0.out⟩⟩
   case round=>
    clear HST HST0;obtain⟨j,hj,rfl,HM⟩:=hrel;obtain⟨wa,rfl⟩:∃W,W=wr:=⟨wr,rfl⟩;have hq:=HM.out.2;have x3:=(HQl.out _ hq).Za 3 rfl;by_cases hlt:j<l.flanks.length
    · have hlt':(j:Int)<l.flanks.length:=by omega
      cases st
      · have HO:Hid (wa.ownsRow w.heap.size 100 3 _ (wantsV l s i o k).length ((wantsV l s i o k).flatMap Zi)∧Below w.heap.size w wa):=Zz (by rw[←HWN.out j rfl];exact⟨owns_base HM.out.1 (by omega),HQb.out _ hq⟩);clear hq HM;go_wp2_with fail;go_ret;exact⟨_,rfl,HO.out⟩
      obtain⟨⟨f1,f2,f3,f4⟩,hx⟩:∃x,l.flanks[j]? =some x:=⟨_,List.getElem?_eq_getElem hlt⟩;obtain⟨b,off,hA,_,hc0,hc⟩:=(HTW.out _ hq).flanks.nth (n:=4) (fun _=>rfl) (by omega) hx;have HX:=Zz hx;have c0:=hc0 j _ _ hx rfl;have c1:=hc j _ 1 _ hx rfl;have c2:=hc j _ 2 _ hx rfl;have c3:=hc j _ 3 _ hx rfl;have hb4:=below1 wa (.cells #[.int .i64 f1,.int .i64 f2,.int .i64 f3,.int .i64 f4] 136);have hwi:IntKind.i64.wrap ((j:Int)+1)=(j:Int)+1:=IntWalk.i64_in _ (by omega);rw[hA] at x3;have HUL:Hid ((upTo l s i o k j).length≤1000):=Zz (by have :=upTo_le l s i o k j;omega);obtain⟨gf,hgf⟩:∃gf,wa.heap.size=gf:=⟨_,rfl⟩;obtain⟨W1,hW1⟩:∃W1,wa.alloc (.cells #[.int .i64 f1,.int .i64 f2,.int .i64 f3,.int .i64 f4] 136)=W1:=⟨_,rfl⟩;have hf:Whole W1 gf 136 [.int .i64 f1,.int .i64 f2,.int .i64 f3,.int .i64 f4]:=by rw[←hW1];exact Whole.Zj wa _ [.int .i64 f1,.int .i64 f2,.int .i64 f3,.int .i64 f4] gf hgf.symm
      have HB1:Hid (Below wa.heap.size wa W1):=Zz (by rw[←hW1];exact below1 _ _);rw[hW1] at hb4;have HH:Hid (Q W1):=Zz (HQ.out _ _ hq HB1.out);have HFF:=Zz hf;have HHG:=Zz (And.intro hgf hW1);clear hx hc0 hc hA hq hb4 hf hgf hW1;go_upto_region 10 with (fail)
      try rw[HHG.out.2]
      try rw[HHG.out.1]
      clear x3 c0 c1 c2 c3;have v0:=(HQv.out _ HH.out).Za 0 rfl;have d0:=HFF.out.Za 0 rfl;have d1:=HFF.out.Za 1 rfl;by_cases e1:f1=s
      · by_cases e2:f2=wy
        · have HE:=Zz (upTo_yes (k:=k) HX.out (by rw[HIF.out];simp[e1,e2]));simp only at HE;have d2:=HFF.out.Za 2 rfl;have d3:=HFF.out.Za 3 rfl;obtain⟨v',w3,hrun,hown',_,hB3,_⟩:=append_need (w.heap.size+2) _ _ _ (f3,f4,k) (W1.alloc (.cells #[.int .i64 f3,.int .i64 f4,.int .i64 k] 100)) W1.heap.size (Zh (Zh HM.out.1 HB1.out) (below1 _ _)) (Whole.new W1 _ (Zi (f3,f4,k))) HUL.out (by have :=HSQ.out _ HH.out;simp;omega);have HO:Hid (w3.ownsRow (w.heap.size+2) 100 3 v' (upTo l s i o k (j+1)).length ((upTo l s i o k (j+1)).flatMap Zi)):=Zz (by rw[HE.out,List.length_append,List.flatMap_append];simpa using hown');have HB:Hid (Q w3):=Zz (HQG.out _ _ (HQ.out _ _ HH.out (below1 W1 _)) hB3);subst e1 e2;clear hown' hB3 HE;go_wp2_with (at_builtin;refine Zo rfl (.tmp 62) (.tmp 69) 76 rfl hrun ?_);go_roundw
          case rel=>exact⟨j+1,hlt,by go_num,Zz ⟨HO.out,HB.out⟩⟩
          case measure=>simp[intOf];omega
        · have HE:=Zz (upTo_no (k:=k) HX.out (by rw[HIF.out];simp[e2]));have HO:Hid (W1.ownsRow (w.heap.size+2) 100 3 _ (upTo l s i o k (j+1)).length ((upTo l s i o k (j+1)).flatMap Zi)∧Q W1):=Zz (by rw[HE.out];exact⟨Zh HM.out.1 HB1.out,HH.out⟩);have q1:(f1==s)=true:=by simp[e1]
          have q2:(f2==wy)=false:=by simp[e2]
          clear e1 e2 HE;go_wp2_with fail;go_roundw
          case rel=>exact⟨j+1,hlt,by go_num,HO⟩
          case measure=>simp[intOf];omega
      · have HE:=Zz (upTo_no (k:=k) HX.out (by rw[HIF.out];simp[e1]));have HO:Hid (W1.ownsRow (w.heap.size+2) 100 3 _ (upTo l s i o k (j+1)).length ((upTo l s i o k (j+1)).flatMap Zi)∧Q W1):=Zz (by rw[HE.out];exact⟨Zh HM.out.1 HB1.out,HH.out⟩);have q1:(f1==s)=false:=by simp[e1]
        clear e1 HE;go_wp2_with fail;go_roundw
        case rel=>exact⟨j+1,hlt,by go_num,HO⟩
        case measure=>simp[intOf];omega
    · obtain rfl:j=l.flanks.length:=by omega
      have HO:Hid (wa.ownsRow w.heap.size 100 3 _ (wantsV l s i o k).length ((wantsV l s i o k).flatMap Zi)∧Below w.heap.size w wa):=Zz (by rw[←upTo_all];exact⟨owns_base HM.out.1 (by omega),HQb.out _ hq⟩);clear hq HM;go_wp2_with fail;go_ret;exact⟨_,rfl,HO.out⟩
 · have HFI:Hid (upTo l s i o k 0=[(p,pos,k)]):=Zz (by rw[upTo_zero,HFV.out];rfl);have hs1:=HSQ.out _ hq;obtain⟨v',w3,hrun,hown',_,hB3,_⟩:=append_need (w.heap.size+2) 0 (.slice none 0 0) [] (p,pos,k) (w1.alloc (.cells #[.int .i64 p,.int .i64 pos,.int .i64 k] 100)) w1.heap.size (World.ownsRow_nil _ _ _ _) (Whole.new w1 _ (Zi (p,pos,k))) (by omega) (by simp;omega);have HO3:Hid (w3.ownsRow (w.heap.size+2) 100 3 v' (upTo l s i o k 0).length ((upTo l s i o k 0).flatMap Zi)):=Zz (by rw[HFI.out];simpa using hown');have hq:=HQG.out _ _ (HQ.out _ _ hq (below1 w1 (.cells #[.int .i64 p,.int .i64 pos,.int .i64 k] 100))) hB3;clear hown' hB3 hs1;have hW:=hq;obtain⟨x0,x1,x2,x3,x4,x5,x6,x7,x8,x9,x10⟩:=(HQl.out _ hW).c11;obtain⟨v0,v1,v2⟩:=(HQv.out _ hW).c3;clear hW;go_wp2_with (at_builtin;refine Zo rfl (.tmp 23) (.tmp 28) 76 rfl hrun ?_);refine(KS.out _ hq).mono ?_;clear x0 x1 x2 x3 x4 x5 x6 x7 x8 x9 x10 v0 v1 v2 hq KS;rintro e w2 ⟨rfl,hb2,hq⟩;have HST:Hid (w2.ownsRow (w.heap.size+2) 100 3 v' (upTo l s i o k 0).length ((upTo l s i o k 0).flatMap Zi)):=Zz (Zh HO3.out hb2);clear hb2;have HST0:=Zz hq;clear hq;go_wp2_with fail;go_loopw [7,13] (fun v i' wr=>∃j:Nat,j≤l.flanks.length∧i'= .int .i64 j∧Hid (wr.ownsRow (w.heap.size+2) 100 3 v (upTo l s i o k j).length ((upTo l s i o k j).flatMap Zi)∧Q wr)) (fun _ i' _=>l.flanks.length - (intOf i').toNat)
   case atStart=>exact⟨0,by omega,rfl,Zz ⟨HST.out,HST0.out⟩⟩
   case round=>
    clear HST HST0;obtain⟨j,hj,rfl,HM⟩:=hrel;obtain⟨wa,rfl⟩:∃W,W=wr:=⟨wr,rfl⟩;have hq:=HM.out.2;have x3:=(HQl.out _ hq).Za 3 rfl;by_cases hlt:j<l.flanks.length
    · have hlt':(j:Int)<l.flanks.length:=by omega
      cases st
      · have HO:Hid (wa.ownsRow w.heap.size 100 3 _ (wantsV l s i o k).length ((wantsV l s i o k).flatMap Zi)∧Below w.heap.size w wa):=Zz (by rw[←HWN.out j rfl];exact⟨owns_base HM.out.1 (by omega),HQb.out _ hq⟩);clear hq HM;go_wp2_with fail;go_ret;exact⟨_,rfl,HO.out⟩
      obtain⟨⟨f1,f2,f3,f4⟩,hx⟩:∃x,l.flanks[j]? =some x:=⟨_,List.getElem?_eq_getElem hlt⟩;obtain⟨b,off,hA,_,hc0,hc⟩:=(HTW.out _ hq).flanks.nth (n:=4) (fun _=>rfl) (by omega) hx;have HX:=Zz hx;have c0:=hc0 j _ _ hx rfl;have c1:=hc j _ 1 _ hx rfl;have c2:=hc j _ 2 _ hx rfl;have c3:=hc j _ 3 _ hx rfl;have hb4:=below1 wa (.cells #[.int .i64 f1,.int .i64 f2,.int .i64 f3,.int .i64 f4] 136);have hwi:IntKind.i64.wrap ((j:Int)+1)=(j:Int)+1:=IntWalk.i64_in _ (by omega);rw[hA] at x3;have HUL:Hid ((upTo l s i o k j).length≤1000):=Zz (by have :=upTo_le l s i o k j;omega);obtain⟨gf,hgf⟩:∃gf,wa.heap.size=gf:=⟨_,rfl⟩;obtain⟨W1,hW1⟩:∃W1,wa.alloc (.cells #[.int .i64 f1,.int .i64 f2,.int .i64 f3,.int .i64 f4] 136)=W1:=⟨_,rfl⟩;have hf:Whole W1 gf 136 [.int .i64 f1,.int .i64 f2,.int .i64 f3,.int .i64 f4]:=by rw[←hW1];exact Whole.Zj wa _ [.int .i64 f1,.int .i64 f2,.int .i64 f3,.int .i64 f4] gf hgf.symm
      have HB1:Hid (Below wa.heap.size wa W1):=Zz (by rw[←hW1];exact below1 _ _);rw[hW1] at hb4;have HH:Hid (Q W1):=Zz (HQ.out _ _ hq HB1.out);have HFF:=Zz hf;have HHG:=Zz (And.intro hgf hW1);clear hx hc0 hc hA hq hb4 hf hgf hW1;go_upto_region 10 with (fail)
      try rw[HHG.out.2]
      try rw[HHG.out.1]
      clear x3 c0 c1 c2 c3;have v0:=(HQv.out _ HH.out).Za 0 rfl;have d0:=HFF.out.Za 0 rfl;have d1:=HFF.out.Za 1 rfl;by_cases e1:f1=s
      · by_cases e2:f2=wy
        · have HE:=Zz (upTo_yes (k:=k) HX.out (by rw[HIF.out];simp[e1,e2]));simp only at HE;have d2:=HFF.out.Za 2 rfl;have d3:=HFF.out.Za 3 rfl;obtain⟨v',w3,hrun,hown',_,hB3,_⟩:=append_need (w.heap.size+2) _ _ _ (f3,f4,k) (W1.alloc (.cells #[.int .i64 f3,.int .i64 f4,.int .i64 k] 100)) W1.heap.size (Zh (Zh HM.out.1 HB1.out) (below1 _ _)) (Whole.new W1 _ (Zi (f3,f4,k))) HUL.out (by have :=HSQ.out _ HH.out;simp;omega);have HO:Hid (w3.ownsRow (w.heap.size+2) 100 3 v' (upTo l s i o k (j+1)).length ((upTo l s i o k (j+1)).flatMap Zi)):=Zz (by rw[HE.out,List.length_append,List.flatMap_append];simpa using hown');have HB:Hid (Q w3):=Zz (HQG.out _ _ (HQ.out _ _ HH.out (below1 W1 _)) hB3);subst e1 e2;clear hown' hB3 HE;go_wp2_with (at_builtin;refine Zo rfl (.tmp 62) (.tmp 69) 76 rfl hrun ?_);go_roundw
          case rel=>exact⟨j+1,hlt,by go_num,Zz ⟨HO.out,HB.out⟩⟩
          case measure=>simp[intOf];omega
        · have HE:=Zz (upTo_no (k:=k) HX.out (by rw[HIF.out];simp[e2]));have HO:Hid (W1.ownsRow (w.heap.size+2) 100 3 _ (upTo l s i o k (j+1)).length ((upTo l s i o k (j+1)).flatMap Zi)∧Q W1):=Zz (by rw[HE.out];exact⟨Zh HM.out.1 HB1.out,HH.out⟩);have q1:(f1==s)=true:=by simp[e1]
          have q2:(f2==wy)=false:=by simp[e2]
          clear e1 e2 HE;go_wp2_with fail;go_roundw
          case rel=>exact⟨j+1,hlt,by go_num,HO⟩
          case measure=>simp[intOf];omega
      · have HE:=Zz (upTo_no (k:=k) HX.out (by rw[HIF.out];simp[e1]));have HO:Hid (W1.ownsRow (w.heap.size+2) 100 3 _ (upTo l s i o k (j+1)).length ((upTo l s i o k (j+1)).flatMap Zi)∧Q W1):=Zz (by rw[HE.out];exact⟨Zh HM.out.1 HB1.out,HH.out⟩);have q1:(f1==s)=false:=by simp[e1]
        clear e1 HE;go_wp2_with fail;go_roundw
        case rel=>exact⟨j+1,hlt,by go_num,HO⟩
        case measure=>simp[intOf];omega
    · obtain rfl:j=l.flanks.length:=by omega
      have HO:Hid (wa.ownsRow w.heap.size 100 3 _ (wantsV l s i o k).length ((wantsV l s i o k).flatMap Zi)∧Below w.heap.size w wa):=Zz (by rw[←upTo_all];exact⟨owns_base HM.out.1 (by omega),HQb.out _ hq⟩);clear hq HM;go_wp2_with fail;go_ret;exact⟨_,rfl,HO.out⟩
end
section
open Go.RowKit Go.Shelf
attribute [local go_sem] Oper.semAt_some
theorem beginV_at {l:Lay} {p:Pth} {x:Int×Int×Int} {y:Int×Int} (hx:p.ss[0]? =some x) (hy:l.sigs[p.s.toNat]? =some y):beginV l p=decide ((x.1,x.2.1)=y):=by
 unfold beginV;rw[List.head?_eq_getElem?,hx,hy,Bool.eq_iff_iff];obtain⟨y1,y2⟩:=y;simp
end
section
open Go.RowKit Go.Shelf
theorem goesS_next {l:Lay} {ss:List (Int×Int×Int)} {j:Nat} {x:Int×Int×Int} (hx:ss[j]? =some x) (h:goesS l (ss.take j)=true):goesS l (ss.take (j+1))=(stepV l x.1 x.2.1 x.2.2&&(decide (j=0)||(match ss[j - 1]? with|none=>true|some z=>hangS l (z,x)))):=by
 rw[List.take_add_one,hx,Option.toList_some,goesS_snoc,h,Bool.true_and];congr 1
 by_cases h0:j=0
 · subst h0;simp
 · have hlt:=(List.getElem?_eq_some_iff.1 hx).1;obtain⟨z,hz⟩:∃z,ss[j - 1]? =some z:=⟨_,List.getElem?_eq_getElem (by omega)⟩;have hl:(ss.take j).getLast? =some z:=by
    rw[List.getLast?_eq_getElem?,List.length_take,Nat.min_eq_left (by omega),List.getElem?_take,if_pos (by omega)];exact hz
   have hst:stepV l z.1 z.2.1 z.2.2=true:=by
    rw[goesS_parts,Bool.and_eq_true,List.all_eq_true] at h;exact h.1 z (List.mem_of_getElem? (i:=j - 1) (by rw[List.getElem?_take,if_pos (by omega)];exact hz))
   rw[hl,hz,decide_eq_false h0,Bool.false_or];show decide (nextV l z.1 z.2.1 z.2.2=(x.1,x.2.1))=decide (Zt l z.1 z.2.2=(x.1,x.2.1));unfold nextV;rw[hst];rfl
theorem goesS_bad {l:Lay} {ss:List (Int×Int×Int)} {n:Nat} (h:goesS l (ss.take n)=false):goesS l ss=false:=by
 cases e:goesS l ss with
 |false=>rfl
 |true=>rw[goesS_take e n] at h;cases h
theorem goesR11_any {l:Lay} {w:World} (hL:Lies l w) {ss:List (Int×Int×Int)} {A:Option Addr} (c:Nat) (hR:Row w w.heap.size A (ss.flatMap Ze)) (hn:(ss.length:Int)≤9223372036854775807) {r:Bool} (hr:goesS l ss=r):
 Calls Tryz.prog 52 #[l.val,.slice A ss.length c] w fun e w'=>e= .returned (.bool r)∧Below w.heap.size w w':=by
 obtain⟨Q,HQ,HQb,HQl,hq⟩:=keep_box (Closed.below w) (Below.refl _ w) 29 l.cells
 have HTW:Hid (∀W,Q W→Lies l W):=Zz fun W hW=>Lies.closed l _ _ hL (HQb.out W hW)
 have HRW:Hid (∀W,Q W→Row W W.heap.size A (ss.flatMap Ze)):=Zz fun W hW=>hR.on (HQb.out W hW)
 have HR:=Zz hr
 clear hL hR hr
 go_enter Tryz.func52,Tryz.ntmps52
 go_wp2_with fail
 go_loopw [5] (fun i wr=>∃j:Nat,j≤ss.length∧i= .int .i64 j∧Q wr∧Hid (goesS l (ss.take j)=true)) (fun i _=>ss.length - (intOf i).toNat)
 case atStart=>exact⟨0,by omega,rfl,hq,Zz (by rw[List.take_zero];rfl)⟩
 case round=>
  clear hq;obtain⟨j,hj,rfl,hq,HG⟩:=hrel;obtain⟨wa,rfl⟩:∃W,W=wr:=⟨wr,rfl⟩;by_cases hlt:j<ss.length
  · have hlt':(j:Int)<ss.length:=by omega
    obtain⟨⟨x1,x2,x3⟩,hx⟩:∃x,ss[j]? =some x:=⟨_,List.getElem?_eq_getElem hlt⟩;obtain⟨b,off,HA,HC,HC'⟩:=row_at (f:=Ze) (n:=3) (fun _=>rfl) (by omega) HRW.out hq hx;obtain rfl:=HA.out;have HXC:Hid (∀W,Q W→W.cell? ⟨b,off+j*3,none⟩=some (.int .i64 x1)∧W.cell? ⟨b,off+j*3+1,none⟩=some (.int .i64 x2)∧W.cell? ⟨b,off+j*3+2,none⟩=some (.int .i64 x3)):=Zz fun W hW=>⟨HC.out W hW j _ _ hx rfl,HC'.out W hW j _ 1 _ hx rfl,HC'.out W hW j _ 2 _ hx rfl⟩;obtain⟨st,hst⟩:∃st,stepV l x1 x2 x3=st:=⟨_,rfl⟩;have HNX:=Zz (goesS_next hx HG.out);simp only at HNX;rw[hst] at HNX;obtain⟨wy,hwy⟩:∃v,wayK (Zu l x1) x2 x3=v:=⟨_,rfl⟩;have KS:Hid (∀W,Q W→Calls Tryz.prog 85 #[l.val,stpV x1 x2 x3] W fun e w'=>e= .returned (.tuple #[.int .i64 wy,.bool st])∧Below W.heap.size W w'):=Zz fun W hW=>stepR_B (HTW.out W hW) x1 x2 x3 hwy hst;clear hst hwy;go_wp2_with fail;have HBS:Hid (∀W,Below wa.heap.size wa W→Q W):=Zz (fun W hB=>HQ.out _ _ hq hB);clear hq;refine rmx wa f11 (by kernel_rfl) (by kernel_rfl) ?_;simp only[Zg,f11,Lm,Ln];repeat ((first|(refine Zb (by rfl) ?_)|(refine mrd HBS _ (by rfl) (fun W hW=>by(obtain⟨x0,x1,x2,x3,x4,x5,x6,x7,x8,x9,x10⟩:=(HQl.out W hW).c11;obtain⟨c0,c1,c2⟩:=HXC.out W hW;go_simp;first|done|with_reducible rfl)) ?_)|(refine mcl HBS _ _ _ (by rfl) (fun W hW=>by(obtain⟨x0,x1,x2,x3,x4,x5,x6,x7,x8,x9,x10⟩:=(HQl.out W hW).c11;obtain⟨c0,c1,c2⟩:=HXC.out W hW;go_simp;first|done|rfl)) (fun W hW=>KS.out W (HBS.out W hW)) ?_));simp only[Act.put,La,Lb,Lc])
    refine Zd (fun W hW=>?_);have hq:=HBS.out W hW;clear hW HBS;obtain⟨wb,rfl⟩:∃X,X=W:=⟨W,rfl⟩;cases st
    · have HF:Hid (false=r):=Zz (by rw[←HR.out];exact(goesS_bad HNX.out).symm);go_wp2_with fail;have HBS:Hid (∀W,Below wb.heap.size wb W→Q W):=Zz (fun W hB=>HQ.out _ _ hq hB);clear hq;refine rmx wb f35 (by kernel_rfl) (by kernel_rfl) ?_;simp only[Zg,f35,Lm,Ln];repeat ((first|(refine Zb (by rfl) ?_)|(refine mrd HBS _ (by rfl) (fun W hW=>by(obtain⟨x0,x1,x2,x3,x4,x5,x6,x7,x8,x9,x10⟩:=(HQl.out W hW).c11;obtain⟨c0,c1,c2⟩:=HXC.out W hW;go_simp;first|done|with_reducible rfl)) ?_));simp only[Act.put,La,Lb,Lc])
      refine Zd (fun W hW=>?_);have hq:=HBS.out W hW;clear hW HBS;go_wp2_with fail;go_ret;exact⟨Zc HF.out,HQb.out _ hq⟩
    by_cases hj0:j=0
    · have HN:Hid (goesS l (ss.take (j+1))=true):=Zz (by rw[HNX.out,decide_eq_true hj0];rfl);have hz1:¬(0<j):=by omega
      have hz2:decide ((0:Int)<(j:Int))=false:=decide_eq_false (by omega);have hz3:decide (0<j)=false:=decide_eq_false (by omega);clear hx hj0;go_wp2_with fail;have HBS:Hid (∀W,Below wb.heap.size wb W→Q W):=Zz (fun W hB=>HQ.out _ _ hq hB);clear hq;refine rmx wb f35 (by kernel_rfl) (by kernel_rfl) ?_;simp only[Zg,f35,Lm,Ln];repeat ((first|(refine Zb (by rfl) ?_)|(refine mrd HBS _ (by rfl) (fun W hW=>by(obtain⟨x0,x1,x2,x3,x4,x5,x6,x7,x8,x9,x10⟩:=(HQl.out W hW).c11;obtain⟨c0,c1,c2⟩:=HXC.out W hW;go_simp;first|done|with_reducible rfl)) ?_));simp only[Act.put,La,Lb,Lc])
      refine Zd (fun W hW=>?_);have hq:=HBS.out W hW;clear hW HBS;go_wp2_with fail;go_roundw
      case rel=>exact⟨j+1,hlt,by go_num,hq,HN⟩
      case measure=>simp[intOf];omega
    obtain⟨m,hm⟩:∃m,j - 1=m:=⟨_,rfl⟩;obtain⟨⟨z1,z2,z3⟩,hz⟩:∃x,ss[m]? =some x:=⟨_,List.getElem?_eq_getElem (by omega)⟩;have HZC:Hid (∀W,Q W→W.cell? ⟨b,off+m*3,none⟩=some (.int .i64 z1)∧W.cell? ⟨b,off+m*3+1,none⟩=some (.int .i64 z2)∧W.cell? ⟨b,off+m*3+2,none⟩=some (.int .i64 z3)):=Zz fun W hW=>⟨HC.out W hW m _ _ hz rfl,HC'.out W hW m _ 1 _ hz rfl,HC'.out W hW m _ 2 _ hz rfl⟩;obtain⟨⟨q1,q2⟩,hbv⟩:∃q,Zt l z1 z3=q:=⟨_,rfl⟩;obtain⟨d,hd⟩:∃d,decide ((q1,q2)=(x1,x2))=d:=⟨_,rfl⟩;have HN:Hid (goesS l (ss.take (j+1))=d):=Zz (by
     rw[HNX.out,decide_eq_false hj0,hm,hz,←hd,←hbv];rfl);have HNQ:Hid (∀W,(binOp .neq 59 (prtV q1 q2) (prtV x1 x2)).run Tryz.prog W= .ok (.bool (!d)) W):=Zz fun W=>by rw[neq_prtD,hd]
    have KB:Hid (∀W,Q W→Calls Tryz.prog 41 #[l.val,prtV z1 z3] W fun e w'=>e= .returned (prtV q1 q2)∧Below W.heap.size W w'):=Zz fun W hW=>beyondJ_B (HTW.out W hW) z1 z3 hbv;have hz1:0<j:=by omega
    have hz2:(0:Int)<(j:Int):=by omega
    have hwj:IntKind.i64.wrap ((j:Int) - 1)=(m:Int):=by rw[IntWalk.i64_in _ (by omega)];omega
    have hml:(m:Int)<ss.length:=by omega
    have hd1:decide ((0:Int)<(j:Int))=true:=decide_eq_true hz2;clear hx hj0 hm hz hbv hd;go_wp2_with fail;have HBS:Hid (∀W,Below wb.heap.size wb W→Q W):=Zz (fun W hB=>HQ.out _ _ hq hB);clear hq;refine rmx wb f35 (by kernel_rfl) (by kernel_rfl) ?_;simp only[Zg,f35,Lm,Ln];repeat ((first|(refine Zb (by rfl) ?_)|(refine mrd HBS _ (by rfl) (fun W hW=>by(obtain⟨x0,x1,x2,x3,x4,x5,x6,x7,x8,x9,x10⟩:=(HQl.out W hW).c11;obtain⟨c0,c1,c2⟩:=HXC.out W hW;obtain⟨e0,e1,e2⟩:=HZC.out W hW;have hnq:=HNQ.out;go_simp;first|done|with_reducible rfl)) ?_)|(refine mcl HBS _ _ _ (by rfl) (fun W hW=>by(obtain⟨x0,x1,x2,x3,x4,x5,x6,x7,x8,x9,x10⟩:=(HQl.out W hW).c11;obtain⟨c0,c1,c2⟩:=HXC.out W hW;obtain⟨e0,e1,e2⟩:=HZC.out W hW;have hnq:=HNQ.out;go_simp;first|done|rfl)) (fun W hW=>KB.out W (HBS.out W hW)) ?_));simp only[Act.put,La,Lb,Lc])
    refine Zd (fun W hW=>?_);have hq:=HBS.out W hW;clear hW HBS;cases d
    · have HF:Hid (false=r):=Zz (by rw[←HR.out];exact(goesS_bad HN.out).symm);go_wp2_with fail;go_ret;exact⟨Zc HF.out,HQb.out _ hq⟩
    · go_wp2_with fail;go_roundw
      case rel=>exact⟨j+1,hlt,by go_num,hq,HN⟩
      case measure=>simp[intOf];omega
  · obtain rfl:j=ss.length:=by omega
    have HF:Hid (true=r):=Zz (by rw[←HR.out,←HG.out,List.take_length]);go_wp2_with fail;go_ret;exact⟨Zc HF.out,HQb.out _ hq⟩
theorem simpleR_any {ss os:List (Int×Int×Int)} {A Bv:Option Addr} (c cb:Nat) {w:World} (hA:Row w w.heap.size A (ss.flatMap Ze)) (hB:Row w w.heap.size Bv (os.flatMap Ze)) (hn:(ss.length:Int)≤9223372036854775807) (hm:(os.length:Int)≤9223372036854775807) {r:Bool} (hr:simpleB ss os=r):
 Calls Tryz.prog 53 #[.slice A ss.length c,.slice Bv os.length cb] w fun e w'=>e= .returned (.bool r)∧Below w.heap.size w w':=by
 obtain⟨Q,HQ,HQb,hq⟩:∃Q:World→Prop,Hid (Closed Q)∧Hid (∀W,Q W→Below w.heap.size w W)∧Q w:=⟨fun W=>Below w.heap.size w W,Zz (Closed.below w),Zz fun _ h=>h,Below.refl _ _⟩
 have HAW:Hid (∀W,Q W→Row W W.heap.size A (ss.flatMap Ze)):=Zz fun W hW=>hA.on (HQb.out W hW)
 have HBW:Hid (∀W,Q W→Row W W.heap.size Bv (os.flatMap Ze)):=Zz fun W hW=>hB.on (HQb.out W hW)
 have HR:Hid ((!((List.range ss.length).any fun k=>dupAt ss k||inOver ss os k))=r):=Zz hr
 clear hA hB hr
 go_enter Tryz.func53,Tryz.ntmps53
 go_wp2_with fail
 go_loopw [5] (fun i wr=>∃j:Nat,j≤ss.length∧i= .int .i64 j∧Q wr∧Hid (Zl (fun k=>dupAt ss k||inOver ss os k) (List.range ss.length) j)) (fun i _=>ss.length - (intOf i).toNat)
 case atStart=>exact⟨0,by omega,rfl,hq,Zz (Zl.zero _ _)⟩
 case round=>
  clear hq;obtain⟨j,hj,rfl,hq,HNo⟩:=hrel;obtain⟨wo,rfl⟩:∃W,W=wr:=⟨wr,rfl⟩;by_cases hlt:j<ss.length
  · have hlt':(j:Int)<ss.length:=by omega
    obtain⟨⟨x1,x2,x3⟩,hx⟩:∃x,ss[j]? =some x:=⟨_,List.getElem?_eq_getElem hlt⟩;obtain⟨b,off,HA,HC,HC'⟩:=row_at (f:=Ze) (n:=3) (fun _=>rfl) (by omega) HAW.out hq hx;have HXC:Hid (∀W,Q W→W.cell? ⟨b,off+j*3,none⟩=some (.int .i64 x1)∧W.cell? ⟨b,off+j*3+1,none⟩=some (.int .i64 x2)∧W.cell? ⟨b,off+j*3+2,none⟩=some (.int .i64 x3)):=Zz fun W hW=>⟨HC.out W hW j _ _ hx rfl,HC'.out W hW j _ 1 _ hx rfl,HC'.out W hW j _ 2 _ hx rfl⟩;have HX:=Zz hx;have HQ0:=Zz hq;clear hx hq;go_wp2_with fail;go_loopw [6] (fun i wr=>∃a:Nat,a≤j∧i= .int .i64 a∧Q wr∧Hid (Zl (fun y=>y.1==x1) ss a)) (fun i _=>j - (intOf i).toNat)
    case atStart=>exact⟨0,by omega,rfl,HQ0.out,Zz (Zl.zero _ _)⟩
    case round=>
     clear HQ0;obtain⟨a,ha,rfl,hq,HNi⟩:=hrel;obtain⟨wi,rfl⟩:∃W,W=wr:=⟨wr,rfl⟩;by_cases hk:a<j
     · have hk':(a:Int)<(j:Int):=by omega
       have hk2:(a:Int)<ss.length:=by omega
       obtain⟨⟨y1,y2,y3⟩,hy⟩:∃x,ss[a]? =some x:=⟨_,List.getElem?_eq_getElem (by omega)⟩;have HYC:Hid (∀W,Q W→W.cell? ⟨b,off+a*3,none⟩=some (.int .i64 y1)∧W.cell? ⟨b,off+a*3+1,none⟩=some (.int .i64 y2)∧W.cell? ⟨b,off+a*3+2,none⟩=some (.int .i64 y3)):=Zz fun W hW=>⟨HC.out W hW a _ _ hy rfl,HC'.out W hW a _ 1 _ hy rfl,HC'.out W hW a _ 2 _ hy rfl⟩;obtain⟨d,hd⟩:∃d,(y1==x1)=d:=⟨_,rfl⟩;have HD:Hid (d=false→Zl (fun y=>y.1==x1) ss (a+1)):=Zz fun e=>HNi.out.succ hy (by rw[←e,←hd]);have HF:Hid (d=true→false=r):=Zz fun e=>by
        rw[←HR.out,any_hit (List.getElem?_range hlt) (by rw[dup_iff.2 ⟨a,_,_,hk,hy,HX.out,beq_iff_eq.1 (hd.trans e)⟩,Bool.true_or])];rfl
       clear hy;cases d
       · have HN:=Zz (HD.out rfl);clear HD HF;go_wp2_with fail;have HBS:Hid (∀W,Below wi.heap.size wi W→Q W):=Zz (fun W hB=>HQ.out _ _ hq hB);clear hq;refine rmx wi f11 (by kernel_rfl) (by kernel_rfl) ?_;simp only[Zg,f11,Lm,Ln];repeat ((first|(refine Zb (by rfl) ?_)|(refine mrd HBS _ (by rfl) (fun W hW=>by(obtain⟨c0,c1,c2⟩:=HXC.out W hW;obtain⟨d0,d1,d2⟩:=HYC.out W hW;go_simp;first|done|with_reducible rfl)) ?_)|(refine mrd HBS _ (by rfl) (fun W hW=>by(obtain⟨c0,c1,c2⟩:=HXC.out W hW;obtain⟨d0,d1,d2⟩:=HYC.out W hW;rw[HA.out];go_simp;first|done|with_reducible rfl)) ?_));simp only[Act.put,La,Lb,Lc])
         refine Zd (fun W hW=>?_);have hq:=HBS.out W hW;clear hW HBS;go_wp2_with fail;go_roundw
         case rel=>exact⟨a+1,hk,by go_num,hq,HN⟩
         case measure=>simp[intOf];omega
       · have HF':=Zz (HF.out rfl);clear HD HF;go_wp2_with fail;have HBS:Hid (∀W,Below wi.heap.size wi W→Q W):=Zz (fun W hB=>HQ.out _ _ hq hB);clear hq;refine rmx wi f11 (by kernel_rfl) (by kernel_rfl) ?_;simp only[Zg,f11,Lm,Ln];repeat ((first|(refine Zb (by rfl) ?_)|(refine mrd HBS _ (by rfl) (fun W hW=>by(obtain⟨c0,c1,c2⟩:=HXC.out W hW;obtain⟨d0,d1,d2⟩:=HYC.out W hW;go_simp;first|done|with_reducible rfl)) ?_)|(refine mrd HBS _ (by rfl) (fun W hW=>by(obtain⟨c0,c1,c2⟩:=HXC.out W hW;obtain⟨d0,d1,d2⟩:=HYC.out W hW;rw[HA.out];go_simp;first|done|with_reducible rfl)) ?_));simp only[Act.put,La,Lb,Lc])
         refine Zd (fun W hW=>?_);have hq:=HBS.out W hW;clear hW HBS;go_wp2_with fail;go_ret;exact⟨Zc HF'.out,HQb.out _ hq⟩
     · obtain rfl:a=j:=by omega
       have HDU:Hid (dupAt ss a=false):=Zz (by
        rw[dupAt_at HX.out,List.any_eq_false];intro y hy;obtain⟨i,hi⟩:=List.getElem?_of_mem hy;rw[List.getElem?_take] at hi;split at hi
        · rename_i hia
          simp[HNi.out i y hia hi]
        · cases hi);have HQ1:=Zz hq;clear hq HNi;go_wp2_with fail;go_loopw [7] (fun i wr=>∃t:Nat,t≤os.length∧i= .int .i64 t∧Q wr∧Hid (Zl (fun y=>y.1==x1) os t)) (fun i _=>os.length - (intOf i).toNat)
       case atStart=>exact⟨0,by omega,rfl,HQ1.out,Zz (Zl.zero _ _)⟩
       case round=>
        clear HQ1;obtain⟨t,ht,rfl,hq,HNi⟩:=hrel;obtain⟨wt,rfl⟩:∃W,W=wr:=⟨wr,rfl⟩;by_cases htl:t<os.length
        · have htl':(t:Int)<os.length:=by omega
          obtain⟨⟨y1,y2,y3⟩,hy⟩:∃x,os[t]? =some x:=⟨_,List.getElem?_eq_getElem htl⟩;obtain⟨b2,o2,HB2,HE,HE'⟩:=row_at (f:=Ze) (n:=3) (fun _=>rfl) (by omega) HBW.out hq hy;have HYC:Hid (∀W,Q W→W.cell? ⟨b2,o2+t*3,none⟩=some (.int .i64 y1)∧W.cell? ⟨b2,o2+t*3+1,none⟩=some (.int .i64 y2)∧W.cell? ⟨b2,o2+t*3+2,none⟩=some (.int .i64 y3)):=Zz fun W hW=>⟨HE.out W hW t _ _ hy rfl,HE'.out W hW t _ 1 _ hy rfl,HE'.out W hW t _ 2 _ hy rfl⟩;obtain⟨d,hd⟩:∃d,(y1==x1)=d:=⟨_,rfl⟩;have HD:Hid (d=false→Zl (fun y=>y.1==x1) os (t+1)):=Zz fun e=>HNi.out.succ hy (by rw[←e,←hd]);have HF:Hid (d=true→false=r):=Zz fun e=>by
           rw[←HR.out,any_hit (List.getElem?_range hlt) (by rw[in_iff.2 ⟨_,_,HX.out,List.mem_of_getElem? hy,beq_iff_eq.1 (hd.trans e)⟩,Bool.or_true])];rfl
          clear hy;cases d
          · have HN:=Zz (HD.out rfl);clear HD HF;go_wp2_with fail;have HBS:Hid (∀W,Below wt.heap.size wt W→Q W):=Zz (fun W hB=>HQ.out _ _ hq hB);clear hq;refine rmx wt f11 (by kernel_rfl) (by kernel_rfl) ?_;simp only[Zg,f11,Lm,Ln];repeat ((first|(refine Zb (by rfl) ?_)|(refine mrd HBS _ (by rfl) (fun W hW=>by(obtain⟨c0,c1,c2⟩:=HXC.out W hW;obtain⟨d0,d1,d2⟩:=HYC.out W hW;go_simp;first|done|with_reducible rfl)) ?_)|(refine mrd HBS _ (by rfl) (fun W hW=>by(obtain⟨c0,c1,c2⟩:=HXC.out W hW;obtain⟨d0,d1,d2⟩:=HYC.out W hW;rw[HA.out];go_simp;first|done|with_reducible rfl)) ?_)|(refine mrd HBS _ (by rfl) (fun W hW=>by(obtain⟨c0,c1,c2⟩:=HXC.out W hW;obtain⟨d0,d1,d2⟩:=HYC.out W hW;rw[HB2.out];go_simp;first|done|with_reducible rfl)) ?_));simp only[Act.put,La,Lb,Lc])
            refine Zd (fun W hW=>?_);have hq:=HBS.out W hW;clear hW HBS;go_wp2_with fail;go_roundw
            case rel=>exact⟨t+1,htl,by go_num,hq,HN⟩
            case measure=>simp[intOf];omega
          · have HF':=Zz (HF.out rfl);clear HD HF;go_wp2_with fail;have HBS:Hid (∀W,Below wt.heap.size wt W→Q W):=Zz (fun W hB=>HQ.out _ _ hq hB);clear hq;refine rmx wt f11 (by kernel_rfl) (by kernel_rfl) ?_;simp only[Zg,f11,Lm,Ln];repeat ((first|(refine Zb (by rfl) ?_)|(refine mrd HBS _ (by rfl) (fun W hW=>by(obtain⟨c0,c1,c2⟩:=HXC.out W hW;obtain⟨d0,d1,d2⟩:=HYC.out W hW;go_simp;first|done|with_reducible rfl)) ?_)|(refine mrd HBS _ (by rfl) (fun W hW=>by(obtain⟨c0,c1,c2⟩:=HXC.out W hW;obtain⟨d0,d1,d2⟩:=HYC.out W hW;rw[HA.out];go_simp;first|done|with_reducible rfl)) ?_)|(refine mrd HBS _ (by rfl) (fun W hW=>by(obtain⟨c0,c1,c2⟩:=HXC.out W hW;obtain⟨d0,d1,d2⟩:=HYC.out W hW;rw[HB2.out];go_simp;first|done|with_reducible rfl)) ?_));simp only[Act.put,La,Lb,Lc])
            refine Zd (fun W hW=>?_);have hq:=HBS.out W hW;clear hW HBS;go_wp2_with fail;go_ret;exact⟨Zc HF'.out,HQb.out _ hq⟩
        · obtain rfl:t=os.length:=by omega
          have HN:Hid (Zl (fun k=>dupAt ss k||inOver ss os k) (List.range ss.length) (a+1)):=Zz (HNo.out.succ (List.getElem?_range hlt) (by
           rw[HDU.out,Bool.false_or,inOver_at HX.out];exact HNi.out.any));go_wp2_with fail;go_roundw
          case rel=>exact⟨a+1,hlt,by go_num,hq,HN⟩
          case measure=>simp[intOf];omega
  · obtain rfl:j=ss.length:=by omega
    have HF:Hid (true=r):=Zz (by
     rw[←HR.out];have :=HNo.out;rw[←List.length_range (n:=ss.length)] at this;rw[Zl.any (by simpa using this)];rfl);go_wp2_with fail;go_ret;exact⟨Zc HF.out,HQb.out _ hq⟩
def oneL (gs ge:Nat):Lay:=⟨[⟨1,-1,0,-1,0,-1,0,-1,0,0,0⟩],some ⟨gs,0,none⟩,1,[],none,0,[⟨0,1,none,0,[]⟩],some ⟨ge,0,none⟩,1,[],none,0,1,1,1,1,1,1,1⟩
structure OneAt (gs ge:Nat) (w:World):Prop where
 secs:Whole w gs 63 ((oneL gs ge).secs.flatMap Sec.cells)
 exits:Whole w ge 87 ((oneL gs ge).exits.flatMap Exm.cells)
theorem OneAt.closed (gs ge:Nat):Closed (OneAt gs ge):=fun w w' h hb=>⟨h.secs.below hb h.secs.lt,h.exits.below hb h.exits.lt⟩
end
end Go.Proofs.YtifnlhfinjfajaaGreatDoor
