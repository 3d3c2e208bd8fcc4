/- Of this seat: Gen_2, PortD0, PortK0, LayEq_1, PortR, PortS0, PortT0, LayFinds_1. -/
import Derived.Test.YtifnlhfinjfajaaGreatDoorK06
namespace Go.Proofs.YtifnlhfinjfajaaGreatDoor
set_option linter.unusedVariables false
set_option linter.unusedSimpArgs false
set_option maxRecDepth 100000
set_option maxHeartbeats 32000000
section
open Go.RowKit
section
variable {P:Program} {ops:Array Oper} {md:Region.Mode} {F:(World→Prop)→Prop}
variable {B S:World→Prop} {L:(World→Prop)→Act→Prop} {o:Oper} {l:List (Oper×Bool)} {a:Act}
theorem mix_alloc (n:Nat) (t:TypeId) (zs:List Value) (hF:Fam B S) (hn:∀w,S w→n≤w.heap.size) (hw:Region.wanted o (yielded ops a.tmps)=true)
 (hv:∀w,S w→(execOp a.eval o).run P w= .ok (.value (.pointer (some ⟨w.heap.size,0,none⟩))) (w.alloc (.cells zs.toArray t)))
 (h:∀g,n≤g→wpMix P ops (Fam B) L l (fun w=>S w∧Whole w g t zs) (a.put o.dst (.pointer (some ⟨g,0,none⟩)))):wpMix P ops (Fam B) L ((o,true)::l) S a:=
 ⟨hw,fun w hS=>by
  unfold Oper.wp;rw[hv w hS];exact⟨_,_,rfl,⟨hF.1.and (Closed.whole _ _ _),fun w hw=>hF.2 w hw.1⟩,⟨hF.1 _ _ hS (below1 w _),Whole.new w t zs⟩,h _ (hn w hS)⟩⟩
theorem mix_fill (t:TypeId) (x y:Operand) (g n:Nat) (w0:World) (cs vs:List Value) (hg:n≤g) (hBn:∀w,Below n w0 w→B w) (hn:n≤w0.heap.size)
 (hSS:∀w,S w→Below n w0 w∧Whole w g t cs) (ho:o.op= .store t x y) (hx:a.eval x= .pointer (some ⟨g,0,none⟩)) (hy:a.eval y= .agg vs.toArray)
 (hi:(P.info? t).map (·.size)=some vs.length) (hl:vs.length=cs.length) (h1:vs.all (·.oneCell')=true) (hw:Region.wanted o (yielded ops a.tmps)=true)
 (h:wpMix P ops (Fam B) L l (fun w=>Below n w0 w∧Whole w g t vs) (a.put o.dst undef)):wpMix P ops (Fam B) L ((o,true)::l) S a:=by
 refine mix_store (fun w=>Below n w0 w∧Whole w g t vs) (fun w=>w.setCells g 0 vs) ⟨?_,fun w hw=>hBn w hw.1⟩ hw (fun w hS=>?_) (fun w hS=>⟨setCells_below vs 0 (hSS w hS).1 hg,setCells_whole vs [] cs hl (hSS w hS).2⟩) h
 · exact Closed.and (fun w w' hp hb=>hp.trans (hb.mono (Nat.le_trans hn hp.size))) (Closed.whole _ _ _)
 · have ht:=(hSS w hS).2.there;rw[←hl] at ht;have :=run_storeAt_mid (P:=P) w g 0 t vs.toArray (by simpa using ht) (by simpa using hi) (by simpa using h1);unfold execOp;simp only[ho,hx,hy,Sem.run_bind,this,Result.andThen_ok,Sem.run_pure]
end
end
section
open Go.RowKit Go.Shelf
def hasV (n y:Int):Bool:=decide (0≤y)&&decide (y<n)
def endA (n a c y:Int):Int:=if hasV n y=true then (if y=0 then a else c) else 0
theorem keep_whole {P:World→Prop} (hP:Closed P) {W0:World} {g:Nat} {t:TypeId} {vs:List Value} (h:P W0) (hw:Whole W0 g t vs):
 ∃Q:World→Prop,Hid (Closed Q)∧Hid (∀W,Q W→P W)∧Hid (∀W,Q W→Whole W g t vs)∧Q W0:=
 ⟨fun W=>P W∧Whole W g t vs,Zz (hP.and (Closed.whole g t vs)),Zz (fun _ h=>h.1),Zz (fun _ h=>h.2),h,hw⟩
theorem endA_no {n a c y:Int} (h:hasV n y=false):endA n a c y=0:=by unfold endA;rw[h];rfl
theorem hasV_no {n y:Int} (h:y<0∨n≤y):hasV n y=false:=by unfold hasV;rw[Bool.and_eq_false_iff,decide_eq_false_iff_not,decide_eq_false_iff_not];omega
abbrev Lay.tval (l:Lay):Value:=.agg #[.int .i64 l.t0,.int .i64 l.t1,.int .i64 l.t2,.int .i64 l.t3,.int .i64 l.t4,.int .i64 l.t5,.int .i64 l.t6]
section
variable {P:World→Prop} {w:World} {k p n a b c d:Int}
theorem portsR_P (hk:IsShape k p n a b c d) (h:P w):Calls Tryz.prog 65 #[.int .u8 k] w fun e w'=>e= .returned (.int .i64 p)∧P w':=by
 have hk4:(k=1∧p=2)∨(k=2∧p=3)∨(k=3∧p=4)∨((¬k=1∧¬k=2∧¬k=3)∧p=0):=by unfold IsShape at hk;omega
 clear hk;rcases hk4 with ⟨rfl,rfl⟩|⟨rfl,rfl⟩|⟨rfl,rfl⟩|⟨⟨h1,h2,h3⟩,rfl⟩;all_goals
  go_enter Tryz.func65,Tryz.ntmps65
  go_wp2_with fail
  go_ret
  exact⟨rfl,h⟩
theorem waysR_P (hk:IsShape k p n a b c d) (h:P w):Calls Tryz.prog 144 #[.int .u8 k] w fun e w'=>e= .returned (.int .i64 n)∧P w':=by
 have hk4:(k=1∧n=1)∨(k=2∧n=2)∨(k=3∧n=2)∨((¬k=1∧¬k=2∧¬k=3)∧n=0):=by unfold IsShape at hk;omega
 clear hk;rcases hk4 with ⟨rfl,rfl⟩|⟨rfl,rfl⟩|⟨rfl,rfl⟩|⟨⟨h1,h2,h3⟩,rfl⟩;all_goals
  go_enter Tryz.func144,Tryz.ntmps144
  go_wp2_with fail
  go_ret
  exact⟨rfl,h⟩
theorem endsR_P (y:Int) {u v:Int} {r:Bool} (hk:IsShape k p n a b c d) (hu:endA n a c y=u) (hv:endA n b d y=v) (hr:hasV n y=r) (h:P w):
 Calls Tryz.prog 178 #[.int .u8 k,.int .i64 y] w fun e w'=>e= .returned (.tuple #[.int .i64 u,.int .i64 v,.bool r])∧P w':=by
 have HW:=Zz (fun w' h'=>waysR_P (P:=P) (w:=w') hk h')
 have hn:=isShape_n hk
 have hcase:(y<0∧u=0∧v=0∧r=false)∨(0≤y∧n≤y∧u=0∧v=0∧r=false)∨(y=0∧0<n∧u=0∧v=1∧r=true)∨(y=1∧k=2∧n=2∧u=0∧v=2∧r=true)∨(y=1∧k=3∧n=2∧u=2∧v=3∧r=true):=by
  by_cases h1:y<0
  · have :=hasV_no (n:=n) (.inl h1);exact .inl ⟨h1,hu.symm.trans (endA_no this),hv.symm.trans (endA_no this),hr.symm.trans this⟩
  · by_cases h2:n≤y
    · have :=hasV_no (.inr h2);exact .inr (.inl ⟨by omega,h2,hu.symm.trans (endA_no this),hv.symm.trans (endA_no this),hr.symm.trans this⟩)
    · have hh:hasV n y=true:=by unfold hasV;simp;omega
      unfold endA at hu hv;rw[hh,if_pos rfl] at hu hv;have hr':r=true:=hr.symm.trans hh;by_cases h0:y=0
      · rw[if_pos h0] at hu hv;refine .inr (.inr (.inl ⟨h0,by omega,?_,?_,hr'⟩)) <;> (unfold IsShape at hk;omega)
      · rw[if_neg h0] at hu hv;unfold IsShape at hk;rcases hk with hk|hk|hk|hk
        · omega
        · exact .inr (.inr (.inr (.inl ⟨by omega,hk.1,by omega,by omega,by omega,hr'⟩)))
        · exact .inr (.inr (.inr (.inr ⟨by omega,hk.1,by omega,by omega,by omega,hr'⟩)))
        · omega
 clear hk hu hv hr
 rcases hcase with ⟨h1,rfl,rfl,rfl⟩|⟨h1,h2,rfl,rfl,rfl⟩|⟨rfl,h1,rfl,rfl,rfl⟩|⟨rfl,rfl,rfl,rfl,rfl,rfl⟩|⟨rfl,rfl,rfl,rfl,rfl,rfl⟩
 · clear hn;go_enter Tryz.func178,Tryz.ntmps178;go_wp2_with fail;exact bodyPost_ret (v:=.tuple #[.int .i64 0,.int .i64 0,.bool false]) (by simp[results,Tryz.f178,go_sem]) rfl ⟨rfl,h⟩
 · clear hn;go_enter Tryz.func178,Tryz.ntmps178;go_wp2_with fail;refine(HW.out _ h).mono ?_;clear h;rintro e w' ⟨rfl,h⟩;go_wp2_with fail;exact bodyPost_ret (v:=.tuple #[.int .i64 0,.int .i64 0,.bool false]) (by simp[results,Tryz.f178,go_sem]) rfl ⟨rfl,h⟩
 · clear hn;go_enter Tryz.func178,Tryz.ntmps178;go_wp2_with fail;refine(HW.out _ h).mono ?_;clear h;rintro e w' ⟨rfl,h⟩;go_wp2_with fail;exact bodyPost_ret (v:=.tuple #[.int .i64 0,.int .i64 1,.bool true]) (by simp[results,Tryz.f178,go_sem]) rfl ⟨rfl,h⟩
 · clear hn;go_enter Tryz.func178,Tryz.ntmps178;go_wp2_with fail;refine(HW.out _ h).mono ?_;clear h;rintro e w' ⟨rfl,h⟩;go_wp2_with fail;exact bodyPost_ret (v:=.tuple #[.int .i64 0,.int .i64 2,.bool true]) (by simp[results,Tryz.f178,go_sem]) rfl ⟨rfl,h⟩
 · clear hn;go_enter Tryz.func178,Tryz.ntmps178;go_wp2_with fail;refine(HW.out _ h).mono ?_;clear h;rintro e w' ⟨rfl,h⟩;go_wp2_with fail;exact bodyPost_ret (v:=.tuple #[.int .i64 2,.int .i64 3,.bool true]) (by simp[results,Tryz.f178,go_sem]) rfl ⟨rfl,h⟩
end
theorem waysL_succ {n a b c d:Int} {j:Nat} (hn:n=0∨n=1∨n=2) (hj:(j:Int)<n):(waysL n a b c d).take (j+1)=(waysL n a b c d).take j++[((j:Int),endA n a c j,endA n b d j)]:=by
 rcases hn with rfl|rfl|rfl
 · omega
 · obtain rfl:j=0:=by omega
   rfl
 · have :j=0∨j=1:=by omega
   rcases this with rfl|rfl <;> rfl
theorem hasV_yes {n:Int} {j:Nat} (hj:(j:Int)<n):hasV n j=true:=by unfold hasV;simp;omega
section
variable {P:World→Prop} {w:World} {k p n a b c d:Int}
theorem wayR_P (i o:Int) {v:Int} {r:Bool} (hk:IsShape k p n a b c d) (hv:wayV n a b c d i o=v) (hr:goesV n a b c d i o=r) (h:P w):
 Calls Tryz.prog 143 #[.int .u8 k,.int .i64 i,.int .i64 o] w fun e w'=>e= .returned (.tuple #[.int .i64 v,.bool r])∧P w':=by
 have HW:=Zz (fun w' h'=>waysR_P (P:=P) (w:=w') hk h')
 have HN:=Zz (isShape_n hk)
 have hn2:n≤2:=by have :=HN.out;omega
 have HF:Hid (findW i o (waysL n a b c d)=if r=true then some v else none):=Zz (by rw[findW_ways HN.out,hv,hr])
 have HZ:Hid (r=false→v=0):=Zz (by rw[←hv,←hr];exact wayV_none)
 have HE:=Zz (fun(y u v:Int) (r:Bool) hu hv hr w' h'=>endsR_P (P:=P) (w:=w') y (u:=u) (v:=v) (r:=r) hk hu hv hr h')
 clear hk hv hr
 go_enter Tryz.func143,Tryz.ntmps143
 go_wp2_with fail
 go_loopw [8] (fun x wr=>∃j:Nat,(j:Int)≤max n 0∧x= .int .i64 j∧Hid (findW i o ((waysL n a b c d).take j)=none)∧P wr)
  (fun x _=>n.toNat - (intOf x).toNat)
 case atStart=>exact⟨0,by omega,rfl,Zz rfl,h⟩
 case round=>
  obtain⟨j,hj,rfl,HNo,hp⟩:=hrel;go_wp2_with fail;refine(HW.out _ hp).mono ?_;clear hp;rintro e w1 ⟨rfl,hp⟩;by_cases hlt:(j:Int)<n
  · obtain⟨A,hA⟩:∃A,endA n a c j=A:=⟨_,rfl⟩;obtain⟨B,hB⟩:∃B,endA n b d j=B:=⟨_,rfl⟩;have HSn:Hid (findW i o ((waysL n a b c d).take (j+1))=if joinV A B i o=true then some (j:Int) else none):=Zz (by
     rw[waysL_succ HN.out hlt,hA,hB];exact findW_snoc HNo.out);have HA:=Zz hA;have HB:=Zz hB;clear hA hB;go_wp2_with fail;refine(HE.out j A B true HA.out HB.out (hasV_yes hlt) _ hp).mono ?_;clear hp;rintro e w2 ⟨rfl,hp⟩;cases hjv:joinV A B i o
    · have HNx:Hid (findW i o ((waysL n a b c d).take (j+1))=none):=Zz (by rw[HSn.out,hjv];rfl);have hcase:(¬i=A∧¬i=B)∨(¬i=A∧i=B∧¬o=A)∨(i=A∧¬o=B∧¬i=B)∨(i=A∧¬o=B∧i=B∧¬o=A):=by
       unfold joinV at hjv;rw[Bool.or_eq_false_iff,Bool.and_eq_false_iff,Bool.and_eq_false_iff] at hjv;simp only[beq_eq_false_iff_ne] at hjv;omega
      clear hjv HSn;rcases hcase with ⟨h1,h2⟩|⟨h1,rfl,h3⟩|⟨rfl,h2,h3⟩|⟨rfl,h2,rfl,h4⟩;all_goals
       go_wp2_with fail
       all_goals
        go_roundw
        case rel=>exact⟨j+1,by omega,by go_num,HNx,hp⟩
        case measure=>simp[intOf];omega
    · have hfull:findW i o (waysL n a b c d)=some (j:Int):=findW_take (j:=j+1) (by rw[HSn.out,hjv];rfl);rw[HF.out] at hfull;have hrv:r=true∧v=j:=by
       cases r
       · simp at hfull
       · exact⟨rfl,by simpa using hfull⟩
      obtain⟨rfl,hvj⟩:=hrv;have HVJ:=Zz hvj;have hcase:(i=A∧o=B)∨(i=B∧o=A∧¬i=A)∨(i=A∧¬o=B∧i=B∧o=A):=by
       unfold joinV at hjv;rw[Bool.or_eq_true,Bool.and_eq_true,Bool.and_eq_true] at hjv;simp only[beq_iff_eq] at hjv;omega
      clear hjv HSn hfull hvj;rcases hcase with ⟨rfl,rfl⟩|⟨rfl,rfl,h3⟩|⟨rfl,h2,h3,h4⟩
      · go_wp2_with fail;go_ret2
        exact⟨by rw[HVJ.out];rfl,hp⟩
      · go_wp2_with fail;go_ret2
        exact⟨by rw[HVJ.out];rfl,hp⟩
      · exact absurd (h4.trans h3) h2
  · obtain rfl:j=n.toNat:=by omega
    have hall:(waysL n a b c d).take n.toNat=waysL n a b c d:=List.take_of_length_le (by unfold waysL;rw[List.length_take];omega);have hno:=HNo.out;rw[hall,HF.out] at hno;have hr0:r=false:=by cases r <;> simp at hno ⊢
    subst hr0;have HV0:=Zz (HZ.out rfl);clear hall hno;go_wp2_with fail;go_ret2
    exact⟨by rw[HV0.out];rfl,hp⟩
end
theorem mayR_P {P:World→Prop} {w:World} (hP:Closed P) (s p:Int) {r:Bool} (hr:mayV s p=r) (h:P w):Calls Tryz.prog 145 #[.agg #[.int .i64 s,.int .i64 p]] w fun e w'=>e= .returned (.bool r)∧P w':=by
 have hte:¬s= -1∨(s= -1∧¬p=0)∨(s= -1∧p=0):=by omega
 have HR:Hid (r=((s== -1&&p==0)||(withinV s 23&&withinV p 3))):=Zz hr.symm;clear hr;rcases hte with hs|⟨rfl,hq⟩|⟨rfl,rfl⟩;all_goals
  go_enter Tryz.func145,Tryz.ntmps145
  go_wp2_with fail
  all_goals
   go_ret
   exact⟨Zc (by rw[HR.out,Bool.eq_iff_iff];simp[withinV];try omega),hP _ _ h (below1 _ _)⟩
theorem rightR_P {P:World→Prop} {w:World} (hP:Closed P) (k s0 q0 s1 q1 s2 q2 s3 q3 c0 c1:Int) {p n a b c d:Int} {r:Bool} (hs:IsShape k p n a b c d) (hr:rightV p n s0 q0 s1 q1 s2 q2 s3 q3 c0 c1=r) (h:P w):
 Calls Tryz.prog 93 #[secV k s0 q0 s1 q1 s2 q2 s3 q3 c0 c1] w fun e w'=>e= .returned (.bool r)∧P w':=by
 obtain⟨hp0,hp4⟩:=isShape_p hs
 obtain⟨js,HJ⟩:∃js:Nat→Int×Int,Hid (js 0=(s0,q0)∧js 1=(s1,q1)∧js 2=(s2,q2)∧js 3=(s3,q3)):=⟨fun j=>match j with|0=>(s0,q0)|1=>(s1,q1)|2=>(s2,q2)|_=>(s3,q3),Zz ⟨rfl,rfl,rfl,rfl⟩⟩
 obtain⟨cl,HCl⟩:∃cl:Nat→Int,Hid (cl 0=c0∧cl 1=c1):=⟨fun j=>match j with|0=>c0|_=>c1,Zz ⟨rfl,rfl⟩⟩
 have HR:Hid (r=((p != 0)&&allOk p js 4&&allCl n cl 2)):=Zz (by
  obtain⟨e0,e1,e2,e3⟩:=HJ.out;obtain⟨f0,f1⟩:=HCl.out;rw[←hr];simp only[rightV,allOk,allCl,e0,e1,e2,e3,f0,f1,Bool.true_and])
 obtain⟨Q,HQ,HQp,HQw,hq⟩:=keep_whole hP (hP _ _ h (below1 w _)) (Whole.new w 63 [.int .u8 k,.int .i64 s0,.int .i64 q0,.int .i64 s1,.int .i64 q1,.int .i64 s2,.int .i64 q2,.int .i64 s3,.int .i64 q3,.int .i64 c0,.int .i64 c1])
 have HPo:=Zz (fun wx hx=>portsR_P (P:=Q) (w:=wx) hs hx)
 have HWa:=Zz (fun wx hx=>waysR_P (P:=Q) (w:=wx) hs hx)
 have HJc:Hid (∀j,j<4→∀W,Q W→W.cell? ⟨w.heap.size,1+j*2,none⟩=some (.int .i64 (js j).1)∧W.cell? ⟨w.heap.size,1+j*2+1,none⟩=some (.int .i64 (js j).2)):=Zz (by
  intro j hj W hW;have m1:=HQw.out _ hW;obtain⟨e0,e1,e2,e3⟩:=HJ.out;have :j=0∨j=1∨j=2∨j=3:=by omega
  rcases this with rfl|rfl|rfl|rfl
  · rw[e0];exact⟨m1.Za 1 rfl,m1.Za 2 rfl⟩
  · rw[e1];exact⟨m1.Za 3 rfl,m1.Za 4 rfl⟩
  · rw[e2];exact⟨m1.Za 5 rfl,m1.Za 6 rfl⟩
  · rw[e3];exact⟨m1.Za 7 rfl,m1.Za 8 rfl⟩)
 have HCc:Hid (∀j,j<2→∀W,Q W→W.cell? ⟨w.heap.size,9+j,none⟩=some (.int .i64 (cl j))):=Zz (by
  intro j hj W hW;have m1:=HQw.out _ hW;obtain⟨e0,e1⟩:=HCl.out;have :j=0∨j=1:=by omega
  rcases this with rfl|rfl
  · rw[e0];exact m1.Za 9 rfl
  · rw[e1];exact m1.Za 10 rfl)
 have HKd:Hid (∀W,Q W→W.cell? ⟨w.heap.size,0,none⟩=some (.int .u8 k)):=Zz fun W hW=>(HQw.out _ hW).Za 0 rfl
 clear hs hr h
 go_enter Tryz.func93,Tryz.ntmps93
 go_wp2_with fail
 go_loopw [3] (fun i wr=>∃j:Nat,j≤4∧i= .int .i64 j∧Q wr∧Hid (allOk p js j=true))
  (fun i _=>4 - (intOf i).toNat)
 case atStart=>exact⟨0,by omega,rfl,hq,Zz rfl⟩
 case round=>
  obtain⟨j,hj,rfl,hq,HOK⟩:=hrel;by_cases hlt:j<4
  · have hlt':(j:Int)<4:=by omega
    have HLT:=Zz hlt;obtain⟨s,hs⟩:∃s,(js j).1=s:=⟨_,rfl⟩;obtain⟨q,hqq⟩:∃s,(js j).2=s:=⟨_,rfl⟩;have HC:Hid (∀W,Q W→W.cell? ⟨w.heap.size,1+j*2,none⟩=some (.int .i64 s)∧W.cell? ⟨w.heap.size,1+j*2+1,none⟩=some (.int .i64 q)):=Zz (by rw[←hs,←hqq];exact HJc.out j hlt);have HN0:Hid (∀r,joinOk p j s q=r→joinOk p j (js j).1 (js j).2=r):=Zz (by rw[hs,hqq];exact fun r h=>h);clear hs hqq hlt;have hk0:=HKd.out _ hq;go_wp2_with fail;refine(HPo.out _ hq).mono ?_;clear hk0 hq;rintro e w1 ⟨rfl,hq⟩;by_cases hjp:(j:Int)<p
    · have hd2:decide (p≤(j:Int))=false:=by simp;omega
      obtain⟨e0,e1⟩:=HC.out _ hq;go_wp2_with fail;refine(mayR_P HQ.out s q rfl hq).mono ?_;cases hm:mayV s q
      · have HF:=Zz (show false=r by rw[HR.out,allOk_no (HN0.out false (by unfold joinOk;rw[if_pos hjp];exact hm)) 4 HLT.out,Bool.and_false,Bool.false_and]);clear hm e0 e1 hq;rintro e w2 ⟨rfl,hq⟩;go_wp2_with fail;go_ret;exact⟨Zc HF.out,HQp.out _ hq⟩
      · have HN:=Zz (HN0.out true (by unfold joinOk;rw[if_pos hjp];exact hm));clear hm e0 e1 hq;rintro e w2 ⟨rfl,hq⟩;have hk0:=HKd.out _ hq;go_wp2_with fail;refine(HPo.out _ hq).mono ?_;clear hk0 hq;rintro e w3 ⟨rfl,hq⟩;go_wp2_with fail;go_roundw
        case rel=>exact⟨j+1,HLT.out,by go_num,hq,Zz (by unfold allOk;rw[HOK.out,HN.out];rfl)⟩
        case measure=>simp[intOf];omega
    · have hd1:decide ((j:Int)<p)=false:=by simp;omega
      have hd2:decide (p≤(j:Int))=true:=by simp;omega
      have hk0:=HKd.out _ hq;go_wp2_with fail;refine(HPo.out _ hq).mono ?_;clear hk0 hq;rintro e w2 ⟨rfl,hq⟩;obtain⟨e0,e1⟩:=HC.out _ hq;by_cases hm:s= -1∧q=0
      · obtain⟨rfl,rfl⟩:=hm;have HN:=Zz (HN0.out true (by unfold joinOk;rw[if_neg (by omega)];rfl));go_wp2_with fail;go_roundw
        case rel=>exact⟨j+1,HLT.out,by go_num,hq,Zz (by unfold allOk;rw[HOK.out,HN.out];rfl)⟩
        case measure=>simp[intOf];omega
      · have HF:=Zz (show false=r by rw[HR.out,allOk_no (HN0.out false (by unfold joinOk;rw[if_neg (by omega),Bool.and_eq_false_iff,beq_eq_false_iff_ne,beq_eq_false_iff_ne];omega)) 4 HLT.out,Bool.and_false,Bool.false_and]);have hs:¬s= -1∨(s= -1∧¬q=0):=by omega
        clear hm;rcases hs with hs|⟨rfl,hqz⟩;all_goals
         go_wp2_with fail
         go_ret
         exact⟨Zc HF.out,HQp.out _ hq⟩
  · obtain rfl:j=4:=by omega
    rw[show((4:Nat):Int)=4 from rfl];go_wp2_with fail;go_loopw [4] (fun i wr=>∃j:Nat,j≤2∧i= .int .i64 j∧Q wr∧Hid (allCl n cl j=true))
     (fun i _=>2 - (intOf i).toNat)
    case atStart=>exact⟨0,by omega,rfl,hq,Zz rfl⟩
    case round=>
     obtain⟨j,hj2,rfl,hq,HOK2⟩:=hrel;by_cases hlt2:j<2
     · have hlt':(j:Int)<2:=by omega
       have HLT:=Zz hlt2;obtain⟨e,he⟩:∃s,cl j=s:=⟨_,rfl⟩;have HC:Hid (∀W,Q W→W.cell? ⟨w.heap.size,9+j,none⟩=some (.int .i64 e)):=Zz (by rw[←he];exact HCc.out j hlt2);have HN0:Hid (∀r,classOk n j e=r→classOk n j (cl j)=r):=Zz (by rw[he];exact fun r h=>h);clear he hlt2;have hce:=HC.out _ hq;have hcl:e<0∨3<e∨(0≤e∧e≤3):=by omega
       rcases hcl with h1|h1|⟨h1,h3⟩
       · have HF:=Zz (show false=r by rw[HR.out,allCl_no (HN0.out false (by unfold classOk withinV;split <;> simp <;> omega)) 2 HLT.out,Bool.and_false]);go_wp2_with fail;go_ret;exact⟨Zc HF.out,HQp.out _ hq⟩
       · have HF:=Zz (show false=r by rw[HR.out,allCl_no (HN0.out false (by unfold classOk withinV;split <;> simp <;> omega)) 2 HLT.out,Bool.and_false]);go_wp2_with fail;go_ret;exact⟨Zc HF.out,HQp.out _ hq⟩
       · have hk0:=HKd.out _ hq;go_wp2_with fail;refine(HWa.out _ hq).mono ?_;clear hk0 hq hce;rintro e w2 ⟨rfl,hq⟩;have hce:=HC.out _ hq;by_cases hjn:(j:Int)<n
         · have hd2:decide (n≤(j:Int))=false:=by simp;omega
           have HN:=Zz (HN0.out true (by unfold classOk withinV;rw[if_pos hjn];simp;omega));go_wp2_with fail;go_roundw
           case rel=>exact⟨j+1,HLT.out,by go_num,hq,Zz (by unfold allCl;rw[HOK2.out,HN.out];rfl)⟩
           case measure=>simp[intOf];omega
         · have hd2:decide (n≤(j:Int))=true:=by simp;omega
           by_cases hz:e=0
           · subst hz;have HN:=Zz (HN0.out true (by unfold classOk;rw[if_neg (by omega)];rfl));go_wp2_with fail;go_roundw
             case rel=>exact⟨j+1,HLT.out,by go_num,hq,Zz (by unfold allCl;rw[HOK2.out,HN.out];rfl)⟩
             case measure=>simp[intOf];omega
           · have HF:=Zz (show false=r by rw[HR.out,allCl_no (HN0.out false (by unfold classOk;rw[if_neg (by omega)];simpa using hz)) 2 HLT.out,Bool.and_false]);have hz':(e != 0)=true:=by simpa using hz
             go_wp2_with fail;go_ret;exact⟨Zc HF.out,HQp.out _ hq⟩
     · obtain rfl:j=2:=by omega
       rw[show((2:Nat):Int)=2 from rfl];have HF:=Zz (show decide (0<p)=r by rw[HR.out,HOK.out,HOK2.out,Bool.and_true,Bool.and_true,Bool.eq_iff_iff];simp;omega);have hk0:=HKd.out _ hq;go_wp2_with fail;refine(HPo.out _ hq).mono ?_;clear hk0 hq;rintro e w3 ⟨rfl,hq⟩;go_wp2_with fail;go_ret;exact⟨Zc HF.out,HQp.out _ hq⟩
theorem sig_cells {Q:World→Prop} {l:Lay} (hQL:∀W,Q W→Lies l W) {W0:World} (h0:Q W0) {j:Nat} {x:Int×Int} (hx:l.sigs[j]? =some x):
 ∃o1 o2,Hid (l.Ag=some ⟨o1,o2,none⟩)∧Hid (∀W,Q W→W.cell? ⟨o1,o2+j*2,none⟩=some (.int .i64 x.1))∧Hid (∀W,Q W→W.cell? ⟨o1,o2+j*2+1,none⟩=some (.int .i64 x.2)):=by
 obtain⟨o1,o2,hA,_,_,_⟩:=(hQL _ h0).sigs.nth (n:=2) (fun _=>rfl) (by omega) hx
 refine⟨o1,o2,Zz hA,Zz fun W hW=>?_,Zz fun W hW=>?_⟩
 all_goals
  obtain⟨p1,p2,hA',ho',hc0',hc'⟩:=(hQL _ hW).sigs.nth (n:=2) (fun _=>rfl) (by omega) hx
  rw[hA] at hA'
  cases hA'
 · exact hc0' j x _ hx rfl
 · exact hc' j x 1 _ hx rfl
end
end Go.Proofs.YtifnlhfinjfajaaGreatDoor
