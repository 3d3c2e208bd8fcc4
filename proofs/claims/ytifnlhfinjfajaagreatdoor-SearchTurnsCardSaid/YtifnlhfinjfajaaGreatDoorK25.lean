/- Of this seat: TopoC, TopoD, RouF, RouH, NeeF, LwA, ShA. -/
import Derived.Test.YtifnlhfinjfajaaGreatDoorK22
import Derived.Test.YtifnlhfinjfajaaGreatDoorK24
namespace Go.Proofs.YtifnlhfinjfajaaGreatDoor
set_option linter.unusedVariables false
set_option linter.unusedSimpArgs false
set_option maxRecDepth 100000
set_option maxHeartbeats 32000000
section
open Go.RowKit Go.Shelf
theorem wrong_any {l:Lay} {w:World} (hT:Shapes w) (hL:Lies l w) (hO:∀x ∈ l.exits,(x.over.length:Int)≤1000) {r:Int×Bool} (hr:wrongV l=r):
 Calls Tryz.prog 122 #[l.val] w fun e w'=>e= .returned (.tuple #[.int .i64 r.1,.bool r.2])∧Below w.heap.size w w':=by
 have HTW:Hid (∀W,Below w.heap.size w W→Shapes W∧Lies l W):=Zz fun W hB=>⟨Shapes.closed _ _ hT hB,Lies.closed l _ _ hL hB⟩
 have HR:=Zz hr
 have hn:=hL.nE
 have HB0:=Zz (below1 w (.cells #[.slice l.As l.secs.length l.cs,.slice l.Ag l.sigs.length l.cg,.slice l.Ae l.exits.length l.ce,.slice l.Af l.flanks.length l.cf,.int .i64 l.t0,.int .i64 l.t1,.int .i64 l.t2,.int .i64 l.t3,.int .i64 l.t4,.int .i64 l.t5,.int .i64 l.t6] 29))
 have b0:=Whole.new w 29 l.cells
 have x2:=b0.Za 2 rfl
 clear hT hL hr
 go_enter Tryz.func122,Tryz.ntmps122
 go_wp2_with fail
 clear x2
 have HBX:=Zz b0
 clear b0
 go_loopw [9] (fun i wr=>∃j:Nat,j≤l.exits.length∧i= .int .i64 j∧Hid (Below w.heap.size w wr∧Whole wr w.heap.size 29 l.cells∧Zl (fun x=>!overV l x) l.exits j)) (fun i _=>l.exits.length - (intOf i).toNat)
 case atStart=>exact⟨0,by omega,rfl,Zz ⟨HB0.out,HBX.out,Zl.zero _ _⟩⟩
 case round=>
  clear HB0 HBX;obtain⟨j,hj,rfl,HM⟩:=hrel;by_cases hlt:j<l.exits.length
  · have hlt':(j:Int)<l.exits.length:=by omega
    obtain⟨x,hx⟩:∃x,l.exits[j]? =some x:=⟨_,List.getElem?_eq_getElem hlt⟩;have HX:=Zz hx;have hMem:=List.mem_of_getElem? hx;obtain⟨b,off,hA,_,hc0,hc⟩:=(HTW.out _ HM.out.1).2.exits.nth (n:=3) (fun _=>rfl) (by omega) hx;have c0:=hc0 j _ _ hx rfl;have c1:=hc j _ 1 _ hx rfl;have c2:=hc j _ 2 _ hx rfl;clear hx hc0 hc;rw[hA];have HA:=Zz hA;clear hA;obtain⟨ov,hov⟩:∃ov,overV l x=ov:=⟨_,rfl⟩;have hB1:Below w.heap.size w (wr.alloc (.cells #[.int .i64 x.s,.int .i64 x.q,.slice x.A x.over.length x.c] 87)):=HM.out.1.alloc HM.out.1.size _;have hba:=HM.out.2.1.alloc (.cells #[.int .i64 x.s,.int .i64 x.q,.slice x.A x.over.length x.c] 87);have HBA:=Zz hba;have HB1:=Zz hB1;have KO:=Zz (over_any (HTW.out _ hB1).1 (HTW.out _ hB1).2 ((HTW.out _ hB1).2.overs x hMem) (hO x hMem) hov);have HOV:=Zz hov;clear hba hB1 hMem hov;go_upto_region 4 with (fail)
    obtain⟨W1,hW1⟩:∃W1,wr.alloc (.cells #[.int .i64 x.s,.int .i64 x.q,.slice x.A x.over.length x.c] 87)=W1:=⟨_,rfl⟩;obtain⟨g,hg⟩:∃g,wr.heap.size=g:=⟨_,rfl⟩;have hgW:Whole W1 g 87 x.cells:=by rw[←hW1];exact Whole.Zj _ _ x.cells _ hg.symm
    rw[hW1] at HBA HB1 KO;rw[hW1,hg];clear hW1 hg c0 c1 c2;obtain⟨c0,c1,c2⟩:=hgW.c3;have hba:=HBA.out;obtain⟨x0,x1,x2,x3,x4,x5,x6,x7,x8,x9,x10⟩:=hba.c11;clear hba hgW;go_wp2_with fail;refine KO.out.mono ?_;clear KO c0 c1 c2 x0 x1 x2 x3 x4 x5 x6 x7 x8 x9 x10;rintro e w3 ⟨rfl,hb3⟩;cases ov
    · have HW:Hid (wrongV l=((j:Int),true)):=Zz (by
       unfold wrongV;have :l.exits.findIdx? (fun x=>!overV l x)=some j:=by
        obtain⟨hl,hx'⟩:=List.getElem?_eq_some_iff.1 HX.out;rw[List.findIdx?_eq_some_iff_getElem];refine⟨hl,by rw[hx',HOV.out];rfl,fun i hi=>?_⟩;have :=HM.out.2.2 i _ hi (List.getElem?_eq_getElem (by omega));simpa using this
       rw[this]);have HB:=Zz (HB1.out.trans (hb3.mono HB1.out.size));clear hb3;go_wp2_with fail;refine bodyPost_ret (v:=.tuple #[.int .i64 j,.bool true]) (by simp[results,Tryz.f122,go_sem]) rfl ⟨by rw[←HR.out,HW.out],HB.out⟩
    · have HN:=Zz (HM.out.2.2.succ HX.out (by show(!overV l x)=false;rw[HOV.out];rfl));have HB:=Zz (HB1.out.trans (hb3.mono HB1.out.size));have HW:=Zz (HBA.out.below hb3 HBA.out.lt);clear hb3;go_wp2_with fail;go_roundw
      case rel=>exact⟨j+1,hlt,by go_num,Zz ⟨HB.out,HW.out,HN.out⟩⟩
      case measure=>simp[intOf];omega
  · obtain rfl:j=l.exits.length:=by omega
    have HW:Hid (wrongV l=(0,false)):=Zz (wrong_no.2 fun x hx=>by
     have :=HM.out.2.2.any;rw[List.any_eq_false] at this;simpa using this x hx);have HB:=Zz HM.out.1;clear HM;go_wp2_with fail;refine bodyPost_ret (v:=.tuple #[.int .i64 0,.bool false]) (by simp[results,Tryz.f122,go_sem]) rfl ⟨by rw[←HR.out,HW.out],HB.out⟩
theorem rule0_any {l:Lay} {w:World} {g:Nat} (hT:Shapes w) (hL:Lies l w) (hg:Whole w g 29 l.cells) (hO:∀x ∈ l.exits,(x.over.length:Int)≤1000):
 Calls Tryz.prog 113 #[.pointer (some ⟨g,0,none⟩)] w fun e w'=>e= .returned (.tuple #[.int .i64 (ruleV l 0).1,.bool (ruleV l 0).2])∧Below w.heap.size w w':=by
 obtain⟨x0,x1,x2,x3,x4,x5,x6,x7,x8,x9,x10⟩:=hg.c11
 obtain⟨r,hr⟩:∃r,joinedL l=r:=⟨_,rfl⟩
 have KC:=Zz (joinedL_any hT hL hr)
 have HV:Hid (ruleV l 0=(0,!r)):=Zz (by rw[←hr];rfl)
 clear hT hL hg hO hr
 go_enter Tryz.func113,Tryz.ntmps113
 go_wp2_with fail
 refine KC.out.mono ?_
 clear KC x0 x1 x2 x3 x4 x5 x6 x7 x8 x9 x10
 rintro e w1 ⟨rfl,hb⟩
 go_wp2_with fail
 refine bodyPost_ret (v:=.tuple #[.int .i64 0,.bool (!r)]) (by simp[results,Tryz.f113,go_sem]) rfl ⟨by rw[HV.out],hb⟩
theorem rule1_any {l:Lay} {w:World} {g:Nat} (hT:Shapes w) (hL:Lies l w) (hg:Whole w g 29 l.cells) (hO:∀x ∈ l.exits,(x.over.length:Int)≤1000):
 Calls Tryz.prog 115 #[.pointer (some ⟨g,0,none⟩)] w fun e w'=>e= .returned (.tuple #[.int .i64 (ruleV l 1).1,.bool (ruleV l 1).2])∧Below w.heap.size w w':=by
 have x1:=hg.Za 1 rfl
 obtain⟨r,hr⟩:∃r,Zv sameG l.sigs=r:=⟨_,rfl⟩
 have KC:=Zz (secondSig_any (c:=l.cg) hL.sigs hL.nG hr)
 have HV:Hid (ruleV l 1=r):=Zz (by rw[←hr];rfl)
 clear hT hL hg hO hr
 go_enter Tryz.func115,Tryz.ntmps115
 go_wp2_with fail
 refine KC.out.mono ?_
 clear KC x1
 rintro e w1 ⟨rfl,hb⟩
 go_wp2_with fail
 refine bodyPost_ret (v:=.tuple #[.int .i64 r.1,.bool r.2]) (by simp[results,Tryz.f115,go_sem]) rfl ⟨by rw[HV.out],hb⟩
theorem rule2_any {l:Lay} {w:World} {g:Nat} (hT:Shapes w) (hL:Lies l w) (hg:Whole w g 29 l.cells) (hO:∀x ∈ l.exits,(x.over.length:Int)≤1000):
 Calls Tryz.prog 118 #[.pointer (some ⟨g,0,none⟩)] w fun e w'=>e= .returned (.tuple #[.int .i64 (ruleV l 2).1,.bool (ruleV l 2).2])∧Below w.heap.size w w':=by
 have x2:=hg.Za 2 rfl
 obtain⟨r,hr⟩:∃r,Zv sameE l.exits=r:=⟨_,rfl⟩
 have KC:=Zz (secondExm_any (c:=l.ce) hL.exits hL.nE hr)
 have HV:Hid (ruleV l 2=r):=Zz (by rw[←hr];rfl)
 clear hT hL hg hO hr
 go_enter Tryz.func118,Tryz.ntmps118
 go_wp2_with fail
 refine KC.out.mono ?_
 clear KC x2
 rintro e w1 ⟨rfl,hb⟩
 go_wp2_with fail
 refine bodyPost_ret (v:=.tuple #[.int .i64 r.1,.bool r.2]) (by simp[results,Tryz.f118,go_sem]) rfl ⟨by rw[HV.out],hb⟩
theorem rule3_any {l:Lay} {w:World} {g:Nat} (hT:Shapes w) (hL:Lies l w) (hg:Whole w g 29 l.cells) (hO:∀x ∈ l.exits,(x.over.length:Int)≤1000):
 Calls Tryz.prog 121 #[.pointer (some ⟨g,0,none⟩)] w fun e w'=>e= .returned (.tuple #[.int .i64 (ruleV l 3).1,.bool (ruleV l 3).2])∧Below w.heap.size w w':=by
 obtain⟨x0,x1,x2,x3,x4,x5,x6,x7,x8,x9,x10⟩:=hg.c11
 obtain⟨r,hr⟩:∃r,wrongV l=r:=⟨_,rfl⟩
 have KC:=Zz (wrong_any hT hL hO hr)
 have HV:Hid (ruleV l 3=r):=Zz (by rw[←hr];rfl)
 clear hT hL hg hO hr
 go_enter Tryz.func121,Tryz.ntmps121
 go_wp2_with fail
 refine KC.out.mono ?_
 clear KC x0 x1 x2 x3 x4 x5 x6 x7 x8 x9 x10
 rintro e w1 ⟨rfl,hb⟩
 go_wp2_with fail
 refine bodyPost_ret (v:=.tuple #[.int .i64 r.1,.bool r.2]) (by simp[results,Tryz.f121,go_sem]) rfl ⟨by rw[HV.out],hb⟩
theorem rule4_any {l:Lay} {w:World} {g:Nat} (hT:Shapes w) (hL:Lies l w) (hg:Whole w g 29 l.cells) (hO:∀x ∈ l.exits,(x.over.length:Int)≤1000):
 Calls Tryz.prog 123 #[.pointer (some ⟨g,0,none⟩)] w fun e w'=>e= .returned (.tuple #[.int .i64 (ruleV l 4).1,.bool (ruleV l 4).2])∧Below w.heap.size w w':=by
 have x3:=hg.Za 3 rfl
 obtain⟨r,hr⟩:∃r,Zv sameF l.flanks=r:=⟨_,rfl⟩
 have KC:=Zz (secondFlk_any (c:=l.cf) hL.flanks hL.nF hr)
 have HV:Hid (ruleV l 4=r):=Zz (by rw[←hr];rfl)
 clear hT hL hg hO hr
 go_enter Tryz.func123,Tryz.ntmps123
 go_wp2_with fail
 refine KC.out.mono ?_
 clear KC x3
 rintro e w1 ⟨rfl,hb⟩
 go_wp2_with fail
 refine bodyPost_ret (v:=.tuple #[.int .i64 r.1,.bool r.2]) (by simp[results,Tryz.f123,go_sem]) rfl ⟨by rw[HV.out],hb⟩
def fnK (k:Nat):Nat:=if k=0 then 113 else if k=1 then 115 else if k=2 then 118 else if k=3 then 121 else 123
theorem rule_any {k:Nat} (hk:k<5) {l:Lay} {w:World} {g:Nat} (hT:Shapes w) (hL:Lies l w) (hg:Whole w g 29 l.cells) (hO:∀x ∈ l.exits,(x.over.length:Int)≤1000) {r:Int×Bool} (hr:ruleV l k=r):
 Calls Tryz.prog (fnK k) #[.pointer (some ⟨g,0,none⟩)] w fun e w'=>e= .returned (.tuple #[.int .i64 r.1,.bool r.2])∧Below w.heap.size w w':=by
 subst hr
 rcases(show k=0∨k=1∨k=2∨k=3∨k=4 by omega) with rfl|rfl|rfl|rfl|rfl
 · exact rule0_any hT hL hg hO
 · exact rule1_any hT hL hg hO
 · exact rule2_any hT hL hg hO
 · exact rule3_any hT hL hg hO
 · exact rule4_any hT hL hg hO
def rulesC (g:Nat):List Value:=(List.range 5).map fun k=>.func (.func (fnK k)) #[] #[.pointer (some ⟨g,0,none⟩)]
theorem rulesC_at {g k:Nat} (hk:k<5):(rulesC g)[k]? =some (.func (.func (fnK k)) #[] #[.pointer (some ⟨g,0,none⟩)]):=by
 unfold rulesC;rw[List.getElem?_map,List.getElem?_range hk];rfl
theorem rules_any (l:Lay) (w:World):Calls Tryz.prog 69 #[l.val] w fun e w'=>e= .returned (.slice (some ⟨w.heap.size+1,0,none⟩) 5 5)∧Whole w' w.heap.size 29 l.cells∧Whole w' (w.heap.size+1) 113 (rulesC w.heap.size)∧Below w.heap.size w w':=by
 go_enter Tryz.func69,Tryz.ntmps69;go_wp2_with fail;go_ret;exact⟨rfl,(Whole.new w _ l.cells).alloc _,Whole.Zj _ _ (rulesC w.heap.size) _ (by simp),below2 _ _ _⟩
theorem check_any {l:Lay} {w:World} (hT:Shapes w) (hL:Lies l w) {r:Int×Int×Int} (hr:checkV l=r):
 Calls Tryz.prog 42 #[l.val] w fun e w'=>e= .returned (.tuple #[.int .i64 r.1,.int .i64 r.2.1,.int .i64 r.2.2])∧Below w.heap.size w w':=by
 have HTW:Hid (∀W,Below w.heap.size w W→Shapes W∧Lies l W):=Zz fun W hB=>⟨Shapes.closed _ _ hT hB,Lies.closed l _ _ hL hB⟩
 have hB0:=below1 w (.cells #[.slice l.As l.secs.length l.cs,.slice l.Ag l.sigs.length l.cg,.slice l.Ae l.exits.length l.ce,.slice l.Af l.flanks.length l.cf,.int .i64 l.t0,.int .i64 l.t1,.int .i64 l.t2,.int .i64 l.t3,.int .i64 l.t4,.int .i64 l.t5,.int .i64 l.t6] 29)
 have b0:=Whole.new w 29 l.cells
 obtain⟨rv,hrv⟩:∃rv,rightL l=rv:=⟨_,rfl⟩
 have KR:=Zz (rightL_any _ (HTW.out _ hB0).1 (HTW.out _ hB0).2 hrv)
 have HB0:=Zz hB0
 have HRV:=Zz hrv
 have HBX:=Zz b0
 have HR:=Zz hr
 obtain⟨x0,x1,x2,x3,x4,x5,x6,x7,x8,x9,x10⟩:=b0.c11
 clear hB0 hT hL hr b0 hrv
 go_enter Tryz.func42,Tryz.ntmps42
 go_wp2_with fail
 refine KR.out.mono ?_
 clear KR x0 x1 x2 x3 x4 x5 x6 x7 x8 x9 x10
 rintro e w1 ⟨rfl,hb1⟩
 have HB1:=Zz (HB0.out.trans (hb1.mono HB0.out.size))
 have b1:=HBX.out.below hb1 HBX.out.lt
 clear hb1 HBX HB0
 cases rv
 · have HV:=Zz (check_wrong HRV.out);clear b1;go_wp2_with fail;refine bodyPost_ret (v:=.tuple #[.int .i64 0,.int .i64 0,.int .i64 60]) (by simp[results,Tryz.f42,go_sem]) rfl ⟨by rw[←HR.out,HV.out],HB1.out⟩
 · have HO:Hid (∀x ∈ l.exits,(x.over.length:Int)≤1000):=Zz fun x hx=>by have :=(own_lens HRV.out).2.2.2.2 x hx;omega
   obtain⟨x0,x1,x2,x3,x4,x5,x6,x7,x8,x9,x10⟩:=b1.c11;clear b1;go_wp2_with fail;refine(rules_any l w1).mono ?_;clear x0 x1 x2 x3 x4 x5 x6 x7 x8 x9 x10;rintro e w2 ⟨rfl,hbx,hrow,hb2⟩;obtain⟨g,hg⟩:∃g,w1.heap.size=g:=⟨_,rfl⟩;have HM0:Hid (Below w.heap.size w w2∧Whole w2 g 29 l.cells∧Whole w2 (g+1) 113 (rulesC g)∧∀i,i<0→(ruleV l i).2=false):=Zz ⟨HB1.out.trans (hb2.mono HB1.out.size),by rw[←hg];exact hbx,by rw[←hg];exact hrow,fun i h=>by omega⟩;rw[hg];clear hbx hrow hb2 hg;go_wp2_with fail;go_loopw [15] (fun i wr=>∃j:Nat,j≤5∧i= .int .i64 j∧Hid (Below w.heap.size w wr∧Whole wr g 29 l.cells∧Whole wr (g+1) 113 (rulesC g)∧∀i,i<j→(ruleV l i).2=false)) (fun i _=>5 - (intOf i).toNat)
   case atStart=>exact⟨0,by omega,rfl,HM0⟩
   case round=>
    clear HM0;obtain⟨j,hj,rfl,HM⟩:=hrel;by_cases hlt:j<5
    · have hlt':(j:Int)<5:=by omega
      obtain⟨⟨a,bv⟩,hav⟩:∃rr,ruleV l j=rr:=⟨_,rfl⟩;have KA:=Zz (rule_any hlt (HTW.out _ HM.out.1).1 (HTW.out _ HM.out.1).2 HM.out.2.1 HO.out hav);have c0:=HM.out.2.2.1.Za j (rulesC_at hlt);have c1:wr.cell? ⟨g+1,0+j,none⟩=some (.func (.func (fnK j)) #[] #[.pointer (some ⟨g,0,none⟩)]):=by rw[Nat.zero_add];exact c0
      have HAV:=Zz hav;have hwr:IntKind.i64.wrap ((j:Int)+1)=(j:Int)+1:=IntWalk.i64_in _ (by omega);clear hav;have hfn:fnK j=113∨fnK j=115∨fnK j=118∨fnK j=121∨fnK j=123:=by
       rcases(show j=0∨j=1∨j=2∨j=3∨j=4 by omega) with rfl|rfl|rfl|rfl|rfl
       · exact .inl rfl
       · exact .inr (.inl rfl)
       · exact .inr (.inr (.inl rfl))
       · exact .inr (.inr (.inr (.inl rfl)))
       · exact .inr (.inr (.inr (.inr rfl)))
      rcases hfn with hfn|hfn|hfn|hfn|hfn;all_goals
       rw[hfn] at c0 c1 KA
       clear hfn
       go_wp2_with fail
       refine KA.out.mono ?_
       clear KA c0 c1
       rintro e w4 ⟨rfl,hb4⟩
       cases bv
       · have HM1:Hid (Below w.heap.size w w4∧Whole w4 g 29 l.cells∧Whole w4 (g+1) 113 (rulesC g)∧∀i,i<j+1→(ruleV l i).2=false):=Zz ⟨HM.out.1.trans (hb4.mono HM.out.1.size),HM.out.2.1.below hb4 HM.out.2.1.lt,HM.out.2.2.1.below hb4 HM.out.2.2.1.lt,fun i hi=>by
          by_cases e:i=j
          · rw[e,HAV.out]
          · exact HM.out.2.2.2 i (by omega)⟩;clear HM hb4 HAV;go_wp2_with fail;go_roundw
         case rel=>exact⟨j+1,by omega,by go_num,HM1⟩
         case measure=>simp[intOf];omega
       · have HV:Hid (checkV l=((j:Int)+1,a,90)):=Zz (by rw[check_at HRV.out hlt (by rw[HAV.out]) HM.out.2.2.2,HAV.out]);have HB:=Zz (HM.out.1.trans (hb4.mono HM.out.1.size));clear HM hb4 HAV;go_wp2_with fail;refine bodyPost_ret (v:=.tuple #[.int .i64 ((j:Int)+1),.int .i64 a,.int .i64 90]) (by simp[results,Tryz.f42,go_sem]) rfl ⟨by rw[←HR.out,HV.out],HB.out⟩
    · obtain rfl:j=5:=by omega
      have HV:=Zz (check_no HRV.out HM.out.2.2.2);have HB:=Zz HM.out.1;clear HM;rw[show((5:Nat):Int)=5 from rfl];go_wp2_with fail;refine bodyPost_ret (v:=.tuple #[.int .i64 0,.int .i64 0,.int .i64 0]) (by simp[results,Tryz.f42,go_sem]) rfl ⟨by rw[←HR.out,HV.out],HB.out⟩
theorem rightT_any {l:Lay} {w:World} (hT:Shapes w) (hL:Lies l w) {r:Bool} (hr:rightT l=r):
 Calls Tryz.prog 27 #[l.val] w fun e w'=>e= .returned (.bool r)∧Below w.heap.size w w':=by
 have hB0:=below1 w (.cells #[.slice l.As l.secs.length l.cs,.slice l.Ag l.sigs.length l.cg,.slice l.Ae l.exits.length l.ce,.slice l.Af l.flanks.length l.cf,.int .i64 l.t0,.int .i64 l.t1,.int .i64 l.t2,.int .i64 l.t3,.int .i64 l.t4,.int .i64 l.t5,.int .i64 l.t6] 29)
 have b0:=Whole.new w 29 l.cells
 obtain⟨⟨a,b,c⟩,hv⟩:∃v,checkV l=v:=⟨_,rfl⟩
 have KC:=Zz (check_any (Shapes.closed _ _ hT hB0) (Lies.closed l _ _ hL hB0) hv)
 have HB0:=Zz hB0
 have HR:Hid (decide (c=0)=r):=Zz (by rw[←hr];unfold rightT;rw[hv])
 obtain⟨x0,x1,x2,x3,x4,x5,x6,x7,x8,x9,x10⟩:=b0.c11
 clear hB0 hT hL hr b0 hv
 go_enter Tryz.func27,Tryz.ntmps27
 go_wp2_with fail
 refine KC.out.mono ?_
 clear KC x0 x1 x2 x3 x4 x5 x6 x7 x8 x9 x10
 rintro e w1 ⟨rfl,hb1⟩
 have HB1:=Zz (HB0.out.trans (hb1.mono HB0.out.size))
 clear hb1 HB0
 by_cases hc:c=0
 · subst hc;go_wp2_with fail;go_ret;exact⟨Zc (by rw[←HR.out];rfl),HB1.out⟩
 · go_wp2_with fail;go_ret;exact⟨Zc (by rw[←HR.out,decide_eq_false hc];simp[hc]),HB1.out⟩
end
section
open Go.RowKit Go.Shelf
attribute [local go_sem] Oper.semAt_some
theorem endV_at {l:Lay} {p:Pth} {x:Int×Int×Int} {y:Exm} (hx:p.ss[p.ss.length - 1]? =some x) (hy:l.exits[p.x.toNat]? =some y):endV l p=decide ((x.1,x.2.2)=(y.s,y.q)):=by
 unfold endV;rw[List.getLast?_eq_getElem?,hx,hy,Bool.eq_iff_iff];simp
end
section
open Go.RowKit Go.Shelf
theorem keep_lp (l:Lay) (p:Pth) (w:World):∃Q:World→Prop,Hid (Closed Q)∧Hid (∀W,Q W→Below w.heap.size w W)∧Hid (∀W,Q W→Whole W w.heap.size 29 l.cells)∧Hid (∀W,Q W→Whole W (w.heap.size+1) 46 p.cells)∧Q ((w.alloc (.cells l.cells.toArray 29)).alloc (.cells p.cells.toArray 46)):=
 ⟨fun W=>Below w.heap.size w W∧Whole W w.heap.size 29 l.cells∧Whole W (w.heap.size+1) 46 p.cells,Zz ((Closed.below w).and ((Closed.whole _ _ _).and (Closed.whole _ _ _))),Zz fun _ h=>h.1,Zz fun _ h=>h.2.1,Zz fun _ h=>h.2.2,below2 w _ _,(Whole.new w _ l.cells).alloc _,Whole.Zj _ _ p.cells _ (by simp)⟩
end
section
open Go.RowKit Go.Shelf
attribute [local go_sem] Oper.semAt_some
theorem fineB_any {l:Lay} {p:Pth} {w:World} (hT:Shapes w) (hL:Lies l w) (hp:PLies p w) (hO:∀x ∈ l.exits,x.over.length≤1000) (hF:l.flanks.length≤900) (hN:(ofV l p).length≤1000000) (hW:∀x ∈ ofV l p,NWf x) {r:Bool} (hr:(!clashN (ofV l p))=r):
 Calls Tryz.prog 47 #[l.val,p.val] w fun e w'=>e= .returned (.bool r)∧Below w.heap.size w w':=by
 obtain⟨W2,hW2⟩:∃W2,(w.alloc (.cells #[.slice l.As l.secs.length l.cs,.slice l.Ag l.sigs.length l.cg,.slice l.Ae l.exits.length l.ce,.slice l.Af l.flanks.length l.cf,.int .i64 l.t0,.int .i64 l.t1,.int .i64 l.t2,.int .i64 l.t3,.int .i64 l.t4,.int .i64 l.t5,.int .i64 l.t6] 29)).alloc (.cells #[.int .i64 p.s,.int .i64 p.x,.slice p.A p.ss.length p.c] 46)=W2:=⟨_,rfl⟩
 have HS2:Hid (Below w.heap.size w W2∧W2.heap.size=w.heap.size+2∧Whole W2 w.heap.size 29 l.cells∧Whole W2 (w.heap.size+1) 46 p.cells):=Zz (by
  rw[←hW2];exact⟨below2 w _ _,by simp,(Whole.new w _ l.cells).alloc _,Whole.Zj _ _ p.cells _ (by simp)⟩)
 rw[←hW2] at HS2
 obtain⟨x0,x1,x2,x3,x4,x5,x6,x7,x8,x9,x10⟩:=(HS2.out.2.2.1).c11
 obtain⟨y0,y1,y2⟩:=(HS2.out.2.2.2).c3
 rw[hW2] at HS2
 have HW2:=Zz hW2
 obtain⟨c,hc⟩:∃c,clashN (ofV l p)=c:=⟨_,rfl⟩
 rw[hc] at hr
 have HRR:=Zz hr
 clear hr hW2
 go_enter Tryz.func47,Tryz.ntmps47
 go_wp2_with fail
 try rw[HW2.out]
 refine(needs13_any l p W2).mono ?_
 clear x0 x1 x2 x3 x4 x5 x6 x7 x8 x9 x10 y0 y1 y2
 rintro e w3 ⟨rfl,rfl⟩
 obtain⟨W4,hW4⟩:∃W4,(W2.alloc (.cells #[.slice l.As l.secs.length l.cs,.slice l.Ag l.sigs.length l.cg,.slice l.Ae l.exits.length l.ce,.slice l.Af l.flanks.length l.cf,.int .i64 l.t0,.int .i64 l.t1,.int .i64 l.t2,.int .i64 l.t3,.int .i64 l.t4,.int .i64 l.t5,.int .i64 l.t6] 29)).alloc (.cells #[.int .i64 p.s,.int .i64 p.x,.slice p.A p.ss.length p.c] 46)=W4:=⟨_,rfl⟩
 have hB4:Below w.heap.size w W4:=by rw[←hW4];exact HS2.out.1.trans ((below2 W2 _ _).mono HS2.out.1.size)
 have b1:Whole W4 W2.heap.size 29 l.cells:=by rw[←hW4];exact(Whole.new _ _ l.cells).alloc _
 have b2:Whole W4 (W2.heap.size+1) 46 p.cells:=by rw[←hW4];exact Whole.Zj _ _ p.cells _ (by simp)
 have hs4:W4.heap.size=w.heap.size+4:=by rw[←hW4];simp;have :=HS2.out.2.1;omega
 have K:=Zz (clash13_any (w0:=W4) (w:=W4) (gf:=134) (lb:=#[.pointer (some ⟨W2.heap.size,0,none⟩),.pointer (some ⟨W2.heap.size+1,0,none⟩)]) (ns:=ofV l p) (R:=fun k=>k<w.heap.size∨(k=W2.heap.size∨k=W2.heap.size+1))
  (fun W h=>needs13_iter hT hL hp hO hF (fun k o hk ho=>((hB4.trans (h.mono hB4.size)).block k hk).trans ho) (hB4.trans (h.mono hB4.size)).size (b1.below h b1.lt) (b2.below h b2.lt))
  (enters_of Tryz.func134 (by kernel_rfl) rfl) (fun k hk=>by have :=HS2.out.2.1;rcases hk with hk|hk|hk <;> omega) hW hN hc)
 have HB4:=Zz hB4
 have HW4:=Zz hW4
 clear hB4 b1 b2 hs4 hW4 hT hL hp hO hF hN hW hc
 go_wp2_with fail
 try rw[HW4.out]
 refine K.out.mono ?_
 clear K
 rintro e w4 ⟨rfl,hB4⟩
 have HB5:=Zz (HB4.out.trans (hB4.mono HB4.out.size))
 clear hB4
 go_wp2_with fail
 go_ret
 exact⟨Zc HRR.out,HB5.out⟩
def ptsN (l:Lay) (j:Nat):Nat:=(List.range j).countP (freeB l [])
theorem ptsN_succ (l:Lay) (j:Nat):ptsN l (j+1)=ptsN l j+(if Zu l j=2 then 1 else 0):=by
 unfold ptsN;rw[List.range_succ,List.countP_append];by_cases h:Zu l j=2 <;> simp[freeB,usedS,h]
theorem ptsN_le (l:Lay):∀j,ptsN l j≤j
 |0=>Nat.le_refl _
 |j+1=>by have :=ptsN_le l j;rw[ptsN_succ];split <;> omega
def great14 (l:Lay):Bool:=decide (8<ptsN l (min l.secs.length 25))||(decide (24<l.secs.length)||greatV l)
theorem great14_no {l:Lay} (hf:FWf l) (h:great14 l=false):Sml14 l:=by
 unfold great14 at h;simp only[Bool.or_eq_false_iff,decide_eq_false_iff_not] at h;obtain⟨h1,h2,h3⟩:=h;obtain⟨g1,g2,g3,g4,g5⟩:=great_no h3;rw[Nat.min_eq_left (by omega)] at h1;exact⟨hf,g1,by show ptsN l l.secs.length≤8;omega,g2,g3,g4,g5⟩
theorem great14_P {P:World→Prop} {w:World} (hP:Closed P) {l:Lay} (hL:∀w,P w→Lies l w) {r:Bool} (hr:great14 l=r) (h:P w):
 Calls Tryz.prog 8 #[l.val] w fun e w'=>e= .returned (.bool r)∧P w':=by
 obtain⟨Q,HQ,HQp,HQl,hq⟩:=keep_box hP h 29 l.cells
 have hnS:=(hL _ h).nS
 have HG:=Zz hr
 clear hr
 go_enter Tryz.func8,Tryz.ntmps8
 go_wp2_with fail
 go_loopw [3,4] (fun n i wr=>∃j:Nat,j≤l.secs.length∧j≤25∧n= .int .i64 (ptsN l j)∧i= .int .i64 j∧Q wr)
  (fun _ i _=>l.secs.length - (intOf i).toNat)
 case atStart=>exact⟨0,by omega,by omega,rfl,rfl,hq⟩
 case round=>
  clear hq;obtain⟨j,hj,hj25,rfl,rfl,hq⟩:=hrel;have x0:=(HQl.out _ hq).Za 0 rfl;have hpl:=ptsN_le l j;by_cases hlt:j<l.secs.length∧j≤24
  · obtain⟨hlt,h24⟩:=hlt;have hlt':(j:Int)<l.secs.length:=by omega
    have h24':(j:Int)≤24:=by omega
    obtain⟨x,hx⟩:∃x,l.secs[j]? =some x:=⟨_,List.getElem?_eq_getElem hlt⟩;obtain⟨b,off,hA,hb,hc0,hc⟩:=(hL _ (HQp.out _ hq)).secs.nth (n:=11) (fun _=>rfl) (by omega) hx;have HK:Hid (Zu l j=x.k):=Zz (by unfold Zu;simp[hx]);have c0:=hc0 j _ _ hx rfl;rw[hA] at x0;clear hc hx hc0 hA;by_cases h2:x.k=2
    · have HN:Hid (ptsN l (j+1)=ptsN l j+1):=Zz (by rw[ptsN_succ,HK.out,if_pos h2]);rw[h2] at c0;go_wp2_with fail;go_roundw
      case rel=>exact⟨j+1,hlt,by omega,by rw[HN.out];go_num,by go_num,hq⟩
      case measure=>simp[intOf];omega
    · have HN:Hid (ptsN l (j+1)=ptsN l j):=Zz (by rw[ptsN_succ,HK.out,if_neg h2];rfl);go_wp2_with fail;go_roundw
      case rel=>exact⟨j+1,hlt,by omega,by rw[HN.out],by go_num,hq⟩
      case measure=>simp[intOf];omega
  · have hend:j=min l.secs.length 25:=by omega
    have HR:Hid ((decide (8<ptsN l j)||(decide (24<l.secs.length)||greatV l))=r):=Zz (by rw[←HG.out];unfold great14;rw[hend]);have hp:=HQp.out _ hq;have KG:Hid (∀W,Q W→Calls Tryz.prog 25 #[l.val] W fun e w'=>e= .returned (.bool (greatV l))∧Q w'):=Zz fun W hW=>great_P HQ.out (fun W hW=>hL _ (HQp.out _ hW)) rfl hW;have hwhy:(j:Int)<l.secs.length∧¬(j:Int)≤24∨¬(j:Int)<l.secs.length:=by omega
    by_cases h8:8<ptsN l j
    · have HF:Hid (true=r):=Zz (by rw[←HR.out];simp[h8]);have d8:(8:Int)<(ptsN l j:Nat):=by omega
      clear HR hend hlt KG;rcases hwhy with ⟨w1,w2⟩|w1 <;> (go_wp2_with fail;go_ret;exact⟨Zc HF.out,hp⟩)
    have d8:¬(8:Int)<(ptsN l j:Nat):=by omega
    have HR2:Hid ((decide (24<l.secs.length)||greatV l)=r):=Zz (by rw[←HR.out,decide_eq_false h8,Bool.false_or]);clear HR h8;by_cases h9:24<l.secs.length
    · have HF:Hid (true=r):=Zz (by rw[←HR2.out];simp[h9]);have d9:(24:Int)<(l.secs.length:Nat):=by omega
      clear HR2 hend hlt KG;rcases hwhy with ⟨w1,w2⟩|w1 <;> (go_wp2_with fail;go_ret;exact⟨Zc HF.out,hp⟩)
    have d9:¬(24:Int)<(l.secs.length:Nat):=by omega
    have HF:Hid (greatV l=r):=Zz (by rw[←HR2.out,decide_eq_false h9,Bool.false_or]);have w1:¬(j:Int)<l.secs.length:=by omega
    clear HR2 hend hlt h9 hwhy;clear x0;obtain⟨x0,x1,x2,x3,x4,x5,x6,x7,x8,x9,x10⟩:=(HQl.out _ hq).c11;go_wp2_with fail;refine(KG.out _ hq).mono ?_;rintro e wz ⟨rfl,hz⟩;have HZ:=Zz (HQp.out _ hz);go_wp2_with fail;go_ret;exact⟨Zc HF.out,HZ.out⟩
end
section
open Go.RowKit Go.Shelf
theorem within14_any (n m:Int) {r:Bool} (hr:(decide (0≤n)&&decide (n<m))=r) (w:World):Calls Tryz.prog 28 #[.int .i64 n,.int .i64 m] w fun e w'=>e= .returned (.bool r)∧Below w.heap.size w w':=by
 subst hr;by_cases h:0≤n
 · have h1:decide (0≤n)=true:=decide_eq_true h;go_enter Tryz.func28,Tryz.ntmps28;go_wp2_with fail;go_ret;exact⟨Zc (by first|(rw[h1];rfl)|rfl|simp[h]),Below.refl _ _⟩
 · have h1:decide (0≤n)=false:=decide_eq_false h;go_enter Tryz.func28,Tryz.ntmps28;go_wp2_with fail;go_ret;exact⟨Zc (by first|(rw[h1];rfl)|rfl|simp[h]),Below.refl _ _⟩
section
variable {P:World→Prop} {w:World}
theorem via14_P (hP:Closed P) {l:Lay} (v:Int) (g:Nat) (hg:∀w,P w→Whole w g 29 l.cells) {r:Bool} (hr:noVia l v=r) (h:P w):Calls Tryz.prog 43 #[.int .i64 v,.pointer (some ⟨g,0,none⟩)] w fun e w'=>e= .returned (.bool r)∧P w':=by
 obtain⟨b,hb⟩:∃b,(decide (0≤v)&&decide (v<l.secs.length))=b:=⟨_,rfl⟩;have HR:Hid ((!b)=r):=Zz (by rw[←hr,←hb];rfl);have K1:=Zz (fun W hW=>keepR hP (within14_any v l.secs.length hb W) hW);have x0:=(hg _ h).Za 0 rfl;clear hr hb hP hg;go_enter Tryz.func43,Tryz.ntmps43;go_wp2_with fail;refine(K1.out _ h).mono ?_;clear h x0;rintro e w1 ⟨rfl,h⟩;go_wp2_with fail;go_ret;exact⟨Zc HR.out,h⟩
theorem indexVia14_P {l:List Int} {A:Option Addr} (c:Nat) (hR:∀w,P w→Row w w.heap.size A (nums .i64 l)) (hn:(l.length:Int)≤9223372036854775807) (p0:Value) {pr:Int→Bool} {r:Int}
 (hf:∀x w,P w→Calls Tryz.prog 43 #[.int .i64 x,p0] w fun e w'=>e= .returned (.bool (pr x))∧P w') (hr:idxV pr l=r) (h:P w):
 Calls Tryz.prog 70 #[.slice A l.length c,.func (.func 43) #[] #[p0]] w fun e w'=>e= .returned (.int .i64 r)∧P w':=by
 have HF:=Zz hf
 have HR:=Zz hr
 clear hf hr
 go_enter Tryz.func70,Tryz.ntmps70
 go_wp2_with fail
 go_loopw [8] (fun i wr=>∃j:Nat,j≤l.length∧i= .int .i64 j∧P wr∧Hid (Zl pr l j))
  (fun i _=>l.length - (intOf i).toNat)
 case atStart=>exact⟨0,by omega,rfl,h,Zz (Zl.zero _ _)⟩
 case round=>
  obtain⟨j,hj,rfl,hp,HNo⟩:=hrel;by_cases hlt:j<l.length
  · have hlt':(j:Int)<l.length:=by omega
    obtain⟨x,hx⟩:∃x,l[j]? =some x:=⟨_,List.getElem?_eq_getElem hlt⟩;have HX:=Zz hx;clear hx;obtain⟨b,off,hA,c0⟩:∃b off,A=some ⟨b,off,none⟩∧wr.cell? ⟨b,off+j,none⟩=some (.int .i64 x):=by
     obtain⟨b,off,e,h1,h2⟩:=(hR _ hp).num hlt;rw[HX.out] at h2;exact⟨b,off,e,h2⟩
    subst hA;go_wp2_with fail;refine(HF.out x _ hp).mono ?_;clear hp c0;cases hpr:pr x
    · have HN:=Zz (HNo.out.succ HX.out hpr);clear hpr;rintro e w1 ⟨rfl,hp⟩;go_wp2_with fail;go_roundw
      case rel=>exact⟨j+1,hlt,by go_num,hp,HN⟩
      case measure=>simp[intOf];omega
    · have HI:=Zz (HNo.out.idx HX.out hpr);clear hpr;rintro e w1 ⟨rfl,hp⟩;go_wp2_with fail;go_ret;exact⟨ret_int (by rw[←HR.out,HI.out]),hp⟩
  · obtain rfl:j=l.length:=by omega
    have HI:=Zz HNo.out.idx_no;go_wp2_with fail;go_ret;exact⟨ret_int (by rw[←HR.out,HI.out]),hp⟩
theorem containsVia14_P {l:List Int} {A:Option Addr} (c:Nat) (hR:∀w,P w→Row w w.heap.size A (nums .i64 l)) (hn:(l.length:Int)≤9223372036854775807) (p0:Value) {pr:Int→Bool} (hf:∀x w,P w→Calls Tryz.prog 43 #[.int .i64 x,p0] w fun e w'=>e= .returned (.bool (pr x))∧P w') {r:Bool} (hr:l.any pr=r) (h:P w):
 Calls Tryz.prog 44 #[.slice A l.length c,.func (.func 43) #[] #[p0]] w fun e w'=>e= .returned (.bool r)∧P w':=by
 obtain⟨i,hi⟩:∃i,idxV pr l=i:=⟨_,rfl⟩
 have HE:Hid (decide (0≤i)=r):=Zz (by rw[←hi,idxV_any,hr])
 have K:=Zz (indexVia14_P (P:=P) (w:=w) c hR hn p0 hf hi h)
 clear hr hi hf hR h
 go_enter Tryz.func44,Tryz.ntmps44
 go_wp2_with fail
 refine K.out.mono ?_
 clear K
 rintro e w1 ⟨rfl,h⟩
 go_wp2_with fail
 go_ret
 exact⟨Zc HE.out,h⟩
theorem indexStp14_P {l:List (Int×Int×Int)} {A:Option Addr} (c:Nat) (hR:∀w,P w→Row w w.heap.size A (l.flatMap Ze)) (hn:(l.length:Int)≤9223372036854775807) (p0:Value) {pr:Int×Int×Int→Bool} {r:Int}
 (hf:∀x w,P w→Calls Tryz.prog 166 #[stpV x.1 x.2.1 x.2.2,p0] w fun e w'=>e= .returned (.bool (pr x))∧P w') (hr:idxV pr l=r) (h:P w):
 Calls Tryz.prog 194 #[.slice A l.length c,.func (.func 166) #[] #[p0]] w fun e w'=>e= .returned (.int .i64 r)∧P w':=by
 have HF:=Zz hf
 have HR:=Zz hr
 clear hf hr
 go_enter Tryz.func194,Tryz.ntmps194
 go_wp2_with fail
 go_loopw [8] (fun i wr=>∃j:Nat,j≤l.length∧i= .int .i64 j∧P wr∧Hid (Zl pr l j))
  (fun i _=>l.length - (intOf i).toNat)
 case atStart=>exact⟨0,by omega,rfl,h,Zz (Zl.zero _ _)⟩
 case round=>
  obtain⟨j,hj,rfl,hp,HNo⟩:=hrel;by_cases hlt:j<l.length
  · have hlt':(j:Int)<l.length:=by omega
    obtain⟨x,hx⟩:∃x,l[j]? =some x:=⟨_,List.getElem?_eq_getElem hlt⟩;have HX:=Zz hx;clear hx;obtain⟨b,off,hA,_,hc0,hc⟩:=(hR _ hp).nth (n:=3) (fun _=>rfl) (by omega) HX.out;subst hA;have c0:=hc0 j x _ HX.out rfl;have c1:=hc j x 1 _ HX.out rfl;have c2:=hc j x 2 _ HX.out rfl;clear hc0 hc;go_wp2_with fail;refine(HF.out x _ hp).mono ?_;clear hp c0 c1 c2;cases hpr:pr x
    · have HN:=Zz (HNo.out.succ HX.out hpr);clear hpr;rintro e w1 ⟨rfl,hp⟩;go_wp2_with fail;go_roundw
      case rel=>exact⟨j+1,hlt,by go_num,hp,HN⟩
      case measure=>simp[intOf];omega
    · have HI:=Zz (HNo.out.idx HX.out hpr);clear hpr;rintro e w1 ⟨rfl,hp⟩;go_wp2_with fail;go_ret;exact⟨ret_int (by rw[←HR.out,HI.out]),hp⟩
  · obtain rfl:j=l.length:=by omega
    have HI:=Zz HNo.out.idx_no;go_wp2_with fail;go_ret;exact⟨ret_int (by rw[←HR.out,HI.out]),hp⟩
theorem containsStp14_P {l:List (Int×Int×Int)} {A:Option Addr} (c:Nat) (hR:∀w,P w→Row w w.heap.size A (l.flatMap Ze)) (hn:(l.length:Int)≤9223372036854775807) (p0:Value) {pr:Int×Int×Int→Bool} (hf:∀x w,P w→Calls Tryz.prog 166 #[stpV x.1 x.2.1 x.2.2,p0] w fun e w'=>e= .returned (.bool (pr x))∧P w') {r:Bool} (hr:l.any pr=r) (h:P w):
 Calls Tryz.prog 168 #[.slice A l.length c,.func (.func 166) #[] #[p0]] w fun e w'=>e= .returned (.bool r)∧P w':=by
 obtain⟨i,hi⟩:∃i,idxV pr l=i:=⟨_,rfl⟩
 have HE:Hid (decide (0≤i)=r):=Zz (by rw[←hi,idxV_any,hr])
 have K:=Zz (indexStp14_P (P:=P) (w:=w) c hR hn p0 hf hi h)
 clear hr hi hf hR h
 go_enter Tryz.func168,Tryz.ntmps168
 go_wp2_with fail
 refine K.out.mono ?_
 clear K
 rintro e w1 ⟨rfl,h⟩
 go_wp2_with fail
 go_ret
 exact⟨Zc HE.out,h⟩
theorem same14_P (hP:Closed P) (a:Int×Int×Int) (q:Int×Int) (g:Nat) (hg:∀w,P w→Whole w g 59 (Zf q)) {r:Bool} (hr:(a.1==q.1)=r) (h:P w):Calls Tryz.prog 166 #[stpV a.1 a.2.1 a.2.2,.pointer (some ⟨g,0,none⟩)] w fun e w'=>e= .returned (.bool r)∧P w':=by
 obtain⟨Q,HQ,HQp,HQv,hw⟩:=keep_box hP h 66 (Ze a);have x0:=(hg _ (HQp.out _ hw)).Za 0 rfl;obtain⟨v0,v1,v2⟩:=(HQv.out _ hw).c3;have HR:=Zz hr;clear hg hP h hr;go_enter Tryz.func166,Tryz.ntmps166;go_wp2_with fail;go_ret;exact⟨Zc HR.out,HQp.out _ hw⟩
end
theorem viasRight14_any {l:Lay} {vs:List Int} {A:Option Addr} (c:Nat) {w:World} (hR:Row w w.heap.size A (nums .i64 vs)) (hn:(vs.length:Int)≤9223372036854775807) {r:Bool} (hr:viasV l vs=r):
 Calls Tryz.prog 29 #[l.val,.slice A vs.length c] w fun e w'=>e= .returned (.bool r)∧Below w.heap.size w w':=by
 obtain⟨Q,HQ,HQb,HQl,hw⟩:=keep_box (Closed.below w) (Below.refl _ w) 29 l.cells
 obtain⟨b,hb⟩:∃b,vs.any (noVia l)=b:=⟨_,rfl⟩
 have K:=Zz (fun W hW=>containsVia14_P (P:=Q) (w:=W) c (fun W hW=>hR.on (HQb.out W hW)) hn (.pointer (some ⟨w.heap.size,0,none⟩)) (pr:=noVia l) (fun x W hW=>via14_P (P:=Q) HQ.out x _ (fun W hW=>HQl.out W hW) rfl hW) hb hW)
 have HR:Hid ((decide (vs.length≤2)&& !b)=r):=Zz (by rw[←hr,←hb];rfl)
 clear hr hb hR
 by_cases h2:vs.length≤2
 · have h2':(vs.length:Int)≤2:=by omega
   have HR':Hid ((!b)=r):=Zz (by rw[←HR.out,decide_eq_true h2];rfl);clear HR h2;obtain⟨x0,x1,x2,x3,x4,x5,x6,x7,x8,x9,x10⟩:=(HQl.out _ hw).c11;go_enter Tryz.func29,Tryz.ntmps29;go_wp2_with fail;refine(K.out _ hw).mono ?_;clear hw x0 x1 x2 x3 x4 x5 x6 x7 x8 x9 x10;rintro e w1 ⟨rfl,hw⟩;go_wp2_with fail;go_ret;exact⟨Zc HR'.out,HQb.out _ hw⟩
 · have h2':¬(vs.length:Int)≤2:=by omega
   have HR':Hid (false=r):=Zz (by rw[←HR.out,decide_eq_false h2];rfl);clear HR h2;obtain⟨x0,x1,x2,x3,x4,x5,x6,x7,x8,x9,x10⟩:=(HQl.out _ hw).c11;go_enter Tryz.func29,Tryz.ntmps29;go_wp2_with fail;go_ret;exact⟨Zc HR'.out,HQb.out _ hw⟩
theorem leaves14_any {p:Pth} {u:List Stp} {a:Stp} {w:World} (hp:PLies p w) (hs:p.ss=u++[a]) (hl:p.ss.length≤1000):Calls Tryz.prog 126 #[p.val] w fun e w'=>e= .returned (prtV a.1 a.2.2)∧Below w.heap.size w w':=by
 obtain⟨W0,hW0⟩:∃W0,((w.alloc (.cells #[.int .i64 p.s,.int .i64 p.x,.slice p.A p.ss.length p.c] 46)).alloc (.cells #[.int .i64 0,.int .i64 0] 59))=W0:=⟨_,rfl⟩;have hB0:Below w.heap.size w W0:=by rw[←hW0];exact below2 w _ _
 have hs0:W0.heap.size=w.heap.size+2:=by rw[←hW0];simp
 have hb0:Whole W0 w.heap.size 46 p.cells:=by rw[←hW0];exact(Whole.new w _ p.cells).alloc _
 have hb1:Whole W0 (w.heap.size+1) 59 [.int .i64 0,.int .i64 0]:=by rw[←hW0];exact Whole.Zj _ _ [_,_] _ (by simp)
 have hx:p.ss[u.length]? =some a:=by rw[hs,List.getElem?_concat_length]
 have hlen:p.ss.length=u.length+1:=by rw[hs,List.length_append,List.length_singleton]
 have hwr:IntKind.i64.wrap ((p.ss.length:Int) - 1)=(u.length:Int):=by rw[hlen];exact(IntWalk.i64_in _ (by omega)).trans (by omega)
 have hlt':(u.length:Int)<(p.ss.length:Int):=by omega
 obtain⟨b,off,hA,_,hc0,hc⟩:=(hp.row.on hB0).nth (n:=3) (fun _=>rfl) (by omega) hx;have c0:=hc0 u.length _ _ hx rfl;have c1:=hc u.length _ 1 _ hx rfl;have c2:=hc u.length _ 2 _ hx rfl;have y2:=hb0.Za 2 rfl;rw[hA] at y2;have hb1':=hb1.alloc (.cells #[.int .i64 a.1,.int .i64 a.2.1,.int .i64 a.2.2] 66);have hbs:=Whole.new W0 66 (Ze a);have hb0':=Below.trans hB0 ((below1 W0 (.cells #[.int .i64 a.1,.int .i64 a.2.1,.int .i64 a.2.2] 66)).mono hB0.size);obtain⟨W1,hW1⟩:∃W1,W0.alloc (.cells #[.int .i64 a.1,.int .i64 a.2.1,.int .i64 a.2.2] 66)=W1:=⟨_,rfl⟩;rw[hW1] at hb1' hb0';rw[show W0.alloc (.cells (Ze a).toArray 66)=W1 from hW1,hs0] at hbs;have hWo:=(hb1'.set 0 (.int .i64 a.1)).set 1 (.int .i64 a.2.2);have hBo:=(hb0'.setCell (p:=⟨w.heap.size+1,0,none⟩) (by show w.heap.size≤w.heap.size+1;omega) (.int .i64 a.1)).setCell (p:=⟨w.heap.size+1,1,none⟩) (by show w.heap.size≤w.heap.size+1;omega) (.int .i64 a.2.2);have HWo:=Zz (And.intro hWo hBo);have f0:=hb1'.frozen 0;have f1:=hb1'.frozen 1;have z0:=hb1'.Za 0 rfl;have z1:=hb1'.Za 1 rfl;obtain⟨s0,s1,s2⟩:=hbs.c3;have HW0:=Zz hW0;have HW1:=Zz hW1;have HS0:=Zz hs0;clear hA hW0 hW1 hc0 hc hb0 hb1 hb1' hb0' hbs hWo hBo hp hs hx hlen hB0 hs0 hl;go_enter Tryz.func126,Tryz.ntmps126;go_upto_region 1 with (fail)
 rw[HW0.out];go_upto_region 2 with (fail)
 rw[HW1.out,HS0.out];go_wp2_with fail;have e0:=HWo.out.1.Za 0 rfl;have e1:=HWo.out.1.Za 1 rfl;refine bodyPost_ret (v:=prtV a.1 a.2.2) ?_ rfl ⟨rfl,HWo.out.2⟩;simp[results,Tryz.f126,go_sem,e0,e1]
end
end Go.Proofs.YtifnlhfinjfajaaGreatDoor
