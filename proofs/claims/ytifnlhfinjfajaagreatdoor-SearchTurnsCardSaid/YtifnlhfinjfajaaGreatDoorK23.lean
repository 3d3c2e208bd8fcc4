/- Of this seat: RouT_1. -/
import Derived.Test.YtifnlhfinjfajaaGreatDoorK22
namespace Go.Proofs.YtifnlhfinjfajaaGreatDoor
set_option linter.unusedVariables false
set_option linter.unusedSimpArgs false
set_option maxRecDepth 100000
set_option maxHeartbeats 32000000
section
open Go.RowKit Go.Shelf
theorem throughR_any {p:Pth} {vs:List Int} {A:Option Addr} {c:Nat} {w:World} (hp:PLies p w) (hR:Row w w.heap.size A (nums .i64 vs)) (hn:(vs.length:Int)≤9223372036854775807) {r:Bool} (hr:Zs (secsS p.ss) vs=r):
 Calls Tryz.prog 24 #[p.val,.slice A vs.length c] w fun e w'=>e= .returned (.bool r)∧Below w.heap.size w w':=by
 obtain⟨Q,HQ,HQb,HQp,hq⟩:=keep_box (Closed.below w) (Below.refl _ w) 46 p.cells
 have HRW:Hid (∀W,Q W→Row W W.heap.size p.A (p.ss.flatMap Ze)):=Zz fun W hW=>hp.row.on (HQb.out W hW)
 have HAW:Hid (∀W,Q W→Row W W.heap.size A (nums .i64 vs)):=Zz fun W hW=>hR.on (HQb.out W hW)
 have hlen:=hp.len
 have HR:=Zz hr
 clear hp hR hr
 go_enter Tryz.func24,Tryz.ntmps24
 go_wp2_with fail
 go_loopw [5,6] (fun k i wr=>∃(a j:Nat),a≤p.ss.length∧j≤vs.length∧k= .int .i64 a∧i= .int .i64 j∧Q wr∧Hid (Zs ((secsS p.ss).drop a) (vs.drop j)=r))
  (fun _ i _=>vs.length - (intOf i).toNat)
 case atStart=>exact⟨0,0,by omega,by omega,rfl,rfl,hq,HR⟩
 case round=>
  clear HR hq;obtain⟨a0,j,ha0,hj,rfl,rfl,hq,HI⟩:=hrel;obtain⟨wo,rfl⟩:∃W,W=wr:=⟨wr,rfl⟩;by_cases hlt:j<vs.length
  · have hlt':(j:Int)<vs.length:=by omega
    obtain⟨v,hv⟩:∃v,vs[j]? =some v:=⟨_,List.getElem?_eq_getElem hlt⟩;obtain⟨b2,o2,hA,_,_⟩:=(HAW.out _ hq).num hlt;have HD0:Hid (∀W,Q W→W.cell? ⟨b2,o2+j,none⟩=some (.int .i64 v)):=Zz fun W hW=>by
     obtain⟨b',o',e,_,h⟩:=(HAW.out _ hW).num hlt;rw[hA] at e;cases e;rw[hv] at h;exact h
    have HA:=Zz hA;have HI1:Hid (Zs ((secsS p.ss).drop a0) (v::vs.drop (j+1))=r):=Zz (by rw[←HI.out,drop_at hv]);have HQ0:=Zz hq;clear HI hv hA hq;go_wp2_with fail;go_loopw [5] (fun k wr=>∃a:Nat,a≤p.ss.length∧k= .int .i64 a∧Q wr∧Hid (Zs ((secsS p.ss).drop a) (v::vs.drop (j+1))=r))
     (fun k _=>p.ss.length - (intOf k).toNat)
    case atStart=>exact⟨a0,ha0,rfl,HQ0.out,HI1⟩
    case round=>
     clear HI1 HQ0;obtain⟨a,ha,rfl,hq,HI⟩:=hrel;obtain⟨wi,rfl⟩:∃W,W=wr:=⟨wr,rfl⟩;by_cases hk:a<p.ss.length
     · have hk':(a:Int)<p.ss.length:=by omega
       obtain⟨⟨x1,x2,x3⟩,hx⟩:∃x,p.ss[a]? =some x:=⟨_,List.getElem?_eq_getElem hk⟩;have HE:Hid (Zs (x1::(secsS p.ss).drop (a+1)) (v::vs.drop (j+1))=r):=Zz (by rw[←HI.out,secs_at hx]);obtain⟨b,off,HPA,HC,_⟩:=row_at (f:=Ze) (n:=3) (fun _=>rfl) (by omega) HRW.out hq hx;have HC0:Hid (∀W,Q W→W.cell? ⟨b,off+a*3,none⟩=some (.int .i64 x1)):=Zz fun W hW=>HC.out W hW a _ _ hx rfl;clear HI hx HC;by_cases hxv:x1=v
       · have HT:Hid (Zs ((secsS p.ss).drop (a+1)) (vs.drop (j+1))=r):=Zz (by have :=HE.out;rw[through_cons,if_pos hxv] at this;exact this);have hne:(x1 != v)=false:=by simp[hxv]
         have hge:decide ((p.ss.length:Int)≤(a:Int))=false:=decide_eq_false (by omega);clear hxv HE;go_wp2_with fail;have HBS:Hid (∀W,Below wi.heap.size wi W→Q W):=Zz (fun W hB=>HQ.out _ _ hq hB);clear hq;refine rmx wi f18 (by kernel_rfl) (by kernel_rfl) ?_;simp only[Zg,f18,Lm,Ln];repeat ((first|(refine Zb (by rfl) ?_)|(refine mrd HBS _ (by rfl) (fun W hW=>by(have m1:=HQp.out W hW;have y2:=m1.Za 2 rfl;clear m1;have c0:=HC0.out W hW;have d0:=HD0.out W hW;go_simp;first|done|with_reducible rfl)) ?_)|(refine mrd HBS _ (by rfl) (fun W hW=>by(have m1:=HQp.out W hW;have y2:=m1.Za 2 rfl;clear m1;have c0:=HC0.out W hW;have d0:=HD0.out W hW;rw[HA.out];go_simp;first|done|with_reducible rfl)) ?_)|(refine mrd HBS _ (by rfl) (fun W hW=>by(have m1:=HQp.out W hW;have y2:=m1.Za 2 rfl;clear m1;have c0:=HC0.out W hW;have d0:=HD0.out W hW;rw[HPA.out];go_simp;first|done|with_reducible rfl)) ?_));simp only[Act.put,La,Lb,Lc])
         refine Zd (fun W hW=>?_);have hq:=HBS.out W hW;have y2:=(HQp.out _ hq).Za 2 rfl;clear hW HBS;go_wp2_with fail;go_roundw
         case rel=>exact⟨a+1,j+1,by omega,by omega,by go_num,by go_num,hq,HT⟩
         case measure=>simp[intOf];omega
       · have HT:Hid (Zs ((secsS p.ss).drop (a+1)) (v::vs.drop (j+1))=r):=Zz (by have :=HE.out;rw[through_cons,if_neg hxv] at this;exact this);have hne:(x1 != v)=true:=by simp[hxv]
         clear hxv HE;go_wp2_with fail;have HBS:Hid (∀W,Below wi.heap.size wi W→Q W):=Zz (fun W hB=>HQ.out _ _ hq hB);clear hq;refine rmx wi f18 (by kernel_rfl) (by kernel_rfl) ?_;simp only[Zg,f18,Lm,Ln];repeat ((first|(refine Zb (by rfl) ?_)|(refine mrd HBS _ (by rfl) (fun W hW=>by(have m1:=HQp.out W hW;have y2:=m1.Za 2 rfl;clear m1;have c0:=HC0.out W hW;have d0:=HD0.out W hW;go_simp;first|done|with_reducible rfl)) ?_)|(refine mrd HBS _ (by rfl) (fun W hW=>by(have m1:=HQp.out W hW;have y2:=m1.Za 2 rfl;clear m1;have c0:=HC0.out W hW;have d0:=HD0.out W hW;rw[HA.out];go_simp;first|done|with_reducible rfl)) ?_)|(refine mrd HBS _ (by rfl) (fun W hW=>by(have m1:=HQp.out W hW;have y2:=m1.Za 2 rfl;clear m1;have c0:=HC0.out W hW;have d0:=HD0.out W hW;rw[HPA.out];go_simp;first|done|with_reducible rfl)) ?_));simp only[Act.put,La,Lb,Lc])
         refine Zd (fun W hW=>?_);have hq:=HBS.out W hW;clear hW HBS;go_wp2_with fail;go_roundw
         case rel=>exact⟨a+1,by omega,by go_num,hq,HT⟩
         case measure=>simp[intOf];omega
     · obtain rfl:a=p.ss.length:=by omega
       have HT:Hid (false=r):=Zz (by rw[←HI.out,List.drop_eq_nil_of_le (by simp)];rfl);clear HI;go_wp2_with fail;have HBS:Hid (∀W,Below wi.heap.size wi W→Q W):=Zz (fun W hB=>HQ.out _ _ hq hB);clear hq;refine rmx wi f18 (by kernel_rfl) (by kernel_rfl) ?_;simp only[Zg,f18,Lm,Ln];repeat ((first|(refine Zb (by rfl) ?_)|(refine mrd HBS _ (by rfl) (fun W hW=>by(have m1:=HQp.out W hW;have y2:=m1.Za 2 rfl;clear m1;go_simp;first|done|with_reducible rfl)) ?_));simp only[Act.put,La,Lb,Lc])
       refine Zd (fun W hW=>?_);have hq:=HBS.out W hW;have y2:=(HQp.out _ hq).Za 2 rfl;clear hW HBS;go_wp2_with fail;go_ret;exact⟨Zc HT.out,HQb.out _ hq⟩
  · obtain rfl:j=vs.length:=by omega
    have HT:Hid (true=r):=Zz (by rw[←HI.out,List.drop_eq_nil_of_le (Nat.le_refl _),through_nil]);have HB:=Zz (HQb.out _ hq);clear HI hq;go_wp2_with fail;go_ret;exact⟨Zc HT.out,HB.out⟩
end
end Go.Proofs.YtifnlhfinjfajaaGreatDoor
