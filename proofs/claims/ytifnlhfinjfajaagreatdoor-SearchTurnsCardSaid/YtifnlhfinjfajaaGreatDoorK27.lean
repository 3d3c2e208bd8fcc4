/- Of this seat: TopoR. -/
import Derived.Test.YtifnlhfinjfajaaGreatDoorK26
namespace Go.Proofs.YtifnlhfinjfajaaGreatDoor
set_option linter.unusedVariables false
set_option linter.unusedSimpArgs false
set_option maxRecDepth 100000
set_option maxHeartbeats 32000000
section
open Go.RowKit Go.Shelf
def idxS (r:Int×Bool):Int:=if r.2=true then r.1 else -1
theorem second_is {α:Type} {same:α→α→Bool} {l:List α} {i k:Nat} (hb:∀b,b<k→∀a,a<b→dupP same l (a,b)=false) (hik:i<k) (hk:k<l.length) (hd:dupP same l (i,k)=true):Zv same l=((k:Int),true):=by
 unfold Zv;cases e:(pairsL l.length).find? (dupP same l) with
 |none=>
  have :=List.find?_eq_none.1 e (i,k) (mem_pairsL.2 ⟨hik,hk⟩);exact absurd hd this
 |some x=>
  obtain⟨h1,h2,h3,h4⟩:=pairs_some e;have hx:x.2=k:=by
   rcases Nat.lt_trichotomy x.2 k with h|h|h
   · have :=hb x.2 h x.1 h1;rw[h3] at this;cases this
   · exact h
   · have :=h4 (i,k) hik h;rw[hd] at this;cases this
  simp only[hx]
theorem second_none {α:Type} {same:α→α→Bool} {l:List α} (hb:∀b,b<l.length→∀a,a<b→dupP same l (a,b)=false):Zv same l=(0,false):=by
 unfold Zv;cases e:(pairsL l.length).find? (dupP same l) with
 |none=>rfl
 |some x=>
  obtain⟨h1,h2,h3,h4⟩:=pairs_some e;have :=hb x.2 h2 x.1 h1;rw[h3] at this;cases this
theorem setCells_far:∀(vs:List Value) (o:Nat) {w:World} {g b:Nat} {t:TypeId} {cs:List Value},b≠g→Whole w b t cs→Whole (w.setCells g o vs) b t cs
 |[],_,_,_,_,_,_,_,h=>h
 |v::vs,o,w,g,b,t,cs,hn,h=>setCells_far vs (o+1) hn (h.far (p:=⟨g,o,none⟩) hn v)
theorem sigsR_any {l:Lay} {w:World} (hL:Lies l w):Calls Tryz.prog 61 #[l.val] w fun e w'=>e= .returned (.int .i64 (idxS (Zv sameG l.sigs)))∧Below w.heap.size w w':=by
 obtain⟨Q,HQ,HQb,HQl,hq⟩:=keep_box (Closed.below w) (Below.refl _ w) 29 l.cells;have HQL:Hid (∀W,Q W→Lies l W):=Zz fun W hW=>Lies.closed l _ _ hL (HQb.out W hW);have hn:=hL.nG;clear hL;go_enter Tryz.func61,Tryz.ntmps61;go_wp2_with fail;go_loopw [3] (fun i wr=>∃k:Nat,k≤l.sigs.length∧i= .int .i64 k∧Q wr∧Hid (∀b,b<k→∀a,a<b→dupP sameG l.sigs (a,b)=false)) (fun i _=>l.sigs.length - (intOf i).toNat)
 case atStart=>exact⟨0,by omega,rfl,hq,Zz fun b hb=>by omega⟩
 case round=>
  clear hq;obtain⟨k,hk,rfl,hq,HNO⟩:=hrel;obtain⟨wa,rfl⟩:∃W,W=wr:=⟨wr,rfl⟩;have x1:=(HQl.out _ hq).Za 1 rfl;by_cases hlk:k<l.sigs.length
  · have hlk':(k:Int)<(l.sigs.length:Int):=by omega
    obtain⟨q,hqk⟩:∃q,l.sigs[k]? =some q:=⟨_,List.getElem?_eq_getElem hlk⟩;have HQK:=Zz hqk;clear hqk;go_wp2_with fail;clear x1;go_loopw [4] (fun v wr=>∃i:Nat,i≤k∧v= .int .i64 i∧Q wr∧Hid (∀a,a<i→dupP sameG l.sigs (a,k)=false)) (fun v _=>k - (intOf v).toNat)
    case atStart=>exact⟨0,by omega,rfl,hq,Zz fun a ha=>by omega⟩
    case round=>
     clear hq;obtain⟨i,hi,rfl,hq,HNI⟩:=hrel;by_cases hik:i<k
     · have hik':(i:Int)<(k:Int):=by omega
       have hil:i<l.sigs.length:=by omega
       have hil':(i:Int)<(l.sigs.length:Int):=by omega
       obtain⟨p,hpi⟩:∃p,l.sigs[i]? =some p:=⟨_,List.getElem?_eq_getElem hil⟩;have HPI:=Zz hpi;have HDD:Hid (dupP sameG l.sigs (i,k)=sameG p q):=Zz (dupP_at hpi HQK.out);have HYES:Hid (sameG p q=true→idxS (Zv sameG l.sigs)=(k:Int)):=Zz fun h=>by rw[second_is HNO.out hik hlk (HDD.out.trans h)];rfl
       have HNX:Hid (sameG p q=false→∀a,a<i+1→dupP sameG l.sigs (a,k)=false):=Zz fun h a ha=>by
        by_cases e:a=i
        · rw[e];exact HDD.out.trans h
        · exact HNI.out a (by omega)
       obtain⟨b,off,hA,hC⟩:∃b off,l.Ag=some ⟨b,off,none⟩∧∀W,Q W→W.cell? ⟨b,off+i*2,none⟩=some (.int .i64 p.1)∧W.cell? ⟨b,off+i*2+1,none⟩=some (.int .i64 p.2)∧W.cell? ⟨b,off+k*2,none⟩=some (.int .i64 q.1)∧W.cell? ⟨b,off+k*2+1,none⟩=some (.int .i64 q.2):=by
        obtain⟨b,off,hA,_,hc0,hc⟩:=(HQL.out _ hq).sigs.nth (n:=2) (fun _=>rfl) (by omega) hpi;refine⟨b,off,hA,fun W hW=>?_⟩;obtain⟨b',off',hA',_,hc0,hc⟩:=(HQL.out _ hW).sigs.nth (n:=2) (fun _=>rfl) (by omega) hpi;rw[hA] at hA';cases hA';exact⟨hc0 i _ _ HPI.out rfl,hc i _ 1 _ HPI.out rfl,hc0 k _ _ HQK.out rfl,hc k _ 1 _ HQK.out rfl⟩
       have HA:=Zz hA;have HC:=Zz hC;clear hpi hA hC HNI;go_upto_region 7 with (fail)
       by_cases he:p.1=q.1∧p.2=q.2
       · have HS:Hid (sameG p q=true):=Zz (by unfold sameG;rw[he.1,he.2];simp);obtain⟨he1,he2⟩:=he;rw[he1,he2] at HC;clear he1 he2;have HBS:Hid (∀W,Below wr.heap.size wr W→Q W):=Zz (fun W hB=>HQ.out _ _ hq hB);clear hq;refine rmx wr f13 (by kernel_rfl) (by kernel_rfl) ?_;simp only[Zg,f13,Lm,Ln];repeat ((first|(refine Zb (by rfl) ?_)|(refine mrd HBS _ (by rfl) (fun W hW=>by(have x1:=(HQl.out W hW).Za 1 rfl;obtain⟨c0,c1,c2,c3⟩:=HC.out W hW;go_simp;first|done|with_reducible rfl)) ?_)|(refine mrd HBS _ (by rfl) (fun W hW=>by(have x1:=(HQl.out W hW).Za 1 rfl;obtain⟨c0,c1,c2,c3⟩:=HC.out W hW;rw[HA.out];go_simp;first|done|with_reducible rfl)) ?_));simp only[Act.put,La,Lb,Lc])
         refine Zd (fun W hW=>?_);have hq:=HBS.out W hW;clear hW HBS;go_wp2_with fail;go_ret;exact⟨ret_int (HYES.out HS.out).symm,HQb.out _ hq⟩
       · have HS:Hid (sameG p q=false):=Zz (by unfold sameG;rw[Bool.eq_false_iff];intro h;simp only[Bool.and_eq_true,beq_iff_eq] at h;exact he h);have H1:Hid (p.1=q.1→¬p.2=q.2):=Zz fun e f=>he ⟨e,f⟩;clear he;have HBS:Hid (∀W,Below wr.heap.size wr W→Q W):=Zz (fun W hB=>HQ.out _ _ hq hB);clear hq;refine rmx wr f13 (by kernel_rfl) (by kernel_rfl) ?_;simp only[Zg,f13,Lm,Ln];repeat ((first|(refine Zb (by rfl) ?_)|(refine mrd HBS (.bool false) (by rfl) (fun W hW=>by(have x1:=(HQl.out W hW).Za 1 rfl;obtain⟨c0,c1,c2,c3⟩:=HC.out W hW;have d1:=H1.out;go_simp;first|done|exact d1)) ?_)|(refine mrd HBS _ (by rfl) (fun W hW=>by(have x1:=(HQl.out W hW).Za 1 rfl;obtain⟨c0,c1,c2,c3⟩:=HC.out W hW;have d1:=H1.out;go_simp;first|done|with_reducible rfl)) ?_)|(refine mrd HBS _ (by rfl) (fun W hW=>by(have x1:=(HQl.out W hW).Za 1 rfl;obtain⟨c0,c1,c2,c3⟩:=HC.out W hW;have d1:=H1.out;rw[HA.out];go_simp;first|done|with_reducible rfl)) ?_));simp only[Act.put,La,Lb,Lc])
         refine Zd (fun W hW=>?_);have hq:=HBS.out W hW;clear hW HBS;go_wp2_with fail;go_roundw
         case rel=>exact⟨i+1,by omega,by go_num,hq,Zz (HNX.out HS.out)⟩
         case measure=>simp[intOf];omega
     · obtain rfl:i=k:=by omega
       have HN2:Hid (∀b,b<i+1→∀a,a<b→dupP sameG l.sigs (a,b)=false):=Zz fun b hb a ha=>by
        by_cases e:b=i
        · subst e;exact HNI.out a ha
        · exact HNO.out b (by omega) a ha
       go_wp2_with fail;go_roundw
       case rel=>exact⟨i+1,hlk,by go_num,hq,HN2⟩
       case measure=>simp[intOf];omega
  · obtain rfl:k=l.sigs.length:=by omega
    have HV:Hid (idxS (Zv sameG l.sigs)= -1):=Zz (by rw[second_none HNO.out];rfl);go_wp2_with fail;go_ret;exact⟨ret_int HV.out.symm,HQb.out _ hq⟩
theorem exitsR_any {l:Lay} {w:World} (hL:Lies l w):Calls Tryz.prog 62 #[l.val] w fun e w'=>e= .returned (.int .i64 (idxS (Zv sameE l.exits)))∧Below w.heap.size w w':=by
 obtain⟨Q,HQ,HQb,HQl,hq⟩:=keep_box (Closed.below w) (Below.refl _ w) 29 l.cells;have HQL:Hid (∀W,Q W→Lies l W):=Zz fun W hW=>Lies.closed l _ _ hL (HQb.out W hW);have hn:=hL.nE;clear hL;go_enter Tryz.func62,Tryz.ntmps62;go_wp2_with fail;go_loopw [3] (fun i wr=>∃k:Nat,k≤l.exits.length∧i= .int .i64 k∧Q wr∧Hid (∀b,b<k→∀a,a<b→dupP sameE l.exits (a,b)=false)) (fun i _=>l.exits.length - (intOf i).toNat)
 case atStart=>exact⟨0,by omega,rfl,hq,Zz fun b hb=>by omega⟩
 case round=>
  clear hq;obtain⟨k,hk,rfl,hq,HNO⟩:=hrel;obtain⟨wa,rfl⟩:∃W,W=wr:=⟨wr,rfl⟩;have x1:=(HQl.out _ hq).Za 2 rfl;by_cases hlk:k<l.exits.length
  · have hlk':(k:Int)<(l.exits.length:Int):=by omega
    obtain⟨q,hqk⟩:∃q,l.exits[k]? =some q:=⟨_,List.getElem?_eq_getElem hlk⟩;have HQK:=Zz hqk;clear hqk;go_wp2_with fail;clear x1;go_loopw [4] (fun v wr=>∃i:Nat,i≤k∧v= .int .i64 i∧Q wr∧Hid (∀a,a<i→dupP sameE l.exits (a,k)=false)) (fun v _=>k - (intOf v).toNat)
    case atStart=>exact⟨0,by omega,rfl,hq,Zz fun a ha=>by omega⟩
    case round=>
     clear hq;obtain⟨i,hi,rfl,hq,HNI⟩:=hrel;by_cases hik:i<k
     · have hik':(i:Int)<(k:Int):=by omega
       have hil:i<l.exits.length:=by omega
       have hil':(i:Int)<(l.exits.length:Int):=by omega
       obtain⟨p,hpi⟩:∃p,l.exits[i]? =some p:=⟨_,List.getElem?_eq_getElem hil⟩;have HPI:=Zz hpi;have HDD:Hid (dupP sameE l.exits (i,k)=sameE p q):=Zz (dupP_at hpi HQK.out);have HYES:Hid (sameE p q=true→idxS (Zv sameE l.exits)=(k:Int)):=Zz fun h=>by rw[second_is HNO.out hik hlk (HDD.out.trans h)];rfl
       have HNX:Hid (sameE p q=false→∀a,a<i+1→dupP sameE l.exits (a,k)=false):=Zz fun h a ha=>by
        by_cases e:a=i
        · rw[e];exact HDD.out.trans h
        · exact HNI.out a (by omega)
       obtain⟨b,off,hA,hC⟩:∃b off,l.Ae=some ⟨b,off,none⟩∧∀W,Q W→W.cell? ⟨b,off+i*3,none⟩=some (.int .i64 p.s)∧W.cell? ⟨b,off+i*3+1,none⟩=some (.int .i64 p.q)∧W.cell? ⟨b,off+k*3,none⟩=some (.int .i64 q.s)∧W.cell? ⟨b,off+k*3+1,none⟩=some (.int .i64 q.q):=by
        obtain⟨b,off,hA,_,hc0,hc⟩:=(HQL.out _ hq).exits.nth (n:=3) (fun _=>rfl) (by omega) hpi;refine⟨b,off,hA,fun W hW=>?_⟩;obtain⟨b',off',hA',_,hc0,hc⟩:=(HQL.out _ hW).exits.nth (n:=3) (fun _=>rfl) (by omega) hpi;rw[hA] at hA';cases hA';exact⟨hc0 i _ _ HPI.out rfl,hc i _ 1 _ HPI.out rfl,hc0 k _ _ HQK.out rfl,hc k _ 1 _ HQK.out rfl⟩
       have HA:=Zz hA;have HC:=Zz hC;clear hpi hA hC HNI;go_upto_region 7 with (fail)
       by_cases he:p.s=q.s∧p.q=q.q
       · have HS:Hid (sameE p q=true):=Zz (by unfold sameE;rw[he.1,he.2];simp);obtain⟨he1,he2⟩:=he;rw[he1,he2] at HC;clear he1 he2;have HBS:Hid (∀W,Below wr.heap.size wr W→Q W):=Zz (fun W hB=>HQ.out _ _ hq hB);clear hq;refine rmx wr f13 (by kernel_rfl) (by kernel_rfl) ?_;simp only[Zg,f13,Lm,Ln];repeat ((first|(refine Zb (by rfl) ?_)|(refine mrd HBS _ (by rfl) (fun W hW=>by(have x1:=(HQl.out W hW).Za 2 rfl;obtain⟨c0,c1,c2,c3⟩:=HC.out W hW;go_simp;first|done|with_reducible rfl)) ?_)|(refine mrd HBS _ (by rfl) (fun W hW=>by(have x1:=(HQl.out W hW).Za 2 rfl;obtain⟨c0,c1,c2,c3⟩:=HC.out W hW;rw[HA.out];go_simp;first|done|with_reducible rfl)) ?_));simp only[Act.put,La,Lb,Lc])
         refine Zd (fun W hW=>?_);have hq:=HBS.out W hW;clear hW HBS;go_wp2_with fail;go_ret;exact⟨ret_int (HYES.out HS.out).symm,HQb.out _ hq⟩
       · have HS:Hid (sameE p q=false):=Zz (by unfold sameE;rw[Bool.eq_false_iff];intro h;simp only[Bool.and_eq_true,beq_iff_eq] at h;exact he h);have H1:Hid (p.s=q.s→¬p.q=q.q):=Zz fun e f=>he ⟨e,f⟩;clear he;have HBS:Hid (∀W,Below wr.heap.size wr W→Q W):=Zz (fun W hB=>HQ.out _ _ hq hB);clear hq;refine rmx wr f13 (by kernel_rfl) (by kernel_rfl) ?_;simp only[Zg,f13,Lm,Ln];repeat ((first|(refine Zb (by rfl) ?_)|(refine mrd HBS (.bool false) (by rfl) (fun W hW=>by(have x1:=(HQl.out W hW).Za 2 rfl;obtain⟨c0,c1,c2,c3⟩:=HC.out W hW;have d1:=H1.out;go_simp;first|done|exact d1)) ?_)|(refine mrd HBS _ (by rfl) (fun W hW=>by(have x1:=(HQl.out W hW).Za 2 rfl;obtain⟨c0,c1,c2,c3⟩:=HC.out W hW;have d1:=H1.out;go_simp;first|done|with_reducible rfl)) ?_)|(refine mrd HBS _ (by rfl) (fun W hW=>by(have x1:=(HQl.out W hW).Za 2 rfl;obtain⟨c0,c1,c2,c3⟩:=HC.out W hW;have d1:=H1.out;rw[HA.out];go_simp;first|done|with_reducible rfl)) ?_));simp only[Act.put,La,Lb,Lc])
         refine Zd (fun W hW=>?_);have hq:=HBS.out W hW;clear hW HBS;go_wp2_with fail;go_roundw
         case rel=>exact⟨i+1,by omega,by go_num,hq,Zz (HNX.out HS.out)⟩
         case measure=>simp[intOf];omega
     · obtain rfl:i=k:=by omega
       have HN2:Hid (∀b,b<i+1→∀a,a<b→dupP sameE l.exits (a,b)=false):=Zz fun b hb a ha=>by
        by_cases e:b=i
        · subst e;exact HNI.out a ha
        · exact HNO.out b (by omega) a ha
       go_wp2_with fail;go_roundw
       case rel=>exact⟨i+1,hlk,by go_num,hq,HN2⟩
       case measure=>simp[intOf];omega
  · obtain rfl:k=l.exits.length:=by omega
    have HV:Hid (idxS (Zv sameE l.exits)= -1):=Zz (by rw[second_none HNO.out];rfl);go_wp2_with fail;go_ret;exact⟨ret_int HV.out.symm,HQb.out _ hq⟩
theorem flanksR_any {l:Lay} {w:World} (hL:Lies l w):Calls Tryz.prog 64 #[l.val] w fun e w'=>e= .returned (.int .i64 (idxS (Zv sameF l.flanks)))∧Below w.heap.size w w':=by
 obtain⟨Q,HQ,HQb,HQl,hq⟩:=keep_box (Closed.below w) (Below.refl _ w) 29 l.cells;have HQL:Hid (∀W,Q W→Lies l W):=Zz fun W hW=>Lies.closed l _ _ hL (HQb.out W hW);have hn:=hL.nF;clear hL;go_enter Tryz.func64,Tryz.ntmps64;go_wp2_with fail;go_loopw [3] (fun i wr=>∃k:Nat,k≤l.flanks.length∧i= .int .i64 k∧Q wr∧Hid (∀b,b<k→∀a,a<b→dupP sameF l.flanks (a,b)=false)) (fun i _=>l.flanks.length - (intOf i).toNat)
 case atStart=>exact⟨0,by omega,rfl,hq,Zz fun b hb=>by omega⟩
 case round=>
  clear hq;obtain⟨k,hk,rfl,hq,HNO⟩:=hrel;obtain⟨wa,rfl⟩:∃W,W=wr:=⟨wr,rfl⟩;have x1:=(HQl.out _ hq).Za 3 rfl;by_cases hlk:k<l.flanks.length
  · have hlk':(k:Int)<(l.flanks.length:Int):=by omega
    obtain⟨q,hqk⟩:∃q,l.flanks[k]? =some q:=⟨_,List.getElem?_eq_getElem hlk⟩;have HQK:=Zz hqk;clear hqk;go_wp2_with fail;clear x1;go_loopw [4] (fun v wr=>∃i:Nat,i≤k∧v= .int .i64 i∧Q wr∧Hid (∀a,a<i→dupP sameF l.flanks (a,k)=false)) (fun v _=>k - (intOf v).toNat)
    case atStart=>exact⟨0,by omega,rfl,hq,Zz fun a ha=>by omega⟩
    case round=>
     clear hq;obtain⟨i,hi,rfl,hq,HNI⟩:=hrel;by_cases hik:i<k
     · have hik':(i:Int)<(k:Int):=by omega
       have hil:i<l.flanks.length:=by omega
       have hil':(i:Int)<(l.flanks.length:Int):=by omega
       obtain⟨p,hpi⟩:∃p,l.flanks[i]? =some p:=⟨_,List.getElem?_eq_getElem hil⟩;have HPI:=Zz hpi;have HDD:Hid (dupP sameF l.flanks (i,k)=sameF p q):=Zz (dupP_at hpi HQK.out);have HYES:Hid (sameF p q=true→idxS (Zv sameF l.flanks)=(k:Int)):=Zz fun h=>by rw[second_is HNO.out hik hlk (HDD.out.trans h)];rfl
       have HNX:Hid (sameF p q=false→∀a,a<i+1→dupP sameF l.flanks (a,k)=false):=Zz fun h a ha=>by
        by_cases e:a=i
        · rw[e];exact HDD.out.trans h
        · exact HNI.out a (by omega)
       obtain⟨b,off,hA,hC⟩:∃b off,l.Af=some ⟨b,off,none⟩∧∀W,Q W→W.cell? ⟨b,off+i*4,none⟩=some (.int .i64 p.1)∧W.cell? ⟨b,off+i*4+1,none⟩=some (.int .i64 p.2.1)∧W.cell? ⟨b,off+i*4+2,none⟩=some (.int .i64 p.2.2.1)∧W.cell? ⟨b,off+i*4+3,none⟩=some (.int .i64 p.2.2.2)∧W.cell? ⟨b,off+k*4,none⟩=some (.int .i64 q.1)∧W.cell? ⟨b,off+k*4+1,none⟩=some (.int .i64 q.2.1)∧W.cell? ⟨b,off+k*4+2,none⟩=some (.int .i64 q.2.2.1)∧W.cell? ⟨b,off+k*4+3,none⟩=some (.int .i64 q.2.2.2):=by
        obtain⟨b,off,hA,_,hc0,hc⟩:=(HQL.out _ hq).flanks.nth (n:=4) (fun _=>rfl) (by omega) hpi;refine⟨b,off,hA,fun W hW=>?_⟩;obtain⟨b',off',hA',_,hc0,hc⟩:=(HQL.out _ hW).flanks.nth (n:=4) (fun _=>rfl) (by omega) hpi;rw[hA] at hA';cases hA';exact⟨hc0 i _ _ HPI.out rfl,hc i _ 1 _ HPI.out rfl,hc i _ 2 _ HPI.out rfl,hc i _ 3 _ HPI.out rfl,hc0 k _ _ HQK.out rfl,hc k _ 1 _ HQK.out rfl,hc k _ 2 _ HQK.out rfl,hc k _ 3 _ HQK.out rfl⟩
       have HA:=Zz hA;have HC:=Zz hC;clear hpi hA hC HNI;go_upto_region 7 with (fail)
       go_cut [5,6] from 19 to 28 (fun u v wx=>∃ga gb,u= .pointer (some ⟨ga,0,none⟩)∧v= .pointer (some ⟨gb,0,none⟩)∧Hid (Below wr.heap.size wr wx∧Whole wx ga 136 [.int .i64 p.1,.int .i64 p.2.1,.int .i64 p.2.2.1,.int .i64 p.2.2.2]∧Whole wx gb 136 [.int .i64 q.1,.int .i64 q.2.1,.int .i64 q.2.2.1,.int .i64 q.2.2.2]))
       case first=>
        have HBS:Hid (∀W,Below wr.heap.size wr W→Q W):=Zz (fun W hB=>HQ.out _ _ hq hB);clear hq;refine region_tree (fun W=>Below wr.heap.size wr W) (.fork [(0,false),(1,false),(2,false),(3,false),(4,false),(5,false),(6,false),(7,false),(8,false),(9,false)] 10 11 (.last [(11,true),(12,true),(13,true)]) (.last [(10,true),(12,true),(13,true)])) (by kernel_rfl) (by kernel_rfl) (fun W=>Below wr.heap.size wr W) ⟨Closed.below wr,fun _ h=>h⟩ (Below.refl _ _).drew ?_;simp only[wpTree,Zg,Lm,Ln];repeat ((first|(refine Zb (by rfl) ?_)|(refine Zn _ (by rfl) (fun W hW=>by(have x1:=(HQl.out W (HBS.out W hW)).Za 3 rfl;obtain⟨c0,c1,c2,c3,c4,c5,c6,c7⟩:=HC.out W (HBS.out W hW);go_simp;first|done|with_reducible rfl)) ?_)|(refine Zn _ (by rfl) (fun W hW=>by(have x1:=(HQl.out W (HBS.out W hW)).Za 3 rfl;obtain⟨c0,c1,c2,c3,c4,c5,c6,c7⟩:=HC.out W (HBS.out W hW);rw[HA.out];go_simp;first|done|with_reducible rfl)) ?_));simp only[Act.put,La,Lb,Lc])
        refine Zd (fun hF=>⟨?_,?_⟩)
        · refine mix_alloc (wr.heap.size) 136 [.int .i64 0,.int .i64 0,.int .i64 0,.int .i64 0] ⟨Closed.below wr,fun _ h=>h⟩ (fun _ h=>h.size) (by rfl) (fun W hW=>by(clear hW;go_simp;first|done|with_reducible rfl)) (fun ga hga=>?_);simp only[Act.put,La,Lb,Lc];refine Zd ?_;refine mix_alloc (ga+1) 136 [.int .i64 0,.int .i64 0,.int .i64 0,.int .i64 0] ⟨(Closed.below wr).and (Closed.whole _ _ _),fun _ h=>h.1⟩ (fun _ h=>h.2.lt) (by rfl) (fun W hW=>by(clear hW;go_simp;first|done|with_reducible rfl)) (fun gb hgb=>?_);simp only[Act.put,La,Lb,Lc];refine mix_within 136 (.tmp 5) (.tmp 23) ga 0 [.int .i64 p.1,.int .i64 p.2.1,.int .i64 p.2.2.1,.int .i64 p.2.2.2] (fun W=>(Below wr.heap.size wr W∧Whole W ga 136 [.int .i64 p.1,.int .i64 p.2.1,.int .i64 p.2.2.1,.int .i64 p.2.2.2])∧Whole W gb 136 [.int .i64 0,.int .i64 0,.int .i64 0,.int .i64 0]) ⟨((Closed.below wr).and (Closed.whole _ _ _)).and (Closed.whole _ _ _),fun _ h=>h.1.1⟩ rfl (by rfl) (by rfl) (by kernel_rfl) (by rfl) (by rfl) (fun W hW=>hW.1.2.there) (fun W hW=>⟨⟨(setCells_below _ _ hW.1.1 (by omega)),setCells_whole _ [] [.int .i64 0,.int .i64 0,.int .i64 0,.int .i64 0] rfl hW.1.2⟩,setCells_far _ _ (by omega) hW.2⟩) ?_;simp only[Act.put,La,Lb,Lc];refine mix_within 136 (.tmp 6) (.tmp 28) gb 0 [.int .i64 q.1,.int .i64 q.2.1,.int .i64 q.2.2.1,.int .i64 q.2.2.2] (fun W=>(Below wr.heap.size wr W∧Whole W ga 136 [.int .i64 p.1,.int .i64 p.2.1,.int .i64 p.2.2.1,.int .i64 p.2.2.2])∧Whole W gb 136 [.int .i64 q.1,.int .i64 q.2.1,.int .i64 q.2.2.1,.int .i64 q.2.2.2]) ⟨((Closed.below wr).and (Closed.whole _ _ _)).and (Closed.whole _ _ _),fun _ h=>h.1.1⟩ rfl (by rfl) (by rfl) (by kernel_rfl) (by rfl) (by rfl) (fun W hW=>hW.2.there) (fun W hW=>⟨⟨(setCells_below _ _ hW.1.1 (by omega)),setCells_far _ _ (by omega) hW.1.2⟩,setCells_whole _ [] [.int .i64 0,.int .i64 0,.int .i64 0,.int .i64 0] rfl hW.2⟩) ?_;simp only[Act.put,La,Lb,Lc];refine Zd (fun W hW=>?_);have HW:=Zz hW;clear hW;go_wp2_with fail;go_meet
          exact⟨ga,gb,rfl,rfl,Zz ⟨HW.out.1.1,HW.out.1.2,HW.out.2⟩⟩
        · refine mix_alloc (wr.heap.size) 136 [.int .i64 0,.int .i64 0,.int .i64 0,.int .i64 0] ⟨Closed.below wr,fun _ h=>h⟩ (fun _ h=>h.size) (by rfl) (fun W hW=>by(clear hW;go_simp;first|done|with_reducible rfl)) (fun gb hgb=>?_);simp only[Act.put,La,Lb,Lc];refine Zd ?_;refine mix_alloc (gb+1) 136 [.int .i64 0,.int .i64 0,.int .i64 0,.int .i64 0] ⟨(Closed.below wr).and (Closed.whole _ _ _),fun _ h=>h.1⟩ (fun _ h=>h.2.lt) (by rfl) (fun W hW=>by(clear hW;go_simp;first|done|with_reducible rfl)) (fun ga hga=>?_);simp only[Act.put,La,Lb,Lc];refine mix_within 136 (.tmp 5) (.tmp 23) ga 0 [.int .i64 p.1,.int .i64 p.2.1,.int .i64 p.2.2.1,.int .i64 p.2.2.2] (fun W=>(Below wr.heap.size wr W∧Whole W gb 136 [.int .i64 0,.int .i64 0,.int .i64 0,.int .i64 0])∧Whole W ga 136 [.int .i64 p.1,.int .i64 p.2.1,.int .i64 p.2.2.1,.int .i64 p.2.2.2]) ⟨((Closed.below wr).and (Closed.whole _ _ _)).and (Closed.whole _ _ _),fun _ h=>h.1.1⟩ rfl (by rfl) (by rfl) (by kernel_rfl) (by rfl) (by rfl) (fun W hW=>hW.2.there) (fun W hW=>⟨⟨(setCells_below _ _ hW.1.1 (by omega)),setCells_far _ _ (by omega) hW.1.2⟩,setCells_whole _ [] [.int .i64 0,.int .i64 0,.int .i64 0,.int .i64 0] rfl hW.2⟩) ?_;simp only[Act.put,La,Lb,Lc];refine mix_within 136 (.tmp 6) (.tmp 28) gb 0 [.int .i64 q.1,.int .i64 q.2.1,.int .i64 q.2.2.1,.int .i64 q.2.2.2] (fun W=>(Below wr.heap.size wr W∧Whole W gb 136 [.int .i64 q.1,.int .i64 q.2.1,.int .i64 q.2.2.1,.int .i64 q.2.2.2])∧Whole W ga 136 [.int .i64 p.1,.int .i64 p.2.1,.int .i64 p.2.2.1,.int .i64 p.2.2.2]) ⟨((Closed.below wr).and (Closed.whole _ _ _)).and (Closed.whole _ _ _),fun _ h=>h.1.1⟩ rfl (by rfl) (by rfl) (by kernel_rfl) (by rfl) (by rfl) (fun W hW=>hW.1.2.there) (fun W hW=>⟨⟨(setCells_below _ _ hW.1.1 (by omega)),setCells_whole _ [] [.int .i64 0,.int .i64 0,.int .i64 0,.int .i64 0] rfl hW.1.2⟩,setCells_far _ _ (by omega) hW.2⟩) ?_;simp only[Act.put,La,Lb,Lc];refine Zd (fun W hW=>?_);have HW:=Zz hW;clear hW;go_wp2_with fail;go_meet
          exact⟨ga,gb,rfl,rfl,Zz ⟨HW.out.1.1,HW.out.2,HW.out.1.2⟩⟩
       case rest=>
        obtain⟨ga,gb,rfl,rfl,HW⟩:=hcut;have hq:=HQ.out _ _ hq HW.out.1;have u0:=HW.out.2.1.Za 0 rfl;have u1:=HW.out.2.1.Za 1 rfl;have u2:=HW.out.2.1.Za 2 rfl;have v0:=HW.out.2.2.Za 0 rfl;have v1:=HW.out.2.2.Za 1 rfl;have v2:=HW.out.2.2.Za 2 rfl;clear HW;by_cases e1:p.1=q.1
        · by_cases e2:p.2.1=q.2.1
          · by_cases e3:p.2.2.1=q.2.2.1
            · have HS:Hid (sameF p q=true):=Zz (by unfold sameF;rw[decide_eq_true e1,decide_eq_true e2,decide_eq_true e3];rfl);go_wp2_with fail;go_ret;exact⟨ret_int (HYES.out HS.out).symm,HQb.out _ hq⟩
            · have HS:Hid (sameF p q=false):=Zz (by unfold sameF;rw[decide_eq_false e3];simp);go_wp2_with fail;go_roundw
              case rel=>exact⟨i+1,by omega,by go_num,hq,Zz (HNX.out HS.out)⟩
              case measure=>simp[intOf];omega
          · have HS:Hid (sameF p q=false):=Zz (by unfold sameF;rw[decide_eq_false e2];simp);go_wp2_with fail;go_roundw
            case rel=>exact⟨i+1,by omega,by go_num,hq,Zz (HNX.out HS.out)⟩
            case measure=>simp[intOf];omega
        · have HS:Hid (sameF p q=false):=Zz (by unfold sameF;rw[decide_eq_false e1];rfl);go_wp2_with fail;go_roundw
          case rel=>exact⟨i+1,by omega,by go_num,hq,Zz (HNX.out HS.out)⟩
          case measure=>simp[intOf];omega
     · obtain rfl:i=k:=by omega
       have HN2:Hid (∀b,b<i+1→∀a,a<b→dupP sameF l.flanks (a,b)=false):=Zz fun b hb a ha=>by
        by_cases e:b=i
        · subst e;exact HNI.out a ha
        · exact HNO.out b (by omega) a ha
       go_wp2_with fail;go_roundw
       case rel=>exact⟨i+1,hlk,by go_num,hq,HN2⟩
       case measure=>simp[intOf];omega
  · obtain rfl:k=l.flanks.length:=by omega
    have HV:Hid (idxS (Zv sameF l.flanks)= -1):=Zz (by rw[second_none HNO.out];rfl);go_wp2_with fail;go_ret;exact⟨ret_int HV.out.symm,HQb.out _ hq⟩
theorem seen_next {α:Type} (f:α→Int) (a:Int) (r:List α) (k:Nat) (s:α) (h:r[k]? =some s):(a::(r.take k).map f)++[f s]=a::(r.take (k+1)).map f:=by
 rw[List.take_add_one,h,List.map_append];rfl
theorem overR_any {l:Lay} {w:World} (x:Int) (hL:Lies l w) {r:Bool} (hr:overT l x=r):Calls Tryz.prog 94 #[l.val,.int .i64 x] w fun e w'=>e= .returned (.bool r)∧Below w.heap.size w w':=by
 obtain⟨Q,HQ,HQb,HQl,hq⟩:=keep_box (Closed.below w) (Below.refl _ w) 29 l.cells;have HQL:Hid (∀W,Q W→Lies l W):=Zz fun W hW=>Lies.closed l _ _ hL (HQb.out W hW);obtain⟨rv,hrv⟩:∃rv,rightL l=rv:=⟨_,rfl⟩;have KR:=Zz (fun W hW=>keepR HQ.out (rightR_B (w:=W) (HQL.out W hW) hrv) hW);have HRV:=Zz hrv;have HR:=Zz hr;clear hL hrv hr;go_enter Tryz.func94,Tryz.ntmps94;obtain⟨x0,x1,x2,x3,x4,x5,x6,x7,x8,x9,x10⟩:=(HQl.out _ hq).c11;go_wp2_with fail;refine(KR.out _ hq).mono ?_;clear hq x0 x1 x2 x3 x4 x5 x6 x7 x8 x9 x10;rintro e w1 ⟨rfl,hq⟩;cases rv
 · have HF:Hid (false=r):=Zz (by rw[←HR.out];unfold overT;rw[HRV.out];rfl);go_wp2_with fail;go_ret;exact⟨Zc HF.out,HQb.out _ hq⟩
 by_cases h0:x<0
 · have HF:Hid (false=r):=Zz (by rw[←HR.out];unfold overT;rw[decide_eq_false (show ¬0≤x by omega)];simp);have x2:=(HQl.out _ hq).Za 2 rfl;go_wp2_with fail;go_ret;exact⟨Zc HF.out,HQb.out _ hq⟩
 obtain⟨j,rfl⟩:∃j:Nat,x=j:=⟨x.toNat,by omega⟩;by_cases hlt:j<l.exits.length
 rotate_left
 · have hge:l.exits.length≤j:=by omega
   have HF:Hid (false=r):=Zz (by rw[←HR.out];unfold overT;rw[Int.toNat_natCast,List.getElem?_eq_none hge];simp);have x2:=(HQl.out _ hq).Za 2 rfl;go_wp2_with fail;go_ret;exact⟨Zc HF.out,HQb.out _ hq⟩
 have hlt':(j:Int)<(l.exits.length:Int):=by omega
 clear h0;obtain⟨e,he⟩:∃e,l.exits[j]? =some e:=⟨_,List.getElem?_eq_getElem hlt⟩;have hMem:=List.mem_of_getElem? he;have HOV:Hid (overV l e=r):=Zz (by rw[←HR.out];unfold overT;rw[HRV.out,decide_eq_true (show(0:Int)≤(j:Int) by omega),Int.toNat_natCast,he];rfl);have HOL:Hid (e.over.length≤2):=Zz ((own_lens HRV.out).2.2.2.2 e hMem);have HOR:Hid (∀W,Q W→Row W W.heap.size e.A (e.over.flatMap Ze)):=Zz (fun W hW=>(HQL.out W hW).overs e hMem);have HC:Hid (∃b off,l.Ae=some ⟨b,off,none⟩∧∀W,Q W→W.cell? ⟨b,off+j*3,none⟩=some (.int .i64 e.s)∧W.cell? ⟨b,off+j*3+1,none⟩=some (.int .i64 e.q)∧W.cell? ⟨b,off+j*3+2,none⟩=some (.slice e.A e.over.length e.c)):=Zz (by
  obtain⟨b,off,hA,_,hc0,hc⟩:=(HQL.out _ hq).exits.nth (n:=3) (fun _=>rfl) (by omega) he;refine⟨b,off,hA,fun W hW=>?_⟩;obtain⟨b',off',hA',_,hc0,hc⟩:=(HQL.out _ hW).exits.nth (n:=3) (fun _=>rfl) (by omega) he;rw[hA] at hA';cases hA';exact⟨hc0 j _ _ he rfl,hc j _ 1 _ he rfl,hc j _ 2 _ he rfl⟩);clear he hMem;obtain⟨b,off,hA,hC⟩:=HC.out;have HA:=Zz hA;have HCC:=Zz hC;have x2:=(HQl.out _ hq).Za 2 rfl;rw[hA] at x2;clear hA hC HC;obtain⟨c0,c1,c2⟩:=HCC.out _ hq;go_upto_region 4 with (fail)
 rw[decide_eq_false (show ¬l.exits.length≤j by omega),Bool.or_false];clear x2 c0 c1 c2;obtain⟨g,hgg⟩:∃g,w1.heap.size=g:=⟨_,rfl⟩;obtain⟨W2,hW2⟩:∃W2,w1.alloc (.cells #[.int .i64 e.s,.int .i64 e.q] 59)=W2:=⟨_,rfl⟩;have HW2:Hid (Below w1.heap.size w1 W2∧Whole W2 g 59 (Zf (e.s,e.q))):=Zz (by rw[←hW2];exact⟨below1 w1 _,Whole.Zj _ _ (Zf (e.s,e.q)) _ hgg.symm⟩);have HBS:Hid (∀W,Below w1.heap.size w1 W→Q W):=Zz (fun W hB=>HQ.out _ _ hq hB);have hg:w1.heap.size≤g:=by omega
 rw[hW2,hgg];have HGG:=Zz hgg;clear hW2 hgg hq;have hq2:=HBS.out _ HW2.out.1;obtain⟨c0,c1,c2⟩:=HCC.out _ hq2;have x2:=(HQl.out _ hq2).Za 2 rfl;rw[HA.out] at x2;go_wp2_with fail;clear x2 c0 c1 c2 hq2;go_loopw [7] (fun i wr=>∃(k:Nat) (p:Int×Int),k≤e.over.length∧i= .int .i64 k∧Hid ((Below w1.heap.size w1 wr∧Whole wr g 59 (Zf p))∧overGo l p (e.s::(e.over.take k).map (fun s=>s.1)) (e.over.drop k)=r)) (fun i _=>e.over.length - (intOf i).toNat)
 case atStart=>exact⟨0,(e.s,e.q),by omega,rfl,Zz ⟨HW2.out,HOV.out⟩⟩
 case round=>
  clear HW2;obtain⟨k,⟨ps,pq⟩,hk,rfl,HM⟩:=hrel;obtain⟨wa,rfl⟩:∃W,W=wr:=⟨wr,rfl⟩;by_cases hlk:k<e.over.length
  · have hlk':(k:Int)<(e.over.length:Int):=by omega
    obtain⟨⟨ss,si,so⟩,hs⟩:∃s,e.over[k]? =some s:=⟨_,List.getElem?_eq_getElem hlk⟩;have hqa:=HBS.out _ HM.out.1.1;obtain⟨b2,off2,hA2,_,hc0,hc⟩:=(HOR.out _ hqa).nth (n:=3) (fun _=>rfl) (by omega) hs;have HT:Hid (∀W,Q W→∀(i:Nat) (t:Int×Int×Int),e.over[i]? =some t→W.cell? ⟨b2,off2+i*3,none⟩=some (.int .i64 t.1)∧W.cell? ⟨b2,off2+i*3+1,none⟩=some (.int .i64 t.2.1)∧W.cell? ⟨b2,off2+i*3+2,none⟩=some (.int .i64 t.2.2)):=Zz (fun W hW i t ht=>by
     obtain⟨b',off',hA',_,hc0,hc⟩:=(HOR.out _ hW).nth (n:=3) (fun _=>rfl) (by omega) ht;rw[hA2] at hA';cases hA';exact⟨hc0 i _ _ ht rfl,hc i _ 1 _ ht rfl,hc i _ 2 _ ht rfl⟩);have HTK:Hid (∀W,Q W→W.cell? ⟨b2,off2+k*3,none⟩=some (.int .i64 ss)∧W.cell? ⟨b2,off2+k*3+1,none⟩=some (.int .i64 si)∧W.cell? ⟨b2,off2+k*3+2,none⟩=some (.int .i64 so)):=Zz (fun W hW=>HT.out W hW k _ hs);obtain⟨⟨qs,qq⟩,hqv⟩:∃q,Zt l ps pq=q:=⟨_,rfl⟩;have KB:Hid (∀W,Q W→Calls Tryz.prog 41 #[l.val,prtV ps pq] W fun e w'=>e= .returned (prtV qs qq)∧Below W.heap.size W w'):=Zz (fun W hW=>beyondJ_B (w:=W) (HQL.out W hW) ps pq hqv);have HGO:Hid ((decide ((qs,qq)=(ss,si))&&(!((e.s::(e.over.take k).map (fun s=>s.1)).contains ss)&&overGo l (ss,so) (e.s::(e.over.take (k+1)).map (fun s=>s.1)) (e.over.drop (k+1))))=r):=Zz (by
     rw[←HM.out.2,drop_at hs];conv=>rhs;unfold overGo
     rw[hqv,←seen_next (fun s:Int×Int×Int=>s.1) e.s e.over k _ hs]);have HS:=Zz hs;clear hs hc0 hc hqv;rw[hA2];have HA2:=Zz hA2;clear hA2 hqa;go_upto_region 8 with (fail)
    obtain⟨T,HT1,HTx,ht⟩:∃T:World→Prop,Hid (Closed T)∧Hid (∀W,T W→Below w1.heap.size w1 W∧Whole W g 59 (Zf (ps,pq)))∧T wa:=
     ⟨fun W=>Below w1.heap.size w1 W∧Whole W g 59 (Zf (ps,pq)),Zz ((Closed.below w1).and (Closed.whole _ _ _)),Zz fun _ h=>h,HM.out.1⟩;clear HM;by_cases he:qs=ss∧qq=si
    · obtain⟨rfl,rfl⟩:=he;by_cases hes:qs=e.s
      · have HF:Hid (false=r):=Zz (by rw[←HGO.out,hes];simp);clear HGO;have heq:(qs==e.s)=true:=by rw[hes];simp
        have HB8:Hid (∀W,Below wa.heap.size wa W→T W):=Zz (fun W hB=>HT1.out _ _ ht hB);clear ht;refine rmx wa f30 (by kernel_rfl) (by kernel_rfl) ?_;simp only[Zg,f30,Lm,Ln];repeat ((first|(refine Zb (by rfl) ?_)|(refine mrd HB8 _ (by rfl) (fun W hW=>by(have hh:=HTx.out W hW;have hqq:=HBS.out W hh.1;obtain⟨x0,x1,x2,x3,x4,x5,x6,x7,x8,x9,x10⟩:=(HQl.out W hqq).c11;obtain⟨c0,c1,c2⟩:=HCC.out W hqq;obtain⟨t0,t1,t2⟩:=HTK.out W hqq;have p0:=hh.2.Za 0 rfl;have p1:=hh.2.Za 1 rfl;clear hh hqq;go_simp;first|done|with_reducible rfl)) ?_)|(refine mrd HB8 _ (by rfl) (fun W hW=>by(have hh:=HTx.out W hW;have hqq:=HBS.out W hh.1;obtain⟨x0,x1,x2,x3,x4,x5,x6,x7,x8,x9,x10⟩:=(HQl.out W hqq).c11;obtain⟨c0,c1,c2⟩:=HCC.out W hqq;obtain⟨t0,t1,t2⟩:=HTK.out W hqq;have p0:=hh.2.Za 0 rfl;have p1:=hh.2.Za 1 rfl;clear hh hqq;rw[HA.out];go_simp;first|done|with_reducible rfl)) ?_)|(refine mcl HB8 _ _ _ (by rfl) (fun W hW=>by(have hh:=HTx.out W hW;have hqq:=HBS.out W hh.1;obtain⟨x0,x1,x2,x3,x4,x5,x6,x7,x8,x9,x10⟩:=(HQl.out W hqq).c11;obtain⟨c0,c1,c2⟩:=HCC.out W hqq;obtain⟨t0,t1,t2⟩:=HTK.out W hqq;have p0:=hh.2.Za 0 rfl;have p1:=hh.2.Za 1 rfl;clear hh hqq;go_simp;first|done|rfl)) (fun W hW=>KB.out W (HBS.out W (HTx.out W (HB8.out W hW)).1)) ?_));simp only[Act.put,La,Lb,Lc])
        refine Zd (fun W hW=>?_);have ht:=HB8.out W hW;clear hW HB8;have HB:=Zz (HQb.out _ (HBS.out _ (HTx.out W ht).1));clear ht;go_wp2_with fail;go_ret;exact⟨Zc HF.out,HB.out⟩
      · have heq:(qs==e.s)=false:=beq_false_of_ne hes;have HB8:Hid (∀W,Below wa.heap.size wa W→T W):=Zz (fun W hB=>HT1.out _ _ ht hB);clear ht;refine rmx wa f30 (by kernel_rfl) (by kernel_rfl) ?_;simp only[Zg,f30,Lm,Ln];repeat ((first|(refine Zb (by rfl) ?_)|(refine mrd HB8 _ (by rfl) (fun W hW=>by(have hh:=HTx.out W hW;have hqq:=HBS.out W hh.1;obtain⟨x0,x1,x2,x3,x4,x5,x6,x7,x8,x9,x10⟩:=(HQl.out W hqq).c11;obtain⟨c0,c1,c2⟩:=HCC.out W hqq;obtain⟨t0,t1,t2⟩:=HTK.out W hqq;have p0:=hh.2.Za 0 rfl;have p1:=hh.2.Za 1 rfl;clear hh hqq;go_simp;first|done|with_reducible rfl)) ?_)|(refine mrd HB8 _ (by rfl) (fun W hW=>by(have hh:=HTx.out W hW;have hqq:=HBS.out W hh.1;obtain⟨x0,x1,x2,x3,x4,x5,x6,x7,x8,x9,x10⟩:=(HQl.out W hqq).c11;obtain⟨c0,c1,c2⟩:=HCC.out W hqq;obtain⟨t0,t1,t2⟩:=HTK.out W hqq;have p0:=hh.2.Za 0 rfl;have p1:=hh.2.Za 1 rfl;clear hh hqq;rw[HA.out];go_simp;first|done|with_reducible rfl)) ?_)|(refine mcl HB8 _ _ _ (by rfl) (fun W hW=>by(have hh:=HTx.out W hW;have hqq:=HBS.out W hh.1;obtain⟨x0,x1,x2,x3,x4,x5,x6,x7,x8,x9,x10⟩:=(HQl.out W hqq).c11;obtain⟨c0,c1,c2⟩:=HCC.out W hqq;obtain⟨t0,t1,t2⟩:=HTK.out W hqq;have p0:=hh.2.Za 0 rfl;have p1:=hh.2.Za 1 rfl;clear hh hqq;go_simp;first|done|rfl)) (fun W hW=>KB.out W (HBS.out W (HTx.out W (HB8.out W hW)).1)) ?_));simp only[Act.put,La,Lb,Lc])
        refine Zd (fun W hW=>?_);have ht:=HB8.out W hW;clear hW HB8;have HU:=Zz (HTx.out W ht);clear ht;go_wp2_with fail;clear heq;go_loopw [8] (fun v wr=>∃i:Nat,i≤k∧v= .int .i64 i∧Hid ((Below w1.heap.size w1 wr∧Whole wr g 59 (Zf (ps,pq)))∧∀(a:Nat) (t:Int×Int×Int),a<i→e.over[a]? =some t→t.1≠qs)) (fun v _=>k - (intOf v).toNat)
        case atStart=>exact⟨0,by omega,rfl,Zz ⟨HU.out,fun a t ha=>by omega⟩⟩
        case round=>
         clear HU;obtain⟨i,hi,rfl,HU⟩:=hrel;by_cases hik:i<k
         · have hik':(i:Int)<(k:Int):=by omega
           obtain⟨⟨ts,ti,tu⟩,hti⟩:∃t,e.over[i]? =some t:=⟨_,List.getElem?_eq_getElem (by omega)⟩;have HTI:Hid (∀W,Q W→W.cell? ⟨b2,off2+i*3,none⟩=some (.int .i64 ts)):=Zz (fun W hW=>(HT.out W hW i _ hti).1);have hil:i<e.over.length:=by omega
           have hil':(i:Int)<(e.over.length:Int):=by omega
           have HNN:Hid (ts≠qs→∀(a:Nat) (t:Int×Int×Int),a<i+1→e.over[a]? =some t→t.1≠qs):=Zz fun hne a t ha hat=>by
            by_cases ea:a=i
            · subst ea;rw[hti] at hat;cases hat;exact hne
            · exact HU.out.2 a t (by omega) hat
           have HFF:Hid (ts=qs→false=r):=Zz fun heq=>by
            rw[←HGO.out];have :(e.s::(e.over.take k).map (fun s=>s.1)).contains qs=true:=by
             rw[List.contains_iff_mem];refine List.mem_cons_of_mem _ (List.mem_map.2 ⟨(ts,ti,tu),?_,heq⟩);rw[List.mem_iff_getElem?];exact⟨i,by rw[List.getElem?_take,if_pos hik];exact hti⟩
            rw[this];simp
           obtain⟨V,HV1,HVx,hv⟩:∃V:World→Prop,Hid (Closed V)∧Hid (∀W,V W→Below w1.heap.size w1 W∧Whole W g 59 (Zf (ps,pq)))∧V wr:=
            ⟨fun W=>Below w1.heap.size w1 W∧Whole W g 59 (Zf (ps,pq)),Zz ((Closed.below w1).and (Closed.whole _ _ _)),Zz fun _ h=>h,HU.out.1⟩;clear HU hti;go_upto_region 13 with (fail)
           have HB13:Hid (∀W,Below wr.heap.size wr W→V W):=Zz (fun W hB=>HV1.out _ _ hv hB);clear hv;refine rmx wr f11 (by kernel_rfl) (by kernel_rfl) ?_;simp only[Zg,f11,Lm,Ln];repeat ((first|(refine Zb (by rfl) ?_)|(refine mrd HB13 _ (by rfl) (fun W hW=>by(have hh:=HVx.out W hW;have t0:=HTI.out W (HBS.out W hh.1);have u0:=(HTK.out W (HBS.out W hh.1)).1;clear hh;go_simp;first|done|with_reducible rfl)) ?_));simp only[Act.put,La,Lb,Lc])
           refine Zd (fun W' hW=>?_);have hv:=HB13.out W' hW;clear hW HB13;have HU:=Zz (HVx.out W' hv);clear hv HV1 HVx;by_cases hts:ts=qs
           · have HF:=Zz (HFF.out hts);have htb:(ts==qs)=true:=by rw[hts];simp
             have HB:=Zz (HQb.out _ (HBS.out _ HU.out.1));clear HU;go_wp2_with fail;go_ret;exact⟨Zc HF.out,HB.out⟩
           · have HN2:=Zz (HNN.out hts);have htb:(ts==qs)=false:=beq_false_of_ne hts;have hwi:IntKind.i64.wrap ((i:Int)+1)=(i:Int)+1:=IntWalk.i64_in _ (by have :=HOL.out;omega);go_wp2_with fail;go_roundw
             case rel=>exact⟨i+1,by omega,by go_num,Zz ⟨HU.out,HN2.out⟩⟩
             case measure=>simp[intOf];omega
         · obtain rfl:i=k:=by omega
           have HNX:Hid (overGo l (qs,so) (e.s::(e.over.take (i+1)).map (fun s=>s.1)) (e.over.drop (i+1))=r):=Zz (by
            rw[←HGO.out];have :(e.s::(e.over.take i).map (fun s=>s.1)).contains qs=false:=by
             rw[Bool.eq_false_iff];intro hc;rw[List.contains_iff_mem] at hc;rcases List.mem_cons.1 hc with h|h
             · exact hes h
             · obtain⟨t,ht,hte⟩:=List.mem_map.1 h;obtain⟨a,hat⟩:=List.mem_iff_getElem?.1 ht;rw[List.getElem?_take] at hat;split at hat
               · exact HU.out.2 a t (by assumption) hat hte
               · cases hat
            rw[this];simp);have HU1:=Zz HU.out.1;clear HU HGO;go_upto_region 15 with (fail)
           refine region_mix (fun W=>Below w1.heap.size w1 W) [(0,false),(1,false),(2,false),(3,false),(4,false),(5,false),(6,false),(7,false),(8,false),(9,false),(10,false),(11,true)] (by kernel_rfl) (by kernel_rfl) (fun W=>Below w1.heap.size w1 W∧Whole W g 59 (Zf (ps,pq))) ⟨(Closed.below w1).and (Closed.whole _ _ _),fun _ h=>h.1⟩ ⟨HU1.out.1.drew,HU1.out.2⟩ ?_;simp only[Zg,Lm,Ln];repeat ((first|(refine Zb (by rfl) ?_)|(refine Zn _ (by rfl) (fun W hW=>by(obtain⟨t0,t1,t2⟩:=HTK.out W (HBS.out W hW);clear hW;go_simp;first|done|with_reducible rfl)) ?_));simp only[Act.put,La,Lb,Lc])
           refine mix_within 59 (.tmp 5) (.tmp 97) g 0 [.int .i64 qs,.int .i64 so] (fun W=>Below w1.heap.size w1 W∧Whole W g 59 (Zf (qs,so))) ⟨(Closed.below w1).and (Closed.whole _ _ _),fun _ h=>h.1⟩ rfl (by rfl) (by rfl) (by kernel_rfl) (by rfl) (by rfl) (fun W hW=>hW.2.there) (fun W hW=>⟨setCells_below _ _ hW.1 hg,setCells_whole _ [] (Zf (ps,pq)) rfl hW.2⟩) ?_;simp only[Act.put,La,Lb,Lc];refine Zd (fun W' hW=>?_);have HE:=Zz hW;have hwi:IntKind.i64.wrap ((i:Int)+1)=(i:Int)+1:=IntWalk.i64_in _ (by have :=HOL.out;omega);clear hW HU1;go_wp2_with fail;go_roundw
           case rel=>exact⟨i+1,(qs,so),hlk,by go_num,Zz ⟨HE.out,HNX.out⟩⟩
           case measure=>simp[intOf];omega
    · have H1:Hid (qs=ss→¬qq=si):=Zz fun e f=>he ⟨e,f⟩;have HF:Hid (false=r):=Zz (by rw[←HGO.out,decide_eq_false (fun e=>he ⟨congrArg Prod.fst e,congrArg Prod.snd e⟩)];rfl);clear he HGO;have HB8:Hid (∀W,Below wa.heap.size wa W→T W):=Zz (fun W hB=>HT1.out _ _ ht hB);clear ht;refine rmx wa f30 (by kernel_rfl) (by kernel_rfl) ?_;simp only[Zg,f30,Lm,Ln];repeat ((first|(refine Zb (by rfl) ?_)|(refine mrd HB8 (.bool true) (by rfl) (fun W hW=>by(have hh:=HTx.out W hW;have hqq:=HBS.out W hh.1;obtain⟨x0,x1,x2,x3,x4,x5,x6,x7,x8,x9,x10⟩:=(HQl.out W hqq).c11;obtain⟨c0,c1,c2⟩:=HCC.out W hqq;obtain⟨t0,t1,t2⟩:=HTK.out W hqq;have p0:=hh.2.Za 0 rfl;have p1:=hh.2.Za 1 rfl;clear hh hqq;have d1:=H1.out;go_simp;first|done|exact d1)) ?_)|(refine mrd HB8 _ (by rfl) (fun W hW=>by(have hh:=HTx.out W hW;have hqq:=HBS.out W hh.1;obtain⟨x0,x1,x2,x3,x4,x5,x6,x7,x8,x9,x10⟩:=(HQl.out W hqq).c11;obtain⟨c0,c1,c2⟩:=HCC.out W hqq;obtain⟨t0,t1,t2⟩:=HTK.out W hqq;have p0:=hh.2.Za 0 rfl;have p1:=hh.2.Za 1 rfl;clear hh hqq;have d1:=H1.out;go_simp;first|done|with_reducible rfl)) ?_)|(refine mrd HB8 _ (by rfl) (fun W hW=>by(have hh:=HTx.out W hW;have hqq:=HBS.out W hh.1;obtain⟨x0,x1,x2,x3,x4,x5,x6,x7,x8,x9,x10⟩:=(HQl.out W hqq).c11;obtain⟨c0,c1,c2⟩:=HCC.out W hqq;obtain⟨t0,t1,t2⟩:=HTK.out W hqq;have p0:=hh.2.Za 0 rfl;have p1:=hh.2.Za 1 rfl;clear hh hqq;have d1:=H1.out;rw[HA.out];go_simp;first|done|with_reducible rfl)) ?_)|(refine mcl HB8 _ _ _ (by rfl) (fun W hW=>by(have hh:=HTx.out W hW;have hqq:=HBS.out W hh.1;obtain⟨x0,x1,x2,x3,x4,x5,x6,x7,x8,x9,x10⟩:=(HQl.out W hqq).c11;obtain⟨c0,c1,c2⟩:=HCC.out W hqq;obtain⟨t0,t1,t2⟩:=HTK.out W hqq;have p0:=hh.2.Za 0 rfl;have p1:=hh.2.Za 1 rfl;clear hh hqq;have d1:=H1.out;go_simp;first|done|rfl)) (fun W hW=>KB.out W (HBS.out W (HTx.out W (HB8.out W hW)).1)) ?_));simp only[Act.put,La,Lb,Lc])
      refine Zd (fun W hW=>?_);have ht:=HB8.out W hW;clear hW HB8;have HB:=Zz (HQb.out _ (HBS.out _ (HTx.out W ht).1));clear ht;go_wp2_with fail;go_ret;exact⟨Zc HF.out,HB.out⟩
  · obtain rfl:k=e.over.length:=by omega
    have HF:Hid (true=r):=Zz (by rw[←HM.out.2,List.drop_length];rfl);have HB:=Zz (HQb.out _ (HBS.out _ HM.out.1.1));clear HM;go_wp2_with fail;go_ret;exact⟨Zc HF.out,HB.out⟩
theorem oversR_any {l:Lay} {w:World} (hL:Lies l w) (hR:rightL l=true):Calls Tryz.prog 63 #[l.val] w fun e w'=>e= .returned (.int .i64 (idxS (wrongV l)))∧Below w.heap.size w w':=by
 obtain⟨Q,HQ,HQb,HQl,hq⟩:=keep_box (Closed.below w) (Below.refl _ w) 29 l.cells;have HQL:Hid (∀W,Q W→Lies l W):=Zz fun W hW=>Lies.closed l _ _ hL (HQb.out W hW);have hn:=hL.nE;have HR:=Zz hR;clear hL hR;go_enter Tryz.func63,Tryz.ntmps63;go_wp2_with fail;go_loopw [3] (fun i wr=>∃k:Nat,k≤l.exits.length∧i= .int .i64 k∧Q wr∧Hid (Zl (fun x=>!overV l x) l.exits k)) (fun i _=>l.exits.length - (intOf i).toNat)
 case atStart=>exact⟨0,by omega,rfl,hq,Zz (Zl.zero _ _)⟩
 case round=>
  clear hq;obtain⟨k,hk,rfl,hq,HNO⟩:=hrel;by_cases hlk:k<l.exits.length
  · have hlk':(k:Int)<(l.exits.length:Int):=by omega
    obtain⟨x,hx⟩:∃x,l.exits[k]? =some x:=⟨_,List.getElem?_eq_getElem hlk⟩;obtain⟨ov,hov⟩:∃ov,overV l x=ov:=⟨_,rfl⟩;have HX:=Zz hx;have HOV:=Zz hov;have KO:=Zz (fun W hW=>keepR HQ.out (overR_any (w:=W) (k:Int) (HQL.out W hW) (r:=ov) (by unfold overT;rw[HR.out,decide_eq_true (show(0:Int)≤(k:Int) by omega),Int.toNat_natCast,hx];exact hov)) hW);clear hx hov;obtain⟨x0,x1,x2,x3,x4,x5,x6,x7,x8,x9,x10⟩:=(HQl.out _ hq).c11;go_wp2_with fail;refine(KO.out _ hq).mono ?_;clear hq x0 x1 x2 x3 x4 x5 x6 x7 x8 x9 x10;rintro e w1 ⟨rfl,hq⟩;cases ov
    · have HW:Hid (idxS (wrongV l)=(k:Int)):=Zz (by
       unfold wrongV;have :l.exits.findIdx? (fun x=>!overV l x)=some k:=by
        obtain⟨hl,hx'⟩:=List.getElem?_eq_some_iff.1 HX.out;rw[List.findIdx?_eq_some_iff_getElem];refine⟨hl,by rw[hx',HOV.out];rfl,fun i hi=>?_⟩;have :=HNO.out i _ hi (List.getElem?_eq_getElem (by omega));simpa using this
       rw[this];rfl);go_wp2_with fail;go_ret;exact⟨ret_int HW.out.symm,HQb.out _ hq⟩
    · have HN:=Zz (HNO.out.succ HX.out (by show(!overV l x)=false;rw[HOV.out];rfl));go_wp2_with fail;go_roundw
      case rel=>exact⟨k+1,hlk,by go_num,hq,HN⟩
      case measure=>simp[intOf];omega
  · obtain rfl:k=l.exits.length:=by omega
    have HW:Hid (idxS (wrongV l)= -1):=Zz (by
     rw[wrong_no.2 (fun x hx=>by
      have :=HNO.out.any;rw[List.any_eq_false] at this;simpa using this x hx)];rfl);have x2:=(HQl.out _ hq).Za 2 rfl;go_wp2_with fail;go_ret;exact⟨ret_int HW.out.symm,HQb.out _ hq⟩
theorem rule_idx {l:Lay} {k:Nat} (hk:1≤k) (h:(ruleV l k).2=true):idxS (ruleV l k)=(ruleV l k).1∧0≤(ruleV l k).1:=by
 refine⟨by unfold idxS;rw[if_pos h],?_⟩;by_cases h1:k=1
 · subst h1;obtain⟨b,e,_⟩:=second_yes (same:=sameG) (l:=l.sigs) rfl h;show 0≤(Zv sameG l.sigs).1;rw[e];simp
 · by_cases h2:k=2
   · subst h2;obtain⟨b,e,_⟩:=second_yes (same:=sameE) (l:=l.exits) rfl h;show 0≤(Zv sameE l.exits).1;rw[e];simp
   · by_cases h3:k=3
     · subst h3;obtain⟨b,e,_⟩:=wrong_yes (l:=l) rfl h;show 0≤(wrongV l).1;rw[e];simp
     · have e4:ruleV l k=Zv sameF l.flanks:=by unfold ruleV;rw[if_neg (by omega),if_neg h1,if_neg h2,if_neg h3]
       rw[e4] at h ⊢;obtain⟨b,e,_⟩:=second_yes (same:=sameF) (l:=l.flanks) rfl h;rw[e];simp
theorem rule_neg {l:Lay} {k:Nat} (h:(ruleV l k).2=false):idxS (ruleV l k)= -1:=by unfold idxS;rw[if_neg (by rw[h];simp)]
def firstsC (l:Lay):List Value:=[.int .i64 (idxS (ruleV l 1)),.int .i64 (idxS (ruleV l 2)),.int .i64 (idxS (ruleV l 3)),.int .i64 (idxS (ruleV l 4))]
theorem firstsC_at {l:Lay} {i:Nat} (h:i<4):(firstsC l)[i]? =some (.int .i64 (idxS (ruleV l (i+1)))):=by
 rcases(show i=0∨i=1∨i=2∨i=3 by omega) with rfl|rfl|rfl|rfl <;> rfl
theorem checkR_any {l:Lay} {w:World} (hL:Lies l w) {r:Int×Int×Int} (hr:checkV l=r):Calls Tryz.prog 39 #[l.val] w fun e w'=>e= .returned (.tuple #[.int .i64 r.1,.int .i64 r.2.1,.int .i64 r.2.2])∧Below w.heap.size w w':=by
 obtain⟨Q,HQ,HQb,HQl,hq⟩:=keep_box (Closed.below w) (Below.refl _ w) 29 l.cells;have HQL:Hid (∀W,Q W→Lies l W):=Zz fun W hW=>Lies.closed l _ _ hL (HQb.out W hW);obtain⟨rv,hrv⟩:∃rv,rightL l=rv:=⟨_,rfl⟩;have KR:=Zz (fun W hW=>keepR HQ.out (rightR_B (w:=W) (HQL.out W hW) hrv) hW);obtain⟨jv,hjv⟩:∃jv,joinedL l=jv:=⟨_,rfl⟩;have KJ:=Zz (fun W hW=>keepR HQ.out (joinedR_any (w:=W) (HQL.out W hW) hjv) hW);have HRV:=Zz hrv;have HJV:=Zz hjv;have HR:=Zz hr;clear hL hrv hjv hr;go_enter Tryz.func39,Tryz.ntmps39;obtain⟨x0,x1,x2,x3,x4,x5,x6,x7,x8,x9,x10⟩:=(HQl.out _ hq).c11;go_wp2_with fail;refine(KR.out _ hq).mono ?_;clear hq x0 x1 x2 x3 x4 x5 x6 x7 x8 x9 x10;rintro e w1 ⟨rfl,hq⟩;cases rv
 · have HV:=Zz (check_wrong HRV.out);go_wp2_with fail;refine bodyPost_ret (v:=.tuple #[.int .i64 0,.int .i64 0,.int .i64 60]) (by simp[results,Tryz.f39,go_sem]) rfl ⟨by rw[←HR.out,HV.out],HQb.out _ hq⟩
 obtain⟨x0,x1,x2,x3,x4,x5,x6,x7,x8,x9,x10⟩:=(HQl.out _ hq).c11;go_wp2_with fail;refine(KJ.out _ hq).mono ?_;clear hq x0 x1 x2 x3 x4 x5 x6 x7 x8 x9 x10;rintro e w2 ⟨rfl,hq⟩;cases jv
 · have HV:Hid (checkV l=(1,0,90)):=Zz (by rw[check_at (k:=0) HRV.out (by omega) (by show(!joinedL l)=true;rw[HJV.out];rfl) (fun i hi=>by omega)];rfl);go_wp2_with fail;refine bodyPost_ret (v:=.tuple #[.int .i64 1,.int .i64 0,.int .i64 90]) (by simp[results,Tryz.f39,go_sem]) rfl ⟨by rw[←HR.out,HV.out],HQb.out _ hq⟩
 have HR0:Hid ((ruleV l 0).2=false):=Zz (by show(!joinedL l)=false;rw[HJV.out];rfl);have K1:Hid (∀W,Q W→Calls Tryz.prog 61 #[l.val] W fun e w'=>e= .returned (.int .i64 (idxS (ruleV l 1)))∧Below W.heap.size W w'):=Zz fun W hW=>sigsR_any (HQL.out W hW);have K2:Hid (∀W,Q W→Calls Tryz.prog 62 #[l.val] W fun e w'=>e= .returned (.int .i64 (idxS (ruleV l 2)))∧Below W.heap.size W w'):=Zz fun W hW=>exitsR_any (HQL.out W hW);have K3:Hid (∀W,Q W→Calls Tryz.prog 63 #[l.val] W fun e w'=>e= .returned (.int .i64 (idxS (ruleV l 3)))∧Below W.heap.size W w'):=Zz fun W hW=>oversR_any (HQL.out W hW) HRV.out;have K4:Hid (∀W,Q W→Calls Tryz.prog 64 #[l.val] W fun e w'=>e= .returned (.int .i64 (idxS (ruleV l 4)))∧Below W.heap.size W w'):=Zz fun W hW=>flanksR_any (HQL.out W hW);go_upto_region 5 with (fail)
 have HBS:Hid (∀W,Below w2.heap.size w2 W→Q W):=Zz (fun W hB=>HQ.out _ _ hq hB);clear hq;refine region_mix (Below w2.heap.size w2) [(0,false),(1,false),(2,false),(3,false),(4,false),(5,false),(6,false),(7,false),(8,false),(9,true),(10,true)] (by kernel_rfl) (by kernel_rfl) (Below w2.heap.size w2) ⟨Closed.below w2,fun _ h=>h⟩ (Below.refl _ _).drew ?_;simp only[Zg,Lm,Ln];repeat ((first|(refine Zb (by rfl) ?_)|(refine mrd HBS _ (by rfl) (fun W hW=>by(obtain⟨x0,x1,x2,x3,x4,x5,x6,x7,x8,x9,x10⟩:=(HQl.out _ hW).c11;go_simp;first|done|with_reducible rfl)) ?_)|(refine mcl HBS _ _ _ (by rfl) (fun W hW=>by(obtain⟨x0,x1,x2,x3,x4,x5,x6,x7,x8,x9,x10⟩:=(HQl.out _ hW).c11;go_simp;first|done|rfl)) (fun W hW=>K1.out W (HBS.out W hW)) ?_)|(refine mcl HBS _ _ _ (by rfl) (fun W hW=>by(obtain⟨x0,x1,x2,x3,x4,x5,x6,x7,x8,x9,x10⟩:=(HQl.out _ hW).c11;go_simp;first|done|rfl)) (fun W hW=>K2.out W (HBS.out W hW)) ?_)|(refine mcl HBS _ _ _ (by rfl) (fun W hW=>by(obtain⟨x0,x1,x2,x3,x4,x5,x6,x7,x8,x9,x10⟩:=(HQl.out _ hW).c11;go_simp;first|done|rfl)) (fun W hW=>K3.out W (HBS.out W hW)) ?_)|(refine mcl HBS _ _ _ (by rfl) (fun W hW=>by(obtain⟨x0,x1,x2,x3,x4,x5,x6,x7,x8,x9,x10⟩:=(HQl.out _ hW).c11;go_simp;first|done|rfl)) (fun W hW=>K4.out W (HBS.out W hW)) ?_));simp only[Act.put,La,Lb,Lc])
 refine mix_alloc w2.heap.size 107 [.int .i64 0,.int .i64 0,.int .i64 0,.int .i64 0] ⟨Closed.below w2,fun _ h=>h⟩ (fun _ h=>h.size) (by rfl) (fun W hW=>by(go_simp;first|done|with_reducible rfl)) (fun g hg=>?_);simp only[Act.put,La,Lb,Lc];refine mix_fill 107 (.tmp 5) (.tmp 21) g w2.heap.size w2 [.int .i64 0,.int .i64 0,.int .i64 0,.int .i64 0] (firstsC l) hg (fun _ h=>h) (Nat.le_refl _) (fun _ h=>h) rfl (by rfl) (by rfl) (by kernel_rfl) rfl (by kernel_rfl) (by rfl) ?_;simp only[Act.put,La,Lb,Lc];refine Zd (fun W hW=>?_);have HW:=Zz hW;clear hW;have HK:Hid (∀W,Below w2.heap.size w2 W→Q W):=HBS;go_wp2_with fail;go_loopw [6] (fun i wr=>∃k:Nat,k≤4∧i= .int .i64 k∧Hid ((Below w2.heap.size w2 wr∧Whole wr g 107 (firstsC l))∧∀m,m<k+1→(ruleV l m).2=false)) (fun i _=>4 - (intOf i).toNat)
 case atStart=>exact⟨0,by omega,rfl,Zz ⟨HW.out,fun m hm=>by obtain rfl:m=0:=(by omega);exact HR0.out⟩⟩
 case round=>
  clear HW;obtain⟨k,hk,rfl,HM⟩:=hrel;obtain⟨wa,rfl⟩:∃W,W=wr:=⟨wr,rfl⟩;by_cases hlt:k<4
  · have hlt':(k:Int)<4:=by omega
    have z0:=HM.out.1.2.Za k (firstsC_at hlt);have z1:wa.cell? ⟨g,0+k,none⟩=some (.int .i64 (idxS (ruleV l (k+1)))):=by rw[Nat.zero_add];exact z0
    have hwk:IntKind.i64.wrap ((k:Int)+2)=(k:Int)+2:=IntWalk.i64_in _ (by omega);have hwk1:IntKind.i64.wrap ((k:Int)+1)=(k:Int)+1:=IntWalk.i64_in _ (by omega);obtain⟨bv,hbv⟩:∃bv,(ruleV l (k+1)).2=bv:=⟨_,rfl⟩;cases bv
    · have hneg:=rule_neg hbv;rw[hneg] at z0 z1;have HN:Hid (∀m,m<k+1+1→(ruleV l m).2=false):=Zz fun m hm=>by
       by_cases e:m=k+1
       · rw[e];exact hbv
       · exact HM.out.2 m (by omega)
      have HM1:=Zz HM.out.1;clear HM hbv hneg;go_wp2_with fail;go_roundw
      case rel=>exact⟨k+1,by omega,by go_num,Zz ⟨HM1.out,HN.out⟩⟩
      case measure=>simp[intOf];omega
    · obtain⟨hv,h0⟩:=rule_idx (by omega) hbv;rw[hv] at z0 z1;have HV:Hid (checkV l=((k:Int)+2,(ruleV l (k+1)).1,90)):=Zz (by
       rw[check_at HRV.out (show k+1<5 by omega) hbv HM.out.2];congr 1);have HZ:Hid (∀W,Below w2.heap.size w2 W∧Whole W g 107 (firstsC l)→W.cell? ⟨g,0+k,none⟩=some (.int .i64 (ruleV l (k+1)).1)∧W.cell? ⟨g,k,none⟩=some (.int .i64 (ruleV l (k+1)).1)):=Zz fun W hW=>by
       have :=hW.2.Za k (firstsC_at hlt);rw[hv] at this;exact⟨by rw[Nat.zero_add];exact this,this⟩
      obtain⟨T,HT1,HTx,ht⟩:∃T:World→Prop,Hid (Closed T)∧Hid (∀W,T W→Below w2.heap.size w2 W∧Whole W g 107 (firstsC l))∧T wa:=
       ⟨fun W=>Below w2.heap.size w2 W∧Whole W g 107 (firstsC l),Zz ((Closed.below w2).and (Closed.whole _ _ _)),Zz fun _ h=>h,HM.out.1⟩;clear HM hbv hv;generalize (ruleV l (k+1)).1=rz at *;go_upto_region 10 with (fail)
      clear z0 z1;have HB10:Hid (∀W,Below wa.heap.size wa W→T W):=Zz (fun W hB=>HT1.out _ _ ht hB);clear ht;refine rmx wa f8 (by kernel_rfl) (by kernel_rfl) ?_;simp only[Zg,f8,Lm,Ln];repeat ((first|(refine Zb (by rfl) ?_)|(refine mrd HB10 _ (by rfl) (fun W hW=>by(have hh:=HZ.out W (HTx.out W hW);obtain⟨z0,z1⟩:=hh;go_simp;first|done|with_reducible rfl)) ?_));simp only[Act.put,La,Lb,Lc])
      refine Zd (fun W' hW=>?_);have ht:=HB10.out W' hW;clear hW HB10;have HB:=Zz (HQb.out _ (HK.out _ (HTx.out W' ht).1));clear ht;go_wp2_with fail;refine bodyPost_ret (v:=.tuple #[.int .i64 ((k:Int)+2),.int .i64 rz,.int .i64 90]) (by simp[results,Tryz.f39,go_sem]) rfl ⟨by rw[←HR.out,HV.out],HB.out⟩
  · obtain rfl:k=4:=by omega
    have HV:=Zz (check_no HRV.out (fun i hi=>HM.out.2 i (by omega)));have HB:=Zz (HQb.out _ (HK.out _ HM.out.1.1));clear HM;rw[show((4:Nat):Int)=4 from rfl];go_wp2_with fail;refine bodyPost_ret (v:=.tuple #[.int .i64 0,.int .i64 0,.int .i64 0]) (by simp[results,Tryz.f39,go_sem]) rfl ⟨by rw[←HR.out,HV.out],HB.out⟩
theorem rightRT_any {l:Lay} {w:World} (hL:Lies l w) {r:Bool} (hr:rightT l=r):Calls Tryz.prog 22 #[l.val] w fun e w'=>e= .returned (.bool r)∧Below w.heap.size w w':=by
 have hB0:=below1 w (.cells #[.slice l.As l.secs.length l.cs,.slice l.Ag l.sigs.length l.cg,.slice l.Ae l.exits.length l.ce,.slice l.Af l.flanks.length l.cf,.int .i64 l.t0,.int .i64 l.t1,.int .i64 l.t2,.int .i64 l.t3,.int .i64 l.t4,.int .i64 l.t5,.int .i64 l.t6] 29);have b0:=Whole.new w 29 l.cells;obtain⟨⟨a,b,c⟩,hv⟩:∃v,checkV l=v:=⟨_,rfl⟩;have KC:=Zz (checkR_any (Lies.closed l _ _ hL hB0) hv);have HB0:=Zz hB0;have HR:Hid (decide (c=0)=r):=Zz (by rw[←hr];unfold rightT;rw[hv]);obtain⟨x0,x1,x2,x3,x4,x5,x6,x7,x8,x9,x10⟩:=b0.c11;clear hB0 hL hr b0 hv;go_enter Tryz.func22,Tryz.ntmps22;go_wp2_with fail;refine KC.out.mono ?_;clear KC x0 x1 x2 x3 x4 x5 x6 x7 x8 x9 x10;rintro e w1 ⟨rfl,hb1⟩;have HB1:=Zz (HB0.out.trans (hb1.mono HB0.out.size));clear hb1 HB0;by_cases hc:c=0
 · subst hc;go_wp2_with fail;go_ret;exact⟨Zc (by rw[←HR.out];rfl),HB1.out⟩
 · go_wp2_with fail;go_ret;exact⟨Zc (by rw[←HR.out,decide_eq_false hc];simp[hc]),HB1.out⟩
end
end Go.Proofs.YtifnlhfinjfajaaGreatDoor
