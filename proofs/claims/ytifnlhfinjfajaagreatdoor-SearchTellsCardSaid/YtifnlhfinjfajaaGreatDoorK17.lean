/- Of this seat: StbC, StbD. -/
import Derived.Test.YtifnlhfinjfajaaGreatDoorK16
namespace Go.Proofs.YtifnlhfinjfajaaGreatDoor
set_option linter.unusedVariables false
set_option linter.unusedSimpArgs false
set_option maxRecDepth 100000
set_option maxHeartbeats 32000000
section
open Go.RowKit Go.Shelf
theorem symMergeA_any {S:List Nat→World→Prop} {g n qf:Nat} {cv:Nat→Nat→Int} (K:Kit12 S g n) (C:Cmp12 S n qf cv) (O:Ord12 (Zm cv)) {d:List Nat} (hn:n≤1099511627776) (hp:d.Perm (List.range n)) (a m b cap:Nat) (ham:a<m) (hmb:m<b) (hbn:b≤n)
 (h1:Srt (Zm cv) d a m) (h2:Srt (Zm cv) d m b) (hr:Rise d a m b) (hA:m=a+1) {w:World} (h:S d w):
 Calls Tryz.prog 175 #[.slice (some ⟨g,0,none⟩) n cap,.int .i64 a,.int .i64 m,.int .i64 b,.func (.func 139) #[] #[.pointer (some ⟨qf,0,none⟩)]] w fun e w'=>e= .returned (.tuple #[])∧∃d',S d' w'∧Mv12 a b d d'∧Srt (Zm cv) d' a b:=by
 replace K:=Zz K
 have HO:=Zz O
 have HCm:=Zz C
 have HP:=Zz hp
 have H1:=Zz h1
 have H2:=Zz h2
 have HR:=Zz hr
 have HC:=Zz (K.out.closed d)
 have hln:=K.out.len _ _ h
 have ham':(a:Int)<(m:Int):=by omega
 have hmb':(m:Int)<(b:Int):=by omega
 have hbn':(b:Int)≤(n:Int):=by omega
 have rA:IntKind.i64.wrap ((m:Int) - (a:Int))=1:=by rw[IntKind.wrap_i64];omega
 have HA:=Zz hA
 clear O C hp h1 h2 hr hA
 go_enter Tryz.func175,Tryz.ntmps175
 go_wp2_with fail
 go_loopw [10,11] (fun vi vj wr=>∃lo hi:Nat,vi= .int .i64 lo∧vj= .int .i64 hi∧m≤lo∧lo≤hi∧hi≤b∧S d wr∧Hid ((∀t,m≤t→t<lo→LL (Zm cv) (at12 d t) (at12 d a))∧(∀t,hi≤t→t<b→LL (Zm cv) (at12 d a) (at12 d t))))
  (fun vi vj _=>(intOf vj).toNat - (intOf vi).toNat)
 case atStart=>exact⟨m,b,rfl,rfl,Nat.le_refl _,by omega,Nat.le_refl _,h,Zz ⟨fun t x1 x2=>by omega,fun t x1 x2=>by omega⟩⟩
 case round=>
  clear h;obtain⟨lo,hi,rfl,rfl,hml,hlh,hhb,hS,HJ⟩:=hrel;obtain⟨wc,rfl⟩:∃W,W=wr:=⟨wr,rfl⟩;by_cases hlt:lo<hi
  · have hlt':(lo:Int)<(hi:Int):=by omega
    obtain⟨s,hs⟩:∃s:Nat,s=lo+hi:=⟨_,rfl⟩;obtain⟨x,hx⟩:∃h:Nat,h=s/2:=⟨_,rfl⟩;have rs:IntKind.i64.wrap ((lo:Int)+(hi:Int))=(s:Int):=by rw[IntKind.wrap_i64];omega
    have rx:(s:Int)/2=(x:Int):=by omega
    have hx1:lo≤x:=by omega
    have hx2:x<hi:=by omega
    obtain⟨v,hv⟩:∃v,cv (at12 d x) (at12 d a)=v:=⟨_,rfl⟩;have KC:Hid (∀W,S d W→Calls Tryz.prog 139 #[.int .i64 (at12 d x:Int),.int .i64 (at12 d a:Int),.pointer (some ⟨qf,0,none⟩)] W fun e W'=>e= .returned (.int .i64 v)∧Below W.heap.size W W'):=Zz fun W hW=>by
     rw[←hv];exact HCm.out d W _ _ hW (at_range HP.out (by omega)) (at_range HP.out (by omega))
    have bn_x:x<n:=by omega
    have bn_x2:(x:Int)<(n:Int):=by omega
    have bn_a:a<n:=by omega
    have bn_a2:(a:Int)<(n:Int):=by omega
    have HV:=Zz hv;have hwi:IntKind.i64.wrap ((x:Int)+1)=(x:Int)+1:=IntWalk.i64_in _ (by omega);clear hs hx hv;by_cases hlv:v<0
    · have hld:decide (v<0)=true:=decide_eq_true hlv;have HN:Hid ((∀t,m≤t→t<x+1→LL (Zm cv) (at12 d t) (at12 d a))∧(∀t,hi≤t→t<b→LL (Zm cv) (at12 d a) (at12 d t))):=Zz ⟨fun t t1 t2=>by
       have hl:LL (Zm cv) (at12 d x) (at12 d a):=.inl (lt_yes (by rw[HV.out];exact hlv));by_cases e:t=x
       · subst e;exact hl
       · exact LL.trans HO.out (H2.out t x t1 (by omega) (by omega)) hl,HJ.out.2⟩;clear HJ HV;go_wp2_with fail;have HBS:Hid (∀W,Below wc.heap.size wc W→S d W):=Zz (fun W hB=>HC.out _ _ hS hB);clear hS;refine rmx wc f11 (by kernel_rfl) (by kernel_rfl) ?_;simp only[Zg,f11,Lm,Ln];repeat ((first|(refine Zb (by rfl) ?_)|(refine mrd HBS _ (by rfl) (fun W hW=>by(have c0:=Zk (K.out.whole _ _ hW) (i:=x) (by omega);have c1:=Zk (K.out.whole _ _ hW) (i:=a) (by omega);go_simp;first|done|with_reducible rfl)) ?_)|(refine mcl HBS _ _ _ (by rfl) (fun W hW=>by(have c0:=Zk (K.out.whole _ _ hW) (i:=x) (by omega);have c1:=Zk (K.out.whole _ _ hW) (i:=a) (by omega);go_simp;first|done|rfl)) (fun W hW=>KC.out W (HBS.out W hW)) ?_));simp only[Act.put,La,Lb,Lc])
      refine Zd (fun W hW=>?_);have hS:=HBS.out W hW;clear hW HBS KC hlv hld;go_wp2_with fail;go_roundw
      case rel=>exact⟨x+1,hi,by go_num,rfl,by omega,hx2,hhb,hS,HN⟩
      case measure=>simp[intOf];omega
    · have hld:decide (v<0)=false:=decide_eq_false hlv;have HN:Hid ((∀t,m≤t→t<lo→LL (Zm cv) (at12 d t) (at12 d a))∧(∀t,x≤t→t<b→LL (Zm cv) (at12 d a) (at12 d t))):=Zz ⟨HJ.out.1,fun t t1 t2=>by
       have hl:LL (Zm cv) (at12 d a) (at12 d x):=.inr ⟨lt_no (by rw[HV.out];exact hlv),HR.out a x (Nat.le_refl _) ham (by omega) (by omega)⟩;by_cases e:t=x
       · subst e;exact hl
       · exact LL.trans HO.out hl (H2.out x t (by omega) (by omega) t2)⟩;clear HJ HV;go_wp2_with fail;have HBS:Hid (∀W,Below wc.heap.size wc W→S d W):=Zz (fun W hB=>HC.out _ _ hS hB);clear hS;refine rmx wc f11 (by kernel_rfl) (by kernel_rfl) ?_;simp only[Zg,f11,Lm,Ln];repeat ((first|(refine Zb (by rfl) ?_)|(refine mrd HBS _ (by rfl) (fun W hW=>by(have c0:=Zk (K.out.whole _ _ hW) (i:=x) (by omega);have c1:=Zk (K.out.whole _ _ hW) (i:=a) (by omega);go_simp;first|done|with_reducible rfl)) ?_)|(refine mcl HBS _ _ _ (by rfl) (fun W hW=>by(have c0:=Zk (K.out.whole _ _ hW) (i:=x) (by omega);have c1:=Zk (K.out.whole _ _ hW) (i:=a) (by omega);go_simp;first|done|rfl)) (fun W hW=>KC.out W (HBS.out W hW)) ?_));simp only[Act.put,La,Lb,Lc])
      refine Zd (fun W hW=>?_);have hS:=HBS.out W hW;clear hW HBS KC hlv hld;go_wp2_with fail;go_roundw
      case rel=>exact⟨lo,x,rfl,rfl,hml,hx1,by omega,hS,HN⟩
      case measure=>simp[intOf];omega
  · obtain rfl:lo=hi:=by omega
    obtain⟨i1,hi1⟩:∃i1,i1+1=lo:=⟨lo - 1,by omega⟩;have ri1:IntKind.i64.wrap ((lo:Int) - 1)=(i1:Int):=by rw[IntKind.wrap_i64];omega
    have HI1:=Zz (And.intro hi1 (And.intro hml hhb));have HS:=Zz hS;clear hi1 hml hhb hlt hlh hS;go_wp2_with fail;go_loopw [13] (fun vk wr=>∃(k:Nat) (dk:List Nat),vk= .int .i64 k∧a≤k∧k≤i1∧S dk wr∧Hid (dk.Perm d∧∀x,at12 dk x=rot12 (at12 d) a (a+1) (k+1) x))
     (fun vk _=>i1 - (intOf vk).toNat)
    case atStart=>exact⟨a,d,rfl,Nat.le_refl _,by have :=HI1.out;have :=HA.out;omega,HS.out,Zz ⟨List.Perm.refl _,fun x=>(rot_none_right x).symm⟩⟩
    case round=>
     obtain⟨k,dk,rfl,hak,hki,hS,HK⟩:=hrel;have hlk:=K.out.len _ _ hS;by_cases hlt:k<i1
     · have hlt':(k:Int)<(i1:Int):=by omega
       obtain⟨q,hq⟩:∃q,q=k+1:=⟨_,rfl⟩;have rq:IntKind.i64.wrap ((k:Int)+1)=(q:Int):=by rw[IntKind.wrap_i64];have :=HI1.out;omega
       have hb1:=HI1.out;have HN:Hid ((swp12 dk k q).Perm d∧∀x,at12 (swp12 dk k q) x=rot12 (at12 d) a (a+1) (q+1) x):=Zz (by
        subst hq;exact⟨(swp_perm (by omega) (by omega)).trans HK.out.1,rot_stepR HK.out.2 hak (by omega) rfl⟩);have bk:k<n:=by omega
       have bk2:(k:Int)<(n:Int):=by omega
       have bq:q<n:=by omega
       have bq2:(q:Int)<(n:Int):=by omega
       have HQ:=Zz (And.intro hq (And.intro hak hlt));clear hq hb1 HK;go_wp2_with fail;refine region_tree (fun _=>True) (.fork [(0,false),(1,false),(2,false),(3,false),(4,false),(5,false),(6,false),(7,false),(8,false),(10,false),(11,false),(12,false)] 9 13 (.last [(13,true),(14,false),(15,true),(16,false),(17,true)]) (.last [(9,true),(14,false),(15,true),(16,false),(17,true)])) (by kernel_rfl) (by kernel_rfl) (S dk) ⟨K.out.closed dk,fun _ _=>trivial⟩ ((K.out.closed dk).drew hS) ?_;clear hS;simp only[wpTree,Zg,Lm,Ln];repeat ((first|(refine Zb (by rfl) ?_)|(refine Zn _ (by rfl) (fun W hW=>by(clear hW;go_simp;first|done|with_reducible rfl)) ?_));simp only[Act.put,La,Lb,Lc])
       refine Zd (fun hF=>⟨?_,?_⟩)
       · refine mix_look (.int .i64 (at12 dk q:Int)) ⟨K.out.closed dk,fun _ _=>trivial⟩ (by rfl) (fun W hW=>by(have c0:=Zk (K.out.whole _ _ hW) (i:=q) (by omega);clear hW;go_simp;first|done|with_reducible rfl)) ?_;simp only[Act.put,La,Lb,Lc];refine Zd ?_;refine mix_look (.int .i64 (at12 dk k:Int)) ⟨K.out.closed dk,fun _ _=>trivial⟩ (by rfl) (fun W hW=>by(have c0:=Zk (K.out.whole _ _ hW) (i:=k) (by omega);clear hW;go_simp;first|done|with_reducible rfl)) ?_;simp only[Act.put,La,Lb,Lc];repeat ((first|(refine Zb (by rfl) ?_)|(refine Zn _ (by rfl) (fun W hW=>by(clear hW;go_simp;first|done|with_reducible rfl)) ?_));simp only[Act.put,La,Lb,Lc])
         refine mix_store (S (dk.set k (at12 dk q))) (fun W=>W.setCell ⟨g,k,none⟩ (.int .i64 ((at12 dk q):Int))) ⟨K.out.closed _,fun _ _=>trivial⟩ (by rfl) (fun W hW=>by(have c0:=Zk (K.out.whole _ _ hW) (i:=k) (by first|omega|(simp;omega));have f0:=(K.out.whole _ _ hW).frozen k;clear hW;go_simp;first|done|with_reducible rfl)) (fun W hW=>K.out.set _ _ _ _ hW (by first|omega|(simp;omega))) ?_;simp only[Act.put,La,Lb,Lc];repeat ((first|(refine Zb (by rfl) ?_)|(refine Zn _ (by rfl) (fun W hW=>by(clear hW;go_simp;first|done|with_reducible rfl)) ?_));simp only[Act.put,La,Lb,Lc])
         refine mix_store (S ((dk.set k (at12 dk q)).set q (at12 dk k))) (fun W=>W.setCell ⟨g,q,none⟩ (.int .i64 ((at12 dk k):Int))) ⟨K.out.closed _,fun _ _=>trivial⟩ (by rfl) (fun W hW=>by(have c0:=Zk (K.out.whole _ _ hW) (i:=q) (by first|omega|(simp;omega));have f0:=(K.out.whole _ _ hW).frozen q;clear hW;go_simp;first|done|with_reducible rfl)) (fun W hW=>K.out.set _ _ _ _ hW (by first|omega|(simp;omega))) ?_;simp only[Act.put,La,Lb,Lc];refine Zd (fun W hS=>?_);have HN2:=HN;go_wp2_with fail;go_roundw
         case rel=>exact⟨q,swp12 dk k q,by have :=HQ.out;go_num,by have :=HQ.out;omega,by have :=HQ.out;omega,hS,HN2⟩
         case measure=>have :=HQ.out;simp[intOf];omega
       · refine mix_look (.int .i64 (at12 dk k:Int)) ⟨K.out.closed dk,fun _ _=>trivial⟩ (by rfl) (fun W hW=>by(have c0:=Zk (K.out.whole _ _ hW) (i:=k) (by omega);clear hW;go_simp;first|done|with_reducible rfl)) ?_;simp only[Act.put,La,Lb,Lc];refine Zd ?_;refine mix_look (.int .i64 (at12 dk q:Int)) ⟨K.out.closed dk,fun _ _=>trivial⟩ (by rfl) (fun W hW=>by(have c0:=Zk (K.out.whole _ _ hW) (i:=q) (by omega);clear hW;go_simp;first|done|with_reducible rfl)) ?_;simp only[Act.put,La,Lb,Lc];repeat ((first|(refine Zb (by rfl) ?_)|(refine Zn _ (by rfl) (fun W hW=>by(clear hW;go_simp;first|done|with_reducible rfl)) ?_));simp only[Act.put,La,Lb,Lc])
         refine mix_store (S (dk.set k (at12 dk q))) (fun W=>W.setCell ⟨g,k,none⟩ (.int .i64 ((at12 dk q):Int))) ⟨K.out.closed _,fun _ _=>trivial⟩ (by rfl) (fun W hW=>by(have c0:=Zk (K.out.whole _ _ hW) (i:=k) (by first|omega|(simp;omega));have f0:=(K.out.whole _ _ hW).frozen k;clear hW;go_simp;first|done|with_reducible rfl)) (fun W hW=>K.out.set _ _ _ _ hW (by first|omega|(simp;omega))) ?_;simp only[Act.put,La,Lb,Lc];repeat ((first|(refine Zb (by rfl) ?_)|(refine Zn _ (by rfl) (fun W hW=>by(clear hW;go_simp;first|done|with_reducible rfl)) ?_));simp only[Act.put,La,Lb,Lc])
         refine mix_store (S ((dk.set k (at12 dk q)).set q (at12 dk k))) (fun W=>W.setCell ⟨g,q,none⟩ (.int .i64 ((at12 dk k):Int))) ⟨K.out.closed _,fun _ _=>trivial⟩ (by rfl) (fun W hW=>by(have c0:=Zk (K.out.whole _ _ hW) (i:=q) (by first|omega|(simp;omega));have f0:=(K.out.whole _ _ hW).frozen q;clear hW;go_simp;first|done|with_reducible rfl)) (fun W hW=>K.out.set _ _ _ _ hW (by first|omega|(simp;omega))) ?_;simp only[Act.put,La,Lb,Lc];refine Zd (fun W hS=>?_);have HN2:=HN;go_wp2_with fail;go_roundw
         case rel=>exact⟨q,swp12 dk k q,by have :=HQ.out;go_num,by have :=HQ.out;omega,by have :=HQ.out;omega,hS,HN2⟩
         case measure=>have :=HQ.out;simp[intOf];omega
     · obtain rfl:k=i1:=by omega
       have HF:Hid (Mv12 a b d dk∧Srt (Zm cv) dk a b):=Zz (by
        obtain⟨e1,e2,e3⟩:=HI1.out;have hA:=HA.out;subst hA;have hk:=HK.out.2;rw[e1] at hk;exact⟨(mv_rot (by omega) (by omega) HK.out.1.length_eq HK.out.1 hk).mono (Nat.le_refl _) e3,left_done HO.out H2.out (by omega) e3 hk HJ.out.1 HJ.out.2⟩);go_wp2_with fail;refine bodyPost_ret (results_none rfl _ _ _) rfl ?_;exact⟨rfl,dk,hS,HF.out.1,HF.out.2⟩
theorem symMergeB_any {S:List Nat→World→Prop} {g n qf:Nat} {cv:Nat→Nat→Int} (K:Kit12 S g n) (C:Cmp12 S n qf cv) (O:Ord12 (Zm cv)) {d:List Nat} (hn:n≤1099511627776) (hp:d.Perm (List.range n)) (a m b cap:Nat) (ham:a<m) (hmb:m<b) (hbn:b≤n)
 (h1:Srt (Zm cv) d a m) (h2:Srt (Zm cv) d m b) (hr:Rise d a m b) (hA:¬m=a+1) (hB:b=m+1) {w:World} (h:S d w):
 Calls Tryz.prog 175 #[.slice (some ⟨g,0,none⟩) n cap,.int .i64 a,.int .i64 m,.int .i64 b,.func (.func 139) #[] #[.pointer (some ⟨qf,0,none⟩)]] w fun e w'=>e= .returned (.tuple #[])∧∃d',S d' w'∧Mv12 a b d d'∧Srt (Zm cv) d' a b:=by
 replace K:=Zz K
 have HO:=Zz O
 have HCm:=Zz C
 have HP:=Zz hp
 have H1:=Zz h1
 have H2:=Zz h2
 have HR:=Zz hr
 have HC:=Zz (K.out.closed d)
 have hln:=K.out.len _ _ h
 have ham':(a:Int)<(m:Int):=by omega
 have hmb':(m:Int)<(b:Int):=by omega
 have hbn':(b:Int)≤(n:Int):=by omega
 obtain⟨z,hz⟩:∃z:Int,z=(m:Int) - (a:Int):=⟨_,rfl⟩
 have rA:IntKind.i64.wrap ((m:Int) - (a:Int))=z:=by rw[IntKind.wrap_i64];omega
 have hz1:¬z=1:=by omega
 have hz2:(z==1)=false:=by simpa using hz1
 have rB:IntKind.i64.wrap ((b:Int) - (m:Int))=1:=by rw[IntKind.wrap_i64];omega
 have HB:=Zz hB
 clear O C hp h1 h2 hr hA hz hB
 go_enter Tryz.func175,Tryz.ntmps175
 go_wp2_with fail
 clear hz1 hz2
 go_loopw [14,15] (fun vi vj wr=>∃lo hi:Nat,vi= .int .i64 lo∧vj= .int .i64 hi∧a≤lo∧lo≤hi∧hi≤m∧S d wr∧Hid ((∀t,a≤t→t<lo→LL (Zm cv) (at12 d t) (at12 d m))∧(∀t,hi≤t→t<m→LL (Zm cv) (at12 d m) (at12 d t))))
  (fun vi vj _=>(intOf vj).toNat - (intOf vi).toNat)
 case atStart=>exact⟨a,m,rfl,rfl,Nat.le_refl _,by omega,Nat.le_refl _,h,Zz ⟨fun t x1 x2=>by omega,fun t x1 x2=>by omega⟩⟩
 case round=>
  clear h;obtain⟨lo,hi,rfl,rfl,hml,hlh,hhb,hS,HJ⟩:=hrel;obtain⟨wc,rfl⟩:∃W,W=wr:=⟨wr,rfl⟩;by_cases hlt:lo<hi
  · have hlt':(lo:Int)<(hi:Int):=by omega
    obtain⟨s,hs⟩:∃s:Nat,s=lo+hi:=⟨_,rfl⟩;obtain⟨x,hx⟩:∃h:Nat,h=s/2:=⟨_,rfl⟩;have rs:IntKind.i64.wrap ((lo:Int)+(hi:Int))=(s:Int):=by rw[IntKind.wrap_i64];omega
    have rx:(s:Int)/2=(x:Int):=by omega
    have hx1:lo≤x:=by omega
    have hx2:x<hi:=by omega
    obtain⟨v,hv⟩:∃v,cv (at12 d m) (at12 d x)=v:=⟨_,rfl⟩;have KC:Hid (∀W,S d W→Calls Tryz.prog 139 #[.int .i64 (at12 d m:Int),.int .i64 (at12 d x:Int),.pointer (some ⟨qf,0,none⟩)] W fun e W'=>e= .returned (.int .i64 v)∧Below W.heap.size W W'):=Zz fun W hW=>by
     rw[←hv];exact HCm.out d W _ _ hW (at_range HP.out (by omega)) (at_range HP.out (by omega))
    have bn_x:x<n:=by omega
    have bn_x2:(x:Int)<(n:Int):=by omega
    have bn_m:m<n:=by omega
    have bn_m2:(m:Int)<(n:Int):=by omega
    have HV:=Zz hv;have hwi:IntKind.i64.wrap ((x:Int)+1)=(x:Int)+1:=IntWalk.i64_in _ (by omega);clear hs hx hv;by_cases hlv:v<0
    · have hld:decide (v<0)=true:=decide_eq_true hlv;have HN:Hid ((∀t,a≤t→t<lo→LL (Zm cv) (at12 d t) (at12 d m))∧(∀t,x≤t→t<m→LL (Zm cv) (at12 d m) (at12 d t))):=Zz ⟨HJ.out.1,fun t t1 t2=>by
       have hl:LL (Zm cv) (at12 d m) (at12 d x):=.inl (lt_yes (by rw[HV.out];exact hlv));by_cases e:t=x
       · subst e;exact hl
       · exact LL.trans HO.out hl (H1.out x t (by omega) (by omega) t2)⟩;clear HJ HV;go_wp2_with fail;have HBS:Hid (∀W,Below wc.heap.size wc W→S d W):=Zz (fun W hB=>HC.out _ _ hS hB);clear hS;refine rmx wc f12 (by kernel_rfl) (by kernel_rfl) ?_;simp only[Zg,f12,Lm,Ln];repeat ((first|(refine Zb (by rfl) ?_)|(refine mrd HBS _ (by rfl) (fun W hW=>by(have c0:=Zk (K.out.whole _ _ hW) (i:=m) (by omega);have c1:=Zk (K.out.whole _ _ hW) (i:=x) (by omega);go_simp;first|done|with_reducible rfl)) ?_)|(refine mcl HBS _ _ _ (by rfl) (fun W hW=>by(have c0:=Zk (K.out.whole _ _ hW) (i:=m) (by omega);have c1:=Zk (K.out.whole _ _ hW) (i:=x) (by omega);go_simp;first|done|rfl)) (fun W hW=>KC.out W (HBS.out W hW)) ?_));simp only[Act.put,La,Lb,Lc])
      refine Zd (fun W hW=>?_);have hS:=HBS.out W hW;clear hW HBS KC hlv hld;go_wp2_with fail;go_roundw
      case rel=>exact⟨lo,x,rfl,rfl,hml,hx1,by omega,hS,HN⟩
      case measure=>simp[intOf];omega
    · have hld:decide (v<0)=false:=decide_eq_false hlv;have HN:Hid ((∀t,a≤t→t<x+1→LL (Zm cv) (at12 d t) (at12 d m))∧(∀t,hi≤t→t<m→LL (Zm cv) (at12 d m) (at12 d t))):=Zz ⟨fun t t1 t2=>by
       have hl:LL (Zm cv) (at12 d x) (at12 d m):=.inr ⟨lt_no (by rw[HV.out];exact hlv),HR.out x m (by omega) (by omega) (by omega) (by omega)⟩;by_cases e:t=x
       · subst e;exact hl
       · exact LL.trans HO.out (H1.out t x t1 (by omega) (by omega)) hl,HJ.out.2⟩;clear HJ HV;go_wp2_with fail;have HBS:Hid (∀W,Below wc.heap.size wc W→S d W):=Zz (fun W hB=>HC.out _ _ hS hB);clear hS;refine rmx wc f12 (by kernel_rfl) (by kernel_rfl) ?_;simp only[Zg,f12,Lm,Ln];repeat ((first|(refine Zb (by rfl) ?_)|(refine mrd HBS _ (by rfl) (fun W hW=>by(have c0:=Zk (K.out.whole _ _ hW) (i:=m) (by omega);have c1:=Zk (K.out.whole _ _ hW) (i:=x) (by omega);go_simp;first|done|with_reducible rfl)) ?_)|(refine mcl HBS _ _ _ (by rfl) (fun W hW=>by(have c0:=Zk (K.out.whole _ _ hW) (i:=m) (by omega);have c1:=Zk (K.out.whole _ _ hW) (i:=x) (by omega);go_simp;first|done|rfl)) (fun W hW=>KC.out W (HBS.out W hW)) ?_));simp only[Act.put,La,Lb,Lc])
      refine Zd (fun W hW=>?_);have hS:=HBS.out W hW;clear hW HBS KC hlv hld;go_wp2_with fail;go_roundw
      case rel=>exact⟨x+1,hi,by go_num,rfl,by omega,hx2,hhb,hS,HN⟩
      case measure=>simp[intOf];omega
  · obtain rfl:lo=hi:=by omega
    have HI1:=Zz (And.intro hml hhb);have HS:=Zz hS;clear hml hhb hlt hlh hS;go_wp2_with fail;go_loopw [17] (fun vk wr=>∃(k:Nat) (dk:List Nat),vk= .int .i64 k∧lo≤k∧k≤m∧S dk wr∧Hid (dk.Perm d∧∀x,at12 dk x=rot12 (at12 d) k m (m+1) x))
     (fun vk _=>(intOf vk).toNat)
    case atStart=>exact⟨m,d,rfl,HI1.out.2,Nat.le_refl _,HS.out,Zz ⟨List.Perm.refl _,fun x=>(rot_none_left x).symm⟩⟩
    case round=>
     obtain⟨k,dk,rfl,hak,hki,hS,HK⟩:=hrel;have hlk:=K.out.len _ _ hS;by_cases hlt:lo<k
     · have hlt':(lo:Int)<(k:Int):=by omega
       obtain⟨q,hq⟩:∃q,q+1=k:=⟨k - 1,by omega⟩;have rq:IntKind.i64.wrap ((k:Int) - 1)=(q:Int):=by rw[IntKind.wrap_i64];omega
       have HN:Hid ((swp12 dk k q).Perm d∧∀x,at12 (swp12 dk k q) x=rot12 (at12 d) q m (m+1) x):=Zz (by
        subst hq;exact⟨(swp_perm (by omega) (by omega)).trans HK.out.1,rot_stepL HK.out.2 hki (by omega) rfl⟩);have bk:k<n:=by omega
       have bk2:(k:Int)<(n:Int):=by omega
       have bq:q<n:=by omega
       have bq2:(q:Int)<(n:Int):=by omega
       have HQ:=Zz (And.intro hq (And.intro hki hlt));clear hq HK;go_wp2_with fail;refine region_tree (fun _=>True) (.fork [(0,false),(1,false),(2,false),(3,false),(4,false),(5,false),(6,false),(7,false),(8,false),(10,false),(11,false),(12,false)] 9 13 (.last [(13,true),(14,false),(15,true),(16,false),(17,true)]) (.last [(9,true),(14,false),(15,true),(16,false),(17,true)])) (by kernel_rfl) (by kernel_rfl) (S dk) ⟨K.out.closed dk,fun _ _=>trivial⟩ ((K.out.closed dk).drew hS) ?_;clear hS;simp only[wpTree,Zg,Lm,Ln];repeat ((first|(refine Zb (by rfl) ?_)|(refine Zn _ (by rfl) (fun W hW=>by(clear hW;go_simp;first|done|with_reducible rfl)) ?_));simp only[Act.put,La,Lb,Lc])
       refine Zd (fun hF=>⟨?_,?_⟩)
       · refine mix_look (.int .i64 (at12 dk q:Int)) ⟨K.out.closed dk,fun _ _=>trivial⟩ (by rfl) (fun W hW=>by(have c0:=Zk (K.out.whole _ _ hW) (i:=q) (by omega);clear hW;go_simp;first|done|with_reducible rfl)) ?_;simp only[Act.put,La,Lb,Lc];refine Zd ?_;refine mix_look (.int .i64 (at12 dk k:Int)) ⟨K.out.closed dk,fun _ _=>trivial⟩ (by rfl) (fun W hW=>by(have c0:=Zk (K.out.whole _ _ hW) (i:=k) (by omega);clear hW;go_simp;first|done|with_reducible rfl)) ?_;simp only[Act.put,La,Lb,Lc];repeat ((first|(refine Zb (by rfl) ?_)|(refine Zn _ (by rfl) (fun W hW=>by(clear hW;go_simp;first|done|with_reducible rfl)) ?_));simp only[Act.put,La,Lb,Lc])
         refine mix_store (S (dk.set k (at12 dk q))) (fun W=>W.setCell ⟨g,k,none⟩ (.int .i64 ((at12 dk q):Int))) ⟨K.out.closed _,fun _ _=>trivial⟩ (by rfl) (fun W hW=>by(have c0:=Zk (K.out.whole _ _ hW) (i:=k) (by first|omega|(simp;omega));have f0:=(K.out.whole _ _ hW).frozen k;clear hW;go_simp;first|done|with_reducible rfl)) (fun W hW=>K.out.set _ _ _ _ hW (by first|omega|(simp;omega))) ?_;simp only[Act.put,La,Lb,Lc];repeat ((first|(refine Zb (by rfl) ?_)|(refine Zn _ (by rfl) (fun W hW=>by(clear hW;go_simp;first|done|with_reducible rfl)) ?_));simp only[Act.put,La,Lb,Lc])
         refine mix_store (S ((dk.set k (at12 dk q)).set q (at12 dk k))) (fun W=>W.setCell ⟨g,q,none⟩ (.int .i64 ((at12 dk k):Int))) ⟨K.out.closed _,fun _ _=>trivial⟩ (by rfl) (fun W hW=>by(have c0:=Zk (K.out.whole _ _ hW) (i:=q) (by first|omega|(simp;omega));have f0:=(K.out.whole _ _ hW).frozen q;clear hW;go_simp;first|done|with_reducible rfl)) (fun W hW=>K.out.set _ _ _ _ hW (by first|omega|(simp;omega))) ?_;simp only[Act.put,La,Lb,Lc];refine Zd (fun W hS=>?_);have HN2:=HN;go_wp2_with fail;go_roundw
         case rel=>exact⟨q,swp12 dk k q,rfl,by have :=HQ.out;omega,by have :=HQ.out;omega,hS,HN2⟩
         case measure=>have :=HQ.out;simp[intOf];omega
       · refine mix_look (.int .i64 (at12 dk k:Int)) ⟨K.out.closed dk,fun _ _=>trivial⟩ (by rfl) (fun W hW=>by(have c0:=Zk (K.out.whole _ _ hW) (i:=k) (by omega);clear hW;go_simp;first|done|with_reducible rfl)) ?_;simp only[Act.put,La,Lb,Lc];refine Zd ?_;refine mix_look (.int .i64 (at12 dk q:Int)) ⟨K.out.closed dk,fun _ _=>trivial⟩ (by rfl) (fun W hW=>by(have c0:=Zk (K.out.whole _ _ hW) (i:=q) (by omega);clear hW;go_simp;first|done|with_reducible rfl)) ?_;simp only[Act.put,La,Lb,Lc];repeat ((first|(refine Zb (by rfl) ?_)|(refine Zn _ (by rfl) (fun W hW=>by(clear hW;go_simp;first|done|with_reducible rfl)) ?_));simp only[Act.put,La,Lb,Lc])
         refine mix_store (S (dk.set k (at12 dk q))) (fun W=>W.setCell ⟨g,k,none⟩ (.int .i64 ((at12 dk q):Int))) ⟨K.out.closed _,fun _ _=>trivial⟩ (by rfl) (fun W hW=>by(have c0:=Zk (K.out.whole _ _ hW) (i:=k) (by first|omega|(simp;omega));have f0:=(K.out.whole _ _ hW).frozen k;clear hW;go_simp;first|done|with_reducible rfl)) (fun W hW=>K.out.set _ _ _ _ hW (by first|omega|(simp;omega))) ?_;simp only[Act.put,La,Lb,Lc];repeat ((first|(refine Zb (by rfl) ?_)|(refine Zn _ (by rfl) (fun W hW=>by(clear hW;go_simp;first|done|with_reducible rfl)) ?_));simp only[Act.put,La,Lb,Lc])
         refine mix_store (S ((dk.set k (at12 dk q)).set q (at12 dk k))) (fun W=>W.setCell ⟨g,q,none⟩ (.int .i64 ((at12 dk k):Int))) ⟨K.out.closed _,fun _ _=>trivial⟩ (by rfl) (fun W hW=>by(have c0:=Zk (K.out.whole _ _ hW) (i:=q) (by first|omega|(simp;omega));have f0:=(K.out.whole _ _ hW).frozen q;clear hW;go_simp;first|done|with_reducible rfl)) (fun W hW=>K.out.set _ _ _ _ hW (by first|omega|(simp;omega))) ?_;simp only[Act.put,La,Lb,Lc];refine Zd (fun W hS=>?_);have HN2:=HN;go_wp2_with fail;go_roundw
         case rel=>exact⟨q,swp12 dk k q,rfl,by have :=HQ.out;omega,by have :=HQ.out;omega,hS,HN2⟩
         case measure=>have :=HQ.out;simp[intOf];omega
     · obtain rfl:k=lo:=by omega
       have HF:Hid (Mv12 a b d dk∧Srt (Zm cv) dk a b):=Zz (by
        obtain⟨e2,e3⟩:=HI1.out;have hB:=HB.out;subst hB;exact⟨(mv_rot e3 (by omega) HK.out.1.length_eq HK.out.1 HK.out.2).mono e2 (Nat.le_refl _),right_done HO.out H1.out e2 e3 HK.out.2 HJ.out.1 HJ.out.2⟩);go_wp2_with fail;refine bodyPost_ret (results_none rfl _ _ _) rfl ?_;exact⟨rfl,dk,hS,HF.out.1,HF.out.2⟩
theorem symMergeC_any {S:List Nat→World→Prop} {g n qf:Nat} {cv:Nat→Nat→Int} (K:Kit12 S g n) (C:Cmp12 S n qf cv) (O:Ord12 (Zm cv)) {d:List Nat} (hn:n≤1099511627776) (hp:d.Perm (List.range n)) (a m b cap:Nat) (ham:a<m) (hmb:m<b) (hbn:b≤n)
 (h1:Srt (Zm cv) d a m) (h2:Srt (Zm cv) d m b) (hr:Rise d a m b) (hA:¬m=a+1) (hB:¬b=m+1) (IH:Hid (∀(d1:List Nat) (a1 m1 b1:Nat) (w1:World),b1 - a1<b - a→d1.Perm (List.range n)→a1<m1→m1<b1→b1≤n→Srt (Zm cv) d1 a1 m1→Srt (Zm cv) d1 m1 b1→Rise d1 a1 m1 b1→S d1 w1 →
  Calls Tryz.prog 175 #[.slice (some ⟨g,0,none⟩) n cap,.int .i64 a1,.int .i64 m1,.int .i64 b1,.func (.func 139) #[] #[.pointer (some ⟨qf,0,none⟩)]] w1 fun e w'=>e= .returned (.tuple #[])∧∃d',S d' w'∧Mv12 a1 b1 d1 d'∧Srt (Zm cv) d' a1 b1)) {w:World} (h:S d w):
 Calls Tryz.prog 175 #[.slice (some ⟨g,0,none⟩) n cap,.int .i64 a,.int .i64 m,.int .i64 b,.func (.func 139) #[] #[.pointer (some ⟨qf,0,none⟩)]] w fun e w'=>e= .returned (.tuple #[])∧∃d',S d' w'∧Mv12 a b d d'∧Srt (Zm cv) d' a b:=by
 replace K:=Zz K
 have HO:=Zz O
 have HCm:=Zz C
 have HP:=Zz hp
 have H1:=Zz h1
 have H2:=Zz h2
 have HR:=Zz hr
 have HC:=Zz (K.out.closed d)
 have hln:=K.out.len _ _ h
 have ham':(a:Int)<(m:Int):=by omega
 have hmb':(m:Int)<(b:Int):=by omega
 have hbn':(b:Int)≤(n:Int):=by omega
 obtain⟨z,hz⟩:∃z:Int,z=(m:Int) - (a:Int):=⟨_,rfl⟩
 have rA:IntKind.i64.wrap ((m:Int) - (a:Int))=z:=by rw[IntKind.wrap_i64];omega
 have hz1:¬z=1:=by omega
 have hz2:(z==1)=false:=by simpa using hz1
 obtain⟨y,hy⟩:∃z:Int,z=(b:Int) - (m:Int):=⟨_,rfl⟩
 have rB:IntKind.i64.wrap ((b:Int) - (m:Int))=y:=by rw[IntKind.wrap_i64];omega
 have hy1:¬y=1:=by omega
 have hy2:(y==1)=false:=by simpa using hy1
 obtain⟨sab,hsab⟩:∃s:Nat,s=a+b:=⟨_,rfl⟩
 obtain⟨mid,hmid⟩:∃h:Nat,h=sab/2:=⟨_,rfl⟩
 have rsab:IntKind.i64.wrap ((a:Int)+(b:Int))=(sab:Int):=by rw[IntKind.wrap_i64];omega
 have rmid:(sab:Int)/2=(mid:Int):=by omega
 obtain⟨nn,hnn⟩:∃nn,nn=mid+m:=⟨_,rfl⟩
 have rnn:IntKind.i64.wrap ((mid:Int)+(m:Int))=(nn:Int):=by rw[IntKind.wrap_i64];omega
 obtain⟨p,hp'⟩:∃p,p+1=nn:=⟨nn - 1,by omega⟩
 have rp:IntKind.i64.wrap ((nn:Int) - 1)=(p:Int):=by rw[IntKind.wrap_i64];omega
 have umid:IntKind.u64.wrap (sab:Int)=(sab:Int):=by rw[IntKind.wrap_u64];omega
 have bmid:mid<n:=by omega
 have bmid':(mid:Int)<(n:Int):=by omega
 have bsab:sab<n+n:=by omega
 have HM:Hid (mid=(a+b)/2∧nn=mid+m∧p+1=nn):=Zz (by omega)
 have rnb:b≤nn→IntKind.i64.wrap ((nn:Int) - (b:Int))=((nn - b:Nat):Int):=fun hb=>by rw[IntKind.wrap_i64];omega
 have RNB:=Zz rnb
 clear O C hp h1 h2 hr hA hB hz hy hnn hp' hsab hmid rnb
 go_enter Tryz.func175,Tryz.ntmps175
 go_upto_region 27 with (fail)
 clear hz1 hz2 hy1 hy2
 go_cut [140] from 138 to 140 (fun v wx=>∃nb:Bool,v= .bool nb∧(wx=w∧Hid (nb=decide (mid<m))))
 case first=>
  go_wp2_with fail;go_meet
  exact⟨_,rfl,rfl,Zz (by first|rfl|(rw[Bool.eq_iff_iff];simp))⟩
 case rest=>
 obtain⟨nb,rfl,hwc,HNB⟩:=hcut
 rw[hwc]
 clear hwc
 go_upto_if 140 with (fail)
 go_cut [20,21] from 141 to 146 (fun v1 v2 wx=>∃s0 r0:Nat,v1= .int .i64 s0∧v2= .int .i64 r0∧(wx=w∧Hid (Bnd a m b nn s0 r0)))
 case first=>
  cases nb
  · have hle:¬mid<m:=of_decide_eq_false HNB.out.symm;go_wp2_with fail;go_meet
    exact⟨a,m,rfl,rfl,rfl,Zz ⟨ham,hmb,by have :=HM.out;omega,.inl ⟨rfl,rfl,by have :=HM.out;omega⟩⟩⟩
  · have hlt:mid<m:=of_decide_eq_true HNB.out.symm;have rnb:=RNB.out (by have :=HM.out;omega);go_wp2_with fail;go_meet
    exact⟨nn - b,mid,rfl,rfl,rfl,Zz ⟨ham,hmb,by have :=HM.out;omega,.inr ⟨rfl,by have :=HM.out;omega,by have :=HM.out;omega⟩⟩⟩
 case rest=>
 obtain⟨s0,r0,rfl,rfl,hwc,HBN⟩:=hcut
 rw[hwc]
 clear hwc HNB
 have hb1:=HBN.out
 have hsr:s0≤r0∧r0≤m∧a≤s0∧r0≤mid:=by
  obtain⟨x1,x2,x3,x4⟩:=hb1;have :=HM.out;omega
 clear hb1
 go_wp2_with fail
 go_loopw [20,21] (fun vi vj wr=>∃lo hi:Nat,vi= .int .i64 lo∧vj= .int .i64 hi∧s0≤lo∧lo≤hi∧hi≤r0∧S d wr∧Hid (Found (Zm cv) d nn s0 r0 lo hi))
  (fun vi vj _=>(intOf vj).toNat - (intOf vi).toNat)
 case atStart=>exact⟨s0,r0,rfl,rfl,Nat.le_refl _,hsr.1,Nat.le_refl _,h,Zz ⟨fun t x1 x2=>by omega,fun t x1 x2=>by omega⟩⟩
 case round=>
  clear h;obtain⟨lo,hi,rfl,rfl,hml,hlh,hhb,hS,HJ⟩:=hrel;obtain⟨wk,rfl⟩:∃W,W=wr:=⟨wr,rfl⟩;by_cases hlt:lo<hi
  · have hlt':(lo:Int)<(hi:Int):=by omega
    obtain⟨s,hs⟩:∃s:Nat,s=lo+hi:=⟨_,rfl⟩;obtain⟨x,hx⟩:∃h:Nat,h=s/2:=⟨_,rfl⟩;have rs:IntKind.i64.wrap ((lo:Int)+(hi:Int))=(s:Int):=by rw[IntKind.wrap_i64];omega
    have rx:(s:Int)/2=(x:Int):=by omega
    have hx1:lo≤x:=by omega
    have hx2:x<hi:=by omega
    have hmm:=HM.out;obtain⟨y,hy⟩:∃y,y=nn - 1 - x:=⟨_,rfl⟩;have ry:IntKind.i64.wrap ((p:Int) - (x:Int))=(y:Int):=by rw[IntKind.wrap_i64];omega
    have hyn:y<n:=by
     obtain⟨x1,x2,x3,x4⟩:=HBN.out;omega
    obtain⟨v,hv⟩:∃v,cv (at12 d y) (at12 d x)=v:=⟨_,rfl⟩;have KC:Hid (∀W,S d W→Calls Tryz.prog 139 #[.int .i64 (at12 d y:Int),.int .i64 (at12 d x:Int),.pointer (some ⟨qf,0,none⟩)] W fun e W'=>e= .returned (.int .i64 v)∧Below W.heap.size W W'):=Zz fun W hW=>by
     rw[←hv];exact HCm.out d W _ _ hW (at_range HP.out (by omega)) (at_range HP.out (by omega))
    have bn_x:x<n:=by omega
    have bn_x2:(x:Int)<(n:Int):=by omega
    have bn_y:y<n:=by omega
    have bn_y2:(y:Int)<(n:Int):=by omega
    have HV:Hid (cv (at12 d (nn - 1 - x)) (at12 d x)=v):=Zz (by rw[←hy];exact hv);have hwi:IntKind.i64.wrap ((x:Int)+1)=(x:Int)+1:=IntWalk.i64_in _ (by omega);clear hs hx hv hy hyn hmm;by_cases hlv:v<0
    · have hld:decide (v<0)=true:=decide_eq_true hlv;have HN:Hid (Found (Zm cv) d nn s0 r0 lo x):=Zz (found_right HO.out HBN.out H1.out H2.out HJ.out (by omega) (by omega) (lt_yes (by rw[HV.out];exact hlv)));clear HJ HV;go_wp2_with fail;have HBS:Hid (∀W,Below wk.heap.size wk W→S d W):=Zz (fun W hB=>HC.out _ _ hS hB);clear hS;refine rmx wk f14 (by kernel_rfl) (by kernel_rfl) ?_;simp only[Zg,f14,Lm,Ln];repeat ((first|(refine Zb (by rfl) ?_)|(refine mrd HBS _ (by rfl) (fun W hW=>by(have c0:=Zk (K.out.whole _ _ hW) (i:=x) (by omega);have c1:=Zk (K.out.whole _ _ hW) (i:=y) (by omega);go_simp;first|done|with_reducible rfl)) ?_)|(refine mcl HBS _ _ _ (by rfl) (fun W hW=>by(have c0:=Zk (K.out.whole _ _ hW) (i:=x) (by omega);have c1:=Zk (K.out.whole _ _ hW) (i:=y) (by omega);go_simp;first|done|rfl)) (fun W hW=>KC.out W (HBS.out W hW)) ?_));simp only[Act.put,La,Lb,Lc])
      refine Zd (fun W hW=>?_);have hS:=HBS.out W hW;clear hW HBS KC hlv hld;go_wp2_with fail;go_roundw
      case rel=>exact⟨lo,x,rfl,rfl,hml,hx1,by omega,hS,HN⟩
      case measure=>simp[intOf];omega
    · have hld:decide (v<0)=false:=decide_eq_false hlv;have HN:Hid (Found (Zm cv) d nn s0 r0 (x+1) hi):=Zz (found_left HO.out HBN.out HR.out H1.out H2.out HJ.out (by omega) (by omega) (lt_no (by rw[HV.out];exact hlv)));clear HJ HV;go_wp2_with fail;have HBS:Hid (∀W,Below wk.heap.size wk W→S d W):=Zz (fun W hB=>HC.out _ _ hS hB);clear hS;refine rmx wk f14 (by kernel_rfl) (by kernel_rfl) ?_;simp only[Zg,f14,Lm,Ln];repeat ((first|(refine Zb (by rfl) ?_)|(refine mrd HBS _ (by rfl) (fun W hW=>by(have c0:=Zk (K.out.whole _ _ hW) (i:=x) (by omega);have c1:=Zk (K.out.whole _ _ hW) (i:=y) (by omega);go_simp;first|done|with_reducible rfl)) ?_)|(refine mcl HBS _ _ _ (by rfl) (fun W hW=>by(have c0:=Zk (K.out.whole _ _ hW) (i:=x) (by omega);have c1:=Zk (K.out.whole _ _ hW) (i:=y) (by omega);go_simp;first|done|rfl)) (fun W hW=>KC.out W (HBS.out W hW)) ?_));simp only[Act.put,La,Lb,Lc])
      refine Zd (fun W hW=>?_);have hS:=HBS.out W hW;clear hW HBS KC hlv hld;go_wp2_with fail;go_roundw
      case rel=>exact⟨x+1,hi,by go_num,rfl,by omega,hx2,hhb,hS,HN⟩
      case measure=>simp[intOf];omega
  · obtain rfl:lo=hi:=by omega
    have hmm:=HM.out;obtain⟨e,he⟩:∃e,e=nn - lo:=⟨_,rfl⟩;have re:IntKind.i64.wrap ((nn:Int) - (lo:Int))=(e:Int):=by rw[IntKind.wrap_i64];omega
    have HE:Hid ((a≤lo∧lo≤m∧m≤e∧e≤b∧mid=lo+(e - m))∧(a<mid∧mid<b∧lo≤mid∧mid≤e)):=Zz (by
     obtain⟨x1,x2,x3,x4⟩:=HBN.out;omega);have HK:Hid ((∀x y,a≤x→x<lo→e≤y→y<b→LL (Zm cv) (at12 d x) (at12 d y))∧(∀y x,m≤y→y<e→lo≤x→x<m→LL (Zm cv) (at12 d y) (at12 d x))):=Zz (by
     rw[he];exact found_done HO.out HBN.out H1.out H2.out HJ.out hml hhb);have HS:=Zz hS;clear he hmm hlt hlh hml hhb hS HJ;go_upto_region 39 with (fail)
    go_cut [185] from 178 to 185 (fun v wx=>∃nb:Bool,v= .bool nb∧(wx=wk∧Hid (nb=(decide (lo<m)&&decide (m<e)))))
    case first=>
     by_cases c1:lo<m
     · have c1':(lo:Int)<(m:Int):=by omega
       have c1d:decide ((lo:Int)<(m:Int))=true:=decide_eq_true c1';have c1e:decide (lo<m)=true:=decide_eq_true c1;by_cases c2:m<e
       · have c2':(m:Int)<(e:Int):=by omega
         have c2d:decide ((m:Int)<(e:Int))=true:=decide_eq_true c2';have c2e:decide (m<e)=true:=decide_eq_true c2;go_wp2_with fail;go_meet
         exact⟨true,rfl,rfl,Zz (by simp[c1,c2])⟩
       · have c2':¬(m:Int)<(e:Int):=by omega
         have c2d:decide ((m:Int)<(e:Int))=false:=decide_eq_false c2';have c2e:decide (m<e)=false:=decide_eq_false c2;go_wp2_with fail;go_meet
         exact⟨false,rfl,rfl,Zz (by simp[c2])⟩
     · have c1':¬(lo:Int)<(m:Int):=by omega
       have c1d:decide ((lo:Int)<(m:Int))=false:=decide_eq_false c1';have c1e:decide (lo<m)=false:=decide_eq_false c1;go_wp2_with fail;go_meet
       exact⟨false,rfl,rfl,Zz (by simp[c1])⟩
    case rest=>
    obtain⟨nb,rfl,hwc,HNB⟩:=hcut;rw[hwc];clear hwc;go_upto_if 185 with (fail)
    go_cut [] from 186 to 191 (fun wx=>∃d1:List Nat,S d1 wx∧Hid (d1.Perm d∧∀x,at12 d1 x=rot12 (at12 d) lo m e x))
    case first=>
     cases nb
     · have HF:Hid (∀x,at12 d x=rot12 (at12 d) lo m e x):=Zz fun x=>by
        have h1:=HNB.out.symm;rw[Bool.and_eq_false_iff,decide_eq_false_iff_not,decide_eq_false_iff_not] at h1;have h2:=HE.out.1;rcases(by omega:lo=m∨m=e) with rfl|rfl
        · exact(rot_none_left x).symm
        · exact(rot_none_right x).symm
       have hS:=HS.out;go_wp2_with fail;go_meet
       exact⟨d,hS,Zz ⟨List.Perm.refl _,HF.out⟩⟩
     · have KR:=Zz (rotate_any K.out hn lo m e cap (by have :=HNB.out;simp at this;omega) (by have :=HNB.out;simp at this;omega) (by have :=HE.out;omega) (.func (.func 139) #[] #[.pointer (some ⟨qf,0,none⟩)]) HS.out);go_wp2_with fail;refine KR.out.mono ?_;rintro e' w2 ⟨rfl,d1,hS,hp1,hc1⟩;go_wp2_with fail;go_meet
       exact⟨d1,hS,Zz ⟨hp1,hc1⟩⟩
    case rest=>
    obtain⟨d1,hS1,HD1⟩:=hcut;have HS1:=Zz hS1;have HPT:Hid (Parted (Zm cv) d1 a lo mid e b):=Zz (by
     obtain⟨⟨x1,x2,x3,x4,x5⟩,_⟩:=HE.out;exact parted HR.out H1.out H2.out x1 x2 x3 x4 x5 HD1.out.2 HK.out.1 HK.out.2);have HM1:Hid (Mv12 a b d d1):=Zz (by
     obtain⟨⟨x1,x2,x3,x4,x5⟩,_⟩:=HE.out;exact(mv_rot x2 x3 HD1.out.1.length_eq HD1.out.1 HD1.out.2).mono x1 x4);clear hS1 HD1 HK HNB HS;obtain⟨wd,rfl⟩:∃W,W=wc:=⟨wc,rfl⟩;go_upto_region 41 with (fail)
    go_cut [199] from 192 to 199 (fun v wx=>∃nb:Bool,v= .bool nb∧(wx=wd∧Hid (nb=(decide (a<lo)&&decide (lo<mid)))))
    case first=>
     by_cases c1:a<lo
     · have c1':(a:Int)<(lo:Int):=by omega
       have c1d:decide ((a:Int)<(lo:Int))=true:=decide_eq_true c1';have c1e:decide (a<lo)=true:=decide_eq_true c1;by_cases c2:lo<mid
       · have c2':(lo:Int)<(mid:Int):=by omega
         have c2d:decide ((lo:Int)<(mid:Int))=true:=decide_eq_true c2';have c2e:decide (lo<mid)=true:=decide_eq_true c2;go_wp2_with fail;go_meet
         exact⟨true,rfl,rfl,Zz (by simp[c1,c2])⟩
       · have c2':¬(lo:Int)<(mid:Int):=by omega
         have c2d:decide ((lo:Int)<(mid:Int))=false:=decide_eq_false c2';have c2e:decide (lo<mid)=false:=decide_eq_false c2;go_wp2_with fail;go_meet
         exact⟨false,rfl,rfl,Zz (by simp[c2])⟩
     · have c1':¬(a:Int)<(lo:Int):=by omega
       have c1d:decide ((a:Int)<(lo:Int))=false:=decide_eq_false c1';have c1e:decide (a<lo)=false:=decide_eq_false c1;go_wp2_with fail;go_meet
       exact⟨false,rfl,rfl,Zz (by simp[c1])⟩
    case rest=>
    obtain⟨nb,rfl,hwc,HNB⟩:=hcut;rw[hwc];clear hwc;go_upto_if 199 with (fail)
    go_cut [] from 200 to 205 (fun wx=>∃d2:List Nat,S d2 wx∧Hid (Mv12 a mid d1 d2∧Srt (Zm cv) d2 a mid))
    case first=>
     cases nb
     · have HF:Hid (Srt (Zm cv) d1 a mid):=Zz (by
        have h1:=HNB.out.symm;rw[Bool.and_eq_false_iff,decide_eq_false_iff_not,decide_eq_false_iff_not] at h1;have h2:=HE.out;rcases(by omega:a=lo∨lo=mid) with h3|h3
        · rw[h3];exact HPT.out.p2
        · rw[←h3];exact HPT.out.p1);have hS:=HS1.out;go_wp2_with fail;go_meet
       exact⟨d1,hS,Zz ⟨Mv12.refl _ _ _,HF.out⟩⟩
     · have KR:=Zz (IH.out d1 a lo mid wd (by have :=HE.out;omega) (HM1.out.perm.trans HP.out) (by have :=HNB.out;simp at this;omega) (by have :=HNB.out;simp at this;omega) (by have :=HE.out;omega) HPT.out.p1 HPT.out.p2 HPT.out.r1 HS1.out);go_wp2_with fail;refine KR.out.mono ?_;rintro e' w2 ⟨rfl,d2,hS,hm2,hs2⟩;go_wp2_with fail;go_meet
       exact⟨d2,hS,Zz ⟨hm2,hs2⟩⟩
    case rest=>
    obtain⟨d2,hS2,HD2⟩:=hcut;have HS2:=Zz hS2;clear hS2 HNB HS1;obtain⟨we,rfl⟩:∃W,W=wc:=⟨wc,rfl⟩;have HSM:Hid (∀i,mid≤i→at12 d2 i=at12 d1 i):=Zz fun i hi=>HD2.out.1.out i (.inr hi);go_upto_region 43 with (fail)
    go_cut [213] from 206 to 213 (fun v wx=>∃nb:Bool,v= .bool nb∧(wx=we∧Hid (nb=(decide (mid<e)&&decide (e<b)))))
    case first=>
     by_cases c1:mid<e
     · have c1':(mid:Int)<(e:Int):=by omega
       have c1d:decide ((mid:Int)<(e:Int))=true:=decide_eq_true c1';have c1e:decide (mid<e)=true:=decide_eq_true c1;by_cases c2:e<b
       · have c2':(e:Int)<(b:Int):=by omega
         have c2d:decide ((e:Int)<(b:Int))=true:=decide_eq_true c2';have c2e:decide (e<b)=true:=decide_eq_true c2;go_wp2_with fail;go_meet
         exact⟨true,rfl,rfl,Zz (by simp[c1,c2])⟩
       · have c2':¬(e:Int)<(b:Int):=by omega
         have c2d:decide ((e:Int)<(b:Int))=false:=decide_eq_false c2';have c2e:decide (e<b)=false:=decide_eq_false c2;go_wp2_with fail;go_meet
         exact⟨false,rfl,rfl,Zz (by simp[c2])⟩
     · have c1':¬(mid:Int)<(e:Int):=by omega
       have c1d:decide ((mid:Int)<(e:Int))=false:=decide_eq_false c1';have c1e:decide (mid<e)=false:=decide_eq_false c1;go_wp2_with fail;go_meet
       exact⟨false,rfl,rfl,Zz (by simp[c1])⟩
    case rest=>
    obtain⟨nb,rfl,hwc,HNB⟩:=hcut;rw[hwc];clear hwc;go_upto_if 213 with (fail)
    cases nb
    · have HF:Hid (Mv12 a b d d2∧Srt (Zm cv) d2 a b):=Zz (by
       have h1:=HNB.out.symm;rw[Bool.and_eq_false_iff,decide_eq_false_iff_not,decide_eq_false_iff_not] at h1;have h2:=HE.out;have h3:Srt (Zm cv) d2 mid b:=by
        refine Srt.same ?_ (fun i i1 _=>HSM.out i i1);rcases(by omega:mid=e∨e=b) with h3|h3
        · rw[h3];exact HPT.out.p4
        · rw[←h3];exact HPT.out.p3
       exact⟨HM1.out.trans (HD2.out.1.mono (Nat.le_refl _) (by omega)),halves HPT.out.ahead HD2.out.1 HD2.out.2 (Mv12.refl _ _ _) h3⟩);have hS:=HS2.out;go_wp2_with fail;go_end0
      exact⟨rfl,d2,hS,HF.out.1,HF.out.2⟩
    · have KR:=Zz (IH.out d2 mid e b we (by have :=HE.out;omega) (HD2.out.1.perm.trans (HM1.out.perm.trans HP.out)) (by have :=HNB.out;simp at this;omega) (by have :=HNB.out;simp at this;omega) hbn (HPT.out.p3.same fun i i1 _=>HSM.out i i1) (HPT.out.p4.same fun i i1 _=>HSM.out i (by have :=HE.out;omega)) (fun x y x1 x2 y1 y2=>by rw[HSM.out x x1,HSM.out y (by have :=HE.out;omega)];exact HPT.out.r2 x y x1 x2 y1 y2) HS2.out);go_wp2_with fail;refine KR.out.mono ?_;rintro e' w2 ⟨rfl,d3,hS,hm3,hs3⟩;have HF:Hid (Mv12 a b d d3∧Srt (Zm cv) d3 a b):=Zz (by
       have h2:=HE.out;exact⟨(HM1.out.trans (HD2.out.1.mono (Nat.le_refl _) (by omega))).trans (hm3.mono (by omega) (Nat.le_refl _)),halves HPT.out.ahead HD2.out.1 HD2.out.2 hm3 hs3⟩);clear hm3 hs3;go_wp2_with fail;go_end0
      exact⟨rfl,d3,hS,HF.out.1,HF.out.2⟩
theorem symMerge_all {S:List Nat→World→Prop} {g n qf:Nat} {cv:Nat→Nat→Int} (K:Kit12 S g n) (C:Cmp12 S n qf cv) (O:Ord12 (Zm cv)) (hn:n≤1099511627776) (cap:Nat):∀(L a m b:Nat) (d:List Nat) (w:World),b - a≤L→d.Perm (List.range n)→a<m→m<b→b≤n→Srt (Zm cv) d a m→Srt (Zm cv) d m b→Rise d a m b→S d w →
 Calls Tryz.prog 175 #[.slice (some ⟨g,0,none⟩) n cap,.int .i64 a,.int .i64 m,.int .i64 b,.func (.func 139) #[] #[.pointer (some ⟨qf,0,none⟩)]] w fun e w'=>e= .returned (.tuple #[])∧∃d',S d' w'∧Mv12 a b d d'∧Srt (Zm cv) d' a b
 |0,a,m,b,d,w,hL,hp,ham,hmb,hbn,h1,h2,hr,h=>by omega
 |L+1,a,m,b,d,w,hL,hp,ham,hmb,hbn,h1,h2,hr,h=>by
  by_cases hA:m=a+1
  · exact symMergeA_any K C O hn hp a m b cap ham hmb hbn h1 h2 hr hA h
  · by_cases hB:b=m+1
    · exact symMergeB_any K C O hn hp a m b cap ham hmb hbn h1 h2 hr hA hB h
    · exact symMergeC_any K C O hn hp a m b cap ham hmb hbn h1 h2 hr hA hB (Zz fun d1 a1 m1 b1 w1 hlt=>symMerge_all K C O hn cap L a1 m1 b1 d1 w1 (by omega)) h
theorem symMerge_any {S:List Nat→World→Prop} {g n qf:Nat} {cv:Nat→Nat→Int} (K:Kit12 S g n) (C:Cmp12 S n qf cv) (O:Ord12 (Zm cv)) {d:List Nat} (hn:n≤1099511627776) (hp:d.Perm (List.range n)) (a m b cap:Nat) (ham:a<m) (hmb:m<b) (hbn:b≤n)
 (h1:Srt (Zm cv) d a m) (h2:Srt (Zm cv) d m b) (hr:Rise d a m b) {w:World} (h:S d w):
 Calls Tryz.prog 175 #[.slice (some ⟨g,0,none⟩) n cap,.int .i64 a,.int .i64 m,.int .i64 b,.func (.func 139) #[] #[.pointer (some ⟨qf,0,none⟩)]] w fun e w'=>e= .returned (.tuple #[])∧∃d',S d' w'∧Mv12 a b d d'∧Srt (Zm cv) d' a b:=
 symMerge_all K C O hn cap (b - a) a m b d w (Nat.le_refl _) hp ham hmb hbn h1 h2 hr h
end
end Go.Proofs.YtifnlhfinjfajaaGreatDoor
