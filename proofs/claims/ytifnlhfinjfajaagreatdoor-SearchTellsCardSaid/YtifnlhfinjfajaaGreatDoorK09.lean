/- Of this seat: Pick, SeaP, StbP, RnkP. -/
import Derived.Test.YtifnlhfinjfajaaGreatDoorK08
namespace Go.Proofs.YtifnlhfinjfajaaGreatDoor
set_option linter.unusedVariables false
set_option linter.unusedSimpArgs false
set_option maxRecDepth 100000
set_option maxHeartbeats 32000000
section
def pick (p:Nat→Bool):Nat→List Int
 |0=>[]
 |j+1=>pick p j++(if p j=true then [(j:Int)] else [])
theorem mem_pick {p:Nat→Bool} {x:Int}:∀ {n:Nat},x ∈ pick p n↔∃i:Nat,i<n∧x=i∧p i=true
 |0=>by simp[pick]
 |n+1=>by
  unfold pick;rw[List.mem_append,mem_pick];constructor
  · rintro(⟨i,h1,h2,h3⟩|h)
    · exact⟨i,by omega,h2,h3⟩
    · by_cases hp:p n=true
      · rw[if_pos hp] at h;exact⟨n,by omega,by simpa using h,hp⟩
      · rw[if_neg hp] at h;cases h
  · rintro⟨i,h1,rfl,h3⟩;by_cases hi:i<n
    · exact .inl ⟨i,hi,rfl,h3⟩
    · obtain rfl:i=n:=by omega
      exact .inr (by rw[if_pos h3];simp)
theorem pick_lt {p:Nat→Bool} {n:Nat} {x:Int} (h:x ∈ pick p n):0≤x∧x<n:=by
 obtain⟨i,h1,rfl,_⟩:=mem_pick.1 h;omega
def Rising (l:List Int):Prop:=l.Pairwise (· < ·)
theorem pick_rising (p:Nat→Bool):∀n,Rising (pick p n)
 |0=>List.Pairwise.nil
 |n+1=>by
  show List.Pairwise _ (pick p n++_);refine List.pairwise_append.2 ⟨pick_rising p n,?_,?_⟩
  · split
    · exact List.pairwise_singleton _ _
    · exact List.Pairwise.nil
  · intro x hx y hy;have h1:=pick_lt hx;split at hy
    · have :y=n:=by simpa using hy
      omega
    · cases hy
theorem pick_mono {p q:Nat→Bool} (h:∀i,p i=true→q i=true):∀n,(pick p n).length≤(pick q n).length
 |0=>Nat.le_refl _
 |n+1=>by
  have :=pick_mono h n;unfold pick;rw[List.length_append,List.length_append];by_cases hp:p n=true
  · rw[if_pos hp,if_pos (h n hp)];simp;omega
  · rw[if_neg hp];simp;omega
theorem pick_more {p q:Nat→Bool} (h:∀i,p i=true→q i=true) {b:Nat} (h1:p b=false) (h2:q b=true):∀ {n},b<n→(pick p n).length+1≤(pick q n).length
 |0,hb=>by omega
 |n+1,hb=>by
  unfold pick;rw[List.length_append,List.length_append];by_cases hbn:b<n
  · have :=pick_more h h1 h2 hbn;by_cases hp:p n=true
    · rw[if_pos hp,if_pos (h n hp)];simp;omega
    · rw[if_neg hp];simp;omega
  · obtain rfl:b=n:=by omega
    have :=pick_mono h b;rw[if_neg (by rw[h1];simp),if_pos h2];simp;omega
def Reach (near:Nat→Nat→Bool) (n s:Nat) (i:Nat):Prop:=∀S:Nat→Prop,S s→(∀a b,a<n→b<n→S a→near a b=true→S b)→S i
theorem Reach.self {near:Nat→Nat→Bool} {n s:Nat}:Reach near n s s:=fun S h _=>h
theorem Reach.next {near:Nat→Nat→Bool} {n s a b:Nat} (h:Reach near n s a) (ha:a<n) (hb:b<n) (hn:near a b=true):Reach near n s b:=fun S h0 hS=>hS a b ha hb (h S h0 hS) hn
theorem Reach.lt {near:Nat→Nat→Bool} {n s i:Nat} (h:Reach near n s i) (hs:s<n):i<n:=h (· <n) hs fun _ _ _ hb _ _=>hb
theorem Reach.trans {near:Nat→Nat→Bool} {n s a b:Nat} (h:Reach near n s a) (k:Reach near n a b):Reach near n s b:=k (Reach near n s) h fun x y hx hy hr hn=>hr.next hx hy hn
theorem Reach.symm {near:Nat→Nat→Bool} {n s i:Nat} (hs:s<n) (hsym:∀a b,a<n→b<n→near a b=true→near b a=true) (h:Reach near n s i):Reach near n i s:=
 (h (fun x=>x<n∧Reach near n x s) ⟨hs,Reach.self⟩ fun a b ha hb hr hn=>⟨hb,(Reach.next (a:=b) (b:=a) Reach.self hb ha (hsym a b ha hb hn)).trans hr.2⟩).2
def Shut (near:Nat→Nat→Bool) (n:Nat) (f:Nat→Bool):Prop:=∀a b,a<n→b<n→f a=true→near a b=true→f b=true
theorem reach_of_shut {near:Nat→Nat→Bool} {n s:Nat} {f:Nat→Bool} (hs:f s=true) (hf:Shut near n f) (hr:∀i,f i=true→Reach near n s i) (i:Nat):f i=true↔Reach near n s i:=
 ⟨hr i,fun h=>h (fun x=>f x=true) hs fun a b ha hb h1 h2=>hf a b ha hb h1 h2⟩
def Rounds (near:Nat→Nat→Bool) (n s k:Nat) (f:Nat→Bool):Prop:=f s=true∧(∀i,f i=true→Reach near n s i)∧(Shut near n f∨k+1≤(pick f n).length)
structure Round (near:Nat→Nat→Bool) (n s:Nat) (f g:Nat→Bool):Prop where
 up:∀i,f i=true→g i=true
 reach:∀i,g i=true→Reach near n s i
theorem Rounds.next {near:Nat→Nat→Bool} {n s k:Nat} {f g:Nat→Bool} (h:Rounds near n s k f) (r:Round near n s f g) (hall:∀a b,a<n→b<n→f a=true→near a b=true→g b=true):Rounds near n s (k+1) g:=by
 refine⟨r.up _ h.1,r.reach,?_⟩;rcases h.2.2 with hs|hc
 · left;have hfr:=reach_of_shut h.1 hs h.2.1;intro a b ha hb hga hn;have hra:=r.reach a hga;exact r.up _ ((hfr b).2 (hra.next ha hb hn))
 · by_cases hsh:Shut near n g
   · exact .inl hsh
   · right;have :∃b,b<n∧f b=false∧g b=true:=by
      apply Classical.byContradiction;intro hno;have hsame:∀b,b<n→g b=true→f b=true:=fun b hb hg=>by
       cases hfb:f b
       · exact absurd ⟨b,hb,hfb,hg⟩ hno
       · rfl
      exact hsh fun a b ha hb hga hn=>hall a b ha hb (hsame a ha hga) hn
     obtain⟨b,hb,h1,h2⟩:=this;have :=pick_more r.up h1 h2 hb;omega
end
section
open Go.RowKit Go.Shelf
abbrev Stp:Type:=Int×Int×Int
theorem outsTo_pick14 (n a b c d i:Int):∀j,outsTo n a b c d i j=pick (fun m=>goesV n a b c d i m) j
 |0=>rfl
 |j+1=>by
  show outsTo n a b c d i j++_=pick _ j++_;rw[outsTo_pick14 n a b c d i j]
theorem outsK_pick14 (k i:Int):outsK k i=pick (fun m=>goesK k i m) (pK k).toNat:=outsTo_pick14 _ _ _ _ _ _ _
theorem mem_outs {k i o:Int}:o ∈ outsK k i↔goesK k i o=true:=by
 rw[outsK_pick14,mem_pick];constructor
 · rintro⟨m,_,rfl,h⟩;exact h
 · intro h;have :=goesK_cases h;exact⟨o.toNat,by omega,by omega,by rw[show((o.toNat:Nat):Int)=o by omega];exact h⟩
theorem outs_nodup (k i:Int):(outsK k i).Nodup:=by
 rw[outsK_pick14];exact(pick_rising _ _).imp (fun h=>by omega)
theorem one_of_same {α:Type} {l:List α} (hn:l.Nodup) (h:∀a ∈ l,∀b ∈ l,a=b):l.length≤1:=by
 match l,hn,h with
 |[],_,_=>simp
 |[a],_,_=>simp
 |a::b::r,hn,h=>
  have :=h a (by simp) b (by simp);subst this;simp at hn
theorem goesK_one {k i a b:Int} (h:¬(k=2∧i=0)) (ha:goesK k i a=true) (hb:goesK k i b=true):a=b:=by
 unfold goesK goesV joinV nK bK cK dK at ha hb;by_cases h1:k=1
 · subst h1;simp at ha hb;omega
 · by_cases h2:k=2
   · subst h2;simp at ha hb;omega
   · by_cases h3:k=3
     · subst h3;simp at ha hb;omega
     · simp[h1,h2,h3] at ha
theorem outs_one {k i:Int} (h:¬(k=2∧i=0)):(outsK k i).length≤1:=
 one_of_same (outs_nodup k i) fun a ha b hb=>goesK_one h (mem_outs.1 ha) (mem_outs.1 hb)
theorem outs_two:outsK 2 0=[1,2]:=by decide
theorem outs_le2 (k i:Int):(outsK k i).length≤2:=by
 by_cases h:k=2∧i=0
 · rw[h.1,h.2,outs_two];simp
 · have :=outs_one h;omega
def onN (l:Lay) (q:Int×Int):List Stp:=(outsK (atV l q.1 q.2).k q.2).map (onward q)
theorem zero_kind:Sec.zero.k=0:=rfl
theorem mem_on {l:Lay} {q:Int×Int} {x:Stp}:x ∈ onN l q↔(x.1,x.2.1)=q∧stepV l x.1 x.2.1 x.2.2=true:=by
 unfold onN;rw[List.mem_map];constructor
 · rintro⟨o,ho,rfl⟩;rw[mem_outs] at ho;refine⟨rfl,?_⟩;cases ht:Zp l q.1 q.2 with
   |true=>rw[atV_kind ht] at ho;exact ho
   |false=>
    unfold atV at ho;rw[ht] at ho;simp only[Bool.false_eq_true,if_false] at ho;rw[zero_kind,goesK_no] at ho;cases ho
 · rintro⟨rfl,h⟩;refine⟨x.2.2,mem_outs.2 ?_,rfl⟩;rw[atV_kind (step_there h).1];exact h
theorem on_nodup (l:Lay) (q:Int×Int):(onN l q).Nodup:=by
 unfold onN;rw[List.Nodup,List.pairwise_map];refine(outs_nodup _ _).imp fun h e=>h ?_;exact congrArg (fun x:Stp=>x.2.2) e
theorem on_le2 (l:Lay) (q:Int×Int):(onN l q).length≤2:=by unfold onN;rw[List.length_map];exact outs_le2 _ _
def usedS (u:List Stp) (s:Int):Bool:=u.any fun a=>a.1==s
theorem used_iff {u:List Stp} {s:Int}:usedS u s=true↔∃a ∈ u,a.1=s:=by
 unfold usedS;rw[List.any_eq_true];constructor
 · rintro⟨a,ha,h⟩;exact⟨a,ha,beq_iff_eq.1 h⟩
 · rintro⟨a,ha,h⟩;exact⟨a,ha,beq_iff_eq.2 h⟩
theorem used_append (u t:List Stp) (s:Int):usedS (u++t) s=(usedS u s||usedS t s):=List.any_append
def moreV (l:Lay) (u:List Stp) (q:Int×Int):List Stp:=(onN l q).filter fun x=>!usedS u x.1
theorem mem_more {l:Lay} {u:List Stp} {q:Int×Int} {x:Stp}:x ∈ moreV l u q↔(x.1,x.2.1)=q∧stepV l x.1 x.2.1 x.2.2=true∧usedS u x.1=false:=by
 unfold moreV;rw[List.mem_filter,mem_on,and_assoc,Bool.not_eq_true']
theorem more_nodup (l:Lay) (u:List Stp) (q:Int×Int):(moreV l u q).Nodup:=(on_nodup l q).filter _
theorem more_le2 (l:Lay) (u:List Stp) (q:Int×Int):(moreV l u q).length≤2:=Nat.le_trans (List.length_filter_le _ _) (on_le2 l q)
theorem more_one {l:Lay} {u:List Stp} {q:Int×Int} (h:¬(Zu l q.1=2∧q.2=0)):(moreV l u q).length≤1:=by
 refine one_of_same (more_nodup l u q) fun a ha b hb=>?_;obtain⟨e1,s1,_⟩:=mem_more.1 ha;obtain⟨e2,s2,_⟩:=mem_more.1 hb;obtain⟨a1,a2,a3⟩:=a;obtain⟨b1,b2,b3⟩:=b;subst e1;injection e2 with e3 e4
 simp only at e3 e4;subst e3 e4;exact congrArg (fun o:Int=>(b1,b2,o)) (goesK_one h s1 s2)
def restV (l:Lay):Nat→List Stp→Int×Int→List (List Stp)
 |0,_,_=>[]
 |n+1,u,q=>(moreV l u q).flatMap fun x=>(u++[x])::restV l n (u++[x]) (nextV l x.1 x.2.1 x.2.2)
theorem rest_succ (l:Lay) (n:Nat) (u:List Stp) (q:Int×Int):restV l (n+1) u q=(moreV l u q).flatMap fun x=>(u++[x])::restV l n (u++[x]) (nextV l x.1 x.2.1 x.2.2):=rfl
def freshS:List Stp→List Stp→Prop
 |_,[]=>True
 |u,x::r=>usedS u x.1=false∧freshS (u++[x]) r
theorem fresh_once:∀(t u:List Stp),Once u→(freshS u t↔Once (u++t))
 |[],u,h=>by simp[freshS,h]
 |x::t,u,h=>by
  show usedS u x.1=false∧freshS (u++[x]) t↔Once (u++(x::t));rw[show u++(x::t)=(u++[x])++t by simp];constructor
  · rintro⟨h1,h2⟩;have ho:Once (u++[x]):=by
     intro i j a b hij hi hj he;have hj':=(List.getElem?_eq_some_iff.1 hj).1;rw[List.length_append,List.length_singleton] at hj';rw[List.getElem?_append_left (by omega)] at hi;by_cases hju:j<u.length
     · rw[List.getElem?_append_left hju] at hj;exact h i j a b hij hi hj he
     · obtain rfl:j=u.length:=by omega
       rw[List.getElem?_concat_length] at hj;injection hj with hj
       subst hj;have :=used_iff.2 ⟨b,List.mem_of_getElem? hi,he⟩;rw[h1] at this;cases this
    exact(fresh_once t _ ho).1 h2
  · intro ho;have ho1:Once (u++[x]):=by
     intro i j a b hij hi hj;have h1:=(List.getElem?_eq_some_iff.1 hi).1;have h2:=(List.getElem?_eq_some_iff.1 hj).1;exact ho i j a b hij (by rw[List.getElem?_append_left h1];exact hi) (by rw[List.getElem?_append_left h2];exact hj)
    refine⟨?_,(fresh_once t _ ho1).2 ho⟩;cases hu:usedS u x.1 with
    |false=>rfl
    |true=>
     obtain⟨a,ha,he⟩:=used_iff.1 hu;obtain⟨i,hi⟩:=List.getElem?_of_mem ha;have hil:=(List.getElem?_eq_some_iff.1 hi).1;exact absurd he (ho1 i u.length x a hil (by rw[List.getElem?_append_left hil];exact hi) (List.getElem?_concat_length))
theorem fresh_nil (t:List Stp):freshS [] t↔Once t:=by
 have :=fresh_once t [] (fun i j x y _ hi _=>by simp at hi);simpa using this
theorem goesL_cons {l:Lay} {q:Int×Int} {x:Stp} {r:List Stp}:goesL l q (x::r)=true↔(x.1,x.2.1)=q∧stepV l x.1 x.2.1 x.2.2=true∧goesL l (nextV l x.1 x.2.1 x.2.2) r=true:=by
 show(stepV l x.1 x.2.1 x.2.2&&(decide (q=(x.1,x.2.1))&&goesL l (nextV l x.1 x.2.1 x.2.2) r))=true↔_;rw[Bool.and_eq_true,Bool.and_eq_true,decide_eq_true_iff];constructor
 · rintro⟨a,b,c⟩;exact⟨b.symm,a,c⟩
 · rintro⟨a,b,c⟩;exact⟨b,a.symm,c⟩
theorem mem_rest {l:Lay}:∀ {n:Nat} {u:List Stp} {q:Int×Int} {w:List Stp},w ∈ restV l n u q↔∃t,w=u++t∧t≠[]∧t.length≤n∧goesL l q t=true∧freshS u t
 |0,u,q,w=>by
  constructor
  · intro h;cases h
  · rintro⟨t,_,ht,hl,_⟩;exact absurd (List.eq_nil_of_length_eq_zero (by omega)) ht
 |n+1,u,q,w=>by
  rw[rest_succ,List.mem_flatMap];constructor
  · rintro⟨x,hx,hw⟩;obtain⟨e,hs,hu⟩:=mem_more.1 hx;rw[List.mem_cons] at hw;rcases hw with rfl|hw
    · exact⟨[x],rfl,by simp,by simp,goesL_cons.2 ⟨e,hs,rfl⟩,hu,trivial⟩
    · obtain⟨t,rfl,ht,hl,hg,hf⟩:=mem_rest.1 hw;exact⟨x::t,by simp,by simp,by simp;omega,goesL_cons.2 ⟨e,hs,hg⟩,hu,hf⟩
  · rintro⟨t,rfl,ht,hl,hg,hf⟩;cases t with
    |nil=>exact absurd rfl ht
    |cons x r=>
     obtain⟨e,hs,hg⟩:=goesL_cons.1 hg;obtain⟨hu,hf⟩:=hf;refine⟨x,mem_more.2 ⟨e,hs,hu⟩,?_⟩;rw[List.mem_cons];cases r with
     |nil=>exact .inl rfl
     |cons y r=>
      right;exact mem_rest.2 ⟨y::r,by simp,by simp,by simp at hl ⊢;omega,hg,hf⟩
theorem rest_longer {l:Lay} {n:Nat} {u:List Stp} {q:Int×Int} {w:List Stp} (h:w ∈ restV l n u q):∃t,w=u++t∧t≠[]:=by
 obtain⟨t,h1,h2,_⟩:=mem_rest.1 h;exact⟨t,h1,h2⟩
def freeB (l:Lay) (u:List Stp) (j:Nat):Bool:=decide (Zu l j=2)&& !usedS u j
def freeP (l:Lay) (u:List Stp):Nat:=(List.range l.secs.length).countP (freeB l u)
theorem free_le (l:Lay) (u t:List Stp):freeP l (u++t)≤freeP l u:=by
 unfold freeP;refine List.countP_mono_left fun j _ h=>?_;unfold freeB at h ⊢;rw[used_append] at h;simp only[Bool.and_eq_true,Bool.not_eq_true',Bool.or_eq_false_iff] at h ⊢;exact⟨h.1,h.2.1⟩
theorem count_less {α:Type} {p p':α→Bool}:∀ {l:List α},(∀a ∈ l,p' a=true→p a=true)→∀ {x:α},x ∈ l→p x=true→p' x=false→l.countP p'+1≤l.countP p
 |[],_,_,hx,_,_=>by cases hx
 |y::l,h,x,hx,hp,hp'=>by
  rw[List.countP_cons,List.countP_cons];rw[List.mem_cons] at hx;rcases hx with rfl|hx
  · rw[hp,hp'];have :=List.countP_mono_left (l:=l) (p:=p') (q:=p) fun a ha=>h a (List.mem_cons_of_mem _ ha);simp;omega
  · have ih:=count_less (l:=l) (fun a ha=>h a (List.mem_cons_of_mem _ ha)) hx hp hp';have hy:=h y (by simp);cases h1:p' y
    · simp;split <;> omega
    · rw[hy h1];simp;omega
theorem free_less {l:Lay} {u:List Stp} {x:Stp} (hs:stepV l x.1 x.2.1 x.2.2=true) (hk:Zu l x.1=2) (hu:usedS u x.1=false):freeP l (u++[x])+1≤freeP l u:=by
 obtain⟨j,y,e,hy,_,_⟩:=step_some hs;have hjl:=(List.getElem?_eq_some_iff.1 hy).1;unfold freeP;refine count_less (fun a _ h=>?_) (List.mem_range.2 hjl) ?_ ?_
 · unfold freeB at h ⊢;rw[used_append] at h;simp only[Bool.and_eq_true,Bool.not_eq_true',Bool.or_eq_false_iff] at h ⊢;exact⟨h.1,h.2.1⟩
 · unfold freeB;rw[←e,hk,hu];rfl
 · unfold freeB;rw[used_append,←e,(used_iff (u:=[x])).2 ⟨x,by simp,rfl⟩,Bool.or_true];simp
theorem flatMap_le {α β:Type} {f:α→List β} {B:Nat}:∀ {l:List α},(∀a ∈ l,(f a).length≤B)→(l.flatMap f).length≤l.length*B
 |[],_=>by simp
 |a::l,h=>by
  have h1:=h a (by simp);have h2:=flatMap_le (l:=l) fun b hb=>h b (List.mem_cons_of_mem _ hb);rw[List.flatMap_cons,List.length_append,List.length_cons,Nat.add_mul,Nat.one_mul];omega
theorem rest_le {l:Lay}:∀(n:Nat) (u:List Stp) (q:Int×Int),(restV l n u q).length≤n*2 ^ freeP l u
 |0,_,_=>by simp[restV]
 |n+1,u,q=>by
  rw[rest_succ];by_cases h:Zu l q.1=2∧q.2=0
  · have hb:∀x ∈ moreV l u q,((u++[x])::restV l n (u++[x]) (nextV l x.1 x.2.1 x.2.2)).length*2≤(n+1)*2 ^ freeP l u:=fun x hx=>by
     obtain⟨e,hs,hu⟩:=mem_more.1 hx;have hk:Zu l x.1=2:=by
      have :x.1=q.1:=congrArg Prod.fst e;rw[this];exact h.1
     have h1:=free_less hs hk hu;have h2:=rest_le (l:=l) n (u++[x]) (nextV l x.1 x.2.1 x.2.2);rw[List.length_cons];have h3:2 ^ (freeP l (u++[x])+1)≤2 ^ freeP l u:=Nat.pow_le_pow_right (by omega) h1;rw[Nat.pow_succ] at h3;have h4:1≤2 ^ freeP l (u++[x]):=Nat.one_le_two_pow;calc ((restV l n (u++[x]) (nextV l x.1 x.2.1 x.2.2)).length+1)*2≤(n*2 ^ freeP l (u++[x])+2 ^ freeP l (u++[x]))*2:=Nat.mul_le_mul_right _ (by omega)
      _=(n+1)*(2 ^ freeP l (u++[x])*2):=by rw[Nat.add_mul n 1,Nat.one_mul,←Nat.mul_assoc,Nat.add_mul]
      _≤(n+1)*2 ^ freeP l u:=Nat.mul_le_mul_left _ h3
    have h5:=flatMap_le (l:=moreV l u q) (f:=fun x=>(u++[x])::restV l n (u++[x]) (nextV l x.1 x.2.1 x.2.2)) (B:=(n+1)*2 ^ freeP l u/2) (fun x hx=>by have :=hb x hx;omega);have h6:=more_le2 l u q;have h7:(moreV l u q).length*((n+1)*2 ^ freeP l u/2)≤2*((n+1)*2 ^ freeP l u/2):=Nat.mul_le_mul_right _ h6;omega
  · have h5:=flatMap_le (l:=moreV l u q) (f:=fun x=>(u++[x])::restV l n (u++[x]) (nextV l x.1 x.2.1 x.2.2)) (B:=(n+1)*2 ^ freeP l u) (fun x hx=>by
     have h1:=free_le l u [x];have h2:=rest_le (l:=l) n (u++[x]) (nextV l x.1 x.2.1 x.2.2);have h3:2 ^ freeP l (u++[x])≤2 ^ freeP l u:=Nat.pow_le_pow_right (by omega) h1;have h4:1≤2 ^ freeP l u:=Nat.one_le_two_pow;have h5:n*2 ^ freeP l (u++[x])≤n*2 ^ freeP l u:=Nat.mul_le_mul_left _ h3;rw[List.length_cons,Nat.add_mul,Nat.one_mul];omega);have h6:=more_one (u:=u) h;have h7:(moreV l u q).length*((n+1)*2 ^ freeP l u)≤1*((n+1)*2 ^ freeP l u):=Nat.mul_le_mul_right _ h6;omega
theorem rest_most {l:Lay} {n:Nat} {u:List Stp} {q:Int×Int} (h8:freeP l u≤8) (hn:n≤12):(restV l n u q).length≤3072:=by
 have h1:=rest_le (l:=l) n u q;have h2:2 ^ freeP l u≤2 ^ 8:=Nat.pow_le_pow_right (by omega) h8;have h3:n*2 ^ freeP l u≤12*2 ^ 8:=Nat.mul_le_mul hn h2;omega
end
section
def at12 (d:List Nat) (i:Nat):Nat:=d[i]?.getD 0
def swp12 (d:List Nat) (i j:Nat):List Nat:=(d.set i (at12 d j)).set j (at12 d i)
theorem at_lt {d:List Nat} {i:Nat} (h:i<d.length):at12 d i=d[i]:=by unfold at12;rw[List.getElem?_eq_getElem h];rfl
theorem at_set {d:List Nat} {i j v:Nat} (hi:i<d.length):at12 (d.set i v) j=if j=i then v else at12 d j:=by
 unfold at12;by_cases h:j=i
 · subst h;rw[if_pos rfl,List.getElem?_set_self hi];rfl
 · rw[if_neg h,List.getElem?_set_ne (Ne.symm h)]
theorem at_swp {d:List Nat} {i j k:Nat} (hi:i<d.length) (hj:j<d.length):at12 (swp12 d i j) k=if k=j then at12 d i else if k=i then at12 d j else at12 d k:=by
 unfold swp12;rw[at_set (by simpa using hj),at_set hi]
theorem swp_perm {d:List Nat} {i j:Nat} (hi:i<d.length) (hj:j<d.length):(swp12 d i j).Perm d:=by
 unfold swp12;rw[at_lt hi,at_lt hj];exact List.set_set_perm hi hj
theorem at_mem {d:List Nat} {i:Nat} (h:i<d.length):at12 d i ∈ d:=by rw[at_lt h];exact List.getElem_mem h
theorem at_range {d:List Nat} {n i:Nat} (hp:d.Perm (List.range n)) (h:i<n):at12 d i<n:=by
 have hl:d.length=n:=by rw[hp.length_eq,List.length_range]
 exact List.mem_range.1 (hp.mem_iff.1 (at_mem (by omega)))
structure Mv12 (a b:Nat) (d d':List Nat):Prop where
 len:d'.length=d.length
 out:∀i,i<a∨b≤i→at12 d' i=at12 d i
 src:∀i,a≤i→i<b→∃j,a≤j∧j<b∧at12 d' i=at12 d j
 perm:d'.Perm d
theorem Mv12.refl (a b:Nat) (d:List Nat):Mv12 a b d d:=⟨rfl,fun _ _=>rfl,fun i h1 h2=>⟨i,h1,h2,rfl⟩,List.Perm.refl _⟩
theorem Mv12.trans {a b:Nat} {d d' d'':List Nat} (h:Mv12 a b d d') (k:Mv12 a b d' d''):Mv12 a b d d'':=
 ⟨k.len.trans h.len,fun i hi=>(k.out i hi).trans (h.out i hi),fun i h1 h2=>by
  obtain⟨j,j1,j2,e⟩:=k.src i h1 h2;obtain⟨x,x1,x2,e'⟩:=h.src j j1 j2;exact⟨x,x1,x2,e.trans e'⟩,k.perm.trans h.perm⟩
theorem Mv12.mono {a b a' b':Nat} {d d':List Nat} (h:Mv12 a b d d') (ha:a'≤a) (hb:b≤b'):Mv12 a' b' d d':=
 ⟨h.len,fun i hi=>h.out i (by omega),fun i h1 h2=>by
  by_cases hi:a≤i∧i<b
  · obtain⟨j,j1,j2,e⟩:=h.src i hi.1 hi.2;exact⟨j,by omega,by omega,e⟩
  · exact⟨i,h1,h2,h.out i (by omega)⟩,h.perm⟩
def rot12 (f:Nat→Nat) (a m b k:Nat):Nat:=if a≤k∧k<a+(b - m) then f (k - a+m) else if a+(b - m)≤k∧k<b then f (k - (b - m)) else f k
def chg12 (f:Nat→Nat) (a b n k:Nat):Nat:=if a≤k∧k<a+n then f (k - a+b) else if b≤k∧k<b+n then f (k - b+a) else f k
theorem chg_zero (f:Nat→Nat) (a b k:Nat):chg12 f a b 0 k=f k:=by
 unfold chg12;rw[if_neg (by omega),if_neg (by omega)]
theorem chg_next {d d':List Nat} {f:Nat→Nat} {a b n:Nat} (h:∀k,at12 d k=chg12 f a b n k) (hab:a+n<b) (hb:b+n<d.length) (hd:d'=swp12 d (a+n) (b+n)):∀k,at12 d' k=chg12 f a b (n+1) k:=by
 intro k;subst hd;rw[at_swp (by omega) (by omega),h,h,h];unfold chg12;repeat' split
 all_goals first|rfl|(congr 1;omega)|(exfalso;omega)
theorem rot_left {f:Nat→Nat} {m i j:Nat} (hi:i≤m) (hji:j≤i) (k:Nat):rot12 (chg12 f (m - i) m j) (m - (i - j)) m (m+j) k=rot12 f (m - i) m (m+j) k:=by
 unfold rot12 chg12;repeat' split
 all_goals first|rfl|(congr 1;omega)|(exfalso;omega)
theorem rot_right {f:Nat→Nat} {m i j:Nat} (hi:i≤m) (hij:i≤j) (k:Nat):rot12 (chg12 f (m - i) (m+j - i) i) (m - i) m (m+(j - i)) k=rot12 f (m - i) m (m+j) k:=by
 unfold rot12 chg12;repeat' split
 all_goals first|rfl|(congr 1;omega)|(exfalso;omega)
theorem rot_both {f:Nat→Nat} {m i:Nat} (hi:i≤m) (k:Nat):chg12 f (m - i) m i k=rot12 f (m - i) m (m+i) k:=by
 unfold rot12 chg12;repeat' split
 all_goals first|rfl|(congr 1;omega)|(exfalso;omega)
theorem rot_congr {f g:Nat→Nat} (h:∀k,f k=g k) (a m b k:Nat):rot12 f a m b k=rot12 g a m b k:=by
 unfold rot12;rw[h,h,h]
theorem rot_none_left {f:Nat→Nat} {m e:Nat} (k:Nat):rot12 f m m e k=f k:=by
 unfold rot12;repeat' split
 all_goals first|rfl|(congr 1;omega)|(exfalso;omega)
theorem rot_none_right {f:Nat→Nat} {s m:Nat} (k:Nat):rot12 f s m m k=f k:=by
 unfold rot12;repeat' split
 all_goals first|rfl|(congr 1;omega)|(exfalso;omega)
theorem rot_lo {f:Nat→Nat} {s m e k:Nat} (h:k<s):rot12 f s m e k=f k:=by unfold rot12;rw[if_neg (by omega),if_neg (by omega)]
theorem rot_mid {f:Nat→Nat} {s m e k:Nat} (h1:s≤k) (h2:k<s+(e - m)):rot12 f s m e k=f (k - s+m):=by unfold rot12;rw[if_pos ⟨h1,h2⟩]
theorem rot_hi {f:Nat→Nat} {s m e k:Nat} (h1:s+(e - m)≤k) (h2:k<e):rot12 f s m e k=f (k - (e - m)):=by unfold rot12;rw[if_neg (by omega),if_pos ⟨h1,h2⟩]
theorem rot_out {f:Nat→Nat} {s m e k:Nat} (hm:s≤m) (hme:m≤e) (h:e≤k):rot12 f s m e k=f k:=by unfold rot12;rw[if_neg (by omega),if_neg (by omega)]
theorem rot_stepR {d d':List Nat} {f:Nat→Nat} {a k:Nat} (h:∀x,at12 d x=rot12 f a (a+1) (k+1) x) (hak:a≤k) (hk:k+1<d.length) (hd:d'=swp12 d k (k+1)):∀x,at12 d' x=rot12 f a (a+1) (k+1+1) x:=by
 intro x;subst hd;rw[at_swp (by omega) (by omega),h,h,h];unfold rot12;repeat' split
 all_goals first|rfl|(congr 1;omega)|(exfalso;omega)
theorem rot_stepL {d d':List Nat} {f:Nat→Nat} {m k:Nat} (h:∀x,at12 d x=rot12 f (k+1) m (m+1) x) (hkm:k+1≤m) (hk:m<d.length) (hd:d'=swp12 d (k+1) k):∀x,at12 d' x=rot12 f k m (m+1) x:=by
 intro x;subst hd;rw[at_swp (by omega) (by omega),h,h,h];unfold rot12;repeat' split
 all_goals first|rfl|(congr 1;omega)|(exfalso;omega)
structure Ord12 (lt:Nat→Nat→Bool):Prop where
 irr:∀x,lt x x=false
 tr:∀x y z,lt x y=true→lt y z=true→lt x z=true
 ntr:∀x y z,lt x y=false→lt y z=false→lt x z=false
def LL (lt:Nat→Nat→Bool) (a b:Nat):Prop:=lt a b=true∨(lt b a=false∧a<b)
section
variable {lt:Nat→Nat→Bool} (O:Ord12 lt)
include O
theorem LL.trans {a b c:Nat} (h:LL lt a b) (k:LL lt b c):LL lt a c:=by
 rcases h with h|⟨h,h'⟩
 · rcases k with k|⟨k,k'⟩
   · exact .inl (O.tr _ _ _ h k)
   · cases e:lt a c with
     |true=>exact .inl e
     |false=>rw[O.ntr _ _ _ e k] at h;cases h
 · rcases k with k|⟨k,k'⟩
   · cases e:lt a c with
     |true=>exact .inl e
     |false=>rw[O.ntr _ _ _ h e] at k;cases k
   · exact .inr ⟨O.ntr _ _ _ k h,by omega⟩
theorem LL.not_lt {a b:Nat} (h:LL lt a b):lt b a=false:=by
 rcases h with h|h
 · cases e:lt b a with
   |false=>rfl
   |true=>have :=O.tr _ _ _ h e;rw[O.irr] at this;cases this
 · exact h.1
end
def Srt (lt:Nat→Nat→Bool) (d:List Nat) (a b:Nat):Prop:=∀i j,a≤i→i<j→j<b→LL lt (at12 d i) (at12 d j)
theorem Srt.one {lt:Nat→Nat→Bool} {d:List Nat} {a b:Nat} (h:b≤a+1):Srt lt d a b:=fun i j h1 h2 h3=>by omega
theorem Srt.same {lt:Nat→Nat→Bool} {d d':List Nat} {a b:Nat} (h:Srt lt d a b) (he:∀i,a≤i→i<b→at12 d' i=at12 d i):Srt lt d' a b:=fun i j h1 h2 h3=>by
 rw[he i h1 (by omega),he j (by omega) h3];exact h i j h1 h2 h3
theorem ins_done {lt:Nat→Nat→Bool} (O:Ord12 lt) {d dj:List Nat} {a i j:Nat} (hs:Srt lt d a i) (haj:a≤j) (hji:j≤i) (h:∀x,at12 dj x=rot12 (at12 d) j i (i+1) x)
 (hb:∀k,j≤k→k<i→LL lt (at12 d i) (at12 d k)) (ha:j=a∨LL lt (at12 d (j - 1)) (at12 d i)):Srt lt dj a (i+1):=by
 intro p q hp hpq hq
 rw[h,h]
 have low:∀x,a≤x→x<j→LL lt (at12 d x) (at12 d i):=fun x x1 x2=>by
  rcases ha with rfl|ha
  · omega
  · by_cases e:x=j - 1
    · subst e;exact ha
    · exact LL.trans O (hs x (j - 1) x1 (by omega) (by omega)) ha
 by_cases h1:q<j
 · rw[rot_lo (by omega),rot_lo h1];exact hs p q hp hpq (by omega)
 · by_cases h2:q=j
   · subst h2;rw[rot_lo hpq,rot_mid (Nat.le_refl _) (by omega),show q - q+i=i by omega];exact low p hp hpq
   · rw[rot_hi (k:=q) (by omega) hq,show q - (i+1 - i)=q - 1 by omega];by_cases h3:p<j
     · rw[rot_lo h3];exact hs p (q - 1) hp (by omega) (by omega)
     · by_cases h4:p=j
       · subst h4;rw[rot_mid (Nat.le_refl _) (by omega),show p - p+i=i by omega];exact hb (q - 1) (by omega) (by omega)
       · rw[rot_hi (k:=p) (by omega) (by omega),show p - (i+1 - i)=p - 1 by omega];exact hs (p - 1) (q - 1) (by omega) (by omega) (by omega)
theorem left_done {lt:Nat→Nat→Bool} (O:Ord12 lt) {d d':List Nat} {a i b:Nat} (hs:Srt lt d (a+1) b) (hai:a+1≤i) (hib:i≤b) (h:∀x,at12 d' x=rot12 (at12 d) a (a+1) i x)
 (h1:∀t,a+1≤t→t<i→LL lt (at12 d t) (at12 d a)) (h2:∀t,i≤t→t<b→LL lt (at12 d a) (at12 d t)):Srt lt d' a b:=by
 intro p q hp hpq hq
 rw[h,h]
 by_cases q1:q<i - 1
 · rw[rot_mid hp (by omega),rot_mid (by omega) (by omega)];exact hs _ _ (by omega) (by omega) (by omega)
 · by_cases q2:q=i - 1
   · rw[rot_mid hp (by omega),rot_hi (by omega) (by omega),show q - (i - (a+1))=a by omega];exact h1 _ (by omega) (by omega)
   · rw[rot_out (k:=q) (by omega) hai (by omega)];by_cases p1:p<i - 1
     · rw[rot_mid hp (by omega)];exact hs _ _ (by omega) (by omega) hq
     · by_cases p2:p=i - 1
       · rw[rot_hi (by omega) (by omega),show p - (i - (a+1))=a by omega];exact h2 q (by omega) hq
       · rw[rot_out (k:=p) (by omega) hai (by omega)];exact hs p q (by omega) hpq hq
theorem right_done {lt:Nat→Nat→Bool} (O:Ord12 lt) {d d':List Nat} {a i m:Nat} (hs:Srt lt d a m) (hai:a≤i) (him:i≤m) (h:∀x,at12 d' x=rot12 (at12 d) i m (m+1) x)
 (h1:∀t,a≤t→t<i→LL lt (at12 d t) (at12 d m)) (h2:∀t,i≤t→t<m→LL lt (at12 d m) (at12 d t)):Srt lt d' a (m+1):=by
 intro p q hp hpq hq
 rw[h,h]
 by_cases q1:q<i
 · rw[rot_lo (by omega),rot_lo q1];exact hs p q hp hpq (by omega)
 · by_cases q2:q=i
   · subst q2;rw[rot_lo hpq,rot_mid (Nat.le_refl _) (by omega),show q - q+m=m by omega];exact h1 p hp hpq
   · rw[rot_hi (k:=q) (by omega) hq,show q - (m+1 - m)=q - 1 by omega];by_cases p1:p<i
     · rw[rot_lo p1];exact hs p (q - 1) hp (by omega) (by omega)
     · by_cases p2:p=i
       · subst p2;rw[rot_mid (Nat.le_refl _) (by omega),show p - p+m=m by omega];exact h2 (q - 1) (by omega) (by omega)
       · rw[rot_hi (k:=p) (by omega) (by omega),show p - (m+1 - m)=p - 1 by omega];exact hs (p - 1) (q - 1) (by omega) (by omega) (by omega)
def Found (lt:Nat→Nat→Bool) (d:List Nat) (n s0 r0 lo hi:Nat):Prop:=
 (∀t,s0≤t→t<lo→LL lt (at12 d t) (at12 d (n - 1 - t)))∧(∀t,hi≤t→t<r0→LL lt (at12 d (n - 1 - t)) (at12 d t))
def Rise (d:List Nat) (a m b:Nat):Prop:=∀x y,a≤x→x<m→m≤y→y<b→at12 d x<at12 d y
structure Bnd (a m b n s0 r0:Nat):Prop where
 am:a<m
 mb:m<b
 hn:n=(a+b)/2+m
 sr:(s0=a∧r0=m∧m≤(a+b)/2)∨(s0=n - b∧r0=(a+b)/2∧(a+b)/2<m)
theorem found_left {lt:Nat→Nat→Bool} (O:Ord12 lt) {d:List Nat} {a m b n s0 r0 lo hi c:Nat} (B:Bnd a m b n s0 r0) (hr:Rise d a m b) (h1:Srt lt d a m) (h2:Srt lt d m b) (hF:Found lt d n s0 r0 lo hi)
 (hc:s0≤c) (hcr:c<r0) (ht:lt (at12 d (n - 1 - c)) (at12 d c)=false):Found lt d n s0 r0 (c+1) hi:=by
 obtain⟨am,mb,hn,sr⟩:=B
 have hk:LL lt (at12 d c) (at12 d (n - 1 - c)):=.inr ⟨ht,hr _ _ (by omega) (by omega) (by omega) (by omega)⟩
 refine⟨fun t t1 t2=>?_,hF.2⟩
 by_cases e:t=c
 · subst e;exact hk
 · exact LL.trans O (h1 t c (by omega) (by omega) (by omega)) (LL.trans O hk (h2 (n - 1 - c) (n - 1 - t) (by omega) (by omega) (by omega)))
theorem found_right {lt:Nat→Nat→Bool} (O:Ord12 lt) {d:List Nat} {a m b n s0 r0 lo hi c:Nat} (B:Bnd a m b n s0 r0) (h1:Srt lt d a m) (h2:Srt lt d m b) (hF:Found lt d n s0 r0 lo hi)
 (hc:s0≤c) (hcr:c<r0) (ht:lt (at12 d (n - 1 - c)) (at12 d c)=true):Found lt d n s0 r0 lo c:=by
 obtain⟨am,mb,hn,sr⟩:=B
 have hk:LL lt (at12 d (n - 1 - c)) (at12 d c):=.inl ht
 refine⟨hF.1,fun t t1 t2=>?_⟩
 by_cases e:t=c
 · subst e;exact hk
 · exact LL.trans O (h2 (n - 1 - t) (n - 1 - c) (by omega) (by omega) (by omega)) (LL.trans O hk (h1 c t (by omega) (by omega) (by omega)))
theorem found_done {lt:Nat→Nat→Bool} (O:Ord12 lt) {d:List Nat} {a m b n s0 r0 s:Nat} (B:Bnd a m b n s0 r0) (h1:Srt lt d a m) (h2:Srt lt d m b) (hF:Found lt d n s0 r0 s s) (hs:s0≤s) (hsr:s≤r0):
 (∀x y,a≤x→x<s→n - s≤y→y<b→LL lt (at12 d x) (at12 d y))∧(∀y x,m≤y→y<n - s→s≤x→x<m→LL lt (at12 d y) (at12 d x)):=by
 obtain⟨am,mb,hn,sr⟩:=B
 constructor
 · intro x y x1 x2 y1 y2;have hk:=hF.1 (s - 1) (by omega) (by omega);rw[show n - 1 - (s - 1)=n - s by omega] at hk;have k1:LL lt (at12 d x) (at12 d (n - s)):=by
    by_cases e:x=s - 1
    · subst e;exact hk
    · exact LL.trans O (h1 x (s - 1) x1 (by omega) (by omega)) hk
   by_cases e:y=n - s
   · subst e;exact k1
   · exact LL.trans O k1 (h2 (n - s) y (by omega) (by omega) y2)
 · intro y x y1 y2 x1 x2;have hk:=hF.2 s (Nat.le_refl _) (by omega);have k1:LL lt (at12 d y) (at12 d s):=by
    by_cases e:y=n - 1 - s
    · subst e;exact hk
    · exact LL.trans O (h2 y (n - 1 - s) y1 (by omega) (by omega)) hk
   by_cases e:x=s
   · subst e;exact k1
   · exact LL.trans O k1 (h1 s x (by omega) (by omega) x2)
structure Parted (lt:Nat→Nat→Bool) (d':List Nat) (a s mid e b:Nat):Prop where
 p1:Srt lt d' a s
 p2:Srt lt d' s mid
 p3:Srt lt d' mid e
 p4:Srt lt d' e b
 r1:Rise d' a s mid
 r2:Rise d' mid e b
 ahead:∀x y,a≤x→x<mid→mid≤y→y<b→LL lt (at12 d' x) (at12 d' y)
theorem parted {lt:Nat→Nat→Bool} {d d':List Nat} {a s m e b mid:Nat} (hr:Rise d a m b) (h1:Srt lt d a m) (h2:Srt lt d m b) (has:a≤s) (hsm:s≤m) (hme:m≤e) (heb:e≤b) (hmid:mid=s+(e - m))
 (h:∀x,at12 d' x=rot12 (at12 d) s m e x) (k1:∀x y,a≤x→x<s→e≤y→y<b→LL lt (at12 d x) (at12 d y)) (k2:∀y x,m≤y→y<e→s≤x→x<m→LL lt (at12 d y) (at12 d x)):Parted lt d' a s mid e b:=by
 subst hmid
 have v1:∀x,x<s→at12 d' x=at12 d x:=fun x hx=>by rw[h,rot_lo hx]
 have v2:∀x,s≤x→x<s+(e - m)→at12 d' x=at12 d (x - s+m):=fun x x1 x2=>by rw[h,rot_mid x1 x2]
 have v3:∀x,s+(e - m)≤x→x<e→at12 d' x=at12 d (x - (e - m)):=fun x x1 x2=>by rw[h,rot_hi x1 x2]
 have v4:∀x,e≤x→at12 d' x=at12 d x:=fun x x1=>by rw[h,rot_out hsm hme x1]
 constructor
 · intro i j i1 ij j1;rw[v1 i (by omega),v1 j j1];exact h1 i j i1 ij (by omega)
 · intro i j i1 ij j1;rw[v2 i i1 (by omega),v2 j (by omega) j1];exact h2 _ _ (by omega) (by omega) (by omega)
 · intro i j i1 ij j1;rw[v3 i i1 (by omega),v3 j (by omega) j1];exact h1 _ _ (by omega) (by omega) (by omega)
 · intro i j i1 ij j1;rw[v4 i i1,v4 j (by omega)];exact h2 i j (by omega) ij j1
 · intro x y x1 x2 y1 y2;rw[v1 x x2,v2 y y1 y2];exact hr _ _ (by omega) (by omega) (by omega) (by omega)
 · intro x y x1 x2 y1 y2;rw[v3 x x1 x2,v4 y y1];exact hr _ _ (by omega) (by omega) (by omega) (by omega)
 · intro x y x1 x2 y1 y2;by_cases xs:x<s
   · rw[v1 x xs];by_cases ye:y<e
     · rw[v3 y y1 ye];exact h1 _ _ (by omega) (by omega) (by omega)
     · rw[v4 y (by omega)];exact k1 _ _ (by omega) (by omega) (by omega) (by omega)
   · rw[v2 x (by omega) x2];by_cases ye:y<e
     · rw[v3 y y1 ye];exact k2 _ _ (by omega) (by omega) (by omega) (by omega)
     · rw[v4 y (by omega)];exact h2 _ _ (by omega) (by omega) (by omega)
theorem halves {lt:Nat→Nat→Bool} {d d1 d2:List Nat} {a mid b:Nat} (hk:∀x y,a≤x→x<mid→mid≤y→y<b→LL lt (at12 d x) (at12 d y)) (m1:Mv12 a mid d d1) (s1:Srt lt d1 a mid) (m2:Mv12 mid b d1 d2) (s2:Srt lt d2 mid b):Srt lt d2 a b:=by
 intro i j i1 ij j1;by_cases hj:j<mid
 · rw[m2.out i (.inl (by omega)),m2.out j (.inl hj)];exact s1 i j i1 ij hj
 · by_cases hi:i<mid
   · rw[m2.out i (.inl hi)];obtain⟨x,x1,x2,ex⟩:=m1.src i i1 hi;obtain⟨y,y1,y2,ey⟩:=m2.src j (by omega) j1;rw[ex,ey,m1.out y (.inr y1)];exact hk x y x1 x2 y1 y2
   · exact s2 i j (by omega) ij j1
theorem rot_src {d d':List Nat} {s m e:Nat} (hsm:s≤m) (hme:m≤e) (h:∀x,at12 d' x=rot12 (at12 d) s m e x):(∀i,i<s∨e≤i→at12 d' i=at12 d i)∧(∀i,s≤i→i<e→∃j,s≤j∧j<e∧at12 d' i=at12 d j):=by
 constructor
 · intro i hi;rcases hi with hi|hi
   · rw[h,rot_lo hi]
   · rw[h,rot_out hsm hme hi]
 · intro i i1 i2;by_cases hi:i<s+(e - m)
   · exact⟨i - s+m,by omega,by omega,by rw[h,rot_mid i1 hi]⟩
   · exact⟨i - (e - m),by omega,by omega,by rw[h,rot_hi (by omega) i2]⟩
theorem mv_rot {d d':List Nat} {s m e:Nat} (hsm:s≤m) (hme:m≤e) (hl:d'.length=d.length) (hp:d'.Perm d) (h:∀x,at12 d' x=rot12 (at12 d) s m e x):Mv12 s e d d':=
 ⟨hl,(rot_src hsm hme h).1,(rot_src hsm hme h).2,hp⟩
end
section
open Go.RowKit Go.Shelf
def topV (l:Lay) (ss:List (Int×Int×Int)):Int:=ss.foldl (fun t s=>max t (classV l s.1 s.2.1 s.2.2)) 0
theorem top_snoc (l:Lay) (ss:List (Int×Int×Int)) (s:Int×Int×Int):topV l (ss++[s])=max (topV l ss) (classV l s.1 s.2.1 s.2.2):=by unfold topV;rw[List.foldl_append];rfl
def posOf (l:Lay) (s:Int×Int×Int):List Int:=if (pointV l s.1 s.2.1 s.2.2).2.2=true then [(pointV l s.1 s.2.1 s.2.2).2.1] else []
def posL (l:Lay) (ss:List (Int×Int×Int)):List Int:=ss.flatMap (posOf l)
def rowV (l:Lay) (ss:List (Int×Int×Int)):List Int:=topV l ss::(ss.length:Int)::posL l ss
theorem pos_le (l:Lay) (s:Int×Int×Int):(posOf l s).length≤1:=by unfold posOf;split <;> simp
theorem posL_le (l:Lay):∀ss:List (Int×Int×Int),(posL l ss).length≤ss.length
 |[]=>by simp[posL]
 |x::r=>by
  have h1:=pos_le l x;have h2:=posL_le l r;unfold posL at h2 ⊢;rw[List.flatMap_cons,List.length_append,List.length_cons];omega
theorem row_len (l:Lay) (ss:List (Int×Int×Int)):(rowV l ss).length≤ss.length+2:=by
 have :=posL_le l ss;unfold rowV;simp;omega
def cmpR:List Int→List Int→Int
 |[],[]=>0
 |[],_::_=>-1
 |_::_,[]=>1
 |x::xs,y::ys=>if x<y then -1 else if y<x then 1 else cmpR xs ys
theorem cmpR_self:∀xs,cmpR xs xs=0
 |[]=>rfl
 |x::xs=>by unfold cmpR;rw[if_neg (by omega),if_neg (by omega)];exact cmpR_self xs
theorem cmpR_zero:∀xs ys,cmpR xs ys=0→xs=ys
 |[],[],_=>rfl
 |[],_::_,h=>by simp[cmpR] at h
 |_::_,[],h=>by simp[cmpR] at h
 |x::xs,y::ys,h=>by
  unfold cmpR at h;split at h
  · cases h
  · split at h
    · cases h
    · rw[cmpR_zero xs ys h,show x=y by omega]
theorem cmpR_neg:∀xs ys,cmpR ys xs= -cmpR xs ys
 |[],[]=>rfl
 |[],_::_=>rfl
 |_::_,[]=>rfl
 |x::xs,y::ys=>by
  unfold cmpR;by_cases h1:x<y
  · rw[if_pos h1,if_neg (by omega),if_pos h1];rfl
  · by_cases h2:y<x
    · rw[if_pos h2,if_neg h1,if_pos h2]
    · rw[if_neg h1,if_neg h2,if_neg h2,if_neg h1];exact cmpR_neg xs ys
theorem cmpR_trans:∀xs ys zs,cmpR xs ys<0→cmpR ys zs<0→cmpR xs zs<0
 |[],[],_,h,_=>by simp[cmpR] at h
 |[],_::_,[],_,k=>by simp[cmpR] at k
 |[],_::_,_::_,_,_=>by simp[cmpR]
 |_::_,[],_,h,_=>by simp[cmpR] at h
 |_::_,_::_,[],_,k=>by simp[cmpR] at k
 |x::xs,y::ys,z::zs,h,k=>by
  unfold cmpR at h k ⊢;by_cases h1:x<z
  · rw[if_pos h1];omega
  · by_cases h2:x<y
    · rw[if_neg (by omega),if_pos (by omega)] at k;omega
    · rw[if_neg h2] at h;by_cases h3:y<x
      · rw[if_pos h3] at h;omega
      · rw[if_neg h3] at h;by_cases h4:y<z
        · omega
        · rw[if_neg h4] at k;by_cases h5:z<y
          · rw[if_pos h5] at k;omega
          · rw[if_neg h5] at k;rw[if_neg h1,if_neg (by omega)];exact cmpR_trans xs ys zs h k
theorem cmpR_ntrans (xs ys zs:List Int) (h:¬cmpR xs ys<0) (k:¬cmpR ys zs<0):¬cmpR xs zs<0:=by
 intro hn;have h1:=cmpR_neg xs ys;have h2:=cmpR_neg ys zs;have h3:=cmpR_neg xs zs;by_cases e1:cmpR xs ys=0
 · rw[cmpR_zero _ _ e1] at hn;exact k hn
 · by_cases e2:cmpR ys zs=0
   · rw[←cmpR_zero _ _ e2] at hn;exact h hn
   · have :=cmpR_trans zs ys xs (by omega) (by omega);omega
def cvOf (rs:List (List Int)) (x y:Nat):Int:=cmpR (rs[x]?.getD []) (rs[y]?.getD [])
theorem cmpR_drop {xs ys:List Int} {k:Nat} {a b:Int} (ha:xs[k]? =some a) (hb:ys[k]? =some b) (he:xs.take k=ys.take k):cmpR xs ys=if a<b then -1 else if b<a then 1 else cmpR (xs.drop (k+1)) (ys.drop (k+1)):=by
 induction k generalizing xs ys with
 |zero=>
  cases xs with
  |nil=>cases ha
  |cons x xs=>
   cases ys with
   |nil=>cases hb
   |cons y ys=>simp at ha hb;subst ha hb;rfl
 |succ k ih=>
  cases xs with
  |nil=>simp at ha
  |cons x xs=>
   cases ys with
   |nil=>simp at hb
   |cons y ys=>
    simp at ha hb he;obtain⟨rfl,he⟩:=he;have :=ih ha hb he;show(if x<x then -1 else if x<x then 1 else cmpR xs ys)=_;rw[if_neg (by omega),if_neg (by omega),this];rfl
theorem cmpR_end {xs ys:List Int} {k:Nat} (he:xs.take k=ys.take k) (hx:k≤xs.length) (hy:k≤ys.length) (h:k=xs.length∨k=ys.length):cmpR xs ys=if xs.length<ys.length then -1 else if ys.length<xs.length then 1 else 0:=by
 induction k generalizing xs ys with
 |zero=>
  cases xs with
  |nil=>
   cases ys with
   |nil=>rfl
   |cons y ys=>rfl
  |cons x xs=>
   cases ys with
   |nil=>rfl
   |cons y ys=>simp at h
 |succ k ih=>
  cases xs with
  |nil=>simp at hx
  |cons x xs=>
   cases ys with
   |nil=>simp at hy
   |cons y ys=>
    simp at he hx hy h;obtain⟨rfl,he⟩:=he;have :=ih he hx hy h;show(if x<x then -1 else if x<x then 1 else cmpR xs ys)=_;rw[if_neg (by omega),if_neg (by omega),this];simp
theorem ord_rows (rs:List (List Int)):Ord12 (fun x y=>decide (cvOf rs x y<0)):=
 ⟨fun x=>by simp[cvOf,cmpR_self],fun x y z h k=>by simp only[decide_eq_true_eq] at h k ⊢;exact cmpR_trans _ _ _ h k,fun x y z h k=>by simp only[decide_eq_false_iff_not] at h k ⊢;exact cmpR_ntrans _ _ _ h k⟩
theorem toe_way {a b:Int} (ha:goesK 2 0 a=true) (hb:goesK 2 0 b=true) (h:wayK 2 0 a=wayK 2 0 b):a=b:=by
 have key:∀x:Int,goesK 2 0 x=true→x=1∨x=2:=by
  intro x hx;have hs:=shapeK 2;unfold goesK goesV joinV at hx;simp only[Bool.or_eq_true,Bool.and_eq_true,decide_eq_true_eq,beq_iff_eq] at hx;rcases hs with ⟨e,h1,h2,h3,h4,h5,h6⟩|⟨e,h1,h2,h3,h4,h5,h6⟩|⟨e,h1,h2,h3,h4,h5,h6⟩|⟨e,h1,h2,h3,h4,h5,h6⟩ <;> rw[h2,h4,h5,h6] at hx <;> omega
 have w1:wayK 2 0 1=0:=by decide
 have w2:wayK 2 0 2=1:=by decide
 rcases key a ha with rfl|rfl <;> rcases key b hb with rfl|rfl
 · rfl
 · rw[w1,w2] at h;omega
 · rw[w1,w2] at h;omega
 · rfl
theorem pos_inj {l:Lay}:∀(ss us:List (Int×Int×Int)) (p:Int×Int),goesL l p ss=true→goesL l p us=true→ss.length=us.length→posL l ss=posL l us→ss=us
 |[],[],_,_,_,_,_=>rfl
 |[],_::_,_,_,_,h,_=>by simp at h
 |_::_,[],_,_,_,h,_=>by simp at h
 |x::r,y::t,p,hx,hy,hl,hp=>by
  have hx':(stepV l x.1 x.2.1 x.2.2&&(decide (p=(x.1,x.2.1))&&goesL l (nextV l x.1 x.2.1 x.2.2) r))=true:=hx;have hy':(stepV l y.1 y.2.1 y.2.2&&(decide (p=(y.1,y.2.1))&&goesL l (nextV l y.1 y.2.1 y.2.2) t))=true:=hy;simp only[Bool.and_eq_true,decide_eq_true_eq] at hx' hy';obtain⟨sx,ex,gx⟩:=hx';obtain⟨sy,ey,gy⟩:=hy';obtain⟨x1,x2,x3⟩:=x;obtain⟨y1,y2,y3⟩:=y;simp only at sx ex gx sy ey gy;rw[ex] at ey;simp only[Prod.mk.injEq] at ey;obtain⟨rfl,rfl⟩:=ey;have hp':posOf l (x1,x2,x3)++posL l r=posOf l (x1,x2,y3)++posL l t:=hp;by_cases e3:x3=y3
  · subst e3;rw[pos_inj r t _ gx gy (by simpa using hl) (List.append_cancel_left hp')]
  · exfalso;obtain⟨j,z,rfl,hz,hk,hg⟩:=step_some sx;obtain⟨j',z',e',hz',hk',hg'⟩:=step_some sy;have hj:j'=j:=by omega
    subst hj;rw[hz] at hz';cases hz';obtain⟨k2,i0⟩:=two_ways hg hg' e3;rw[k2,i0] at hg hg';have p1:posOf l (↑j',x2,x3)=[wayK 2 x2 x3]:=by
     have q:pointV l ↑j' x2 x3=((j':Int),wayK 2 x2 x3,true):=by unfold pointV;rw[if_pos ⟨sx,by rw[hk,k2]⟩]
     show(if (pointV l ↑j' x2 x3).2.2=true then [(pointV l ↑j' x2 x3).2.1] else [])=_;rw[q];rfl
    have p2:posOf l (↑j',x2,y3)=[wayK 2 x2 y3]:=by
     have q:pointV l ↑j' x2 y3=((j':Int),wayK 2 x2 y3,true):=by unfold pointV;rw[if_pos ⟨sy,by rw[hk,k2]⟩]
     show(if (pointV l ↑j' x2 y3).2.2=true then [(pointV l ↑j' x2 y3).2.1] else [])=_;rw[q];rfl
    rw[p1,p2,i0] at hp';simp only[Ll,Lk,List.cons.injEq] at hp';exact e3 (toe_way hg hg' hp'.1)
theorem row_inj {l:Lay} {ss us:List (Int×Int×Int)} {p:Int×Int} (h:goesL l p ss=true) (k:goesL l p us=true):cmpR (rowV l ss) (rowV l us)=0↔ss=us:=by
 constructor
 · intro e;have e':=cmpR_zero _ _ e;unfold rowV at e';simp only[List.cons.injEq] at e';exact pos_inj ss us p h k (by omega) e'.2.2
 · rintro rfl;exact cmpR_self _
end
end Go.Proofs.YtifnlhfinjfajaaGreatDoor
