/- Of this seat: Lay, LayA, PortRow, LayRow, LayRowC, LayB, LayC, LayE, LayF. -/
import Derived.Deep.Slices
import Derived.DataElems
import Derived.Test.YtifnlhfinjfajaaGreatDoorRows
import Derived.Test.YtifnlhfinjfajaaGreatDoorK02
namespace Go.Proofs.YtifnlhfinjfajaaGreatDoor
set_option linter.unusedVariables false
set_option linter.unusedSimpArgs false
set_option maxRecDepth 100000
set_option maxHeartbeats 32000000
section
open Go.RowKit Go.Shelf
structure Sec where
 k:Int
 s0:Int
 q0:Int
 s1:Int
 q1:Int
 s2:Int
 q2:Int
 s3:Int
 q3:Int
 c0:Int
 c1:Int
def Sec.tup (s:Sec):List Int:=[s.k,s.s0,s.q0,s.s1,s.q1,s.s2,s.q2,s.s3,s.q3,s.c0,s.c1]
theorem Sec.tup_inj {a b:Sec} (h:a.tup=b.tup):a=b:=by
 cases a;cases b;simp only[Sec.tup,List.cons.injEq] at h;obtain⟨rfl,rfl,rfl,rfl,rfl,rfl,rfl,rfl,rfl,rfl,rfl,_⟩:=h;rfl
instance:DecidableEq Sec:=fun a b=>decidable_of_iff (a.tup=b.tup) ⟨Sec.tup_inj,fun h=>by rw[h]⟩
abbrev Sec.cells (s:Sec):List Value:=[.int .u8 s.k,.int .i64 s.s0,.int .i64 s.q0,.int .i64 s.s1,.int .i64 s.q1,.int .i64 s.s2,.int .i64 s.q2,.int .i64 s.s3,.int .i64 s.q3,.int .i64 s.c0,.int .i64 s.c1]
abbrev Sec.val (s:Sec):Value:=secV s.k s.s0 s.q0 s.s1 s.q1 s.s2 s.q2 s.s3 s.q3 s.c0 s.c1
abbrev Zf (p:Int×Int):List Value:=[.int .i64 p.1,.int .i64 p.2]
abbrev prtV (s q:Int):Value:=.agg #[.int .i64 s,.int .i64 q]
abbrev Ze (p:Int×Int×Int):List Value:=[.int .i64 p.1,.int .i64 p.2.1,.int .i64 p.2.2]
abbrev stpV (s i o:Int):Value:=.agg #[.int .i64 s,.int .i64 i,.int .i64 o]
abbrev flkCells (f:Int×Int×Int×Int):List Value:=[.int .i64 f.1,.int .i64 f.2.1,.int .i64 f.2.2.1,.int .i64 f.2.2.2]
abbrev flkV (a b c d:Int):Value:=.agg #[.int .i64 a,.int .i64 b,.int .i64 c,.int .i64 d]
structure Exm where
 s:Int
 q:Int
 A:Option Addr
 c:Nat
 over:List (Int×Int×Int)
abbrev Exm.cells (x:Exm):List Value:=[.int .i64 x.s,.int .i64 x.q,.slice x.A x.over.length x.c]
abbrev Exm.val (x:Exm):Value:=.agg #[.int .i64 x.s,.int .i64 x.q,.slice x.A x.over.length x.c]
def Exm.pure (x:Exm):Int×Int×List (Int×Int×Int):=(x.s,x.q,x.over)
structure Lay where
 secs:List Sec
 As:Option Addr
 cs:Nat
 sigs:List (Int×Int)
 Ag:Option Addr
 cg:Nat
 exits:List Exm
 Ae:Option Addr
 ce:Nat
 flanks:List (Int×Int×Int×Int)
 Af:Option Addr
 cf:Nat
 t0:Int
 t1:Int
 t2:Int
 t3:Int
 t4:Int
 t5:Int
 t6:Int
abbrev Lay.cells (l:Lay):List Value:=[.slice l.As l.secs.length l.cs,.slice l.Ag l.sigs.length l.cg,.slice l.Ae l.exits.length l.ce,.slice l.Af l.flanks.length l.cf,
 .int .i64 l.t0,.int .i64 l.t1,.int .i64 l.t2,.int .i64 l.t3,.int .i64 l.t4,.int .i64 l.t5,.int .i64 l.t6]
abbrev Lay.val (l:Lay):Value:=.agg #[.slice l.As l.secs.length l.cs,.slice l.Ag l.sigs.length l.cg,.slice l.Ae l.exits.length l.ce,.slice l.Af l.flanks.length l.cf,
 .int .i64 l.t0,.int .i64 l.t1,.int .i64 l.t2,.int .i64 l.t3,.int .i64 l.t4,.int .i64 l.t5,.int .i64 l.t6]
structure Lies (l:Lay) (w:World):Prop where
 secs:Row w w.heap.size l.As (l.secs.flatMap Sec.cells)
 sigs:Row w w.heap.size l.Ag (l.sigs.flatMap Zf)
 exits:Row w w.heap.size l.Ae (l.exits.flatMap Exm.cells)
 flanks:Row w w.heap.size l.Af (l.flanks.flatMap flkCells)
 overs:∀x ∈ l.exits,Row w w.heap.size x.A (x.over.flatMap Ze)
 kinds:∀s ∈ l.secs,0≤s.k∧s.k≤255
 nS:(l.secs.length:Int)≤9223372036854775807
 nG:(l.sigs.length:Int)≤9223372036854775807
 nE:(l.exits.length:Int)≤9223372036854775807
 nF:(l.flanks.length:Int)≤9223372036854775807
 nO:∀x ∈ l.exits,(x.over.length:Int)≤9223372036854775807
theorem Lies.closed (l:Lay):Closed (Lies l):=fun w w' h hb=>⟨h.secs.on hb,h.sigs.on hb,h.exits.on hb,h.flanks.on hb,fun x hx=>(h.overs x hx).on hb,h.kinds,h.nS,h.nG,h.nE,h.nF,h.nO⟩
theorem flat_at {α:Type} (f:α→List Value) (n:Nat) (hf:∀x,(f x).length=n):∀(l:List α) (i:Nat) (x:α) (k:Nat) (v:Value),l[i]? =some x→(f x)[k]? =some v→(l.flatMap f)[i*n+k]? =some v
 |[],i,x,k,v,h,_=>by simp at h
 |y::l,0,x,k,v,h,hk=>by
  simp only[Lm,Option.some.injEq] at h;subst h;rw[List.flatMap_cons,Nat.zero_mul,Nat.zero_add,List.getElem?_append_left (List.getElem?_eq_some_iff.1 hk).1];exact hk
 |y::l,i+1,x,k,v,h,hk=>by
  have e:(i+1)*n+k=(f y).length+(i*n+k):=by rw[hf,Nat.add_mul,Nat.one_mul];omega
  rw[List.flatMap_cons,e,List.getElem?_append_right (Nat.le_add_right _ _),Nat.add_sub_cancel_left];exact flat_at f n hf l i x k v (by simpa using h) hk
theorem Row.nth {α:Type} {f:α→List Value} {n:Nat} (hf:∀x,(f x).length=n) (hn:0<n) {w:World} {B:Nat} {A:Option Addr} {l:List α} (h:Row w B A (l.flatMap f)) {i:Nat} {x:α} (hi:l[i]? =some x):
 ∃b off,A=some ⟨b,off,none⟩∧b<B∧(∀(j:Nat) (y:α) (v:Value),l[j]? =some y→(f y)[0]? =some v→w.cell? ⟨b,off+j*n,none⟩=some v) ∧
  ∀(j:Nat) (y:α) (k:Nat) (v:Value),l[j]? =some y→(f y)[k]? =some v→w.cell? ⟨b,off+j*n+k,none⟩=some v:=by
 have h0:∃v,(f x)[0]? =some v:=⟨_,List.getElem?_eq_getElem (by rw[hf];exact hn)⟩
 obtain⟨v,hv⟩:=h0
 have hlt:=(List.getElem?_eq_some_iff.1 (flat_at f n hf l i x 0 v hi hv)).1
 obtain⟨b,off,e,hb,hc⟩:=h (by omega)
 have hc':∀(j:Nat) (y:α) (k:Nat) (v:Value),l[j]? =some y→(f y)[k]? =some v→w.cell? ⟨b,off+j*n+k,none⟩=some v:=fun j y k v hj hk=>by
  have :=hc _ _ (flat_at f n hf l j y k v hj hk);rwa [←Nat.add_assoc] at this
 exact⟨b,off,e,hb,fun j y v hj hk=>hc' j y 0 v hj hk,hc'⟩
theorem keep_box {P:World→Prop} (hP:Closed P) {w:World} (h:P w) (t:TypeId) (vs:List Value):
 ∃Q:World→Prop,Hid (Closed Q)∧Hid (∀W,Q W→P W)∧Hid (∀W,Q W→Whole W w.heap.size t vs)∧Q (w.alloc (.cells vs.toArray t)):=
 ⟨fun W=>P W∧Whole W w.heap.size t vs,Zz (hP.and (Closed.whole _ t vs)),Zz (fun _ h=>h.1),Zz (fun _ h=>h.2),hP _ _ h (below1 w _),Whole.new w t vs⟩
theorem keep_box2 {P:World→Prop} (hP:Closed P) {w:World} (h:P w) (t t':TypeId) (vs us:List Value):
 ∃Q:World→Prop,Hid (Closed Q)∧Hid (∀W,Q W→P W)∧Hid (∀W,Q W→Whole W w.heap.size t vs)∧Hid (∀W,Q W→Whole W (w.heap.size+1) t' us)∧Q ((w.alloc (.cells vs.toArray t)).alloc (.cells us.toArray t')):=
 ⟨fun W=>(P W∧Whole W w.heap.size t vs)∧Whole W (w.heap.size+1) t' us,Zz ((hP.and (Closed.whole _ t vs)).and (Closed.whole _ t' us)),Zz (fun _ h=>h.1.1),Zz (fun _ h=>h.1.2),Zz (fun _ h=>h.2),
  ⟨hP _ _ h (below2 w _ _),(Whole.new w t vs).alloc _⟩,Whole.Zj _ t' us _ (by simp)⟩
theorem Sec.len (s:Sec):s.cells.length=11:=rfl
def withinA (n a b:Int):Bool:=decide (a≤n)&&decide (n≤b)
theorem withinA_iff {n a b:Int}:withinA n a b=true↔a≤n∧n≤b:=by unfold withinA;rw[Bool.and_eq_true,decide_eq_true_eq,decide_eq_true_eq]
theorem withinL_P {P:World→Prop} {w:World} (n a b:Int) {r:Bool} (hr:withinA n a b=r) (h:P w):Calls Tryz.prog 96 #[.int .i64 n,.int .i64 a,.int .i64 b] w fun e w'=>e= .returned (.bool r)∧P w':=by
 subst hr;by_cases h1:a≤n
 · go_enter Tryz.func96,Tryz.ntmps96;go_wp2_with fail;go_ret;exact⟨Zc (by unfold withinA;simp[h1]),h⟩
 · have h':decide (a≤n)=false:=by simpa using h1
   go_enter Tryz.func96,Tryz.ntmps96;go_wp2_with fail;go_ret;exact⟨Zc (by unfold withinA;rw[h'];rfl),h⟩
def pK (k:Int):Int:=if k=1 then 2 else if k=2 then 3 else if k=3 then 4 else 0
def nK (k:Int):Int:=if k=1 then 1 else if k=2 then 2 else if k=3 then 2 else 0
def bK (k:Int):Int:=if k=1 then 1 else if k=2 then 1 else if k=3 then 1 else 0
def cK (k:Int):Int:=if k=3 then 2 else 0
def dK (k:Int):Int:=if k=2 then 2 else if k=3 then 3 else 0
theorem shapeK (k:Int):IsShape k (pK k) (nK k) 0 (bK k) (cK k) (dK k):=by
 unfold IsShape pK nK bK cK dK;by_cases h1:k=1
 · subst h1;decide
 · by_cases h2:k=2
   · subst h2;decide
   · by_cases h3:k=3
     · subst h3;decide
     · exact .inr (.inr (.inr ⟨by omega,by simp[h1,h2,h3],by simp[h1,h2,h3],rfl,by simp[h1,h2,h3],by simp[h3],by simp[h2,h3]⟩))
def wayK (k i o:Int):Int:=wayV (nK k) 0 (bK k) (cK k) (dK k) i o
def goesK (k i o:Int):Bool:=goesV (nK k) 0 (bK k) (cK k) (dK k) i o
def rightK (s:Sec):Bool:=rightV (pK s.k) (nK s.k) s.s0 s.q0 s.s1 s.q1 s.s2 s.q2 s.s3 s.q3 s.c0 s.c1
def Zu (l:Lay) (s:Int):Int:=if 0≤s then ((l.secs[s.toNat]?).map Sec.k).getD 0 else 0
theorem kindV_at {l:Lay} {j:Nat} {x:Sec} (h:l.secs[j]? =some x):Zu l j=x.k:=by
 unfold Zu;rw[if_pos (by omega),Int.toNat_natCast,h];rfl
theorem kindV_no {l:Lay} {s:Int} (h:¬(0≤s∧s<l.secs.length)):Zu l s=0:=by
 unfold Zu;by_cases h0:0≤s
 · rw[if_pos h0,List.getElem?_eq_none (by omega)];rfl
 · rw[if_neg h0]
theorem kindV_some {l:Lay} {s:Int} (h:Zu l s≠0):∃(j:Nat) (x:Sec),s=j∧l.secs[j]? =some x∧Zu l s=x.k:=by
 by_cases h0:0≤s∧s<l.secs.length
 · obtain⟨j,rfl⟩:∃j:Nat,s=j:=⟨s.toNat,by omega⟩;exact⟨j,l.secs[j]'(by omega),rfl,List.getElem?_eq_getElem (by omega),kindV_at (List.getElem?_eq_getElem (by omega))⟩
 · exact absurd (kindV_no h0) h
theorem kindV_range {l:Lay} {w:World} (hl:Lies l w) (s:Int):0≤Zu l s∧Zu l s≤255:=by
 by_cases h:Zu l s=0
 · rw[h];decide
 · obtain⟨j,x,_,hx,e⟩:=kindV_some h;rw[e];exact hl.kinds x (List.mem_of_getElem? hx)
theorem wrap_pred {n:Nat} (h:(n:Int)≤9223372036854775807):wrap64 ((n:Int) - 1)=n - 1:=by
 unfold wrap64;omega
def Zp (l:Lay) (s p:Int):Bool:=withinA p 0 (pK (Zu l s) - 1)
def stepV (l:Lay) (s i o:Int):Bool:=goesK (Zu l s) i o
theorem goesK_no (i o:Int):goesK 0 i o=false:=by rfl
theorem thereV_some {l:Lay} {s p:Int} (h:Zp l s p=true):∃(j:Nat) (x:Sec),s=j∧l.secs[j]? =some x:=by
 by_cases h0:Zu l s=0
 · unfold Zp at h;rw[h0,withinA_iff] at h;have :pK 0=0:=rfl;omega
 · obtain⟨j,x,e,hx,_⟩:=kindV_some h0;exact⟨j,x,e,hx⟩
theorem kind_P {P:World→Prop} {w:World} (hP:Closed P) {l:Lay} (hL:∀w,P w→Lies l w) (s:Int) {k:Int} (hk:Zu l s=k) (h:P w):Calls Tryz.prog 147 #[l.val,.int .i64 s] w fun e w'=>e= .returned (.int .u8 k)∧P w':=by
 obtain⟨Q,HQ,HQp,HQl,hq⟩:=keep_box hP h 29 l.cells;have hwr:=wrap_pred (hL _ h).nS;by_cases hs:0≤s∧s<l.secs.length
 · obtain⟨j,rfl⟩:∃j:Nat,s=j:=⟨s.toNat,by omega⟩;have hj:j<l.secs.length:=by omega
   obtain⟨x,hx⟩:∃x,l.secs[j]? =some x:=⟨_,List.getElem?_eq_getElem hj⟩;have hw:withinA (j:Int) 0 (wrap64 ((l.secs.length:Int) - 1))=true:=by rw[hwr];unfold withinA;simp;omega
   have HX:=Zz hx;obtain rfl:=hk.symm.trans (kindV_at hx);clear hs hk hwr hx;have HW:=Zz hw;clear hw;go_enter Tryz.func147,Tryz.ntmps147;go_wp2_with fail;refine(withinL_P _ _ _ HW.out hq).mono ?_;rintro e w1 ⟨rfl,hq⟩;obtain⟨b,off,hA,hb,hc0,hc⟩:=(hL _ (HQp.out _ hq)).secs.nth Sec.len (by omega) HX.out;have c0:=hc0 j x _ HX.out rfl;clear hc0 hc;have x0:=(HQl.out _ hq).Za 0 rfl;have hlt:(j:Int)<l.secs.length:=by omega
   go_wp2_with fail;go_ret;exact⟨rfl,HQp.out _ hq⟩
 · have hw:withinA s 0 (wrap64 ((l.secs.length:Int) - 1))=false:=by rw[hwr];unfold withinA;rw[Bool.and_eq_false_iff,decide_eq_false_iff_not,decide_eq_false_iff_not];omega
   obtain rfl:=hk.symm.trans (kindV_no hs);have HW:=Zz hw;clear hw hk hs hwr;go_enter Tryz.func147,Tryz.ntmps147;go_wp2_with fail;refine(withinL_P _ _ _ HW.out hq).mono ?_;rintro e w1 ⟨rfl,hq⟩;go_wp2_with fail;go_ret;exact⟨rfl,HQp.out _ hq⟩
end
section
theorem fits_num {k:IntKind} {ls:List Leaf} {cs:List Value} (h:Fits (.num k::ls) cs):∃(n:Int) (vs:List Value),cs= .int k n::vs∧(Lit.int k n).wf=true∧Fits ls vs:=by
 cases cs with
 |nil=>exact h.elim
 |cons v vs=>
  obtain⟨⟨n,rfl,hw⟩,h2⟩:=h;exact⟨n,vs,rfl,hw,h2⟩
theorem fits_nil {cs:List Value} (h:Fits [] cs):cs=[]:=by
 cases cs with
 |nil=>rfl
 |cons v vs=>exact h.elim
def secL:List Leaf:=[.num .u8,.num .i64,.num .i64,.num .i64,.num .i64,.num .i64,.num .i64,.num .i64,.num .i64,.num .i64,.num .i64]
def stepL:List Leaf:=[.num .i64,.num .i64,.num .i64]
def portL:List Leaf:=[.num .i64,.num .i64]
theorem sec_of {cs:List Value} (h:Fits secL cs):∃k a b c d e f g i j l:Int,cs=[.int .u8 k,.int .i64 a,.int .i64 b,.int .i64 c,.int .i64 d,.int .i64 e,.int .i64 f,.int .i64 g,.int .i64 i,.int .i64 j,.int .i64 l]∧(0≤k∧k≤255):=by
 unfold secL at h;obtain⟨k,cs,rfl,w_k,h⟩:=fits_num h;obtain⟨a,cs,rfl,w_a,h⟩:=fits_num h;obtain⟨b,cs,rfl,w_b,h⟩:=fits_num h;obtain⟨c,cs,rfl,w_c,h⟩:=fits_num h;obtain⟨d,cs,rfl,w_d,h⟩:=fits_num h;obtain⟨e,cs,rfl,w_e,h⟩:=fits_num h;obtain⟨f,cs,rfl,w_f,h⟩:=fits_num h;obtain⟨g,cs,rfl,w_g,h⟩:=fits_num h;obtain⟨i,cs,rfl,w_i,h⟩:=fits_num h;obtain⟨j,cs,rfl,w_j,h⟩:=fits_num h;obtain⟨l,cs,rfl,w_l,h⟩:=fits_num h;obtain rfl:=fits_nil h;exact⟨k,a,b,c,d,e,f,g,i,j,l,rfl,(Lit.wf_int_iff .u8 k).1 w_k⟩
theorem step_of {cs:List Value} (h:Fits stepL cs):∃a b c:Int,cs=[.int .i64 a,.int .i64 b,.int .i64 c]:=by
 unfold stepL at h;obtain⟨a,cs,rfl,w_a,h⟩:=fits_num h;obtain⟨b,cs,rfl,w_b,h⟩:=fits_num h;obtain⟨c,cs,rfl,w_c,h⟩:=fits_num h;obtain rfl:=fits_nil h;exact⟨a,b,c,rfl⟩
theorem port_of {cs:List Value} (h:Fits portL cs):∃a b:Int,cs=[.int .i64 a,.int .i64 b]:=by
 unfold portL at h;obtain⟨a,cs,rfl,w_a,h⟩:=fits_num h;obtain⟨b,cs,rfl,w_b,h⟩:=fits_num h;obtain rfl:=fits_nil h;exact⟨a,b,rfl⟩
end
section
open Go.ChangeShapes Go.WideShapes Go.ChangeAt Go.RowKit Go.Deep
open Go.Joins Go.Shelf
theorem list_choose {α:Type} {p:Nat→α→Prop}:∀(n:Nat),(∀i,i<n→∃x,p i x)→∃l:List α,l.length=n∧∀i x,l[i]? =some x→p i x
 |0,_=>⟨[],rfl,fun i x h=>by simp at h⟩
 |n+1,h=>by
  obtain⟨l,hl,hp⟩:=list_choose n (fun i hi=>h i (by omega));obtain⟨x,hx⟩:=h n (by omega);refine⟨l++[x],by simp[hl],fun i y hy=>?_⟩;by_cases hi:i<l.length
  · rw[List.getElem?_append_left hi] at hy;exact hp i y hy
  · have hlt:=(List.getElem?_eq_some_iff.1 hy).1;simp at hlt;obtain rfl:i=l.length:=by omega
    rw[List.getElem?_append_right (Nat.le_refl _),Nat.sub_self] at hy;simp at hy;subst hy;rw[hl];exact hx
theorem flat_inv {α:Type} {f:α→List Value} {c:Nat} (hf:∀x,(f x).length=c):∀(l:List α) (j:Nat) (u:Value),(l.flatMap f)[j]? =some u→∃i x k,l[i]? =some x∧(f x)[k]? =some u∧j=i*c+k
 |[],j,u,h=>by simp at h
 |y::l,j,u,h=>by
  rw[List.flatMap_cons] at h;by_cases hj:j<(f y).length
  · rw[List.getElem?_append_left hj] at h;exact⟨0,y,j,rfl,h,by omega⟩
  · rw[List.getElem?_append_right (by omega)] at h;obtain⟨i,x,k,h1,h2,h3⟩:=flat_inv hf l _ u h;refine⟨i+1,x,k,by simpa using h1,h2,?_⟩;rw[hf] at h3 hj;rw[Nat.add_mul];omega
section
variable {H:Type} {enc:TypeId×Value→H} {w:World} {base:Nat} {spare:Nat→Bool} {held:Bool}
theorem row_open {α:Type} {f:α→List Value} {G:α→Prop} {t e:TypeId} {c:Nat} (hf:∀x,(f x).length=c) (hc0:0<c) (ht:Tryz.prog.underlying t=some (.slice e)) (hc:Tryz.prog.cellsOf e=c)
 (hel:∀n cs x,DataW.trod enc Tryz.prog w base spare held n e cs=some x→∃a:α,cs=f a∧G a) {fuel:Nat} {v:Value} {y:DataW H×List MemPlace} (h:DataW.trod enc Tryz.prog w base spare held fuel t [v]=some y):
 ∃(A:Option Addr) (cap:Nat) (l:List α),v= .slice A l.length cap∧Row w w.heap.size A (l.flatMap f)∧(∀a ∈ l,G a)∧(l.length:Int)≤9223372036854775807:=by
 rcases open_slice ht h with ⟨hcs,_⟩|⟨a,len,cap,m,n,D,Pl,hcs,hb,hl,hm,hmm,_,hx⟩
 · simp at hcs;subst hcs;exact⟨none,0,[],rfl,Row.nil _ _ _,by simp,by simp⟩
 · simp at hcs;subst hcs;have hlm:len≤m:=by rw[hmm];split <;> omega
   obtain⟨l,hll,hp⟩:=list_choose (α:=α) (p:=fun i x=>w.cells? base (a.add (i*c)) c=some (f x)∧G x) len (fun i hi=>by
    obtain⟨cs',h1,h2⟩:=hx i (by omega);rw[hc] at h1;obtain⟨x,rfl,hg⟩:=hel _ _ _ h2;exact⟨x,h1,hg⟩);refine⟨some a,cap,l,by rw[hll],row_of_cells ?_,fun x hx=>?_,by rw[hll];unfold maxLen at hm;omega⟩
   · intro j u hu;obtain⟨i,x,k,h1,h2,rfl⟩:=flat_inv hf l j u hu;obtain⟨_,_,hcell⟩:=World.cells?_some (hp i x h1).1;have hk:k<c:=by rw[←hf x];exact(List.getElem?_eq_some_iff.1 h2).1
     have :=hcell k hk;rw[Addr.add_add] at this;rw[this];exact h2
   · obtain⟨i,hi,e⟩:=List.getElem_of_mem hx;exact(hp i x (by rw[List.getElem?_eq_getElem hi,e])).2
theorem plain_el {n:Nat} {t:TypeId} {ls:List Leaf} {cs:List Value} {x:DataW H×List MemPlace} (m:Nat) (hl:leaves Tryz.prog m t=some ls) (h:DataW.trod enc Tryz.prog w base spare held n t cs=some x):Fits ls cs:=(plain_open m t ls n cs x hl h).1
theorem sec_el {n:Nat} {cs:List Value} {x:DataW H×List MemPlace} (h:DataW.trod enc Tryz.prog w base spare held n 63 cs=some x):∃s:Sec,cs=s.cells∧0≤s.k∧s.k≤255:=by
 obtain⟨k,a,b,c,d,e,f,g,i,j,l,rfl,hk⟩:=sec_of (plain_el 8 (ls:=secL) (by kernel_rfl) h);exact⟨⟨k,a,b,c,d,e,f,g,i,j,l⟩,rfl,hk⟩
theorem sig_el {n:Nat} {cs:List Value} {x:DataW H×List MemPlace} (h:DataW.trod enc Tryz.prog w base spare held n 83 cs=some x):∃s:Int×Int,cs=Zf s∧True:=by
 obtain⟨a,b,rfl⟩:=port_of (plain_el 8 (ls:=portL) (by kernel_rfl) h);exact⟨(a,b),rfl,trivial⟩
theorem stp_el {n:Nat} {cs:List Value} {x:DataW H×List MemPlace} (h:DataW.trod enc Tryz.prog w base spare held n 66 cs=some x):∃s:Int×Int×Int,cs=Ze s∧True:=by
 obtain⟨a,b,c,rfl⟩:=step_of (plain_el 8 (ls:=stepL) (by kernel_rfl) h);exact⟨(a,b,c),rfl,trivial⟩
theorem field_of {P:Program} {t:TypeId} {i ty off:Nat} (h:((P.fieldsOf t)[i]?).map (fun f=>(f.type,f.offset))=some (ty,off)):∃f:Field,(P.fieldsOf t)[i]? =some f∧f.type=ty∧f.offset=off:=by
 cases hf:(P.fieldsOf t)[i]? with
 |none=>rw[hf] at h;cases h
 |some f=>rw[hf] at h;simp at h;exact⟨f,rfl,h.1,h.2⟩
theorem ex_el {n:Nat} {cs:List Value} {x:DataW H×List MemPlace} (h:DataW.trod enc Tryz.prog w base spare held n 87 cs=some x):
 ∃s:Exm,cs=s.cells∧Row w w.heap.size s.A (s.over.flatMap Ze)∧(s.over.length:Int)≤9223372036854775807:=by
 obtain⟨xs,m,_,rfl,hlen,hxs,hf⟩:=DataW.trod_struct Tryz.underlying87 h
 have hcl:Tryz.prog.cellsOf 87=3:=by kernel_rfl
 rw[hcl] at hlen
 obtain⟨f0,g0,t0,o0⟩:=field_of (P:=Tryz.prog) (t:=87) (i:=0) (ty:=59) (off:=0) (by kernel_rfl)
 obtain⟨f1,g1,t1,o1⟩:=field_of (P:=Tryz.prog) (t:=87) (i:=1) (ty:=44) (off:=2) (by kernel_rfl)
 have hsz:xs.length=2:=by rw[hxs];kernel_rfl
 match cs,hlen,xs,hsz with
 |[a0,a1,a2],_,[y0,y1],_=>
  have h0:=hf 0 f0 g0;have h1:=hf 1 f1 g1;rw[t0,o0,show Tryz.prog.cellsOf 59=2 by kernel_rfl] at h0;rw[t1,o1,show Tryz.prog.cellsOf 44=1 by kernel_rfl] at h1;obtain⟨a,b,e⟩:=port_of (plain_el 8 (ls:=portL) (by kernel_rfl) (x:=y0) h0);simp at e;obtain⟨rfl,rfl⟩:=e;obtain⟨A,cap,l,hv,hr,_,hl⟩:=row_open (f:=Ze) (G:=fun _=>True) (c:=3) (fun _=>rfl) (by omega) Tryz.underlying44 (by kernel_rfl) (fun n cs x h=>stp_el h) (v:=a2) (y:=y1) h1;subst hv;exact⟨⟨a,b,A,cap,l⟩,rfl,hr,hl⟩
end
structure Caps (l:Lay):Prop where
 secs:l.secs.length≤l.cs
 sigs:l.sigs.length≤l.cg
 exits:l.exits.length≤l.ce
 flanks:l.flanks.length≤l.cf
section
variable {H:Type} {enc:TypeId×Value→H} {w:World} {base:Nat} {spare:Nat→Bool} {held:Bool}
theorem row_openC {α:Type} {f:α→List Value} {G:α→Prop} {t e:TypeId} {c:Nat} (hf:∀x,(f x).length=c) (hc0:0<c) (ht:Tryz.prog.underlying t=some (.slice e)) (hc:Tryz.prog.cellsOf e=c)
 (hel:∀n cs x,DataW.trod enc Tryz.prog w base spare held n e cs=some x→∃a:α,cs=f a∧G a) {fuel:Nat} {v:Value} {y:DataW H×List MemPlace} (h:DataW.trod enc Tryz.prog w base spare held fuel t [v]=some y):
 ∃(A:Option Addr) (cap:Nat) (l:List α),v= .slice A l.length cap∧Row w w.heap.size A (l.flatMap f)∧(∀a ∈ l,G a)∧(l.length:Int)≤9223372036854775807∧l.length≤cap:=by
 rcases open_slice ht h with ⟨hcs,_⟩|⟨a,len,cap,m,n,D,Pl,hcs,hb,hl,hm,hmm,_,hx⟩
 · simp at hcs;subst hcs;exact⟨none,0,[],rfl,Row.nil _ _ _,by simp,by simp,by simp⟩
 · simp at hcs;subst hcs;have hlm:len≤m:=by rw[hmm];split <;> omega
   obtain⟨l,hll,hp⟩:=list_choose (α:=α) (p:=fun i x=>w.cells? base (a.add (i*c)) c=some (f x)∧G x) len (fun i hi=>by
    obtain⟨cs',h1,h2⟩:=hx i (by omega);rw[hc] at h1;obtain⟨x,rfl,hg⟩:=hel _ _ _ h2;exact⟨x,h1,hg⟩);refine⟨some a,cap,l,by rw[hll],row_of_cells ?_,fun x hx=>?_,by rw[hll];unfold maxLen at hm;omega,by rw[hll];exact hl⟩
   · intro j u hu;obtain⟨i,x,k,h1,h2,rfl⟩:=flat_inv hf l j u hu;obtain⟨_,_,hcell⟩:=World.cells?_some (hp i x h1).1;have hk:k<c:=by rw[←hf x];exact(List.getElem?_eq_some_iff.1 h2).1
     have :=hcell k hk;rw[Addr.add_add] at this;rw[this];exact h2
   · obtain⟨i,hi,e⟩:=List.getElem_of_mem hx;exact(hp i x (by rw[List.getElem?_eq_getElem hi,e])).2
end
end
section
open Go.RowKit Go.Shelf
section
variable {P:World→Prop} {w:World}
theorem wrapI_in (n:Int) (h:-9223372036854775808≤n∧n≤9223372036854775807):IntKind.i64.wrap n=n:=by rw[IntKind.wrap_i64];omega
theorem pK_pred (k:Int):IntKind.i64.wrap (pK k - 1)=pK k - 1:=by
 refine wrapI_in _ ?_;unfold pK;split <;> (try split) <;> (try split) <;> omega
theorem nK_pred (k:Int):IntKind.i64.wrap (nK k - 1)=nK k - 1:=by
 refine wrapI_in _ ?_;unfold nK;split <;> (try split) <;> (try split) <;> omega
theorem portThere_P (hP:Closed P) (hT:∀w,P w→Shapes w) {l:Lay} (hL:∀w,P w→Lies l w) (s p:Int) {r:Bool} (hr:Zp l s p=r) (h:P w):
 Calls Tryz.prog 98 #[l.val,prtV s p] w fun e w'=>e= .returned (.bool r)∧P w':=by
 obtain⟨Q,HQ,HQp,HQl,HQv,hq⟩:=keep_box2 hP h 29 59 l.cells (Zf (s,p))
 obtain⟨k,hk⟩:∃k,Zu l s=k:=⟨_,rfl⟩
 have hkr:=kindV_range (hL _ h) s
 rw[hk] at hkr
 have hr2:withinA p 0 (IntKind.i64.wrap (pK k - 1))=r:=by rw[pK_pred,←hk];exact hr
 have HK:=Zz (fun W hW=>kind_P (P:=Q) (w:=W) HQ.out (fun W hW=>hL _ (HQp.out _ hW)) s hk hW)
 have HPo:=Zz (fun W hW=>ports_P (P:=Q) (w:=W) HQ.out (fun W hW=>hT _ (HQp.out _ hW)) hkr.1 hkr.2 (shapeK k) hW)
 have HWi:=Zz (fun W hW=>withinL_P (P:=Q) (w:=W) p 0 (IntKind.i64.wrap (pK k - 1)) hr2 hW)
 clear hk hkr hr2 hr
 have HS:=Zz (HQ.out.drew hq)
 clear hq
 generalize pK k=pk at *
 go_enter Tryz.func98,Tryz.ntmps98
 go_wp2_with fail
 refine region_steady (Q) 9 (by kernel_rfl) (by kernel_rfl) HS.out ?_
 simp only[List.take_succ_cons,List.take_zero,List.drop_succ_cons,List.drop_zero]
 repeat ((first|(refine steady_skip (by rfl) ?_)|(refine steady_read _ (by rfl) (fun W hW=>by(obtain⟨x0,x1,x2,x3,x4,x5,x6,x7,x8,x9,x10⟩:=(HQl.out _ hW).c11;obtain⟨v0,v1⟩:=(HQv.out _ hW).c2;go_simp;first|done|with_reducible rfl)) ?_)|(refine steady_call _ _ _ (by rfl) (fun W hW=>by(obtain⟨x0,x1,x2,x3,x4,x5,x6,x7,x8,x9,x10⟩:=(HQl.out _ hW).c11;obtain⟨v0,v1⟩:=(HQv.out _ hW).c2;go_simp;first|done|rfl)) (fun W hW=>HK.out _ hW) ?_)|(refine steady_call _ _ _ (by rfl) (fun W hW=>by(obtain⟨x0,x1,x2,x3,x4,x5,x6,x7,x8,x9,x10⟩:=(HQl.out _ hW).c11;obtain⟨v0,v1⟩:=(HQv.out _ hW).c2;go_simp;first|done|rfl)) (fun W hW=>HPo.out _ hW) ?_)|(refine steady_call _ _ _ (by rfl) (fun W hW=>by(obtain⟨x0,x1,x2,x3,x4,x5,x6,x7,x8,x9,x10⟩:=(HQl.out _ hW).c11;obtain⟨v0,v1⟩:=(HQv.out _ hW).c2;go_simp;first|done|rfl)) (fun W hW=>HWi.out _ hW) ?_));simp only[Act.put,La,Lb,Lc])
 refine steady_nil (fun W hW=>?_)
 go_wp2_with fail
 go_ret
 exact⟨rfl,HQp.out _ hW⟩
theorem step_P (hP:Closed P) (hT:∀w,P w→Shapes w) {l:Lay} (hL:∀w,P w→Lies l w) (s i o:Int) {v:Int} {r:Bool} (hv:wayK (Zu l s) i o=v) (hr:stepV l s i o=r) (h:P w):
 Calls Tryz.prog 148 #[l.val,stpV s i o] w fun e w'=>e= .returned (.tuple #[.int .i64 v,.bool r])∧P w':=by
 obtain⟨Q,HQ,HQp,HQl,HQv,hq⟩:=keep_box2 hP h 29 66 l.cells (Ze (s,i,o))
 obtain⟨k,hk⟩:∃k,Zu l s=k:=⟨_,rfl⟩
 have hkr:=kindV_range (hL _ h) s
 unfold stepV at hr
 rw[hk] at hkr hv hr
 have HK:=Zz (fun W hW=>kind_P (P:=Q) (w:=W) HQ.out (fun W hW=>hL _ (HQp.out _ hW)) s hk hW)
 have HWa:=Zz (fun W hW=>way_P (P:=Q) (w:=W) HQ.out (fun W hW=>hT _ (HQp.out _ hW)) k i o hkr.1 hkr.2 (shapeK k) hv hr hW)
 clear hk hkr hv hr
 have HS:=Zz (HQ.out.drew hq)
 clear hq
 go_enter Tryz.func148,Tryz.ntmps148
 go_wp2_with fail
 refine region_steady (Q) 11 (by kernel_rfl) (by kernel_rfl) HS.out ?_
 simp only[List.take_succ_cons,List.take_zero,List.drop_succ_cons,List.drop_zero]
 repeat ((first|(refine steady_skip (by rfl) ?_)|(refine steady_read _ (by rfl) (fun W hW=>by(obtain⟨x0,x1,x2,x3,x4,x5,x6,x7,x8,x9,x10⟩:=(HQl.out _ hW).c11;obtain⟨v0,v1,v2⟩:=(HQv.out _ hW).c3;go_simp;first|done|with_reducible rfl)) ?_)|(refine steady_call _ _ _ (by rfl) (fun W hW=>by(obtain⟨x0,x1,x2,x3,x4,x5,x6,x7,x8,x9,x10⟩:=(HQl.out _ hW).c11;obtain⟨v0,v1,v2⟩:=(HQv.out _ hW).c3;go_simp;first|done|rfl)) (fun W hW=>HK.out _ hW) ?_)|(refine steady_call _ _ _ (by rfl) (fun W hW=>by(obtain⟨x0,x1,x2,x3,x4,x5,x6,x7,x8,x9,x10⟩:=(HQl.out _ hW).c11;obtain⟨v0,v1,v2⟩:=(HQv.out _ hW).c3;go_simp;first|done|rfl)) (fun W hW=>HWa.out _ hW) ?_));simp only[Act.put,La,Lb,Lc])
 refine steady_nil (fun W hW=>?_)
 go_wp2_with fail
 go_ret2
 exact⟨rfl,HQp.out _ hW⟩
theorem stepThere_P (hP:Closed P) (hT:∀w,P w→Shapes w) {l:Lay} (hL:∀w,P w→Lies l w) (s i o:Int) {r:Bool} (hr:stepV l s i o=r) (h:P w):
 Calls Tryz.prog 100 #[l.val,stpV s i o] w fun e w'=>e= .returned (.bool r)∧P w':=by
 obtain⟨Q,HQ,HQp,HQl,HQv,hq⟩:=keep_box2 hP h 29 66 l.cells (Ze (s,i,o))
 have HSt:=Zz (fun W hW=>step_P (P:=Q) (w:=W) HQ.out (fun W hW=>hT _ (HQp.out _ hW)) (fun W hW=>hL _ (HQp.out _ hW)) s i o rfl hr hW)
 clear hr
 generalize wayK (Zu l s) i o=v at *
 have hW:=hq
 obtain⟨x0,x1,x2,x3,x4,x5,x6,x7,x8,x9,x10⟩:=(HQl.out _ hW).c11
 obtain⟨v0,v1,v2⟩:=(HQv.out _ hW).c3
 clear hW
 go_enter Tryz.func100,Tryz.ntmps100
 go_wp2_with fail
 refine(HSt.out _ hq).mono ?_
 clear x0 x1 x2 x3 x4 x5 x6 x7 x8 x9 x10 v0 v1 v2
 rintro e w1 ⟨rfl,hq⟩
 go_wp2_with fail
 go_ret
 exact⟨rfl,HQp.out _ hq⟩
end
def Sec.zero:Sec:=⟨0,0,0,0,0,0,0,0,0,0,0⟩
def atV (l:Lay) (s p:Int):Sec:=if Zp l s p=true then (l.secs[s.toNat]?).getD Sec.zero else Sec.zero
theorem atV_no {l:Lay} {s p:Int} (h:Zp l s p=false):atV l s p=Sec.zero:=by unfold atV;rw[h];rfl
theorem atV_yes {l:Lay} {s p:Int} (h:Zp l s p=true):∃(j:Nat),s=j∧l.secs[j]? =some (atV l s p):=by
 obtain⟨j,x,rfl,hx⟩:=thereV_some h;refine⟨j,rfl,?_⟩;unfold atV;rw[if_pos h,Int.toNat_natCast,hx];rfl
theorem keep_box3 {P:World→Prop} (hP:Closed P) {w:World} (h:P w) (t t' t'':TypeId) (vs us rs:List Value):
 ∃Q:World→Prop,Hid (Closed Q)∧Hid (∀W,Q W→P W)∧Hid (∀W,Q W→Whole W w.heap.size t vs)∧Hid (∀W,Q W→Whole W (w.heap.size+1) t' us)∧Hid (∀W,Q W→Whole W (w.heap.size+1+1) t'' rs)∧Hid (∀W,Q W→Below w.heap.size w W)∧Q (((w.alloc (.cells vs.toArray t)).alloc (.cells us.toArray t')).alloc (.cells rs.toArray t'')):=
 ⟨fun W=>(((P W∧Whole W w.heap.size t vs)∧Whole W (w.heap.size+1) t' us)∧Whole W (w.heap.size+1+1) t'' rs)∧Below w.heap.size w W,Zz ((((hP.and (Closed.whole _ t vs)).and (Closed.whole _ t' us)).and (Closed.whole _ t'' rs)).and (Closed.below w)),Zz (fun _ h=>h.1.1.1.1),Zz (fun _ h=>h.1.1.1.2),Zz (fun _ h=>h.1.1.2),Zz (fun _ h=>h.1.2),Zz (fun _ h=>h.2),
  ⟨⟨⟨hP _ _ h (below3 w _ _ _),((Whole.new w t vs).alloc _).alloc _⟩,(Whole.Zj _ t' us _ (by simp)).alloc _⟩,Whole.Zj _ t'' rs _ (by simp)⟩,below3 w _ _ _⟩
theorem whole_over {W:World} {g:Nat} {t:TypeId} {a b:Sec} (h:Whole W g t a.cells):
 Whole ((((((((((((W.setCell ⟨g,0,none⟩ (.int .u8 b.k)).setCell ⟨g,1,none⟩ (.int .i64 b.s0)).setCell ⟨g,2,none⟩ (.int .i64 b.q0)).setCell ⟨g,3,none⟩ (.int .i64 b.s1)).setCell ⟨g,4,none⟩ (.int .i64 b.q1)).setCell ⟨g,5,none⟩ (.int .i64 b.s2)).setCell ⟨g,6,none⟩ (.int .i64 b.q2)).setCell ⟨g,7,none⟩ (.int .i64 b.s3)).setCell ⟨g,8,none⟩ (.int .i64 b.q3)).setCell ⟨g,9,none⟩ (.int .i64 b.c0)).setCell ⟨g,10,none⟩ (.int .i64 b.c1))) g t b.cells:=
 ((((((((((h.set 0 _).set 1 _).set 2 _).set 3 _).set 4 _).set 5 _).set 6 _).set 7 _).set 8 _).set 9 _).set 10 _
theorem below_over {W w0:World} {n g:Nat} {b:Sec} (h:Below n w0 W) (hg:n≤g):
 Below n w0 ((((((((((((W.setCell ⟨g,0,none⟩ (.int .u8 b.k)).setCell ⟨g,1,none⟩ (.int .i64 b.s0)).setCell ⟨g,2,none⟩ (.int .i64 b.q0)).setCell ⟨g,3,none⟩ (.int .i64 b.s1)).setCell ⟨g,4,none⟩ (.int .i64 b.q1)).setCell ⟨g,5,none⟩ (.int .i64 b.s2)).setCell ⟨g,6,none⟩ (.int .i64 b.q2)).setCell ⟨g,7,none⟩ (.int .i64 b.s3)).setCell ⟨g,8,none⟩ (.int .i64 b.q3)).setCell ⟨g,9,none⟩ (.int .i64 b.c0)).setCell ⟨g,10,none⟩ (.int .i64 b.c1))):=
 ((((((((((h.setCell (p:=⟨g,0,none⟩) hg _).setCell (p:=⟨g,1,none⟩) hg _).setCell (p:=⟨g,2,none⟩) hg _).setCell (p:=⟨g,3,none⟩) hg _).setCell (p:=⟨g,4,none⟩) hg _).setCell (p:=⟨g,5,none⟩) hg _).setCell (p:=⟨g,6,none⟩) hg _).setCell (p:=⟨g,7,none⟩) hg _).setCell (p:=⟨g,8,none⟩) hg _).setCell (p:=⟨g,9,none⟩) hg _).setCell (p:=⟨g,10,none⟩) hg _
section
variable {P:World→Prop} {w:World}
theorem at_P (hP:Closed P) (hT:∀w,P w→Shapes w) {l:Lay} (hL:∀w,P w→Lies l w) (s p:Int) {x:Sec} {r:Bool} (hx:atV l s p=x) (hr:Zp l s p=r) (h:P w):
 Calls Tryz.prog 129 #[l.val,prtV s p] w fun e w'=>e= .returned (.tuple #[x.val,.bool r])∧P w':=by
 obtain⟨Q,HQ,HQp,HQl,HQv,HQr,HQb,hq⟩:=keep_box3 hP h 29 59 63 l.cells (Zf (s,p)) [.int .u8 0,.int .i64 0,.int .i64 0,.int .i64 0,.int .i64 0,.int .i64 0,.int .i64 0,.int .i64 0,.int .i64 0,.int .i64 0,.int .i64 0]
 have HPt:=Zz (fun W hW=>portThere_P (P:=Q) (w:=W) HQ.out (fun W hW=>hT _ (HQp.out _ hW)) (fun W hW=>hL _ (HQp.out _ hW)) s p hr hW)
 have HPP:=Zz (fun W (hB:Below w.heap.size w W)=>hP _ _ h hB)
 clear h
 cases r
 · obtain rfl:=hx.symm.trans (atV_no hr);clear hr;have hW:=hq;obtain⟨x0,x1,x2,x3,x4,x5,x6,x7,x8,x9,x10⟩:=(HQl.out _ hW).c11;obtain⟨v0,v1⟩:=(HQv.out _ hW).c2;clear hW;go_enter Tryz.func129,Tryz.ntmps129;go_wp2_with fail;refine wp_scope_fwd (l:=0) rfl ?_;go_wp2_with fail;refine(HPt.out _ hq).mono ?_;clear x0 x1 x2 x3 x4 x5 x6 x7 x8 x9 x10 v0 v1 hq;rintro e w1 ⟨rfl,hq⟩;go_wp2_with fail;go_step3
   simp only[Exit.then,fwd_goto];refine⟨trivial,?_⟩;have hW:=HQr.out _ hq;have f0:=hW.frozen 0;have f1:=hW.frozen 1;have f2:=hW.frozen 2;have f3:=hW.frozen 3;have f4:=hW.frozen 4;have f5:=hW.frozen 5;have f6:=hW.frozen 6;have f7:=hW.frozen 7;have f8:=hW.frozen 8;have f9:=hW.frozen 9;have f10:=hW.frozen 10;obtain⟨z0,z1,z2,z3,z4,z5,z6,z7,z8,z9,z10⟩:=hW.c11;go_wp2_with fail;rw[Exit.noGoto_ret];have hWo:=whole_over (a:=Sec.zero) (b:=Sec.zero) hW;have hBo:=below_over (b:=Sec.zero) (HQb.out _ hq) (show w.heap.size≤w.heap.size+1+1 by omega);obtain⟨e0,e1,e2,e3,e4,e5,e6,e7,e8,e9,e10⟩:=hWo.c11;refine bodyPost_ret (v:=.tuple #[Sec.zero.val,.bool false]) ?_ rfl ⟨rfl,HPP.out _ hBo⟩;unfold Sec.zero at *;simp[results,Tryz.f129,go_sem,e0,e1,e2,e3,e4,e5,e6,e7,e8,e9,e10]
 · obtain⟨j,rfl,hj⟩:=atV_yes hr;rw[hx] at hj;have HX:=Zz hj;have hlt:(j:Int)<l.secs.length:=by have :=(List.getElem?_eq_some_iff.1 hj).1;omega
   clear hr hx hj;have hW:=hq;obtain⟨x0,x1,x2,x3,x4,x5,x6,x7,x8,x9,x10⟩:=(HQl.out _ hW).c11;obtain⟨v0,v1⟩:=(HQv.out _ hW).c2;clear hW;go_enter Tryz.func129,Tryz.ntmps129;go_wp2_with fail;refine wp_scope_fwd (l:=0) rfl ?_;go_wp2_with fail;refine(HPt.out _ hq).mono ?_;clear x0 x1 x2 x3 x4 x5 x6 x7 x8 x9 x10 v0 v1 hq;rintro e w1 ⟨rfl,hq⟩;have hW:=HQr.out _ hq;have x0:=(HQl.out _ hq).Za 0 rfl;have v0:=(HQv.out _ hq).Za 0 rfl;obtain⟨b,off,hA,hb,hc0,hc⟩:=(hL _ (HQp.out _ hq)).secs.nth Sec.len (by omega) HX.out;have c0:=hc0 j x _ HX.out rfl;have c1:=hc j x 1 _ HX.out rfl;have c2:=hc j x 2 _ HX.out rfl;have c3:=hc j x 3 _ HX.out rfl;have c4:=hc j x 4 _ HX.out rfl;have c5:=hc j x 5 _ HX.out rfl;have c6:=hc j x 6 _ HX.out rfl;have c7:=hc j x 7 _ HX.out rfl;have c8:=hc j x 8 _ HX.out rfl;have c9:=hc j x 9 _ HX.out rfl;have c10:=hc j x 10 _ HX.out rfl;clear hc0 hc;have f0:=hW.frozen 0;have f1:=hW.frozen 1;have f2:=hW.frozen 2;have f3:=hW.frozen 3;have f4:=hW.frozen 4;have f5:=hW.frozen 5;have f6:=hW.frozen 6;have f7:=hW.frozen 7;have f8:=hW.frozen 8;have f9:=hW.frozen 9;have f10:=hW.frozen 10;obtain⟨z0,z1,z2,z3,z4,z5,z6,z7,z8,z9,z10⟩:=hW.c11;go_wp2_with fail;rw[fwd_ret];have hWo:=whole_over (a:=Sec.zero) (b:=x) hW;have hBo:=below_over (b:=x) (HQb.out _ hq) (show w.heap.size≤w.heap.size+1+1 by omega);clear c0 c1 c2 c3 c4 c5 c6 c7 c8 c9 c10 z0 z1 z2 z3 z4 z5 z6 z7 z8 z9 z10;obtain⟨e0,e1,e2,e3,e4,e5,e6,e7,e8,e9,e10⟩:=hWo.c11;refine bodyPost_ret (v:=.tuple #[x.val,.bool true]) ?_ rfl ⟨rfl,HPP.out _ hBo⟩;simp[results,Tryz.f129,go_sem,e0,e1,e2,e3,e4,e5,e6,e7,e8,e9,e10]
end
section
variable {P:World→Prop} {w:World}
theorem indexSignal_P (hP:Closed P) {l:List (Int×Int)} {A:Option Addr} (c:Nat) (hR:∀w,P w→Row w w.heap.size A (l.flatMap Zf)) (hn:(l.length:Int)≤9223372036854775807) (p0:Value) {pr:Int×Int→Bool} {r:Int}
 (hf:∀x ∈ l,∀w,P w→Calls Tryz.prog 193 #[(prtV x.1 x.2),p0] w fun e w'=>e= .returned (.bool (pr x))∧P w') (hr:idxV pr l=r) (h:P w):
 Calls Tryz.prog 192 #[.slice A l.length c,.func (.func 193) #[] #[p0]] w fun e w'=>e= .returned (.int .i64 r)∧P w':=by
 have HF:=Zz hf
 have HR:=Zz hr
 clear hf hr
 go_enter Tryz.func192,Tryz.ntmps192
 go_wp2_with fail
 go_loopw [8] (fun i wr=>∃j:Nat,j≤l.length∧i= .int .i64 j∧P wr∧Hid (Zl pr l j))
  (fun i _=>l.length - (intOf i).toNat)
 case atStart=>exact⟨0,by omega,rfl,h,Zz (Zl.zero _ _)⟩
 case round=>
  obtain⟨j,hj,rfl,hp,HNo⟩:=hrel;by_cases hlt:j<l.length
  · have hlt':(j:Int)<l.length:=by omega
    obtain⟨x,hx⟩:∃x,l[j]? =some x:=⟨_,List.getElem?_eq_getElem hlt⟩;have HX:=Zz hx;have HM:=Zz (List.mem_of_getElem? hx);clear hx;obtain⟨b,off,hA,hb,hc0,hc⟩:=(hR _ hp).nth (n:=2) (fun _=>rfl) (by omega) HX.out;subst hA;have c0:=hc0 j x _ HX.out rfl;have c1:=hc j x 1 _ HX.out rfl;clear hc0 hc;go_wp2_with fail;refine(HF.out x HM.out _ hp).mono ?_;clear hp c0 c1;cases hpr:pr x
    · have HN:=Zz (HNo.out.succ HX.out hpr);clear hpr;rintro e w1 ⟨rfl,hp⟩;go_wp2_with fail;go_roundw
      case rel=>exact⟨j+1,hlt,by go_num,hp,HN⟩
      case measure=>simp[intOf];omega
    · have HI:=Zz (HNo.out.idx HX.out hpr);clear hpr;rintro e w1 ⟨rfl,hp⟩;go_wp2_with fail;go_ret;exact⟨ret_int (by rw[←HR.out,HI.out]),hp⟩
  · obtain rfl:j=l.length:=by omega
    have HI:=Zz HNo.out.idx_no;go_wp2_with fail;go_ret;exact⟨ret_int (by rw[←HR.out,HI.out]),hp⟩
theorem indexOver_P (hP:Closed P) {l:List (Exm)} {A:Option Addr} (c:Nat) (hR:∀w,P w→Row w w.heap.size A (l.flatMap Exm.cells)) (hn:(l.length:Int)≤9223372036854775807) {pr:Exm→Bool} {r:Int}
 (hf:∀x ∈ l,∀w,P w→Calls Tryz.prog 150 #[x.val] w fun e w'=>e= .returned (.bool (pr x))∧P w') (hr:idxV pr l=r) (h:P w):
 Calls Tryz.prog 180 #[.slice A l.length c,.func (.func 150) #[] #[]] w fun e w'=>e= .returned (.int .i64 r)∧P w':=by
 have HF:=Zz hf
 have HR:=Zz hr
 clear hf hr
 go_enter Tryz.func180,Tryz.ntmps180
 go_wp2_with fail
 go_loopw [8] (fun i wr=>∃j:Nat,j≤l.length∧i= .int .i64 j∧P wr∧Hid (Zl pr l j))
  (fun i _=>l.length - (intOf i).toNat)
 case atStart=>exact⟨0,by omega,rfl,h,Zz (Zl.zero _ _)⟩
 case round=>
  obtain⟨j,hj,rfl,hp,HNo⟩:=hrel;by_cases hlt:j<l.length
  · have hlt':(j:Int)<l.length:=by omega
    obtain⟨x,hx⟩:∃x,l[j]? =some x:=⟨_,List.getElem?_eq_getElem hlt⟩;have HX:=Zz hx;have HM:=Zz (List.mem_of_getElem? hx);clear hx;obtain⟨b,off,hA,hb,hc0,hc⟩:=(hR _ hp).nth (n:=3) (fun _=>rfl) (by omega) HX.out;subst hA;have c0:=hc0 j x _ HX.out rfl;have c1:=hc j x 1 _ HX.out rfl;have c2:=hc j x 2 _ HX.out rfl;clear hc0 hc;go_wp2_with fail;refine(HF.out x HM.out _ hp).mono ?_;clear hp c0 c1 c2;cases hpr:pr x
    · have HN:=Zz (HNo.out.succ HX.out hpr);clear hpr;rintro e w1 ⟨rfl,hp⟩;go_wp2_with fail;go_roundw
      case rel=>exact⟨j+1,hlt,by go_num,hp,HN⟩
      case measure=>simp[intOf];omega
    · have HI:=Zz (HNo.out.idx HX.out hpr);clear hpr;rintro e w1 ⟨rfl,hp⟩;go_wp2_with fail;go_ret;exact⟨ret_int (by rw[←HR.out,HI.out]),hp⟩
  · obtain rfl:j=l.length:=by omega
    have HI:=Zz HNo.out.idx_no;go_wp2_with fail;go_ret;exact⟨ret_int (by rw[←HR.out,HI.out]),hp⟩
theorem indexSection_P (hP:Closed P) {l:List (Sec)} {A:Option Addr} (c:Nat) (hR:∀w,P w→Row w w.heap.size A (l.flatMap Sec.cells)) (hn:(l.length:Int)≤9223372036854775807) {pr:Sec→Bool} {r:Int}
 (hf:∀x ∈ l,∀w,P w→Calls Tryz.prog 154 #[x.val] w fun e w'=>e= .returned (.bool (pr x))∧P w') (hr:idxV pr l=r) (h:P w):
 Calls Tryz.prog 182 #[.slice A l.length c,.func (.func 154) #[] #[]] w fun e w'=>e= .returned (.int .i64 r)∧P w':=by
 have HF:=Zz hf
 have HR:=Zz hr
 clear hf hr
 go_enter Tryz.func182,Tryz.ntmps182
 go_wp2_with fail
 go_loopw [8] (fun i wr=>∃j:Nat,j≤l.length∧i= .int .i64 j∧P wr∧Hid (Zl pr l j))
  (fun i _=>l.length - (intOf i).toNat)
 case atStart=>exact⟨0,by omega,rfl,h,Zz (Zl.zero _ _)⟩
 case round=>
  obtain⟨j,hj,rfl,hp,HNo⟩:=hrel;by_cases hlt:j<l.length
  · have hlt':(j:Int)<l.length:=by omega
    obtain⟨x,hx⟩:∃x,l[j]? =some x:=⟨_,List.getElem?_eq_getElem hlt⟩;have HX:=Zz hx;have HM:=Zz (List.mem_of_getElem? hx);clear hx;obtain⟨b,off,hA,hb,hc0,hc⟩:=(hR _ hp).nth (n:=11) Sec.len (by omega) HX.out;subst hA;have c0:=hc0 j x _ HX.out rfl;have c1:=hc j x 1 _ HX.out rfl;have c2:=hc j x 2 _ HX.out rfl;have c3:=hc j x 3 _ HX.out rfl;have c4:=hc j x 4 _ HX.out rfl;have c5:=hc j x 5 _ HX.out rfl;have c6:=hc j x 6 _ HX.out rfl;have c7:=hc j x 7 _ HX.out rfl;have c8:=hc j x 8 _ HX.out rfl;have c9:=hc j x 9 _ HX.out rfl;have c10:=hc j x 10 _ HX.out rfl;clear hc0 hc;go_wp2_with fail;refine(HF.out x HM.out _ hp).mono ?_;clear hp c0 c1 c2 c3 c4 c5 c6 c7 c8 c9 c10;cases hpr:pr x
    · have HN:=Zz (HNo.out.succ HX.out hpr);clear hpr;rintro e w1 ⟨rfl,hp⟩;go_wp2_with fail;go_roundw
      case rel=>exact⟨j+1,hlt,by go_num,hp,HN⟩
      case measure=>simp[intOf];omega
    · have HI:=Zz (HNo.out.idx HX.out hpr);clear hpr;rintro e w1 ⟨rfl,hp⟩;go_wp2_with fail;go_ret;exact⟨ret_int (by rw[←HR.out,HI.out]),hp⟩
  · obtain rfl:j=l.length:=by omega
    have HI:=Zz HNo.out.idx_no;go_wp2_with fail;go_ret;exact⟨ret_int (by rw[←HR.out,HI.out]),hp⟩
theorem containsOver_P (hP:Closed P) {l:List (Exm)} {A:Option Addr} (c:Nat) (hR:∀w,P w→Row w w.heap.size A (l.flatMap Exm.cells)) (hn:(l.length:Int)≤9223372036854775807) {pr:Exm→Bool} {r:Bool}
 (hf:∀x ∈ l,∀w,P w→Calls Tryz.prog 150 #[x.val] w fun e w'=>e= .returned (.bool (pr x))∧P w') (hr:l.any pr=r) (h:P w):
 Calls Tryz.prog 151 #[.slice A l.length c,.func (.func 150) #[] #[]] w fun e w'=>e= .returned (.bool r)∧P w':=by
 have HC:=Zz (indexOver_P hP c hR hn hf rfl h)
 have HR:Hid (decide (0≤idxV pr l)=r):=Zz (by rw[idxV_any,hr])
 clear hf hr
 generalize idxV pr l=i at *
 go_enter Tryz.func151,Tryz.ntmps151
 go_wp2_with fail
 refine HC.out.mono ?_
 rintro e w1 ⟨rfl,hp⟩
 go_wp2_with fail
 go_ret
 exact⟨Zc HR.out,hp⟩
theorem containsSection_P (hP:Closed P) {l:List (Sec)} {A:Option Addr} (c:Nat) (hR:∀w,P w→Row w w.heap.size A (l.flatMap Sec.cells)) (hn:(l.length:Int)≤9223372036854775807) {pr:Sec→Bool} {r:Bool}
 (hf:∀x ∈ l,∀w,P w→Calls Tryz.prog 154 #[x.val] w fun e w'=>e= .returned (.bool (pr x))∧P w') (hr:l.any pr=r) (h:P w):
 Calls Tryz.prog 153 #[.slice A l.length c,.func (.func 154) #[] #[]] w fun e w'=>e= .returned (.bool r)∧P w':=by
 have HC:=Zz (indexSection_P hP c hR hn hf rfl h)
 have HR:Hid (decide (0≤idxV pr l)=r):=Zz (by rw[idxV_any,hr])
 clear hf hr
 generalize idxV pr l=i at *
 go_enter Tryz.func153,Tryz.ntmps153
 go_wp2_with fail
 refine HC.out.mono ?_
 rintro e w1 ⟨rfl,hp⟩
 go_wp2_with fail
 go_ret
 exact⟨Zc HR.out,hp⟩
end
def isP (s p:Int) (x:Int×Int):Bool:=x.1==s&&x.2==p
def signalV (l:Lay) (s p:Int):Int:=idxV (isP s p) l.sigs
def tooV (l:Lay):Bool:=decide (24<(l.secs.length:Int))||(decide (12<(l.sigs.length:Int))||(decide (12<(l.exits.length:Int))||(decide (16<(l.flanks.length:Int))||l.exits.any (fun x=>decide (2<(x.over.length:Int))))))
section
variable {P:World→Prop} {w:World}
theorem signal1_P (hP:Closed P) (x:Int×Int) (s p:Int) (g:Nat) (hg:∀w,P w→Whole w g 59 (Zf (s,p))) (h:P w):
 Calls Tryz.prog 193 #[(prtV x.1 x.2),.pointer (some ⟨g,0,none⟩)] w fun e w'=>e= .returned (.bool (isP s p (x)))∧P w':=by
 have hw:=hg _ (hP _ _ h (below1 w (.cells (Zf x).toArray 83)))
 obtain⟨y0,y1⟩:=hw.c2
 clear hw hg
 have HPP:=Zz (fun o=>hP _ _ h (below1 w o))
 clear hP h
 go_enter Tryz.func193,Tryz.ntmps193
 go_wp2_with fail
 all_goals
  go_ret
  exact⟨Zc (by unfold isP;rw[Bool.eq_iff_iff];simp;try omega),HPP.out _⟩
theorem signal_P (hP:Closed P) {l:Lay} (hL:∀w,P w→Lies l w) (s p:Int) {r:Int} (hr:signalV l s p=r) (h:P w):
 Calls Tryz.prog 167 #[l.val,prtV s p] w fun e w'=>e= .returned (.int .i64 r)∧P w':=by
 obtain⟨Q,HQ,HQp,HQl,HQv,hq⟩:=keep_box2 hP h 29 59 l.cells (Zf (s,p))
 have HI:=Zz (fun c=>indexSignal_P (w:=_) (r:=r) HQ.out c (fun w hw=>(hL w (HQp.out w hw)).sigs) (hL _ h).nG (.pointer (some ⟨w.heap.size+1,0,none⟩)) (fun x _ w hw=>signal1_P HQ.out x s p _ (fun w hw=>HQv.out w hw) hw) hr hq)
 have hW:=hq
 obtain⟨x0,x1,x2,x3,x4,x5,x6,x7,x8,x9,x10⟩:=(HQl.out _ hW).c11
 obtain⟨v0,v1⟩:=(HQv.out _ hW).c2
 clear hW
 go_enter Tryz.func167,Tryz.ntmps167
 go_wp2_with fail
 refine(HI.out _).mono ?_
 clear x0 x1 x2 x3 x4 x5 x6 x7 x8 x9 x10 v0 v1 hq
 rintro e w1 ⟨rfl,hq⟩
 go_wp2_with fail
 go_ret
 exact⟨rfl,HQp.out _ hq⟩
theorem over1_P (hP:Closed P) (x:Exm) (h:P w):
 Calls Tryz.prog 150 #[x.val] w fun e w'=>e= .returned (.bool (decide (2<(x.over.length:Int))))∧P w':=by
 have hp:=hP _ _ h (below1 w (.cells x.cells.toArray 87))
 clear hP h
 go_enter Tryz.func150,Tryz.ntmps150
 go_wp2_with fail
 all_goals
  go_ret
  exact⟨rfl,hp⟩
theorem tooMany_P (hP:Closed P) {l:Lay} (hL:∀w,P w→Lies l w) {r:Bool} (hr:tooV l=r) (h:P w):
 Calls Tryz.prog 103 #[l.val] w fun e w'=>e= .returned (.bool r)∧P w':=by
 obtain⟨Q,HQ,HQp,HQl,hq⟩:=keep_box hP h 29 l.cells
 have HI:=Zz (fun c=>containsOver_P (w:=_) (A:=l.Ae) (l:=l.exits) HQ.out c (fun w hw=>(hL w (HQp.out w hw)).exits) (hL _ h).nE (fun x _ w hw=>over1_P HQ.out x hw) rfl hq)
 generalize he:l.exits.any (fun x=>decide (2<(x.over.length:Int)))=a at *
 have HR:Hid ((decide (24<(l.secs.length:Int))||(decide (12<(l.sigs.length:Int))||(decide (12<(l.exits.length:Int))||(decide (16<(l.flanks.length:Int))||a))))=r):=Zz (by rw[←hr,←he];rfl)
 have hp:=HQp.out _ hq
 clear hr he
 have hcase:24<(l.secs.length:Int)∨(¬24<(l.secs.length:Int)∧12<(l.sigs.length:Int))∨(¬24<(l.secs.length:Int)∧¬12<(l.sigs.length:Int)∧12<(l.exits.length:Int))∨(¬24<(l.secs.length:Int)∧¬12<(l.sigs.length:Int)∧¬12<(l.exits.length:Int)∧16<(l.flanks.length:Int)) ∨
  (¬24<(l.secs.length:Int)∧¬12<(l.sigs.length:Int)∧¬12<(l.exits.length:Int)∧¬16<(l.flanks.length:Int)):=by omega
 rcases hcase with h1|⟨h1,h2⟩|⟨h1,h2,h3⟩|⟨h1,h2,h3,h4⟩|⟨h1,h2,h3,h4⟩
 · have HF:=Zz (HR.out.symm.trans (show _=true by simp[h1]));have d1:=decide_eq_true h1;clear h1;go_enter Tryz.func103,Tryz.ntmps103;go_wp2_with fail;go_ret;exact⟨Zc HF.out.symm,hp⟩
 · have HF:=Zz (HR.out.symm.trans (show _=true by simp[h1,h2]));have d1:=decide_eq_false h1;clear h1;have d2:=decide_eq_true h2;clear h2;go_enter Tryz.func103,Tryz.ntmps103;go_wp2_with fail;go_ret;exact⟨Zc HF.out.symm,hp⟩
 · have HF:=Zz (HR.out.symm.trans (show _=true by simp[h1,h2,h3]));have d1:=decide_eq_false h1;clear h1;have d2:=decide_eq_false h2;clear h2;have d3:=decide_eq_true h3;clear h3;go_enter Tryz.func103,Tryz.ntmps103;go_wp2_with fail;go_ret;exact⟨Zc HF.out.symm,hp⟩
 · have HF:=Zz (HR.out.symm.trans (show _=true by simp[h1,h2,h3,h4]));have d1:=decide_eq_false h1;clear h1;have d2:=decide_eq_false h2;clear h2;have d3:=decide_eq_false h3;clear h3;have d4:=decide_eq_true h4;clear h4;go_enter Tryz.func103,Tryz.ntmps103;go_wp2_with fail;go_ret;exact⟨Zc HF.out.symm,hp⟩
 · have HF:=Zz (HR.out.symm.trans (show _=a by simp[h1,h2,h3,h4]));have d1:=decide_eq_false h1;clear h1;have d2:=decide_eq_false h2;clear h2;have d3:=decide_eq_false h3;clear h3;have d4:=decide_eq_false h4;clear h4;go_enter Tryz.func103,Tryz.ntmps103;go_wp2_with fail;refine(HI.out _).mono ?_;rintro e w1 ⟨rfl,hq⟩;go_wp2_with fail;go_ret;exact⟨Zc HF.out.symm,HQp.out _ hq⟩
theorem section1_P (hP:Closed P) (hT:∀w,P w→Shapes w) (x:Sec) (hx:0≤x.k∧x.k≤255) (h:P w):
 Calls Tryz.prog 154 #[x.val] w fun e w'=>e= .returned (.bool (!(rightK x)))∧P w':=by
 have hp:=hP _ _ h (below1 w (.cells x.cells.toArray 63))
 have HC:=Zz (right_Pr hP hT x.k x.s0 x.q0 x.s1 x.q1 x.s2 x.q2 x.s3 x.q3 x.c0 x.c1 hx.1 hx.2 (r:=rightK x) (shapeK x.k) rfl hp)
 clear hP hT h hx hp
 generalize rightK x=r at *
 go_enter Tryz.func154,Tryz.ntmps154
 go_wp2_with fail
 refine HC.out.mono ?_
 rintro e w1 ⟨rfl,hp⟩
 go_wp2_with fail
 go_ret
 exact⟨rfl,hp⟩
theorem sectionsRight_P (hP:Closed P) (hT:∀w,P w→Shapes w) {l:Lay} (hL:∀w,P w→Lies l w) {r:Bool} (hr:l.secs.any (fun x=>!(rightK x))=r) (h:P w):
 Calls Tryz.prog 106 #[l.val] w fun e w'=>e= .returned (.bool (!r))∧P w':=by
 obtain⟨Q,HQ,HQp,HQl,hq⟩:=keep_box hP h 29 l.cells
 have HI:=Zz (fun c=>containsSection_P (w:=_) (A:=l.As) (l:=l.secs) HQ.out c (fun w hw=>(hL w (HQp.out w hw)).secs) (hL _ h).nS (fun x hx w hw=>section1_P HQ.out (fun w hw=>hT w (HQp.out w hw)) x ((hL _ h).kinds x hx) hw) hr hq)
 clear hr
 go_enter Tryz.func106,Tryz.ntmps106
 go_wp2_with fail
 refine(HI.out _).mono ?_
 rintro e w1 ⟨rfl,hq⟩
 go_wp2_with fail
 go_ret
 exact⟨rfl,HQp.out _ hq⟩
end
end
end Go.Proofs.YtifnlhfinjfajaaGreatDoor
