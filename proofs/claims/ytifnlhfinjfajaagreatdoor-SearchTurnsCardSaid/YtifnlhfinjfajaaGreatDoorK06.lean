/- Of this seat: LayQ, LayR, LaySteps, LayFinds, LayVW, JoinA, PortG, JoinB, BeP, IterU, JoinD, JoinM. -/
import Derived.Test.YtifnlhfinjfajaaGreatDoorK05
namespace Go.Proofs.YtifnlhfinjfajaaGreatDoor
set_option linter.unusedVariables false
set_option linter.unusedSimpArgs false
set_option maxRecDepth 100000
set_option maxHeartbeats 32000000
section
open Go.RowKit Go.Shelf
def lineL (s:Nat):Lay:=⟨[⟨1,(-1),0,1,0,(-1),0,(-1),0,0,0⟩,⟨2,0,1,2,0,3,0,(-1),0,0,1⟩,⟨1,1,1,(-1),0,(-1),0,(-1),0,0,0⟩,⟨1,1,2,(-1),0,(-1),0,(-1),0,0,0⟩],some ⟨s+1+1+1,0,none⟩,4,[(0,0)],some ⟨s+1+1+1+1,0,none⟩,1,[⟨1,1,some ⟨s+1+1+1+1+1,0,none⟩,1,[(2,0,1)]⟩,⟨3,1,none,0,[]⟩],some ⟨s+1+1+1+1+1+1,0,none⟩,2,[],none,0,1,1,1,1,1,1,1⟩
structure LineAt (s:Nat) (w:World):Prop where
 secs:Whole w (s+1+1+1) 63 [.int .u8 1,.int .i64 (-1),.int .i64 0,.int .i64 1,.int .i64 0,.int .i64 (-1),.int .i64 0,.int .i64 (-1),.int .i64 0,.int .i64 0,.int .i64 0,.int .u8 2,.int .i64 0,.int .i64 1,.int .i64 2,.int .i64 0,.int .i64 3,.int .i64 0,.int .i64 (-1),.int .i64 0,.int .i64 0,.int .i64 1,.int .u8 1,.int .i64 1,.int .i64 1,.int .i64 (-1),.int .i64 0,.int .i64 (-1),.int .i64 0,.int .i64 (-1),.int .i64 0,.int .i64 0,.int .i64 0,.int .u8 1,.int .i64 1,.int .i64 2,.int .i64 (-1),.int .i64 0,.int .i64 (-1),.int .i64 0,.int .i64 (-1),.int .i64 0,.int .i64 0,.int .i64 0]
 sigs:Whole w (s+1+1+1+1) 83 [.int .i64 0,.int .i64 0]
 over:Whole w (s+1+1+1+1+1) 66 [.int .i64 2,.int .i64 0,.int .i64 1]
 exits:Whole w (s+1+1+1+1+1+1) 87 [.int .i64 1,.int .i64 1,.slice (some ⟨s+1+1+1+1+1,0,none⟩) 1 1,.int .i64 3,.int .i64 1,.slice none 0 0]
theorem LineAt.lies {s:Nat} {w:World} (h:LineAt s w):Lies (lineL s) w:=
 ⟨h.secs.row h.secs.lt,h.sigs.row h.sigs.lt,h.exits.row h.exits.lt,Row.nil _ _ _,fun x hx=>by
  simp only[lineL,List.mem_cons,List.not_mem_nil,or_false] at hx;rcases hx with rfl|rfl
  · exact h.over.row h.over.lt
  · exact Row.nil _ _ _,by intro x hx;simp only[lineL,List.mem_cons,List.not_mem_nil,or_false] at hx;rcases hx with rfl|rfl|rfl|rfl <;> decide,by simp[lineL],by simp[lineL],by simp[lineL],by simp[lineL],fun x hx=>by
  simp only[lineL,List.mem_cons,List.not_mem_nil,or_false] at hx;rcases hx with rfl|rfl
  · show(1:Int)≤_;omega
  · show(0:Int)≤_;omega⟩
section
variable {l:Lay} {w:World} (hT:Shapes w) (hL:Lies l w)
include hT hL
theorem at_B (s p:Int) {x:Sec} {r:Bool} (hx:atV l s p=x) (hr:Zp l s p=r):Calls Tryz.prog 129 #[l.val,prtV s p] w fun e w'=>e= .returned (.tuple #[x.val,.bool r])∧Below w.heap.size w w':=
 at_P (P:=fun W=>Below w.heap.size w W) (Closed.below w) (fun W h=>Shapes.closed _ _ hT h) (fun W h=>Lies.closed l _ _ hL h) s p hx hr (Below.refl _ _)
theorem step_B (s i o:Int) {v:Int} {r:Bool} (hv:wayK (Zu l s) i o=v) (hr:stepV l s i o=r):Calls Tryz.prog 148 #[l.val,stpV s i o] w fun e w'=>e= .returned (.tuple #[.int .i64 v,.bool r])∧Below w.heap.size w w':=
 step_P (P:=fun W=>Below w.heap.size w W) (Closed.below w) (fun W h=>Shapes.closed _ _ hT h) (fun W h=>Lies.closed l _ _ hL h) s i o hv hr (Below.refl _ _)
omit hT in
theorem signal_B (s p:Int) {r:Int} (hr:signalV l s p=r):Calls Tryz.prog 167 #[l.val,prtV s p] w fun e w'=>e= .returned (.int .i64 r)∧Below w.heap.size w w':=
 signal_P (P:=fun W=>Below w.heap.size w W) (Closed.below w) (fun W h=>Lies.closed l _ _ hL h) s p hr (Below.refl _ _)
end
theorem keepR {R:World→Prop} (hR:Closed R) {f:FuncId} {args:Array Value} {w:World} {v:Value} (h:Calls Tryz.prog f args w fun e w'=>e= .returned v∧Below w.heap.size w w') (hw:R w):Calls Tryz.prog f args w fun e w'=>e= .returned v∧R w':=h.mono fun e w' ⟨he,hB⟩=>⟨he,hR _ _ hw hB⟩
section
variable {P:World→Prop} {w:World}
end
theorem goesK_cases {k i o:Int} (h:goesK k i o=true):0≤i∧i<pK k∧0≤o∧o<pK k:=by
 have hs:=shapeK k;unfold goesK at h;revert h hs
 generalize pK k=p;generalize nK k=n;generalize bK k=b;generalize cK k=c;generalize dK k=d;intro h hs;unfold IsShape at hs;rcases hs with ⟨_,rfl,rfl,_,rfl,rfl,rfl⟩|⟨_,rfl,rfl,_,rfl,rfl,rfl⟩|⟨_,rfl,rfl,_,rfl,rfl,rfl⟩|⟨_,rfl,rfl,_,rfl,rfl,rfl⟩
 · simp[goesV,joinV] at h;omega
 · simp[goesV,joinV] at h;omega
 · simp[goesV,joinV] at h;omega
 · simp[goesV] at h
theorem step_there {l:Lay} {s i o:Int} (h:stepV l s i o=true):Zp l s i=true∧Zp l s o=true:=by
 obtain⟨h1,h2,h3,h4⟩:=goesK_cases h;unfold Zp;rw[withinA_iff,withinA_iff];omega
theorem atV_kind {l:Lay} {s p:Int} (h:Zp l s p=true):(atV l s p).k=Zu l s:=by
 obtain⟨j,rfl,hx⟩:=atV_yes h;exact(kindV_at hx).symm
theorem eql_prt (w:World) (a b c e:Int):(binOp .eql 59 (prtV a b) (prtV c e)).run Tryz.prog w= .ok (.bool (a==c&&b==e)) w:=by rw[run_eql_struct,eq_prt w 9998];rfl
end
section
open Go.RowKit Go.Shelf
section
variable {P:World→Prop} {w:World}
end
end
section
open Go.RowKit Go.Shelf
theorem row_at {Q:World→Prop} {α:Type} {f:α→List Value} {n:Nat} (hf:∀x,(f x).length=n) (hn:0<n) {A:Option Addr} {l:List α} (hQ:∀W,Q W→Row W W.heap.size A (l.flatMap f)) {W0:World} (h0:Q W0) {j:Nat} {x:α} (hx:l[j]? =some x):
 ∃o1 o2,Hid (A=some ⟨o1,o2,none⟩)∧Hid (∀W,Q W→∀(j:Nat) (y:α) (v:Value),l[j]? =some y→(f y)[0]? =some v→W.cell? ⟨o1,o2+j*n,none⟩=some v) ∧
  Hid (∀W,Q W→∀(j:Nat) (y:α) (k:Nat) (v:Value),l[j]? =some y→(f y)[k]? =some v→W.cell? ⟨o1,o2+j*n+k,none⟩=some v):=by
 obtain⟨o1,o2,hA,_,_,_⟩:=(hQ _ h0).nth hf hn hx
 refine⟨o1,o2,Zz hA,Zz fun W hW=>?_,Zz fun W hW=>?_⟩
 all_goals
  obtain⟨p1,p2,hA',_,hc0,hc⟩:=(hQ _ hW).nth hf hn hx
  rw[hA] at hA'
  cases hA'
 · exact hc0
 · exact hc
theorem join_at {W:World} {g:Nat} {x:Sec} (h:Whole W g 63 x.cells) {e:Nat} {p:Int×Int} (hp:x.ports4[e]? =some p):W.cell? ⟨g,1+e*2,none⟩=some (.int .i64 p.1)∧W.cell? ⟨g,1+e*2+1,none⟩=some (.int .i64 p.2):=by
 match e,hp with
 |0,hp=>cases hp;exact⟨h.Za 1 rfl,h.Za 2 rfl⟩
 |1,hp=>cases hp;exact⟨h.Za 3 rfl,h.Za 4 rfl⟩
 |2,hp=>cases hp;exact⟨h.Za 5 rfl,h.Za 6 rfl⟩
 |3,hp=>cases hp;exact⟨h.Za 7 rfl,h.Za 8 rfl⟩
 |n+4,hp=>cases hp
section
variable {P:World→Prop} {w:World}
end
end
section
open Go.RowKit Go.Shelf
theorem not_any {α:Type} {f:α→Bool} {l:List α}:(!(l.any fun x=>!f x))=true↔∀x ∈ l,f x=true:=by simp
theorem too_iff {l:Lay}:(!tooV l)=true↔(l.secs.length:Int)≤24∧(l.sigs.length:Int)≤12∧(l.exits.length:Int)≤12∧(l.flanks.length:Int)≤16∧(∀x ∈ l.exits,(x.over.length:Int)≤2):=by
 unfold tooV;simp only[Bool.not_eq_true',Bool.or_eq_false_iff,decide_eq_false_iff_not,Int.not_lt,List.any_eq_false,decide_eq_true_eq]
theorem rightL_iff {l:Lay}:rightL l=true↔((l.secs.length:Int)≤24∧(l.sigs.length:Int)≤12∧(l.exits.length:Int)≤12∧(l.flanks.length:Int)≤16∧(∀x ∈ l.exits,(x.over.length:Int)≤2)) ∧
 (∀n ∈ timesL l,withinA n 1 1000=true)∧(∀x ∈ l.secs,rightK x=true)∧(∀p ∈ portsL l,Zp l p.1 p.2=true)∧(∀s ∈ stepsL l,stepV l s.1 s.2.1 s.2.2=true)∧(∀f ∈ l.flanks,flankV l f.1 f.2.1 f.2.2.1 f.2.2.2=true):=by
 unfold rightL
 rw[Bool.and_eq_true,too_iff]
 simp only[Bool.and_eq_true,not_any]
section
variable {l:Lay} {w:World}
end
section
variable {P:World→Prop} {w:World}
end
end
section
open Go.RowKit Go.Shelf
def Zt (l:Lay) (s p:Int):Int×Int:=if Zp l s p=true then ((atV l s p).ports4[p.toNat]?).getD (-1,0) else (-1,0)
theorem beyondV_no {l:Lay} {s p:Int} (h:Zp l s p=false):Zt l s p=(-1,0):=by unfold Zt;rw[h];rfl
theorem pK_le4 (k:Int):pK k≤4:=by
 unfold pK;split
 · omega
 · split
   · omega
   · split <;> omega
section
variable {P:World→Prop} {w:World}
end
section
variable {P:World→Prop} {w:World}
end
section
variable {P:World→Prop} {w:World}
end
def posV (k n a b c d i o:Int):Int:=if goesV n a b c d i o=true then (if k=2 then wayV n a b c d i o else -1) else 0
theorem pos_P {P:World→Prop} {w:World} (hP:Closed P) (hT:∀w,P w→Shapes w) (k i o:Int) (h0:0≤k) (h1:k≤255) {p n a b c d v:Int} {r:Bool} (hs:IsShape k p n a b c d) (hv:posV k n a b c d i o=v) (hr:goesV n a b c d i o=r) (h:P w):
 Calls Tryz.prog 197 #[.int .u8 k,.int .i64 i,.int .i64 o] w fun e w'=>e= .returned (.tuple #[.int .i64 v,.bool r])∧P w':=by
 have HW:=Zz (way_P hP hT k i o h0 h1 hs rfl hr h)
 have hv':v=if r=true then (if k=2 then wayV n a b c d i o else -1) else 0:=by rw[←hv,posV,hr]
 have HV:=Zz hv'
 clear hs hv hr hv' h
 cases r
 · go_enter Tryz.func197,Tryz.ntmps197;go_wp2_with fail;refine wp_scope_fwd (l:=0) rfl ?_;go_wp2_with fail;refine HW.out.mono ?_;rintro e w' ⟨rfl,h⟩;go_wp2_with fail;go_step3
   simp +zetaDelta only[Exit.inBlock,Exit.then,fwd_goto];refine⟨trivial,?_⟩;go_wp2_with fail;rw[Exit.noGoto_ret];go_ret2
   exact⟨by rw[HV.out];rfl,h⟩
 · by_cases hk:k=2
   · subst hk;go_enter Tryz.func197,Tryz.ntmps197;go_wp2_with fail;refine wp_scope_fwd (l:=0) rfl ?_;go_wp2_with fail;refine HW.out.mono ?_;rintro e w' ⟨rfl,h⟩;go_wp2_with fail;rw[fwd_ret];go_ret2
     exact⟨by rw[HV.out];rfl,h⟩
   · have hk':(k != 2)=true:=by simpa using hk
     have HE:Hid (v= -1):=Zz (by have e:=HV.out;simpa [hk] using e);clear hk HV;go_enter Tryz.func197,Tryz.ntmps197;go_wp2_with fail;refine wp_scope_fwd (l:=0) rfl ?_;go_wp2_with fail;refine HW.out.mono ?_;rintro e w' ⟨rfl,h⟩;go_wp2_with fail;rw[fwd_ret];go_ret2
     exact⟨by rw[HE.out];rfl,h⟩
def outsTo (n a b c d i:Int):Nat→List Int
 |0=>[]
 |j+1=>outsTo n a b c d i j++(if goesV n a b c d i j=true then [(j:Int)] else [])
theorem outsTo_le (n a b c d i:Int):∀j,(outsTo n a b c d i j).length≤j
 |0=>by simp[outsTo]
 |j+1=>by
  have :=outsTo_le n a b c d i j;unfold outsTo;rw[List.length_append];split <;> simp <;> omega
theorem keep_boxV {P:World→Prop} (hP:Closed P) {w:World} (h:P w) (t:TypeId) (vs:List Value):
 ∃Q:World→Prop,Hid (Closed Q)∧Hid (∀W,Q W→P W)∧Hid (∀W,Q W→Whole W w.heap.size t vs)∧Q (w.alloc (.cells vs.toArray t)):=
 ⟨fun W=>P W∧Whole W w.heap.size t vs,Zz (hP.and (Closed.whole _ t vs)),Zz (fun _ h=>h.1),Zz (fun _ h=>h.2),hP _ _ h (below1 w _),Whole.new w t vs⟩
def joinedP (l:Lay) (s p:Int):Bool:=(((Zt l s p).1== -1)&&((Zt l s p).2==0))||(!((Zt l s p).1==s)&&(((Zt l (Zt l s p).1 (Zt l s p).2).1==s)&&((Zt l (Zt l s p).1 (Zt l s p).2).2==p)))
section
variable {P:World→Prop} {w:World}
theorem trackEndJ_P (hP:Closed P) (h:P w):Calls Tryz.prog 189 #[] w fun e w'=>e= .returned (prtV (-1) 0)∧P w':=by
 have hp:=hP _ _ h (below1 w (.cells #[.int .i64 (-1),.int .i64 0] 59));obtain⟨e0,e1⟩:=(Whole.new w 59 [.int .i64 (-1),.int .i64 0]).c2;go_enter Tryz.func189,Tryz.ntmps189;go_wp2_with fail;refine bodyPost_ret (v:=prtV (-1) 0) ?_ rfl ⟨rfl,hp⟩;simp[results,Tryz.f189,go_sem,e0,e1]
theorem has_P (hP:Closed P) (hT:∀w,P w→Shapes w) {l:Lay} (hL:∀w,P w→Lies l w) (s p:Int) {r:Bool} (hr:Zp l s p=r) (h:P w):
 Calls Tryz.prog 204 #[l.val,prtV s p] w fun e w'=>e= .returned (.bool r)∧P w':=by
 obtain⟨Q,HQ,HQp,HQl,HQv,hq⟩:=keep_box2 hP h 29 59 l.cells (Zf (s,p))
 obtain⟨x,hx⟩:∃x,atV l s p=x:=⟨_,rfl⟩
 have KA:=Zz (fun W hW=>at_P (P:=Q) (w:=W) HQ.out (fun W hW=>hT _ (HQp.out _ hW)) (fun W hW=>hL _ (HQp.out _ hW)) s p hx hr hW)
 clear hx hr h
 have hW:=hq
 obtain⟨x0,x1,x2,x3,x4,x5,x6,x7,x8,x9,x10⟩:=(HQl.out _ hW).c11
 obtain⟨v0,v1⟩:=(HQv.out _ hW).c2
 clear hW
 go_enter Tryz.func204,Tryz.ntmps204
 go_wp2_with fail
 refine(KA.out _ hq).mono ?_
 clear x0 x1 x2 x3 x4 x5 x6 x7 x8 x9 x10 v0 v1 hq
 rintro e w1 ⟨rfl,hq⟩
 have hq:=HQ.out _ _ hq (below1 w1 (.cells x.cells.toArray 63))
 go_wp2_with fail
 go_ret
 exact⟨rfl,HQp.out _ hq⟩
theorem beyond_P (hP:Closed P) (hT:∀w,P w→Shapes w) {l:Lay} (hL:∀w,P w→Lies l w) (s p:Int) {q:Int×Int} (hq1:Zt l s p=q) (h:P w):
 Calls Tryz.prog 165 #[l.val,prtV s p] w fun e w'=>e= .returned (prtV q.1 q.2)∧P w':=by
 obtain⟨Q,HQ,HQp,HQl,HQv,HQr,HQb,hq⟩:=keep_box3 hP h 29 59 59 l.cells (Zf (s,p)) [.int .i64 0,.int .i64 0]
 have HPP:=Zz (fun W (hB:Below w.heap.size w W)=>hP _ _ h hB)
 obtain⟨x,hx⟩:∃x,atV l s p=x:=⟨_,rfl⟩
 obtain⟨r,hr⟩:∃r,Zp l s p=r:=⟨_,rfl⟩
 have KA:=Zz (fun W hW=>at_P (P:=Q) (w:=W) HQ.out (fun W hW=>hT _ (HQp.out _ hW)) (fun W hW=>hL _ (HQp.out _ hW)) s p hx hr hW)
 have KN:=Zz (fun W hW=>trackEndJ_P (P:=Q) (w:=W) HQ.out hW)
 clear h hL hP hT
 have hW:=hq
 obtain⟨x0,x1,x2,x3,x4,x5,x6,x7,x8,x9,x10⟩:=(HQl.out _ hW).c11
 obtain⟨v0,v1⟩:=(HQv.out _ hW).c2
 clear hW
 go_enter Tryz.func165,Tryz.ntmps165
 go_wp2_with fail
 refine(KA.out _ hq).mono ?_
 clear x0 x1 x2 x3 x4 x5 x6 x7 x8 x9 x10 v0 v1 hq
 rintro e w1 ⟨rfl,hq⟩
 have hS:=Whole.new w1 63 x.cells
 have hq:=HQ.out _ _ hq (below1 w1 (.cells x.cells.toArray 63))
 cases r
 · obtain rfl:=hq1.symm.trans (beyondV_no hr);go_wp2_with fail;refine(KN.out _ hq).mono ?_;clear hq hr hq1 hS;rintro e w2 ⟨rfl,hq⟩;have hr:=HQr.out _ hq;have f0:=hr.frozen 0;have f1:=hr.frozen 1;obtain⟨z0,z1⟩:=hr.c2;have hWo:=(hr.set 0 (.int .i64 (-1))).set 1 (.int .i64 0);have hBo:=((HQb.out _ hq).setCell (p:=⟨w.heap.size+1+1,0,none⟩) (by show w.heap.size≤w.heap.size+1+1;omega) (.int .i64 (-1))).setCell (p:=⟨w.heap.size+1+1,1,none⟩) (by show w.heap.size≤w.heap.size+1+1;omega) (.int .i64 0);clear hr;go_wp2_with fail;obtain⟨e0,e1⟩:=hWo.c2;refine bodyPost_ret (v:=prtV (-1) 0) ?_ rfl ⟨rfl,HPP.out _ hBo⟩;simp[results,Tryz.f165,go_sem,e0,e1]
 · have hb:=hq1;unfold Zt at hb;rw[if_pos hr,hx] at hb;have hp:0≤p∧p<4:=by
    unfold Zp at hr;rw[withinA_iff] at hr;have :=pK_le4 (Zu l s);omega
   obtain⟨i,rfl⟩:∃i:Nat,p=i:=⟨p.toNat,by omega⟩;have hi:(i:Int)<4:=hp.2;have hqi:x.ports4[i]? =some q:=by
    rw[Int.toNat_natCast] at hb;have :i<x.ports4.length:=by show i<4;omega
    rw[List.getElem?_eq_getElem this] at hb ⊢;rw[←hb];rfl
   obtain⟨c0,c1⟩:=join_at hS hqi;clear hb hqi hr hx hq1 hp hS;have hr:=HQr.out _ hq;have v1:=(HQv.out _ hq).Za 1 rfl;have f0:=hr.frozen 0;have f1:=hr.frozen 1;obtain⟨z0,z1⟩:=hr.c2;obtain⟨qs,qq⟩:=q;simp only at c0 c1 ⊢;have hWo:=(hr.set 0 (.int .i64 qs)).set 1 (.int .i64 qq);have hBo:=((HQb.out _ hq).setCell (p:=⟨w.heap.size+1+1,0,none⟩) (by show w.heap.size≤w.heap.size+1+1;omega) (.int .i64 qs)).setCell (p:=⟨w.heap.size+1+1,1,none⟩) (by show w.heap.size≤w.heap.size+1+1;omega) (.int .i64 qq);clear hr hq;go_wp2_with fail;obtain⟨e0,e1⟩:=hWo.c2;refine bodyPost_ret (v:=prtV qs qq) ?_ rfl ⟨rfl,HPP.out _ hBo⟩;simp[results,Tryz.f165,go_sem,e0,e1]
end
theorem trackEndJ_B (w:World):Calls Tryz.prog 189 #[] w fun e w'=>e= .returned (prtV (-1) 0)∧Below w.heap.size w w':=trackEndJ_P (P:=fun W=>Below w.heap.size w W) (Closed.below w) (Below.refl _ _)
theorem has_B {l:Lay} {w:World} (hT:Shapes w) (hL:Lies l w) (s p:Int) {r:Bool} (hr:Zp l s p=r):Calls Tryz.prog 204 #[l.val,prtV s p] w fun e w'=>e= .returned (.bool r)∧Below w.heap.size w w':=
 has_P (P:=fun W=>Below w.heap.size w W) (Closed.below w) (fun W h=>Shapes.closed _ _ hT h) (fun W h=>Lies.closed l _ _ hL h) s p hr (Below.refl _ _)
theorem beyond_B {l:Lay} {w:World} (hT:Shapes w) (hL:Lies l w) (s p:Int) {q:Int×Int} (hq:Zt l s p=q):Calls Tryz.prog 165 #[l.val,prtV s p] w fun e w'=>e= .returned (prtV q.1 q.2)∧Below w.heap.size w w':=
 beyond_P (P:=fun W=>Below w.heap.size w W) (Closed.below w) (fun W h=>Shapes.closed _ _ hT h) (fun W h=>Lies.closed l _ _ hL h) s p hq (Below.refl _ _)
def pointV (l:Lay) (s i o:Int):Int×Int×Bool:=if stepV l s i o=true∧Zu l s=2 then (s,wayK 2 i o,true) else (0,0,false)
def isFlk (l:Lay) (s i o:Int) (f:Int×Int×Int×Int):Bool:=stepV l s i o&&(decide (f.1=s)&&decide (f.2.1=wayK (Zu l s) i o))
def flanksV (l:Lay) (s i o:Int):List (Int×Int×Int×Int):=l.flanks.filter (isFlk l s i o)
abbrev Zi (n:Int×Int×Int):List Value:=[.int .i64 n.1,.int .i64 n.2.1,.int .i64 n.2.2]
def firstV (l:Lay) (s i o k:Int):List (Int×Int×Int):=if (pointV l s i o).2.2=true then [((pointV l s i o).1,(pointV l s i o).2.1,k)] else []
def wantsV (l:Lay) (s i o k:Int):List (Int×Int×Int):=firstV l s i o k++(flanksV l s i o).map (fun f=>(f.2.2.1,f.2.2.2,k))
def classV (l:Lay) (s i o:Int):Int:=if stepV l s i o=true then ((l.secs[s.toNat]?).map (fun y=>if wayK (Zu l s) i o=0 then y.c0 else y.c1)).getD 0 else 0
def overL10 (l:Lay) (x:Int):List (Int×Int×Int):=if 0≤x then ((l.exits[x.toNat]?).map Exm.over).getD [] else []
def nextV (l:Lay) (s i o:Int):Int×Int:=if stepV l s i o=true then Zt l s o else (-1,0)
def goesL (l:Lay):Int×Int→List (Int×Int×Int)→Bool
 |_,[]=>true
 |p,x::r=>stepV l x.1 x.2.1 x.2.2&&(decide (p=(x.1,x.2.1))&&goesL l (nextV l x.1 x.2.1 x.2.2) r)
theorem way_two (k i o:Int):wayK k i o=0∨wayK k i o=1:=by
 unfold wayK wayV;split
 · exact .inl rfl
 · split
   · exact .inr rfl
   · exact .inl rfl
theorem step_some {l:Lay} {s i o:Int} (h:stepV l s i o=true):∃(j:Nat) (y:Sec),s=j∧l.secs[j]? =some y∧Zu l s=y.k∧goesK y.k i o=true:=by
 unfold stepV at h;by_cases h0:Zu l s=0
 · rw[h0,goesK_no] at h;cases h
 · obtain⟨j,y,e,hy,hk⟩:=kindV_some h0;exact⟨j,y,e,hy,hk,by rw[←hk];exact h⟩
theorem pos_two {i o:Int} (h:goesK 2 i o=true):posV 2 (nK 2) 0 (bK 2) (cK 2) (dK 2) i o=wayK 2 i o:=by
 unfold posV;rw[if_pos (show goesV (nK 2) 0 (bK 2) (cK 2) (dK 2) i o=true from h),if_pos rfl];rfl
theorem point_cases (l:Lay) (s i o:Int):(stepV l s i o=false∧pointV l s i o=(0,0,false)) ∨
 (∃(j:Nat) (y:Sec),s=j∧l.secs[j]? =some y∧stepV l j i o=true∧¬y.k=2∧pointV l s i o=(0,0,false)) ∨
 (∃(j:Nat) (y:Sec),s=j∧l.secs[j]? =some y∧stepV l j i o=true∧y.k=2∧goesK 2 i o=true∧pointV l s i o=((j:Int),wayK 2 i o,true)):=by
 unfold pointV
 cases h:stepV l s i o
 · exact .inl ⟨rfl,by simp⟩
 · obtain⟨j,y,rfl,hy,hk,hg⟩:=step_some h;by_cases h2:y.k=2
   · exact .inr (.inr ⟨j,y,rfl,hy,h,h2,by rw[←h2];exact hg,by rw[hk,h2];simp⟩)
   · exact .inr (.inl ⟨j,y,rfl,hy,h,h2,by rw[hk];simp[h2]⟩)
theorem class_cases (l:Lay) (s i o:Int):(stepV l s i o=false∧classV l s i o=0) ∨
 (∃(j:Nat) (y:Sec) (e:Nat),s=j∧l.secs[j]? =some y∧stepV l j i o=true∧wayK (Zu l j) i o=e∧e<2∧([y.c0,y.c1]:List Int)[e]? =some (classV l s i o)):=by
 unfold classV
 cases h:stepV l s i o
 · exact .inl ⟨rfl,by simp⟩
 · obtain⟨j,y,rfl,hy,hk,hg⟩:=step_some h;right;rcases way_two (Zu l j) i o with e|e
   · exact⟨j,y,0,rfl,hy,h,e,by omega,by rw[if_pos rfl,Int.toNat_natCast,hy,e];rfl⟩
   · exact⟨j,y,1,rfl,hy,h,e,by omega,by rw[if_pos rfl,Int.toNat_natCast,hy,e];rfl⟩
theorem at_cases_n {α:Type} (l:List α) (x:Int):x<0∨(0≤x∧(l.length:Int)≤x)∨∃(j:Nat) (y:α),x=j∧l[j]? =some y∧(j:Int)<l.length:=by
 by_cases h0:x<0
 · exact .inl h0
 by_cases h1:(l.length:Int)≤x
 · exact .inr (.inl ⟨by omega,h1⟩)
 obtain⟨j,rfl⟩:∃j:Nat,x=j:=⟨x.toNat,by omega⟩;exact .inr (.inr ⟨j,l[j]'(by omega),rfl,List.getElem?_eq_getElem (by omega),by omega⟩)
theorem over_neg {l:Lay} {x:Int} (h:x<0):overL10 l x=[]:=if_neg (by omega)
theorem over_far {l:Lay} {x:Int} (h0:0≤x) (h:(l.exits.length:Int)≤x):overL10 l x=[]:=by unfold overL10;rw[if_pos h0,List.getElem?_eq_none (by omega)];rfl
theorem over_at {l:Lay} {j:Nat} {y:Exm} (h:l.exits[j]? =some y):overL10 l j=y.over:=by unfold overL10;rw[if_pos (by omega),Int.toNat_natCast,h];rfl
end
section
open Go.RowKit
structure Stays (B:Nat) (U:Nat→Prop) (W W':World):Prop where
 same:Same3 W W'
 size:W.heap.size≤W'.heap.size
 rest:∀(k:Nat) (o:Obj),W.heap[k]? =some o→(k<B∨U k)→W'.heap[k]? =some o
theorem Stays.mono {B C:Nat} {U:Nat→Prop} {W W':World} (h:Stays C U W W') (hB:B≤C):Stays B U W W':=
 ⟨h.same,h.size,fun k o ho hk=>h.rest k o ho (hk.imp (fun h=>Nat.lt_of_lt_of_le h hB) id)⟩
theorem Stays.trans {B:Nat} {U:Nat→Prop} {W1 W2 W3:World} (h:Stays B U W1 W2) (k:Stays B U W2 W3):Stays B U W1 W3:=
 ⟨h.same.trans k.same,Nat.le_trans h.size k.size,fun i o ho hi=>k.rest i o (h.rest i o ho hi) hi⟩
theorem Stays.below {B:Nat} {U:Nat→Prop} {W W':World} (h:Below W.heap.size W W'):Stays B U W W':=
 ⟨⟨h.os,h.tape,h.output⟩,h.size,fun k o ho _=>(h.block k (Array.getElem?_eq_some_iff.1 ho).1).trans ho⟩
theorem Stays.put {B:Nat} {U:Nat→Prop} (W:World) {l:Nat} (o':Obj) (hB:B≤l) (hU:¬U l):Stays B U W (W.putObj l o'):=
 ⟨⟨rfl,rfl,rfl⟩,(grownBy_putObj' W l o').size,fun k x hk hn=>(World.putObj_heap_other (fun e=>by subst e;rcases hn with h|h;exact absurd h (by omega);exact hU h)).trans hk⟩
theorem Stays.set {B:Nat} {U:Nat→Prop} (W:World) {p:Addr} (v:Value) (hB:B≤p.block) (hU:¬U p.block):Stays B U W (W.setCell p v):=
 ⟨⟨rfl,rfl,rfl⟩,by simp[World.setCell],fun k x hk hn=>(Below.heap_setCell W p v k (fun e=>by subst e;rcases hn with h|h;exact absurd h (by omega);exact hU h)).trans hk⟩
theorem Stays.whole {B:Nat} {U:Nat→Prop} {W W':World} (h:Stays B U W W') {g:Nat} {t:TypeId} {cs:List Value} (hw:Whole W g t cs) (hg:g<B∨U g):Whole W' g t cs:=h.rest g _ hw hg
def Safe {β:Type} (B:Nat) (J:(Nat→Prop)→β→World→Prop):Prop:=∀U s W W',J U s W→Stays B U W W'→J U s W'
theorem Safe.and {β:Type} {B:Nat} {J K:(Nat→Prop)→β→World→Prop} (h:Safe B J) (k:Safe B K):Safe B (fun U s W=>J U s W∧K U s W):=fun U s W W' hp ht=>⟨h U s W W' hp.1 ht,k U s W W' hp.2 ht⟩
theorem Safe.below {β:Type} {B n:Nat} {w:World} (hn:n≤B) (hw:n≤w.heap.size):Safe B (fun _ (_:β) W=>Below n w W):=fun U s W W' h k=>
 ⟨k.same.1.trans h.os,k.same.2.1.trans h.tape,k.same.2.2.trans h.output,Nat.le_trans h.size k.size,fun i hi=>by
  have hb:=h.block i hi;obtain⟨o,ho⟩:∃o,w.heap[i]? =some o:=⟨_,Array.getElem?_eq_getElem (by omega)⟩;rw[ho] at hb ⊢;exact k.rest i o hb (.inl (by omega))⟩
structure Kept (R:Nat→Prop) (B:Nat) (U:Nat→Prop) (W W':World):Prop where
 size:W.heap.size≤W'.heap.size
 rest:∀(k:Nat) (o:Obj),W.heap[k]? =some o→(R k∨(B≤k∧¬U k))→W'.heap[k]? =some o
theorem Kept.below {R:Nat→Prop} {B:Nat} {U:Nat→Prop} {W W':World} (h:Below W.heap.size W W'):Kept R B U W W':=
 ⟨h.size,fun k o ho _=>(h.block k (Array.getElem?_eq_some_iff.1 ho).1).trans ho⟩
theorem Kept.keeps {R:Nat→Prop} {B:Nat} {U:Nat→Prop} {W W':World} (h:Kept R B U W W'):Keeps R W W':=fun k o hk ho=>h.rest k o ho (.inl hk)
theorem Kept.whole {R:Nat→Prop} {B:Nat} {U:Nat→Prop} {W W':World} (h:Kept R B U W W') {g:Nat} {t:TypeId} {cs:List Value} (hw:Whole W g t cs) (hB:B≤g) (hU:¬U g):Whole W' g t cs:=h.rest g _ hw (.inr ⟨hB,hU⟩)
theorem Kept.set {R:Nat→Prop} {B:Nat} {U:Nat→Prop} (W:World) {p:Addr} (v:Value) (hR:¬R p.block) (hp:p.block<B∨U p.block):Kept R B U W (W.setCell p v):=
 ⟨by simp[World.setCell],fun k x hk hn=>(Below.heap_setCell W p v k (fun e=>by subst e;rcases hn with h|h;exact hR h;rcases hp with q|q;exact absurd h.1 (by omega);exact h.2 q)).trans hk⟩
structure Grew (U U':Nat→Prop) (W W':World):Prop where
 new:∀k,U' k→U k∨W.heap.size≤k
 lt:∀k,U' k→k<W'.heap.size
theorem Grew.refl {U:Nat→Prop} {W W':World} (h:∀k,U k→k<W.heap.size) (hs:W.heap.size≤W'.heap.size):Grew U U W W':=⟨fun _ h=>.inl h,fun k hk=>Nat.lt_of_lt_of_le (h k hk) hs⟩
theorem Kept.trans {R:Nat→Prop} {B:Nat} {U U':Nat→Prop} {W1 W2 W3:World} (h:Kept R B U W1 W2) (g:Grew U U' W1 W2) (k:Kept R B U' W2 W3):Kept R B U W1 W3:=
 ⟨Nat.le_trans h.size k.size,fun i o ho hi=>k.rest i o (h.rest i o ho hi) (hi.imp id fun hh=>⟨hh.1,fun hu=>(g.new i hu).elim hh.2 fun hs=>by have :=(Array.getElem?_eq_some_iff.1 ho).1;omega⟩)⟩
theorem Grew.trans {U U' U'':Nat→Prop} {W1 W2 W3:World} (h:Grew U U' W1 W2) (hs:W1.heap.size≤W2.heap.size) (k:Grew U' U'' W2 W3):Grew U U'' W1 W3:=
 ⟨fun i hi=>(k.new i hi).elim (h.new i) fun hh=>.inr (by omega),k.lt⟩
section
variable {α:Type} {P:Program}
def IterU (P:Program) (g:Nat) (lb:Array Value) (enc:α→Array Value) (xs:List α) (R:Nat→Prop) (w0:World):Prop:=
 ∀(l:Nat) (J:(Nat→Prop)→Nat→World→Prop) (Jx:(Nat→Prop)→World→Prop) (W:World),Keeps R w0 W→(∀k,R k→k<W.heap.size)→Safe W.heap.size J→Safe W.heap.size (fun U (_:Unit)=>Jx U) →
  (∀(U:Nat→Prop) (j:Nat) (x:α) (W1:World),xs[j]? =some x→J U j W1→(∀k,U k→k<W1.heap.size)→YieldAt Fence.wide 3 P l (enc x) W1 fun e W'=>
   ∃U',Grew U U' W1 W'∧Kept R W.heap.size U W1 W'∧((e= .returned (.bool true)∧J U' (j+1) W')∨(e= .returned (.bool false)∧Jx U' W'))) →
  J (fun _=>False) 0 W→Calls P g (#[.func (.yield l) #[] #[]]++lb) W fun e W'=>(∃v,e= .returned v)∧∃U,(∀k,U k→k<W'.heap.size)∧(J U xs.length W'∨Jx U W')
def iterPostU (R:Nat→Prop) (B:Nat) (I:(Nat→Prop)→Nat→World→Prop) (Ix:Code→(Nat→Prop)→World→Prop) (U:Nat→Prop) (j:Nat) (W:World):Exit→Act→World→Prop
 | .normal,_,W'=>∃U',Grew U U' W W'∧Kept R B U W W'∧I U' (j+1) W'
 | .ret,_,W'=>∃U',Grew U U' W W'∧Kept R B U W W'∧Ix .ret U' W'
 | .exit id,_,W'=>∃U',Grew U U' W W'∧Kept R B U W W'∧Ix (.exit id) U' W'
 | .goto t,_,W'=>∃U',Grew U U' W W'∧Kept R B U W W'∧Ix (.goto t) U' W'
 | .panic _,_,_=>False
 | .outgrown,_,_=>False
theorem range_iterU {g:Operand} {ps:Array Tmp} {assign body:Code} {Q:Exit→Act→World→Prop} {a:Act} {w w0:World} {n gf:Nat} {lb:Array Value} {enc:α→Array Value} {xs:List α} {R:Nat→Prop}
 (hg:a.eval g= .func (.func gf) #[] lb) (eg:∀args w,(callFunc gf args).run P w= .ok (.enter gf args) w) (hit:IterU P gf lb enc xs R w0) (hw0:Keeps R w0 w) (hRl:∀k,R k→k<w.heap.size) (hps:∀x,(enc x).size=ps.size) (h1:1≤n)
 (I:(Nat→Prop)→Nat→World→Prop) (Ix:Code→(Nat→Prop)→World→Prop) (hI:Safe w.heap.size I) (hIx:∀c,Safe w.heap.size (fun U (_:Unit)=>Ix c U)) (h0:I (fun _=>False) 0 w)
 (Ax:(Nat→Prop)→Nat→α→Act→World→Prop) (hAx:∀j x a',Safe w.heap.size (fun U (_:Unit) W=>Ax U j x a' W))
 (hassign:∀(l:Nat) (U:Nat→Prop) (j:Nat) (x:α) (W:World) (K:Act→World→Prop),xs[j]? =some x→I U j W→w.heap.size+2≤W.heap.size→(∀k,U k→k<W.heap.size)→(∀a' W' U',Grew U U' W W'→Kept R w.heap.size U W W'→Ax U' j x a' W'→K a' W') →
  assign.wpIn (Fence.wide.inRound l) 3 P (Exit.then K (fun _ _ _=>False)) {tmps:=(ps.zip (enc x)).foldl (fun t (p,v)=>t.setIfInBounds p v) a.tmps,defers:=[]} W)
 (hbody:∀(l:Nat) (U:Nat→Prop) (j:Nat) (x:α) (a':Act) (W:World),w.heap.size≤l→xs[j]? =some x→Ax U j x a' W→(∀k,U k→k<W.heap.size)→body.wpIn (Fence.wide.inRound l) 3 P (iterPostU R w.heap.size I Ix U j W) a' W)
 (hdone:∀(D:Nat) (U:Nat→Prop) (W:World),w.heap.size≤D→¬U D→I U xs.length W→W.heap[D]? =some (.deferred (some []))→Q .normal {a with defers:={target:=.collected D,args:=#[]}::a.defers} W)
 (hstop:∀(D:Nat) (c:Code) (U:Nat→Prop) (W:World),w.heap.size≤D→¬U D→Ix c U W→W.heap[D]? =some (.deferred (some []))→c.wpIn Fence.wide n P Q {a with defers:={target:=.collected D,args:=#[]}::a.defers} W):
 (Code.rangeFunc g ps assign body).wpIn Fence.wide n P Q a w:=by
 refine wpIn_rangeFunc fun fn hfn=>?_
 obtain⟨B,hB⟩:∃B,w.heap.size=B:=⟨_,rfl⟩
 obtain⟨rec,hrec⟩:∃rec:LoopState→Option Code→Obj,∀st pe,rec st pe= .loop {state:=st,pending:=pe,fn:=fn,tmps:=a.tmps,params:=ps,assign:=assign,body:=body,defers:=B}:=⟨_,fun _ _=>rfl⟩
 obtain⟨Own2,hOwn2⟩:∃Own2:LoopState→Option Code→World→Prop,∀st pe W,Own2 st pe W↔(W.heap[B+1]? =some (rec st pe)∧W.heap[B]? =some (.deferred (some []))):=⟨_,fun _ _ _=>Iff.rfl⟩
 have hturn:∀ {st pe W} (st':LoopState) (pe':Option Code),Own2 st pe W→Own2 st' pe' (W.putObj (B+1) (rec st' pe')):=fun {st pe W} st' pe' h=>by
  rw[hOwn2] at h ⊢;exact⟨World.putObj_heap_same (Array.getElem?_eq_some_iff.1 h.1).1,(World.putObj_heap_other (by omega)).trans h.2⟩
 have hlt2:∀ {st pe W},Own2 st pe W→B+1<W.heap.size:=fun {st pe W} h=>(Array.getElem?_eq_some_iff.1 ((hOwn2 _ _ _).1 h).1).1
 have hkeep:∀ {st pe W W'} {U:Nat→Prop},Own2 st pe W→Kept R B U W W'→¬U B→¬U (B+1)→Own2 st pe W':=fun {st pe W W' U} h ho u0 u1=>by
  rw[hOwn2] at h ⊢;exact⟨ho.rest _ _ h.1 (.inr ⟨by omega,u1⟩),ho.rest _ _ h.2 (.inr ⟨by omega,u0⟩)⟩
 rw[hB] at hI hIx hAx hassign hbody hRl hdone hstop
 have hput:∀ {β:Type} {J:(Nat→Prop)→β→World→Prop} {U:Nat→Prop} {s:β} {W:World} (o:Obj),Safe B J→J U s W→¬U (B+1)→J U s (W.putObj (B+1) o):=fun {β J U s W} o hs hj hu=>hs _ _ _ _ hj (Stays.put _ _ (by omega) hu)
 obtain⟨W1,hW1⟩:∃W1,(w.alloc (.deferred (some []))).alloc (rec .ready none)=W1:=⟨_,rfl⟩
 have hs1:W1.heap.size=B+2:=by rw[←hW1];simp;omega
 have hO1:Own2 .ready none W1:=by
  rw[hOwn2,←hW1];refine⟨?_,(Below.heap_alloc _ _ _ (by simp;omega)).trans (by rw[←hB];exact World.alloc_heap_new w _)⟩;have :=World.alloc_heap_new (w.alloc (.deferred (some []))) (rec .ready none);rw[World.size_alloc,hB] at this;exact this
 have hB1:Below w.heap.size w W1:=by rw[←hW1];exact below2 w _ _
 have hI1:I (fun _=>False) 0 W1:=hI _ _ _ _ h0 (Stays.below hB1)
 have hc1:Keeps R w0 W1:=hw0.trans (Keeps.below hB1)
 refine⟨B+1,[{target:=.collected B,args:=#[]}],W1,{target:=.fn (.func gf) lb,args:=#[.func (.yield (B+1)) #[] #[]]},W1,gf,#[.func (.yield (B+1)) #[] #[]]++lb,W1,?_,?_,fun _ _=>trivial,?_,fun _=>h1,callsIn_wide.2 ?_⟩
 · rw[←hW1,hrec,←hB];exact run_enterLoop_outer _ _ _ _ _
 · simp only[resolve,hg];simp[go_sem]
 · simp[invoke,go_sem,eg]
 · refine(hit (B+1) (fun U j W=>I U j W∧(Own2 .ready none W∧(¬U B∧¬U (B+1)))) (fun U W=>∃c,Ix c U W∧(Own2 .done (some c) W∧(¬U B∧¬U (B+1)))) W1 hc1 (fun k hk=>by have :=hRl k hk;omega)
    (by
     rw[hs1];rintro U j W W' ⟨h1,h2,h3⟩ ht;refine⟨hI _ _ _ _ h1 (ht.mono (by omega)),?_,h3⟩;rw[hOwn2] at h2 ⊢;exact⟨ht.rest _ _ h2.1 (.inl (by omega)),ht.rest _ _ h2.2 (.inl (by omega))⟩)
    (by
     rw[hs1];rintro U j W W' ⟨c,h1,h2,h3⟩ ht;refine⟨c,hIx c _ () _ _ h1 (ht.mono (by omega)),?_,h3⟩;rw[hOwn2] at h2 ⊢;exact⟨ht.rest _ _ h2.1 (.inl (by omega)),ht.rest _ _ h2.2 (.inl (by omega))⟩) ?_ ⟨hI1,hO1,fun h=>h,fun h=>h⟩).mono ?_
   · rintro U j x W hx ⟨hi,ho,u0,u1⟩ hu;have hy:=run_yield (P:=P) (args:=enc x) (((hOwn2 _ _ _).1 ho).1.trans (by rw[hrec])) (hps x);refine⟨fn,_,assign,body,hy,roundIn_of_wpIn hfn (hassign _ U j x W _ hx hi (by have :=hlt2 ho;omega) hu ?_)⟩;clear hy;intro a' Wa U1 g1 k1 hax;have lt1:=hlt2 ho;have u0':¬U1 B:=fun h=>(g1.new _ h).elim u0 fun h=>by omega
     have u1':¬U1 (B+1):=fun h=>(g1.new _ h).elim u1 fun h=>by omega
     have ho:=hkeep ho k1 u0 u1;refine⟨_,run_beginRound (((hOwn2 _ _ _).1 ho).1.trans (by rw[hrec])) rfl,?_⟩;have e2:(Obj.loop {state:=.busy,pending:=none,fn:=fn,tmps:=a.tmps,params:=ps,assign:=assign,body:=body,defers:=B})=rec .busy none:=(hrec _ _).symm;simp only;rw[e2];have ho2:=hturn .busy none ho;have hsz2:(Wa.putObj (B+1) (rec .busy none)).heap.size=Wa.heap.size:=(by simp[World.putObj]);refine wpIn_mono (hbody (B+1) U1 j x a' _ (by omega) hx (hput (β:=Unit) (s:=()) _ (hAx j x a') hax u1') (fun k hk=>by rw[hsz2];exact g1.lt k hk)) ?_;have hend:∀(jump:Option Code) (W3:World),Own2 .busy none W3→(Instr.endRound (B+1) jump).run P W3= .ok (.bool jump.isNone) (W3.putObj (B+1) (rec (if jump.isNone then .ready else .done) jump)):=fun jump W3 h3=>by
      have :=run_endRound (P:=P) jump (((hOwn2 _ _ _).1 h3).1.trans (by rw[hrec]));rw[hrec];exact this
     have hall:∀ {W3:World} {U2:Nat→Prop} (o:Obj),Grew U1 U2 (Wa.putObj (B+1) (rec .busy none)) W3→Kept R B U1 (Wa.putObj (B+1) (rec .busy none)) W3 →
      ¬U2 B∧¬U2 (B+1)∧Own2 .busy none W3∧Grew U U2 W (W3.putObj (B+1) o)∧Kept R W1.heap.size U W (W3.putObj (B+1) o):=fun {W3 U2} o g2 k2=>by
      have hw2:=hlt2 ho2
      have v0:¬U2 B:=fun h=>(g2.new _ h).elim u0' fun h=>by omega
      have v1:¬U2 (B+1):=fun h=>(g2.new _ h).elim u1' fun h=>by omega
      refine⟨v0,v1,hkeep ho2 k2 u0' u1',⟨fun k hk=>?_,fun k hk=>?_⟩,?_,?_⟩
      · rcases g2.new k hk with h|h
        · exact g1.new k h
        · right;have :=k1.size;omega
      · rw[show(W3.putObj (B+1) o).heap.size=W3.heap.size by simp[World.putObj]];exact g2.lt k hk
      · rw[show(W3.putObj (B+1) o).heap.size=W3.heap.size by simp[World.putObj]];exact Nat.le_trans k1.size (by have :=k2.size;omega)
      · intro k o' hk hr;rw[hs1] at hr;have hlt:=(Array.getElem?_eq_some_iff.1 hk).1;have hne:k≠B+1:=fun e=>by subst e;rcases hr with hr|hr;(have :=hRl _ hr;omega);(have :=hr.1;omega)
        have hr':R k∨(B≤k∧¬U k):=hr.imp id fun h=>⟨by omega,h.2⟩;have h1:=k1.rest k o' hk hr';have h2:(Wa.putObj (B+1) (rec .busy none)).heap[k]? =some o':=(World.putObj_heap_other hne).trans h1;have h3:=k2.rest k o' h2 (hr'.imp id fun h=>⟨h.1,fun hu1=>(g1.new k hu1).elim h.2 fun h=>by omega⟩);exact(World.putObj_heap_other hne).trans h3
     rintro e a3 W3 hp;cases e with
     |normal=>
      obtain⟨U2,g2,k2,hi3⟩:=hp;obtain⟨v0,v1,ho3,hg,hk⟩:=hall (rec .ready none) g2 k2;exact⟨_,_,hend none W3 ho3,U2,hg,hk,.inl ⟨rfl,hput _ hI hi3 v1,hturn .ready none ho3,v0,v1⟩⟩
     |ret=>
      obtain⟨U2,g2,k2,hi3⟩:=hp;obtain⟨v0,v1,ho3,hg,hk⟩:=hall (rec .done (some .ret)) g2 k2;exact⟨_,_,hend (some .ret) W3 ho3,U2,hg,hk,.inr ⟨rfl,.ret,hput (β:=Unit) (s:=()) _ (hIx .ret) hi3 v1,hturn .done (some .ret) ho3,v0,v1⟩⟩
     |exit id=>
      obtain⟨U2,g2,k2,hi3⟩:=hp;obtain⟨v0,v1,ho3,hg,hk⟩:=hall (rec .done (some (.exit id))) g2 k2;exact⟨_,_,hend (some (.exit id)) W3 ho3,U2,hg,hk,.inr ⟨rfl,.exit id,hput (β:=Unit) (s:=()) _ (hIx (.exit id)) hi3 v1,hturn .done (some (.exit id)) ho3,v0,v1⟩⟩
     |goto t=>
      obtain⟨U2,g2,k2,hi3⟩:=hp;obtain⟨v0,v1,ho3,hg,hk⟩:=hall (rec .done (some (.goto t))) g2 k2;exact⟨_,_,hend (some (.goto t)) W3 ho3,U2,hg,hk,.inr ⟨rfl,.goto t,hput (β:=Unit) (s:=()) _ (hIx (.goto t)) hi3 v1,hturn .done (some (.goto t)) ho3,v0,v1⟩⟩
     |panic ch=>exact hp.elim
     |outgrown=>exact hp.elim
   · rintro e W2 ⟨⟨v,rfl⟩,U,hu,h2⟩;have hlast:∀ {st pe W},Own2 st pe W→st≠ .busy→(Instr.endLoop (B+1)).run P W= .ok pe (W.putObj (B+1) (rec .exhausted pe))∧(W.putObj (B+1) (rec .exhausted pe)).heap[B]? =some (.deferred (some [])):=fun {st pe W} h hb=>by
      have :=run_endLoop (P:=P) (((hOwn2 _ _ _).1 h).1.trans (by rw[hrec])) hb;rw[hrec];exact⟨this,(World.putObj_heap_other (by omega)).trans ((hOwn2 _ _ _).1 h).2⟩
     rcases h2 with ⟨hi,ho,u0,u1⟩|⟨c,hi,ho,u0,u1⟩
     · obtain⟨h3,h4⟩:=hlast ho (by simp);exact⟨none,_,h3,hdone B U _ (by omega) u0 (hput _ hI hi u1) h4⟩
     · obtain⟨h3,h4⟩:=hlast ho (by simp);exact⟨some c,_,h3,hstop B c U _ (by omega) u0 (hput (β:=Unit) (s:=()) _ (hIx c) hi u1) h4⟩
end
end
section
open Go.RowKit Go.Shelf
attribute [local go_sem] Oper.semAt_some
theorem Shapes.keeps {w W:World} {R:Nat→Prop} (h:Shapes w) (hk:Keeps R w W) (hR:∀k,k<w.heap.size→R k):Shapes W:=fun i v hv=>hk.cell (hR _ (World.block_lt_of_cell? w _ (h i v hv))) (h i v hv)
theorem Lies.keeps {l:Lay} {w W:World} {R:Nat→Prop} (h:Lies l w) (hk:Keeps R w W) (hR:∀k,k<w.heap.size→R k) (hs:w.heap.size≤W.heap.size):Lies l W:=
 ⟨(h.secs.keeps hk hR).mono hs,(h.sigs.keeps hk hR).mono hs,(h.exits.keeps hk hR).mono hs,(h.flanks.keeps hk hR).mono hs,fun x hx=>((h.overs x hx).keeps hk hR).mono hs,h.kinds,h.nS,h.nG,h.nE,h.nF,h.nO⟩
theorem Keeps.sub {R S:Nat→Prop} {A B:World} (h:Keeps R A B) (hs:∀k,S k→R k):Keeps S A B:=fun k o hk ho=>h k o (hs k hk) ho
def portsS (l:Lay) (s:Int):List (Int×Int):=(List.range (pK (Zu l s)).toNat).map fun p:Nat=>(s,(p:Int))
theorem pK_nn (k:Int):0≤pK k:=by
 unfold pK;split
 · omega
 · split
   · omega
   · split <;> omega
theorem portsS_len (l:Lay) (s:Int):(portsS l s).length=(pK (Zu l s)).toNat:=by simp[portsS]
theorem portsS_at {l:Lay} {s:Int} {j:Nat} (h:j<(pK (Zu l s)).toNat):(portsS l s)[j]? =some (s,(j:Int)):=by simp[portsS,h]
theorem there_at (l:Lay) (s:Int) (j:Nat):Zp l s j=decide (j<(pK (Zu l s)).toNat):=by
 have :=pK_nn (Zu l s);rw[Bool.eq_iff_iff,decide_eq_true_iff];unfold Zp;rw[withinA_iff];omega
def secondOf (i:Value) (w:World):Nat:=match i with
 | .pointer (some a)=>match w.cell? ⟨a.block,1,none⟩ with
  |some (.int _ q)=>q.toNat
  |_=>0
 |_=>0
theorem secondOf_whole {w:World} {g:Nat} {t:TypeId} {a:Value} {q:Int} (h:Whole w g t [a,.int .i64 q]):secondOf (.pointer (some ⟨g,0,none⟩)) w=q.toNat:=by
 have :=h.Za 1 rfl;simp[secondOf,this]
theorem portsJ_iter {wa w0:World} {g1 g2:Nat} {l:Lay} {s:Int} (hT:Shapes wa) (hL:Lies l wa) (hka:Keeps (· <wa.heap.size) wa w0) (hsa:wa.heap.size≤w0.heap.size) (hb1:Whole w0 g1 3 [.int .i64 s]) (hb2:Whole w0 g2 29 l.cells):
 IterU Tryz.prog 203 #[.pointer (some ⟨g1,0,none⟩),.pointer (some ⟨g2,0,none⟩)] (fun x:Int×Int=>#[(prtV x.1 x.2)]) (portsS l s) (fun k=>k<wa.heap.size∨(k=g1∨k=g2)) w0:=by
 intro L J Jx W hk0 hRl hJ hJx hY h0
 have hnW:wa.heap.size≤W.heap.size:=Nat.le_of_not_lt fun hlt=>absurd (hRl _ (.inl hlt)) (Nat.lt_irrefl _)
 have HF:Hid (∀W',Keeps (fun k=>k<wa.heap.size∨(k=g1∨k=g2)) w0 W'→W.heap.size≤W'.heap.size→Shapes W'∧Lies l W'):=Zz fun W' hk hs=>
  have hk':=hka.trans (hk.sub fun k h=>.inl h)
  ⟨hT.keeps hk' (fun _ h=>h),hL.keeps hk' (fun _ h=>h) (Nat.le_trans hnW hs)⟩
 have HB1:Hid (∀W',Keeps (fun k=>k<wa.heap.size∨(k=g1∨k=g2)) w0 W'→Whole W' g1 3 [.int .i64 s]):=Zz fun W' hk=>hk.whole (.inr (.inl rfl)) hb1
 have HB2:Hid (∀W',Keeps (fun k=>k<wa.heap.size∨(k=g1∨k=g2)) w0 W'→Whole W' g2 29 l.cells):=Zz fun W' hk=>hk.whole (.inr (.inr rfl)) hb2
 have HRl:=Zz hRl
 have HTA:=Zz (there_at l s)
 have HXL:=Zz (portsS_len l s)
 have HXA:=Zz (fun j=>portsS_at (l:=l) (s:=s) (j:=j))
 obtain⟨m,hm⟩:∃m,(pK (Zu l s)).toNat=m:=⟨_,rfl⟩
 have hm4:m≤4:=by have :=pK_le4 (Zu l s);omega
 rw[hm] at HTA HXL HXA
 obtain⟨xs,hxs⟩:∃xs,portsS l s=xs:=⟨_,rfl⟩
 rw[hxs] at HXL HXA hY ⊢
 have y0:=(HB1.out _ hk0).Za 0 rfl
 obtain⟨B,hB⟩:∃B,W.heap.size=B:=⟨_,rfl⟩
 rw[hB] at HF hJ hJx hY
 have HBB:=Zz hB
 clear hT hL hka hb1 hb2 hRl hm hxs hnW hB
 refine(callsIn_wide (n:=3)).1 ?_
 refine callsIn_of_wp Tryz.func203 rfl trivial ?_ rfl
 simp only[Tryz.ntmps203,Ld,Le,Lf,Nat.reduceAdd,Nat.reduceSub,Lg,Lh,Li,Lj,Lk,Ll]
 gi_wp2_with fail
 gi_loopw [4] (fun i wr=>∃(j:Nat) (U:Nat→Prop) (gp:Nat),j≤m∧i= .pointer (some ⟨gp,0,none⟩)∧Whole wr gp 59 [.int .i64 s,.int .i64 (j:Int)]∧B≤gp∧¬U gp∧J U j wr∧(∀k,U k→k<wr.heap.size)∧Keeps (fun k=>k<wa.heap.size∨(k=g1∨k=g2)) w0 wr∧B≤wr.heap.size)
  (fun i wr=>m - secondOf i wr)
 case atStart=>
  have hb:=below1 W (.cells #[.int .i64 s,.int .i64 0] 59);have hB:=HBB.out;exact⟨0,fun _=>False,W.heap.size,by omega,rfl,Whole.new W _ [_,_],by omega,fun h=>h,hJ _ _ _ _ h0 (Stays.below hb),fun k h=>h.elim,hk0.trans (Keeps.below hb),by simp;omega⟩
 case round=>
  clear y0 h0;obtain⟨j,U,gp,hj,rfl,hgp,hBg,hUg,hJj,hUl,hk,hs⟩:=hrel;obtain⟨p0,p1⟩:=hgp.c2;obtain⟨hTw,hLw⟩:=HF.out _ hk hs;obtain⟨x0,x1,x2,x3,x4,x5,x6,x7,x8,x9,x10⟩:=(HB2.out _ hk).c11;have KH:=Zz (has_B hTw hLw s j (HTA.out j));clear hTw hLw;gi_wp2_with fail;refine⟨trivial,(callsIn_wide.2 KH.out).mono ?_⟩;clear KH p0 p1 x0 x1 x2 x3 x4 x5 x6 x7 x8 x9 x10;have hgpm:=hgp;by_cases hjm:j<m
  · have hd:decide (j<m)=true:=decide_eq_true hjm;have HXJ:=Zz (HXA.out j hjm);rw[hd];clear hd;rintro e w1 ⟨rfl,hB1⟩;have hgp:=hgp.below hB1 hgp.lt;have hUl1:∀k,U k→k<w1.heap.size:=fun k h=>Nat.lt_of_lt_of_le (hUl k h) hB1.size;have hJ1:=hJ _ _ _ _ hJj (Stays.below hB1);have hk1:=hk.trans (Keeps.below hB1);have hs1:=Nat.le_trans hs hB1.size;clear hJj hUl hk hs hB1;obtain⟨p0,p1⟩:=hgp.c2;obtain⟨fn,tmps,assign,body,hy,hR⟩:=hY U j (s,(j:Int)) w1 HXJ.out hJ1 hUl1;have HR:=Zz hR;clear hR hJ1;gi_wp2_with fail;refine RoundIn.mono (RoundIn.wide HR.out) ?_;clear HR hy p0 p1;rintro e W3 ⟨U',hg',hk',(⟨rfl,hJ3⟩|⟨rfl,hJx3⟩)⟩
    · have hgp3:=hk'.whole hgp hBg hUg;obtain⟨p0,p1⟩:=hgp3.c2;have hb4:=fun o=>below1 W3 o;have hs3:=hk'.size;have hU3:¬U' W3.heap.size:=fun h=>Nat.lt_irrefl _ (hg'.lt _ h);have hJ4:=fun o=>hJ _ _ _ _ hJ3 (Stays.below (hb4 o));have hk4:=(hk1.trans hk'.keeps).trans (Keeps.below (hb4 (.cells #[.int .i64 s,.int .i64 ((j+1:Nat):Int)] 59)));have hw1:IntKind.i64.wrap ((j:Int)+1)=((j+1:Nat):Int):=by rw[wrapI_in _ (by omega)];omega
      have hj1:((j:Int)+1)=((j+1:Nat):Int):=by omega
      have hw2:wrap64 ((j:Int)+1)=((j+1:Nat):Int):=by unfold wrap64;omega
      have HJ1:=Zz hj1;clear hj1 hk1 hJ3 hb4;gi_wp2_with fail;go_roundw
      case rel=>exact⟨j+1,U',W3.heap.size,hjm,rfl,by rw[HJ1.out];exact Whole.new W3 _ [_,_],by omega,hU3,hJ4 _,fun k h=>by have :=hg'.lt k h;simp;omega,by rw[HJ1.out];exact hk4,by simp;omega⟩
      case measure=>
       rw[secondOf_whole (Whole.new W3 59 [.int .i64 s,.int .i64 ((j:Int)+1)]),secondOf_whole hgpm];omega
    · gi_wp2
      refine bodyPost_ret (results_none rfl _ _ _) rfl ?_;exact⟨⟨_,rfl⟩,U',hg'.lt,.inr hJx3⟩
  · have hd:decide (j<m)=false:=decide_eq_false hjm;obtain rfl:j=m:=by omega
    rw[hd];clear hd;rintro e w1 ⟨rfl,hB1⟩;have hJ1:=hJ _ _ _ _ hJj (Stays.below hB1);gi_wp2_with fail;go_end0
    exact⟨⟨_,rfl⟩,U,fun k h=>Nat.lt_of_lt_of_le (hUl k h) hB1.size,.inl (HXL.out ▸ hJ1)⟩
theorem portsJ_any (l:Lay) (s:Int) (w:World):Calls Tryz.prog 188 #[l.val,.int .i64 s] w fun e w'=>e= .returned (.func (.func 203) #[] #[.pointer (some ⟨w.heap.size+1,0,none⟩),.pointer (some ⟨w.heap.size,0,none⟩)]) ∧
 w'=(w.alloc (.cells #[.slice l.As l.secs.length l.cs,.slice l.Ag l.sigs.length l.cg,.slice l.Ae l.exits.length l.ce,.slice l.Af l.flanks.length l.cf,.int .i64 l.t0,.int .i64 l.t1,.int .i64 l.t2,.int .i64 l.t3,.int .i64 l.t4,.int .i64 l.t5,.int .i64 l.t6] 29)).alloc (.cells #[.int .i64 s] 3):=by
 go_enter Tryz.func188,Tryz.ntmps188
 go_wp2_with fail
 go_ret
 exact⟨rfl,rfl⟩
def With (U:Nat→Prop) (W W':World):Nat→Prop:=fun k=>U k∨(W.heap.size≤k∧k<W'.heap.size)
theorem Grew.with {U:Nat→Prop} {W W':World} (h:∀k,U k→k<W.heap.size) (hs:W.heap.size≤W'.heap.size):Grew U (With U W W') W W':=
 ⟨fun k hk=>hk.imp id (fun h=>h.1),fun k hk=>hk.elim (fun hu=>Nat.lt_of_lt_of_le (h k hu) hs) (fun h=>h.2)⟩
end
end Go.Proofs.YtifnlhfinjfajaaGreatDoor
