/- Of this seat: NeeH, NeeI, LwG. -/
import Derived.Ground.NamesProg
import Derived.Ground.Names2Prog
import Derived.Shelf.Sort.Plain
import Derived.Shelf.Slices.In.SortNone
import Derived.Shelf.Slices.CompactI
import Derived.Sort.OwnSorted
import Derived.Sort.Grow
import Derived.Lib.OwnBridge
import Derived.Test.YtifnlhfinjfajaaGreatDoorK28
import Derived.Test.YtifnlhfinjfajaaGreatDoorK33
namespace Go.Proofs.YtifnlhfinjfajaaGreatDoor
set_option linter.unusedVariables false
set_option linter.unusedSimpArgs false
set_option maxRecDepth 100000
set_option maxHeartbeats 32000000
section
open Go.RowKit Go.Shelf
def pairC (a b:Int×Int×Int):Bool:=a.1==b.1&&a.2.1 != b.2.1
theorem owns_base13 {W:World} {base base' e k n:Nat} {v:Value} {xs:List Value} (h:W.ownsRow base e k v n xs) (hb:base'≤base):W.ownsRow base' e k v n xs:=by
 refine⟨h.1,?_⟩;rcases h.2 with h2|⟨g,cap,cur,hv,h3,r⟩
 · exact .inl h2
 · exact .inr ⟨g,cap,cur,hv,Nat.le_trans hb h3,r⟩
theorem clash_hit {ns:List (Int×Int×Int)} {i k:Nat} {x y:Int×Int×Int} (hx:ns[i]? =some x) (hy:ns[k]? =some y) (h:pairC x y=true):clashN ns=true:=by
 unfold pairC at h;rw[Bool.and_eq_true,beq_iff_eq,bne_iff_ne] at h;exact clash_iff.2 ⟨x,List.mem_of_getElem? hx,y,List.mem_of_getElem? hy,h.1,h.2⟩
theorem clash_next {ns:List (Int×Int×Int)} {i:Nat} {x:Int×Int×Int} (hx:ns[i]? =some x) (hc:clashN (ns.take i)=false) (h:Zl (pairC x) ns i):clashN (ns.take (i+1))=false:=by
 rw[List.take_add_one,hx,Option.toList_some,clash_snoc,hc,Bool.false_or,Bool.and_eq_false_iff,bne_eq_false_iff_eq];cases hh:(at13 (ns.take i) x.1).2
 · exact .inl rfl
 · right;obtain⟨a,ha,h1,h2⟩:=at13_yes hh;obtain⟨k,hk⟩:=List.getElem?_of_mem ha;have hki:k<i:=by
    have :=(List.getElem?_eq_some_iff.1 hk).1;rw[List.length_take] at this;omega
   rw[List.getElem?_take,if_pos hki] at hk;have :=h k a hki hk;unfold pairC at this;rw[←h2];simp[h1] at this;exact this.symm
theorem of13R_any {l:Lay} {p:Pth} {w:World} (hL:Lies l w) (hp:PLies p w) (hO:∀x ∈ l.exits,x.over.length≤1000) (hF:l.flanks.length≤900) (hS:p.ss.length≤100) {ns:List (Int×Int×Int)} (hns:ofV l p=ns):
 Calls Tryz.prog 36 #[l.val,p.val] w fun e w'=>∃v,e= .returned v∧w'.ownsRow w.heap.size 100 3 v ns.length (ns.flatMap Zi)∧Below w.heap.size w w':=by
 subst hns
 obtain⟨W2,hW2⟩:∃W2,(w.alloc (.cells #[.slice l.As l.secs.length l.cs,.slice l.Ag l.sigs.length l.cg,.slice l.Ae l.exits.length l.ce,.slice l.Af l.flanks.length l.cf,.int .i64 l.t0,.int .i64 l.t1,.int .i64 l.t2,.int .i64 l.t3,.int .i64 l.t4,.int .i64 l.t5,.int .i64 l.t6] 29)).alloc (.cells #[.int .i64 p.s,.int .i64 p.x,.slice p.A p.ss.length p.c] 46)=W2:=⟨_,rfl⟩
 obtain⟨B,hB⟩:∃B,w.heap.size+2=B:=⟨_,rfl⟩
 have hs2:W2.heap.size=B:=by rw[←hW2];simp;omega
 obtain⟨Q,HQ,HQB,HQ0,HQl,HQv,hq⟩:∃Q:World→Prop,Hid (Closed Q)∧Hid (∀W W',Q W→Below B W W'→Q W')∧Hid (∀W,Q W→B≤W.heap.size∧Below w.heap.size w W)∧Hid (∀W,Q W→Whole W w.heap.size 29 l.cells)∧Hid (∀W,Q W→Whole W (w.heap.size+1) 46 p.cells)∧Q W2:=
  ⟨fun W=>Below B W2 W∧B≤W.heap.size,Zz (fun W W' h hb=>⟨h.1.trans (hb.mono h.2),Nat.le_trans h.2 hb.size⟩),Zz (fun W W' h hb=>⟨h.1.trans hb,Nat.le_trans h.2 hb.size⟩),Zz (fun W h=>⟨h.2,by
   have :Below w.heap.size w W2:=by rw[←hW2];exact below2 _ _ _
   exact this.trans (h.1.mono (by omega))⟩),Zz (fun W h=>by
   have :Whole W2 w.heap.size 29 l.cells:=by rw[←hW2];exact(Whole.new w _ l.cells).alloc _
   exact this.below h.1 (by omega)),Zz (fun W h=>by
   have :Whole W2 (w.heap.size+1) 46 p.cells:=by rw[←hW2];exact Whole.Zj _ _ p.cells _ (by simp)
   exact this.below h.1 (by omega)),⟨Below.refl _ _,by omega⟩⟩
 have HTW:Hid (∀W,Q W→Lies l W∧PLies p W):=Zz fun W hW=>⟨Lies.closed l _ _ hL (HQ0.out W hW).2,PLies.closed p _ _ hp (HQ0.out W hW).2⟩
 obtain⟨os,hos⟩:∃os,overL10 l p.x=os:=⟨_,rfl⟩
 have hol:os.length≤1000:=by rw[←hos];exact over_le13 hO _
 have KW:Hid (∀(s i o k:Int) (ws:List (Int×Int×Int)),wantsV l s i o k=ws→∀W,Q W→Calls Tryz.prog 55 #[l.val,stpV s i o,.int .i64 k] W fun e w'=>∃x:Option Addr×Nat,e= .returned (.slice x.1 ws.length x.2)∧Row w' w'.heap.size x.1 (ws.flatMap Zi)∧Below W.heap.size W w'):=Zz fun s i o k ws hws W hW=>(wantsR_any (HTW.out W hW).1 hF s i o k hws).mono (by
  rintro e w' ⟨v,rfl,hown,hB⟩;obtain⟨A,c,rfl,hr⟩:=owns_read hown;exact⟨(A,c),rfl,hr,hB⟩)
 have KO:Hid (∀W,Q W→Calls Tryz.prog 56 #[l.val,.int .i64 p.x] W fun e w'=>∃v,e= .returned v∧w'.ownsRow W.heap.size 66 3 v os.length (os.flatMap Ze)∧Below W.heap.size W w'):=Zz fun W hW=>overR10_any (HTW.out W hW).1 hO p.x hos
 have HWL:Hid (∀s i o k,(wantsV l s i o k).length≤901):=Zz fun s i o k=>want_len hF (k,s,i,o)
 have HLS:Hid (∀j,(ofS l (p.ss.take j) 0).length≤j*901):=Zz fun j=>by
  have h:=of_len (l:=l) (p:={p with ss:=p.ss.take j,x:=-1}) (F:=900) (S:=j) hF (by show(p.ss.take j).length+(overL10 l (-1)).length≤j;rw[show overL10 l (-1)=[] from rfl,List.length_take];simp;omega);unfold ofV at h;rw[List.length_append] at h;exact Nat.le_trans (Nat.le_add_right _ _) h
 have HLO:Hid (∀j k,(ofO l (os.take j) k).length≤j*901):=Zz fun j k=>by
  induction j with
  |zero=>simp[ofO]
  |succ j ih=>
   cases ho:os[j]? with
   |none=>rw[List.take_add_one,ho];simpa using Nat.le_trans ih (by omega)
   |some s=>rw[ofO_next ho,List.length_append];have :=HWL.out s.1 s.2.1 s.2.2 k;omega
 have HOF:Hid (ofS l (p.ss.take p.ss.length) 0++ofO l (os.take os.length) p.ss.length=ofV l p):=Zz (by unfold ofV;rw[List.take_length,List.take_length,hos])
 have HWe:=Zz hW2
 have hx0:=HQl.out _ hq
 have hy0:=HQv.out _ hq
 rw[←hW2] at hx0 hy0
 obtain⟨x0,x1,x2,x3,x4,x5,x6,x7,x8,x9,x10⟩:=hx0.c11
 obtain⟨y0,y1,y2⟩:=hy0.c3
 clear hx0 hy0 hL hp hO hF hos hs2 hW2
 have hB2:w.heap.size≤B:=by omega
 go_enter Tryz.func36,Tryz.ntmps36
 go_wp2_with fail
 try rw[HWe.out]
 clear x0 x1 x2 x3 x4 x5 x6 x7 x8 x9 x10 y0 y1 y2 HWe
 go_loopw [5,7] (fun v i wr=>∃j:Nat,j≤p.ss.length∧i= .int .i64 j∧Hid (Q wr∧wr.ownsRow B 100 3 v (ofS l (p.ss.take j) 0).length ((ofS l (p.ss.take j) 0).flatMap Zi))) (fun _ i _=>p.ss.length - (intOf i).toNat)
 case atStart=>exact⟨0,by omega,rfl,Zz ⟨hq,World.ownsRow_nil _ _ _ _⟩⟩
 case round=>
  clear hq;obtain⟨j,hj,rfl,HI⟩:=hrel;by_cases hlt:j<p.ss.length
  · have hlt':(j:Int)<p.ss.length:=by omega
    obtain⟨⟨f1,f2,f3⟩,hx⟩:∃x,p.ss[j]? =some x:=⟨_,List.getElem?_eq_getElem hlt⟩;obtain⟨o1,o2,HA,HC0,HC⟩:=row_at (Q:=Q) (n:=3) (fun _=>rfl) (by omega) (fun W hW=>(HTW.out W hW).2.row) HI.out.1 hx;have HX:=Zz hx;obtain⟨ws,hws⟩:∃ws,wantsV l f1 f2 f3 (j:Int)=ws:=⟨_,rfl⟩;have HN:Hid (ofS l (p.ss.take (j+1)) 0=ofS l (p.ss.take j) 0++ws):=Zz (by rw[ofS_next hx,←hws]);have KW1:=Zz (KW.out f1 f2 f3 j ws hws);have HL1:Hid ((ofS l (p.ss.take j) 0).length≤1000000∧ws.length≤1000000):=Zz ⟨by have :=HLS.out j;omega,by rw[←hws];have :=HWL.out f1 f2 f3 j;omega⟩;obtain⟨us,hus⟩:∃us,ofS l (p.ss.take j) 0=us:=⟨_,rfl⟩;rw[hus] at HN HL1 HI;clear hx hws hus;obtain⟨WB,rfl⟩:∃W,W=wr:=⟨wr,rfl⟩;have hFam:Fam Q (fun W=>Q W∧W.ownsRow B 100 3 u5 us.length (us.flatMap Zi)):=⟨fun W W' h hb=>⟨HQ.out _ _ h.1 hb,Zh h.2 hb⟩,fun _ h=>h.1⟩;go_wp2_with fail;refine region_mix Q [(0,false),(1,false),(2,false),(3,false),(4,false),(5,false),(6,false),(7,false),(8,true),(9,true),(10,false)] (by kernel_rfl) (by kernel_rfl) (fun W=>Q W∧W.ownsRow B 100 3 u5 us.length (us.flatMap Zi)) hFam (hFam.1 _ _ HI.out ((Below.refl _ _).drew)) ?_;simp only[Zg,Lm,Ln];iterate 8 (first|(refine Zn _ (by rfl) (fun W hW=>by(obtain⟨x0,x1,x2,x3,x4,x5,x6,x7,x8,x9,x10⟩:=(HQl.out W hW).c11;obtain⟨y0,y1,y2⟩:=(HQv.out W hW).c3;have c0:=HC0.out W hW j _ _ HX.out rfl;have c1:=HC.out W hW j _ 1 _ HX.out rfl;have c2:=HC.out W hW j _ 2 _ HX.out rfl;clear hW;go_simp;first|done|with_reducible rfl)) ?_;simp only[Act.put,La,Lb,Lc])|(refine Zn _ (by rfl) (fun W hW=>by(obtain⟨x0,x1,x2,x3,x4,x5,x6,x7,x8,x9,x10⟩:=(HQl.out W hW).c11;obtain⟨y0,y1,y2⟩:=(HQv.out W hW).c3;have c0:=HC0.out W hW j _ _ HX.out rfl;have c1:=HC.out W hW j _ 1 _ HX.out rfl;have c2:=HC.out W hW j _ 2 _ HX.out rfl;clear hW;rw[HA.out];go_simp;first|done|with_reducible rfl)) ?_;simp only[Act.put,La,Lb,Lc]))
    refine mix_meet (fun x:Option Addr×Nat=>.slice x.1 ws.length x.2) (fun x W=>Row W W.heap.size x.1 (ws.flatMap Zi)) hFam (fun x W W' h hB=>h.on hB) _ _ (by rfl) (fun W hW=>by(go_simp;first|done|rfl)) (fun W hW=>KW1.out W hW.1) (fun x=>?_);simp only[Act.put,La,Lb,Lc];refine mix_yield (X:=Value) (fun v=>v) (fun v W=>Q W∧W.ownsRow B 100 3 v (us++ws).length ((us++ws).flatMap Zi)) (fun v=>⟨fun W W' h hb=>⟨HQ.out _ _ h.1 hb,Zh h.2 hb⟩,fun _ h=>h.1⟩) (by rfl) (fun W hW=>?_) (fun v=>?_)
    · have hq:=hW.1.1;obtain⟨v',W',hrun,hO,hg⟩:=append_needs13 B us ws u5 x.1 x.2 W.heap.size W hW.1.2 hW.2 HL1.out.1 HL1.out.2 (HQ0.out W hq).1;have hq':Q W':=HQB.out _ _ hq ((Below.refl B W).grown hg (HQ0.out W hq).1 (fun k e=>(hW.1.2.lt k e).1));exact⟨v',W',exec_append (.tmp 18) (.tmp 26) 76 rfl hrun,hq',hO⟩
    simp only[Act.put,La,Lb,Lc];refine Zn _ (by rfl) (fun W hW=>by(clear hW;go_simp;first|done|with_reducible rfl)) ?_;simp only[Act.put,La,Lb,Lc];refine Zd (fun W hW=>?_);have HE:=Zz hW;clear hW HI hFam;go_wp2_with fail;go_roundw
    case rel=>exact⟨j+1,hlt,by go_num,by rw[HN.out];exact HE⟩
    case measure=>simp[intOf];omega
  · obtain rfl:j=p.ss.length:=by omega
    have hq:=HI.out.1;obtain⟨x0,x1,x2,x3,x4,x5,x6,x7,x8,x9,x10⟩:=(HQl.out _ hq).c11;obtain⟨y0,y1,y2⟩:=(HQv.out _ hq).c3;clear hq;go_wp2_with fail;refine(KO.out _ HI.out.1).mono ?_;clear x0 x1 x2 x3 x4 x5 x6 x7 x8 x9 x10 y0 y1 y2;rintro e w5 ⟨v5,rfl,hown5,hB5⟩;obtain⟨A5,c5,rfl,_⟩:=owns_read hown5;obtain⟨vO,hvO⟩:∃v,u5=v:=⟨_,rfl⟩;have HI5:Hid (Q w5∧w5.ownsRow B 100 3 u5 (ofS l (p.ss.take p.ss.length) 0).length ((ofS l (p.ss.take p.ss.length) 0).flatMap Zi)∧w5.ownsRow B 66 3 (.slice A5 os.length c5) os.length (os.flatMap Ze)):=Zz ⟨HQ.out _ _ HI.out.1 hB5,Zh HI.out.2 hB5,owns_base13 hown5 (HQ0.out _ HI.out.1).1⟩;obtain⟨hd,hhd⟩:∃hd,ofS l (p.ss.take p.ss.length) 0=hd:=⟨_,rfl⟩;have HLD:Hid (hd.length≤91000):=Zz (by rw[←hhd];have :=HLS.out p.ss.length;omega);rw[hhd] at HI5 HOF;clear hown5 hB5 HI hvO hhd;go_wp2_with fail;go_loopw [5,9] (fun v i wr=>∃j:Nat,j≤os.length∧i= .int .i64 j∧Hid (Q wr∧wr.ownsRow B 100 3 v (hd++ofO l (os.take j) p.ss.length).length ((hd++ofO l (os.take j) p.ss.length).flatMap Zi)∧wr.ownsRow B 66 3 (.slice A5 os.length c5) os.length (os.flatMap Ze))) (fun _ i _=>os.length - (intOf i).toNat)
    case atStart=>exact⟨0,by omega,rfl,Zz (by simpa [ofO] using HI5.out)⟩
    case round=>
     clear HI5;obtain⟨j,hj,rfl,HI⟩:=hrel;by_cases hlt:j<os.length
     · have hlt':(j:Int)<os.length:=by omega
       obtain⟨⟨f1,f2,f3⟩,hx⟩:∃x,os[j]? =some x:=⟨_,List.getElem?_eq_getElem hlt⟩;obtain⟨ws,hws⟩:∃ws,wantsV l f1 f2 f3 (p.ss.length:Int)=ws:=⟨_,rfl⟩;have HN:Hid (hd++ofO l (os.take (j+1)) p.ss.length=(hd++ofO l (os.take j) p.ss.length)++ws):=Zz (by rw[ofO_next hx,←hws,List.append_assoc]);have KW1:=Zz (KW.out f1 f2 f3 p.ss.length ws hws);have HL1:Hid ((hd++ofO l (os.take j) p.ss.length).length≤1000000∧ws.length≤1000000):=Zz ⟨by rw[List.length_append];have :=HLD.out;have :=HLO.out j p.ss.length;have :j*901≤1000*901:=Nat.mul_le_mul_right _ (by omega);omega,by rw[←hws];have :=HWL.out f1 f2 f3 p.ss.length;omega⟩;obtain⟨us,hus⟩:∃us,hd++ofO l (os.take j) p.ss.length=us:=⟨_,rfl⟩;rw[hus] at HN HL1 HI;obtain⟨o1,o2,HA,HC0,HC⟩:=row_at (Q:=fun W=>W.ownsRow B 66 3 (.slice A5 os.length c5) os.length (os.flatMap Ze)) (n:=3) (fun _=>rfl) (by omega) (fun W hW=>owns_row2 hW) HI.out.2.2 hx;have HX:=Zz hx;clear hx hws hus;obtain⟨WB,rfl⟩:∃W,W=wr:=⟨wr,rfl⟩;have hFam:Fam (fun W=>Q W∧W.ownsRow B 66 3 (.slice A5 os.length c5) os.length (os.flatMap Ze)) (fun W=>(Q W∧W.ownsRow B 66 3 (.slice A5 os.length c5) os.length (os.flatMap Ze))∧W.ownsRow B 100 3 u5 us.length (us.flatMap Zi)):=⟨fun W W' h hb=>⟨⟨HQ.out _ _ h.1.1 hb,Zh h.1.2 hb⟩,Zh h.2 hb⟩,fun _ h=>h.1⟩;go_wp2_with fail;refine region_mix (fun W=>Q W∧W.ownsRow B 66 3 (.slice A5 os.length c5) os.length (os.flatMap Ze)) [(0,false),(1,false),(2,false),(3,false),(4,false),(5,false),(6,false),(7,true),(8,true),(9,false)] (by kernel_rfl) (by kernel_rfl) (fun W=>(Q W∧W.ownsRow B 66 3 (.slice A5 os.length c5) os.length (os.flatMap Ze))∧W.ownsRow B 100 3 u5 us.length (us.flatMap Zi)) hFam (hFam.1 _ _ ⟨⟨HI.out.1,HI.out.2.2⟩,HI.out.2.1⟩ ((Below.refl _ _).drew)) ?_;simp only[Zg,Lm,Ln];iterate 7 (first|(refine Zn _ (by rfl) (fun W hW=>by(obtain⟨x0,x1,x2,x3,x4,x5,x6,x7,x8,x9,x10⟩:=(HQl.out W hW.1).c11;obtain⟨y0,y1,y2⟩:=(HQv.out W hW.1).c3;have c0:=HC0.out W hW.2 j _ _ HX.out rfl;have c1:=HC.out W hW.2 j _ 1 _ HX.out rfl;have c2:=HC.out W hW.2 j _ 2 _ HX.out rfl;clear hW;go_simp;first|done|with_reducible rfl)) ?_;simp only[Act.put,La,Lb,Lc])|(refine Zn _ (by rfl) (fun W hW=>by(obtain⟨x0,x1,x2,x3,x4,x5,x6,x7,x8,x9,x10⟩:=(HQl.out W hW.1).c11;obtain⟨y0,y1,y2⟩:=(HQv.out W hW.1).c3;have c0:=HC0.out W hW.2 j _ _ HX.out rfl;have c1:=HC.out W hW.2 j _ 1 _ HX.out rfl;have c2:=HC.out W hW.2 j _ 2 _ HX.out rfl;clear hW;rw[HA.out];go_simp;first|done|with_reducible rfl)) ?_;simp only[Act.put,La,Lb,Lc]))
       refine mix_meet (fun x:Option Addr×Nat=>.slice x.1 ws.length x.2) (fun x W=>Row W W.heap.size x.1 (ws.flatMap Zi)) hFam (fun x W W' h hB=>h.on hB) _ _ (by rfl) (fun W hW=>by(go_simp;first|done|rfl)) (fun W hW=>KW1.out W hW.1.1) (fun x=>?_);simp only[Act.put,La,Lb,Lc];refine mix_yield (X:=Value) (fun v=>v) (fun v W=>(Q W∧W.ownsRow B 66 3 (.slice A5 os.length c5) os.length (os.flatMap Ze))∧W.ownsRow B 100 3 v (us++ws).length ((us++ws).flatMap Zi)) (fun v=>⟨fun W W' h hb=>⟨⟨HQ.out _ _ h.1.1 hb,Zh h.1.2 hb⟩,Zh h.2 hb⟩,fun _ h=>h.1⟩) (by rfl) (fun W hW=>?_) (fun v=>?_)
       · have hq:=hW.1.1.1;obtain⟨v',W',hrun,hO,hg⟩:=append_needs13 B us ws u5 x.1 x.2 W.heap.size W hW.1.2 hW.2 HL1.out.1 HL1.out.2 (HQ0.out W hq).1;have hq':Q W':=HQB.out _ _ hq ((Below.refl B W).grown hg (HQ0.out W hq).1 (fun k e=>(hW.1.2.lt k e).1));exact⟨v',W',exec_append (.tmp 38) (.tmp 45) 76 rfl hrun,⟨hq',hW.1.1.2.kept hg (owns_apart hW.1.1.2 hW.1.2 (by decide))⟩,hO⟩
       simp only[Act.put,La,Lb,Lc];refine Zn _ (by rfl) (fun W hW=>by(clear hW;go_simp;first|done|with_reducible rfl)) ?_;simp only[Act.put,La,Lb,Lc];refine Zd (fun W hW=>?_);have HE:=Zz hW;clear hW HI hFam;go_wp2_with fail;go_roundw
       case rel=>exact⟨j+1,hlt,by go_num,by rw[HN.out];exact Zz ⟨HE.out.1.1,HE.out.2,HE.out.1.2⟩⟩
       case measure=>simp[intOf];omega
     · obtain rfl:j=os.length:=by omega
       rw[HOF.out] at HI;go_wp2_with fail;go_ret;exact⟨_,rfl,owns_base13 HI.out.2.1 hB2,(HQ0.out _ HI.out.1).2⟩
theorem clashR_any {us vs:List (Int×Int×Int)} {A Bv:Option Addr} (ca cb:Nat) {w:World} (hA:Row w w.heap.size A (us.flatMap Zi)) (hB:Row w w.heap.size Bv (vs.flatMap Zi)) (hu:us.length≤1000000) (hv:vs.length≤1000000) {r:Bool} (hr:clashN (us++vs)=r):
 Calls Tryz.prog 35 #[.slice A us.length ca,.slice Bv vs.length cb] w fun e w'=>e= .returned (.bool r)∧Below w.heap.size w w':=by
 have hnew:(w.alloc (.cells #[] 100)).ownsRow w.heap.size 100 3 (.slice (some ⟨w.heap.size,0,none⟩) 0 0) ([]:List (Int×Int×Int)).length (([]:List (Int×Int×Int)).flatMap Zi):=owns_empty _ _ _ _ (Nat.le_refl _) (World.alloc_heap_new w _)
 have hb1:=below1 w (.cells #[] 100)
 obtain⟨v1,W1,hrun1,hO1,hg1⟩:=append_needs13 w.heap.size [] us _ A ca _ _ hnew (hA.on hb1) (by simp) hu hb1.size
 rw[List.nil_append] at hO1
 have hB1:Below w.heap.size w W1:=hb1.grown hg1 hb1.size (fun k e=>(hnew.lt k e).1)
 obtain⟨v2,W2,hrun2,hO2,hg2⟩:=append_needs13 w.heap.size us vs _ Bv cb _ _ hO1 (hB.on hB1) hu hv hB1.size
 have hB2:Below w.heap.size w W2:=hB1.grown hg2 hB1.size (fun k e=>(hO1.lt k e).1)
 obtain⟨A2,c2,rfl,hrow⟩:=owns_read hO2
 have hal:(us++vs).length≤2000000:=by rw[List.length_append];omega
 obtain⟨ns,hns⟩:∃ns,us++vs=ns:=⟨_,rfl⟩
 rw[hns] at hrow hr hrun2 hal
 obtain⟨Q,HQ,HQ0,HQr,hq⟩:∃Q:World→Prop,Hid (Closed Q)∧Hid (∀W,Q W→Below w.heap.size w W)∧Hid (∀W,Q W→Row W W.heap.size A2 (ns.flatMap Zi))∧Q W2:=
  ⟨fun W=>Below W2.heap.size W2 W,Zz (Closed.below W2),Zz fun W h=>hB2.trans (h.mono hB2.size),Zz fun W h=>hrow.on h,Below.refl _ _⟩
 have HR:=Zz hr
 clear hA hB hnew hb1 hO1 hg1 hB1 hO2 hg2 hB2 hrow hr hns
 go_enter Tryz.func35,Tryz.ntmps35
 go_wp2_with (first|(at_builtin;refine Zo rfl (.tmp 8) (.tmp 9) 76 rfl hrun1 ?_)|(at_builtin;refine Zo rfl (.tmp 10) (.tmp 11) 76 rfl hrun2 ?_))
 clear hrun1 hrun2 hu hv
 go_loopw [6] (fun i wr=>∃j:Nat,j≤ns.length∧i= .int .i64 j∧Q wr∧Hid (clashN (ns.take j)=false)) (fun i _=>ns.length - (intOf i).toNat)
 case atStart=>exact⟨0,by omega,rfl,hq,Zz rfl⟩
 case round=>
  clear hq;obtain⟨i,hi,rfl,hq,HC1⟩:=hrel;by_cases hlt:i<ns.length
  · have hlt':(i:Int)<ns.length:=by omega
    obtain⟨⟨x1,x2,x3⟩,hx⟩:∃x,ns[i]? =some x:=⟨_,List.getElem?_eq_getElem hlt⟩;obtain⟨o1,o2,HA,HC0,HC⟩:=row_at (n:=3) (fun _=>rfl) (by omega) HQr.out hq hx;have HX:=Zz hx;clear hx;obtain rfl:=HA.out;clear HA;go_wp2_with fail;go_loopw [7] (fun k wr=>∃j:Nat,j≤i∧k= .int .i64 j∧Q wr∧Hid (Zl (pairC (x1,x2,x3)) ns j)) (fun k _=>i - (intOf k).toNat)
    case atStart=>exact⟨0,by omega,rfl,hq,Zz (Zl.zero _ _)⟩
    case round=>
     clear hq;obtain⟨k,hk,rfl,hq,HNo⟩:=hrel;by_cases hlt2:k<i
     · have hlt2':(k:Int)<(i:Int):=by omega
       obtain⟨⟨y1,y2,y3⟩,hy⟩:∃y,ns[k]? =some y:=⟨_,List.getElem?_eq_getElem (by omega)⟩;have HY:=Zz hy;have hkn:(k:Int)<ns.length:=by omega
       clear hy;obtain⟨wb,rfl⟩:∃W,W=wr:=⟨wr,rfl⟩;cases he:(x1==y1)
       · have HN:=Zz (HNo.out.succ HY.out (show pairC (x1,x2,x3) (y1,y2,y3)=false by unfold pairC;simp only[he,Bool.false_and]));go_wp2_with fail;refine region_mix Q [(0,false),(1,false),(2,false),(3,false),(4,false),(5,false),(6,false),(7,false),(8,false),(9,false),(10,false),(11,false),(12,false),(13,false),(14,false),(15,false),(16,false),(17,false),(18,false),(19,false),(20,false),(21,false),(22,false),(23,false)] (by kernel_rfl) (by kernel_rfl) Q ⟨HQ.out,fun _ h=>h⟩ (HQ.out.drew hq) ?_;simp only[Zg,Lm,Ln];repeat ((first|(refine Zb (by rfl) ?_)|(refine Zn _ (by rfl) (fun W hW=>by(have c0:=HC0.out W hW i _ _ HX.out rfl;have c1:=HC.out W hW i _ 1 _ HX.out rfl;have d0:=HC0.out W hW k _ _ HY.out rfl;have d1:=HC.out W hW k _ 1 _ HY.out rfl;clear hW;go_simp;first|done|with_reducible rfl)) ?_));simp only[Act.put,La,Lb,Lc])
         refine Zd (fun W hW=>?_);have hq:=hW;clear hW;go_wp2_with fail;go_roundw
         case rel=>exact⟨k+1,by omega,by go_num,hq,HN⟩
         case measure=>simp[intOf];omega
       · cases hp:(x2 != y2)
         · have HN:=Zz (HNo.out.succ HY.out (show pairC (x1,x2,x3) (y1,y2,y3)=false by unfold pairC;simp only[he,hp,Bool.true_and]));go_wp2_with fail;refine region_mix Q [(0,false),(1,false),(2,false),(3,false),(4,false),(5,false),(6,false),(7,false),(8,false),(9,false),(10,false),(11,false),(12,false),(13,false),(14,false),(15,false),(16,false),(17,false),(18,false),(19,false),(20,false),(21,false),(22,false),(23,false)] (by kernel_rfl) (by kernel_rfl) Q ⟨HQ.out,fun _ h=>h⟩ (HQ.out.drew hq) ?_;simp only[Zg,Lm,Ln];repeat ((first|(refine Zb (by rfl) ?_)|(refine Zn _ (by rfl) (fun W hW=>by(have c0:=HC0.out W hW i _ _ HX.out rfl;have c1:=HC.out W hW i _ 1 _ HX.out rfl;have d0:=HC0.out W hW k _ _ HY.out rfl;have d1:=HC.out W hW k _ 1 _ HY.out rfl;clear hW;go_simp;first|done|with_reducible rfl)) ?_));simp only[Act.put,La,Lb,Lc])
           refine Zd (fun W hW=>?_);have hq:=hW;clear hW;go_wp2_with fail;go_roundw
           case rel=>exact⟨k+1,by omega,by go_num,hq,HN⟩
           case measure=>simp[intOf];omega
         · have HF:Hid (true=r):=Zz (by rw[←HR.out];exact(clash_hit HX.out HY.out (show pairC (x1,x2,x3) (y1,y2,y3)=true by unfold pairC;simp only[he,hp,Bool.true_and])).symm);go_wp2_with fail;refine region_mix Q [(0,false),(1,false),(2,false),(3,false),(4,false),(5,false),(6,false),(7,false),(8,false),(9,false),(10,false),(11,false),(12,false),(13,false),(14,false),(15,false),(16,false),(17,false),(18,false),(19,false),(20,false),(21,false),(22,false),(23,false)] (by kernel_rfl) (by kernel_rfl) Q ⟨HQ.out,fun _ h=>h⟩ (HQ.out.drew hq) ?_;simp only[Zg,Lm,Ln];repeat ((first|(refine Zb (by rfl) ?_)|(refine Zn _ (by rfl) (fun W hW=>by(have c0:=HC0.out W hW i _ _ HX.out rfl;have c1:=HC.out W hW i _ 1 _ HX.out rfl;have d0:=HC0.out W hW k _ _ HY.out rfl;have d1:=HC.out W hW k _ 1 _ HY.out rfl;clear hW;go_simp;first|done|with_reducible rfl)) ?_));simp only[Act.put,La,Lb,Lc])
           refine Zd (fun W hW=>?_);have hq:=hW;clear hW;go_wp2_with fail;go_ret;exact⟨Zc HF.out,HQ0.out _ hq⟩
     · obtain rfl:k=i:=by omega
       have HN:=Zz (clash_next HX.out HC1.out HNo.out);go_wp2_with fail;go_roundw
       case rel=>exact⟨k+1,hlt,by go_num,hq,HN⟩
       case measure=>simp[intOf];omega
  · obtain rfl:i=ns.length:=by omega
    have HF:Hid (false=r):=Zz (by rw[←HR.out];have :=HC1.out;rw[List.take_length] at this;exact this.symm);go_wp2_with fail;go_ret;exact⟨Zc HF.out,HQ0.out _ hq⟩
theorem fineR_any {l:Lay} {p:Pth} {w:World} (hL:Lies l w) (hp:PLies p w) (hO:∀x ∈ l.exits,x.over.length≤1000) (hF:l.flanks.length≤900) (hS:p.ss.length≤100) (hN:(ofV l p).length≤1000000) {r:Bool} (hr:(!clashN (ofV l p))=r):
 Calls Tryz.prog 19 #[l.val,p.val] w fun e w'=>e= .returned (.bool r)∧Below w.heap.size w w':=by
 obtain⟨W2,hW2⟩:∃W2,(w.alloc (.cells #[.slice l.As l.secs.length l.cs,.slice l.Ag l.sigs.length l.cg,.slice l.Ae l.exits.length l.ce,.slice l.Af l.flanks.length l.cf,.int .i64 l.t0,.int .i64 l.t1,.int .i64 l.t2,.int .i64 l.t3,.int .i64 l.t4,.int .i64 l.t5,.int .i64 l.t6] 29)).alloc (.cells #[.int .i64 p.s,.int .i64 p.x,.slice p.A p.ss.length p.c] 46)=W2:=⟨_,rfl⟩
 have HS2:Hid (Below w.heap.size w W2∧Whole W2 w.heap.size 29 l.cells∧Whole W2 (w.heap.size+1) 46 p.cells):=Zz (by
  rw[←hW2];exact⟨below2 w _ _,(Whole.new w _ l.cells).alloc _,Whole.Zj _ _ p.cells _ (by simp)⟩)
 have KO:=Zz (of13R_any (w:=W2) (Lies.closed l _ _ hL HS2.out.1) (PLies.closed p _ _ hp HS2.out.1) hO hF hS (ns:=ofV l p) rfl)
 rw[←hW2] at HS2
 obtain⟨x0,x1,x2,x3,x4,x5,x6,x7,x8,x9,x10⟩:=(HS2.out.2.1).c11
 obtain⟨y0,y1,y2⟩:=(HS2.out.2.2).c3
 rw[hW2] at HS2
 have HW2:=Zz hW2
 obtain⟨c,hc⟩:∃c,clashN (ofV l p)=c:=⟨_,rfl⟩
 rw[hc] at hr
 have HRR:=Zz hr
 obtain⟨ns,hns⟩:∃ns,ofV l p=ns:=⟨_,rfl⟩
 rw[hns] at KO hc hN
 have HC:=Zz hc
 have HN:=Zz hN
 clear hr hW2 hL hp hO hF hS hN hc hns
 go_enter Tryz.func19,Tryz.ntmps19
 go_wp2_with fail
 try rw[HW2.out]
 refine KO.out.mono ?_
 clear KO x0 x1 x2 x3 x4 x5 x6 x7 x8 x9 x10 y0 y1 y2
 rintro e w3 ⟨v,rfl,hown,hB3⟩
 obtain⟨A,cA,rfl,hrow⟩:=owns_read hown
 have K:=Zz (clashR_any (us:=ns) (vs:=[]) cA 0 (Bv:=none) hrow (Row.nil _ _ _) HN.out (by simp) (r:=c) (by rw[List.append_nil];exact HC.out))
 have HB3:=Zz (HS2.out.1.trans (hB3.mono HS2.out.1.size))
 clear hown hrow hB3
 go_wp2_with fail
 refine K.out.mono ?_
 clear K
 rintro e w4 ⟨rfl,hB4⟩
 have HB4:=Zz (HB3.out.trans (hB4.mono HB3.out.size))
 clear hB4
 go_wp2_with fail
 go_ret
 exact⟨Zc HRR.out,HB4.out⟩
end
section
open Go.RowKit Go.Shelf
attribute [local go_sem] Oper.semAt_some
theorem serve_of {l:Lay} {p:Pth} {vs:List Int} (h1:(check11 l p vs==0)=true) (h2:(!clashN (ofV l p))=true):serveV l p.s p.x vs p.ss=true:=by
 rw[serve_iff];have h3:check11 l p vs=0:=by simpa using h1
 have h4:clashN (ofV l p)=false:=by simpa using h2
 exact⟨h3,h4⟩
end
end Go.Proofs.YtifnlhfinjfajaaGreatDoor
