/- Of this seat: JoinC_1, LayOneM_2, PortS_1, SeaQ_4, RouC_1, ShL_1, ShN. -/
import Derived.Test.YtifnlhfinjfajaaGreatDoorK35
namespace Go.Proofs.YtifnlhfinjfajaaGreatDoor
set_option linter.unusedVariables false
set_option linter.unusedSimpArgs false
set_option maxRecDepth 100000
set_option maxHeartbeats 32000000
section
open Go.RowKit Go.Shelf
theorem ownsS_keep {w w':World} {base e n k:Nat} {v:Value} {xs:List Value} (h:w.ownsRow base e k v n xs) (hb:Below w.heap.size w w'):w'.ownsRow base e k v n xs:=by
 refine⟨h.1,?_⟩;rcases h.2 with h2|⟨g',cap',cur,hv,h3,h4,r⟩
 · exact .inl h2
 · exact .inr ⟨g',cap',cur,hv,h3,(hb.block g' (Array.getElem?_eq_some_iff.1 h4).1).trans h4,r⟩
theorem steps_cells {q:Int×Int} {os:List Int} {j:Nat} {o:Int} (h:os[j]? =some o):((os.take (j+1)).map (onward q)).flatMap Ze=((os.take j).map (onward q)).flatMap Ze++Ze (onward q o):=by
 rw[List.take_add_one,h,List.map_append,List.flatMap_append];simp
section
variable {P:World→Prop} {w:World}
end
end
section
open Go.RowKit Go.Shelf
theorem owns_box {W:World} {base e size n:Nat} {v:Value} {xs:List Value} (h:W.ownsRow base e size v n xs) {gm t:Nat} {cs:List Value} (hm:Whole W gm t cs) (he:e≠t):v.ownBlock=none∨v.ownBlock≠some gm:=by
 rcases h.2 with ⟨rfl,_⟩|⟨g,cap,cur,rfl,h3,h4,_⟩
 · exact .inl rfl
 · refine .inr (fun e=>?_);have :g=gm:=by simpa [Value.ownBlock] using e
   subst this;rw[show W.heap[g]? =_ from hm] at h4;cases h4;exact he rfl
end
section
open Go.RowKit Go.Shelf
section
variable {P:World→Prop} {w:World} {k p n a b c d:Int}
end
theorem outsTo_4 {k p n a b c d:Int} (i:Int) (hk:IsShape k p n a b c d):outsTo n a b c d i 4=outsTo n a b c d i p.toNat:=by
 unfold IsShape at hk;rcases hk with ⟨_,rfl,rfl,rfl,rfl,rfl,rfl⟩|⟨_,rfl,rfl,rfl,rfl,rfl,rfl⟩|⟨_,rfl,rfl,rfl,rfl,rfl,rfl⟩|⟨_,rfl,rfl,rfl,rfl,rfl,rfl⟩;all_goals
  simp[outsTo,goesV,joinV]
theorem outsR_P {P:World→Prop} {w:World} {k p n a b c d:Int} (hP:Closed P) (i:Int) {l:List Int} (hs:IsShape k p n a b c d) (hl:outsTo n a b c d i p.toNat=l) (h:P w):
 Calls Tryz.prog 142 #[.int .u8 k,.int .i64 i] w fun e w'=>∃A cap,e= .returned (.slice A l.length cap)∧l.length≤cap∧Row w' w'.heap.size A (nums .i64 l)∧P w':=by
 subst hl
 rw[←outsTo_4 i hs]
 have HWy:=Zz (fun(o:Int) (wx:World)=>wayR_P (P:=fun w'=>w'=wx) (w:=wx) (v:=wayV n a b c d i o) (r:=goesV n a b c d i o) i o hs rfl rfl rfl)
 clear hs
 go_enter Tryz.func142,Tryz.ntmps142
 go_wp2_with fail
 go_loopw [5,6] (fun v i' wr=>∃j:Nat,j≤4∧i'= .int .i64 j∧wr.ownsRow w.heap.size 3 1 v (outsTo n a b c d i j).length (nums .i64 (outsTo n a b c d i j))∧Below w.heap.size w wr)
  (fun _ i' _=>4 - (intOf i').toNat)
 case atStart=>exact⟨0,by omega,rfl,World.ownsRow_nil _ _ _ _,Below.refl _ _⟩
 case round=>
  obtain⟨j,hj,rfl,hown,hB⟩:=hrel;by_cases hlt:j<4
  · have hlt':(j:Int)<4:=by omega
    go_wp2_with fail;refine(HWy.out (j:Int) _).mono ?_;have hle:=outsTo_le n a b c d i j;generalize wayV n a b c d i j=wv;cases hg:goesV n a b c d i j
    · have HG:Hid (outsTo n a b c d i (j+1)=outsTo n a b c d i j):=Zz (by rw[outsTo,hg];simp);clear hg;rintro e w2 ⟨rfl,rfl⟩;go_wp2_with fail;go_roundw
      case rel=>exact⟨j+1,hlt,by go_num,by rw[HG.out];exact hown,hB⟩
      case measure=>simp[intOf];omega
    · have HG:Hid (outsTo n a b c d i (j+1)=outsTo n a b c d i j++[(j:Int)]):=Zz (by rw[outsTo,hg];simp);clear hg;rintro e w2 ⟨rfl,rfl⟩;have hsw:=hB.size;obtain⟨v',w3,hrun,hown',hgr,hB3⟩:=append_int w.heap.size _ _ _ (j:Int) (w2.alloc (.cells #[.int .i64 j] 3)) w2.heap.size (ownsV_keep hown (below1 _ _)) ((Whole.new w2 _ [_]).Za 0 rfl) (by omega) (by simp;omega);have HO:=Zz hown';clear hown' hown;go_wp2_with (at_builtin;refine Zo rfl (.tmp 21) (.tmp 23) 30 rfl hrun ?_);have hB4:=hB.trans (((below1 w2 _).mono (by omega)).trans hB3);go_roundw
      case rel=>exact⟨j+1,hlt,by go_num,by rw[HG.out,List.length_append];simpa [nums] using HO.out,hB4⟩
      case measure=>simp[intOf];omega
  · obtain rfl:j=4:=by omega
    obtain⟨A,cap,rfl,hr,hc⟩:=owns_slice hown;have hc':(outsTo n a b c d i 4).length≤cap:=hc;clear hown hc;go_wp2_with fail;go_ret;exact⟨A,cap,rfl,hc',hr,hP _ _ h hB⟩
def longerV (l:Lay) (u:List Stp) (q:Int×Int):List (List Stp):=if u.length<12 then (moreV l u q).map (fun x=>u++[x]) else []
def extV (l:Lay) (q:Int×Int) (w:List Stp):List (List Stp):=longerV l w (endL l q w)
theorem mem_longer {l:Lay} {u:List Stp} {q:Int×Int} {w:List Stp}:w ∈ longerV l u q↔∃x,w=u++[x]∧u.length<12∧(x.1,x.2.1)=q∧stepV l x.1 x.2.1 x.2.2=true∧usedS u x.1=false:=by
 unfold longerV;split
 · rename_i h
   rw[List.mem_map];constructor
   · rintro⟨x,hx,rfl⟩;exact⟨x,rfl,h,mem_more.1 hx⟩
   · rintro⟨x,rfl,_,hx⟩;exact⟨x,mem_more.2 hx,rfl⟩
 · rename_i h
   constructor
   · intro hh;cases hh
   · rintro⟨x,_,h2,_⟩;exact absurd h2 h
theorem longer_nodup (l:Lay) (u:List Stp) (q:Int×Int):(longerV l u q).Nodup:=by
 unfold longerV;split
 · rw[List.Nodup,List.pairwise_map];refine(more_nodup l u q).imp fun h e=>h ?_;have :=List.append_cancel_left e;injection this
 · exact List.nodup_nil
theorem walks_snoc {l:Lay} {q:Int×Int} {u:List Stp} {x:Stp}:u++[x] ∈ walksV l q↔(u=[]∨u ∈ walksV l q)∧u++[x] ∈ extV l q u:=by
 rw[mem_walks,extV,mem_longer,once_snoc,goes_snoc];constructor
 · rintro⟨_,h2,⟨h3,h4,h5⟩,h6,h7⟩;rw[List.length_append,List.length_singleton] at h2;refine⟨?_,x,rfl,by omega,h4,h5,h7⟩;by_cases e:u=[]
   · exact .inl e
   · exact .inr (mem_walks.2 ⟨e,by omega,h3,h6⟩)
 · rintro⟨h1,y,e,h2,h3,h4,h5⟩;have :=List.append_cancel_left e;simp only[List.cons.injEq,and_true] at this;subst this;have hu:goesL l q u=true∧Once u:=by
    rcases h1 with rfl|h1
    · exact⟨rfl,fun i j a b _ hi _=>by simp at hi⟩
    · have :=mem_walks.1 h1;exact⟨this.2.2.1,this.2.2.2⟩
   exact⟨by simp,by simp;omega,⟨hu.1,h3,h4⟩,hu.2,h5⟩
structure Bfs (l:Lay) (q:Int×Int) (i:Nat) (ws:List (List Stp)):Prop where
 nodup:ws.Nodup
 walk:∀w ∈ ws,w ∈ walksV l q
 first:∀w ∈ longerV l [] q,w ∈ ws
 next:∀j,j<i→∀w,ws[j]? =some w→∀x ∈ extV l q w,x ∈ ws
 back:∀w ∈ ws,w.length=1∨∃j,j<i∧ws[j]? =some w.dropLast
theorem longer_len {l:Lay} {u:List Stp} {q:Int×Int} {w:List Stp} (h:w ∈ longerV l u q):w.length=u.length+1∧w.dropLast=u:=by
 obtain⟨x,rfl,_⟩:=mem_longer.1 h;simp
theorem bfs_zero (l:Lay) (q:Int×Int):Bfs l q 0 (longerV l [] q):=by
 refine⟨longer_nodup l [] q,fun w hw=>?_,fun w h=>h,fun j hj=>by omega,fun w hw=>.inl (longer_len hw).1⟩;obtain⟨x,rfl,_⟩:=mem_longer.1 hw;exact walks_snoc.2 ⟨.inl rfl,hw⟩
theorem bfs_step {l:Lay} {q:Int×Int} {i:Nat} {ws:List (List Stp)} (h:Bfs l q i ws) {w:List Stp} (hw:ws[i]? =some w):Bfs l q (i+1) (ws++extV l q w):=by
 have hil:=(List.getElem?_eq_some_iff.1 hw).1;have hmw:=List.mem_of_getElem? hw;have hwl:=(mem_walks.1 (h.walk w hmw)).1;have hwp:0<w.length:=List.length_pos_iff.2 hwl;have hL:∀j,j<ws.length→(ws++extV l q w)[j]? =ws[j]? :=fun j hj=>List.getElem?_append_left hj;refine⟨?_,fun v hv=>?_,fun v hv=>List.mem_append_left _ (h.first v hv),fun j hj v hv x hx=>?_,fun v hv=>?_⟩
 · rw[List.nodup_append];refine⟨h.nodup,longer_nodup _ _ _,fun a ha b hb e=>?_⟩;subst e;obtain⟨h1,h2⟩:=longer_len hb;rcases h.back a ha with h3|⟨j,hj,h3⟩
   · omega
   · rw[h2] at h3;have hjl:=(List.getElem?_eq_some_iff.1 h3).1;have :=(List.getElem_inj (h₀:=hjl) (h₁:=hil) h.nodup).1 (by rw[(List.getElem?_eq_some_iff.1 h3).2,(List.getElem?_eq_some_iff.1 hw).2]);omega
 · rcases List.mem_append.1 hv with hv|hv
   · exact h.walk v hv
   · obtain⟨x,rfl,_⟩:=mem_longer.1 hv;exact walks_snoc.2 ⟨.inr (h.walk w hmw),hv⟩
 · by_cases hji:j<i
   · rw[hL j (by omega)] at hv;exact List.mem_append_left _ (h.next j hji v hv x hx)
   · obtain rfl:j=i:=by omega
     rw[hL j hil,hw] at hv;injection hv with hv
     subst hv;exact List.mem_append_right _ hx
 · rcases List.mem_append.1 hv with hv|hv
   · rcases h.back v hv with h1|⟨j,hj,h1⟩
     · exact .inl h1
     · exact .inr ⟨j,by omega,by rw[hL j (by omega)];exact h1⟩
   · exact .inr ⟨i,by omega,by rw[hL i hil,(longer_len hv).2];exact hw⟩
theorem bfs_len {l:Lay} {q:Int×Int} {i:Nat} {ws:List (List Stp)} (h:Bfs l q i ws):ws.length≤(walksV l q).length:=
 List.Nodup.length_le_of_subset h.nodup (fun w hw=>h.walk w hw)
theorem bfs_all {l:Lay} {q:Int×Int} {ws:List (List Stp)} (h:Bfs l q ws.length ws):∀w,w ∈ ws↔w ∈ walksV l q:=by
 have key:∀n (w:List Stp),w.length=n→w ∈ walksV l q→w ∈ ws:=by
  intro n;induction n with
  |zero=>intro w hn hw;exact absurd (List.eq_nil_of_length_eq_zero hn) (mem_walks.1 hw).1
  |succ n ih=>
   intro w hn hw;obtain⟨u,x,rfl⟩:∃u x,w=u++[x]:=⟨w.dropLast,w.getLast (by intro e;rw[e] at hn;simp at hn),(List.dropLast_concat_getLast _).symm⟩;obtain⟨h1,h2⟩:=walks_snoc.1 hw;rcases h1 with rfl|h1
   · exact h.first _ h2
   · have hu:=ih u (by simp at hn;omega) h1;obtain⟨j,hj⟩:=List.getElem?_of_mem hu;exact h.next j (List.getElem?_eq_some_iff.1 hj).1 u hj _ h2
 exact fun w=>⟨h.walk w,fun hw=>key _ w rfl hw⟩
def fromA (A:Option Addr) (c a:Nat):Option Addr:=if c=a then A else A.map (·.add (a*3))
section
variable {P:World→Prop} {w:World}
end
theorem ownR12_any {p:Pth} {w:World} (hp:PLies p w) (hl:p.ss.length≤1000):Calls Tryz.prog 50 #[p.val] w fun e w'=>∃A c,e= .returned (Pth.val ⟨p.s,p.x,A,c,p.ss⟩)∧w'.ownsRow (w.heap.size+2) 66 3 (.slice A p.ss.length c) p.ss.length (p.ss.flatMap Ze)∧Below w.heap.size w w':=by
 obtain⟨W0,hW0⟩:∃W0,(w.alloc (.cells #[.int .i64 p.s,.int .i64 p.x,.slice p.A p.ss.length p.c] 46)).alloc (.cells #[.int .i64 0,.int .i64 0,.slice none 0 0] 46)=W0:=⟨_,rfl⟩;have hB0:Below w.heap.size w W0:=by rw[←hW0];exact below2 w _ _
 have hs0:W0.heap.size=w.heap.size+2:=by rw[←hW0];simp
 have hb0:Whole W0 w.heap.size 46 p.cells:=by rw[←hW0];exact(Whole.new w _ p.cells).alloc _
 have hb1:Whole W0 (w.heap.size+1) 46 [.int .i64 0,.int .i64 0,.slice none 0 0]:=by rw[←hW0];exact Whole.Zj _ _ [_,_,_] _ (by simp)
 obtain⟨A,c,w1,hrun,hown,hB1⟩:=appendN (P:=Tryz.prog) (f:=Ze) (size:=3) (fun _=>rfl) oneStep 44 66 (.agg #[.int .i64 0,.int .i64 0,.int .i64 0]) 24 Tryz.underlying44 infoStep rfl (by omega) (by omega) p.ss p.A p.c W0 (hp.row.on hB0) hl;have y2:=(hb0.alloc (.cells #[] 66)).Za 2 rfl;have c0:=hb0.below hB1 hb0.lt;have c1:=hb1.below hB1 hb1.lt;have f2:=c0.frozen 2;have x2:=c0.Za 2 rfl;obtain⟨v,hv⟩:∃v,Value.slice A p.ss.length c=v:=⟨_,rfl⟩;rw[hv] at hrun hown;have c0':=c0.set 2 v;have c1':=c1.far (p:=⟨w.heap.size,2,none⟩) (by show w.heap.size+1≠w.heap.size;omega) v;have y0:=c0'.Za 0 rfl;have y1:=c0'.Za 1 rfl;have y2':=c0'.Za 2 rfl;have g0:=c1'.frozen 0;have g1:=c1'.frozen 1;have g2:=c1'.frozen 2;have z0:=c1'.Za 0 rfl;have z1:=c1'.Za 1 rfl;have z2:=c1'.Za 2 rfl;have HD:=Zz (((c1'.set 0 (.int .i64 p.s)).set 1 (.int .i64 p.x)).set 2 v);have HBB:=Zz (((((hB0.trans (hB1.mono hB0.size)).setCell (p:=⟨w.heap.size,2,none⟩) (Nat.le_refl _) v).setCell (p:=⟨w.heap.size+1,0,none⟩) (by show w.heap.size≤w.heap.size+1;omega) (.int .i64 p.s)).setCell (p:=⟨w.heap.size+1,1,none⟩) (by show w.heap.size≤w.heap.size+1;omega) (.int .i64 p.x)).setCell (p:=⟨w.heap.size+1,2,none⟩) (by show w.heap.size≤w.heap.size+1;omega) v);have hb:∀i j:Nat,v.ownBlock≠some (Addr.mk (w.heap.size+i) j none).block∨2≤i:=fun i j=>by
  by_cases hi:2≤i
  · exact .inr hi
  · refine .inl fun e=>?_;have h1:=(hown.lt _ e).1;have h2:(Addr.mk (w.heap.size+i) j none).block=w.heap.size+i:=rfl;omega
 have HO:=Zz (owns_past (owns_past (owns_past (owns_past hown (p:=⟨w.heap.size,2,none⟩) ((hb 0 2).resolve_right (by omega)) v) (p:=⟨w.heap.size+1,0,none⟩) ((hb 1 0).resolve_right (by omega)) (.int .i64 p.s)) (p:=⟨w.heap.size+1,1,none⟩) ((hb 1 1).resolve_right (by omega)) (.int .i64 p.x)) (p:=⟨w.heap.size+1,2,none⟩) ((hb 1 2).resolve_right (by omega)) v);have HW0:=Zz hW0;have HS0:=Zz hs0;have HV:=Zz hv;have hsl:∃A c,v= .slice A p.ss.length c:=⟨A,c,hv.symm⟩;clear hW0 hs0 hB0 hb0 hb1 hp hl c0 c1 c0' c1' hown hB1 hb hv;go_enter Tryz.func50,Tryz.ntmps50;go_upto_region 1 with (fail)
 rw[HW0.out];obtain⟨A2,c2,rfl⟩:=hsl;go_wp2_with (at_builtin;refine Zo rfl (.tmp 3) (.tmp 5) 44 rfl hrun ?_);have e0:=HD.out.Za 0 rfl;have e1:=HD.out.Za 1 rfl;have e2:=HD.out.Za 2 rfl;refine bodyPost_ret (v:=Pth.val ⟨p.s,p.x,A2,c2,p.ss⟩) ?_ rfl ⟨A2,c2,rfl,?_,HBB.out⟩
 · simp[results,Tryz.f50,go_sem,e0,e1,e2]
 · rw[←HS0.out];exact HO.out
theorem ownR11s_any {p:Pth} {w:World} (hp:PLies p w) (hl:p.ss.length≤1000):Calls Tryz.prog 84 #[p.val] w fun e w'=>∃A c,e= .returned (Pth.val ⟨p.s,p.x,A,c,p.ss⟩)∧w'.ownsRow (w.heap.size+2) 66 3 (.slice A p.ss.length c) p.ss.length (p.ss.flatMap Ze)∧Below w.heap.size w w':=by
 obtain⟨W0,hW0⟩:∃W0,(w.alloc (.cells #[.int .i64 p.s,.int .i64 p.x,.slice p.A p.ss.length p.c] 46)).alloc (.cells #[.int .i64 0,.int .i64 0,.slice none 0 0] 46)=W0:=⟨_,rfl⟩;have hB0:Below w.heap.size w W0:=by rw[←hW0];exact below2 w _ _
 have hs0:W0.heap.size=w.heap.size+2:=by rw[←hW0];simp
 have hb0:Whole W0 w.heap.size 46 p.cells:=by rw[←hW0];exact(Whole.new w _ p.cells).alloc _
 have hb1:Whole W0 (w.heap.size+1) 46 [.int .i64 0,.int .i64 0,.slice none 0 0]:=by rw[←hW0];exact Whole.Zj _ _ [_,_,_] _ (by simp)
 obtain⟨A,c,w1,hrun,hown,hB1⟩:=appendN (P:=Tryz.prog) (f:=Ze) (size:=3) (fun _=>rfl) oneStep 44 66 (.agg #[.int .i64 0,.int .i64 0,.int .i64 0]) 24 Tryz.underlying44 infoStep rfl (by omega) (by omega) p.ss p.A p.c W0 (hp.row.on hB0) hl;have y2:=(hb0.alloc (.cells #[] 66)).Za 2 rfl;have c0:=hb0.below hB1 hb0.lt;have c1:=hb1.below hB1 hb1.lt;have f2:=c0.frozen 2;have x2:=c0.Za 2 rfl;obtain⟨v,hv⟩:∃v,Value.slice A p.ss.length c=v:=⟨_,rfl⟩;rw[hv] at hrun hown;have c0':=c0.set 2 v;have c1':=c1.far (p:=⟨w.heap.size,2,none⟩) (by show w.heap.size+1≠w.heap.size;omega) v;have y0:=c0'.Za 0 rfl;have y1:=c0'.Za 1 rfl;have y2':=c0'.Za 2 rfl;have g0:=c1'.frozen 0;have g1:=c1'.frozen 1;have g2:=c1'.frozen 2;have z0:=c1'.Za 0 rfl;have z1:=c1'.Za 1 rfl;have z2:=c1'.Za 2 rfl;have HD:=Zz (((c1'.set 0 (.int .i64 p.s)).set 1 (.int .i64 p.x)).set 2 v);have HBB:=Zz (((((hB0.trans (hB1.mono hB0.size)).setCell (p:=⟨w.heap.size,2,none⟩) (Nat.le_refl _) v).setCell (p:=⟨w.heap.size+1,0,none⟩) (by show w.heap.size≤w.heap.size+1;omega) (.int .i64 p.s)).setCell (p:=⟨w.heap.size+1,1,none⟩) (by show w.heap.size≤w.heap.size+1;omega) (.int .i64 p.x)).setCell (p:=⟨w.heap.size+1,2,none⟩) (by show w.heap.size≤w.heap.size+1;omega) v);have hb:∀i j:Nat,v.ownBlock≠some (Addr.mk (w.heap.size+i) j none).block∨2≤i:=fun i j=>by
  by_cases hi:2≤i
  · exact .inr hi
  · refine .inl fun e=>?_;have h1:=(hown.lt _ e).1;have h2:(Addr.mk (w.heap.size+i) j none).block=w.heap.size+i:=rfl;omega
 have HO:=Zz (owns_past (owns_past (owns_past (owns_past hown (p:=⟨w.heap.size,2,none⟩) ((hb 0 2).resolve_right (by omega)) v) (p:=⟨w.heap.size+1,0,none⟩) ((hb 1 0).resolve_right (by omega)) (.int .i64 p.s)) (p:=⟨w.heap.size+1,1,none⟩) ((hb 1 1).resolve_right (by omega)) (.int .i64 p.x)) (p:=⟨w.heap.size+1,2,none⟩) ((hb 1 2).resolve_right (by omega)) v);have HW0:=Zz hW0;have HS0:=Zz hs0;have HV:=Zz hv;have hsl:∃A c,v= .slice A p.ss.length c:=⟨A,c,hv.symm⟩;clear hW0 hs0 hB0 hb0 hb1 hp hl c0 c1 c0' c1' hown hB1 hb hv;go_enter Tryz.func84,Tryz.ntmps84;go_upto_region 1 with (fail)
 rw[HW0.out];obtain⟨A2,c2,rfl⟩:=hsl;go_wp2_with (at_builtin;refine Zo rfl (.tmp 3) (.tmp 5) 44 rfl hrun ?_);have e0:=HD.out.Za 0 rfl;have e1:=HD.out.Za 1 rfl;have e2:=HD.out.Za 2 rfl;refine bodyPost_ret (v:=Pth.val ⟨p.s,p.x,A2,c2,p.ss⟩) ?_ rfl ⟨A2,c2,rfl,?_,HBB.out⟩
 · simp[results,Tryz.f84,go_sem,e0,e1,e2]
 · rw[←HS0.out];exact HO.out
end
section
open Go.RowKit Go.Shelf
attribute [local go_sem] Oper.semAt_some
theorem und_paths12:Tryz.prog.underlying 33=some (.slice (Tryz.prog.elem 33)):=by kernel_rfl
theorem size_paths12 (W:World):(sizeOf (Tryz.prog.elem 33)).run Tryz.prog W= .ok 3 W:=by kernel_rfl
theorem slice_toN (A:Option Addr) (n c a:Nat) (ha:a≤c) (W:World):(Instr.sliceAt 33 (.slice A n c) none (some (.int .i64 (a:Int))) none).run Tryz.prog W= .ok (.slice A a c) W:=by
 have h:(Instr.sliceAt 33 (.slice A n c) none (some (.int .i64 (a:Int))) none).run Tryz.prog W= .ok (sliced A 0 a c 3) W:=by
  have h1:(a:Int)≤(c:Int):=by omega
  have h2:(0:Int)≤(a:Int):=by omega
  rw[run_sliceAt_slice (h:=und_paths12),run_slice_h (ht:=und_paths12) (h0:=h2) (h2:=h1),size_paths12];rfl
 rw[h];cases A <;> simp[sliced,Addr.add]
theorem slice_fromN (A:Option Addr) (n c a:Nat) (ha:a≤n) (W:World):(Instr.sliceAt 33 (.slice A n c) (some (.int .i64 (a:Int))) none none).run Tryz.prog W= .ok (.slice (fromA A c a) (n - a) (c - a)) W:=by
 have h1:(a:Int)≤(n:Int):=by omega
 have h2:(0:Int)≤(a:Int):=by omega
 rw[run_sliceAt_slice (h:=und_paths12),run_slice_l (ht:=und_paths12) (h0:=h2) (h1:=h1),size_paths12];rfl
theorem row_toN {w:World} {Bd:Nat} {A:Option Addr} {ss:List Pth} (h:Row w Bd A (ss.flatMap Pth.cells)) (a:Nat):Row w Bd A ((ss.take a).flatMap Pth.cells):=by
 intro hp;have e:ss.flatMap Pth.cells=(ss.take a).flatMap Pth.cells++(ss.drop a).flatMap Pth.cells:=by rw[←List.flatMap_append,List.take_append_drop]
 rw[e] at h;obtain⟨b,off,e1,hb,hc⟩:=h (by rw[List.length_append];omega);exact⟨b,off,e1,hb,fun j u hu=>hc j u (by rw[List.getElem?_append_left (List.getElem?_eq_some_iff.1 hu).1];exact hu)⟩
theorem row_fromN {w:World} {Bd:Nat} {A:Option Addr} {ss:List Pth} (h:Row w Bd A (ss.flatMap Pth.cells)) {a c:Nat} (ha:a≤ss.length) (hcap:ss.length≤c):Row w Bd (fromA A c a) ((ss.drop a).flatMap Pth.cells):=by
 intro hp;have e:ss.flatMap Pth.cells=(ss.take a).flatMap Pth.cells++(ss.drop a).flatMap Pth.cells:=by rw[←List.flatMap_append,List.take_append_drop]
 have hl:((ss.take a).flatMap Pth.cells).length=a*3:=by rw[flat_length (n:=3) (fun _=>rfl),List.length_take,Nat.min_eq_left ha]
 have hdl:((ss.drop a).flatMap Pth.cells).length=(ss.length - a)*3:=by rw[flat_length (n:=3) (fun _=>rfl),List.length_drop]
 have hac:¬c=a:=by intro e2;rw[hdl] at hp;omega
 rw[e] at h;obtain⟨b,off,rfl,hb,hc⟩:=h (by rw[List.length_append];omega);have hfa:fromA (some ⟨b,off,none⟩) c a=some ⟨b,off+a*3,none⟩:=by
  unfold fromA;rw[if_neg hac];cases a with
  |zero=>simp[Addr.add]
  |succ a=>simp[Addr.add]
 refine⟨b,off+a*3,hfa,hb,fun j u hu=>?_⟩;have :=hc (a*3+j) u (by rw[List.getElem?_append_right (by omega),hl,Nat.add_sub_cancel_left];exact hu);rwa [←Nat.add_assoc] at this
theorem leR_of_less {l:Lay} {u v:List Stp} (h:cmpR (rowV l u) (rowV l v)<0):leR l u v=true:=by unfold leR;rw[decide_eq_true_iff];omega
theorem leR_of_not {l:Lay} {u v:List Stp} (h:¬cmpR (rowV l u) (rowV l v)<0):leR l v u=true:=by
 unfold leR;rw[decide_eq_true_iff,cmpR_neg];omega
theorem insert_sorted {l:Lay} {us:List (List Stp)} {u:List Stp} {k:Nat} (hk:k≤us.length) (h:us.Pairwise (fun a b=>leR l a b=true)) (h1:∀m b,k≤m→us[m]? =some b→leR l u b=true) (h2:∀m b,k=m+1→us[m]? =some b→leR l b u=true):(us.take k++[u]++us.drop k).Pairwise (fun a b=>leR l a b=true):=by
 have ht:(us.take k).Pairwise (fun a b=>leR l a b=true):=h.sublist (List.take_sublist _ _);have hd:(us.drop k).Pairwise (fun a b=>leR l a b=true):=h.sublist (List.drop_sublist _ _);have hx:∀a ∈ us.take k,∀b ∈ us.drop k,leR l a b=true:=by
  rw[←List.take_append_drop k us,List.pairwise_append] at h;exact h.2.2
 have hu:∀b ∈ us.drop k,leR l u b=true:=fun b hb=>by
  obtain⟨m,hm⟩:=List.mem_iff_getElem?.1 hb;rw[List.getElem?_drop] at hm;exact h1 (k+m) b (by omega) hm
 have hl:∀a ∈ us.take k,leR l a u=true:=fun a ha=>by
  obtain⟨m,hm⟩:=List.mem_iff_getElem?.1 ha;rw[List.getElem?_take] at hm;by_cases hmk:m<k
  · rw[if_pos hmk] at hm;obtain⟨j,rfl⟩:∃j,k=j+1:=⟨k - 1,by omega⟩;have hj:j<us.length:=by omega
    obtain⟨b,hb⟩:∃b,us[j]? =some b:=⟨_,List.getElem?_eq_getElem hj⟩;have h3:=h2 j b rfl hb;by_cases hmj:m=j
    · subst hmj;rw[hm] at hb;cases hb;exact h3
    · have h4:=List.pairwise_iff_getElem.1 h m j (by omega) hj (by omega);rw[(List.getElem?_eq_some_iff.1 hm).2,(List.getElem?_eq_some_iff.1 hb).2] at h4;exact leR_trans l a b u h4 h3
  · rw[if_neg hmk] at hm;cases hm
 rw[List.append_assoc,List.pairwise_append];refine⟨ht,?_,fun a ha b hb=>?_⟩
 · rw[List.singleton_append,List.pairwise_cons];exact⟨hu,hd⟩
 · rcases List.mem_append.1 hb with hb|hb
   · rw[List.mem_singleton.1 hb];exact hl a ha
   · exact hx a ha b hb
theorem and_moreS {Q R:World→Prop} (hQ:Hid (Closed Q)) (hR:Closed R) {w:World} (h:Q w) (r:R w):∃Q':World→Prop,Hid (Closed Q')∧Hid (∀W,Q' W→Q W)∧Hid (∀W,Q' W→R W)∧Q' w:=
 ⟨fun W=>Q W∧R W,Zz (hQ.out.and hR),Zz fun _ h=>h.1,Zz fun _ h=>h.2,h,r⟩
theorem owns_apartN {W W':World} {b:Option Nat} (hg:W.grownBy W' b) {base e k n:Nat} {v:Value} {xs:List Value} (hown:W.ownsRow base e k v n xs) (hne:∀g,v.ownBlock=some g→b≠some g):W'.ownsRow base e k v n xs:=
 owns_keeps (S:=fun g=>g<W.heap.size∧b≠some g) (fun g o hk ho=>(hg.block g hk.1 (fun e=>hk.2 (by first|exact e|exact e.symm))).trans ho) hown (fun g hv=>⟨(hown.lt g hv).2,hne g hv⟩)
structure SrtI12 (base:Nat) (l:Lay) (ps:List Pth) (j:Nat) (qs:List Pth) (A:Option Addr) (c:Nat) (W:World):Prop where
 own:PsOwn base qs A c W
 cap:qs.length≤c
 perm:(qs.map pk).Perm ((ps.take j).map pk)
 sorted:(qs.map Pth.ss).Pairwise (fun a b=>leR l a b=true)
theorem SrtI12.lies {base:Nat} {l:Lay} {ps:List Pth} {j:Nat} {qs:List Pth} {A:Option Addr} {c:Nat} {W:World} (h:SrtI12 base l ps j qs A c W):Zr qs A W:=h.own.lies
theorem SrtI12.len {base:Nat} {l:Lay} {ps:List Pth} {j:Nat} {qs:List Pth} {A:Option Addr} {c:Nat} {W:World} (h:SrtI12 base l ps j qs A c W) (hj:j≤ps.length):qs.length=j:=by
 have :=h.perm.length_eq;rw[List.length_map,List.length_map,List.length_take] at this;omega
theorem SrtI12.short {base:Nat} {l:Lay} {ps:List Pth} {j:Nat} {qs:List Pth} {A:Option Addr} {c:Nat} {W:World} (h:SrtI12 base l ps j qs A c W) {n:Nat} (hs:∀p ∈ ps,p.ss.length≤n):∀q ∈ qs,q.ss.length≤n:=fun q hq=>by
 obtain⟨p,hp,e⟩:=List.mem_map.1 (h.perm.mem_iff.1 (List.mem_map.2 ⟨q,hq,rfl⟩));have h1:=congrArg (fun z=>z.2.2) e;have h2:p.ss=q.ss:=h1;rw[←h2];exact hs p (List.mem_of_mem_take hp)
theorem SrtI12.put {base:Nat} {l:Lay} {ps:List Pth} {j:Nat} {qs:List Pth} {A:Option Addr} {c:Nat} {W:World} (h:SrtI12 base l ps j qs A c W) {p p':Pth} (hp:ps[j]? =some p) (he:pk p'=pk p) {k:Nat} (hk:k≤qs.length) (h1:∀m q,k≤m→qs[m]? =some q→cmpR (rowV l p.ss) (rowV l q.ss)<0) (h2:∀m q,k=m+1→qs[m]? =some q→¬cmpR (rowV l p.ss) (rowV l q.ss)<0)
 {A':Option Addr} {c':Nat} {W':World} (hl:PsOwn base (qs.take k++[p']++qs.drop k) A' c' W') (hc:(qs.take k++[p']++qs.drop k).length≤c'):SrtI12 base l ps (j+1) (qs.take k++[p']++qs.drop k) A' c' W':=by
 have hss:p'.ss=p.ss:=congrArg (fun z=>z.2.2) he
 refine⟨hl,hc,?_,?_⟩
 · rw[List.take_add_one,hp,Option.toList_some,List.map_append,List.map_append,List.map_append,List.append_assoc];refine(List.perm_append_comm_assoc _ _ _).trans ?_;refine(List.perm_append_comm).trans ?_;rw[←List.map_append,List.take_append_drop];refine h.perm.append ?_;simp[he]
 · rw[List.map_append,List.map_append,List.map_take,List.map_drop];show((qs.map Pth.ss).take k++[p'.ss]++(qs.map Pth.ss).drop k).Pairwise _;rw[hss];refine insert_sorted (by rw[List.length_map];exact hk) h.sorted (fun m b hm hb=>?_) (fun m b hm hb=>?_)
   · rw[List.getElem?_map] at hb;cases hq:qs[m]? with
     |none=>rw[hq] at hb;cases hb
     |some q=>rw[hq] at hb;cases hb;exact leR_of_less (h1 m q hm hq)
   · rw[List.getElem?_map] at hb;cases hq:qs[m]? with
     |none=>rw[hq] at hb;cases hb
     |some q=>rw[hq] at hb;cases hb;exact leR_of_not (h2 m q hm hq)
theorem sortR12_any {l:Lay} {ps:List Pth} {A:Option Addr} (c:Nat) {w:World} (hL:Lies l w) (hP:Zr ps A w) (hlen:∀p ∈ ps,p.ss.length≤500) (hn:ps.length≤100000):
 Calls Tryz.prog 32 #[l.val,.slice A ps.length c] w fun e w'=>∃A' c' qs,e= .returned (.slice A' qs.length c')∧PsOwn w.heap.size qs A' c' w'∧(qs.map pk).Perm (ps.map pk)∧(qs.map Pth.ss).Pairwise (fun a b=>leR l a b=true)∧Below w.heap.size w w':=by
 obtain⟨Q,HQ,HQb,HQl,hq⟩:=keep_box (Closed.below w) (Below.refl _ w) 29 l.cells
 have HLW:Hid (∀W,Q W→Lies l W):=Zz fun W hW=>Lies.closed l _ _ hL (HQb.out W hW)
 have HPW:Hid (∀W,Q W→Zr ps A W):=Zz fun W hW=>Zr.closed ps A _ _ hP (HQb.out W hW)
 have HLN:=Zz hlen
 clear hL hP hlen
 go_enter Tryz.func32,Tryz.ntmps32
 go_wp2_with fail
 go_loopw [5,6] (fun v i wr=>∃(j:Nat) (qs:List Pth) (Ao:Option Addr) (co:Nat),j≤ps.length∧v= .slice Ao qs.length co∧i= .int .i64 j∧Q wr∧Hid (SrtI12 w.heap.size l ps j qs Ao co wr)) (fun _ i _=>ps.length - (intOf i).toNat)
 case atStart=>exact⟨0,[],none,0,Nat.zero_le _,rfl,rfl,hq,Zz ⟨PsOwn.nil _ _,Nat.zero_le _,by simp,List.Pairwise.nil⟩⟩
 case round=>
  clear hq;obtain⟨j,qs,Ao,co,hj,rfl,rfl,hq,HS⟩:=hrel;by_cases hlt:j<ps.length
  · have hlt':(j:Int)<ps.length:=by omega
    obtain⟨p,hp⟩:∃q,ps[j]? =some q:=⟨_,List.getElem?_eq_getElem hlt⟩;have HPJ:=Zz hp;clear hp;have hqn:qs.length=j:=HS.out.len hj;have hq0:=hq;clear hq;obtain⟨Q,HQ,HQo,HSI,hq⟩:∃Q':World→Prop,Hid (Closed Q')∧Hid (∀W,Q' W→Q W)∧Hid (∀W,Q' W→SrtI12 w.heap.size l ps j qs Ao co W)∧Q' wr:=
     and_moreS (R:=fun W=>SrtI12 w.heap.size l ps j qs Ao co W) HQ (fun W W' h hb=>⟨PsOwn.closed _ _ _ _ _ _ h.own hb,h.cap,h.perm,h.sorted⟩) hq0 HS.out;replace HQb:=Zz (fun W hW=>HQb.out W (HQo.out W hW));replace HQl:=Zz (fun W hW=>HQl.out W (HQo.out W hW));replace HLW:=Zz (fun W hW=>HLW.out W (HQo.out W hW));replace HPW:=Zz (fun W hW=>HPW.out W (HQo.out W hW));have HQS:Hid (∀q ∈ qs,q.ss.length≤500):=Zz (HS.out.short HLN.out);obtain⟨wa,rfl⟩:∃W,W=wr:=⟨wr,rfl⟩;have hqn':qs.length≤100000:=by omega
    obtain⟨b7,o7,HA7,HE0,HEC⟩:=row_at (f:=Pth.cells) (n:=3) (fun _=>rfl) (by omega) (fun W hW=>(HPW.out W hW).row) hq HPJ.out;have HFP:Hid (∀W,Q W→W.cell? ⟨b7,o7+j*3,none⟩=some (.int .i64 p.s)∧W.cell? ⟨b7,o7+j*3+1,none⟩=some (.int .i64 p.x)∧W.cell? ⟨b7,o7+j*3+2,none⟩=some (.slice p.A p.ss.length p.c)):=Zz fun W hW=>
     ⟨HE0.out W hW _ _ _ HPJ.out rfl,HEC.out W hW _ _ 1 _ HPJ.out rfl,HEC.out W hW _ _ 2 _ HPJ.out rfl⟩;obtain rfl:=HA7.out;clear hq0 HS hqn HA7 HE0 HEC;go_wp2_with fail;go_loopw [7] (fun v7 wr=>∃k:Nat,k≤qs.length∧v7= .int .i64 k∧Q wr∧Hid (∀m q,k≤m→qs[m]? =some q→cmpR (rowV l p.ss) (rowV l q.ss)<0)) (fun v7 _=>(intOf v7).toNat)
    case atStart=>exact⟨qs.length,Nat.le_refl _,rfl,hq,Zz fun m q hm hq=>by have :=(List.getElem?_eq_some_iff.1 hq).1;omega⟩
    case round=>
     clear hq;obtain⟨k,hk,rfl,hq,HK⟩:=hrel;obtain⟨wb,rfl⟩:∃W,W=wr:=⟨wr,rfl⟩;by_cases hk0:k=0
     · have HK2:Hid (∀m q,k=m+1→qs[m]? =some q→0≤cmpR (rowV l p.ss) (rowV l q.ss)):=Zz fun m q hm=>by omega
       have z1:decide ((0:Int)<(k:Int))=false:=decide_eq_false (by omega);have z2:decide (0<k)=false:=decide_eq_false (by omega);have z3:¬0<k:=by omega
       clear hk0;go_wp2_with fail;have HBS:Hid (∀W,Below wb.heap.size wb W→Q W):=Zz (fun W hB=>HQ.out _ _ hq hB);clear hq;refine rmx wb f16 (by kernel_rfl) (by kernel_rfl) ?_;simp only[Zg,f16,Lm,Ln];repeat ((first|(refine Zb (by rfl) ?_)|(refine mrd HBS _ (by rfl) (fun W hW=>by(obtain⟨x0,x1,x2,x3,x4,x5,x6,x7,x8,x9,x10⟩:=(HQl.out W hW).c11;go_simp;first|done|with_reducible rfl)) ?_));simp only[Act.put,La,Lb,Lc])
       refine Zd (fun W hW=>?_);have hq:=HBS.out W hW;have HBW:=Zz hW;clear hW HBS;obtain⟨wb,rfl⟩:∃X,X=W:=⟨W,rfl⟩;clear z1 z2 z3 HBW;have hkq:k≤qs.length:=hk;have hI:=HSI.out _ hq;have HI:=Zz hI;have HQ0:=Zz hq;have hcap:=hI.cap;have hqn:qs.length≤100000:=by have :=hI.len (by omega:j≤ps.length);omega
       have hlk:(qs.take k).length=k:=by rw[List.length_take];omega
       have hld:(qs.drop k).length=qs.length - k:=List.length_drop;have hs1:=slice_toN Ao qs.length co k (by omega) wb;obtain⟨v1,W1,hr1,hO1,hg1,_⟩:=append_paths14 wb.heap.size [] (qs.take k) (.slice none 0 0) Ao co wb.heap.size wb (World.ownsRow_nil _ _ _ _) (row_toN hI.lies.row k) (by simp) (by omega) (Nat.le_refl _);rw[hlk] at hr1;have hB1:Below wb.heap.size wb W1:=(Below.refl _ wb).grown hg1 (Nat.le_refl _) (fun b hb=>by cases hb);rw[List.nil_append] at hO1;have hq1:=HQ.out _ _ hq hB1;obtain⟨d0,d1,d2⟩:=HFP.out _ hq1;have KO:=Zz (ownR12_any ((HPW.out _ hq1).each p (List.mem_of_getElem? HPJ.out)) (by have :=HLN.out p (List.mem_of_getElem? HPJ.out);omega));have HM1:=Zz (And.intro hO1 hB1);clear hI hO1 hg1 hB1 hq;have HQ1:=Zz hq1;clear hq1;go_wp2_with (first|(refine list_slice rfl 33 (.tmp 36) none (some (.tmp 37)) none rfl hs1 ?_)|(at_builtin;refine Zo rfl (.tmp 35) (.tmp 38) 33 rfl hr1 ?_));refine KO.out.mono ?_;rintro e W2 ⟨A3,c3,rfl,hO2,hB2⟩;clear KO d0 d1 d2 hs1 hr1;obtain⟨p',hp'⟩:∃p':Pth,(⟨p.s,p.x,A3,c3,p.ss⟩:Pth)=p':=⟨_,rfl⟩;have hpk:pk p'=pk p:=by rw[←hp'];rfl
       have hpv:Pth.val ⟨p.s,p.x,A3,c3,p.ss⟩=p'.val:=by rw[hp']
       have hpL:((p'.ss.length:Nat):Int)≤9223372036854775807:=by rw[←hp'];have :=HLN.out p (List.mem_of_getElem? HPJ.out);show((p.ss.length:Nat):Int)≤_;omega
       have hO2:W2.ownsRow (W1.heap.size+2) 66 3 (.slice p'.A p'.ss.length p'.c) p'.ss.length (p'.ss.flatMap Ze):=by rw[←hp'];exact hO2
       have hB2':Below wb.heap.size wb W2:=HM1.out.2.trans (hB2.mono HM1.out.2.size);have hs1':=HM1.out.1.lt;have hb2:=below1 W2 (.cells p'.cells.toArray 46);obtain⟨v2,W3,hr2,hO3,hg3,hB3,hv2⟩:=append_path wb.heap.size (qs.take k).length v1 ((qs.take k).flatMap Pth.cells) p' (W2.alloc (.cells p'.cells.toArray 46)) W2.heap.size (Zh (Zh HM1.out.1 hB2) hb2) (Whole.new W2 _ p'.cells) (by omega) (by have :=hB2'.size;simp;omega);have hO4:W3.ownsRow (W1.heap.size+2) 66 3 (.slice p'.A p'.ss.length p'.c) p'.ss.length (p'.ss.flatMap Ze):=owns_apartN hg3 (Zh hO2 hb2) (fun g hg e=>by have h1:=(hs1' g e).2;have h2:=(hO2.lt g hg).1;omega);have hB3':Below wb.heap.size wb W3:=(hB2'.trans (hb2.mono hB2'.size)).trans hB3;have hlp:((qs.take k)++[p']).length=(qs.take k).length+1:=by rw[List.length_append];rfl
       have hs2:=slice_fromN Ao qs.length co k hkq W3;obtain⟨v3,W4,hr3,hO5,hg5,_⟩:=append_paths14 wb.heap.size (qs.take k++[p']) (qs.drop k) v2 (fromA Ao co k) (co - k) W3.heap.size W3 (by rw[hlp,List.flatMap_append];simpa using hO3) (row_fromN (HI.out.lies.row.on hB3') hkq HI.out.cap) (by omega) (by omega) hB3'.size;rw[hld] at hr3;have hO6:W4.ownsRow (W1.heap.size+2) 66 3 (.slice p'.A p'.ss.length p'.c) p'.ss.length (p'.ss.flatMap Ze):=owns_apartN hg5 hO4 (fun g hg e=>by
        have h2:=hO2.lt g hg;rcases hv2 with h|h
        · have h1:=(hs1' g (h ▸ e)).2;omega
        · rw[h] at e;have h3:=Option.some.inj e;simp at h3;omega);have hB4:Below wb.heap.size wb W4:=hB3'.trans ((Below.refl _ W3).grown hg5 hB3'.size (fun b hb=>(hO3.lt b hb).1));obtain⟨A9,c9,hv3,hR9,hc9⟩:=ownsS_slice hO5;have hws:w.heap.size≤wb.heap.size:=(HQb.out _ HQ0.out).size;have hws1:wb.heap.size≤W1.heap.size:=HM1.out.2.size;have hO5':=hO5;rw[hv3] at hO5';have htype:∀ {W W':World} {v:Value} {n:Nat} {xs:List Value} {b:Nat},W.grownBy W' v.ownBlock→W.ownsRow b 46 3 v n xs→∀ {q:Pth},stepRow W w.heap.size q→stepRow W' w.heap.size q:=fun {W W' v n xs b} hg hv {q} hq=>owns_apartN hg hq (fun g hg' e=>by
        rcases owns_apart hq hv (by decide) with h|h
        · rw[h] at hg';cases hg'
        · exact h (hg'.trans e.symm));have hO1b:(W2.alloc (.cells p'.cells.toArray 46)).ownsRow wb.heap.size 46 3 v1 (qs.take k).length ((qs.take k).flatMap Pth.cells):=Zh (Zh HM1.out.1 hB2) hb2;have hold:∀q ∈ qs,stepRow W4 w.heap.size q:=fun q hq=>by
        have h0:=(HI.out.own.each q hq).1;have h1:stepRow (W2.alloc (.cells p'.cells.toArray 46)) w.heap.size q:=Zh (Zh (Zh h0 HM1.out.2) hB2) hb2;exact htype hg5 hO3 (htype hg3 hO1b h1)
       have HN:Hid (SrtI12 w.heap.size l ps (j+1) (qs.take k++[p']++qs.drop k) A9 c9 W4):=Zz (HI.out.put HPJ.out hpk hkq HK.out (fun m q hm hq=>by have :=HK2.out m q hm hq;omega) (PsOwn.mk (owns_base12 hO5' hws) fun q hq=>by
        rcases List.mem_append.1 hq with hq|hq
        · rcases List.mem_append.1 hq with hq|hq
          · exact⟨hold q (List.mem_of_mem_take hq),(HI.out.own.each q (List.mem_of_mem_take hq)).2⟩
          · rw[List.mem_singleton.1 hq];exact⟨owns_base12 hO6 (by omega),hpL⟩
        · exact⟨hold q (List.mem_of_mem_drop hq),(HI.out.own.each q (List.mem_of_mem_drop hq)).2⟩) hc9);have HQ4:=Zz (HQ.out _ _ HQ0.out hB4);subst hv3;rw[hpv];clear hws hws1 hO5' htype hO1b hold hpk hpL hO2 hB2' hs1' hb2 hO3 hg3 hB3 hv2 hO4 hB3' hlp hO5 hg5 hO6 hB4 hR9 hc9 hp' hpv hB2 HI HM1 HQ1 hld hlk hcap;obtain⟨ns,hns⟩:∃ns,qs.take k++[p']++qs.drop k=ns:=⟨_,rfl⟩;rw[hns] at hr3 HN;clear hns;go_wp2_with (first|(at_builtin;refine Zo rfl (.tmp 40) (.tmp 46) 33 rfl hr2 ?_)|(refine list_slice rfl 33 (.tmp 49) (some (.tmp 50)) none none rfl hs2 ?_)|(at_builtin;refine Zo rfl (.tmp 48) (.tmp 51) 33 rfl hr3 ?_));go_roundw
       case rel=>exact⟨j+1,ns,A9,c9,hlt,rfl,by go_num,HQo.out _ HQ4.out,HN⟩
       case measure=>simp[intOf];omega
     · obtain⟨m,HM⟩:∃m,Hid (k=m+1):=⟨k - 1,Zz (by omega)⟩;have z1:decide ((0:Int)<(k:Int))=true:=decide_eq_true (by omega);have z2:decide (0<k)=true:=decide_eq_true (by omega);have z3:0<k:=by omega
       have hwk:IntKind.i64.wrap ((k:Int) - 1)=(m:Int):=by have :=HM.out;rw[IntWalk.i64_in _ (by omega)];omega
       have hwk2:wrap64 ((k:Int) - 1)=(m:Int):=by have :=HM.out;unfold wrap64;omega
       have hml:m<qs.length:=by have :=HM.out;omega
       have hml':(m:Int)<qs.length:=by omega
       obtain⟨q,hq1⟩:∃q,qs[m]? =some q:=⟨_,List.getElem?_eq_getElem hml⟩;have hqm:=List.mem_of_getElem? hq1;obtain⟨b6,o6,HA6,HD0,HD⟩:=row_at (f:=Pth.cells) (n:=3) (fun _=>rfl) (by omega) (fun W hW=>(HSI.out W hW).lies.row) hq hq1;have HF:Hid (∀W,Q W→W.cell? ⟨b6,o6+m*3,none⟩=some (.int .i64 q.s)∧W.cell? ⟨b6,o6+m*3+1,none⟩=some (.int .i64 q.x)∧W.cell? ⟨b6,o6+m*3+2,none⟩=some (.slice q.A q.ss.length q.c)):=Zz fun W hW=>
        ⟨HD0.out W hW _ _ _ hq1 rfl,HD.out W hW _ _ 1 _ hq1 rfl,HD.out W hW _ _ 2 _ hq1 rfl⟩;obtain⟨cm,hcm⟩:∃r,cmpR (rowV l p.ss) (rowV l q.ss)=r:=⟨_,rfl⟩;have KC:Hid (∀W,Q W→Calls Tryz.prog 20 #[l.val,p.val,q.val] W fun e w'=>e= .returned (.int .i64 cm)∧Below W.heap.size W w'):=Zz fun W hW=>
        cmpR12_any (HLW.out W hW) ((HPW.out W hW).each p (List.mem_of_getElem? HPJ.out)) ((HSI.out W hW).lies.each q hqm) (HLN.out p (List.mem_of_getElem? HPJ.out)) (HQS.out q hqm) hcm;have HCM:=Zz (And.intro hcm hq1);clear HD0 HD hcm hq1 hqm hk0;by_cases hc:cm<0
       · have hc':decide (cm<0)=true:=decide_eq_true hc;have HKN:Hid (∀m' q',m≤m'→qs[m']? =some q'→cmpR (rowV l p.ss) (rowV l q'.ss)<0):=Zz fun m' q' hm' hq'=>by
          by_cases e:m'=m
          · rw[e,HCM.out.2] at hq';cases hq';rw[HCM.out.1];exact hc
          · exact HK.out m' q' (by have :=HM.out;omega) hq'
         go_wp2_with fail;have HBS:Hid (∀W,Below wb.heap.size wb W→Q W):=Zz (fun W hB=>HQ.out _ _ hq hB);clear hq;refine rmx wb f16 (by kernel_rfl) (by kernel_rfl) ?_;simp only[Zg,f16,Lm,Ln];repeat ((first|(refine Zb (by rfl) ?_)|(refine mrd HBS _ (by rfl) (fun W hW=>by(obtain⟨x0,x1,x2,x3,x4,x5,x6,x7,x8,x9,x10⟩:=(HQl.out W hW).c11;obtain⟨c0,c1,c2⟩:=HF.out W hW;obtain⟨d0,d1,d2⟩:=HFP.out W hW;go_simp;first|done|with_reducible rfl)) ?_)|(refine mrd HBS _ (by rfl) (fun W hW=>by(obtain⟨x0,x1,x2,x3,x4,x5,x6,x7,x8,x9,x10⟩:=(HQl.out W hW).c11;obtain⟨c0,c1,c2⟩:=HF.out W hW;obtain⟨d0,d1,d2⟩:=HFP.out W hW;rw[HA6.out];go_simp;first|done|with_reducible rfl)) ?_)|(refine mcl HBS _ _ _ (by rfl) (fun W hW=>by(obtain⟨x0,x1,x2,x3,x4,x5,x6,x7,x8,x9,x10⟩:=(HQl.out W hW).c11;obtain⟨c0,c1,c2⟩:=HF.out W hW;obtain⟨d0,d1,d2⟩:=HFP.out W hW;go_simp;first|done|rfl)) (fun W hW=>KC.out W (HBS.out W hW)) ?_));simp only[Act.put,La,Lb,Lc])
         refine Zd (fun W hW=>?_);have hq:=HBS.out W hW;have HBW:=Zz hW;clear hW HBS;go_wp2_with fail;go_roundw
         case rel=>exact⟨m,by omega,by go_num,hq,HKN⟩
         case measure=>have :=HM.out;simp[intOf];omega
       · have hc':decide (cm<0)=false:=decide_eq_false hc;have HK2:Hid (∀m' q',k=m'+1→qs[m']? =some q'→0≤cmpR (rowV l p.ss) (rowV l q'.ss)):=Zz fun m' q' hm' hq'=>by
          obtain rfl:m'=m:=by have :=HM.out;omega
          rw[HCM.out.2] at hq';cases hq';rw[HCM.out.1];omega
         go_wp2_with fail;have HBS:Hid (∀W,Below wb.heap.size wb W→Q W):=Zz (fun W hB=>HQ.out _ _ hq hB);clear hq;refine rmx wb f16 (by kernel_rfl) (by kernel_rfl) ?_;simp only[Zg,f16,Lm,Ln];repeat ((first|(refine Zb (by rfl) ?_)|(refine mrd HBS _ (by rfl) (fun W hW=>by(obtain⟨x0,x1,x2,x3,x4,x5,x6,x7,x8,x9,x10⟩:=(HQl.out W hW).c11;obtain⟨c0,c1,c2⟩:=HF.out W hW;obtain⟨d0,d1,d2⟩:=HFP.out W hW;go_simp;first|done|with_reducible rfl)) ?_)|(refine mrd HBS _ (by rfl) (fun W hW=>by(obtain⟨x0,x1,x2,x3,x4,x5,x6,x7,x8,x9,x10⟩:=(HQl.out W hW).c11;obtain⟨c0,c1,c2⟩:=HF.out W hW;obtain⟨d0,d1,d2⟩:=HFP.out W hW;rw[HA6.out];go_simp;first|done|with_reducible rfl)) ?_)|(refine mcl HBS _ _ _ (by rfl) (fun W hW=>by(obtain⟨x0,x1,x2,x3,x4,x5,x6,x7,x8,x9,x10⟩:=(HQl.out W hW).c11;obtain⟨c0,c1,c2⟩:=HF.out W hW;obtain⟨d0,d1,d2⟩:=HFP.out W hW;go_simp;first|done|rfl)) (fun W hW=>KC.out W (HBS.out W hW)) ?_));simp only[Act.put,La,Lb,Lc])
         refine Zd (fun W hW=>?_);have hq:=HBS.out W hW;have HBW:=Zz hW;clear hW HBS;obtain⟨wb,rfl⟩:∃X,X=W:=⟨W,rfl⟩;clear z1 z2 z3 HBW hwk hwk2 hml hml' HF KC HCM hc hc' HA6;have hkq:k≤qs.length:=hk;have hI:=HSI.out _ hq;have HI:=Zz hI;have HQ0:=Zz hq;have hcap:=hI.cap;have hqn:qs.length≤100000:=by have :=hI.len (by omega:j≤ps.length);omega
         have hlk:(qs.take k).length=k:=by rw[List.length_take];omega
         have hld:(qs.drop k).length=qs.length - k:=List.length_drop;have hs1:=slice_toN Ao qs.length co k (by omega) wb;obtain⟨v1,W1,hr1,hO1,hg1,_⟩:=append_paths14 wb.heap.size [] (qs.take k) (.slice none 0 0) Ao co wb.heap.size wb (World.ownsRow_nil _ _ _ _) (row_toN hI.lies.row k) (by simp) (by omega) (Nat.le_refl _);rw[hlk] at hr1;have hB1:Below wb.heap.size wb W1:=(Below.refl _ wb).grown hg1 (Nat.le_refl _) (fun b hb=>by cases hb);rw[List.nil_append] at hO1;have hq1:=HQ.out _ _ hq hB1;obtain⟨d0,d1,d2⟩:=HFP.out _ hq1;have KO:=Zz (ownR12_any ((HPW.out _ hq1).each p (List.mem_of_getElem? HPJ.out)) (by have :=HLN.out p (List.mem_of_getElem? HPJ.out);omega));have HM1:=Zz (And.intro hO1 hB1);clear hI hO1 hg1 hB1 hq;have HQ1:=Zz hq1;clear hq1;go_wp2_with (first|(refine list_slice rfl 33 (.tmp 36) none (some (.tmp 37)) none rfl hs1 ?_)|(at_builtin;refine Zo rfl (.tmp 35) (.tmp 38) 33 rfl hr1 ?_));refine KO.out.mono ?_;rintro e W2 ⟨A3,c3,rfl,hO2,hB2⟩;clear KO d0 d1 d2 hs1 hr1;obtain⟨p',hp'⟩:∃p':Pth,(⟨p.s,p.x,A3,c3,p.ss⟩:Pth)=p':=⟨_,rfl⟩;have hpk:pk p'=pk p:=by rw[←hp'];rfl
         have hpv:Pth.val ⟨p.s,p.x,A3,c3,p.ss⟩=p'.val:=by rw[hp']
         have hpL:((p'.ss.length:Nat):Int)≤9223372036854775807:=by rw[←hp'];have :=HLN.out p (List.mem_of_getElem? HPJ.out);show((p.ss.length:Nat):Int)≤_;omega
         have hO2:W2.ownsRow (W1.heap.size+2) 66 3 (.slice p'.A p'.ss.length p'.c) p'.ss.length (p'.ss.flatMap Ze):=by rw[←hp'];exact hO2
         have hB2':Below wb.heap.size wb W2:=HM1.out.2.trans (hB2.mono HM1.out.2.size);have hs1':=HM1.out.1.lt;have hb2:=below1 W2 (.cells p'.cells.toArray 46);obtain⟨v2,W3,hr2,hO3,hg3,hB3,hv2⟩:=append_path wb.heap.size (qs.take k).length v1 ((qs.take k).flatMap Pth.cells) p' (W2.alloc (.cells p'.cells.toArray 46)) W2.heap.size (Zh (Zh HM1.out.1 hB2) hb2) (Whole.new W2 _ p'.cells) (by omega) (by have :=hB2'.size;simp;omega);have hO4:W3.ownsRow (W1.heap.size+2) 66 3 (.slice p'.A p'.ss.length p'.c) p'.ss.length (p'.ss.flatMap Ze):=owns_apartN hg3 (Zh hO2 hb2) (fun g hg e=>by have h1:=(hs1' g e).2;have h2:=(hO2.lt g hg).1;omega);have hB3':Below wb.heap.size wb W3:=(hB2'.trans (hb2.mono hB2'.size)).trans hB3;have hlp:((qs.take k)++[p']).length=(qs.take k).length+1:=by rw[List.length_append];rfl
         have hs2:=slice_fromN Ao qs.length co k hkq W3;obtain⟨v3,W4,hr3,hO5,hg5,_⟩:=append_paths14 wb.heap.size (qs.take k++[p']) (qs.drop k) v2 (fromA Ao co k) (co - k) W3.heap.size W3 (by rw[hlp,List.flatMap_append];simpa using hO3) (row_fromN (HI.out.lies.row.on hB3') hkq HI.out.cap) (by omega) (by omega) hB3'.size;rw[hld] at hr3;have hO6:W4.ownsRow (W1.heap.size+2) 66 3 (.slice p'.A p'.ss.length p'.c) p'.ss.length (p'.ss.flatMap Ze):=owns_apartN hg5 hO4 (fun g hg e=>by
          have h2:=hO2.lt g hg;rcases hv2 with h|h
          · have h1:=(hs1' g (h ▸ e)).2;omega
          · rw[h] at e;have h3:=Option.some.inj e;simp at h3;omega);have hB4:Below wb.heap.size wb W4:=hB3'.trans ((Below.refl _ W3).grown hg5 hB3'.size (fun b hb=>(hO3.lt b hb).1));obtain⟨A9,c9,hv3,hR9,hc9⟩:=ownsS_slice hO5;have hws:w.heap.size≤wb.heap.size:=(HQb.out _ HQ0.out).size;have hws1:wb.heap.size≤W1.heap.size:=HM1.out.2.size;have hO5':=hO5;rw[hv3] at hO5';have htype:∀ {W W':World} {v:Value} {n:Nat} {xs:List Value} {b:Nat},W.grownBy W' v.ownBlock→W.ownsRow b 46 3 v n xs→∀ {q:Pth},stepRow W w.heap.size q→stepRow W' w.heap.size q:=fun {W W' v n xs b} hg hv {q} hq=>owns_apartN hg hq (fun g hg' e=>by
          rcases owns_apart hq hv (by decide) with h|h
          · rw[h] at hg';cases hg'
          · exact h (hg'.trans e.symm));have hO1b:(W2.alloc (.cells p'.cells.toArray 46)).ownsRow wb.heap.size 46 3 v1 (qs.take k).length ((qs.take k).flatMap Pth.cells):=Zh (Zh HM1.out.1 hB2) hb2;have hold:∀q ∈ qs,stepRow W4 w.heap.size q:=fun q hq=>by
          have h0:=(HI.out.own.each q hq).1;have h1:stepRow (W2.alloc (.cells p'.cells.toArray 46)) w.heap.size q:=Zh (Zh (Zh h0 HM1.out.2) hB2) hb2;exact htype hg5 hO3 (htype hg3 hO1b h1)
         have HN:Hid (SrtI12 w.heap.size l ps (j+1) (qs.take k++[p']++qs.drop k) A9 c9 W4):=Zz (HI.out.put HPJ.out hpk hkq HK.out (fun m q hm hq=>by have :=HK2.out m q hm hq;omega) (PsOwn.mk (owns_base12 hO5' hws) fun q hq=>by
          rcases List.mem_append.1 hq with hq|hq
          · rcases List.mem_append.1 hq with hq|hq
            · exact⟨hold q (List.mem_of_mem_take hq),(HI.out.own.each q (List.mem_of_mem_take hq)).2⟩
            · rw[List.mem_singleton.1 hq];exact⟨owns_base12 hO6 (by omega),hpL⟩
          · exact⟨hold q (List.mem_of_mem_drop hq),(HI.out.own.each q (List.mem_of_mem_drop hq)).2⟩) hc9);have HQ4:=Zz (HQ.out _ _ HQ0.out hB4);subst hv3;rw[hpv];clear hws hws1 hO5' htype hO1b hold hpk hpL hO2 hB2' hs1' hb2 hO3 hg3 hB3 hv2 hO4 hB3' hlp hO5 hg5 hO6 hB4 hR9 hc9 hp' hpv hB2 HI HM1 HQ1 hld hlk hcap;obtain⟨ns,hns⟩:∃ns,qs.take k++[p']++qs.drop k=ns:=⟨_,rfl⟩;rw[hns] at hr3 HN;clear hns;go_wp2_with (first|(at_builtin;refine Zo rfl (.tmp 40) (.tmp 46) 33 rfl hr2 ?_)|(refine list_slice rfl 33 (.tmp 49) (some (.tmp 50)) none none rfl hs2 ?_)|(at_builtin;refine Zo rfl (.tmp 48) (.tmp 51) 33 rfl hr3 ?_));go_roundw
         case rel=>exact⟨j+1,ns,A9,c9,hlt,rfl,by go_num,HQo.out _ HQ4.out,HN⟩
         case measure=>simp[intOf];omega
  · obtain rfl:j=ps.length:=by omega
    have HZ:=Zz (And.intro HS.out (HQb.out _ hq));go_wp2_with fail;go_ret;exact⟨Ao,co,qs,rfl,HZ.out.1.own,by have :=HZ.out.1.perm;rwa [List.take_length] at this,HZ.out.1.sorted,HZ.out.2⟩
end
end Go.Proofs.YtifnlhfinjfajaaGreatDoor
