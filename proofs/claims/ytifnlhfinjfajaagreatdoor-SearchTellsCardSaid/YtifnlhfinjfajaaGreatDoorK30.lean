/- Of this seat: ShD. -/
import Derived.Test.YtifnlhfinjfajaaGreatDoorK29
namespace Go.Proofs.YtifnlhfinjfajaaGreatDoor
set_option linter.unusedVariables false
set_option linter.unusedSimpArgs false
set_option maxRecDepth 100000
set_option maxHeartbeats 32000000
section
open Go.RowKit Go.Shelf
theorem outsO14_any {w:World} (hT0:Shapes w) (k i:Int) (h0:0≤k) (h1:k≤255) {p n a b c d:Int} {l:List Int} (hs:IsShape k p n a b c d) (hl:outsTo n a b c d i p.toNat=l):
 Calls Tryz.prog 131 #[.int .u8 k,.int .i64 i] w fun e w'=>∃A cap,e= .returned (.slice A l.length cap)∧w'.ownsRow w.heap.size 3 1 (.slice A l.length cap) l.length (nums .i64 l)∧Below w.heap.size w w':=by
 obtain⟨P,hP,hT,h⟩:∃P:World→Prop,Closed P∧(∀w,P w→Shapes w)∧P w:=⟨fun W=>Below w.heap.size w W,Closed.below w,fun W hW=>Shapes.closed _ _ hT0 hW,Below.refl _ _⟩
 subst hl
 have HWy:=Zz (fun(o:Int) (wx:World) (hx:P wx)=>way_any k i o h0 h1 hs wx (hT wx hx))
 have HPt:=Zz (ports_P (P:=fun w'=>P w'∧Below w.heap.size w w') (w:=w) (hP.and (Closed.below w)) (fun w hw=>hT w hw.1) h0 h1 hs ⟨h,Below.refl _ _⟩)
 obtain⟨hp0,hp4⟩:=isShape_p hs
 clear hs
 go_enter Tryz.func131,Tryz.ntmps131
 go_wp2_with fail
 refine HPt.out.mono ?_
 rintro e w1 ⟨rfl,hp1,hB1⟩
 go_wp2_with fail
 go_loopw [5,11] (fun v i' wr=>∃j:Nat,(j:Int)≤p∧i'= .int .i64 j∧wr.ownsRow w.heap.size 3 1 v (outsTo n a b c d i j).length (nums .i64 (outsTo n a b c d i j))∧P wr∧Below w.heap.size w wr)
  (fun _ i' _=>p.toNat - (intOf i').toNat)
 case atStart=>exact⟨0,by omega,rfl,World.ownsRow_nil _ _ _ _,hp1,hB1⟩
 case round=>
  obtain⟨j,hj,rfl,hown,hp,hB⟩:=hrel;by_cases hlt:(j:Int)<p
  · go_wp2_with fail;refine(HWy.out (j:Int) _ hp).mono ?_;have hle:=outsTo_le n a b c d i j;generalize wayV n a b c d i j=wv;cases hg:goesV n a b c d i j
    · have HG:Hid (outsTo n a b c d i (j+1)=outsTo n a b c d i j):=Zz (by rw[outsTo,hg];simp);clear hg;rintro e w2 ⟨rfl,hB2⟩;go_wp2_with fail;go_roundw
      case rel=>exact⟨j+1,by omega,by go_num,by rw[HG.out];exact ownsV_keep hown hB2,hP _ _ hp hB2,hB.trans (hB2.mono hB.size)⟩
      case measure=>simp[intOf];omega
    · have HG:Hid (outsTo n a b c d i (j+1)=outsTo n a b c d i j++[(j:Int)]):=Zz (by rw[outsTo,hg];simp);clear hg;rintro e w2 ⟨rfl,hB2⟩;have hs2:=hB2.size;have hsw:=hB.size;obtain⟨v',w3,hrun,hown',hgr,hB3⟩:=append_int w.heap.size _ _ _ (j:Int) (w2.alloc (.cells #[.int .i64 j] 3)) w2.heap.size (ownsV_keep (ownsV_keep hown hB2) (below1 _ _)) ((Whole.new w2 _ [_]).Za 0 rfl) (by omega) (by simp;omega);have HO:=Zz hown';clear hown' hown;go_wp2_with (at_builtin;refine Zo rfl (.tmp 22) (.tmp 24) 30 rfl hrun ?_);have hB4:=(hB.trans (hB2.mono hB.size)).trans (((below1 w2 _).mono (by omega)).trans hB3);go_roundw
      case rel=>exact⟨j+1,by omega,by go_num,by rw[HG.out,List.length_append];simpa [nums] using HO.out,hP _ _ h hB4,hB4⟩
      case measure=>simp[intOf];omega
  · obtain rfl:j=p.toNat:=by omega
    obtain⟨A,cap,rfl,hr,hc⟩:=owns_slice hown;have HO:=Zz hown;clear hown hc hr;go_wp2_with fail;go_ret;exact⟨A,cap,rfl,HO.out,hB⟩
theorem ownsN_num {w:World} {base:Nat} {A:Option Addr} {n c:Nat} {os:List Int} (h:w.ownsRow base 3 1 (.slice A n c) n (nums .i64 os)):Row w w.heap.size A (nums .i64 os):=owns_row2 h
theorem steps14_iter {w0:World} {R:Nat→Prop} {g1 g2:Nat} {l:Lay} {js jx:Nat} {Ap:Option Addr} {cp:Nat} {ss:List Stp} (HF:∀W',Keeps R w0 W'→(∀k,R k→k<W'.heap.size)→(((Shapes W'∧Lies l W')∧PLies ⟨js,jx,Ap,cp,ss⟩ W')∧(Whole W' g1 29 l.cells∧Whole W' g2 46 (Pth.cells ⟨js,jx,Ap,cp,ss⟩)))) (hjs:js<l.sigs.length) (hjx:jx<l.exits.length) (hl:ss.length≤100) (hg:goesL l (Zq l js) ss=true):
 IterU Tryz.prog 127 #[.pointer (some ⟨g1,0,none⟩),.pointer (some ⟨g2,0,none⟩)] (fun x:Stp=>#[stpV x.1 x.2.1 x.2.2]) (nextsV l jx ss (endL l (Zq l js) ss)) R w0:=by
 intro L J Jx W hk0 hRl hJ hJx hY h0
 obtain⟨q,hq⟩:∃q,endL l (Zq l js) ss=q:=⟨_,rfl⟩
 rw[hq] at hY ⊢
 obtain⟨B,hB⟩:∃B,W.heap.size=B:=⟨_,rfl⟩
 have hs0:B≤W.heap.size:=by omega
 rw[hB] at hJ hJx hY hRl
 have HFW:Hid (∀W',Keeps R w0 W'→B≤W'.heap.size→(((Shapes W'∧Lies l W')∧PLies ⟨js,jx,Ap,cp,ss⟩ W')∧(Whole W' g1 29 l.cells∧Whole W' g2 46 (Pth.cells ⟨js,jx,Ap,cp,ss⟩)))):=Zz fun W' hk hs=>HF W' hk fun k h=>Nat.lt_of_lt_of_le (hRl k h) hs
 obtain⟨x,hx⟩:∃x,atV l q.1 q.2=x:=⟨_,rfl⟩
 obtain⟨tr,htr⟩:∃tr,Zp l q.1 q.2=tr:=⟨_,rfl⟩
 obtain⟨mr,hmr⟩:∃mr,entV l jx ss q=mr:=⟨_,rfl⟩
 obtain⟨os,hos⟩:∃os,outsK x.k q.2=os:=⟨_,rfl⟩
 have hol:=outsK_le x.k q.2
 have hxr:=atV_range (HFW.out _ hk0 hs0).1.1.2 q.1 q.2
 rw[hos] at hol
 rw[hx] at hxr
 have HV:Hid (nextsV l jx ss q=if mr=true then os.map (onward q) else []):=Zz (by unfold nextsV onN;rw[hmr,hx,hos])
 unfold outsK at hos
 have KA:Hid (∀W',Keeps R w0 W'→B≤W'.heap.size→Calls Tryz.prog 128 #[l.val,(Pth.val ⟨js,jx,Ap,cp,ss⟩)] W' fun e w'=>e= .returned (prtV q.1 q.2)∧Below W'.heap.size W' w'):=Zz fun W' hk hs=>have h:=HFW.out W' hk hs;ahead14_any h.1.1.1 h.1.1.2 h.1.2 (by omega) hjs hg hq
 have KT:Hid (∀W',Keeps R w0 W'→B≤W'.heap.size→Calls Tryz.prog 129 #[l.val,prtV q.1 q.2] W' fun e w'=>e= .returned (.tuple #[x.val,.bool tr])∧Below W'.heap.size W' w'):=Zz fun W' hk hs=>have h:=HFW.out W' hk hs;at_B h.1.1.1 h.1.1.2 q.1 q.2 hx htr
 have KM:Hid (∀W',Keeps R w0 W'→B≤W'.heap.size→Calls Tryz.prog 130 #[l.val,(Pth.val ⟨js,jx,Ap,cp,ss⟩),prtV q.1 q.2] W' fun e w'=>e= .returned (.bool mr)∧Below W'.heap.size W' w'):=Zz fun W' hk hs=>have h:=HFW.out W' hk hs;mayEnter14_any h.1.1.2 h.1.2 hjx q hmr
 have KO:Hid (∀W',Keeps R w0 W'→B≤W'.heap.size→Calls Tryz.prog 131 #[.int .u8 x.k,.int .i64 q.2] W' fun e w'=>∃A cap,e= .returned (.slice A os.length cap)∧w'.ownsRow W'.heap.size 3 1 (.slice A os.length cap) os.length (nums .i64 os)∧Below W'.heap.size W' w'):=Zz fun W' hk hs=>outsO14_any (HFW.out W' hk hs).1.1.1 x.k q.2 hxr.1 hxr.2 (shapeK x.k) hos
 rw[HV.out] at hY ⊢
 obtain⟨x0,x1,x2,x3,x4,x5,x6,x7,x8,x9,x10⟩:=((HFW.out _ hk0 hs0).2.1).c11
 obtain⟨y0,y1,y2⟩:=((HFW.out _ hk0 hs0).2.2).c3
 clear hq hB hRl HF hx htr hmr hos hg hxr HV hjs hjx hl
 refine(callsIn_wide (n:=3)).1 ?_
 refine callsIn_of_wp Tryz.func127 rfl trivial ?_ rfl
 simp only[Tryz.ntmps127,Ld,Le,Lf,Nat.reduceAdd,Nat.reduceSub,Lg,Lh,Li,Lj,Lk,Ll]
 gi_wp2_with fail
 refine⟨trivial,(callsIn_wide.2 (KA.out _ hk0 hs0)).mono ?_⟩
 clear x0 x1 x2 x3 x4 x5 x6 x7 x8 x9 x10 y0 y1 y2
 rintro e w1 ⟨rfl,hB1⟩
 obtain⟨h,hh⟩:∃h,w1.heap.size=h:=⟨_,rfl⟩
 obtain⟨W2,hW2⟩:∃W2,w1.alloc (.cells #[.int .i64 q.1,.int .i64 q.2] 59)=W2:=⟨_,rfl⟩
 have hB2:Below W.heap.size W W2:=by rw[←hW2];exact hB1.trans ((below1 w1 _).mono hB1.size)
 have hp2:Whole W2 h 59 (Zf q):=by rw[←hW2];exact Whole.Zj _ _ (Zf q) _ hh.symm
 have hBh:B≤h:=by have :=hB1.size;omega
 have hk2:=hk0.trans (Keeps.below hB2)
 have hs2:=Nat.le_trans hs0 hB2.size
 have h02:=hJ _ _ _ _ h0 (Stays.below hB2)
 rw[←hW2] at hB2 hp2 hk2 hs2 h02
 obtain⟨v0,v1⟩:=hp2.c2
 obtain⟨x0,x1,x2,x3,x4,x5,x6,x7,x8,x9,x10⟩:=((HFW.out _ hk2 hs2).2.1).c11
 obtain⟨y0,y1,y2⟩:=((HFW.out _ hk2 hs2).2.2).c3
 have HB2:=Zz (And.intro hp2 (And.intro hBh (And.intro hk2 (And.intro hs2 h02))))
 have HH:=Zz hh
 rw[←hh] at v0 v1
 have KT1:=Zz (KT.out _ hk2 hs2)
 clear hW2 hB1 hB2 hp2 hBh hk2 hs2 h02 hk0 hs0 h0 hh
 gi_wp2_with fail
 refine⟨trivial,(callsIn_wide.2 KT1.out).mono ?_⟩
 clear KT1 v0 v1 x0 x1 x2 x3 x4 x5 x6 x7 x8 x9 x10 y0 y1 y2
 rintro e w3 ⟨rfl,hB3⟩
 obtain⟨hp2,hBh,hk2,hs2,h02⟩:=HB2.out
 have hB4:=hB3.trans ((below1 w3 (.cells x.cells.toArray 63)).mono hB3.size)
 have hp4:=hp2.below hB4 hp2.lt
 have hk4:=hk2.trans (Keeps.below hB4)
 have hs4:=Nat.le_trans hs2 hB4.size
 have h04:=hJ _ _ _ _ h02 (Stays.below hB4)
 have KM1:=Zz (KM.out _ hk4 hs4)
 obtain⟨v0,v1⟩:=hp4.c2
 rw[←HH.out] at v0 v1
 obtain⟨x0,x1,x2,x3,x4,x5,x6,x7,x8,x9,x10⟩:=((HFW.out _ hk4 hs4).2.1).c11
 obtain⟨y0,y1,y2⟩:=((HFW.out _ hk4 hs4).2.2).c3
 have HB4:=Zz (And.intro hp4 (And.intro hBh (And.intro hk4 (And.intro hs4 h04))))
 have hsec:=Whole.new w3 63 x.cells
 have HSE:=Zz hsec
 clear hsec hp2 hBh hk2 hs2 h02 HB2 hB3 hB4 hp4 hk4 hs4 h04
 gi_wp2_with fail
 refine⟨trivial,(callsIn_wide.2 KM1.out).mono ?_⟩
 clear KM1 v0 v1 x0 x1 x2 x3 x4 x5 x6 x7 x8 x9 x10 y0 y1 y2
 rintro e w5 ⟨rfl,hB5⟩
 obtain⟨hp4,hBh,hk4,hs4,h04⟩:=HB4.out
 have hp5:=hp4.below hB5 hp4.lt
 have hk5:=hk4.trans (Keeps.below hB5)
 have hs5:=Nat.le_trans hs4 hB5.size
 have h05:=hJ _ _ _ _ h04 (Stays.below hB5)
 have hse:=HSE.out.below hB5 HSE.out.lt
 clear HB4 hB5 hp4 hk4 hs4 h04 HSE
 cases mr
 · clear KO hse hp5;gi_wp2_with fail;refine bodyPost_ret (results_none rfl _ _ _) rfl ?_;exact⟨⟨_,rfl⟩,fun _=>False,fun _ h=>h.elim,.inl h05⟩
 have KO1:=Zz (KO.out _ hk5 hs5)
 have s0:=hse.Za 0 rfl
 have v1:=hp5.Za 1 rfl
 rw[←HH.out] at v1
 have HB5:=Zz (And.intro hp5 (And.intro hBh (And.intro hk5 (And.intro hs5 h05))))
 clear hse hp5 hBh hk5 hs5 h05 KO KA KT KM
 gi_wp2_with fail
 refine⟨trivial,(callsIn_wide.2 KO1.out).mono ?_⟩
 clear KO1 s0 v1
 rintro e w6 ⟨A,c,rfl,hown,hB6⟩
 obtain⟨hp5,hBh,hk5,hs5,h05⟩:=HB5.out
 have hp6:=hp5.below hB6 hp5.lt
 have hk6:=hk5.trans (Keeps.below hB6)
 have hs6:=Nat.le_trans hs5 hB6.size
 have h06:=hJ _ _ _ _ h05 (Stays.below hB6)
 have hown':∀b,(Value.slice A os.length c).ownBlock=some b→B≤b:=fun b hb=>Nat.le_trans hs5 (hown.lt b hb).1
 have HO:Hid (∃base,w6.ownsRow base 3 1 (.slice A os.length c) os.length (nums .i64 os)∧(∀b,(Value.slice A os.length c).ownBlock=some b→B≤b∧¬(fun _:Nat=>False) b)∧(Whole w6 h 59 (Zf q)∧¬(fun _:Nat=>False) h)):=Zz ⟨_,hown,fun b hb=>⟨hown' b hb,fun h=>h⟩,hp6,fun h=>h⟩
 have HBh:=Zz hBh
 rw[HH.out]
 clear HB5 hown hB6 hp5 hk5 hs5 h05 hp6 hown' hBh HH
 gi_wp2_with fail
 gi_loopw [29] (fun i wr=>∃(j:Nat) (U:Nat→Prop),j≤os.length∧i= .int .i64 j∧J U j wr∧(∀k,U k→k<wr.heap.size)∧Keeps R w0 wr∧B≤wr.heap.size∧Hid (∃base,wr.ownsRow base 3 1 (.slice A os.length c) os.length (nums .i64 os)∧(∀b,(Value.slice A os.length c).ownBlock=some b→B≤b∧¬U b)∧(Whole wr h 59 (Zf q)∧¬U h)))
  (fun i _=>os.length - (intOf i).toNat)
 case atStart=>exact⟨0,fun _=>False,by omega,rfl,h06,fun k h=>h.elim,hk6,hs6,HO⟩
 case round=>
  clear h06 hk6 hs6 HO;obtain⟨j,U,hj,rfl,hJj,hUl,hk,hs,HO⟩:=hrel;by_cases hlt:j<os.length
  · have hlt':(j:Int)<os.length:=by omega
    obtain⟨o,ho⟩:∃o,os[j]? =some o:=⟨_,List.getElem?_eq_getElem hlt⟩;have HX:Hid ((os.map (onward q))[j]? =some (onward q o)):=Zz (by rw[List.getElem?_map,ho];rfl);have hA:∃b off,A=some ⟨b,off,none⟩∧wr.cell? ⟨b,off+j,none⟩=some (.int .i64 o):=by
     obtain⟨base,hw,_⟩:=HO.out;obtain⟨b,off,e,_,hc⟩:=(ownsN_num hw).num hlt;rw[ho] at hc;exact⟨b,off,e,hc⟩
    obtain⟨b,off,hA,c0⟩:=hA;have v0:=HO.out.choose_spec.2.2.1.Za 0 rfl;have v1:=HO.out.choose_spec.2.2.1.Za 1 rfl;have hY1:YieldAt Fence.wide 3 Tryz.prog L #[stpV q.1 q.2 o] wr _:=hY U j _ _ HX.out hJj hUl;obtain⟨fn,tmps,assign,body,hy,hRd⟩:=hY1;have HRd:=Zz hRd;have HA:=Zz hA;have HK:=Zz hk;have HUL:=Zz hUl;have HHS:=Zz hs;rw[hA];clear hRd hA hJj hk ho hUl hs;gi_wp2_with fail;refine RoundIn.mono (RoundIn.wide HRd.out) ?_;clear HRd hy c0 v0 v1;rintro e W3 ⟨U',hg',hk',(⟨rfl,hJ3⟩|⟨rfl,hJx3⟩)⟩
    · have hk3:=HK.out.trans hk'.keeps;have hs3:=Nat.le_trans HHS.out hk'.size;have hU3:=hg'.lt;have HO3:Hid (∃base,W3.ownsRow base 3 1 (.slice A os.length c) os.length (nums .i64 os)∧(∀b,(Value.slice A os.length c).ownBlock=some b→B≤b∧¬U' b)∧(Whole W3 h 59 (Zf q)∧¬U' h)):=Zz (by
       obtain⟨base,hw,hu,hp,hph⟩:=HO.out;exact⟨base,owns_kept13 hk' hw hu,fun b hb=>⟨(hu b hb).1,fun h=>(hg'.new b h).elim (hu b hb).2 fun hh=>by have :=(hw.lt b hb).2;omega⟩,hk'.whole hp HBh.out hph,fun hv=>(hg'.new h hv).elim hph fun hh=>by have :=hp.lt;omega⟩);clear hg' hk' HK HO HUL HHS;gi_wp2_with fail;go_roundw
      case rel=>exact⟨j+1,U',hlt,by go_num,hJ3,hU3,hk3,hs3,by first|exact HO3|(rw[←HA.out];exact HO3)⟩
      case measure=>simp[intOf];omega
    · have hU3:=hg'.lt;gi_wp2
      refine bodyPost_ret (results_none rfl _ _ _) rfl ?_;exact⟨⟨_,rfl⟩,U',hU3,.inr hJx3⟩
  · obtain rfl:j=os.length:=by omega
    gi_wp2_with fail;go_end0
    exact⟨⟨_,rfl⟩,U,hUl,.inl (by simpa using hJj)⟩
end
end Go.Proofs.YtifnlhfinjfajaaGreatDoor
