/- Of this seat: StbE, RnkF, RnkG, TopoN, TopoB, RouC. -/
import Derived.Lib.AppendZeros
import Derived.Test.YtifnlhfinjfajaaGreatDoorK17
namespace Go.Proofs.YtifnlhfinjfajaaGreatDoor
set_option linter.unusedVariables false
set_option linter.unusedSimpArgs false
set_option maxRecDepth 100000
set_option maxHeartbeats 32000000
section
open Go.RowKit Go.Shelf
theorem stable_any {S:List Nat→World→Prop} {g n qf:Nat} {cv:Nat→Nat→Int} (K:Kit12 S g n) (C:Cmp12 S n qf cv) (O:Ord12 (Zm cv)) (hn:n≤1099511627776) (cap:Nat) {w:World} (h:S (List.range n) w):
 Calls Tryz.prog 137 #[.slice (some ⟨g,0,none⟩) n cap,.int .i64 n,.func (.func 139) #[] #[.pointer (some ⟨qf,0,none⟩)]] w fun e w'=>e= .returned (.tuple #[])∧∃d,S d w'∧d.Perm (List.range n)∧Srt (Zm cv) d 0 n:=by
 have HI:Hid (∀ {d:List Nat} (hp:d.Perm (List.range n)) (a b:Nat) (hab:a≤b) (hbn:b≤n) (hup:∀i j,a≤i→i<j→j<b→at12 d i<at12 d j) {w:World} (h:S d w),
  Calls Tryz.prog 174 #[.slice (some ⟨g,0,none⟩) n cap,.int .i64 a,.int .i64 b,.func (.func 139) #[] #[.pointer (some ⟨qf,0,none⟩)]] w fun e w'=>e= .returned (.tuple #[])∧∃d',S d' w'∧Mv12 a b d d'∧Srt (Zm cv) d' a b):=Zz fun hp a b hab hbn hup {w} h=>insertion_any K C O hn hp a b cap hab hbn hup h
 have HM:Hid (∀ {d:List Nat} (hp:d.Perm (List.range n)) (a m b:Nat) (ham:a<m) (hmb:m<b) (hbn:b≤n) (h1:Srt (Zm cv) d a m) (h2:Srt (Zm cv) d m b) (hr:Rise d a m b) {w:World} (h:S d w),
  Calls Tryz.prog 175 #[.slice (some ⟨g,0,none⟩) n cap,.int .i64 a,.int .i64 m,.int .i64 b,.func (.func 139) #[] #[.pointer (some ⟨qf,0,none⟩)]] w fun e w'=>e= .returned (.tuple #[])∧∃d',S d' w'∧Mv12 a b d d'∧Srt (Zm cv) d' a b):=Zz fun hp a m b ham hmb hbn h1 h2 hr {w} h=>symMerge_any K C O hn hp a m b cap ham hmb hbn h1 h2 hr h
 clear K C O
 go_enter Tryz.func137,Tryz.ntmps137
 go_wp2_with fail
 go_loopw [7,8] (fun va vb wr=>∃(a b:Nat) (d:List Nat),va= .int .i64 a∧vb= .int .i64 b∧b=a+20∧a≤n∧S d wr∧Hid (One12 (Zm cv) 20 n a d))
  (fun va _ _=>n - (intOf va).toNat)
 case atStart=>exact⟨0,20,List.range n,rfl,rfl,rfl,Nat.zero_le _,h,Zz one_start⟩
 case round=>
  clear h;obtain⟨a,b,d,rfl,rfl,hb,han,hS,H1⟩:=hrel;by_cases hlt:b≤n
  · have hlt':(b:Int)≤(n:Int):=by omega
    have rb:IntKind.i64.wrap ((b:Int)+20)=((b+20:Nat):Int):=by rw[IntKind.wrap_i64];omega
    obtain⟨b2,hb2⟩:∃b2,b+20=b2:=⟨_,rfl⟩;rw[hb2] at rb;have KI:=Zz (HI.out H1.out.perm a b (by omega) hlt (fun i j i1 i2 i3=>by rw[H1.out.rest i i1 (by omega),H1.out.rest j (by omega) (by omega)];exact i2) hS);have HB:=Zz (And.intro hb hb2);clear hS hb hb2;go_wp2_with fail;refine KI.out.mono ?_;clear KI;rintro e w1 ⟨rfl,d1,hS,hm,hs⟩;have HN:=Zz (one_next (bs:=20) (by omega) H1.out HB.out.1 hlt hm hs);clear hm hs H1;go_wp2_with fail;go_roundw
    case rel=>exact⟨b,b2,d1,rfl,rfl,by have :=HB.out;omega,hlt,hS,HN⟩
    case measure=>have :=HB.out;simp[intOf];omega
  · have hlt':¬(b:Int)≤(n:Int):=by omega
    have KI:=Zz (HI.out H1.out.perm a n han (Nat.le_refl _) (fun i j i1 i2 i3=>by rw[H1.out.rest i i1 (by omega),H1.out.rest j (by omega) (by omega)];exact i2) hS);have HN1:Hid (n<a+20):=Zz (by omega);clear hS hb han hlt;go_wp2_with fail;refine KI.out.mono ?_;clear KI;rintro e w1 ⟨rfl,d1,hS1,hm,hs⟩;have HL:=Zz (one_last (bs:=20) (by omega) H1.out HN1.out hm hs);clear hm hs H1 HN1 hlt';go_wp2_with fail;go_loopw [6,7,8,9] (fun vs va vb vm wr=>∃(bs:Nat) (d:List Nat),vs= .int .i64 bs∧20≤bs∧bs≤n+n+40∧S d wr∧Hid (d.Perm (List.range n)∧InB bs d n∧Up (Zm cv) bs d n))
     (fun vs _ _ _ _=>n - (intOf vs).toNat)
    case atStart=>exact⟨20,d1,rfl,Nat.le_refl _,by omega,hS1,HL⟩
    case round=>
     clear hS1 HL;obtain⟨bs,d,rfl,hbs,hbn,hS,HD⟩:=hrel;by_cases hlt:bs<n
     · have hlt':(bs:Int)<(n:Int):=by omega
       have r2:IntKind.i64.wrap (2*(bs:Int))=((bs*2:Nat):Int):=by rw[IntKind.wrap_i64];omega
       have r3:IntKind.i64.wrap ((bs:Int)*2)=((bs*2:Nat):Int):=by rw[IntKind.wrap_i64];omega
       obtain⟨bt,hbt⟩:∃bt,bs*2=bt:=⟨_,rfl⟩;rw[hbt] at r2 r3;have HT:=Zz hbt;have HS:=Zz hS;clear hS;obtain⟨wk,rfl⟩:∃W,W=wr:=⟨wr,rfl⟩;go_wp2_with fail;go_loopw [7,8] (fun va vb wr=>∃(a b:Nat) (d:List Nat),va= .int .i64 a∧vb= .int .i64 b∧b=a+bt∧a≤n∧S d wr∧Hid (Two12 (Zm cv) bs n a d))
        (fun va _ _=>n - (intOf va).toNat)
       case atStart=>exact⟨0,bt,d,rfl,rfl,by omega,Nat.zero_le _,HS.out,Zz (two_start HD.out.1 HD.out.2.1 HD.out.2.2)⟩
       case round=>
        clear HD HS;obtain⟨a,b,d,rfl,rfl,hb,han,hS,H1⟩:=hrel;have rm:IntKind.i64.wrap ((a:Int)+(bs:Int))=((a+bs:Nat):Int):=by rw[IntKind.wrap_i64];omega
        obtain⟨m,hm⟩:∃m,a+bs=m:=⟨_,rfl⟩;rw[hm] at rm;have HB:=Zz (And.intro hb (And.intro hm (And.intro hbt han)));by_cases hle:b≤n
        · have hle':(b:Int)≤(n:Int):=by omega
          have rb:IntKind.i64.wrap ((b:Int)+(bt:Int))=((b+bt:Nat):Int):=by rw[IntKind.wrap_i64];omega
          obtain⟨b2,hb2⟩:∃b2,b+bt=b2:=⟨_,rfl⟩;rw[hb2] at rb;have HB2:=Zz hb2;have hp:=two_parts (bs:=bs) (by omega) H1.out (e:=b) (by omega) hle;rw[Nat.min_eq_left (by omega),hm] at hp;have KM:=Zz (HM.out H1.out.perm a m b (by omega) (by omega) hle hp.1 hp.2.1 hp.2.2 hS);clear hS hb hb2 hm hp;go_wp2_with fail;refine KM.out.mono ?_;clear KM;rintro e w1 ⟨rfl,d1,hS,hm,hs⟩;have HN:=Zz (two_next (bs:=bs) (by omega) H1.out (by have :=HB.out;omega) hle hm hs);clear hm hs H1;go_wp2_with fail;go_roundw
          case rel=>exact⟨b,b2,d1,rfl,rfl,by have :=HB2.out;omega,hle,hS,HN⟩
          case measure=>have :=HB.out;simp[intOf];omega
        · have hle':¬(b:Int)≤(n:Int):=by omega
          by_cases hmn:m<n
          · have hmn':(m:Int)<(n:Int):=by omega
            have hp:=two_parts (bs:=bs) (by omega) H1.out (e:=n) (by omega) (Nat.le_refl _);rw[Nat.min_eq_left (by omega),hm] at hp;have KM:=Zz (HM.out H1.out.perm a m n (by omega) hmn (Nat.le_refl _) hp.1 hp.2.1 hp.2.2 hS);have HLE:=Zz hle;clear hS hb hm hp hle han;go_wp2_with fail;refine KM.out.mono ?_;clear KM;rintro e w1 ⟨rfl,d1,hS,hm,hs⟩;have HN:=Zz (two_last (bs:=bs) (by omega) H1.out (by have :=HB.out;have :=HLE.out;omega) hm hs);clear hm hs H1;go_wp2_with fail;go_roundw
            case rel=>exact⟨bt,d1,rfl,by omega,by omega,hS,by rw[HT.out] at HN;exact HN⟩
            case measure=>simp[intOf];omega
          · have hmn':¬(m:Int)<(n:Int):=by omega
            have HN:=Zz (two_short (bs:=bs) (by omega) H1.out (by omega));clear hb hm hle han H1;go_wp2_with fail;go_roundw
            case rel=>exact⟨bt,d,rfl,by omega,by omega,hS,by rw[HT.out] at HN;exact HN⟩
            case measure=>simp[intOf];omega
     · have HF:=Zz (two_done (by omega) HD.out.2.2);go_wp2_with fail;go_end0
       exact⟨rfl,d,hS,HD.out.1,HF.out⟩
theorem sortStable_any {S:List Nat→World→Prop} {g n qf:Nat} {cv:Nat→Nat→Int} (K:Kit12 S g n) (C:Cmp12 S n qf cv) (O:Ord12 (Zm cv)) (hn:n≤1099511627776) (cap:Nat) {w:World} (h:S (List.range n) w):
 Calls Tryz.prog 79 #[.slice (some ⟨g,0,none⟩) n cap,.func (.func 139) #[] #[.pointer (some ⟨qf,0,none⟩)]] w fun e w'=>e= .returned (.tuple #[])∧∃d,S d w'∧d.Perm (List.range n)∧Srt (Zm cv) d 0 n:=by
 have KK:=Zz (stable_any K C O hn cap h)
 clear K C O h
 go_enter Tryz.func79,Tryz.ntmps79
 go_wp2_with fail
 refine KK.out.mono ?_
 clear KK
 rintro e w1 ⟨rfl,hh⟩
 go_wp2_with fail
 go_end0
 exact⟨rfl,hh⟩
theorem own11s_any {p:Pth} {w:World} (hp:PLies p w) (hl:p.ss.length≤1000):Calls Tryz.prog 141 #[p.val] w fun e w'=>∃A c,e= .returned (Pth.val ⟨p.s,p.x,A,c,p.ss⟩)∧w'.ownsRow w.heap.size 66 3 (.slice A p.ss.length c) p.ss.length (p.ss.flatMap Ze)∧Below w.heap.size w w':=by
 obtain⟨W0,hW0⟩:∃W0,(w.alloc (.cells #[.int .i64 p.s,.int .i64 p.x,.slice p.A p.ss.length p.c] 46)).alloc (.cells #[.int .i64 0,.int .i64 0,.slice none 0 0] 46)=W0:=⟨_,rfl⟩;have hB0:Below w.heap.size w W0:=by rw[←hW0];exact below2 w _ _
 have hb0:Whole W0 w.heap.size 46 p.cells:=by rw[←hW0];exact(Whole.new w _ p.cells).alloc _
 have hb1:Whole W0 (w.heap.size+1) 46 [.int .i64 0,.int .i64 0,.slice none 0 0]:=by rw[←hW0];exact Whole.Zj _ _ [_,_,_] _ (by simp)
 have KC:=Zz (cloneStep_any p.A p.c W0 (hp.row.on hB0) hl);have HB0:=Zz (And.intro hB0 (And.intro hb0 hb1));have HLN:=Zz hp.len;have x2:=hb0.Za 2 rfl;have HW0:=Zz hW0;clear hW0 hB0 hb0 hb1 hp hl;go_enter Tryz.func141,Tryz.ntmps141;go_upto_region 1 with (fail)
 rw[HW0.out];go_wp2_with fail;refine KC.out.mono ?_;clear x2 KC;rintro e w1 ⟨v,rfl,hown,hB1⟩;obtain⟨hB0,hb0,hb1⟩:=HB0.out;have hs:=hb1.lt;have c0:=hb0.below hB1 hb0.lt;have c1:=hb1.below hB1 hb1.lt;have f2:=c0.frozen 2;have x2:=c0.Za 2 rfl;have c0':=c0.set 2 v;have c1':=c1.far (p:=⟨w.heap.size,2,none⟩) (by show w.heap.size+1≠w.heap.size;omega) v;have y0:=c0'.Za 0 rfl;have y1:=c0'.Za 1 rfl;have y2:=c0'.Za 2 rfl;have g0:=c1'.frozen 0;have g1:=c1'.frozen 1;have g2:=c1'.frozen 2;have z0:=c1'.Za 0 rfl;have z1:=c1'.Za 1 rfl;have z2:=c1'.Za 2 rfl;have HD:=Zz (((c1'.set 0 (.int .i64 p.s)).set 1 (.int .i64 p.x)).set 2 v);obtain⟨A,c,hv,hr⟩:=owns_read hown;have HBB:=Zz (((((hB0.trans (hB1.mono hB0.size)).setCell (p:=⟨w.heap.size,2,none⟩) (Nat.le_refl _) v).setCell (p:=⟨w.heap.size+1,0,none⟩) (by show w.heap.size≤w.heap.size+1;omega) (.int .i64 p.s)).setCell (p:=⟨w.heap.size+1,1,none⟩) (by show w.heap.size≤w.heap.size+1;omega) (.int .i64 p.x)).setCell (p:=⟨w.heap.size+1,2,none⟩) (by show w.heap.size≤w.heap.size+1;omega) v);have hs0:W0.heap.size=w.heap.size+2:=by rw[←HW0.out];simp
 have HS:=Zz hs0;have HO:=Zz hown;clear hown hr c0 c1 c0' c1' hB0 hb0 hb1 hB1 hs hs0;subst hv;go_wp2_with fail;have e0:=HD.out.Za 0 rfl;have e1:=HD.out.Za 1 rfl;have e2:=HD.out.Za 2 rfl;have hfar:∀(W:World),W.ownsRow W0.heap.size 66 3 (.slice A p.ss.length c) p.ss.length (p.ss.flatMap Ze)→∀(q:Addr) (u:Value),q.block<W0.heap.size→(W.setCell q u).ownsRow W0.heap.size 66 3 (.slice A p.ss.length c) p.ss.length (p.ss.flatMap Ze):=fun W h q u hq=>owns_set (B:=0) h hq u;have hO:=hfar _ (hfar _ (hfar _ (hfar _ HO.out ⟨w.heap.size,2,none⟩ (.slice A p.ss.length c) (by show w.heap.size<_;rw[HS.out];omega)) ⟨w.heap.size+1,0,none⟩ (.int .i64 p.s) (by show w.heap.size+1<_;rw[HS.out];omega)) ⟨w.heap.size+1,1,none⟩ (.int .i64 p.x) (by show w.heap.size+1<_;rw[HS.out];omega)) ⟨w.heap.size+1,2,none⟩ (.slice A p.ss.length c) (by show w.heap.size+1<_;rw[HS.out];omega);refine bodyPost_ret (v:=Pth.val ⟨p.s,p.x,A,c,p.ss⟩) ?_ rfl ⟨A,c,rfl,?_,HBB.out⟩
 · simp[results,Tryz.f141,go_sem,e0,e1,e2]
 · exact owns_base12 hO (by rw[HS.out];omega)
theorem sameR12_any {p q:Pth} {w:World} (hp:PLies p w) (hq:PLies q w) {r:Bool} (hr:sameP p q=r):Calls Tryz.prog 21 #[p.val,q.val] w fun e w'=>e= .returned (.bool r)∧Below w.heap.size w w':=by
 obtain⟨Q,HQ,HQb,HQp,HQq,hw⟩:=keep_box2 (Closed.below w) (Below.refl _ w) 46 46 p.cells q.cells;obtain⟨d,hd⟩:∃d,decide (p.ss=q.ss)=d:=⟨_,rfl⟩;have KE:=Zz (fun W hW=>stepsR_P (P:=Q) (w:=W) HQ.out p.c q.c (fun W hW=>hp.row.on (HQb.out W hW)) (fun W hW=>hq.row.on (HQb.out W hW)) hp.len hd hW);obtain⟨b1,h1⟩:∃b,(p.s==q.s)=b:=⟨_,rfl⟩;obtain⟨b2,h2⟩:∃b,(p.x==q.x)=b:=⟨_,rfl⟩;have HR:Hid ((b1&&(b2&&d))=r):=Zz (by rw[←hr,←h1,←h2,←hd];rfl);clear hr hd hp hq;obtain⟨x0,x1,x2⟩:=(HQp.out _ hw).c3;obtain⟨y0,y1,y2⟩:=(HQq.out _ hw).c3;cases b1
 · go_enter Tryz.func21,Tryz.ntmps21;go_wp2_with fail;go_ret;exact⟨Zc HR.out,HQb.out _ hw⟩
 cases b2
 · go_enter Tryz.func21,Tryz.ntmps21;go_wp2_with fail;go_ret;exact⟨Zc HR.out,HQb.out _ hw⟩
 go_enter Tryz.func21,Tryz.ntmps21;go_wp2_with fail;refine(KE.out _ hw).mono ?_;clear hw x0 x1 x2 y0 y1 y2 h1 h2;rintro e w1 ⟨rfl,hw⟩;go_wp2_with fail;go_ret;exact⟨Zc (by rw[←HR.out];rfl),HQb.out _ hw⟩
theorem own12_any {p:Pth} {w:World} (hp:PLies p w) (hl:p.ss.length≤1000):Calls Tryz.prog 81 #[p.val] w fun e w'=>∃A c,e= .returned (Pth.val ⟨p.s,p.x,A,c,p.ss⟩)∧w'.ownsRow w.heap.size 66 3 (.slice A p.ss.length c) p.ss.length (p.ss.flatMap Ze)∧Below w.heap.size w w':=by
 obtain⟨W0,hW0⟩:∃W0,(w.alloc (.cells #[.int .i64 p.s,.int .i64 p.x,.slice p.A p.ss.length p.c] 46)).alloc (.cells #[.int .i64 0,.int .i64 0,.slice none 0 0] 46)=W0:=⟨_,rfl⟩;have hB0:Below w.heap.size w W0:=by rw[←hW0];exact below2 w _ _
 have hb0:Whole W0 w.heap.size 46 p.cells:=by rw[←hW0];exact(Whole.new w _ p.cells).alloc _
 have hb1:Whole W0 (w.heap.size+1) 46 [.int .i64 0,.int .i64 0,.slice none 0 0]:=by rw[←hW0];exact Whole.Zj _ _ [_,_,_] _ (by simp)
 have KC:=Zz (own11s_any (PLies.closed p _ _ hp hB0) hl);have hs0:W0.heap.size=w.heap.size+2:=by rw[←hW0];simp
 have HB0:=Zz (And.intro hB0 (And.intro hb1 hs0));obtain⟨x0,x1,x2⟩:=hb0.c3;have HW0:=Zz hW0;clear hW0 hB0 hb0 hb1 hp hl hs0;go_enter Tryz.func81,Tryz.ntmps81;go_upto_region 1 with (fail)
 rw[HW0.out];go_wp2_with fail;refine KC.out.mono ?_;clear x0 x1 x2 KC;rintro e w1 ⟨A,c,rfl,hown,hB1⟩;obtain⟨hB0,hb1,hs0⟩:=HB0.out;have hz:=hb1.lt;have c1:=hb1.below hB1 hz;have g0:=c1.frozen 0;have g1:=c1.frozen 1;have g2:=c1.frozen 2;obtain⟨z0,z1,z2⟩:=c1.c3;have HD:=Zz (((c1.set 0 (.int .i64 p.s)).set 1 (.int .i64 p.x)).set 2 (.slice A p.ss.length c));have HBB:=Zz ((((hB0.trans (hB1.mono hB0.size)).setCell (p:=⟨w.heap.size+1,0,none⟩) (by show w.heap.size≤w.heap.size+1;omega) (.int .i64 p.s)).setCell (p:=⟨w.heap.size+1,1,none⟩) (by show w.heap.size≤w.heap.size+1;omega) (.int .i64 p.x)).setCell (p:=⟨w.heap.size+1,2,none⟩) (by show w.heap.size≤w.heap.size+1;omega) (.slice A p.ss.length c));have hne:∀b,(Value.slice A p.ss.length c).ownBlock=some b→b≠w.heap.size+1:=fun b hb=>by have :=(hown.lt b hb).1;omega
 have HO:=Zz (owns_setFar (owns_setFar (owns_setFar hown 0 hne (.int .i64 p.s)) 1 hne (.int .i64 p.x)) 2 hne (.slice A p.ss.length c));have HS:=Zz hs0;clear hown c1 hB0 hb1 hB1 hs0 hne hz;go_wp2_with fail;have e0:=HD.out.Za 0 rfl;have e1:=HD.out.Za 1 rfl;have e2:=HD.out.Za 2 rfl;refine bodyPost_ret (v:=Pth.val ⟨p.s,p.x,A,c,p.ss⟩) ?_ rfl ⟨A,c,rfl,?_,HBB.out⟩
 · simp[results,Tryz.f81,go_sem,e0,e1,e2]
 · exact owns_base12 HO.out (by rw[HS.out];omega)
def pk (p:Pth):Int×Int×List (Int×Int×Int):=(p.s,p.x,p.ss)
theorem info_path:(Tryz.prog.info? 46).map (fun i=>(i.zero,i.size,i.bytes))=some (some (.agg #[.int .i64 0,.int .i64 0,.slice none 0 0]),3,40):=by kernel_rfl
theorem onePath (p:Pth):∀v ∈ Pth.cells p,v.oneCell'=true:=by
 intro v hv;simp only[List.mem_cons,List.not_mem_nil,or_false] at hv;rcases hv with rfl|rfl|rfl <;> rfl
theorem append_path (base n:Nat) (v:Value) (xs:List Value) (x:Pth) (w:World) (a:Nat) (hown:w.ownsRow base 46 3 v n xs) (hc:Whole w a 46 (Pth.cells x)) (hn:n≤1000000) (hbase:base≤w.heap.size):
 ∃v' w',(Builtin.append_ #[33,33] 33 #[v,.slice (some ⟨a,0,none⟩) 1 1]).run Tryz.prog w= .ok v' w'∧w'.ownsRow base 46 3 v' (n+1) (xs++Pth.cells x)∧w.grownBy w' v.ownBlock∧Below base w w'∧(v'.ownBlock=v.ownBlock∨v'.ownBlock=some w.heap.size):=by
 obtain⟨i,i1,i2,i3,i4⟩:=info_parts info_path
 obtain⟨v',w',r1,r2,r3,r4,r5⟩:=run_append_own_at (P:=Tryz.prog) w base 33 33 46 i (.agg #[.int .i64 0,.int .i64 0,.slice none 0 0]) 3 40 Tryz.underlying33 i1 i2 i3 i4 rfl (by omega) v n xs hown ⟨a,0,none⟩ 1 1 (Pth.cells x) rfl (row_add (hc.row hc.lt)) (onePath x) (by unfold maxLen;omega) (by omega) hbase
 exact⟨v',w',r1,r2,r3,(Below.refl base w).grown r3 hbase (fun k e=>(hown.lt k e).1),r5⟩
theorem range_next {n j:Nat} (h:j<n):(List.range j++List.replicate (n - j) 0).set j j=List.range (j+1)++List.replicate (n - (j+1)) 0:=by
 rw[rep_succ h,List.set_append_right _ _ (by simp),List.length_range,Nat.sub_self,List.range_succ,List.append_assoc];rfl
structure PlcS (w:World) (l:Lay) (base gq gr:Nat) (ts:List Ent) (n:Nat) (d:List Nat) (W:World):Prop where
 below:Below w.heap.size w W
 tabs:RowsAt base gq gr ts W
 places:Whole W (w.heap.size+1) 3 (cel12 d)
 len:d.length=n
theorem PlcS.kit (w:World) (l:Lay) {base:Nat} (gq gr:Nat) (ts:List Ent) (n:Nat) (hb:w.heap.size+1<base):Kit12 (PlcS w l base gq gr ts n) (w.heap.size+1) n:=
 ⟨fun d W W' h hB=>⟨h.below.trans (hB.mono h.below.size),RowsAt.closed _ _ _ _ _ _ h.tabs hB,h.places.below hB h.places.lt,h.len⟩,fun d W h=>h.places,fun d W h=>h.len,fun d W i v h hi=>
  ⟨h.below.setCell (p:=⟨w.heap.size+1,i,none⟩) (by show w.heap.size≤w.heap.size+1;omega) _,h.tabs.far hb i _,by rw[cel_set];exact h.places.set i _,by rw[List.length_set];exact h.len⟩⟩
theorem PlcS.cmp (w:World) (l:Lay) {base:Nat} (gq gr:Nat) (ts:List Ent) (n:Nat) (hn:n≤1000000) (ht:ts.length=n):Cmp12 (PlcS w l base gq gr ts n) n gq (cvOf (entRows ts)):=
 fun d W x y h hx hy=>order1_any h.tabs (by omega) (by omega) (by omega) rfl
structure SrtS (w:World) (d:List Nat) (ps:List Pth) (j:Nat) (v:Value) (qs:List Pth) (W:World):Prop where
 below:Below w.heap.size w W
 places:Whole W (w.heap.size+1) 3 (cel12 d)
 own:W.ownsRow (w.heap.size+2) 46 3 v j (qs.flatMap Pth.cells)
 each:∀q ∈ qs,W.ownsRow (w.heap.size+2) 66 3 (.slice q.A q.ss.length q.c) q.ss.length (q.ss.flatMap Ze)∧(q.ss.length:Int)≤9223372036854775807∧∀b,(Value.slice q.A q.ss.length q.c).ownBlock=some b→v.ownBlock≠some b
 vals:qs.map (fun q=>some (pk q))=(d.take j).map (fun i=>(ps[i]?).map pk)
theorem SrtS.next {w:World} {d:List Nat} {ps:List Pth} {j:Nat} {v v':Value} {qs:List Pth} {W w1 w':World} (h:SrtS w d ps j v qs W) (hj:j<d.length) {p:Pth} (hp:ps[at12 d j]? =some p) (hpl:(p.ss.length:Int)≤9223372036854775807) {A1:Option Addr} {c1:Nat}
 (hB1:Below W.heap.size W w1) (ho:w1.ownsRow W.heap.size 66 3 (.slice A1 p.ss.length c1) p.ss.length (p.ss.flatMap Ze))
 (r2:w'.ownsRow (w.heap.size+2) 46 3 v' (j+1) (qs.flatMap Pth.cells++Pth.cells ⟨p.s,p.x,A1,c1,p.ss⟩)) (r3:(w1.alloc (.cells #[.int .i64 p.s,.int .i64 p.x,.slice A1 p.ss.length c1] 46)).grownBy w' v.ownBlock) (r4:Below (w.heap.size+2) (w1.alloc (.cells #[.int .i64 p.s,.int .i64 p.x,.slice A1 p.ss.length c1] 46)) w') (r5:v'.ownBlock=v.ownBlock∨v'.ownBlock=some (w1.alloc (.cells #[.int .i64 p.s,.int .i64 p.x,.slice A1 p.ss.length c1] 46)).heap.size):
 SrtS w d ps (j+1) v' (qs++[⟨p.s,p.x,A1,c1,p.ss⟩]) w':=by
 have hb1:=below1 w1 (.cells #[.int .i64 p.s,.int .i64 p.x,.slice A1 p.ss.length c1] 46)
 have hBB:Below W.heap.size W (w1.alloc (.cells #[.int .i64 p.s,.int .i64 p.x,.slice A1 p.ss.length c1] 46)):=hB1.trans (hb1.mono hB1.size)
 have hsz:(w1.alloc (.cells #[.int .i64 p.s,.int .i64 p.x,.slice A1 p.ss.length c1] 46)).heap.size=w1.heap.size+1:=by simp
 have hpb:=h.places.lt
 have hws:=h.below.size
 have hvb:∀b,v.ownBlock=some b→w.heap.size+2≤b∧b<W.heap.size:=fun b hb=>h.own.lt b hb
 have hs1:=hB1.size
 refine⟨h.below.trans ((hBB.mono hws).trans (r4.mono (by omega))),(h.places.below hBB hpb).below r4 (by omega),by rw[List.flatMap_append];simpa using r2,fun q hq=>?_,?_⟩
 · rcases List.mem_append.1 hq with hq|hq
   · obtain⟨e1,e2,e3⟩:=h.each q hq;have e1':=Zh e1 hBB;refine⟨e1'.kept r3 ?_,e2,fun b hb=>?_⟩
     · cases hv:(Value.slice q.A q.ss.length q.c).ownBlock with
       |none=>exact .inl rfl
       |some b0=>exact .inr (fun e=>e3 b0 hv e.symm)
     · have hlt:=(e1.lt b hb).2;rcases r5 with r5|r5
       · rw[r5];exact e3 b hb
       · rw[r5,hsz];intro e;have :=Option.some.inj e;omega
   · obtain rfl:q=⟨p.s,p.x,A1,c1,p.ss⟩:=by simpa using hq
     have ho':=owns_base12 ho (base':=w.heap.size+2) (by omega);have e1':=Zh ho' hb1;refine⟨e1'.kept r3 ?_,hpl,fun b hb=>?_⟩
     · cases hv:(Value.slice A1 p.ss.length c1).ownBlock with
       |none=>exact .inl rfl
       |some b0=>exact .inr (fun e=>by have h1:=hvb b0 e.symm;have h2:=(ho.lt b0 hv).1;omega)
     · have h2:=ho.lt b hb;rcases r5 with r5|r5
       · rw[r5];intro e;have :=hvb b e;omega
       · rw[r5,hsz];intro e;have :=Option.some.inj e;omega
 · have e:d.take (j+1)=d.take j++[at12 d j]:=by rw[List.take_add_one,List.getElem?_eq_getElem hj,at_lt hj];rfl
   rw[List.map_append,e,List.map_append,h.vals];simp only[List.map_cons,List.map_nil,hp,Option.map_some,pk]
structure At9 (w2:World) (gm:Nat) (cs:List Value) (E:World→Prop) (W:World):Prop where
 below:Below gm w2 W
 box:Whole W gm 29 cs
 ext:E W
theorem At9.closed (w2:World) (gm:Nat) (cs:List Value) {E:World→Prop} (hE:Closed E):Closed (At9 w2 gm cs E):=fun W W' h hb=>
 ⟨h.below.trans (hb.mono (Nat.le_of_lt h.box.lt)),h.box.below hb h.box.lt,hE _ _ h.ext hb⟩
def Stays9 (gb:Nat) (E:World→Prop):Prop:=∀W W' k,E W→W.grownBy W' (some k)→gb≤k→E W'
theorem At9.grown {w2 W W':World} {gm gb k:Nat} {cs:List Value} {E:World→Prop} (hE:Stays9 gb E) (hg:gm<gb) (h:At9 w2 gm cs E W) (hgr:W.grownBy W' (some k)) (hk:gb≤k):At9 w2 gm cs E W':=
 ⟨h.below.grown hgr (Nat.le_of_lt h.box.lt) (fun j e=>by cases e;omega),h.box.kept hgr (by intro e;cases e;omega),hE _ _ _ h.ext hgr hk⟩
section
variable {α:Type} {f:α→List Value} {size:Nat}
end
theorem Closed.owns (gb e size n:Nat) (v:Value) (xs:List Value):Closed fun W=>W.ownsRow gb e size v n xs:=fun _ _ h hb=>Zh h hb
theorem indexI_any {l:List Int} {A:Option Addr} {c B:Nat} {w:World} (v:Int) (hR:Row w B A (nums .i64 l)) (hn:(l.length:Int)≤9223372036854775807):
 Calls Tryz.prog 205 #[.slice A l.length c,.int .i64 v] w fun e w'=>e= .returned (.int .i64 (idxV (fun x=>v==x) l))∧w'=w:=by
 go_enter Tryz.func205,Tryz.ntmps205
 go_wp2_with fail
 go_loopw [8] (fun i wr=>∃j:Nat,j≤l.length∧i= .int .i64 j∧wr=w∧Hid (Zl (fun x=>v==x) l j))
  (fun i _=>l.length - (intOf i).toNat)
 case atStart=>exact⟨0,by omega,rfl,rfl,Zz (Zl.zero _ _)⟩
 case round=>
  obtain⟨j,hj,rfl,rfl,HNo⟩:=hrel;by_cases hlt:j<l.length
  · have hlt':(j:Int)<l.length:=by omega
    obtain⟨x,hx⟩:∃x,l[j]? =some x:=⟨_,List.getElem?_eq_getElem hlt⟩;have HX:=Zz hx;clear hx;obtain⟨b,off,rfl,_,c0⟩:∃b off,A=some ⟨b,off,none⟩∧b<B∧wr.cell? ⟨b,off+j,none⟩=some (.int .i64 x):=by
     obtain⟨b,off,e,h1,h2⟩:=hR.num hlt;rw[HX.out] at h2;exact⟨b,off,e,h1,h2⟩
    by_cases hpr:v=x
    · have HI:=Zz (HNo.out.idx HX.out (show(v==x)=true by simp[hpr]));subst hpr;go_wp2_with fail;go_ret;exact⟨ret_int HI.out.symm,rfl⟩
    · have HN:=Zz (HNo.out.succ HX.out (show(v==x)=false by simp[hpr]));go_wp2_with fail;go_roundw
      case rel=>exact⟨j+1,hlt,by go_num,by trivial,HN⟩
      case measure=>simp[intOf];omega
  · obtain rfl:j=l.length:=by omega
    have HI:=Zz HNo.out.idx_no;go_wp2_with fail;go_ret;exact⟨ret_int HI.out.symm,rfl⟩
theorem idx_contains (l:List Int) (v:Int):(decide (0≤idxV (fun x=>v==x) l))=l.contains v:=by
 rw[Bool.eq_iff_iff,decide_eq_true_eq,List.contains_iff_mem];unfold idxV;cases e:l.findIdx? (fun x=>v==x) with
 |none=>
  simp only[List.findIdx?_eq_none_iff] at e;constructor
  · intro h;simp at h
  · intro h;have :=e v h;simp at this
 |some i=>
  obtain⟨hi,hp,_⟩:=List.findIdx?_eq_some_iff_getElem.1 e;constructor
  · intro _;have :v=l[i]:=by simpa using hp
    rw[this];exact List.getElem_mem hi
  · intro _;simp
theorem containsI_any {l:List Int} {A:Option Addr} {c B:Nat} {w:World} (v:Int) (hR:Row w B A (nums .i64 l)) (hn:(l.length:Int)≤9223372036854775807) {r:Bool} (hr:l.contains v=r):
 Calls Tryz.prog 191 #[.slice A l.length c,.int .i64 v] w fun e w'=>e= .returned (.bool r)∧w'=w:=by
 have hx:=(idx_contains l v).trans hr
 clear hr
 go_enter Tryz.func191,Tryz.ntmps191
 go_wp2_with fail
 refine(indexI_any v hR hn).mono ?_
 rintro e w' ⟨rfl,rfl⟩
 generalize idxV (fun x=>v==x) l=z at hx
 go_wp2_with fail
 go_ret
 exact⟨rfl,rfl⟩
structure OvI (l:Lay) (x:Exm) (w:World) (gf:Nat) (p:Int×Int) (A:Option Addr) (c:Nat) (seen:List Int) (W:World):Prop where
 below:Below w.heap.size w W
 boxL:Whole W w.heap.size 29 l.cells
 boxX:Whole W (w.heap.size+1) 87 x.cells
 boxF:Whole W gf 59 (Zf p)
 low:w.heap.size+2≤gf
 own:W.ownsRow (w.heap.size+2) 3 1 (.slice A seen.length c) seen.length (nums .i64 seen)
theorem OvI.keep {l:Lay} {x:Exm} {w W W':World} {gf:Nat} {p:Int×Int} {A:Option Addr} {c:Nat} {seen:List Int} (h:OvI l x w gf p A c seen W) (hb:Below W.heap.size W W'):OvI l x w gf p A c seen W':=
 ⟨h.below.trans (hb.mono h.below.size),h.boxL.below hb h.boxL.lt,h.boxX.below hb h.boxX.lt,h.boxF.below hb h.boxF.lt,h.low,Zh h.own hb⟩
theorem OvI.closed (l:Lay) (x:Exm) (w:World) (gf:Nat) (p:Int×Int) (A:Option Addr) (c:Nat) (seen:List Int):Closed (OvI l x w gf p A c seen):=fun _ _ h hb=>h.keep hb
theorem owns_one {W:World} {base g:Nat} {e:TypeId} {v:Value} (h:Whole W g e [v]) (hb:base≤g):W.ownsRow base e 1 (.slice (some ⟨g,0,none⟩) 1 1) 1 [v]:=
 owns_of_whole h hb (Nat.le_refl _) (by unfold maxLen;omega) rfl
theorem OvI.start {l:Lay} {x:Exm} {w W0 W:World} {gf ga:Nat} (hB:Below w.heap.size w W0) (b0:Whole W0 w.heap.size 29 l.cells) (b1:Whole W0 (w.heap.size+1) 87 x.cells) (hsz:W0.heap.size=w.heap.size+2)
 (hW:Below W0.heap.size W0 W) (hF:Whole W gf 59 (Zf (x.s,x.q))) (hA:Whole W ga 3 [.int .i64 x.s]) (hf:W0.heap.size≤gf) (ha:W0.heap.size≤ga):OvI l x w gf (x.s,x.q) (some ⟨ga,0,none⟩) 1 [x.s] W:=
 ⟨hB.trans (hW.mono hB.size),b0.below hW b0.lt,b1.below hW b1.lt,hF,by omega,owns_one hA (by omega)⟩
theorem owns_not {W:World} {base e s n g:Nat} {v:Value} {xs:List Value} {t:TypeId} {cs:List Value} (h:W.ownsRow base e s v n xs) (hF:Whole W g t cs) (he:e≠t):v.ownBlock≠some g:=by
 rcases h.2 with ⟨rfl,_⟩|⟨g',cap,cur,rfl,h3,h4,_⟩
 · intro e;cases e
 · intro e;have :g'=g:=by simpa [Value.ownBlock] using e
   subst this;have h5:=h4.symm.trans hF;cases h5;exact he rfl
theorem whole_ne {W:World} {a b:Nat} {t t':TypeId} {cs cs':List Value} (h:Whole W a t cs) (k:Whole W b t' cs') (he:t≠t'):a≠b:=by
 rintro rfl;have h5:=h.symm.trans k;cases h5;exact he rfl
theorem owns_past {w:World} {base e size n:Nat} {v:Value} {xs:List Value} (h:w.ownsRow base e size v n xs) {p:Addr} (hp:v.ownBlock≠some p.block) (u:Value):(w.setCell p u).ownsRow base e size v n xs:=
 h.kept (row:=some p.block) ⟨rfl,rfl,rfl,by simp[World.setCell],fun k _ hk=>Below.heap_setCell _ _ _ _ (fun e=>hk (by rw[e]))⟩ (by
  rcases h.2 with ⟨rfl,_⟩|⟨g,cap,cur,rfl,h3,_⟩
  · exact .inl rfl
  · exact .inr hp)
theorem OvI.append {l:Lay} {x:Exm} {w W:World} {gf:Nat} {p:Int×Int} {A:Option Addr} {c:Nat} {seen:List Int} (h:OvI l x w gf p A c seen W) {m:Int} {a:Nat} (ha:Whole W a 3 [.int .i64 m]) (hn:seen.length≤1000) {g:Nat} {cs:List Value} (hg:Whole W g 66 cs):
 ∃A' c' w',(Builtin.append_ #[30,30] 30 #[.slice A seen.length c,.slice (some ⟨a,0,none⟩) 1 1]).run Tryz.prog W= .ok (.slice A' (seen++[m]).length c') w'∧OvI l x w gf p A' c' (seen++[m]) w'∧Whole w' g 66 cs:=by
 have hlo:w.heap.size+2≤W.heap.size:=h.boxX.lt
 obtain⟨v',w',hrun,hown,hgr,hB⟩:=append_int (w.heap.size+2) seen.length _ (nums .i64 seen) m W a h.own (ha.Za 0 rfl) hn hlo
 obtain⟨A',c',rfl,_,_⟩:=owns_slice hown
 have e:(nums .i64 (seen++[m]))=nums .i64 seen++[.int .i64 m]:=by simp[nums]
 refine⟨A',c',w',by rw[List.length_append];exact hrun,⟨h.below.trans (hB.mono (by omega)),h.boxL.below hB (by omega),h.boxX.below hB (by omega),h.boxF.kept hgr (owns_not h.own h.boxF (by decide)).symm,h.low,?_⟩,hg.kept hgr (owns_not h.own hg (by decide)).symm⟩
 rw[e,List.length_append]
 exact hown
theorem OvI.store {l:Lay} {x:Exm} {w W:World} {gf:Nat} {p:Int×Int} {A:Option Addr} {c:Nat} {seen:List Int} (h:OvI l x w gf p A c seen W) (a b:Int):OvI l x w gf (a,b) A c seen ((W.setCell ⟨gf,0,none⟩ (.int .i64 a)).setCell ⟨gf,1,none⟩ (.int .i64 b)):=by
 have hl:=h.low;have hb:∀v u,Below (w.heap.size+2) W ((W.setCell ⟨gf,0,none⟩ v).setCell ⟨gf,1,none⟩ u):=fun v u=>((Below.refl _ W).setCell (p:=⟨gf,0,none⟩) hl v).setCell (p:=⟨gf,1,none⟩) hl u;have hn:=owns_not h.own h.boxF (by decide);exact⟨h.below.trans ((hb _ _).mono (by omega)),h.boxL.below (hb _ _) (by omega),h.boxX.below (hb _ _) (by omega),(h.boxF.set 0 _).set 1 _,h.low,owns_past (p:=⟨gf,1,none⟩) (owns_past (p:=⟨gf,0,none⟩) h.own hn _) hn _⟩
theorem over_any {l:Lay} {x:Exm} {w:World} (hT:Shapes w) (hL:Lies l w) (hO:Row w w.heap.size x.A (x.over.flatMap Ze)) (hn:(x.over.length:Int)≤1000) {r:Bool} (hr:overV l x=r):
 Calls Tryz.prog 164 #[l.val,x.val] w fun e w'=>e= .returned (.bool r)∧Below w.heap.size w w':=by
 have HTW:Hid (∀W,Below w.heap.size w W→Shapes W∧Lies l W∧Row W w.heap.size x.A (x.over.flatMap Ze)):=Zz fun W hB=>⟨Shapes.closed _ _ hT hB,Lies.closed l _ _ hL hB,hO.below hB⟩
 have HR:=Zz hr
 clear hT hL hO hr
 obtain⟨W0,hW0⟩:∃W0,(w.alloc (.cells #[.slice l.As l.secs.length l.cs,.slice l.Ag l.sigs.length l.cg,.slice l.Ae l.exits.length l.ce,.slice l.Af l.flanks.length l.cf,.int .i64 l.t0,.int .i64 l.t1,.int .i64 l.t2,.int .i64 l.t3,.int .i64 l.t4,.int .i64 l.t5,.int .i64 l.t6] 29)).alloc (.cells #[.int .i64 x.s,.int .i64 x.q,.slice x.A x.over.length x.c] 87)=W0:=⟨_,rfl⟩
 have HSZ:Hid (W0.heap.size=w.heap.size+2):=Zz (by rw[←hW0];simp)
 have HB0:Hid (Below w.heap.size w W0):=Zz (by rw[←hW0];exact below2 _ _ _)
 have b0:Whole W0 w.heap.size 29 l.cells:=by rw[←hW0];exact(Whole.new w _ l.cells).alloc _
 have b1:Whole W0 (w.heap.size+1) 87 x.cells:=by rw[←hW0];exact Whole.Zj _ _ x.cells _ (by simp)
 have HW0:=Zz hW0
 clear hW0
 obtain⟨x0,x1⟩:=b1.c2
 go_enter Tryz.func164,Tryz.ntmps164
 go_wp2_with fail
 refine wp_scope_fwd (l:=0) rfl ?_
 rw[HW0.out]
 go_upto_region 1 with (fail)
 go_cut [5,6] from 9 to 15 (fun f t wx=>∃gf A c,f= .pointer (some ⟨gf,0,none⟩)∧t= .slice A [x.s].length c∧Hid (OvI l x w gf (x.s,x.q) A c [x.s] wx))
 case first=>
  have y0:=fun o=>(b1.alloc o).Za 0 rfl;have y1:=fun o=>(b1.alloc o).Za 1 rfl;have y2:=fun o o'=>((b1.alloc o).alloc o').Za 0 rfl;have y3:=fun o o'=>((b1.alloc o).alloc o').Za 1 rfl;have y4:=fun o u v=>(((b1.alloc o).far (p:=⟨W0.heap.size,0,none⟩) (by show w.heap.size+1≠W0.heap.size;rw[HSZ.out];omega) u).far (p:=⟨W0.heap.size,1,none⟩) (by show w.heap.size+1≠W0.heap.size;rw[HSZ.out];omega) v).Za 0 rfl;go_region
  · go_wp2_with fail;go_meet
    exact⟨W0.heap.size+1,some ⟨W0.heap.size,0,none⟩,1,rfl,rfl,Zz (OvI.start HB0.out b0 b1 HSZ.out (below2 W0 _ _).drew (Whole.Zj _ _ (Zf (x.s,x.q)) _ (by simp)) ((Whole.new W0 _ [_]).alloc _) (by omega) (Nat.le_refl _))⟩
  · go_wp2_with fail;go_meet
    exact⟨W0.heap.size,some ⟨W0.heap.size+1,0,none⟩,1,rfl,rfl,Zz (OvI.start HB0.out b0 b1 HSZ.out (below2 W0 _ _).drew ((Whole.new W0 _ (Zf (x.s,x.q))).alloc _) (Whole.Zj _ _ [_] _ (by simp)) (Nat.le_refl _) (by omega))⟩
 case rest=>
  obtain⟨gf,A,c,rfl,rfl,HO⟩:=hcut;clear x0 x1 b0 b1 HSZ HB0 HW0;have x2:=HO.out.boxX.Za 2 rfl;go_wp2_with fail;clear x2;go_loopw [18,6] (fun i t wr=>∃(j:Nat) (p:Int×Int) (A:Option Addr) (c:Nat) (seen:List Int),j≤x.over.length∧i= .int .i64 j∧t= .slice A seen.length c∧Hid (OvI l x w gf p A c seen wr∧overGo l p seen (x.over.drop j)=r∧seen.length=j+1)) (fun i _ _=>x.over.length - (intOf i).toNat)
  case atStart=>exact⟨0,(x.s,x.q),A,c,[x.s],by omega,rfl,rfl,Zz ⟨HO.out,by rw[←HR.out];rfl,rfl⟩⟩
  case round=>
   clear HO;obtain⟨j,p,A,c,seen,hj,rfl,rfl,HM⟩:=hrel;by_cases hlt:j<x.over.length
   · have hlt':(j:Int)<x.over.length:=by omega
     obtain⟨s,hs⟩:∃s,x.over[j]? =some s:=⟨_,List.getElem?_eq_getElem hlt⟩;have HS:=Zz hs;obtain⟨b,off,hA,_,hc0,hc⟩:=(HTW.out _ HM.out.1.below).2.2.nth (n:=3) (fun _=>rfl) (by omega) hs;have c0:=hc0 j _ _ hs rfl;have c1:=hc j _ 1 _ hs rfl;have c2:=hc j _ 2 _ hs rfl;clear hs hc0 hc;rw[hA];obtain⟨ss,si,so⟩:=s;go_upto_region 5 with (fail)
     obtain⟨g,hg⟩:∃g,wr.heap.size=g:=⟨_,rfl⟩;obtain⟨W1,hW1⟩:∃W1,wr.alloc (.cells #[.int .i64 ss,.int .i64 si,.int .i64 so] 66)=W1:=⟨_,rfl⟩;have hgW:Whole W1 g 66 (Ze (ss,si,so)):=by rw[←hW1];exact Whole.Zj _ _ (Ze (ss,si,so)) _ hg.symm
     have hO1:OvI l x w gf p A c seen W1:=by rw[←hW1];exact HM.out.1.keep (below1 wr _)
     have HOG:Hid (overGo l p seen ((ss,si,so)::x.over.drop (j+1))=r):=Zz (by rw[←HM.out.2.1,drop_at HS.out]);have HLN:=Zz HM.out.2.2;have hglo:w.heap.size+2≤g:=by have :=HM.out.1.boxX.lt;omega
     rw[hW1,hg];clear hW1 HM hg c0 c1 c2;obtain⟨Q,HQ,HQx,hq⟩:∃Q:World→Prop,Hid (Closed Q)∧Hid (∀W,Q W→OvI l x w gf p A c seen W∧Whole W g 66 (Ze (ss,si,so)))∧Q W1:=
      ⟨fun W=>OvI l x w gf p A c seen W∧Whole W g 66 (Ze (ss,si,so)),Zz ((OvI.closed _ _ _ _ _ _ _ _).and (Closed.whole _ _ _)),Zz fun _ h=>h,hO1,hgW⟩;clear hO1 hgW;obtain⟨⟨qs,qq⟩,hqv⟩:∃q,Zt l p.1 p.2=q:=⟨_,rfl⟩;have KB:=Zz (fun W hW=>beyond_B (w:=W) (HTW.out W (HQx.out W hW).1.below).1 (HTW.out W (HQx.out W hW).1.below).2.1 p.1 p.2 hqv);have HQV:=Zz hqv;clear hqv;by_cases he:qs=ss∧qq=si
     · obtain⟨rfl,rfl⟩:=he;have HBS:Hid (∀W,Below W1.heap.size W1 W→Q W):=Zz (fun W hB=>HQ.out _ _ hq hB);clear hq;refine rmx W1 f9 (by kernel_rfl) (by kernel_rfl) ?_;simp only[Zg,f9,Lm,Ln];repeat ((first|(refine Zb (by rfl) ?_)|(refine mrd HBS _ (by rfl) (fun W hW=>by(obtain⟨hO,hs⟩:=HQx.out W hW;have x0:=hO.boxL.Za 0 rfl;have x1:=hO.boxL.Za 1 rfl;have x2:=hO.boxL.Za 2 rfl;have x3:=hO.boxL.Za 3 rfl;have x4:=hO.boxL.Za 4 rfl;have x5:=hO.boxL.Za 5 rfl;have x6:=hO.boxL.Za 6 rfl;have x7:=hO.boxL.Za 7 rfl;have x8:=hO.boxL.Za 8 rfl;have x9:=hO.boxL.Za 9 rfl;have x10:=hO.boxL.Za 10 rfl;have p0:=hO.boxF.Za 0 rfl;have p1:=hO.boxF.Za 1 rfl;obtain⟨s0,s1,s2⟩:=hs.c3;clear hO hs;go_simp;first|done|with_reducible rfl)) ?_)|(refine mcl HBS _ _ _ (by rfl) (fun W hW=>by(obtain⟨hO,hs⟩:=HQx.out W hW;have x0:=hO.boxL.Za 0 rfl;have x1:=hO.boxL.Za 1 rfl;have x2:=hO.boxL.Za 2 rfl;have x3:=hO.boxL.Za 3 rfl;have x4:=hO.boxL.Za 4 rfl;have x5:=hO.boxL.Za 5 rfl;have x6:=hO.boxL.Za 6 rfl;have x7:=hO.boxL.Za 7 rfl;have x8:=hO.boxL.Za 8 rfl;have x9:=hO.boxL.Za 9 rfl;have x10:=hO.boxL.Za 10 rfl;have p0:=hO.boxF.Za 0 rfl;have p1:=hO.boxF.Za 1 rfl;obtain⟨s0,s1,s2⟩:=hs.c3;clear hO hs;go_simp;first|done|rfl)) (fun W hW=>KB.out W (HBS.out W hW)) ?_));simp only[Act.put,La,Lb,Lc])
       refine Zd (fun W hW=>?_);have hq:=HBS.out W hW;clear hW HBS;obtain⟨cv,hcv⟩:∃cv,seen.contains qs=cv:=⟨_,rfl⟩;have HCV:=Zz hcv;have hRow:Row W W.heap.size A (nums .i64 seen):=by
        obtain⟨A',c',e,h,_⟩:=owns_slice (HQx.out W hq).1.own;cases e;exact h
       have s0:=(HQx.out W hq).2.Za 0 rfl;have KC:=Zz (containsI_any (c:=c) qs hRow (by rw[HLN.out];omega) hcv);clear hcv hRow;go_wp2_with fail;refine KC.out.mono ?_;clear s0 KC;rintro e w' ⟨rfl,rfl⟩;have HQW:=Zz hq;clear hq;cases cv
       · have HG:Hid (overGo l (qs,so) (seen++[qs]) (x.over.drop (j+1))=r):=Zz (by have :=HOG.out;unfold overGo at this;rw[HQV.out,decide_eq_true rfl,HCV.out] at this;simpa using this);clear HOG;go_upto_region 7 with (fail)
         have HX:Hid (∀W,Below w'.heap.size w' W→OvI l x w gf p A c seen W∧Whole W g 66 (Ze (qs,qq,so))):=Zz fun W hW=>⟨(HQx.out _ HQW.out).1.keep hW,(HQx.out _ HQW.out).2.below hW (HQx.out _ HQW.out).2.lt⟩;have HL1:Hid (seen.length≤1000):=Zz (by rw[HLN.out];omega);have HSn:Hid (w.heap.size+2≤w'.heap.size):=Zz (HQx.out _ HQW.out).1.boxX.lt;refine region_mix (fun W=>Whole W g 66 (Ze (qs,qq,so))) [(0,false),(1,false),(2,false),(3,false),(4,false),(5,false),(6,false),(7,false),(8,true),(9,true),(10,true),(11,false)] (by kernel_rfl) (by kernel_rfl) (fun W=>Below w'.heap.size w' W∧(OvI l x w gf p A c seen W∧Whole W g 66 (Ze (qs,qq,so)))) ⟨(Closed.below w').and ((OvI.closed _ _ _ _ _ _ _ _).and (Closed.whole _ _ _)),fun _ h=>h.2.2⟩ ⟨(Below.refl _ _).drew,HX.out _ (Below.refl _ _).drew⟩ ?_;simp only[Zg,Lm,Ln];repeat ((first|(refine Zb (by rfl) ?_)|(refine Zn _ (by rfl) (fun W hs=>by(obtain⟨s0,s1,s2⟩:=hs.c3;clear hs;go_simp;first|done|with_reducible rfl)) ?_));simp only[Act.put,La,Lb,Lc])
         refine mix_make (fun g=>.slice (some ⟨g,0,none⟩) 1 1) w'.heap.size 3 [.int .i64 qs] ⟨(Closed.below w').and ((OvI.closed _ _ _ _ _ _ _ _).and (Closed.whole _ _ _)),fun _ h=>h.2.2⟩ (fun _ h=>h.1.size) (by rfl) (fun W hW=>by(clear hW;go_simp;first|done|with_reducible rfl)) (fun ga hga=>?_);simp only[Act.put,La,Lb,Lc];refine mix_yield (X:=Option Addr×Nat) (fun B=>.slice B.1 (seen++[qs]).length B.2) (fun B W=>OvI l x w gf p B.1 B.2 (seen++[qs]) W∧Whole W g 66 (Ze (qs,qq,so))) (fun B=>⟨(OvI.closed _ _ _ _ _ _ _ _).and (Closed.whole _ _ _),fun W h=>h.2⟩) (by rfl) (fun W hW=>?_) (fun B=>?_)
         · obtain⟨A2,c2,w6,h1,h2,h3⟩:=hW.1.2.1.append hW.2 HL1.out hW.1.2.2;exact⟨(A2,c2),w6,exec_append (.tmp 40) (.tmp 43) 30 rfl h1,h2,h3⟩
         simp only[Act.put,La,Lb,Lc];refine mix_within 59 (.tmp 5) (.tmp 39) gf 0 [.int .i64 qs,.int .i64 so] (fun W=>OvI l x w gf (qs,so) B.1 B.2 (seen++[qs]) W∧Whole W g 66 (Ze (qs,qq,so))) ⟨(OvI.closed _ _ _ _ _ _ _ _).and (Closed.whole _ _ _),fun W h=>h.2⟩ rfl (by rfl) (by rfl) (by kernel_rfl) (by rfl) (by rfl) (fun W hW=>hW.1.boxF.there) (fun W hW=>⟨hW.1.store qs so,?_⟩) ?_
         · have hne:=whole_ne hW.1.boxF hW.2 (by decide);exact(hW.2.far (p:=⟨gf,0,none⟩) (fun e=>hne e.symm) _).far (p:=⟨gf,1,none⟩) (fun e=>hne e.symm) _
         simp only[Act.put,La,Lb,Lc];repeat ((first|(refine Zb (by rfl) ?_)|(refine Zn _ (by rfl) (fun W hs=>by(clear hs;go_simp;first|done|with_reducible rfl)) ?_));simp only[Act.put,La,Lb,Lc])
         refine Zd (fun W hW=>?_);have HOW:=Zz hW.1;clear hW;go_wp2_with fail;go_roundw
         case rel=>exact⟨j+1,(qs,so),B.1,B.2,seen++[qs],hlt,by go_num,by rw[List.length_append];rfl,Zz ⟨HOW.out,HG.out,by rw[List.length_append,HLN.out];rfl⟩⟩
         case measure=>simp[intOf];omega
       · have HF:Hid (false=r):=Zz (by have :=HOG.out;unfold overGo at this;rw[HQV.out,decide_eq_true rfl,HCV.out] at this;simpa using this);have HB:=Zz (HQx.out _ HQW.out).1.below;clear HQW HOG;go_wp2_with fail;go_step3
         simp +zetaDelta only[Exit.inBlock,Exit.then,fwd_goto];refine⟨trivial,?_⟩;go_wp2_with fail;rw[Exit.noGoto_ret];go_ret;exact⟨Zc HF.out,HB.out⟩
     · have H1:Hid (qs=ss→¬qq=si):=Zz fun e f=>he ⟨e,f⟩;have HF:Hid (false=r):=Zz (by rw[←HOG.out];unfold overGo;rw[HQV.out,decide_eq_false (fun e=>he ⟨congrArg Prod.fst e,congrArg Prod.snd e⟩)];rfl);clear he HOG;have HBS:Hid (∀W,Below W1.heap.size W1 W→Q W):=Zz (fun W hB=>HQ.out _ _ hq hB);clear hq;refine rmx W1 f9 (by kernel_rfl) (by kernel_rfl) ?_;simp only[Zg,f9,Lm,Ln];repeat ((first|(refine mrd HBS (.bool true) (by rfl) (fun W hW=>by(obtain⟨hO,hs⟩:=HQx.out W hW;have x0:=hO.boxL.Za 0 rfl;have x1:=hO.boxL.Za 1 rfl;have x2:=hO.boxL.Za 2 rfl;have x3:=hO.boxL.Za 3 rfl;have x4:=hO.boxL.Za 4 rfl;have x5:=hO.boxL.Za 5 rfl;have x6:=hO.boxL.Za 6 rfl;have x7:=hO.boxL.Za 7 rfl;have x8:=hO.boxL.Za 8 rfl;have x9:=hO.boxL.Za 9 rfl;have x10:=hO.boxL.Za 10 rfl;have p0:=hO.boxF.Za 0 rfl;have p1:=hO.boxF.Za 1 rfl;obtain⟨s0,s1,s2⟩:=hs.c3;clear hO hs;have d1:=H1.out;go_simp;first|done|exact d1)) ?_)|(refine Zb (by rfl) ?_)|(refine mrd HBS _ (by rfl) (fun W hW=>by(obtain⟨hO,hs⟩:=HQx.out W hW;have x0:=hO.boxL.Za 0 rfl;have x1:=hO.boxL.Za 1 rfl;have x2:=hO.boxL.Za 2 rfl;have x3:=hO.boxL.Za 3 rfl;have x4:=hO.boxL.Za 4 rfl;have x5:=hO.boxL.Za 5 rfl;have x6:=hO.boxL.Za 6 rfl;have x7:=hO.boxL.Za 7 rfl;have x8:=hO.boxL.Za 8 rfl;have x9:=hO.boxL.Za 9 rfl;have x10:=hO.boxL.Za 10 rfl;have p0:=hO.boxF.Za 0 rfl;have p1:=hO.boxF.Za 1 rfl;obtain⟨s0,s1,s2⟩:=hs.c3;clear hO hs;have d1:=H1.out;go_simp;first|done|with_reducible rfl)) ?_)|(refine mcl HBS _ _ _ (by rfl) (fun W hW=>by(obtain⟨hO,hs⟩:=HQx.out W hW;have x0:=hO.boxL.Za 0 rfl;have x1:=hO.boxL.Za 1 rfl;have x2:=hO.boxL.Za 2 rfl;have x3:=hO.boxL.Za 3 rfl;have x4:=hO.boxL.Za 4 rfl;have x5:=hO.boxL.Za 5 rfl;have x6:=hO.boxL.Za 6 rfl;have x7:=hO.boxL.Za 7 rfl;have x8:=hO.boxL.Za 8 rfl;have x9:=hO.boxL.Za 9 rfl;have x10:=hO.boxL.Za 10 rfl;have p0:=hO.boxF.Za 0 rfl;have p1:=hO.boxF.Za 1 rfl;obtain⟨s0,s1,s2⟩:=hs.c3;clear hO hs;have d1:=H1.out;go_simp;first|done|rfl)) (fun W hW=>KB.out W (HBS.out W hW)) ?_));simp only[Act.put,La,Lb,Lc])
       refine Zd (fun W hW=>?_);have hq:=HBS.out W hW;clear hW HBS;have HB:=Zz (HQx.out W hq).1.below;clear hq;go_wp2_with fail;go_step3
       simp +zetaDelta only[Exit.inBlock,Exit.then,fwd_goto];refine⟨trivial,?_⟩;go_wp2_with fail;rw[Exit.noGoto_ret];go_ret;exact⟨Zc HF.out,HB.out⟩
   · obtain rfl:j=x.over.length:=by omega
     have HF:Hid (true=r):=Zz (by rw[←HM.out.2.1,List.drop_length];rfl);have HB:=Zz HM.out.1.below;clear HM;go_wp2_with fail;rw[fwd_ret];go_ret;exact⟨Zc HF.out,HB.out⟩
theorem list_slice {P:Program} {ops:Array Oper} {rest:List Oper} {o:Oper} {a:Act} {w:World} {Q:Exit→Act→World→Prop} (hgd:o.guard=none) (t:TypeId) (x:Operand) (lo hi mx:Option Operand)
 (ho:o.op= .slice t x lo hi mx) {v:Value} (hrun:(Instr.sliceAt t (a.eval x) (lo.map a.eval) (hi.map a.eval) (mx.map a.eval)).run P w= .ok v w) (h:wpList P ops Q rest (a.put o.dst v) w):wpList P ops Q (o::rest) a w:=
 wpList_plain hgd fun K hK=>by
  unfold Oper.wp execOp;simp only[ho,Sem.run_bind,Sem.run_pure,Result.andThen_ok,hrun];exact hK _ _ h
section
variable {P:World→Prop} {w:World}
end
end
end Go.Proofs.YtifnlhfinjfajaaGreatDoor
