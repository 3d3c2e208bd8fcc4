/- Of this seat: RnkA, RnkB, RnkC, RnkD, MixW. -/
import Derived.Lib.MinMax
import Derived.Test.YtifnlhfinjfajaaGreatDoorK10
namespace Go.Proofs.YtifnlhfinjfajaaGreatDoor
set_option linter.unusedVariables false
set_option linter.unusedSimpArgs false
set_option maxRecDepth 100000
set_option maxHeartbeats 32000000
section
open Go.RowKit Go.Shelf
def cmpI (a b:Int):Int:=if a<b then -1 else if b<a then 1 else 0
theorem isNaN_any (x:Int) (w:World):Calls Tryz.prog 202 #[.int .i64 x] w fun e w'=>e= .returned (.bool false)∧w'=w:=by
 go_enter Tryz.func202,Tryz.ntmps202;go_wp2_with fail;go_ret;exact⟨by simp,rfl⟩
theorem cmpInt_any (a b:Int) {r:Int} (hr:cmpI a b=r) (w:World):Calls Tryz.prog 177 #[.int .i64 a,.int .i64 b] w fun e w'=>e= .returned (.int .i64 r)∧Below w.heap.size w w':=by
 unfold cmpI at hr;have hB:=Below.refl w.heap.size w;have HB:=Zz hB;clear hB;by_cases h1:a<b
 · rw[if_pos h1] at hr;subst hr;go_enter Tryz.func177,Tryz.ntmps177;go_wp2_with fail;refine(isNaN_any _ _).mono ?_;rintro e w1 ⟨rfl,rfl⟩;go_wp2_with fail;refine(isNaN_any _ _).mono ?_;rintro e w1 ⟨rfl,rfl⟩;go_wp2_with fail;go_ret;exact⟨rfl,HB.out⟩
 · rw[if_neg h1] at hr;by_cases h2:b<a
   · rw[if_pos h2] at hr;subst hr;go_enter Tryz.func177,Tryz.ntmps177;go_wp2_with fail;refine(isNaN_any _ _).mono ?_;rintro e w1 ⟨rfl,rfl⟩;go_wp2_with fail;refine(isNaN_any _ _).mono ?_;rintro e w1 ⟨rfl,rfl⟩;go_wp2_with fail;go_ret;exact⟨rfl,HB.out⟩
   · rw[if_neg h2] at hr;subst hr;go_enter Tryz.func177,Tryz.ntmps177;go_wp2_with fail;refine(isNaN_any _ _).mono ?_;rintro e w1 ⟨rfl,rfl⟩;go_wp2_with fail;refine(isNaN_any _ _).mono ?_;rintro e w1 ⟨rfl,rfl⟩;go_wp2_with fail;go_ret;exact⟨rfl,HB.out⟩
theorem wp_scope_jumps12 {P:Program} {a:Act} {w:World} {Q:Exit→Act→World→Prop} {c rest:Code} (l:Nat) (J:Act→World→Prop) (μ:Act→World→Nat) (hf:findLabel c l=some (Code.seq .skip rest))
 (pass:∀a w,J a w→rest.wp P (Exit.jump l (fun a' w'=>J a' w'∧μ a' w'<μ a w) Q) a w) (first:(∀a w,J a w→rest.wp P (Exit.jump l J Q) a w)→c.wp P (Exit.jump l J Q) a w):(Code.scope c).wp P Q a w:=
 wp_scope_jumps l J μ hf (first fun a w h=>Code.wp_mono (fun e a' w' hq=>by
  cases e with
  |goto l'=>exact⟨hq.1,hq.2.1⟩
  |_=>exact hq) (pass a w h)) fun a w h=>wp_seq (wp_skip (show Exit.then _ _ Exit.normal a w from pass a w h))
theorem cmpR_take {xs ys:List Int} {k:Nat} {a:Int} (ha:xs[k]? =some a) (hb:ys[k]? =some a) (he:xs.take k=ys.take k):xs.take (k+1)=ys.take (k+1):=by
 rw[List.take_add_one,List.take_add_one,ha,hb,he]
theorem compare_any {xs ys:List Int} {A B:Option Addr} (ca cb:Nat) {w:World} (hA:Row w w.heap.size A (nums .i64 xs)) (hB:Row w w.heap.size B (nums .i64 ys)) (hx:xs.length≤1099511627776) (hy:ys.length≤1099511627776) {r:Int} (hr:cmpR xs ys=r):
 Calls Tryz.prog 140 #[.slice A xs.length ca,.slice B ys.length cb] w fun e w'=>e= .returned (.int .i64 r)∧Below w.heap.size w w':=by
 have HA:=Zz hA
 have HB:=Zz hB
 have HR:=Zz hr
 clear hA hB hr
 go_enter Tryz.func140,Tryz.ntmps140
 go_wp2
 refine wp_scope_jumps12 0 (fun a' W=>∃(k:Nat) (u6 u7 u8 u9 u10 u11 u12 u13 u14 u15 u16 u17 u18 u19 u20 u21 u22 u23 u24 u25 u26 u27 u28 u29 u30 u31 u32 u33 u34 u35 u36 u37 u38 u39 u40:Value),(k≤xs.length∧k≤ys.length∧Below w.heap.size w W∧Hid (xs.take k=ys.take k)) ∧
  a'= {tmps:=#[.slice A xs.length ca,.slice B ys.length cb,undef,undef,.int .i64 0,.int .i64 (k:Int),u6,u7,u8,u9,u10,u11,u12,u13,u14,u15,u16,u17,u18,u19,u20,u21,u22,u23,u24,u25,u26,u27,u28,u29,u30,u31,u32,u33,u34,u35,u36,u37,u38,u39,u40],defers:=[]})
  (fun a' _=>xs.length - (intOf (a'.tmps.getD 5 undef)).toNat) rfl ?pass ?first
 case first=>
  intro htail;go_wp2_with fail;go_step3
  rename_i hK
  refine hK _ _ ?_;exact htail _ _ ⟨0,_,_,_,_,_,_,_,_,_,_,_,_,_,_,_,_,_,_,_,_,_,_,_,_,_,_,_,_,_,_,_,_,_,_,_,⟨Nat.zero_le _,Nat.zero_le _,Below.refl _ _,Zz rfl⟩,rfl⟩
 case pass=>
  rintro a' wr ⟨k,u6,u7,u8,u9,u10,u11,u12,u13,u14,u15,u16,u17,u18,u19,u20,u21,u22,u23,u24,u25,u26,u27,u28,u29,u30,u31,u32,u33,u34,u35,u36,u37,u38,u39,u40,⟨hkx,hky,hB,HT⟩,rfl⟩;by_cases hend:k=xs.length∨k=ys.length
  · have HF:Hid (cmpI (xs.length:Int) (ys.length:Int)=r):=Zz (by
     rw[←HR.out,cmpR_end HT.out hkx hky hend];unfold cmpI;by_cases h1:xs.length<ys.length
     · rw[if_pos h1,if_pos (by omega)]
     · rw[if_neg h1,if_neg (by omega)];by_cases h2:ys.length<xs.length
       · rw[if_pos h2,if_pos (by omega)]
       · rw[if_neg h2,if_neg (by omega)]);have HBb:=Zz hB;clear HT HA HB hB;by_cases h1:k=xs.length
    · have h1':(k:Int)=(xs.length:Int):=by omega
      go_wp2_with fail;refine(cmpInt_any _ _ HF.out _).mono ?_;rintro e w1 ⟨rfl,hB1⟩;go_wp2_with fail;simp only[Exit.jump];go_ret;exact⟨rfl,HBb.out.trans (hB1.mono HBb.out.size)⟩
    · have h1':¬(k:Int)=(xs.length:Int):=by omega
      have h2:k=ys.length:=by omega
      have h2':(k:Int)=(ys.length:Int):=by omega
      go_wp2_with fail;refine(cmpInt_any _ _ HF.out _).mono ?_;rintro e w1 ⟨rfl,hB1⟩;go_wp2_with fail;simp only[Exit.jump];go_ret;exact⟨rfl,HBb.out.trans (hB1.mono HBb.out.size)⟩
  · have h1:¬k=xs.length:=by omega
    have h2:¬k=ys.length:=by omega
    have h1':¬(k:Int)=(xs.length:Int):=by omega
    have h2':¬(k:Int)=(ys.length:Int):=by omega
    have e1:((k:Int)==(xs.length:Int))=false:=beq_false_of_ne h1';have e2:((k:Int)==(ys.length:Int))=false:=beq_false_of_ne h2';have e3:(k==xs.length)=false:=by simpa using h1
    have e4:(k==ys.length)=false:=by simpa using h2
    have h3:(k:Int)<(xs.length:Int):=by omega
    have h4:(k:Int)<(ys.length:Int):=by omega
    have h3':k<xs.length:=by omega
    have h4':k<ys.length:=by omega
    obtain⟨b1,o1,rfl,hb1,_⟩:=(HA.out.on hB).num h3';obtain⟨b2,o2,rfl,hb2,_⟩:=(HB.out.on hB).num h4';obtain⟨x,hxv⟩:∃x,xs[k]? =some x:=⟨_,List.getElem?_eq_getElem h3'⟩;obtain⟨y,hyv⟩:∃y,ys[k]? =some y:=⟨_,List.getElem?_eq_getElem h4'⟩;have HC0:Hid (∀W,Below w.heap.size w W→W.cell? ⟨b1,o1+k,none⟩=some (.int .i64 x)):=Zz fun W hW=>by
     obtain⟨b,o,e,_,hc⟩:=(HA.out.on hW).num h3';cases e;rw[hxv] at hc;exact hc
    have HC1:Hid (∀W,Below w.heap.size w W→W.cell? ⟨b2,o2+k,none⟩=some (.int .i64 y)):=Zz fun W hW=>by
     obtain⟨b,o,e,_,hc⟩:=(HB.out.on hW).num h4';cases e;rw[hyv] at hc;exact hc
    obtain⟨Q,HQ,HQb,hq⟩:∃Q:World→Prop,Hid (Closed Q)∧Hid (∀W,Q W→Below w.heap.size w W)∧Q wr:=⟨fun W=>Below w.heap.size w W,Zz (Closed.below w),Zz fun _ h=>h,hB⟩;clear hB;have HXY:=Zz (And.intro hxv hyv);clear hxv hyv hb1 hb2 hend;obtain⟨wk,rfl⟩:∃W,W=wr:=⟨wr,rfl⟩;by_cases hxy:x=y
    · subst hxy;have hwi:IntKind.i64.wrap ((k:Int)+1)=(k:Int)+1:=IntWalk.i64_in _ (by omega);go_wp2_with fail;have HBS:Hid (∀W,Below wk.heap.size wk W→Q W):=Zz (fun W hB=>HQ.out _ _ hq hB);clear hq;refine rmx wk f9 (by kernel_rfl) (by kernel_rfl) ?_;simp only[Zg,f9,Lm,Ln];repeat ((first|(refine Zb (by rfl) ?_)|(refine mrd HBS _ (by rfl) (fun W hW=>by(have c0:=(HC0.out W (HQb.out W hW));have c1:=(HC1.out W (HQb.out W hW));go_simp;first|done|with_reducible rfl)) ?_));simp only[Act.put,La,Lb,Lc])
      refine Zd (fun W hW=>?_);have hq:=HBS.out W hW;clear hW HBS;have HN:Hid (xs.take (k+1)=ys.take (k+1)):=Zz (cmpR_take HXY.out.1 HXY.out.2 HT.out);go_wp2_with fail;go_step3
      refine⟨rfl,⟨k+1,_,_,_,_,_,_,_,_,_,_,_,_,_,_,_,_,_,_,_,_,_,_,_,_,_,_,_,_,_,_,_,_,_,_,_,⟨h3',h4',HQb.out _ hq,HN⟩,rfl⟩,?_⟩;simp[intOf];omega
    · have hxy':(x==y)=false:=by simpa using hxy
      have HF:Hid (cmpI x y=r):=Zz (by
       rw[←HR.out,cmpR_drop HXY.out.1 HXY.out.2 HT.out];unfold cmpI;by_cases e1:x<y
       · rw[if_pos e1,if_pos e1]
       · rw[if_neg e1,if_neg e1];by_cases e2:y<x
         · rw[if_pos e2,if_pos e2]
         · omega);clear HT HA HB;go_wp2_with fail;have HBS:Hid (∀W,Below wk.heap.size wk W→Q W):=Zz (fun W hB=>HQ.out _ _ hq hB);clear hq;refine rmx wk f9 (by kernel_rfl) (by kernel_rfl) ?_;simp only[Zg,f9,Lm,Ln];repeat ((first|(refine Zb (by rfl) ?_)|(refine mrd HBS _ (by rfl) (fun W hW=>by(have c0:=(HC0.out W (HQb.out W hW));have c1:=(HC1.out W (HQb.out W hW));go_simp;first|done|with_reducible rfl)) ?_));simp only[Act.put,La,Lb,Lc])
      refine Zd (fun W hW=>?_);have hq:=HBS.out W hW;clear hW HBS hxy hxy';obtain⟨wm,rfl⟩:∃V,V=W:=⟨W,rfl⟩;go_wp2_with fail;have HBS:Hid (∀W,Below wm.heap.size wm W→Q W):=Zz (fun W hB=>HQ.out _ _ hq hB);clear hq;refine rmx wm f10 (by kernel_rfl) (by kernel_rfl) ?_;simp only[Zg,f10,Lm,Ln];repeat ((first|(refine Zb (by rfl) ?_)|(refine mrd HBS _ (by rfl) (fun W hW=>by(have c0:=(HC0.out W (HQb.out W hW));have c1:=(HC1.out W (HQb.out W hW));go_simp;first|done|with_reducible rfl)) ?_)|(refine mcl HBS _ _ _ (by rfl) (fun W hW=>by(have c0:=(HC0.out W (HQb.out W hW));have c1:=(HC1.out W (HQb.out W hW));go_simp;first|done|rfl)) (fun W hW=>cmpInt_any _ _ HF.out W) ?_));simp only[Act.put,La,Lb,Lc])
      refine Zd (fun W hW=>?_);have hq:=HBS.out W hW;clear hW HBS;go_wp2_with fail;simp only[Exit.jump];go_ret;exact⟨rfl,HQb.out _ hq⟩
theorem topClass_any {l:Lay} {w:World} (hT:Shapes w) (hL:Lies l w) {ss:List (Int×Int×Int)} {A:Option Addr} (c:Nat) (hR:Row w w.heap.size A (ss.flatMap Ze)) (hn:ss.length≤1099511627776) {r:Int} (hr:topV l ss=r):
 Calls Tryz.prog 201 #[l.val,.slice A ss.length c] w fun e w'=>e= .returned (.int .i64 r)∧Below w.heap.size w w':=by
 obtain⟨Q,HQ,HQb,HQl,hq⟩:∃Q:World→Prop,Hid (Closed Q)∧Hid (∀W,Q W→Below w.heap.size w W)∧Hid (∀W,Q W→Whole W w.heap.size 29 l.cells)∧Q (w.alloc (.cells l.cells.toArray 29)):=
  ⟨fun W=>Below w.heap.size w W∧Whole W w.heap.size 29 l.cells,Zz ((Closed.below w).and (Closed.whole _ _ _)),Zz fun _ h=>h.1,Zz fun _ h=>h.2,below1 w _,Whole.new w _ l.cells⟩
 have HTW:Hid (∀W,Q W→Shapes W∧Lies l W):=Zz fun W hW=>⟨Shapes.closed _ _ hT (HQb.out W hW),Lies.closed l _ _ hL (HQb.out W hW)⟩
 have HRW:Hid (∀W,Q W→Row W W.heap.size A (ss.flatMap Ze)):=Zz fun W hW=>hR.on (HQb.out W hW)
 have HR:=Zz hr
 clear hT hL hR hr
 go_enter Tryz.func201,Tryz.ntmps201
 go_wp2_with fail
 go_loopw [5,10] (fun vt vi wr=>∃(j:Nat) (t:Int),vt= .int .i64 t∧vi= .int .i64 j∧j≤ss.length∧Q wr∧Hid (topV l (ss.take j)=t))
  (fun _ vi _=>ss.length - (intOf vi).toNat)
 case atStart=>exact⟨0,0,rfl,rfl,Nat.zero_le _,hq,Zz rfl⟩
 case round=>
  clear hq;obtain⟨j,t,rfl,rfl,hj,hq,HT⟩:=hrel;by_cases hlt:j<ss.length
  · have hlt':(j:Int)<ss.length:=by omega
    obtain⟨⟨y1,y2,y3⟩,hx⟩:∃x,ss[j]? =some x:=⟨_,List.getElem?_eq_getElem hlt⟩;obtain⟨b,off,rfl,_,hc0,hc⟩:=(HRW.out _ hq).nth (n:=3) (fun _=>rfl) (by omega) hx;have c0:=hc0 j _ _ hx rfl;have c1:=hc j _ 1 _ hx rfl;have c2:=hc j _ 2 _ hx rfl;obtain⟨W1,hW1⟩:∃W1,wr.alloc (.cells #[.int .i64 y1,.int .i64 y2,.int .i64 y3] 66)=W1:=⟨_,rfl⟩;have hb1:Whole W1 wr.heap.size 66 (Ze (y1,y2,y3)):=by rw[←hW1];exact Whole.new _ _ (Ze (y1,y2,y3))
    have hq1:Q W1:=by rw[←hW1];exact HQ.out _ _ hq (below1 _ _)
    obtain⟨cl,hcl⟩:∃cl,classV l y1 y2 y3=cl:=⟨_,rfl⟩;have HN:Hid (topV l (ss.take (j+1))=max t cl):=Zz (by rw[List.take_add_one,hx,Option.toList_some,top_snoc,HT.out,←hcl]);have KC:=Zz (keepR HQ.out (classB_any (HTW.out _ hq1).1 (HTW.out _ hq1).2 y1 y2 y3 hcl) hq1);have hwi:IntKind.i64.wrap ((j:Int)+1)=(j:Int)+1:=IntWalk.i64_in _ (by omega);obtain⟨x0,x1,x2,x3,x4,x5,x6,x7,x8,x9,x10⟩:=(HQl.out _ hq1).c11;obtain⟨v0,v1,v2⟩:=hb1.c3;clear hc0 hc hx hb1 hq1 hcl HT hq;go_upto_region 5 with (fail)
    try rw[hW1]
    clear c0 c1 c2;go_wp2_with fail;refine KC.out.mono ?_;clear KC x0 x1 x2 x3 x4 x5 x6 x7 x8 x9 x10 v0 v1 v2;rintro e w1 ⟨rfl,hq⟩;go_wp2_with fail;go_roundw
    case rel=>exact⟨j+1,max t cl,rfl,by go_num,hlt,hq,HN⟩
    case measure=>simp[intOf];omega
  · obtain rfl:j=ss.length:=by omega
    have HF:Hid (t=r):=Zz (by rw[←HT.out,List.take_length,HR.out]);go_wp2_with fail;go_ret;exact⟨ret_int HF.out,HQb.out _ hq⟩
abbrev Ent:=Option Addr×Nat×List Int
def entCell (t:Ent):Value:=.slice t.1 t.2.2.length t.2.1
def entCells (ts:List Ent):List Value:=ts.map entCell
def entRows (ts:List Ent):List (List Int):=ts.map (fun t=>t.2.2)
theorem owns_rowE {W:World} {base:Nat} {A:Option Addr} {n c:Nat} {xs:List Value} (h:W.ownsRow base 3 1 (.slice A n c) n xs):Row W W.heap.size A xs:=by
 obtain⟨A',c',e,hr,_⟩:=owns_slice h;cases e;exact hr
theorem owns_base12 {W:World} {base base' e k n:Nat} {v:Value} {xs:List Value} (h:W.ownsRow base e k v n xs) (hb:base'≤base):W.ownsRow base' e k v n xs:=by
 refine⟨h.1,?_⟩;rcases h.2 with h2|⟨g,cap,cur,hv,h3,r⟩
 · exact .inl h2
 · exact .inr ⟨g,cap,cur,hv,Nat.le_trans hb h3,r⟩
theorem owns_setFar {W:World} {base e k n g:Nat} {v:Value} {xs:List Value} (h:W.ownsRow base e k v n xs) (o:Nat) (hg:∀b,v.ownBlock=some b→b≠g) (u:Value):(W.setCell ⟨g,o,none⟩ u).ownsRow base e k v n xs:=by
 refine⟨h.1,?_⟩;rcases h.2 with h2|⟨g',cap,cur,rfl,h3,h4,r⟩
 · exact .inl h2
 · exact .inr ⟨g',cap,cur,rfl,h3,(Below.heap_setCell W ⟨g,o,none⟩ u g' (hg g' rfl)).trans h4,r⟩
structure RowsAt (base gq gr:Nat) (ts:List Ent) (W:World):Prop where
 box:Whole W gq 181 [.slice (some ⟨gr,0,none⟩) ts.length ts.length]
 tab:Whole W gr 30 (entCells ts)
 rows:∀t ∈ ts,W.ownsRow base 3 1 (entCell t) t.2.2.length (nums .i64 t.2.2)∧t.2.2.length≤1099511627776
 lo:base≤gq∧base≤gr
theorem RowsAt.closed (base gq gr:Nat) (ts:List Ent):Closed (RowsAt base gq gr ts):=fun w w' h hb=>⟨h.box.below hb h.box.lt,h.tab.below hb h.tab.lt,fun t ht=>⟨ownsV_keep (h.rows t ht).1 hb,(h.rows t ht).2⟩,h.lo⟩
theorem RowsAt.far {base gq gr:Nat} {ts:List Ent} {W:World} (h:RowsAt base gq gr ts W) {g:Nat} (hg:g<base) (o:Nat) (u:Value):RowsAt base gq gr ts (W.setCell ⟨g,o,none⟩ u):=
 ⟨h.box.far (p:=⟨g,o,none⟩) (by have :=h.lo.1;show gq≠g;omega) u,h.tab.far (p:=⟨g,o,none⟩) (by have :=h.lo.2;show gr≠g;omega) u,fun t ht=>⟨owns_setFar (h.rows t ht).1 o (fun b hb=>by have :=((h.rows t ht).1.lt b hb).1;omega) u,(h.rows t ht).2⟩,h.lo⟩
theorem order1_any {base gq gr:Nat} {ts:List Ent} {w:World} (h:RowsAt base gq gr ts w) {x y:Nat} (hx:x<ts.length) (hy:y<ts.length) (hn:ts.length≤1099511627776) {r:Int} (hr:cvOf (entRows ts) x y=r):
 Calls Tryz.prog 139 #[.int .i64 x,.int .i64 y,.pointer (some ⟨gq,0,none⟩)] w fun e w'=>e= .returned (.int .i64 r)∧Below w.heap.size w w':=by
 obtain⟨⟨A,ca,xs⟩,hxt⟩:∃t,ts[x]? =some t:=⟨_,List.getElem?_eq_getElem hx⟩
 obtain⟨⟨B,cb,ys⟩,hyt⟩:∃t,ts[y]? =some t:=⟨_,List.getElem?_eq_getElem hy⟩
 obtain⟨Q,HQ,HQb,HC,HRW,hq⟩:∃Q:World→Prop,Hid (Closed Q)∧Hid (∀W,Q W→Below w.heap.size w W)∧Hid (∀W,Q W→W.cell? ⟨gq,0,none⟩=some (.slice (some ⟨gr,0,none⟩) ts.length ts.length)∧W.cell? ⟨gr,x,none⟩=some (.slice A xs.length ca)∧W.cell? ⟨gr,y,none⟩=some (.slice B ys.length cb)) ∧
  Hid (∀W,Q W→(Row W W.heap.size A (nums .i64 xs)∧xs.length≤1099511627776)∧(Row W W.heap.size B (nums .i64 ys)∧ys.length≤1099511627776))∧Q w:=
  ⟨fun W=>Below w.heap.size w W∧RowsAt base gq gr ts W,Zz ((Closed.below w).and (RowsAt.closed base gq gr ts)),Zz fun _ h=>h.1,Zz fun W hW=>⟨hW.2.box.Za 0 rfl,hW.2.tab.Za x (by unfold entCells;rw[List.getElem?_map,hxt];rfl),hW.2.tab.Za y (by unfold entCells;rw[List.getElem?_map,hyt];rfl)⟩,
   Zz fun W hW=>⟨⟨owns_rowE (hW.2.rows _ (List.mem_of_getElem? hxt)).1,(hW.2.rows _ (List.mem_of_getElem? hxt)).2⟩,owns_rowE (hW.2.rows _ (List.mem_of_getElem? hyt)).1,(hW.2.rows _ (List.mem_of_getElem? hyt)).2⟩,Below.refl _ _,h⟩
 have HV:Hid (cmpR xs ys=r):=Zz (by
  rw[←hr];unfold cvOf entRows;rw[List.getElem?_map,List.getElem?_map,hxt,hyt];rfl)
 have KC:Hid (∀W,Q W→Calls Tryz.prog 140 #[.slice A xs.length ca,.slice B ys.length cb] W fun e w'=>e= .returned (.int .i64 r)∧Below W.heap.size W w'):=Zz fun W hW=>compare_any ca cb (HRW.out W hW).1.1 (HRW.out W hW).2.1 (HRW.out W hW).1.2 (HRW.out W hW).2.2 HV.out
 have hx':(x:Int)<(ts.length:Int):=by omega
 have hy':(y:Int)<(ts.length:Int):=by omega
 obtain⟨n,hn'⟩:∃n,ts.length=n:=⟨_,rfl⟩
 rw[hn'] at hx hy hx' hy' hn HC
 clear h hr hxt hyt hn'
 go_enter Tryz.func139,Tryz.ntmps139
 go_wp2_with fail
 have HBS:Hid (∀W,Below w.heap.size w W→Q W):=Zz (fun W hB=>HQ.out _ _ hq hB)
 clear hq
 refine rmx w f10 (by kernel_rfl) (by kernel_rfl) ?_
 simp only[Zg,f10,Lm,Ln]
 repeat ((first|(refine Zb (by rfl) ?_)|(refine mrd HBS _ (by rfl) (fun W hW=>by(obtain⟨h0,h1,h2⟩:=HC.out W hW;go_simp;first|done|with_reducible rfl)) ?_)|(refine mcl HBS _ _ _ (by rfl) (fun W hW=>by(obtain⟨h0,h1,h2⟩:=HC.out W hW;go_simp;first|done|rfl)) (fun W hW=>KC.out W (HBS.out W hW)) ?_));simp only[Act.put,La,Lb,Lc])
 refine Zd (fun W hW=>?_)
 have hq:=HBS.out W hW
 clear hW HBS
 go_wp2_with fail
 go_ret
 exact⟨rfl,HQb.out _ hq⟩
end
section
open Go.RowKit Go.Shelf
attribute [local go_sem] Oper.semAt_some
theorem numbers_any (l:Lay) (A:Option Addr) (n c:Nat) (w:World):Calls Tryz.prog 176 #[l.val,.slice A n c] w fun e w'=>e= .returned (.func (.func 200) #[] #[.pointer (some ⟨w.heap.size,0,none⟩),.pointer (some ⟨w.heap.size+1,0,none⟩)]) ∧
 w'=(w.alloc (.cells #[.slice l.As l.secs.length l.cs,.slice l.Ag l.sigs.length l.cg,.slice l.Ae l.exits.length l.ce,.slice l.Af l.flanks.length l.cf,.int .i64 l.t0,.int .i64 l.t1,.int .i64 l.t2,.int .i64 l.t3,.int .i64 l.t4,.int .i64 l.t5,.int .i64 l.t6] 29)).alloc (.cells #[.slice A n c] 44):=by
 go_enter Tryz.func176,Tryz.ntmps176
 go_wp2_with fail
 go_ret
 exact⟨rfl,rfl⟩
theorem numbers_iter {wa w0:World} {g1 g2:Nat} {l:Lay} {ss:List (Int×Int×Int)} {A:Option Addr} {c:Nat} (hT:Shapes wa) (hL:Lies l wa) (hR:Row wa wa.heap.size A (ss.flatMap Ze)) (hn:ss.length≤1099511627776) (hka:Keeps (· <wa.heap.size) wa w0) (hsa:wa.heap.size≤w0.heap.size) (hb1:Whole w0 g1 29 l.cells) (hb2:Whole w0 g2 44 [.slice A ss.length c]):
 IterU Tryz.prog 200 #[.pointer (some ⟨g1,0,none⟩),.pointer (some ⟨g2,0,none⟩)] (fun z:Int=>#[.int .i64 z]) (rowV l ss) (fun k=>k<wa.heap.size∨(k=g1∨k=g2)) w0:=by
 intro L J Jx W hk0 hRl hJ hJx hY h0
 have hnW:wa.heap.size≤W.heap.size:=Nat.le_of_not_lt fun hlt=>absurd (hRl _ (.inl hlt)) (Nat.lt_irrefl _)
 have HF:Hid (∀W',Keeps (fun k=>k<wa.heap.size∨(k=g1∨k=g2)) w0 W'→W.heap.size≤W'.heap.size→(Shapes W'∧Lies l W')∧Row W' W'.heap.size A (ss.flatMap Ze)):=Zz fun W' hk hs=>
  have hk':=hka.trans (hk.sub fun k h=>.inl h)
  ⟨⟨hT.keeps hk' (fun _ h=>h),hL.keeps hk' (fun _ h=>h) (Nat.le_trans hnW hs)⟩,(hR.keeps hk' (fun _ h=>h)).mono (Nat.le_trans hnW hs)⟩
 have HB1:Hid (∀W',Keeps (fun k=>k<wa.heap.size∨(k=g1∨k=g2)) w0 W'→Whole W' g1 29 l.cells):=Zz fun W' hk=>hk.whole (.inr (.inl rfl)) hb1
 have HB2:Hid (∀W',Keeps (fun k=>k<wa.heap.size∨(k=g1∨k=g2)) w0 W'→Whole W' g2 44 [.slice A ss.length c]):=Zz fun W' hk=>hk.whole (.inr (.inr rfl)) hb2
 obtain⟨t,ht⟩:∃t,topV l ss=t:=⟨_,rfl⟩
 obtain⟨xs,hxs⟩:∃xs,rowV l ss=xs:=⟨_,rfl⟩
 have HXS:Hid ([t,(ss.length:Int)]++posL l ss=xs):=Zz (by rw[←hxs,←ht];rfl)
 rw[hxs] at hY ⊢
 obtain⟨B,hB⟩:∃B,W.heap.size=B:=⟨_,rfl⟩
 have hs0:B≤W.heap.size:=by omega
 rw[hB] at HF hJ hJx hY
 have hf:=HF.out _ hk0 hs0
 have KT:=Zz (topClass_any hf.1.1 hf.1.2 c hf.2 hn ht)
 obtain⟨x0,x1,x2,x3,x4,x5,x6,x7,x8,x9,x10⟩:=(HB1.out _ hk0).c11
 have s0:=(HB2.out _ hk0).Za 0 rfl
 clear hT hL hR hka hb1 hb2 hRl hxs hnW hB ht hf
 refine(callsIn_wide (n:=3)).1 ?_
 refine callsIn_of_wp Tryz.func200 rfl trivial ?_ rfl
 simp only[Tryz.ntmps200,Ld,Le,Lf,Nat.reduceAdd,Nat.reduceSub,Lg,Lh,Li,Lj,Lk,Ll]
 gi_wp2_with fail
 refine⟨trivial,(callsIn_wide.2 KT.out).mono ?_⟩
 clear KT x0 x1 x2 x3 x4 x5 x6 x7 x8 x9 x10 s0
 rintro e w1 ⟨rfl,hB1⟩
 have hJ1:=hJ _ _ _ _ h0 (Stays.below hB1)
 have hk1:=hk0.trans (Keeps.below hB1)
 have hs1:=Nat.le_trans hs0 hB1.size
 clear h0 hk0 hs0 hB1
 obtain⟨fn,tmps,assign,body,hy,hR⟩:=hY (fun _=>False) 0 t _ (by rw[←HXS.out];rfl) hJ1 (fun k h=>h.elim)
 have HR:=Zz hR
 have HK1:=Zz hk1
 have hz1:=hs1
 clear hR hJ1 hk1
 gi_wp2_with fail
 refine RoundIn.mono (RoundIn.wide HR.out) ?_
 clear HR hy
 rintro e W3 ⟨U1,hg1,hk',(⟨rfl,hJ3⟩|⟨rfl,hJx3⟩)⟩
 rotate_left
 · have hU3:=hg1.lt;gi_wp2_with fail;refine⟨fun f h=>(by cases h),?_⟩;gi_wp2_with fail;refine bodyPost_ret (results_none rfl _ _ _) rfl ?_;exact⟨⟨_,rfl⟩,U1,hU3,.inr hJx3⟩
 have hk2:=HK1.out.trans hk'.keeps
 have hs2:B≤W3.heap.size:=Nat.le_trans hs1 hk'.size
 have hU2:=hg1.lt
 clear hg1 hk' HK1 hs1 hz1
 obtain⟨fn,tmps,assign,body,hy,hR⟩:=hY U1 1 (ss.length:Int) _ (by rw[←HXS.out];rfl) hJ3 hU2
 have HR:=Zz hR
 have s0:=(HB2.out _ hk2).Za 0 rfl
 have HK2:=Zz hk2
 clear hR hJ3 hk2
 gi_wp2_with fail
 refine RoundIn.mono (RoundIn.wide HR.out) ?_
 clear HR hy s0
 rintro e W4 ⟨U2,hg2,hk',(⟨rfl,hJ4⟩|⟨rfl,hJx4⟩)⟩
 rotate_left
 · have hU4:=hg2.lt;gi_wp2_with fail;refine bodyPost_ret (results_none rfl _ _ _) rfl ?_;exact⟨⟨_,rfl⟩,U2,hU4,.inr hJx4⟩
 have hk4:=HK2.out.trans hk'.keeps
 have hs4:B≤W4.heap.size:=Nat.le_trans hs2 hk'.size
 have hU4:=hg2.lt
 have s0:=(HB2.out _ hk4).Za 0 rfl
 clear hg2 hk' HK2 hs2 hU2
 gi_wp2_with fail
 clear s0
 gi_loopw [24] (fun i wr=>∃(j:Nat) (pre:List Int) (U:Nat→Prop),j≤ss.length∧i= .int .i64 j∧J U pre.length wr∧(∀k,U k→k<wr.heap.size)∧Keeps (fun k=>k<wa.heap.size∨(k=g1∨k=g2)) w0 wr∧B≤wr.heap.size∧Hid (pre++posL l (ss.drop j)=xs))
  (fun i _=>ss.length - (intOf i).toNat)
 case atStart=>exact⟨0,[t,(ss.length:Int)],U2,by omega,rfl,hJ4,hU4,hk4,hs4,Zz HXS.out⟩
 case round=>
  clear hJ4 hk4 hs4 hU4;obtain⟨j,pre,U,hj,rfl,hJj,hUl,hk,hs,HP⟩:=hrel;by_cases hlt:j<ss.length
  · have hlt':(j:Int)<ss.length:=by omega
    obtain⟨⟨f1,f2,f3⟩,hx⟩:∃x,ss[j]? =some x:=⟨_,List.getElem?_eq_getElem hlt⟩;obtain⟨b,off,hA,_,hc0,hc⟩:=(HF.out _ hk hs).2.nth (n:=3) (fun _=>rfl) (by omega) hx;have HX:=Zz hx;have c0:=hc0 j _ _ hx rfl;have c1:=hc j _ 1 _ hx rfl;have c2:=hc j _ 2 _ hx rfl;clear hx hc0 hc;have hbs:Whole (wr.alloc (.cells #[.int .i64 f1,.int .i64 f2,.int .i64 f3] 66)) wr.heap.size 66 (Ze (f1,f2,f3)):=Whole.new _ _ (Ze (f1,f2,f3));have hb4:Below wr.heap.size wr (wr.alloc (.cells #[.int .i64 f1,.int .i64 f2,.int .i64 f3] 66)):=below1 _ _;have hJ2:=hJ _ _ _ _ hJj (Stays.below hb4);have hk2:=hk.trans (Keeps.below hb4);have hs2:=Nat.le_trans hs hb4.size;have hU2:∀k,U k→k<(wr.alloc (.cells #[.int .i64 f1,.int .i64 f2,.int .i64 f3] 66)).heap.size:=fun k h=>Nat.lt_of_lt_of_le (hUl k h) hb4.size;obtain⟨⟨p1,p2,ok⟩,hpv⟩:∃r,pointV l f1 f2 f3=r:=⟨_,rfl⟩;have hf:=HF.out _ hk2 hs2;have KP:=Zz (pointB_any hf.1.1 hf.1.2 f1 f2 f3 hpv);obtain⟨x0,x1,x2,x3,x4,x5,x6,x7,x8,x9,x10⟩:=(HB1.out _ hk2).c11;obtain⟨v0,v1,v2⟩:=hbs.c3;have hwi:IntKind.i64.wrap ((j:Int)+1)=(j:Int)+1:=IntWalk.i64_in _ (by omega);rw[hA];have HA:=Zz hA;have HPO:Hid (posOf l (f1,f2,f3)=if ok=true then [p2] else []):=Zz (by
     show(if (pointV l f1 f2 f3).2.2=true then [(pointV l f1 f2 f3).2.1] else [])=_;rw[hpv]);have HS2:=Zz (And.intro hJ2 (And.intro hU2 (And.intro hk2 hs2)));clear hJj hk hs hUl hb4 hA hbs hf hpv hJ2 hU2 hk2 hs2;gi_wp2_with fail;refine⟨trivial,(callsIn_wide.2 KP.out).mono ?_⟩;clear KP x0 x1 x2 x3 x4 x5 x6 x7 x8 x9 x10 v0 v1 v2;rintro e w5 ⟨rfl,hB5⟩;have hJ5:=hJ _ _ _ _ HS2.out.1 (Stays.below hB5);have hk5:=HS2.out.2.2.1.trans (Keeps.below hB5);have hs5:=Nat.le_trans HS2.out.2.2.2 hB5.size;have hU5:∀k,U k→k<w5.heap.size:=fun k h=>Nat.lt_of_lt_of_le (HS2.out.2.1 k h) hB5.size;clear HS2 hB5 c0 c1 c2;have HD:Hid (posL l (ss.drop j)=posOf l (f1,f2,f3)++posL l (ss.drop (j+1))):=Zz (by rw[drop_at HX.out];rfl);cases ok
    · have HP1:Hid (pre++posL l (ss.drop (j+1))=xs):=Zz (by rw[←HP.out,HD.out,HPO.out];rfl);have HK2:=Zz (And.intro hJ5 (And.intro hU5 (And.intro hk5 hs5)));clear HP hY hJ5 hU5 hk5 hs5;gi_wp2_with fail;refine⟨fun f h=>(by cases h),?_⟩;gi_wp2_with fail;go_roundw
      case rel=>exact⟨j+1,pre,U,hlt,by go_num,HK2.out.1,HK2.out.2.1,HK2.out.2.2.1,HK2.out.2.2.2,HP1⟩
      case measure=>simp[intOf];omega
    · have HP1:Hid (pre++(p2::posL l (ss.drop (j+1)))=xs):=Zz (by rw[←HP.out,HD.out,HPO.out];rfl);clear HP;obtain⟨fn,tmps,assign,body,hy,hR⟩:=hY U pre.length _ _ (at_pre HP1.out) hJ5 hU5;have HR:=Zz hR;have HK2:=Zz hk5;clear hR hJ5 hk5;gi_wp2_with fail;refine RoundIn.mono (RoundIn.wide HR.out) ?_;clear HR hy;rintro e W3 ⟨U',hg',hk',(⟨rfl,hJ3⟩|⟨rfl,hJx3⟩)⟩
      · have hk3:=HK2.out.trans hk'.keeps;have hs3:=Nat.le_trans hs5 hk'.size;have hU3:=hg'.lt;clear hg' hk' HK2;gi_wp2_with fail;go_roundw
        case rel=>exact⟨j+1,pre++[p2],U',hlt,by go_num,by rw[List.length_append];exact hJ3,hU3,hk3,hs3,Zz (push_pre HP1.out)⟩
        case measure=>simp[intOf];omega
      · have hU3:=hg'.lt;gi_wp2_with fail;refine bodyPost_ret (results_none rfl _ _ _) rfl ?_;exact⟨⟨_,rfl⟩,U',hU3,.inr hJx3⟩
  · obtain rfl:j=ss.length:=by omega
    have HE:Hid (pre.length=xs.length):=Zz (by rw[←HP.out,List.drop_eq_nil_of_le (Nat.le_refl _)];simp[posL]);gi_wp2_with fail;go_end0
    exact⟨⟨_,rfl⟩,U,hUl,.inl (HE.out ▸ hJj)⟩
theorem listIn_append12 {F:Fence} {n:Nat} {P:Program} {ops:Array Oper} {rest:List Oper} {o:Oper} {a:Act} {w w':World} {Q:Exit→Act→World→Prop} (hg:o.guard=none) (s x:Operand) (t:TypeId)
 (hop:o.op= .call {callee:=.builtin .append,args:=#[s,x],argTypes:=#[t,t]}) {v':Value} (hrun:(Builtin.append_ #[t,t] o.type #[a.eval s,a.eval x]).run P w= .ok v' w') (h:wpListIn F n P ops Q rest (a.put o.dst v') w'):wpListIn F n P ops Q (o::rest) a w:=by
 refine wpListIn_plain hg fun K hK'=>?_
 unfold Oper.wpIn
 refine⟨?_,?_⟩
 · simp[Oper.about,hop,resolve,Target.leads,Sem.run_pure]
 · rw[Oper.semAt_plain F _ _ (by rw[hop];intro c hc';cases hc')];simp[execOp,hop,resolve,invoke,builtin,hrun,Result.andThen];exact hK' _ _ h
theorem owns_stays12 {B:Nat} {U:Nat→Prop} {W W':World} (h:Stays B U W W') {base e k n:Nat} {v:Value} {xs:List Value} (hown:W.ownsRow base e k v n xs) (hU:∀b,v.ownBlock=some b→b<B∨U b):W'.ownsRow base e k v n xs:=by
 refine⟨hown.1,?_⟩;rcases hown.2 with h2|⟨g,cap,cur,rfl,h3,h4,r⟩
 · exact .inl h2
 · exact .inr ⟨g,cap,cur,rfl,h3,h.rest g _ h4 (hU g rfl),r⟩
theorem append_int12 (base n:Nat) (v:Value) (xs:List Value) (m:Int) (w:World) (a:Nat) (hown:w.ownsRow base 3 1 v n xs) (hc:w.cell? ⟨a,0,none⟩=some (.int .i64 m)) (hn:n≤1099511627776) (hbase:base≤w.heap.size):
 ∃v' w',(Builtin.append_ #[30,30] 30 #[v,.slice (some ⟨a,0,none⟩) 1 1]).run Tryz.prog w= .ok v' w'∧w'.ownsRow base 3 1 v' (n+1) (xs++[.int .i64 m])∧w.grownBy w' v.ownBlock∧Below base w w'∧(v'.ownBlock=v.ownBlock∨v'.ownBlock=some w.heap.size):=by
 obtain⟨i,i1,i2,i3,i4⟩:=info_parts ints_info
 obtain⟨v',w',r1,r2,r3,r4,r5⟩:=run_append_own_at (P:=Tryz.prog) w base 30 30 3 i (.int .i64 0) 1 8 Tryz.underlying30 i1 i2 i3 i4 rfl (by omega) v n xs hown ⟨a,0,none⟩ 1 1 [.int .i64 m] rfl
  (by
   intro j u hu;match j,hu with
   |0,hu=>simpa [Addr.add] using (by rw[hc];exact hu)) (by simp[Value.oneCell']) (by unfold maxLen;omega) (by omega) hbase
 exact⟨v',w',r1,r2,r3,(Below.refl base w).grown r3 hbase (fun k e=>(hown.lt k e).1),r5⟩
structure RowI (w:World) (xs:List Int) (U:Nat→Prop) (j:Nat) (W:World):Prop where
 below:Below w.heap.size w W
 size:w.heap.size+5≤W.heap.size
 row:∃v,Whole W (w.heap.size+1+1) 30 [v]∧W.ownsRow (w.heap.size+5) 3 1 v (xs.take j).length (nums .i64 (xs.take j))∧∀b,v.ownBlock=some b→U b
theorem RowI.safe (w:World) (xs:List Int):Safe (w.heap.size+5) (RowI w xs):=by
 rintro U j W W' ⟨h1,h2,v,h4,h5,h6⟩ ht;exact⟨Safe.below (β:=Unit) (B:=w.heap.size+5) (by omega) (Nat.le_refl _) U () W W' h1 ht,Nat.le_trans h2 ht.size,v,ht.whole h4 (.inl (by omega)),owns_stays12 ht h5 (fun b hb=>.inr (h6 b hb)),h6⟩
theorem RowI.up {w W:World} {xs:List Int} {U U':Nat→Prop} {j:Nat} (h:RowI w xs U j W) (hU:∀k,U k→U' k):RowI w xs U' j W:=
 ⟨h.1,h.2,let ⟨v,h5,h6,h7⟩:=h.3;⟨v,h5,h6,fun b hb=>hU b (h7 b hb)⟩⟩
theorem RowI.append {w W:World} {xs:List Int} {U:Nat→Prop} {j:Nat} {m:Int} (h:RowI w xs U j W) (hj:xs[j]? =some m) (hn:xs.length≤1099511627776) (hUl:∀k,U k→k<W.heap.size):
 ∃v,W.cell? ⟨w.heap.size+1+1,0,none⟩=some v∧∃v' W3,(Builtin.append_ #[30,30] 30 #[v,.slice (some ⟨W.heap.size,0,none⟩) 1 1]).run Tryz.prog (W.alloc (.cells #[.int .i64 m] 3))= .ok v' W3 ∧
  Whole W3 (w.heap.size+1+1) 30 [v]∧(∃A n c,v'= .slice A n c) ∧
  RowI w xs (With U W (W3.setCell ⟨w.heap.size+1+1,0,none⟩ v')) (j+1) (W3.setCell ⟨w.heap.size+1+1,0,none⟩ v') ∧
  W.heap.size≤(W3.setCell ⟨w.heap.size+1+1,0,none⟩ v').heap.size∧Kept (fun q=>q<w.heap.size∨(q=w.heap.size+1+1+1∨q=w.heap.size+1+1+1+1)) (w.heap.size+5) U W (W3.setCell ⟨w.heap.size+1+1,0,none⟩ v'):=by
 obtain⟨h1,h2,v,h5,h6,h7⟩:=h
 refine⟨v,h5.Za 0 rfl,?_⟩
 have hl:(xs.take j).length≤1099511627776:=by rw[List.length_take];omega
 have hb1:=below1 W (.cells #[.int .i64 m] 3)
 obtain⟨v',W3,hrun,hown,hgr,hBl,hblk⟩:=append_int12 (w.heap.size+5) (xs.take j).length v (nums .i64 (xs.take j)) m (W.alloc (.cells #[.int .i64 m] 3)) W.heap.size (ownsV_keep h6 hb1) ((Whole.new W _ [.int .i64 m]).Za 0 rfl) hl (by simp;omega)
 have hvb:∀b,v.ownBlock=some b→w.heap.size+5≤b:=fun b hb=>(h6.lt b hb).1
 have hs3:W.heap.size+1≤W3.heap.size:=by have :=hgr.size;simpa using this
 have hkeep:∀k o,W.heap[k]? =some o→(∀b,v.ownBlock=some b→k≠b)→W3.heap[k]? =some o:=fun k o ho hne=>by
  have hlt:=(Array.getElem?_eq_some_iff.1 ho).1;exact(hgr.block k (by simp;omega) (fun e=>hne k e.symm rfl)).trans ((hb1.block k hlt).trans ho)
 have hset:∀k o,W3.heap[k]? =some o→k≠w.heap.size+1+1→(W3.setCell ⟨w.heap.size+1+1,0,none⟩ v').heap[k]? =some o:=fun k o ho hne=>(Below.heap_setCell W3 ⟨w.heap.size+1+1,0,none⟩ v' k hne).trans ho
 have hbox3:Whole W3 (w.heap.size+1+1) 30 [v]:=hkeep _ _ h5 (fun b hb=>by have :=hvb b hb;omega)
 have hsz:(W3.setCell ⟨w.heap.size+1+1,0,none⟩ v').heap.size=W3.heap.size:=by simp[World.setCell]
 refine⟨v',W3,hrun,hbox3,(let ⟨A,c,e,_⟩:=owns_slice hown;⟨A,_,c,e⟩),⟨?_,by rw[hsz];omega,v',hbox3.set 0 v',?_,?_⟩,by rw[hsz];omega,⟨by rw[hsz];omega,?_⟩⟩
 · exact(h1.trans ((hb1.mono (by omega)).trans (hBl.mono (by omega)))).setCell (p:=⟨w.heap.size+1+1,0,none⟩) (by show w.heap.size≤w.heap.size+1+1;omega) _
 · have e:xs.take (j+1)=xs.take j++[m]:=by rw[List.take_add_one,hj];rfl
   rw[e,List.length_append];have :=hown.kept (grownBy_setCell' W3 (w.heap.size+1+1) v') (.inr (fun e=>by have :=(hown.lt _ e).1;omega));simpa [nums] using this
 · intro b hb;rcases hblk with e|e
   · exact .inl (h7 b (e ▸ hb))
   · rw[hb] at e;have e':=Option.some.inj e;simp at e';exact .inr ⟨by omega,by rw[hsz];exact(hown.lt b hb).2⟩
 · intro k o ho hr;refine hset _ _ (hkeep _ _ ho (fun b hb e=>?_)) (fun e=>?_)
   · have q1:=hvb b hb;rcases hr with hr|hr
     · omega
     · exact hr.2 (e ▸ h7 b hb)
   · rcases hr with hr|hr <;> omega
theorem row_any {l:Lay} {p:Pth} {w:World} (hT:Shapes w) (hL:Lies l w) (hp:PLies p w) (hn:p.ss.length≤1000) {xs:List Int} (hx:rowV l p.ss=xs):
 Calls Tryz.prog 138 #[l.val,p.val] w fun e w'=>∃A c,e= .returned (.slice A xs.length c)∧w'.ownsRow w.heap.size 3 1 (.slice A xs.length c) xs.length (nums .i64 xs)∧Below w.heap.size w w':=by
 have hxl:xs.length≤1099511627776:=by rw[←hx];have :=row_len l p.ss;omega
 obtain⟨W3,hW3⟩:∃W3,((w.alloc (.cells #[.slice l.As l.secs.length l.cs,.slice l.Ag l.sigs.length l.cg,.slice l.Ae l.exits.length l.ce,.slice l.Af l.flanks.length l.cf,.int .i64 l.t0,.int .i64 l.t1,.int .i64 l.t2,.int .i64 l.t3,.int .i64 l.t4,.int .i64 l.t5,.int .i64 l.t6] 29)).alloc (.cells #[.int .i64 p.s,.int .i64 p.x,.slice p.A p.ss.length p.c] 46)).alloc (.cells #[.slice none 0 0] 30)=W3:=⟨_,rfl⟩
 have HS3:Hid (Below w.heap.size w W3∧W3.heap.size=w.heap.size+1+1+1∧Whole W3 w.heap.size 29 l.cells∧Whole W3 (w.heap.size+1) 46 p.cells∧Whole W3 (w.heap.size+1+1) 30 [.slice none 0 0]):=Zz (by
  rw[←hW3];exact⟨below3 w _ _ _,by simp,((Whole.new w _ l.cells).alloc _).alloc _,(Whole.Zj _ _ p.cells _ (by simp)).alloc _,Whole.Zj _ _ [_] _ (by simp)⟩)
 have HW3:=Zz hW3
 clear hW3
 obtain⟨x0,x1,x2,x3,x4,x5,x6,x7,x8,x9,x10⟩:=(HS3.out.2.2.1).c11
 obtain⟨y0,y1,y2⟩:=(HS3.out.2.2.2.1).c3
 refine(callsIn_wide (n:=5)).1 ?_
 refine callsIn_of_wp_marks Tryz.func138 rfl trivial ?_ rfl
 simp only[Tryz.ntmps138,Ld,Le,Lf,Nat.reduceAdd,Nat.reduceSub,Lg,Lh,Li,Lj,Lk,Ll]
 gi_wp2_with fail
 try rw[HW3.out]
 try gi_wp2_with fail
 refine⟨trivial,(callsIn_wide.2 (numbers_any l p.A p.ss.length p.c _)).mono ?_⟩
 clear x0 x1 x2 x3 x4 x5 x6 x7 x8 x9 x10 y0 y1 y2
 rintro e w2 ⟨rfl,rfl⟩
 gi_wp2_with fail
 obtain⟨W0,hW0⟩:∃W0,(W3.alloc (.cells #[.slice l.As l.secs.length l.cs,.slice l.Ag l.sigs.length l.cg,.slice l.Ae l.exits.length l.ce,.slice l.Af l.flanks.length l.cf,.int .i64 l.t0,.int .i64 l.t1,.int .i64 l.t2,.int .i64 l.t3,.int .i64 l.t4,.int .i64 l.t5,.int .i64 l.t6] 29)).alloc (.cells #[.slice p.A p.ss.length p.c] 44)=W0:=⟨_,rfl⟩
 have hs3:=HS3.out.2.1
 have hsz:W0.heap.size=w.heap.size+5:=by rw[←hW0];simp;omega
 have b3:Whole W0 (w.heap.size+1+1+1) 29 l.cells:=by rw[←hW0];exact(Whole.Zj _ _ l.cells _ hs3.symm).alloc _
 have b4:Whole W0 (w.heap.size+1+1+1+1) 44 [.slice p.A p.ss.length p.c]:=by rw[←hW0];exact Whole.Zj _ _ [_] _ (by simp;omega)
 have hB2:Below W3.heap.size W3 W0:=by rw[←hW0];exact below2 _ _ _
 have hB0:Below w.heap.size w W0:=HS3.out.1.trans (hB2.mono HS3.out.1.size)
 have hI0:RowI w xs (fun _=>False) 0 W0:=⟨hB0,by omega,_,HS3.out.2.2.2.2.below hB2 HS3.out.2.2.2.2.lt,World.ownsRow_nil _ _ _ _,fun b hb=>by simp[Value.ownBlock] at hb⟩
 try rw[hW0]
 try rw[hs3]
 clear hW0 hB2
 have hit:=numbers_iter (w0:=W0) (wa:=w) hT hL hp.row (by omega) (fun k o hk ho=>(hB0.block k hk).trans ho) hB0.size b3 b4
 rw[hx] at hit
 have HSZ:=Zz hsz
 have HXL:=Zz hxl
 clear hT hL hp hn hx b3 b4 hs3 hxl HS3 HW3
 refine range_iterU (gf:=200) rfl (enters_of Tryz.func200 (by kernel_rfl) rfl) hit (Keeps.refl _ _) (fun k hk=>by have :=HSZ.out;rcases hk with h|h|h <;> omega) (fun _=>rfl) (by omega)
  (RowI w xs) (fun _ _ _=>False) (by rw[hsz];exact RowI.safe w xs) (fun _=>by rw[hsz];exact fun _ _ _ _ h _=>h.elim)
  hI0
  (fun U j z a' W=>RowI w xs U j W∧a'= {tmps:=#[l.val,p.val,.pointer (some ⟨w.heap.size,0,none⟩),.pointer (some ⟨w.heap.size+1,0,none⟩),.slice none 0 0,.pointer (some ⟨w.heap.size+1+1,0,none⟩),.int .i64 z,l.val,.pointer (some ⟨w.heap.size+1,2,none⟩),.slice p.A p.ss.length p.c,.func (.func 200) #[] #[.pointer (some ⟨w.heap.size+1+1+1,0,none⟩),.pointer (some ⟨w.heap.size+1+1+1+1,0,none⟩)],.int .i64 z,undef,undef,undef,undef,undef],defers:=[]})
  (fun j z a'=>by
   rw[hsz];rintro U u W W' ⟨h1,h2⟩ ht;exact⟨RowI.safe w xs _ _ _ _ h1 ht,h2⟩)
  ?assign ?body ?done ?stop
 case assign=>
  rintro lr U j z W K hz hI hsW hU hK;gi_wp2_with fail;exact hK _ _ U (Grew.refl hU (Nat.le_refl _)) ⟨Nat.le_refl _,fun _ _ h _=>h⟩ ⟨hI,rfl⟩
 case body=>
  rintro lr U j z a' W hl hz ⟨hI,rfl⟩ hU;obtain⟨v,c0,v',W5,hrun,hbx5,⟨A',n',c',rfl⟩,hI5,hs5,hk5⟩:=hI.append hz HXL.out hU;have f0:=hbx5.frozen 0;have c5:=hbx5.Za 0 rfl;have HK5:=Zz hk5;have HI5:=Zz hI5;clear hI hk5 hI5 hbx5 hz;gi_wp2_with (gi_at_builtin;refine listIn_append12 rfl (.tmp 12) (.tmp 14) 30 rfl hrun ?_);exact⟨_,Grew.with hU hs5,by first|exact HK5.out|(rw[HSZ.out];exact HK5.out),HI5.out⟩
 case stop=>
  rintro D c U W _ _ h _;exact h.elim
 case done=>
  rintro D U W hD hUD ⟨hB,hsW,v,b2,hown,hvU⟩ hK;have c0:=b2.Za 0 rfl;have hsz:=HSZ.out;rw[List.take_length] at hown;obtain⟨A,c,rfl,_,_⟩:=owns_slice hown;have HO:Hid ((W.putObj D (.deferred none)).ownsRow w.heap.size 3 1 (.slice A xs.length c) xs.length (nums .i64 xs)):=Zz (by
   refine⟨hown.1,?_⟩;rcases hown.2 with h|⟨g',cap,cur,e,h3,h4,r⟩
   · exact .inl h
   · refine .inr ⟨g',cap,cur,e,by omega,(World.putObj_heap_other (fun e=>?_)).trans h4,r⟩;subst e;rw[hK] at h4;cases h4);clear hown hvU;gi_wp2_with fail;refine⟨by simp,.inl ⟨_,_,rfl,run_takeDeferred hK,?_⟩⟩;refine⟨.slice A xs.length c,by simp[results,Tryz.f138,go_sem],⟨A,c,rfl,HO.out,hB.trans (belowK_b (w:=w) (Nat.le_refl _) _ D _ _ (by omega) hK rfl rfl)⟩⟩
end
section
open Go.RowKit
section
variable {P:Program} {ops:Array Oper} {B S:World→Prop} {L:(World→Prop)→Act→Prop} {o:Oper} {l:List (Oper×Bool)} {a:Act}
theorem mix_within (t:TypeId) (x y:Operand) (g off:Nat) (vs:List Value) (S':World→Prop) (hF':Fam B S') (ho:o.op= .store t x y) (hx:a.eval x= .pointer (some ⟨g,off,none⟩)) (hy:a.eval y= .agg vs.toArray)
 (hi:(P.info? t).map (·.size)=some vs.length) (h1:vs.all (·.oneCell')=true) (hw:Region.wanted o (yielded ops a.tmps)=true) (hth:∀w,S w→w.there g off vs.length) (hS':∀w,S w→S' (w.setCells g off vs))
 (h:wpMix P ops (Fam B) L l S' (a.put o.dst undef)):wpMix P ops (Fam B) L ((o,true)::l) S a:=by
 refine mix_store S' (fun w=>w.setCells g off vs) hF' hw (fun w hS=>?_) hS' h
 have :=run_storeAt_mid (P:=P) w g off t vs.toArray (by simpa using hth w hS) (by simpa using hi) (by simpa using h1)
 unfold execOp
 simp only[ho,hx,hy,Sem.run_bind,this,Result.andThen_ok,Sem.run_pure]
end
end
end Go.Proofs.YtifnlhfinjfajaaGreatDoor
