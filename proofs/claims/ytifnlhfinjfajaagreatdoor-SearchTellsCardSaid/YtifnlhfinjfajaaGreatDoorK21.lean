/- Of this seat: ShE, ShF, ShP. -/
import Derived.WalkSmall
import Derived.Test.YtifnlhfinjfajaaGreatDoorK20
import Derived.Test.YtifnlhfinjfajaaGreatDoorK18
namespace Go.Proofs.YtifnlhfinjfajaaGreatDoor
set_option linter.unusedVariables false
set_option linter.unusedSimpArgs false
set_option maxRecDepth 100000
set_option maxHeartbeats 32000000
section
open Go.RowKit Go.Shelf
theorem Closed.off (S:Nat→Prop) (w:World):Closed (Off S w):=fun _ _ h hb=>h.trans (Off.below hb)
theorem Off.grown {S:Nat→Prop} {w W W':World} (h:Off S w W) {r:Option Nat} (hg:W.grownBy W' r) (hr:∀k,r=some k→S k∨w.heap.size≤k):Off S w W':=
 ⟨h.same.trans ⟨hg.os,hg.tape,hg.output⟩,Nat.le_trans h.size hg.size,fun k o ho hn=>(hg.block k (Array.getElem?_eq_some_iff.1 (h.rest k o ho hn)).1 (fun e=>by
  rcases hr k e.symm with h1|h1
  · exact hn h1
  · have :=(Array.getElem?_eq_some_iff.1 ho).1;omega)).trans (h.rest k o ho hn)⟩
theorem whole_cells14:∀(vs:List Value) (o:Nat) {w:World} {g h:Nat} {t:TypeId} {cs:List Value},Whole w h t cs→h≠g→Whole (w.setCells g o vs) h t cs
 |[],_,_,_,_,_,_,hw,_=>hw
 |v::vs,o,w,g,h,t,cs,hw,hn=>whole_cells14 vs (o+1) (hw.far (p:=⟨g,o,none⟩) hn v) hn
theorem owns_cells14:∀(vs:List Value) (o:Nat) {w:World} {g base e size n:Nat} {v:Value} {xs:List Value},w.ownsRow base e size v n xs→v.ownBlock≠some g→(w.setCells g o vs).ownsRow base e size v n xs
 |[],_,_,_,_,_,_,_,_,_,h,_=>h
 |u::vs,o,w,g,base,e,size,n,v,xs,h,hn=>owns_cells14 vs (o+1) (owns_past h (p:=⟨g,o,none⟩) hn u) hn
theorem off_cells:∀(vs:List Value) (o:Nat) {S:Nat→Prop} {w W:World} {g:Nat},Off S w W→w.heap.size≤g→Off S w (W.setCells g o vs)
 |[],_,_,_,_,_,h,_=>h
 |v::vs,o,S,w,W,g,h,hg=>off_cells vs (o+1) ⟨h.same.trans ⟨rfl,rfl,rfl⟩,by simpa [World.setCell] using h.size,fun k x hk hn=>(Below.heap_setCell W ⟨g,o,none⟩ v k (fun e=>by have h1:k=g:=e;have :=(Array.getElem?_eq_some_iff.1 hk).1;omega)).trans (h.rest k x hk hn)⟩ hg
theorem und_paths:Tryz.prog.underlying 33=some (.slice (Tryz.prog.elem 33)):=by kernel_rfl
theorem size_paths (W:World):(sizeOf (Tryz.prog.elem 33)).run Tryz.prog W= .ok 3 W:=by kernel_rfl
theorem slice_toP (A:Option Addr) (n c a:Nat) (ha:a≤c) (W:World):(Instr.sliceAt 33 (.slice A n c) none (some (.int .i64 (a:Int))) none).run Tryz.prog W= .ok (.slice A a c) W:=by
 have h:(Instr.sliceAt 33 (.slice A n c) none (some (.int .i64 (a:Int))) none).run Tryz.prog W= .ok (sliced A 0 a c 3) W:=by
  have h1:(a:Int)≤(c:Int):=by omega
  have h2:(0:Int)≤(a:Int):=by omega
  rw[run_sliceAt_slice (h:=und_paths),run_slice_h (ht:=und_paths) (h0:=h2) (h2:=h1),size_paths];rfl
 rw[h];cases A <;> simp[sliced,Addr.add]
theorem exec_slice14 {P:Program} {o:Oper} {ρ:Operand→Value} {w:World} (t:TypeId) (x:Operand) (lo hi mx:Option Operand) (ho:o.op= .slice t x lo hi mx) {v:Value}
 (hrun:(Instr.sliceAt t (ρ x) (lo.map ρ) (hi.map ρ) (mx.map ρ)).run P w= .ok v w):(execOp ρ o).run P w= .ok (.value v) w:=by
 unfold execOp
 simp only[ho,Sem.run_bind,Sem.run_pure,Result.andThen_ok,hrun]
theorem put14 {B base n:Nat} {v:Value} {ps:List Pth} (x:Pth) {w:World} (hbox:Whole w B 118 [v]) (hown:w.ownsRow base 46 3 v n (ps.flatMap Pth.cells)) (hb:B<base) (hbw:base≤w.heap.size) (hn:n≤100000):
 Calls Tryz.prog 72 #[.pointer (some ⟨B,0,none⟩),x.val] w fun e w'=>e= .returned (.tuple #[])∧∃v',Whole w' B 118 [v']∧w'.ownsRow base 46 3 v' (n+1) ((ps++[x]).flatMap Pth.cells)∧(v'.ownBlock=v.ownBlock∨∃b,v'.ownBlock=some b∧w.heap.size≤b)∧Off (fun k=>k=B∨v.ownBlock=some k) w w':=by
 obtain⟨A,c,rfl,_,_⟩:=ownsS_slice hown
 obtain⟨v,hv⟩:∃v,Value.slice A n c=v:=⟨_,rfl⟩
 rw[hv] at hbox hown ⊢
 have HV:=Zz hv
 clear hv
 have hvb:∀b,v.ownBlock=some b→base≤b∧b<w.heap.size:=fun b hb=>hown.lt b hb
 obtain⟨W1,hW1⟩:∃W1,w.alloc (.cells #[.int .i64 x.s,.int .i64 x.x,.slice x.A x.ss.length x.c] 46)=W1:=⟨_,rfl⟩
 have hB1:Below w.heap.size w W1:=by rw[←hW1];exact below1 w _
 have hx1:Whole W1 w.heap.size 46 x.cells:=by rw[←hW1];exact Whole.new w _ x.cells
 have hS:(((Off (fun k=>k=B∨v.ownBlock=some k) w W1∧Whole W1 B 118 [v])∧Whole W1 w.heap.size 46 x.cells)∧W1.ownsRow base 46 3 v n (ps.flatMap Pth.cells)):=⟨⟨⟨Off.below hB1,hbox.below hB1 hbox.lt⟩,hx1⟩,Zh hown hB1⟩
 have HC0:Hid (Closed fun W=>((Off (fun k=>k=B∨v.ownBlock=some k) w W∧Whole W B 118 [v])∧Whole W w.heap.size 46 x.cells)):=Zz (((Closed.off _ _).and (Closed.whole _ _ _)).and (Closed.whole _ _ _))
 have HS:=Zz hS
 have HW1:=Zz hW1
 have HVB:=Zz hvb
 clear hbox hown hvb hW1 hB1 hx1 hS
 go_enter Tryz.func72,Tryz.ntmps72
 go_upto_region 1 with (fail)
 rw[HW1.out]
 refine region_mixt (fun W=>((Off (fun k=>k=B∨v.ownBlock=some k) w W∧Whole W B 118 [v])∧Whole W w.heap.size 46 x.cells)) [(0,false),(1,false),(2,false),(3,false),(4,false),(5,false),(6,true),(7,true)] 3 8 (by kernel_rfl) rfl (by kernel_rfl) (fun W=>(((Off (fun k=>k=B∨v.ownBlock=some k) w W∧Whole W B 118 [v])∧Whole W w.heap.size 46 x.cells)∧W.ownsRow base 46 3 v n (ps.flatMap Pth.cells))) ⟨HC0.out.and (Closed.owns _ _ _ _ _ _),fun W h=>h.1⟩ ((HC0.out.and (Closed.owns _ _ _ _ _ _)).drew HS.out) ?_
 simp only[Zg,Lm,Ln]
 repeat ((first|(refine Zb (by rfl) ?_)|(refine Zn _ (by rfl) (fun W hW=>by(have b0:=hW.1.2.Za 0 rfl;obtain⟨y0,y1,y2⟩:=(hW.2).c3;clear hW;go_simp;first|done|with_reducible rfl)) ?_));simp only[Act.put,La,Lb,Lc])
 refine mix_make (fun g=>.slice (some ⟨g,0,none⟩) 1 1) w.heap.size 46 x.cells ⟨HC0.out.and (Closed.owns _ _ _ _ _ _),fun W h=>h.1⟩ (fun W hW=>hW.1.1.1.size) (by rfl) (fun W hW=>by(clear hW;go_simp;first|done|with_reducible rfl)) (fun g hg=>?_)
 simp only[Act.put,La,Lb,Lc]
 refine mix_yield (X:=Value) (fun y=>y) (fun y W=>(((Off (fun k=>k=B∨v.ownBlock=some k) w W∧Whole W B 118 [v])∧Whole W w.heap.size 46 x.cells)∧(W.ownsRow base 46 3 y (n+1) ((ps++[x]).flatMap Pth.cells)∧(y.ownBlock=v.ownBlock∨∃b,y.ownBlock=some b∧w.heap.size≤b)))) (fun y=>⟨HC0.out.and ((Closed.owns _ _ _ _ _ _).and (fun _ _ h _=>h)),fun W h=>h.1⟩) (by rfl) (fun W hW=>?_) (fun y=>?_)
 · obtain⟨v',w',h1,h2,h3,h4,h5⟩:=append_path base n v (ps.flatMap Pth.cells) x W g hW.1.2 hW.2 (by omega) (Nat.le_trans hbw hW.1.1.1.1.size);refine⟨v',w',exec_append (.tmp 8) (.tmp 10) 33 rfl (by first|exact h1|(rw[←HV.out] at h1;exact h1)),⟨⟨hW.1.1.1.1.grown h3 (fun k e=>.inl (.inr e)),hW.1.1.1.2.kept h3 (fun e=>by have :=(HVB.out B e.symm).1;omega)⟩,hW.1.1.2.kept h3 (fun e=>by have :=(HVB.out _ e.symm).2;omega)⟩,by rw[List.flatMap_append];simpa using h2,?_⟩;rcases h5 with h5|h5
   · exact .inl h5
   · exact .inr ⟨_,h5,hW.1.1.1.1.size⟩
 simp only[Act.put,La,Lb,Lc]
 refine Zd (fun W hW=>?_)
 simp only[List.drop_succ_cons,List.drop_zero]
 obtain⟨⟨⟨h1,h2⟩,_⟩,h3,h4⟩:=hW
 obtain⟨A2,c2,rfl,_,_⟩:=ownsS_slice h3
 obtain⟨y,hy⟩:∃y,Value.slice A2 (n+1) c2=y:=⟨_,rfl⟩
 rw[hy] at h3 h4
 have b0:=h2.Za 0 rfl
 have f0:=h2.frozen 0
 have HE:Hid (Whole (W.setCell ⟨B,0,none⟩ y) B 118 [y]∧(W.setCell ⟨B,0,none⟩ y).ownsRow base 46 3 y (n+1) ((ps++[x]).flatMap Pth.cells)∧(y.ownBlock=v.ownBlock∨∃b,y.ownBlock=some b∧w.heap.size≤b)∧Off (fun k=>k=B∨v.ownBlock=some k) w (W.setCell ⟨B,0,none⟩ y)):=Zz ⟨h2.set 0 y,owns_past h3 (by intro e;have h1:=(h3.lt _ e).1;have h3:(Addr.mk B 0 none).block=B:=rfl;omega) _,h4,h1.trans (Off.set W y (.inl rfl))⟩
 clear h1 h2 h3 h4
 rw[←hy] at HE
 clear hy
 go_wp2_with fail
 go_end0
 exact⟨rfl,_,HE.out⟩
theorem take14_none {B:Nat} {v:Value} {w:World} (hbox:Whole w B 118 [v]) (hv:∃A c,v= .slice A 0 c):Calls Tryz.prog 73 #[.pointer (some ⟨B,0,none⟩)] w fun e w'=>e= .returned (.tuple #[.agg #[.int .i64 0,.int .i64 0,.slice none 0 0],.bool false])∧Below w.heap.size w w':=by
 obtain⟨A,c,rfl⟩:=hv;have hb1:=hbox.alloc (.cells #[.int .i64 0,.int .i64 0,.slice none 0 0] 46);have b0:=hb1.Za 0 rfl;have hz:=Whole.new w 46 [.int .i64 0,.int .i64 0,.slice none 0 0];obtain⟨z0,z1,z2⟩:=hz.c3;have f0:=hz.frozen 0;have f1:=hz.frozen 1;have f2:=hz.frozen 2;have HE:=Zz (And.intro hz (below1 w (.cells #[.int .i64 0,.int .i64 0,.slice none 0 0] 46)));clear hb1 hz hbox;go_enter Tryz.func73,Tryz.ntmps73;go_wp2_with fail;have e0:=HE.out.1.Za 0 rfl;have e1:=HE.out.1.Za 1 rfl;have e2:=HE.out.1.Za 2 rfl;refine bodyPost_ret (v:=.tuple #[.agg #[.int .i64 0,.int .i64 0,.slice none 0 0],.bool false]) ?_ rfl ⟨rfl,HE.out.2⟩;simp[results,Tryz.f73,go_sem,e0,e1,e2]
theorem take14_last {B base:Nat} {v:Value} {u:List Pth} {p:Pth} {w:World} (hbox:Whole w B 118 [v]) (hown:w.ownsRow base 46 3 v (u.length+1) ((u++[p]).flatMap Pth.cells)) (hb:B<base) (hbw:base≤w.heap.size) (hn:u.length≤100000):
 Calls Tryz.prog 73 #[.pointer (some ⟨B,0,none⟩)] w fun e w'=>e= .returned (.tuple #[p.val,.bool true])∧∃v',Whole w' B 118 [v']∧w'.ownsRow base 46 3 v' u.length (u.flatMap Pth.cells)∧v'.ownBlock=v.ownBlock∧Off (fun k=>k=B∨v.ownBlock=some k) w w':=by
 obtain⟨g,c,rfl⟩:=ownsRow_succ hown
 obtain⟨v,hv⟩:∃v,Value.slice (some ⟨g,0,none⟩) (u.length+1) c=v:=⟨_,rfl⟩
 rw[hv] at hbox hown ⊢
 have hbk:v.ownBlock=some g:=by rw[←hv];rfl
 have hgl:=hown.lt g hbk
 have hcap:u.length+1≤c:=by
  rcases hown.2 with ⟨h,_⟩|⟨g',c',cur,e,_,_,h5,_⟩
  · rw[←hv] at h;cases h
  · rw[←hv] at e;cases e;exact h5
 obtain⟨W1,hW1⟩:∃W1,w.alloc (.cells #[.int .i64 0,.int .i64 0,.slice none 0 0] 46)=W1:=⟨_,rfl⟩
 have hB1:Below w.heap.size w W1:=by rw[←hW1];exact below1 w _
 have hz1:Whole W1 w.heap.size 46 [.int .i64 0,.int .i64 0,.slice none 0 0]:=by rw[←hW1];exact Whole.new w _ [_,_,_]
 have hS:((Off (fun k=>k=B∨v.ownBlock=some k) w W1∧Whole W1 B 118 [v])∧W1.ownsRow base 46 3 v (u.length+1) ((u++[p]).flatMap Pth.cells))∧Whole W1 w.heap.size 46 [.int .i64 0,.int .i64 0,.slice none 0 0]:=⟨⟨⟨Off.below hB1,hbox.below hB1 hbox.lt⟩,Zh hown hB1⟩,hz1⟩
 have HC0:Hid (Closed fun W=>((Off (fun k=>k=B∨v.ownBlock=some k) w W∧Whole W B 118 [v])∧W.ownsRow base 46 3 v (u.length+1) ((u++[p]).flatMap Pth.cells))):=Zz (((Closed.off _ _).and (Closed.whole _ _ _)).and (Closed.owns _ _ _ _ _ _))
 have HCL:Hid (∀W,((Off (fun k=>k=B∨v.ownBlock=some k) w W∧Whole W B 118 [v])∧W.ownsRow base 46 3 v (u.length+1) ((u++[p]).flatMap Pth.cells))→W.cell? ⟨g,u.length*3,none⟩=some (.int .i64 p.s)∧W.cell? ⟨g,u.length*3+1,none⟩=some (.int .i64 p.x)∧W.cell? ⟨g,u.length*3+2,none⟩=some (.slice p.A p.ss.length p.c)):=Zz fun W hW=>by
  have ho:=hW.2;rw[←hv] at ho;have hr:Row W W.heap.size (some ⟨g,0,none⟩) ((u++[p]).flatMap Pth.cells):=owns_row2 ho;have hx:(u++[p])[u.length]? =some p:=List.getElem?_concat_length;obtain⟨b,off,e,_,hc0,hc⟩:=hr.nth (f:=Pth.cells) (n:=3) (fun _=>rfl) (by omega) hx;cases e;have c0:=hc0 u.length _ _ hx rfl;have c1:=hc u.length _ 1 _ hx rfl;have c2:=hc u.length _ 2 _ hx rfl;simp only[Nat.zero_add] at c0 c1 c2;exact⟨c0,c1,c2⟩
 have hwr:IntKind.i64.wrap (((u.length+1:Nat):Int) - 1)=(u.length:Int):=by rw[IntWalk.i64_in _ (by omega)];omega
 have hwr2:IntKind.i64.wrap ((u.length:Int)+1 - 1)=(u.length:Int):=by rw[IntWalk.i64_in _ (by omega)];omega
 have hnz:decide ((u.length:Int)<0)=false:=decide_eq_false (by omega)
 have hlt:(u.length:Int)<(u.length:Int)+1:=by omega
 have hlt2:(u.length:Int)<((u.length+1:Nat):Int):=by omega
 have HS:=Zz hS
 have HW1:=Zz hW1
 have HV:=Zz hv
 have HGL:=Zz hgl
 have HBK:=Zz hbk
 have b0:=hS.1.1.2.Za 0 rfl
 rw[←hW1,←hv] at b0
 clear hbox hown hW1 hB1 hz1 hS hv hgl hbk
 go_enter Tryz.func73,Tryz.ntmps73
 go_upto_region 4 with (fail)
 rw[HW1.out]
 clear b0
 refine region_mixt (fun W=>((Off (fun k=>k=B∨v.ownBlock=some k) w W∧Whole W B 118 [v])∧W.ownsRow base 46 3 v (u.length+1) ((u++[p]).flatMap Pth.cells))) [(0,false),(1,false),(2,false),(3,false),(4,false),(5,false),(6,false),(7,false),(8,false),(9,false),(10,false),(11,false),(12,false),(13,false),(14,true)] 3 15 (by kernel_rfl) rfl (by kernel_rfl) (fun W=>((Off (fun k=>k=B∨v.ownBlock=some k) w W∧Whole W B 118 [v])∧W.ownsRow base 46 3 v (u.length+1) ((u++[p]).flatMap Pth.cells))∧Whole W w.heap.size 46 [.int .i64 0,.int .i64 0,.slice none 0 0]) ⟨HC0.out.and (Closed.whole _ _ _),fun W h=>h.1⟩ ((HC0.out.and (Closed.whole _ _ _)).drew HS.out) ?_
 simp only[Zg,Lm,Ln]
 iterate 13 (first|(refine Zn _ (by rfl) (fun W hW=>by(have b0:=hW.1.2.Za 0 rfl;rw[←HV.out] at b0;obtain⟨c0,c1,c2⟩:=HCL.out W hW;clear hW;go_simp;first|done|with_reducible rfl)) ?_;simp only[Act.put,La,Lb,Lc]))
 refine Zn _ (by rfl) (fun W hW=>exec_slice14 33 (.tmp 25) none (some (.tmp 26)) none rfl (slice_toP (some ⟨g,0,none⟩) (u.length+1) c u.length (by omega) W)) ?_
 simp only[Act.put,La,Lb,Lc]
 refine mix_within 46 (.tmp 2) (.tmp 21) w.heap.size 0 [.int .i64 p.s,.int .i64 p.x,.slice p.A p.ss.length p.c] (fun W=>((Off (fun k=>k=B∨v.ownBlock=some k) w W∧Whole W B 118 [v])∧W.ownsRow base 46 3 v (u.length+1) ((u++[p]).flatMap Pth.cells))∧Whole W w.heap.size 46 p.cells) ⟨HC0.out.and (Closed.whole _ _ _),fun W h=>h.1⟩ (by rfl) rfl rfl (by kernel_rfl) rfl (by rfl) (fun W hW=>hW.2.there) (fun W hW=>⟨⟨⟨off_cells _ _ hW.1.1.1 (Nat.le_refl _),whole_cells14 _ _ hW.1.1.2 (by have :=HGL.out;omega)⟩,owns_cells14 _ _ hW.1.2 (by rw[HBK.out];intro e;have :=Option.some.inj e;have :=HGL.out;omega)⟩,setCells_whole [.int .i64 p.s,.int .i64 p.x,.slice p.A p.ss.length p.c] [] [.int .i64 0,.int .i64 0,.slice none 0 0] rfl hW.2⟩) ?_
 simp only[Act.put,La,Lb,Lc]
 refine Zd (fun W hW=>?_)
 simp only[List.drop_succ_cons,List.drop_zero]
 obtain⟨⟨⟨h1,h2⟩,h3⟩,h4⟩:=hW
 have b0:=h2.Za 0 rfl
 have f0:=h2.frozen 0
 have hne:w.heap.size≠(Addr.mk B 0 none).block:=by show w.heap.size≠B;have :=HGL.out;omega
 have h5:=h4.far (p:=⟨B,0,none⟩) hne (.slice (some ⟨g,0,none⟩) u.length c)
 obtain⟨z0,z1,z2⟩:=h5.c3
 have g0:=h5.frozen 0
 have g1:=h5.frozen 1
 have g2:=h5.frozen 2
 obtain⟨W5,hW5⟩:∃W5,W.setCell ⟨B,0,none⟩ (.slice (some ⟨g,0,none⟩) u.length c)=W5:=⟨_,rfl⟩
 have HE0:Whole W5 B 118 [.slice (some ⟨g,0,none⟩) u.length c]∧W5.ownsRow base 46 3 (.slice (some ⟨g,0,none⟩) u.length c) u.length (u.flatMap Pth.cells)∧(Value.slice (some ⟨g,0,none⟩) u.length c).ownBlock=v.ownBlock∧Off (fun k=>k=B∨v.ownBlock=some k) w W5:=by
  rw[←hW5];refine⟨h2.set 0 _,owns_past ?_ (by intro e;have h1:=HGL.out;have h3:(Addr.mk B 0 none).block=B:=rfl;have h4:(Value.slice (some ⟨g,0,none⟩) u.length c).ownBlock=some g:=rfl;rw[h4,h3] at e;have :=Option.some.inj e;omega) _,HBK.out.symm,h1.trans (Off.set W _ (.inl rfl))⟩;rw[←HV.out,List.flatMap_append] at h3;exact ownsRow_pop (by rw[flat_length (n:=3) (fun _=>rfl)]) h3
 rw[hW5] at h5 z0 z1 z2 g0 g1 g2
 have HW5:=Zz hW5
 have hgw:(Value.slice (some ⟨g,0,none⟩) u.length c).ownBlock≠some w.heap.size:=fun e=>by have h4:(Value.slice (some ⟨g,0,none⟩) u.length c).ownBlock=some g:=rfl;rw[h4] at e;have :=Option.some.inj e;have :=HGL.out;omega
 have HE:Hid (∃W6,((W5.setCell ⟨w.heap.size,0,none⟩ (.int .i64 p.s)).setCell ⟨w.heap.size,1,none⟩ (.int .i64 p.x)).setCell ⟨w.heap.size,2,none⟩ (.slice p.A p.ss.length p.c)=W6∧Whole W6 w.heap.size 46 p.cells∧Whole W6 B 118 [.slice (some ⟨g,0,none⟩) u.length c]∧W6.ownsRow base 46 3 (.slice (some ⟨g,0,none⟩) u.length c) u.length (u.flatMap Pth.cells)∧(Value.slice (some ⟨g,0,none⟩) u.length c).ownBlock=v.ownBlock∧Off (fun k=>k=B∨v.ownBlock=some k) w W6):=Zz
  ⟨_,rfl,setCells_whole [.int .i64 p.s,.int .i64 p.x,.slice p.A p.ss.length p.c] [] p.cells rfl h5,whole_cells14 [.int .i64 p.s,.int .i64 p.x,.slice p.A p.ss.length p.c] 0 HE0.1 (by have :=HGL.out;omega),owns_cells14 [.int .i64 p.s,.int .i64 p.x,.slice p.A p.ss.length p.c] 0 HE0.2.1 hgw,HE0.2.2.1,off_cells [.int .i64 p.s,.int .i64 p.x,.slice p.A p.ss.length p.c] 0 HE0.2.2.2 (Nat.le_refl _)⟩
 clear h1 h2 h3 h4 h5 hne HE0 hgw hW5
 go_wp2_with (rw[HW5.out])
 obtain⟨W6,hW6,h6,h7⟩:=HE.out
 rw[hW6]
 obtain⟨e0,e1,e2⟩:=h6.c3
 refine bodyPost_ret (v:=.tuple #[p.val,.bool true]) ?_ rfl ⟨rfl,_,h7⟩
 simp[results,Tryz.f73,go_sem,e0,e1,e2]
theorem least_ex {S:Nat→Prop}:∀n,S n→∃m,S m∧∀k,S k→m≤k:=by
 intro n;induction n using Nat.strongRecOn with
 |_ n ih=>
  intro h;by_cases hh:∃k,k<n∧S k
  · obtain⟨k,hk,hs⟩:=hh;exact ih k hk hs
  · exact⟨n,h,fun k hk=>Nat.le_of_not_lt fun hlt=>hh ⟨k,hlt,hk⟩⟩
noncomputable def leastN (S:Nat→Prop):Nat:=open Classical in if h:∃m,S m∧∀k,S k→m≤k then h.choose else 0
theorem least_spec {S:Nat→Prop} (h:∃n,S n):S (leastN S):=by
 obtain⟨n,hn⟩:=h;have hx:=least_ex n hn;unfold leastN;rw[dif_pos hx];exact hx.choose_spec.1
theorem least_le {S:Nat→Prop} {n:Nat} (h:S n):leastN S≤n:=by
 have hx:=least_ex n h;unfold leastN;rw[dif_pos hx];exact hx.choose_spec.2 n h
def blk (p:Pth):Option Nat:=(Value.slice p.A p.ss.length p.c).ownBlock
abbrev stepRow (W:World) (base:Nat) (p:Pth):Prop:=W.ownsRow base 66 3 (.slice p.A p.ss.length p.c) p.ss.length (p.ss.flatMap Ze)
theorem owns_keeps {S:Nat→Prop} {W W':World} (h:Keeps S W W') {base e k n:Nat} {v:Value} {xs:List Value} (hown:W.ownsRow base e k v n xs) (hU:∀b,v.ownBlock=some b→S b):W'.ownsRow base e k v n xs:=by
 refine⟨hown.1,?_⟩;rcases hown.2 with h2|⟨g,cap,cur,rfl,h3,h4,r⟩
 · exact .inl h2
 · exact .inr ⟨g,cap,cur,rfl,h3,h g _ (hU g rfl) h4,r⟩
theorem owns_obj {W:World} {base e k n:Nat} {v:Value} {xs:List Value} (hown:W.ownsRow base e k v n xs) {b:Nat} (hb:v.ownBlock=some b):∃cur,W.heap[b]? =some (.cells cur e (0,0)):=by
 rcases hown.2 with ⟨rfl,_⟩|⟨g,cap,cur,rfl,h3,h4,r⟩
 · cases hb
 · cases hb;exact⟨cur,h4⟩
theorem owns_lies {W:World} {base:Nat} {p:Pth} (h:stepRow W base p) (hl:p.ss.length≤1000):PLies p W:=⟨owns_row2 h,by omega⟩
structure Core14 (J:(Nat→Prop)→List Pth→World→Prop) (R:Nat→Prop) (w0:World) (B:Nat) (Ds:List Nat) (U:Nat→Prop) (hs:List Pth) (W:World):Prop where
 j:J U hs W
 lt:∀k,U k→k<W.heap.size
 keeps:Keeps R w0 W
 marks:Marks B U Ds W
theorem Core14.go {J:(Nat→Prop)→List Pth→World→Prop} {R:Nat→Prop} {w0:World} {B:Nat} {Ds:List Nat} {U:Nat→Prop} {hs:List Pth} {W W':World} (h:Core14 J R w0 B Ds U hs W) (hJ:Safe B J) (hR:∀k,R k→k<B) {S:Nat→Prop} (h3:Same3 W W') (hz:W.heap.size≤W'.heap.size) (hk:Keeps S W W') (h1:∀k,k<B→S k) (h2:∀k,U k→S k) (hd:∀D ∈ Ds,S D):Core14 J R w0 B Ds U hs W':=
 ⟨hJ _ _ _ _ h.j ⟨h3,hz,fun k o ho hk'=>hk k o (hk'.elim (h1 k) (h2 k)) ho⟩,fun k hu=>Nat.lt_of_lt_of_le (h.lt k hu) hz,fun k o hr ho=>hk k o (h1 k (hR k hr)) (h.keeps k o hr ho),⟨h.marks.once,fun D hD=>let ⟨q1,q2,q3⟩:=h.marks.all D hD;⟨hk D _ (hd D hD) q1,q2,q3⟩⟩⟩
theorem Core14.below {J:(Nat→Prop)→List Pth→World→Prop} {R:Nat→Prop} {w0:World} {B:Nat} {Ds:List Nat} {U:Nat→Prop} {hs:List Pth} {W W':World} (h:Core14 J R w0 B Ds U hs W) (hJ:Safe B J) (hR:∀k,R k→k<B) (hb:Below W.heap.size W W'):Core14 J R w0 B Ds U hs W':=
 h.go hJ hR (S:=fun _=>True) ⟨hb.os,hb.tape,hb.output⟩ hb.size (fun k o _ ho=>(hb.block k (Array.getElem?_eq_some_iff.1 ho).1).trans ho) (fun _ _=>trivial) (fun _ _=>trivial) (fun _ _=>trivial)
theorem Core14.noMark {J:(Nat→Prop)→List Pth→World→Prop} {R:Nat→Prop} {w0:World} {B:Nat} {Ds:List Nat} {U:Nat→Prop} {hs:List Pth} {W:World} (h:Core14 J R w0 B Ds U hs W) {k:Nat} {cur:Array Value} {e:TypeId} (hk:W.heap[k]? =some (.cells cur e (0,0))):k ∉ Ds:=fun hd=>by
 have :=(h.marks.all k hd).1;rw[hk] at this;cases this
structure StkR (B:Nat) (U:Nat→Prop) (v:Value) (ps:List Pth) (W:World):Prop where
 box:Whole W B 118 [v]
 own:W.ownsRow (B+1) 46 3 v ps.length (ps.flatMap Pth.cells)
 boxU:¬U B
 outU:∀k,v.ownBlock=some k→¬U k
theorem StkR.keeps {B:Nat} {U U':Nat→Prop} {v:Value} {ps:List Pth} {W W':World} (h:StkR B U v ps W) {S:Nat→Prop} (hk:Keeps S W W') (h1:S B) (h2:∀k,v.ownBlock=some k→S k) (hU:∀k,S k→k<W.heap.size→U' k→U k):StkR B U' v ps W':=
 ⟨hk B _ h1 h.box,owns_keeps hk h.own h2,fun hu=>h.boxU (hU _ h1 h.box.lt hu),fun k hv hu=>h.outU k hv (hU _ (h2 k hv) (h.own.lt k hv).2 hu)⟩
theorem StkR.below {B:Nat} {U:Nat→Prop} {v:Value} {ps:List Pth} {W W':World} (h:StkR B U v ps W) (hb:Below W.heap.size W W'):StkR B U v ps W':=
 h.keeps (S:=fun _=>True) (fun k o _ ho=>(hb.block k (Array.getElem?_eq_some_iff.1 ho).1).trans ho) trivial (fun _ _=>trivial) (fun _ _ _ h=>h)
structure PLs (l:Lay) (s x:Int) (B:Nat) (U:Nat→Prop) (ps:List Pth) (W:World):Prop where
 each:∀p ∈ ps,((p.s=s∧p.x=x)∧Good l s x p.ss)∧stepRow W (B+1) p
 apart:ps.Pairwise (fun a b=>∀k,blk a=some k→blk b≠some k)
 outU:∀p ∈ ps,∀k,blk p=some k→¬U k
theorem PLs.keeps {l:Lay} {s x:Int} {B:Nat} {U U':Nat→Prop} {ps:List Pth} {W W':World} (h:PLs l s x B U ps W) {S:Nat→Prop} (hk:Keeps S W W') (hS:∀p ∈ ps,∀k,blk p=some k→S k) (hU:∀k,S k→k<W.heap.size→U' k→U k):PLs l s x B U' ps W':=
 ⟨fun p hp=>⟨(h.each p hp).1,owns_keeps hk (h.each p hp).2 (hS p hp)⟩,h.apart,fun p hp k hb hu=>h.outU p hp k hb (hU k (hS p hp k hb) ((h.each p hp).2.lt k hb).2 hu)⟩
theorem PLs.below {l:Lay} {s x:Int} {B:Nat} {U:Nat→Prop} {ps:List Pth} {W W':World} (h:PLs l s x B U ps W) (hb:Below W.heap.size W W'):PLs l s x B U ps W':=
 h.keeps (S:=fun _=>True) (fun k o _ ho=>(hb.block k (Array.getElem?_eq_some_iff.1 ho).1).trans ho) (fun _ _ _ _=>trivial) (fun _ _ _ h=>h)
theorem PLs.sub {l:Lay} {s x:Int} {B:Nat} {U:Nat→Prop} {ps qs:List Pth} {W:World} (h:PLs l s x B U ps W) (hs:qs.Sublist ps):PLs l s x B U qs W:=
 ⟨fun p hp=>h.each p (hs.subset hp),h.apart.sublist hs,fun p hp=>h.outU p (hs.subset hp)⟩
theorem PLs.more {l:Lay} {s x:Int} {B:Nat} {U:Nat→Prop} {ps:List Pth} {W:World} (h:PLs l s x B U ps W) {p:Pth} (h1:p.s=s∧p.x=x) (h2:Good l s x p.ss) (h3:stepRow W (B+1) p) (h4:∀q ∈ ps,∀k,blk q=some k→blk p≠some k) (h5:∀k,blk p=some k→¬U k):PLs l s x B U (ps++[p]) W:=by
 refine⟨fun q hq=>?_,?_,fun q hq=>?_⟩
 · rcases List.mem_append.1 hq with hq|hq
   · exact h.each q hq
   · obtain rfl:q=p:=by simpa using hq
     exact⟨⟨h1,h2⟩,h3⟩
 · rw[List.pairwise_append];refine⟨h.apart,List.pairwise_singleton _ _,fun a ha b hb=>?_⟩;obtain rfl:b=p:=by simpa using hb
   exact h4 a ha
 · rcases List.mem_append.1 hq with hq|hq
   · exact h.outU q hq
   · obtain rfl:q=p:=by simpa using hq
     exact h5
theorem apart_row {W:World} {b1 b2 n:Nat} {v:Value} {xs:List Value} (h:W.ownsRow b1 46 3 v n xs) {p:Pth} (hp:stepRow W b2 p) {k:Nat} (hk:blk p=some k):v.ownBlock≠some k:=fun e=>by
 obtain⟨c1,h1⟩:=owns_obj h e;obtain⟨c2,h2⟩:=owns_obj hp hk;rw[h1] at h2;injection h2 with h2
 injection h2 with _ h2
 exact absurd h2 (by decide)
theorem Core14.off {J:(Nat→Prop)→List Pth→World→Prop} {R:Nat→Prop} {w0:World} {B:Nat} {Ds:List Nat} {U:Nat→Prop} {hs ps:List Pth} {v:Value} {W W':World} (h:Core14 J R w0 B Ds U hs W) (hJ:Safe B J) (hR:∀k,R k→k<B) (hst:StkR B U v ps W) (ho:Off (fun k=>k=B∨v.ownBlock=some k) W W'):Core14 J R w0 B Ds U hs W':=by
 refine h.go hJ hR (S:=fun k=>¬(k=B∨v.ownBlock=some k)) ho.same ho.size (fun k o hk hw=>ho.rest k o hw hk) (fun k hk hh=>?_) (fun k hu hh=>?_) (fun D hD hh=>?_)
 · rcases hh with rfl|hh
   · omega
   · have :=(hst.own.lt k hh).1;omega
 · rcases hh with rfl|hh
   · exact hst.boxU hu
   · exact hst.outU k hh hu
 · rcases hh with rfl|hh
   · exact h.noMark hst.box hD
   · obtain⟨cur,hc⟩:=owns_obj hst.own hh;exact h.noMark hc hD
theorem PLs.off {l:Lay} {s x:Int} {B:Nat} {U:Nat→Prop} {ps qs:List Pth} {v:Value} {W W':World} (h:PLs l s x B U qs W) (hst:StkR B U v ps W) (ho:Off (fun k=>k=B∨v.ownBlock=some k) W W'):PLs l s x B U qs W':=
 h.keeps (S:=fun k=>¬(k=B∨v.ownBlock=some k)) (fun k o hk hw=>ho.rest k o hw hk) (fun p hp k hb hh=>by
  rcases hh with rfl|hh
  · have :=((h.each p hp).2.lt k hb).1;omega
  · exact apart_row hst.own (h.each p hp).2 hb hh) (fun _ _ _ h=>h)
theorem off_fill:∀(vs:List Value) (o:Nat) (W:World) (g:Nat),Off (fun k=>k=g) W (W.setCells g o vs)
 |[],_,W,_=>Off.refl _ W
 |v::vs,o,W,g=>(Off.set (S:=fun k=>k=g) (p:=⟨g,o,none⟩) W v rfl).trans (off_fill vs (o+1) _ g)
theorem Core14.fill {J:(Nat→Prop)→List Pth→World→Prop} {R:Nat→Prop} {w0:World} {B:Nat} {Ds:List Nat} {U:Nat→Prop} {hs:List Pth} {W:World} (h:Core14 J R w0 B Ds U hs W) (hJ:Safe B J) (hR:∀k,R k→k<B) {g:Nat} {t:TypeId} {cs:List Value} (hw:Whole W g t cs) (hg:B≤g) (hu:¬U g) (vs:List Value):Core14 J R w0 B Ds U hs (W.setCells g 0 vs):=by
 have ho:=off_fill vs 0 W g;exact h.go hJ hR (S:=fun k=>¬k=g) ho.same ho.size (fun k o hk hw=>ho.rest k o hw hk) (fun k hk e=>by omega) (fun k hk e=>hu (e ▸ hk)) (fun D hD e=>h.noMark hw (e ▸ hD))
theorem StkR.fill {B:Nat} {U:Nat→Prop} {v:Value} {ps:List Pth} {W:World} (h:StkR B U v ps W) {g:Nat} (hg:B≠g) (hv:v.ownBlock≠some g) (vs:List Value):StkR B U v ps (W.setCells g 0 vs):=by
 have ho:=off_fill vs 0 W g;exact h.keeps (S:=fun k=>¬k=g) (fun k o hk hw=>ho.rest k o hw hk) hg (fun k hk e=>hv (e ▸ hk)) (fun _ _ _ h=>h)
theorem PLs.fill {l:Lay} {s x:Int} {B:Nat} {U:Nat→Prop} {ps:List Pth} {W:World} (h:PLs l s x B U ps W) {g:Nat} {cs:List Value} (hw:Whole W g 46 cs) (vs:List Value):PLs l s x B U ps (W.setCells g 0 vs):=by
 have ho:=off_fill vs 0 W g;refine h.keeps (S:=fun k=>¬k=g) (fun k o hk hw=>ho.rest k o hw hk) (fun p hp k hb e=>?_) (fun _ _ _ h=>h);subst e;obtain⟨cur,hc⟩:=owns_obj (h.each p hp).2 hb;rw[hw] at hc;injection hc with hc
 injection hc with _ hc
 exact absurd hc (by decide)
theorem StkR.put {B:Nat} {U:Nat→Prop} {v v':Value} {ps:List Pth} {x:Pth} {W W':World} (h:StkR B U v ps W) (hlt:∀k,U k→k<W.heap.size) (h1:Whole W' B 118 [v']) (h2:W'.ownsRow (B+1) 46 3 v' (ps.length+1) ((ps++[x]).flatMap Pth.cells)) (h3:v'.ownBlock=v.ownBlock∨∃b,v'.ownBlock=some b∧W.heap.size≤b):StkR B U v' (ps++[x]) W':=
 ⟨h1,by rw[List.length_append,List.length_singleton];exact h2,h.boxU,fun k hv hu=>by
  rcases h3 with e|⟨b,e,hb⟩
  · exact h.outU k (e ▸ hv) hu
  · rw[e] at hv;have :=Option.some.inj hv;have :=hlt k hu;omega⟩
theorem StkR.take {B:Nat} {U:Nat→Prop} {v v':Value} {u:List Pth} {p:Pth} {W W':World} (h:StkR B U v (u++[p]) W) (h1:Whole W' B 118 [v']) (h2:W'.ownsRow (B+1) 46 3 v' u.length (u.flatMap Pth.cells)) (h3:v'.ownBlock=v.ownBlock):StkR B U v' u W':=
 ⟨h1,h2,h.boxU,fun k hv hu=>h.outU k (h3 ▸ hv) hu⟩
structure InI14 (J:(Nat→Prop)→List Pth→World→Prop) (R:Nat→Prop) (w0:World) (B:Nat) (Ds:List Nat) (U:Nat→Prop) (hs:List Pth) (l:Lay) (js jx:Int) (u:List Pth) (p:Pth) (nx:List Stp) (gp h:Nat) (U':Nat→Prop) (j:Nat) (W:World):Prop where
 core:Core14 J R w0 B Ds U hs W
 stk:∃v ns,StkR B U v (u++ns) W∧PLs l js jx B U ((u++ns)++[p]) W∧ns.map Pth.ss=(nx.take j).map (fun y=>p.ss++[y])∧v.ownBlock≠some gp∧(∀k,v.ownBlock=some k→k<h∨U' k)∧(∀q ∈ ns,∀k,blk q=some k→U' k)
 box:Whole W gp 46 p.cells
 size:h+2≤W.heap.size
 up:∀k,U' k→h+2≤k
theorem InI14.stays {J:(Nat→Prop)→List Pth→World→Prop} {R:Nat→Prop} {w0:World} {B:Nat} {Ds:List Nat} {U:Nat→Prop} {hs:List Pth} {l:Lay} {js jx:Int} {u:List Pth} {p:Pth} {nx:List Stp} {gp h:Nat} {U':Nat→Prop} {j:Nat} {W W':World} (hi:InI14 J R w0 B Ds U hs l js jx u p nx gp h U' j W) (hJ:Safe B J) (hR:∀k,R k→k<B) (hB:B<h) (hg:gp<h) (hU:∀k,U k→k<h) (hD:∀D ∈ Ds,D<h) (hq:∀q ∈ u++[p],∀k,blk q=some k→k<h) (ht:Stays (h+2) U' W W'):InI14 J R w0 B Ds U hs l js jx u p nx gp h U' j W':=by
 have hk:Keeps (fun k=>k<h+2∨U' k) W W':=fun k o hk ho=>ht.rest k o ho hk;obtain⟨v,ns,h1,h2,h3,h4,h5,h6⟩:=hi.stk;refine⟨hi.core.go hJ hR ht.same ht.size hk (fun k h=>.inl (by omega)) (fun k h=>.inl (by have :=hU k h;omega)) (fun D h=>.inl (by have :=hD D h;omega)),⟨v,ns,h1.keeps hk (.inl (by omega)) (fun k hv=>(h5 k hv).imp (fun h=>by omega) id) (fun _ _ _ h=>h),h2.keeps hk (fun q hqq k hb=>?_) (fun _ _ _ h=>h),h3,h4,h5,h6⟩,ht.whole hi.box (.inl (by omega)),Nat.le_trans hi.size ht.size,hi.up⟩;rcases List.mem_append.1 hqq with hqq|hqq
 · rcases List.mem_append.1 hqq with hqq|hqq
   · exact .inl (by have :=hq q (List.mem_append_left _ hqq) k hb;omega)
   · exact .inr (h6 q hqq k hb)
 · exact .inl (by have :=hq q (List.mem_append_right _ hqq) k hb;omega)
theorem InI14.wide {J:(Nat→Prop)→List Pth→World→Prop} {R:Nat→Prop} {w0:World} {B:Nat} {Ds:List Nat} {U:Nat→Prop} {hs:List Pth} {l:Lay} {js jx:Int} {u:List Pth} {p:Pth} {nx:List Stp} {gp h:Nat} {U' U'':Nat→Prop} {j:Nat} {W:World} (hi:InI14 J R w0 B Ds U hs l js jx u p nx gp h U' j W) (h1:∀k,U' k→U'' k) (h2:∀k,U'' k→h+2≤k):InI14 J R w0 B Ds U hs l js jx u p nx gp h U'' j W:=
 ⟨hi.core,let ⟨v,ns,q1,q2,q3,q4,q5,q6⟩:=hi.stk;⟨v,ns,q1,q2,q3,q4,fun k hv=>(q5 k hv).imp id (h1 k),fun q hq k hb=>h1 k (q6 q hq k hb)⟩,hi.box,hi.size,h2⟩
theorem whole_ne14 {W:World} {g g':Nat} {t t':TypeId} {cs cs':List Value} (h:Whole W g t cs) (h':Whole W g' t' cs') (ht:t≠t'):g≠g':=fun e=>by
 subst e;have :=h.symm.trans h';injection this with this
 injection this with _ this
 exact ht this
theorem InI14.next {J:(Nat→Prop)→List Pth→World→Prop} {R:Nat→Prop} {w0:World} {B:Nat} {Ds:List Nat} {U:Nat→Prop} {hs:List Pth} {l:Lay} {js jx:Int} {u:List Pth} {p:Pth} {nx:List Stp} {gp h:Nat} {U':Nat→Prop} {j:Nat} {W W5 W6:World} (hJ:Safe B J) (hR:∀k,R k→k<B) (hB:B<h) (hg:gp<h)
 {v v':Value} {ns:List Pth} (hc:Core14 J R w0 B Ds U hs W) (h1:StkR B U v (u++ns) W) (h2:PLs l js jx B U ((u++ns)++[p]) W) (h3:ns.map Pth.ss=(nx.take j).map (fun y=>p.ss++[y])) (h4:v.ownBlock≠some gp) (h5:∀k,v.ownBlock=some k→k<h∨U' k) (h6:∀q ∈ ns,∀k,blk q=some k→U' k) (hbox:Whole W gp 46 p.cells) (hsz:h+2≤W.heap.size) (hup:∀k,U' k→h+2≤k) (hul:∀k,U' k→k<W.heap.size)
 {x:Stp} (hx:nx[j]? =some x) (hgood:Good l js jx (p.ss++[x])) {A:Option Addr} {c:Nat} (hown:W5.ownsRow (W.heap.size+3) 66 3 (.slice A (p.ss++[x]).length c) (p.ss++[x]).length ((p.ss++[x]).flatMap Ze)) (hB5:Below W.heap.size W W5)
 (hps:p.s=js∧p.x=jx) (b6:Whole W6 B 118 [v']) (o6:W6.ownsRow (B+1) 46 3 v' ((u++ns).length+1) (((u++ns)++[(⟨p.s,p.x,A,c,p.ss++[x]⟩:Pth)]).flatMap Pth.cells)) (e6:v'.ownBlock=v.ownBlock∨∃b,v'.ownBlock=some b∧W5.heap.size≤b) (off:Off (fun k=>k=B∨v.ownBlock=some k) W5 W6):
 InI14 J R w0 B Ds U hs l js jx u p nx gp h (With U' W W6) (j+1) W6:=by
 have hs5:=hB5.size
 have hs6:=off.size
 have hc5:=hc.below hJ hR hB5
 have h15:=h1.below hB5
 have h25:=h2.below hB5
 have hgs:p ∈ (u++ns)++[p]:=List.mem_append_right _ (by simp)
 obtain⟨pn,hpn⟩:∃pn:Pth,(⟨p.s,p.x,A,c,p.ss++[x]⟩:Pth)=pn:=⟨_,rfl⟩
 have hss:pn.ss=p.ss++[x]:=by rw[←hpn]
 have hpl:pn.s=js∧pn.x=jx:=by rw[←hpn];exact hps
 have hrow:stepRow W5 (W.heap.size+3) pn:=by rw[←hpn];exact hown
 have hbn:∀k,blk pn=some k→W.heap.size+3≤k∧k<W5.heap.size:=fun k hk=>hrow.lt k hk
 rw[hpn] at o6
 have hb0:B+1≤W.heap.size+3:=by have :=h1.box.lt;omega
 have hv5:∀k,v.ownBlock=some k→k<W.heap.size:=fun k hk=>(h1.own.lt k hk).2
 have h2n:PLs l js jx B U (((u++ns)++[pn])++[p]) W5:=by
  have hm:=h25.more (p:=pn) hpl (by rw[hss];exact hgood) (owns_base12 hrow hb0) (fun q hq k hb e=>by
   have h1:=((h2.each q hq).2.lt k hb).2;have h2:=(hbn k e).1;omega) (fun k hk hu=>by have :=hc.lt k hu;have :=(hbn k hk).1;omega);refine⟨fun q hq=>hm.each q (by simp only[List.mem_append,List.mem_singleton] at hq ⊢;rcases hq with (hq|hq)|hq;exact .inl (.inl hq);exact .inr hq;exact .inl (.inr hq)),?_,fun q hq=>hm.outU q (by simp only[List.mem_append,List.mem_singleton] at hq ⊢;rcases hq with (hq|hq)|hq;exact .inl (.inl hq);exact .inr hq;exact .inl (.inr hq))⟩;have ha:=hm.apart;rw[List.pairwise_append,List.pairwise_append] at ha;rw[List.pairwise_append,List.pairwise_append];obtain⟨⟨a1,a2,a3⟩,a4,a5⟩:=ha;refine⟨⟨a1,List.pairwise_singleton _ _,fun a ha b hb=>?_⟩,List.pairwise_singleton _ _,fun a ha b hb=>?_⟩
  · exact a5 a (List.mem_append_left _ ha) b hb
  · rcases List.mem_append.1 ha with ha|ha
    · exact a3 a ha b hb
    · obtain rfl:a=pn:=by simpa using ha
      obtain rfl:b=p:=by simpa using hb
      intro k h1 h2;exact a5 b (List.mem_append_right _ (by simp)) a (by simp) k h2 h1
 have hst6:=h15.put (x:=pn) (fun k hu=>Nat.lt_of_lt_of_le (hc.lt k hu) hs5) b6 o6 e6
 rw[List.append_assoc] at hst6
 have h2f:=h2n.off h15 off
 rw[List.append_assoc u ns [pn]] at h2f
 refine⟨hc5.off hJ hR h15 off,⟨v',ns++[pn],hst6,h2f,?_,?_,?_,?_⟩,?_,by omega,?_⟩
 · rw[List.map_append,h3,List.take_add_one,hx,Option.toList_some,List.map_append];simp[hss]
 · rcases e6 with e|⟨b,e,hb⟩
   · rw[e];exact h4
   · rw[e];intro e2;have :=Option.some.inj e2;omega
 · intro k hk;rcases e6 with e|⟨b,e,hb⟩
   · rw[e] at hk;exact(h5 k hk).imp id .inl
   · refine .inr (.inr ⟨?_,(o6.lt k hk).2⟩);rw[e] at hk;have :=Option.some.inj hk;omega
 · intro q hq k hk;rcases List.mem_append.1 hq with hq|hq
   · exact .inl (h6 q hq k hk)
   · obtain rfl:q=pn:=by simpa using hq
     have :=hbn k hk;exact .inr ⟨by omega,by omega⟩
 · exact off.whole (hbox.below hB5 hbox.lt) (fun hh=>by
    rcases hh with hh|hh
    · exact whole_ne14 hbox h1.box (by decide) hh
    · exact h4 hh)
 · rintro k (hk|hk)
   · exact hup k hk
   · omega
theorem small_wf {z:Int} (h0:0≤z) (h1:z≤1000):(Lit.int .i64 z).wf=true:=(Lit.wf_int_iff .i64 z).2 (by show -9223372036854775808≤z∧z≤9223372036854775807;omega)
theorem wantN_wf {l:Lay} (hF:FWf l) (hS:l.secs.length≤1000) {x:Int×Int×Int×Int}:∀n ∈ wantN l x,NWf n:=by
 intro n hn;unfold wantN wantsV firstV at hn;rcases List.mem_append.1 hn with h|h
 · rcases point_cases l x.2.1 x.2.2.1 x.2.2.2 with ⟨_,e⟩|⟨_,_,_,_,_,_,e⟩|⟨j,y,_,hy,_,_,_,e⟩
   · rw[e] at h;cases h
   · rw[e] at h;cases h
   · rw[e,if_pos rfl] at h;obtain rfl:=List.mem_singleton.1 h;have hj:=(List.getElem?_eq_some_iff.1 hy).1;refine⟨small_wf (by show(0:Int)≤(j:Int);omega) (by show(j:Int)≤1000;omega),?_⟩;have :=way_two 2 x.2.2.1 x.2.2.2;exact small_wf (by show 0≤wayK 2 _ _;omega) (by show wayK 2 _ _≤1000;omega)
 · obtain⟨f,hf,rfl⟩:=List.mem_map.1 h;exact hF f (List.mem_filter.1 hf).1
theorem ofV_wf {l:Lay} {p:Pth} (hF:FWf l) (hS:l.secs.length≤1000):∀n ∈ ofV l p,NWf n:=by
 intro n hn;rw[←of_flat] at hn;obtain⟨x,_,hx⟩:=List.mem_flatMap.1 hn;exact wantN_wf hF hS n hx
theorem over_most {l:Lay} {k:Nat} (hO:∀x ∈ l.exits,x.over.length≤k) (x:Int):(overL10 l x).length≤k:=by
 unfold overL10;split
 · cases h:l.exits[x.toNat]? with
   |none=>simp
   |some e=>simpa using hO e (List.mem_of_getElem? h)
 · simp
structure Sml14 (l:Lay):Prop where
 fl:FWf l
 secs:l.secs.length≤40
 pts:freeP l []≤8
 sigs:l.sigs.length≤30
 exits:l.exits.length≤30
 flanks:l.flanks.length≤40
 overs:∀x ∈ l.exits,x.over.length≤20
theorem Sml14.walks {l:Lay} (h:Sml14 l) (q:Int×Int):(walksV l q).length≤3072:=rest_most h.pts (Nat.le_refl _)
theorem Sml14.of {l:Lay} (h:Sml14 l) {p:Pth} (hp:p.ss.length≤100):(ofV l p).length≤1000000:=by
 have h1:=of_len (l:=l) (p:=p) (F:=40) (S:=120) h.flanks (by have :=over_most h.overs p.x;omega);omega
theorem Sml14.wf {l:Lay} (h:Sml14 l) (p:Pth):∀n ∈ ofV l p,NWf n:=ofV_wf h.fl (Nat.le_trans h.secs (by omega))
theorem Sml14.all {l:Lay} (h:Sml14 l) (s x:Int) (vs:List Int):(allV l s x vs).length≤3072:=Nat.le_trans all_sub (h.walks _)
theorem srt_pair14 {lt:Nat→Nat→Bool} {d:List Nat} {n:Nat} (hn:d.length=n) (h:Srt lt d 0 n):d.Pairwise (LL lt):=by
 rw[List.pairwise_iff_getElem];intro i j hi hj hij;have :=h i j (Nat.zero_le _) hij (by omega);rw[at_lt hi,at_lt hj] at this;exact this
theorem sorted14 {l:Lay} {ps qs:List Pth} {d:List Nat} (hd:d.Perm (List.range ps.length)) (hs:Srt (Zm (cvOf (ps.map (fun p=>rowV l p.ss)))) d 0 ps.length) (hv:qs.map (fun q=>some (pk q))=d.map (fun i=>(ps[i]?).map pk)):
 (qs.map Pth.ss).Perm (ps.map Pth.ss)∧(qs.map Pth.ss).Pairwise (fun u v=>leR l u v=true)∧∀q ∈ qs,∃p ∈ ps,q.s=p.s∧q.x=p.x:=by
 have hn:d.length=ps.length:=by rw[hd.length_eq,List.length_range]
 have hps:(List.range ps.length).map (fun i=>(ps[i]?).map pk)=ps.map (fun q=>some (pk q)):=by
  apply List.ext_getElem?;intro i;rw[List.getElem?_map,List.getElem?_map];by_cases hi:i<ps.length
  · rw[List.getElem?_range hi,List.getElem?_eq_getElem hi];simp[hi]
  · rw[List.getElem?_eq_none (by simp;omega),List.getElem?_eq_none (by omega)];rfl
 have hperm:(qs.map (fun q=>some (pk q))).Perm (ps.map (fun q=>some (pk q))):=by
  rw[hv,←hps];exact hd.map _
 have hss:∀rs:List Pth,rs.map Pth.ss=(rs.map (fun q=>some (pk q))).map (fun o=>(o.map (fun z=>z.2.2)).getD []):=fun rs=>by
  rw[List.map_map];rfl
 refine⟨by rw[hss,hss ps];exact hperm.map _,?_,fun q hq=>?_⟩
 · rw[hss,hv,List.map_map,List.pairwise_map];refine(srt_pair14 hn hs).imp_of_mem fun {a b} ha hb h=>?_;have hal:=List.mem_range.1 (hd.mem_iff.1 ha);have hbl:=List.mem_range.1 (hd.mem_iff.1 hb);have h2:=h.not_lt (ord_rows _);unfold Zm cvOf at h2;rw[List.getElem?_map,List.getElem?_map,List.getElem?_eq_getElem hal,List.getElem?_eq_getElem hbl] at h2;simp only[Option.map_some,Option.getD_some,decide_eq_false_iff_not] at h2;simp only[Function.comp,List.getElem?_eq_getElem hal,List.getElem?_eq_getElem hbl,Option.map_some,Option.getD_some,pk];unfold leR;rw[decide_eq_true_iff];have :=cmpR_neg (rowV l ps[a].ss) (rowV l ps[b].ss);omega
 · have hm:some (pk q) ∈ ps.map (fun q=>some (pk q)):=hperm.mem_iff.1 (List.mem_map.2 ⟨q,hq,rfl⟩);obtain⟨p,hp,e⟩:=List.mem_map.1 hm;have e:=Option.some.inj e;exact⟨p,hp,(congrArg (fun z=>z.1) e).symm,(congrArg (fun z=>z.2.1) e).symm⟩
end
end Go.Proofs.YtifnlhfinjfajaaGreatDoor
