/- Of this seat: PortLaid, PortA, PortB, PortC, PortE, PortF, Ints. -/
import Derived.LaidMore
import Derived.Stop.Joined
import Derived.RangeFuncBound
import Derived.Shelf.Abstract
import Derived.Shelf.RegionOpen
import Derived.TacticsInMore
import Derived.LoopNIn
import Derived.LoopIn
import Derived.Test.YtifnlhfinjfajaaGreatDoorRows
import Derived.Test.YtifnlhfinjfajaaGreatDoorK01
namespace Go.Proofs.YtifnlhfinjfajaaGreatDoor
set_option linter.unusedVariables false
set_option linter.unusedSimpArgs false
set_option maxRecDepth 100000
set_option maxHeartbeats 32000000
section
open Go.ChangeShapes Go.WideShapes Go.ChangeAt Go.WideMaps Go.WideElems Go.RowKit
def shapeCells:List Value:=
 [.int .i64 0,.int .i64 0,.int .i64 0,.int .i64 0,.int .i64 0,.int .i64 0,
  .int .i64 2,.int .i64 1,.int .i64 0,.int .i64 1,.int .i64 0,.int .i64 0,
  .int .i64 3,.int .i64 2,.int .i64 0,.int .i64 1,.int .i64 0,.int .i64 2,
  .int .i64 4,.int .i64 2,.int .i64 0,.int .i64 1,.int .i64 2,.int .i64 3]
def Shapes (w:World):Prop:=∀i v,shapeCells[i]? =some v→w.cell? ⟨0,i,none⟩=some v
theorem Shapes.closed:Closed Shapes:=fun w w' h hb i v hv=>(hb.cell (World.block_lt_of_cell? w _ (h i v hv))).trans (h i v hv)
abbrev laidS : List (String × DataW Unit) := [("lockbar/port.shapes", Rows.laid_lockbar_port_shapes)]
theorem gShapes : Tryz.prog.globalNamed "lockbar/port.shapes" = some 0 := by kernel_rfl
theorem tShapes:(Tryz.prog.globals[0]?).map (·.type)=some 216:=by kernel_rfl
theorem doorS_met (os:Os) (args:Array Value):laidMetH Tryz.prog laidS ((World.doorLaid Tryz.prog 400 os).forCall (fun _ _=>0) ⟨#[],args,[]⟩).memory:=
 laidMetH_of_parts3 (fuel:=8) (laidMet_of_run' 8 (by kernel_rfl) (by kernel_rfl)) (by kernel_rfl) (by kernel_rfl)
theorem ofS_laid {W:World} (h:laidMetH Tryz.prog laidS W):Shapes W:=by
 rw[MakeChecks.laidMetH_plain _ _ _ (by kernel_rfl)] at h;obtain⟨ps,⟨g0,t0,cs0,f0,p0,q0,hg0,ht0,hv0,hd0,_⟩,_,_⟩:=h;obtain rfl:=Option.some.inj (gShapes.symm.trans hg0);obtain rfl:=Option.some.inj (tShapes.symm.trans ht0);obtain⟨ls,hls⟩:∃ls,leaves Tryz.prog 8 216=some ls:=Option.isSome_iff_exists.1 (by kernel_rfl);have hc:=laid_plain hls hd0;have hf:flat (Rows.laid_lockbar_port_shapes (H:=Unit))=shapeCells:=by kernel_rfl
 intro i v hv;have h1:=World.var?_cell hg0 hv0 i;rw[←hf] at hv;have h2:cs0.toList[i]? =some v:=by rw[hc];exact hv
 rw[Array.getElem?_toList] at h2;exact h1.trans h2
end
section
open Go.RowKit Go.Shelf
attribute [local go_sem] Oper.semAt_some
def IsShape (k p n a b c d:Int):Prop:=
 (k=1∧p=2∧n=1∧a=0∧b=1∧c=0∧d=0)∨(k=2∧p=3∧n=2∧a=0∧b=1∧c=0∧d=2)∨(k=3∧p=4∧n=2∧a=0∧b=1∧c=2∧d=3) ∨
 ((k<1∨3<k)∧p=0∧n=0∧a=0∧b=0∧c=0∧d=0)
def shapeV (p n a b c d:Int):Value:=.agg #[.int .i64 p,.int .i64 n,.int .i64 a,.int .i64 b,.int .i64 c,.int .i64 d]
theorem shapeOf_any (k:Int) (h0:0≤k) (h1:k≤255) {p n a b c d:Int} (hs:IsShape k p n a b c d) (w:World) (hT:Shapes w):
 Calls Tryz.prog 179 #[.int .u8 k] w fun e w'=>e= .returned (shapeV p n a b c d)∧w.grownBy w' none∧Below w.heap.size w w':=by
 by_cases h4:4≤k
 · obtain⟨rfl,rfl,rfl,rfl,rfl,rfl⟩:p=0∧n=0∧a=0∧b=0∧c=0∧d=0:=by unfold IsShape at hs;omega
   clear hs;go_enter Tryz.func179,Tryz.ntmps179;go_wp2_with fail;refine wp_scope_fwd (l:=0) rfl ?_;go_wp2_with fail;go_step3
   simp only[Exit.then,fwd_goto];refine⟨trivial,?_⟩;go_wp2_with fail;rw[Exit.noGoto_ret];exact bodyPost_ret (v:=shapeV 0 0 0 0 0 0) (by simp[results,Tryz.f179,go_sem,shapeV]) rfl ⟨rfl,World.grownBy_alloc _ _ _,below1 _ _⟩
 · have hk:k=0∨k=1∨k=2∨k=3:=by omega
   clear h4 h0 h1;rcases hk with rfl|rfl|rfl|rfl
   · obtain⟨rfl,rfl,rfl,rfl,rfl,rfl⟩:p=0∧n=0∧a=0∧b=0∧c=0∧d=0:=by unfold IsShape at hs;omega
     clear hs;have c0:=hT 0 _ rfl;have c1:=hT 1 _ rfl;have c2:=hT 2 _ rfl;have c3:=hT 3 _ rfl;have c4:=hT 4 _ rfl;have c5:=hT 5 _ rfl;have hp:0<w.heap.size:=World.block_lt_of_cell? w _ c0;clear hT;go_enter Tryz.func179,Tryz.ntmps179;go_wp2_with fail;refine wp_scope_fwd (l:=0) rfl ?_;go_wp2_with fail;rw[fwd_ret];exact bodyPost_ret (v:=shapeV 0 0 0 0 0 0) (by simp[results,Tryz.f179,go_sem,shapeV]) rfl ⟨rfl,World.grownBy_alloc _ _ _,below1 _ _⟩
   · obtain⟨rfl,rfl,rfl,rfl,rfl,rfl⟩:p=2∧n=1∧a=0∧b=1∧c=0∧d=0:=by unfold IsShape at hs;omega
     clear hs;have c0:=hT 6 _ rfl;have c1:=hT 7 _ rfl;have c2:=hT 8 _ rfl;have c3:=hT 9 _ rfl;have c4:=hT 10 _ rfl;have c5:=hT 11 _ rfl;have hp:0<w.heap.size:=World.block_lt_of_cell? w _ c0;clear hT;go_enter Tryz.func179,Tryz.ntmps179;go_wp2_with fail;refine wp_scope_fwd (l:=0) rfl ?_;go_wp2_with fail;rw[fwd_ret];exact bodyPost_ret (v:=shapeV 2 1 0 1 0 0) (by simp[results,Tryz.f179,go_sem,shapeV]) rfl ⟨rfl,World.grownBy_alloc _ _ _,below1 _ _⟩
   · obtain⟨rfl,rfl,rfl,rfl,rfl,rfl⟩:p=3∧n=2∧a=0∧b=1∧c=0∧d=2:=by unfold IsShape at hs;omega
     clear hs;have c0:=hT 12 _ rfl;have c1:=hT 13 _ rfl;have c2:=hT 14 _ rfl;have c3:=hT 15 _ rfl;have c4:=hT 16 _ rfl;have c5:=hT 17 _ rfl;have hp:0<w.heap.size:=World.block_lt_of_cell? w _ c0;clear hT;go_enter Tryz.func179,Tryz.ntmps179;go_wp2_with fail;refine wp_scope_fwd (l:=0) rfl ?_;go_wp2_with fail;rw[fwd_ret];exact bodyPost_ret (v:=shapeV 3 2 0 1 0 2) (by simp[results,Tryz.f179,go_sem,shapeV]) rfl ⟨rfl,World.grownBy_alloc _ _ _,below1 _ _⟩
   · obtain⟨rfl,rfl,rfl,rfl,rfl,rfl⟩:p=4∧n=2∧a=0∧b=1∧c=2∧d=3:=by unfold IsShape at hs;omega
     clear hs;have c0:=hT 18 _ rfl;have c1:=hT 19 _ rfl;have c2:=hT 20 _ rfl;have c3:=hT 21 _ rfl;have c4:=hT 22 _ rfl;have c5:=hT 23 _ rfl;have hp:0<w.heap.size:=World.block_lt_of_cell? w _ c0;clear hT;go_enter Tryz.func179,Tryz.ntmps179;go_wp2_with fail;refine wp_scope_fwd (l:=0) rfl ?_;go_wp2_with fail;rw[fwd_ret];exact bodyPost_ret (v:=shapeV 4 2 0 1 2 3) (by simp[results,Tryz.f179,go_sem,shapeV]) rfl ⟨rfl,World.grownBy_alloc _ _ _,below1 _ _⟩
section
variable {P:World→Prop} {w:World} {k p n a b c d:Int}
theorem ports_P (hP:Closed P) (hs:∀w,P w→Shapes w) (h0:0≤k) (h1:k≤255) (hk:IsShape k p n a b c d) (h:P w):Calls Tryz.prog 146 #[.int .u8 k] w fun e w'=>e= .returned (.int .i64 p)∧P w':=by
 have HS:=Zz (shapeOf_any k h0 h1 hk);have HT:=Zz (hs w h);clear hk;go_enter Tryz.func146,Tryz.ntmps146;go_wp2_with fail;refine(HS.out _ HT.out).mono ?_;rintro e w' ⟨rfl,hg,hB⟩;unfold shapeV;have hfd:∀w:World,(Instr.field 203 (.agg #[.int .i64 p,.int .i64 n,.int .i64 a,.int .i64 b,.int .i64 c,.int .i64 d]) 0).run Tryz.prog w= .ok (.int .i64 p) w:=fun _=>by kernel_rfl
 go_wp2_with fail;go_ret;exact⟨rfl,hP _ _ h hB⟩
theorem ways_P (hP:Closed P) (hs:∀w,P w→Shapes w) (h0:0≤k) (h1:k≤255) (hk:IsShape k p n a b c d) (h:P w):Calls Tryz.prog 149 #[.int .u8 k] w fun e w'=>e= .returned (.int .i64 n)∧P w':=by
 have HS:=Zz (shapeOf_any k h0 h1 hk);have HT:=Zz (hs w h);clear hk;go_enter Tryz.func149,Tryz.ntmps149;go_wp2_with fail;refine(HS.out _ HT.out).mono ?_;rintro e w' ⟨rfl,hg,hB⟩;unfold shapeV;have hfd:∀w:World,(Instr.field 203 (.agg #[.int .i64 p,.int .i64 n,.int .i64 a,.int .i64 b,.int .i64 c,.int .i64 d]) 1).run Tryz.prog w= .ok (.int .i64 n) w:=fun _=>by kernel_rfl
 go_wp2_with fail;go_ret;exact⟨rfl,hP _ _ h hB⟩
end
def encW (x:Int×Int×Int):Array Value:=#[.int .i64 x.1,.agg #[.int .i64 x.2.1,.int .i64 x.2.2]]
def waysL (n a b c d:Int):List (Int×Int×Int):=[(0,a,b),(1,c,d)].take n.toNat
theorem isShape_n {k p n a b c d:Int} (h:IsShape k p n a b c d):n=0∨n=1∨n=2:=by unfold IsShape at h;omega
theorem ways1_in (m:Nat) (hm:1≤m) (l Bk:Nat) (k:Int) (h0:0≤k) (h1:k≤255) {p n a b c d:Int} (hs:IsShape k p n a b c d) (J Jx:List (Int×Int×Int)→World→Prop)
 (hY:∀pre x W,J pre W→pre.length<n.toNat→YieldAt Fence.wide (m - 1) Tryz.prog l (encW x) W fun e W'=>
  (e= .returned (.bool true)∧J (pre++[x]) W'∧CellsOn W W')∨(e= .returned (.bool false)∧Jx (pre++[x]) W'))
 (W:World) (hJa:AbidesFrom W.heap.size J) (hT:Shapes W) (hx:W.cell? ⟨Bk,0,none⟩=some (.int .u8 k)) (hJ:J [] W):
 CallsIn Fence.wide m Tryz.prog 206 #[.func (.yield l) #[] #[],.pointer (some ⟨Bk,0,none⟩)] W fun e W'=>(∃v,e= .returned v) ∧
  ((∃ys,ys=waysL n a b c d∧J ys W')∨(∃pre,(∃j,pre=(waysL n a b c d).take j)∧Jx pre W')):=by
 have HS:=Zz (shapeOf_any k h0 h1 hs)
 have HN:=Zz (isShape_n hs)
 clear hs
 refine callsIn_of_wp Tryz.func206 rfl trivial ?_ rfl
 simp only[Tryz.ntmps206,Ld,Le,Lf,Nat.reduceAdd,Nat.reduceSub,Lg,Lh,Li,Lj,Lk,Ll]
 gi_wp2_with fail
 refine⟨trivial,(callsIn_wide.2 (HS.out _ hT)).mono ?_⟩
 rintro e w1 ⟨rfl,hg,hB⟩
 unfold shapeV
 have hJ1:=hJa _ _ _ none hJ hg (fun r e=>by cases e)
 have hs1:=hB.size
 gi_wp2_with fail
 obtain⟨W2,hW2,hJ2,hH⟩:∃W2,w1.alloc (.cells #[.int .i64 p,.int .i64 n,.int .i64 a,.int .i64 b,.int .i64 c,.int .i64 d] 203)=W2∧J [] W2∧Whole W2 w1.heap.size 203 [.int .i64 p,.int .i64 n,.int .i64 a,.int .i64 b,.int .i64 c,.int .i64 d]:=
  ⟨_,rfl,hJa _ _ _ none hJ1 (World.grownBy_alloc _ _ _) (fun r e=>by cases e),Whole.new _ _ [_,_,_,_,_,_]⟩
 rw[hW2]
 clear hW2
 gi_loopw [9] (fun i wr=>∃j:Nat,(j:Int)≤n∧i= .int .i64 j∧J ((waysL n a b c d).take j) wr∧CellsOn W2 wr)
  (fun i _=>n.toNat - (intOf i).toNat)
 case atStart=>exact⟨0,by have :=HN.out;omega,rfl,hJ2,CellsOn.refl _⟩
 case round=>
  obtain⟨j,hj,rfl,hJs,hnx⟩:=hrel;have hw:=hnx.whole hH;have x2:=hw.Za 2 rfl;have x3:=hw.Za 3 rfl;have x4:=hw.Za 4 rfl;have x5:=hw.Za 5 rfl;by_cases hlt:(j:Int)<n
  · have hj01:(j=0∧(n=1∨n=2))∨(j=1∧n=2):=by have :=HN.out;omega
    rcases hj01 with ⟨rfl,hn⟩|⟨rfl,rfl⟩
    · have hsn:(waysL n a b c d).take (0+1)=(waysL n a b c d).take 0++[(0,a,b)]:=by rcases hn with rfl|rfl <;> rfl
      obtain⟨fn,tmps,assign,body,hy,hR⟩:=hY _ (0,a,b) wr hJs (by rcases hn with rfl|rfl <;> simp);rw[←hsn] at hR;clear hsn hn hj;unfold encW at hy;gi_wp2
      refine hR.mono ?_;rintro e W3 (⟨rfl,hJ3,hk3⟩|⟨rfl,hJx3⟩)
      · gi_wp2
        go_roundw
        case rel=>exact⟨1,by omega,by go_num,hJ3,hnx.trans hk3⟩
        case measure=>simp[intOf];omega
      · gi_wp2
        refine bodyPost_ret (results_none rfl _ _ _) rfl ?_;exact⟨⟨_,rfl⟩,.inr ⟨_,⟨_,rfl⟩,hJx3⟩⟩
    · obtain⟨fn,tmps,assign,body,hy,hR⟩:=hY _ (1,c,d) wr hJs (by simp[waysL]);have hsn:(waysL 2 a b c d).take 1++[(1,c,d)]=(waysL 2 a b c d).take (1+1):=rfl;rw[hsn] at hR;clear hsn hj;unfold encW at hy;gi_wp2
      refine hR.mono ?_;rintro e W3 (⟨rfl,hJ3,hk3⟩|⟨rfl,hJx3⟩)
      · gi_wp2
        go_roundw
        case rel=>exact⟨2,by omega,by go_num,hJ3,hnx.trans hk3⟩
        case measure=>simp[intOf]
      · gi_wp2
        refine bodyPost_ret (results_none rfl _ _ _) rfl ?_;exact⟨⟨_,rfl⟩,.inr ⟨_,⟨_,rfl⟩,hJx3⟩⟩
  · have hall:(waysL n a b c d).take j=waysL n a b c d:=List.take_of_length_le (by unfold waysL;rw[List.length_take];omega);rw[hall] at hJs;clear hall;gi_wp2
    go_end0
    exact⟨⟨_,rfl⟩,.inl hJs⟩
theorem ways_in (m:Nat) (k:Int) (w:World):
 CallsIn Fence.wide m Tryz.prog 195 #[.int .u8 k] w fun e w'=>
  e= .returned (.func (.func 206) #[] #[.pointer (some ⟨w.heap.size,0,none⟩)])∧w'=w.alloc (.cells #[.int .u8 k] 5):=by
 refine callsIn_of_wp Tryz.func195 rfl trivial ?_ rfl
 simp only[Tryz.ntmps195,Ld,Le,Lf,Nat.reduceAdd,Nat.reduceSub,Lg,Lh,Li,Lj,Lk,Ll]
 gi_wp2
 go_ret
 exact⟨rfl,rfl⟩
theorem ways_stops (m:Nat) (hm:1≤m) (Bk:Nat) (k:Int) (h0:0≤k) (h1:k≤255) {p n a b c d:Int} (hs:IsShape k p n a b c d) (w:World) (hT:Shapes w) (hx:w.cell? ⟨Bk,0,none⟩=some (.int .u8 k)):
 SeqStopsK Fence.wide m Tryz.prog 206 #[.pointer (some ⟨Bk,0,none⟩)] encW CellsOn (fun ys=>ys=waysL n a b c d) (fun pre=>∃j,pre=(waysL n a b c d).take j) n.toNat w:=fun l J Jx W hW hJa _ hY hJ=>
 ways1_in m hm l Bk k h0 h1 hs J Jx hY W hJa (Shapes.closed _ _ hT hW) ((hW.cell (World.block_lt_of_cell? w _ hx)).trans hx) hJ
def withinV (n t:Int):Bool:=decide (0≤n)&&decide (n≤t)
theorem within_any (n t:Int) (w:World):Calls Tryz.prog 185 #[.int .i64 n,.int .i64 t] w fun e w'=>e= .returned (.bool (withinV n t))∧w'=w:=by
 by_cases h:0≤n
 · go_enter Tryz.func185,Tryz.ntmps185;go_wp2_with fail;go_ret;exact⟨Zc (by unfold withinV;simp[h]),rfl⟩
 · have h':decide (0≤n)=false:=by simpa using h
   go_enter Tryz.func185,Tryz.ntmps185;go_wp2_with fail;go_ret;exact⟨Zc (by unfold withinV;rw[h'];rfl),rfl⟩
section
variable {P:World→Prop} {w:World}
theorem trackEnd_P (hP:Closed P) (h:P w):Calls Tryz.prog 184 #[] w fun e w'=>e= .returned (.agg #[.int .i64 (-1),.int .i64 0])∧P w':=by
 go_enter Tryz.func184,Tryz.ntmps184;go_wp2_with fail;exact bodyPost_ret (v:=.agg #[.int .i64 (-1),.int .i64 0]) (by simp[results,Tryz.f184,go_sem]) rfl ⟨rfl,hP _ _ h (below1 _ _)⟩
end
def joinV (a b i o:Int):Bool:=(a==i&&b==o)||(a==o&&b==i)
theorem join_any (a b i o:Int) (w:World):Calls Tryz.prog 196 #[.agg #[.int .i64 a,.int .i64 b],.int .i64 i,.int .i64 o] w fun e w'=>e= .returned (.bool (joinV a b i o))∧w.grownBy w' none∧Below w.heap.size w w':=by
 go_enter Tryz.func196,Tryz.ntmps196;go_wp2_with fail;all_goals
  go_ret
  exact⟨Zc (by unfold joinV;rw[Bool.eq_iff_iff];simp;omega),World.grownBy_alloc _ _ _,below1 _ _⟩
def goesV (n a b c d i o:Int):Bool:=(decide (1≤n)&&joinV a b i o)||(decide (2≤n)&&joinV c d i o)
def wayV (n a b c d i o:Int):Int:=if (decide (1≤n)&&joinV a b i o)=true then 0 else if (decide (2≤n)&&joinV c d i o)=true then 1 else 0
theorem wayV_none {n a b c d i o:Int} (h:goesV n a b c d i o=false):wayV n a b c d i o=0:=by
 unfold goesV at h;rw[Bool.or_eq_false_iff] at h;unfold wayV;rw[h.1,h.2];rfl
def findW (i o:Int):List (Int×Int×Int)→Option Int
 |[]=>none
 |x::r=>if joinV x.2.1 x.2.2 i o=true then some x.1 else findW i o r
theorem findW_snoc {i o:Int}:∀ {l:List (Int×Int×Int)} {x:Int×Int×Int},findW i o l=none→findW i o (l++[x])=if joinV x.2.1 x.2.2 i o=true then some x.1 else none
 |[],x,_=>rfl
 |y::l,x,h=>by
  unfold findW at h;rw[List.cons_append];unfold findW;split at h
  · cases h
  · rename_i hy
    rw[if_neg hy];exact findW_snoc h
theorem findW_take {i o v:Int}:∀ {l:List (Int×Int×Int)} {j:Nat},findW i o (l.take j)=some v→findW i o l=some v
 |[],_,h=>by simpa using h
 |x::l,0,h=>by simp[findW] at h
 |x::l,j+1,h=>by
  rw[List.take_succ_cons] at h;unfold findW at h ⊢;split
  · rename_i hx;rw[if_pos hx] at h;exact h
  · rename_i hx;rw[if_neg hx] at h;exact findW_take h
theorem findW_ways {n a b c d i o:Int} (hn:n=0∨n=1∨n=2):findW i o (waysL n a b c d)=if goesV n a b c d i o=true then some (wayV n a b c d i o) else none:=by
 rcases hn with rfl|rfl|rfl
 · rfl
 · show findW i o [(0,a,b)]=_;cases h:joinV a b i o <;> simp[findW,goesV,wayV,h]
 · show findW i o [(0,a,b),(1,c,d)]=_;cases h:joinV a b i o <;> cases h':joinV c d i o <;> simp[findW,goesV,wayV,h,h']
theorem way_any (k i o:Int) (h0:0≤k) (h1:k≤255) {p n a b c d:Int} (hs:IsShape k p n a b c d) (w:World) (hT:Shapes w):
 Calls Tryz.prog 169 #[.int .u8 k,.int .i64 i,.int .i64 o] w fun e w'=>e= .returned (.tuple #[.int .i64 (wayV n a b c d i o),.bool (goesV n a b c d i o)])∧Below w.heap.size w w':=by
 refine(callsIn_wide (n:=4)).1 ?_
 refine callsIn_of_wp_marks Tryz.func169 rfl trivial ?_ rfl
 simp only[Tryz.ntmps169,Ld,Le,Lf,Nat.reduceAdd,Nat.reduceSub,Lg,Lh,Li,Lj,Lk,Ll]
 gi_wp2_with fail
 refine⟨trivial,(ways_in 3 k _).mono ?_⟩
 rintro e w2 ⟨rfl,rfl⟩
 gi_wp2_with fail
 obtain⟨W0,hW0,hsz,hB0,b0,b1,b2,b3,bk⟩:∃W0,(((((w.alloc (.cells #[.int .i64 i] 3)).alloc (.cells #[.int .i64 o] 3)).alloc (.cells #[.int .i64 0] 3)).alloc (.cells #[.bool false] 4)).alloc (.cells #[.int .u8 k] 5))=W0 ∧
  W0.heap.size=w.heap.size+5∧Below w.heap.size w W0∧Whole W0 w.heap.size 3 [.int .i64 i]∧Whole W0 (w.heap.size+1) 3 [.int .i64 o]∧Whole W0 (w.heap.size+1+1) 3 [.int .i64 0]∧Whole W0 (w.heap.size+1+1+1) 4 [.bool false]∧W0.cell? ⟨w.heap.size+1+1+1+1,0,none⟩=some (.int .u8 k):=
  ⟨_,rfl,by simp,((below3 w _ _ _).alloc (by simp;omega) _).alloc (by simp;omega) _,((((Whole.new w _ [_]).alloc _).alloc _).alloc _).alloc _,(((Whole.Zj _ _ [_] _ (by simp)).alloc _).alloc _).alloc _,((Whole.Zj _ _ [_] _ (by simp)).alloc _).alloc _,(Whole.Zj _ _ [_] _ (by simp)).alloc _,(Whole.Zj _ _ [.int .u8 k] _ (by simp)).Za 0 rfl⟩
 rw[hW0]
 clear hW0
 have hseq:=ways_stops 3 (by omega) (w.heap.size+1+1+1+1) k h0 h1 hs W0 (Shapes.closed _ _ hT hB0) bk
 have HN:=Zz (isShape_n hs)
 have HSZ:=Zz hsz
 clear hs hsz bk
 refine wpIn_rangeFunc_ownH rfl (by omega) (gf:=206) rfl trivial (enters_of Tryz.func206 (by kernel_rfl) rfl) hseq CellsOn.trans CellsOn.put (Below.refl _ _) (fun _=>rfl)
  (fun pre W=>(((Whole W w.heap.size 3 [.int .i64 i]∧Whole W (w.heap.size+1) 3 [.int .i64 o])∧(Whole W (w.heap.size+1+1) 3 [.int .i64 0]∧Whole W (w.heap.size+1+1+1) 4 [.bool false]))∧Below w.heap.size w W)∧findW i o pre=none)
  (fun c pre W=>((Whole W (w.heap.size+1+1) 3 [.int .i64 ((findW i o pre).getD 0)]∧Whole W (w.heap.size+1+1+1) 4 [.bool true])∧Below w.heap.size w W)∧(c= .ret∧(findW i o pre).isSome=true))
  (OwnFrom.and (OwnFrom.and (OwnFrom.and (OwnFrom.and (Own.from (fun s X Y row hs hg hr=>hs.abides hg hr) _) (Own.from (fun s X Y row hs hg hr=>hs.abides hg hr) _)) (OwnFrom.and (Own.from (fun s X Y row hs hg hr=>hs.abides hg hr) _) (Own.from (fun s X Y row hs hg hr=>hs.abides hg hr) _))) (ownFrom_below (Nat.le_refl _) (by have :=HSZ.out;omega))) (ownFrom_pure _ _))
  (fun c=>OwnFrom.and (OwnFrom.and (OwnFrom.and (Own.from (fun s X Y row hs hg hr=>hs.abides hg hr) _) (Own.from (fun s X Y row hs hg hr=>hs.abides hg hr) _)) (ownFrom_below (Nat.le_refl _) (by have :=HSZ.out;omega))) (ownFrom_pure _ _))
  ⟨⟨⟨⟨b0,b1⟩,b2,b3⟩,hB0⟩,rfl⟩
  (fun x a' W=>∃Bx,w.heap.size+1+1+1<Bx∧Whole W Bx 200 [.int .i64 x.2.1,.int .i64 x.2.2]∧a'= {tmps:=#[.int .u8 k,.int .i64 i,.int .i64 o,undef,.pointer (some ⟨w.heap.size,0,none⟩),.pointer (some ⟨w.heap.size+1,0,none⟩),.pointer (some ⟨w.heap.size+1+1,0,none⟩),.pointer (some ⟨w.heap.size+1+1+1,0,none⟩),.int .i64 x.1,.pointer (some ⟨Bx,0,none⟩),.int .u8 k,.func (.func 206) #[] #[.pointer (some ⟨w.heap.size+1+1+1+1,0,none⟩)],.int .i64 x.1,.agg #[.int .i64 x.2.1,.int .i64 x.2.2],undef,undef,undef,undef,undef],defers:=[]})
  (fun x a' _ X Y row hs hg hr=>by obtain⟨Bx,h1,h2,h3⟩:=hs;exact⟨Bx,h1,h2.abides hg (fun r e=>(hr r e).2),h3⟩)
  ?assign ?body ?done ?stop
 case assign=>
  rintro l pre x W K ⟨⟨⟨⟨b0,b1⟩,b2,b3⟩,hB⟩,hf⟩ hK;unfold encW;gi_wp2_with fail;exact hK _ _ ((KeepsOthers.alloc _ _).from _) (CellsOn.of_below (below1 _ _)) ⟨⟨⟨⟨b0.alloc _,b1.alloc _⟩,b2.alloc _,b3.alloc _⟩,hB.alloc hB.size _⟩,hf⟩ ⟨W.heap.size,b3.lt,Whole.new W _ [_,_],rfl⟩
 case body=>
  rintro l pre x a' W hl ⟨r,hr⟩ ⟨⟨⟨⟨b0,b1⟩,b2,b3⟩,hB⟩,hf⟩ ⟨Bx,hBx,bX,rfl⟩ hlt;have c0:=b0.Za 0 rfl;have c1:=b1.Za 0 rfl;obtain⟨x0,x1⟩:=bX.c2;gi_wp2_with fail;refine⟨trivial,(CallsIn.inRound _ (callsIn_wide.2 (join_any x.2.1 x.2.2 i o _))).mono ?_⟩;rintro e w3 ⟨rfl,hg3,hB3⟩;have b2':=b2.below hB3 b2.lt;have b3':=b3.below hB3 b3.lt;have f2:=b2'.frozen 0;have f3:=b3'.frozen 0;have c2:=b2'.Za 0 rfl;have c3:=b3'.Za 0 rfl;have hko:=KeepsOthers.of_grownBy hg3 (fun j o e=>by cases e);have hsn:=findW_snoc (x:=x) hf;cases hj:joinV x.2.1 x.2.2 i o
  · rw[hj] at hsn;have HSN:=Zz hsn;clear hsn hj;gi_wp2_with fail;exact⟨hko.from _,CellsOn.of_below hB3,⟨⟨⟨b0.below hB3 b0.lt,b1.below hB3 b1.lt⟩,b2',b3'⟩,hB.trans (hB3.mono hB.size)⟩,HSN.out⟩
  · rw[hj] at hsn;have HSN:=Zz hsn;clear hsn hj;gi_wp2_with fail;refine⟨((hko.trans (KeepsOthers.setCell _ _ _)).trans (KeepsOthers.setCell _ _ _)).from _,⟨⟨?_,?_⟩,?_⟩,rfl,?_⟩
    · rw[HSN.out];exact(b2'.set 0 (.int .i64 x.1)).far (p:=⟨w.heap.size+1+1+1,0,none⟩) (by show w.heap.size+1+1≠w.heap.size+1+1+1;omega) _
    · exact(b3'.far (p:=⟨w.heap.size+1+1,0,none⟩) (by show w.heap.size+1+1+1≠w.heap.size+1+1;omega) _).set 0 (.bool true)
    · exact((hB.trans (hB3.mono hB.size)).setCell (p:=⟨w.heap.size+1+1,0,none⟩) (by show w.heap.size≤w.heap.size+1+1;omega) _).setCell (p:=⟨w.heap.size+1+1+1,0,none⟩) (by show w.heap.size≤w.heap.size+1+1+1;omega) _
    · rw[HSN.out];rfl
 case done=>
  rintro D ys W hD rfl ⟨⟨⟨⟨b0,b1⟩,b2,b3⟩,hB⟩,hf⟩ hK;have f2:=b2.frozen 0;have f3:=b3.frozen 0;have c2:=b2.Za 0 rfl;have c3:=b3.Za 0 rfl;rw[findW_ways HN.out] at hf;have hg:goesV n a b c d i o=false:=by cases h:goesV n a b c d i o <;> simp[h] at hf ⊢
  have hv:wayV n a b c d i o=0:=wayV_none hg;have HG:=Zz hg;have HV:=Zz hv;clear hf hg hv;gi_wp2_with fail;have hs:=HSZ.out;have hK2:=(Below.heap_setCell (W.setCell ⟨w.heap.size+1+1,0,none⟩ (.int .i64 0)) ⟨w.heap.size+1+1+1,0,none⟩ (.bool false) D (by show D≠w.heap.size+1+1+1;omega)).trans ((Below.heap_setCell W ⟨w.heap.size+1+1,0,none⟩ (.int .i64 0) D (by show D≠w.heap.size+1+1;omega)).trans hK);have d2:=((b2.set 0 (.int .i64 0)).far (p:=⟨w.heap.size+1+1+1,0,none⟩) (by show w.heap.size+1+1≠w.heap.size+1+1+1;omega) (.bool false));have d3:=((b3.far (p:=⟨w.heap.size+1+1,0,none⟩) (by show w.heap.size+1+1+1≠w.heap.size+1+1;omega) (.int .i64 0)).set 0 (.bool false));have hB2:=(hB.setCell (p:=⟨w.heap.size+1+1,0,none⟩) (by show w.heap.size≤w.heap.size+1+1;omega) (.int .i64 0)).setCell (p:=⟨w.heap.size+1+1+1,0,none⟩) (by show w.heap.size≤w.heap.size+1+1+1;omega) (.bool false);have e2:=(d2.putDone (o':=.deferred none) hK2).Za 0 rfl;have e3:=(d3.putDone (o':=.deferred none) hK2).Za 0 rfl;refine⟨by simp,.inl ⟨_,_,rfl,run_takeDeferred hK2,?_⟩⟩;refine⟨.tuple #[.int .i64 0,.bool false],by simp[results,Tryz.f169,go_sem,e2,e3],by rw[HV.out,HG.out],hB2.trans (belowK_b (w:=w) (Nat.le_refl _) _ D _ _ (by omega) hK2 rfl rfl)⟩
 case stop=>
  rintro D c pre W hD ⟨j,rfl⟩ ⟨⟨⟨b2,b3⟩,hB⟩,rfl,hf⟩ hK;obtain⟨v,hv⟩:=Option.isSome_iff_exists.1 hf;have hw:=findW_take hv;rw[findW_ways HN.out] at hw;have hg:goesV n a b c d i o=true:=by cases h:goesV n a b c d i o <;> simp[h] at hw ⊢
  rw[hg,if_pos rfl] at hw;have hw':v=wayV n a b c d i o:=(Option.some.inj hw).symm;rw[hv,Option.getD_some,hw'] at b2;have HG:=Zz hg;clear hf hv hw hg hw';have hs:=HSZ.out;have e2:=(b2.putDone (o':=.deferred none) hK).Za 0 rfl;have e3:=(b3.putDone (o':=.deferred none) hK).Za 0 rfl;gi_wp2_with fail;refine⟨by simp,.inl ⟨_,_,rfl,run_takeDeferred hK,?_⟩⟩;refine⟨.tuple #[.int .i64 (wayV n a b c d i o),.bool true],by simp[results,Tryz.f169,go_sem,e2,e3],by rw[HG.out],hB.trans (belowK_b (w:=w) (Nat.le_refl _) _ D _ _ (by omega) hK rfl rfl)⟩
end
section
open Go.RowKit Go.Shelf
section
variable {P:World→Prop} {w:World}
theorem within_P (n t:Int) {r:Bool} (hr:withinV n t=r) (h:P w):Calls Tryz.prog 185 #[.int .i64 n,.int .i64 t] w fun e w'=>e= .returned (.bool r)∧P w':=
 (within_any n t w).mono fun e w' ⟨he,hw⟩=>⟨by rw[he,hr],by rw[hw];exact h⟩
theorem way_P (hP:Closed P) (hT:∀w,P w→Shapes w) (k i o:Int) (h0:0≤k) (h1:k≤255) {p n a b c d v:Int} {r:Bool} (hs:IsShape k p n a b c d) (hv:wayV n a b c d i o=v) (hr:goesV n a b c d i o=r) (h:P w):
 Calls Tryz.prog 169 #[.int .u8 k,.int .i64 i,.int .i64 o] w fun e w'=>e= .returned (.tuple #[.int .i64 v,.bool r])∧P w':=
 (way_any k i o h0 h1 hs w (hT w h)).mono fun e w' ⟨he,hw⟩=>⟨by rw[he,hr,hv],hP _ _ h hw⟩
end
def mayV (s p:Int):Bool:=(s== -1&&p==0)||(withinV s 23&&withinV p 3)
theorem may_P {P:World→Prop} {w:World} (hP:Closed P) (s p:Int) (h:P w):Calls Tryz.prog 183 #[.agg #[.int .i64 s,.int .i64 p]] w fun e w'=>e= .returned (.bool (mayV s p))∧P w':=by
 obtain⟨cs,HCS⟩:∃cs:List (Addr×Value),Hid (cs=[(⟨w.heap.size,0,none⟩,.int .i64 s),(⟨w.heap.size,1,none⟩,.int .i64 p)]):=⟨_,Zz rfl⟩;have HC:=Zz (hP.has cs);have HS:Hid (Has P cs (w.alloc (.cells #[.int .i64 s,.int .i64 p] 59)).drew):=Zz (by
  rw[HCS.out];have hw:=(Whole.new w 59 [.int .i64 s,.int .i64 p]);exact((Has.nil (hP _ _ h (below1 w _).drew)).cons (hw.Za 1 rfl)).cons (hw.Za 0 rfl));by_cases h1:s= -1∧p=0
 · obtain⟨rfl,rfl⟩:=h1;have HR:=Zz (show true=mayV (-1) 0 from rfl);go_enter Tryz.func183,Tryz.ntmps183;go_wp2_with fail;refine region_steady (Has P cs) 13 (by kernel_rfl) (by kernel_rfl) HS.out ?_;simp only[List.take_succ_cons,List.take_zero,List.drop_succ_cons,List.drop_zero];repeat ((first|(refine steady_skip (by rfl) ?_)|(refine steady_read _ (by rfl) (fun W hW=>by(have c0:=hW.at HCS.out 0 rfl;have c1:=hW.at HCS.out 1 rfl;go_simp;first|done|with_reducible rfl)) ?_)|(refine steady_call _ _ _ (by rfl) (fun W hW=>by(have c0:=hW.at HCS.out 0 rfl;have c1:=hW.at HCS.out 1 rfl;go_simp;first|done|rfl)) (fun W hW=>trackEnd_P HC.out hW) ?_));simp only[Act.put,La,Lb,Lc])
   refine steady_nil (fun W hW=>?_);go_wp2_with fail;go_ret;exact⟨Zc HR.out,hW.1⟩
 · have hte:(s== -1&&p==0)=false:=by rw[Bool.and_eq_false_iff,beq_eq_false_iff_ne,beq_eq_false_iff_ne];omega
   obtain⟨r1,hr1⟩:∃r,withinV s 23=r:=⟨_,rfl⟩;obtain⟨r2,hr2⟩:∃r,withinV p 3=r:=⟨_,rfl⟩;have HR:Hid ((r1&&r2)=mayV s p):=Zz (by unfold mayV;rw[hte,hr1,hr2];rfl);have H1:=Zz hr1;have H2:=Zz hr2;clear hte hr1 hr2;have hs:¬s= -1∨(s= -1∧¬p=0):=by omega
   rcases hs with hs|⟨rfl,hp⟩;all_goals
    clear h1
    cases r1
    · go_enter Tryz.func183,Tryz.ntmps183;go_wp2_with fail;refine region_steady (Has P cs) 13 (by kernel_rfl) (by kernel_rfl) HS.out ?_;simp only[List.take_succ_cons,List.take_zero,List.drop_succ_cons,List.drop_zero];repeat ((first|(refine steady_skip (by rfl) ?_)|(refine steady_read _ (by rfl) (fun W hW=>by(have c0:=hW.at HCS.out 0 rfl;have c1:=hW.at HCS.out 1 rfl;go_simp;first|done|with_reducible rfl)) ?_)|(refine steady_call _ _ _ (by rfl) (fun W hW=>by(have c0:=hW.at HCS.out 0 rfl;have c1:=hW.at HCS.out 1 rfl;go_simp;first|done|rfl)) (fun W hW=>trackEnd_P HC.out hW) ?_)|(refine steady_call _ _ _ (by rfl) (fun W hW=>by(have c0:=hW.at HCS.out 0 rfl;have c1:=hW.at HCS.out 1 rfl;go_simp;first|done|rfl)) (fun W hW=>within_P _ _ H1.out hW) ?_));simp only[Act.put,La,Lb,Lc])
      refine steady_nil (fun W hW=>?_);go_wp2_with fail;go_ret;exact⟨Zc HR.out,hW.1⟩
    · go_enter Tryz.func183,Tryz.ntmps183;go_wp2_with fail;refine region_steady (Has P cs) 13 (by kernel_rfl) (by kernel_rfl) HS.out ?_;simp only[List.take_succ_cons,List.take_zero,List.drop_succ_cons,List.drop_zero];repeat ((first|(refine steady_skip (by rfl) ?_)|(refine steady_read _ (by rfl) (fun W hW=>by(have c0:=hW.at HCS.out 0 rfl;have c1:=hW.at HCS.out 1 rfl;go_simp;first|done|with_reducible rfl)) ?_)|(refine steady_call _ _ _ (by rfl) (fun W hW=>by(have c0:=hW.at HCS.out 0 rfl;have c1:=hW.at HCS.out 1 rfl;go_simp;first|done|rfl)) (fun W hW=>trackEnd_P HC.out hW) ?_)|(refine steady_call _ _ _ (by rfl) (fun W hW=>by(have c0:=hW.at HCS.out 0 rfl;have c1:=hW.at HCS.out 1 rfl;go_simp;first|done|rfl)) (fun W hW=>within_P _ _ H1.out hW) ?_)|(refine steady_call _ _ _ (by rfl) (fun W hW=>by(have c0:=hW.at HCS.out 0 rfl;have c1:=hW.at HCS.out 1 rfl;go_simp;first|done|rfl)) (fun W hW=>within_P _ _ H2.out hW) ?_));simp only[Act.put,La,Lb,Lc])
      refine steady_nil (fun W hW=>?_);go_wp2_with fail;go_ret;exact⟨Zc HR.out,hW.1⟩
def joinOk (p:Int) (j:Nat) (s q:Int):Bool:=if (j:Int)<p then mayV s q else (s== -1&&q==0)
def classOk (n:Int) (j:Nat) (c:Int):Bool:=if (j:Int)<n then withinV c 3 else c==0
def rightV (p n s0 q0 s1 q1 s2 q2 s3 q3 c0 c1:Int):Bool:=
 (p != 0)&&(joinOk p 0 s0 q0&&joinOk p 1 s1 q1&&joinOk p 2 s2 q2&&joinOk p 3 s3 q3)&&(classOk n 0 c0&&classOk n 1 c1)
abbrev secV (k s0 q0 s1 q1 s2 q2 s3 q3 c0 c1:Int):Value:=
 .agg #[.int .u8 k,.int .i64 s0,.int .i64 q0,.int .i64 s1,.int .i64 q1,.int .i64 s2,.int .i64 q2,.int .i64 s3,.int .i64 q3,.int .i64 c0,.int .i64 c1]
theorem may_Pr {P:World→Prop} {w:World} (hP:Closed P) (s p:Int) {r:Bool} (hr:mayV s p=r) (h:P w):Calls Tryz.prog 183 #[.agg #[.int .i64 s,.int .i64 p]] w fun e w'=>e= .returned (.bool r)∧P w':=by
 rw[←hr];exact may_P hP s p h
def allOk (p:Int) (js:Nat→Int×Int):Nat→Bool
 |0=>true
 |j+1=>allOk p js j&&joinOk p j (js j).1 (js j).2
def allCl (n:Int) (cl:Nat→Int):Nat→Bool
 |0=>true
 |j+1=>allCl n cl j&&classOk n j (cl j)
theorem allOk_no {p:Int} {js:Nat→Int×Int} {j:Nat} (h:joinOk p j (js j).1 (js j).2=false):∀m,j<m→allOk p js m=false
 |0,hj=>by omega
 |m+1,hj=>by
  unfold allOk;by_cases e:j=m
  · subst e;rw[h,Bool.and_false]
  · rw[allOk_no h m (by omega)];rfl
theorem allCl_no {n:Int} {cl:Nat→Int} {j:Nat} (h:classOk n j (cl j)=false):∀m,j<m→allCl n cl m=false
 |0,hj=>by omega
 |m+1,hj=>by
  unfold allCl;by_cases e:j=m
  · subst e;rw[h,Bool.and_false]
  · rw[allCl_no h m (by omega)];rfl
theorem right_P {P:World→Prop} {w:World} (hP:Closed P) (hT:∀w,P w→Shapes w) (k s0 q0 s1 q1 s2 q2 s3 q3 c0 c1:Int) (h0:0≤k) (h1:k≤255) {p n a b c d:Int} (hs:IsShape k p n a b c d) (h:P w):
 Calls Tryz.prog 155 #[secV k s0 q0 s1 q1 s2 q2 s3 q3 c0 c1] w fun e w'=>e= .returned (.bool (rightV p n s0 q0 s1 q1 s2 q2 s3 q3 c0 c1))∧P w':=by
 have HSh:=Zz (shapeOf_any k h0 h1 hs)
 clear hs
 obtain⟨js,HJ⟩:∃js:Nat→Int×Int,Hid (js 0=(s0,q0)∧js 1=(s1,q1)∧js 2=(s2,q2)∧js 3=(s3,q3)):=⟨fun j=>match j with|0=>(s0,q0)|1=>(s1,q1)|2=>(s2,q2)|_=>(s3,q3),Zz ⟨rfl,rfl,rfl,rfl⟩⟩
 obtain⟨cl,HCl⟩:∃cl:Nat→Int,Hid (cl 0=c0∧cl 1=c1):=⟨fun j=>match j with|0=>c0|_=>c1,Zz ⟨rfl,rfl⟩⟩
 have HR:Hid (rightV p n s0 q0 s1 q1 s2 q2 s3 q3 c0 c1=((p != 0)&&allOk p js 4&&allCl n cl 2)):=Zz (by
  obtain⟨e0,e1,e2,e3⟩:=HJ.out;obtain⟨f0,f1⟩:=HCl.out;simp only[rightV,allOk,allCl,e0,e1,e2,e3,f0,f1,Bool.true_and])
 go_enter Tryz.func155,Tryz.ntmps155
 go_wp2_with fail
 refine wp_scope_fwd (l:=0) rfl ?_
 go_wp2_with fail
 refine(HSh.out _ (hT _ (hP _ _ h (below1 w _)))).mono ?_
 rintro e w1 ⟨rfl,hg,hB⟩
 unfold shapeV
 have hB1:=(below1 w _).trans (hB.mono (by simp))
 have hx:=(Whole.new w 63 [.int .u8 k,.int .i64 s0,.int .i64 q0,.int .i64 s1,.int .i64 q1,.int .i64 s2,.int .i64 q2,.int .i64 s3,.int .i64 q3,.int .i64 c0,.int .i64 c1]).below hB (by simp)
 clear hg hB
 have hp1:=hP _ _ h hB1
 obtain⟨cs,HCS⟩:∃cs:List (Addr×Value),Hid (cs=[(⟨w1.heap.size,0,none⟩,.int .i64 p),(⟨w1.heap.size,1,none⟩,.int .i64 n),(⟨w.heap.size,9,none⟩,.int .i64 c0),(⟨w.heap.size,10,none⟩,.int .i64 c1)]):=⟨_,Zz rfl⟩
 have HC:=Zz (hP.has cs)
 have HS0:Hid (Has P cs (w1.alloc (.cells #[.int .i64 p,.int .i64 n,.int .i64 a,.int .i64 b,.int .i64 c,.int .i64 d] 203))):=Zz (by
  rw[HCS.out];have hw:=Whole.new w1 203 [.int .i64 p,.int .i64 n,.int .i64 a,.int .i64 b,.int .i64 c,.int .i64 d];exact((((Has.nil (hP _ _ hp1 (below1 w1 _))).cons ((hx.alloc _).Za 10 rfl)).cons ((hx.alloc _).Za 9 rfl)).cons (hw.Za 1 rfl)).cons (hw.Za 0 rfl))
 cases hp0:(p==0)
 rotate_left
 · have HF:Hid (false=rightV p n s0 q0 s1 q1 s2 q2 s3 q3 c0 c1):=Zz (by rw[HR.out,bne,hp0];rfl);go_wp2_with fail;go_step3
   simp +zetaDelta only[Exit.inBlock,Exit.then,fwd_goto];refine⟨trivial,?_⟩;go_wp2_with fail;rw[Exit.noGoto_ret];go_ret;exact⟨Zc HF.out,hP _ _ hp1 (below1 w1 _)⟩
 have HP0:Hid ((p != 0)=true):=Zz (by rw[bne,hp0];rfl)
 have x1:=fun o=>(hx.alloc o).Za 1 rfl
 have x2:=fun o=>(hx.alloc o).Za 2 rfl
 have x3:=fun o=>(hx.alloc o).Za 3 rfl
 have x4:=fun o=>(hx.alloc o).Za 4 rfl
 have x5:=fun o=>(hx.alloc o).Za 5 rfl
 have x6:=fun o=>(hx.alloc o).Za 6 rfl
 have x7:=fun o=>(hx.alloc o).Za 7 rfl
 have x8:=fun o=>(hx.alloc o).Za 8 rfl
 go_wp2_with fail
 clear x1 x2 x3 x4 x5 x6 x7 x8
 go_loopw [16] (fun i wr=>∃j:Nat,j≤4∧i= .int .i64 j∧Has P cs wr∧allOk p js j=true)
  (fun i _=>4 - (intOf i).toNat)
 case atStart=>exact⟨0,by omega,rfl,HS0.out,rfl⟩
 case round=>
  obtain⟨j,hj,rfl,hH,hok⟩:=hrel;have HOK:=Zz hok;clear hok;by_cases hlt:j<4
  · have hlt':(j:Int)<4:=by omega
    obtain⟨s,q,HSQ,hix⟩:∃s q:Int,Hid (js j=(s,q))∧∀w:World,(Instr.index 60 (.agg #[.int .i64 s0,.int .i64 q0,.int .i64 s1,.int .i64 q1,.int .i64 s2,.int .i64 q2,.int .i64 s3,.int .i64 q3]) (.int .i64 (j:Int))).run Tryz.prog w= .ok (.agg #[.int .i64 s,.int .i64 q]) w:=by
     obtain⟨e0,e1,e2,e3⟩:=HJ.out;have :j=0∨j=1∨j=2∨j=3:=by omega
     rcases this with rfl|rfl|rfl|rfl
     · exact⟨s0,q0,Zz e0,fun _=>by kernel_rfl⟩
     · exact⟨s1,q1,Zz e1,fun _=>by kernel_rfl⟩
     · exact⟨s2,q2,Zz e2,fun _=>by kernel_rfl⟩
     · exact⟨s3,q3,Zz e3,fun _=>by kernel_rfl⟩
    obtain⟨ds,HDS⟩:∃ds:List (Addr×Value),Hid (ds=[(⟨wr.heap.size,0,none⟩,.int .i64 s),(⟨wr.heap.size,1,none⟩,.int .i64 q)]):=⟨_,Zz rfl⟩;have HS:Hid (Has (Has P cs) ds (wr.alloc (.cells #[.int .i64 s,.int .i64 q] 59)).drew):=Zz (by
     rw[HDS.out];have hw:=Whole.new wr 59 [.int .i64 s,.int .i64 q];exact((Has.nil (HC.out _ _ hH (below1 wr _).drew)).cons (hw.Za 1 rfl)).cons (hw.Za 0 rfl));have HN0:Hid (∀r,joinOk p j s q=r→joinOk p j (js j).1 (js j).2=r):=Zz (by rw[HSQ.out];exact fun r h=>h);clear hH;by_cases hjp:(j:Int)<p
    · have hd2:decide (p≤(j:Int))=false:=by simp;omega
      cases hm:mayV s q;all_goals
       have HM:=Zz hm
       have HN:=Zz ((HN0.out (mayV s q) (by unfold joinOk;rw[if_pos hjp])).trans hm)
       clear hm
       go_wp2_with fail
       refine region_steady (Has (Has P cs) ds) 19 (by kernel_rfl) (by kernel_rfl) HS.out ?_
       simp only[List.take_succ_cons,List.take_zero,List.drop_succ_cons,List.drop_zero]
       repeat ((first|(refine steady_skip (by rfl) ?_)|(refine steady_read _ (by rfl) (fun W hW=>by(have e0:=hW.at HDS.out 0 rfl;have e1:=hW.at HDS.out 1 rfl;have cH:=hW.1.at HCS.out 0 rfl;go_simp;first|done|with_reducible rfl)) ?_)|(refine steady_call _ _ _ (by rfl) (fun W hW=>by(have e0:=hW.at HDS.out 0 rfl;have e1:=hW.at HDS.out 1 rfl;have cH:=hW.1.at HCS.out 0 rfl;go_simp;first|done|rfl)) (fun W hW=>may_Pr (HC.out.has ds) _ _ HM.out hW) ?_)|(refine steady_call _ _ _ (by rfl) (fun W hW=>by(have e0:=hW.at HDS.out 0 rfl;have e1:=hW.at HDS.out 1 rfl;have cH:=hW.1.at HCS.out 0 rfl;go_simp;first|done|rfl)) (fun W hW=>trackEnd_P (HC.out.has ds) hW) ?_));simp only[Act.put,La,Lb,Lc])
       refine steady_nil (fun W hW=>?_)
       go_wp2_with fail
      · have HF:=Zz (show false=rightV p n s0 q0 s1 q1 s2 q2 s3 q3 c0 c1 by rw[HR.out,allOk_no HN.out 4 hlt,Bool.and_false,Bool.false_and]);go_step3
        simp +zetaDelta only[Exit.inBlock,Exit.then,fwd_goto];refine⟨trivial,?_⟩;go_wp2_with fail;rw[Exit.noGoto_ret];go_ret;exact⟨Zc HF.out,hW.1.1⟩
      · go_roundw
        case rel=>exact⟨j+1,hlt,by go_num,hW.1,by unfold allOk;rw[HOK.out,HN.out];rfl⟩
        case measure=>simp[intOf];omega
    · have hd1:decide ((j:Int)<p)=false:=by simp;omega
      have hd2:decide (p≤(j:Int))=true:=by simp;omega
      by_cases hm:s= -1∧q=0
      · obtain⟨rfl,rfl⟩:=hm;have HN:=Zz (HN0.out true (by unfold joinOk;rw[if_neg hjp];rfl));go_wp2_with fail;refine region_steady (Has (Has P cs) ds) 19 (by kernel_rfl) (by kernel_rfl) HS.out ?_;simp only[List.take_succ_cons,List.take_zero,List.drop_succ_cons,List.drop_zero];repeat ((first|(refine steady_skip (by rfl) ?_)|(refine steady_read _ (by rfl) (fun W hW=>by(have e0:=hW.at HDS.out 0 rfl;have e1:=hW.at HDS.out 1 rfl;have cH:=hW.1.at HCS.out 0 rfl;go_simp;first|done|with_reducible rfl)) ?_)|(refine steady_call _ _ _ (by rfl) (fun W hW=>by(have e0:=hW.at HDS.out 0 rfl;have e1:=hW.at HDS.out 1 rfl;have cH:=hW.1.at HCS.out 0 rfl;go_simp;first|done|rfl)) (fun W hW=>trackEnd_P (HC.out.has ds) hW) ?_));simp only[Act.put,La,Lb,Lc])
        refine steady_nil (fun W hW=>?_);go_wp2_with fail;go_roundw
        case rel=>exact⟨j+1,hlt,by go_num,hW.1,by unfold allOk;rw[HOK.out,HN.out];rfl⟩
        case measure=>simp[intOf];omega
      · have HN:=Zz (HN0.out false (by unfold joinOk;rw[if_neg hjp,Bool.and_eq_false_iff,beq_eq_false_iff_ne,beq_eq_false_iff_ne];omega));have HF:=Zz (show false=rightV p n s0 q0 s1 q1 s2 q2 s3 q3 c0 c1 by rw[HR.out,allOk_no HN.out 4 hlt,Bool.and_false,Bool.false_and]);have hs:¬s= -1∨(s= -1∧¬q=0):=by omega
        clear hm;rcases hs with hs|⟨rfl,hq⟩;all_goals
         go_wp2_with fail
         refine region_steady (Has (Has P cs) ds) 19 (by kernel_rfl) (by kernel_rfl) HS.out ?_
         simp only[List.take_succ_cons,List.take_zero,List.drop_succ_cons,List.drop_zero]
         repeat ((first|(refine steady_skip (by rfl) ?_)|(refine steady_read _ (by rfl) (fun W hW=>by(have e0:=hW.at HDS.out 0 rfl;have e1:=hW.at HDS.out 1 rfl;have cH:=hW.1.at HCS.out 0 rfl;go_simp;first|done|with_reducible rfl)) ?_)|(refine steady_call _ _ _ (by rfl) (fun W hW=>by(have e0:=hW.at HDS.out 0 rfl;have e1:=hW.at HDS.out 1 rfl;have cH:=hW.1.at HCS.out 0 rfl;go_simp;first|done|rfl)) (fun W hW=>trackEnd_P (HC.out.has ds) hW) ?_));simp only[Act.put,La,Lb,Lc])
         refine steady_nil (fun W hW=>?_)
         go_wp2_with fail
         go_step3
         simp +zetaDelta only[Exit.inBlock,Exit.then,fwd_goto]
         refine⟨trivial,?_⟩
         go_wp2_with fail
         rw[Exit.noGoto_ret]
         go_ret
         exact⟨Zc HF.out,hW.1.1⟩
  · obtain rfl:j=4:=by omega
    rw[show((4:Nat):Int)=4 from rfl];have x9:=hH.at HCS.out 2 rfl;have x10:=hH.at HCS.out 3 rfl;go_wp2_with fail;clear x9 x10;go_loopw [43] (fun i wr=>∃j:Nat,j≤2∧i= .int .i64 j∧Has P cs wr∧allCl n cl j=true)
     (fun i _=>2 - (intOf i).toNat)
    case atStart=>exact⟨0,by omega,rfl,hH,rfl⟩
    case round=>
     obtain⟨j,hj2,rfl,hH,hok⟩:=hrel;have HOK2:=Zz hok;clear hok;by_cases hlt2:j<2
     · have hlt':(j:Int)<2:=by omega
       have cN:=hH.at HCS.out 1 rfl;obtain⟨cc,HCC,hix⟩:∃cc:Int,Hid (cl j=cc)∧∀w:World,(Instr.index 61 (.agg #[.int .i64 c0,.int .i64 c1]) (.int .i64 (j:Int))).run Tryz.prog w= .ok (.int .i64 cc) w:=by
        obtain⟨e0,e1⟩:=HCl.out;have :j=0∨j=1:=by omega
        rcases this with rfl|rfl
        · exact⟨c0,Zz e0,fun _=>by kernel_rfl⟩
        · exact⟨c1,Zz e1,fun _=>by kernel_rfl⟩
       have HN0:Hid (∀r,classOk n j cc=r→classOk n j (cl j)=r):=Zz (by rw[HCC.out];exact fun r h=>h);by_cases hjn:(j:Int)<n
       · have hd2:decide (n≤(j:Int))=false:=by simp;omega
         cases hm:withinV cc 3;all_goals
          have HM:=Zz hm
          have HN:=Zz ((HN0.out (withinV cc 3) (by unfold classOk;rw[if_pos hjn])).trans hm)
          clear hm
          go_wp2_with fail
          refine(within_P cc 3 HM.out hH).mono ?_
          rintro e w4 ⟨rfl,hH4⟩
          have cN4:=hH4.at HCS.out 1 rfl
          go_wp2_with fail
         · have HF:=Zz (show false=rightV p n s0 q0 s1 q1 s2 q2 s3 q3 c0 c1 by rw[HR.out,allCl_no HN.out 2 hlt2,Bool.and_false]);go_step3
           simp +zetaDelta only[Exit.inBlock,Exit.then,fwd_goto];refine⟨trivial,?_⟩;go_wp2_with fail;rw[Exit.noGoto_ret];go_ret;exact⟨Zc HF.out,hH4.1⟩
         · go_roundw
           case rel=>exact⟨j+1,hlt2,by go_num,hH4,by unfold allCl;rw[HOK2.out,HN.out];rfl⟩
           case measure=>simp[intOf];omega
       · have hd1:decide ((j:Int)<n)=false:=by simp;omega
         have hd2:decide (n≤(j:Int))=true:=by simp;omega
         cases hm:(cc==0);all_goals
          have hm':(cc != 0)= !(cc==0):=rfl
          rw[hm] at hm'
          have HN:=Zz ((HN0.out (cc==0) (by unfold classOk;rw[if_neg hjn])).trans hm)
          go_wp2_with fail
         · have HF:=Zz (show false=rightV p n s0 q0 s1 q1 s2 q2 s3 q3 c0 c1 by rw[HR.out,allCl_no HN.out 2 hlt2,Bool.and_false]);go_step3
           simp +zetaDelta only[Exit.inBlock,Exit.then,fwd_goto];refine⟨trivial,?_⟩;go_wp2_with fail;rw[Exit.noGoto_ret];go_ret;exact⟨Zc HF.out,hH.1⟩
         · go_roundw
           case rel=>exact⟨j+1,hlt2,by go_num,hH,by unfold allCl;rw[HOK2.out,HN.out];rfl⟩
           case measure=>simp[intOf];omega
     · obtain rfl:j=2:=by omega
       have HF:=Zz (show true=rightV p n s0 q0 s1 q1 s2 q2 s3 q3 c0 c1 by rw[HR.out,HP0.out,HOK.out,HOK2.out];rfl);go_wp2_with fail;try rw[fwd_ret]
       go_ret;exact⟨Zc HF.out,hH.1⟩
theorem isShape_p {k p n a b c d:Int} (h:IsShape k p n a b c d):0≤p∧p≤4:=by unfold IsShape at h;omega
section
variable {P:World→Prop} {w:World}
theorem right_Pr (hP:Closed P) (hT:∀w,P w→Shapes w) (k s0 q0 s1 q1 s2 q2 s3 q3 c0 c1:Int) (h0:0≤k) (h1:k≤255) {p n a b c d:Int} {r:Bool} (hs:IsShape k p n a b c d) (hr:rightV p n s0 q0 s1 q1 s2 q2 s3 q3 c0 c1=r) (h:P w):
 Calls Tryz.prog 155 #[secV k s0 q0 s1 q1 s2 q2 s3 q3 c0 c1] w fun e w'=>e= .returned (.bool r)∧P w':=by
 rw[←hr];exact right_P hP hT k s0 q0 s1 q1 s2 q2 s3 q3 c0 c1 h0 h1 hs h
end
end
section
open Go.RowKit
theorem ints_info:(Tryz.prog.info? 3).map (fun i=>(i.zero,i.size,i.bytes))=some (some (.int .i64 0),1,8):=by kernel_rfl
theorem ownsV_keep {w w':World} {base e n:Nat} {v:Value} {xs:List Value} (h:w.ownsRow base e 1 v n xs) (hb:Below w.heap.size w w'):w'.ownsRow base e 1 v n xs:=by
 refine⟨h.1,?_⟩;rcases h.2 with h2|⟨g',cap',cur,hv,h3,h4,r⟩
 · exact .inl h2
 · exact .inr ⟨g',cap',cur,hv,h3,(hb.block g' (Array.getElem?_eq_some_iff.1 h4).1).trans h4,r⟩
theorem append_int (base n:Nat) (v:Value) (xs:List Value) (m:Int) (w:World) (a:Nat) (hown:w.ownsRow base 3 1 v n xs) (hc:w.cell? ⟨a,0,none⟩=some (.int .i64 m)) (hn:n≤1000) (hbase:base≤w.heap.size):
 ∃v' w',(Builtin.append_ #[30,30] 30 #[v,.slice (some ⟨a,0,none⟩) 1 1]).run Tryz.prog w= .ok v' w'∧w'.ownsRow base 3 1 v' (n+1) (xs++[.int .i64 m])∧w.grownBy w' v.ownBlock∧Below base w w':=by
 obtain⟨i,i1,i2,i3,i4⟩:=info_parts ints_info
 obtain⟨v',w',r1,r2,r3,r4,r5⟩:=run_append_own_at (P:=Tryz.prog) w base 30 30 3 i (.int .i64 0) 1 8 Tryz.underlying30 i1 i2 i3 i4 rfl (by omega) v n xs hown ⟨a,0,none⟩ 1 1 [.int .i64 m] rfl
  (by
   intro j u hu;match j,hu with
   |0,hu=>simpa [Addr.add] using (by rw[hc];exact hu)) (by simp[Value.oneCell']) (by unfold maxLen;omega) (by omega) hbase
 refine⟨v',w',r1,r2,r3,(Below.refl base w).grown r3 hbase (fun k e=>?_)⟩
 exact(hown.lt k e).1
theorem owns_slice {w:World} {base e n:Nat} {v:Value} {xs:List Value} (h:w.ownsRow base e 1 v n xs):∃A c,v= .slice A n c∧Row w w.heap.size A xs∧n≤c:=by
 rcases h.2 with ⟨rfl,rfl⟩|⟨g,cap,cur,rfl,hg,_,hn,_⟩
 · have :xs=[]:=List.eq_nil_of_length_eq_zero (by have :=h.1;omega);subst this;exact⟨none,0,rfl,Row.nil _ _ _,Nat.le_refl _⟩
 · exact⟨_,cap,rfl,owns_row h (owns_lt h).2,hn⟩
end
end Go.Proofs.YtifnlhfinjfajaaGreatDoor
