/- Of this seat: ShV, LwI, SearchTells. -/
import Derived.Test.YtifnlhfinjfajaaGreatDoorK43
namespace Go.Proofs.YtifnlhfinjfajaaGreatDoor
set_option linter.unusedVariables false
set_option linter.unusedSimpArgs false
set_option maxRecDepth 100000
set_option maxHeartbeats 32000000
section
open Go.RowKit Go.Shelf
attribute [local go_sem] Oper.semAt_some
theorem from14R_any {l:Lay} {s:Int} {w:World} (hL:Lies l w) (hm:Sml14 l):
 Calls Tryz.prog 17 #[l.val,.int .i64 s] w fun e w'=>∃A' c' qs,e= .returned (.slice A' (List.length qs) c')∧Zr qs A' w'∧qs.map (fun q=>(q.x,q.ss))=toldF l s l.exits.length∧(∀q ∈ qs,q.s=s)∧Below w.heap.size w w':=by
 have hnE:=hL.nE
 have HLW:Hid (∀W,Below w.heap.size w W→Lies l W):=Zz fun W hW=>Lies.closed l _ _ hL hW
 have HM:=Zz hm
 have HB0:Hid (Below w.heap.size w (w.alloc (.cells #[.slice l.As l.secs.length l.cs,.slice l.Ag l.sigs.length l.cg,.slice l.Ae l.exits.length l.ce,.slice l.Af l.flanks.length l.cf,.int .i64 l.t0,.int .i64 l.t1,.int .i64 l.t2,.int .i64 l.t3,.int .i64 l.t4,.int .i64 l.t5,.int .i64 l.t6] 29))∧Whole (w.alloc (.cells #[.slice l.As l.secs.length l.cs,.slice l.Ag l.sigs.length l.cg,.slice l.Ae l.exits.length l.ce,.slice l.Af l.flanks.length l.cf,.int .i64 l.t0,.int .i64 l.t1,.int .i64 l.t2,.int .i64 l.t3,.int .i64 l.t4,.int .i64 l.t5,.int .i64 l.t6] 29)) w.heap.size 29 l.cells):=Zz ⟨below1 _ _,Whole.new _ _ l.cells⟩
 clear hL hm
 go_enter Tryz.func17,Tryz.ntmps17
 go_wp2_with fail
 go_loopw [5,6] (fun v i wr=>∃(j:Nat) (qs:List Pth) (A:Option Addr) (c:Nat),j≤l.exits.length∧v= .slice A qs.length c∧i= .int .i64 (j:Int)∧Hid (PsOwn (w.heap.size+1) qs A c wr)∧Hid (qs.map (fun q=>(q.x,q.ss))=toldF l s j∧∀q ∈ qs,q.s=s)∧Hid (Below w.heap.size w wr∧Whole wr w.heap.size 29 l.cells))
  (fun _ i _=>l.exits.length - (intOf i).toNat)
 case atStart=>exact⟨0,[],none,0,Nat.zero_le _,rfl,rfl,Zz (PsOwn.nil _ _),Zz ⟨rfl,fun q hq=>by cases hq⟩,HB0⟩
 case round=>
  clear HB0;obtain⟨j,qs,A,c,hj,rfl,rfl,HO,HV,HB⟩:=hrel;obtain⟨wa,rfl⟩:∃W,W=wr:=⟨wr,rfl⟩;have x2:=HB.out.2.Za 2 rfl;have hql:qs.length≤100000:=by
   have h1:=congrArg List.length HV.out.1;rw[List.length_map] at h1;have :=toldF_le HM.out s hj;omega
  by_cases hlt:j<l.exits.length
  · have hlt':(j:Int)<l.exits.length:=by omega
    have KA:=Zz (all14R_any (s:=s) (x:=j) (vs:=[]) (A:=none) (c:=0) (HLW.out _ HB.out.1) HM.out (Row.nil _ _ _) (by simp));clear x2;obtain⟨x0,x1,x2,x3,x4,x5,x6,x7,x8,x9,x10⟩:=(HB.out.2).c11;go_wp2_with fail;refine KA.out.mono ?_;rintro e w2 ⟨A2,c2,rs,rfl,hO,hal,hk,hB2⟩;clear KA x0 x1 x2 x3 x4 x5 x6 x7 x8 x9 x10;have hrl:rs.length≤3072:=by
     have h1:=congrArg List.length hal;rw[List.length_map] at h1;rw[h1];exact HM.out.all s j []
    have hwl:=HB.out.2.lt;obtain⟨A9,c9,w3,hrun,hO3,hB3,_⟩:=own_more (PsOwn.closed _ _ _ _ _ _ HO.out hB2) (hO.base (by omega:w.heap.size+1≤wa.heap.size)) (by omega) (by omega) (by have :=hB2.size;omega);have HN:Hid (PsOwn (w.heap.size+1) (qs++rs) A9 c9 w3):=Zz hO3;have HVN:Hid ((qs++rs).map (fun q=>(q.x,q.ss))=toldF l s (j+1)∧∀q ∈ qs++rs,q.s=s):=Zz ⟨by
     rw[List.map_append,HV.out.1];exact(toldF_next hal (fun q hq=>hk q hq)).symm,fun q hq=>by
     rcases List.mem_append.1 hq with hq|hq
     · exact HV.out.2 q hq
     · exact(hk q hq).1⟩;have HBN:Hid (Below w.heap.size w w3∧Whole w3 w.heap.size 29 l.cells):=Zz ⟨(HB.out.1.trans (hB2.mono HB.out.1.size)).trans (hB3.mono (by omega)),(HB.out.2.below hB2 hwl).below hB3 (by omega)⟩;clear hO hal hk hB2 hO3 hB3 hrl hwl;go_wp2_with (at_builtin;refine Zo rfl (.tmp 23) (.tmp 24) 33 rfl hrun ?_);go_roundw
    case rel=>exact⟨j+1,qs++rs,A9,c9,hlt,by first|rfl|rw[List.length_append],by go_num,HN,HVN,HBN⟩
    case measure=>simp[intOf];omega
  · obtain rfl:j=l.exits.length:=by omega
    have HZ:=Zz (And.intro HO.out.lies (And.intro HV.out HB.out.1));go_wp2_with fail;go_ret;exact⟨A,c,qs,rfl,HZ.out.1,HZ.out.2.1.1,HZ.out.2.1.2,HZ.out.2.2⟩
theorem exits14R_any {l:Lay} {s:Int} {w:World} (hL:Lies l w) (hm:Sml14 l):
 Calls Tryz.prog 14 #[l.val,.int .i64 s] w fun e w'=>∃A' c',e= .returned (.slice A' (exitsN l s l.exits.length).length c')∧Row w' w'.heap.size A' (nums .i64 (exitsN l s l.exits.length))∧Below w.heap.size w w':=by
 have hnE:=hL.nE
 have HLW:Hid (∀W,Below w.heap.size w W→Lies l W):=Zz fun W hW=>Lies.closed l _ _ hL hW
 have HM:=Zz hm
 have hE30:=hm.exits
 have HB0:Hid (Below w.heap.size w (w.alloc (.cells #[.slice l.As l.secs.length l.cs,.slice l.Ag l.sigs.length l.cg,.slice l.Ae l.exits.length l.ce,.slice l.Af l.flanks.length l.cf,.int .i64 l.t0,.int .i64 l.t1,.int .i64 l.t2,.int .i64 l.t3,.int .i64 l.t4,.int .i64 l.t5,.int .i64 l.t6] 29))∧Whole (w.alloc (.cells #[.slice l.As l.secs.length l.cs,.slice l.Ag l.sigs.length l.cg,.slice l.Ae l.exits.length l.ce,.slice l.Af l.flanks.length l.cf,.int .i64 l.t0,.int .i64 l.t1,.int .i64 l.t2,.int .i64 l.t3,.int .i64 l.t4,.int .i64 l.t5,.int .i64 l.t6] 29)) w.heap.size 29 l.cells):=Zz ⟨below1 _ _,Whole.new _ _ l.cells⟩
 clear hL hm
 go_enter Tryz.func14,Tryz.ntmps14
 go_wp2_with fail
 go_loopw [5,6] (fun v i wr=>∃j:Nat,j≤l.exits.length∧i= .int .i64 (j:Int)∧Hid (wr.ownsRow (w.heap.size+1) 3 1 v (exitsN l s j).length (nums .i64 (exitsN l s j)))∧Hid (Below w.heap.size w wr∧Whole wr w.heap.size 29 l.cells))
  (fun _ i _=>l.exits.length - (intOf i).toNat)
 case atStart=>exact⟨0,Nat.zero_le _,rfl,Zz (World.ownsRow_nil _ _ _ _),HB0⟩
 case round=>
  clear HB0;obtain⟨j,hj,rfl,HO,HB⟩:=hrel;obtain⟨wa,rfl⟩:∃W,W=wr:=⟨wr,rfl⟩;have x2:=HB.out.2.Za 2 rfl;have hel:=exitsN_le l s j;by_cases hlt:j<l.exits.length
  · have hlt':(j:Int)<l.exits.length:=by omega
    have KA:=Zz (all14R_any (s:=s) (x:=j) (vs:=[]) (A:=none) (c:=0) (HLW.out _ HB.out.1) HM.out (Row.nil _ _ _) (by simp));clear x2;obtain⟨x0,x1,x2,x3,x4,x5,x6,x7,x8,x9,x10⟩:=(HB.out.2).c11;go_wp2_with fail;refine KA.out.mono ?_;rintro e w2 ⟨A2,c2,rs,rfl,_,_,_,hB2⟩;clear KA x0 x1 x2 x3 x4 x5 x6 x7 x8 x9 x10;have hwl:=HB.out.2.lt;have HB2:Hid (Below w.heap.size w w2∧Whole w2 w.heap.size 29 l.cells):=Zz ⟨HB.out.1.trans (hB2.mono HB.out.1.size),HB.out.2.below hB2 hwl⟩;have HO2:Hid (w2.ownsRow (w.heap.size+1) 3 1 u5 (exitsN l s j).length (nums .i64 (exitsN l s j))):=Zz (Zh HO.out hB2);clear hB2 hwl;by_cases he:allV l s j []=[]
    · have hne:errA l s j []≠0:=fun e=>err_ok.1 e he;have HE:Hid (exitsN l s (j+1)=exitsN l s j):=Zz (exitsN_no he);go_wp2_with fail;go_roundw
      case rel=>exact⟨j+1,hlt,by go_num,by rw[HE.out];exact HO2,HB2⟩
      case measure=>simp[intOf];omega
    have hne:errA l s j []=0:=err_ok.2 he;rw[hne];have HE:Hid (exitsN l s (j+1)=exitsN l s j++[(j:Int)]):=Zz (exitsN_yes he);have hws:w.heap.size+1≤w2.heap.size:=HB2.out.2.lt;obtain⟨v',w3,hrun,hown',hgr,hB3,_⟩:=append_int12 (w.heap.size+1) (exitsN l s j).length u5 _ (j:Int) (w2.alloc (.cells #[.int .i64 (j:Int)] 3)) w2.heap.size (Zh HO2.out (below1 w2 _)) ((Whole.new w2 _ [.int .i64 (j:Int)]).Za 0 rfl) (by omega) (by simp;omega);have HN:Hid (w3.ownsRow (w.heap.size+1) 3 1 v' (exitsN l s (j+1)).length (nums .i64 (exitsN l s (j+1)))):=Zz (by rw[HE.out,List.length_append];simpa [nums] using hown');have HB3:Hid (Below w.heap.size w w3∧Whole w3 w.heap.size 29 l.cells):=Zz ⟨(HB2.out.1.trans ((below1 w2 _).mono HB2.out.1.size)).trans (hB3.mono (by omega)),(HB2.out.2.below (below1 w2 _) (by omega)).below hB3 (by omega)⟩;clear hown' hgr hB3 hws hne he;go_wp2_with (at_builtin;refine Zo rfl (.tmp 25) (.tmp 27) 30 rfl hrun ?_);go_roundw
    case rel=>exact⟨j+1,hlt,by go_num,HN,HB3⟩
    case measure=>simp[intOf];omega
  · obtain rfl:j=l.exits.length:=by omega
    obtain⟨A,c,rfl,hr,_⟩:=owns_slice HO.out;have HZ:=Zz (And.intro hr HB.out.1);clear hr;go_wp2_with fail;go_ret;exact⟨A,c,rfl,HZ.out.1,HZ.out.2⟩
theorem mix_askT {P:Program} {ops:Array Oper} {B S:World→Prop} {L:(World→Prop)→Act→Prop} {o:Oper} {l:List (Oper×Bool)} {a:Act} (f:FuncId) (args:Array Value) (v:Value) (hF:Fam B S) (hw:Region.wanted o (yielded ops a.tmps)=true) (hv:∀w,S w→(execOp a.eval o).run P w= .ok (.enter f args) w)
 (hc:∀w,S w→Calls P f args w fun e w'=>e= .returned v∧Below w.heap.size w w') (h:wpMix P ops (Fam B) L l S (a.put o.dst v)):wpMix P ops (Fam B) L ((o,true)::l) S a:=
 ⟨hw,fun w hS=>by
  unfold Oper.wp;rw[hv w hS];refine(hc w hS).mono ?_;rintro e w' ⟨rfl,hb⟩;exact⟨v,S,rfl,hF,hF.1 _ _ hS hb,h⟩⟩
theorem pk_all {qs:List Pth} {al:List (List Stp)} {s x:Int} (h:qs.map Pth.ss=al) (hk:∀q ∈ qs,q.s=s∧q.x=x):qs.map pk=al.map fun w=>(s,x,w):=by
 subst h;rw[List.map_map];exact List.map_congr_left fun q hq=>by unfold pk;rw[(hk q hq).1,(hk q hq).2];rfl
theorem pk_from {qs:List Pth} {al:List (Int×List Stp)} {s:Int} (h:qs.map (fun q=>(q.x,q.ss))=al) (hk:∀q ∈ qs,q.s=s):qs.map pk=al.map fun z=>(s,z.1,z.2):=by
 subst h;rw[List.map_map];exact List.map_congr_left fun q hq=>by unfold pk;rw[hk q hq];rfl
theorem searchTells_P {P:World→Prop} {w:World} (hP:Closed P) (hT:∀w,P w→Shapes w) {l:Lay} (hL:∀w,P w→Lies l w) (hf:FWf l) (s x:Int) {vs:List Int} {A:Option Addr} {c:Nat} (hR:∀W,P W→Row W W.heap.size A (nums .i64 vs)) (hcap:vs.length≤c) (hn:(vs.length:Int)≤9223372036854775807) (h:P w):
 Calls Tryz.prog 3 #[l.val,.int .i64 s,.int .i64 x,.slice A vs.length c] w fun e w'=>e= .returned (.bool true)∧P w':=by
 obtain⟨Q,HQ,HQp,HQl,hq⟩:=keep_box hP h 29 l.cells
 have KW:=Zz (fun W (hW:Q W)=>wakes14_P hP hT (HQp.out W hW))
 have HTL:Hid (∀W,Q W→Shapes W∧Lies l W):=Zz fun W hW=>⟨hT W (HQp.out W hW),hL W (HQp.out W hW)⟩
 have KG:Hid (∀W,Q W→Calls Tryz.prog 8 #[l.val] W fun e w'=>e= .returned (.bool (great14 l))∧Q w'):=Zz fun W hW=>great14_P HQ.out (fun W hW=>hL W (HQp.out W hW)) rfl hW
 have HRV:Hid (∀W,Q W→Row W W.heap.size A (nums .i64 vs)):=Zz fun W hW=>hR W (HQp.out W hW)
 have HFW:=Zz hf
 have HCN:=Zz (And.intro hcap hn)
 clear hP hT hL h hf hR hcap
 obtain⟨g,hg⟩:∃g,great14 l=g:=⟨_,rfl⟩
 rw[hg] at KG
 have HG:=Zz hg
 clear hg
 go_enter Tryz.func3,Tryz.ntmps3
 obtain⟨x0,x1,x2,x3,x4,x5,x6,x7,x8,x9,x10⟩:=(HQl.out _ hq).c11
 go_wp2_with fail
 refine(KG.out _ hq).mono ?_
 rintro e w1 ⟨rfl,hq⟩
 clear x0 x1 x2 x3 x4 x5 x6 x7 x8 x9 x10 KG
 cases g
 rotate_left
 · go_wp2_with fail;refine(KW.out _ hq).mono ?_;rintro e w9 ⟨rfl,hp⟩;have HZ:=Zz hp;clear hp hq;go_wp2_with fail;go_ret;exact⟨rfl,HZ.out⟩
 by_cases hv6:(6:Int)<vs.length
 · go_wp2_with fail;refine(KW.out _ hq).mono ?_;rintro e w9 ⟨rfl,hp⟩;have HZ:=Zz hp;clear hp hq;go_wp2_with fail;go_ret;exact⟨rfl,HZ.out⟩
 have HSM:=Zz (great14_no HFW.out HG.out)
 clear HG HFW
 obtain⟨er,her⟩:∃r,errA l s x vs=r:=⟨_,rfl⟩
 obtain⟨al,hal⟩:∃r,allV l s x vs=r:=⟨_,rfl⟩
 have HALN:Hid (al.length≤3072):=Zz (by rw[←hal];exact HSM.out.all s x vs)
 have HER:=Zz (And.intro her hal)
 clear her hal
 have KA:=all_K HQ HTL HSM.out s x HRV.out HCN.out.1 HCN.out.2 HER.out.2 HER.out.1
 obtain⟨x0,x1,x2,x3,x4,x5,x6,x7,x8,x9,x10⟩:=(HQl.out _ hq).c11
 go_wp2_with fail
 refine(KA.out _ hq).mono ?_
 rintro e w2 ⟨A1,c1,ps,rfl,hps,hpv,hpk,hq⟩
 clear KA x0 x1 x2 x3 x4 x5 x6 x7 x8 x9 x10
 have HP1:Hid (ps.map pk=al.map (fun w=>(s,x,w))∧ps.length=al.length):=Zz ⟨pk_all hpv hpk,by have :=congrArg List.length hpv;rwa [List.length_map] at this⟩
 obtain⟨Q,HQ,HQa,HQ1,hq⟩:=and_more HQ (Zr.closed ps A1) hq hps
 replace HQp:=Zz (fun W hW=>HQp.out W (HQa.out W hW))
 replace HQl:=Zz (fun W hW=>HQl.out W (HQa.out W hW))
 replace HTL:=Zz (fun W hW=>HTL.out W (HQa.out W hW))
 replace HRV:=Zz (fun W hW=>HRV.out W (HQa.out W hW))
 replace KW:=Zz (fun W hW=>KW.out W (HQa.out W hW))
 clear HQa hps hpv hpk
 have KB:Hid (∀W,Q W→Calls Tryz.prog 11 #[l.val,.int .i64 s,.int .i64 x,.slice A vs.length c] W fun e w'=>∃A' c' qs,e= .returned (.tuple #[.slice A' (List.length qs) c',.int .i64 er])∧Zr qs A' w'∧qs.map Pth.ss=al∧(∀q ∈ qs,q.s=s∧q.x=x)∧Q w'):=Zz fun W hW=>by
  refine(all14R_any (s:=s) (x:=x) (HTL.out W hW).2 HSM.out (HRV.out W hW) HCN.out.2).mono ?_;rintro e w' ⟨A',c',qs,h1,h2,h3,h4,h5⟩;rw[HER.out.1] at h1;rw[HER.out.2] at h3;exact⟨A',c',qs,h1,h2.lies,h3,h4,HQ.out _ _ hW h5⟩
 obtain⟨x0,x1,x2,x3,x4,x5,x6,x7,x8,x9,x10⟩:=(HQl.out _ hq).c11
 go_wp2_with fail
 refine(KB.out _ hq).mono ?_
 rintro e w3 ⟨A2,c2,qs,rfl,hqs,hqv,hqk,hq⟩
 clear KB x0 x1 x2 x3 x4 x5 x6 x7 x8 x9 x10
 have HP2:Hid (qs.map pk=al.map (fun w=>(s,x,w))∧qs.length=al.length):=Zz ⟨pk_all hqv hqk,by have :=congrArg List.length hqv;rwa [List.length_map] at this⟩
 obtain⟨Q,HQ,HQa,HQ2,hq⟩:=and_more HQ (Zr.closed qs A2) hq hqs
 replace HQp:=Zz (fun W hW=>HQp.out W (HQa.out W hW))
 replace HQl:=Zz (fun W hW=>HQl.out W (HQa.out W hW))
 replace HTL:=Zz (fun W hW=>HTL.out W (HQa.out W hW))
 replace HRV:=Zz (fun W hW=>HRV.out W (HQa.out W hW))
 replace KW:=Zz (fun W hW=>KW.out W (HQa.out W hW))
 replace HQ1:=Zz (fun W hW=>HQ1.out W (HQa.out W hW))
 clear HQa hqs hqv hqk
 have KO:Hid (∀W,Q W→Calls Tryz.prog 12 #[l.val,.agg #[.int .i64 s,.int .i64 x,.slice A vs.length c]] W fun e w'=>∃A' c' qs,e= .returned (.tuple #[.slice A' (List.length qs) c',.int .i64 er])∧Zr qs A' w'∧qs.map Pth.ss=al∧(∀q ∈ qs,q.s=s∧q.x=x)∧Q w'):=Zz fun W hW=>by
  refine(of14_any (s:=s) (x:=x) (HTL.out W hW).1 (HTL.out W hW).2 HSM.out (HRV.out W hW) HCN.out.1 HCN.out.2).mono ?_;rintro e w' ⟨A',c',qs,h1,h2,h3,h4,h5⟩;rw[HER.out.1] at h1;rw[HER.out.2] at h3;exact⟨A',c',qs,h1,h2.lies,h3,h4,HQ.out _ _ hW h5⟩
 obtain⟨x0,x1,x2,x3,x4,x5,x6,x7,x8,x9,x10⟩:=(HQl.out _ hq).c11
 go_wp2_with fail
 refine(KO.out _ hq).mono ?_
 rintro e w4 ⟨A3,c3,rs,rfl,hrs,hrv,hrk,hq⟩
 clear KO x0 x1 x2 x3 x4 x5 x6 x7 x8 x9 x10
 have HP3:Hid (rs.map pk=al.map (fun w=>(s,x,w))∧rs.length=al.length):=Zz ⟨pk_all hrv hrk,by have :=congrArg List.length hrv;rwa [List.length_map] at this⟩
 obtain⟨Q,HQ,HQa,HQ3,hq⟩:=and_more HQ (Zr.closed rs A3) hq hrs
 replace HQp:=Zz (fun W hW=>HQp.out W (HQa.out W hW))
 replace HQl:=Zz (fun W hW=>HQl.out W (HQa.out W hW))
 replace HTL:=Zz (fun W hW=>HTL.out W (HQa.out W hW))
 replace HRV:=Zz (fun W hW=>HRV.out W (HQa.out W hW))
 replace KW:=Zz (fun W hW=>KW.out W (HQa.out W hW))
 replace HQ1:=Zz (fun W hW=>HQ1.out W (HQa.out W hW))
 replace HQ2:=Zz (fun W hW=>HQ2.out W (HQa.out W hW))
 clear HQa hrs hrv hrk
 obtain⟨ex,hex⟩:∃r,exitsN l s l.exits.length=r:=⟨_,rfl⟩
 have HEX:=Zz hex
 have hexn:ex.length≤30:=by rw[←hex];have :=exitsN_le l s l.exits.length;have :=HSM.out.exits;omega
 have KE:=exits_M HTL HSM.out s
 have KR:Hid (∀W,Q W→Calls Tryz.prog 14 #[l.val,.int .i64 s] W fun e w'=>∃x:Option Addr×Nat,e= .returned (.slice x.1 (exitsN l s l.exits.length).length x.2)∧Row w' w'.heap.size x.1 (nums .i64 (exitsN l s l.exits.length))∧Below W.heap.size W w'):=Zz fun W hW=>by
  refine(exits14R_any (s:=s) (HTL.out W hW).2 HSM.out).mono ?_;rintro e w' ⟨A',c',h1,h2,h3⟩;exact⟨(A',c'),h1,h2,h3⟩
 rw[hex] at KE KR
 clear hex
 go_wp2_with fail
 have HBS:Hid (∀W,Below w4.heap.size w4 W→Q W):=Zz (fun W hB=>HQ.out _ _ hq hB)
 clear hq
 refine region_mix (Below w4.heap.size w4) [(0,false),(1,false),(3,false),(4,false),(2,true),(5,true),(6,false),(7,false)] (by kernel_rfl) (by kernel_rfl) (Below w4.heap.size w4) ⟨Closed.below w4,fun _ h=>h⟩ (Below.refl _ _).drew ?_
 simp only[Zg,Lm,Ln]
 repeat ((first|(refine Zb (by rfl) ?_)|(refine mrd HBS _ (by rfl) (fun W hW=>by(obtain⟨x0,x1,x2,x3,x4,x5,x6,x7,x8,x9,x10⟩:=(HQl.out W hW).c11;go_simp;first|done|with_reducible rfl)) ?_));simp only[Act.put,La,Lb,Lc])
 refine mix_meet (fun x:Option Addr×Nat=>.slice x.1 ex.length x.2) (fun x=>fun W=>Row W W.heap.size x.1 (nums .i64 ex)) ⟨(Closed.below w4),fun _ h=>h⟩ (fun x=>ints_row _ _) _ _ (by rfl) (fun W hW=>by(have hW:=HBS.out W hW;obtain⟨x0,x1,x2,x3,x4,x5,x6,x7,x8,x9,x10⟩:=(HQl.out W hW).c11;go_simp;first|done|rfl)) (fun W hW=>KE.out W (HBS.out W hW)) (fun m1=>?_)
 simp only[Act.put,La,Lb,Lc]
 refine mix_meet (fun x:Option Addr×Nat=>.slice x.1 ex.length x.2) (fun x=>fun W=>Row W W.heap.size x.1 (nums .i64 ex)) ⟨((Closed.below w4).and ((show ∀x:Option Addr×Nat,Closed (fun W=>Row W W.heap.size x.1 (nums .i64 ex)) from fun x=>ints_row _ _) m1)),fun _ h=>h.1⟩ (fun x=>ints_row _ _) _ _ (by rfl) (fun W hW=>by(have hW:=HBS.out W hW.1;obtain⟨x0,x1,x2,x3,x4,x5,x6,x7,x8,x9,x10⟩:=(HQl.out W hW).c11;go_simp;first|done|rfl)) (fun W hW=>KR.out W (HBS.out W hW.1)) (fun m2=>?_)
 simp only[Act.put,La,Lb,Lc]
 repeat ((first|(refine Zb (by rfl) ?_)|(refine mrd HBS _ (by rfl) (fun W hW=>by(obtain⟨x0,x1,x2,x3,x4,x5,x6,x7,x8,x9,x10⟩:=(HQl.out W hW).c11;go_simp;first|done|with_reducible rfl)) ?_));simp only[Act.put,La,Lb,Lc])
 refine Zd (fun W hW=>?_)
 have t1:=hW.1.2
 have t2:=hW.2
 have hq:=HBS.out W hW.1.1
 have HBW:=Zz hW.1.1
 clear hW HBS
 obtain⟨A4,c4⟩:=m1
 obtain⟨A5,c5⟩:=m2
 obtain⟨w5,rfl⟩:∃X,X=W:=⟨W,rfl⟩
 obtain⟨Q,HQ,HQa,HQ4,hq⟩:=and_more HQ (R:=fun W=>Row W W.heap.size A4 (nums .i64 ex)∧Row W W.heap.size A5 (nums .i64 ex)) ((ints_row _ _).and (ints_row _ _)) hq ⟨t1,t2⟩
 replace HQp:=Zz (fun W hW=>HQp.out W (HQa.out W hW))
 replace HQl:=Zz (fun W hW=>HQl.out W (HQa.out W hW))
 replace HTL:=Zz (fun W hW=>HTL.out W (HQa.out W hW))
 replace HRV:=Zz (fun W hW=>HRV.out W (HQa.out W hW))
 replace KW:=Zz (fun W hW=>KW.out W (HQa.out W hW))
 replace HQ1:=Zz (fun W hW=>HQ1.out W (HQa.out W hW))
 replace HQ2:=Zz (fun W hW=>HQ2.out W (HQa.out W hW))
 replace HQ3:=Zz (fun W hW=>HQ3.out W (HQa.out W hW))
 clear HQa t1 t2 HBW KE KR
 dsimp only
 have KF:=from_M HTL HSM.out s
 have KFR:Hid (∀W,Q W→Calls Tryz.prog 17 #[l.val,.int .i64 s] W fun e w'=>∃x:Option Addr×Nat×List Pth,e= .returned (.slice x.1 x.2.2.length x.2.1)∧(Zr x.2.2 x.1 w'∧x.2.2.map (fun q=>(q.x,q.ss))=toldF l s l.exits.length∧∀q ∈ x.2.2,q.s=s)∧Below W.heap.size W w'):=Zz fun W hW=>by
  refine(from14R_any (s:=s) (HTL.out W hW).2 HSM.out).mono ?_;rintro e w' ⟨A',c',qs,h1,h2,h3,h4,h5⟩;exact⟨(A',c',qs),h1,⟨h2,h3,h4⟩,h5⟩
 have K1:Hid (∀W,Q W→Calls Tryz.prog 15 #[.slice A1 ps.length c1,.slice A2 qs.length c2] W fun e w'=>e= .returned (.bool true)∧Below W.heap.size W w'):=Zz fun W hW=>allR12_any c1 c2 (HQ1.out W hW) (HQ2.out W hW) (by have :=HP1.out.2;have :=HALN.out;omega) (HP1.out.1.trans HP2.out.1.symm)
 have K2:Hid (∀W,Q W→Calls Tryz.prog 15 #[.slice A3 rs.length c3,.slice A2 qs.length c2] W fun e w'=>e= .returned (.bool true)∧Below W.heap.size W w'):=Zz fun W hW=>allR12_any c3 c2 (HQ3.out W hW) (HQ2.out W hW) (by have :=HP3.out.2;have :=HALN.out;omega) (HP3.out.1.trans HP2.out.1.symm)
 have HTN:Hid ((toldF l s l.exits.length).length≤100000):=Zz (toldF_le HSM.out s (Nat.le_refl _))
 go_wp2_with fail
 have HBS:Hid (∀W,Below w5.heap.size w5 W→Q W):=Zz (fun W hB=>HQ.out _ _ hq hB)
 clear hq
 refine region_mix (Below w5.heap.size w5) [(0,false),(1,false),(2,false),(3,false),(4,false),(5,false),(6,false),(7,false),(8,false),(9,false),(10,false),(11,false),(12,false),(13,false),(14,false),(15,false),(16,false),(17,false),(18,false),(19,false),(20,false),(21,false),(22,false),(24,false),(25,false),(23,true),(26,true),(27,true),(28,false),(29,false),(30,false),(31,false),(32,false),(33,false),(34,false),(35,false),(36,false)] (by kernel_rfl) (by kernel_rfl) (Below w5.heap.size w5) ⟨Closed.below w5,fun _ h=>h⟩ (Below.refl _ _).drew ?_
 simp only[Zg,Lm,Ln]
 repeat ((first|(refine Zb (by rfl) ?_)|(refine mrd HBS _ (by rfl) (fun W hW=>by(obtain⟨x0,x1,x2,x3,x4,x5,x6,x7,x8,x9,x10⟩:=(HQl.out W hW).c11;go_simp;first|done|with_reducible rfl)) ?_)|(refine mcl HBS _ _ _ (by rfl) (fun W hW=>by(obtain⟨x0,x1,x2,x3,x4,x5,x6,x7,x8,x9,x10⟩:=(HQl.out W hW).c11;go_simp;first|done|rfl)) (fun W hW=>K1.out W (HBS.out W hW)) ?_)|(refine mcl HBS _ _ _ (by rfl) (fun W hW=>by(obtain⟨x0,x1,x2,x3,x4,x5,x6,x7,x8,x9,x10⟩:=(HQl.out W hW).c11;go_simp;first|done|rfl)) (fun W hW=>K2.out W (HBS.out W hW)) ?_));simp only[Act.put,La,Lb,Lc])
 refine mix_meet (fun x:Option Addr×Nat×List Pth=>.slice x.1 x.2.2.length x.2.1) (fun x=>fun W=>Zr x.2.2 x.1 W∧x.2.2.map (fun q=>(q.x,q.ss))=toldF l s l.exits.length∧∀q ∈ x.2.2,q.s=s) ⟨Closed.below w5,fun _ h=>h⟩ (fun x=>(Zr.closed _ _).and (fun _ _ h _=>h)) _ _ (by rfl) (fun W hW=>by(have hW:=HBS.out W hW;obtain⟨x0,x1,x2,x3,x4,x5,x6,x7,x8,x9,x10⟩:=(HQl.out W hW).c11;go_simp;first|done|rfl)) (fun W hW=>KF.out W (HBS.out W hW)) (fun m1=>?_)
 simp only[Act.put,La,Lb,Lc]
 refine mix_meet (fun x:Option Addr×Nat×List Pth=>.slice x.1 x.2.2.length x.2.1) (fun x=>fun W=>Zr x.2.2 x.1 W∧x.2.2.map (fun q=>(q.x,q.ss))=toldF l s l.exits.length∧∀q ∈ x.2.2,q.s=s) ⟨(Closed.below w5).and ((show ∀x:Option Addr×Nat×List Pth,Closed (fun W=>Zr x.2.2 x.1 W∧x.2.2.map (fun q=>(q.x,q.ss))=toldF l s l.exits.length∧∀q ∈ x.2.2,q.s=s) from fun x=>(Zr.closed _ _).and (fun _ _ h _=>h)) m1),fun _ h=>h.1⟩ (fun x=>(Zr.closed _ _).and (fun _ _ h _=>h)) _ _ (by rfl) (fun W hW=>by(have hW:=HBS.out W hW.1;obtain⟨x0,x1,x2,x3,x4,x5,x6,x7,x8,x9,x10⟩:=(HQl.out W hW).c11;go_simp;first|done|rfl)) (fun W hW=>KFR.out W (HBS.out W hW.1)) (fun m2=>?_)
 simp only[Act.put,La,Lb,Lc]
 refine mix_askT _ _ (.bool true) ⟨((Closed.below w5).and ((show ∀x:Option Addr×Nat×List Pth,Closed (fun W=>Zr x.2.2 x.1 W∧x.2.2.map (fun q=>(q.x,q.ss))=toldF l s l.exits.length∧∀q ∈ x.2.2,q.s=s) from fun x=>(Zr.closed _ _).and (fun _ _ h _=>h)) m1)).and ((show ∀x:Option Addr×Nat×List Pth,Closed (fun W=>Zr x.2.2 x.1 W∧x.2.2.map (fun q=>(q.x,q.ss))=toldF l s l.exits.length∧∀q ∈ x.2.2,q.s=s) from fun x=>(Zr.closed _ _).and (fun _ _ h _=>h)) m2),fun _ h=>h.1.1⟩ (by rfl) (fun W hW=>by(clear hW;go_simp;first|done|rfl)) (fun W hW=>allR12_any m1.2.1 m2.2.1 hW.1.2.1 hW.2.1 (by have h1:=congrArg List.length hW.1.2.2.1;rw[List.length_map] at h1;have :=HTN.out;omega) ((pk_from hW.1.2.2.1 hW.1.2.2.2).trans (pk_from hW.2.2.1 hW.2.2.2).symm)) ?_
 simp only[Act.put,La,Lb,Lc]
 repeat ((first|(refine Zb (by rfl) ?_)|(refine mrd HBS _ (by rfl) (fun W hW=>by(obtain⟨x0,x1,x2,x3,x4,x5,x6,x7,x8,x9,x10⟩:=(HQl.out W hW).c11;go_simp;first|done|with_reducible rfl)) ?_));simp only[Act.put,La,Lb,Lc])
 refine Zd (fun W hW=>?_)
 have hq:=HBS.out W hW.1.1
 clear hW HBS K1 K2 KF KFR
 go_wp2_with fail
 go_loopw [17] (fun i wr=>∃j:Nat,j≤ex.length∧i= .int .i64 j∧Q wr) (fun i _=>ex.length - (intOf i).toNat)
 case atStart=>exact⟨0,Nat.zero_le _,rfl,hq⟩
 case round=>
  clear hq;obtain⟨j,hj,rfl,hq⟩:=hrel;obtain⟨wa,rfl⟩:∃W,W=wr:=⟨wr,rfl⟩;by_cases hlt:j<ex.length
  · have hlt':(j:Int)<ex.length:=by omega
    obtain⟨v,hv⟩:∃v,ex[j]? =some v:=⟨_,List.getElem?_eq_getElem hlt⟩;obtain⟨b6,o6,HA6,HD0,_⟩:=row_at (f:=fun n:Int=>[.int .i64 n]) (n:=1) (l:=ex) (fun _=>rfl) (by omega) (fun W hW=>by have :=(HQ4.out W hW).1;rw[←nums_flat] at this;exact this) hq hv;obtain⟨b7,o7,HA7,HE0,_⟩:=row_at (f:=fun n:Int=>[.int .i64 n]) (n:=1) (l:=ex) (fun _=>rfl) (by omega) (fun W hW=>by have :=(HQ4.out W hW).2;rw[←nums_flat] at this;exact this) hq hv;have HF:Hid (∀W,Q W→W.cell? ⟨b6,o6+j,none⟩=some (.int .i64 v)∧W.cell? ⟨b7,o7+j,none⟩=some (.int .i64 v)):=Zz fun W hW=>⟨by have :=HD0.out W hW _ _ _ hv rfl;rwa [Nat.mul_one] at this,by have :=HE0.out W hW _ _ _ hv rfl;rwa [Nat.mul_one] at this⟩;clear HD0 HE0 hv;go_wp2_with fail;have HBS:Hid (∀W,Below wa.heap.size wa W→Q W):=Zz (fun W hB=>HQ.out _ _ hq hB);clear hq;refine rmx wa f9 (by kernel_rfl) (by kernel_rfl) ?_;simp only[Zg,f9,Lm,Ln];repeat ((first|(refine Zb (by rfl) ?_)|(refine mrd HBS _ (by rfl) (fun W hW=>by(obtain⟨c0,c1⟩:=HF.out W hW;go_simp;first|done|with_reducible rfl)) ?_)|(refine mrd HBS _ (by rfl) (fun W hW=>by(obtain⟨c0,c1⟩:=HF.out W hW;rw[HA6.out];go_simp;first|done|with_reducible rfl)) ?_)|(refine mrd HBS _ (by rfl) (fun W hW=>by(obtain⟨c0,c1⟩:=HF.out W hW;rw[HA7.out];go_simp;first|done|with_reducible rfl)) ?_));simp only[Act.put,La,Lb,Lc])
    refine Zd (fun W hW=>?_);have hq:=HBS.out W hW;have HBW:=Zz hW;clear hW HBS;go_wp2_with fail;go_roundw
    case rel=>exact⟨j+1,hlt,by go_num,hq⟩
    case measure=>simp[intOf];omega
  · obtain rfl:j=ex.length:=by omega
    go_wp2_with fail;refine(KW.out _ hq).mono ?_;rintro e w9 ⟨rfl,hp⟩;have HZ:=Zz hp;clear hp hq;go_wp2_with fail;go_ret;exact⟨rfl,HZ.out⟩
end
section
open Go.RowKit Go.Shelf
theorem searchTells_walk (s x:Int) {vs:List Int} {A:Option Addr} {c:Nat} {l:Lay} {w:World} (hT:Shapes w) (hL:Lies l w) (hf:FWf l) (hR:Row w w.heap.size A (nums .i64 vs)) (hcap:vs.length≤c) (hmax:c≤maxLen):
 Calls Tryz.prog 3 #[l.val,.int .i64 s,.int .i64 x,.slice A vs.length c] w fun e w'=>e= .returned (.bool true)∧Below w.heap.size w w':=
 searchTells_P (P:=fun W=>Below w.heap.size w W) (Closed.below w) (fun W h=>Shapes.closed _ _ hT h) (fun W h=>Lies.closed l _ _ hL h) hf s x (fun W h=>hR.on h) hcap (by unfold maxLen at hmax;omega) (Below.refl _ _)
end
end Go.Proofs.YtifnlhfinjfajaaGreatDoor
