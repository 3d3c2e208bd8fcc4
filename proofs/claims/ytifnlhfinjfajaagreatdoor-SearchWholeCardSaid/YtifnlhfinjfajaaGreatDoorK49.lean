/- Of this seat: PathRow. -/
import Derived.Test.YtifnlhfinjfajaaGreatDoorK14
import Derived.Test.YtifnlhfinjfajaaGreatDoorK48
namespace Go.Proofs.YtifnlhfinjfajaaGreatDoor
set_option linter.unusedVariables false
set_option linter.unusedSimpArgs false
set_option maxRecDepth 100000
set_option maxHeartbeats 32000000
section
open Go.ChangeShapes Go.WideShapes Go.ChangeAt Go.RowKit Go.Deep
open Go.Joins Go.Shelf
section
variable {H:Type} {enc:TypeId×Value→H} {w:World} {base:Nat} {spare:Nat→Bool} {held:Bool}
theorem path_openC {r:Reach} {b0:Nat} {v:Value} {d:DataW H} {p:List MemPlace} (hv:Value.okWide Tryz.prog w r b0 46 v) (h:DataW.Trod enc Tryz.prog w base spare held 46 v d p):∃t:Pth,v=t.val∧PLies t w∧t.ss.length≤t.c:=by
 obtain⟨ca,rfl,_⟩:=okWide_struct Tryz.underlying46 hv;obtain⟨fuel,hf⟩:=h;obtain⟨xs,m,_,hx,hlen,hxs,hf⟩:=DataW.trod_struct Tryz.underlying46 hf;have hcl:Tryz.prog.cellsOf 46=3:=by kernel_rfl
 rw[hcl] at hlen;obtain⟨f0,g0,t0,o0⟩:=field_of (P:=Tryz.prog) (t:=46) (i:=0) (ty:=3) (off:=0) (by kernel_rfl);obtain⟨f1,g1,t1,o1⟩:=field_of (P:=Tryz.prog) (t:=46) (i:=1) (ty:=3) (off:=1) (by kernel_rfl);obtain⟨f2,g2,t2,o2⟩:=field_of (P:=Tryz.prog) (t:=46) (i:=2) (ty:=44) (off:=2) (by kernel_rfl);have hsz:xs.length=3:=by rw[hxs];kernel_rfl
 have hcc:(Value.agg ca).cells.toList=ca.toList:=rfl;rw[hcc] at hlen hf;obtain⟨cs,hcs⟩:∃cs,ca.toList=cs:=⟨_,rfl⟩;obtain rfl:ca=cs.toArray:=by rw[←hcs]
 rw[hcs] at hlen hf;match cs,hlen,xs,hsz with
 |[a0,a1,a2],_,[y0,y1,y2],_=>
  have h0:=hf 0 f0 g0;have h1:=hf 1 f1 g1;have h2:=hf 2 f2 g2;rw[t0,o0,show Tryz.prog.cellsOf 3=1 by kernel_rfl] at h0;rw[t1,o1,show Tryz.prog.cellsOf 3=1 by kernel_rfl] at h1;rw[t2,o2,show Tryz.prog.cellsOf 44=1 by kernel_rfl] at h2;obtain⟨A,cap,ss,rfl,hr,_,hn,hc⟩:=row_openC (f:=Ze) (G:=fun _=>True) (c:=3) (fun _=>rfl) (by omega) Tryz.underlying44 (by kernel_rfl) (fun n cs x h=>stp_el h) (v:=a2) (y:=y2) h2;have h0:=plain_el 8 (ls:=[.num .i64]) (by kernel_rfl) (x:=y0) h0;have h1:=plain_el 8 (ls:=[.num .i64]) (by kernel_rfl) (x:=y1) h1;obtain⟨u0,c0,e0,_,h0⟩:=fits_num h0;obtain⟨u1,c1,e1,_,h1⟩:=fits_num h1;obtain rfl:=fits_nil h0;obtain rfl:=fits_nil h1;simp at e0 e1;obtain rfl:=e0;obtain rfl:=e1;exact⟨⟨u0,u1,A,cap,ss⟩,rfl,⟨hr,hn⟩,hc⟩
end
end
end Go.Proofs.YtifnlhfinjfajaaGreatDoor
