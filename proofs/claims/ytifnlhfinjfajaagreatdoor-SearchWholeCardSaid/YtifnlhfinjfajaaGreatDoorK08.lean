/- Of this seat: TopoP, LayOneM, BeGoP, RouP, RouQ, NeeP, LayTellsM, BeN, NeeA, BeA, BeF. -/
import Derived.Deep.CutBlock
import Derived.Test.YtifnlhfinjfajaaGreatDoorK07
namespace Go.Proofs.YtifnlhfinjfajaaGreatDoor
set_option linter.unusedVariables false
set_option linter.unusedSimpArgs false
set_option maxRecDepth 100000
set_option maxHeartbeats 32000000
section
open Go.RowKit Go.Shelf
def overGo (l:Lay):Int×Int→List Int→List (Int×Int×Int)→Bool
 |_,_,[]=>true
 |p,seen,s::r=>decide (Zt l p.1 p.2=(s.1,s.2.1))&&(!(seen.contains s.1)&&overGo l (s.1,s.2.2) (seen++[s.1]) r)
def overV (l:Lay) (x:Exm):Bool:=overGo l (x.s,x.q) [x.s] x.over
def wrongV (l:Lay):Int×Bool:=match l.exits.findIdx? (fun x=>!overV l x) with|some n=>((n:Int),true)|none=>(0,false)
theorem wrong_no {l:Lay}:wrongV l=(0,false)↔∀x ∈ l.exits,overV l x=true:=by
 unfold wrongV;cases e:l.exits.findIdx? (fun x=>!overV l x) with
 |none=>
  simp only[true_iff];intro x hx;have :=List.findIdx?_eq_none_iff.1 e x hx;simpa using this
 |some n=>
  simp only[Prod.mk.injEq,Bool.true_eq_false,and_false,false_iff];intro h;obtain⟨hn,hp,_⟩:=List.findIdx?_eq_some_iff_getElem.1 e;rw[h _ (List.getElem_mem hn)] at hp;cases hp
def ruleV (l:Lay) (k:Nat):Int×Bool:=
 if k=0 then (0,!joinedL l) else if k=1 then Zv sameG l.sigs else if k=2 then Zv sameE l.exits else if k=3 then wrongV l else Zv sameF l.flanks
def checkV (l:Lay):Int×Int×Int:=
 if rightL l=true then (match (List.range 5).find? (fun k=>(ruleV l k).2) with|some k=>(((k:Int)+1),(ruleV l k).1,90)|none=>(0,0,0)) else (0,0,60)
def rightT (l:Lay):Bool:=decide ((checkV l).2.2=0)
structure Hangs (l:Lay):Prop where
 right:rightL l=true
 joined:joinedL l=true
 sigs:NoTwo sameG l.sigs
 exits:NoTwo sameE l.exits
 overs:∀x ∈ l.exits,overV l x=true
 flanks:NoTwo sameF l.flanks
theorem check_at {l:Lay} (hr:rightL l=true) {k:Nat} (hk:k<5) (h:(ruleV l k).2=true) (ha:∀i,i<k→(ruleV l i).2=false):checkV l=(((k:Int)+1),(ruleV l k).1,90):=by
 unfold checkV;rw[if_pos hr];have :(List.range 5).find? (fun k=>(ruleV l k).2)=some k:=by
  rw[List.find?_range_eq_some];refine⟨h,List.mem_range.2 hk,fun j hj=>?_⟩;rw[ha j hj];rfl
 rw[this]
theorem check_no {l:Lay} (hr:rightL l=true) (ha:∀i,i<5→(ruleV l i).2=false):checkV l=(0,0,0):=by
 unfold checkV;rw[if_pos hr];have :(List.range 5).find? (fun k=>(ruleV l k).2)=none:=by
  rw[List.find?_eq_none];intro k hk;rw[ha k (List.mem_range.1 hk)];simp
 rw[this]
theorem check_wrong {l:Lay} (hr:rightL l=false):checkV l=(0,0,60):=by
 unfold checkV;rw[if_neg (by rw[hr];simp)]
theorem Hangs.kept {l:Lay} (h:Hangs l):∀i,i<5→(ruleV l i).2=false:=by
 intro i hi;rcases(show i=0∨i=1∨i=2∨i=3∨i=4 by omega) with rfl|rfl|rfl|rfl|rfl
 · show(!joinedL l)=false;rw[h.joined];rfl
 · show(Zv sameG l.sigs).2=false;rw[second_no.2 h.sigs]
 · show(Zv sameE l.exits).2=false;rw[second_no.2 h.exits]
 · show(wrongV l).2=false;rw[wrong_no.2 h.overs]
 · show(Zv sameF l.flanks).2=false;rw[second_no.2 h.flanks]
end
section
open Go.RowKit Go.Shelf
section
variable {P:Program} {α:Type} {f:α→List Value} {size:Nat}
theorem flat_none (hf:∀x,(f x).length=size) (hsz:0<size) {w:World} {B:Nat} {l:List α} (hr:Row w B none (l.flatMap f)):l=[]:=by
 cases l with
 |nil=>rfl
 |cons x l=>
  obtain⟨b,off,e,_⟩:=hr (by rw[List.flatMap_cons,List.length_append,hf];omega);cases e
end
theorem exec_append {P:Program} {o:Oper} {a:Act} {w w':World} (s x:Operand) (t:TypeId) (ho:o.op= .call {callee:=.builtin .append,args:=#[s,x],argTypes:=#[t,t]}) {v':Value}
 (hrun:(Builtin.append_ #[t,t] o.type #[a.eval s,a.eval x]).run P w= .ok v' w'):(execOp a.eval o).run P w= .ok (.value v') w':=by
 unfold execOp
 simp only[ho,resolve,invoke,builtin,Sem.run_bind,Sem.run_pure,Result.andThen_ok,List.map_toArray,List.map_cons,List.map_nil,hrun]
theorem owns_set {w:World} {base e size n B:Nat} {v:Value} {xs:List Value} (h:w.ownsRow base e size v n xs) {p:Addr} (hp:p.block<base) (u:Value):(w.setCell p u).ownsRow base e size v n xs:=
 h.kept (row:=some p.block) ⟨rfl,rfl,rfl,by simp[World.setCell],fun k _ hk=>Below.heap_setCell _ _ _ _ (fun e=>hk (by rw[e]))⟩ (by
  rcases h.2 with ⟨rfl,_⟩|⟨g,cap,cur,rfl,h3,_⟩
  · exact .inl rfl
  · refine .inr (fun e=>?_);have :g=p.block:=by simpa [Value.ownBlock] using e
    omega)
structure Owned (n0:Nat) (m:Lay) (W:World):Prop where
 secs:W.ownsRow n0 63 11 (.slice m.As m.secs.length m.cs) m.secs.length (m.secs.flatMap Sec.cells)
 sigs:W.ownsRow n0 83 2 (.slice m.Ag m.sigs.length m.cg) m.sigs.length (m.sigs.flatMap Zf)
 exits:W.ownsRow n0 87 3 (.slice m.Ae m.exits.length m.ce) m.exits.length (m.exits.flatMap Exm.cells)
 flanks:W.ownsRow n0 136 4 (.slice m.Af m.flanks.length m.cf) m.flanks.length (m.flanks.flatMap flkCells)
 overs:∀x ∈ m.exits,W.ownsRow n0 66 3 (.slice x.A x.over.length x.c) x.over.length (x.over.flatMap Ze)
theorem Owned.keep {n0:Nat} {m:Lay} {W W':World} (h:Owned n0 m W) (hb:Below W.heap.size W W'):Owned n0 m W':=
 ⟨Zh h.secs hb,Zh h.sigs hb,Zh h.exits hb,Zh h.flanks hb,fun x hx=>Zh (h.overs x hx) hb⟩
theorem Owned.closed (n0:Nat) (m:Lay):Closed (Owned n0 m):=fun w w' h hb=>h.keep hb
theorem Owned.set {n0:Nat} {m:Lay} {W:World} (h:Owned n0 m W) {p:Addr} (hp:p.block<n0) (u:Value):Owned n0 m (W.setCell p u):=
 ⟨owns_set (B:=0) h.secs hp u,owns_set (B:=0) h.sigs hp u,owns_set (B:=0) h.exits hp u,owns_set (B:=0) h.flanks hp u,fun x hx=>owns_set (B:=0) (h.overs x hx) hp u⟩
theorem Owned.lies {n0:Nat} {m:Lay} {W:World} (h:Owned n0 m W) (hk:∀s ∈ m.secs,0≤s.k∧s.k≤255) (h1:m.secs.length≤1001) (h2:m.sigs.length≤1001) (h3:m.exits.length≤1001) (h4:m.flanks.length≤1001) (h5:∀x ∈ m.exits,x.over.length≤1001):Lies m W:=
 ⟨owns_row2 h.secs,owns_row2 h.sigs,owns_row2 h.exits,owns_row2 h.flanks,fun x hx=>owns_row2 (h.overs x hx),hk,by omega,by omega,by omega,by omega,fun x hx=>by have :=h5 x hx;omega⟩
theorem Owned.base {n0 n1:Nat} {m:Lay} {W:World} (h:Owned n0 m W) (hn:n1≤n0):Owned n1 m W:=
 ⟨owns_base h.secs hn,owns_base h.sigs hn,owns_base h.exits hn,owns_base h.flanks hn,fun x hx=>owns_base (h.overs x hx) hn⟩
structure St (w:World) (cs:List Value) (W:World):Prop where
 below:Below w.heap.size w W
 box:Whole W w.heap.size 29 cs
 res:Whole W (w.heap.size+1) 29 [.slice none 0 0,.slice none 0 0,.slice none 0 0,.slice none 0 0,.int .i64 0,.int .i64 0,.int .i64 0,.int .i64 0,.int .i64 0,.int .i64 0,.int .i64 0]
theorem St.keep {w W W':World} {cs:List Value} (h:St w cs W) (hb:Below W.heap.size W W'):St w cs W':=
 ⟨h.below.trans (hb.mono h.below.size),h.box.below hb h.box.lt,h.res.below hb h.res.lt⟩
theorem St.closed (w:World) (cs:List Value):Closed (St w cs):=fun W W' h hb=>h.keep hb
theorem St.size {w W:World} {cs:List Value} (h:St w cs W):w.heap.size+2≤W.heap.size:=h.res.lt
theorem St.store {w W:World} {cs:List Value} (h:St w cs W) (i:Nat) (v:Value):St w (cs.set i v) (W.setCell ⟨w.heap.size,i,none⟩ v):=
 ⟨h.below.setCell (p:=⟨w.heap.size,i,none⟩) (Nat.le_refl _) v,h.box.set i v,h.res.far (p:=⟨w.heap.size,i,none⟩) (by show w.heap.size+1≠w.heap.size;omega) v⟩
theorem St.grown {w W W':World} {cs:List Value} (h:St w cs W) {r:Option Nat} (hg:W.grownBy W' r) (hr:∀k,r=some k→w.heap.size+2≤k):St w cs W':=
 ⟨h.below.grown hg h.below.size (fun k e=>by have :=hr k e;omega),h.box.kept hg (fun e=>by have :=hr _ e.symm;omega),h.res.kept hg (fun e=>by have :=hr _ e.symm;omega)⟩
section
variable {P:Program} {ops:Array Oper} {B S:World→Prop} {L:(World→Prop)→Act→Prop} {o:Oper} {l:List (Oper×Bool)} {a:Act}
theorem mix_yield {X:Type} (val:X→Value) (S':X→World→Prop) (hF':∀x,Fam B (S' x)) (hw:Region.wanted o (yielded ops a.tmps)=true) (hv:∀w,S w→∃x w',(execOp a.eval o).run P w= .ok (.value (val x)) w'∧S' x w')
 (h:∀x,wpMix P ops (Fam B) L l (S' x) (a.put o.dst (val x))):wpMix P ops (Fam B) L ((o,true)::l) S a:=
 ⟨hw,fun w hS=>by
  obtain⟨x,w',hr,hs⟩:=hv w hS;unfold Oper.wp;rw[hr];exact⟨val x,S' x,rfl,hF' x,hs,h x⟩⟩
theorem mix_make (val:Nat→Value) (n:Nat) (t:TypeId) (zs:List Value) (hF:Fam B S) (hn:∀w,S w→n≤w.heap.size) (hw:Region.wanted o (yielded ops a.tmps)=true)
 (hv:∀w,S w→(execOp a.eval o).run P w= .ok (.value (val w.heap.size)) (w.alloc (.cells zs.toArray t)))
 (h:∀g,n≤g→wpMix P ops (Fam B) L l (fun w=>S w∧Whole w g t zs) (a.put o.dst (val g))):wpMix P ops (Fam B) L ((o,true)::l) S a:=
 ⟨hw,fun w hS=>by
  unfold Oper.wp;rw[hv w hS];exact⟨_,_,rfl,⟨hF.1.and (Closed.whole _ _ _),fun w hw=>hF.2 w hw.1⟩,⟨hF.1 _ _ hS (below1 w _),Whole.new w t zs⟩,h _ (hn w hS)⟩⟩
end
end
section
open Go.RowKit Go.Shelf
end
section
open Go.RowKit Go.Shelf
end
section
open Go.RowKit Go.Shelf
theorem own_lens {l:Lay} (h:rightL l=true):l.secs.length≤24∧l.sigs.length≤12∧l.exits.length≤12∧l.flanks.length≤16∧∀x ∈ l.exits,x.over.length≤2:=by
 obtain⟨⟨h1,h2,h3,h4,h5⟩,_⟩:=rightL_iff.1 h;exact⟨by omega,by omega,by omega,by omega,fun x hx=>by have :=h5 x hx;omega⟩
end
section
open Go.RowKit Go.Shelf
end
section
open Go.RowKit Go.Shelf
def endL (l:Lay):Int×Int→List (Int×Int×Int)→Int×Int
 |p,[]=>p
 |_,x::r=>endL l (nextV l x.1 x.2.1 x.2.2) r
theorem goes_append (l:Lay):∀(a b:List (Int×Int×Int)) (p:Int×Int),goesL l p (a++b)=(goesL l p a&&goesL l (endL l p a) b)
 |[],b,p=>by simp[goesL,endL]
 |x::a,b,p=>by
  show(stepV l x.1 x.2.1 x.2.2&&(decide (p=(x.1,x.2.1))&&goesL l (nextV l x.1 x.2.1 x.2.2) (a++b)))=((stepV l x.1 x.2.1 x.2.2&&(decide (p=(x.1,x.2.1))&&goesL l (nextV l x.1 x.2.1 x.2.2) a))&&goesL l (endL l (nextV l x.1 x.2.1 x.2.2) a) b);rw[goes_append l a b,Bool.and_assoc,Bool.and_assoc]
theorem end_append (l:Lay):∀(a:List (Int×Int×Int)) (x:Int×Int×Int) (p:Int×Int),endL l p (a++[x])=nextV l x.1 x.2.1 x.2.2
 |[],x,p=>rfl
 |y::a,x,p=>end_append l a x _
def goesS (l:Lay):List (Int×Int×Int)→Bool
 |[]=>true
 |x::r=>goesL l (x.1,x.2.1) (x::r)
def Zs:List Int→List Int→Bool
 |_,[]=>true
 |[],_::_=>false
 |s::r,v::vs=>if s=v then Zs r vs else Zs r (v::vs)
theorem through_nil (r:List Int):Zs r []=true:=by cases r <;> rfl
theorem through_cons (s:Int) (r:List Int) (v:Int) (vs:List Int):Zs (s::r) (v::vs)=if s=v then Zs r vs else Zs r (v::vs):=rfl
theorem two_ways {k i a b:Int} (ha:goesK k i a=true) (hb:goesK k i b=true) (hab:a≠b):k=2∧i=0:=by
 have hs:=shapeK k;unfold goesK goesV joinV at ha hb;simp only[Bool.or_eq_true,Bool.and_eq_true,decide_eq_true_eq,beq_iff_eq] at ha hb;rcases hs with ⟨e,h1,h2,h3,h4,h5,h6⟩|⟨e,h1,h2,h3,h4,h5,h6⟩|⟨e,h1,h2,h3,h4,h5,h6⟩|⟨e,h1,h2,h3,h4,h5,h6⟩ <;> rw[h2,h4,h5,h6] at ha hb <;> omega
structure Pth where
 s:Int
 x:Int
 A:Option Addr
 c:Nat
 ss:List (Int×Int×Int)
abbrev Pth.cells (p:Pth):List Value:=[.int .i64 p.s,.int .i64 p.x,.slice p.A p.ss.length p.c]
abbrev Pth.val (p:Pth):Value:=.agg #[.int .i64 p.s,.int .i64 p.x,.slice p.A p.ss.length p.c]
structure PLies (p:Pth) (w:World):Prop where
 row:Row w w.heap.size p.A (p.ss.flatMap Ze)
 len:(p.ss.length:Int)≤9223372036854775807
theorem PLies.closed (p:Pth):Closed (PLies p):=fun w w' h hb=>⟨h.row.on hb,h.len⟩
abbrev secsS (ss:List (Int×Int×Int)):List Int:=ss.map (fun x=>x.1)
def dupAt (ss:List (Int×Int×Int)) (j:Nat):Bool:=((ss[j]?).map fun x=>(ss.take j).any fun a=>a.1==x.1).getD false
def inOver (ss os:List (Int×Int×Int)) (j:Nat):Bool:=((ss[j]?).map fun x=>os.any fun a=>a.1==x.1).getD false
def simpleB (ss os:List (Int×Int×Int)):Bool:=!((List.range ss.length).any fun k=>dupAt ss k||inOver ss os k)
theorem dupAt_at {ss:List (Int×Int×Int)} {j:Nat} {x:Int×Int×Int} (h:ss[j]? =some x):dupAt ss j=(ss.take j).any fun a=>a.1==x.1:=by unfold dupAt;rw[h];rfl
theorem inOver_at {ss os:List (Int×Int×Int)} {j:Nat} {x:Int×Int×Int} (h:ss[j]? =some x):inOver ss os j=os.any fun a=>a.1==x.1:=by unfold inOver;rw[h];rfl
theorem dup_iff {ss:List (Int×Int×Int)} {j:Nat}:dupAt ss j=true↔∃(i:Nat) (x y:Int×Int×Int),i<j∧ss[i]? =some y∧ss[j]? =some x∧y.1=x.1:=by
 constructor
 · intro h;cases hx:ss[j]? with
   |none=>unfold dupAt at h;rw[hx] at h;cases h
   |some x=>
    rw[dupAt_at hx,List.any_eq_true] at h;obtain⟨y,hy,he⟩:=h;obtain⟨i,hi⟩:=List.getElem?_of_mem hy;rw[List.getElem?_take] at hi;split at hi
    · exact⟨i,x,y,by assumption,hi,rfl,beq_iff_eq.1 he⟩
    · cases hi
 · rintro⟨i,x,y,hij,hi,hj,he⟩;rw[dupAt_at hj,List.any_eq_true];exact⟨y,List.mem_of_getElem? (by rw[List.getElem?_take,if_pos hij];exact hi),beq_iff_eq.2 he⟩
theorem in_iff {ss os:List (Int×Int×Int)} {j:Nat}:inOver ss os j=true↔∃x y,ss[j]? =some x∧y ∈ os∧y.1=x.1:=by
 constructor
 · intro h;cases hx:ss[j]? with
   |none=>unfold inOver at h;rw[hx] at h;cases h
   |some x=>
    rw[inOver_at hx,List.any_eq_true] at h;obtain⟨y,hy,he⟩:=h;exact⟨x,y,rfl,hy,beq_iff_eq.1 he⟩
 · rintro⟨x,y,hj,hy,he⟩;rw[inOver_at hj,List.any_eq_true];exact⟨y,hy,beq_iff_eq.2 he⟩
def Once (ss:List (Int×Int×Int)):Prop:=∀(i j:Nat) (x y:Int×Int×Int),i<j→ss[i]? =some y→ss[j]? =some x→y.1≠x.1
theorem simple_iff {ss os:List (Int×Int×Int)}:simpleB ss os=true↔Once ss∧∀x ∈ ss,∀y ∈ os,y.1≠x.1:=by
 unfold simpleB;rw[Bool.not_eq_true',List.any_eq_false];constructor
 · intro h;refine⟨fun i j x y hij hi hj he=>h j (List.mem_range.2 (List.getElem?_eq_some_iff.1 hj).1) (by rw[dup_iff.2 ⟨i,x,y,hij,hi,hj,he⟩,Bool.true_or]),fun x hx y hy he=>?_⟩;obtain⟨j,hj⟩:=List.getElem?_of_mem hx;exact h j (List.mem_range.2 (List.getElem?_eq_some_iff.1 hj).1) (by rw[in_iff.2 ⟨x,y,hj,hy,he⟩,Bool.or_true])
 · rintro⟨h1,h2⟩ j _ hd;rw[Bool.or_eq_true] at hd;rcases hd with hd|hd
   · obtain⟨i,x,y,hij,hi,hj,he⟩:=dup_iff.1 hd;exact h1 i j x y hij hi hj he
   · obtain⟨x,y,hj,hy,he⟩:=in_iff.1 hd;exact h2 x (List.mem_of_getElem? hj) y hy he
def sigAt (l:Lay) (x:Int×Int×Int):Bool:=decide (0≤signalV l x.1 x.2.1)
def passV (l:Lay) (ss:List (Int×Int×Int)):Bool:=(ss.drop 1).any (sigAt l)
def beginV (l:Lay) (p:Pth):Bool:=match p.ss.head?,l.sigs[p.s.toNat]? with
 |some x,some y=>x.1==y.1&&x.2.1==y.2
 |_,_=>false
def endV (l:Lay) (p:Pth):Bool:=match p.ss.getLast?,l.exits[p.x.toNat]? with
 |some x,some y=>x.1==y.s&&x.2.2==y.q
 |_,_=>false
def sizeP (ss:List (Int×Int×Int)):Bool:=decide (1≤ss.length)&&decide (ss.length≤12)
def isPathV (l:Lay) (p:Pth):Bool:=sizeP p.ss&&(goesS l p.ss&&(beginV l p&&(endV l p&&(simpleB p.ss (overL10 l p.x)&& !passV l p.ss))))
def knownV (l:Lay) (p:Pth):Bool:=(decide (0≤p.s)&&decide (p.s<l.sigs.length))&&(decide (0≤p.x)&&decide (p.x<l.exits.length))
def noVia (l:Lay) (v:Int):Bool:=!(decide (0≤v)&&decide (v<l.secs.length))
def viasV (l:Lay) (vs:List Int):Bool:=decide (vs.length≤2)&& !(vs.any (noVia l))
def check11 (l:Lay) (p:Pth) (vs:List Int):Int:=if (rightT l&&(knownV l p&&viasV l vs))=true then (if (isPathV l p&&Zs (secsS p.ss) vs)=true then 0 else 110) else 2
theorem check11_ok {l:Lay} {p:Pth} {vs:List Int}:check11 l p vs=0↔(rightT l=true∧knownV l p=true∧viasV l vs=true)∧isPathV l p=true∧Zs (secsS p.ss) vs=true:=by
 unfold check11;constructor
 · intro h;split at h
   · rename_i h1
     split at h
     · rename_i h2
       simp only[Bool.and_eq_true] at h1 h2;exact⟨h1,h2⟩
     · cases h
   · cases h
 · rintro⟨⟨h1,h2,h3⟩,h4,h5⟩;rw[h1,h2,h3,h4,h5];rfl
def sameP (p q:Pth):Bool:=p.s==q.s&&(p.x==q.x&&decide (p.ss=q.ss))
def ofS (l:Lay):List (Int×Int×Int)→Int→List (Int×Int×Int)
 |[],_=>[]
 |s::r,k=>wantsV l s.1 s.2.1 s.2.2 k++ofS l r (k+1)
def ofO (l:Lay) (os:List (Int×Int×Int)) (k:Int):List (Int×Int×Int):=os.flatMap (fun s=>wantsV l s.1 s.2.1 s.2.2 k)
def ofV (l:Lay) (p:Pth):List (Int×Int×Int):=ofS l p.ss 0++ofO l (overL10 l p.x) p.ss.length
def clashN (ns:List (Int×Int×Int)):Bool:=ns.any (fun a=>ns.any (fun b=>a.1==b.1&&a.2.1 != b.2.1))
theorem clash_iff {ns:List (Int×Int×Int)}:clashN ns=true↔∃a ∈ ns,∃b ∈ ns,a.1=b.1∧a.2.1≠b.2.1:=by
 unfold clashN;simp only[List.any_eq_true,Bool.and_eq_true,beq_iff_eq,bne_iff_ne]
theorem clash_sub {ns ms:List (Int×Int×Int)} (h:∀a ∈ ns,a ∈ ms) (hc:clashN ns=true):clashN ms=true:=by
 obtain⟨a,ha,b,hb,h1,h2⟩:=clash_iff.1 hc;exact clash_iff.2 ⟨a,h a ha,b,h b hb,h1,h2⟩
def atN (ns:List (Int×Int×Int)) (p:Int):Option (Int×Int×Int):=ns.find? (fun a=>a.1==p)
theorem at_some {ns:List (Int×Int×Int)} {p:Int} {a:Int×Int×Int} (h:atN ns p=some a):a ∈ ns∧a.1=p:=⟨List.mem_of_find?_eq_some h,by have :=List.find?_some h;simpa using this⟩
theorem at_none {ns:List (Int×Int×Int)} {p:Int}:atN ns p=none↔∀a ∈ ns,a.1≠p:=by
 unfold atN;rw[List.find?_eq_none];simp
end
section
open Go.RowKit Go.Shelf
theorem ne_of_at {α:Type} {l m:List α} {j:Nat} {x y:α} (hx:l[j]? =some x) (hy:m[j]? =some y) (hne:x≠y):l≠m:=fun e=>by
 subst e;rw[hx] at hy;exact hne (Option.some.inj hy)
theorem take_next {α:Type} {l m:List α} {j:Nat} {x:α} (h:l.take j=m.take j) (hx:l[j]? =some x) (hy:m[j]? =some x):l.take (j+1)=m.take (j+1):=by
 rw[List.take_add_one,List.take_add_one,h,hx,hy]
theorem take_done {α:Type} {l m:List α} (hl:l.length=m.length) (h:l.take l.length=m.take l.length):l=m:=by
 rw[List.take_length,hl,List.take_length] at h;exact h
theorem neq_stpD (w:World) (a b c a' b' c':Int):(binOp .neq 66 (stpV a b c) (stpV a' b' c')).run Tryz.prog w= .ok (.bool (!decide ((a,b,c)=(a',b',c')))) w:=by
 rw[run_neq_struct,eq_stp];have :(a==a'&&(b==b'&&c==c'))=decide ((a,b,c)=(a',b',c')):=by rw[Bool.eq_iff_iff];simp
 rw[this];rfl
section
variable {P:World→Prop} {w:World}
theorem stepsR_P (hP:Closed P) {a b:List (Int×Int×Int)} {A B:Option Addr} (ca cb:Nat) (hA:∀w,P w→Row w w.heap.size A (a.flatMap Ze)) (hB:∀w,P w→Row w w.heap.size B (b.flatMap Ze)) (hn:(a.length:Int)≤9223372036854775807) {r:Bool} (hr:decide (a=b)=r) (h:P w):
 Calls Tryz.prog 38 #[.slice A a.length ca,.slice B b.length cb] w fun e w'=>e= .returned (.bool r)∧P w':=by
 have HR:=Zz hr
 have HQ:=Zz hP
 have HA0:=Zz hA
 have HB0:=Zz hB
 have hq:=h
 clear hr hP hA hB h
 by_cases hlen:a.length=b.length
 · have HLe:=Zz hlen;have hm:∀j,j<a.length→j<b.length:=fun j hj=>hlen ▸ hj;rw[←hlen];clear hlen;go_enter Tryz.func38,Tryz.ntmps38;go_wp2_with fail;go_loopw [5] (fun i wr=>∃j:Nat,j≤a.length∧i= .int .i64 j∧P wr∧Hid (a.take j=b.take j)) (fun i _=>a.length - (intOf i).toNat)
   case atStart=>exact⟨0,by omega,rfl,hq,Zz rfl⟩
   case round=>
    clear hq;obtain⟨j,hj,rfl,hq,HNo⟩:=hrel;by_cases hlt:j<a.length
    · have hlt':(j:Int)<a.length:=by omega
      obtain⟨⟨x1,x2,x3⟩,hx⟩:∃x,a[j]? =some x:=⟨_,List.getElem?_eq_getElem hlt⟩;obtain⟨⟨y1,y2,y3⟩,hy⟩:∃y,b[j]? =some y:=⟨_,List.getElem?_eq_getElem (hm j hlt)⟩;obtain⟨o1,o2,HA,HC0,HC⟩:=row_at (n:=3) (fun _=>rfl) (by omega) HA0.out hq hx;obtain⟨p1,p2,HB,HD0,HD⟩:=row_at (n:=3) (fun _=>rfl) (by omega) HB0.out hq hy;have HX:=Zz hx;have HY:=Zz hy;clear hx hy;obtain rfl:=HA.out;obtain rfl:=HB.out;clear HA HB;obtain⟨bb,hbb⟩:∃z,decide ((x1,x2,x3)=(y1,y2,y3))=z:=⟨_,rfl⟩;have hneq:=fun W=>neq_stpD W x1 x2 x3 y1 y2 y3;rw[hbb] at hneq;cases bb
      · have HF:Hid (false=r):=Zz (by rw[←HR.out];exact(decide_eq_false (ne_of_at HX.out HY.out (of_decide_eq_false hbb))).symm);clear hbb;go_wp2_with fail;have HBS:Hid (∀W,Below wr.heap.size wr W→P W):=Zz (fun W hB=>HQ.out _ _ hq hB);clear hq;refine rmx wr f9 (by kernel_rfl) (by kernel_rfl) ?_;simp only[Zg,f9,Lm,Ln];repeat ((first|(refine Zb (by rfl) ?_)|(refine mrd HBS _ (by rfl) (fun W hW=>by(have c0:=HC0.out _ hW j _ _ HX.out rfl;have c1:=HC.out _ hW j _ 1 _ HX.out rfl;have c2:=HC.out _ hW j _ 2 _ HX.out rfl;have d0:=HD0.out _ hW j _ _ HY.out rfl;have d1:=HD.out _ hW j _ 1 _ HY.out rfl;have d2:=HD.out _ hW j _ 2 _ HY.out rfl;go_simp;first|done|with_reducible rfl)) ?_));simp only[Act.put,La,Lb,Lc])
        refine Zd (fun W hW=>?_);have hq:=HBS.out W hW;clear hW HBS;go_wp2_with fail;go_ret;exact⟨Zc HF.out,hq⟩
      · have HN:Hid (a.take (j+1)=b.take (j+1)):=Zz (take_next HNo.out HX.out (by rw[of_decide_eq_true hbb];exact HY.out));clear hbb;go_wp2_with fail;have HBS:Hid (∀W,Below wr.heap.size wr W→P W):=Zz (fun W hB=>HQ.out _ _ hq hB);clear hq;refine rmx wr f9 (by kernel_rfl) (by kernel_rfl) ?_;simp only[Zg,f9,Lm,Ln];repeat ((first|(refine Zb (by rfl) ?_)|(refine mrd HBS _ (by rfl) (fun W hW=>by(have c0:=HC0.out _ hW j _ _ HX.out rfl;have c1:=HC.out _ hW j _ 1 _ HX.out rfl;have c2:=HC.out _ hW j _ 2 _ HX.out rfl;have d0:=HD0.out _ hW j _ _ HY.out rfl;have d1:=HD.out _ hW j _ 1 _ HY.out rfl;have d2:=HD.out _ hW j _ 2 _ HY.out rfl;go_simp;first|done|with_reducible rfl)) ?_));simp only[Act.put,La,Lb,Lc])
        refine Zd (fun W hW=>?_);have hq:=HBS.out W hW;clear hW HBS;go_wp2_with fail;go_roundw
        case rel=>exact⟨j+1,hlt,by go_num,hq,HN⟩
        case measure=>simp[intOf];omega
    · obtain rfl:j=a.length:=by omega
      have HF:Hid (true=r):=Zz (by rw[←HR.out];exact(decide_eq_true (take_done HLe.out HNo.out)).symm);go_wp2_with fail;go_ret;exact⟨Zc HF.out,hq⟩
 · have HF:Hid (false=r):=Zz (by rw[←HR.out];exact(decide_eq_false (fun e=>hlen (by rw[e]))).symm);have hlen':((a.length:Int) != (b.length:Int))=true:=by rw[bne_iff_ne];omega
   clear hlen;go_enter Tryz.func38,Tryz.ntmps38;go_wp2_with fail;go_ret;exact⟨Zc HF.out,hq⟩
end
section
variable {P:World→Prop} {w:World}
end
end
section
open Go.RowKit Go.Shelf
section
variable {l:Lay} {w:World}
end
section
variable {P:Program} {ops:Array Oper} {B S:World→Prop} {L:(World→Prop)→Act→Prop} {o:Oper} {l:List (Oper×Bool)} {a:Act}
end
end
section
open Go.RowKit Go.Shelf
section
variable {P:World→Prop} {w:World}
end
theorem infoNeed:(Tryz.prog.info? 100).map (fun i=>(i.zero,i.size,i.bytes))=some (some (.agg #[.int .i64 0,.int .i64 0,.int .i64 0]),3,24):=by kernel_rfl
theorem oneNeed (x:Int×Int×Int):∀u ∈ Zi x,u.oneCell'=true:=by intro u hu;simp at hu;rcases hu with rfl|rfl|rfl <;> rfl
theorem append_need (base n:Nat) (v:Value) (xs:List Value) (x:Int×Int×Int) (w:World) (a:Nat) (hown:w.ownsRow base 100 3 v n xs) (hc:Whole w a 100 (Zi x)) (hn:n≤1000) (hbase:base≤w.heap.size):
 ∃v' w',(Builtin.append_ #[76,76] 76 #[v,.slice (some ⟨a,0,none⟩) 1 1]).run Tryz.prog w= .ok v' w'∧w'.ownsRow base 100 3 v' (n+1) (xs++Zi x)∧w.grownBy w' v.ownBlock∧Below base w w'∧(v'.ownBlock=v.ownBlock∨v'.ownBlock=some w.heap.size):=by
 obtain⟨i,i1,i2,i3,i4⟩:=info_parts infoNeed
 obtain⟨v',w',r1,r2,r3,r4,r5⟩:=run_append_own_at (P:=Tryz.prog) w base 76 76 100 i (.agg #[.int .i64 0,.int .i64 0,.int .i64 0]) 3 24 Tryz.underlying76 i1 i2 i3 i4 rfl (by omega) v n xs hown ⟨a,0,none⟩ 1 1 (Zi x) rfl (row_add (hc.row hc.lt)) (oneNeed x) (by unfold maxLen;omega) (by omega) hbase
 exact⟨v',w',r1,r2,r3,(Below.refl base w).grown r3 hbase (fun k e=>(hown.lt k e).1),r5⟩
theorem first_le (l:Lay) (s i o k:Int):(firstV l s i o k).length≤1:=by unfold firstV;split <;> simp
def at13 (ns:List (Int×Int×Int)) (p:Int):Int×Bool:=((atN ns p).map fun a=>(a.2.1,true)).getD (0,false)
section
variable {P:World→Prop} {w:World}
end
section
variable {P:World→Prop} {w:World}
end
theorem pointB_any {l:Lay} {w:World} (hT:Shapes w) (hL:Lies l w) (s i o:Int) {r:Int×Int×Bool} (hr:pointV l s i o=r):Calls Tryz.prog 172 #[l.val,stpV s i o] w fun e w'=>e= .returned (.tuple #[.int .i64 r.1,.int .i64 r.2.1,.bool r.2.2])∧Below w.heap.size w w':=by
 subst hr;obtain⟨Q,HQ,HQb,HQl,HQv,hq⟩:=keep_box2 (Closed.below w) (Below.refl _ w) 29 66 l.cells (Ze (s,i,o));have HTW:Hid (∀W,Q W→Shapes W∧Lies l W):=Zz fun W hW=>⟨Shapes.closed _ _ hT (HQb.out W hW),Lies.closed l _ _ hL (HQb.out W hW)⟩;rcases point_cases l s i o with ⟨h1,h2⟩|⟨j,y,rfl,hy,h1,hk,h2⟩|⟨j,y,rfl,hy,h1,hk,hg,h2⟩
 · rw[h2];have KS:=Zz (fun W hW=>keepR HQ.out (step_B (HTW.out W hW).1 (HTW.out W hW).2 s i o rfl h1) hW);generalize wayK (Zu l s) i o=v at *;clear hT hL h1 h2;have hW:=hq;obtain⟨x0,x1,x2,x3,x4,x5,x6,x7,x8,x9,x10⟩:=(HQl.out _ hW).c11;obtain⟨v0,v1,v2⟩:=(HQv.out _ hW).c3;clear hW;go_enter Tryz.func172,Tryz.ntmps172;go_wp2_with fail;refine(KS.out _ hq).mono ?_;clear x0 x1 x2 x3 x4 x5 x6 x7 x8 x9 x10 v0 v1 v2 hq;rintro e w1 ⟨rfl,hq⟩;go_wp2_with fail;refine bodyPost_ret (v:=.tuple #[.int .i64 0,.int .i64 0,.bool false]) (by simp[results,Tryz.f172,go_sem]) rfl ⟨rfl,HQb.out _ hq⟩
 · rw[h2];have KS:=Zz (fun W hW=>keepR HQ.out (step_B (HTW.out W hW).1 (HTW.out W hW).2 j i o rfl h1) hW);generalize wayK (Zu l j) i o=v at *;have HC:Hid (∃b off,l.As=some ⟨b,off,none⟩∧∀W,Q W→∀(k:Nat) (v:Value),y.cells[k]? =some v→W.cell? ⟨b,off+j*11+k,none⟩=some v):=Zz (by
    obtain⟨b,off,hA,_,hc0,hc⟩:=(HTW.out _ hq).2.secs.nth (n:=11) Sec.len (by omega) hy;refine⟨b,off,hA,fun W hW=>?_⟩;obtain⟨b',off',hA',_,hc0,hc⟩:=(HTW.out _ hW).2.secs.nth (n:=11) Sec.len (by omega) hy;rw[hA] at hA';cases hA';exact fun k v hv=>hc j y k v hy hv);obtain⟨b,off,hA,hC⟩:=HC.out;have hlt:(j:Int)<l.secs.length:=by have :=(List.getElem?_eq_some_iff.1 hy).1;omega
   have HCC:=Zz hC;have HA:=Zz hA;have hk2:(y.k != 2)=true:=by simp[hk]
   clear hT hL h1 h2 hC hA hy hk HC;have hW:=hq;obtain⟨x0,x1,x2,x3,x4,x5,x6,x7,x8,x9,x10⟩:=(HQl.out _ hW).c11;obtain⟨v0,v1,v2⟩:=(HQv.out _ hW).c3;clear hW;go_enter Tryz.func172,Tryz.ntmps172;go_wp2_with fail;refine(KS.out _ hq).mono ?_;clear x0 x1 x2 x3 x4 x5 x6 x7 x8 x9 x10 v0 v1 v2 hq;rintro e w1 ⟨rfl,hq⟩;have x0:=(HQl.out _ hq).Za 0 rfl;have v0:=(HQv.out _ hq).Za 0 rfl;have c0:=HCC.out _ hq 0 _ rfl;simp only[Nat.add_zero] at c0;rw[HA.out] at x0;go_wp2_with fail;refine bodyPost_ret (v:=.tuple #[.int .i64 0,.int .i64 0,.bool false]) (by simp[results,Tryz.f172,go_sem]) rfl ⟨rfl,HQb.out _ hq⟩
 · rw[h2];have KS:=Zz (fun W hW=>keepR HQ.out (step_B (HTW.out W hW).1 (HTW.out W hW).2 j i o rfl h1) hW);generalize wayK (Zu l j) i o=v at *;have HC:Hid (∃b off,l.As=some ⟨b,off,none⟩∧∀W,Q W→∀(k:Nat) (v:Value),y.cells[k]? =some v→W.cell? ⟨b,off+j*11+k,none⟩=some v):=Zz (by
    obtain⟨b,off,hA,_,hc0,hc⟩:=(HTW.out _ hq).2.secs.nth (n:=11) Sec.len (by omega) hy;refine⟨b,off,hA,fun W hW=>?_⟩;obtain⟨b',off',hA',_,hc0,hc⟩:=(HTW.out _ hW).2.secs.nth (n:=11) Sec.len (by omega) hy;rw[hA] at hA';cases hA';exact fun k v hv=>hc j y k v hy hv);obtain⟨b,off,hA,hC⟩:=HC.out;have hlt:(j:Int)<l.secs.length:=by have :=(List.getElem?_eq_some_iff.1 hy).1;omega
   have HCC:=Zz hC;have HA:=Zz hA;have HK:=Zz hk;have KP:=Zz (fun W hW=>pos_P (P:=Q) (w:=W) HQ.out (fun W hW=>(HTW.out W hW).1) 2 i o (by omega) (by omega) (shapeK 2) (pos_two hg) hg hW);generalize wayK 2 i o=wv at *;clear hT hL h1 h2 hC hA hy hk HC hg;have hW:=hq;obtain⟨x0,x1,x2,x3,x4,x5,x6,x7,x8,x9,x10⟩:=(HQl.out _ hW).c11;obtain⟨v0,v1,v2⟩:=(HQv.out _ hW).c3;clear hW;go_enter Tryz.func172,Tryz.ntmps172;go_wp2_with fail;refine(KS.out _ hq).mono ?_;clear x0 x1 x2 x3 x4 x5 x6 x7 x8 x9 x10 v0 v1 v2 hq;rintro e w1 ⟨rfl,hq⟩;have x0:=(HQl.out _ hq).Za 0 rfl;have v0:=(HQv.out _ hq).Za 0 rfl;have c0:=HCC.out _ hq 0 _ rfl;simp only[Nat.add_zero] at c0;rw[HA.out] at x0;rw[HK.out] at c0;have v1:=(HQv.out _ hq).Za 1 rfl;have v2:=(HQv.out _ hq).Za 2 rfl;go_wp2_with fail;refine(KP.out _ hq).mono ?_;clear x0 v0 v1 v2 c0 hq;rintro e w2 ⟨rfl,hq⟩;have v0:=(HQv.out _ hq).Za 0 rfl;go_wp2_with fail;refine bodyPost_ret (v:=.tuple #[.int .i64 (j:Int),.int .i64 wv,.bool true]) (by simp[results,Tryz.f172,go_sem]) rfl ⟨rfl,HQb.out _ hq⟩
theorem classB_any {l:Lay} {w:World} (hT:Shapes w) (hL:Lies l w) (s i o:Int) {r:Int} (hr:classV l s i o=r):Calls Tryz.prog 208 #[l.val,stpV s i o] w fun e w'=>e= .returned (.int .i64 r)∧Below w.heap.size w w':=by
 subst hr;obtain⟨Q,HQ,HQb,HQl,HQv,hq⟩:=keep_box2 (Closed.below w) (Below.refl _ w) 29 66 l.cells (Ze (s,i,o));have HTW:Hid (∀W,Q W→Shapes W∧Lies l W):=Zz fun W hW=>⟨Shapes.closed _ _ hT (HQb.out W hW),Lies.closed l _ _ hL (HQb.out W hW)⟩;rcases class_cases l s i o with ⟨h1,h2⟩|⟨j,y,e,rfl,hy,h1,hw,he,h2⟩
 · rw[h2];have KS:=Zz (fun W hW=>keepR HQ.out (step_B (HTW.out W hW).1 (HTW.out W hW).2 s i o rfl h1) hW);generalize wayK (Zu l s) i o=v at *;clear hT hL h1 h2;have hW:=hq;obtain⟨x0,x1,x2,x3,x4,x5,x6,x7,x8,x9,x10⟩:=(HQl.out _ hW).c11;obtain⟨v0,v1,v2⟩:=(HQv.out _ hW).c3;clear hW;go_enter Tryz.func208,Tryz.ntmps208;go_wp2_with fail;refine(KS.out _ hq).mono ?_;clear x0 x1 x2 x3 x4 x5 x6 x7 x8 x9 x10 v0 v1 v2 hq;rintro e w1 ⟨rfl,hq⟩;go_wp2_with fail;go_ret;exact⟨rfl,HQb.out _ hq⟩
 · generalize classV l j i o=r at *;have KS:=Zz (fun W hW=>keepR HQ.out (step_B (HTW.out W hW).1 (HTW.out W hW).2 j i o hw h1) hW);have HC:Hid (∃b off,l.As=some ⟨b,off,none⟩∧∀W,Q W→∀(k:Nat) (v:Value),y.cells[k]? =some v→W.cell? ⟨b,off+j*11+k,none⟩=some v):=Zz (by
    obtain⟨b,off,hA,_,hc0,hc⟩:=(HTW.out _ hq).2.secs.nth (n:=11) Sec.len (by omega) hy;refine⟨b,off,hA,fun W hW=>?_⟩;obtain⟨b',off',hA',_,hc0,hc⟩:=(HTW.out _ hW).2.secs.nth (n:=11) Sec.len (by omega) hy;rw[hA] at hA';cases hA';exact fun k v hv=>hc j y k v hy hv);obtain⟨b,off,hA,hC⟩:=HC.out;have hlt:(j:Int)<l.secs.length:=by have :=(List.getElem?_eq_some_iff.1 hy).1;omega
   have HCC:=Zz hC;have HA:=Zz hA;have HCL:Hid (∀W,Q W→W.cell? ⟨b,off+j*11+9+e,none⟩=some (.int .i64 r)):=Zz (fun W hW=>by
    match e,he,h2 with
    |0,_,h2=>cases h2;exact HCC.out W hW 9 _ rfl
    |1,_,h2=>cases h2;exact HCC.out W hW 10 _ rfl);have he':(e:Int)<2:=by omega
   clear hT hL h1 h2 hC hA hy HC hw;have hW:=hq;obtain⟨x0,x1,x2,x3,x4,x5,x6,x7,x8,x9,x10⟩:=(HQl.out _ hW).c11;obtain⟨v0,v1,v2⟩:=(HQv.out _ hW).c3;clear hW;go_enter Tryz.func208,Tryz.ntmps208;go_wp2_with fail;refine(KS.out _ hq).mono ?_;clear x0 x1 x2 x3 x4 x5 x6 x7 x8 x9 x10 v0 v1 v2 hq;rintro e w1 ⟨rfl,hq⟩;have x0:=(HQl.out _ hq).Za 0 rfl;have v0:=(HQv.out _ hq).Za 0 rfl;have c0:=HCL.out _ hq;rw[HA.out] at x0;go_wp2_with fail;go_ret;exact⟨rfl,HQb.out _ hq⟩
end
section
open Go.RowKit Go.Shelf
attribute [local go_sem] Oper.semAt_some
theorem flanks_any (l:Lay) (s i o:Int) (w:World):Calls Tryz.prog 173 #[l.val,stpV s i o] w fun e w'=>e= .returned (.func (.func 198) #[] #[.pointer (some ⟨w.heap.size,0,none⟩),.pointer (some ⟨w.heap.size+1,0,none⟩)]) ∧
 w'=(w.alloc (.cells #[.slice l.As l.secs.length l.cs,.slice l.Ag l.sigs.length l.cg,.slice l.Ae l.exits.length l.ce,.slice l.Af l.flanks.length l.cf,.int .i64 l.t0,.int .i64 l.t1,.int .i64 l.t2,.int .i64 l.t3,.int .i64 l.t4,.int .i64 l.t5,.int .i64 l.t6] 29)).alloc (.cells #[.int .i64 s,.int .i64 i,.int .i64 o] 66):=by
 go_enter Tryz.func173,Tryz.ntmps173
 go_wp2_with fail
 go_ret
 exact⟨rfl,rfl⟩
theorem filter_hit {α:Type} {p:α→Bool} {l:List α} {j:Nat} {x:α} (h:l[j]? =some x) (hp:p x=true):(l.drop j).filter p=x::(l.drop (j+1)).filter p:=by rw[drop_at h,List.filter_cons_of_pos hp]
theorem filter_miss {α:Type} {p:α→Bool} {l:List α} {j:Nat} {x:α} (h:l[j]? =some x) (hp:p x=false):(l.drop j).filter p=(l.drop (j+1)).filter p:=by rw[drop_at h,List.filter_cons_of_neg (by simp[hp])]
theorem flanks_iter {wa w0:World} {g1 g2:Nat} {l:Lay} {s i o:Int} (hT:Shapes wa) (hL:Lies l wa) (hka:Keeps (· <wa.heap.size) wa w0) (hsa:wa.heap.size≤w0.heap.size) (hb1:Whole w0 g1 29 l.cells) (hb2:Whole w0 g2 66 (Ze (s,i,o))):
 IterU Tryz.prog 198 #[.pointer (some ⟨g1,0,none⟩),.pointer (some ⟨g2,0,none⟩)] (fun f:Int×Int×Int×Int=>#[(flkV f.1 f.2.1 f.2.2.1 f.2.2.2)]) (flanksV l s i o) (fun k=>k<wa.heap.size∨(k=g1∨k=g2)) w0:=by
 intro L J Jx W hk0 hRl hJ hJx hY h0
 have hnW:wa.heap.size≤W.heap.size:=Nat.le_of_not_lt fun hlt=>absurd (hRl _ (.inl hlt)) (Nat.lt_irrefl _)
 have HF:Hid (∀W',Keeps (fun k=>k<wa.heap.size∨(k=g1∨k=g2)) w0 W'→W.heap.size≤W'.heap.size→Shapes W'∧Lies l W'):=Zz fun W' hk hs=>
  have hk':=hka.trans (hk.sub fun k h=>.inl h)
  ⟨hT.keeps hk' (fun _ h=>h),hL.keeps hk' (fun _ h=>h) (Nat.le_trans hnW hs)⟩
 have HB1:Hid (∀W',Keeps (fun k=>k<wa.heap.size∨(k=g1∨k=g2)) w0 W'→Whole W' g1 29 l.cells):=Zz fun W' hk=>hk.whole (.inr (.inl rfl)) hb1
 have HB2:Hid (∀W',Keeps (fun k=>k<wa.heap.size∨(k=g1∨k=g2)) w0 W'→Whole W' g2 66 (Ze (s,i,o))):=Zz fun W' hk=>hk.whole (.inr (.inr rfl)) hb2
 have hnF:=hL.nF
 obtain⟨xs,hxs⟩:∃xs,flanksV l s i o=xs:=⟨_,rfl⟩
 rw[hxs] at hY ⊢
 obtain⟨B,hB⟩:∃B,W.heap.size=B:=⟨_,rfl⟩
 have hs0:B≤W.heap.size:=by omega
 rw[hB] at HF hJ hJx hY
 obtain⟨st,hst⟩:∃st,stepV l s i o=st:=⟨_,rfl⟩
 obtain⟨wy,hwy⟩:∃wy,wayK (Zu l s) i o=wy:=⟨_,rfl⟩
 have HXS:Hid (l.flanks.filter (fun f=>st&&(decide (f.1=s)&&decide (f.2.1=wy)))=xs):=Zz (by rw[←hxs,←hst,←hwy];rfl)
 obtain⟨hTw,hLw⟩:=HF.out _ hk0 hs0
 have KS:=Zz (step_B hTw hLw s i o hwy hst)
 obtain⟨x0,x1,x2,x3,x4,x5,x6,x7,x8,x9,x10⟩:=(HB1.out _ hk0).c11
 obtain⟨v0,v1,v2⟩:=(HB2.out _ hk0).c3
 clear hT hL hka hb1 hb2 hRl hxs hnW hB hst hwy hTw hLw
 refine(callsIn_wide (n:=3)).1 ?_
 refine callsIn_of_wp Tryz.func198 rfl trivial ?_ rfl
 simp only[Tryz.ntmps198,Ld,Le,Lf,Nat.reduceAdd,Nat.reduceSub,Lg,Lh,Li,Lj,Lk,Ll]
 gi_wp2_with fail
 refine⟨trivial,(callsIn_wide.2 KS.out).mono ?_⟩
 clear KS x0 x1 x2 x3 x4 x5 x6 x7 x8 x9 x10 v0 v1 v2
 rintro e w1 ⟨rfl,hB1⟩
 have hJ1:=hJ _ _ _ _ h0 (Stays.below hB1)
 have hk1:=hk0.trans (Keeps.below hB1)
 have hs1:=Nat.le_trans hs0 hB1.size
 clear h0 hk0 hs0 hB1
 cases st
 · have HE:Hid (xs.length=0):=Zz (by rw[←HXS.out];simp);gi_wp2
   refine bodyPost_ret (results_none rfl _ _ _) rfl ?_;exact⟨⟨_,rfl⟩,fun _=>False,fun k h=>h.elim,.inl (by rw[HE.out];exact hJ1)⟩
 have x3:=(HB1.out _ hk1).Za 3 rfl
 gi_wp2_with fail
 clear x3
 gi_loopw [19] (fun i wr=>∃(j:Nat) (pre:List (Int×Int×Int×Int)) (U:Nat→Prop),j≤l.flanks.length∧i= .int .i64 j∧J U pre.length wr∧(∀k,U k→k<wr.heap.size)∧Keeps (fun k=>k<wa.heap.size∨(k=g1∨k=g2)) w0 wr∧B≤wr.heap.size∧Hid (pre++(l.flanks.drop j).filter (fun f=>true&&(decide (f.1=s)&&decide (f.2.1=wy)))=xs))
  (fun i _=>l.flanks.length - (intOf i).toNat)
 case atStart=>exact⟨0,[],fun _=>False,by omega,rfl,hJ1,fun k h=>h.elim,hk1,hs1,Zz (by rw[←HXS.out];rfl)⟩
 case round=>
  clear hJ1 hk1 hs1;obtain⟨j,pre,U,hj,rfl,hJj,hUl,hk,hs,HP⟩:=hrel;by_cases hlt:j<l.flanks.length
  · have hlt':(j:Int)<l.flanks.length:=by omega
    obtain⟨⟨f1,f2,f3,f4⟩,hx⟩:∃x,l.flanks[j]? =some x:=⟨_,List.getElem?_eq_getElem hlt⟩;obtain⟨b,off,hA,_,hc0,hc⟩:=(HF.out _ hk hs).2.flanks.nth (n:=4) (fun _=>rfl) (by omega) hx;have HX:=Zz hx;have c0:=hc0 j _ _ hx rfl;have c1:=hc j _ 1 _ hx rfl;have c2:=hc j _ 2 _ hx rfl;have c3:=hc j _ 3 _ hx rfl;clear hx hc0 hc;have hb4:=below1 wr (.cells #[.int .i64 f1,.int .i64 f2,.int .i64 f3,.int .i64 f4] 136);have hJ2:=hJ _ _ _ _ hJj (Stays.below hb4);have hk2:=hk.trans (Keeps.below hb4);have hs2:=Nat.le_trans hs hb4.size;have hU2:∀k,U k→k<(wr.alloc (.cells #[.int .i64 f1,.int .i64 f2,.int .i64 f3,.int .i64 f4] 136)).heap.size:=fun k h=>Nat.lt_of_lt_of_le (hUl k h) hb4.size;have v0:=(HB2.out _ hk2).Za 0 rfl;have hwi:IntKind.i64.wrap ((j:Int)+1)=(j:Int)+1:=IntWalk.i64_in _ (by omega);rw[hA];have HA:=Zz hA;clear hJj hk hs hUl hb4 hA;by_cases e1:f1=s
    · by_cases e2:f2=wy
      · have HP1:Hid (pre++((f1,f2,f3,f4)::(l.flanks.drop (j+1)).filter (fun f=>true&&(decide (f.1=s)&&decide (f.2.1=wy))))=xs):=Zz (by rw[←HP.out,filter_hit HX.out (by simp[e1,e2])]);clear HP;obtain⟨fn,tmps,assign,body,hy,hR⟩:=hY U pre.length _ _ (at_pre HP1.out) hJ2 hU2;have HR:=Zz hR;have HK2:=Zz hk2;clear hR hJ2 hk2;subst e1 e2;gi_wp2_with fail;refine RoundIn.mono (RoundIn.wide HR.out) ?_;clear HR hy v0 c0 c1 c2 c3;rintro e W3 ⟨U',hg',hk',(⟨rfl,hJ3⟩|⟨rfl,hJx3⟩)⟩
        · have hk3:=HK2.out.trans hk'.keeps;have hs3:=Nat.le_trans hs2 hk'.size;have hU3:=hg'.lt;clear hg' hk' HK2;gi_wp2_with fail;go_roundw
          case rel=>exact⟨j+1,pre++[_],U',hlt,by go_num,by rw[List.length_append];exact hJ3,hU3,hk3,hs3,Zz (push_pre HP1.out)⟩
          case measure=>simp[intOf];omega
        · have hU3:=hg'.lt;gi_wp2
          refine bodyPost_ret (results_none rfl _ _ _) rfl ?_;exact⟨⟨_,rfl⟩,U',hU3,.inr hJx3⟩
      · have HP1:Hid (pre++(l.flanks.drop (j+1)).filter (fun f=>true&&(decide (f.1=s)&&decide (f.2.1=wy)))=xs):=Zz (by rw[←HP.out,filter_miss HX.out (by simp[e2])]);have d1:(f1==s)=true:=by simp[e1]
        have d2:(f2==wy)=false:=by simp[e2]
        have HK2:=Zz (And.intro hJ2 (And.intro hU2 (And.intro hk2 hs2)));clear HP hY e1 e2 hJ2 hU2 hk2 hs2;gi_wp2_with fail;refine⟨fun f h=>(by cases h),?_⟩;gi_wp2_with fail;go_roundw
        case rel=>exact⟨j+1,pre,U,hlt,by go_num,HK2.out.1,HK2.out.2.1,HK2.out.2.2.1,HK2.out.2.2.2,HP1⟩
        case measure=>simp[intOf];omega
    · have HP1:Hid (pre++(l.flanks.drop (j+1)).filter (fun f=>true&&(decide (f.1=s)&&decide (f.2.1=wy)))=xs):=Zz (by rw[←HP.out,filter_miss HX.out (by simp[e1])]);have d1:(f1==s)=false:=by simp[e1]
      have HK2:=Zz (And.intro hJ2 (And.intro hU2 (And.intro hk2 hs2)));clear HP hY e1 hJ2 hU2 hk2 hs2;gi_wp2_with fail;refine⟨fun f h=>(by cases h),?_⟩;gi_wp2_with fail;go_roundw
      case rel=>exact⟨j+1,pre,U,hlt,by go_num,HK2.out.1,HK2.out.2.1,HK2.out.2.2.1,HK2.out.2.2.2,HP1⟩
      case measure=>simp[intOf];omega
  · obtain rfl:j=l.flanks.length:=by omega
    have HE:Hid (pre.length=xs.length):=Zz (by rw[←HP.out,List.drop_eq_nil_of_le (Nat.le_refl _)];simp);gi_wp2_with fail;go_end0
    exact⟨⟨_,rfl⟩,U,hUl,.inl (HE.out ▸ hJj)⟩
end
end Go.Proofs.YtifnlhfinjfajaaGreatDoor
