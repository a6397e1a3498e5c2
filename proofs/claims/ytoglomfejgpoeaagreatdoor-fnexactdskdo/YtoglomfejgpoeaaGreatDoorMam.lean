/-
  A sum gathers all terms that an iterator tells.
-/
import Derived.Test.YtoglomfejgpoeaaGreatDoorMal
set_option maxHeartbeats 4000000
set_option maxRecDepth 100000
namespace Go.Proofs.YtoglomfejgpoeaaGreatDoor
open Go.RowKit Go.Maps
set_option linter.unusedVariables false
attribute [local go_sem] Oper.semAt_some
abbrev TO:Type:={t:T // t.m.ok=true∧0≤t.c∧t.c≤100}
def FX (x:TO):Array Value:=#[.agg #[.int .i64 x.1.c,.int .i64 x.1.m.x,.int .i64 x.1.m.y,.int .i64 x.1.m.d,.int .i64 x.1.m.e]]
def gZ (c:M→Int) (xs:List TO):M→Int:=xs.foldl (fun c t=>gV c t.1.m t.1.c) c
theorem sK (c:M→Int) (xs:List TO) (x:TO):gZ c (xs++[x])=gV (gZ c xs) x.1.m x.1.c:=by simp[gZ]
theorem iD {α β:Type} (k:Nat) (f:α→List β) (h:∀x,(f x).length=k):∀l:List α,(l.flatMap f).length=l.length*k
 |[]=>by simp
 |x::r=>by rw[List.flatMap_cons,List.length_append,h,iD k f h r,List.length_cons,Nat.add_mul];omega
def bB (W:World) (Bx:Nat) (t:T):Prop:=W.heap[Bx]? =some (.cells #[.int .i64 t.c,.int .i64 t.m.x,.int .i64 t.m.y,.int .i64 t.m.d,.int .i64 t.m.e] 80 (0,0))
theorem bB.cells {W:World} {Bx:Nat} {t:T} (h:bB W Bx t):W.cell? ⟨Bx,0,none⟩=some (.int .i64 t.c)∧W.cell? ⟨Bx,1,none⟩=some (.int .i64 t.m.x)∧W.cell? ⟨Bx,2,none⟩=some (.int .i64 t.m.y)∧W.cell? ⟨Bx,3,none⟩=some (.int .i64 t.m.d)∧W.cell? ⟨Bx,4,none⟩=some (.int .i64 t.m.e):=by unfold bB at h;refine⟨?_,?_,?_,?_,?_⟩<;>(unfold World.cell?;simp only[h];rfl)
theorem eT {B Bx:Nat} {o:Obj} (ho:o.isCells=true) {X Y:World} {row:Option Nat} (h:X.heap[Bx]? =some o) (hg:X.grownBy Y row) (hr:∀r,row=some r→B≤r∧∃o:Obj,X.heap[r]? =some o∧o.isCells=false):Y.heap[Bx]? =some o:=
 (hg.block Bx (Array.getElem?_eq_some_iff.1 h).1 (fun e=>by obtain⟨_,o',ho',hc⟩:=hr Bx e.symm;rw[h]at ho';cases ho';rw[ho]at hc;cases hc)).trans h
def allM:List M:=(List.range 16).flatMap fun(x:Nat)=>(List.range 16).flatMap fun(y:Nat)=>(List.range 16).flatMap fun(d:Nat)=>(List.range 16).map fun(e:Nat)=>(⟨(x:Int),(y:Int),(d:Int),(e:Int)⟩:M)
theorem yY:allM.length=65536:=by unfold allM;rw[iD (16*(16*16)) _ (fun x=>by rw[iD (16*16) _ (fun y=>by rw[iD 16 _ (fun d=>by simp)];simp)];simp)];simp
theorem yZ {m:M} (h:m.ok=true):m∈allM:=by obtain⟨x1,x2,y1,y2,d1,d2,e1,e2⟩:=M.ok_iff.1 h;unfold allM;refine List.mem_flatMap.2 ⟨m.x.toNat,List.mem_range.2 (by omega),List.mem_flatMap.2 ⟨m.y.toNat,List.mem_range.2 (by omega),List.mem_flatMap.2 ⟨m.d.toNat,List.mem_range.2 (by omega),List.mem_map.2 ⟨m.e.toNat,List.mem_range.2 (by omega),?_⟩⟩⟩⟩;cases m;simp only at x1 y1 d1 e1⊢;rw[Int.toNat_of_nonneg x1,Int.toNat_of_nonneg y1,Int.toNat_of_nonneg d1,Int.toNat_of_nonneg e1]
theorem eF.cap {w:World} {b n:Nat} {c:M→Int} (h:eF w b n c):eF w b 65536 c:=by
 obtain⟨D,hown,hc,hat,hks⟩:=h;have hs:Maps.size D≤65536:=by rw[←yY];exact rU hown allM (fun kl hkl=>by obtain⟨m,hm,rfl⟩:=hks kl hkl;exact⟨m,yZ hm,rfl⟩)
 refine⟨D,?_,hc,hat,hks⟩;obtain⟨es,clock,h1,h2,h3,h4⟩:=hown;subst h4;rw[size_eq,length_read]at hs;exact⟨es,clock,h1,h2,hs,rfl⟩
theorem eF.lt {w:World} {b n:Nat} {c:M→Int} (h:eF w b n c):b<w.heap.size:=by obtain⟨D,ho,_⟩:=h;exact ho.lt
theorem eF.map {w:World} {b n:Nat} {c:M→Int} (h:eF w b n c):∀o,w.heap[b]? =some o→o.isCells=false:=by obtain⟨D,⟨es,clock,h1,_⟩,_⟩:=h;intro o ho;rw[h1]at ho;cases ho;rfl
theorem qB {w W W':World} {b:Nat} {row:Option Nat} (h:w.grownBy W (some b)) (hg:W.grownBy W' row) (hr:∀r,row=some r→w.heap.size≤r):w.grownBy W' (some b):=
 ⟨hg.os.trans h.os,hg.tape.trans h.tape,hg.output.trans h.output,gU h.size hg.size,fun k hk hne=>(hg.block k (dR hk h.size) (fun e=>by have:=hr k e.symm;omega)).trans (h.block k hk hne)⟩
theorem DL (w:World) (b:Nat) (c:M→Int) (h:eF w b 65536 c) (g:Nat) (lb:Array Value) (eg:∀args w,(callFunc g args).run Tryz.prog w= .ok (.enter g args) w) (xs:List TO) (hseq:FH Tryz.prog g lb FX xs w):Calls Tryz.prog 120 #[.map (some b),.func (.func g) #[] lb] w fun e w'=>e= .returned (.tuple #[])∧eF w' b 65536 (gZ c xs)∧w.grownBy w' (some b):=by
 have hblt:=h.lt;have HS:=aA h
 have HQ:=aA hseq;clear h hseq;refine(callsIn_wide (n:=9)).1 ?_;refine callsIn_of_wp_marks Tryz.func120 rfl trivial ?_ rfl;simp only[Tryz.ntmps120,List.size_toArray,List.length_cons,List.length_nil,Nat.reduceAdd,Nat.reduceSub,Array.replicate_succ,Array.replicate_zero,List.push_toArray,List.append_toArray,List.nil_append,List.cons_append]
 gi_wp2
 have bs:=Boxed.new w 101 (.map (some b));have hg0:=World.grownBy_alloc w (.cells #[.map (some b)] 101) (some b)
 have hS0:=HS.out.grown (World.grownBy_alloc w (.cells #[.map (some b)] 101) none) (by simp);have hbw:Below w.heap.size w (w.alloc (.cells #[.map (some b)] 101)):=(aD _ w).alloc (Nat.le_refl _) _
 have hs0:(w.alloc (.cells #[.map (some b)] 101)).heap.size=w.heap.size+1:=by simp
 generalize w.alloc (.cells #[.map (some b)] 101)=W0 at *
 refine GT (by decide) (gf:=g) (lb:=lb) rfl eg HQ.out hbw (fun _=>rfl)
  (fun(pre:List TO) W=>eF W b 65536 (gZ c pre)∧(Boxed W w.heap.size 101 (.map (some b))∧w.grownBy W (some b)))
  (OwnFrom.and (fun s X Y row hs hg hr=>hs.grown hg (fun e=>by have:=(hr b e.symm).1;omega)) (OwnFrom.and (Own.from (boxed_own _ _ (fun _=>Value.map (some b))) _) (fun s X Y row hs hg hr=>qB hs hg (fun r e=>by have:=(hr r e).1;omega))))
  ⟨hS0,bs,hg0⟩
  (fun x a' W=>∃Bx,bB W Bx x.1∧a'=({tmps:=#[.map (some b),.func (.func g) #[] lb,.pointer (some ⟨w.heap.size,0,none⟩),undef,.pointer (some ⟨Bx,0,none⟩),.func (.func g) #[] lb,.agg #[.int .i64 x.1.c,.int .i64 x.1.m.x,.int .i64 x.1.m.y,.int .i64 x.1.m.d,.int .i64 x.1.m.e],undef,undef,undef,undef,undef,undef],defers:=[]}:Act))
  (fun x a' _ X Y row hs hg hr=>by obtain⟨Bx,h2,h3⟩:=hs;exact⟨Bx,eT rfl h2 hg hr,h3⟩)
  ?assign ?body ?done
 case assign=>
  rintro l pre x W K' ⟨hS,bS,hgW⟩ hK';obtain⟨t,ht⟩:=x;dsimp only[FX]at hK'⊢
  gi_wp2
  exact hK' _ _ ((KeepsOthers.alloc _ _).from _) (bJ _ _) ⟨hS.grown (World.grownBy_alloc W _ none) (by simp),bS.alloc _,hgW.trans (World.grownBy_alloc W _ (some b))⟩ ⟨W.heap.size,World.alloc_heap_new W _,rfl⟩
 case body=>
  rintro l pre x a' W ⟨hS,bS,hgW⟩ ⟨Bx,hX,rfl⟩;obtain⟨t,hto,htc,htc'⟩:=x;dsimp only at hX⊢;obtain⟨x0,x1,x2,x3,x4⟩:=hX.cells;have cS:=bS.cell
  have HSS:=aA hS;clear hS
  gi_wp2_with (first
   |(refine⟨trivial,rfl,?_⟩;gi_at_call 85;(refine(CallsIn.inRound l (callsIn_wide.2 (rX b 65536 _ t.c t.m W hto HSS.out (by unfold maxLen;omega) htc htc'))).mono ?_;rintro e w' ⟨rfl,hs',hg'⟩))
   |gi_in)
  have hk:cellsK W w':=iK hg' (fun k e o ho=>by cases e;exact HSS.out.map o ho);refine⟨KeepsFrom.of_grownBy hg' (fun j e=>by cases e;omega),hk,?_,bQ bS hk,hgW.trans hg'⟩;rw[sK];exact hs'.cap
 case done=>
  rintro D W hD ⟨hS,bS,hgW⟩ hKd
  gi_wp2
  refine⟨by simp,.inl ⟨_,_,rfl,run_takeDeferred hKd,?_⟩⟩;exact⟨_,results_none rfl _ _ _,rfl,hS.grown (grownBy_putObj' W D (.deferred none)) (fun e=>by cases e;omega),qB hgW (grownBy_putObj' W D (.deferred none)) (fun r e=>by cases e;omega)⟩
end Go.Proofs.YtoglomfejgpoeaaGreatDoor
namespace Go.Proofs.YtoglomfejgpoeaaGreatDoor
open Go.RowKit
set_option linter.unusedVariables false
theorem pO {F:Fence} {n:Nat} {P:Program} {md:Region.Mode} {ops:Array Oper} {Q:Exit→Act→World→Prop} {I:Array Bool→Act→World→Prop} (hs:∀l a w,I l a w→∀i∈Region.ready md ops l,wpOpIn F n P ops Q i (I (l.setIfInBounds i true)) a w) (he:∀l a w,I l a w→Region.ready md ops l=[]→Q .normal a w):∀(fuel:Nat) (l:Array Bool) (a:Act) (w:World),eD l≤fuel→I l a w→wpAnyIn F n P md ops Q fuel l a w
 |0,l,a,w,hf,hI=>by
  have hr:Region.ready md ops l=[]:=by
   rw[List.eq_nil_iff_forall_not_mem];intro i hi;have h0:=bC (mem_ready.1 hi).1
   exact fM l.toList (by unfold eD at hf;omega) i (by simpa using h0)
  exact⟨hr,he l a w hI hr⟩
 |fuel+1,l,a,w,hf,hI=>by
  refine⟨fun hr=>he l a w hI hr,fun i hi=>?_⟩;have h0:=bC (mem_ready.1 hi).1
  have h1:=eE h0;exact wpOpIn_mono (fun a' w' h=>pO hs he fuel _ a' w' (by omega) h) (hs l a w hI i hi)
def RT (ops:Array Oper) (F:(Nat→Value)→Act) (P:Nat→Value→Prop) (n A:Nat) (w0:World) (Y Z:World→Value→Prop) (l:Array Bool) (a:Act) (u:World):Prop:=
 ∃vs:Nat→Value,a=F vs∧l.size=n∧cZ ops l∧(l.getD A false=false→u=w0∧∀k,l.getD k false=true→P k (vs k))∧(l.getD A false=true→l.getD (A+1) false=false→Y u (vs A))∧(l.getD (A+1) false=true→Z u (vs (A+1)))
theorem RT.start {ops:Array Oper} {F:(Nat→Value)→Act} {P:Nat→Value→Prop} {n A:Nat} {w0:World} {Y Z:World→Value→Prop} {a:Act} (vs:Nat→Value) (ha:a=F vs):RT ops F P n A w0 Y Z (Array.replicate n false) a w0:=
 ⟨vs,ha,by simp,cZ.start _ _,fun _=>⟨rfl,fun k h=>mK h⟩,fun h=>mK h,fun h=>mK h⟩
theorem RT.step {ops:Array Oper} {F:(Nat→Value)→Act} {P:Nat→Value→Prop} {n A:Nat} {w0:World} {Y Z:World→Value→Prop} {l:Array Bool} {vs:Nat→Value} (i:Nat) (v:Value) {a:Act} (hi:i∈Region.ready .any ops l) (hno:ops.size=n) (hA:l.getD A false=false) (hA1:l.getD (A+1) false=false) (hiA:i<A) (hl:l.size=n) (hcl:cZ ops l) (hf:∀k,l.getD k false=true→P k (vs k)) (hv:P i v) (ha:a=F (fun k=>if k=i then v else vs k)):RT ops F P n A w0 Y Z (l.setIfInBounds i true) a w0:=by
 refine⟨fun k=>if k=i then v else vs k,ha,by simp[hl],hcl.step hi (by omega),fun _=>⟨rfl,fun k hk=>?_⟩,fun h=>?_,fun h=>?_⟩
 ·by_cases hki:k=i
  ·have hv2:P k v:=by rw[hki];exact hv
   exact Eq.mpr (congrArg (fun z=>P k z) (if_pos hki)) hv2
  ·rw[getD_set_ne false (fun e=>hki e.symm)]at hk;exact Eq.mpr (congrArg (fun z=>P k z) (if_neg hki)) (hf k hk)
 ·rw[getD_set_ne false (by omega),hA]at h;cases h
 ·rw[getD_set_ne false (by omega),hA1]at h;cases h
theorem RT.last {ops:Array Oper} {F:(Nat→Value)→Act} {P:Nat→Value→Prop} {n A:Nat} {w0 u':World} {Y Z:World→Value→Prop} {l:Array Bool} {vs:Nat→Value} (v:Value) {a:Act} (hi:A∈Region.ready .any ops l) (hno:ops.size=n) (hAn:A<n) (hA1:l.getD (A+1) false=false) (hl:l.size=n) (hcl:cZ ops l) (hv:Y u' v) (ha:a=F (fun k=>if k=A then v else vs k)):RT ops F P n A w0 Y Z (l.setIfInBounds A true) a u':=by
 refine⟨fun k=>if k=A then v else vs k,ha,by simp[hl],hcl.step hi (by omega),fun h=>?_,fun _ _=>Eq.mpr (congrArg (fun z=>Y u' z) (if_pos rfl)) hv,fun h=>?_⟩
 ·rw[fE false (by omega)]at h;cases h
 ·rw[getD_set_ne false (by omega),hA1]at h;cases h
theorem RT.fin {ops:Array Oper} {F:(Nat→Value)→Act} {P:Nat→Value→Prop} {n A:Nat} {w0 u':World} {Y Z:World→Value→Prop} {l:Array Bool} {vs:Nat→Value} (v:Value) {a:Act} (hi:A+1∈Region.ready .any ops l) (hno:ops.size=n) (hA:l.getD A false=true) (hAn:A+1<n) (hl:l.size=n) (hcl:cZ ops l) (hz:Z u' v) (ha:a=F (fun k=>if k=A+1 then v else vs k)):RT ops F P n A w0 Y Z (l.setIfInBounds (A+1) true) a u':=by
 refine⟨_,ha,by simp[hl],hcl.step hi (by omega),fun h=>?_,fun _ h=>?_,fun _=>Eq.mpr (congrArg (fun z=>Z u' z) (if_pos rfl)) hz⟩
 ·rw[getD_set_ne false (by omega),hA]at h;cases h
 ·rw[fE false (by omega)]at h;cases h
theorem yF {nn l id:Nat} {P:Program} {ops:Array Oper} {Q:Exit→Act→World→Prop} (F:(Nat→Value)→Act) (K:Nat→Value→Prop) (n A:Nat) (w0:World) (Y Z:World→Value→Prop) {a:Act} (hm:P.follows .mixedOrders=true) (h0:RT ops F K n A w0.drew Y Z (Array.replicate ops.size false) a w0.drew) (hs:∀li a w,RT ops F K n A w0.drew Y Z li a w→∀i∈Region.ready .any ops li,wpOpIn (Fence.wide.inRound l) nn P ops Q i (RT ops F K n A w0.drew Y Z (li.setIfInBounds i true)) a w) (he:∀li a w,RT ops F K n A w0.drew Y Z li a w→Region.ready .any ops li=[]→Q .normal a w):(Code.region id ops true).wpIn (Fence.wide.inRound l) nn P Q a w0:=
 wpIn_region_any hm (pO hs he ops.size _ a _ (by rw[dG];exact Nat.le_refl _) h0)
theorem vJ {nn l2 l m i:Nat} {P:Program} {ops:Array Oper} {o:Oper} {Q:Exit→Act→World→Prop} {K:Act→World→Prop} {a:Act} {u:World} {R:Ending→World→Prop} (ho:ops[i]? =some o) (hgd:o.guard=none) (f x:Operand) (ty:Array TypeId) (hop:o.op= .call {callee:=.value f,args:=#[x],argTypes:=ty}) (hf:a.eval f= .func (.yield l) #[] #[]) (v:Value) (hx:a.eval x=v) (hY:YieldAt Fence.wide m P l #[v] u R) (h:∀e W',R e W'→∃bv,e= .returned bv∧K (a.put o.dst bv) W'):wpOpIn (Fence.wide.inRound l2) nn P ops Q i K a u:=by
 obtain⟨fn,tmps,assign,body,hy,hR⟩:=hY;have hw:Region.wanted o (yielded ops a.tmps)=true:=by simp[Region.wanted,hgd]
 unfold wpOpIn;rw[ho];simp only[hw,if_true];refine⟨fun _ _=>trivial,?_⟩;rw[show(Fence.wide.inRound l2).round=some l2 from rfl,Oper.semAt_some l2 _ _ (by rw[hop];intro c hc;cases hc)];have hrun:(execOp a.eval o).run P u= .ok (.round l fn tmps assign body) u:=by
  have e1:execOp a.eval o=(do let d ←resolve a.eval {callee:=.value f,args:=#[x],argTypes:=ty} o.type;invoke d.target d.args):=by unfold execOp;rw[hop]
  have e2:(resolve a.eval {callee:=.value f,args:=#[x],argTypes:=ty} o.type).run P u= .ok {target:=.fn (.yield l) #[],args:=#[v]} u:=by
   show(Deferred.ofValue (a.eval f) (#[x].map a.eval)).run P u=_;have e3:(#[x]:Array Operand).map a.eval=#[v]:=by rw[←hx];simp
   rw[hf,e3];simp[Deferred.ofValue,Sem.run_pure]
  rw[e1,Sem.run_bind,e2];exact hy
 rw[hrun];refine⟨fun e=>(by cases e),?_⟩;refine RoundIn.mono (yG (m':=nn-1) hR) (fun e W' he=>?_);obtain⟨bv,rfl,hk⟩:=h e W' he;exact hk
def eU (a b:T):Nat:=(min a.m.d b.m.x).toNat
def fS (a b:T):Nat:=(min a.m.e b.m.y).toNat
structure jH (a b:T) (g:M):Prop where
 ok1:a.m.ok=true
 ok2:b.m.ok=true
 ok3:g.ok=true
 gx:g.x=a.m.x+b.m.x
 gy:g.y=a.m.y+b.m.y
 gd:g.d=a.m.d+b.m.d
 ge:g.e=a.m.e+b.m.e
 c1:0≤a.c∧a.c≤100
 c2:0≤b.c∧b.c≤100
theorem jH.lx {a b:T} {g:M} (h:jH a b g):(eU a b:Int)=min a.m.d b.m.x:=by
 have h1:=M.ok_iff.1 h.ok1;have h2:=M.ok_iff.1 h.ok2
 unfold eU;omega
theorem jH.ly {a b:T} {g:M} (h:jH a b g):(fS a b:Int)=min a.m.e b.m.y:=by
 have h1:=M.ok_iff.1 h.ok1;have h2:=M.ok_iff.1 h.ok2
 unfold fS;omega
def oW (a b:T) (g:M) (px:TK (eU a b)) (py:TK (fS a b)):T:=⟨a.c*b.c%101*px.1.2%101*py.1.2%101,⟨g.x-px.1.1,g.y-py.1.1,g.d-px.1.1,g.e-py.1.1⟩⟩
theorem CA {a b:T} {g:M} (h:jH a b g) (px:TK (eU a b)) (py:TK (fS a b)):(oW a b g px py).m.ok=true∧0≤(oW a b g px py).c∧(oW a b g px py).c≤100:=by
 have h1:=M.ok_iff.1 h.ok1;have h2:=M.ok_iff.1 h.ok2
 have h3:=M.ok_iff.1 h.ok3;have hx:=px.2
 have hy:=py.2;have lx:=h.lx
 have ly:=h.ly;have gx:=h.gx
 have gy:=h.gy;have gd:=h.gd
 have ge:=h.ge;refine⟨M.ok_iff.2 ?_,?_,?_⟩
 ·simp only[oW];omega
 ·show 0≤a.c*b.c%101*px.1.2%101*py.1.2%101;omega
 ·show a.c*b.c%101*px.1.2%101*py.1.2%101≤100;omega
def jF {a b:T} {g:M} (h:jH a b g) (px:TK (eU a b)) (py:TK (fS a b)):TO:=⟨oW a b g px py,CA h px py⟩
def CQ (a b:T):List (TK (fS a b)):=iH (fS a b) a.m.e b.m.y (fS a b+1)
def zA (a b:T):List (TK (eU a b)):=iH (eU a b) a.m.d b.m.x (eU a b+1)
def iB {a b:T} {g:M} (h:jH a b g) (pre:List (TK (eU a b))):List TO:=pre.flatMap fun px=>(CQ a b).map (jF h px)
theorem pX {a b:T} {g:M} (h:jH a b g) (pre:List (TK (eU a b))) (x:TK (eU a b)):iB h (pre++[x])=iB h pre++(CQ a b).map (jF h x):=by simp[iB]
end Go.Proofs.YtoglomfejgpoeaaGreatDoor
