/-
  A sum told as an operator.
-/
import Derived.Test.YtkcmamepoplcdaaGreatDoorXal
import Derived.Maps.OwnIn
set_option maxHeartbeats 4000000
set_option maxRecDepth 100000
namespace Go.Proofs.YtkcmamepoplcdaaGreatDoor
open Go.RowKit Go.Maps Go.Sort Go.Shelf
set_option linter.unusedVariables false
attribute [local go_sem] Oper.semAt_some
def KJ (c:M→Int) (x:BA):T:=⟨c x.2.1,x.2.1⟩
theorem mJ {w W:World} {P:Program} {k:TypeId} {R:Value→Option (DataW Unit×List MemPlace)} {b n:Nat} {D:DataW Unit} (h:w.ownsMap P k R b n D) (hb:W.heap[b]? =w.heap[b]?):W.ownsMap P k R b n D:=by obtain⟨es,clock,h1,r⟩:=h;exact⟨es,clock,hb.trans h1,r⟩
theorem RG:(Tryz.prog.info? 79).map (fun i=>(i.zero,i.size,i.bytes))=some (some (.agg #[.int .i64 0,.int .i64 0,.int .i64 0,.int .i64 0,.int .i64 0]),5,40):=by kernel_rfl
theorem pG (c:M→Int) (m:M):∀ms:List M,m∈ms→bN (ms.map fun x=>(⟨c x,x⟩:T)) m=c m
 |[],h=>by cases h
 |x::r,h=>by
  simp only[List.map_cons,bN];by_cases hx:x=m
  ·rw[if_pos (cC.2 hx),hx]
  ·rw[if_neg (fun e=>hx (cC.1 e))];exact pG c m r ((List.mem_cons.1 h).resolve_left (fun e=>hx e.symm))
theorem nB (c:M→Int) (m:M):∀ms:List M,m∉ms→bN (ms.map fun x=>(⟨c x,x⟩:T)) m=0
 |[],_=>rfl
 |x::r,h=>by simp only[List.map_cons,bN];rw[if_neg (fun e=>h (by rw[←cC.1 e];exact List.mem_cons_self ..))];exact nB c m r (fun e=>h (List.mem_cons_of_mem _ e))
theorem GP {α:Type} (key:M→α) (hinj:∀a b:M,a.ok=true→b.ok=true→key a=key b→a=b) {K:List T} (hK:aX K) (ks:List α) (h:∀t∈K,key t.m∈ks):K.length≤ks.length:=by
 letI:DecidableEq α:=fun a b=>Classical.propDecidable (a=b)
 have hnd:(K.map fun t=>key t.m).Nodup:=by
  rw[List.Nodup,List.pairwise_map];refine hK.1.imp_of_mem (S:=fun a b=>key a.m≠key b.m) ?_;intro a b ha hb h e;have:=hinj _ _ (hK.2 a ha).1 (hK.2 b hb).1 e
  rw[this]at h;omega
 have:=kJ (K.map fun t=>key t.m) ks hnd (fun x hx=>by
  obtain⟨t,ht,rfl⟩:=List.mem_map.1 hx
  exact h t ht)
 simpa using this
theorem xA {m:M}:∀{L:List T},bN L m≠0→m∈L.map (·.m)
 |[],h=>absurd rfl h
 |t::r,h=>by
  rw[bN]at h;by_cases ht:mF t.m m=true
  ·simp[cC.1 ht]
  ·rw[if_neg ht]at h;simpa using Or.inr (by simpa using xA h)
theorem xB {L:List T} (hL:aX L) {t:T} (ht:t∈L):bN L t.m=t.c:=by
 induction L with
 |nil=>cases ht
 |cons s r ih=>
  rcases List.mem_cons.1 ht with rfl|h
  ·exact bZ _ _
  ·have h1:=hL.head t h;rw[kD (fun e=>by rw[e]at h1;omega)];exact ih hL.tail h
theorem wC {w:World} {b n:Nat} {D:DataW Unit} {c:M→Int} (hown:w.ownsMap Tryz.prog 77 (plainElem Tryz.prog 118) b n D) (hat:∀m:M,m.ok=true→D.atKey (cT m) (.lit (.int .i64 0))= .lit (.int .i64 (c m))∧(Maps.has D (cT m)=true↔c m≠0)) (hks:∀kl,Maps.has D kl=true→∃m:M,m.ok=true∧kl=cT m) {K:List T} (hK:aX K) (hKc:∀m,m.ok=true→bN K m=c m):Maps.size D=K.length:=by
 have h1:Maps.size D≤K.length:=by
  have:=wD hown (K.map (·.m)) (fun kl hkl=>by
   obtain⟨m,hm,rfl⟩:=hks kl hkl;refine⟨m,xA ?_,rfl⟩;rw[hKc m hm]
   exact(hat m hm).2.1 hkl)
  simpa using this
 have h2:K.length≤Maps.size D:=by
  obtain⟨es,he,hp⟩:=hown.tidy nQ
  have:=GP cT (fun a b ha hb e=>rG ha hb e) hK (es.map (·.1)) (fun t ht=>by
   have hto:=hK.2 t ht;have hh:Maps.has D (cT t.m)=true:=(hat t.m hto.1).2.2 (by rw[←hKc t.m hto.1,xB hK ht];omega)
   rw[he,has_eq,List.any_eq_true]at hh;obtain⟨p,hpe,hs⟩:=hh;rw[←WideAt.sameKey_eq hs]
   exact List.mem_map_of_mem hpe)
  rw[he,size_eq];simpa using this
 omega
theorem PN {c:M→Int} (hc:∀m,0≤c m∧c m≤100) {dO:List OM} (hs:dO.Pairwise (fun a b=>eF a.1<eF b.1)) (hm:∀m:M,m.ok=true→(m∈dO.map (·.1)↔c m≠0)) {K:List T} (hK:aX K) (hKc:∀m,m.ok=true→bN K m=c m):(fM dO 0).map (KJ c)=K:=by
 have hcl:∀x∈fM dO 0,x.2∈dO:=fun x hx=>by
  unfold fM at hx;obtain⟨j,hj,rfl⟩:=List.mem_map.1 hx;rw[List.mem_range]at hj;have hi:dO.length-1-j<dO.length:=by omega
  show dO.getD (dO.length-1-j) default∈dO;rw[List.getD_eq_getElem?_getD,List.getElem?_eq_getElem hi];exact List.getElem_mem hi
 have hcl2:∀o∈dO,o.1∈(fM dO 0).map (fun x=>x.2.1):=fun o ho=>by
  obtain⟨i,hi,rfl⟩:=List.getElem_of_mem ho;refine List.mem_map.2 ⟨iS dO i,?_,?_⟩
  ·unfold fM;refine List.mem_map.2 ⟨dO.length-1-i,List.mem_range.2 (by omega),?_⟩;rw[show dO.length-1-(dO.length-1-i)=i by omega]
  ·simp[iS,hi]
 have e1:(fM dO 0).map (KJ c)=((fM dO 0).map (fun x=>x.2.1)).map (fun x=>(⟨c x,x⟩:T)):=by rw[List.map_map];rfl
 refine tS ⟨?_,?_⟩ hK (fun m hmo=>?_)
 ·rw[List.pairwise_map];unfold fM;rw[List.pairwise_map];refine(List.pairwise_lt_range (n:=dO.length-0)).imp_of_mem ?_;intro j i hj hi hji;rw[List.mem_range]at hj hi;have:=(List.pairwise_iff_getElem.1 hs) (dO.length-1-i) (dO.length-1-j) (by omega) (by omega) (by omega)
  have g1:(iS dO (dO.length-1-i)).2=dO[dO.length-1-i]'(by omega):=by simp[iS,show dO.length-1-i<dO.length by omega]
  have g2:(iS dO (dO.length-1-j)).2=dO[dO.length-1-j]'(by omega):=by simp[iS,show dO.length-1-j<dO.length by omega]
  show eF (iS dO (dO.length-1-i)).2.1<eF (iS dO (dO.length-1-j)).2.1;rw[g1,g2];exact this
 ·intro t ht;obtain⟨x,hx,rfl⟩:=List.mem_map.1 ht;have h1:=(hm x.2.1 x.2.2).1 (List.mem_map_of_mem (hcl x hx))
  have h2:=hc x.2.1;exact⟨x.2.2,by show 1≤c x.2.1;omega,by show c x.2.1≤100;omega⟩
 ·rw[e1,hKc m hmo];by_cases hn:m∈(fM dO 0).map (fun x=>x.2.1)
  ·exact pG c m _ hn
  ·rw[nB c m _ hn];have:¬c m≠0:=fun h=>by obtain⟨o,ho,he⟩:=List.mem_map.1 ((hm m hmo).2 h);exact hn (he▸hcl2 o ho)
   omega
end Go.Proofs.YtkcmamepoplcdaaGreatDoor
namespace Go.Proofs.YtkcmamepoplcdaaGreatDoor
open Go.RowKit Go.Maps
set_option linter.unusedVariables false
attribute [local go_sem] Oper.semAt_some
abbrev TO:Type:={t:T // t.m.ok=true∧0≤t.c∧t.c≤100}
def PB (x:TO):Array Value:=#[.agg #[.int .i64 x.1.c,.int .i64 x.1.m.x,.int .i64 x.1.m.y,.int .i64 x.1.m.d,.int .i64 x.1.m.e]]
def jE (c:M→Int) (xs:List TO):M→Int:=xs.foldl (fun c t=>jA c t.1.m t.1.c) c
theorem wU (c:M→Int) (xs:List TO) (x:TO):jE c (xs++[x])=jA (jE c xs) x.1.m x.1.c:=by simp[jE]
theorem jO {α β:Type} (k:Nat) (f:α→List β) (h:∀x,(f x).length=k):∀l:List α,(l.flatMap f).length=l.length*k
 |[]=>by simp
 |x::r=>by rw[List.flatMap_cons,List.length_append,h,jO k f h r,List.length_cons,Nat.add_mul];omega
def aZ (W:World) (Bx:Nat) (t:T):Prop:=W.heap[Bx]? =some (.cells #[.int .i64 t.c,.int .i64 t.m.x,.int .i64 t.m.y,.int .i64 t.m.d,.int .i64 t.m.e] 79 (0,0))
theorem aZ.cells {W:World} {Bx:Nat} {t:T} (h:aZ W Bx t):W.cell? ⟨Bx,0,none⟩=some (.int .i64 t.c)∧W.cell? ⟨Bx,1,none⟩=some (.int .i64 t.m.x)∧W.cell? ⟨Bx,2,none⟩=some (.int .i64 t.m.y)∧W.cell? ⟨Bx,3,none⟩=some (.int .i64 t.m.d)∧W.cell? ⟨Bx,4,none⟩=some (.int .i64 t.m.e):=by unfold aZ at h;refine⟨?_,?_,?_,?_,?_⟩<;>(unfold World.cell?;simp only[h];rfl)
theorem fO {B Bx:Nat} {o:Obj} (ho:o.isCells=true) {X Y:World} {row:Option Nat} (h:X.heap[Bx]? =some o) (hg:X.grownBy Y row) (hr:∀r,row=some r→B≤r∧∃o:Obj,X.heap[r]? =some o∧o.isCells=false):Y.heap[Bx]? =some o:=
 (hg.block Bx (Array.getElem?_eq_some_iff.1 h).1 (fun e=>by obtain⟨_,o',ho',hc⟩:=hr Bx e.symm;rw[h]at ho';cases ho';rw[ho]at hc;cases hc)).trans h
def allM:List M:=(List.range 16).flatMap fun(x:Nat)=>(List.range 16).flatMap fun(y:Nat)=>(List.range 16).flatMap fun(d:Nat)=>(List.range 16).map fun(e:Nat)=>(⟨(x:Int),(y:Int),(d:Int),(e:Int)⟩:M)
theorem FE:allM.length=65536:=by unfold allM;rw[jO (16*(16*16)) _ (fun x=>by rw[jO (16*16) _ (fun y=>by rw[jO 16 _ (fun d=>by simp)];simp)];simp)];simp
theorem FF {m:M} (h:m.ok=true):m∈allM:=by obtain⟨x1,x2,y1,y2,d1,d2,e1,e2⟩:=M.ok_iff.1 h;unfold allM;refine List.mem_flatMap.2 ⟨m.x.toNat,List.mem_range.2 (by omega),List.mem_flatMap.2 ⟨m.y.toNat,List.mem_range.2 (by omega),List.mem_flatMap.2 ⟨m.d.toNat,List.mem_range.2 (by omega),List.mem_map.2 ⟨m.e.toNat,List.mem_range.2 (by omega),?_⟩⟩⟩⟩;cases m;simp only at x1 y1 d1 e1⊢;rw[Int.toNat_of_nonneg x1,Int.toNat_of_nonneg y1,Int.toNat_of_nonneg d1,Int.toNat_of_nonneg e1]
theorem eP.cap {w:World} {b n:Nat} {c:M→Int} (h:eP w b n c):eP w b 65536 c:=by
 obtain⟨D,hown,hc,hat,hks⟩:=h;have hs:Maps.size D≤65536:=by rw[←FE];exact wD hown allM (fun kl hkl=>by obtain⟨m,hm,rfl⟩:=hks kl hkl;exact⟨m,FF hm,rfl⟩)
 refine⟨D,?_,hc,hat,hks⟩;obtain⟨es,clock,h1,h2,h3,h4⟩:=hown;subst h4;rw[size_eq,length_read]at hs;exact⟨es,clock,h1,h2,hs,rfl⟩
theorem eP.lt {w:World} {b n:Nat} {c:M→Int} (h:eP w b n c):b<w.heap.size:=by obtain⟨D,ho,_⟩:=h;exact ho.lt
theorem eP.map {w:World} {b n:Nat} {c:M→Int} (h:eP w b n c):∀o,w.heap[b]? =some o→o.isCells=false:=by obtain⟨D,⟨es,clock,h1,_⟩,_⟩:=h;intro o ho;rw[h1]at ho;cases ho;rfl
theorem tU {w W W':World} {b:Nat} {row:Option Nat} (h:w.grownBy W (some b)) (hg:W.grownBy W' row) (hr:∀r,row=some r→w.heap.size≤r):w.grownBy W' (some b):=
 ⟨hg.os.trans h.os,hg.tape.trans h.tape,hg.output.trans h.output,jW h.size hg.size,fun k hk hne=>(hg.block k (eB hk h.size) (fun e=>by have:=hr k e.symm;omega)).trans (h.block k hk hne)⟩
theorem LR (w:World) (b:Nat) (c:M→Int) (h:eP w b 65536 c) (g:Nat) (lb:Array Value) (eg:∀args w,(callFunc g args).run Tryz.prog w= .ok (.enter g args) w) (xs:List TO) (hseq:OH Tryz.prog g lb PB xs w):Calls Tryz.prog 144 #[.map (some b),.func (.func g) #[] lb] w fun e w'=>e= .returned (.tuple #[])∧eP w' b 65536 (jE c xs)∧w.grownBy w' (some b):=by
 have hblt:=h.lt;have HS:=aA h
 have HQ:=aA hseq;clear h hseq;refine(callsIn_wide (n:=9)).1 ?_;refine callsIn_of_wp_marks Tryz.func144 rfl trivial ?_ rfl;simp only[Tryz.ntmps144,List.size_toArray,List.length_cons,List.length_nil,Nat.reduceAdd,Nat.reduceSub,Array.replicate_succ,Array.replicate_zero,List.push_toArray,List.append_toArray,List.nil_append,List.cons_append]
 gi_wp2
 have bs:=Boxed.new w 120 (.map (some b));have hg0:=World.grownBy_alloc w (.cells #[.map (some b)] 120) (some b)
 have hS0:=HS.out.grown (World.grownBy_alloc w (.cells #[.map (some b)] 120) none) (by simp);have hbw:Below w.heap.size w (w.alloc (.cells #[.map (some b)] 120)):=(aD _ w).alloc (Nat.le_refl _) _
 have hs0:(w.alloc (.cells #[.map (some b)] 120)).heap.size=w.heap.size+1:=by simp
 generalize w.alloc (.cells #[.map (some b)] 120)=W0 at *
 refine PX (by decide) (gf:=g) (lb:=lb) rfl eg HQ.out hbw (fun _=>rfl)
  (fun(pre:List TO) W=>eP W b 65536 (jE c pre)∧(Boxed W w.heap.size 120 (.map (some b))∧w.grownBy W (some b)))
  (OwnFrom.and (fun s X Y row hs hg hr=>hs.grown hg (fun e=>by have:=(hr b e.symm).1;omega)) (OwnFrom.and (Own.from (boxed_own _ _ (fun _=>Value.map (some b))) _) (fun s X Y row hs hg hr=>tU hs hg (fun r e=>by have:=(hr r e).1;omega))))
  ⟨hS0,bs,hg0⟩
  (fun x a' W=>∃Bx,aZ W Bx x.1∧a'=({tmps:=#[.map (some b),.func (.func g) #[] lb,.pointer (some ⟨w.heap.size,0,none⟩),undef,.pointer (some ⟨Bx,0,none⟩),.func (.func g) #[] lb,.agg #[.int .i64 x.1.c,.int .i64 x.1.m.x,.int .i64 x.1.m.y,.int .i64 x.1.m.d,.int .i64 x.1.m.e],undef,undef,undef,undef,undef,undef],defers:=[]}:Act))
  (fun x a' _ X Y row hs hg hr=>by obtain⟨Bx,h2,h3⟩:=hs;exact⟨Bx,fO rfl h2 hg hr,h3⟩)
  ?assign ?body ?done
 case assign=>
  rintro l pre x W K' ⟨hS,bS,hgW⟩ hK';obtain⟨t,ht⟩:=x;dsimp only[PB]at hK'⊢
  gi_wp2
  exact hK' _ _ ((KeepsOthers.alloc _ _).from _) (bD _ _) ⟨hS.grown (World.grownBy_alloc W _ none) (by simp),bS.alloc _,hgW.trans (World.grownBy_alloc W _ (some b))⟩ ⟨W.heap.size,World.alloc_heap_new W _,rfl⟩
 case body=>
  rintro l pre x a' W ⟨hS,bS,hgW⟩ ⟨Bx,hX,rfl⟩;obtain⟨t,hto,htc,htc'⟩:=x;dsimp only at hX⊢;obtain⟨x0,x1,x2,x3,x4⟩:=hX.cells;have cS:=bS.cell
  have HSS:=aA hS;clear hS
  gi_wp2_with (first
   |(refine⟨trivial,rfl,?_⟩;gi_at_call 117;(refine(CallsIn.inRound l (callsIn_wide.2 (wF b 65536 _ t.c t.m W hto HSS.out (by unfold maxLen;omega) htc htc'))).mono ?_;rintro e w' ⟨rfl,hs',hg'⟩))
   |gi_in)
  have hk:cellsK W w':=kC hg' (fun k e o ho=>by cases e;exact HSS.out.map o ho);refine⟨KeepsFrom.of_grownBy hg' (fun j e=>by cases e;omega),hk,?_,bH bS hk,hgW.trans hg'⟩;rw[wU];exact hs'.cap
 case done=>
  rintro D W hD ⟨hS,bS,hgW⟩ hKd
  gi_wp2
  refine⟨by simp,.inl ⟨_,_,rfl,run_takeDeferred hKd,?_⟩⟩;exact⟨_,results_none rfl _ _ _,rfl,hS.grown (grownBy_putObj' W D (.deferred none)) (fun e=>by cases e;omega),tU hgW (grownBy_putObj' W D (.deferred none)) (fun r e=>by cases e;omega)⟩
end Go.Proofs.YtkcmamepoplcdaaGreatDoor
namespace Go.Proofs.YtkcmamepoplcdaaGreatDoor
open Go.RowKit
set_option linter.unusedVariables false
theorem sZ {F:Fence} {n:Nat} {P:Program} {md:Region.Mode} {ops:Array Oper} {Q:Exit→Act→World→Prop} {I:Array Bool→Act→World→Prop} (hs:∀l a w,I l a w→∀i∈Region.ready md ops l,wpOpIn F n P ops Q i (I (l.setIfInBounds i true)) a w) (he:∀l a w,I l a w→Region.ready md ops l=[]→Q .normal a w):∀(fuel:Nat) (l:Array Bool) (a:Act) (w:World),kP l≤fuel→I l a w→wpAnyIn F n P md ops Q fuel l a w
 |0,l,a,w,hf,hI=>by
  have hr:Region.ready md ops l=[]:=by
   rw[List.eq_nil_iff_forall_not_mem];intro i hi;have h0:=eL (mem_ready.1 hi).1
   exact gL l.toList (by unfold kP at hf;omega) i (by simpa using h0)
  exact⟨hr,he l a w hI hr⟩
 |fuel+1,l,a,w,hf,hI=>by
  refine⟨fun hr=>he l a w hI hr,fun i hi=>?_⟩;have h0:=eL (mem_ready.1 hi).1
  have h1:=sG h0;exact wpOpIn_mono (fun a' w' h=>sZ hs he fuel _ a' w' (by omega) h) (hs l a w hI i hi)
def RT (ops:Array Oper) (F:(Nat→Value)→Act) (P:Nat→Value→Prop) (n A:Nat) (w0:World) (Y Z:World→Value→Prop) (l:Array Bool) (a:Act) (u:World):Prop:=
 ∃vs:Nat→Value,a=F vs∧l.size=n∧dA ops l∧(l.getD A false=false→u=w0∧∀k,l.getD k false=true→P k (vs k))∧(l.getD A false=true→l.getD (A+1) false=false→Y u (vs A))∧(l.getD (A+1) false=true→Z u (vs (A+1)))
theorem RT.start {ops:Array Oper} {F:(Nat→Value)→Act} {P:Nat→Value→Prop} {n A:Nat} {w0:World} {Y Z:World→Value→Prop} {a:Act} (vs:Nat→Value) (ha:a=F vs):RT ops F P n A w0 Y Z (Array.replicate n false) a w0:=
 ⟨vs,ha,by simp,dA.start _ _,fun _=>⟨rfl,fun k h=>oZ h⟩,fun h=>oZ h,fun h=>oZ h⟩
theorem RT.step {ops:Array Oper} {F:(Nat→Value)→Act} {P:Nat→Value→Prop} {n A:Nat} {w0:World} {Y Z:World→Value→Prop} {l:Array Bool} {vs:Nat→Value} (i:Nat) (v:Value) {a:Act} (hi:i∈Region.ready .any ops l) (hno:ops.size=n) (hA:l.getD A false=false) (hA1:l.getD (A+1) false=false) (hiA:i<A) (hl:l.size=n) (hcl:dA ops l) (hf:∀k,l.getD k false=true→P k (vs k)) (hv:P i v) (ha:a=F (fun k=>if k=i then v else vs k)):RT ops F P n A w0 Y Z (l.setIfInBounds i true) a w0:=by
 refine⟨fun k=>if k=i then v else vs k,ha,by simp[hl],hcl.step hi (by omega),fun _=>⟨rfl,fun k hk=>?_⟩,fun h=>?_,fun h=>?_⟩
 ·by_cases hki:k=i
  ·have hv2:P k v:=by rw[hki];exact hv
   exact Eq.mpr (congrArg (fun z=>P k z) (if_pos hki)) hv2
  ·rw[getD_set_ne false (fun e=>hki e.symm)]at hk;exact Eq.mpr (congrArg (fun z=>P k z) (if_neg hki)) (hf k hk)
 ·rw[getD_set_ne false (by omega),hA]at h;cases h
 ·rw[getD_set_ne false (by omega),hA1]at h;cases h
theorem RT.last {ops:Array Oper} {F:(Nat→Value)→Act} {P:Nat→Value→Prop} {n A:Nat} {w0 u':World} {Y Z:World→Value→Prop} {l:Array Bool} {vs:Nat→Value} (v:Value) {a:Act} (hi:A∈Region.ready .any ops l) (hno:ops.size=n) (hAn:A<n) (hA1:l.getD (A+1) false=false) (hl:l.size=n) (hcl:dA ops l) (hv:Y u' v) (ha:a=F (fun k=>if k=A then v else vs k)):RT ops F P n A w0 Y Z (l.setIfInBounds A true) a u':=by
 refine⟨fun k=>if k=A then v else vs k,ha,by simp[hl],hcl.step hi (by omega),fun h=>?_,fun _ _=>Eq.mpr (congrArg (fun z=>Y u' z) (if_pos rfl)) hv,fun h=>?_⟩
 ·rw[fW false (by omega)]at h;cases h
 ·rw[getD_set_ne false (by omega),hA1]at h;cases h
theorem RT.fin {ops:Array Oper} {F:(Nat→Value)→Act} {P:Nat→Value→Prop} {n A:Nat} {w0 u':World} {Y Z:World→Value→Prop} {l:Array Bool} {vs:Nat→Value} (v:Value) {a:Act} (hi:A+1∈Region.ready .any ops l) (hno:ops.size=n) (hA:l.getD A false=true) (hAn:A+1<n) (hl:l.size=n) (hcl:dA ops l) (hz:Z u' v) (ha:a=F (fun k=>if k=A+1 then v else vs k)):RT ops F P n A w0 Y Z (l.setIfInBounds (A+1) true) a u':=by
 refine⟨_,ha,by simp[hl],hcl.step hi (by omega),fun h=>?_,fun _ h=>?_,fun _=>Eq.mpr (congrArg (fun z=>Z u' z) (if_pos rfl)) hz⟩
 ·rw[getD_set_ne false (by omega),hA]at h;cases h
 ·rw[fW false (by omega)]at h;cases h
theorem DV {nn l id:Nat} {P:Program} {ops:Array Oper} {Q:Exit→Act→World→Prop} (F:(Nat→Value)→Act) (K:Nat→Value→Prop) (n A:Nat) (w0:World) (Y Z:World→Value→Prop) {a:Act} (hm:P.follows .mixedOrders=true) (h0:RT ops F K n A w0.drew Y Z (Array.replicate ops.size false) a w0.drew) (hs:∀li a w,RT ops F K n A w0.drew Y Z li a w→∀i∈Region.ready .any ops li,wpOpIn (Fence.wide.inRound l) nn P ops Q i (RT ops F K n A w0.drew Y Z (li.setIfInBounds i true)) a w) (he:∀li a w,RT ops F K n A w0.drew Y Z li a w→Region.ready .any ops li=[]→Q .normal a w):(Code.region id ops true).wpIn (Fence.wide.inRound l) nn P Q a w0:=
 wpIn_region_any hm (sZ hs he ops.size _ a _ (by rw[jU];exact Nat.le_refl _) h0)
theorem AK {nn l2 l m i:Nat} {P:Program} {ops:Array Oper} {o:Oper} {Q:Exit→Act→World→Prop} {K:Act→World→Prop} {a:Act} {u:World} {R:Ending→World→Prop} (ho:ops[i]? =some o) (hgd:o.guard=none) (f x:Operand) (ty:Array TypeId) (hop:o.op= .call {callee:=.value f,args:=#[x],argTypes:=ty}) (hf:a.eval f= .func (.yield l) #[] #[]) (v:Value) (hx:a.eval x=v) (hY:YieldAt Fence.wide m P l #[v] u R) (h:∀e W',R e W'→∃bv,e= .returned bv∧K (a.put o.dst bv) W'):wpOpIn (Fence.wide.inRound l2) nn P ops Q i K a u:=by
 obtain⟨fn,tmps,assign,body,hy,hR⟩:=hY;have hw:Region.wanted o (yielded ops a.tmps)=true:=by simp[Region.wanted,hgd]
 unfold wpOpIn;rw[ho];simp only[hw,if_true];refine⟨fun _ _=>trivial,?_⟩;rw[show(Fence.wide.inRound l2).round=some l2 from rfl,Oper.semAt_some l2 _ _ (by rw[hop];intro c hc;cases hc)];have hrun:(execOp a.eval o).run P u= .ok (.round l fn tmps assign body) u:=by
  have e1:execOp a.eval o=(do let d ←resolve a.eval {callee:=.value f,args:=#[x],argTypes:=ty} o.type;invoke d.target d.args):=by unfold execOp;rw[hop]
  have e2:(resolve a.eval {callee:=.value f,args:=#[x],argTypes:=ty} o.type).run P u= .ok {target:=.fn (.yield l) #[],args:=#[v]} u:=by
   show(Deferred.ofValue (a.eval f) (#[x].map a.eval)).run P u=_;have e3:(#[x]:Array Operand).map a.eval=#[v]:=by rw[←hx];simp
   rw[hf,e3];simp[Deferred.ofValue,Sem.run_pure]
  rw[e1,Sem.run_bind,e2];exact hy
 rw[hrun];refine⟨fun e=>(by cases e),?_⟩;refine RoundIn.mono (DX (m':=nn-1) hR) (fun e W' he=>?_);obtain⟨bv,rfl,hk⟩:=h e W' he;exact hk
def fR (a b:T):Nat:=(min a.m.d b.m.x).toNat
def gW (a b:T):Nat:=(min a.m.e b.m.y).toNat
structure kZ (a b:T) (g:M):Prop where
 ok1:a.m.ok=true
 ok2:b.m.ok=true
 ok3:g.ok=true
 gx:g.x=a.m.x+b.m.x
 gy:g.y=a.m.y+b.m.y
 gd:g.d=a.m.d+b.m.d
 ge:g.e=a.m.e+b.m.e
 c1:0≤a.c∧a.c≤100
 c2:0≤b.c∧b.c≤100
theorem kZ.lx {a b:T} {g:M} (h:kZ a b g):(fR a b:Int)=min a.m.d b.m.x:=by
 have h1:=M.ok_iff.1 h.ok1;have h2:=M.ok_iff.1 h.ok2
 unfold fR;omega
theorem kZ.ly {a b:T} {g:M} (h:kZ a b g):(gW a b:Int)=min a.m.e b.m.y:=by
 have h1:=M.ok_iff.1 h.ok1;have h2:=M.ok_iff.1 h.ok2
 unfold gW;omega
def sD (a b:T) (g:M) (px:TK (fR a b)) (py:TK (gW a b)):T:=⟨a.c*b.c%101*px.1.2%101*py.1.2%101,⟨g.x-px.1.1,g.y-py.1.1,g.d-px.1.1,g.e-py.1.1⟩⟩
theorem JR {a b:T} {g:M} (h:kZ a b g) (px:TK (fR a b)) (py:TK (gW a b)):(sD a b g px py).m.ok=true∧0≤(sD a b g px py).c∧(sD a b g px py).c≤100:=by
 have h1:=M.ok_iff.1 h.ok1;have h2:=M.ok_iff.1 h.ok2
 have h3:=M.ok_iff.1 h.ok3;have hx:=px.2
 have hy:=py.2;have lx:=h.lx
 have ly:=h.ly;have gx:=h.gx
 have gy:=h.gy;have gd:=h.gd
 have ge:=h.ge;refine⟨M.ok_iff.2 ?_,?_,?_⟩
 ·simp only[sD];omega
 ·show 0≤a.c*b.c%101*px.1.2%101*py.1.2%101;omega
 ·show a.c*b.c%101*px.1.2%101*py.1.2%101≤100;omega
def kU {a b:T} {g:M} (h:kZ a b g) (px:TK (fR a b)) (py:TK (gW a b)):TO:=⟨sD a b g px py,JR h px py⟩
def KP (a b:T):List (TK (gW a b)):=jV (gW a b) a.m.e b.m.y (gW a b+1)
def FG (a b:T):List (TK (fR a b)):=jV (fR a b) a.m.d b.m.x (fR a b+1)
def jM {a b:T} {g:M} (h:kZ a b g) (pre:List (TK (fR a b))):List TO:=pre.flatMap fun px=>(KP a b).map (kU h px)
theorem tR {a b:T} {g:M} (h:kZ a b g) (pre:List (TK (fR a b))) (x:TK (fR a b)):jM h (pre++[x])=jM h pre++(KP a b).map (kU h x):=by simp[jM]
theorem cG {n:Nat} {f:Nat→T} (h:aH n f=true):Fl f n:=by
 have hp:=h;simp only[aH,decide_eq_true_eq]at hp;have h1:∀i,i<n→(f i).m.ok=true∧1≤(f i).c∧(f i).c≤100:=fun i hi=>by have:=hp.2 i hi;simp only[fC,Bool.and_eq_true,decide_eq_true_eq]at this;exact⟨this.1.2,this.1.1⟩
 refine⟨fun j i hji hi=>?_,h1⟩;induction i with
 |zero=>omega
 |succ i ih=>
  have h2:=hp.2 (i+1) hi;simp only[fC,Bool.and_eq_true,Bool.or_eq_true,decide_eq_true_eq]at h2;have h3:=h2.2.resolve_left (by omega)
  rw[show i+1-1=i by omega]at h3;have h4:=(nV (h1 i (by omega)).1 (h1 (i+1) hi).1).1 h3
  by_cases hji2:j=i
  ·rw[hji2];exact h4
  ·have:=ih (by omega) (by omega);omega
def iY (c:Int) (m:M) (L:List T):List T:=if c=0 then L else cV (lf L) L.length (fun _=>⟨c,m⟩) 1 0 0
def SG (L:List T):Prop:=∀t∈L,0≤t.c∧t.c≤100
theorem PM {L:List T} {i:Nat} (h:i<L.length):lf L i∈L:=by unfold lf;rw[List.getD_eq_getElem?_getD,List.getElem?_eq_getElem h];exact List.getElem_mem h
theorem SG.at {L:List T} (h:SG L):∀i,i<L.length→0≤(lf L i).c∧(lf L i).c≤100:=fun i hi=>h _ (PM hi)
theorem IV (c:Int) (m:M) (L:List T):(iY c m L).length≤L.length+1:=by
 unfold iY;split
 ·omega
 ·have:=lC (lf L) L.length (fun _=>⟨c,m⟩) 1 0 0;omega
theorem PZ (w:World) (t:T):Rd (w.alloc (.cells #[.int .i64 t.c,.int .i64 t.m.x,.int .i64 t.m.y,.int .i64 t.m.d,.int .i64 t.m.e] 79)) (some ⟨w.heap.size,0,none⟩) 1 1 (fun _=>t):=by
 refine⟨Nat.le_refl _,by omega,.inr ⟨w.heap.size,0,rfl,by simp,fun i hi=>?_⟩⟩;obtain rfl:i=0:=by omega
 exact⟨by rw[World.cell?_alloc_at _ _ _ _ rfl];rfl,by rw[World.cell?_alloc_at _ _ _ _ rfl];rfl,by rw[World.cell?_alloc_at _ _ _ _ rfl];rfl,by rw[World.cell?_alloc_at _ _ _ _ rfl];rfl,by rw[World.cell?_alloc_at _ _ _ _ rfl];rfl⟩
theorem zU (w:World) (lo:Nat) (v:Value) (L:List T) (c x y d e:Int) (ho:w.ownsRow lo 79 5 v L.length (aG L)) (hlo:lo≤w.heap.size) (hl:L.length≤1000) (hL:SG L) (h0:0≤c) (h1:c≤100):Calls Tryz.prog 105 #[v,.int .i64 c,.agg #[.int .i64 x,.int .i64 y,.int .i64 d,.int .i64 e]] w fun r w'=>∃v',r= .returned v'∧Below w.heap.size w w'∧w'.ownsRow lo 79 5 v' (iY c ⟨x,y,d,e⟩ L).length (aG (iY c ⟨x,y,d,e⟩ L)):=by
 by_cases hc:c=0
 ·subst hc;have e1:iY 0 ⟨x,y,d,e⟩ L=L:=by simp[iY]
  rw[e1];have HO:=aA (aK ho (aF w (.cells #[.int .i64 x,.int .i64 y,.int .i64 d,.int .i64 e] 77)))
  clear ho e1;go_enter Tryz.func105,Tryz.ntmps105;go_wp2;go_ret;exact⟨_,rfl,aF w _,HO.out⟩
 ·have hcb:(c==0)=false:=by simp[hc]
  have e1:iY c ⟨x,y,d,e⟩ L=cV (lf L) L.length (fun _=>⟨c,⟨x,y,d,e⟩⟩) 1 0 0:=by simp[iY,hc]
  rw[e1];obtain⟨a,cap,rfl,hout⟩:=aO ho (by omega);have HR:=aA hout.1
  clear ho hout hc e1;go_enter Tryz.func105,Tryz.ntmps105;go_wp2_with fail;have ha:=aA ((HR.out.below (aF w (.cells #[.int .i64 x,.int .i64 y,.int .i64 d,.int .i64 e] 77))).below (aF _ (.cells #[.int .i64 c,.int .i64 x,.int .i64 y,.int .i64 d,.int .i64 e] 79)))
  have hb:=PZ (w.alloc (.cells #[.int .i64 x,.int .i64 y,.int .i64 d,.int .i64 e] 77)) ⟨c,⟨x,y,d,e⟩⟩;have hb2:Rd ((w.alloc (.cells #[.int .i64 x,.int .i64 y,.int .i64 d,.int .i64 e] 77)).alloc (.cells #[.int .i64 c,.int .i64 x,.int .i64 y,.int .i64 d,.int .i64 e] 79)) (some ⟨w.heap.size+1,0,none⟩) 1 1 (fun _=>⟨c,⟨x,y,d,e⟩⟩):=by simpa using hb
  have hz:=aA (aC (aF w (.cells #[.int .i64 x,.int .i64 y,.int .i64 d,.int .i64 e] 77)) (aF _ (.cells #[.int .i64 c,.int .i64 x,.int .i64 y,.int .i64 d,.int .i64 e] 79)));clear hb;generalize((w.alloc (.cells #[.int .i64 x,.int .i64 y,.int .i64 d,.int .i64 e] 77)).alloc (.cells #[.int .i64 c,.int .i64 x,.int .i64 y,.int .i64 d,.int .i64 e] 79))=W at ha hb2 hz⊢;refine(oS _ _ _ _ _ _ _ (lf L) (fun _=>⟨c,⟨x,y,d,e⟩⟩) ha.out hb2 (by omega) hL.at (fun _ _=>⟨h0,h1⟩)).mono ?_;rintro r w1 ⟨v',rfl,hb1,hown⟩;have HB:=aA (aC hz.out hb1)
  have HO:=aA (bO hown (jW hlo hz.out.size));clear hb2 hb1 hown ha hz HR;go_wp2;go_ret;exact⟨_,rfl,HB.out,HO.out⟩
theorem pL (f:Nat→T) (m:M):∀(u i:Nat),bX f u (i+1) m=bX (fun j=>f (j+1)) u i m
 |0,_=>rfl
 |u+1,i=>by rw[bX,bX,pL f m u (i+1)]
theorem nK (m:M):∀L:List T,bX (lf L) L.length 0 m=bN L m
 |[]=>rfl
 |t::r=>by
  have e:(fun j=>lf (t::r) (j+1))=lf r:=by funext j;simp[lf]
  have e0:lf (t::r) 0=t:=rfl;rw[List.length_cons,bX,e0,bN,pL,e,nK m r]
theorem xW {L:List T} (h:aX L):Fl (lf L) L.length:=by
 have at_:∀i (hi:i<L.length),lf L i=L[i]:=fun i hi=>by unfold lf;rw[List.getD_eq_getElem?_getD,List.getElem?_eq_getElem hi];rfl
 refine⟨fun j i hji hi=>?_,fun i hi=>?_⟩
 ·rw[at_ i hi,at_ j (by omega)];exact(List.pairwise_iff_getElem.1 h.1) j i (by omega) hi hji
 ·rw[at_ i hi];exact h.2 _ (List.getElem_mem hi)
theorem qR {L:List T} (h:aX L) (m:M):0≤bN L m∧bN L m≤100:=by
 induction L with
 |nil=>simp[bN]
 |cons t r ih=>
  rw[bN];split
  ·have:=h.2 t (List.mem_cons_self ..);omega
  ·exact ih h.tail
theorem dN:aX []:=⟨List.Pairwise.nil,fun t h=>by cases h⟩
def dG (K X:List T):List T:=cV (lf K) K.length (lf X) X.length 0 0
theorem iN {K X:List T} (hK:aX K) (hX:aX X):aX (dG K X)∧∀m,bN (dG K X) m=(bN K m+bN X m)%101:=by obtain⟨_,h2,h3⟩:=gH (xW hK) (xW hX) (K.length-0+(X.length-0)) 0 0 (Nat.le_refl _);refine⟨h2,fun m=>(h3 m).trans ?_⟩;rw[Nat.sub_zero,Nat.sub_zero,nK,nK]
theorem AE {L:List T} (hL:aX L) {c:Int} {m:M} (hm:m.ok=true) (c0:0≤c) (c1:c≤100):aX (iY c m L)∧∀x,bN (iY c m L) x=jA (bN L) m c x:=by
 unfold iY;by_cases hc:c=0
 ·rw[if_pos hc];refine⟨hL,fun x=>?_⟩;unfold jA;split
  ·rename_i hx;have:=qR hL m
   rw[iG.1 hx,hc];omega
  ·rfl
 ·rw[if_neg hc];have G:Fl (fun _=>(⟨c,m⟩:T)) 1:=⟨fun j i h1 h2=>by omega,fun i hi=>⟨hm,by show 1≤c;omega,c1⟩⟩
  obtain⟨_,h2,h3⟩:=gH (xW hL) G (L.length-0+(1-0)) 0 0 (Nat.le_refl _);refine⟨h2,fun x=>(h3 x).trans ?_⟩;rw[Nat.sub_zero,Nat.sub_zero,nK];show(bN L x+(if mF m x=true then c else 0))%101=_
  have hr:=qR hL x;unfold jA;by_cases hx:x=m
  ·subst hx;rw[if_pos (cC.2 rfl),if_pos (iG.2 rfl)]
  ·rw[if_neg (fun e=>hx (cC.1 e).symm),if_neg (fun e=>hx (iG.1 e))];omega
def cA (xs:List T) (L:List T):List T:=xs.foldl (fun L t=>iY t.c t.m L) L
def dT (c:M→Int) (xs:List T):M→Int:=xs.foldl (fun c t=>jA c t.m t.c) c
def QU (xs:List T):Prop:=∀t∈xs,t.m.ok=true∧0≤t.c∧t.c≤100
theorem eR:∀(xs:List T) (L:List T),QU xs→aX L→aX (cA xs L)∧bN (cA xs L)=dT (bN L) xs
 |[],L,_,hL=>⟨hL,rfl⟩
 |t::r,L,hx,hL=>by
  have h1:=hx t (List.mem_cons_self ..);have h2:=AE hL h1.1 h1.2.1 h1.2.2
  have h3:=eR r (iY t.c t.m L) (fun s hs=>hx s (List.mem_cons_of_mem _ hs)) h2.1;refine⟨h3.1,?_⟩;show bN (cA r (iY t.c t.m L))=dT (jA (bN L) t.m t.c) r
  rw[h3.2,funext h2.2]
theorem lA:∀(xs:List T) (c:M→Int) (m:M),QU xs→(∀m,0≤c m∧c m≤100)→dT c xs m=(c m+dT (fun _=>0) xs m)%101
 |[],c,m,_,hc=>by
  have:=hc m;show c m=(c m+0)%101
  omega
 |t::r,c,m,hx,hc=>by
  have h1:=hx t (List.mem_cons_self ..);have hr:∀(d:M→Int),(∀m,0≤d m∧d m≤100)→∀m,0≤jA d t.m t.c m∧jA d t.m t.c m≤100:=fun d hd m=>by
   unfold jA;split
   ·omega
   ·exact hd m
  have hz:∀m:M,(0:Int)≤(fun _=>0:M→Int) m∧(fun _=>0:M→Int) m≤100:=fun _=>⟨Int.le_refl _,by show(0:Int)≤100;decide⟩
  have e1:=lA r (jA c t.m t.c) m (fun s hs=>hx s (List.mem_cons_of_mem _ hs)) (hr c hc);have e2:=lA r (jA (fun _=>0) t.m t.c) m (fun s hs=>hx s (List.mem_cons_of_mem _ hs)) (hr _ hz)
  show dT (jA c t.m t.c) r m=(c m+dT (jA (fun _=>0) t.m t.c) r m)%101;rw[e1,e2];unfold jA;by_cases hx:m=t.m
  ·subst hx;rw[if_pos (iG.2 rfl),if_pos (iG.2 rfl)];clear e1 e2;dsimp only;omega
  ·rw[if_neg (fun e=>hx (iG.1 e)),if_neg (fun e=>hx (iG.1 e))];clear e1 e2;dsimp only;omega
def fZ:Option (List T)→List T×Bool
 |some K=>(K,true)
 |none=>([],false)
theorem dJ {L:List T} (h:aX L):SG L:=fun t ht=>by have:=h.2 t ht;omega
def CN (f:Nat→T) (n:Nat):Prop:=∀i,i<n→(f i).m.ok=true∧0≤(f i).c∧(f i).c≤100
theorem gM {n:Nat} {f:Nat→T} (h:aH n f=true):n≤400∧CN f n:=by
 have hp:=h;simp only[aH,decide_eq_true_eq]at hp;refine⟨hp.1,fun i hi=>?_⟩;have:=(cG h).2 i hi
 exact⟨this.1,by omega,this.2.2⟩
theorem yQ {n:Nat} {f:Nat→T} (h:aH n f=true) {i:Nat} (hi:i<n):(f i).m.ok=true∧0≤(f i).c∧(f i).c≤100:=by have:=(cG h).2 i hi;exact⟨this.1,by omega,this.2.2⟩
end Go.Proofs.YtkcmamepoplcdaaGreatDoor
