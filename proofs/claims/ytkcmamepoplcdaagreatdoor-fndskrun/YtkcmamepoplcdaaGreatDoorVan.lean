/-
  A sum told as an operator.
-/
import Derived.Test.YtkcmamepoplcdaaGreatDoorVam
import Derived.Maps.OwnIn
set_option maxHeartbeats 4000000
set_option maxRecDepth 100000
namespace Go.Proofs.YtkcmamepoplcdaaGreatDoor
open Go.RowKit Go.Maps Go.Sort Go.Shelf
set_option linter.unusedVariables false
attribute [local go_sem] Oper.semAt_some
def MF (c:M→Int) (x:BA):T:=⟨c x.2.1,x.2.1⟩
theorem nE {w W:World} {P:Program} {k:TypeId} {R:Value→Option (DataW Unit×List MemPlace)} {b n:Nat} {D:DataW Unit} (h:w.ownsMap P k R b n D) (hb:W.heap[b]? =w.heap[b]?):W.ownsMap P k R b n D:=by obtain⟨es,clock,h1,r⟩:=h;exact⟨es,clock,hb.trans h1,r⟩
theorem TM:(Tryz.prog.info? 79).map (fun i=>(i.zero,i.size,i.bytes))=some (some (.agg #[.int .i64 0,.int .i64 0,.int .i64 0,.int .i64 0,.int .i64 0]),5,40):=by kernel_rfl
theorem qE (c:M→Int) (m:M):∀ms:List M,m∈ms→bV (ms.map fun x=>(⟨c x,x⟩:T)) m=c m
 |[],h=>by cases h
 |x::r,h=>by
  simp only[List.map_cons,bV];by_cases hx:x=m
  ·rw[if_pos (cH.2 hx),hx]
  ·rw[if_neg (fun e=>hx (cH.1 e))];exact qE c m r ((List.mem_cons.1 h).resolve_left (fun e=>hx e.symm))
theorem nY (c:M→Int) (m:M):∀ms:List M,m∉ms→bV (ms.map fun x=>(⟨c x,x⟩:T)) m=0
 |[],_=>rfl
 |x::r,h=>by simp only[List.map_cons,bV];rw[if_neg (fun e=>h (by rw[←cH.1 e];exact List.mem_cons_self ..))];exact nY c m r (fun e=>h (List.mem_cons_of_mem _ e))
theorem JM {α:Type} (key:M→α) (hinj:∀a b:M,a.ok=true→b.ok=true→key a=key b→a=b) {K:List T} (hK:bC K) (ks:List α) (h:∀t∈K,key t.m∈ks):K.length≤ks.length:=by
 letI:DecidableEq α:=fun a b=>Classical.propDecidable (a=b)
 have hnd:(K.map fun t=>key t.m).Nodup:=by
  rw[List.Nodup,List.pairwise_map];refine hK.1.imp_of_mem (S:=fun a b=>key a.m≠key b.m) ?_;intro a b ha hb h e;have:=hinj _ _ (hK.2 a ha).1 (hK.2 b hb).1 e
  rw[this]at h;omega
 have:=kZ (K.map fun t=>key t.m) ks hnd (fun x hx=>by
  obtain⟨t,ht,rfl⟩:=List.mem_map.1 hx
  exact h t ht)
 simpa using this
theorem yD {m:M}:∀{L:List T},bV L m≠0→m∈L.map (·.m)
 |[],h=>absurd rfl h
 |t::r,h=>by
  rw[bV]at h;by_cases ht:nA t.m m=true
  ·simp[cH.1 ht]
  ·rw[if_neg ht]at h;simpa using Or.inr (by simpa using yD h)
theorem yE {L:List T} (hL:bC L) {t:T} (ht:t∈L):bV L t.m=t.c:=by
 induction L with
 |nil=>cases ht
 |cons s r ih=>
  rcases List.mem_cons.1 ht with rfl|h
  ·exact cD _ _
  ·have h1:=hL.head t h;rw[kT (fun e=>by rw[e]at h1;omega)];exact ih hL.tail h
theorem xB {w:World} {b n:Nat} {D:DataW Unit} {c:M→Int} (hown:w.ownsMap Tryz.prog 77 (plainElem Tryz.prog 118) b n D) (hat:∀m:M,m.ok=true→D.atKey (dC m) (.lit (.int .i64 0))= .lit (.int .i64 (c m))∧(Maps.has D (dC m)=true↔c m≠0)) (hks:∀kl,Maps.has D kl=true→∃m:M,m.ok=true∧kl=dC m) {K:List T} (hK:bC K) (hKc:∀m,m.ok=true→bV K m=c m):Maps.size D=K.length:=by
 have h1:Maps.size D≤K.length:=by
  have:=xC hown (K.map (·.m)) (fun kl hkl=>by
   obtain⟨m,hm,rfl⟩:=hks kl hkl;refine⟨m,yD ?_,rfl⟩;rw[hKc m hm]
   exact(hat m hm).2.1 hkl)
  simpa using this
 have h2:K.length≤Maps.size D:=by
  obtain⟨es,he,hp⟩:=hown.tidy oL
  have:=JM dC (fun a b ha hb e=>sC ha hb e) hK (es.map (·.1)) (fun t ht=>by
   have hto:=hK.2 t ht;have hh:Maps.has D (dC t.m)=true:=(hat t.m hto.1).2.2 (by rw[←hKc t.m hto.1,yE hK ht];omega)
   rw[he,has_eq,List.any_eq_true]at hh;obtain⟨p,hpe,hs⟩:=hh;rw[←WideAt.sameKey_eq hs]
   exact List.mem_map_of_mem hpe)
  rw[he,size_eq];simpa using this
 omega
theorem RP {c:M→Int} (hc:∀m,0≤c m∧c m≤100) {dO:List OM} (hs:dO.Pairwise (fun a b=>eR a.1<eR b.1)) (hm:∀m:M,m.ok=true→(m∈dO.map (·.1)↔c m≠0)) {K:List T} (hK:bC K) (hKc:∀m,m.ok=true→bV K m=c m):(gA dO 0).map (MF c)=K:=by
 have hcl:∀x∈gA dO 0,x.2∈dO:=fun x hx=>by
  unfold gA at hx;obtain⟨j,hj,rfl⟩:=List.mem_map.1 hx;rw[List.mem_range]at hj;have hi:dO.length-1-j<dO.length:=by omega
  show dO.getD (dO.length-1-j) default∈dO;rw[List.getD_eq_getElem?_getD,List.getElem?_eq_getElem hi];exact List.getElem_mem hi
 have hcl2:∀o∈dO,o.1∈(gA dO 0).map (fun x=>x.2.1):=fun o ho=>by
  obtain⟨i,hi,rfl⟩:=List.getElem_of_mem ho;refine List.mem_map.2 ⟨jJ dO i,?_,?_⟩
  ·unfold gA;refine List.mem_map.2 ⟨dO.length-1-i,List.mem_range.2 (by omega),?_⟩;rw[show dO.length-1-(dO.length-1-i)=i by omega]
  ·simp[jJ,hi]
 have e1:(gA dO 0).map (MF c)=((gA dO 0).map (fun x=>x.2.1)).map (fun x=>(⟨c x,x⟩:T)):=by rw[List.map_map];rfl
 refine uL ⟨?_,?_⟩ hK (fun m hmo=>?_)
 ·rw[List.pairwise_map];unfold gA;rw[List.pairwise_map];refine(List.pairwise_lt_range (n:=dO.length-0)).imp_of_mem ?_;intro j i hj hi hji;rw[List.mem_range]at hj hi;have:=(List.pairwise_iff_getElem.1 hs) (dO.length-1-i) (dO.length-1-j) (by omega) (by omega) (by omega)
  have g1:(jJ dO (dO.length-1-i)).2=dO[dO.length-1-i]'(by omega):=by simp[jJ,show dO.length-1-i<dO.length by omega]
  have g2:(jJ dO (dO.length-1-j)).2=dO[dO.length-1-j]'(by omega):=by simp[jJ,show dO.length-1-j<dO.length by omega]
  show eR (jJ dO (dO.length-1-i)).2.1<eR (jJ dO (dO.length-1-j)).2.1;rw[g1,g2];exact this
 ·intro t ht;obtain⟨x,hx,rfl⟩:=List.mem_map.1 ht;have h1:=(hm x.2.1 x.2.2).1 (List.mem_map_of_mem (hcl x hx))
  have h2:=hc x.2.1;exact⟨x.2.2,by show 1≤c x.2.1;omega,by show c x.2.1≤100;omega⟩
 ·rw[e1,hKc m hmo];by_cases hn:m∈(gA dO 0).map (fun x=>x.2.1)
  ·exact qE c m _ hn
  ·rw[nY c m _ hn];have:¬c m≠0:=fun h=>by obtain⟨o,ho,he⟩:=List.mem_map.1 ((hm m hmo).2 h);exact hn (he▸hcl2 o ho)
   omega
end Go.Proofs.YtkcmamepoplcdaaGreatDoor
namespace Go.Proofs.YtkcmamepoplcdaaGreatDoor
open Go.RowKit Go.Maps
set_option linter.unusedVariables false
attribute [local go_sem] Oper.semAt_some
abbrev TO:Type:={t:T // t.m.ok=true∧0≤t.c∧t.c≤100}
def RB (x:TO):Array Value:=#[.agg #[.int .i64 x.1.c,.int .i64 x.1.m.x,.int .i64 x.1.m.y,.int .i64 x.1.m.d,.int .i64 x.1.m.e]]
def jX (c:M→Int) (xs:List TO):M→Int:=xs.foldl (fun c t=>jR c t.1.m t.1.c) c
theorem xW (c:M→Int) (xs:List TO) (x:TO):jX c (xs++[x])=jR (jX c xs) x.1.m x.1.c:=by simp[jX]
theorem kJ {α β:Type} (k:Nat) (f:α→List β) (h:∀x,(f x).length=k):∀l:List α,(l.flatMap f).length=l.length*k
 |[]=>by simp
 |x::r=>by rw[List.flatMap_cons,List.length_append,h,kJ k f h r,List.length_cons,Nat.add_mul];omega
def bF (W:World) (Bx:Nat) (t:T):Prop:=W.heap[Bx]? =some (.cells #[.int .i64 t.c,.int .i64 t.m.x,.int .i64 t.m.y,.int .i64 t.m.d,.int .i64 t.m.e] 79 (0,0))
theorem bF.cells {W:World} {Bx:Nat} {t:T} (h:bF W Bx t):W.cell? ⟨Bx,0,none⟩=some (.int .i64 t.c)∧W.cell? ⟨Bx,1,none⟩=some (.int .i64 t.m.x)∧W.cell? ⟨Bx,2,none⟩=some (.int .i64 t.m.y)∧W.cell? ⟨Bx,3,none⟩=some (.int .i64 t.m.d)∧W.cell? ⟨Bx,4,none⟩=some (.int .i64 t.m.e):=by unfold bF at h;refine⟨?_,?_,?_,?_,?_⟩<;>(unfold World.cell?;simp only[h];rfl)
theorem gC {B Bx:Nat} {o:Obj} (ho:o.isCells=true) {X Y:World} {row:Option Nat} (h:X.heap[Bx]? =some o) (hg:X.grownBy Y row) (hr:∀r,row=some r→B≤r∧∃o:Obj,X.heap[r]? =some o∧o.isCells=false):Y.heap[Bx]? =some o:=
 (hg.block Bx (Array.getElem?_eq_some_iff.1 h).1 (fun e=>by obtain⟨_,o',ho',hc⟩:=hr Bx e.symm;rw[h]at ho';cases ho';rw[ho]at hc;cases hc)).trans h
def allM:List M:=(List.range 16).flatMap fun(x:Nat)=>(List.range 16).flatMap fun(y:Nat)=>(List.range 16).flatMap fun(d:Nat)=>(List.range 16).map fun(e:Nat)=>(⟨(x:Int),(y:Int),(d:Int),(e:Int)⟩:M)
theorem GU:allM.length=65536:=by unfold allM;rw[kJ (16*(16*16)) _ (fun x=>by rw[kJ (16*16) _ (fun y=>by rw[kJ 16 _ (fun d=>by simp)];simp)];simp)];simp
theorem GV {m:M} (h:m.ok=true):m∈allM:=by obtain⟨x1,x2,y1,y2,d1,d2,e1,e2⟩:=M.ok_iff.1 h;unfold allM;refine List.mem_flatMap.2 ⟨m.x.toNat,List.mem_range.2 (by omega),List.mem_flatMap.2 ⟨m.y.toNat,List.mem_range.2 (by omega),List.mem_flatMap.2 ⟨m.d.toNat,List.mem_range.2 (by omega),List.mem_map.2 ⟨m.e.toNat,List.mem_range.2 (by omega),?_⟩⟩⟩⟩;cases m;simp only at x1 y1 d1 e1⊢;rw[Int.toNat_of_nonneg x1,Int.toNat_of_nonneg y1,Int.toNat_of_nonneg d1,Int.toNat_of_nonneg e1]
theorem fD.cap {w:World} {b n:Nat} {c:M→Int} (h:fD w b n c):fD w b 65536 c:=by
 obtain⟨D,hown,hc,hat,hks⟩:=h;have hs:Maps.size D≤65536:=by rw[←GU];exact xC hown allM (fun kl hkl=>by obtain⟨m,hm,rfl⟩:=hks kl hkl;exact⟨m,GV hm,rfl⟩)
 refine⟨D,?_,hc,hat,hks⟩;obtain⟨es,clock,h1,h2,h3,h4⟩:=hown;subst h4;rw[size_eq,length_read]at hs;exact⟨es,clock,h1,h2,hs,rfl⟩
theorem fD.lt {w:World} {b n:Nat} {c:M→Int} (h:fD w b n c):b<w.heap.size:=by obtain⟨D,ho,_⟩:=h;exact ho.lt
theorem fD.map {w:World} {b n:Nat} {c:M→Int} (h:fD w b n c):∀o,w.heap[b]? =some o→o.isCells=false:=by obtain⟨D,⟨es,clock,h1,_⟩,_⟩:=h;intro o ho;rw[h1]at ho;cases ho;rfl
theorem uN {w W W':World} {b:Nat} {row:Option Nat} (h:w.grownBy W (some b)) (hg:W.grownBy W' row) (hr:∀r,row=some r→w.heap.size≤r):w.grownBy W' (some b):=
 ⟨hg.os.trans h.os,hg.tape.trans h.tape,hg.output.trans h.output,iS h.size hg.size,fun k hk hne=>(hg.block k (eH hk h.size) (fun e=>by have:=hr k e.symm;omega)).trans (h.block k hk hne)⟩
theorem NQ (w:World) (b:Nat) (c:M→Int) (h:fD w b 65536 c) (g:Nat) (lb:Array Value) (eg:∀args w,(callFunc g args).run Tryz.prog w= .ok (.enter g args) w) (xs:List TO) (hseq:QH Tryz.prog g lb RB xs w):Calls Tryz.prog 144 #[.map (some b),.func (.func g) #[] lb] w fun e w'=>e= .returned (.tuple #[])∧fD w' b 65536 (jX c xs)∧w.grownBy w' (some b):=by
 have hblt:=h.lt;have HS:=aA h
 have HQ:=aA hseq;clear h hseq;refine(callsIn_wide (n:=9)).1 ?_;refine callsIn_of_wp_marks Tryz.func144 rfl trivial ?_ rfl;simp only[Tryz.ntmps144,List.size_toArray,List.length_cons,List.length_nil,Nat.reduceAdd,Nat.reduceSub,Array.replicate_succ,Array.replicate_zero,List.push_toArray,List.append_toArray,List.nil_append,List.cons_append]
 gi_wp2
 have bs:=Boxed.new w 120 (.map (some b));have hg0:=World.grownBy_alloc w (.cells #[.map (some b)] 120) (some b)
 have hS0:=HS.out.grown (World.grownBy_alloc w (.cells #[.map (some b)] 120) none) (by simp);have hbw:Below w.heap.size w (w.alloc (.cells #[.map (some b)] 120)):=(aD _ w).alloc (Nat.le_refl _) _
 have hs0:(w.alloc (.cells #[.map (some b)] 120)).heap.size=w.heap.size+1:=by simp
 generalize w.alloc (.cells #[.map (some b)] 120)=W0 at *
 refine SA (by decide) (gf:=g) (lb:=lb) rfl eg HQ.out hbw (fun _=>rfl)
  (fun(pre:List TO) W=>fD W b 65536 (jX c pre)∧(Boxed W w.heap.size 120 (.map (some b))∧w.grownBy W (some b)))
  (OwnFrom.and (fun s X Y row hs hg hr=>hs.grown hg (fun e=>by have:=(hr b e.symm).1;omega)) (OwnFrom.and (Own.from (boxed_own _ _ (fun _=>Value.map (some b))) _) (fun s X Y row hs hg hr=>uN hs hg (fun r e=>by have:=(hr r e).1;omega))))
  ⟨hS0,bs,hg0⟩
  (fun x a' W=>∃Bx,bF W Bx x.1∧a'=({tmps:=#[.map (some b),.func (.func g) #[] lb,.pointer (some ⟨w.heap.size,0,none⟩),undef,.pointer (some ⟨Bx,0,none⟩),.func (.func g) #[] lb,.agg #[.int .i64 x.1.c,.int .i64 x.1.m.x,.int .i64 x.1.m.y,.int .i64 x.1.m.d,.int .i64 x.1.m.e],undef,undef,undef,undef,undef,undef],defers:=[]}:Act))
  (fun x a' _ X Y row hs hg hr=>by obtain⟨Bx,h2,h3⟩:=hs;exact⟨Bx,gC rfl h2 hg hr,h3⟩)
  ?assign ?body ?done
 case assign=>
  rintro l pre x W K' ⟨hS,bS,hgW⟩ hK';obtain⟨t,ht⟩:=x;dsimp only[RB]at hK'⊢
  gi_wp2
  exact hK' _ _ ((KeepsOthers.alloc _ _).from _) (bK _ _) ⟨hS.grown (World.grownBy_alloc W _ none) (by simp),bS.alloc _,hgW.trans (World.grownBy_alloc W _ (some b))⟩ ⟨W.heap.size,World.alloc_heap_new W _,rfl⟩
 case body=>
  rintro l pre x a' W ⟨hS,bS,hgW⟩ ⟨Bx,hX,rfl⟩;obtain⟨t,hto,htc,htc'⟩:=x;dsimp only at hX⊢;obtain⟨x0,x1,x2,x3,x4⟩:=hX.cells;have cS:=bS.cell
  have HSS:=aA hS;clear hS
  gi_wp2_with (first
   |(refine⟨trivial,rfl,?_⟩;gi_at_call 117;(refine(CallsIn.inRound l (callsIn_wide.2 (xH b 65536 _ t.c t.m W hto HSS.out (by unfold maxLen;omega) htc htc'))).mono ?_;rintro e w' ⟨rfl,hs',hg'⟩))
   |gi_in)
  have hk:cellsK W w':=kS hg' (fun k e o ho=>by cases e;exact HSS.out.map o ho);refine⟨KeepsFrom.of_grownBy hg' (fun j e=>by cases e;omega),hk,?_,bQ bS hk,hgW.trans hg'⟩;rw[xW];exact hs'.cap
 case done=>
  rintro D W hD ⟨hS,bS,hgW⟩ hKd
  gi_wp2
  refine⟨by simp,.inl ⟨_,_,rfl,run_takeDeferred hKd,?_⟩⟩;exact⟨_,results_none rfl _ _ _,rfl,hS.grown (grownBy_putObj' W D (.deferred none)) (fun e=>by cases e;omega),uN hgW (grownBy_putObj' W D (.deferred none)) (fun r e=>by cases e;omega)⟩
end Go.Proofs.YtkcmamepoplcdaaGreatDoor
namespace Go.Proofs.YtkcmamepoplcdaaGreatDoor
open Go.RowKit
set_option linter.unusedVariables false
theorem tX {F:Fence} {n:Nat} {P:Program} {md:Region.Mode} {ops:Array Oper} {Q:Exit→Act→World→Prop} {I:Array Bool→Act→World→Prop} (hs:∀l a w,I l a w→∀i∈Region.ready md ops l,wpOpIn F n P ops Q i (I (l.setIfInBounds i true)) a w) (he:∀l a w,I l a w→Region.ready md ops l=[]→Q .normal a w):∀(fuel:Nat) (l:Array Bool) (a:Act) (w:World),fB l≤fuel→I l a w→wpAnyIn F n P md ops Q fuel l a w
 |0,l,a,w,hf,hI=>by
  have hr:Region.ready md ops l=[]:=by
   rw[List.eq_nil_iff_forall_not_mem];intro i hi;have h0:=bG (mem_ready.1 hi).1
   exact gY l.toList (by unfold fB at hf;omega) i (by simpa using h0)
  exact⟨hr,he l a w hI hr⟩
 |fuel+1,l,a,w,hf,hI=>by
  refine⟨fun hr=>he l a w hI hr,fun i hi=>?_⟩;have h0:=bG (mem_ready.1 hi).1
  have h1:=fC h0;exact wpOpIn_mono (fun a' w' h=>tX hs he fuel _ a' w' (by omega) h) (hs l a w hI i hi)
def RT (ops:Array Oper) (F:(Nat→Value)→Act) (P:Nat→Value→Prop) (n A:Nat) (w0:World) (Y Z:World→Value→Prop) (l:Array Bool) (a:Act) (u:World):Prop:=
 ∃vs:Nat→Value,a=F vs∧l.size=n∧dM ops l∧(l.getD A false=false→u=w0∧∀k,l.getD k false=true→P k (vs k))∧(l.getD A false=true→l.getD (A+1) false=false→Y u (vs A))∧(l.getD (A+1) false=true→Z u (vs (A+1)))
theorem RT.start {ops:Array Oper} {F:(Nat→Value)→Act} {P:Nat→Value→Prop} {n A:Nat} {w0:World} {Y Z:World→Value→Prop} {a:Act} (vs:Nat→Value) (ha:a=F vs):RT ops F P n A w0 Y Z (Array.replicate n false) a w0:=
 ⟨vs,ha,by simp,dM.start _ _,fun _=>⟨rfl,fun k h=>pU h⟩,fun h=>pU h,fun h=>pU h⟩
theorem RT.step {ops:Array Oper} {F:(Nat→Value)→Act} {P:Nat→Value→Prop} {n A:Nat} {w0:World} {Y Z:World→Value→Prop} {l:Array Bool} {vs:Nat→Value} (i:Nat) (v:Value) {a:Act} (hi:i∈Region.ready .any ops l) (hno:ops.size=n) (hA:l.getD A false=false) (hA1:l.getD (A+1) false=false) (hiA:i<A) (hl:l.size=n) (hcl:dM ops l) (hf:∀k,l.getD k false=true→P k (vs k)) (hv:P i v) (ha:a=F (fun k=>if k=i then v else vs k)):RT ops F P n A w0 Y Z (l.setIfInBounds i true) a w0:=by
 refine⟨fun k=>if k=i then v else vs k,ha,by simp[hl],hcl.step hi (by omega),fun _=>⟨rfl,fun k hk=>?_⟩,fun h=>?_,fun h=>?_⟩
 ·by_cases hki:k=i
  ·have hv2:P k v:=by rw[hki];exact hv
   exact Eq.mpr (congrArg (fun z=>P k z) (if_pos hki)) hv2
  ·rw[getD_set_ne false (fun e=>hki e.symm)]at hk;exact Eq.mpr (congrArg (fun z=>P k z) (if_neg hki)) (hf k hk)
 ·rw[getD_set_ne false (by omega),hA]at h;cases h
 ·rw[getD_set_ne false (by omega),hA1]at h;cases h
theorem RT.last {ops:Array Oper} {F:(Nat→Value)→Act} {P:Nat→Value→Prop} {n A:Nat} {w0 u':World} {Y Z:World→Value→Prop} {l:Array Bool} {vs:Nat→Value} (v:Value) {a:Act} (hi:A∈Region.ready .any ops l) (hno:ops.size=n) (hAn:A<n) (hA1:l.getD (A+1) false=false) (hl:l.size=n) (hcl:dM ops l) (hv:Y u' v) (ha:a=F (fun k=>if k=A then v else vs k)):RT ops F P n A w0 Y Z (l.setIfInBounds A true) a u':=by
 refine⟨fun k=>if k=A then v else vs k,ha,by simp[hl],hcl.step hi (by omega),fun h=>?_,fun _ _=>Eq.mpr (congrArg (fun z=>Y u' z) (if_pos rfl)) hv,fun h=>?_⟩
 ·rw[gK false (by omega)]at h;cases h
 ·rw[getD_set_ne false (by omega),hA1]at h;cases h
theorem RT.fin {ops:Array Oper} {F:(Nat→Value)→Act} {P:Nat→Value→Prop} {n A:Nat} {w0 u':World} {Y Z:World→Value→Prop} {l:Array Bool} {vs:Nat→Value} (v:Value) {a:Act} (hi:A+1∈Region.ready .any ops l) (hno:ops.size=n) (hA:l.getD A false=true) (hAn:A+1<n) (hl:l.size=n) (hcl:dM ops l) (hz:Z u' v) (ha:a=F (fun k=>if k=A+1 then v else vs k)):RT ops F P n A w0 Y Z (l.setIfInBounds (A+1) true) a u':=by
 refine⟨_,ha,by simp[hl],hcl.step hi (by omega),fun h=>?_,fun _ h=>?_,fun _=>Eq.mpr (congrArg (fun z=>Z u' z) (if_pos rfl)) hz⟩
 ·rw[getD_set_ne false (by omega),hA]at h;cases h
 ·rw[gK false (by omega)]at h;cases h
theorem FM {nn l id:Nat} {P:Program} {ops:Array Oper} {Q:Exit→Act→World→Prop} (F:(Nat→Value)→Act) (K:Nat→Value→Prop) (n A:Nat) (w0:World) (Y Z:World→Value→Prop) {a:Act} (hm:P.follows .mixedOrders=true) (h0:RT ops F K n A w0.drew Y Z (Array.replicate ops.size false) a w0.drew) (hs:∀li a w,RT ops F K n A w0.drew Y Z li a w→∀i∈Region.ready .any ops li,wpOpIn (Fence.wide.inRound l) nn P ops Q i (RT ops F K n A w0.drew Y Z (li.setIfInBounds i true)) a w) (he:∀li a w,RT ops F K n A w0.drew Y Z li a w→Region.ready .any ops li=[]→Q .normal a w):(Code.region id ops true).wpIn (Fence.wide.inRound l) nn P Q a w0:=
 wpIn_region_any hm (tX hs he ops.size _ a _ (by rw[eG];exact Nat.le_refl _) h0)
theorem BV {nn l2 l m i:Nat} {P:Program} {ops:Array Oper} {o:Oper} {Q:Exit→Act→World→Prop} {K:Act→World→Prop} {a:Act} {u:World} {R:Ending→World→Prop} (ho:ops[i]? =some o) (hgd:o.guard=none) (f x:Operand) (ty:Array TypeId) (hop:o.op= .call {callee:=.value f,args:=#[x],argTypes:=ty}) (hf:a.eval f= .func (.yield l) #[] #[]) (v:Value) (hx:a.eval x=v) (hY:YieldAt Fence.wide m P l #[v] u R) (h:∀e W',R e W'→∃bv,e= .returned bv∧K (a.put o.dst bv) W'):wpOpIn (Fence.wide.inRound l2) nn P ops Q i K a u:=by
 obtain⟨fn,tmps,assign,body,hy,hR⟩:=hY;have hw:Region.wanted o (yielded ops a.tmps)=true:=by simp[Region.wanted,hgd]
 unfold wpOpIn;rw[ho];simp only[hw,if_true];refine⟨fun _ _=>trivial,?_⟩;rw[show(Fence.wide.inRound l2).round=some l2 from rfl,Oper.semAt_some l2 _ _ (by rw[hop];intro c hc;cases hc)];have hrun:(execOp a.eval o).run P u= .ok (.round l fn tmps assign body) u:=by
  have e1:execOp a.eval o=(do let d ←resolve a.eval {callee:=.value f,args:=#[x],argTypes:=ty} o.type;invoke d.target d.args):=by unfold execOp;rw[hop]
  have e2:(resolve a.eval {callee:=.value f,args:=#[x],argTypes:=ty} o.type).run P u= .ok {target:=.fn (.yield l) #[],args:=#[v]} u:=by
   show(Deferred.ofValue (a.eval f) (#[x].map a.eval)).run P u=_;have e3:(#[x]:Array Operand).map a.eval=#[v]:=by rw[←hx];simp
   rw[hf,e3];simp[Deferred.ofValue,Sem.run_pure]
  rw[e1,Sem.run_bind,e2];exact hy
 rw[hrun];refine⟨fun e=>(by cases e),?_⟩;refine RoundIn.mono (FO (m':=nn-1) hR) (fun e W' he=>?_);obtain⟨bv,rfl,hk⟩:=h e W' he;exact hk
def gF (a b:T):Nat:=(min a.m.d b.m.x).toNat
def iG (a b:T):Nat:=(min a.m.e b.m.y).toNat
structure lR (a b:T) (g:M):Prop where
 ok1:a.m.ok=true
 ok2:b.m.ok=true
 ok3:g.ok=true
 gx:g.x=a.m.x+b.m.x
 gy:g.y=a.m.y+b.m.y
 gd:g.d=a.m.d+b.m.d
 ge:g.e=a.m.e+b.m.e
 c1:0≤a.c∧a.c≤100
 c2:0≤b.c∧b.c≤100
theorem lR.lx {a b:T} {g:M} (h:lR a b g):(gF a b:Int)=min a.m.d b.m.x:=by
 have h1:=M.ok_iff.1 h.ok1;have h2:=M.ok_iff.1 h.ok2
 unfold gF;omega
theorem lR.ly {a b:T} {g:M} (h:lR a b g):(iG a b:Int)=min a.m.e b.m.y:=by
 have h1:=M.ok_iff.1 h.ok1;have h2:=M.ok_iff.1 h.ok2
 unfold iG;omega
def sY (a b:T) (g:M) (px:TK (gF a b)) (py:TK (iG a b)):T:=⟨a.c*b.c%101*px.1.2%101*py.1.2%101,⟨g.x-px.1.1,g.y-py.1.1,g.d-px.1.1,g.e-py.1.1⟩⟩
theorem LN {a b:T} {g:M} (h:lR a b g) (px:TK (gF a b)) (py:TK (iG a b)):(sY a b g px py).m.ok=true∧0≤(sY a b g px py).c∧(sY a b g px py).c≤100:=by
 have h1:=M.ok_iff.1 h.ok1;have h2:=M.ok_iff.1 h.ok2
 have h3:=M.ok_iff.1 h.ok3;have hx:=px.2
 have hy:=py.2;have lx:=h.lx
 have ly:=h.ly;have gx:=h.gx
 have gy:=h.gy;have gd:=h.gd
 have ge:=h.ge;refine⟨M.ok_iff.2 ?_,?_,?_⟩
 ·simp only[sY];omega
 ·show 0≤a.c*b.c%101*px.1.2%101*py.1.2%101;omega
 ·show a.c*b.c%101*px.1.2%101*py.1.2%101≤100;omega
def lK {a b:T} {g:M} (h:lR a b g) (px:TK (gF a b)) (py:TK (iG a b)):TO:=⟨sY a b g px py,LN h px py⟩
def MK (a b:T):List (TK (iG a b)):=kN (iG a b) a.m.e b.m.y (iG a b+1)
def GW (a b:T):List (TK (gF a b)):=kN (gF a b) a.m.d b.m.x (gF a b+1)
def kH {a b:T} {g:M} (h:lR a b g) (pre:List (TK (gF a b))):List TO:=pre.flatMap fun px=>(MK a b).map (lK h px)
theorem uK {a b:T} {g:M} (h:lR a b g) (pre:List (TK (gF a b))) (x:TK (gF a b)):kH h (pre++[x])=kH h pre++(MK a b).map (lK h x):=by simp[kH]
theorem cO {n:Nat} {f:Nat→T} (h:aK n f=true):Fl f n:=by
 have hp:=h;simp only[aK,decide_eq_true_eq]at hp;have h1:∀i,i<n→(f i).m.ok=true∧1≤(f i).c∧(f i).c≤100:=fun i hi=>by have:=hp.2 i hi;simp only[fO,Bool.and_eq_true,decide_eq_true_eq]at this;exact⟨this.1.2,this.1.1⟩
 refine⟨fun j i hji hi=>?_,h1⟩;induction i with
 |zero=>omega
 |succ i ih=>
  have h2:=hp.2 (i+1) hi;simp only[fO,Bool.and_eq_true,Bool.or_eq_true,decide_eq_true_eq]at h2;have h3:=h2.2.resolve_left (by omega)
  rw[show i+1-1=i by omega]at h3;have h4:=(oR (h1 i (by omega)).1 (h1 (i+1) hi).1).1 h3
  by_cases hji2:j=i
  ·rw[hji2];exact h4
  ·have:=ih (by omega) (by omega);omega
def iH (c:Int) (m:M) (L:List T):List T:=if c=0 then L else dF (lf L) L.length (fun _=>⟨c,m⟩) 1 0 0
def LZ (L:List T):Prop:=∀t∈L,0≤t.c∧t.c≤100
theorem CE:LZ []:=fun t ht=>by simp at ht
theorem RO {L:List T} {i:Nat} (h:i<L.length):lf L i∈L:=by unfold lf;rw[List.getD_eq_getElem?_getD,List.getElem?_eq_getElem h];exact List.getElem_mem h
theorem LZ.at {L:List T} (h:LZ L):∀i,i<L.length→0≤(lf L i).c∧(lf L i).c≤100:=fun i hi=>h _ (RO hi)
theorem vU {f:Nat→T} {la:Nat} {g:Nat→T} {lb:Nat} (hf:∀i,i<la→0≤(f i).c∧(f i).c≤100) (hg:∀i,i<lb→0≤(g i).c∧(g i).c≤100):∀(u i k:Nat),LZ (eZ f la g lb u i k)
 |0,_,_=>by intro t ht;simp[eZ]at ht
 |u+1,i,k=>by
  have a1:=vU hf hg u (i+1) k;have a2:=vU hf hg u i (k+1)
  have a3:=vU hf hg u (i+1) (k+1);intro t ht;simp only[eZ]at ht;split at ht
  ·rename_i hh;split at ht
   ·rcases List.mem_cons.1 ht with rfl|ht
    ·exact hf i hh.1
    ·exact a1 t ht
   ·split at ht
    ·rcases List.mem_cons.1 ht with rfl|ht
     ·exact hg k hh.2
     ·exact a2 t ht
    ·split at ht
     ·rcases List.mem_cons.1 ht with rfl|ht
      ·dsimp only;omega
      ·exact a3 t ht
     ·exact a3 t ht
  ·split at ht
   ·rename_i hh;rcases List.mem_cons.1 ht with rfl|ht
    ·exact hf i hh
    ·exact a1 t ht
   ·split at ht
    ·rename_i hh;rcases List.mem_cons.1 ht with rfl|ht
     ·exact hg k hh
     ·exact a2 t ht
    ·cases ht
theorem RY {c:Int} {m:M} {L:List T} (hL:LZ L) (h0:0≤c) (h1:c≤100):LZ (iH c m L):=by
 unfold iH;split
 ·exact hL
 ·exact vU hL.at (fun _ _=>⟨h0,h1⟩) _ _ _
theorem zW (c:Int) (m:M) (L:List T):(iH c m L).length≤L.length+1:=by
 unfold iH;split
 ·omega
 ·have:=lU (lf L) L.length (fun _=>⟨c,m⟩) 1 0 0;omega
theorem SC (w:World) (t:T):Rd (w.alloc (.cells #[.int .i64 t.c,.int .i64 t.m.x,.int .i64 t.m.y,.int .i64 t.m.d,.int .i64 t.m.e] 79)) (some ⟨w.heap.size,0,none⟩) 1 1 (fun _=>t):=by
 refine⟨Nat.le_refl _,by omega,.inr ⟨w.heap.size,0,rfl,by simp,fun i hi=>?_⟩⟩;obtain rfl:i=0:=by omega
 exact⟨by rw[World.cell?_alloc_at _ _ _ _ rfl];rfl,by rw[World.cell?_alloc_at _ _ _ _ rfl];rfl,by rw[World.cell?_alloc_at _ _ _ _ rfl];rfl,by rw[World.cell?_alloc_at _ _ _ _ rfl];rfl,by rw[World.cell?_alloc_at _ _ _ _ rfl];rfl⟩
theorem wH (w:World) (lo:Nat) (v:Value) (L:List T) (c x y d e:Int) (ho:w.ownsRow lo 79 5 v L.length (aG L)) (hlo:lo≤w.heap.size) (hl:L.length≤1000) (hL:LZ L) (h0:0≤c) (h1:c≤100):Calls Tryz.prog 105 #[v,.int .i64 c,.agg #[.int .i64 x,.int .i64 y,.int .i64 d,.int .i64 e]] w fun r w'=>∃v',r= .returned v'∧Below w.heap.size w w'∧w'.ownsRow lo 79 5 v' (iH c ⟨x,y,d,e⟩ L).length (aG (iH c ⟨x,y,d,e⟩ L)):=by
 by_cases hc:c=0
 ·subst hc;have e1:iH 0 ⟨x,y,d,e⟩ L=L:=by simp[iH]
  rw[e1];have HO:=aA (aR ho (aF w (.cells #[.int .i64 x,.int .i64 y,.int .i64 d,.int .i64 e] 77)))
  clear ho e1;go_enter Tryz.func105,Tryz.ntmps105;go_wp2;go_ret;exact⟨_,rfl,aF w _,HO.out⟩
 ·have hcb:(c==0)=false:=by simp[hc]
  have e1:iH c ⟨x,y,d,e⟩ L=dF (lf L) L.length (fun _=>⟨c,⟨x,y,d,e⟩⟩) 1 0 0:=by simp[iH,hc]
  rw[e1];obtain⟨a,cap,rfl,hout⟩:=aJ ho (by omega);have HR:=aA hout.1
  clear ho hout hc e1;go_enter Tryz.func105,Tryz.ntmps105;go_wp2_with fail;have ha:=aA ((HR.out.below (aF w (.cells #[.int .i64 x,.int .i64 y,.int .i64 d,.int .i64 e] 77))).below (aF _ (.cells #[.int .i64 c,.int .i64 x,.int .i64 y,.int .i64 d,.int .i64 e] 79)))
  have hb:=SC (w.alloc (.cells #[.int .i64 x,.int .i64 y,.int .i64 d,.int .i64 e] 77)) ⟨c,⟨x,y,d,e⟩⟩;have hb2:Rd ((w.alloc (.cells #[.int .i64 x,.int .i64 y,.int .i64 d,.int .i64 e] 77)).alloc (.cells #[.int .i64 c,.int .i64 x,.int .i64 y,.int .i64 d,.int .i64 e] 79)) (some ⟨w.heap.size+1,0,none⟩) 1 1 (fun _=>⟨c,⟨x,y,d,e⟩⟩):=by simpa using hb
  have hz:=aA (aC (aF w (.cells #[.int .i64 x,.int .i64 y,.int .i64 d,.int .i64 e] 77)) (aF _ (.cells #[.int .i64 c,.int .i64 x,.int .i64 y,.int .i64 d,.int .i64 e] 79)));clear hb;generalize((w.alloc (.cells #[.int .i64 x,.int .i64 y,.int .i64 d,.int .i64 e] 77)).alloc (.cells #[.int .i64 c,.int .i64 x,.int .i64 y,.int .i64 d,.int .i64 e] 79))=W at ha hb2 hz⊢;refine(pO _ _ _ _ _ _ _ (lf L) (fun _=>⟨c,⟨x,y,d,e⟩⟩) ha.out hb2 (by omega) hL.at (fun _ _=>⟨h0,h1⟩)).mono ?_;rintro r w1 ⟨v',rfl,hb1,hown⟩;have HB:=aA (aC hz.out hb1)
  have HO:=aA (bX hown (iS hlo hz.out.size));clear hb2 hb1 hown ha hz HR;go_wp2;go_ret;exact⟨_,rfl,HB.out,HO.out⟩
theorem qJ (f:Nat→T) (m:M):∀(u i:Nat),cC f u (i+1) m=cC (fun j=>f (j+1)) u i m
 |0,_=>rfl
 |u+1,i=>by rw[cC,cC,qJ f m u (i+1)]
theorem oF (m:M):∀L:List T,cC (lf L) L.length 0 m=bV L m
 |[]=>rfl
 |t::r=>by
  have e:(fun j=>lf (t::r) (j+1))=lf r:=by funext j;simp[lf]
  have e0:lf (t::r) 0=t:=rfl;rw[List.length_cons,cC,e0,bV,qJ,e,oF m r]
theorem yX {L:List T} (h:bC L):Fl (lf L) L.length:=by
 have at_:∀i (hi:i<L.length),lf L i=L[i]:=fun i hi=>by unfold lf;rw[List.getD_eq_getElem?_getD,List.getElem?_eq_getElem hi];rfl
 refine⟨fun j i hji hi=>?_,fun i hi=>?_⟩
 ·rw[at_ i hi,at_ j (by omega)];exact(List.pairwise_iff_getElem.1 h.1) j i (by omega) hi hji
 ·rw[at_ i hi];exact h.2 _ (List.getElem_mem hi)
theorem rR {L:List T} (h:bC L) (m:M):0≤bV L m∧bV L m≤100:=by
 induction L with
 |nil=>simp[bV]
 |cons t r ih=>
  rw[bV];split
  ·have:=h.2 t (List.mem_cons_self ..);omega
  ·exact ih h.tail
theorem eC:bC []:=⟨List.Pairwise.nil,fun t h=>by cases h⟩
def dV (K X:List T):List T:=dF (lf K) K.length (lf X) X.length 0 0
theorem jD {K X:List T} (hK:bC K) (hX:bC X):bC (dV K X)∧∀m,bV (dV K X) m=(bV K m+bV X m)%101:=by obtain⟨_,h2,h3⟩:=gU (yX hK) (yX hX) (K.length-0+(X.length-0)) 0 0 (Nat.le_refl _);refine⟨h2,fun m=>(h3 m).trans ?_⟩;rw[Nat.sub_zero,Nat.sub_zero,oF,oF]
theorem BQ {L:List T} (hL:bC L) {c:Int} {m:M} (hm:m.ok=true) (c0:0≤c) (c1:c≤100):bC (iH c m L)∧∀x,bV (iH c m L) x=jR (bV L) m c x:=by
 unfold iH;by_cases hc:c=0
 ·rw[if_pos hc];refine⟨hL,fun x=>?_⟩;unfold jR;split
  ·rename_i hx;have:=rR hL m
   rw[iY.1 hx,hc];omega
  ·rfl
 ·rw[if_neg hc];have G:Fl (fun _=>(⟨c,m⟩:T)) 1:=⟨fun j i h1 h2=>by omega,fun i hi=>⟨hm,by show 1≤c;omega,c1⟩⟩
  obtain⟨_,h2,h3⟩:=gU (yX hL) G (L.length-0+(1-0)) 0 0 (Nat.le_refl _);refine⟨h2,fun x=>(h3 x).trans ?_⟩;rw[Nat.sub_zero,Nat.sub_zero,oF];show(bV L x+(if nA m x=true then c else 0))%101=_
  have hr:=rR hL x;unfold jR;by_cases hx:x=m
  ·subst hx;rw[if_pos (cH.2 rfl),if_pos (iY.2 rfl)]
  ·rw[if_neg (fun e=>hx (cH.1 e).symm),if_neg (fun e=>hx (iY.1 e))];omega
def cF (xs:List T) (L:List T):List T:=xs.foldl (fun L t=>iH t.c t.m L) L
def eK (c:M→Int) (xs:List T):M→Int:=xs.foldl (fun c t=>jR c t.m t.c) c
def SW (xs:List T):Prop:=∀t∈xs,t.m.ok=true∧0≤t.c∧t.c≤100
theorem fF:∀(xs:List T) (L:List T),SW xs→bC L→bC (cF xs L)∧bV (cF xs L)=eK (bV L) xs
 |[],L,_,hL=>⟨hL,rfl⟩
 |t::r,L,hx,hL=>by
  have h1:=hx t (List.mem_cons_self ..);have h2:=BQ hL h1.1 h1.2.1 h1.2.2
  have h3:=fF r (iH t.c t.m L) (fun s hs=>hx s (List.mem_cons_of_mem _ hs)) h2.1;refine⟨h3.1,?_⟩;show bV (cF r (iH t.c t.m L))=eK (jR (bV L) t.m t.c) r
  rw[h3.2,funext h2.2]
theorem lS:∀(xs:List T) (c:M→Int) (m:M),SW xs→(∀m,0≤c m∧c m≤100)→eK c xs m=(c m+eK (fun _=>0) xs m)%101
 |[],c,m,_,hc=>by
  have:=hc m;show c m=(c m+0)%101
  omega
 |t::r,c,m,hx,hc=>by
  have h1:=hx t (List.mem_cons_self ..);have hr:∀(d:M→Int),(∀m,0≤d m∧d m≤100)→∀m,0≤jR d t.m t.c m∧jR d t.m t.c m≤100:=fun d hd m=>by
   unfold jR;split
   ·omega
   ·exact hd m
  have hz:∀m:M,(0:Int)≤(fun _=>0:M→Int) m∧(fun _=>0:M→Int) m≤100:=fun _=>⟨Int.le_refl _,by show(0:Int)≤100;decide⟩
  have e1:=lS r (jR c t.m t.c) m (fun s hs=>hx s (List.mem_cons_of_mem _ hs)) (hr c hc);have e2:=lS r (jR (fun _=>0) t.m t.c) m (fun s hs=>hx s (List.mem_cons_of_mem _ hs)) (hr _ hz)
  show eK (jR c t.m t.c) r m=(c m+eK (jR (fun _=>0) t.m t.c) r m)%101;rw[e1,e2];unfold jR;by_cases hx:m=t.m
  ·subst hx;rw[if_pos (iY.2 rfl),if_pos (iY.2 rfl)];clear e1 e2;dsimp only;omega
  ·rw[if_neg (fun e=>hx (iY.1 e)),if_neg (fun e=>hx (iY.1 e))];clear e1 e2;dsimp only;omega
def gL:Option (List T)→List T×Bool
 |some K=>(K,true)
 |none=>([],false)
theorem dY {L:List T} (h:bC L):LZ L:=fun t ht=>by have:=h.2 t ht;omega
def EA (f:Nat→T) (n:Nat):Prop:=∀i,i<n→(f i).m.ok=true∧0≤(f i).c∧(f i).c≤100
theorem gZ {n:Nat} {f:Nat→T} (h:aK n f=true):n≤400∧EA f n:=by
 have hp:=h;simp only[aK,decide_eq_true_eq]at hp;refine⟨hp.1,fun i hi=>?_⟩;have:=(cO h).2 i hi
 exact⟨this.1,by omega,this.2.2⟩
theorem zR {n:Nat} {f:Nat→T} (h:aK n f=true) {i:Nat} (hi:i<n):(f i).m.ok=true∧0≤(f i).c∧(f i).c≤100:=by have:=(cO h).2 i hi;exact⟨this.1,by omega,this.2.2⟩
end Go.Proofs.YtkcmamepoplcdaaGreatDoor
