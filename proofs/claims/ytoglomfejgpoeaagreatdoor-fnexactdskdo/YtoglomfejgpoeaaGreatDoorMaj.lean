/-
  A region that draws its order within a round: it runs as anywhere.
-/
import Derived.Test.YtoglomfejgpoeaaGreatDoorMai
import Derived.OrdersIn
import Derived.RangeFuncCalls
import Derived.Deep.Quiet
namespace Go.Proofs.YtoglomfejgpoeaaGreatDoor
open Go.RowKit
set_option linter.unusedVariables false
theorem vI {n l:Nat} {P:Program} {row:String} {args:Array Value} {w:World} {R:Value→World→Prop} (h:Rows P row args w R):RowsIn (Fence.wide.inRound l) n P row args w R:=
 fun c cs _=>let⟨v,w',r,s⟩:=h c cs;⟨v,w',r,stepsIn_wide.2 s⟩
theorem vC {n l:Nat} {P:Program} {o:Oper} {a:Act} {w:World} {K:Act→World→Prop} {Q:Exit→Act→World→Prop} (hd:∀c,o.op≠ .defer c) (h:o.wp P a w K Q):o.wpIn (Fence.wide.inRound l) n P a w K Q:=by
 refine⟨fun f _=>trivial,?_⟩;unfold Oper.wp at h;rw[show(Fence.wide.inRound l).round=some l from rfl,Oper.semAt_some l _ _ hd];generalize(execOp a.eval o).run P w=r at *;cases r with
 |ok x w'=>
  cases x<;>simp only[Oper.upon,Oper.uponIn]at h⊢<;>first
   |exact h
   |exact⟨fun e=>(by cases e),CallsIn.inRound l (callsIn_wide.2 h)⟩
   |exact⟨fun e=>(by cases e),vI h⟩
 |halt x w'=>cases x<;>simp only[Oper.upon,Oper.uponIn]at h⊢<;>exact h
def iU (ops:Array Oper):Bool:=ops.all fun o=>match o.op with| .defer _=>false|_=>true
theorem vA {ops:Array Oper} (h:iU ops=true) {i:Nat} {o:Oper} (ho:ops[i]? =some o):∀c,o.op≠ .defer c:=by
 intro c hc;unfold iU at h;rw[Array.all_eq_true']at h;have:=h o (Array.mem_of_getElem? ho)
 rw[hc]at this;cases this
theorem eN {n l:Nat} {P:Program} {ops:Array Oper} {Q:Exit→Act→World→Prop} (hd:iU ops=true) (hL:¬LetsOut Q) {i:Nat} {K:Act→World→Prop} {a:Act} {w:World} (h:wpOp P ops Q i K a w):wpOpIn (Fence.wide.inRound l) n P ops Q i K a w:=by
 unfold wpOp at h;unfold wpOpIn;split
 ·rename_i ho;simp only[ho]at h;exact h
 ·rename_i o ho;simp only[ho]at h;split
  ·rename_i hw;simp only[hw,if_true]at h;rcases h with h|h
   ·exact vC (vA hd ho) h
   ·exact absurd h.2 hL
  ·rename_i hw;simp only[hw]at h;exact⟨fun _ _=>trivial,h⟩
theorem pP {n l:Nat} {P:Program} {md:Region.Mode} {ops:Array Oper} {Q:Exit→Act→World→Prop} (hd:iU ops=true) (hL:¬LetsOut Q):∀(fuel:Nat) (li:Array Bool) (a:Act) (w:World),wpAny P md ops Q fuel li a w→wpAnyIn (Fence.wide.inRound l) n P md ops Q fuel li a w
 |0,_,_,_,h=>h
 |fuel+1,li,a,w,h=>⟨h.1,fun i hi=>wpOpIn_mono (fun a' w' h'=>pP hd hL fuel _ a' w' h') (eN hd hL (h.2 i hi))⟩
theorem rQ {n l id:Nat} {P:Program} {ops:Array Oper} {Q:Exit→Act→World→Prop} {a:Act} {w:World} (hm:P.follows .mixedOrders=true) (hd:iU ops=true) (hL:¬LetsOut Q) (h:wpAny P .any ops Q ops.size (Array.replicate ops.size false) a w.drew):(Code.region id ops true).wpIn (Fence.wide.inRound l) n P Q a w:=
 wpIn_region_any hm (pP hd hL _ _ _ _ h)
theorem mJ {n l id:Nat} {P:Program} {ops:Array Oper} {Q:Exit→Act→World→Prop} {I:Array Bool→Act→World→Prop} {a:Act} {w:World} (hm:P.follows .mixedOrders=true) (hd:iU ops=true) (hL:¬LetsOut Q) (h0:I (Array.replicate ops.size false) a w.drew) (hs:∀l a w,I l a w→∀i∈Region.ready .any ops l,wpOp P ops Q i (I (l.setIfInBounds i true)) a w) (he:∀l a w,I l a w→Region.ready .any ops l=[]→Q .normal a w):(Code.region id ops true).wpIn (Fence.wide.inRound l) n P Q a w:=
 rQ hm hd hL (mP hs he ops.size _ a _ (by rw[dG];exact Nat.le_refl _) h0)
open Go.RowKit Go.Maps
def RS (ops:Array Oper) (F:(Nat→Value)→Act) (P:Nat→World→Value→Prop) (n A:Nat) (w0:World) (Y:World→Value→Prop) (Z:World→Prop) (l:Array Bool) (a:Act) (u:World):Prop:=
 ∃vs:Nat→Value,a=F vs∧l.size=n∧cZ ops l∧(l.getD A false=false→Below w0.heap.size w0 u∧∀k,l.getD k false=true→P k u (vs k))∧(l.getD A false=true→l.getD (A+1) false=false→Y u (vs A))∧(l.getD (A+1) false=true→Z u)
theorem RS.start {ops:Array Oper} {F:(Nat→Value)→Act} {P:Nat→World→Value→Prop} {n A:Nat} {w0:World} {Y:World→Value→Prop} {Z:World→Prop} {a:Act} (vs:Nat→Value) (ha:a=F vs):RS ops F P n A w0 Y Z (Array.replicate n false) a w0.drew:=
 ⟨vs,ha,by simp,cZ.start _ _,fun _=>⟨(aD _ _).drew,fun k h=>mK h⟩,fun h=>mK h,fun h=>mK h⟩
theorem RS.step {ops:Array Oper} {F:(Nat→Value)→Act} {P:Nat→World→Value→Prop} {n A:Nat} {w0 u u':World} {Y:World→Value→Prop} {Z:World→Prop} {l:Array Bool} {vs:Nat→Value} (i:Nat) (v:Value) {a:Act} (hP:∀k u u' v,P k u v→Below u.heap.size u u'→P k u' v) (hi:i∈Region.ready .any ops l) (hno:ops.size=n) (hA:l.getD A false=false) (hA1:l.getD (A+1) false=false) (hiA:i<A) (hl:l.size=n) (hcl:cZ ops l) (hf:l.getD A false=false→Below w0.heap.size w0 u∧∀k,l.getD k false=true→P k u (vs k)) (hm:Below u.heap.size u u') (hv:P i u' v) (ha:a=F (fun k=>if k=i then v else vs k)):RS ops F P n A w0 Y Z (l.setIfInBounds i true) a u':=by
 refine⟨fun k=>if k=i then v else vs k,ha,by simp[hl],hcl.step hi (by omega),fun _=>⟨aC (hf hA).1 hm,fun k hk=>?_⟩,fun h=>?_,fun h=>?_⟩
 ·by_cases hki:k=i
  ·have hv2:P k u' v:=by rw[hki];exact hv
   exact Eq.mpr (congrArg (fun z=>P k u' z) (if_pos hki)) hv2
  ·rw[getD_set_ne false (fun e=>hki e.symm)]at hk;exact Eq.mpr (congrArg (fun z=>P k u' z) (if_neg hki)) (hP k u u' _ ((hf hA).2 k hk) hm)
 ·rw[getD_set_ne false (by omega),hA]at h;cases h
 ·rw[getD_set_ne false (by omega),hA1]at h;cases h
theorem RS.last {ops:Array Oper} {F:(Nat→Value)→Act} {P:Nat→World→Value→Prop} {n A:Nat} {w0 u':World} {Y:World→Value→Prop} {Z:World→Prop} {l:Array Bool} {vs:Nat→Value} (v:Value) {a:Act} (hi:A∈Region.ready .any ops l) (hno:ops.size=n) (hAn:A<n) (hA1:l.getD (A+1) false=false) (hl:l.size=n) (hcl:cZ ops l) (hv:Y u' v) (ha:a=F (fun k=>if k=A then v else vs k)):RS ops F P n A w0 Y Z (l.setIfInBounds A true) a u':=by
 refine⟨fun k=>if k=A then v else vs k,ha,by simp[hl],hcl.step hi (by omega),fun h=>?_,fun _ _=>Eq.mpr (congrArg (fun z=>Y u' z) (if_pos rfl)) hv,fun h=>?_⟩
 ·rw[fE false (by omega)]at h;cases h
 ·rw[getD_set_ne false (by omega),hA1]at h;cases h
theorem RS.put {ops:Array Oper} {F:(Nat→Value)→Act} {P:Nat→World→Value→Prop} {n A:Nat} {w0 u':World} {Y:World→Value→Prop} {Z:World→Prop} {l:Array Bool} {vs:Nat→Value} {a:Act} (hi:A+1∈Region.ready .any ops l) (hno:ops.size=n) (hA:l.getD A false=true) (hAn:A+1<n) (hl:l.size=n) (hcl:cZ ops l) (hz:Z u') (ha:a=F vs):RS ops F P n A w0 Y Z (l.setIfInBounds (A+1) true) a u':=by
 refine⟨vs,ha,by simp[hl],hcl.step hi (by omega),fun h=>?_,fun _ h=>?_,fun _=>hz⟩
 ·rw[getD_set_ne false (by omega),hA]at h;cases h
 ·rw[fE false (by omega)]at h;cases h
theorem yE {nn l id:Nat} {P:Program} {ops:Array Oper} {Q:Exit→Act→World→Prop} (F:(Nat→Value)→Act) (K:Nat→World→Value→Prop) (n A:Nat) (w0:World) (Y:World→Value→Prop) (Z:World→Prop) {a:Act} (hm:P.follows .mixedOrders=true) (hd:iU ops=true) (hL:¬LetsOut Q)
 (h0:RS ops F K n A w0 Y Z (Array.replicate ops.size false) a w0.drew)
 (hs:∀l a w,RS ops F K n A w0 Y Z l a w→∀i∈Region.ready .any ops l,wpOp P ops Q i (RS ops F K n A w0 Y Z (l.setIfInBounds i true)) a w)
 (he:∀l a w,RS ops F K n A w0 Y Z l a w→Region.ready .any ops l=[]→Q .normal a w):(Code.region id ops true).wpIn (Fence.wide.inRound l) nn P Q a w0:=mJ (I:=RS ops F K n A w0 Y Z) hm hd hL h0 hs he
theorem uG {H:Type} {P:Program} {w:World} {ops:Array Oper} {o:Oper} {a:Act} {K:Act→World→Prop} {Q:Exit→Act→World→Prop} {E:Prop} (hgd:o.guard=none) (m x:Operand) (t:TypeId) (hop:o.op=Op.lookup t m x false) (k e:TypeId) (q:IntKind) (Ky:Keyed P k) (ht:P.underlying t=some (.map k e)) (he:P.underlying e=some (.int q)) (hz:(zeroValue e).run P w= .ok (.int q 0) w) (b n:Nat) (D:DataW H) (hm:a.eval m= .map (some b)) (hown:w.ownsMap P k (plainElem P e) b n D) (key:Value) (kl:Lit) (hx:a.eval x=key) (hkey:keyOf P k key=some kl) (h:∀c:Int,D.atKey kl (.lit (.int q 0))= .lit (.int q c)→K (a.put o.dst (.int q c)) w):if Region.wanted o (yielded ops a.tmps)=true then Oper.wp P o a w K Q else E:=by
 have hw:Region.wanted o (yielded ops a.tmps)=true:=by simp[Region.wanted,hgd]
 rw[if_pos hw];obtain⟨c,hrun,hat,hwc⟩:=hown.lookup_int Ky ht he hz hkey;unfold Oper.wp;simp[execOp,hop,hm,hx,hrun,Result.andThen];exact h c hat
end Go.Proofs.YtoglomfejgpoeaaGreatDoor
namespace Go.Proofs.YtoglomfejgpoeaaGreatDoor
open Go.RowKit
set_option linter.unusedVariables false
def cB (f:Nat→T):Nat→Nat→M→Int
 |0,_,_=>0
 |u+1,i,m=>if kE (f i).m m=true then(f i).c else cB f u (i+1) m
theorem kP {f:Nat→T} {m:M}:∀(u i:Nat),(∀j,i≤j→j<i+u→(f j).m≠m)→cB f u i m=0
 |0,_,_=>rfl
 |u+1,i,h=>by rw[cB,if_neg (fun e=>h i (Nat.le_refl _) (by omega) (cF.1 e))];exact kP u (i+1) (fun j h1 h2=>h j (by omega) (by omega))
def Fl (f:Nat→T) (n:Nat):Prop:=(∀j i,j<i→i<n→dV (f i).m<dV (f j).m)∧∀i,i<n→(f i).m.ok=true∧1≤(f i).c∧(f i).c≤100
theorem Fl.high {f:Nat→T} {n i:Nat} {m:M} (h:Fl f n) (hi:i<n→dV (f i).m<dV m):cB f (n-i) i m=0:=by
 refine kP _ _ (fun j h1 h2 e=>?_);have hin:i<n:=by omega
 have h3:=hi hin;by_cases hji:j=i
 ·rw[hji]at e;rw[e]at h3;omega
 ·have:=h.1 i j (by omega) (by omega);rw[e]at this;omega
theorem iP {f:Nat→T} {n i:Nat} (m:M) (hi:i<n):cB f (n-i) i m=if kE (f i).m m=true then(f i).c else cB f (n-(i+1)) (i+1) m:=by rw[show n-i=(n-(i+1))+1 by omega,cB]
theorem kO {t:T} {r:List T} (h:aV r) (h1:∀s∈r,dV s.m<dV t.m) (h2:t.m.ok=true∧1≤t.c∧t.c≤100):aV (t::r):=
 ⟨List.pairwise_cons.2 ⟨h1,h.1⟩,fun s hs=>by rcases List.mem_cons.1 hs with rfl|hs;exact h2;exact h.2 s hs⟩
theorem fL {f:Nat→T} {la:Nat} {g:Nat→T} {lb:Nat} (F:Fl f la) (G:Fl g lb):∀(u i k:Nat),la-i+(lb-k)≤u→(∀t∈dZ f la g lb u i k,(∃j,i≤j∧j<la∧t.m=(f j).m)∨(∃j,k≤j∧j<lb∧t.m=(g j).m))∧aV (dZ f la g lb u i k)∧∀m,bY (dZ f la g lb u i k) m=(cB f (la-i) i m+cB g (lb-k) k m)%101
 |0,i,k,hu=>by refine⟨fun t ht=>by simp[dZ]at ht,⟨List.Pairwise.nil,fun t ht=>by simp[dZ]at ht⟩,fun m=>?_⟩;rw[show la-i=0 by omega,show lb-k=0 by omega];rfl
 |u+1,i,k,hu=>by
  have up:∀(n i:Nat),n-i=0→∀m,cB f (n-i) i m=0:=fun n i h m=>by rw[h];rfl
  have low:∀{t:T} {i' k':Nat} {r:Int},((∃j,i'≤j∧j<la∧t.m=(f j).m)∨(∃j,k'≤j∧j<lb∧t.m=(g j).m))→(i'<la→dV (f i').m<r)→(k'<lb→dV (g k').m<r)→dV t.m<r:=by
   intro t i' k' r h h1 h2;rcases h with⟨j,a1,a2,a3⟩|⟨j,a1,a2,a3⟩
   ·rw[a3];by_cases hj:j=i'
    ·rw[hj];exact h1 (by omega)
    ·have:=F.1 i' j (by omega) a2;have:=h1 (by omega);omega
   ·rw[a3];by_cases hj:j=k'
    ·rw[hj];exact h2 (by omega)
    ·have:=G.1 k' j (by omega) a2;have:=h2 (by omega);omega
  have fi:i<la→(k<lb→dV (g k).m<dV (f i).m)→(∀t∈f i::dZ f la g lb u (i+1) k,(∃j,i≤j∧j<la∧t.m=(f j).m)∨(∃j,k≤j∧j<lb∧t.m=(g j).m))∧aV (f i::dZ f la g lb u (i+1) k)∧∀m,bY (f i::dZ f la g lb u (i+1) k) m=(cB f (la-i) i m+cB g (lb-k) k m)%101:=by
   intro hi hk;obtain⟨p1,p2,p3⟩:=fL F G u (i+1) k (by omega);refine⟨fun t ht=>?_,kO p2 (fun s hs=>low (p1 s hs) (fun h=>F.1 i (i+1) (by omega) h) hk) (F.2 i hi),fun m=>?_⟩
   ·rcases List.mem_cons.1 ht with rfl|ht
    ·exact .inl ⟨i,Nat.le_refl _,hi,rfl⟩
    ·exact(p1 t ht).imp (fun⟨j,a1,a2,a3⟩=>⟨j,by omega,a2,a3⟩) id
   ·rw[iP m hi];by_cases hm:kE (f i).m m=true
    ·have:=cF.1 hm;subst this;have h0:=F.2 i hi
     rw[cC,if_pos hm,G.high hk,Int.add_zero];omega
    ·rw[bY,if_neg hm,if_neg hm];exact p3 m
  have gk:k<lb→(i<la→dV (f i).m<dV (g k).m)→(∀t∈g k::dZ f la g lb u i (k+1),(∃j,i≤j∧j<la∧t.m=(f j).m)∨(∃j,k≤j∧j<lb∧t.m=(g j).m))∧aV (g k::dZ f la g lb u i (k+1))∧∀m,bY (g k::dZ f la g lb u i (k+1)) m=(cB f (la-i) i m+cB g (lb-k) k m)%101:=by
   intro hk hi;obtain⟨p1,p2,p3⟩:=fL F G u i (k+1) (by omega);refine⟨fun t ht=>?_,kO p2 (fun s hs=>low (p1 s hs) hi (fun h=>G.1 k (k+1) (by omega) h)) (G.2 k hk),fun m=>?_⟩
   ·rcases List.mem_cons.1 ht with rfl|ht
    ·exact .inr ⟨k,Nat.le_refl _,hk,rfl⟩
    ·exact(p1 t ht).imp id (fun⟨j,a1,a2,a3⟩=>⟨j,by omega,a2,a3⟩)
   ·rw[iP (f:=g) m hk];by_cases hm:kE (g k).m m=true
    ·have:=cF.1 hm;subst this;have h0:=G.2 k hk
     rw[cC,if_pos hm,F.high hi,Int.zero_add];omega
    ·rw[bY,if_neg hm,if_neg hm];exact p3 m
  simp only[dZ];by_cases hik:i<la∧k<lb
  ·rw[if_pos hik];have hrk:=BL (F.2 i hik.1).1 (G.2 k hik.2).1
   by_cases h1:0<M.ord 1 (f i).m (g k).m
   ·rw[if_pos h1];exact fi hik.1 (fun _=>(kC (F.2 i hik.1).1 (G.2 k hik.2).1).1 h1)
   ·rw[if_neg h1];by_cases h2:M.ord 1 (f i).m (g k).m<0
    ·rw[if_pos h2];refine gk hik.2 (fun _=>?_);rw[←hrk]at h2;unfold c3 at h2;split at h2
     ·assumption
     ·split at h2<;>omega
    ·rw[if_neg h2];have heq:dV (f i).m=dV (g k).m:=by
      have h3:M.ord 1 (f i).m (g k).m=0:=by omega
      rw[←hrk]at h3;unfold c3 at h3;split at h3
      ·omega
      ·split at h3<;>omega
     have hmm:=rR (F.2 i hik.1).1 (G.2 k hik.2).1 heq;obtain⟨p1,p2,p3⟩:=fL F G u (i+1) (k+1) (by omega);have hsum:∀m,(cB f (la-i) i m+cB g (lb-k) k m)%101=if kE (f i).m m=true then((f i).c+(g k).c)%101 else(cB f (la-(i+1)) (i+1) m+cB g (lb-(k+1)) (k+1) m)%101:=fun m=>by rw[iP m hik.1,iP (f:=g) m hik.2,←hmm];split<;>rfl
     have hhi:bY (dZ f la g lb u (i+1) (k+1)) (f i).m=0:=by rw[p3,F.high (fun h=>F.1 i (i+1) (by omega) h),G.high (fun h=>by rw[hmm];exact G.1 k (k+1) (by omega) h)];rfl
     have q1:∀t∈dZ f la g lb u (i+1) (k+1),(∃j,i≤j∧j<la∧t.m=(f j).m)∨(∃j,k≤j∧j<lb∧t.m=(g j).m):=fun t ht=>(p1 t ht).imp (fun⟨j,a1,a2,a3⟩=>⟨j,by omega,a2,a3⟩) (fun⟨j,a1,a2,a3⟩=>⟨j,by omega,a2,a3⟩);by_cases hz:((f i).c+(g k).c)%101≠0
     ·rw[if_pos hz];refine⟨fun t ht=>?_,kO p2 (fun s hs=>low (p1 s hs) (fun h=>F.1 i (i+1) (by omega) h) (fun h=>by rw[hmm];exact G.1 k (k+1) (by omega) h)) ⟨(F.2 i hik.1).1,by dsimp only;omega,by dsimp only;omega⟩,fun m=>?_⟩
      ·rcases List.mem_cons.1 ht with rfl|ht
       ·exact .inl ⟨i,Nat.le_refl _,hik.1,rfl⟩
       ·exact q1 t ht
      ·rw[hsum m,bY];by_cases hm:kE (f i).m m=true
       ·rw[if_pos hm,if_pos hm]
       ·rw[if_neg hm,if_neg hm];exact p3 m
     ·rw[if_neg hz];refine⟨q1,p2,fun m=>?_⟩;rw[hsum m];by_cases hm:kE (f i).m m=true
      ·have:=cF.1 hm;subst this;rw[if_pos hm,hhi];omega
      ·rw[if_neg hm];exact p3 m
  ·rw[if_neg hik];by_cases hi:i<la
   ·rw[if_pos hi];exact fi hi (fun h=>absurd ⟨hi,h⟩ hik)
   ·rw[if_neg hi];by_cases hk:k<lb
    ·rw[if_pos hk];exact gk hk (fun h=>absurd h hi)
    ·rw[if_neg hk];refine⟨fun t ht=>(by cases ht),⟨List.Pairwise.nil,fun t ht=>(by cases ht)⟩,fun m=>?_⟩;rw[show la-i=0 by omega,show lb-k=0 by omega];rfl
end Go.Proofs.YtoglomfejgpoeaaGreatDoor
