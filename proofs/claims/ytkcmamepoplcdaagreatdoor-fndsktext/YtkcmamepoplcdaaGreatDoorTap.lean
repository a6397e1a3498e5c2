/-
  Reading a line, as lists of bytes: there is at most one line that a text is that of.
-/
import Derived.Test.YtkcmamepoplcdaaGreatDoorTao
import Derived.Lib.Split
import Derived.Lib.IndexMore
import Derived.Test.YtkcmamepoplcdaaGreatDoorTaf
import Derived.Test.YtkcmamepoplcdaaGreatDoorTai
set_option maxHeartbeats 2000000
set_option maxRecDepth 100000
namespace Go.Proofs.YtkcmamepoplcdaaGreatDoor
open Go.RowKit
set_option linter.unusedVariables false
def bX:List UInt8→List (List UInt8)
 |[]=>[[]]
 |c::r=>if c=32 then[]::bX r else eJ c (bX r)
theorem vU (c:UInt8) (r:List UInt8):bX (c::r)=if c=32 then[]::bX r else eJ c (bX r):=rfl
theorem jD:∀l,bX l≠[]
 |[]=>by simp[bX]
 |c::r=>by
  unfold bX;split
  ·simp
  ·cases e:bX r<;>simp[eJ]
theorem fE:∀{w:List UInt8} (h:∀c∈w,c≠32),bX w=[w]
 |[],_=>rfl
 |c::r,h=>by unfold bX;rw[if_neg (h c (by simp)),fE (w:=r) (fun x hx=>h x (by simp[hx]))];rfl
theorem dP:∀{w:List UInt8} (h:∀c∈w,c≠32) (r:List UInt8),bX (w++32::r)=w::bX r
 |[],_,r=>by show bX (32::r)=_;rw[vU,if_pos rfl]
 |c::w,h,r=>by show bX (c::(w++32::r))=_;rw[vU,if_neg (h c (by simp)),dP (w:=w) (fun x hx=>h x (by simp[hx])) r];rfl
theorem kN:∀l,bX (l++[32])=bX l++[[]]
 |[]=>by decide
 |c::r=>by
  show bX (c::(r++[32]))=_;unfold bX;rw[kN r];split
  ·rfl
  ·exact kL (jD r)
theorem mM {k:UInt8} (hk:k≠32):∀l,bX (l++[k])=hO k (bX l)
 |[]=>by show bX [k]=_;unfold bX;rw[if_neg hk];rfl
 |c::r=>by
  show bX (c::(r++[k]))=_;unfold bX;rw[mM hk r];split
  ·rw[gD (jD r)]
  ·exact iI (jD r)
theorem oX:∀s:List UInt8,(bX s).length≤s.length+1
 |[]=>by simp[bX]
 |c::r=>by
  have:=oX r;unfold bX;split
  ·simp;omega
  ·cases e:bX r with
   |nil=>exact absurd e (jD r)
   |cons h t=>rw[e]at this;simp[eJ]at this⊢;omega
theorem eA:∀(s:List UInt8) (w:List UInt8),w∈bX s→w.length≤s.length
 |[],w,h=>by simp[bX]at h;subst h;simp
 |c::r,w,h=>by
  unfold bX at h;split at h
  ·rcases List.mem_cons.1 h with e|e
   ·subst e;simp
   ·have:=eA r w e;simp;omega
  ·cases q:bX r with
   |nil=>exact absurd q (jD r)
   |cons a t=>
    rw[q]at h;rcases List.mem_cons.1 h with e|e
    ·subst e;have:=eA r a (by rw[q];simp)
     simp;omega
    ·have:=eA r w (by rw[q];simp[e]);simp;omega
theorem pK {l:List UInt8} {j:Nat}:Lib.occAt l [32] j=true↔l[j]? =some 32:=by
 unfold Lib.occAt;cases h:l[j]? with
 |none=>
  have:l.drop j=[]:=List.drop_eq_nil_of_le (List.getElem?_eq_none_iff.1 h);rw[this];simp
 |some c=>
  have hj:j<l.length:=(List.getElem?_eq_some_iff.1 h).1;rw[List.drop_eq_getElem_cons hj];have hc:l[j]=c:=(List.getElem?_eq_some_iff.1 h).2
  rw[hc];simp[List.isPrefixOf];exact⟨fun e=>e.symm,fun e=>e.symm⟩
theorem sC {w:List UInt8} (h:∀c∈w,c≠32) (r:List UInt8):Lib.index (w++32::r) [32]=(w.length:Int):=by
 refine Lib.index_first (by simp) (pK.2 (by simp)) (fun j hj=>?_);cases e:Lib.occAt (w++32::r) [32] j
 ·rfl
 ·have e1:=pK.1 e;rw[List.getElem?_append_left hj]at e1;exact absurd rfl (h 32 (List.mem_of_getElem? e1))
theorem fJ {w:List UInt8} (h:∀c∈w,c≠32) (r:List UInt8):Lib.cut (w++32::r) [32]=(w,r,true):=by unfold Lib.cut;rw[sC h r,if_pos (by omega)];simp[List.drop_append]
theorem lZ {w:List UInt8} (h:∀c∈w,c≠32) (k:Nat) (r:List UInt8):Lib.splitK [32] 0 (k+1) (w++32::r)=w::Lib.splitK [32] 0 k r:=by
 have e1:(w++32::r).take w.length=w:=List.take_left' rfl;have e2:(w++32::r).drop (w.length+1)=r:=by rw[List.drop_append,List.drop_eq_nil_of_le (by omega)];simp
 rw[Lib.splitK,sC h r,if_neg (by rw[beq_iff_eq];omega)];show List.take w.length _::Lib.splitK [32] 0 k (List.drop (w.length+1) _)=_
 rw[e1,e2]
def kn (w:List UInt8):Int:=if w=cS 1 then 1 else if w=cS 2 then 2 else if w=cS 3 then 3 else if w=cS 4 then 4 else if w=cS 5 then 5 else if w=cS 6 then 6 else if w=cS 7 then 7 else if w=cS 8 then 8 else 0
theorem jK {k:Int} (h:1≤k∧k≤8):kn (cS k)=k:=by rcases(show k=1∨k=2∨k=3∨k=4∨k=5∨k=6∨k=7∨k=8 by omega)with rfl|rfl|rfl|rfl|rfl|rfl|rfl|rfl<;>decide
theorem sD (w:List UInt8):0≤kn w∧kn w≤8:=by
 unfold kn;repeat(split;· omega)
 omega
theorem sQ {w:List UInt8} (h:kn w≠0):cS (kn w)=w:=by
 unfold kn at h⊢;repeat(split;· (rename_i e;exact e.symm))
 rename_i e8
 simp_all
theorem fK (k:Int):∀c∈cS k,c≠32:=by
 unfold cS;repeat(split;· decide)
 decide
theorem kY {x:Int} (h0:0≤x) (h5:x≤5):∀c∈[bK x],c≠32:=by rcases(show x=0∨x=1∨x=2∨x=3∨x=4∨x=5 by omega)with rfl|rfl|rfl|rfl|rfl|rfl<;>decide
def eQ:List UInt8→Int
 |[c]=>if 65≤(c.toNat:Int)∧(c.toNat:Int)≤70 then(c.toNat:Int)-65 else -1
 |_=> -1
theorem gC {x:Int} (h0:0≤x) (h5:x≤5):eQ [bK x]=x:=by rcases(show x=0∨x=1∨x=2∨x=3∨x=4∨x=5 by omega)with rfl|rfl|rfl|rfl|rfl|rfl<;>decide
def mH (w:List UInt8):Int:=Lib.index [65,66,67,68,69,70] w
theorem oD {x:Int} (h0:0≤x) (h5:x≤5):mH [bK x]=x:=by rcases(show x=0∨x=1∨x=2∨x=3∨x=4∨x=5 by omega)with rfl|rfl|rfl|rfl|rfl|rfl<;>decide
structure eY where
 k:Int
 to:Int
 a:Int
 b:Int
 P:List T
def eY.txt (l:eY):List UInt8:=eL l.k l.to l.a l.b l.P.length (lf l.P)
def eY.raw (l:eY):List UInt8:=cW l.k l.to l.a l.b l.P.length (lf l.P)
def zT:eY:=⟨0,0,0,0,[]⟩
def bF (l:eY) (s:List UInt8):Prop:=l.txt=s∧s≠[]
structure rG (l:eY) (s:List UInt8):Prop where
 k:1≤l.k∧l.k≤8
 to:0≤l.to∧l.to≤5
 a:0≤l.a∧l.a≤5
 b:0≤l.b∧l.b≤5
 P:aS l.P.length (lf l.P)=true
 a0:2≤bZ l.k∨l.a=0
 b0:3≤bZ l.k∨l.b=0
 p0:l.k=1∨l.P=[]
 len:s.length≤400
 raw:l.raw=s
theorem bF.ok {l:eY} {s:List UInt8} (h:bF l s):rG l s:=by
 obtain⟨h1,h2⟩:=h;unfold eY.txt eL at h1;split at h1
 ·rename_i q;obtain⟨q1,q2⟩:=q;obtain⟨w1,w2,w3,w4,w5,w6,w7,w8⟩:=of_decide_eq_true q1;exact⟨w1,w2,w3,w4,w5,w6,w7,w8.imp id (fun e=>List.length_eq_zero_iff.1 e),by rw[←h1];exact q2,h1⟩
 ·exact absurd h1.symm h2
theorem qQ {n:Nat} {f:Nat→T} (h:aS n f=true):∀c∈bV n f,c≠32:=by
 have hD:∀c,eI c=true→c≠32:=fun c e=>by
  rintro rfl
  revert e
  decide
 have hP:∀{k:UInt8} {n:Int},k≠32→n≤100→∀c∈bL k n,c≠32:=fun{k n} hk hn c hc=>by
  unfold bL at hc;split at hc
  ·cases hc
  ·split at hc
   ·simp at hc;rw[hc];exact hk
   ·rcases List.mem_cons.1 hc with q|q
    ·rw[q];exact hk
    ·exact hD c (dQ _ (by omega) c q)
 have hM:∀{m:M},M.ok m=true→∀c∈cE m,c≠32:=fun{m} hm c hc=>by
  by_cases h0:bQ m=[]
  ·rw[eN hm h0]at hc;simp at hc;rw[hc];decide
  ·rw[cO hm h0,dR]at hc;obtain⟨x1,x2,y1,y2,d1,d2,e1,e2⟩:=M.ok_iff.1 hm;simp only[List.mem_append]at hc;rcases hc with((hc|hc)|hc)|hc
   ·exact hP (by decide) (by omega) c hc
   ·exact hP (by decide) (by omega) c hc
   ·exact hP (by decide) (by omega) c hc
   ·exact hP (by decide) (by omega) c hc
 have hT:∀{t:T},t.c≤100→M.ok t.m=true→∀c∈cL t,c≠32:=fun{t} hc hm c h1=>by
  have hd:∀c∈mU t.c,c≠32:=fun c h2=>hD c (dQ _ (by omega) c h2);unfold cL at h1;split at h1
  ·exact hd c h1
  ·split at h1
   ·exact hM hm c h1
   ·rcases List.mem_append.1 h1 with q|q
    ·exact hd c q
    ·exact hM hm c q
 by_cases h0:n=0
 ·rw[fV h h0];decide
 ·rw[gX h h0];have hk:=(bT h).2
  have:∀k,k≤n→∀c∈iL f k,c≠32:=fun k=>by
   induction k with
   |zero=>intro _ c hc;cases hc
   |succ k ih=>
    intro hkn c hc;unfold iL at hc;rcases List.mem_append.1 hc with q|q
    ·split at q
     ·cases q
     ·rcases List.mem_append.1 q with z|z
      ·exact ih (by omega) c z
      ·simp at z;rw[z];decide
    ·exact hT (hk k (by omega)).1.2 (hk k (by omega)).2 c q
  exact this n (aE _)
theorem iF {l:eY} {s:List UInt8} (h:rG l s):(l.k=1∧s=cS 1++32::([bK l.to]++32::bV l.P.length (lf l.P))∧l.a=0∧l.b=0)∨(l.k=8∧s=cS 8++32::[bK l.to]∧l.a=0∧l.b=0∧l.P=[])∨((l.k=6∨l.k=7)∧s=cS l.k++32::([bK l.to]++32::[bK l.a])∧l.b=0∧l.P=[])∨((l.k=2∨l.k=3∨l.k=4∨l.k=5)∧s=cS l.k++32::([bK l.to]++32::([bK l.a]++32::[bK l.b]))∧l.P=[]):=by
 obtain⟨hk,_,_,_,_,ha,hb,hp,_,hr⟩:=h;obtain⟨k,to,a,b,P⟩:=l;unfold eY.raw at hr;simp only at *;rcases(show k=1∨k=2∨k=3∨k=4∨k=5∨k=6∨k=7∨k=8 by omega)with rfl|rfl|rfl|rfl|rfl|rfl|rfl|rfl
 ·refine .inl ⟨rfl,?_,ha.resolve_left (by decide),hb.resolve_left (by decide)⟩;rw[←hr,yN];rfl
 ·refine .inr (.inr (.inr ⟨by omega,?_,hp.resolve_left (by decide)⟩));rw[←hr,yO];rfl
 ·refine .inr (.inr (.inr ⟨by omega,?_,hp.resolve_left (by decide)⟩));rw[←hr,yP];rfl
 ·refine .inr (.inr (.inr ⟨by omega,?_,hp.resolve_left (by decide)⟩));rw[←hr,yQ];rfl
 ·refine .inr (.inr (.inr ⟨by omega,?_,hp.resolve_left (by decide)⟩));rw[←hr,yR];rfl
 ·refine .inr (.inr (.inl ⟨by omega,?_,hb.resolve_left (by decide),hp.resolve_left (by decide)⟩));rw[←hr,yS];rfl
 ·refine .inr (.inr (.inl ⟨by omega,?_,hb.resolve_left (by decide),hp.resolve_left (by decide)⟩));rw[←hr,yT];rfl
 ·refine .inr (.inl ⟨rfl,?_,ha.resolve_left (by decide),hb.resolve_left (by decide),hp.resolve_left (by decide)⟩);rw[←hr,yU];rfl
theorem sI {l:eY} {s:List UInt8} (h:rG l s):bX s=fN l.k l.to l.a l.b l.P.length (lf l.P):=by
 have t1:=kY h.to.1 h.to.2;have t2:=kY h.a.1 h.a.2
 have t3:=kY h.b.1 h.b.2;have t4:=qQ h.P
 rcases iF h with⟨e,e1,_⟩|⟨e,e1,_⟩|⟨e,e1,_⟩|⟨e,e1,_⟩
 ·rw[e1,e,dP (fK 1),dP t1,fE t4];rfl
 ·rw[e1,e,dP (fK 8),fE t1];rfl
 ·rw[e1,dP (fK _),dP t1,fE t2];rcases e with e|e<;>rw[e]<;>rfl
 ·rw[e1,dP (fK _),dP t1,dP t2,fE t3];rcases e with e|e|e|e<;>rw[e]<;>rfl
theorem yH {l:eY} {s:List UInt8} (h:rG l s) (h1:l.k=1):cB (bV l.P.length (lf l.P))=(l.P,true):=by
 have hl:(bV l.P.length (lf l.P)).length≤400:=by
  rcases iF h with⟨e,e1,_⟩|⟨e,e1,_⟩|⟨e,e1,_⟩|⟨e,e1,_⟩
  ·have:=h.len;rw[e1]at this;simp at this;omega
  ·omega
  ·omega
  ·omega
 obtain⟨L,e,hn,hf⟩:=vL h.P hl;rw[e];have:L=l.P:=by
  apply List.ext_getElem?;intro i;by_cases hi:i<l.P.length
  ·have e2:=hf i hi;unfold lf at e2;rw[List.getD_eq_getElem?_getD,List.getD_eq_getElem?_getD,List.getElem?_eq_getElem hi,List.getElem?_eq_getElem (by omega)]at e2;rw[List.getElem?_eq_getElem hi,List.getElem?_eq_getElem (by omega)];exact congrArg some e2
  ·rw[List.getElem?_eq_none (by omega),List.getElem?_eq_none (by omega)]
 rw[this]
def qI (k:Int) (r:List UInt8):eY:=⟨k,mH ((Lib.splitN r [32] (bZ k)).getD 0 []),if 1<(Lib.splitN r [32] (bZ k)).length then mH ((Lib.splitN r [32] (bZ k)).getD 1 [])else 0,if 2<(Lib.splitN r [32] (bZ k)).length then mH ((Lib.splitN r [32] (bZ k)).getD 2 [])else 0,[]⟩
def rC (r:List UInt8):eY:=⟨1,mH (Lib.cut r [32]).1,0,0,(cB (Lib.cut r [32]).2.1).1⟩
def uP (k:Int) (r:List UInt8):eY:=if k=1 then rC r else qI k r
theorem yB {l:eY} {s:List UInt8} (h:rG l s):(Lib.cut s [32]).1=cS l.k∧uP l.k (Lib.cut s [32]).2.1=l:=by
 have t1:=kY h.to.1 h.to.2;have t2:=kY h.a.1 h.a.2
 have t3:=kY h.b.1 h.b.2;have x1:=oD h.to.1 h.to.2
 have x2:=oD h.a.1 h.a.2;have x3:=oD h.b.1 h.b.2
 have hp:=yH h;rcases iF h with⟨e,e1,e2,e3⟩|⟨e,e1,e2,e3,e4⟩|⟨e,e1,e3,e4⟩|⟨e,e1,e4⟩
 ·rw[e1,fJ (fK 1),e];refine⟨rfl,?_⟩;unfold uP rC;rw[if_pos rfl,fJ t1];show(⟨1,mH [bK l.to],0,0,(cB (bV l.P.length (lf l.P))).1⟩:eY)=l
  rw[x1,hp e];obtain⟨k,to,a,b,P⟩:=l;simp only at e e2 e3;subst e e2 e3;rfl
 ·rw[e1,fJ (fK 8),e];refine⟨rfl,?_⟩;unfold uP qI;rw[if_neg (by decide),show Lib.splitN [bK l.to] [32] (bZ 8)=[[bK l.to]]from rfl];show(⟨8,mH [bK l.to],0,0,[]⟩:eY)=l
  rw[x1];obtain⟨k,to,a,b,P⟩:=l;simp only at e e2 e3 e4;subst e e2 e3 e4;rfl
 ·rw[e1,fJ (fK _)];refine⟨rfl,?_⟩;have hn:bZ l.k=2:=by rcases e with e|e<;>rw[e]<;>rfl
  have hs:Lib.splitN ([bK l.to]++32::[bK l.a]) [32] 2=[[bK l.to],[bK l.a]]:=by show Lib.splitK [32] 0 1 ([bK l.to]++32::[bK l.a])=_;rw[lZ t1 0];rfl
  unfold uP qI;rw[if_neg (by omega),hn,hs];show(⟨l.k,mH [bK l.to],mH [bK l.a],0,[]⟩:eY)=l
  rw[x1,x2];obtain⟨k,to,a,b,P⟩:=l;simp only at e3 e4;subst e3 e4;rfl
 ·rw[e1,fJ (fK _)];refine⟨rfl,?_⟩;have hn:bZ l.k=3:=by rcases e with e|e|e|e<;>rw[e]<;>rfl
  have hs:Lib.splitN ([bK l.to]++32::([bK l.a]++32::[bK l.b])) [32] 3=[[bK l.to],[bK l.a],[bK l.b]]:=by show Lib.splitK [32] 0 2 ([bK l.to]++32::([bK l.a]++32::[bK l.b]))=_;rw[lZ t1 1,lZ t2 0];rfl
  unfold uP qI;rw[if_neg (by omega),hn,hs];show(⟨l.k,mH [bK l.to],mH [bK l.a],mH [bK l.b],[]⟩:eY)=l
  rw[x1,x2,x3];obtain⟨k,to,a,b,P⟩:=l;simp only at e4;subst e4;rfl
def fX (s:List UInt8):eY×Bool:=if kn (Lib.cut s [32]).1≠0∧(uP (kn (Lib.cut s [32]).1) (Lib.cut s [32]).2.1).txt=s then(uP (kn (Lib.cut s [32]).1) (Lib.cut s [32]).2.1,true)else(zT,false)
theorem lK {l:eY} {s:List UInt8} (h:bF l s):fX s=(l,true):=by have hk:=h.ok;obtain⟨e1,e2⟩:=yB hk;unfold fX;rw[e1,jK hk.k,e2,if_pos ⟨by have:=hk.k;omega,h.1⟩]
theorem pA {s:List UInt8} (h:∀l,¬bF l s):fX s=(zT,false):=by
 unfold fX;split
 ·rename_i q;by_cases h0:s=[]
  ·subst h0;exact absurd (by decide:kn (Lib.cut [] [32]).1=0) q.1
  ·exact absurd ⟨q.2,h0⟩ (h _)
 ·rfl
theorem qG {s:List UInt8} (h:(fX s).2=true):bF (fX s).1 s:=by
 by_cases q:∃l,bF l s
 ·obtain⟨l,hl⟩:=q;rw[lK hl];exact hl
 ·rw[pA (fun l hl=>q ⟨l,hl⟩)]at h;cases h
def dE (w:World) (s:List UInt8) (r:Ending) (w':World):Prop:=∃pa cap,r= .returned (.tuple #[.agg #[.int .i64 (fX s).1.k,.int .i64 (fX s).1.to,.int .i64 (fX s).1.a,.int .i64 (fX s).1.b,.slice pa (fX s).1.P.length cap],.bool (fX s).2])∧Below w.heap.size w w'∧iH w.heap.size w' pa cap (fX s).1.P
theorem fL (lo:Nat) (w:World):iH lo w none 0 []:=⟨⟨aE _,by simp,.inl rfl⟩,.inl rfl,.inl rfl⟩
theorem nF {w w':World} {s:List UInt8} (h:∀l,bF l s→False) (hb:Below w.heap.size w w'):dE w s (.returned (.tuple #[.agg #[.int .i64 0,.int .i64 0,.int .i64 0,.int .i64 0,.slice none 0 0],.bool false])) w':=by unfold dE;rw[pA h];exact⟨none,0,rfl,hb,fL _ _⟩
theorem fS {w w':World} {s:List UInt8} {l:eY} {pa:Option Addr} {cap:Nat} (h:bF l s) (hb:Below w.heap.size w w') (ho:iH w.heap.size w' pa cap l.P):dE w s (.returned (.tuple #[.agg #[.int .i64 l.k,.int .i64 l.to,.int .i64 l.a,.int .i64 l.b,.slice pa l.P.length cap],.bool true])) w':=by unfold dE;rw[lK h];exact⟨pa,cap,rfl,hb,ho⟩
def V5 (w:World) (b:Nat) (x0 x1 x2 x3 x4:Value):Prop:=(w.cell? ⟨b,0,none⟩=some x0∧w.cell? ⟨b,1,none⟩=some x1∧w.cell? ⟨b,2,none⟩=some x2∧w.cell? ⟨b,3,none⟩=some x3∧w.cell? ⟨b,4,none⟩=some x4)∧∀j,w.frozen? ⟨b,j,none⟩=false
theorem V5.lt {w:World} {b:Nat} {x0 x1 x2 x3 x4:Value} (h:V5 w b x0 x1 x2 x3 x4):b<w.heap.size:=tS w _ h.1.1
theorem V5.below {w w':World} {b:Nat} {x0 x1 x2 x3 x4:Value} (h:V5 w b x0 x1 x2 x3 x4) (hb:Below w.heap.size w w'):V5 w' b x0 x1 x2 x3 x4:=
 ⟨⟨(hb.cell (p:=⟨b,0,none⟩) h.lt).trans h.1.1,(hb.cell (p:=⟨b,1,none⟩) h.lt).trans h.1.2.1,(hb.cell (p:=⟨b,2,none⟩) h.lt).trans h.1.2.2.1,(hb.cell (p:=⟨b,3,none⟩) h.lt).trans h.1.2.2.2.1,(hb.cell (p:=⟨b,4,none⟩) h.lt).trans h.1.2.2.2.2⟩,fun j=>(hb.frozen (p:=⟨b,j,none⟩) h.lt).trans (h.2 j)⟩
theorem V5.box (w:World) (y:TypeId) (x0 x1 x2 x3 x4:Value):V5 (w.alloc (.cells #[x0,x1,x2,x3,x4] y)) w.heap.size x0 x1 x2 x3 x4:=
 ⟨⟨by rw[World.cell?_alloc_at _ _ _ _ rfl];rfl,by rw[World.cell?_alloc_at _ _ _ _ rfl];rfl,by rw[World.cell?_alloc_at _ _ _ _ rfl];rfl,by rw[World.cell?_alloc_at _ _ _ _ rfl];rfl,by rw[World.cell?_alloc_at _ _ _ _ rfl];rfl⟩,fun j=>by rw[World.frozen?_alloc_at _ _ _ _ rfl]⟩
theorem V5.other {w:World} {b:Nat} {x0 x1 x2 x3 x4:Value} (h:V5 w b x0 x1 x2 x3 x4) {b' k:Nat} (hne:b'≠b) (v:Value):V5 (w.setCell ⟨b',k,none⟩ v) b x0 x1 x2 x3 x4:=by have ne:∀j,(⟨b',k,none⟩:Addr)≠⟨b,j,none⟩:=fun j e=>hne (by cases e;rfl);exact⟨⟨by rw[World.cell?_setCell_other _ _ _ _ (ne 0)];exact h.1.1,by rw[World.cell?_setCell_other _ _ _ _ (ne 1)];exact h.1.2.1,by rw[World.cell?_setCell_other _ _ _ _ (ne 2)];exact h.1.2.2.1,by rw[World.cell?_setCell_other _ _ _ _ (ne 3)];exact h.1.2.2.2.1,by rw[World.cell?_setCell_other _ _ _ _ (ne 4)];exact h.1.2.2.2.2⟩,fun j=>by rw[World.frozen?_setCell];exact h.2 j⟩
theorem V5.set2 {w:World} {b:Nat} {x0 x1 x2 x3 x4:Value} (h:V5 w b x0 x1 x2 x3 x4) (v:Value):V5 (w.setCell ⟨b,2,none⟩ v) b x0 x1 v x3 x4:=
 ⟨⟨by rw[World.cell?_setCell_other _ _ _ _ (by simp)];exact h.1.1,by rw[World.cell?_setCell_other _ _ _ _ (by simp)];exact h.1.2.1,World.cell?_setCell_same _ _ _ h.1.2.2.1,by rw[World.cell?_setCell_other _ _ _ _ (by simp)];exact h.1.2.2.2.1,by rw[World.cell?_setCell_other _ _ _ _ (by simp)];exact h.1.2.2.2.2⟩,fun j=>by rw[World.frozen?_setCell];exact h.2 j⟩
theorem V5.set3 {w:World} {b:Nat} {x0 x1 x2 x3 x4:Value} (h:V5 w b x0 x1 x2 x3 x4) (v:Value):V5 (w.setCell ⟨b,3,none⟩ v) b x0 x1 x2 v x4:=
 ⟨⟨by rw[World.cell?_setCell_other _ _ _ _ (by simp)];exact h.1.1,by rw[World.cell?_setCell_other _ _ _ _ (by simp)];exact h.1.2.1,by rw[World.cell?_setCell_other _ _ _ _ (by simp)];exact h.1.2.2.1,World.cell?_setCell_same _ _ _ h.1.2.2.2.1,by rw[World.cell?_setCell_other _ _ _ _ (by simp)];exact h.1.2.2.2.2⟩,fun j=>by rw[World.frozen?_setCell];exact h.2 j⟩
theorem V5.set4 {w:World} {b:Nat} {x0 x1 x2 x3 x4:Value} (h:V5 w b x0 x1 x2 x3 x4) (v:Value):V5 (w.setCell ⟨b,4,none⟩ v) b x0 x1 x2 x3 v:=
 ⟨⟨by rw[World.cell?_setCell_other _ _ _ _ (by simp)];exact h.1.1,by rw[World.cell?_setCell_other _ _ _ _ (by simp)];exact h.1.2.1,by rw[World.cell?_setCell_other _ _ _ _ (by simp)];exact h.1.2.2.1,by rw[World.cell?_setCell_other _ _ _ _ (by simp)];exact h.1.2.2.2.1,World.cell?_setCell_same _ _ _ h.1.2.2.2.2⟩,fun j=>by rw[World.frozen?_setCell];exact h.2 j⟩
theorem V5.set0 {w:World} {b:Nat} {x0 x1 x2 x3 x4:Value} (h:V5 w b x0 x1 x2 x3 x4) (v:Value):V5 (w.setCell ⟨b,0,none⟩ v) b v x1 x2 x3 x4:=
 ⟨⟨World.cell?_setCell_same _ _ _ h.1.1,by rw[World.cell?_setCell_other _ _ _ _ (by simp)];exact h.1.2.1,by rw[World.cell?_setCell_other _ _ _ _ (by simp)];exact h.1.2.2.1,by rw[World.cell?_setCell_other _ _ _ _ (by simp)];exact h.1.2.2.2.1,by rw[World.cell?_setCell_other _ _ _ _ (by simp)];exact h.1.2.2.2.2⟩,fun j=>by rw[World.frozen?_setCell];exact h.2 j⟩
theorem V5.set1 {w:World} {b:Nat} {x0 x1 x2 x3 x4:Value} (h:V5 w b x0 x1 x2 x3 x4) (v:Value):V5 (w.setCell ⟨b,1,none⟩ v) b x0 v x2 x3 x4:=
 ⟨⟨by rw[World.cell?_setCell_other _ _ _ _ (by simp)];exact h.1.1,World.cell?_setCell_same _ _ _ h.1.2.1,by rw[World.cell?_setCell_other _ _ _ _ (by simp)];exact h.1.2.2.1,by rw[World.cell?_setCell_other _ _ _ _ (by simp)];exact h.1.2.2.2.1,by rw[World.cell?_setCell_other _ _ _ _ (by simp)];exact h.1.2.2.2.2⟩,fun j=>by rw[World.frozen?_setCell];exact h.2 j⟩
theorem gU {lo lo':Nat} {w:World} {a:Option Addr} {cap:Nat} {L:List T} (h:iH lo w a cap L) (hl:lo'≤lo):iH lo' w a cap L:=⟨h.1,h.2.1,h.2.2.imp id (fun⟨g,off,e,q⟩=>⟨g,off,e,kB hl q⟩)⟩
theorem fU {lo:Nat} {w:World} {a:Option Addr} {cap:Nat} {L:List T} (h:iH lo w a cap L) {b k:Nat} {v:Value} (hb:b<lo):iH lo (w.setCell ⟨b,k,none⟩ v) a cap L:=by
 obtain⟨⟨h1,h2,h3⟩,h4,h5⟩:=h;refine⟨⟨h1,h2,?_⟩,?_,h5⟩
 ·rcases h3 with h0|⟨g,off,e,hlt,hc⟩
  ·exact .inl h0
  ·rcases h5 with h0|⟨g',off',e',hg⟩
   ·exact .inl h0
   ·rw[e]at e';cases e';have ne:∀j,(⟨b,k,none⟩:Addr)≠⟨g,j,none⟩:=fun j q=>by cases q;omega
    refine .inr ⟨g,off,e,by simpa using hlt,fun i hi=>?_⟩;obtain⟨c0,c1,c2,c3,c4⟩:=hc i hi;exact⟨by rw[World.cell?_setCell_other _ _ _ _ (ne _)];exact c0,by rw[World.cell?_setCell_other _ _ _ _ (ne _)];exact c1,by rw[World.cell?_setCell_other _ _ _ _ (ne _)];exact c2,by rw[World.cell?_setCell_other _ _ _ _ (ne _)];exact c3,by rw[World.cell?_setCell_other _ _ _ _ (ne _)];exact c4⟩
 ·rcases h4 with h0|⟨g,off,M,F,e,hr,hn,hf⟩
  ·exact .inl h0
  ·rcases h5 with h0|⟨g',off',e',hg⟩
   ·exact .inl h0
   ·rw[e]at e';cases e';obtain⟨c,hc,hz⟩:=hr;exact .inr ⟨g,off,M,F,e,⟨c,by rw[Below.heap_setCell _ _ _ _ (show g≠b by omega)];exact hc,hz⟩,hn,hf⟩
theorem jR {lo:Nat} {w:World} {a:Option Addr} {cap:Nat} {L:List T} (h:iH lo w a cap L) {b:Nat} (hb:b<lo) (v0 v1 v2 v3 v4:Value):iH lo (((((w.setCell ⟨b,0,none⟩ v0).setCell ⟨b,1,none⟩ v1).setCell ⟨b,2,none⟩ v2).setCell ⟨b,3,none⟩ v3).setCell ⟨b,4,none⟩ v4) a cap L:=fU (fU (fU (fU (fU h hb) hb) hb) hb) hb
open Go.Shelf Go.RowKit
set_option linter.unusedSimpArgs false
theorem nZ (a b:List UInt8):(⟨a.toArray⟩++⟨b.toArray⟩:ByteArray)=⟨(a++b).toArray⟩:=by apply ByteArray.ext;simp
theorem fQ (a:List UInt8) (c:UInt8):(⟨a.toArray⟩++⟨#[c]⟩:ByteArray)=⟨(a++[c]).toArray⟩:=nZ a [c]
theorem oU (a b:List UInt8) (c:UInt8):(⟨a.toArray⟩++⟨#[c]⟩++⟨b.toArray⟩:ByteArray)=⟨(a++c::b).toArray⟩:=by rw[fQ,nZ,List.append_assoc];rfl
theorem lA {l:List UInt8} {k:Nat} (h:k+1≤l.length) (u:World):(Instr.slice 9 (.string ⟨l.toArray⟩) (some (.int .i64 ((k:Int)+1))) none none).run Tryz.prog u= .ok (.string ⟨(l.drop (k+1)).toArray⟩) u:=dZ h u
theorem uG (x:Int):((UInt8.ofNat (x%256).toNat).toNat:Int)=x%256:=by
 have h1:=Int.emod_nonneg x (show(256:Int)≠0 by omega);have h2:=Int.emod_lt_of_pos x (show(0:Int)<256 by omega)
 rw[UInt8.toNat_ofNat'];omega
theorem nJ (w:World) (x:Int) (t:TypeId):(convert 35 9 (.slice (some ⟨w.heap.size,0,none⟩) 1 1)).run Tryz.prog (w.alloc (Obj.cells #[.int .u8 (x%256)] t))= .ok (.string ⟨[UInt8.ofNat (x%256).toNat].toArray⟩) (w.alloc (Obj.cells #[.int .u8 (x%256)] t)):=
 run_convert_bytes_back _ _ _ 5 ⟨w.heap.size,0,none⟩ 1 [UInt8.ofNat (x%256).toNat] Tryz.underlying35 Tryz.underlying5 Tryz.underlying9 (fun j hj=>by
  have hj0:j=0:=by simpa using hj
  subst hj0;have e:([UInt8.ofNat (x%256).toNat]:List UInt8)[0]=UInt8.ofNat (x%256).toNat:=rfl
  rw[e,uG];show(w.alloc _).cell? ⟨w.heap.size,0,none⟩=_
  rw[World.cell?_alloc_at _ _ _ _ rfl]
  rfl)
theorem rM (w:World) (B p:Nat) (l:List UInt8) (h:dL w B p) (hl:l.length≤90000) (hp:p≤90000):Calls Tryz.prog 56 #[.pointer (some ⟨B,0,none⟩),.string ⟨l.toArray⟩] w fun e w'=>∃(l':List UInt8) (q:Nat),e= .returned (.string ⟨l'.toArray⟩)∧l'.length≤l.length+1∧q≤p+5∧dL w' B q∧aH B w w':=by
 have hlI:(l.length:Int)≤90000:=by omega
 go_enter Tryz.func56,Tryz.ntmps56;go_wp2_with fail;refine(aI _ _ _ _ h (by omega) (by omega) (by omega)).mono ?_;rintro e w1 ⟨k,rfl,k0,k1,hk⟩;have h1:=hk.rdr h
 have hb1:=hk.beside;clear hk;go_wp2_with fail;refine(aI _ _ _ _ h1 (by omega) (by omega) (by omega)).mono ?_;rintro e w2 ⟨y,rfl,y0,y1,hk⟩;have h2:=hk.rdr h1
 have hb2:=hb1.trans hk.beside;clear hk h1 hb1 h;go_wp2_with fail;refine(aI _ _ _ _ (h2.alloc _) (by omega) (by omega) (by omega)).mono ?_;rintro e w3 ⟨u,rfl,u0,u1,hk⟩;have hb3:=hk.beside
 have h3:=hk.rdr (h2.alloc _);obtain⟨x,hx⟩:∃x,w3.cell? ⟨w2.heap.size,u.toNat,none⟩=some (.int .i64 x):=by
  rw[hb3.cell (by simp) (by have:=h2.lt;omega),World.cell?_alloc_at _ _ _ _ rfl];have hu:u=0∨u=1∨u=2∨u=3∨u=4∨u=5∨u=6∨u=7:=by omega
  rcases hu with rfl|rfl|rfl|rfl|rfl|rfl|rfl|rfl<;>exact⟨_,rfl⟩
 have hbb:aH B w w3:=(hb2.alloc _).trans hb3;clear hk hb2 hb3 h2;obtain⟨K,rfl⟩:=Int.eq_ofNat_of_zero_le k0;have hcv:=nJ w3 x 5
 obtain⟨c,hc⟩:∃c,UInt8.ofNat (x%256).toNat=c:=⟨_,rfl⟩
 rw[hc]at hcv;clear hc;go_wp2_with fail;have hbc:=hbb.alloc (Obj.cells #[.int .u8 (x%256)] 5)
 have h4:=h3.alloc (Obj.cells #[.int .u8 (x%256)] 5);clear hbb h3 hcv hx;generalize w3.alloc (Obj.cells #[.int .u8 (x%256)] 5)=w4 at hbc h4⊢;refine(aI _ _ _ _ h4 (by omega) (by omega) (by omega)).mono ?_;rintro e w5 ⟨v,rfl,v0,v1,hk⟩;have h5:=hk.rdr h4
 have hb5:=hbc.trans hk.beside;clear hk h4 hbc;have hkl:K≤l.length:=by omega
 have hto:=fun u=>mA (l:=l) (k:=K) hkl u;have hfr:=fun u=>dZ (l:=l) (k:=K) hkl u
 by_cases hv:v=0
 ·subst hv;go_wp2
  go_quiet (fail)
  go_wp2;go_ret;exact⟨l.take K++c::l.drop K,_,by simp;exact oU _ _ _,by simp;omega,by omega,h5,hb5.drewN _⟩
 ·have hvb:(v==0)=false:=by simp[hv]
  clear hv;by_cases hke:K=l.length
  ·have hkb:((K:Int)==(l.length:Int))=true:=by simp[hke]
   clear hke hto hfr;go_wp2;go_ret;exact⟨l++[c],_,by simp;exact fQ _ _,by simp,by omega,h5,hb5⟩
  ·have hkb:((K:Int)==(l.length:Int))=false:=by simp;omega
   have hfr1:=fun u=>lA (l:=l) (k:=K) (by omega) u;go_wp2_with fail;refine(aI _ _ _ _ h5 (by omega) (by omega) (by omega)).mono ?_;rintro e w6 ⟨r,rfl,r0,r1,hk⟩;have h6:=hk.rdr h5
   have hb6:=hb5.trans hk.beside;have hKI:(K:Int)<(l.length:Int):=by omega
   clear hk h5 hb5 hfr hke;by_cases hr:r=0
   ·subst hr;go_wp2
    go_quiet (fail)
    go_wp2;go_ret;exact⟨l.take K++l.drop (K+1),_,by simp;exact nZ _ _,by simp;omega,by omega,h6,hb6.drewN _⟩
   ·have hrb:(r==0)=false:=by simp[hr]
    clear hr;go_wp2
    go_quiet (fail)
    go_wp2;go_ret;exact⟨l.take K++c::l.drop (K+1),_,by simp;exact oU _ _ _,by simp;omega,by omega,h6,hb6.drewN _⟩
theorem qK (w:World) (B p:Nat) (l:List UInt8) (h:dL w B p) (hl:l.length≤90000) (hp:p≤80000):Calls Tryz.prog 53 #[.pointer (some ⟨B,0,none⟩),.string ⟨l.toArray⟩] w fun e w'=>∃(l':List UInt8) (q:Nat),e= .returned (.string ⟨l'.toArray⟩)∧l'.length≤l.length+1∧q≤p+6∧dL w' B q∧aH B w w':=by
 go_enter Tryz.func53,Tryz.ntmps53;go_wp2_with fail;refine(aI _ _ _ _ h (by omega) (by omega) (by omega)).mono ?_;rintro e w1 ⟨k,rfl,k0,k1,hk⟩;have h1:=hk.rdr h
 have hb1:=hk.beside;clear hk;by_cases hk0:k=0
 ·subst hk0;go_wp2_with fail;refine(rM _ _ _ _ h1 hl (by omega)).mono ?_;rintro e w2 ⟨l',q,rfl,hl',hq,h2,hb2⟩;have hb:=hb1.trans hb2
  clear h1 hb1 hb2;go_wp2;go_ret;exact⟨l',q,rfl,hl',by omega,h2,hb⟩
 ·have hkb:(k==0)=false:=by simp[hk0]
  clear hk0;go_wp2;go_ret;exact⟨l,_,rfl,by omega,by omega,h1,hb1⟩
end Go.Proofs.YtkcmamepoplcdaaGreatDoor
