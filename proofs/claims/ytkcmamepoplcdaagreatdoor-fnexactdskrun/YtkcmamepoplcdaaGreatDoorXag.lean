/-
  Reading a line, as lists of bytes: there is at most one line that a text is that of.
-/
import Derived.Test.YtkcmamepoplcdaaGreatDoorXaf
import Derived.Lib.Split
import Derived.Lib.IndexMore
set_option maxHeartbeats 8000000
set_option maxRecDepth 100000
namespace Go.Proofs.YtkcmamepoplcdaaGreatDoor
open Go.RowKit
set_option linter.unusedVariables false
def dK:List UInt8→List (List UInt8)
 |[]=>[[]]
 |c::r=>if c=32 then[]::dK r else jK c (dK r)
theorem NQ (c:UInt8) (r:List UInt8):dK (c::r)=if c=32 then[]::dK r else jK c (dK r):=rfl
theorem qS:∀l,dK l≠[]
 |[]=>by simp[dK]
 |c::r=>by
  unfold dK;split
  ·simp
  ·cases e:dK r<;>simp[jK]
theorem lG:∀{w:List UInt8} (h:∀c∈w,c≠32),dK w=[w]
 |[],_=>rfl
 |c::r,h=>by unfold dK;rw[if_neg (h c (by simp)),lG (w:=r) (fun x hx=>h x (by simp[hx]))];rfl
theorem iD:∀{w:List UInt8} (h:∀c∈w,c≠32) (r:List UInt8),dK (w++32::r)=w::dK r
 |[],_,r=>by show dK (32::r)=_;rw[NQ,if_pos rfl]
 |c::w,h,r=>by show dK (c::(w++32::r))=_;rw[NQ,if_neg (h c (by simp)),iD (w:=w) (fun x hx=>h x (by simp[hx])) r];rfl
theorem tM:∀l,dK (l++[32])=dK l++[[]]
 |[]=>by decide
 |c::r=>by
  show dK (c::(r++[32]))=_;unfold dK;rw[tM r];split
  ·rfl
  ·exact tK (qS r)
theorem xD {k:UInt8} (hk:k≠32):∀l,dK (l++[k])=oE k (dK l)
 |[]=>by show dK [k]=_;unfold dK;rw[if_neg hk];rfl
 |c::r=>by
  show dK (c::(r++[k]))=_;unfold dK;rw[xD hk r];split
  ·rw[mU (qS r)]
  ·exact pH (qS r)
theorem AR:∀s:List UInt8,(dK s).length≤s.length+1
 |[]=>by simp[dK]
 |c::r=>by
  have:=AR r;unfold dK;split
  ·simp;omega
  ·cases e:dK r with
   |nil=>exact absurd e (qS r)
   |cons h t=>rw[e]at this;simp[jK]at this⊢;omega
theorem jB:∀(s:List UInt8) (w:List UInt8),w∈dK s→w.length≤s.length
 |[],w,h=>by simp[dK]at h;subst h;simp
 |c::r,w,h=>by
  unfold dK at h;split at h
  ·rcases List.mem_cons.1 h with e|e
   ·subst e;simp
   ·have:=jB r w e;simp;omega
  ·cases q:dK r with
   |nil=>exact absurd q (qS r)
   |cons a t=>
    rw[q]at h;rcases List.mem_cons.1 h with e|e
    ·subst e;have:=jB r a (by rw[q];simp)
     simp;omega
    ·have:=jB r w (by rw[q];simp[e]);simp;omega
theorem BW {l:List UInt8} {j:Nat}:Lib.occAt l [32] j=true↔l[j]? =some 32:=by
 unfold Lib.occAt;cases h:l[j]? with
 |none=>
  have:l.drop j=[]:=List.drop_eq_nil_of_le (List.getElem?_eq_none_iff.1 h);rw[this];simp
 |some c=>
  have hj:j<l.length:=(List.getElem?_eq_some_iff.1 h).1;rw[List.drop_eq_getElem_cons hj];have hc:l[j]=c:=(List.getElem?_eq_some_iff.1 h).2
  rw[hc];simp[List.isPrefixOf];exact⟨fun e=>e.symm,fun e=>e.symm⟩
theorem GH {w:List UInt8} (h:∀c∈w,c≠32) (r:List UInt8):Lib.index (w++32::r) [32]=(w.length:Int):=by
 refine Lib.index_first (by simp) (BW.2 (by simp)) (fun j hj=>?_);cases e:Lib.occAt (w++32::r) [32] j
 ·rfl
 ·have e1:=BW.1 e;rw[List.getElem?_append_left hj]at e1;exact absurd rfl (h 32 (List.mem_of_getElem? e1))
theorem lJ {w:List UInt8} (h:∀c∈w,c≠32) (r:List UInt8):Lib.cut (w++32::r) [32]=(w,r,true):=by unfold Lib.cut;rw[GH h r,if_pos (by omega)];simp[List.drop_append]
theorem wE {w:List UInt8} (h:∀c∈w,c≠32) (k:Nat) (r:List UInt8):Lib.splitK [32] 0 (k+1) (w++32::r)=w::Lib.splitK [32] 0 k r:=by
 have e1:(w++32::r).take w.length=w:=List.take_left' rfl;have e2:(w++32::r).drop (w.length+1)=r:=by rw[List.drop_append,List.drop_eq_nil_of_le (by omega)];simp
 rw[Lib.splitK,GH h r,if_neg (by rw[beq_iff_eq];omega)];show List.take w.length _::Lib.splitK [32] 0 k (List.drop (w.length+1) _)=_
 rw[e1,e2]
def kn (w:List UInt8):Int:=if w=fN 1 then 1 else if w=fN 2 then 2 else if w=fN 3 then 3 else if w=fN 4 then 4 else if w=fN 5 then 5 else if w=fN 6 then 6 else if w=fN 7 then 7 else if w=fN 8 then 8 else 0
theorem rH {k:Int} (h:1≤k∧k≤8):kn (fN k)=k:=by rcases(show k=1∨k=2∨k=3∨k=4∨k=5∨k=6∨k=7∨k=8 by omega)with rfl|rfl|rfl|rfl|rfl|rfl|rfl|rfl<;>decide
theorem GI (w:List UInt8):0≤kn w∧kn w≤8:=by
 unfold kn;repeat(split;· omega)
 omega
theorem ID {w:List UInt8} (h:kn w≠0):fN (kn w)=w:=by
 unfold kn at h⊢;repeat(split;· (rename_i e;exact e.symm))
 rename_i e8
 simp_all
theorem lK (k:Int):∀c∈fN k,c≠32:=by
 unfold fN;repeat(split;· decide)
 decide
theorem uJ {x:Int} (h0:0≤x) (h5:x≤5):∀c∈[cQ x],c≠32:=by rcases(show x=0∨x=1∨x=2∨x=3∨x=4∨x=5 by omega)with rfl|rfl|rfl|rfl|rfl|rfl<;>decide
def jX:List UInt8→Int
 |[c]=>if 65≤(c.toNat:Int)∧(c.toNat:Int)≤70 then(c.toNat:Int)-65 else -1
 |_=> -1
theorem mT {x:Int} (h0:0≤x) (h5:x≤5):jX [cQ x]=x:=by rcases(show x=0∨x=1∨x=2∨x=3∨x=4∨x=5 by omega)with rfl|rfl|rfl|rfl|rfl|rfl<;>decide
def wS (w:List UInt8):Int:=Lib.index [65,66,67,68,69,70] w
theorem zR {x:Int} (h0:0≤x) (h5:x≤5):wS [cQ x]=x:=by rcases(show x=0∨x=1∨x=2∨x=3∨x=4∨x=5 by omega)with rfl|rfl|rfl|rfl|rfl|rfl<;>decide
structure kR where
 k:Int
 to:Int
 a:Int
 b:Int
 P:List T
def kR.txt (l:kR):List UInt8:=dW l.k l.to l.a l.b l.P.length (lf l.P)
def kR.raw (l:kR):List UInt8:=gC l.k l.to l.a l.b l.P.length (lf l.P)
def UK:kR:=⟨0,0,0,0,[]⟩
def cD (l:kR) (s:List UInt8):Prop:=l.txt=s∧s≠[]
structure EW (l:kR) (s:List UInt8):Prop where
 k:1≤l.k∧l.k≤8
 to:0≤l.to∧l.to≤5
 a:0≤l.a∧l.a≤5
 b:0≤l.b∧l.b≤5
 P:aH l.P.length (lf l.P)=true
 a0:2≤dR l.k∨l.a=0
 b0:3≤dR l.k∨l.b=0
 p0:l.k=1∨l.P=[]
 len:s.length≤400
 raw:l.raw=s
theorem cD.ok {l:kR} {s:List UInt8} (h:cD l s):EW l s:=by
 obtain⟨h1,h2⟩:=h;unfold kR.txt dW at h1;split at h1
 ·rename_i q;obtain⟨q1,q2⟩:=q;obtain⟨w1,w2,w3,w4,w5,w6,w7,w8⟩:=of_decide_eq_true q1;exact⟨w1,w2,w3,w4,w5,w6,w7,w8.imp id (fun e=>List.length_eq_zero_iff.1 e),by rw[←h1];exact q2,h1⟩
 ·exact absurd h1.symm h2
theorem DP {n:Nat} {f:Nat→T} (h:aH n f=true):∀c∈cO n f,c≠32:=by
 have hD:∀c,jH c=true→c≠32:=fun c e=>by
  rintro rfl
  revert e
  decide
 have hP:∀{k:UInt8} {n:Int},k≠32→n≤100→∀c∈cR k n,c≠32:=fun{k n} hk hn c hc=>by
  unfold cR at hc;split at hc
  ·cases hc
  ·split at hc
   ·simp at hc;rw[hc];exact hk
   ·rcases List.mem_cons.1 hc with q|q
    ·rw[q];exact hk
    ·exact hD c (iE _ (by omega) c q)
 have hM:∀{m:M},M.ok m=true→∀c∈eN m,c≠32:=fun{m} hm c hc=>by
  by_cases h0:cX m=[]
  ·rw[jQ hm h0]at hc;simp at hc;rw[hc];decide
  ·rw[fJ hm h0,iH]at hc;obtain⟨x1,x2,y1,y2,d1,d2,e1,e2⟩:=M.ok_iff.1 hm;simp only[List.mem_append]at hc;rcases hc with((hc|hc)|hc)|hc
   ·exact hP (by decide) (by omega) c hc
   ·exact hP (by decide) (by omega) c hc
   ·exact hP (by decide) (by omega) c hc
   ·exact hP (by decide) (by omega) c hc
 have hT:∀{t:T},t.c≤100→M.ok t.m=true→∀c∈fE t,c≠32:=fun{t} hc hm c h1=>by
  have hd:∀c∈xJ t.c,c≠32:=fun c h2=>hD c (iE _ (by omega) c h2);unfold fE at h1;split at h1
  ·exact hd c h1
  ·split at h1
   ·exact hM hm c h1
   ·rcases List.mem_append.1 h1 with q|q
    ·exact hd c q
    ·exact hM hm c q
 by_cases h0:n=0
 ·rw[mA h h0];decide
 ·rw[oA h h0];have hk:=(cJ h).2
  have:∀k,k≤n→∀c∈pQ f k,c≠32:=fun k=>by
   induction k with
   |zero=>intro _ c hc;cases hc
   |succ k ih=>
    intro hkn c hc;unfold pQ at hc;rcases List.mem_append.1 hc with q|q
    ·split at q
     ·cases q
     ·rcases List.mem_append.1 q with z|z
      ·exact ih (by omega) c z
      ·simp at z;rw[z];decide
    ·exact hT (hk k (by omega)).1.2 (hk k (by omega)).2 c q
  exact this n (Nat.le_refl _)
theorem oX {l:kR} {s:List UInt8} (h:EW l s):(l.k=1∧s=fN 1++32::([cQ l.to]++32::cO l.P.length (lf l.P))∧l.a=0∧l.b=0)∨(l.k=8∧s=fN 8++32::[cQ l.to]∧l.a=0∧l.b=0∧l.P=[])∨((l.k=6∨l.k=7)∧s=fN l.k++32::([cQ l.to]++32::[cQ l.a])∧l.b=0∧l.P=[])∨((l.k=2∨l.k=3∨l.k=4∨l.k=5)∧s=fN l.k++32::([cQ l.to]++32::([cQ l.a]++32::[cQ l.b]))∧l.P=[]):=by
 obtain⟨hk,_,_,_,_,ha,hb,hp,_,hr⟩:=h;obtain⟨k,to,a,b,P⟩:=l;unfold kR.raw at hr;simp only at *;rcases(show k=1∨k=2∨k=3∨k=4∨k=5∨k=6∨k=7∨k=8 by omega)with rfl|rfl|rfl|rfl|rfl|rfl|rfl|rfl
 ·refine .inl ⟨rfl,?_,ha.resolve_left (by decide),hb.resolve_left (by decide)⟩;rw[←hr,RW];rfl
 ·refine .inr (.inr (.inr ⟨by omega,?_,hp.resolve_left (by decide)⟩));rw[←hr,RX];rfl
 ·refine .inr (.inr (.inr ⟨by omega,?_,hp.resolve_left (by decide)⟩));rw[←hr,RY];rfl
 ·refine .inr (.inr (.inr ⟨by omega,?_,hp.resolve_left (by decide)⟩));rw[←hr,RZ];rfl
 ·refine .inr (.inr (.inr ⟨by omega,?_,hp.resolve_left (by decide)⟩));rw[←hr,SA];rfl
 ·refine .inr (.inr (.inl ⟨by omega,?_,hb.resolve_left (by decide),hp.resolve_left (by decide)⟩));rw[←hr,SB];rfl
 ·refine .inr (.inr (.inl ⟨by omega,?_,hb.resolve_left (by decide),hp.resolve_left (by decide)⟩));rw[←hr,SC];rfl
 ·refine .inr (.inl ⟨rfl,?_,ha.resolve_left (by decide),hb.resolve_left (by decide),hp.resolve_left (by decide)⟩);rw[←hr,SD];rfl
theorem GR {l:kR} {s:List UInt8} (h:EW l s):dK s=lN l.k l.to l.a l.b l.P.length (lf l.P):=by
 have t1:=uJ h.to.1 h.to.2;have t2:=uJ h.a.1 h.a.2
 have t3:=uJ h.b.1 h.b.2;have t4:=DP h.P
 rcases oX h with⟨e,e1,_⟩|⟨e,e1,_⟩|⟨e,e1,_⟩|⟨e,e1,_⟩
 ·rw[e1,e,iD (lK 1),iD t1,lG t4];rfl
 ·rw[e1,e,iD (lK 8),lG t1];rfl
 ·rw[e1,iD (lK _),iD t1,lG t2];rcases e with e|e<;>rw[e]<;>rfl
 ·rw[e1,iD (lK _),iD t1,iD t2,lG t3];rcases e with e|e|e|e<;>rw[e]<;>rfl
theorem RL {l:kR} {s:List UInt8} (h:EW l s) (h1:l.k=1):dV (cO l.P.length (lf l.P))=(l.P,true):=by
 have hl:(cO l.P.length (lf l.P)).length≤400:=by
  rcases oX h with⟨e,e1,_⟩|⟨e,e1,_⟩|⟨e,e1,_⟩|⟨e,e1,_⟩
  ·have:=h.len;rw[e1]at this;simp at this;omega
  ·omega
  ·omega
  ·omega
 obtain⟨L,e,hn,hf⟩:=MV h.P hl;rw[e];have:L=l.P:=by
  apply List.ext_getElem?;intro i;by_cases hi:i<l.P.length
  ·have e2:=hf i hi;unfold lf at e2;rw[List.getD_eq_getElem?_getD,List.getD_eq_getElem?_getD,List.getElem?_eq_getElem hi,List.getElem?_eq_getElem (by omega)]at e2;rw[List.getElem?_eq_getElem hi,List.getElem?_eq_getElem (by omega)];exact congrArg some e2
  ·rw[List.getElem?_eq_none (by omega),List.getElem?_eq_none (by omega)]
 rw[this]
def DE (k:Int) (r:List UInt8):kR:=⟨k,wS ((Lib.splitN r [32] (dR k)).getD 0 []),if 1<(Lib.splitN r [32] (dR k)).length then wS ((Lib.splitN r [32] (dR k)).getD 1 [])else 0,if 2<(Lib.splitN r [32] (dR k)).length then wS ((Lib.splitN r [32] (dR k)).getD 2 [])else 0,[]⟩
def EQ (r:List UInt8):kR:=⟨1,wS (Lib.cut r [32]).1,0,0,(dV (Lib.cut r [32]).2.1).1⟩
def LO (k:Int) (r:List UInt8):kR:=if k=1 then EQ r else DE k r
theorem RD {l:kR} {s:List UInt8} (h:EW l s):(Lib.cut s [32]).1=fN l.k∧LO l.k (Lib.cut s [32]).2.1=l:=by
 have t1:=uJ h.to.1 h.to.2;have t2:=uJ h.a.1 h.a.2
 have t3:=uJ h.b.1 h.b.2;have x1:=zR h.to.1 h.to.2
 have x2:=zR h.a.1 h.a.2;have x3:=zR h.b.1 h.b.2
 have hp:=RL h;rcases oX h with⟨e,e1,e2,e3⟩|⟨e,e1,e2,e3,e4⟩|⟨e,e1,e3,e4⟩|⟨e,e1,e4⟩
 ·rw[e1,lJ (lK 1),e];refine⟨rfl,?_⟩;unfold LO EQ;rw[if_pos rfl,lJ t1];show(⟨1,wS [cQ l.to],0,0,(dV (cO l.P.length (lf l.P))).1⟩:kR)=l
  rw[x1,hp e];obtain⟨k,to,a,b,P⟩:=l;simp only at e e2 e3;subst e e2 e3;rfl
 ·rw[e1,lJ (lK 8),e];refine⟨rfl,?_⟩;unfold LO DE;rw[if_neg (by decide),show Lib.splitN [cQ l.to] [32] (dR 8)=[[cQ l.to]]from rfl];show(⟨8,wS [cQ l.to],0,0,[]⟩:kR)=l
  rw[x1];obtain⟨k,to,a,b,P⟩:=l;simp only at e e2 e3 e4;subst e e2 e3 e4;rfl
 ·rw[e1,lJ (lK _)];refine⟨rfl,?_⟩;have hn:dR l.k=2:=by rcases e with e|e<;>rw[e]<;>rfl
  have hs:Lib.splitN ([cQ l.to]++32::[cQ l.a]) [32] 2=[[cQ l.to],[cQ l.a]]:=by show Lib.splitK [32] 0 1 ([cQ l.to]++32::[cQ l.a])=_;rw[wE t1 0];rfl
  unfold LO DE;rw[if_neg (by omega),hn,hs];show(⟨l.k,wS [cQ l.to],wS [cQ l.a],0,[]⟩:kR)=l
  rw[x1,x2];obtain⟨k,to,a,b,P⟩:=l;simp only at e3 e4;subst e3 e4;rfl
 ·rw[e1,lJ (lK _)];refine⟨rfl,?_⟩;have hn:dR l.k=3:=by rcases e with e|e|e|e<;>rw[e]<;>rfl
  have hs:Lib.splitN ([cQ l.to]++32::([cQ l.a]++32::[cQ l.b])) [32] 3=[[cQ l.to],[cQ l.a],[cQ l.b]]:=by show Lib.splitK [32] 0 2 ([cQ l.to]++32::([cQ l.a]++32::[cQ l.b]))=_;rw[wE t1 1,wE t2 0];rfl
  unfold LO DE;rw[if_neg (by omega),hn,hs];show(⟨l.k,wS [cQ l.to],wS [cQ l.a],wS [cQ l.b],[]⟩:kR)=l
  rw[x1,x2,x3];obtain⟨k,to,a,b,P⟩:=l;simp only at e4;subst e4;rfl
def eI (s:List UInt8):kR×Bool:=if kn (Lib.cut s [32]).1≠0∧(LO (kn (Lib.cut s [32]).1) (Lib.cut s [32]).2.1).txt=s then(LO (kn (Lib.cut s [32]).1) (Lib.cut s [32]).2.1,true)else(UK,false)
theorem AW {l:kR} {s:List UInt8} (h:cD l s):eI s=(l,true):=by have hk:=h.ok;obtain⟨e1,e2⟩:=RD hk;unfold eI;rw[e1,rH hk.k,e2,if_pos ⟨by have:=hk.k;omega,h.1⟩]
theorem AX {s:List UInt8} (h:∀l,¬cD l s):eI s=(UK,false):=by
 unfold eI;split
 ·rename_i q;by_cases h0:s=[]
  ·subst h0;exact absurd (by decide:kn (Lib.cut [] [32]).1=0) q.1
  ·exact absurd ⟨q.2,h0⟩ (h _)
 ·rfl
theorem tP {s:List UInt8} (h:(eI s).2=true):cD (eI s).1 s:=by
 by_cases q:∃l,cD l s
 ·obtain⟨l,hl⟩:=q;rw[AW hl];exact hl
 ·rw[AX (fun l hl=>q ⟨l,hl⟩)]at h;cases h
set_option linter.unusedSimpArgs false
theorem tE {a b:List UInt8} (h:a=b):(Value.string ⟨a.toArray⟩)= .string ⟨b.toArray⟩:=by rw[h]
theorem rW (w:World) (a:Option Addr) (n cap:Nat) (f:Nat→T) (h:Rd w a n cap f):Calls Tryz.prog 43 #[.slice a n cap] w fun r w'=>r= .returned (.string ⟨(cO n f).toArray⟩)∧Below w.heap.size w w':=by
 have HH:=aA h;have hnI:(n:Int)≤9223372036854775807:=by have:=h.2.1;omega
 obtain⟨ok,hok⟩:∃b,aH n f=b:=⟨_,rfl⟩
 have hc:=aY w a n cap f h;rw[hok]at hc;have HC:=aA hc
 have HOK:=aA hok;clear hc hok h;obtain⟨R,hR⟩:∃R,cO n f=R:=⟨_,rfl⟩
 rw[hR];cases ok
 ·have HR:=aA (hR.symm.trans (vU HOK.out));clear hR;go_enter Tryz.func43,Tryz.ntmps43;go_wp2_with fail;refine HC.out.mono ?_;rintro r w1 ⟨rfl,hb⟩;go_wp2;go_ret;exact⟨by rw[HR.out];rfl,hb⟩
 ·by_cases h0:n=0
  ·have HR:=aA (hR.symm.trans (mA HOK.out h0));have hn0:((n:Int)==0)=true:=by rw[h0];rfl
   clear hR h0;go_enter Tryz.func43,Tryz.ntmps43;go_wp2_with fail;refine HC.out.mono ?_;rintro r w1 ⟨rfl,hb⟩;go_wp2;go_ret;exact⟨by rw[HR.out];rfl,hb⟩
  ·have HR:=aA (hR.symm.trans (oA HOK.out h0));have hn0:((n:Int)==0)=false:=beq_eq_false_iff_ne.2 (by omega)
   have HALL:=aA (cJ HOK.out);have n400:=(cJ HOK.out).1
   have n400I:(n:Int)≤400:=by omega
   clear hR;obtain⟨b,off,rfl,hblt,hcl⟩:=HH.out.2.2.resolve_left h0;have HCL:=aA hcl
   clear hcl;go_enter Tryz.func43,Tryz.ntmps43;go_wp2_with fail;refine HC.out.mono ?_;rintro r w1 ⟨rfl,hb⟩;have HB1:=aA hb
   have hs1:=hb.size;clear hb HC;go_wp2;go_loopw [4,3] (fun v4 v3 wr=>∃(k:Nat) (S:List UInt8),k≤n∧v4= .int .i64 (k:Int)∧v3= .string ⟨S.toArray⟩∧Hid (S=pQ f k)∧Hid (Below w.heap.size w wr)) (fun v4 _ _=>n-(intOf v4).toNat);case atStart=>exact⟨0,[],gO _,rfl,rfl,aA rfl,HB1⟩
   case round=>
    obtain⟨k,S,hk,rfl,rfl,HS,HB⟩:=hrel;by_cases hkn:k<n
    ·have hklI:(k:Int)<(n:Int):=by omega
     have hSl:S.length≤6800:=by
      rw[HS.out];have:=nM k (fun i hi=>HALL.out.2 i (by omega))
      omega
     obtain⟨⟨tc1,tc2⟩,tmo⟩:=HALL.out.2 k hkn;obtain⟨t,ht⟩:∃t,f k=t:=⟨_,rfl⟩
     have HJ:=aA (show pQ f (k+1)=(if k=0 then[]else pQ f k++[43])++fE t by rw[←ht];rfl);rw[←HS.out]at HJ;have HS00:Hid (S=pQ f k):=HS
     obtain⟨g0,g1,g2,g3,g4⟩:=(HCL.out k hkn).below HB.out hblt;rw[ht]at tc1 tc2 tmo g0 g1 g2 g3 g4;clear ht;obtain⟨c,⟨x,y,d,e⟩⟩:=t;simp only at tc1 tc2 tmo g0 g1 g2 g3 g4;obtain⟨C,rfl⟩:∃C:Nat,c=(C:Int):=⟨c.toNat,by omega⟩
     have hC100:C≤100:=by omega
     obtain⟨MT,hMT⟩:∃MT,eN ⟨x,y,d,e⟩=MT:=⟨_,rfl⟩
     have hml:MT.length≤12:=by rw[←hMT];exact nS tmo
     have hcm:∀u:World,Calls Tryz.prog 75 #[.agg #[.int .i64 x,.int .i64 y,.int .i64 d,.int .i64 e]] u fun r w'=>r= .returned (.string ⟨MT.toArray⟩)∧Below u.heap.size u w':=fun u=>by rw[←hMT];exact IA x y d e u
     obtain⟨DT,hDT⟩:∃DT,Lib.decDigits C=DT:=⟨_,rfl⟩
     have hdl:DT.length≤4:=by rw[←hDT];exact gU (by omega)
     have hcd:∀u:World,Calls Tryz.prog 41 #[.int .i64 (C:Int)] u fun r w'=>r= .returned (.string ⟨DT.toArray⟩)∧Below u.heap.size u w':=fun u=>by rw[←hDT];exact lR C (by omega) u
     have htrm:fE ⟨(C:Int),⟨x,y,d,e⟩⟩=if MT=[49]then DT else if C=1 then MT else DT++MT:=by
      show(if x=0∧y=0∧d=0∧e=0 then Lib.decDigits C else if(C:Int)=1 then eN ⟨x,y,d,e⟩else Lib.decDigits C++eN ⟨x,y,d,e⟩)=_;rw[hMT,hDT];by_cases hz:x=0∧y=0∧d=0∧e=0
      ·have hm:MT=[49]:=by obtain⟨rfl,rfl,rfl,rfl⟩:=hz;rw[←hMT];exact PO
       rw[if_pos hz,if_pos hm]
      ·have hm:MT≠[49]:=by rw[←hMT];exact(DM tmo hz).1
       rw[if_neg hz,if_neg hm];by_cases h1:C=1
       ·rw[if_pos h1,if_pos (by omega)]
       ·rw[if_neg h1,if_neg (by omega)]
     rw[htrm]at HJ;have HCM:=aA hcm
     have HCD:=aA hcd;clear hcm hcd hMT hDT htrm tmo HS;by_cases hk0:k=0
     ·subst hk0;have HJ0:Hid (pQ f 1=if MT=[49]then DT else if C=1 then MT else DT++MT):=HJ.out
      have hS0:S=[]:=HS00.out;subst hS0;clear HS00;simp only[Nat.zero_mul,Nat.add_zero]at g0 g1 g2 g3 g4;clear HJ;by_cases hm1:MT=[49]
      ·subst hm1;have HQ:Hid (DT=pQ f 1):=by rw[HJ0.out,if_pos rfl];exact aA rfl
       go_wp2_with fail;refine(HCM.out _).mono ?_;rintro r wx0 ⟨rfl,hbx0⟩;have HBx0:=aA (aC HB.out hbx0)
       obtain⟨g0,g1,g2,g3,g4⟩:=fL.below (t:=⟨_,⟨x,y,d,e⟩⟩) ⟨g0,g1,g2,g3,g4⟩ hbx0 (by have:=HB.out.size;omega);simp only at g0 g1 g2 g3 g4;clear hbx0;go_wp2_with fail;refine(HCD.out _).mono ?_;rintro r wx1 ⟨rfl,hbx1⟩;have HBx1:=aA (aC HBx0.out hbx1)
       obtain⟨g0,g1,g2,g3,g4⟩:=fL.below (t:=⟨_,⟨x,y,d,e⟩⟩) ⟨g0,g1,g2,g3,g4⟩ hbx1 (by have:=HBx0.out.size;omega);simp only at g0 g1 g2 g3 g4;clear hbx1;go_wp2;go_roundw;case rel=>exact⟨1,_,by omega,by go_num,by first|rfl|(refine tE ?_;simp;done)|(congr 1;apply ByteArray.ext;simp[ByteArray.data_append];done),HQ,HBx1⟩
       case measure=>simp[intOf];omega
      ·have hmb1:(MT==[49])=false:=beq_eq_false_iff_ne.2 hm1;by_cases hc1:C=1
       ·subst hc1;have HQ:Hid (MT=pQ f 1):=by rw[HJ0.out,if_neg hm1,if_pos rfl];exact aA rfl
        go_wp2_with fail;refine(HCM.out _).mono ?_;rintro r wx0 ⟨rfl,hbx0⟩;have HBx0:=aA (aC HB.out hbx0)
        obtain⟨g0,g1,g2,g3,g4⟩:=fL.below (t:=⟨_,⟨x,y,d,e⟩⟩) ⟨g0,g1,g2,g3,g4⟩ hbx0 (by have:=HB.out.size;omega);simp only at g0 g1 g2 g3 g4;clear hbx0;go_wp2;go_roundw;case rel=>exact⟨1,_,by omega,by go_num,by first|rfl|(refine tE ?_;simp;done)|(congr 1;apply ByteArray.ext;simp[ByteArray.data_append];done),HQ,HBx0⟩
        case measure=>simp[intOf];omega
       ·have hc1I:((C:Int)==1)=false:=beq_eq_false_iff_ne.2 (by omega);have HQ:Hid (DT++MT=pQ f 1):=by rw[HJ0.out,if_neg hm1,if_neg hc1];exact aA rfl
        go_wp2_with fail;refine(HCM.out _).mono ?_;rintro r wx0 ⟨rfl,hbx0⟩;have HBx0:=aA (aC HB.out hbx0)
        obtain⟨g0,g1,g2,g3,g4⟩:=fL.below (t:=⟨_,⟨x,y,d,e⟩⟩) ⟨g0,g1,g2,g3,g4⟩ hbx0 (by have:=HB.out.size;omega);simp only at g0 g1 g2 g3 g4;clear hbx0;go_wp2_with fail;refine(HCD.out _).mono ?_;rintro r wx1 ⟨rfl,hbx1⟩;have HBx1:=aA (aC HBx0.out hbx1)
        obtain⟨g0,g1,g2,g3,g4⟩:=fL.below (t:=⟨_,⟨x,y,d,e⟩⟩) ⟨g0,g1,g2,g3,g4⟩ hbx1 (by have:=HBx0.out.size;omega);simp only at g0 g1 g2 g3 g4;clear hbx1;go_wp2;go_roundw;case rel=>exact⟨1,_,by omega,by go_num,by first|rfl|(refine tE ?_;simp;done)|(congr 1;apply ByteArray.ext;simp[ByteArray.data_append];done),HQ,HBx1⟩
        case measure=>simp[intOf];omega
     ·have hkp:(0:Int)<(k:Int):=by omega
      have HJ1:Hid (pQ f (k+1)=S++[43]++if MT=[49]then DT else if C=1 then MT else DT++MT):=by have:=HJ.out;rw[if_neg hk0]at this;exact this
      clear HJ;by_cases hm1:MT=[49]
      ·subst hm1;have HQ:Hid (S++[43]++DT=pQ f (k+1)):=by rw[HJ1.out,if_pos rfl];exact aA rfl
       go_wp2_with fail;refine(HCM.out _).mono ?_;rintro r wx0 ⟨rfl,hbx0⟩;have HBx0:=aA (aC HB.out hbx0)
       obtain⟨g0,g1,g2,g3,g4⟩:=fL.below (t:=⟨_,⟨x,y,d,e⟩⟩) ⟨g0,g1,g2,g3,g4⟩ hbx0 (by have:=HB.out.size;omega);simp only at g0 g1 g2 g3 g4;clear hbx0;go_wp2_with fail;refine(HCD.out _).mono ?_;rintro r wx1 ⟨rfl,hbx1⟩;have HBx1:=aA (aC HBx0.out hbx1)
       obtain⟨g0,g1,g2,g3,g4⟩:=fL.below (t:=⟨_,⟨x,y,d,e⟩⟩) ⟨g0,g1,g2,g3,g4⟩ hbx1 (by have:=HBx0.out.size;omega);simp only at g0 g1 g2 g3 g4;clear hbx1;go_wp2;go_roundw;case rel=>exact⟨k+1,_,by omega,by go_num,by first|rfl|(refine tE ?_;simp;done)|(congr 1;apply ByteArray.ext;simp[ByteArray.data_append];done),HQ,HBx1⟩
       case measure=>simp[intOf];omega
      ·have hmb1:(MT==[49])=false:=beq_eq_false_iff_ne.2 hm1;by_cases hc1:C=1
       ·subst hc1;have HQ:Hid (S++[43]++MT=pQ f (k+1)):=by rw[HJ1.out,if_neg hm1,if_pos rfl];exact aA rfl
        go_wp2_with fail;refine(HCM.out _).mono ?_;rintro r wx0 ⟨rfl,hbx0⟩;have HBx0:=aA (aC HB.out hbx0)
        obtain⟨g0,g1,g2,g3,g4⟩:=fL.below (t:=⟨_,⟨x,y,d,e⟩⟩) ⟨g0,g1,g2,g3,g4⟩ hbx0 (by have:=HB.out.size;omega);simp only at g0 g1 g2 g3 g4;clear hbx0;go_wp2;go_roundw;case rel=>exact⟨k+1,_,by omega,by go_num,by first|rfl|(refine tE ?_;simp;done)|(congr 1;apply ByteArray.ext;simp[ByteArray.data_append];done),HQ,HBx0⟩
        case measure=>simp[intOf];omega
       ·have hc1I:((C:Int)==1)=false:=beq_eq_false_iff_ne.2 (by omega);have HQ:Hid (S++[43]++(DT++MT)=pQ f (k+1)):=by rw[HJ1.out,if_neg hm1,if_neg hc1];exact aA rfl
        go_wp2_with fail;refine(HCM.out _).mono ?_;rintro r wx0 ⟨rfl,hbx0⟩;have HBx0:=aA (aC HB.out hbx0)
        obtain⟨g0,g1,g2,g3,g4⟩:=fL.below (t:=⟨_,⟨x,y,d,e⟩⟩) ⟨g0,g1,g2,g3,g4⟩ hbx0 (by have:=HB.out.size;omega);simp only at g0 g1 g2 g3 g4;clear hbx0;go_wp2_with fail;refine(HCD.out _).mono ?_;rintro r wx1 ⟨rfl,hbx1⟩;have HBx1:=aA (aC HBx0.out hbx1)
        obtain⟨g0,g1,g2,g3,g4⟩:=fL.below (t:=⟨_,⟨x,y,d,e⟩⟩) ⟨g0,g1,g2,g3,g4⟩ hbx1 (by have:=HBx0.out.size;omega);simp only at g0 g1 g2 g3 g4;clear hbx1;go_wp2;go_roundw;case rel=>exact⟨k+1,_,by omega,by go_num,by first|rfl|(refine tE ?_;simp;done)|(congr 1;apply ByteArray.ext;simp[ByteArray.data_append];done),HQ,HBx1⟩
        case measure=>simp[intOf];omega
    ·have hke:k=n:=by omega
     subst hke;have hnl:¬(k:Int)<(k:Int):=by omega
     have HRS:=aA (HR.out.trans HS.out.symm);go_wp2;go_ret;exact⟨by rw[HRS.out];rfl,HB.out⟩
end Go.Proofs.YtkcmamepoplcdaaGreatDoor
