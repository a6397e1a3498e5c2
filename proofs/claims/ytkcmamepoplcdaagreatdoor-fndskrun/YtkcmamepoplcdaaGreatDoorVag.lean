/-
  Reading a line, as lists of bytes: there is at most one line that a text is that of.
-/
import Derived.Test.YtkcmamepoplcdaaGreatDoorVaf
import Derived.Lib.Split
import Derived.Lib.IndexMore
import Derived.Laws.IdiomStrings
set_option maxHeartbeats 4000000
set_option maxRecDepth 100000
namespace Go.Proofs.YtkcmamepoplcdaaGreatDoor
open Go.RowKit
set_option linter.unusedVariables false
def dZ:List UInt8→List (List UInt8)
 |[]=>[[]]
 |c::r=>if c=32 then[]::dZ r else kF c (dZ r)
theorem PQ (c:UInt8) (r:List UInt8):dZ (c::r)=if c=32 then[]::dZ r else kF c (dZ r):=rfl
theorem rS:∀l,dZ l≠[]
 |[]=>by simp[dZ]
 |c::r=>by
  unfold dZ;split
  ·simp
  ·cases e:dZ r<;>simp[kF]
theorem mA:∀{w:List UInt8} (h:∀c∈w,c≠32),dZ w=[w]
 |[],_=>rfl
 |c::r,h=>by unfold dZ;rw[if_neg (h c (by simp)),mA (w:=r) (fun x hx=>h x (by simp[hx]))];rfl
theorem iV:∀{w:List UInt8} (h:∀c∈w,c≠32) (r:List UInt8),dZ (w++32::r)=w::dZ r
 |[],_,r=>by show dZ (32::r)=_;rw[PQ,if_pos rfl]
 |c::w,h,r=>by show dZ (c::(w++32::r))=_;rw[PQ,if_neg (h c (by simp)),iV (w:=w) (fun x hx=>h x (by simp[hx])) r];rfl
theorem uH:∀l,dZ (l++[32])=dZ l++[[]]
 |[]=>by decide
 |c::r=>by
  show dZ (c::(r++[32]))=_;unfold dZ;rw[uH r];split
  ·rfl
  ·exact uF (rS r)
theorem yF {k:UInt8} (hk:k≠32):∀l,dZ (l++[k])=pC k (dZ l)
 |[]=>by show dZ [k]=_;unfold dZ;rw[if_neg hk];rfl
 |c::r=>by
  show dZ (c::(r++[k]))=_;unfold dZ;rw[yF hk r];split
  ·rw[nR (rS r)]
  ·exact qF (rS r)
theorem CG:∀s:List UInt8,(dZ s).length≤s.length+1
 |[]=>by simp[dZ]
 |c::r=>by
  have:=CG r;unfold dZ;split
  ·simp;omega
  ·cases e:dZ r with
   |nil=>exact absurd e (rS r)
   |cons h t=>rw[e]at this;simp[kF]at this⊢;omega
theorem jS:∀(s:List UInt8) (w:List UInt8),w∈dZ s→w.length≤s.length
 |[],w,h=>by simp[dZ]at h;subst h;simp
 |c::r,w,h=>by
  unfold dZ at h;split at h
  ·rcases List.mem_cons.1 h with e|e
   ·subst e;simp
   ·have:=jS r w e;simp;omega
  ·cases q:dZ r with
   |nil=>exact absurd q (rS r)
   |cons a t=>
    rw[q]at h;rcases List.mem_cons.1 h with e|e
    ·subst e;have:=jS r a (by rw[q];simp)
     simp;omega
    ·have:=jS r w (by rw[q];simp[e]);simp;omega
theorem DG {l:List UInt8} {j:Nat}:Lib.occAt l [32] j=true↔l[j]? =some 32:=by
 unfold Lib.occAt;cases h:l[j]? with
 |none=>
  have:l.drop j=[]:=List.drop_eq_nil_of_le (List.getElem?_eq_none_iff.1 h);rw[this];simp
 |some c=>
  have hj:j<l.length:=(List.getElem?_eq_some_iff.1 h).1;rw[List.drop_eq_getElem_cons hj];have hc:l[j]=c:=(List.getElem?_eq_some_iff.1 h).2
  rw[hc];simp[List.isPrefixOf];exact⟨fun e=>e.symm,fun e=>e.symm⟩
theorem JE {w:List UInt8} (h:∀c∈w,c≠32) (r:List UInt8):Lib.index (w++32::r) [32]=(w.length:Int):=by
 refine Lib.index_first (by simp) (DG.2 (by simp)) (fun j hj=>?_);cases e:Lib.occAt (w++32::r) [32] j
 ·rfl
 ·have e1:=DG.1 e;rw[List.getElem?_append_left hj]at e1;exact absurd rfl (h 32 (List.mem_of_getElem? e1))
theorem mD {w:List UInt8} (h:∀c∈w,c≠32) (r:List UInt8):Lib.cut (w++32::r) [32]=(w,r,true):=by unfold Lib.cut;rw[JE h r,if_pos (by omega)];simp[List.drop_append]
theorem xF {w:List UInt8} (h:∀c∈w,c≠32) (k:Nat) (r:List UInt8):Lib.splitK [32] 0 (k+1) (w++32::r)=w::Lib.splitK [32] 0 k r:=by
 have e1:(w++32::r).take w.length=w:=List.take_left' rfl;have e2:(w++32::r).drop (w.length+1)=r:=by rw[List.drop_append,List.drop_eq_nil_of_le (by omega)];simp
 rw[Lib.splitK,JE h r,if_neg (by rw[beq_iff_eq];omega)];show List.take w.length _::Lib.splitK [32] 0 k (List.drop (w.length+1) _)=_
 rw[e1,e2]
def kn (w:List UInt8):Int:=if w=gB 1 then 1 else if w=gB 2 then 2 else if w=gB 3 then 3 else if w=gB 4 then 4 else if w=gB 5 then 5 else if w=gB 6 then 6 else if w=gB 7 then 7 else if w=gB 8 then 8 else 0
theorem sD {k:Int} (h:1≤k∧k≤8):kn (gB k)=k:=by rcases(show k=1∨k=2∨k=3∨k=4∨k=5∨k=6∨k=7∨k=8 by omega)with rfl|rfl|rfl|rfl|rfl|rfl|rfl|rfl<;>decide
theorem JF (w:List UInt8):0≤kn w∧kn w≤8:=by
 unfold kn;repeat(split;· omega)
 omega
theorem JY {w:List UInt8} (h:kn w≠0):gB (kn w)=w:=by
 unfold kn at h⊢;repeat(split;· (rename_i e;exact e.symm))
 rename_i e8
 simp_all
theorem mE (k:Int):∀c∈gB k,c≠32:=by
 unfold gB;repeat(split;· decide)
 decide
theorem vG {x:Int} (h0:0≤x) (h5:x≤5):∀c∈[cZ x],c≠32:=by rcases(show x=0∨x=1∨x=2∨x=3∨x=4∨x=5 by omega)with rfl|rfl|rfl|rfl|rfl|rfl<;>decide
def kO:List UInt8→Int
 |[c]=>if 65≤(c.toNat:Int)∧(c.toNat:Int)≤70 then(c.toNat:Int)-65 else -1
 |_=> -1
theorem nQ {x:Int} (h0:0≤x) (h5:x≤5):kO [cZ x]=x:=by rcases(show x=0∨x=1∨x=2∨x=3∨x=4∨x=5 by omega)with rfl|rfl|rfl|rfl|rfl|rfl<;>decide
def xU (w:List UInt8):Int:=Lib.index [65,66,67,68,69,70] w
theorem BE {x:Int} (h0:0≤x) (h5:x≤5):xU [cZ x]=x:=by rcases(show x=0∨x=1∨x=2∨x=3∨x=4∨x=5 by omega)with rfl|rfl|rfl|rfl|rfl|rfl<;>decide
structure lG where
 k:Int
 to:Int
 a:Int
 b:Int
 P:List T
def lG.txt (l:lG):List UInt8:=eI l.k l.to l.a l.b l.P.length (lf l.P)
def lG.raw (l:lG):List UInt8:=gO l.k l.to l.a l.b l.P.length (lf l.P)
def WM:lG:=⟨0,0,0,0,[]⟩
def cJ (l:lG) (s:List UInt8):Prop:=l.txt=s∧s≠[]
structure GK (l:lG) (s:List UInt8):Prop where
 k:1≤l.k∧l.k≤8
 to:0≤l.to∧l.to≤5
 a:0≤l.a∧l.a≤5
 b:0≤l.b∧l.b≤5
 P:aK l.P.length (lf l.P)=true
 a0:2≤eD l.k∨l.a=0
 b0:3≤eD l.k∨l.b=0
 p0:l.k=1∨l.P=[]
 len:s.length≤400
 raw:l.raw=s
theorem cJ.ok {l:lG} {s:List UInt8} (h:cJ l s):GK l s:=by
 obtain⟨h1,h2⟩:=h;unfold lG.txt eI at h1;split at h1
 ·rename_i q;obtain⟨q1,q2⟩:=q;obtain⟨w1,w2,w3,w4,w5,w6,w7,w8⟩:=of_decide_eq_true q1;exact⟨w1,w2,w3,w4,w5,w6,w7,w8.imp id (fun e=>List.length_eq_zero_iff.1 e),by rw[←h1];exact q2,h1⟩
 ·exact absurd h1.symm h2
theorem FG {n:Nat} {f:Nat→T} (h:aK n f=true):∀c∈cY n f,c≠32:=by
 have hD:∀c,kC c=true→c≠32:=fun c e=>by
  rintro rfl
  revert e
  decide
 have hP:∀{k:UInt8} {n:Int},k≠32→n≤100→∀c∈dB k n,c≠32:=fun{k n} hk hn c hc=>by
  unfold dB at hc;split at hc
  ·cases hc
  ·split at hc
   ·simp at hc;rw[hc];exact hk
   ·rcases List.mem_cons.1 hc with q|q
    ·rw[q];exact hk
    ·exact hD c (iW _ (by omega) c q)
 have hM:∀{m:M},M.ok m=true→∀c∈eY m,c≠32:=fun{m} hm c hc=>by
  by_cases h0:dH m=[]
  ·rw[kL hm h0]at hc;simp at hc;rw[hc];decide
  ·rw[fV hm h0,iZ]at hc;obtain⟨x1,x2,y1,y2,d1,d2,e1,e2⟩:=M.ok_iff.1 hm;simp only[List.mem_append]at hc;rcases hc with((hc|hc)|hc)|hc
   ·exact hP (by decide) (by omega) c hc
   ·exact hP (by decide) (by omega) c hc
   ·exact hP (by decide) (by omega) c hc
   ·exact hP (by decide) (by omega) c hc
 have hT:∀{t:T},t.c≤100→M.ok t.m=true→∀c∈fQ t,c≠32:=fun{t} hc hm c h1=>by
  have hd:∀c∈yL t.c,c≠32:=fun c h2=>hD c (iW _ (by omega) c h2);unfold fQ at h1;split at h1
  ·exact hd c h1
  ·split at h1
   ·exact hM hm c h1
   ·rcases List.mem_append.1 h1 with q|q
    ·exact hd c q
    ·exact hM hm c q
 by_cases h0:n=0
 ·rw[mV h h0];decide
 ·rw[oX h h0];have hk:=(cT h).2
  have:∀k,k≤n→∀c∈qO f k,c≠32:=fun k=>by
   induction k with
   |zero=>intro _ c hc;cases hc
   |succ k ih=>
    intro hkn c hc;unfold qO at hc;rcases List.mem_append.1 hc with q|q
    ·split at q
     ·cases q
     ·rcases List.mem_append.1 q with z|z
      ·exact ih (by omega) c z
      ·simp at z;rw[z];decide
    ·exact hT (hk k (by omega)).1.2 (hk k (by omega)).2 c q
  exact this n (Nat.le_refl _)
theorem pS {l:lG} {s:List UInt8} (h:GK l s):(l.k=1∧s=gB 1++32::([cZ l.to]++32::cY l.P.length (lf l.P))∧l.a=0∧l.b=0)∨(l.k=8∧s=gB 8++32::[cZ l.to]∧l.a=0∧l.b=0∧l.P=[])∨((l.k=6∨l.k=7)∧s=gB l.k++32::([cZ l.to]++32::[cZ l.a])∧l.b=0∧l.P=[])∨((l.k=2∨l.k=3∨l.k=4∨l.k=5)∧s=gB l.k++32::([cZ l.to]++32::([cZ l.a]++32::[cZ l.b]))∧l.P=[]):=by
 obtain⟨hk,_,_,_,_,ha,hb,hp,_,hr⟩:=h;obtain⟨k,to,a,b,P⟩:=l;unfold lG.raw at hr;simp only at *;rcases(show k=1∨k=2∨k=3∨k=4∨k=5∨k=6∨k=7∨k=8 by omega)with rfl|rfl|rfl|rfl|rfl|rfl|rfl|rfl
 ·refine .inl ⟨rfl,?_,ha.resolve_left (by decide),hb.resolve_left (by decide)⟩;rw[←hr,UG];rfl
 ·refine .inr (.inr (.inr ⟨by omega,?_,hp.resolve_left (by decide)⟩));rw[←hr,UH];rfl
 ·refine .inr (.inr (.inr ⟨by omega,?_,hp.resolve_left (by decide)⟩));rw[←hr,UI];rfl
 ·refine .inr (.inr (.inr ⟨by omega,?_,hp.resolve_left (by decide)⟩));rw[←hr,UJ];rfl
 ·refine .inr (.inr (.inr ⟨by omega,?_,hp.resolve_left (by decide)⟩));rw[←hr,UK];rfl
 ·refine .inr (.inr (.inl ⟨by omega,?_,hb.resolve_left (by decide),hp.resolve_left (by decide)⟩));rw[←hr,UL];rfl
 ·refine .inr (.inr (.inl ⟨by omega,?_,hb.resolve_left (by decide),hp.resolve_left (by decide)⟩));rw[←hr,UM];rfl
 ·refine .inr (.inl ⟨rfl,?_,ha.resolve_left (by decide),hb.resolve_left (by decide),hp.resolve_left (by decide)⟩);rw[←hr,UN];rfl
theorem JO {l:lG} {s:List UInt8} (h:GK l s):dZ s=mH l.k l.to l.a l.b l.P.length (lf l.P):=by
 have t1:=vG h.to.1 h.to.2;have t2:=vG h.a.1 h.a.2
 have t3:=vG h.b.1 h.b.2;have t4:=FG h.P
 rcases pS h with⟨e,e1,_⟩|⟨e,e1,_⟩|⟨e,e1,_⟩|⟨e,e1,_⟩
 ·rw[e1,e,iV (mE 1),iV t1,mA t4];rfl
 ·rw[e1,e,iV (mE 8),mA t1];rfl
 ·rw[e1,iV (mE _),iV t1,mA t2];rcases e with e|e<;>rw[e]<;>rfl
 ·rw[e1,iV (mE _),iV t1,iV t2,mA t3];rcases e with e|e|e|e<;>rw[e]<;>rfl
theorem TW {l:lG} {s:List UInt8} (h:GK l s) (h1:l.k=1):eL (cY l.P.length (lf l.P))=(l.P,true):=by
 have hl:(cY l.P.length (lf l.P)).length≤400:=by
  rcases pS h with⟨e,e1,_⟩|⟨e,e1,_⟩|⟨e,e1,_⟩|⟨e,e1,_⟩
  ·have:=h.len;rw[e1]at this;simp at this;omega
  ·omega
  ·omega
  ·omega
 obtain⟨L,e,hn,hf⟩:=OU h.P hl;rw[e];have:L=l.P:=by
  apply List.ext_getElem?;intro i;by_cases hi:i<l.P.length
  ·have e2:=hf i hi;unfold lf at e2;rw[List.getD_eq_getElem?_getD,List.getD_eq_getElem?_getD,List.getElem?_eq_getElem hi,List.getElem?_eq_getElem (by omega)]at e2;rw[List.getElem?_eq_getElem hi,List.getElem?_eq_getElem (by omega)];exact congrArg some e2
  ·rw[List.getElem?_eq_none (by omega),List.getElem?_eq_none (by omega)]
 rw[this]
def EV (k:Int) (r:List UInt8):lG:=⟨k,xU ((Lib.splitN r [32] (eD k)).getD 0 []),if 1<(Lib.splitN r [32] (eD k)).length then xU ((Lib.splitN r [32] (eD k)).getD 1 [])else 0,if 2<(Lib.splitN r [32] (eD k)).length then xU ((Lib.splitN r [32] (eD k)).getD 2 [])else 0,[]⟩
def GG (r:List UInt8):lG:=⟨1,xU (Lib.cut r [32]).1,0,0,(eL (Lib.cut r [32]).2.1).1⟩
def NN (k:Int) (r:List UInt8):lG:=if k=1 then GG r else EV k r
theorem TH {l:lG} {s:List UInt8} (h:GK l s):(Lib.cut s [32]).1=gB l.k∧NN l.k (Lib.cut s [32]).2.1=l:=by
 have t1:=vG h.to.1 h.to.2;have t2:=vG h.a.1 h.a.2
 have t3:=vG h.b.1 h.b.2;have x1:=BE h.to.1 h.to.2
 have x2:=BE h.a.1 h.a.2;have x3:=BE h.b.1 h.b.2
 have hp:=TW h;rcases pS h with⟨e,e1,e2,e3⟩|⟨e,e1,e2,e3,e4⟩|⟨e,e1,e3,e4⟩|⟨e,e1,e4⟩
 ·rw[e1,mD (mE 1),e];refine⟨rfl,?_⟩;unfold NN GG;rw[if_pos rfl,mD t1];show(⟨1,xU [cZ l.to],0,0,(eL (cY l.P.length (lf l.P))).1⟩:lG)=l
  rw[x1,hp e];obtain⟨k,to,a,b,P⟩:=l;simp only at e e2 e3;subst e e2 e3;rfl
 ·rw[e1,mD (mE 8),e];refine⟨rfl,?_⟩;unfold NN EV;rw[if_neg (by decide),show Lib.splitN [cZ l.to] [32] (eD 8)=[[cZ l.to]]from rfl];show(⟨8,xU [cZ l.to],0,0,[]⟩:lG)=l
  rw[x1];obtain⟨k,to,a,b,P⟩:=l;simp only at e e2 e3 e4;subst e e2 e3 e4;rfl
 ·rw[e1,mD (mE _)];refine⟨rfl,?_⟩;have hn:eD l.k=2:=by rcases e with e|e<;>rw[e]<;>rfl
  have hs:Lib.splitN ([cZ l.to]++32::[cZ l.a]) [32] 2=[[cZ l.to],[cZ l.a]]:=by show Lib.splitK [32] 0 1 ([cZ l.to]++32::[cZ l.a])=_;rw[xF t1 0];rfl
  unfold NN EV;rw[if_neg (by omega),hn,hs];show(⟨l.k,xU [cZ l.to],xU [cZ l.a],0,[]⟩:lG)=l
  rw[x1,x2];obtain⟨k,to,a,b,P⟩:=l;simp only at e3 e4;subst e3 e4;rfl
 ·rw[e1,mD (mE _)];refine⟨rfl,?_⟩;have hn:eD l.k=3:=by rcases e with e|e|e|e<;>rw[e]<;>rfl
  have hs:Lib.splitN ([cZ l.to]++32::([cZ l.a]++32::[cZ l.b])) [32] 3=[[cZ l.to],[cZ l.a],[cZ l.b]]:=by show Lib.splitK [32] 0 2 ([cZ l.to]++32::([cZ l.a]++32::[cZ l.b]))=_;rw[xF t1 1,xF t2 0];rfl
  unfold NN EV;rw[if_neg (by omega),hn,hs];show(⟨l.k,xU [cZ l.to],xU [cZ l.a],xU [cZ l.b],[]⟩:lG)=l
  rw[x1,x2,x3];obtain⟨k,to,a,b,P⟩:=l;simp only at e4;subst e4;rfl
def dP (s:List UInt8):lG×Bool:=if kn (Lib.cut s [32]).1≠0∧(NN (kn (Lib.cut s [32]).1) (Lib.cut s [32]).2.1).txt=s then(NN (kn (Lib.cut s [32]).1) (Lib.cut s [32]).2.1,true)else(WM,false)
theorem CJ {l:lG} {s:List UInt8} (h:cJ l s):dP s=(l,true):=by have hk:=h.ok;obtain⟨e1,e2⟩:=TH hk;unfold dP;rw[e1,sD hk.k,e2,if_pos ⟨by have:=hk.k;omega,h.1⟩]
theorem CK {s:List UInt8} (h:∀l,¬cJ l s):dP s=(WM,false):=by
 unfold dP;split
 ·rename_i q;by_cases h0:s=[]
  ·subst h0;exact absurd (by decide:kn (Lib.cut [] [32]).1=0) q.1
  ·exact absurd ⟨q.2,h0⟩ (h _)
 ·rfl
theorem uI {s:List UInt8} (h:(dP s).2=true):cJ (dP s).1 s:=by
 by_cases q:∃l,cJ l s
 ·obtain⟨l,hl⟩:=q;rw[CJ hl];exact hl
 ·rw[CK (fun l hl=>q ⟨l,hl⟩)]at h;cases h
set_option linter.unusedSimpArgs false
theorem II (w:World) (x:Nat) (hx:x<256):(convert 35 9 (.slice (some ⟨w.heap.size,0,none⟩) 1 1)).run Tryz.prog (w.alloc (.cells #[.int .u8 (x:Int)] 5))= .ok (.string ⟨#[UInt8.ofNat x]⟩) (w.alloc (.cells #[.int .u8 (x:Int)] 5)):=
 run_convert_bytes_back _ _ _ 5 ⟨w.heap.size,0,none⟩ 1 [UInt8.ofNat x] (by kernel_rfl) (by kernel_rfl) (by kernel_rfl) (fun j hj=>by
  have:j=0:=by simpa using hj
  subst this;have e:((⟨w.heap.size,0,none⟩:Addr).add 0)=⟨w.heap.size,0,none⟩:=rfl
  rw[e,World.cell?_alloc_at _ _ _ _ rfl];simp
  omega)
theorem mN (n:Nat) (hn:n<10000) (w:World):Calls Tryz.prog 41 #[.int .i64 (n:Int)] w fun r w'=>r= .returned (.string ⟨(Lib.decDigits n).toArray⟩)∧Below w.heap.size w w':=by
 by_cases h0:n=0
 ·subst h0;go_enter Tryz.func41,Tryz.ntmps41;go_wp2;go_ret;exact⟨by rw[dW (by omega)];rfl,aD _ _⟩
 ·have h1:¬(n:Int)<1:=by omega
  go_enter Tryz.func41,Tryz.ntmps41;go_wp2;go_loopw [0,3] (fun v0 v3 wr=>∃(k:Nat) (out:List UInt8),k≤n∧v0= .int .i64 (k:Int)∧v3= .string ⟨out.toArray⟩∧Hid (rT k out=Lib.decDigits n)∧Below w.heap.size w wr) (fun v0 _ _=>(intOf v0).toNat);case atStart=>exact⟨n,[],Nat.le_refl _,rfl,rfl,aA (AV (by omega)),aD _ _⟩
  case round=>
   obtain⟨k,out,hk,rfl,rfl,HD,hB⟩:=hrel;have hlen:out.length≤4:=by
    have h1:=IK k out;rw[HD.out]at h1;have:=iE hn
    omega
   have HB:=aA hB;clear hB;by_cases hk0:k=0
   ·subst hk0;have he:out=Lib.decDigits n:=(EN out).symm.trans HD.out
    have HE:=aA he;clear he;go_wp2;go_ret;exact⟨by rw[HE.out];rfl,HB.out⟩
   ·have hkp:(0:Int)<(k:Int):=by omega
    have hr1:(k:Int).tmod 10=((k%10:Nat):Int):=by rw[Int.tmod_eq_emod_of_nonneg (by omega)];omega
    have hq1:(k:Int).tdiv 10=((k / 10:Nat):Int):=by rw[Int.tdiv_eq_ediv_of_nonneg (by omega)];omega
    obtain⟨r,hr⟩:∃r,k%10=r:=⟨_,rfl⟩
    obtain⟨q,hq⟩:∃q,k / 10=q:=⟨_,rfl⟩
    have hr10:r<10:=by omega
    have hqk:q<k:=by omega
    have hD2:rT q (UInt8.ofNat (48+r)::out)=Lib.decDigits n:=by rw[←hr,←hq,EM (by omega)];exact HD.out
    have HD2:=aA hD2;rw[hr]at hr1;rw[hq]at hq1;clear hD2 HD hr hq;have hr2:(k:Int)%10=(r:Int):=by rw[←hr1,Int.tmod_eq_emod_of_nonneg (by omega)]
    have hq2:(k:Int) / 10=(q:Int):=by rw[←hq1,Int.tdiv_eq_ediv_of_nonneg (by omega)]
    have hw1:IntKind.i64.wrap (48+(r:Int))=((48+r:Nat):Int):=by rw[IntKind.wrap_i64];omega
    have hw2:IntKind.u8.wrap ((48+r:Nat):Int)=((48+r:Nat):Int):=by rcases(show r=0∨r=1∨r=2∨r=3∨r=4∨r=5∨r=6∨r=7∨r=8∨r=9 by omega)with rfl|rfl|rfl|rfl|rfl|rfl|rfl|rfl|rfl|rfl<;>decide
    have hw3:IntKind.u8.wrap (48+(r:Int))=((48+r:Nat):Int):=by rw[show 48+(r:Int)=((48+r:Nat):Int) by omega];exact hw2
    have hcv:=II wr (48+r) (by omega);obtain⟨x,hx⟩:∃x,48+r=x:=⟨_,rfl⟩
    rw[hx]at hw1 hw2 hw3 hcv HD2;have hx48:48+(r:Int)=(x:Int):=by omega
    clear hx;have hsz:¬(1+out.length>9223372036854775807):=by omega
    have hsz2:¬(9223372036854775807<1+out.length):=by omega
    go_wp2;go_roundw;case rel=>exact⟨q,UInt8.ofNat x::out,by omega,by first|rfl|(simp[hq2];done)|(simp[hq1];done),by first|rfl|(rw[ByteArray.ext_iff];simp[ByteArray.data_append];done),HD2,aC HB.out (aF _ _)⟩
    case measure=>simp[intOf];omega
theorem JG (c:UInt8) (n:Nat) (hn:n≤15) (w:World):Calls Tryz.prog 108 #[.string ⟨#[c]⟩,.int .i64 (n:Int)] w fun r w'=>r= .returned (.string ⟨(dB c (n:Int)).toArray⟩)∧Below w.heap.size w w':=by
 by_cases h0:n=0
 ·subst h0;go_enter Tryz.func108,Tryz.ntmps108;go_wp2;go_ret;exact⟨by rfl,aD _ _⟩
 ·by_cases h1:n=1
  ·subst h1;go_enter Tryz.func108,Tryz.ntmps108;go_wp2;go_ret;exact⟨by rfl,aD _ _⟩
  ·have hn0:((n:Int)==0)=false:=beq_eq_false_iff_ne.2 (by omega);have hn1:((n:Int)==1)=false:=beq_eq_false_iff_ne.2 (by omega)
   obtain⟨D,hD⟩:∃D,Lib.decDigits n=D:=⟨_,rfl⟩
   have hl:D.length≤2:=by rw[←hD];exact jF (by omega)
   have hc:=mN n (by omega) w;rw[hD]at hc;have HC:=aA hc
   have hp:dB c (n:Int)=c::D:=by rw[jI (by omega),hD]
   have HP:=aA hp;clear hc hp hD;have hsz:¬(1+D.length>9223372036854775807):=by omega
   have hsz2:¬(9223372036854775807<1+D.length):=by omega
   go_enter Tryz.func108,Tryz.ntmps108;go_wp2_with fail;refine HC.out.mono ?_;rintro r w1 ⟨rfl,hb⟩;have HB:=aA hb
   clear hb;go_wp2;go_ret;exact⟨by rw[HP.out];first|rfl|(congr 2;apply ByteArray.ext;simp[ByteArray.data_append];done),HB.out⟩
theorem BH {c:UInt8} {n:Nat} {p:List UInt8} (h:dB c (n:Int)=p) (hn:n≤15) (w:World):Calls Tryz.prog 108 #[.string ⟨#[c]⟩,.int .i64 (n:Int)] w fun r w'=>r= .returned (.string ⟨p.toArray⟩)∧Below w.heap.size w w':=by rw[←h];exact JG c n hn w
theorem JV (x y d e:Int) (w:World):Calls Tryz.prog 75 #[.agg #[.int .i64 x,.int .i64 y,.int .i64 d,.int .i64 e]] w fun r w'=>r= .returned (.string ⟨(eY ⟨x,y,d,e⟩).toArray⟩)∧Below w.heap.size w w':=by
 obtain⟨ok,hok⟩:∃b,M.ok ⟨x,y,d,e⟩=b:=⟨_,rfl⟩
 have HOK:=aA hok;clear hok;cases ok
 ·have he:=wJ HOK.out;have HE:=aA he
  clear he;go_enter Tryz.func75,Tryz.ntmps75;go_wp2_with fail;refine(jB HOK.out _).mono ?_;rintro r w1 ⟨rfl,hb⟩;go_wp2;go_ret;exact⟨by rw[HE.out];rfl,aC (aF w _) hb⟩
 ·obtain⟨x1,x2,y1,y2,d1,d2,e1,e2⟩:=M.ok_iff.1 HOK.out;simp only at x1 x2 y1 y2 d1 d2 e1 e2;obtain⟨X,rfl⟩:∃X:Nat,x=(X:Int):=⟨x.toNat,by omega⟩
  obtain⟨Y,rfl⟩:∃X:Nat,y=(X:Int):=⟨y.toNat,by omega⟩
  obtain⟨D,rfl⟩:∃X:Nat,d=(X:Int):=⟨d.toNat,by omega⟩
  obtain⟨E,rfl⟩:∃X:Nat,e=(X:Int):=⟨e.toNat,by omega⟩
  have hmS:=iZ ⟨(X:Int),(Y:Int),(D:Int),(E:Int)⟩;simp only at hmS;obtain⟨p1,hp1⟩:∃p,dB 120 (X:Int)=p:=⟨_,rfl⟩
  obtain⟨p2,hp2⟩:∃p,dB 121 (Y:Int)=p:=⟨_,rfl⟩
  obtain⟨p3,hp3⟩:∃p,dB 100 (D:Int)=p:=⟨_,rfl⟩
  obtain⟨p4,hp4⟩:∃p,dB 101 (E:Int)=p:=⟨_,rfl⟩
  have k1:p1.length≤3:=by rw[←hp1];exact oE (by omega)
  have k2:p2.length≤3:=by rw[←hp2];exact oE (by omega)
  have k3:p3.length≤3:=by rw[←hp3];exact oE (by omega)
  have k4:p4.length≤3:=by rw[←hp4];exact oE (by omega)
  rw[hp1,hp2,hp3,hp4]at hmS;have HM:=aA hmS
  have X15:X≤15:=by omega
  have Y15:Y≤15:=by omega
  have D15:D≤15:=by omega
  have E15:E≤15:=by omega
  clear hmS x1 x2 y1 y2 d1 d2 e1 e2;obtain⟨tO,hRes⟩:∃R,eY ⟨(X:Int),(Y:Int),(D:Int),(E:Int)⟩=R:=⟨_,rfl⟩
  rw[hRes];have HR:=aA hRes
  clear hRes;go_enter Tryz.func75,Tryz.ntmps75;go_wp2_with fail;refine(jB HOK.out _).mono ?_;rintro r w1 ⟨rfl,hb⟩;have hb1:=aC (aF w (.cells #[.int .i64 (X:Int),.int .i64 (Y:Int),.int .i64 (D:Int),.int .i64 (E:Int)] 77)) hb
  have HB1:=aA hb1;have q0:w.heap.size<w1.heap.size:=eH (by simp) hb.size
  have ne:=dX.there w1;have g:∀j:Nat,w1.cell? ⟨w.heap.size,j,none⟩=(w.alloc (.cells #[.int .i64 (X:Int),.int .i64 (Y:Int),.int .i64 (D:Int),.int .i64 (E:Int)] 77)).cell? ⟨w.heap.size,j,none⟩:=fun j=>hb.cell (p:=⟨w.heap.size,j,none⟩) (by simp)
  have s0:∀u:dX w1,u.1.cell? ⟨w.heap.size,0,none⟩=some (.int .i64 (X:Int)):=fun u=>(u.cell q0).trans ((g 0).trans (by rw[World.cell?_alloc_at _ _ _ _ rfl];rfl));have s1:∀u:dX w1,u.1.cell? ⟨w.heap.size,1,none⟩=some (.int .i64 (Y:Int)):=fun u=>(u.cell q0).trans ((g 1).trans (by rw[World.cell?_alloc_at _ _ _ _ rfl];rfl))
  have s2:∀u:dX w1,u.1.cell? ⟨w.heap.size,2,none⟩=some (.int .i64 (D:Int)):=fun u=>(u.cell q0).trans ((g 2).trans (by rw[World.cell?_alloc_at _ _ _ _ rfl];rfl));have s3:∀u:dX w1,u.1.cell? ⟨w.heap.size,3,none⟩=some (.int .i64 (E:Int)):=fun u=>(u.cell q0).trans ((g 3).trans (by rw[World.cell?_alloc_at _ _ _ _ rfl];rfl))
  clear hb hb1 g;have z1:¬(p1.length+p2.length>9223372036854775807):=by omega
  have z2:¬(p1.length+p2.length+p3.length>9223372036854775807):=by omega
  have z3:¬(p1.length+p2.length+p3.length+p4.length>9223372036854775807):=by omega
  have y1:¬(9223372036854775807<p1.length+p2.length):=by omega
  have y2:¬(9223372036854775807<p1.length+p2.length+p3.length):=by omega
  have y3:¬(9223372036854775807<p1.length+p2.length+p3.length+p4.length):=by omega
  go_wp2_with fail;refine aU (by kernel_rfl) (by kernel_rfl) ?_;repeat(go_big_quiet_step (first|(go_at_call 108;exact cE (BH (by with_reducible assumption) (by omega) _))|fail))
  refine wpQuiet_nil ?_;rintro _ ⟨v,rfl⟩;have HV:=aA (aC HB1.out v.2)
  clear s0 s1 s2 s3 ne hp1 hp2 hp3 hp4;have hcat:(ByteArray.mk p1.toArray++ByteArray.mk p2.toArray++ByteArray.mk p3.toArray++ByteArray.mk p4.toArray)=ByteArray.mk (p1++p2++p3++p4).toArray:=by rw[ByteArray.mk_append_mk,ByteArray.mk_append_mk,ByteArray.mk_append_mk]
  simp only[hcat];obtain⟨S,hS⟩:∃S,p1++p2++p3++p4=S:=⟨_,rfl⟩
  rw[hS]at HM⊢;clear hcat hS;by_cases h0:S=[]
  ·subst h0;have hR:tO=[49]:=HR.out.symm.trans (kL HOK.out HM.out)
   have HRR:=aA hR;clear hR;go_wp2;go_ret;exact⟨by rw[HRR.out];rfl,HV.out⟩
  ·have hR:tO=S:=HR.out.symm.trans ((fV HOK.out (by rw[HM.out];exact h0)).trans HM.out);have HRR:=aA hR
   clear hR;have hie:S.isEmpty=false:=by cases S<;>simp at h0⊢
   clear h0;go_wp2;go_ret;exact⟨by rw[HRR.out];rfl,HV.out⟩
end Go.Proofs.YtkcmamepoplcdaaGreatDoor
