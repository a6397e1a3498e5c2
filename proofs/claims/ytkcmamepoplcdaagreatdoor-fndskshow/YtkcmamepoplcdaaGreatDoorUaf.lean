/-
  Reading a line, as lists of bytes: there is at most one line that a text is that of.
-/
import Derived.Test.YtkcmamepoplcdaaGreatDoorUae
import Derived.Lib.Split
import Derived.Lib.IndexMore
import Derived.Laws.IdiomStrings
set_option maxHeartbeats 8000000
set_option maxRecDepth 100000
namespace Go.Proofs.YtkcmamepoplcdaaGreatDoor
open Go.RowKit
set_option linter.unusedVariables false
theorem xW {l:List UInt8} {j:Nat}:Lib.occAt l [32] j=true↔l[j]? =some 32:=by
 unfold Lib.occAt;cases h:l[j]? with
 |none=>
  have:l.drop j=[]:=List.drop_eq_nil_of_le (List.getElem?_eq_none_iff.1 h);rw[this];simp
 |some c=>
  have hj:j<l.length:=(List.getElem?_eq_some_iff.1 h).1;rw[List.drop_eq_getElem_cons hj];have hc:l[j]=c:=(List.getElem?_eq_some_iff.1 h).2
  rw[hc];simp[List.isPrefixOf];exact⟨fun e=>e.symm,fun e=>e.symm⟩
theorem CS {w:List UInt8} (h:∀c∈w,c≠32) (r:List UInt8):Lib.index (w++32::r) [32]=(w.length:Int):=by
 refine Lib.index_first (by simp) (xW.2 (by simp)) (fun j hj=>?_);cases e:Lib.occAt (w++32::r) [32] j
 ·rfl
 ·have e1:=xW.1 e;rw[List.getElem?_append_left hj]at e1;exact absurd rfl (h 32 (List.mem_of_getElem? e1))
theorem jL {w:List UInt8} (h:∀c∈w,c≠32) (r:List UInt8):Lib.cut (w++32::r) [32]=(w,r,true):=by unfold Lib.cut;rw[CS h r,if_pos (by omega)];simp[List.drop_append]
theorem sO {w:List UInt8} (h:∀c∈w,c≠32) (k:Nat) (r:List UInt8):Lib.splitK [32] 0 (k+1) (w++32::r)=w::Lib.splitK [32] 0 k r:=by
 have e1:(w++32::r).take w.length=w:=List.take_left' rfl;have e2:(w++32::r).drop (w.length+1)=r:=by rw[List.drop_append,List.drop_eq_nil_of_le (by omega)];simp
 rw[Lib.splitK,CS h r,if_neg (by rw[beq_iff_eq];omega)];show List.take w.length _::Lib.splitK [32] 0 k (List.drop (w.length+1) _)=_
 rw[e1,e2]
def kn (w:List UInt8):Int:=if w=eY 1 then 1 else if w=eY 2 then 2 else if w=eY 3 then 3 else if w=eY 4 then 4 else if w=eY 5 then 5 else if w=eY 6 then 6 else if w=eY 7 then 7 else if w=eY 8 then 8 else 0
theorem wB {k:Int} (h:1≤k∧k≤8):kn (eY k)=k:=by rcases(show k=1∨k=2∨k=3∨k=4∨k=5∨k=6∨k=7∨k=8 by omega)with rfl|rfl|rfl|rfl|rfl|rfl|rfl|rfl<;>decide
theorem JN (w:List UInt8):0≤kn w∧kn w≤8:=by
 unfold kn;repeat(split;· omega)
 omega
theorem LC {w:List UInt8} (h:kn w≠0):eY (kn w)=w:=by
 unfold kn at h⊢;repeat(split;· (rename_i e;exact e.symm))
 rename_i e8
 simp_all
theorem rX (k:Int):∀c∈eY k,c≠32:=by
 unfold eY;repeat(split;· decide)
 decide
theorem EG {x:Int} (h0:0≤x) (h5:x≤5):∀c∈[cB x],c≠32:=by rcases(show x=0∨x=1∨x=2∨x=3∨x=4∨x=5 by omega)with rfl|rfl|rfl|rfl|rfl|rfl<;>decide
def tC (w:List UInt8):Int:=Lib.index [65,66,67,68,69,70] w
theorem vZ {x:Int} (h0:0≤x) (h5:x≤5):tC [cB x]=x:=by rcases(show x=0∨x=1∨x=2∨x=3∨x=4∨x=5 by omega)with rfl|rfl|rfl|rfl|rfl|rfl<;>decide
structure mF where
 k:Int
 to:Int
 a:Int
 b:Int
 P:List T
def mF.txt (l:mF):List UInt8:=dH l.k l.to l.a l.b l.P.length (lf l.P)
def mF.raw (l:mF):List UInt8:=eO l.k l.to l.a l.b l.P.length (lf l.P)
def PE:mF:=⟨0,0,0,0,[]⟩
def iA (l:mF) (s:List UInt8):Prop:=l.txt=s∧s≠[]
structure FI (l:mF) (s:List UInt8):Prop where
 k:1≤l.k∧l.k≤8
 to:0≤l.to∧l.to≤5
 a:0≤l.a∧l.a≤5
 b:0≤l.b∧l.b≤5
 P:aJ l.P.length (lf l.P)=true
 a0:2≤dP l.k∨l.a=0
 b0:3≤dP l.k∨l.b=0
 p0:l.k=1∨l.P=[]
 len:s.length≤400
 raw:l.raw=s
theorem iA.ok {l:mF} {s:List UInt8} (h:iA l s):FI l s:=by
 obtain⟨h1,h2⟩:=h;unfold mF.txt dH at h1;split at h1
 ·rename_i q;obtain⟨q1,q2⟩:=q;obtain⟨w1,w2,w3,w4,w5,w6,w7,w8⟩:=of_decide_eq_true q1;exact⟨w1,w2,w3,w4,w5,w6,w7,w8.imp id (fun e=>List.length_eq_zero_iff.1 e),by rw[←h1];exact q2,h1⟩
 ·exact absurd h1.symm h2
theorem qU {l:mF} {s:List UInt8} (h:FI l s):(l.k=1∧s=eY 1++32::([cB l.to]++32::bQ l.P.length (lf l.P))∧l.a=0∧l.b=0)∨(l.k=8∧s=eY 8++32::[cB l.to]∧l.a=0∧l.b=0∧l.P=[])∨((l.k=6∨l.k=7)∧s=eY l.k++32::([cB l.to]++32::[cB l.a])∧l.b=0∧l.P=[])∨((l.k=2∨l.k=3∨l.k=4∨l.k=5)∧s=eY l.k++32::([cB l.to]++32::([cB l.a]++32::[cB l.b]))∧l.P=[]):=by
 obtain⟨hk,_,_,_,_,ha,hb,hp,_,hr⟩:=h;obtain⟨k,to,a,b,P⟩:=l;unfold mF.raw at hr;simp only at *;rcases(show k=1∨k=2∨k=3∨k=4∨k=5∨k=6∨k=7∨k=8 by omega)with rfl|rfl|rfl|rfl|rfl|rfl|rfl|rfl
 ·refine .inl ⟨rfl,?_,ha.resolve_left (by decide),hb.resolve_left (by decide)⟩;rw[←hr,DS];rfl
 ·refine .inr (.inr (.inr ⟨by omega,?_,hp.resolve_left (by decide)⟩));rw[←hr,NJ];rfl
 ·refine .inr (.inr (.inr ⟨by omega,?_,hp.resolve_left (by decide)⟩));rw[←hr,NK];rfl
 ·refine .inr (.inr (.inr ⟨by omega,?_,hp.resolve_left (by decide)⟩));rw[←hr,NL];rfl
 ·refine .inr (.inr (.inr ⟨by omega,?_,hp.resolve_left (by decide)⟩));rw[←hr,NM];rfl
 ·refine .inr (.inr (.inl ⟨by omega,?_,hb.resolve_left (by decide),hp.resolve_left (by decide)⟩));rw[←hr,NN];rfl
 ·refine .inr (.inr (.inl ⟨by omega,?_,hb.resolve_left (by decide),hp.resolve_left (by decide)⟩));rw[←hr,NO];rfl
 ·refine .inr (.inl ⟨rfl,?_,ha.resolve_left (by decide),hb.resolve_left (by decide),hp.resolve_left (by decide)⟩);rw[←hr,NP];rfl
theorem OW {l:mF} {s:List UInt8} (h:FI l s) (h1:l.k=1):eT (bQ l.P.length (lf l.P))=(l.P,true):=by
 have hl:(bQ l.P.length (lf l.P)).length≤400:=by
  rcases qU h with⟨e,e1,_⟩|⟨e,e1,_⟩|⟨e,e1,_⟩|⟨e,e1,_⟩
  ·have:=h.len;rw[e1]at this;simp at this;omega
  ·omega
  ·omega
  ·omega
 obtain⟨L,e,hn,hf⟩:=IR h.P hl;rw[e];have:L=l.P:=by
  apply List.ext_getElem?;intro i;by_cases hi:i<l.P.length
  ·have e2:=hf i hi;unfold lf at e2;rw[List.getD_eq_getElem?_getD,List.getD_eq_getElem?_getD,List.getElem?_eq_getElem hi,List.getElem?_eq_getElem (by omega)]at e2;rw[List.getElem?_eq_getElem hi,List.getElem?_eq_getElem (by omega)];exact congrArg some e2
  ·rw[List.getElem?_eq_none (by omega),List.getElem?_eq_none (by omega)]
 rw[this]
def zI (k:Int) (r:List UInt8):mF:=⟨k,tC ((Lib.splitN r [32] (dP k)).getD 0 []),if 1<(Lib.splitN r [32] (dP k)).length then tC ((Lib.splitN r [32] (dP k)).getD 1 [])else 0,if 2<(Lib.splitN r [32] (dP k)).length then tC ((Lib.splitN r [32] (dP k)).getD 2 [])else 0,[]⟩
def AV (r:List UInt8):mF:=⟨1,tC (Lib.cut r [32]).1,0,0,(eT (Lib.cut r [32]).2.1).1⟩
def GK (k:Int) (r:List UInt8):mF:=if k=1 then AV r else zI k r
theorem MS {l:mF} {s:List UInt8} (h:FI l s):(Lib.cut s [32]).1=eY l.k∧GK l.k (Lib.cut s [32]).2.1=l:=by
 have t1:=EG h.to.1 h.to.2;have t2:=EG h.a.1 h.a.2
 have t3:=EG h.b.1 h.b.2;have x1:=vZ h.to.1 h.to.2
 have x2:=vZ h.a.1 h.a.2;have x3:=vZ h.b.1 h.b.2
 have hp:=OW h;rcases qU h with⟨e,e1,e2,e3⟩|⟨e,e1,e2,e3,e4⟩|⟨e,e1,e3,e4⟩|⟨e,e1,e4⟩
 ·rw[e1,jL (rX 1),e];refine⟨rfl,?_⟩;unfold GK AV;rw[if_pos rfl,jL t1];show(⟨1,tC [cB l.to],0,0,(eT (bQ l.P.length (lf l.P))).1⟩:mF)=l
  rw[x1,hp e];obtain⟨k,to,a,b,P⟩:=l;simp only at e e2 e3;subst e e2 e3;rfl
 ·rw[e1,jL (rX 8),e];refine⟨rfl,?_⟩;unfold GK zI;rw[if_neg (by decide),show Lib.splitN [cB l.to] [32] (dP 8)=[[cB l.to]]from rfl];show(⟨8,tC [cB l.to],0,0,[]⟩:mF)=l
  rw[x1];obtain⟨k,to,a,b,P⟩:=l;simp only at e e2 e3 e4;subst e e2 e3 e4;rfl
 ·rw[e1,jL (rX _)];refine⟨rfl,?_⟩;have hn:dP l.k=2:=by rcases e with e|e<;>rw[e]<;>rfl
  have hs:Lib.splitN ([cB l.to]++32::[cB l.a]) [32] 2=[[cB l.to],[cB l.a]]:=by show Lib.splitK [32] 0 1 ([cB l.to]++32::[cB l.a])=_;rw[sO t1 0];rfl
  unfold GK zI;rw[if_neg (by omega),hn,hs];show(⟨l.k,tC [cB l.to],tC [cB l.a],0,[]⟩:mF)=l
  rw[x1,x2];obtain⟨k,to,a,b,P⟩:=l;simp only at e3 e4;subst e3 e4;rfl
 ·rw[e1,jL (rX _)];refine⟨rfl,?_⟩;have hn:dP l.k=3:=by rcases e with e|e|e|e<;>rw[e]<;>rfl
  have hs:Lib.splitN ([cB l.to]++32::([cB l.a]++32::[cB l.b])) [32] 3=[[cB l.to],[cB l.a],[cB l.b]]:=by show Lib.splitK [32] 0 2 ([cB l.to]++32::([cB l.a]++32::[cB l.b]))=_;rw[sO t1 1,sO t2 0];rfl
  unfold GK zI;rw[if_neg (by omega),hn,hs];show(⟨l.k,tC [cB l.to],tC [cB l.a],tC [cB l.b],[]⟩:mF)=l
  rw[x1,x2,x3];obtain⟨k,to,a,b,P⟩:=l;simp only at e4;subst e4;rfl
def dE (s:List UInt8):mF×Bool:=if kn (Lib.cut s [32]).1≠0∧(GK (kn (Lib.cut s [32]).1) (Lib.cut s [32]).2.1).txt=s then(GK (kn (Lib.cut s [32]).1) (Lib.cut s [32]).2.1,true)else(PE,false)
theorem lG {l:mF} {s:List UInt8} (h:iA l s):dE s=(l,true):=by have hk:=h.ok;obtain⟨e1,e2⟩:=MS hk;unfold dE;rw[e1,wB hk.k,e2,if_pos ⟨by have:=hk.k;omega,h.1⟩]
theorem xG {s:List UInt8} (h:∀l,¬iA l s):dE s=(PE,false):=by
 unfold dE;split
 ·rename_i q;by_cases h0:s=[]
  ·subst h0;exact absurd (by decide:kn (Lib.cut [] [32]).1=0) q.1
  ·exact absurd ⟨q.2,h0⟩ (h _)
 ·rfl
theorem zC {s:List UInt8} (h:(dE s).2=true):iA (dE s).1 s:=by
 by_cases q:∃l,iA l s
 ·obtain⟨l,hl⟩:=q;rw[lG hl];exact hl
 ·rw[xG (fun l hl=>q ⟨l,hl⟩)]at h;cases h
set_option linter.unusedSimpArgs false
theorem BX (w:World) (x:Nat) (hx:x<256):(convert 35 9 (.slice (some ⟨w.heap.size,0,none⟩) 1 1)).run Tryz.prog (w.alloc (.cells #[.int .u8 (x:Int)] 5))= .ok (.string ⟨#[UInt8.ofNat x]⟩) (w.alloc (.cells #[.int .u8 (x:Int)] 5)):=
 run_convert_bytes_back _ _ _ 5 ⟨w.heap.size,0,none⟩ 1 [UInt8.ofNat x] (by kernel_rfl) (by kernel_rfl) (by kernel_rfl) (fun j hj=>by
  have:j=0:=by simpa using hj
  subst this;have e:((⟨w.heap.size,0,none⟩:Addr).add 0)=⟨w.heap.size,0,none⟩:=rfl
  rw[e,World.cell?_alloc_at _ _ _ _ rfl];simp
  omega)
theorem qJ (n:Nat) (hn:n<10000) (w:World):Calls Tryz.prog 41 #[.int .i64 (n:Int)] w fun r w'=>r= .returned (.string ⟨(Lib.decDigits n).toArray⟩)∧Below w.heap.size w w':=by
 by_cases h0:n=0
 ·subst h0;go_enter Tryz.func41,Tryz.ntmps41;go_wp2;go_ret;exact⟨by rw[cQ (by omega)];rfl,aD _ _⟩
 ·have h1:¬(n:Int)<1:=by omega
  go_enter Tryz.func41,Tryz.ntmps41;go_wp2;go_loopw [0,3] (fun v0 v3 wr=>∃(k:Nat) (out:List UInt8),k≤n∧v0= .int .i64 (k:Int)∧v3= .string ⟨out.toArray⟩∧Hid (nY k out=Lib.decDigits n)∧Below w.heap.size w wr) (fun v0 _ _=>(intOf v0).toNat);case atStart=>exact⟨n,[],Nat.le_refl _,rfl,rfl,aA (vR (by omega)),aD _ _⟩
  case round=>
   obtain⟨k,out,hk,rfl,rfl,HD,hB⟩:=hrel;have hlen:out.length≤4:=by
    have h1:=CA k out;rw[HD.out]at h1;have:=jG hn
    omega
   have HB:=aA hB;clear hB;by_cases hk0:k=0
   ·subst hk0;have he:out=Lib.decDigits n:=(zA out).symm.trans HD.out
    have HE:=aA he;clear he;go_wp2;go_ret;exact⟨by rw[HE.out];rfl,HB.out⟩
   ·have hkp:(0:Int)<(k:Int):=by omega
    have hr1:(k:Int).tmod 10=((k%10:Nat):Int):=by rw[Int.tmod_eq_emod_of_nonneg (by omega)];omega
    have hq1:(k:Int).tdiv 10=((k / 10:Nat):Int):=by rw[Int.tdiv_eq_ediv_of_nonneg (by omega)];omega
    obtain⟨r,hr⟩:∃r,k%10=r:=⟨_,rfl⟩
    obtain⟨q,hq⟩:∃q,k / 10=q:=⟨_,rfl⟩
    have hr10:r<10:=by omega
    have hqk:q<k:=by omega
    have hD2:nY q (UInt8.ofNat (48+r)::out)=Lib.decDigits n:=by rw[←hr,←hq,yZ (by omega)];exact HD.out
    have HD2:=aA hD2;rw[hr]at hr1;rw[hq]at hq1;clear hD2 HD hr hq;have hr2:(k:Int)%10=(r:Int):=by rw[←hr1,Int.tmod_eq_emod_of_nonneg (by omega)]
    have hq2:(k:Int) / 10=(q:Int):=by rw[←hq1,Int.tdiv_eq_ediv_of_nonneg (by omega)]
    have hw1:IntKind.i64.wrap (48+(r:Int))=((48+r:Nat):Int):=by rw[IntKind.wrap_i64];omega
    have hw2:IntKind.u8.wrap ((48+r:Nat):Int)=((48+r:Nat):Int):=by rcases(show r=0∨r=1∨r=2∨r=3∨r=4∨r=5∨r=6∨r=7∨r=8∨r=9 by omega)with rfl|rfl|rfl|rfl|rfl|rfl|rfl|rfl|rfl|rfl<;>decide
    have hw3:IntKind.u8.wrap (48+(r:Int))=((48+r:Nat):Int):=by rw[show 48+(r:Int)=((48+r:Nat):Int) by omega];exact hw2
    have hcv:=BX wr (48+r) (by omega);obtain⟨x,hx⟩:∃x,48+r=x:=⟨_,rfl⟩
    rw[hx]at hw1 hw2 hw3 hcv HD2;have hx48:48+(r:Int)=(x:Int):=by omega
    clear hx;have hsz:¬(1+out.length>9223372036854775807):=by omega
    have hsz2:¬(9223372036854775807<1+out.length):=by omega
    go_wp2;go_roundw;case rel=>exact⟨q,UInt8.ofNat x::out,by omega,by first|rfl|(simp[hq2];done)|(simp[hq1];done),by first|rfl|(rw[ByteArray.ext_iff];simp[ByteArray.data_append];done),HD2,aC HB.out (aF _ _)⟩
    case measure=>simp[intOf];omega
theorem CT (c:UInt8) (n:Nat) (hn:n≤15) (w:World):Calls Tryz.prog 108 #[.string ⟨#[c]⟩,.int .i64 (n:Int)] w fun r w'=>r= .returned (.string ⟨(cD c (n:Int)).toArray⟩)∧Below w.heap.size w w':=by
 by_cases h0:n=0
 ·subst h0;go_enter Tryz.func108,Tryz.ntmps108;go_wp2;go_ret;exact⟨by rfl,aD _ _⟩
 ·by_cases h1:n=1
  ·subst h1;go_enter Tryz.func108,Tryz.ntmps108;go_wp2;go_ret;exact⟨by rfl,aD _ _⟩
  ·have hn0:((n:Int)==0)=false:=beq_eq_false_iff_ne.2 (by omega);have hn1:((n:Int)==1)=false:=beq_eq_false_iff_ne.2 (by omega)
   obtain⟨D,hD⟩:∃D,Lib.decDigits n=D:=⟨_,rfl⟩
   have hl:D.length≤2:=by rw[←hD];exact fW (by omega)
   have hc:=qJ n (by omega) w;rw[hD]at hc;have HC:=aA hc
   have hp:cD c (n:Int)=c::D:=by rw[fZ (by omega),hD]
   have HP:=aA hp;clear hc hp hD;have hsz:¬(1+D.length>9223372036854775807):=by omega
   have hsz2:¬(9223372036854775807<1+D.length):=by omega
   go_enter Tryz.func108,Tryz.ntmps108;go_wp2_with fail;refine HC.out.mono ?_;rintro r w1 ⟨rfl,hb⟩;have HB:=aA hb
   clear hb;go_wp2;go_ret;exact⟨by rw[HP.out];first|rfl|(congr 2;apply ByteArray.ext;simp[ByteArray.data_append];done),HB.out⟩
theorem wC {c:UInt8} {n:Nat} {p:List UInt8} (h:cD c (n:Int)=p) (hn:n≤15) (w:World):Calls Tryz.prog 108 #[.string ⟨#[c]⟩,.int .i64 (n:Int)] w fun r w'=>r= .returned (.string ⟨p.toArray⟩)∧Below w.heap.size w w':=by rw[←h];exact CT c n hn w
theorem DD (x y d e:Int) (w:World):Calls Tryz.prog 75 #[.agg #[.int .i64 x,.int .i64 y,.int .i64 d,.int .i64 e]] w fun r w'=>r= .returned (.string ⟨(dS ⟨x,y,d,e⟩).toArray⟩)∧Below w.heap.size w w':=by
 obtain⟨ok,hok⟩:∃b,M.ok ⟨x,y,d,e⟩=b:=⟨_,rfl⟩
 have HOK:=aA hok;clear hok;cases ok
 ·have he:=rW HOK.out;have HE:=aA he
  clear he;go_enter Tryz.func75,Tryz.ntmps75;go_wp2_with fail;refine(fU HOK.out _).mono ?_;rintro r w1 ⟨rfl,hb⟩;go_wp2;go_ret;exact⟨by rw[HE.out];rfl,aC (aF w _) hb⟩
 ·obtain⟨x1,x2,y1,y2,d1,d2,e1,e2⟩:=M.ok_iff.1 HOK.out;simp only at x1 x2 y1 y2 d1 d2 e1 e2;obtain⟨X,rfl⟩:∃X:Nat,x=(X:Int):=⟨x.toNat,by omega⟩
  obtain⟨Y,rfl⟩:∃X:Nat,y=(X:Int):=⟨y.toNat,by omega⟩
  obtain⟨D,rfl⟩:∃X:Nat,d=(X:Int):=⟨d.toNat,by omega⟩
  obtain⟨E,rfl⟩:∃X:Nat,e=(X:Int):=⟨e.toNat,by omega⟩
  have hmS:=gN ⟨(X:Int),(Y:Int),(D:Int),(E:Int)⟩;simp only at hmS;obtain⟨p1,hp1⟩:∃p,cD 120 (X:Int)=p:=⟨_,rfl⟩
  obtain⟨p2,hp2⟩:∃p,cD 121 (Y:Int)=p:=⟨_,rfl⟩
  obtain⟨p3,hp3⟩:∃p,cD 100 (D:Int)=p:=⟨_,rfl⟩
  obtain⟨p4,hp4⟩:∃p,cD 101 (E:Int)=p:=⟨_,rfl⟩
  have k1:p1.length≤3:=by rw[←hp1];exact lL (by omega)
  have k2:p2.length≤3:=by rw[←hp2];exact lL (by omega)
  have k3:p3.length≤3:=by rw[←hp3];exact lL (by omega)
  have k4:p4.length≤3:=by rw[←hp4];exact lL (by omega)
  rw[hp1,hp2,hp3,hp4]at hmS;have HM:=aA hmS
  have X15:X≤15:=by omega
  have Y15:Y≤15:=by omega
  have D15:D≤15:=by omega
  have E15:E≤15:=by omega
  clear hmS x1 x2 y1 y2 d1 d2 e1 e2;obtain⟨pN,hRes⟩:∃R,dS ⟨(X:Int),(Y:Int),(D:Int),(E:Int)⟩=R:=⟨_,rfl⟩
  rw[hRes];have HR:=aA hRes
  clear hRes;go_enter Tryz.func75,Tryz.ntmps75;go_wp2_with fail;refine(fU HOK.out _).mono ?_;rintro r w1 ⟨rfl,hb⟩;have hb1:=aC (aF w (.cells #[.int .i64 (X:Int),.int .i64 (Y:Int),.int .i64 (D:Int),.int .i64 (E:Int)] 77)) hb
  have HB1:=aA hb1;have q0:w.heap.size<w1.heap.size:=eH (by simp) hb.size
  have ne:=dF.there w1;have g:∀j:Nat,w1.cell? ⟨w.heap.size,j,none⟩=(w.alloc (.cells #[.int .i64 (X:Int),.int .i64 (Y:Int),.int .i64 (D:Int),.int .i64 (E:Int)] 77)).cell? ⟨w.heap.size,j,none⟩:=fun j=>hb.cell (p:=⟨w.heap.size,j,none⟩) (by simp)
  have s0:∀u:dF w1,u.1.cell? ⟨w.heap.size,0,none⟩=some (.int .i64 (X:Int)):=fun u=>(u.cell q0).trans ((g 0).trans (by rw[World.cell?_alloc_at _ _ _ _ rfl];rfl));have s1:∀u:dF w1,u.1.cell? ⟨w.heap.size,1,none⟩=some (.int .i64 (Y:Int)):=fun u=>(u.cell q0).trans ((g 1).trans (by rw[World.cell?_alloc_at _ _ _ _ rfl];rfl))
  have s2:∀u:dF w1,u.1.cell? ⟨w.heap.size,2,none⟩=some (.int .i64 (D:Int)):=fun u=>(u.cell q0).trans ((g 2).trans (by rw[World.cell?_alloc_at _ _ _ _ rfl];rfl));have s3:∀u:dF w1,u.1.cell? ⟨w.heap.size,3,none⟩=some (.int .i64 (E:Int)):=fun u=>(u.cell q0).trans ((g 3).trans (by rw[World.cell?_alloc_at _ _ _ _ rfl];rfl))
  clear hb hb1 g;have z1:¬(p1.length+p2.length>9223372036854775807):=by omega
  have z2:¬(p1.length+p2.length+p3.length>9223372036854775807):=by omega
  have z3:¬(p1.length+p2.length+p3.length+p4.length>9223372036854775807):=by omega
  have y1:¬(9223372036854775807<p1.length+p2.length):=by omega
  have y2:¬(9223372036854775807<p1.length+p2.length+p3.length):=by omega
  have y3:¬(9223372036854775807<p1.length+p2.length+p3.length+p4.length):=by omega
  go_wp2_with fail;refine aS (by kernel_rfl) (by kernel_rfl) ?_;repeat(go_big_quiet_step (first|(go_at_call 108;exact bD (wC (by with_reducible assumption) (by omega) _))|fail))
  refine wpQuiet_nil ?_;rintro _ ⟨v,rfl⟩;have HV:=aA (aC HB1.out v.2)
  clear s0 s1 s2 s3 ne hp1 hp2 hp3 hp4;have hcat:(ByteArray.mk p1.toArray++ByteArray.mk p2.toArray++ByteArray.mk p3.toArray++ByteArray.mk p4.toArray)=ByteArray.mk (p1++p2++p3++p4).toArray:=by rw[ByteArray.mk_append_mk,ByteArray.mk_append_mk,ByteArray.mk_append_mk]
  simp only[hcat];obtain⟨S,hS⟩:∃S,p1++p2++p3++p4=S:=⟨_,rfl⟩
  rw[hS]at HM⊢;clear hcat hS;by_cases h0:S=[]
  ·subst h0;have hR:pN=[49]:=HR.out.symm.trans (jN HOK.out HM.out)
   have HRR:=aA hR;clear hR;go_wp2;go_ret;exact⟨by rw[HRR.out];rfl,HV.out⟩
  ·have hR:pN=S:=HR.out.symm.trans ((eS HOK.out (by rw[HM.out];exact h0)).trans HM.out);have HRR:=aA hR
   clear hR;have hie:S.isEmpty=false:=by cases S<;>simp at h0⊢
   clear h0;go_wp2;go_ret;exact⟨by rw[HRR.out];rfl,HV.out⟩
theorem pW {a b:List UInt8} (h:a=b):(Value.string ⟨a.toArray⟩)= .string ⟨b.toArray⟩:=by rw[h]
theorem DN (w:World) (a:Option Addr) (n cap:Nat) (f:Nat→T) (h:Rd w a n cap f):Calls Tryz.prog 43 #[.slice a n cap] w fun r w'=>r= .returned (.string ⟨(bQ n f).toArray⟩)∧Below w.heap.size w w':=by
 have HH:=aA h;have hnI:(n:Int)≤9223372036854775807:=by have:=h.2.1;omega
 obtain⟨ok,hok⟩:∃b,aJ n f=b:=⟨_,rfl⟩
 have hc:=gS w a n cap f h;rw[hok]at hc;have HC:=aA hc
 have HOK:=aA hok;clear hc hok h;obtain⟨R,hR⟩:∃R,bQ n f=R:=⟨_,rfl⟩
 rw[hR];cases ok
 ·have HR:=aA (hR.symm.trans (yB HOK.out));clear hR;go_enter Tryz.func43,Tryz.ntmps43;go_wp2_with fail;refine HC.out.mono ?_;rintro r w1 ⟨rfl,hb⟩;go_wp2;go_ret;exact⟨by rw[HR.out];rfl,hb⟩
 ·by_cases h0:n=0
  ·have HR:=aA (hR.symm.trans (mM HOK.out h0));have hn0:((n:Int)==0)=true:=by rw[h0];rfl
   clear hR h0;go_enter Tryz.func43,Tryz.ntmps43;go_wp2_with fail;refine HC.out.mono ?_;rintro r w1 ⟨rfl,hb⟩;go_wp2;go_ret;exact⟨by rw[HR.out];rfl,hb⟩
  ·have HR:=aA (hR.symm.trans (nR HOK.out h0));have hn0:((n:Int)==0)=false:=beq_eq_false_iff_ne.2 (by omega)
   have HALL:=aA (cN HOK.out);have n400:=(cN HOK.out).1
   have n400I:(n:Int)≤400:=by omega
   clear hR;obtain⟨b,off,rfl,hblt,hcl⟩:=HH.out.2.2.resolve_left h0;have HCL:=aA hcl
   clear hcl;go_enter Tryz.func43,Tryz.ntmps43;go_wp2_with fail;refine HC.out.mono ?_;rintro r w1 ⟨rfl,hb⟩;have HB1:=aA hb
   have hs1:=hb.size;clear hb HC;go_wp2;go_loopw [4,3] (fun v4 v3 wr=>∃(k:Nat) (S:List UInt8),k≤n∧v4= .int .i64 (k:Int)∧v3= .string ⟨S.toArray⟩∧Hid (S=oD f k)∧Hid (Below w.heap.size w wr)) (fun v4 _ _=>n-(intOf v4).toNat);case atStart=>exact⟨0,[],mE _,rfl,rfl,aA rfl,HB1⟩
   case round=>
    obtain⟨k,S,hk,rfl,rfl,HS,HB⟩:=hrel;by_cases hkn:k<n
    ·have hklI:(k:Int)<(n:Int):=by omega
     have hSl:S.length≤6800:=by
      rw[HS.out];have:=lO k (fun i hi=>HALL.out.2 i (by omega))
      omega
     obtain⟨⟨tc1,tc2⟩,tmo⟩:=HALL.out.2 k hkn;obtain⟨t,ht⟩:∃t,f k=t:=⟨_,rfl⟩
     have HJ:=aA (show oD f (k+1)=(if k=0 then[]else oD f k++[43])++eP t by rw[←ht];rfl);rw[←HS.out]at HJ;have HS00:Hid (S=oD f k):=HS
     obtain⟨g0,g1,g2,g3,g4⟩:=(HCL.out k hkn).below HB.out hblt;rw[ht]at tc1 tc2 tmo g0 g1 g2 g3 g4;clear ht;obtain⟨c,⟨x,y,d,e⟩⟩:=t;simp only at tc1 tc2 tmo g0 g1 g2 g3 g4;obtain⟨C,rfl⟩:∃C:Nat,c=(C:Int):=⟨c.toNat,by omega⟩
     have hC100:C≤100:=by omega
     obtain⟨MT,hMT⟩:∃MT,dS ⟨x,y,d,e⟩=MT:=⟨_,rfl⟩
     have hml:MT.length≤12:=by rw[←hMT];exact lT tmo
     have hcm:∀u:World,Calls Tryz.prog 75 #[.agg #[.int .i64 x,.int .i64 y,.int .i64 d,.int .i64 e]] u fun r w'=>r= .returned (.string ⟨MT.toArray⟩)∧Below u.heap.size u w':=fun u=>by rw[←hMT];exact DD x y d e u
     obtain⟨DT,hDT⟩:∃DT,Lib.decDigits C=DT:=⟨_,rfl⟩
     have hdl:DT.length≤4:=by rw[←hDT];exact jG (by omega)
     have hcd:∀u:World,Calls Tryz.prog 41 #[.int .i64 (C:Int)] u fun r w'=>r= .returned (.string ⟨DT.toArray⟩)∧Below u.heap.size u w':=fun u=>by rw[←hDT];exact qJ C (by omega) u
     have htrm:eP ⟨(C:Int),⟨x,y,d,e⟩⟩=if MT=[49]then DT else if C=1 then MT else DT++MT:=by
      show(if x=0∧y=0∧d=0∧e=0 then Lib.decDigits C else if(C:Int)=1 then dS ⟨x,y,d,e⟩else Lib.decDigits C++dS ⟨x,y,d,e⟩)=_;rw[hMT,hDT];by_cases hz:x=0∧y=0∧d=0∧e=0
      ·have hm:MT=[49]:=by obtain⟨rfl,rfl,rfl,rfl⟩:=hz;rw[←hMT];exact LB
       rw[if_pos hz,if_pos hm]
      ·have hm:MT≠[49]:=by rw[←hMT];exact(zM tmo hz).1
       rw[if_neg hz,if_neg hm];by_cases h1:C=1
       ·rw[if_pos h1,if_pos (by omega)]
       ·rw[if_neg h1,if_neg (by omega)]
     rw[htrm]at HJ;have HCM:=aA hcm
     have HCD:=aA hcd;clear hcm hcd hMT hDT htrm tmo HS;by_cases hk0:k=0
     ·subst hk0;have HJ0:Hid (oD f 1=if MT=[49]then DT else if C=1 then MT else DT++MT):=HJ.out
      have hS0:S=[]:=HS00.out;subst hS0;clear HS00;simp only[Nat.zero_mul,Nat.add_zero]at g0 g1 g2 g3 g4;clear HJ;by_cases hm1:MT=[49]
      ·subst hm1;have HQ:Hid (DT=oD f 1):=by rw[HJ0.out,if_pos rfl];exact aA rfl
       go_wp2_with fail;refine(HCM.out _).mono ?_;rintro r wx0 ⟨rfl,hbx0⟩;have HBx0:=aA (aC HB.out hbx0)
       obtain⟨g0,g1,g2,g3,g4⟩:=dZ.below (t:=⟨_,⟨x,y,d,e⟩⟩) ⟨g0,g1,g2,g3,g4⟩ hbx0 (by have:=HB.out.size;omega);simp only at g0 g1 g2 g3 g4;clear hbx0;go_wp2_with fail;refine(HCD.out _).mono ?_;rintro r wx1 ⟨rfl,hbx1⟩;have HBx1:=aA (aC HBx0.out hbx1)
       obtain⟨g0,g1,g2,g3,g4⟩:=dZ.below (t:=⟨_,⟨x,y,d,e⟩⟩) ⟨g0,g1,g2,g3,g4⟩ hbx1 (by have:=HBx0.out.size;omega);simp only at g0 g1 g2 g3 g4;clear hbx1;go_wp2;go_roundw;case rel=>exact⟨1,_,by omega,by go_num,by first|rfl|(refine pW ?_;simp;done)|(congr 1;apply ByteArray.ext;simp[ByteArray.data_append];done),HQ,HBx1⟩
       case measure=>simp[intOf];omega
      ·have hmb1:(MT==[49])=false:=beq_eq_false_iff_ne.2 hm1;by_cases hc1:C=1
       ·subst hc1;have HQ:Hid (MT=oD f 1):=by rw[HJ0.out,if_neg hm1,if_pos rfl];exact aA rfl
        go_wp2_with fail;refine(HCM.out _).mono ?_;rintro r wx0 ⟨rfl,hbx0⟩;have HBx0:=aA (aC HB.out hbx0)
        obtain⟨g0,g1,g2,g3,g4⟩:=dZ.below (t:=⟨_,⟨x,y,d,e⟩⟩) ⟨g0,g1,g2,g3,g4⟩ hbx0 (by have:=HB.out.size;omega);simp only at g0 g1 g2 g3 g4;clear hbx0;go_wp2;go_roundw;case rel=>exact⟨1,_,by omega,by go_num,by first|rfl|(refine pW ?_;simp;done)|(congr 1;apply ByteArray.ext;simp[ByteArray.data_append];done),HQ,HBx0⟩
        case measure=>simp[intOf];omega
       ·have hc1I:((C:Int)==1)=false:=beq_eq_false_iff_ne.2 (by omega);have HQ:Hid (DT++MT=oD f 1):=by rw[HJ0.out,if_neg hm1,if_neg hc1];exact aA rfl
        go_wp2_with fail;refine(HCM.out _).mono ?_;rintro r wx0 ⟨rfl,hbx0⟩;have HBx0:=aA (aC HB.out hbx0)
        obtain⟨g0,g1,g2,g3,g4⟩:=dZ.below (t:=⟨_,⟨x,y,d,e⟩⟩) ⟨g0,g1,g2,g3,g4⟩ hbx0 (by have:=HB.out.size;omega);simp only at g0 g1 g2 g3 g4;clear hbx0;go_wp2_with fail;refine(HCD.out _).mono ?_;rintro r wx1 ⟨rfl,hbx1⟩;have HBx1:=aA (aC HBx0.out hbx1)
        obtain⟨g0,g1,g2,g3,g4⟩:=dZ.below (t:=⟨_,⟨x,y,d,e⟩⟩) ⟨g0,g1,g2,g3,g4⟩ hbx1 (by have:=HBx0.out.size;omega);simp only at g0 g1 g2 g3 g4;clear hbx1;go_wp2;go_roundw;case rel=>exact⟨1,_,by omega,by go_num,by first|rfl|(refine pW ?_;simp;done)|(congr 1;apply ByteArray.ext;simp[ByteArray.data_append];done),HQ,HBx1⟩
        case measure=>simp[intOf];omega
     ·have hkp:(0:Int)<(k:Int):=by omega
      have HJ1:Hid (oD f (k+1)=S++[43]++if MT=[49]then DT else if C=1 then MT else DT++MT):=by have:=HJ.out;rw[if_neg hk0]at this;exact this
      clear HJ;by_cases hm1:MT=[49]
      ·subst hm1;have HQ:Hid (S++[43]++DT=oD f (k+1)):=by rw[HJ1.out,if_pos rfl];exact aA rfl
       go_wp2_with fail;refine(HCM.out _).mono ?_;rintro r wx0 ⟨rfl,hbx0⟩;have HBx0:=aA (aC HB.out hbx0)
       obtain⟨g0,g1,g2,g3,g4⟩:=dZ.below (t:=⟨_,⟨x,y,d,e⟩⟩) ⟨g0,g1,g2,g3,g4⟩ hbx0 (by have:=HB.out.size;omega);simp only at g0 g1 g2 g3 g4;clear hbx0;go_wp2_with fail;refine(HCD.out _).mono ?_;rintro r wx1 ⟨rfl,hbx1⟩;have HBx1:=aA (aC HBx0.out hbx1)
       obtain⟨g0,g1,g2,g3,g4⟩:=dZ.below (t:=⟨_,⟨x,y,d,e⟩⟩) ⟨g0,g1,g2,g3,g4⟩ hbx1 (by have:=HBx0.out.size;omega);simp only at g0 g1 g2 g3 g4;clear hbx1;go_wp2;go_roundw;case rel=>exact⟨k+1,_,by omega,by go_num,by first|rfl|(refine pW ?_;simp;done)|(congr 1;apply ByteArray.ext;simp[ByteArray.data_append];done),HQ,HBx1⟩
       case measure=>simp[intOf];omega
      ·have hmb1:(MT==[49])=false:=beq_eq_false_iff_ne.2 hm1;by_cases hc1:C=1
       ·subst hc1;have HQ:Hid (S++[43]++MT=oD f (k+1)):=by rw[HJ1.out,if_neg hm1,if_pos rfl];exact aA rfl
        go_wp2_with fail;refine(HCM.out _).mono ?_;rintro r wx0 ⟨rfl,hbx0⟩;have HBx0:=aA (aC HB.out hbx0)
        obtain⟨g0,g1,g2,g3,g4⟩:=dZ.below (t:=⟨_,⟨x,y,d,e⟩⟩) ⟨g0,g1,g2,g3,g4⟩ hbx0 (by have:=HB.out.size;omega);simp only at g0 g1 g2 g3 g4;clear hbx0;go_wp2;go_roundw;case rel=>exact⟨k+1,_,by omega,by go_num,by first|rfl|(refine pW ?_;simp;done)|(congr 1;apply ByteArray.ext;simp[ByteArray.data_append];done),HQ,HBx0⟩
        case measure=>simp[intOf];omega
       ·have hc1I:((C:Int)==1)=false:=beq_eq_false_iff_ne.2 (by omega);have HQ:Hid (S++[43]++(DT++MT)=oD f (k+1)):=by rw[HJ1.out,if_neg hm1,if_neg hc1];exact aA rfl
        go_wp2_with fail;refine(HCM.out _).mono ?_;rintro r wx0 ⟨rfl,hbx0⟩;have HBx0:=aA (aC HB.out hbx0)
        obtain⟨g0,g1,g2,g3,g4⟩:=dZ.below (t:=⟨_,⟨x,y,d,e⟩⟩) ⟨g0,g1,g2,g3,g4⟩ hbx0 (by have:=HB.out.size;omega);simp only at g0 g1 g2 g3 g4;clear hbx0;go_wp2_with fail;refine(HCD.out _).mono ?_;rintro r wx1 ⟨rfl,hbx1⟩;have HBx1:=aA (aC HBx0.out hbx1)
        obtain⟨g0,g1,g2,g3,g4⟩:=dZ.below (t:=⟨_,⟨x,y,d,e⟩⟩) ⟨g0,g1,g2,g3,g4⟩ hbx1 (by have:=HBx0.out.size;omega);simp only at g0 g1 g2 g3 g4;clear hbx1;go_wp2;go_roundw;case rel=>exact⟨k+1,_,by omega,by go_num,by first|rfl|(refine pW ?_;simp;done)|(congr 1;apply ByteArray.ext;simp[ByteArray.data_append];done),HQ,HBx1⟩
        case measure=>simp[intOf];omega
    ·have hke:k=n:=by omega
     subst hke;have hnl:¬(k:Int)<(k:Int):=by omega
     have HRS:=aA (HR.out.trans HS.out.symm);go_wp2;go_ret;exact⟨by rw[HRS.out];rfl,HB.out⟩
end Go.Proofs.YtkcmamepoplcdaaGreatDoor
