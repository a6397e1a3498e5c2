/-
  A basis on its way, as lists: rows of proofs, a pair looked at, the run.
-/
import Derived.Test.YtelkehjdfcoeiaaGreatNbe
namespace Go.Proofs.YtelkehjdfcoeiaaGreat
open Go.RowKit Go.Deep Go.Joins
set_option linter.unusedVariables false
def cT (R q X:List T):Option (List T):=match bN (lf q) (lf X) X.length q.length with
 |some P=>if(bY R P).length≤400 then some (bY R P)else none
 |none=>none
def bK (R:Nat→List T) (j:Nat) (Y:List T) (i:Nat):List T:=if i=j then Y else R i
def bU (row:Nat→List T) (q:List T) (oth:Nat→List T):Nat→Option (Nat→List T)
 |0=>some (fun _=>[])
 |j+1=>match bU row q oth j with
  |none=>none
  |some R=>match cT (row j) q (oth j)with
   |none=>none
   |some Y=>some (bK R j Y)
theorem mQ {row:Nat→List T} {q:List T} {oth:Nat→List T} {j:Nat} (h:bU row q oth j=none):∀d,bU row q oth (j+d)=none
 |0=>h
 |d+1=>by show(match bU row q oth (j+d)with|none=>none|some R=>match cT (row (j+d)) q (oth (j+d))with|none=>none|some Y=>some (bK R (j+d) Y))=none;rw[mQ h d]
theorem oN {row:Nat→List T} {q:List T} {oth:Nat→List T} {j g:Nat} {R:Nat→List T} (hj:j<g) (h:bU row q oth j=some R) (he:cT (row j) q (oth j)=none):bU row q oth g=none:=by
 have h1:bU row q oth (j+1)=none:=by
  show(match bU row q oth j with|none=>none|some R=>match cT (row j) q (oth j)with|none=>none|some Y=>some (bK R j Y))=none;rw[h];show(match cT (row j) q (oth j)with|none=>none|some Y=>some (bK R j Y))=none
  rw[he]
 have:=mQ h1 (g-(j+1))
 rwa[show j+1+(g-(j+1))=g by omega]at this
theorem pV {row:Nat→List T} {q:List T} {oth:Nat→List T} {j:Nat} {R:Nat→List T} {Y:List T} (h:bU row q oth j=some R) (he:cT (row j) q (oth j)=some Y):bU row q oth (j+1)=some (bK R j Y):=by
 show(match bU row q oth j with|none=>none|some R=>match cT (row j) q (oth j)with|none=>none|some Y=>some (bK R j Y))=_;rw[h];show(match cT (row j) q (oth j)with|none=>none|some Y=>some (bK R j Y))=_
 rw[he]
theorem nX {R q X Y:List T} (hR:cJ R=true) (hq:cJ q=true) (hX:cJ X=true) (h:cT R q X=some Y):cJ Y=true:=by
 unfold cT at h;split at h
 ·rename_i P hP;split at h
  ·rename_i hl;cases h;exact fO hl (cB (aD hR).2 (cE (bL hq).2 (bL hX).2 _ P (Nat.le_refl _) hP)).1
  ·cases h
 ·cases h
theorem mB {row:Nat→List T} {q:List T} {oth:Nat→List T} {g:Nat} (hrow:∀i,i<g→cJ (row i)=true) (hq:cJ q=true) (ho:∀i,i<g→cJ (oth i)=true):∀j R,j≤g→bU row q oth j=some R→∀i,i<j→cJ (R i)=true
 |0,R,_,_,i,hi=>by omega
 |j+1,R,hj,h,i,hi=>by
  cases hr:bU row q oth j with
  |none=>have:=mQ hr 1;rw[this]at h;cases h
  |some R1=>
   cases he:cT (row j) q (oth j)with
   |none=>have:=oN (g:=j+1) (by omega) hr he;rw[this]at h;cases h
   |some Y=>
    rw[pV hr he]at h;cases h;unfold bK;split
    ·exact nX (hrow j (by omega)) hq (ho j (by omega)) he
    ·exact mB hrow hq ho j R1 (by omega) hr i (by omega)
def gS (g:Nat) (P:Nat→Nat→List T) (qs:Nat→List T) (row:Option (Nat→List T)):Nat→Option (Nat→List T)
 |0=>row
 |t+1=>match gS g P qs row t with
  |none=>none
  |some R=>bU R (qs t) (P t) g
def dE (u:T):T:=⟨101-u.c,u.m⟩
def eW (g:Nat) (P:Nat→Nat→List T) (i k:Nat) (u v:T):Option (Nat→List T):=match bU (fun _=>[]) [dE u] (P i) g with
 |none=>none
 |some R=>bU R [v] (P k) g
def lL (g:Nat) (P:Nat→Nat→List T) (i k:Nat) (u v:T) (nq:Nat) (qs:Nat→List T):Option (Nat→List T):=gS g P qs (eW g P i k u v) nq
theorem iK {g:Nat} {P:Nat→Nat→List T} {qs:Nat→List T} {row:Option (Nat→List T)} {t:Nat} (h:gS g P qs row t=none):∀d,gS g P qs row (t+d)=none
 |0=>h
 |d+1=>by show(match gS g P qs row (t+d)with|none=>none|some R=>bU R (qs (t+d)) (P (t+d)) g)=none;rw[iK h d]
structure Bs where
 m:Nat
 L:Nat→List T
 P:Nat→Nat→List T
def oG (P:Nat→Nat→List T) (m:Nat) (R:Nat→List T) (i:Nat):Nat→List T:=if i=m then R else P i
def zE (B:Bs) (r:List T) (R:Nat→List T):Bs:=⟨B.m+1,bK B.L B.m r,oG B.P B.m R⟩
abbrev FC (o:Int) (A C:List T):T:=eR o A.length (lf A) C.length (lf C)
abbrev GN (o:Int) (A C:List T):T:=eS o A.length (lf A) C.length (lf C)
abbrev JO (o:Int) (A C:List T):List T×Bool:=dH o (lf A) A.length (lf C) C.length
def eG (o:Int) (g:Nat) (B:Bs) (i k:Nat):Option Bs:=
 match JO o (B.L i) (B.L k)with
 |(s,true)=>(match dA o s B.m (lN B.L) (fN B.L)with
  |some S=>if S.r.length=0 then some B else if B.m=12 then none else(match lL g B.P i k (FC o (B.L i) (B.L k)) (GN o (B.L i) (B.L k)) B.m S.q with
   |some R=>some (zE B S.r R)
   |none=>none)
  |none=>none)
 |(_,false)=>none
def kQ (o:Int) (g:Nat):Nat→Bs→Nat→Bs×Bool
 |0,B,j=>(B,decide (bA B.m≤j))
 |f+1,B,j=>if j<bA B.m then(match eG o g B (pq j).1 (pq j).2 with
  |none=>(B,false)
  |some B'=>kQ o g f B' (j+1))else(B,true)
def dF (k i:Nat):List T:=if i=k then[⟨1,⟨0,0,0,0⟩⟩]else[]
def CN (n:Nat) (L:Nat→List T):Bs:=⟨n,L,fun k=>dF k⟩
def iA (o:Int) (n:Nat) (L:Nat→List T) (fuel:Int):Bs×Bool:=
 if(1≤o∧o≤3)∧aW n (lN L) (fN L)=true∧(1≤n∧n≤3)∧(0≤fuel∧fuel≤60)then kQ o n fuel.toNat (CN n L) 0 else(⟨0,fun _=>[],fun _ _=>[]⟩,false)
structure wZ (o:Int) (g:Nat) (B:Bs):Prop where
 ho:1≤o∧o≤3
 l:aW B.m (lN B.L) (fN B.L)=true
 p:∀i,i<B.m→∀j,j<g→cJ (B.P i j)=true
theorem UX:cJ [(⟨1,⟨0,0,0,0⟩⟩:T)]=true:=by decide
theorem zL {o:Int} {n:Nat} {L:Nat→List T} (ho:1≤o∧o≤3) (hl:aW n (lN L) (fN L)=true):wZ o n (CN n L):=⟨ho,hl,fun i _ j _=>by
 show cJ (dF i j)=true;unfold dF;split
 ·exact UX
 ·exact lB⟩
theorem vS {a:Int} (h1:1≤a) (h2:a≤100):1≤101-a∧101-a≤100:=by omega
theorem oZ {o:Int} {A C:List T} {s:List T} (h:JO o A C=(s,true)):(cJ [FC o A C]=true∧cJ [dE (FC o A C)]=true∧cJ [GN o A C]=true)∧((FC o A C).m.ok=true∧1≤(FC o A C).c∧(FC o A C).c≤100)∧((GN o A C).m.ok=true∧1≤(GN o A C).c∧(GN o A C).c≤100):=by
 have hs:eQ o A.length (lf A) C.length (lf C)=true:=by
  unfold JO dH at h;split at h
  ·assumption
  ·cases h
 obtain⟨h1,h2⟩:=rV hs;have g1:=vS h1.2.1 h1.2.2
 exact⟨⟨gB h1,gB ⟨h1.1,g1.1,g1.2⟩,gB h2⟩,h1,h2⟩
theorem uL {g:Nat} {P:Nat→Nat→List T} {i k m:Nat} {u v:T} {qs:Nat→List T} (hi:i<m) (hk:k<m) (hP:∀i,i<m→∀j,j<g→cJ (P i j)=true) (hu:cJ [dE u]=true) (hv:cJ [v]=true) (hq:∀t,t<m→cJ (qs t)=true):∀t R,t≤m→gS g P qs (eW g P i k u v) t=some R→∀j,j<g→cJ (R j)=true
 |0,R,_,h=>by
  change eW g P i k u v=some R at h;unfold eW at h;split at h
  ·cases h
  ·rename_i R1 h1;exact mB (mB (fun _ _=>lB) hu (hP i hi) g R1 (Nat.le_refl _) h1) hv (hP k hk) g R (Nat.le_refl _) h
 |t+1,R,ht,h=>by
  cases hr:gS g P qs (eW g P i k u v) t with
  |none=>have:=iK hr 1;rw[this]at h;cases h
  |some R1=>
   have h':bU R1 (qs t) (P t) g=some R:=by
    have:gS g P qs (eW g P i k u v) (t+1)=bU R1 (qs t) (P t) g:=by show(match gS g P qs (eW g P i k u v) t with|none=>none|some R=>bU R (qs t) (P t) g)=_;rw[hr]
    rw[←this];exact h
   exact mB (uL hi hk hP hu hv hq t R1 (by omega) hr) (hq t (by omega)) (hP t (by omega)) g R (Nat.le_refl _) h'
theorem LN {m:Nat} {L:Nat→List T} (hl:aW m (lN L) (fN L)=true) (hm:m≠12) {r:List T} (hr:cJ r=true) (h0:r.length≠0):aW (m+1) (lN (bK L m r)) (fN (bK L m r))=true:=by
 have h:=aU hl;refine decide_eq_true ⟨by omega,fun i hi=>?_⟩;show(bK L m r i).length≠0∧cJ (bK L m r i)=true
 unfold bK;split
 ·exact⟨h0,hr⟩
 ·exact h.2 i (by omega)
theorem rW {o:Int} {g:Nat} {B B':Bs} {i k:Nat} (h:wZ o g B) (hi:i<B.m) (hk:k<B.m) (hs:eG o g B i k=some B'):wZ o g B':=by
 unfold eG at hs;split at hs
 ·rename_i s hsp;split at hs
  ·rename_i S hS;split at hs
   ·cases hs;exact h
   ·rename_i h0;split at hs
    ·cases hs
    ·rename_i h12;split at hs
     ·rename_i R hR;cases hs;obtain⟨d1,d2⟩:=dB hS;obtain⟨⟨_,g2,g3⟩,_⟩:=oZ hsp;refine⟨h.ho,LN h.l h12 (fO (by have:=d1.r.2;omega) d1.r.1) h0,fun a ha j hj=>?_⟩;show cJ (oG B.P B.m R a j)=true
      unfold oG;split
      ·exact uL hi hk h.p g2 g3 (fun t _=>fO (by have:=(d1.q t).2;omega) (d1.q t).1) B.m R (Nat.le_refl _) hR j hj
      ·have ha':a<B.m+1:=ha;exact h.p a (by omega) j hj
     ·cases hs
  ·cases hs
 ·cases hs
theorem VL {o:Int} {g:Nat} {B B':Bs} {i k:Nat} (hs:eG o g B i k=some B'):B.m≤B'.m:=by
 unfold eG at hs;split at hs
 ·split at hs
  ·split at hs
   ·cases hs;exact Nat.le_refl _
   ·split at hs
    ·cases hs
    ·split at hs
     ·cases hs;exact Nat.le_succ _
     ·cases hs
  ·cases hs
 ·cases hs
end Go.Proofs.YtelkehjdfcoeiaaGreat
namespace Go.Proofs.YtelkehjdfcoeiaaGreat
open Go.RowKit
set_option linter.unusedVariables false
def eY:Nat→Nat→Nat
 |0,c=>2*c
 |a+1,c=>2*eY a c+1
def MX (n:Nat):Nat×Nat:=if h:n%2=0 then(0,n / 2)else((MX (n / 2)).1+1,(MX (n / 2)).2)
termination_by n
decreasing_by all_goals omega
theorem wS:∀a c,MX (eY a c)=(a,c)
 |0,c=>by unfold MX eY;rw[dif_pos (by omega),show 2*c / 2=c by omega]
 |a+1,c=>by have ih:=wS a c;unfold MX eY;rw[dif_neg (by omega),show(2*eY a c+1) / 2=eY a c by omega,ih]
theorem Az (n:Nat):eY (MX n).1 (MX n).2=n:=by
 induction n using Nat.strongRecOn with
 |ind n ih=>
  unfold MX;by_cases h:n%2=0
  ·rw[dif_pos h];show 2*(n / 2)=n;omega
  ·rw[dif_neg h];have:=ih (n / 2) (by omega)
   show 2*eY (MX (n / 2)).1 (MX (n / 2)).2+1=n;rw[this];omega
def iJ (n:Nat):Nat:=(MX n).1
def mY (n:Nat):Nat:=(MX n).2
theorem yG (a c:Nat):iJ (eY a c)=a:=by unfold iJ;rw[wS]
theorem yQ (a c:Nat):mY (eY a c)=c:=by unfold mY;rw[wS]
theorem JH (n:Nat):eY (iJ n) (mY n)=n:=Az n
def rX:Lq:=⟨fun u n k=>u (eY (iJ n+1) (mY n)) k,fun _ _=>rfl,fun _ _=>rfl⟩
def rY:Lq:=⟨fun u n k=>u n (eY (iJ k+1) (mY k)),fun _ _=>rfl,fun _ _=>rfl⟩
def rD:Lq:=⟨fun u n k=>u (eY (iJ n) (mY n+1)) k+nf (iJ n)*u (eY (iJ n-1) (mY n)) k,fun u v=>by funext n k;simp only[va];grind,fun c u=>by funext n k;simp only[vs];grind⟩
def rE:Lq:=⟨fun u n k=>u n (eY (iJ k) (mY k+1))+nf (iJ k)*u n (eY (iJ k-1) (mY k)),fun u v=>by funext n k;simp only[va];grind,fun c u=>by funext n k;simp only[vs];grind⟩
def aS:sF where
 x:=rX
 y:=rY
 d:=rD
 e:=rE
 wx:=Lq.ext fun u n k=>by
  show u (eY (iJ (eY (iJ n+1) (mY n))) (mY (eY (iJ n+1) (mY n))+1)) k+nf (iJ (eY (iJ n+1) (mY n)))*u (eY (iJ (eY (iJ n+1) (mY n))-1) (mY (eY (iJ n+1) (mY n)))) k=u (eY (iJ (eY (iJ n) (mY n+1))+1) (mY (eY (iJ n) (mY n+1)))) k+nf (iJ n)*u (eY (iJ (eY (iJ n-1) (mY n))+1) (mY (eY (iJ n-1) (mY n)))) k+u n k;simp only[yG,yQ];rw[show iJ n+1-1=iJ n by omega,JH,sU,mT];cases h:iJ n with
  |zero=>rw[gP];grind
  |succ m=>rw[show m+1-1+1=m+1 by omega,←h,JH];grind
 wy:=Lq.ext fun u n k=>by
  show u n (eY (iJ (eY (iJ k+1) (mY k))) (mY (eY (iJ k+1) (mY k))+1))+nf (iJ (eY (iJ k+1) (mY k)))*u n (eY (iJ (eY (iJ k+1) (mY k))-1) (mY (eY (iJ k+1) (mY k))))=u n (eY (iJ (eY (iJ k) (mY k+1))+1) (mY (eY (iJ k) (mY k+1))))+nf (iJ k)*u n (eY (iJ (eY (iJ k-1) (mY k))+1) (mY (eY (iJ k-1) (mY k))))+u n k;simp only[yG,yQ];rw[show iJ k+1-1=iJ k by omega,JH,sU,mT];cases h:iJ k with
  |zero=>rw[gP];grind
  |succ m=>rw[show m+1-1+1=m+1 by omega,←h,JH];grind
 xy:=rfl
 xe:=rfl
 dy:=rfl
 de:=Lq.ext fun u n k=>by
  show(_+nf _*_)+nf (iJ k)*(_+nf _*_)=(_+nf _*_)+nf (iJ n)*(_+nf _*_)
  grind
theorem QE (u:Vq) (c k:Nat):∀j i,(Lq.pow rX j).f u (eY i c) k=u (eY (i+j) c) k
 |0,i=>rfl
 |j+1,i=>by
  rw[Lq.pow_succ'];show(Lq.pow rX j).f (rX.f u) (eY i c) k=_
  rw[QE (rX.f u) c k j i];show u (eY (iJ (eY (i+j) c)+1) (mY (eY (i+j) c))) k=_
  rw[yG,yQ];rfl
theorem QF (u:Vq) (n c:Nat):∀j i,(Lq.pow rY j).f u n (eY i c)=u n (eY (i+j) c)
 |0,i=>rfl
 |j+1,i=>by
  rw[Lq.pow_succ'];show(Lq.pow rY j).f (rY.f u) n (eY i c)=_
  rw[QF (rY.f u) n c j i];show u n (eY (iJ (eY (i+j) c)+1) (mY (eY (i+j) c)))=_
  rw[yG,yQ];rfl
theorem QC (u:Vq) (k:Nat):∀j i,(Lq.pow rD j).f u (eY 0 i) k=u (eY 0 (i+j)) k
 |0,i=>rfl
 |j+1,i=>by
  rw[Lq.pow_succ'];show(Lq.pow rD j).f (rD.f u) (eY 0 i) k=_
  rw[QC (rD.f u) k j i];show u (eY (iJ (eY 0 (i+j))) (mY (eY 0 (i+j))+1)) k+nf (iJ (eY 0 (i+j)))*_=_
  rw[yG,yQ,gP];show u (eY 0 (i+(j+1))) k+0*_=_
  grind
theorem QD (u:Vq) (n:Nat):∀j i,(Lq.pow rE j).f u n (eY 0 i)=u n (eY 0 (i+j))
 |0,i=>rfl
 |j+1,i=>by
  rw[Lq.pow_succ'];show(Lq.pow rE j).f (rE.f u) n (eY 0 i)=_
  rw[QD (rE.f u) n j i];show u n (eY (iJ (eY 0 (i+j))) (mY (eY 0 (i+j))+1))+nf (iJ (eY 0 (i+j)))*_=_
  rw[yG,yQ,gP];show u n (eY 0 (i+(j+1)))+0*_=_
  grind
theorem YC (m:M) (u:Vq):(mo aS m).f u 0 0=u (eY m.x.toNat m.d.toNat) (eY m.y.toNat m.e.toNat):=by
 have e0:(0:Nat)=eY 0 0:=rfl;show(Lq.pow rE m.e.toNat).f ((Lq.pow rD m.d.toNat).f ((Lq.pow rY m.y.toNat).f ((Lq.pow rX m.x.toNat).f u))) 0 0=_
 rw[show(Lq.pow rE m.e.toNat).f ((Lq.pow rD m.d.toNat).f ((Lq.pow rY m.y.toNat).f ((Lq.pow rX m.x.toNat).f u))) 0 0=(Lq.pow rE m.e.toNat).f ((Lq.pow rD m.d.toNat).f ((Lq.pow rY m.y.toNat).f ((Lq.pow rX m.x.toNat).f u))) 0 (eY 0 0)from rfl,QD];rw[show(Lq.pow rD m.d.toNat).f ((Lq.pow rY m.y.toNat).f ((Lq.pow rX m.x.toNat).f u)) 0 (eY 0 (0+m.e.toNat))=(Lq.pow rD m.d.toNat).f ((Lq.pow rY m.y.toNat).f ((Lq.pow rX m.x.toNat).f u)) (eY 0 0) (eY 0 (0+m.e.toNat))from rfl,QC,QF,QE];simp only[Nat.zero_add]
def M.nn (m:M):Prop:=0≤m.x∧0≤m.y∧0≤m.d∧0≤m.e
theorem yX {m:M} (h:m.ok=true):m.nn:=by obtain⟨x1,x2,y1,y2,d1,d2,e1,e2⟩:=M.ok_iff.1 h;exact⟨x1,y1,d1,e1⟩
theorem BM {a b:M} (ha:a.nn) (hb:b.nn):(a.sum b).nn:=by obtain⟨a1,a2,a3,a4⟩:=ha;obtain⟨b1,b2,b3,b4⟩:=hb;exact⟨Int.add_nonneg a1 b1,Int.add_nonneg a2 b2,Int.add_nonneg a3 b3,Int.add_nonneg a4 b4⟩
def Dc (m:M):Vq:=fun n k=>if n=eY m.x.toNat m.d.toNat∧k=eY m.y.toNat m.e.toNat then 1 else 0
def KR (A:Lq) (m:M):Fq:=A.f (Dc m) 0 0
theorem WF {a m:M} (ha:a.nn) (hm:m.nn):KR (mo aS a) m=dl m a:=by
 unfold KR dl;rw[YC];unfold Dc;by_cases e:a=m
 ·rw[if_pos (dG.2 e.symm),if_pos (by rw[e];exact⟨rfl,rfl⟩)]
 ·rw[if_neg (fun h=>e (dG.1 h).symm),if_neg];rintro⟨h1,h2⟩;have i1:=wS a.x.toNat a.d.toNat
  rw[h1,wS]at i1;have i2:=wS a.y.toNat a.e.toNat
  rw[h2,wS]at i2;simp only[Prod.mk.injEq]at i1 i2;obtain⟨a1,a2,a3,a4⟩:=ha;obtain⟨b1,b2,b3,b4⟩:=hm;refine e ?_;have j1:a.x=m.x:=by omega
  have j2:a.y=m.y:=by omega
  have j3:a.d=m.d:=by omega
  have j4:a.e=m.e:=by omega
  cases a;cases m;simp only at j1 j2 j3 j4;rw[j1,j2,j3,j4]
theorem FH (A B:Lq) (m:M):KR (Lq.sum A B) m=KR A m+KR B m:=rfl
theorem WG (c:Fq) (A:Lq) (m:M):KR (Lq.sc c A) m=c*KR A m:=rfl
theorem NW (m:M):KR Lq.nil m=0:=rfl
def kf (o:Int) (a:M):Int:=if o=1 then a.x+a.y+a.d+a.e else if o=3 then a.d+a.x else 0
def rH (o:Int) (a b:M):Prop:=kf o a<kf o b∨(kf o a=kf o b∧(a.d<b.d∨(a.d=b.d∧(a.e<b.e∨(a.e=b.e∧(a.x<b.x∨(a.x=b.x∧a.y<b.y)))))))
theorem Ch (a:M):kf 1 a=a.x+a.y+a.d+a.e:=if_pos rfl
theorem Ci (a:M):kf 2 a=0:=(if_neg (by decide)).trans (if_neg (by decide))
theorem Cj (a:M):kf 3 a=a.d+a.x:=(if_neg (by decide)).trans (if_pos rfl)
theorem Bj (a:M):iR 1 a=dI a:=if_pos rfl
theorem Bo (a:M):iR 2 a=fF a:=(if_neg (by decide)).trans (if_neg (by decide))
theorem Bz (a:M):iR 3 a=tE a:=(if_neg (by decide)).trans (if_pos rfl)
theorem zP (o:Int) (a b:M):kf o (a.sum b)=kf o a+kf o b:=by
 unfold kf M.sum;split
 ·simp only;omega
 ·split
  ·simp only;omega
  ·rfl
theorem oK {o:Int} {a b c:M} (h1:rH o a b) (h2:rH o b c):rH o a c:=by unfold rH at *;generalize kf o a=p at *;generalize kf o b=q at *;generalize kf o c=r at *;omega
theorem II {o:Int} {a:M} (h:rH o a a):False:=by unfold rH at h;omega
theorem sG {a b:M} (h1:a.x=b.x) (h2:a.y=b.y) (h3:a.d=b.d) (h4:a.e=b.e):a=b:=by cases a;cases b;simp only at h1 h2 h3 h4;rw[h1,h2,h3,h4]
theorem IH {o:Int} {a b:M} (c:M) (h:rH o a b):rH o (a.sum c) (b.sum c):=by unfold rH at *;rw[zP,zP];unfold M.sum;simp only;generalize kf o a=p at *;generalize kf o b=q at *;omega
theorem CV {o:Int} {a b:M} (c:M) (h:rH o a b):rH o (c.sum a) (c.sum b):=by unfold rH at *;rw[zP,zP];unfold M.sum;simp only;generalize kf o a=p at *;generalize kf o b=q at *;omega
theorem UA {o:Int} (ho:1≤o∧o≤3) (a b:M) {i k:Int} (hi:0≤i) (hk:0≤k) (h:0<i+k):rH o ⟨a.x+b.x-i,a.y+b.y-k,a.d+b.d-i,a.e+b.e-k⟩ (a.sum b):=by
 have h3:o=1∨o=2∨o=3:=by omega
 unfold rH;rcases h3 with rfl|rfl|rfl
 ·rw[Ch,Ch];unfold M.sum;simp only;omega
 ·rw[Ci,Ci];unfold M.sum;simp only;by_cases hi0:i=0
  ·exact .inr ⟨trivial,.inr ⟨by omega,.inl (by omega)⟩⟩
  ·exact .inr ⟨trivial,.inl (by omega)⟩
 ·rw[Cj,Cj];unfold M.sum;simp only;by_cases hi0:i=0
  ·exact .inr ⟨by omega,.inr ⟨by omega,.inl (by omega)⟩⟩
  ·exact .inl (by omega)
theorem AM {o:Int} (ho:1≤o∧o≤3) {a b:M} (ha:a.ok=true) (hb:b.ok=true) (h:iR o a<iR o b):rH o a b:=by
 obtain⟨x1,x2,y1,y2,d1,d2,e1,e2⟩:=M.ok_iff.1 ha;obtain⟨x3,x4,y3,y4,d3,d4,e3,e4⟩:=M.ok_iff.1 hb;have h3:o=1∨o=2∨o=3:=by omega
 unfold rH;rcases h3 with rfl|rfl|rfl
 ·rw[Bj,Bj]at h;rw[Ch,Ch];unfold dI fF at h;omega
 ·rw[Bo,Bo]at h;rw[Ci,Ci];unfold fF at h;omega
 ·rw[Bz,Bz]at h;rw[Cj,Cj];unfold tE fF at h;omega
def UM (a b:M) (i k:Nat):M:=⟨a.x+b.x-(i:Int),a.y+b.y-(k:Int),a.d+b.d-(i:Int),a.e+b.e-(k:Int)⟩
theorem OV (a b:M):UM a b 0 0=a.sum b:=by unfold UM M.sum;simp
theorem US (g:sF) (a b:M) (ha:a.nn) (hb:b.nn):Lq.mul (mo g a) (mo g b)=Lq.sumN (fun i=>Lq.sumN (fun k=>Lq.sc (nf (wN a.d.toNat b.x.toNat i)*nf (wN a.e.toNat b.y.toNat k)) (mo g (UM a b i k))) (min a.e.toNat b.y.toNat+1)) (min a.d.toNat b.x.toNat+1):=by
 obtain⟨ax0,ay0,ad0,ae0⟩:=ha;obtain⟨bx0,by0,bd0,be0⟩:=hb;have e1:Lq.mul (mo g a) (mo g b)=Lq.mul (Lq.mul (Lq.pow g.x a.x.toNat) (Lq.pow g.y a.y.toNat)) (Lq.mul (Lq.mul (Lq.pow g.d a.d.toNat) (Lq.pow g.x b.x.toNat)) (Lq.mul (Lq.mul (Lq.pow g.e a.e.toNat) (Lq.pow g.y b.y.toNat)) (Lq.mul (Lq.pow g.d b.d.toNat) (Lq.pow g.e b.e.toNat)))):=by
  have h:=g.xe.symm.pows a.e.toNat b.x.toNat
  calc _=Lq.mul (Lq.mul (Lq.pow g.x a.x.toNat) (Lq.pow g.y a.y.toNat)) (Lq.mul (Lq.pow g.d a.d.toNat) (Lq.mul (Lq.mul (Lq.pow g.e a.e.toNat) (Lq.pow g.x b.x.toNat)) (Lq.mul (Lq.pow g.y b.y.toNat) (Lq.mul (Lq.pow g.d b.d.toNat) (Lq.pow g.e b.e.toNat))))):=rfl
   _=Lq.mul (Lq.mul (Lq.pow g.x a.x.toNat) (Lq.pow g.y a.y.toNat)) (Lq.mul (Lq.pow g.d a.d.toNat) (Lq.mul (Lq.mul (Lq.pow g.x b.x.toNat) (Lq.pow g.e a.e.toNat)) (Lq.mul (Lq.pow g.y b.y.toNat) (Lq.mul (Lq.pow g.d b.d.toNat) (Lq.pow g.e b.e.toNat))))):=by rw[h]
   _=_:=rfl
 rw[e1,oT g.wx,oT g.wy,iT,Lq.mul_sumN];refine Lq.sumN_congr (fun i hi=>?_);rw[Lq.sc_mul,Lq.mul_sc,iT,Lq.mul_sumN,Lq.mul_sumN,iI];refine Lq.sumN_congr (fun k hk=>?_);rw[Lq.sc_mul,Lq.mul_sc,Lq.mul_sc,Lq.sc_sc,JN (g.xy.symm.pows _ _) (g.dy.pows _ _) (g.de.symm.pows _ _),←Lq.pow_add,←Lq.pow_add,←Lq.pow_add,←Lq.pow_add];unfold mo UM;simp only;rw[show a.x.toNat+(b.x.toNat-i)=(a.x+b.x-(i:Int)).toNat by omega,show a.y.toNat+(b.y.toNat-k)=(a.y+b.y-(k:Int)).toNat by omega,show a.d.toNat-i+b.d.toNat=(a.d+b.d-(i:Int)).toNat by omega,show a.e.toNat-k+b.e.toNat=(a.e+b.e-(k:Int)).toNat by omega]
theorem JV (b c:Nat):wN b c 0=1:=by unfold wN;rw[uX];rfl
inductive Lw (g:sF) (o:Int) (μ:M):Lq→Prop
 |nil:Lw g o μ Lq.nil
 |cons {A:Lq} (c:Fq) (m:M):m.nn→rH o m μ→Lw g o μ A→Lw g o μ (Lq.sum (Lq.sc c (mo g m)) A)
theorem Lw.sum {g:sF} {o:Int} {μ:M} {A B:Lq} (h:Lw g o μ A) (h':Lw g o μ B):Lw g o μ (Lq.sum A B):=by
 induction h with
 |nil=>rw[Lq.sum_comm,Lq.sum_nil];exact h'
 |cons c m h1 h2 h3 ih=>rw[Lq.sum_assoc];exact Lw.cons c m h1 h2 ih
theorem Lw.one {g:sF} {o:Int} {μ:M} (c:Fq) {m:M} (h1:m.nn) (h2:rH o m μ):Lw g o μ (Lq.sc c (mo g m)):=by
 have:=Lw.cons (g:=g) c m h1 h2 Lw.nil
 rwa[Lq.sum_nil]at this
theorem Lw.sumN {g:sF} {o:Int} {μ:M} {f:Nat→Lq}:∀n,(∀i,i<n→Lw g o μ (f i))→Lw g o μ (Lq.sumN f n)
 |0,_=>Lw.nil
 |n+1,h=>by rw[Lq.sumN];exact(Lw.sumN n (fun i hi=>h i (by omega))).sum (h n (by omega))
theorem AA (g:sF) {o:Int} (ho:1≤o∧o≤3) {a b:M} (ha:a.nn) (hb:b.nn):∃A,Lw g o (a.sum b) A∧Lq.mul (mo g a) (mo g b)=Lq.sum (mo g (a.sum b)) A:=by
 have hnn:∀i k:Nat,i<min a.d.toNat b.x.toNat+1→k<min a.e.toNat b.y.toNat+1→(UM a b i k).nn:=fun i k hi hk=>by obtain⟨ax0,ay0,ad0,ae0⟩:=ha;obtain⟨bx0,by0,bd0,be0⟩:=hb;refine⟨?_,?_,?_,?_⟩<;>(unfold UM;simp only;omega)
 have hlt:∀i k:Nat,0<i+k→rH o (UM a b i k) (a.sum b):=fun i k h=>UA ho a b (by omega) (by omega) (by omega);rw[US g a b ha hb,Lq.sumN_head,Lq.sumN_head];refine⟨Lq.sum (Lq.sumN (fun i=>Lq.sc (nf (wN a.d.toNat b.x.toNat 0)*nf (wN a.e.toNat b.y.toNat (i+1))) (mo g (UM a b 0 (i+1)))) (min a.e.toNat b.y.toNat)) (Lq.sumN (fun i=>Lq.sumN (fun k=>Lq.sc (nf (wN a.d.toNat b.x.toNat (i+1))*nf (wN a.e.toNat b.y.toNat k)) (mo g (UM a b (i+1) k))) (min a.e.toNat b.y.toNat+1)) (min a.d.toNat b.x.toNat)),?_,?_⟩
 ·refine Lw.sum (Lw.sumN _ (fun i hi=>Lw.one _ (hnn _ _ (by omega) (by omega)) (hlt _ _ (by omega)))) (Lw.sumN _ (fun i hi=>Lw.sumN _ (fun k hk=>Lw.one _ (hnn _ _ (by omega) (by omega)) (hlt _ _ (by omega)))))
 ·rw[Lq.sum_assoc,JV,JV,mT,OV,show(1:Fq)*1=1 from rfl,Lq.sc_one]
theorem Lw.cf {o:Int} {μ m:M} {A:Lq} (h:Lw aS o μ A) (hm:m.nn) (hl:¬rH o m μ):KR A m=0:=by
 induction h with
 |nil=>exact NW m
 |cons c a h1 h2 h3 ih=>
  rw[FH,WG,ih,WF h1 hm];unfold dl;rw[if_neg]
  ·grind
  ·intro e;rw[dG.1 e]at hl;exact hl h2
variable (o:Int) (n:Nat) (L:Nat→List T)
def iC (j:Nat):M:=(dD o (L j)).m
structure xA:Prop where
 ho:1≤o∧o≤3
 fl:∀j,j<n→cJ (L j)=true∧(L j).length≠0
variable {o n L}
theorem xA.mem (h:xA o n L) {j:Nat} (hj:j<n):dD o (L j)∈L j:=jL (h.fl j hj).2
theorem xA.falls (h:xA o n L) {j:Nat} (hj:j<n):aH (L j):=(aD (h.fl j hj).1).2
theorem xA.good (h:xA o n L) {j:Nat} (hj:j<n):(dD o (L j)).m.ok=true∧1≤(dD o (L j)).c∧(dD o (L j)).c≤100:=(h.falls hj).2 _ (h.mem hj)
theorem xA.nn (h:xA o n L) {j:Nat} (hj:j<n):(iC o L j).nn:=yX (h.good hj).1
theorem xA.top (h:xA o n L) {j:Nat} (hj:j<n) {t:T} (ht:t∈L j) (hne:t.m≠iC o L j):rH o t.m (iC o L j):=by
 have h1:=zT h.ho (h.fl j hj).1 (h.fl j hj).2 t ht;have h2:=((h.falls hj).2 t ht).1
 have h3:=(h.good hj).1;refine AM h.ho h2 h3 ?_;rcases Int.lt_or_eq_of_le h1 with h4|h4
 ·exact h4
 ·exact absurd (oV _ _ h2 h3 h4) hne
theorem BZ (A:Lq) (m:M):∀K:List T,KR (Lq.mul A (Rp aS K)) m=su K (fun t=>zz t.c*KR (Lq.mul A (mo aS t.m)) m)
 |[]=>rfl
 |t::r=>by rw[su,←BZ A m r];rfl
theorem xA.cf_off (h:xA o n L) {j:Nat} (hj:j<n) {m δ:M} (hm:m.nn) (hδ:δ.nn) (hl:rH o (m.sum (iC o L j)) δ):KR (Lq.mul (mo aS m) (Rp aS (L j))) δ=0:=by
 rw[BZ];refine nA _ _ (fun t ht=>?_);have h4:=yX ((h.falls hj).2 t ht).1
 obtain⟨A,h1,h2⟩:=AA aS h.ho hm h4;have h3:rH o (m.sum t.m) δ:=by
  by_cases e:t.m=iC o L j
  ·rw[e];exact hl
  ·exact oK (CV m (h.top hj ht e)) hl
 rw[h2,FH,h1.cf hδ (fun q=>II (oK q h3)),WF (BM hm h4) hδ];unfold dl;rw[if_neg]
 ·grind
 ·intro q;rw[dG.1 q]at h3;exact II h3
inductive Lo (o:Int) (n:Nat) (L:Nat→List T) (δ:M):Lq→Prop
 |nil:Lo o n L δ Lq.nil
 |cons {A:Lq} (c:Fq) (m:M) (j:Nat):j<n→m.nn→rH o (m.sum (iC o L j)) δ→Lo o n L δ A→Lo o n L δ (Lq.sum (Lq.sc c (Lq.mul (mo aS m) (Rp aS (L j)))) A)
theorem Lo.sum {δ:M} {A B:Lq} (h:Lo o n L δ A) (h':Lo o n L δ B):Lo o n L δ (Lq.sum A B):=by
 induction h with
 |nil=>rw[Lq.sum_comm,Lq.sum_nil];exact h'
 |cons c m j h1 h2 h3 h4 ih=>rw[Lq.sum_assoc];exact Lo.cons c m j h1 h2 h3 ih
theorem Lo.sc {δ:M} {A:Lq} (d:Fq) (h:Lo o n L δ A):Lo o n L δ (Lq.sc d A):=by
 induction h with
 |nil=>
  rw[show Lq.sc d Lq.nil=Lq.nil from Lq.ext fun u n k=>by show d*(0:Fq)=0;grind];exact Lo.nil
 |cons c m j h1 h2 h3 h4 ih=>rw[Lq.sc_sum,Lq.sc_sc];exact Lo.cons _ m j h1 h2 h3 ih
theorem Lo.mono {δ δ':M} {A:Lq} (h:Lo o n L δ A) (hd:rH o δ δ'∨δ=δ'):Lo o n L δ' A:=by
 induction h with
 |nil=>exact Lo.nil
 |cons c m j h1 h2 h3 h4 ih=>
  refine Lo.cons c m j h1 h2 ?_ ih;rcases hd with hd|hd
  ·exact oK h3 hd
  ·rw[←hd];exact h3
theorem Lo.one {δ:M} (c:Fq) {m:M} {j:Nat} (h1:j<n) (h2:m.nn) (h3:rH o (m.sum (iC o L j)) δ):Lo o n L δ (Lq.sc c (Lq.mul (mo aS m) (Rp aS (L j)))):=by
 have:=Lo.cons c m j h1 h2 h3 (Lo.nil (o:=o) (n:=n) (L:=L) (δ:=δ))
 rwa[Lq.sum_nil]at this
theorem Lw.lo {μ δ:M} {A:Lq} {j:Nat} (hj:j<n) (h:Lw aS o μ A) (hd:rH o (μ.sum (iC o L j)) δ∨μ.sum (iC o L j)=δ):Lo o n L δ (Lq.mul A (Rp aS (L j))):=by
 induction h with
 |nil=>rw[Lq.nil_mul];exact Lo.nil
 |cons c m h1 h2 h3 ih=>
  rw[Lq.sum_mul,Lq.sc_mul];refine Lo.cons c m j hj h1 ?_ ih;rcases hd with hd|hd
  ·exact oK (IH _ h2) hd
  ·rw[←hd];exact IH _ h2
theorem Lo.mul (hL:xA o n L) {δ s:M} {A:Lq} (hs:s.nn) (h:Lo o n L δ A):Lo o n L (s.sum δ) (Lq.mul (mo aS s) A):=by
 induction h with
 |nil=>rw[Lq.mul_nil];exact Lo.nil
 |cons c m j h1 h2 h3 h4 ih=>
  rw[Lq.mul_sum,Lq.mul_sc,←Lq.mul_assoc];obtain⟨B,hB,e⟩:=AA aS hL.ho hs h2;rw[e,Lq.sum_mul];have has:(s.sum m).sum (iC o L j)=s.sum (m.sum (iC o L j)):=by unfold M.sum;refine sG ?_ ?_ ?_ ?_<;>(simp only;omega)
  have h5:rH o ((s.sum m).sum (iC o L j)) (s.sum δ):=by rw[has];exact CV s h3
  refine Lo.sum (Lo.sc c (Lo.sum ?_ (hB.lo h1 (.inl h5)))) ih;have:=Lo.one (o:=o) (n:=n) (L:=L) (δ:=s.sum δ) 1 h1 (BM hs h2) h5
  rwa[Lq.sc_one]at this
def M.le (a b:M):Prop:=a.x≤b.x∧a.y≤b.y∧a.d≤b.d∧a.e≤b.e
def M.sub (b a:M):M:=⟨b.x-a.x,b.y-a.y,b.d-a.d,b.e-a.e⟩
theorem sH {a b:M}:(M.sub b a).sum a=b:=by unfold M.sub M.sum;refine sG ?_ ?_ ?_ ?_<;>(simp only;omega)
theorem uQ {a b:M} (h:M.le a b):(M.sub b a).nn:=by obtain⟨h1,h2,h3,h4⟩:=h;unfold M.sub;exact⟨by simp only;omega,by simp only;omega,by simp only;omega,by simp only;omega⟩
def tv (o:Int) (L:Nat→List T) (δ:M):List (Fq×Nat)→Lq
 |[]=>Lq.nil
 |(c,j)::r=>Lq.sum (Lq.sc c (Lq.mul (mo aS (M.sub δ (iC o L j))) (Rp aS (L j)))) (tv o L δ r)
theorem Lo.cf0 (hL:xA o n L) {δ:M} {A:Lq} (hδ:δ.nn) (h:Lo o n L δ A):KR A δ=0:=by
 induction h with
 |nil=>exact NW δ
 |cons c m j h1 h2 h3 h4 ih=>rw[FH,WG,hL.cf_off h1 h2 hδ h3,ih];grind
def M.lcm (a b:M):M:=⟨if a.x≤b.x then b.x else a.x,if a.y≤b.y then b.y else a.y,if a.d≤b.d then b.d else a.d,if a.e≤b.e then b.e else a.e⟩
theorem ND (a b:M):M.le a (M.lcm a b)∧M.le b (M.lcm a b):=by unfold M.le M.lcm;simp only;refine⟨⟨?_,?_,?_,?_⟩,?_,?_,?_,?_⟩<;>(split<;>omega)
theorem NC {a b c:M} (h1:M.le a c) (h2:M.le b c):M.le (M.lcm a b) c:=by obtain⟨a1,a2,a3,a4⟩:=h1;obtain⟨b1,b2,b3,b4⟩:=h2;unfold M.le M.lcm;simp only;refine⟨?_,?_,?_,?_⟩<;>(split<;>omega)
def yY (o:Int) (n:Nat) (L:Nat→List T) (i k:Nat):Prop:=∀u v:Fq,u*zz (dD o (L i)).c=1→v*zz (dD o (L k)).c=1→Lo o n L (M.lcm (iC o L i) (iC o L k)) (Lq.sum (Lq.sc u (Lq.mul (mo aS (M.sub (M.lcm (iC o L i) (iC o L k)) (iC o L i))) (Rp aS (L i)))) (Lq.sc (-v) (Lq.mul (mo aS (M.sub (M.lcm (iC o L i) (iC o L k)) (iC o L k))) (Rp aS (L k)))))
theorem KC {a b c:M}:(M.sub c b).sum (M.sub b a)=M.sub c a:=by unfold M.sub M.sum;refine sG ?_ ?_ ?_ ?_<;>(simp only;omega)
theorem yY.up (hL:xA o n L) {i k:Nat} (hi:i<n) (hk:k<n) (h:yY o n L i k) {δ:M} (hδi:M.le (iC o L i) δ) (hδk:M.le (iC o L k) δ) {u v:Fq} (hu:u*zz (dD o (L i)).c=1) (hv:v*zz (dD o (L k)).c=1):Lo o n L δ (Lq.sum (Lq.sc u (Lq.mul (mo aS (M.sub δ (iC o L i))) (Rp aS (L i)))) (Lq.sc (-v) (Lq.mul (mo aS (M.sub δ (iC o L k))) (Rp aS (L k))))):=by
 have hb:=NC hδi hδk;have hs:=uQ hb
 obtain⟨l1,l2⟩:=ND (iC o L i) (iC o L k);obtain⟨A,a1,a2⟩:=AA aS hL.ho hs (uQ l1);obtain⟨B,b1,b2⟩:=AA aS hL.ho hs (uQ l2);rw[KC]at a1 a2 b1 b2;have key:=(h u v hu hv).mul hL hs
 rw[sH]at key;have la:=(a1.lo hi (.inr (sH))).sc (-u)
 have lb:=(b1.lo hk (.inr (sH))).sc v;have tot:=(key.sum la).sum lb
 have e:Lq.sum (Lq.sum (Lq.mul (mo aS (M.sub δ (M.lcm (iC o L i) (iC o L k)))) (Lq.sum (Lq.sc u (Lq.mul (mo aS (M.sub (M.lcm (iC o L i) (iC o L k)) (iC o L i))) (Rp aS (L i)))) (Lq.sc (-v) (Lq.mul (mo aS (M.sub (M.lcm (iC o L i) (iC o L k)) (iC o L k))) (Rp aS (L k)))))) (Lq.sc (-u) (Lq.mul A (Rp aS (L i))))) (Lq.sc v (Lq.mul B (Rp aS (L k))))=Lq.sum (Lq.sc u (Lq.mul (mo aS (M.sub δ (iC o L i))) (Rp aS (L i)))) (Lq.sc (-v) (Lq.mul (mo aS (M.sub δ (iC o L k))) (Rp aS (L k)))):=by
  rw[Lq.mul_sum,Lq.mul_sc,Lq.mul_sc,←Lq.mul_assoc,←Lq.mul_assoc,a2,b2,Lq.sum_mul,Lq.sum_mul];refine Lq.ext fun w p q=>?_;simp only[SB,YN]
  grind
 rw[e]at tot;exact tot
end Go.Proofs.YtelkehjdfcoeiaaGreat
