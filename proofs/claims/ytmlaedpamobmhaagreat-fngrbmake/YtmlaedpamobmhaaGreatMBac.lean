/-
  An order and a basis, or but some operators, are drawn (spec.l20Base); what is drawn lies apart from the reader.
-/
import Derived.Test.YtmlaedpamobmhaaGreatMBab
set_option maxHeartbeats 16000000
set_option maxRecDepth 100000
namespace Go.Proofs.YtmlaedpamobmhaaGreat
open Go.RowKit Go.Deep Go.Joins
set_option linter.unusedVariables false
theorem pP {B:Nat} {w w':World} (h:aD B w w'):Fr (fun k=>k=B) w w':=⟨h.os,h.tape,h.output,h.size,fun k hk hn=>h.block k hk hn⟩
theorem mD.beside {B:Nat} {w w':World} {a:Option Addr} {g c:Nat} {ad:Nat→Option Addr} {cp:Nat→Nat} {Q:Nat→List T} (h:mD (fun b=>b≠B) w a g c ad cp Q) (hb:aD B w w'):mD (fun b=>b≠B) w' a g c ad cp Q:=h.fr (pP hb) (fun b hn e=>hn e)
theorem mD.below {N:Nat→Prop} {w w':World} {a:Option Addr} {g c:Nat} {ad:Nat→Option Addr} {cp:Nat→Nat} {Q:Nat→List T} (h:mD N w a g c ad cp Q) (hb:Below w.heap.size w w'):mD N w' a g c ad cp Q:=h.fr (P:=fun _=>False) (aV hb) (fun _ _ q=>q)
theorem yT {w:World} {B lo lo':Nat} {g':Option Nat} {v:Value} {LS:List Value} (h:w.ownsRow lo 35 1 v LS.length LS) (hE:∀e∈LS,El w lo' g' e) (hl:LS.length≤100) (h1:B<lo) (h2:B<lo'):∃a c ad cp L,v= .slice a LS.length c∧mD (fun b=>b≠B) w a LS.length c ad cp L:=by
 have each:∀i,i<LS.length→∃t:(Option Addr×Nat)×List T,LS[i]? =some (.slice t.1.1 t.2.length t.1.2)∧RL w t.1.1 t.1.2 t.2∧(t.2.length=0∨∀b off,t.1.1=some ⟨b,off,none⟩→b≠B):=fun i hi=>by obtain⟨a,n,c,f,e,hr,_,hb⟩:=hE (LS[i]) (List.getElem_mem hi);obtain⟨X,rfl,hX⟩:=MA hr;exact⟨((a,c),X),by rw[List.getElem?_eq_getElem hi,e],hX,hb.imp id (fun⟨b,off,e1,hlo,_⟩ b' off' e2=>by rw[e1]at e2;cases e2;omega)⟩
 haveI:Inhabited ((Option Addr×Nat)×List T):=⟨((none,0),[])⟩
 obtain⟨q,hq⟩:=choose_lt each;rcases h.2 with⟨hv,h0⟩|⟨b,cap,cur,hv,hlo,hg,hnc,_⟩
 ·exact⟨none,0,fun i=>(q i).1.1,fun i=>(q i).1.2,fun i=>(q i).2,by rw[hv,h0],⟨by omega,by omega,.inl h0,fun i hi=>(hq i hi).2.1⟩,.inl h0,fun i hi=>(hq i hi).2.2⟩
 ·have hr:=h;rw[hv]at hr;refine⟨some ⟨b,0,none⟩,cap,fun i=>(q i).1.1,fun i=>(q i).1.2,fun i=>(q i).2,hv,⟨hnc,by omega,.inr ⟨b,0,rfl,(hr.lt b rfl).2,fun i hi=>?_⟩,fun i hi=>(hq i hi).2.1⟩,.inr (fun b' off' e=>?_),fun i hi=>(hq i hi).2.2⟩
  ·rw[Nat.zero_add,hr.cellAt i (by omega),(hq i hi).1]
  ·cases e;omega
theorem uJ {o:Int} {n:Nat} {L:Nat→List T} {fuel:Int}:(dK o n L fuel).1.m≤12:=by
 obtain⟨B,d,h⟩:∃B d,dK o n L fuel=(B,d):=⟨_,_,rfl⟩
 rw[h];rcases qW h with⟨h0,_⟩|⟨_,j,hm,_⟩
 ·show B.m≤12;omega
 ·exact(aR hm.ok.l).1
def iY (f:Nat→Option (List T)):Nat→Option (Nat→List T)
 |0=>some (fun _=>[])
 |j+1=>match iY f j with
  |none=>none
  |some R=>match f j with
   |none=>none
   |some Y=>some (cT R j Y)
theorem uZ {f:Nat→Option (List T)} {j:Nat} {R:Nat→List T} {Y:List T} (h:iY f j=some R) (hf:f j=some Y):iY f (j+1)=some (cT R j Y):=by
 show(match iY f j with|none=>none|some R=>match f j with|none=>none|some Y=>some (cT R j Y))=_;rw[h];show(match f j with|none=>none|some Y=>some (cT R j Y))=_
 rw[hf]
theorem NE {f:Nat→Option (List T)} {j:Nat} (h:iY f j=none):iY f (j+1)=none:=by show(match iY f j with|none=>none|some R=>match f j with|none=>none|some Y=>some (cT R j Y))=_;rw[h]
theorem GX {f:Nat→Option (List T)} {j:Nat} (h:f j=none):iY f (j+1)=none:=by show(match iY f j with|none=>none|some R=>match f j with|none=>none|some Y=>some (cT R j Y))=_;rw[h];cases iY f j<;>rfl
theorem nD {f:Nat→Option (List T)} {i:Nat} (h:f i=none):∀g,i<g→iY f g=none
 |0,hi=>by omega
 |g+1,hi=>by
  by_cases e:i=g
  ·subst e;exact GX h
  ·exact NE (nD h g (by omega))
theorem GY {f:Nat→Option (List T)}:∀g R,iY f g=some R→∀i,i<g→f i=some (R i)
 |0,R,_,i,hi=>by omega
 |g+1,R,h,i,hi=>by
  cases hr:iY f g with
  |none=>rw[NE hr]at h;cases h
  |some R1=>
   cases hf:f g with
   |none=>rw[GX hf]at h;cases h
   |some Y=>
    rw[uZ hr hf]at h;cases h;unfold cT;split
    ·rename_i e;rw[e];exact hf
    ·exact GY g R1 hr i (by omega)
theorem rR {f f':Nat→Option (List T)}:∀g,(∀i,i<g→f i=f' i)→iY f g=iY f' g
 |0,_=>rfl
 |g+1,h=>by
  show(match iY f g with|none=>none|some R=>match f g with|none=>none|some Y=>some (cT R g Y))=(match iY f' g with|none=>none|some R=>match f' g with|none=>none|some Y=>some (cT R g Y))
  rw[rR g (fun i hi=>h i (by omega)),h g (by omega)]
theorem uR (row:Nat→List T) (q:List T) (oth:Nat→List T):∀g,cZ row q oth g=iY (fun i=>dN (row i) q (oth i)) g
 |0=>rfl
 |g+1=>by show(match cZ row q oth g with|none=>none|some R=>match dN (row g) q (oth g)with|none=>none|some Y=>some (cT R g Y))=_;rw[uR row q oth g];rfl
theorem IA (f:Nat→Option (List T)) (q:List T) (oth:Nat→List T) (g:Nat):(match iY f g with|none=>none|some R=>cZ R q oth g)=iY (fun i=>(f i).bind (fun s=>dN s q (oth i))) g:=by
 cases hr:iY f g with
 |none=>
  show none=_;have:∃i,i<g∧f i=none:=by
   have key:∀g,(∀i,i<g→f i≠none)→iY f g≠none:=fun g=>by
    induction g with
    |zero=>intro _ h;cases h
    |succ g ih=>
     intro h;cases hg:iY f g with
     |none=>exact absurd hg (ih (fun i hi=>h i (by omega)))
     |some R=>
      cases hf:f g with
      |none=>exact absurd hf (h g (by omega))
      |some Y=>rw[uZ hg hf];simp
   by_cases e:∃i,i<g∧f i=none
   ·exact e
   ·exact absurd hr (key g (fun i hi q=>e ⟨i,hi,q⟩))
  obtain⟨i,hi,e⟩:=this;exact(nD (by rw[e];rfl) g hi).symm
 |some R=>
  show cZ R q oth g=_;rw[uR];exact rR g fun i hi=>by rw[GY g R hr i hi];rfl
def EV (P:Nat→Nat→List T) (i k:Nat) (u v:T) (q:Nat→List T) (j:Nat):Nat→Option (List T)
 |0=>(dN [] [eK u] (P i j)).bind (fun s=>dN s [v] (P k j))
 |t+1=>(EV P i k u v q j t).bind (fun s=>dN s (q t) (P t j))
theorem AZ {g:Nat} {P:Nat→Nat→List T} {i k:Nat} {u v:T} {q:Nat→List T}:∀t,iQ g P q (fW g P i k u v) t=iY (fun j=>EV P i k u v q j t) g
 |0=>by
  show fW g P i k u v=_;have e:fW g P i k u v=(match iY (fun j=>dN [] [eK u] (P i j)) g with|none=>none|some R=>cZ R [v] (P k) g):=by unfold fW;rw[uR];rfl
  rw[e,IA];rfl
 |t+1=>by show(match iQ g P q (fW g P i k u v) t with|none=>none|some R=>cZ R (q t) (P t) g)=_;rw[AZ t,IA];rfl
def zV (F X:List T):Option (List T):=match mA F X with
 |(Y,true)=>some Y
 |(_,false)=>none
def MT (s q X:List T):Option (List T):=match mA q X with
 |(Y,true)=>(match tS s Y with
  |(Z,true)=>some Z
  |(_,false)=>none)
 |(_,false)=>none
def MR (F:List T) (P0:Nat→List T) (qs:Nat→List T) (Q:Nat→Nat→List T) (j:Nat):Nat→Option (List T)
 |0=>zV F (P0 j)
 |t+1=>(MR F P0 qs Q j t).bind (fun s=>MT s (qs t) (Q t j))
theorem GH {s q X:List T} (hs:cM s=true) (hq:cM q=true) (hX:cM X=true):MT s q X=dN s q X:=by
 unfold MT dN mA aS;rw[if_pos ⟨hq,hX⟩];cases hm:cC (lf q) (lf X) X.length q.length with
 |none=>rfl
 |some Y=>
  have oY:=zT (NV hq hX hm);show(match tS s Y with|(Z,true)=>some Z|(_,false)=>none)=if(dB s Y).length≤400 then some (dB s Y)else none
  by_cases hl:(dB s Y).length≤400
  ·rw[DZ hs oY hl,if_pos hl]
  ·rw[if_neg hl];rcases vD s Y with e|⟨_,_,h3,_⟩
   ·rw[e]
   ·exact absurd h3 hl
theorem VR {P:List T} (h:aK P):dB [] (kC 100 P)=P:=by
 have h1:=gK (c:=100) (by omega) (by omega) h;have h2:=cQ eW h1
 refine kV h2.1 h (fun m _=>?_);have r:=bZ h m
 rw[h2.2,xM,IB];omega
theorem UP {u:T} {X:List T} (hu:u.m.ok=true∧1≤u.c∧u.c≤100) (hX:cM X=true):zV [u] X=dN [] [eK u] X:=by
 have ou:=gW hu;have en:eK u=wG 100 u:=by unfold eK wG;congr 1;omega
 have hm:=wS (f:=lf [u]) (f2:=lf [eK u]) (la:=1) (c:=100) (by omega) (by omega) (cB (show aL 1 (lf [u])=true from ou)).2 (cB (show aL X.length (lf X)=true from hX)).2 (fun i hi=>by
  have e:i=0:=by omega
  subst e;show eK u=wG 100 u
  exact en) 1 (Nat.le_refl _)
 unfold zV dN mA aS;rw[if_pos ⟨ou,hX⟩];show(match iK (cC (lf [u]) (lf X) X.length 1)with|(Y,true)=>some Y|(_,false)=>none)=(match cC (lf [eK u]) (lf X) X.length 1 with|some P=>if(dB [] P).length≤400 then some (dB [] P)else none|none=>none)
 rw[hm];cases hk:cC (lf [u]) (lf X) X.length 1 with
 |none=>rfl
 |some Y=>
  have fY:=cV (cB (show aL 1 (lf [u])=true from ou)).2 (cB (show aL X.length (lf X)=true from hX)).2 1 Y (Nat.le_refl _) hk;show some Y=if(dB [] (kC 100 Y)).length≤400 then some (dB [] (kC 100 Y))else none
  rw[VR fY,if_pos (fH _ Y hk)]
def GB (v:T) (q:Nat→List T):Nat→List T
 |0=>[v]
 |t+1=>q t
def PU (P:Nat→Nat→List T) (k:Nat):Nat→Nat→List T
 |0=>P k
 |t+1=>P t
theorem SL {P:Nat→Nat→List T} {i k m g:Nat} {u v:T} {q:Nat→List T} (hi:i<m) (hk:k<m) (hP:∀i,i<m→∀j,j<g→cM (P i j)=true) (hu:cM [eK u]=true) (hv:cM [v]=true) (hq:∀t,t<m→cM (q t)=true) {j:Nat} (hj:j<g):∀t s,t≤m→EV P i k u v q j t=some s→cM s=true
 |0,s,_,h=>by
  change (dN [] [eK u] (P i j)).bind (fun s=>dN s [v] (P k j))=some s at h;cases h1:dN [] [eK u] (P i j)with
  |none=>rw[h1]at h;cases h
  |some s1=>
   rw[h1]at h;exact pI (pI jM hu (hP i hi j hj) h1) hv (hP k hk j hj) h
 |t+1,s,ht,h=>by
  change (EV P i k u v q j t).bind (fun s=>dN s (q t) (P t j))=some s at h;cases h1:EV P i k u v q j t with
  |none=>rw[h1]at h;cases h
  |some s1=>
   rw[h1]at h;exact pI (SL hi hk hP hu hv hq hj t s1 (by omega) h1) (hq t (by omega)) (hP t (by omega) j hj) h
theorem MS {P:Nat→Nat→List T} {i k m g:Nat} {u v:T} {q:Nat→List T} (hi:i<m) (hk:k<m) (hP:∀i,i<m→∀j,j<g→cM (P i j)=true) (hu:u.m.ok=true∧1≤u.c∧u.c≤100) (hv:v.m.ok=true∧1≤v.c∧v.c≤100) (hq:∀t,t<m→cM (q t)=true) {j:Nat} (hj:j<g):∀t,t≤m→MR [u] (P i) (GB v q) (PU P k) j (t+1)=EV P i k u v q j t
 |0,_=>by
  have g1:=yI hu.2.1 hu.2.2;have hn:cM [eK u]=true:=gW ⟨hu.1,g1.1,g1.2⟩
  show(zV [u] (P i j)).bind (fun s=>MT s [v] (P k j))=(dN [] [eK u] (P i j)).bind (fun s=>dN s [v] (P k j));rw[UP hu (hP i hi j hj)];cases h1:dN [] [eK u] (P i j)with
  |none=>rfl
  |some s1=>exact GH (pI jM hn (hP i hi j hj) h1) (gW hv) (hP k hk j hj)
 |t+1,ht=>by
  have g1:=yI hu.2.1 hu.2.2;have hn:cM [eK u]=true:=gW ⟨hu.1,g1.1,g1.2⟩
  show(MR [u] (P i) (GB v q) (PU P k) j (t+1)).bind (fun s=>MT s (q t) (P t j))=(EV P i k u v q j t).bind (fun s=>dN s (q t) (P t j));rw[MS hi hk hP hu hv hq hj t (by omega)];cases h1:EV P i k u v q j t with
  |none=>rfl
  |some s1=>exact GH (SL hi hk hP hn (gW hv) hq hj t s1 (by omega) h1) (hq t (by omega)) (hP t (by omega) j hj)
theorem YO {P:Nat→Nat→List T} {i k m g:Nat} {u v:T} {q:Nat→List T} (hi:i<m) (hk:k<m) (hP:∀i,i<m→∀j,j<g→cM (P i j)=true) (hu:u.m.ok=true∧1≤u.c∧u.c≤100) (hv:v.m.ok=true∧1≤v.c∧v.c≤100) (hq:∀t,t<m→cM (q t)=true):iY (fun j=>MR [u] (P i) (GB v q) (PU P k) j (m+1)) g=kO g P i k u v m q:=by unfold kO;rw[AZ];exact rR g fun j hj=>MS hi hk hP hu hv hq hj m (Nat.le_refl _)
set_option linter.unusedSimpArgs false
structure EL (w:World) (oa:Option Addr) (M oc:Nat) (qa:Nat→Option Addr) (qc:Nat→Nat) (ra:Nat→Option Addr) (rc:Nat→Nat) (rad:Nat→Nat→Option Addr) (rcp:Nat→Nat→Nat) (g:Nat) (qs:Nat→List T) (Q:Nat→Nat→List T):Prop where
 cap:M≤oc
 len:M≤100
 pos:M=0∨∃b off,oa=some ⟨b,off,none⟩∧b<w.heap.size∧∀t,t<M→w.cell? ⟨b,off+t*2,none⟩=some (.slice (qa t) (qs t).length (qc t))∧w.cell? ⟨b,off+t*2+1,none⟩=some (.slice (ra t) g (rc t))
 q:∀t,t<M→RL w (qa t) (qc t) (qs t)
 r:∀t,t<M→eJ w (ra t) g (rc t) (rad t) (lN (Q t)) (rcp t) (fN (Q t))
theorem EL.below {w w':World} {oa:Option Addr} {M oc:Nat} {qa:Nat→Option Addr} {qc:Nat→Nat} {ra:Nat→Option Addr} {rc:Nat→Nat} {rad:Nat→Nat→Option Addr} {rcp:Nat→Nat→Nat} {g:Nat} {qs:Nat→List T} {Q:Nat→Nat→List T} (h:EL w oa M oc qa qc ra rc rad rcp g qs Q) (hb:Below w.heap.size w w'):EL w' oa M oc qa qc ra rc rad rcp g qs Q:=
 ⟨h.cap,h.len,h.pos.imp id (fun⟨b,off,e,hlt,hc⟩=>⟨b,off,e,iZ hlt hb.size,fun t ht=>⟨(hb.cell (p:=⟨b,off+t*2,none⟩) hlt).trans (hc t ht).1,(hb.cell (p:=⟨b,off+t*2+1,none⟩) hlt).trans (hc t ht).2⟩⟩),fun t ht=>(h.q t ht).below hb,fun t ht=>(h.r t ht).below hb⟩
def Hl (w:World) (g:Nat) (E:Option (Nat→List T)) (r:Ending) (w':World):Prop:=
 Below w.heap.size w w'∧((∃R ra rc ad cp lo Rb B,E=some R∧r= .returned (.slice ra g rc)∧w.heap.size≤lo∧jC lo w' ra g rc ad (lN R) cp (fN R) Rb B)∨(E=none∧r= .panicked [{v:=dW,recovered:=false}]))
abbrev JB (u:World) (bx:Nat) (v0 v1:Value) (rb x:Nat) (v2:Value):Prop:=u.cell? ⟨bx,0,none⟩=some v0∧u.cell? ⟨bx,1,none⟩=some v1∧u.cell? ⟨rb,x,none⟩=some v2
theorem JB.below {u u':World} {bx:Nat} {v0 v1:Value} {rb x:Nat} {v2:Value} (h:JB u bx v0 v1 rb x v2) (hb:Below u.heap.size u u'):JB u' bx v0 v1 rb x v2:=
 ⟨(hb.cell (p:=⟨bx,0,none⟩) (cE u _ h.1)).trans h.1,(hb.cell (p:=⟨bx,1,none⟩) (cE u _ h.2.1)).trans h.2.1,(hb.cell (p:=⟨rb,x,none⟩) (cE u _ h.2.2)).trans h.2.2⟩
theorem EK (w:World) (y:TypeId) (v0 v1:Value):(w.alloc (.cells #[v0,v1] y)).cell? ⟨w.heap.size,0,none⟩=some v0∧(w.alloc (.cells #[v0,v1] y)).cell? ⟨w.heap.size,1,none⟩=some v1:=⟨by rw[World.cell?_alloc_at _ _ _ _ rfl];rfl,by rw[World.cell?_alloc_at _ _ _ _ rfl];rfl⟩
theorem yM {F:List T} {P0:Nat→List T} {qs:Nat→List T} {Q:Nat→Nat→List T} {j t:Nat} {s:List T} (h:MR F P0 qs Q j t=some s):MR F P0 qs Q j (t+1)=MT s (qs t) (Q t j):=by show(MR F P0 qs Q j t).bind (fun s=>MT s (qs t) (Q t j))=_;rw[h];rfl
theorem tJ {F:List T} {P0:Nat→List T} {qs:Nat→List T} {Q:Nat→Nat→List T} {j t:Nat} (h:MR F P0 qs Q j t=none):∀d,MR F P0 qs Q j (t+d)=none
 |0=>h
 |d+1=>by show(MR F P0 qs Q j (t+d)).bind (fun s=>MT s (qs (t+d)) (Q (t+d) j))=none;rw[tJ h d];rfl
theorem Fh {s q X Y:List T} (h:mA q X=(Y,false)):MT s q X=none:=by unfold MT;rw[h]
theorem Fi {s q X Y Z:List T} (h:mA q X=(Y,true)) (h2:tS s Y=(Z,false)):MT s q X=none:=by unfold MT;rw[h];simp only[h2]
theorem Fj {s q X Y Z:List T} (h:mA q X=(Y,true)) (h2:tS s Y=(Z,true)):MT s q X=some Z:=by unfold MT;rw[h];simp only[h2]
theorem Ff {F X Y:List T} (h:mA F X=(Y,false)):zV F X=none:=by unfold zV;rw[h]
theorem Fg {F X Y:List T} (h:mA F X=(Y,true)):zV F X=some Y:=by unfold zV;rw[h]
theorem Av {w:World} {a b:Option Addr} {ca cb:Nat} {L K:List T} (ha:RL w a ca L) (hb:RL w b cb K):Calls Tryz.prog 50 #[.slice a L.length ca,.slice b K.length cb] w fun r w'=>∃a' c',r= .returned (.tuple #[.slice a' (mA L K).1.length c',.bool (mA L K).2])∧Below w.heap.size w w'∧iA w.heap.size w' a' c' (mA L K).1:=tV w a b L.length ca K.length cb (lf L) (lf K) ha hb
theorem Dg {w:World} {a b:Option Addr} {ca cb:Nat} {L K:List T} (ha:RL w a ca L) (hb:RL w b cb K):Calls Tryz.prog 101 #[.slice a L.length ca,.slice b K.length cb] w fun r w'=>∃a' c',r= .returned (.tuple #[.slice a' (tS L K).1.length c',.bool (tS L K).2])∧Below w.heap.size w w'∧iA w.heap.size w' a' c' (tS L K).1:=MV w a b L.length ca K.length cb (lf L) (lf K) ha hb
theorem PC (w:World) (fa:Option Addr) (fc:Nat) (F:List T) (hF:RL w fa fc F) (ia:Option Addr) (g ic:Nat) (iad:Nat→Option Addr) (icp:Nat→Nat) (P0:Nat→List T) (hI:eJ w ia g ic iad (lN P0) icp (fN P0)) (hg:g≤12) (oa:Option Addr) (M oc:Nat) (qa:Nat→Option Addr) (qc:Nat→Nat) (ra:Nat→Option Addr) (rc:Nat→Nat) (rad:Nat→Nat→Option Addr) (rcp:Nat→Nat→Nat) (qs:Nat→List T) (Q:Nat→Nat→List T) (hO:EL w oa M oc qa qc ra rc rad rcp g qs Q) {E:Option (Nat→List T)} (hE:iY (fun j=>MR F P0 qs Q j M) g=E):Calls Tryz.prog 148 #[.agg #[.slice fa F.length fc,.slice ia g ic],.slice oa M oc] w (Hl w g E):=by
 obtain⟨i0,hi0,hz0,hz1,hz2⟩:=info_parts qX;have hgl:(g:Int)≤12:=by omega
 have hMl:(M:Int)≤100:=by have:=hO.len;omega
 obtain⟨w1,hw1⟩:∃w1,w.alloc (.cells #[.slice fa F.length fc,.slice ia g ic] 176)=w1:=⟨_,rfl⟩
 have b1:Below w.heap.size w w1:=by rw[←hw1];exact aC w _
 have HX1:Hid (w1.cell? ⟨w.heap.size,0,none⟩=some (.slice fa F.length fc)∧w1.cell? ⟨w.heap.size,1,none⟩=some (.slice ia g ic)):=by rw[←hw1];exact EK w 176 _ _
 have HB1:=aA b1;have HF1:=aA (hF.below b1)
 have HI1:=aA (hI.below b1);have HO1:=aA (hO.below b1)
 have HE:=aA hE;have hs1:w.heap.size<w1.heap.size:=cE w1 _ HX1.out.1
 obtain⟨k0,k1⟩:=HX1.out;clear hF hI hO hE b1;go_enter Tryz.func148,Tryz.ntmps148;go_wp2;clear hw1;go_loopw [5,14] (fun tv ii wr=>∃(j:Nat) (X:Nat→List T) (ad:Nat→Option Addr) (cp B:Nat→Nat),j≤g∧ii= .int .i64 (j:Int)∧iY (fun j=>MR F P0 qs Q j M) j=some X∧Below w1.heap.size w1 wr∧mI w1.heap.size wr X j tv ad cp B) (fun _ ii _=>g-(intOf ii).toNat);case atStart=>exact⟨0,fun _=>[],_,_,_,gY _,rfl,rfl,bQ _ _,mI.start (Nat.le_refl _) _⟩
 case round=>
  obtain⟨j,X,ad,cp,B,hj,rfl,hX,hB,hA⟩:=hrel;obtain⟨wo,rfl⟩:∃x,x=wr:=⟨_,rfl⟩
  have HX:=aA hX;have HB:=aA hB
  have HA:=aA hA;clear hX k0 k1;by_cases hlt:j<g
  ·have hjl:(j:Int)<(g:Int):=by omega
   have hmax:j+1≤maxLen:=by unfold maxLen;omega
   obtain⟨ib,ioff,rfl,hib,hicl⟩:=HI1.out.2.2.1.resolve_left (by omega);obtain⟨PJ,hPJ⟩:∃PJ,P0 j=PJ:=⟨_,rfl⟩
   have cj:wo.cell? ⟨ib,ioff+j,none⟩=some (.slice (iad j) PJ.length (icp j)):=(hB.cell (p:=⟨ib,ioff+j,none⟩) hib).trans (by rw[←hPJ];exact hicl j hlt);have c0:wo.cell? ⟨w.heap.size,0,none⟩=some (.slice fa F.length fc):=(hB.cell (p:=⟨w.heap.size,0,none⟩) hs1).trans HX1.out.1
   have RJ:Hid (RL wo (iad j) (icp j) PJ):=by rw[←hPJ];exact(HI1.out.2.2.2 j hlt).below hB
   have RF:=aA (HF1.out.below hB);obtain⟨Y,o0,hY⟩:∃Y b,mA F PJ=(Y,b):=⟨_,_,rfl⟩
   have hc:=Av RF.out RJ.out;rw[hY]at hc;have HC:=aA hc
   have hY':mA F (P0 j)=(Y,o0):=by rw[hPJ];exact hY
   have HY:=aA hY';have hsr:w1.heap.size≤wo.heap.size:=hB.size
   clear hicl hPJ hY hY' hc hB hA;go_wp2_with fail;refine HC.out.mono ?_;rintro e w4 ⟨ya,yc,rfl,b4,hy⟩;have HB4:=aA (aB HB.out b4)
   have HA4:=aA (HA.out.below b4);have HBr4:=aA b4
   have HY4:=aA hy;clear b4 hy HC cj c0;cases o0
   ·have hEn:E=none:=by
     rw[←HE.out];refine nD (i:=j) ?_ g hlt;have:=tJ (qs:=qs) (Q:=Q) (j:=j) (t:=0) (Ff HY.out) M
     rwa[Nat.zero_add]at this
    subst hEn;go_wp2_with fail;refine(bC _ _).mono ?_;rintro e wn ⟨rfl,hwn⟩;obtain rfl:=hwn.symm;clear hwn;exact⟨rfl,HB1.out.trans (HB4.out.mono (Nat.le_of_lt hs1)),.inr ⟨rfl,rfl⟩⟩
   go_wp2_with fail;refine(cD _ _).mono ?_;rintro e wn ⟨rfl,hwn⟩;obtain rfl:=hwn.symm;clear hwn;go_wp2;go_loopw [8,28] (fun sv tt wi=>∃(t:Nat) (s:List T) (sa:Option Addr) (sc:Nat),t≤M∧tt= .int .i64 (t:Int)∧MR F P0 qs Q j t=some s∧sv= .slice sa s.length sc∧Below w4.heap.size w4 wi∧iA wo.heap.size wi sa sc s) (fun _ tt _=>M-(intOf tt).toNat);case atStart=>exact⟨0,Y,ya,yc,gY _,rfl,Fg HY.out,rfl,bQ _ _,HY4.out⟩
   case round=>
    obtain⟨t,s,sa,sc,ht,rfl,hs,rfl,hBi,hso⟩:=hrel;have HS:=aA hs
    have HBi:=aA hBi;have HSO:=aA hso
    clear hs hso;by_cases htm:t<M
    ·have htl:(t:Int)<(M:Int):=by omega
     obtain⟨ob,off,rfl,hob,hocl⟩:=HO1.out.pos.resolve_left (by omega);have hB1i:=aB HB4.out hBi
     obtain⟨ca,cb⟩:=hocl t htm;have d0:=(hB1i.cell (p:=⟨ob,off+t*2,none⟩) hob).trans ca
     have d1:=(hB1i.cell (p:=⟨ob,off+t*2+1,none⟩) hob).trans cb;obtain⟨rb,roff,era,hrb,hrcl⟩:=(HO1.out.r t htm).2.2.1.resolve_left (by omega);obtain⟨QJ,hQJ⟩:∃QJ,Q t j=QJ:=⟨_,rfl⟩
     have cr:wr.cell? ⟨rb,roff+j,none⟩=some (.slice (rad t j) QJ.length (rcp t j)):=(hB1i.cell (p:=⟨rb,roff+j,none⟩) hrb).trans (by rw[←hQJ];exact hrcl j hlt);rw[era]at d1;obtain⟨bx,hbx⟩:∃bx,bx=wr.heap.size:=⟨_,rfl⟩
     have bX:=aB (aC wr (.cells #[.slice (qa t) (qs t).length (qc t),.slice (some ⟨rb,roff,none⟩) g (rc t)] 176)) (bQ _ _).drew;have HS0:Hid (JB (wr.alloc (.cells #[.slice (qa t) (qs t).length (qc t),.slice (some ⟨rb,roff,none⟩) g (rc t)] 176)).drew wr.heap.size (.slice (qa t) (qs t).length (qc t)) (.slice (some ⟨rb,roff,none⟩) g (rc t)) rb (roff+j) (.slice (rad t j) QJ.length (rcp t j))):=⟨(EK wr 176 _ _).1,(EK wr 176 _ _).2,(bX.cell (p:=⟨rb,roff+j,none⟩) (cE wr _ cr)).trans cr⟩
     have HBX:=aA (aB hBi bX);have HB1X:=aA (aB hB1i bX)
     have RQ:=aA (((HO1.out.q t htm).below hB1i).below bX);have RR:Hid (RL (wr.alloc (.cells #[.slice (qa t) (qs t).length (qc t),.slice (some ⟨rb,roff,none⟩) g (rc t)] 176)).drew (rad t j) (rcp t j) QJ):=by rw[←hQJ];exact(((HO1.out.r t htm).2.2.2 j hlt).below hB1i).below bX
     have HS5:Hid (iA wo.heap.size (wr.alloc (.cells #[.slice (qa t) (qs t).length (qc t),.slice (some ⟨rb,roff,none⟩) g (rc t)] 176)).drew sa sc s):=HSO.out.below bX;obtain⟨Y1,o1,hY1⟩:∃Y b,mA (qs t) QJ=(Y,b):=⟨_,_,rfl⟩
     obtain⟨Z1,o2,hZ1⟩:∃Z b,tS s Y1=(Z,b):=⟨_,_,rfl⟩
     have hc1:=Av RQ.out RR.out;rw[hY1]at hc1;have HC1:=aA hc1
     have HC2:Hid (∀(W:World) (ya:Option Addr) (yc:Nat),RL W sa sc s→RL W ya yc Y1→Calls Tryz.prog 101 #[.slice sa s.length sc,.slice ya Y1.length yc] W fun r w'=>∃a' c',r= .returned (.tuple #[.slice a' Z1.length c',.bool o2])∧Below W.heap.size W w'∧iA W.heap.size w' a' c' Z1):=fun W ya yc h1 h2=>by have:=Dg h1 h2;rw[hZ1]at this;exact this
     have hY2:mA (qs t) (Q t j)=(Y1,o1):=by rw[hQJ];exact hY1
     have HY1:=aA hY2;have HZ1:=aA hZ1
     have hsx:wo.heap.size≤wr.heap.size:=by have:=HBr4.out.size;have:=hBi.size;omega
     clear hrcl hocl hQJ hY1 hY2 hZ1 hc1 ca cb hB1i bX hBi cr;subst hbx;cases o1
     ·have hEn:E=none:=by
       rw[←HE.out];refine nD (i:=j) ?_ g hlt;have:=tJ (t:=t+1) ((yM HS.out).trans (Fh HY1.out)) (M-(t+1))
       rwa[show t+1+(M-(t+1))=M by omega]at this
      subst hEn;go_wp2_with fail;have hS:=HS0.out
      refine wp_region_held_drew (S:=(fun x=>JB x wr.heap.size (.slice (qa t) (qs t).length (qc t)) (.slice (some ⟨rb,roff,none⟩) g (rc t)) rb (roff+j) (.slice (rad t j) QJ.length (rcp t j)))) (by kernel_rfl) (hS) (fun hHeld=>?_);refine wpAnyH_take (i:=0) (v:=?_) rfl (by kernel_rfl) (by kernel_rfl) (by kernel_rfl) (fun _ _ _ h=>h) (Or.inl ⟨by rfl,?_⟩) (by assumption) ?_;rotate_left
      ·(intro w9 hSw;(try dsimp only at hSw);go_simp)<;>with_reducible rfl
      try simp only[Act.put,cJ]
      refine wpAnyH_take (i:=1) (v:=?_) rfl (by kernel_rfl) (by kernel_rfl) (by kernel_rfl) (fun _ _ _ h=>h) (Or.inl ⟨by rfl,?_⟩) (by assumption) ?_;rotate_left
      ·(intro w9 hSw;(try dsimp only at hSw);go_simp)<;>with_reducible rfl
      try simp only[Act.put,cJ]
      refine wpAnyH_take (i:=2) (v:=?_) rfl (by kernel_rfl) (by kernel_rfl) (by kernel_rfl) (fun _ _ _ h=>h) (Or.inl ⟨by rfl,?_⟩) (by assumption) ?_;rotate_left
      ·(intro w9 hSw;(try dsimp only at hSw);go_simp)<;>with_reducible rfl
      try simp only[Act.put,cJ]
      refine wpAnyH_take (i:=3) (v:=?_) rfl (by kernel_rfl) (by kernel_rfl) (by kernel_rfl) (fun _ _ _ h=>h) (Or.inl ⟨by rfl,?_⟩) (by assumption) ?_;rotate_left
      ·(intro w9 hSw;(try dsimp only at hSw);go_simp)<;>with_reducible rfl
      try simp only[Act.put,cJ]
      refine wpAnyH_take (i:=4) (v:=?_) rfl (by kernel_rfl) (by kernel_rfl) (by kernel_rfl) (fun _ _ _ h=>h) (Or.inl ⟨by rfl,?_⟩) (by assumption) ?_;rotate_left
      ·(intro w9 hSw;(try dsimp only at hSw);go_simp)<;>with_reducible rfl
      try simp only[Act.put,cJ]
      refine wpAnyH_take (i:=5) (v:=?_) rfl (by kernel_rfl) (by kernel_rfl) (by kernel_rfl) (fun _ _ _ h=>h) (Or.inl ⟨by rfl,?_⟩) (by assumption) ?_;rotate_left
      ·(intro w9 hSw;(try dsimp only at hSw);go_simp)<;>with_reducible rfl
      try simp only[Act.put,cJ]
      refine wpAnyH_take (i:=6) (v:=?_) rfl (by kernel_rfl) (by kernel_rfl) (by kernel_rfl) (fun _ _ _ h=>h) (Or.inl ⟨by rfl,?_⟩) (by assumption) ?_;rotate_left
      ·(intro w9 hSw;(try dsimp only at hSw);go_simp)<;>with_reducible rfl
      try simp only[Act.put,cJ]
      refine wpAnyH_take (i:=7) (v:=?_) rfl (by kernel_rfl) (by kernel_rfl) (by kernel_rfl) (fun _ _ _ h=>h) (Or.inl ⟨by rfl,?_⟩) (by assumption) ?_;rotate_left
      ·(intro w9 hSw;(try dsimp only at hSw);go_simp)<;>with_reducible rfl
      try simp only[Act.put,cJ]
      refine wpAnyH_ready (rs:=[8]) (by kernel_rfl) (by simp) ?_;refine AllReadyH.cons rfl (fun K hK=>?_) AllReadyH.nil;go_simp;go_wp2_with (go_at_call 50;refine HC1.out.mono ?_;rintro e w5 ⟨ya,yc,rfl,b5,hy⟩);refine hK.out _ _ (by exact JB.below hS b5) (fun hHeld2=>?_);clear hK K hHeld;have hHeld:=hHeld2
      clear hHeld2;try simp only[Act.put,cJ]
      refine wpAnyH_take (i:=9) (v:=?_) rfl (by kernel_rfl) (by kernel_rfl) (by kernel_rfl) (fun _ _ _ h=>h) (Or.inl ⟨by rfl,?_⟩) (by assumption) ?_;rotate_left
      ·(intro w9 hSw;(try dsimp only at hSw);go_simp)<;>with_reducible rfl
      try simp only[Act.put,cJ]
      refine wpAnyH_take (i:=10) (v:=?_) rfl (by kernel_rfl) (by kernel_rfl) (by kernel_rfl) (fun _ _ _ h=>h) (Or.inl ⟨by rfl,?_⟩) (by assumption) ?_;rotate_left
      ·(intro w9 hSw;(try dsimp only at hSw);go_simp)<;>with_reducible rfl
      try simp only[Act.put,cJ]
      refine wpAnyH_ready (rs:=[11]) (by kernel_rfl) (by simp) ?_;refine AllReadyH.cons rfl (fun K hK=>?_) AllReadyH.nil;go_simp;go_wp2_with (go_at_call 48;refine(bC _ _).mono ?_;rintro e wn ⟨rfl,hwn⟩;obtain rfl:=hwn.symm;clear hwn);exact⟨rfl,HB1.out.trans ((aB HB1X.out b5).mono (Nat.le_of_lt hs1)),.inr ⟨rfl,rfl⟩⟩
     cases o2
     ·have hEn:E=none:=by
       rw[←HE.out];refine nD (i:=j) ?_ g hlt;have:=tJ (t:=t+1) ((yM HS.out).trans (Fi HY1.out HZ1.out)) (M-(t+1))
       rwa[show t+1+(M-(t+1))=M by omega]at this
      subst hEn;go_wp2_with fail;have hS:=HS0.out
      refine wp_region_held_drew (S:=(fun x=>JB x wr.heap.size (.slice (qa t) (qs t).length (qc t)) (.slice (some ⟨rb,roff,none⟩) g (rc t)) rb (roff+j) (.slice (rad t j) QJ.length (rcp t j)))) (by kernel_rfl) (hS) (fun hHeld=>?_);refine wpAnyH_take (i:=0) (v:=?_) rfl (by kernel_rfl) (by kernel_rfl) (by kernel_rfl) (fun _ _ _ h=>h) (Or.inl ⟨by rfl,?_⟩) (by assumption) ?_;rotate_left
      ·(intro w9 hSw;(try dsimp only at hSw);go_simp)<;>with_reducible rfl
      try simp only[Act.put,cJ]
      refine wpAnyH_take (i:=1) (v:=?_) rfl (by kernel_rfl) (by kernel_rfl) (by kernel_rfl) (fun _ _ _ h=>h) (Or.inl ⟨by rfl,?_⟩) (by assumption) ?_;rotate_left
      ·(intro w9 hSw;(try dsimp only at hSw);go_simp)<;>with_reducible rfl
      try simp only[Act.put,cJ]
      refine wpAnyH_take (i:=2) (v:=?_) rfl (by kernel_rfl) (by kernel_rfl) (by kernel_rfl) (fun _ _ _ h=>h) (Or.inl ⟨by rfl,?_⟩) (by assumption) ?_;rotate_left
      ·(intro w9 hSw;(try dsimp only at hSw);go_simp)<;>with_reducible rfl
      try simp only[Act.put,cJ]
      refine wpAnyH_take (i:=3) (v:=?_) rfl (by kernel_rfl) (by kernel_rfl) (by kernel_rfl) (fun _ _ _ h=>h) (Or.inl ⟨by rfl,?_⟩) (by assumption) ?_;rotate_left
      ·(intro w9 hSw;(try dsimp only at hSw);go_simp)<;>with_reducible rfl
      try simp only[Act.put,cJ]
      refine wpAnyH_take (i:=4) (v:=?_) rfl (by kernel_rfl) (by kernel_rfl) (by kernel_rfl) (fun _ _ _ h=>h) (Or.inl ⟨by rfl,?_⟩) (by assumption) ?_;rotate_left
      ·(intro w9 hSw;(try dsimp only at hSw);go_simp)<;>with_reducible rfl
      try simp only[Act.put,cJ]
      refine wpAnyH_take (i:=5) (v:=?_) rfl (by kernel_rfl) (by kernel_rfl) (by kernel_rfl) (fun _ _ _ h=>h) (Or.inl ⟨by rfl,?_⟩) (by assumption) ?_;rotate_left
      ·(intro w9 hSw;(try dsimp only at hSw);go_simp)<;>with_reducible rfl
      try simp only[Act.put,cJ]
      refine wpAnyH_take (i:=6) (v:=?_) rfl (by kernel_rfl) (by kernel_rfl) (by kernel_rfl) (fun _ _ _ h=>h) (Or.inl ⟨by rfl,?_⟩) (by assumption) ?_;rotate_left
      ·(intro w9 hSw;(try dsimp only at hSw);go_simp)<;>with_reducible rfl
      try simp only[Act.put,cJ]
      refine wpAnyH_take (i:=7) (v:=?_) rfl (by kernel_rfl) (by kernel_rfl) (by kernel_rfl) (fun _ _ _ h=>h) (Or.inl ⟨by rfl,?_⟩) (by assumption) ?_;rotate_left
      ·(intro w9 hSw;(try dsimp only at hSw);go_simp)<;>with_reducible rfl
      try simp only[Act.put,cJ]
      refine wpAnyH_ready (rs:=[8]) (by kernel_rfl) (by simp) ?_;refine AllReadyH.cons rfl (fun K hK=>?_) AllReadyH.nil;go_simp;go_wp2_with (go_at_call 50;refine HC1.out.mono ?_;rintro e w5 ⟨ya,yc,rfl,b5,hy⟩);refine hK.out _ _ (by exact JB.below hS b5) (fun hHeld2=>?_);clear hK K hHeld;have hHeld:=hHeld2
      clear hHeld2;try simp only[Act.put,cJ]
      refine wpAnyH_take (i:=9) (v:=?_) rfl (by kernel_rfl) (by kernel_rfl) (by kernel_rfl) (fun _ _ _ h=>h) (Or.inl ⟨by rfl,?_⟩) (by assumption) ?_;rotate_left
      ·(intro w9 hSw;(try dsimp only at hSw);go_simp)<;>with_reducible rfl
      try simp only[Act.put,cJ]
      refine wpAnyH_take (i:=10) (v:=?_) rfl (by kernel_rfl) (by kernel_rfl) (by kernel_rfl) (fun _ _ _ h=>h) (Or.inl ⟨by rfl,?_⟩) (by assumption) ?_;rotate_left
      ·(intro w9 hSw;(try dsimp only at hSw);go_simp)<;>with_reducible rfl
      try simp only[Act.put,cJ]
      refine wpAnyH_ready (rs:=[11]) (by kernel_rfl) (by simp) ?_;refine AllReadyH.cons rfl (fun K hK=>?_) AllReadyH.nil;go_simp;go_wp2_with (go_at_call 48;refine(cD _ _).mono ?_;rintro e wn ⟨rfl,hwn⟩;obtain rfl:=hwn.symm;clear hwn);refine hK.out _ _ (by exact JB.below hS b5) (fun hHeld2=>?_);clear hK K hHeld;have hHeld:=hHeld2
      clear hHeld2;try simp only[Act.put,cJ]
      refine wpAnyH_ready (rs:=[12]) (by kernel_rfl) (by simp) ?_;refine AllReadyH.cons rfl (fun K hK=>?_) AllReadyH.nil;go_simp;go_wp2_with (go_at_call 101;refine(HC2.out w5 ya yc (HS5.out.below b5).1 hy.1).mono ?_;rintro e w6 ⟨za,zc,rfl,b6,hz⟩);refine hK.out _ _ (by exact JB.below (JB.below hS b5) b6) (fun hHeld2=>?_);clear hK K hHeld;have hHeld:=hHeld2
      clear hHeld2;try simp only[Act.put,cJ]
      refine wpAnyH_take (i:=13) (v:=?_) rfl (by kernel_rfl) (by kernel_rfl) (by kernel_rfl) (fun _ _ _ h=>h) (Or.inl ⟨by rfl,?_⟩) (by assumption) ?_;rotate_left
      ·(intro w9 hSw;(try dsimp only at hSw);go_simp)<;>with_reducible rfl
      try simp only[Act.put,cJ]
      refine wpAnyH_take (i:=14) (v:=?_) rfl (by kernel_rfl) (by kernel_rfl) (by kernel_rfl) (fun _ _ _ h=>h) (Or.inl ⟨by rfl,?_⟩) (by assumption) ?_;rotate_left
      ·(intro w9 hSw;(try dsimp only at hSw);go_simp)<;>with_reducible rfl
      try simp only[Act.put,cJ]
      refine wpAnyH_ready (rs:=[15]) (by kernel_rfl) (by simp) ?_;refine AllReadyH.cons rfl (fun K hK=>?_) AllReadyH.nil;go_simp;go_wp2_with (go_at_call 48;refine(bC _ _).mono ?_;rintro e wn ⟨rfl,hwn⟩;obtain rfl:=hwn.symm;clear hwn);exact⟨rfl,HB1.out.trans ((aB (aB HB1X.out b5) b6).mono (Nat.le_of_lt hs1)),.inr ⟨rfl,rfl⟩⟩
     have HN:=aA ((yM HS.out).trans (Fj HY1.out HZ1.out));go_wp2_with fail;have hS:=HS0.out
     go_region_held3 (fun x=>JB x wr.heap.size (.slice (qa t) (qs t).length (qc t)) (.slice (some ⟨rb,roff,none⟩) g (rc t)) rb (roff+j) (.slice (rad t j) QJ.length (rcp t j))) (first|with_reducible exact hS|with_reducible exact JB.below (JB.below hS b5) b6|with_reducible exact JB.below hS b5) (first|(go_at_call 50;refine HC1.out.mono ?_;rintro e w5 ⟨ya5,yc5,rfl,b5,hy5⟩)|(go_at_call 48;refine(cD _ _).mono ?_;rintro e wn ⟨rfl,hwn⟩;obtain rfl:=hwn.symm;clear hwn)|(go_at_call 101;refine(HC2.out w5 ya5 yc5 (HS5.out.below b5).1 hy5.1).mono ?_;rintro e w6 ⟨za6,zc6,rfl,b6,hz6⟩))
     have hBx6:=aB (aB HBX.out b5) b6;have HBX6:=aA hBx6
     have h6:wr.heap.size≤(wr.alloc (.cells #[.slice (qa t) (qs t).length (qc t),.slice (some ⟨rb,roff,none⟩) g (rc t)] 176)).drew.heap.size:=by simp
     have h5:=b5.size;have hO6:iA wo.heap.size w6 za6 zc6 Z1:=hz6.low (by omega)
     clear h6 h5;have HO6:=aA hO6
     clear hS b5 b6 hy5 hz6 hBx6 hO6;go_wp2;go_roundw;case rel=>exact⟨t+1,Z1,za6,zc6,by omega,by go_num,HN.out,rfl,HBX6.out,HO6.out⟩
     case measure=>simp[intOf];omega
    ·have htl:¬(t:Int)<(M:Int):=by omega
     have hte:t=M:=by omega
     subst hte;have HXN:=aA (uZ HX.out HS.out)
     have hBw:Below wo.heap.size wo wr:=aB HBr4.out hBi;have hAX:mI w1.heap.size wr (cT X j s) j u5 ad cp B:=(HA.out.below hBw).congr (fun i hi=>(if_neg (by omega)).symm)
     have hA6X:mI w1.heap.size wo (cT X j s) j u5 ad cp B:=HA.out.congr (fun i hi=>(if_neg (by omega)).symm);have hYj:cT X j s j=s:=if_pos rfl
     have HRND:Hid (∀(g0 cap0:Nat) (w5:World),w5.ownsRow w1.heap.size 35 1 (.slice (some ⟨g0,0,none⟩) (j+1) cap0) (j+1) (AB ad (fun i=>(cT X j s i).length) cp j++[.slice sa s.length sc])→(wr.alloc (.cells #[.slice sa s.length sc] 35)).grownBy w5 u5.ownBlock→(u5.ownBlock=some g0∨g0=(wr.alloc (.cells #[.slice sa s.length sc] 35)).heap.size)→g0<w5.heap.size→∃ad' cp' B',mI w1.heap.size w5 (cT X j s) (j+1) (.slice (some ⟨g0,0,none⟩) (j+1) cap0) ad' cp' B'):=fun g0 cap0 w5 h1 h2 h3 h4=>by
      refine mI.more hA6X hAX (a:=sa) (c:=sc) (by rw[hYj];exact HSO.out) ?_ ?_ ?_ h4
      ·rw[hYj];exact h2
      ·rw[hYj];exact h1
      ·rw[hYj];exact h3
     have HAX:=aA hAX;have HBW:=aA (aB HB4.out hBi)
     have hsw:w1.heap.size≤wr.heap.size:=HBW.out.size;clear hAX hA6X hYj hBw hBi;go_wp2_with (at_builtin;refine wpList_append_lies _ rfl (.tmp 49) (.tmp 51) 23 rfl w1.heap.size 35 i0 _ 1 24 Tryz.underlying23 hi0 hz0 hz1 hz2 rfl (by omega) _ j (AB ad (fun i=>(cT X j s i).length) cp j) rfl (HAX.out.row.alloc _) ⟨wr.heap.size,0,none⟩ 1 1 [.slice sa s.length sc] rfl rfl (World.news_of_block (heap_alloc_new wr _)) (iL _ _ _) (by omega) hmax (by omega) (by simp;omega) _ rfl ?_;intro g1 cap1 w8 hown2 hgrow2 hat2 hlt2;have HRR:=aA (HRND.out g1 cap1 w8 hown2 hgrow2 hat2 hlt2);have HB8:=aA ((HBW.out.alloc HBW.out.size _).grown hgrow2 (by simp;omega) (fun k e=>(HAX.out.row.lt k e).1));clear hown2 hgrow2 hat2 hlt2);obtain⟨ad',cp',B',hA8⟩:=HRR.out;go_roundw;case rel=>exact⟨j+1,cT X j s,ad',cp',B',by omega,by go_num,HXN.out,HB8.out,hA8⟩
     case measure=>simp[intOf];omega
  ·have hjn:¬(j:Int)<(g:Int):=by omega
   have hje:j=g:=by omega
   subst hje;have hEs:E=some X:=by rw[←HE.out];exact HX.out
   subst hEs;obtain⟨qa',qc',Rb,etv,hO⟩:=HA.out.out (by omega);subst etv;have HOO:=aA hO
   clear hB hA hO;go_wp2;go_ret;exact⟨HB1.out.trans (HB.out.mono (Nat.le_of_lt hs1)),.inl ⟨X,qa',qc',ad,cp,w1.heap.size,Rb,B,rfl,rfl,Nat.le_of_lt hs1,HOO.out⟩⟩
end Go.Proofs.YtmlaedpamobmhaaGreat
