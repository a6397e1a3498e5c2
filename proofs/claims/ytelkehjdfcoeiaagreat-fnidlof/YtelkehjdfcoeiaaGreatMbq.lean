/-
  A proof, column by column: the program's way is the model's.
-/
import Derived.Test.YtelkehjdfcoeiaaGreatMbp
set_option maxHeartbeats 16000000
set_option maxRecDepth 100000
namespace Go.Proofs.YtelkehjdfcoeiaaGreat
open Go.RowKit Go.Deep Go.Joins
set_option linter.unusedVariables false
def kL (f:Nat→Option (List T)):Nat→Option (Nat→List T)
 |0=>some (fun _=>[])
 |j+1=>match kL f j with
  |none=>none
  |some R=>match f j with
   |none=>none
   |some Y=>some (cY R j Y)
theorem xT {f:Nat→Option (List T)} {j:Nat} {R:Nat→List T} {Y:List T} (h:kL f j=some R) (hf:f j=some Y):kL f (j+1)=some (cY R j Y):=by
 show(match kL f j with|none=>none|some R=>match f j with|none=>none|some Y=>some (cY R j Y))=_;rw[h];show(match f j with|none=>none|some Y=>some (cY R j Y))=_
 rw[hf]
theorem SQ {f:Nat→Option (List T)} {j:Nat} (h:kL f j=none):kL f (j+1)=none:=by show(match kL f j with|none=>none|some R=>match f j with|none=>none|some Y=>some (cY R j Y))=_;rw[h]
theorem MN {f:Nat→Option (List T)} {j:Nat} (h:f j=none):kL f (j+1)=none:=by show(match kL f j with|none=>none|some R=>match f j with|none=>none|some Y=>some (cY R j Y))=_;rw[h];cases kL f j<;>rfl
theorem pO {f:Nat→Option (List T)} {i:Nat} (h:f i=none):∀g,i<g→kL f g=none
 |0,hi=>by omega
 |g+1,hi=>by
  by_cases e:i=g
  ·subst e;exact MN h
  ·exact SQ (pO h g (by omega))
theorem MO {f:Nat→Option (List T)}:∀g R,kL f g=some R→∀i,i<g→f i=some (R i)
 |0,R,_,i,hi=>by omega
 |g+1,R,h,i,hi=>by
  cases hr:kL f g with
  |none=>rw[SQ hr]at h;cases h
  |some R1=>
   cases hf:f g with
   |none=>rw[MN hf]at h;cases h
   |some Y=>
    rw[xT hr hf]at h;cases h;unfold cY;split
    ·rename_i e;rw[e];exact hf
    ·exact MO g R1 hr i (by omega)
theorem uH {f f':Nat→Option (List T)}:∀g,(∀i,i<g→f i=f' i)→kL f g=kL f' g
 |0,_=>rfl
 |g+1,h=>by
  show(match kL f g with|none=>none|some R=>match f g with|none=>none|some Y=>some (cY R g Y))=(match kL f' g with|none=>none|some R=>match f' g with|none=>none|some Y=>some (cY R g Y))
  rw[uH g (fun i hi=>h i (by omega)),h g (by omega)]
theorem xL (row:Nat→List T) (q:List T) (oth:Nat→List T):∀g,dB row q oth g=kL (fun i=>dT (row i) q (oth i)) g
 |0=>rfl
 |g+1=>by show(match dB row q oth g with|none=>none|some R=>match dT (row g) q (oth g)with|none=>none|some Y=>some (cY R g Y))=_;rw[xL row q oth g];rfl
theorem MQ (f:Nat→Option (List T)) (q:List T) (oth:Nat→List T) (g:Nat):(match kL f g with|none=>none|some R=>dB R q oth g)=kL (fun i=>(f i).bind (fun s=>dT s q (oth i))) g:=by
 cases hr:kL f g with
 |none=>
  show none=_;have:∃i,i<g∧f i=none:=by
   have key:∀g,(∀i,i<g→f i≠none)→kL f g≠none:=fun g=>by
    induction g with
    |zero=>intro _ h;cases h
    |succ g ih=>
     intro h;cases hg:kL f g with
     |none=>exact absurd hg (ih (fun i hi=>h i (by omega)))
     |some R=>
      cases hf:f g with
      |none=>exact absurd hf (h g (by omega))
      |some Y=>rw[xT hg hf];simp
   by_cases e:∃i,i<g∧f i=none
   ·exact e
   ·exact absurd hr (key g (fun i hi q=>e ⟨i,hi,q⟩))
  obtain⟨i,hi,e⟩:=this;exact(pO (by rw[e];rfl) g hi).symm
 |some R=>
  show dB R q oth g=_;rw[xL];exact uH g fun i hi=>by rw[MO g R hr i hi];rfl
def JQ (P:Nat→Nat→List T) (i k:Nat) (u v:T) (q:Nat→List T) (j:Nat):Nat→Option (List T)
 |0=>(dT [] [fF u] (P i j)).bind (fun s=>dT s [v] (P k j))
 |t+1=>(JQ P i k u v q j t).bind (fun s=>dT s (q t) (P t j))
theorem ER {g:Nat} {P:Nat→Nat→List T} {i k:Nat} {u v:T} {q:Nat→List T}:∀t,jW g P q (gW g P i k u v) t=kL (fun j=>JQ P i k u v q j t) g
 |0=>by
  show gW g P i k u v=_;have e:gW g P i k u v=(match kL (fun j=>dT [] [fF u] (P i j)) g with|none=>none|some R=>dB R [v] (P k) g):=by unfold gW;rw[xL];rfl
  rw[e,MQ];rfl
 |t+1=>by show(match jW g P q (gW g P i k u v) t with|none=>none|some R=>dB R (q t) (P t) g)=_;rw[ER t,MQ];rfl
def JD (F X:List T):Option (List T):=match lO F X with
 |(Y,true)=>some Y
 |(_,false)=>none
def SG (s q X:List T):Option (List T):=match lO q X with
 |(Y,true)=>(match wK s Y with
  |(Z,true)=>some Z
  |(_,false)=>none)
 |(_,false)=>none
def SE (F:List T) (P0:Nat→List T) (qs:Nat→List T) (Q:Nat→Nat→List T) (j:Nat):Nat→Option (List T)
 |0=>JD F (P0 j)
 |t+1=>(SE F P0 qs Q j t).bind (fun s=>SG s (qs t) (Q t j))
theorem LR {s q X:List T} (hs:cF s=true) (hq:cF q=true) (hX:cF X=true):SG s q X=dT s q X:=by
 unfold SG dT lO bT;rw[if_pos ⟨hq,hX⟩];cases hm:cM (lf q) (lf X) X.length q.length with
 |none=>rfl
 |some Y=>
  have oY:=DG (TF hq hX hm);show(match wK s Y with|(Z,true)=>some Z|(_,false)=>none)=if(dC s Y).length≤400 then some (dC s Y)else none
  by_cases hl:(dC s Y).length≤400
  ·rw[IQ hs oY hl,if_pos hl]
  ·rw[if_neg hl];rcases xX s Y with e|⟨_,_,h3,_⟩
   ·rw[e]
   ·exact absurd h3 hl
theorem Ci {P:List T} (h:aL P):dC [] (iS 100 P)=P:=by
 have h1:=gR (c:=100) (by omega) (by omega) h;have h2:=cO eY h1
 refine mM h2.1 h (fun m _=>?_);have r:=cC h m
 rw[h2.2,uX,MT];omega
theorem Am {u:T} {X:List T} (hu:u.m.ok=true∧1≤u.c∧u.c≤100) (hX:cF X=true):JD [u] X=dT [] [fF u] X:=by
 have ou:=iX hu;have en:fF u=uI 100 u:=by unfold fF uI;congr 1;omega
 have hm:=zL (f:=lf [u]) (f2:=lf [fF u]) (la:=1) (c:=100) (by omega) (by omega) (cJ (show aO 1 (lf [u])=true from ou)).2 (cJ (show aO X.length (lf X)=true from hX)).2 (fun i hi=>by
  have e:i=0:=by omega
  subst e;show fF u=uI 100 u
  exact en) 1 (Nat.le_refl _)
 unfold JD dT lO bT;rw[if_pos ⟨ou,hX⟩];show(match kW (cM (lf [u]) (lf X) X.length 1)with|(Y,true)=>some Y|(_,false)=>none)=(match cM (lf [fF u]) (lf X) X.length 1 with|some P=>if(dC [] P).length≤400 then some (dC [] P)else none|none=>none)
 rw[hm];cases hk:cM (lf [u]) (lf X) X.length 1 with
 |none=>rfl
 |some Y=>
  have fY:=dK (cJ (show aO 1 (lf [u])=true from ou)).2 (cJ (show aO X.length (lf X)=true from hX)).2 1 Y (Nat.le_refl _) hk;show some Y=if(dC [] (iS 100 Y)).length≤400 then some (dC [] (iS 100 Y))else none
  rw[Ci fY,if_pos (gN _ Y hk)]
def LJ (v:T) (q:Nat→List T):Nat→List T
 |0=>[v]
 |t+1=>q t
def VN (P:Nat→Nat→List T) (k:Nat):Nat→Nat→List T
 |0=>P k
 |t+1=>P t
theorem XU {P:Nat→Nat→List T} {i k m g:Nat} {u v:T} {q:Nat→List T} (hi:i<m) (hk:k<m) (hP:∀i,i<m→∀j,j<g→cF (P i j)=true) (hu:cF [fF u]=true) (hv:cF [v]=true) (hq:∀t,t<m→cF (q t)=true) {j:Nat} (hj:j<g):∀t s,t≤m→JQ P i k u v q j t=some s→cF s=true
 |0,s,_,h=>by
  change (dT [] [fF u] (P i j)).bind (fun s=>dT s [v] (P k j))=some s at h;cases h1:dT [] [fF u] (P i j)with
  |none=>rw[h1]at h;cases h
  |some s1=>
   rw[h1]at h;exact rO (rO oH hu (hP i hi j hj) h1) hv (hP k hk j hj) h
 |t+1,s,ht,h=>by
  change (JQ P i k u v q j t).bind (fun s=>dT s (q t) (P t j))=some s at h;cases h1:JQ P i k u v q j t with
  |none=>rw[h1]at h;cases h
  |some s1=>
   rw[h1]at h;exact rO (XU hi hk hP hu hv hq hj t s1 (by omega) h1) (hq t (by omega)) (hP t (by omega) j hj) h
theorem SF {P:Nat→Nat→List T} {i k m g:Nat} {u v:T} {q:Nat→List T} (hi:i<m) (hk:k<m) (hP:∀i,i<m→∀j,j<g→cF (P i j)=true) (hu:u.m.ok=true∧1≤u.c∧u.c≤100) (hv:v.m.ok=true∧1≤v.c∧v.c≤100) (hq:∀t,t<m→cF (q t)=true) {j:Nat} (hj:j<g):∀t,t≤m→SE [u] (P i) (LJ v q) (VN P k) j (t+1)=JQ P i k u v q j t
 |0,_=>by
  have g1:=BO hu.2.1 hu.2.2;have hn:cF [fF u]=true:=iX ⟨hu.1,g1.1,g1.2⟩
  show(JD [u] (P i j)).bind (fun s=>SG s [v] (P k j))=(dT [] [fF u] (P i j)).bind (fun s=>dT s [v] (P k j));rw[Am hu (hP i hi j hj)];cases h1:dT [] [fF u] (P i j)with
  |none=>rfl
  |some s1=>exact LR (rO oH hn (hP i hi j hj) h1) (iX hv) (hP k hk j hj)
 |t+1,ht=>by
  have g1:=BO hu.2.1 hu.2.2;have hn:cF [fF u]=true:=iX ⟨hu.1,g1.1,g1.2⟩
  show(SE [u] (P i) (LJ v q) (VN P k) j (t+1)).bind (fun s=>SG s (q t) (P t j))=(JQ P i k u v q j t).bind (fun s=>dT s (q t) (P t j));rw[SF hi hk hP hu hv hq hj t (by omega)];cases h1:JQ P i k u v q j t with
  |none=>rfl
  |some s1=>exact LR (XU hi hk hP hn (iX hv) hq hj t s1 (by omega) h1) (hq t (by omega)) (hP t (by omega) j hj)
theorem Ga {P:Nat→Nat→List T} {i k m g:Nat} {u v:T} {q:Nat→List T} (hi:i<m) (hk:k<m) (hP:∀i,i<m→∀j,j<g→cF (P i j)=true) (hu:u.m.ok=true∧1≤u.c∧u.c≤100) (hv:v.m.ok=true∧1≤v.c∧v.c≤100) (hq:∀t,t<m→cF (q t)=true):kL (fun j=>SE [u] (P i) (LJ v q) (VN P k) j (m+1)) g=nH g P i k u v m q:=by unfold nH;rw[ER];exact uH g fun j hj=>SF hi hk hP hu hv hq hj m (Nat.le_refl _)
set_option linter.unusedSimpArgs false
structure JG (w:World) (oa:Option Addr) (M oc:Nat) (qa:Nat→Option Addr) (qc:Nat→Nat) (ra:Nat→Option Addr) (rc:Nat→Nat) (rad:Nat→Nat→Option Addr) (rcp:Nat→Nat→Nat) (g:Nat) (qs:Nat→List T) (Q:Nat→Nat→List T):Prop where
 cap:M≤oc
 len:M≤100
 pos:M=0∨∃b off,oa=some ⟨b,off,none⟩∧b<w.heap.size∧∀t,t<M→w.cell? ⟨b,off+t*2,none⟩=some (.slice (qa t) (qs t).length (qc t))∧w.cell? ⟨b,off+t*2+1,none⟩=some (.slice (ra t) g (rc t))
 q:∀t,t<M→RL w (qa t) (qc t) (qs t)
 r:∀t,t<M→eQ w (ra t) g (rc t) (rad t) (lN (Q t)) (rcp t) (fN (Q t))
theorem JG.below {w w':World} {oa:Option Addr} {M oc:Nat} {qa:Nat→Option Addr} {qc:Nat→Nat} {ra:Nat→Option Addr} {rc:Nat→Nat} {rad:Nat→Nat→Option Addr} {rcp:Nat→Nat→Nat} {g:Nat} {qs:Nat→List T} {Q:Nat→Nat→List T} (h:JG w oa M oc qa qc ra rc rad rcp g qs Q) (hb:Below w.heap.size w w'):JG w' oa M oc qa qc ra rc rad rcp g qs Q:=
 ⟨h.cap,h.len,h.pos.imp id (fun⟨b,off,e,hlt,hc⟩=>⟨b,off,e,lB hlt hb.size,fun t ht=>⟨(hb.cell (p:=⟨b,off+t*2,none⟩) hlt).trans (hc t ht).1,(hb.cell (p:=⟨b,off+t*2+1,none⟩) hlt).trans (hc t ht).2⟩⟩),fun t ht=>(h.q t ht).below hb,fun t ht=>(h.r t ht).below hb⟩
def Oo (w:World) (g:Nat) (E:Option (Nat→List T)) (r:Ending) (w':World):Prop:=
 Below w.heap.size w w'∧((∃R ra rc ad cp lo Rb B,E=some R∧r= .returned (.slice ra g rc)∧w.heap.size≤lo∧jY lo w' ra g rc ad (lN R) cp (fN R) Rb B)∨(E=none∧r= .panicked [{v:=gB,recovered:=false}]))
abbrev NW (u:World) (bx:Nat) (v0 v1:Value) (rb x:Nat) (v2:Value):Prop:=u.cell? ⟨bx,0,none⟩=some v0∧u.cell? ⟨bx,1,none⟩=some v1∧u.cell? ⟨rb,x,none⟩=some v2
theorem NW.below {u u':World} {bx:Nat} {v0 v1:Value} {rb x:Nat} {v2:Value} (h:NW u bx v0 v1 rb x v2) (hb:Below u.heap.size u u'):NW u' bx v0 v1 rb x v2:=
 ⟨(hb.cell (p:=⟨bx,0,none⟩) (dD u _ h.1)).trans h.1,(hb.cell (p:=⟨bx,1,none⟩) (dD u _ h.2.1)).trans h.2.1,(hb.cell (p:=⟨rb,x,none⟩) (dD u _ h.2.2)).trans h.2.2⟩
theorem JF (w:World) (y:TypeId) (v0 v1:Value):(w.alloc (.cells #[v0,v1] y)).cell? ⟨w.heap.size,0,none⟩=some v0∧(w.alloc (.cells #[v0,v1] y)).cell? ⟨w.heap.size,1,none⟩=some v1:=⟨by rw[World.cell?_alloc_at _ _ _ _ rfl];rfl,by rw[World.cell?_alloc_at _ _ _ _ rfl];rfl⟩
theorem BW {F:List T} {P0:Nat→List T} {qs:Nat→List T} {Q:Nat→Nat→List T} {j t:Nat} {s:List T} (h:SE F P0 qs Q j t=some s):SE F P0 qs Q j (t+1)=SG s (qs t) (Q t j):=by show(SE F P0 qs Q j t).bind (fun s=>SG s (qs t) (Q t j))=_;rw[h];rfl
theorem wA {F:List T} {P0:Nat→List T} {qs:Nat→List T} {Q:Nat→Nat→List T} {j t:Nat} (h:SE F P0 qs Q j t=none):∀d,SE F P0 qs Q j (t+d)=none
 |0=>h
 |d+1=>by show(SE F P0 qs Q j (t+d)).bind (fun s=>SG s (qs (t+d)) (Q (t+d) j))=none;rw[wA h d];rfl
theorem Mq {s q X Y:List T} (h:lO q X=(Y,false)):SG s q X=none:=by unfold SG;rw[h]
theorem Mr {s q X Y Z:List T} (h:lO q X=(Y,true)) (h2:wK s Y=(Z,false)):SG s q X=none:=by unfold SG;rw[h];simp only[h2]
theorem Ms {s q X Y Z:List T} (h:lO q X=(Y,true)) (h2:wK s Y=(Z,true)):SG s q X=some Z:=by unfold SG;rw[h];simp only[h2]
theorem Mo {F X Y:List T} (h:lO F X=(Y,false)):JD F X=none:=by unfold JD;rw[h]
theorem Mp {F X Y:List T} (h:lO F X=(Y,true)):JD F X=some Y:=by unfold JD;rw[h]
theorem In {w:World} {a b:Option Addr} {ca cb:Nat} {L K:List T} (ha:RL w a ca L) (hb:RL w b cb K):Calls Tryz.prog 28 #[.slice a L.length ca,.slice b K.length cb] w fun r w'=>∃a' c',r= .returned (.tuple #[.slice a' (lO L K).1.length c',.bool (lO L K).2])∧Below w.heap.size w w'∧jG w.heap.size w' a' c' (lO L K).1:=wQ w a b L.length ca K.length cb (lf L) (lf K) ha hb
theorem Kl {w:World} {a b:Option Addr} {ca cb:Nat} {L K:List T} (ha:RL w a ca L) (hb:RL w b cb K):Calls Tryz.prog 144 #[.slice a L.length ca,.slice b K.length cb] w fun r w'=>∃a' c',r= .returned (.tuple #[.slice a' (wK L K).1.length c',.bool (wK L K).2])∧Below w.heap.size w w'∧jG w.heap.size w' a' c' (wK L K).1:=SI w a b L.length ca K.length cb (lf L) (lf K) ha hb
theorem UN (w:World) (fa:Option Addr) (fc:Nat) (F:List T) (hF:RL w fa fc F) (ia:Option Addr) (g ic:Nat) (iad:Nat→Option Addr) (icp:Nat→Nat) (P0:Nat→List T) (hI:eQ w ia g ic iad (lN P0) icp (fN P0)) (hg:g≤12) (oa:Option Addr) (M oc:Nat) (qa:Nat→Option Addr) (qc:Nat→Nat) (ra:Nat→Option Addr) (rc:Nat→Nat) (rad:Nat→Nat→Option Addr) (rcp:Nat→Nat→Nat) (qs:Nat→List T) (Q:Nat→Nat→List T) (hO:JG w oa M oc qa qc ra rc rad rcp g qs Q) {E:Option (Nat→List T)} (hE:kL (fun j=>SE F P0 qs Q j M) g=E):Calls Tryz.prog 160 #[.agg #[.slice fa F.length fc,.slice ia g ic],.slice oa M oc] w (Oo w g E):=by
 obtain⟨i0,hi0,hz0,hz1,hz2⟩:=info_parts tT;have hgl:(g:Int)≤12:=by omega
 have hMl:(M:Int)≤100:=by have:=hO.len;omega
 obtain⟨w1,hw1⟩:∃w1,w.alloc (.cells #[.slice fa F.length fc,.slice ia g ic] 194)=w1:=⟨_,rfl⟩
 have b1:Below w.heap.size w w1:=by rw[←hw1];exact aC w _
 have HX1:Hid (w1.cell? ⟨w.heap.size,0,none⟩=some (.slice fa F.length fc)∧w1.cell? ⟨w.heap.size,1,none⟩=some (.slice ia g ic)):=by rw[←hw1];exact JF w 194 _ _
 have HB1:=aA b1;have HF1:=aA (hF.below b1)
 have HI1:=aA (hI.below b1);have HO1:=aA (hO.below b1)
 have HE:=aA hE;have hs1:w.heap.size<w1.heap.size:=dD w1 _ HX1.out.1
 obtain⟨k0,k1⟩:=HX1.out;clear hF hI hO hE b1;go_enter Tryz.func160,Tryz.ntmps160;go_wp2;clear hw1;go_loopw [5,14] (fun tv ii wr=>∃(j:Nat) (X:Nat→List T) (ad:Nat→Option Addr) (cp B:Nat→Nat),j≤g∧ii= .int .i64 (j:Int)∧kL (fun j=>SE F P0 qs Q j M) j=some X∧Below w1.heap.size w1 wr∧oJ w1.heap.size wr X j tv ad cp B) (fun _ ii _=>g-(intOf ii).toNat);case atStart=>exact⟨0,fun _=>[],_,_,_,Nat.zero_le _,rfl,rfl,bG _ _,oJ.start (Nat.le_refl _) _⟩
 case round=>
  obtain⟨j,X,ad,cp,B,hj,rfl,hX,hB,hA⟩:=hrel;obtain⟨wo,rfl⟩:∃x,x=wr:=⟨_,rfl⟩
  have HX:=aA hX;have HB:=aA hB
  have HA:=aA hA;clear hX k0 k1;by_cases hlt:j<g
  ·have hjl:(j:Int)<(g:Int):=by omega
   have hmax:j+1≤maxLen:=by unfold maxLen;omega
   obtain⟨ib,ioff,rfl,hib,hicl⟩:=HI1.out.2.2.1.resolve_left (by omega);obtain⟨PJ,hPJ⟩:∃PJ,P0 j=PJ:=⟨_,rfl⟩
   have cj:wo.cell? ⟨ib,ioff+j,none⟩=some (.slice (iad j) PJ.length (icp j)):=(hB.cell (p:=⟨ib,ioff+j,none⟩) hib).trans (by rw[←hPJ];exact hicl j hlt);have c0:wo.cell? ⟨w.heap.size,0,none⟩=some (.slice fa F.length fc):=(hB.cell (p:=⟨w.heap.size,0,none⟩) hs1).trans HX1.out.1
   have RJ:Hid (RL wo (iad j) (icp j) PJ):=by rw[←hPJ];exact(HI1.out.2.2.2 j hlt).below hB
   have RF:=aA (HF1.out.below hB);obtain⟨Y,o0,hY⟩:∃Y b,lO F PJ=(Y,b):=⟨_,_,rfl⟩
   have hc:=In RF.out RJ.out;rw[hY]at hc;have HC:=aA hc
   have hY':lO F (P0 j)=(Y,o0):=by rw[hPJ];exact hY
   have HY:=aA hY';have hsr:w1.heap.size≤wo.heap.size:=hB.size
   clear hicl hPJ hY hY' hc hB hA;go_wp2_with fail;refine HC.out.mono ?_;rintro e w4 ⟨ya,yc,rfl,b4,hy⟩;have HB4:=aA (aB HB.out b4)
   have HA4:=aA (HA.out.below b4);have HBr4:=aA b4
   have HY4:=aA hy;clear b4 hy HC cj c0;cases o0
   ·have hEn:E=none:=by
     rw[←HE.out];refine pO (i:=j) ?_ g hlt;have:=wA (qs:=qs) (Q:=Q) (j:=j) (t:=0) (Mo HY.out) M
     rwa[Nat.zero_add]at this
    subst hEn;go_wp2_with fail;refine(gE _ _).mono ?_;rintro e wn ⟨rfl,hwn⟩;obtain rfl:=hwn.symm;clear hwn;exact⟨rfl,HB1.out.trans (HB4.out.mono (Nat.le_of_lt hs1)),.inr ⟨rfl,rfl⟩⟩
   go_wp2_with fail;refine(iA _ _).mono ?_;rintro e wn ⟨rfl,hwn⟩;obtain rfl:=hwn.symm;clear hwn;go_wp2;go_loopw [8,28] (fun sv tt wi=>∃(t:Nat) (s:List T) (sa:Option Addr) (sc:Nat),t≤M∧tt= .int .i64 (t:Int)∧SE F P0 qs Q j t=some s∧sv= .slice sa s.length sc∧Below w4.heap.size w4 wi∧jG wo.heap.size wi sa sc s) (fun _ tt _=>M-(intOf tt).toNat);case atStart=>exact⟨0,Y,ya,yc,Nat.zero_le _,rfl,Mp HY.out,rfl,bG _ _,HY4.out⟩
   case round=>
    obtain⟨t,s,sa,sc,ht,rfl,hs,rfl,hBi,hso⟩:=hrel;have HS:=aA hs
    have HBi:=aA hBi;have HSO:=aA hso
    clear hs hso;by_cases htm:t<M
    ·have htl:(t:Int)<(M:Int):=by omega
     obtain⟨ob,off,rfl,hob,hocl⟩:=HO1.out.pos.resolve_left (by omega);have hB1i:=aB HB4.out hBi
     obtain⟨ca,cb⟩:=hocl t htm;have d0:=(hB1i.cell (p:=⟨ob,off+t*2,none⟩) hob).trans ca
     have d1:=(hB1i.cell (p:=⟨ob,off+t*2+1,none⟩) hob).trans cb;obtain⟨rb,roff,era,hrb,hrcl⟩:=(HO1.out.r t htm).2.2.1.resolve_left (by omega);obtain⟨QJ,hQJ⟩:∃QJ,Q t j=QJ:=⟨_,rfl⟩
     have cr:wr.cell? ⟨rb,roff+j,none⟩=some (.slice (rad t j) QJ.length (rcp t j)):=(hB1i.cell (p:=⟨rb,roff+j,none⟩) hrb).trans (by rw[←hQJ];exact hrcl j hlt);rw[era]at d1;obtain⟨bx,hbx⟩:∃bx,bx=wr.heap.size:=⟨_,rfl⟩
     have bX:=aB (aC wr (.cells #[.slice (qa t) (qs t).length (qc t),.slice (some ⟨rb,roff,none⟩) g (rc t)] 194)) (bG _ _).drew;have HS0:Hid (NW (wr.alloc (.cells #[.slice (qa t) (qs t).length (qc t),.slice (some ⟨rb,roff,none⟩) g (rc t)] 194)).drew wr.heap.size (.slice (qa t) (qs t).length (qc t)) (.slice (some ⟨rb,roff,none⟩) g (rc t)) rb (roff+j) (.slice (rad t j) QJ.length (rcp t j))):=⟨(JF wr 194 _ _).1,(JF wr 194 _ _).2,(bX.cell (p:=⟨rb,roff+j,none⟩) (dD wr _ cr)).trans cr⟩
     have HBX:=aA (aB hBi bX);have HB1X:=aA (aB hB1i bX)
     have RQ:=aA (((HO1.out.q t htm).below hB1i).below bX);have RR:Hid (RL (wr.alloc (.cells #[.slice (qa t) (qs t).length (qc t),.slice (some ⟨rb,roff,none⟩) g (rc t)] 194)).drew (rad t j) (rcp t j) QJ):=by rw[←hQJ];exact(((HO1.out.r t htm).2.2.2 j hlt).below hB1i).below bX
     have HS5:Hid (jG wo.heap.size (wr.alloc (.cells #[.slice (qa t) (qs t).length (qc t),.slice (some ⟨rb,roff,none⟩) g (rc t)] 194)).drew sa sc s):=HSO.out.below bX;obtain⟨Y1,o1,hY1⟩:∃Y b,lO (qs t) QJ=(Y,b):=⟨_,_,rfl⟩
     obtain⟨Z1,o2,hZ1⟩:∃Z b,wK s Y1=(Z,b):=⟨_,_,rfl⟩
     have hc1:=In RQ.out RR.out;rw[hY1]at hc1;have HC1:=aA hc1
     have HC2:Hid (∀(W:World) (ya:Option Addr) (yc:Nat),RL W sa sc s→RL W ya yc Y1→Calls Tryz.prog 144 #[.slice sa s.length sc,.slice ya Y1.length yc] W fun r w'=>∃a' c',r= .returned (.tuple #[.slice a' Z1.length c',.bool o2])∧Below W.heap.size W w'∧jG W.heap.size w' a' c' Z1):=fun W ya yc h1 h2=>by have:=Kl h1 h2;rw[hZ1]at this;exact this
     have hY2:lO (qs t) (Q t j)=(Y1,o1):=by rw[hQJ];exact hY1
     have HY1:=aA hY2;have HZ1:=aA hZ1
     have hsx:wo.heap.size≤wr.heap.size:=by have:=HBr4.out.size;have:=hBi.size;omega
     clear hrcl hocl hQJ hY1 hY2 hZ1 hc1 ca cb hB1i bX hBi cr;subst hbx;cases o1
     ·have hEn:E=none:=by
       rw[←HE.out];refine pO (i:=j) ?_ g hlt;have:=wA (t:=t+1) ((BW HS.out).trans (Mq HY1.out)) (M-(t+1))
       rwa[show t+1+(M-(t+1))=M by omega]at this
      subst hEn;go_wp2_with fail;have hS:=HS0.out
      refine wp_region_held_drew (S:=(fun x=>NW x wr.heap.size (.slice (qa t) (qs t).length (qc t)) (.slice (some ⟨rb,roff,none⟩) g (rc t)) rb (roff+j) (.slice (rad t j) QJ.length (rcp t j)))) (by kernel_rfl) (hS) (fun hHeld=>?_);refine wpAnyH_take (i:=0) (v:=?_) rfl (by kernel_rfl) (by kernel_rfl) (by kernel_rfl) (fun _ _ _ h=>h) (Or.inl ⟨by rfl,?_⟩) (by assumption) ?_;rotate_left
      ·(intro w9 hSw;(try dsimp only at hSw);go_simp)<;>with_reducible rfl
      try simp only[Act.put,gF]
      refine wpAnyH_take (i:=1) (v:=?_) rfl (by kernel_rfl) (by kernel_rfl) (by kernel_rfl) (fun _ _ _ h=>h) (Or.inl ⟨by rfl,?_⟩) (by assumption) ?_;rotate_left
      ·(intro w9 hSw;(try dsimp only at hSw);go_simp)<;>with_reducible rfl
      try simp only[Act.put,gF]
      refine wpAnyH_take (i:=2) (v:=?_) rfl (by kernel_rfl) (by kernel_rfl) (by kernel_rfl) (fun _ _ _ h=>h) (Or.inl ⟨by rfl,?_⟩) (by assumption) ?_;rotate_left
      ·(intro w9 hSw;(try dsimp only at hSw);go_simp)<;>with_reducible rfl
      try simp only[Act.put,gF]
      refine wpAnyH_take (i:=3) (v:=?_) rfl (by kernel_rfl) (by kernel_rfl) (by kernel_rfl) (fun _ _ _ h=>h) (Or.inl ⟨by rfl,?_⟩) (by assumption) ?_;rotate_left
      ·(intro w9 hSw;(try dsimp only at hSw);go_simp)<;>with_reducible rfl
      try simp only[Act.put,gF]
      refine wpAnyH_take (i:=4) (v:=?_) rfl (by kernel_rfl) (by kernel_rfl) (by kernel_rfl) (fun _ _ _ h=>h) (Or.inl ⟨by rfl,?_⟩) (by assumption) ?_;rotate_left
      ·(intro w9 hSw;(try dsimp only at hSw);go_simp)<;>with_reducible rfl
      try simp only[Act.put,gF]
      refine wpAnyH_take (i:=5) (v:=?_) rfl (by kernel_rfl) (by kernel_rfl) (by kernel_rfl) (fun _ _ _ h=>h) (Or.inl ⟨by rfl,?_⟩) (by assumption) ?_;rotate_left
      ·(intro w9 hSw;(try dsimp only at hSw);go_simp)<;>with_reducible rfl
      try simp only[Act.put,gF]
      refine wpAnyH_take (i:=6) (v:=?_) rfl (by kernel_rfl) (by kernel_rfl) (by kernel_rfl) (fun _ _ _ h=>h) (Or.inl ⟨by rfl,?_⟩) (by assumption) ?_;rotate_left
      ·(intro w9 hSw;(try dsimp only at hSw);go_simp)<;>with_reducible rfl
      try simp only[Act.put,gF]
      refine wpAnyH_take (i:=7) (v:=?_) rfl (by kernel_rfl) (by kernel_rfl) (by kernel_rfl) (fun _ _ _ h=>h) (Or.inl ⟨by rfl,?_⟩) (by assumption) ?_;rotate_left
      ·(intro w9 hSw;(try dsimp only at hSw);go_simp)<;>with_reducible rfl
      try simp only[Act.put,gF]
      refine wpAnyH_ready (rs:=[8]) (by kernel_rfl) (by simp) ?_;refine AllReadyH.cons rfl (fun K hK=>?_) AllReadyH.nil;go_simp;go_wp2_with (go_at_call 28;refine HC1.out.mono ?_;rintro e w5 ⟨ya,yc,rfl,b5,hy⟩);refine hK.out _ _ (by exact NW.below hS b5) (fun hHeld2=>?_);clear hK K hHeld;have hHeld:=hHeld2
      clear hHeld2;try simp only[Act.put,gF]
      refine wpAnyH_take (i:=9) (v:=?_) rfl (by kernel_rfl) (by kernel_rfl) (by kernel_rfl) (fun _ _ _ h=>h) (Or.inl ⟨by rfl,?_⟩) (by assumption) ?_;rotate_left
      ·(intro w9 hSw;(try dsimp only at hSw);go_simp)<;>with_reducible rfl
      try simp only[Act.put,gF]
      refine wpAnyH_take (i:=10) (v:=?_) rfl (by kernel_rfl) (by kernel_rfl) (by kernel_rfl) (fun _ _ _ h=>h) (Or.inl ⟨by rfl,?_⟩) (by assumption) ?_;rotate_left
      ·(intro w9 hSw;(try dsimp only at hSw);go_simp)<;>with_reducible rfl
      try simp only[Act.put,gF]
      refine wpAnyH_ready (rs:=[11]) (by kernel_rfl) (by simp) ?_;refine AllReadyH.cons rfl (fun K hK=>?_) AllReadyH.nil;go_simp;go_wp2_with (go_at_call 142;refine(gE _ _).mono ?_;rintro e wn ⟨rfl,hwn⟩;obtain rfl:=hwn.symm;clear hwn);exact⟨rfl,HB1.out.trans ((aB HB1X.out b5).mono (Nat.le_of_lt hs1)),.inr ⟨rfl,rfl⟩⟩
     cases o2
     ·have hEn:E=none:=by
       rw[←HE.out];refine pO (i:=j) ?_ g hlt;have:=wA (t:=t+1) ((BW HS.out).trans (Mr HY1.out HZ1.out)) (M-(t+1))
       rwa[show t+1+(M-(t+1))=M by omega]at this
      subst hEn;go_wp2_with fail;have hS:=HS0.out
      refine wp_region_held_drew (S:=(fun x=>NW x wr.heap.size (.slice (qa t) (qs t).length (qc t)) (.slice (some ⟨rb,roff,none⟩) g (rc t)) rb (roff+j) (.slice (rad t j) QJ.length (rcp t j)))) (by kernel_rfl) (hS) (fun hHeld=>?_);refine wpAnyH_take (i:=0) (v:=?_) rfl (by kernel_rfl) (by kernel_rfl) (by kernel_rfl) (fun _ _ _ h=>h) (Or.inl ⟨by rfl,?_⟩) (by assumption) ?_;rotate_left
      ·(intro w9 hSw;(try dsimp only at hSw);go_simp)<;>with_reducible rfl
      try simp only[Act.put,gF]
      refine wpAnyH_take (i:=1) (v:=?_) rfl (by kernel_rfl) (by kernel_rfl) (by kernel_rfl) (fun _ _ _ h=>h) (Or.inl ⟨by rfl,?_⟩) (by assumption) ?_;rotate_left
      ·(intro w9 hSw;(try dsimp only at hSw);go_simp)<;>with_reducible rfl
      try simp only[Act.put,gF]
      refine wpAnyH_take (i:=2) (v:=?_) rfl (by kernel_rfl) (by kernel_rfl) (by kernel_rfl) (fun _ _ _ h=>h) (Or.inl ⟨by rfl,?_⟩) (by assumption) ?_;rotate_left
      ·(intro w9 hSw;(try dsimp only at hSw);go_simp)<;>with_reducible rfl
      try simp only[Act.put,gF]
      refine wpAnyH_take (i:=3) (v:=?_) rfl (by kernel_rfl) (by kernel_rfl) (by kernel_rfl) (fun _ _ _ h=>h) (Or.inl ⟨by rfl,?_⟩) (by assumption) ?_;rotate_left
      ·(intro w9 hSw;(try dsimp only at hSw);go_simp)<;>with_reducible rfl
      try simp only[Act.put,gF]
      refine wpAnyH_take (i:=4) (v:=?_) rfl (by kernel_rfl) (by kernel_rfl) (by kernel_rfl) (fun _ _ _ h=>h) (Or.inl ⟨by rfl,?_⟩) (by assumption) ?_;rotate_left
      ·(intro w9 hSw;(try dsimp only at hSw);go_simp)<;>with_reducible rfl
      try simp only[Act.put,gF]
      refine wpAnyH_take (i:=5) (v:=?_) rfl (by kernel_rfl) (by kernel_rfl) (by kernel_rfl) (fun _ _ _ h=>h) (Or.inl ⟨by rfl,?_⟩) (by assumption) ?_;rotate_left
      ·(intro w9 hSw;(try dsimp only at hSw);go_simp)<;>with_reducible rfl
      try simp only[Act.put,gF]
      refine wpAnyH_take (i:=6) (v:=?_) rfl (by kernel_rfl) (by kernel_rfl) (by kernel_rfl) (fun _ _ _ h=>h) (Or.inl ⟨by rfl,?_⟩) (by assumption) ?_;rotate_left
      ·(intro w9 hSw;(try dsimp only at hSw);go_simp)<;>with_reducible rfl
      try simp only[Act.put,gF]
      refine wpAnyH_take (i:=7) (v:=?_) rfl (by kernel_rfl) (by kernel_rfl) (by kernel_rfl) (fun _ _ _ h=>h) (Or.inl ⟨by rfl,?_⟩) (by assumption) ?_;rotate_left
      ·(intro w9 hSw;(try dsimp only at hSw);go_simp)<;>with_reducible rfl
      try simp only[Act.put,gF]
      refine wpAnyH_ready (rs:=[8]) (by kernel_rfl) (by simp) ?_;refine AllReadyH.cons rfl (fun K hK=>?_) AllReadyH.nil;go_simp;go_wp2_with (go_at_call 28;refine HC1.out.mono ?_;rintro e w5 ⟨ya,yc,rfl,b5,hy⟩);refine hK.out _ _ (by exact NW.below hS b5) (fun hHeld2=>?_);clear hK K hHeld;have hHeld:=hHeld2
      clear hHeld2;try simp only[Act.put,gF]
      refine wpAnyH_take (i:=9) (v:=?_) rfl (by kernel_rfl) (by kernel_rfl) (by kernel_rfl) (fun _ _ _ h=>h) (Or.inl ⟨by rfl,?_⟩) (by assumption) ?_;rotate_left
      ·(intro w9 hSw;(try dsimp only at hSw);go_simp)<;>with_reducible rfl
      try simp only[Act.put,gF]
      refine wpAnyH_take (i:=10) (v:=?_) rfl (by kernel_rfl) (by kernel_rfl) (by kernel_rfl) (fun _ _ _ h=>h) (Or.inl ⟨by rfl,?_⟩) (by assumption) ?_;rotate_left
      ·(intro w9 hSw;(try dsimp only at hSw);go_simp)<;>with_reducible rfl
      try simp only[Act.put,gF]
      refine wpAnyH_ready (rs:=[11]) (by kernel_rfl) (by simp) ?_;refine AllReadyH.cons rfl (fun K hK=>?_) AllReadyH.nil;go_simp;go_wp2_with (go_at_call 142;refine(iA _ _).mono ?_;rintro e wn ⟨rfl,hwn⟩;obtain rfl:=hwn.symm;clear hwn);refine hK.out _ _ (by exact NW.below hS b5) (fun hHeld2=>?_);clear hK K hHeld;have hHeld:=hHeld2
      clear hHeld2;try simp only[Act.put,gF]
      refine wpAnyH_ready (rs:=[12]) (by kernel_rfl) (by simp) ?_;refine AllReadyH.cons rfl (fun K hK=>?_) AllReadyH.nil;go_simp;go_wp2_with (go_at_call 144;refine(HC2.out w5 ya yc (HS5.out.below b5).1 hy.1).mono ?_;rintro e w6 ⟨za,zc,rfl,b6,hz⟩);refine hK.out _ _ (by exact NW.below (NW.below hS b5) b6) (fun hHeld2=>?_);clear hK K hHeld;have hHeld:=hHeld2
      clear hHeld2;try simp only[Act.put,gF]
      refine wpAnyH_take (i:=13) (v:=?_) rfl (by kernel_rfl) (by kernel_rfl) (by kernel_rfl) (fun _ _ _ h=>h) (Or.inl ⟨by rfl,?_⟩) (by assumption) ?_;rotate_left
      ·(intro w9 hSw;(try dsimp only at hSw);go_simp)<;>with_reducible rfl
      try simp only[Act.put,gF]
      refine wpAnyH_take (i:=14) (v:=?_) rfl (by kernel_rfl) (by kernel_rfl) (by kernel_rfl) (fun _ _ _ h=>h) (Or.inl ⟨by rfl,?_⟩) (by assumption) ?_;rotate_left
      ·(intro w9 hSw;(try dsimp only at hSw);go_simp)<;>with_reducible rfl
      try simp only[Act.put,gF]
      refine wpAnyH_ready (rs:=[15]) (by kernel_rfl) (by simp) ?_;refine AllReadyH.cons rfl (fun K hK=>?_) AllReadyH.nil;go_simp;go_wp2_with (go_at_call 142;refine(gE _ _).mono ?_;rintro e wn ⟨rfl,hwn⟩;obtain rfl:=hwn.symm;clear hwn);exact⟨rfl,HB1.out.trans ((aB (aB HB1X.out b5) b6).mono (Nat.le_of_lt hs1)),.inr ⟨rfl,rfl⟩⟩
     have HN:=aA ((BW HS.out).trans (Ms HY1.out HZ1.out));go_wp2_with fail;have hS:=HS0.out
     go_region_held3 (fun x=>NW x wr.heap.size (.slice (qa t) (qs t).length (qc t)) (.slice (some ⟨rb,roff,none⟩) g (rc t)) rb (roff+j) (.slice (rad t j) QJ.length (rcp t j))) (first|with_reducible exact hS|with_reducible exact NW.below (NW.below hS b5) b6|with_reducible exact NW.below hS b5) (first|(go_at_call 28;refine HC1.out.mono ?_;rintro e w5 ⟨ya5,yc5,rfl,b5,hy5⟩)|(go_at_call 142;refine(iA _ _).mono ?_;rintro e wn ⟨rfl,hwn⟩;obtain rfl:=hwn.symm;clear hwn)|(go_at_call 144;refine(HC2.out w5 ya5 yc5 (HS5.out.below b5).1 hy5.1).mono ?_;rintro e w6 ⟨za6,zc6,rfl,b6,hz6⟩))
     have hBx6:=aB (aB HBX.out b5) b6;have HBX6:=aA hBx6
     have h6:wr.heap.size≤(wr.alloc (.cells #[.slice (qa t) (qs t).length (qc t),.slice (some ⟨rb,roff,none⟩) g (rc t)] 194)).drew.heap.size:=by simp
     have h5:=b5.size;have hO6:jG wo.heap.size w6 za6 zc6 Z1:=hz6.low (by omega)
     clear h6 h5;have HO6:=aA hO6
     clear hS b5 b6 hy5 hz6 hBx6 hO6;go_wp2;go_roundw;case rel=>exact⟨t+1,Z1,za6,zc6,by omega,by go_num,HN.out,rfl,HBX6.out,HO6.out⟩
     case measure=>simp[intOf];omega
    ·have htl:¬(t:Int)<(M:Int):=by omega
     have hte:t=M:=by omega
     subst hte;have HXN:=aA (xT HX.out HS.out)
     have hBw:Below wo.heap.size wo wr:=aB HBr4.out hBi;have hAX:oJ w1.heap.size wr (cY X j s) j u5 ad cp B:=(HA.out.below hBw).congr (fun i hi=>(if_neg (by omega)).symm)
     have hA6X:oJ w1.heap.size wo (cY X j s) j u5 ad cp B:=HA.out.congr (fun i hi=>(if_neg (by omega)).symm);have hYj:cY X j s j=s:=if_pos rfl
     have HRND:Hid (∀(g0 cap0:Nat) (w5:World),w5.ownsRow w1.heap.size 41 1 (.slice (some ⟨g0,0,none⟩) (j+1) cap0) (j+1) (DN ad (fun i=>(cY X j s i).length) cp j++[.slice sa s.length sc])→(wr.alloc (.cells #[.slice sa s.length sc] 41)).grownBy w5 u5.ownBlock→(u5.ownBlock=some g0∨g0=(wr.alloc (.cells #[.slice sa s.length sc] 41)).heap.size)→g0<w5.heap.size→∃ad' cp' B',oJ w1.heap.size w5 (cY X j s) (j+1) (.slice (some ⟨g0,0,none⟩) (j+1) cap0) ad' cp' B'):=fun g0 cap0 w5 h1 h2 h3 h4=>by
      refine oJ.more hA6X hAX (a:=sa) (c:=sc) (by rw[hYj];exact HSO.out) ?_ ?_ ?_ h4
      ·rw[hYj];exact h2
      ·rw[hYj];exact h1
      ·rw[hYj];exact h3
     have HAX:=aA hAX;have HBW:=aA (aB HB4.out hBi)
     have hsw:w1.heap.size≤wr.heap.size:=HBW.out.size;clear hAX hA6X hYj hBw hBi;go_wp2_with (at_builtin;refine wpList_append_lies _ rfl (.tmp 49) (.tmp 51) 24 rfl w1.heap.size 41 i0 _ 1 24 Tryz.underlying24 hi0 hz0 hz1 hz2 rfl (by omega) _ j (DN ad (fun i=>(cY X j s i).length) cp j) rfl (HAX.out.row.alloc _) ⟨wr.heap.size,0,none⟩ 1 1 [.slice sa s.length sc] rfl rfl (World.news_of_block (heap_alloc_new wr _)) (jT _ _ _) (by omega) hmax (by omega) (by simp;omega) _ rfl ?_;intro g1 cap1 w8 hown2 hgrow2 hat2 hlt2;have HRR:=aA (HRND.out g1 cap1 w8 hown2 hgrow2 hat2 hlt2);have HB8:=aA ((HBW.out.alloc HBW.out.size _).grown hgrow2 (by simp;omega) (fun k e=>(HAX.out.row.lt k e).1));clear hown2 hgrow2 hat2 hlt2);obtain⟨ad',cp',B',hA8⟩:=HRR.out;go_roundw;case rel=>exact⟨j+1,cY X j s,ad',cp',B',by omega,by go_num,HXN.out,HB8.out,hA8⟩
     case measure=>simp[intOf];omega
  ·have hjn:¬(j:Int)<(g:Int):=by omega
   have hje:j=g:=by omega
   subst hje;have hEs:E=some X:=by rw[←HE.out];exact HX.out
   subst hEs;obtain⟨qa',qc',Rb,etv,hO⟩:=HA.out.out (by omega);subst etv;have HOO:=aA hO
   clear hB hA hO;go_wp2;go_ret;exact⟨HB1.out.trans (HB.out.mono (Nat.le_of_lt hs1)),.inl ⟨X,qa',qc',ad,cp,w1.heap.size,Rb,B,rfl,rfl,Nat.le_of_lt hs1,HOO.out⟩⟩
end Go.Proofs.YtelkehjdfcoeiaaGreat
