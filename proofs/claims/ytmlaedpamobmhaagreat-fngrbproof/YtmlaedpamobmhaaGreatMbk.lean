/-
  One more operator comes to the queue, with its pairs.
  A basis on its way, as lists: rows of proofs, a pair looked at, the run.
  Rows of proofs in the model: l9Row, l9Less.
-/
import Derived.Test.YtmlaedpamobmhaaGreatMbj
import Derived.Deep.RegionLaw
set_option maxHeartbeats 8000000
set_option maxRecDepth 100000
namespace Go.Proofs.YtmlaedpamobmhaaGreat
open Go.RowKit Go.Deep Go.Joins
set_option linter.unusedVariables false
theorem Fr.step {P P':Nat→Prop} {a b c:World} (h:Fr P a b) (k:Fr P' b c) (hp:∀i,i<a.heap.size→P' i→P i):Fr P a c:=
 ⟨k.os.trans h.os,k.tape.trans h.tape,k.output.trans h.output,jJ h.size k.size,fun i hi hn=>(k.block i (iZ hi h.size) (fun e=>hn (hp i hi e))).trans (h.block i hi hn)⟩
abbrev tZ (u:World) (b1 b2 Q z:Nat) (t1 t2:T) (lv:Value):Prop:=
 u.cell? ⟨b1,0,none⟩=some (.int .i64 t1.c)∧u.cell? ⟨b1,1,none⟩=some (.int .i64 t1.m.x)∧u.cell? ⟨b1,2,none⟩=some (.int .i64 t1.m.y)∧u.cell? ⟨b1,3,none⟩=some (.int .i64 t1.m.d)∧u.cell? ⟨b1,4,none⟩=some (.int .i64 t1.m.e)∧u.cell? ⟨b2,0,none⟩=some (.int .i64 t2.c)∧u.cell? ⟨b2,1,none⟩=some (.int .i64 t2.m.x)∧u.cell? ⟨b2,2,none⟩=some (.int .i64 t2.m.y)∧u.cell? ⟨b2,3,none⟩=some (.int .i64 t2.m.d)∧u.cell? ⟨b2,4,none⟩=some (.int .i64 t2.m.e)∧u.cell? ⟨Q,z,none⟩=some lv
theorem tZ.mk {u:World} {b1 b2 Q z:Nat} {t1 t2:T} {lv:Value} (h1:C5 u b1 t1) (h2:C5 u b2 t2) (h3:u.cell? ⟨Q,z,none⟩=some lv):tZ u b1 b2 Q z t1 t2 lv:=⟨h1.1,h1.2.1,h1.2.2.1,h1.2.2.2.1,h1.2.2.2.2,h2.1,h2.2.1,h2.2.2.1,h2.2.2.2.1,h2.2.2.2.2,h3⟩
theorem tZ.below {u u':World} {b1 b2 Q z:Nat} {t1 t2:T} {lv:Value} (h:tZ u b1 b2 Q z t1 t2 lv) (hb:Below u.heap.size u u'):tZ u' b1 b2 Q z t1 t2 lv:=by
 obtain⟨a0,a1,a2,a3,a4,c0,c1,c2,c3,c4,d0⟩:=h;have l1:=cE u _ a0
 have l2:=cE u _ c0;have l3:=cE u _ d0
 exact⟨(hb.cell (p:=⟨b1,0,none⟩) l1).trans a0,(hb.cell (p:=⟨b1,1,none⟩) l1).trans a1,(hb.cell (p:=⟨b1,2,none⟩) l1).trans a2,(hb.cell (p:=⟨b1,3,none⟩) l1).trans a3,(hb.cell (p:=⟨b1,4,none⟩) l1).trans a4,(hb.cell (p:=⟨b2,0,none⟩) l2).trans c0,(hb.cell (p:=⟨b2,1,none⟩) l2).trans c1,(hb.cell (p:=⟨b2,2,none⟩) l2).trans c2,(hb.cell (p:=⟨b2,3,none⟩) l2).trans c3,(hb.cell (p:=⟨b2,4,none⟩) l2).trans c4,(hb.cell (p:=⟨Q,z,none⟩) l3).trans d0⟩
theorem tZ.fr {P:Nat→Prop} {u u':World} {b1 b2 Q z:Nat} {t1 t2:T} {lv:Value} (h:tZ u b1 b2 Q z t1 t2 lv) (hf:Fr P u u') (h1:¬P b1) (h2:¬P b2) (h3:u'.cell? ⟨Q,z,none⟩=some lv):tZ u' b1 b2 Q z t1 t2 lv:=by
 obtain⟨a0,a1,a2,a3,a4,c0,c1,c2,c3,c4,d0⟩:=h;have l1:=cE u _ a0
 have l2:=cE u _ c0;exact⟨(hf.cell l1 h1).trans a0,(hf.cell l1 h1).trans a1,(hf.cell l1 h1).trans a2,(hf.cell l1 h1).trans a3,(hf.cell l1 h1).trans a4,(hf.cell l2 h2).trans c0,(hf.cell l2 h2).trans c1,(hf.cell l2 h2).trans c2,(hf.cell l2 h2).trans c3,(hf.cell l2 h2).trans c4,h3⟩
theorem tZ.c5 {u:World} {b1 b2 Q z:Nat} {t1 t2:T} {lv:Value} (h:tZ u b1 b2 Q z t1 t2 lv):C5 u b2 t2:=⟨h.2.2.2.2.2.1,h.2.2.2.2.2.2.1,h.2.2.2.2.2.2.2.1,h.2.2.2.2.2.2.2.2.1,h.2.2.2.2.2.2.2.2.2.1⟩
theorem CS {w w':World} {row:Option Nat} (hg:w.grownBy w' row) {b o:Nat} (hb:b<w.heap.size) (hne:¬row=some b):w'.cell? ⟨b,o,none⟩=w.cell? ⟨b,o,none⟩:=mB (w:=w) (a:=⟨b,o,none⟩) (hg.block b hb (fun e=>hne e.symm))
theorem uI {w w':World} {row:Option Nat} (hg:w.grownBy w' row) {b o:Nat} (hb:b<w.heap.size) (hne:¬row=some b):w'.frozen? ⟨b,o,none⟩=w.frozen? ⟨b,o,none⟩:=World.frozen?_of_block (w:=w) (a:=⟨b,o,none⟩) (hg.block b hb (fun e=>hne e.symm))
theorem GT (kf:Nat→T) (m:Nat):(List.range (m+1)).map kf=(List.range m).map kf++[kf m]:=by simp[List.range_succ]
theorem TG (kf:Nat→T) {m i:Nat} (h:i<m):lf ((List.range m).map kf) i=kf i:=by rw[iP (by simpa using h)];simp
theorem jK.lead {w w':World} {lo Q z:Nat} {lv lv':Value} {m:Nat} {kf:Nat→T} {B:Nat→Nat} {a e:Nat} (h:jK w lo Q z lv m kf B a e) {row:Option Nat} (hg:w.grownBy w' row) (hr:row=lv.ownBlock) (ho:w'.ownsRow lo 54 5 lv' ((List.range (m+1)).map kf).length (aE ((List.range (m+1)).map kf))) (hl:∀g,lv'.ownBlock=some g→lv.ownBlock=some g∨g=w.heap.size):jK (w'.setCell ⟨Q,z,none⟩ lv') lo Q z lv' (m+1) kf B a e:=by
 have f1:Fr (fun k=>lv.ownBlock=some k) w w':=(Fr.refl _ w).grown hg (fun g e _=>by rw[hr]at e;exact e);have f2:Fr (fun k=>k=Q) w' (w'.setCell ⟨Q,z,none⟩ lv'):=(Fr.refl _ w').set (fun _=>rfl)
 have nQ:¬lv.ownBlock=some Q:=fun e=>h.ap Q e rfl;have hlt:Q<w.heap.size:=h.lt
 have ap':∀g,lv'.ownBlock=some g→g≠Q:=fun g hg'=>by
  rcases hl g hg' with q|q
  ·exact h.ap g q
  ·omega
 refine⟨gN ((f1.cell h.lt nQ).trans h.cl),?_,?_,?_,f2.owns ho (fun g hg' q=>ap' g hg' q),ap',?_,?_,h.inj,h.hQ⟩
 ·rw[aO (qI (by omega))];exact(f1.cell h.lt nQ).trans h.cf
 ·obtain⟨v,c1,c2⟩:=h.ct;exact⟨v,by rw[aO (qI (by omega))];exact(f1.cell h.lt nQ).trans c1,c2⟩
 ·simp only[World.frozen?_setCell];exact⟨(f1.frozen h.lt nQ).trans h.fz.1,(f1.frozen h.lt nQ).trans h.fz.2.1,(f1.frozen h.lt nQ).trans h.fz.2.2⟩
 ·exact fun j j1 j2=>((h.pr j j1 j2).fr f1 (h.bk j j1 j2).2.2).fr f2 (h.bk j j1 j2).2.1
 ·intro j j1 j2;refine⟨(h.bk j j1 j2).1,(h.bk j j1 j2).2.1,fun q=>?_⟩;rcases hl _ q with q'|q'
  ·exact(h.bk j j1 j2).2.2 q'
  ·have:=(h.pr j j1 j2).lt;omega
def dN (R q X:List T):Option (List T):=match cC (lf q) (lf X) X.length q.length with
 |some P=>if(dB R P).length≤400 then some (dB R P)else none
 |none=>none
def cT (R:Nat→List T) (j:Nat) (Y:List T) (i:Nat):List T:=if i=j then Y else R i
def cZ (row:Nat→List T) (q:List T) (oth:Nat→List T):Nat→Option (Nat→List T)
 |0=>some (fun _=>[])
 |j+1=>match cZ row q oth j with
  |none=>none
  |some R=>match dN (row j) q (oth j)with
   |none=>none
   |some Y=>some (cT R j Y)
theorem nV {row:Nat→List T} {q:List T} {oth:Nat→List T} {j:Nat} (h:cZ row q oth j=none):∀d,cZ row q oth (j+d)=none
 |0=>h
 |d+1=>by show(match cZ row q oth (j+d)with|none=>none|some R=>match dN (row (j+d)) q (oth (j+d))with|none=>none|some Y=>some (cT R (j+d) Y))=none;rw[nV h d]
theorem pR {row:Nat→List T} {q:List T} {oth:Nat→List T} {j g:Nat} {R:Nat→List T} (hj:j<g) (h:cZ row q oth j=some R) (he:dN (row j) q (oth j)=none):cZ row q oth g=none:=by
 have h1:cZ row q oth (j+1)=none:=by
  show(match cZ row q oth j with|none=>none|some R=>match dN (row j) q (oth j)with|none=>none|some Y=>some (cT R j Y))=none;rw[h];show(match dN (row j) q (oth j)with|none=>none|some Y=>some (cT R j Y))=none
  rw[he]
 have:=nV h1 (g-(j+1))
 rwa[show j+1+(g-(j+1))=g by omega]at this
theorem rF {row:Nat→List T} {q:List T} {oth:Nat→List T} {j:Nat} {R:Nat→List T} {Y:List T} (h:cZ row q oth j=some R) (he:dN (row j) q (oth j)=some Y):cZ row q oth (j+1)=some (cT R j Y):=by
 show(match cZ row q oth j with|none=>none|some R=>match dN (row j) q (oth j)with|none=>none|some Y=>some (cT R j Y))=_;rw[h];show(match dN (row j) q (oth j)with|none=>none|some Y=>some (cT R j Y))=_
 rw[he]
theorem pI {R q X Y:List T} (hR:cM R=true) (hq:cM q=true) (hX:cM X=true) (h:dN R q X=some Y):cM Y=true:=by
 unfold dN at h;split at h
 ·rename_i P hP;split at h
  ·rename_i hl;cases h;exact fO hl (cQ (aF hR).2 (cV (cB hq).2 (cB hX).2 _ P (Nat.le_refl _) hP)).1
  ·cases h
 ·cases h
theorem nA {row:Nat→List T} {q:List T} {oth:Nat→List T} {g:Nat} (hrow:∀i,i<g→cM (row i)=true) (hq:cM q=true) (ho:∀i,i<g→cM (oth i)=true):∀j R,j≤g→cZ row q oth j=some R→∀i,i<j→cM (R i)=true
 |0,R,_,_,i,hi=>by omega
 |j+1,R,hj,h,i,hi=>by
  cases hr:cZ row q oth j with
  |none=>have:=nV hr 1;rw[this]at h;cases h
  |some R1=>
   cases he:dN (row j) q (oth j)with
   |none=>have:=pR (g:=j+1) (by omega) hr he;rw[this]at h;cases h
   |some Y=>
    rw[rF hr he]at h;cases h;unfold cT;split
    ·exact pI (hrow j (by omega)) hq (ho j (by omega)) he
    ·exact nA hrow hq ho j R1 (by omega) hr i (by omega)
def iQ (g:Nat) (P:Nat→Nat→List T) (qs:Nat→List T) (row:Option (Nat→List T)):Nat→Option (Nat→List T)
 |0=>row
 |t+1=>match iQ g P qs row t with
  |none=>none
  |some R=>cZ R (qs t) (P t) g
def eK (u:T):T:=⟨101-u.c,u.m⟩
def fW (g:Nat) (P:Nat→Nat→List T) (i k:Nat) (u v:T):Option (Nat→List T):=match cZ (fun _=>[]) [eK u] (P i) g with
 |none=>none
 |some R=>cZ R [v] (P k) g
def kO (g:Nat) (P:Nat→Nat→List T) (i k:Nat) (u v:T) (nq:Nat) (qs:Nat→List T):Option (Nat→List T):=iQ g P qs (fW g P i k u v) nq
theorem jE {g:Nat} {P:Nat→Nat→List T} {qs:Nat→List T} {row:Option (Nat→List T)} {t:Nat} (h:iQ g P qs row t=none):∀d,iQ g P qs row (t+d)=none
 |0=>h
 |d+1=>by show(match iQ g P qs row (t+d)with|none=>none|some R=>cZ R (qs (t+d)) (P (t+d)) g)=none;rw[jE h d]
structure Bs where
 m:Nat
 L:Nat→List T
 P:Nat→Nat→List T
def tU (P:Nat→Nat→List T) (m:Nat) (R:Nat→List T) (i:Nat):Nat→List T:=if i=m then R else P i
def CI (B:Bs) (r:List T) (R:Nat→List T):Bs:=⟨B.m+1,cT B.L B.m r,tU B.P B.m R⟩
abbrev IY (o:Int) (A C:List T):T:=eD o A.length (lf A) C.length (lf C)
abbrev KN (o:Int) (A C:List T):T:=eE o A.length (lf A) C.length (lf C)
abbrev NH (o:Int) (A C:List T):List T×Bool:=aZ o (lf A) A.length (lf C) C.length
def eN (o:Int) (g:Nat) (B:Bs) (i k:Nat):Option Bs:=
 match NH o (B.L i) (B.L k)with
 |(s,true)=>(match bJ o s B.m (lN B.L) (fN B.L)with
  |some S=>if S.r.length=0 then some B else if B.m=12 then none else(match kO g B.P i k (IY o (B.L i) (B.L k)) (KN o (B.L i) (B.L k)) B.m S.q with
   |some R=>some (CI B S.r R)
   |none=>none)
  |none=>none)
 |(_,false)=>none
def gH (o:Int) (g:Nat):Nat→Bs→Nat→Bs×Bool
 |0,B,j=>(B,decide (aT B.m≤j))
 |f+1,B,j=>if j<aT B.m then(match eN o g B (pq j).1 (pq j).2 with
  |none=>(B,false)
  |some B'=>gH o g f B' (j+1))else(B,true)
def gT (k i:Nat):List T:=if i=k then[⟨1,⟨0,0,0,0⟩⟩]else[]
def zZ (n:Nat) (L:Nat→List T):Bs:=⟨n,L,fun k=>gT k⟩
def dK (o:Int) (n:Nat) (L:Nat→List T) (fuel:Int):Bs×Bool:=
 if(1≤o∧o≤3)∧aU n (lN L) (fN L)=true∧(1≤n∧n≤3)∧(0≤fuel∧fuel≤60)then gH o n fuel.toNat (zZ n L) 0 else(⟨0,fun _=>[],fun _ _=>[]⟩,false)
structure zW (o:Int) (g:Nat) (B:Bs):Prop where
 ho:1≤o∧o≤3
 l:aU B.m (lN B.L) (fN B.L)=true
 p:∀i,i<B.m→∀j,j<g→cM (B.P i j)=true
theorem YX:cM [(⟨1,⟨0,0,0,0⟩⟩:T)]=true:=by decide
theorem CT {o:Int} {n:Nat} {L:Nat→List T} (ho:1≤o∧o≤3) (hl:aU n (lN L) (fN L)=true):zW o n (zZ n L):=⟨ho,hl,fun i _ j _=>by
 show cM (gT i j)=true;unfold gT;split
 ·exact YX
 ·exact jM⟩
theorem yI {a:Int} (h1:1≤a) (h2:a≤100):1≤101-a∧101-a≤100:=by omega
theorem qD {o:Int} {A C:List T} {s:List T} (h:NH o A C=(s,true)):(cM [IY o A C]=true∧cM [eK (IY o A C)]=true∧cM [KN o A C]=true)∧((IY o A C).m.ok=true∧1≤(IY o A C).c∧(IY o A C).c≤100)∧((KN o A C).m.ok=true∧1≤(KN o A C).c∧(KN o A C).c≤100):=by
 have hs:eG o A.length (lf A) C.length (lf C)=true:=by
  unfold NH aZ at h;split at h
  ·assumption
  ·cases h
 obtain⟨h1,h2⟩:=tP hs;have g1:=yI h1.2.1 h1.2.2
 exact⟨⟨gW h1,gW ⟨h1.1,g1.1,g1.2⟩,gW h2⟩,h1,h2⟩
theorem wP {g:Nat} {P:Nat→Nat→List T} {i k m:Nat} {u v:T} {qs:Nat→List T} (hi:i<m) (hk:k<m) (hP:∀i,i<m→∀j,j<g→cM (P i j)=true) (hu:cM [eK u]=true) (hv:cM [v]=true) (hq:∀t,t<m→cM (qs t)=true):∀t R,t≤m→iQ g P qs (fW g P i k u v) t=some R→∀j,j<g→cM (R j)=true
 |0,R,_,h=>by
  change fW g P i k u v=some R at h;unfold fW at h;split at h
  ·cases h
  ·rename_i R1 h1;exact nA (nA (fun _ _=>jM) hu (hP i hi) g R1 (Nat.le_refl _) h1) hv (hP k hk) g R (Nat.le_refl _) h
 |t+1,R,ht,h=>by
  cases hr:iQ g P qs (fW g P i k u v) t with
  |none=>have:=jE hr 1;rw[this]at h;cases h
  |some R1=>
   have h':cZ R1 (qs t) (P t) g=some R:=by
    have:iQ g P qs (fW g P i k u v) (t+1)=cZ R1 (qs t) (P t) g:=by show(match iQ g P qs (fW g P i k u v) t with|none=>none|some R=>cZ R (qs t) (P t) g)=_;rw[hr]
    rw[←this];exact h
   exact nA (wP hi hk hP hu hv hq t R1 (by omega) hr) (hq t (by omega)) (hP t (by omega)) g R (Nat.le_refl _) h'
theorem PP {m:Nat} {L:Nat→List T} (hl:aU m (lN L) (fN L)=true) (hm:m≠12) {r:List T} (hr:cM r=true) (h0:r.length≠0):aU (m+1) (lN (cT L m r)) (fN (cT L m r))=true:=by
 have h:=aR hl;refine decide_eq_true ⟨by omega,fun i hi=>?_⟩;show(cT L m r i).length≠0∧cM (cT L m r i)=true
 unfold cT;split
 ·exact⟨h0,hr⟩
 ·exact h.2 i (by omega)
theorem tQ {o:Int} {g:Nat} {B B':Bs} {i k:Nat} (h:zW o g B) (hi:i<B.m) (hk:k<B.m) (hs:eN o g B i k=some B'):zW o g B':=by
 unfold eN at hs;split at hs
 ·rename_i s hsp;split at hs
  ·rename_i S hS;split at hs
   ·cases hs;exact h
   ·rename_i h0;split at hs
    ·cases hs
    ·rename_i h12;split at hs
     ·rename_i R hR;cases hs;obtain⟨d1,d2⟩:=cY hS;obtain⟨⟨_,g2,g3⟩,_⟩:=qD hsp;refine⟨h.ho,PP h.l h12 (fO (by have:=d1.r.2;omega) d1.r.1) h0,fun a ha j hj=>?_⟩;show cM (tU B.P B.m R a j)=true
      unfold tU;split
      ·exact wP hi hk h.p g2 g3 (fun t _=>fO (by have:=(d1.q t).2;omega) (d1.q t).1) B.m R (Nat.le_refl _) hR j hj
      ·have ha':a<B.m+1:=ha;exact h.p a (by omega) j hj
     ·cases hs
  ·cases hs
 ·cases hs
theorem ZP {o:Int} {g:Nat} {B B':Bs} {i k:Nat} (hs:eN o g B i k=some B'):B.m≤B'.m:=by
 unfold eN at hs;split at hs
 ·split at hs
  ·split at hs
   ·cases hs;exact Nat.le_refl _
   ·split at hs
    ·cases hs
    ·split at hs
     ·cases hs;exact Nat.le_succ _
     ·cases hs
  ·cases hs
 ·cases hs
theorem qX:(Tryz.prog.info? 35).map (fun i=>(i.zero,i.size,i.bytes))=some (some (.slice none 0 0),1,24):=by kernel_rfl
theorem iL (a:Option Addr) (n c:Nat):∀u∈[Value.slice a n c],u.oneCell'=true:=fun u hu=>by
 have:u= .slice a n c:=by simpa using hu
 subst this;rfl
theorem mI.congr {lo:Nat} {w:World} {q q':Nat→List T} {j:Nat} {tv:Value} {ad:Nat→Option Addr} {cp B:Nat→Nat} (h:mI lo w q j tv ad cp B) (he:∀i,i<j→q i=q' i):mI lo w q' j tv ad cp B where
 row:=by
  have e:AB ad (fun i=>(q i).length) cp j=AB ad (fun i=>(q' i).length) cp j:=by
   unfold AB;refine List.map_congr_left (fun i hi=>?_);show Value.slice (ad i) (q i).length (cp i)=Value.slice (ad i) (q' i).length (cp i)
   rw[he i (List.mem_range.1 hi)]
  rw[←e];exact h.row
 el:=fun i hi=>by rw[←he i hi];exact h.el i hi
 ap:=fun i k h1 h2=>by rw[←he i (by omega),←he k h2];exact h.ap i k h1 h2
 lo:=h.lo
theorem mI.empty (w:World) (q:Nat→List T):mI w.heap.size (w.alloc (.cells #[] 35)) q 0 (.slice (some ⟨w.heap.size,0,none⟩) 0 0) (fun _=>none) (fun _=>0) (fun _=>0):=
 ⟨⟨rfl,.inr ⟨w.heap.size,0,#[],rfl,Nat.le_refl _,heap_alloc_new w (.cells #[] 35),Nat.le_refl _,gY _,rfl,rfl⟩⟩,fun i hi=>by omega,fun i k _ hk=>by omega,by simp⟩
theorem mI.more {lo:Nat} {w0 w1 w5:World} {q:Nat→List T} {j:Nat} {tv:Value} {ad:Nat→Option Addr} {cp B:Nat→Nat} (h0:mI lo w0 q j tv ad cp B) (h:mI lo w1 q j tv ad cp B) {a:Option Addr} {c:Nat} (ho:iA w0.heap.size w1 a c (q j)) {g0 cap0:Nat} (hgrow:(w1.alloc (.cells #[.slice a (q j).length c] 35)).grownBy w5 tv.ownBlock) (hown:w5.ownsRow lo 35 1 (.slice (some ⟨g0,0,none⟩) (j+1) cap0) (j+1) (AB ad (fun i=>(q i).length) cp j++[.slice a (q j).length c])) (hat:tv.ownBlock=some g0∨g0=(w1.alloc (.cells #[.slice a (q j).length c] 35)).heap.size) (hlt:g0<w5.heap.size):∃ad' cp' B',mI lo w5 q (j+1) (.slice (some ⟨g0,0,none⟩) (j+1) cap0) ad' cp' B':=
 ⟨_,_,_,h.round (m:=w0.heap.size) (fun i hi h1=>by
  rcases(h0.el i hi).2.2 with hz|⟨_,_,_,h3,_⟩
  ·exact absurd hz h1
  ·exact h3) (fun k hk=>(h0.row.lt k hk).2) h0.lo ho hgrow hown (hat.imp id (fun e=>e.trans (by simp))) hlt⟩
def qJ (k:Int) (i:Nat):List T:=if(i:Int)=k then[⟨1,⟨0,0,0,0⟩⟩]else[]
def Ec (w:World) (n:Nat) (q:Nat→List T) (r:Ending) (w':World):Prop:=∃ra rc ad cp Rb B,r= .returned (.slice ra n rc)∧Below w.heap.size w w'∧jC w.heap.size w' ra n rc ad (fun i=>(q i).length) cp (fun i=>lf (q i)) Rb B
theorem JM (w:World) (n:Nat) (k:Int) (hn:n≤12):Calls Tryz.prog 44 #[.int .i64 (n:Int),.int .i64 k] w (Ec w n (qJ k)):=by
 obtain⟨i0,hi0,hz0,hz1,hz2⟩:=info_parts qX;have hnl:(n:Int)≤12:=by omega
 have HQ0:=aA (mI.empty w (qJ k));have HB0:=aA (aC w (.cells #[] 35))
 go_enter Tryz.func44,Tryz.ntmps44;go_wp2;go_loopw [5,6] (fun tv ii wr=>∃(j:Nat) (ad:Nat→Option Addr) (cp B:Nat→Nat),j≤n∧ii= .int .i64 (j:Int)∧Below w.heap.size w wr∧mI w.heap.size wr (qJ k) j tv ad cp B) (fun _ ii _=>n-(intOf ii).toNat);case atStart=>exact⟨0,_,_,_,gY _,rfl,HB0.out,HQ0.out⟩
 case round=>
  obtain⟨j,ad,cp,B,hj,rfl,hB,hA⟩:=hrel;have HB:=aA hB
  have HA:=aA hA;by_cases hlt:j<n
  ·have hjl:(j:Int)<(n:Int):=by omega
   have hmax:j+1≤maxLen:=by unfold maxLen;omega
   by_cases hjk:(j:Int)=k
   ·have hjb:((j:Int)==k)=true:=by simpa using hjk
    have hq:qJ k j=[⟨1,⟨0,0,0,0⟩⟩]:=if_pos hjk;have b1:=aC wr (.cells #[.int .i64 1,.int .i64 0,.int .i64 0,.int .i64 0,.int .i64 0] 54)
    have hA1:=hA.below b1;have hO1:iA wr.heap.size (wr.alloc (.cells #[.int .i64 1,.int .i64 0,.int .i64 0,.int .i64 0,.int .i64 0] 54)) (some ⟨wr.heap.size,0,none⟩) 1 (qJ k j):=by
     rw[hq];have:=World.ownsRow_lit (base:=wr.heap.size) (e:=54) (size:=5) wr #[.int .i64 1,.int .i64 0,.int .i64 0,.int .i64 0,.int .i64 0] 1 (Nat.le_refl _) (by unfold maxLen;omega) rfl
     obtain⟨a',c',e,ho⟩:=aI (L:=[⟨1,⟨0,0,0,0⟩⟩]) this (by simp);cases e;exact ho
    have hB1:=aB hB b1;have HRND:Hid (∀(g0 cap0:Nat) (w5:World),w5.ownsRow w.heap.size 35 1 (.slice (some ⟨g0,0,none⟩) (j+1) cap0) (j+1) (AB ad (fun i=>(qJ k i).length) cp j++[.slice (some ⟨wr.heap.size,0,none⟩) 1 1])→((wr.alloc (.cells #[.int .i64 1,.int .i64 0,.int .i64 0,.int .i64 0,.int .i64 0] 54)).alloc (.cells #[.slice (some ⟨wr.heap.size,0,none⟩) 1 1] 35)).grownBy w5 u5.ownBlock→(u5.ownBlock=some g0∨g0=((wr.alloc (.cells #[.int .i64 1,.int .i64 0,.int .i64 0,.int .i64 0,.int .i64 0] 54)).alloc (.cells #[.slice (some ⟨wr.heap.size,0,none⟩) 1 1] 35)).heap.size)→g0<w5.heap.size→∃ad' cp' B',mI w.heap.size w5 (qJ k) (j+1) (.slice (some ⟨g0,0,none⟩) (j+1) cap0) ad' cp' B'):=fun g0 cap0 w5 h1 h2 h3 h4=>by
     refine mI.more hA hA1 hO1 ?_ ?_ ?_ h4
     ·rw[hq];exact h2
     ·rw[hq];exact h1
     ·rw[hq];exact h3
    have HA1:=aA hA1;have HB1:=aA hB1
    have HN:=aA (heap_alloc_new (wr.alloc (.cells #[.int .i64 1,.int .i64 0,.int .i64 0,.int .i64 0,.int .i64 0] 54)) (.cells #[.slice (some ⟨wr.heap.size,0,none⟩) 1 1] 35));have hsw:w.heap.size≤wr.heap.size:=hB.size
    clear hq hjk b1 hA1 hO1 hB1 hA hB;go_wp2_with (at_builtin;refine wpList_append_lies _ rfl (.tmp 16) (.tmp 19) 23 rfl w.heap.size 35 i0 _ 1 24 Tryz.underlying23 hi0 hz0 hz1 hz2 rfl (by omega) _ j (AB ad (fun i=>(qJ k i).length) cp j) rfl (HA1.out.row.alloc _) ⟨wr.heap.size+1,0,none⟩ 1 1 [.slice (some ⟨wr.heap.size,0,none⟩) 1 1] rfl rfl (by have:=HN.out;rw[World.size_alloc]at this;exact World.news_of_block this) (iL _ _ _) (by omega) hmax (by omega) (by simp;omega) _ rfl ?_;intro g1 cap1 w7 hown2 hgrow2 hat2 hlt2;have HR:=aA (HRND.out g1 cap1 w7 hown2 hgrow2 hat2 hlt2);have HB7:=aA ((HB1.out.alloc HB1.out.size _).grown hgrow2 (by simp;omega) (fun k e=>(HA1.out.row.lt k e).1));clear hown2 hgrow2 hat2 hlt2);obtain⟨ad',cp',B',hA7⟩:=HR.out;go_roundw;case rel=>exact⟨j+1,ad',cp',B',by omega,by go_num,HB7.out,hA7⟩
    case measure=>simp[intOf];omega
   ·have hjb:((j:Int)==k)=false:=by simpa using hjk
    have hq:qJ k j=[]:=if_neg hjk;have b1:=aC wr (.cells #[] 54)
    have hA1:=hA.below b1;have hO1:iA wr.heap.size (wr.alloc (.cells #[] 54)) (some ⟨wr.heap.size,0,none⟩) 0 (qJ k j):=by rw[hq];exact⟨⟨Nat.le_refl _,by simp,.inl rfl⟩,.inl rfl,.inl rfl⟩
    have hB1:=aB hB b1;have HRND:Hid (∀(g0 cap0:Nat) (w5:World),w5.ownsRow w.heap.size 35 1 (.slice (some ⟨g0,0,none⟩) (j+1) cap0) (j+1) (AB ad (fun i=>(qJ k i).length) cp j++[.slice (some ⟨wr.heap.size,0,none⟩) 0 0])→((wr.alloc (.cells #[] 54)).alloc (.cells #[.slice (some ⟨wr.heap.size,0,none⟩) 0 0] 35)).grownBy w5 u5.ownBlock→(u5.ownBlock=some g0∨g0=((wr.alloc (.cells #[] 54)).alloc (.cells #[.slice (some ⟨wr.heap.size,0,none⟩) 0 0] 35)).heap.size)→g0<w5.heap.size→∃ad' cp' B',mI w.heap.size w5 (qJ k) (j+1) (.slice (some ⟨g0,0,none⟩) (j+1) cap0) ad' cp' B'):=fun g0 cap0 w5 h1 h2 h3 h4=>by
     refine mI.more hA hA1 hO1 ?_ ?_ ?_ h4
     ·rw[hq];exact h2
     ·rw[hq];exact h1
     ·rw[hq];exact h3
    have HA1:=aA hA1;have HB1:=aA hB1
    have HN:=aA (heap_alloc_new (wr.alloc (.cells #[] 54)) (.cells #[.slice (some ⟨wr.heap.size,0,none⟩) 0 0] 35));have hsw:w.heap.size≤wr.heap.size:=hB.size
    clear hq hjk b1 hA1 hO1 hB1 hA hB;go_wp2_with (at_builtin;refine wpList_append_lies _ rfl (.tmp 21) (.tmp 23) 23 rfl w.heap.size 35 i0 _ 1 24 Tryz.underlying23 hi0 hz0 hz1 hz2 rfl (by omega) _ j (AB ad (fun i=>(qJ k i).length) cp j) rfl (HA1.out.row.alloc _) ⟨wr.heap.size+1,0,none⟩ 1 1 [.slice (some ⟨wr.heap.size,0,none⟩) 0 0] rfl rfl (by have:=HN.out;rw[World.size_alloc]at this;exact World.news_of_block this) (iL _ _ _) (by omega) hmax (by omega) (by simp;omega) _ rfl ?_;intro g1 cap1 w7 hown2 hgrow2 hat2 hlt2;have HR:=aA (HRND.out g1 cap1 w7 hown2 hgrow2 hat2 hlt2);have HB7:=aA ((HB1.out.alloc HB1.out.size _).grown hgrow2 (by simp;omega) (fun k e=>(HA1.out.row.lt k e).1));clear hown2 hgrow2 hat2 hlt2);obtain⟨ad',cp',B',hA7⟩:=HR.out;go_roundw;case rel=>exact⟨j+1,ad',cp',B',by omega,by go_num,HB7.out,hA7⟩
    case measure=>simp[intOf];omega
  ·have hjn:¬(j:Int)<(n:Int):=by omega
   have hje:j=n:=by omega
   subst hje;obtain⟨qa,qc,R,etv,hO⟩:=hA.out (by omega);subst etv;have HO:=aA hO
   clear hB hA hO;go_wp2;go_ret;exact⟨qa,qc,ad,cp,R,B,rfl,HB.out,HO.out⟩
theorem YG (w:World) (n:Nat) (hn:n≤12):Calls Tryz.prog 120 #[.int .i64 (n:Int)] w (Ec w n (fun _=>[])):=by
 have hq:qJ (-1)=fun _=>[]:=funext fun i=>if_neg (by omega);have HC:=JM w n (-1) hn
 rw[hq]at HC;have HCC:=aA HC
 clear HC hq;go_enter Tryz.func120,Tryz.ntmps120;go_wp2_with fail;refine HCC.out.mono ?_;rintro r w1 ⟨ra,rc,ad,cp,Rb,B,rfl,b1,ho⟩;have HO:=aA ho
 have HB:=aA b1;clear b1 ho;go_wp2;go_ret;exact⟨ra,rc,ad,cp,Rb,B,rfl,HB.out,HO.out⟩
def rZ (w:World) (n:Nat) (R:Option (Nat→List T)) (r:Ending) (w':World):Prop:=
 Below w.heap.size w w'∧((∃q ra rc ad cp Rb B,R=some q∧r= .returned (.tuple #[.slice ra n rc,.bool true])∧jC w.heap.size w' ra n rc ad (fun i=>(q i).length) cp (fun i=>lf (q i)) Rb B)∨(R=none∧∃ra rc,r= .returned (.tuple #[.slice ra 0 rc,.bool false])))
theorem DS {q:List T} (hq:cM q=true):cM (kC 100 q)=true:=fO (by rw[gM];exact(aF hq).1) (gK (by omega) (by omega) (aF hq).2)
theorem PM {w:World} {a:Option Addr} {c:Nat} {q:List T} (h:RL w a c q) (hq:cM q=true):Calls Tryz.prog 150 #[.int .i64 100,.slice a q.length c] w (Ea w (kC 100 q)):=by
 refine(TB w 100 a q.length c (lf q) h (by omega) (by omega) (by have:=(aF hq).1;omega) (fun i hi=>(cB (show aL q.length (lf q)=true from hq)).2 i hi |>.2)).mono ?_;rintro r w' ⟨v,rfl,hb,ho⟩;rw[if_neg (by omega)]at ho;have e:QP 100 (lf q) q.length=kC 100 q:=rfl
 rw[e]at ho;exact UE (by rw[gM];exact(aF hq).1) ⟨v,rfl,hb,by rw[gM];exact ho⟩
theorem LR {w:World} {a b:Option Addr} {ca cb:Nat} {q X:List T} (ha:RL w a ca q) (hb:RL w b cb X) (hq:cM q=true) (hX:cM X=true):Calls Tryz.prog 94 #[.slice a q.length ca,.slice b X.length cb] w (CH w (iK (cC (lf q) (lf X) X.length q.length))):=by
 refine(UB w a b q.length ca X.length cb (lf q) (lf X) ha hb (aF hq).1 (aF hX).1 (cB hq).2 (cB hX).2).mono fun _ _ h=>IR ?_ h;cases hm:cC (lf q) (lf X) X.length q.length with
 |none=>exact gY _
 |some K=>exact fH _ K hm
theorem DA (w:World) (g:Nat) (hg:g≤12) (ra:Option Addr) (rc:Nat) (adR:Nat→Option Addr) (cpR:Nat→Nat) (row:Nat→List T) (hr:eJ w ra g rc adR (lN row) cpR (fN row)) (hrok:∀i,i<g→cM (row i)=true) (qa:Option Addr) (qc:Nat) (q:List T) (hq:RL w qa qc q) (hqok:cM q=true) (oa:Option Addr) (oc:Nat) (adO:Nat→Option Addr) (cpO:Nat→Nat) (oth:Nat→List T) (ho:eJ w oa g oc adO (lN oth) cpO (fN oth)) (hook:∀i,i<g→cM (oth i)=true):Calls Tryz.prog 119 #[.slice ra g rc,.slice qa q.length qc,.slice oa g oc] w (rZ w g (cZ row q oth g)):=by
 obtain⟨i0,hi0,hz0,hz1,hz2⟩:=info_parts qX;have hgl:(g:Int)≤12:=by omega
 obtain⟨R,hR⟩:∃R,cZ row q oth g=R:=⟨_,rfl⟩
 rw[hR];have HR:=aA hR
 have HRO:=aA hr;have HQ:=aA hq
 have HO:=aA ho;have HB0:=aA (aC w (.cells #[] 35))
 have HA0:=aA (mI.empty w (fun _=>[]));have HQK:=aA hqok
 have HOK:=aA hook;have HRK:=aA hrok
 clear hr hq ho hR hqok hook hrok;go_enter Tryz.func119,Tryz.ntmps119;go_wp2;go_loopw [8,9] (fun tv ii wr=>∃(j:Nat) (X:Nat→List T) (ad:Nat→Option Addr) (cp B:Nat→Nat),j≤g∧ii= .int .i64 (j:Int)∧cZ row q oth j=some X∧Below w.heap.size w wr∧mI w.heap.size wr X j tv ad cp B) (fun _ ii _=>g-(intOf ii).toNat);case atStart=>exact⟨0,fun _=>[],_,_,_,gY _,rfl,rfl,HB0.out,HA0.out⟩
 case round=>
  obtain⟨j,X,ad,cp,B,hj,rfl,hX,hB,hA⟩:=hrel;have HX:=aA hX
  have HB:=aA hB;have HA:=aA hA
  clear hX;by_cases hlt:j<g
  ·have hjl:(j:Int)<(g:Int):=by omega
   have hmax:j+1≤maxLen:=by unfold maxLen;omega
   rcases HO.out.2.2.1 with h0|⟨ob,off,rfl,hobl,hocl⟩
   ·omega
   rcases HRO.out.2.2.1 with h0|⟨rb,roff,rfl,hrbl,hrcl⟩
   ·omega
   obtain⟨O1,hO1⟩:∃O1,oth j=O1:=⟨_,rfl⟩
   obtain⟨R1,hR1⟩:∃R1,row j=R1:=⟨_,rfl⟩
   have dr:Below wr.heap.size wr wr.drew:=(bQ _ _).drew;have hBd:=aB hB dr
   have hS:wr.drew.cell? ⟨ob,off+j,none⟩=some (.slice (adO j) O1.length (cpO j)):=(hBd.cell (p:=⟨ob,off+j,none⟩) hobl).trans (by rw[←hO1];exact hocl j hlt);have cR:wr.drew.cell? ⟨rb,roff+j,none⟩=some (.slice (adR j) R1.length (cpR j)):=(hBd.cell (p:=⟨rb,roff+j,none⟩) hrbl).trans (by rw[←hR1];exact hrcl j hlt)
   have RO1:Hid (RL wr.drew (adO j) (cpO j) O1):=by rw[←hO1];exact(HO.out.2.2.2 j hlt).below hBd
   have RR1:Hid (RL wr.drew (adR j) (cpR j) R1):=by rw[←hR1];exact(HRO.out.2.2.2 j hlt).below hBd
   have RQ1:=aA (HQ.out.below hBd);have okO:cM O1=true:=by rw[←hO1];exact HOK.out j hlt
   have okR:cM R1=true:=by rw[←hR1];exact HRK.out j hlt
   have HS:=aA hS;have HCR:=aA cR
   have HBd:=aA hBd;have HAd:=aA (hA.below dr)
   have hm:=wS (f:=lf q) (f2:=lf (kC 100 q)) (la:=q.length) (c:=100) (by omega) (by omega) (cB (show aL q.length (lf q)=true from HQK.out)).2 (cB (show aL O1.length (lf O1)=true from okO)).2 (fun i hi=>Eu 100 q hi) q.length (Nat.le_refl _);obtain⟨E,hE⟩:∃E,dN R1 q O1=E:=⟨_,rfl⟩
   have hE':dN (row j) q (oth j)=E:=by rw[hO1,hR1];exact hE
   have hc1:=PM RQ1.out HQK.out;have HC1:=aA hc1
   have hrbr:rb<wr.drew.heap.size:=cE _ _ cR;clear hocl hrcl hS cR hO1 hR1 hB hA hBd dr hc1;cases hP:cC (lf q) (lf O1) O1.length q.length with
   |none=>
    rw[hP]at hm;have hRn:R=none:=by rw[←HR.out];refine pR hlt HX.out (hE'.trans ?_);rw[←hE];unfold dN;rw[hP]
    subst hRn;have HC2:Hid (∀(W:World) (a b:Option Addr) (ca cb:Nat),RL W a ca (kC 100 q)→RL W b cb O1→Calls Tryz.prog 94 #[.slice a (kC 100 q).length ca,.slice b O1.length cb] W (CH W ([],false))):=fun W a b ca cb k1 k2=>by have:=LR k1 k2 (DS HQK.out) okO;rw[gM,hm]at this;rw[gM];exact this
    clear hm hP hE hE';go_wp2_with fail;have hS:=HS.out
    go_region_held3 (fun u=>u.cell? ⟨ob,off+j,none⟩=some (.slice (adO j) O1.length (cpO j))) (first|with_reducible exact hS|with_reducible exact((b5.cell (p:=⟨ob,off+j,none⟩) (cE _ _ hS)).trans hS)|with_reducible exact h6) (first|(go_at_call 150;refine HC1.out.mono ?_;rintro e w5 ⟨za,zc,rfl,b5,hz⟩)|(go_at_call 94;refine(HC2.out _ _ _ _ _ hz (RO1.out.below b5)).mono ?_;rintro e w6 ⟨ya,yc,rfl,b6,hy⟩;have h6:=(b6.cell (p:=⟨ob,off+j,none⟩) (cE w5 _ ((b5.cell (p:=⟨ob,off+j,none⟩) (cE _ _ hS)).trans hS))).trans ((b5.cell (p:=⟨ob,off+j,none⟩) (cE _ _ hS)).trans hS)))
    have HB6:=aA (aB (aB HBd.out b5) b6);clear hS b5 b6 hz hy h6;go_wp2;refine cW (results_tmp2 rfl _ _ _) rfl ?_;exact⟨HB6.out.alloc HB6.out.size _,.inr ⟨rfl,_,_,rfl⟩⟩
   |some P=>
    rw[hP]at hm;have okP:cM (kC 100 P)=true:=DS (fO (fH _ P hP) (cV (cB (show aL q.length (lf q)=true from HQK.out)).2 (cB (show aL O1.length (lf O1)=true from okO)).2 _ P (Nat.le_refl _) hP))
    have HC2:Hid (∀(W:World) (a b:Option Addr) (ca cb:Nat),RL W a ca (kC 100 q)→RL W b cb O1→Calls Tryz.prog 94 #[.slice a (kC 100 q).length ca,.slice b O1.length cb] W (CH W (kC 100 P,true))):=fun W a b ca cb k1 k2=>by have:=LR k1 k2 (DS HQK.out) okO;rw[gM,hm]at this;rw[gM];exact this
    have hE2:E=if(dB R1 P).length≤400 then some (dB R1 P)else none:=by rw[←hE];unfold dN;rw[hP]
    have hsl:(dB R1 P).length≤800:=by
     have h1:=zI R1 P;have h2:=(aF okR).1
     have h3:=fH _ P hP;omega
    clear hm hP hE;obtain⟨Y,hY⟩:∃Y,dB R1 P=Y:=⟨_,rfl⟩
    have HC3:Hid (∀(W:World) (a:Option Addr) (ca:Nat),RL W (adR j) (cpR j) R1→RL W a ca (kC 100 P)→Calls Tryz.prog 97 #[.slice (adR j) R1.length (cpR j),.slice a (kC 100 P).length ca] W fun r w'=>∃a' c',r= .returned (.slice a' Y.length c')∧Below W.heap.size W w'∧iA W.heap.size w' a' c' Y):=fun W a ca k1 k2=>by
     refine(pG W (adR j) a R1.length (cpR j) (kC 100 P).length ca (lf R1) (lf (kC 100 P)) k1 k2 (by have h2:=(aF okR).1;have h3:=(aF okP).1;omega) (fun i hi=>((cB (show aL R1.length (lf R1)=true from okR)).2 i hi).2) (fun i hi=>((cB (show aL (kC 100 P).length (lf (kC 100 P))=true from okP)).2 i hi).2)).mono ?_;rintro r w' ⟨v,rfl,hb,hown⟩;have e:fC (lf R1) R1.length (lf (kC 100 P)) (kC 100 P).length 0 0=Y:=by rw[←hY];rfl
     rw[e]at hown;obtain⟨a',c',rfl,hout⟩:=aI hown (by rw[←hY];omega);exact⟨a',c',rfl,hb,hout⟩
    rw[hY]at hE2 hsl;have HYE:=aA hE2
    have HE':=aA hE';have hYl:(Y.length:Int)≤800:=by omega
    clear hY hE2 hE' hsl;go_wp2_with fail;have hS:=HS.out
    go_region_held3 (fun u=>u.cell? ⟨ob,off+j,none⟩=some (.slice (adO j) O1.length (cpO j))) (first|with_reducible exact hS|with_reducible exact((b5.cell (p:=⟨ob,off+j,none⟩) (cE _ _ hS)).trans hS)|with_reducible exact h6) (first|(go_at_call 150;refine HC1.out.mono ?_;rintro e w5 ⟨za,zc,rfl,b5,hz⟩)|(go_at_call 94;refine(HC2.out _ _ _ _ _ hz (RO1.out.below b5)).mono ?_;rintro e w6 ⟨ya,yc,rfl,b6,hy⟩;have h6:=(b6.cell (p:=⟨ob,off+j,none⟩) (cE w5 _ ((b5.cell (p:=⟨ob,off+j,none⟩) (cE _ _ hS)).trans hS))).trans ((b5.cell (p:=⟨ob,off+j,none⟩) (cE _ _ hS)).trans hS)))
    have hB6:=aB (aB HBd.out b5) b6;have HB6:=aA hB6
    have b56:=aB b5 b6;have c6:w6.cell? ⟨rb,roff+j,none⟩=some (.slice (adR j) R1.length (cpR j)):=(b56.cell (p:=⟨rb,roff+j,none⟩) hrbr).trans HCR.out
    have R6:=aA (RR1.out.below b56);have Y6:=aA hy
    have A6:=aA (HAd.out.below b56);clear hS b5 b6 hz hy h6 hB6 b56 HC1 HC2;go_wp2_with fail;refine(HC3.out _ _ _ R6.out Y6.out).mono ?_;rintro r w7 ⟨va,vc,rfl,b7,hO7⟩;have HB7:=aA (aB HB6.out b7)
    have HA7:=aA (A6.out.below b7);have HO7:=aA hO7
    clear b7 hO7 c6 R6 Y6 HC3;by_cases hl4:Y.length≤400
    ·have hng:¬(400:Int)<(Y.length:Int):=by omega
     have hEs:dN (row j) q (oth j)=some Y:=by rw[HE'.out,HYE.out,if_pos hl4]
     have HXN:=aA (rF HX.out hEs);have hAX:mI w.heap.size w7 (cT X j Y) j u8 ad cp B:=HA7.out.congr (fun i hi=>(if_neg (by omega)).symm)
     have hA6X:mI w.heap.size w6 (cT X j Y) j u8 ad cp B:=A6.out.congr (fun i hi=>(if_neg (by omega)).symm);have hYj:cT X j Y j=Y:=if_pos rfl
     have HRND:Hid (∀(g0 cap0:Nat) (w5:World),w5.ownsRow w.heap.size 35 1 (.slice (some ⟨g0,0,none⟩) (j+1) cap0) (j+1) (AB ad (fun i=>(cT X j Y i).length) cp j++[.slice va Y.length vc])→(w7.alloc (.cells #[.slice va Y.length vc] 35)).grownBy w5 u8.ownBlock→(u8.ownBlock=some g0∨g0=(w7.alloc (.cells #[.slice va Y.length vc] 35)).heap.size)→g0<w5.heap.size→∃ad' cp' B',mI w.heap.size w5 (cT X j Y) (j+1) (.slice (some ⟨g0,0,none⟩) (j+1) cap0) ad' cp' B'):=fun g0 cap0 w5 h1 h2 h3 h4=>by
      refine mI.more hA6X hAX (a:=va) (c:=vc) (by rw[hYj];exact HO7.out) ?_ ?_ ?_ h4
      ·rw[hYj];exact h2
      ·rw[hYj];exact h1
      ·rw[hYj];exact h3
     have HAX:=aA hAX;have hsw:w.heap.size≤w7.heap.size:=HB7.out.size
     clear hEs hAX hA6X hYj hl4;go_wp2_with (at_builtin;refine wpList_append_lies _ rfl (.tmp 43) (.tmp 45) 23 rfl w.heap.size 35 i0 _ 1 24 Tryz.underlying23 hi0 hz0 hz1 hz2 rfl (by omega) _ j (AB ad (fun i=>(cT X j Y i).length) cp j) rfl (HAX.out.row.alloc _) ⟨w7.heap.size,0,none⟩ 1 1 [.slice va Y.length vc] rfl rfl (World.news_of_block (heap_alloc_new w7 _)) (iL _ _ _) (by omega) hmax (by omega) (by simp;omega) _ rfl ?_;intro g1 cap1 w8 hown2 hgrow2 hat2 hlt2;have HRR:=aA (HRND.out g1 cap1 w8 hown2 hgrow2 hat2 hlt2);have HB8:=aA ((HB7.out.alloc HB7.out.size _).grown hgrow2 (by simp;omega) (fun k e=>(HAX.out.row.lt k e).1));clear hown2 hgrow2 hat2 hlt2);obtain⟨ad',cp',B',hA8⟩:=HRR.out;go_roundw;case rel=>exact⟨j+1,cT X j Y,ad',cp',B',by omega,by go_num,HXN.out,HB8.out,hA8⟩
     case measure=>simp[intOf];omega
    ·have hgt:(400:Int)<(Y.length:Int):=by omega
     have hRn:R=none:=by rw[←HR.out];refine pR hlt HX.out ?_;rw[HE'.out,HYE.out,if_neg hl4]
     subst hRn;go_wp2;refine cW (results_tmp2 rfl _ _ _) rfl ?_;exact⟨HB7.out.alloc HB7.out.size _,.inr ⟨rfl,_,_,rfl⟩⟩
  ·have hjn:¬(j:Int)<(g:Int):=by omega
   have hje:j=g:=by omega
   subst hje;have hRs:R=some X:=by rw[←HR.out];exact HX.out
   subst hRs;obtain⟨qa',qc',Rb,etv,hO⟩:=hA.out (by omega);subst etv;have HOO:=aA hO
   clear hB hA hO;go_wp2;refine cW (results_tmp2 rfl _ _ _) rfl ?_;exact⟨HB.out,.inl ⟨X,qa',qc',ad,cp,Rb,B,rfl,rfl,HOO.out⟩⟩
end Go.Proofs.YtmlaedpamobmhaaGreat
