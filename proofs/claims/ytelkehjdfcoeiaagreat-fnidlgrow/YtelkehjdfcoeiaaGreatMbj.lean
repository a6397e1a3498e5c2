/-
  A basis on its way, as lists: rows of proofs, a pair looked at, the run.
-/
import Derived.Test.YtelkehjdfcoeiaaGreatMbi
set_option maxHeartbeats 8000000
set_option maxRecDepth 100000
namespace Go.Proofs.YtelkehjdfcoeiaaGreat
open Go.RowKit Go.Deep Go.Joins
set_option linter.unusedVariables false
def dT (R q X:List T):Option (List T):=match cM (lf q) (lf X) X.length q.length with
 |some P=>if(dC R P).length≤400 then some (dC R P)else none
 |none=>none
def cY (R:Nat→List T) (j:Nat) (Y:List T) (i:Nat):List T:=if i=j then Y else R i
def dB (row:Nat→List T) (q:List T) (oth:Nat→List T):Nat→Option (Nat→List T)
 |0=>some (fun _=>[])
 |j+1=>match dB row q oth j with
  |none=>none
  |some R=>match dT (row j) q (oth j)with
   |none=>none
   |some Y=>some (cY R j Y)
theorem pZ {row:Nat→List T} {q:List T} {oth:Nat→List T} {j:Nat} (h:dB row q oth j=none):∀d,dB row q oth (j+d)=none
 |0=>h
 |d+1=>by show(match dB row q oth (j+d)with|none=>none|some R=>match dT (row (j+d)) q (oth (j+d))with|none=>none|some Y=>some (cY R (j+d) Y))=none;rw[pZ h d]
theorem sI {row:Nat→List T} {q:List T} {oth:Nat→List T} {j g:Nat} {R:Nat→List T} (hj:j<g) (h:dB row q oth j=some R) (he:dT (row j) q (oth j)=none):dB row q oth g=none:=by
 have h1:dB row q oth (j+1)=none:=by
  show(match dB row q oth j with|none=>none|some R=>match dT (row j) q (oth j)with|none=>none|some Y=>some (cY R j Y))=none;rw[h];show(match dT (row j) q (oth j)with|none=>none|some Y=>some (cY R j Y))=none
  rw[he]
 have:=pZ h1 (g-(j+1))
 rwa[show j+1+(g-(j+1))=g by omega]at this
theorem tZ {row:Nat→List T} {q:List T} {oth:Nat→List T} {j:Nat} {R:Nat→List T} {Y:List T} (h:dB row q oth j=some R) (he:dT (row j) q (oth j)=some Y):dB row q oth (j+1)=some (cY R j Y):=by
 show(match dB row q oth j with|none=>none|some R=>match dT (row j) q (oth j)with|none=>none|some Y=>some (cY R j Y))=_;rw[h];show(match dT (row j) q (oth j)with|none=>none|some Y=>some (cY R j Y))=_
 rw[he]
theorem rO {R q X Y:List T} (hR:cF R=true) (hq:cF q=true) (hX:cF X=true) (h:dT R q X=some Y):cF Y=true:=by
 unfold dT at h;split at h
 ·rename_i P hP;split at h
  ·rename_i hl;cases h;exact gO hl (cO (aD hR).2 (dK (cJ hq).2 (cJ hX).2 _ P (Nat.le_refl _) hP)).1
  ·cases h
 ·cases h
theorem pG {row:Nat→List T} {q:List T} {oth:Nat→List T} {g:Nat} (hrow:∀i,i<g→cF (row i)=true) (hq:cF q=true) (ho:∀i,i<g→cF (oth i)=true):∀j R,j≤g→dB row q oth j=some R→∀i,i<j→cF (R i)=true
 |0,R,_,_,i,hi=>by omega
 |j+1,R,hj,h,i,hi=>by
  cases hr:dB row q oth j with
  |none=>have:=pZ hr 1;rw[this]at h;cases h
  |some R1=>
   cases he:dT (row j) q (oth j)with
   |none=>have:=sI (g:=j+1) (by omega) hr he;rw[this]at h;cases h
   |some Y=>
    rw[tZ hr he]at h;cases h;unfold cY;split
    ·exact rO (hrow j (by omega)) hq (ho j (by omega)) he
    ·exact pG hrow hq ho j R1 (by omega) hr i (by omega)
def jW (g:Nat) (P:Nat→Nat→List T) (qs:Nat→List T) (row:Option (Nat→List T)):Nat→Option (Nat→List T)
 |0=>row
 |t+1=>match jW g P qs row t with
  |none=>none
  |some R=>dB R (qs t) (P t) g
def fF (u:T):T:=⟨101-u.c,u.m⟩
def gW (g:Nat) (P:Nat→Nat→List T) (i k:Nat) (u v:T):Option (Nat→List T):=match dB (fun _=>[]) [fF u] (P i) g with
 |none=>none
 |some R=>dB R [v] (P k) g
def nH (g:Nat) (P:Nat→Nat→List T) (i k:Nat) (u v:T) (nq:Nat) (qs:Nat→List T):Option (Nat→List T):=jW g P qs (gW g P i k u v) nq
theorem kV {g:Nat} {P:Nat→Nat→List T} {qs:Nat→List T} {row:Option (Nat→List T)} {t:Nat} (h:jW g P qs row t=none):∀d,jW g P qs row (t+d)=none
 |0=>h
 |d+1=>by show(match jW g P qs row (t+d)with|none=>none|some R=>dB R (qs (t+d)) (P (t+d)) g)=none;rw[kV h d]
structure Bs where
 m:Nat
 L:Nat→List T
 P:Nat→Nat→List T
def wO (P:Nat→Nat→List T) (m:Nat) (R:Nat→List T) (i:Nat):Nat→List T:=if i=m then R else P i
def FQ (B:Bs) (r:List T) (R:Nat→List T):Bs:=⟨B.m+1,cY B.L B.m r,wO B.P B.m R⟩
abbrev NU (o:Int) (A C:List T):T:=eZ o A.length (lf A) C.length (lf C)
abbrev PT (o:Int) (A C:List T):T:=fC o A.length (lf A) C.length (lf C)
abbrev SU (o:Int) (A C:List T):List T×Bool:=cZ o (lf A) A.length (lf C) C.length
def gI (o:Int) (g:Nat) (B:Bs) (i k:Nat):Option Bs:=
 match SU o (B.L i) (B.L k)with
 |(s,true)=>(match aY o s B.m (lN B.L) (fN B.L)with
  |some S=>if S.r.length=0 then some B else if B.m=12 then none else(match nH g B.P i k (NU o (B.L i) (B.L k)) (PT o (B.L i) (B.L k)) B.m S.q with
   |some R=>some (FQ B S.r R)
   |none=>none)
  |none=>none)
 |(_,false)=>none
def nS (o:Int) (g:Nat):Nat→Bs→Nat→Bs×Bool
 |0,B,j=>(B,decide (cG B.m≤j))
 |f+1,B,j=>if j<cG B.m then(match gI o g B (pq j).1 (pq j).2 with
  |none=>(B,false)
  |some B'=>nS o g f B' (j+1))else(B,true)
def iW (k i:Nat):List T:=if i=k then[⟨1,⟨0,0,0,0⟩⟩]else[]
def KH (n:Nat) (L:Nat→List T):Bs:=⟨n,L,fun k=>iW k⟩
def eS (o:Int) (n:Nat) (L:Nat→List T) (fuel:Int):Bs×Bool:=
 if(1≤o∧o≤3)∧bB n (lN L) (fN L)=true∧(1≤n∧n≤3)∧(0≤fuel∧fuel≤60)then nS o n fuel.toNat (KH n L) 0 else(⟨0,fun _=>[],fun _ _=>[]⟩,false)
structure DH (o:Int) (g:Nat) (B:Bs):Prop where
 ho:1≤o∧o≤3
 l:bB B.m (lN B.L) (fN B.L)=true
 p:∀i,i<B.m→∀j,j<g→cF (B.P i j)=true
theorem Gj:cF [(⟨1,⟨0,0,0,0⟩⟩:T)]=true:=by decide
theorem GA {o:Int} {n:Nat} {L:Nat→List T} (ho:1≤o∧o≤3) (hl:bB n (lN L) (fN L)=true):DH o n (KH n L):=⟨ho,hl,fun i _ j _=>by
 show cF (iW i j)=true;unfold iW;split
 ·exact Gj
 ·exact oH⟩
theorem BO {a:Int} (h1:1≤a) (h2:a≤100):1≤101-a∧101-a≤100:=by omega
theorem sR {o:Int} {A C:List T} {s:List T} (h:SU o A C=(s,true)):(cF [NU o A C]=true∧cF [fF (NU o A C)]=true∧cF [PT o A C]=true)∧((NU o A C).m.ok=true∧1≤(NU o A C).c∧(NU o A C).c≤100)∧((PT o A C).m.ok=true∧1≤(PT o A C).c∧(PT o A C).c≤100):=by
 have hs:fM o A.length (lf A) C.length (lf C)=true:=by
  unfold SU cZ at h;split at h
  ·assumption
  ·cases h
 obtain⟨h1,h2⟩:=wG hs;have g1:=BO h1.2.1 h1.2.2
 exact⟨⟨iX h1,iX ⟨h1.1,g1.1,g1.2⟩,iX h2⟩,h1,h2⟩
theorem zH {g:Nat} {P:Nat→Nat→List T} {i k m:Nat} {u v:T} {qs:Nat→List T} (hi:i<m) (hk:k<m) (hP:∀i,i<m→∀j,j<g→cF (P i j)=true) (hu:cF [fF u]=true) (hv:cF [v]=true) (hq:∀t,t<m→cF (qs t)=true):∀t R,t≤m→jW g P qs (gW g P i k u v) t=some R→∀j,j<g→cF (R j)=true
 |0,R,_,h=>by
  change gW g P i k u v=some R at h;unfold gW at h;split at h
  ·cases h
  ·rename_i R1 h1;exact pG (pG (fun _ _=>oH) hu (hP i hi) g R1 (Nat.le_refl _) h1) hv (hP k hk) g R (Nat.le_refl _) h
 |t+1,R,ht,h=>by
  cases hr:jW g P qs (gW g P i k u v) t with
  |none=>have:=kV hr 1;rw[this]at h;cases h
  |some R1=>
   have h':dB R1 (qs t) (P t) g=some R:=by
    have:jW g P qs (gW g P i k u v) (t+1)=dB R1 (qs t) (P t) g:=by show(match jW g P qs (gW g P i k u v) t with|none=>none|some R=>dB R (qs t) (P t) g)=_;rw[hr]
    rw[←this];exact h
   exact pG (zH hi hk hP hu hv hq t R1 (by omega) hr) (hq t (by omega)) (hP t (by omega)) g R (Nat.le_refl _) h'
theorem VI {m:Nat} {L:Nat→List T} (hl:bB m (lN L) (fN L)=true) (hm:m≠12) {r:List T} (hr:cF r=true) (h0:r.length≠0):bB (m+1) (lN (cY L m r)) (fN (cY L m r))=true:=by
 have h:=aQ hl;refine decide_eq_true ⟨by omega,fun i hi=>?_⟩;show(cY L m r i).length≠0∧cF (cY L m r i)=true
 unfold cY;split
 ·exact⟨h0,hr⟩
 ·exact h.2 i (by omega)
theorem wI {o:Int} {g:Nat} {B B':Bs} {i k:Nat} (h:DH o g B) (hi:i<B.m) (hk:k<B.m) (hs:gI o g B i k=some B'):DH o g B':=by
 unfold gI at hs;split at hs
 ·rename_i s hsp;split at hs
  ·rename_i S hS;split at hs
   ·cases hs;exact h
   ·rename_i h0;split at hs
    ·cases hs
    ·rename_i h12;split at hs
     ·rename_i R hR;cases hs;obtain⟨d1,d2⟩:=cU hS;obtain⟨⟨_,g2,g3⟩,_⟩:=sR hsp;refine⟨h.ho,VI h.l h12 (gO (by have:=d1.r.2;omega) d1.r.1) h0,fun a ha j hj=>?_⟩;show cF (wO B.P B.m R a j)=true
      unfold wO;split
      ·exact zH hi hk h.p g2 g3 (fun t _=>gO (by have:=(d1.q t).2;omega) (d1.q t).1) B.m R (Nat.le_refl _) hR j hj
      ·have ha':a<B.m+1:=ha;exact h.p a (by omega) j hj
     ·cases hs
  ·cases hs
 ·cases hs
theorem Hj {o:Int} {g:Nat} {B B':Bs} {i k:Nat} (hs:gI o g B i k=some B'):B.m≤B'.m:=by
 unfold gI at hs;split at hs
 ·split at hs
  ·split at hs
   ·cases hs;exact Nat.le_refl _
   ·split at hs
    ·cases hs
    ·split at hs
     ·cases hs;exact Nat.le_succ _
     ·cases hs
  ·cases hs
 ·cases hs
theorem tT:(Tryz.prog.info? 41).map (fun i=>(i.zero,i.size,i.bytes))=some (some (.slice none 0 0),1,24):=by kernel_rfl
theorem jT (a:Option Addr) (n c:Nat):∀u∈[Value.slice a n c],u.oneCell'=true:=fun u hu=>by
 have:u= .slice a n c:=by simpa using hu
 subst this;rfl
theorem oJ.congr {lo:Nat} {w:World} {q q':Nat→List T} {j:Nat} {tv:Value} {ad:Nat→Option Addr} {cp B:Nat→Nat} (h:oJ lo w q j tv ad cp B) (he:∀i,i<j→q i=q' i):oJ lo w q' j tv ad cp B where
 row:=by
  have e:DN ad (fun i=>(q i).length) cp j=DN ad (fun i=>(q' i).length) cp j:=by
   unfold DN;refine List.map_congr_left (fun i hi=>?_);show Value.slice (ad i) (q i).length (cp i)=Value.slice (ad i) (q' i).length (cp i)
   rw[he i (List.mem_range.1 hi)]
  rw[←e];exact h.row
 el:=fun i hi=>by rw[←he i hi];exact h.el i hi
 ap:=fun i k h1 h2=>by rw[←he i (by omega),←he k h2];exact h.ap i k h1 h2
 lo:=h.lo
theorem oJ.empty (w:World) (q:Nat→List T):oJ w.heap.size (w.alloc (.cells #[] 41)) q 0 (.slice (some ⟨w.heap.size,0,none⟩) 0 0) (fun _=>none) (fun _=>0) (fun _=>0):=
 ⟨⟨rfl,.inr ⟨w.heap.size,0,#[],rfl,Nat.le_refl _,heap_alloc_new w (.cells #[] 41),Nat.le_refl _,Nat.zero_le _,rfl,rfl⟩⟩,fun i hi=>by omega,fun i k _ hk=>by omega,by simp⟩
theorem oJ.more {lo:Nat} {w0 w1 w5:World} {q:Nat→List T} {j:Nat} {tv:Value} {ad:Nat→Option Addr} {cp B:Nat→Nat} (h0:oJ lo w0 q j tv ad cp B) (h:oJ lo w1 q j tv ad cp B) {a:Option Addr} {c:Nat} (ho:jG w0.heap.size w1 a c (q j)) {g0 cap0:Nat} (hgrow:(w1.alloc (.cells #[.slice a (q j).length c] 41)).grownBy w5 tv.ownBlock) (hown:w5.ownsRow lo 41 1 (.slice (some ⟨g0,0,none⟩) (j+1) cap0) (j+1) (DN ad (fun i=>(q i).length) cp j++[.slice a (q j).length c])) (hat:tv.ownBlock=some g0∨g0=(w1.alloc (.cells #[.slice a (q j).length c] 41)).heap.size) (hlt:g0<w5.heap.size):∃ad' cp' B',oJ lo w5 q (j+1) (.slice (some ⟨g0,0,none⟩) (j+1) cap0) ad' cp' B':=
 ⟨_,_,_,h.round (m:=w0.heap.size) (fun i hi h1=>by
  rcases(h0.el i hi).2.2 with hz|⟨_,_,_,h3,_⟩
  ·exact absurd hz h1
  ·exact h3) (fun k hk=>(h0.row.lt k hk).2) h0.lo ho hgrow hown (hat.imp id (fun e=>e.trans (by simp))) hlt⟩
def sW (k:Int) (i:Nat):List T:=if(i:Int)=k then[⟨1,⟨0,0,0,0⟩⟩]else[]
def Lj (w:World) (n:Nat) (q:Nat→List T) (r:Ending) (w':World):Prop:=∃ra rc ad cp Rb B,r= .returned (.slice ra n rc)∧Below w.heap.size w w'∧jY w.heap.size w' ra n rc ad (fun i=>(q i).length) cp (fun i=>lf (q i)) Rb B
theorem OT (w:World) (n:Nat) (k:Int) (hn:n≤12):Calls Tryz.prog 32 #[.int .i64 (n:Int),.int .i64 k] w (Lj w n (sW k)):=by
 obtain⟨i0,hi0,hz0,hz1,hz2⟩:=info_parts tT;have hnl:(n:Int)≤12:=by omega
 have HQ0:=aA (oJ.empty w (sW k));have HB0:=aA (aC w (.cells #[] 41))
 go_enter Tryz.func32,Tryz.ntmps32;go_wp2;go_loopw [5,6] (fun tv ii wr=>∃(j:Nat) (ad:Nat→Option Addr) (cp B:Nat→Nat),j≤n∧ii= .int .i64 (j:Int)∧Below w.heap.size w wr∧oJ w.heap.size wr (sW k) j tv ad cp B) (fun _ ii _=>n-(intOf ii).toNat);case atStart=>exact⟨0,_,_,_,Nat.zero_le _,rfl,HB0.out,HQ0.out⟩
 case round=>
  obtain⟨j,ad,cp,B,hj,rfl,hB,hA⟩:=hrel;have HB:=aA hB
  have HA:=aA hA;by_cases hlt:j<n
  ·have hjl:(j:Int)<(n:Int):=by omega
   have hmax:j+1≤maxLen:=by unfold maxLen;omega
   by_cases hjk:(j:Int)=k
   ·have hjb:((j:Int)==k)=true:=by simpa using hjk
    have hq:sW k j=[⟨1,⟨0,0,0,0⟩⟩]:=if_pos hjk;have b1:=aC wr (.cells #[.int .i64 1,.int .i64 0,.int .i64 0,.int .i64 0,.int .i64 0] 86)
    have hA1:=hA.below b1;have hO1:jG wr.heap.size (wr.alloc (.cells #[.int .i64 1,.int .i64 0,.int .i64 0,.int .i64 0,.int .i64 0] 86)) (some ⟨wr.heap.size,0,none⟩) 1 (sW k j):=by
     rw[hq];have:=World.ownsRow_lit (base:=wr.heap.size) (e:=86) (size:=5) wr #[.int .i64 1,.int .i64 0,.int .i64 0,.int .i64 0,.int .i64 0] 1 (Nat.le_refl _) (by unfold maxLen;omega) rfl
     obtain⟨a',c',e,ho⟩:=aI (L:=[⟨1,⟨0,0,0,0⟩⟩]) this (by simp);cases e;exact ho
    have hB1:=aB hB b1;have HRND:Hid (∀(g0 cap0:Nat) (w5:World),w5.ownsRow w.heap.size 41 1 (.slice (some ⟨g0,0,none⟩) (j+1) cap0) (j+1) (DN ad (fun i=>(sW k i).length) cp j++[.slice (some ⟨wr.heap.size,0,none⟩) 1 1])→((wr.alloc (.cells #[.int .i64 1,.int .i64 0,.int .i64 0,.int .i64 0,.int .i64 0] 86)).alloc (.cells #[.slice (some ⟨wr.heap.size,0,none⟩) 1 1] 41)).grownBy w5 u5.ownBlock→(u5.ownBlock=some g0∨g0=((wr.alloc (.cells #[.int .i64 1,.int .i64 0,.int .i64 0,.int .i64 0,.int .i64 0] 86)).alloc (.cells #[.slice (some ⟨wr.heap.size,0,none⟩) 1 1] 41)).heap.size)→g0<w5.heap.size→∃ad' cp' B',oJ w.heap.size w5 (sW k) (j+1) (.slice (some ⟨g0,0,none⟩) (j+1) cap0) ad' cp' B'):=fun g0 cap0 w5 h1 h2 h3 h4=>by
     refine oJ.more hA hA1 hO1 ?_ ?_ ?_ h4
     ·rw[hq];exact h2
     ·rw[hq];exact h1
     ·rw[hq];exact h3
    have HA1:=aA hA1;have HB1:=aA hB1
    have HN:=aA (heap_alloc_new (wr.alloc (.cells #[.int .i64 1,.int .i64 0,.int .i64 0,.int .i64 0,.int .i64 0] 86)) (.cells #[.slice (some ⟨wr.heap.size,0,none⟩) 1 1] 41));have hsw:w.heap.size≤wr.heap.size:=hB.size
    clear hq hjk b1 hA1 hO1 hB1 hA hB;go_wp2_with (at_builtin;refine wpList_append_lies _ rfl (.tmp 16) (.tmp 19) 24 rfl w.heap.size 41 i0 _ 1 24 Tryz.underlying24 hi0 hz0 hz1 hz2 rfl (by omega) _ j (DN ad (fun i=>(sW k i).length) cp j) rfl (HA1.out.row.alloc _) ⟨wr.heap.size+1,0,none⟩ 1 1 [.slice (some ⟨wr.heap.size,0,none⟩) 1 1] rfl rfl (by have:=HN.out;rw[World.size_alloc]at this;exact World.news_of_block this) (jT _ _ _) (by omega) hmax (by omega) (by simp;omega) _ rfl ?_;intro g1 cap1 w7 hown2 hgrow2 hat2 hlt2;have HR:=aA (HRND.out g1 cap1 w7 hown2 hgrow2 hat2 hlt2);have HB7:=aA ((HB1.out.alloc HB1.out.size _).grown hgrow2 (by simp;omega) (fun k e=>(HA1.out.row.lt k e).1));clear hown2 hgrow2 hat2 hlt2);obtain⟨ad',cp',B',hA7⟩:=HR.out;go_roundw;case rel=>exact⟨j+1,ad',cp',B',by omega,by go_num,HB7.out,hA7⟩
    case measure=>simp[intOf];omega
   ·have hjb:((j:Int)==k)=false:=by simpa using hjk
    have hq:sW k j=[]:=if_neg hjk;have b1:=aC wr (.cells #[] 86)
    have hA1:=hA.below b1;have hO1:jG wr.heap.size (wr.alloc (.cells #[] 86)) (some ⟨wr.heap.size,0,none⟩) 0 (sW k j):=by rw[hq];exact⟨⟨Nat.le_refl _,by simp,.inl rfl⟩,.inl rfl,.inl rfl⟩
    have hB1:=aB hB b1;have HRND:Hid (∀(g0 cap0:Nat) (w5:World),w5.ownsRow w.heap.size 41 1 (.slice (some ⟨g0,0,none⟩) (j+1) cap0) (j+1) (DN ad (fun i=>(sW k i).length) cp j++[.slice (some ⟨wr.heap.size,0,none⟩) 0 0])→((wr.alloc (.cells #[] 86)).alloc (.cells #[.slice (some ⟨wr.heap.size,0,none⟩) 0 0] 41)).grownBy w5 u5.ownBlock→(u5.ownBlock=some g0∨g0=((wr.alloc (.cells #[] 86)).alloc (.cells #[.slice (some ⟨wr.heap.size,0,none⟩) 0 0] 41)).heap.size)→g0<w5.heap.size→∃ad' cp' B',oJ w.heap.size w5 (sW k) (j+1) (.slice (some ⟨g0,0,none⟩) (j+1) cap0) ad' cp' B'):=fun g0 cap0 w5 h1 h2 h3 h4=>by
     refine oJ.more hA hA1 hO1 ?_ ?_ ?_ h4
     ·rw[hq];exact h2
     ·rw[hq];exact h1
     ·rw[hq];exact h3
    have HA1:=aA hA1;have HB1:=aA hB1
    have HN:=aA (heap_alloc_new (wr.alloc (.cells #[] 86)) (.cells #[.slice (some ⟨wr.heap.size,0,none⟩) 0 0] 41));have hsw:w.heap.size≤wr.heap.size:=hB.size
    clear hq hjk b1 hA1 hO1 hB1 hA hB;go_wp2_with (at_builtin;refine wpList_append_lies _ rfl (.tmp 21) (.tmp 23) 24 rfl w.heap.size 41 i0 _ 1 24 Tryz.underlying24 hi0 hz0 hz1 hz2 rfl (by omega) _ j (DN ad (fun i=>(sW k i).length) cp j) rfl (HA1.out.row.alloc _) ⟨wr.heap.size+1,0,none⟩ 1 1 [.slice (some ⟨wr.heap.size,0,none⟩) 0 0] rfl rfl (by have:=HN.out;rw[World.size_alloc]at this;exact World.news_of_block this) (jT _ _ _) (by omega) hmax (by omega) (by simp;omega) _ rfl ?_;intro g1 cap1 w7 hown2 hgrow2 hat2 hlt2;have HR:=aA (HRND.out g1 cap1 w7 hown2 hgrow2 hat2 hlt2);have HB7:=aA ((HB1.out.alloc HB1.out.size _).grown hgrow2 (by simp;omega) (fun k e=>(HA1.out.row.lt k e).1));clear hown2 hgrow2 hat2 hlt2);obtain⟨ad',cp',B',hA7⟩:=HR.out;go_roundw;case rel=>exact⟨j+1,ad',cp',B',by omega,by go_num,HB7.out,hA7⟩
    case measure=>simp[intOf];omega
  ·have hjn:¬(j:Int)<(n:Int):=by omega
   have hje:j=n:=by omega
   subst hje;obtain⟨qa,qc,R,etv,hO⟩:=hA.out (by omega);subst etv;have HO:=aA hO
   clear hB hA hO;go_wp2;go_ret;exact⟨qa,qc,ad,cp,R,B,rfl,HB.out,HO.out⟩
theorem Fk (w:World) (n:Nat) (hn:n≤12):Calls Tryz.prog 120 #[.int .i64 (n:Int)] w (Lj w n (fun _=>[])):=by
 have hq:sW (-1)=fun _=>[]:=funext fun i=>if_neg (by omega);have HC:=OT w n (-1) hn
 rw[hq]at HC;have HCC:=aA HC
 clear HC hq;go_enter Tryz.func120,Tryz.ntmps120;go_wp2_with fail;refine HCC.out.mono ?_;rintro r w1 ⟨ra,rc,ad,cp,Rb,B,rfl,b1,ho⟩;have HO:=aA ho
 have HB:=aA b1;clear b1 ho;go_wp2;go_ret;exact⟨ra,rc,ad,cp,Rb,B,rfl,HB.out,HO.out⟩
def uN (w:World) (n:Nat) (R:Option (Nat→List T)) (r:Ending) (w':World):Prop:=
 Below w.heap.size w w'∧((∃q ra rc ad cp Rb B,R=some q∧r= .returned (.tuple #[.slice ra n rc,.bool true])∧jY w.heap.size w' ra n rc ad (fun i=>(q i).length) cp (fun i=>lf (q i)) Rb B)∨(R=none∧∃ra rc,r= .returned (.tuple #[.slice ra 0 rc,.bool false])))
theorem IG {q:List T} (hq:cF q=true):cF (iS 100 q)=true:=gO (by rw[eG];exact(aD hq).1) (gR (by omega) (by omega) (aD hq).2)
theorem VA {w:World} {a:Option Addr} {c:Nat} {q:List T} (h:RL w a c q) (hq:cF q=true):Calls Tryz.prog 59 #[.int .i64 100,.slice a q.length c] w (Lh w (iS 100 q)):=by
 refine(BI w 100 a q.length c (lf q) h (by omega) (by omega) (by have:=(aD hq).1;omega) (fun i hi=>(cJ (show aO q.length (lf q)=true from hq)).2 i hi |>.2)).mono ?_;rintro r w' ⟨v,rfl,hb,ho⟩;rw[if_neg (by omega)]at ho;have e:IH 100 (lf q) q.length=iS 100 q:=rfl
 rw[e]at ho;exact ZZ (by rw[eG];exact(aD hq).1) ⟨v,rfl,hb,by rw[eG];exact ho⟩
theorem QU {w:World} {a b:Option Addr} {ca cb:Nat} {q X:List T} (ha:RL w a ca q) (hb:RL w b cb X) (hq:cF q=true) (hX:cF X=true):Calls Tryz.prog 115 #[.slice a q.length ca,.slice b X.length cb] w (JI w (kW (cM (lf q) (lf X) X.length q.length))):=by
 refine(ZW w a b q.length ca X.length cb (lf q) (lf X) ha hb (aD hq).1 (aD hX).1 (cJ hq).2 (cJ hX).2).mono fun _ _ h=>NN ?_ h;cases hm:cM (lf q) (lf X) X.length q.length with
 |none=>exact Nat.zero_le _
 |some K=>exact gN _ K hm
theorem GH (w:World) (g:Nat) (hg:g≤12) (ra:Option Addr) (rc:Nat) (adR:Nat→Option Addr) (cpR:Nat→Nat) (row:Nat→List T) (hr:eQ w ra g rc adR (lN row) cpR (fN row)) (hrok:∀i,i<g→cF (row i)=true) (qa:Option Addr) (qc:Nat) (q:List T) (hq:RL w qa qc q) (hqok:cF q=true) (oa:Option Addr) (oc:Nat) (adO:Nat→Option Addr) (cpO:Nat→Nat) (oth:Nat→List T) (ho:eQ w oa g oc adO (lN oth) cpO (fN oth)) (hook:∀i,i<g→cF (oth i)=true):Calls Tryz.prog 119 #[.slice ra g rc,.slice qa q.length qc,.slice oa g oc] w (uN w g (dB row q oth g)):=by
 obtain⟨i0,hi0,hz0,hz1,hz2⟩:=info_parts tT;have hgl:(g:Int)≤12:=by omega
 obtain⟨R,hR⟩:∃R,dB row q oth g=R:=⟨_,rfl⟩
 rw[hR];have HR:=aA hR
 have HRO:=aA hr;have HQ:=aA hq
 have HO:=aA ho;have HB0:=aA (aC w (.cells #[] 41))
 have HA0:=aA (oJ.empty w (fun _=>[]));have HQK:=aA hqok
 have HOK:=aA hook;have HRK:=aA hrok
 clear hr hq ho hR hqok hook hrok;go_enter Tryz.func119,Tryz.ntmps119;go_wp2;go_loopw [8,9] (fun tv ii wr=>∃(j:Nat) (X:Nat→List T) (ad:Nat→Option Addr) (cp B:Nat→Nat),j≤g∧ii= .int .i64 (j:Int)∧dB row q oth j=some X∧Below w.heap.size w wr∧oJ w.heap.size wr X j tv ad cp B) (fun _ ii _=>g-(intOf ii).toNat);case atStart=>exact⟨0,fun _=>[],_,_,_,Nat.zero_le _,rfl,rfl,HB0.out,HA0.out⟩
 case round=>
  obtain⟨j,X,ad,cp,B,hj,rfl,hX,hB,hA⟩:=hrel;have HX:=aA hX
  have HB:=aA hB;have HA:=aA hA
  clear hX;by_cases hlt:j<g
  ·have hjl:(j:Int)<(g:Int):=by omega
   have hmax:j+1≤maxLen:=by unfold maxLen;omega
   rcases HO.out.2.2.1 with h0|⟨ob,off,rfl,hobl,hocl⟩
   ·omega
   rcases HRO.out.2.2.1 with h0|⟨rb,roff,rfl,hrbl,hrcl⟩
   ·omega
   obtain⟨O1,hO1⟩:∃O1,oth j=O1:=⟨_,rfl⟩
   obtain⟨R1,hR1⟩:∃R1,row j=R1:=⟨_,rfl⟩
   have dr:Below wr.heap.size wr wr.drew:=(bG _ _).drew;have hBd:=aB hB dr
   have hS:wr.drew.cell? ⟨ob,off+j,none⟩=some (.slice (adO j) O1.length (cpO j)):=(hBd.cell (p:=⟨ob,off+j,none⟩) hobl).trans (by rw[←hO1];exact hocl j hlt);have cR:wr.drew.cell? ⟨rb,roff+j,none⟩=some (.slice (adR j) R1.length (cpR j)):=(hBd.cell (p:=⟨rb,roff+j,none⟩) hrbl).trans (by rw[←hR1];exact hrcl j hlt)
   have RO1:Hid (RL wr.drew (adO j) (cpO j) O1):=by rw[←hO1];exact(HO.out.2.2.2 j hlt).below hBd
   have RR1:Hid (RL wr.drew (adR j) (cpR j) R1):=by rw[←hR1];exact(HRO.out.2.2.2 j hlt).below hBd
   have RQ1:=aA (HQ.out.below hBd);have okO:cF O1=true:=by rw[←hO1];exact HOK.out j hlt
   have okR:cF R1=true:=by rw[←hR1];exact HRK.out j hlt
   have HS:=aA hS;have HCR:=aA cR
   have HBd:=aA hBd;have HAd:=aA (hA.below dr)
   have hm:=zL (f:=lf q) (f2:=lf (iS 100 q)) (la:=q.length) (c:=100) (by omega) (by omega) (cJ (show aO q.length (lf q)=true from HQK.out)).2 (cJ (show aO O1.length (lf O1)=true from okO)).2 (fun i hi=>YZ 100 q hi) q.length (Nat.le_refl _);obtain⟨E,hE⟩:∃E,dT R1 q O1=E:=⟨_,rfl⟩
   have hE':dT (row j) q (oth j)=E:=by rw[hO1,hR1];exact hE
   have hc1:=VA RQ1.out HQK.out;have HC1:=aA hc1
   have hrbr:rb<wr.drew.heap.size:=dD _ _ cR;clear hocl hrcl hS cR hO1 hR1 hB hA hBd dr hc1;cases hP:cM (lf q) (lf O1) O1.length q.length with
   |none=>
    rw[hP]at hm;have hRn:R=none:=by rw[←HR.out];refine sI hlt HX.out (hE'.trans ?_);rw[←hE];unfold dT;rw[hP]
    subst hRn;have HC2:Hid (∀(W:World) (a b:Option Addr) (ca cb:Nat),RL W a ca (iS 100 q)→RL W b cb O1→Calls Tryz.prog 115 #[.slice a (iS 100 q).length ca,.slice b O1.length cb] W (JI W ([],false))):=fun W a b ca cb k1 k2=>by have:=QU k1 k2 (IG HQK.out) okO;rw[eG,hm]at this;rw[eG];exact this
    clear hm hP hE hE';go_wp2_with fail;have hS:=HS.out
    go_region_held3 (fun u=>u.cell? ⟨ob,off+j,none⟩=some (.slice (adO j) O1.length (cpO j))) (first|with_reducible exact hS|with_reducible exact((b5.cell (p:=⟨ob,off+j,none⟩) (dD _ _ hS)).trans hS)|with_reducible exact h6) (first|(go_at_call 59;refine HC1.out.mono ?_;rintro e w5 ⟨za,zc,rfl,b5,hz⟩)|(go_at_call 115;refine(HC2.out _ _ _ _ _ hz (RO1.out.below b5)).mono ?_;rintro e w6 ⟨ya,yc,rfl,b6,hy⟩;have h6:=(b6.cell (p:=⟨ob,off+j,none⟩) (dD w5 _ ((b5.cell (p:=⟨ob,off+j,none⟩) (dD _ _ hS)).trans hS))).trans ((b5.cell (p:=⟨ob,off+j,none⟩) (dD _ _ hS)).trans hS)))
    have HB6:=aA (aB (aB HBd.out b5) b6);clear hS b5 b6 hz hy h6;go_wp2;refine cD (results_tmp2 rfl _ _ _) rfl ?_;exact⟨HB6.out.alloc HB6.out.size _,.inr ⟨rfl,_,_,rfl⟩⟩
   |some P=>
    rw[hP]at hm;have okP:cF (iS 100 P)=true:=IG (gO (gN _ P hP) (dK (cJ (show aO q.length (lf q)=true from HQK.out)).2 (cJ (show aO O1.length (lf O1)=true from okO)).2 _ P (Nat.le_refl _) hP))
    have HC2:Hid (∀(W:World) (a b:Option Addr) (ca cb:Nat),RL W a ca (iS 100 q)→RL W b cb O1→Calls Tryz.prog 115 #[.slice a (iS 100 q).length ca,.slice b O1.length cb] W (JI W (iS 100 P,true))):=fun W a b ca cb k1 k2=>by have:=QU k1 k2 (IG HQK.out) okO;rw[eG,hm]at this;rw[eG];exact this
    have hE2:E=if(dC R1 P).length≤400 then some (dC R1 P)else none:=by rw[←hE];unfold dT;rw[hP]
    have hsl:(dC R1 P).length≤800:=by
     have h1:=CW R1 P;have h2:=(aD okR).1
     have h3:=gN _ P hP;omega
    clear hm hP hE;obtain⟨Y,hY⟩:∃Y,dC R1 P=Y:=⟨_,rfl⟩
    have HC3:Hid (∀(W:World) (a:Option Addr) (ca:Nat),RL W (adR j) (cpR j) R1→RL W a ca (iS 100 P)→Calls Tryz.prog 118 #[.slice (adR j) R1.length (cpR j),.slice a (iS 100 P).length ca] W fun r w'=>∃a' c',r= .returned (.slice a' Y.length c')∧Below W.heap.size W w'∧jG W.heap.size w' a' c' Y):=fun W a ca k1 k2=>by
     refine(rK W (adR j) a R1.length (cpR j) (iS 100 P).length ca (lf R1) (lf (iS 100 P)) k1 k2 (by have h2:=(aD okR).1;have h3:=(aD okP).1;omega) (fun i hi=>((cJ (show aO R1.length (lf R1)=true from okR)).2 i hi).2) (fun i hi=>((cJ (show aO (iS 100 P).length (lf (iS 100 P))=true from okP)).2 i hi).2)).mono ?_;rintro r w' ⟨v,rfl,hb,hown⟩;have e:iJ (lf R1) R1.length (lf (iS 100 P)) (iS 100 P).length 0 0=Y:=by rw[←hY];rfl
     rw[e]at hown;obtain⟨a',c',rfl,hout⟩:=aI hown (by rw[←hY];omega);exact⟨a',c',rfl,hb,hout⟩
    rw[hY]at hE2 hsl;have HYE:=aA hE2
    have HE':=aA hE';have hYl:(Y.length:Int)≤800:=by omega
    clear hY hE2 hE' hsl;go_wp2_with fail;have hS:=HS.out
    go_region_held3 (fun u=>u.cell? ⟨ob,off+j,none⟩=some (.slice (adO j) O1.length (cpO j))) (first|with_reducible exact hS|with_reducible exact((b5.cell (p:=⟨ob,off+j,none⟩) (dD _ _ hS)).trans hS)|with_reducible exact h6) (first|(go_at_call 59;refine HC1.out.mono ?_;rintro e w5 ⟨za,zc,rfl,b5,hz⟩)|(go_at_call 115;refine(HC2.out _ _ _ _ _ hz (RO1.out.below b5)).mono ?_;rintro e w6 ⟨ya,yc,rfl,b6,hy⟩;have h6:=(b6.cell (p:=⟨ob,off+j,none⟩) (dD w5 _ ((b5.cell (p:=⟨ob,off+j,none⟩) (dD _ _ hS)).trans hS))).trans ((b5.cell (p:=⟨ob,off+j,none⟩) (dD _ _ hS)).trans hS)))
    have hB6:=aB (aB HBd.out b5) b6;have HB6:=aA hB6
    have b56:=aB b5 b6;have c6:w6.cell? ⟨rb,roff+j,none⟩=some (.slice (adR j) R1.length (cpR j)):=(b56.cell (p:=⟨rb,roff+j,none⟩) hrbr).trans HCR.out
    have R6:=aA (RR1.out.below b56);have Y6:=aA hy
    have A6:=aA (HAd.out.below b56);clear hS b5 b6 hz hy h6 hB6 b56 HC1 HC2;go_wp2_with fail;refine(HC3.out _ _ _ R6.out Y6.out).mono ?_;rintro r w7 ⟨va,vc,rfl,b7,hO7⟩;have HB7:=aA (aB HB6.out b7)
    have HA7:=aA (A6.out.below b7);have HO7:=aA hO7
    clear b7 hO7 c6 R6 Y6 HC3;by_cases hl4:Y.length≤400
    ·have hng:¬(400:Int)<(Y.length:Int):=by omega
     have hEs:dT (row j) q (oth j)=some Y:=by rw[HE'.out,HYE.out,if_pos hl4]
     have HXN:=aA (tZ HX.out hEs);have hAX:oJ w.heap.size w7 (cY X j Y) j u8 ad cp B:=HA7.out.congr (fun i hi=>(if_neg (by omega)).symm)
     have hA6X:oJ w.heap.size w6 (cY X j Y) j u8 ad cp B:=A6.out.congr (fun i hi=>(if_neg (by omega)).symm);have hYj:cY X j Y j=Y:=if_pos rfl
     have HRND:Hid (∀(g0 cap0:Nat) (w5:World),w5.ownsRow w.heap.size 41 1 (.slice (some ⟨g0,0,none⟩) (j+1) cap0) (j+1) (DN ad (fun i=>(cY X j Y i).length) cp j++[.slice va Y.length vc])→(w7.alloc (.cells #[.slice va Y.length vc] 41)).grownBy w5 u8.ownBlock→(u8.ownBlock=some g0∨g0=(w7.alloc (.cells #[.slice va Y.length vc] 41)).heap.size)→g0<w5.heap.size→∃ad' cp' B',oJ w.heap.size w5 (cY X j Y) (j+1) (.slice (some ⟨g0,0,none⟩) (j+1) cap0) ad' cp' B'):=fun g0 cap0 w5 h1 h2 h3 h4=>by
      refine oJ.more hA6X hAX (a:=va) (c:=vc) (by rw[hYj];exact HO7.out) ?_ ?_ ?_ h4
      ·rw[hYj];exact h2
      ·rw[hYj];exact h1
      ·rw[hYj];exact h3
     have HAX:=aA hAX;have hsw:w.heap.size≤w7.heap.size:=HB7.out.size
     clear hEs hAX hA6X hYj hl4;go_wp2_with (at_builtin;refine wpList_append_lies _ rfl (.tmp 43) (.tmp 45) 24 rfl w.heap.size 41 i0 _ 1 24 Tryz.underlying24 hi0 hz0 hz1 hz2 rfl (by omega) _ j (DN ad (fun i=>(cY X j Y i).length) cp j) rfl (HAX.out.row.alloc _) ⟨w7.heap.size,0,none⟩ 1 1 [.slice va Y.length vc] rfl rfl (World.news_of_block (heap_alloc_new w7 _)) (jT _ _ _) (by omega) hmax (by omega) (by simp;omega) _ rfl ?_;intro g1 cap1 w8 hown2 hgrow2 hat2 hlt2;have HRR:=aA (HRND.out g1 cap1 w8 hown2 hgrow2 hat2 hlt2);have HB8:=aA ((HB7.out.alloc HB7.out.size _).grown hgrow2 (by simp;omega) (fun k e=>(HAX.out.row.lt k e).1));clear hown2 hgrow2 hat2 hlt2);obtain⟨ad',cp',B',hA8⟩:=HRR.out;go_roundw;case rel=>exact⟨j+1,cY X j Y,ad',cp',B',by omega,by go_num,HXN.out,HB8.out,hA8⟩
     case measure=>simp[intOf];omega
    ·have hgt:(400:Int)<(Y.length:Int):=by omega
     have hRn:R=none:=by rw[←HR.out];refine sI hlt HX.out ?_;rw[HE'.out,HYE.out,if_neg hl4]
     subst hRn;go_wp2;refine cD (results_tmp2 rfl _ _ _) rfl ?_;exact⟨HB7.out.alloc HB7.out.size _,.inr ⟨rfl,_,_,rfl⟩⟩
  ·have hjn:¬(j:Int)<(g:Int):=by omega
   have hje:j=g:=by omega
   subst hje;have hRs:R=some X:=by rw[←HR.out];exact HX.out
   subst hRs;obtain⟨qa',qc',Rb,etv,hO⟩:=hA.out (by omega);subst etv;have HOO:=aA hO
   clear hB hA hO;go_wp2;refine cD (results_tmp2 rfl _ _ _) rfl ?_;exact⟨HB.out,.inl ⟨X,qa',qc',ad,cp,Rb,B,rfl,rfl,HOO.out⟩⟩
def Np (w:World) (a:Option Addr) (n cap:Nat) (A:Nat→Option Addr) (C:Nat→Nat) (AD:Nat→Nat→Option Addr) (CP:Nat→Nat→Nat) (N:Nat→Nat) (L:Nat→Nat→Nat) (F:Nat→Nat→Nat→T):Prop:=
 n≤cap∧n*40≤140737488351232∧(n=0∨∃b off,a=some ⟨b,off,none⟩∧b<w.heap.size∧∀i,i<n→w.cell? ⟨b,off+i,none⟩=some (.slice (A i) (N i) (C i)))∧∀i,i<n→eQ w (A i) (N i) (C i) (AD i) (L i) (CP i) (F i)
theorem Np.below {w w':World} {a:Option Addr} {n cap:Nat} {A:Nat→Option Addr} {C:Nat→Nat} {AD:Nat→Nat→Option Addr} {CP:Nat→Nat→Nat} {N:Nat→Nat} {L:Nat→Nat→Nat} {F:Nat→Nat→Nat→T} (h:Np w a n cap A C AD CP N L F) (hb:Below w.heap.size w w'):Np w' a n cap A C AD CP N L F:=by
 refine⟨h.1,h.2.1,?_,fun i hi=>(h.2.2.2 i hi).below hb⟩;rcases h.2.2.1 with h0|⟨b,off,he,hlt,hc⟩
 ·exact .inl h0
 ·exact .inr ⟨b,off,he,lB hlt hb.size,fun i hi=>(hb.cell (p:=⟨b,off+i,none⟩) hlt).trans (hc i hi)⟩
end Go.Proofs.YtelkehjdfcoeiaaGreat
