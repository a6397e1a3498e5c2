/-
  IdlRest: the program and the model.
-/
import Derived.Test.YtdidlcjhodejjaaGreatMHaa
import Derived.Test.YtdidlcjhodejjaaGreatMIaa
set_option maxHeartbeats 16000000
set_option maxRecDepth 100000
namespace Go.Proofs.YtdidlcjhodejjaaGreat
open Go.RowKit Go.Deep Go.Joins
set_option linter.unusedVariables false
set_option linter.unusedSimpArgs false
theorem Ms (w:World) (a:Option Addr) (c:Nat) (L:List T) (h:Rd w a L.length c (lf L)) (h0:L.length≠0) (hl:L.length≤400):Calls Tryz.prog 141 #[.slice a L.length c] w fun r w'=>∃a' c',r= .returned (.slice a' L.length c')∧Below w.heap.size w w'∧jN w.heap.size w' a' c' L:=by
 obtain⟨i0,hi0,hz0,hz1,hz2⟩:=info_parts uG;obtain⟨b,off,rfl,hb,_⟩:=h.2.2.resolve_left h0;have hL:(L.length:Int)≤400:=by omega
 have hown:=DD w;have HO:=aA hown
 have hnews:∀j u,(aE L)[j]? =some u→(w.alloc (.cells #[] 42)).cell? ((⟨b,off,none⟩:Addr).add j)=some u:=LX (h.below (aC w _))
 have hone:∀u∈aE L,u.oneCell'=true:=nX L;have hnil:∀W:World,(binOp BinOp.eql 45 (Value.slice (some ⟨b,off,none⟩) L.length c) (Value.slice none 0 0)).run Tryz.prog W= .ok (.bool false) W:=fun W=>by first|rfl|kernel_rfl|simp[binOp,go_sem]
 clear h;go_enter Tryz.func141,Tryz.ntmps141;go_wp2_with (at_builtin;refine wpList_append_lies _ rfl (.tmp 5) (.tmp 6) 45 rfl w.heap.size 42 i0 _ 5 40 Tryz.underlying45 hi0 hz0 hz1 hz2 rfl (by omega) _ 0 (aE []) rfl hown ⟨b,off,none⟩ L.length c (aE L) rfl (by rw[aX]) hnews hone (by omega) (by unfold maxLen;omega) (by omega) (by simp) _ rfl ?_;intro g0 cap0 w5 hown1 hgrow hat hlt1;have HB5:=aA (((aC w (.cells #[] 42))).grown hgrow (by simp) (fun k e=>(HO.out.lt k e).1));have HR:=aA hown1;clear hown1 hgrow hat hlt1);go_ret;have ho:=HR.out
 simp only[Nat.zero_add,show aE []++aE L=aE L from rfl]at ho;obtain⟨a',c',e,hO⟩:=aH ho (by omega);exact⟨a',c',congrArg Ending.returned e,HB5.out,hO⟩
def kW (f:Nat→Option (List T)):Nat→Option (Nat→List T)
 |0=>some (fun _=>[])
 |j+1=>match kW f j with
  |none=>none
  |some R=>match f j with
   |none=>none
   |some Y=>some (dD R j Y)
theorem yT {f:Nat→Option (List T)} {j:Nat} {R:Nat→List T} {Y:List T} (h:kW f j=some R) (hf:f j=some Y):kW f (j+1)=some (dD R j Y):=by
 show(match kW f j with|none=>none|some R=>match f j with|none=>none|some Y=>some (dD R j Y))=_;rw[h];show(match f j with|none=>none|some Y=>some (dD R j Y))=_
 rw[hf]
theorem VK {f:Nat→Option (List T)} {j:Nat} (h:kW f j=none):kW f (j+1)=none:=by show(match kW f j with|none=>none|some R=>match f j with|none=>none|some Y=>some (dD R j Y))=_;rw[h]
theorem PA {f:Nat→Option (List T)} {j:Nat} (h:f j=none):kW f (j+1)=none:=by show(match kW f j with|none=>none|some R=>match f j with|none=>none|some Y=>some (dD R j Y))=_;rw[h];cases kW f j<;>rfl
theorem qH {f:Nat→Option (List T)} {i:Nat} (h:f i=none):∀g,i<g→kW f g=none
 |0,hi=>by omega
 |g+1,hi=>by
  by_cases e:i=g
  ·subst e;exact PA h
  ·exact VK (qH h g (by omega))
theorem PB {f:Nat→Option (List T)}:∀g R,kW f g=some R→∀i,i<g→f i=some (R i)
 |0,R,_,i,hi=>by omega
 |g+1,R,h,i,hi=>by
  cases hr:kW f g with
  |none=>rw[VK hr]at h;cases h
  |some R1=>
   cases hf:f g with
   |none=>rw[PA hf]at h;cases h
   |some Y=>
    rw[yT hr hf]at h;cases h;unfold dD;split
    ·rename_i e;rw[e];exact hf
    ·exact PB g R1 hr i (by omega)
theorem vF {f f':Nat→Option (List T)}:∀g,(∀i,i<g→f i=f' i)→kW f g=kW f' g
 |0,_=>rfl
 |g+1,h=>by
  show(match kW f g with|none=>none|some R=>match f g with|none=>none|some Y=>some (dD R g Y))=(match kW f' g with|none=>none|some R=>match f' g with|none=>none|some Y=>some (dD R g Y))
  rw[vF g (fun i hi=>h i (by omega)),h g (by omega)]
theorem yL (row:Nat→List T) (q:List T) (oth:Nat→List T):∀g,dI row q oth g=kW (fun i=>dZ (row i) q (oth i)) g
 |0=>rfl
 |g+1=>by show(match dI row q oth g with|none=>none|some R=>match dZ (row g) q (oth g)with|none=>none|some Y=>some (dD R g Y))=_;rw[yL row q oth g];rfl
theorem PD (f:Nat→Option (List T)) (q:List T) (oth:Nat→List T) (g:Nat):(match kW f g with|none=>none|some R=>dI R q oth g)=kW (fun i=>(f i).bind (fun s=>dZ s q (oth i))) g:=by
 cases hr:kW f g with
 |none=>
  show none=_;have:∃i,i<g∧f i=none:=by
   have key:∀g,(∀i,i<g→f i≠none)→kW f g≠none:=fun g=>by
    induction g with
    |zero=>intro _ h;cases h
    |succ g ih=>
     intro h;cases hg:kW f g with
     |none=>exact absurd hg (ih (fun i hi=>h i (by omega)))
     |some R=>
      cases hf:f g with
      |none=>exact absurd hf (h g (by omega))
      |some Y=>rw[yT hg hf];simp
   by_cases e:∃i,i<g∧f i=none
   ·exact e
   ·exact absurd hr (key g (fun i hi q=>e ⟨i,hi,q⟩))
  obtain⟨i,hi,e⟩:=this;exact(qH (by rw[e];rfl) g hi).symm
 |some R=>
  show dI R q oth g=_;rw[yL];exact vF g fun i hi=>by rw[PB g R hr i hi];rfl
def MF (P:Nat→Nat→List T) (i k:Nat) (u v:T) (q:Nat→List T) (j:Nat):Nat→Option (List T)
 |0=>(dZ [] [fC u] (P i j)).bind (fun s=>dZ s [v] (P k j))
 |t+1=>(MF P i k u v q j t).bind (fun s=>dZ s (q t) (P t j))
theorem GM {g:Nat} {P:Nat→Nat→List T} {i k:Nat} {u v:T} {q:Nat→List T}:∀t,kL g P q (gZ g P i k u v) t=kW (fun j=>MF P i k u v q j t) g
 |0=>by
  show gZ g P i k u v=_;have e:gZ g P i k u v=(match kW (fun j=>dZ [] [fC u] (P i j)) g with|none=>none|some R=>dI R [v] (P k) g):=by unfold gZ;rw[yL];rfl
  rw[e,PD];rfl
 |t+1=>by show(match kL g P q (gZ g P i k u v) t with|none=>none|some R=>dI R (q t) (P t) g)=_;rw[GM t,PD];rfl
def VB (s q X:List T):Option (List T):=match nU q X with
 |(Y,true)=>(match xK s Y with
  |(Z,true)=>some Z
  |(_,false)=>none)
 |(_,false)=>none
def UZ (F:List T) (P0:Nat→List T) (qs:Nat→List T) (Q:Nat→Nat→List T) (j:Nat):Nat→Option (List T)
 |0=>ET F (P0 j)
 |t+1=>(UZ F P0 qs Q j t).bind (fun s=>VB s (qs t) (Q t j))
theorem OI {s q X:List T} (hs:cG s=true) (hq:cG q=true) (hX:cG X=true):VB s q X=dZ s q X:=by
 unfold VB dZ nU bV;rw[if_pos ⟨hq,hX⟩];cases hm:cT (lf q) (lf X) X.length q.length with
 |none=>rfl
 |some Y=>
  have oY:=zV (WE hq hX hm);show(match xK s Y with|(Z,true)=>some Z|(_,false)=>none)=if(cY s Y).length≤400 then some (cY s Y)else none
  by_cases hl:(cY s Y).length≤400
  ·rw[LE hs oY hl,if_pos hl]
  ·rw[if_neg hl];rcases yX s Y with e|⟨_,_,h3,_⟩
   ·rw[e]
   ·exact absurd h3 hl
theorem Fm {P:List T} (h:aK P):cY [] (kZ 100 P)=P:=by
 have h1:=gW (c:=100) (by omega) (by omega) h;have h2:=cW eQ h1
 refine lI h2.1 h (fun m _=>?_);have r:=bM h m
 rw[h2.2,nZ,PG];omega
theorem Eh {u:T} {X:List T} (hu:u.m.ok=true∧1≤u.c∧u.c≤100) (hX:cG X=true):ET [u] X=dZ [] [fC u] X:=by
 have ou:=jE hu;have en:fC u=vG 100 u:=by unfold fC vG;congr 1;omega
 have hm:=AQ (f:=lf [u]) (f2:=lf [fC u]) (la:=1) (c:=100) (by omega) (by omega) (cF (show aN 1 (lf [u])=true from ou)).2 (cF (show aN X.length (lf X)=true from hX)).2 (fun i hi=>by
  have e:i=0:=by omega
  subst e;show fC u=vG 100 u
  exact en) 1 (Nat.le_refl _)
 unfold ET dZ nU bV;rw[if_pos ⟨ou,hX⟩];show(match lC (cT (lf [u]) (lf X) X.length 1)with|(Y,true)=>some Y|(_,false)=>none)=(match cT (lf [fC u]) (lf X) X.length 1 with|some P=>if(cY [] P).length≤400 then some (cY [] P)else none|none=>none)
 rw[hm];cases hk:cT (lf [u]) (lf X) X.length 1 with
 |none=>rfl
 |some Y=>
  have fY:=dQ (cF (show aN 1 (lf [u])=true from ou)).2 (cF (show aN X.length (lf X)=true from hX)).2 1 Y (Nat.le_refl _) hk;show some Y=if(cY [] (kZ 100 Y)).length≤400 then some (cY [] (kZ 100 Y))else none
  rw[Fm fY,if_pos (gQ _ Y hk)]
def NY (v:T) (q:Nat→List T):Nat→List T
 |0=>[v]
 |t+1=>q t
def YN (P:Nat→Nat→List T) (k:Nat):Nat→Nat→List T
 |0=>P k
 |t+1=>P t
theorem Bh {P:Nat→Nat→List T} {i k m g:Nat} {u v:T} {q:Nat→List T} (hi:i<m) (hk:k<m) (hP:∀i,i<m→∀j,j<g→cG (P i j)=true) (hu:cG [fC u]=true) (hv:cG [v]=true) (hq:∀t,t<m→cG (q t)=true) {j:Nat} (hj:j<g):∀t s,t≤m→MF P i k u v q j t=some s→cG s=true
 |0,s,_,h=>by
  change (dZ [] [fC u] (P i j)).bind (fun s=>dZ s [v] (P k j))=some s at h;cases h1:dZ [] [fC u] (P i j)with
  |none=>rw[h1]at h;cases h
  |some s1=>
   rw[h1]at h;exact sJ (sJ oV hu (hP i hi j hj) h1) hv (hP k hk j hj) h
 |t+1,s,ht,h=>by
  change (MF P i k u v q j t).bind (fun s=>dZ s (q t) (P t j))=some s at h;cases h1:MF P i k u v q j t with
  |none=>rw[h1]at h;cases h
  |some s1=>
   rw[h1]at h;exact sJ (Bh hi hk hP hu hv hq hj t s1 (by omega) h1) (hq t (by omega)) (hP t (by omega) j hj) h
theorem VA {P:Nat→Nat→List T} {i k m g:Nat} {u v:T} {q:Nat→List T} (hi:i<m) (hk:k<m) (hP:∀i,i<m→∀j,j<g→cG (P i j)=true) (hu:u.m.ok=true∧1≤u.c∧u.c≤100) (hv:v.m.ok=true∧1≤v.c∧v.c≤100) (hq:∀t,t<m→cG (q t)=true) {j:Nat} (hj:j<g):∀t,t≤m→UZ [u] (P i) (NY v q) (YN P k) j (t+1)=MF P i k u v q j t
 |0,_=>by
  have g1:=CW hu.2.1 hu.2.2;have hn:cG [fC u]=true:=jE ⟨hu.1,g1.1,g1.2⟩
  show(ET [u] (P i j)).bind (fun s=>VB s [v] (P k j))=(dZ [] [fC u] (P i j)).bind (fun s=>dZ s [v] (P k j));rw[Eh hu (hP i hi j hj)];cases h1:dZ [] [fC u] (P i j)with
  |none=>rfl
  |some s1=>exact OI (sJ oV hn (hP i hi j hj) h1) (jE hv) (hP k hk j hj)
 |t+1,ht=>by
  have g1:=CW hu.2.1 hu.2.2;have hn:cG [fC u]=true:=jE ⟨hu.1,g1.1,g1.2⟩
  show(UZ [u] (P i) (NY v q) (YN P k) j (t+1)).bind (fun s=>VB s (q t) (P t j))=(MF P i k u v q j t).bind (fun s=>dZ s (q t) (P t j));rw[VA hi hk hP hu hv hq hj t (by omega)];cases h1:MF P i k u v q j t with
  |none=>rfl
  |some s1=>exact OI (Bh hi hk hP hn (jE hv) hq hj t s1 (by omega) h1) (hq t (by omega)) (hP t (by omega) j hj)
theorem Jf {P:Nat→Nat→List T} {i k m g:Nat} {u v:T} {q:Nat→List T} (hi:i<m) (hk:k<m) (hP:∀i,i<m→∀j,j<g→cG (P i j)=true) (hu:u.m.ok=true∧1≤u.c∧u.c≤100) (hv:v.m.ok=true∧1≤v.c∧v.c≤100) (hq:∀t,t<m→cG (q t)=true):kW (fun j=>UZ [u] (P i) (NY v q) (YN P k) j (m+1)) g=rR g P i k u v m q:=by unfold rR;rw[GM];exact vF g fun j hj=>VA hi hk hP hu hv hq hj m (Nat.le_refl _)
structure LW (w:World) (oa:Option Addr) (M oc:Nat) (qa:Nat→Option Addr) (qc:Nat→Nat) (ra:Nat→Option Addr) (rc:Nat→Nat) (rad:Nat→Nat→Option Addr) (rcp:Nat→Nat→Nat) (g:Nat) (qs:Nat→List T) (Q:Nat→Nat→List T):Prop where
 cap:M≤oc
 len:M≤100
 pos:M=0∨∃b off,oa=some ⟨b,off,none⟩∧b<w.heap.size∧∀t,t<M→w.cell? ⟨b,off+t*2,none⟩=some (.slice (qa t) (qs t).length (qc t))∧w.cell? ⟨b,off+t*2+1,none⟩=some (.slice (ra t) g (rc t))
 q:∀t,t<M→RL w (qa t) (qc t) (qs t)
 r:∀t,t<M→cZ w (ra t) g (rc t) (rad t) (lN (Q t)) (rcp t) (fN (Q t))
theorem LW.below {w w':World} {oa:Option Addr} {M oc:Nat} {qa:Nat→Option Addr} {qc:Nat→Nat} {ra:Nat→Option Addr} {rc:Nat→Nat} {rad:Nat→Nat→Option Addr} {rcp:Nat→Nat→Nat} {g:Nat} {qs:Nat→List T} {Q:Nat→Nat→List T} (h:LW w oa M oc qa qc ra rc rad rcp g qs Q) (hb:Below w.heap.size w w'):LW w' oa M oc qa qc ra rc rad rcp g qs Q:=
 ⟨h.cap,h.len,h.pos.imp id (fun⟨b,off,e,hlt,hc⟩=>⟨b,off,e,jY hlt hb.size,fun t ht=>⟨(hb.cell (p:=⟨b,off+t*2,none⟩) hlt).trans (hc t ht).1,(hb.cell (p:=⟨b,off+t*2+1,none⟩) hlt).trans (hc t ht).2⟩⟩),fun t ht=>(h.q t ht).below hb,fun t ht=>(h.r t ht).below hb⟩
def Tm (w:World) (g:Nat) (E:Option (Nat→List T)) (r:Ending) (w':World):Prop:=
 Below w.heap.size w w'∧((∃R ra rc ad cp lo Rb B,E=some R∧r= .returned (.slice ra g rc)∧w.heap.size≤lo∧iL lo w' ra g rc ad (lN R) cp (fN R) Rb B)∨(E=none∧r= .panicked [{v:=fG,recovered:=false}]))
abbrev QM (u:World) (bx:Nat) (v0 v1:Value) (rb x:Nat) (v2:Value):Prop:=u.cell? ⟨bx,0,none⟩=some v0∧u.cell? ⟨bx,1,none⟩=some v1∧u.cell? ⟨rb,x,none⟩=some v2
theorem QM.below {u u':World} {bx:Nat} {v0 v1:Value} {rb x:Nat} {v2:Value} (h:QM u bx v0 v1 rb x v2) (hb:Below u.heap.size u u'):QM u' bx v0 v1 rb x v2:=
 ⟨(hb.cell (p:=⟨bx,0,none⟩) (cX u _ h.1)).trans h.1,(hb.cell (p:=⟨bx,1,none⟩) (cX u _ h.2.1)).trans h.2.1,(hb.cell (p:=⟨rb,x,none⟩) (cX u _ h.2.2)).trans h.2.2⟩
theorem LU (w:World) (y:TypeId) (v0 v1:Value):(w.alloc (.cells #[v0,v1] y)).cell? ⟨w.heap.size,0,none⟩=some v0∧(w.alloc (.cells #[v0,v1] y)).cell? ⟨w.heap.size,1,none⟩=some v1:=⟨by rw[World.cell?_alloc_at _ _ _ _ rfl];rfl,by rw[World.cell?_alloc_at _ _ _ _ rfl];rfl⟩
theorem DG {F:List T} {P0:Nat→List T} {qs:Nat→List T} {Q:Nat→Nat→List T} {j t:Nat} {s:List T} (h:UZ F P0 qs Q j t=some s):UZ F P0 qs Q j (t+1)=VB s (qs t) (Q t j):=by show(UZ F P0 qs Q j t).bind (fun s=>VB s (qs t) (Q t j))=_;rw[h];rfl
theorem wZ {F:List T} {P0:Nat→List T} {qs:Nat→List T} {Q:Nat→Nat→List T} {j t:Nat} (h:UZ F P0 qs Q j t=none):∀d,UZ F P0 qs Q j (t+d)=none
 |0=>h
 |d+1=>by show(UZ F P0 qs Q j (t+d)).bind (fun s=>VB s (qs (t+d)) (Q (t+d) j))=none;rw[wZ h d];rfl
theorem Qy {s q X Y:List T} (h:nU q X=(Y,false)):VB s q X=none:=by unfold VB;rw[h]
theorem Qz {s q X Y Z:List T} (h:nU q X=(Y,true)) (h2:xK s Y=(Z,false)):VB s q X=none:=by unfold VB;rw[h];simp only[h2]
theorem Ra {s q X Y Z:List T} (h:nU q X=(Y,true)) (h2:xK s Y=(Z,true)):VB s q X=some Z:=by unfold VB;rw[h];simp only[h2]
theorem Qw {F X Y:List T} (h:nU F X=(Y,false)):ET F X=none:=by unfold ET;rw[h]
theorem Qx {F X Y:List T} (h:nU F X=(Y,true)):ET F X=some Y:=by unfold ET;rw[h]
theorem Me {w:World} {a b:Option Addr} {ca cb:Nat} {L K:List T} (ha:RL w a ca L) (hb:RL w b cb K):Calls Tryz.prog 154 #[.slice a L.length ca,.slice b K.length cb] w fun r w'=>∃a' c',r= .returned (.tuple #[.slice a' (nU L K).1.length c',.bool (nU L K).2])∧Below w.heap.size w w'∧jN w.heap.size w' a' c' (nU L K).1:=AX w a b L.length ca K.length cb (lf L) (lf K) ha hb
theorem Ol {w:World} {a b:Option Addr} {ca cb:Nat} {L K:List T} (ha:RL w a ca L) (hb:RL w b cb K):Calls Tryz.prog 155 #[.slice a L.length ca,.slice b K.length cb] w fun r w'=>∃a' c',r= .returned (.tuple #[.slice a' (xK L K).1.length c',.bool (xK L K).2])∧Below w.heap.size w w'∧jN w.heap.size w' a' c' (xK L K).1:=VD w a b L.length ca K.length cb (lf L) (lf K) ha hb
theorem XM (w:World) (fa:Option Addr) (fc:Nat) (F:List T) (hF:RL w fa fc F) (ia:Option Addr) (g ic:Nat) (iad:Nat→Option Addr) (icp:Nat→Nat) (P0:Nat→List T) (hI:cZ w ia g ic iad (lN P0) icp (fN P0)) (hg:g≤12) (oa:Option Addr) (M oc:Nat) (qa:Nat→Option Addr) (qc:Nat→Nat) (ra:Nat→Option Addr) (rc:Nat→Nat) (rad:Nat→Nat→Option Addr) (rcp:Nat→Nat→Nat) (qs:Nat→List T) (Q:Nat→Nat→List T) (hO:LW w oa M oc qa qc ra rc rad rcp g qs Q) {E:Option (Nat→List T)} (hE:kW (fun j=>UZ F P0 qs Q j M) g=E):Calls Tryz.prog 174 #[.agg #[.slice fa F.length fc,.slice ia g ic],.slice oa M oc] w (Tm w g E):=by
 obtain⟨i0,hi0,hz0,hz1,hz2⟩:=info_parts uU;have hgl:(g:Int)≤12:=by omega
 have hMl:(M:Int)≤100:=by have:=hO.len;omega
 obtain⟨w1,hw1⟩:∃w1,w.alloc (.cells #[.slice fa F.length fc,.slice ia g ic] 192)=w1:=⟨_,rfl⟩
 have b1:Below w.heap.size w w1:=by rw[←hw1];exact aC w _
 have HX1:Hid (w1.cell? ⟨w.heap.size,0,none⟩=some (.slice fa F.length fc)∧w1.cell? ⟨w.heap.size,1,none⟩=some (.slice ia g ic)):=by rw[←hw1];exact LU w 192 _ _
 have HB1:=aA b1;have HF1:=aA (hF.below b1)
 have HI1:=aA (hI.below b1);have HO1:=aA (hO.below b1)
 have HE:=aA hE;have hs1:w.heap.size<w1.heap.size:=cX w1 _ HX1.out.1
 obtain⟨k0,k1⟩:=HX1.out;clear hF hI hO hE b1;go_enter Tryz.func174,Tryz.ntmps174;go_wp2;clear hw1;go_loopw [5,14] (fun tv ii wr=>∃(j:Nat) (X:Nat→List T) (ad:Nat→Option Addr) (cp B:Nat→Nat),j≤g∧ii= .int .i64 (j:Int)∧kW (fun j=>UZ F P0 qs Q j M) j=some X∧Below w1.heap.size w1 wr∧pD w1.heap.size wr X j tv ad cp B) (fun _ ii _=>g-(intOf ii).toNat);case atStart=>exact⟨0,fun _=>[],_,_,_,Nat.zero_le _,rfl,rfl,bL _ _,pD.start (Nat.le_refl _) _⟩
 case round=>
  obtain⟨j,X,ad,cp,B,hj,rfl,hX,hB,hA⟩:=hrel;obtain⟨wo,rfl⟩:∃x,x=wr:=⟨_,rfl⟩
  have HX:=aA hX;have HB:=aA hB
  have HA:=aA hA;clear hX k0 k1;by_cases hlt:j<g
  ·have hjl:(j:Int)<(g:Int):=by omega
   have hmax:j+1≤maxLen:=by unfold maxLen;omega
   obtain⟨ib,ioff,rfl,hib,hicl⟩:=HI1.out.2.2.1.resolve_left (by omega);obtain⟨PJ,hPJ⟩:∃PJ,P0 j=PJ:=⟨_,rfl⟩
   have cj:wo.cell? ⟨ib,ioff+j,none⟩=some (.slice (iad j) PJ.length (icp j)):=(hB.cell (p:=⟨ib,ioff+j,none⟩) hib).trans (by rw[←hPJ];exact hicl j hlt);have c0:wo.cell? ⟨w.heap.size,0,none⟩=some (.slice fa F.length fc):=(hB.cell (p:=⟨w.heap.size,0,none⟩) hs1).trans HX1.out.1
   have RJ:Hid (RL wo (iad j) (icp j) PJ):=by rw[←hPJ];exact(HI1.out.2.2.2 j hlt).below hB
   have RF:=aA (HF1.out.below hB);obtain⟨Y,o0,hY⟩:∃Y b,nU F PJ=(Y,b):=⟨_,_,rfl⟩
   have hc:=Me RF.out RJ.out;rw[hY]at hc;have HC:=aA hc
   have hY':nU F (P0 j)=(Y,o0):=by rw[hPJ];exact hY
   have HY:=aA hY';have hsr:w1.heap.size≤wo.heap.size:=hB.size
   clear hicl hPJ hY hY' hc hB hA;go_wp2_with fail;refine HC.out.mono ?_;rintro e w4 ⟨ya,yc,rfl,b4,hy⟩;have HB4:=aA (aB HB.out b4)
   have HA4:=aA (HA.out.below b4);have HBr4:=aA b4
   have HY4:=aA hy;clear b4 hy HC cj c0;cases o0
   ·have hEn:E=none:=by
     rw[←HE.out];refine qH (i:=j) ?_ g hlt;have:=wZ (qs:=qs) (Q:=Q) (j:=j) (t:=0) (Qw HY.out) M
     rwa[Nat.zero_add]at this
    subst hEn;go_wp2_with fail;refine(gF _ _).mono ?_;rintro e wn ⟨rfl,hwn⟩;obtain rfl:=hwn.symm;clear hwn;exact⟨rfl,HB1.out.trans (HB4.out.mono (Nat.le_of_lt hs1)),.inr ⟨rfl,rfl⟩⟩
   go_wp2_with fail;refine(iE _ _).mono ?_;rintro e wn ⟨rfl,hwn⟩;obtain rfl:=hwn.symm;clear hwn;go_wp2;go_loopw [8,28] (fun sv tt wi=>∃(t:Nat) (s:List T) (sa:Option Addr) (sc:Nat),t≤M∧tt= .int .i64 (t:Int)∧UZ F P0 qs Q j t=some s∧sv= .slice sa s.length sc∧Below w4.heap.size w4 wi∧jN wo.heap.size wi sa sc s) (fun _ tt _=>M-(intOf tt).toNat);case atStart=>exact⟨0,Y,ya,yc,Nat.zero_le _,rfl,Qx HY.out,rfl,bL _ _,HY4.out⟩
   case round=>
    obtain⟨t,s,sa,sc,ht,rfl,hs,rfl,hBi,hso⟩:=hrel;have HS:=aA hs
    have HBi:=aA hBi;have HSO:=aA hso
    clear hs hso;by_cases htm:t<M
    ·have htl:(t:Int)<(M:Int):=by omega
     obtain⟨ob,off,rfl,hob,hocl⟩:=HO1.out.pos.resolve_left (by omega);have hB1i:=aB HB4.out hBi
     obtain⟨ca,cb⟩:=hocl t htm;have d0:=(hB1i.cell (p:=⟨ob,off+t*2,none⟩) hob).trans ca
     have d1:=(hB1i.cell (p:=⟨ob,off+t*2+1,none⟩) hob).trans cb;obtain⟨rb,roff,era,hrb,hrcl⟩:=(HO1.out.r t htm).2.2.1.resolve_left (by omega);obtain⟨QJ,hQJ⟩:∃QJ,Q t j=QJ:=⟨_,rfl⟩
     have cr:wr.cell? ⟨rb,roff+j,none⟩=some (.slice (rad t j) QJ.length (rcp t j)):=(hB1i.cell (p:=⟨rb,roff+j,none⟩) hrb).trans (by rw[←hQJ];exact hrcl j hlt);rw[era]at d1;obtain⟨bx,hbx⟩:∃bx,bx=wr.heap.size:=⟨_,rfl⟩
     have bX:=aB (aC wr (.cells #[.slice (qa t) (qs t).length (qc t),.slice (some ⟨rb,roff,none⟩) g (rc t)] 192)) (bL _ _).drew;have HS0:Hid (QM (wr.alloc (.cells #[.slice (qa t) (qs t).length (qc t),.slice (some ⟨rb,roff,none⟩) g (rc t)] 192)).drew wr.heap.size (.slice (qa t) (qs t).length (qc t)) (.slice (some ⟨rb,roff,none⟩) g (rc t)) rb (roff+j) (.slice (rad t j) QJ.length (rcp t j))):=⟨(LU wr 192 _ _).1,(LU wr 192 _ _).2,(bX.cell (p:=⟨rb,roff+j,none⟩) (cX wr _ cr)).trans cr⟩
     have HBX:=aA (aB hBi bX);have HB1X:=aA (aB hB1i bX)
     have RQ:=aA (((HO1.out.q t htm).below hB1i).below bX);have RR:Hid (RL (wr.alloc (.cells #[.slice (qa t) (qs t).length (qc t),.slice (some ⟨rb,roff,none⟩) g (rc t)] 192)).drew (rad t j) (rcp t j) QJ):=by rw[←hQJ];exact(((HO1.out.r t htm).2.2.2 j hlt).below hB1i).below bX
     have HS5:Hid (jN wo.heap.size (wr.alloc (.cells #[.slice (qa t) (qs t).length (qc t),.slice (some ⟨rb,roff,none⟩) g (rc t)] 192)).drew sa sc s):=HSO.out.below bX;obtain⟨Y1,o1,hY1⟩:∃Y b,nU (qs t) QJ=(Y,b):=⟨_,_,rfl⟩
     obtain⟨Z1,o2,hZ1⟩:∃Z b,xK s Y1=(Z,b):=⟨_,_,rfl⟩
     have hc1:=Me RQ.out RR.out;rw[hY1]at hc1;have HC1:=aA hc1
     have HC2:Hid (∀(W:World) (ya:Option Addr) (yc:Nat),RL W sa sc s→RL W ya yc Y1→Calls Tryz.prog 155 #[.slice sa s.length sc,.slice ya Y1.length yc] W fun r w'=>∃a' c',r= .returned (.tuple #[.slice a' Z1.length c',.bool o2])∧Below W.heap.size W w'∧jN W.heap.size w' a' c' Z1):=fun W ya yc h1 h2=>by have:=Ol h1 h2;rw[hZ1]at this;exact this
     have hY2:nU (qs t) (Q t j)=(Y1,o1):=by rw[hQJ];exact hY1
     have HY1:=aA hY2;have HZ1:=aA hZ1
     have hsx:wo.heap.size≤wr.heap.size:=by have:=HBr4.out.size;have:=hBi.size;omega
     clear hrcl hocl hQJ hY1 hY2 hZ1 hc1 ca cb hB1i bX hBi cr;subst hbx;cases o1
     ·have hEn:E=none:=by
       rw[←HE.out];refine qH (i:=j) ?_ g hlt;have:=wZ (t:=t+1) ((DG HS.out).trans (Qy HY1.out)) (M-(t+1))
       rwa[show t+1+(M-(t+1))=M by omega]at this
      subst hEn;go_wp2_with fail;have hS:=HS0.out
      refine wp_region_held_drew (S:=(fun x=>QM x wr.heap.size (.slice (qa t) (qs t).length (qc t)) (.slice (some ⟨rb,roff,none⟩) g (rc t)) rb (roff+j) (.slice (rad t j) QJ.length (rcp t j)))) (by kernel_rfl) (hS) (fun hHeld=>?_);refine wpAnyH_take (i:=0) (v:=?_) rfl (by kernel_rfl) (by kernel_rfl) (by kernel_rfl) (fun _ _ _ h=>h) (Or.inl ⟨by rfl,?_⟩) (by assumption) ?_;rotate_left
      ·(intro w9 hSw;(try dsimp only at hSw);go_simp)<;>with_reducible rfl
      try simp only[Act.put,gG]
      refine wpAnyH_take (i:=1) (v:=?_) rfl (by kernel_rfl) (by kernel_rfl) (by kernel_rfl) (fun _ _ _ h=>h) (Or.inl ⟨by rfl,?_⟩) (by assumption) ?_;rotate_left
      ·(intro w9 hSw;(try dsimp only at hSw);go_simp)<;>with_reducible rfl
      try simp only[Act.put,gG]
      refine wpAnyH_take (i:=2) (v:=?_) rfl (by kernel_rfl) (by kernel_rfl) (by kernel_rfl) (fun _ _ _ h=>h) (Or.inl ⟨by rfl,?_⟩) (by assumption) ?_;rotate_left
      ·(intro w9 hSw;(try dsimp only at hSw);go_simp)<;>with_reducible rfl
      try simp only[Act.put,gG]
      refine wpAnyH_take (i:=3) (v:=?_) rfl (by kernel_rfl) (by kernel_rfl) (by kernel_rfl) (fun _ _ _ h=>h) (Or.inl ⟨by rfl,?_⟩) (by assumption) ?_;rotate_left
      ·(intro w9 hSw;(try dsimp only at hSw);go_simp)<;>with_reducible rfl
      try simp only[Act.put,gG]
      refine wpAnyH_take (i:=4) (v:=?_) rfl (by kernel_rfl) (by kernel_rfl) (by kernel_rfl) (fun _ _ _ h=>h) (Or.inl ⟨by rfl,?_⟩) (by assumption) ?_;rotate_left
      ·(intro w9 hSw;(try dsimp only at hSw);go_simp)<;>with_reducible rfl
      try simp only[Act.put,gG]
      refine wpAnyH_take (i:=5) (v:=?_) rfl (by kernel_rfl) (by kernel_rfl) (by kernel_rfl) (fun _ _ _ h=>h) (Or.inl ⟨by rfl,?_⟩) (by assumption) ?_;rotate_left
      ·(intro w9 hSw;(try dsimp only at hSw);go_simp)<;>with_reducible rfl
      try simp only[Act.put,gG]
      refine wpAnyH_take (i:=6) (v:=?_) rfl (by kernel_rfl) (by kernel_rfl) (by kernel_rfl) (fun _ _ _ h=>h) (Or.inl ⟨by rfl,?_⟩) (by assumption) ?_;rotate_left
      ·(intro w9 hSw;(try dsimp only at hSw);go_simp)<;>with_reducible rfl
      try simp only[Act.put,gG]
      refine wpAnyH_take (i:=7) (v:=?_) rfl (by kernel_rfl) (by kernel_rfl) (by kernel_rfl) (fun _ _ _ h=>h) (Or.inl ⟨by rfl,?_⟩) (by assumption) ?_;rotate_left
      ·(intro w9 hSw;(try dsimp only at hSw);go_simp)<;>with_reducible rfl
      try simp only[Act.put,gG]
      refine wpAnyH_ready (rs:=[8]) (by kernel_rfl) (by simp) ?_;refine AllReadyH.cons rfl (fun K hK=>?_) AllReadyH.nil;go_simp;go_wp2_with (go_at_call 154;refine HC1.out.mono ?_;rintro e w5 ⟨ya,yc,rfl,b5,hy⟩);refine hK.out _ _ (by exact QM.below hS b5) (fun hHeld2=>?_);clear hK K hHeld;have hHeld:=hHeld2
      clear hHeld2;try simp only[Act.put,gG]
      refine wpAnyH_take (i:=9) (v:=?_) rfl (by kernel_rfl) (by kernel_rfl) (by kernel_rfl) (fun _ _ _ h=>h) (Or.inl ⟨by rfl,?_⟩) (by assumption) ?_;rotate_left
      ·(intro w9 hSw;(try dsimp only at hSw);go_simp)<;>with_reducible rfl
      try simp only[Act.put,gG]
      refine wpAnyH_take (i:=10) (v:=?_) rfl (by kernel_rfl) (by kernel_rfl) (by kernel_rfl) (fun _ _ _ h=>h) (Or.inl ⟨by rfl,?_⟩) (by assumption) ?_;rotate_left
      ·(intro w9 hSw;(try dsimp only at hSw);go_simp)<;>with_reducible rfl
      try simp only[Act.put,gG]
      refine wpAnyH_ready (rs:=[11]) (by kernel_rfl) (by simp) ?_;refine AllReadyH.cons rfl (fun K hK=>?_) AllReadyH.nil;go_simp;go_wp2_with (go_at_call 124;refine(gF _ _).mono ?_;rintro e wn ⟨rfl,hwn⟩;obtain rfl:=hwn.symm;clear hwn);exact⟨rfl,HB1.out.trans ((aB HB1X.out b5).mono (Nat.le_of_lt hs1)),.inr ⟨rfl,rfl⟩⟩
     cases o2
     ·have hEn:E=none:=by
       rw[←HE.out];refine qH (i:=j) ?_ g hlt;have:=wZ (t:=t+1) ((DG HS.out).trans (Qz HY1.out HZ1.out)) (M-(t+1))
       rwa[show t+1+(M-(t+1))=M by omega]at this
      subst hEn;go_wp2_with fail;have hS:=HS0.out
      refine wp_region_held_drew (S:=(fun x=>QM x wr.heap.size (.slice (qa t) (qs t).length (qc t)) (.slice (some ⟨rb,roff,none⟩) g (rc t)) rb (roff+j) (.slice (rad t j) QJ.length (rcp t j)))) (by kernel_rfl) (hS) (fun hHeld=>?_);refine wpAnyH_take (i:=0) (v:=?_) rfl (by kernel_rfl) (by kernel_rfl) (by kernel_rfl) (fun _ _ _ h=>h) (Or.inl ⟨by rfl,?_⟩) (by assumption) ?_;rotate_left
      ·(intro w9 hSw;(try dsimp only at hSw);go_simp)<;>with_reducible rfl
      try simp only[Act.put,gG]
      refine wpAnyH_take (i:=1) (v:=?_) rfl (by kernel_rfl) (by kernel_rfl) (by kernel_rfl) (fun _ _ _ h=>h) (Or.inl ⟨by rfl,?_⟩) (by assumption) ?_;rotate_left
      ·(intro w9 hSw;(try dsimp only at hSw);go_simp)<;>with_reducible rfl
      try simp only[Act.put,gG]
      refine wpAnyH_take (i:=2) (v:=?_) rfl (by kernel_rfl) (by kernel_rfl) (by kernel_rfl) (fun _ _ _ h=>h) (Or.inl ⟨by rfl,?_⟩) (by assumption) ?_;rotate_left
      ·(intro w9 hSw;(try dsimp only at hSw);go_simp)<;>with_reducible rfl
      try simp only[Act.put,gG]
      refine wpAnyH_take (i:=3) (v:=?_) rfl (by kernel_rfl) (by kernel_rfl) (by kernel_rfl) (fun _ _ _ h=>h) (Or.inl ⟨by rfl,?_⟩) (by assumption) ?_;rotate_left
      ·(intro w9 hSw;(try dsimp only at hSw);go_simp)<;>with_reducible rfl
      try simp only[Act.put,gG]
      refine wpAnyH_take (i:=4) (v:=?_) rfl (by kernel_rfl) (by kernel_rfl) (by kernel_rfl) (fun _ _ _ h=>h) (Or.inl ⟨by rfl,?_⟩) (by assumption) ?_;rotate_left
      ·(intro w9 hSw;(try dsimp only at hSw);go_simp)<;>with_reducible rfl
      try simp only[Act.put,gG]
      refine wpAnyH_take (i:=5) (v:=?_) rfl (by kernel_rfl) (by kernel_rfl) (by kernel_rfl) (fun _ _ _ h=>h) (Or.inl ⟨by rfl,?_⟩) (by assumption) ?_;rotate_left
      ·(intro w9 hSw;(try dsimp only at hSw);go_simp)<;>with_reducible rfl
      try simp only[Act.put,gG]
      refine wpAnyH_take (i:=6) (v:=?_) rfl (by kernel_rfl) (by kernel_rfl) (by kernel_rfl) (fun _ _ _ h=>h) (Or.inl ⟨by rfl,?_⟩) (by assumption) ?_;rotate_left
      ·(intro w9 hSw;(try dsimp only at hSw);go_simp)<;>with_reducible rfl
      try simp only[Act.put,gG]
      refine wpAnyH_take (i:=7) (v:=?_) rfl (by kernel_rfl) (by kernel_rfl) (by kernel_rfl) (fun _ _ _ h=>h) (Or.inl ⟨by rfl,?_⟩) (by assumption) ?_;rotate_left
      ·(intro w9 hSw;(try dsimp only at hSw);go_simp)<;>with_reducible rfl
      try simp only[Act.put,gG]
      refine wpAnyH_ready (rs:=[8]) (by kernel_rfl) (by simp) ?_;refine AllReadyH.cons rfl (fun K hK=>?_) AllReadyH.nil;go_simp;go_wp2_with (go_at_call 154;refine HC1.out.mono ?_;rintro e w5 ⟨ya,yc,rfl,b5,hy⟩);refine hK.out _ _ (by exact QM.below hS b5) (fun hHeld2=>?_);clear hK K hHeld;have hHeld:=hHeld2
      clear hHeld2;try simp only[Act.put,gG]
      refine wpAnyH_take (i:=9) (v:=?_) rfl (by kernel_rfl) (by kernel_rfl) (by kernel_rfl) (fun _ _ _ h=>h) (Or.inl ⟨by rfl,?_⟩) (by assumption) ?_;rotate_left
      ·(intro w9 hSw;(try dsimp only at hSw);go_simp)<;>with_reducible rfl
      try simp only[Act.put,gG]
      refine wpAnyH_take (i:=10) (v:=?_) rfl (by kernel_rfl) (by kernel_rfl) (by kernel_rfl) (fun _ _ _ h=>h) (Or.inl ⟨by rfl,?_⟩) (by assumption) ?_;rotate_left
      ·(intro w9 hSw;(try dsimp only at hSw);go_simp)<;>with_reducible rfl
      try simp only[Act.put,gG]
      refine wpAnyH_ready (rs:=[11]) (by kernel_rfl) (by simp) ?_;refine AllReadyH.cons rfl (fun K hK=>?_) AllReadyH.nil;go_simp;go_wp2_with (go_at_call 124;refine(iE _ _).mono ?_;rintro e wn ⟨rfl,hwn⟩;obtain rfl:=hwn.symm;clear hwn);refine hK.out _ _ (by exact QM.below hS b5) (fun hHeld2=>?_);clear hK K hHeld;have hHeld:=hHeld2
      clear hHeld2;try simp only[Act.put,gG]
      refine wpAnyH_ready (rs:=[12]) (by kernel_rfl) (by simp) ?_;refine AllReadyH.cons rfl (fun K hK=>?_) AllReadyH.nil;go_simp;go_wp2_with (go_at_call 155;refine(HC2.out w5 ya yc (HS5.out.below b5).1 hy.1).mono ?_;rintro e w6 ⟨za,zc,rfl,b6,hz⟩);refine hK.out _ _ (by exact QM.below (QM.below hS b5) b6) (fun hHeld2=>?_);clear hK K hHeld;have hHeld:=hHeld2
      clear hHeld2;try simp only[Act.put,gG]
      refine wpAnyH_take (i:=13) (v:=?_) rfl (by kernel_rfl) (by kernel_rfl) (by kernel_rfl) (fun _ _ _ h=>h) (Or.inl ⟨by rfl,?_⟩) (by assumption) ?_;rotate_left
      ·(intro w9 hSw;(try dsimp only at hSw);go_simp)<;>with_reducible rfl
      try simp only[Act.put,gG]
      refine wpAnyH_take (i:=14) (v:=?_) rfl (by kernel_rfl) (by kernel_rfl) (by kernel_rfl) (fun _ _ _ h=>h) (Or.inl ⟨by rfl,?_⟩) (by assumption) ?_;rotate_left
      ·(intro w9 hSw;(try dsimp only at hSw);go_simp)<;>with_reducible rfl
      try simp only[Act.put,gG]
      refine wpAnyH_ready (rs:=[15]) (by kernel_rfl) (by simp) ?_;refine AllReadyH.cons rfl (fun K hK=>?_) AllReadyH.nil;go_simp;go_wp2_with (go_at_call 124;refine(gF _ _).mono ?_;rintro e wn ⟨rfl,hwn⟩;obtain rfl:=hwn.symm;clear hwn);exact⟨rfl,HB1.out.trans ((aB (aB HB1X.out b5) b6).mono (Nat.le_of_lt hs1)),.inr ⟨rfl,rfl⟩⟩
     have HN:=aA ((DG HS.out).trans (Ra HY1.out HZ1.out));go_wp2_with fail;have hS:=HS0.out
     go_region_held3 (fun x=>QM x wr.heap.size (.slice (qa t) (qs t).length (qc t)) (.slice (some ⟨rb,roff,none⟩) g (rc t)) rb (roff+j) (.slice (rad t j) QJ.length (rcp t j))) (first|with_reducible exact hS|with_reducible exact QM.below (QM.below hS b5) b6|with_reducible exact QM.below hS b5) (first|(go_at_call 154;refine HC1.out.mono ?_;rintro e w5 ⟨ya5,yc5,rfl,b5,hy5⟩)|(go_at_call 124;refine(iE _ _).mono ?_;rintro e wn ⟨rfl,hwn⟩;obtain rfl:=hwn.symm;clear hwn)|(go_at_call 155;refine(HC2.out w5 ya5 yc5 (HS5.out.below b5).1 hy5.1).mono ?_;rintro e w6 ⟨za6,zc6,rfl,b6,hz6⟩))
     have hBx6:=aB (aB HBX.out b5) b6;have HBX6:=aA hBx6
     have h6:wr.heap.size≤(wr.alloc (.cells #[.slice (qa t) (qs t).length (qc t),.slice (some ⟨rb,roff,none⟩) g (rc t)] 192)).drew.heap.size:=by simp
     have h5:=b5.size;have hO6:jN wo.heap.size w6 za6 zc6 Z1:=hz6.low (by omega)
     clear h6 h5;have HO6:=aA hO6
     clear hS b5 b6 hy5 hz6 hBx6 hO6;go_wp2;go_roundw;case rel=>exact⟨t+1,Z1,za6,zc6,by omega,by go_num,HN.out,rfl,HBX6.out,HO6.out⟩
     case measure=>simp[intOf];omega
    ·have htl:¬(t:Int)<(M:Int):=by omega
     have hte:t=M:=by omega
     subst hte;have HXN:=aA (yT HX.out HS.out)
     have hBw:Below wo.heap.size wo wr:=aB HBr4.out hBi;have hAX:pD w1.heap.size wr (dD X j s) j u5 ad cp B:=(HA.out.below hBw).congr (fun i hi=>(if_neg (by omega)).symm)
     have hA6X:pD w1.heap.size wo (dD X j s) j u5 ad cp B:=HA.out.congr (fun i hi=>(if_neg (by omega)).symm);have hYj:dD X j s j=s:=if_pos rfl
     have HRND:Hid (∀(g0 cap0:Nat) (w5:World),w5.ownsRow w1.heap.size 45 1 (.slice (some ⟨g0,0,none⟩) (j+1) cap0) (j+1) (FC ad (fun i=>(dD X j s i).length) cp j++[.slice sa s.length sc])→(wr.alloc (.cells #[.slice sa s.length sc] 45)).grownBy w5 u5.ownBlock→(u5.ownBlock=some g0∨g0=(wr.alloc (.cells #[.slice sa s.length sc] 45)).heap.size)→g0<w5.heap.size→∃ad' cp' B',pD w1.heap.size w5 (dD X j s) (j+1) (.slice (some ⟨g0,0,none⟩) (j+1) cap0) ad' cp' B'):=fun g0 cap0 w5 h1 h2 h3 h4=>by
      refine pD.more hA6X hAX (a:=sa) (c:=sc) (by rw[hYj];exact HSO.out) ?_ ?_ ?_ h4
      ·rw[hYj];exact h2
      ·rw[hYj];exact h1
      ·rw[hYj];exact h3
     have HAX:=aA hAX;have HBW:=aA (aB HB4.out hBi)
     have hsw:w1.heap.size≤wr.heap.size:=HBW.out.size;clear hAX hA6X hYj hBw hBi;go_wp2_with (at_builtin;refine wpList_append_lies _ rfl (.tmp 49) (.tmp 51) 24 rfl w1.heap.size 45 i0 _ 1 24 Tryz.underlying24 hi0 hz0 hz1 hz2 rfl (by omega) _ j (FC ad (fun i=>(dD X j s i).length) cp j) rfl (HAX.out.row.alloc _) ⟨wr.heap.size,0,none⟩ 1 1 [.slice sa s.length sc] rfl rfl (World.news_of_block (heap_alloc_new wr _)) (kH _ _ _) (by omega) hmax (by omega) (by simp;omega) _ rfl ?_;intro g1 cap1 w8 hown2 hgrow2 hat2 hlt2;have HRR:=aA (HRND.out g1 cap1 w8 hown2 hgrow2 hat2 hlt2);have HB8:=aA ((HBW.out.alloc HBW.out.size _).grown hgrow2 (by simp;omega) (fun k e=>(HAX.out.row.lt k e).1));clear hown2 hgrow2 hat2 hlt2);obtain⟨ad',cp',B',hA8⟩:=HRR.out;go_roundw;case rel=>exact⟨j+1,dD X j s,ad',cp',B',by omega,by go_num,HXN.out,HB8.out,hA8⟩
     case measure=>simp[intOf];omega
  ·have hjn:¬(j:Int)<(g:Int):=by omega
   have hje:j=g:=by omega
   subst hje;have hEs:E=some X:=by rw[←HE.out];exact HX.out
   subst hEs;obtain⟨qa',qc',Rb,etv,hO⟩:=HA.out.out (by omega);subst etv;have HOO:=aA hO
   clear hB hA hO;go_wp2;go_ret;exact⟨HB1.out.trans (HB.out.mono (Nat.le_of_lt hs1)),.inl ⟨X,qa',qc',ad,cp,w1.heap.size,Rb,B,rfl,rfl,Nat.le_of_lt hs1,HOO.out⟩⟩
end Go.Proofs.YtdidlcjhodejjaaGreat
