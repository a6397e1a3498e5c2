/-
  A sum of products of two lists: the program's RedSum.
  A division on its way, as lists: what a step does, and what stays true.
  The greatest term of a sum while it is made.
-/
import Derived.Test.YtncffcaabnjioaaGreatMba
import Derived.Test.YtncffcaabnjioaaGreatMax
import Derived.Test.YtncffcaabnjioaaGreatMay
import Derived.Maps.RangeWalk
set_option maxHeartbeats 8000000
set_option maxRecDepth 100000
namespace Go.Proofs.YtncffcaabnjioaaGreat
open Go.RowKit Go.Deep Go.Joins
set_option linter.unusedVariables false
structure Dv where
 p:List T
 q:Nat→List T
 r:List T
def dQ (o:Int) (L:List T):T:=lf L (aX o (lf L) L.length)
def vX (o:Int) (n:Nat) (ln:Nat→Nat) (f:Nat→Nat→T) (m:M):Int:=mZ (fun t=>M.dvd t.m m) (kV o ln f) n
def lE (q:Nat→List T) (k:Nat) (L:List T) (i:Nat):List T:=if i=k then L else q i
def KU (o:Int) (ln:Nat→Nat) (f:Nat→Nat→T) (S:Dv) (k:Nat):T:=eW (dQ o S.p) (kV o ln f k)
def gI (o:Int) (ln:Nat→Nat) (f:Nat→Nat→T) (S:Dv) (k:Nat):Option Dv:=
 match bY (lf [KU o ln f S k]) (f k) (ln k) 1 with
 |none=>none
 |some Y=>if(cQ S.p Y).length≤400 then some ⟨cQ S.p Y,lE S.q k (cF (S.q k) [KU o ln f S k]),S.r⟩else none
def gS (o:Int) (S:Dv):Dv:=⟨cQ S.p [dQ o S.p],S.q,cF S.r [dQ o S.p]⟩
def dB (o:Int) (n:Nat) (ln:Nat→Nat) (f:Nat→Nat→T) (S:Dv):Option Dv:=
 if 0≤vX o n ln f (dQ o S.p).m then gI o ln f S (vX o n ln f (dQ o S.p).m).toNat else some (gS o S)
def dV (o:Int) (n:Nat) (ln:Nat→Nat) (f:Nat→Nat→T):Nat→Dv→Option Dv
 |0,S=>if S.p.length=0 then some S else none
 |u+1,S=>if S.p.length=0 then some S else match dB o n ln f S with
  |none=>none
  |some S'=>dV o n ln f u S'
def jO (p:List T):Dv:=⟨p,fun _=>[],[]⟩
def aP (o:Int) (p:List T) (n:Nat) (ln:Nat→Nat) (f:Nat→Nat→T):Option Dv:=
 if(1≤o∧o≤3)∧cT p=true∧aW n ln f=true then dV o n ln f 300 (jO p)else none
structure iK (u:Nat) (S:Dv):Prop where
 p:cT S.p=true
 q:∀k,aK (S.q k)∧(S.q k).length≤u
 r:aK S.r∧S.r.length≤u
theorem iK.start {p:List T} (h:cT p=true):iK 0 (jO p):=⟨h,fun _=>⟨eT,Nat.le_refl _⟩,eT,Nat.le_refl _⟩
theorem mU {o:Int} {n:Nat} {ln:Nat→Nat} {f:Nat→Nat→T} {u:Nat} {S:Dv} (h:S.p.length=0):dV o n ln f u S=some S:=by cases u<;>exact if_pos h
theorem yH {o:Int} {n:Nat} {ln:Nat→Nat} {f:Nat→Nat→T} {S:Dv} (h:S.p.length≠0):dV o n ln f 0 S=none:=if_neg h
theorem rN {o:Int} {n:Nat} {ln:Nat→Nat} {f:Nat→Nat→T} {u:Nat} {S:Dv} (h:S.p.length≠0) (hs:dB o n ln f S=none):dV o n ln f (u+1) S=none:=by show(if S.p.length=0 then some S else match dB o n ln f S with|none=>none|some S'=>dV o n ln f u S')=none;rw[if_neg h,hs]
theorem kR {o:Int} {n:Nat} {ln:Nat→Nat} {f:Nat→Nat→T} {u:Nat} {S S':Dv} (h:S.p.length≠0) (hs:dB o n ln f S=some S'):dV o n ln f (u+1) S=dV o n ln f u S':=by show(if S.p.length=0 then some S else match dB o n ln f S with|none=>none|some S'=>dV o n ln f u S')=_;rw[if_neg h,hs]
theorem kC {o:Int} {L:List T} (h:L.length≠0):dQ o L∈L:=lV (tK (by omega))
theorem iF {o:Int} {L:List T} (hL:aK L) (h:L.length≠0):(dQ o L).m.ok=true∧1≤(dQ o L).c∧(dQ o L).c≤100:=hL.2 _ (kC h)
theorem FM {o:Int} {L:List T} (ho:1≤o∧o≤3) (hL:cT L=true) (h:L.length≠0):dQ o L=qN o L:=by have:bH o L.length (lf L)=true:=iV.2 ⟨ho,hL,fun e=>h (by rw[e];rfl)⟩;unfold qN;rw[eF this];rfl
theorem AK {o:Int} {L:List T} (ho:1≤o∧o≤3) (hL:cT L=true) (h:L.length≠0):∀t∈L,iX o t.m≤iX o (dQ o L).m:=by have:AJ o L=true:=iV.2 ⟨ho,hL,fun e=>h (by rw[e];rfl)⟩;rw[FM ho hL h];exact(tJ this).2
theorem tH {o:Int} {n:Nat} {ln:Nat→Nat} {f:Nat→Nat→T} (hl:aW n ln f=true) {k:Nat} (hk:k<n):(kV o ln f k).m.ok=true∧1≤(kV o ln f k).c∧(kV o ln f k).c≤100:=by obtain⟨h0,h1⟩:=(aT hl).2 k hk;exact(dE h1).2 _ (tK (by omega))
theorem FS {a b:Int} (h1:1≤a) (h2:a≤100) (h3:1≤b) (h4:b≤100):1≤a*b%101∧a*b%101≤100:=by
 have h0:a*b%101≠0:=fun e=>by
  obtain⟨x,hx⟩:∃x:Nat,a=x:=⟨a.toNat,by omega⟩
  obtain⟨y,hy⟩:∃y:Nat,b=y:=⟨b.toNat,by omega⟩
  subst hx hy;have:=zD ⟨x,by omega⟩ ⟨y,by omega⟩ (by simp only;exact_mod_cast e)
  simp at this;omega
 omega
theorem qV {t l:T} (ht:t.m.ok=true∧1≤t.c∧t.c≤100) (hl:l.m.ok=true∧1≤l.c∧l.c≤100) (hd:l.m.dvd t.m=true):(eW t l).m.ok=true∧1≤(eW t l).c∧(eW t l).c≤100:=by
 have h1:=tU (b:=t.m) hl hd;have h2:=FS ht.2.1 ht.2.2 (CU hl.2.1 hl.2.2) (rR l.c).2
 exact⟨h1.1,h2.1,h2.2⟩
theorem kJ {o:Int} {n:Nat} {ln:Nat→Nat} {f:Nat→Nat→T} {m:M} (h:0≤vX o n ln f m):(vX o n ln f m).toNat<n∧M.dvd (kV o ln f (vX o n ln f m).toNat).m m=true:=by
 unfold vX at h⊢;obtain⟨i,hi,hp⟩:=AB.1 h;obtain⟨j,hj,h1,h2⟩:∃j,j<n∧(∀i,i<j→(fun t:T=>M.dvd t.m m) (kV o ln f i)=false)∧(fun t:T=>M.dvd t.m m) (kV o ln f j)=true:=by
  clear h
  revert i
  induction n with
  |zero=>intro i hi;omega
  |succ n ih=>
   intro i hi hp;by_cases hx:∃i,i<n∧(fun t:T=>M.dvd t.m m) (kV o ln f i)=true
   ·obtain⟨i',h1,h2⟩:=hx;obtain⟨j,hj,h3,h4⟩:=ih i' h1 h2;exact⟨j,by omega,h3,h4⟩
   ·have hin:i=n:=by
     rcases Nat.lt_or_ge i n with h|h
     ·exact absurd ⟨i,h,hp⟩ hx
     ·omega
    subst hin;refine⟨i,hi,fun k hk=>?_,hp⟩;cases hb:(fun t:T=>M.dvd t.m m) (kV o ln f k)with
    |false=>rfl
    |true=>exact absurd ⟨k,hk,hb⟩ hx
 rw[vB h1 h2 n hj];exact⟨by simpa using hj,by simpa using h2⟩
theorem eS {t:T} (h:t.m.ok=true∧1≤t.c∧t.c≤100):aK [t]:=(aE (jR h)).2
theorem CO {o:Int} {n:Nat} {ln:Nat→Nat} {f:Nat→Nat→T} (hl:aW n ln f=true) {S:Dv} (hp:cT S.p=true) (h:S.p.length≠0) (hk:0≤vX o n ln f (dQ o S.p).m):(KU o ln f S (vX o n ln f (dQ o S.p).m).toNat).m.ok=true∧1≤(KU o ln f S (vX o n ln f (dQ o S.p).m).toNat).c∧(KU o ln f S (vX o n ln f (dQ o S.p).m).toNat).c≤100:=
 qV (iF (aE hp).2 h) (tH hl (kJ hk).1) (kJ hk).2
theorem wR {t:T} (ht:t.m.ok=true∧1≤t.c∧t.c≤100) {g:Nat→T} {m:Nat} (hg:aN m g=true) {Y:List T} (h:bY (lf [t]) g m 1=some Y):cT Y=true:=
 gJ (fT _ Y h) (dA (bV (show aN 1 (lf [t])=true from jR ht)).2 (bV hg).2 _ Y (Nat.le_refl _) h)
theorem iK.take {o:Int} {n:Nat} {ln:Nat→Nat} {f:Nat→Nat→T} (hl:aW n ln f=true) {u:Nat} {S S':Dv} (h:iK u S) (h0:S.p.length≠0) (hk:0≤vX o n ln f (dQ o S.p).m) (hs:gI o ln f S (vX o n ln f (dQ o S.p).m).toNat=some S'):iK (u+1) S':=by
 have hg:=CO hl h.p h0 hk;have hkn:=(kJ hk).1
 generalize(vX o n ln f (dQ o S.p).m).toNat=k at hs hg hkn;unfold gI at hs;split at hs
 ·cases hs
 ·rename_i Y hY;split at hs
  ·rename_i hle;cases hs;have fY:=wR hg ((aT hl).2 k hkn).2 hY
   refine⟨gJ hle (cJ (aE h.p).2 (aE fY).2).1,fun i=>?_,h.r.1,Nat.le_succ_of_le h.r.2⟩;show aK (lE S.q k _ i)∧(lE S.q k _ i).length≤u+1
   unfold lE;split
   ·refine⟨(cV (h.q k).1 (eS hg)).1,?_⟩;have h1:=oK (S.q k) [KU o ln f S k]
    have h2:=(h.q k).2;simp only[List.length_singleton]at h1;omega
   ·exact⟨(h.q i).1,Nat.le_succ_of_le (h.q i).2⟩
  ·cases hs
theorem iK.leave {o:Int} {u:Nat} {S:Dv} (h:iK u S) (h0:S.p.length≠0) (hle:(cQ S.p [dQ o S.p]).length≤400):iK (u+1) (gS o S):=by
 have hg:=iF (o:=o) (aE h.p).2 h0;refine⟨gJ hle (cJ (aE h.p).2 (eS hg)).1,fun i=>⟨(h.q i).1,Nat.le_succ_of_le (h.q i).2⟩,(cV h.r.1 (eS hg)).1,?_⟩;have h1:=oK S.r [dQ o S.p]
 have h2:=h.r.2;simp only[List.length_singleton]at h1;show(cF S.r [dQ o S.p]).length≤u+1
 omega
theorem iP {L:List T} (h:aK L) {t:T} (ht:t∈L):aL L t.m=t.c∧aL L t.m≠0:=by
 have h1:aL L t.m=t.c:=by
  induction L with
  |nil=>cases ht
  |cons s r ih=>
   rw[aL];rcases List.mem_cons.1 ht with rfl|ht'
   ·rw[if_pos (bT.2 rfl)]
   ·have h1:=h.head t ht';rw[if_neg (fun e=>by rw[bT.1 e]at h1;omega)];exact ih h.tail ht'
 have h2:=h.2 t ht;exact⟨h1,by omega⟩
theorem uP {L:List T} (hL:aK L) {t:T} (ht:t∈L):(cQ L [t]).length<L.length:=by
 have ht':=hL.2 t ht;have hf:=cJ hL (eS ht')
 have hm:=iP hL ht;have key:cQ L [t]=L.filter (fun s=> !gB s.m t.m):=by
  refine mH hf.1 ⟨hL.1.filter _,fun s hs=>hL.2 s (List.mem_filter.1 hs).1⟩ (fun m hmo=>?_);rw[hf.2 m];by_cases e:t.m=m
  ·subst e;have h1:aL [t] t.m=t.c:=bC _ _
   rw[h1,hm.1];have h2:aL (L.filter (fun s=> !gB s.m t.m)) t.m=0:=by
    by_cases hz:aL (L.filter (fun s=> !gB s.m t.m)) t.m=0
    ·exact hz
    ·obtain⟨s,hs,he⟩:=List.mem_map.1 (jA hz);have:=(List.mem_filter.1 hs).2
     rw[bT.2 he]at this;cases this
   rw[h2];omega
  ·have h1:aL [t] m=0:=by rw[gF e];rfl
   have hb:=bR hL m;rw[h1];have h2:aL (L.filter (fun s=> !gB s.m t.m)) m=aL L m:=by
    by_cases hz:aL L m=0
    ·rw[hz];by_cases hz2:aL (L.filter (fun s=> !gB s.m t.m)) m=0
     ·exact hz2
     ·obtain⟨s,hs,he⟩:=List.mem_map.1 (jA hz2);have h3:=(iP hL (List.mem_filter.1 hs).1).2
      rw[show s.m=m from he]at h3;exact absurd hz h3
    ·obtain⟨s,hs,he⟩:=List.mem_map.1 (jA hz);have he:s.m=m:=he
     subst he;have h4:s∈L.filter (fun s=> !gB s.m t.m):=List.mem_filter.2 ⟨hs,by rw[UR.2 (fun e'=>e e'.symm)];rfl⟩
     rw[(iP hL hs).1,(iP (L:=L.filter (fun s=> !gB s.m t.m)) ⟨hL.1.filter _,fun s hs=>hL.2 s (List.mem_filter.1 hs).1⟩ h4).1]
   rw[h2];omega
 rw[key];refine List.length_filter_lt_length_iff_exists.2 ⟨t,ht,?_⟩;rw[bT.2 rfl];decide
theorem mF {o:Int} {n:Nat} {ln:Nat→Nat} {f:Nat→Nat→T} (hl:aW n ln f=true) {u:Nat} {S S':Dv} (h:iK u S) (h0:S.p.length≠0) (hs:dB o n ln f S=some S'):iK (u+1) S':=by
 unfold dB at hs;split at hs
 ·exact h.take hl h0 (by assumption) hs
 ·cases hs;have:=uP (aE h.p).2 (kC (o:=o) h0)
  have h4:=(aE h.p).1;exact h.leave h0 (by omega)
theorem vY {o:Int} {n:Nat} {ln:Nat→Nat} {f:Nat→Nat→T} (hl:aW n ln f=true):∀{v u:Nat} {S S':Dv},iK u S→dV o n ln f v S=some S'→iK (u+v) S'∧S'.p=[]
 |0,u,S,S',h,hr=>by
  unfold dV at hr;split at hr
  ·rename_i h0;cases hr;exact⟨h,List.length_eq_zero_iff.1 h0⟩
  ·cases hr
 |v+1,u,S,S',h,hr=>by
  by_cases h0:S.p.length=0
  ·rw[mU h0]at hr;cases hr;exact⟨⟨h.p,fun k=>⟨(h.q k).1,by have:=(h.q k).2;omega⟩,h.r.1,by have:=h.r.2;omega⟩,List.length_eq_zero_iff.1 h0⟩
  ·cases hs:dB o n ln f S with
   |none=>rw[rN h0 hs]at hr;cases hr
   |some S1=>
    rw[kR h0 hs]at hr;have:=vY hl (mF hl h h0 hs) hr
    rw[show u+(v+1)=u+1+v by omega];exact this
open Go.RowKit Go.Deep Go.Joins Go.Maps
theorem bL.grown {w w':World} {b:Nat} {t:T} {row:Option Nat} (h:bL w b t) (hg:w.grownBy w' row) (hne:some b≠row):bL w' b t:=by
 have hl:=h.1.lt;have hb:=hg.block b hl hne
 obtain⟨⟨h0,h1,h2,h3,h4⟩,h5⟩:=h;exact⟨⟨(lH (a:=⟨b,0,none⟩) hb).trans h0,(lH (a:=⟨b,1,none⟩) hb).trans h1,(lH (a:=⟨b,2,none⟩) hb).trans h2,(lH (a:=⟨b,3,none⟩) hb).trans h3,(lH (a:=⟨b,4,none⟩) hb).trans h4⟩,fun j=>(World.frozen?_of_block (a:=⟨b,j,none⟩) hb).trans (h5 j)⟩
theorem gN (w:World) (b i:Nat) (v:Value):w.grownBy (w.setCell ⟨b,i,none⟩ v) (some b):=
 ⟨(cE 0 w).setCell (p:=⟨b,i,none⟩) (gL _) v |>.os,(cE 0 w).setCell (p:=⟨b,i,none⟩) (gL _) v |>.tape,(cE 0 w).setCell (p:=⟨b,i,none⟩) (gL _) v |>.output,(cE 0 w).setCell (p:=⟨b,i,none⟩) (gL _) v |>.size,fun k _ hk=>Below.heap_setCell _ _ _ k (fun e=>hk (by rw[e]))⟩
theorem mI (w:World) (B:Nat) (v0 v1 v2 v3 v4:Value):w.grownBy (((((w.setCell ⟨B,0,none⟩ v0).setCell ⟨B,1,none⟩ v1).setCell ⟨B,2,none⟩ v2).setCell ⟨B,3,none⟩ v3).setCell ⟨B,4,none⟩ v4) (some B):=
 ((((gN w B 0 v0).trans (gN _ B 1 v1)).trans (gN _ B 2 v2)).trans (gN _ B 3 v3)).trans (gN _ B 4 v4)
def EQ (rk:M→Int) (c:M→Int) (ss:List M) (G:T):Prop:=(ss=[]∧G=bG)∨(1≤G.c∧G.m.ok=true∧G.m∈ss∧G.c=c G.m∧∀m∈ss,rk m≤rk G.m)
theorem EQ.first {rk c:M→Int} {G:T} (h:EQ rk c [] G):G=bG:=by
 rcases h with⟨_,h⟩|⟨_,_,h,_⟩
 ·exact h
 ·simp at h
theorem EQ.put {rk c:M→Int} {ss:List M} {G:T} {m:M} (h:EQ rk c ss G) (hm:m.ok=true) (hc:1≤c m) (hg:G.c=0∨rk G.m<rk m):EQ rk c (ss++[m]) ⟨c m,m⟩:=by
 refine .inr ⟨hc,hm,by simp,rfl,fun x hx=>?_⟩;rcases List.mem_append.1 hx with hx|hx
 ·rcases h with⟨rfl,_⟩|⟨h1,_,_,_,h5⟩
  ·simp at hx
  ·rcases hg with hg|hg
   ·omega
   ·have:=h5 x hx;show rk x≤rk m
    omega
 ·simp at hx;rw[hx];exact Int.le_refl _
theorem EQ.keep {rk c:M→Int} {ss:List M} {G:T} {m:M} (h:EQ rk c ss G) (h1:1≤G.c) (hg:¬rk G.m<rk m):EQ rk c (ss++[m]) G:=by
 rcases h with⟨_,rfl⟩|⟨_,h0,h2,h3,h5⟩
 ·exact absurd h1 (by decide)
 ·refine .inr ⟨h1,h0,List.mem_append_left _ h2,h3,fun x hx=>?_⟩;rcases List.mem_append.1 hx with hx|hx
  ·exact h5 x hx
  ·simp at hx;rw[hx];omega
theorem EQ.all {o:Int} {p:List T} (ho:1≤o∧o≤3) (hp:cT p=true) (h0:p.length≠0) {ss:List M} {G:T} (h:EQ (iX o) (aL p) ss G) (hs:∀m:M,m.ok=true→(m∈ss↔aL p m≠0)):G=dQ o p:=by
 have hl:=kC (o:=o) h0;have hf:=(aE hp).2
 have hlm:=hf.2 _ hl;have hcl:=iP hf hl
 have hin:(dQ o p).m∈ss:=(hs _ hlm.1).2 hcl.2;rcases h with⟨rfl,_⟩|⟨h1,h2,h3,h4,h5⟩
 ·simp at hin
 ·have hc:aL p G.m≠0:=(hs _ h2).1 h3;obtain⟨t,ht,he⟩:=List.mem_map.1 (jA hc);have he:t.m=G.m:=he
  have e1:=h5 _ hin;have e2:=AK ho hp h0 t ht
  rw[he]at e2;have e3:G.m=(dQ o p).m:=pS _ _ h2 hlm.1 (Int.le_antisymm e2 e1)
  have e4:G.c=(dQ o p).c:=by rw[h4,e3,hcl.1]
  cases hG:G with|mk gc gm=>
  cases hL:dQ o p with|mk lc lm=>
  rw[hG,hL]at e3 e4;simp at e3 e4;rw[e3,e4]
theorem kO.all {D:DataW Unit} {left:Lit→Bool} {ss:List M} {c:M→Int} (h:kO D left ss) (hl:∀kl,left kl=false) (hat:∀m:M,m.ok=true→D.atKey (dK m) (.lit (.int .i64 0))= .lit (.int .i64 (c m))∧(Maps.has D (dK m)=true↔c m≠0)):∀m:M,m.ok=true→(m∈ss↔c m≠0):=fun m hm=>by
 rw[h.2.2 m hm,hl];simp[(hat m hm).2]
theorem LD (w:World) (b n:Nat) (c:M→Int) (h:bD w b n c):Calls Tryz.prog 89 #[.map (some b),.func (.func 97) #[] #[]] w fun r w'=>∃G:T,r= .returned (.agg #[.int .i64 G.c,.int .i64 G.m.x,.int .i64 G.m.y,.int .i64 G.m.d,.int .i64 G.m.e])∧Below w.heap.size w w'∧∃ss,EQ dY c ss G∧∀m:M,m.ok=true→(m∈ss↔c m≠0):=by
 obtain⟨D,hown,hc,hat,hks⟩:=h;have hblt:=hown.lt
 have HKS:=aA hks;have HAT:=aA hat
 have HC:=aA hc;have HO2:=aA ((hown.alloc (.cells #[.int .i64 0,.int .i64 0,.int .i64 0,.int .i64 0,.int .i64 0] 47)).alloc (.cells #[.int .i64 0,.int .i64 0,.int .i64 0,.int .i64 0,.int .i64 0] 47))
 have HB0:=aA (aQ w (.cells #[.int .i64 0,.int .i64 0,.int .i64 0,.int .i64 0,.int .i64 0] 47) (.cells #[.int .i64 0,.int .i64 0,.int .i64 0,.int .i64 0,.int .i64 0] 47));have HZ0:=aA ((bL.box w 47 bG).below (aC _ (.cells #[.int .i64 0,.int .i64 0,.int .i64 0,.int .i64 0,.int .i64 0] 47)))
 have HG0:=aA (bL.box (w.alloc (.cells #[.int .i64 0,.int .i64 0,.int .i64 0,.int .i64 0,.int .i64 0] 47)) 47 bG);clear hks hat hown hc;go_enter Tryz.func89,Tryz.ntmps89
 go_wp2_with (first
  |(at_range;refine wpList_range_own _ rfl _ 77 rfl 45 81 jZ Tryz.underlying77 _ b n D rfl HO2.out ?_;intro w0 hrg0 hg0 hs0)
  |go_in)
 have hs2:((w.alloc (.cells #[.int .i64 0,.int .i64 0,.int .i64 0,.int .i64 0,.int .i64 0] 47)).alloc (.cells #[.int .i64 0,.int .i64 0,.int .i64 0,.int .i64 0,.int .i64 0] 47)).heap.size=w.heap.size+2:=by simp
 have HB1:=aA (kH HB0.out hg0 (by simp));have HZ1:=aA (HZ0.out.grown hg0 (by simp))
 have HG1:=aA (HG0.out.grown hg0 (by simp));have HRG:=aA hrg0
 rw[hs2]at HRG;simp only[World.size_alloc]at HG1;clear HB0 HZ0 HG0 HO2 hrg0 hg0 hs0
 go_frame
 rw[hs2]
 go_loopw [6] (fun _ wr=>∃(left:Lit→Bool) (vW:Nat) (ss:List M) (G:T),wr.ranges Tryz.prog 45 (plainElem Tryz.prog 81) b (w.heap.size+2) n D left vW∧kO D left ss∧Below w.heap.size w wr∧bL wr w.heap.size bG∧bL wr (w.heap.size+1) G∧EQ dY c ss G)
  (fun _ wr=>wr.rangeLeft b (w.heap.size+2))
 case atStart=>exact⟨_,_,[],bG,HRG.out,kO.start D,HB1.out,HZ1.out,HG1.out,.inl ⟨rfl,rfl⟩⟩
 case round=>
  obtain⟨left,vW,ss,G,hrg,hC,hB,hZ,hG,hM⟩:=hrel;have HCO:=aA hC
  have HB:=aA hB;have HZ:=aA hZ
  have HGG:=aA hG;have HM:=aA hM
  have HRR:=aA hrg;have hGl:w.heap.size+1<wr.heap.size:=hG.1.lt
  clear hC hB hZ hG hM
  go_wp2_with (first
   |(at_next;refine wpList_next_ranges _ rfl _ rfl 45 jZ (plainElem Tryz.prog 81) (id:Value→Value) (Value.int .i64) (fun key kl hk=>⟨key,rfl⟩) (fun v y hv=>by obtain⟨c,rfl,_⟩:=plainElem_int_inv Tryz.underlying81 hv;exact⟨c,rfl⟩) b (w.heap.size+2) n _ _ _ rfl HRR.out ?_ ?_)
   |go_in)
  ·intro hc0 hl0;obtain⟨⟨z0,z1,z2,z3,z4⟩,fz⟩:=HZ.out;obtain⟨⟨l0,l1,l2,l3,l4⟩,_⟩:=HGG.out;simp only[bG]at z0 z1 z2 z3 z4;have HAL:=aA (HCO.out.all hl0 HAT.out)
   clear hl0 hrg HZ HGG;go_wp2;refine cB (v:=.agg #[.int .i64 G.c,.int .i64 G.m.x,.int .i64 G.m.y,.int .i64 G.m.d,.int .i64 G.m.e]) (by simp[results,Tryz.results89,go_sem, *]) rfl ⟨G,rfl,?_,ss,HM.out,HAL.out⟩;exact bQ HB.out (Nat.le_refl _) _ _ _ _ _
  ·intro x cv kl yd yp w2 cnt2 hkey hlk hv hatx hrg2 hlt hg2 hsz2 hen;obtain⟨m,hmo,rfl⟩:=HKS.out kl (has_true_of_atKey hatx);obtain rfl:x=KV m:=jZ.inj hkey (lU hmo);obtain rfl:cv=c m:=by
    obtain⟨c',e,e2,_⟩:=plainElem_int_inv Tryz.underlying81 hv;cases e;cases e2;have h1:=(HAT.out m hmo).1
    rw[hatx]at h1;simpa using h1
   have hcm:1≤c m:=by
    have h1:=(HAT.out m hmo).2.1 (has_true_of_atKey hatx);have h2:=(HC.out m).1
    omega
   have hcm2:=(HC.out m).2;have HRG2:=aA (hrg2.alloc (.cells #[.int .i64 m.x,.int .i64 m.y,.int .i64 m.d,.int .i64 m.e] 45))
   have HLT:=aA (show cnt2<wr.rangeLeft b (w.heap.size+2) by rw[hrg.left_eq];exact hlt);have HCO2:=aA (HCO.out.step hmo hlk hatx)
   have hB2:=kH HB.out hg2 (fun k e=>by cases e;omega);have HB2:=aA (hB2.alloc hB2.size (.cells #[.int .i64 m.x,.int .i64 m.y,.int .i64 m.d,.int .i64 m.e] 45))
   have HZ2:=aA ((HZ.out.grown hg2 (by simp)).below (aC w2 (.cells #[.int .i64 m.x,.int .i64 m.y,.int .i64 m.d,.int .i64 m.e] 45)));have HG2:=aA ((HGG.out.grown hg2 (by simp)).below (aC w2 (.cells #[.int .i64 m.x,.int .i64 m.y,.int .i64 m.d,.int .i64 m.e] 45)))
   have HM2:=aA (M4.box w2 45 m.x m.y m.d m.e);have hsw:w.heap.size+1<w2.heap.size:=by rw[hsz2];exact hGl
   have hrw:w.heap.size+2<w2.heap.size:=hrg2.lt;have hbw:b<w2.heap.size:=hrg2.owns.lt
   clear hlk hatx hrg hrg2 hlt hg2 hsz2 hkey hv hB2 HRR HB HZ HGG HCO hGl;go_wp2_with fail;generalize(w2.alloc (.cells #[.int .i64 m.x,.int .i64 m.y,.int .i64 m.d,.int .i64 m.e] 45))=wq at HRG2 HB2 HZ2 HG2 HM2⊢;have ne:=cX.there wq
   have s0:∀u:cX wq,u.1.cell? ⟨w2.heap.size,0,none⟩=some (.int .i64 m.x):=fun u=>(u.cell HM2.out.lt).trans HM2.out.1;have s1:∀u:cX wq,u.1.cell? ⟨w2.heap.size,1,none⟩=some (.int .i64 m.y):=fun u=>(u.cell HM2.out.lt).trans HM2.out.2.1
   have s2:∀u:cX wq,u.1.cell? ⟨w2.heap.size,2,none⟩=some (.int .i64 m.d):=fun u=>(u.cell HM2.out.lt).trans HM2.out.2.2.1;have s3:∀u:cX wq,u.1.cell? ⟨w2.heap.size,3,none⟩=some (.int .i64 m.e):=fun u=>(u.cell HM2.out.lt).trans HM2.out.2.2.2
   have t0:∀u:cX wq,u.1.cell? ⟨w.heap.size+1,0,none⟩=some (.int .i64 G.c):=fun u=>(u.cell HG2.out.1.lt).trans HG2.out.1.1;have t1:∀u:cX wq,u.1.cell? ⟨w.heap.size+1,1,none⟩=some (.int .i64 G.m.x):=fun u=>(u.cell HG2.out.1.lt).trans HG2.out.1.2.1
   have t2:∀u:cX wq,u.1.cell? ⟨w.heap.size+1,2,none⟩=some (.int .i64 G.m.y):=fun u=>(u.cell HG2.out.1.lt).trans HG2.out.1.2.2.1;have t3:∀u:cX wq,u.1.cell? ⟨w.heap.size+1,3,none⟩=some (.int .i64 G.m.d):=fun u=>(u.cell HG2.out.1.lt).trans HG2.out.1.2.2.2.1
   have t4:∀u:cX wq,u.1.cell? ⟨w.heap.size+1,4,none⟩=some (.int .i64 G.m.e):=fun u=>(u.cell HG2.out.1.lt).trans HG2.out.1.2.2.2.2;by_cases hG0:G.c=0
   ·have hgz:((G.c:Int)==0)=true:=by simpa using hG0
    have HMT:=aA (HM.out.put hmo hcm (.inl hG0));clear HM hG0;refine aJ (by kernel_rfl) (by kernel_rfl) ?_;repeat(go_big_quiet_step (fail))
    refine wpQuiet_nil ?_;rintro _ ⟨v,rfl⟩;have HBV:=aA (HB2.out.trans (v.2.mono HB2.out.size))
    have HZV:=aA (HZ2.out.below v.2);have HGV:=aA (HG2.out.below v.2)
    have HMV:=aA (HM2.out.below v.2);have HRV:=aA (HRG2.out.kept (bM v.2 none) (by simp) (by simp))
    obtain⟨u,hu⟩:∃u,v.1=u:=⟨_,rfl⟩
    rw[hu]at HBV HZV HGV HMV HRV⊢;clear hu s0 s1 s2 s3 t0 t1 t2 t3 t4 ne v;obtain⟨q0,q1,q2,q3⟩:=HMV.out;obtain⟨⟨l0,l1,l2,l3,l4⟩,lz⟩:=HGV.out;have HRW:=aA (HRV.out.kept (mI u (w.heap.size+1) (.int .i64 (c m)) (.int .i64 m.x) (.int .i64 m.y) (.int .i64 m.d) (.int .i64 m.e)) (by simp;omega) (by simp))
    clear HRV;go_wp2;go_roundw
    case rel=>
     refine⟨_,cnt2,ss++[m],⟨c m,m⟩,HRW.out,HCO2.out,bQ HBV.out (by omega) _ _ _ _ _,HZV.out.far (by omega),⟨⟨by go_simp,by go_simp,by go_simp,by go_simp,by go_simp⟩,fun j=>by go_simp⟩,HMT.out⟩
    case measure=>rw[HRW.out.left_eq];exact HLT.out
   ·have hgz:((G.c:Int)==0)=false:=by simpa using hG0
    obtain⟨hg1,hgo⟩:1≤G.c∧G.m.ok=true:=by
     rcases HM.out with⟨_,e⟩|⟨e1,e2,_⟩
     ·rw[e]at hG0;exact absurd rfl hG0
     ·exact⟨e1,e2⟩
    by_cases hq:dY G.m<dY m
    ·have dq:decide (dY ⟨G.m.x,G.m.y,G.m.d,G.m.e⟩<dY ⟨m.x,m.y,m.d,m.e⟩)=true:=decide_eq_true hq;have HMT:=aA (HM.out.put hmo hcm (.inr hq))
     clear HM hG0 hq;refine aJ (by kernel_rfl) (by kernel_rfl) ?_;repeat(go_big_quiet_step (first|(go_at_call 97;exact aM (fU _ _ _ _ _ hmo))|(go_at_call 97;exact aM (fU _ _ _ _ _ hgo))))
     refine wpQuiet_nil ?_;rintro _ ⟨v,rfl⟩;have HBV:=aA (HB2.out.trans (v.2.mono HB2.out.size))
     have HZV:=aA (HZ2.out.below v.2);have HGV:=aA (HG2.out.below v.2)
     have HMV:=aA (HM2.out.below v.2);have HRV:=aA (HRG2.out.kept (bM v.2 none) (by simp) (by simp))
     obtain⟨u,hu⟩:∃u,v.1=u:=⟨_,rfl⟩
     rw[hu]at HBV HZV HGV HMV HRV⊢;clear hu s0 s1 s2 s3 t0 t1 t2 t3 t4 ne v;obtain⟨q0,q1,q2,q3⟩:=HMV.out;obtain⟨⟨l0,l1,l2,l3,l4⟩,lz⟩:=HGV.out;have HRW:=aA (HRV.out.kept (mI u (w.heap.size+1) (.int .i64 (c m)) (.int .i64 m.x) (.int .i64 m.y) (.int .i64 m.d) (.int .i64 m.e)) (by simp;omega) (by simp))
     clear HRV;go_wp2;go_roundw
     case rel=>
      refine⟨_,cnt2,ss++[m],⟨c m,m⟩,HRW.out,HCO2.out,bQ HBV.out (by omega) _ _ _ _ _,HZV.out.far (by omega),⟨⟨by go_simp,by go_simp,by go_simp,by go_simp,by go_simp⟩,fun j=>by go_simp⟩,HMT.out⟩
     case measure=>rw[HRW.out.left_eq];exact HLT.out
    ·have dq:decide (dY ⟨G.m.x,G.m.y,G.m.d,G.m.e⟩<dY ⟨m.x,m.y,m.d,m.e⟩)=false:=decide_eq_false hq;have HMT:=aA (HM.out.keep hg1 hq)
     clear HM hG0 hq;refine aJ (by kernel_rfl) (by kernel_rfl) ?_;repeat(go_big_quiet_step (first|(go_at_call 97;exact aM (fU _ _ _ _ _ hmo))|(go_at_call 97;exact aM (fU _ _ _ _ _ hgo))))
     refine wpQuiet_nil ?_;rintro _ ⟨v,rfl⟩;have HBV:=aA (HB2.out.trans (v.2.mono HB2.out.size))
     have HZV:=aA (HZ2.out.below v.2);have HGV:=aA (HG2.out.below v.2)
     have HRV:=aA (HRG2.out.kept (bM v.2 none) (by simp) (by simp));obtain⟨u,hu⟩:∃u,v.1=u:=⟨_,rfl⟩
     rw[hu]at HBV HZV HGV HRV⊢;clear hu s0 s1 s2 s3 t0 t1 t2 t3 t4 ne v;go_wp2;go_roundw;case rel=>exact⟨_,cnt2,ss++[m],G,HRV.out,HCO2.out,HBV.out,HZV.out,HGV.out,HMT.out⟩
     case measure=>rw[HRV.out.left_eq];exact HLT.out
theorem LE (w:World) (b n:Nat) (c:M→Int) (h:bD w b n c):Calls Tryz.prog 89 #[.map (some b),.func (.func 114) #[] #[]] w fun r w'=>∃G:T,r= .returned (.agg #[.int .i64 G.c,.int .i64 G.m.x,.int .i64 G.m.y,.int .i64 G.m.d,.int .i64 G.m.e])∧Below w.heap.size w w'∧∃ss,EQ fK c ss G∧∀m:M,m.ok=true→(m∈ss↔c m≠0):=by
 obtain⟨D,hown,hc,hat,hks⟩:=h;have hblt:=hown.lt
 have HKS:=aA hks;have HAT:=aA hat
 have HC:=aA hc;have HO2:=aA ((hown.alloc (.cells #[.int .i64 0,.int .i64 0,.int .i64 0,.int .i64 0,.int .i64 0] 47)).alloc (.cells #[.int .i64 0,.int .i64 0,.int .i64 0,.int .i64 0,.int .i64 0] 47))
 have HB0:=aA (aQ w (.cells #[.int .i64 0,.int .i64 0,.int .i64 0,.int .i64 0,.int .i64 0] 47) (.cells #[.int .i64 0,.int .i64 0,.int .i64 0,.int .i64 0,.int .i64 0] 47));have HZ0:=aA ((bL.box w 47 bG).below (aC _ (.cells #[.int .i64 0,.int .i64 0,.int .i64 0,.int .i64 0,.int .i64 0] 47)))
 have HG0:=aA (bL.box (w.alloc (.cells #[.int .i64 0,.int .i64 0,.int .i64 0,.int .i64 0,.int .i64 0] 47)) 47 bG);clear hks hat hown hc;go_enter Tryz.func89,Tryz.ntmps89
 go_wp2_with (first
  |(at_range;refine wpList_range_own _ rfl _ 77 rfl 45 81 jZ Tryz.underlying77 _ b n D rfl HO2.out ?_;intro w0 hrg0 hg0 hs0)
  |go_in)
 have hs2:((w.alloc (.cells #[.int .i64 0,.int .i64 0,.int .i64 0,.int .i64 0,.int .i64 0] 47)).alloc (.cells #[.int .i64 0,.int .i64 0,.int .i64 0,.int .i64 0,.int .i64 0] 47)).heap.size=w.heap.size+2:=by simp
 have HB1:=aA (kH HB0.out hg0 (by simp));have HZ1:=aA (HZ0.out.grown hg0 (by simp))
 have HG1:=aA (HG0.out.grown hg0 (by simp));have HRG:=aA hrg0
 rw[hs2]at HRG;simp only[World.size_alloc]at HG1;clear HB0 HZ0 HG0 HO2 hrg0 hg0 hs0
 go_frame
 rw[hs2]
 go_loopw [6] (fun _ wr=>∃(left:Lit→Bool) (vW:Nat) (ss:List M) (G:T),wr.ranges Tryz.prog 45 (plainElem Tryz.prog 81) b (w.heap.size+2) n D left vW∧kO D left ss∧Below w.heap.size w wr∧bL wr w.heap.size bG∧bL wr (w.heap.size+1) G∧EQ fK c ss G)
  (fun _ wr=>wr.rangeLeft b (w.heap.size+2))
 case atStart=>exact⟨_,_,[],bG,HRG.out,kO.start D,HB1.out,HZ1.out,HG1.out,.inl ⟨rfl,rfl⟩⟩
 case round=>
  obtain⟨left,vW,ss,G,hrg,hC,hB,hZ,hG,hM⟩:=hrel;have HCO:=aA hC
  have HB:=aA hB;have HZ:=aA hZ
  have HGG:=aA hG;have HM:=aA hM
  have HRR:=aA hrg;have hGl:w.heap.size+1<wr.heap.size:=hG.1.lt
  clear hC hB hZ hG hM
  go_wp2_with (first
   |(at_next;refine wpList_next_ranges _ rfl _ rfl 45 jZ (plainElem Tryz.prog 81) (id:Value→Value) (Value.int .i64) (fun key kl hk=>⟨key,rfl⟩) (fun v y hv=>by obtain⟨c,rfl,_⟩:=plainElem_int_inv Tryz.underlying81 hv;exact⟨c,rfl⟩) b (w.heap.size+2) n _ _ _ rfl HRR.out ?_ ?_)
   |go_in)
  ·intro hc0 hl0;obtain⟨⟨z0,z1,z2,z3,z4⟩,fz⟩:=HZ.out;obtain⟨⟨l0,l1,l2,l3,l4⟩,_⟩:=HGG.out;simp only[bG]at z0 z1 z2 z3 z4;have HAL:=aA (HCO.out.all hl0 HAT.out)
   clear hl0 hrg HZ HGG;go_wp2;refine cB (v:=.agg #[.int .i64 G.c,.int .i64 G.m.x,.int .i64 G.m.y,.int .i64 G.m.d,.int .i64 G.m.e]) (by simp[results,Tryz.results89,go_sem, *]) rfl ⟨G,rfl,?_,ss,HM.out,HAL.out⟩;exact bQ HB.out (Nat.le_refl _) _ _ _ _ _
  ·intro x cv kl yd yp w2 cnt2 hkey hlk hv hatx hrg2 hlt hg2 hsz2 hen;obtain⟨m,hmo,rfl⟩:=HKS.out kl (has_true_of_atKey hatx);obtain rfl:x=KV m:=jZ.inj hkey (lU hmo);obtain rfl:cv=c m:=by
    obtain⟨c',e,e2,_⟩:=plainElem_int_inv Tryz.underlying81 hv;cases e;cases e2;have h1:=(HAT.out m hmo).1
    rw[hatx]at h1;simpa using h1
   have hcm:1≤c m:=by
    have h1:=(HAT.out m hmo).2.1 (has_true_of_atKey hatx);have h2:=(HC.out m).1
    omega
   have hcm2:=(HC.out m).2;have HRG2:=aA (hrg2.alloc (.cells #[.int .i64 m.x,.int .i64 m.y,.int .i64 m.d,.int .i64 m.e] 45))
   have HLT:=aA (show cnt2<wr.rangeLeft b (w.heap.size+2) by rw[hrg.left_eq];exact hlt);have HCO2:=aA (HCO.out.step hmo hlk hatx)
   have hB2:=kH HB.out hg2 (fun k e=>by cases e;omega);have HB2:=aA (hB2.alloc hB2.size (.cells #[.int .i64 m.x,.int .i64 m.y,.int .i64 m.d,.int .i64 m.e] 45))
   have HZ2:=aA ((HZ.out.grown hg2 (by simp)).below (aC w2 (.cells #[.int .i64 m.x,.int .i64 m.y,.int .i64 m.d,.int .i64 m.e] 45)));have HG2:=aA ((HGG.out.grown hg2 (by simp)).below (aC w2 (.cells #[.int .i64 m.x,.int .i64 m.y,.int .i64 m.d,.int .i64 m.e] 45)))
   have HM2:=aA (M4.box w2 45 m.x m.y m.d m.e);have hsw:w.heap.size+1<w2.heap.size:=by rw[hsz2];exact hGl
   have hrw:w.heap.size+2<w2.heap.size:=hrg2.lt;have hbw:b<w2.heap.size:=hrg2.owns.lt
   clear hlk hatx hrg hrg2 hlt hg2 hsz2 hkey hv hB2 HRR HB HZ HGG HCO hGl;go_wp2_with fail;generalize(w2.alloc (.cells #[.int .i64 m.x,.int .i64 m.y,.int .i64 m.d,.int .i64 m.e] 45))=wq at HRG2 HB2 HZ2 HG2 HM2⊢;have ne:=cX.there wq
   have s0:∀u:cX wq,u.1.cell? ⟨w2.heap.size,0,none⟩=some (.int .i64 m.x):=fun u=>(u.cell HM2.out.lt).trans HM2.out.1;have s1:∀u:cX wq,u.1.cell? ⟨w2.heap.size,1,none⟩=some (.int .i64 m.y):=fun u=>(u.cell HM2.out.lt).trans HM2.out.2.1
   have s2:∀u:cX wq,u.1.cell? ⟨w2.heap.size,2,none⟩=some (.int .i64 m.d):=fun u=>(u.cell HM2.out.lt).trans HM2.out.2.2.1;have s3:∀u:cX wq,u.1.cell? ⟨w2.heap.size,3,none⟩=some (.int .i64 m.e):=fun u=>(u.cell HM2.out.lt).trans HM2.out.2.2.2
   have t0:∀u:cX wq,u.1.cell? ⟨w.heap.size+1,0,none⟩=some (.int .i64 G.c):=fun u=>(u.cell HG2.out.1.lt).trans HG2.out.1.1;have t1:∀u:cX wq,u.1.cell? ⟨w.heap.size+1,1,none⟩=some (.int .i64 G.m.x):=fun u=>(u.cell HG2.out.1.lt).trans HG2.out.1.2.1
   have t2:∀u:cX wq,u.1.cell? ⟨w.heap.size+1,2,none⟩=some (.int .i64 G.m.y):=fun u=>(u.cell HG2.out.1.lt).trans HG2.out.1.2.2.1;have t3:∀u:cX wq,u.1.cell? ⟨w.heap.size+1,3,none⟩=some (.int .i64 G.m.d):=fun u=>(u.cell HG2.out.1.lt).trans HG2.out.1.2.2.2.1
   have t4:∀u:cX wq,u.1.cell? ⟨w.heap.size+1,4,none⟩=some (.int .i64 G.m.e):=fun u=>(u.cell HG2.out.1.lt).trans HG2.out.1.2.2.2.2;by_cases hG0:G.c=0
   ·have hgz:((G.c:Int)==0)=true:=by simpa using hG0
    have HMT:=aA (HM.out.put hmo hcm (.inl hG0));clear HM hG0;refine aJ (by kernel_rfl) (by kernel_rfl) ?_;repeat(go_big_quiet_step (fail))
    refine wpQuiet_nil ?_;rintro _ ⟨v,rfl⟩;have HBV:=aA (HB2.out.trans (v.2.mono HB2.out.size))
    have HZV:=aA (HZ2.out.below v.2);have HGV:=aA (HG2.out.below v.2)
    have HMV:=aA (HM2.out.below v.2);have HRV:=aA (HRG2.out.kept (bM v.2 none) (by simp) (by simp))
    obtain⟨u,hu⟩:∃u,v.1=u:=⟨_,rfl⟩
    rw[hu]at HBV HZV HGV HMV HRV⊢;clear hu s0 s1 s2 s3 t0 t1 t2 t3 t4 ne v;obtain⟨q0,q1,q2,q3⟩:=HMV.out;obtain⟨⟨l0,l1,l2,l3,l4⟩,lz⟩:=HGV.out;have HRW:=aA (HRV.out.kept (mI u (w.heap.size+1) (.int .i64 (c m)) (.int .i64 m.x) (.int .i64 m.y) (.int .i64 m.d) (.int .i64 m.e)) (by simp;omega) (by simp))
    clear HRV;go_wp2;go_roundw
    case rel=>
     refine⟨_,cnt2,ss++[m],⟨c m,m⟩,HRW.out,HCO2.out,bQ HBV.out (by omega) _ _ _ _ _,HZV.out.far (by omega),⟨⟨by go_simp,by go_simp,by go_simp,by go_simp,by go_simp⟩,fun j=>by go_simp⟩,HMT.out⟩
    case measure=>rw[HRW.out.left_eq];exact HLT.out
   ·have hgz:((G.c:Int)==0)=false:=by simpa using hG0
    obtain⟨hg1,hgo⟩:1≤G.c∧G.m.ok=true:=by
     rcases HM.out with⟨_,e⟩|⟨e1,e2,_⟩
     ·rw[e]at hG0;exact absurd rfl hG0
     ·exact⟨e1,e2⟩
    by_cases hq:fK G.m<fK m
    ·have dq:decide (fK ⟨G.m.x,G.m.y,G.m.d,G.m.e⟩<fK ⟨m.x,m.y,m.d,m.e⟩)=true:=decide_eq_true hq;have HMT:=aA (HM.out.put hmo hcm (.inr hq))
     clear HM hG0 hq;refine aJ (by kernel_rfl) (by kernel_rfl) ?_;repeat(go_big_quiet_step (first|(go_at_call 114;exact aM (gR _ _ _ _ _ hmo))|(go_at_call 114;exact aM (gR _ _ _ _ _ hgo))))
     refine wpQuiet_nil ?_;rintro _ ⟨v,rfl⟩;have HBV:=aA (HB2.out.trans (v.2.mono HB2.out.size))
     have HZV:=aA (HZ2.out.below v.2);have HGV:=aA (HG2.out.below v.2)
     have HMV:=aA (HM2.out.below v.2);have HRV:=aA (HRG2.out.kept (bM v.2 none) (by simp) (by simp))
     obtain⟨u,hu⟩:∃u,v.1=u:=⟨_,rfl⟩
     rw[hu]at HBV HZV HGV HMV HRV⊢;clear hu s0 s1 s2 s3 t0 t1 t2 t3 t4 ne v;obtain⟨q0,q1,q2,q3⟩:=HMV.out;obtain⟨⟨l0,l1,l2,l3,l4⟩,lz⟩:=HGV.out;have HRW:=aA (HRV.out.kept (mI u (w.heap.size+1) (.int .i64 (c m)) (.int .i64 m.x) (.int .i64 m.y) (.int .i64 m.d) (.int .i64 m.e)) (by simp;omega) (by simp))
     clear HRV;go_wp2;go_roundw
     case rel=>
      refine⟨_,cnt2,ss++[m],⟨c m,m⟩,HRW.out,HCO2.out,bQ HBV.out (by omega) _ _ _ _ _,HZV.out.far (by omega),⟨⟨by go_simp,by go_simp,by go_simp,by go_simp,by go_simp⟩,fun j=>by go_simp⟩,HMT.out⟩
     case measure=>rw[HRW.out.left_eq];exact HLT.out
    ·have dq:decide (fK ⟨G.m.x,G.m.y,G.m.d,G.m.e⟩<fK ⟨m.x,m.y,m.d,m.e⟩)=false:=decide_eq_false hq;have HMT:=aA (HM.out.keep hg1 hq)
     clear HM hG0 hq;refine aJ (by kernel_rfl) (by kernel_rfl) ?_;repeat(go_big_quiet_step (first|(go_at_call 114;exact aM (gR _ _ _ _ _ hmo))|(go_at_call 114;exact aM (gR _ _ _ _ _ hgo))))
     refine wpQuiet_nil ?_;rintro _ ⟨v,rfl⟩;have HBV:=aA (HB2.out.trans (v.2.mono HB2.out.size))
     have HZV:=aA (HZ2.out.below v.2);have HGV:=aA (HG2.out.below v.2)
     have HRV:=aA (HRG2.out.kept (bM v.2 none) (by simp) (by simp));obtain⟨u,hu⟩:∃u,v.1=u:=⟨_,rfl⟩
     rw[hu]at HBV HZV HGV HRV⊢;clear hu s0 s1 s2 s3 t0 t1 t2 t3 t4 ne v;go_wp2;go_roundw;case rel=>exact⟨_,cnt2,ss++[m],G,HRV.out,HCO2.out,HBV.out,HZV.out,HGV.out,HMT.out⟩
     case measure=>rw[HRV.out.left_eq];exact HLT.out
theorem LF (w:World) (b n:Nat) (c:M→Int) (h:bD w b n c):Calls Tryz.prog 89 #[.map (some b),.func (.func 115) #[] #[]] w fun r w'=>∃G:T,r= .returned (.agg #[.int .i64 G.c,.int .i64 G.m.x,.int .i64 G.m.y,.int .i64 G.m.d,.int .i64 G.m.e])∧Below w.heap.size w w'∧∃ss,EQ tS c ss G∧∀m:M,m.ok=true→(m∈ss↔c m≠0):=by
 obtain⟨D,hown,hc,hat,hks⟩:=h;have hblt:=hown.lt
 have HKS:=aA hks;have HAT:=aA hat
 have HC:=aA hc;have HO2:=aA ((hown.alloc (.cells #[.int .i64 0,.int .i64 0,.int .i64 0,.int .i64 0,.int .i64 0] 47)).alloc (.cells #[.int .i64 0,.int .i64 0,.int .i64 0,.int .i64 0,.int .i64 0] 47))
 have HB0:=aA (aQ w (.cells #[.int .i64 0,.int .i64 0,.int .i64 0,.int .i64 0,.int .i64 0] 47) (.cells #[.int .i64 0,.int .i64 0,.int .i64 0,.int .i64 0,.int .i64 0] 47));have HZ0:=aA ((bL.box w 47 bG).below (aC _ (.cells #[.int .i64 0,.int .i64 0,.int .i64 0,.int .i64 0,.int .i64 0] 47)))
 have HG0:=aA (bL.box (w.alloc (.cells #[.int .i64 0,.int .i64 0,.int .i64 0,.int .i64 0,.int .i64 0] 47)) 47 bG);clear hks hat hown hc;go_enter Tryz.func89,Tryz.ntmps89
 go_wp2_with (first
  |(at_range;refine wpList_range_own _ rfl _ 77 rfl 45 81 jZ Tryz.underlying77 _ b n D rfl HO2.out ?_;intro w0 hrg0 hg0 hs0)
  |go_in)
 have hs2:((w.alloc (.cells #[.int .i64 0,.int .i64 0,.int .i64 0,.int .i64 0,.int .i64 0] 47)).alloc (.cells #[.int .i64 0,.int .i64 0,.int .i64 0,.int .i64 0,.int .i64 0] 47)).heap.size=w.heap.size+2:=by simp
 have HB1:=aA (kH HB0.out hg0 (by simp));have HZ1:=aA (HZ0.out.grown hg0 (by simp))
 have HG1:=aA (HG0.out.grown hg0 (by simp));have HRG:=aA hrg0
 rw[hs2]at HRG;simp only[World.size_alloc]at HG1;clear HB0 HZ0 HG0 HO2 hrg0 hg0 hs0
 go_frame
 rw[hs2]
 go_loopw [6] (fun _ wr=>∃(left:Lit→Bool) (vW:Nat) (ss:List M) (G:T),wr.ranges Tryz.prog 45 (plainElem Tryz.prog 81) b (w.heap.size+2) n D left vW∧kO D left ss∧Below w.heap.size w wr∧bL wr w.heap.size bG∧bL wr (w.heap.size+1) G∧EQ tS c ss G)
  (fun _ wr=>wr.rangeLeft b (w.heap.size+2))
 case atStart=>exact⟨_,_,[],bG,HRG.out,kO.start D,HB1.out,HZ1.out,HG1.out,.inl ⟨rfl,rfl⟩⟩
 case round=>
  obtain⟨left,vW,ss,G,hrg,hC,hB,hZ,hG,hM⟩:=hrel;have HCO:=aA hC
  have HB:=aA hB;have HZ:=aA hZ
  have HGG:=aA hG;have HM:=aA hM
  have HRR:=aA hrg;have hGl:w.heap.size+1<wr.heap.size:=hG.1.lt
  clear hC hB hZ hG hM
  go_wp2_with (first
   |(at_next;refine wpList_next_ranges _ rfl _ rfl 45 jZ (plainElem Tryz.prog 81) (id:Value→Value) (Value.int .i64) (fun key kl hk=>⟨key,rfl⟩) (fun v y hv=>by obtain⟨c,rfl,_⟩:=plainElem_int_inv Tryz.underlying81 hv;exact⟨c,rfl⟩) b (w.heap.size+2) n _ _ _ rfl HRR.out ?_ ?_)
   |go_in)
  ·intro hc0 hl0;obtain⟨⟨z0,z1,z2,z3,z4⟩,fz⟩:=HZ.out;obtain⟨⟨l0,l1,l2,l3,l4⟩,_⟩:=HGG.out;simp only[bG]at z0 z1 z2 z3 z4;have HAL:=aA (HCO.out.all hl0 HAT.out)
   clear hl0 hrg HZ HGG;go_wp2;refine cB (v:=.agg #[.int .i64 G.c,.int .i64 G.m.x,.int .i64 G.m.y,.int .i64 G.m.d,.int .i64 G.m.e]) (by simp[results,Tryz.results89,go_sem, *]) rfl ⟨G,rfl,?_,ss,HM.out,HAL.out⟩;exact bQ HB.out (Nat.le_refl _) _ _ _ _ _
  ·intro x cv kl yd yp w2 cnt2 hkey hlk hv hatx hrg2 hlt hg2 hsz2 hen;obtain⟨m,hmo,rfl⟩:=HKS.out kl (has_true_of_atKey hatx);obtain rfl:x=KV m:=jZ.inj hkey (lU hmo);obtain rfl:cv=c m:=by
    obtain⟨c',e,e2,_⟩:=plainElem_int_inv Tryz.underlying81 hv;cases e;cases e2;have h1:=(HAT.out m hmo).1
    rw[hatx]at h1;simpa using h1
   have hcm:1≤c m:=by
    have h1:=(HAT.out m hmo).2.1 (has_true_of_atKey hatx);have h2:=(HC.out m).1
    omega
   have hcm2:=(HC.out m).2;have HRG2:=aA (hrg2.alloc (.cells #[.int .i64 m.x,.int .i64 m.y,.int .i64 m.d,.int .i64 m.e] 45))
   have HLT:=aA (show cnt2<wr.rangeLeft b (w.heap.size+2) by rw[hrg.left_eq];exact hlt);have HCO2:=aA (HCO.out.step hmo hlk hatx)
   have hB2:=kH HB.out hg2 (fun k e=>by cases e;omega);have HB2:=aA (hB2.alloc hB2.size (.cells #[.int .i64 m.x,.int .i64 m.y,.int .i64 m.d,.int .i64 m.e] 45))
   have HZ2:=aA ((HZ.out.grown hg2 (by simp)).below (aC w2 (.cells #[.int .i64 m.x,.int .i64 m.y,.int .i64 m.d,.int .i64 m.e] 45)));have HG2:=aA ((HGG.out.grown hg2 (by simp)).below (aC w2 (.cells #[.int .i64 m.x,.int .i64 m.y,.int .i64 m.d,.int .i64 m.e] 45)))
   have HM2:=aA (M4.box w2 45 m.x m.y m.d m.e);have hsw:w.heap.size+1<w2.heap.size:=by rw[hsz2];exact hGl
   have hrw:w.heap.size+2<w2.heap.size:=hrg2.lt;have hbw:b<w2.heap.size:=hrg2.owns.lt
   clear hlk hatx hrg hrg2 hlt hg2 hsz2 hkey hv hB2 HRR HB HZ HGG HCO hGl;go_wp2_with fail;generalize(w2.alloc (.cells #[.int .i64 m.x,.int .i64 m.y,.int .i64 m.d,.int .i64 m.e] 45))=wq at HRG2 HB2 HZ2 HG2 HM2⊢;have ne:=cX.there wq
   have s0:∀u:cX wq,u.1.cell? ⟨w2.heap.size,0,none⟩=some (.int .i64 m.x):=fun u=>(u.cell HM2.out.lt).trans HM2.out.1;have s1:∀u:cX wq,u.1.cell? ⟨w2.heap.size,1,none⟩=some (.int .i64 m.y):=fun u=>(u.cell HM2.out.lt).trans HM2.out.2.1
   have s2:∀u:cX wq,u.1.cell? ⟨w2.heap.size,2,none⟩=some (.int .i64 m.d):=fun u=>(u.cell HM2.out.lt).trans HM2.out.2.2.1;have s3:∀u:cX wq,u.1.cell? ⟨w2.heap.size,3,none⟩=some (.int .i64 m.e):=fun u=>(u.cell HM2.out.lt).trans HM2.out.2.2.2
   have t0:∀u:cX wq,u.1.cell? ⟨w.heap.size+1,0,none⟩=some (.int .i64 G.c):=fun u=>(u.cell HG2.out.1.lt).trans HG2.out.1.1;have t1:∀u:cX wq,u.1.cell? ⟨w.heap.size+1,1,none⟩=some (.int .i64 G.m.x):=fun u=>(u.cell HG2.out.1.lt).trans HG2.out.1.2.1
   have t2:∀u:cX wq,u.1.cell? ⟨w.heap.size+1,2,none⟩=some (.int .i64 G.m.y):=fun u=>(u.cell HG2.out.1.lt).trans HG2.out.1.2.2.1;have t3:∀u:cX wq,u.1.cell? ⟨w.heap.size+1,3,none⟩=some (.int .i64 G.m.d):=fun u=>(u.cell HG2.out.1.lt).trans HG2.out.1.2.2.2.1
   have t4:∀u:cX wq,u.1.cell? ⟨w.heap.size+1,4,none⟩=some (.int .i64 G.m.e):=fun u=>(u.cell HG2.out.1.lt).trans HG2.out.1.2.2.2.2;by_cases hG0:G.c=0
   ·have hgz:((G.c:Int)==0)=true:=by simpa using hG0
    have HMT:=aA (HM.out.put hmo hcm (.inl hG0));clear HM hG0;refine aJ (by kernel_rfl) (by kernel_rfl) ?_;repeat(go_big_quiet_step (fail))
    refine wpQuiet_nil ?_;rintro _ ⟨v,rfl⟩;have HBV:=aA (HB2.out.trans (v.2.mono HB2.out.size))
    have HZV:=aA (HZ2.out.below v.2);have HGV:=aA (HG2.out.below v.2)
    have HMV:=aA (HM2.out.below v.2);have HRV:=aA (HRG2.out.kept (bM v.2 none) (by simp) (by simp))
    obtain⟨u,hu⟩:∃u,v.1=u:=⟨_,rfl⟩
    rw[hu]at HBV HZV HGV HMV HRV⊢;clear hu s0 s1 s2 s3 t0 t1 t2 t3 t4 ne v;obtain⟨q0,q1,q2,q3⟩:=HMV.out;obtain⟨⟨l0,l1,l2,l3,l4⟩,lz⟩:=HGV.out;have HRW:=aA (HRV.out.kept (mI u (w.heap.size+1) (.int .i64 (c m)) (.int .i64 m.x) (.int .i64 m.y) (.int .i64 m.d) (.int .i64 m.e)) (by simp;omega) (by simp))
    clear HRV;go_wp2;go_roundw
    case rel=>
     refine⟨_,cnt2,ss++[m],⟨c m,m⟩,HRW.out,HCO2.out,bQ HBV.out (by omega) _ _ _ _ _,HZV.out.far (by omega),⟨⟨by go_simp,by go_simp,by go_simp,by go_simp,by go_simp⟩,fun j=>by go_simp⟩,HMT.out⟩
    case measure=>rw[HRW.out.left_eq];exact HLT.out
   ·have hgz:((G.c:Int)==0)=false:=by simpa using hG0
    obtain⟨hg1,hgo⟩:1≤G.c∧G.m.ok=true:=by
     rcases HM.out with⟨_,e⟩|⟨e1,e2,_⟩
     ·rw[e]at hG0;exact absurd rfl hG0
     ·exact⟨e1,e2⟩
    by_cases hq:tS G.m<tS m
    ·have dq:decide (tS ⟨G.m.x,G.m.y,G.m.d,G.m.e⟩<tS ⟨m.x,m.y,m.d,m.e⟩)=true:=decide_eq_true hq;have HMT:=aA (HM.out.put hmo hcm (.inr hq))
     clear HM hG0 hq;refine aJ (by kernel_rfl) (by kernel_rfl) ?_;repeat(go_big_quiet_step (first|(go_at_call 115;exact aM (jE _ _ _ _ _ hmo))|(go_at_call 115;exact aM (jE _ _ _ _ _ hgo))))
     refine wpQuiet_nil ?_;rintro _ ⟨v,rfl⟩;have HBV:=aA (HB2.out.trans (v.2.mono HB2.out.size))
     have HZV:=aA (HZ2.out.below v.2);have HGV:=aA (HG2.out.below v.2)
     have HMV:=aA (HM2.out.below v.2);have HRV:=aA (HRG2.out.kept (bM v.2 none) (by simp) (by simp))
     obtain⟨u,hu⟩:∃u,v.1=u:=⟨_,rfl⟩
     rw[hu]at HBV HZV HGV HMV HRV⊢;clear hu s0 s1 s2 s3 t0 t1 t2 t3 t4 ne v;obtain⟨q0,q1,q2,q3⟩:=HMV.out;obtain⟨⟨l0,l1,l2,l3,l4⟩,lz⟩:=HGV.out;have HRW:=aA (HRV.out.kept (mI u (w.heap.size+1) (.int .i64 (c m)) (.int .i64 m.x) (.int .i64 m.y) (.int .i64 m.d) (.int .i64 m.e)) (by simp;omega) (by simp))
     clear HRV;go_wp2;go_roundw
     case rel=>
      refine⟨_,cnt2,ss++[m],⟨c m,m⟩,HRW.out,HCO2.out,bQ HBV.out (by omega) _ _ _ _ _,HZV.out.far (by omega),⟨⟨by go_simp,by go_simp,by go_simp,by go_simp,by go_simp⟩,fun j=>by go_simp⟩,HMT.out⟩
     case measure=>rw[HRW.out.left_eq];exact HLT.out
    ·have dq:decide (tS ⟨G.m.x,G.m.y,G.m.d,G.m.e⟩<tS ⟨m.x,m.y,m.d,m.e⟩)=false:=decide_eq_false hq;have HMT:=aA (HM.out.keep hg1 hq)
     clear HM hG0 hq;refine aJ (by kernel_rfl) (by kernel_rfl) ?_;repeat(go_big_quiet_step (first|(go_at_call 115;exact aM (jE _ _ _ _ _ hmo))|(go_at_call 115;exact aM (jE _ _ _ _ _ hgo))))
     refine wpQuiet_nil ?_;rintro _ ⟨v,rfl⟩;have HBV:=aA (HB2.out.trans (v.2.mono HB2.out.size))
     have HZV:=aA (HZ2.out.below v.2);have HGV:=aA (HG2.out.below v.2)
     have HRV:=aA (HRG2.out.kept (bM v.2 none) (by simp) (by simp));obtain⟨u,hu⟩:∃u,v.1=u:=⟨_,rfl⟩
     rw[hu]at HBV HZV HGV HRV⊢;clear hu s0 s1 s2 s3 t0 t1 t2 t3 t4 ne v;go_wp2;go_roundw;case rel=>exact⟨_,cnt2,ss++[m],G,HRV.out,HCO2.out,HBV.out,HZV.out,HGV.out,HMT.out⟩
     case measure=>rw[HRV.out.left_eq];exact HLT.out
def YQ (o:Int):Nat:=if o=1 then 97 else if o=3 then 115 else 114
theorem Bn:iX 1=dY:=by funext m;rfl
theorem Bo:iX 2=fK:=by funext m;rfl
theorem Bp:iX 3=tS:=by funext m;rfl
theorem LG (o:Int) (ho:1≤o∧o≤3) (w:World) (b n:Nat) (p:List T) (h:bD w b n (aL p)) (hp:cT p=true) (h0:p.length≠0) (t:T) (ht:dQ o p=t):Calls Tryz.prog 89 #[.map (some b),.func (.func (YQ o)) #[] #[]] w fun r w'=>r= .returned (.agg #[.int .i64 t.c,.int .i64 t.m.x,.int .i64 t.m.y,.int .i64 t.m.d,.int .i64 t.m.e])∧Below w.heap.size w w':=by
 have ho3:o=1∨o=2∨o=3:=by omega
 rcases ho3 with rfl|rfl|rfl
 ·refine(LD w b n (aL p) h).mono ?_;rintro r w' ⟨G,rfl,hb,ss,hm,hs⟩;rw[←Bn]at hm;have:=hm.all ho hp h0 hs
  rw[ht]at this;subst this;exact⟨rfl,hb⟩
 ·refine(LE w b n (aL p) h).mono ?_;rintro r w' ⟨G,rfl,hb,ss,hm,hs⟩;rw[←Bo]at hm;have:=hm.all ho hp h0 hs
  rw[ht]at this;subst this;exact⟨rfl,hb⟩
 ·refine(LF w b n (aL p) h).mono ?_;rintro r w' ⟨G,rfl,hb,ss,hm,hs⟩;rw[←Bp]at hm;have:=hm.all ho hp h0 hs
  rw[ht]at this;subst this;exact⟨rfl,hb⟩
theorem PT (o:Int) (w:World) (h1:1≤o) (h2:o≤3):Calls Tryz.prog 67 #[.int .i64 o] w fun r w'=>r= .returned (.tuple #[.func (.func (YQ o)) #[] #[],.bool true])∧Below w.heap.size w w':=by
 have ho3:o=1∨o=2∨o=3:=by omega
 rcases ho3 with rfl|rfl|rfl
 ·exact pN w
 ·exact pO w
 ·exact pP w
end Go.Proofs.YtncffcaabnjioaaGreat
