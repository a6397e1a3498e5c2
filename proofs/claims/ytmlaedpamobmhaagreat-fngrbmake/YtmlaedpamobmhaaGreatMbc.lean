/-
  A sum of products of two lists: the program's RedSum.
  A division on its way, as lists: what a step does, and what stays true.
  The greatest term of a sum while it is made.
-/
import Derived.Test.YtmlaedpamobmhaaGreatMbb
import Derived.Test.YtmlaedpamobmhaaGreatMay
import Derived.Test.YtmlaedpamobmhaaGreatMaz
import Derived.Maps.RangeWalk
set_option maxHeartbeats 8000000
set_option maxRecDepth 100000
namespace Go.Proofs.YtmlaedpamobmhaaGreat
open Go.RowKit Go.Deep Go.Joins
set_option linter.unusedVariables false
structure Dv where
 p:List T
 q:Nat→List T
 r:List T
def dH (o:Int) (L:List T):T:=lf L (bB o (lf L) L.length)
def xO (o:Int) (n:Nat) (ln:Nat→Nat) (f:Nat→Nat→T) (m:M):Int:=nT (fun t=>M.dvd t.m m) (lO o ln f) n
def lW (q:Nat→List T) (k:Nat) (L:List T) (i:Nat):List T:=if i=k then L else q i
def OW (o:Int) (ln:Nat→Nat) (f:Nat→Nat→T) (S:Dv) (k:Nat):T:=fQ (dH o S.p) (lO o ln f k)
def iB (o:Int) (ln:Nat→Nat) (f:Nat→Nat→T) (S:Dv) (k:Nat):Option Dv:=
 match cC (lf [OW o ln f S k]) (f k) (ln k) 1 with
 |none=>none
 |some Y=>if(dB S.p Y).length≤400 then some ⟨dB S.p Y,lW S.q k (bT (S.q k) [OW o ln f S k]),S.r⟩else none
def iH (o:Int) (S:Dv):Dv:=⟨dB S.p [dH o S.p],S.q,bT S.r [dH o S.p]⟩
def dP (o:Int) (n:Nat) (ln:Nat→Nat) (f:Nat→Nat→T) (S:Dv):Option Dv:=
 if 0≤xO o n ln f (dH o S.p).m then iB o ln f S (xO o n ln f (dH o S.p).m).toNat else some (iH o S)
def fE (o:Int) (n:Nat) (ln:Nat→Nat) (f:Nat→Nat→T):Nat→Dv→Option Dv
 |0,S=>if S.p.length=0 then some S else none
 |u+1,S=>if S.p.length=0 then some S else match dP o n ln f S with
  |none=>none
  |some S'=>fE o n ln f u S'
def lG (p:List T):Dv:=⟨p,fun _=>[],[]⟩
def bJ (o:Int) (p:List T) (n:Nat) (ln:Nat→Nat) (f:Nat→Nat→T):Option Dv:=
 if(1≤o∧o≤3)∧cM p=true∧aU n ln f=true then fE o n ln f 300 (lG p)else none
structure jP (u:Nat) (S:Dv):Prop where
 p:cM S.p=true
 q:∀k,aK (S.q k)∧(S.q k).length≤u
 r:aK S.r∧S.r.length≤u
theorem jP.start {p:List T} (h:cM p=true):jP 0 (lG p):=⟨h,fun _=>⟨eW,Nat.le_refl _⟩,eW,Nat.le_refl _⟩
theorem nN {o:Int} {n:Nat} {ln:Nat→Nat} {f:Nat→Nat→T} {u:Nat} {S:Dv} (h:S.p.length=0):fE o n ln f u S=some S:=by cases u<;>exact if_pos h
theorem AK {o:Int} {n:Nat} {ln:Nat→Nat} {f:Nat→Nat→T} {S:Dv} (h:S.p.length≠0):fE o n ln f 0 S=none:=if_neg h
theorem sK {o:Int} {n:Nat} {ln:Nat→Nat} {f:Nat→Nat→T} {u:Nat} {S:Dv} (h:S.p.length≠0) (hs:dP o n ln f S=none):fE o n ln f (u+1) S=none:=by show(if S.p.length=0 then some S else match dP o n ln f S with|none=>none|some S'=>fE o n ln f u S')=none;rw[if_neg h,hs]
theorem lH {o:Int} {n:Nat} {ln:Nat→Nat} {f:Nat→Nat→T} {u:Nat} {S S':Dv} (h:S.p.length≠0) (hs:dP o n ln f S=some S'):fE o n ln f (u+1) S=fE o n ln f u S':=by show(if S.p.length=0 then some S else match dP o n ln f S with|none=>none|some S'=>fE o n ln f u S')=_;rw[if_neg h,hs]
theorem kM {o:Int} {L:List T} (h:L.length≠0):dH o L∈L:=mN (uP (by omega))
theorem iW {o:Int} {L:List T} (hL:aK L) (h:L.length≠0):(dH o L).m.ok=true∧1≤(dH o L).c∧(dH o L).c≤100:=hL.2 _ (kM h)
theorem uN {o:Int} {L:List T} (ho:1≤o∧o≤3) (hL:cM L=true) (h:L.length≠0):dH o L=qY o L:=by have:bD o L.length (lf L)=true:=iI.2 ⟨ho,hL,fun e=>h (by rw[e];rfl)⟩;unfold qY;rw[eX this];rfl
theorem DB {o:Int} {L:List T} (ho:1≤o∧o≤3) (hL:cM L=true) (h:L.length≠0):∀t∈L,jO o t.m≤jO o (dH o L).m:=by have:AA o L=true:=iI.2 ⟨ho,hL,fun e=>h (by rw[e];rfl)⟩;rw[uN ho hL h];exact(uO this).2
theorem uM {o:Int} {n:Nat} {ln:Nat→Nat} {f:Nat→Nat→T} (hl:aU n ln f=true) {k:Nat} (hk:k<n):(lO o ln f k).m.ok=true∧1≤(lO o ln f k).c∧(lO o ln f k).c≤100:=by obtain⟨h0,h1⟩:=(aR hl).2 k hk;exact(dR h1).2 _ (uP (by omega))
theorem JT {a b:Int} (h1:1≤a) (h2:a≤100) (h3:1≤b) (h4:b≤100):1≤a*b%101∧a*b%101≤100:=by
 have h0:a*b%101≠0:=fun e=>by
  obtain⟨x,hx⟩:∃x:Nat,a=x:=⟨a.toNat,by omega⟩
  obtain⟨y,hy⟩:∃y:Nat,b=y:=⟨b.toNat,by omega⟩
  subst hx hy;have:=BN ⟨x,by omega⟩ ⟨y,by omega⟩ (by simp only;exact_mod_cast e)
  simp at this;omega
 omega
theorem rK {t l:T} (ht:t.m.ok=true∧1≤t.c∧t.c≤100) (hl:l.m.ok=true∧1≤l.c∧l.c≤100) (hd:l.m.dvd t.m=true):(fQ t l).m.ok=true∧1≤(fQ t l).c∧(fQ t l).c≤100:=by
 have h1:=vA (b:=t.m) hl hd;have h2:=JT ht.2.1 ht.2.2 (FD hl.2.1 hl.2.2) (sO l.c).2
 exact⟨h1.1,h2.1,h2.2⟩
theorem kU {o:Int} {n:Nat} {ln:Nat→Nat} {f:Nat→Nat→T} {m:M} (h:0≤xO o n ln f m):(xO o n ln f m).toNat<n∧M.dvd (lO o ln f (xO o n ln f m).toNat).m m=true:=by
 unfold xO at h⊢;obtain⟨i,hi,hp⟩:=CW.1 h;obtain⟨j,hj,h1,h2⟩:∃j,j<n∧(∀i,i<j→(fun t:T=>M.dvd t.m m) (lO o ln f i)=false)∧(fun t:T=>M.dvd t.m m) (lO o ln f j)=true:=by
  clear h
  revert i
  induction n with
  |zero=>intro i hi;omega
  |succ n ih=>
   intro i hi hp;by_cases hx:∃i,i<n∧(fun t:T=>M.dvd t.m m) (lO o ln f i)=true
   ·obtain⟨i',h1,h2⟩:=hx;obtain⟨j,hj,h3,h4⟩:=ih i' h1 h2;exact⟨j,by omega,h3,h4⟩
   ·have hin:i=n:=by
     rcases Nat.lt_or_ge i n with h|h
     ·exact absurd ⟨i,h,hp⟩ hx
     ·omega
    subst hin;refine⟨i,hi,fun k hk=>?_,hp⟩;cases hb:(fun t:T=>M.dvd t.m m) (lO o ln f k)with
    |false=>rfl
    |true=>exact absurd ⟨k,hk,hb⟩ hx
 rw[wM h1 h2 n hj];exact⟨by simpa using hj,by simpa using h2⟩
theorem fM {t:T} (h:t.m.ok=true∧1≤t.c∧t.c≤100):aK [t]:=(aF (gW h)).2
theorem EY {o:Int} {n:Nat} {ln:Nat→Nat} {f:Nat→Nat→T} (hl:aU n ln f=true) {S:Dv} (hp:cM S.p=true) (h:S.p.length≠0) (hk:0≤xO o n ln f (dH o S.p).m):(OW o ln f S (xO o n ln f (dH o S.p).m).toNat).m.ok=true∧1≤(OW o ln f S (xO o n ln f (dH o S.p).m).toNat).c∧(OW o ln f S (xO o n ln f (dH o S.p).m).toNat).c≤100:=
 rK (iW (aF hp).2 h) (uM hl (kU hk).1) (kU hk).2
theorem yJ {t:T} (ht:t.m.ok=true∧1≤t.c∧t.c≤100) {g:Nat→T} {m:Nat} (hg:aL m g=true) {Y:List T} (h:cC (lf [t]) g m 1=some Y):cM Y=true:=
 fO (fH _ Y h) (cV (cB (show aL 1 (lf [t])=true from gW ht)).2 (cB hg).2 _ Y (Nat.le_refl _) h)
theorem jP.take {o:Int} {n:Nat} {ln:Nat→Nat} {f:Nat→Nat→T} (hl:aU n ln f=true) {u:Nat} {S S':Dv} (h:jP u S) (h0:S.p.length≠0) (hk:0≤xO o n ln f (dH o S.p).m) (hs:iB o ln f S (xO o n ln f (dH o S.p).m).toNat=some S'):jP (u+1) S':=by
 have hg:=EY hl h.p h0 hk;have hkn:=(kU hk).1
 generalize(xO o n ln f (dH o S.p).m).toNat=k at hs hg hkn;unfold iB at hs;split at hs
 ·cases hs
 ·rename_i Y hY;split at hs
  ·rename_i hle;cases hs;have fY:=yJ hg ((aR hl).2 k hkn).2 hY
   refine⟨fO hle (cQ (aF h.p).2 (aF fY).2).1,fun i=>?_,h.r.1,Nat.le_succ_of_le h.r.2⟩;show aK (lW S.q k _ i)∧(lW S.q k _ i).length≤u+1
   unfold lW;split
   ·refine⟨(dD (h.q k).1 (fM hg)).1,?_⟩;have h1:=oT (S.q k) [OW o ln f S k]
    have h2:=(h.q k).2;simp only[List.length_singleton]at h1;omega
   ·exact⟨(h.q i).1,Nat.le_succ_of_le (h.q i).2⟩
  ·cases hs
theorem jP.leave {o:Int} {u:Nat} {S:Dv} (h:jP u S) (h0:S.p.length≠0) (hle:(dB S.p [dH o S.p]).length≤400):jP (u+1) (iH o S):=by
 have hg:=iW (o:=o) (aF h.p).2 h0;refine⟨fO hle (cQ (aF h.p).2 (fM hg)).1,fun i=>⟨(h.q i).1,Nat.le_succ_of_le (h.q i).2⟩,(dD h.r.1 (fM hg)).1,?_⟩;have h1:=oT S.r [dH o S.p]
 have h2:=h.r.2;simp only[List.length_singleton]at h1;show(bT S.r [dH o S.p]).length≤u+1
 omega
theorem jF {L:List T} (h:aK L) {t:T} (ht:t∈L):aM L t.m=t.c∧aM L t.m≠0:=by
 have h1:aM L t.m=t.c:=by
  induction L with
  |nil=>cases ht
  |cons s r ih=>
   rw[aM];rcases List.mem_cons.1 ht with rfl|ht'
   ·rw[if_pos (cF.2 rfl)]
   ·have h1:=h.head t ht';rw[if_neg (fun e=>by rw[cF.1 e]at h1;omega)];exact ih h.tail ht'
 have h2:=h.2 t ht;exact⟨h1,by omega⟩
theorem vZ {L:List T} (hL:aK L) {t:T} (ht:t∈L):(dB L [t]).length<L.length:=by
 have ht':=hL.2 t ht;have hf:=cQ hL (fM ht')
 have hm:=jF hL ht;have key:dB L [t]=L.filter (fun s=> !gP s.m t.m):=by
  refine kV hf.1 ⟨hL.1.filter _,fun s hs=>hL.2 s (List.mem_filter.1 hs).1⟩ (fun m hmo=>?_);rw[hf.2 m];by_cases e:t.m=m
  ·subst e;have h1:aM [t] t.m=t.c:=bK _ _
   rw[h1,hm.1];have h2:aM (L.filter (fun s=> !gP s.m t.m)) t.m=0:=by
    by_cases hz:aM (L.filter (fun s=> !gP s.m t.m)) t.m=0
    ·exact hz
    ·obtain⟨s,hs,he⟩:=List.mem_map.1 (jR hz);have:=(List.mem_filter.1 hs).2
     rw[cF.2 he]at this;cases this
   rw[h2];omega
  ·have h1:aM [t] m=0:=by rw[gZ e];rfl
   have hb:=bZ hL m;rw[h1];have h2:aM (L.filter (fun s=> !gP s.m t.m)) m=aM L m:=by
    by_cases hz:aM L m=0
    ·rw[hz];by_cases hz2:aM (L.filter (fun s=> !gP s.m t.m)) m=0
     ·exact hz2
     ·obtain⟨s,hs,he⟩:=List.mem_map.1 (jR hz2);have h3:=(jF hL (List.mem_filter.1 hs).1).2
      rw[show s.m=m from he]at h3;exact absurd hz h3
    ·obtain⟨s,hs,he⟩:=List.mem_map.1 (jR hz);have he:s.m=m:=he
     subst he;have h4:s∈L.filter (fun s=> !gP s.m t.m):=List.mem_filter.2 ⟨hs,by rw[YQ.2 (fun e'=>e e'.symm)];rfl⟩
     rw[(jF hL hs).1,(jF (L:=L.filter (fun s=> !gP s.m t.m)) ⟨hL.1.filter _,fun s hs=>hL.2 s (List.mem_filter.1 hs).1⟩ h4).1]
   rw[h2];omega
 rw[key];refine List.length_filter_lt_length_iff_exists.2 ⟨t,ht,?_⟩;rw[cF.2 rfl];decide
theorem mW {o:Int} {n:Nat} {ln:Nat→Nat} {f:Nat→Nat→T} (hl:aU n ln f=true) {u:Nat} {S S':Dv} (h:jP u S) (h0:S.p.length≠0) (hs:dP o n ln f S=some S'):jP (u+1) S':=by
 unfold dP at hs;split at hs
 ·exact h.take hl h0 (by assumption) hs
 ·cases hs;have:=vZ (aF h.p).2 (kM (o:=o) h0)
  have h4:=(aF h.p).1;exact h.leave h0 (by omega)
theorem EX {o:Int} {n:Nat} {ln:Nat→Nat} {f:Nat→Nat→T} (hl:aU n ln f=true):∀{v u:Nat} {S S':Dv},jP u S→fE o n ln f v S=some S'→jP (u+v) S'∧S'.p=[]
 |0,u,S,S',h,hr=>by
  unfold fE at hr;split at hr
  ·rename_i h0;cases hr;exact⟨h,List.length_eq_zero_iff.1 h0⟩
  ·cases hr
 |v+1,u,S,S',h,hr=>by
  by_cases h0:S.p.length=0
  ·rw[nN h0]at hr;cases hr;exact⟨⟨h.p,fun k=>⟨(h.q k).1,by have:=(h.q k).2;omega⟩,h.r.1,by have:=h.r.2;omega⟩,List.length_eq_zero_iff.1 h0⟩
  ·cases hs:dP o n ln f S with
   |none=>rw[sK h0 hs]at hr;cases hr
   |some S1=>
    rw[lH h0 hs]at hr;have:=EX hl (mW hl h h0 hs) hr
    rw[show u+(v+1)=u+1+v by omega];exact this
open Go.RowKit Go.Deep Go.Joins Go.Maps
theorem bR.grown {w w':World} {b:Nat} {t:T} {row:Option Nat} (h:bR w b t) (hg:w.grownBy w' row) (hne:some b≠row):bR w' b t:=by
 have hl:=h.1.lt;have hb:=hg.block b hl hne
 obtain⟨⟨h0,h1,h2,h3,h4⟩,h5⟩:=h;exact⟨⟨(mB (a:=⟨b,0,none⟩) hb).trans h0,(mB (a:=⟨b,1,none⟩) hb).trans h1,(mB (a:=⟨b,2,none⟩) hb).trans h2,(mB (a:=⟨b,3,none⟩) hb).trans h3,(mB (a:=⟨b,4,none⟩) hb).trans h4⟩,fun j=>(World.frozen?_of_block (a:=⟨b,j,none⟩) hb).trans (h5 j)⟩
theorem iD (w:World) (b i:Nat) (v:Value):w.grownBy (w.setCell ⟨b,i,none⟩ v) (some b):=
 ⟨(bQ 0 w).setCell (p:=⟨b,i,none⟩) (gY _) v |>.os,(bQ 0 w).setCell (p:=⟨b,i,none⟩) (gY _) v |>.tape,(bQ 0 w).setCell (p:=⟨b,i,none⟩) (gY _) v |>.output,(bQ 0 w).setCell (p:=⟨b,i,none⟩) (gY _) v |>.size,fun k _ hk=>Below.heap_setCell _ _ _ k (fun e=>hk (by rw[e]))⟩
theorem mY (w:World) (B:Nat) (v0 v1 v2 v3 v4:Value):w.grownBy (((((w.setCell ⟨B,0,none⟩ v0).setCell ⟨B,1,none⟩ v1).setCell ⟨B,2,none⟩ v2).setCell ⟨B,3,none⟩ v3).setCell ⟨B,4,none⟩ v4) (some B):=
 ((((iD w B 0 v0).trans (iD _ B 1 v1)).trans (iD _ B 2 v2)).trans (iD _ B 3 v3)).trans (iD _ B 4 v4)
def IW (rk:M→Int) (c:M→Int) (ss:List M) (G:T):Prop:=(ss=[]∧G=bF)∨(1≤G.c∧G.m.ok=true∧G.m∈ss∧G.c=c G.m∧∀m∈ss,rk m≤rk G.m)
theorem IW.first {rk c:M→Int} {G:T} (h:IW rk c [] G):G=bF:=by
 rcases h with⟨_,h⟩|⟨_,_,h,_⟩
 ·exact h
 ·simp at h
theorem IW.put {rk c:M→Int} {ss:List M} {G:T} {m:M} (h:IW rk c ss G) (hm:m.ok=true) (hc:1≤c m) (hg:G.c=0∨rk G.m<rk m):IW rk c (ss++[m]) ⟨c m,m⟩:=by
 refine .inr ⟨hc,hm,by simp,rfl,fun x hx=>?_⟩;rcases List.mem_append.1 hx with hx|hx
 ·rcases h with⟨rfl,_⟩|⟨h1,_,_,_,h5⟩
  ·simp at hx
  ·rcases hg with hg|hg
   ·omega
   ·have:=h5 x hx;show rk x≤rk m
    omega
 ·simp at hx;rw[hx];exact Int.le_refl _
theorem IW.keep {rk c:M→Int} {ss:List M} {G:T} {m:M} (h:IW rk c ss G) (h1:1≤G.c) (hg:¬rk G.m<rk m):IW rk c (ss++[m]) G:=by
 rcases h with⟨_,rfl⟩|⟨_,h0,h2,h3,h5⟩
 ·exact absurd h1 (by decide)
 ·refine .inr ⟨h1,h0,List.mem_append_left _ h2,h3,fun x hx=>?_⟩;rcases List.mem_append.1 hx with hx|hx
  ·exact h5 x hx
  ·simp at hx;rw[hx];omega
theorem IW.all {o:Int} {p:List T} (ho:1≤o∧o≤3) (hp:cM p=true) (h0:p.length≠0) {ss:List M} {G:T} (h:IW (jO o) (aM p) ss G) (hs:∀m:M,m.ok=true→(m∈ss↔aM p m≠0)):G=dH o p:=by
 have hl:=kM (o:=o) h0;have hf:=(aF hp).2
 have hlm:=hf.2 _ hl;have hcl:=jF hf hl
 have hin:(dH o p).m∈ss:=(hs _ hlm.1).2 hcl.2;rcases h with⟨rfl,_⟩|⟨h1,h2,h3,h4,h5⟩
 ·simp at hin
 ·have hc:aM p G.m≠0:=(hs _ h2).1 h3;obtain⟨t,ht,he⟩:=List.mem_map.1 (jR hc);have he:t.m=G.m:=he
  have e1:=h5 _ hin;have e2:=DB ho hp h0 t ht
  rw[he]at e2;have e3:G.m=(dH o p).m:=pZ _ _ h2 hlm.1 (Int.le_antisymm e2 e1)
  have e4:G.c=(dH o p).c:=by rw[h4,e3,hcl.1]
  cases hG:G with|mk gc gm=>
  cases hL:dH o p with|mk lc lm=>
  rw[hG,hL]at e3 e4;simp at e3 e4;rw[e3,e4]
theorem lC.all {D:DataW Unit} {left:Lit→Bool} {ss:List M} {c:M→Int} (h:lC D left ss) (hl:∀kl,left kl=false) (hat:∀m:M,m.ok=true→D.atKey (dU m) (.lit (.int .i64 0))= .lit (.int .i64 (c m))∧(Maps.has D (dU m)=true↔c m≠0)):∀m:M,m.ok=true→(m∈ss↔c m≠0):=fun m hm=>by
 rw[h.2.2 m hm,hl];simp[(hat m hm).2]
theorem PD (w:World) (b n:Nat) (c:M→Int) (h:bO w b n c):Calls Tryz.prog 103 #[.map (some b),.func (.func 88) #[] #[]] w fun r w'=>∃G:T,r= .returned (.agg #[.int .i64 G.c,.int .i64 G.m.x,.int .i64 G.m.y,.int .i64 G.m.d,.int .i64 G.m.e])∧Below w.heap.size w w'∧∃ss,IW eQ c ss G∧∀m:M,m.ok=true→(m∈ss↔c m≠0):=by
 obtain⟨D,hown,hc,hat,hks⟩:=h;have hblt:=hown.lt
 have HKS:=aA hks;have HAT:=aA hat
 have HC:=aA hc;have HO2:=aA ((hown.alloc (.cells #[.int .i64 0,.int .i64 0,.int .i64 0,.int .i64 0,.int .i64 0] 54)).alloc (.cells #[.int .i64 0,.int .i64 0,.int .i64 0,.int .i64 0,.int .i64 0] 54))
 have HB0:=aA (aQ w (.cells #[.int .i64 0,.int .i64 0,.int .i64 0,.int .i64 0,.int .i64 0] 54) (.cells #[.int .i64 0,.int .i64 0,.int .i64 0,.int .i64 0,.int .i64 0] 54));have HZ0:=aA ((bR.box w 54 bF).below (aC _ (.cells #[.int .i64 0,.int .i64 0,.int .i64 0,.int .i64 0,.int .i64 0] 54)))
 have HG0:=aA (bR.box (w.alloc (.cells #[.int .i64 0,.int .i64 0,.int .i64 0,.int .i64 0,.int .i64 0] 54)) 54 bF);clear hks hat hown hc;go_enter Tryz.func103,Tryz.ntmps103
 go_wp2_with (first
  |(at_range;refine wpList_range_own _ rfl _ 123 rfl 52 121 kL Tryz.underlying123 _ b n D rfl HO2.out ?_;intro w0 hrg0 hg0 hs0)
  |go_in)
 have hs2:((w.alloc (.cells #[.int .i64 0,.int .i64 0,.int .i64 0,.int .i64 0,.int .i64 0] 54)).alloc (.cells #[.int .i64 0,.int .i64 0,.int .i64 0,.int .i64 0,.int .i64 0] 54)).heap.size=w.heap.size+2:=by simp
 have HB1:=aA (kS HB0.out hg0 (by simp));have HZ1:=aA (HZ0.out.grown hg0 (by simp))
 have HG1:=aA (HG0.out.grown hg0 (by simp));have HRG:=aA hrg0
 rw[hs2]at HRG;simp only[World.size_alloc]at HG1;clear HB0 HZ0 HG0 HO2 hrg0 hg0 hs0
 go_frame
 rw[hs2]
 go_loopw [6] (fun _ wr=>∃(left:Lit→Bool) (xL:Nat) (ss:List M) (G:T),wr.ranges Tryz.prog 52 (plainElem Tryz.prog 121) b (w.heap.size+2) n D left xL∧lC D left ss∧Below w.heap.size w wr∧bR wr w.heap.size bF∧bR wr (w.heap.size+1) G∧IW eQ c ss G)
  (fun _ wr=>wr.rangeLeft b (w.heap.size+2))
 case atStart=>exact⟨_,_,[],bF,HRG.out,lC.start D,HB1.out,HZ1.out,HG1.out,.inl ⟨rfl,rfl⟩⟩
 case round=>
  obtain⟨left,xL,ss,G,hrg,hC,hB,hZ,hG,hM⟩:=hrel;have HCO:=aA hC
  have HB:=aA hB;have HZ:=aA hZ
  have HGG:=aA hG;have HM:=aA hM
  have HRR:=aA hrg;have hGl:w.heap.size+1<wr.heap.size:=hG.1.lt
  clear hC hB hZ hG hM
  go_wp2_with (first
   |(at_next;refine wpList_next_ranges _ rfl _ rfl 52 kL (plainElem Tryz.prog 121) (id:Value→Value) (Value.int .i64) (fun key kl hk=>⟨key,rfl⟩) (fun v y hv=>by obtain⟨c,rfl,_⟩:=plainElem_int_inv Tryz.underlying121 hv;exact⟨c,rfl⟩) b (w.heap.size+2) n _ _ _ rfl HRR.out ?_ ?_)
   |go_in)
  ·intro hc0 hl0;obtain⟨⟨z0,z1,z2,z3,z4⟩,fz⟩:=HZ.out;obtain⟨⟨l0,l1,l2,l3,l4⟩,_⟩:=HGG.out;simp only[bF]at z0 z1 z2 z3 z4;have HAL:=aA (HCO.out.all hl0 HAT.out)
   clear hl0 hrg HZ HGG;go_wp2;refine cW (v:=.agg #[.int .i64 G.c,.int .i64 G.m.x,.int .i64 G.m.y,.int .i64 G.m.d,.int .i64 G.m.e]) (by simp[results,Tryz.results103,go_sem, *]) rfl ⟨G,rfl,?_,ss,HM.out,HAL.out⟩;exact bY HB.out (Nat.le_refl _) _ _ _ _ _
  ·intro x cv kl yd yp w2 cnt2 hkey hlk hv hatx hrg2 hlt hg2 hsz2 hen;obtain⟨m,hmo,rfl⟩:=HKS.out kl (has_true_of_atKey hatx);obtain rfl:x=OX m:=kL.inj hkey (mM hmo);obtain rfl:cv=c m:=by
    obtain⟨c',e,e2,_⟩:=plainElem_int_inv Tryz.underlying121 hv;cases e;cases e2;have h1:=(HAT.out m hmo).1
    rw[hatx]at h1;simpa using h1
   have hcm:1≤c m:=by
    have h1:=(HAT.out m hmo).2.1 (has_true_of_atKey hatx);have h2:=(HC.out m).1
    omega
   have hcm2:=(HC.out m).2;have HRG2:=aA (hrg2.alloc (.cells #[.int .i64 m.x,.int .i64 m.y,.int .i64 m.d,.int .i64 m.e] 52))
   have HLT:=aA (show cnt2<wr.rangeLeft b (w.heap.size+2) by rw[hrg.left_eq];exact hlt);have HCO2:=aA (HCO.out.step hmo hlk hatx)
   have hB2:=kS HB.out hg2 (fun k e=>by cases e;omega);have HB2:=aA (hB2.alloc hB2.size (.cells #[.int .i64 m.x,.int .i64 m.y,.int .i64 m.d,.int .i64 m.e] 52))
   have HZ2:=aA ((HZ.out.grown hg2 (by simp)).below (aC w2 (.cells #[.int .i64 m.x,.int .i64 m.y,.int .i64 m.d,.int .i64 m.e] 52)));have HG2:=aA ((HGG.out.grown hg2 (by simp)).below (aC w2 (.cells #[.int .i64 m.x,.int .i64 m.y,.int .i64 m.d,.int .i64 m.e] 52)))
   have HM2:=aA (M4.box w2 52 m.x m.y m.d m.e);have hsw:w.heap.size+1<w2.heap.size:=by rw[hsz2];exact hGl
   have hrw:w.heap.size+2<w2.heap.size:=hrg2.lt;have hbw:b<w2.heap.size:=hrg2.owns.lt
   clear hlk hatx hrg hrg2 hlt hg2 hsz2 hkey hv hB2 HRR HB HZ HGG HCO hGl;go_wp2_with fail;generalize(w2.alloc (.cells #[.int .i64 m.x,.int .i64 m.y,.int .i64 m.d,.int .i64 m.e] 52))=wq at HRG2 HB2 HZ2 HG2 HM2⊢;have ne:=cH.there wq
   have s0:∀u:cH wq,u.1.cell? ⟨w2.heap.size,0,none⟩=some (.int .i64 m.x):=fun u=>(u.cell HM2.out.lt).trans HM2.out.1;have s1:∀u:cH wq,u.1.cell? ⟨w2.heap.size,1,none⟩=some (.int .i64 m.y):=fun u=>(u.cell HM2.out.lt).trans HM2.out.2.1
   have s2:∀u:cH wq,u.1.cell? ⟨w2.heap.size,2,none⟩=some (.int .i64 m.d):=fun u=>(u.cell HM2.out.lt).trans HM2.out.2.2.1;have s3:∀u:cH wq,u.1.cell? ⟨w2.heap.size,3,none⟩=some (.int .i64 m.e):=fun u=>(u.cell HM2.out.lt).trans HM2.out.2.2.2
   have t0:∀u:cH wq,u.1.cell? ⟨w.heap.size+1,0,none⟩=some (.int .i64 G.c):=fun u=>(u.cell HG2.out.1.lt).trans HG2.out.1.1;have t1:∀u:cH wq,u.1.cell? ⟨w.heap.size+1,1,none⟩=some (.int .i64 G.m.x):=fun u=>(u.cell HG2.out.1.lt).trans HG2.out.1.2.1
   have t2:∀u:cH wq,u.1.cell? ⟨w.heap.size+1,2,none⟩=some (.int .i64 G.m.y):=fun u=>(u.cell HG2.out.1.lt).trans HG2.out.1.2.2.1;have t3:∀u:cH wq,u.1.cell? ⟨w.heap.size+1,3,none⟩=some (.int .i64 G.m.d):=fun u=>(u.cell HG2.out.1.lt).trans HG2.out.1.2.2.2.1
   have t4:∀u:cH wq,u.1.cell? ⟨w.heap.size+1,4,none⟩=some (.int .i64 G.m.e):=fun u=>(u.cell HG2.out.1.lt).trans HG2.out.1.2.2.2.2;by_cases hG0:G.c=0
   ·have hgz:((G.c:Int)==0)=true:=by simpa using hG0
    have HMT:=aA (HM.out.put hmo hcm (.inl hG0));clear HM hG0;refine aH (by kernel_rfl) (by kernel_rfl) ?_;repeat(go_big_quiet_step (fail))
    refine wpQuiet_nil ?_;rintro _ ⟨v,rfl⟩;have HBV:=aA (HB2.out.trans (v.2.mono HB2.out.size))
    have HZV:=aA (HZ2.out.below v.2);have HGV:=aA (HG2.out.below v.2)
    have HMV:=aA (HM2.out.below v.2);have HRV:=aA (HRG2.out.kept (cU v.2 none) (by simp) (by simp))
    obtain⟨u,hu⟩:∃u,v.1=u:=⟨_,rfl⟩
    rw[hu]at HBV HZV HGV HMV HRV⊢;clear hu s0 s1 s2 s3 t0 t1 t2 t3 t4 ne v;obtain⟨q0,q1,q2,q3⟩:=HMV.out;obtain⟨⟨l0,l1,l2,l3,l4⟩,lz⟩:=HGV.out;have HRW:=aA (HRV.out.kept (mY u (w.heap.size+1) (.int .i64 (c m)) (.int .i64 m.x) (.int .i64 m.y) (.int .i64 m.d) (.int .i64 m.e)) (by simp;omega) (by simp))
    clear HRV;go_wp2;go_roundw
    case rel=>
     refine⟨_,cnt2,ss++[m],⟨c m,m⟩,HRW.out,HCO2.out,bY HBV.out (by omega) _ _ _ _ _,HZV.out.far (by omega),⟨⟨by go_simp,by go_simp,by go_simp,by go_simp,by go_simp⟩,fun j=>by go_simp⟩,HMT.out⟩
    case measure=>rw[HRW.out.left_eq];exact HLT.out
   ·have hgz:((G.c:Int)==0)=false:=by simpa using hG0
    obtain⟨hg1,hgo⟩:1≤G.c∧G.m.ok=true:=by
     rcases HM.out with⟨_,e⟩|⟨e1,e2,_⟩
     ·rw[e]at hG0;exact absurd rfl hG0
     ·exact⟨e1,e2⟩
    by_cases hq:eQ G.m<eQ m
    ·have dq:decide (eQ ⟨G.m.x,G.m.y,G.m.d,G.m.e⟩<eQ ⟨m.x,m.y,m.d,m.e⟩)=true:=decide_eq_true hq;have HMT:=aA (HM.out.put hmo hcm (.inr hq))
     clear HM hG0 hq;refine aH (by kernel_rfl) (by kernel_rfl) ?_;repeat(go_big_quiet_step (first|(go_at_call 88;exact aJ (gJ _ _ _ _ _ hmo))|(go_at_call 88;exact aJ (gJ _ _ _ _ _ hgo))))
     refine wpQuiet_nil ?_;rintro _ ⟨v,rfl⟩;have HBV:=aA (HB2.out.trans (v.2.mono HB2.out.size))
     have HZV:=aA (HZ2.out.below v.2);have HGV:=aA (HG2.out.below v.2)
     have HMV:=aA (HM2.out.below v.2);have HRV:=aA (HRG2.out.kept (cU v.2 none) (by simp) (by simp))
     obtain⟨u,hu⟩:∃u,v.1=u:=⟨_,rfl⟩
     rw[hu]at HBV HZV HGV HMV HRV⊢;clear hu s0 s1 s2 s3 t0 t1 t2 t3 t4 ne v;obtain⟨q0,q1,q2,q3⟩:=HMV.out;obtain⟨⟨l0,l1,l2,l3,l4⟩,lz⟩:=HGV.out;have HRW:=aA (HRV.out.kept (mY u (w.heap.size+1) (.int .i64 (c m)) (.int .i64 m.x) (.int .i64 m.y) (.int .i64 m.d) (.int .i64 m.e)) (by simp;omega) (by simp))
     clear HRV;go_wp2;go_roundw
     case rel=>
      refine⟨_,cnt2,ss++[m],⟨c m,m⟩,HRW.out,HCO2.out,bY HBV.out (by omega) _ _ _ _ _,HZV.out.far (by omega),⟨⟨by go_simp,by go_simp,by go_simp,by go_simp,by go_simp⟩,fun j=>by go_simp⟩,HMT.out⟩
     case measure=>rw[HRW.out.left_eq];exact HLT.out
    ·have dq:decide (eQ ⟨G.m.x,G.m.y,G.m.d,G.m.e⟩<eQ ⟨m.x,m.y,m.d,m.e⟩)=false:=decide_eq_false hq;have HMT:=aA (HM.out.keep hg1 hq)
     clear HM hG0 hq;refine aH (by kernel_rfl) (by kernel_rfl) ?_;repeat(go_big_quiet_step (first|(go_at_call 88;exact aJ (gJ _ _ _ _ _ hmo))|(go_at_call 88;exact aJ (gJ _ _ _ _ _ hgo))))
     refine wpQuiet_nil ?_;rintro _ ⟨v,rfl⟩;have HBV:=aA (HB2.out.trans (v.2.mono HB2.out.size))
     have HZV:=aA (HZ2.out.below v.2);have HGV:=aA (HG2.out.below v.2)
     have HRV:=aA (HRG2.out.kept (cU v.2 none) (by simp) (by simp));obtain⟨u,hu⟩:∃u,v.1=u:=⟨_,rfl⟩
     rw[hu]at HBV HZV HGV HRV⊢;clear hu s0 s1 s2 s3 t0 t1 t2 t3 t4 ne v;go_wp2;go_roundw;case rel=>exact⟨_,cnt2,ss++[m],G,HRV.out,HCO2.out,HBV.out,HZV.out,HGV.out,HMT.out⟩
     case measure=>rw[HRV.out.left_eq];exact HLT.out
theorem PE (w:World) (b n:Nat) (c:M→Int) (h:bO w b n c):Calls Tryz.prog 103 #[.map (some b),.func (.func 109) #[] #[]] w fun r w'=>∃G:T,r= .returned (.agg #[.int .i64 G.c,.int .i64 G.m.x,.int .i64 G.m.y,.int .i64 G.m.d,.int .i64 G.m.e])∧Below w.heap.size w w'∧∃ss,IW gE c ss G∧∀m:M,m.ok=true→(m∈ss↔c m≠0):=by
 obtain⟨D,hown,hc,hat,hks⟩:=h;have hblt:=hown.lt
 have HKS:=aA hks;have HAT:=aA hat
 have HC:=aA hc;have HO2:=aA ((hown.alloc (.cells #[.int .i64 0,.int .i64 0,.int .i64 0,.int .i64 0,.int .i64 0] 54)).alloc (.cells #[.int .i64 0,.int .i64 0,.int .i64 0,.int .i64 0,.int .i64 0] 54))
 have HB0:=aA (aQ w (.cells #[.int .i64 0,.int .i64 0,.int .i64 0,.int .i64 0,.int .i64 0] 54) (.cells #[.int .i64 0,.int .i64 0,.int .i64 0,.int .i64 0,.int .i64 0] 54));have HZ0:=aA ((bR.box w 54 bF).below (aC _ (.cells #[.int .i64 0,.int .i64 0,.int .i64 0,.int .i64 0,.int .i64 0] 54)))
 have HG0:=aA (bR.box (w.alloc (.cells #[.int .i64 0,.int .i64 0,.int .i64 0,.int .i64 0,.int .i64 0] 54)) 54 bF);clear hks hat hown hc;go_enter Tryz.func103,Tryz.ntmps103
 go_wp2_with (first
  |(at_range;refine wpList_range_own _ rfl _ 123 rfl 52 121 kL Tryz.underlying123 _ b n D rfl HO2.out ?_;intro w0 hrg0 hg0 hs0)
  |go_in)
 have hs2:((w.alloc (.cells #[.int .i64 0,.int .i64 0,.int .i64 0,.int .i64 0,.int .i64 0] 54)).alloc (.cells #[.int .i64 0,.int .i64 0,.int .i64 0,.int .i64 0,.int .i64 0] 54)).heap.size=w.heap.size+2:=by simp
 have HB1:=aA (kS HB0.out hg0 (by simp));have HZ1:=aA (HZ0.out.grown hg0 (by simp))
 have HG1:=aA (HG0.out.grown hg0 (by simp));have HRG:=aA hrg0
 rw[hs2]at HRG;simp only[World.size_alloc]at HG1;clear HB0 HZ0 HG0 HO2 hrg0 hg0 hs0
 go_frame
 rw[hs2]
 go_loopw [6] (fun _ wr=>∃(left:Lit→Bool) (xL:Nat) (ss:List M) (G:T),wr.ranges Tryz.prog 52 (plainElem Tryz.prog 121) b (w.heap.size+2) n D left xL∧lC D left ss∧Below w.heap.size w wr∧bR wr w.heap.size bF∧bR wr (w.heap.size+1) G∧IW gE c ss G)
  (fun _ wr=>wr.rangeLeft b (w.heap.size+2))
 case atStart=>exact⟨_,_,[],bF,HRG.out,lC.start D,HB1.out,HZ1.out,HG1.out,.inl ⟨rfl,rfl⟩⟩
 case round=>
  obtain⟨left,xL,ss,G,hrg,hC,hB,hZ,hG,hM⟩:=hrel;have HCO:=aA hC
  have HB:=aA hB;have HZ:=aA hZ
  have HGG:=aA hG;have HM:=aA hM
  have HRR:=aA hrg;have hGl:w.heap.size+1<wr.heap.size:=hG.1.lt
  clear hC hB hZ hG hM
  go_wp2_with (first
   |(at_next;refine wpList_next_ranges _ rfl _ rfl 52 kL (plainElem Tryz.prog 121) (id:Value→Value) (Value.int .i64) (fun key kl hk=>⟨key,rfl⟩) (fun v y hv=>by obtain⟨c,rfl,_⟩:=plainElem_int_inv Tryz.underlying121 hv;exact⟨c,rfl⟩) b (w.heap.size+2) n _ _ _ rfl HRR.out ?_ ?_)
   |go_in)
  ·intro hc0 hl0;obtain⟨⟨z0,z1,z2,z3,z4⟩,fz⟩:=HZ.out;obtain⟨⟨l0,l1,l2,l3,l4⟩,_⟩:=HGG.out;simp only[bF]at z0 z1 z2 z3 z4;have HAL:=aA (HCO.out.all hl0 HAT.out)
   clear hl0 hrg HZ HGG;go_wp2;refine cW (v:=.agg #[.int .i64 G.c,.int .i64 G.m.x,.int .i64 G.m.y,.int .i64 G.m.d,.int .i64 G.m.e]) (by simp[results,Tryz.results103,go_sem, *]) rfl ⟨G,rfl,?_,ss,HM.out,HAL.out⟩;exact bY HB.out (Nat.le_refl _) _ _ _ _ _
  ·intro x cv kl yd yp w2 cnt2 hkey hlk hv hatx hrg2 hlt hg2 hsz2 hen;obtain⟨m,hmo,rfl⟩:=HKS.out kl (has_true_of_atKey hatx);obtain rfl:x=OX m:=kL.inj hkey (mM hmo);obtain rfl:cv=c m:=by
    obtain⟨c',e,e2,_⟩:=plainElem_int_inv Tryz.underlying121 hv;cases e;cases e2;have h1:=(HAT.out m hmo).1
    rw[hatx]at h1;simpa using h1
   have hcm:1≤c m:=by
    have h1:=(HAT.out m hmo).2.1 (has_true_of_atKey hatx);have h2:=(HC.out m).1
    omega
   have hcm2:=(HC.out m).2;have HRG2:=aA (hrg2.alloc (.cells #[.int .i64 m.x,.int .i64 m.y,.int .i64 m.d,.int .i64 m.e] 52))
   have HLT:=aA (show cnt2<wr.rangeLeft b (w.heap.size+2) by rw[hrg.left_eq];exact hlt);have HCO2:=aA (HCO.out.step hmo hlk hatx)
   have hB2:=kS HB.out hg2 (fun k e=>by cases e;omega);have HB2:=aA (hB2.alloc hB2.size (.cells #[.int .i64 m.x,.int .i64 m.y,.int .i64 m.d,.int .i64 m.e] 52))
   have HZ2:=aA ((HZ.out.grown hg2 (by simp)).below (aC w2 (.cells #[.int .i64 m.x,.int .i64 m.y,.int .i64 m.d,.int .i64 m.e] 52)));have HG2:=aA ((HGG.out.grown hg2 (by simp)).below (aC w2 (.cells #[.int .i64 m.x,.int .i64 m.y,.int .i64 m.d,.int .i64 m.e] 52)))
   have HM2:=aA (M4.box w2 52 m.x m.y m.d m.e);have hsw:w.heap.size+1<w2.heap.size:=by rw[hsz2];exact hGl
   have hrw:w.heap.size+2<w2.heap.size:=hrg2.lt;have hbw:b<w2.heap.size:=hrg2.owns.lt
   clear hlk hatx hrg hrg2 hlt hg2 hsz2 hkey hv hB2 HRR HB HZ HGG HCO hGl;go_wp2_with fail;generalize(w2.alloc (.cells #[.int .i64 m.x,.int .i64 m.y,.int .i64 m.d,.int .i64 m.e] 52))=wq at HRG2 HB2 HZ2 HG2 HM2⊢;have ne:=cH.there wq
   have s0:∀u:cH wq,u.1.cell? ⟨w2.heap.size,0,none⟩=some (.int .i64 m.x):=fun u=>(u.cell HM2.out.lt).trans HM2.out.1;have s1:∀u:cH wq,u.1.cell? ⟨w2.heap.size,1,none⟩=some (.int .i64 m.y):=fun u=>(u.cell HM2.out.lt).trans HM2.out.2.1
   have s2:∀u:cH wq,u.1.cell? ⟨w2.heap.size,2,none⟩=some (.int .i64 m.d):=fun u=>(u.cell HM2.out.lt).trans HM2.out.2.2.1;have s3:∀u:cH wq,u.1.cell? ⟨w2.heap.size,3,none⟩=some (.int .i64 m.e):=fun u=>(u.cell HM2.out.lt).trans HM2.out.2.2.2
   have t0:∀u:cH wq,u.1.cell? ⟨w.heap.size+1,0,none⟩=some (.int .i64 G.c):=fun u=>(u.cell HG2.out.1.lt).trans HG2.out.1.1;have t1:∀u:cH wq,u.1.cell? ⟨w.heap.size+1,1,none⟩=some (.int .i64 G.m.x):=fun u=>(u.cell HG2.out.1.lt).trans HG2.out.1.2.1
   have t2:∀u:cH wq,u.1.cell? ⟨w.heap.size+1,2,none⟩=some (.int .i64 G.m.y):=fun u=>(u.cell HG2.out.1.lt).trans HG2.out.1.2.2.1;have t3:∀u:cH wq,u.1.cell? ⟨w.heap.size+1,3,none⟩=some (.int .i64 G.m.d):=fun u=>(u.cell HG2.out.1.lt).trans HG2.out.1.2.2.2.1
   have t4:∀u:cH wq,u.1.cell? ⟨w.heap.size+1,4,none⟩=some (.int .i64 G.m.e):=fun u=>(u.cell HG2.out.1.lt).trans HG2.out.1.2.2.2.2;by_cases hG0:G.c=0
   ·have hgz:((G.c:Int)==0)=true:=by simpa using hG0
    have HMT:=aA (HM.out.put hmo hcm (.inl hG0));clear HM hG0;refine aH (by kernel_rfl) (by kernel_rfl) ?_;repeat(go_big_quiet_step (fail))
    refine wpQuiet_nil ?_;rintro _ ⟨v,rfl⟩;have HBV:=aA (HB2.out.trans (v.2.mono HB2.out.size))
    have HZV:=aA (HZ2.out.below v.2);have HGV:=aA (HG2.out.below v.2)
    have HMV:=aA (HM2.out.below v.2);have HRV:=aA (HRG2.out.kept (cU v.2 none) (by simp) (by simp))
    obtain⟨u,hu⟩:∃u,v.1=u:=⟨_,rfl⟩
    rw[hu]at HBV HZV HGV HMV HRV⊢;clear hu s0 s1 s2 s3 t0 t1 t2 t3 t4 ne v;obtain⟨q0,q1,q2,q3⟩:=HMV.out;obtain⟨⟨l0,l1,l2,l3,l4⟩,lz⟩:=HGV.out;have HRW:=aA (HRV.out.kept (mY u (w.heap.size+1) (.int .i64 (c m)) (.int .i64 m.x) (.int .i64 m.y) (.int .i64 m.d) (.int .i64 m.e)) (by simp;omega) (by simp))
    clear HRV;go_wp2;go_roundw
    case rel=>
     refine⟨_,cnt2,ss++[m],⟨c m,m⟩,HRW.out,HCO2.out,bY HBV.out (by omega) _ _ _ _ _,HZV.out.far (by omega),⟨⟨by go_simp,by go_simp,by go_simp,by go_simp,by go_simp⟩,fun j=>by go_simp⟩,HMT.out⟩
    case measure=>rw[HRW.out.left_eq];exact HLT.out
   ·have hgz:((G.c:Int)==0)=false:=by simpa using hG0
    obtain⟨hg1,hgo⟩:1≤G.c∧G.m.ok=true:=by
     rcases HM.out with⟨_,e⟩|⟨e1,e2,_⟩
     ·rw[e]at hG0;exact absurd rfl hG0
     ·exact⟨e1,e2⟩
    by_cases hq:gE G.m<gE m
    ·have dq:decide (gE ⟨G.m.x,G.m.y,G.m.d,G.m.e⟩<gE ⟨m.x,m.y,m.d,m.e⟩)=true:=decide_eq_true hq;have HMT:=aA (HM.out.put hmo hcm (.inr hq))
     clear HM hG0 hq;refine aH (by kernel_rfl) (by kernel_rfl) ?_;repeat(go_big_quiet_step (first|(go_at_call 109;exact aJ (iG _ _ _ _ _ hmo))|(go_at_call 109;exact aJ (iG _ _ _ _ _ hgo))))
     refine wpQuiet_nil ?_;rintro _ ⟨v,rfl⟩;have HBV:=aA (HB2.out.trans (v.2.mono HB2.out.size))
     have HZV:=aA (HZ2.out.below v.2);have HGV:=aA (HG2.out.below v.2)
     have HMV:=aA (HM2.out.below v.2);have HRV:=aA (HRG2.out.kept (cU v.2 none) (by simp) (by simp))
     obtain⟨u,hu⟩:∃u,v.1=u:=⟨_,rfl⟩
     rw[hu]at HBV HZV HGV HMV HRV⊢;clear hu s0 s1 s2 s3 t0 t1 t2 t3 t4 ne v;obtain⟨q0,q1,q2,q3⟩:=HMV.out;obtain⟨⟨l0,l1,l2,l3,l4⟩,lz⟩:=HGV.out;have HRW:=aA (HRV.out.kept (mY u (w.heap.size+1) (.int .i64 (c m)) (.int .i64 m.x) (.int .i64 m.y) (.int .i64 m.d) (.int .i64 m.e)) (by simp;omega) (by simp))
     clear HRV;go_wp2;go_roundw
     case rel=>
      refine⟨_,cnt2,ss++[m],⟨c m,m⟩,HRW.out,HCO2.out,bY HBV.out (by omega) _ _ _ _ _,HZV.out.far (by omega),⟨⟨by go_simp,by go_simp,by go_simp,by go_simp,by go_simp⟩,fun j=>by go_simp⟩,HMT.out⟩
     case measure=>rw[HRW.out.left_eq];exact HLT.out
    ·have dq:decide (gE ⟨G.m.x,G.m.y,G.m.d,G.m.e⟩<gE ⟨m.x,m.y,m.d,m.e⟩)=false:=decide_eq_false hq;have HMT:=aA (HM.out.keep hg1 hq)
     clear HM hG0 hq;refine aH (by kernel_rfl) (by kernel_rfl) ?_;repeat(go_big_quiet_step (first|(go_at_call 109;exact aJ (iG _ _ _ _ _ hmo))|(go_at_call 109;exact aJ (iG _ _ _ _ _ hgo))))
     refine wpQuiet_nil ?_;rintro _ ⟨v,rfl⟩;have HBV:=aA (HB2.out.trans (v.2.mono HB2.out.size))
     have HZV:=aA (HZ2.out.below v.2);have HGV:=aA (HG2.out.below v.2)
     have HRV:=aA (HRG2.out.kept (cU v.2 none) (by simp) (by simp));obtain⟨u,hu⟩:∃u,v.1=u:=⟨_,rfl⟩
     rw[hu]at HBV HZV HGV HRV⊢;clear hu s0 s1 s2 s3 t0 t1 t2 t3 t4 ne v;go_wp2;go_roundw;case rel=>exact⟨_,cnt2,ss++[m],G,HRV.out,HCO2.out,HBV.out,HZV.out,HGV.out,HMT.out⟩
     case measure=>rw[HRV.out.left_eq];exact HLT.out
theorem PF (w:World) (b n:Nat) (c:M→Int) (h:bO w b n c):Calls Tryz.prog 103 #[.map (some b),.func (.func 110) #[] #[]] w fun r w'=>∃G:T,r= .returned (.agg #[.int .i64 G.c,.int .i64 G.m.x,.int .i64 G.m.y,.int .i64 G.m.d,.int .i64 G.m.e])∧Below w.heap.size w w'∧∃ss,IW uY c ss G∧∀m:M,m.ok=true→(m∈ss↔c m≠0):=by
 obtain⟨D,hown,hc,hat,hks⟩:=h;have hblt:=hown.lt
 have HKS:=aA hks;have HAT:=aA hat
 have HC:=aA hc;have HO2:=aA ((hown.alloc (.cells #[.int .i64 0,.int .i64 0,.int .i64 0,.int .i64 0,.int .i64 0] 54)).alloc (.cells #[.int .i64 0,.int .i64 0,.int .i64 0,.int .i64 0,.int .i64 0] 54))
 have HB0:=aA (aQ w (.cells #[.int .i64 0,.int .i64 0,.int .i64 0,.int .i64 0,.int .i64 0] 54) (.cells #[.int .i64 0,.int .i64 0,.int .i64 0,.int .i64 0,.int .i64 0] 54));have HZ0:=aA ((bR.box w 54 bF).below (aC _ (.cells #[.int .i64 0,.int .i64 0,.int .i64 0,.int .i64 0,.int .i64 0] 54)))
 have HG0:=aA (bR.box (w.alloc (.cells #[.int .i64 0,.int .i64 0,.int .i64 0,.int .i64 0,.int .i64 0] 54)) 54 bF);clear hks hat hown hc;go_enter Tryz.func103,Tryz.ntmps103
 go_wp2_with (first
  |(at_range;refine wpList_range_own _ rfl _ 123 rfl 52 121 kL Tryz.underlying123 _ b n D rfl HO2.out ?_;intro w0 hrg0 hg0 hs0)
  |go_in)
 have hs2:((w.alloc (.cells #[.int .i64 0,.int .i64 0,.int .i64 0,.int .i64 0,.int .i64 0] 54)).alloc (.cells #[.int .i64 0,.int .i64 0,.int .i64 0,.int .i64 0,.int .i64 0] 54)).heap.size=w.heap.size+2:=by simp
 have HB1:=aA (kS HB0.out hg0 (by simp));have HZ1:=aA (HZ0.out.grown hg0 (by simp))
 have HG1:=aA (HG0.out.grown hg0 (by simp));have HRG:=aA hrg0
 rw[hs2]at HRG;simp only[World.size_alloc]at HG1;clear HB0 HZ0 HG0 HO2 hrg0 hg0 hs0
 go_frame
 rw[hs2]
 go_loopw [6] (fun _ wr=>∃(left:Lit→Bool) (xL:Nat) (ss:List M) (G:T),wr.ranges Tryz.prog 52 (plainElem Tryz.prog 121) b (w.heap.size+2) n D left xL∧lC D left ss∧Below w.heap.size w wr∧bR wr w.heap.size bF∧bR wr (w.heap.size+1) G∧IW uY c ss G)
  (fun _ wr=>wr.rangeLeft b (w.heap.size+2))
 case atStart=>exact⟨_,_,[],bF,HRG.out,lC.start D,HB1.out,HZ1.out,HG1.out,.inl ⟨rfl,rfl⟩⟩
 case round=>
  obtain⟨left,xL,ss,G,hrg,hC,hB,hZ,hG,hM⟩:=hrel;have HCO:=aA hC
  have HB:=aA hB;have HZ:=aA hZ
  have HGG:=aA hG;have HM:=aA hM
  have HRR:=aA hrg;have hGl:w.heap.size+1<wr.heap.size:=hG.1.lt
  clear hC hB hZ hG hM
  go_wp2_with (first
   |(at_next;refine wpList_next_ranges _ rfl _ rfl 52 kL (plainElem Tryz.prog 121) (id:Value→Value) (Value.int .i64) (fun key kl hk=>⟨key,rfl⟩) (fun v y hv=>by obtain⟨c,rfl,_⟩:=plainElem_int_inv Tryz.underlying121 hv;exact⟨c,rfl⟩) b (w.heap.size+2) n _ _ _ rfl HRR.out ?_ ?_)
   |go_in)
  ·intro hc0 hl0;obtain⟨⟨z0,z1,z2,z3,z4⟩,fz⟩:=HZ.out;obtain⟨⟨l0,l1,l2,l3,l4⟩,_⟩:=HGG.out;simp only[bF]at z0 z1 z2 z3 z4;have HAL:=aA (HCO.out.all hl0 HAT.out)
   clear hl0 hrg HZ HGG;go_wp2;refine cW (v:=.agg #[.int .i64 G.c,.int .i64 G.m.x,.int .i64 G.m.y,.int .i64 G.m.d,.int .i64 G.m.e]) (by simp[results,Tryz.results103,go_sem, *]) rfl ⟨G,rfl,?_,ss,HM.out,HAL.out⟩;exact bY HB.out (Nat.le_refl _) _ _ _ _ _
  ·intro x cv kl yd yp w2 cnt2 hkey hlk hv hatx hrg2 hlt hg2 hsz2 hen;obtain⟨m,hmo,rfl⟩:=HKS.out kl (has_true_of_atKey hatx);obtain rfl:x=OX m:=kL.inj hkey (mM hmo);obtain rfl:cv=c m:=by
    obtain⟨c',e,e2,_⟩:=plainElem_int_inv Tryz.underlying121 hv;cases e;cases e2;have h1:=(HAT.out m hmo).1
    rw[hatx]at h1;simpa using h1
   have hcm:1≤c m:=by
    have h1:=(HAT.out m hmo).2.1 (has_true_of_atKey hatx);have h2:=(HC.out m).1
    omega
   have hcm2:=(HC.out m).2;have HRG2:=aA (hrg2.alloc (.cells #[.int .i64 m.x,.int .i64 m.y,.int .i64 m.d,.int .i64 m.e] 52))
   have HLT:=aA (show cnt2<wr.rangeLeft b (w.heap.size+2) by rw[hrg.left_eq];exact hlt);have HCO2:=aA (HCO.out.step hmo hlk hatx)
   have hB2:=kS HB.out hg2 (fun k e=>by cases e;omega);have HB2:=aA (hB2.alloc hB2.size (.cells #[.int .i64 m.x,.int .i64 m.y,.int .i64 m.d,.int .i64 m.e] 52))
   have HZ2:=aA ((HZ.out.grown hg2 (by simp)).below (aC w2 (.cells #[.int .i64 m.x,.int .i64 m.y,.int .i64 m.d,.int .i64 m.e] 52)));have HG2:=aA ((HGG.out.grown hg2 (by simp)).below (aC w2 (.cells #[.int .i64 m.x,.int .i64 m.y,.int .i64 m.d,.int .i64 m.e] 52)))
   have HM2:=aA (M4.box w2 52 m.x m.y m.d m.e);have hsw:w.heap.size+1<w2.heap.size:=by rw[hsz2];exact hGl
   have hrw:w.heap.size+2<w2.heap.size:=hrg2.lt;have hbw:b<w2.heap.size:=hrg2.owns.lt
   clear hlk hatx hrg hrg2 hlt hg2 hsz2 hkey hv hB2 HRR HB HZ HGG HCO hGl;go_wp2_with fail;generalize(w2.alloc (.cells #[.int .i64 m.x,.int .i64 m.y,.int .i64 m.d,.int .i64 m.e] 52))=wq at HRG2 HB2 HZ2 HG2 HM2⊢;have ne:=cH.there wq
   have s0:∀u:cH wq,u.1.cell? ⟨w2.heap.size,0,none⟩=some (.int .i64 m.x):=fun u=>(u.cell HM2.out.lt).trans HM2.out.1;have s1:∀u:cH wq,u.1.cell? ⟨w2.heap.size,1,none⟩=some (.int .i64 m.y):=fun u=>(u.cell HM2.out.lt).trans HM2.out.2.1
   have s2:∀u:cH wq,u.1.cell? ⟨w2.heap.size,2,none⟩=some (.int .i64 m.d):=fun u=>(u.cell HM2.out.lt).trans HM2.out.2.2.1;have s3:∀u:cH wq,u.1.cell? ⟨w2.heap.size,3,none⟩=some (.int .i64 m.e):=fun u=>(u.cell HM2.out.lt).trans HM2.out.2.2.2
   have t0:∀u:cH wq,u.1.cell? ⟨w.heap.size+1,0,none⟩=some (.int .i64 G.c):=fun u=>(u.cell HG2.out.1.lt).trans HG2.out.1.1;have t1:∀u:cH wq,u.1.cell? ⟨w.heap.size+1,1,none⟩=some (.int .i64 G.m.x):=fun u=>(u.cell HG2.out.1.lt).trans HG2.out.1.2.1
   have t2:∀u:cH wq,u.1.cell? ⟨w.heap.size+1,2,none⟩=some (.int .i64 G.m.y):=fun u=>(u.cell HG2.out.1.lt).trans HG2.out.1.2.2.1;have t3:∀u:cH wq,u.1.cell? ⟨w.heap.size+1,3,none⟩=some (.int .i64 G.m.d):=fun u=>(u.cell HG2.out.1.lt).trans HG2.out.1.2.2.2.1
   have t4:∀u:cH wq,u.1.cell? ⟨w.heap.size+1,4,none⟩=some (.int .i64 G.m.e):=fun u=>(u.cell HG2.out.1.lt).trans HG2.out.1.2.2.2.2;by_cases hG0:G.c=0
   ·have hgz:((G.c:Int)==0)=true:=by simpa using hG0
    have HMT:=aA (HM.out.put hmo hcm (.inl hG0));clear HM hG0;refine aH (by kernel_rfl) (by kernel_rfl) ?_;repeat(go_big_quiet_step (fail))
    refine wpQuiet_nil ?_;rintro _ ⟨v,rfl⟩;have HBV:=aA (HB2.out.trans (v.2.mono HB2.out.size))
    have HZV:=aA (HZ2.out.below v.2);have HGV:=aA (HG2.out.below v.2)
    have HMV:=aA (HM2.out.below v.2);have HRV:=aA (HRG2.out.kept (cU v.2 none) (by simp) (by simp))
    obtain⟨u,hu⟩:∃u,v.1=u:=⟨_,rfl⟩
    rw[hu]at HBV HZV HGV HMV HRV⊢;clear hu s0 s1 s2 s3 t0 t1 t2 t3 t4 ne v;obtain⟨q0,q1,q2,q3⟩:=HMV.out;obtain⟨⟨l0,l1,l2,l3,l4⟩,lz⟩:=HGV.out;have HRW:=aA (HRV.out.kept (mY u (w.heap.size+1) (.int .i64 (c m)) (.int .i64 m.x) (.int .i64 m.y) (.int .i64 m.d) (.int .i64 m.e)) (by simp;omega) (by simp))
    clear HRV;go_wp2;go_roundw
    case rel=>
     refine⟨_,cnt2,ss++[m],⟨c m,m⟩,HRW.out,HCO2.out,bY HBV.out (by omega) _ _ _ _ _,HZV.out.far (by omega),⟨⟨by go_simp,by go_simp,by go_simp,by go_simp,by go_simp⟩,fun j=>by go_simp⟩,HMT.out⟩
    case measure=>rw[HRW.out.left_eq];exact HLT.out
   ·have hgz:((G.c:Int)==0)=false:=by simpa using hG0
    obtain⟨hg1,hgo⟩:1≤G.c∧G.m.ok=true:=by
     rcases HM.out with⟨_,e⟩|⟨e1,e2,_⟩
     ·rw[e]at hG0;exact absurd rfl hG0
     ·exact⟨e1,e2⟩
    by_cases hq:uY G.m<uY m
    ·have dq:decide (uY ⟨G.m.x,G.m.y,G.m.d,G.m.e⟩<uY ⟨m.x,m.y,m.d,m.e⟩)=true:=decide_eq_true hq;have HMT:=aA (HM.out.put hmo hcm (.inr hq))
     clear HM hG0 hq;refine aH (by kernel_rfl) (by kernel_rfl) ?_;repeat(go_big_quiet_step (first|(go_at_call 110;exact aJ (jV _ _ _ _ _ hmo))|(go_at_call 110;exact aJ (jV _ _ _ _ _ hgo))))
     refine wpQuiet_nil ?_;rintro _ ⟨v,rfl⟩;have HBV:=aA (HB2.out.trans (v.2.mono HB2.out.size))
     have HZV:=aA (HZ2.out.below v.2);have HGV:=aA (HG2.out.below v.2)
     have HMV:=aA (HM2.out.below v.2);have HRV:=aA (HRG2.out.kept (cU v.2 none) (by simp) (by simp))
     obtain⟨u,hu⟩:∃u,v.1=u:=⟨_,rfl⟩
     rw[hu]at HBV HZV HGV HMV HRV⊢;clear hu s0 s1 s2 s3 t0 t1 t2 t3 t4 ne v;obtain⟨q0,q1,q2,q3⟩:=HMV.out;obtain⟨⟨l0,l1,l2,l3,l4⟩,lz⟩:=HGV.out;have HRW:=aA (HRV.out.kept (mY u (w.heap.size+1) (.int .i64 (c m)) (.int .i64 m.x) (.int .i64 m.y) (.int .i64 m.d) (.int .i64 m.e)) (by simp;omega) (by simp))
     clear HRV;go_wp2;go_roundw
     case rel=>
      refine⟨_,cnt2,ss++[m],⟨c m,m⟩,HRW.out,HCO2.out,bY HBV.out (by omega) _ _ _ _ _,HZV.out.far (by omega),⟨⟨by go_simp,by go_simp,by go_simp,by go_simp,by go_simp⟩,fun j=>by go_simp⟩,HMT.out⟩
     case measure=>rw[HRW.out.left_eq];exact HLT.out
    ·have dq:decide (uY ⟨G.m.x,G.m.y,G.m.d,G.m.e⟩<uY ⟨m.x,m.y,m.d,m.e⟩)=false:=decide_eq_false hq;have HMT:=aA (HM.out.keep hg1 hq)
     clear HM hG0 hq;refine aH (by kernel_rfl) (by kernel_rfl) ?_;repeat(go_big_quiet_step (first|(go_at_call 110;exact aJ (jV _ _ _ _ _ hmo))|(go_at_call 110;exact aJ (jV _ _ _ _ _ hgo))))
     refine wpQuiet_nil ?_;rintro _ ⟨v,rfl⟩;have HBV:=aA (HB2.out.trans (v.2.mono HB2.out.size))
     have HZV:=aA (HZ2.out.below v.2);have HGV:=aA (HG2.out.below v.2)
     have HRV:=aA (HRG2.out.kept (cU v.2 none) (by simp) (by simp));obtain⟨u,hu⟩:∃u,v.1=u:=⟨_,rfl⟩
     rw[hu]at HBV HZV HGV HRV⊢;clear hu s0 s1 s2 s3 t0 t1 t2 t3 t4 ne v;go_wp2;go_roundw;case rel=>exact⟨_,cnt2,ss++[m],G,HRV.out,HCO2.out,HBV.out,HZV.out,HGV.out,HMT.out⟩
     case measure=>rw[HRV.out.left_eq];exact HLT.out
def Ds (o:Int):Nat:=if o=1 then 88 else if o=3 then 110 else 109
theorem Hh:jO 1=eQ:=by funext m;rfl
theorem Hi:jO 2=gE:=by funext m;rfl
theorem Hj:jO 3=uY:=by funext m;rfl
theorem PG (o:Int) (ho:1≤o∧o≤3) (w:World) (b n:Nat) (p:List T) (h:bO w b n (aM p)) (hp:cM p=true) (h0:p.length≠0) (t:T) (ht:dH o p=t):Calls Tryz.prog 103 #[.map (some b),.func (.func (Ds o)) #[] #[]] w fun r w'=>r= .returned (.agg #[.int .i64 t.c,.int .i64 t.m.x,.int .i64 t.m.y,.int .i64 t.m.d,.int .i64 t.m.e])∧Below w.heap.size w w':=by
 have ho3:o=1∨o=2∨o=3:=by omega
 rcases ho3 with rfl|rfl|rfl
 ·refine(PD w b n (aM p) h).mono ?_;rintro r w' ⟨G,rfl,hb,ss,hm,hs⟩;rw[←Hh]at hm;have:=hm.all ho hp h0 hs
  rw[ht]at this;subst this;exact⟨rfl,hb⟩
 ·refine(PE w b n (aM p) h).mono ?_;rintro r w' ⟨G,rfl,hb,ss,hm,hs⟩;rw[←Hi]at hm;have:=hm.all ho hp h0 hs
  rw[ht]at this;subst this;exact⟨rfl,hb⟩
 ·refine(PF w b n (aM p) h).mono ?_;rintro r w' ⟨G,rfl,hb,ss,hm,hs⟩;rw[←Hj]at hm;have:=hm.all ho hp h0 hs
  rw[ht]at this;subst this;exact⟨rfl,hb⟩
theorem UH (o:Int) (w:World) (h1:1≤o) (h2:o≤3):Calls Tryz.prog 71 #[.int .i64 o] w fun r w'=>r= .returned (.tuple #[.func (.func (Ds o)) #[] #[],.bool true])∧Below w.heap.size w w':=by
 have ho3:o=1∨o=2∨o=3:=by omega
 rcases ho3 with rfl|rfl|rfl
 ·exact pU w
 ·exact pV w
 ·exact pW w
end Go.Proofs.YtmlaedpamobmhaaGreat
