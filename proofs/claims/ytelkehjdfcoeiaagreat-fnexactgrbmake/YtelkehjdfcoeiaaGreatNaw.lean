/-
  A division on its way, as lists: what a step does, and what stays true.
-/
import Derived.Test.YtelkehjdfcoeiaaGreatNav
namespace Go.Proofs.YtelkehjdfcoeiaaGreat
open Go.RowKit Go.Deep Go.Joins
set_option linter.unusedVariables false
structure Dv where
 p:List T
 q:Nat→List T
 r:List T
def dD (o:Int) (L:List T):T:=lf L (aT o (lf L) L.length)
def vA (o:Int) (n:Nat) (ln:Nat→Nat) (f:Nat→Nat→T) (m:M):Int:=mP (fun t=>M.dvd t.m m) (kS o ln f) n
def kN (q:Nat→List T) (k:Nat) (L:List T) (i:Nat):List T:=if i=k then L else q i
def KV (o:Int) (ln:Nat→Nat) (f:Nat→Nat→T) (S:Dv) (k:Nat):T:=eK (dD o S.p) (kS o ln f k)
def gH (o:Int) (ln:Nat→Nat) (f:Nat→Nat→T) (S:Dv) (k:Nat):Option Dv:=
 match bN (lf [KV o ln f S k]) (f k) (ln k) 1 with
 |none=>none
 |some Y=>if(bY S.p Y).length≤400 then some ⟨bY S.p Y,kN S.q k (cG (S.q k) [KV o ln f S k]),S.r⟩else none
def gO (o:Int) (S:Dv):Dv:=⟨bY S.p [dD o S.p],S.q,cG S.r [dD o S.p]⟩
def cU (o:Int) (n:Nat) (ln:Nat→Nat) (f:Nat→Nat→T) (S:Dv):Option Dv:=
 if 0≤vA o n ln f (dD o S.p).m then gH o ln f S (vA o n ln f (dD o S.p).m).toNat else some (gO o S)
def eE (o:Int) (n:Nat) (ln:Nat→Nat) (f:Nat→Nat→T):Nat→Dv→Option Dv
 |0,S=>if S.p.length=0 then some S else none
 |u+1,S=>if S.p.length=0 then some S else match cU o n ln f S with
  |none=>none
  |some S'=>eE o n ln f u S'
def kP (p:List T):Dv:=⟨p,fun _=>[],[]⟩
def dA (o:Int) (p:List T) (n:Nat) (ln:Nat→Nat) (f:Nat→Nat→T):Option Dv:=
 if(1≤o∧o≤3)∧cJ p=true∧aW n ln f=true then eE o n ln f 300 (kP p)else none
structure iS (u:Nat) (S:Dv):Prop where
 p:cJ S.p=true
 q:∀k,aH (S.q k)∧(S.q k).length≤u
 r:aH S.r∧S.r.length≤u
theorem iS.start {p:List T} (h:cJ p=true):iS 0 (kP p):=⟨h,fun _=>⟨dL,Nat.le_refl _⟩,dL,Nat.le_refl _⟩
theorem mK {o:Int} {n:Nat} {ln:Nat→Nat} {f:Nat→Nat→T} {u:Nat} {S:Dv} (h:S.p.length=0):eE o n ln f u S=some S:=by cases u<;>exact if_pos h
theorem xR {o:Int} {n:Nat} {ln:Nat→Nat} {f:Nat→Nat→T} {S:Dv} (h:S.p.length≠0):eE o n ln f 0 S=none:=if_neg h
theorem qS {o:Int} {n:Nat} {ln:Nat→Nat} {f:Nat→Nat→T} {u:Nat} {S:Dv} (h:S.p.length≠0) (hs:cU o n ln f S=none):eE o n ln f (u+1) S=none:=by show(if S.p.length=0 then some S else match cU o n ln f S with|none=>none|some S'=>eE o n ln f u S')=none;rw[if_neg h,hs]
theorem kE {o:Int} {n:Nat} {ln:Nat→Nat} {f:Nat→Nat→T} {u:Nat} {S S':Dv} (h:S.p.length≠0) (hs:cU o n ln f S=some S'):eE o n ln f (u+1) S=eE o n ln f u S':=by show(if S.p.length=0 then some S else match cU o n ln f S with|none=>none|some S'=>eE o n ln f u S')=_;rw[if_neg h,hs]
theorem jL {o:Int} {L:List T} (h:L.length≠0):dD o L∈L:=lK (sR (by omega))
theorem iV {o:Int} {L:List T} (hL:aH L) (h:L.length≠0):(dD o L).m.ok=true∧1≤(dD o L).c∧(dD o L).c≤100:=hL.2 _ (jL h)
theorem sP {o:Int} {L:List T} (ho:1≤o∧o≤3) (hL:cJ L=true) (h:L.length≠0):dD o L=pS o L:=by have:aY o L.length (lf L)=true:=iB.2 ⟨ho,hL,fun e=>h (by rw[e];rfl)⟩;unfold pS;rw[eI this];rfl
theorem zT {o:Int} {L:List T} (ho:1≤o∧o≤3) (hL:cJ L=true) (h:L.length≠0):∀t∈L,iR o t.m≤iR o (dD o L).m:=by have:xG o L=true:=iB.2 ⟨ho,hL,fun e=>h (by rw[e];rfl)⟩;rw[sP ho hL h];exact(sQ this).2
theorem sO {o:Int} {n:Nat} {ln:Nat→Nat} {f:Nat→Nat→T} (hl:aW n ln f=true) {k:Nat} (hk:k<n):(kS o ln f k).m.ok=true∧1≤(kS o ln f k).c∧(kS o ln f k).c≤100:=by obtain⟨h0,h1⟩:=(aU hl).2 k hk;exact(dR h1).2 _ (sR (by omega))
theorem FY {a b:Int} (h1:1≤a) (h2:a≤100) (h3:1≤b) (h4:b≤100):1≤a*b%101∧a*b%101≤100:=by
 have h0:a*b%101≠0:=fun e=>by
  obtain⟨x,hx⟩:∃x:Nat,a=x:=⟨a.toNat,by omega⟩
  obtain⟨y,hy⟩:∃y:Nat,b=y:=⟨b.toNat,by omega⟩
  subst hx hy;have:=yN ⟨x,by omega⟩ ⟨y,by omega⟩ (by simp only;exact_mod_cast e)
  simp at this;omega
 omega
theorem pZ {t l:T} (ht:t.m.ok=true∧1≤t.c∧t.c≤100) (hl:l.m.ok=true∧1≤l.c∧l.c≤100) (hd:l.m.dvd t.m=true):(eK t l).m.ok=true∧1≤(eK t l).c∧(eK t l).c≤100:=by
 have h1:=tH (b:=t.m) hl hd;have h2:=FY ht.2.1 ht.2.2 (CJ hl.2.1 hl.2.2) (qX l.c).2
 exact⟨h1.1,h2.1,h2.2⟩
theorem jT {o:Int} {n:Nat} {ln:Nat→Nat} {f:Nat→Nat→T} {m:M} (h:0≤vA o n ln f m):(vA o n ln f m).toNat<n∧M.dvd (kS o ln f (vA o n ln f m).toNat).m m=true:=by
 unfold vA at h⊢;obtain⟨i,hi,hp⟩:=zO.1 h;obtain⟨j,hj,h1,h2⟩:∃j,j<n∧(∀i,i<j→(fun t:T=>M.dvd t.m m) (kS o ln f i)=false)∧(fun t:T=>M.dvd t.m m) (kS o ln f j)=true:=by
  clear h
  revert i
  induction n with
  |zero=>intro i hi;omega
  |succ n ih=>
   intro i hi hp;by_cases hx:∃i,i<n∧(fun t:T=>M.dvd t.m m) (kS o ln f i)=true
   ·obtain⟨i',h1,h2⟩:=hx;obtain⟨j,hj,h3,h4⟩:=ih i' h1 h2;exact⟨j,by omega,h3,h4⟩
   ·have hin:i=n:=by
     rcases Nat.lt_or_ge i n with h|h
     ·exact absurd ⟨i,h,hp⟩ hx
     ·omega
    subst hin;refine⟨i,hi,fun k hk=>?_,hp⟩;cases hb:(fun t:T=>M.dvd t.m m) (kS o ln f k)with
    |false=>rfl
    |true=>exact absurd ⟨k,hk,hb⟩ hx
 rw[uK h1 h2 n hj];exact⟨by simpa using hj,by simpa using h2⟩
theorem fH {t:T} (h:t.m.ok=true∧1≤t.c∧t.c≤100):aH [t]:=(aD (gB h)).2
theorem CE {o:Int} {n:Nat} {ln:Nat→Nat} {f:Nat→Nat→T} (hl:aW n ln f=true) {S:Dv} (hp:cJ S.p=true) (h:S.p.length≠0) (hk:0≤vA o n ln f (dD o S.p).m):(KV o ln f S (vA o n ln f (dD o S.p).m).toNat).m.ok=true∧1≤(KV o ln f S (vA o n ln f (dD o S.p).m).toNat).c∧(KV o ln f S (vA o n ln f (dD o S.p).m).toNat).c≤100:=
 pZ (iV (aD hp).2 h) (sO hl (jT hk).1) (jT hk).2
theorem vT {t:T} (ht:t.m.ok=true∧1≤t.c∧t.c≤100) {g:Nat→T} {m:Nat} (hg:aK m g=true) {Y:List T} (h:bN (lf [t]) g m 1=some Y):cJ Y=true:=
 fO (eJ _ Y h) (cE (bL (show aK 1 (lf [t])=true from gB ht)).2 (bL hg).2 _ Y (Nat.le_refl _) h)
theorem iS.take {o:Int} {n:Nat} {ln:Nat→Nat} {f:Nat→Nat→T} (hl:aW n ln f=true) {u:Nat} {S S':Dv} (h:iS u S) (h0:S.p.length≠0) (hk:0≤vA o n ln f (dD o S.p).m) (hs:gH o ln f S (vA o n ln f (dD o S.p).m).toNat=some S'):iS (u+1) S':=by
 have hg:=CE hl h.p h0 hk;have hkn:=(jT hk).1
 generalize(vA o n ln f (dD o S.p).m).toNat=k at hs hg hkn;unfold gH at hs;split at hs
 ·cases hs
 ·rename_i Y hY;split at hs
  ·rename_i hle;cases hs;have fY:=vT hg ((aU hl).2 k hkn).2 hY
   refine⟨fO hle (cB (aD h.p).2 (aD fY).2).1,fun i=>?_,h.r.1,Nat.le_succ_of_le h.r.2⟩;show aH (kN S.q k _ i)∧(kN S.q k _ i).length≤u+1
   unfold kN;split
   ·refine⟨(cM (h.q k).1 (fH hg)).1,?_⟩;have h1:=nN (S.q k) [KV o ln f S k]
    have h2:=(h.q k).2;simp only[List.length_singleton]at h1;omega
   ·exact⟨(h.q i).1,Nat.le_succ_of_le (h.q i).2⟩
  ·cases hs
theorem iS.leave {o:Int} {u:Nat} {S:Dv} (h:iS u S) (h0:S.p.length≠0) (hle:(bY S.p [dD o S.p]).length≤400):iS (u+1) (gO o S):=by
 have hg:=iV (o:=o) (aD h.p).2 h0;refine⟨fO hle (cB (aD h.p).2 (fH hg)).1,fun i=>⟨(h.q i).1,Nat.le_succ_of_le (h.q i).2⟩,(cM h.r.1 (fH hg)).1,?_⟩;have h1:=nN S.r [dD o S.p]
 have h2:=h.r.2;simp only[List.length_singleton]at h1;show(cG S.r [dD o S.p]).length≤u+1
 omega
theorem iM {L:List T} (h:aH L) {t:T} (ht:t∈L):aI L t.m=t.c∧aI L t.m≠0:=by
 have h1:aI L t.m=t.c:=by
  induction L with
  |nil=>cases ht
  |cons s r ih=>
   rw[aI];rcases List.mem_cons.1 ht with rfl|ht'
   ·rw[if_pos (bM.2 rfl)]
   ·have h1:=h.head t ht';rw[if_neg (fun e=>by rw[bM.1 e]at h1;omega)];exact ih h.tail ht'
 have h2:=h.2 t ht;exact⟨h1,by omega⟩
theorem uA {L:List T} (hL:aH L) {t:T} (ht:t∈L):(bY L [t]).length<L.length:=by
 have ht':=hL.2 t ht;have hf:=cB hL (fH ht')
 have hm:=iM hL ht;have key:bY L [t]=L.filter (fun s=> !fZ s.m t.m):=by
  refine jU hf.1 ⟨hL.1.filter _,fun s hs=>hL.2 s (List.mem_filter.1 hs).1⟩ (fun m hmo=>?_);rw[hf.2 m];by_cases e:t.m=m
  ·subst e;have h1:aI [t] t.m=t.c:=bG _ _
   rw[h1,hm.1];have h2:aI (L.filter (fun s=> !fZ s.m t.m)) t.m=0:=by
    by_cases hz:aI (L.filter (fun s=> !fZ s.m t.m)) t.m=0
    ·exact hz
    ·obtain⟨s,hs,he⟩:=List.mem_map.1 (iU hz);have:=(List.mem_filter.1 hs).2
     rw[bM.2 he]at this;cases this
   rw[h2];omega
  ·have h1:aI [t] m=0:=by rw[gE e];rfl
   have hb:=bD hL m;rw[h1];have h2:aI (L.filter (fun s=> !fZ s.m t.m)) m=aI L m:=by
    by_cases hz:aI L m=0
    ·rw[hz];by_cases hz2:aI (L.filter (fun s=> !fZ s.m t.m)) m=0
     ·exact hz2
     ·obtain⟨s,hs,he⟩:=List.mem_map.1 (iU hz2);have h3:=(iM hL (List.mem_filter.1 hs).1).2
      rw[show s.m=m from he]at h3;exact absurd hz h3
    ·obtain⟨s,hs,he⟩:=List.mem_map.1 (iU hz);have he:s.m=m:=he
     subst he;have h4:s∈L.filter (fun s=> !fZ s.m t.m):=List.mem_filter.2 ⟨hs,by rw[UR.2 (fun e'=>e e'.symm)];rfl⟩
     rw[(iM hL hs).1,(iM (L:=L.filter (fun s=> !fZ s.m t.m)) ⟨hL.1.filter _,fun s hs=>hL.2 s (List.mem_filter.1 hs).1⟩ h4).1]
   rw[h2];omega
 rw[key];refine List.length_filter_lt_length_iff_exists.2 ⟨t,ht,?_⟩;rw[bM.2 rfl];decide
theorem lT {o:Int} {n:Nat} {ln:Nat→Nat} {f:Nat→Nat→T} (hl:aW n ln f=true) {u:Nat} {S S':Dv} (h:iS u S) (h0:S.p.length≠0) (hs:cU o n ln f S=some S'):iS (u+1) S':=by
 unfold cU at hs;split at hs
 ·exact h.take hl h0 (by assumption) hs
 ·cases hs;have:=uA (aD h.p).2 (jL (o:=o) h0)
  have h4:=(aD h.p).1;exact h.leave h0 (by omega)
theorem CD {o:Int} {n:Nat} {ln:Nat→Nat} {f:Nat→Nat→T} (hl:aW n ln f=true):∀{v u:Nat} {S S':Dv},iS u S→eE o n ln f v S=some S'→iS (u+v) S'∧S'.p=[]
 |0,u,S,S',h,hr=>by
  unfold eE at hr;split at hr
  ·rename_i h0;cases hr;exact⟨h,List.length_eq_zero_iff.1 h0⟩
  ·cases hr
 |v+1,u,S,S',h,hr=>by
  by_cases h0:S.p.length=0
  ·rw[mK h0]at hr;cases hr;exact⟨⟨h.p,fun k=>⟨(h.q k).1,by have:=(h.q k).2;omega⟩,h.r.1,by have:=h.r.2;omega⟩,List.length_eq_zero_iff.1 h0⟩
  ·cases hs:cU o n ln f S with
   |none=>rw[qS h0 hs]at hr;cases hr
   |some S1=>
    rw[kE h0 hs]at hr;have:=CD hl (lT hl h h0 hs) hr
    rw[show u+(v+1)=u+1+v by omega];exact this
end Go.Proofs.YtelkehjdfcoeiaaGreat
