/-
  Operators without bounds: a choice of times and slopes in which every operator is told by what it does; the numbers of its monomials; products of monomials and what stands below them.
-/
import Derived.Test.YtdidlcjhodejjaaGreatMEaa
import Derived.Test.YtdidlcjhodejjaaGreatMas
set_option maxHeartbeats 8000000
set_option maxRecDepth 100000
namespace Go.Proofs.YtdidlcjhodejjaaGreat
open Go.RowKit
set_option linter.unusedVariables false
theorem Ep (u:Vq) (c k:Nat):∀j i,(Lq.pow rX j).f u (iC i c) k=u (iC (i+j) c) k
 |0,i=>rfl
 |j+1,i=>by
  rw[Lq.pow_succ'];show(Lq.pow rX j).f (rX.f u) (iC i c) k=_
  rw[Ep (rX.f u) c k j i];show u (iC (lJ (iC (i+j) c)+1) (rG (iC (i+j) c))) k=_
  rw[GK,IG];rfl
theorem Er (u:Vq) (n c:Nat):∀j i,(Lq.pow rY j).f u n (iC i c)=u n (iC (i+j) c)
 |0,i=>rfl
 |j+1,i=>by
  rw[Lq.pow_succ'];show(Lq.pow rY j).f (rY.f u) n (iC i c)=_
  rw[Er (rY.f u) n c j i];show u n (iC (lJ (iC (i+j) c)+1) (rG (iC (i+j) c)))=_
  rw[GK,IG];rfl
theorem En (u:Vq) (k:Nat):∀j i,(Lq.pow rD j).f u (iC 0 i) k=u (iC 0 (i+j)) k
 |0,i=>rfl
 |j+1,i=>by
  rw[Lq.pow_succ'];show(Lq.pow rD j).f (rD.f u) (iC 0 i) k=_
  rw[En (rD.f u) k j i];show u (iC (lJ (iC 0 (i+j))) (rG (iC 0 (i+j))+1)) k+nf (lJ (iC 0 (i+j)))*_=_
  rw[GK,IG,jX];show u (iC 0 (i+(j+1))) k+0*_=_
  grind
theorem Eo (u:Vq) (n:Nat):∀j i,(Lq.pow rE j).f u n (iC 0 i)=u n (iC 0 (i+j))
 |0,i=>rfl
 |j+1,i=>by
  rw[Lq.pow_succ'];show(Lq.pow rE j).f (rE.f u) n (iC 0 i)=_
  rw[Eo (rE.f u) n j i];show u n (iC (lJ (iC 0 (i+j))) (rG (iC 0 (i+j))+1))+nf (lJ (iC 0 (i+j)))*_=_
  rw[GK,IG,jX];show u n (iC 0 (i+(j+1)))+0*_=_
  grind
theorem Nw (m:M) (u:Vq):(mo aQ m).f u 0 0=u (iC m.x.toNat m.d.toNat) (iC m.y.toNat m.e.toNat):=by
 have e0:(0:Nat)=iC 0 0:=rfl;show(Lq.pow rE m.e.toNat).f ((Lq.pow rD m.d.toNat).f ((Lq.pow rY m.y.toNat).f ((Lq.pow rX m.x.toNat).f u))) 0 0=_
 rw[show(Lq.pow rE m.e.toNat).f ((Lq.pow rD m.d.toNat).f ((Lq.pow rY m.y.toNat).f ((Lq.pow rX m.x.toNat).f u))) 0 0=(Lq.pow rE m.e.toNat).f ((Lq.pow rD m.d.toNat).f ((Lq.pow rY m.y.toNat).f ((Lq.pow rX m.x.toNat).f u))) 0 (iC 0 0)from rfl,Eo];rw[show(Lq.pow rD m.d.toNat).f ((Lq.pow rY m.y.toNat).f ((Lq.pow rX m.x.toNat).f u)) 0 (iC 0 (0+m.e.toNat))=(Lq.pow rD m.d.toNat).f ((Lq.pow rY m.y.toNat).f ((Lq.pow rX m.x.toNat).f u)) (iC 0 0) (iC 0 (0+m.e.toNat))from rfl,En,Er,Ep];simp only[Nat.zero_add]
theorem qN {m:M} (h:m.ok=true):m.nn:=by obtain⟨x1,x2,y1,y2,d1,d2,e1,e2⟩:=M.ok_iff.1 h;exact⟨x1,y1,d1,e1⟩
theorem kR {a b:M} (ha:a.nn) (hb:b.nn):(a.sum b).nn:=by obtain⟨a1,a2,a3,a4⟩:=ha;obtain⟨b1,b2,b3,b4⟩:=hb;exact⟨Int.add_nonneg a1 b1,Int.add_nonneg a2 b2,Int.add_nonneg a3 b3,Int.add_nonneg a4 b4⟩
def Ta (m:M):Vq:=fun n k=>if n=iC m.x.toNat m.d.toNat∧k=iC m.y.toNat m.e.toNat then 1 else 0
def zH (A:Lq) (m:M):Fq:=A.f (Ta m) 0 0
theorem MD {a m:M} (ha:a.nn) (hm:m.nn):zH (mo aQ a) m=dl m a:=by
 unfold zH dl;rw[Nw];unfold Ta;by_cases e:a=m
 ·rw[if_pos (dF.2 e.symm),if_pos (by rw[e];exact⟨rfl,rfl⟩)]
 ·rw[if_neg (fun h=>e (dF.1 h).symm),if_neg];rintro⟨h1,h2⟩;have i1:=EO a.x.toNat a.d.toNat
  rw[h1,EO]at i1;have i2:=EO a.y.toNat a.e.toNat
  rw[h2,EO]at i2;simp only[Prod.mk.injEq]at i1 i2;obtain⟨a1,a2,a3,a4⟩:=ha;obtain⟨b1,b2,b3,b4⟩:=hm;refine e ?_;have j1:a.x=m.x:=by omega
  have j2:a.y=m.y:=by omega
  have j3:a.d=m.d:=by omega
  have j4:a.e=m.e:=by omega
  cases a;cases m;simp only at j1 j2 j3 j4;rw[j1,j2,j3,j4]
theorem yC (A B:Lq) (m:M):zH (Lq.sum A B) m=zH A m+zH B m:=rfl
theorem Ay (c:Fq) (A:Lq) (m:M):zH (Lq.sc c A) m=c*zH A m:=rfl
theorem QP (m:M):zH Lq.nil m=0:=rfl
def qU (o:Int) (a b:M):Prop:=kf o a<kf o b∨(kf o a=kf o b∧(a.d<b.d∨(a.d=b.d∧(a.e<b.e∨(a.e=b.e∧(a.x<b.x∨(a.x=b.x∧a.y<b.y)))))))
theorem Sc (a:M):kf 1 a=a.x+a.y+a.d+a.e:=if_pos rfl
theorem Sd (a:M):kf 2 a=0:=(if_neg (by decide)).trans (if_neg (by decide))
theorem Sh (a:M):kf 3 a=a.d+a.x:=(if_neg (by decide)).trans (if_pos rfl)
theorem Ro (a:M):fH 1 a=fF a:=if_pos rfl
theorem Rq (a:M):fH 2 a=iF a:=(if_neg (by decide)).trans (if_neg (by decide))
theorem Rr (a:M):fH 3 a=xT a:=(if_neg (by decide)).trans (if_pos rfl)
theorem JL (o:Int) (a b:M):kf o (a.sum b)=kf o a+kf o b:=by
 unfold kf M.sum;split
 ·simp only;omega
 ·split
  ·simp only;omega
  ·rfl
theorem pV {o:Int} {a b c:M} (h1:qU o a b) (h2:qU o b c):qU o a c:=by unfold qU at *;generalize kf o a=p at *;generalize kf o b=q at *;generalize kf o c=r at *;omega
theorem wM {o:Int} {a:M} (h:qU o a a):False:=by unfold qU at h;omega
theorem UD {o:Int} {a b:M} (c:M) (h:qU o a b):qU o (a.sum c) (b.sum c):=by unfold qU at *;rw[JL,JL];unfold M.sum;simp only;generalize kf o a=p at *;generalize kf o b=q at *;omega
theorem CM {o:Int} {a b:M} (c:M) (h:qU o a b):qU o (c.sum a) (c.sum b):=by unfold qU at *;rw[JL,JL];unfold M.sum;simp only;generalize kf o a=p at *;generalize kf o b=q at *;omega
theorem In {o:Int} (ho:1≤o∧o≤3) (a b:M) {i k:Int} (hi:0≤i) (hk:0≤k) (h:0<i+k):qU o ⟨a.x+b.x-i,a.y+b.y-k,a.d+b.d-i,a.e+b.e-k⟩ (a.sum b):=by
 have h3:o=1∨o=2∨o=3:=by omega
 unfold qU;rcases h3 with rfl|rfl|rfl
 ·rw[Sc,Sc];unfold M.sum;simp only;omega
 ·rw[Sd,Sd];unfold M.sum;simp only;by_cases hi0:i=0
  ·exact .inr ⟨trivial,.inr ⟨by omega,.inl (by omega)⟩⟩
  ·exact .inr ⟨trivial,.inl (by omega)⟩
 ·rw[Sh,Sh];unfold M.sum;simp only;by_cases hi0:i=0
  ·exact .inr ⟨by omega,.inr ⟨by omega,.inl (by omega)⟩⟩
  ·exact .inl (by omega)
theorem KO {o:Int} (ho:1≤o∧o≤3) {a b:M} (ha:a.ok=true) (hb:b.ok=true) (h:fH o a<fH o b):qU o a b:=by
 obtain⟨x1,x2,y1,y2,d1,d2,e1,e2⟩:=M.ok_iff.1 ha;obtain⟨x3,x4,y3,y4,d3,d4,e3,e4⟩:=M.ok_iff.1 hb;have h3:o=1∨o=2∨o=3:=by omega
 unfold qU;rcases h3 with rfl|rfl|rfl
 ·rw[Ro,Ro]at h;rw[Sc,Sc];unfold fF iF at h;omega
 ·rw[Rq,Rq]at h;rw[Sd,Sd];unfold iF at h;omega
 ·rw[Rr,Rr]at h;rw[Sh,Sh];unfold xT iF at h;omega
def Ja (a b:M) (i k:Nat):M:=⟨a.x+b.x-(i:Int),a.y+b.y-(k:Int),a.d+b.d-(i:Int),a.e+b.e-(k:Int)⟩
theorem De (a b:M):Ja a b 0 0=a.sum b:=by unfold Ja M.sum;simp
theorem Ji (g:xR) (a b:M) (ha:a.nn) (hb:b.nn):Lq.mul (mo g a) (mo g b)=Lq.sumN (fun i=>Lq.sumN (fun k=>Lq.sc (nf (wN a.d.toNat b.x.toNat i)*nf (wN a.e.toNat b.y.toNat k)) (mo g (Ja a b i k))) (min a.e.toNat b.y.toNat+1)) (min a.d.toNat b.x.toNat+1):=by
 obtain⟨ax0,ay0,ad0,ae0⟩:=ha;obtain⟨bx0,by0,bd0,be0⟩:=hb;have e1:Lq.mul (mo g a) (mo g b)=Lq.mul (Lq.mul (Lq.pow g.x a.x.toNat) (Lq.pow g.y a.y.toNat)) (Lq.mul (Lq.mul (Lq.pow g.d a.d.toNat) (Lq.pow g.x b.x.toNat)) (Lq.mul (Lq.mul (Lq.pow g.e a.e.toNat) (Lq.pow g.y b.y.toNat)) (Lq.mul (Lq.pow g.d b.d.toNat) (Lq.pow g.e b.e.toNat)))):=by
  have h:=g.xe.symm.pows a.e.toNat b.x.toNat
  calc _=Lq.mul (Lq.mul (Lq.pow g.x a.x.toNat) (Lq.pow g.y a.y.toNat)) (Lq.mul (Lq.pow g.d a.d.toNat) (Lq.mul (Lq.mul (Lq.pow g.e a.e.toNat) (Lq.pow g.x b.x.toNat)) (Lq.mul (Lq.pow g.y b.y.toNat) (Lq.mul (Lq.pow g.d b.d.toNat) (Lq.pow g.e b.e.toNat))))):=rfl
   _=Lq.mul (Lq.mul (Lq.pow g.x a.x.toNat) (Lq.pow g.y a.y.toNat)) (Lq.mul (Lq.pow g.d a.d.toNat) (Lq.mul (Lq.mul (Lq.pow g.x b.x.toNat) (Lq.pow g.e a.e.toNat)) (Lq.mul (Lq.pow g.y b.y.toNat) (Lq.mul (Lq.pow g.d b.d.toNat) (Lq.pow g.e b.e.toNat))))):=by rw[h]
   _=_:=rfl
 rw[e1,tN g.wx,tN g.wy,mC,Lq.mul_sumN];refine Lq.sumN_congr (fun i hi=>?_);rw[Lq.sc_mul,Lq.mul_sc,mC,Lq.mul_sumN,Lq.mul_sumN,lF];refine Lq.sumN_congr (fun k hk=>?_);rw[Lq.sc_mul,Lq.mul_sc,Lq.mul_sc,Lq.sc_sc,VM (g.xy.symm.pows _ _) (g.dy.pows _ _) (g.de.symm.pows _ _),←Lq.pow_add,←Lq.pow_add,←Lq.pow_add,←Lq.pow_add];unfold mo Ja;simp only;rw[show a.x.toNat+(b.x.toNat-i)=(a.x+b.x-(i:Int)).toNat by omega,show a.y.toNat+(b.y.toNat-k)=(a.y+b.y-(k:Int)).toNat by omega,show a.d.toNat-i+b.d.toNat=(a.d+b.d-(i:Int)).toNat by omega,show a.e.toNat-k+b.e.toNat=(a.e+b.e-(k:Int)).toNat by omega]
theorem WC (b c:Nat):wN b c 0=1:=by unfold wN;rw[BN];rfl
inductive Lw (g:xR) (o:Int) (μ:M):Lq→Prop
 |nil:Lw g o μ Lq.nil
 |cons {A:Lq} (c:Fq) (m:M):m.nn→qU o m μ→Lw g o μ A→Lw g o μ (Lq.sum (Lq.sc c (mo g m)) A)
theorem Lw.sum {g:xR} {o:Int} {μ:M} {A B:Lq} (h:Lw g o μ A) (h':Lw g o μ B):Lw g o μ (Lq.sum A B):=by
 induction h with
 |nil=>rw[Lq.sum_comm,Lq.sum_nil];exact h'
 |cons c m h1 h2 h3 ih=>rw[Lq.sum_assoc];exact Lw.cons c m h1 h2 ih
theorem Lw.one {g:xR} {o:Int} {μ:M} (c:Fq) {m:M} (h1:m.nn) (h2:qU o m μ):Lw g o μ (Lq.sc c (mo g m)):=by
 have:=Lw.cons (g:=g) c m h1 h2 Lw.nil
 rwa[Lq.sum_nil]at this
theorem Lw.sumN {g:xR} {o:Int} {μ:M} {f:Nat→Lq}:∀n,(∀i,i<n→Lw g o μ (f i))→Lw g o μ (Lq.sumN f n)
 |0,_=>Lw.nil
 |n+1,h=>by rw[Lq.sumN];exact(Lw.sumN n (fun i hi=>h i (by omega))).sum (h n (by omega))
theorem vA (g:xR) {o:Int} (ho:1≤o∧o≤3) {a b:M} (ha:a.nn) (hb:b.nn):∃A,Lw g o (a.sum b) A∧Lq.mul (mo g a) (mo g b)=Lq.sum (mo g (a.sum b)) A:=by
 have hnn:∀i k:Nat,i<min a.d.toNat b.x.toNat+1→k<min a.e.toNat b.y.toNat+1→(Ja a b i k).nn:=fun i k hi hk=>by obtain⟨ax0,ay0,ad0,ae0⟩:=ha;obtain⟨bx0,by0,bd0,be0⟩:=hb;refine⟨?_,?_,?_,?_⟩<;>(unfold Ja;simp only;omega)
 have hlt:∀i k:Nat,0<i+k→qU o (Ja a b i k) (a.sum b):=fun i k h=>In ho a b (by omega) (by omega) (by omega);rw[Ji g a b ha hb,Lq.sumN_head,Lq.sumN_head];refine⟨Lq.sum (Lq.sumN (fun i=>Lq.sc (nf (wN a.d.toNat b.x.toNat 0)*nf (wN a.e.toNat b.y.toNat (i+1))) (mo g (Ja a b 0 (i+1)))) (min a.e.toNat b.y.toNat)) (Lq.sumN (fun i=>Lq.sumN (fun k=>Lq.sc (nf (wN a.d.toNat b.x.toNat (i+1))*nf (wN a.e.toNat b.y.toNat k)) (mo g (Ja a b (i+1) k))) (min a.e.toNat b.y.toNat+1)) (min a.d.toNat b.x.toNat)),?_,?_⟩
 ·refine Lw.sum (Lw.sumN _ (fun i hi=>Lw.one _ (hnn _ _ (by omega) (by omega)) (hlt _ _ (by omega)))) (Lw.sumN _ (fun i hi=>Lw.sumN _ (fun k hk=>Lw.one _ (hnn _ _ (by omega) (by omega)) (hlt _ _ (by omega)))))
 ·rw[Lq.sum_assoc,WC,WC,qZ,De,show(1:Fq)*1=1 from rfl,Lq.sc_one]
theorem Lw.cf {o:Int} {μ m:M} {A:Lq} (h:Lw aQ o μ A) (hm:m.nn) (hl:¬qU o m μ):zH A m=0:=by
 induction h with
 |nil=>exact QP m
 |cons c a h1 h2 h3 ih=>
  rw[yC,Ay,ih,MD h1 hm];unfold dl;rw[if_neg]
  ·grind
  ·intro e;rw[dF.1 e]at hl;exact hl h2
variable (o:Int) (n:Nat) (L:Nat→List T)
structure vJ:Prop where
 ho:1≤o∧o≤3
 fl:∀j,j<n→cG (L j)=true∧(L j).length≠0
variable {o n L}
theorem vJ.mem (h:vJ o n L) {j:Nat} (hj:j<n):aV o (L j)∈L j:=gN (h.fl j hj).2
theorem vJ.falls (h:vJ o n L) {j:Nat} (hj:j<n):aK (L j):=(aD (h.fl j hj).1).2
theorem vJ.good (h:vJ o n L) {j:Nat} (hj:j<n):(aV o (L j)).m.ok=true∧1≤(aV o (L j)).c∧(aV o (L j)).c≤100:=(h.falls hj).2 _ (h.mem hj)
theorem vJ.nn (h:vJ o n L) {j:Nat} (hj:j<n):(fV o L j).nn:=qN (h.good hj).1
theorem vJ.top (h:vJ o n L) {j:Nat} (hj:j<n) {t:T} (ht:t∈L j) (hne:t.m≠fV o L j):qU o t.m (fV o L j):=by
 have h1:=sZ h.ho (h.fl j hj).1 (h.fl j hj).2 t ht;have h2:=((h.falls hj).2 t ht).1
 have h3:=(h.good hj).1;refine KO h.ho h2 h3 ?_;rcases Int.lt_or_eq_of_le h1 with h4|h4
 ·exact h4
 ·exact absurd (lW _ _ h2 h3 h4) hne
theorem BM (A:Lq) (m:M):∀K:List T,zH (Lq.mul A (Rp aQ K)) m=su K (fun t=>zz t.c*zH (Lq.mul A (mo aQ t.m)) m)
 |[]=>rfl
 |t::r=>by rw[su,←BM A m r];rfl
theorem vJ.cf_off (h:vJ o n L) {j:Nat} (hj:j<n) {m δ:M} (hm:m.nn) (hδ:δ.nn) (hl:qU o (m.sum (fV o L j)) δ):zH (Lq.mul (mo aQ m) (Rp aQ (L j))) δ=0:=by
 rw[BM];refine rJ _ _ (fun t ht=>?_);have h4:=qN ((h.falls hj).2 t ht).1
 obtain⟨A,h1,h2⟩:=vA aQ h.ho hm h4;have h3:qU o (m.sum t.m) δ:=by
  by_cases e:t.m=fV o L j
  ·rw[e];exact hl
  ·exact pV (CM m (h.top hj ht e)) hl
 rw[h2,yC,h1.cf hδ (fun q=>wM (pV q h3)),MD (kR hm h4) hδ];unfold dl;rw[if_neg]
 ·grind
 ·intro q;rw[dF.1 q]at h3;exact wM h3
inductive Lo (o:Int) (n:Nat) (L:Nat→List T) (δ:M):Lq→Prop
 |nil:Lo o n L δ Lq.nil
 |cons {A:Lq} (c:Fq) (m:M) (j:Nat):j<n→m.nn→qU o (m.sum (fV o L j)) δ→Lo o n L δ A→Lo o n L δ (Lq.sum (Lq.sc c (Lq.mul (mo aQ m) (Rp aQ (L j)))) A)
theorem Lo.sum {δ:M} {A B:Lq} (h:Lo o n L δ A) (h':Lo o n L δ B):Lo o n L δ (Lq.sum A B):=by
 induction h with
 |nil=>rw[Lq.sum_comm,Lq.sum_nil];exact h'
 |cons c m j h1 h2 h3 h4 ih=>rw[Lq.sum_assoc];exact Lo.cons c m j h1 h2 h3 ih
theorem Lo.sc {δ:M} {A:Lq} (d:Fq) (h:Lo o n L δ A):Lo o n L δ (Lq.sc d A):=by
 induction h with
 |nil=>
  rw[show Lq.sc d Lq.nil=Lq.nil from Lq.ext fun u n k=>by show d*(0:Fq)=0;grind];exact Lo.nil
 |cons c m j h1 h2 h3 h4 ih=>rw[Lq.sc_sum,Lq.sc_sc];exact Lo.cons _ m j h1 h2 h3 ih
theorem Lo.mono {δ δ':M} {A:Lq} (h:Lo o n L δ A) (hd:qU o δ δ'∨δ=δ'):Lo o n L δ' A:=by
 induction h with
 |nil=>exact Lo.nil
 |cons c m j h1 h2 h3 h4 ih=>
  refine Lo.cons c m j h1 h2 ?_ ih;rcases hd with hd|hd
  ·exact pV h3 hd
  ·rw[←hd];exact h3
theorem Lo.one {δ:M} (c:Fq) {m:M} {j:Nat} (h1:j<n) (h2:m.nn) (h3:qU o (m.sum (fV o L j)) δ):Lo o n L δ (Lq.sc c (Lq.mul (mo aQ m) (Rp aQ (L j)))):=by
 have:=Lo.cons c m j h1 h2 h3 (Lo.nil (o:=o) (n:=n) (L:=L) (δ:=δ))
 rwa[Lq.sum_nil]at this
theorem Lw.lo {μ δ:M} {A:Lq} {j:Nat} (hj:j<n) (h:Lw aQ o μ A) (hd:qU o (μ.sum (fV o L j)) δ∨μ.sum (fV o L j)=δ):Lo o n L δ (Lq.mul A (Rp aQ (L j))):=by
 induction h with
 |nil=>rw[Lq.nil_mul];exact Lo.nil
 |cons c m h1 h2 h3 ih=>
  rw[Lq.sum_mul,Lq.sc_mul];refine Lo.cons c m j hj h1 ?_ ih;rcases hd with hd|hd
  ·exact pV (UD _ h2) hd
  ·rw[←hd];exact UD _ h2
theorem Lo.mul (hL:vJ o n L) {δ s:M} {A:Lq} (hs:s.nn) (h:Lo o n L δ A):Lo o n L (s.sum δ) (Lq.mul (mo aQ s) A):=by
 induction h with
 |nil=>rw[Lq.mul_nil];exact Lo.nil
 |cons c m j h1 h2 h3 h4 ih=>
  rw[Lq.mul_sum,Lq.mul_sc,←Lq.mul_assoc];obtain⟨B,hB,e⟩:=vA aQ hL.ho hs h2;rw[e,Lq.sum_mul];have has:(s.sum m).sum (fV o L j)=s.sum (m.sum (fV o L j)):=by unfold M.sum;refine qM ?_ ?_ ?_ ?_<;>(simp only;omega)
  have h5:qU o ((s.sum m).sum (fV o L j)) (s.sum δ):=by rw[has];exact CM s h3
  refine Lo.sum (Lo.sc c (Lo.sum ?_ (hB.lo h1 (.inl h5)))) ih;have:=Lo.one (o:=o) (n:=n) (L:=L) (δ:=s.sum δ) 1 h1 (kR hs h2) h5
  rwa[Lq.sc_one]at this
theorem pP {a b:M}:(M.sub b a).sum a=b:=by unfold M.sub M.sum;refine qM ?_ ?_ ?_ ?_<;>(simp only;omega)
theorem rV {a b:M} (h:M.le a b):(M.sub b a).nn:=by obtain⟨h1,h2,h3,h4⟩:=h;unfold M.sub;exact⟨by simp only;omega,by simp only;omega,by simp only;omega,by simp only;omega⟩
theorem Lo.cf0 (hL:vJ o n L) {δ:M} {A:Lq} (hδ:δ.nn) (h:Lo o n L δ A):zH A δ=0:=by
 induction h with
 |nil=>exact QP δ
 |cons c m j h1 h2 h3 h4 ih=>rw[yC,Ay,hL.cf_off h1 h2 hδ h3,ih];grind
def M.lcm (a b:M):M:=⟨if a.x≤b.x then b.x else a.x,if a.y≤b.y then b.y else a.y,if a.d≤b.d then b.d else a.d,if a.e≤b.e then b.e else a.e⟩
theorem ZY (a b:M):M.le a (M.lcm a b)∧M.le b (M.lcm a b):=by unfold M.le M.lcm;simp only;refine⟨⟨?_,?_,?_,?_⟩,?_,?_,?_,?_⟩<;>(split<;>omega)
theorem ZX {a b c:M} (h1:M.le a c) (h2:M.le b c):M.le (M.lcm a b) c:=by obtain⟨a1,a2,a3,a4⟩:=h1;obtain⟨b1,b2,b3,b4⟩:=h2;unfold M.le M.lcm;simp only;refine⟨?_,?_,?_,?_⟩<;>(split<;>omega)
def AY (o:Int) (n:Nat) (L:Nat→List T) (i k:Nat):Prop:=∀u v:Fq,u*zz (aV o (L i)).c=1→v*zz (aV o (L k)).c=1→Lo o n L (M.lcm (fV o L i) (fV o L k)) (Lq.sum (Lq.sc u (Lq.mul (mo aQ (M.sub (M.lcm (fV o L i) (fV o L k)) (fV o L i))) (Rp aQ (L i)))) (Lq.sc (-v) (Lq.mul (mo aQ (M.sub (M.lcm (fV o L i) (fV o L k)) (fV o L k))) (Rp aQ (L k)))))
theorem WK {a b c:M}:(M.sub c b).sum (M.sub b a)=M.sub c a:=by unfold M.sub M.sum;refine qM ?_ ?_ ?_ ?_<;>(simp only;omega)
theorem AY.up (hL:vJ o n L) {i k:Nat} (hi:i<n) (hk:k<n) (h:AY o n L i k) {δ:M} (hδi:M.le (fV o L i) δ) (hδk:M.le (fV o L k) δ) {u v:Fq} (hu:u*zz (aV o (L i)).c=1) (hv:v*zz (aV o (L k)).c=1):Lo o n L δ (Lq.sum (Lq.sc u (Lq.mul (mo aQ (M.sub δ (fV o L i))) (Rp aQ (L i)))) (Lq.sc (-v) (Lq.mul (mo aQ (M.sub δ (fV o L k))) (Rp aQ (L k))))):=by
 have hb:=ZX hδi hδk;have hs:=rV hb
 obtain⟨l1,l2⟩:=ZY (fV o L i) (fV o L k);obtain⟨A,a1,a2⟩:=vA aQ hL.ho hs (rV l1);obtain⟨B,b1,b2⟩:=vA aQ hL.ho hs (rV l2);rw[WK]at a1 a2 b1 b2;have key:=(h u v hu hv).mul hL hs
 rw[pP]at key;have la:=(a1.lo hi (.inr (pP))).sc (-u)
 have lb:=(b1.lo hk (.inr (pP))).sc v;have tot:=(key.sum la).sum lb
 have e:Lq.sum (Lq.sum (Lq.mul (mo aQ (M.sub δ (M.lcm (fV o L i) (fV o L k)))) (Lq.sum (Lq.sc u (Lq.mul (mo aQ (M.sub (M.lcm (fV o L i) (fV o L k)) (fV o L i))) (Rp aQ (L i)))) (Lq.sc (-v) (Lq.mul (mo aQ (M.sub (M.lcm (fV o L i) (fV o L k)) (fV o L k))) (Rp aQ (L k)))))) (Lq.sc (-u) (Lq.mul A (Rp aQ (L i))))) (Lq.sc v (Lq.mul B (Rp aQ (L k))))=Lq.sum (Lq.sc u (Lq.mul (mo aQ (M.sub δ (fV o L i))) (Rp aQ (L i)))) (Lq.sc (-v) (Lq.mul (mo aQ (M.sub δ (fV o L k))) (Rp aQ (L k)))):=by
  rw[Lq.mul_sum,Lq.mul_sc,Lq.mul_sc,←Lq.mul_assoc,←Lq.mul_assoc,a2,b2,Lq.sum_mul,Lq.sum_mul];refine Lq.ext fun w p q=>?_;simp only[VW,Kf]
  grind
 rw[e]at tot;exact tot
end Go.Proofs.YtdidlcjhodejjaaGreat
namespace Go.Proofs.YtdidlcjhodejjaaGreat
open Go.RowKit
set_option linter.unusedVariables false
theorem GT {L:List T} (h:aK L) {t:T} (ht:t∈L):aM L t.m=t.c∧aM L t.m≠0:=by
 have h1:aM L t.m=t.c:=by
  induction L with
  |nil=>cases ht
  |cons s r ih=>
   rw[aM];rcases List.mem_cons.1 ht with rfl|ht'
   ·rw[if_pos (cM.2 rfl)]
   ·have h1:=h.head t ht';rw[if_neg (fun e=>by rw[cM.1 e]at h1;omega)];exact ih h.tail ht'
 have h2:=h.2 t ht;exact⟨h1,by omega⟩
theorem Jk {a c b:M} (h:M.mul a c=(b,true)):b.ok=true:=by
 unfold M.mul at h;split at h
 ·rename_i q;cases h;exact q.2.2
 ·cases h
theorem pL {o:Int} {A B L:List T} (h:dV o (lf A) A.length (lf B) B.length=(L,true)):gB o A.length (lf A) B.length (lf B)=true∧∃X Y,nU [gL o A.length (lf A) B.length (lf B)] A=(X,true)∧nU [gM o A.length (lf A) B.length (lf B)] B=(Y,true)∧cG X=true∧cG Y=true∧L=cY X Y∧L.length≤400:=by
 unfold dV at h;by_cases hk:gB o A.length (lf A) B.length (lf B)=true
 ·refine⟨hk,?_⟩;rw[if_pos hk]at h;unfold mE at h;by_cases h2:(bV (lf [gL o A.length (lf A) B.length (lf B)]) 1 (lf A) A.length).2=true∧(bV (lf [gM o A.length (lf A) B.length (lf B)]) 1 (lf B) B.length).2=true
  ·rw[if_pos h2]at h;obtain⟨X,hX⟩:∃X,nU [gL o A.length (lf A) B.length (lf B)] A=(X,true):=by
    rcases Gn [gL o A.length (lf A) B.length (lf B)] A with e|e
    ·exact absurd h2.1 (by rw[show bV (lf [gL o A.length (lf A) B.length (lf B)]) 1 (lf A) A.length=([],false)from e];simp)
    ·exact e
   obtain⟨Y,hY⟩:∃Y,nU [gM o A.length (lf A) B.length (lf B)] B=(Y,true):=by
    rcases Gn [gM o A.length (lf A) B.length (lf B)] B with e|e
    ·exact absurd h2.2 (by rw[show bV (lf [gM o A.length (lf A) B.length (lf B)]) 1 (lf B) B.length=([],false)from e];simp)
    ·exact e
   rw[show bV (lf [gL o A.length (lf A) B.length (lf B)]) 1 (lf A) A.length=(X,true)from hX,show bV (lf [gM o A.length (lf A) B.length (lf B)]) 1 (lf B) B.length=(Y,true)from hY]at h;rcases yX X Y with e|⟨_,_,hl,e⟩
   ·rw[show lO (lf X) X.length (lf Y) Y.length=([],false)from e]at h;cases h
   ·rw[show lO (lf X) X.length (lf Y) Y.length=(cY X Y,true)from e]at h;have hL:cY X Y=L:=by cases h;rfl
    exact⟨X,Y,hX,hY,zV hX,zV hY,hL.symm,by rw[←hL];exact hl⟩
  ·rw[if_neg h2]at h;cases h
 ·rw[if_neg hk]at h;cases h
theorem Gc {o:Int} {A B L:List T} (h:dV o (lf A) A.length (lf B) B.length=(L,true)):cG L=true:=by obtain⟨hk,X,Y,hX,hY,oX,oY,rfl,hl⟩:=pL h;exact gE hl (cW (aD oX).2 (aD oY).2).1
theorem QB {o:Int} {u:T} {A X:List T} (gu:u.m.ok=true∧1≤u.c∧u.c≤100) (hA:EZ o A=true) (h:nU [u] A=(X,true)) {b:M} (hb:M.mul u.m (uV o A).m=(b,true)) (hc:rQ u.c (uV o A).c=1):aM X b=1∧∀t∈X,fH o t.m≤fH o b:=by
 obtain⟨ho,oA,_⟩:=fT.1 hA;have hu:EZ o [u]=true:=fT.2 ⟨ho,jE gu,by simp⟩
 obtain⟨e1,e2⟩:=Iu ho h;rw[hu,hA]at e1;have hX:EZ o X=true:=e1
 obtain⟨e3,e4⟩:=e2 hu hA;have eu:uV o [u]=u:=by have:=(yI hu).1;simpa using this
 rw[eu]at e3 e4;have eb:(uV o X).m=b:=by have:=e3.symm.trans (show M.mul ⟨u.m.x,u.m.y,u.m.d,u.m.e⟩ ⟨(uV o A).m.x,(uV o A).m.y,(uV o A).m.d,(uV o A).m.e⟩=(b,true)from hb);cases this;rfl
 obtain⟨t1,t2⟩:=yI hX;have hm:=(GT (aD (zV h)).2 t1).1
 rw[eb]at t2 hm;refine⟨?_,t2⟩;rw[hm,←e4,hc]
theorem ZI {o:Int} {A B L:List T} (h:dV o (lf A) A.length (lf B) B.length=(L,true)):∀t∈L,M.cmp o t.m (oH o A.length (lf A) B.length (lf B))<0:=by
 obtain⟨hk,X,Y,hX,hY,oX,oY,rfl,hl⟩:=pL h;obtain⟨gU,gV⟩:=xH hk;obtain⟨m1,m2,c1,c2,_⟩:=VQ hk;have hk':=hk
 unfold gB at hk';rw[Bool.and_eq_true]at hk';obtain⟨x1,x2⟩:=QB gU (show EZ o A=true from hk'.1) hX m1 c1;obtain⟨y1,y2⟩:=QB gV (show EZ o B=true from hk'.2) hY m2 c2;have fX:=(aD oX).2
 have fY:=(aD oY).2;obtain⟨fL,cL⟩:=cW fX fY;have ho:=(nB hk'.1).1
 have hbok:(oH o A.length (lf A) B.length (lf B)).ok=true:=Jk m1;generalize oH o A.length (lf A) B.length (lf B)=b at *;intro t ht;have tok:=(fL.2 t ht).1
 obtain⟨q1,q2⟩:=GT fL ht;have hne:t.m≠b:=fun e=>by apply q2;rw[e,cL b,x1,y1];decide
 have hle:fH o t.m≤fH o b:=by
  by_cases hx:aM X t.m=0
  ·by_cases hy:aM Y t.m=0
   ·exact absurd (by rw[cL,hx,hy];decide) q2
   ·obtain⟨s,hs,e⟩:=mX hy;rw[←e];exact y2 s hs
  ·obtain⟨s,hs,e⟩:=mX hx;rw[←e];exact x2 s hs
 have hlt:fH o t.m≠fH o b:=fun e=>hne (lW _ _ tok hbok e);unfold M.cmp;rw[if_pos ⟨ho,tok,hbok⟩,AU ho tok hbok];unfold c3;split
 ·omega
 ·split<;>omega
open Go.RowKit Go.Deep Go.Joins
theorem Fp (d:Fq):Lq.sc d Lq.nil=Lq.nil:=Lq.ext fun u n k=>by show d*(0:Fq)=0;grind
theorem KA (A:Lq):Lq.sum Lq.nil A=A:=by rw[Lq.sum_comm,Lq.sum_nil]
section
variable {o:Int} {n:Nat} {L:Nat→List T}
theorem TI (g:xR) (t:T) (r:List T):Rp g (t::r)=Lq.sum (Lq.sc (zz t.c) (mo g t.m)) (Rp g r):=Lq.ext fun u n k=>rfl
theorem JX (A:Lq):Lq.mul (mo aQ ⟨0,0,0,0⟩) A=A:=rfl
theorem yJ (ho:1≤o∧o≤3) (hl:aT n (lN L) (fN L)=true):vJ o n L:=⟨ho,fun j hj=>⟨((aL hl).2 j hj).2,((aL hl).2 j hj).1⟩⟩
theorem Mf:zz 100= -1:=by decide
theorem AK {p:List T} {S:Dv} (h:aW o p n (lN L) (fN L)=some S):Rp aQ S.r=Lq.sum (Rp aQ p) (Lq.sc (-1) (qsum aQ n L S.q)):=by
 rw[←vE aQ h];refine Lq.ext fun u a b=>?_;simp only[VW,Kf]
 grind
theorem Lo.rp {δ:M} {j:Nat} (hj:j<n):∀q:List T,(∀t∈q,t.m.nn∧qU o (t.m.sum (fV o L j)) δ)→Lo o n L δ (Lq.mul (Rp aQ q) (Rp aQ (L j)))
 |[],_=>by rw[qP,Lq.nil_mul];exact Lo.nil
 |t::r,hq=>by rw[TI,Lq.sum_mul,Lq.sc_mul];obtain⟨h1,h2⟩:=hq t (List.mem_cons_self ..);exact Lo.cons _ t.m j hj h1 h2 (Lo.rp hj r (fun s hs=>hq s (List.mem_cons_of_mem _ hs)))
theorem Lo.sumN {δ:M} {f:Nat→Lq}:∀k,(∀i,i<k→Lo o n L δ (f i))→Lo o n L δ (Lq.sumN f k)
 |0,_=>Lo.nil
 |k+1,h=>Lo.sum (Lo.sumN k (fun i hi=>h i (by omega))) (h k (by omega))
theorem Nz (a b:Int):mx a b=if a≤b then b else a:=by unfold mx;split<;>split<;>omega
theorem At {a b:M} (ha:a.ok=true) (hb:b.ok=true):M.both a b=M.lcm a b:=by unfold M.both M.lcm;rw[if_pos ⟨ha,hb⟩];simp only[Nz]
theorem NU {a b c:M} (h:M.mul a b=(c,true)):a.sum b=c∧c.ok=true:=by
 unfold M.mul at h;split at h
 ·rename_i hh;cases h;exact⟨rfl,hh.2.2⟩
 ·cases h
theorem Ps {a b:Int} (h:c3 a b<0):a<b:=by unfold c3 at h;split at h<;>(try split at h)<;>omega
theorem VX {a b c:M} (h:a.sum b=c):a=M.sub c b:=by rw[←h];unfold M.sub M.sum;refine qM ?_ ?_ ?_ ?_<;>(simp only;omega)
theorem Lx {a b:Int} (ha:1≤a∧a≤100) (hb:1≤b∧b≤100) (h:rQ a b=1):zz a*zz b=1:=by rw[jW (by omega) ha.2 (by omega) hb.2]at h;rw[←pN,←mS,h];rfl
theorem LC (hL:vJ o n L) {i k:Nat} (hi:i<n) (hk:k<n) {s:List T} (hs:dV o (lf (L i)) (L i).length (lf (L k)) (L k).length=(s,true)):∃U V:T,U=gL o (L i).length (lf (L i)) (L k).length (lf (L k))∧V=gM o (L i).length (lf (L i)) (L k).length (lf (L k))∧zz U.c*zz (aV o (L i)).c=1∧zz V.c*zz (aV o (L k)).c=1∧U.m=M.sub (M.lcm (fV o L i) (fV o L k)) (fV o L i)∧V.m=M.sub (M.lcm (fV o L i) (fV o L k)) (fV o L k)∧Rp aQ s=Lq.sum (Lq.sc (zz U.c) (Lq.mul (mo aQ U.m) (Rp aQ (L i)))) (Lq.sc (-(zz V.c)) (Lq.mul (mo aQ V.m) (Rp aQ (L k))))∧(M.lcm (fV o L i) (fV o L k)).ok=true∧∀t∈s,fH o t.m<fH o (M.lcm (fV o L i) (fV o L k)):=by
 obtain⟨hok,X,Y,hX,hY,oX,oY,es,hl⟩:=pL hs;obtain⟨gU,gV⟩:=xH hok;obtain⟨m1,m2,c1,c2,_⟩:=VQ hok;have hb:=ZI hs
 have li:bQ o (L i).length (lf (L i))=aV o (L i):=(yH hL.ho (hL.fl i hi).1 (hL.fl i hi).2).symm;have lk:bQ o (L k).length (lf (L k))=aV o (L k):=(yH hL.ho (hL.fl k hk).1 (hL.fl k hk).2).symm
 have eB:oH o (L i).length (lf (L i)) (L k).length (lf (L k))=M.lcm (fV o L i) (fV o L k):=by unfold oH;rw[li,lk];exact At (hL.good hi).1 (hL.good hk).1
 rw[eB,li]at m1;rw[eB,lk]at m2;rw[li]at c1;rw[lk]at c2;rw[eB]at hb;obtain⟨s1,k1⟩:=NU m1;obtain⟨s2,_⟩:=NU m2;refine⟨_,_,rfl,rfl,Lx gU.2 (hL.good hi).2 c1,Lx gV.2 (hL.good hk).2 c2,VX s1,VX s2,?_,k1,fun t ht=>?_⟩
 ·rw[es,BC aQ (aD oX).2 (aD oY).2,xX aQ hX,xX aQ hY,AZ,AZ,Lq.sc_mul,Lq.sc_mul,Lq.sc_sc,Mf];congr 2
  grind
 ·have fs:aK s:=(aD (Gc hs)).2;have:=hb t ht
  unfold M.cmp at this;rw[if_pos ⟨hL.ho,(fs.2 t ht).1,k1⟩,AU hL.ho (fs.2 t ht).1 k1]at this;exact Ps this
theorem VU (hL:vJ o n L) {s:List T} {S:Dv} (hr:aW o s n (lN L) (fN L)=some S) {μ:M} (hμ:μ.ok=true) (hs:∀t∈s,fH o t.m<fH o μ):Lo o n L μ (qsum aQ n L S.q)∧∀t∈S.r,fH o t.m<fH o μ:=by
 obtain⟨r1,r2⟩:=OV hr (N:=fH o μ-1) (fun t ht=>by have:=hs t ht;omega);refine⟨Lo.sumN n fun i hi=>Lo.rp hi _ (fun t ht=>?_),fun t ht=>by have:=r1 t ht;omega⟩;obtain⟨h1,h2⟩:=r2 i hi t ht;have fq:=(dG hr).1.q i
 exact⟨qN (fq.1.2 t ht).1,KO hL.ho h1 hμ (by show fH o (t.m.sum (aV o (L i)).m)<_;omega)⟩
theorem OH (hL:vJ o n L) {i k:Nat} (hi:i<n) (hk:k<n) {s:List T} (hs:dV o (lf (L i)) (L i).length (lf (L k)) (L k).length=(s,true)) (h:Lo o n L (M.lcm (fV o L i) (fV o L k)) (Rp aQ s)):AY o n L i k:=fun u v hu hv=>by
 obtain⟨U,V,_,_,u1,v1,um,vm,e,_⟩:=LC hL hi hk hs;have eu:u=zz U.c:=by
  have:u*(zz (aV o (L i)).c*zz U.c)=zz U.c:=by rw[←Fin.mul_assoc,hu];grind
  have u1':zz (aV o (L i)).c*zz U.c=1:=by grind
  rw[u1']at this
  grind
 have ev:v=zz V.c:=by
  have:v*(zz (aV o (L k)).c*zz V.c)=zz V.c:=by rw[←Fin.mul_assoc,hv];grind
  have u1':zz (aV o (L k)).c*zz V.c=1:=by grind
  rw[u1']at this
  grind
 rw[e]at h;rw[eu,ev,←um,←vm];exact h
theorem GY (hL:vJ o n L) {i k:Nat} (hi:i<n) (hk:k<n) {s:List T} (hs:dV o (lf (L i)) (L i).length (lf (L k)) (L k).length=(s,true)) {S:Dv} (hr:aW o s n (lN L) (fN L)=some S) (h0:S.r=[]):AY o n L i k:=by obtain⟨U,V,_,_,u1,v1,um,vm,e,k1,hb⟩:=LC hL hi hk hs;refine OH hL hi hk hs ?_;rw[←vE aQ hr,h0,qP,Lq.sum_nil];exact(VU hL hr k1 hb).1
end
end Go.Proofs.YtdidlcjhodejjaaGreat
namespace Go.Proofs.YtdidlcjhodejjaaGreat
open Go.RowKit Go.Deep Go.Joins
set_option linter.unusedVariables false
theorem Gb (w:World) (o:Int) (a b:Option Addr) (n ca m cb:Nat) (f g:Nat→T) (ha:Rd w a n ca f) (hb:Rd w b m cb g):Calls Tryz.prog 137 #[.int .i64 o,.slice a n ca,.slice b m cb] w fun r w'=>∃v,r= .returned (.tuple #[v,.bool (dV o f n g m).2])∧Below w.heap.size w w'∧w'.ownsRow w.heap.size 42 5 v (dV o f n g m).1.length (aE (dV o f n g m).1):=by
 have HA:=aA ha;have HB:=aA hb
 have hla:(n:Int)≤140737488351232:=by have:=ha.2.1;omega
 have hlb:(m:Int)≤140737488351232:=by have:=hb.2.1;omega
 have hcall:=II w o a n ca f b m cb g ha hb;clear ha hb;unfold dV;obtain⟨U,hU⟩:∃U,gL o n f m g=U:=⟨_,rfl⟩
 obtain⟨V,hV⟩:∃V,gM o n f m g=V:=⟨_,rfl⟩
 cases hok:gB o n f m g
 ·rw[hU,hV,hok]at hcall;rw[if_neg (by simp)];clear hU hV hok;go_enter Tryz.func137,Tryz.ntmps137;go_wp2_with fail;refine hcall.mono ?_;rintro r w1 ⟨rfl,hb1⟩;have HB1:=aA hb1
  clear hb1 hcall;have HB2:=aA (HB1.out.alloc HB1.out.size (.cells #[.int .i64 U.c,.int .i64 U.m.x,.int .i64 U.m.y,.int .i64 U.m.d,.int .i64 U.m.e] 42))
  have HB3:=aA (HB2.out.alloc HB2.out.size (.cells #[.int .i64 V.c,.int .i64 V.m.x,.int .i64 V.m.y,.int .i64 V.m.d,.int .i64 V.m.e] 42));have hnn:=dY ((w1.alloc (.cells #[.int .i64 U.c,.int .i64 U.m.x,.int .i64 U.m.y,.int .i64 U.m.d,.int .i64 U.m.e] 42)).alloc (.cells #[.int .i64 V.c,.int .i64 V.m.x,.int .i64 V.m.y,.int .i64 V.m.d,.int .i64 V.m.e] 42)) w.heap.size HB3.out.size
  rw[World.size_alloc,World.size_alloc]at hnn;have HNN:=aA hnn
  clear hnn;go_wp2;refine bY (results_tmp2 rfl _ _ _) rfl ?_;exact⟨_,rfl,HB3.out.alloc HB3.out.size _,HNN.out⟩
 ·obtain⟨gU,gV⟩:=xH hok;have hk:=hok
  unfold gB at hk;rw[Bool.and_eq_true]at hk;have p1:=(nB hk.1).2.1
  have p2:=(nB hk.2).2.1;rw[hU]at gU;rw[hV]at gV;rw[hU,hV,hok]at hcall;rw[if_pos rfl,hU,hV,YB gU gV p1 p2];obtain⟨l1,g1⟩:=cF p1;have gs:qL (lf [U]) 1:=fun i hi=>by
   obtain rfl:i=0:=by omega
   exact⟨gU.1,by show 0≤U.c;omega,gU.2.2⟩
  have hm:=fun(W:World) (A:Nat) (h:RL W (some ⟨A,0,none⟩) 1 [U]) (h':Rd W a n ca f)=>UQ W (some ⟨A,0,none⟩) a 1 1 n ca (lf [U]) f h h' (by omega) l1 gs g1;have HGS:=aA gs
  have HG1:=aA g1;have HP2:=aA p2
  have HGV:=aA gV;clear hU hV hok hk gU gV gs g1 p1 p2;cases hX:cT (lf [U]) f n 1 with
  |none=>
   rw[hX]at hm;simp only[lC]at hm;go_enter Tryz.func137,Tryz.ntmps137;go_wp2_with fail;refine hcall.mono ?_;rintro r w1 ⟨rfl,hb1⟩;have HB1:=aA hb1
   clear hb1 hcall;have HB2:=aA (HB1.out.alloc HB1.out.size (.cells #[.int .i64 U.c,.int .i64 U.m.x,.int .i64 U.m.y,.int .i64 U.m.d,.int .i64 U.m.e] 42))
   have HB3:=aA (HB2.out.alloc HB2.out.size (.cells #[.int .i64 V.c,.int .i64 V.m.x,.int .i64 V.m.y,.int .i64 V.m.d,.int .i64 V.m.e] 42));have HB4:=aA (HB3.out.alloc HB3.out.size (.cells #[.int .i64 U.c,.int .i64 U.m.x,.int .i64 U.m.y,.int .i64 U.m.d,.int .i64 U.m.e] 42))
   have hru:=gR ((w1.alloc (.cells #[.int .i64 U.c,.int .i64 U.m.x,.int .i64 U.m.y,.int .i64 U.m.d,.int .i64 U.m.e] 42)).alloc (.cells #[.int .i64 V.c,.int .i64 V.m.x,.int .i64 V.m.y,.int .i64 V.m.d,.int .i64 V.m.e] 42)) U;rw[World.size_alloc,World.size_alloc]at hru;have HRU:=aA hru
   clear hru;go_wp2_with fail;refine(hm _ _ HRU.out (HA.out.below HB4.out)).mono ?_;rintro r w2 ⟨v2,rfl,hb2,ho2⟩;have HB5:=aA (aB HB4.out hb2)
   clear hb2 ho2 hm;go_wp2;refine bY (results_tmp2 rfl _ _ _) rfl ?_;exact⟨_,rfl,HB5.out.alloc HB5.out.size _,dY _ w.heap.size HB5.out.size⟩
  |some X=>
   have fX:=dQ HGS.out HG1.out 1 X (Nat.le_refl _) hX;have lX:=gQ 1 X hX
   have HFX:=aA fX;rw[hX]at hm;simp only[lC]at hm;have hless:=fun(W:World) (pa:Option Addr) (pc:Nat) (h:RL W pa pc X) (h':Rd W b m cb g)=>UF W pa pc X V b m cb g h lX HFX.out HGV.out h' HP2.out
   dsimp only;generalize pX X V g m=D at hless⊢;clear fX hX;go_enter Tryz.func137,Tryz.ntmps137;go_wp2_with fail;refine hcall.mono ?_;rintro r w1 ⟨rfl,hb1⟩;have HB1:=aA hb1
   clear hb1 hcall;have HB2:=aA (HB1.out.alloc HB1.out.size (.cells #[.int .i64 U.c,.int .i64 U.m.x,.int .i64 U.m.y,.int .i64 U.m.d,.int .i64 U.m.e] 42))
   have HC3:=aA (C5.box (w1.alloc (.cells #[.int .i64 U.c,.int .i64 U.m.x,.int .i64 U.m.y,.int .i64 U.m.d,.int .i64 U.m.e] 42)) 42 V);have HB3:=aA (HB2.out.alloc HB2.out.size (.cells #[.int .i64 V.c,.int .i64 V.m.x,.int .i64 V.m.y,.int .i64 V.m.d,.int .i64 V.m.e] 42))
   have HB4:=aA (HB3.out.alloc HB3.out.size (.cells #[.int .i64 U.c,.int .i64 U.m.x,.int .i64 U.m.y,.int .i64 U.m.d,.int .i64 U.m.e] 42));have hru:=gR ((w1.alloc (.cells #[.int .i64 U.c,.int .i64 U.m.x,.int .i64 U.m.y,.int .i64 U.m.d,.int .i64 U.m.e] 42)).alloc (.cells #[.int .i64 V.c,.int .i64 V.m.x,.int .i64 V.m.y,.int .i64 V.m.d,.int .i64 V.m.e] 42)) U
   rw[World.size_alloc,World.size_alloc]at hru;have HRU:=aA hru
   clear hru;go_wp2_with fail;refine(hm _ _ HRU.out (HA.out.below HB4.out)).mono ?_;rintro r w2 ⟨v2,rfl,hb2,ho2⟩;obtain⟨a2,c2,rfl,hout⟩:=aH ho2 (by omega);have HB5:=aA (aB HB4.out hb2)
   have hC5:=(HC3.out.below (aC _ (.cells #[.int .i64 U.c,.int .i64 U.m.x,.int .i64 U.m.y,.int .i64 U.m.d,.int .i64 U.m.e] 42))).below hb2;have HX2:=aA hout.1
   rw[World.size_alloc]at hC5;obtain⟨r0,r1,r2,r3,r4⟩:=hC5;clear hb2 ho2 hm hout;go_wp2_with fail;clear r0 r1 r2 r3 r4;refine(hless _ _ _ HX2.out (HB.out.below HB5.out)).mono ?_;rintro r w3 ⟨v3,rfl,hb3,ho3⟩;have HB6:=aA (aB HB5.out hb3)
   have HO6:=aA (jG ho3 HB5.out.size);clear hb3 ho3;go_wp2;refine bY (results_tmp2 rfl _ _ _) rfl ?_;exact⟨_,rfl,HB6.out,HO6.out⟩
theorem ZB {o:Int} {p:List T} {n:Nat} {L:Nat→List T} (ho:1≤o∧o≤3) (hp:cG p=true) (hl:aT n (lN L) (fN L)=true):aW o p n (lN L) (fN L)=eR o n (lN L) (fN L) 300 (lB p):=if_pos ⟨ho,hp,hl⟩
theorem Kk {w:World} (o:Int) {a b:Option Addr} {ca cb:Nat} {A B:List T} (ha:RL w a ca A) (hb:RL w b cb B):Calls Tryz.prog 137 #[.int .i64 o,.slice a A.length ca,.slice b B.length cb] w (Ac w (dV o (lf A) A.length (lf B) B.length)):=
 (Gb w o a b A.length ca B.length cb (lf A) (lf B) ha hb).mono fun _ _ h=>QC (PN _ _ _ _ _) h
structure Fr (P:Nat→Prop) (w w':World):Prop where
 os:w'.os=w.os
 tape:w'.tape=w.tape
 output:w'.output=w.output
 size:w.heap.size≤w'.heap.size
 block:∀k,k<w.heap.size→¬P k→w'.heap[k]? =w.heap[k]?
theorem Fr.refl (P:Nat→Prop) (w:World):Fr P w w:=⟨rfl,rfl,rfl,Nat.le_refl _,fun _ _ _=>rfl⟩
theorem Fr.trans {P:Nat→Prop} {a b c:World} (h:Fr P a b) (k:Fr P b c):Fr P a c:=
 ⟨k.os.trans h.os,k.tape.trans h.tape,k.output.trans h.output,jZ h.size k.size,fun i hi hn=>(k.block i (jY hi h.size) hn).trans (h.block i hi hn)⟩
theorem Fr.mono {P P':Nat→Prop} {w w':World} (h:Fr P w w') (hp:∀k,k<w.heap.size→P k→P' k):Fr P' w w':=⟨h.os,h.tape,h.output,h.size,fun k hk hn=>h.block k hk (fun e=>hn (hp k hk e))⟩
theorem bA {P:Nat→Prop} {w w':World} (h:Below w.heap.size w w'):Fr P w w':=⟨h.os,h.tape,h.output,h.size,fun k hk _=>h.block k hk⟩
theorem Fr.next {P:Nat→Prop} {a b c:World} (h:Fr P a b) (k:Below b.heap.size b c):Fr P a c:=h.trans (bA k)
theorem Fr.set {P:Nat→Prop} {w w':World} (h:Fr P w w') {b o:Nat} {v:Value} (hb:b<w.heap.size→P b):Fr P w (w'.setCell ⟨b,o,none⟩ v):=
 ⟨h.os,h.tape,h.output,by simpa[World.setCell]using h.size,fun k hk hn=>(Below.heap_setCell _ _ _ _ (by show k≠b;intro e;subst e;exact hn (hb hk))).trans (h.block k hk hn)⟩
theorem Fr.grown {P:Nat→Prop} {w w' w'':World} {row:Option Nat} (h:Fr P w w') (hg:w'.grownBy w'' row) (hr:∀g,row=some g→g<w.heap.size→P g):Fr P w w'':=
 ⟨hg.os.trans h.os,hg.tape.trans h.tape,hg.output.trans h.output,jZ h.size hg.size,fun k hk hn=>(hg.block k (jY hk h.size) (fun e=>hn (hr k e.symm hk))).trans (h.block k hk hn)⟩
theorem Fr.cell {P:Nat→Prop} {w w':World} (h:Fr P w w') {b o:Nat} (hb:b<w.heap.size) (hp:¬P b):w'.cell? ⟨b,o,none⟩=w.cell? ⟨b,o,none⟩:=
 mB (w:=w) (a:=⟨b,o,none⟩) (h.block b hb hp)
theorem Fr.frozen {P:Nat→Prop} {w w':World} (h:Fr P w w') {b o:Nat} (hb:b<w.heap.size) (hp:¬P b):w'.frozen? ⟨b,o,none⟩=w.frozen? ⟨b,o,none⟩:=
 World.frozen?_of_block (w:=w) (a:=⟨b,o,none⟩) (h.block b hb hp)
theorem Fr.rd {P:Nat→Prop} {w w':World} (h:Fr P w w') {a:Option Addr} {n cap:Nat} {f:Nat→T} (hr:Rd w a n cap f) (hp:n=0∨∀b off,a=some ⟨b,off,none⟩→¬P b):Rd w' a n cap f:=by
 obtain⟨h1,h2,h3⟩:=hr;refine⟨h1,h2,?_⟩;rcases h3 with h0|⟨b,off,he,hlt,hc⟩
 ·exact .inl h0
 ·rcases hp with h0|hp
  ·exact .inl h0
  ·refine .inr ⟨b,off,he,jY hlt h.size,fun i hi=>?_⟩;have hn:=hp b off he
   obtain⟨c0,c1,c2,c3,c4⟩:=hc i hi;exact⟨(h.cell hlt hn).trans c0,(h.cell hlt hn).trans c1,(h.cell hlt hn).trans c2,(h.cell hlt hn).trans c3,(h.cell hlt hn).trans c4⟩
theorem Fr.c5 {P:Nat→Prop} {w w':World} (h:Fr P w w') {b:Nat} {t:T} (hc:C5 w b t) (hp:¬P b):C5 w' b t:=by have hlt:=hc.lt;obtain⟨c0,c1,c2,c3,c4⟩:=hc;exact⟨(h.cell hlt hp).trans c0,(h.cell hlt hp).trans c1,(h.cell hlt hp).trans c2,(h.cell hlt hp).trans c3,(h.cell hlt hp).trans c4⟩
theorem Fr.below {P:Nat→Prop} {lo:Nat} {u w w':World} (hb:Below lo u w) (h:Fr P w w') (hp:∀k,P k→lo≤k) (hlo:lo≤u.heap.size):Below lo u w':=
 ⟨h.os.trans hb.os,h.tape.trans hb.tape,h.output.trans hb.output,jZ hb.size h.size,fun k hk=>(h.block k (jY hk (jZ hlo hb.size)) (fun e=>by have:=hp k e;omega)).trans (hb.block k hk)⟩
theorem Fr.owns {P:Nat→Prop} {w w':World} (h:Fr P w w') {lo:Nat} {e:TypeId} {size:Nat} {v:Value} {n:Nat} {xs:List Value} (ho:w.ownsRow lo e size v n xs) (hp:∀g,v.ownBlock=some g→¬P g):w'.ownsRow lo e size v n xs:=by
 refine⟨ho.1,ho.2.imp id ?_⟩;rintro⟨g,cap,cur,hv,hlo,hgg,hn,hm,hs,ht⟩;refine⟨g,cap,cur,hv,hlo,?_,hn,hm,hs,ht⟩;have hlt:g<w.heap.size:=(Array.getElem?_eq_some_iff.1 hgg).1
 exact(h.block g hlt (hp g (by rw[hv];rfl))).trans hgg
theorem iX {w:World} {a:Addr} {v u:Value} (h:w.cell? a=some u):(w.setCell a v).cell? a=some v:=World.cell?_setCell_same (w:=w) (a:=a) (v:=v) h
theorem aS {w:World} {a b:Addr} {v:Value} (h:a≠b):(w.setCell a v).cell? b=w.cell? b:=World.cell?_setCell_other (w:=w) (a:=a) (b:=b) (v:=v) h
def Qq (q:Nat×Nat):Nat×Nat:=if q.1+1<q.2 then(q.1+1,q.2)else(0,q.2+1)
def pq:Nat→Nat×Nat
 |0=>(0,1)
 |j+1=>Qq (pq j)
def aZ:Nat→Nat
 |0=>0
 |k+1=>aZ k+k
theorem pJ:∀k i,i<k→pq (aZ k+i)=(i,k)
 |0,i,h=>by omega
 |1,i,h=>by
  obtain rfl:i=0:=by omega
  rfl
 |k+2,0,_=>by
  have:=pJ (k+1) k (by omega);show pq (aZ (k+1)+(k+1))=(0,k+2)
  rw[show aZ (k+1)+(k+1)=(aZ (k+1)+k)+1 by omega];show Qq (pq (aZ (k+1)+k))=_
  rw[this];unfold Qq;rw[if_neg (by simp)]
 |k+2,i+1,h=>by
  have:=pJ (k+2) i (by omega);rw[show aZ (k+2)+(i+1)=(aZ (k+2)+i)+1 by omega];show Qq (pq (aZ (k+2)+i))=_
  rw[this];unfold Qq;rw[if_pos (by simpa using h)]
theorem xN       {a b : Nat} (h : a ≤ b) : aZ  a ≤ aZ  b := by
  induction b with
  | zero => obtain rfl : a = 0 := by omega
            exact Nat.le_refl _
  | succ b ih =>
    rcases Nat.lt_or_ge a (b + 1) with h' | h'
    · have := ih (by omega); show aZ  a ≤ aZ  b + b; omega
    · obtain rfl : a = b + 1 := by omega
      exact Nat.le_refl _
theorem TE:∀(m j:Nat),j<aZ m→∃k i,k<m∧i<k∧j=aZ k+i
 |0,j,h=>absurd h (rT _)
 |m+1,j,h=>by
  rcases Nat.lt_or_ge j (aZ m)with h'|h'
  ·obtain⟨k,i,h1,h2,h3⟩:=TE m j h';exact⟨k,i,by omega,h2,h3⟩
  ·have h:j<aZ m+m:=h;exact⟨m,j-aZ m,by omega,by omega,by omega⟩
theorem tW {Q z z':Nat} (h:z≠z'):(⟨Q,z,none⟩:Addr)≠⟨Q,z',none⟩:=fun e=>h (by injection e)
def dZ (R q X:List T):Option (List T):=match cT (lf q) (lf X) X.length q.length with
 |some P=>if(cY R P).length≤400 then some (cY R P)else none
 |none=>none
def dD (R:Nat→List T) (j:Nat) (Y:List T) (i:Nat):List T:=if i=j then Y else R i
def dI (row:Nat→List T) (q:List T) (oth:Nat→List T):Nat→Option (Nat→List T)
 |0=>some (fun _=>[])
 |j+1=>match dI row q oth j with
  |none=>none
  |some R=>match dZ (row j) q (oth j)with
   |none=>none
   |some Y=>some (dD R j Y)
theorem qW {row:Nat→List T} {q:List T} {oth:Nat→List T} {j:Nat} (h:dI row q oth j=none):∀d,dI row q oth (j+d)=none
 |0=>h
 |d+1=>by show(match dI row q oth (j+d)with|none=>none|some R=>match dZ (row (j+d)) q (oth (j+d))with|none=>none|some Y=>some (dD R (j+d) Y))=none;rw[qW h d]
theorem tH {row:Nat→List T} {q:List T} {oth:Nat→List T} {j g:Nat} {R:Nat→List T} (hj:j<g) (h:dI row q oth j=some R) (he:dZ (row j) q (oth j)=none):dI row q oth g=none:=by
 have h1:dI row q oth (j+1)=none:=by
  show(match dI row q oth j with|none=>none|some R=>match dZ (row j) q (oth j)with|none=>none|some Y=>some (dD R j Y))=none;rw[h];show(match dZ (row j) q (oth j)with|none=>none|some Y=>some (dD R j Y))=none
  rw[he]
 have:=qW h1 (g-(j+1))
 rwa[show j+1+(g-(j+1))=g by omega]at this
theorem uY {row:Nat→List T} {q:List T} {oth:Nat→List T} {j:Nat} {R:Nat→List T} {Y:List T} (h:dI row q oth j=some R) (he:dZ (row j) q (oth j)=some Y):dI row q oth (j+1)=some (dD R j Y):=by
 show(match dI row q oth j with|none=>none|some R=>match dZ (row j) q (oth j)with|none=>none|some Y=>some (dD R j Y))=_;rw[h];show(match dZ (row j) q (oth j)with|none=>none|some Y=>some (dD R j Y))=_
 rw[he]
theorem sJ {R q X Y:List T} (hR:cG R=true) (hq:cG q=true) (hX:cG X=true) (h:dZ R q X=some Y):cG Y=true:=by
 unfold dZ at h;split at h
 ·rename_i P hP;split at h
  ·rename_i hl;cases h;exact gE hl (cW (aD hR).2 (dQ (cF hq).2 (cF hX).2 _ P (Nat.le_refl _) hP)).1
  ·cases h
 ·cases h
theorem pW {row:Nat→List T} {q:List T} {oth:Nat→List T} {g:Nat} (hrow:∀i,i<g→cG (row i)=true) (hq:cG q=true) (ho:∀i,i<g→cG (oth i)=true):∀j R,j≤g→dI row q oth j=some R→∀i,i<j→cG (R i)=true
 |0,R,_,_,i,hi=>by omega
 |j+1,R,hj,h,i,hi=>by
  cases hr:dI row q oth j with
  |none=>have:=qW hr 1;rw[this]at h;cases h
  |some R1=>
   cases he:dZ (row j) q (oth j)with
   |none=>have:=tH (g:=j+1) (by omega) hr he;rw[this]at h;cases h
   |some Y=>
    rw[uY hr he]at h;cases h;unfold dD;split
    ·exact sJ (hrow j (by omega)) hq (ho j (by omega)) he
    ·exact pW hrow hq ho j R1 (by omega) hr i (by omega)
def kL (g:Nat) (P:Nat→Nat→List T) (qs:Nat→List T) (row:Option (Nat→List T)):Nat→Option (Nat→List T)
 |0=>row
 |t+1=>match kL g P qs row t with
  |none=>none
  |some R=>dI R (qs t) (P t) g
def fC (u:T):T:=⟨101-u.c,u.m⟩
def gZ (g:Nat) (P:Nat→Nat→List T) (i k:Nat) (u v:T):Option (Nat→List T):=match dI (fun _=>[]) [fC u] (P i) g with
 |none=>none
 |some R=>dI R [v] (P k) g
def rR (g:Nat) (P:Nat→Nat→List T) (i k:Nat) (u v:T) (nq:Nat) (qs:Nat→List T):Option (Nat→List T):=kL g P qs (gZ g P i k u v) nq
theorem lM {g:Nat} {P:Nat→Nat→List T} {qs:Nat→List T} {row:Option (Nat→List T)} {t:Nat} (h:kL g P qs row t=none):∀d,kL g P qs row (t+d)=none
 |0=>h
 |d+1=>by show(match kL g P qs row (t+d)with|none=>none|some R=>dI R (qs (t+d)) (P (t+d)) g)=none;rw[lM h d]
def xO (P:Nat→Nat→List T) (m:Nat) (R:Nat→List T) (i:Nat):Nat→List T:=if i=m then R else P i
def IW (B:Bs) (r:List T) (R:Nat→List T):Bs:=⟨B.m+1,dD B.L B.m r,xO B.P B.m R⟩
abbrev QK (o:Int) (A C:List T):T:=gL o A.length (lf A) C.length (lf C)
abbrev TA (o:Int) (A C:List T):T:=gM o A.length (lf A) C.length (lf C)
abbrev VP (o:Int) (A C:List T):List T×Bool:=dV o (lf A) A.length (lf C) C.length
def gJ (o:Int) (g:Nat) (B:Bs) (i k:Nat):Option Bs:=
 match VP o (B.L i) (B.L k)with
 |(s,true)=>(match aW o s B.m (lN B.L) (fN B.L)with
  |some S=>if S.r.length=0 then some B else if B.m=12 then none else(match rR g B.P i k (QK o (B.L i) (B.L k)) (TA o (B.L i) (B.L k)) B.m S.q with
   |some R=>some (IW B S.r R)
   |none=>none)
  |none=>none)
 |(_,false)=>none
def oN (o:Int) (g:Nat):Nat→Bs→Nat→Bs×Bool
 |0,B,j=>(B,decide (aZ B.m≤j))
 |f+1,B,j=>if j<aZ B.m then(match gJ o g B (pq j).1 (pq j).2 with
  |none=>(B,false)
  |some B'=>oN o g f B' (j+1))else(B,true)
def jD (k i:Nat):List T:=if i=k then[⟨1,⟨0,0,0,0⟩⟩]else[]
def MX (n:Nat) (L:Nat→List T):Bs:=⟨n,L,fun k=>jD k⟩
def eT (o:Int) (n:Nat) (L:Nat→List T) (fuel:Int):Bs×Bool:=
 if(1≤o∧o≤3)∧aT n (lN L) (fN L)=true∧(1≤n∧n≤3)∧(0≤fuel∧fuel≤60)then oN o n fuel.toNat (MX n L) 0 else(⟨0,fun _=>[],fun _ _=>[]⟩,false)
structure EU (o:Int) (g:Nat) (B:Bs):Prop where
 ho:1≤o∧o≤3
 l:aT B.m (lN B.L) (fN B.L)=true
 p:∀i,i<B.m→∀j,j<g→cG (B.P i j)=true
theorem Jo:cG [(⟨1,⟨0,0,0,0⟩⟩:T)]=true:=by decide
theorem JF {o:Int} {n:Nat} {L:Nat→List T} (ho:1≤o∧o≤3) (hl:aT n (lN L) (fN L)=true):EU o n (MX n L):=⟨ho,hl,fun i _ j _=>by
 show cG (jD i j)=true;unfold jD;split
 ·exact Jo
 ·exact oV⟩
theorem CW {a:Int} (h1:1≤a) (h2:a≤100):1≤101-a∧101-a≤100:=by omega
theorem tS {o:Int} {A C:List T} {s:List T} (h:VP o A C=(s,true)):(cG [QK o A C]=true∧cG [fC (QK o A C)]=true∧cG [TA o A C]=true)∧((QK o A C).m.ok=true∧1≤(QK o A C).c∧(QK o A C).c≤100)∧((TA o A C).m.ok=true∧1≤(TA o A C).c∧(TA o A C).c≤100):=by
 have hs:gB o A.length (lf A) C.length (lf C)=true:=by
  unfold VP dV at h;split at h
  ·assumption
  ·cases h
 obtain⟨h1,h2⟩:=xH hs;have g1:=CW h1.2.1 h1.2.2
 exact⟨⟨jE h1,jE ⟨h1.1,g1.1,g1.2⟩,jE h2⟩,h1,h2⟩
theorem AN {g:Nat} {P:Nat→Nat→List T} {i k m:Nat} {u v:T} {qs:Nat→List T} (hi:i<m) (hk:k<m) (hP:∀i,i<m→∀j,j<g→cG (P i j)=true) (hu:cG [fC u]=true) (hv:cG [v]=true) (hq:∀t,t<m→cG (qs t)=true):∀t R,t≤m→kL g P qs (gZ g P i k u v) t=some R→∀j,j<g→cG (R j)=true
 |0,R,_,h=>by
  change gZ g P i k u v=some R at h;unfold gZ at h;split at h
  ·cases h
  ·rename_i R1 h1;exact pW (pW (fun _ _=>oV) hu (hP i hi) g R1 (Nat.le_refl _) h1) hv (hP k hk) g R (Nat.le_refl _) h
 |t+1,R,ht,h=>by
  cases hr:kL g P qs (gZ g P i k u v) t with
  |none=>have:=lM hr 1;rw[this]at h;cases h
  |some R1=>
   have h':dI R1 (qs t) (P t) g=some R:=by
    have:kL g P qs (gZ g P i k u v) (t+1)=dI R1 (qs t) (P t) g:=by show(match kL g P qs (gZ g P i k u v) t with|none=>none|some R=>dI R (qs t) (P t) g)=_;rw[hr]
    rw[←this];exact h
   exact pW (AN hi hk hP hu hv hq t R1 (by omega) hr) (hq t (by omega)) (hP t (by omega)) g R (Nat.le_refl _) h'
theorem YH {m:Nat} {L:Nat→List T} (hl:aT m (lN L) (fN L)=true) (hm:m≠12) {r:List T} (hr:cG r=true) (h0:r.length≠0):aT (m+1) (lN (dD L m r)) (fN (dD L m r))=true:=by
 have h:=aL hl;refine decide_eq_true ⟨by omega,fun i hi=>?_⟩;show(dD L m r i).length≠0∧cG (dD L m r i)=true
 unfold dD;split
 ·exact⟨h0,hr⟩
 ·exact h.2 i (by omega)
theorem xI {o:Int} {g:Nat} {B B':Bs} {i k:Nat} (h:EU o g B) (hi:i<B.m) (hk:k<B.m) (hs:gJ o g B i k=some B'):EU o g B':=by
 unfold gJ at hs;split at hs
 ·rename_i s hsp;split at hs
  ·rename_i S hS;split at hs
   ·cases hs;exact h
   ·rename_i h0;split at hs
    ·cases hs
    ·rename_i h12;split at hs
     ·rename_i R hR;cases hs;obtain⟨d1,d2⟩:=dG hS;obtain⟨⟨_,g2,g3⟩,_⟩:=tS hsp;refine⟨h.ho,YH h.l h12 (gE (by have:=d1.r.2;omega) d1.r.1) h0,fun a ha j hj=>?_⟩;show cG (xO B.P B.m R a j)=true
      unfold xO;split
      ·exact AN hi hk h.p g2 g3 (fun t _=>gE (by have:=(d1.q t).2;omega) (d1.q t).1) B.m R (Nat.le_refl _) hR j hj
      ·have ha':a<B.m+1:=ha;exact h.p a (by omega) j hj
     ·cases hs
  ·cases hs
 ·cases hs
theorem Kn {o:Int} {g:Nat} {B B':Bs} {i k:Nat} (hs:gJ o g B i k=some B'):B.m≤B'.m:=by
 unfold gJ at hs;split at hs
 ·split at hs
  ·split at hs
   ·cases hs;exact Nat.le_refl _
   ·split at hs
    ·cases hs
    ·split at hs
     ·cases hs;exact Nat.le_succ _
     ·cases hs
  ·cases hs
 ·cases hs
end Go.Proofs.YtdidlcjhodejjaaGreat
