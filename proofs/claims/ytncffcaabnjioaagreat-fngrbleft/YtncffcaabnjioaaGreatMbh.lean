/-
  Whether an operator is free of others: the program.
-/
import Derived.Test.YtncffcaabnjioaaGreatMbb
namespace Go.Proofs.YtncffcaabnjioaaGreat
open Go.RowKit Go.Deep Go.Joins
set_option linter.unusedVariables false
end Go.Proofs.YtncffcaabnjioaaGreat
namespace Go.Proofs.YtncffcaabnjioaaGreat
open Go.RowKit
set_option linter.unusedVariables false
def fH:Nat→Nat→Nat
 |0,c=>2*c
 |a+1,c=>2*fH a c+1
def MX (n:Nat):Nat×Nat:=if h:n%2=0 then(0,n / 2)else((MX (n / 2)).1+1,(MX (n / 2)).2)
termination_by n
decreasing_by all_goals omega
theorem xQ:∀a c,MX (fH a c)=(a,c)
 |0,c=>by unfold MX fH;rw[dif_pos (by omega),show 2*c / 2=c by omega]
 |a+1,c=>by have ih:=xQ a c;unfold MX fH;rw[dif_neg (by omega),show(2*fH a c+1) / 2=fH a c by omega,ih]
theorem ZY (n:Nat):fH (MX n).1 (MX n).2=n:=by
 induction n using Nat.strongRecOn with
 |ind n ih=>
  unfold MX;by_cases h:n%2=0
  ·rw[dif_pos h];show 2*(n / 2)=n;omega
  ·rw[dif_neg h];have:=ih (n / 2) (by omega)
   show 2*fH (MX (n / 2)).1 (MX (n / 2)).2+1=n;rw[this];omega
def iM (n:Nat):Nat:=(MX n).1
def nR (n:Nat):Nat:=(MX n).2
theorem yU (a c:Nat):iM (fH a c)=a:=by unfold iM;rw[xQ]
theorem zG (a c:Nat):nR (fH a c)=c:=by unfold nR;rw[xQ]
theorem JC (n:Nat):fH (iM n) (nR n)=n:=ZY n
def rX:Lq:=⟨fun u n k=>u (fH (iM n+1) (nR n)) k,fun _ _=>rfl,fun _ _=>rfl⟩
def rY:Lq:=⟨fun u n k=>u n (fH (iM k+1) (nR k)),fun _ _=>rfl,fun _ _=>rfl⟩
def rD:Lq:=⟨fun u n k=>u (fH (iM n) (nR n+1)) k+nf (iM n)*u (fH (iM n-1) (nR n)) k,fun u v=>by funext n k;simp only[va];grind,fun c u=>by funext n k;simp only[vs];grind⟩
def rE:Lq:=⟨fun u n k=>u n (fH (iM k) (nR k+1))+nf (iM k)*u n (fH (iM k-1) (nR k)),fun u v=>by funext n k;simp only[va];grind,fun c u=>by funext n k;simp only[vs];grind⟩
def aI:sS where
 x:=rX
 y:=rY
 d:=rD
 e:=rE
 wx:=Lq.ext fun u n k=>by
  show u (fH (iM (fH (iM n+1) (nR n))) (nR (fH (iM n+1) (nR n))+1)) k+nf (iM (fH (iM n+1) (nR n)))*u (fH (iM (fH (iM n+1) (nR n))-1) (nR (fH (iM n+1) (nR n)))) k=u (fH (iM (fH (iM n) (nR n+1))+1) (nR (fH (iM n) (nR n+1)))) k+nf (iM n)*u (fH (iM (fH (iM n-1) (nR n))+1) (nR (fH (iM n-1) (nR n)))) k+u n k;simp only[yU,zG];rw[show iM n+1-1=iM n by omega,JC,tM,nF];cases h:iM n with
  |zero=>rw[gT];grind
  |succ m=>rw[show m+1-1+1=m+1 by omega,←h,JC];grind
 wy:=Lq.ext fun u n k=>by
  show u n (fH (iM (fH (iM k+1) (nR k))) (nR (fH (iM k+1) (nR k))+1))+nf (iM (fH (iM k+1) (nR k)))*u n (fH (iM (fH (iM k+1) (nR k))-1) (nR (fH (iM k+1) (nR k))))=u n (fH (iM (fH (iM k) (nR k+1))+1) (nR (fH (iM k) (nR k+1))))+nf (iM k)*u n (fH (iM (fH (iM k-1) (nR k))+1) (nR (fH (iM k-1) (nR k))))+u n k;simp only[yU,zG];rw[show iM k+1-1=iM k by omega,JC,tM,nF];cases h:iM k with
  |zero=>rw[gT];grind
  |succ m=>rw[show m+1-1+1=m+1 by omega,←h,JC];grind
 xy:=rfl
 xe:=rfl
 dy:=rfl
 de:=Lq.ext fun u n k=>by
  show(_+nf _*_)+nf (iM k)*(_+nf _*_)=(_+nf _*_)+nf (iM n)*(_+nf _*_)
  grind
theorem QD (u:Vq) (c k:Nat):∀j i,(Lq.pow rX j).f u (fH i c) k=u (fH (i+j) c) k
 |0,i=>rfl
 |j+1,i=>by
  rw[Lq.pow_succ'];show(Lq.pow rX j).f (rX.f u) (fH i c) k=_
  rw[QD (rX.f u) c k j i];show u (fH (iM (fH (i+j) c)+1) (nR (fH (i+j) c))) k=_
  rw[yU,zG];rfl
theorem QE (u:Vq) (n c:Nat):∀j i,(Lq.pow rY j).f u n (fH i c)=u n (fH (i+j) c)
 |0,i=>rfl
 |j+1,i=>by
  rw[Lq.pow_succ'];show(Lq.pow rY j).f (rY.f u) n (fH i c)=_
  rw[QE (rY.f u) n c j i];show u n (fH (iM (fH (i+j) c)+1) (nR (fH (i+j) c)))=_
  rw[yU,zG];rfl
theorem QB (u:Vq) (k:Nat):∀j i,(Lq.pow rD j).f u (fH 0 i) k=u (fH 0 (i+j)) k
 |0,i=>rfl
 |j+1,i=>by
  rw[Lq.pow_succ'];show(Lq.pow rD j).f (rD.f u) (fH 0 i) k=_
  rw[QB (rD.f u) k j i];show u (fH (iM (fH 0 (i+j))) (nR (fH 0 (i+j))+1)) k+nf (iM (fH 0 (i+j)))*_=_
  rw[yU,zG,gT];show u (fH 0 (i+(j+1))) k+0*_=_
  grind
theorem QC (u:Vq) (n:Nat):∀j i,(Lq.pow rE j).f u n (fH 0 i)=u n (fH 0 (i+j))
 |0,i=>rfl
 |j+1,i=>by
  rw[Lq.pow_succ'];show(Lq.pow rE j).f (rE.f u) n (fH 0 i)=_
  rw[QC (rE.f u) n j i];show u n (fH (iM (fH 0 (i+j))) (nR (fH 0 (i+j))+1))+nf (iM (fH 0 (i+j)))*_=_
  rw[yU,zG,gT];show u n (fH 0 (i+(j+1)))+0*_=_
  grind
theorem XQ (m:M) (u:Vq):(mo aI m).f u 0 0=u (fH m.x.toNat m.d.toNat) (fH m.y.toNat m.e.toNat):=by
 have e0:(0:Nat)=fH 0 0:=rfl;show(Lq.pow rE m.e.toNat).f ((Lq.pow rD m.d.toNat).f ((Lq.pow rY m.y.toNat).f ((Lq.pow rX m.x.toNat).f u))) 0 0=_
 rw[show(Lq.pow rE m.e.toNat).f ((Lq.pow rD m.d.toNat).f ((Lq.pow rY m.y.toNat).f ((Lq.pow rX m.x.toNat).f u))) 0 0=(Lq.pow rE m.e.toNat).f ((Lq.pow rD m.d.toNat).f ((Lq.pow rY m.y.toNat).f ((Lq.pow rX m.x.toNat).f u))) 0 (fH 0 0)from rfl,QC];rw[show(Lq.pow rD m.d.toNat).f ((Lq.pow rY m.y.toNat).f ((Lq.pow rX m.x.toNat).f u)) 0 (fH 0 (0+m.e.toNat))=(Lq.pow rD m.d.toNat).f ((Lq.pow rY m.y.toNat).f ((Lq.pow rX m.x.toNat).f u)) (fH 0 0) (fH 0 (0+m.e.toNat))from rfl,QB,QE,QD];simp only[Nat.zero_add]
def M.nn (m:M):Prop:=0≤m.x∧0≤m.y∧0≤m.d∧0≤m.e
theorem mP {m:M} (h:m.ok=true):m.nn:=by obtain⟨x1,x2,y1,y2,d1,d2,e1,e2⟩:=M.ok_iff.1 h;exact⟨x1,y1,d1,e1⟩
theorem iC {a b:M} (ha:a.nn) (hb:b.nn):(a.sum b).nn:=by obtain⟨a1,a2,a3,a4⟩:=ha;obtain⟨b1,b2,b3,b4⟩:=hb;exact⟨Int.add_nonneg a1 b1,Int.add_nonneg a2 b2,Int.add_nonneg a3 b3,Int.add_nonneg a4 b4⟩
def Ay (m:M):Vq:=fun n k=>if n=fH m.x.toNat m.d.toNat∧k=fH m.y.toNat m.e.toNat then 1 else 0
def uG (A:Lq) (m:M):Fq:=A.f (Ay m) 0 0
theorem CK {a m:M} (ha:a.nn) (hm:m.nn):uG (mo aI a) m=dl m a:=by
 unfold uG dl;rw[XQ];unfold Ay;by_cases e:a=m
 ·rw[if_pos (dL.2 e.symm),if_pos (by rw[e];exact⟨rfl,rfl⟩)]
 ·rw[if_neg (fun h=>e (dL.1 h).symm),if_neg];rintro⟨h1,h2⟩;have i1:=xQ a.x.toNat a.d.toNat
  rw[h1,xQ]at i1;have i2:=xQ a.y.toNat a.e.toNat
  rw[h2,xQ]at i2;simp only[Prod.mk.injEq]at i1 i2;obtain⟨a1,a2,a3,a4⟩:=ha;obtain⟨b1,b2,b3,b4⟩:=hm;refine e ?_;have j1:a.x=m.x:=by omega
  have j2:a.y=m.y:=by omega
  have j3:a.d=m.d:=by omega
  have j4:a.e=m.e:=by omega
  cases a;cases m;simp only at j1 j2 j3 j4;rw[j1,j2,j3,j4]
theorem tD (A B:Lq) (m:M):uG (Lq.sum A B) m=uG A m+uG B m:=rfl
theorem NV (c:Fq) (A:Lq) (m:M):uG (Lq.sc c A) m=c*uG A m:=rfl
theorem EZ (m:M):uG Lq.nil m=0:=rfl
theorem WD (L:List T) (hL:∀t∈L,t.m.nn) {m:M} (hm:m.nn):uG (Rp aI L) m=kK (dl m) L:=by
 show su L (fun t=>zz t.c*(mo aI t.m).f (Ay m) 0 0)=su L (fun t=>zz t.c*dl m t.m);refine dX (fun t ht=>?_);have:=CK (hL t ht) hm
 unfold uG at this;rw[this]
theorem TF {L:List T} (hL:aK L) {m:M} (hm:m.ok=true):uG (Rp aI L) m=zz (aL L m):=by rw[←OY hL hm];exact WD L (fun t ht=>mP (hL.2 t ht).1) (mP hm)
theorem TG {L:List T} (hL:aK L) (h:Rp aI L=Lq.nil):L=[]:=by
 cases L with
 |nil=>rfl
 |cons t r=>
  have ht:=hL.2 t (List.mem_cons_self ..);have h1:=TF hL ht.1
  rw[h,EZ,bC]at h1;exact absurd h1.symm (zL ht.2.1 ht.2.2)
def kf (o:Int) (a:M):Int:=if o=1 then a.x+a.y+a.d+a.e else if o=3 then a.d+a.x else 0
def nA (o:Int) (a b:M):Prop:=kf o a<kf o b∨(kf o a=kf o b∧(a.d<b.d∨(a.d=b.d∧(a.e<b.e∨(a.e=b.e∧(a.x<b.x∨(a.x=b.x∧a.y<b.y)))))))
theorem Ao (a:M):kf 1 a=a.x+a.y+a.d+a.e:=if_pos rfl
theorem Ap (a:M):kf 2 a=0:=(if_neg (by decide)).trans (if_neg (by decide))
theorem Aq (a:M):kf 3 a=a.d+a.x:=(if_neg (by decide)).trans (if_pos rfl)
theorem Ab (a:M):iX 1 a=dY a:=if_pos rfl
theorem Ac (a:M):iX 2 a=fK a:=(if_neg (by decide)).trans (if_neg (by decide))
theorem Ad (a:M):iX 3 a=tS a:=(if_neg (by decide)).trans (if_pos rfl)
theorem AE (o:Int) (a b:M):kf o (a.sum b)=kf o a+kf o b:=by
 unfold kf M.sum;split
 ·simp only;omega
 ·split
  ·simp only;omega
  ·rfl
theorem mJ {o:Int} {a b c:M} (h1:nA o a b) (h2:nA o b c):nA o a c:=by unfold nA at *;generalize kf o a=p at *;generalize kf o b=q at *;generalize kf o c=r at *;omega
theorem sC {o:Int} {a:M} (h:nA o a a):False:=by unfold nA at h;omega
theorem oF {a b:M} (h1:a.x=b.x) (h2:a.y=b.y) (h3:a.d=b.d) (h4:a.e=b.e):a=b:=by cases a;cases b;simp only at h1 h2 h3 h4;rw[h1,h2,h3,h4]
theorem UF (o:Int) (a b:M):nA o a b∨a=b∨nA o b a:=by
 by_cases e:a.x=b.x∧a.y=b.y∧a.d=b.d∧a.e=b.e
 ·exact .inr (.inl (oF e.1 e.2.1 e.2.2.1 e.2.2.2))
 ·unfold nA;generalize kf o a=p;generalize kf o b=q;omega
theorem IG {o:Int} {a b:M} (c:M) (h:nA o a b):nA o (a.sum c) (b.sum c):=by unfold nA at *;rw[AE,AE];unfold M.sum;simp only;generalize kf o a=p at *;generalize kf o b=q at *;omega
theorem wK {o:Int} {a b:M} (c:M) (h:nA o a b):nA o (c.sum a) (c.sum b):=by unfold nA at *;rw[AE,AE];unfold M.sum;simp only;generalize kf o a=p at *;generalize kf o b=q at *;omega
theorem UE {o:Int} (ho:1≤o∧o≤3) (a b:M) {i k:Int} (hi:0≤i) (hk:0≤k) (h:0<i+k):nA o ⟨a.x+b.x-i,a.y+b.y-k,a.d+b.d-i,a.e+b.e-k⟩ (a.sum b):=by
 have h3:o=1∨o=2∨o=3:=by omega
 unfold nA;rcases h3 with rfl|rfl|rfl
 ·rw[Ao,Ao];unfold M.sum;simp only;omega
 ·rw[Ap,Ap];unfold M.sum;simp only;by_cases hi0:i=0
  ·exact .inr ⟨trivial,.inr ⟨by omega,.inl (by omega)⟩⟩
  ·exact .inr ⟨trivial,.inl (by omega)⟩
 ·rw[Aq,Aq];unfold M.sum;simp only;by_cases hi0:i=0
  ·exact .inr ⟨by omega,.inr ⟨by omega,.inl (by omega)⟩⟩
  ·exact .inl (by omega)
theorem AX {o:Int} (ho:1≤o∧o≤3) {a b:M} (ha:a.ok=true) (hb:b.ok=true) (h:iX o a<iX o b):nA o a b:=by
 obtain⟨x1,x2,y1,y2,d1,d2,e1,e2⟩:=M.ok_iff.1 ha;obtain⟨x3,x4,y3,y4,d3,d4,e3,e4⟩:=M.ok_iff.1 hb;have h3:o=1∨o=2∨o=3:=by omega
 unfold nA;rcases h3 with rfl|rfl|rfl
 ·rw[Ab,Ab]at h;rw[Ao,Ao];unfold dY fK at h;omega
 ·rw[Ac,Ac]at h;rw[Ap,Ap];unfold fK at h;omega
 ·rw[Ad,Ad]at h;rw[Aq,Aq];unfold tS fK at h;omega
def UP (a b:M) (i k:Nat):M:=⟨a.x+b.x-(i:Int),a.y+b.y-(k:Int),a.d+b.d-(i:Int),a.e+b.e-(k:Int)⟩
theorem PA (a b:M):UP a b 0 0=a.sum b:=by unfold UP M.sum;simp
theorem US (g:sS) (a b:M) (ha:a.nn) (hb:b.nn):Lq.mul (mo g a) (mo g b)=Lq.sumN (fun i=>Lq.sumN (fun k=>Lq.sc (nf (wN a.d.toNat b.x.toNat i)*nf (wN a.e.toNat b.y.toNat k)) (mo g (UP a b i k))) (min a.e.toNat b.y.toNat+1)) (min a.d.toNat b.x.toNat+1):=by
 obtain⟨ax0,ay0,ad0,ae0⟩:=ha;obtain⟨bx0,by0,bd0,be0⟩:=hb;have e1:Lq.mul (mo g a) (mo g b)=Lq.mul (Lq.mul (Lq.pow g.x a.x.toNat) (Lq.pow g.y a.y.toNat)) (Lq.mul (Lq.mul (Lq.pow g.d a.d.toNat) (Lq.pow g.x b.x.toNat)) (Lq.mul (Lq.mul (Lq.pow g.e a.e.toNat) (Lq.pow g.y b.y.toNat)) (Lq.mul (Lq.pow g.d b.d.toNat) (Lq.pow g.e b.e.toNat)))):=by
  have h:=g.xe.symm.pows a.e.toNat b.x.toNat
  calc _=Lq.mul (Lq.mul (Lq.pow g.x a.x.toNat) (Lq.pow g.y a.y.toNat)) (Lq.mul (Lq.pow g.d a.d.toNat) (Lq.mul (Lq.mul (Lq.pow g.e a.e.toNat) (Lq.pow g.x b.x.toNat)) (Lq.mul (Lq.pow g.y b.y.toNat) (Lq.mul (Lq.pow g.d b.d.toNat) (Lq.pow g.e b.e.toNat))))):=rfl
   _=Lq.mul (Lq.mul (Lq.pow g.x a.x.toNat) (Lq.pow g.y a.y.toNat)) (Lq.mul (Lq.pow g.d a.d.toNat) (Lq.mul (Lq.mul (Lq.pow g.x b.x.toNat) (Lq.pow g.e a.e.toNat)) (Lq.mul (Lq.pow g.y b.y.toNat) (Lq.mul (Lq.pow g.d b.d.toNat) (Lq.pow g.e b.e.toNat))))):=by rw[h]
   _=_:=rfl
 rw[e1,pQ g.wx,pQ g.wy,iZ,Lq.mul_sumN];refine Lq.sumN_congr (fun i hi=>?_);rw[Lq.sc_mul,Lq.mul_sc,iZ,Lq.mul_sumN,Lq.mul_sumN,iL];refine Lq.sumN_congr (fun k hk=>?_);rw[Lq.sc_mul,Lq.mul_sc,Lq.mul_sc,Lq.sc_sc,JH (g.xy.symm.pows _ _) (g.dy.pows _ _) (g.de.symm.pows _ _),←Lq.pow_add,←Lq.pow_add,←Lq.pow_add,←Lq.pow_add];unfold mo UP;simp only;rw[show a.x.toNat+(b.x.toNat-i)=(a.x+b.x-(i:Int)).toNat by omega,show a.y.toNat+(b.y.toNat-k)=(a.y+b.y-(k:Int)).toNat by omega,show a.d.toNat-i+b.d.toNat=(a.d+b.d-(i:Int)).toNat by omega,show a.e.toNat-k+b.e.toNat=(a.e+b.e-(k:Int)).toNat by omega]
theorem JR (b c:Nat):wN b c 0=1:=by unfold wN;rw[vV];rfl
inductive Lw (g:sS) (o:Int) (μ:M):Lq→Prop
 |nil:Lw g o μ Lq.nil
 |cons {A:Lq} (c:Fq) (m:M):m.nn→nA o m μ→Lw g o μ A→Lw g o μ (Lq.sum (Lq.sc c (mo g m)) A)
theorem Lw.sum {g:sS} {o:Int} {μ:M} {A B:Lq} (h:Lw g o μ A) (h':Lw g o μ B):Lw g o μ (Lq.sum A B):=by
 induction h with
 |nil=>rw[Lq.sum_comm,Lq.sum_nil];exact h'
 |cons c m h1 h2 h3 ih=>rw[Lq.sum_assoc];exact Lw.cons c m h1 h2 ih
theorem Lw.one {g:sS} {o:Int} {μ:M} (c:Fq) {m:M} (h1:m.nn) (h2:nA o m μ):Lw g o μ (Lq.sc c (mo g m)):=by
 have:=Lw.cons (g:=g) c m h1 h2 Lw.nil
 rwa[Lq.sum_nil]at this
theorem Lw.sumN {g:sS} {o:Int} {μ:M} {f:Nat→Lq}:∀n,(∀i,i<n→Lw g o μ (f i))→Lw g o μ (Lq.sumN f n)
 |0,_=>Lw.nil
 |n+1,h=>by rw[Lq.sumN];exact(Lw.sumN n (fun i hi=>h i (by omega))).sum (h n (by omega))
theorem qT (g:sS) {o:Int} (ho:1≤o∧o≤3) {a b:M} (ha:a.nn) (hb:b.nn):∃A,Lw g o (a.sum b) A∧Lq.mul (mo g a) (mo g b)=Lq.sum (mo g (a.sum b)) A:=by
 have hnn:∀i k:Nat,i<min a.d.toNat b.x.toNat+1→k<min a.e.toNat b.y.toNat+1→(UP a b i k).nn:=fun i k hi hk=>by obtain⟨ax0,ay0,ad0,ae0⟩:=ha;obtain⟨bx0,by0,bd0,be0⟩:=hb;refine⟨?_,?_,?_,?_⟩<;>(unfold UP;simp only;omega)
 have hlt:∀i k:Nat,0<i+k→nA o (UP a b i k) (a.sum b):=fun i k h=>UE ho a b (by omega) (by omega) (by omega);rw[US g a b ha hb,Lq.sumN_head,Lq.sumN_head];refine⟨Lq.sum (Lq.sumN (fun i=>Lq.sc (nf (wN a.d.toNat b.x.toNat 0)*nf (wN a.e.toNat b.y.toNat (i+1))) (mo g (UP a b 0 (i+1)))) (min a.e.toNat b.y.toNat)) (Lq.sumN (fun i=>Lq.sumN (fun k=>Lq.sc (nf (wN a.d.toNat b.x.toNat (i+1))*nf (wN a.e.toNat b.y.toNat k)) (mo g (UP a b (i+1) k))) (min a.e.toNat b.y.toNat+1)) (min a.d.toNat b.x.toNat)),?_,?_⟩
 ·refine Lw.sum (Lw.sumN _ (fun i hi=>Lw.one _ (hnn _ _ (by omega) (by omega)) (hlt _ _ (by omega)))) (Lw.sumN _ (fun i hi=>Lw.sumN _ (fun k hk=>Lw.one _ (hnn _ _ (by omega) (by omega)) (hlt _ _ (by omega)))))
 ·rw[Lq.sum_assoc,JR,JR,nF,PA,show(1:Fq)*1=1 from rfl,Lq.sc_one]
theorem Lw.cf {o:Int} {μ m:M} {A:Lq} (h:Lw aI o μ A) (hm:m.nn) (hl:¬nA o m μ):uG A m=0:=by
 induction h with
 |nil=>exact EZ m
 |cons c a h1 h2 h3 ih=>
  rw[tD,NV,ih,CK h1 hm];unfold dl;rw[if_neg]
  ·grind
  ·intro e;rw[dL.1 e]at hl;exact hl h2
variable (o:Int) (n:Nat) (L:Nat→List T)
def eO (j:Nat):M:=(dQ o (L j)).m
structure qZ:Prop where
 ho:1≤o∧o≤3
 fl:∀j,j<n→cT (L j)=true∧(L j).length≠0
variable {o n L}
theorem qZ.mem (h:qZ o n L) {j:Nat} (hj:j<n):dQ o (L j)∈L j:=kC (h.fl j hj).2
theorem qZ.falls (h:qZ o n L) {j:Nat} (hj:j<n):aK (L j):=(aE (h.fl j hj).1).2
theorem qZ.good (h:qZ o n L) {j:Nat} (hj:j<n):(dQ o (L j)).m.ok=true∧1≤(dQ o (L j)).c∧(dQ o (L j)).c≤100:=(h.falls hj).2 _ (h.mem hj)
theorem qZ.nn (h:qZ o n L) {j:Nat} (hj:j<n):(eO o L j).nn:=mP (h.good hj).1
theorem qZ.top (h:qZ o n L) {j:Nat} (hj:j<n) {t:T} (ht:t∈L j) (hne:t.m≠eO o L j):nA o t.m (eO o L j):=by
 have h1:=AK h.ho (h.fl j hj).1 (h.fl j hj).2 t ht;have h2:=((h.falls hj).2 t ht).1
 have h3:=(h.good hj).1;refine AX h.ho h2 h3 ?_;rcases Int.lt_or_eq_of_le h1 with h4|h4
 ·exact h4
 ·exact absurd (pS _ _ h2 h3 h4) hne
theorem vU (A:Lq) (m:M):∀K:List T,uG (Lq.mul A (Rp aI K)) m=su K (fun t=>zz t.c*uG (Lq.mul A (mo aI t.m)) m)
 |[]=>rfl
 |t::r=>by rw[su,←vU A m r];rfl
theorem qZ.cf_top (h:qZ o n L) {j:Nat} (hj:j<n) {m:M} (hm:m.nn):uG (Lq.mul (mo aI m) (Rp aI (L j))) (m.sum (eO o L j))=zz (dQ o (L j)).c:=by
 have hδ:=iC hm (h.nn hj);rw[vU,sN (h.falls hj) (h.mem hj) (fun t ht hne=>?_)]
 ·obtain⟨A,h1,h2⟩:=qT aI h.ho hm (h.nn hj);have e:uG (Lq.mul (mo aI m) (mo aI (eO o L j))) (m.sum (eO o L j))=1:=by rw[h2,tD,h1.cf hδ sC,CK hδ hδ];unfold dl;rw[if_pos (dL.2 rfl)];decide
  have e':uG (Lq.mul (mo aI m) (mo aI (dQ o (L j)).m)) (m.sum (eO o L j))=1:=e;rw[e']
  grind
 ·have h4:=mP ((h.falls hj).2 t ht).1;obtain⟨A,h1,h2⟩:=qT aI h.ho hm h4;have h3:=wK m (h.top hj ht hne)
  have e:uG (Lq.mul (mo aI m) (mo aI t.m)) (m.sum (eO o L j))=0:=by
   rw[h2,tD,h1.cf hδ (fun q=>sC (mJ q h3)),CK (iC hm h4) hδ];unfold dl;rw[if_neg]
   ·decide
   ·intro q;rw[dL.1 q]at h3;exact sC h3
  rw[e]
  grind
theorem qZ.cf_off (h:qZ o n L) {j:Nat} (hj:j<n) {m δ:M} (hm:m.nn) (hδ:δ.nn) (hl:nA o (m.sum (eO o L j)) δ):uG (Lq.mul (mo aI m) (Rp aI (L j))) δ=0:=by
 rw[vU];refine nT _ _ (fun t ht=>?_);have h4:=mP ((h.falls hj).2 t ht).1
 obtain⟨A,h1,h2⟩:=qT aI h.ho hm h4;have h3:nA o (m.sum t.m) δ:=by
  by_cases e:t.m=eO o L j
  ·rw[e];exact hl
  ·exact mJ (wK m (h.top hj ht e)) hl
 rw[h2,tD,h1.cf hδ (fun q=>sC (mJ q h3)),CK (iC hm h4) hδ];unfold dl;rw[if_neg]
 ·grind
 ·intro q;rw[dL.1 q]at h3;exact sC h3
inductive Lo (o:Int) (n:Nat) (L:Nat→List T) (δ:M):Lq→Prop
 |nil:Lo o n L δ Lq.nil
 |cons {A:Lq} (c:Fq) (m:M) (j:Nat):j<n→m.nn→nA o (m.sum (eO o L j)) δ→Lo o n L δ A→Lo o n L δ (Lq.sum (Lq.sc c (Lq.mul (mo aI m) (Rp aI (L j)))) A)
theorem Lo.sum {δ:M} {A B:Lq} (h:Lo o n L δ A) (h':Lo o n L δ B):Lo o n L δ (Lq.sum A B):=by
 induction h with
 |nil=>rw[Lq.sum_comm,Lq.sum_nil];exact h'
 |cons c m j h1 h2 h3 h4 ih=>rw[Lq.sum_assoc];exact Lo.cons c m j h1 h2 h3 ih
theorem Lo.sc {δ:M} {A:Lq} (d:Fq) (h:Lo o n L δ A):Lo o n L δ (Lq.sc d A):=by
 induction h with
 |nil=>
  rw[show Lq.sc d Lq.nil=Lq.nil from Lq.ext fun u n k=>by show d*(0:Fq)=0;grind];exact Lo.nil
 |cons c m j h1 h2 h3 h4 ih=>rw[Lq.sc_sum,Lq.sc_sc];exact Lo.cons _ m j h1 h2 h3 ih
theorem Lo.mono {δ δ':M} {A:Lq} (h:Lo o n L δ A) (hd:nA o δ δ'∨δ=δ'):Lo o n L δ' A:=by
 induction h with
 |nil=>exact Lo.nil
 |cons c m j h1 h2 h3 h4 ih=>
  refine Lo.cons c m j h1 h2 ?_ ih;rcases hd with hd|hd
  ·exact mJ h3 hd
  ·rw[←hd];exact h3
theorem Lo.one {δ:M} (c:Fq) {m:M} {j:Nat} (h1:j<n) (h2:m.nn) (h3:nA o (m.sum (eO o L j)) δ):Lo o n L δ (Lq.sc c (Lq.mul (mo aI m) (Rp aI (L j)))):=by
 have:=Lo.cons c m j h1 h2 h3 (Lo.nil (o:=o) (n:=n) (L:=L) (δ:=δ))
 rwa[Lq.sum_nil]at this
theorem Lw.lo {μ δ:M} {A:Lq} {j:Nat} (hj:j<n) (h:Lw aI o μ A) (hd:nA o (μ.sum (eO o L j)) δ∨μ.sum (eO o L j)=δ):Lo o n L δ (Lq.mul A (Rp aI (L j))):=by
 induction h with
 |nil=>rw[Lq.nil_mul];exact Lo.nil
 |cons c m h1 h2 h3 ih=>
  rw[Lq.sum_mul,Lq.sc_mul];refine Lo.cons c m j hj h1 ?_ ih;rcases hd with hd|hd
  ·exact mJ (IG _ h2) hd
  ·rw[←hd];exact IG _ h2
theorem Lo.mul (hL:qZ o n L) {δ s:M} {A:Lq} (hs:s.nn) (h:Lo o n L δ A):Lo o n L (s.sum δ) (Lq.mul (mo aI s) A):=by
 induction h with
 |nil=>rw[Lq.mul_nil];exact Lo.nil
 |cons c m j h1 h2 h3 h4 ih=>
  rw[Lq.mul_sum,Lq.mul_sc,←Lq.mul_assoc];obtain⟨B,hB,e⟩:=qT aI hL.ho hs h2;rw[e,Lq.sum_mul];have has:(s.sum m).sum (eO o L j)=s.sum (m.sum (eO o L j)):=by unfold M.sum;refine oF ?_ ?_ ?_ ?_<;>(simp only;omega)
  have h5:nA o ((s.sum m).sum (eO o L j)) (s.sum δ):=by rw[has];exact wK s h3
  refine Lo.sum (Lo.sc c (Lo.sum ?_ (hB.lo h1 (.inl h5)))) ih;have:=Lo.one (o:=o) (n:=n) (L:=L) (δ:=s.sum δ) 1 h1 (iC hs h2) h5
  rwa[Lq.sc_one]at this
def M.le (a b:M):Prop:=a.x≤b.x∧a.y≤b.y∧a.d≤b.d∧a.e≤b.e
def M.sub (b a:M):M:=⟨b.x-a.x,b.y-a.y,b.d-a.d,b.e-a.e⟩
theorem mE {a b:M}:(M.sub b a).sum a=b:=by unfold M.sub M.sum;refine oF ?_ ?_ ?_ ?_<;>(simp only;omega)
theorem oG {a b:M} (h:M.le a b):(M.sub b a).nn:=by obtain⟨h1,h2,h3,h4⟩:=h;unfold M.sub;exact⟨by simp only;omega,by simp only;omega,by simp only;omega,by simp only;omega⟩
def tv (o:Int) (L:Nat→List T) (δ:M):List (Fq×Nat)→Lq
 |[]=>Lq.nil
 |(c,j)::r=>Lq.sum (Lq.sc c (Lq.mul (mo aI (M.sub δ (eO o L j))) (Rp aI (L j)))) (tv o L δ r)
def Tp (o:Int) (n:Nat) (L:Nat→List T) (δ:M) (tp:List (Fq×Nat)):Prop:=∀q∈tp,q.2<n∧M.le (eO o L q.2) δ
theorem Ai {δ δ':M} {tp:List (Fq×Nat)} (h:Tp o n L δ tp) (hd:nA o δ δ'):Lo o n L δ' (tv o L δ tp):=by
 induction tp with
 |nil=>exact Lo.nil
 |cons q r ih=>
  obtain⟨h1,h2⟩:=h q (List.mem_cons_self ..);exact Lo.cons q.1 _ q.2 h1 (oG h2) (by rw[mE];exact hd) (ih (fun s hs=>h s (List.mem_cons_of_mem _ hs)))
def Le (o:Int) (n:Nat) (L:Nat→List T) (δ:M) (A:Lq):Prop:=∃tp B,Tp o n L δ tp∧Lo o n L δ B∧A=Lq.sum (tv o L δ tp) B
theorem Le.lo {δ δ':M} {A:Lq} (h:Le o n L δ A) (hd:nA o δ δ'):Lo o n L δ' A:=by obtain⟨tp,B,h1,h2,rfl⟩:=h;exact(Ai h1 hd).sum (h2.mono (.inl hd))
theorem Lo.max (hL:qZ o n L) {δ:M} {A:Lq} (h:Lo o n L δ A):A=Lq.nil∨∃δ',δ'.nn∧nA o δ' δ∧Le o n L δ' A:=by
 induction h with
 |nil=>exact .inl rfl
 |cons c m j h1 h2 h3 h4 ih=>
  have hμ:=iC h2 (hL.nn h1);have hle:M.le (eO o L j) (m.sum (eO o L j)):=by obtain⟨a1,a2,a3,a4⟩:=h2;unfold M.sum;exact⟨by simp only;omega,by simp only;omega,by simp only;omega,by simp only;omega⟩
  have esub:M.sub (m.sum (eO o L j)) (eO o L j)=m:=by unfold M.sub M.sum;refine oF ?_ ?_ ?_ ?_<;>(simp only;omega)
  right;rcases ih with e|⟨δ',d1,d2,d3⟩
  ·refine⟨_,hμ,h3,[(c,j)],Lq.nil,fun q hq=>?_,Lo.nil,?_⟩
   ·rw[List.mem_singleton.1 hq];exact⟨h1,hle⟩
   ·rw[e];show _=Lq.sum (Lq.sum (Lq.sc c (Lq.mul (mo aI (M.sub (m.sum (eO o L j)) (eO o L j))) (Rp aI (L j)))) Lq.nil) Lq.nil
    rw[esub,Lq.sum_nil,Lq.sum_nil]
  ·rcases UF o (m.sum (eO o L j)) δ' with q|q|q
   ·obtain⟨tp,B,e1,e2,rfl⟩:=d3;refine⟨δ',d1,d2,tp,Lq.sum (Lq.sc c (Lq.mul (mo aI m) (Rp aI (L j)))) B,e1,Lo.cons c m j h1 h2 q e2,?_⟩;rw[←Lq.sum_assoc,Lq.sum_comm _ (tv o L δ' tp),Lq.sum_assoc]
   ·obtain⟨tp,B,e1,e2,rfl⟩:=d3;refine⟨δ',d1,d2,(c,j)::tp,B,fun z hz=>?_,e2,?_⟩
    ·rcases List.mem_cons.1 hz with rfl|hz
     ·exact⟨h1,by rw[←q];exact hle⟩
     ·exact e1 z hz
    ·show _=Lq.sum (Lq.sum (Lq.sc c (Lq.mul (mo aI (M.sub δ' (eO o L j))) (Rp aI (L j)))) (tv o L δ' tp)) B;rw[←q,esub,Lq.sum_assoc]
   ·refine⟨_,hμ,h3,[(c,j)],_,fun z hz=>?_,d3.lo q,?_⟩
    ·rw[List.mem_singleton.1 hz];exact⟨h1,hle⟩
    ·show _=Lq.sum (Lq.sum (Lq.sc c (Lq.mul (mo aI (M.sub (m.sum (eO o L j)) (eO o L j))) (Rp aI (L j)))) Lq.nil) _;rw[esub,Lq.sum_nil]
theorem Lo.cf0 (hL:qZ o n L) {δ:M} {A:Lq} (hδ:δ.nn) (h:Lo o n L δ A):uG A δ=0:=by
 induction h with
 |nil=>exact EZ δ
 |cons c m j h1 h2 h3 h4 ih=>rw[tD,NV,hL.cf_off h1 h2 hδ h3,ih];grind
def M.lcm (a b:M):M:=⟨if a.x≤b.x then b.x else a.x,if a.y≤b.y then b.y else a.y,if a.d≤b.d then b.d else a.d,if a.e≤b.e then b.e else a.e⟩
theorem NF (a b:M):M.le a (M.lcm a b)∧M.le b (M.lcm a b):=by unfold M.le M.lcm;simp only;refine⟨⟨?_,?_,?_,?_⟩,?_,?_,?_,?_⟩<;>(split<;>omega)
theorem NE {a b c:M} (h1:M.le a c) (h2:M.le b c):M.le (M.lcm a b) c:=by obtain⟨a1,a2,a3,a4⟩:=h1;obtain⟨b1,b2,b3,b4⟩:=h2;unfold M.le M.lcm;simp only;refine⟨?_,?_,?_,?_⟩<;>(split<;>omega)
def vM (o:Int) (n:Nat) (L:Nat→List T) (i k:Nat):Prop:=∀u v:Fq,u*zz (dQ o (L i)).c=1→v*zz (dQ o (L k)).c=1→Lo o n L (M.lcm (eO o L i) (eO o L k)) (Lq.sum (Lq.sc u (Lq.mul (mo aI (M.sub (M.lcm (eO o L i) (eO o L k)) (eO o L i))) (Rp aI (L i)))) (Lq.sc (-v) (Lq.mul (mo aI (M.sub (M.lcm (eO o L i) (eO o L k)) (eO o L k))) (Rp aI (L k)))))
theorem KB {a b c:M}:(M.sub c b).sum (M.sub b a)=M.sub c a:=by unfold M.sub M.sum;refine oF ?_ ?_ ?_ ?_<;>(simp only;omega)
theorem vM.up (hL:qZ o n L) {i k:Nat} (hi:i<n) (hk:k<n) (h:vM o n L i k) {δ:M} (hδi:M.le (eO o L i) δ) (hδk:M.le (eO o L k) δ) {u v:Fq} (hu:u*zz (dQ o (L i)).c=1) (hv:v*zz (dQ o (L k)).c=1):Lo o n L δ (Lq.sum (Lq.sc u (Lq.mul (mo aI (M.sub δ (eO o L i))) (Rp aI (L i)))) (Lq.sc (-v) (Lq.mul (mo aI (M.sub δ (eO o L k))) (Rp aI (L k))))):=by
 have hb:=NE hδi hδk;have hs:=oG hb
 obtain⟨l1,l2⟩:=NF (eO o L i) (eO o L k);obtain⟨A,a1,a2⟩:=qT aI hL.ho hs (oG l1);obtain⟨B,b1,b2⟩:=qT aI hL.ho hs (oG l2);rw[KB]at a1 a2 b1 b2;have key:=(h u v hu hv).mul hL hs
 rw[mE]at key;have la:=(a1.lo hi (.inr (mE))).sc (-u)
 have lb:=(b1.lo hk (.inr (mE))).sc v;have tot:=(key.sum la).sum lb
 have e:Lq.sum (Lq.sum (Lq.mul (mo aI (M.sub δ (M.lcm (eO o L i) (eO o L k)))) (Lq.sum (Lq.sc u (Lq.mul (mo aI (M.sub (M.lcm (eO o L i) (eO o L k)) (eO o L i))) (Rp aI (L i)))) (Lq.sc (-v) (Lq.mul (mo aI (M.sub (M.lcm (eO o L i) (eO o L k)) (eO o L k))) (Rp aI (L k)))))) (Lq.sc (-u) (Lq.mul A (Rp aI (L i))))) (Lq.sc v (Lq.mul B (Rp aI (L k))))=Lq.sum (Lq.sc u (Lq.mul (mo aI (M.sub δ (eO o L i))) (Rp aI (L i)))) (Lq.sc (-v) (Lq.mul (mo aI (M.sub δ (eO o L k))) (Rp aI (L k)))):=by
  rw[Lq.mul_sum,Lq.mul_sc,Lq.mul_sc,←Lq.mul_assoc,←Lq.mul_assoc,a2,b2,Lq.sum_mul,Lq.sum_mul];refine Lq.ext fun w p q=>?_;simp only[xL,GH]
  grind
 rw[e]at tot;exact tot
theorem OP (c:Fq) (h:c≠0):∃u:Fq,u*c=1:=by
 have key:∀c:Fq,c≠0→∃u:Fq,u*c=1:=by decide+kernel
 exact key c h
def XH (o:Int) (m:M):Nat×Nat×Nat×Nat×Nat:=((kf o m).toNat,m.d.toNat,m.e.toNat,m.x.toNat,m.y.toNat)
theorem WL {o:Int} {m:M} (h:m.nn):0≤kf o m:=by
 obtain⟨h1,h2,h3,h4⟩:=h;unfold kf;split
 ·omega
 ·split<;>omega
theorem wP {a b:Nat} (h:a<b):WellFoundedRelation.rel a b:=h
theorem UD {P:M→Prop} (h:∀δ:M,δ.nn→(∀δ':M,δ'.nn→nA o δ' δ→P δ')→P δ):∀δ:M,δ.nn→P δ:=by
 have wf:=(inferInstance:WellFoundedRelation (Nat×Nat×Nat×Nat×Nat)).wf;have key:∀k:Nat×Nat×Nat×Nat×Nat,∀δ:M,δ.nn→XH o δ=k→P δ:=fun k=>by
  induction k using wf.induction with
  |_ k ih=>
   intro δ hδ hk;refine h δ hδ (fun δ' hn hlt=>ih (XH o δ') ?_ δ' hn rfl);rw[←hk];have p1:=WL (o:=o) hδ
   have p2:=WL (o:=o) hn;obtain⟨q1,q2,q3,q4⟩:=hδ;obtain⟨r1,r2,r3,r4⟩:=hn;unfold nA at hlt;show Prod.Lex _ _ _ _
   unfold XH;rcases hlt with hlt|⟨e1,hlt⟩
   ·exact Prod.Lex.left _ _ (wP (by omega))
   ·rw[e1];refine Prod.Lex.right _ ?_;show Prod.Lex _ _ _ _
    rcases hlt with hlt|⟨e2,hlt⟩
    ·exact Prod.Lex.left _ _ (wP (by omega))
    ·rw[e2];refine Prod.Lex.right _ ?_;show Prod.Lex _ _ _ _
     rcases hlt with hlt|⟨e3,hlt⟩
     ·exact Prod.Lex.left _ _ (wP (by omega))
     ·rw[e3];refine Prod.Lex.right _ ?_;show Prod.Lex _ _ _ _
      rcases hlt with hlt|⟨e4,hlt⟩
      ·exact Prod.Lex.left _ _ (wP (by omega))
      ·rw[e4];refine Prod.Lex.right _ ?_;exact wP (by omega)
 exact fun δ hδ=>key _ δ hδ rfl
theorem KO (hL:qZ o n L) (hP:∀i k,i<k→k<n→vM o n L i k):∀δ:M,δ.nn→∀A,Le o n L δ A→A≠Lq.nil→∃m j,m.nn∧j<n∧M.le (eO o L j) m∧uG A m≠0:=by
 refine UD (o:=o) (P:=fun δ=>∀A,Le o n L δ A→A≠Lq.nil→∃m j,m.nn∧j<n∧M.le (eO o L j) m∧uG A m≠0) (fun δ hδ ih A hA hne=>?_);obtain⟨tp,B,h1,h2,e⟩:=hA;have low:∀A,Lo o n L δ A→A≠Lq.nil→∃m j,m.nn∧j<n∧M.le (eO o L j) m∧uG A m≠0:=fun A hA hne=>by
  rcases hA.max hL with q|⟨δ',d1,d2,d3⟩
  ·exact absurd q hne
  ·exact ih δ' d1 d2 A d3 hne
 have pair':∀i k,i<n→k<n→i≠k→M.le (eO o L i) δ→M.le (eO o L k) δ→∀c:Fq,∃d:Fq,Lo o n L δ (Lq.sum (Lq.sc c (Lq.mul (mo aI (M.sub δ (eO o L i))) (Rp aI (L i)))) (Lq.sc d (Lq.mul (mo aI (M.sub δ (eO o L k))) (Rp aI (L k))))):=fun i k hi hk hik di dk c=>by
  obtain⟨u,hu⟩:=OP (zz (dQ o (L i)).c) (zL (hL.good hi).2.1 (hL.good hi).2.2);obtain⟨v,hv⟩:=OP (zz (dQ o (L k)).c) (zL (hL.good hk).2.1 (hL.good hk).2.2);rcases Nat.lt_or_gt_of_ne hik with q|q
  ·have:=((hP i k q hk).up hL hi hk di dk hu hv).sc (c*zz (dQ o (L i)).c);refine⟨c*zz (dQ o (L i)).c*-v,?_⟩;rw[Lq.sc_sum,Lq.sc_sc,Lq.sc_sc]at this
   rwa[show c*zz (dQ o (L i)).c*u=c from by grind]at this
  ·have:=((hP k i q hi).up hL hk hi dk di hv hu).sc (-(c*zz (dQ o (L i)).c));refine⟨-(c*zz (dQ o (L i)).c)*v,?_⟩;rw[Lq.sc_sum,Lq.sc_sc,Lq.sc_sc,Lq.sum_comm]at this
   rwa[show -(c*zz (dQ o (L i)).c)*-u=c from by grind]at this
 revert A B
 induction htp:tp.length generalizing tp with
 |zero=>
  intro A hne B h2 e;rw[List.length_eq_zero_iff.1 htp]at e;have:A=B:=by rw[e];show Lq.sum Lq.nil B=B;rw[Lq.sum_comm,Lq.sum_nil]
  subst this;exact low A h2 hne
 |succ N iN=>
  intro A hne B h2 e;match tp,htp,h1,e with
  |[(c,j)],_,h1,e=>
   obtain⟨j1,j2⟩:=h1 (c,j) (List.mem_singleton.2 rfl);by_cases hc:c=0
   ·refine iN [] (fun q hq=>by cases hq) (by have:=‹[(c,j)].length=N+1›;simp at this⊢;omega) A hne B h2 ?_;rw[e,hc];show Lq.sum (Lq.sum (Lq.sc 0 _) Lq.nil) B=Lq.sum Lq.nil B
    rw[Lq.sc_zero,Lq.sum_nil]
   ·refine⟨δ,j,hδ,j1,j2,?_⟩;rw[e];show uG (Lq.sum (Lq.sum (Lq.sc c (Lq.mul (mo aI (M.sub δ (eO o L j))) (Rp aI (L j)))) Lq.nil) B) δ≠0
    rw[Lq.sum_nil,tD,NV,h2.cf0 hL hδ];have h5:=hL.cf_top j1 (oG j2)
    rw[mE]at h5;rw[h5];intro q;have q':c*zz (dQ o (L j)).c=0:=by grind
    rcases zZ _ _ q' with q|q
    ·exact hc q
    ·exact zL (hL.good j1).2.1 (hL.good j1).2.2 q
  |(c,j)::(d,k)::r,hlen,h1,e=>
   obtain⟨j1,j2⟩:=h1 (c,j) (List.mem_cons_self ..);obtain⟨k1,k2⟩:=h1 (d,k) (List.mem_cons_of_mem _ (List.mem_cons_self ..));by_cases hjk:j=k
   ·subst hjk;refine iN ((c+d,j)::r) (fun q hq=>?_) (by simpa using hlen) A hne B h2 ?_
    ·rcases List.mem_cons.1 hq with rfl|hq
     ·exact⟨j1,j2⟩
     ·exact h1 q (List.mem_cons_of_mem _ (List.mem_cons_of_mem _ hq))
    ·rw[e];show Lq.sum (Lq.sum (Lq.sc c _) (Lq.sum (Lq.sc d _) (tv o L δ r))) B=Lq.sum (Lq.sum (Lq.sc (c+d) _) (tv o L δ r)) B
     rw[Lq.sc_add];simp only[Lq.sum_assoc]
   ·obtain⟨d',hd'⟩:=pair' j k j1 k1 hjk j2 k2 c;refine iN ((d-d',k)::r) (fun q hq=>?_) (by simpa using hlen) A hne (Lq.sum (Lq.sum (Lq.sc c (Lq.mul (mo aI (M.sub δ (eO o L j))) (Rp aI (L j)))) (Lq.sc d' (Lq.mul (mo aI (M.sub δ (eO o L k))) (Rp aI (L k))))) B) (hd'.sum h2) ?_
    ·rcases List.mem_cons.1 hq with rfl|hq
     ·exact⟨k1,k2⟩
     ·exact h1 q (List.mem_cons_of_mem _ (List.mem_cons_of_mem _ hq))
    ·rw[e];refine Lq.ext fun w p q=>?_;simp only[tv,xL,GH]
     grind
end Go.Proofs.YtncffcaabnjioaaGreat
