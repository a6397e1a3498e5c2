/-
  Whether an operator is free of others: the program.
-/
import Derived.Test.YtmlaedpamobmhaaGreatMbh
namespace Go.Proofs.YtmlaedpamobmhaaGreat
open Go.RowKit Go.Deep Go.Joins
set_option linter.unusedVariables false
open Go.RowKit
def gA:Nat→Nat→Nat
 |0,c=>2*c
 |a+1,c=>2*gA a c+1
def RH (n:Nat):Nat×Nat:=if h:n%2=0 then(0,n / 2)else((RH (n / 2)).1+1,(RH (n / 2)).2)
termination_by n
decreasing_by all_goals omega
theorem zM:∀a c,RH (gA a c)=(a,c)
 |0,c=>by unfold RH gA;rw[dif_pos (by omega),show 2*c / 2=c by omega]
 |a+1,c=>by have ih:=zM a c;unfold RH gA;rw[dif_neg (by omega),show(2*gA a c+1) / 2=gA a c by omega,ih]
theorem Fu (n:Nat):gA (RH n).1 (RH n).2=n:=by
 induction n using Nat.strongRecOn with
 |ind n ih=>
  unfold RH;by_cases h:n%2=0
  ·rw[dif_pos h];show 2*(n / 2)=n;omega
  ·rw[dif_neg h];have:=ih (n / 2) (by omega)
   show 2*gA (RH (n / 2)).1 (RH (n / 2)).2+1=n;rw[this];omega
def jD (n:Nat):Nat:=(RH n).1
def oI (n:Nat):Nat:=(RH n).2
theorem AY (a c:Nat):jD (gA a c)=a:=by unfold jD;rw[zM]
theorem BX (a c:Nat):oI (gA a c)=c:=by unfold oI;rw[zM]
theorem MX (n:Nat):gA (jD n) (oI n)=n:=Fu n
def rX:Lq:=⟨fun u n k=>u (gA (jD n+1) (oI n)) k,fun _ _=>rfl,fun _ _=>rfl⟩
def rY:Lq:=⟨fun u n k=>u n (gA (jD k+1) (oI k)),fun _ _=>rfl,fun _ _=>rfl⟩
def rD:Lq:=⟨fun u n k=>u (gA (jD n) (oI n+1)) k+nf (jD n)*u (gA (jD n-1) (oI n)) k,fun u v=>by funext n k;simp only[va];grind,fun c u=>by funext n k;simp only[vs];grind⟩
def rE:Lq:=⟨fun u n k=>u n (gA (jD k) (oI k+1))+nf (jD k)*u n (gA (jD k-1) (oI k)),fun u v=>by funext n k;simp only[va];grind,fun c u=>by funext n k;simp only[vs];grind⟩
def aN:rV where
 x:=rX
 y:=rY
 d:=rD
 e:=rE
 wx:=Lq.ext fun u n k=>by
  show u (gA (jD (gA (jD n+1) (oI n))) (oI (gA (jD n+1) (oI n))+1)) k+nf (jD (gA (jD n+1) (oI n)))*u (gA (jD (gA (jD n+1) (oI n))-1) (oI (gA (jD n+1) (oI n)))) k=u (gA (jD (gA (jD n) (oI n+1))+1) (oI (gA (jD n) (oI n+1)))) k+nf (jD n)*u (gA (jD (gA (jD n-1) (oI n))+1) (oI (gA (jD n-1) (oI n)))) k+u n k;simp only[AY,BX];rw[show jD n+1-1=jD n by omega,MX,uS,nZ];cases h:jD n with
  |zero=>rw[iJ];grind
  |succ m=>rw[show m+1-1+1=m+1 by omega,←h,MX];grind
 wy:=Lq.ext fun u n k=>by
  show u n (gA (jD (gA (jD k+1) (oI k))) (oI (gA (jD k+1) (oI k))+1))+nf (jD (gA (jD k+1) (oI k)))*u n (gA (jD (gA (jD k+1) (oI k))-1) (oI (gA (jD k+1) (oI k))))=u n (gA (jD (gA (jD k) (oI k+1))+1) (oI (gA (jD k) (oI k+1))))+nf (jD k)*u n (gA (jD (gA (jD k-1) (oI k))+1) (oI (gA (jD k-1) (oI k))))+u n k;simp only[AY,BX];rw[show jD k+1-1=jD k by omega,MX,uS,nZ];cases h:jD k with
  |zero=>rw[iJ];grind
  |succ m=>rw[show m+1-1+1=m+1 by omega,←h,MX];grind
 xy:=rfl
 xe:=rfl
 dy:=rfl
 de:=Lq.ext fun u n k=>by
  show(_+nf _*_)+nf (jD k)*(_+nf _*_)=(_+nf _*_)+nf (jD n)*(_+nf _*_)
  grind
theorem UV (u:Vq) (c k:Nat):∀j i,(Lq.pow rX j).f u (gA i c) k=u (gA (i+j) c) k
 |0,i=>rfl
 |j+1,i=>by
  rw[Lq.pow_succ'];show(Lq.pow rX j).f (rX.f u) (gA i c) k=_
  rw[UV (rX.f u) c k j i];show u (gA (jD (gA (i+j) c)+1) (oI (gA (i+j) c))) k=_
  rw[AY,BX];rfl
theorem UW (u:Vq) (n c:Nat):∀j i,(Lq.pow rY j).f u n (gA i c)=u n (gA (i+j) c)
 |0,i=>rfl
 |j+1,i=>by
  rw[Lq.pow_succ'];show(Lq.pow rY j).f (rY.f u) n (gA i c)=_
  rw[UW (rY.f u) n c j i];show u n (gA (jD (gA (i+j) c)+1) (oI (gA (i+j) c)))=_
  rw[AY,BX];rfl
theorem UT (u:Vq) (k:Nat):∀j i,(Lq.pow rD j).f u (gA 0 i) k=u (gA 0 (i+j)) k
 |0,i=>rfl
 |j+1,i=>by
  rw[Lq.pow_succ'];show(Lq.pow rD j).f (rD.f u) (gA 0 i) k=_
  rw[UT (rD.f u) k j i];show u (gA (jD (gA 0 (i+j))) (oI (gA 0 (i+j))+1)) k+nf (jD (gA 0 (i+j)))*_=_
  rw[AY,BX,iJ];show u (gA 0 (i+(j+1))) k+0*_=_
  grind
theorem UU (u:Vq) (n:Nat):∀j i,(Lq.pow rE j).f u n (gA 0 i)=u n (gA 0 (i+j))
 |0,i=>rfl
 |j+1,i=>by
  rw[Lq.pow_succ'];show(Lq.pow rE j).f (rE.f u) n (gA 0 i)=_
  rw[UU (rE.f u) n j i];show u n (gA (jD (gA 0 (i+j))) (oI (gA 0 (i+j))+1))+nf (jD (gA 0 (i+j)))*_=_
  rw[AY,BX,iJ];show u n (gA 0 (i+(j+1)))+0*_=_
  grind
theorem Cu (m:M) (u:Vq):(mo aN m).f u 0 0=u (gA m.x.toNat m.d.toNat) (gA m.y.toNat m.e.toNat):=by
 have e0:(0:Nat)=gA 0 0:=rfl;show(Lq.pow rE m.e.toNat).f ((Lq.pow rD m.d.toNat).f ((Lq.pow rY m.y.toNat).f ((Lq.pow rX m.x.toNat).f u))) 0 0=_
 rw[show(Lq.pow rE m.e.toNat).f ((Lq.pow rD m.d.toNat).f ((Lq.pow rY m.y.toNat).f ((Lq.pow rX m.x.toNat).f u))) 0 0=(Lq.pow rE m.e.toNat).f ((Lq.pow rD m.d.toNat).f ((Lq.pow rY m.y.toNat).f ((Lq.pow rX m.x.toNat).f u))) 0 (gA 0 0)from rfl,UU];rw[show(Lq.pow rD m.d.toNat).f ((Lq.pow rY m.y.toNat).f ((Lq.pow rX m.x.toNat).f u)) 0 (gA 0 (0+m.e.toNat))=(Lq.pow rD m.d.toNat).f ((Lq.pow rY m.y.toNat).f ((Lq.pow rX m.x.toNat).f u)) (gA 0 0) (gA 0 (0+m.e.toNat))from rfl,UT,UW,UV];simp only[Nat.zero_add]
def M.nn (m:M):Prop:=0≤m.x∧0≤m.y∧0≤m.d∧0≤m.e
theorem nH {m:M} (h:m.ok=true):m.nn:=by obtain⟨x1,x2,y1,y2,d1,d2,e1,e2⟩:=M.ok_iff.1 h;exact⟨x1,y1,d1,e1⟩
theorem iT {a b:M} (ha:a.nn) (hb:b.nn):(a.sum b).nn:=by obtain⟨a1,a2,a3,a4⟩:=ha;obtain⟨b1,b2,b3,b4⟩:=hb;exact⟨Int.add_nonneg a1 b1,Int.add_nonneg a2 b2,Int.add_nonneg a3 b3,Int.add_nonneg a4 b4⟩
def Gw (m:M):Vq:=fun n k=>if n=gA m.x.toNat m.d.toNat∧k=gA m.y.toNat m.e.toNat then 1 else 0
def vK (A:Lq) (m:M):Fq:=A.f (Gw m) 0 0
theorem ET {a m:M} (ha:a.nn) (hm:m.nn):vK (mo aN a) m=dl m a:=by
 unfold vK dl;rw[Cu];unfold Gw;by_cases e:a=m
 ·rw[if_pos (dV.2 e.symm),if_pos (by rw[e];exact⟨rfl,rfl⟩)]
 ·rw[if_neg (fun h=>e (dV.1 h).symm),if_neg];rintro⟨h1,h2⟩;have i1:=zM a.x.toNat a.d.toNat
  rw[h1,zM]at i1;have i2:=zM a.y.toNat a.e.toNat
  rw[h2,zM]at i2;simp only[Prod.mk.injEq]at i1 i2;obtain⟨a1,a2,a3,a4⟩:=ha;obtain⟨b1,b2,b3,b4⟩:=hm;refine e ?_;have j1:a.x=m.x:=by omega
  have j2:a.y=m.y:=by omega
  have j3:a.d=m.d:=by omega
  have j4:a.e=m.e:=by omega
  cases a;cases m;simp only at j1 j2 j3 j4;rw[j1,j2,j3,j4]
theorem uF (A B:Lq) (m:M):vK (Lq.sum A B) m=vK A m+vK B m:=rfl
theorem SI (c:Fq) (A:Lq) (m:M):vK (Lq.sc c A) m=c*vK A m:=rfl
theorem JE (m:M):vK Lq.nil m=0:=rfl
def kf (o:Int) (a:M):Int:=if o=1 then a.x+a.y+a.d+a.e else if o=3 then a.d+a.x else 0
def nU (o:Int) (a b:M):Prop:=kf o a<kf o b∨(kf o a=kf o b∧(a.d<b.d∨(a.d=b.d∧(a.e<b.e∨(a.e=b.e∧(a.x<b.x∨(a.x=b.x∧a.y<b.y)))))))
theorem Gi (a:M):kf 1 a=a.x+a.y+a.d+a.e:=if_pos rfl
theorem Gj (a:M):kf 2 a=0:=(if_neg (by decide)).trans (if_neg (by decide))
theorem Gk (a:M):kf 3 a=a.d+a.x:=(if_neg (by decide)).trans (if_pos rfl)
theorem Fy (a:M):jO 1 a=eQ a:=if_pos rfl
theorem Fz (a:M):jO 2 a=gE a:=(if_neg (by decide)).trans (if_neg (by decide))
theorem Ga (a:M):jO 3 a=uY a:=(if_neg (by decide)).trans (if_pos rfl)
theorem CX (o:Int) (a b:M):kf o (a.sum b)=kf o a+kf o b:=by
 unfold kf M.sum;split
 ·simp only;omega
 ·split
  ·simp only;omega
  ·rfl
theorem mZ {o:Int} {a b c:M} (h1:nU o a b) (h2:nU o b c):nU o a c:=by unfold nU at *;generalize kf o a=p at *;generalize kf o b=q at *;generalize kf o c=r at *;omega
theorem sW {o:Int} {a:M} (h:nU o a a):False:=by unfold nU at h;omega
theorem oQ {a b:M} (h1:a.x=b.x) (h2:a.y=b.y) (h3:a.d=b.d) (h4:a.e=b.e):a=b:=by cases a;cases b;simp only at h1 h2 h3 h4;rw[h1,h2,h3,h4]
theorem LP {o:Int} {a b:M} (c:M) (h:nU o a b):nU o (a.sum c) (b.sum c):=by unfold nU at *;rw[CX,CX];unfold M.sum;simp only;generalize kf o a=p at *;generalize kf o b=q at *;omega
theorem yD {o:Int} {a b:M} (c:M) (h:nU o a b):nU o (c.sum a) (c.sum b):=by unfold nU at *;rw[CX,CX];unfold M.sum;simp only;generalize kf o a=p at *;generalize kf o b=q at *;omega
theorem YB {o:Int} (ho:1≤o∧o≤3) (a b:M) {i k:Int} (hi:0≤i) (hk:0≤k) (h:0<i+k):nU o ⟨a.x+b.x-i,a.y+b.y-k,a.d+b.d-i,a.e+b.e-k⟩ (a.sum b):=by
 have h3:o=1∨o=2∨o=3:=by omega
 unfold nU;rcases h3 with rfl|rfl|rfl
 ·rw[Gi,Gi];unfold M.sum;simp only;omega
 ·rw[Gj,Gj];unfold M.sum;simp only;by_cases hi0:i=0
  ·exact .inr ⟨trivial,.inr ⟨by omega,.inl (by omega)⟩⟩
  ·exact .inr ⟨trivial,.inl (by omega)⟩
 ·rw[Gk,Gk];unfold M.sum;simp only;by_cases hi0:i=0
  ·exact .inr ⟨by omega,.inr ⟨by omega,.inl (by omega)⟩⟩
  ·exact .inl (by omega)
theorem DN {o:Int} (ho:1≤o∧o≤3) {a b:M} (ha:a.ok=true) (hb:b.ok=true) (h:jO o a<jO o b):nU o a b:=by
 obtain⟨x1,x2,y1,y2,d1,d2,e1,e2⟩:=M.ok_iff.1 ha;obtain⟨x3,x4,y3,y4,d3,d4,e3,e4⟩:=M.ok_iff.1 hb;have h3:o=1∨o=2∨o=3:=by omega
 unfold nU;rcases h3 with rfl|rfl|rfl
 ·rw[Fy,Fy]at h;rw[Gi,Gi];unfold eQ gE at h;omega
 ·rw[Fz,Fz]at h;rw[Gj,Gj];unfold gE at h;omega
 ·rw[Ga,Ga]at h;rw[Gk,Gk];unfold uY gE at h;omega
def YM (a b:M) (i k:Nat):M:=⟨a.x+b.x-(i:Int),a.y+b.y-(k:Int),a.d+b.d-(i:Int),a.e+b.e-(k:Int)⟩
theorem TI (a b:M):YM a b 0 0=a.sum b:=by unfold YM M.sum;simp
theorem YS (g:rV) (a b:M) (ha:a.nn) (hb:b.nn):Lq.mul (mo g a) (mo g b)=Lq.sumN (fun i=>Lq.sumN (fun k=>Lq.sc (nf (wN a.d.toNat b.x.toNat i)*nf (wN a.e.toNat b.y.toNat k)) (mo g (YM a b i k))) (min a.e.toNat b.y.toNat+1)) (min a.d.toNat b.x.toNat+1):=by
 obtain⟨ax0,ay0,ad0,ae0⟩:=ha;obtain⟨bx0,by0,bd0,be0⟩:=hb;have e1:Lq.mul (mo g a) (mo g b)=Lq.mul (Lq.mul (Lq.pow g.x a.x.toNat) (Lq.pow g.y a.y.toNat)) (Lq.mul (Lq.mul (Lq.pow g.d a.d.toNat) (Lq.pow g.x b.x.toNat)) (Lq.mul (Lq.mul (Lq.pow g.e a.e.toNat) (Lq.pow g.y b.y.toNat)) (Lq.mul (Lq.pow g.d b.d.toNat) (Lq.pow g.e b.e.toNat)))):=by
  have h:=g.xe.symm.pows a.e.toNat b.x.toNat
  calc _=Lq.mul (Lq.mul (Lq.pow g.x a.x.toNat) (Lq.pow g.y a.y.toNat)) (Lq.mul (Lq.pow g.d a.d.toNat) (Lq.mul (Lq.mul (Lq.pow g.e a.e.toNat) (Lq.pow g.x b.x.toNat)) (Lq.mul (Lq.pow g.y b.y.toNat) (Lq.mul (Lq.pow g.d b.d.toNat) (Lq.pow g.e b.e.toNat))))):=rfl
   _=Lq.mul (Lq.mul (Lq.pow g.x a.x.toNat) (Lq.pow g.y a.y.toNat)) (Lq.mul (Lq.pow g.d a.d.toNat) (Lq.mul (Lq.mul (Lq.pow g.x b.x.toNat) (Lq.pow g.e a.e.toNat)) (Lq.mul (Lq.pow g.y b.y.toNat) (Lq.mul (Lq.pow g.d b.d.toNat) (Lq.pow g.e b.e.toNat))))):=by rw[h]
   _=_:=rfl
 rw[e1,pX g.wx,pX g.wy,jQ,Lq.mul_sumN];refine Lq.sumN_congr (fun i hi=>?_);rw[Lq.sc_mul,Lq.mul_sc,jQ,Lq.mul_sumN,Lq.mul_sumN,jB];refine Lq.sumN_congr (fun k hk=>?_);rw[Lq.sc_mul,Lq.mul_sc,Lq.mul_sc,Lq.sc_sc,NF (g.xy.symm.pows _ _) (g.dy.pows _ _) (g.de.symm.pows _ _),←Lq.pow_add,←Lq.pow_add,←Lq.pow_add,←Lq.pow_add];unfold mo YM;simp only;rw[show a.x.toNat+(b.x.toNat-i)=(a.x+b.x-(i:Int)).toNat by omega,show a.y.toNat+(b.y.toNat-k)=(a.y+b.y-(k:Int)).toNat by omega,show a.d.toNat-i+b.d.toNat=(a.d+b.d-(i:Int)).toNat by omega,show a.e.toNat-k+b.e.toNat=(a.e+b.e-(k:Int)).toNat by omega]
theorem NT (b c:Nat):wN b c 0=1:=by unfold wN;rw[xK];rfl
inductive Lw (g:rV) (o:Int) (μ:M):Lq→Prop
 |nil:Lw g o μ Lq.nil
 |cons {A:Lq} (c:Fq) (m:M):m.nn→nU o m μ→Lw g o μ A→Lw g o μ (Lq.sum (Lq.sc c (mo g m)) A)
theorem Lw.sum {g:rV} {o:Int} {μ:M} {A B:Lq} (h:Lw g o μ A) (h':Lw g o μ B):Lw g o μ (Lq.sum A B):=by
 induction h with
 |nil=>rw[Lq.sum_comm,Lq.sum_nil];exact h'
 |cons c m h1 h2 h3 ih=>rw[Lq.sum_assoc];exact Lw.cons c m h1 h2 ih
theorem Lw.one {g:rV} {o:Int} {μ:M} (c:Fq) {m:M} (h1:m.nn) (h2:nU o m μ):Lw g o μ (Lq.sc c (mo g m)):=by
 have:=Lw.cons (g:=g) c m h1 h2 Lw.nil
 rwa[Lq.sum_nil]at this
theorem Lw.sumN {g:rV} {o:Int} {μ:M} {f:Nat→Lq}:∀n,(∀i,i<n→Lw g o μ (f i))→Lw g o μ (Lq.sumN f n)
 |0,_=>Lw.nil
 |n+1,h=>by rw[Lq.sumN];exact(Lw.sumN n (fun i hi=>h i (by omega))).sum (h n (by omega))
theorem rI (g:rV) {o:Int} (ho:1≤o∧o≤3) {a b:M} (ha:a.nn) (hb:b.nn):∃A,Lw g o (a.sum b) A∧Lq.mul (mo g a) (mo g b)=Lq.sum (mo g (a.sum b)) A:=by
 have hnn:∀i k:Nat,i<min a.d.toNat b.x.toNat+1→k<min a.e.toNat b.y.toNat+1→(YM a b i k).nn:=fun i k hi hk=>by obtain⟨ax0,ay0,ad0,ae0⟩:=ha;obtain⟨bx0,by0,bd0,be0⟩:=hb;refine⟨?_,?_,?_,?_⟩<;>(unfold YM;simp only;omega)
 have hlt:∀i k:Nat,0<i+k→nU o (YM a b i k) (a.sum b):=fun i k h=>YB ho a b (by omega) (by omega) (by omega);rw[YS g a b ha hb,Lq.sumN_head,Lq.sumN_head];refine⟨Lq.sum (Lq.sumN (fun i=>Lq.sc (nf (wN a.d.toNat b.x.toNat 0)*nf (wN a.e.toNat b.y.toNat (i+1))) (mo g (YM a b 0 (i+1)))) (min a.e.toNat b.y.toNat)) (Lq.sumN (fun i=>Lq.sumN (fun k=>Lq.sc (nf (wN a.d.toNat b.x.toNat (i+1))*nf (wN a.e.toNat b.y.toNat k)) (mo g (YM a b (i+1) k))) (min a.e.toNat b.y.toNat+1)) (min a.d.toNat b.x.toNat)),?_,?_⟩
 ·refine Lw.sum (Lw.sumN _ (fun i hi=>Lw.one _ (hnn _ _ (by omega) (by omega)) (hlt _ _ (by omega)))) (Lw.sumN _ (fun i hi=>Lw.sumN _ (fun k hk=>Lw.one _ (hnn _ _ (by omega) (by omega)) (hlt _ _ (by omega)))))
 ·rw[Lq.sum_assoc,NT,NT,nZ,TI,show(1:Fq)*1=1 from rfl,Lq.sc_one]
theorem Lw.cf {o:Int} {μ m:M} {A:Lq} (h:Lw aN o μ A) (hm:m.nn) (hl:¬nU o m μ):vK A m=0:=by
 induction h with
 |nil=>exact JE m
 |cons c a h1 h2 h3 ih=>
  rw[uF,SI,ih,ET h1 hm];unfold dl;rw[if_neg]
  ·grind
  ·intro e;rw[dV.1 e]at hl;exact hl h2
variable (o:Int) (n:Nat) (L:Nat→List T)
def fI (j:Nat):M:=(dH o (L j)).m
structure rW:Prop where
 ho:1≤o∧o≤3
 fl:∀j,j<n→cM (L j)=true∧(L j).length≠0
variable {o n L}
theorem rW.mem (h:rW o n L) {j:Nat} (hj:j<n):dH o (L j)∈L j:=kM (h.fl j hj).2
theorem rW.falls (h:rW o n L) {j:Nat} (hj:j<n):aK (L j):=(aF (h.fl j hj).1).2
theorem rW.good (h:rW o n L) {j:Nat} (hj:j<n):(dH o (L j)).m.ok=true∧1≤(dH o (L j)).c∧(dH o (L j)).c≤100:=(h.falls hj).2 _ (h.mem hj)
theorem rW.nn (h:rW o n L) {j:Nat} (hj:j<n):(fI o L j).nn:=nH (h.good hj).1
theorem rW.top (h:rW o n L) {j:Nat} (hj:j<n) {t:T} (ht:t∈L j) (hne:t.m≠fI o L j):nU o t.m (fI o L j):=by
 have h1:=DB h.ho (h.fl j hj).1 (h.fl j hj).2 t ht;have h2:=((h.falls hj).2 t ht).1
 have h3:=(h.good hj).1;refine DN h.ho h2 h3 ?_;rcases Int.lt_or_eq_of_le h1 with h4|h4
 ·exact h4
 ·exact absurd (pZ _ _ h2 h3 h4) hne
theorem xJ (A:Lq) (m:M):∀K:List T,vK (Lq.mul A (Rp aN K)) m=su K (fun t=>zz t.c*vK (Lq.mul A (mo aN t.m)) m)
 |[]=>rfl
 |t::r=>by rw[su,←xJ A m r];rfl
theorem rW.cf_off (h:rW o n L) {j:Nat} (hj:j<n) {m δ:M} (hm:m.nn) (hδ:δ.nn) (hl:nU o (m.sum (fI o L j)) δ):vK (Lq.mul (mo aN m) (Rp aN (L j))) δ=0:=by
 rw[xJ];refine oK _ _ (fun t ht=>?_);have h4:=nH ((h.falls hj).2 t ht).1
 obtain⟨A,h1,h2⟩:=rI aN h.ho hm h4;have h3:nU o (m.sum t.m) δ:=by
  by_cases e:t.m=fI o L j
  ·rw[e];exact hl
  ·exact mZ (yD m (h.top hj ht e)) hl
 rw[h2,uF,h1.cf hδ (fun q=>sW (mZ q h3)),ET (iT hm h4) hδ];unfold dl;rw[if_neg]
 ·grind
 ·intro q;rw[dV.1 q]at h3;exact sW h3
inductive Lo (o:Int) (n:Nat) (L:Nat→List T) (δ:M):Lq→Prop
 |nil:Lo o n L δ Lq.nil
 |cons {A:Lq} (c:Fq) (m:M) (j:Nat):j<n→m.nn→nU o (m.sum (fI o L j)) δ→Lo o n L δ A→Lo o n L δ (Lq.sum (Lq.sc c (Lq.mul (mo aN m) (Rp aN (L j)))) A)
theorem Lo.sum {δ:M} {A B:Lq} (h:Lo o n L δ A) (h':Lo o n L δ B):Lo o n L δ (Lq.sum A B):=by
 induction h with
 |nil=>rw[Lq.sum_comm,Lq.sum_nil];exact h'
 |cons c m j h1 h2 h3 h4 ih=>rw[Lq.sum_assoc];exact Lo.cons c m j h1 h2 h3 ih
theorem Lo.sc {δ:M} {A:Lq} (d:Fq) (h:Lo o n L δ A):Lo o n L δ (Lq.sc d A):=by
 induction h with
 |nil=>
  rw[show Lq.sc d Lq.nil=Lq.nil from Lq.ext fun u n k=>by show d*(0:Fq)=0;grind];exact Lo.nil
 |cons c m j h1 h2 h3 h4 ih=>rw[Lq.sc_sum,Lq.sc_sc];exact Lo.cons _ m j h1 h2 h3 ih
theorem Lo.mono {δ δ':M} {A:Lq} (h:Lo o n L δ A) (hd:nU o δ δ'∨δ=δ'):Lo o n L δ' A:=by
 induction h with
 |nil=>exact Lo.nil
 |cons c m j h1 h2 h3 h4 ih=>
  refine Lo.cons c m j h1 h2 ?_ ih;rcases hd with hd|hd
  ·exact mZ h3 hd
  ·rw[←hd];exact h3
theorem Lo.one {δ:M} (c:Fq) {m:M} {j:Nat} (h1:j<n) (h2:m.nn) (h3:nU o (m.sum (fI o L j)) δ):Lo o n L δ (Lq.sc c (Lq.mul (mo aN m) (Rp aN (L j)))):=by
 have:=Lo.cons c m j h1 h2 h3 (Lo.nil (o:=o) (n:=n) (L:=L) (δ:=δ))
 rwa[Lq.sum_nil]at this
theorem Lw.lo {μ δ:M} {A:Lq} {j:Nat} (hj:j<n) (h:Lw aN o μ A) (hd:nU o (μ.sum (fI o L j)) δ∨μ.sum (fI o L j)=δ):Lo o n L δ (Lq.mul A (Rp aN (L j))):=by
 induction h with
 |nil=>rw[Lq.nil_mul];exact Lo.nil
 |cons c m h1 h2 h3 ih=>
  rw[Lq.sum_mul,Lq.sc_mul];refine Lo.cons c m j hj h1 ?_ ih;rcases hd with hd|hd
  ·exact mZ (LP _ h2) hd
  ·rw[←hd];exact LP _ h2
theorem Lo.mul (hL:rW o n L) {δ s:M} {A:Lq} (hs:s.nn) (h:Lo o n L δ A):Lo o n L (s.sum δ) (Lq.mul (mo aN s) A):=by
 induction h with
 |nil=>rw[Lq.mul_nil];exact Lo.nil
 |cons c m j h1 h2 h3 h4 ih=>
  rw[Lq.mul_sum,Lq.mul_sc,←Lq.mul_assoc];obtain⟨B,hB,e⟩:=rI aN hL.ho hs h2;rw[e,Lq.sum_mul];have has:(s.sum m).sum (fI o L j)=s.sum (m.sum (fI o L j)):=by unfold M.sum;refine oQ ?_ ?_ ?_ ?_<;>(simp only;omega)
  have h5:nU o ((s.sum m).sum (fI o L j)) (s.sum δ):=by rw[has];exact yD s h3
  refine Lo.sum (Lo.sc c (Lo.sum ?_ (hB.lo h1 (.inl h5)))) ih;have:=Lo.one (o:=o) (n:=n) (L:=L) (δ:=s.sum δ) 1 h1 (iT hs h2) h5
  rwa[Lq.sc_one]at this
def M.le (a b:M):Prop:=a.x≤b.x∧a.y≤b.y∧a.d≤b.d∧a.e≤b.e
def M.sub (b a:M):M:=⟨b.x-a.x,b.y-a.y,b.d-a.d,b.e-a.e⟩
theorem mV {a b:M}:(M.sub b a).sum a=b:=by unfold M.sub M.sum;refine oQ ?_ ?_ ?_ ?_<;>(simp only;omega)
theorem lE {a b:M} (h:M.le a b):(M.sub b a).nn:=by obtain⟨h1,h2,h3,h4⟩:=h;unfold M.sub;exact⟨by simp only;omega,by simp only;omega,by simp only;omega,by simp only;omega⟩
def tv (o:Int) (L:Nat→List T) (δ:M):List (Fq×Nat)→Lq
 |[]=>Lq.nil
 |(c,j)::r=>Lq.sum (Lq.sc c (Lq.mul (mo aN (M.sub δ (fI o L j))) (Rp aN (L j)))) (tv o L δ r)
theorem Lo.cf0 (hL:rW o n L) {δ:M} {A:Lq} (hδ:δ.nn) (h:Lo o n L δ A):vK A δ=0:=by
 induction h with
 |nil=>exact JE δ
 |cons c m j h1 h2 h3 h4 ih=>rw[uF,SI,hL.cf_off h1 h2 hδ h3,ih];grind
def M.lcm (a b:M):M:=⟨if a.x≤b.x then b.x else a.x,if a.y≤b.y then b.y else a.y,if a.d≤b.d then b.d else a.d,if a.e≤b.e then b.e else a.e⟩
theorem wZ (a b:M):M.le a (M.lcm a b)∧M.le b (M.lcm a b):=by unfold M.le M.lcm;simp only;refine⟨⟨?_,?_,?_,?_⟩,?_,?_,?_,?_⟩<;>(split<;>omega)
theorem RU {a b c:M} (h1:M.le a c) (h2:M.le b c):M.le (M.lcm a b) c:=by obtain⟨a1,a2,a3,a4⟩:=h1;obtain⟨b1,b2,b3,b4⟩:=h2;unfold M.le M.lcm;simp only;refine⟨?_,?_,?_,?_⟩<;>(split<;>omega)
def xA (o:Int) (n:Nat) (L:Nat→List T) (i k:Nat):Prop:=∀u v:Fq,u*zz (dH o (L i)).c=1→v*zz (dH o (L k)).c=1→Lo o n L (M.lcm (fI o L i) (fI o L k)) (Lq.sum (Lq.sc u (Lq.mul (mo aN (M.sub (M.lcm (fI o L i) (fI o L k)) (fI o L i))) (Rp aN (L i)))) (Lq.sc (-v) (Lq.mul (mo aN (M.sub (M.lcm (fI o L i) (fI o L k)) (fI o L k))) (Rp aN (L k)))))
theorem OE {a b c:M}:(M.sub c b).sum (M.sub b a)=M.sub c a:=by unfold M.sub M.sum;refine oQ ?_ ?_ ?_ ?_<;>(simp only;omega)
theorem xA.up (hL:rW o n L) {i k:Nat} (hi:i<n) (hk:k<n) (h:xA o n L i k) {δ:M} (hδi:M.le (fI o L i) δ) (hδk:M.le (fI o L k) δ) {u v:Fq} (hu:u*zz (dH o (L i)).c=1) (hv:v*zz (dH o (L k)).c=1):Lo o n L δ (Lq.sum (Lq.sc u (Lq.mul (mo aN (M.sub δ (fI o L i))) (Rp aN (L i)))) (Lq.sc (-v) (Lq.mul (mo aN (M.sub δ (fI o L k))) (Rp aN (L k))))):=by
 have hb:=RU hδi hδk;have hs:=lE hb
 obtain⟨l1,l2⟩:=wZ (fI o L i) (fI o L k);obtain⟨A,a1,a2⟩:=rI aN hL.ho hs (lE l1);obtain⟨B,b1,b2⟩:=rI aN hL.ho hs (lE l2);rw[OE]at a1 a2 b1 b2;have key:=(h u v hu hv).mul hL hs
 rw[mV]at key;have la:=(a1.lo hi (.inr (mV))).sc (-u)
 have lb:=(b1.lo hk (.inr (mV))).sc v;have tot:=(key.sum la).sum lb
 have e:Lq.sum (Lq.sum (Lq.mul (mo aN (M.sub δ (M.lcm (fI o L i) (fI o L k)))) (Lq.sum (Lq.sc u (Lq.mul (mo aN (M.sub (M.lcm (fI o L i) (fI o L k)) (fI o L i))) (Rp aN (L i)))) (Lq.sc (-v) (Lq.mul (mo aN (M.sub (M.lcm (fI o L i) (fI o L k)) (fI o L k))) (Rp aN (L k)))))) (Lq.sc (-u) (Lq.mul A (Rp aN (L i))))) (Lq.sc v (Lq.mul B (Rp aN (L k))))=Lq.sum (Lq.sc u (Lq.mul (mo aN (M.sub δ (fI o L i))) (Rp aN (L i)))) (Lq.sc (-v) (Lq.mul (mo aN (M.sub δ (fI o L k))) (Rp aN (L k)))):=by
  rw[Lq.mul_sum,Lq.mul_sc,Lq.mul_sc,←Lq.mul_assoc,←Lq.mul_assoc,a2,b2,Lq.sum_mul,Lq.sum_mul];refine Lq.ext fun w p q=>?_;simp only[NN,ZK]
  grind
 rw[e]at tot;exact tot
end Go.Proofs.YtmlaedpamobmhaaGreat
namespace Go.Proofs.YtmlaedpamobmhaaGreat
open Go.RowKit Go.Deep Go.Joins
set_option linter.unusedVariables false
abbrev fN (L:Nat→List T):Nat→Nat→T:=fun i=>lf (L i)
abbrev lN (L:Nat→List T):Nat→Nat:=fun i=>(L i).length
theorem TZ {t:T} {B Y:List T} (ht:cM [t]=true) (hB:cM B=true) (h:cC (lf [t]) (lf B) B.length 1=some Y):mA [t] B=(Y,true):=by
 unfold mA aS;rw[if_pos ⟨ht,hB⟩];show iK (cC (lf [t]) (lf B) B.length 1)=_
 rw[h];rfl
theorem wQ {A B:List T} (hA:aK A) (hB:aK B) {s:T} (hs:s∈bT A B):(∃a∈A,a.m=s.m)∨(∃b∈B,b.m=s.m):=by
 obtain⟨hf,hc⟩:=dD hA hB;have h1:=(jF hf hs).2
 rw[hc]at h1;by_cases ha:aM A s.m=0
 ·by_cases hb:aM B s.m=0
  ·rw[ha,hb]at h1;exact absurd rfl h1
  ·obtain⟨b,h2,h3⟩:=List.mem_map.1 (jR hb);exact .inr ⟨b,h2,h3⟩
 ·obtain⟨a,h2,h3⟩:=List.mem_map.1 (jR ha);exact .inl ⟨a,h2,h3⟩
theorem Cs {c:Int} {A:List T} {s:T} (hs:s∈kC c A):∃a∈A,a.m=s.m:=by rw[oJ]at hs;obtain⟨a,h1,rfl⟩:=List.mem_map.1 hs;exact⟨a,h1,rfl⟩
theorem MC {A B:List T} (hA:aK A) (hB:aK B) {s:T} (hs:s∈dB A B):(∃a∈A,a.m=s.m)∨(∃b∈B,b.m=s.m):=by
 rcases wQ hA (gK (by omega) (by omega) hB) hs with h|⟨b,h1,h2⟩
 ·exact .inl h
 ·obtain⟨a,h3,h4⟩:=Cs h1;exact .inr ⟨a,h3,h4.trans h2⟩
theorem nO {o:Int} {n:Nat} {L:Nat→List T} (hl:aU n (lN L) (fN L)=true) {S S':Dv} (hp:cM S.p=true) (h0:S.p.length≠0) (hs:dP o n (lN L) (fN L) S=some S'):(∃k Y,k<n∧M.dvd (dH o (L k)).m (dH o S.p).m=true∧cM [fQ (dH o S.p) (dH o (L k))]=true∧mA [fQ (dH o S.p) (dH o (L k))] (L k)=(Y,true)∧(dB S.p Y).length≤400∧S'=⟨dB S.p Y,lW S.q k (bT (S.q k) [fQ (dH o S.p) (dH o (L k))]),S.r⟩)∨((∀i,i<n→M.dvd (dH o (L i)).m (dH o S.p).m=false)∧S'=iH o S):=by
 unfold dP at hs;split at hs
 ·rename_i hk;have hf:=kU hk
  have hg:=EY hl hp h0 hk;generalize(xO o n (lN L) (fN L) (dH o S.p).m).toNat=k at hs hf hg;unfold iB at hs;split at hs
  ·cases hs
  ·rename_i Y hY;split at hs
   ·rename_i hle;cases hs;have ho:=gW hg
    exact .inl ⟨k,Y,hf.1,hf.2,ho,TZ ho ((aR hl).2 k hf.1).2 hY,hle,rfl⟩
   ·cases hs
 ·rename_i hk;cases hs;refine .inr ⟨fun i hi=>?_,rfl⟩;cases hd:M.dvd (dH o (L i)).m (dH o S.p).m
  ·rfl
  ·exact absurd (CW.2 ⟨i,hi,hd⟩) hk
theorem vN {o:Int} {n:Nat} {L:Nat→List T} (hl:aU n (lN L) (fN L)=true) (I:Dv→Prop) (hI:∀u S S',jP u S→S.p.length≠0→I S→dP o n (lN L) (fN L) S=some S'→I S'):∀{v u:Nat} {S S':Dv},jP u S→I S→fE o n (lN L) (fN L) v S=some S'→I S'
 |0,u,S,S',h,hi,hr=>by
  unfold fE at hr;split at hr
  ·cases hr;exact hi
  ·cases hr
 |v+1,u,S,S',h,hi,hr=>by
  by_cases h0:S.p.length=0
  ·rw[nN h0]at hr;cases hr;exact hi
  ·cases hs:dP o n (lN L) (fN L) S with
   |none=>rw[sK h0 hs]at hr;cases hr
   |some S1=>
    rw[lH h0 hs]at hr;exact vN hl I hI (mW hl h h0 hs) (hI u S S1 h h0 hi hs) hr
theorem iS {o:Int} {p:List T} {n:Nat} {L:Nat→List T} {S:Dv} (h:bJ o p n (lN L) (fN L)=some S):(1≤o∧o≤3)∧cM p=true∧aU n (lN L) (fN L)=true∧fE o n (lN L) (fN L) 300 (lG p)=some S:=by
 unfold bJ at h;split at h
 ·rename_i hh;exact⟨hh.1,hh.2.1,hh.2.2,h⟩
 ·cases h
theorem oG {o:Int} {p:List T} {n:Nat} {L:Nat→List T} {S:Dv} (h:bJ o p n (lN L) (fN L)=some S) (I:Dv→Prop) (h0:I (lG p)) (hI:∀u S S',jP u S→S.p.length≠0→I S→dP o n (lN L) (fN L) S=some S'→I S'):I S:=by obtain⟨_,h2,h3,h4⟩:=iS h;exact vN h3 I hI (jP.start h2) h0 h4
theorem cY {o:Int} {p:List T} {n:Nat} {L:Nat→List T} {S:Dv} (h:bJ o p n (lN L) (fN L)=some S):jP 300 S∧S.p=[]:=by
 obtain⟨_,h2,h3,h4⟩:=iS h;have:=EX h3 (jP.start h2) h4
 exact⟨by simpa using this.1,this.2⟩
theorem IOz (F:Nat→Lq) (X:Lq) (k:Nat):∀n,k<n→Lq.sumN (fun i=>if i=k then Lq.sum (F i) X else F i) n=Lq.sum (Lq.sumN F n) X
 |0,h=>by omega
 |n+1,h=>by
  rw[Lq.sumN,Lq.sumN];by_cases e:k=n
  ·subst e;rw[if_pos rfl,Lq.sumN_congr (g:=F) (fun i hi=>if_neg (by omega)),Lq.sum_assoc]
  ·rw[IOz F X k n (by omega),if_neg (fun h=>e h.symm),Lq.sum_assoc,Lq.sum_assoc,Lq.sum_comm X]
def qsum (g:rV) (n:Nat) (L:Nat→List T) (q:Nat→List T):Lq:=Lq.sumN (fun i=>Lq.mul (Rp g (q i)) (Rp g (L i))) n
theorem vE:∀n,Lq.sumN (fun _=>Lq.nil) n=Lq.nil
 |0=>rfl
 |n+1=>by rw[Lq.sumN,vE n,Lq.sum_nil]
theorem GN (g:rV) (n:Nat) (L:Nat→List T):qsum g n L (fun _=>[])=Lq.nil:=by unfold qsum;rw[Lq.sumN_congr (g:=fun _=>Lq.nil) (fun i _=>by rw[nJ,Lq.nil_mul]),vE]
theorem VD (g:rV) {n:Nat} {L q:Nat→List T} {k:Nat} {t:T} (hk:k<n) (hq:aK (q k)) (ht:cM [t]=true):qsum g n L (lW q k (bT (q k) [t]))=Lq.sum (qsum g n L q) (Lq.mul (Rp g [t]) (Rp g (L k))):=by
 unfold qsum;rw[←IOz _ _ k n hk];refine Lq.sumN_congr (fun i _=>?_);unfold lW;split
 ·rename_i e;subst e;rw[qQ g hq (aF ht).2,Lq.sum_mul]
 ·rfl
theorem rO (g:rV) {o:Int} {p:List T} {n:Nat} {L:Nat→List T} {S:Dv} (h:bJ o p n (lN L) (fN L)=some S):Lq.sum (qsum g n L S.q) (Rp g S.r)=Rp g p:=by
 obtain⟨_,h2,h3,h4⟩:=iS h
 have key:=oG h (fun S=>Lq.sum (qsum g n L S.q) (Lq.sum (Rp g S.r) (Rp g S.p))=Rp g p) (by
  show Lq.sum (qsum g n L (fun _=>[])) (Lq.sum (Rp g []) (Rp g p))=_;rw[GN,nJ]
  exact Lq.ext fun u i j=>by show(0:Fq)+(0+_)=_;grind) (fun u S S' hok h0 hI hs=>by
  rw[←hI];rcases nO h3 hok.p h0 hs with⟨k,Y,hk,_,ho,hY,_,rfl⟩|⟨_,rfl⟩
  ·show Lq.sum (qsum g n L (lW S.q k _)) (Lq.sum (Rp g S.r) (Rp g (dB S.p Y)))=_;rw[VD g hk (hok.q k).1 ho,uB g (aF hok.p).2 (nF hY),qR g hY];exact Lq.ext fun u i j=>by
    show _+_+(_+(_+zz 100*_))=_+(_+_)
    have e:zz 100=100:=rfl;rw[e]
    grind
  ·show Lq.sum (qsum g n L S.q) (Lq.sum (Rp g (bT S.r [dH o S.p])) (Rp g (dB S.p [dH o S.p])))=_;have f1:=fM (iW (o:=o) (aF hok.p).2 h0)
   rw[qQ g hok.r.1 f1,uB g (aF hok.p).2 f1];exact Lq.ext fun u i j=>by
    show _+(_+_+(_+zz 100*_))=_+(_+_)
    have e:zz 100=100:=rfl;rw[e]
    grind)
 have hp:=(cY h).2;rw[hp,nJ,Lq.sum_nil]at key;exact key
theorem UJ {t l:T} (hd:M.dvd l.m t.m=true):(fQ t l).m.sum l.m=t.m:=by
 have h:=zJ hd;unfold M.mul at h;split at h
 ·exact congrArg Prod.fst h
 ·exact absurd (congrArg Prod.snd h) (by simp)
theorem VB {o:Int} (ho:1≤o∧o≤3) {t:T} {B Y:List T} (hB:cM B=true) (hB0:B.length≠0) (h:mA [t] B=(Y,true)):∀s∈Y,jO o s.m≤jO o t.m+jO o (dH o B).m:=fun s hs=>by
 have:=(AX (DP o) pZ h (List.mem_singleton.2 rfl) (kM (o:=o) hB0) (fun a ha=>by rw[List.mem_singleton.1 ha];exact Int.le_refl _) (DB ho hB hB0)).2 s hs;rw[(DP o t.m (dH o B).m 0 0).2]at this;exact this
theorem VK {o:Int} {p:List T} {n:Nat} {L:Nat→List T} {S:Dv} (h:bJ o p n (lN L) (fN L)=some S) {N:Int} (hN:∀t∈p,jO o t.m≤N):(∀t∈S.r,jO o t.m≤N)∧∀i,i<n→∀s∈S.q i,(s.m.sum (dH o (L i)).m).ok=true∧jO o (s.m.sum (dH o (L i)).m)≤N:=by
 obtain⟨h1,h2,h3,h4⟩:=iS h
 have key:=oG h (fun S=>(∀t∈S.p,jO o t.m≤N)∧(∀t∈S.r,jO o t.m≤N)∧∀i,i<n→∀s∈S.q i,(s.m.sum (dH o (L i)).m).ok=true∧jO o (s.m.sum (dH o (L i)).m)≤N) ⟨hN,⟨fun t ht=>absurd ht (List.not_mem_nil),fun i _ s hs=>absurd hs (List.not_mem_nil)⟩⟩ (fun u S S' hok h0 hI hs=>by
  obtain⟨i1,i2,i3⟩:=hI;have hl:=kM (o:=o) h0
  have hg:=iW (o:=o) (aF hok.p).2 h0;rcases nO h3 hok.p h0 hs with⟨k,Y,hk,hd,ho,hY,_,rfl⟩|⟨hno,rfl⟩
  ·have hk2:=(aR h3).2 k hk;have htop:=VB h1 hk2.2 hk2.1 hY
   have hsum:=UJ hd;have hw:=(DP o (fQ (dH o S.p) (dH o (L k))).m (dH o (L k)).m 0 0).2
   rw[hsum]at hw;refine⟨fun t ht=>?_,i2,fun i hi s hs=>?_⟩
   ·rcases MC (aF hok.p).2 (nF hY) ht with⟨a,ha,e⟩|⟨b,hb,e⟩
    ·rw[←e];exact i1 a ha
    ·rw[←e];have:=htop b hb
     have:=i1 _ hl;omega
   ·change s∈lW S.q k _ i at hs;unfold lW at hs;split at hs
    ·rename_i e;subst e;rcases wQ (hok.q i).1 (aF ho).2 hs with⟨a,ha,e⟩|⟨b,hb,e⟩
     ·rw[←e];exact i3 i hi a ha
     ·rw[←e,List.mem_singleton.1 hb,hsum];exact⟨hg.1,i1 _ hl⟩
    ·exact i3 i hi s hs
  ·refine⟨fun t ht=>?_,fun t ht=>?_,i3⟩
   ·rcases MC (aF hok.p).2 (fM hg) ht with⟨a,ha,e⟩|⟨b,hb,e⟩
    ·rw[←e];exact i1 a ha
    ·rw[←e,List.mem_singleton.1 hb];exact i1 _ hl
   ·rcases wQ hok.r.1 (fM hg) ht with⟨a,ha,e⟩|⟨b,hb,e⟩
    ·rw[←e];exact i2 a ha
    ·rw[←e,List.mem_singleton.1 hb];exact i1 _ hl)
 exact⟨key.2.1,key.2.2⟩
theorem Eu (c:Int) (L:List T) {i:Nat} (h:i<L.length):lf (kC c L) i=wG c (lf L i):=by
 have h2:i<(kC c L).length:=by rw[gM];exact h
 rw[iP h2,iP h];simp only[oJ,List.getElem_map];rfl
end Go.Proofs.YtmlaedpamobmhaaGreat
