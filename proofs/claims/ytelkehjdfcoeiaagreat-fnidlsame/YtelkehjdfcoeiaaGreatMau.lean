/-
  Products of operators as linear maps; an operator that does nothing has no terms.
-/
import Derived.Test.YtelkehjdfcoeiaaGreatMat
import Derived.Shelf.Abstract
set_option maxHeartbeats 8000000
set_option maxRecDepth 100000
namespace Go.Proofs.YtelkehjdfcoeiaaGreat
open Go.RowKit
set_option linter.unusedVariables false
theorem Oy:∀D X i:Fin 16,i.val≤D.val→i.val≤X.val→zz (wy (D.val:Int) (X.val:Int) (i.val:Int))=nf (wN D.val X.val i.val):=by decide+kernel
theorem Dn {d x:Int} {i:Nat} (d0:0≤d) (d1:d≤15) (x0:0≤x) (x1:x≤15) (hi:(i:Int)≤d) (hx:(i:Int)≤x):zz (wy d x i)=nf (wN d.toNat x.toNat i):=by have h:=Oy ⟨d.toNat,by omega⟩ ⟨x.toNat,by omega⟩ ⟨i,by omega⟩ (by show i≤d.toNat;omega) (by show i≤x.toNat;omega);simp only[Int.toNat_of_nonneg d0,Int.toNat_of_nonneg x0]at h;exact h
theorem lD (B:Lq) (f:Nat→Lq):∀n,Lq.mul (Lq.sumN f n) B=Lq.sumN (fun i=>Lq.mul (f i) B) n
 |0=>Lq.nil_mul B
 |n+1=>by rw[Lq.sumN,Lq.sum_mul,lD B f n];rfl
theorem kQ (c:Fq) (f:Nat→Lq):∀n,Lq.sc c (Lq.sumN f n)=Lq.sumN (fun i=>Lq.sc c (f i)) n
 |0=>Lq.ext fun u n k=>by show c*(0:Fq)=0;grind
 |n+1=>by rw[Lq.sumN,Lq.sc_sum,kQ c f n];rfl
theorem SR {xa ya x' d' y' e' db eb:Lq} (h1:Lq.Com ya x') (h2:Lq.Com d' y') (h3:Lq.Com e' db):Lq.mul (Lq.mul xa ya) (Lq.mul (Lq.mul x' d') (Lq.mul (Lq.mul y' e') (Lq.mul db eb)))=Lq.mul (Lq.mul (Lq.mul xa x') (Lq.mul ya y')) (Lq.mul (Lq.mul d' db) (Lq.mul e' eb)):=
 calc _=Lq.mul xa (Lq.mul (Lq.mul ya x') (Lq.mul (Lq.mul d' y') (Lq.mul (Lq.mul e' db) eb))):=rfl
  _=Lq.mul xa (Lq.mul (Lq.mul x' ya) (Lq.mul (Lq.mul y' d') (Lq.mul (Lq.mul db e') eb))):=by rw[h1,h2,h3]
  _=_:=rfl
theorem Jw (g:wS) (a b:T) (ha:a.m.ok=true) (hb:b.m.ok=true):Lq.mul (mo g a.m) (mo g b.m)=Lq.sumN (fun i=>Lq.sumN (fun k=>Lq.sc (nf (wN a.m.d.toNat b.m.x.toNat i)*nf (wN a.m.e.toNat b.m.y.toNat k)) (mo g (oI a b i k).m)) (jK a b+1)) (iK a b+1):=by
 obtain⟨ax0,ax1,ay0,ay1,ad0,ad1,ae0,ae1⟩:=M.ok_iff.1 ha;obtain⟨bx0,bx1,by0,by1,bd0,bd1,be0,be1⟩:=M.ok_iff.1 hb;have e1:Lq.mul (mo g a.m) (mo g b.m)=Lq.mul (Lq.mul (Lq.pow g.x a.m.x.toNat) (Lq.pow g.y a.m.y.toNat)) (Lq.mul (Lq.mul (Lq.pow g.d a.m.d.toNat) (Lq.pow g.x b.m.x.toNat)) (Lq.mul (Lq.mul (Lq.pow g.e a.m.e.toNat) (Lq.pow g.y b.m.y.toNat)) (Lq.mul (Lq.pow g.d b.m.d.toNat) (Lq.pow g.e b.m.e.toNat)))):=by
  have h:=g.xe.symm.pows a.m.e.toNat b.m.x.toNat
  calc _=Lq.mul (Lq.mul (Lq.pow g.x a.m.x.toNat) (Lq.pow g.y a.m.y.toNat)) (Lq.mul (Lq.pow g.d a.m.d.toNat) (Lq.mul (Lq.mul (Lq.pow g.e a.m.e.toNat) (Lq.pow g.x b.m.x.toNat)) (Lq.mul (Lq.pow g.y b.m.y.toNat) (Lq.mul (Lq.pow g.d b.m.d.toNat) (Lq.pow g.e b.m.e.toNat))))):=rfl
   _=Lq.mul (Lq.mul (Lq.pow g.x a.m.x.toNat) (Lq.pow g.y a.m.y.toNat)) (Lq.mul (Lq.pow g.d a.m.d.toNat) (Lq.mul (Lq.mul (Lq.pow g.x b.m.x.toNat) (Lq.pow g.e a.m.e.toNat)) (Lq.mul (Lq.pow g.y b.m.y.toNat) (Lq.mul (Lq.pow g.d b.m.d.toNat) (Lq.pow g.e b.m.e.toNat))))):=by rw[h]
   _=_:=rfl
 have lx:iK a b=min a.m.d.toNat b.m.x.toNat:=by unfold iK;omega
 have ly:jK a b=min a.m.e.toNat b.m.y.toNat:=by unfold jK;omega
 rw[e1,sM g.wx,sM g.wy,lD,Lq.mul_sumN,lx,ly];refine Lq.sumN_congr (fun i hi=>?_);rw[Lq.sc_mul,Lq.mul_sc,lD,Lq.mul_sumN,Lq.mul_sumN,kQ];refine Lq.sumN_congr (fun k hk=>?_);rw[Lq.sc_mul,Lq.mul_sc,Lq.mul_sc,Lq.sc_sc,SR (g.xy.symm.pows _ _) (g.dy.pows _ _) (g.de.symm.pows _ _),←Lq.pow_add,←Lq.pow_add,←Lq.pow_add,←Lq.pow_add];unfold mo oI;simp only;rw[show a.m.x.toNat+(b.m.x.toNat-i)=(a.m.x+b.m.x-(i:Int)).toNat by omega,show a.m.y.toNat+(b.m.y.toNat-k)=(a.m.y+b.m.y-(k:Int)).toNat by omega,show a.m.d.toNat-i+b.m.d.toNat=(a.m.d+b.m.d-(i:Int)).toNat by omega,show a.m.e.toNat-k+b.m.e.toNat=(a.m.e+b.m.e-(k:Int)).toNat by omega]
theorem FO (g:wS) {a b:T} {m:M} (h:tM a b m):Rp g (dL a b)=Lq.sc (zz a.c*zz b.c) (Lq.mul (mo g a.m) (mo g b.m)):=by
 obtain⟨ax0,ax1,ay0,ay1,ad0,ad1,ae0,ae1⟩:=M.ok_iff.1 h.ok1;obtain⟨bx0,bx1,by0,by1,bd0,bd1,be0,be1⟩:=M.ok_iff.1 h.ok2;rw[Jw g a b h.ok1 h.ok2,kQ];refine Lq.ext fun u p q=>?_;show mN (fun m=>(mo g m).f u p q) (gP (gG a b (iK a b+1)) [])=_
 rw[uA _ _ (rH h) eY,GK,IU];unfold mN gG oT;rw[IP];have z:∀x:Fq,0+x=x:=by intro x;grind
 rw[z];refine fH (fun i hi=>?_);rw[List.mem_range]at hi;rw[xW,kQ,IU];refine fH (fun k hk=>?_);rw[List.mem_range]at hk;have hx:iK a b=min a.m.d.toNat b.m.x.toNat:=by unfold iK;omega
 have hy:jK a b=min a.m.e.toNat b.m.y.toNat:=by unfold jK;omega
 show zz (oI a b i k).c*_=zz a.c*zz b.c*(nf _*nf _*_);have hc:zz (oI a b i k).c=zz a.c*zz b.c*nf (wN a.m.d.toNat b.m.x.toNat i)*nf (wN a.m.e.toNat b.m.y.toNat k):=by show zz (a.c*b.c%101*wy a.m.d b.m.x i%101*wy a.m.e b.m.y k%101)=_;rw[lU,oW,lU,oW,lU,oW,Dn ad0 ad1 bx0 bx1 (by omega) (by omega),Dn ae0 ae1 by0 by1 (by omega) (by omega)]
 rw[hc]
 grind
def Rn (g:wS) (f:Nat→T) (n:Nat):Lq:=Lq.sumN (fun i=>Lq.sc (zz (f i).c) (mo g (f i).m)) n
theorem zC (g:wS) (L:List T):Rp g L=Rn g (lf L) L.length:=by
 refine Lq.ext fun u p q=>?_;unfold Rn;rw[IU];show su L _=_
 have e:L=(List.range L.length).map (lf L):=by refine List.ext_getElem (by simp) (fun i h1 h2=>?_);rw[List.getElem_map,List.getElem_range,jV h1]
 have key:∀(f:T→Fq),su L f=su (List.range L.length) (fun i=>f (lf L i)):=fun f=>by have:=xW (lf L) f (List.range L.length);rw[←e]at this;exact this
 rw[key];rfl
theorem SO (g:wS) {K:List T} {a:T} {f:Nat→T} {lb:Nat} (hK:aL K) (ha:a.m.ok=true∧0≤a.c∧a.c≤100) (hg:pR f lb):∀k K',k≤lb→gQ K a f k=some K'→Rp g K'=Lq.sum (Rp g K) (Lq.mul (Lq.sc (zz a.c) (mo g a.m)) (Rn g f k))
 |0,K',_,h=>by cases h;unfold Rn;rw[Lq.sumN,Lq.mul_nil,Lq.sum_nil]
 |k+1,K',hk,h=>by
  rw[gQ]at h;cases hr:gQ K a f k with
  |none=>rw[hr]at h;cases h
  |some K1=>
   rw[hr]at h;change iC K1 a (f k)=some K' at h;have h1:=SO g hK ha hg k K1 (by omega) hr
   have hf1:=lL hK ha hg k K1 (by omega) hr;unfold iC at h;split at h
   ·rename_i hok;cases h;have h2:=hg k (by omega)
    have tw:tM a (f k) (a.m.sum (f k).m):=⟨ha.1,h2.1,hok.1,rfl,rfl,rfl,rfl,ha.2,h2.2⟩
    rw[wY g hf1 (gY tw).1,h1,FO g tw];unfold Rn;rw[Lq.sumN,Lq.mul_sum,Lq.sum_assoc,Lq.mul_sc,Lq.sc_mul,Lq.sc_mul,Lq.sc_sc,show zz (f k).c*zz a.c=zz a.c*zz (f k).c by grind]
   ·cases h
theorem RK (g:wS) {f f':Nat→T} {la lb:Nat} (hf:pR f la) (hg:pR f' lb):∀i K,i≤la→cM f f' lb i=some K→Rp g K=Lq.mul (Rn g f i) (Rn g f' lb)
 |0,K,_,h=>by cases h;unfold Rn;rw[Lq.sumN,Lq.nil_mul];rfl
 |i+1,K,hi,h=>by
  rw[cM]at h;cases hr:cM f f' lb i with
  |none=>rw[hr]at h;cases h
  |some K1=>
   rw[hr]at h;have h1:=RK g hf hg i K1 (by omega) hr
   rw[SO g (dK hf hg i K1 (by omega) hr) (hf i (by omega)) hg lb K (Nat.le_refl _) h,h1];unfold Rn;rw[Lq.sumN.eq_2,Lq.sum_mul]
theorem tL (g:wS) {A B P:List T} (h:lO A B=(P,true)):Rp g P=Lq.mul (Rp g A) (Rp g B):=by
 unfold lO bT at h;split at h
 ·rename_i hok;obtain⟨l1,g1⟩:=cJ hok.1;obtain⟨l2,g2⟩:=cJ hok.2;cases hm:cM (lf A) (lf B) B.length A.length with
  |none=>rw[hm]at h;simp[kW]at h
  |some K=>
   rw[hm]at h;have:K=P:=by simpa[kW]using h
   rw[←this,zC,zC g B];rw[zC];rw[←zC g K];exact RK g g1 g2 _ K (Nat.le_refl _) hm
 ·simp at h
def tX:Lq:=⟨fun u n k=>u (n+1) k,fun _ _=>rfl,fun _ _=>rfl⟩
def tY:Lq:=⟨fun u n k=>u n (k+1),fun _ _=>rfl,fun _ _=>rfl⟩
def sX:Lq:=⟨fun u n k=>nf n*u (n-1) k,fun u v=>by funext n k;simp only[va];grind,fun c u=>by funext n k;simp only[vs];grind⟩
def sY:Lq:=⟨fun u n k=>nf k*u n (k-1),fun u v=>by funext n k;simp only[va];grind,fun c u=>by funext n k;simp only[vs];grind⟩
def IOz:wS where
 x:=tX
 y:=tY
 d:=sX
 e:=sY
 wx:=Lq.ext fun u n k=>by
  show nf (n+1)*u (n+1-1) k=nf n*u (n-1+1) k+u n k;rw[xN,qD,show n+1-1=n by omega];cases n with
  |zero=>rw[jP];grind
  |succ n=>rw[show n+1-1+1=n+1 by omega];grind
 wy:=Lq.ext fun u n k=>by
  show nf (k+1)*u n (k+1-1)=nf k*u n (k-1+1)+u n k;rw[xN,qD,show k+1-1=k by omega];cases k with
  |zero=>rw[jP];grind
  |succ k=>rw[show k+1-1+1=k+1 by omega];grind
 xy:=rfl
 xe:=rfl
 dy:=rfl
 de:=Lq.ext fun u n k=>by
  show nf k*(nf n*u (n-1) (k-1))=nf n*(nf k*u (n-1) (k-1))
  grind
theorem Az (u:Vq) (n k:Nat):∀j,(Lq.pow tX j).f u n k=u (n+j) k
 |0=>rfl
 |j+1=>by rw[Lq.pow_succ'];show(Lq.pow tX j).f (tX.f u) n k=_;rw[Az];rfl
theorem Ba (u:Vq) (n k:Nat):∀j,(Lq.pow tY j).f u n k=u n (k+j)
 |0=>rfl
 |j+1=>by rw[Lq.pow_succ'];show(Lq.pow tY j).f (tY.f u) n k=_;rw[Ba];rfl
theorem Aw:∀(j:Nat) (u:Vq) (n k:Nat),(Lq.pow sX j).f u n k=nf (QO n j)*u (n-j) k
 |0,u,n,k=>by show u n k=nf 1*u n k;rw[qD];grind
 |j+1,u,n,k=>by
  rw[Lq.pow_succ'];show(Lq.pow sX j).f (sX.f u) n k=_
  rw[Aw j];show nf (QO n j)*(nf (n-j)*u (n-j-1) k)=nf (QO n j*(n-j))*u (n-(j+1)) k
  rw[PF,show n-j-1=n-(j+1) by omega];grind
theorem Ay:∀(j:Nat) (u:Vq) (n k:Nat),(Lq.pow sY j).f u n k=nf (QO k j)*u n (k-j)
 |0,u,n,k=>by show u n k=nf 1*u n k;rw[qD];grind
 |j+1,u,n,k=>by
  rw[Lq.pow_succ'];show(Lq.pow sY j).f (sY.f u) n k=_
  rw[Ay j];show nf (QO k j)*(nf (k-j)*u n (k-j-1))=nf (QO k j*(k-j))*u n (k-(j+1))
  rw[PF,show k-j-1=k-(j+1) by omega];grind
theorem ZK (m:M) (u:Vq) (n k:Nat):(mo IOz m).f u n k=nf (QO n m.d.toNat)*nf (QO k m.e.toNat)*u (n-m.d.toNat+m.x.toNat) (k-m.e.toNat+m.y.toNat):=by
 show(Lq.pow sY m.e.toNat).f ((Lq.pow sX m.d.toNat).f ((Lq.pow tY m.y.toNat).f ((Lq.pow tX m.x.toNat).f u))) n k=_;rw[Ay,Aw,Ba,Az]
 grind
theorem wJ {P:List T} (hP:aL P) {t0:T} (h0:t0∈P) {f:T→Fq} (hf:∀t∈P,t.m≠t0.m→f t=0):su P f=f t0:=by
 induction P with
 |nil=>cases h0
 |cons t r ih=>
  rw[su];have hp:=(List.pairwise_cons.1 hP.1).1
  rcases List.mem_cons.1 h0 with rfl|h1
  ·rw[qL f r (fun s hs=>hf s (List.mem_cons_of_mem _ hs) (fun e=>by have:=hp s hs;rw[e]at this;omega))]
   grind
  ·rw[ih hP.tail h1 (fun s hs=>hf s (List.mem_cons_of_mem _ hs)),hf t (List.mem_cons_self ..) (fun e=>by have:=hp t0 h1;rw[e]at this;omega)]
   grind
theorem AQ:∀a b:Fq,a*b=0→a=0∨b=0:=by decide+kernel
theorem Ih:∀D:Fin 16,nf (QO D.val D.val)≠0:=by decide+kernel
theorem KV {α:Type} (f:α→Nat):∀L:List α,L≠[]→∃t∈L,∀s∈L,f t≤f s
 |[],h=>absurd rfl h
 |[t],_=>⟨t,List.mem_singleton.2 rfl,fun s hs=>by rw[List.mem_singleton.1 hs];exact Nat.le_refl _⟩
 |t::s::r,_=>by
  obtain⟨m,hm,hl⟩:=KV f (s::r) (by simp);by_cases h:f t≤f m
  ·exact⟨t,List.mem_cons_self ..,fun x hx=>by
    rcases List.mem_cons.1 hx with rfl|hx
    ·exact Nat.le_refl _
    ·exact jQ h (hl x hx)⟩
  ·exact⟨m,List.mem_cons_of_mem _ hm,fun x hx=>by
    rcases List.mem_cons.1 hx with rfl|hx
    ·omega
    ·exact hl x hx⟩
theorem UF {P:List T} (hP:aL P) (hne:P≠[]):∃t0∈P,(Rp IOz P).f (fun n k=>if n=t0.m.x.toNat∧k=t0.m.y.toNat then 1 else 0) t0.m.d.toNat t0.m.e.toNat≠0:=by
 obtain⟨t0,h0,hmin⟩:=KV (fun t:T=>t.m.d.toNat+t.m.e.toNat) P hne;refine⟨t0,h0,?_⟩;have r0:=hP.2 t0 h0
 obtain⟨x0,x1,y0,y1,d0,d1,e0,e1⟩:=M.ok_iff.1 r0.1;show su P (fun t=>zz t.c*(mo IOz t.m).f _ t0.m.d.toNat t0.m.e.toNat)≠0
 rw[wJ hP h0 (fun t ht hm=>?_)]
 ·rw[ZK];have hz:(if t0.m.d.toNat-t0.m.d.toNat+t0.m.x.toNat=t0.m.x.toNat∧t0.m.e.toNat-t0.m.e.toNat+t0.m.y.toNat=t0.m.y.toNat then(1:Fq)else 0)=1:=if_pos ⟨by omega,by omega⟩
  simp only[hz];intro h;rcases AQ _ _ h with h|h
  ·exact sA r0.2.1 r0.2.2 h
  ·rcases AQ _ _ h with h|h
   ·rcases AQ _ _ h with h|h
    ·exact Ih ⟨t0.m.d.toNat,by omega⟩ h
    ·exact Ih ⟨t0.m.e.toNat,by omega⟩ h
   ·exact absurd h (by decide)
 ·rw[ZK];have r1:=hP.2 t ht
  obtain⟨u0,u1,v0,v1,f0,f1,g0,g1⟩:=M.ok_iff.1 r1.1;have hm2:t0.m.d.toNat+t0.m.e.toNat≤t.m.d.toNat+t.m.e.toNat:=hmin t ht
  have zl:∀x:Fq,0*x=0:=by intro x;grind
  have zr:∀x:Fq,x*0=0:=by intro x;grind
  by_cases hd:t0.m.d.toNat<t.m.d.toNat
  ·rw[vI _ _ hd,jP,zl,zl,zr]
  ·by_cases he:t0.m.e.toNat<t.m.e.toNat
   ·rw[vI _ _ he,jP,zr,zl,zr]
   ·rw[if_neg,zr,zr];rintro⟨hx,hy⟩;refine hm ?_;have a1:t.m.x=t0.m.x:=by omega
    have a2:t.m.y=t0.m.y:=by omega
    have a3:t.m.d=t0.m.d:=by omega
    have a4:t.m.e=t0.m.e:=by omega
    revert a1 a2 a3 a4
    cases t.m;cases t0.m;intro a1 a2 a3 a4;simp only at a1 a2 a3 a4;rw[a1,a2,a3,a4]
theorem xO {P:List T} (hP:aL P) (h:Rp IOz P=Lq.nil):P=[]:=by
 by_cases hne:P=[]
 ·exact hne
 ·obtain⟨t0,_,h1⟩:=UF hP hne;rw[h]at h1;exact absurd rfl h1
theorem JV {P Q:List T} (hP:aL P) (hQ:aL Q) (h:Rp IOz P=Rp IOz Q):P=Q:=by
 refine(yR hP hQ).1 (xO (cO hP hQ).1 ?_);rw[wZ IOz hP hQ,h];refine Lq.ext fun u n k=>?_;show _+zz 100*_=(0:Fq)
 have:zz 100=100:=rfl;rw[this]
 grind
theorem DG {A B P:List T} (h:lO A B=(P,true)):cF P=true:=by
 rcases NQ A B with h1|⟨Q,h1,o⟩
 ·rw[h1]at h;simp at h
 ·rw[h1]at h;simp only[Prod.mk.injEq,and_true]at h;rw[←h];exact o
theorem Dg (A B:List T):lO A B=([],false)∨∃P,lO A B=(P,true):=(NQ A B).imp id (fun⟨P,h,_⟩=>⟨P,h⟩)
theorem nR {A B P:List T} (h:lO A B=(P,true)):aL P:=(aD (DG h)).2
theorem IZ {A B P:List T} (h:lO A B=(P,true)):cF A=true∧cF B=true:=by
 unfold lO bT at h;split at h
 ·rename_i hh;exact hh
 ·simp at h
def uI (c:Int) (t:T):T:=⟨c*t.c%101,t.m⟩
theorem Dz {c:Int} (c1:1≤c) (c2:c≤100) {K X:List T} (hK:aL K) (hX:aL X):dG (iS c K) (iS c X)=iS c (dG K X):=by
 have f1:=gR c1 c2 hK;have f2:=gR c1 c2 hX
 refine JV (cW f1 f2).1 (gR c1 c2 (cW hK hX).1) ?_;rw[wY _ f1 f2,yC,yC,yC,wY _ hK hX,Lq.sc_sum]
theorem Gm {c:Int} (c1:1≤c) (c2:c≤100) {a b:T} {m:M} (h:tM a b m):tM (uI c a) b m∧dL (uI c a) b=iS c (dL a b):=by
 have h2:tM (uI c a) b m:=⟨h.ok1,h.ok2,h.ok3,h.gx,h.gy,h.gd,h.ge,⟨by show 0≤c*a.c%101;omega,by show c*a.c%101≤100;omega⟩,h.c2⟩
 refine⟨h2,JV (gY h2).1 (gR c1 c2 (gY h).1) ?_⟩;rw[FO _ h2,yC,FO _ h,Lq.sc_sc];congr 1;show zz (c*a.c%101)*zz b.c=_
 rw[lU,oW];grind
theorem SP {c:Int} (c1:1≤c) (c2:c≤100) {K:List T} {a:T} {f:Nat→T} {lb:Nat} (hK:aL K) (ha:a.m.ok=true∧0≤a.c∧a.c≤100) (hg:pR f lb):∀k,k≤lb→gQ (iS c K) (uI c a) f k=(gQ K a f k).map (iS c)
 |0,_=>rfl
 |k+1,hk=>by
  rw[gQ,gQ,SP c1 c2 hK ha hg k (by omega)];cases hr:gQ K a f k with
  |none=>rfl
  |some K1=>
   show iC (iS c K1) (uI c a) (f k)=(iC K1 a (f k)).map (iS c);have hf1:=lL hK ha hg k K1 (by omega) hr
   have h2:=hg k (by omega);unfold iC;show(if(a.m.sum (f k).m).ok=true∧(dG (iS c K1) (dL (uI c a) (f k))).length≤400 then some (dG (iS c K1) (dL (uI c a) (f k)))else none)=_
   by_cases hok:(a.m.sum (f k).m).ok=true
   ·have tw:tM a (f k) (a.m.sum (f k).m):=⟨ha.1,h2.1,hok,rfl,rfl,rfl,rfl,ha.2,h2.2⟩
    rw[(Gm c1 c2 tw).2,Dz c1 c2 hf1 (gY tw).1,eG];by_cases hl:(dG K1 (dL a (f k))).length≤400
    ·rw[if_pos ⟨hok,hl⟩,if_pos ⟨hok,hl⟩];rfl
    ·rw[if_neg (fun h=>hl h.2),if_neg (fun h=>hl h.2)];rfl
   ·rw[if_neg (fun h=>hok h.1),if_neg (fun h=>hok h.1)];rfl
theorem zL {c:Int} (c1:1≤c) (c2:c≤100) {f f' f2:Nat→T} {la lb:Nat} (hf:pR f la) (hg:pR f' lb) (he:∀i,i<la→f2 i=uI c (f i)):∀i,i≤la→cM f2 f' lb i=(cM f f' lb i).map (iS c)
 |0,_=>by show some []=some (iS c []);rw[show iS c []=[]from by rw[qK];rfl]
 |i+1,hi=>by
  rw[cM,cM,zL c1 c2 hf hg he i (by omega)];cases hr:cM f f' lb i with
  |none=>rfl
  |some K1=>
   show gQ (iS c K1) (f2 i) f' lb=(gQ K1 (f i) f' lb).map (iS c);rw[he i (by omega)];exact SP c1 c2 (dK hf hg i K1 (by omega) hr) (hf i (by omega)) hg lb (Nat.le_refl _)
theorem NL (A B:Lq) (u:Vq) (n k:Nat):(Lq.sum A B).f u n k=A.f u n k+B.f u n k:=rfl
theorem Cl (c:Fq) (A:Lq) (u:Vq) (n k:Nat):(Lq.sc c A).f u n k=c*A.f u n k:=rfl
open Go.RowKit Go.Deep Go.Joins
theorem RZ {lo lo':Nat} {w:World} {a:Option Addr} {cap:Nat} {L:List T} (h:jG lo w a cap L) (hl:lo'≤lo):jG lo' w a cap L:=⟨h.1,h.2.1,h.2.2.imp id (fun⟨g,off,he,hlo⟩=>⟨g,off,he,jQ hl hlo⟩)⟩
theorem iX {t:T} (h:t.m.ok=true∧1≤t.c∧t.c≤100):cF [t]=true:=
 gO (by simp) ⟨List.pairwise_singleton _ _,fun s hs=>by simp at hs;subst hs;exact h⟩
def mY (u v:T) (f:Nat→T) (n:Nat) (g:Nat→T) (m:Nat):List T×Bool:=
 if(bT (lf [u]) 1 f n).2=true∧(bT (lf [v]) 1 g m).2=true then kZ (lf (bT (lf [u]) 1 f n).1) (bT (lf [u]) 1 f n).1.length (lf (bT (lf [v]) 1 g m).1) (bT (lf [v]) 1 g m).1.length else([],false)
theorem UE (u v:T) (f:Nat→T) (n:Nat) (g:Nat→T) (m:Nat):(mY u v f n g m).1.length≤400:=by
 unfold mY;split
 ·exact BZ _ _ _ _
 ·simp
def cZ (o:Int) (f:Nat→T) (n:Nat) (g:Nat→T) (m:Nat):List T×Bool:=
 if fM o n f m g=true then mY (eZ o n f m g) (fC o n f m g) f n g m else([],false)
theorem MY (o:Int) (f:Nat→T) (n:Nat) (g:Nat→T) (m:Nat):(cZ o f n g m).1.length≤400:=by
 unfold cZ;split
 ·exact UE _ _ _ _ _ _
 ·simp
def pH (L:List T) (t:T) (g:Nat→T) (m:Nat):List T×Bool:=
 match cM (lf [t]) g m 1 with
 |none=>([],false)
 |some Y=>if(dC L Y).length≤400 then(dC L Y,true)else([],false)
theorem VD (L:List T) (t:T) (g:Nat→T) (m:Nat):(pH L t g m).1.length≤400:=by
 unfold pH;split
 ·simp
 ·split
  ·assumption
  ·simp
theorem ZU {t:T} (ht:t.m.ok=true∧1≤t.c∧t.c≤100) {g:Nat→T} {m:Nat} (hg:pR g m):cM (lf [⟨101-t.c,t.m⟩]) g m 1=(cM (lf [t]) g m 1).map (iS 100):=by
 refine zL (by omega) (by omega) (f:=lf [t]) (la:=1) (fun i hi=>?_) hg (fun i hi=>?_) 1 (Nat.le_refl _)
 ·obtain rfl:i=0:=by omega
  exact⟨ht.1,by show 0≤t.c;omega,ht.2.2⟩
 ·obtain rfl:i=0:=by omega
  show(⟨101-t.c,t.m⟩:T)=⟨100*t.c%101,t.m⟩
  congr 1;omega
theorem VE {u v:T} {f:Nat→T} {n:Nat} {g:Nat→T} {m:Nat} (hu:u.m.ok=true∧1≤u.c∧u.c≤100) (hv:v.m.ok=true∧1≤v.c∧v.c≤100) (hf:aO n f=true) (hg:aO m g=true):mY u v f n g m=match cM (lf [u]) f n 1 with|none=>([],false)|some X=>pH X v g m:=by
 have o1:aO 1 (lf [u])=true:=iX hu;have o2:aO 1 (lf [v])=true:=iX hv
 have e1:bT (lf [u]) 1 f n=kW (cM (lf [u]) f n 1):=if_pos ⟨o1,hf⟩;have e2:bT (lf [v]) 1 g m=kW (cM (lf [v]) g m 1):=if_pos ⟨o2,hg⟩
 unfold mY;rw[e1,e2];cases hX:cM (lf [u]) f n 1 with
 |none=>exact if_neg (by simp[kW])
 |some X=>
  unfold pH;cases hY:cM (lf [v]) g m 1 with
  |none=>exact if_neg (by simp[kW])
  |some Y=>
   have kX:cF X=true:=gO (gN _ X hX) (dK (cJ o1).2 (cJ hf).2 _ X (Nat.le_refl _) hX);have kY:cF Y=true:=gO (gN _ Y hY) (dK (cJ o2).2 (cJ hg).2 _ Y (Nat.le_refl _) hY)
   rw[if_pos (by simp[kW])];show wK X Y=if(dC X Y).length≤400 then(dC X Y,true)else([],false)
   by_cases hl:(dC X Y).length≤400
   ·rw[if_pos hl,IQ kX kY hl]
   ·rw[if_neg hl];rcases xX X Y with h|⟨_,_,h,_⟩
    ·exact h
    ·exact absurd h hl
theorem QX (w:World) (pa:Option Addr) (pc:Nat) (L:List T) (t:T) (b:Option Addr) (m cb:Nat) (g:Nat→T) (hp:RL w pa pc L) (hl:L.length≤400) (hL:aL L) (ht:t.m.ok=true∧1≤t.c∧t.c≤100) (hb:Rd w b m cb g) (hg:aO m g=true):Calls Tryz.prog 116 #[.slice pa L.length pc,.agg #[.int .i64 t.c,.int .i64 t.m.x,.int .i64 t.m.y,.int .i64 t.m.d,.int .i64 t.m.e],.slice b m cb] w fun r w'=>∃v,r= .returned (.tuple #[v,.bool (pH L t g m).2])∧Below w.heap.size w w'∧w'.ownsRow w.heap.size 86 5 v (pH L t g m).1.length (aE (pH L t g m).1):=by
 obtain⟨l2,gg⟩:=cJ hg;have HP:=aA hp
 have HG:=aA hb;have HL:=aA hL
 have hmn:=ZU ht gg;obtain⟨t0,t1,t2⟩:=ht;have gs:pR (lf [(⟨101-t.c,t.m⟩:T)]) 1:=fun i hi=>by
  obtain rfl:i=0:=by omega
  exact⟨t0,by show 0≤101-t.c;omega,by show 101-t.c≤100;omega⟩
 have gt:pR (lf [t]) 1:=fun i hi=>by
  obtain rfl:i=0:=by omega
  exact⟨t0,by show 0≤t.c;omega,t2⟩
 have hcall:=fun(W:World) (h:RL W (some ⟨w.heap.size+1,0,none⟩) 1 [(⟨101-t.c,t.m⟩:T)]) (h':Rd W b m cb g)=>ZW W (some ⟨w.heap.size+1,0,none⟩) b 1 1 m cb (lf [(⟨101-t.c,t.m⟩:T)]) g h h' (by omega) l2 gs gg;rw[hmn]at hcall;have HGT:=aA gt
 have HGG:=aA gg;clear hp hb hL gs gt gg hmn;unfold pH;have hrl:=iG (w.alloc (.cells #[.int .i64 t.c,.int .i64 t.m.x,.int .i64 t.m.y,.int .i64 t.m.d,.int .i64 t.m.e] 86)) (⟨101-t.c,t.m⟩:T)
 rw[World.size_alloc]at hrl;have HRL:=aA hrl
 have HBL:=aA (aS w (.cells #[.int .i64 t.c,.int .i64 t.m.x,.int .i64 t.m.y,.int .i64 t.m.d,.int .i64 t.m.e] 86) (.cells #[.int .i64 (101-t.c),.int .i64 t.m.x,.int .i64 t.m.y,.int .i64 t.m.d,.int .i64 t.m.e] 86));clear hrl;cases hY:cM (lf [t]) g m 1 with
 |none=>
  rw[hY]at hcall;simp only[Option.map_none,kW]at hcall;go_enter Tryz.func116,Tryz.ntmps116;go_wp2_with fail;refine(hcall _ HRL.out (HG.out.below HBL.out)).mono ?_;rintro r w1 ⟨v1,rfl,hb1,ho1⟩;have HB1:=aA (aB HBL.out hb1)
  clear hb1 ho1 hcall;go_wp2;refine cD (results_tmp2 rfl _ _ _) rfl ?_;exact⟨_,rfl,HB1.out.alloc HB1.out.size _,dA w1 w.heap.size HB1.out.size⟩
 |some Y=>
  have fY:=dK HGT.out HGG.out 1 Y (Nat.le_refl _) hY;have lY:=gN 1 Y hY
  have fS:=gR (c:=100) (by omega) (by omega) fY;have lS:=eG 100 Y
  have hsl:=CW L Y;rw[hY]at hcall;simp only[Option.map_some,kW]at hcall;obtain⟨Z,hZ⟩:∃Z,iS 100 Y=Z:=⟨_,rfl⟩
  rw[hZ]at hcall fS lS;have hadd:dC L Y=dG L Z:=by rw[←hZ];rfl
  dsimp only;rw[hadd]at hsl⊢;have lZ:Z.length≤400:=by omega
  have c1:Hid (∀i,i<L.length→0≤(lf L i).c∧(lf L i).c≤100):=fun i hi=>by have:=(yJ HL.out).2 i hi;omega
  have c2:Hid (∀i,i<Z.length→0≤(lf Z i).c∧(lf Z i).c≤100):=fun i hi=>by have:=(yJ fS).2 i hi;omega
  have HAD:Hid (iJ (lf L) L.length (lf Z) Z.length 0 0=dG L Z):=rfl;obtain⟨R,hR⟩:∃R,dG L Z=R:=⟨_,rfl⟩
  rw[hR]at hsl HAD⊢;have hRl:R.length≤1000:=by omega
  clear hZ hadd hR fS fY lS hsl;by_cases hle:R.length≤400
  ·have hg4:¬(400:Int)<(R.length:Int):=by omega
   rw[if_pos hle];go_enter Tryz.func116,Tryz.ntmps116;go_wp2_with fail;refine(hcall _ HRL.out (HG.out.below HBL.out)).mono ?_;rintro r w1 ⟨v1,rfl,hb1,ho1⟩;obtain⟨a1,k1,rfl,hout⟩:=aI ho1 (by omega);have HB1:=aA (aB HBL.out hb1)
   have HZ1:=aA hout.1;clear hb1 ho1 hout hcall;go_wp2_with fail;refine(rK _ _ _ _ _ _ _ (lf L) (lf Z) (HP.out.below HB1.out) HZ1.out (by omega) c1.out c2.out).mono ?_;rw[HAD.out];rintro r w2 ⟨v2,rfl,hb2,ho2⟩;have HB2:=aA (aB HB1.out hb2)
   have HO2:=aA (iY ho2 HB1.out.size);obtain⟨a2,k2,rfl,hout⟩:=aI ho2 (by omega);clear hb2 ho2 hout;go_wp2;refine cD (results_tmp2 rfl _ _ _) rfl ?_;exact⟨_,rfl,HB2.out,HO2.out⟩
  ·have hg4:(400:Int)<(R.length:Int):=by omega
   rw[if_neg hle];go_enter Tryz.func116,Tryz.ntmps116;go_wp2_with fail;refine(hcall _ HRL.out (HG.out.below HBL.out)).mono ?_;rintro r w1 ⟨v1,rfl,hb1,ho1⟩;obtain⟨a1,k1,rfl,hout⟩:=aI ho1 (by omega);have HB1:=aA (aB HBL.out hb1)
   have HZ1:=aA hout.1;clear hb1 ho1 hout hcall;go_wp2_with fail;refine(rK _ _ _ _ _ _ _ (lf L) (lf Z) (HP.out.below HB1.out) HZ1.out (by omega) c1.out c2.out).mono ?_;rw[HAD.out];rintro r w2 ⟨v2,rfl,hb2,ho2⟩;have HB2:=aA (aB HB1.out hb2)
   have HO2:=aA (iY ho2 HB1.out.size);obtain⟨a2,k2,rfl,hout⟩:=aI ho2 (by omega);clear hb2 ho2 hout;go_wp2;refine cD (results_tmp2 rfl _ _ _) rfl ?_;exact⟨_,rfl,HB2.out.alloc HB2.out.size _,dA w2 w.heap.size HB2.out.size⟩
theorem aQ {n:Nat} {ln:Nat→Nat} {f:Nat→Nat→T} (h:bB n ln f=true):n≤12∧∀i,i<n→ln i≠0∧aO (ln i) (f i)=true:=of_decide_eq_true h
def pY (p:T→Bool) (f:Nat→T):Nat→Int
 |0=> -1
 |n+1=>if 0≤pY p f n then pY p f n else if p (f n)=true then(n:Int)else -1
theorem vN {p:T→Bool} {f:Nat→T}:∀{k:Nat},(∀j,j<k→p (f j)=false)→pY p f k= -1
 |0,_=>rfl
 |k+1,h=>by have h1:=vN (p:=p) (f:=f) (k:=k) (fun j hj=>h j (by omega));unfold pY;rw[h1,if_neg (by omega),if_neg (by rw[h k (by omega)];decide)]
theorem zD {p:T→Bool} {f:Nat→T} {k:Nat} (h:∀j,j<k→p (f j)=false) (hk:p (f k)=true):∀n,k<n→pY p f n=(k:Int)
 |0,h0=>by omega
 |n+1,h0=>by
  by_cases e:k=n
  ·subst e;unfold pY;rw[vN h,if_neg (by omega),if_pos hk]
  ·have h1:=zD h hk n (by omega);unfold pY;rw[h1,if_pos (by omega)]
theorem GD {p:T→Bool} {f:Nat→T}:∀{n:Nat},0≤pY p f n↔∃i,i<n∧p (f i)=true
 |0=>⟨fun h=>absurd (show(0:Int)≤ -1 from h) (by decide),fun⟨_,h,_⟩=>by omega⟩
 |n+1=>by
  have ih:=GD (p:=p) (f:=f) (n:=n);unfold pY;by_cases h:0≤pY p f n
  ·rw[if_pos h];exact⟨fun _=>by obtain⟨i,hi,hp⟩:=ih.1 h;exact⟨i,by omega,hp⟩,fun _=>h⟩
  ·rw[if_neg h];by_cases hp:p (f n)=true
   ·rw[if_pos hp];exact⟨fun _=>⟨n,by omega,hp⟩,fun _=>by omega⟩
   ·rw[if_neg hp];refine⟨fun hh=>absurd hh (by decide),fun⟨i,hi,hpi⟩=>?_⟩;by_cases e:i=n
    ·subst e;exact absurd hpi hp
    ·exact absurd (ih.2 ⟨i,by omega,hpi⟩) h
def Ir (g:Nat) (lb:Array Value) (p:T→Bool) (Q:World→Prop) (f:Nat→T) (n:Nat):Prop:=
 ∀(k:Nat) (W:World),k<n→Q W→Calls Tryz.prog g (#[.agg #[.int .i64 (f k).c,.int .i64 (f k).m.x,.int .i64 (f k).m.y,.int .i64 (f k).m.d,.int .i64 (f k).m.e]]++lb) W fun r w'=>r= .returned (.bool (p (f k)))∧Below W.heap.size W w'
theorem Oe (w:World) (a:Option Addr) (n cap:Nat) (f:Nat→T) (g:Nat) (lb:Array Value) (p:T→Bool) (Q:World→Prop) (eg:∀args w,(callFunc g args).run Tryz.prog w= .ok (.enter g args) w) (hW:Ir g lb p Q f n) (hQ:∀W',Below w.heap.size w W'→Q W') (h:Rd w a n cap f):Calls Tryz.prog 166 #[.slice a n cap,.func (.func g) #[] lb] w fun r w'=>r= .returned (.int .i64 (pY p f n))∧Below w.heap.size w w':=by
 have HA:=aA h;have HW:=aA hW
 have HQ:=aA hQ;have hn:(n:Int)≤140737488351232:=by have:=h.2.1;omega
 clear h hW hQ;go_enter Tryz.func166,Tryz.ntmps166;go_wp2;go_loopw [8] (fun v wr=>∃k:Nat,k≤n∧v= .int .i64 (k:Int)∧Below w.heap.size w wr∧∀j,j<k→p (f j)=false) (fun v _=>n-(intOf v).toNat);case atStart=>exact⟨0,Nat.zero_le _,rfl,bG _ _,fun j hj=>by omega⟩
 case round=>
  obtain⟨k,hk,rfl,hB,hJ⟩:=hrel;have HJ:=aA hJ
  have HB:=aA hB;clear hJ;by_cases hlt:k<n
  ·have hkn:(k:Int)<(n:Int):=by omega
   have hri:=HA.out.below hB;rcases hri.2.2 with h0|⟨b,off,hpe,hblt,hcl⟩
   ·omega
   obtain⟨g0,g1,g2,g3,g4⟩:=hcl k hlt;have HCALL:=aA (HW.out k wr hlt (HQ.out _ hB))
   clear hcl hri hB;subst hpe;cases hpk:p (f k)
   ·have HP:=aA hpk;go_wp2_with fail;refine HCALL.out.mono ?_;rw[hpk];rintro r w4 ⟨rfl,hb4⟩;have HB4:=aA (aB HB.out hb4)
    clear hb4 g0 g1 g2 g3 g4 hpk;go_wp2;go_roundw
    case rel=>exact⟨k+1,by omega,by go_num,HB4.out,fun j hj=>by
     by_cases e:j=k
     ·rw[e];exact HP.out
     ·exact HJ.out j (by omega)⟩
    case measure=>simp[intOf];omega
   ·have HE:Hid (pY p f n=(k:Int)):=zD HJ.out hpk n hlt;go_wp2_with fail;refine HCALL.out.mono ?_;rw[hpk];rintro r w4 ⟨rfl,hb4⟩;have HB4:=aA (aB HB.out hb4)
    clear hb4 g0 g1 g2 g3 g4 hpk;go_wp2;go_ret;exact⟨congrArg (fun z=>Ending.returned (Value.int IntKind.i64 z)) HE.out.symm,HB4.out⟩
  ·have hnl:¬(k:Int)<(n:Int):=by omega
   have hie:k=n:=by omega
   subst hie;have HE:Hid (pY p f k= -1):=vN HJ.out
   go_wp2;go_ret;exact⟨congrArg (fun z=>Ending.returned (Value.int IntKind.i64 z)) HE.out.symm,HB.out⟩
theorem Jb (t:T) (m:M) (B:Nat) (W:World) (h:M4 W B m.x m.y m.d m.e):Calls Tryz.prog 167 #[.agg #[.int .i64 t.c,.int .i64 t.m.x,.int .i64 t.m.y,.int .i64 t.m.d,.int .i64 t.m.e],.pointer (some ⟨B,0,none⟩)] W fun r w'=>r= .returned (.bool (M.dvd t.m m))∧Below W.heap.size W w':=by
 obtain⟨bv,hbv⟩:∃bv,M.dvd ⟨t.m.x,t.m.y,t.m.d,t.m.e⟩ ⟨m.x,m.y,m.d,m.e⟩=bv:=⟨_,rfl⟩
 rw[show M.dvd t.m m=bv from hbv];have HD:=aA hbv
 have B1w:=aA (aC W (.cells #[.int .i64 t.c,.int .i64 t.m.x,.int .i64 t.m.y,.int .i64 t.m.d,.int .i64 t.m.e] 86));have hlt:=h.lt
 obtain⟨c1,c2,c3,c4⟩:=h;clear hbv;go_enter Tryz.func167,Tryz.ntmps167;go_wp2_with fail;refine(kH HD.out _).mono ?_;rintro r w1 ⟨rfl,hb⟩;have HB:=aA (aB B1w.out hb)
 clear hb c1 c2 c3 c4;go_wp2;go_ret;exact⟨rfl,HB.out⟩
theorem WE (w:World) (a:Option Addr) (n cap:Nat) (f:Nat→T) (m:M) (h:Rd w a n cap f):Calls Tryz.prog 139 #[.slice a n cap,.agg #[.int .i64 m.x,.int .i64 m.y,.int .i64 m.d,.int .i64 m.e]] w fun r w'=>r= .returned (.int .i64 (pY (fun t=>M.dvd t.m m) f n))∧Below w.heap.size w w':=by
 have HI:=aA (Oe (w.alloc (.cells #[.int .i64 m.x,.int .i64 m.y,.int .i64 m.d,.int .i64 m.e] 84)) a n cap f 167 #[.pointer (some ⟨w.heap.size,0,none⟩)] (fun t=>M.dvd t.m m) (fun W=>M4 W w.heap.size m.x m.y m.d m.e) (enters_of Tryz.func167 (by kernel_rfl) rfl) (fun k W hk hQ=>Jb (f k) m _ W hQ) (fun W' hb=>(M4.box w 84 m.x m.y m.d m.e).below hb) (h.below (aC w _)));have HB0:=aA (aC w (.cells #[.int .i64 m.x,.int .i64 m.y,.int .i64 m.d,.int .i64 m.e] 84))
 clear h;go_enter Tryz.func139,Tryz.ntmps139;go_wp2_with fail;refine HI.out.mono ?_;rintro r w1 ⟨rfl,hb⟩;have HB:=aA (aB HB0.out hb)
 clear hb HI HB0;go_wp2;go_ret;exact⟨rfl,HB.out⟩
def nU (o:Int) (ln:Nat→Nat) (f:Nat→Nat→T):Nat→List T
 |0=>[]
 |i+1=>nU o ln f i++[nT o ln f i]
theorem kG (o:Int) (ln:Nat→Nat) (f:Nat→Nat→T):∀i,(nU o ln f i).length=i
 |0=>rfl
 |i+1=>by unfold nU;rw[List.length_append,kG o ln f i];rfl
theorem zE (o:Int) (ln:Nat→Nat) (f:Nat→Nat→T):∀n i,i<n→lf (nU o ln f n) i=nT o ln f i
 |0,i,h=>by omega
 |n+1,i,h=>by
  have hl:=kG o ln f n;unfold nU lf;by_cases e:i=n
  ·subst e;rw[List.getD_eq_getElem?_getD,List.getElem?_append_right (by omega),hl];simp
  ·have:=zE o ln f n i (by omega);unfold lf at this;rw[List.getD_eq_getElem?_getD]at this⊢;rw[List.getElem?_append_left (by omega)];exact this
theorem oS (w:World) (o:Int) (a:Option Addr) (n cap:Nat) (ho:o<1∨3<o):Calls Tryz.prog 35 #[.int .i64 o,.slice a n cap] w fun r w'=>r= .returned (.tuple #[.slice none 0 0,.bool false])∧Below w.heap.size w w':=by
 go_enter Tryz.func35,Tryz.ntmps35;go_wp2_with fail;refine(mG _ _ ho).mono ?_;rintro r w1 ⟨rfl,hb1⟩;have HB:=aA hb1
 clear hb1;go_wp2;refine cD (v:=.tuple #[.slice none 0 0,.bool false]) (by simp[results,Tryz.results35,go_sem, *]) rfl ⟨rfl,HB.out⟩
theorem qI (w:World) (o:Int) (a:Option Addr) (n cap:Nat) (ad:Nat→Option Addr) (ln cp:Nat→Nat) (f:Nat→Nat→T) (h:eQ w a n cap ad ln cp f) (o1:1≤o) (o2:o≤3) (hls:bB n ln f=false):Calls Tryz.prog 35 #[.int .i64 o,.slice a n cap] w fun r w'=>r= .returned (.tuple #[.slice none 0 0,.bool false])∧Below w.heap.size w w':=by
 have HH:=aA h;clear h;go_enter Tryz.func35,Tryz.ntmps35;go_wp2_with fail;refine(gX _ _ o1 o2).mono ?_;rintro r w1 ⟨fv,rfl,hb1⟩;have HB:=aA hb1
 have HR:=aA (HH.out.below hb1);clear hb1;go_wp2_with fail;refine(OW _ _ _ _ _ _ _ _ HR.out).mono ?_;rw[hls];rintro r w2 ⟨rfl,hb2⟩;have HB2:=aA (aB HB.out hb2)
 clear hb2;go_wp2;refine cD (v:=.tuple #[.slice none 0 0,.bool false]) (by simp[results,Tryz.results35,go_sem, *]) rfl ⟨rfl,HB2.out⟩
theorem pN (w:World) (o:Int) (a:Option Addr) (n cap:Nat) (ad:Nat→Option Addr) (ln cp:Nat→Nat) (f:Nat→Nat→T) (h:eQ w a n cap ad ln cp f) (o1:1≤o) (o2:o≤3) (hls:bB n ln f=true):Calls Tryz.prog 35 #[.int .i64 o,.slice a n cap] w fun r w'=>∃v,r= .returned (.tuple #[v,.bool true])∧Below w.heap.size w w'∧w'.ownsRow w.heap.size 86 5 v (nU o ln f n).length (aE (nU o ln f n)):=by
 obtain⟨i0,hi0,hz0,hz1,hz2⟩:=info_parts yN;have HH:=aA h
 have hall:=aQ hls;have HO:=aA hall.2
 have hn:(n:Int)≤12:=by have:=hall.1;omega
 clear h hall;go_enter Tryz.func35,Tryz.ntmps35;go_wp2_with fail;refine(gX _ _ o1 o2).mono ?_;rintro r w1 ⟨fv,rfl,hb1⟩;have HB:=aA hb1
 have HR:=aA (HH.out.below hb1);clear hb1;go_wp2_with fail;refine(OW _ _ _ _ _ _ _ _ HR.out).mono ?_;rw[hls];rintro r w2 ⟨rfl,hb2⟩;have HB2:=aA (aB HB.out hb2)
 clear hb2 HB HR hls;go_wp2;go_loopw [8,27] (fun v i wr=>∃k:Nat,k≤n∧i= .int .i64 (k:Int)∧Below w.heap.size w wr∧wr.ownsRow w.heap.size 86 5 v (nU o ln f k).length (aE (nU o ln f k))) (fun _ i _=>n-(intOf i).toNat);case atStart=>exact⟨0,Nat.zero_le _,rfl,HB2.out,pM w2 _⟩
 case round=>
  obtain⟨k,hk,rfl,hB,hown⟩:=hrel;have HB3:=aA hB
  have HO3:=aA hown;clear hown;by_cases hlt:k<n
  ·rcases HH.out.2.2.1 with h0|⟨b,off,rfl,hblt,hcl⟩
   ·omega
   have hkl:(k:Int)<(n:Int):=by omega
   have g0:wr.cell? ⟨b,off+k,none⟩=some (.slice (ad k) (ln k) (cp k)):=(hB.cell (p:=⟨b,off+k,none⟩) hblt).trans (hcl k hlt);have HK:=aA ((HH.out.2.2.2 k hlt).below hB)
   have hwl:=kG o ln f k;obtain⟨t,ht⟩:∃t,nT o ln f k=t:=⟨_,rfl⟩
   have HT:=aA ht;have hok:=HO.out k hlt
   have hlo:bF o (ln k) (f k)=true:=by unfold bF;rw[hok.2,decide_eq_true (show 1≤o∧o≤3 from⟨o1,o2⟩),decide_eq_true (show 0<ln k by omega)];rfl
   have hlt':bN o (ln k) (f k)=t:=(eK hlo).trans ht;have HC:=aA (kJ wr o (ad k) (ln k) (cp k) (f k) HK.out)
   clear hcl hB hok ht;go_wp2_with fail;refine HC.out.mono ?_;rw[hlt',hlo];rintro r w4 ⟨rfl,hb4⟩;have hB4:=aB HB3.out hb4
   have hO4:=dZ HO3.out hb4;clear hb4 g0 hlt' hlo HC HK;have e2:nU o ln f (k+1)=nU o ln f k++[t]:=by rw[←HT.out];rfl
   have HE:=aA e2;have HL:=aA hwl
   have hB5:=hB4.alloc hB4.size (.cells #[.int .i64 t.c,.int .i64 t.m.x,.int .i64 t.m.y,.int .i64 t.m.d,.int .i64 t.m.e] 86);have hO5:=hO4.alloc (.cells #[.int .i64 t.c,.int .i64 t.m.x,.int .i64 t.m.y,.int .i64 t.m.d,.int .i64 t.m.e] 86)
   have hnew:((w4.alloc (.cells #[.int .i64 t.c,.int .i64 t.m.x,.int .i64 t.m.y,.int .i64 t.m.d,.int .i64 t.m.e] 86)).alloc (.cells #[.int .i64 t.c,.int .i64 t.m.x,.int .i64 t.m.y,.int .i64 t.m.d,.int .i64 t.m.e] 86)).heap[w4.heap.size+1]? =some (.cells #[.int .i64 t.c,.int .i64 t.m.x,.int .i64 t.m.y,.int .i64 t.m.d,.int .i64 t.m.e] 86):=by have:=heap_alloc_new (w4.alloc (.cells #[.int .i64 t.c,.int .i64 t.m.x,.int .i64 t.m.y,.int .i64 t.m.d,.int .i64 t.m.e] 86)) (.cells #[.int .i64 t.c,.int .i64 t.m.x,.int .i64 t.m.y,.int .i64 t.m.d,.int .i64 t.m.e] 86);rw[World.size_alloc]at this;exact this
   have HN:=aA hnew;clear e2 HT hnew;go_wp2_with (at_builtin;refine wpList_append_lies _ rfl (.tmp 37) (.tmp 39) 41 rfl w.heap.size 86 i0 _ 5 40 Tryz.underlying41 hi0 hz0 hz1 hz2 rfl (by omega) _ (nU o ln f k).length (aE (nU o ln f k)) rfl (hO5.alloc _) ⟨w4.heap.size+1,0,none⟩ 1 1 (aE [t]) rfl (by rw[aV];rfl) (by rw[dN];exact World.news_of_block HN.out) (dY _) (by omega) (by unfold maxLen;omega) (by omega) (by have:=hB4.size;simp;omega) _ rfl ?_;intro g0 cap0 w5 hown1 hgrow hat hlt1;have HB:=aA ((hB5.alloc hB5.size _).grown hgrow (jQ hB4.size (by simp;omega)) (fun k hk=>(hO4.lt k hk).1));have HO1:=aA hown1;clear hown1 hgrow hat hlt1 hO4 hO5);go_roundw
   case rel=>exact⟨k+1,by omega,by go_num,HB.out,by
    have h:=HO1.out;rw[HE.out,bK,List.length_append];rw[HL.out]at h⊢
    exact h⟩
   case measure=>simp[intOf];omega
  ·have hnl:¬(k:Int)<(n:Int):=by omega
   have hie:k=n:=by omega
   subst hie;go_wp2;refine cD (v:=.tuple #[u8,.bool true]) (by simp[results,Tryz.results35,go_sem, *]) rfl ⟨_,rfl,HB3.out,HO3.out⟩
end Go.Proofs.YtelkehjdfcoeiaaGreat
