/-
  Draws of operators: what a law gets is some lists of few terms.
-/
import Derived.Test.YtmlaedpamobmhaaGreatMat
import Derived.Test.YtmlaedpamobmhaaGreatMaq
set_option maxHeartbeats 4000000
namespace Go.Proofs.YtmlaedpamobmhaaGreat
open Go.RowKit
set_option linter.unusedVariables false
def mA (L K:List T):List T×Bool:=aS (lf L) L.length (lf K) K.length
theorem jX {K:List T} {a:T} {g:Nat→T} {lb:Nat} (hK:aK K) (ha:a.m.ok=true∧0≤a.c∧a.c≤100) (hg:nG g lb):∀k K',k≤lb→fT K a g k=some K'→aK K'
 |0,K',_,h=>by cases h;exact hK
 |k+1,K',hk,h=>by
  rw[fT]at h;cases hr:fT K a g k with
  |none=>rw[hr]at h;cases h
  |some K1=>
   rw[hr]at h;change gB K1 a (g k)=some K' at h;have h1:=jX hK ha hg k K1 (by omega) hr
   unfold gB at h;split at h
   ·rename_i hok;cases h;have h2:=hg k (by omega)
    exact(dD h1 (fZ ⟨ha.1,h2.1,hok.1,rfl,rfl,rfl,rfl,ha.2,h2.2⟩).1).1
   ·cases h
theorem cV {f g:Nat→T} {la lb:Nat} (hf:nG f la) (hg:nG g lb):∀i K,i≤la→cC f g lb i=some K→aK K
 |0,K,_,h=>by cases h;exact eW
 |i+1,K,hi,h=>by
  rw[cC]at h;cases hr:cC f g lb i with
  |none=>rw[hr]at h;cases h
  |some K1=>
   rw[hr]at h;exact jX (cV hf hg i K1 (by omega) hr) (hf i (by omega)) hg lb K (Nat.le_refl _) h
theorem IV (L K:List T):mA L K=([],false)∨∃P,mA L K=(P,true)∧cM P=true:=by
 unfold mA aS;split
 ·rename_i h;obtain⟨l1,g1⟩:=cB h.1;obtain⟨l2,g2⟩:=cB h.2;cases hm:cC (lf L) (lf K) K.length L.length with
  |none=>exact .inl rfl
  |some P=>exact .inr ⟨P,rfl,fO (fH _ P hm) (cV g1 g2 _ P (Nat.le_refl _) hm)⟩
 ·exact .inl rfl
variable {w:World} {a b:Option Addr} {ca cb:Nat} {L K:List T}
end Go.Proofs.YtmlaedpamobmhaaGreat
namespace Go.Proofs.YtmlaedpamobmhaaGreat
open Go.RowKit
set_option linter.unusedVariables false
theorem Hp:∀D X i:Fin 16,i.val≤D.val→i.val≤X.val→zz (wy (D.val:Int) (X.val:Int) (i.val:Int))=nf (wN D.val X.val i.val):=by decide+kernel
theorem WQ {d x:Int} {i:Nat} (d0:0≤d) (d1:d≤15) (x0:0≤x) (x1:x≤15) (hi:(i:Int)≤d) (hx:(i:Int)≤x):zz (wy d x i)=nf (wN d.toNat x.toNat i):=by have h:=Hp ⟨d.toNat,by omega⟩ ⟨x.toNat,by omega⟩ ⟨i,by omega⟩ (by show i≤d.toNat;omega) (by show i≤x.toNat;omega);simp only[Int.toNat_of_nonneg d0,Int.toNat_of_nonneg x0]at h;exact h
theorem jQ (B:Lq) (f:Nat→Lq):∀n,Lq.mul (Lq.sumN f n) B=Lq.sumN (fun i=>Lq.mul (f i) B) n
 |0=>Lq.nil_mul B
 |n+1=>by rw[Lq.sumN,Lq.sum_mul,jQ B f n];rfl
theorem jB (c:Fq) (f:Nat→Lq):∀n,Lq.sc c (Lq.sumN f n)=Lq.sumN (fun i=>Lq.sc c (f i)) n
 |0=>Lq.ext fun u n k=>by show c*(0:Fq)=0;grind
 |n+1=>by rw[Lq.sumN,Lq.sc_sum,jB c f n];rfl
theorem NF {xa ya x' d' y' e' db eb:Lq} (h1:Lq.Com ya x') (h2:Lq.Com d' y') (h3:Lq.Com e' db):Lq.mul (Lq.mul xa ya) (Lq.mul (Lq.mul x' d') (Lq.mul (Lq.mul y' e') (Lq.mul db eb)))=Lq.mul (Lq.mul (Lq.mul xa x') (Lq.mul ya y')) (Lq.mul (Lq.mul d' db) (Lq.mul e' eb)):=
 calc _=Lq.mul xa (Lq.mul (Lq.mul ya x') (Lq.mul (Lq.mul d' y') (Lq.mul (Lq.mul e' db) eb))):=rfl
  _=Lq.mul xa (Lq.mul (Lq.mul x' ya) (Lq.mul (Lq.mul y' d') (Lq.mul (Lq.mul db e') eb))):=by rw[h1,h2,h3]
  _=_:=rfl
theorem Ct (g:rV) (a b:T) (ha:a.m.ok=true) (hb:b.m.ok=true):Lq.mul (mo g a.m) (mo g b.m)=Lq.sumN (fun i=>Lq.sumN (fun k=>Lq.sc (nf (wN a.m.d.toNat b.m.x.toNat i)*nf (wN a.m.e.toNat b.m.y.toNat k)) (mo g (mH a b i k).m)) (iE a b+1)) (gI a b+1):=by
 obtain⟨ax0,ax1,ay0,ay1,ad0,ad1,ae0,ae1⟩:=M.ok_iff.1 ha;obtain⟨bx0,bx1,by0,by1,bd0,bd1,be0,be1⟩:=M.ok_iff.1 hb;have e1:Lq.mul (mo g a.m) (mo g b.m)=Lq.mul (Lq.mul (Lq.pow g.x a.m.x.toNat) (Lq.pow g.y a.m.y.toNat)) (Lq.mul (Lq.mul (Lq.pow g.d a.m.d.toNat) (Lq.pow g.x b.m.x.toNat)) (Lq.mul (Lq.mul (Lq.pow g.e a.m.e.toNat) (Lq.pow g.y b.m.y.toNat)) (Lq.mul (Lq.pow g.d b.m.d.toNat) (Lq.pow g.e b.m.e.toNat)))):=by
  have h:=g.xe.symm.pows a.m.e.toNat b.m.x.toNat
  calc _=Lq.mul (Lq.mul (Lq.pow g.x a.m.x.toNat) (Lq.pow g.y a.m.y.toNat)) (Lq.mul (Lq.pow g.d a.m.d.toNat) (Lq.mul (Lq.mul (Lq.pow g.e a.m.e.toNat) (Lq.pow g.x b.m.x.toNat)) (Lq.mul (Lq.pow g.y b.m.y.toNat) (Lq.mul (Lq.pow g.d b.m.d.toNat) (Lq.pow g.e b.m.e.toNat))))):=rfl
   _=Lq.mul (Lq.mul (Lq.pow g.x a.m.x.toNat) (Lq.pow g.y a.m.y.toNat)) (Lq.mul (Lq.pow g.d a.m.d.toNat) (Lq.mul (Lq.mul (Lq.pow g.x b.m.x.toNat) (Lq.pow g.e a.m.e.toNat)) (Lq.mul (Lq.pow g.y b.m.y.toNat) (Lq.mul (Lq.pow g.d b.m.d.toNat) (Lq.pow g.e b.m.e.toNat))))):=by rw[h]
   _=_:=rfl
 have lx:gI a b=min a.m.d.toNat b.m.x.toNat:=by unfold gI;omega
 have ly:iE a b=min a.m.e.toNat b.m.y.toNat:=by unfold iE;omega
 rw[e1,pX g.wx,pX g.wy,jQ,Lq.mul_sumN,lx,ly];refine Lq.sumN_congr (fun i hi=>?_);rw[Lq.sc_mul,Lq.mul_sc,jQ,Lq.mul_sumN,Lq.mul_sumN,jB];refine Lq.sumN_congr (fun k hk=>?_);rw[Lq.sc_mul,Lq.mul_sc,Lq.mul_sc,Lq.sc_sc,NF (g.xy.symm.pows _ _) (g.dy.pows _ _) (g.de.symm.pows _ _),←Lq.pow_add,←Lq.pow_add,←Lq.pow_add,←Lq.pow_add];unfold mo mH;simp only;rw[show a.m.x.toNat+(b.m.x.toNat-i)=(a.m.x+b.m.x-(i:Int)).toNat by omega,show a.m.y.toNat+(b.m.y.toNat-k)=(a.m.y+b.m.y-(k:Int)).toNat by omega,show a.m.d.toNat-i+b.m.d.toNat=(a.m.d+b.m.d-(i:Int)).toNat by omega,show a.m.e.toNat-k+b.m.e.toNat=(a.m.e+b.m.e-(k:Int)).toNat by omega]
theorem CG (g:rV) {a b:T} {m:M} (h:qG a b m):Rp g (dG a b)=Lq.sc (zz a.c*zz b.c) (Lq.mul (mo g a.m) (mo g b.m)):=by
 obtain⟨ax0,ax1,ay0,ay1,ad0,ad1,ae0,ae1⟩:=M.ok_iff.1 h.ok1;obtain⟨bx0,bx1,by0,by1,bd0,bd1,be0,be1⟩:=M.ok_iff.1 h.ok2;rw[Ct g a b h.ok1 h.ok2,jB];refine Lq.ext fun u p q=>?_;show kW (fun m=>(mo g m).f u p q) (fR (fK a b (gI a b+1)) [])=_
 rw[rG _ _ (oZ h) eW,DC,EB];unfold kW fK mR;rw[DY];have z:∀x:Fq,0+x=x:=by intro x;grind
 rw[z];refine eO (fun i hi=>?_);rw[List.mem_range]at hi;rw[vC,jB,EB];refine eO (fun k hk=>?_);rw[List.mem_range]at hk;have hx:gI a b=min a.m.d.toNat b.m.x.toNat:=by unfold gI;omega
 have hy:iE a b=min a.m.e.toNat b.m.y.toNat:=by unfold iE;omega
 show zz (mH a b i k).c*_=zz a.c*zz b.c*(nf _*nf _*_);have hc:zz (mH a b i k).c=zz a.c*zz b.c*nf (wN a.m.d.toNat b.m.x.toNat i)*nf (wN a.m.e.toNat b.m.y.toNat k):=by show zz (a.c*b.c%101*wy a.m.d b.m.x i%101*wy a.m.e b.m.y k%101)=_;rw[kH,mU,kH,mU,kH,mU,WQ ad0 ad1 bx0 bx1 (by omega) (by omega),WQ ae0 ae1 by0 by1 (by omega) (by omega)]
 rw[hc]
 grind
def Rn (g:rV) (f:Nat→T) (n:Nat):Lq:=Lq.sumN (fun i=>Lq.sc (zz (f i).c) (mo g (f i).m)) n
theorem wK (g:rV) (L:List T):Rp g L=Rn g (lf L) L.length:=by
 refine Lq.ext fun u p q=>?_;unfold Rn;rw[EB];show su L _=_
 have e:L=(List.range L.length).map (lf L):=by refine List.ext_getElem (by simp) (fun i h1 h2=>?_);rw[List.getElem_map,List.getElem_range,iP h1]
 have key:∀(f:T→Fq),su L f=su (List.range L.length) (fun i=>f (lf L i)):=fun f=>by have:=vC (lf L) f (List.range L.length);rw[←e]at this;exact this
 rw[key];rfl
theorem NC (g:rV) {K:List T} {a:T} {f:Nat→T} {lb:Nat} (hK:aK K) (ha:a.m.ok=true∧0≤a.c∧a.c≤100) (hg:nG f lb):∀k K',k≤lb→fT K a f k=some K'→Rp g K'=Lq.sum (Rp g K) (Lq.mul (Lq.sc (zz a.c) (mo g a.m)) (Rn g f k))
 |0,K',_,h=>by cases h;unfold Rn;rw[Lq.sumN,Lq.mul_nil,Lq.sum_nil]
 |k+1,K',hk,h=>by
  rw[fT]at h;cases hr:fT K a f k with
  |none=>rw[hr]at h;cases h
  |some K1=>
   rw[hr]at h;change gB K1 a (f k)=some K' at h;have h1:=NC g hK ha hg k K1 (by omega) hr
   have hf1:=jX hK ha hg k K1 (by omega) hr;unfold gB at h;split at h
   ·rename_i hok;cases h;have h2:=hg k (by omega)
    have tw:qG a (f k) (a.m.sum (f k).m):=⟨ha.1,h2.1,hok.1,rfl,rfl,rfl,rfl,ha.2,h2.2⟩
    rw[qQ g hf1 (fZ tw).1,h1,CG g tw];unfold Rn;rw[Lq.sumN,Lq.mul_sum,Lq.sum_assoc,Lq.mul_sc,Lq.sc_mul,Lq.sc_mul,Lq.sc_sc,show zz (f k).c*zz a.c=zz a.c*zz (f k).c by grind]
   ·cases h
theorem MG (g:rV) {f f':Nat→T} {la lb:Nat} (hf:nG f la) (hg:nG f' lb):∀i K,i≤la→cC f f' lb i=some K→Rp g K=Lq.mul (Rn g f i) (Rn g f' lb)
 |0,K,_,h=>by cases h;unfold Rn;rw[Lq.sumN,Lq.nil_mul];rfl
 |i+1,K,hi,h=>by
  rw[cC]at h;cases hr:cC f f' lb i with
  |none=>rw[hr]at h;cases h
  |some K1=>
   rw[hr]at h;have h1:=MG g hf hg i K1 (by omega) hr
   rw[NC g (cV hf hg i K1 (by omega) hr) (hf i (by omega)) hg lb K (Nat.le_refl _) h,h1];unfold Rn;rw[Lq.sumN.eq_2,Lq.sum_mul]
theorem qR (g:rV) {A B P:List T} (h:mA A B=(P,true)):Rp g P=Lq.mul (Rp g A) (Rp g B):=by
 unfold mA aS at h;split at h
 ·rename_i hok;obtain⟨l1,g1⟩:=cB hok.1;obtain⟨l2,g2⟩:=cB hok.2;cases hm:cC (lf A) (lf B) B.length A.length with
  |none=>rw[hm]at h;simp[iK]at h
  |some K=>
   rw[hm]at h;have:K=P:=by simpa[iK]using h
   rw[←this,wK,wK g B];rw[wK];rw[←wK g K];exact MG g g1 g2 _ K (Nat.le_refl _) hm
 ·simp at h
def tX:Lq:=⟨fun u n k=>u (n+1) k,fun _ _=>rfl,fun _ _=>rfl⟩
def tY:Lq:=⟨fun u n k=>u n (k+1),fun _ _=>rfl,fun _ _=>rfl⟩
def sX:Lq:=⟨fun u n k=>nf n*u (n-1) k,fun u v=>by funext n k;simp only[va];grind,fun c u=>by funext n k;simp only[vs];grind⟩
def sY:Lq:=⟨fun u n k=>nf k*u n (k-1),fun u v=>by funext n k;simp only[va];grind,fun c u=>by funext n k;simp only[vs];grind⟩
def DX:rV where
 x:=tX
 y:=tY
 d:=sX
 e:=sY
 wx:=Lq.ext fun u n k=>by
  show nf (n+1)*u (n+1-1) k=nf n*u (n-1+1) k+u n k;rw[uS,nZ,show n+1-1=n by omega];cases n with
  |zero=>rw[iJ];grind
  |succ n=>rw[show n+1-1+1=n+1 by omega];grind
 wy:=Lq.ext fun u n k=>by
  show nf (k+1)*u n (k+1-1)=nf k*u n (k-1+1)+u n k;rw[uS,nZ,show k+1-1=k by omega];cases k with
  |zero=>rw[iJ];grind
  |succ k=>rw[show k+1-1+1=k+1 by omega];grind
 xy:=rfl
 xe:=rfl
 dy:=rfl
 de:=Lq.ext fun u n k=>by
  show nf k*(nf n*u (n-1) (k-1))=nf n*(nf k*u (n-1) (k-1))
  grind
theorem UZ (u:Vq) (n k:Nat):∀j,(Lq.pow tX j).f u n k=u (n+j) k
 |0=>rfl
 |j+1=>by rw[Lq.pow_succ'];show(Lq.pow tX j).f (tX.f u) n k=_;rw[UZ];rfl
theorem VA (u:Vq) (n k:Nat):∀j,(Lq.pow tY j).f u n k=u n (k+j)
 |0=>rfl
 |j+1=>by rw[Lq.pow_succ'];show(Lq.pow tY j).f (tY.f u) n k=_;rw[VA];rfl
theorem UX:∀(j:Nat) (u:Vq) (n k:Nat),(Lq.pow sX j).f u n k=nf (LO n j)*u (n-j) k
 |0,u,n,k=>by show u n k=nf 1*u n k;rw[nZ];grind
 |j+1,u,n,k=>by
  rw[Lq.pow_succ'];show(Lq.pow sX j).f (sX.f u) n k=_
  rw[UX j];show nf (LO n j)*(nf (n-j)*u (n-j-1) k)=nf (LO n j*(n-j))*u (n-(j+1)) k
  rw[JU,show n-j-1=n-(j+1) by omega];grind
theorem UY:∀(j:Nat) (u:Vq) (n k:Nat),(Lq.pow sY j).f u n k=nf (LO k j)*u n (k-j)
 |0,u,n,k=>by show u n k=nf 1*u n k;rw[nZ];grind
 |j+1,u,n,k=>by
  rw[Lq.pow_succ'];show(Lq.pow sY j).f (sY.f u) n k=_
  rw[UY j];show nf (LO k j)*(nf (k-j)*u n (k-j-1))=nf (LO k j*(k-j))*u n (k-(j+1))
  rw[JU,show k-j-1=k-(j+1) by omega];grind
theorem TT (m:M) (u:Vq) (n k:Nat):(mo DX m).f u n k=nf (LO n m.d.toNat)*nf (LO k m.e.toNat)*u (n-m.d.toNat+m.x.toNat) (k-m.e.toNat+m.y.toNat):=by
 show(Lq.pow sY m.e.toNat).f ((Lq.pow sX m.d.toNat).f ((Lq.pow tY m.y.toNat).f ((Lq.pow tX m.x.toNat).f u))) n k=_;rw[UY,UX,VA,UZ]
 grind
theorem tR {P:List T} (hP:aK P) {t0:T} (h0:t0∈P) {f:T→Fq} (hf:∀t∈P,t.m≠t0.m→f t=0):su P f=f t0:=by
 induction P with
 |nil=>cases h0
 |cons t r ih=>
  rw[su];have hp:=(List.pairwise_cons.1 hP.1).1
  rcases List.mem_cons.1 h0 with rfl|h1
  ·rw[oK f r (fun s hs=>hf s (List.mem_cons_of_mem _ hs) (fun e=>by have:=hp s hs;rw[e]at this;omega))]
   grind
  ·rw[ih hP.tail h1 (fun s hs=>hf s (List.mem_cons_of_mem _ hs)),hf t (List.mem_cons_self ..) (fun e=>by have:=hp t0 h1;rw[e]at this;omega)]
   grind
theorem CR:∀a b:Fq,a*b=0→a=0∨b=0:=by decide+kernel
theorem Ap:∀D:Fin 16,nf (LO D.val D.val)≠0:=by decide+kernel
theorem FT {α:Type} (f:α→Nat):∀L:List α,L≠[]→∃t∈L,∀s∈L,f t≤f s
 |[],h=>absurd rfl h
 |[t],_=>⟨t,List.mem_singleton.2 rfl,fun s hs=>by rw[List.mem_singleton.1 hs];exact Nat.le_refl _⟩
 |t::s::r,_=>by
  obtain⟨m,hm,hl⟩:=FT f (s::r) (by simp);by_cases h:f t≤f m
  ·exact⟨t,List.mem_cons_self ..,fun x hx=>by
    rcases List.mem_cons.1 hx with rfl|hx
    ·exact Nat.le_refl _
    ·exact jJ h (hl x hx)⟩
  ·exact⟨m,List.mem_cons_of_mem _ hm,fun x hx=>by
    rcases List.mem_cons.1 hx with rfl|hx
    ·omega
    ·exact hl x hx⟩
theorem OU {P:List T} (hP:aK P) (hne:P≠[]):∃t0∈P,(Rp DX P).f (fun n k=>if n=t0.m.x.toNat∧k=t0.m.y.toNat then 1 else 0) t0.m.d.toNat t0.m.e.toNat≠0:=by
 obtain⟨t0,h0,hmin⟩:=FT (fun t:T=>t.m.d.toNat+t.m.e.toNat) P hne;refine⟨t0,h0,?_⟩;have r0:=hP.2 t0 h0
 obtain⟨x0,x1,y0,y1,d0,d1,e0,e1⟩:=M.ok_iff.1 r0.1;show su P (fun t=>zz t.c*(mo DX t.m).f _ t0.m.d.toNat t0.m.e.toNat)≠0
 rw[tR hP h0 (fun t ht hm=>?_)]
 ·rw[TT];have hz:(if t0.m.d.toNat-t0.m.d.toNat+t0.m.x.toNat=t0.m.x.toNat∧t0.m.e.toNat-t0.m.e.toNat+t0.m.y.toNat=t0.m.y.toNat then(1:Fq)else 0)=1:=if_pos ⟨by omega,by omega⟩
  simp only[hz];intro h;rcases CR _ _ h with h|h
  ·exact CE r0.2.1 r0.2.2 h
  ·rcases CR _ _ h with h|h
   ·rcases CR _ _ h with h|h
    ·exact Ap ⟨t0.m.d.toNat,by omega⟩ h
    ·exact Ap ⟨t0.m.e.toNat,by omega⟩ h
   ·exact absurd h (by decide)
 ·rw[TT];have r1:=hP.2 t ht
  obtain⟨u0,u1,v0,v1,f0,f1,g0,g1⟩:=M.ok_iff.1 r1.1;have hm2:t0.m.d.toNat+t0.m.e.toNat≤t.m.d.toNat+t.m.e.toNat:=hmin t ht
  have zl:∀x:Fq,0*x=0:=by intro x;grind
  have zr:∀x:Fq,x*0=0:=by intro x;grind
  by_cases hd:t0.m.d.toNat<t.m.d.toNat
  ·rw[sQ _ _ hd,iJ,zl,zl,zr]
  ·by_cases he:t0.m.e.toNat<t.m.e.toNat
   ·rw[sQ _ _ he,iJ,zr,zl,zr]
   ·rw[if_neg,zr,zr];rintro⟨hx,hy⟩;refine hm ?_;have a1:t.m.x=t0.m.x:=by omega
    have a2:t.m.y=t0.m.y:=by omega
    have a3:t.m.d=t0.m.d:=by omega
    have a4:t.m.e=t0.m.e:=by omega
    revert a1 a2 a3 a4
    cases t.m;cases t0.m;intro a1 a2 a3 a4;simp only at a1 a2 a3 a4;rw[a1,a2,a3,a4]
theorem uT {P:List T} (hP:aK P) (h:Rp DX P=Lq.nil):P=[]:=by
 by_cases hne:P=[]
 ·exact hne
 ·obtain⟨t0,_,h1⟩:=OU hP hne;rw[h]at h1;exact absurd rfl h1
theorem EZ {P Q:List T} (hP:aK P) (hQ:aK Q) (h:Rp DX P=Rp DX Q):P=Q:=by
 refine(vY hP hQ).1 (uT (cQ hP hQ).1 ?_);rw[uB DX hP hQ,h];refine Lq.ext fun u n k=>?_;show _+zz 100*_=(0:Fq)
 have:zz 100=100:=rfl;rw[this]
 grind
theorem zT {A B P:List T} (h:mA A B=(P,true)):cM P=true:=by
 rcases IV A B with h1|⟨Q,h1,o⟩
 ·rw[h1]at h;simp at h
 ·rw[h1]at h;simp only[Prod.mk.injEq,and_true]at h;rw[←h];exact o
theorem WJ (A B:List T):mA A B=([],false)∨∃P,mA A B=(P,true):=(IV A B).imp id (fun⟨P,h,_⟩=>⟨P,h⟩)
theorem nF {A B P:List T} (h:mA A B=(P,true)):aK P:=(aF (zT h)).2
theorem EG {A B P:List T} (h:mA A B=(P,true)):cM A=true∧cM B=true:=by
 unfold mA aS at h;split at h
 ·rename_i hh;exact hh
 ·simp at h
def wG (c:Int) (t:T):T:=⟨c*t.c%101,t.m⟩
theorem WX {c:Int} (c1:1≤c) (c2:c≤100) {K X:List T} (hK:aK K) (hX:aK X):bT (kC c K) (kC c X)=kC c (bT K X):=by
 have f1:=gK c1 c2 hK;have f2:=gK c1 c2 hX
 refine EZ (dD f1 f2).1 (gK c1 c2 (dD hK hX).1) ?_;rw[qQ _ f1 f2,EN,EN,EN,qQ _ hK hX,Lq.sc_sum]
theorem YY {c:Int} (c1:1≤c) (c2:c≤100) {a b:T} {m:M} (h:qG a b m):qG (wG c a) b m∧dG (wG c a) b=kC c (dG a b):=by
 have h2:qG (wG c a) b m:=⟨h.ok1,h.ok2,h.ok3,h.gx,h.gy,h.gd,h.ge,⟨by show 0≤c*a.c%101;omega,by show c*a.c%101≤100;omega⟩,h.c2⟩
 refine⟨h2,EZ (fZ h2).1 (gK c1 c2 (fZ h).1) ?_⟩;rw[CG _ h2,EN,CG _ h,Lq.sc_sc];congr 1;show zz (c*a.c%101)*zz b.c=_
 rw[kH,mU];grind
theorem ND {c:Int} (c1:1≤c) (c2:c≤100) {K:List T} {a:T} {f:Nat→T} {lb:Nat} (hK:aK K) (ha:a.m.ok=true∧0≤a.c∧a.c≤100) (hg:nG f lb):∀k,k≤lb→fT (kC c K) (wG c a) f k=(fT K a f k).map (kC c)
 |0,_=>rfl
 |k+1,hk=>by
  rw[fT,fT,ND c1 c2 hK ha hg k (by omega)];cases hr:fT K a f k with
  |none=>rfl
  |some K1=>
   show gB (kC c K1) (wG c a) (f k)=(gB K1 a (f k)).map (kC c);have hf1:=jX hK ha hg k K1 (by omega) hr
   have h2:=hg k (by omega);unfold gB;show(if(a.m.sum (f k).m).ok=true∧(bT (kC c K1) (dG (wG c a) (f k))).length≤400 then some (bT (kC c K1) (dG (wG c a) (f k)))else none)=_
   by_cases hok:(a.m.sum (f k).m).ok=true
   ·have tw:qG a (f k) (a.m.sum (f k).m):=⟨ha.1,h2.1,hok,rfl,rfl,rfl,rfl,ha.2,h2.2⟩
    rw[(YY c1 c2 tw).2,WX c1 c2 hf1 (fZ tw).1,gM];by_cases hl:(bT K1 (dG a (f k))).length≤400
    ·rw[if_pos ⟨hok,hl⟩,if_pos ⟨hok,hl⟩];rfl
    ·rw[if_neg (fun h=>hl h.2),if_neg (fun h=>hl h.2)];rfl
   ·rw[if_neg (fun h=>hok h.1),if_neg (fun h=>hok h.1)];rfl
theorem wS {c:Int} (c1:1≤c) (c2:c≤100) {f f' f2:Nat→T} {la lb:Nat} (hf:nG f la) (hg:nG f' lb) (he:∀i,i<la→f2 i=wG c (f i)):∀i,i≤la→cC f2 f' lb i=(cC f f' lb i).map (kC c)
 |0,_=>by show some []=some (kC c []);rw[show kC c []=[]from by rw[oJ];rfl]
 |i+1,hi=>by
  rw[cC,cC,wS c1 c2 hf hg he i (by omega)];cases hr:cC f f' lb i with
  |none=>rfl
  |some K1=>
   show fT (kC c K1) (f2 i) f' lb=(fT K1 (f i) f' lb).map (kC c);rw[he i (by omega)];exact ND c1 c2 (cV hf hg i K1 (by omega) hr) (hf i (by omega)) hg lb (Nat.le_refl _)
theorem NN (A B:Lq) (u:Vq) (n k:Nat):(Lq.sum A B).f u n k=A.f u n k+B.f u n k:=rfl
theorem ZK (c:Fq) (A:Lq) (u:Vq) (n k:Nat):(Lq.sc c A).f u n k=c*A.f u n k:=rfl
def S8 (u:World) (n:Nat) (x0 y0 z0 u0 x1 y1 z1 u1:Int):Prop:=u.cell? ⟨n,0,none⟩=some (.int .i64 x0)∧u.cell? ⟨n,1,none⟩=some (.int .i64 y0)∧u.cell? ⟨n,2,none⟩=some (.int .i64 z0)∧u.cell? ⟨n,3,none⟩=some (.int .i64 u0)∧u.cell? ⟨n+1,0,none⟩=some (.int .i64 x1)∧u.cell? ⟨n+1,1,none⟩=some (.int .i64 y1)∧u.cell? ⟨n+1,2,none⟩=some (.int .i64 z1)∧u.cell? ⟨n+1,3,none⟩=some (.int .i64 u1)
theorem S8.mk {u:World} {n:Nat} {x0 y0 z0 u0 x1 y1 z1 u1:Int} (ha:M4 u n x0 y0 z0 u0) (hb:M4 u (n+1) x1 y1 z1 u1):S8 u n x0 y0 z0 u0 x1 y1 z1 u1:=
 ⟨ha.1,ha.2.1,ha.2.2.1,ha.2.2.2,hb.1,hb.2.1,hb.2.2.1,hb.2.2.2⟩
theorem S8.a {u:World} {n:Nat} {x0 y0 z0 u0 x1 y1 z1 u1:Int} (h:S8 u n x0 y0 z0 u0 x1 y1 z1 u1):M4 u n x0 y0 z0 u0:=⟨h.1,h.2.1,h.2.2.1,h.2.2.2.1⟩
theorem S8.b {u:World} {n:Nat} {x0 y0 z0 u0 x1 y1 z1 u1:Int} (h:S8 u n x0 y0 z0 u0 x1 y1 z1 u1):M4 u (n+1) x1 y1 z1 u1:=⟨h.2.2.2.2.1,h.2.2.2.2.2.1,h.2.2.2.2.2.2.1,h.2.2.2.2.2.2.2⟩
theorem ZI {u:World} {n:Nat} {x0 y0 z0 u0 x1 y1 z1 u1:Int} (h:S8 u n x0 y0 z0 u0 x1 y1 z1 u1):S8 u.drew n x0 y0 z0 u0 x1 y1 z1 u1:=.mk h.a.drew' h.b.drew'
theorem TM {u:World} {B b:Nat} {v0 v1 v2 v3:Value} {x y d e:Int} (m:M4 u b x y d e) (h:b≠B):M4 ((((u.setCell ⟨B,0,none⟩ v0).setCell ⟨B,1,none⟩ v1).setCell ⟨B,2,none⟩ v2).setCell ⟨B,3,none⟩ v3) b x y d e:=
 ⟨(XP h).trans m.1,(XP h).trans m.2.1,(XP h).trans m.2.2.1,(XP h).trans m.2.2.2⟩
theorem Dd {u:World} {n B:Nat} {v0 v1 v2 v3:Value} {x0 y0 z0 u0 x1 y1 z1 u1:Int} (h:S8 u n x0 y0 z0 u0 x1 y1 z1 u1) (hB:n+1<B):S8 ((((u.setCell ⟨B,0,none⟩ v0).setCell ⟨B,1,none⟩ v1).setCell ⟨B,2,none⟩ v2).setCell ⟨B,3,none⟩ v3) n x0 y0 z0 u0 x1 y1 z1 u1:=
 .mk (TM h.a (by omega)) (TM h.b (by omega))
theorem TW (x y d e x' y' d' e':Int) (w:World):Calls Tryz.prog 118 #[.agg #[.int .i64 x,.int .i64 y,.int .i64 d,.int .i64 e],.agg #[.int .i64 x',.int .i64 y',.int .i64 d',.int .i64 e']] w fun r w'=>r= .returned (.agg #[.int .i64 (M.both ⟨x,y,d,e⟩ ⟨x',y',d',e'⟩).x,.int .i64 (M.both ⟨x,y,d,e⟩ ⟨x',y',d',e'⟩).y,.int .i64 (M.both ⟨x,y,d,e⟩ ⟨x',y',d',e'⟩).d,.int .i64 (M.both ⟨x,y,d,e⟩ ⟨x',y',d',e'⟩).e])∧Below w.heap.size w w':=by
 cases ha:M.ok ⟨x,y,d,e⟩
 ·have r1:M.both ⟨x,y,d,e⟩ ⟨x',y',d',e'⟩=M.zero:=by simp[M.both,ha]
  rw[r1];simp only[M.zero];clear r1;go_enter Tryz.func118,Tryz.ntmps118;go_wp2_with fail;refine(bV ha _).mono ?_;rintro r w1 ⟨rfl,hb1⟩;obtain⟨hc1,hf1⟩:=aP hb1;have hz1:w.heap.size+1+1<w1.heap.size:=by have:=hb1.size;simp at this;omega
  go_wp2;refine cW (v:=.agg #[.int .i64 0,.int .i64 0,.int .i64 0,.int .i64 0]) (by simp[results,Tryz.results118,go_sem, *]) rfl ⟨rfl,?_⟩;exact dQ (aB (aX w _ _ _) hb1) (by omega) _ _ _ _
 ·cases hb:M.ok ⟨x',y',d',e'⟩
  ·have r1:M.both ⟨x,y,d,e⟩ ⟨x',y',d',e'⟩=M.zero:=by simp[M.both,hb]
   rw[r1];simp only[M.zero];clear r1;go_enter Tryz.func118,Tryz.ntmps118;go_wp2_with fail;refine(bV ha _).mono ?_;rintro r w1 ⟨rfl,hb1⟩;obtain⟨hc1,hf1⟩:=aP hb1;have hz1:w.heap.size+1+1<w1.heap.size:=by have:=hb1.size;simp at this;omega
   go_wp2_with fail;refine(bV hb _).mono ?_;rintro r w2 ⟨rfl,hb2⟩;obtain⟨hc2,hf2⟩:=aP hb2;have hz2:w.heap.size+1+1<w2.heap.size:=by have:=hb2.size;omega
   go_wp2;refine cW (v:=.agg #[.int .i64 0,.int .i64 0,.int .i64 0,.int .i64 0]) (by simp[results,Tryz.results118,go_sem, *]) rfl ⟨rfl,?_⟩;exact dQ (aB (aB (aX w _ _ _) hb1) hb2) (by omega) _ _ _ _
  ·have r1:M.both ⟨x,y,d,e⟩ ⟨x',y',d',e'⟩=⟨mx x x',mx y y',mx d d',mx e e'⟩:=by simp[M.both,ha,hb]
   rw[r1];clear r1;go_enter Tryz.func118,Tryz.ntmps118;go_wp2_with fail;refine(bV ha _).mono ?_;rintro r w1 ⟨rfl,hb1⟩;obtain⟨hc1,hf1⟩:=aP hb1;have hz1:w.heap.size+1+1<w1.heap.size:=by have:=hb1.size;simp at this;omega
   have hz0:w.heap.size+1<w1.heap.size:=by omega
   have hzz:w.heap.size<w1.heap.size:=by omega
   go_wp2_with fail;refine(bV hb _).mono ?_;rintro r w2 ⟨rfl,hb2⟩;obtain⟨hc2,hf2⟩:=aP hb2;have hz2:w.heap.size+1+1<w2.heap.size:=by have:=hb2.size;omega
   have q0:w2.cell? ⟨w.heap.size,0,none⟩=some (.int .i64 x):=by go_simp
   have q1:w2.cell? ⟨w.heap.size,1,none⟩=some (.int .i64 y):=by go_simp
   have q2:w2.cell? ⟨w.heap.size,2,none⟩=some (.int .i64 d):=by go_simp
   have q3:w2.cell? ⟨w.heap.size,3,none⟩=some (.int .i64 e):=by go_simp
   have p0:w2.cell? ⟨w.heap.size+1,0,none⟩=some (.int .i64 x'):=by go_simp
   have p1:w2.cell? ⟨w.heap.size+1,1,none⟩=some (.int .i64 y'):=by go_simp
   have p2:w2.cell? ⟨w.heap.size+1,2,none⟩=some (.int .i64 d'):=by go_simp
   have p3:w2.cell? ⟨w.heap.size+1,3,none⟩=some (.int .i64 e'):=by go_simp
   have t0:w2.cell? ⟨w.heap.size+1+1,0,none⟩=some (.int .i64 0):=by go_simp
   have t1:w2.cell? ⟨w.heap.size+1+1,1,none⟩=some (.int .i64 0):=by go_simp
   have t2:w2.cell? ⟨w.heap.size+1+1,2,none⟩=some (.int .i64 0):=by go_simp
   have t3:w2.cell? ⟨w.heap.size+1+1,3,none⟩=some (.int .i64 0):=by go_simp
   have z0:∀i,w2.frozen? ⟨w.heap.size+1+1,i,none⟩=false:=fun i=>by go_simp
   have HB:=aA (aB (aB (aX w _ _ _) hb1) hb2);clear hc1 hf1 hc2 hf2 hb1 hb2;go_wp2_with fail;have hS0:S8 w2 w.heap.size x y d e x' y' d' e':=⟨q0,q1,q2,q3,p0,p1,p2,p3⟩
   go_region_held3 (fun u=>u.cell? ⟨w.heap.size,0,none⟩=some (.int .i64 x)∧u.cell? ⟨w.heap.size,1,none⟩=some (.int .i64 y)∧u.cell? ⟨w.heap.size,2,none⟩=some (.int .i64 d)∧u.cell? ⟨w.heap.size,3,none⟩=some (.int .i64 e)∧u.cell? ⟨w.heap.size+1,0,none⟩=some (.int .i64 x')∧u.cell? ⟨w.heap.size+1,1,none⟩=some (.int .i64 y')∧u.cell? ⟨w.heap.size+1,2,none⟩=some (.int .i64 d')∧u.cell? ⟨w.heap.size+1,3,none⟩=some (.int .i64 e')) (first|exact ZI hS0|exact Dd (by assumption) (by omega)) (first|(go_at_call 149;refine(Ha _ _ _).mono ?_;rintro r w7 ⟨rfl,hw7⟩;obtain rfl:=hw7.symm;clear hw7))
   go_wp2;refine cW (v:=.agg #[.int .i64 (mx x x'),.int .i64 (mx y y'),.int .i64 (mx d d'),.int .i64 (mx e e')]) (by simp[results,Tryz.results118,go_sem, *]) rfl ⟨rfl,?_⟩;exact dQ HB.out.drew (by omega) _ _ _ _
theorem TU (x y d e x' y' d' e':Int) (w:World):Calls Tryz.prog 128 #[.agg #[.int .i64 x,.int .i64 y,.int .i64 d,.int .i64 e],.agg #[.int .i64 x',.int .i64 y',.int .i64 d',.int .i64 e']] w fun r w'=>r= .returned (.agg #[.int .i64 (M.both ⟨x,y,d,e⟩ ⟨x',y',d',e'⟩).x,.int .i64 (M.both ⟨x,y,d,e⟩ ⟨x',y',d',e'⟩).y,.int .i64 (M.both ⟨x,y,d,e⟩ ⟨x',y',d',e'⟩).d,.int .i64 (M.both ⟨x,y,d,e⟩ ⟨x',y',d',e'⟩).e])∧Below w.heap.size w w':=by
 cases ha:M.ok ⟨x,y,d,e⟩
 ·have r1:M.both ⟨x,y,d,e⟩ ⟨x',y',d',e'⟩=M.zero:=by simp[M.both,ha]
  rw[r1];simp only[M.zero];clear r1;go_enter Tryz.func128,Tryz.ntmps128;go_wp2_with fail;refine(cX ha _).mono ?_;rintro r w1 ⟨rfl,hb1⟩;obtain⟨hc1,hf1⟩:=aP hb1;have hz1:w.heap.size+1+1<w1.heap.size:=by have:=hb1.size;simp at this;omega
  go_wp2;refine cW (v:=.agg #[.int .i64 0,.int .i64 0,.int .i64 0,.int .i64 0]) (by simp[results,Tryz.results128,go_sem, *]) rfl ⟨rfl,?_⟩;exact dQ (aB (aX w _ _ _) hb1) (by omega) _ _ _ _
 ·cases hb:M.ok ⟨x',y',d',e'⟩
  ·have r1:M.both ⟨x,y,d,e⟩ ⟨x',y',d',e'⟩=M.zero:=by simp[M.both,hb]
   rw[r1];simp only[M.zero];clear r1;go_enter Tryz.func128,Tryz.ntmps128;go_wp2_with fail;refine(cX ha _).mono ?_;rintro r w1 ⟨rfl,hb1⟩;obtain⟨hc1,hf1⟩:=aP hb1;have hz1:w.heap.size+1+1<w1.heap.size:=by have:=hb1.size;simp at this;omega
   go_wp2_with fail;refine(cX hb _).mono ?_;rintro r w2 ⟨rfl,hb2⟩;obtain⟨hc2,hf2⟩:=aP hb2;have hz2:w.heap.size+1+1<w2.heap.size:=by have:=hb2.size;omega
   go_wp2;refine cW (v:=.agg #[.int .i64 0,.int .i64 0,.int .i64 0,.int .i64 0]) (by simp[results,Tryz.results128,go_sem, *]) rfl ⟨rfl,?_⟩;exact dQ (aB (aB (aX w _ _ _) hb1) hb2) (by omega) _ _ _ _
  ·have r1:M.both ⟨x,y,d,e⟩ ⟨x',y',d',e'⟩=⟨mx x x',mx y y',mx d d',mx e e'⟩:=by simp[M.both,ha,hb]
   rw[r1];clear r1;go_enter Tryz.func128,Tryz.ntmps128;go_wp2_with fail;refine(cX ha _).mono ?_;rintro r w1 ⟨rfl,hb1⟩;obtain⟨hc1,hf1⟩:=aP hb1;have hz1:w.heap.size+1+1<w1.heap.size:=by have:=hb1.size;simp at this;omega
   have hz0:w.heap.size+1<w1.heap.size:=by omega
   have hzz:w.heap.size<w1.heap.size:=by omega
   go_wp2_with fail;refine(cX hb _).mono ?_;rintro r w2 ⟨rfl,hb2⟩;obtain⟨hc2,hf2⟩:=aP hb2;have hz2:w.heap.size+1+1<w2.heap.size:=by have:=hb2.size;omega
   have q0:w2.cell? ⟨w.heap.size,0,none⟩=some (.int .i64 x):=by go_simp
   have q1:w2.cell? ⟨w.heap.size,1,none⟩=some (.int .i64 y):=by go_simp
   have q2:w2.cell? ⟨w.heap.size,2,none⟩=some (.int .i64 d):=by go_simp
   have q3:w2.cell? ⟨w.heap.size,3,none⟩=some (.int .i64 e):=by go_simp
   have p0:w2.cell? ⟨w.heap.size+1,0,none⟩=some (.int .i64 x'):=by go_simp
   have p1:w2.cell? ⟨w.heap.size+1,1,none⟩=some (.int .i64 y'):=by go_simp
   have p2:w2.cell? ⟨w.heap.size+1,2,none⟩=some (.int .i64 d'):=by go_simp
   have p3:w2.cell? ⟨w.heap.size+1,3,none⟩=some (.int .i64 e'):=by go_simp
   have t0:w2.cell? ⟨w.heap.size+1+1,0,none⟩=some (.int .i64 0):=by go_simp
   have t1:w2.cell? ⟨w.heap.size+1+1,1,none⟩=some (.int .i64 0):=by go_simp
   have t2:w2.cell? ⟨w.heap.size+1+1,2,none⟩=some (.int .i64 0):=by go_simp
   have t3:w2.cell? ⟨w.heap.size+1+1,3,none⟩=some (.int .i64 0):=by go_simp
   have z0:∀i,w2.frozen? ⟨w.heap.size+1+1,i,none⟩=false:=fun i=>by go_simp
   have HB:=aA (aB (aB (aX w _ _ _) hb1) hb2);clear hc1 hf1 hc2 hf2 hb1 hb2;go_wp2
   all_goals
    refine cW (v:=.agg #[.int .i64 (mx x x'),.int .i64 (mx y y'),.int .i64 (mx d d'),.int .i64 (mx e e')]) (by simp[results,Tryz.results128,go_sem, *];(repeat' apply And.intro)<;>(unfold mx;split<;>omega)) rfl ⟨rfl,?_⟩;exact dQ HB.out (by omega) _ _ _ _
open Go.RowKit Go.Deep Go.Joins
def eJ (w:World) (a:Option Addr) (n cap:Nat) (ad:Nat→Option Addr) (ln cp:Nat→Nat) (f:Nat→Nat→T):Prop:=
 n≤cap∧n*40≤140737488351232∧(n=0∨∃b off,a=some ⟨b,off,none⟩∧b<w.heap.size∧∀i,i<n→w.cell? ⟨b,off+i,none⟩=some (.slice (ad i) (ln i) (cp i)))∧∀i,i<n→Rd w (ad i) (ln i) (cp i) (f i)
theorem eJ.below {w w':World} {a:Option Addr} {n cap:Nat} {ad:Nat→Option Addr} {ln cp:Nat→Nat} {f:Nat→Nat→T} (h:eJ w a n cap ad ln cp f) (hb:Below w.heap.size w w'):eJ w' a n cap ad ln cp f:=by
 refine⟨h.1,h.2.1,?_,fun i hi=>(h.2.2.2 i hi).below hb⟩;rcases h.2.2.1 with h0|⟨b,off,he,hlt,hc⟩
 ·exact .inl h0
 ·exact .inr ⟨b,off,he,iZ hlt hb.size,fun i hi=>(hb.cell (p:=⟨b,off+i,none⟩) hlt).trans (hc i hi)⟩
end Go.Proofs.YtmlaedpamobmhaaGreat
