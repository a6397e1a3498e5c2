/-
  The draw of an operator and a monomial.
  Draws of operators: what a law gets is some lists of few terms.
  Products of operators as lists, and how far two are from commuting.
-/
import Derived.Test.YtbkighpmkadmmaaMan
import Derived.Test.YtbkighpmkadmmaaMaj
set_option maxHeartbeats 4000000
set_option maxRecDepth 100000
namespace Go.Proofs.Ytbkighpmkadmmaa
open Go.RowKit
set_option linter.unusedVariables false
theorem Rd.beside {w w':World} {a:Option Addr} {n cap B:Nat} {f:Nat→T} (h:Rd w a n cap f) (hb:aE B w w') (hne:n=0∨∀b off,a=some ⟨b,off,none⟩→b≠B):Rd w' a n cap f:=
 h.grown (mI hb) (hne.imp id (fun k b off he hb=>k b off he (by cases hb;rfl)))
def mD (L K:List T):List T×Bool:=cJ (lf L) L.length (lf K) K.length
theorem fU {K:List T} {a:T} {g:Nat→T} {lb:Nat} (hK:aJ K) (ha:a.m.ok=true∧0≤a.c∧a.c≤100) (hg:jC g lb):∀k K',k≤lb→dU K a g k=some K'→aJ K'
 |0,K',_,h=>by cases h;exact hK
 |k+1,K',hk,h=>by
  rw[dU]at h;cases hr:dU K a g k with
  |none=>rw[hr]at h;cases h
  |some K1=>
   rw[hr]at h;change eM K1 a (g k)=some K' at h;have h1:=fU hK ha hg k K1 (by omega) hr
   unfold eM at h;split at h
   ·rename_i hok;cases h;have h2:=hg k (by omega)
    exact(cZ h1 (dO ⟨ha.1,h2.1,hok.1,rfl,rfl,rfl,rfl,ha.2,h2.2⟩).1).1
   ·cases h
theorem bM {f g:Nat→T} {la lb:Nat} (hf:jC f la) (hg:jC g lb):∀i K,i≤la→bR f g lb i=some K→aJ K
 |0,K,_,h=>by cases h;exact dE
 |i+1,K,hi,h=>by
  rw[bR]at h;cases hr:bR f g lb i with
  |none=>rw[hr]at h;cases h
  |some K1=>
   rw[hr]at h;exact fU (bM hf hg i K1 (by omega) hr) (hf i (by omega)) hg lb K (Nat.le_refl _) h
theorem wP (L K:List T):mD L K=([],false)∨∃P,mD L K=(P,true)∧bZ P=true:=by
 unfold mD cJ;split
 ·rename_i h;obtain⟨l1,g1⟩:=bG h.1;obtain⟨l2,g2⟩:=bG h.2;cases hm:bR (lf L) (lf K) K.length L.length with
  |none=>exact .inl rfl
  |some P=>exact .inr ⟨P,rfl,dX (eD _ P hm) (bM g1 g2 _ P (Nat.le_refl _) hm)⟩
 ·exact .inl rfl
variable {w:World} {a b:Option Addr} {ca cb:Nat} {L K:List T}
end Go.Proofs.Ytbkighpmkadmmaa
namespace Go.Proofs.Ytbkighpmkadmmaa
open Go.RowKit
set_option linter.unusedVariables false
theorem NL:∀D X i:Fin 16,i.val≤D.val→i.val≤X.val→zz (wy (D.val:Int) (X.val:Int) (i.val:Int))=nf (wN D.val X.val i.val):=by decide+kernel
theorem FW {d x:Int} {i:Nat} (d0:0≤d) (d1:d≤15) (x0:0≤x) (x1:x≤15) (hi:(i:Int)≤d) (hx:(i:Int)≤x):zz (wy d x i)=nf (wN d.toNat x.toNat i):=by have h:=NL ⟨d.toNat,by omega⟩ ⟨x.toNat,by omega⟩ ⟨i,by omega⟩ (by show i≤d.toNat;omega) (by show i≤x.toNat;omega);simp only[Int.toNat_of_nonneg d0,Int.toNat_of_nonneg x0]at h;exact h
theorem fH (B:Lq) (f:Nat→Lq):∀n,Lq.mul (Lq.sumN f n) B=Lq.sumN (fun i=>Lq.mul (f i) B) n
 |0=>Lq.nil_mul B
 |n+1=>by rw[Lq.sumN,Lq.sum_mul,fH B f n];rfl
theorem eZ (c:Fq) (f:Nat→Lq):∀n,Lq.sc c (Lq.sumN f n)=Lq.sumN (fun i=>Lq.sc c (f i)) n
 |0=>Lq.ext fun u n k=>by show c*(0:Fq)=0;grind
 |n+1=>by rw[Lq.sumN,Lq.sc_sum,eZ c f n];rfl
theorem zQ {xa ya x' d' y' e' db eb:Lq} (h1:Lq.Com ya x') (h2:Lq.Com d' y') (h3:Lq.Com e' db):Lq.mul (Lq.mul xa ya) (Lq.mul (Lq.mul x' d') (Lq.mul (Lq.mul y' e') (Lq.mul db eb)))=Lq.mul (Lq.mul (Lq.mul xa x') (Lq.mul ya y')) (Lq.mul (Lq.mul d' db) (Lq.mul e' eb)):=
 calc _=Lq.mul xa (Lq.mul (Lq.mul ya x') (Lq.mul (Lq.mul d' y') (Lq.mul (Lq.mul e' db) eb))):=rfl
  _=Lq.mul xa (Lq.mul (Lq.mul x' ya) (Lq.mul (Lq.mul y' d') (Lq.mul (Lq.mul db e') eb))):=by rw[h1,h2,h3]
  _=_:=rfl
theorem KQ (g:nE) (a b:T) (ha:a.m.ok=true) (hb:b.m.ok=true):Lq.mul (mo g a.m) (mo g b.m)=Lq.sumN (fun i=>Lq.sumN (fun k=>Lq.sc (nf (wN a.m.d.toNat b.m.x.toNat i)*nf (wN a.m.e.toNat b.m.y.toNat k)) (mo g (iI a b i k).m)) (eR a b+1)) (dJ a b+1):=by
 obtain⟨ax0,ax1,ay0,ay1,ad0,ad1,ae0,ae1⟩:=M.ok_iff.1 ha;obtain⟨bx0,bx1,by0,by1,bd0,bd1,be0,be1⟩:=M.ok_iff.1 hb;have e1:Lq.mul (mo g a.m) (mo g b.m)=Lq.mul (Lq.mul (Lq.pow g.x a.m.x.toNat) (Lq.pow g.y a.m.y.toNat)) (Lq.mul (Lq.mul (Lq.pow g.d a.m.d.toNat) (Lq.pow g.x b.m.x.toNat)) (Lq.mul (Lq.mul (Lq.pow g.e a.m.e.toNat) (Lq.pow g.y b.m.y.toNat)) (Lq.mul (Lq.pow g.d b.m.d.toNat) (Lq.pow g.e b.m.e.toNat)))):=by
  have h:=g.xe.symm.pows a.m.e.toNat b.m.x.toNat
  calc _=Lq.mul (Lq.mul (Lq.pow g.x a.m.x.toNat) (Lq.pow g.y a.m.y.toNat)) (Lq.mul (Lq.pow g.d a.m.d.toNat) (Lq.mul (Lq.mul (Lq.pow g.e a.m.e.toNat) (Lq.pow g.x b.m.x.toNat)) (Lq.mul (Lq.pow g.y b.m.y.toNat) (Lq.mul (Lq.pow g.d b.m.d.toNat) (Lq.pow g.e b.m.e.toNat))))):=rfl
   _=Lq.mul (Lq.mul (Lq.pow g.x a.m.x.toNat) (Lq.pow g.y a.m.y.toNat)) (Lq.mul (Lq.pow g.d a.m.d.toNat) (Lq.mul (Lq.mul (Lq.pow g.x b.m.x.toNat) (Lq.pow g.e a.m.e.toNat)) (Lq.mul (Lq.pow g.y b.m.y.toNat) (Lq.mul (Lq.pow g.d b.m.d.toNat) (Lq.pow g.e b.m.e.toNat))))):=by rw[h]
   _=_:=rfl
 have lx:dJ a b=min a.m.d.toNat b.m.x.toNat:=by unfold dJ;omega
 have ly:eR a b=min a.m.e.toNat b.m.y.toNat:=by unfold eR;omega
 rw[e1,lB g.wx,lB g.wy,fH,Lq.mul_sumN,lx,ly];refine Lq.sumN_congr (fun i hi=>?_);rw[Lq.sc_mul,Lq.mul_sc,fH,Lq.mul_sumN,Lq.mul_sumN,eZ];refine Lq.sumN_congr (fun k hk=>?_);rw[Lq.sc_mul,Lq.mul_sc,Lq.mul_sc,Lq.sc_sc,zQ (g.xy.symm.pows _ _) (g.dy.pows _ _) (g.de.symm.pows _ _),←Lq.pow_add,←Lq.pow_add,←Lq.pow_add,←Lq.pow_add];unfold mo iI;simp only;rw[show a.m.x.toNat+(b.m.x.toNat-i)=(a.m.x+b.m.x-(i:Int)).toNat by omega,show a.m.y.toNat+(b.m.y.toNat-k)=(a.m.y+b.m.y-(k:Int)).toNat by omega,show a.m.d.toNat-i+b.m.d.toNat=(a.m.d+b.m.d-(i:Int)).toNat by omega,show a.m.e.toNat-k+b.m.e.toNat=(a.m.e+b.m.e-(k:Int)).toNat by omega]
theorem sC (g:nE) {a b:T} {m:M} (h:oV a b m):Rp g (bP a b)=Lq.sc (zz a.c*zz b.c) (Lq.mul (mo g a.m) (mo g b.m)):=by
 obtain⟨ax0,ax1,ay0,ay1,ad0,ad1,ae0,ae1⟩:=M.ok_iff.1 h.ok1;obtain⟨bx0,bx1,by0,by1,bd0,bd1,be0,be1⟩:=M.ok_iff.1 h.ok2;rw[KQ g a b h.ok1 h.ok2,eZ];refine Lq.ext fun u p q=>?_;show iE (fun m=>(mo g m).f u p q) (cT (cK a b (dJ a b+1)) [])=_
 rw[lV _ _ (mM h) dE,sS,tT];unfold iE cK iM;rw[tS];have z:∀x:Fq,0+x=x:=by intro x;grind
 rw[z];refine cF (fun i hi=>?_);rw[List.mem_range]at hi;rw[oE,eZ,tT];refine cF (fun k hk=>?_);rw[List.mem_range]at hk;have hx:dJ a b=min a.m.d.toNat b.m.x.toNat:=by unfold dJ;omega
 have hy:eR a b=min a.m.e.toNat b.m.y.toNat:=by unfold eR;omega
 show zz (iI a b i k).c*_=zz a.c*zz b.c*(nf _*nf _*_);have hc:zz (iI a b i k).c=zz a.c*zz b.c*nf (wN a.m.d.toNat b.m.x.toNat i)*nf (wN a.m.e.toNat b.m.y.toNat k):=by show zz (a.c*b.c%101*wy a.m.d b.m.x i%101*wy a.m.e b.m.y k%101)=_;rw[gF,iP,gF,iP,gF,iP,FW ad0 ad1 bx0 bx1 (by omega) (by omega),FW ae0 ae1 by0 by1 (by omega) (by omega)]
 rw[hc]
 grind
def Rn (g:nE) (f:Nat→T) (n:Nat):Lq:=Lq.sumN (fun i=>Lq.sc (zz (f i).c) (mo g (f i).m)) n
theorem oU (g:nE) (L:List T):Rp g L=Rn g (lf L) L.length:=by
 refine Lq.ext fun u p q=>?_;unfold Rn;rw[tT];show su L _=_
 have e:L=(List.range L.length).map (lf L):=by refine List.ext_getElem (by simp) (fun i h1 h2=>?_);rw[List.getElem_map,List.getElem_range,fM h1]
 have key:∀(f:T→Fq),su L f=su (List.range L.length) (fun i=>f (lf L i)):=fun f=>by have:=oE (lf L) f (List.range L.length);rw[←e]at this;exact this
 rw[key];rfl
theorem zO (g:nE) {K:List T} {a:T} {f:Nat→T} {lb:Nat} (hK:aJ K) (ha:a.m.ok=true∧0≤a.c∧a.c≤100) (hg:jC f lb):∀k K',k≤lb→dU K a f k=some K'→Rp g K'=Lq.sum (Rp g K) (Lq.mul (Lq.sc (zz a.c) (mo g a.m)) (Rn g f k))
 |0,K',_,h=>by cases h;unfold Rn;rw[Lq.sumN,Lq.mul_nil,Lq.sum_nil]
 |k+1,K',hk,h=>by
  rw[dU]at h;cases hr:dU K a f k with
  |none=>rw[hr]at h;cases h
  |some K1=>
   rw[hr]at h;change eM K1 a (f k)=some K' at h;have h1:=zO g hK ha hg k K1 (by omega) hr
   have hf1:=fU hK ha hg k K1 (by omega) hr;unfold eM at h;split at h
   ·rename_i hok;cases h;have h2:=hg k (by omega)
    have tw:oV a (f k) (a.m.sum (f k).m):=⟨ha.1,h2.1,hok.1,rfl,rfl,rfl,rfl,ha.2,h2.2⟩
    rw[nG g hf1 (dO tw).1,h1,sC g tw];unfold Rn;rw[Lq.sumN,Lq.mul_sum,Lq.sum_assoc,Lq.mul_sc,Lq.sc_mul,Lq.sc_mul,Lq.sc_sc,show zz (f k).c*zz a.c=zz a.c*zz (f k).c by grind]
   ·cases h
theorem zE (g:nE) {f f':Nat→T} {la lb:Nat} (hf:jC f la) (hg:jC f' lb):∀i K,i≤la→bR f f' lb i=some K→Rp g K=Lq.mul (Rn g f i) (Rn g f' lb)
 |0,K,_,h=>by cases h;unfold Rn;rw[Lq.sumN,Lq.nil_mul];rfl
 |i+1,K,hi,h=>by
  rw[bR]at h;cases hr:bR f f' lb i with
  |none=>rw[hr]at h;cases h
  |some K1=>
   rw[hr]at h;have h1:=zE g hf hg i K1 (by omega) hr
   rw[zO g (bM hf hg i K1 (by omega) hr) (hf i (by omega)) hg lb K (Nat.le_refl _) h,h1];unfold Rn;rw[Lq.sumN.eq_2,Lq.sum_mul]
theorem nH (g:nE) {A B P:List T} (h:mD A B=(P,true)):Rp g P=Lq.mul (Rp g A) (Rp g B):=by
 unfold mD cJ at h;split at h
 ·rename_i hok;obtain⟨l1,g1⟩:=bG hok.1;obtain⟨l2,g2⟩:=bG hok.2;cases hm:bR (lf A) (lf B) B.length A.length with
  |none=>rw[hm]at h;simp[jM]at h
  |some K=>
   rw[hm]at h;have:K=P:=by simpa[jM]using h
   rw[←this,oU,oU g B];rw[oU];rw[←oU g K];exact zE g g1 g2 _ K (Nat.le_refl _) hm
 ·simp at h
def tX:Lq:=⟨fun u n k=>u (n+1) k,fun _ _=>rfl,fun _ _=>rfl⟩
def tY:Lq:=⟨fun u n k=>u n (k+1),fun _ _=>rfl,fun _ _=>rfl⟩
def sX:Lq:=⟨fun u n k=>nf n*u (n-1) k,fun u v=>by funext n k;simp only[va];grind,fun c u=>by funext n k;simp only[vs];grind⟩
def sY:Lq:=⟨fun u n k=>nf k*u n (k-1),fun u v=>by funext n k;simp only[va];grind,fun c u=>by funext n k;simp only[vs];grind⟩
def tQ:nE where
 x:=tX
 y:=tY
 d:=sX
 e:=sY
 wx:=Lq.ext fun u n k=>by
  show nf (n+1)*u (n+1-1) k=nf n*u (n-1+1) k+u n k;rw[nS,jN,show n+1-1=n by omega];cases n with
  |zero=>rw[eE];grind
  |succ n=>rw[show n+1-1+1=n+1 by omega];grind
 wy:=Lq.ext fun u n k=>by
  show nf (k+1)*u n (k+1-1)=nf k*u n (k-1+1)+u n k;rw[nS,jN,show k+1-1=k by omega];cases k with
  |zero=>rw[eE];grind
  |succ k=>rw[show k+1-1+1=k+1 by omega];grind
 xy:=rfl
 xe:=rfl
 dy:=rfl
 de:=Lq.ext fun u n k=>by
  show nf k*(nf n*u (n-1) (k-1))=nf n*(nf k*u (n-1) (k-1))
  grind
theorem EI (u:Vq) (n k:Nat):∀j,(Lq.pow tX j).f u n k=u (n+j) k
 |0=>rfl
 |j+1=>by rw[Lq.pow_succ'];show(Lq.pow tX j).f (tX.f u) n k=_;rw[EI];rfl
theorem EJ (u:Vq) (n k:Nat):∀j,(Lq.pow tY j).f u n k=u n (k+j)
 |0=>rfl
 |j+1=>by rw[Lq.pow_succ'];show(Lq.pow tY j).f (tY.f u) n k=_;rw[EJ];rfl
theorem EG:∀(j:Nat) (u:Vq) (n k:Nat),(Lq.pow sX j).f u n k=nf (yP n j)*u (n-j) k
 |0,u,n,k=>by show u n k=nf 1*u n k;rw[jN];grind
 |j+1,u,n,k=>by
  rw[Lq.pow_succ'];show(Lq.pow sX j).f (sX.f u) n k=_
  rw[EG j];show nf (yP n j)*(nf (n-j)*u (n-j-1) k)=nf (yP n j*(n-j))*u (n-(j+1)) k
  rw[xO,show n-j-1=n-(j+1) by omega];grind
theorem EH:∀(j:Nat) (u:Vq) (n k:Nat),(Lq.pow sY j).f u n k=nf (yP k j)*u n (k-j)
 |0,u,n,k=>by show u n k=nf 1*u n k;rw[jN];grind
 |j+1,u,n,k=>by
  rw[Lq.pow_succ'];show(Lq.pow sY j).f (sY.f u) n k=_
  rw[EH j];show nf (yP k j)*(nf (k-j)*u n (k-j-1))=nf (yP k j*(k-j))*u n (k-(j+1))
  rw[xO,show k-j-1=k-(j+1) by omega];grind
theorem DL (m:M) (u:Vq) (n k:Nat):(mo tQ m).f u n k=nf (yP n m.d.toNat)*nf (yP k m.e.toNat)*u (n-m.d.toNat+m.x.toNat) (k-m.e.toNat+m.y.toNat):=by
 show(Lq.pow sY m.e.toNat).f ((Lq.pow sX m.d.toNat).f ((Lq.pow tY m.y.toNat).f ((Lq.pow tX m.x.toNat).f u))) n k=_;rw[EH,EG,EJ,EI]
 grind
theorem qG {P:List T} (hP:aJ P) {t0:T} (h0:t0∈P) {f:T→Fq} (hf:∀t∈P,t.m≠t0.m→f t=0):su P f=f t0:=by
 induction P with
 |nil=>cases h0
 |cons t r ih=>
  rw[su];have hp:=(List.pairwise_cons.1 hP.1).1
  rcases List.mem_cons.1 h0 with rfl|h1
  ·rw[jS f r (fun s hs=>hf s (List.mem_cons_of_mem _ hs) (fun e=>by have:=hp s hs;rw[e]at this;omega))]
   grind
  ·rw[ih hP.tail h1 (fun s hs=>hf s (List.mem_cons_of_mem _ hs)),hf t (List.mem_cons_self ..) (fun e=>by have:=hp t0 h1;rw[e]at this;omega)]
   grind
theorem wX:∀a b:Fq,a*b=0→a=0∨b=0:=by decide+kernel
theorem JT:∀D:Fin 16,nf (yP D.val D.val)≠0:=by decide+kernel
theorem vE {α:Type} (f:α→Nat):∀L:List α,L≠[]→∃t∈L,∀s∈L,f t≤f s
 |[],h=>absurd rfl h
 |[t],_=>⟨t,List.mem_singleton.2 rfl,fun s hs=>by rw[List.mem_singleton.1 hs];exact Nat.le_refl _⟩
 |t::s::r,_=>by
  obtain⟨m,hm,hl⟩:=vE f (s::r) (by simp);by_cases h:f t≤f m
  ·exact⟨t,List.mem_cons_self ..,fun x hx=>by
    rcases List.mem_cons.1 hx with rfl|hx
    ·exact Nat.le_refl _
    ·exact kM h (hl x hx)⟩
  ·exact⟨m,List.mem_cons_of_mem _ hm,fun x hx=>by
    rcases List.mem_cons.1 hx with rfl|hx
    ·omega
    ·exact hl x hx⟩
theorem AL {P:List T} (hP:aJ P) (hne:P≠[]):∃t0∈P,(Rp tQ P).f (fun n k=>if n=t0.m.x.toNat∧k=t0.m.y.toNat then 1 else 0) t0.m.d.toNat t0.m.e.toNat≠0:=by
 obtain⟨t0,h0,hmin⟩:=vE (fun t:T=>t.m.d.toNat+t.m.e.toNat) P hne;refine⟨t0,h0,?_⟩;have r0:=hP.2 t0 h0
 obtain⟨x0,x1,y0,y1,d0,d1,e0,e1⟩:=M.ok_iff.1 r0.1;show su P (fun t=>zz t.c*(mo tQ t.m).f _ t0.m.d.toNat t0.m.e.toNat)≠0
 rw[qG hP h0 (fun t ht hm=>?_)]
 ·rw[DL];have hz:(if t0.m.d.toNat-t0.m.d.toNat+t0.m.x.toNat=t0.m.x.toNat∧t0.m.e.toNat-t0.m.e.toNat+t0.m.y.toNat=t0.m.y.toNat then(1:Fq)else 0)=1:=if_pos ⟨by omega,by omega⟩
  simp only[hz];intro h;rcases wX _ _ h with h|h
  ·exact JX r0.2.1 r0.2.2 h
  ·rcases wX _ _ h with h|h
   ·rcases wX _ _ h with h|h
    ·exact JT ⟨t0.m.d.toNat,by omega⟩ h
    ·exact JT ⟨t0.m.e.toNat,by omega⟩ h
   ·exact absurd h (by decide)
 ·rw[DL];have r1:=hP.2 t ht
  obtain⟨u0,u1,v0,v1,f0,f1,g0,g1⟩:=M.ok_iff.1 r1.1;have hm2:t0.m.d.toNat+t0.m.e.toNat≤t.m.d.toNat+t.m.e.toNat:=hmin t ht
  have zl:∀x:Fq,0*x=0:=by intro x;grind
  have zr:∀x:Fq,x*0=0:=by intro x;grind
  by_cases hd:t0.m.d.toNat<t.m.d.toNat
  ·rw[mO _ _ hd,eE,zl,zl,zr]
  ·by_cases he:t0.m.e.toNat<t.m.e.toNat
   ·rw[mO _ _ he,eE,zr,zl,zr]
   ·rw[if_neg,zr,zr];rintro⟨hx,hy⟩;refine hm ?_;have a1:t.m.x=t0.m.x:=by omega
    have a2:t.m.y=t0.m.y:=by omega
    have a3:t.m.d=t0.m.d:=by omega
    have a4:t.m.e=t0.m.e:=by omega
    revert a1 a2 a3 a4
    cases t.m;cases t0.m;intro a1 a2 a3 a4;simp only at a1 a2 a3 a4;rw[a1,a2,a3,a4]
theorem nT {P:List T} (hP:aJ P) (h:Rp tQ P=Lq.nil):P=[]:=by
 by_cases hne:P=[]
 ·exact hne
 ·obtain⟨t0,_,h1⟩:=AL hP hne;rw[h]at h1;exact absurd rfl h1
theorem uN {P Q:List T} (hP:aJ P) (hQ:aJ Q) (h:Rp tQ P=Rp tQ Q):P=Q:=by
 refine(wH hP hQ).1 (nT (dB hP hQ).1 ?_);rw[pK tQ hP hQ,h];refine Lq.ext fun u n k=>?_;show _+zz 100*_=(0:Fq)
 have:zz 100=100:=rfl;rw[this]
 grind
theorem rV {A B P:List T} (h:mD A B=(P,true)):bZ P=true:=by
 rcases wP A B with h1|⟨Q,h1,o⟩
 ·rw[h1]at h;simp at h
 ·rw[h1]at h;simp only[Prod.mk.injEq,and_true]at h;rw[←h];exact o
theorem FR (A B:List T):mD A B=([],false)∨∃P,mD A B=(P,true):=(wP A B).imp id (fun⟨P,h,_⟩=>⟨P,h⟩)
theorem jB {A B P:List T} (h:mD A B=(P,true)):aJ P:=(aH (rV h)).2
theorem tW {A B P:List T} (h:mD A B=(P,true)):bZ A=true∧bZ B=true:=by
 unfold mD cJ at h;split at h
 ·rename_i hh;exact hh
 ·simp at h
def tL (c:Int) (t:T):T:=⟨c*t.c%101,t.m⟩
theorem GE {c:Int} (c1:1≤c) (c2:c≤100) {K X:List T} (hK:aJ K) (hX:aJ X):bT (gN c K) (gN c X)=gN c (bT K X):=by
 have f1:=dV c1 c2 hK;have f2:=dV c1 c2 hX
 refine uN (cZ f1 f2).1 (dV c1 c2 (cZ hK hX).1) ?_;rw[nG _ f1 f2,uF,uF,uF,nG _ hK hX,Lq.sc_sum]
theorem IQ {c:Int} (c1:1≤c) (c2:c≤100) {a b:T} {m:M} (h:oV a b m):oV (tL c a) b m∧bP (tL c a) b=gN c (bP a b):=by
 have h2:oV (tL c a) b m:=⟨h.ok1,h.ok2,h.ok3,h.gx,h.gy,h.gd,h.ge,⟨by show 0≤c*a.c%101;omega,by show c*a.c%101≤100;omega⟩,h.c2⟩
 refine⟨h2,uN (dO h2).1 (dV c1 c2 (dO h).1) ?_⟩;rw[sC _ h2,uF,sC _ h,Lq.sc_sc];congr 1;show zz (c*a.c%101)*zz b.c=_
 rw[gF,iP];grind
theorem zP {c:Int} (c1:1≤c) (c2:c≤100) {K:List T} {a:T} {f:Nat→T} {lb:Nat} (hK:aJ K) (ha:a.m.ok=true∧0≤a.c∧a.c≤100) (hg:jC f lb):∀k,k≤lb→dU (gN c K) (tL c a) f k=(dU K a f k).map (gN c)
 |0,_=>rfl
 |k+1,hk=>by
  rw[dU,dU,zP c1 c2 hK ha hg k (by omega)];cases hr:dU K a f k with
  |none=>rfl
  |some K1=>
   show eM (gN c K1) (tL c a) (f k)=(eM K1 a (f k)).map (gN c);have hf1:=fU hK ha hg k K1 (by omega) hr
   have h2:=hg k (by omega);unfold eM;show(if(a.m.sum (f k).m).ok=true∧(bT (gN c K1) (bP (tL c a) (f k))).length≤400 then some (bT (gN c K1) (bP (tL c a) (f k)))else none)=_
   by_cases hok:(a.m.sum (f k).m).ok=true
   ·have tw:oV a (f k) (a.m.sum (f k).m):=⟨ha.1,h2.1,hok,rfl,rfl,rfl,rfl,ha.2,h2.2⟩
    rw[(IQ c1 c2 tw).2,GE c1 c2 hf1 (dO tw).1,dI];by_cases hl:(bT K1 (bP a (f k))).length≤400
    ·rw[if_pos ⟨hok,hl⟩,if_pos ⟨hok,hl⟩];rfl
    ·rw[if_neg (fun h=>hl h.2),if_neg (fun h=>hl h.2)];rfl
   ·rw[if_neg (fun h=>hok h.1),if_neg (fun h=>hok h.1)];rfl
theorem sV {c:Int} (c1:1≤c) (c2:c≤100) {f f' f2:Nat→T} {la lb:Nat} (hf:jC f la) (hg:jC f' lb) (he:∀i,i<la→f2 i=tL c (f i)):∀i,i≤la→bR f2 f' lb i=(bR f f' lb i).map (gN c)
 |0,_=>by show some []=some (gN c []);rw[show gN c []=[]from by rw[jR];rfl]
 |i+1,hi=>by
  rw[bR,bR,sV c1 c2 hf hg he i (by omega)];cases hr:bR f f' lb i with
  |none=>rfl
  |some K1=>
   show dU (gN c K1) (f2 i) f' lb=(dU K1 (f i) f' lb).map (gN c);rw[he i (by omega)];exact zP c1 c2 (bM hf hg i K1 (by omega) hr) (hf i (by omega)) hg lb (Nat.le_refl _)
theorem FL (A B:Lq) (u:Vq) (n k:Nat):(Lq.sum A B).f u n k=A.f u n k+B.f u n k:=rfl
theorem KY (c:Fq) (A:Lq) (u:Vq) (n k:Nat):(Lq.sc c A).f u n k=c*A.f u n k:=rfl
open Go.RowKit Go.Deep Go.Joins
theorem gZ {t:T} (h:t.m.ok=true∧1≤t.c∧t.c≤100):bZ [t]=true:=
 dX (by simp) ⟨List.pairwise_singleton _ _,fun s hs=>by simp at hs;subst hs;exact h⟩
def qT (u v:T) (f:Nat→T) (n:Nat) (g:Nat→T) (m:Nat):List T×Bool:=
 if(cJ (lf [u]) 1 f n).2=true∧(cJ (lf [v]) 1 g m).2=true then kL (lf (cJ (lf [u]) 1 f n).1) (cJ (lf [u]) 1 f n).1.length (lf (cJ (lf [v]) 1 g m).1) (cJ (lf [v]) 1 g m).1.length else([],false)
theorem AK (u v:T) (f:Nat→T) (n:Nat) (g:Nat→T) (m:Nat):(qT u v f n g m).1.length≤400:=by
 unfold qT;split
 ·exact xR _ _ _ _
 ·simp
def cE (o:Int) (f:Nat→T) (n:Nat) (g:Nat→T) (m:Nat):List T×Bool:=
 if dC o n f m g=true then qT (cV o n f m g) (cW o n f m g) f n g m else([],false)
theorem vY (o:Int) (f:Nat→T) (n:Nat) (g:Nat→T) (m:Nat):(cE o f n g m).1.length≤400:=by
 unfold cE;split
 ·exact AK _ _ _ _ _ _
 ·simp
def iV (L:List T) (t:T) (g:Nat→T) (m:Nat):List T×Bool:=
 match bR (lf [t]) g m 1 with
 |none=>([],false)
 |some Y=>if(cA L Y).length≤400 then(cA L Y,true)else([],false)
theorem AV (L:List T) (t:T) (g:Nat→T) (m:Nat):(iV L t g m).1.length≤400:=by
 unfold iV;split
 ·simp
 ·split
  ·assumption
  ·simp
theorem DQ {t:T} (ht:t.m.ok=true∧1≤t.c∧t.c≤100) {g:Nat→T} {m:Nat} (hg:jC g m):bR (lf [⟨101-t.c,t.m⟩]) g m 1=(bR (lf [t]) g m 1).map (gN 100):=by
 refine sV (by omega) (by omega) (f:=lf [t]) (la:=1) (fun i hi=>?_) hg (fun i hi=>?_) 1 (Nat.le_refl _)
 ·obtain rfl:i=0:=by omega
  exact⟨ht.1,by show 0≤t.c;omega,ht.2.2⟩
 ·obtain rfl:i=0:=by omega
  show(⟨101-t.c,t.m⟩:T)=⟨100*t.c%101,t.m⟩
  congr 1;omega
theorem AW {u v:T} {f:Nat→T} {n:Nat} {g:Nat→T} {m:Nat} (hu:u.m.ok=true∧1≤u.c∧u.c≤100) (hv:v.m.ok=true∧1≤v.c∧v.c≤100) (hf:aL n f=true) (hg:aL m g=true):qT u v f n g m=match bR (lf [u]) f n 1 with|none=>([],false)|some X=>iV X v g m:=by
 have o1:aL 1 (lf [u])=true:=gZ hu;have o2:aL 1 (lf [v])=true:=gZ hv
 have e1:cJ (lf [u]) 1 f n=jM (bR (lf [u]) f n 1):=if_pos ⟨o1,hf⟩;have e2:cJ (lf [v]) 1 g m=jM (bR (lf [v]) g m 1):=if_pos ⟨o2,hg⟩
 unfold qT;rw[e1,e2];cases hX:bR (lf [u]) f n 1 with
 |none=>exact if_neg (by simp[jM])
 |some X=>
  unfold iV;cases hY:bR (lf [v]) g m 1 with
  |none=>exact if_neg (by simp[jM])
  |some Y=>
   have kX:bZ X=true:=dX (eD _ X hX) (bM (bG o1).2 (bG hf).2 _ X (Nat.le_refl _) hX);have kY:bZ Y=true:=dX (eD _ Y hY) (bM (bG o2).2 (bG hg).2 _ Y (Nat.le_refl _) hY)
   rw[if_pos (by simp[jM])];show BN X Y=if(cA X Y).length≤400 then(cA X Y,true)else([],false)
   by_cases hl:(cA X Y).length≤400
   ·rw[if_pos hl,zW kX kY hl]
   ·rw[if_neg hl];rcases rR X Y with h|⟨_,_,h,_⟩
    ·exact h
    ·exact absurd h hl
theorem yW (w:World) (pa:Option Addr) (pc:Nat) (L:List T) (t:T) (b:Option Addr) (m cb:Nat) (g:Nat→T) (hp:RL w pa pc L) (hl:L.length≤400) (hL:aJ L) (ht:t.m.ok=true∧1≤t.c∧t.c≤100) (hb:Rd w b m cb g) (hg:aL m g=true):Calls Try.prog 109 #[.slice pa L.length pc,.agg #[.int .i64 t.c,.int .i64 t.m.x,.int .i64 t.m.y,.int .i64 t.m.d,.int .i64 t.m.e],.slice b m cb] w fun r w'=>∃v,r= .returned (.tuple #[v,.bool (iV L t g m).2])∧Below w.heap.size w w'∧w'.ownsRow w.heap.size 33 5 v (iV L t g m).1.length (aG (iV L t g m).1):=by
 obtain⟨l2,gg⟩:=bG hg;have HP:=aA hp
 have HG:=aA hb;have HL:=aA hL
 have hmn:=DQ ht gg;obtain⟨t0,t1,t2⟩:=ht;have gs:jC (lf [(⟨101-t.c,t.m⟩:T)]) 1:=fun i hi=>by
  obtain rfl:i=0:=by omega
  exact⟨t0,by show 0≤101-t.c;omega,by show 101-t.c≤100;omega⟩
 have gt:jC (lf [t]) 1:=fun i hi=>by
  obtain rfl:i=0:=by omega
  exact⟨t0,by show 0≤t.c;omega,t2⟩
 have hcall:=fun(W:World) (h:RL W (some ⟨w.heap.size+1,0,none⟩) 1 [(⟨101-t.c,t.m⟩:T)]) (h':Rd W b m cb g)=>DS W (some ⟨w.heap.size+1,0,none⟩) b 1 1 m cb (lf [(⟨101-t.c,t.m⟩:T)]) g h h' (by omega) l2 gs gg;rw[hmn]at hcall;have HGT:=aA gt
 have HGG:=aA gg;clear hp hb hL gs gt gg hmn;unfold iV;have hrl:=eT (w.alloc (.cells #[.int .i64 t.c,.int .i64 t.m.x,.int .i64 t.m.y,.int .i64 t.m.d,.int .i64 t.m.e] 33)) (⟨101-t.c,t.m⟩:T)
 rw[World.size_alloc]at hrl;have HRL:=aA hrl
 have HBL:=aA (aS w (.cells #[.int .i64 t.c,.int .i64 t.m.x,.int .i64 t.m.y,.int .i64 t.m.d,.int .i64 t.m.e] 33) (.cells #[.int .i64 (101-t.c),.int .i64 t.m.x,.int .i64 t.m.y,.int .i64 t.m.d,.int .i64 t.m.e] 33));clear hrl;cases hY:bR (lf [t]) g m 1 with
 |none=>
  rw[hY]at hcall;simp only[Option.map_none,jM]at hcall;go_enter Try.func109,Try.ntmps109;go_wp2_with fail;refine(hcall _ HRL.out (HG.out.below HBL.out)).mono ?_;rintro r w1 ⟨v1,rfl,hb1,ho1⟩;have HB1:=aA (aB HBL.out hb1)
  clear hb1 ho1 hcall;go_wp2;refine cN (results_tmp2 rfl _ _ _) rfl ?_;exact⟨_,rfl,HB1.out.alloc HB1.out.size _,bL w1 w.heap.size HB1.out.size⟩
 |some Y=>
  have fY:=bM HGT.out HGG.out 1 Y (Nat.le_refl _) hY;have lY:=eD 1 Y hY
  have fS:=dV (c:=100) (by omega) (by omega) fY;have lS:=dI 100 Y
  have hsl:=wG L Y;rw[hY]at hcall;simp only[Option.map_some,jM]at hcall;obtain⟨Z,hZ⟩:∃Z,gN 100 Y=Z:=⟨_,rfl⟩
  rw[hZ]at hcall fS lS;have hadd:cA L Y=bT L Z:=by rw[←hZ];rfl
  dsimp only;rw[hadd]at hsl⊢;have lZ:Z.length≤400:=by omega
  have c1:Hid (∀i,i<L.length→0≤(lf L i).c∧(lf L i).c≤100):=fun i hi=>by have:=(uT HL.out).2 i hi;omega
  have c2:Hid (∀i,i<Z.length→0≤(lf Z i).c∧(lf Z i).c≤100):=fun i hi=>by have:=(uT fS).2 i hi;omega
  have HAD:Hid (dS (lf L) L.length (lf Z) Z.length 0 0=bT L Z):=rfl;obtain⟨R,hR⟩:∃R,bT L Z=R:=⟨_,rfl⟩
  rw[hR]at hsl HAD⊢;have hRl:R.length≤1000:=by omega
  clear hZ hadd hR fS fY lS hsl;by_cases hle:R.length≤400
  ·have hg4:¬(400:Int)<(R.length:Int):=by omega
   rw[if_pos hle];go_enter Try.func109,Try.ntmps109;go_wp2_with fail;refine(hcall _ HRL.out (HG.out.below HBL.out)).mono ?_;rintro r w1 ⟨v1,rfl,hb1,ho1⟩;obtain⟨a1,k1,rfl,hout⟩:=aI ho1 (by omega);have HB1:=aA (aB HBL.out hb1)
   have HZ1:=aA hout.1;clear hb1 ho1 hout hcall;go_wp2_with fail;refine(kG _ _ _ _ _ _ _ (lf L) (lf Z) (HP.out.below HB1.out) HZ1.out (by omega) c1.out c2.out).mono ?_;rw[HAD.out];rintro r w2 ⟨v2,rfl,hb2,ho2⟩;have HB2:=aA (aB HB1.out hb2)
   have HO2:=aA (iG ho2 HB1.out.size);obtain⟨a2,k2,rfl,hout⟩:=aI ho2 (by omega);clear hb2 ho2 hout;go_wp2;refine cN (results_tmp2 rfl _ _ _) rfl ?_;exact⟨_,rfl,HB2.out,HO2.out⟩
  ·have hg4:(400:Int)<(R.length:Int):=by omega
   rw[if_neg hle];go_enter Try.func109,Try.ntmps109;go_wp2_with fail;refine(hcall _ HRL.out (HG.out.below HBL.out)).mono ?_;rintro r w1 ⟨v1,rfl,hb1,ho1⟩;obtain⟨a1,k1,rfl,hout⟩:=aI ho1 (by omega);have HB1:=aA (aB HBL.out hb1)
   have HZ1:=aA hout.1;clear hb1 ho1 hout hcall;go_wp2_with fail;refine(kG _ _ _ _ _ _ _ (lf L) (lf Z) (HP.out.below HB1.out) HZ1.out (by omega) c1.out c2.out).mono ?_;rw[HAD.out];rintro r w2 ⟨v2,rfl,hb2,ho2⟩;have HB2:=aA (aB HB1.out hb2)
   have HO2:=aA (iG ho2 HB1.out.size);obtain⟨a2,k2,rfl,hout⟩:=aI ho2 (by omega);clear hb2 ho2 hout;go_wp2;refine cN (results_tmp2 rfl _ _ _) rfl ?_;exact⟨_,rfl,HB2.out.alloc HB2.out.size _,bL w2 w.heap.size HB2.out.size⟩
end Go.Proofs.Ytbkighpmkadmmaa
