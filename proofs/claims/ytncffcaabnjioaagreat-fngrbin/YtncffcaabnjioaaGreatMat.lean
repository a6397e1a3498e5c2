/-
  Draws of operators: what a law gets is some lists of few terms.
-/
import Derived.Test.YtncffcaabnjioaaGreatMas
import Derived.Test.YtncffcaabnjioaaGreatMap
set_option maxHeartbeats 4000000
namespace Go.Proofs.YtncffcaabnjioaaGreat
open Go.RowKit
set_option linter.unusedVariables false
def lF (L K:List T):List T×Bool:=bJ (lf L) L.length (lf K) K.length
theorem jI {K:List T} {a:T} {g:Nat→T} {lb:Nat} (hK:aK K) (ha:a.m.ok=true∧0≤a.c∧a.c≤100) (hg:mO g lb):∀k K',k≤lb→eY K a g k=some K'→aK K'
 |0,K',_,h=>by cases h;exact hK
 |k+1,K',hk,h=>by
  rw[eY]at h;cases hr:eY K a g k with
  |none=>rw[hr]at h;cases h
  |some K1=>
   rw[hr]at h;change fI K1 a (g k)=some K' at h;have h1:=jI hK ha hg k K1 (by omega) hr
   unfold fI at h;split at h
   ·rename_i hok;cases h;have h2:=hg k (by omega)
    exact(cV h1 (fG ⟨ha.1,h2.1,hok.1,rfl,rfl,rfl,rfl,ha.2,h2.2⟩).1).1
   ·cases h
theorem dA {f g:Nat→T} {la lb:Nat} (hf:mO f la) (hg:mO g lb):∀i K,i≤la→bY f g lb i=some K→aK K
 |0,K,_,h=>by cases h;exact eT
 |i+1,K,hi,h=>by
  rw[bY]at h;cases hr:bY f g lb i with
  |none=>rw[hr]at h;cases h
  |some K1=>
   rw[hr]at h;exact jI (dA hf hg i K1 (by omega) hr) (hf i (by omega)) hg lb K (Nat.le_refl _) h
theorem xV (L K:List T):lF L K=([],false)∨∃P,lF L K=(P,true)∧cT P=true:=by
 unfold lF bJ;split
 ·rename_i h;obtain⟨l1,g1⟩:=bV h.1;obtain⟨l2,g2⟩:=bV h.2;cases hm:bY (lf L) (lf K) K.length L.length with
  |none=>exact .inl rfl
  |some P=>exact .inr ⟨P,rfl,gJ (fT _ P hm) (dA g1 g2 _ P (Nat.le_refl _) hm)⟩
 ·exact .inl rfl
variable {w:World} {a b:Option Addr} {ca cb:Nat} {L K:List T}
end Go.Proofs.YtncffcaabnjioaaGreat
namespace Go.Proofs.YtncffcaabnjioaaGreat
open Go.RowKit
set_option linter.unusedVariables false
theorem Ca:∀D X i:Fin 16,i.val≤D.val→i.val≤X.val→zz (wy (D.val:Int) (X.val:Int) (i.val:Int))=nf (wN D.val X.val i.val):=by decide+kernel
theorem SO {d x:Int} {i:Nat} (d0:0≤d) (d1:d≤15) (x0:0≤x) (x1:x≤15) (hi:(i:Int)≤d) (hx:(i:Int)≤x):zz (wy d x i)=nf (wN d.toNat x.toNat i):=by have h:=Ca ⟨d.toNat,by omega⟩ ⟨x.toNat,by omega⟩ ⟨i,by omega⟩ (by show i≤d.toNat;omega) (by show i≤x.toNat;omega);simp only[Int.toNat_of_nonneg d0,Int.toNat_of_nonneg x0]at h;exact h
theorem iZ (B:Lq) (f:Nat→Lq):∀n,Lq.mul (Lq.sumN f n) B=Lq.sumN (fun i=>Lq.mul (f i) B) n
 |0=>Lq.nil_mul B
 |n+1=>by rw[Lq.sumN,Lq.sum_mul,iZ B f n];rfl
theorem iL (c:Fq) (f:Nat→Lq):∀n,Lq.sc c (Lq.sumN f n)=Lq.sumN (fun i=>Lq.sc c (f i)) n
 |0=>Lq.ext fun u n k=>by show c*(0:Fq)=0;grind
 |n+1=>by rw[Lq.sumN,Lq.sc_sum,iL c f n];rfl
theorem JH {xa ya x' d' y' e' db eb:Lq} (h1:Lq.Com ya x') (h2:Lq.Com d' y') (h3:Lq.Com e' db):Lq.mul (Lq.mul xa ya) (Lq.mul (Lq.mul x' d') (Lq.mul (Lq.mul y' e') (Lq.mul db eb)))=Lq.mul (Lq.mul (Lq.mul xa x') (Lq.mul ya y')) (Lq.mul (Lq.mul d' db) (Lq.mul e' eb)):=
 calc _=Lq.mul xa (Lq.mul (Lq.mul ya x') (Lq.mul (Lq.mul d' y') (Lq.mul (Lq.mul e' db) eb))):=rfl
  _=Lq.mul xa (Lq.mul (Lq.mul x' ya) (Lq.mul (Lq.mul y' d') (Lq.mul (Lq.mul db e') eb))):=by rw[h1,h2,h3]
  _=_:=rfl
theorem XP (g:sS) (a b:T) (ha:a.m.ok=true) (hb:b.m.ok=true):Lq.mul (mo g a.m) (mo g b.m)=Lq.sumN (fun i=>Lq.sumN (fun k=>Lq.sc (nf (wN a.m.d.toNat b.m.x.toNat i)*nf (wN a.m.e.toNat b.m.y.toNat k)) (mo g (lM a b i k).m)) (gO a b+1)) (fR a b+1):=by
 obtain⟨ax0,ax1,ay0,ay1,ad0,ad1,ae0,ae1⟩:=M.ok_iff.1 ha;obtain⟨bx0,bx1,by0,by1,bd0,bd1,be0,be1⟩:=M.ok_iff.1 hb;have e1:Lq.mul (mo g a.m) (mo g b.m)=Lq.mul (Lq.mul (Lq.pow g.x a.m.x.toNat) (Lq.pow g.y a.m.y.toNat)) (Lq.mul (Lq.mul (Lq.pow g.d a.m.d.toNat) (Lq.pow g.x b.m.x.toNat)) (Lq.mul (Lq.mul (Lq.pow g.e a.m.e.toNat) (Lq.pow g.y b.m.y.toNat)) (Lq.mul (Lq.pow g.d b.m.d.toNat) (Lq.pow g.e b.m.e.toNat)))):=by
  have h:=g.xe.symm.pows a.m.e.toNat b.m.x.toNat
  calc _=Lq.mul (Lq.mul (Lq.pow g.x a.m.x.toNat) (Lq.pow g.y a.m.y.toNat)) (Lq.mul (Lq.pow g.d a.m.d.toNat) (Lq.mul (Lq.mul (Lq.pow g.e a.m.e.toNat) (Lq.pow g.x b.m.x.toNat)) (Lq.mul (Lq.pow g.y b.m.y.toNat) (Lq.mul (Lq.pow g.d b.m.d.toNat) (Lq.pow g.e b.m.e.toNat))))):=rfl
   _=Lq.mul (Lq.mul (Lq.pow g.x a.m.x.toNat) (Lq.pow g.y a.m.y.toNat)) (Lq.mul (Lq.pow g.d a.m.d.toNat) (Lq.mul (Lq.mul (Lq.pow g.x b.m.x.toNat) (Lq.pow g.e a.m.e.toNat)) (Lq.mul (Lq.pow g.y b.m.y.toNat) (Lq.mul (Lq.pow g.d b.m.d.toNat) (Lq.pow g.e b.m.e.toNat))))):=by rw[h]
   _=_:=rfl
 have lx:fR a b=min a.m.d.toNat b.m.x.toNat:=by unfold fR;omega
 have ly:gO a b=min a.m.e.toNat b.m.y.toNat:=by unfold gO;omega
 rw[e1,pQ g.wx,pQ g.wy,iZ,Lq.mul_sumN,lx,ly];refine Lq.sumN_congr (fun i hi=>?_);rw[Lq.sc_mul,Lq.mul_sc,iZ,Lq.mul_sumN,Lq.mul_sumN,iL];refine Lq.sumN_congr (fun k hk=>?_);rw[Lq.sc_mul,Lq.mul_sc,Lq.mul_sc,Lq.sc_sc,JH (g.xy.symm.pows _ _) (g.dy.pows _ _) (g.de.symm.pows _ _),←Lq.pow_add,←Lq.pow_add,←Lq.pow_add,←Lq.pow_add];unfold mo lM;simp only;rw[show a.m.x.toNat+(b.m.x.toNat-i)=(a.m.x+b.m.x-(i:Int)).toNat by omega,show a.m.y.toNat+(b.m.y.toNat-k)=(a.m.y+b.m.y-(k:Int)).toNat by omega,show a.m.d.toNat-i+b.m.d.toNat=(a.m.d+b.m.d-(i:Int)).toNat by omega,show a.m.e.toNat-k+b.m.e.toNat=(a.m.e+b.m.e-(k:Int)).toNat by omega]
theorem zP (g:sS) {a b:T} {m:M} (h:pY a b m):Rp g (cM a b)=Lq.sc (zz a.c*zz b.c) (Lq.mul (mo g a.m) (mo g b.m)):=by
 obtain⟨ax0,ax1,ay0,ay1,ad0,ad1,ae0,ae1⟩:=M.ok_iff.1 h.ok1;obtain⟨bx0,bx1,by0,by1,bd0,bd1,be0,be1⟩:=M.ok_iff.1 h.ok2;rw[XP g a b h.ok1 h.ok2,iL];refine Lq.ext fun u p q=>?_;show kK (fun m=>(mo g m).f u p q) (eX (eR a b (fR a b+1)) [])=_
 rw[qR _ _ (oO h) eT,AL,BP];unfold kK eR lW;rw[BM];have z:∀x:Fq,0+x=x:=by intro x;grind
 rw[z];refine dX (fun i hi=>?_);rw[List.mem_range]at hi;rw[tW,iL,BP];refine dX (fun k hk=>?_);rw[List.mem_range]at hk;have hx:fR a b=min a.m.d.toNat b.m.x.toNat:=by unfold fR;omega
 have hy:gO a b=min a.m.e.toNat b.m.y.toNat:=by unfold gO;omega
 show zz (lM a b i k).c*_=zz a.c*zz b.c*(nf _*nf _*_);have hc:zz (lM a b i k).c=zz a.c*zz b.c*nf (wN a.m.d.toNat b.m.x.toNat i)*nf (wN a.m.e.toNat b.m.y.toNat k):=by show zz (a.c*b.c%101*wy a.m.d b.m.x i%101*wy a.m.e b.m.y k%101)=_;rw[jU,mD,jU,mD,jU,mD,SO ad0 ad1 bx0 bx1 (by omega) (by omega),SO ae0 ae1 by0 by1 (by omega) (by omega)]
 rw[hc]
 grind
def Rn (g:sS) (f:Nat→T) (n:Nat):Lq:=Lq.sumN (fun i=>Lq.sc (zz (f i).c) (mo g (f i).m)) n
theorem uY (g:sS) (L:List T):Rp g L=Rn g (lf L) L.length:=by
 refine Lq.ext fun u p q=>?_;unfold Rn;rw[BP];show su L _=_
 have e:L=(List.range L.length).map (lf L):=by refine List.ext_getElem (by simp) (fun i h1 h2=>?_);rw[List.getElem_map,List.getElem_range,iA h1]
 have key:∀(f:T→Fq),su L f=su (List.range L.length) (fun i=>f (lf L i)):=fun f=>by have:=tW (lf L) f (List.range L.length);rw[←e]at this;exact this
 rw[key];rfl
theorem JF (g:sS) {K:List T} {a:T} {f:Nat→T} {lb:Nat} (hK:aK K) (ha:a.m.ok=true∧0≤a.c∧a.c≤100) (hg:mO f lb):∀k K',k≤lb→eY K a f k=some K'→Rp g K'=Lq.sum (Rp g K) (Lq.mul (Lq.sc (zz a.c) (mo g a.m)) (Rn g f k))
 |0,K',_,h=>by cases h;unfold Rn;rw[Lq.sumN,Lq.mul_nil,Lq.sum_nil]
 |k+1,K',hk,h=>by
  rw[eY]at h;cases hr:eY K a f k with
  |none=>rw[hr]at h;cases h
  |some K1=>
   rw[hr]at h;change fI K1 a (f k)=some K' at h;have h1:=JF g hK ha hg k K1 (by omega) hr
   have hf1:=jI hK ha hg k K1 (by omega) hr;unfold fI at h;split at h
   ·rename_i hok;cases h;have h2:=hg k (by omega)
    have tw:pY a (f k) (a.m.sum (f k).m):=⟨ha.1,h2.1,hok.1,rfl,rfl,rfl,rfl,ha.2,h2.2⟩
    rw[qH g hf1 (fG tw).1,h1,zP g tw];unfold Rn;rw[Lq.sumN,Lq.mul_sum,Lq.sum_assoc,Lq.mul_sc,Lq.sc_mul,Lq.sc_mul,Lq.sc_sc,show zz (f k).c*zz a.c=zz a.c*zz (f k).c by grind]
   ·cases h
theorem IR (g:sS) {f f':Nat→T} {la lb:Nat} (hf:mO f la) (hg:mO f' lb):∀i K,i≤la→bY f f' lb i=some K→Rp g K=Lq.mul (Rn g f i) (Rn g f' lb)
 |0,K,_,h=>by cases h;unfold Rn;rw[Lq.sumN,Lq.nil_mul];rfl
 |i+1,K,hi,h=>by
  rw[bY]at h;cases hr:bY f f' lb i with
  |none=>rw[hr]at h;cases h
  |some K1=>
   rw[hr]at h;have h1:=IR g hf hg i K1 (by omega) hr
   rw[JF g (dA hf hg i K1 (by omega) hr) (hf i (by omega)) hg lb K (Nat.le_refl _) h,h1];unfold Rn;rw[Lq.sumN.eq_2,Lq.sum_mul]
theorem qI (g:sS) {A B P:List T} (h:lF A B=(P,true)):Rp g P=Lq.mul (Rp g A) (Rp g B):=by
 unfold lF bJ at h;split at h
 ·rename_i hok;obtain⟨l1,g1⟩:=bV hok.1;obtain⟨l2,g2⟩:=bV hok.2;cases hm:bY (lf A) (lf B) B.length A.length with
  |none=>rw[hm]at h;simp[iR]at h
  |some K=>
   rw[hm]at h;have:K=P:=by simpa[iR]using h
   rw[←this,uY,uY g B];rw[uY];rw[←uY g K];exact IR g g1 g2 _ K (Nat.le_refl _) hm
 ·simp at h
def tX:Lq:=⟨fun u n k=>u (n+1) k,fun _ _=>rfl,fun _ _=>rfl⟩
def tY:Lq:=⟨fun u n k=>u n (k+1),fun _ _=>rfl,fun _ _=>rfl⟩
def sX:Lq:=⟨fun u n k=>nf n*u (n-1) k,fun u v=>by funext n k;simp only[va];grind,fun c u=>by funext n k;simp only[vs];grind⟩
def sY:Lq:=⟨fun u n k=>nf k*u n (k-1),fun u v=>by funext n k;simp only[va];grind,fun c u=>by funext n k;simp only[vs];grind⟩
def BK:sS where
 x:=tX
 y:=tY
 d:=sX
 e:=sY
 wx:=Lq.ext fun u n k=>by
  show nf (n+1)*u (n+1-1) k=nf n*u (n-1+1) k+u n k;rw[tM,nF,show n+1-1=n by omega];cases n with
  |zero=>rw[gT];grind
  |succ n=>rw[show n+1-1+1=n+1 by omega];grind
 wy:=Lq.ext fun u n k=>by
  show nf (k+1)*u n (k+1-1)=nf k*u n (k-1+1)+u n k;rw[tM,nF,show k+1-1=k by omega];cases k with
  |zero=>rw[gT];grind
  |succ k=>rw[show k+1-1+1=k+1 by omega];grind
 xy:=rfl
 xe:=rfl
 dy:=rfl
 de:=Lq.ext fun u n k=>by
  show nf k*(nf n*u (n-1) (k-1))=nf n*(nf k*u (n-1) (k-1))
  grind
theorem QH (u:Vq) (n k:Nat):∀j,(Lq.pow tX j).f u n k=u (n+j) k
 |0=>rfl
 |j+1=>by rw[Lq.pow_succ'];show(Lq.pow tX j).f (tX.f u) n k=_;rw[QH];rfl
theorem QI (u:Vq) (n k:Nat):∀j,(Lq.pow tY j).f u n k=u n (k+j)
 |0=>rfl
 |j+1=>by rw[Lq.pow_succ'];show(Lq.pow tY j).f (tY.f u) n k=_;rw[QI];rfl
theorem QF:∀(j:Nat) (u:Vq) (n k:Nat),(Lq.pow sX j).f u n k=nf (IE n j)*u (n-j) k
 |0,u,n,k=>by show u n k=nf 1*u n k;rw[nF];grind
 |j+1,u,n,k=>by
  rw[Lq.pow_succ'];show(Lq.pow sX j).f (sX.f u) n k=_
  rw[QF j];show nf (IE n j)*(nf (n-j)*u (n-j-1) k)=nf (IE n j*(n-j))*u (n-(j+1)) k
  rw[FT,show n-j-1=n-(j+1) by omega];grind
theorem QG:∀(j:Nat) (u:Vq) (n k:Nat),(Lq.pow sY j).f u n k=nf (IE k j)*u n (k-j)
 |0,u,n,k=>by show u n k=nf 1*u n k;rw[nF];grind
 |j+1,u,n,k=>by
  rw[Lq.pow_succ'];show(Lq.pow sY j).f (sY.f u) n k=_
  rw[QG j];show nf (IE k j)*(nf (k-j)*u n (k-j-1))=nf (IE k j*(k-j))*u n (k-(j+1))
  rw[FT,show k-j-1=k-(j+1) by omega];grind
theorem PG (m:M) (u:Vq) (n k:Nat):(mo BK m).f u n k=nf (IE n m.d.toNat)*nf (IE k m.e.toNat)*u (n-m.d.toNat+m.x.toNat) (k-m.e.toNat+m.y.toNat):=by
 show(Lq.pow sY m.e.toNat).f ((Lq.pow sX m.d.toNat).f ((Lq.pow tY m.y.toNat).f ((Lq.pow tX m.x.toNat).f u))) n k=_;rw[QG,QF,QI,QH]
 grind
theorem sN {P:List T} (hP:aK P) {t0:T} (h0:t0∈P) {f:T→Fq} (hf:∀t∈P,t.m≠t0.m→f t=0):su P f=f t0:=by
 induction P with
 |nil=>cases h0
 |cons t r ih=>
  rw[su];have hp:=(List.pairwise_cons.1 hP.1).1
  rcases List.mem_cons.1 h0 with rfl|h1
  ·rw[nT f r (fun s hs=>hf s (List.mem_cons_of_mem _ hs) (fun e=>by have:=hp s hs;rw[e]at this;omega))]
   grind
  ·rw[ih hP.tail h1 (fun s hs=>hf s (List.mem_cons_of_mem _ hs)),hf t (List.mem_cons_self ..) (fun e=>by have:=hp t0 h1;rw[e]at this;omega)]
   grind
theorem zZ:∀a b:Fq,a*b=0→a=0∨b=0:=by decide+kernel
theorem WJ:∀D:Fin 16,nf (IE D.val D.val)≠0:=by decide+kernel
theorem DE {α:Type} (f:α→Nat):∀L:List α,L≠[]→∃t∈L,∀s∈L,f t≤f s
 |[],h=>absurd rfl h
 |[t],_=>⟨t,List.mem_singleton.2 rfl,fun s hs=>by rw[List.mem_singleton.1 hs];exact Nat.le_refl _⟩
 |t::s::r,_=>by
  obtain⟨m,hm,hl⟩:=DE f (s::r) (by simp);by_cases h:f t≤f m
  ·exact⟨t,List.mem_cons_self ..,fun x hx=>by
    rcases List.mem_cons.1 hx with rfl|hx
    ·exact Nat.le_refl _
    ·exact jW h (hl x hx)⟩
  ·exact⟨m,List.mem_cons_of_mem _ hm,fun x hx=>by
    rcases List.mem_cons.1 hx with rfl|hx
    ·omega
    ·exact hl x hx⟩
theorem KT {P:List T} (hP:aK P) (hne:P≠[]):∃t0∈P,(Rp BK P).f (fun n k=>if n=t0.m.x.toNat∧k=t0.m.y.toNat then 1 else 0) t0.m.d.toNat t0.m.e.toNat≠0:=by
 obtain⟨t0,h0,hmin⟩:=DE (fun t:T=>t.m.d.toNat+t.m.e.toNat) P hne;refine⟨t0,h0,?_⟩;have r0:=hP.2 t0 h0
 obtain⟨x0,x1,y0,y1,d0,d1,e0,e1⟩:=M.ok_iff.1 r0.1;show su P (fun t=>zz t.c*(mo BK t.m).f _ t0.m.d.toNat t0.m.e.toNat)≠0
 rw[sN hP h0 (fun t ht hm=>?_)]
 ·rw[PG];have hz:(if t0.m.d.toNat-t0.m.d.toNat+t0.m.x.toNat=t0.m.x.toNat∧t0.m.e.toNat-t0.m.e.toNat+t0.m.y.toNat=t0.m.y.toNat then(1:Fq)else 0)=1:=if_pos ⟨by omega,by omega⟩
  simp only[hz];intro h;rcases zZ _ _ h with h|h
  ·exact zL r0.2.1 r0.2.2 h
  ·rcases zZ _ _ h with h|h
   ·rcases zZ _ _ h with h|h
    ·exact WJ ⟨t0.m.d.toNat,by omega⟩ h
    ·exact WJ ⟨t0.m.e.toNat,by omega⟩ h
   ·exact absurd h (by decide)
 ·rw[PG];have r1:=hP.2 t ht
  obtain⟨u0,u1,v0,v1,f0,f1,g0,g1⟩:=M.ok_iff.1 r1.1;have hm2:t0.m.d.toNat+t0.m.e.toNat≤t.m.d.toNat+t.m.e.toNat:=hmin t ht
  have zl:∀x:Fq,0*x=0:=by intro x;grind
  have zr:∀x:Fq,x*0=0:=by intro x;grind
  by_cases hd:t0.m.d.toNat<t.m.d.toNat
  ·rw[rT _ _ hd,gT,zl,zl,zr]
  ·by_cases he:t0.m.e.toNat<t.m.e.toNat
   ·rw[rT _ _ he,gT,zr,zl,zr]
   ·rw[if_neg,zr,zr];rintro⟨hx,hy⟩;refine hm ?_;have a1:t.m.x=t0.m.x:=by omega
    have a2:t.m.y=t0.m.y:=by omega
    have a3:t.m.d=t0.m.d:=by omega
    have a4:t.m.e=t0.m.e:=by omega
    revert a1 a2 a3 a4
    cases t.m;cases t0.m;intro a1 a2 a3 a4;simp only at a1 a2 a3 a4;rw[a1,a2,a3,a4]
theorem tN {P:List T} (hP:aK P) (h:Rp BK P=Lq.nil):P=[]:=by
 by_cases hne:P=[]
 ·exact hne
 ·obtain⟨t0,_,h1⟩:=KT hP hne;rw[h]at h1;exact absurd rfl h1
theorem CQ {P Q:List T} (hP:aK P) (hQ:aK Q) (h:Rp BK P=Rp BK Q):P=Q:=by
 refine(uO hP hQ).1 (tN (cJ hP hQ).1 ?_);rw[oI BK hP hQ,h];refine Lq.ext fun u n k=>?_;show _+zz 100*_=(0:Fq)
 have:zz 100=100:=rfl;rw[this]
 grind
theorem xW {A B P:List T} (h:lF A B=(P,true)):cT P=true:=by
 rcases xV A B with h1|⟨Q,h1,o⟩
 ·rw[h1]at h;simp at h
 ·rw[h1]at h;simp only[Prod.mk.injEq,and_true]at h;rw[←h];exact o
theorem SG (A B:List T):lF A B=([],false)∨∃P,lF A B=(P,true):=(xV A B).imp id (fun⟨P,h,_⟩=>⟨P,h⟩)
theorem mN {A B P:List T} (h:lF A B=(P,true)):aK P:=(aE (xW h)).2
theorem BZ {A B P:List T} (h:lF A B=(P,true)):cT A=true∧cT B=true:=by
 unfold lF bJ at h;split at h
 ·rename_i hh;exact hh
 ·simp at h
def BD (c:Int) (t:T):T:=⟨c*t.c%101,t.m⟩
theorem SX {c:Int} (c1:1≤c) (c2:c≤100) {K X:List T} (hK:aK K) (hX:aK X):cF (kE c K) (kE c X)=kE c (cF K X):=by
 have f1:=gG c1 c2 hK;have f2:=gG c1 c2 hX
 refine CQ (cV f1 f2).1 (gG c1 c2 (cV hK hX).1) ?_;rw[qH _ f1 f2,CD,CD,CD,qH _ hK hX,Lq.sc_sum]
theorem UZ {c:Int} (c1:1≤c) (c2:c≤100) {a b:T} {m:M} (h:pY a b m):pY (BD c a) b m∧cM (BD c a) b=kE c (cM a b):=by
 have h2:pY (BD c a) b m:=⟨h.ok1,h.ok2,h.ok3,h.gx,h.gy,h.gd,h.ge,⟨by show 0≤c*a.c%101;omega,by show c*a.c%101≤100;omega⟩,h.c2⟩
 refine⟨h2,CQ (fG h2).1 (gG c1 c2 (fG h).1) ?_⟩;rw[zP _ h2,CD,zP _ h,Lq.sc_sc];congr 1;show zz (c*a.c%101)*zz b.c=_
 rw[jU,mD];grind
theorem JG {c:Int} (c1:1≤c) (c2:c≤100) {K:List T} {a:T} {f:Nat→T} {lb:Nat} (hK:aK K) (ha:a.m.ok=true∧0≤a.c∧a.c≤100) (hg:mO f lb):∀k,k≤lb→eY (kE c K) (BD c a) f k=(eY K a f k).map (kE c)
 |0,_=>rfl
 |k+1,hk=>by
  rw[eY,eY,JG c1 c2 hK ha hg k (by omega)];cases hr:eY K a f k with
  |none=>rfl
  |some K1=>
   show fI (kE c K1) (BD c a) (f k)=(fI K1 a (f k)).map (kE c);have hf1:=jI hK ha hg k K1 (by omega) hr
   have h2:=hg k (by omega);unfold fI;show(if(a.m.sum (f k).m).ok=true∧(cF (kE c K1) (cM (BD c a) (f k))).length≤400 then some (cF (kE c K1) (cM (BD c a) (f k)))else none)=_
   by_cases hok:(a.m.sum (f k).m).ok=true
   ·have tw:pY a (f k) (a.m.sum (f k).m):=⟨ha.1,h2.1,hok,rfl,rfl,rfl,rfl,ha.2,h2.2⟩
    rw[(UZ c1 c2 tw).2,SX c1 c2 hf1 (fG tw).1,gA];by_cases hl:(cF K1 (cM a (f k))).length≤400
    ·rw[if_pos ⟨hok,hl⟩,if_pos ⟨hok,hl⟩];rfl
    ·rw[if_neg (fun h=>hl h.2),if_neg (fun h=>hl h.2)];rfl
   ·rw[if_neg (fun h=>hok h.1),if_neg (fun h=>hok h.1)];rfl
theorem AO {c:Int} (c1:1≤c) (c2:c≤100) {f f' f2:Nat→T} {la lb:Nat} (hf:mO f la) (hg:mO f' lb) (he:∀i,i<la→f2 i=BD c (f i)):∀i,i≤la→bY f2 f' lb i=(bY f f' lb i).map (kE c)
 |0,_=>by show some []=some (kE c []);rw[show kE c []=[]from by rw[nS];rfl]
 |i+1,hi=>by
  rw[bY,bY,AO c1 c2 hf hg he i (by omega)];cases hr:bY f f' lb i with
  |none=>rfl
  |some K1=>
   show eY (kE c K1) (f2 i) f' lb=(eY K1 (f i) f' lb).map (kE c);rw[he i (by omega)];exact JG c1 c2 (dA hf hg i K1 (by omega) hr) (hf i (by omega)) hg lb (Nat.le_refl _)
theorem xL (A B:Lq) (u:Vq) (n k:Nat):(Lq.sum A B).f u n k=A.f u n k+B.f u n k:=rfl
theorem GH (c:Fq) (A:Lq) (u:Vq) (n k:Nat):(Lq.sc c A).f u n k=c*A.f u n k:=rfl
def S8 (u:World) (n:Nat) (x0 y0 z0 u0 x1 y1 z1 u1:Int):Prop:=u.cell? ⟨n,0,none⟩=some (.int .i64 x0)∧u.cell? ⟨n,1,none⟩=some (.int .i64 y0)∧u.cell? ⟨n,2,none⟩=some (.int .i64 z0)∧u.cell? ⟨n,3,none⟩=some (.int .i64 u0)∧u.cell? ⟨n+1,0,none⟩=some (.int .i64 x1)∧u.cell? ⟨n+1,1,none⟩=some (.int .i64 y1)∧u.cell? ⟨n+1,2,none⟩=some (.int .i64 z1)∧u.cell? ⟨n+1,3,none⟩=some (.int .i64 u1)
theorem S8.mk {u:World} {n:Nat} {x0 y0 z0 u0 x1 y1 z1 u1:Int} (ha:M4 u n x0 y0 z0 u0) (hb:M4 u (n+1) x1 y1 z1 u1):S8 u n x0 y0 z0 u0 x1 y1 z1 u1:=
 ⟨ha.1,ha.2.1,ha.2.2.1,ha.2.2.2,hb.1,hb.2.1,hb.2.2.1,hb.2.2.2⟩
theorem S8.a {u:World} {n:Nat} {x0 y0 z0 u0 x1 y1 z1 u1:Int} (h:S8 u n x0 y0 z0 u0 x1 y1 z1 u1):M4 u n x0 y0 z0 u0:=⟨h.1,h.2.1,h.2.2.1,h.2.2.2.1⟩
theorem S8.b {u:World} {n:Nat} {x0 y0 z0 u0 x1 y1 z1 u1:Int} (h:S8 u n x0 y0 z0 u0 x1 y1 z1 u1):M4 u (n+1) x1 y1 z1 u1:=⟨h.2.2.2.2.1,h.2.2.2.2.2.1,h.2.2.2.2.2.2.1,h.2.2.2.2.2.2.2⟩
theorem VJ {u:World} {n:Nat} {x0 y0 z0 u0 x1 y1 z1 u1:Int} (h:S8 u n x0 y0 z0 u0 x1 y1 z1 u1):S8 u.drew n x0 y0 z0 u0 x1 y1 z1 u1:=.mk h.a.drew' h.b.drew'
theorem PC {u:World} {B b:Nat} {v0 v1 v2 v3:Value} {x y d e:Int} (m:M4 u b x y d e) (h:b≠B):M4 ((((u.setCell ⟨B,0,none⟩ v0).setCell ⟨B,1,none⟩ v1).setCell ⟨B,2,none⟩ v2).setCell ⟨B,3,none⟩ v3) b x y d e:=
 ⟨(TR h).trans m.1,(TR h).trans m.2.1,(TR h).trans m.2.2.1,(TR h).trans m.2.2.2⟩
theorem YA {u:World} {n B:Nat} {v0 v1 v2 v3:Value} {x0 y0 z0 u0 x1 y1 z1 u1:Int} (h:S8 u n x0 y0 z0 u0 x1 y1 z1 u1) (hB:n+1<B):S8 ((((u.setCell ⟨B,0,none⟩ v0).setCell ⟨B,1,none⟩ v1).setCell ⟨B,2,none⟩ v2).setCell ⟨B,3,none⟩ v3) n x0 y0 z0 u0 x1 y1 z1 u1:=
 .mk (PC h.a (by omega)) (PC h.b (by omega))
theorem PI (x y d e x' y' d' e':Int) (w:World):Calls Tryz.prog 169 #[.agg #[.int .i64 x,.int .i64 y,.int .i64 d,.int .i64 e],.agg #[.int .i64 x',.int .i64 y',.int .i64 d',.int .i64 e']] w fun r w'=>r= .returned (.agg #[.int .i64 (M.both ⟨x,y,d,e⟩ ⟨x',y',d',e'⟩).x,.int .i64 (M.both ⟨x,y,d,e⟩ ⟨x',y',d',e'⟩).y,.int .i64 (M.both ⟨x,y,d,e⟩ ⟨x',y',d',e'⟩).d,.int .i64 (M.both ⟨x,y,d,e⟩ ⟨x',y',d',e'⟩).e])∧Below w.heap.size w w':=by
 cases ha:M.ok ⟨x,y,d,e⟩
 ·have r1:M.both ⟨x,y,d,e⟩ ⟨x',y',d',e'⟩=M.zero:=by simp[M.both,ha]
  rw[r1];simp only[M.zero];clear r1;go_enter Tryz.func169,Tryz.ntmps169;go_wp2_with fail;refine(bB ha _).mono ?_;rintro r w1 ⟨rfl,hb1⟩;obtain⟨hc1,hf1⟩:=aO hb1;have hz1:w.heap.size+1+1<w1.heap.size:=by have:=hb1.size;simp at this;omega
  go_wp2;refine cB (v:=.agg #[.int .i64 0,.int .i64 0,.int .i64 0,.int .i64 0]) (by simp[results,Tryz.results169,go_sem, *]) rfl ⟨rfl,?_⟩;exact dD (aB (aR w _ _ _) hb1) (by omega) _ _ _ _
 ·cases hb:M.ok ⟨x',y',d',e'⟩
  ·have r1:M.both ⟨x,y,d,e⟩ ⟨x',y',d',e'⟩=M.zero:=by simp[M.both,hb]
   rw[r1];simp only[M.zero];clear r1;go_enter Tryz.func169,Tryz.ntmps169;go_wp2_with fail;refine(bB ha _).mono ?_;rintro r w1 ⟨rfl,hb1⟩;obtain⟨hc1,hf1⟩:=aO hb1;have hz1:w.heap.size+1+1<w1.heap.size:=by have:=hb1.size;simp at this;omega
   go_wp2_with fail;refine(bB hb _).mono ?_;rintro r w2 ⟨rfl,hb2⟩;obtain⟨hc2,hf2⟩:=aO hb2;have hz2:w.heap.size+1+1<w2.heap.size:=by have:=hb2.size;omega
   go_wp2;refine cB (v:=.agg #[.int .i64 0,.int .i64 0,.int .i64 0,.int .i64 0]) (by simp[results,Tryz.results169,go_sem, *]) rfl ⟨rfl,?_⟩;exact dD (aB (aB (aR w _ _ _) hb1) hb2) (by omega) _ _ _ _
  ·have r1:M.both ⟨x,y,d,e⟩ ⟨x',y',d',e'⟩=⟨mx x x',mx y y',mx d d',mx e e'⟩:=by simp[M.both,ha,hb]
   rw[r1];clear r1;go_enter Tryz.func169,Tryz.ntmps169;go_wp2_with fail;refine(bB ha _).mono ?_;rintro r w1 ⟨rfl,hb1⟩;obtain⟨hc1,hf1⟩:=aO hb1;have hz1:w.heap.size+1+1<w1.heap.size:=by have:=hb1.size;simp at this;omega
   have hz0:w.heap.size+1<w1.heap.size:=by omega
   have hzz:w.heap.size<w1.heap.size:=by omega
   go_wp2_with fail;refine(bB hb _).mono ?_;rintro r w2 ⟨rfl,hb2⟩;obtain⟨hc2,hf2⟩:=aO hb2;have hz2:w.heap.size+1+1<w2.heap.size:=by have:=hb2.size;omega
   have q0:w2.cell? ⟨w.heap.size,0,none⟩=some (.int .i64 x):=by go_simp
   have q1:w2.cell? ⟨w.heap.size,1,none⟩=some (.int .i64 y):=by go_simp
   have q2:w2.cell? ⟨w.heap.size,2,none⟩=some (.int .i64 d):=by go_simp
   have q3:w2.cell? ⟨w.heap.size,3,none⟩=some (.int .i64 e):=by go_simp
   have p0:w2.cell? ⟨w.heap.size+1,0,none⟩=some (.int .i64 x'):=by go_simp
   have p1:w2.cell? ⟨w.heap.size+1,1,none⟩=some (.int .i64 y'):=by go_simp
   have p2:w2.cell? ⟨w.heap.size+1,2,none⟩=some (.int .i64 d'):=by go_simp
   have p3:w2.cell? ⟨w.heap.size+1,3,none⟩=some (.int .i64 e'):=by go_simp
   have t0:w2.cell? ⟨w.heap.size+1+1,0,none⟩=some (.int .i64 0):=by go_simp
   have t1:w2.cell? ⟨w.heap.size+1+1,1,none⟩=some (.int .i64 0):=by go_simp
   have t2:w2.cell? ⟨w.heap.size+1+1,2,none⟩=some (.int .i64 0):=by go_simp
   have t3:w2.cell? ⟨w.heap.size+1+1,3,none⟩=some (.int .i64 0):=by go_simp
   have z0:∀i,w2.frozen? ⟨w.heap.size+1+1,i,none⟩=false:=fun i=>by go_simp
   have HB:=aA (aB (aB (aR w _ _ _) hb1) hb2);clear hc1 hf1 hc2 hf2 hb1 hb2;go_wp2_with fail;have hS0:S8 w2 w.heap.size x y d e x' y' d' e':=⟨q0,q1,q2,q3,p0,p1,p2,p3⟩
   go_region_held3 (fun u=>u.cell? ⟨w.heap.size,0,none⟩=some (.int .i64 x)∧u.cell? ⟨w.heap.size,1,none⟩=some (.int .i64 y)∧u.cell? ⟨w.heap.size,2,none⟩=some (.int .i64 d)∧u.cell? ⟨w.heap.size,3,none⟩=some (.int .i64 e)∧u.cell? ⟨w.heap.size+1,0,none⟩=some (.int .i64 x')∧u.cell? ⟨w.heap.size+1,1,none⟩=some (.int .i64 y')∧u.cell? ⟨w.heap.size+1,2,none⟩=some (.int .i64 d')∧u.cell? ⟨w.heap.size+1,3,none⟩=some (.int .i64 e')) (first|exact VJ hS0|exact YA (by assumption) (by omega)) (first|(go_at_call 180;refine(Bc _ _ _).mono ?_;rintro r w7 ⟨rfl,hw7⟩;obtain rfl:=hw7.symm;clear hw7))
   go_wp2;refine cB (v:=.agg #[.int .i64 (mx x x'),.int .i64 (mx y y'),.int .i64 (mx d d'),.int .i64 (mx e e')]) (by simp[results,Tryz.results169,go_sem, *]) rfl ⟨rfl,?_⟩;exact dD HB.out.drew (by omega) _ _ _ _
theorem PH (x y d e x' y' d' e':Int) (w:World):Calls Tryz.prog 136 #[.agg #[.int .i64 x,.int .i64 y,.int .i64 d,.int .i64 e],.agg #[.int .i64 x',.int .i64 y',.int .i64 d',.int .i64 e']] w fun r w'=>r= .returned (.agg #[.int .i64 (M.both ⟨x,y,d,e⟩ ⟨x',y',d',e'⟩).x,.int .i64 (M.both ⟨x,y,d,e⟩ ⟨x',y',d',e'⟩).y,.int .i64 (M.both ⟨x,y,d,e⟩ ⟨x',y',d',e'⟩).d,.int .i64 (M.both ⟨x,y,d,e⟩ ⟨x',y',d',e'⟩).e])∧Below w.heap.size w w':=by
 cases ha:M.ok ⟨x,y,d,e⟩
 ·have r1:M.both ⟨x,y,d,e⟩ ⟨x',y',d',e'⟩=M.zero:=by simp[M.both,ha]
  rw[r1];simp only[M.zero];clear r1;go_enter Tryz.func136,Tryz.ntmps136;go_wp2_with fail;refine(cC ha _).mono ?_;rintro r w1 ⟨rfl,hb1⟩;obtain⟨hc1,hf1⟩:=aO hb1;have hz1:w.heap.size+1+1<w1.heap.size:=by have:=hb1.size;simp at this;omega
  go_wp2;refine cB (v:=.agg #[.int .i64 0,.int .i64 0,.int .i64 0,.int .i64 0]) (by simp[results,Tryz.results136,go_sem, *]) rfl ⟨rfl,?_⟩;exact dD (aB (aR w _ _ _) hb1) (by omega) _ _ _ _
 ·cases hb:M.ok ⟨x',y',d',e'⟩
  ·have r1:M.both ⟨x,y,d,e⟩ ⟨x',y',d',e'⟩=M.zero:=by simp[M.both,hb]
   rw[r1];simp only[M.zero];clear r1;go_enter Tryz.func136,Tryz.ntmps136;go_wp2_with fail;refine(cC ha _).mono ?_;rintro r w1 ⟨rfl,hb1⟩;obtain⟨hc1,hf1⟩:=aO hb1;have hz1:w.heap.size+1+1<w1.heap.size:=by have:=hb1.size;simp at this;omega
   go_wp2_with fail;refine(cC hb _).mono ?_;rintro r w2 ⟨rfl,hb2⟩;obtain⟨hc2,hf2⟩:=aO hb2;have hz2:w.heap.size+1+1<w2.heap.size:=by have:=hb2.size;omega
   go_wp2;refine cB (v:=.agg #[.int .i64 0,.int .i64 0,.int .i64 0,.int .i64 0]) (by simp[results,Tryz.results136,go_sem, *]) rfl ⟨rfl,?_⟩;exact dD (aB (aB (aR w _ _ _) hb1) hb2) (by omega) _ _ _ _
  ·have r1:M.both ⟨x,y,d,e⟩ ⟨x',y',d',e'⟩=⟨mx x x',mx y y',mx d d',mx e e'⟩:=by simp[M.both,ha,hb]
   rw[r1];clear r1;go_enter Tryz.func136,Tryz.ntmps136;go_wp2_with fail;refine(cC ha _).mono ?_;rintro r w1 ⟨rfl,hb1⟩;obtain⟨hc1,hf1⟩:=aO hb1;have hz1:w.heap.size+1+1<w1.heap.size:=by have:=hb1.size;simp at this;omega
   have hz0:w.heap.size+1<w1.heap.size:=by omega
   have hzz:w.heap.size<w1.heap.size:=by omega
   go_wp2_with fail;refine(cC hb _).mono ?_;rintro r w2 ⟨rfl,hb2⟩;obtain⟨hc2,hf2⟩:=aO hb2;have hz2:w.heap.size+1+1<w2.heap.size:=by have:=hb2.size;omega
   have q0:w2.cell? ⟨w.heap.size,0,none⟩=some (.int .i64 x):=by go_simp
   have q1:w2.cell? ⟨w.heap.size,1,none⟩=some (.int .i64 y):=by go_simp
   have q2:w2.cell? ⟨w.heap.size,2,none⟩=some (.int .i64 d):=by go_simp
   have q3:w2.cell? ⟨w.heap.size,3,none⟩=some (.int .i64 e):=by go_simp
   have p0:w2.cell? ⟨w.heap.size+1,0,none⟩=some (.int .i64 x'):=by go_simp
   have p1:w2.cell? ⟨w.heap.size+1,1,none⟩=some (.int .i64 y'):=by go_simp
   have p2:w2.cell? ⟨w.heap.size+1,2,none⟩=some (.int .i64 d'):=by go_simp
   have p3:w2.cell? ⟨w.heap.size+1,3,none⟩=some (.int .i64 e'):=by go_simp
   have t0:w2.cell? ⟨w.heap.size+1+1,0,none⟩=some (.int .i64 0):=by go_simp
   have t1:w2.cell? ⟨w.heap.size+1+1,1,none⟩=some (.int .i64 0):=by go_simp
   have t2:w2.cell? ⟨w.heap.size+1+1,2,none⟩=some (.int .i64 0):=by go_simp
   have t3:w2.cell? ⟨w.heap.size+1+1,3,none⟩=some (.int .i64 0):=by go_simp
   have z0:∀i,w2.frozen? ⟨w.heap.size+1+1,i,none⟩=false:=fun i=>by go_simp
   have HB:=aA (aB (aB (aR w _ _ _) hb1) hb2);clear hc1 hf1 hc2 hf2 hb1 hb2;go_wp2
   all_goals
    refine cB (v:=.agg #[.int .i64 (mx x x'),.int .i64 (mx y y'),.int .i64 (mx d d'),.int .i64 (mx e e')]) (by simp[results,Tryz.results136,go_sem, *];(repeat' apply And.intro)<;>(unfold mx;split<;>omega)) rfl ⟨rfl,?_⟩;exact dD HB.out (by omega) _ _ _ _
open Go.RowKit Go.Deep Go.Joins
def fZ (w:World) (a:Option Addr) (n cap:Nat) (ad:Nat→Option Addr) (ln cp:Nat→Nat) (f:Nat→Nat→T):Prop:=
 n≤cap∧n*40≤140737488351232∧(n=0∨∃b off,a=some ⟨b,off,none⟩∧b<w.heap.size∧∀i,i<n→w.cell? ⟨b,off+i,none⟩=some (.slice (ad i) (ln i) (cp i)))∧∀i,i<n→Rd w (ad i) (ln i) (cp i) (f i)
theorem fZ.below {w w':World} {a:Option Addr} {n cap:Nat} {ad:Nat→Option Addr} {ln cp:Nat→Nat} {f:Nat→Nat→T} (h:fZ w a n cap ad ln cp f) (hb:Below w.heap.size w w'):fZ w' a n cap ad ln cp f:=by
 refine⟨h.1,h.2.1,?_,fun i hi=>(h.2.2.2 i hi).below hb⟩;rcases h.2.2.1 with h0|⟨b,off,he,hlt,hc⟩
 ·exact .inl h0
 ·exact .inr ⟨b,off,he,lG hlt hb.size,fun i hi=>(hb.cell (p:=⟨b,off+i,none⟩) hlt).trans (hc i hi)⟩
end Go.Proofs.YtncffcaabnjioaaGreat
