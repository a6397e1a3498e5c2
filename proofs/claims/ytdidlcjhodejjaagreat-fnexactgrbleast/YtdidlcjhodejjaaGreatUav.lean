/-
  Products of operators as linear maps; an operator that does nothing has no terms.
-/
import Derived.Test.YtdidlcjhodejjaaGreatUak
import Derived.Test.YtdidlcjhodejjaaGreatUau
import Derived.Test.YtdidlcjhodejjaaGreatUai
namespace Go.Proofs.YtdidlcjhodejjaaGreat
open Go.RowKit
set_option linter.unusedVariables false
theorem wyN:∀ D X i:Fin 16,i.val≤D.val→i.val≤X.val→zz (wy (D.val:Int) (X.val:Int) (i.val:Int))=nf (wN D.val X.val i.val):=by decide +kernel
theorem zz_wy {d x:Int} {i:Nat} (d0:0≤d) (d1:d≤15) (x0:0≤x) (x1:x≤15) (hi:(i:Int)≤d) (hx:(i:Int)≤x):zz (wy d x i)=nf (wN d.toNat x.toNat i):=by
 have h:=wyN ⟨d.toNat,by omega⟩ ⟨x.toNat,by omega⟩ ⟨i,by omega⟩ (by show i≤d.toNat;omega) (by show i≤x.toNat;omega)
 simp only [Int.toNat_of_nonneg d0,Int.toNat_of_nonneg x0] at h
 exact h
theorem Lq.sumN_mul (B:Lq) (f:Nat→Lq):∀ n,Lq.mul (Lq.sumN f n) B=Lq.sumN (fun i=>Lq.mul (f i) B) n
 | 0=>Lq.nil_mul B
 | n+1=>by rw [Lq.sumN,Lq.sum_mul,Lq.sumN_mul B f n];rfl
theorem Lq.sc_sumN (c:Fq) (f:Nat→Lq):∀ n,Lq.sc c (Lq.sumN f n)=Lq.sumN (fun i=>Lq.sc c (f i)) n
 | 0=>Lq.ext fun u n k=>by show c * (0:Fq)=0;grind
 | n+1=>by rw [Lq.sumN,Lq.sc_sum,Lq.sc_sumN c f n];rfl
theorem shuffle {xa ya x' d' y' e' db eb:Lq} (h1:Lq.Com ya x') (h2:Lq.Com d' y') (h3:Lq.Com e' db):Lq.mul (Lq.mul xa ya) (Lq.mul (Lq.mul x' d') (Lq.mul (Lq.mul y' e') (Lq.mul db eb)))=Lq.mul (Lq.mul (Lq.mul xa x') (Lq.mul ya y')) (Lq.mul (Lq.mul d' db) (Lq.mul e' eb)):=
 calc _=Lq.mul xa (Lq.mul (Lq.mul ya x') (Lq.mul (Lq.mul d' y') (Lq.mul (Lq.mul e' db) eb))):=rfl
  _=Lq.mul xa (Lq.mul (Lq.mul x' ya) (Lq.mul (Lq.mul y' d') (Lq.mul (Lq.mul db e') eb))):=by rw [h1,h2,h3]
  _=_:=rfl
theorem mo_mul (g:Gen) (a b:T) (ha:a.m.ok=true) (hb:b.m.ok=true):Lq.mul (mo g a.m) (mo g b.m)=Lq.sumN (fun i=>Lq.sumN (fun k=>Lq.sc (nf (wN a.m.d.toNat b.m.x.toNat i) * nf (wN a.m.e.toNat b.m.y.toNat k)) (mo g (termN a b i k).m)) (limY a b+1)) (limX a b+1):=by
 obtain ⟨ax0,ax1,ay0,ay1,ad0,ad1,ae0,ae1⟩:=M.ok_iff.1 ha
 obtain ⟨bx0,bx1,by0,by1,bd0,bd1,be0,be1⟩:=M.ok_iff.1 hb
 have e1:Lq.mul (mo g a.m) (mo g b.m)=Lq.mul (Lq.mul (Lq.pow g.x a.m.x.toNat) (Lq.pow g.y a.m.y.toNat)) (Lq.mul (Lq.mul (Lq.pow g.d a.m.d.toNat) (Lq.pow g.x b.m.x.toNat)) (Lq.mul (Lq.mul (Lq.pow g.e a.m.e.toNat) (Lq.pow g.y b.m.y.toNat)) (Lq.mul (Lq.pow g.d b.m.d.toNat) (Lq.pow g.e b.m.e.toNat)))):=by
  have h:=g.xe.symm.pows a.m.e.toNat b.m.x.toNat
  calc _=Lq.mul (Lq.mul (Lq.pow g.x a.m.x.toNat) (Lq.pow g.y a.m.y.toNat)) (Lq.mul (Lq.pow g.d a.m.d.toNat) (Lq.mul (Lq.mul (Lq.pow g.e a.m.e.toNat) (Lq.pow g.x b.m.x.toNat)) (Lq.mul (Lq.pow g.y b.m.y.toNat) (Lq.mul (Lq.pow g.d b.m.d.toNat) (Lq.pow g.e b.m.e.toNat))))):=rfl
   _=Lq.mul (Lq.mul (Lq.pow g.x a.m.x.toNat) (Lq.pow g.y a.m.y.toNat)) (Lq.mul (Lq.pow g.d a.m.d.toNat) (Lq.mul (Lq.mul (Lq.pow g.x b.m.x.toNat) (Lq.pow g.e a.m.e.toNat)) (Lq.mul (Lq.pow g.y b.m.y.toNat) (Lq.mul (Lq.pow g.d b.m.d.toNat) (Lq.pow g.e b.m.e.toNat))))):=by rw [h]
   _=_:=rfl
 have lx:limX a b=min a.m.d.toNat b.m.x.toNat:=by unfold limX;omega
 have ly:limY a b=min a.m.e.toNat b.m.y.toNat:=by unfold limY;omega
 rw [e1,order_cut g.wx,order_cut g.wy,Lq.sumN_mul,Lq.mul_sumN,lx,ly]
 refine Lq.sumN_congr (fun i hi=>?_)
 rw [Lq.sc_mul,Lq.mul_sc,Lq.sumN_mul,Lq.mul_sumN,Lq.mul_sumN,Lq.sc_sumN]
 refine Lq.sumN_congr (fun k hk=>?_)
 rw [Lq.sc_mul,Lq.mul_sc,Lq.mul_sc,Lq.sc_sc,shuffle (g.xy.symm.pows _ _) (g.dy.pows _ _) (g.de.symm.pows _ _),← Lq.pow_add,← Lq.pow_add,← Lq.pow_add,← Lq.pow_add]
 unfold mo termN
 simp only
 rw [show a.m.x.toNat+(b.m.x.toNat - i)=(a.m.x+b.m.x - (i:Int)).toNat by omega,show a.m.y.toNat+(b.m.y.toNat - k)=(a.m.y+b.m.y - (k:Int)).toNat by omega,show a.m.d.toNat - i+b.m.d.toNat=(a.m.d+b.m.d - (i:Int)).toNat by omega,show a.m.e.toNat - k+b.m.e.toNat=(a.m.e+b.m.e - (k:Int)).toNat by omega]
theorem Rp_pair (g:Gen) {a b:T} {m:M} (h:Two a b m):Rp g (pairL a b)=Lq.sc (zz a.c * zz b.c) (Lq.mul (mo g a.m) (mo g b.m)):=by
 obtain ⟨ax0,ax1,ay0,ay1,ad0,ad1,ae0,ae1⟩:=M.ok_iff.1 h.ok1
 obtain ⟨bx0,bx1,by0,by1,bd0,bd1,be0,be1⟩:=M.ok_iff.1 h.ok2
 rw [mo_mul g a b h.ok1 h.ok2,Lq.sc_sumN]
 refine Lq.ext fun u p q=>?_
 show lin (fun m=>(mo g m).f u p q) (putAll (emitN a b (limX a b+1)) [])=_
 rw [lin_putAll _ _ (emit_tok h) falls_nil,lin_nil,sumN_f]
 unfold lin emitN rowN
 rw [su_flat]
 have z:∀ x:Fq,0+x=x:=by intro x;grind
 rw [z]
 refine su_congr (fun i hi=>?_)
 rw [List.mem_range] at hi
 rw [su_map,Lq.sc_sumN,sumN_f]
 refine su_congr (fun k hk=>?_)
 rw [List.mem_range] at hk
 have hx:limX a b=min a.m.d.toNat b.m.x.toNat:=by unfold limX;omega
 have hy:limY a b=min a.m.e.toNat b.m.y.toNat:=by unfold limY;omega
 show zz (termN a b i k).c * _=zz a.c * zz b.c * (nf _ * nf _ * _)
 have hc:zz (termN a b i k).c=zz a.c * zz b.c * nf (wN a.m.d.toNat b.m.x.toNat i) * nf (wN a.m.e.toNat b.m.y.toNat k):=by
  show zz (a.c * b.c % 101 * wy a.m.d b.m.x i % 101 * wy a.m.e b.m.y k % 101)=_
  rw [zz_mod,zz_mul,zz_mod,zz_mul,zz_mod,zz_mul,zz_wy ad0 ad1 bx0 bx1 (by omega) (by omega),zz_wy ae0 ae1 by0 by1 (by omega) (by omega)]
 rw [hc]
 grind
def Rn (g:Gen) (f:Nat→T) (n:Nat):Lq:=Lq.sumN (fun i=>Lq.sc (zz (f i).c) (mo g (f i).m)) n
theorem Rn_list (g:Gen) (L:List T):Rp g L=Rn g (lf L) L.length:=by
 refine Lq.ext fun u p q=>?_
 unfold Rn
 rw [sumN_f]
 show su L _=_
 have e:L=(List.range L.length).map (lf L):=by
  refine List.ext_getElem (by simp) (fun i h1 h2=>?_)
  rw [List.getElem_map,List.getElem_range,lf_eq h1]
 have key:∀ (f:T→Fq),su L f=su (List.range L.length) (fun i=>f (lf L i)):=fun f=>by
  have:=su_map (lf L) f (List.range L.length)
  rw [← e] at this
  exact this
 rw [key]
 rfl
theorem rowM_Rp (g:Gen) {K:List T} {a:T} {f:Nat→T} {lb:Nat} (hK:Falls K) (ha:a.m.ok=true∧0≤a.c∧a.c≤100) (hg:Good f lb):∀ k K',k≤lb→rowM K a f k=some K'→Rp g K'=Lq.sum (Rp g K) (Lq.mul (Lq.sc (zz a.c) (mo g a.m)) (Rn g f k))
 | 0,K',_,h=>by cases h;unfold Rn;rw [Lq.sumN,Lq.mul_nil,Lq.sum_nil]
 | k+1,K',hk,h=>by
  rw [rowM] at h
  cases hr:rowM K a f k with
  | none=>rw [hr] at h;cases h
  | some K1=>
   rw [hr] at h
   change stepM K1 a (f k)=some K' at h
   have h1:=rowM_Rp g hK ha hg k K1 (by omega) hr
   have hf1:=rowM_falls2 hK ha hg k K1 (by omega) hr
   unfold stepM at h
   split at h
   ·rename_i hok
    cases h
    have h2:=hg k (by omega)
    have tw:Two a (f k) (a.m.sum (f k).m):=⟨ha.1,h2.1,hok.1,rfl,rfl,rfl,rfl,ha.2,h2.2⟩
    rw [Rp_add g hf1 (pairL_facts tw).1,h1,Rp_pair g tw]
    unfold Rn
    rw [Lq.sumN,Lq.mul_sum,Lq.sum_assoc,Lq.mul_sc,Lq.sc_mul,Lq.sc_mul,Lq.sc_sc,show zz (f k).c * zz a.c=zz a.c * zz (f k).c by grind]
   ·cases h
theorem mulM_Rp (g:Gen) {f f':Nat→T} {la lb:Nat} (hf:Good f la) (hg:Good f' lb):∀ i K,i≤la→mulM f f' lb i=some K→Rp g K=Lq.mul (Rn g f i) (Rn g f' lb)
 | 0,K,_,h=>by cases h;unfold Rn;rw [Lq.sumN,Lq.nil_mul];rfl
 | i+1,K,hi,h=>by
  rw [mulM] at h
  cases hr:mulM f f' lb i with
  | none=>rw [hr] at h;cases h
  | some K1=>
   rw [hr] at h
   have h1:=mulM_Rp g hf hg i K1 (by omega) hr
   rw [rowM_Rp g (mulM_falls2 hf hg i K1 (by omega) hr) (hf i (by omega)) hg lb K (Nat.le_refl _) h,h1]
   unfold Rn
   rw [Lq.sumN.eq_2,Lq.sum_mul]
theorem Rp_mul (g:Gen) {A B P:List T} (h:wmV A B=(P,true)):Rp g P=Lq.mul (Rp g A) (Rp g B):=by
 unfold wmV wylMul at h
 split at h
 ·rename_i hok
  obtain ⟨l1,g1⟩:=good_ok hok.1
  obtain ⟨l2,g2⟩:=good_ok hok.2
  cases hm:mulM (lf A) (lf B) B.length A.length with
  | none=>rw [hm] at h;simp [mulO] at h
  | some K=>
   rw [hm] at h
   have:K=P:=by simpa [mulO] using h
   rw [← this,Rn_list,Rn_list g B]
   rw [Rn_list]
   rw [← Rn_list g K]
   exact mulM_Rp g g1 g2 _ K (Nat.le_refl _) hm
 ·simp at h
def tX:Lq:=⟨fun u n k=>u (n+1) k,fun _ _=>rfl,fun _ _=>rfl⟩
def tY:Lq:=⟨fun u n k=>u n (k+1),fun _ _=>rfl,fun _ _=>rfl⟩
def sX:Lq:=⟨fun u n k=>nf n * u (n - 1) k,fun u v=>by funext n k;simp only [va];grind,fun c u=>by funext n k;simp only [vs];grind⟩
def sY:Lq:=⟨fun u n k=>nf k * u n (k - 1),fun u v=>by funext n k;simp only [va];grind,fun c u=>by funext n k;simp only [vs];grind⟩
def stdG:Gen where
 x:=tX
 y:=tY
 d:=sX
 e:=sY
 wx:=Lq.ext fun u n k=>by
  show nf (n+1) * u (n+1 - 1) k=nf n * u (n - 1+1) k+u n k
  rw [nf_add,nf_one,show n+1 - 1=n by omega]
  cases n with
  | zero=>rw [nf_zero];grind
  | succ n=>rw [show n+1 - 1+1=n+1 by omega];grind
 wy:=Lq.ext fun u n k=>by
  show nf (k+1) * u n (k+1 - 1)=nf k * u n (k - 1+1)+u n k
  rw [nf_add,nf_one,show k+1 - 1=k by omega]
  cases k with
  | zero=>rw [nf_zero];grind
  | succ k=>rw [show k+1 - 1+1=k+1 by omega];grind
 xy:=rfl
 xe:=rfl
 dy:=rfl
 de:=Lq.ext fun u n k=>by
  show nf k * (nf n * u (n - 1) (k - 1))=nf n * (nf k * u (n - 1) (k - 1))
  grind
theorem pow_tX (u:Vq) (n k:Nat):∀ j,(Lq.pow tX j).f u n k=u (n+j) k
 | 0=>rfl
 | j+1=>by rw [Lq.pow_succ'];show (Lq.pow tX j).f (tX.f u) n k=_;rw [pow_tX];rfl
theorem pow_tY (u:Vq) (n k:Nat):∀ j,(Lq.pow tY j).f u n k=u n (k+j)
 | 0=>rfl
 | j+1=>by rw [Lq.pow_succ'];show (Lq.pow tY j).f (tY.f u) n k=_;rw [pow_tY];rfl
theorem pow_sX:∀ (j:Nat) (u:Vq) (n k:Nat),(Lq.pow sX j).f u n k=nf (faN n j) * u (n - j) k
 | 0,u,n,k=>by show u n k=nf 1 * u n k;rw [nf_one];grind
 | j+1,u,n,k=>by
  rw [Lq.pow_succ']
  show (Lq.pow sX j).f (sX.f u) n k=_
  rw [pow_sX j]
  show nf (faN n j) * (nf (n - j) * u (n - j - 1) k)=nf (faN n j * (n - j)) * u (n - (j+1)) k
  rw [nf_mul,show n - j - 1=n - (j+1) by omega];grind
theorem pow_sY:∀ (j:Nat) (u:Vq) (n k:Nat),(Lq.pow sY j).f u n k=nf (faN k j) * u n (k - j)
 | 0,u,n,k=>by show u n k=nf 1 * u n k;rw [nf_one];grind
 | j+1,u,n,k=>by
  rw [Lq.pow_succ']
  show (Lq.pow sY j).f (sY.f u) n k=_
  rw [pow_sY j]
  show nf (faN k j) * (nf (k - j) * u n (k - j - 1))=nf (faN k j * (k - j)) * u n (k - (j+1))
  rw [nf_mul,show k - j - 1=k - (j+1) by omega];grind
theorem mo_std (m:M) (u:Vq) (n k:Nat):(mo stdG m).f u n k=nf (faN n m.d.toNat) * nf (faN k m.e.toNat) * u (n - m.d.toNat+m.x.toNat) (k - m.e.toNat+m.y.toNat):=by
 show (Lq.pow sY m.e.toNat).f ((Lq.pow sX m.d.toNat).f ((Lq.pow tY m.y.toNat).f ((Lq.pow tX m.x.toNat).f u))) n k=_
 rw [pow_sY,pow_sX,pow_tY,pow_tX]
 grind
theorem su_falls {P:List T} (hP:Falls P) {t0:T} (h0:t0∈P) {f:T→Fq} (hf:∀ t∈P,t.m≠t0.m→f t=0):su P f=f t0:=by
 induction P with
 | nil=>cases h0
 | cons t r ih=>
  rw [su]
  have hp:=(List.pairwise_cons.1 hP.1).1
  rcases List.mem_cons.1 h0 with rfl | h1
  ·rw [su_zero f r (fun s hs=>hf s (List.mem_cons_of_mem _ hs) (fun e=>by have:=hp s hs;rw [e] at this;omega))]
   grind
  ·rw [ih hP.tail h1 (fun s hs=>hf s (List.mem_cons_of_mem _ hs)),hf t (List.mem_cons_self ..) (fun e=>by have:=hp t0 h1;rw [e] at this;omega)]
   grind
theorem fq_mul:∀ a b:Fq,a * b=0→a=0∨b=0:=by decide +kernel
theorem fa_ne:∀ D:Fin 16,nf (faN D.val D.val)≠0:=by decide +kernel
theorem list_min {α:Type} (f:α→Nat):∀ L:List α,L≠[]→∃ t∈L,∀ s∈L,f t≤f s
 | [],h=>absurd rfl h
 | [t],_=>⟨t,List.mem_singleton.2 rfl,fun s hs=>by rw [List.mem_singleton.1 hs];exact Nat.le_refl _⟩
 | t :: s :: r,_=>by
  obtain ⟨m,hm,hl⟩:=list_min f (s :: r) (by simp)
  by_cases h:f t≤f m
  ·exact ⟨t,List.mem_cons_self ..,fun x hx=>by
    rcases List.mem_cons.1 hx with rfl | hx
    ·exact Nat.le_refl _
    ·exact Nat.le_trans h (hl x hx)⟩
  ·exact ⟨m,List.mem_cons_of_mem _ hm,fun x hx=>by
    rcases List.mem_cons.1 hx with rfl | hx
    ·omega
    ·exact hl x hx⟩
theorem does_some {P:List T} (hP:Falls P) (hne:P≠[]):∃ t0∈P,(Rp stdG P).f (fun n k=>if n=t0.m.x.toNat∧k=t0.m.y.toNat then 1 else 0) t0.m.d.toNat t0.m.e.toNat≠0:=by
 obtain ⟨t0,h0,hmin⟩:=list_min (fun t:T=>t.m.d.toNat+t.m.e.toNat) P hne
 refine ⟨t0,h0,?_⟩
 have r0:=hP.2 t0 h0
 obtain ⟨x0,x1,y0,y1,d0,d1,e0,e1⟩:=M.ok_iff.1 r0.1
 show su P (fun t=>zz t.c * (mo stdG t.m).f _ t0.m.d.toNat t0.m.e.toNat)≠0
 rw [su_falls hP h0 (fun t ht hm=>?_)]
 ·rw [mo_std]
  have hz:(if t0.m.d.toNat - t0.m.d.toNat+t0.m.x.toNat=t0.m.x.toNat∧t0.m.e.toNat - t0.m.e.toNat+t0.m.y.toNat=t0.m.y.toNat then (1:Fq) else 0)=1:=if_pos ⟨by omega,by omega⟩
  simp only [hz]
  intro h
  rcases fq_mul _ _ h with h | h
  ·exact zz_ne r0.2.1 r0.2.2 h
  ·rcases fq_mul _ _ h with h | h
   ·rcases fq_mul _ _ h with h | h
    ·exact fa_ne ⟨t0.m.d.toNat,by omega⟩ h
    ·exact fa_ne ⟨t0.m.e.toNat,by omega⟩ h
   ·exact absurd h (by decide)
 ·rw [mo_std]
  have r1:=hP.2 t ht
  obtain ⟨u0,u1,v0,v1,f0,f1,g0,g1⟩:=M.ok_iff.1 r1.1
  have hm2:t0.m.d.toNat+t0.m.e.toNat≤t.m.d.toNat+t.m.e.toNat:=hmin t ht
  have zl:∀ x:Fq,0 * x=0:=by intro x;grind
  have zr:∀ x:Fq,x * 0=0:=by intro x;grind
  by_cases hd:t0.m.d.toNat<t.m.d.toNat
  ·rw [faN_high _ _ hd,nf_zero,zl,zl,zr]
  ·by_cases he:t0.m.e.toNat<t.m.e.toNat
   ·rw [faN_high _ _ he,nf_zero,zr,zl,zr]
   ·rw [if_neg,zr,zr]
    rintro ⟨hx,hy⟩
    refine hm ?_
    have a1:t.m.x=t0.m.x:=by omega
    have a2:t.m.y=t0.m.y:=by omega
    have a3:t.m.d=t0.m.d:=by omega
    have a4:t.m.e=t0.m.e:=by omega
    revert a1 a2 a3 a4
    cases t.m;cases t0.m
    intro a1 a2 a3 a4
    simp only at a1 a2 a3 a4
    rw [a1,a2,a3,a4]
theorem nil_of_Rp {P:List T} (hP:Falls P) (h:Rp stdG P=Lq.nil):P=[]:=by
 by_cases hne:P=[]
 ·exact hne
 ·obtain ⟨t0,_,h1⟩:=does_some hP hne
  rw [h] at h1
  exact absurd rfl h1
theorem eq_of_Rp {P Q:List T} (hP:Falls P) (hQ:Falls Q) (h:Rp stdG P=Rp stdG Q):P=Q:=by
 refine (sub_nil_iff hP hQ).1 (nil_of_Rp (subL_facts hP hQ).1 ?_)
 rw [Rp_sub stdG hP hQ,h]
 refine Lq.ext fun u n k=>?_
 show _+zz 100 * _=(0:Fq)
 have:zz 100=100:=rfl
 rw [this]
 grind
end Go.Proofs.YtdidlcjhodejjaaGreat
namespace Go.Proofs.YtdidlcjhodejjaaGreat
open Go.RowKit
set_option linter.unusedVariables false
theorem wm_ok {A B P:List T} (h:wmV A B=(P,true)):okL P=true:=by
 rcases wmV_case A B with h1 | ⟨Q,h1,o⟩
 ·rw [h1] at h;simp at h
 ·rw [h1] at h
  simp only [Prod.mk.injEq,and_true] at h
  rw [← h];exact o
theorem wmV_if (A B:List T):wmV A B=([],false)∨∃ P,wmV A B=(P,true):=(wmV_case A B).imp id (fun ⟨P,h,_⟩=>⟨P,h⟩)
theorem wm_falls {A B P:List T} (h:wmV A B=(P,true)):Falls P:=(okL_falls (wm_ok h)).2
theorem wm_args {A B P:List T} (h:wmV A B=(P,true)):okL A=true∧okL B=true:=by
 unfold wmV wylMul at h
 split at h
 ·rename_i hh;exact hh
 ·simp at h
def scT1 (c:Int) (t:T):T:=⟨c * t.c % 101,t.m⟩
theorem addL_sc {c:Int} (c1:1≤c) (c2:c≤100) {K X:List T} (hK:Falls K) (hX:Falls X):addL (scL c K) (scL c X)=scL c (addL K X):=by
 have f1:=scL_falls c1 c2 hK
 have f2:=scL_falls c1 c2 hX
 refine eq_of_Rp (addL_facts f1 f2).1 (scL_falls c1 c2 (addL_facts hK hX).1) ?_
 rw [Rp_add _ f1 f2,Rp_sc,Rp_sc,Rp_sc,Rp_add _ hK hX,Lq.sc_sum]
theorem pair_sc {c:Int} (c1:1≤c) (c2:c≤100) {a b:T} {m:M} (h:Two a b m):Two (scT1 c a) b m∧pairL (scT1 c a) b=scL c (pairL a b):=by
 have h2:Two (scT1 c a) b m:=⟨h.ok1,h.ok2,h.ok3,h.gx,h.gy,h.gd,h.ge,⟨by show 0≤c * a.c % 101;omega,by show c * a.c % 101≤100;omega⟩,h.c2⟩
 refine ⟨h2,eq_of_Rp (pairL_facts h2).1 (scL_falls c1 c2 (pairL_facts h).1) ?_⟩
 rw [Rp_pair _ h2,Rp_sc,Rp_pair _ h,Lq.sc_sc]
 congr 1
 show zz (c * a.c % 101) * zz b.c=_
 rw [zz_mod,zz_mul];grind
theorem rowM_sc {c:Int} (c1:1≤c) (c2:c≤100) {K:List T} {a:T} {f:Nat→T} {lb:Nat} (hK:Falls K) (ha:a.m.ok=true∧0≤a.c∧a.c≤100) (hg:Good f lb):∀ k,k≤lb→rowM (scL c K) (scT1 c a) f k=(rowM K a f k).map (scL c)
 | 0,_=>rfl
 | k+1,hk=>by
  rw [rowM,rowM,rowM_sc c1 c2 hK ha hg k (by omega)]
  cases hr:rowM K a f k with
  | none=>rfl
  | some K1=>
   show stepM (scL c K1) (scT1 c a) (f k)=(stepM K1 a (f k)).map (scL c)
   have hf1:=rowM_falls2 hK ha hg k K1 (by omega) hr
   have h2:=hg k (by omega)
   unfold stepM
   show (if (a.m.sum (f k).m).ok=true∧(addL (scL c K1) (pairL (scT1 c a) (f k))).length≤400 then some (addL (scL c K1) (pairL (scT1 c a) (f k))) else none)=_
   by_cases hok:(a.m.sum (f k).m).ok=true
   ·have tw:Two a (f k) (a.m.sum (f k).m):=⟨ha.1,h2.1,hok,rfl,rfl,rfl,rfl,ha.2,h2.2⟩
    rw [(pair_sc c1 c2 tw).2,addL_sc c1 c2 hf1 (pairL_facts tw).1,scL_len]
    by_cases hl:(addL K1 (pairL a (f k))).length≤400
    ·rw [if_pos ⟨hok,hl⟩,if_pos ⟨hok,hl⟩];rfl
    ·rw [if_neg (fun h=>hl h.2),if_neg (fun h=>hl h.2)];rfl
   ·rw [if_neg (fun h=>hok h.1),if_neg (fun h=>hok h.1)];rfl
theorem mulM_sc {c:Int} (c1:1≤c) (c2:c≤100) {f f' f2:Nat→T} {la lb:Nat} (hf:Good f la) (hg:Good f' lb) (he:∀ i,i<la→f2 i=scT1 c (f i)):∀ i,i≤la→mulM f2 f' lb i=(mulM f f' lb i).map (scL c)
 | 0,_=>by show some []=some (scL c []);rw [show scL c []=[] from by rw [scL_map];rfl]
 | i+1,hi=>by
  rw [mulM,mulM,mulM_sc c1 c2 hf hg he i (by omega)]
  cases hr:mulM f f' lb i with
  | none=>rfl
  | some K1=>
   show rowM (scL c K1) (f2 i) f' lb=(rowM K1 (f i) f' lb).map (scL c)
   rw [he i (by omega)]
   exact rowM_sc c1 c2 (mulM_falls2 hf hg i K1 (by omega) hr) (hf i (by omega)) hg lb (Nat.le_refl _)
theorem sum_f (A B:Lq) (u:Vq) (n k:Nat):(Lq.sum A B).f u n k=A.f u n k+B.f u n k:=rfl
theorem sc_f (c:Fq) (A:Lq) (u:Vq) (n k:Nat):(Lq.sc c A).f u n k=c * A.f u n k:=rfl
end Go.Proofs.YtdidlcjhodejjaaGreat
namespace Go.Proofs.YtdidlcjhodejjaaGreat
open Go.RowKit Go.Deep Go.Joins
set_option linter.unusedVariables false
theorem out_low {lo lo':Nat} {w:World} {a:Option Addr} {cap:Nat} {L:List T} (h:Out lo w a cap L) (hl:lo'≤lo):Out lo' w a cap L:=⟨h.1,h.2.1,h.2.2.imp id (fun ⟨g,off,he,hlo⟩=>⟨g,off,he,Nat.le_trans hl hlo⟩)⟩
theorem one_ok {t:T} (h:t.m.ok=true∧1≤t.c∧t.c≤100):okL [t]=true:=
 okL_of (by simp) ⟨List.pairwise_singleton _ _,fun s hs=>by simp at hs;subst hs;exact h⟩
def diffV (u v:T) (f:Nat→T) (n:Nat) (g:Nat→T) (m:Nat):List T × Bool:=
 if (wylMul (lf [u]) 1 f n).2=true∧(wylMul (lf [v]) 1 g m).2=true then polSub (lf (wylMul (lf [u]) 1 f n).1) (wylMul (lf [u]) 1 f n).1.length (lf (wylMul (lf [v]) 1 g m).1) (wylMul (lf [v]) 1 g m).1.length else ([],false)
theorem diffV_len (u v:T) (f:Nat→T) (n:Nat) (g:Nat→T) (m:Nat):(diffV u v f n g m).1.length≤400:=by
 unfold diffV
 split
 ·exact polSub_len _ _ _ _
 ·simp
def sprPoly (o:Int) (f:Nat→T) (n:Nat) (g:Nat→T) (m:Nat):List T × Bool:=
 if sprOk o n f m g=true then diffV (sprU o n f m g) (sprV o n f m g) f n g m else ([],false)
theorem sprPoly_len (o:Int) (f:Nat→T) (n:Nat) (g:Nat→T) (m:Nat):(sprPoly o f n g m).1.length≤400:=by
 unfold sprPoly
 split
 ·exact diffV_len _ _ _ _ _ _
 ·simp
def lessV (L:List T) (t:T) (g:Nat→T) (m:Nat):List T × Bool:=
 match mulM (lf [t]) g m 1 with
 | none=>([],false)
 | some Y=>if (subL L Y).length≤400 then (subL L Y,true) else ([],false)
theorem lessV_len (L:List T) (t:T) (g:Nat→T) (m:Nat):(lessV L t g m).1.length≤400:=by
 unfold lessV
 split
 ·simp
 ·split
  ·assumption
  ·simp
theorem mulM_neg {t:T} (ht:t.m.ok=true∧1≤t.c∧t.c≤100) {g:Nat→T} {m:Nat} (hg:Good g m):mulM (lf [⟨101 - t.c,t.m⟩]) g m 1=(mulM (lf [t]) g m 1).map (scL 100):=by
 refine mulM_sc (by omega) (by omega) (f:=lf [t]) (la:=1) (fun i hi=>?_) hg (fun i hi=>?_) 1 (Nat.le_refl _)
 ·obtain rfl:i=0:=by omega
  exact ⟨ht.1,by show 0≤t.c;omega,ht.2.2⟩
 ·obtain rfl:i=0:=by omega
  show (⟨101 - t.c,t.m⟩:T)=⟨100 * t.c % 101,t.m⟩
  congr 1
  omega
theorem less_diff {u v:T} {f:Nat→T} {n:Nat} {g:Nat→T} {m:Nat} (hu:u.m.ok=true∧1≤u.c∧u.c≤100) (hv:v.m.ok=true∧1≤v.c∧v.c≤100) (hf:polOk n f=true) (hg:polOk m g=true) :
  diffV u v f n g m=match mulM (lf [u]) f n 1 with | none=>([],false) | some X=>lessV X v g m:=by
 have o1:polOk 1 (lf [u])=true:=one_ok hu
 have o2:polOk 1 (lf [v])=true:=one_ok hv
 have e1:wylMul (lf [u]) 1 f n=mulO (mulM (lf [u]) f n 1):=if_pos ⟨o1,hf⟩
 have e2:wylMul (lf [v]) 1 g m=mulO (mulM (lf [v]) g m 1):=if_pos ⟨o2,hg⟩
 unfold diffV
 rw [e1,e2]
 cases hX:mulM (lf [u]) f n 1 with
 | none=>exact if_neg (by simp [mulO])
 | some X=>
  unfold lessV
  cases hY:mulM (lf [v]) g m 1 with
  | none=>exact if_neg (by simp [mulO])
  | some Y=>
   have kX:okL X=true:=okL_of (mulM_len _ X hX) (mulM_falls2 (good_ok o1).2 (good_ok hf).2 _ X (Nat.le_refl _) hX)
   have kY:okL Y=true:=okL_of (mulM_len _ Y hY) (mulM_falls2 (good_ok o2).2 (good_ok hg).2 _ Y (Nat.le_refl _) hY)
   rw [if_pos (by simp [mulO])]
   show subV X Y=if (subL X Y).length≤400 then (subL X Y,true) else ([],false)
   by_cases hl:(subL X Y).length≤400
   ·rw [if_pos hl,subV_ok kX kY hl]
   ·rw [if_neg hl]
    rcases subV_case X Y with h | ⟨_,_,h,_⟩
    ·exact h
    ·exact absurd h hl
set_option maxRecDepth 100000 in
set_option maxHeartbeats 4000000 in
theorem l7LessS (w:World) (pa:Option Addr) (pc:Nat) (L:List T) (t:T) (b:Option Addr) (m cb:Nat) (g:Nat→T) (hp:RL w pa pc L) (hl:L.length≤400) (hL:Falls L) (ht:t.m.ok=true∧1≤t.c∧t.c≤100) (hb:Rd w b m cb g) (hg:polOk m g=true) :
  Calls Tryz.prog 87 #[.slice pa L.length pc,.agg #[.int .i64 t.c,.int .i64 t.m.x,.int .i64 t.m.y,.int .i64 t.m.d,.int .i64 t.m.e],.slice b m cb] w fun r w'=>∃ v,r=.returned (.tuple #[v,.bool (lessV L t g m).2])∧Below w.heap.size w w'∧w'.ownsRow w.heap.size 42 5 v (lessV L t g m).1.length (cellsL (lessV L t g m).1):=by
 obtain ⟨l2,gg⟩:=good_ok hg
 have HP:=Hid.mk' hp
 have HG:=Hid.mk' hb
 have HL:=Hid.mk' hL
 have hmn:=mulM_neg ht gg
 obtain ⟨t0,t1,t2⟩:=ht
 have gs:Good (lf [(⟨101 - t.c,t.m⟩:T)]) 1:=fun i hi=>by
  obtain rfl:i=0:=by omega
  exact ⟨t0,by show 0≤101 - t.c;omega,by show 101 - t.c≤100;omega⟩
 have gt:Good (lf [t]) 1:=fun i hi=>by
  obtain rfl:i=0:=by omega
  exact ⟨t0,by show 0≤t.c;omega,t2⟩
 have hcall:=fun (W:World) (h:RL W (some ⟨w.heap.size+1,0,none⟩) 1 [(⟨101 - t.c,t.m⟩:T)]) (h':Rd W b m cb g)=>mulS4 W (some ⟨w.heap.size+1,0,none⟩) b 1 1 m cb (lf [(⟨101 - t.c,t.m⟩:T)]) g h h' (by omega) l2 gs gg
 rw [hmn] at hcall
 have HGT:=Hid.mk' gt
 have HGG:=Hid.mk' gg
 clear hp hb hL gs gt gg hmn
 unfold lessV
 have hrl:=one_RL (w.alloc (.cells #[.int .i64 t.c,.int .i64 t.m.x,.int .i64 t.m.y,.int .i64 t.m.d,.int .i64 t.m.e] 42)) (⟨101 - t.c,t.m⟩:T)
 rw [World.size_alloc] at hrl
 have HRL:=Hid.mk' hrl
 have HBL:=Hid.mk' (bel_two w (.cells #[.int .i64 t.c,.int .i64 t.m.x,.int .i64 t.m.y,.int .i64 t.m.d,.int .i64 t.m.e] 42) (.cells #[.int .i64 (101 - t.c),.int .i64 t.m.x,.int .i64 t.m.y,.int .i64 t.m.d,.int .i64 t.m.e] 42))
 clear hrl
 cases hY:mulM (lf [t]) g m 1 with
 | none=>
  rw [hY] at hcall
  simp only [Option.map_none,mulO] at hcall
  go_enter Tryz.func87,Tryz.ntmps87
  go_wp2_with fail
  refine (hcall _ HRL.out (HG.out.below HBL.out)).mono ?_
  rintro r w1 ⟨v1,rfl,hb1,ho1⟩
  have HB1:=Hid.mk' (bel_next HBL.out hb1)
  clear hb1 ho1 hcall
  go_wp2
  refine bodyPost_ret (results_tmp2 rfl _ _ _) rfl ?_
  exact ⟨_,rfl,HB1.out.alloc HB1.out.size _,owns_none w1 w.heap.size HB1.out.size⟩
 | some Y=>
  have fY:=mulM_falls2 HGT.out HGG.out 1 Y (Nat.le_refl _) hY
  have lY:=mulM_len 1 Y hY
  have fS:=scL_falls (c:=100) (by omega) (by omega) fY
  have lS:=scL_len 100 Y
  have hsl:=subL_len L Y
  rw [hY] at hcall
  simp only [Option.map_some,mulO] at hcall
  obtain ⟨Z,hZ⟩:∃ Z,scL 100 Y=Z:=⟨_,rfl⟩
  rw [hZ] at hcall fS lS
  have hadd:subL L Y=addL L Z:=by rw [← hZ];rfl
  dsimp only
  rw [hadd] at hsl ⊢
  have lZ:Z.length≤400:=by omega
  have c1:Hid (∀ i,i<L.length→0≤(lf L i).c∧(lf L i).c≤100):=fun i hi=>by have:=(fl_lf HL.out).2 i hi;omega
  have c2:Hid (∀ i,i<Z.length→0≤(lf Z i).c∧(lf Z i).c≤100):=fun i hi=>by have:=(fl_lf fS).2 i hi;omega
  have HAD:Hid (addT (lf L) L.length (lf Z) Z.length 0 0=addL L Z):=rfl
  obtain ⟨R,hR⟩:∃ R,addL L Z=R:=⟨_,rfl⟩
  rw [hR] at hsl HAD ⊢
  have hRl:R.length≤1000:=by omega
  clear hZ hadd hR fS fY lS hsl
  by_cases hle:R.length≤400
  ·have hg4:¬ (400:Int)<(R.length:Int):=by omega
   rw [if_pos hle]
   go_enter Tryz.func87,Tryz.ntmps87
   go_wp2_with fail
   refine (hcall _ HRL.out (HG.out.below HBL.out)).mono ?_
   rintro r w1 ⟨v1,rfl,hb1,ho1⟩
   obtain ⟨a1,k1,rfl,hout⟩:=out_of_owns ho1 (by omega)
   have HB1:=Hid.mk' (bel_next HBL.out hb1)
   have HZ1:=Hid.mk' hout.1
   clear hb1 ho1 hout hcall
   go_wp2_with fail
   refine (l3AddS _ _ _ _ _ _ _ (lf L) (lf Z) (HP.out.below HB1.out) HZ1.out (by omega) c1.out c2.out).mono ?_
   rw [HAD.out]
   rintro r w2 ⟨v2,rfl,hb2,ho2⟩
   have HB2:=Hid.mk' (bel_next HB1.out hb2)
   have HO2:=Hid.mk' (ownsRow_low ho2 HB1.out.size)
   obtain ⟨a2,k2,rfl,hout⟩:=out_of_owns ho2 (by omega)
   clear hb2 ho2 hout
   go_wp2
   refine bodyPost_ret (results_tmp2 rfl _ _ _) rfl ?_
   exact ⟨_,rfl,HB2.out,HO2.out⟩
  ·have hg4:(400:Int)<(R.length:Int):=by omega
   rw [if_neg hle]
   go_enter Tryz.func87,Tryz.ntmps87
   go_wp2_with fail
   refine (hcall _ HRL.out (HG.out.below HBL.out)).mono ?_
   rintro r w1 ⟨v1,rfl,hb1,ho1⟩
   obtain ⟨a1,k1,rfl,hout⟩:=out_of_owns ho1 (by omega)
   have HB1:=Hid.mk' (bel_next HBL.out hb1)
   have HZ1:=Hid.mk' hout.1
   clear hb1 ho1 hout hcall
   go_wp2_with fail
   refine (l3AddS _ _ _ _ _ _ _ (lf L) (lf Z) (HP.out.below HB1.out) HZ1.out (by omega) c1.out c2.out).mono ?_
   rw [HAD.out]
   rintro r w2 ⟨v2,rfl,hb2,ho2⟩
   have HB2:=Hid.mk' (bel_next HB1.out hb2)
   have HO2:=Hid.mk' (ownsRow_low ho2 HB1.out.size)
   obtain ⟨a2,k2,rfl,hout⟩:=out_of_owns ho2 (by omega)
   clear hb2 ho2 hout
   go_wp2
   refine bodyPost_ret (results_tmp2 rfl _ _ _) rfl ?_
   exact ⟨_,rfl,HB2.out.alloc HB2.out.size _,owns_none w2 w.heap.size HB2.out.size⟩
end Go.Proofs.YtdidlcjhodejjaaGreat
namespace Go.Proofs.YtdidlcjhodejjaaGreat
open Go.RowKit Go.Deep Go.Joins
set_option linter.unusedVariables false
theorem lstOk_all {n:Nat} {ln:Nat→Nat} {f:Nat→Nat→T} (h:lstOk n ln f=true):n≤12∧∀ i,i<n→ln i≠0∧polOk (ln i) (f i)=true:=of_decide_eq_true h
end Go.Proofs.YtdidlcjhodejjaaGreat
