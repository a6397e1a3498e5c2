/-
  An operator that is ok falls.
  An operator, so many times, added to a sum.
  What a sum's numbers are behind an operator, so many times.
-/
import Derived.Test.YtoglomfejgpoeaaGreatDoorMak
set_option maxHeartbeats 4000000
set_option maxRecDepth 100000
namespace Go.Proofs.YtoglomfejgpoeaaGreatDoor
open Go.RowKit
set_option linter.unusedVariables false
theorem cD {n:Nat} {f:Nat→T} (h:aN n f=true):Fl f n:=by
 have hp:=h;simp only[aN,decide_eq_true_eq]at hp;have h1:∀i,i<n→(f i).m.ok=true∧1≤(f i).c∧(f i).c≤100:=fun i hi=>by have:=hp.2 i hi;simp only[eW,Bool.and_eq_true,decide_eq_true_eq]at this;exact⟨this.1.2,this.1.1⟩
 refine⟨fun j i hji hi=>?_,h1⟩;induction i with
 |zero=>omega
 |succ i ih=>
  have h2:=hp.2 (i+1) hi;simp only[eW,Bool.and_eq_true,Bool.or_eq_true,decide_eq_true_eq]at h2;have h3:=h2.2.resolve_left (by omega)
  rw[show i+1-1=i by omega]at h3;have h4:=(kC (h1 i (by omega)).1 (h1 (i+1) hi).1).1 h3
  by_cases hji2:j=i
  ·rw[hji2];exact h4
  ·have:=ih (by omega) (by omega);omega
open Go.RowKit Go.Maps
def eL (k:Int) (f:Nat→T) (c:M→Int):Nat→M→Int
 |0=>c
 |i+1=>gV (eL k f c i) (f i).m (k*(f i).c%101)
theorem oE (w:World):w.grownBy w.drew none:=⟨rfl,rfl,rfl,Nat.le_refl _,fun _ _ _=>rfl⟩
theorem xQ {w w':World} {row:Option Nat} (h:w.grownBy w' none):w.grownBy w' row:=⟨h.os,h.tape,h.output,h.size,fun k hk _=>h.block k hk (by simp)⟩
theorem uH (w:World) (b n:Nat) (c:M→Int) (k:Int) (a:Option Addr) (la cap:Nat) (f:Nat→T) (h:eF w b n c) (hr:Rd w a la cap f) (hne:la=0∨∀b' off,a=some ⟨b',off,none⟩→some b'≠some b) (hm:∀i,i<la→(f i).m.ok=true) (hc:∀i,i<la→0≤(f i).c∧(f i).c≤100) (k0:0≤k) (k1:k≤100) (hn:n+la≤1000000) (hb:b<w.heap.size):Calls Tryz.prog 118 #[.map (some b),.int .i64 k,.slice a la cap] w fun e w'=>e= .returned (.tuple #[])∧eF w' b (n+la) (eL k f c la)∧w.grownBy w' (some b):=by
 have HR:=aA hr;have HS:=aA h
 have HM:=aA hm;have HC:=aA hc
 have HNE:=aA hne;have hl:(la:Int)≤1000000:=by omega
 clear h hr hm hc hne;go_enter Tryz.func118,Tryz.ntmps118;go_wp2;go_loopw [10] (fun i wr=>∃j:Nat,j≤la∧i= .int .i64 j∧eF wr b (n+j) (eL k f c j)∧w.grownBy wr (some b)) (fun i _=>la-(intOf i).toNat);case atStart=>exact⟨0,gC _,rfl,HS.out,kQ w _⟩
 case round=>
  obtain⟨j,hj,rfl,hS,hg⟩:=hrel;by_cases hlt:j<la
  ·have hjl:(j:Int)<(la:Int):=by omega
   have hrj:=HR.out.grown hg HNE.out;rcases hrj.2.2 with h0|⟨pb,off,rfl,hblt,hcl⟩
   ·omega
   obtain⟨g0,g1,g2,g3,g4⟩:=hcl j hlt;have hmj:=HM.out j hlt
   obtain⟨c0,c1⟩:=HC.out j hlt;have HSJ:=aA hS
   have HG:=aA hg;clear hcl hrj hS hg;go_wp2_with fail;have HSQ:=aA (HSJ.out.grown (World.grownBy_alloc wr (.cells #[.int .i64 (f j).c,.int .i64 (f j).m.x,.int .i64 (f j).m.y,.int .i64 (f j).m.d,.int .i64 (f j).m.e] 80) none) (by simp))
   have HGQ:=aA (HG.out.trans (World.grownBy_alloc wr (.cells #[.int .i64 (f j).c,.int .i64 (f j).m.x,.int .i64 (f j).m.y,.int .i64 (f j).m.d,.int .i64 (f j).m.e] 80) (some b)));have hq:∀i v,#[Value.int .i64 (f j).c,.int .i64 (f j).m.x,.int .i64 (f j).m.y,.int .i64 (f j).m.d,.int .i64 (f j).m.e][i]? =some v→(wr.alloc (.cells #[.int .i64 (f j).c,.int .i64 (f j).m.x,.int .i64 (f j).m.y,.int .i64 (f j).m.d,.int .i64 (f j).m.e] 80)).cell? ⟨wr.heap.size,i,none⟩=some v:=fun i v hv=>by rw[World.cell?_alloc_at _ _ _ _ rfl];exact hv
   have q0:=hq 0 _ rfl;have q1:=hq 1 _ rfl
   have q2:=hq 2 _ rfl;have q3:=hq 3 _ rfl
   have q4:=hq 4 _ rfl;clear hq g0 g1 g2 g3 g4 HSJ HG;generalize(wr.alloc (.cells #[.int .i64 (f j).c,.int .i64 (f j).m.x,.int .i64 (f j).m.y,.int .i64 (f j).m.d,.int .i64 (f j).m.e] 80))=wq at HSQ HGQ q0 q1 q2 q3 q4⊢;have HADD:=aA (rX b (n+j) (eL k f c j) (k*(f j).c%101) (f j).m wq.drew hmj (HSQ.out.grown (oE wq) (by simp)) (by unfold maxLen;omega) (by omega) (by omega))
   go_region_with (first|(go_at_call 128;refine(gY _ _ _ k0 k1 c0 c1).mono ?_;rintro r w2 ⟨rfl,hw⟩;obtain rfl:=hw.symm;clear hw)|(go_at_call 85;refine HADD.out.mono ?_;rintro r w4 ⟨rfl,hS4,hg4⟩;have HS4:=aA hS4;have HG4:=aA ((HGQ.out.trans (xQ (oE wq))).trans hg4);clear hS4 hg4))
   all_goals
    go_wp2;go_roundw;case rel=>exact⟨j+1,by omega,by go_num,HS4.out,HG4.out⟩
    case measure=>simp[intOf];omega
  ·obtain rfl:j=la:=by omega
   have HSJ:=aA hS;have HG:=aA hg
   clear hS hg;go_wp2
   go_end0
   exact⟨rfl,HSJ.out,HG.out⟩
end Go.Proofs.YtoglomfejgpoeaaGreatDoor
namespace Go.Proofs.YtoglomfejgpoeaaGreatDoor
open Go.RowKit
set_option linter.unusedVariables false
theorem oD {f:Nat→T} {m:M}:∀(u i:Nat),(f (i+u)).m≠m→cB f (u+1) i m=cB f u i m
 |0,i,h=>by show(if kE (f i).m m=true then(f i).c else 0)=0;exact if_neg (fun e=>h (cF.1 e))
 |u+1,i,h=>by
  have:=oD (f:=f) (m:=m) u (i+1) (by rw[show i+1+u=i+(u+1) by omega];exact h);show(if kE (f i).m m=true then(f i).c else cB f (u+1) (i+1) m)=(if kE (f i).m m=true then(f i).c else cB f u (i+1) m)
  rw[this]
theorem qA {f:Nat→T} {m:M}:∀(u i:Nat),(∀j,i≤j→j<i+u→(f j).m≠m)→(f (i+u)).m=m→cB f (u+1) i m=(f (i+u)).c
 |0,i,_,h=>by show(if kE (f i).m m=true then(f i).c else 0)=(f i).c;exact if_pos (cF.2 h)
 |u+1,i,h0,h=>by
  rw[cB,if_neg (fun e=>h0 i (Nat.le_refl _) (by omega) (cF.1 e))];have:=qA (f:=f) (m:=m) u (i+1) (fun j h1 h2=>h0 j (by omega) (by omega)) (by rw[show i+1+u=i+(u+1) by omega];exact h)
  rw[this,show i+1+u=i+(u+1) by omega]
theorem mN {k:Int} {f:Nat→T} {c:M→Int} {n:Nat} (F:Fl f n) (hc:∀m,0≤c m∧c m≤100):∀(i:Nat),i≤n→∀m,eL k f c i m=(c m+k*cB f i 0 m%101)%101
 |0,_,m=>by have:=hc m;simp only[eL,cB,Int.mul_zero];omega
 |i+1,hi,m=>by
  have ih:=mN (k:=k) F hc i (by omega);simp only[eL];by_cases hm:m=(f i).m
  ·subst hm;rw[qR,ih];have h0:cB f i 0 (f i).m=0:=kP i 0 (fun j _ h2 e=>by have:=F.1 j i (by omega) (by omega);rw[e]at this;omega)
   have h1:cB f (i+1) 0 (f i).m=(f i).c:=by have:=qA (f:=f) (m:=(f i).m) i 0 (fun j _ h2 e=>by have:=F.1 j i (by omega) (by omega);rw[e]at this;omega) (by rw[Nat.zero_add]);rw[this,Nat.zero_add]
   rw[h0,h1];have:=hc (f i).m
   simp only[Int.mul_zero];omega
  ·rw[kU hm,ih,oD i 0 (by rw[Nat.zero_add];exact fun e=>hm e.symm)]
theorem wU {c:Int} {f g:Nat→T} {la lb:Nat} (F:Fl f la) (G:Fl g lb) (m:M):eL c g (eL 1 f (fun _=>0) la) lb m=(cB f la 0 m+c*cB g lb 0 m)%101:=by
 have hz:∀m:M,(0:Int)≤(fun _=>0:M→Int) m∧(fun _=>0:M→Int) m≤100:=fun _=>⟨Int.le_refl _,by show(0:Int)≤100;decide⟩
 have h1:=mN (k:=1) F hz la (Nat.le_refl _);have h2:=mN (k:=c) G (c:=eL 1 f (fun _=>0) la) (fun m=>by rw[h1];omega) lb (Nat.le_refl _) m
 rw[h2,h1];simp only[Int.one_mul];omega
open Go.RowKit Go.Maps Go.Sort Go.Shelf
theorem eF.range {w:World} {b n:Nat} {c:M→Int} (h:eF w b n c):∀m,0≤c m∧c m≤100:=by obtain⟨D,_,hc,_⟩:=h;exact hc
theorem rY (w:World):eF (w.alloc (.map #[] 0)) w.heap.size 0 (fun _=>0):=
 ⟨.map [],World.ownsMap_made w _ _ _,fun _=>⟨Int.le_refl _,by show(0:Int)≤100;decide⟩,fun m _=>⟨rfl,by simp[Maps.has]⟩,fun kl h=>by simp[Maps.has]at h⟩
theorem Rd.apart {w:World} {a:Option Addr} {n cap:Nat} {f:Nat→T} (h:Rd w a n cap f) {b:Nat} (hb:w.heap.size≤b):n=0∨∀b' off,a=some ⟨b',off,none⟩→some b'≠some b:=by
 rcases h.2.2 with h0|⟨pb,off,rfl,hlt,_⟩
 ·exact .inl h0
 ·exact .inr (fun b' off' e e'=>by cases e;cases e';omega)
def gB (K:List T):List T×Bool:=if K.length≤400 then(K,true)else([],false)
theorem rZ (w:World) (b n:Nat) (c:M→Int) (h:eF w b n c) (hn:n≤1000000) {K:List T} (hK:aV K) (hKc:∀m,m.ok=true→bY K m=c m):Calls Tryz.prog 80 #[.map (some b)] w fun e w'=>∃v,e= .returned (.tuple #[v,.bool (gB K).2])∧Below w.heap.size w w'∧w'.ownsRow w.heap.size 80 5 v (gB K).1.length (aF (gB K).1):=by
 by_cases h400:K.length≤400
 ·have e:gB K=(K,true):=if_pos h400;rw[e];exact EL BU w b n c h hn hK hKc h400
 ·have e:gB K=([],false):=if_neg h400;rw[e];refine(EK BU w b n c h hn hK hKc h400).mono ?_;rintro r w5 ⟨rfl,hb5⟩;exact⟨_,rfl,hb5,dQ w5 _⟩
theorem AL (n:Int) (w:World):(Instr.makeMap 101 (some (.int .i64 n))).run Tryz.prog w= .ok (.map (some w.heap.size)) (w.alloc (.map #[] 0)):=by have hu:=run_underlying (P:=Tryz.prog) Tryz.underlying101;unfold Instr.makeMap;simp[hu,asInt,go_sem,Sem.run_bind,Result.andThen]
def nT (k:Int) (f:Nat→T) (la:Nat) (g:Nat→T) (lb:Nat) (K:List T):List T×Bool:=if aN la f=true∧aN lb g=true∧K.length≤400 then(K,true)else([],false)
theorem lU (w:World) (a b:Option Addr) (la ca lb cb:Nat) (f g:Nat→T) (k:Int) (k0:0≤k) (k1:k≤100) (ha:Rd w a la ca f) (hb:Rd w b lb cb g) (K:List T) (hK:aN la f=true→aN lb g=true→aV K∧∀m,m.ok=true→bY K m=eL k g (eL 1 f (fun _=>0) la) lb m):Calls Tryz.prog 78 #[.slice a la ca,.int .i64 k,.slice b lb cb] w fun r w'=>∃v,r= .returned (.tuple #[v,.bool (nT k f la g lb K).2])∧Below w.heap.size w w'∧w'.ownsRow w.heap.size 80 5 v (nT k f la g lb K).1.length (aF (nT k f la g lb K).1):=by
 have HA:=aA ha;have HB:=aA hb
 have hla:(la:Int)≤140737488351232:=by have:=ha.2.1;omega
 have hlb:(lb:Int)≤140737488351232:=by have:=hb.2.1;omega
 clear ha hb;cases hpa:aN la f
 ·have e1:nT k f la g lb K=([],false):=by simp[nT,hpa]
  rw[e1];go_enter Tryz.func78,Tryz.ntmps78;go_wp2_with (go_at_call 44;refine(dM _ _ _ _ f HA.out).mono ?_;rw[hpa];rintro r w1 ⟨rfl,hb1⟩;have HB1:=aA hb1;clear hb1);refine bT (results_tmp2 rfl _ _ _) rfl ?_;exact⟨_,rfl,HB1.out,dQ w1 _⟩
 ·cases hpb:aN lb g
  ·have e1:nT k f la g lb K=([],false):=by simp[nT,hpb]
   rw[e1];go_enter Tryz.func78,Tryz.ntmps78
   go_wp2_with (first
    |(go_at_call_of 44 (Value.slice a la ca);refine(dM _ _ _ _ f HA.out).mono ?_;rw[hpa];rintro r w1 ⟨rfl,hb1⟩;have HB1:=aA hb1;clear hb1)
    |(go_at_call_of 44 (Value.slice b lb cb);refine(dM _ _ _ _ g (HB.out.below HB1.out)).mono ?_;rw[hpb];rintro r w2 ⟨rfl,hb2⟩;have HB2:=aA hb2;clear hb2))
   refine bT (results_tmp2 rfl _ _ _) rfl ?_;exact⟨_,rfl,aC HB1.out HB2.out,dQ w2 _⟩
  ·obtain⟨hKf,hKc⟩:=hK hpa hpb;have F:=cD hpa
   have G:=cD hpb;have HF:=aA F
   have HG:=aA G;have l1:la≤400:=by simp only[aN,decide_eq_true_eq]at hpa;exact hpa.1
   have l2:lb≤400:=by simp only[aN,decide_eq_true_eq]at hpb;exact hpb.1
   have hmk:=AL;have e2:nT k f la g lb K=gB K:=by simp[nT,gB,hpa,hpb]
   rw[e2];clear F G e2 hK;go_enter Tryz.func78,Tryz.ntmps78
   go_wp2_with (first
    |(go_at_call_of 44 (Value.slice a la ca);refine(dM _ _ _ _ f HA.out).mono ?_;rw[hpa];rintro r w1 ⟨rfl,hb1⟩;have HB1:=aA hb1;clear hb1)
    |(go_at_call_of 44 (Value.slice b lb cb);refine(dM _ _ _ _ g (HB.out.below HB1.out)).mono ?_;rw[hpb];rintro r w2 ⟨rfl,hb2⟩;have HB2:=aA (aC HB1.out hb2);clear hb2)
    |(go_at_call_of 118 (Value.slice a la ca);refine(uH _ w2.heap.size 0 _ 1 a la ca f (rY w2) ((HA.out.below HB2.out).below (aG w2 _)) ((HA.out.below HB2.out).apart (Nat.le_refl _)) (fun i hi=>(HF.out.2 i hi).1) (fun i hi=>by have:=HF.out.2 i hi;omega) (by omega) (by omega) (by omega) (by simp)).mono ?_;rintro r w3 ⟨rfl,hs3,hg3⟩;have HS3:=aA hs3;have HG3:=aA ((World.grownBy_alloc w2 (.map #[] 0) (some w2.heap.size)).trans hg3);clear hs3 hg3)
    |(go_at_call_of 118 (Value.slice b lb cb);refine(uH _ w2.heap.size (0+la) _ k b lb cb g HS3.out ((HB.out.below HB2.out).grown HG3.out ((HB.out.below HB2.out).apart (Nat.le_refl _))) ((HB.out.below HB2.out).apart (Nat.le_refl _)) (fun i hi=>(HG.out.2 i hi).1) (fun i hi=>by have:=HG.out.2 i hi;omega) k0 k1 (by omega) (by obtain⟨D,ho,_⟩:=HS3.out;exact ho.lt)).mono ?_;rintro r w4 ⟨rfl,hs4,hg4⟩;have HS4:=aA hs4;have HG4:=aA (HG3.out.trans hg4);clear hs4 hg4))
   have hlo:w.heap.size≤w2.heap.size:=HB2.out.size;have hB4:Below w.heap.size w w4:=HB2.out.grown HG4.out hlo (fun k' e=>by cases e;exact hlo)
   refine(rZ _ _ _ _ HS4.out (by omega) hKf hKc).mono ?_;rintro r w5 ⟨v,rfl,hb5,ho5⟩;go_wp2;refine bT (results_tmp2 rfl _ _ _) rfl ?_;exact⟨_,rfl,hB4.trans (hb5.mono hB4.size),dJ ho5 hB4.size⟩
theorem tU {f g:Nat→T} {la lb:Nat} (hpa:aN la f=true) (hpb:aN lb g=true):aV (cT f la g lb 0 0)∧∀m,m.ok=true→bY (cT f la g lb 0 0) m=eL 1 g (eL 1 f (fun _=>0) la) lb m:=by obtain⟨_,h2,h3⟩:=fL (cD hpa) (cD hpb) (la-0+(lb-0)) 0 0 (Nat.le_refl _);refine⟨h2,fun m _=>?_⟩;rw[wU (cD hpa) (cD hpb),Int.one_mul];exact h3 m
theorem mY {f g:Nat→T} (r:Int→Int) (hr:r 0=0) {m:M}:∀(u i:Nat),(∀j,i≤j→j<i+u→(g j).m=(f j).m∧(g j).c=r (f j).c)→cB g u i m=r (cB f u i m)
 |0,_,_=>hr.symm
 |u+1,i,h=>by have h0:=h i (Nat.le_refl _) (by omega);rw[cB,cB,h0.1,h0.2,mY r hr u (i+1) (fun j h1 h2=>h j (by omega) (by omega))];split<;>rfl
theorem AW {g:Nat→T} {lb:Nat} (G:Fl g lb):Fl (jS g lb) lb:=by
 refine⟨fun j i hji hi=>?_,fun i hi=>?_⟩
 ·unfold jS;rw[rH _ _ _ _ hi,rH _ _ _ _ (by omega)];exact G.1 j i hji hi
 ·have h:=G.2 i hi;unfold jS;rw[rH _ _ _ _ hi];refine⟨h.1,?_,?_⟩
  ·show 1≤100*(g i).c%101;omega
  ·show 100*(g i).c%101≤100;omega
theorem tZ {f g:Nat→T} {la lb:Nat} (hpa:aN la f=true) (hpb:aN lb g=true):aV (cT f la (jS g lb) lb 0 0)∧∀m,m.ok=true→bY (cT f la (jS g lb) lb 0 0) m=eL 100 g (eL 1 f (fun _=>0) la) lb m:=by
 obtain⟨_,h2,h3⟩:=fL (cD hpa) (AW (cD hpb)) (la-0+(lb-0)) 0 0 (Nat.le_refl _);refine⟨h2,fun m _=>?_⟩;rw[wU (cD hpa) (cD hpb)]
 have h4:=mY (f:=g) (g:=jS g lb) (fun c=>100*c%101) rfl (m:=m) lb 0 (fun j _ hj=>by
  unfold jS;rw[rH _ _ _ _ (by omega)]
  exact⟨rfl,rfl⟩)
 refine(h3 m).trans ?_;rw[Nat.sub_zero,Nat.sub_zero,h4];omega
theorem nM (w:World) (a b:Option Addr) (la ca lb cb:Nat) (f g:Nat→T) (ha:Rd w a la ca f) (hb:Rd w b lb cb g):Calls Tryz.prog 38 #[.slice a la ca,.slice b lb cb] w fun r w'=>∃a' cap',r= .returned (.tuple #[.slice a' (bF f la g lb).1.length cap',.bool (bF f la g lb).2])∧Below w.heap.size w w'∧mB w.heap.size w' a' cap' (bF f la g lb).1:=by
 have hc:=lU w a b la ca lb cb f g 1 (by omega) (by omega) ha hb (cT f la g lb 0 0) tU;have e:nT 1 f la g lb (cT f la g lb 0 0)=bF f la g lb:=rfl
 rw[e]at hc;have hlen:=iV f la g lb
 generalize bF f la g lb=r at *;obtain⟨L,ok⟩:=r;go_enter Tryz.func38,Tryz.ntmps38;go_wp2_with (go_at_call 78;refine hc.mono ?_;rintro r w1 ⟨v,rfl,hb1,ho1⟩);refine bT (results_tmp2 rfl _ _ _) rfl ?_;obtain⟨a',cap',rfl,hout⟩:=aM ho1 (by omega);exact⟨a',cap',rfl,hb1,hout⟩
theorem EE (w:World) (a b:Option Addr) (la ca lb cb:Nat) (f g:Nat→T) (ha:Rd w a la ca f) (hb:Rd w b lb cb g):Calls Tryz.prog 81 #[.slice a la ca,.slice b lb cb] w fun r w'=>∃a' cap',r= .returned (.tuple #[.slice a' (eC f la g lb).1.length cap',.bool (eC f la g lb).2])∧Below w.heap.size w w'∧mB w.heap.size w' a' cap' (eC f la g lb).1:=by
 have hc:=lU w a b la ca lb cb f g 100 (by omega) (by omega) ha hb (cT f la (jS g lb) lb 0 0) tZ;have e:nT 100 f la g lb (cT f la (jS g lb) lb 0 0)=eC f la g lb:=rfl
 rw[e]at hc;have hlen:=kR f la g lb
 generalize eC f la g lb=r at *;obtain⟨L,ok⟩:=r;go_enter Tryz.func81,Tryz.ntmps81;go_wp2_with (go_at_call 78;refine hc.mono ?_;rintro r w1 ⟨v,rfl,hb1,ho1⟩);refine bT (results_tmp2 rfl _ _ _) rfl ?_;obtain⟨a',cap',rfl,hout⟩:=aM ho1 (by omega);exact⟨a',cap',rfl,hb1,hout⟩
end Go.Proofs.YtoglomfejgpoeaaGreatDoor
namespace Go.Proofs.YtoglomfejgpoeaaGreatDoor
open Go.RowKit
set_option linter.unusedVariables false
attribute [local go_sem] Oper.semAt_some
def cellsK (W W':World):Prop:=W.heap.size≤W'.heap.size∧∀(k:Nat) (o:Obj),W.heap[k]? =some o→o.isCells=true→W'.heap[k]? =some o
theorem mT (W:World):cellsK W W:=⟨Nat.le_refl _,fun _ _ h _=>h⟩
theorem bM {A B C:World} (h:cellsK A B) (k:cellsK B C):cellsK A C:=⟨gU h.1 k.1,fun i o hi ho=>k.2 i o (h.2 i o hi ho) ho⟩
theorem jN {w:World} (W:World) (l:Nat) (o o':Obj) (_:w.heap.size≤l) (h:W.heap[l]? =some o) (hc:o.isCells=false) (_:o.isWalk=false):cellsK W (W.putObj l o'):=
 ⟨by rw[World.putObj_size];exact Nat.le_refl _,fun k o2 hk hc2=>(World.putObj_heap_other (fun e=>by subst e;rw[h]at hk;cases hk;rw[hc]at hc2;cases hc2)).trans hk⟩
theorem bJ (W:World) (o:Obj):cellsK W (W.alloc o):=⟨by simp,fun k o2 hk _=>(Below.heap_alloc W o k (Array.getElem?_eq_some_iff.1 hk).1).trans hk⟩
theorem mR (W:World):cellsK W W.drew:=⟨Nat.le_refl _,fun _ _ h _=>h⟩
theorem iK {W W':World} {row:Option Nat} (hg:W.grownBy W' row) (hr:∀k,row=some k→∀o,W.heap[k]? =some o→o.isCells=false):cellsK W W':=
 ⟨hg.size,fun k o hk hc=>(hg.block k (Array.getElem?_eq_some_iff.1 hk).1 (fun e=>by have:=hr k e.symm o hk;rw[this]at hc;cases hc)).trans hk⟩
theorem bQ {W W':World} {B:Nat} {t:TypeId} {v:Value} (h:Boxed W B t v) (hk:cellsK W W'):Boxed W' B t v:=hk.2 B _ h rfl
theorem EW (w:World):w.grownBy w.drew none:=⟨rfl,rfl,rfl,Nat.le_refl _,fun _ _ _=>rfl⟩
abbrev TK (lim:Nat):Type:={p:Int×Int // 0≤p.1∧p.1≤(lim:Int)∧0≤p.2∧p.2≤100}
def xO {lim:Nat} (x:TK lim):Array Value:=#[.int .i64 x.1.1,.int .i64 x.1.2]
def wy (s t k:Int):Int:=gE (dA s k) (cR t k)
theorem kN (a b:Int):0≤gE a b∧gE a b≤100:=by unfold gE;split<;>omega
def lZ (lim:Nat) (s t:Int) (k:Nat):TK lim:=⟨((if k≤lim then(k:Int)else 0),wy s t k),by
 have:=kN (dA s k) (cR t k);refine⟨?_,?_,this.1,this.2⟩
 ·show 0≤(if k≤lim then(k:Int)else 0);split<;>omega
 ·show(if k≤lim then(k:Int)else 0)≤_
  split<;>omega⟩
def iH (lim:Nat) (s t:Int) (k:Nat):List (TK lim):=(List.range k).map (lZ lim s t)
theorem oZ (lim:Nat) (s t:Int) (k:Nat):iH lim s t k++[lZ lim s t k]=iH lim s t (k+1):=by simp[iH,List.range_succ]
theorem yL (lim:Nat) (s t:Int) (k:Nat):(iH lim s t k).length=k:=by simp[iH]
theorem GZ {n:Nat} (hn:1≤n) (l B1 B2:Nat) (s t:Int) (lim:Nat) (s0:0≤s) (s1:s≤15) (t0:0≤t) (t1:t≤15) (hl:(lim:Int)=min s t) (J Jx:List (TK lim)→World→Prop) (hJd:∀pre W,J pre W→J pre W.drew) (hY:∀pre x W,J pre W→pre.length<lim+1→YieldAt Fence.wide (n-1) Tryz.prog l (xO x) W fun e W'=>(e= .returned (.bool true)∧J (pre++[x]) W'∧cellsK W W')∨(e= .returned (.bool false)∧Jx (pre++[x]) W')) (W:World) (hb1:Boxed W B1 3 (.int .i64 s)) (hb2:Boxed W B2 3 (.int .i64 t)) (h0:J [] W):CallsIn Fence.wide n Tryz.prog 174 #[.func (.yield l) #[] #[],.pointer (some ⟨B1,0,none⟩),.pointer (some ⟨B2,0,none⟩)] W fun e W'=>(∃v,e= .returned v)∧((∃xs,xs=iH lim s t (lim+1)∧J xs W')∨(∃pre,True∧Jx pre W')):=by
 refine callsIn_of_wp Tryz.func174 rfl trivial ?_ rfl;simp only[Tryz.ntmps174,List.size_toArray,List.length_cons,List.length_nil,Nat.reduceAdd,Nat.reduceSub,Array.replicate_succ,Array.replicate_zero,List.push_toArray,List.append_toArray,List.nil_append,List.cons_append];have c1:=hb1.cell
 have c2:=hb2.cell
 gi_wp2
 all_goals
  gi_loopw [10] (fun v wr=>∃k:Nat,k≤lim+1∧v= .int .i64 (k:Int)∧J (iH lim s t k) wr∧Boxed wr B1 3 (.int .i64 s)∧Boxed wr B2 3 (.int .i64 t)) (fun v _=>(lim+1)-(RowKit.intOf v).toNat)
  case atStart=>
   exact⟨0,gC _,rfl,h0,hb1,hb2⟩
  case round=>
   obtain⟨k,hk,rfl,hJ,b1,b2⟩:=hrel;have c1:=b1.cell
   have c2:=b2.cell;by_cases hlt:k≤lim
   ·have hk1:(k:Int)≤s:=by omega
    have hk2:(k:Int)≤t:=by omega
    have hYk:=hY (iH lim s t k) (lZ lim s t k) _ (hJd _ _ hJ) (by rw[yL];omega);rw[oZ]at hYk;have ek:xO (lZ lim s t k)=#[.int .i64 (k:Int),.int .i64 (wy s t k)]:=by simp[xO,lZ,hlt]
    rw[ek]at hYk;have hw:gE (dA s k) (cR t k)=wy s t k:=rfl
    obtain⟨fn,tmps,assign,body,hy,hRd⟩:=hYk
    gi_wp2_with fail
    refine(wpIn_wide (n:=n)).2 ?_
    go_region_with (first
     |(go_at_call 175;refine(CX _ _ _).mono ?_;rintro e w' ⟨rfl,hw'⟩;obtain rfl:=hw'.symm;clear hw')
     |(go_at_call 156;refine(EY _ _ _).mono ?_;rintro e w' ⟨rfl,hw'⟩;obtain rfl:=hw'.symm;clear hw')
     |(go_at_call 155;refine(DX _ _ _).mono ?_;rw[hw];rintro e w' ⟨rfl,hw'⟩;obtain rfl:=hw'.symm;clear hw'))
    all_goals
     gi_wp2
     refine hRd.mono ?_;rintro e W3 (⟨rfl,hJ3,hk3⟩|⟨rfl,hJx3⟩)
     ·gi_wp2
      go_roundw;case rel=>exact⟨k+1,by omega,by go_num,hJ3,bQ (W:=wr.drew) b1 hk3,bQ (W:=wr.drew) b2 hk3⟩
      case measure=>simp[RowKit.intOf];omega
     ·gi_wp2
      refine bT (results_none rfl _ _ _) rfl ?_;exact⟨⟨_,rfl⟩,.inr ⟨_,trivial,hJx3⟩⟩
   ·have hk3:k=lim+1:=by omega
    subst hk3
    gi_wp2
    go_end0
    exact⟨⟨_,rfl⟩,.inl ⟨_,rfl,hJ⟩⟩
theorem oV {n:Nat} (hn:1≤n) (B1 B2:Nat) (s t:Int) (lim:Nat) (s0:0≤s) (s1:s≤15) (t0:0≤t) (t1:t≤15) (hl:(lim:Int)=min s t) (w:World) (hb1:Boxed w B1 3 (.int .i64 s)) (hb2:Boxed w B2 3 (.int .i64 t)):SeqStopsK Fence.wide n Tryz.prog 174 #[.pointer (some ⟨B1,0,none⟩),.pointer (some ⟨B2,0,none⟩)] xO cellsK (fun xs=>xs=iH lim s t (lim+1)) (fun _=>True) (lim+1) w:=fun l J Jx W hW hJ _ hY h0=>
 GZ hn l B1 B2 s t lim s0 s1 t0 t1 hl J Jx (fun pre W h=>hJ pre W W.drew none h (EW W) (fun r e=>by cases e)) hY W ((hW.block B1 hb1.lt).trans hb1) ((hW.block B2 hb2.lt).trans hb2) h0
theorem BZ {F:Fence} {n:Nat} (h7:F.fn 149) (hro:F.round=none) (s t:Int) (w:World):CallsIn F n Tryz.prog 149 #[.int .i64 s,.int .i64 t] w fun e w'=>e= .returned (.func (.func 174) #[] #[.pointer (some ⟨w.heap.size,0,none⟩),.pointer (some ⟨w.heap.size+1,0,none⟩)])∧w'=(w.alloc (.cells #[.int .i64 s] 3)).alloc (.cells #[.int .i64 t] 3):=by
 refine callsIn_of_wp Tryz.func149 rfl h7 ?_ hro;simp only[Tryz.ntmps149,List.size_toArray,List.length_cons,List.length_nil,Nat.reduceAdd,Nat.reduceSub,Array.replicate_succ,Array.replicate_zero,List.push_toArray,List.append_toArray,List.nil_append,List.cons_append]
 gi_wp2
 go_ret;exact⟨rfl,rfl⟩
end Go.Proofs.YtoglomfejgpoeaaGreatDoor
namespace Go.Proofs.YtoglomfejgpoeaaGreatDoor
open Go.RowKit
set_option linter.unusedVariables false
theorem yG {m m':Nat} {P:Program} {l:Nat} {f:FuncId} {tmps:Array Value} {assign body:Code} {w:World} {R:Ending→World→Prop} (h:RoundIn Fence.wide m P l f tmps assign body w R):RoundIn Fence.wide m' P l f tmps assign body w R:=⟨h.1,fun c cs _=>h.2 c cs (room_wide _)⟩
theorem jD {W W':World} {row:Option Nat} {B:Nat} (hg:W.grownBy W' row) (hr:∀r,row=some r→B≤r) {k:Nat} {o:Obj} (hk:W.heap[k]? =some o) (hkB:k<B):W'.heap[k]? =some o:=
 (hg.block k (Array.getElem?_eq_some_iff.1 hk).1 (fun e=>by have:=hr k e.symm;omega)).trans hk
theorem lM {B B':Nat} {W W':World} (h:KeepsFrom B W W') (hB:B≤B'):KeepsFrom B' W W':=⟨h.size,fun k o hk=>h.same k o (gU hB hk)⟩
def FH {α:Type} (P:Program) (g:Nat) (lb:Array Value) (encs:α→Array Value) (xs:List α) (w:World):Prop:=
 ∀(l:Nat) (J:List α→World→Prop) (W:World),Below w.heap.size w W→OwnFrom W.heap.size J→
  (∀pre x W1,J pre W1→YieldAt Fence.wide 0 P l (encs x) W1 fun e W'=>e= .returned (.bool true)∧J (pre++[x]) W'∧cellsK W1 W'∧KeepsFrom W.heap.size W1 W')→
  J [] W→Calls P g (#[.func (.yield l) #[] #[]]++lb) W fun e W'=>(∃v,e= .returned v)∧J xs W'
theorem GT {α:Type} {P:Program} {n:Nat} {g:Operand} {ps:Array Tmp} {assign body:Code} {Q:Exit→Act→World→Prop} {a:Act} {w:World} (h1:1≤n) {gf:Nat} {lb:Array Value} (hg:a.eval g= .func (.func gf) #[] lb) (eg:∀args w,(callFunc gf args).run P w= .ok (.enter gf args) w) {encs:α→Array Value} {xs:List α} {w0:World} (hseq:FH P gf lb encs xs w0) (hb0:Below w0.heap.size w0 w) (hps:∀x,(encs x).size=ps.size) (I:List α→World→Prop) (hI:OwnFrom w.heap.size I) (h0:I [] w) (Ax:α→Act→World→Prop) (hAx:∀x a',OwnFrom w.heap.size (fun(_:Unit) W=>Ax x a' W)) (hassign:∀(l:Nat) (pre:List α) (x:α) (W:World) (K:Act→World→Prop),I pre W→(∀a' W',KeepsFrom w.heap.size W W'→cellsK W W'→I pre W'→Ax x a' W'→K a' W')→assign.wpIn (Fence.wide.inRound l) 0 P (Exit.then K (fun _ _ _=>False)) {tmps:=(ps.zip (encs x)).foldl (fun t (p,v)=>t.setIfInBounds p v) a.tmps,defers:=[]} W) (hbody:∀(l:Nat) (pre:List α) (x:α) (a':Act) (W:World),I pre W→Ax x a' W→body.wpIn (Fence.wide.inRound l) 0 P (fun e _ W'=>e= .normal∧KeepsFrom w.heap.size W W'∧cellsK W W'∧I (pre++[x]) W') a' W) (hdone:∀(D:Nat) (W:World),w.heap.size≤D→I xs W→W.heap[D]? =some (.deferred (some []))→Q .normal {a with defers:={target:=.collected D,args:=#[]}::a.defers} W):(Code.rangeFunc g ps assign body).wpIn Fence.wide n P Q a w:=by
 refine wpIn_rangeFunc ?_;intro fn hfn;obtain⟨rec,hrec⟩:∃rec:LoopState→Option Code→Loop,rec=fun st pe=>{state:=st,pending:=pe,fn,tmps:=a.tmps,params:=ps,assign,body,defers:=w.heap.size}:=⟨_,rfl⟩
 obtain⟨W1,hW1⟩:∃W1,(w.alloc (.deferred (some []))).alloc (.loop (rec .ready none))=W1:=⟨_,rfl⟩
 have hs1:W1.heap.size=w.heap.size+2:=by rw[←hW1];simp
 have hL1:W1.heap[w.heap.size+1]? =some (.loop (rec .ready none)):=by
  rw[←hW1];have:=World.alloc_heap_new (w.alloc (.deferred (some []))) (.loop (rec .ready none))
  rwa[World.size_alloc]at this
 have hK1:W1.heap[w.heap.size]? =some (.deferred (some [])):=by rw[←hW1];exact(Below.heap_alloc _ _ _ (by simp)).trans (World.alloc_heap_new w _)
 have hI1:I [] W1:=by rw[←hW1];exact hI.alloc _ (hI.alloc _ h0)
 have hb1:Below w0.heap.size w0 W1:=by rw[←hW1];exact hb0.trans ((((aD _ w).alloc (Nat.le_refl _) _).alloc (by simp) _).mono hb0.size)
 refine⟨w.heap.size+1,[{target:=.collected w.heap.size,args:=#[]}],W1,{target:=.fn (.func gf) lb,args:=#[.func (.yield (w.heap.size+1)) #[] #[]]},W1,gf,
  #[.func (.yield (w.heap.size+1)) #[] #[]]++lb,W1,?_,?_,?_,?_,fun _=>h1,?_⟩
 ·rw[←hW1,hrec];exact run_enterLoop_outer _ _ _ _ _
 ·simp only[resolve,hg];simp[go_sem]
 ·intro f' _;exact trivial
 ·simp[invoke,go_sem,eg]
 ·refine callsIn_wide.2 ((hseq (w.heap.size+1) (fun pre W=>I pre W∧W.heap[w.heap.size+1]? =some (.loop (rec .ready none))∧W.heap[w.heap.size]? =some (.deferred (some []))) W1 hb1
   (fun s A B row hs hg' hr=>⟨hI s A B row hs.1 hg' (fun r e=>⟨by have:=(hr r e).1;omega,(hr r e).2⟩),jD hg' (B:=W1.heap.size) (fun r e=>(hr r e).1) hs.2.1 (by omega),jD hg' (B:=W1.heap.size) (fun r e=>(hr r e).1) hs.2.2 (by omega)⟩)
   ?_ ⟨hI1,hL1,hK1⟩).mono ?_)
  ·rintro pre x W ⟨hi,hl,hk⟩;have hy:=run_yield (P:=P) (args:=encs x) hl (by rw[hrec];exact hps x)
   rw[hrec]at hy;refine⟨fn,_,assign,body,hy,roundIn_of_wpIn hfn (hassign _ pre x W _ hi ?_)⟩;clear hy;intro a' Wa hkfa hkpa hia hax;have hla:=hkfa.same _ _ (by omega) hl rfl
   have hka:=hkfa.same _ _ (Nat.le_refl _) hk rfl;have hlt:w.heap.size+1<Wa.heap.size:=(Array.getElem?_eq_some_iff.1 hla).1
   refine⟨_,run_beginRound hla (by rw[hrec]),?_⟩;have hl2:(Wa.putObj (w.heap.size+1) (.loop {rec .ready none with state:=.busy})).heap[w.heap.size+1]? =some (.loop {rec .ready none with state:=.busy}):=World.putObj_heap_same hlt
   have hk2:(Wa.putObj (w.heap.size+1) (.loop {rec .ready none with state:=.busy})).heap[w.heap.size]? =some (.deferred (some [])):=(World.putObj_heap_other (by omega)).trans hka
   have hw2:cellsK Wa (Wa.putObj (w.heap.size+1) (.loop {rec .ready none with state:=.busy})):=jN (w:=w) _ _ _ _ (by omega) hla rfl rfl;refine wpIn_mono (hbody _ pre x a' _ (hI.putObj _ hia (by omega) hla rfl) ((hAx x a').putObj (s:=()) _ hax (by omega) hla rfl)) ?_;rintro e a3 W3 ⟨rfl,hk3,hkp3,hi3⟩;have hl3:=hk3.same _ _ (by omega) hl2 rfl
   have hr:=run_endRound (P:=P) none hl3;refine⟨_,_,hr,rfl,⟨hI.putObj _ hi3 (by omega) hl3 rfl,?_,(World.putObj_heap_other (by omega)).trans (hk3.same _ _ (Nat.le_refl _) hk2 rfl)⟩,bM hkpa (bM (bM hw2 hkp3) (jN (w:=w) _ _ _ _ (by omega) hl3 rfl rfl)),(lM hkfa (by omega)).trans ((KeepsFrom.of_grownBy (grownBy_putObj' Wa (w.heap.size+1) (.loop {rec .ready none with state:=.busy})) (fun j e=>by cases e;omega)).trans ((lM hk3 (by omega)).trans (KeepsFrom.of_grownBy (grownBy_putObj' W3 (w.heap.size+1) _) (fun j e=>by cases e;omega))))⟩;rw[hrec];exact World.putObj_heap_same (Array.getElem?_eq_some_iff.1 hl3).1
  ·rintro e W2 ⟨⟨v,rfl⟩,hi,hl,hk⟩;refine⟨none,_,by have:=run_endLoop (P:=P) hl (by rw[hrec];simp);rw[hrec]at this;exact this,hdone _ _ (Nat.le_refl _) (hI.putObj _ hi (by omega) hl rfl) ((World.putObj_heap_other (by omega)).trans hk)⟩
end Go.Proofs.YtoglomfejgpoeaaGreatDoor
