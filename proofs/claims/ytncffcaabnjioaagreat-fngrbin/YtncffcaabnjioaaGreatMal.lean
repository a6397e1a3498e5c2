/-
  An operator, so many times, added to a sum.
-/
import Derived.Deep.RegionWith
import Derived.Test.YtncffcaabnjioaaGreatMak
set_option maxHeartbeats 4000000
set_option maxRecDepth 100000
namespace Go.Proofs.YtncffcaabnjioaaGreat
open Go.RowKit Go.Maps
set_option linter.unusedVariables false
def fE (k:Int) (f:Nat→T) (c:M→Int):Nat→M→Int
 |0=>c
 |i+1=>lD (fE k f c i) (f i).m (k*(f i).c%101)
theorem wG (w:World):w.grownBy w.drew none:=⟨rfl,rfl,rfl,Nat.le_refl _,fun _ _ _=>rfl⟩
theorem LH {w w':World} {row:Option Nat} (h:w.grownBy w' none):w.grownBy w' row:=⟨h.os,h.tape,h.output,h.size,fun k hk _=>h.block k hk (by simp)⟩
theorem oZ (w:World) (b n:Nat) (c:M→Int) (k:Int) (a:Option Addr) (la cap:Nat) (f:Nat→T) (h:bD w b n c) (hr:Rd w a la cap f) (hne:la=0∨∀b' off,a=some ⟨b',off,none⟩→some b'≠some b) (hm:∀i,i<la→(f i).m.ok=true) (hc:∀i,i<la→0≤(f i).c∧(f i).c≤100) (k0:0≤k) (k1:k≤100) (hn:n+la≤1000000) (hb:b<w.heap.size):Calls Tryz.prog 87 #[.map (some b),.int .i64 k,.slice a la cap] w fun e w'=>e= .returned (.tuple #[])∧bD w' b (n+la) (fE k f c la)∧w.grownBy w' (some b):=by
 have HR:=aA hr;have HS:=aA h
 have HM:=aA hm;have HC:=aA hc
 have HNE:=aA hne;have hl:(la:Int)≤1000000:=by omega
 clear h hr hm hc hne;go_enter Tryz.func87,Tryz.ntmps87;go_wp2;go_loopw [10] (fun i wr=>∃j:Nat,j≤la∧i= .int .i64 j∧bD wr b (n+j) (fE k f c j)∧w.grownBy wr (some b)) (fun i _=>la-(intOf i).toNat);case atStart=>exact⟨0,gL _,rfl,HS.out,FH w _⟩
 case round=>
  obtain⟨j,hj,rfl,hS,hg⟩:=hrel;by_cases hlt:j<la
  ·have hjl:(j:Int)<(la:Int):=by omega
   have hrj:=HR.out.grown hg HNE.out;rcases hrj.2.2 with h0|⟨pb,off,rfl,hblt,hcl⟩
   ·omega
   obtain⟨g0,g1,g2,g3,g4⟩:=hcl j hlt;have hmj:=HM.out j hlt
   obtain⟨c0,c1⟩:=HC.out j hlt;have HSJ:=aA hS
   have HG:=aA hg;clear hcl hrj hS hg;go_wp2_with fail;have HSQ:=aA (HSJ.out.grown (World.grownBy_alloc wr (.cells #[.int .i64 (f j).c,.int .i64 (f j).m.x,.int .i64 (f j).m.y,.int .i64 (f j).m.d,.int .i64 (f j).m.e] 47) none) (by simp))
   have HGQ:=aA (HG.out.trans (World.grownBy_alloc wr (.cells #[.int .i64 (f j).c,.int .i64 (f j).m.x,.int .i64 (f j).m.y,.int .i64 (f j).m.d,.int .i64 (f j).m.e] 47) (some b)));have hq:∀i v,#[Value.int .i64 (f j).c,.int .i64 (f j).m.x,.int .i64 (f j).m.y,.int .i64 (f j).m.d,.int .i64 (f j).m.e][i]? =some v→(wr.alloc (.cells #[.int .i64 (f j).c,.int .i64 (f j).m.x,.int .i64 (f j).m.y,.int .i64 (f j).m.d,.int .i64 (f j).m.e] 47)).cell? ⟨wr.heap.size,i,none⟩=some v:=fun i v hv=>by rw[World.cell?_alloc_at _ _ _ _ rfl];exact hv
   have q0:=hq 0 _ rfl;have q1:=hq 1 _ rfl
   have q2:=hq 2 _ rfl;have q3:=hq 3 _ rfl
   have q4:=hq 4 _ rfl;clear hq g0 g1 g2 g3 g4 HSJ HG;generalize(wr.alloc (.cells #[.int .i64 (f j).c,.int .i64 (f j).m.x,.int .i64 (f j).m.y,.int .i64 (f j).m.d,.int .i64 (f j).m.e] 47))=wq at HSQ HGQ q0 q1 q2 q3 q4⊢;have HADD:=aA (BO b (n+j) (fE k f c j) (k*(f j).c%101) (f j).m wq.drew hmj (HSQ.out.grown (wG wq) (by simp)) (by unfold maxLen;omega) (by omega) (by omega))
   go_region_with (first|(go_at_call 120;refine(qE _ _ _ k0 k1 c0 c1).mono ?_;rintro r w2 ⟨rfl,hw⟩;obtain rfl:=hw.symm;clear hw)|(go_at_call 132;refine HADD.out.mono ?_;rintro r w4 ⟨rfl,hS4,hg4⟩;have HS4:=aA hS4;have HG4:=aA ((HGQ.out.trans (LH (wG wq))).trans hg4);clear hS4 hg4))
   all_goals
    go_wp2;go_roundw;case rel=>exact⟨j+1,by omega,by go_num,HS4.out,HG4.out⟩
    case measure=>simp[intOf];omega
  ·obtain rfl:j=la:=by omega
   have HSJ:=aA hS;have HG:=aA hg
   clear hS hg;go_wp2
   go_end0
   exact⟨rfl,HSJ.out,HG.out⟩
end Go.Proofs.YtncffcaabnjioaaGreat
namespace Go.Proofs.YtncffcaabnjioaaGreat
open Go.RowKit
set_option linter.unusedVariables false
theorem wD {f:Nat→T} {m:M}:∀(u i:Nat),(f (i+u)).m≠m→cK f (u+1) i m=cK f u i m
 |0,i,h=>by show(if gB (f i).m m=true then(f i).c else 0)=0;exact if_neg (fun e=>h (bT.1 e))
 |u+1,i,h=>by
  have:=wD (f:=f) (m:=m) u (i+1) (by rw[show i+1+u=i+(u+1) by omega];exact h);show(if gB (f i).m m=true then(f i).c else cK f (u+1) (i+1) m)=(if gB (f i).m m=true then(f i).c else cK f u (i+1) m)
  rw[this]
theorem yN {f:Nat→T} {m:M}:∀(u i:Nat),(∀j,i≤j→j<i+u→(f j).m≠m)→(f (i+u)).m=m→cK f (u+1) i m=(f (i+u)).c
 |0,i,_,h=>by show(if gB (f i).m m=true then(f i).c else 0)=(f i).c;exact if_pos (bT.2 h)
 |u+1,i,h0,h=>by
  rw[cK,if_neg (fun e=>h0 i (Nat.le_refl _) (by omega) (bT.1 e))];have:=yN (f:=f) (m:=m) u (i+1) (fun j h1 h2=>h0 j (by omega) (by omega)) (by rw[show i+1+u=i+(u+1) by omega];exact h)
  rw[this,show i+1+u=i+(u+1) by omega]
theorem kN {k:Int} {f:Nat→T} {c:M→Int} {n:Nat} (F:Fl f n) (hc:∀m,0≤c m∧c m≤100):∀(i:Nat),i≤n→∀m,fE k f c i m=(c m+k*cK f i 0 m%101)%101
 |0,_,m=>by have:=hc m;simp only[fE,cK,Int.mul_zero];omega
 |i+1,hi,m=>by
  have ih:=kN (k:=k) F hc i (by omega);simp only[fE];by_cases hm:m=(f i).m
  ·subst hm;rw[zJ,ih];have h0:cK f i 0 (f i).m=0:=qL i 0 (fun j _ h2 e=>by have:=F.1 j i (by omega) (by omega);rw[e]at this;omega)
   have h1:cK f (i+1) 0 (f i).m=(f i).c:=by have:=yN (f:=f) (m:=(f i).m) i 0 (fun j _ h2 e=>by have:=F.1 j i (by omega) (by omega);rw[e]at this;omega) (by rw[Nat.zero_add]);rw[this,Nat.zero_add]
   rw[h0,h1];have:=hc (f i).m
   simp only[Int.mul_zero];omega
  ·rw[xR hm,ih,wD i 0 (by rw[Nat.zero_add];exact fun e=>hm e.symm)]
theorem JP {c:Int} {f g:Nat→T} {la lb:Nat} (F:Fl f la) (G:Fl g lb) (m:M):fE c g (fE 1 f (fun _=>0) la) lb m=(cK f la 0 m+c*cK g lb 0 m)%101:=by
 have hz:∀m:M,(0:Int)≤(fun _=>0:M→Int) m∧(fun _=>0:M→Int) m≤100:=fun _=>⟨Int.le_refl _,by show(0:Int)≤100;decide⟩
 have h1:=kN (k:=1) F hz la (Nat.le_refl _);have h2:=kN (k:=c) G (c:=fE 1 f (fun _=>0) la) (fun m=>by rw[h1];omega) lb (Nat.le_refl _) m
 rw[h2,h1];simp only[Int.one_mul];omega
theorem jC (w:World) (lo:Nat):w.ownsRow lo 47 5 (.slice none 0 0) 0 (aF []):=⟨rfl,.inl ⟨rfl,rfl⟩⟩
theorem XV (c x y d e:Int) (w:World):Calls Tryz.prog 134 #[.int .i64 c,.agg #[.int .i64 x,.int .i64 y,.int .i64 d,.int .i64 e]] w fun r w'=>∃v,r= .returned v∧Below w.heap.size w w'∧w'.ownsRow w.heap.size 47 5 v (iJ c ⟨x,y,d,e⟩).length (aF (iJ c ⟨x,y,d,e⟩)):=by
 cases ht:fW c ⟨x,y,d,e⟩
 ·have e1:iJ c ⟨x,y,d,e⟩=[]:=by unfold iJ;rw[if_neg (fun h=>by rw[fW,decide_eq_true h.1,h.2]at ht;cases ht)]
  rw[e1];clear e1;go_enter Tryz.func134,Tryz.ntmps134;go_wp2_with fail;refine(iW ht _).mono ?_;rintro r w1 ⟨rfl,hb⟩;have HB:=aA (aB (aC w _) hb)
  clear hb;go_wp2;go_ret;exact⟨_,rfl,HB.out,jC w1 _⟩
 ·have e1:iJ c ⟨x,y,d,e⟩=[⟨c,⟨x,y,d,e⟩⟩]:=by unfold iJ;simp only[fW,Bool.and_eq_true,decide_eq_true_eq]at ht;rw[if_pos ht]
  rw[e1];clear e1;go_enter Tryz.func134,Tryz.ntmps134;go_wp2_with fail;refine(iW ht _).mono ?_;rintro r w1 ⟨rfl,hb⟩;obtain⟨hcl,hf⟩:=aO hb;have HB:=aA (aB (aC w _) hb)
  clear hb;go_wp2;go_ret;exact⟨_,rfl,HB.out.alloc HB.out.size _,World.ownsRow_lit w1 #[.int .i64 c,.int .i64 x,.int .i64 y,.int .i64 d,.int .i64 e] 1 HB.out.size (by decide) rfl⟩
open Go.RowKit Go.Maps Go.Sort Go.Shelf
theorem bD.range {w:World} {b n:Nat} {c:M→Int} (h:bD w b n c):∀m,0≤c m∧c m≤100:=by obtain⟨D,_,hc,_⟩:=h;exact hc
theorem uB (w:World):bD (w.alloc (.map #[] 0)) w.heap.size 0 (fun _=>0):=
 ⟨.map [],World.ownsMap_made w _ _ _,fun _=>⟨Int.le_refl _,by show(0:Int)≤100;decide⟩,fun m _=>⟨rfl,by simp[Maps.has]⟩,fun kl h=>by simp[Maps.has]at h⟩
theorem Rd.apart {w:World} {a:Option Addr} {n cap:Nat} {f:Nat→T} (h:Rd w a n cap f) {b:Nat} (hb:w.heap.size≤b):n=0∨∀b' off,a=some ⟨b',off,none⟩→some b'≠some b:=by
 rcases h.2.2 with h0|⟨pb,off,rfl,hlt,_⟩
 ·exact .inl h0
 ·exact .inr (fun b' off' e e'=>by cases e;cases e';omega)
def yA (K:List T):List T×Bool:=if K.length≤400 then(K,true)else([],false)
theorem GP (w:World) (b n:Nat) (c:M→Int) (h:bD w b n c) (hn:n≤1000000) {K:List T} (hK:aK K) (hKc:∀m,m.ok=true→aL K m=c m):Calls Tryz.prog 55 #[.map (some b)] w fun e w'=>∃v,e= .returned (.tuple #[v,.bool (yA K).2])∧Below w.heap.size w w'∧w'.ownsRow w.heap.size 47 5 v (yA K).1.length (aF (yA K).1):=by
 by_cases h400:K.length≤400
 ·have e:yA K=(K,true):=if_pos h400;rw[e];exact VP RK w b n c h hn hK hKc h400
 ·have e:yA K=([],false):=if_neg h400;rw[e];refine(VO RK w b n c h hn hK hKc h400).mono ?_;rintro r w5 ⟨rfl,hb5⟩;exact⟨_,rfl,hb5,jC w5 _⟩
theorem PD (n:Int) (w:World):(Instr.makeMap 77 (some (.int .i64 n))).run Tryz.prog w= .ok (.map (some w.heap.size)) (w.alloc (.map #[] 0)):=by have hu:=run_underlying (P:=Tryz.prog) Tryz.underlying77;unfold Instr.makeMap;simp[hu,asInt,go_sem,Sem.run_bind,Result.andThen]
def vR (k:Int) (f:Nat→T) (la:Nat) (g:Nat→T) (lb:Nat) (K:List T):List T×Bool:=if aN la f=true∧aN lb g=true∧K.length≤400 then(K,true)else([],false)
theorem sI (w:World) (a b:Option Addr) (la ca lb cb:Nat) (f g:Nat→T) (k:Int) (k0:0≤k) (k1:k≤100) (ha:Rd w a la ca f) (hb:Rd w b lb cb g) (K:List T) (hK:aN la f=true→aN lb g=true→aK K∧∀m,m.ok=true→aL K m=fE k g (fE 1 f (fun _=>0) la) lb m):Calls Tryz.prog 56 #[.slice a la ca,.int .i64 k,.slice b lb cb] w fun r w'=>∃v,r= .returned (.tuple #[v,.bool (vR k f la g lb K).2])∧Below w.heap.size w w'∧w'.ownsRow w.heap.size 47 5 v (vR k f la g lb K).1.length (aF (vR k f la g lb K).1):=by
 have HA:=aA ha;have HB:=aA hb
 have hla:(la:Int)≤140737488351232:=by have:=ha.2.1;omega
 have hlb:(lb:Int)≤140737488351232:=by have:=hb.2.1;omega
 clear ha hb;cases hpa:aN la f
 ·have e1:vR k f la g lb K=([],false):=by simp[vR,hpa]
  rw[e1];go_enter Tryz.func56,Tryz.ntmps56;go_wp2_with (go_at_call 52;refine(eD _ _ _ _ f HA.out).mono ?_;rw[hpa];rintro r w1 ⟨rfl,hb1⟩;have HB1:=aA hb1;clear hb1);refine cB (results_tmp2 rfl _ _ _) rfl ?_;exact⟨_,rfl,HB1.out,jC w1 _⟩
 ·cases hpb:aN lb g
  ·have e1:vR k f la g lb K=([],false):=by simp[vR,hpb]
   rw[e1];go_enter Tryz.func56,Tryz.ntmps56
   go_wp2_with (first
    |(go_at_call_of 52 (Value.slice a la ca);refine(eD _ _ _ _ f HA.out).mono ?_;rw[hpa];rintro r w1 ⟨rfl,hb1⟩;have HB1:=aA hb1;clear hb1)
    |(go_at_call_of 52 (Value.slice b lb cb);refine(eD _ _ _ _ g (HB.out.below HB1.out)).mono ?_;rw[hpb];rintro r w2 ⟨rfl,hb2⟩;have HB2:=aA hb2;clear hb2))
   refine cB (results_tmp2 rfl _ _ _) rfl ?_;exact⟨_,rfl,aB HB1.out HB2.out,jC w2 _⟩
  ·obtain⟨hKf,hKc⟩:=hK hpa hpb;have F:=dE hpa
   have G:=dE hpb;have HF:=aA F
   have HG:=aA G;have l1:la≤400:=by simp only[aN,decide_eq_true_eq]at hpa;exact hpa.1
   have l2:lb≤400:=by simp only[aN,decide_eq_true_eq]at hpb;exact hpb.1
   have hmk:=PD;have e2:vR k f la g lb K=yA K:=by simp[vR,yA,hpa,hpb]
   rw[e2];clear F G e2 hK;go_enter Tryz.func56,Tryz.ntmps56
   go_wp2_with (first
    |(go_at_call_of 52 (Value.slice a la ca);refine(eD _ _ _ _ f HA.out).mono ?_;rw[hpa];rintro r w1 ⟨rfl,hb1⟩;have HB1:=aA hb1;clear hb1)
    |(go_at_call_of 52 (Value.slice b lb cb);refine(eD _ _ _ _ g (HB.out.below HB1.out)).mono ?_;rw[hpb];rintro r w2 ⟨rfl,hb2⟩;have HB2:=aA (aB HB1.out hb2);clear hb2)
    |(go_at_call_of 87 (Value.slice a la ca);refine(oZ _ w2.heap.size 0 _ 1 a la ca f (uB w2) ((HA.out.below HB2.out).below (aC w2 _)) ((HA.out.below HB2.out).apart (Nat.le_refl _)) (fun i hi=>(HF.out.2 i hi).1) (fun i hi=>by have:=HF.out.2 i hi;omega) (by omega) (by omega) (by omega) (by simp)).mono ?_;rintro r w3 ⟨rfl,hs3,hg3⟩;have HS3:=aA hs3;have HG3:=aA ((World.grownBy_alloc w2 (.map #[] 0) (some w2.heap.size)).trans hg3);clear hs3 hg3)
    |(go_at_call_of 87 (Value.slice b lb cb);refine(oZ _ w2.heap.size (0+la) _ k b lb cb g HS3.out ((HB.out.below HB2.out).grown HG3.out ((HB.out.below HB2.out).apart (Nat.le_refl _))) ((HB.out.below HB2.out).apart (Nat.le_refl _)) (fun i hi=>(HG.out.2 i hi).1) (fun i hi=>by have:=HG.out.2 i hi;omega) k0 k1 (by omega) (by obtain⟨D,ho,_⟩:=HS3.out;exact ho.lt)).mono ?_;rintro r w4 ⟨rfl,hs4,hg4⟩;have HS4:=aA hs4;have HG4:=aA (HG3.out.trans hg4);clear hs4 hg4))
   have hlo:w.heap.size≤w2.heap.size:=HB2.out.size;have hB4:Below w.heap.size w w4:=HB2.out.grown HG4.out hlo (fun k' e=>by cases e;exact hlo)
   refine(GP _ _ _ _ HS4.out (by omega) hKf hKc).mono ?_;rintro r w5 ⟨v,rfl,hb5,ho5⟩;go_wp2;refine cB (results_tmp2 rfl _ _ _) rfl ?_;exact⟨_,rfl,hB4.trans (hb5.mono hB4.size),gE ho5 hB4.size⟩
theorem uL {f g:Nat→T} (r:Int→Int) (hr:r 0=0) {m:M}:∀(u i:Nat),(∀j,i≤j→j<i+u→(g j).m=(f j).m∧(g j).c=r (f j).c)→cK g u i m=r (cK f u i m)
 |0,_,_=>hr.symm
 |u+1,i,h=>by have h0:=h i (Nat.le_refl _) (by omega);rw[cK,cK,h0.1,h0.2,uL r hr u (i+1) (fun j h1 h2=>h j (by omega) (by omega))];split<;>rfl
theorem XU {g:Nat→T} {lb:Nat} (G:Fl g lb):Fl (uT g lb) lb:=by
 refine⟨fun j i hji hi=>?_,fun i hi=>?_⟩
 ·unfold uT;rw[wO _ _ _ _ hi,wO _ _ _ _ (by omega)];exact G.1 j i hji hi
 ·have h:=G.2 i hi;unfold uT;rw[wO _ _ _ _ hi];refine⟨h.1,?_,?_⟩
  ·show 1≤100*(g i).c%101;omega
  ·show 100*(g i).c%101≤100;omega
theorem QA {f g:Nat→T} {la lb:Nat} (hpa:aN la f=true) (hpb:aN lb g=true):aK (eI f la (uT g lb) lb 0 0)∧∀m,m.ok=true→aL (eI f la (uT g lb) lb 0 0) m=fE 100 g (fE 1 f (fun _=>0) la) lb m:=by
 obtain⟨_,h2,h3⟩:=iQ (dE hpa) (XU (dE hpb)) (la-0+(lb-0)) 0 0 (Nat.le_refl _);refine⟨h2,fun m _=>?_⟩;rw[JP (dE hpa) (dE hpb)]
 have h4:=uL (f:=g) (g:=uT g lb) (fun c=>100*c%101) rfl (m:=m) lb 0 (fun j _ hj=>by
  unfold uT;rw[wO _ _ _ _ (by omega)]
  exact⟨rfl,rfl⟩)
 refine(h3 m).trans ?_;rw[Nat.sub_zero,Nat.sub_zero,h4];omega
theorem JB (w:World) (a b:Option Addr) (la ca lb cb:Nat) (f g:Nat→T) (ha:Rd w a la ca f) (hb:Rd w b lb cb g):Calls Tryz.prog 18 #[.slice a la ca,.slice b lb cb] w fun r w'=>∃a' cap',r= .returned (.tuple #[.slice a' (iS f la g lb).1.length cap',.bool (iS f la g lb).2])∧Below w.heap.size w w'∧lI w.heap.size w' a' cap' (iS f la g lb).1:=by
 have hc:=sI w a b la ca lb cb f g 100 (by omega) (by omega) ha hb (eI f la (uT g lb) lb 0 0) QA;have e:vR 100 f la g lb (eI f la (uT g lb) lb 0 0)=iS f la g lb:=rfl
 rw[e]at hc;have hlen:=wT f la g lb
 generalize iS f la g lb=r at *;obtain⟨L,ok⟩:=r;go_enter Tryz.func18,Tryz.ntmps18;go_wp2_with (go_at_call 56;refine hc.mono ?_;rintro r w1 ⟨v,rfl,hb1,ho1⟩);refine cB (results_tmp2 rfl _ _ _) rfl ?_;obtain⟨a',cap',rfl,hout⟩:=aH ho1 (by omega);exact⟨a',cap',rfl,hb1,hout⟩
end Go.Proofs.YtncffcaabnjioaaGreat
namespace Go.Proofs.YtncffcaabnjioaaGreat
open Go.RowKit
set_option linter.unusedVariables false
theorem yZ (w:World) (lo:Nat):w.ownsRow lo 47 5 (.slice none 0 0) 0 (aF []):=⟨rfl,.inl ⟨rfl,rfl⟩⟩
theorem RB {w w':World} {b:Nat} {v0 v1 v2 v3 v4:Value} (hb:Below w.heap.size w w') (h:w.cell? ⟨b,0,none⟩=some v0∧w.cell? ⟨b,1,none⟩=some v1∧w.cell? ⟨b,2,none⟩=some v2∧w.cell? ⟨b,3,none⟩=some v3∧w.cell? ⟨b,4,none⟩=some v4):w'.cell? ⟨b,0,none⟩=some v0∧w'.cell? ⟨b,1,none⟩=some v1∧w'.cell? ⟨b,2,none⟩=some v2∧w'.cell? ⟨b,3,none⟩=some v3∧w'.cell? ⟨b,4,none⟩=some v4:=by have hl:b<w.heap.size:=cU w _ h.1;exact⟨(hb.cell (p:=⟨b,0,none⟩) hl).trans h.1,(hb.cell (p:=⟨b,1,none⟩) hl).trans h.2.1,(hb.cell (p:=⟨b,2,none⟩) hl).trans h.2.2.1,(hb.cell (p:=⟨b,3,none⟩) hl).trans h.2.2.2.1,(hb.cell (p:=⟨b,4,none⟩) hl).trans h.2.2.2.2⟩
def zS (w:World) (X:List T×Bool) (e:Ending) (w':World):Prop:=∃a' c',e= .returned (.tuple #[.slice a' X.1.length c',.bool X.2])∧Below w.heap.size w w'∧RL w' a' c' X.1
def YU (w:World) (X:List T) (e:Ending) (w':World):Prop:=∃a' c',e= .returned (.slice a' X.length c')∧Below w.heap.size w w'∧RL w' a' c' X
def YM (w:World) (v:Value) (e:Ending) (w':World):Prop:=e= .returned v∧Below w.heap.size w w'
theorem QN {w:World} {a:Option Addr} {n cap:Nat} {f g:Nat→T} (h:Rd w a n cap f) (e:∀i,i<n→f i=g i):Rd w a n cap g:=
 ⟨h.1,h.2.1,h.2.2.imp id (fun⟨b,off,h1,h2,h3⟩=>⟨b,off,h1,h2,fun i hi=>by rw[←e i hi];exact h3 i hi⟩)⟩
theorem gK (w:World) (t:T):RL (w.alloc (.cells #[.int .i64 t.c,.int .i64 t.m.x,.int .i64 t.m.y,.int .i64 t.m.d,.int .i64 t.m.e] 47)) (some ⟨w.heap.size,0,none⟩) 1 [t]:=
 QN (n:=1) (g:=lf [t]) (QO w t) (fun i hi=>by
  have h0:i=0:=by omega
  subst h0
  rfl)
theorem BS {w:World} {X:List T×Bool} {e:Ending} {w':World} (h:∃a' cap',e= .returned (.tuple #[.slice a' X.1.length cap',.bool X.2])∧Below w.heap.size w w'∧lI w.heap.size w' a' cap' X.1):zS w X e w':=by obtain⟨a',c',h1,h2,h3⟩:=h;exact⟨a',c',h1,h2,h3.1⟩
theorem EO {w:World} {X:List T×Bool} {e:Ending} {w':World} (hl:X.1.length≤400) (h:∃v,e= .returned (.tuple #[v,.bool X.2])∧Below w.heap.size w w'∧w'.ownsRow w.heap.size 47 5 v X.1.length (aF X.1)):zS w X e w':=by obtain⟨v,h1,h2,h3⟩:=h;obtain⟨a',c',rfl,h4⟩:=aH h3 (by omega);exact⟨a',c',h1,h2,h4.1⟩
theorem PP {w:World} {X:List T} {e:Ending} {w':World} (hl:X.length≤400) (h:∃v,e= .returned v∧Below w.heap.size w w'∧w'.ownsRow w.heap.size 47 5 v X.length (aF X)):YU w X e w':=by obtain⟨v,h1,h2,h3⟩:=h;obtain⟨a',c',rfl,h4⟩:=aH h3 (by omega);exact⟨a',c',h1,h2,h4.1⟩
variable {w:World} {a b:Option Addr} {ca cb:Nat} {L K:List T}
theorem ZP (ha:RL w a ca L):Calls Tryz.prog 52 #[.slice a L.length ca] w (YM w (.bool (cT L))):=eD w a L.length ca (lf L) ha
theorem ZR (ha:RL w a ca L):Calls Tryz.prog 38 #[.slice a L.length ca] w (YM w (.bool (cT L))):=gX w a L.length ca (lf L) ha
theorem eC (w:World):Calls Tryz.prog 14 #[] w (YM w (.bool true)):=by
 have h1:∀u:World,Calls Tryz.prog 29 #[] u fun e w'=>e= .returned (.slice (some ⟨u.heap.size,0,none⟩) 1 1)∧Below u.heap.size u w'∧RL w' (some ⟨u.heap.size,0,none⟩) 1 [⟨1,⟨0,0,0,0⟩⟩]:=fun u=>by go_enter Tryz.func29,Tryz.ntmps29;go_wp2;go_ret;exact⟨rfl,aC u _,gK u ⟨1,⟨0,0,0,0⟩⟩⟩
 have h2:cT [⟨1,⟨0,0,0,0⟩⟩]=true:=by decide
 go_enter Tryz.func14,Tryz.ntmps14;go_wp2_with fail;refine(h1 _).mono ?_;rintro e w1 ⟨rfl,hb1,hr1⟩;have HR1:=aA hr1
 have HB1:=aA hb1;clear hr1 hb1;go_wp2_with fail;refine(ZP HR1.out).mono ?_;rw[h2];rintro e w2 ⟨rfl,hb2⟩;go_wp2;go_ret;exact⟨rfl,aB HB1.out hb2⟩
end Go.Proofs.YtncffcaabnjioaaGreat
namespace Go.Proofs.YtncffcaabnjioaaGreat
open Go.RowKit
set_option linter.unusedVariables false
attribute [local go_sem] Oper.semAt_some
def dM (W W':World):Prop:=W.heap.size≤W'.heap.size∧∀(k:Nat) (o:Obj),W.heap[k]? =some o→o.isCells=true→W'.heap[k]? =some o
theorem uF (W:World):dM W W:=⟨Nat.le_refl _,fun _ _ h _=>h⟩
theorem cW {A B C:World} (h:dM A B) (k:dM B C):dM A C:=⟨jW h.1 k.1,fun i o hi ho=>k.2 i o (h.2 i o hi ho) ho⟩
theorem rH {w:World} (W:World) (l:Nat) (o o':Obj) (_:w.heap.size≤l) (h:W.heap[l]? =some o) (hc:o.isCells=false) (_:o.isWalk=false):dM W (W.putObj l o'):=
 ⟨by rw[World.putObj_size];exact Nat.le_refl _,fun k o2 hk hc2=>(World.putObj_heap_other (fun e=>by subst e;rw[h]at hk;cases hk;rw[hc]at hc2;cases hc2)).trans hk⟩
theorem cG (W:World) (o:Obj):dM W (W.alloc o):=⟨by simp,fun k o2 hk _=>(Below.heap_alloc W o k (Array.getElem?_eq_some_iff.1 hk).1).trans hk⟩
theorem uE (W:World):dM W W.drew:=⟨Nat.le_refl _,fun _ _ h _=>h⟩
theorem rI {W W':World} {row:Option Nat} (hg:W.grownBy W' row) (hr:∀k,row=some k→∀o,W.heap[k]? =some o→o.isCells=false):dM W W':=
 ⟨hg.size,fun k o hk hc=>(hg.block k (Array.getElem?_eq_some_iff.1 hk).1 (fun e=>by have:=hr k e.symm o hk;rw[this]at hc;cases hc)).trans hk⟩
theorem eJ {W W':World} {B:Nat} {t:TypeId} {v:Value} (h:Boxed W B t v) (hk:dM W W'):Boxed W' B t v:=hk.2 B _ h rfl
theorem WH (w:World):w.grownBy w.drew none:=⟨rfl,rfl,rfl,Nat.le_refl _,fun _ _ _=>rfl⟩
abbrev TK (lim:Nat):Type:={p:Int×Int // 0≤p.1∧p.1≤(lim:Int)∧0≤p.2∧p.2≤100}
def KW {lim:Nat} (x:TK lim):Array Value:=#[.int .i64 x.1.1,.int .i64 x.1.2]
def wy (s t k:Int):Int:=oQ (eK s k) (iH t k)
theorem qJ (a b:Int):0≤oQ a b∧oQ a b≤100:=by unfold oQ;split<;>omega
def sO (lim:Nat) (s t:Int) (k:Nat):TK lim:=⟨((if k≤lim then(k:Int)else 0),wy s t k),by
 have:=qJ (eK s k) (iH t k);refine⟨?_,?_,this.1,this.2⟩
 ·show 0≤(if k≤lim then(k:Int)else 0);split<;>omega
 ·show(if k≤lim then(k:Int)else 0)≤_
  split<;>omega⟩
def mM (lim:Nat) (s t:Int) (k:Nat):List (TK lim):=(List.range k).map (sO lim s t)
theorem xS (lim:Nat) (s t:Int) (k:Nat):mM lim s t k++[sO lim s t k]=mM lim s t (k+1):=by simp[mM,List.range_succ]
theorem MV (lim:Nat) (s t:Int) (k:Nat):(mM lim s t k).length=k:=by simp[mM]
theorem YG {n:Nat} (hn:1≤n) (l B1 B2:Nat) (s t:Int) (lim:Nat) (s0:0≤s) (s1:s≤15) (t0:0≤t) (t1:t≤15) (hl:(lim:Int)=min s t) (J Jx:List (TK lim)→World→Prop) (hJd:∀pre W,J pre W→J pre W.drew) (hY:∀pre x W,J pre W→pre.length<lim+1→YieldAt Fence.wide (n-1) Tryz.prog l (KW x) W fun e W'=>(e= .returned (.bool true)∧J (pre++[x]) W'∧dM W W')∨(e= .returned (.bool false)∧Jx (pre++[x]) W')) (W:World) (hb1:Boxed W B1 3 (.int .i64 s)) (hb2:Boxed W B2 3 (.int .i64 t)) (h0:J [] W):CallsIn Fence.wide n Tryz.prog 159 #[.func (.yield l) #[] #[],.pointer (some ⟨B1,0,none⟩),.pointer (some ⟨B2,0,none⟩)] W fun e W'=>(∃v,e= .returned v)∧((∃xs,xs=mM lim s t (lim+1)∧J xs W')∨(∃pre,True∧Jx pre W')):=by
 refine callsIn_of_wp Tryz.func159 rfl trivial ?_ rfl;simp only[Tryz.ntmps159,List.size_toArray,List.length_cons,List.length_nil,Nat.reduceAdd,Nat.reduceSub,Array.replicate_succ,Array.replicate_zero,List.push_toArray,List.append_toArray,List.nil_append,List.cons_append];have c1:=hb1.cell
 have c2:=hb2.cell
 gi_wp2
 all_goals
  gi_loopw [10] (fun v wr=>∃k:Nat,k≤lim+1∧v= .int .i64 (k:Int)∧J (mM lim s t k) wr∧Boxed wr B1 3 (.int .i64 s)∧Boxed wr B2 3 (.int .i64 t)) (fun v _=>(lim+1)-(RowKit.intOf v).toNat)
  case atStart=>
   exact⟨0,gL _,rfl,h0,hb1,hb2⟩
  case round=>
   obtain⟨k,hk,rfl,hJ,b1,b2⟩:=hrel;have c1:=b1.cell
   have c2:=b2.cell;by_cases hlt:k≤lim
   ·have hk1:(k:Int)≤s:=by omega
    have hk2:(k:Int)≤t:=by omega
    have hYk:=hY (mM lim s t k) (sO lim s t k) _ (hJd _ _ hJ) (by rw[MV];omega);rw[xS]at hYk;have ek:KW (sO lim s t k)=#[.int .i64 (k:Int),.int .i64 (wy s t k)]:=by simp[KW,sO,hlt]
    rw[ek]at hYk;have hw:oQ (eK s k) (iH t k)=wy s t k:=rfl
    obtain⟨fn,tmps,assign,body,hy,hRd⟩:=hYk
    gi_wp2_with fail
    refine(wpIn_wide (n:=n)).2 ?_
    go_region_with (first
     |(go_at_call 160;refine(TH _ _ _).mono ?_;rintro e w' ⟨rfl,hw'⟩;obtain rfl:=hw'.symm;clear hw')
     |(go_at_call 161;refine(ZD _ _ _).mono ?_;rintro e w' ⟨rfl,hw'⟩;obtain rfl:=hw'.symm;clear hw')
     |(go_at_call 74;refine(Be _ _ _).mono ?_;rw[hw];rintro e w' ⟨rfl,hw'⟩;obtain rfl:=hw'.symm;clear hw'))
    all_goals
     gi_wp2
     refine hRd.mono ?_;rintro e W3 (⟨rfl,hJ3,hk3⟩|⟨rfl,hJx3⟩)
     ·gi_wp2
      go_roundw;case rel=>exact⟨k+1,by omega,by go_num,hJ3,eJ (W:=wr.drew) b1 hk3,eJ (W:=wr.drew) b2 hk3⟩
      case measure=>simp[RowKit.intOf];omega
     ·gi_wp2
      refine cB (results_none rfl _ _ _) rfl ?_;exact⟨⟨_,rfl⟩,.inr ⟨_,trivial,hJx3⟩⟩
   ·have hk3:k=lim+1:=by omega
    subst hk3
    gi_wp2
    go_end0
    exact⟨⟨_,rfl⟩,.inl ⟨_,rfl,hJ⟩⟩
theorem xN {n:Nat} (hn:1≤n) (B1 B2:Nat) (s t:Int) (lim:Nat) (s0:0≤s) (s1:s≤15) (t0:0≤t) (t1:t≤15) (hl:(lim:Int)=min s t) (w:World) (hb1:Boxed w B1 3 (.int .i64 s)) (hb2:Boxed w B2 3 (.int .i64 t)):SeqStopsK Fence.wide n Tryz.prog 159 #[.pointer (some ⟨B1,0,none⟩),.pointer (some ⟨B2,0,none⟩)] KW dM (fun xs=>xs=mM lim s t (lim+1)) (fun _=>True) (lim+1) w:=fun l J Jx W hW hJ _ hY h0=>
 YG hn l B1 B2 s t lim s0 s1 t0 t1 hl J Jx (fun pre W h=>hJ pre W W.drew none h (WH W) (fun r e=>by cases e)) hY W ((hW.block B1 hb1.lt).trans hb1) ((hW.block B2 hb2.lt).trans hb2) h0
theorem SC {F:Fence} {n:Nat} (h7:F.fn 140) (hro:F.round=none) (s t:Int) (w:World):CallsIn F n Tryz.prog 140 #[.int .i64 s,.int .i64 t] w fun e w'=>e= .returned (.func (.func 159) #[] #[.pointer (some ⟨w.heap.size,0,none⟩),.pointer (some ⟨w.heap.size+1,0,none⟩)])∧w'=(w.alloc (.cells #[.int .i64 s] 3)).alloc (.cells #[.int .i64 t] 3):=by
 refine callsIn_of_wp Tryz.func140 rfl h7 ?_ hro;simp only[Tryz.ntmps140,List.size_toArray,List.length_cons,List.length_nil,Nat.reduceAdd,Nat.reduceSub,Array.replicate_succ,Array.replicate_zero,List.push_toArray,List.append_toArray,List.nil_append,List.cons_append]
 gi_wp2
 go_ret;exact⟨rfl,rfl⟩
end Go.Proofs.YtncffcaabnjioaaGreat
